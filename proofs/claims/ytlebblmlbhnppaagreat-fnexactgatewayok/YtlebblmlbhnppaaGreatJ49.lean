/- BytesHold of the model. -/
import Derived.Test.YtlebblmlbhnppaaGreatJ37
import Derived.Test.YtlebblmlbhnppaaGreatJ38
import Derived.Test.YtlebblmlbhnppaaGreatJ48
namespace Go.Proofs.YtlebblmlbhnppaaGreat
open Go.RowKit Go.PlainAid Go.Proofs.YtlebblmlbhnppaaGreat.Bt Go.Sort
set_option linter.unusedVariables false
set_option maxRecDepth 20000
set_option maxHeartbeats 8000000 in
theorem specBytesHold_any (A : GtA) (g : GtV) (w : World) (h : GtR w A g) (hs : GtS g) :
    Calls Tryz.prog 32 #[.agg #[.int .i64 g.ip, .int .i64 g.b, .int .i64 g.gt, .string g.gm, .string g.wm, .int .i64 g.rs, .slice A.x g.ps.length A.xc, .slice A.y g.ros.length A.yc, .slice A.ua g.us.length A.uc, .slice A.sa g.ss.length A.sc, .slice A.fa g.fs.length A.fc, .slice A.ra g.es.length A.rc, .int .i64 g.nx, .slice A.la g.fl.length A.lc, .slice A.ca g.co.length A.cc, .int .i64 g.nw, .int .i64 g.dr, .int .i64 g.sn]] w fun e w' => e = .returned (.tuple #[.bool (bhB g), .int .i64 (bhC g)]) ∧ Below w.heap.size w w' := by
  have GR : Hid (GtR w A g) := h
  have hmix : Tryz.prog.follows .mixedOrders = true := by kernel_rfl
  have HG : Hid (∀ w, GtR w A g → Calls Tryz.prog 22 #[.agg #[.int .i64 g.ip, .int .i64 g.b, .int .i64 g.gt, .string g.gm, .string g.wm, .int .i64 g.rs, .slice A.x g.ps.length A.xc, .slice A.y g.ros.length A.yc, .slice A.ua g.us.length A.uc, .slice A.sa g.ss.length A.sc, .slice A.fa g.fs.length A.fc, .slice A.ra g.es.length A.rc, .int .i64 g.nx, .slice A.la g.fl.length A.lc, .slice A.ca g.co.length A.cc, .int .i64 g.nw, .int .i64 g.dr, .int .i64 g.sn]] w fun e w' => e = .returned (.bool (gtB g)) ∧ Grw w w') := fun w h => specGate_any A g w h hs
  have HR : Hid (gtB g = true → ∀ w, GtR w A g → Calls Tryz.prog 100 #[.slice A.ra g.es.length A.rc] w fun e w' => e = .returned (.bool (recB g.es)) ∧ Grw w w') := fun hg w h => l08Records_any _ _ _ g.es w h.es rfl (by have := (gt_lens hg).2.2; omega)
  have EB : Hid (bhB g = (gtB g && (recB g.es && g.ss.all (fun s => opnB g.es s.id)))) := rfl
  have EC : Hid (bhC g = if gtB g = true then 0 else 1) := rfl
  have G0 : Hid (Bx (w.alloc (.cells #[.int .i64 g.ip, .int .i64 g.b, .int .i64 g.gt, .string g.gm, .string g.wm, .int .i64 g.rs, .slice A.x g.ps.length A.xc, .slice A.y g.ros.length A.yc, .slice A.ua g.us.length A.uc, .slice A.sa g.ss.length A.sc, .slice A.fa g.fs.length A.fc, .slice A.ra g.es.length A.rc, .int .i64 g.nx, .slice A.la g.fl.length A.lc, .slice A.ca g.co.length A.cc, .int .i64 g.nw, .int .i64 g.dr, .int .i64 g.sn] 50)) w.heap.size [.int .i64 g.ip, .int .i64 g.b, .int .i64 g.gt, .string g.gm, .string g.wm, .int .i64 g.rs, .slice A.x g.ps.length A.xc, .slice A.y g.ros.length A.yc, .slice A.ua g.us.length A.uc, .slice A.sa g.ss.length A.sc, .slice A.fa g.fs.length A.fc, .slice A.ra g.es.length A.rc, .int .i64 g.nx, .slice A.la g.fl.length A.lc, .slice A.ca g.co.length A.cc, .int .i64 g.nw, .int .i64 g.dr, .int .i64 g.sn]) := Bx.new w #[.int .i64 g.ip, .int .i64 g.b, .int .i64 g.gt, .string g.gm, .string g.wm, .int .i64 g.rs, .slice A.x g.ps.length A.xc, .slice A.y g.ros.length A.yc, .slice A.ua g.us.length A.uc, .slice A.sa g.ss.length A.sc, .slice A.fa g.fs.length A.fc, .slice A.ra g.es.length A.rc, .int .i64 g.nx, .slice A.la g.fl.length A.lc, .slice A.ca g.co.length A.cc, .int .i64 g.nw, .int .i64 g.dr, .int .i64 g.sn] 50
  have X0 : Hid (Grw w (w.alloc (.cells #[.int .i64 g.ip, .int .i64 g.b, .int .i64 g.gt, .string g.gm, .string g.wm, .int .i64 g.rs, .slice A.x g.ps.length A.xc, .slice A.y g.ros.length A.yc, .slice A.ua g.us.length A.uc, .slice A.sa g.ss.length A.sc, .slice A.fa g.fs.length A.fc, .slice A.ra g.es.length A.rc, .int .i64 g.nx, .slice A.la g.fl.length A.lc, .slice A.ca g.co.length A.cc, .int .i64 g.nw, .int .i64 g.dr, .int .i64 g.sn] 50))) := (Grw.refl _).alloc _
  have hes := hs.es
  have hss := hs.ss
  rw [EB.out, EC.out]
  clear EB EC h hs
  generalize gtB g = z at HG HR ⊢
  generalize recB g.es = zr at HR ⊢
  go_enter Tryz.func32, Tryz.ntmps32
  go_wp2_with (first | (refine wpl_getO 50 rfl _ rfl w.heap.size 0 [.int .i64 g.ip, .int .i64 g.b, .int .i64 g.gt, .string g.gm, .string g.wm, .int .i64 g.rs, .slice A.x g.ps.length A.xc, .slice A.y g.ros.length A.yc, .slice A.ua g.us.length A.uc, .slice A.sa g.ss.length A.sc, .slice A.fa g.fs.length A.fc, .slice A.ra g.es.length A.rc, .int .i64 g.nx, .slice A.la g.fl.length A.lc, .slice A.ca g.co.length A.cc, .int .i64 g.nw, .int .i64 g.dr, .int .i64 g.sn] rfl G0.out rfl _ Tryz.underlying50 rfl rfl ?_) | fail)
  refine (HG.out _ (GR.out.below X0.out.below)).mono ?_
  rintro e w1 ⟨rfl, gx⟩
  have G1 : Hid (Bx w1 w.heap.size [.int .i64 g.ip, .int .i64 g.b, .int .i64 g.gt, .string g.gm, .string g.wm, .int .i64 g.rs, .slice A.x g.ps.length A.xc, .slice A.y g.ros.length A.yc, .slice A.ua g.us.length A.uc, .slice A.sa g.ss.length A.sc, .slice A.fa g.fs.length A.fc, .slice A.ra g.es.length A.rc, .int .i64 g.nx, .slice A.la g.fl.length A.lc, .slice A.ca g.co.length A.cc, .int .i64 g.nw, .int .i64 g.dr, .int .i64 g.sn]) := G0.out.below gx.below
  have X1 : Hid (Grw w w1) := X0.out.trans gx
  clear gx G0 X0 HG
  cases z with
  | false =>
    go_wp2
    go_ret2
    exact ⟨rfl, X1.out.below⟩
  | true =>
    have HR2 : Hid (∀ w, GtR w A g → Calls Tryz.prog 100 #[.slice A.ra g.es.length A.rc] w fun e w' => e = .returned (.bool zr) ∧ Grw w w') := HR.out (by simp)
    clear HR
    have u11 := G1.out.cell 11 rfl
    go_wp2_with fail
    refine (HR2.out _ (GR.out.below X1.out.below)).mono ?_
    rintro e w2 ⟨rfl, gx⟩
    have G2 : Hid (Bx w2 w.heap.size [.int .i64 g.ip, .int .i64 g.b, .int .i64 g.gt, .string g.gm, .string g.wm, .int .i64 g.rs, .slice A.x g.ps.length A.xc, .slice A.y g.ros.length A.yc, .slice A.ua g.us.length A.uc, .slice A.sa g.ss.length A.sc, .slice A.fa g.fs.length A.fc, .slice A.ra g.es.length A.rc, .int .i64 g.nx, .slice A.la g.fl.length A.lc, .slice A.ca g.co.length A.cc, .int .i64 g.nw, .int .i64 g.dr, .int .i64 g.sn]) := G1.out.below gx.below
    have X2 : Hid (Grw w w2) := X1.out.trans gx
    clear gx G1 X1 HR2 u11
    cases zr with
    | false =>
      go_wp2
      go_ret2
      exact ⟨by first | rfl | simp, X2.out.below⟩
    | true =>
      go_wp2
      go_loopw [4] (fun x wr => ∃ i : Nat, i ≤ g.ss.length ∧ x = .int .i64 i ∧ Hid ((g.ss.take i).all (fun s => opnB g.es s.id) = true) ∧ Hid (Bx wr w.heap.size [.int .i64 g.ip, .int .i64 g.b, .int .i64 g.gt, .string g.gm, .string g.wm, .int .i64 g.rs, .slice A.x g.ps.length A.xc, .slice A.y g.ros.length A.yc, .slice A.ua g.us.length A.uc, .slice A.sa g.ss.length A.sc, .slice A.fa g.fs.length A.fc, .slice A.ra g.es.length A.rc, .int .i64 g.nx, .slice A.la g.fl.length A.lc, .slice A.ca g.co.length A.cc, .int .i64 g.nw, .int .i64 g.dr, .int .i64 g.sn]) ∧ Hid (Grw w wr)) (fun x _ => g.ss.length - (intOf x).toNat)
      case atStart => exact ⟨0, Nat.zero_le _, rfl, by show _ = _; simp, G2, X2⟩
      case round =>
        clear G2 X2
        obtain ⟨i, hi, rfl, HO, HB, HG⟩ := hrel
        by_cases hlt : i < g.ss.length
        · obtain ⟨z, hz⟩ := at_of rfl hlt
          have hiz : (i : Int) < (g.ss.length : Int) := by omega
          have HST : Hid ((g.ss.take (i + 1)).all (fun s => opnB g.es s.id) = opnB g.es z.id) := by
            show _ = _
            rw [List.take_add_one, hz, List.all_append, HO.out]; simp
          have HNO : Hid (opnB g.es z.id = false → g.ss.all (fun s => opnB g.es s.id) = false) := fun h => by
            rw [List.all_eq_false]
            exact ⟨z, List.mem_of_getElem? hz, by simp [h]⟩
          have HZ : Hid (g.ss[i]? = some z) := hz
          clear hz HO
          have u9 := HB.out.cell 9 rfl
          go_wp2
          clear u9
          go_loopw [5, 6] (fun o y wr2 => ∃ k : Nat, k ≤ g.es.length ∧ y = .int .i64 k ∧ o = .bool (opnB (g.es.take k) z.id) ∧ Hid (Bx wr2 w.heap.size [.int .i64 g.ip, .int .i64 g.b, .int .i64 g.gt, .string g.gm, .string g.wm, .int .i64 g.rs, .slice A.x g.ps.length A.xc, .slice A.y g.ros.length A.yc, .slice A.ua g.us.length A.uc, .slice A.sa g.ss.length A.sc, .slice A.fa g.fs.length A.fc, .slice A.ra g.es.length A.rc, .int .i64 g.nx, .slice A.la g.fl.length A.lc, .slice A.ca g.co.length A.cc, .int .i64 g.nw, .int .i64 g.dr, .int .i64 g.sn]) ∧ Hid (Grw w wr2)) (fun _ y _ => g.es.length - (intOf y).toNat)
          case atStart => exact ⟨0, Nat.zero_le _, rfl, rfl, HB, HG⟩
          case round =>
            clear HB HG
            obtain ⟨k, hk, rfl, rfl, HB, HG⟩ := hrel
            have u11 := HB.out.cell 11 rfl
            by_cases hkl : k < g.es.length
            · obtain ⟨r, hr⟩ := at_of rfl hkl
              have hkz : (k : Int) < (g.es.length : Int) := by omega
              obtain ⟨b, off, vs, ea, hb, hvl, hR, hc⟩ := GR.out.es.at ReR.kp HG.out.below hr
              obtain ⟨b', off', vs', ea', hb', hvl', hR', hc'⟩ := GR.out.ss.at SeR.kp HG.out.below HZ.out
              rw [ea] at u11
              have u9 := HB.out.cell 9 rfl
              rw [ea'] at u9
              have hbr : w.heap.size < wr.heap.size := World.block_lt_of_cell? wr _ u11
              have hb2 : b' < wr.heap.size := Nat.lt_of_lt_of_le hb' HG.out.below.size
              have st := opn_step (q := z.id) hr
              clear ea ea' hvl hvl' hb hb' hr
              obtain ⟨rfl, -⟩ := hR
              obtain ⟨rfl, -⟩ := hR'
              have s0 : wr.cell? ⟨b', off' + i * 10, none⟩ = some (.int .i64 z.id) := hc' 0 _ rfl
              have q0 : wr.cell? ⟨b, off + k * 5, none⟩ = some (.int .i64 r.id) := hc 0 _ rfl
              have q1 : wr.cell? ⟨b, off + k * 5 + 1, none⟩ = some (.int .i64 r.tm) := hc 1 _ rfl
              have q2 : wr.cell? ⟨b, off + k * 5 + 2, none⟩ = some (.int .i64 r.ca) := hc 2 _ rfl
              have q3 : wr.cell? ⟨b, off + k * 5 + 3, none⟩ = some (.int .i64 r.bt) := hc 3 _ rfl
              have q4 : wr.cell? ⟨b, off + k * 5 + 4, none⟩ = some (.bool r.st) := hc 4 _ rfl
              clear hc hc'
              have HA : Hid (Below wr.heap.size wr (wr.alloc (.cells #[.int .i64 r.id, .int .i64 r.tm, .int .i64 r.ca, .int .i64 r.bt, .bool r.st] 163))) := (Below.refl _ _).alloc (Nat.le_refl _) _
              have m0 : ∀ n os, (grow ((wr.alloc (.cells #[.int .i64 r.id, .int .i64 r.tm, .int .i64 r.ca, .int .i64 r.bt, .bool r.st] 163)).drewN n) os).cell? ⟨wr.heap.size, 0, none⟩ = some (.int .i64 r.id) := fun n os => cell_grown (by simp) (by simp [go_sem]) n os
              have m4 : ∀ n os, (grow ((wr.alloc (.cells #[.int .i64 r.id, .int .i64 r.tm, .int .i64 r.ca, .int .i64 r.bt, .bool r.st] 163)).drewN n) os).cell? ⟨wr.heap.size, 4, none⟩ = some (.bool r.st) := fun n os => cell_grown (by simp) (by simp [go_sem]) n os
              have n9 : ∀ n os, (grow ((wr.alloc (.cells #[.int .i64 r.id, .int .i64 r.tm, .int .i64 r.ca, .int .i64 r.bt, .bool r.st] 163)).drewN n) os).cell? ⟨w.heap.size, 9, none⟩ = some (.slice (some ⟨b', off', none⟩) g.ss.length A.sc) := fun n os => cell_grown (by simp; omega) (bkeep HA.out u9) n os
              have n0 : ∀ n os, (grow ((wr.alloc (.cells #[.int .i64 r.id, .int .i64 r.tm, .int .i64 r.ca, .int .i64 r.bt, .bool r.st] 163)).drewN n) os).cell? ⟨b', off' + i * 10, none⟩ = some (.int .i64 z.id) := fun n os => cell_grown (by simp; omega) (bkeep HA.out s0) n os
              have HB2 : Hid (∀ nq osq, Bx (grow ((wr.alloc (.cells #[.int .i64 r.id, .int .i64 r.tm, .int .i64 r.ca, .int .i64 r.bt, .bool r.st] 163)).drewN nq) osq) w.heap.size [.int .i64 g.ip, .int .i64 g.b, .int .i64 g.gt, .string g.gm, .string g.wm, .int .i64 g.rs, .slice A.x g.ps.length A.xc, .slice A.y g.ros.length A.yc, .slice A.ua g.us.length A.uc, .slice A.sa g.ss.length A.sc, .slice A.fa g.fs.length A.fc, .slice A.ra g.es.length A.rc, .int .i64 g.nx, .slice A.la g.fl.length A.lc, .slice A.ca g.co.length A.cc, .int .i64 g.nw, .int .i64 g.dr, .int .i64 g.sn]) := fun nq osq => (HB.out.below HA.out).below (below_grow _ nq osq)
              have HG2 : Hid (∀ nq osq, Grw w (grow ((wr.alloc (.cells #[.int .i64 r.id, .int .i64 r.tm, .int .i64 r.ca, .int .i64 r.bt, .bool r.st] 163)).drewN nq) osq)) := fun nq osq => (HG.out.alloc _).trans ⟨nq, osq, rfl⟩
              clear HB HG HA
              generalize opnB (g.es.take k) z.id = o1 at st ⊢
              by_cases hid : r.id = z.id
              · have hidz : (r.id == z.id) = true := by simp [hid]
                have ST : Hid (opnB (g.es.take (k + 1)) z.id = !r.st) := by show _ = _; rw [st]; unfold opF; rw [if_pos hid]
                clear st hid
                go_wp2_with fail
                refine wp_region_quiet_grown (by assumption) (by kernel_rfl) ?_
                repeat (go_big_quiet_step (first | fail | fail))
                refine wpQuiet_nil ?_
                intro _ hw'
                obtain ⟨⟨nq, osq⟩, hw''⟩ := hw'
                subst hw''
                have m4' := m4 nq osq
                clear m0 m4 n9 n0 q0 q1 q2 q3 q4 s0 u9 u11
                go_wp2
                go_roundw
                case rel => exact ⟨k + 1, by omega, by go_num, by rw [ST.out], HB2.out nq osq, HG2.out nq osq⟩
                case measure => simp [intOf]; omega
              · have hidz : (r.id == z.id) = false := by simp [hid]
                have ST : Hid (opnB (g.es.take (k + 1)) z.id = o1) := by show _ = _; rw [st]; unfold opF; rw [if_neg hid]
                clear st hid
                go_wp2_with fail
                refine wp_region_quiet_grown (by assumption) (by kernel_rfl) ?_
                repeat (go_big_quiet_step (first | fail | fail))
                refine wpQuiet_nil ?_
                intro _ hw'
                obtain ⟨⟨nq, osq⟩, hw''⟩ := hw'
                subst hw''
                clear m0 m4 n9 n0 q0 q1 q2 q3 q4 s0 u9 u11
                go_wp2
                go_roundw
                case rel => exact ⟨k + 1, by omega, by go_num, by rw [ST.out], HB2.out nq osq, HG2.out nq osq⟩
                case measure => simp [intOf]; omega
            · have hke : k = g.es.length := by omega
              have hkz : ¬ ((k : Int) < (g.es.length : Int)) := by omega
              have EO : Hid (opnB (g.es.take k) z.id = opnB g.es z.id) := by show _ = _; rw [hke, List.take_length]
              rw [EO.out]
              clear EO hke
              generalize opnB g.es z.id = o2 at HST HNO ⊢
              cases o2 with
              | false =>
                have hd : Hid (g.ss.all (fun s => opnB g.es s.id) = false) := HNO.out rfl
                clear HNO HST
                go_wp2
                go_ret2
                exact ⟨by first | (rw [hd.out]; rfl) | simp [hd.out], HG.out.below⟩
              | true =>
                have HO2 : Hid ((g.ss.take (i + 1)).all (fun s => opnB g.es s.id) = true) := HST.out
                clear HNO HST
                go_wp2
                go_roundw
                case rel => exact ⟨i + 1, by omega, by go_num, HO2, HB, HG⟩
                case measure => simp [intOf]; omega
        · have hie : i = g.ss.length := by omega
          have hiz : ¬ ((i : Int) < (g.ss.length : Int)) := by omega
          have hd : Hid (g.ss.all (fun s => opnB g.es s.id) = true) := by
            show _ = _
            have := HO.out
            rwa [hie, List.take_length] at this
          have u9 := HB.out.cell 9 rfl
          clear HO hie
          go_wp2
          go_ret2
          exact ⟨by first | (rw [hd.out]; rfl) | simp [hd.out], HG.out.below⟩
end Go.Proofs.YtlebblmlbhnppaaGreat
