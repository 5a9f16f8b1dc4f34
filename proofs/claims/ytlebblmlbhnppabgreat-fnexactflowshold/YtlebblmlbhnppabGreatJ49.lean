/- FlowsHold of the model. -/
import Derived.Test.YtlebblmlbhnppabGreatJ37
import Derived.Test.YtlebblmlbhnppabGreatJ45
import Derived.Test.YtlebblmlbhnppabGreatJ48
namespace Go.Proofs.YtlebblmlbhnppabGreat
open Go.RowKit Go.PlainAid Go.Proofs.YtlebblmlbhnppabGreat.Bt Go.Sort
set_option linter.unusedVariables false
set_option maxRecDepth 20000
set_option maxHeartbeats 8000000 in
theorem specFlowsHold_any (A : GtA) (g : GtV) (w : World) (h : GtR w A g) (hs : GtS g) :
    Calls Tryz.prog 6 #[.agg #[.int .i64 g.ip, .int .i64 g.b, .int .i64 g.gt, .string g.gm, .string g.wm, .int .i64 g.rs, .slice A.x g.ps.length A.xc, .slice A.y g.ros.length A.yc, .slice A.ua g.us.length A.uc, .slice A.sa g.ss.length A.sc, .slice A.fa g.fs.length A.fc, .slice A.ra g.es.length A.rc, .int .i64 g.nx, .slice A.la g.fl.length A.lc, .slice A.ca g.co.length A.cc, .int .i64 g.nw, .int .i64 g.dr, .int .i64 g.sn]] w fun e w' => e = .returned (.tuple #[.bool (fhB g), .int .i64 (fhC g)]) ∧ Below w.heap.size w w' := by
  have GR : Hid (GtR w A g) := h
  have hmix : Tryz.prog.follows .mixedOrders = true := by kernel_rfl
  have hss := hs.ss
  have hfl := hs.fl
  have HG : Hid (∀ w, GtR w A g → Calls Tryz.prog 16 #[.agg #[.int .i64 g.ip, .int .i64 g.b, .int .i64 g.gt, .string g.gm, .string g.wm, .int .i64 g.rs, .slice A.x g.ps.length A.xc, .slice A.y g.ros.length A.yc, .slice A.ua g.us.length A.uc, .slice A.sa g.ss.length A.sc, .slice A.fa g.fs.length A.fc, .slice A.ra g.es.length A.rc, .int .i64 g.nx, .slice A.la g.fl.length A.lc, .slice A.ca g.co.length A.cc, .int .i64 g.nw, .int .i64 g.dr, .int .i64 g.sn]] w fun e w' => e = .returned (.bool (gtB g)) ∧ Grw w w') := fun w h => specGate_any A g w h hs
  have H7 : Hid (∀ (q : Int) w, GtR w A g → Calls Tryz.prog 17 #[.agg #[.slice A.ua g.us.length A.uc, .slice A.sa g.ss.length A.sc, .slice A.fa g.fs.length A.fc, .slice A.ra g.es.length A.rc, .int .i64 g.nx], .int .i64 q] w fun e w' => e = .returned (.int .i64 (ixI (siP q) g.ss)) ∧ Grw w w') := fun q w h => l08Session_any A g q w h.ss hs.ss
  have EB : Hid (fhB g = (gtB g && g.fl.all (fhP g.ss))) := rfl
  have EC : Hid (fhC g = if gtB g = true then 0 else 1) := rfl
  have OWN : Hid (gtB g = true → ∀ f, f ∈ g.fl → f.ow ≠ 0 → ∃ (k : Nat) (x : SessV), g.ss[k]? = some x ∧ ixI (siP f.ow) g.ss = (k : Int) ∧ g.ss.any (rtP f) = ((x.mc.toList == f.mc.toList) && (x.ip == f.si))) := fun hg f hf h0 => by
    obtain ⟨k, x, hx, hp, hi⟩ := ixI_found (ow_any (gt_owB hg) hf h0)
    exact ⟨k, x, hx, hi, rt_any (gt_seB hg) hx (by unfold siP at hp; simpa using hp)⟩
  have G0 : Hid (Bx (w.alloc (.cells #[.int .i64 g.ip, .int .i64 g.b, .int .i64 g.gt, .string g.gm, .string g.wm, .int .i64 g.rs, .slice A.x g.ps.length A.xc, .slice A.y g.ros.length A.yc, .slice A.ua g.us.length A.uc, .slice A.sa g.ss.length A.sc, .slice A.fa g.fs.length A.fc, .slice A.ra g.es.length A.rc, .int .i64 g.nx, .slice A.la g.fl.length A.lc, .slice A.ca g.co.length A.cc, .int .i64 g.nw, .int .i64 g.dr, .int .i64 g.sn] 55)) w.heap.size [.int .i64 g.ip, .int .i64 g.b, .int .i64 g.gt, .string g.gm, .string g.wm, .int .i64 g.rs, .slice A.x g.ps.length A.xc, .slice A.y g.ros.length A.yc, .slice A.ua g.us.length A.uc, .slice A.sa g.ss.length A.sc, .slice A.fa g.fs.length A.fc, .slice A.ra g.es.length A.rc, .int .i64 g.nx, .slice A.la g.fl.length A.lc, .slice A.ca g.co.length A.cc, .int .i64 g.nw, .int .i64 g.dr, .int .i64 g.sn]) := Bx.new w #[.int .i64 g.ip, .int .i64 g.b, .int .i64 g.gt, .string g.gm, .string g.wm, .int .i64 g.rs, .slice A.x g.ps.length A.xc, .slice A.y g.ros.length A.yc, .slice A.ua g.us.length A.uc, .slice A.sa g.ss.length A.sc, .slice A.fa g.fs.length A.fc, .slice A.ra g.es.length A.rc, .int .i64 g.nx, .slice A.la g.fl.length A.lc, .slice A.ca g.co.length A.cc, .int .i64 g.nw, .int .i64 g.dr, .int .i64 g.sn] 55
  have X0 : Hid (Grw w (w.alloc (.cells #[.int .i64 g.ip, .int .i64 g.b, .int .i64 g.gt, .string g.gm, .string g.wm, .int .i64 g.rs, .slice A.x g.ps.length A.xc, .slice A.y g.ros.length A.yc, .slice A.ua g.us.length A.uc, .slice A.sa g.ss.length A.sc, .slice A.fa g.fs.length A.fc, .slice A.ra g.es.length A.rc, .int .i64 g.nx, .slice A.la g.fl.length A.lc, .slice A.ca g.co.length A.cc, .int .i64 g.nw, .int .i64 g.dr, .int .i64 g.sn] 55))) := (Grw.refl _).alloc _
  rw [EB.out, EC.out]
  clear EB EC h hs
  generalize gtB g = z at HG OWN ⊢
  go_enter Tryz.func6, Tryz.ntmps6
  go_wp2_with (first | (refine wpl_getO 55 rfl _ rfl w.heap.size 0 [.int .i64 g.ip, .int .i64 g.b, .int .i64 g.gt, .string g.gm, .string g.wm, .int .i64 g.rs, .slice A.x g.ps.length A.xc, .slice A.y g.ros.length A.yc, .slice A.ua g.us.length A.uc, .slice A.sa g.ss.length A.sc, .slice A.fa g.fs.length A.fc, .slice A.ra g.es.length A.rc, .int .i64 g.nx, .slice A.la g.fl.length A.lc, .slice A.ca g.co.length A.cc, .int .i64 g.nw, .int .i64 g.dr, .int .i64 g.sn] rfl G0.out rfl _ Tryz.underlying55 rfl rfl ?_) | fail)
  refine (HG.out _ (GR.out.below X0.out.below)).mono ?_
  rintro e w1 ⟨rfl, gx⟩
  have G1 : Hid (Bx w1 w.heap.size [.int .i64 g.ip, .int .i64 g.b, .int .i64 g.gt, .string g.gm, .string g.wm, .int .i64 g.rs, .slice A.x g.ps.length A.xc, .slice A.y g.ros.length A.yc, .slice A.ua g.us.length A.uc, .slice A.sa g.ss.length A.sc, .slice A.fa g.fs.length A.fc, .slice A.ra g.es.length A.rc, .int .i64 g.nx, .slice A.la g.fl.length A.lc, .slice A.ca g.co.length A.cc, .int .i64 g.nw, .int .i64 g.dr, .int .i64 g.sn]) := G0.out.below gx.below
  have X1 : Hid (Below w.heap.size w w1) := X0.out.below.trans (gx.below.mono X0.out.below.size)
  clear gx G0 X0 HG
  cases z with
  | false =>
    go_wp2
    go_ret2
    exact ⟨rfl, X1.out⟩
  | true =>
    have OW : Hid (∀ f, f ∈ g.fl → f.ow ≠ 0 → ∃ (k : Nat) (x : SessV), g.ss[k]? = some x ∧ ixI (siP f.ow) g.ss = (k : Int) ∧ g.ss.any (rtP f) = ((x.mc.toList == f.mc.toList) && (x.ip == f.si))) := OWN.out (by simp)
    clear OWN
    go_wp2
    go_loopw [4] (fun x wr => ∃ i : Nat, i ≤ g.fl.length ∧ x = .int .i64 i ∧ Hid ((g.fl.take i).all (fhP g.ss) = true) ∧ Hid (Bx wr w.heap.size [.int .i64 g.ip, .int .i64 g.b, .int .i64 g.gt, .string g.gm, .string g.wm, .int .i64 g.rs, .slice A.x g.ps.length A.xc, .slice A.y g.ros.length A.yc, .slice A.ua g.us.length A.uc, .slice A.sa g.ss.length A.sc, .slice A.fa g.fs.length A.fc, .slice A.ra g.es.length A.rc, .int .i64 g.nx, .slice A.la g.fl.length A.lc, .slice A.ca g.co.length A.cc, .int .i64 g.nw, .int .i64 g.dr, .int .i64 g.sn]) ∧ Hid (Below w.heap.size w wr)) (fun x _ => g.fl.length - (intOf x).toNat)
    case atStart => exact ⟨0, Nat.zero_le _, rfl, by show _ = _; simp, G1, X1⟩
    case round =>
      clear G1 X1
      obtain ⟨i, hi, rfl, HO, HB, HG⟩ := hrel
      have u13 := HB.out.cell 13 rfl
      by_cases hlt : i < g.fl.length
      · obtain ⟨f, hx⟩ := at_of rfl hlt
        have hiz : (i : Int) < (g.fl.length : Int) := by omega
        obtain ⟨b, off, vs, ea, hb, hvl, hR, hc⟩ := GR.out.fl.at FR.kp HG.out hx
        rw [ea] at u13
        have hbr : w.heap.size < wr.heap.size := World.block_lt_of_cell? wr _ u13
        have HST : Hid ((g.fl.take (i + 1)).all (fhP g.ss) = fhP g.ss f) := by
          show _ = _
          rw [List.take_add_one, hx, List.all_append, HO.out]; simp
        have HNO : Hid (fhP g.ss f = false → g.fl.all (fhP g.ss) = false) := fun h => by
          rw [List.all_eq_false]
          exact ⟨f, List.mem_of_getElem? hx, by simp [h]⟩
        have HOW := OW.out f (List.mem_of_getElem? hx)
        obtain ⟨rfl, -⟩ := hR
        have q0 : wr.cell? ⟨b, off + i * 9, none⟩ = some (.int .i64 f.pr) := hc 0 _ rfl
        have q1 : wr.cell? ⟨b, off + i * 9 + 1, none⟩ = some (.string f.mc) := hc 1 _ rfl
        have q2 : wr.cell? ⟨b, off + i * 9 + 2, none⟩ = some (.int .i64 f.si) := hc 2 _ rfl
        have q3 : wr.cell? ⟨b, off + i * 9 + 3, none⟩ = some (.int .i64 f.sp) := hc 3 _ rfl
        have q4 : wr.cell? ⟨b, off + i * 9 + 4, none⟩ = some (.int .i64 f.di) := hc 4 _ rfl
        have q5 : wr.cell? ⟨b, off + i * 9 + 5, none⟩ = some (.int .i64 f.dp) := hc 5 _ rfl
        have q6 : wr.cell? ⟨b, off + i * 9 + 6, none⟩ = some (.int .i64 f.st) := hc 6 _ rfl
        have q7 : wr.cell? ⟨b, off + i * 9 + 7, none⟩ = some (.int .i64 f.un) := hc 7 _ rfl
        have q8 : wr.cell? ⟨b, off + i * 9 + 8, none⟩ = some (.int .i64 f.ow) := hc 8 _ rfl
        clear ea hb hvl hx hc HO
        have HA : Hid (Below wr.heap.size wr (wr.alloc (.cells #[.int .i64 f.pr, .string f.mc, .int .i64 f.si, .int .i64 f.sp, .int .i64 f.di, .int .i64 f.dp, .int .i64 f.st, .int .i64 f.un, .int .i64 f.ow] 68))) := (Below.refl _ _).alloc (Nat.le_refl _) _
        have HBw : Hid (Bx (wr.alloc (.cells #[.int .i64 f.pr, .string f.mc, .int .i64 f.si, .int .i64 f.sp, .int .i64 f.di, .int .i64 f.dp, .int .i64 f.st, .int .i64 f.un, .int .i64 f.ow] 68)) w.heap.size [.int .i64 g.ip, .int .i64 g.b, .int .i64 g.gt, .string g.gm, .string g.wm, .int .i64 g.rs, .slice A.x g.ps.length A.xc, .slice A.y g.ros.length A.yc, .slice A.ua g.us.length A.uc, .slice A.sa g.ss.length A.sc, .slice A.fa g.fs.length A.fc, .slice A.ra g.es.length A.rc, .int .i64 g.nx, .slice A.la g.fl.length A.lc, .slice A.ca g.co.length A.cc, .int .i64 g.nw, .int .i64 g.dr, .int .i64 g.sn]) := HB.out.below HA.out
        have HFw : Hid (Bx (wr.alloc (.cells #[.int .i64 f.pr, .string f.mc, .int .i64 f.si, .int .i64 f.sp, .int .i64 f.di, .int .i64 f.dp, .int .i64 f.st, .int .i64 f.un, .int .i64 f.ow] 68)) wr.heap.size [.int .i64 f.pr, .string f.mc, .int .i64 f.si, .int .i64 f.sp, .int .i64 f.di, .int .i64 f.dp, .int .i64 f.st, .int .i64 f.un, .int .i64 f.ow]) := Bx.new wr #[.int .i64 f.pr, .string f.mc, .int .i64 f.si, .int .i64 f.sp, .int .i64 f.di, .int .i64 f.dp, .int .i64 f.st, .int .i64 f.un, .int .i64 f.ow] 68
        have HGw : Hid (Below w.heap.size w (wr.alloc (.cells #[.int .i64 f.pr, .string f.mc, .int .i64 f.si, .int .i64 f.sp, .int .i64 f.di, .int .i64 f.dp, .int .i64 f.st, .int .i64 f.un, .int .i64 f.ow] 68))) := HG.out.trans (HA.out.mono HG.out.size)
        have EP : Hid (fhP g.ss f = ((f.ow == 0) || g.ss.any (rtP f))) := rfl
        rw [EP.out] at HST HNO
        clear EP HB
        by_cases h0 : f.ow = 0
        · have e0 : (f.ow == 0) = true := by simp [h0]
          rw [e0] at HST
          have HO2 : Hid ((g.fl.take (i + 1)).all (fhP g.ss) = true) := HST.out
          clear HST HNO h0 HOW HA HFw HG
          go_wp2
          go_roundw
          case rel => exact ⟨i + 1, by omega, by go_num, HO2, HBw, HGw⟩
          case measure => simp [intOf]; omega
        · have e0 : (f.ow == 0) = false := by simp [h0]
          rw [e0, Bool.false_or] at HST HNO
          obtain ⟨j, x, hj, hi7, hany⟩ := HOW h0
          rw [hany] at HST HNO
          have hjl : j < g.ss.length := (List.getElem?_eq_some_iff.1 hj).1
          have hjz : (j : Int) < (g.ss.length : Int) := by omega
          have hj0 : (0 : Int) ≤ (j : Int) := by omega
          have HC0 := H7.out f.ow
          rw [hi7] at HC0
          obtain ⟨b', off', vs', ea', hb', hvl', hR', hc'⟩ := GR.out.ss.at SeR.kp HGw.out hj
          have EA : Hid (A.sa = some ⟨b', off', none⟩) := ea'
          rw [ea'] at HC0
          have HC : Hid (∀ w, GtR w A g → Calls Tryz.prog 17 #[.agg #[.slice A.ua g.us.length A.uc, .slice (some ⟨b', off', none⟩) g.ss.length A.sc, .slice A.fa g.fs.length A.fc, .slice A.ra g.es.length A.rc, .int .i64 g.nx], .int .i64 f.ow] w fun e w' => e = .returned (.int .i64 (j : Int)) ∧ Grw w w') := HC0
          have hb2 : b' < (wr.alloc (.cells #[.int .i64 f.pr, .string f.mc, .int .i64 f.si, .int .i64 f.sp, .int .i64 f.di, .int .i64 f.dp, .int .i64 f.st, .int .i64 f.un, .int .i64 f.ow] 68)).heap.size := Nat.lt_of_lt_of_le hb' HGw.out.size
          obtain ⟨rfl, -⟩ := hR'
          have HXw : Hid (∀ wx, Below (wr.alloc (.cells #[.int .i64 f.pr, .string f.mc, .int .i64 f.si, .int .i64 f.sp, .int .i64 f.di, .int .i64 f.dp, .int .i64 f.st, .int .i64 f.un, .int .i64 f.ow] 68)).heap.size (wr.alloc (.cells #[.int .i64 f.pr, .string f.mc, .int .i64 f.si, .int .i64 f.sp, .int .i64 f.di, .int .i64 f.dp, .int .i64 f.st, .int .i64 f.un, .int .i64 f.ow] 68)) wx → ∀ n v, (svG x)[n]? = some v → wx.cell? ⟨b', off' + j * 10 + n, none⟩ = some v) := fun wx hbx n v hv => bkeep hbx (hc' n v hv)
          clear ea' hb' hvl' hc' HC0 h0 HOW hany hi7 hj HG HA
          obtain ⟨t1, ht1⟩ : ∃ t, (x.mc.toList == f.mc.toList) = t := ⟨_, rfl⟩
          obtain ⟨t2, ht2⟩ : ∃ t, (x.ip == f.si) = t := ⟨_, rfl⟩
          rw [ht1, ht2] at HST HNO
          obtain ⟨t, ht⟩ : ∃ t, (t1 && t2) = t := ⟨_, rfl⟩
          rw [ht] at HST HNO
          go_wp2_with fail
          clear q0 q1 q2 q3 q4 q5 q6 q7 q8 u13
          refine Rel.wp_region_rel (w := (wr.alloc (.cells #[.int .i64 f.pr, .string f.mc, .int .i64 f.si, .int .i64 f.sp, .int .i64 f.di, .int .i64 f.dp, .int .i64 f.st, .int .i64 f.un, .int .i64 f.ow] 68))) [Rel.valR 0 [] (.pointer (some ⟨w.heap.size, 8, none⟩)), Rel.valR 1 [0] (.pointer (some ⟨w.heap.size, 9, none⟩)), Rel.valR 2 [1] ((.slice (some ⟨b', off', none⟩) g.ss.length A.sc)), Rel.valR 3 [] (.pointer (some ⟨w.heap.size, 8, none⟩)), Rel.valR 4 [3] (.agg #[.slice A.ua g.us.length A.uc, .slice (some ⟨b', off', none⟩) g.ss.length A.sc, .slice A.fa g.fs.length A.fc, .slice A.ra g.es.length A.rc, .int .i64 g.nx]), Rel.valR 5 [] (.pointer (some ⟨wr.heap.size, 8, none⟩)), Rel.valR 6 [5] (.int .i64 f.ow), Rel.valR 7 [4, 6] (.int .i64 (j : Int)), Rel.valR 8 [2, 7] ((.pointer (some ⟨b', off' + j * 10, none⟩))), Rel.valR 9 [8] (.agg #[.int .i64 x.id, .int .i64 x.us, .string x.mc, .int .i64 x.ip, .int .i64 x.be, .int .i64 x.la, .int .i64 x.ud, .int .i64 x.qu, .int .i64 x.un, .int .i64 x.il]), Rel.boxR 10 [] [.int .i64 0, .int .i64 0, .string ⟨#[]⟩, .int .i64 0, .int .i64 0, .int .i64 0, .int .i64 0, .int .i64 0, .int .i64 0, .int .i64 0], Rel.putR 10 [9] [.int .i64 x.id, .int .i64 x.us, .string x.mc, .int .i64 x.ip, .int .i64 x.be, .int .i64 x.la, .int .i64 x.ud, .int .i64 x.qu, .int .i64 x.un, .int .i64 x.il]] [] [0, 1, 2, 3, 4, 5, 6, 7, 8, 9, 11] (fun b => b < (wr.alloc (.cells #[.int .i64 f.pr, .string f.mc, .int .i64 f.si, .int .i64 f.sp, .int .i64 f.di, .int .i64 f.dp, .int .i64 f.st, .int .i64 f.un, .int .i64 f.ow] 68)).heap.size) (by kernel_rfl) (by kernel_rfl) (by kernel_rfl) ?_ (fun b h => h) (fun k r hk => by cases hk) (fun j k rj rk hj => by cases hj) ?_ ?_
          · exact List.forall_mem_cons.2 ⟨Rel.valR_ok _ _ _, List.forall_mem_cons.2 ⟨Rel.valR_ok _ _ _, List.forall_mem_cons.2 ⟨Rel.valR_ok _ _ _, List.forall_mem_cons.2 ⟨Rel.valR_ok _ _ _, List.forall_mem_cons.2 ⟨Rel.valR_ok _ _ _, List.forall_mem_cons.2 ⟨Rel.valR_ok _ _ _, List.forall_mem_cons.2 ⟨Rel.valR_ok _ _ _, List.forall_mem_cons.2 ⟨Rel.valR_ok _ _ _, List.forall_mem_cons.2 ⟨Rel.valR_ok _ _ _, List.forall_mem_cons.2 ⟨Rel.valR_ok _ _ _, List.forall_mem_cons.2 ⟨Rel.boxR_ok _ _ _, List.forall_mem_cons.2 ⟨Rel.putR_ok _ _ _, List.forall_mem_nil _⟩⟩⟩⟩⟩⟩⟩⟩⟩⟩⟩⟩
          · refine (Rel.walk_cons ?s0 (Rel.walk_cons ?s1 (Rel.walk_cons ?s2 (Rel.walk_cons ?s3 (Rel.walk_cons ?s4 (Rel.walk_cons ?s5 (Rel.walk_cons ?s6 (Rel.walk_cons ?s7 (Rel.walk_cons ?s8 (Rel.walk_cons ?s9 (Rel.walk_cons ?s10 (Rel.walk_cons ?s11 Rel.walk_nil))))))))))))
            case s0 =>
              refine Rel.step_want ?_ ?_
              · rfl
              intro σ wx hK hF post hp
              go_simp
              refine Rel.yld_val ?_
              exact hp _ _ Rel.left_val
            case s1 =>
              refine Rel.step_want ?_ ?_
              · rfl
              intro σ wx hK hF post hp
              have f0 : σ 0 = .pointer (some ⟨w.heap.size, 8, none⟩) := Rel.fact_of hF (j := 0) rfl rfl
              go_simp
              refine Rel.yld_val ?_
              exact hp _ _ Rel.left_val
            case s2 =>
              refine Rel.step_want ?_ ?_
              · rfl
              intro σ wx hK hF post hp
              have f1 : σ 1 = .pointer (some ⟨w.heap.size, 9, none⟩) := Rel.fact_of hF (j := 1) rfl rfl
              have AG := HBw.out.below (Rel.keep_below hK)
              have q9 := AG.cell 9 rfl
              rw [EA.out] at q9
              go_simp
              refine Rel.yld_val ?_
              exact hp _ _ Rel.left_val
            case s3 =>
              refine Rel.step_want ?_ ?_
              · rfl
              intro σ wx hK hF post hp
              go_simp
              refine Rel.yld_val ?_
              exact hp _ _ Rel.left_val
            case s4 =>
              refine Rel.step_want ?_ ?_
              · rfl
              intro σ wx hK hF post hp
              have f3 : σ 3 = .pointer (some ⟨w.heap.size, 8, none⟩) := Rel.fact_of hF (j := 3) rfl rfl
              have AG := HBw.out.below (Rel.keep_below hK)
              have q8 := AG.cell 8 rfl
              have q9 := AG.cell 9 rfl
              have q10 := AG.cell 10 rfl
              have q11 := AG.cell 11 rfl
              have q12 := AG.cell 12 rfl
              rw [EA.out] at q9
              clear AG
              go_simp
              refine Rel.yld_val ?_
              exact hp _ _ Rel.left_val
            case s5 =>
              refine Rel.step_want ?_ ?_
              · rfl
              intro σ wx hK hF post hp
              go_simp
              refine Rel.yld_val ?_
              exact hp _ _ Rel.left_val
            case s6 =>
              refine Rel.step_want ?_ ?_
              · rfl
              intro σ wx hK hF post hp
              have f5 : σ 5 = .pointer (some ⟨wr.heap.size, 8, none⟩) := Rel.fact_of hF (j := 5) rfl rfl
              have AF := HFw.out.below (Rel.keep_below hK)
              have q8 := AF.cell 8 rfl
              go_simp
              refine Rel.yld_val ?_
              exact hp _ _ Rel.left_val
            case s7 =>
              refine Rel.step_want ?_ ?_
              · rfl
              intro σ wx hK hF post hp
              have f4 : σ 4 = .agg #[.slice A.ua g.us.length A.uc, .slice (some ⟨b', off', none⟩) g.ss.length A.sc, .slice A.fa g.fs.length A.fc, .slice A.ra g.es.length A.rc, .int .i64 g.nx] := Rel.fact_of hF (j := 4) rfl rfl
              have f6 : σ 6 = .int .i64 f.ow := Rel.fact_of hF (j := 6) rfl rfl
              go_simp
              refine Rel.yld_call ?_
              refine (HC.out _ (GR.out.below (HGw.out.trans ((Rel.keep_below hK).mono HGw.out.size)))).mono ?_
              rintro e w2 ⟨rfl, g2⟩
              exact ⟨_, rfl, hp _ _ (Rel.left_valB g2.below)⟩
            case s8 =>
              refine Rel.step_want ?_ ?_
              · rfl
              intro σ wx hK hF post hp
              have f2 : σ 2 = (.slice (some ⟨b', off', none⟩) g.ss.length A.sc) := Rel.fact_of hF (j := 2) rfl rfl
              have f7 : σ 7 = .int .i64 (j : Int) := Rel.fact_of hF (j := 7) rfl rfl
              go_simp
              refine Rel.yld_val ?_
              exact hp _ _ Rel.left_val
            case s9 =>
              refine Rel.step_want ?_ ?_
              · rfl
              intro σ wx hK hF post hp
              have f8 : σ 8 = (.pointer (some ⟨b', off' + j * 10, none⟩)) := Rel.fact_of hF (j := 8) rfl rfl
              have HX := HXw.out wx (Rel.keep_below hK)
              have s0 : wx.cell? ⟨b', off' + j * 10, none⟩ = some (.int .i64 x.id) := HX 0 _ rfl
              have s1 : wx.cell? ⟨b', off' + j * 10 + 1, none⟩ = some (.int .i64 x.us) := HX 1 _ rfl
              have s2 : wx.cell? ⟨b', off' + j * 10 + 2, none⟩ = some (.string x.mc) := HX 2 _ rfl
              have s3 : wx.cell? ⟨b', off' + j * 10 + 3, none⟩ = some (.int .i64 x.ip) := HX 3 _ rfl
              have s4 : wx.cell? ⟨b', off' + j * 10 + 4, none⟩ = some (.int .i64 x.be) := HX 4 _ rfl
              have s5 : wx.cell? ⟨b', off' + j * 10 + 5, none⟩ = some (.int .i64 x.la) := HX 5 _ rfl
              have s6 : wx.cell? ⟨b', off' + j * 10 + 6, none⟩ = some (.int .i64 x.ud) := HX 6 _ rfl
              have s7 : wx.cell? ⟨b', off' + j * 10 + 7, none⟩ = some (.int .i64 x.qu) := HX 7 _ rfl
              have s8 : wx.cell? ⟨b', off' + j * 10 + 8, none⟩ = some (.int .i64 x.un) := HX 8 _ rfl
              have s9 : wx.cell? ⟨b', off' + j * 10 + 9, none⟩ = some (.int .i64 x.il) := HX 9 _ rfl
              clear HX
              go_simp
              refine Rel.yld_val ?_
              exact hp _ _ Rel.left_val
            case s10 =>
              refine Rel.step_want ?_ ?_
              · rfl
              intro σ wx hK hF post hp
              go_simp
              refine Rel.yld_val ?_
              exact hp _ _ (Rel.left_box #[.int .i64 0, .int .i64 0, .string ⟨#[]⟩, .int .i64 0, .int .i64 0, .int .i64 0, .int .i64 0, .int .i64 0, .int .i64 0, .int .i64 0] _)
            case s11 =>
              refine Rel.step_want ?_ ?_
              · rfl
              intro σ wx hK hF post hp
              have f10 : Rel.boxF [.int .i64 0, .int .i64 0, .string ⟨#[]⟩, .int .i64 0, .int .i64 0, .int .i64 0, .int .i64 0, .int .i64 0, .int .i64 0, .int .i64 0] (σ 10) wx := Rel.fact_of hF (j := 10) rfl rfl
              have f9 : σ 9 = .agg #[.int .i64 x.id, .int .i64 x.us, .string x.mc, .int .i64 x.ip, .int .i64 x.be, .int .i64 x.la, .int .i64 x.ud, .int .i64 x.qu, .int .i64 x.un, .int .i64 x.il] := Rel.fact_of hF (j := 9) rfl rfl
              obtain ⟨q, hq, hb⟩ := f10
              refine Rel.yld_put 70 _ _ rfl (q := q) (cells := #[.int .i64 x.id, .int .i64 x.us, .string x.mc, .int .i64 x.ip, .int .i64 x.be, .int .i64 x.la, .int .i64 x.ud, .int .i64 x.qu, .int .i64 x.un, .int .i64 x.il]) ?_ ?_ hb rfl (by rfl) rfl ?_
              · go_simp
              · go_simp
              exact hp _ _ (Rel.left_put (j := 10) rfl (by decide) hq hb rfl)
          · intro σ w3 hK hF hA
            have B3 : Below (wr.alloc (.cells #[.int .i64 f.pr, .string f.mc, .int .i64 f.si, .int .i64 f.sp, .int .i64 f.di, .int .i64 f.dp, .int .i64 f.st, .int .i64 f.un, .int .i64 f.ow] 68)).heap.size (wr.alloc (.cells #[.int .i64 f.pr, .string f.mc, .int .i64 f.si, .int .i64 f.sp, .int .i64 f.di, .int .i64 f.dp, .int .i64 f.st, .int .i64 f.un, .int .i64 f.ow] 68)) w3 := Rel.keep_below hK
            have f0 : σ 0 = .pointer (some ⟨w.heap.size, 8, none⟩) := Rel.fact_of hF (j := 0) rfl rfl
            have f1 : σ 1 = .pointer (some ⟨w.heap.size, 9, none⟩) := Rel.fact_of hF (j := 1) rfl rfl
            have f2 : σ 2 = (.slice (some ⟨b', off', none⟩) g.ss.length A.sc) := Rel.fact_of hF (j := 2) rfl rfl
            have f3 : σ 3 = .pointer (some ⟨w.heap.size, 8, none⟩) := Rel.fact_of hF (j := 3) rfl rfl
            have f4 : σ 4 = .agg #[.slice A.ua g.us.length A.uc, .slice (some ⟨b', off', none⟩) g.ss.length A.sc, .slice A.fa g.fs.length A.fc, .slice A.ra g.es.length A.rc, .int .i64 g.nx] := Rel.fact_of hF (j := 4) rfl rfl
            have f5 : σ 5 = .pointer (some ⟨wr.heap.size, 8, none⟩) := Rel.fact_of hF (j := 5) rfl rfl
            have f6 : σ 6 = .int .i64 f.ow := Rel.fact_of hF (j := 6) rfl rfl
            have f7 : σ 7 = .int .i64 (j : Int) := Rel.fact_of hF (j := 7) rfl rfl
            have f8 : σ 8 = (.pointer (some ⟨b', off' + j * 10, none⟩)) := Rel.fact_of hF (j := 8) rfl rfl
            have f9 : σ 9 = .agg #[.int .i64 x.id, .int .i64 x.us, .string x.mc, .int .i64 x.ip, .int .i64 x.be, .int .i64 x.la, .int .i64 x.ud, .int .i64 x.qu, .int .i64 x.un, .int .i64 x.il] := Rel.fact_of hF (j := 9) rfl rfl
            have f11 : Rel.boxF [.int .i64 x.id, .int .i64 x.us, .string x.mc, .int .i64 x.ip, .int .i64 x.be, .int .i64 x.la, .int .i64 x.ud, .int .i64 x.qu, .int .i64 x.un, .int .i64 x.il] (σ 10) w3 := Rel.fact_of hF (j := 11) rfl rfl
            clear hF hA hK
            obtain ⟨n3, f10, N3⟩ := f11
            simp only [Rel.putAll, Nat.zero_add, Nat.reduceAdd, f0, f1, f2, f3, f4, f5, f6, f7, f8, f9, f10]
            clear f0 f1 f2 f3 f4 f5 f6 f7 f8 f9 f10
            have HB3 : Hid (Bx w3 w.heap.size [.int .i64 g.ip, .int .i64 g.b, .int .i64 g.gt, .string g.gm, .string g.wm, .int .i64 g.rs, .slice A.x g.ps.length A.xc, .slice A.y g.ros.length A.yc, .slice A.ua g.us.length A.uc, .slice A.sa g.ss.length A.sc, .slice A.fa g.fs.length A.fc, .slice A.ra g.es.length A.rc, .int .i64 g.nx, .slice A.la g.fl.length A.lc, .slice A.ca g.co.length A.cc, .int .i64 g.nw, .int .i64 g.dr, .int .i64 g.sn]) := HBw.out.below B3
            have HF3 := HFw.out.below B3
            have HG3 : Hid (Below w.heap.size w w3) := HGw.out.trans (B3.mono HGw.out.size)
            have x2 := N3.cell 2 rfl
            have x3 := N3.cell 3 rfl
            have y1 := HF3.cell 1 rfl
            have y2 := HF3.cell 2 rfl
            clear B3 HBw HFw HGw HXw N3 HF3
            cases t with
            | false =>
              have hd : Hid (g.fl.all (fhP g.ss) = false) := HNO.out rfl
              clear HNO HST
              cases t1 with
              | false =>
                have tz : (x.mc.toList != f.mc.toList) = true := by rw [bne, ht1]; rfl
                go_wp2
                go_ret2
                exact ⟨by first | (rw [hd.out]; rfl) | simp [hd.out], HG3.out⟩
              | true =>
                obtain rfl : t2 = false := by revert ht; cases t2 <;> simp
                have tz : (x.mc.toList != f.mc.toList) = false := by rw [bne, ht1]; rfl
                have tw : (x.ip != f.si) = true := by rw [bne, ht2]; rfl
                go_wp2
                go_ret2
                exact ⟨by first | (rw [hd.out]; rfl) | simp [hd.out], HG3.out⟩
            | true =>
              have HO2 : Hid ((g.fl.take (i + 1)).all (fhP g.ss) = true) := HST.out
              clear HNO HST
              obtain rfl : t1 = true := by revert ht; cases t1 <;> simp
              obtain rfl : t2 = true := by revert ht; cases t2 <;> simp
              have tz : (x.mc.toList != f.mc.toList) = false := by rw [bne, ht1]; rfl
              have tw : (x.ip != f.si) = false := by rw [bne, ht2]; rfl
              go_wp2
              go_roundw
              case rel => exact ⟨i + 1, by omega, by go_num, HO2, HB3, HG3⟩
              case measure => simp [intOf]; omega
      · have hie : i = g.fl.length := by omega
        have hiz : ¬ ((i : Int) < (g.fl.length : Int)) := by omega
        have hd : Hid (g.fl.all (fhP g.ss) = true) := by
          show _ = _
          have := HO.out
          rwa [hie, List.take_length] at this
        clear HO hie
        go_wp2
        go_ret2
        exact ⟨by first | (rw [hd.out]; rfl) | simp [hd.out], HG.out⟩
end Go.Proofs.YtlebblmlbhnppabGreat
