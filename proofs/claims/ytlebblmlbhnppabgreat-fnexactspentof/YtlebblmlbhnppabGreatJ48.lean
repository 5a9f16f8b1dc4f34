/- SpentOf of the model. -/
import Derived.Test.YtlebblmlbhnppabGreatJ37
import Derived.Test.YtlebblmlbhnppabGreatJ47
namespace Go.Proofs.YtlebblmlbhnppabGreat
open Go.RowKit Go.PlainAid Go.Proofs.YtlebblmlbhnppabGreat.Bt Go.Sort
set_option linter.unusedVariables false
set_option maxRecDepth 20000
set_option maxHeartbeats 8000000 in
theorem specSpent_any (A : GtA) (g : GtV) (u : ByteArray) (w : World) (h : GtR w A g) (hs : GtS g) (hu : u.size ≤ 1048576) :
    Calls Tryz.prog 10 #[.agg #[.int .i64 g.ip, .int .i64 g.b, .int .i64 g.gt, .string g.gm, .string g.wm, .int .i64 g.rs, .slice A.x g.ps.length A.xc, .slice A.y g.ros.length A.yc, .slice A.ua g.us.length A.uc, .slice A.sa g.ss.length A.sc, .slice A.fa g.fs.length A.fc, .slice A.ra g.es.length A.rc, .int .i64 g.nx, .slice A.la g.fl.length A.lc, .slice A.ca g.co.length A.cc, .int .i64 g.nw, .int .i64 g.dr, .int .i64 g.sn], .string u] w fun e w' => e = .returned (.tuple #[.int .i64 (spN g u), .int .i64 (spC g u)]) ∧ Below w.heap.size w w' := by
  have GR : Hid (GtR w A g) := h
  have hes := hs.us
  have hss := hs.ss
  have G0 : Hid (Bx (w.alloc (.cells #[.int .i64 g.ip, .int .i64 g.b, .int .i64 g.gt, .string g.gm, .string g.wm, .int .i64 g.rs, .slice A.x g.ps.length A.xc, .slice A.y g.ros.length A.yc, .slice A.ua g.us.length A.uc, .slice A.sa g.ss.length A.sc, .slice A.fa g.fs.length A.fc, .slice A.ra g.es.length A.rc, .int .i64 g.nx, .slice A.la g.fl.length A.lc, .slice A.ca g.co.length A.cc, .int .i64 g.nw, .int .i64 g.dr, .int .i64 g.sn] 55)) w.heap.size [.int .i64 g.ip, .int .i64 g.b, .int .i64 g.gt, .string g.gm, .string g.wm, .int .i64 g.rs, .slice A.x g.ps.length A.xc, .slice A.y g.ros.length A.yc, .slice A.ua g.us.length A.uc, .slice A.sa g.ss.length A.sc, .slice A.fa g.fs.length A.fc, .slice A.ra g.es.length A.rc, .int .i64 g.nx, .slice A.la g.fl.length A.lc, .slice A.ca g.co.length A.cc, .int .i64 g.nw, .int .i64 g.dr, .int .i64 g.sn]) := Bx.new w #[.int .i64 g.ip, .int .i64 g.b, .int .i64 g.gt, .string g.gm, .string g.wm, .int .i64 g.rs, .slice A.x g.ps.length A.xc, .slice A.y g.ros.length A.yc, .slice A.ua g.us.length A.uc, .slice A.sa g.ss.length A.sc, .slice A.fa g.fs.length A.fc, .slice A.ra g.es.length A.rc, .int .i64 g.nx, .slice A.la g.fl.length A.lc, .slice A.ca g.co.length A.cc, .int .i64 g.nw, .int .i64 g.dr, .int .i64 g.sn] 55
  have X0 : Hid (Below w.heap.size w (w.alloc (.cells #[.int .i64 g.ip, .int .i64 g.b, .int .i64 g.gt, .string g.gm, .string g.wm, .int .i64 g.rs, .slice A.x g.ps.length A.xc, .slice A.y g.ros.length A.yc, .slice A.ua g.us.length A.uc, .slice A.sa g.ss.length A.sc, .slice A.fa g.fs.length A.fc, .slice A.ra g.es.length A.rc, .int .i64 g.nx, .slice A.la g.fl.length A.lc, .slice A.ca g.co.length A.cc, .int .i64 g.nw, .int .i64 g.dr, .int .i64 g.sn] 55))) := (Below.refl _ _).alloc (Nat.le_refl _) _
  by_cases hl : 65536 < u.size
  · have e1 : spN g u = 0 := by unfold spN; rw [if_pos hl]
    have e2 : spC g u = 2 := by unfold spC; rw [if_pos hl]
    rw [e1, e2]
    have hlz : (65536 : Int) < (u.size : Int) := by omega
    clear e1 e2 hl h hs
    go_enter Tryz.func10, Tryz.ntmps10
    go_wp2
    go_ret2
    exact ⟨rfl, X0.out⟩
  have e1 : spN g u = if gtB g = true then (if g.us.any (nmP u) = true then sumF (g.ss.filter (usP (ixI (nmP u) g.us))) else 0) else 0 := by unfold spN; rw [if_neg hl]
  have e2 : spC g u = if gtB g = true then (if g.us.any (nmP u) = true then 0 else 13) else 1 := by unfold spC; rw [if_neg hl]
  rw [e1, e2]
  clear e1 e2
  obtain ⟨nv, hnv⟩ : ∃ n, (if gtB g = true then (if g.us.any (nmP u) = true then sumF (g.ss.filter (usP (ixI (nmP u) g.us))) else 0) else 0) = n := ⟨_, rfl⟩
  obtain ⟨cv, hcv⟩ : ∃ n, (if gtB g = true then (if g.us.any (nmP u) = true then (0 : Int) else 13) else 1) = n := ⟨_, rfl⟩
  rw [hnv, hcv]
  have V1 : Hid (gtB g = false → nv = 0 ∧ cv = 1) := fun h => ⟨by rw [← hnv, h]; rfl, by rw [← hcv, h]; rfl⟩
  have V2 : Hid (gtB g = true → g.us.any (nmP u) = false → nv = 0 ∧ cv = 13) := fun h k => ⟨by rw [← hnv, h, k]; rfl, by rw [← hcv, h, k]; rfl⟩
  have V3 : Hid (gtB g = true → g.us.any (nmP u) = true → nv = sumF (g.ss.filter (usP (ixI (nmP u) g.us))) ∧ cv = 0) := fun h k => ⟨by rw [← hnv, h, k]; rfl, by rw [← hcv, h, k]; rfl⟩
  clear hnv hcv
  have hlz : ¬ (65536 : Int) < (u.size : Int) := by omega
  have HG : Hid (∀ w, GtR w A g → Calls Tryz.prog 16 #[.agg #[.int .i64 g.ip, .int .i64 g.b, .int .i64 g.gt, .string g.gm, .string g.wm, .int .i64 g.rs, .slice A.x g.ps.length A.xc, .slice A.y g.ros.length A.yc, .slice A.ua g.us.length A.uc, .slice A.sa g.ss.length A.sc, .slice A.fa g.fs.length A.fc, .slice A.ra g.es.length A.rc, .int .i64 g.nx, .slice A.la g.fl.length A.lc, .slice A.ca g.co.length A.cc, .int .i64 g.nw, .int .i64 g.dr, .int .i64 g.sn]] w fun e w' => e = .returned (.bool (gtB g)) ∧ Grw w w') := fun w h => specGate_any A g w h hs
  have HU : Hid (gtB g = true → (∀ s, s ∈ g.ss → 0 ≤ s.ud ∧ s.ud ≤ 1000000) ∧ g.ss.length ≤ 3) := fun hg => ⟨gt_uds hg, (gt_lensF hg).2⟩
  clear h hs hl hu
  generalize gtB g = z at HG HU V1 V2 V3
  go_enter Tryz.func10, Tryz.ntmps10
  go_wp2_with (first | (refine wpl_getO 55 rfl _ rfl w.heap.size 0 [.int .i64 g.ip, .int .i64 g.b, .int .i64 g.gt, .string g.gm, .string g.wm, .int .i64 g.rs, .slice A.x g.ps.length A.xc, .slice A.y g.ros.length A.yc, .slice A.ua g.us.length A.uc, .slice A.sa g.ss.length A.sc, .slice A.fa g.fs.length A.fc, .slice A.ra g.es.length A.rc, .int .i64 g.nx, .slice A.la g.fl.length A.lc, .slice A.ca g.co.length A.cc, .int .i64 g.nw, .int .i64 g.dr, .int .i64 g.sn] rfl G0.out rfl _ Tryz.underlying55 rfl rfl ?_) | fail)
  refine (HG.out _ (GR.out.below X0.out)).mono ?_
  rintro e w1 ⟨rfl, bx⟩
  have G1 : Hid (Bx w1 w.heap.size [.int .i64 g.ip, .int .i64 g.b, .int .i64 g.gt, .string g.gm, .string g.wm, .int .i64 g.rs, .slice A.x g.ps.length A.xc, .slice A.y g.ros.length A.yc, .slice A.ua g.us.length A.uc, .slice A.sa g.ss.length A.sc, .slice A.fa g.fs.length A.fc, .slice A.ra g.es.length A.rc, .int .i64 g.nx, .slice A.la g.fl.length A.lc, .slice A.ca g.co.length A.cc, .int .i64 g.nw, .int .i64 g.dr, .int .i64 g.sn]) := G0.out.below bx.below
  have X1 : Hid (Below w.heap.size w w1) := X0.out.trans (bx.below.mono X0.out.size)
  clear bx G0 X0 HG
  cases z with
  | false =>
    have hv : Hid (nv = 0 ∧ cv = 1) := V1.out (by simp)
    clear V1 V2 V3
    go_wp2
    go_ret2
    exact ⟨by rw [hv.out.1, hv.out.2]; rfl, X1.out⟩
  | true =>
    have V2' : Hid (g.us.any (nmP u) = false → nv = 0 ∧ cv = 13) := V2.out (by simp)
    have V3' : Hid (g.us.any (nmP u) = true → nv = sumF (g.ss.filter (usP (ixI (nmP u) g.us))) ∧ cv = 0) := V3.out (by simp)
    clear V1 V2 V3
    have HU2 : Hid ((∀ s, s ∈ g.ss → 0 ≤ s.ud ∧ s.ud ≤ 1000000) ∧ g.ss.length ≤ 3) := HU.out (by simp)
    clear HU
    go_wp2
    go_loopw [6] (fun x wr => ∃ i : Nat, i ≤ g.us.length ∧ x = .int .i64 i ∧ Hid ((g.us.take i).find? (nmP u) = none) ∧ Hid (Bx wr w.heap.size [.int .i64 g.ip, .int .i64 g.b, .int .i64 g.gt, .string g.gm, .string g.wm, .int .i64 g.rs, .slice A.x g.ps.length A.xc, .slice A.y g.ros.length A.yc, .slice A.ua g.us.length A.uc, .slice A.sa g.ss.length A.sc, .slice A.fa g.fs.length A.fc, .slice A.ra g.es.length A.rc, .int .i64 g.nx, .slice A.la g.fl.length A.lc, .slice A.ca g.co.length A.cc, .int .i64 g.nw, .int .i64 g.dr, .int .i64 g.sn]) ∧ Hid (Below w.heap.size w wr)) (fun x _ => g.us.length - (intOf x).toNat)
    case atStart => exact ⟨0, Nat.zero_le _, rfl, rfl, G1, X1⟩
    case round =>
      clear G1 X1
      obtain ⟨i, hi, rfl, HO, HB, HG⟩ := hrel
      have u8 := HB.out.cell 8 rfl
      by_cases hlt : i < g.us.length
      · obtain ⟨y, hy⟩ := at_of rfl hlt
        have hiz : (i : Int) < (g.us.length : Int) := by omega
        obtain ⟨b, off, vs, ea, hb, hvl, hR, hc⟩ := GR.out.us.at UsR.kp HG.out hy
        rw [ea] at u8
        have HY : Hid (nmP u y = true → ixI (nmP u) g.us = i ∧ g.us.any (nmP u) = true) := fun h => ⟨ixI_at hy HO.out h, List.any_eq_true.2 ⟨y, List.mem_of_getElem? hy, h⟩⟩
        have HN : Hid (nmP u y = false → (g.us.take (i + 1)).find? (nmP u) = none) := fun h => ixI_no hy HO.out h
        obtain ⟨rfl, -⟩ := hR
        have q0 : wr.cell? ⟨b, off + i * 6, none⟩ = some (.string y.nm) := hc 0 _ rfl
        have EN : Hid (nmP u y = (y.nm.toList == u.toList)) := rfl
        rw [EN.out] at HY HN
        clear ea hb hvl hc hy HO EN
        obtain ⟨t, ht⟩ : ∃ t, (y.nm.toList == u.toList) = t := ⟨_, rfl⟩
        rw [ht] at HY HN
        cases t with
        | false =>
          have htz : (y.nm.toList != u.toList) = true := by rw [bne, ht]; rfl
          have HN2 : Hid ((g.us.take (i + 1)).find? (nmP u) = none) := HN.out rfl
          clear HY HN
          go_wp2
          go_roundw
          case rel => exact ⟨i + 1, by omega, by go_num, HN2, HB, HG⟩
          case measure => simp [intOf]; omega
        | true =>
          have htz : (y.nm.toList != u.toList) = false := by rw [bne, ht]; rfl
          have HY1 : Hid (ixI (nmP u) g.us = i) := (HY.out rfl).1
          have HY2 : Hid (g.us.any (nmP u) = true) := (HY.out rfl).2
          have HV : Hid (nv = sumF (g.ss.filter (usP i)) ∧ cv = 0) := by
            have h := V3'.out HY2.out
            rw [HY1.out] at h
            exact h
          clear HY HN HY1 HY2
          go_wp2
          clear q0 u8
          go_loopw [7, 8] (fun m y wr2 => ∃ k : Nat, k ≤ g.ss.length ∧ y = .int .i64 k ∧ m = .int .i64 (sumF ((g.ss.take k).filter (usP i))) ∧ Hid (Bx wr2 w.heap.size [.int .i64 g.ip, .int .i64 g.b, .int .i64 g.gt, .string g.gm, .string g.wm, .int .i64 g.rs, .slice A.x g.ps.length A.xc, .slice A.y g.ros.length A.yc, .slice A.ua g.us.length A.uc, .slice A.sa g.ss.length A.sc, .slice A.fa g.fs.length A.fc, .slice A.ra g.es.length A.rc, .int .i64 g.nx, .slice A.la g.fl.length A.lc, .slice A.ca g.co.length A.cc, .int .i64 g.nw, .int .i64 g.dr, .int .i64 g.sn]) ∧ Hid (Below w.heap.size w wr2)) (fun _ y _ => g.ss.length - (intOf y).toNat)
          case atStart => exact ⟨0, Nat.zero_le _, rfl, rfl, HB, HG⟩
          case round =>
            clear HB HG
            obtain ⟨k, hk, rfl, rfl, HB, HG⟩ := hrel
            have u9 := HB.out.cell 9 rfl
            by_cases hkl : k < g.ss.length
            · obtain ⟨x, hx⟩ := at_of rfl hkl
              have hkz : (k : Int) < (g.ss.length : Int) := by omega
              obtain ⟨b', off', vs', ea', hb', hvl', hR', hc'⟩ := GR.out.ss.at SeR.kp HG.out hx
              rw [ea'] at u9
              have hbd := sumF_bd (L := (g.ss.take k).filter (usP i)) (fun s hs => HU2.out.1 s (List.mem_of_mem_take (List.mem_filter.1 hs).1))
              have hfl := flt_len (usP i) g.ss k
              have h3 := HU2.out.2
              have hxd := HU2.out.1 x (List.mem_of_getElem? hx)
              have HY : Hid (usP i x = true → sumF ((g.ss.take (k + 1)).filter (usP i)) = sumF ((g.ss.take k).filter (usP i)) + x.ud) := fun h => by rw [flt_yes hx h]; exact sumF_snoc _ _
              have HN : Hid (usP i x = false → sumF ((g.ss.take (k + 1)).filter (usP i)) = sumF ((g.ss.take k).filter (usP i))) := fun h => by rw [flt_no hx h]
              obtain ⟨rfl, -⟩ := hR'
              have q1 : wr.cell? ⟨b', off' + k * 10 + 1, none⟩ = some (.int .i64 x.us) := hc' 1 _ rfl
              have q6 : wr.cell? ⟨b', off' + k * 10 + 6, none⟩ = some (.int .i64 x.ud) := hc' 6 _ rfl
              have EN : Hid (usP i x = (x.us == (i : Int))) := rfl
              rw [EN.out] at HY HN
              generalize sumF ((g.ss.take k).filter (usP i)) = n0 at HY HN hbd ⊢
              have hw0 : -9223372036854775808 ≤ n0 + x.ud := by omega
              have hw1 : n0 + x.ud ≤ 9223372036854775807 := by omega
              clear ea' hb' hvl' hc' hx EN hfl
              obtain ⟨t, ht⟩ : ∃ t, (x.us == (i : Int)) = t := ⟨_, rfl⟩
              rw [ht] at HY HN
              cases t with
              | false =>
                have HN2 : Hid (sumF ((g.ss.take (k + 1)).filter (usP i)) = n0) := HN.out rfl
                clear HY HN
                go_wp2
                go_roundw
                case rel => exact ⟨k + 1, by omega, by go_num, by rw [HN2.out], HB, HG⟩
                case measure => simp [intOf]; omega
              | true =>
                have HY2 : Hid (sumF ((g.ss.take (k + 1)).filter (usP i)) = n0 + x.ud) := HY.out rfl
                clear HY HN
                go_wp2
                go_roundw
                case rel => exact ⟨k + 1, by omega, by go_num, by first | (rw [HY2.out]; done) | (rw [HY2.out]; go_num), HB, HG⟩
                case measure => simp [intOf]; omega
            · have hke : k = g.ss.length := by omega
              have hkz : ¬ ((k : Int) < (g.ss.length : Int)) := by omega
              have hvn : Hid (nv = sumF ((g.ss.take k).filter (usP i))) := by show _ = _; rw [hke, List.take_length]; exact HV.out.1
              clear hke
              generalize sumF ((g.ss.take k).filter (usP i)) = n0 at hvn ⊢
              go_wp2
              go_ret2
              exact ⟨by rw [hvn.out, HV.out.2]; rfl, HG.out⟩
      · have hie : i = g.us.length := by omega
        have hiz : ¬ ((i : Int) < (g.us.length : Int)) := by omega
        have hd : Hid (g.us.any (nmP u) = false) := by
          show _ = _
          have := find_any HO.out
          rwa [hie, List.take_length] at this
        have hv : Hid (nv = 0 ∧ cv = 13) := V2'.out hd.out
        clear HO hie hd
        go_wp2
        go_ret2
        exact ⟨by rw [hv.out.1, hv.out.2]; rfl, HG.out⟩
end Go.Proofs.YtlebblmlbhnppabGreat
