/- Login of the program. -/
import Derived.Test.YtnlepjcjakghcaaGreatDoorJ22
import Derived.Test.YtnlepjcjakghcaaGreatDoorJ23
namespace Go.Proofs.YtnlepjcjakghcaaGreatDoor
open Go.RowKit Go.PlainAid Go.Proofs.YtnlepjcjakghcaaGreatDoor.Bt Go.Sort
set_option linter.unusedVariables false
set_option maxRecDepth 20000
theorem ixI_some {V : Type} {p : V → Bool} {xs : List V} (h : ¬ ixI p xs < 0) : ∃ (m : Nat) (x : V), ixI p xs = (m : Int) ∧ xs[m]? = some x := by
  unfold ixI at h ⊢
  cases hq : xs.find? p with
  | none => rw [hq] at h; simp at h
  | some y =>
    have hlt : xs.findIdx p < xs.length := List.findIdx_lt_length_of_exists ⟨y, List.mem_of_find?_eq_some hq, List.find?_some hq⟩
    exact ⟨_, _, rfl, List.getElem?_eq_getElem hlt⟩
set_option maxHeartbeats 16000000 in
theorem implLogin_any (C : CfA) (c : CfV) (A : HuA) (h : HuV) (nm wd mc : ByteArray) (ip now : Int) (w : World) (rc : CfR w C c) (rh : HuR w A h) (hs : HuS w A h) (sc : CfSz c) (sh : HuSz h) (hK : KTab w) (hH : HTab w) (l1 : nm.size ≤ 1048576) (l2 : wd.size ≤ 1048576) (l3 : mc.size ≤ 1048576) :
    Calls Tryz.prog 9 #[.agg #[.int .i64 c.ip, .int .i64 c.b, .int .i64 c.gt, .string c.gm, .string c.wm, .int .i64 c.rs, .slice C.x c.ps.length C.xc, .slice C.y c.ros.length C.yc], .agg #[.slice A.u h.us.length A.uc, .slice A.s h.ss.length A.sc, .slice A.f h.fs.length A.fc, .slice A.r h.es.length A.rc, .int .i64 h.nx], .string nm, .string wd, .string mc, .int .i64 ip, .int .i64 now] w fun e w' => ∃ R : HuA, e = .returned (.tuple #[.agg #[.slice R.u (lgT c h nm wd mc ip now).g.us.length R.uc, .slice R.s (lgT c h nm wd mc ip now).g.ss.length R.sc, .slice R.f (lgT c h nm wd mc ip now).g.fs.length R.fc, .slice R.r (lgT c h nm wd mc ip now).g.es.length R.rc, .int .i64 (lgT c h nm wd mc ip now).g.nx], .int .i64 (lgT c h nm wd mc ip now).id, .int .i64 (lgT c h nm wd mc ip now).k]) ∧ OwnHu w' w.heap.size R (lgT c h nm wd mc ip now).g ∧ Below w.heap.size w w' := by
  have P0 : Hid (LgPB C c A h w (((w.alloc (.cells #[.int .i64 c.ip, .int .i64 c.b, .int .i64 c.gt, .string c.gm, .string c.wm, .int .i64 c.rs, .slice C.x c.ps.length C.xc, .slice C.y c.ros.length C.yc] 35)).alloc (.cells #[.slice A.u h.us.length A.uc, .slice A.s h.ss.length A.sc, .slice A.f h.fs.length A.fc, .slice A.r h.es.length A.rc, .int .i64 h.nx] 42)).alloc (.cells #[.slice none 0 0, .slice none 0 0, .slice none 0 0, .slice none 0 0, .int .i64 0] 42))) := by
    refine ⟨((Bx.new w #[.int .i64 c.ip, .int .i64 c.b, .int .i64 c.gt, .string c.gm, .string c.wm, .int .i64 c.rs, .slice C.x c.ps.length C.xc, .slice C.y c.ros.length C.yc] 35).below ((Below.refl _ _).alloc (Nat.le_refl _) _)).below ((Below.refl _ _).alloc (Nat.le_refl _) _), ?_, ?_, (((Below.refl _ _).alloc (Nat.le_refl _) _).alloc (by simp) _).alloc (by simp; omega) _⟩
    · have h := Bx.new (w.alloc (.cells #[.int .i64 c.ip, .int .i64 c.b, .int .i64 c.gt, .string c.gm, .string c.wm, .int .i64 c.rs, .slice C.x c.ps.length C.xc, .slice C.y c.ros.length C.yc] 35)) #[.slice A.u h.us.length A.uc, .slice A.s h.ss.length A.sc, .slice A.f h.fs.length A.fc, .slice A.r h.es.length A.rc, .int .i64 h.nx] 42
      rw [World.size_alloc] at h
      exact h.below ((Below.refl _ _).alloc (Nat.le_refl _) _)
    · have h := Bx.new ((w.alloc (.cells #[.int .i64 c.ip, .int .i64 c.b, .int .i64 c.gt, .string c.gm, .string c.wm, .int .i64 c.rs, .slice C.x c.ps.length C.xc, .slice C.y c.ros.length C.yc] 35)).alloc (.cells #[.slice A.u h.us.length A.uc, .slice A.s h.ss.length A.sc, .slice A.f h.fs.length A.fc, .slice A.r h.es.length A.rc, .int .i64 h.nx] 42)) #[.slice none 0 0, .slice none 0 0, .slice none 0 0, .slice none 0 0, .int .i64 0] 42
      rw [World.size_alloc, World.size_alloc] at h
      exact h
  by_cases hl : 65536 < nm.size ∨ 65536 < wd.size ∨ 65536 < mc.size
  · have e : lgT c h nm wd mc ip now = ⟨zeroHu, 0, 2⟩ := by unfold lgT; rw [if_pos hl]
    rw [e]
    clear e rc rh hs
    by_cases h1 : 65536 < nm.size
    · have z1 : (65536 : Int) < (nm.size : Int) := by omega
      go_enter Tryz.func9, Tryz.ntmps9
      go_wp2_with (first | (refine wpl_putT 42 rfl _ _ rfl (w.heap.size + 1 + 1) _ rfl rfl P0.out.2.2.1 rfl rfl rfl ?_; intro W5 hw5 R5; have B5 : Hid (Below w.heap.size w W5) := (by rw [hw5]; exact below_cells (by omega) _ _ _ P0.out.2.2.2); clear hw5) | fail)
      refine bodyPost_ret (v := .tuple #[.agg #[.slice none 0 0, .slice none 0 0, .slice none 0 0, .slice none 0 0, .int .i64 0], .int .i64 0, .int .i64 2]) (results_cell3 Tryz.results9 (w.heap.size + 1 + 1) rfl rfl rfl R5 _ Tryz.underlying42 rfl rfl) rfl ?_
      exact ⟨zeroHA, rfl, OwnHu.zero _ _, B5.out⟩
    have z1 : ¬ (65536 : Int) < (nm.size : Int) := by omega
    by_cases h2 : 65536 < wd.size
    · have z2 : (65536 : Int) < (wd.size : Int) := by omega
      go_enter Tryz.func9, Tryz.ntmps9
      go_wp2_with (first | (refine wpl_putT 42 rfl _ _ rfl (w.heap.size + 1 + 1) _ rfl rfl P0.out.2.2.1 rfl rfl rfl ?_; intro W5 hw5 R5; have B5 : Hid (Below w.heap.size w W5) := (by rw [hw5]; exact below_cells (by omega) _ _ _ P0.out.2.2.2); clear hw5) | fail)
      refine bodyPost_ret (v := .tuple #[.agg #[.slice none 0 0, .slice none 0 0, .slice none 0 0, .slice none 0 0, .int .i64 0], .int .i64 0, .int .i64 2]) (results_cell3 Tryz.results9 (w.heap.size + 1 + 1) rfl rfl rfl R5 _ Tryz.underlying42 rfl rfl) rfl ?_
      exact ⟨zeroHA, rfl, OwnHu.zero _ _, B5.out⟩
    have z2 : ¬ (65536 : Int) < (wd.size : Int) := by omega
    have z3 : (65536 : Int) < (mc.size : Int) := by omega
    go_enter Tryz.func9, Tryz.ntmps9
    go_wp2_with (first | (refine wpl_putT 42 rfl _ _ rfl (w.heap.size + 1 + 1) _ rfl rfl P0.out.2.2.1 rfl rfl rfl ?_; intro W5 hw5 R5; have B5 : Hid (Below w.heap.size w W5) := (by rw [hw5]; exact below_cells (by omega) _ _ _ P0.out.2.2.2); clear hw5) | fail)
    refine bodyPost_ret (v := .tuple #[.agg #[.slice none 0 0, .slice none 0 0, .slice none 0 0, .slice none 0 0, .int .i64 0], .int .i64 0, .int .i64 2]) (results_cell3 Tryz.results9 (w.heap.size + 1 + 1) rfl rfl rfl R5 _ Tryz.underlying42 rfl rfl) rfl ?_
    exact ⟨zeroHA, rfl, OwnHu.zero _ _, B5.out⟩
  have z1 : ¬ (65536 : Int) < (nm.size : Int) := by omega
  have z2 : ¬ (65536 : Int) < (wd.size : Int) := by omega
  have z3 : ¬ (65536 : Int) < (mc.size : Int) := by omega
  obtain ⟨X, hX⟩ : ∃ X, X = lgT c h nm wd mc ip now := ⟨_, rfl⟩
  have EF : Hid (¬ fauC (okG c h) now = 0 → X = ⟨zeroHu, 0, fauC (okG c h) now⟩) := fun hf => by rw [hX]; unfold lgT; rw [if_neg hl, if_pos hf]
  have ER : Hid (fauC (okG c h) now = 0 → (dec (mc.size = 6) && (nhB c.ip c.b ip && dec (wd.size ≤ 40))) = false → X = ⟨zeroHu, 0, 4⟩) := fun hf hq => by rw [hX]; unfold lgT; rw [if_neg hl, if_neg (not_not_intro hf), if_neg (by unfold lgQ; rw [hq]; simp)]
  have EO : Hid (fauC (okG c h) now = 0 → (dec (mc.size = 6) && (nhB c.ip c.b ip && dec (wd.size ≤ 40))) = true → X = lgO c h nm wd mc ip now ∧ (LgK c h mc ip now ∧ wd.size ≤ 40)) := fun hf hq => by
    refine ⟨?_, lgQ_yes (fau_z hf).1 (fau_z hf).2 hq⟩
    rw [hX]
    unfold lgT
    rw [if_neg hl, if_neg (not_not_intro hf), if_pos (by unfold lgQ; rw [hq])]
  rw [← hX]
  clear hX hl
  have HA : Hid (∀ wx, Below w.heap.size w wx → Calls Tryz.prog 21 #[.agg #[.int .i64 c.ip, .int .i64 c.b, .int .i64 c.gt, .string c.gm, .string c.wm, .int .i64 c.rs, .slice C.x c.ps.length C.xc, .slice C.y c.ros.length C.yc], .agg #[.slice A.u h.us.length A.uc, .slice A.s h.ss.length A.sc, .slice A.f h.fs.length A.fc, .slice A.r h.es.length A.rc, .int .i64 h.nx], .int .i64 now] wx fun e w' => e = .returned (.int .i64 (fauC (okG c h) now)) ∧ Below wx.heap.size wx w') := fun wx hb => impl_fault C c A h now wx (rc.below hb) (rh.below hb) sc sh
  have T1 : Hid (∀ w, Calls Tryz.prog 22 #[.string mc] w fun e w' => e = .returned (.bool (dec (mc.size = 6))) ∧ w' = w) := fun w => isMac_any mc w
  have T2 : Hid (∀ w, Calls Tryz.prog 23 #[.agg #[.int .i64 c.ip, .int .i64 c.b, .int .i64 c.gt, .string c.gm, .string c.wm, .int .i64 c.rs, .slice C.x c.ps.length C.xc, .slice C.y c.ros.length C.yc], .int .i64 ip] w fun e w' => e = .returned (.bool (nhB c.ip c.b ip)) ∧ Below w.heap.size w w') := fun w => (inLan_any c.ip c.b c.gt c.gm c.wm c.rs C.x C.y c.ps.length C.xc c.ros.length C.yc ip w).mono fun e w' h => ⟨h.1, h.2.below⟩
  have HO : Hid (∀ wx, Below w.heap.size w wx → Calls Tryz.prog 24 #[.agg #[.slice A.u h.us.length A.uc, .slice A.s h.ss.length A.sc, .slice A.f h.fs.length A.fc, .slice A.r h.es.length A.rc, .int .i64 h.nx]] wx fun e w' => ∃ R : HuA, e = .returned (.agg #[.slice R.u h.us.length R.uc, .slice R.s h.ss.length R.sc, .slice R.f h.fs.length R.fc, .slice R.r h.es.length R.rc, .int .i64 h.nx]) ∧ OwnHu w' wx.heap.size R h ∧ Below wx.heap.size wx w') := fun wx hb => impl_copy A h wx (hs.below hb)
  have RH : Hid (HuR w A h) := rh
  have HS : Hid (HuS w A h) := hs
  have RC : Hid (CfR w C c) := rc
  have SC : Hid (CfSz c) := sc
  have SH : Hid (HuSz h) := sh
  have HT : Hid (KTab w ∧ HTab w) := ⟨hK, hH⟩
  clear rc rh hs sc sh hK hH
  obtain ⟨f, hf9⟩ : ∃ f, f = fauC (okG c h) now := ⟨_, rfl⟩
  rw [← hf9] at HA EF ER EO
  clear hf9
  go_enter Tryz.func9, Tryz.ntmps9
  go_wp2_with (first | (refine wpl_getT 35 rfl _ rfl (w.heap.size) rfl P0.out.1 _ Tryz.underlying35 rfl rfl ?_) | (refine wpl_getT 42 rfl _ rfl (w.heap.size + 1) rfl P0.out.2.1 _ Tryz.underlying42 rfl rfl ?_) | fail)
  refine (HA.out _ P0.out.2.2.2).mono ?_
  rintro e w1 ⟨rfl, bx⟩
  have P1 : Hid (LgPB C c A h w w1) := ⟨P0.out.1.below bx, P0.out.2.1.below bx, P0.out.2.2.1.below bx, P0.out.2.2.2.trans (bx.mono P0.out.2.2.2.size)⟩
  clear bx P0 HA
  by_cases hf : ¬ f = 0
  · have hfb : (f != 0) = true := by simp [hf]
    have hX := EF.out hf
    subst hX
    clear EF ER EO HO
    go_wp2_with (first | (refine wpl_putT 42 rfl _ _ rfl (w.heap.size + 1 + 1) _ rfl rfl P1.out.2.2.1 rfl rfl rfl ?_; intro W5 hw5 R5; have B5 : Hid (Below w.heap.size w W5) := (by rw [hw5]; exact below_cells (by omega) _ _ _ P1.out.2.2.2); clear hw5) | fail)
    refine bodyPost_ret (v := .tuple #[.agg #[.slice none 0 0, .slice none 0 0, .slice none 0 0, .slice none 0 0, .int .i64 0], .int .i64 0, .int .i64 f]) (results_cell3 Tryz.results9 (w.heap.size + 1 + 1) rfl rfl rfl R5 _ Tryz.underlying42 rfl rfl) rfl ?_
    exact ⟨zeroHA, rfl, OwnHu.zero _ _, B5.out⟩
  replace hf : f = 0 := Classical.not_not.1 hf
  subst hf
  replace ER : Hid ((dec (mc.size = 6) && (nhB c.ip c.b ip && dec (wd.size ≤ 40))) = false → X = ⟨zeroHu, 0, 4⟩) := ER.out rfl
  replace EO : Hid ((dec (mc.size = 6) && (nhB c.ip c.b ip && dec (wd.size ≤ 40))) = true → X = lgO c h nm wd mc ip now ∧ (LgK c h mc ip now ∧ wd.size ≤ 40)) := EO.out rfl
  clear EF
  obtain ⟨t1, ht1⟩ : ∃ t, t = dec (mc.size = 6) := ⟨_, rfl⟩
  obtain ⟨t2, ht2⟩ : ∃ t, t = nhB c.ip c.b ip := ⟨_, rfl⟩
  rw [← ht1] at T1 ER EO
  rw [← ht2] at T2 ER EO
  clear ht1 ht2
  go_wp2_with fail
  refine (T1.out _).mono ?_
  rintro e w2 ⟨rfl, rfl⟩
  cases t1 with
  | false =>
    have hX := ER.out rfl
    subst hX
    clear ER EO HO
    go_wp2_with (first | (refine wpl_putT 42 rfl _ _ rfl (w.heap.size + 1 + 1) _ rfl rfl P1.out.2.2.1 rfl rfl rfl ?_; intro W5 hw5 R5; have B5 : Hid (Below w.heap.size w W5) := (by rw [hw5]; exact below_cells (by omega) _ _ _ P1.out.2.2.2); clear hw5) | fail)
    refine bodyPost_ret (v := .tuple #[.agg #[.slice none 0 0, .slice none 0 0, .slice none 0 0, .slice none 0 0, .int .i64 0], .int .i64 0, .int .i64 4]) (results_cell3 Tryz.results9 (w.heap.size + 1 + 1) rfl rfl rfl R5 _ Tryz.underlying42 rfl rfl) rfl ?_
    exact ⟨zeroHA, rfl, OwnHu.zero _ _, B5.out⟩
  | true =>
    go_wp2_with (first | (refine wpl_getW 35 (by rfl) _ rfl (w.heap.size) rfl P1.out.1 _ Tryz.underlying35 rfl rfl ?_) | fail)
    refine (T2.out _).mono ?_
    rintro e w2 ⟨rfl, bx⟩
    have P2 : Hid (LgPB C c A h w w2) := ⟨P1.out.1.below bx, P1.out.2.1.below bx, P1.out.2.2.1.below bx, P1.out.2.2.2.trans (bx.mono P1.out.2.2.2.size)⟩
    clear bx P1 T1 T2
    cases t2 with
    | false =>
      have hX := ER.out rfl
      subst hX
      clear ER EO HO
      go_wp2_with (first | (refine wpl_putT 42 rfl _ _ rfl (w.heap.size + 1 + 1) _ rfl rfl P2.out.2.2.1 rfl rfl rfl ?_; intro W5 hw5 R5; have B5 : Hid (Below w.heap.size w W5) := (by rw [hw5]; exact below_cells (by omega) _ _ _ P2.out.2.2.2); clear hw5) | fail)
      refine bodyPost_ret (v := .tuple #[.agg #[.slice none 0 0, .slice none 0 0, .slice none 0 0, .slice none 0 0, .int .i64 0], .int .i64 0, .int .i64 4]) (results_cell3 Tryz.results9 (w.heap.size + 1 + 1) rfl rfl rfl R5 _ Tryz.underlying42 rfl rfl) rfl ?_
      exact ⟨zeroHA, rfl, OwnHu.zero _ _, B5.out⟩
    | true =>
      by_cases hw : ¬ wd.size ≤ 40
      · have hX := ER.out (by rw [dec_n hw]; rfl)
        have zw : (40 : Int) < (wd.size : Int) := by omega
        subst hX
        clear ER EO HO
        go_wp2_with (first | (refine wpl_putT 42 rfl _ _ rfl (w.heap.size + 1 + 1) _ rfl rfl P2.out.2.2.1 rfl rfl rfl ?_; intro W5 hw5 R5; have B5 : Hid (Below w.heap.size w W5) := (by rw [hw5]; exact below_cells (by omega) _ _ _ P2.out.2.2.2); clear hw5) | fail)
        refine bodyPost_ret (v := .tuple #[.agg #[.slice none 0 0, .slice none 0 0, .slice none 0 0, .slice none 0 0, .int .i64 0], .int .i64 0, .int .i64 4]) (results_cell3 Tryz.results9 (w.heap.size + 1 + 1) rfl rfl rfl R5 _ Tryz.underlying42 rfl rfl) rfl ?_
        exact ⟨zeroHA, rfl, OwnHu.zero _ _, B5.out⟩
      replace hw : wd.size ≤ 40 := Classical.not_not.1 hw
      have zw : ¬ (40 : Int) < (wd.size : Int) := by omega
      obtain ⟨hX, hLK, -⟩ := EO.out (by rw [dec_y hw]; rfl)
      have EX : Hid (X = lgO c h nm wd mc ip now) := hX
      have LK : Hid (LgK c h mc ip now) := hLK
      clear hX hLK ER EO
      go_wp2_with (first | (refine wpl_getT 42 rfl _ rfl (w.heap.size + 1) rfl P2.out.2.1 _ Tryz.underlying42 rfl rfl ?_) | fail)
      refine (HO.out _ P2.out.2.2.2).mono ?_
      rintro e w3 ⟨R, rfl, o3, bx⟩
      obtain ⟨ru, rs, rf, rr, ruc, rsc, rfc, rrc⟩ := R
      have O3 : Own4 w3 w2.heap.size (.slice ru h.us.length ruc) (.slice rs h.ss.length rsc) (.slice rf h.fs.length rfc) (.slice rr h.es.length rrc) h.us h.ss h.fs h.es := o3
      have BN : Below w3.heap.size w3 (w3.alloc (.cells #[.slice ru h.us.length ruc, .slice rs h.ss.length rsc, .slice rf h.fs.length rfc, .slice rr h.es.length rrc, .int .i64 h.nx] 42)) := (Below.refl _ _).alloc (Nat.le_refl _) _
      have Z3 : Hid (w.heap.size + 1 + 1 < w2.heap.size ∧ w2.heap.size ≤ w3.heap.size) := ⟨bx_lt P2.out.2.2.1, bx.size⟩
      have N3 : Hid (Bx (w3.alloc (.cells #[.slice ru h.us.length ruc, .slice rs h.ss.length rsc, .slice rf h.fs.length rfc, .slice rr h.es.length rrc, .int .i64 h.nx] 42)) w3.heap.size [.slice ru h.us.length ruc, .slice rs h.ss.length rsc, .slice rf h.fs.length rfc, .slice rr h.es.length rrc, .int .i64 h.nx]) := Bx.new w3 #[.slice ru h.us.length ruc, .slice rs h.ss.length rsc, .slice rf h.fs.length rfc, .slice rr h.es.length rrc, .int .i64 h.nx] 42
      have I3 : Hid (Off w3.heap.size (.slice ru h.us.length ruc) (.slice rs h.ss.length rsc) (.slice rf h.fs.length rfc) (.slice rr h.es.length rrc)) := O3.offHigh (Nat.le_refl _)
      replace bx := bx.trans (BN.mono bx.size)
      have P3 : Hid (LgPB C c A h w (w3.alloc (.cells #[.slice ru h.us.length ruc, .slice rs h.ss.length rsc, .slice rf h.fs.length rfc, .slice rr h.es.length rrc, .int .i64 h.nx] 42))) := ⟨P2.out.1.below bx, P2.out.2.1.below bx, P2.out.2.2.1.below bx, P2.out.2.2.2.trans (bx.mono P2.out.2.2.2.size)⟩
      replace O3 : Hid (Own4 (w3.alloc (.cells #[.slice ru h.us.length ruc, .slice rs h.ss.length rsc, .slice rf h.fs.length rfc, .slice rr h.es.length rrc, .int .i64 h.nx] 42)) w2.heap.size (.slice ru h.us.length ruc) (.slice rs h.ss.length rsc) (.slice rf h.fs.length rfc) (.slice rr h.es.length rrc) h.us h.ss h.fs h.es) := Own4.now O3 BN
      clear o3 BN bx P2 HO
      have OKF : Hid (risB faB ltF h.fs = true ∧ h.fs.length ≤ 20 ∧ ∀ z, z ∈ h.fs → 0 ≤ z.ct ∧ z.ct ≤ 2) := okG_fs LK.out.ok
      have HW : Hid (∀ wx, Below w.heap.size w wx → Calls Tryz.prog 25 #[.slice A.f h.fs.length A.fc, .string mc, .int .i64 now] wx fun e w' => e = .returned (.bool (atF mc h.fs (fun x => decide (now < x.un)))) ∧ Below wx.heap.size wx w') := fun wx hb => (mustWait_any A.f h.fs.length A.fc h.fs mc now wx (RH.out.below hb).fs rfl (by have := OKF.out.2.1; omega) OKF.out.1).mono fun e w' h => ⟨h.1, h.2.below⟩
      obtain ⟨T, hT⟩ : ∃ T, T = atF mc h.fs (fun x => decide (now < x.un)) := ⟨_, rfl⟩
      have EW : Hid (T = true → X = ⟨h, 0, 14⟩) := fun hq => by rw [EX.out]; unfold lgO; rw [← hT, if_pos hq]
      have EN : Hid (T = false → (ixI (nmP nm) h.us < 0 → X = lgN h mc now) ∧ ∀ (m : Nat) (u : UserV), ixI (nmP nm) h.us = (m : Int) → h.us[m]? = some u → X = lgU c h u wd m mc ip now) := fun hq => by
        rw [EX.out]
        unfold lgO
        rw [← hT, if_neg (by rw [hq]; simp)]
        refine ⟨fun h0 => ?_, fun m u hm hu => ?_⟩
        · split
          · rw [if_pos h0]
          · rfl
        · rw [hm, show ((m : Int)).toNat = m by simp, hu]
          dsimp only
          rw [if_neg (by omega)]
      rw [← hT] at HW
      clear hT EX
      have g2 := P3.out.2.1.cell 2 rfl
      go_wp2_with fail
      refine (HW.out _ P3.out.2.2.2).mono ?_
      rintro e w4 ⟨rfl, bx⟩
      have P4 : Hid (LgPB C c A h w w4) := ⟨P3.out.1.below bx, P3.out.2.1.below bx, P3.out.2.2.1.below bx, P3.out.2.2.2.trans (bx.mono P3.out.2.2.2.size)⟩
      have N4 : Hid (Bx w4 w3.heap.size [.slice ru h.us.length ruc, .slice rs h.ss.length rsc, .slice rf h.fs.length rfc, .slice rr h.es.length rrc, .int .i64 h.nx]) := N3.out.below bx
      have O4 : Hid (Own4 w4 w2.heap.size (.slice ru h.us.length ruc) (.slice rs h.ss.length rsc) (.slice rf h.fs.length rfc) (.slice rr h.es.length rrc) h.us h.ss h.fs h.es) := Own4.now O3.out bx
      clear g2 bx P3 N3 O3 HW
      cases T with
      | true =>
        have hX := EW.out rfl
        subst hX
        clear EW EN
        go_wp2_with (first | (refine wpl_getT 42 rfl _ rfl (w3.heap.size) rfl N4.out _ Tryz.underlying42 rfl rfl ?_) | (refine wpl_putT 42 rfl _ _ rfl (w.heap.size + 1 + 1) _ rfl rfl P4.out.2.2.1 rfl rfl rfl ?_; intro WR hwR RR; have BR : Hid (Below w.heap.size w WR) := (by rw [hwR]; exact below_cells (by omega) _ _ _ P4.out.2.2.2); have OR : Hid (Own4 WR w2.heap.size (.slice ru h.us.length ruc) (.slice rs h.ss.length rsc) (.slice rf h.fs.length rfc) (.slice rr h.es.length rrc) h.us h.ss h.fs h.es) := (by rw [hwR]; exact O4.out.put (O4.out.offLow Z3.out.1) _ _); clear hwR) | fail)
        refine bodyPost_ret (v := .tuple #[.agg #[.slice ru h.us.length ruc, .slice rs h.ss.length rsc, .slice rf h.fs.length rfc, .slice rr h.es.length rrc, .int .i64 h.nx], .int .i64 0, .int .i64 14]) (results_cell3 Tryz.results9 (w.heap.size + 1 + 1) rfl rfl rfl RR _ Tryz.underlying42 rfl rfl) rfl ?_
        exact ⟨⟨ru, rs, rf, rr, ruc, rsc, rfc, rrc⟩, rfl, Own4.lower OR.out (by have := Z3.out; omega), BR.out⟩
      | false =>
        replace EN := EN.out rfl
        have EM : Hid (ixI (nmP nm) h.us < 0 → X = lgN h mc now) := EN.1
        have EY : Hid (∀ (m : Nat) (u : UserV), ixI (nmP nm) h.us = (m : Int) → h.us[m]? = some u → X = lgU c h u wd m mc ip now) := EN.2
        clear EW EN
        obtain ⟨FX, hFX⟩ : ∃ FX, FX = failX mc now h.fs := ⟨_, rfl⟩
        have HFC : Hid (∀ wx, Below w.heap.size w wx → Calls Tryz.prog 27 #[.slice A.f h.fs.length A.fc, .string mc, .int .i64 now] wx fun e w' => ∃ v, e = .returned v ∧ OwnS fvG 3 95 w' wx.heap.size v FX ∧ Below wx.heap.size wx w') := fun wx hb => by
          rw [hFX]
          exact failsCounted_any A.f h.fs.length A.fc h.fs mc now wx (HS.out.below hb).fs OKF.out.1 OKF.out.2.1 OKF.out.2.2 RH.out.ok.fs LK.out.now
        have EZ9 : lgN h mc now = ⟨⟨h.us, h.ss, FX, h.es, h.nx⟩, 0, 13⟩ := by unfold lgN; rw [hFX]
        have EZ : Hid (lgN h mc now = ⟨⟨h.us, h.ss, FX, h.es, h.nx⟩, 0, 13⟩) := EZ9
        clear EZ9
        clear hFX
        have g0 := P4.out.2.1.cell 0 rfl
        by_cases h0 : ixI (nmP nm) h.us < 0
        · have hX : X = ⟨⟨h.us, h.ss, FX, h.es, h.nx⟩, 0, 13⟩ := (EM.out h0).trans EZ.out
          have HU : Hid (∀ wx, Below w.heap.size w wx → Calls Tryz.prog 26 #[.slice A.u h.us.length A.uc, .string nm, .string wd] wx fun e w' => e = .returned (.tuple #[.int .i64 0, .bool false]) ∧ Below wx.heap.size wx w') := fun wx hb => userPlace_no A.u h.us.length A.uc h.us nm wd wx (RH.out.below hb).us rfl (by have := SH.out.us; omega) h0
          subst hX
          clear EM EY EZ h0
          go_wp2_with fail
          refine (HU.out _ P4.out.2.2.2).mono ?_
          rintro e w5 ⟨rfl, bx⟩
          have P5 : Hid (LgPB C c A h w w5) := ⟨P4.out.1.below bx, P4.out.2.1.below bx, P4.out.2.2.1.below bx, P4.out.2.2.2.trans (bx.mono P4.out.2.2.2.size)⟩
          have N5 : Hid (Bx w5 w3.heap.size [.slice ru h.us.length ruc, .slice rs h.ss.length rsc, .slice rf h.fs.length rfc, .slice rr h.es.length rrc, .int .i64 h.nx]) := N4.out.below bx
          have O5 : Hid (Own4 w5 w2.heap.size (.slice ru h.us.length ruc) (.slice rs h.ss.length rsc) (.slice rf h.fs.length rfc) (.slice rr h.es.length rrc) h.us h.ss h.fs h.es) := Own4.now O4.out bx
          clear g0 bx P4 N4 O4 HU
          have g2 := P5.out.2.1.cell 2 rfl
          go_wp2_with fail
          refine (HFC.out _ P5.out.2.2.2).mono ?_
          rintro e w6 ⟨v6, rfl, o6, bx⟩
          obtain ⟨fa, fc, rfl, -⟩ := OwnS.slice o6
          have Z5 : w3.heap.size < w5.heap.size := bx_lt N5.out
          have I6 : Hid (Off w3.heap.size (.slice ru h.us.length ruc) (.slice rs h.ss.length rsc) (.slice fa FX.length fc) (.slice rr h.es.length rrc)) := I3.out.newF (fun k e => (o6.lt k e).1) Z5
          have P6 : Hid (LgPB C c A h w w6) := ⟨P5.out.1.below bx, P5.out.2.1.below bx, P5.out.2.2.1.below bx, P5.out.2.2.2.trans (bx.mono P5.out.2.2.2.size)⟩
          have N6 : Hid (Bx w6 w3.heap.size [.slice ru h.us.length ruc, .slice rs h.ss.length rsc, .slice rf h.fs.length rfc, .slice rr h.es.length rrc, .int .i64 h.nx]) := N5.out.below bx
          have O6 : Hid (Own4 w6 w2.heap.size (.slice ru h.us.length ruc) (.slice rs h.ss.length rsc) (.slice fa FX.length fc) (.slice rr h.es.length rrc) h.us h.ss FX h.es) := Own4.newF O5.out bx o6 (by have := Z3.out; omega)
          clear g2 bx P5 N5 O5 o6 HFC I3
          go_wp2_with (first | (refine wpl_put1 39 rfl _ _ rfl (w3.heap.size) 2 _ rfl rfl N6.out rfl rfl rfl ?_; intro W7 hw7; have N7 : Hid (Bx W7 w3.heap.size [.slice ru h.us.length ruc, .slice rs h.ss.length rsc, .slice fa FX.length fc, .slice rr h.es.length rrc, .int .i64 h.nx]) := (by rw [hw7]; exact N6.out.sets _ _ _ _); have P7 : Hid (LgPB C c A h w W7) := (by rw [hw7]; exact ⟨P6.out.1.apartO _ (by have := Z3.out; omega), P6.out.2.1.apartO _ (by have := Z3.out; omega), P6.out.2.2.1.apartO _ (by have := Z3.out; omega), below_cells (by have := Z3.out; omega) _ _ _ P6.out.2.2.2⟩); have O7 : Hid (Own4 W7 w2.heap.size (.slice ru h.us.length ruc) (.slice rs h.ss.length rsc) (.slice fa FX.length fc) (.slice rr h.es.length rrc) h.us h.ss FX h.es) := (by rw [hw7]; exact O6.out.put I6.out _ _); clear hw7 N6 P6 O6) | (refine wpl_getT 42 rfl _ rfl (w3.heap.size) rfl N7.out _ Tryz.underlying42 rfl rfl ?_) | (refine wpl_putT 42 rfl _ _ rfl (w.heap.size + 1 + 1) _ rfl rfl P7.out.2.2.1 rfl rfl rfl ?_; intro WR hwR RR; have BR : Hid (Below w.heap.size w WR) := (by rw [hwR]; exact below_cells (by omega) _ _ _ P7.out.2.2.2); have OR : Hid (Own4 WR w2.heap.size (.slice ru h.us.length ruc) (.slice rs h.ss.length rsc) (.slice fa FX.length fc) (.slice rr h.es.length rrc) h.us h.ss FX h.es) := (by rw [hwR]; exact O7.out.put (O7.out.offLow Z3.out.1) _ _); clear hwR) | fail)
          refine bodyPost_ret (v := .tuple #[.agg #[.slice ru h.us.length ruc, .slice rs h.ss.length rsc, .slice fa FX.length fc, .slice rr h.es.length rrc, .int .i64 h.nx], .int .i64 0, .int .i64 13]) (results_cell3 Tryz.results9 (w.heap.size + 1 + 1) rfl rfl rfl RR _ Tryz.underlying42 rfl rfl) rfl ?_
          exact ⟨⟨ru, rs, fa, rr, ruc, rsc, fc, rrc⟩, rfl, Own4.lower OR.out (by have := Z3.out; omega), BR.out⟩
        obtain ⟨m, u, hm, hu⟩ := ixI_some h0
        have hX := EY.out m u hm hu
        have hub := okG_us LK.out.ok hu
        have HU : Hid (∀ wx, Below w.heap.size w wx → Calls Tryz.prog 26 #[.slice A.u h.us.length A.uc, .string nm, .string wd] wx fun e w' => e = .returned (.tuple #[.int .i64 (m : Int), .bool (pwB u wd)]) ∧ Below wx.heap.size wx w') := fun wx hb => userPlace_at A.u h.us.length A.uc m h.us nm wd u wx (HT.out.1.below hb) (HT.out.2.below hb) (RH.out.below hb).us rfl (by have := SH.out.us; omega) hm hu hw hub.1
        obtain ⟨K, hK9⟩ : ∃ K, K = pwB u wd := ⟨_, rfl⟩
        have EK0 : Hid (K = false → X = ⟨⟨h.us, h.ss, FX, h.es, h.nx⟩, 0, 13⟩) := fun hq => by rw [hX]; unfold lgU; rw [← hK9, if_neg (by rw [hq]; simp)]; exact EZ.out
        have EK1 : Hid (K = true → X = lgY c h u m mc ip now) := fun hq => by rw [hX]; unfold lgU; rw [← hK9, if_pos hq]
        rw [← hK9] at HU
        have HUU : Hid (h.us[m]? = some u) := hu
        have HUB : Hid (u.sa.size ≤ 40 ∧ u.ha.size = 32 ∧ roH c.ros u.ro = true ∧ (0 ≤ u.bl ∧ u.bl ≤ 1000000) ∧ (0 ≤ u.lg ∧ u.lg ≤ 1000)) := hub
        clear hX hK9 EM EY EZ hm hu hub h0
        go_wp2_with fail
        refine (HU.out _ P4.out.2.2.2).mono ?_
        rintro e w5 ⟨rfl, bx⟩
        have P5 : Hid (LgPB C c A h w w5) := ⟨P4.out.1.below bx, P4.out.2.1.below bx, P4.out.2.2.1.below bx, P4.out.2.2.2.trans (bx.mono P4.out.2.2.2.size)⟩
        have N5 : Hid (Bx w5 w3.heap.size [.slice ru h.us.length ruc, .slice rs h.ss.length rsc, .slice rf h.fs.length rfc, .slice rr h.es.length rrc, .int .i64 h.nx]) := N4.out.below bx
        have O5 : Hid (Own4 w5 w2.heap.size (.slice ru h.us.length ruc) (.slice rs h.ss.length rsc) (.slice rf h.fs.length rfc) (.slice rr h.es.length rrc) h.us h.ss h.fs h.es) := Own4.now O4.out bx
        clear g0 bx P4 N4 O4 HU
        cases K with
        | false =>
          have hX := EK0.out rfl
          subst hX
          clear EK0 EK1
          have g2 := P5.out.2.1.cell 2 rfl
          go_wp2_with fail
          refine (HFC.out _ P5.out.2.2.2).mono ?_
          rintro e w6 ⟨v6, rfl, o6, bx⟩
          obtain ⟨fa, fc, rfl, -⟩ := OwnS.slice o6
          have Z5 : w3.heap.size < w5.heap.size := bx_lt N5.out
          have I6 : Hid (Off w3.heap.size (.slice ru h.us.length ruc) (.slice rs h.ss.length rsc) (.slice fa FX.length fc) (.slice rr h.es.length rrc)) := I3.out.newF (fun k e => (o6.lt k e).1) Z5
          have P6 : Hid (LgPB C c A h w w6) := ⟨P5.out.1.below bx, P5.out.2.1.below bx, P5.out.2.2.1.below bx, P5.out.2.2.2.trans (bx.mono P5.out.2.2.2.size)⟩
          have N6 : Hid (Bx w6 w3.heap.size [.slice ru h.us.length ruc, .slice rs h.ss.length rsc, .slice rf h.fs.length rfc, .slice rr h.es.length rrc, .int .i64 h.nx]) := N5.out.below bx
          have O6 : Hid (Own4 w6 w2.heap.size (.slice ru h.us.length ruc) (.slice rs h.ss.length rsc) (.slice fa FX.length fc) (.slice rr h.es.length rrc) h.us h.ss FX h.es) := Own4.newF O5.out bx o6 (by have := Z3.out; omega)
          clear g2 bx P5 N5 O5 o6 HFC I3
          go_wp2_with (first | (refine wpl_put1 39 rfl _ _ rfl (w3.heap.size) 2 _ rfl rfl N6.out rfl rfl rfl ?_; intro W7 hw7; have N7 : Hid (Bx W7 w3.heap.size [.slice ru h.us.length ruc, .slice rs h.ss.length rsc, .slice fa FX.length fc, .slice rr h.es.length rrc, .int .i64 h.nx]) := (by rw [hw7]; exact N6.out.sets _ _ _ _); have P7 : Hid (LgPB C c A h w W7) := (by rw [hw7]; exact ⟨P6.out.1.apartO _ (by have := Z3.out; omega), P6.out.2.1.apartO _ (by have := Z3.out; omega), P6.out.2.2.1.apartO _ (by have := Z3.out; omega), below_cells (by have := Z3.out; omega) _ _ _ P6.out.2.2.2⟩); have O7 : Hid (Own4 W7 w2.heap.size (.slice ru h.us.length ruc) (.slice rs h.ss.length rsc) (.slice fa FX.length fc) (.slice rr h.es.length rrc) h.us h.ss FX h.es) := (by rw [hw7]; exact O6.out.put I6.out _ _); clear hw7 N6 P6 O6) | (refine wpl_getT 42 rfl _ rfl (w3.heap.size) rfl N7.out _ Tryz.underlying42 rfl rfl ?_) | (refine wpl_putT 42 rfl _ _ rfl (w.heap.size + 1 + 1) _ rfl rfl P7.out.2.2.1 rfl rfl rfl ?_; intro WR hwR RR; have BR : Hid (Below w.heap.size w WR) := (by rw [hwR]; exact below_cells (by omega) _ _ _ P7.out.2.2.2); have OR : Hid (Own4 WR w2.heap.size (.slice ru h.us.length ruc) (.slice rs h.ss.length rsc) (.slice fa FX.length fc) (.slice rr h.es.length rrc) h.us h.ss FX h.es) := (by rw [hwR]; exact O7.out.put (O7.out.offLow Z3.out.1) _ _); clear hwR) | fail)
          refine bodyPost_ret (v := .tuple #[.agg #[.slice ru h.us.length ruc, .slice rs h.ss.length rsc, .slice fa FX.length fc, .slice rr h.es.length rrc, .int .i64 h.nx], .int .i64 0, .int .i64 13]) (results_cell3 Tryz.results9 (w.heap.size + 1 + 1) rfl rfl rfl RR _ Tryz.underlying42 rfl rfl) rfl ?_
          exact ⟨⟨ru, rs, fa, rr, ruc, rsc, fc, rrc⟩, rfl, Own4.lower OR.out (by have := Z3.out; omega), BR.out⟩
        | true =>
          have hX := EK1.out rfl
          have EX : Hid (X = lgY c h u m mc ip now) := hX
          clear hX EK0 EK1 HFC
          obtain ⟨j, r, hr1, hr2, hrq, hrm, hri⟩ := okG_ro LK.out.ok HUB.out.2.2.1
          have HN : Hid (∀ wx, Below w.heap.size w wx → Calls Tryz.prog 28 #[.agg #[.int .i64 c.ip, .int .i64 c.b, .int .i64 c.gt, .string c.gm, .string c.wm, .int .i64 c.rs, .slice C.x c.ps.length C.xc, .slice C.y c.ros.length C.yc], .agg #[.slice A.u h.us.length A.uc, .slice A.s h.ss.length A.sc, .slice A.f h.fs.length A.fc, .slice A.r h.es.length A.rc, .int .i64 h.nx], .int .i64 (m : Int), .int .i64 now] wx fun e w' => e = .returned (.agg #[.int .i64 h.nx, .int .i64 (m : Int), .string ⟨#[]⟩, .int .i64 0, .int .i64 now, .int .i64 now, .int .i64 0, .int .i64 (min r.q u.bl), .int .i64 (now + r.m), .int .i64 r.i]) ∧ Below wx.heap.size wx w') := fun wx hb => newSession_any C c A h m j u r now wx (RC.out.below hb) (RH.out.below hb) SC.out HUU.out hr1 hr2 LK.out.now hrm
          have HB : Hid (∀ wx, Below w.heap.size w wx → Calls Tryz.prog 29 #[.agg #[.slice A.u h.us.length A.uc, .slice A.s h.ss.length A.sc, .slice A.f h.fs.length A.fc, .slice A.r h.es.length A.rc, .int .i64 h.nx], .agg #[.int .i64 h.nx, .int .i64 (m : Int), .string mc, .int .i64 ip, .int .i64 now, .int .i64 now, .int .i64 0, .int .i64 (min r.q u.bl), .int .i64 (now + r.m), .int .i64 r.i]] wx fun e w' => e = .returned (.int .i64 (lgF h u m mc ip)) ∧ Below wx.heap.size wx w') := fun wx hb => beginFault_any A h (lgS h r u m mc ip now) m u wx (RH.out.below hb) (okG_len LK.out.ok).1 (okG_len LK.out.ok).2 rfl HUU.out
          obtain ⟨F, hF9⟩ : ∃ F, F = lgF h u m mc ip := ⟨_, rfl⟩
          have EF0 : Hid (F = 0 → X = ⟨lgG h r u m mc ip now, h.nx, 0⟩ ∧ (u.lg ≠ 0 ∧ u.bl ≠ 0)) := fun hq => by
            refine ⟨?_, (lgF_zero (hF9 ▸ hq)).1⟩
            rw [EX.out]
            unfold lgY
            rw [← hF9, if_pos hq, hr1, show ((j : Int)).toNat = j by simp, hr2]
          have EF1 : Hid (¬ F = 0 → X = ⟨h, 0, F⟩) := fun hq => by
            rw [EX.out]
            unfold lgY
            rw [← hF9, if_neg hq]
          rw [← hF9] at HB
          clear hF9 EX hr1 hr2
          go_wp2_with (first | (refine wpl_getT 35 rfl _ rfl (w.heap.size) rfl P5.out.1 _ Tryz.underlying35 rfl rfl ?_) | (refine wpl_getT 42 rfl _ rfl (w.heap.size + 1) rfl P5.out.2.1 _ Tryz.underlying42 rfl rfl ?_) | fail)
          refine (HN.out _ P5.out.2.2.2).mono ?_
          rintro e w6 ⟨rfl, bx⟩
          have Z5 : w3.heap.size < w5.heap.size := bx_lt N5.out
          have J6 : Hid (Off w6.heap.size (.slice ru h.us.length ruc) (.slice rs h.ss.length rsc) (.slice rf h.fs.length rfc) (.slice rr h.es.length rrc)) := O5.out.offHigh bx.size
          have Z6 : Hid (w3.heap.size < w6.heap.size) := Nat.lt_of_lt_of_le Z5 bx.size
          have BS : Below w6.heap.size w6 (w6.alloc (.cells #[.int .i64 h.nx, .int .i64 (m : Int), .string ⟨#[]⟩, .int .i64 0, .int .i64 now, .int .i64 now, .int .i64 0, .int .i64 (min r.q u.bl), .int .i64 (now + r.m), .int .i64 r.i] 48)) := (Below.refl _ _).alloc (Nat.le_refl _) _
          have S6 : Hid (Bx (w6.alloc (.cells #[.int .i64 h.nx, .int .i64 (m : Int), .string ⟨#[]⟩, .int .i64 0, .int .i64 now, .int .i64 now, .int .i64 0, .int .i64 (min r.q u.bl), .int .i64 (now + r.m), .int .i64 r.i] 48)) w6.heap.size [.int .i64 h.nx, .int .i64 (m : Int), .string ⟨#[]⟩, .int .i64 0, .int .i64 now, .int .i64 now, .int .i64 0, .int .i64 (min r.q u.bl), .int .i64 (now + r.m), .int .i64 r.i]) := Bx.new w6 #[.int .i64 h.nx, .int .i64 (m : Int), .string ⟨#[]⟩, .int .i64 0, .int .i64 now, .int .i64 now, .int .i64 0, .int .i64 (min r.q u.bl), .int .i64 (now + r.m), .int .i64 r.i] 48
          replace bx := bx.trans (BS.mono bx.size)
          have P6 : Hid (LgPB C c A h w (w6.alloc (.cells #[.int .i64 h.nx, .int .i64 (m : Int), .string ⟨#[]⟩, .int .i64 0, .int .i64 now, .int .i64 now, .int .i64 0, .int .i64 (min r.q u.bl), .int .i64 (now + r.m), .int .i64 r.i] 48))) := ⟨P5.out.1.below bx, P5.out.2.1.below bx, P5.out.2.2.1.below bx, P5.out.2.2.2.trans (bx.mono P5.out.2.2.2.size)⟩
          have N6 : Hid (Bx (w6.alloc (.cells #[.int .i64 h.nx, .int .i64 (m : Int), .string ⟨#[]⟩, .int .i64 0, .int .i64 now, .int .i64 now, .int .i64 0, .int .i64 (min r.q u.bl), .int .i64 (now + r.m), .int .i64 r.i] 48)) w3.heap.size [.slice ru h.us.length ruc, .slice rs h.ss.length rsc, .slice rf h.fs.length rfc, .slice rr h.es.length rrc, .int .i64 h.nx]) := N5.out.below bx
          have O6 : Hid (Own4 (w6.alloc (.cells #[.int .i64 h.nx, .int .i64 (m : Int), .string ⟨#[]⟩, .int .i64 0, .int .i64 now, .int .i64 now, .int .i64 0, .int .i64 (min r.q u.bl), .int .i64 (now + r.m), .int .i64 r.i] 48)) w2.heap.size (.slice ru h.us.length ruc) (.slice rs h.ss.length rsc) (.slice rf h.fs.length rfc) (.slice rr h.es.length rrc) h.us h.ss h.fs h.es) := Own4.now O5.out bx
          clear bx BS P5 N5 O5 HN Z5
          go_wp2_with (first | (refine wpl_put1 9 rfl _ _ rfl (w6.heap.size) 2 _ rfl rfl S6.out rfl rfl rfl ?_; intro W7 hw7; have S7 : Hid (Bx W7 w6.heap.size [.int .i64 h.nx, .int .i64 (m : Int), .string mc, .int .i64 0, .int .i64 now, .int .i64 now, .int .i64 0, .int .i64 (min r.q u.bl), .int .i64 (now + r.m), .int .i64 r.i]) := (by rw [hw7]; exact S6.out.sets _ _ _ _); have P7 : Hid (LgPB C c A h w W7) := (by rw [hw7]; exact ⟨P6.out.1.apartO _ (by have := Z3.out; have := Z6.out; omega), P6.out.2.1.apartO _ (by have := Z3.out; have := Z6.out; omega), P6.out.2.2.1.apartO _ (by have := Z3.out; have := Z6.out; omega), below_cells (by have := Z3.out; have := Z6.out; omega) _ _ _ P6.out.2.2.2⟩); have N7 : Hid (Bx W7 w3.heap.size [.slice ru h.us.length ruc, .slice rs h.ss.length rsc, .slice rf h.fs.length rfc, .slice rr h.es.length rrc, .int .i64 h.nx]) := (by rw [hw7]; exact N6.out.apartO _ (by have := Z6.out; omega)); have O7 : Hid (Own4 W7 w2.heap.size (.slice ru h.us.length ruc) (.slice rs h.ss.length rsc) (.slice rf h.fs.length rfc) (.slice rr h.es.length rrc) h.us h.ss h.fs h.es) := (by rw [hw7]; exact O6.out.put J6.out _ _); clear hw7 S6 P6 N6 O6) | (refine wpl_put1 3 rfl _ _ rfl (w6.heap.size) 3 _ rfl rfl S7.out rfl rfl rfl ?_; intro W8 hw8; have S8 : Hid (Bx W8 w6.heap.size [.int .i64 h.nx, .int .i64 (m : Int), .string mc, .int .i64 ip, .int .i64 now, .int .i64 now, .int .i64 0, .int .i64 (min r.q u.bl), .int .i64 (now + r.m), .int .i64 r.i]) := (by rw [hw8]; exact S7.out.sets _ _ _ _); have P8 : Hid (LgPB C c A h w W8) := (by rw [hw8]; exact ⟨P7.out.1.apartO _ (by have := Z3.out; have := Z6.out; omega), P7.out.2.1.apartO _ (by have := Z3.out; have := Z6.out; omega), P7.out.2.2.1.apartO _ (by have := Z3.out; have := Z6.out; omega), below_cells (by have := Z3.out; have := Z6.out; omega) _ _ _ P7.out.2.2.2⟩); have N8 : Hid (Bx W8 w3.heap.size [.slice ru h.us.length ruc, .slice rs h.ss.length rsc, .slice rf h.fs.length rfc, .slice rr h.es.length rrc, .int .i64 h.nx]) := (by rw [hw8]; exact N7.out.apartO _ (by have := Z6.out; omega)); have O8 : Hid (Own4 W8 w2.heap.size (.slice ru h.us.length ruc) (.slice rs h.ss.length rsc) (.slice rf h.fs.length rfc) (.slice rr h.es.length rrc) h.us h.ss h.fs h.es) := (by rw [hw8]; exact O7.out.put J6.out _ _); clear hw8 S7 P7 N7 O7) | (refine wpl_getT 42 rfl _ rfl (w.heap.size + 1) rfl P8.out.2.1 _ Tryz.underlying42 rfl rfl ?_) | (refine wpl_getT 48 rfl _ rfl (w6.heap.size) rfl S8.out _ Tryz.underlying48 rfl rfl ?_) | fail)
          refine (HB.out _ P8.out.2.2.2).mono ?_
          rintro e w9 ⟨rfl, bx⟩
          have P9 : Hid (LgPB C c A h w w9) := ⟨P8.out.1.below bx, P8.out.2.1.below bx, P8.out.2.2.1.below bx, P8.out.2.2.2.trans (bx.mono P8.out.2.2.2.size)⟩
          have N9 : Hid (Bx w9 w3.heap.size [.slice ru h.us.length ruc, .slice rs h.ss.length rsc, .slice rf h.fs.length rfc, .slice rr h.es.length rrc, .int .i64 h.nx]) := N8.out.below bx
          have O9 : Hid (Own4 w9 w2.heap.size (.slice ru h.us.length ruc) (.slice rs h.ss.length rsc) (.slice rf h.fs.length rfc) (.slice rr h.es.length rrc) h.us h.ss h.fs h.es) := Own4.now O8.out bx
          have S9 : Hid (Bx w9 w6.heap.size [.int .i64 h.nx, .int .i64 (m : Int), .string mc, .int .i64 ip, .int .i64 now, .int .i64 now, .int .i64 0, .int .i64 (min r.q u.bl), .int .i64 (now + r.m), .int .i64 r.i]) := S8.out.below bx
          clear bx P8 N8 O8 S8 HB
          by_cases hF : ¬ F = 0
          · have hfb : (F != 0) = true := by simp [hF]
            have hX := EF1.out hF
            subst hX
            clear EF0 EF1
            go_wp2_with (first | (refine wpl_getT 42 rfl _ rfl (w3.heap.size) rfl N9.out _ Tryz.underlying42 rfl rfl ?_) | (refine wpl_putT 42 rfl _ _ rfl (w.heap.size + 1 + 1) _ rfl rfl P9.out.2.2.1 rfl rfl rfl ?_; intro WR hwR RR; have BR : Hid (Below w.heap.size w WR) := (by rw [hwR]; exact below_cells (by omega) _ _ _ P9.out.2.2.2); have OR : Hid (Own4 WR w2.heap.size (.slice ru h.us.length ruc) (.slice rs h.ss.length rsc) (.slice rf h.fs.length rfc) (.slice rr h.es.length rrc) h.us h.ss h.fs h.es) := (by rw [hwR]; exact O9.out.put (O9.out.offLow Z3.out.1) _ _); clear hwR) | fail)
            refine bodyPost_ret (v := .tuple #[.agg #[.slice ru h.us.length ruc, .slice rs h.ss.length rsc, .slice rf h.fs.length rfc, .slice rr h.es.length rrc, .int .i64 h.nx], .int .i64 0, .int .i64 F]) (results_cell3 Tryz.results9 (w.heap.size + 1 + 1) rfl rfl rfl RR _ Tryz.underlying42 rfl rfl) rfl ?_
            exact ⟨⟨ru, rs, rf, rr, ruc, rsc, rfc, rrc⟩, rfl, Own4.lower OR.out (by have := Z3.out; omega), BR.out⟩
          replace hF : F = 0 := Classical.not_not.1 hF
          obtain ⟨hX, hlg⟩ := EF0.out hF
          subst hF
          subst hX
          clear EF0 EF1
          have hub := HUB.out
          have hnx := (okG_nx LK.out.ok).1
          have hml : m < h.us.length := (List.getElem?_eq_some_iff.1 HUU.out).1
          obtain ⟨gu, hgu, hgu2, hgu3, -⟩ := O9.out.u.form (by omega)
          subst hgu
          have hw1 : IntKind.i64.wrap (h.nx + 1) = h.nx + 1 := by rw [IntKind.wrap_i64]; omega
          have hw2 : IntKind.i64.wrap (u.lg - 1) = u.lg - 1 := by rw [IntKind.wrap_i64]; omega
          have hmlz : (m : Int) < (h.us.length : Int) := by omega
          have LL : Hid (h.ss.length ≤ 3 ∧ h.es.length ≤ 60) := okG_len LK.out.ok
          obtain ⟨SL9, hSL9⟩ : ∃ L, L = h.ss ++ [lgS h r u m mc ip now] := ⟨_, rfl⟩
          obtain ⟨EL9, hEL9⟩ : ∃ L : List RecV, L = h.es ++ [⟨h.nx, now, 0, 0, false⟩] := ⟨_, rfl⟩
          have HSL9 : Hid (SL9 = h.ss ++ [lgS h r u m mc ip now]) := hSL9
          have HEL9 : Hid (EL9 = h.es ++ [⟨h.nx, now, 0, 0, false⟩]) := hEL9
          clear hSL9 hEL9
          have n4 := N9.out.cell 4 rfl
          clear RH HS RC SC SH HT
          go_wp2_with (first | (refine wpl_put1 3 rfl _ _ rfl (w3.heap.size) 4 _ rfl rfl N9.out rfl rfl rfl ?_; intro W10 hw10; have N10 : Hid (Bx W10 w3.heap.size [.slice (some ⟨gu, 0, none⟩) h.us.length ruc, .slice rs h.ss.length rsc, .slice rf h.fs.length rfc, .slice rr h.es.length rrc, .int .i64 (h.nx + 1)]) := (by rw [hw10]; exact N9.out.sets _ _ _ _); have P10 : Hid (LgPB C c A h w W10) := (by rw [hw10]; exact ⟨P9.out.1.apartO _ (by have := Z3.out; have := Z6.out; omega), P9.out.2.1.apartO _ (by have := Z3.out; have := Z6.out; omega), P9.out.2.2.1.apartO _ (by have := Z3.out; have := Z6.out; omega), below_cells (by have := Z3.out; have := Z6.out; omega) _ _ _ P9.out.2.2.2⟩); have S10 : Hid (Bx W10 w6.heap.size [.int .i64 h.nx, .int .i64 (m : Int), .string mc, .int .i64 ip, .int .i64 now, .int .i64 now, .int .i64 0, .int .i64 (min r.q u.bl), .int .i64 (now + r.m), .int .i64 r.i]) := (by rw [hw10]; exact S9.out.apartO _ (by have := Z6.out; omega)); have O10 : Hid (Own4 W10 w2.heap.size (.slice (some ⟨gu, 0, none⟩) h.us.length ruc) (.slice rs h.ss.length rsc) (.slice rf h.fs.length rfc) (.slice rr h.es.length rrc) h.us h.ss h.fs h.es) := (by rw [hw10]; exact O9.out.put I3.out _ _); clear hw10 S9 P9 N9 O9 n4; have n0 := N10.out.cell 0 rfl; obtain ⟨c5, z5⟩ := O10.out.u.cell uvG_len (j := 5) HUU.out rfl) | (refine wpl_putC 3 rfl _ _ rfl gu (m * 6 + 5) (.int .i64 (u.lg - 1)) rfl rfl (O10.out.u.there1 uvG_len HUU.out 5 (by omega)) rfl rfl ?_; intro W11 hw11; have T11 := O10.out.u.set1 uvG_len (j := 5) (y := { u with lg := u.lg - 1 }) HUU.out (by omega) rfl; rw [← hw11] at T11; have O11 : Hid (Own4 W11 w2.heap.size (.slice (some ⟨gu, 0, none⟩) h.us.length ruc) (.slice rs h.ss.length rsc) (.slice rf h.fs.length rfc) (.slice rr h.es.length rrc) (h.us.set m { u with lg := u.lg - 1 }) h.ss h.fs h.es) := O10.out.putU T11.1 T11.2; have P11 : Hid (LgPB C c A h w W11) := ⟨by rw [hw11]; exact P10.out.1.far _ _ (by show gu ≠ _; have := Z3.out; have := Z6.out; omega), by rw [hw11]; exact P10.out.2.1.far _ _ (by show gu ≠ _; have := Z3.out; have := Z6.out; omega), by rw [hw11]; exact P10.out.2.2.1.far _ _ (by show gu ≠ _; have := Z3.out; have := Z6.out; omega), P10.out.2.2.2.grown T11.2 P10.out.2.2.2.size (fun z hz => by cases hz; have := Z3.out; have := Z6.out; omega)⟩; have N11 : Hid (Bx W11 w3.heap.size [.slice (some ⟨gu, 0, none⟩) h.us.length ruc, .slice rs h.ss.length rsc, .slice rf h.fs.length rfc, .slice rr h.es.length rrc, .int .i64 (h.nx + 1)]) := (by rw [hw11]; exact N10.out.far _ _ (I3.out gu (.inl rfl))); have S11 : Hid (Bx W11 w6.heap.size [.int .i64 h.nx, .int .i64 (m : Int), .string mc, .int .i64 ip, .int .i64 now, .int .i64 now, .int .i64 0, .int .i64 (min r.q u.bl), .int .i64 (now + r.m), .int .i64 r.i]) := (by rw [hw11]; exact S10.out.far _ _ (J6.out gu (.inl rfl))); clear hw11 T11 O10 P10 N10 S10 n0 c5 z5; have n1 := N11.out.cell 1 rfl) | (at_builtin; refine wpl_SessionW _ rfl _ _ rfl w2.heap.size _ h.ss [lgS h r u m mc ip now] rfl (O11.out.s.now ((Below.refl _ _).alloc (Nat.le_refl _) _)) (W11.heap.size) 0 1 1 rfl rfl (fun j9 u9 hu9 => by rw [Nat.zero_add]; exact (Bx.new W11 #[.int .i64 h.nx, .int .i64 (m : Int), .string mc, .int .i64 ip, .int .i64 now, .int .i64 now, .int .i64 0, .int .i64 (min r.q u.bl), .int .i64 (now + r.m), .int .i64 r.i] 48).cell j9 (by rw [flatS_one] at hu9; exact hu9)) (by have := LL.out; simp; omega) (by have := bx_lt N11.out; have := Z3.out; simp; omega) ?_; intro v9 W12 o9 hg9 hw9; rw [← HSL9.out] at o9; have BA9 : Below W11.heap.size W11 (W11.alloc (.cells #[.int .i64 h.nx, .int .i64 (m : Int), .string mc, .int .i64 ip, .int .i64 now, .int .i64 now, .int .i64 0, .int .i64 (min r.q u.bl), .int .i64 (now + r.m), .int .i64 r.i] 48)) := ((Below.refl _ _).alloc (Nat.le_refl _) _); have q39 := bx_lt N11.out; have q69 := bx_lt S11.out; have sz9 : (W11.alloc (.cells #[.int .i64 h.nx, .int .i64 (m : Int), .string mc, .int .i64 ip, .int .i64 now, .int .i64 now, .int .i64 0, .int .i64 (min r.q u.bl), .int .i64 (now + r.m), .int .i64 r.i] 48)).heap.size = W11.heap.size + 1 := (by simp); have OA9 := Own4.now O11.out BA9; have I12 : Hid (Off w3.heap.size (.slice (some ⟨gu, 0, none⟩) h.us.length ruc) v9 (.slice rf h.fs.length rfc) (.slice rr h.es.length rrc)) := I3.out.appS hw9 (by omega); have J12 : Hid (Off w6.heap.size (.slice (some ⟨gu, 0, none⟩) h.us.length ruc) v9 (.slice rf h.fs.length rfc) (.slice rr h.es.length rrc)) := J6.out.appS hw9 (by omega); have O12 : Hid (Own4 W12 w2.heap.size (.slice (some ⟨gu, 0, none⟩) h.us.length ruc) v9 (.slice rf h.fs.length rfc) (.slice rr h.es.length rrc) (h.us.set m { u with lg := u.lg - 1 }) SL9 h.fs h.es) := OA9.appS o9 hg9 hw9; have P12 : Hid (LgPB C c A h w W12) := ⟨bx_grown (P11.out.1.below BA9) hg9 (by have := Z3.out; have := Z6.out; omega) (fun e9 => by have := OA9.s.lt _ e9; have := Z3.out; have := Z6.out; omega), bx_grown (P11.out.2.1.below BA9) hg9 (by have := Z3.out; have := Z6.out; omega) (fun e9 => by have := OA9.s.lt _ e9; have := Z3.out; have := Z6.out; omega), bx_grown (P11.out.2.2.1.below BA9) hg9 (by have := Z3.out; have := Z6.out; omega) (fun e9 => by have := OA9.s.lt _ e9; have := Z3.out; have := Z6.out; omega), (P11.out.2.2.2.trans (BA9.mono P11.out.2.2.2.size)).grown hg9 (Nat.le_trans P11.out.2.2.2.size BA9.size) (fun z hz => by have := OA9.s.lt _ hz; have := Z3.out; have := Z6.out; omega)⟩; have N12 : Hid (Bx W12 w3.heap.size [.slice (some ⟨gu, 0, none⟩) h.us.length ruc, .slice rs h.ss.length rsc, .slice rf h.fs.length rfc, .slice rr h.es.length rrc, .int .i64 (h.nx + 1)]) := bx_grown (N11.out.below BA9) hg9 (by omega) (fun e9 => I3.out _ ((fun h => .inr (.inl h)) e9) rfl); have S12 : Hid (Bx W12 w6.heap.size [.int .i64 h.nx, .int .i64 (m : Int), .string mc, .int .i64 ip, .int .i64 now, .int .i64 now, .int .i64 0, .int .i64 (min r.q u.bl), .int .i64 (now + r.m), .int .i64 r.i]) := bx_grown (S11.out.below BA9) hg9 (by omega) (fun e9 => J6.out _ ((fun h => .inr (.inl h)) e9) rfl); obtain ⟨sx, sxc, rfl, -⟩ := OwnS.slice o9; clear BA9 q39 q69 sz9 OA9 hw9 hg9 o9 O11 P11 N11 S11 n1) | (refine wpl_put1 38 rfl _ _ rfl (w3.heap.size) 1 (.slice sx SL9.length sxc) rfl rfl N12.out rfl rfl rfl ?_; intro W13 hw13; have N13 : Hid (Bx W13 w3.heap.size [.slice (some ⟨gu, 0, none⟩) h.us.length ruc, .slice sx SL9.length sxc, .slice rf h.fs.length rfc, .slice rr h.es.length rrc, .int .i64 (h.nx + 1)]) := (by rw [hw13]; exact N12.out.sets _ _ _ _); have P13 : Hid (LgPB C c A h w W13) := (by rw [hw13]; exact ⟨P12.out.1.apartO _ (by have := Z3.out; have := Z6.out; omega), P12.out.2.1.apartO _ (by have := Z3.out; have := Z6.out; omega), P12.out.2.2.1.apartO _ (by have := Z3.out; have := Z6.out; omega), below_cells (by have := Z3.out; have := Z6.out; omega) _ _ _ P12.out.2.2.2⟩); have S13 : Hid (Bx W13 w6.heap.size [.int .i64 h.nx, .int .i64 (m : Int), .string mc, .int .i64 ip, .int .i64 now, .int .i64 now, .int .i64 0, .int .i64 (min r.q u.bl), .int .i64 (now + r.m), .int .i64 r.i]) := (by rw [hw13]; exact S12.out.apartO _ (by have := Z6.out; omega)); have O13 : Hid (Own4 W13 w2.heap.size (.slice (some ⟨gu, 0, none⟩) h.us.length ruc) (.slice sx SL9.length sxc) (.slice rf h.fs.length rfc) (.slice rr h.es.length rrc) (h.us.set m { u with lg := u.lg - 1 }) SL9 h.fs h.es) := (by rw [hw13]; exact O12.out.put I12.out _ _); clear hw13 S12 P12 N12 O12 ; have n3 := N13.out.cell 3 rfl; have s0 := S13.out.cell 0 rfl) | (at_builtin; refine wpl_RecordW _ rfl _ _ rfl w2.heap.size _ h.es [⟨h.nx, now, 0, 0, false⟩] rfl (O13.out.r.now ((Below.refl _ _).alloc (Nat.le_refl _) _)) (W13.heap.size) 0 1 1 rfl rfl (fun j9 u9 hu9 => by rw [Nat.zero_add]; exact (Bx.new W13 #[.int .i64 h.nx, .int .i64 now, .int .i64 0, .int .i64 0, .bool false] 67).cell j9 (by rw [flatS_one] at hu9; exact hu9)) (by have := LL.out; simp; omega) (by have := bx_lt N13.out; have := Z3.out; simp; omega) ?_; intro v9 W14 o9 hg9 hw9; rw [← HEL9.out] at o9; have BA9 : Below W13.heap.size W13 (W13.alloc (.cells #[.int .i64 h.nx, .int .i64 now, .int .i64 0, .int .i64 0, .bool false] 67)) := ((Below.refl _ _).alloc (Nat.le_refl _) _); have q39 := bx_lt N13.out; have q69 := bx_lt S13.out; have sz9 : (W13.alloc (.cells #[.int .i64 h.nx, .int .i64 now, .int .i64 0, .int .i64 0, .bool false] 67)).heap.size = W13.heap.size + 1 := (by simp); have OA9 := Own4.now O13.out BA9; have I14 : Hid (Off w3.heap.size (.slice (some ⟨gu, 0, none⟩) h.us.length ruc) (.slice sx SL9.length sxc) (.slice rf h.fs.length rfc) v9) := I12.out.appR hw9 (by omega); have J14 : Hid (Off w6.heap.size (.slice (some ⟨gu, 0, none⟩) h.us.length ruc) (.slice sx SL9.length sxc) (.slice rf h.fs.length rfc) v9) := J12.out.appR hw9 (by omega); have O14 : Hid (Own4 W14 w2.heap.size (.slice (some ⟨gu, 0, none⟩) h.us.length ruc) (.slice sx SL9.length sxc) (.slice rf h.fs.length rfc) v9 (h.us.set m { u with lg := u.lg - 1 }) SL9 h.fs EL9) := OA9.appR o9 hg9 hw9; have P14 : Hid (LgPB C c A h w W14) := ⟨bx_grown (P13.out.1.below BA9) hg9 (by have := Z3.out; have := Z6.out; omega) (fun e9 => by have := OA9.r.lt _ e9; have := Z3.out; have := Z6.out; omega), bx_grown (P13.out.2.1.below BA9) hg9 (by have := Z3.out; have := Z6.out; omega) (fun e9 => by have := OA9.r.lt _ e9; have := Z3.out; have := Z6.out; omega), bx_grown (P13.out.2.2.1.below BA9) hg9 (by have := Z3.out; have := Z6.out; omega) (fun e9 => by have := OA9.r.lt _ e9; have := Z3.out; have := Z6.out; omega), (P13.out.2.2.2.trans (BA9.mono P13.out.2.2.2.size)).grown hg9 (Nat.le_trans P13.out.2.2.2.size BA9.size) (fun z hz => by have := OA9.r.lt _ hz; have := Z3.out; have := Z6.out; omega)⟩; have N14 : Hid (Bx W14 w3.heap.size [.slice (some ⟨gu, 0, none⟩) h.us.length ruc, .slice sx SL9.length sxc, .slice rf h.fs.length rfc, .slice rr h.es.length rrc, .int .i64 (h.nx + 1)]) := bx_grown (N13.out.below BA9) hg9 (by omega) (fun e9 => I12.out _ ((fun h => .inr (.inr (.inr h))) e9) rfl); have S14 : Hid (Bx W14 w6.heap.size [.int .i64 h.nx, .int .i64 (m : Int), .string mc, .int .i64 ip, .int .i64 now, .int .i64 now, .int .i64 0, .int .i64 (min r.q u.bl), .int .i64 (now + r.m), .int .i64 r.i]) := bx_grown (S13.out.below BA9) hg9 (by omega) (fun e9 => J12.out _ ((fun h => .inr (.inr (.inr h))) e9) rfl); obtain ⟨ex, exc, rfl, -⟩ := OwnS.slice o9; clear BA9 q39 q69 sz9 OA9 hw9 hg9 o9 O13 P13 N13 S13 n3 s0) | (refine wpl_put1 40 rfl _ _ rfl (w3.heap.size) 3 (.slice ex EL9.length exc) rfl rfl N14.out rfl rfl rfl ?_; intro W15 hw15; have N15 : Hid (Bx W15 w3.heap.size [.slice (some ⟨gu, 0, none⟩) h.us.length ruc, .slice sx SL9.length sxc, .slice rf h.fs.length rfc, .slice ex EL9.length exc, .int .i64 (h.nx + 1)]) := (by rw [hw15]; exact N14.out.sets _ _ _ _); have P15 : Hid (LgPB C c A h w W15) := (by rw [hw15]; exact ⟨P14.out.1.apartO _ (by have := Z3.out; have := Z6.out; omega), P14.out.2.1.apartO _ (by have := Z3.out; have := Z6.out; omega), P14.out.2.2.1.apartO _ (by have := Z3.out; have := Z6.out; omega), below_cells (by have := Z3.out; have := Z6.out; omega) _ _ _ P14.out.2.2.2⟩); have S15 : Hid (Bx W15 w6.heap.size [.int .i64 h.nx, .int .i64 (m : Int), .string mc, .int .i64 ip, .int .i64 now, .int .i64 now, .int .i64 0, .int .i64 (min r.q u.bl), .int .i64 (now + r.m), .int .i64 r.i]) := (by rw [hw15]; exact S14.out.apartO _ (by have := Z6.out; omega)); have O15 : Hid (Own4 W15 w2.heap.size (.slice (some ⟨gu, 0, none⟩) h.us.length ruc) (.slice sx SL9.length sxc) (.slice rf h.fs.length rfc) (.slice ex EL9.length exc) (h.us.set m { u with lg := u.lg - 1 }) SL9 h.fs EL9) := (by rw [hw15]; exact O14.out.put I14.out _ _); clear hw15 S14 P14 N14 O14 ) | (refine wpl_getT 48 rfl _ rfl (w6.heap.size) rfl S11.out _ Tryz.underlying48 rfl rfl ?_) | fail)
          have mixed : Tryz.prog.follows .mixedOrders = true := by kernel_rfl
          have q9 := bx_lt P15.out.2.2.1
          refine Rlw.wp_region_rel (w := W15) [Rlw.valR 0 [] (.agg #[.slice (some ⟨gu, 0, none⟩) h.us.length ruc, .slice sx SL9.length sxc, .slice rf h.fs.length rfc, .slice ex EL9.length exc, .int .i64 (h.nx + 1)]), Rlw.valR 1 [] (.pointer (some ⟨w6.heap.size, 0, none⟩)), Rlw.valR 2 [1] (.int .i64 h.nx), Rlw.fillR (w.heap.size + 1 + 1) 6 0 [0] (fun _ => [.slice (some ⟨gu, 0, none⟩) h.us.length ruc, .slice sx SL9.length sxc, .slice rf h.fs.length rfc, .slice ex EL9.length exc, .int .i64 (h.nx + 1)]), Rlw.valR 4 [2] (.int .i64 h.nx), Rlw.valR 5 [] (.int .i64 0), Rlw.iniR (w.heap.size + 1 + 1) [.slice none 0 0, .slice none 0 0, .slice none 0 0, .slice none 0 0, .int .i64 0]] [6] [0, 1, 2, 3, 4, 5] (fun b => b < W15.heap.size ∧ b ≠ w.heap.size + 1 + 1) (by kernel_rfl) (by kernel_rfl) (by kernel_rfl) ?_ (fun b h => h.1) ?ini ?ap ?_ ?_
          · exact Rlw.ov (Rlw.ov (Rlw.ov (Rlw.oc (Rlw.fillR_ok _ _ _ _ _) (Rlw.ov (Rlw.ov (Rlw.oc (Rlw.iniR_ok _ _) (List.forall_mem_nil _)))))))
          case ini =>
            intro q r hq hr
            rw [List.mem_singleton] at hq
            subst hq
            cases hr
            exact ⟨Rlw.bx_loc P15.out.2.2.1 rfl, fun b hb => ⟨by have hb2 : b = w.heap.size + 1 + 1 := hb; show b < W15.heap.size; omega, fun e => e.2 hb⟩⟩
          case ap =>
            intro q1 q2 r1 r2 h1 h2 hne
            rw [List.mem_singleton] at h1 h2
            exact absurd (h1.trans h2.symm) hne
          · refine Rlw.wk rfl ?_ ?_
            · intro σ wx hK hF post hp
              have kq : Rel.Keep (fun b => b < W15.heap.size ∧ b ≠ w.heap.size + 1 + 1) W15 wx := ⟨hK.os, hK.tape, hK.output, hK.size, hK.block⟩
              have hq := Rlw.bx_keepW N15.out kq ⟨bx_lt N15.out, by have := Z3.out; omega⟩
              refine Rlw.yld_get 42 _ rfl (q := w3.heap.size) (by go_simp) hq _ Tryz.underlying42 rfl rfl ?_
              exact hp _ _ Rlw.left_val
            refine Rlw.wk rfl ?_ ?_
            · intro σ wx hK hF post hp
              go_simp
              exact Rlw.yv hp
            refine Rlw.wk rfl ?_ ?_
            · intro σ wx hK hF post hp
              have f1 := Rlw.fv hF 1 rfl rfl
              have kq : Rel.Keep (fun b => b < W15.heap.size ∧ b ≠ w.heap.size + 1 + 1) W15 wx := ⟨hK.os, hK.tape, hK.output, hK.size, hK.block⟩
              have q1 := (Rlw.bx_keepW S15.out kq ⟨bx_lt S15.out, by have := Z3.out; have := Z6.out; omega⟩).cell 0 rfl
              go_simp
              exact Rlw.yv hp
            refine Rlw.wk rfl ?_ ?_
            · intro σ wx hK hF post hp
              have f0 := Rlw.fv hF 0 rfl rfl
              have f6 : Bx wx (w.heap.size + 1 + 1) [.slice none 0 0, .slice none 0 0, .slice none 0 0, .slice none 0 0, .int .i64 0] := Rlw.fact_of hF (j := 6) rfl rfl
              refine Rlw.yld_put 42 _ _ rfl (q := w.heap.size + 1 + 1) (cells := #[.slice (some ⟨gu, 0, none⟩) h.us.length ruc, .slice sx SL9.length sxc, .slice rf h.fs.length rfc, .slice ex EL9.length exc, .int .i64 (h.nx + 1)]) (by go_simp) (by go_simp; try exact f0) f6 rfl (by rfl) rfl ?_
              exact hp _ _ (Rlw.left_fill (cf := fun _ => [.slice (some ⟨gu, 0, none⟩) h.us.length ruc, .slice sx SL9.length sxc, .slice rf h.fs.length rfc, .slice ex EL9.length exc, .int .i64 (h.nx + 1)]) rfl (by decide) f6 [.slice (some ⟨gu, 0, none⟩) h.us.length ruc, .slice sx SL9.length sxc, .slice rf h.fs.length rfc, .slice ex EL9.length exc, .int .i64 (h.nx + 1)] rfl)
            refine Rlw.wk rfl ?_ ?_
            · intro σ wx hK hF post hp
              have f2 := Rlw.fv hF 2 rfl rfl
              go_simp
              exact Rlw.yv hp
            refine Rlw.wk rfl ?_ ?_
            · intro σ wx hK hF post hp
              go_simp
              exact Rlw.yv hp
            exact Rlw.walk_nil
          · intro σ w16 hK hF hA
            have f3 : Bx w16 (w.heap.size + 1 + 1) [.slice (some ⟨gu, 0, none⟩) h.us.length ruc, .slice sx SL9.length sxc, .slice rf h.fs.length rfc, .slice ex EL9.length exc, .int .i64 (h.nx + 1)] := Rlw.fact_of hF (j := 3) rfl rfl
            have f4 : σ 4 = .int .i64 h.nx := Rlw.fact_of hF (j := 4) rfl rfl
            have f5 : σ 5 = .int .i64 0 := Rlw.fact_of hF (j := 5) rfl rfl
            have kq : Rel.Keep (fun b => b < W15.heap.size ∧ b ≠ w.heap.size + 1 + 1) W15 w16 := ⟨hK.os, hK.tape, hK.output, hK.size, hK.block⟩
            have OR : Hid (Own4 w16 w2.heap.size (.slice (some ⟨gu, 0, none⟩) h.us.length ruc) (.slice sx SL9.length sxc) (.slice rf h.fs.length rfc) (.slice ex EL9.length exc) (h.us.set m { u with lg := u.lg - 1 }) SL9 h.fs EL9) := O15.out.same (fun b hb => kq.block b ⟨(O15.out.bl b hb).2, by have := O15.out.bl b hb; have := Z3.out; omega⟩)
            have BR : Hid (Below w.heap.size w w16) := P15.out.2.2.2.trans ⟨kq.os, kq.tape, kq.output, kq.size, fun k hk => kq.block k ⟨Nat.lt_of_lt_of_le hk P15.out.2.2.2.size, by omega⟩⟩
            have RR : Hid (Bx w16 (w.heap.size + 1 + 1) [.slice (some ⟨gu, 0, none⟩) h.us.length ruc, .slice sx SL9.length sxc, .slice rf h.fs.length rfc, .slice ex EL9.length exc, .int .i64 (h.nx + 1)]) := f3
            simp only [Rlw.putAll, Nat.zero_add, Nat.reduceAdd, f4, f5]
            clear hF hA hK kq f3 f4 f5 O15 P15 N15 S15
            go_simp
            go_wp2
            refine bodyPost_ret (v := .tuple #[.agg #[.slice (some ⟨gu, 0, none⟩) h.us.length ruc, .slice sx SL9.length sxc, .slice rf h.fs.length rfc, .slice ex EL9.length exc, .int .i64 (h.nx + 1)], .int .i64 h.nx, .int .i64 0]) (results_cell3 Tryz.results9 (w.heap.size + 1 + 1) rfl rfl rfl RR.out _ Tryz.underlying42 rfl rfl) rfl ?_
            refine ⟨⟨some ⟨gu, 0, none⟩, sx, rf, ex, ruc, sxc, rfc, exc⟩, ?_, ?_, BR.out⟩
            · unfold lgG
              dsimp only
              rw [List.length_set, ← HSL9.out, ← HEL9.out]
            · refine Own4.lower (B := w2.heap.size) ?_ (by have := Z3.out; omega)
              unfold lgG
              dsimp only
              rw [List.length_set, ← HSL9.out, ← HEL9.out]
              exact OR.out
end Go.Proofs.YtnlepjcjakghcaaGreatDoor
