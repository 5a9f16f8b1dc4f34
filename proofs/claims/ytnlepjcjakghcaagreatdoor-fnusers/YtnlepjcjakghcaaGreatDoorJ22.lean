/- newSession, beginFault of the program. -/
import Derived.Test.YtnlepjcjakghcaaGreatDoorJ19
import Derived.Test.YtnlepjcjakghcaaGreatDoorJ21
namespace Go.Proofs.YtnlepjcjakghcaaGreatDoor
open Go.RowKit Go.PlainAid Go.Proofs.YtnlepjcjakghcaaGreatDoor.Bt Go.Sort
set_option linter.unusedVariables false
set_option maxRecDepth 20000
set_option maxHeartbeats 4000000 in
theorem newSession_any (C : CfA) (c : CfV) (A : HuA) (h : HuV) (m j : Nat) (u : UserV) (r : RoleV) (now : Int) (w : World) (rc : CfR w C c) (rh : HuR w A h) (sc : CfSz c) (hu : h.us[m]? = some u) (hr : roI c.ros u.ro = (j : Int)) (hj : c.ros[j]? = some r) (h0 : 0 ≤ now ∧ now ≤ 100000) (h1 : 1 ≤ r.m ∧ r.m ≤ 1000) :
    Calls Tryz.prog 28 #[.agg #[.int .i64 c.ip, .int .i64 c.b, .int .i64 c.gt, .string c.gm, .string c.wm, .int .i64 c.rs, .slice C.x c.ps.length C.xc, .slice C.y c.ros.length C.yc], .agg #[.slice A.u h.us.length A.uc, .slice A.s h.ss.length A.sc, .slice A.f h.fs.length A.fc, .slice A.r h.es.length A.rc, .int .i64 h.nx], .int .i64 (m : Int), .int .i64 now] w fun e w' => e = .returned (.agg #[.int .i64 h.nx, .int .i64 (m : Int), .string ⟨#[]⟩, .int .i64 0, .int .i64 now, .int .i64 now, .int .i64 0, .int .i64 (min r.q u.bl), .int .i64 (now + r.m), .int .i64 r.i]) ∧ Below w.heap.size w w' := by
  obtain ⟨bu, ou, eu, hbu, hcu⟩ := rw_hold (c := uvG) (ok := UsRok) rh.us hu
  obtain ⟨br, or_, ra, rc9, er, hbr, hcr⟩ := rw_holdR rc.ros hj
  have HP : Hid (∀ wx, Below w.heap.size w wx → Calls Tryz.prog 52 #[.agg #[.int .i64 c.ip, .int .i64 c.b, .int .i64 c.gt, .string c.gm, .string c.wm, .int .i64 c.rs, .slice C.x c.ps.length C.xc, .slice C.y c.ros.length C.yc], .string u.ro] wx fun e w' => e = .returned (.int .i64 (j : Int)) ∧ Below wx.heap.size wx w') := fun wx hb => by
    have := rolePlace_any c.ip c.b c.gt c.gm c.wm c.rs C.x C.y c.ps.length C.xc c.ros.length C.yc c.ros u.ro wx (rc.below hb).ros rfl sc.ros
    rw [hr] at this
    exact this.mono fun e w' h => ⟨h.1, h.2.below⟩
  have HCU : Hid (∀ wx, Below w.heap.size w wx → ∀ j v, ([.string u.nm, .string u.sa, .string u.ha, .string u.ro, .int .i64 u.bl, .int .i64 u.lg] : List Value)[j]? = some v → wx.cell? ⟨bu, ou + m * 6 + j, none⟩ = some v) := hcu
  have HCR : Hid (∀ wx, Below w.heap.size w wx → ∀ i v, ([.string r.nm, .slice ra r.rs.length rc9, .int .i64 r.q, .int .i64 r.m, .int .i64 r.i] : List Value)[i]? = some v → wx.cell? ⟨br, or_ + j * 5 + i, none⟩ = some v) := hcr
  have hml : (m : Int) < (h.us.length : Int) := by have := (List.getElem?_eq_some_iff.1 hu).1; omega
  have hjl : (j : Int) < (c.ros.length : Int) := by have := (List.getElem?_eq_some_iff.1 hj).1; omega
  clear hcu hcr
  rw [er] at HP ⊢
  rw [eu]
  have B3 : Hid (Below w.heap.size w (((w.alloc (.cells #[.int .i64 c.ip, .int .i64 c.b, .int .i64 c.gt, .string c.gm, .string c.wm, .int .i64 c.rs, .slice C.x c.ps.length C.xc, .slice (some ⟨br, or_, none⟩) c.ros.length C.yc] 35)).alloc (.cells #[.slice (some ⟨bu, ou, none⟩) h.us.length A.uc, .slice A.s h.ss.length A.sc, .slice A.f h.fs.length A.fc, .slice A.r h.es.length A.rc, .int .i64 h.nx] 42)).alloc (.cells #[.int .i64 0, .int .i64 0, .string ⟨#[]⟩, .int .i64 0, .int .i64 0, .int .i64 0, .int .i64 0, .int .i64 0, .int .i64 0, .int .i64 0] 48))) := (((Below.refl _ _).alloc (Nat.le_refl _) _).alloc (by simp) _).alloc (by simp; omega) _
  have B4 : Hid (Below w.heap.size w ((((w.alloc (.cells #[.int .i64 c.ip, .int .i64 c.b, .int .i64 c.gt, .string c.gm, .string c.wm, .int .i64 c.rs, .slice C.x c.ps.length C.xc, .slice (some ⟨br, or_, none⟩) c.ros.length C.yc] 35)).alloc (.cells #[.slice (some ⟨bu, ou, none⟩) h.us.length A.uc, .slice A.s h.ss.length A.sc, .slice A.f h.fs.length A.fc, .slice A.r h.es.length A.rc, .int .i64 h.nx] 42)).alloc (.cells #[.int .i64 0, .int .i64 0, .string ⟨#[]⟩, .int .i64 0, .int .i64 0, .int .i64 0, .int .i64 0, .int .i64 0, .int .i64 0, .int .i64 0] 48)).alloc (.cells #[.string u.nm, .string u.sa, .string u.ha, .string u.ro, .int .i64 u.bl, .int .i64 u.lg] 25))) := B3.out.alloc (by simp; omega) _
  have hcu := HCU.out _ B3.out
  have P4 : Hid (Bx ((((w.alloc (.cells #[.int .i64 c.ip, .int .i64 c.b, .int .i64 c.gt, .string c.gm, .string c.wm, .int .i64 c.rs, .slice C.x c.ps.length C.xc, .slice (some ⟨br, or_, none⟩) c.ros.length C.yc] 35)).alloc (.cells #[.slice (some ⟨bu, ou, none⟩) h.us.length A.uc, .slice A.s h.ss.length A.sc, .slice A.f h.fs.length A.fc, .slice A.r h.es.length A.rc, .int .i64 h.nx] 42)).alloc (.cells #[.int .i64 0, .int .i64 0, .string ⟨#[]⟩, .int .i64 0, .int .i64 0, .int .i64 0, .int .i64 0, .int .i64 0, .int .i64 0, .int .i64 0] 48)).alloc (.cells #[.string u.nm, .string u.sa, .string u.ha, .string u.ro, .int .i64 u.bl, .int .i64 u.lg] 25)) w.heap.size [.int .i64 c.ip, .int .i64 c.b, .int .i64 c.gt, .string c.gm, .string c.wm, .int .i64 c.rs, .slice C.x c.ps.length C.xc, .slice (some ⟨br, or_, none⟩) c.ros.length C.yc]) := (((Bx.new w #[.int .i64 c.ip, .int .i64 c.b, .int .i64 c.gt, .string c.gm, .string c.wm, .int .i64 c.rs, .slice C.x c.ps.length C.xc, .slice (some ⟨br, or_, none⟩) c.ros.length C.yc] 35).below ((Below.refl _ _).alloc (Nat.le_refl _) _)).below ((Below.refl _ _).alloc (Nat.le_refl _) _)).below ((Below.refl _ _).alloc (Nat.le_refl _) _)
  have G4 : Hid (Bx ((((w.alloc (.cells #[.int .i64 c.ip, .int .i64 c.b, .int .i64 c.gt, .string c.gm, .string c.wm, .int .i64 c.rs, .slice C.x c.ps.length C.xc, .slice (some ⟨br, or_, none⟩) c.ros.length C.yc] 35)).alloc (.cells #[.slice (some ⟨bu, ou, none⟩) h.us.length A.uc, .slice A.s h.ss.length A.sc, .slice A.f h.fs.length A.fc, .slice A.r h.es.length A.rc, .int .i64 h.nx] 42)).alloc (.cells #[.int .i64 0, .int .i64 0, .string ⟨#[]⟩, .int .i64 0, .int .i64 0, .int .i64 0, .int .i64 0, .int .i64 0, .int .i64 0, .int .i64 0] 48)).alloc (.cells #[.string u.nm, .string u.sa, .string u.ha, .string u.ro, .int .i64 u.bl, .int .i64 u.lg] 25)) (w.heap.size + 1) [.slice (some ⟨bu, ou, none⟩) h.us.length A.uc, .slice A.s h.ss.length A.sc, .slice A.f h.fs.length A.fc, .slice A.r h.es.length A.rc, .int .i64 h.nx]) := by
    have h := Bx.new (w.alloc (.cells #[.int .i64 c.ip, .int .i64 c.b, .int .i64 c.gt, .string c.gm, .string c.wm, .int .i64 c.rs, .slice C.x c.ps.length C.xc, .slice (some ⟨br, or_, none⟩) c.ros.length C.yc] 35)) #[.slice (some ⟨bu, ou, none⟩) h.us.length A.uc, .slice A.s h.ss.length A.sc, .slice A.f h.fs.length A.fc, .slice A.r h.es.length A.rc, .int .i64 h.nx] 42
    rw [World.size_alloc] at h
    exact (h.below ((Below.refl _ _).alloc (Nat.le_refl _) _)).below ((Below.refl _ _).alloc (Nat.le_refl _) _)
  have S4 : Hid (Bx ((((w.alloc (.cells #[.int .i64 c.ip, .int .i64 c.b, .int .i64 c.gt, .string c.gm, .string c.wm, .int .i64 c.rs, .slice C.x c.ps.length C.xc, .slice (some ⟨br, or_, none⟩) c.ros.length C.yc] 35)).alloc (.cells #[.slice (some ⟨bu, ou, none⟩) h.us.length A.uc, .slice A.s h.ss.length A.sc, .slice A.f h.fs.length A.fc, .slice A.r h.es.length A.rc, .int .i64 h.nx] 42)).alloc (.cells #[.int .i64 0, .int .i64 0, .string ⟨#[]⟩, .int .i64 0, .int .i64 0, .int .i64 0, .int .i64 0, .int .i64 0, .int .i64 0, .int .i64 0] 48)).alloc (.cells #[.string u.nm, .string u.sa, .string u.ha, .string u.ro, .int .i64 u.bl, .int .i64 u.lg] 25)) (w.heap.size + 1 + 1) [.int .i64 0, .int .i64 0, .string ⟨#[]⟩, .int .i64 0, .int .i64 0, .int .i64 0, .int .i64 0, .int .i64 0, .int .i64 0, .int .i64 0]) := by
    have h := Bx.new ((w.alloc (.cells #[.int .i64 c.ip, .int .i64 c.b, .int .i64 c.gt, .string c.gm, .string c.wm, .int .i64 c.rs, .slice C.x c.ps.length C.xc, .slice (some ⟨br, or_, none⟩) c.ros.length C.yc] 35)).alloc (.cells #[.slice (some ⟨bu, ou, none⟩) h.us.length A.uc, .slice A.s h.ss.length A.sc, .slice A.f h.fs.length A.fc, .slice A.r h.es.length A.rc, .int .i64 h.nx] 42)) #[.int .i64 0, .int .i64 0, .string ⟨#[]⟩, .int .i64 0, .int .i64 0, .int .i64 0, .int .i64 0, .int .i64 0, .int .i64 0, .int .i64 0] 48
    rw [World.size_alloc, World.size_alloc] at h
    exact h.below ((Below.refl _ _).alloc (Nat.le_refl _) _)
  have U4 : Hid (Bx ((((w.alloc (.cells #[.int .i64 c.ip, .int .i64 c.b, .int .i64 c.gt, .string c.gm, .string c.wm, .int .i64 c.rs, .slice C.x c.ps.length C.xc, .slice (some ⟨br, or_, none⟩) c.ros.length C.yc] 35)).alloc (.cells #[.slice (some ⟨bu, ou, none⟩) h.us.length A.uc, .slice A.s h.ss.length A.sc, .slice A.f h.fs.length A.fc, .slice A.r h.es.length A.rc, .int .i64 h.nx] 42)).alloc (.cells #[.int .i64 0, .int .i64 0, .string ⟨#[]⟩, .int .i64 0, .int .i64 0, .int .i64 0, .int .i64 0, .int .i64 0, .int .i64 0, .int .i64 0] 48)).alloc (.cells #[.string u.nm, .string u.sa, .string u.ha, .string u.ro, .int .i64 u.bl, .int .i64 u.lg] 25)) (w.heap.size + 1 + 1 + 1) [.string u.nm, .string u.sa, .string u.ha, .string u.ro, .int .i64 u.bl, .int .i64 u.lg]) := by
    have h := Bx.new (((w.alloc (.cells #[.int .i64 c.ip, .int .i64 c.b, .int .i64 c.gt, .string c.gm, .string c.wm, .int .i64 c.rs, .slice C.x c.ps.length C.xc, .slice (some ⟨br, or_, none⟩) c.ros.length C.yc] 35)).alloc (.cells #[.slice (some ⟨bu, ou, none⟩) h.us.length A.uc, .slice A.s h.ss.length A.sc, .slice A.f h.fs.length A.fc, .slice A.r h.es.length A.rc, .int .i64 h.nx] 42)).alloc (.cells #[.int .i64 0, .int .i64 0, .string ⟨#[]⟩, .int .i64 0, .int .i64 0, .int .i64 0, .int .i64 0, .int .i64 0, .int .i64 0, .int .i64 0] 48)) #[.string u.nm, .string u.sa, .string u.ha, .string u.ro, .int .i64 u.bl, .int .i64 u.lg] 25
    rw [World.size_alloc, World.size_alloc, World.size_alloc] at h
    exact h
  have hw1 : IntKind.i64.wrap (now + r.m) = now + r.m := by rw [IntKind.wrap_i64]; omega
  have mixed : Tryz.prog.follows .mixedOrders = true := by kernel_rfl
  clear hu hj hr er eu rc rh sc HCU
  go_enter Tryz.func28, Tryz.ntmps28
  go_wp2_with (first | (refine wpList_load_mid rfl 25 _ rfl bu (ou + m * 6) rfl [.string u.nm, .string u.sa, .string u.ha, .string u.ro, .int .i64 u.bl, .int .i64 u.lg] _ (fun j u hu => hcu j u hu) Tryz.underlying25 rfl rfl ?_) | fail)
  clear hcu
  refine Rlw.wp_region_rel (w := ((((w.alloc (.cells #[.int .i64 c.ip, .int .i64 c.b, .int .i64 c.gt, .string c.gm, .string c.wm, .int .i64 c.rs, .slice C.x c.ps.length C.xc, .slice (some ⟨br, or_, none⟩) c.ros.length C.yc] 35)).alloc (.cells #[.slice (some ⟨bu, ou, none⟩) h.us.length A.uc, .slice A.s h.ss.length A.sc, .slice A.f h.fs.length A.fc, .slice A.r h.es.length A.rc, .int .i64 h.nx] 42)).alloc (.cells #[.int .i64 0, .int .i64 0, .string ⟨#[]⟩, .int .i64 0, .int .i64 0, .int .i64 0, .int .i64 0, .int .i64 0, .int .i64 0, .int .i64 0] 48)).alloc (.cells #[.string u.nm, .string u.sa, .string u.ha, .string u.ro, .int .i64 u.bl, .int .i64 u.lg] 25))) [Rlw.valR 0 [] (.pointer (some ⟨w.heap.size, 7, none⟩)), Rlw.valR 1 [0] (.slice (some ⟨br, or_, none⟩) c.ros.length C.yc), Rlw.valR 2 [] (.agg #[.int .i64 c.ip, .int .i64 c.b, .int .i64 c.gt, .string c.gm, .string c.wm, .int .i64 c.rs, .slice C.x c.ps.length C.xc, .slice (some ⟨br, or_, none⟩) c.ros.length C.yc]), Rlw.valR 3 [] (.pointer (some ⟨w.heap.size + 1 + 1 + 1, 3, none⟩)), Rlw.valR 4 [3] (.string u.ro), Rlw.valR 5 [2, 4] (.int .i64 (j : Int)), Rlw.valR 6 [1, 5] (.pointer (some ⟨br, or_ + j * 5, none⟩)), Rlw.valR 7 [6] (.agg #[.string r.nm, .slice ra r.rs.length rc9, .int .i64 r.q, .int .i64 r.m, .int .i64 r.i]), Rlw.boxR 8 [] [.string ⟨#[]⟩, .slice none 0 0, .int .i64 0, .int .i64 0, .int .i64 0], Rlw.putR 8 [7] [.string r.nm, .slice ra r.rs.length rc9, .int .i64 r.q, .int .i64 r.m, .int .i64 r.i]] [] [0, 1, 2, 3, 4, 5, 6, 7, 9] (fun b => b < ((((w.alloc (.cells #[.int .i64 c.ip, .int .i64 c.b, .int .i64 c.gt, .string c.gm, .string c.wm, .int .i64 c.rs, .slice C.x c.ps.length C.xc, .slice (some ⟨br, or_, none⟩) c.ros.length C.yc] 35)).alloc (.cells #[.slice (some ⟨bu, ou, none⟩) h.us.length A.uc, .slice A.s h.ss.length A.sc, .slice A.f h.fs.length A.fc, .slice A.r h.es.length A.rc, .int .i64 h.nx] 42)).alloc (.cells #[.int .i64 0, .int .i64 0, .string ⟨#[]⟩, .int .i64 0, .int .i64 0, .int .i64 0, .int .i64 0, .int .i64 0, .int .i64 0, .int .i64 0] 48)).alloc (.cells #[.string u.nm, .string u.sa, .string u.ha, .string u.ro, .int .i64 u.bl, .int .i64 u.lg] 25)).heap.size) (by kernel_rfl) (by kernel_rfl) (by kernel_rfl) ?_ (fun b h => h) (fun k r hk => by cases hk) (fun j k rj rk hj => by cases hj) ?_ ?_
  · exact Rlw.ov (Rlw.ov (Rlw.ov (Rlw.ov (Rlw.ov (Rlw.ov (Rlw.ov (Rlw.ov (Rlw.oc (Rlw.boxR_ok _ _ _) (Rlw.oc (Rlw.putR_ok _ _ _) (List.forall_mem_nil _))))))))))
  · refine Rlw.wk rfl ?_ ?_
    · intro σ wx hK hF post hp
      go_simp
      exact Rlw.yv hp
    refine Rlw.wk rfl ?_ ?_
    · intro σ wx hK hF post hp
      have f0 := Rlw.fv hF 0 rfl rfl
      have q1 := (P4.out.below (Rlw.keep_below hK)).cell 7 rfl
      go_simp
      exact Rlw.yv hp
    refine Rlw.wk rfl ?_ ?_
    · intro σ wx hK hF post hp
      have hq := P4.out.below (Rlw.keep_below hK)
      refine Rlw.yld_get 35 _ rfl (q := w.heap.size) (by go_simp) hq _ Tryz.underlying35 rfl rfl ?_
      exact hp _ _ Rlw.left_val
    refine Rlw.wk rfl ?_ ?_
    · intro σ wx hK hF post hp
      go_simp
      exact Rlw.yv hp
    refine Rlw.wk rfl ?_ ?_
    · intro σ wx hK hF post hp
      have f3 := Rlw.fv hF 3 rfl rfl
      have q1 := (U4.out.below (Rlw.keep_below hK)).cell 3 rfl
      go_simp
      exact Rlw.yv hp
    refine Rlw.wk rfl ?_ ?_
    · intro σ wx hK hF post hp
      have f2 := Rlw.fv hF 2 rfl rfl
      have f4 := Rlw.fv hF 4 rfl rfl
      have hb := Rlw.keep_below hK
      go_simp
      refine Rlw.yld_call ?_
      refine (HP.out _ (B4.out.trans (hb.mono B4.out.size))).mono ?_
      rintro e w9 ⟨rfl, b9⟩
      exact ⟨_, rfl, hp _ _ (Rlw.left_valB b9)⟩
    refine Rlw.wk rfl ?_ ?_
    · intro σ wx hK hF post hp
      have f1 := Rlw.fv hF 1 rfl rfl
      have f5 := Rlw.fv hF 5 rfl rfl
      go_simp
      exact Rlw.yv hp
    refine Rlw.wk rfl ?_ ?_
    · intro σ wx hK hF post hp
      have f6 := Rlw.fv hF 6 rfl rfl
      have hb := Rlw.keep_below hK
      refine Rlw.yld_getR 87 _ rfl (q := br) (off := or_ + j * 5) (by go_simp) (fun i v hv => HCR.out _ (B4.out.trans (hb.mono B4.out.size)) i v hv) _ Tryz.underlying87 rfl rfl ?_
      exact hp _ _ Rlw.left_val
    refine Rlw.wk rfl ?_ ?_
    · intro σ wx hK hF post hp
      go_simp
      refine Rlw.yld_val ?_
      exact hp _ _ (Rlw.left_box #[.string ⟨#[]⟩, .slice none 0 0, .int .i64 0, .int .i64 0, .int .i64 0] _)
    refine Rlw.wk rfl ?_ ?_
    · intro σ wx hK hF post hp
      have f8 : Rlw.boxF [.string ⟨#[]⟩, .slice none 0 0, .int .i64 0, .int .i64 0, .int .i64 0] (σ 8) wx := Rlw.fact_of hF (j := 8) rfl rfl
      have f7 := Rlw.fv hF 7 rfl rfl
      obtain ⟨q9, hq9, hb9⟩ := f8
      refine Rlw.yld_put 87 _ _ rfl (q := q9) (cells := #[.string r.nm, .slice ra r.rs.length rc9, .int .i64 r.q, .int .i64 r.m, .int .i64 r.i]) (by go_simp; try exact hq9) (by go_simp; try exact f7) hb9 rfl (by rfl) rfl ?_
      exact hp _ _ (Rlw.left_put rfl (by decide) hq9 hb9 rfl)
    exact Rlw.walk_nil
  · intro σ w5 hK hF hA
    have b9 : Below ((((w.alloc (.cells #[.int .i64 c.ip, .int .i64 c.b, .int .i64 c.gt, .string c.gm, .string c.wm, .int .i64 c.rs, .slice C.x c.ps.length C.xc, .slice (some ⟨br, or_, none⟩) c.ros.length C.yc] 35)).alloc (.cells #[.slice (some ⟨bu, ou, none⟩) h.us.length A.uc, .slice A.s h.ss.length A.sc, .slice A.f h.fs.length A.fc, .slice A.r h.es.length A.rc, .int .i64 h.nx] 42)).alloc (.cells #[.int .i64 0, .int .i64 0, .string ⟨#[]⟩, .int .i64 0, .int .i64 0, .int .i64 0, .int .i64 0, .int .i64 0, .int .i64 0, .int .i64 0] 48)).alloc (.cells #[.string u.nm, .string u.sa, .string u.ha, .string u.ro, .int .i64 u.bl, .int .i64 u.lg] 25)).heap.size ((((w.alloc (.cells #[.int .i64 c.ip, .int .i64 c.b, .int .i64 c.gt, .string c.gm, .string c.wm, .int .i64 c.rs, .slice C.x c.ps.length C.xc, .slice (some ⟨br, or_, none⟩) c.ros.length C.yc] 35)).alloc (.cells #[.slice (some ⟨bu, ou, none⟩) h.us.length A.uc, .slice A.s h.ss.length A.sc, .slice A.f h.fs.length A.fc, .slice A.r h.es.length A.rc, .int .i64 h.nx] 42)).alloc (.cells #[.int .i64 0, .int .i64 0, .string ⟨#[]⟩, .int .i64 0, .int .i64 0, .int .i64 0, .int .i64 0, .int .i64 0, .int .i64 0, .int .i64 0] 48)).alloc (.cells #[.string u.nm, .string u.sa, .string u.ha, .string u.ro, .int .i64 u.bl, .int .i64 u.lg] 25)) w5 := Rlw.keep_below hK
    have f9 : Rlw.boxF [.string r.nm, .slice ra r.rs.length rc9, .int .i64 r.q, .int .i64 r.m, .int .i64 r.i] (σ 8) w5 := Rlw.fact_of hF (j := 9) rfl rfl
    obtain ⟨q9, hq9, N5⟩ := f9
    have P5 : Hid (Bx w5 w.heap.size [.int .i64 c.ip, .int .i64 c.b, .int .i64 c.gt, .string c.gm, .string c.wm, .int .i64 c.rs, .slice C.x c.ps.length C.xc, .slice (some ⟨br, or_, none⟩) c.ros.length C.yc]) := P4.out.below b9
    have G5 : Hid (Bx w5 (w.heap.size + 1) [.slice (some ⟨bu, ou, none⟩) h.us.length A.uc, .slice A.s h.ss.length A.sc, .slice A.f h.fs.length A.fc, .slice A.r h.es.length A.rc, .int .i64 h.nx]) := G4.out.below b9
    have S5 : Hid (Bx w5 (w.heap.size + 1 + 1) [.int .i64 0, .int .i64 0, .string ⟨#[]⟩, .int .i64 0, .int .i64 0, .int .i64 0, .int .i64 0, .int .i64 0, .int .i64 0, .int .i64 0]) := S4.out.below b9
    have U5 : Hid (Bx w5 (w.heap.size + 1 + 1 + 1) [.string u.nm, .string u.sa, .string u.ha, .string u.ro, .int .i64 u.bl, .int .i64 u.lg]) := U4.out.below b9
    have B5 : Hid (Below w.heap.size w w5) := B4.out.trans (b9.mono B4.out.size)
    have R5 : Hid (Bx w5 q9 [.string r.nm, .slice ra r.rs.length rc9, .int .i64 r.q, .int .i64 r.m, .int .i64 r.i]) := N5
    simp only [Rlw.putAll, Nat.zero_add, Nat.reduceAdd, hq9]
    clear hF hA hK hq9 N5 b9 P4 G4 S4 U4 B4 B3 HP HCR
    have g4 := G5.out.cell 4 rfl
    have r2 := R5.out.cell 2 rfl
    have r3 := R5.out.cell 3 rfl
    have r4 := R5.out.cell 4 rfl
    have u4 := U5.out.cell 4 rfl
    go_simp
    go_wp2_with (first | (refine wpl_putT 48 rfl _ _ rfl (w.heap.size + 1 + 1) _ rfl rfl S5.out rfl rfl rfl ?_; intro W6 hw6 R6; have B6 : Hid (Below w.heap.size w W6) := (by rw [hw6]; exact below_cells (by omega) _ _ _ B5.out); clear hw6) | fail)
    refine bodyPost_ret (v := .agg #[.int .i64 h.nx, .int .i64 (m : Int), .string ⟨#[]⟩, .int .i64 0, .int .i64 now, .int .i64 now, .int .i64 0, .int .i64 (min r.q u.bl), .int .i64 (now + r.m), .int .i64 r.i]) (results_cell Tryz.results28 (w.heap.size + 1 + 1) rfl R6 _ Tryz.underlying48 rfl rfl) rfl ?_
    exact ⟨rfl, B6.out⟩
set_option maxHeartbeats 2000000 in
theorem idxSessG_any (f : Nat) (eg : ∀ args w, (callFunc f args).run Tryz.prog w = .ok (.enter f args) w) (y : Option Addr) (n c : Nat) (xs : List SessV) (p : SessV → Bool) (B0 : Nat) (w : World) (h : Rw SeR 10 w y xs) (hl : xs.length = n) (hn : n ≤ 9223372036854775807)
    (hp : ∀ z, z ∈ xs → ∀ W, Below w.heap.size w W → Calls Tryz.prog f #[.agg #[.int .i64 z.id, .int .i64 z.us, .string z.mc, .int .i64 z.ip, .int .i64 z.be, .int .i64 z.la, .int .i64 z.ud, .int .i64 z.qu, .int .i64 z.un, .int .i64 z.il], .pointer (some ⟨B0, 0, none⟩)] W fun e w' => e = .returned (.bool (p z)) ∧ Grw W w') :
    Calls Tryz.prog 80 #[.slice y n c, .func (.func f) #[] #[.pointer (some ⟨B0, 0, none⟩)]] w fun e w' => e = .returned (.int .i64 (ixI p xs)) ∧ Grw w w' := by
  have RY : Hid (Rw SeR 10 w y xs) := h
  have HP0 : Hid (∀ z, z ∈ xs → ∀ W, Below w.heap.size w W → Calls Tryz.prog f #[.agg #[.int .i64 z.id, .int .i64 z.us, .string z.mc, .int .i64 z.ip, .int .i64 z.be, .int .i64 z.la, .int .i64 z.ud, .int .i64 z.qu, .int .i64 z.un, .int .i64 z.il], .pointer (some ⟨B0, 0, none⟩)] W fun e w' => e = .returned (.bool (p z)) ∧ Grw W w') := hp
  clear h hp
  go_enter Tryz.func80, Tryz.ntmps80
  go_wp2
  go_loopw [8] (fun u wr => ∃ k : Nat, k ≤ n ∧ u = .int .i64 k ∧ Hid ((xs.take k).find? p = none) ∧ Hid (Grw w wr)) (fun u _ => n - (intOf u).toNat)
  case atStart => exact ⟨0, Nat.zero_le _, rfl, rfl, Grw.refl _⟩
  case round =>
    obtain ⟨k, hk, rfl, HO, HG⟩ := hrel
    by_cases hlt : k < n
    · obtain ⟨z, hx⟩ := at_of hl hlt
      obtain ⟨bk, off, vs, rfl, hb, hvl, hR, hc⟩ := RY.out.at SeR.kp HG.out.below hx
      have HY : Hid (p z = true → ixI p xs = k) := fun h => ixI_at hx HO.out h
      have HN : Hid (p z = false → (xs.take (k + 1)).find? p = none) := fun h => ixI_no hx HO.out h
      obtain ⟨rfl, -⟩ := hR
      have q0 : wr.cell? ⟨bk, off + k * 10, none⟩ = some (.int .i64 z.id) := hc 0 _ rfl
      have q1 : wr.cell? ⟨bk, off + k * 10 + 1, none⟩ = some (.int .i64 z.us) := hc 1 _ rfl
      have q2 : wr.cell? ⟨bk, off + k * 10 + 2, none⟩ = some (.string z.mc) := hc 2 _ rfl
      have q3 : wr.cell? ⟨bk, off + k * 10 + 3, none⟩ = some (.int .i64 z.ip) := hc 3 _ rfl
      have q4 : wr.cell? ⟨bk, off + k * 10 + 4, none⟩ = some (.int .i64 z.be) := hc 4 _ rfl
      have q5 : wr.cell? ⟨bk, off + k * 10 + 5, none⟩ = some (.int .i64 z.la) := hc 5 _ rfl
      have q6 : wr.cell? ⟨bk, off + k * 10 + 6, none⟩ = some (.int .i64 z.ud) := hc 6 _ rfl
      have q7 : wr.cell? ⟨bk, off + k * 10 + 7, none⟩ = some (.int .i64 z.qu) := hc 7 _ rfl
      have q8 : wr.cell? ⟨bk, off + k * 10 + 8, none⟩ = some (.int .i64 z.un) := hc 8 _ rfl
      have q9 : wr.cell? ⟨bk, off + k * 10 + 9, none⟩ = some (.int .i64 z.il) := hc 9 _ rfl
      have hltz : (k : Int) < (n : Int) := by omega
      have HP : Hid (∀ W, Grw w W → Calls Tryz.prog f #[.agg #[.int .i64 z.id, .int .i64 z.us, .string z.mc, .int .i64 z.ip, .int .i64 z.be, .int .i64 z.la, .int .i64 z.ud, .int .i64 z.qu, .int .i64 z.un, .int .i64 z.il], .pointer (some ⟨B0, 0, none⟩)] W fun e w' => e = .returned (.bool (p z)) ∧ Grw W w') := fun W g => HP0.out z (List.mem_of_getElem? hx) W g.below
      generalize p z = u at HY HN HP
      clear hc hvl hx
      cases u with
      | false =>
        have HN' : Hid ((xs.take (k + 1)).find? p = none) := HN.out rfl
        clear HY HN
        go_wp2_with (go_at_fn f; refine (HP.out _ HG.out).mono ?_; rintro e w' ⟨rfl, g1⟩)
        have HG1 : Hid (Grw w _) := HG.out.trans g1
        clear g1 HG
        go_roundw
        case rel => exact ⟨k + 1, by omega, by go_num, HN', HG1⟩
        case measure => simp [intOf]; omega
      | true =>
        have HY' : Hid (ixI p xs = k) := HY.out rfl
        clear HY HN
        go_wp2_with (go_at_fn f; refine (HP.out _ HG.out).mono ?_; rintro e w' ⟨rfl, g1⟩)
        go_ret
        exact ⟨by rw [HY'.out]; rfl, HG.out.trans g1⟩
    · obtain rfl : k = n := by omega
      have hd : Hid (ixI p xs = -1) := ixI_end hl HO.out
      go_wp2
      go_ret
      exact ⟨by rw [hd.out]; rfl, HG.out⟩

theorem clash1_any (x z : SessV) (m : Nat) (B : Nat) (w : World) (h1 : w.cell? ⟨B, 1, none⟩ = some (.int .i64 (m : Int))) (h2 : w.cell? ⟨B, 2, none⟩ = some (.string x.mc)) (h3 : w.cell? ⟨B, 3, none⟩ = some (.int .i64 x.ip)) :
    Calls Tryz.prog 54 #[.agg #[.int .i64 z.id, .int .i64 z.us, .string z.mc, .int .i64 z.ip, .int .i64 z.be, .int .i64 z.la, .int .i64 z.ud, .int .i64 z.qu, .int .i64 z.un, .int .i64 z.il], .pointer (some ⟨B, 0, none⟩)] w fun e w' => e = .returned (.bool (clB m x.mc x.ip z)) ∧ Grw w w' := by
  have c1 := acell h1 (.cells #[.int .i64 z.id, .int .i64 z.us, .string z.mc, .int .i64 z.ip, .int .i64 z.be, .int .i64 z.la, .int .i64 z.ud, .int .i64 z.qu, .int .i64 z.un, .int .i64 z.il] 48)
  have c2 := acell h2 (.cells #[.int .i64 z.id, .int .i64 z.us, .string z.mc, .int .i64 z.ip, .int .i64 z.be, .int .i64 z.la, .int .i64 z.ud, .int .i64 z.qu, .int .i64 z.un, .int .i64 z.il] 48)
  have c3 := acell h3 (.cells #[.int .i64 z.id, .int .i64 z.us, .string z.mc, .int .i64 z.ip, .int .i64 z.be, .int .i64 z.la, .int .i64 z.ud, .int .i64 z.qu, .int .i64 z.un, .int .i64 z.il] 48)
  unfold clB
  obtain ⟨p, hp⟩ : ∃ p, (z.us == (m : Int)) = p := ⟨_, rfl⟩
  obtain ⟨q, hq⟩ : ∃ q, (z.mc.toList == x.mc.toList) = q := ⟨_, rfl⟩
  obtain ⟨r, hr⟩ : ∃ r, (z.ip == x.ip) = r := ⟨_, rfl⟩
  rw [hp, hq, hr]
  cases p <;> cases q <;>
  · go_enter Tryz.func54, Tryz.ntmps54
    go_wp2
    go_ret
    exact ⟨by first | rfl | simp [hr], (Grw.refl _).alloc _⟩
set_option maxHeartbeats 1000000 in
theorem contSess_any (f : Nat) (eg : ∀ args w, (callFunc f args).run Tryz.prog w = .ok (.enter f args) w) (y : Option Addr) (n c : Nat) (xs : List SessV) (p : SessV → Bool) (B0 : Nat) (w : World) (h : Rw SeR 10 w y xs) (hl : xs.length = n) (hn : n ≤ 9223372036854775807)
    (hp : ∀ z, z ∈ xs → ∀ W, Below w.heap.size w W → Calls Tryz.prog f #[.agg #[.int .i64 z.id, .int .i64 z.us, .string z.mc, .int .i64 z.ip, .int .i64 z.be, .int .i64 z.la, .int .i64 z.ud, .int .i64 z.qu, .int .i64 z.un, .int .i64 z.il], .pointer (some ⟨B0, 0, none⟩)] W fun e w' => e = .returned (.bool (p z)) ∧ Grw W w') :
    Calls Tryz.prog 53 #[.slice y n c, .func (.func f) #[] #[.pointer (some ⟨B0, 0, none⟩)]] w fun e w' => e = .returned (.bool (xs.any p)) ∧ Grw w w' := by
  have HI : Hid (∀ W, Grw w W → Calls Tryz.prog 80 #[.slice y n c, .func (.func f) #[] #[.pointer (some ⟨B0, 0, none⟩)]] W fun e w' => e = .returned (.int .i64 (ixI p xs)) ∧ Grw W w') := fun W g => idxSessG_any f eg y n c xs p B0 W (h.keep SeR.kp g.below) hl hn (fun z hz W2 b2 => hp z hz W2 (g.below.trans (b2.mono g.below.size)))
  have hq : decide (0 ≤ ixI p xs) = xs.any p := ixI_pos
  clear h hp
  generalize ixI p xs = r at HI hq
  go_enter Tryz.func53, Tryz.ntmps53
  go_wp2_with fail
  refine (HI.out _ (Grw.refl w)).mono ?_
  rintro e w2 ⟨rfl, g1⟩
  go_wp2
  go_ret
  exact ⟨by rw [← hq]; rfl, g1⟩
set_option maxHeartbeats 4000000 in
theorem beginFault_any (A : HuA) (h : HuV) (x : SessV) (m : Nat) (u : UserV) (w : World) (rh : HuR w A h) (hs : h.ss.length ≤ 3) (he : h.es.length ≤ 60) (hm : x.us = (m : Int)) (hu : h.us[m]? = some u) :
    Calls Tryz.prog 29 #[.agg #[.slice A.u h.us.length A.uc, .slice A.s h.ss.length A.sc, .slice A.f h.fs.length A.fc, .slice A.r h.es.length A.rc, .int .i64 h.nx], .agg #[.int .i64 x.id, .int .i64 x.us, .string x.mc, .int .i64 x.ip, .int .i64 x.be, .int .i64 x.la, .int .i64 x.ud, .int .i64 x.qu, .int .i64 x.un, .int .i64 x.il]] w fun e w' => e = .returned (.int .i64 (lgF h u m x.mc x.ip)) ∧ Below w.heap.size w w' := by
  obtain ⟨bu, ou, eu, hbu, hcu⟩ := rw_hold (c := uvG) (ok := UsRok) rh.us hu
  have HCU : Hid (∀ wx, Below w.heap.size w wx → ∀ j v, ([.string u.nm, .string u.sa, .string u.ha, .string u.ro, .int .i64 u.bl, .int .i64 u.lg] : List Value)[j]? = some v → wx.cell? ⟨bu, ou + m * 6 + j, none⟩ = some v) := hcu
  have hml : (m : Int) < (h.us.length : Int) := by have := (List.getElem?_eq_some_iff.1 hu).1; omega
  have HC : Hid (∀ (B0 : Nat) wx, Below w.heap.size w wx → wx.cell? ⟨B0, 1, none⟩ = some (.int .i64 (m : Int)) → wx.cell? ⟨B0, 2, none⟩ = some (.string x.mc) → wx.cell? ⟨B0, 3, none⟩ = some (.int .i64 x.ip) → Calls Tryz.prog 53 #[.slice A.s h.ss.length A.sc, .func (.func 54) #[] #[.pointer (some ⟨B0, 0, none⟩)]] wx fun e w' => e = .returned (.bool (h.ss.any (clB m x.mc x.ip))) ∧ Grw wx w') := fun B0 wx hb h1 h2 h3 => contSess_any 54 (enters_of Tryz.func54 (by kernel_rfl) rfl) A.s h.ss.length A.sc h.ss (clB m x.mc x.ip) B0 wx (rh.below hb).ss rfl (by omega) (fun z _ W b => clash1_any x z m B0 W (bkeep b h1) (bkeep b h2) (bkeep b h3))
  clear hcu hu
  rw [eu]
  have B2 : Hid (Below w.heap.size w ((w.alloc (.cells #[.slice (some ⟨bu, ou, none⟩) h.us.length A.uc, .slice A.s h.ss.length A.sc, .slice A.f h.fs.length A.fc, .slice A.r h.es.length A.rc, .int .i64 h.nx] 42)).alloc (.cells #[.int .i64 x.id, .int .i64 x.us, .string x.mc, .int .i64 x.ip, .int .i64 x.be, .int .i64 x.la, .int .i64 x.ud, .int .i64 x.qu, .int .i64 x.un, .int .i64 x.il] 48))) := ((Below.refl _ _).alloc (Nat.le_refl _) _).alloc (by simp) _
  have B3 : Hid (Below w.heap.size w (((w.alloc (.cells #[.slice (some ⟨bu, ou, none⟩) h.us.length A.uc, .slice A.s h.ss.length A.sc, .slice A.f h.fs.length A.fc, .slice A.r h.es.length A.rc, .int .i64 h.nx] 42)).alloc (.cells #[.int .i64 x.id, .int .i64 x.us, .string x.mc, .int .i64 x.ip, .int .i64 x.be, .int .i64 x.la, .int .i64 x.ud, .int .i64 x.qu, .int .i64 x.un, .int .i64 x.il] 48)).alloc (.cells #[.string u.nm, .string u.sa, .string u.ha, .string u.ro, .int .i64 u.bl, .int .i64 u.lg] 25))) := B2.out.alloc (by simp; omega) _
  have hcu := HCU.out _ B2.out
  have G3 : Hid (Bx (((w.alloc (.cells #[.slice (some ⟨bu, ou, none⟩) h.us.length A.uc, .slice A.s h.ss.length A.sc, .slice A.f h.fs.length A.fc, .slice A.r h.es.length A.rc, .int .i64 h.nx] 42)).alloc (.cells #[.int .i64 x.id, .int .i64 x.us, .string x.mc, .int .i64 x.ip, .int .i64 x.be, .int .i64 x.la, .int .i64 x.ud, .int .i64 x.qu, .int .i64 x.un, .int .i64 x.il] 48)).alloc (.cells #[.string u.nm, .string u.sa, .string u.ha, .string u.ro, .int .i64 u.bl, .int .i64 u.lg] 25)) w.heap.size [.slice (some ⟨bu, ou, none⟩) h.us.length A.uc, .slice A.s h.ss.length A.sc, .slice A.f h.fs.length A.fc, .slice A.r h.es.length A.rc, .int .i64 h.nx]) := ((Bx.new w #[.slice (some ⟨bu, ou, none⟩) h.us.length A.uc, .slice A.s h.ss.length A.sc, .slice A.f h.fs.length A.fc, .slice A.r h.es.length A.rc, .int .i64 h.nx] 42).below ((Below.refl _ _).alloc (Nat.le_refl _) _)).below ((Below.refl _ _).alloc (Nat.le_refl _) _)
  have S3 : Hid (Bx (((w.alloc (.cells #[.slice (some ⟨bu, ou, none⟩) h.us.length A.uc, .slice A.s h.ss.length A.sc, .slice A.f h.fs.length A.fc, .slice A.r h.es.length A.rc, .int .i64 h.nx] 42)).alloc (.cells #[.int .i64 x.id, .int .i64 x.us, .string x.mc, .int .i64 x.ip, .int .i64 x.be, .int .i64 x.la, .int .i64 x.ud, .int .i64 x.qu, .int .i64 x.un, .int .i64 x.il] 48)).alloc (.cells #[.string u.nm, .string u.sa, .string u.ha, .string u.ro, .int .i64 u.bl, .int .i64 u.lg] 25)) (w.heap.size + 1) [.int .i64 x.id, .int .i64 x.us, .string x.mc, .int .i64 x.ip, .int .i64 x.be, .int .i64 x.la, .int .i64 x.ud, .int .i64 x.qu, .int .i64 x.un, .int .i64 x.il]) := by
    have h := Bx.new (w.alloc (.cells #[.slice (some ⟨bu, ou, none⟩) h.us.length A.uc, .slice A.s h.ss.length A.sc, .slice A.f h.fs.length A.fc, .slice A.r h.es.length A.rc, .int .i64 h.nx] 42)) #[.int .i64 x.id, .int .i64 x.us, .string x.mc, .int .i64 x.ip, .int .i64 x.be, .int .i64 x.la, .int .i64 x.ud, .int .i64 x.qu, .int .i64 x.un, .int .i64 x.il] 48
    rw [World.size_alloc] at h
    exact h.below ((Below.refl _ _).alloc (Nat.le_refl _) _)
  have U3 : Hid (Bx (((w.alloc (.cells #[.slice (some ⟨bu, ou, none⟩) h.us.length A.uc, .slice A.s h.ss.length A.sc, .slice A.f h.fs.length A.fc, .slice A.r h.es.length A.rc, .int .i64 h.nx] 42)).alloc (.cells #[.int .i64 x.id, .int .i64 x.us, .string x.mc, .int .i64 x.ip, .int .i64 x.be, .int .i64 x.la, .int .i64 x.ud, .int .i64 x.qu, .int .i64 x.un, .int .i64 x.il] 48)).alloc (.cells #[.string u.nm, .string u.sa, .string u.ha, .string u.ro, .int .i64 u.bl, .int .i64 u.lg] 25)) (w.heap.size + 1 + 1) [.string u.nm, .string u.sa, .string u.ha, .string u.ro, .int .i64 u.bl, .int .i64 u.lg]) := by
    have h := Bx.new ((w.alloc (.cells #[.slice (some ⟨bu, ou, none⟩) h.us.length A.uc, .slice A.s h.ss.length A.sc, .slice A.f h.fs.length A.fc, .slice A.r h.es.length A.rc, .int .i64 h.nx] 42)).alloc (.cells #[.int .i64 x.id, .int .i64 x.us, .string x.mc, .int .i64 x.ip, .int .i64 x.be, .int .i64 x.la, .int .i64 x.ud, .int .i64 x.qu, .int .i64 x.un, .int .i64 x.il] 48)) #[.string u.nm, .string u.sa, .string u.ha, .string u.ro, .int .i64 u.bl, .int .i64 u.lg] 25
    rw [World.size_alloc, World.size_alloc] at h
    exact h
  clear HCU eu rh
  rw [hm] at B2 B3 S3 U3 G3 hcu ⊢
  unfold lgF
  by_cases h1 : u.lg = 0
  · rw [if_pos (.inl h1)]
    have hd1 : (u.lg == 0) = true := by rw [h1]; rfl
    clear h1
    go_enter Tryz.func29, Tryz.ntmps29
    go_wp2_with (first | (refine wpList_load_mid rfl 25 _ rfl bu (ou + m * 6) rfl [.string u.nm, .string u.sa, .string u.ha, .string u.ro, .int .i64 u.bl, .int .i64 u.lg] _ (fun j u hu => hcu j u hu) Tryz.underlying25 rfl rfl ?_) | fail)
    go_ret
    exact ⟨rfl, B3.out⟩
  have hd1 : (u.lg == 0) = false := by simpa using h1
  by_cases h2 : u.bl = 0
  · rw [if_pos (.inr h2)]
    have hd2 : (u.bl == 0) = true := by rw [h2]; rfl
    clear h1 h2
    go_enter Tryz.func29, Tryz.ntmps29
    go_wp2_with (first | (refine wpList_load_mid rfl 25 _ rfl bu (ou + m * 6) rfl [.string u.nm, .string u.sa, .string u.ha, .string u.ro, .int .i64 u.bl, .int .i64 u.lg] _ (fun j u hu => hcu j u hu) Tryz.underlying25 rfl rfl ?_) | fail)
    go_ret
    exact ⟨rfl, B3.out⟩
  have hd2 : (u.bl == 0) = false := by simpa using h2
  rw [if_neg (by rintro (h | h); exact h1 h; exact h2 h)]
  clear h1 h2
  obtain ⟨T, hT⟩ : ∃ T, T = h.ss.any (clB m x.mc x.ip) := ⟨_, rfl⟩
  rw [← hT] at HC ⊢
  clear hT
  have s1 := S3.out.cell 1 rfl
  have s2 := S3.out.cell 2 rfl
  have s3 := S3.out.cell 3 rfl
  have g1 := G3.out.cell 1 rfl
  have HQ := HC.out _ _ B3.out s1 s2 s3
  clear HC
  cases T with
  | true =>
    rw [if_pos rfl]
    go_enter Tryz.func29, Tryz.ntmps29
    go_wp2_with (first | (refine wpList_load_mid rfl 25 _ rfl bu (ou + m * 6) rfl [.string u.nm, .string u.sa, .string u.ha, .string u.ro, .int .i64 u.bl, .int .i64 u.lg] _ (fun j u hu => hcu j u hu) Tryz.underlying25 rfl rfl ?_) | fail)
    refine HQ.mono ?_
    rintro e w4 ⟨rfl, b4⟩
    have B4 : Hid (Below w.heap.size w w4) := B3.out.trans (b4.below.mono B3.out.size)
    clear b4
    go_wp2
    go_ret
    exact ⟨rfl, B4.out⟩
  | false =>
    rw [if_neg (by simp)]
    by_cases h3 : h.ss.length = 3 ∨ 60 < h.es.length + h.ss.length + 2 ∨ h.nx = 10000
    · rw [if_pos h3]
      have hor : ((((h.ss.length : Int) == 3) || decide (58 < (h.es.length : Int) + (h.ss.length : Int))) || (h.nx == 10000)) = true := by
        simp only [Bool.or_eq_true, decide_eq_true_eq, beq_iff_eq]
        omega
      obtain ⟨q1, hq1⟩ : ∃ q, ((h.ss.length : Int) == 3) = q := ⟨_, rfl⟩
      obtain ⟨q2, hq2⟩ : ∃ q, decide (58 < (h.es.length : Int) + (h.ss.length : Int)) = q := ⟨_, rfl⟩
      obtain ⟨q3, hq3⟩ : ∃ q, (h.nx == 10000) = q := ⟨_, rfl⟩
      rw [hq1, hq2, hq3] at hor
      clear h3
      have hw9 : IntKind.i64.wrap ((h.es.length : Int) + (h.ss.length : Int)) = (h.es.length : Int) + (h.ss.length : Int) := by rw [IntKind.wrap_i64]; omega
      go_enter Tryz.func29, Tryz.ntmps29
      go_wp2_with (first | (refine wpList_load_mid rfl 25 _ rfl bu (ou + m * 6) rfl [.string u.nm, .string u.sa, .string u.ha, .string u.ro, .int .i64 u.bl, .int .i64 u.lg] _ (fun j u hu => hcu j u hu) Tryz.underlying25 rfl rfl ?_) | fail)
      refine HQ.mono ?_
      rintro e w4 ⟨rfl, b4⟩
      have B4 : Hid (Below w.heap.size w w4) := B3.out.trans (b4.below.mono B3.out.size)
      have G4 := G3.out.below b4.below
      have g1 := G4.cell 1 rfl
      have g3 := G4.cell 3 rfl
      have g4 := G4.cell 4 rfl
      clear b4 G4
      cases q1 <;> cases q2 <;> cases q3 <;> first
        | (simp at hor; done)
        | (go_wp2
           go_ret
           exact ⟨rfl, B4.out⟩)
    · rw [if_neg h3]
      have hq1 : ((h.ss.length : Int) == 3) = false := by simp; omega
      have hq2 : decide (58 < (h.es.length : Int) + (h.ss.length : Int)) = false := by simp; omega
      have hq3 : (h.nx == 10000) = false := by simp; omega
      have hw9 : IntKind.i64.wrap ((h.es.length : Int) + (h.ss.length : Int)) = (h.es.length : Int) + (h.ss.length : Int) := by rw [IntKind.wrap_i64]; omega
      clear h3
      go_enter Tryz.func29, Tryz.ntmps29
      go_wp2_with (first | (refine wpList_load_mid rfl 25 _ rfl bu (ou + m * 6) rfl [.string u.nm, .string u.sa, .string u.ha, .string u.ro, .int .i64 u.bl, .int .i64 u.lg] _ (fun j u hu => hcu j u hu) Tryz.underlying25 rfl rfl ?_) | fail)
      refine HQ.mono ?_
      rintro e w4 ⟨rfl, b4⟩
      have B4 : Hid (Below w.heap.size w w4) := B3.out.trans (b4.below.mono B3.out.size)
      have G4 := G3.out.below b4.below
      have g1 := G4.cell 1 rfl
      have g3 := G4.cell 3 rfl
      have g4 := G4.cell 4 rfl
      clear b4 G4
      go_wp2
      go_ret
      exact ⟨rfl, B4.out⟩
end Go.Proofs.YtnlepjcjakghcaaGreatDoor
