/- The walk of laws.FnExactExpireSessions, over what both sides answer. -/
import Derived.Test.YtmeejholckelgaaGreatE41
namespace Go.Proofs.YtmeejholckelgaaGreat
open Go.RowKit Go.PlainAid Go.Proofs.YtmeejholckelgaaGreat.Bt Go.Sort
set_option linter.unusedVariables false
set_option maxRecDepth 20000
set_option maxHeartbeats 8000000 in
theorem lawExpireSessions_of (C : CfA) (c : CfV) (A : HuA) (h : HuV) (now : Int) (G : HuV) (IL : List Int) (IN : Nat) (k : Int) (w : World) (rC : CfR w C c) (bC : CfBd C c) (rA : HuR w A h) (bA : HuBd A h) (hIN : IN ≤ 1048576) (hLN : IL.length = IN) (hIL : ∀ x, x ∈ IL → InRok x) (hG : HuOk G) (lG : CfSz c → HuSz h → HuLn G)
    (hS : CfSz c → HuSz h → ∀ (C' : CfA) (L0 : List RoX) (A' : HuA) (B0 B1 : Nat) (w : World), OwnCf w B0 C' c L0 → OwnHu w B1 A' h → Calls Tryz.prog 17 #[.agg #[.int .i64 c.ip, .int .i64 c.b, .int .i64 c.gt, .string c.gm, .string c.wm, .int .i64 c.rs, .slice C'.x c.ps.length C'.xc, .slice C'.y c.ros.length C'.yc], .agg #[.slice A'.u h.us.length A'.uc, .slice A'.s h.ss.length A'.sc, .slice A'.f h.fs.length A'.fc, .slice A'.r h.es.length A'.rc, .int .i64 h.nx], .int .i64 now] w fun e w' => ∃ (R : HuA) (ia : Option Addr) (ic : Nat), e = .returned (.tuple #[.agg #[.slice R.u G.us.length R.uc, .slice R.s G.ss.length R.sc, .slice R.f G.fs.length R.fc, .slice R.r G.es.length R.rc, .int .i64 G.nx], .slice ia IN ic, .int .i64 k]) ∧ OwnHu w' w.heap.size R G ∧ OwnR w' w.heap.size ia IN ic IL ∧ Below w.heap.size w w')
    (hI : CfSz c → HuSz h → ∀ (C' : CfA) (L0 : List RoX) (A' : HuA) (B0 B1 : Nat) (w : World), OwnCf w B0 C' c L0 → OwnHu w B1 A' h → Calls Tryz.prog 18 #[.agg #[.int .i64 c.ip, .int .i64 c.b, .int .i64 c.gt, .string c.gm, .string c.wm, .int .i64 c.rs, .slice C'.x c.ps.length C'.xc, .slice C'.y c.ros.length C'.yc], .agg #[.slice A'.u h.us.length A'.uc, .slice A'.s h.ss.length A'.sc, .slice A'.f h.fs.length A'.fc, .slice A'.r h.es.length A'.rc, .int .i64 h.nx], .int .i64 now] w fun e w' => ∃ (R : HuA) (ia : Option Addr) (ic : Nat), e = .returned (.tuple #[.agg #[.slice R.u G.us.length R.uc, .slice R.s G.ss.length R.sc, .slice R.f G.fs.length R.fc, .slice R.r G.es.length R.rc, .int .i64 G.nx], .slice ia IN ic, .int .i64 k]) ∧ OwnHu w' w.heap.size R G ∧ OwnR w' w.heap.size ia IN ic IL ∧ Below w.heap.size w w') :
    Calls Tryz.prog 4 #[.agg #[.int .i64 c.ip, .int .i64 c.b, .int .i64 c.gt, .string c.gm, .string c.wm, .int .i64 c.rs, .slice C.x c.ps.length C.xc, .slice C.y c.ros.length C.yc], .agg #[.slice A.u h.us.length A.uc, .slice A.s h.ss.length A.sc, .slice A.f h.fs.length A.fc, .slice A.r h.es.length A.rc, .int .i64 h.nx], .int .i64 now] w fun e w' => e = .returned (.bool true) ∧ Below w.heap.size w w' := by
  have RC : Hid (CfR w C c) := rC
  have HKC : Hid (CfOk c) := rC.ok
  have HZC : Hid (∀ w, CfR w C c → Calls Tryz.prog 6 #[.agg #[.int .i64 c.ip, .int .i64 c.b, .int .i64 c.gt, .string c.gm, .string c.wm, .int .i64 c.rs, .slice C.x c.ps.length C.xc, .slice C.y c.ros.length C.yc], .int .i64 1048576] w fun e w' => ∃ r : Int, e = .returned (.int .i64 r) ∧ (0 ≤ r → CfSz c) ∧ (r ≤ 1048576) ∧ Below w.heap.size w w') := fun w hh => cf_sz C c w hh bC
  have RA : Hid (HuR w A h) := rA
  have HKH : Hid (HuOk h) := rA.ok
  have HZA : Hid (∀ (l : Int) w, HuR w A h → 0 ≤ l → l ≤ 1048576 → Calls Tryz.prog 7 #[.agg #[.slice A.u h.us.length A.uc, .slice A.s h.ss.length A.sc, .slice A.f h.fs.length A.fc, .slice A.r h.es.length A.rc, .int .i64 h.nx], .int .i64 l] w fun e w' => ∃ r : Int, e = .returned (.int .i64 r) ∧ (0 ≤ r → HuSz h) ∧ (r ≤ 1048576) ∧ Below w.heap.size w w') := fun l w hh => hu_sz A h l w hh bA
  have HS0 : Hid (CfSz c → HuSz h → ∀ (C' : CfA) (L0 : List RoX) (A' : HuA) (B0 B1 : Nat) (w : World), OwnCf w B0 C' c L0 → OwnHu w B1 A' h → Calls Tryz.prog 17 #[.agg #[.int .i64 c.ip, .int .i64 c.b, .int .i64 c.gt, .string c.gm, .string c.wm, .int .i64 c.rs, .slice C'.x c.ps.length C'.xc, .slice C'.y c.ros.length C'.yc], .agg #[.slice A'.u h.us.length A'.uc, .slice A'.s h.ss.length A'.sc, .slice A'.f h.fs.length A'.fc, .slice A'.r h.es.length A'.rc, .int .i64 h.nx], .int .i64 now] w fun e w' => ∃ (R : HuA) (ia : Option Addr) (ic : Nat), e = .returned (.tuple #[.agg #[.slice R.u G.us.length R.uc, .slice R.s G.ss.length R.sc, .slice R.f G.fs.length R.fc, .slice R.r G.es.length R.rc, .int .i64 G.nx], .slice ia IN ic, .int .i64 k]) ∧ OwnHu w' w.heap.size R G ∧ OwnR w' w.heap.size ia IN ic IL ∧ Below w.heap.size w w') := hS
  have HI0 : Hid (CfSz c → HuSz h → ∀ (C' : CfA) (L0 : List RoX) (A' : HuA) (B0 B1 : Nat) (w : World), OwnCf w B0 C' c L0 → OwnHu w B1 A' h → Calls Tryz.prog 18 #[.agg #[.int .i64 c.ip, .int .i64 c.b, .int .i64 c.gt, .string c.gm, .string c.wm, .int .i64 c.rs, .slice C'.x c.ps.length C'.xc, .slice C'.y c.ros.length C'.yc], .agg #[.slice A'.u h.us.length A'.uc, .slice A'.s h.ss.length A'.sc, .slice A'.f h.fs.length A'.fc, .slice A'.r h.es.length A'.rc, .int .i64 h.nx], .int .i64 now] w fun e w' => ∃ (R : HuA) (ia : Option Addr) (ic : Nat), e = .returned (.tuple #[.agg #[.slice R.u G.us.length R.uc, .slice R.s G.ss.length R.sc, .slice R.f G.fs.length R.fc, .slice R.r G.es.length R.rc, .int .i64 G.nx], .slice ia IN ic, .int .i64 k]) ∧ OwnHu w' w.heap.size R G ∧ OwnR w' w.heap.size ia IN ic IL ∧ Below w.heap.size w w') := hI
  have LG0 : Hid (CfSz c → HuSz h → HuLn G) := lG
  have OKG : Hid (HuOk G) := hG
  have OKI : Hid (∀ x, x ∈ IL → InRok x) := hIL
  have hIL9 : Hid (IL.length = IN) := hLN
  clear hIL hLN
  clear rC bC rA bA hS hI lG hG
  have P0C : Hid (Bx ((w.alloc (.cells #[.int .i64 c.ip, .int .i64 c.b, .int .i64 c.gt, .string c.gm, .string c.wm, .int .i64 c.rs, .slice C.x c.ps.length C.xc, .slice C.y c.ros.length C.yc] 27)).alloc (.cells #[.slice A.u h.us.length A.uc, .slice A.s h.ss.length A.sc, .slice A.f h.fs.length A.fc, .slice A.r h.es.length A.rc, .int .i64 h.nx] 33)) (w.heap.size) [.int .i64 c.ip, .int .i64 c.b, .int .i64 c.gt, .string c.gm, .string c.wm, .int .i64 c.rs, .slice C.x c.ps.length C.xc, .slice C.y c.ros.length C.yc]) := by
    have h := Bx.new w #[.int .i64 c.ip, .int .i64 c.b, .int .i64 c.gt, .string c.gm, .string c.wm, .int .i64 c.rs, .slice C.x c.ps.length C.xc, .slice C.y c.ros.length C.yc] 27
    exact h.below ((Below.refl _ _).alloc (Nat.le_refl _) _)
  have P0A : Hid (Bx ((w.alloc (.cells #[.int .i64 c.ip, .int .i64 c.b, .int .i64 c.gt, .string c.gm, .string c.wm, .int .i64 c.rs, .slice C.x c.ps.length C.xc, .slice C.y c.ros.length C.yc] 27)).alloc (.cells #[.slice A.u h.us.length A.uc, .slice A.s h.ss.length A.sc, .slice A.f h.fs.length A.fc, .slice A.r h.es.length A.rc, .int .i64 h.nx] 33)) (w.heap.size + 1) [.slice A.u h.us.length A.uc, .slice A.s h.ss.length A.sc, .slice A.f h.fs.length A.fc, .slice A.r h.es.length A.rc, .int .i64 h.nx]) := by
    have h := Bx.new (w.alloc (.cells #[.int .i64 c.ip, .int .i64 c.b, .int .i64 c.gt, .string c.gm, .string c.wm, .int .i64 c.rs, .slice C.x c.ps.length C.xc, .slice C.y c.ros.length C.yc] 27)) #[.slice A.u h.us.length A.uc, .slice A.s h.ss.length A.sc, .slice A.f h.fs.length A.fc, .slice A.r h.es.length A.rc, .int .i64 h.nx] 33
    rw [World.size_alloc] at h
    exact h
  have X0 : Hid (Below w.heap.size w ((w.alloc (.cells #[.int .i64 c.ip, .int .i64 c.b, .int .i64 c.gt, .string c.gm, .string c.wm, .int .i64 c.rs, .slice C.x c.ps.length C.xc, .slice C.y c.ros.length C.yc] 27)).alloc (.cells #[.slice A.u h.us.length A.uc, .slice A.s h.ss.length A.sc, .slice A.f h.fs.length A.fc, .slice A.r h.es.length A.rc, .int .i64 h.nx] 33))) := (((Below.refl _ _).alloc (Nat.le_refl _) _).alloc (by simp) _)
  go_enter Tryz.func4, Tryz.ntmps4
  go_wp2_with (first | (refine wpl_getT 27 rfl _ rfl (w.heap.size) rfl (P0C.out) _ Tryz.underlying27 rfl rfl ?_) | (refine wpl_getT 33 rfl _ rfl (w.heap.size + 1) rfl (P0A.out) _ Tryz.underlying33 rfl rfl ?_) | fail)
  refine (HZC.out _ (RC.out.below X0.out)).mono ?_
  rintro e w1 ⟨r1, rfl, hr1, hm1, bx⟩
  have P1C : Hid _ := P0C.out.below bx
  have P1A : Hid _ := P0A.out.below bx
  have X1 : Hid (Below w.heap.size w w1) := X0.out.trans (bx.mono X0.out.size)
  clear bx P0C P0A X0 HZC
  by_cases hn1 : r1 < 0
  · go_wp2
    go_ret
    exact ⟨rfl, X1.out⟩
  have SC : Hid (CfSz c) := hr1 (by omega)
  clear hr1
  go_wp2_with (first | (refine wpl_getT 27 rfl _ rfl (w.heap.size) rfl (P1C.out) _ Tryz.underlying27 rfl rfl ?_) | (refine wpl_getT 33 rfl _ rfl (w.heap.size + 1) rfl (P1A.out) _ Tryz.underlying33 rfl rfl ?_) | fail)
  refine (HZA.out _ _ (RA.out.below X1.out) (by omega) (by omega)).mono ?_
  rintro e w2 ⟨r2, rfl, hr2, hm2, bx⟩
  have P2C : Hid _ := P1C.out.below bx
  have P2A : Hid _ := P1A.out.below bx
  have X2 : Hid (Below w.heap.size w w2) := X1.out.trans (bx.mono X1.out.size)
  clear bx P1C P1A X1 HZA
  by_cases hn2 : r2 < 0
  · go_wp2
    go_ret
    exact ⟨rfl, X2.out⟩
  have SH : Hid (HuSz h) := hr2 (by omega)
  clear hr2
  have HS : Hid (∀ (C' : CfA) (L0 : List RoX) (A' : HuA) (B0 B1 : Nat) (w : World), OwnCf w B0 C' c L0 → OwnHu w B1 A' h → Calls Tryz.prog 17 #[.agg #[.int .i64 c.ip, .int .i64 c.b, .int .i64 c.gt, .string c.gm, .string c.wm, .int .i64 c.rs, .slice C'.x c.ps.length C'.xc, .slice C'.y c.ros.length C'.yc], .agg #[.slice A'.u h.us.length A'.uc, .slice A'.s h.ss.length A'.sc, .slice A'.f h.fs.length A'.fc, .slice A'.r h.es.length A'.rc, .int .i64 h.nx], .int .i64 now] w fun e w' => ∃ (R : HuA) (ia : Option Addr) (ic : Nat), e = .returned (.tuple #[.agg #[.slice R.u G.us.length R.uc, .slice R.s G.ss.length R.sc, .slice R.f G.fs.length R.fc, .slice R.r G.es.length R.rc, .int .i64 G.nx], .slice ia IN ic, .int .i64 k]) ∧ OwnHu w' w.heap.size R G ∧ OwnR w' w.heap.size ia IN ic IL ∧ Below w.heap.size w w') := HS0.out SC.out SH.out
  have HI : Hid (∀ (C' : CfA) (L0 : List RoX) (A' : HuA) (B0 B1 : Nat) (w : World), OwnCf w B0 C' c L0 → OwnHu w B1 A' h → Calls Tryz.prog 18 #[.agg #[.int .i64 c.ip, .int .i64 c.b, .int .i64 c.gt, .string c.gm, .string c.wm, .int .i64 c.rs, .slice C'.x c.ps.length C'.xc, .slice C'.y c.ros.length C'.yc], .agg #[.slice A'.u h.us.length A'.uc, .slice A'.s h.ss.length A'.sc, .slice A'.f h.fs.length A'.fc, .slice A'.r h.es.length A'.rc, .int .i64 h.nx], .int .i64 now] w fun e w' => ∃ (R : HuA) (ia : Option Addr) (ic : Nat), e = .returned (.tuple #[.agg #[.slice R.u G.us.length R.uc, .slice R.s G.ss.length R.sc, .slice R.f G.fs.length R.fc, .slice R.r G.es.length R.rc, .int .i64 G.nx], .slice ia IN ic, .int .i64 k]) ∧ OwnHu w' w.heap.size R G ∧ OwnR w' w.heap.size ia IN ic IL ∧ Below w.heap.size w w') := HI0.out SC.out SH.out
  have LG : Hid (HuLn G) := LG0.out SC.out SH.out
  have HTC : Hid (∀ w, CfR w C c → Calls Tryz.prog 9 #[.agg #[.int .i64 c.ip, .int .i64 c.b, .int .i64 c.gt, .string c.gm, .string c.wm, .int .i64 c.rs, .slice C.x c.ps.length C.xc, .slice C.y c.ros.length C.yc]] w fun e w' => ∃ (C' : CfA) (L : List RoX), e = .returned (.agg #[.int .i64 c.ip, .int .i64 c.b, .int .i64 c.gt, .string c.gm, .string c.wm, .int .i64 c.rs, .slice C'.x c.ps.length C'.xc, .slice C'.y c.ros.length C'.yc]) ∧ OwnCf w' w.heap.size C' c L ∧ Below w.heap.size w w') := fun w hh => cf_to C c w hh SC.out
  have HTA : Hid (∀ w, HuR w A h → Calls Tryz.prog 10 #[.agg #[.slice A.u h.us.length A.uc, .slice A.s h.ss.length A.sc, .slice A.f h.fs.length A.fc, .slice A.r h.es.length A.rc, .int .i64 h.nx]] w fun e w' => ∃ (A' : HuA), e = .returned (.agg #[.slice A'.u h.us.length A'.uc, .slice A'.s h.ss.length A'.sc, .slice A'.f h.fs.length A'.fc, .slice A'.r h.es.length A'.rc, .int .i64 h.nx]) ∧ OwnHu w' w.heap.size A' h ∧ Below w.heap.size w w') := fun w hh => hu_to A h w hh SH.out.ln
  clear HS0 HI0 LG0
  go_wp2_with fail
  refine Rlw.wp_region_rel (w := w2) [Rlw.valR 0 [] (.agg #[.int .i64 c.ip, .int .i64 c.b, .int .i64 c.gt, .string c.gm, .string c.wm, .int .i64 c.rs, .slice C.x c.ps.length C.xc, .slice C.y c.ros.length C.yc]), Rlw.kndR 1 [0] (kCf c) w2.heap.size, Rlw.valR 2 [] (.agg #[.slice A.u h.us.length A.uc, .slice A.s h.ss.length A.sc, .slice A.f h.fs.length A.fc, .slice A.r h.es.length A.rc, .int .i64 h.nx]), Rlw.kndR 3 [2] (kHu h) w2.heap.size, Rlw.valR 4 [] (.int .i64 now), Rlw.kndR 5 [1, 3, 4] (Knd.three (kHu G) (Knd.row iG 1 3 IL) (Knd.val (.int .i64 k))) w2.heap.size, Rlw.twoR 6 5 [5] (fun x y => x = y ∧ ∃ (R : HuA) (v : Value), x = .tuple #[.agg (huC R G).toArray, v, .int .i64 k]), Rlw.twoR 7 6 [6] (fun x y => ∃ (R : HuA) (v : Value), x = .agg (huC R G).toArray ∧ y = .tuple #[x, v, .int .i64 k]), Rlw.twoR 8 6 [6] (fun x y => ∃ a : Value, y = .tuple #[a, x, .int .i64 k]), Rlw.valR 9 [6] (.int .i64 k), Rlw.boxR 10 [] [.slice none 0 0, .slice none 0 0, .slice none 0 0, .slice none 0 0, .int .i64 0], Rlw.putV 10 7 [7], Rlw.eqR 12 8 [8], Rlw.valR 13 [9] (.int .i64 k)] [] [0, 1, 2, 3, 4, 5, 6, 7, 8, 9, 11, 12, 13] (fun b => b < w2.heap.size) (by kernel_rfl) (by kernel_rfl) (by kernel_rfl) ?_ (fun b h => h) (fun k r hk => by cases hk) (fun j k rj rk hj => by cases hj) ?_ ?_
  · exact List.forall_mem_cons.2 ⟨Rlw.valR_ok _ _ _, List.forall_mem_cons.2 ⟨Rlw.kndR_ok _ _ _ _, List.forall_mem_cons.2 ⟨Rlw.valR_ok _ _ _, List.forall_mem_cons.2 ⟨Rlw.kndR_ok _ _ _ _, List.forall_mem_cons.2 ⟨Rlw.valR_ok _ _ _, List.forall_mem_cons.2 ⟨Rlw.kndR_ok _ _ _ _, List.forall_mem_cons.2 ⟨Rlw.twoR_ok _ _ _ _, List.forall_mem_cons.2 ⟨Rlw.twoR_ok _ _ _ _, List.forall_mem_cons.2 ⟨Rlw.twoR_ok _ _ _ _, List.forall_mem_cons.2 ⟨Rlw.valR_ok _ _ _, List.forall_mem_cons.2 ⟨Rlw.boxR_ok _ _ _, List.forall_mem_cons.2 ⟨Rlw.putV_ok _ _ _, List.forall_mem_cons.2 ⟨Rlw.eqR_ok _ _ _, List.forall_mem_cons.2 ⟨Rlw.valR_ok _ _ _, List.forall_mem_nil _⟩⟩⟩⟩⟩⟩⟩⟩⟩⟩⟩⟩⟩⟩
  · refine (Rlw.walk_cons ?s0 (Rlw.walk_cons ?s1 (Rlw.walk_cons ?s2 (Rlw.walk_cons ?s3 (Rlw.walk_cons ?s4 (Rlw.walk_cons ?s5 (Rlw.walk_cons ?s6 (Rlw.walk_cons ?s7 (Rlw.walk_cons ?s8 (Rlw.walk_cons ?s9 (Rlw.walk_cons ?s10 (Rlw.walk_cons ?s11 (Rlw.walk_cons ?s12 (Rlw.walk_cons ?s13 Rlw.walk_nil))))))))))))))
    case s0 =>
      refine Rlw.step_want ?_ ?_
      · rfl
      intro σ wx hK hF post hp
      have hq := P2C.out.below (Rlw.keep_below hK)
      refine Rlw.yld_get 27 _ rfl (q := w.heap.size) (by go_simp) hq _ Tryz.underlying27 rfl rfl ?_
      exact hp _ _ Rlw.left_val
    case s1 =>
      refine Rlw.step_want ?_ ?_
      · rfl
      intro σ wx hK hF post hp
      have f0 : σ 0 = .agg #[.int .i64 c.ip, .int .i64 c.b, .int .i64 c.gt, .string c.gm, .string c.wm, .int .i64 c.rs, .slice C.x c.ps.length C.xc, .slice C.y c.ros.length C.yc] := Rlw.fact_of hF (j := 0) rfl rfl
      have hb := Rlw.keep_below hK
      go_simp
      refine Rlw.yld_call ?_
      refine (HTC.out _ (RC.out.below (X2.out.trans (hb.mono X2.out.size)))).mono ?_
      rintro e w9 ⟨A9, L9, rfl, ho, b9⟩
      exact ⟨_, rfl, hp _ _ (Rlw.left_knd ⟨A9, L9, rfl, ho⟩ hK.size b9)⟩
    case s2 =>
      refine Rlw.step_want ?_ ?_
      · rfl
      intro σ wx hK hF post hp
      have hq := P2A.out.below (Rlw.keep_below hK)
      refine Rlw.yld_get 33 _ rfl (q := w.heap.size + 1) (by go_simp) hq _ Tryz.underlying33 rfl rfl ?_
      exact hp _ _ Rlw.left_val
    case s3 =>
      refine Rlw.step_want ?_ ?_
      · rfl
      intro σ wx hK hF post hp
      have f2 : σ 2 = .agg #[.slice A.u h.us.length A.uc, .slice A.s h.ss.length A.sc, .slice A.f h.fs.length A.fc, .slice A.r h.es.length A.rc, .int .i64 h.nx] := Rlw.fact_of hF (j := 2) rfl rfl
      have hb := Rlw.keep_below hK
      go_simp
      refine Rlw.yld_call ?_
      refine (HTA.out _ (RA.out.below (X2.out.trans (hb.mono X2.out.size)))).mono ?_
      rintro e w9 ⟨A9, rfl, ho, b9⟩
      exact ⟨_, rfl, hp _ _ (Rlw.left_knd ⟨A9, rfl, ho⟩ hK.size b9)⟩
    case s4 =>
      refine Rlw.step_want ?_ ?_
      · rfl
      intro σ wx hK hF post hp
      go_simp
      refine Rlw.yld_val ?_
      exact hp _ _ Rlw.left_val
    case s5 =>
      refine Rlw.step_want ?_ ?_
      · rfl
      intro σ wx hK hF post hp
      have f1 : (kCf c).own wx w2.heap.size (σ 1) := Rlw.fact_of hF (j := 1) rfl rfl
      have f3 : (kHu h).own wx w2.heap.size (σ 3) := Rlw.fact_of hF (j := 3) rfl rfl
      have f4 : σ 4 = .int .i64 now := Rlw.fact_of hF (j := 4) rfl rfl
      obtain ⟨A0, L0, e0, o0⟩ := f1
      have d0 : σ 1 = .agg #[.int .i64 c.ip, .int .i64 c.b, .int .i64 c.gt, .string c.gm, .string c.wm, .int .i64 c.rs, .slice A0.x c.ps.length A0.xc, .slice A0.y c.ros.length A0.yc] := e0
      clear e0
      obtain ⟨A1, e1, o1⟩ := f3
      have d1 : σ 3 = .agg #[.slice A1.u h.us.length A1.uc, .slice A1.s h.ss.length A1.sc, .slice A1.f h.fs.length A1.fc, .slice A1.r h.es.length A1.rc, .int .i64 h.nx] := e1
      clear e1
      go_simp
      refine Rlw.yld_call ?_
      refine (HS.out A0 L0 A1 _ _ _ o0 o1).mono ?_
      rintro e w9 ⟨R9, ia9, ic9, rfl, ho, hi, b9⟩
      exact ⟨_, rfl, hp _ _ (Rlw.left_knd ⟨_, _, _, rfl, ⟨R9, rfl, ho⟩, hi, rfl⟩ hK.size b9)⟩
    case s6 =>
      refine Rlw.step_want ?_ ?_
      · rfl
      intro σ wx hK hF post hp
      have f5 : (Knd.three (kHu G) (Knd.row iG 1 3 IL) (Knd.val (.int .i64 k))).own wx w2.heap.size (σ 5) := Rlw.fact_of hF (j := 5) rfl rfl
      obtain ⟨y1, y2, y3, hy, ⟨R9, rfl, -⟩, -, rfl⟩ := f5
      go_simp
      refine Rlw.yld_val ?_
      refine hp _ _ (Rlw.left_below ?_ (fun b h => h.elim) (Below.refl _ _))
      exact ⟨by simp [Rlw.upd, hy], R9, y2, by simp [Rlw.upd]⟩
    case s7 =>
      refine Rlw.step_want ?_ ?_
      · rfl
      intro σ wx hK hF post hp
      have f6 : σ 6 = σ 5 ∧ ∃ (R : HuA) (v : Value), σ 6 = .tuple #[.agg (huC R G).toArray, v, .int .i64 k] := Rlw.fact_of hF (j := 6) rfl rfl
      obtain ⟨-, R9, v9, h9⟩ := f6
      go_simp
      refine Rlw.yld_val ?_
      refine hp _ _ (Rlw.left_below ?_ (fun b h => h.elim) (Below.refl _ _))
      exact ⟨R9, v9, by simp [Rlw.upd], by simp [Rlw.upd, h9]⟩
    case s8 =>
      refine Rlw.step_want ?_ ?_
      · rfl
      intro σ wx hK hF post hp
      have f6 : σ 6 = σ 5 ∧ ∃ (R : HuA) (v : Value), σ 6 = .tuple #[.agg (huC R G).toArray, v, .int .i64 k] := Rlw.fact_of hF (j := 6) rfl rfl
      obtain ⟨-, R9, v9, h9⟩ := f6
      go_simp
      refine Rlw.yld_val ?_
      refine hp _ _ (Rlw.left_below ?_ (fun b h => h.elim) (Below.refl _ _))
      exact ⟨_, by simp [Rlw.upd, h9]; rfl⟩
    case s9 =>
      refine Rlw.step_want ?_ ?_
      · rfl
      intro σ wx hK hF post hp
      have f6 : σ 6 = σ 5 ∧ ∃ (R : HuA) (v : Value), σ 6 = .tuple #[.agg (huC R G).toArray, v, .int .i64 k] := Rlw.fact_of hF (j := 6) rfl rfl
      obtain ⟨-, R9, v9, h9⟩ := f6
      go_simp
      refine Rlw.yld_val ?_
      exact hp _ _ Rlw.left_val
    case s10 =>
      refine Rlw.step_want ?_ ?_
      · rfl
      intro σ wx hK hF post hp
      go_simp
      refine Rlw.yld_val ?_
      exact hp _ _ (Rlw.left_box #[.slice none 0 0, .slice none 0 0, .slice none 0 0, .slice none 0 0, .int .i64 0] _)
    case s11 =>
      refine Rlw.step_want ?_ ?_
      · rfl
      intro σ wx hK hF post hp
      have f10 : Rlw.boxF [.slice none 0 0, .slice none 0 0, .slice none 0 0, .slice none 0 0, .int .i64 0] (σ 10) wx := Rlw.fact_of hF (j := 10) rfl rfl
      have f7 : ∃ (R : HuA) (v : Value), σ 7 = .agg (huC R G).toArray ∧ σ 6 = .tuple #[σ 7, v, .int .i64 k] := Rlw.fact_of hF (j := 7) rfl rfl
      obtain ⟨q9, hq9, hb9⟩ := f10
      obtain ⟨R9, v9, h9, -⟩ := f7
      refine Rlw.yld_put 41 _ _ rfl (q := q9) (cells := (huC R9 G).toArray) (by go_simp; try exact hq9) (by go_simp; try exact h9) hb9 rfl (by rfl) rfl ?_
      exact hp _ _ (Rlw.left_putV (t := 7) rfl (by decide) (by decide) hq9 h9 hb9 rfl)
    case s12 =>
      refine Rlw.step_want ?_ ?_
      · rfl
      intro σ wx hK hF post hp
      go_simp
      refine Rlw.yld_val ?_
      refine hp _ _ (Rlw.left_below ?_ (fun b h => h.elim) (Below.refl _ _))
      show Rlw.upd σ 12 _ 12 = Rlw.upd σ 12 _ 8
      simp [Rlw.upd]
    case s13 =>
      refine Rlw.step_want ?_ ?_
      · rfl
      intro σ wx hK hF post hp
      have f9 : σ 9 = .int .i64 k := Rlw.fact_of hF (j := 9) rfl rfl
      go_simp
      refine Rlw.yld_val ?_
      exact hp _ _ Rlw.left_val
  · intro σ w3 hK hF hA
    have Bw3 : Below w2.heap.size w2 w3 := Rlw.keep_below hK
    have f5 : (Knd.three (kHu G) (Knd.row iG 1 3 IL) (Knd.val (.int .i64 k))).own w3 w2.heap.size (σ 5) := Rlw.fact_of hF (j := 5) rfl rfl
    have f6 : σ 6 = σ 5 ∧ ∃ (R : HuA) (v : Value), σ 6 = .tuple #[.agg (huC R G).toArray, v, .int .i64 k] := Rlw.fact_of hF (j := 6) rfl rfl
    have f7 : ∃ (R : HuA) (v : Value), σ 7 = .agg (huC R G).toArray ∧ σ 6 = .tuple #[σ 7, v, .int .i64 k] := Rlw.fact_of hF (j := 7) rfl rfl
    have f8 : ∃ a : Value, σ 6 = .tuple #[a, σ 8, .int .i64 k] := Rlw.fact_of hF (j := 8) rfl rfl
    have f11 : ∃ cs : List Value, σ 7 = .agg cs.toArray ∧ Rlw.boxF cs (σ 10) w3 := Rlw.fact_of hF (j := 11) rfl rfl
    have f12 : σ 12 = σ 8 := Rlw.fact_of hF (j := 12) rfl rfl
    have f13 : σ 13 = .int .i64 k := Rlw.fact_of hF (j := 13) rfl rfl
    obtain ⟨Rw3, iw3, jw3, nw3, hn9, he9, Ow3, Yw3, Nw3, hbk⟩ := leafH3 hIL9.out f5 f6 f7 f8 f11
    rw [he9] at f12
    have hlo := (Rlw.owns_of hF (j := 11) rfl rfl nw3 hn9).2
    have hlt := (Rlw.owns_of hF (j := 11) rfl rfl nw3 hn9).1
    have hap : ¬ huB Rw3 G nw3 := fun hx => hA 5 11 _ _ (by decide) (by decide) (by decide) rfl rfl nw3 (hbk _ (.inl hx)) hn9
    have hai : ¬ rwB iw3 IN jw3 nw3 := fun hx => hA 5 11 _ _ (by decide) (by decide) (by decide) rfl rfl nw3 (hbk _ (.inr hx)) hn9
    replace Nw3 : Bx w3 nw3 [.slice Rw3.u G.us.length Rw3.uc, .slice Rw3.s G.ss.length Rw3.sc, .slice Rw3.f G.fs.length Rw3.fc, .slice Rw3.r G.es.length Rw3.rc, .int .i64 G.nx] := Nw3
    simp only [Rlw.putAll, Nat.zero_add, Nat.reduceAdd, hn9, f12, f13]
    clear f5 f6 f7 f8 f11 f12 f13 hF hA hK hbk hn9 he9
    go_simp
    have PC3 : Hid (Bx w3 (w.heap.size) [.int .i64 c.ip, .int .i64 c.b, .int .i64 c.gt, .string c.gm, .string c.wm, .int .i64 c.rs, .slice C.x c.ps.length C.xc, .slice C.y c.ros.length C.yc]) := P2C.out.below Bw3
    have PA3 : Hid (Bx w3 (w.heap.size + 1) [.slice A.u h.us.length A.uc, .slice A.s h.ss.length A.sc, .slice A.f h.fs.length A.fc, .slice A.r h.es.length A.rc, .int .i64 h.nx]) := P2A.out.below Bw3
    have N33 : Hid (Bx w3 (nw3) [.slice Rw3.u G.us.length Rw3.uc, .slice Rw3.s G.ss.length Rw3.sc, .slice Rw3.f G.fs.length Rw3.fc, .slice Rw3.r G.es.length Rw3.rc, .int .i64 G.nx]) := Nw3
    have O33 : Hid (OwnHu w3 w2.heap.size Rw3 G) := Ow3
    have Y33 : Hid (OwnR w3 (w2.heap.size) iw3 IN jw3 IL) := Yw3
    have X3 : Hid (Below w.heap.size w w3) := X2.out.trans (Bw3.mono X2.out.size)
    have I3 : Hid (nw3 < w3.heap.size ∧ (∀ x, huB Rw3 G x → x < w3.heap.size ∧ x ≠ nw3) ∧ (∀ x, rwB iw3 IN jw3 x → x < w3.heap.size ∧ x ≠ nw3)) := ⟨hlt, fun x hx => ⟨(Ow3.lt x hx).2, fun h => hap (h ▸ hx)⟩, fun x hx => ⟨(Yw3.lt x hx).2, fun h => hai (h ▸ hx)⟩⟩
    have J3 : Hid (w.heap.size + 1 < w3.heap.size) := World.block_lt_of_cell? w3 ⟨w.heap.size + 1, 0, none⟩ (PA3.out.cell 0 rfl)
    clear P2C P2A X2 hlo hlt hap hai Nw3 Ow3 Yw3 Bw3
    go_wp2_with (first | (refine wpl_getT 27 rfl _ rfl (w.heap.size) rfl (PC3.out) _ Tryz.underlying27 rfl rfl ?_) | (refine wpl_getT 33 rfl _ rfl (w.heap.size + 1) rfl (PA3.out) _ Tryz.underlying33 rfl rfl ?_) | (refine wpl_getT 41 rfl _ rfl (nw3) rfl (N33.out) _ Tryz.underlying41 rfl rfl ?_) | fail)
    refine (HTC.out _ (RC.out.below X3.out)).mono ?_
    rintro e w4 ⟨C4, L4, rfl, o9, bx⟩
    have I4 : Hid (w3.heap.size ≤ w4.heap.size ∧ (∀ x, cfB C4 c L4 x → w3.heap.size ≤ x ∧ x < w4.heap.size)) := by
      have h1 := bx.size
      have h2 := o9.lt
      rw [show w3.heap.size = w3.heap.size by simp] at h1 h2
      exact ⟨h1, h2⟩
    have bz : Below w3.heap.size w3 (w4.alloc (.cells #[.int .i64 c.ip, .int .i64 c.b, .int .i64 c.gt, .string c.gm, .string c.wm, .int .i64 c.rs, .slice C4.x c.ps.length C4.xc, .slice C4.y c.ros.length C4.yc] 48)) := bx.alloc bx.size _
    have PC4 : Hid (Bx (w4.alloc (.cells #[.int .i64 c.ip, .int .i64 c.b, .int .i64 c.gt, .string c.gm, .string c.wm, .int .i64 c.rs, .slice C4.x c.ps.length C4.xc, .slice C4.y c.ros.length C4.yc] 48)) (w.heap.size) [.int .i64 c.ip, .int .i64 c.b, .int .i64 c.gt, .string c.gm, .string c.wm, .int .i64 c.rs, .slice C.x c.ps.length C.xc, .slice C.y c.ros.length C.yc]) := PC3.out.below bz
    have PA4 : Hid (Bx (w4.alloc (.cells #[.int .i64 c.ip, .int .i64 c.b, .int .i64 c.gt, .string c.gm, .string c.wm, .int .i64 c.rs, .slice C4.x c.ps.length C4.xc, .slice C4.y c.ros.length C4.yc] 48)) (w.heap.size + 1) [.slice A.u h.us.length A.uc, .slice A.s h.ss.length A.sc, .slice A.f h.fs.length A.fc, .slice A.r h.es.length A.rc, .int .i64 h.nx]) := PA3.out.below bz
    have N34 : Hid (Bx (w4.alloc (.cells #[.int .i64 c.ip, .int .i64 c.b, .int .i64 c.gt, .string c.gm, .string c.wm, .int .i64 c.rs, .slice C4.x c.ps.length C4.xc, .slice C4.y c.ros.length C4.yc] 48)) (nw3) [.slice Rw3.u G.us.length Rw3.uc, .slice Rw3.s G.ss.length Rw3.sc, .slice Rw3.f G.fs.length Rw3.fc, .slice Rw3.r G.es.length Rw3.rc, .int .i64 G.nx]) := N33.out.below bz
    have O34 : Hid (OwnHu (w4.alloc (.cells #[.int .i64 c.ip, .int .i64 c.b, .int .i64 c.gt, .string c.gm, .string c.wm, .int .i64 c.rs, .slice C4.x c.ps.length C4.xc, .slice C4.y c.ros.length C4.yc] 48)) w2.heap.size Rw3 G) := O33.out.now bz
    have Y34 : Hid (OwnR (w4.alloc (.cells #[.int .i64 c.ip, .int .i64 c.b, .int .i64 c.gt, .string c.gm, .string c.wm, .int .i64 c.rs, .slice C4.x c.ps.length C4.xc, .slice C4.y c.ros.length C4.yc] 48)) (w2.heap.size) iw3 IN jw3 IL) := Y33.out.now bz
    have X4 : Hid (Below w.heap.size w (w4.alloc (.cells #[.int .i64 c.ip, .int .i64 c.b, .int .i64 c.gt, .string c.gm, .string c.wm, .int .i64 c.rs, .slice C4.x c.ps.length C4.xc, .slice C4.y c.ros.length C4.yc] 48))) := X3.out.trans ((bz).mono X3.out.size)
    clear PC3 PA3 N33 O33 Y33 X3
    have M44 : Hid (Bx (w4.alloc (.cells #[.int .i64 c.ip, .int .i64 c.b, .int .i64 c.gt, .string c.gm, .string c.wm, .int .i64 c.rs, .slice C4.x c.ps.length C4.xc, .slice C4.y c.ros.length C4.yc] 48)) (w4.heap.size) [.int .i64 c.ip, .int .i64 c.b, .int .i64 c.gt, .string c.gm, .string c.wm, .int .i64 c.rs, .slice C4.x c.ps.length C4.xc, .slice C4.y c.ros.length C4.yc]) := Bx.new w4 #[.int .i64 c.ip, .int .i64 c.b, .int .i64 c.gt, .string c.gm, .string c.wm, .int .i64 c.rs, .slice C4.x c.ps.length C4.xc, .slice C4.y c.ros.length C4.yc] 48
    have Q44 : Hid (OwnCf (w4.alloc (.cells #[.int .i64 c.ip, .int .i64 c.b, .int .i64 c.gt, .string c.gm, .string c.wm, .int .i64 c.rs, .slice C4.x c.ps.length C4.xc, .slice C4.y c.ros.length C4.yc] 48)) w3.heap.size C4 c L4) := o9.now ((Below.refl _ _).alloc (Nat.le_refl _) _)
    clear o9 bx bz
    go_wp2_with (first | (refine wpl_getT 27 rfl _ rfl (w.heap.size) rfl (PC4.out) _ Tryz.underlying27 rfl rfl ?_) | (refine wpl_getT 33 rfl _ rfl (w.heap.size + 1) rfl (PA4.out) _ Tryz.underlying33 rfl rfl ?_) | (refine wpl_getT 41 rfl _ rfl (nw3) rfl (N34.out) _ Tryz.underlying41 rfl rfl ?_) | (refine wpl_getT 48 rfl _ rfl (w4.heap.size) rfl (M44.out) _ Tryz.underlying48 rfl rfl ?_) | fail)
    refine (HTA.out _ (RA.out.below X4.out)).mono ?_
    rintro e w5 ⟨A5, rfl, o9, bx⟩
    have I5 : Hid (w4.heap.size + 1 ≤ w5.heap.size ∧ (∀ x, huB A5 h x → w4.heap.size + 1 ≤ x ∧ x < w5.heap.size)) := by
      have h1 := bx.size
      have h2 := o9.lt
      rw [show (w4.alloc (.cells #[.int .i64 c.ip, .int .i64 c.b, .int .i64 c.gt, .string c.gm, .string c.wm, .int .i64 c.rs, .slice C4.x c.ps.length C4.xc, .slice C4.y c.ros.length C4.yc] 48)).heap.size = w4.heap.size + 1 by simp] at h1 h2
      exact ⟨h1, h2⟩
    have bz : Below (w4.alloc (.cells #[.int .i64 c.ip, .int .i64 c.b, .int .i64 c.gt, .string c.gm, .string c.wm, .int .i64 c.rs, .slice C4.x c.ps.length C4.xc, .slice C4.y c.ros.length C4.yc] 48)).heap.size (w4.alloc (.cells #[.int .i64 c.ip, .int .i64 c.b, .int .i64 c.gt, .string c.gm, .string c.wm, .int .i64 c.rs, .slice C4.x c.ps.length C4.xc, .slice C4.y c.ros.length C4.yc] 48)) (w5.alloc (.cells #[.slice A5.u h.us.length A5.uc, .slice A5.s h.ss.length A5.sc, .slice A5.f h.fs.length A5.fc, .slice A5.r h.es.length A5.rc, .int .i64 h.nx] 41)) := bx.alloc bx.size _
    have PC5 : Hid (Bx (w5.alloc (.cells #[.slice A5.u h.us.length A5.uc, .slice A5.s h.ss.length A5.sc, .slice A5.f h.fs.length A5.fc, .slice A5.r h.es.length A5.rc, .int .i64 h.nx] 41)) (w.heap.size) [.int .i64 c.ip, .int .i64 c.b, .int .i64 c.gt, .string c.gm, .string c.wm, .int .i64 c.rs, .slice C.x c.ps.length C.xc, .slice C.y c.ros.length C.yc]) := PC4.out.below bz
    have PA5 : Hid (Bx (w5.alloc (.cells #[.slice A5.u h.us.length A5.uc, .slice A5.s h.ss.length A5.sc, .slice A5.f h.fs.length A5.fc, .slice A5.r h.es.length A5.rc, .int .i64 h.nx] 41)) (w.heap.size + 1) [.slice A.u h.us.length A.uc, .slice A.s h.ss.length A.sc, .slice A.f h.fs.length A.fc, .slice A.r h.es.length A.rc, .int .i64 h.nx]) := PA4.out.below bz
    have N35 : Hid (Bx (w5.alloc (.cells #[.slice A5.u h.us.length A5.uc, .slice A5.s h.ss.length A5.sc, .slice A5.f h.fs.length A5.fc, .slice A5.r h.es.length A5.rc, .int .i64 h.nx] 41)) (nw3) [.slice Rw3.u G.us.length Rw3.uc, .slice Rw3.s G.ss.length Rw3.sc, .slice Rw3.f G.fs.length Rw3.fc, .slice Rw3.r G.es.length Rw3.rc, .int .i64 G.nx]) := N34.out.below bz
    have O35 : Hid (OwnHu (w5.alloc (.cells #[.slice A5.u h.us.length A5.uc, .slice A5.s h.ss.length A5.sc, .slice A5.f h.fs.length A5.fc, .slice A5.r h.es.length A5.rc, .int .i64 h.nx] 41)) w2.heap.size Rw3 G) := O34.out.now bz
    have Y35 : Hid (OwnR (w5.alloc (.cells #[.slice A5.u h.us.length A5.uc, .slice A5.s h.ss.length A5.sc, .slice A5.f h.fs.length A5.fc, .slice A5.r h.es.length A5.rc, .int .i64 h.nx] 41)) (w2.heap.size) iw3 IN jw3 IL) := Y34.out.now bz
    have M45 : Hid (Bx (w5.alloc (.cells #[.slice A5.u h.us.length A5.uc, .slice A5.s h.ss.length A5.sc, .slice A5.f h.fs.length A5.fc, .slice A5.r h.es.length A5.rc, .int .i64 h.nx] 41)) (w4.heap.size) [.int .i64 c.ip, .int .i64 c.b, .int .i64 c.gt, .string c.gm, .string c.wm, .int .i64 c.rs, .slice C4.x c.ps.length C4.xc, .slice C4.y c.ros.length C4.yc]) := M44.out.below bz
    have Q45 : Hid (OwnCf (w5.alloc (.cells #[.slice A5.u h.us.length A5.uc, .slice A5.s h.ss.length A5.sc, .slice A5.f h.fs.length A5.fc, .slice A5.r h.es.length A5.rc, .int .i64 h.nx] 41)) w3.heap.size C4 c L4) := Q44.out.now bz
    have X5 : Hid (Below w.heap.size w (w5.alloc (.cells #[.slice A5.u h.us.length A5.uc, .slice A5.s h.ss.length A5.sc, .slice A5.f h.fs.length A5.fc, .slice A5.r h.es.length A5.rc, .int .i64 h.nx] 41))) := X4.out.trans ((bz).mono X4.out.size)
    clear PC4 PA4 N34 O34 Y34 M44 Q44 X4
    have M55 : Hid (Bx (w5.alloc (.cells #[.slice A5.u h.us.length A5.uc, .slice A5.s h.ss.length A5.sc, .slice A5.f h.fs.length A5.fc, .slice A5.r h.es.length A5.rc, .int .i64 h.nx] 41)) (w5.heap.size) [.slice A5.u h.us.length A5.uc, .slice A5.s h.ss.length A5.sc, .slice A5.f h.fs.length A5.fc, .slice A5.r h.es.length A5.rc, .int .i64 h.nx]) := Bx.new w5 #[.slice A5.u h.us.length A5.uc, .slice A5.s h.ss.length A5.sc, .slice A5.f h.fs.length A5.fc, .slice A5.r h.es.length A5.rc, .int .i64 h.nx] 41
    have Q55 : Hid (OwnHu (w5.alloc (.cells #[.slice A5.u h.us.length A5.uc, .slice A5.s h.ss.length A5.sc, .slice A5.f h.fs.length A5.fc, .slice A5.r h.es.length A5.rc, .int .i64 h.nx] 41)) (w4.alloc (.cells #[.int .i64 c.ip, .int .i64 c.b, .int .i64 c.gt, .string c.gm, .string c.wm, .int .i64 c.rs, .slice C4.x c.ps.length C4.xc, .slice C4.y c.ros.length C4.yc] 48)).heap.size A5 h) := o9.now ((Below.refl _ _).alloc (Nat.le_refl _) _)
    clear o9 bx bz
    go_wp2_with (first | (refine wpl_getT 27 rfl _ rfl (w.heap.size) rfl (PC5.out) _ Tryz.underlying27 rfl rfl ?_) | (refine wpl_getT 33 rfl _ rfl (w.heap.size + 1) rfl (PA5.out) _ Tryz.underlying33 rfl rfl ?_) | (refine wpl_getT 41 rfl _ rfl (nw3) rfl (N35.out) _ Tryz.underlying41 rfl rfl ?_) | (refine wpl_getT 48 rfl _ rfl (w4.heap.size) rfl (M45.out) _ Tryz.underlying48 rfl rfl ?_) | (refine wpl_getT 41 rfl _ rfl (w5.heap.size) rfl (M55.out) _ Tryz.underlying41 rfl rfl ?_) | fail)
    refine (HI.out C4 L4 A5 _ _ _ Q45.out Q55.out).mono ?_
    rintro e w6 ⟨R6, i9, j9, rfl, o9, y9, bx⟩
    have I6 : Hid (w5.heap.size + 1 ≤ w6.heap.size ∧ (∀ x, huB R6 G x → w5.heap.size + 1 ≤ x ∧ x < w6.heap.size) ∧ (∀ x, rwB i9 IN j9 x → w5.heap.size + 1 ≤ x ∧ x < w6.heap.size)) := by
      have h1 := bx.size
      have h2 := o9.lt
      have h3 := y9.lt
      rw [show (w5.alloc (.cells #[.slice A5.u h.us.length A5.uc, .slice A5.s h.ss.length A5.sc, .slice A5.f h.fs.length A5.fc, .slice A5.r h.es.length A5.rc, .int .i64 h.nx] 41)).heap.size = w5.heap.size + 1 by simp] at h1 h2 h3
      exact ⟨h1, h2, h3⟩
    have AP : Hid (∀ x, huB R6 G x → ¬ rwB i9 IN j9 x) := apart_hr o9 y9
    have bz : Below (w5.alloc (.cells #[.slice A5.u h.us.length A5.uc, .slice A5.s h.ss.length A5.sc, .slice A5.f h.fs.length A5.fc, .slice A5.r h.es.length A5.rc, .int .i64 h.nx] 41)).heap.size (w5.alloc (.cells #[.slice A5.u h.us.length A5.uc, .slice A5.s h.ss.length A5.sc, .slice A5.f h.fs.length A5.fc, .slice A5.r h.es.length A5.rc, .int .i64 h.nx] 41)) (w6.alloc (.cells #[.slice R6.u G.us.length R6.uc, .slice R6.s G.ss.length R6.sc, .slice R6.f G.fs.length R6.fc, .slice R6.r G.es.length R6.rc, .int .i64 G.nx] 41)) := bx.alloc bx.size _
    have PC6 : Hid (Bx (w6.alloc (.cells #[.slice R6.u G.us.length R6.uc, .slice R6.s G.ss.length R6.sc, .slice R6.f G.fs.length R6.fc, .slice R6.r G.es.length R6.rc, .int .i64 G.nx] 41)) (w.heap.size) [.int .i64 c.ip, .int .i64 c.b, .int .i64 c.gt, .string c.gm, .string c.wm, .int .i64 c.rs, .slice C.x c.ps.length C.xc, .slice C.y c.ros.length C.yc]) := PC5.out.below bz
    have PA6 : Hid (Bx (w6.alloc (.cells #[.slice R6.u G.us.length R6.uc, .slice R6.s G.ss.length R6.sc, .slice R6.f G.fs.length R6.fc, .slice R6.r G.es.length R6.rc, .int .i64 G.nx] 41)) (w.heap.size + 1) [.slice A.u h.us.length A.uc, .slice A.s h.ss.length A.sc, .slice A.f h.fs.length A.fc, .slice A.r h.es.length A.rc, .int .i64 h.nx]) := PA5.out.below bz
    have N36 : Hid (Bx (w6.alloc (.cells #[.slice R6.u G.us.length R6.uc, .slice R6.s G.ss.length R6.sc, .slice R6.f G.fs.length R6.fc, .slice R6.r G.es.length R6.rc, .int .i64 G.nx] 41)) (nw3) [.slice Rw3.u G.us.length Rw3.uc, .slice Rw3.s G.ss.length Rw3.sc, .slice Rw3.f G.fs.length Rw3.fc, .slice Rw3.r G.es.length Rw3.rc, .int .i64 G.nx]) := N35.out.below bz
    have O36 : Hid (OwnHu (w6.alloc (.cells #[.slice R6.u G.us.length R6.uc, .slice R6.s G.ss.length R6.sc, .slice R6.f G.fs.length R6.fc, .slice R6.r G.es.length R6.rc, .int .i64 G.nx] 41)) w2.heap.size Rw3 G) := O35.out.now bz
    have Y36 : Hid (OwnR (w6.alloc (.cells #[.slice R6.u G.us.length R6.uc, .slice R6.s G.ss.length R6.sc, .slice R6.f G.fs.length R6.fc, .slice R6.r G.es.length R6.rc, .int .i64 G.nx] 41)) (w2.heap.size) iw3 IN jw3 IL) := Y35.out.now bz
    have M46 : Hid (Bx (w6.alloc (.cells #[.slice R6.u G.us.length R6.uc, .slice R6.s G.ss.length R6.sc, .slice R6.f G.fs.length R6.fc, .slice R6.r G.es.length R6.rc, .int .i64 G.nx] 41)) (w4.heap.size) [.int .i64 c.ip, .int .i64 c.b, .int .i64 c.gt, .string c.gm, .string c.wm, .int .i64 c.rs, .slice C4.x c.ps.length C4.xc, .slice C4.y c.ros.length C4.yc]) := M45.out.below bz
    have Q46 : Hid (OwnCf (w6.alloc (.cells #[.slice R6.u G.us.length R6.uc, .slice R6.s G.ss.length R6.sc, .slice R6.f G.fs.length R6.fc, .slice R6.r G.es.length R6.rc, .int .i64 G.nx] 41)) w3.heap.size C4 c L4) := Q45.out.now bz
    have M56 : Hid (Bx (w6.alloc (.cells #[.slice R6.u G.us.length R6.uc, .slice R6.s G.ss.length R6.sc, .slice R6.f G.fs.length R6.fc, .slice R6.r G.es.length R6.rc, .int .i64 G.nx] 41)) (w5.heap.size) [.slice A5.u h.us.length A5.uc, .slice A5.s h.ss.length A5.sc, .slice A5.f h.fs.length A5.fc, .slice A5.r h.es.length A5.rc, .int .i64 h.nx]) := M55.out.below bz
    have Q56 : Hid (OwnHu (w6.alloc (.cells #[.slice R6.u G.us.length R6.uc, .slice R6.s G.ss.length R6.sc, .slice R6.f G.fs.length R6.fc, .slice R6.r G.es.length R6.rc, .int .i64 G.nx] 41)) (w4.alloc (.cells #[.int .i64 c.ip, .int .i64 c.b, .int .i64 c.gt, .string c.gm, .string c.wm, .int .i64 c.rs, .slice C4.x c.ps.length C4.xc, .slice C4.y c.ros.length C4.yc] 48)).heap.size A5 h) := Q55.out.now bz
    have X6 : Hid (Below w.heap.size w (w6.alloc (.cells #[.slice R6.u G.us.length R6.uc, .slice R6.s G.ss.length R6.sc, .slice R6.f G.fs.length R6.fc, .slice R6.r G.es.length R6.rc, .int .i64 G.nx] 41))) := X5.out.trans ((bz).mono X5.out.size)
    clear PC5 PA5 N35 O35 Y35 M45 Q45 M55 Q55 X5
    have M66 : Hid (Bx (w6.alloc (.cells #[.slice R6.u G.us.length R6.uc, .slice R6.s G.ss.length R6.sc, .slice R6.f G.fs.length R6.fc, .slice R6.r G.es.length R6.rc, .int .i64 G.nx] 41)) (w6.heap.size) [.slice R6.u G.us.length R6.uc, .slice R6.s G.ss.length R6.sc, .slice R6.f G.fs.length R6.fc, .slice R6.r G.es.length R6.rc, .int .i64 G.nx]) := Bx.new w6 #[.slice R6.u G.us.length R6.uc, .slice R6.s G.ss.length R6.sc, .slice R6.f G.fs.length R6.fc, .slice R6.r G.es.length R6.rc, .int .i64 G.nx] 41
    have Q66 : Hid (OwnHu (w6.alloc (.cells #[.slice R6.u G.us.length R6.uc, .slice R6.s G.ss.length R6.sc, .slice R6.f G.fs.length R6.fc, .slice R6.r G.es.length R6.rc, .int .i64 G.nx] 41)) (w5.alloc (.cells #[.slice A5.u h.us.length A5.uc, .slice A5.s h.ss.length A5.sc, .slice A5.f h.fs.length A5.fc, .slice A5.r h.es.length A5.rc, .int .i64 h.nx] 41)).heap.size R6 G) := o9.now ((Below.refl _ _).alloc (Nat.le_refl _) _)
    have Z66 : Hid (OwnR (w6.alloc (.cells #[.slice R6.u G.us.length R6.uc, .slice R6.s G.ss.length R6.sc, .slice R6.f G.fs.length R6.fc, .slice R6.r G.es.length R6.rc, .int .i64 G.nx] 41)) ((w5.alloc (.cells #[.slice A5.u h.us.length A5.uc, .slice A5.s h.ss.length A5.sc, .slice A5.f h.fs.length A5.fc, .slice A5.r h.es.length A5.rc, .int .i64 h.nx] 41)).heap.size) i9 IN j9 IL) := y9.now ((Below.refl _ _).alloc (Nat.le_refl _) _)
    clear o9 y9 bx bz
    have hkk : (k != k) = false := by simp
    have HE : Hid (∀ (A1 A2 : HuA) (w : World), HuR w A1 G → HuR w A2 G → Calls Tryz.prog 12 #[.agg #[.slice A1.u G.us.length A1.uc, .slice A1.s G.ss.length A1.sc, .slice A1.f G.fs.length A1.fc, .slice A1.r G.es.length A1.rc, .int .i64 G.nx], .agg #[.slice A2.u G.us.length A2.uc, .slice A2.s G.ss.length A2.sc, .slice A2.f G.fs.length A2.fc, .slice A2.r G.es.length A2.rc, .int .i64 G.nx]] w fun e w' => e = .returned (.bool true) ∧ Below w.heap.size w w') := fun A1 A2 w h1 h2 => hu_eq A1 A2 G w h1 h2 LG.out
    have HEI : Hid (∀ (a : Option Addr) (c : Nat) (a' : Option Addr) (c' B B' : Nat) (w : World), OwnR w B a IN c IL → OwnR w B' a' IN c' IL → Calls Tryz.prog 19 #[.slice a IN c, .slice a' IN c'] w fun e w' => e = .returned (.bool true) ∧ Below w.heap.size w w') := fun a c a' c' B B' w h h' => ir_eq a a' IN c c' B B' IL w h h' OKI.out
    go_wp2_with (first | (refine wpl_getT 27 rfl _ rfl (w.heap.size) rfl (PC6.out) _ Tryz.underlying27 rfl rfl ?_) | (refine wpl_getT 33 rfl _ rfl (w.heap.size + 1) rfl (PA6.out) _ Tryz.underlying33 rfl rfl ?_) | (refine wpl_getT 41 rfl _ rfl (nw3) rfl (N36.out) _ Tryz.underlying41 rfl rfl ?_) | (refine wpl_getT 48 rfl _ rfl (w4.heap.size) rfl (M46.out) _ Tryz.underlying48 rfl rfl ?_) | (refine wpl_getT 41 rfl _ rfl (w5.heap.size) rfl (M56.out) _ Tryz.underlying41 rfl rfl ?_) | (refine wpl_getT 41 rfl _ rfl (w6.heap.size) rfl (M66.out) _ Tryz.underlying41 rfl rfl ?_) | fail)
    refine (HE.out R6 Rw3 _ (Q66.out.rw OKG.out) (O36.out.rw OKG.out)).mono ?_
    rintro e w7 ⟨rfl, bx⟩
    have PC7 : Hid (Bx w7 (w.heap.size) [.int .i64 c.ip, .int .i64 c.b, .int .i64 c.gt, .string c.gm, .string c.wm, .int .i64 c.rs, .slice C.x c.ps.length C.xc, .slice C.y c.ros.length C.yc]) := PC6.out.below bx
    have PA7 : Hid (Bx w7 (w.heap.size + 1) [.slice A.u h.us.length A.uc, .slice A.s h.ss.length A.sc, .slice A.f h.fs.length A.fc, .slice A.r h.es.length A.rc, .int .i64 h.nx]) := PA6.out.below bx
    have N37 : Hid (Bx w7 (nw3) [.slice Rw3.u G.us.length Rw3.uc, .slice Rw3.s G.ss.length Rw3.sc, .slice Rw3.f G.fs.length Rw3.fc, .slice Rw3.r G.es.length Rw3.rc, .int .i64 G.nx]) := N36.out.below bx
    have O37 : Hid (OwnHu w7 w2.heap.size Rw3 G) := O36.out.now bx
    have Y37 : Hid (OwnR w7 (w2.heap.size) iw3 IN jw3 IL) := Y36.out.now bx
    have M47 : Hid (Bx w7 (w4.heap.size) [.int .i64 c.ip, .int .i64 c.b, .int .i64 c.gt, .string c.gm, .string c.wm, .int .i64 c.rs, .slice C4.x c.ps.length C4.xc, .slice C4.y c.ros.length C4.yc]) := M46.out.below bx
    have Q47 : Hid (OwnCf w7 w3.heap.size C4 c L4) := Q46.out.now bx
    have M57 : Hid (Bx w7 (w5.heap.size) [.slice A5.u h.us.length A5.uc, .slice A5.s h.ss.length A5.sc, .slice A5.f h.fs.length A5.fc, .slice A5.r h.es.length A5.rc, .int .i64 h.nx]) := M56.out.below bx
    have Q57 : Hid (OwnHu w7 (w4.alloc (.cells #[.int .i64 c.ip, .int .i64 c.b, .int .i64 c.gt, .string c.gm, .string c.wm, .int .i64 c.rs, .slice C4.x c.ps.length C4.xc, .slice C4.y c.ros.length C4.yc] 48)).heap.size A5 h) := Q56.out.now bx
    have M67 : Hid (Bx w7 (w6.heap.size) [.slice R6.u G.us.length R6.uc, .slice R6.s G.ss.length R6.sc, .slice R6.f G.fs.length R6.fc, .slice R6.r G.es.length R6.rc, .int .i64 G.nx]) := M66.out.below bx
    have Q67 : Hid (OwnHu w7 (w5.alloc (.cells #[.slice A5.u h.us.length A5.uc, .slice A5.s h.ss.length A5.sc, .slice A5.f h.fs.length A5.fc, .slice A5.r h.es.length A5.rc, .int .i64 h.nx] 41)).heap.size R6 G) := Q66.out.now bx
    have Z67 : Hid (OwnR w7 ((w5.alloc (.cells #[.slice A5.u h.us.length A5.uc, .slice A5.s h.ss.length A5.sc, .slice A5.f h.fs.length A5.fc, .slice A5.r h.es.length A5.rc, .int .i64 h.nx] 41)).heap.size) i9 IN j9 IL) := Z66.out.now bx
    have X7 : Hid (Below w.heap.size w w7) := X6.out.trans ((bx).mono X6.out.size)
    clear PC6 PA6 N36 O36 Y36 M46 Q46 M56 Q56 M66 Q66 Z66 X6
    clear bx
    go_wp2_with fail
    refine (HEI.out i9 j9 iw3 jw3 _ _ _ Z67.out Y37.out).mono ?_
    rintro e w8 ⟨rfl, bx⟩
    have PC8 : Hid (Bx w8 (w.heap.size) [.int .i64 c.ip, .int .i64 c.b, .int .i64 c.gt, .string c.gm, .string c.wm, .int .i64 c.rs, .slice C.x c.ps.length C.xc, .slice C.y c.ros.length C.yc]) := PC7.out.below bx
    have PA8 : Hid (Bx w8 (w.heap.size + 1) [.slice A.u h.us.length A.uc, .slice A.s h.ss.length A.sc, .slice A.f h.fs.length A.fc, .slice A.r h.es.length A.rc, .int .i64 h.nx]) := PA7.out.below bx
    have N38 : Hid (Bx w8 (nw3) [.slice Rw3.u G.us.length Rw3.uc, .slice Rw3.s G.ss.length Rw3.sc, .slice Rw3.f G.fs.length Rw3.fc, .slice Rw3.r G.es.length Rw3.rc, .int .i64 G.nx]) := N37.out.below bx
    have O38 : Hid (OwnHu w8 w2.heap.size Rw3 G) := O37.out.now bx
    have Y38 : Hid (OwnR w8 (w2.heap.size) iw3 IN jw3 IL) := Y37.out.now bx
    have M48 : Hid (Bx w8 (w4.heap.size) [.int .i64 c.ip, .int .i64 c.b, .int .i64 c.gt, .string c.gm, .string c.wm, .int .i64 c.rs, .slice C4.x c.ps.length C4.xc, .slice C4.y c.ros.length C4.yc]) := M47.out.below bx
    have Q48 : Hid (OwnCf w8 w3.heap.size C4 c L4) := Q47.out.now bx
    have M58 : Hid (Bx w8 (w5.heap.size) [.slice A5.u h.us.length A5.uc, .slice A5.s h.ss.length A5.sc, .slice A5.f h.fs.length A5.fc, .slice A5.r h.es.length A5.rc, .int .i64 h.nx]) := M57.out.below bx
    have Q58 : Hid (OwnHu w8 (w4.alloc (.cells #[.int .i64 c.ip, .int .i64 c.b, .int .i64 c.gt, .string c.gm, .string c.wm, .int .i64 c.rs, .slice C4.x c.ps.length C4.xc, .slice C4.y c.ros.length C4.yc] 48)).heap.size A5 h) := Q57.out.now bx
    have M68 : Hid (Bx w8 (w6.heap.size) [.slice R6.u G.us.length R6.uc, .slice R6.s G.ss.length R6.sc, .slice R6.f G.fs.length R6.fc, .slice R6.r G.es.length R6.rc, .int .i64 G.nx]) := M67.out.below bx
    have Q68 : Hid (OwnHu w8 (w5.alloc (.cells #[.slice A5.u h.us.length A5.uc, .slice A5.s h.ss.length A5.sc, .slice A5.f h.fs.length A5.fc, .slice A5.r h.es.length A5.rc, .int .i64 h.nx] 41)).heap.size R6 G) := Q67.out.now bx
    have Z68 : Hid (OwnR w8 ((w5.alloc (.cells #[.slice A5.u h.us.length A5.uc, .slice A5.s h.ss.length A5.sc, .slice A5.f h.fs.length A5.fc, .slice A5.r h.es.length A5.rc, .int .i64 h.nx] 41)).heap.size) i9 IN j9 IL) := Z67.out.now bx
    have X8 : Hid (Below w.heap.size w w8) := X7.out.trans ((bx).mono X7.out.size)
    clear PC7 PA7 N37 O37 Y37 M47 Q47 M57 Q57 M67 Q67 Z67 X7
    clear bx
    go_wp2_with fail
    refine Rlw.wp_region_rel (w := w8) [Rlw.valR 0 [] (.agg #[.int .i64 c.ip, .int .i64 c.b, .int .i64 c.gt, .string c.gm, .string c.wm, .int .i64 c.rs, .slice C4.x c.ps.length C4.xc, .slice C4.y c.ros.length C4.yc]), Rlw.valR 1 [] (.agg #[.int .i64 c.ip, .int .i64 c.b, .int .i64 c.gt, .string c.gm, .string c.wm, .int .i64 c.rs, .slice C.x c.ps.length C.xc, .slice C.y c.ros.length C.yc]), Rlw.kndR 2 [1] (kCf c) w8.heap.size, Rlw.valR 3 [0, 2] (.bool true), Rlw.valR 4 [3] (.bool false)] [] [0, 1, 2, 3, 4] (fun b => b < w8.heap.size) (by kernel_rfl) (by kernel_rfl) (by kernel_rfl) ?_ (fun b h => h) (fun k r hk => by cases hk) (fun j k rj rk hj => by cases hj) ?_ ?_
    · exact List.forall_mem_cons.2 ⟨Rlw.valR_ok _ _ _, List.forall_mem_cons.2 ⟨Rlw.valR_ok _ _ _, List.forall_mem_cons.2 ⟨Rlw.kndR_ok _ _ _ _, List.forall_mem_cons.2 ⟨Rlw.valR_ok _ _ _, List.forall_mem_cons.2 ⟨Rlw.valR_ok _ _ _, List.forall_mem_nil _⟩⟩⟩⟩⟩
    · refine (Rlw.walk_cons ?s0 (Rlw.walk_cons ?s1 (Rlw.walk_cons ?s2 (Rlw.walk_cons ?s3 (Rlw.walk_cons ?s4 Rlw.walk_nil)))))
      case s0 =>
        refine Rlw.step_want ?_ ?_
        · rfl
        intro σ wx hK hF post hp
        have hq := M48.out.below (Rlw.keep_below hK)
        refine Rlw.yld_get 48 _ rfl (q := w4.heap.size) (by go_simp) hq _ Tryz.underlying48 rfl rfl ?_
        exact hp _ _ Rlw.left_val
      case s1 =>
        refine Rlw.step_want ?_ ?_
        · rfl
        intro σ wx hK hF post hp
        have hq := PC8.out.below (Rlw.keep_below hK)
        refine Rlw.yld_get 27 _ rfl (q := w.heap.size) (by go_simp) hq _ Tryz.underlying27 rfl rfl ?_
        exact hp _ _ Rlw.left_val
      case s2 =>
        refine Rlw.step_want ?_ ?_
        · rfl
        intro σ wx hK hF post hp
        have f1 : σ 1 = .agg #[.int .i64 c.ip, .int .i64 c.b, .int .i64 c.gt, .string c.gm, .string c.wm, .int .i64 c.rs, .slice C.x c.ps.length C.xc, .slice C.y c.ros.length C.yc] := Rlw.fact_of hF (j := 1) rfl rfl
        have hb := Rlw.keep_below hK
        go_simp
        refine Rlw.yld_call ?_
        refine (HTC.out _ (RC.out.below (X8.out.trans (hb.mono X8.out.size)))).mono ?_
        rintro e w9 ⟨A9, L9, rfl, ho, b9⟩
        exact ⟨_, rfl, hp _ _ (Rlw.left_knd ⟨A9, L9, rfl, ho⟩ hK.size b9)⟩
      case s3 =>
        refine Rlw.step_want ?_ ?_
        · rfl
        intro σ wx hK hF post hp
        have f0 : σ 0 = .agg #[.int .i64 c.ip, .int .i64 c.b, .int .i64 c.gt, .string c.gm, .string c.wm, .int .i64 c.rs, .slice C4.x c.ps.length C4.xc, .slice C4.y c.ros.length C4.yc] := Rlw.fact_of hF (j := 0) rfl rfl
        have f2 : (kCf c).own wx w8.heap.size (σ 2) := Rlw.fact_of hF (j := 2) rfl rfl
        obtain ⟨A9, L9, e9, o9⟩ := f2
        have d9 : σ 2 = .agg #[.int .i64 c.ip, .int .i64 c.b, .int .i64 c.gt, .string c.gm, .string c.wm, .int .i64 c.rs, .slice A9.x c.ps.length A9.xc, .slice A9.y c.ros.length A9.yc] := e9
        clear e9
        have hb := Rlw.keep_below hK
        go_simp
        refine Rlw.yld_call ?_
        refine (cf_eq C4 A9 c wx ((Q48.out.now hb).rw HKC.out) (o9.rw HKC.out) SC.out).mono ?_
        rintro e w9 ⟨rfl, b9⟩
        exact ⟨_, rfl, hp _ _ (Rlw.left_valB b9)⟩
      case s4 =>
        refine Rlw.step_want ?_ ?_
        · rfl
        intro σ wx hK hF post hp
        have f3 : σ 3 = .bool true := Rlw.fact_of hF (j := 3) rfl rfl
        go_simp
        refine Rlw.yld_val ?_
        exact hp _ _ Rlw.left_val
    · intro σ w9 hK hF hA
      have f4 : σ 4 = .bool false := Rlw.fact_of hF (j := 4) rfl rfl
      have bx := Rlw.keep_below hK
      clear hF hA hK
      simp only [Rlw.putAll, Nat.zero_add, Nat.reduceAdd, f4]
      go_simp
      clear f4
      have PC9 : Hid (Bx w9 (w.heap.size) [.int .i64 c.ip, .int .i64 c.b, .int .i64 c.gt, .string c.gm, .string c.wm, .int .i64 c.rs, .slice C.x c.ps.length C.xc, .slice C.y c.ros.length C.yc]) := PC8.out.below bx
      have PA9 : Hid (Bx w9 (w.heap.size + 1) [.slice A.u h.us.length A.uc, .slice A.s h.ss.length A.sc, .slice A.f h.fs.length A.fc, .slice A.r h.es.length A.rc, .int .i64 h.nx]) := PA8.out.below bx
      have N39 : Hid (Bx w9 (nw3) [.slice Rw3.u G.us.length Rw3.uc, .slice Rw3.s G.ss.length Rw3.sc, .slice Rw3.f G.fs.length Rw3.fc, .slice Rw3.r G.es.length Rw3.rc, .int .i64 G.nx]) := N38.out.below bx
      have O39 : Hid (OwnHu w9 w2.heap.size Rw3 G) := O38.out.now bx
      have Y39 : Hid (OwnR w9 (w2.heap.size) iw3 IN jw3 IL) := Y38.out.now bx
      have M49 : Hid (Bx w9 (w4.heap.size) [.int .i64 c.ip, .int .i64 c.b, .int .i64 c.gt, .string c.gm, .string c.wm, .int .i64 c.rs, .slice C4.x c.ps.length C4.xc, .slice C4.y c.ros.length C4.yc]) := M48.out.below bx
      have Q49 : Hid (OwnCf w9 w3.heap.size C4 c L4) := Q48.out.now bx
      have M59 : Hid (Bx w9 (w5.heap.size) [.slice A5.u h.us.length A5.uc, .slice A5.s h.ss.length A5.sc, .slice A5.f h.fs.length A5.fc, .slice A5.r h.es.length A5.rc, .int .i64 h.nx]) := M58.out.below bx
      have Q59 : Hid (OwnHu w9 (w4.alloc (.cells #[.int .i64 c.ip, .int .i64 c.b, .int .i64 c.gt, .string c.gm, .string c.wm, .int .i64 c.rs, .slice C4.x c.ps.length C4.xc, .slice C4.y c.ros.length C4.yc] 48)).heap.size A5 h) := Q58.out.now bx
      have M69 : Hid (Bx w9 (w6.heap.size) [.slice R6.u G.us.length R6.uc, .slice R6.s G.ss.length R6.sc, .slice R6.f G.fs.length R6.fc, .slice R6.r G.es.length R6.rc, .int .i64 G.nx]) := M68.out.below bx
      have Q69 : Hid (OwnHu w9 (w5.alloc (.cells #[.slice A5.u h.us.length A5.uc, .slice A5.s h.ss.length A5.sc, .slice A5.f h.fs.length A5.fc, .slice A5.r h.es.length A5.rc, .int .i64 h.nx] 41)).heap.size R6 G) := Q68.out.now bx
      have Z69 : Hid (OwnR w9 ((w5.alloc (.cells #[.slice A5.u h.us.length A5.uc, .slice A5.s h.ss.length A5.sc, .slice A5.f h.fs.length A5.fc, .slice A5.r h.es.length A5.rc, .int .i64 h.nx] 41)).heap.size) i9 IN j9 IL) := Z68.out.now bx
      have X9 : Hid (Below w.heap.size w w9) := X8.out.trans ((bx).mono X8.out.size)
      clear PC8 PA8 N38 O38 Y38 M48 Q48 M58 Q58 M68 Q68 Z68 X8
      clear bx
      go_wp2_with fail
      refine Rlw.wp_region_rel (w := w9) [Rlw.valR 0 [] (.agg #[.slice A5.u h.us.length A5.uc, .slice A5.s h.ss.length A5.sc, .slice A5.f h.fs.length A5.fc, .slice A5.r h.es.length A5.rc, .int .i64 h.nx]), Rlw.valR 1 [] (.agg #[.slice A.u h.us.length A.uc, .slice A.s h.ss.length A.sc, .slice A.f h.fs.length A.fc, .slice A.r h.es.length A.rc, .int .i64 h.nx]), Rlw.kndR 2 [1] (kHu h) w9.heap.size, Rlw.valR 3 [0, 2] (.bool true), Rlw.valR 4 [3] (.bool false)] [] [0, 1, 2, 3, 4] (fun b => b < w9.heap.size) (by kernel_rfl) (by kernel_rfl) (by kernel_rfl) ?_ (fun b h => h) (fun k r hk => by cases hk) (fun j k rj rk hj => by cases hj) ?_ ?_
      · exact List.forall_mem_cons.2 ⟨Rlw.valR_ok _ _ _, List.forall_mem_cons.2 ⟨Rlw.valR_ok _ _ _, List.forall_mem_cons.2 ⟨Rlw.kndR_ok _ _ _ _, List.forall_mem_cons.2 ⟨Rlw.valR_ok _ _ _, List.forall_mem_cons.2 ⟨Rlw.valR_ok _ _ _, List.forall_mem_nil _⟩⟩⟩⟩⟩
      · refine (Rlw.walk_cons ?s0 (Rlw.walk_cons ?s1 (Rlw.walk_cons ?s2 (Rlw.walk_cons ?s3 (Rlw.walk_cons ?s4 Rlw.walk_nil)))))
        case s0 =>
          refine Rlw.step_want ?_ ?_
          · rfl
          intro σ wx hK hF post hp
          have hq := M59.out.below (Rlw.keep_below hK)
          refine Rlw.yld_get 41 _ rfl (q := w5.heap.size) (by go_simp) hq _ Tryz.underlying41 rfl rfl ?_
          exact hp _ _ Rlw.left_val
        case s1 =>
          refine Rlw.step_want ?_ ?_
          · rfl
          intro σ wx hK hF post hp
          have hq := PA9.out.below (Rlw.keep_below hK)
          refine Rlw.yld_get 33 _ rfl (q := w.heap.size + 1) (by go_simp) hq _ Tryz.underlying33 rfl rfl ?_
          exact hp _ _ Rlw.left_val
        case s2 =>
          refine Rlw.step_want ?_ ?_
          · rfl
          intro σ wx hK hF post hp
          have f1 : σ 1 = .agg #[.slice A.u h.us.length A.uc, .slice A.s h.ss.length A.sc, .slice A.f h.fs.length A.fc, .slice A.r h.es.length A.rc, .int .i64 h.nx] := Rlw.fact_of hF (j := 1) rfl rfl
          have hb := Rlw.keep_below hK
          go_simp
          refine Rlw.yld_call ?_
          refine (HTA.out _ (RA.out.below (X9.out.trans (hb.mono X9.out.size)))).mono ?_
          rintro e w9 ⟨A9, rfl, ho, b9⟩
          exact ⟨_, rfl, hp _ _ (Rlw.left_knd ⟨A9, rfl, ho⟩ hK.size b9)⟩
        case s3 =>
          refine Rlw.step_want ?_ ?_
          · rfl
          intro σ wx hK hF post hp
          have f0 : σ 0 = .agg #[.slice A5.u h.us.length A5.uc, .slice A5.s h.ss.length A5.sc, .slice A5.f h.fs.length A5.fc, .slice A5.r h.es.length A5.rc, .int .i64 h.nx] := Rlw.fact_of hF (j := 0) rfl rfl
          have f2 : (kHu h).own wx w9.heap.size (σ 2) := Rlw.fact_of hF (j := 2) rfl rfl
          obtain ⟨A9, e9, o9⟩ := f2
          have d9 : σ 2 = .agg #[.slice A9.u h.us.length A9.uc, .slice A9.s h.ss.length A9.sc, .slice A9.f h.fs.length A9.fc, .slice A9.r h.es.length A9.rc, .int .i64 h.nx] := e9
          clear e9
          have hb := Rlw.keep_below hK
          go_simp
          refine Rlw.yld_call ?_
          refine (hu_eq A5 A9 h wx ((Q59.out.now hb).rw HKH.out) (o9.rw HKH.out) SH.out.ln).mono ?_
          rintro e w9 ⟨rfl, b9⟩
          exact ⟨_, rfl, hp _ _ (Rlw.left_valB b9)⟩
        case s4 =>
          refine Rlw.step_want ?_ ?_
          · rfl
          intro σ wx hK hF post hp
          have f3 : σ 3 = .bool true := Rlw.fact_of hF (j := 3) rfl rfl
          go_simp
          refine Rlw.yld_val ?_
          exact hp _ _ Rlw.left_val
      · intro σ w10 hK hF hA
        have f4 : σ 4 = .bool false := Rlw.fact_of hF (j := 4) rfl rfl
        have bx := Rlw.keep_below hK
        clear hF hA hK
        simp only [Rlw.putAll, Nat.zero_add, Nat.reduceAdd, f4]
        go_simp
        clear f4
        have PC10 : Hid (Bx w10 (w.heap.size) [.int .i64 c.ip, .int .i64 c.b, .int .i64 c.gt, .string c.gm, .string c.wm, .int .i64 c.rs, .slice C.x c.ps.length C.xc, .slice C.y c.ros.length C.yc]) := PC9.out.below bx
        have PA10 : Hid (Bx w10 (w.heap.size + 1) [.slice A.u h.us.length A.uc, .slice A.s h.ss.length A.sc, .slice A.f h.fs.length A.fc, .slice A.r h.es.length A.rc, .int .i64 h.nx]) := PA9.out.below bx
        have N310 : Hid (Bx w10 (nw3) [.slice Rw3.u G.us.length Rw3.uc, .slice Rw3.s G.ss.length Rw3.sc, .slice Rw3.f G.fs.length Rw3.fc, .slice Rw3.r G.es.length Rw3.rc, .int .i64 G.nx]) := N39.out.below bx
        have O310 : Hid (OwnHu w10 w2.heap.size Rw3 G) := O39.out.now bx
        have Y310 : Hid (OwnR w10 (w2.heap.size) iw3 IN jw3 IL) := Y39.out.now bx
        have M410 : Hid (Bx w10 (w4.heap.size) [.int .i64 c.ip, .int .i64 c.b, .int .i64 c.gt, .string c.gm, .string c.wm, .int .i64 c.rs, .slice C4.x c.ps.length C4.xc, .slice C4.y c.ros.length C4.yc]) := M49.out.below bx
        have Q410 : Hid (OwnCf w10 w3.heap.size C4 c L4) := Q49.out.now bx
        have M510 : Hid (Bx w10 (w5.heap.size) [.slice A5.u h.us.length A5.uc, .slice A5.s h.ss.length A5.sc, .slice A5.f h.fs.length A5.fc, .slice A5.r h.es.length A5.rc, .int .i64 h.nx]) := M59.out.below bx
        have Q510 : Hid (OwnHu w10 (w4.alloc (.cells #[.int .i64 c.ip, .int .i64 c.b, .int .i64 c.gt, .string c.gm, .string c.wm, .int .i64 c.rs, .slice C4.x c.ps.length C4.xc, .slice C4.y c.ros.length C4.yc] 48)).heap.size A5 h) := Q59.out.now bx
        have M610 : Hid (Bx w10 (w6.heap.size) [.slice R6.u G.us.length R6.uc, .slice R6.s G.ss.length R6.sc, .slice R6.f G.fs.length R6.fc, .slice R6.r G.es.length R6.rc, .int .i64 G.nx]) := M69.out.below bx
        have Q610 : Hid (OwnHu w10 (w5.alloc (.cells #[.slice A5.u h.us.length A5.uc, .slice A5.s h.ss.length A5.sc, .slice A5.f h.fs.length A5.fc, .slice A5.r h.es.length A5.rc, .int .i64 h.nx] 41)).heap.size R6 G) := Q69.out.now bx
        have Z610 : Hid (OwnR w10 ((w5.alloc (.cells #[.slice A5.u h.us.length A5.uc, .slice A5.s h.ss.length A5.sc, .slice A5.f h.fs.length A5.fc, .slice A5.r h.es.length A5.rc, .int .i64 h.nx] 41)).heap.size) i9 IN j9 IL) := Z69.out.now bx
        have X10 : Hid (Below w.heap.size w w10) := X9.out.trans ((bx).mono X9.out.size)
        clear PC9 PA9 N39 O39 Y39 M49 Q49 M59 Q59 M69 Q69 Z69 X9
        clear bx
        go_wp2_with (first | (refine wpl_getT 27 rfl _ rfl (w.heap.size) rfl (PC10.out) _ Tryz.underlying27 rfl rfl ?_) | (refine wpl_getT 33 rfl _ rfl (w.heap.size + 1) rfl (PA10.out) _ Tryz.underlying33 rfl rfl ?_) | (refine wpl_getT 41 rfl _ rfl (nw3) rfl (N310.out) _ Tryz.underlying41 rfl rfl ?_) | (refine wpl_getT 48 rfl _ rfl (w4.heap.size) rfl (M410.out) _ Tryz.underlying48 rfl rfl ?_) | (refine wpl_getT 41 rfl _ rfl (w5.heap.size) rfl (M510.out) _ Tryz.underlying41 rfl rfl ?_) | (refine wpl_getT 41 rfl _ rfl (w6.heap.size) rfl (M610.out) _ Tryz.underlying41 rfl rfl ?_) | fail)
        refine (show Calls _ _ #[_, .int .i64 (1 : Int)] _ _ from (cf_mark C4 c L4 _ 1 _ Q410.out SC.out (by omega) (by omega))).mono ?_
        rintro e w11 ⟨rfl, hk9⟩
        have nb11 := cfN_bd Q410.out.ro SC.out
        obtain ⟨K11, hK11⟩ : ∃ K : Nat, 1 + cfN c L4 = K := ⟨_, rfl⟩
        have kb11 : 0 < K11 ∧ K11 ≤ 500000000 := by omega
        rw [hK11]
        clear hK11 nb11
        have PC11 : Hid (Bx w11 (w.heap.size) [.int .i64 c.ip, .int .i64 c.b, .int .i64 c.gt, .string c.gm, .string c.wm, .int .i64 c.rs, .slice C.x c.ps.length C.xc, .slice C.y c.ros.length C.yc]) := Rlw.bx_keepW PC10.out hk9 ⟨World.block_lt_of_cell? w10 ⟨w.heap.size, 0, none⟩ (PC10.out.cell 0 rfl), fun hx => by have i3 := I3.out.1; have j3 := J3.out; have i4 := I4.out.1; have i5 := I5.out.1; have i6 := I6.out.1; have z := I4.out.2 _ hx; omega⟩
        have PA11 : Hid (Bx w11 (w.heap.size + 1) [.slice A.u h.us.length A.uc, .slice A.s h.ss.length A.sc, .slice A.f h.fs.length A.fc, .slice A.r h.es.length A.rc, .int .i64 h.nx]) := Rlw.bx_keepW PA10.out hk9 ⟨World.block_lt_of_cell? w10 ⟨w.heap.size + 1, 0, none⟩ (PA10.out.cell 0 rfl), fun hx => by have i3 := I3.out.1; have j3 := J3.out; have i4 := I4.out.1; have i5 := I5.out.1; have i6 := I6.out.1; have z := I4.out.2 _ hx; omega⟩
        have N311 : Hid (Bx w11 (nw3) [.slice Rw3.u G.us.length Rw3.uc, .slice Rw3.s G.ss.length Rw3.sc, .slice Rw3.f G.fs.length Rw3.fc, .slice Rw3.r G.es.length Rw3.rc, .int .i64 G.nx]) := Rlw.bx_keepW N310.out hk9 ⟨World.block_lt_of_cell? w10 ⟨nw3, 0, none⟩ (N310.out.cell 0 rfl), fun hx => by have i3 := I3.out.1; have j3 := J3.out; have i4 := I4.out.1; have i5 := I5.out.1; have i6 := I6.out.1; have z := I4.out.2 _ hx; omega⟩
        have O311 : Hid (OwnHu w11 w2.heap.size Rw3 G) := O310.out.keep (fun x hy => hk9.block x ⟨(O310.out.lt x hy).2, fun hx => by have i3 := I3.out.1; have j3 := J3.out; have i4 := I4.out.1; have i5 := I5.out.1; have i6 := I6.out.1; have z := I4.out.2 _ hx; have y := I3.out.2.1 x hy; omega⟩)
        have Y311 : Hid (OwnR w11 (w2.heap.size) iw3 IN jw3 IL) := Y310.out.keep (fun x hy => hk9.block x ⟨(Y310.out.lt x hy).2, fun hx => by have i3 := I3.out.1; have j3 := J3.out; have i4 := I4.out.1; have i5 := I5.out.1; have i6 := I6.out.1; have z := I4.out.2 _ hx; have y := I3.out.2.2 x hy; omega⟩)
        have M511 : Hid (Bx w11 (w5.heap.size) [.slice A5.u h.us.length A5.uc, .slice A5.s h.ss.length A5.sc, .slice A5.f h.fs.length A5.fc, .slice A5.r h.es.length A5.rc, .int .i64 h.nx]) := Rlw.bx_keepW M510.out hk9 ⟨World.block_lt_of_cell? w10 ⟨w5.heap.size, 0, none⟩ (M510.out.cell 0 rfl), fun hx => by have i3 := I3.out.1; have j3 := J3.out; have i4 := I4.out.1; have i5 := I5.out.1; have i6 := I6.out.1; have z := I4.out.2 _ hx; omega⟩
        have Q511 : Hid (OwnHu w11 (w4.alloc (.cells #[.int .i64 c.ip, .int .i64 c.b, .int .i64 c.gt, .string c.gm, .string c.wm, .int .i64 c.rs, .slice C4.x c.ps.length C4.xc, .slice C4.y c.ros.length C4.yc] 48)).heap.size A5 h) := Q510.out.keep (fun x hy => hk9.block x ⟨(Q510.out.lt x hy).2, fun hx => by have i3 := I3.out.1; have j3 := J3.out; have i4 := I4.out.1; have i5 := I5.out.1; have i6 := I6.out.1; have z := I4.out.2 _ hx; have y := I5.out.2 x hy; omega⟩)
        have M611 : Hid (Bx w11 (w6.heap.size) [.slice R6.u G.us.length R6.uc, .slice R6.s G.ss.length R6.sc, .slice R6.f G.fs.length R6.fc, .slice R6.r G.es.length R6.rc, .int .i64 G.nx]) := Rlw.bx_keepW M610.out hk9 ⟨World.block_lt_of_cell? w10 ⟨w6.heap.size, 0, none⟩ (M610.out.cell 0 rfl), fun hx => by have i3 := I3.out.1; have j3 := J3.out; have i4 := I4.out.1; have i5 := I5.out.1; have i6 := I6.out.1; have z := I4.out.2 _ hx; omega⟩
        have Q611 : Hid (OwnHu w11 (w5.alloc (.cells #[.slice A5.u h.us.length A5.uc, .slice A5.s h.ss.length A5.sc, .slice A5.f h.fs.length A5.fc, .slice A5.r h.es.length A5.rc, .int .i64 h.nx] 41)).heap.size R6 G) := Q610.out.keep (fun x hy => hk9.block x ⟨(Q610.out.lt x hy).2, fun hx => by have i3 := I3.out.1; have j3 := J3.out; have i4 := I4.out.1; have i5 := I5.out.1; have i6 := I6.out.1; have z := I4.out.2 _ hx; have y := I6.out.2.1 x hy; omega⟩)
        have Z611 : Hid (OwnR w11 ((w5.alloc (.cells #[.slice A5.u h.us.length A5.uc, .slice A5.s h.ss.length A5.sc, .slice A5.f h.fs.length A5.fc, .slice A5.r h.es.length A5.rc, .int .i64 h.nx] 41)).heap.size) i9 IN j9 IL) := Z610.out.keep (fun x hy => hk9.block x ⟨(Z610.out.lt x hy).2, fun hx => by have i3 := I3.out.1; have j3 := J3.out; have i4 := I4.out.1; have i5 := I5.out.1; have i6 := I6.out.1; have z := I4.out.2 _ hx; have y := I6.out.2.2 x hy; omega⟩)
        have X11 : Hid (Below w.heap.size w w11) := X10.out.trans ⟨hk9.os, hk9.tape, hk9.output, hk9.size, fun x hy => hk9.block x ⟨Nat.lt_of_lt_of_le hy X10.out.size, fun hx => by have i3 := I3.out.1; have j3 := J3.out; have i4 := I4.out.1; have i5 := I5.out.1; have i6 := I6.out.1; have z := I4.out.2 _ hx; omega⟩⟩
        clear PC10 PA10 N310 O310 Y310 M410 Q410 M510 Q510 M610 Q610 Z610 X10
        clear hk9
        go_wp2_with (first | (refine wpl_getT 27 rfl _ rfl (w.heap.size) rfl (PC11.out) _ Tryz.underlying27 rfl rfl ?_) | (refine wpl_getT 33 rfl _ rfl (w.heap.size + 1) rfl (PA11.out) _ Tryz.underlying33 rfl rfl ?_) | (refine wpl_getT 41 rfl _ rfl (nw3) rfl (N311.out) _ Tryz.underlying41 rfl rfl ?_) | (refine wpl_getT 41 rfl _ rfl (w5.heap.size) rfl (M511.out) _ Tryz.underlying41 rfl rfl ?_) | (refine wpl_getT 41 rfl _ rfl (w6.heap.size) rfl (M611.out) _ Tryz.underlying41 rfl rfl ?_) | fail)
        refine (hu_mark A5 h _ K11 _ Q511.out SH.out.ln (by omega) (by omega)).mono ?_
        rintro e w12 ⟨rfl, -, hk9⟩
        have nb12 := huN_bd SH.out.ln
        obtain ⟨K12, hK12⟩ : ∃ K : Nat, K11 + huN h = K := ⟨_, rfl⟩
        have kb12 : 0 < K12 ∧ K12 ≤ 900000000 := by omega
        rw [hK12]
        clear hK12 nb12
        have PC12 : Hid (Bx w12 (w.heap.size) [.int .i64 c.ip, .int .i64 c.b, .int .i64 c.gt, .string c.gm, .string c.wm, .int .i64 c.rs, .slice C.x c.ps.length C.xc, .slice C.y c.ros.length C.yc]) := Rlw.bx_keepW PC11.out hk9 ⟨World.block_lt_of_cell? w11 ⟨w.heap.size, 0, none⟩ (PC11.out.cell 0 rfl), fun hx => by have i3 := I3.out.1; have j3 := J3.out; have i4 := I4.out.1; have i5 := I5.out.1; have i6 := I6.out.1; have z := I5.out.2 _ hx; omega⟩
        have PA12 : Hid (Bx w12 (w.heap.size + 1) [.slice A.u h.us.length A.uc, .slice A.s h.ss.length A.sc, .slice A.f h.fs.length A.fc, .slice A.r h.es.length A.rc, .int .i64 h.nx]) := Rlw.bx_keepW PA11.out hk9 ⟨World.block_lt_of_cell? w11 ⟨w.heap.size + 1, 0, none⟩ (PA11.out.cell 0 rfl), fun hx => by have i3 := I3.out.1; have j3 := J3.out; have i4 := I4.out.1; have i5 := I5.out.1; have i6 := I6.out.1; have z := I5.out.2 _ hx; omega⟩
        have N312 : Hid (Bx w12 (nw3) [.slice Rw3.u G.us.length Rw3.uc, .slice Rw3.s G.ss.length Rw3.sc, .slice Rw3.f G.fs.length Rw3.fc, .slice Rw3.r G.es.length Rw3.rc, .int .i64 G.nx]) := Rlw.bx_keepW N311.out hk9 ⟨World.block_lt_of_cell? w11 ⟨nw3, 0, none⟩ (N311.out.cell 0 rfl), fun hx => by have i3 := I3.out.1; have j3 := J3.out; have i4 := I4.out.1; have i5 := I5.out.1; have i6 := I6.out.1; have z := I5.out.2 _ hx; omega⟩
        have O312 : Hid (OwnHu w12 w2.heap.size Rw3 G) := O311.out.keep (fun x hy => hk9.block x ⟨(O311.out.lt x hy).2, fun hx => by have i3 := I3.out.1; have j3 := J3.out; have i4 := I4.out.1; have i5 := I5.out.1; have i6 := I6.out.1; have z := I5.out.2 _ hx; have y := I3.out.2.1 x hy; omega⟩)
        have Y312 : Hid (OwnR w12 (w2.heap.size) iw3 IN jw3 IL) := Y311.out.keep (fun x hy => hk9.block x ⟨(Y311.out.lt x hy).2, fun hx => by have i3 := I3.out.1; have j3 := J3.out; have i4 := I4.out.1; have i5 := I5.out.1; have i6 := I6.out.1; have z := I5.out.2 _ hx; have y := I3.out.2.2 x hy; omega⟩)
        have M612 : Hid (Bx w12 (w6.heap.size) [.slice R6.u G.us.length R6.uc, .slice R6.s G.ss.length R6.sc, .slice R6.f G.fs.length R6.fc, .slice R6.r G.es.length R6.rc, .int .i64 G.nx]) := Rlw.bx_keepW M611.out hk9 ⟨World.block_lt_of_cell? w11 ⟨w6.heap.size, 0, none⟩ (M611.out.cell 0 rfl), fun hx => by have i3 := I3.out.1; have j3 := J3.out; have i4 := I4.out.1; have i5 := I5.out.1; have i6 := I6.out.1; have z := I5.out.2 _ hx; omega⟩
        have Q612 : Hid (OwnHu w12 (w5.alloc (.cells #[.slice A5.u h.us.length A5.uc, .slice A5.s h.ss.length A5.sc, .slice A5.f h.fs.length A5.fc, .slice A5.r h.es.length A5.rc, .int .i64 h.nx] 41)).heap.size R6 G) := Q611.out.keep (fun x hy => hk9.block x ⟨(Q611.out.lt x hy).2, fun hx => by have i3 := I3.out.1; have j3 := J3.out; have i4 := I4.out.1; have i5 := I5.out.1; have i6 := I6.out.1; have z := I5.out.2 _ hx; have y := I6.out.2.1 x hy; omega⟩)
        have Z612 : Hid (OwnR w12 ((w5.alloc (.cells #[.slice A5.u h.us.length A5.uc, .slice A5.s h.ss.length A5.sc, .slice A5.f h.fs.length A5.fc, .slice A5.r h.es.length A5.rc, .int .i64 h.nx] 41)).heap.size) i9 IN j9 IL) := Z611.out.keep (fun x hy => hk9.block x ⟨(Z611.out.lt x hy).2, fun hx => by have i3 := I3.out.1; have j3 := J3.out; have i4 := I4.out.1; have i5 := I5.out.1; have i6 := I6.out.1; have z := I5.out.2 _ hx; have y := I6.out.2.2 x hy; omega⟩)
        have X12 : Hid (Below w.heap.size w w12) := X11.out.trans ⟨hk9.os, hk9.tape, hk9.output, hk9.size, fun x hy => hk9.block x ⟨Nat.lt_of_lt_of_le hy X11.out.size, fun hx => by have i3 := I3.out.1; have j3 := J3.out; have i4 := I4.out.1; have i5 := I5.out.1; have i6 := I6.out.1; have z := I5.out.2 _ hx; omega⟩⟩
        clear PC11 PA11 N311 O311 Y311 M511 Q511 M611 Q611 Z611 X11
        clear hk9
        have hkn : decide (((K12 : Nat) : Int) < 0) = false := decide_eq_false (by omega)
        have ca0 : w12.cell? ⟨w6.heap.size, 0, none⟩ = some (.slice R6.u G.us.length R6.uc) := M612.out.cell 0 rfl
        have ca1 : w12.cell? ⟨w6.heap.size, 1, none⟩ = some (.slice R6.s G.ss.length R6.sc) := M612.out.cell 1 rfl
        have ca2 : w12.cell? ⟨w6.heap.size, 2, none⟩ = some (.slice R6.f G.fs.length R6.fc) := M612.out.cell 2 rfl
        have ca3 : w12.cell? ⟨w6.heap.size, 3, none⟩ = some (.slice R6.r G.es.length R6.rc) := M612.out.cell 3 rfl
        have ca4 : w12.cell? ⟨w6.heap.size, 4, none⟩ = some (.int .i64 G.nx) := M612.out.cell 4 rfl
        have cb0 : w12.cell? ⟨nw3, 0, none⟩ = some (.slice Rw3.u G.us.length Rw3.uc) := N312.out.cell 0 rfl
        have cb1 : w12.cell? ⟨nw3, 1, none⟩ = some (.slice Rw3.s G.ss.length Rw3.sc) := N312.out.cell 1 rfl
        have cb2 : w12.cell? ⟨nw3, 2, none⟩ = some (.slice Rw3.f G.fs.length Rw3.fc) := N312.out.cell 2 rfl
        have cb3 : w12.cell? ⟨nw3, 3, none⟩ = some (.slice Rw3.r G.es.length Rw3.rc) := N312.out.cell 3 rfl
        have cb4 : w12.cell? ⟨nw3, 4, none⟩ = some (.int .i64 G.nx) := N312.out.cell 4 rfl
        go_wp2_with fail
        refine (HE.out R6 Rw3 _ (Q612.out.rw OKG.out) (O312.out.rw OKG.out)).mono ?_
        rintro e w13 ⟨rfl, bx⟩
        clear ca0 cb0 ca1 cb1 ca2 cb2 ca3 cb3 ca4 cb4
        have PC13 : Hid (Bx w13 (w.heap.size) [.int .i64 c.ip, .int .i64 c.b, .int .i64 c.gt, .string c.gm, .string c.wm, .int .i64 c.rs, .slice C.x c.ps.length C.xc, .slice C.y c.ros.length C.yc]) := PC12.out.below bx
        have PA13 : Hid (Bx w13 (w.heap.size + 1) [.slice A.u h.us.length A.uc, .slice A.s h.ss.length A.sc, .slice A.f h.fs.length A.fc, .slice A.r h.es.length A.rc, .int .i64 h.nx]) := PA12.out.below bx
        have N313 : Hid (Bx w13 (nw3) [.slice Rw3.u G.us.length Rw3.uc, .slice Rw3.s G.ss.length Rw3.sc, .slice Rw3.f G.fs.length Rw3.fc, .slice Rw3.r G.es.length Rw3.rc, .int .i64 G.nx]) := N312.out.below bx
        have O313 : Hid (OwnHu w13 w2.heap.size Rw3 G) := O312.out.now bx
        have Y313 : Hid (OwnR w13 (w2.heap.size) iw3 IN jw3 IL) := Y312.out.now bx
        have M613 : Hid (Bx w13 (w6.heap.size) [.slice R6.u G.us.length R6.uc, .slice R6.s G.ss.length R6.sc, .slice R6.f G.fs.length R6.fc, .slice R6.r G.es.length R6.rc, .int .i64 G.nx]) := M612.out.below bx
        have Q613 : Hid (OwnHu w13 (w5.alloc (.cells #[.slice A5.u h.us.length A5.uc, .slice A5.s h.ss.length A5.sc, .slice A5.f h.fs.length A5.fc, .slice A5.r h.es.length A5.rc, .int .i64 h.nx] 41)).heap.size R6 G) := Q612.out.now bx
        have Z613 : Hid (OwnR w13 ((w5.alloc (.cells #[.slice A5.u h.us.length A5.uc, .slice A5.s h.ss.length A5.sc, .slice A5.f h.fs.length A5.fc, .slice A5.r h.es.length A5.rc, .int .i64 h.nx] 41)).heap.size) i9 IN j9 IL) := Z612.out.now bx
        have X13 : Hid (Below w.heap.size w w13) := X12.out.trans ((bx).mono X12.out.size)
        clear PC12 PA12 N312 O312 Y312 M612 Q612 Z612 X12
        clear bx
        go_wp2_with fail
        refine (HEI.out i9 j9 iw3 jw3 _ _ _ Z613.out Y313.out).mono ?_
        rintro e w14 ⟨rfl, bx⟩
        have PC14 : Hid (Bx w14 (w.heap.size) [.int .i64 c.ip, .int .i64 c.b, .int .i64 c.gt, .string c.gm, .string c.wm, .int .i64 c.rs, .slice C.x c.ps.length C.xc, .slice C.y c.ros.length C.yc]) := PC13.out.below bx
        have PA14 : Hid (Bx w14 (w.heap.size + 1) [.slice A.u h.us.length A.uc, .slice A.s h.ss.length A.sc, .slice A.f h.fs.length A.fc, .slice A.r h.es.length A.rc, .int .i64 h.nx]) := PA13.out.below bx
        have N314 : Hid (Bx w14 (nw3) [.slice Rw3.u G.us.length Rw3.uc, .slice Rw3.s G.ss.length Rw3.sc, .slice Rw3.f G.fs.length Rw3.fc, .slice Rw3.r G.es.length Rw3.rc, .int .i64 G.nx]) := N313.out.below bx
        have O314 : Hid (OwnHu w14 w2.heap.size Rw3 G) := O313.out.now bx
        have Y314 : Hid (OwnR w14 (w2.heap.size) iw3 IN jw3 IL) := Y313.out.now bx
        have M614 : Hid (Bx w14 (w6.heap.size) [.slice R6.u G.us.length R6.uc, .slice R6.s G.ss.length R6.sc, .slice R6.f G.fs.length R6.fc, .slice R6.r G.es.length R6.rc, .int .i64 G.nx]) := M613.out.below bx
        have Q614 : Hid (OwnHu w14 (w5.alloc (.cells #[.slice A5.u h.us.length A5.uc, .slice A5.s h.ss.length A5.sc, .slice A5.f h.fs.length A5.fc, .slice A5.r h.es.length A5.rc, .int .i64 h.nx] 41)).heap.size R6 G) := Q613.out.now bx
        have Z614 : Hid (OwnR w14 ((w5.alloc (.cells #[.slice A5.u h.us.length A5.uc, .slice A5.s h.ss.length A5.sc, .slice A5.f h.fs.length A5.fc, .slice A5.r h.es.length A5.rc, .int .i64 h.nx] 41)).heap.size) i9 IN j9 IL) := Z613.out.now bx
        have X14 : Hid (Below w.heap.size w w14) := X13.out.trans ((bx).mono X13.out.size)
        clear PC13 PA13 N313 O313 Y313 M613 Q613 Z613 X13
        clear bx
        go_wp2_with (first | (refine wpl_getT 27 rfl _ rfl (w.heap.size) rfl (PC14.out) _ Tryz.underlying27 rfl rfl ?_) | (refine wpl_getT 33 rfl _ rfl (w.heap.size + 1) rfl (PA14.out) _ Tryz.underlying33 rfl rfl ?_) | (refine wpl_getT 41 rfl _ rfl (nw3) rfl (N314.out) _ Tryz.underlying41 rfl rfl ?_) | (refine wpl_getT 41 rfl _ rfl (w6.heap.size) rfl (M614.out) _ Tryz.underlying41 rfl rfl ?_) | fail)
        refine (show Calls _ _ #[_, .int .i64 (1 : Int)] _ _ from (hu_mark R6 G _ 1 _ Q614.out LG.out (by omega) (by omega))).mono ?_
        rintro e w15 ⟨rfl, mk9, hk9⟩
        have nb15 := huN_bd LG.out
        obtain ⟨KM, hKM⟩ : ∃ K : Nat, 1 + huN G = K := ⟨_, rfl⟩
        have kbM : 0 < KM ∧ KM ≤ 900000000 := by omega
        have HKM : Hid (1 + huN G = KM) := hKM
        rw [hKM]
        clear hKM nb15
        have PC15 : Hid (Bx w15 (w.heap.size) [.int .i64 c.ip, .int .i64 c.b, .int .i64 c.gt, .string c.gm, .string c.wm, .int .i64 c.rs, .slice C.x c.ps.length C.xc, .slice C.y c.ros.length C.yc]) := Rlw.bx_keepW PC14.out hk9 ⟨World.block_lt_of_cell? w14 ⟨w.heap.size, 0, none⟩ (PC14.out.cell 0 rfl), fun hx => by have i3 := I3.out.1; have j3 := J3.out; have i4 := I4.out.1; have i5 := I5.out.1; have i6 := I6.out.1; have z := I6.out.2.1 _ hx; omega⟩
        have PA15 : Hid (Bx w15 (w.heap.size + 1) [.slice A.u h.us.length A.uc, .slice A.s h.ss.length A.sc, .slice A.f h.fs.length A.fc, .slice A.r h.es.length A.rc, .int .i64 h.nx]) := Rlw.bx_keepW PA14.out hk9 ⟨World.block_lt_of_cell? w14 ⟨w.heap.size + 1, 0, none⟩ (PA14.out.cell 0 rfl), fun hx => by have i3 := I3.out.1; have j3 := J3.out; have i4 := I4.out.1; have i5 := I5.out.1; have i6 := I6.out.1; have z := I6.out.2.1 _ hx; omega⟩
        have N315 : Hid (Bx w15 (nw3) [.slice Rw3.u G.us.length Rw3.uc, .slice Rw3.s G.ss.length Rw3.sc, .slice Rw3.f G.fs.length Rw3.fc, .slice Rw3.r G.es.length Rw3.rc, .int .i64 G.nx]) := Rlw.bx_keepW N314.out hk9 ⟨World.block_lt_of_cell? w14 ⟨nw3, 0, none⟩ (N314.out.cell 0 rfl), fun hx => by have i3 := I3.out.1; have j3 := J3.out; have i4 := I4.out.1; have i5 := I5.out.1; have i6 := I6.out.1; have z := I6.out.2.1 _ hx; omega⟩
        have O315 : Hid (OwnHu w15 w2.heap.size Rw3 G) := O314.out.keep (fun x hy => hk9.block x ⟨(O314.out.lt x hy).2, fun hx => by have i3 := I3.out.1; have j3 := J3.out; have i4 := I4.out.1; have i5 := I5.out.1; have i6 := I6.out.1; have z := I6.out.2.1 _ hx; have y := I3.out.2.1 x hy; omega⟩)
        have Y315 : Hid (OwnR w15 (w2.heap.size) iw3 IN jw3 IL) := Y314.out.keep (fun x hy => hk9.block x ⟨(Y314.out.lt x hy).2, fun hx => by have i3 := I3.out.1; have j3 := J3.out; have i4 := I4.out.1; have i5 := I5.out.1; have i6 := I6.out.1; have z := I6.out.2.1 _ hx; have y := I3.out.2.2 x hy; omega⟩)
        have M615 : Hid (Bx w15 (w6.heap.size) [.slice R6.u G.us.length R6.uc, .slice R6.s G.ss.length R6.sc, .slice R6.f G.fs.length R6.fc, .slice R6.r G.es.length R6.rc, .int .i64 G.nx]) := Rlw.bx_keepW M614.out hk9 ⟨World.block_lt_of_cell? w14 ⟨w6.heap.size, 0, none⟩ (M614.out.cell 0 rfl), fun hx => by have i3 := I3.out.1; have j3 := J3.out; have i4 := I4.out.1; have i5 := I5.out.1; have i6 := I6.out.1; have z := I6.out.2.1 _ hx; omega⟩
        have Z615 : Hid (OwnR w15 ((w5.alloc (.cells #[.slice A5.u h.us.length A5.uc, .slice A5.s h.ss.length A5.sc, .slice A5.f h.fs.length A5.fc, .slice A5.r h.es.length A5.rc, .int .i64 h.nx] 41)).heap.size) i9 IN j9 IL) := Z614.out.keep (fun x hy => hk9.block x ⟨(Z614.out.lt x hy).2, fun hx => by have z : (0 : Nat) = 1 := (AP.out _ hx hy).elim; omega⟩)
        have X15 : Hid (Below w.heap.size w w15) := X14.out.trans ⟨hk9.os, hk9.tape, hk9.output, hk9.size, fun x hy => hk9.block x ⟨Nat.lt_of_lt_of_le hy X14.out.size, fun hx => by have i3 := I3.out.1; have j3 := J3.out; have i4 := I4.out.1; have i5 := I5.out.1; have i6 := I6.out.1; have z := I6.out.2.1 _ hx; omega⟩⟩
        clear PC14 PA14 N314 O314 Y314 M614 Q614 Z614 X14
        have Q615 : Hid (MkdHu w15 ((w5.alloc (.cells #[.slice A5.u h.us.length A5.uc, .slice A5.s h.ss.length A5.sc, .slice A5.f h.fs.length A5.fc, .slice A5.r h.es.length A5.rc, .int .i64 h.nx] 41)).heap.size) R6 G 1) := mk9
        clear mk9 hk9
        go_wp2_with fail
        refine (ir_mark i9 IN j9 _ KM IL _ Z615.out (by omega) (by omega)).mono ?_
        rintro e w16 ⟨rfl, mk9, hk9⟩
        have Q616 : Hid (MkdHu w16 ((w5.alloc (.cells #[.slice A5.u h.us.length A5.uc, .slice A5.s h.ss.length A5.sc, .slice A5.f h.fs.length A5.fc, .slice A5.r h.es.length A5.rc, .int .i64 h.nx] 41)).heap.size) R6 G 1) := MkdHu.keep Q615.out (fun x hy => hk9.block x ⟨(MkdHu.lt Q615.out x hy).2, AP.out x hy⟩)
        clear Q615
        have PC16 : Hid (Bx w16 (w.heap.size) [.int .i64 c.ip, .int .i64 c.b, .int .i64 c.gt, .string c.gm, .string c.wm, .int .i64 c.rs, .slice C.x c.ps.length C.xc, .slice C.y c.ros.length C.yc]) := Rlw.bx_keepW PC15.out hk9 ⟨World.block_lt_of_cell? w15 ⟨w.heap.size, 0, none⟩ (PC15.out.cell 0 rfl), fun hx => by have i3 := I3.out.1; have j3 := J3.out; have i4 := I4.out.1; have i5 := I5.out.1; have i6 := I6.out.1; have z := I6.out.2.2 _ hx; omega⟩
        have PA16 : Hid (Bx w16 (w.heap.size + 1) [.slice A.u h.us.length A.uc, .slice A.s h.ss.length A.sc, .slice A.f h.fs.length A.fc, .slice A.r h.es.length A.rc, .int .i64 h.nx]) := Rlw.bx_keepW PA15.out hk9 ⟨World.block_lt_of_cell? w15 ⟨w.heap.size + 1, 0, none⟩ (PA15.out.cell 0 rfl), fun hx => by have i3 := I3.out.1; have j3 := J3.out; have i4 := I4.out.1; have i5 := I5.out.1; have i6 := I6.out.1; have z := I6.out.2.2 _ hx; omega⟩
        have N316 : Hid (Bx w16 (nw3) [.slice Rw3.u G.us.length Rw3.uc, .slice Rw3.s G.ss.length Rw3.sc, .slice Rw3.f G.fs.length Rw3.fc, .slice Rw3.r G.es.length Rw3.rc, .int .i64 G.nx]) := Rlw.bx_keepW N315.out hk9 ⟨World.block_lt_of_cell? w15 ⟨nw3, 0, none⟩ (N315.out.cell 0 rfl), fun hx => by have i3 := I3.out.1; have j3 := J3.out; have i4 := I4.out.1; have i5 := I5.out.1; have i6 := I6.out.1; have z := I6.out.2.2 _ hx; omega⟩
        have O316 : Hid (OwnHu w16 w2.heap.size Rw3 G) := O315.out.keep (fun x hy => hk9.block x ⟨(O315.out.lt x hy).2, fun hx => by have i3 := I3.out.1; have j3 := J3.out; have i4 := I4.out.1; have i5 := I5.out.1; have i6 := I6.out.1; have z := I6.out.2.2 _ hx; have y := I3.out.2.1 x hy; omega⟩)
        have Y316 : Hid (OwnR w16 (w2.heap.size) iw3 IN jw3 IL) := Y315.out.keep (fun x hy => hk9.block x ⟨(Y315.out.lt x hy).2, fun hx => by have i3 := I3.out.1; have j3 := J3.out; have i4 := I4.out.1; have i5 := I5.out.1; have i6 := I6.out.1; have z := I6.out.2.2 _ hx; have y := I3.out.2.2 x hy; omega⟩)
        have M616 : Hid (Bx w16 (w6.heap.size) [.slice R6.u G.us.length R6.uc, .slice R6.s G.ss.length R6.sc, .slice R6.f G.fs.length R6.fc, .slice R6.r G.es.length R6.rc, .int .i64 G.nx]) := Rlw.bx_keepW M615.out hk9 ⟨World.block_lt_of_cell? w15 ⟨w6.heap.size, 0, none⟩ (M615.out.cell 0 rfl), fun hx => by have i3 := I3.out.1; have j3 := J3.out; have i4 := I4.out.1; have i5 := I5.out.1; have i6 := I6.out.1; have z := I6.out.2.2 _ hx; omega⟩
        have X16 : Hid (Below w.heap.size w w16) := X15.out.trans ⟨hk9.os, hk9.tape, hk9.output, hk9.size, fun x hy => hk9.block x ⟨Nat.lt_of_lt_of_le hy X15.out.size, fun hx => by have i3 := I3.out.1; have j3 := J3.out; have i4 := I4.out.1; have i5 := I5.out.1; have i6 := I6.out.1; have z := I6.out.2.2 _ hx; omega⟩⟩
        clear PC15 PA15 N315 O315 Y315 M615 Z615 X15
        have Z616 : Hid (OwnR w16 ((w5.alloc (.cells #[.slice A5.u h.us.length A5.uc, .slice A5.s h.ss.length A5.sc, .slice A5.f h.fs.length A5.fc, .slice A5.r h.es.length A5.rc, .int .i64 h.nx] 41)).heap.size) i9 IN j9 (mkIntL KM IN)) := mk9
        clear mk9 hk9
        obtain ⟨KI, hKI⟩ : ∃ K : Nat, KM + IN = K := ⟨_, rfl⟩
        have HKI : Hid (KM + IN = KI) := hKI
        rw [hKI]
        have kbI : 0 < KI ∧ KI ≤ 950000000 := by omega
        clear hKI
        have HJ : Hid (∀ w, OwnR w ((w5.alloc (.cells #[.slice A5.u h.us.length A5.uc, .slice A5.s h.ss.length A5.sc, .slice A5.f h.fs.length A5.fc, .slice A5.r h.es.length A5.rc, .int .i64 h.nx] 41)).heap.size) i9 IN j9 (mkIntL KM IN) → Calls Tryz.prog 21 #[.slice i9 IN j9, .int .i64 ((KM : Nat) : Int)] w fun e w' => e = .returned (.int .i64 ((KI : Nat) : Int)) ∧ Below w.heap.size w w') := fun w h => by
          have := ir_held i9 IN j9 _ KM w h (by omega) (by omega)
          rw [HKI.out] at this
          exact this
        have HH : Hid (∀ w, MkdHu w ((w5.alloc (.cells #[.slice A5.u h.us.length A5.uc, .slice A5.s h.ss.length A5.sc, .slice A5.f h.fs.length A5.fc, .slice A5.r h.es.length A5.rc, .int .i64 h.nx] 41)).heap.size) R6 G 1 → Calls Tryz.prog 16 #[.agg #[.slice R6.u G.us.length R6.uc, .slice R6.s G.ss.length R6.sc, .slice R6.f G.fs.length R6.fc, .slice R6.r G.es.length R6.rc, .int .i64 G.nx], .int .i64 1] w fun e w' => e = .returned (.int .i64 ((KM : Nat) : Int)) ∧ Below w.heap.size w w') := fun w h => by
          have := hu_held R6 G _ 1 w h LG.out (by omega) (by omega)
          rw [HKM.out] at this
          exact this
        have hqn : decide (((KM : Nat) : Int) < 0) = false := decide_eq_false (by omega)
        have hqn2 : decide (((KI : Nat) : Int) < 0) = false := decide_eq_false (by omega)
        have hqq : (((KI : Nat) : Int) != ((KI : Nat) : Int)) = false := by simp
        go_wp2_with (first | (refine wpl_getT 27 rfl _ rfl (w.heap.size) rfl (PC16.out) _ Tryz.underlying27 rfl rfl ?_) | (refine wpl_getT 33 rfl _ rfl (w.heap.size + 1) rfl (PA16.out) _ Tryz.underlying33 rfl rfl ?_) | (refine wpl_getT 41 rfl _ rfl (nw3) rfl (N316.out) _ Tryz.underlying41 rfl rfl ?_) | (refine wpl_getT 41 rfl _ rfl (w6.heap.size) rfl (M616.out) _ Tryz.underlying41 rfl rfl ?_) | fail)
        refine (HH.out _ Q616.out).mono ?_
        rintro e w17 ⟨rfl, bx⟩
        have PC17 : Hid (Bx w17 (w.heap.size) [.int .i64 c.ip, .int .i64 c.b, .int .i64 c.gt, .string c.gm, .string c.wm, .int .i64 c.rs, .slice C.x c.ps.length C.xc, .slice C.y c.ros.length C.yc]) := PC16.out.below bx
        have PA17 : Hid (Bx w17 (w.heap.size + 1) [.slice A.u h.us.length A.uc, .slice A.s h.ss.length A.sc, .slice A.f h.fs.length A.fc, .slice A.r h.es.length A.rc, .int .i64 h.nx]) := PA16.out.below bx
        have N317 : Hid (Bx w17 (nw3) [.slice Rw3.u G.us.length Rw3.uc, .slice Rw3.s G.ss.length Rw3.sc, .slice Rw3.f G.fs.length Rw3.fc, .slice Rw3.r G.es.length Rw3.rc, .int .i64 G.nx]) := N316.out.below bx
        have O317 : Hid (OwnHu w17 w2.heap.size Rw3 G) := O316.out.now bx
        have Y317 : Hid (OwnR w17 (w2.heap.size) iw3 IN jw3 IL) := Y316.out.now bx
        have M617 : Hid (Bx w17 (w6.heap.size) [.slice R6.u G.us.length R6.uc, .slice R6.s G.ss.length R6.sc, .slice R6.f G.fs.length R6.fc, .slice R6.r G.es.length R6.rc, .int .i64 G.nx]) := M616.out.below bx
        have Q617 : Hid (MkdHu w17 ((w5.alloc (.cells #[.slice A5.u h.us.length A5.uc, .slice A5.s h.ss.length A5.sc, .slice A5.f h.fs.length A5.fc, .slice A5.r h.es.length A5.rc, .int .i64 h.nx] 41)).heap.size) R6 G 1) := Q616.out.now bx
        have Z617 : Hid (OwnR w17 ((w5.alloc (.cells #[.slice A5.u h.us.length A5.uc, .slice A5.s h.ss.length A5.sc, .slice A5.f h.fs.length A5.fc, .slice A5.r h.es.length A5.rc, .int .i64 h.nx] 41)).heap.size) i9 IN j9 (mkIntL KM IN)) := Z616.out.now bx
        have X17 : Hid (Below w.heap.size w w17) := X16.out.trans ((bx).mono X16.out.size)
        clear PC16 PA16 N316 O316 Y316 M616 Q616 Z616 X16
        clear bx
        go_wp2_with fail
        refine (HJ.out _ Z617.out).mono ?_
        rintro e w18 ⟨rfl, bx⟩
        have PC18 : Hid (Bx w18 (w.heap.size) [.int .i64 c.ip, .int .i64 c.b, .int .i64 c.gt, .string c.gm, .string c.wm, .int .i64 c.rs, .slice C.x c.ps.length C.xc, .slice C.y c.ros.length C.yc]) := PC17.out.below bx
        have PA18 : Hid (Bx w18 (w.heap.size + 1) [.slice A.u h.us.length A.uc, .slice A.s h.ss.length A.sc, .slice A.f h.fs.length A.fc, .slice A.r h.es.length A.rc, .int .i64 h.nx]) := PA17.out.below bx
        have N318 : Hid (Bx w18 (nw3) [.slice Rw3.u G.us.length Rw3.uc, .slice Rw3.s G.ss.length Rw3.sc, .slice Rw3.f G.fs.length Rw3.fc, .slice Rw3.r G.es.length Rw3.rc, .int .i64 G.nx]) := N317.out.below bx
        have O318 : Hid (OwnHu w18 w2.heap.size Rw3 G) := O317.out.now bx
        have Y318 : Hid (OwnR w18 (w2.heap.size) iw3 IN jw3 IL) := Y317.out.now bx
        have M618 : Hid (Bx w18 (w6.heap.size) [.slice R6.u G.us.length R6.uc, .slice R6.s G.ss.length R6.sc, .slice R6.f G.fs.length R6.fc, .slice R6.r G.es.length R6.rc, .int .i64 G.nx]) := M617.out.below bx
        have Q618 : Hid (MkdHu w18 ((w5.alloc (.cells #[.slice A5.u h.us.length A5.uc, .slice A5.s h.ss.length A5.sc, .slice A5.f h.fs.length A5.fc, .slice A5.r h.es.length A5.rc, .int .i64 h.nx] 41)).heap.size) R6 G 1) := Q617.out.now bx
        have Z618 : Hid (OwnR w18 ((w5.alloc (.cells #[.slice A5.u h.us.length A5.uc, .slice A5.s h.ss.length A5.sc, .slice A5.f h.fs.length A5.fc, .slice A5.r h.es.length A5.rc, .int .i64 h.nx] 41)).heap.size) i9 IN j9 (mkIntL KM IN)) := Z617.out.now bx
        have X18 : Hid (Below w.heap.size w w18) := X17.out.trans ((bx).mono X17.out.size)
        clear PC17 PA17 N317 O317 Y317 M617 Q617 Z617 X17
        clear bx
        go_wp2_with fail
        refine Rlw.wp_region_rel (w := w18) [Rlw.valR 0 [] (.agg #[.int .i64 c.ip, .int .i64 c.b, .int .i64 c.gt, .string c.gm, .string c.wm, .int .i64 c.rs, .slice C.x c.ps.length C.xc, .slice C.y c.ros.length C.yc]), Rlw.kndR 1 [0] (kCf c) w18.heap.size, Rlw.valR 2 [] (.agg #[.slice A.u h.us.length A.uc, .slice A.s h.ss.length A.sc, .slice A.f h.fs.length A.fc, .slice A.r h.es.length A.rc, .int .i64 h.nx]), Rlw.kndR 3 [2] (kHu h) w18.heap.size, Rlw.valR 4 [] (.int .i64 now), Rlw.kndR 5 [1, 3, 4] (Knd.three (kHu G) (Knd.row iG 1 3 IL) (Knd.val (.int .i64 k))) w18.heap.size, Rlw.twoR 6 5 [5] (fun x y => x = y ∧ ∃ (R : HuA) (v : Value), x = .tuple #[.agg (huC R G).toArray, v, .int .i64 k]), Rlw.twoR 7 6 [6] (fun x y => ∃ (R : HuA) (v : Value), x = .agg (huC R G).toArray ∧ y = .tuple #[x, v, .int .i64 k]), Rlw.twoR 8 6 [6] (fun x y => ∃ a : Value, y = .tuple #[a, x, .int .i64 k]), Rlw.valR 9 [6] (.int .i64 k), Rlw.boxR 10 [] [.slice none 0 0, .slice none 0 0, .slice none 0 0, .slice none 0 0, .int .i64 0], Rlw.putV 10 7 [7], Rlw.eqR 12 8 [8], Rlw.valR 13 [9] (.int .i64 k)] [] [0, 1, 2, 3, 4, 5, 6, 7, 8, 9, 11, 12, 13] (fun b => b < w18.heap.size) (by kernel_rfl) (by kernel_rfl) (by kernel_rfl) ?_ (fun b h => h) (fun k r hk => by cases hk) (fun j k rj rk hj => by cases hj) ?_ ?_
        · exact List.forall_mem_cons.2 ⟨Rlw.valR_ok _ _ _, List.forall_mem_cons.2 ⟨Rlw.kndR_ok _ _ _ _, List.forall_mem_cons.2 ⟨Rlw.valR_ok _ _ _, List.forall_mem_cons.2 ⟨Rlw.kndR_ok _ _ _ _, List.forall_mem_cons.2 ⟨Rlw.valR_ok _ _ _, List.forall_mem_cons.2 ⟨Rlw.kndR_ok _ _ _ _, List.forall_mem_cons.2 ⟨Rlw.twoR_ok _ _ _ _, List.forall_mem_cons.2 ⟨Rlw.twoR_ok _ _ _ _, List.forall_mem_cons.2 ⟨Rlw.twoR_ok _ _ _ _, List.forall_mem_cons.2 ⟨Rlw.valR_ok _ _ _, List.forall_mem_cons.2 ⟨Rlw.boxR_ok _ _ _, List.forall_mem_cons.2 ⟨Rlw.putV_ok _ _ _, List.forall_mem_cons.2 ⟨Rlw.eqR_ok _ _ _, List.forall_mem_cons.2 ⟨Rlw.valR_ok _ _ _, List.forall_mem_nil _⟩⟩⟩⟩⟩⟩⟩⟩⟩⟩⟩⟩⟩⟩
        · refine (Rlw.walk_cons ?s0 (Rlw.walk_cons ?s1 (Rlw.walk_cons ?s2 (Rlw.walk_cons ?s3 (Rlw.walk_cons ?s4 (Rlw.walk_cons ?s5 (Rlw.walk_cons ?s6 (Rlw.walk_cons ?s7 (Rlw.walk_cons ?s8 (Rlw.walk_cons ?s9 (Rlw.walk_cons ?s10 (Rlw.walk_cons ?s11 (Rlw.walk_cons ?s12 (Rlw.walk_cons ?s13 Rlw.walk_nil))))))))))))))
          case s0 =>
            refine Rlw.step_want ?_ ?_
            · rfl
            intro σ wx hK hF post hp
            have hq := PC18.out.below (Rlw.keep_below hK)
            refine Rlw.yld_get 27 _ rfl (q := w.heap.size) (by go_simp) hq _ Tryz.underlying27 rfl rfl ?_
            exact hp _ _ Rlw.left_val
          case s1 =>
            refine Rlw.step_want ?_ ?_
            · rfl
            intro σ wx hK hF post hp
            have f0 : σ 0 = .agg #[.int .i64 c.ip, .int .i64 c.b, .int .i64 c.gt, .string c.gm, .string c.wm, .int .i64 c.rs, .slice C.x c.ps.length C.xc, .slice C.y c.ros.length C.yc] := Rlw.fact_of hF (j := 0) rfl rfl
            have hb := Rlw.keep_below hK
            go_simp
            refine Rlw.yld_call ?_
            refine (HTC.out _ (RC.out.below (X18.out.trans (hb.mono X18.out.size)))).mono ?_
            rintro e w9 ⟨A9, L9, rfl, ho, b9⟩
            exact ⟨_, rfl, hp _ _ (Rlw.left_knd ⟨A9, L9, rfl, ho⟩ hK.size b9)⟩
          case s2 =>
            refine Rlw.step_want ?_ ?_
            · rfl
            intro σ wx hK hF post hp
            have hq := PA18.out.below (Rlw.keep_below hK)
            refine Rlw.yld_get 33 _ rfl (q := w.heap.size + 1) (by go_simp) hq _ Tryz.underlying33 rfl rfl ?_
            exact hp _ _ Rlw.left_val
          case s3 =>
            refine Rlw.step_want ?_ ?_
            · rfl
            intro σ wx hK hF post hp
            have f2 : σ 2 = .agg #[.slice A.u h.us.length A.uc, .slice A.s h.ss.length A.sc, .slice A.f h.fs.length A.fc, .slice A.r h.es.length A.rc, .int .i64 h.nx] := Rlw.fact_of hF (j := 2) rfl rfl
            have hb := Rlw.keep_below hK
            go_simp
            refine Rlw.yld_call ?_
            refine (HTA.out _ (RA.out.below (X18.out.trans (hb.mono X18.out.size)))).mono ?_
            rintro e w9 ⟨A9, rfl, ho, b9⟩
            exact ⟨_, rfl, hp _ _ (Rlw.left_knd ⟨A9, rfl, ho⟩ hK.size b9)⟩
          case s4 =>
            refine Rlw.step_want ?_ ?_
            · rfl
            intro σ wx hK hF post hp
            go_simp
            refine Rlw.yld_val ?_
            exact hp _ _ Rlw.left_val
          case s5 =>
            refine Rlw.step_want ?_ ?_
            · rfl
            intro σ wx hK hF post hp
            have f1 : (kCf c).own wx w18.heap.size (σ 1) := Rlw.fact_of hF (j := 1) rfl rfl
            have f3 : (kHu h).own wx w18.heap.size (σ 3) := Rlw.fact_of hF (j := 3) rfl rfl
            have f4 : σ 4 = .int .i64 now := Rlw.fact_of hF (j := 4) rfl rfl
            obtain ⟨A0, L0, e0, o0⟩ := f1
            have d0 : σ 1 = .agg #[.int .i64 c.ip, .int .i64 c.b, .int .i64 c.gt, .string c.gm, .string c.wm, .int .i64 c.rs, .slice A0.x c.ps.length A0.xc, .slice A0.y c.ros.length A0.yc] := e0
            clear e0
            obtain ⟨A1, e1, o1⟩ := f3
            have d1 : σ 3 = .agg #[.slice A1.u h.us.length A1.uc, .slice A1.s h.ss.length A1.sc, .slice A1.f h.fs.length A1.fc, .slice A1.r h.es.length A1.rc, .int .i64 h.nx] := e1
            clear e1
            go_simp
            refine Rlw.yld_call ?_
            refine (HI.out A0 L0 A1 _ _ _ o0 o1).mono ?_
            rintro e w9 ⟨R9, ia9, ic9, rfl, ho, hi, b9⟩
            exact ⟨_, rfl, hp _ _ (Rlw.left_knd ⟨_, _, _, rfl, ⟨R9, rfl, ho⟩, hi, rfl⟩ hK.size b9)⟩
          case s6 =>
            refine Rlw.step_want ?_ ?_
            · rfl
            intro σ wx hK hF post hp
            have f5 : (Knd.three (kHu G) (Knd.row iG 1 3 IL) (Knd.val (.int .i64 k))).own wx w18.heap.size (σ 5) := Rlw.fact_of hF (j := 5) rfl rfl
            obtain ⟨y1, y2, y3, hy, ⟨R9, rfl, -⟩, -, rfl⟩ := f5
            go_simp
            refine Rlw.yld_val ?_
            refine hp _ _ (Rlw.left_below ?_ (fun b h => h.elim) (Below.refl _ _))
            exact ⟨by simp [Rlw.upd, hy], R9, y2, by simp [Rlw.upd]⟩
          case s7 =>
            refine Rlw.step_want ?_ ?_
            · rfl
            intro σ wx hK hF post hp
            have f6 : σ 6 = σ 5 ∧ ∃ (R : HuA) (v : Value), σ 6 = .tuple #[.agg (huC R G).toArray, v, .int .i64 k] := Rlw.fact_of hF (j := 6) rfl rfl
            obtain ⟨-, R9, v9, h9⟩ := f6
            go_simp
            refine Rlw.yld_val ?_
            refine hp _ _ (Rlw.left_below ?_ (fun b h => h.elim) (Below.refl _ _))
            exact ⟨R9, v9, by simp [Rlw.upd], by simp [Rlw.upd, h9]⟩
          case s8 =>
            refine Rlw.step_want ?_ ?_
            · rfl
            intro σ wx hK hF post hp
            have f6 : σ 6 = σ 5 ∧ ∃ (R : HuA) (v : Value), σ 6 = .tuple #[.agg (huC R G).toArray, v, .int .i64 k] := Rlw.fact_of hF (j := 6) rfl rfl
            obtain ⟨-, R9, v9, h9⟩ := f6
            go_simp
            refine Rlw.yld_val ?_
            refine hp _ _ (Rlw.left_below ?_ (fun b h => h.elim) (Below.refl _ _))
            exact ⟨_, by simp [Rlw.upd, h9]; rfl⟩
          case s9 =>
            refine Rlw.step_want ?_ ?_
            · rfl
            intro σ wx hK hF post hp
            have f6 : σ 6 = σ 5 ∧ ∃ (R : HuA) (v : Value), σ 6 = .tuple #[.agg (huC R G).toArray, v, .int .i64 k] := Rlw.fact_of hF (j := 6) rfl rfl
            obtain ⟨-, R9, v9, h9⟩ := f6
            go_simp
            refine Rlw.yld_val ?_
            exact hp _ _ Rlw.left_val
          case s10 =>
            refine Rlw.step_want ?_ ?_
            · rfl
            intro σ wx hK hF post hp
            go_simp
            refine Rlw.yld_val ?_
            exact hp _ _ (Rlw.left_box #[.slice none 0 0, .slice none 0 0, .slice none 0 0, .slice none 0 0, .int .i64 0] _)
          case s11 =>
            refine Rlw.step_want ?_ ?_
            · rfl
            intro σ wx hK hF post hp
            have f10 : Rlw.boxF [.slice none 0 0, .slice none 0 0, .slice none 0 0, .slice none 0 0, .int .i64 0] (σ 10) wx := Rlw.fact_of hF (j := 10) rfl rfl
            have f7 : ∃ (R : HuA) (v : Value), σ 7 = .agg (huC R G).toArray ∧ σ 6 = .tuple #[σ 7, v, .int .i64 k] := Rlw.fact_of hF (j := 7) rfl rfl
            obtain ⟨q9, hq9, hb9⟩ := f10
            obtain ⟨R9, v9, h9, -⟩ := f7
            refine Rlw.yld_put 41 _ _ rfl (q := q9) (cells := (huC R9 G).toArray) (by go_simp; try exact hq9) (by go_simp; try exact h9) hb9 rfl (by rfl) rfl ?_
            exact hp _ _ (Rlw.left_putV (t := 7) rfl (by decide) (by decide) hq9 h9 hb9 rfl)
          case s12 =>
            refine Rlw.step_want ?_ ?_
            · rfl
            intro σ wx hK hF post hp
            go_simp
            refine Rlw.yld_val ?_
            refine hp _ _ (Rlw.left_below ?_ (fun b h => h.elim) (Below.refl _ _))
            show Rlw.upd σ 12 _ 12 = Rlw.upd σ 12 _ 8
            simp [Rlw.upd]
          case s13 =>
            refine Rlw.step_want ?_ ?_
            · rfl
            intro σ wx hK hF post hp
            have f9 : σ 9 = .int .i64 k := Rlw.fact_of hF (j := 9) rfl rfl
            go_simp
            refine Rlw.yld_val ?_
            exact hp _ _ Rlw.left_val
        · intro σ w19 hK hF hA
          have Bw19 : Below w18.heap.size w18 w19 := Rlw.keep_below hK
          have f5 : (Knd.three (kHu G) (Knd.row iG 1 3 IL) (Knd.val (.int .i64 k))).own w19 w18.heap.size (σ 5) := Rlw.fact_of hF (j := 5) rfl rfl
          have f6 : σ 6 = σ 5 ∧ ∃ (R : HuA) (v : Value), σ 6 = .tuple #[.agg (huC R G).toArray, v, .int .i64 k] := Rlw.fact_of hF (j := 6) rfl rfl
          have f7 : ∃ (R : HuA) (v : Value), σ 7 = .agg (huC R G).toArray ∧ σ 6 = .tuple #[σ 7, v, .int .i64 k] := Rlw.fact_of hF (j := 7) rfl rfl
          have f8 : ∃ a : Value, σ 6 = .tuple #[a, σ 8, .int .i64 k] := Rlw.fact_of hF (j := 8) rfl rfl
          have f11 : ∃ cs : List Value, σ 7 = .agg cs.toArray ∧ Rlw.boxF cs (σ 10) w19 := Rlw.fact_of hF (j := 11) rfl rfl
          have f12 : σ 12 = σ 8 := Rlw.fact_of hF (j := 12) rfl rfl
          have f13 : σ 13 = .int .i64 k := Rlw.fact_of hF (j := 13) rfl rfl
          obtain ⟨Rw19, iw19, jw19, nw19, hn9, he9, Ow19, Yw19, Nw19, hbk⟩ := leafH3 hIL9.out f5 f6 f7 f8 f11
          rw [he9] at f12
          have hlo := (Rlw.owns_of hF (j := 11) rfl rfl nw19 hn9).2
          have hlt := (Rlw.owns_of hF (j := 11) rfl rfl nw19 hn9).1
          have hap : ¬ huB Rw19 G nw19 := fun hx => hA 5 11 _ _ (by decide) (by decide) (by decide) rfl rfl nw19 (hbk _ (.inl hx)) hn9
          have hai : ¬ rwB iw19 IN jw19 nw19 := fun hx => hA 5 11 _ _ (by decide) (by decide) (by decide) rfl rfl nw19 (hbk _ (.inr hx)) hn9
          replace Nw19 : Bx w19 nw19 [.slice Rw19.u G.us.length Rw19.uc, .slice Rw19.s G.ss.length Rw19.sc, .slice Rw19.f G.fs.length Rw19.fc, .slice Rw19.r G.es.length Rw19.rc, .int .i64 G.nx] := Nw19
          simp only [Rlw.putAll, Nat.zero_add, Nat.reduceAdd, hn9, f12, f13]
          clear f5 f6 f7 f8 f11 f12 f13 hF hA hK hbk hn9 he9
          go_simp
          have bx := Bw19
          clear hlo hlt hap hai
          have PC19 : Hid (Bx w19 (w.heap.size) [.int .i64 c.ip, .int .i64 c.b, .int .i64 c.gt, .string c.gm, .string c.wm, .int .i64 c.rs, .slice C.x c.ps.length C.xc, .slice C.y c.ros.length C.yc]) := PC18.out.below bx
          have PA19 : Hid (Bx w19 (w.heap.size + 1) [.slice A.u h.us.length A.uc, .slice A.s h.ss.length A.sc, .slice A.f h.fs.length A.fc, .slice A.r h.es.length A.rc, .int .i64 h.nx]) := PA18.out.below bx
          have N319 : Hid (Bx w19 (nw3) [.slice Rw3.u G.us.length Rw3.uc, .slice Rw3.s G.ss.length Rw3.sc, .slice Rw3.f G.fs.length Rw3.fc, .slice Rw3.r G.es.length Rw3.rc, .int .i64 G.nx]) := N318.out.below bx
          have O319 : Hid (OwnHu w19 w2.heap.size Rw3 G) := O318.out.now bx
          have Y319 : Hid (OwnR w19 (w2.heap.size) iw3 IN jw3 IL) := Y318.out.now bx
          have M619 : Hid (Bx w19 (w6.heap.size) [.slice R6.u G.us.length R6.uc, .slice R6.s G.ss.length R6.sc, .slice R6.f G.fs.length R6.fc, .slice R6.r G.es.length R6.rc, .int .i64 G.nx]) := M618.out.below bx
          have Q619 : Hid (MkdHu w19 ((w5.alloc (.cells #[.slice A5.u h.us.length A5.uc, .slice A5.s h.ss.length A5.sc, .slice A5.f h.fs.length A5.fc, .slice A5.r h.es.length A5.rc, .int .i64 h.nx] 41)).heap.size) R6 G 1) := Q618.out.now bx
          have Z619 : Hid (OwnR w19 ((w5.alloc (.cells #[.slice A5.u h.us.length A5.uc, .slice A5.s h.ss.length A5.sc, .slice A5.f h.fs.length A5.fc, .slice A5.r h.es.length A5.rc, .int .i64 h.nx] 41)).heap.size) i9 IN j9 (mkIntL KM IN)) := Z618.out.now bx
          have X19 : Hid (Below w.heap.size w w19) := X18.out.trans ((bx).mono X18.out.size)
          clear PC18 PA18 N318 O318 Y318 M618 Q618 Z618 X18
          clear bx Bw19
          have NH19 : Hid (Bx w19 nw19 [.slice Rw19.u G.us.length Rw19.uc, .slice Rw19.s G.ss.length Rw19.sc, .slice Rw19.f G.fs.length Rw19.fc, .slice Rw19.r G.es.length Rw19.rc, .int .i64 G.nx]) := Nw19
          go_wp2_with (first | (refine wpl_getT 27 rfl _ rfl (w.heap.size) rfl (PC19.out) _ Tryz.underlying27 rfl rfl ?_) | (refine wpl_getT 33 rfl _ rfl (w.heap.size + 1) rfl (PA19.out) _ Tryz.underlying33 rfl rfl ?_) | (refine wpl_getT 41 rfl _ rfl (nw3) rfl (N319.out) _ Tryz.underlying41 rfl rfl ?_) | (refine wpl_getT 41 rfl _ rfl (w6.heap.size) rfl (M619.out) _ Tryz.underlying41 rfl rfl ?_) | (refine wpl_getT 41 rfl _ rfl (nw19) rfl (NH19.out) _ Tryz.underlying41 rfl rfl ?_) | fail)
          refine (HE.out Rw19 Rw3 _ (Ow19.rw OKG.out) (O319.out.rw OKG.out)).mono ?_
          rintro e w20 ⟨rfl, bx⟩
          clear Ow19 Nw19
          have YH20 : Hid (OwnR w20 (w18.heap.size) iw19 IN jw19 IL) := Yw19.now bx
          clear Yw19
          have PC20 : Hid (Bx w20 (w.heap.size) [.int .i64 c.ip, .int .i64 c.b, .int .i64 c.gt, .string c.gm, .string c.wm, .int .i64 c.rs, .slice C.x c.ps.length C.xc, .slice C.y c.ros.length C.yc]) := PC19.out.below bx
          have PA20 : Hid (Bx w20 (w.heap.size + 1) [.slice A.u h.us.length A.uc, .slice A.s h.ss.length A.sc, .slice A.f h.fs.length A.fc, .slice A.r h.es.length A.rc, .int .i64 h.nx]) := PA19.out.below bx
          have N320 : Hid (Bx w20 (nw3) [.slice Rw3.u G.us.length Rw3.uc, .slice Rw3.s G.ss.length Rw3.sc, .slice Rw3.f G.fs.length Rw3.fc, .slice Rw3.r G.es.length Rw3.rc, .int .i64 G.nx]) := N319.out.below bx
          have O320 : Hid (OwnHu w20 w2.heap.size Rw3 G) := O319.out.now bx
          have Y320 : Hid (OwnR w20 (w2.heap.size) iw3 IN jw3 IL) := Y319.out.now bx
          have M620 : Hid (Bx w20 (w6.heap.size) [.slice R6.u G.us.length R6.uc, .slice R6.s G.ss.length R6.sc, .slice R6.f G.fs.length R6.fc, .slice R6.r G.es.length R6.rc, .int .i64 G.nx]) := M619.out.below bx
          have Q620 : Hid (MkdHu w20 ((w5.alloc (.cells #[.slice A5.u h.us.length A5.uc, .slice A5.s h.ss.length A5.sc, .slice A5.f h.fs.length A5.fc, .slice A5.r h.es.length A5.rc, .int .i64 h.nx] 41)).heap.size) R6 G 1) := Q619.out.now bx
          have Z620 : Hid (OwnR w20 ((w5.alloc (.cells #[.slice A5.u h.us.length A5.uc, .slice A5.s h.ss.length A5.sc, .slice A5.f h.fs.length A5.fc, .slice A5.r h.es.length A5.rc, .int .i64 h.nx] 41)).heap.size) i9 IN j9 (mkIntL KM IN)) := Z619.out.now bx
          have NH20 : Hid (Bx w20 (nw19) [.slice Rw19.u G.us.length Rw19.uc, .slice Rw19.s G.ss.length Rw19.sc, .slice Rw19.f G.fs.length Rw19.fc, .slice Rw19.r G.es.length Rw19.rc, .int .i64 G.nx]) := NH19.out.below bx
          have X20 : Hid (Below w.heap.size w w20) := X19.out.trans ((bx).mono X19.out.size)
          clear PC19 PA19 N319 O319 Y319 M619 Q619 Z619 NH19 X19
          clear bx
          go_wp2_with fail
          refine (HEI.out iw19 jw19 iw3 jw3 _ _ _ YH20.out Y320.out).mono ?_
          rintro e w21 ⟨rfl, bx⟩
          have PC21 : Hid (Bx w21 (w.heap.size) [.int .i64 c.ip, .int .i64 c.b, .int .i64 c.gt, .string c.gm, .string c.wm, .int .i64 c.rs, .slice C.x c.ps.length C.xc, .slice C.y c.ros.length C.yc]) := PC20.out.below bx
          have PA21 : Hid (Bx w21 (w.heap.size + 1) [.slice A.u h.us.length A.uc, .slice A.s h.ss.length A.sc, .slice A.f h.fs.length A.fc, .slice A.r h.es.length A.rc, .int .i64 h.nx]) := PA20.out.below bx
          have N321 : Hid (Bx w21 (nw3) [.slice Rw3.u G.us.length Rw3.uc, .slice Rw3.s G.ss.length Rw3.sc, .slice Rw3.f G.fs.length Rw3.fc, .slice Rw3.r G.es.length Rw3.rc, .int .i64 G.nx]) := N320.out.below bx
          have O321 : Hid (OwnHu w21 w2.heap.size Rw3 G) := O320.out.now bx
          have Y321 : Hid (OwnR w21 (w2.heap.size) iw3 IN jw3 IL) := Y320.out.now bx
          have M621 : Hid (Bx w21 (w6.heap.size) [.slice R6.u G.us.length R6.uc, .slice R6.s G.ss.length R6.sc, .slice R6.f G.fs.length R6.fc, .slice R6.r G.es.length R6.rc, .int .i64 G.nx]) := M620.out.below bx
          have Q621 : Hid (MkdHu w21 ((w5.alloc (.cells #[.slice A5.u h.us.length A5.uc, .slice A5.s h.ss.length A5.sc, .slice A5.f h.fs.length A5.fc, .slice A5.r h.es.length A5.rc, .int .i64 h.nx] 41)).heap.size) R6 G 1) := Q620.out.now bx
          have Z621 : Hid (OwnR w21 ((w5.alloc (.cells #[.slice A5.u h.us.length A5.uc, .slice A5.s h.ss.length A5.sc, .slice A5.f h.fs.length A5.fc, .slice A5.r h.es.length A5.rc, .int .i64 h.nx] 41)).heap.size) i9 IN j9 (mkIntL KM IN)) := Z620.out.now bx
          have NH21 : Hid (Bx w21 (nw19) [.slice Rw19.u G.us.length Rw19.uc, .slice Rw19.s G.ss.length Rw19.sc, .slice Rw19.f G.fs.length Rw19.fc, .slice Rw19.r G.es.length Rw19.rc, .int .i64 G.nx]) := NH20.out.below bx
          have YH21 : Hid (OwnR w21 (w18.heap.size) iw19 IN jw19 IL) := YH20.out.now bx
          have X21 : Hid (Below w.heap.size w w21) := X20.out.trans ((bx).mono X20.out.size)
          clear PC20 PA20 N320 O320 Y320 M620 Q620 Z620 NH20 YH20 X20
          clear bx
          go_wp2_with (first | (refine wpl_getT 27 rfl _ rfl (w.heap.size) rfl (PC21.out) _ Tryz.underlying27 rfl rfl ?_) | (refine wpl_getT 33 rfl _ rfl (w.heap.size + 1) rfl (PA21.out) _ Tryz.underlying33 rfl rfl ?_) | (refine wpl_getT 41 rfl _ rfl (nw3) rfl (N321.out) _ Tryz.underlying41 rfl rfl ?_) | (refine wpl_getT 41 rfl _ rfl (w6.heap.size) rfl (M621.out) _ Tryz.underlying41 rfl rfl ?_) | (refine wpl_getT 41 rfl _ rfl (nw19) rfl (NH21.out) _ Tryz.underlying41 rfl rfl ?_) | fail)
          refine (HH.out _ Q621.out).mono ?_
          rintro e w22 ⟨rfl, bx⟩
          have PC22 : Hid (Bx w22 (w.heap.size) [.int .i64 c.ip, .int .i64 c.b, .int .i64 c.gt, .string c.gm, .string c.wm, .int .i64 c.rs, .slice C.x c.ps.length C.xc, .slice C.y c.ros.length C.yc]) := PC21.out.below bx
          have PA22 : Hid (Bx w22 (w.heap.size + 1) [.slice A.u h.us.length A.uc, .slice A.s h.ss.length A.sc, .slice A.f h.fs.length A.fc, .slice A.r h.es.length A.rc, .int .i64 h.nx]) := PA21.out.below bx
          have N322 : Hid (Bx w22 (nw3) [.slice Rw3.u G.us.length Rw3.uc, .slice Rw3.s G.ss.length Rw3.sc, .slice Rw3.f G.fs.length Rw3.fc, .slice Rw3.r G.es.length Rw3.rc, .int .i64 G.nx]) := N321.out.below bx
          have O322 : Hid (OwnHu w22 w2.heap.size Rw3 G) := O321.out.now bx
          have Y322 : Hid (OwnR w22 (w2.heap.size) iw3 IN jw3 IL) := Y321.out.now bx
          have M622 : Hid (Bx w22 (w6.heap.size) [.slice R6.u G.us.length R6.uc, .slice R6.s G.ss.length R6.sc, .slice R6.f G.fs.length R6.fc, .slice R6.r G.es.length R6.rc, .int .i64 G.nx]) := M621.out.below bx
          have Q622 : Hid (MkdHu w22 ((w5.alloc (.cells #[.slice A5.u h.us.length A5.uc, .slice A5.s h.ss.length A5.sc, .slice A5.f h.fs.length A5.fc, .slice A5.r h.es.length A5.rc, .int .i64 h.nx] 41)).heap.size) R6 G 1) := Q621.out.now bx
          have Z622 : Hid (OwnR w22 ((w5.alloc (.cells #[.slice A5.u h.us.length A5.uc, .slice A5.s h.ss.length A5.sc, .slice A5.f h.fs.length A5.fc, .slice A5.r h.es.length A5.rc, .int .i64 h.nx] 41)).heap.size) i9 IN j9 (mkIntL KM IN)) := Z621.out.now bx
          have NH22 : Hid (Bx w22 (nw19) [.slice Rw19.u G.us.length Rw19.uc, .slice Rw19.s G.ss.length Rw19.sc, .slice Rw19.f G.fs.length Rw19.fc, .slice Rw19.r G.es.length Rw19.rc, .int .i64 G.nx]) := NH21.out.below bx
          have YH22 : Hid (OwnR w22 (w18.heap.size) iw19 IN jw19 IL) := YH21.out.now bx
          have X22 : Hid (Below w.heap.size w w22) := X21.out.trans ((bx).mono X21.out.size)
          clear PC21 PA21 N321 O321 Y321 M621 Q621 Z621 NH21 YH21 X21
          clear bx
          go_wp2_with fail
          refine (HJ.out _ Z622.out).mono ?_
          rintro e w23 ⟨rfl, bx⟩
          have XZ := X22.out.trans (bx.mono X22.out.size)
          go_wp2
          go_ret
          exact ⟨rfl, XZ⟩
end Go.Proofs.YtmeejholckelgaaGreat
