/- Words, the program's side: compareWords, and what it answers for one word or two. -/
import Derived.Test.YtfcdobicilediaaWordW
namespace Go.Proofs.Ytfcdobicilediaa
open Go.RowKit Go.PlainAid Go.Proofs.Ytfcdobicilediaa.Bt Go.Proofs.Ytfcdobicilediaa.Fo Go.Sort
set_option linter.unusedVariables false
set_option maxRecDepth 20000

/-- How two words are ordered. -/
def cmpW (x y : Int × Int) : Int := ord3 (kW x) (kW y)

set_option maxHeartbeats 1000000 in
theorem compareWords_any (x y : Int × Int) (hx : okW x.1 x.2) (hy : okW y.1 y.2) (w : World) : Calls Try.prog 55 #[.agg #[.int .i64 x.1, .int .i64 x.2], .agg #[.int .i64 y.1, .int .i64 y.2]] w fun e w' => e = .returned (.int .i64 (cmpW x y)) ∧ Grw w w' := by
  have HC : Hid (cmpW x y = if ord3 (clx (rI (bW x.1 x.2)) (sg (bW x.1 x.2))) (clx (rI (bW y.1 y.2)) (sg (bW y.1 y.2))) = 0 then fcmp (rI (bW x.1 x.2)) (sg (bW x.1 x.2)) (rI (bW y.1 y.2)) (sg (bW y.1 y.2)) else ord3 (clx (rI (bW x.1 x.2)) (sg (bW x.1 x.2))) (clx (rI (bW y.1 y.2)) (sg (bW y.1 y.2)))) := by
    show cmpW x y = _
    rw [or_eq _ _ _ _ (rI_nn _) (rI_nn _) (rI_lt _) (rI_lt _), rI_bW hx, rI_bW hy, sg_bW hx, sg_bW hy]
    rfl
  have HV1 : Hid (∀ w, Calls Try.prog 59 #[.agg #[.int .i64 x.1, .int .i64 x.2]] w fun e w' => e = .returned (.float .f64 (bW x.1 x.2)) ∧ Grw w w') := fun w => valueOf_any _ _ hx w
  have HV2 : Hid (∀ w, Calls Try.prog 59 #[.agg #[.int .i64 y.1, .int .i64 y.2]] w fun e w' => e = .returned (.float .f64 (bW y.1 y.2)) ∧ Grw w w') := fun w => valueOf_any _ _ hy w
  have HK1 : Hid (∀ w, Calls Try.prog 58 #[.float .f64 (bW x.1 x.2)] w fun e w' => e = .returned (.int .i64 (clx (rI (bW x.1 x.2)) (sg (bW x.1 x.2)))) ∧ w' = w) := fun w => classOf_any _ (bW_lt hx) w
  have HK2 : Hid (∀ w, Calls Try.prog 58 #[.float .f64 (bW y.1 y.2)] w fun e w' => e = .returned (.int .i64 (clx (rI (bW y.1 y.2)) (sg (bW y.1 y.2)))) ∧ w' = w) := fun w => classOf_any _ (bW_lt hy) w
  have HF : Hid (∀ w, Calls Try.prog 83 #[.float .f64 (bW x.1 x.2), .float .f64 (bW y.1 y.2)] w fun e w' => e = .returned (.int .i64 (fcmp (rI (bW x.1 x.2)) (sg (bW x.1 x.2)) (rI (bW y.1 y.2)) (sg (bW y.1 y.2)))) ∧ w' = w) := fun w => compareF_any _ _ w
  have HI : Hid (∀ w, Calls Try.prog 82 #[.int .i64 (clx (rI (bW x.1 x.2)) (sg (bW x.1 x.2))), .int .i64 (clx (rI (bW y.1 y.2)) (sg (bW y.1 y.2)))] w fun e w' => e = .returned (.int .i64 (ord3 (clx (rI (bW x.1 x.2)) (sg (bW x.1 x.2))) (clx (rI (bW y.1 y.2)) (sg (bW y.1 y.2))))) ∧ w' = w) := fun w => compareI_any _ _ w
  generalize cmpW x y = c at HC ⊢
  generalize fcmp (rI (bW x.1 x.2)) (sg (bW x.1 x.2)) (rI (bW y.1 y.2)) (sg (bW y.1 y.2)) = c2 at HC HF
  generalize clx (rI (bW x.1 x.2)) (sg (bW x.1 x.2)) = q1 at HC HK1 HI
  generalize clx (rI (bW y.1 y.2)) (sg (bW y.1 y.2)) = q2 at HC HK2 HI
  generalize ord3 q1 q2 = c1 at HC HI
  generalize bW x.1 x.2 = b1 at HV1 HK1 HF
  generalize bW y.1 y.2 = b2 at HV2 HK2 HF
  generalize x.1 = x1 at *
  generalize x.2 = x2 at *
  generalize y.1 = y1 at *
  generalize y.2 = y2 at *
  have H3 : Hid (∀ w b, w.cell? ⟨b, 0, none⟩ = some (.int .i64 c1) → w.cell? ⟨b, 1, none⟩ = some (.int .i64 c2) → Calls Try.prog 81 #[.slice (some ⟨b, 0, none⟩) 2 2] w fun e w' => e = .returned (.int .i64 c) ∧ w' = w) := fun w b h0 h1 => HC.out ▸ orI_two c1 c2 b 2 w h0 h1
  clear HC hx hy
  go_enter Try.func55, Try.ntmps55
  have hmix : Try.prog.follows .mixedOrders = true := by kernel_rfl
  obtain ⟨W, hW⟩ : ∃ W, W = (w.alloc (.cells #[.int .i64 x1, .int .i64 x2] 48)).alloc (.cells #[.int .i64 y1, .int .i64 y2] 48) := ⟨_, rfl⟩
  have k0 : ∀ n os, (grow (W.drewN n) os).cell? ⟨w.heap.size, 0, none⟩ = some (.int .i64 x1) := cell_grown (by rw [hW]; simp; omega) (by rw [hW]; simp)
  have k1 : ∀ n os, (grow (W.drewN n) os).cell? ⟨w.heap.size, 1, none⟩ = some (.int .i64 x2) := cell_grown (by rw [hW]; simp; omega) (by rw [hW]; simp)
  have k2 : ∀ n os, (grow (W.drewN n) os).cell? ⟨w.heap.size + 1, 0, none⟩ = some (.int .i64 y1) := cell_grown (by rw [hW]; simp) (by rw [hW]; simp)
  have k3 : ∀ n os, (grow (W.drewN n) os).cell? ⟨w.heap.size + 1, 1, none⟩ = some (.int .i64 y2) := cell_grown (by rw [hW]; simp) (by rw [hW]; simp)
  have G : Hid (Grw w W) := by rw [hW]; exact ((Grw.refl _).alloc _).alloc _
  go_wp2_with fail
  rw [← hW]
  clear hW
  refine wp_region_quiet_grown (by assumption) (by kernel_rfl) ?_
  repeat (go_big_quiet_step (first | fail | (first | (go_at_call 59; with_reducible exact Calls.grown_of (HV1.out _)) | (go_at_call 59; with_reducible exact Calls.grown_of (HV2.out _)))))
  refine wpQuiet_nil ?_
  intro _ hw'
  obtain ⟨⟨nq, osq⟩, hw''⟩ := hw'
  subst hw''
  have G2 : Hid (Grw w (grow (W.drewN nq) osq)) := G.out.trans ⟨nq, osq, rfl⟩
  clear k0 k1 k2 k3 G
  generalize grow (W.drewN nq) osq = V at G2 ⊢
  go_wp2_with fail
  refine (HK1.out _).mono ?_
  rintro e w1 ⟨rfl, hw⟩
  subst hw
  go_wp2_with fail
  refine (HK2.out _).mono ?_
  rintro e w1 ⟨rfl, hw⟩
  subst hw
  go_wp2_with fail
  refine (HI.out _).mono ?_
  rintro e w1 ⟨rfl, hw⟩
  subst hw
  go_wp2_with fail
  refine (HF.out _).mono ?_
  rintro e w1 ⟨rfl, hw⟩
  subst hw
  go_wp2_with fail
  refine (H3.out _ _ (by simp) (by simp)).mono ?_
  rintro e w1 ⟨rfl, hw⟩
  subst hw
  go_wp2
  go_ret
  exact ⟨rfl, G2.out.alloc _⟩
end Go.Proofs.Ytfcdobicilediaa
