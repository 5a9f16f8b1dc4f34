/- The walks of the laws of OrderOf, NegOf: true at every word. -/
import Derived.Test.YtfcdobicilediabLawWord
namespace Go.Proofs.Ytfcdobicilediab
open Go.RowKit Go.PlainAid Go.Proofs.Ytfcdobicilediab.Bt Go.Proofs.Ytfcdobicilediab.Fo Go.Sort
set_option linter.unusedVariables false
set_option maxRecDepth 20000

theorem toWord_grw (f0 f1 : Int) (w : World) :
    Calls Try.prog 10 #[.agg #[.int .i64 f0, .int .i64 f1]] w fun e w' => e = .returned (.agg #[.int .i64 f0, .int .i64 f1]) ∧ Grw w w' := by
  go_enter Try.func10, Try.ntmps10
  go_wp2
  (try simp only [Exit.inBlock, Exit.then])
  refine bodyPost_ret (v := .agg #[.int .i64 f0, .int .i64 f1]) (by simp [results, Try.results10, go_sem]; try rfl) rfl ?_
  exact ⟨rfl, (((Grw.refl _).alloc _).alloc _).alloc _⟩

theorem lawOrderOf_any (x1 x2 y1 y2 : Int) (w : World) :
    Calls Try.prog 3 #[.agg #[.int .i64 x1, .int .i64 x2], .agg #[.int .i64 y1, .int .i64 y2]] w fun e w' => e = .returned (.bool true) ∧ Below w.heap.size w w' := by
  have HT1 : Hid (∀ w, Calls Try.prog 10 #[.agg #[.int .i64 x1, .int .i64 x2]] w fun e w' => e = .returned (.agg #[.int .i64 x1, .int .i64 x2]) ∧ Grw w w') := fun w => toWord_grw _ _ w
  have HT2 : Hid (∀ w, Calls Try.prog 10 #[.agg #[.int .i64 y1, .int .i64 y2]] w fun e w' => e = .returned (.agg #[.int .i64 y1, .int .i64 y2]) ∧ Grw w w') := fun w => toWord_grw _ _ w
  have HS : Hid (∀ w, Calls Try.prog 9 #[.agg #[.int .i64 x1, .int .i64 x2], .agg #[.int .i64 y1, .int .i64 y2]] w fun e w' => e = .returned (.tuple #[.int .i64 (orderC (x1, x2) (y1, y2)), .int .i64 (badC2 (x1, x2) (y1, y2))]) ∧ Grw w w') := fun w => sOrderOf_any (x1, x2) (y1, y2) w
  have HI : Hid (∀ w, Calls Try.prog 11 #[.agg #[.int .i64 x1, .int .i64 x2], .agg #[.int .i64 y1, .int .i64 y2]] w fun e w' => e = .returned (.tuple #[.int .i64 (orderC (x1, x2) (y1, y2)), .int .i64 (badC2 (x1, x2) (y1, y2))]) ∧ Grw w w') := fun w => iOrderOf_any (x1, x2) (y1, y2) w
  generalize orderC (x1, x2) (y1, y2) = q1 at *
  generalize badC2 (x1, x2) (y1, y2) = q2 at *
  have n1 : (q1 != q1) = false := by simp
  have n2 : (q2 != q2) = false := by simp
  have hmix : Try.prog.follows .mixedOrders = true := by kernel_rfl
  obtain ⟨W, hW⟩ : ∃ W, W = (w.alloc (.cells #[.int .i64 x1, .int .i64 x2] 23)).alloc (.cells #[.int .i64 y1, .int .i64 y2] 23) := ⟨_, rfl⟩
  have k0 : ∀ n os, (grow (W.drewN n) os).cell? ⟨w.heap.size, 0, none⟩ = some (.int .i64 x1) := cell_grown (by rw [hW]; simp; omega) (by rw [hW]; simp)
  have k1 : ∀ n os, (grow (W.drewN n) os).cell? ⟨w.heap.size, 1, none⟩ = some (.int .i64 x2) := cell_grown (by rw [hW]; simp; omega) (by rw [hW]; simp)
  have k2 : ∀ n os, (grow (W.drewN n) os).cell? ⟨w.heap.size + 1, 0, none⟩ = some (.int .i64 y1) := cell_grown (by rw [hW]; simp) (by rw [hW]; simp)
  have k3 : ∀ n os, (grow (W.drewN n) os).cell? ⟨w.heap.size + 1, 1, none⟩ = some (.int .i64 y2) := cell_grown (by rw [hW]; simp) (by rw [hW]; simp)
  have G : Hid (Grw w W) := by rw [hW]; exact ((Grw.refl _).alloc _).alloc _
  have HZ : Hid (w.heap.size + 1 < W.heap.size) := by rw [hW]; show _ < _; simp
  go_enter Try.func3, Try.ntmps3
  go_wp2_with fail
  rw [← hW]
  clear hW
  refine wp_region_quiet_grown (by assumption) (by kernel_rfl) ?_
  repeat (go_big_quiet_step (first | fail | (first | (go_at_call 10; with_reducible exact Calls.grown_of (HT1.out _)) | (go_at_call 10; with_reducible exact Calls.grown_of (HT2.out _)) | (go_at_call 9; with_reducible exact Calls.grown_of (HS.out _)))))
  refine wpQuiet_nil ?_
  intro _ hw'
  obtain ⟨⟨nq, osq⟩, hw''⟩ := hw'
  subst hw''
  have G2 : Hid (Grw w (grow (W.drewN nq) osq)) := G.out.trans ⟨nq, osq, rfl⟩
  have hz := (below_grow W nq osq).size
  have hz2 := HZ.out
  have k0 := k0 nq osq
  have k1 := k1 nq osq
  have k2 := k2 nq osq
  have k3 := k3 nq osq
  generalize grow (W.drewN nq) osq = V at G2 hz k0 k1 k2 k3 ⊢
  have k0 : ∀ n os, (grow (V.drewN n) os).cell? ⟨w.heap.size, 0, none⟩ = some (.int .i64 x1) := cell_grown (by show w.heap.size < _; omega) k0
  have k1 : ∀ n os, (grow (V.drewN n) os).cell? ⟨w.heap.size, 1, none⟩ = some (.int .i64 x2) := cell_grown (by show w.heap.size < _; omega) k1
  have k2 : ∀ n os, (grow (V.drewN n) os).cell? ⟨w.heap.size + 1, 0, none⟩ = some (.int .i64 y1) := cell_grown (by show w.heap.size + 1 < _; omega) k2
  have k3 : ∀ n os, (grow (V.drewN n) os).cell? ⟨w.heap.size + 1, 1, none⟩ = some (.int .i64 y2) := cell_grown (by show w.heap.size + 1 < _; omega) k3
  clear hz hz2 HZ G
  go_wp2_with fail
  refine wp_region_quiet_grown (by assumption) (by kernel_rfl) ?_
  repeat (go_big_quiet_step (first | fail | (first | (go_at_call 10; with_reducible exact Calls.grown_of (HT1.out _)) | (go_at_call 10; with_reducible exact Calls.grown_of (HT2.out _)) | (go_at_call 11; with_reducible exact Calls.grown_of (HI.out _)))))
  refine wpQuiet_nil ?_
  intro _ hw'
  obtain ⟨⟨nq, osq⟩, hw''⟩ := hw'
  subst hw''
  have G3 : Hid (Grw w (grow (V.drewN nq) osq)) := G2.out.trans ⟨nq, osq, rfl⟩
  clear k0 k1 k2 k3 G2
  generalize grow (V.drewN nq) osq = U at G3 ⊢
  go_wp2
  go_ret
  exact ⟨rfl, G3.out.below⟩
theorem eqWord_any (x1 x2 : Int) (w : World) : Calls Try.prog 14 #[.agg #[.int .i64 x1, .int .i64 x2], .agg #[.int .i64 x1, .int .i64 x2]] w fun e w' => e = .returned (.bool true) ∧ Grw w w' := by
  have n1 : (x1 != x1) = false := by simp
  have n2 : (x2 != x2) = false := by simp
  go_enter Try.func14, Try.ntmps14
  go_wp2
  go_ret
  exact ⟨rfl, ((Grw.refl _).alloc _).alloc _⟩

theorem lawNegOf_any (x1 x2 : Int) (w : World) :
    Calls Try.prog 4 #[.agg #[.int .i64 x1, .int .i64 x2]] w fun e w' => e = .returned (.bool true) ∧ Below w.heap.size w w' := by
  have HT : Hid (∀ w, Calls Try.prog 10 #[.agg #[.int .i64 x1, .int .i64 x2]] w fun e w' => e = .returned (.agg #[.int .i64 x1, .int .i64 x2]) ∧ Below w.heap.size w w') := fun w => toWord_any _ _ w
  have HS : Hid (∀ w, Calls Try.prog 12 #[.agg #[.int .i64 x1, .int .i64 x2]] w fun e w' => e = .returned (.tuple #[.agg #[.int .i64 (negH x1 x2), .int .i64 (negL x1 x2)], .int .i64 (badC x1 x2)]) ∧ Below w.heap.size w w') := fun w => sNegOf_any x1 x2 w
  have HI : Hid (∀ w, Calls Try.prog 13 #[.agg #[.int .i64 x1, .int .i64 x2]] w fun e w' => e = .returned (.tuple #[.agg #[.int .i64 (negH x1 x2), .int .i64 (negL x1 x2)], .int .i64 (badC x1 x2)]) ∧ Below w.heap.size w w') := fun w => iNegOf_any x1 x2 w
  generalize negH x1 x2 = q1 at *
  generalize negL x1 x2 = q2 at *
  generalize badC x1 x2 = q3 at *
  have HE : Hid (∀ w, Calls Try.prog 14 #[.agg #[.int .i64 q1, .int .i64 q2], .agg #[.int .i64 q1, .int .i64 q2]] w fun e w' => e = .returned (.bool true) ∧ Grw w w') := fun w => eqWord_any _ _ w
  have n1 : (q3 != q3) = false := by simp
  go_enter Try.func4, Try.ntmps4
  go_wp2_with fail
  refine (HT.out _).mono ?_
  rintro e w1 ⟨rfl, b1⟩
  have k0 : w1.cell? ⟨w.heap.size, 0, none⟩ = some (.int .i64 x1) := by rw [b1.cell (by simp)]; simp
  have k1 : w1.cell? ⟨w.heap.size, 1, none⟩ = some (.int .i64 x2) := by rw [b1.cell (by simp)]; simp
  have B1 : Hid (Below w.heap.size w w1) := ((Below.refl _ _).alloc (Nat.le_refl _) _).trans (b1.mono (by simp))
  have l1 : w.heap.size < w1.heap.size := World.block_lt_of_cell? w1 _ k0
  clear b1
  go_wp2_with fail
  refine (HS.out _).mono ?_
  rintro e w2 ⟨rfl, b2⟩
  have k0 : w2.cell? ⟨w.heap.size, 0, none⟩ = some (.int .i64 x1) := by rw [b2.cell (by show w.heap.size < _; omega)]; exact k0
  have k1 : w2.cell? ⟨w.heap.size, 1, none⟩ = some (.int .i64 x2) := by rw [b2.cell (by show w.heap.size < _; omega)]; exact k1
  have B2 : Hid (Below w.heap.size w w2) := B1.out.trans (b2.mono (by omega))
  have l2 : w.heap.size < w2.heap.size := by have := b2.size; omega
  clear b2
  go_wp2_with fail
  refine (HT.out _).mono ?_
  rintro e w3 ⟨rfl, b3⟩
  have m0 : w3.cell? ⟨w2.heap.size, 0, none⟩ = some (.int .i64 q1) := by rw [b3.cell (by simp)]; simp
  have m1 : w3.cell? ⟨w2.heap.size, 1, none⟩ = some (.int .i64 q2) := by rw [b3.cell (by simp)]; simp
  have B3 : Hid (Below w.heap.size w w3) := B2.out.trans ((((Below.refl _ _).alloc (Nat.le_refl _) _).trans (b3.mono (by simp))).mono (by omega))
  have l3 : w2.heap.size < w3.heap.size := World.block_lt_of_cell? w3 _ m0
  clear b3 k0 k1
  go_wp2_with fail
  refine (HI.out _).mono ?_
  rintro e w4 ⟨rfl, b4⟩
  have m0 : w4.cell? ⟨w2.heap.size, 0, none⟩ = some (.int .i64 q1) := by rw [b4.cell (by exact l3)]; exact m0
  have m1 : w4.cell? ⟨w2.heap.size, 1, none⟩ = some (.int .i64 q2) := by rw [b4.cell (by exact l3)]; exact m1
  have B4 : Hid (Below w.heap.size w w4) := B3.out.trans (b4.mono (by omega))
  have l4 : w2.heap.size < w4.heap.size := World.block_lt_of_cell? w4 _ m0
  have l5 : w.heap.size ≤ w4.heap.size := by omega
  clear b4 l3 l2 l1
  go_wp2_with fail
  refine (HE.out _).mono ?_
  rintro e w5 ⟨rfl, G5⟩
  have B5 : Hid (Below w.heap.size w w5) := (B4.out.alloc l5 _).trans (G5.below.mono (by simp; omega))
  clear G5
  go_wp2
  go_ret
  exact ⟨rfl, B5.out⟩
end Go.Proofs.Ytfcdobicilediab
