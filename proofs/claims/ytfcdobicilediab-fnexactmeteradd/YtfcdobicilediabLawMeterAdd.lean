/- The walk of laws.FnExactMeterAdd: true at every meter and amount. -/
import Derived.Test.YtfcdobicilediabMeterB
namespace Go.Proofs.Ytfcdobicilediab
open Go.RowKit Go.PlainAid Go.Sort
set_option linter.unusedVariables false
set_option maxRecDepth 20000

theorem toMeter_any (x0 x1 x2 x3 : Int) (w : World) : Calls Try.prog 27 #[.agg #[.int .i64 x0, .int .i64 x1, .int .i64 x2, .int .i64 x3]] w fun e w' => e = .returned (.agg #[.int .i64 x0, .int .i64 x1, .int .i64 x2, .int .i64 x3]) ∧ Below w.heap.size w w' := by
  have h : Calls Try.prog 27 #[.agg #[.int .i64 x0, .int .i64 x1, .int .i64 x2, .int .i64 x3]] w fun e w' => e = .returned (.agg #[.int .i64 x0, .int .i64 x1, .int .i64 x2, .int .i64 x3]) ∧ Grw w w' := by
    go_enter Try.func27, Try.ntmps27
    go_wp2
    (try simp only [Exit.inBlock, Exit.then])
    refine bodyPost_ret (v := .agg #[.int .i64 x0, .int .i64 x1, .int .i64 x2, .int .i64 x3]) (by simp [results, Try.results27, go_sem]; try rfl) rfl ?_
    exact ⟨rfl, (((Grw.refl _).alloc _).alloc _).alloc _⟩
  exact h.mono fun e w' h => ⟨h.1, h.2.below⟩
theorem eqMeter_any (x0 x1 x2 x3 : Int) (w : World) : Calls Try.prog 29 #[.agg #[.int .i64 x0, .int .i64 x1, .int .i64 x2, .int .i64 x3], .agg #[.int .i64 x0, .int .i64 x1, .int .i64 x2, .int .i64 x3]] w fun e w' => e = .returned (.bool true) ∧ Grw w w' := by
  have n0 : (x0 != x0) = false := by simp
  have n1 : (x1 != x1) = false := by simp
  have n2 : (x2 != x2) = false := by simp
  have n3 : (x3 != x3) = false := by simp
  go_enter Try.func29, Try.ntmps29
  go_wp2
  go_ret
  exact ⟨rfl, ((Grw.refl _).alloc _).alloc _⟩

theorem lawMeterAdd_any (x0 x1 x2 x3 x : Int) (w : World) :
    Calls Try.prog 7 #[.agg #[.int .i64 x0, .int .i64 x1, .int .i64 x2, .int .i64 x3], .int .i64 x] w fun e w' => e = .returned (.bool true) ∧ Below w.heap.size w w' := by
  have HT : Hid (∀ w, Calls Try.prog 27 #[.agg #[.int .i64 x0, .int .i64 x1, .int .i64 x2, .int .i64 x3]] w fun e w' => e = .returned (.agg #[.int .i64 x0, .int .i64 x1, .int .i64 x2, .int .i64 x3]) ∧ Below w.heap.size w w') := fun w => toMeter_any _ _ _ _ w
  have HS : Hid (∀ w, Calls Try.prog 26 #[.agg #[.int .i64 x0, .int .i64 x1, .int .i64 x2, .int .i64 x3], .int .i64 x] w fun e w' => e = .returned (.tuple #[.agg #[.int .i64 (mv0 x0 x1 x2 x3 x), .int .i64 (mv1 x0 x1 x2 x3 x), .int .i64 (mv2 x0 x1 x2 x3 x), .int .i64 (mv3 x0 x1 x2 x3 x)], .int .i64 (mvC x0 x1 x2 x3 x)]) ∧ Below w.heap.size w w') := fun w => sMeterAdd_any _ _ _ _ _ w
  have HI : Hid (∀ w, Calls Try.prog 28 #[.agg #[.int .i64 x0, .int .i64 x1, .int .i64 x2, .int .i64 x3], .int .i64 x] w fun e w' => e = .returned (.tuple #[.agg #[.int .i64 (mv0 x0 x1 x2 x3 x), .int .i64 (mv1 x0 x1 x2 x3 x), .int .i64 (mv2 x0 x1 x2 x3 x), .int .i64 (mv3 x0 x1 x2 x3 x)], .int .i64 (mvC x0 x1 x2 x3 x)]) ∧ Below w.heap.size w w') := fun w => iMeterAdd_any _ _ _ _ _ w
  generalize mv0 x0 x1 x2 x3 x = q0 at *
  generalize mv1 x0 x1 x2 x3 x = q1 at *
  generalize mv2 x0 x1 x2 x3 x = q2 at *
  generalize mv3 x0 x1 x2 x3 x = q3 at *
  generalize mvC x0 x1 x2 x3 x = q4 at *
  have HE : Hid (∀ w, Calls Try.prog 29 #[.agg #[.int .i64 q0, .int .i64 q1, .int .i64 q2, .int .i64 q3], .agg #[.int .i64 q0, .int .i64 q1, .int .i64 q2, .int .i64 q3]] w fun e w' => e = .returned (.bool true) ∧ Grw w w') := fun w => eqMeter_any _ _ _ _ w
  have n1 : (q4 != q4) = false := by simp
  go_enter Try.func7, Try.ntmps7
  go_wp2_with fail
  refine (HT.out _).mono ?_
  rintro e w1 ⟨rfl, b1⟩
  have k0 : w1.cell? ⟨w.heap.size, 0, none⟩ = some (.int .i64 x0) := by rw [b1.cell (by simp)]; simp
  have k1 : w1.cell? ⟨w.heap.size, 1, none⟩ = some (.int .i64 x1) := by rw [b1.cell (by simp)]; simp
  have k2 : w1.cell? ⟨w.heap.size, 2, none⟩ = some (.int .i64 x2) := by rw [b1.cell (by simp)]; simp
  have k3 : w1.cell? ⟨w.heap.size, 3, none⟩ = some (.int .i64 x3) := by rw [b1.cell (by simp)]; simp
  have B1 : Hid (Below w.heap.size w w1) := ((Below.refl _ _).alloc (Nat.le_refl _) _).trans (b1.mono (by simp))
  have l1 : w.heap.size < w1.heap.size := World.block_lt_of_cell? w1 _ k0
  clear b1
  go_wp2_with fail
  refine (HS.out _).mono ?_
  rintro e w2 ⟨rfl, b2⟩
  have k0 : w2.cell? ⟨w.heap.size, 0, none⟩ = some (.int .i64 x0) := by rw [b2.cell (by show w.heap.size < _; omega)]; exact k0
  have k1 : w2.cell? ⟨w.heap.size, 1, none⟩ = some (.int .i64 x1) := by rw [b2.cell (by show w.heap.size < _; omega)]; exact k1
  have k2 : w2.cell? ⟨w.heap.size, 2, none⟩ = some (.int .i64 x2) := by rw [b2.cell (by show w.heap.size < _; omega)]; exact k2
  have k3 : w2.cell? ⟨w.heap.size, 3, none⟩ = some (.int .i64 x3) := by rw [b2.cell (by show w.heap.size < _; omega)]; exact k3
  have B2 : Hid (Below w.heap.size w w2) := B1.out.trans (b2.mono (by omega))
  have l2 : w.heap.size < w2.heap.size := by have := b2.size; omega
  clear b2
  go_wp2_with fail
  refine (HT.out _).mono ?_
  rintro e w3 ⟨rfl, b3⟩
  have m0 : w3.cell? ⟨w2.heap.size, 0, none⟩ = some (.int .i64 q0) := by rw [b3.cell (by simp)]; simp
  have m1 : w3.cell? ⟨w2.heap.size, 1, none⟩ = some (.int .i64 q1) := by rw [b3.cell (by simp)]; simp
  have m2 : w3.cell? ⟨w2.heap.size, 2, none⟩ = some (.int .i64 q2) := by rw [b3.cell (by simp)]; simp
  have m3 : w3.cell? ⟨w2.heap.size, 3, none⟩ = some (.int .i64 q3) := by rw [b3.cell (by simp)]; simp
  have B3 : Hid (Below w.heap.size w w3) := B2.out.trans ((((Below.refl _ _).alloc (Nat.le_refl _) _).trans (b3.mono (by simp))).mono (by omega))
  have l3 : w2.heap.size < w3.heap.size := World.block_lt_of_cell? w3 _ m0
  clear b3 k0 k1 k2 k3
  go_wp2_with fail
  refine (HI.out _).mono ?_
  rintro e w4 ⟨rfl, b4⟩
  have m0 : w4.cell? ⟨w2.heap.size, 0, none⟩ = some (.int .i64 q0) := by rw [b4.cell (by exact l3)]; exact m0
  have m1 : w4.cell? ⟨w2.heap.size, 1, none⟩ = some (.int .i64 q1) := by rw [b4.cell (by exact l3)]; exact m1
  have m2 : w4.cell? ⟨w2.heap.size, 2, none⟩ = some (.int .i64 q2) := by rw [b4.cell (by exact l3)]; exact m2
  have m3 : w4.cell? ⟨w2.heap.size, 3, none⟩ = some (.int .i64 q3) := by rw [b4.cell (by exact l3)]; exact m3
  have B4 : Hid (Below w.heap.size w w4) := B3.out.trans (b4.mono (by omega))
  have l4 : w2.heap.size < w4.heap.size := World.block_lt_of_cell? w4 _ m0
  have l5 : w.heap.size ≤ w4.heap.size := by omega
  clear b4 l3 l2 l1
  go_wp2_with fail
  refine (HE.out _).mono ?_
  rintro e w5 ⟨rfl, G5⟩
  have B5 : Hid (Below w.heap.size w w5) := (B4.out.alloc l5 _).trans (G5.below.mono (by simp; omega))
  clear G5
  go_wp2
  go_ret
  exact ⟨rfl, B5.out⟩
end Go.Proofs.Ytfcdobicilediab
