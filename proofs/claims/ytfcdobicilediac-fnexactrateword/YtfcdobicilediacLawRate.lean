/- The walk of the law of RateWord: true at every word. -/
import Derived.Test.YtfcdobicilediacLawWord
namespace Go.Proofs.Ytfcdobicilediac
open Go.RowKit Go.PlainAid Go.Proofs.Ytfcdobicilediac.Bt Go.Proofs.Ytfcdobicilediac.Fo Go.Sort
set_option linter.unusedVariables false
set_option maxRecDepth 20000

theorem lawRateWord_any (x1 x2 : Int) (w : World) :
    Calls Try.prog 3 #[.agg #[.int .i64 x1, .int .i64 x2]] w fun e w' => e = .returned (.bool true) ∧ Below w.heap.size w w' := by
  have HTx : Hid (∀ w, Calls Try.prog 5 #[.agg #[.int .i64 x1, .int .i64 x2]] w fun e w' => e = .returned (.agg #[.int .i64 x1, .int .i64 x2]) ∧ Below w.heap.size w w') := fun w => toWord_any _ _ w
  have HS : Hid (∀ w, Calls Try.prog 4 #[.agg #[.int .i64 x1, .int .i64 x2]] w fun e w' => e = .returned (.string (rateS x1 x2)) ∧ Below w.heap.size w w') := fun w => (sRate_any x1 x2 w).mono fun e w' h => ⟨h.1, h.2.below⟩
  have HI : Hid (∀ w, Calls Try.prog 6 #[.agg #[.int .i64 x1, .int .i64 x2]] w fun e w' => e = .returned (.string (rateS x1 x2)) ∧ Below w.heap.size w w') := fun w => (iRate_any x1 x2 w).mono fun e w' h => ⟨h.1, h.2.below⟩
  generalize rateS x1 x2 = q1 at *
  go_enter Try.func3, Try.ntmps3
  go_wp2_with fail
  refine (HTx.out _).mono ?_
  rintro e w1 ⟨rfl, b1⟩
  have k00 : w1.cell? ⟨w.heap.size, 0, none⟩ = some (.int .i64 x1) := by rw [b1.cell (by simp)]; simp
  have k01 : w1.cell? ⟨w.heap.size, 1, none⟩ = some (.int .i64 x2) := by rw [b1.cell (by simp)]; simp
  have B1 : Hid (Below w.heap.size w w1) := ((Below.refl _ _).alloc (Nat.le_refl _) _).trans (b1.mono (by simp))
  have l1 : w.heap.size < w1.heap.size := World.block_lt_of_cell? w1 _ k00
  clear b1
  go_wp2_with fail
  refine (HS.out _).mono ?_
  rintro e w2 ⟨rfl, b2⟩
  have k00 : w2.cell? ⟨w.heap.size, 0, none⟩ = some (.int .i64 x1) := by rw [b2.cell (by show w.heap.size < _; omega)]; exact k00
  have k01 : w2.cell? ⟨w.heap.size, 1, none⟩ = some (.int .i64 x2) := by rw [b2.cell (by show w.heap.size < _; omega)]; exact k01
  have B2 : Hid (Below w.heap.size w w2) := B1.out.trans (b2.mono (by omega))
  have l2 : w.heap.size < w2.heap.size := by have := b2.size; omega
  clear b2
  go_wp2_with fail
  refine (HTx.out _).mono ?_
  rintro e w3 ⟨rfl, b3⟩
  have k00 : w3.cell? ⟨w.heap.size, 0, none⟩ = some (.int .i64 x1) := by rw [b3.cell (by show w.heap.size < _; omega)]; exact k00
  have k01 : w3.cell? ⟨w.heap.size, 1, none⟩ = some (.int .i64 x2) := by rw [b3.cell (by show w.heap.size < _; omega)]; exact k01
  have B3 : Hid (Below w.heap.size w w3) := B2.out.trans (b3.mono (by omega))
  have l3 : w.heap.size < w3.heap.size := by have := b3.size; omega
  clear b3
  go_wp2_with fail
  refine (HI.out _).mono ?_
  rintro e w4 ⟨rfl, b4⟩
  have B4 : Hid (Below w.heap.size w w4) := B3.out.trans (b4.mono (by omega))
  have l4 : w.heap.size < w4.heap.size := by have := b4.size; omega
  clear b4
  go_wp2
  go_ret
  exact ⟨rfl, B4.out⟩
end Go.Proofs.Ytfcdobicilediac
