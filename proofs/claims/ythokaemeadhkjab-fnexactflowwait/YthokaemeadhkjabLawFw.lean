/- The walk of laws.FnExactFlowWait. -/
import Derived.Test.YthokaemeadhkjabFloW
namespace Go.Proofs.Ythokaemeadhkjab
open Go.RowKit Go.PlainAid Go.Proofs.Ythokaemeadhkjab.Bt Go.Sort
set_option linter.unusedVariables false
set_option maxRecDepth 20000

theorem lawFlowWait_any (p s : Int) (w : World) (hp : p ≤ 9223372036854775807) : Calls Try.prog 4 #[.int .i64 p, .int .i64 s] w fun e w' => e = .returned (.bool true) ∧ Below w.heap.size w w' := by
  have T1 : Hid (∀ w, Calls Try.prog 12 #[.int .i64 p, .int .i64 s] w fun e w' => e = .returned (.tuple #[.int .i64 (fwN p s), .int .i64 (fwC p s)]) ∧ w' = w) := fun w => specWait_any p s w
  have T2 : Hid (∀ w, Calls Try.prog 13 #[.int .i64 p, .int .i64 s] w fun e w' => e = .returned (.tuple #[.int .i64 (fwN p s), .int .i64 (fwC p s)]) ∧ w' = w) := fun w => implWait_any p s w hp
  generalize fwN p s = n at T1 T2
  generalize fwC p s = c at T1 T2
  have h1 : (n != n) = false := by simp
  have h2 : (c != c) = false := by simp
  go_enter Try.func4, Try.ntmps4
  go_wp2_with fail
  refine (T1.out _).mono ?_
  rintro e w1 ⟨rfl, hw⟩
  subst hw
  go_wp2_with fail
  refine (T2.out _).mono ?_
  rintro e w1 ⟨rfl, hw⟩
  subst hw
  go_wp2
  go_ret
  exact ⟨rfl, Below.refl _ _⟩
end Go.Proofs.Ythokaemeadhkjab
