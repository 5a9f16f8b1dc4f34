/- The small tests of both sides, each answering whether a condition holds. -/
import Derived.Test.YtfcdobicilediabRoom
import Derived.Test.YtfcdobicilediabNumOf
namespace Go.Proofs.Ytfcdobicilediab
open Go.RowKit Go.PlainAid
set_option linter.unusedVariables false
set_option maxRecDepth 20000

/-- Whether it holds: a name that no rule looks into. -/
def dec (p : Prop) [Decidable p] : Bool := decide p
theorem dec_y {p : Prop} [Decidable p] (h : p) : dec p = true := decide_eq_true h
theorem dec_n {p : Prop} [Decidable p] (h : ¬ p) : dec p = false := decide_eq_false h

theorem specIn_any (n lo hi : Int) (w : World) : Calls Try.prog 54 #[.int .i64 n, .int .i64 lo, .int .i64 hi] w fun e w' => e = .returned (.bool (dec (lo ≤ n ∧ n ≤ hi))) ∧ w' = w := l01In_any n lo hi w
theorem specIp_any (n : Int) (w : World) : Calls Try.prog 43 #[.int .i64 n] w fun e w' => e = .returned (.bool (dec (0 ≤ n ∧ n ≤ 4294967295))) ∧ w' = w := by
  go_enter Try.func43, Try.ntmps43
  go_wp2_with fail
  refine (specIn_any _ _ _ _).mono ?_
  rintro e w1 ⟨rfl, hw1⟩
  obtain rfl := hw1.symm
  clear hw1
  go_wp2
  go_ret
  exact ⟨rfl, rfl⟩
end Go.Proofs.Ytfcdobicilediab
