/- A parser's fault: a panic with a code. -/
import Derived.Test.YtbpdfkngkkopbabProg
import Derived.Test.YtbpdfkngkkopbabGrwSet
import Derived.WalkKit
import Derived.WalkLawsBesides
import Derived.PlainAid
import Derived.Below
import Derived.Defers
import Derived.Recover
namespace Go.Proofs.Ytbpdfkngkkopbab
open Go.RowKit Go.PlainAid Go.Sort
set_option linter.unusedVariables false
set_option maxRecDepth 20000

/-- The panic of a parser's fault; how a parser ends. -/
def flt (c : Int) : List PanicEntry := [{ v := .iface 40 (.agg #[.int .i64 c]), recovered := false }]
def enP : Option Value → Int → Ending
  | some v, _ => .returned v
  | none, c => .panicked (flt c)
theorem insist_yes (c : Int) (w : World) : Calls Try.prog 26 #[.bool true, .int .i64 c] w fun e w' => e = .returned (.tuple #[]) ∧ w' = w := by
  go_enter Try.func26, Try.ntmps26
  go_wp2
  go_end0
  exact ⟨rfl, rfl⟩
theorem insist_no (c : Int) (w : World) : Calls Try.prog 26 #[.bool false, .int .i64 c] w fun e w' => e = .panicked (flt c) ∧ w' = w := by
  go_enter Try.func26, Try.ntmps26
  go_wp2
  exact ⟨rfl, rfl, rfl⟩
theorem faultCode_any (c : Int) (w : World) : Calls Try.prog 20 #[.iface 40 (.agg #[.int .i64 c])] w fun e w' => e = .returned (.int .i64 c) ∧ Grw w w' := by
  have hta : ∀ w : World, (Instr.typeAssert (.iface 40 (.agg #[.int .i64 c])) 20 40 true).run Try.prog w = .ok (.tuple #[.agg #[.int .i64 c], .bool true]) w := fun w => by first | rfl | kernel_rfl
  go_enter Try.func20, Try.ntmps20
  go_wp2
  go_ret
  exact ⟨rfl, (Grw.refl _).alloc _⟩
end Go.Proofs.Ytbpdfkngkkopbab
