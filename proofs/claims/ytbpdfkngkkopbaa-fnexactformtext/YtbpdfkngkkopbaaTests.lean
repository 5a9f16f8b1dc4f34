/- The small tests of both sides, each answering whether a condition holds. -/
import Derived.Test.YtbpdfkngkkopbaaRoom
import Derived.Test.YtbpdfkngkkopbaaNumOf
namespace Go.Proofs.Ytbpdfkngkkopbaa
open Go.RowKit Go.PlainAid
set_option linter.unusedVariables false
set_option maxRecDepth 20000

/-- Whether it holds: a name that no rule looks into. -/
def dec (p : Prop) [Decidable p] : Bool := decide p
theorem dec_y {p : Prop} [Decidable p] (h : p) : dec p = true := decide_eq_true h
theorem dec_n {p : Prop} [Decidable p] (h : ¬ p) : dec p = false := decide_eq_false h

end Go.Proofs.Ytbpdfkngkkopbaa
