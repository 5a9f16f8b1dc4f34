/- The small tests of both sides, each answering whether a condition holds. -/
import Derived.Test.YtbpdfkngkkopbabDoorRoom
import Derived.Test.YtbpdfkngkkopbabDoorNumOf
namespace Go.Proofs.YtbpdfkngkkopbabDoor
open Go.RowKit Go.PlainAid
set_option linter.unusedVariables false
set_option maxRecDepth 20000

/-- Whether it holds: a name that no rule looks into. -/
def dec (p : Prop) [Decidable p] : Bool := decide p
theorem dec_y {p : Prop} [Decidable p] (h : p) : dec p = true := decide_eq_true h
theorem dec_n {p : Prop} [Decidable p] (h : ¬ p) : dec p = false := decide_eq_false h

end Go.Proofs.YtbpdfkngkkopbabDoor
