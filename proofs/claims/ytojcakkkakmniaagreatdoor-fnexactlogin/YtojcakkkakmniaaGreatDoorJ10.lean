/- The first rule that fits: l07First, ruleFits; FirstRule, RoleAllows, the program's and the model's. -/
import Derived.Test.YtojcakkkakmniaaGreatDoorJ9
namespace Go.Proofs.YtojcakkkakmniaaGreatDoor
open Go.RowKit Go.PlainAid Go.Proofs.YtojcakkkakmniaaGreatDoor.Bt Go.Sort
set_option linter.unusedVariables false
set_option maxRecDepth 20000
def fv (f:RuleV→Bool) (rs:List RuleV):Int:=match rs.findIdx? f with | some k=>k | none=>-1
end Go.Proofs.YtojcakkkakmniaaGreatDoor
