/- The walks of laws.FnExactNetOK, FnExactNetHas: true at every net and address. -/
import Derived.Test.YtbpdfkngkkopbaaDoorNetW
namespace Go.Proofs.YtbpdfkngkkopbaaDoor
open Go.RowKit Go.PlainAid Go.Proofs.YtbpdfkngkkopbaaDoor.Bt Go.Sort
set_option linter.unusedVariables false
set_option maxRecDepth 20000

end Go.Proofs.YtbpdfkngkkopbaaDoor
