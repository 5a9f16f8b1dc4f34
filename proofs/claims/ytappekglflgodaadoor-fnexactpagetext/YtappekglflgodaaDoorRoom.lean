/- The program's small tests: hasRoom, addressOK. -/
import Derived.Test.YtappekglflgodaaDoorProg
import Derived.WalkKit
import Derived.PlainAid
import Derived.Below
namespace Go.Proofs.YtappekglflgodaaDoor
open Go.RowKit Go.PlainAid
set_option linter.unusedVariables false

end Go.Proofs.YtappekglflgodaaDoor
