/- The program's small tests: hasRoom, addressOK. -/
import Derived.Test.YtappekglflgodabDoorProg
import Derived.WalkKit
import Derived.PlainAid
import Derived.Below
namespace Go.Proofs.YtappekglflgodabDoor
open Go.RowKit Go.PlainAid
set_option linter.unusedVariables false

end Go.Proofs.YtappekglflgodabDoor
