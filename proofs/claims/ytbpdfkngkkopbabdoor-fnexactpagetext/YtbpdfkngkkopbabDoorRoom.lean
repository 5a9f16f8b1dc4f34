/- The program's small tests: hasRoom, addressOK. -/
import Derived.Test.YtbpdfkngkkopbabDoorProg
import Derived.WalkKit
import Derived.PlainAid
import Derived.Below
namespace Go.Proofs.YtbpdfkngkkopbabDoor
open Go.RowKit Go.PlainAid
set_option linter.unusedVariables false

end Go.Proofs.YtbpdfkngkkopbabDoor
