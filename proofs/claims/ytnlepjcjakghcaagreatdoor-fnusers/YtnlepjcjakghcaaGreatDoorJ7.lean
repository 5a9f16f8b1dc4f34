/- endSessions of the program. -/
import Derived.Test.YtnlepjcjakghcaaGreatDoorJ5
import Derived.Test.YtnlepjcjakghcaaGreatDoorJ6
namespace Go.Proofs.YtnlepjcjakghcaaGreatDoor
open Go.RowKit Go.PlainAid Go.Proofs.YtnlepjcjakghcaaGreatDoor.Bt Go.Sort
set_option linter.unusedVariables false
set_option maxRecDepth 20000
end Go.Proofs.YtnlepjcjakghcaaGreatDoor
