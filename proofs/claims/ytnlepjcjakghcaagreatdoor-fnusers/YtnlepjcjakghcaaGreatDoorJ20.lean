/- The model's l08Role, l08Users. -/
import Derived.Test.YtnlepjcjakghcaaGreatDoorJ10
namespace Go.Proofs.YtnlepjcjakghcaaGreatDoor
open Go.RowKit Go.PlainAid Go.Proofs.YtnlepjcjakghcaaGreatDoor.Bt Go.Sort
set_option linter.unusedVariables false
set_option maxRecDepth 20000

end Go.Proofs.YtnlepjcjakghcaaGreatDoor
