/- Places, lists of places and of roles, configurations in the laws. -/
import Derived.Test.YtnlepjcjakghcaaGreatDoorJ13
namespace Go.Proofs.YtnlepjcjakghcaaGreatDoor
open Go.RowKit Go.PlainAid Go.Proofs.YtnlepjcjakghcaaGreatDoor.Bt Go.Sort
set_option linter.unusedVariables false
set_option maxRecDepth 20000

/-- How much the roles hold. -/
def szR (ros : List RoleV) : Int := ros.foldr (fun r n => (r.nm.size : Int) + r.rs.length + n) 0
end Go.Proofs.YtnlepjcjakghcaaGreatDoor
