/- The contracts of impl.Check16, spec.l01Sum16 and spec.Check16: each answers the folded sum of the bytes, 0 above 65536 of them, and turns nothing. -/
import Derived.Test.YtimhkeebgogfoabDoorProg
import Derived.Test.YtimhkeebgogfoabDoorPlain
import Derived.Test.YtimhkeebgogfoabDoorBytes
import Derived.Test.YtimhkeebgogfoabDoorBits
namespace Go.Proofs.YtimhkeebgogfoabDoor
open Go.RowKit Go.PlainAid Go.Proofs.YtimhkeebgogfoabDoor.Pl
set_option linter.unusedVariables false
set_option maxRecDepth 20000

theorem ret_int {k : IntKind} {a b : Int} (h : a = b) : Ending.returned (.int k a) = .returned (.int k b) := by rw [h]

end Go.Proofs.YtimhkeebgogfoabDoor
