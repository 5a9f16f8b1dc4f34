/- The program's NumberBytes at a size from 1 to 6 and a number that has room: its bytes, the higher ones first, in new memory. -/
import Derived.Test.YtmeejholckelgaaGreatProg
import Derived.Test.YtmeejholckelgaaGreatFill
import Derived.Test.YtmeejholckelgaaGreatInfo
import Derived.Test.YtmeejholckelgaaGreatRoom
namespace Go.Proofs.YtmeejholckelgaaGreat
open Go.RowKit Go.PlainAid
set_option linter.unusedVariables false
set_option maxRecDepth 20000

/-- Byte j of n in m bytes, the higher ones first. -/
def nb (n : Int) (m j : Nat) : Int := n / 2 ^ (8 * (m - 1 - j)) % 256
theorem nb_bd (n : Int) (m j : Nat) : 0 ≤ nb n m j ∧ nb n m j ≤ 255 := by unfold nb; omega

end Go.Proofs.YtmeejholckelgaaGreat
