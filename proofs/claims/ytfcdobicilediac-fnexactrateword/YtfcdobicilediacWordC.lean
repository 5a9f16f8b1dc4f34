/- Words, the program's side: compareWords, and what it answers for one word or two. -/
import Derived.Test.YtfcdobicilediacWordW
namespace Go.Proofs.Ytfcdobicilediac
open Go.RowKit Go.PlainAid Go.Proofs.Ytfcdobicilediac.Bt Go.Proofs.Ytfcdobicilediac.Fo Go.Sort
set_option linter.unusedVariables false
set_option maxRecDepth 20000

/-- How two words are ordered. -/
def cmpW (x y : Int × Int) : Int := ord3 (kW x) (kW y)

end Go.Proofs.Ytfcdobicilediac
