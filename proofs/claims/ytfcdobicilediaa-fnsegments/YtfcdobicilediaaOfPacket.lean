/- What is drawn of a code: a packet. -/
import Derived.Test.YtfcdobicilediaaDrawP
import Derived.Test.YtfcdobicilediaaAt
namespace Go.Proofs.Ytfcdobicilediaa
open Go.RowKit Go.PlainAid
set_option linter.unusedVariables false
set_option maxRecDepth 20000

end Go.Proofs.Ytfcdobicilediaa
