/- The tests of structs, of both sides. -/
import Derived.Test.YtpcjdfponkopaaeTests
import Derived.Test.YtpcjdfponkopaaeApp
import Derived.Test.YtpcjdfponkopaaeFrameB
import Derived.Test.YtpcjdfponkopaaeSpecFrame
namespace Go.Proofs.Ytpcjdfponkopaae
open Go.RowKit Go.PlainAid
set_option linter.unusedVariables false
set_option maxRecDepth 20000
end Go.Proofs.Ytpcjdfponkopaae
