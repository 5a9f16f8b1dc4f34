/- The tests of structs, of both sides. -/
import Derived.Test.YtdhjbbnggeamhabTests
import Derived.Test.YtdhjbbnggeamhabApp
import Derived.Test.YtdhjbbnggeamhabFrameB
import Derived.Test.YtdhjbbnggeamhabSpecFrame
namespace Go.Proofs.Ytdhjbbnggeamhab
open Go.RowKit Go.PlainAid
set_option linter.unusedVariables false
set_option maxRecDepth 20000
end Go.Proofs.Ytdhjbbnggeamhab
