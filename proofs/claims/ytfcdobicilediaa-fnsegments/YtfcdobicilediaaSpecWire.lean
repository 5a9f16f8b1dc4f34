/- The model: the bytes of a question for a mac, of packets, segments and datagrams as strings. -/
import Derived.Test.YtfcdobicilediaaArpB
import Derived.Test.YtfcdobicilediaaEndsB
import Derived.Test.YtfcdobicilediaaNumBytes
import Derived.Deep.RegionHeld3
namespace Go.Proofs.Ytfcdobicilediaa
open Go.RowKit Go.PlainAid
set_option linter.unusedVariables false
set_option maxRecDepth 20000

end Go.Proofs.Ytfcdobicilediaa
