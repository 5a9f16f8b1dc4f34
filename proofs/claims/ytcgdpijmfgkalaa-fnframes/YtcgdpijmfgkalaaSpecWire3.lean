/- The model: the bytes of segments and datagrams as strings. -/
import Derived.Test.YtcgdpijmfgkalaaSpecWire2
namespace Go.Proofs.Ytcgdpijmfgkalaa
open Go.RowKit Go.PlainAid
set_option linter.unusedVariables false
set_option maxRecDepth 20000

end Go.Proofs.Ytcgdpijmfgkalaa
