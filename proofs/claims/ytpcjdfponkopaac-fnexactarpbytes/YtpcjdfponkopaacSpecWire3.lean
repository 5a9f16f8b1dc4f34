/- The model: the bytes of segments and datagrams as strings. -/
import Derived.Test.YtpcjdfponkopaacSpecWire2
namespace Go.Proofs.Ytpcjdfponkopaac
open Go.RowKit Go.PlainAid
set_option linter.unusedVariables false
set_option maxRecDepth 20000

end Go.Proofs.Ytpcjdfponkopaac
