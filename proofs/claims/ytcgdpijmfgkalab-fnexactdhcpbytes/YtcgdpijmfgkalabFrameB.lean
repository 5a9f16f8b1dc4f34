/- The program's FrameBytes. -/
import Derived.Test.YtcgdpijmfgkalabMacs
import Derived.Test.YtcgdpijmfgkalabApp
namespace Go.Proofs.Ytcgdpijmfgkalab
open Go.RowKit Go.PlainAid
set_option linter.unusedVariables false
set_option maxRecDepth 20000

/-- A frame as the model has a struct. -/
def frameL (d s : ByteArray) (k : Int) (b : ByteArray) : List Int := nums d ++ nums s ++ nbl k 2 ++ nums b

end Go.Proofs.Ytcgdpijmfgkalab
