/- The program's small tests: hasRoom, addressOK. -/
import Derived.Test.YtbpdfkngkkopbaaProg
import Derived.WalkKit
import Derived.PlainAid
import Derived.Below
namespace Go.Proofs.Ytbpdfkngkkopbaa
open Go.RowKit Go.PlainAid
set_option linter.unusedVariables false

end Go.Proofs.Ytbpdfkngkkopbaa
