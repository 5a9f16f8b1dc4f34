/- The program's small tests: hasRoom, addressOK. -/
import Derived.Test.YtbpdfkngkkopbabProg
import Derived.WalkKit
import Derived.PlainAid
import Derived.Below
namespace Go.Proofs.Ytbpdfkngkkopbab
open Go.RowKit Go.PlainAid
set_option linter.unusedVariables false

end Go.Proofs.Ytbpdfkngkkopbab
