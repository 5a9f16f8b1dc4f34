/- The program's small tests: hasRoom, addressOK. -/
import Derived.Test.YtimhkeebgogfoacProg
import Derived.WalkKit
import Derived.PlainAid
import Derived.Below
namespace Go.Proofs.Ytimhkeebgogfoac
open Go.RowKit Go.PlainAid
set_option linter.unusedVariables false

end Go.Proofs.Ytimhkeebgogfoac
