/- NumberBytes, the program's and the model's. -/
import Derived.Test.YtdhjbbnggeamhacProg
import Derived.Test.YtdhjbbnggeamhacNumOf
import Derived.Test.YtdhjbbnggeamhacNumB
import Derived.Test.YtdhjbbnggeamhacOwn
namespace Go.Proofs.Ytdhjbbnggeamhac
open Go.RowKit Go.PlainAid
set_option linter.unusedVariables false
set_option maxRecDepth 20000

theorem nbl_snoc (n : Int) (m k : Nat) : (List.range (k + 1)).map (nb n m) = (List.range k).map (nb n m) ++ [nb n m k] := by
  rw [List.range_succ, List.map_append]; rfl

end Go.Proofs.Ytdhjbbnggeamhac
