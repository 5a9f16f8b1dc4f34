/- The program's macOf and macAt: a mac as an array of six, and back. -/
import Derived.Test.YtfcdobicilediaaPart
import Derived.Handy
import Derived.Laws.Cover3
namespace Go.Proofs.Ytfcdobicilediaa
open Go.RowKit Go.PlainAid
set_option linter.unusedVariables false
set_option maxRecDepth 20000

theorem nums6 (s : ByteArray) (h : s.size = 6) : nums s = [bt s 0, bt s 1, bt s 2, bt s 3, bt s 4, bt s 5] := by
  have e := range_getD (nums s)
  rw [nums_len, h] at e
  rw [← e]
  simp only [nums_getD]
  rfl

end Go.Proofs.Ytfcdobicilediaa
