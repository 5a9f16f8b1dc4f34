/- The program's macOf and macAt: a mac as an array of six, and back. -/
import Derived.Test.YtjammgjmidchmaaPart
import Derived.Handy
import Derived.Laws.Cover3
namespace Go.Proofs.Ytjammgjmidchmaa
open Go.RowKit Go.PlainAid
set_option linter.unusedVariables false
set_option maxRecDepth 20000

theorem isMac_b (s : ByteArray) (q : Bool) (hq : ((s.size : Int) == 6) = q) (w : World) : Calls Try.prog 48 #[.string s] w fun e w' => e = .returned (.bool q) ∧ w' = w := by
  go_enter Try.func48, Try.ntmps48
  go_wp2
  go_ret
  exact ⟨rfl, rfl⟩
theorem nums6 (s : ByteArray) (h : s.size = 6) : nums s = [bt s 0, bt s 1, bt s 2, bt s 3, bt s 4, bt s 5] := by
  have e := range_getD (nums s)
  rw [nums_len, h] at e
  rw [← e]
  simp only [nums_getD]
  rfl

end Go.Proofs.Ytjammgjmidchmaa
