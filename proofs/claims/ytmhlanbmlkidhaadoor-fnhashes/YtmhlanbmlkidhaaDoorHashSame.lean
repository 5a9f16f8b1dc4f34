/- SameHash, the program's and the model's: both are one text of 32 bytes; the walk of its law. -/
import Derived.Test.YtmhlanbmlkidhaaDoorProg
import Derived.Test.YtmhlanbmlkidhaaDoorPlain
namespace Go.Proofs.YtmhlanbmlkidhaaDoor
open Go.RowKit Go.PlainAid
set_option linter.unusedVariables false
set_option maxRecDepth 20000

def sameB (a b : ByteArray) : Bool := decide (a.size = 32) && (a.toList == b.toList)
theorem same_size {a b : ByteArray} (h : (a.toList == b.toList) = true) : a.size = b.size := by
  rw [ByteArray.toList_eq, ByteArray.toList_eq] at h
  have := congrArg List.length (eq_of_beq h)
  rw [Array.length_toList, Array.length_toList] at this
  exact this
theorem sameB_n (a b : ByteArray) (h : a.size ≠ 32) : sameB a b = false := by simp [sameB, h]
theorem sameB_y (a b : ByteArray) (h : a.size = 32) : sameB a b = (a.toList == b.toList) := by simp [sameB, h]

theorem sameHash_any (a b : ByteArray) (w : World) (ha : a.size ≤ 9223372036854775807) :
    Calls Tryd.prog 26 #[.string a, .string b] w fun e w' => e = .returned (.bool (sameB a b)) ∧ w' = w := by
  by_cases h : a.size = 32
  · have hq : ((a.size : Int) == 32) = true := by simp; omega
    have HS : Hid (sameB a b = (a.toList == b.toList)) := sameB_y a b h
    clear h
    go_enter Tryd.func26, Tryd.ntmps26
    go_wp2
    go_ret
    exact ⟨(by rw [HS.out]; try rfl), rfl⟩
  · have hq : ((a.size : Int) == 32) = false := by simp; omega
    have HS : Hid (sameB a b = false) := sameB_n a b h
    clear h
    go_enter Tryd.func26, Tryd.ntmps26
    go_wp2
    go_ret
    exact ⟨(by rw [HS.out]; try rfl), rfl⟩

end Go.Proofs.YtmhlanbmlkidhaaDoor
