/- The program ArpBytes. -/
import Derived.Test.YtfcdobicilediaaPacketB
namespace Go.Proofs.Ytfcdobicilediaa
open Go.RowKit Go.PlainAid
set_option linter.unusedVariables false
set_option maxRecDepth 20000

def arpH : List Int := [0, 1, 8, 0, 6, 4]
theorem arpH_nums : nums ⟨#[0, 1, 8, 0, 6, 4]⟩ = arpH := rfl
def arpL (op : Int) (sm dm : ByteArray) (si di : Int) : List Int := arpH ++ nbl op 2 ++ nums sm ++ nbl si 4 ++ nums dm ++ nbl di 4
theorem arpL_len (op : Int) (sm dm : ByteArray) (si di : Int) (h : sm.size = 6) (h' : dm.size = 6) : (arpL op sm dm si di).length = 28 := by simp [arpL, arpH, nbl_len, nums_len, h, h']
theorem arpH_bd : ∀ x ∈ arpH, 0 ≤ x ∧ x ≤ 255 := by rw [← arpH_nums]; exact nums_bd _
theorem arpL_bd (op : Int) (sm dm : ByteArray) (si di : Int) : ∀ x ∈ arpL op sm dm si di, 0 ≤ x ∧ x ≤ 255 :=
  bdA (bdA (bdA (bdA (bdA arpH_bd (nbl_bd _ _)) (nums_bd _)) (nbl_bd _ _)) (nums_bd _)) (nbl_bd _ _)

end Go.Proofs.Ytfcdobicilediaa
