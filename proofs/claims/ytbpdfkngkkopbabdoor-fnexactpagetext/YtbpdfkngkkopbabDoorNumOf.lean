/- NumberOf, the program's and the model's: both answer the number of 1 to 6 bytes, the higher ones first; the walk of its law. -/
import Derived.Test.YtbpdfkngkkopbabDoorProg
import Derived.Test.YtbpdfkngkkopbabDoorBits
import Derived.Test.YtbpdfkngkkopbabDoorCopy
namespace Go.Proofs.YtbpdfkngkkopbabDoor
open Go.RowKit Go.PlainAid
set_option linter.unusedVariables false
set_option maxRecDepth 20000

/-- The number of the first k bytes. -/
def numOf (f : Nat → Int) : Nat → Int
  | 0 => 0
  | k + 1 => numOf f k * 256 + f k

theorem numOf_bd (f : Nat → Int) (h : ∀ k, 0 ≤ f k ∧ f k ≤ 255) : ∀ k : Nat, 0 ≤ numOf f k ∧ numOf f k ≤ 256 ^ k - 1
  | 0 => by simp [numOf]
  | k + 1 => by
    have := numOf_bd f h k
    have := h k
    have e : (256 : Int) ^ (k + 1) = 256 ^ k * 256 := Int.pow_succ ..
    rw [e]
    unfold numOf
    omega
theorem numOf_le5 (f : Nat → Int) (h : ∀ k, 0 ≤ f k ∧ f k ≤ 255) (k : Nat) (hk : k ≤ 5) : 0 ≤ numOf f k ∧ numOf f k ≤ 1099511627775 := by
  have := numOf_bd f h k
  match k, hk with
  | 0, _ | 1, _ | 2, _ | 3, _ | 4, _ | 5, _ => simp at this; omega
theorem numOf_congr (f g : Nat → Int) : ∀ k : Nat, (∀ j, j < k → f j = g j) → numOf f k = numOf g k
  | 0, _ => rfl
  | k + 1, h => by rw [numOf, numOf, numOf_congr f g k (fun j hj => h j (by omega)), h k (by omega)]

end Go.Proofs.YtbpdfkngkkopbabDoor
