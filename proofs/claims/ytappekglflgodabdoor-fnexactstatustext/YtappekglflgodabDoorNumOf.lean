/- NumberOf, the program's and the model's: both answer the number of 1 to 6 bytes, the higher ones first; the walk of its law. -/
import Derived.Test.YtappekglflgodabDoorProg
import Derived.Test.YtappekglflgodabDoorBits
import Derived.Test.YtappekglflgodabDoorCopy
namespace Go.Proofs.YtappekglflgodabDoor
open Go.RowKit Go.PlainAid
set_option linter.unusedVariables false
set_option maxRecDepth 20000

/-- The number of the first k bytes. -/
def numOf (f : Nat → Int) : Nat → Int
  | 0 => 0
  | k + 1 => numOf f k * 256 + f k

theorem numOf_bd (f : Nat → Int) (h : ∀ k, 0 ≤ f k ∧ f k ≤ 255) : ∀ k : Nat, 0 ≤ numOf f k ∧ numOf f k ≤ 256 ^ k - 1
  | 0 => by simp [numOf]
  | k + 1 => by
    have := numOf_bd f h k
    have := h k
    have e : (256 : Int) ^ (k + 1) = 256 ^ k * 256 := Int.pow_succ ..
    rw [e]
    unfold numOf
    omega
theorem numOf_le5 (f : Nat → Int) (h : ∀ k, 0 ≤ f k ∧ f k ≤ 255) (k : Nat) (hk : k ≤ 5) : 0 ≤ numOf f k ∧ numOf f k ≤ 1099511627775 := by
  have := numOf_bd f h k
  match k, hk with
  | 0, _ | 1, _ | 2, _ | 3, _ | 4, _ | 5, _ => simp at this; omega
theorem numOf_congr (f g : Nat → Int) : ∀ k : Nat, (∀ j, j < k → f j = g j) → numOf f k = numOf g k
  | 0, _ => rfl
  | k + 1, h => by rw [numOf, numOf, numOf_congr f g k (fun j hj => h j (by omega)), h k (by omega)]

theorem l01In_any (n lo hi : Int) (w : World) : Calls Tryd.prog 13 #[.int .i64 n, .int .i64 lo, .int .i64 hi] w fun e w' => e = .returned (.bool (decide (lo ≤ n ∧ n ≤ hi))) ∧ w' = w := by
  by_cases h1 : lo ≤ n
  · by_cases h2 : n ≤ hi
    · go_enter Tryd.func13, Tryd.ntmps13
      go_wp2
      go_ret
      exact ⟨congrArg (fun b => Ending.returned (.bool b)) (by simp [h1, h2]), rfl⟩
    · go_enter Tryd.func13, Tryd.ntmps13
      go_wp2
      go_ret
      exact ⟨congrArg (fun b => Ending.returned (.bool b)) (by simp [h2]), rfl⟩
  · have h1' : decide (lo ≤ n) = false := by simp; omega
    go_enter Tryd.func13, Tryd.ntmps13
    go_wp2
    go_ret
    exact ⟨congrArg (fun b => Ending.returned (.bool b)) (by simp), rfl⟩

theorem l01In_no (n lo hi : Int) (w : World) (h : n < lo ∨ hi < n) : Calls Tryd.prog 13 #[.int .i64 n, .int .i64 lo, .int .i64 hi] w fun e w' => e = .returned (.bool false) ∧ w' = w :=
  (l01In_any n lo hi w).mono fun e w' hh => ⟨by rw [hh.1, decide_eq_false (by omega)], hh.2⟩
theorem l01In_yes (n lo hi : Int) (w : World) (h : lo ≤ n) (h' : n ≤ hi) : Calls Tryd.prog 13 #[.int .i64 n, .int .i64 lo, .int .i64 hi] w fun e w' => e = .returned (.bool true) ∧ w' = w :=
  (l01In_any n lo hi w).mono fun e w' hh => ⟨by rw [hh.1, decide_eq_true ⟨h, h'⟩], hh.2⟩

end Go.Proofs.YtappekglflgodabDoor
