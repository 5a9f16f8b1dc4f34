/- A number's text: the program's readNumber and the model's l00Number answer alike at every text. -/
import Derived.Test.YtfcdobicilediaaDoorProg
import Derived.Test.YtfcdobicilediaaDoorPlain
import Derived.Test.YtfcdobicilediaaDoorShelf
namespace Go.Proofs.YtfcdobicilediaaDoor
open Go.RowKit Go.PlainAid
set_option linter.unusedVariables false

/-- The number that the first k digits are. -/
def valD (f : Nat → Int) : Nat → Int
  | 0 => 0
  | k + 1 => valD f k * 10 + (f k - 48)
theorem valD_succ (f : Nat → Int) (k : Nat) : valD f (k + 1) = valD f k * 10 + (f k - 48) := rfl
theorem valD_bd (f : Nat → Int) : ∀ k : Nat, (∀ j, j < k → 48 ≤ f j ∧ f j ≤ 57) → 0 ≤ valD f k ∧ valD f k ≤ 10 ^ k - 1
  | 0, _ => by simp [valD]
  | k + 1, h => by
    have := valD_bd f k (fun j hj => h j (by omega))
    have := h k (by omega)
    have e : (10 : Int) ^ (k + 1) = 10 ^ k * 10 := Int.pow_succ ..
    rw [e]
    unfold valD
    omega
theorem pow_le (k m : Nat) (h : k ≤ m) : (10 : Int) ^ k ≤ 10 ^ m := by
  have := Nat.pow_le_pow_right (n := 10) (by omega) h
  have e1 : ((10 ^ k : Nat) : Int) = (10 : Int) ^ k := by rw [Int.natCast_pow]; rfl
  have e2 : ((10 ^ m : Nat) : Int) = (10 : Int) ^ m := by rw [Int.natCast_pow]; rfl
  rw [← e1, ← e2]; exact Int.ofNat_le.2 this
theorem valD_17 (f : Nat → Int) (k : Nat) (hk : k ≤ 17) (h : ∀ j, j < k → 48 ≤ f j ∧ f j ≤ 57) : 0 ≤ valD f k ∧ valD f k ≤ 99999999999999999 := by
  have h1 := valD_bd f k h
  have h2 := pow_le k 17 hk
  have h3 : (10 : Int) ^ 17 = 100000000000000000 := by decide
  rw [h3] at h2
  omega
theorem valD_18 (f : Nat → Int) (k : Nat) (hk : k ≤ 18) (h : ∀ j, j < k → 48 ≤ f j ∧ f j ≤ 57) : 0 ≤ valD f k ∧ valD f k ≤ 999999999999999999 := by
  have h1 := valD_bd f k h
  have h2 := pow_le k 18 hk
  have h3 : (10 : Int) ^ 18 = 1000000000000000000 := by decide
  rw [h3] at h2
  omega

/-- The digits (with a minus ahead, or none) are a number's text. -/
def numOK (f : Nat → Int) (n : Nat) (neg : Bool) : Bool := decide (1 ≤ n ∧ n ≤ 18 ∧ ¬ (f 0 = 48 ∧ (1 < n ∨ neg = true)) ∧ ∀ j, j < n → 48 ≤ f j ∧ f j ≤ 57)
def numV (f : Nat → Int) (n : Nat) (neg : Bool) : Int := if numOK f n neg then (if neg then -(valD f n) else valD f n) else 0

theorem num_no (f : Nat → Int) (n : Nat) (neg : Bool) (h : ¬ (1 ≤ n ∧ n ≤ 18 ∧ ¬ (f 0 = 48 ∧ (1 < n ∨ neg = true)) ∧ ∀ j, j < n → 48 ≤ f j ∧ f j ≤ 57)) : numOK f n neg = false ∧ numV f n neg = 0 := by
  have e : numOK f n neg = false := decide_eq_false h
  exact ⟨e, by unfold numV; rw [e]; rfl⟩
theorem num_bad (f : Nat → Int) (n : Nat) (neg : Bool) (k : Nat) (hk : k < n) (h : ¬ (48 ≤ f k ∧ f k ≤ 57)) : numOK f n neg = false ∧ numV f n neg = 0 :=
  num_no f n neg fun hh => h (hh.2.2.2 k hk)
theorem num_yes (f : Nat → Int) (n : Nat) (neg : Bool) (h1 : 1 ≤ n) (h2 : n ≤ 18) (h3 : ¬ (f 0 = 48 ∧ (1 < n ∨ neg = true))) (h4 : ∀ j, j < n → 48 ≤ f j ∧ f j ≤ 57) : numOK f n neg = true ∧ numV f n neg = if neg then -(valD f n) else valD f n := by
  have e : numOK f n neg = true := decide_eq_true ⟨h1, h2, h3, h4⟩
  exact ⟨e, by unfold numV; rw [if_pos e]⟩
theorem dig_step {f : Nat → Int} {k : Nat} (h : ∀ j, j < k → 48 ≤ f j ∧ f j ≤ 57) (h1 : 48 ≤ f k) (h2 : f k ≤ 57) : ∀ j, j < k + 1 → 48 ≤ f j ∧ f j ≤ 57 := by
  intro j hj
  by_cases e : j = k
  · subst e; exact ⟨h1, h2⟩
  · exact h j (by omega)
theorem ret_ib {a b : Int} {x y : Bool} (h : a = b) (h' : x = y) : Ending.returned (.tuple #[.int .i64 a, .bool x]) = .returned (.tuple #[.int .i64 b, .bool y]) := by rw [h, h']

theorem isDigit_y (c : Int) (w : World) (h : 48 ≤ c) (h' : c ≤ 57) : Calls Tryd.prog 71 #[.int .u8 c] w fun e w' => e = .returned (.bool true) ∧ w' = w := by
  go_enter Tryd.func71, Tryd.ntmps71
  go_wp2
  go_ret
  exact ⟨rfl, rfl⟩
theorem isDigit_n (c : Int) (w : World) (h : c < 48 ∨ 57 < c) : Calls Tryd.prog 71 #[.int .u8 c] w fun e w' => e = .returned (.bool false) ∧ w' = w := by
  rcases h with h | h
  · go_enter Tryd.func71, Tryd.ntmps71
    go_wp2
    go_ret
    exact ⟨rfl, rfl⟩
  · have h' : decide (c ≤ 57) = false := by simp; omega
    go_enter Tryd.func71, Tryd.ntmps71
    go_wp2
    go_ret
    exact ⟨rfl, rfl⟩

end Go.Proofs.YtfcdobicilediaaDoor
