/- Plain numbers: the words' sum of a row of bytes, and its folding into sixteen bits, as closed forms; nothing of the program is imported. -/
import Derived.WalkKit
import Derived.WalkSpells
import Derived.PlainAid
namespace Go.Proofs.YtmeejholckelgaaGreat.Pl
open Go.RowKit Go.PlainAid
set_option linter.unusedVariables false

/-- The sum of the first k words' halves: an even place counts 256 times. -/
def wsum (f : Nat → Int) : Nat → Int
  | 0 => 0
  | k + 1 => wsum f k + (if k % 2 = 0 then 256 * f k else f k)

/-- What folding comes to. -/
def foldc (n : Int) : Int := if n = 0 then 0 else (n - 1) % 65535 + 1

theorem wsum_bd (f : Nat → Int) (h : ∀ k, 0 ≤ f k ∧ f k ≤ 255) : ∀ k : Nat, 0 ≤ wsum f k ∧ wsum f k ≤ 65280 * k
  | 0 => by simp [wsum]
  | k + 1 => by
    have := wsum_bd f h k
    have := h k
    unfold wsum
    split <;> omega

theorem wsum_even (f : Nat → Int) (k : Nat) (h : k % 2 = 0) : wsum f (k + 1) = wsum f k + 256 * f k := by
  rw [wsum, if_pos h]
theorem wsum_odd (f : Nat → Int) (k : Nat) (h : k % 2 = 1) : wsum f (k + 1) = wsum f k + f k := by
  rw [wsum, if_neg (by omega)]
theorem wsum_congr (f g : Nat → Int) : ∀ k : Nat, (∀ j, j < k → f j = g j) → wsum f k = wsum g k
  | 0, _ => rfl
  | k + 1, h => by
    rw [wsum, wsum, wsum_congr f g k (fun j hj => h j (by omega)), h k (by omega)]

theorem foldc_small (n : Int) (h0 : 0 ≤ n) (h : n ≤ 65535) : foldc n = n := by unfold foldc; split <;> omega
theorem foldc_step (n : Int) (h : 65535 < n) : foldc (n % 65536 + n / 65536) = foldc n := by unfold foldc; split <;> split <;> omega
theorem step_lt (n : Int) (h : 65535 < n) : 0 ≤ n % 65536 + n / 65536 ∧ n % 65536 + n / 65536 < n := by omega
theorem foldc_bd (n : Int) (h : 0 ≤ n) : 0 ≤ foldc n ∧ foldc n ≤ 65535 := by unfold foldc; split <;> omega

/-- The sum of a row of bytes. -/
def chk (f : Nat → Int) (n : Nat) : Int := 65535 - foldc (wsum f n)
theorem chk_bd (f : Nat → Int) (n : Nat) (h : ∀ k, 0 ≤ f k ∧ f k ≤ 255) : 0 ≤ chk f n ∧ chk f n ≤ 65535 := by
  have := foldc_bd (wsum f n) (wsum_bd f h n).1
  unfold chk; omega
theorem chk_congr (f g : Nat → Int) (n : Nat) (h : ∀ j, j < n → f j = g j) : chk f n = chk g n := by
  unfold chk; rw [wsum_congr f g n h]
end Go.Proofs.YtmeejholckelgaaGreat.Pl
