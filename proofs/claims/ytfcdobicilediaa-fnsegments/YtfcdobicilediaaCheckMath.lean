/- Plain numbers: with its sum behind it a row of an even length has the sum 0; with one bit turned it has another one. Nothing of the program is imported. -/
import Derived.Test.YtfcdobicilediaaPlain
namespace Go.Proofs.Ytfcdobicilediaa.Pl
open Go.RowKit Go.PlainAid
set_option linter.unusedVariables false

theorem chk_zero_iff (s : Int) (h : 0 ≤ s) : 65535 - foldc s = 0 ↔ 0 < s ∧ s % 65535 = 0 := by
  unfold foldc; split <;> omega

/-- The sum of the whole with its own sum behind it. -/
theorem total_zero (s : Int) (h : 0 ≤ s) : 65535 - foldc (s + (65535 - foldc s)) = 0 := by
  have hb := foldc_bd s h
  rw [chk_zero_iff _ (by omega)]
  unfold foldc
  split <;> omega

theorem wsum_two (F f : Nat → Int) (n : Nat) (a b : Int) (hn : n % 2 = 0) (h : ∀ j, j < n → F j = f j) (ha : F n = a) (hb : F (n + 1) = b) : wsum F (n + 2) = wsum f n + 256 * a + b := by
  rw [wsum_odd F (n + 1) (by omega), wsum_even F n hn, wsum_congr F f n h, ha, hb]

/-- A row with its sum behind it. -/
theorem chk_full (F f : Nat → Int) (n : Nat) (hn : n % 2 = 0) (hf : ∀ k, 0 ≤ f k ∧ f k ≤ 255) (h : ∀ j, j < n → F j = f j) (ha : F n = chk f n / 256 % 256) (hb : F (n + 1) = chk f n % 256) : chk F (n + 2) = 0 := by
  have hc := chk_bd f n hf
  have hs := (wsum_bd f hf n).1
  unfold chk
  rw [wsum_two F f n _ _ hn h ha hb]
  have e : wsum f n + 256 * (chk f n / 256 % 256) + chk f n % 256 = wsum f n + (65535 - foldc (wsum f n)) := by
    have : 256 * (chk f n / 256 % 256) + chk f n % 256 = chk f n := by omega
    unfold chk at this ⊢
    omega
  rw [e]
  exact total_zero _ hs

/-- One place changed. -/
theorem wsum_change (F G : Nat → Int) (k : Nat) (h : ∀ j, j ≠ k → G j = F j) : ∀ n : Nat, wsum G n = wsum F n + (if k < n then (if k % 2 = 0 then 256 * (G k - F k) else G k - F k) else 0)
  | 0 => by simp [wsum]
  | n + 1 => by
    have ih := wsum_change F G k h n
    by_cases e : n = k
    · subst e
      rw [wsum, wsum, ih]
      simp only [Nat.lt_irrefl, if_false, Nat.lt_succ_self, if_true]
      split <;> omega
    · have hk : (k < n + 1) ↔ (k < n) := by omega
      rw [wsum, wsum, ih, h n e]
      simp only [hk]
      exact Int.add_right_comm _ _ _

theorem not_zero (s d : Int) (h0 : 0 ≤ s) (h1 : 65535 - foldc s = 0) (h2 : 0 ≤ s + d) (hd : d ≠ 0) (hd1 : -32768 ≤ d) (hd2 : d ≤ 32768) : 65535 - foldc (s + d) ≠ 0 := by
  rw [chk_zero_iff s h0] at h1
  intro h
  rw [chk_zero_iff _ h2] at h
  omega

theorem bit_turned : ∀ (x : Fin 256) (e : Fin 8), ((x.val ^^^ 2 ^ e.val : Nat) : Int) - (x.val : Int) ≠ 0 ∧ -128 ≤ ((x.val ^^^ 2 ^ e.val : Nat) : Int) - (x.val : Int) ∧ ((x.val ^^^ 2 ^ e.val : Nat) : Int) - (x.val : Int) ≤ 128 ∧ (x.val ^^^ 2 ^ e.val) < 256 := by decide +kernel

/-- One bit turned. -/
theorem chk_turned (F G : Nat → Int) (k n : Nat) (hk : k < n) (hF : ∀ j, 0 ≤ F j ∧ F j ≤ 255) (hG : ∀ j, 0 ≤ G j ∧ G j ≤ 255) (h : ∀ j, j ≠ k → G j = F j) (hz : chk F n = 0) (hd : G k - F k ≠ 0) (h1 : -128 ≤ G k - F k) (h2 : G k - F k ≤ 128) : chk G n ≠ 0 := by
  have hs := (wsum_bd F hF n).1
  have hs' := (wsum_bd G hG n).1
  have hc := wsum_change F G k h n
  rw [if_pos hk] at hc
  unfold chk at hz ⊢
  rw [hc] at hs' ⊢
  refine not_zero _ _ hs hz hs' ?_ ?_ ?_ <;> split <;> omega
end Go.Proofs.Ytfcdobicilediaa.Pl
