/- Nets, plain numbers: what stands behind a net's bits, and what is kept ahead of it. Nothing of the program is imported. -/
import Derived.Test.YtmeejholckelgaaGreatBits
namespace Go.Proofs.YtmeejholckelgaaGreat.Bt
open Go.RowKit
set_option linter.unusedVariables false

theorem behind_nat : ∀ b, b < 33 → 4294967295 / 2 ^ b = 2 ^ (32 - b) - 1 := by decide
theorem behind (b : Nat) (h : b ≤ 32) : (4294967295 : Int) / 2 ^ b = ((2 ^ (32 - b) - 1 : Nat) : Int) := by
  rw [← behind_nat b (by omega)]
  simp
theorem keep_hi (a k : Nat) (ha : a < 4294967296) (hk : k ≤ 32) : bits .andNot .i64 (a : Int) ((2 ^ k - 1 : Nat) : Int) = ((a / 2 ^ k * 2 ^ k : Nat) : Int) := by
  have hp : 2 ^ k ≤ 2 ^ 32 := Nat.pow_le_pow_right (by omega) hk
  have hp0 : 0 < 2 ^ k := Nat.two_pow_pos k
  have hle : a / 2 ^ k * 2 ^ k ≤ a := Nat.div_mul_le_self _ _
  have e : a &&& (2 ^ 64 - (2 ^ k - 1 + 1)) = a / 2 ^ k * 2 ^ k := by
    apply Nat.eq_of_testBit_eq
    intro i
    rw [← Nat.shiftRight_eq_div_pow, ← Nat.shiftLeft_eq, Nat.testBit_and, Nat.testBit_two_pow_sub_succ (by omega), Nat.testBit_shiftLeft, Nat.testBit_shiftRight, Nat.testBit_two_pow_sub_one]
    by_cases h1 : i < k
    · simp [h1]; omega
    · have h2 : k + (i - k) = i := by omega
      rw [h2]
      by_cases h3 : i < 64
      · simp [h1, h3]; omega
      · have : a.testBit i = false := Nat.testBit_lt_two_pow (Nat.lt_of_lt_of_le ha (by rw [show (4294967296 : Nat) = 2 ^ 32 from rfl]; exact Nat.pow_le_pow_right (by omega) (by omega)))
        simp [this]
  show IntKind.i64.wrap ((BitVec.ofInt 64 (a : Int) &&& ~~~BitVec.ofInt 64 ((2 ^ k - 1 : Nat) : Int)).toNat : Int) = _
  rw [BitVec.toNat_and, BitVec.toNat_not, ofInt_i64 a (by omega), ofInt_i64 (2 ^ k - 1) (by omega), IntKind.wrap_i64, show 2 ^ 64 - 1 - (2 ^ k - 1) = 2 ^ 64 - (2 ^ k - 1 + 1) by omega, e]
  omega

/-- The size of a net of b bits. -/
def netM (b : Int) : Int := 2 ^ (32 - b.toNat)
theorem netM_pos (b : Int) : 1 ≤ netM b := Int.pow_pos (by omega)
theorem netM_le (b : Int) : netM b ≤ 4294967296 := by
  unfold netM
  have : (2 : Nat) ^ (32 - b.toNat) ≤ 2 ^ 32 := Nat.pow_le_pow_right (by omega) (by omega)
  have e : ((2 ^ (32 - b.toNat) : Nat) : Int) = (2 : Int) ^ (32 - b.toNat) := by simp
  omega
/-- 'ip &^ (MaxAddress >> bits)'. -/
theorem around (ip : Int) (b : Nat) (h0 : 0 ≤ ip) (h1 : ip ≤ 4294967295) (hb : b ≤ 32) : bits .andNot .i64 ip (4294967295 / 2 ^ b) = ip / netM b * netM b := by
  obtain ⟨a, rfl⟩ := Int.eq_ofNat_of_zero_le h0
  rw [behind b hb, keep_hi a (32 - b) (by omega) (by omega)]
  unfold netM
  simp
/-- 'ip & (1<<(32-bits) - 1)'. -/
theorem within (ip : Int) (b : Nat) (h0 : 0 ≤ ip) (h1 : ip ≤ 4294967295) (hb : b ≤ 32) : bits .and .i64 ip (2 ^ (32 - b) - 1) = ip % netM b := by
  have e : ((2 : Int) ^ (32 - b) - 1) = ((2 ^ (32 - b) - 1 : Nat) : Int) := by
    have := Nat.two_pow_pos (32 - b)
    have e : ((2 ^ (32 - b) : Nat) : Int) = (2 : Int) ^ (32 - b) := by simp
    omega
  rw [e, mask (32 - b) (by omega) ip h0 (by omega)]
  unfold netM
  simp
theorem pow_bd (b : Nat) : 1 ≤ (2 : Int) ^ (32 - b) ∧ (2 : Int) ^ (32 - b) ≤ 4294967296 := by
  have h0 := Nat.two_pow_pos (32 - b)
  have h1 : (2 : Nat) ^ (32 - b) ≤ 2 ^ 32 := Nat.pow_le_pow_right (by omega) (by omega)
  have e : ((2 ^ (32 - b) : Nat) : Int) = (2 : Int) ^ (32 - b) := by simp
  omega
theorem pow_wrap (b : Nat) : wrap64 (2 ^ (32 - b)) = 2 ^ (32 - b) := by
  have := pow_bd b
  generalize (2 : Int) ^ (32 - b) = m at *
  unfold wrap64; omega
theorem pow_wrap1 (b : Nat) : wrap64 (2 ^ (32 - b) - 1) = 2 ^ (32 - b) - 1 := by
  have := pow_bd b
  generalize (2 : Int) ^ (32 - b) = m at *
  unfold wrap64; omega
theorem mul_same (a m : Int) (hm : 1 ≤ m) : (a = a / m * m) ↔ a % m = 0 := by
  have := Int.mul_ediv_add_emod a m
  rw [Int.mul_comm] at this
  omega
theorem mul_has (a x m : Int) (hm : 1 ≤ m) (h : a % m = 0) : (a = x / m * m) ↔ a / m = x / m := by
  have h2 := Int.mul_ediv_add_emod a m
  rw [Int.mul_comm] at h2
  constructor
  · intro e
    have h3 : a / m * m = x / m * m := by omega
    exact Int.eq_of_mul_eq_mul_right (by omega) h3
  · intro e
    rw [← e]; omega
end Go.Proofs.YtmeejholckelgaaGreat.Bt
