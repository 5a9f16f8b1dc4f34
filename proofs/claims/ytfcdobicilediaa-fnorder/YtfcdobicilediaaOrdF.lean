/- Facts of one order of words, for the law of it: turned round it is turned, and turning the signs of both turns it. -/
import Derived.Test.YtfcdobicilediaaSortQ
import Derived.Test.YtfcdobicilediaaWordR
import Derived.Test.YtfcdobicilediaaBits
namespace Go.Proofs.Ytfcdobicilediaa
open Go.Shelf Go.RowKit Go.PlainAid Go.Lib Go.Sort Go.Proofs Go.Proofs.Ytfcdobicilediaa.Fo Go.Proofs.Ytfcdobicilediaa.Bt
set_option linter.unusedVariables false

theorem cmp_turn (x y : Int × Int) : cmpW x y = - cmpW y x := by
  unfold cmpW ord3
  split
  · rw [if_neg (by omega), if_neg (by omega)]
  · split
    · rw [if_neg (by omega), if_pos (by omega)]; rfl
    · rw [if_pos (by omega)]; rfl
theorem cmp_le {x y : Int × Int} (h : kW x ≤ kW y) : cmpW x y ≤ 0 := by
  unfold cmpW ord3
  split
  · decide
  · rw [if_pos (by omega)]; decide
theorem xor_top (h : Int) (h0 : 0 ≤ h) (h1 : h ≤ 4294967295) : bits .xor .i64 h 2147483648 = if 2147483648 ≤ h then h - 2147483648 else h + 2147483648 := by
  obtain ⟨n, rfl⟩ := Int.eq_ofNat_of_zero_le h0
  rw [show (2147483648 : Int) = ((2147483648 : Nat) : Int) by rfl, xor_nat n 2147483648 (by omega) (by decide)]
  have hx : n ^^^ 2147483648 = if 2147483648 ≤ n then n - 2147483648 else n + 2147483648 := by
    have hl : ∀ c, c < 2147483648 → c ^^^ 2147483648 = c + 2147483648 := fun c hc => by
      have : c + 2147483648 = 2 ^ 31 * 1 + c := by omega
      rw [this, Nat.two_pow_add_eq_or_of_lt (by omega)]
      apply Nat.eq_of_testBit_eq
      intro i
      rw [Nat.testBit_xor, Nat.testBit_or, Nat.mul_one, show (2147483648 : Nat) = 2 ^ 31 by rfl, Nat.testBit_two_pow]
      by_cases e : 31 = i
      · subst e
        rw [Nat.testBit_lt_two_pow (by omega)]
        rfl
      · simp [e]
    split
    · rename_i h
      have e3 : n = (n - 2147483648) ^^^ 2147483648 := by rw [hl _ (by omega)]; omega
      conv => lhs; rw [e3]
      rw [Nat.xor_assoc, Nat.xor_self, Nat.xor_zero]
    · exact hl n (by omega)
  rw [hx]
  split
  · rw [if_pos (by omega)]; omega
  · rw [if_neg (by omega)]; omega
theorem neg_ok {h l : Int} (hw : okW h l) : okW (negH h l) (negL h l) ∧ rW (negH h l) (negL h l) = rW h l ∧ mW (negH h l) = !mW h := by
  have e1 : negH h l = bits .xor .i64 h 2147483648 := if_pos hw
  have e2 : negL h l = l := if_pos hw
  unfold okW at hw
  rw [e1, e2, xor_top h hw.1 hw.2.1]
  unfold okW rW mW
  by_cases c : 2147483648 ≤ h
  · rw [if_pos c]
    refine ⟨by omega, by omega, ?_⟩
    rw [decide_eq_true c, decide_eq_false (by omega)]
    rfl
  · rw [if_neg c]
    refine ⟨by omega, by omega, ?_⟩
    rw [decide_eq_false c, decide_eq_true (by omega)]
    rfl
theorem kW_neg {h l : Int} (hw : okW h l) (hn : ¬ topI < rW h l) : kW (negH h l, negL h l) = - kW (h, l) - 1 := by
  obtain ⟨_, e1, e2⟩ := neg_ok hw
  unfold kW kx
  simp only [e1, e2, if_neg hn]
  cases mW h <;> simp <;> omega
/-- A word above one that is a number is a number. -/
theorem num_above {x y : Int × Int} (hx : okW x.1 x.2) (hy : okW y.1 y.2) (h : kW x ≤ kW y) (hn : ¬ topI < rW x.1 x.2) : ¬ topI < rW y.1 y.2 := by
  intro hc
  have hk : kW y = -36893488147419103232 := by unfold kW kx; rw [if_pos hc]
  have h0 := rW_nn hx
  have h1 := rW_lt hx
  have hk2 : -36893488147419103232 < kW x := by unfold kW kx; rw [if_neg hn]; split <;> omega
  omega
theorem class_num {h l : Int} (hw : okW h l) : clW h l = 0 ↔ topI < rW h l := by
  unfold clW clx
  constructor
  · intro h
    split at h
    · assumption
    · split at h
      · split at h <;> omega
      · split at h
        · split at h <;> omega
        · split at h <;> omega
  · intro h
    rw [if_pos h]
/-- Neighbours of a sorted row: what the law of the order asks. -/
theorem near_law {x y : Int × Int} (hx : okW x.1 x.2) (hy : okW y.1 y.2) (h : kW x ≤ kW y) :
    orderC x y ≤ 0 ∧ orderC x y = - orderC y x ∧ badC2 x y = 0 ∧ badC2 y x = 0 ∧ badC x.1 x.2 = 0 ∧ badC y.1 y.2 = 0 ∧ badC2 (negH x.1 x.2, negL x.1 x.2) (negH y.1 y.2, negL y.1 y.2) = 0 ∧
      (classC x.1 x.2 ≠ 0 → orderC (negH x.1 x.2, negL x.1 x.2) (negH y.1 y.2, negL y.1 y.2) = orderC y x) := by
  have n1 := neg_ok hx
  have n2 := neg_ok hy
  have o1 : orderC x y = cmpW x y := if_pos ⟨hx, hy⟩
  have o2 : orderC y x = cmpW y x := if_pos ⟨hy, hx⟩
  have o3 : orderC (negH x.1 x.2, negL x.1 x.2) (negH y.1 y.2, negL y.1 y.2) = cmpW (negH x.1 x.2, negL x.1 x.2) (negH y.1 y.2, negL y.1 y.2) := if_pos ⟨n1.1, n2.1⟩
  rw [o1, o2, o3]
  refine ⟨cmp_le h, cmp_turn x y, if_pos ⟨hx, hy⟩, if_pos ⟨hy, hx⟩, if_pos hx, if_pos hy, if_pos ⟨n1.1, n2.1⟩, fun hc => ?_⟩
  have c1 : classC x.1 x.2 = clW x.1 x.2 := if_pos hx
  rw [c1] at hc
  have hnx : ¬ topI < rW x.1 x.2 := fun hh => hc ((class_num hx).2 hh)
  have hny := num_above hx hy h hnx
  unfold cmpW
  rw [kW_neg hx hnx, kW_neg hy hny]
  show ord3 (-kW x - 1) (-kW y - 1) = ord3 (kW y) (kW x)
  unfold ord3
  split
  · rw [if_pos (by omega)]
  · split
    · rw [if_neg (by omega), if_pos (by omega)]
    · rw [if_neg (by omega), if_neg (by omega)]
end Go.Proofs.Ytfcdobicilediaa
