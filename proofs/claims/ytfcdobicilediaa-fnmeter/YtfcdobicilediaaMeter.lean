/- Amounts: what is divided and rounded down, on both sides; ShareOf. -/
import Derived.Test.YtfcdobicilediaaTests
import Derived.Test.YtfcdobicilediaaGrw
import Derived.Deep.RegionHeld3
namespace Go.Proofs.Ytfcdobicilediaa
open Go.RowKit Go.PlainAid Go.Sort
set_option linter.unusedVariables false
set_option maxRecDepth 20000

/-- An amount. -/
def okA (x : Int) : Prop := -1000000000 ≤ x ∧ x ≤ 1000000000
instance (x : Int) : Decidable (okA x) := by unfold okA; infer_instance
theorem amountOK_any (x : Int) (w : World) : Calls Try.prog 63 #[.int .i64 x] w fun e w' => e = .returned (.bool (dec (okA x))) ∧ w' = w := by
  by_cases h1 : -1000000000 ≤ x
  · by_cases h2 : x ≤ 1000000000
    · rw [dec_y (p := okA x) ⟨h1, h2⟩]
      go_enter Try.func63, Try.ntmps63
      go_wp2
      go_ret
      exact ⟨rfl, rfl⟩
    · rw [dec_n (p := okA x) (fun h => h2 h.2)]
      have b2 : decide (x ≤ 1000000000) = false := decide_eq_false h2
      go_enter Try.func63, Try.ntmps63
      go_wp2
      go_ret
      exact ⟨rfl, rfl⟩
  · rw [dec_n (p := okA x) (fun h => h1 h.1)]
    have b1 : decide (-1000000000 ≤ x) = false := decide_eq_false h1
    go_enter Try.func63, Try.ntmps63
    go_wp2
    go_ret
    exact ⟨rfl, rfl⟩
theorem mIn_any (n lo hi : Int) (w : World) : Calls Try.prog 51 #[.int .i64 n, .int .i64 lo, .int .i64 hi] w fun e w' => e = .returned (.bool (dec (lo ≤ n ∧ n ≤ hi))) ∧ w' = w := by
  by_cases h1 : lo ≤ n
  · by_cases h2 : n ≤ hi
    · rw [dec_y ⟨h1, h2⟩]
      go_enter Try.func51, Try.ntmps51
      go_wp2
      go_ret
      exact ⟨rfl, rfl⟩
    · rw [dec_n (fun h => h2 h.2)]
      have b2 : decide (n ≤ hi) = false := decide_eq_false h2
      go_enter Try.func51, Try.ntmps51
      go_wp2
      go_ret
      exact ⟨rfl, rfl⟩
  · rw [dec_n (fun h => h1 h.1)]
    have b1 : decide (lo ≤ n) = false := decide_eq_false h1
    go_enter Try.func51, Try.ntmps51
    go_wp2
    go_ret
    exact ⟨rfl, rfl⟩
theorem sValue_any (x : Int) (w : World) : Calls Try.prog 66 #[.int .i64 x] w fun e w' => e = .returned (.bool (dec (okA x))) ∧ w' = w := by
  have H : Hid (∀ w, Calls Try.prog 51 #[.int .i64 x, .int .i64 (-1000000000), .int .i64 1000000000] w fun e w' => e = .returned (.bool (dec (okA x))) ∧ w' = w) := fun w => mIn_any _ _ _ w
  generalize dec (okA x) = q at H ⊢
  go_enter Try.func66, Try.ntmps66
  go_wp2_with fail
  refine (H.out _).mono ?_
  rintro e w1 ⟨rfl, hw⟩
  subst hw
  go_wp2
  go_ret
  exact ⟨rfl, rfl⟩
/-- Divided, rounded down: by b > 0 it is the language's own quotient less one where something is left below 0. -/
theorem tdiv_down (a b : Int) (hb : 0 < b) : a / b = if a < 0 ∧ a.tmod b ≠ 0 then a.tdiv b - 1 else a.tdiv b := by
  have h1 := Int.mul_tdiv_add_tmod a b
  have h2 := Int.mul_ediv_add_emod a b
  have h3 := Int.emod_nonneg a (by omega : b ≠ 0)
  have h4 := Int.emod_lt_of_pos a hb
  by_cases ha : a < 0
  · have h5 : a.tmod b ≤ 0 := by
      have := Int.tmod_nonneg b (a := -a) (by omega)
      rw [Int.neg_tmod] at this
      omega
    have h6 : -b < a.tmod b := by
      have := Int.tmod_lt_of_pos (-a) hb
      rw [Int.neg_tmod] at this
      omega
    by_cases hz : a.tmod b = 0
    · rw [if_neg (fun h => h.2 hz)]
      rw [hz, Int.add_zero] at h1
      rw [← h1, Int.mul_ediv_cancel_left _ (by omega)]
      rw [h1]
    · rw [if_pos ⟨ha, hz⟩]
      have e : b * (a.tdiv b - 1 - a / b) = a % b - a.tmod b - b := by
        rw [Int.mul_sub, Int.mul_sub]
        omega
      have u : b * (a.tdiv b - 1 - a / b) < b * 1 := by omega
      have l : b * (-1) < b * (a.tdiv b - 1 - a / b) := by omega
      have u2 := Int.lt_of_mul_lt_mul_left u (by omega)
      have l2 := Int.lt_of_mul_lt_mul_left l (by omega)
      omega
  · rw [if_neg (fun h => ha h.1), Int.tdiv_eq_ediv_of_nonneg (by omega)]

/-- Rounded down, whatever the divisor's sign. -/
def fl (a b : Int) : Int := if 0 < b then a / b else -a / -b
theorem fl_eq (a b : Int) (hb : b ≠ 0) : fl a b = if a.tmod b ≠ 0 ∧ (decide (a < 0) != decide (b < 0)) = true then a.tdiv b - 1 else a.tdiv b := by
  unfold fl
  by_cases h : 0 < b
  · rw [if_pos h, tdiv_down a b h, decide_eq_false (by omega : ¬ b < 0)]
    by_cases ha : a < 0
    · rw [decide_eq_true ha]
      by_cases hz : a.tmod b = 0 <;> simp [ha, hz]
    · rw [decide_eq_false ha]
      simp [ha]
  · have h' : 0 < -b := by omega
    rw [if_neg h, tdiv_down (-a) (-b) h', decide_eq_true (by omega : b < 0), Int.neg_tdiv, Int.tdiv_neg, Int.neg_neg, Int.neg_tmod, Int.tmod_neg]
    by_cases ha : a < 0
    · rw [decide_eq_true ha, if_neg (by omega)]
      simp
    · rw [decide_eq_false ha]
      by_cases hz : a.tmod b = 0
      · simp [hz]
      · have : a ≠ 0 := fun e => hz (by rw [e]; exact Int.zero_tmod b)
        rw [if_pos ⟨by omega, by omega⟩, if_pos ⟨hz, rfl⟩]
theorem tdiv_le (a b : Int) (N : Nat) (h1 : -(N : Int) ≤ a) (h2 : a ≤ N) : -(N : Int) ≤ a.tdiv b ∧ a.tdiv b ≤ N := by
  have := Int.natAbs_tdiv_le_natAbs a b
  omega
theorem dividedDown_any (a b : Int) (hb : b ≠ 0) (ha1 : -9000000000000000000 ≤ a) (ha2 : a ≤ 9000000000000000000) (w : World) :
    Calls Try.prog 64 #[.int .i64 a, .int .i64 b] w fun e w' => e = .returned (.int .i64 (fl a b)) ∧ w' = w := by
  have e := fl_eq a b hb
  have hq := tdiv_le a b 9000000000000000000 (by omega) (by omega)
  generalize fl a b = r at e ⊢
  have hb1 : (b == 0) = false := by simp [hb]
  have hov : ¬ (a = -9223372036854775808 ∧ b = -1) := by omega
  have E : Hid (r = if a.tmod b ≠ 0 ∧ (decide (a < 0) != decide (b < 0)) = true then a.tdiv b - 1 else a.tdiv b) := e
  clear e
  by_cases hm : a.tmod b = 0
  · have hr : r = a.tdiv b := by rw [E.out, if_neg (fun h => h.1 hm)]
    subst hr
    clear E
    go_enter Try.func64, Try.ntmps64
    go_wp2
    go_ret
    exact ⟨rfl, rfl⟩
  have hmb : (a.tmod b != 0) = true := by simp [hm]
  by_cases hs : (decide (a < 0) != decide (b < 0)) = true
  · have hr : r = a.tdiv b - 1 := by rw [E.out, if_pos ⟨hm, hs⟩]
    subst hr
    have hw : wrap64 (a.tdiv b - 1) = a.tdiv b - 1 := by unfold wrap64; omega
    have hs' : (!decide (a < 0) == decide (b < 0)) = true := hs
    clear E
    go_enter Try.func64, Try.ntmps64
    go_wp2
    all_goals first | (exfalso; simp_all; done) | skip
    go_ret
    exact ⟨rfl, rfl⟩
  · have hr : r = a.tdiv b := by rw [E.out, if_neg (fun h => hs h.2)]
    subst hr
    have hs' : (!decide (a < 0) == decide (b < 0)) = false := by simpa using hs
    clear E
    go_enter Try.func64, Try.ntmps64
    go_wp2
    all_goals first | (exfalso; simp_all; done) | skip
    go_ret
    exact ⟨rfl, rfl⟩
theorem sFloor_any (a b : Int) (hb : 0 < b) (hb2 : b ≤ 9000000000000000000) (ha1 : -9000000000000000000 ≤ a) (ha2 : a ≤ 9000000000000000000) (w : World) :
    Calls Try.prog 67 #[.int .i64 a, .int .i64 b] w fun e w' => e = .returned (.int .i64 (a / b)) ∧ w' = w := by
  have e := tdiv_down a b hb
  have hq := tdiv_le a b 9000000000000000000 (by omega) (by omega)
  have hmul := Int.mul_tdiv_add_tmod a b
  have hmz : a < 0 → a.tmod b ≤ 0 := fun ha => by
    have := Int.tmod_nonneg b (a := -a) (by omega)
    rw [Int.neg_tmod] at this
    omega
  have hmp : 0 ≤ a → 0 ≤ a.tmod b := fun ha => Int.tmod_nonneg b ha
  have hmb : (a.tmod b).natAbs ≤ a.natAbs := by rw [Int.natAbs_tmod]; exact Nat.mod_le _ _
  have hwm : wrap64 (a.tdiv b * b) = a.tdiv b * b := by
    have e1 : a.tdiv b * b = a - a.tmod b := by rw [Int.mul_comm]; omega
    rw [e1]
    unfold wrap64
    omega
  have hne : (a.tdiv b * b = a) ↔ a.tmod b = 0 := by rw [Int.mul_comm]; omega
  have E : Hid (a / b = if a < 0 ∧ a.tmod b ≠ 0 then a.tdiv b - 1 else a.tdiv b) := e
  generalize a / b = r at E ⊢
  clear e hmul hmz hmp hmb
  have hb0 : ¬ (b = 0) := by omega
  have hov : ¬ (a = -9223372036854775808 ∧ b = -1) := by omega
  have hw : wrap64 (a.tdiv b - 1) = a.tdiv b - 1 := by unfold wrap64; omega
  by_cases hm : a.tmod b = 0
  · have hr : r = a.tdiv b := by rw [E.out, if_neg (fun h => h.2 hm)]
    have b1 : (a.tdiv b * b != a) = false := by simp [hne.2 hm]
    subst hr
    clear E hne hm
    go_enter Try.func67, Try.ntmps67
    go_wp2
    go_ret
    exact ⟨rfl, rfl⟩
  have b1 : (a.tdiv b * b != a) = true := by simp; exact fun h => hm (hne.1 h)
  by_cases ha : a < 0
  · have hr : r = a.tdiv b - 1 := by rw [E.out, if_pos ⟨ha, hm⟩]
    subst hr
    clear E hne hm
    go_enter Try.func67, Try.ntmps67
    go_wp2
    go_ret
    exact ⟨rfl, rfl⟩
  · have hr : r = a.tdiv b := by rw [E.out, if_neg (fun h => ha h.1)]
    subst hr
    clear E hne hm
    go_enter Try.func67, Try.ntmps67
    go_wp2
    go_ret
    exact ⟨rfl, rfl⟩
/-- A share in thousandths. -/
def shareV (a b : Int) : Int := if okA a ∧ okA b then (if b = 0 then 1000 else min (max (fl (1000 * a) b) 0) 1000) else 0
def shareC (a b : Int) : Int := if okA a ∧ okA b then 0 else 4
theorem fl_bd (a b : Int) (hb : b ≠ 0) (h1 : -1000000000000 ≤ a) (h2 : a ≤ 1000000000000) : -1000000000001 ≤ fl a b ∧ fl a b ≤ 1000000000001 := by
  have hq := tdiv_le a b 1000000000000 (by omega) (by omega)
  rw [fl_eq a b hb]
  split <;> omega
theorem iShare_any (a b : Int) (w : World) :
    Calls Try.prog 32 #[.int .i64 a, .int .i64 b] w fun e w' => e = .returned (.tuple #[.int .i64 (shareV a b), .int .i64 (shareC a b)]) ∧ w' = w := by
  have H1 : Hid (∀ w, Calls Try.prog 63 #[.int .i64 a] w fun e w' => e = .returned (.bool (dec (okA a))) ∧ w' = w) := fun w => amountOK_any a w
  have H2 : Hid (∀ w, Calls Try.prog 63 #[.int .i64 b] w fun e w' => e = .returned (.bool (dec (okA b))) ∧ w' = w) := fun w => amountOK_any b w
  by_cases ha : okA a
  rotate_left
  · have e1 : shareV a b = 0 := if_neg (fun h => ha h.1)
    have e2 : shareC a b = 4 := if_neg (fun h => ha h.1)
    rw [e1, e2]
    rw [dec_n ha] at H1
    clear e1 e2 ha
    go_enter Try.func32, Try.ntmps32
    go_wp2_with fail
    refine (H1.out _).mono ?_
    rintro e w1 ⟨rfl, hw⟩
    subst hw
    go_wp2
    go_ret2
    exact ⟨rfl, rfl⟩
  rw [dec_y ha] at H1
  by_cases hb : okA b
  rotate_left
  · have e1 : shareV a b = 0 := if_neg (fun h => hb h.2)
    have e2 : shareC a b = 4 := if_neg (fun h => hb h.2)
    rw [e1, e2]
    rw [dec_n hb] at H2
    clear e1 e2 ha hb
    go_enter Try.func32, Try.ntmps32
    go_wp2_with fail
    refine (H1.out _).mono ?_
    rintro e w1 ⟨rfl, hw⟩
    subst hw
    go_wp2_with fail
    refine (H2.out _).mono ?_
    rintro e w1 ⟨rfl, hw⟩
    subst hw
    go_wp2
    go_ret2
    exact ⟨rfl, rfl⟩
  rw [dec_y hb] at H2
  have e1 : shareV a b = if b = 0 then 1000 else min (max (fl (1000 * a) b) 0) 1000 := if_pos ⟨ha, hb⟩
  have e2 : shareC a b = 0 := if_pos ⟨ha, hb⟩
  rw [e1, e2]
  clear e1 e2
  obtain ⟨a1, a2⟩ := ha
  clear hb
  by_cases hz : b = 0
  · subst hz
    rw [if_pos rfl]
    go_enter Try.func32, Try.ntmps32
    go_wp2_with fail
    refine (H1.out _).mono ?_
    rintro e w1 ⟨rfl, hw⟩
    subst hw
    go_wp2_with fail
    refine (H2.out _).mono ?_
    rintro e w1 ⟨rfl, hw⟩
    subst hw
    go_wp2
    go_ret2
    exact ⟨rfl, rfl⟩
  rw [if_neg hz]
  have H3 : Hid (∀ w, Calls Try.prog 64 #[.int .i64 (1000 * a), .int .i64 b] w fun e w' => e = .returned (.int .i64 (fl (1000 * a) b)) ∧ w' = w) := fun w => dividedDown_any _ _ hz (by omega) (by omega) w
  have hbd := fl_bd (1000 * a) b hz (by omega) (by omega)
  generalize fl (1000 * a) b = q at *
  generalize hr : min (max q 0) 1000 = r
  have ER : Hid (r = min (max q 0) 1000) := hr.symm
  clear hr
  have b0 : (b == 0) = false := by simp [hz]
  go_enter Try.func32, Try.ntmps32
  go_wp2_with fail
  refine (H1.out _).mono ?_
  rintro e w1 ⟨rfl, hw⟩
  subst hw
  go_wp2_with fail
  refine (H2.out _).mono ?_
  rintro e w1 ⟨rfl, hw⟩
  subst hw
  go_wp2_with fail
  refine (H3.out _).mono ?_
  rintro e w1 ⟨rfl, hw⟩
  subst hw
  rcases (by omega : q < 0 ∨ (0 ≤ q ∧ q ≤ 1000) ∨ 1000 < q) with hq | hq | hq
  · have em : r = 0 := by rw [ER.out]; omega
    subst em
    clear ER
    go_wp2
    all_goals first | (exfalso; omega) | (go_ret2; exact ⟨congrArg (fun v => Ending.returned (.tuple #[.int .i64 v, .int .i64 0])) (by omega), rfl⟩)
  · have em : r = q := by rw [ER.out]; omega
    subst em
    clear ER
    go_wp2
    all_goals first | (exfalso; omega) | (go_ret2; exact ⟨congrArg (fun v => Ending.returned (.tuple #[.int .i64 v, .int .i64 0])) (by omega), rfl⟩)
  · have em : r = 1000 := by rw [ER.out]; omega
    subst em
    clear ER
    go_wp2
    all_goals first | (exfalso; omega) | (go_ret2; exact ⟨congrArg (fun v => Ending.returned (.tuple #[.int .i64 v, .int .i64 0])) (by omega), rfl⟩)
theorem sShare_any (a b : Int) (w : World) :
    Calls Try.prog 33 #[.int .i64 a, .int .i64 b] w fun e w' => e = .returned (.tuple #[.int .i64 (shareV a b), .int .i64 (shareC a b)]) ∧ w' = w := by
  have H1 : Hid (∀ w, Calls Try.prog 66 #[.int .i64 a] w fun e w' => e = .returned (.bool (dec (okA a))) ∧ w' = w) := fun w => sValue_any a w
  have H2 : Hid (∀ w, Calls Try.prog 66 #[.int .i64 b] w fun e w' => e = .returned (.bool (dec (okA b))) ∧ w' = w) := fun w => sValue_any b w
  by_cases ha : okA a
  rotate_left
  · have e1 : shareV a b = 0 := if_neg (fun h => ha h.1)
    have e2 : shareC a b = 4 := if_neg (fun h => ha h.1)
    rw [e1, e2]
    rw [dec_n ha] at H1
    clear e1 e2 ha
    go_enter Try.func33, Try.ntmps33
    go_wp2_with fail
    refine (H1.out _).mono ?_
    rintro e w1 ⟨rfl, hw⟩
    subst hw
    go_wp2
    go_ret2
    exact ⟨rfl, rfl⟩
  rw [dec_y ha] at H1
  by_cases hb : okA b
  rotate_left
  · have e1 : shareV a b = 0 := if_neg (fun h => hb h.2)
    have e2 : shareC a b = 4 := if_neg (fun h => hb h.2)
    rw [e1, e2]
    rw [dec_n hb] at H2
    clear e1 e2 ha hb
    go_enter Try.func33, Try.ntmps33
    go_wp2_with fail
    refine (H1.out _).mono ?_
    rintro e w1 ⟨rfl, hw⟩
    subst hw
    go_wp2_with fail
    refine (H2.out _).mono ?_
    rintro e w1 ⟨rfl, hw⟩
    subst hw
    go_wp2
    go_ret2
    exact ⟨rfl, rfl⟩
  rw [dec_y hb] at H2
  have e1 : shareV a b = if b = 0 then 1000 else min (max (fl (1000 * a) b) 0) 1000 := if_pos ⟨ha, hb⟩
  have e2 : shareC a b = 0 := if_pos ⟨ha, hb⟩
  rw [e1, e2]
  clear e1 e2
  obtain ⟨a1, a2⟩ := ha
  obtain ⟨a3, a4⟩ := hb
  by_cases hz : b = 0
  · subst hz
    rw [if_pos rfl]
    go_enter Try.func33, Try.ntmps33
    go_wp2_with fail
    refine (H1.out _).mono ?_
    rintro e w1 ⟨rfl, hw⟩
    subst hw
    go_wp2_with fail
    refine (H2.out _).mono ?_
    rintro e w1 ⟨rfl, hw⟩
    subst hw
    go_wp2
    go_ret2
    exact ⟨rfl, rfl⟩
  rw [if_neg hz]
  have hbd := fl_bd (1000 * a) b hz (by omega) (by omega)
  have b0 : (b == 0) = false := by simp [hz]
  by_cases hneg : b < 0
  · have H3 : Hid (∀ w, Calls Try.prog 67 #[.int .i64 (1000 * -a), .int .i64 (-b)] w fun e w' => e = .returned (.int .i64 (fl (1000 * a) b)) ∧ w' = w) := fun w => by
      have := sFloor_any (1000 * -a) (-b) (by omega) (by omega) (by omega) (by omega) w
      have e : fl (1000 * a) b = 1000 * -a / -b := by unfold fl; rw [if_neg (by omega), Int.mul_neg]
      rw [e]
      exact this
    generalize fl (1000 * a) b = q at *
    generalize hr : min (max q 0) 1000 = r
    have ER : Hid (r = min (max q 0) 1000) := hr.symm
    clear hr
    go_enter Try.func33, Try.ntmps33
    go_wp2_with fail
    refine (H1.out _).mono ?_
    rintro e w1 ⟨rfl, hw⟩
    subst hw
    go_wp2_with fail
    refine (H2.out _).mono ?_
    rintro e w1 ⟨rfl, hw⟩
    subst hw
    go_wp2_with fail
    refine (H3.out _).mono ?_
    rintro e w1 ⟨rfl, hw⟩
    subst hw
    rcases (by omega : q < 0 ∨ (0 ≤ q ∧ q ≤ 1000) ∨ 1000 < q) with hq | hq | hq
    · have em : r = 0 := by rw [ER.out]; omega
      subst em
      clear ER
      go_wp2
      all_goals first | (exfalso; omega) | (go_ret2; exact ⟨congrArg (fun v => Ending.returned (.tuple #[.int .i64 v, .int .i64 0])) (by omega), rfl⟩)
    · have em : r = q := by rw [ER.out]; omega
      subst em
      clear ER
      go_wp2
      all_goals first | (exfalso; omega) | (go_ret2; exact ⟨congrArg (fun v => Ending.returned (.tuple #[.int .i64 v, .int .i64 0])) (by omega), rfl⟩)
    · have em : r = 1000 := by rw [ER.out]; omega
      subst em
      clear ER
      go_wp2
      all_goals first | (exfalso; omega) | (go_ret2; exact ⟨congrArg (fun v => Ending.returned (.tuple #[.int .i64 v, .int .i64 0])) (by omega), rfl⟩)
  · have H3 : Hid (∀ w, Calls Try.prog 67 #[.int .i64 (1000 * a), .int .i64 b] w fun e w' => e = .returned (.int .i64 (fl (1000 * a) b)) ∧ w' = w) := fun w => by
      have := sFloor_any (1000 * a) b (by omega) (by omega) (by omega) (by omega) w
      have e : fl (1000 * a) b = 1000 * a / b := by unfold fl; rw [if_pos (by omega)]
      rw [e]
      exact this
    generalize fl (1000 * a) b = q at *
    generalize hr : min (max q 0) 1000 = r
    have ER : Hid (r = min (max q 0) 1000) := hr.symm
    clear hr
    go_enter Try.func33, Try.ntmps33
    go_wp2_with fail
    refine (H1.out _).mono ?_
    rintro e w1 ⟨rfl, hw⟩
    subst hw
    go_wp2_with fail
    refine (H2.out _).mono ?_
    rintro e w1 ⟨rfl, hw⟩
    subst hw
    go_wp2_with fail
    refine (H3.out _).mono ?_
    rintro e w1 ⟨rfl, hw⟩
    subst hw
    rcases (by omega : q < 0 ∨ (0 ≤ q ∧ q ≤ 1000) ∨ 1000 < q) with hq | hq | hq
    · have em : r = 0 := by rw [ER.out]; omega
      subst em
      clear ER
      go_wp2
      all_goals first | (exfalso; omega) | (go_ret2; exact ⟨congrArg (fun v => Ending.returned (.tuple #[.int .i64 v, .int .i64 0])) (by omega), rfl⟩)
    · have em : r = q := by rw [ER.out]; omega
      subst em
      clear ER
      go_wp2
      all_goals first | (exfalso; omega) | (go_ret2; exact ⟨congrArg (fun v => Ending.returned (.tuple #[.int .i64 v, .int .i64 0])) (by omega), rfl⟩)
    · have em : r = 1000 := by rw [ER.out]; omega
      subst em
      clear ER
      go_wp2
      all_goals first | (exfalso; omega) | (go_ret2; exact ⟨congrArg (fun v => Ending.returned (.tuple #[.int .i64 v, .int .i64 0])) (by omega), rfl⟩)
end Go.Proofs.Ytfcdobicilediaa
