/- Paths and methods of requests, both sides. -/
import Derived.Test.YtappekglflgodaaDoorEscW
import Derived.Test.YtappekglflgodaaDoorStrS
namespace Go.Proofs.YtappekglflgodaaDoor
open Go.RowKit Go.PlainAid Go.Sort
set_option linter.unusedVariables false
set_option maxRecDepth 20000

/-- A byte of a path; a path. -/
def paB (c : Int) : Bool := letB c || digB c || (c == 47) || (c == 46) || (c == 45) || (c == 63) || (c == 61)
def ptB (s : ByteArray) : Bool := decide (1 ≤ s.size ∧ s.size ≤ 40 ∧ bt s 0 = 47 ∧ ∀ j, j < s.size → paB (bt s j) = true)
theorem pt_no_len {s : ByteArray} (h : s.size < 1 ∨ 40 < s.size) : ptB s = false := by unfold ptB; rw [decide_eq_false_iff_not]; omega
theorem pt_no_first {s : ByteArray} (h : bt s 0 ≠ 47) : ptB s = false := by unfold ptB; rw [decide_eq_false_iff_not]; rintro ⟨_, _, h4, _⟩; exact h h4
theorem pt_no_at {s : ByteArray} {k : Nat} (hk : k < s.size) (h : paB (bt s k) = false) : ptB s = false := by
  unfold ptB; rw [decide_eq_false_iff_not]; rintro ⟨_, _, _, h4⟩; have := h4 k hk; rw [h] at this; cases this
theorem pt_yes {s : ByteArray} (h0 : 1 ≤ s.size) (h1 : s.size ≤ 40) (h2 : bt s 0 = 47) (h : ∀ j, j < s.size → paB (bt s j) = true) : ptB s = true := by
  unfold ptB; rw [decide_eq_true_iff]; exact ⟨h0, h1, h2, h⟩
theorem ptB_len {s : ByteArray} (h : ptB s = true) : s.size ≤ 40 := by unfold ptB at h; rw [decide_eq_true_iff] at h; exact h.2.1
theorem pa_step {s : ByteArray} {k : Nat} (h : ∀ j, j < k → paB (bt s j) = true) (hk : paB (bt s k) = true) : ∀ j, j < k + 1 → paB (bt s j) = true := by
  intro j hj
  by_cases e : j = k
  · subst e; exact hk
  · exact h j (by omega)
theorem wsB_path (c : Int) (h0 : 0 ≤ c) (h1 : c ≤ 255) : wsB [47, 46, 45, 63, 61, 95] c = paB c := by
  have h : ∀ n : Fin 256, wsB [47, 46, 45, 63, 61, 95] (n.val : Int) = paB (n.val : Int) := by decide +kernel
  obtain ⟨n, rfl⟩ := Int.eq_ofNat_of_zero_le h0
  exact h ⟨n, by omega⟩
def meB (s : ByteArray) : Bool := (s.toList == [71, 69, 84]) || (s.toList == [80, 79, 83, 84])
theorem ba_size (s : ByteArray) : s.toList.length = s.size := by simp [ByteArray.toList_eq]
theorem meB_len {s : ByteArray} (h : meB s = true) : s.size ≤ 4 := by
  unfold meB at h
  rw [← ba_size]
  rcases Bool.or_eq_true_iff.1 h with h | h
  · rw [beq_iff_eq] at h; rw [h]; decide
  · rw [beq_iff_eq] at h; rw [h]; decide

set_option maxHeartbeats 1000000 in
theorem pathOK_any (s : ByteArray) (w : World) (hs : s.size ≤ 9223372036854775807) :
    Calls Tryd.prog 43 #[.string s] w fun e w' => e = .returned (.bool (ptB s)) ∧ w' = w := by
  have hb := get_bt s
  by_cases h1 : s.size < 1
  · have hz : s.size = 0 := by omega
    have b1 : decide ((s.size : Int) < 1) = true := decide_eq_true (by omega)
    clear hz
    go_enter Tryd.func43, Tryd.ntmps43
    go_wp2
    go_ret
    exact ⟨ret_bool (pt_no_len (by omega)).symm, rfl⟩
  have b1 : decide ((s.size : Int) < 1) = false := decide_eq_false (by omega)
  by_cases h40 : 40 < s.size
  · have b2 : decide ((40 : Int) < (s.size : Int)) = true := decide_eq_true (by omega)
    go_enter Tryd.func43, Tryd.ntmps43
    go_wp2
    go_ret
    exact ⟨ret_bool (pt_no_len (by omega)).symm, rfl⟩
  have b2 : decide ((40 : Int) < (s.size : Int)) = false := decide_eq_false (by omega)
  have hp : (0 : Int) < (s.size : Int) := by omega
  by_cases h47 : bt s 0 = 47
  rotate_left
  · have b3 : (bt s 0 != 47) = true := by simp [h47]
    have H47 : Hid (bt s 0 ≠ 47) := h47
    clear h47
    go_enter Tryd.func43, Tryd.ntmps43
    go_wp2
    go_ret
    exact ⟨ret_bool (pt_no_first H47.out).symm, rfl⟩
  have b3 : (bt s 0 != 47) = false := by simp [h47]
  have H47 : Hid (bt s 0 = 47) := h47
  clear h47
  go_enter Tryd.func43, Tryd.ntmps43
  go_wp2
  go_loop [19] (fun i => ∃ k : Nat, k ≤ s.size ∧ i = .int .i64 k ∧ ∀ j, j < k → paB (bt s j) = true) (fun i => s.size - (intOf i).toNat)
  case atStart => exact ⟨0, Nat.zero_le _, rfl, fun j hj => absurd hj (by omega)⟩
  case round =>
    obtain ⟨k, hk, rfl, hall⟩ := hrel
    have HA : Hid (∀ j, j < k → paB (bt s j) = true) := hall
    clear hall b1 b2 b3
    have h0 := bt_nonneg s k
    have h255 := bt_le s k
    by_cases hlt : k < s.size
    · have T1 : Hid (∀ w, Calls Tryd.prog 63 #[.int .u8 (bt s k), .string ⟨#[47, 46, 45, 63, 61, 95]⟩] w fun e w' => e = .returned (.bool (paB (bt s k))) ∧ w' = w) := by
        intro w
        rw [← wsB_path _ h0 h255]
        exact isWordSign_any _ _ w h0 h255
      have hltz : (k : Int) < (s.size : Int) := by omega
      cases hp' : paB (bt s k)
      · have HP : Hid (paB (bt s k) = false) := hp'
        rw [hp'] at T1
        clear hp'
        go_wp2_with fail
        refine (T1.out _).mono ?_
        rintro e w1 ⟨rfl, hw⟩
        subst hw
        go_wp2
        go_ret
        exact ⟨ret_bool (pt_no_at hlt HP.out).symm, rfl⟩
      · have HP : Hid (paB (bt s k) = true) := hp'
        rw [hp'] at T1
        clear hp'
        go_wp2_with fail
        refine (T1.out _).mono ?_
        rintro e w1 ⟨rfl, hw⟩
        subst hw
        go_wp2
        go_round
        case rel => exact ⟨k + 1, by omega, by go_num, pa_step HA.out HP.out⟩
        case measure => simp [intOf]; omega
    · obtain rfl : k = s.size := by omega
      go_wp2
      go_ret
      exact ⟨ret_bool (pt_yes (by omega) (by omega) H47.out HA.out).symm, rfl⟩

set_option maxHeartbeats 2000000 in
theorem l11Path_any (s : ByteArray) (w : World) (hs : s.size ≤ 9223372036854775807) :
    Calls Tryd.prog 47 #[.string s] w fun e w' => e = .returned (.bool (ptB s)) ∧ w' = w := by
  have hb := get_bt s
  by_cases h1 : s.size < 1
  · have hz : s.size = 0 := by omega
    have b1 : decide ((s.size : Int) < 1) = true := decide_eq_true (by omega)
    clear hz
    go_enter Tryd.func47, Tryd.ntmps47
    go_wp2
    go_ret
    exact ⟨ret_bool (pt_no_len (by omega)).symm, rfl⟩
  have b1 : decide ((s.size : Int) < 1) = false := decide_eq_false (by omega)
  by_cases h40 : 40 < s.size
  · have b2 : decide ((40 : Int) < (s.size : Int)) = true := decide_eq_true (by omega)
    go_enter Tryd.func47, Tryd.ntmps47
    go_wp2
    go_ret
    exact ⟨ret_bool (pt_no_len (by omega)).symm, rfl⟩
  have b2 : decide ((40 : Int) < (s.size : Int)) = false := decide_eq_false (by omega)
  have hp : (0 : Int) < (s.size : Int) := by omega
  by_cases h47 : bt s 0 = 47
  rotate_left
  · have b3 : (bt s 0 != 47) = true := by simp [h47]
    have H47 : Hid (bt s 0 ≠ 47) := h47
    clear h47
    go_enter Tryd.func47, Tryd.ntmps47
    go_wp2
    go_ret
    exact ⟨ret_bool (pt_no_first H47.out).symm, rfl⟩
  have b3 : (bt s 0 != 47) = false := by simp [h47]
  have H47 : Hid (bt s 0 = 47) := h47
  clear h47
  go_enter Tryd.func47, Tryd.ntmps47
  go_wp2
  go_loop [3] (fun i => ∃ k : Nat, k ≤ s.size ∧ i = .int .i64 k ∧ ∀ j, j < k → paB (bt s j) = true) (fun i => s.size - (intOf i).toNat)
  case atStart => exact ⟨0, Nat.zero_le _, rfl, fun j hj => absurd hj (by omega)⟩
  case round =>
    obtain ⟨k, hk, rfl, hall⟩ := hrel
    have HA : Hid (∀ j, j < k → paB (bt s j) = true) := hall
    clear hall b1 b2 b3
    have h0 := bt_nonneg s k
    have h255 := bt_le s k
    by_cases hlt : k < s.size
    · have hltz : (k : Int) < (s.size : Int) := by omega
      have T1 : Hid (∀ w, Calls Tryd.prog 67 #[.int .u8 (bt s k)] w fun e w' => e = .returned (.bool (letB (bt s k))) ∧ w' = w) := fun w => l00Letter_any _ w
      have T2 : Hid (∀ w, Calls Tryd.prog 68 #[.int .u8 (bt s k)] w fun e w' => e = .returned (.bool (digB (bt s k))) ∧ w' = w) := fun w => l00Digit_any _ w
      have h95 : letB (bt s k) = false → (bt s k != 95) = true := by
        intro h
        rw [bne_iff_ne]
        intro e
        rw [e] at h
        exact absurd h (by decide)
      have EP : paB (bt s k) = (letB (bt s k) || digB (bt s k) || (bt s k == 47) || (bt s k == 46) || (bt s k == 45) || (bt s k == 63) || (bt s k == 61)) := rfl
      cases hl : letB (bt s k)
      · have g95 := h95 hl
        rw [hl] at T1
        clear h95
        cases hd : digB (bt s k)
        · rw [hd] at T2
          by_cases e47 : bt s k = 47
          · have n47 : (bt s k != 47) = false := by simp [e47]
            have HP : Hid (paB (bt s k) = true) := by show _ = _; rw [e47]; decide
            clear EP e47 hl hd
            go_wp2_with (first | (go_at_call 67; refine (T1.out _).mono ?_; rintro e w' ⟨rfl, rfl⟩) | (go_at_call 68; refine (T2.out _).mono ?_; rintro e w' ⟨rfl, rfl⟩))
            go_round
            case rel => exact ⟨k + 1, by omega, by go_num, pa_step HA.out HP.out⟩
            case measure => simp [intOf]; omega
          have n47 : (bt s k != 47) = true := by simp [e47]
          by_cases e46 : bt s k = 46
          · have n46 : (bt s k != 46) = false := by simp [e46]
            have HP : Hid (paB (bt s k) = true) := by show _ = _; rw [e46]; decide
            clear EP e46 hl hd e47
            go_wp2_with (first | (go_at_call 67; refine (T1.out _).mono ?_; rintro e w' ⟨rfl, rfl⟩) | (go_at_call 68; refine (T2.out _).mono ?_; rintro e w' ⟨rfl, rfl⟩))
            go_round
            case rel => exact ⟨k + 1, by omega, by go_num, pa_step HA.out HP.out⟩
            case measure => simp [intOf]; omega
          have n46 : (bt s k != 46) = true := by simp [e46]
          by_cases e45 : bt s k = 45
          · have n45 : (bt s k != 45) = false := by simp [e45]
            have HP : Hid (paB (bt s k) = true) := by show _ = _; rw [e45]; decide
            clear EP e45 hl hd e47 e46
            go_wp2_with (first | (go_at_call 67; refine (T1.out _).mono ?_; rintro e w' ⟨rfl, rfl⟩) | (go_at_call 68; refine (T2.out _).mono ?_; rintro e w' ⟨rfl, rfl⟩))
            go_round
            case rel => exact ⟨k + 1, by omega, by go_num, pa_step HA.out HP.out⟩
            case measure => simp [intOf]; omega
          have n45 : (bt s k != 45) = true := by simp [e45]
          by_cases e63 : bt s k = 63
          · have n63 : (bt s k != 63) = false := by simp [e63]
            have HP : Hid (paB (bt s k) = true) := by show _ = _; rw [e63]; decide
            clear EP e63 hl hd e47 e46 e45
            go_wp2_with (first | (go_at_call 67; refine (T1.out _).mono ?_; rintro e w' ⟨rfl, rfl⟩) | (go_at_call 68; refine (T2.out _).mono ?_; rintro e w' ⟨rfl, rfl⟩))
            go_round
            case rel => exact ⟨k + 1, by omega, by go_num, pa_step HA.out HP.out⟩
            case measure => simp [intOf]; omega
          have n63 : (bt s k != 63) = true := by simp [e63]
          by_cases e61 : bt s k = 61
          · have n61 : (bt s k != 61) = false := by simp [e61]
            have HP : Hid (paB (bt s k) = true) := by show _ = _; rw [e61]; decide
            clear EP e61 hl hd e47 e46 e45 e63
            go_wp2_with (first | (go_at_call 67; refine (T1.out _).mono ?_; rintro e w' ⟨rfl, rfl⟩) | (go_at_call 68; refine (T2.out _).mono ?_; rintro e w' ⟨rfl, rfl⟩))
            go_round
            case rel => exact ⟨k + 1, by omega, by go_num, pa_step HA.out HP.out⟩
            case measure => simp [intOf]; omega
          have n61 : (bt s k != 61) = true := by simp [e61]
          have HP : Hid (paB (bt s k) = false) := by show _ = _; rw [EP, hl, hd]; simp [e47, e46, e45, e63, e61]
          clear EP hl hd e47 e46 e45 e63 e61
          go_wp2_with (first | (go_at_call 67; refine (T1.out _).mono ?_; rintro e w' ⟨rfl, rfl⟩) | (go_at_call 68; refine (T2.out _).mono ?_; rintro e w' ⟨rfl, rfl⟩))
          go_ret
          exact ⟨ret_bool (pt_no_at hlt HP.out).symm, rfl⟩
        · have HP : Hid (paB (bt s k) = true) := by show _ = _; rw [EP, hl, hd]; rfl
          rw [hd] at T2
          clear EP hl hd
          go_wp2_with (first | (go_at_call 67; refine (T1.out _).mono ?_; rintro e w' ⟨rfl, rfl⟩) | (go_at_call 68; refine (T2.out _).mono ?_; rintro e w' ⟨rfl, rfl⟩))
          go_round
          case rel => exact ⟨k + 1, by omega, by go_num, pa_step HA.out HP.out⟩
          case measure => simp [intOf]; omega
      · have HP : Hid (paB (bt s k) = true) := by show _ = _; rw [EP, hl]; rfl
        rw [hl] at T1
        clear EP hl h95
        go_wp2_with (first | (go_at_call 67; refine (T1.out _).mono ?_; rintro e w' ⟨rfl, rfl⟩) | (go_at_call 68; refine (T2.out _).mono ?_; rintro e w' ⟨rfl, rfl⟩))
        go_round
        case rel => exact ⟨k + 1, by omega, by go_num, pa_step HA.out HP.out⟩
        case measure => simp [intOf]; omega
    · obtain rfl : k = s.size := by omega
      go_wp2
      go_ret
      exact ⟨ret_bool (pt_yes (by omega) (by omega) H47.out HA.out).symm, rfl⟩

theorem methodOK_any (s : ByteArray) (w : World) : Calls Tryd.prog 122 #[.string s] w fun e w' => e = .returned (.bool (meB s)) ∧ w' = w := by
  unfold meB
  generalize h1 : (s.toList == [71, 69, 84]) = d1
  cases d1 with
  | true =>
    go_enter Tryd.func122, Tryd.ntmps122
    go_wp2
    go_ret
    exact ⟨rfl, rfl⟩
  | false =>
    generalize h2 : (s.toList == [80, 79, 83, 84]) = d2
    go_enter Tryd.func122, Tryd.ntmps122
    go_wp2
    go_ret
    exact ⟨rfl, rfl⟩

theorem l11Method_any (s : ByteArray) (w : World) : Calls Tryd.prog 89 #[.string s] w fun e w' => e = .returned (.bool (meB s)) ∧ w' = w := by
  unfold meB
  generalize h1 : (s.toList == [71, 69, 84]) = d1
  cases d1 with
  | true =>
    go_enter Tryd.func89, Tryd.ntmps89
    go_wp2
    go_ret
    exact ⟨rfl, rfl⟩
  | false =>
    generalize h2 : (s.toList == [80, 79, 83, 84]) = d2
    go_enter Tryd.func89, Tryd.ntmps89
    go_wp2
    go_ret
    exact ⟨rfl, rfl⟩
end Go.Proofs.YtappekglflgodaaDoor
