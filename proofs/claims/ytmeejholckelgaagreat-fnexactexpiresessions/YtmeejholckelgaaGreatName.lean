/- The contracts of NameOK, the program's and the model's, and of what they call: whether a byte is a letter, a digit; whether a text is a name. -/
import Derived.Test.YtmeejholckelgaaGreatProg
import Derived.Test.YtmeejholckelgaaGreatPlain
namespace Go.Proofs.YtmeejholckelgaaGreat
open Go.RowKit Go.PlainAid
set_option linter.unusedVariables false

def letB (c : Int) : Bool := decide ((97 ≤ c ∧ c ≤ 122) ∨ (65 ≤ c ∧ c ≤ 90) ∨ c = 95)
def digB (c : Int) : Bool := decide (48 ≤ c ∧ c ≤ 57)

theorem ret_bool {a b : Bool} (h : a = b) : Ending.returned (.bool a) = .returned (.bool b) := by rw [h]

theorem let_cases (c : Int) : (c < 65 ∧ letB c = false) ∨ (65 ≤ c ∧ c ≤ 90 ∧ letB c = true) ∨ (90 < c ∧ c < 95 ∧ letB c = false) ∨ (c = 95 ∧ letB c = true) ∨ (95 < c ∧ c < 97 ∧ letB c = false) ∨ (97 ≤ c ∧ c ≤ 122 ∧ letB c = true) ∨ (122 < c ∧ letB c = false) := by
  unfold letB; simp; omega
theorem dig_cases (c : Int) : (c < 48 ∧ digB c = false) ∨ (48 ≤ c ∧ c ≤ 57 ∧ digB c = true) ∨ (57 < c ∧ digB c = false) := by
  unfold digB; simp; omega
theorem dig_not_let (c : Int) (h : digB c = true) : letB c = false := by
  unfold digB at h; unfold letB; simp at h ⊢; omega

theorem isDigit_any (c : Int) (w : World) : Calls Tryz.prog 157 #[.int .u8 c] w fun e w' => e = .returned (.bool (digB c)) ∧ w' = w := by
  rcases dig_cases c with ⟨h1, h2⟩ | ⟨h1, h3, h2⟩ | ⟨h1, h2⟩
  all_goals
    have H : Hid (digB c = _) := h2
    clear h2
    go_enter Tryz.func157, Tryz.ntmps157
    go_wp2
    go_ret
    exact ⟨ret_bool (Eq.trans (by first | rfl | (simp; omega)) H.out.symm), rfl⟩
theorem l00Digit_any (c : Int) (w : World) : Calls Tryz.prog 153 #[.int .u8 c] w fun e w' => e = .returned (.bool (digB c)) ∧ w' = w := by
  rcases dig_cases c with ⟨h1, h2⟩ | ⟨h1, h3, h2⟩ | ⟨h1, h2⟩
  all_goals
    have H : Hid (digB c = _) := h2
    clear h2
    go_enter Tryz.func153, Tryz.ntmps153
    go_wp2
    go_ret
    exact ⟨ret_bool (Eq.trans (by first | rfl | (simp; omega)) H.out.symm), rfl⟩
theorem isLetter_any (c : Int) (w : World) : Calls Tryz.prog 158 #[.int .u8 c] w fun e w' => e = .returned (.bool (letB c)) ∧ w' = w := by
  rcases let_cases c with ⟨h1, h2⟩ | ⟨h1, h3, h2⟩ | ⟨h1, h3, h2⟩ | ⟨rfl, h2⟩ | ⟨h1, h3, h2⟩ | ⟨h1, h3, h2⟩ | ⟨h1, h2⟩
  all_goals
    have H : Hid (letB _ = _) := h2
    clear h2
    go_enter Tryz.func158, Tryz.ntmps158
    go_wp2
    go_ret
    exact ⟨ret_bool (Eq.trans (by first | rfl | (simp; omega)) H.out.symm), rfl⟩
theorem l00Letter_any (c : Int) (w : World) : Calls Tryz.prog 152 #[.int .u8 c] w fun e w' => e = .returned (.bool (letB c)) ∧ w' = w := by
  rcases let_cases c with ⟨h1, h2⟩ | ⟨h1, h3, h2⟩ | ⟨h1, h3, h2⟩ | ⟨rfl, h2⟩ | ⟨h1, h3, h2⟩ | ⟨h1, h3, h2⟩ | ⟨h1, h2⟩
  all_goals
    have H : Hid (letB _ = _) := h2
    clear h2
    go_enter Tryz.func152, Tryz.ntmps152
    go_wp2
    go_ret
    exact ⟨ret_bool (Eq.trans (by first | rfl | (simp; omega)) H.out.symm), rfl⟩

/-- A name: 1 to 40 bytes, a letter, then letters and digits. -/
def nameB (f : Nat → Int) (n : Nat) : Bool := decide (1 ≤ n ∧ n ≤ 40 ∧ letB (f 0) = true ∧ ∀ j, j < n → letB (f j) = true ∨ digB (f j) = true)

theorem name_no_len (f : Nat → Int) (n : Nat) (h : n < 1 ∨ 40 < n) : nameB f n = false := by unfold nameB; rw [decide_eq_false_iff_not]; omega
theorem name_no_let (f : Nat → Int) (n : Nat) (h : letB (f 0) = false) : nameB f n = false := by unfold nameB; rw [decide_eq_false_iff_not]; simp [h]
theorem name_no_at (f : Nat → Int) (n k : Nat) (hk : k < n) (h : letB (f k) = false) (h' : digB (f k) = false) : nameB f n = false := by
  unfold nameB; rw [decide_eq_false_iff_not]; rintro ⟨_, _, _, h4⟩; have := h4 k hk; simp [h, h'] at this
theorem name_yes (f : Nat → Int) (n : Nat) (h0 : 1 ≤ n) (h1 : n ≤ 40) (h2 : letB (f 0) = true) (h : ∀ j, j < n → letB (f j) = true ∨ digB (f j) = true) : nameB f n = true := by
  unfold nameB; rw [decide_eq_true_iff]; exact ⟨h0, h1, h2, h⟩

theorem all_step {f : Nat → Int} {k : Nat} (h : ∀ j, j < k → letB (f j) = true ∨ digB (f j) = true) (hk : letB (f k) = true ∨ digB (f k) = true) : ∀ j, j < k + 1 → letB (f j) = true ∨ digB (f j) = true := by
  intro j hj
  by_cases e : j = k
  · subst e; exact hk
  · exact h j (by omega)

set_option maxHeartbeats 400000 in
theorem nameOK_any (s : ByteArray) (w : World) (hs : s.size ≤ 1048576) :
    Calls Tryz.prog 149 #[.string s] w fun e w' => e = .returned (.bool (nameB (bt s) s.size)) ∧ w' = w := by
  have hb := get_bt s
  by_cases h1 : s.size < 1
  · have hz : s.size = 0 := by omega
    go_enter Tryz.func149, Tryz.ntmps149
    go_wp2
    go_ret
    exact ⟨ret_bool (name_no_len _ _ (by omega)).symm, rfl⟩
  by_cases h40 : 40 < s.size
  · go_enter Tryz.func149, Tryz.ntmps149
    go_wp2
    go_ret
    exact ⟨ret_bool (name_no_len _ _ (by omega)).symm, rfl⟩
  by_cases hd : digB (bt s 0) = true
  · go_enter Tryz.func149, Tryz.ntmps149
    go_wp2_with (go_at_call 157; refine (isDigit_any _ _).mono ?_; rintro e w' ⟨rfl, rfl⟩)
    go_ret
    exact ⟨ret_bool (name_no_let _ _ (dig_not_let _ hd)).symm, rfl⟩
  simp only [Bool.not_eq_true] at hd
  have b1 : decide ((s.size : Int) < 1) = false := by simp; omega
  have b2 : decide (40 < (s.size : Int)) = false := by simp; omega
  go_enter Tryz.func149, Tryz.ntmps149
  go_wp2_with (go_at_call 157; refine (isDigit_any _ _).mono ?_; rintro e w' ⟨rfl, rfl⟩)
  go_loop [19] (fun i => ∃ k : Nat, k ≤ s.size ∧ i = .int .i64 k ∧ ∀ j, j < k → letB (bt s j) = true ∨ digB (bt s j) = true) (fun i => s.size - (intOf i).toNat)
  case atStart => exact ⟨0, Nat.zero_le _, rfl, fun j hj => absurd hj (by omega)⟩
  case round =>
    obtain ⟨k, hk, rfl, hall⟩ := hrel
    have HA : Hid (∀ j, j < k → letB (bt s j) = true ∨ digB (bt s j) = true) := hall
    clear hall
    have HD : Hid (digB (bt s 0) = false) := hd
    clear hd
    by_cases hlt : k < s.size
    · cases hl : letB (bt s k)
      · cases hg : digB (bt s k)
        · go_wp2_with (first | (go_at_call 158; refine (isLetter_any _ _).mono ?_; rintro e w' ⟨rfl, rfl⟩) | (go_at_call 157; refine (isDigit_any _ _).mono ?_; rintro e w' ⟨rfl, rfl⟩))
          go_ret
          exact ⟨ret_bool (name_no_at _ _ k hlt hl hg).symm, rfl⟩
        · go_wp2_with (first | (go_at_call 158; refine (isLetter_any _ _).mono ?_; rintro e w' ⟨rfl, rfl⟩) | (go_at_call 157; refine (isDigit_any _ _).mono ?_; rintro e w' ⟨rfl, rfl⟩))
          go_round
          case rel => exact ⟨k + 1, by omega, by go_num, all_step HA.out (.inr hg)⟩
          case measure => simp [intOf]; omega
      · go_wp2_with (first | (go_at_call 158; refine (isLetter_any _ _).mono ?_; rintro e w' ⟨rfl, rfl⟩) | (go_at_call 157; refine (isDigit_any _ _).mono ?_; rintro e w' ⟨rfl, rfl⟩))
        go_round
        case rel => exact ⟨k + 1, by omega, by go_num, all_step HA.out (.inl hl)⟩
        case measure => simp [intOf]; omega
    · obtain rfl : k = s.size := by omega
      go_wp2
      go_ret
      exact ⟨ret_bool (name_yes _ _ (by omega) (by omega) (by have := HA.out 0 (by omega); have := HD.out; simp_all) HA.out).symm, rfl⟩

set_option maxHeartbeats 400000 in
theorem l00Word_any (s : ByteArray) (w : World) (hs : s.size ≤ 1048576) :
    Calls Tryz.prog 146 #[.string s] w fun e w' => e = .returned (.bool (nameB (bt s) s.size)) ∧ w' = w := by
  have hb := get_bt s
  by_cases h1 : s.size < 1
  · have hz : s.size = 0 := by omega
    go_enter Tryz.func146, Tryz.ntmps146
    go_wp2
    go_ret
    exact ⟨ret_bool (name_no_len _ _ (by omega)).symm, rfl⟩
  by_cases h40 : 40 < s.size
  · go_enter Tryz.func146, Tryz.ntmps146
    go_wp2
    go_ret
    exact ⟨ret_bool (name_no_len _ _ (by omega)).symm, rfl⟩
  cases hd : letB (bt s 0)
  · go_enter Tryz.func146, Tryz.ntmps146
    go_wp2_with (go_at_call 152; refine (l00Letter_any _ _).mono ?_; rintro e w' ⟨rfl, rfl⟩)
    go_ret
    exact ⟨ret_bool (name_no_let _ _ hd).symm, rfl⟩
  have b1 : decide ((s.size : Int) < 1) = false := by simp; omega
  have b2 : decide (40 < (s.size : Int)) = false := by simp; omega
  go_enter Tryz.func146, Tryz.ntmps146
  go_wp2_with (go_at_call 152; refine (l00Letter_any _ _).mono ?_; rintro e w' ⟨rfl, rfl⟩)
  go_loop [3] (fun i => ∃ k : Nat, 1 ≤ k ∧ k ≤ s.size ∧ i = .int .i64 k ∧ ∀ j, j < k → letB (bt s j) = true ∨ digB (bt s j) = true) (fun i => s.size - (intOf i).toNat)
  case atStart => exact ⟨1, Nat.le_refl _, by omega, rfl, fun j hj => by obtain rfl : j = 0 := by omega
                                                                         exact .inl hd⟩
  case round =>
    obtain ⟨k, hk1, hk, rfl, hall⟩ := hrel
    have HA : Hid (∀ j, j < k → letB (bt s j) = true ∨ digB (bt s j) = true) := hall
    clear hall
    have HD : Hid (letB (bt s 0) = true) := hd
    clear hd
    by_cases hlt : k < s.size
    · cases hl : letB (bt s k)
      · cases hg : digB (bt s k)
        · go_wp2_with (first | (go_at_call 152; refine (l00Letter_any _ _).mono ?_; rintro e w' ⟨rfl, rfl⟩) | (go_at_call 153; refine (l00Digit_any _ _).mono ?_; rintro e w' ⟨rfl, rfl⟩))
          go_ret
          exact ⟨ret_bool (name_no_at _ _ k hlt hl hg).symm, rfl⟩
        · go_wp2_with (first | (go_at_call 152; refine (l00Letter_any _ _).mono ?_; rintro e w' ⟨rfl, rfl⟩) | (go_at_call 153; refine (l00Digit_any _ _).mono ?_; rintro e w' ⟨rfl, rfl⟩))
          go_round
          case rel => exact ⟨k + 1, by omega, by omega, by go_num, all_step HA.out (.inr hg)⟩
          case measure => simp [intOf]; omega
      · go_wp2_with (first | (go_at_call 152; refine (l00Letter_any _ _).mono ?_; rintro e w' ⟨rfl, rfl⟩) | (go_at_call 153; refine (l00Digit_any _ _).mono ?_; rintro e w' ⟨rfl, rfl⟩))
        go_round
        case rel => exact ⟨k + 1, by omega, by omega, by go_num, all_step HA.out (.inl hl)⟩
        case measure => simp [intOf]; omega
    · obtain rfl : k = s.size := by omega
      go_wp2
      go_ret
      exact ⟨ret_bool (name_yes _ _ (by omega) (by omega) HD.out HA.out).symm, rfl⟩

theorem specNameOK_any (s : ByteArray) (w : World) (hs : s.size ≤ 1048576) :
    Calls Tryz.prog 129 #[.string s] w fun e w' => e = .returned (.bool (nameB (bt s) s.size)) ∧ w' = w := by
  go_enter Tryz.func129, Tryz.ntmps129
  go_wp2_with (go_at_call 146; refine (l00Word_any _ _ hs).mono ?_; rintro e w' ⟨rfl, rfl⟩)
  go_ret
  exact ⟨rfl, rfl⟩

end Go.Proofs.YtmeejholckelgaaGreat
