/- A number's text: the program's readNumber and the model's l00Number answer alike at every text. -/
import Derived.Test.YtimhkeebgogfoaaDoorProg
import Derived.Test.YtimhkeebgogfoaaDoorPlain
import Derived.Test.YtimhkeebgogfoaaDoorShelf
namespace Go.Proofs.YtimhkeebgogfoaaDoor
open Go.RowKit Go.PlainAid
set_option linter.unusedVariables false

/-- The number that the first k digits are. -/
def valD (f : Nat → Int) : Nat → Int
  | 0 => 0
  | k + 1 => valD f k * 10 + (f k - 48)
theorem valD_succ (f : Nat → Int) (k : Nat) : valD f (k + 1) = valD f k * 10 + (f k - 48) := rfl
theorem valD_bd (f : Nat → Int) : ∀ k : Nat, (∀ j, j < k → 48 ≤ f j ∧ f j ≤ 57) → 0 ≤ valD f k ∧ valD f k ≤ 10 ^ k - 1
  | 0, _ => by simp [valD]
  | k + 1, h => by
    have := valD_bd f k (fun j hj => h j (by omega))
    have := h k (by omega)
    have e : (10 : Int) ^ (k + 1) = 10 ^ k * 10 := Int.pow_succ ..
    rw [e]
    unfold valD
    omega
theorem pow_le (k m : Nat) (h : k ≤ m) : (10 : Int) ^ k ≤ 10 ^ m := by
  have := Nat.pow_le_pow_right (n := 10) (by omega) h
  have e1 : ((10 ^ k : Nat) : Int) = (10 : Int) ^ k := by rw [Int.natCast_pow]; rfl
  have e2 : ((10 ^ m : Nat) : Int) = (10 : Int) ^ m := by rw [Int.natCast_pow]; rfl
  rw [← e1, ← e2]; exact Int.ofNat_le.2 this
theorem valD_17 (f : Nat → Int) (k : Nat) (hk : k ≤ 17) (h : ∀ j, j < k → 48 ≤ f j ∧ f j ≤ 57) : 0 ≤ valD f k ∧ valD f k ≤ 99999999999999999 := by
  have h1 := valD_bd f k h
  have h2 := pow_le k 17 hk
  have h3 : (10 : Int) ^ 17 = 100000000000000000 := by decide
  rw [h3] at h2
  omega
theorem valD_18 (f : Nat → Int) (k : Nat) (hk : k ≤ 18) (h : ∀ j, j < k → 48 ≤ f j ∧ f j ≤ 57) : 0 ≤ valD f k ∧ valD f k ≤ 999999999999999999 := by
  have h1 := valD_bd f k h
  have h2 := pow_le k 18 hk
  have h3 : (10 : Int) ^ 18 = 1000000000000000000 := by decide
  rw [h3] at h2
  omega

/-- The digits (with a minus ahead, or none) are a number's text. -/
def numOK (f : Nat → Int) (n : Nat) (neg : Bool) : Bool := decide (1 ≤ n ∧ n ≤ 18 ∧ ¬ (f 0 = 48 ∧ (1 < n ∨ neg = true)) ∧ ∀ j, j < n → 48 ≤ f j ∧ f j ≤ 57)
def numV (f : Nat → Int) (n : Nat) (neg : Bool) : Int := if numOK f n neg then (if neg then -(valD f n) else valD f n) else 0

theorem num_no (f : Nat → Int) (n : Nat) (neg : Bool) (h : ¬ (1 ≤ n ∧ n ≤ 18 ∧ ¬ (f 0 = 48 ∧ (1 < n ∨ neg = true)) ∧ ∀ j, j < n → 48 ≤ f j ∧ f j ≤ 57)) : numOK f n neg = false ∧ numV f n neg = 0 := by
  have e : numOK f n neg = false := decide_eq_false h
  exact ⟨e, by unfold numV; rw [e]; rfl⟩
theorem num_bad (f : Nat → Int) (n : Nat) (neg : Bool) (k : Nat) (hk : k < n) (h : ¬ (48 ≤ f k ∧ f k ≤ 57)) : numOK f n neg = false ∧ numV f n neg = 0 :=
  num_no f n neg fun hh => h (hh.2.2.2 k hk)
theorem num_yes (f : Nat → Int) (n : Nat) (neg : Bool) (h1 : 1 ≤ n) (h2 : n ≤ 18) (h3 : ¬ (f 0 = 48 ∧ (1 < n ∨ neg = true))) (h4 : ∀ j, j < n → 48 ≤ f j ∧ f j ≤ 57) : numOK f n neg = true ∧ numV f n neg = if neg then -(valD f n) else valD f n := by
  have e : numOK f n neg = true := decide_eq_true ⟨h1, h2, h3, h4⟩
  exact ⟨e, by unfold numV; rw [if_pos e]⟩
theorem dig_step {f : Nat → Int} {k : Nat} (h : ∀ j, j < k → 48 ≤ f j ∧ f j ≤ 57) (h1 : 48 ≤ f k) (h2 : f k ≤ 57) : ∀ j, j < k + 1 → 48 ≤ f j ∧ f j ≤ 57 := by
  intro j hj
  by_cases e : j = k
  · subst e; exact ⟨h1, h2⟩
  · exact h j (by omega)
theorem ret_ib {a b : Int} {x y : Bool} (h : a = b) (h' : x = y) : Ending.returned (.tuple #[.int .i64 a, .bool x]) = .returned (.tuple #[.int .i64 b, .bool y]) := by rw [h, h']

theorem isDigit_y (c : Int) (w : World) (h : 48 ≤ c) (h' : c ≤ 57) : Calls Tryd.prog 82 #[.int .u8 c] w fun e w' => e = .returned (.bool true) ∧ w' = w := by
  go_enter Tryd.func82, Tryd.ntmps82
  go_wp2
  go_ret
  exact ⟨rfl, rfl⟩
theorem isDigit_n (c : Int) (w : World) (h : c < 48 ∨ 57 < c) : Calls Tryd.prog 82 #[.int .u8 c] w fun e w' => e = .returned (.bool false) ∧ w' = w := by
  rcases h with h | h
  · go_enter Tryd.func82, Tryd.ntmps82
    go_wp2
    go_ret
    exact ⟨rfl, rfl⟩
  · have h' : decide (c ≤ 57) = false := by simp; omega
    go_enter Tryd.func82, Tryd.ntmps82
    go_wp2
    go_ret
    exact ⟨rfl, rfl⟩

set_option maxHeartbeats 1000000 in
/-- The program's, once the minus is struck. -/
theorem readNumber_core (t D : ByteArray) (neg : Bool) (w : World) (hK : ∀ w : World, Calls Tryd.prog 81 #[.string t, .string ⟨#[45]⟩] w fun e w' => e = .returned (.string D) ∧ w' = w)
    (hsz : t.size = D.size + (if neg then 1 else 0)) (ht : t.size ≤ 1048576) :
    Calls Tryd.prog 45 #[.string t] w fun e w' => e = .returned (.tuple #[.int .i64 (numV (bt D) D.size neg), .bool (numOK (bt D) D.size neg)]) ∧ w' = w := by
  have HK : Hid (∀ w : World, Calls Tryd.prog 81 #[.string t, .string ⟨#[45]⟩] w fun e w' => e = .returned (.string D) ∧ w' = w) := hK
  have HZ : Hid (t.size = D.size + (if neg then 1 else 0)) := hsz
  have hb := get_bt D
  have s1 : D.size ≤ t.size := by rw [hsz]; omega
  have s2 : neg = true → t.size = D.size + 1 := by intro e; rw [hsz, if_pos e]
  have s3 : neg = false → t.size = D.size := by intro e; rw [hsz, if_neg (by simp [e])]; rfl
  have S2 : Hid (neg = true → t.size = D.size + 1) := s2
  have S3 : Hid (neg = false → t.size = D.size) := s3
  clear hK hsz s2 s3
  have d0 := bt_nonneg D 0
  have d1 := bt_le D 0
  by_cases h1 : D.size < 1
  · have HN : Hid (numOK (bt D) D.size neg = false ∧ numV (bt D) D.size neg = 0) := num_no _ _ _ (by omega)
    have b1 : decide ((D.size : Int) < 1) = true := by simp; omega
    go_enter Tryd.func45, Tryd.ntmps45
    go_wp2_with (go_at_call 81; refine (HK.out _).mono ?_; rintro e w' ⟨rfl, hw⟩; subst hw)
    go_ret2
    exact ⟨ret_ib HN.out.2.symm HN.out.1.symm, rfl⟩
  have b1 : decide ((D.size : Int) < 1) = false := by simp; omega
  by_cases h18 : 18 < D.size
  · have HN : Hid (numOK (bt D) D.size neg = false ∧ numV (bt D) D.size neg = 0) := num_no _ _ _ (by omega)
    have b2 : decide (18 < (D.size : Int)) = true := by simp; omega
    go_enter Tryd.func45, Tryd.ntmps45
    go_wp2_with (go_at_call 81; refine (HK.out _).mono ?_; rintro e w' ⟨rfl, hw⟩; subst hw)
    go_ret2
    exact ⟨ret_ib HN.out.2.symm HN.out.1.symm, rfl⟩
  have b2 : decide (18 < (D.size : Int)) = false := by simp; omega
  by_cases h0 : bt D 0 = 48 ∧ 1 < t.size
  · have HN : Hid (numOK (bt D) D.size neg = false ∧ numV (bt D) D.size neg = 0) := num_no _ _ _ (by
      rintro ⟨_, _, hh, _⟩
      refine hh ⟨h0.1, ?_⟩
      cases hn : neg
      · left; have := S3.out hn; omega
      · right; rfl)
    have b3 : (bt D 0 == 48) = true := by simp [h0.1]
    have b4 : 1 < t.size := h0.2
    clear h0
    go_enter Tryd.func45, Tryd.ntmps45
    go_wp2_with (go_at_call 81; refine (HK.out _).mono ?_; rintro e w' ⟨rfl, hw⟩; subst hw)
    go_ret2
    exact ⟨ret_ib HN.out.2.symm HN.out.1.symm, rfl⟩
  have H3 : Hid (¬ (bt D 0 = 48 ∧ (1 < D.size ∨ neg = true))) := by
    rintro ⟨e1, e2⟩
    refine h0 ⟨e1, ?_⟩
    rcases e2 with e2 | e2
    · omega
    · have := S2.out e2; omega
  have go : ∀ (b : Bool), (bt D 0 == 48) = b → (b = true → decide (1 < (t.size : Int)) = false) → Calls Tryd.prog 45 #[.string t] w fun e w' => e = .returned (.tuple #[.int .i64 (numV (bt D) D.size neg), .bool (numOK (bt D) D.size neg)]) ∧ w' = w := by
    intro b hb0 hb1
    clear h0
    cases b
    · clear hb1
      go_enter Tryd.func45, Tryd.ntmps45
      go_wp2_with (go_at_call 81; refine (HK.out _).mono ?_; rintro e w' ⟨rfl, hw⟩; subst hw)
      go_loop [5, 27] (fun x i => ∃ k : Nat, k ≤ D.size ∧ i = .int .i64 k ∧ x = .int .i64 (valD (bt D) k) ∧ ∀ j, j < k → 48 ≤ bt D j ∧ bt D j ≤ 57) (fun _ i => D.size - (intOf i).toNat)
      case atStart => exact ⟨0, Nat.zero_le _, rfl, rfl, fun j hj => absurd hj (by omega)⟩
      case round =>
        obtain ⟨k, hk, rfl, rfl, hall⟩ := hrel
        have HA : Hid (∀ j, j < k → 48 ≤ bt D j ∧ bt D j ≤ 57) := hall
        by_cases hlt : k < D.size
        · have vb := valD_17 (bt D) k (by omega) hall
          clear hall
          have c0 := bt_nonneg D k
          have c1 := bt_le D k
          by_cases hd : 48 ≤ bt D k ∧ bt D k ≤ 57
          · obtain ⟨e1, e2⟩ := hd
            go_wp2_with (go_at_call 82; refine (isDigit_y _ _ e1 e2).mono ?_; rintro e w'' ⟨rfl, hw⟩; subst hw)
            go_round
            case rel => exact ⟨k + 1, by omega, by go_num, congrArg (Value.int .i64) (by rw [valD_succ] <;> omega), dig_step HA.out e1 e2⟩
            case measure => simp [intOf]; omega
          · have hd' : bt D k < 48 ∨ 57 < bt D k := by omega
            have HN : Hid (numOK (bt D) D.size neg = false ∧ numV (bt D) D.size neg = 0) := num_bad _ _ _ k hlt hd
            clear hd
            go_wp2_with (go_at_call 82; refine (isDigit_n _ _ hd').mono ?_; rintro e w'' ⟨rfl, hw⟩; subst hw)
            go_ret2
            exact ⟨ret_ib HN.out.2.symm HN.out.1.symm, rfl⟩
        · obtain rfl : k = D.size := by omega
          have HY : Hid (numOK (bt D) D.size neg = true ∧ numV (bt D) D.size neg = if neg then -(valD (bt D) D.size) else valD (bt D) D.size) := num_yes _ _ _ (by omega) (by omega) H3.out HA.out
          have vb := valD_18 (bt D) D.size (by omega) HA.out
          clear hall
          by_cases hn : neg = true
          · have tt : D.size < t.size := by have := S2.out hn; omega
            have HN : Hid (neg = true) := hn
            clear hn
            go_wp2
            go_ret2
            exact ⟨ret_ib (by rw [HY.out.2, if_pos HN.out]) HY.out.1.symm, rfl⟩
          · have hn' : neg = false := by simpa using hn
            have tt : t.size ≤ D.size := by have := S3.out hn'; omega
            have HN : Hid (neg = false) := hn'
            clear hn hn'
            go_wp2
            go_ret2
            exact ⟨ret_ib (by rw [HY.out.2, HN.out]; rfl) HY.out.1.symm, rfl⟩
    · have hb2 := hb1 rfl
      clear hb1
      go_enter Tryd.func45, Tryd.ntmps45
      go_wp2_with (go_at_call 81; refine (HK.out _).mono ?_; rintro e w' ⟨rfl, hw⟩; subst hw)
      go_loop [5, 27] (fun x i => ∃ k : Nat, k ≤ D.size ∧ i = .int .i64 k ∧ x = .int .i64 (valD (bt D) k) ∧ ∀ j, j < k → 48 ≤ bt D j ∧ bt D j ≤ 57) (fun _ i => D.size - (intOf i).toNat)
      case atStart => exact ⟨0, Nat.zero_le _, rfl, rfl, fun j hj => absurd hj (by omega)⟩
      case round =>
        obtain ⟨k, hk, rfl, rfl, hall⟩ := hrel
        have HA : Hid (∀ j, j < k → 48 ≤ bt D j ∧ bt D j ≤ 57) := hall
        by_cases hlt : k < D.size
        · have vb := valD_17 (bt D) k (by omega) hall
          clear hall
          have c0 := bt_nonneg D k
          have c1 := bt_le D k
          by_cases hd : 48 ≤ bt D k ∧ bt D k ≤ 57
          · obtain ⟨e1, e2⟩ := hd
            go_wp2_with (go_at_call 82; refine (isDigit_y _ _ e1 e2).mono ?_; rintro e w'' ⟨rfl, hw⟩; subst hw)
            go_round
            case rel => exact ⟨k + 1, by omega, by go_num, congrArg (Value.int .i64) (by rw [valD_succ] <;> omega), dig_step HA.out e1 e2⟩
            case measure => simp [intOf]; omega
          · have hd' : bt D k < 48 ∨ 57 < bt D k := by omega
            have HN : Hid (numOK (bt D) D.size neg = false ∧ numV (bt D) D.size neg = 0) := num_bad _ _ _ k hlt hd
            clear hd
            go_wp2_with (go_at_call 82; refine (isDigit_n _ _ hd').mono ?_; rintro e w'' ⟨rfl, hw⟩; subst hw)
            go_ret2
            exact ⟨ret_ib HN.out.2.symm HN.out.1.symm, rfl⟩
        · obtain rfl : k = D.size := by omega
          have HY : Hid (numOK (bt D) D.size neg = true ∧ numV (bt D) D.size neg = if neg then -(valD (bt D) D.size) else valD (bt D) D.size) := num_yes _ _ _ (by omega) (by omega) H3.out HA.out
          have vb := valD_18 (bt D) D.size (by omega) HA.out
          clear hall
          by_cases hn : neg = true
          · have tt : D.size < t.size := by have := S2.out hn; omega
            have HN : Hid (neg = true) := hn
            clear hn
            go_wp2
            go_ret2
            exact ⟨ret_ib (by rw [HY.out.2, if_pos HN.out]) HY.out.1.symm, rfl⟩
          · have hn' : neg = false := by simpa using hn
            have tt : t.size ≤ D.size := by have := S3.out hn'; omega
            have HN : Hid (neg = false) := hn'
            clear hn hn'
            go_wp2
            go_ret2
            exact ⟨ret_ib (by rw [HY.out.2, HN.out]; rfl) HY.out.1.symm, rfl⟩
  cases hb0 : (bt D 0 == 48)
  · exact go false hb0 (by simp)
  · refine go true hb0 (fun _ => ?_)
    have : bt D 0 = 48 := by simpa using hb0
    simp; omega

/-- A text with no minus ahead. -/
theorem l00Number_pos (D : ByteArray) (w : World) (hp : D.size = 0 ∨ bt D 0 ≠ 45) (ht : D.size ≤ 1048576) :
    Calls Tryd.prog 74 #[.string D] w fun e w' => e = .returned (.tuple #[.int .i64 (numV (bt D) D.size false), .bool (numOK (bt D) D.size false)]) ∧ w' = w := by
  obtain ⟨neg, hneg⟩ : ∃ neg, neg = false := ⟨_, rfl⟩
  rw [← hneg]
  have HNEG : Hid (neg = false) := hneg
  clear hneg
  have hb := get_bt D
  have d0 := bt_nonneg D 0
  have d1 := bt_le D 0
  by_cases h1 : D.size < 1
  · have HN : Hid (numOK (bt D) D.size neg = false ∧ numV (bt D) D.size neg = 0) := num_no _ _ _ (by omega)
    have hz : D.size = 0 := by omega
    have b0 : decide (0 < D.size) = false := decide_eq_false (by omega)
    have b1 : ((D.size : Int) == 0) = true := beq_iff_eq.2 (by omega)
    clear hp
    go_enter Tryd.func74, Tryd.ntmps74
    go_wp2
    go_ret2
    exact ⟨ret_ib HN.out.2.symm HN.out.1.symm, rfl⟩
  have b0 : decide (0 < D.size) = true := decide_eq_true (by omega)
  have b0' : 0 < D.size := by omega
  have b45 : (bt D 0 == 45) = false := by rw [beq_eq_false_iff_ne]; rcases hp with hp | hp; · omega
                                          · exact hp
  have b1 : ((D.size : Int) == 0) = false := beq_eq_false_iff_ne.2 (by omega)
  clear hp
  by_cases h18 : 18 < D.size
  · have HN : Hid (numOK (bt D) D.size neg = false ∧ numV (bt D) D.size neg = 0) := num_no _ _ _ (by omega)
    have b2 : decide (18 < (D.size : Int)) = true := by simp; omega
    go_enter Tryd.func74, Tryd.ntmps74
    go_wp2
    go_ret2
    exact ⟨ret_ib HN.out.2.symm HN.out.1.symm, rfl⟩
  have b2 : decide (18 < (D.size : Int)) = false := by simp; omega
  by_cases h0 : bt D 0 = 48 ∧ 1 < D.size
  · have HN : Hid (numOK (bt D) D.size neg = false ∧ numV (bt D) D.size neg = 0) := num_no _ _ _ (by rintro ⟨_, _, hh, _⟩; exact hh ⟨h0.1, .inl h0.2⟩)
    have b3 : (bt D 0 == 48) = true := by simp [h0.1]
    have b4 : decide (1 < (D.size : Int)) = true := by simp; omega
    clear h0
    go_enter Tryd.func74, Tryd.ntmps74
    go_wp2
    go_ret2
    exact ⟨ret_ib HN.out.2.symm HN.out.1.symm, rfl⟩
  have H3 : Hid (¬ (bt D 0 = 48 ∧ (1 < D.size ∨ neg = true))) := by
    rintro ⟨e1, e2⟩
    refine h0 ⟨e1, ?_⟩
    rcases e2 with e2 | e2
    · exact e2
    · rw [HNEG.out] at e2; cases e2
  cases hb0 : (bt D 0 == 48)
  · clear h0
    go_enter Tryd.func74, Tryd.ntmps74
    go_wp2
    go_loop [5, 6] (fun x i => ∃ k : Nat, k ≤ D.size ∧ i = .int .i64 k ∧ x = .int .i64 (valD (bt D) k) ∧ ∀ j, j < k → 48 ≤ bt D j ∧ bt D j ≤ 57) (fun _ i => D.size - (intOf i).toNat)
    case atStart => exact ⟨0, Nat.zero_le _, rfl, rfl, fun j hj => absurd hj (by omega)⟩
    case round =>
      obtain ⟨k, hk, rfl, rfl, hall⟩ := hrel
      have HA : Hid (∀ j, j < k → 48 ≤ bt D j ∧ bt D j ≤ 57) := hall
      by_cases hlt : k < D.size
      · have vb := valD_17 (bt D) k (by omega) hall
        clear hall
        have c0 := bt_nonneg D k
        have c1 := bt_le D k
        by_cases hd : 48 ≤ bt D k ∧ bt D k ≤ 57
        · obtain ⟨e1, e2⟩ := hd
          have f1 : decide (bt D k < 48) = false := by simp; omega
          have f2 : decide (57 < bt D k) = false := by simp; omega
          go_wp2
          go_round
          case rel => exact ⟨k + 1, by omega, by go_num, congrArg (Value.int .i64) (by rw [valD_succ] <;> omega), dig_step HA.out e1 e2⟩
          case measure => simp [intOf]; omega
        · have hd' : bt D k < 48 ∨ 57 < bt D k := by omega
          have HN : Hid (numOK (bt D) D.size neg = false ∧ numV (bt D) D.size neg = 0) := num_bad _ _ _ k hlt hd
          clear hd
          by_cases hq : bt D k < 48
          · have f1 : decide (bt D k < 48) = true := by simp; omega
            go_wp2
            go_ret2
            exact ⟨ret_ib HN.out.2.symm HN.out.1.symm, rfl⟩
          · have f1 : decide (bt D k < 48) = false := by simp; omega
            have f2 : decide (57 < bt D k) = true := by simp; omega
            go_wp2
            go_ret2
            exact ⟨ret_ib HN.out.2.symm HN.out.1.symm, rfl⟩
      · obtain rfl : k = D.size := by omega
        have HY : Hid (numOK (bt D) D.size neg = true ∧ numV (bt D) D.size neg = if neg then -(valD (bt D) D.size) else valD (bt D) D.size) := num_yes _ _ _ (by omega) (by omega) H3.out HA.out
        have vb := valD_18 (bt D) D.size (by omega) HA.out
        clear hall
        go_wp2
        go_ret2
        exact ⟨ret_ib (by rw [HY.out.2, HNEG.out]; simp) HY.out.1.symm, rfl⟩
  · have b4 : decide (1 < (D.size : Int)) = false := by
      have : bt D 0 = 48 := by simpa using hb0
      simp; omega
    clear h0
    go_enter Tryd.func74, Tryd.ntmps74
    go_wp2
    go_loop [5, 6] (fun x i => ∃ k : Nat, k ≤ D.size ∧ i = .int .i64 k ∧ x = .int .i64 (valD (bt D) k) ∧ ∀ j, j < k → 48 ≤ bt D j ∧ bt D j ≤ 57) (fun _ i => D.size - (intOf i).toNat)
    case atStart => exact ⟨0, Nat.zero_le _, rfl, rfl, fun j hj => absurd hj (by omega)⟩
    case round =>
      obtain ⟨k, hk, rfl, rfl, hall⟩ := hrel
      have HA : Hid (∀ j, j < k → 48 ≤ bt D j ∧ bt D j ≤ 57) := hall
      by_cases hlt : k < D.size
      · have vb := valD_17 (bt D) k (by omega) hall
        clear hall
        have c0 := bt_nonneg D k
        have c1 := bt_le D k
        by_cases hd : 48 ≤ bt D k ∧ bt D k ≤ 57
        · obtain ⟨e1, e2⟩ := hd
          have f1 : decide (bt D k < 48) = false := by simp; omega
          have f2 : decide (57 < bt D k) = false := by simp; omega
          go_wp2
          go_round
          case rel => exact ⟨k + 1, by omega, by go_num, congrArg (Value.int .i64) (by rw [valD_succ] <;> omega), dig_step HA.out e1 e2⟩
          case measure => simp [intOf]; omega
        · have hd' : bt D k < 48 ∨ 57 < bt D k := by omega
          have HN : Hid (numOK (bt D) D.size neg = false ∧ numV (bt D) D.size neg = 0) := num_bad _ _ _ k hlt hd
          clear hd
          by_cases hq : bt D k < 48
          · have f1 : decide (bt D k < 48) = true := by simp; omega
            go_wp2
            go_ret2
            exact ⟨ret_ib HN.out.2.symm HN.out.1.symm, rfl⟩
          · have f1 : decide (bt D k < 48) = false := by simp; omega
            have f2 : decide (57 < bt D k) = true := by simp; omega
            go_wp2
            go_ret2
            exact ⟨ret_ib HN.out.2.symm HN.out.1.symm, rfl⟩
      · obtain rfl : k = D.size := by omega
        have HY : Hid (numOK (bt D) D.size neg = true ∧ numV (bt D) D.size neg = if neg then -(valD (bt D) D.size) else valD (bt D) D.size) := num_yes _ _ _ (by omega) (by omega) H3.out HA.out
        have vb := valD_18 (bt D) D.size (by omega) HA.out
        clear hall
        go_wp2
        go_ret2
        exact ⟨ret_ib (by rw [HY.out.2, HNEG.out]; simp) HY.out.1.symm, rfl⟩
/-- A text with a minus ahead. -/
theorem l00Number_neg (t D : ByteArray) (w : World) (hp : 0 < t.size) (h45 : bt t 0 = 45) (hD : t.extract 1 t.size = D) (hts : t.size = D.size + 1) (ht : t.size ≤ 1048576) :
    Calls Tryd.prog 74 #[.string t] w fun e w' => e = .returned (.tuple #[.int .i64 (numV (bt D) D.size true), .bool (numOK (bt D) D.size true)]) ∧ w' = w := by
  obtain ⟨neg, hneg⟩ : ∃ neg, neg = true := ⟨_, rfl⟩
  rw [← hneg]
  have HNEG : Hid (neg = true) := hneg
  clear hneg
  have hb := get_bt D
  have hbt := get_bt t
  have t0 : decide (0 < t.size) = true := decide_eq_true (by omega)
  have t45 : (bt t 0 == 45) = true := by simp [h45]
  have hts1 : D.size + 1 ≤ t.size := by omega
  have hts2 : t.size ≤ D.size + 1 := by omega
  clear h45 hts
  have d0 := bt_nonneg D 0
  have d1 := bt_le D 0
  by_cases h1 : D.size < 1
  · have HN : Hid (numOK (bt D) D.size neg = false ∧ numV (bt D) D.size neg = 0) := num_no _ _ _ (by omega)
    have b1 : ((D.size : Int) == 0) = true := beq_iff_eq.2 (by omega)
    go_enter Tryd.func74, Tryd.ntmps74
    go_wp2
    go_ret2
    exact ⟨ret_ib HN.out.2.symm HN.out.1.symm, rfl⟩
  have b1 : ((D.size : Int) == 0) = false := beq_eq_false_iff_ne.2 (by omega)
  by_cases h18 : 18 < D.size
  · have HN : Hid (numOK (bt D) D.size neg = false ∧ numV (bt D) D.size neg = 0) := num_no _ _ _ (by omega)
    have b2 : decide (18 < (D.size : Int)) = true := by simp; omega
    go_enter Tryd.func74, Tryd.ntmps74
    go_wp2
    go_ret2
    exact ⟨ret_ib HN.out.2.symm HN.out.1.symm, rfl⟩
  have b2 : decide (18 < (D.size : Int)) = false := by simp; omega
  by_cases h0 : bt D 0 = 48
  · have HN : Hid (numOK (bt D) D.size neg = false ∧ numV (bt D) D.size neg = 0) := num_no _ _ _ (by rintro ⟨_, _, hh, _⟩; exact hh ⟨h0, .inr HNEG.out⟩)
    have b3 : (bt D 0 == 48) = true := by simp [h0]
    clear h0
    by_cases h11 : 1 < D.size
    · have b4 : decide (1 < (D.size : Int)) = true := by simp; omega
      go_enter Tryd.func74, Tryd.ntmps74
      go_wp2
      go_ret2
      exact ⟨ret_ib HN.out.2.symm HN.out.1.symm, rfl⟩
    · have b4 : decide (1 < (D.size : Int)) = false := by simp; omega
      go_enter Tryd.func74, Tryd.ntmps74
      go_wp2
      go_ret2
      exact ⟨ret_ib HN.out.2.symm HN.out.1.symm, rfl⟩
  have H3 : Hid (¬ (bt D 0 = 48 ∧ (1 < D.size ∨ neg = true))) := fun hh => h0 hh.1
  have hb0 : (bt D 0 == 48) = false := beq_eq_false_iff_ne.2 h0
  · clear h0
    go_enter Tryd.func74, Tryd.ntmps74
    go_wp2
    go_loop [5, 6] (fun x i => ∃ k : Nat, k ≤ D.size ∧ i = .int .i64 k ∧ x = .int .i64 (valD (bt D) k) ∧ ∀ j, j < k → 48 ≤ bt D j ∧ bt D j ≤ 57) (fun _ i => D.size - (intOf i).toNat)
    case atStart => exact ⟨0, Nat.zero_le _, rfl, rfl, fun j hj => absurd hj (by omega)⟩
    case round =>
      obtain ⟨k, hk, rfl, rfl, hall⟩ := hrel
      have HA : Hid (∀ j, j < k → 48 ≤ bt D j ∧ bt D j ≤ 57) := hall
      by_cases hlt : k < D.size
      · have vb := valD_17 (bt D) k (by omega) hall
        clear hall
        have c0 := bt_nonneg D k
        have c1 := bt_le D k
        by_cases hd : 48 ≤ bt D k ∧ bt D k ≤ 57
        · obtain ⟨e1, e2⟩ := hd
          have f1 : decide (bt D k < 48) = false := by simp; omega
          have f2 : decide (57 < bt D k) = false := by simp; omega
          go_wp2
          go_round
          case rel => exact ⟨k + 1, by omega, by go_num, congrArg (Value.int .i64) (by rw [valD_succ] <;> omega), dig_step HA.out e1 e2⟩
          case measure => simp [intOf]; omega
        · have hd' : bt D k < 48 ∨ 57 < bt D k := by omega
          have HN : Hid (numOK (bt D) D.size neg = false ∧ numV (bt D) D.size neg = 0) := num_bad _ _ _ k hlt hd
          clear hd
          by_cases hq : bt D k < 48
          · have f1 : decide (bt D k < 48) = true := by simp; omega
            go_wp2
            go_ret2
            exact ⟨ret_ib HN.out.2.symm HN.out.1.symm, rfl⟩
          · have f1 : decide (bt D k < 48) = false := by simp; omega
            have f2 : decide (57 < bt D k) = true := by simp; omega
            go_wp2
            go_ret2
            exact ⟨ret_ib HN.out.2.symm HN.out.1.symm, rfl⟩
      · obtain rfl : k = D.size := by omega
        have HY : Hid (numOK (bt D) D.size neg = true ∧ numV (bt D) D.size neg = if neg then -(valD (bt D) D.size) else valD (bt D) D.size) := num_yes _ _ _ (by omega) (by omega) H3.out HA.out
        have vb := valD_18 (bt D) D.size (by omega) HA.out
        clear hall
        go_wp2
        go_ret2
        exact ⟨ret_ib (by rw [HY.out.2, HNEG.out]; simp) HY.out.1.symm, rfl⟩
end Go.Proofs.YtimhkeebgogfoaaDoor
