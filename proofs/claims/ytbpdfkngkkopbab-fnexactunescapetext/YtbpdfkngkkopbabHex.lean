/- What a hexadecimal digit stands for: the program's hexValue and the model's l01Half answer alike. -/
import Derived.Test.YtbpdfkngkkopbabProg
import Derived.Test.YtbpdfkngkkopbabPlain
import Derived.Test.YtbpdfkngkkopbabIdxB
namespace Go.Proofs.Ytbpdfkngkkopbab
open Go.RowKit Go.PlainAid
set_option linter.unusedVariables false
set_option maxRecDepth 20000

/-- 0 to 15, or -1. -/
def half (c : Int) : Int := if 48 ≤ c ∧ c ≤ 57 then c - 48 else if 97 ≤ c ∧ c ≤ 102 then c - 87 else -1

theorem half_all : ∀ n : Fin 256, Lib.indexByte [48, 49, 50, 51, 52, 53, 54, 55, 56, 57, 97, 98, 99, 100, 101, 102] n.val.toUInt8 = half (n.val : Int) := by decide +kernel
theorem half_is (c : Int) (h0 : 0 ≤ c) (h1 : c ≤ 255) : Lib.indexByte [48, 49, 50, 51, 52, 53, 54, 55, 56, 57, 97, 98, 99, 100, 101, 102] c.toNat.toUInt8 = half c := by
  obtain ⟨n, rfl⟩ := Int.eq_ofNat_of_zero_le h0
  exact half_all ⟨n, by omega⟩
theorem half_bd (c : Int) : -1 ≤ half c ∧ half c ≤ 15 := by unfold half; split <;> (try split) <;> omega

theorem hexValue_any (c : Int) (w : World) (h0 : 0 ≤ c) (h1 : c ≤ 255) :
    Calls Try.prog 31 #[.int .u8 c] w fun e w' => e = .returned (.int .i64 (half c)) ∧ w' = w := by
  have H : Hid (Lib.indexByte [48, 49, 50, 51, 52, 53, 54, 55, 56, 57, 97, 98, 99, 100, 101, 102] c.toNat.toUInt8 = half c) := half_is c h0 h1
  go_enter Try.func31, Try.ntmps31
  go_wp2_with (first | (go_at_call 30; refine (Try.strings_IndexByte _ _ _).mono ?_; rintro e w' ⟨rfl, rfl⟩) | (go_at_call 30; refine (idxB_any _ _ _).mono ?_; rintro e w' ⟨rfl, rfl⟩))
  (try go_wp2)
  go_ret
  exact ⟨by rw [← H.out]; rfl, rfl⟩

theorem digB_half (c : Int) (h : 48 ≤ c) (h' : c ≤ 57) : half c = c - 48 := by unfold half; rw [if_pos ⟨h, h'⟩]
theorem low_half (c : Int) (h : 97 ≤ c) (h' : c ≤ 102) : half c = c - 97 + 10 := by unfold half; rw [if_neg (by omega), if_pos ⟨h, h'⟩]; omega
theorem no_half (c : Int) (h : ¬ (48 ≤ c ∧ c ≤ 57)) (h' : ¬ (97 ≤ c ∧ c ≤ 102)) : half c = -1 := by unfold half; rw [if_neg h, if_neg h']

theorem l00Digit_yes (c : Int) (w : World) (h : 48 ≤ c) (h' : c ≤ 57) : Calls Try.prog 23 #[.int .u8 c] w fun e w' => e = .returned (.bool true) ∧ w' = w := by
  go_enter Try.func23, Try.ntmps23
  go_wp2
  go_ret
  exact ⟨rfl, rfl⟩
theorem l00Digit_no (c : Int) (w : World) (h : c < 48 ∨ 57 < c) : Calls Try.prog 23 #[.int .u8 c] w fun e w' => e = .returned (.bool false) ∧ w' = w := by
  rcases h with h | h
  · go_enter Try.func23, Try.ntmps23
    go_wp2
    go_ret
    exact ⟨rfl, rfl⟩
  · have h' : decide (c ≤ 57) = false := by simp; omega
    go_enter Try.func23, Try.ntmps23
    go_wp2
    go_ret
    exact ⟨rfl, rfl⟩

theorem ret_i {k : IntKind} {a b : Int} (h : a = b) : Ending.returned (.int k a) = .returned (.int k b) := by rw [h]

theorem l01Half_any (c : Int) (w : World) (h0 : 0 ≤ c) (h1 : c ≤ 255) :
    Calls Try.prog 18 #[.int .u8 c] w fun e w' => e = .returned (.int .i64 (half c)) ∧ w' = w := by
  by_cases hd : 48 ≤ c ∧ c ≤ 57
  · obtain ⟨d1, d2⟩ := hd
    have H : Hid (half c = c - 48) := digB_half c d1 d2
    go_enter Try.func18, Try.ntmps18
    go_wp2_with (go_at_call 23; refine (l00Digit_yes _ _ d1 d2).mono ?_; rintro e w' ⟨rfl, rfl⟩)
    go_ret
    exact ⟨ret_i H.out.symm, rfl⟩
  have hd' : c < 48 ∨ 57 < c := by omega
  by_cases ha : 97 ≤ c
  · by_cases hf : c ≤ 102
    · have H : Hid (half c = c - 97 + 10) := low_half c ha hf
      clear hd
      go_enter Try.func18, Try.ntmps18
      go_wp2_with (go_at_call 23; refine (l00Digit_no _ _ (by omega)).mono ?_; rintro e w' ⟨rfl, rfl⟩)
      go_ret
      exact ⟨ret_i H.out.symm, rfl⟩
    · have H : Hid (half c = -1) := no_half c hd (by omega)
      clear hd
      go_enter Try.func18, Try.ntmps18
      go_wp2_with (go_at_call 23; refine (l00Digit_no _ _ (by omega)).mono ?_; rintro e w' ⟨rfl, rfl⟩)
      go_ret
      exact ⟨ret_i H.out.symm, rfl⟩
  · have H : Hid (half c = -1) := no_half c hd (by omega)
    clear hd
    go_enter Try.func18, Try.ntmps18
    go_wp2_with (go_at_call 23; refine (l00Digit_no _ _ hd').mono ?_; rintro e w' ⟨rfl, rfl⟩)
    go_ret
    exact ⟨ret_i H.out.symm, rfl⟩
end Go.Proofs.Ytbpdfkngkkopbab
