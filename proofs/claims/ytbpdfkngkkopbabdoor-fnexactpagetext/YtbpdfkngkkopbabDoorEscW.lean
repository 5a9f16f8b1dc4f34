/- Texts with escapes: EscapeText, the program's and the model's. -/
import Derived.Test.YtbpdfkngkkopbabDoorName
import Derived.Test.YtbpdfkngkkopbabDoorMac
import Derived.Test.YtbpdfkngkkopbabDoorApp
import Derived.Test.YtbpdfkngkkopbabDoorIdxB
namespace Go.Proofs.YtbpdfkngkkopbabDoor
open Go.RowKit Go.PlainAid
set_option linter.unusedVariables false
set_option maxRecDepth 20000

/-- The sixteen digits, capitals. -/
def caps : ByteArray := ⟨#[48, 49, 50, 51, 52, 53, 54, 55, 56, 57, 65, 66, 67, 68, 69, 70]⟩
def cx (n : Int) : Int := bt caps n.toNat
theorem cx_bd (n : Int) : 0 ≤ cx n ∧ cx n ≤ 255 := ⟨bt_nonneg _ _, bt_le _ _⟩
/-- A byte that stands for itself. -/
def esB (c : Int) : Bool := letB c || digB c || (c == 45) || (c == 46)
/-- A byte's escape; a text's. -/
def esL (c : Int) : List Int := if esB c = true then [c] else if c = 32 then [43] else [37, cx (c / 16), cx (c % 16)]
def ess (f : Nat → Int) : Nat → List Int
  | 0 => []
  | k + 1 => ess f k ++ esL (f k)
theorem esL_len (c : Int) : (esL c).length ≤ 3 := by unfold esL; split <;> (try split) <;> simp
theorem esL_pos (c : Int) : 1 ≤ (esL c).length := by unfold esL; split <;> (try split) <;> simp
theorem ess_len (f : Nat → Int) : ∀ k : Nat, (ess f k).length ≤ 3 * k
  | 0 => by simp [ess]
  | k + 1 => by have := ess_len f k; have := esL_len (f k); simp [ess]; omega
theorem esL_bd (c : Int) (h0 : 0 ≤ c) (h1 : c ≤ 255) : ∀ x ∈ esL c, 0 ≤ x ∧ x ≤ 255 := by
  intro x hx
  unfold esL at hx
  split at hx
  · simp at hx; omega
  · split at hx
    · simp at hx; omega
    · simp only [List.mem_cons, List.not_mem_nil, or_false] at hx
      rcases hx with h | h | h
      · omega
      · subst h; exact cx_bd _
      · subst h; exact cx_bd _
theorem ess_bd (f : Nat → Int) (hf : ∀ k, 0 ≤ f k ∧ f k ≤ 255) : ∀ k : Nat, ∀ x ∈ ess f k, 0 ≤ x ∧ x ≤ 255
  | 0 => by simp [ess]
  | k + 1 => by
    have := ess_bd f hf k
    intro x hx
    simp only [ess, List.mem_append] at hx
    rcases hx with h | h
    · exact this x h
    · exact esL_bd _ (hf k).1 (hf k).2 x h
theorem esL_self {c : Int} (h : esB c = true) : esL c = [c] := by unfold esL; rw [if_pos h]
theorem esL_32 : esL 32 = [43] := by decide
theorem esL_more {c : Int} (h : esB c = false) (h2 : c ≠ 32) : esL c = [37, cx (c / 16), cx (c % 16)] := by unfold esL; rw [if_neg (by simp [h]), if_neg h2]

/-- Whether a byte stands in a text. -/
def inS (s : List UInt8) (c : Int) : Bool := decide (0 ≤ Lib.indexByte s c.toNat.toUInt8)
theorem inS_esc (c : Int) (h0 : 0 ≤ c) (h1 : c ≤ 255) : inS [45, 46, 95] c = ((c == 45) || (c == 46) || (c == 95)) := by
  have h : ∀ n : Fin 256, inS [45, 46, 95] (n.val : Int) = (((n.val : Int) == 45) || ((n.val : Int) == 46) || ((n.val : Int) == 95)) := by decide +kernel
  obtain ⟨n, rfl⟩ := Int.eq_ofNat_of_zero_le h0
  exact h ⟨n, by omega⟩
def wsB (s : List UInt8) (c : Int) : Bool := letB c || digB c || inS s c
theorem wsB_esc (c : Int) (h0 : 0 ≤ c) (h1 : c ≤ 255) : wsB [45, 46, 95] c = esB c := by
  unfold wsB esB
  rw [inS_esc c h0 h1]
  by_cases h : c = 95
  · subst h; decide
  · have : (c == 95) = false := by simp [h]
    rw [this]; simp [Bool.or_assoc]
theorem isWordSign_any (c : Int) (s : ByteArray) (w : World) (h0 : 0 ≤ c) (h1 : c ≤ 255) :
    Calls Tryd.prog 18 #[.int .u8 c, .string s] w fun e w' => e = .returned (.bool (wsB s.data.toList c)) ∧ w' = w := by
  unfold wsB
  have T1 : Hid (∀ w, Calls Tryd.prog 23 #[.int .u8 c] w fun e w' => e = .returned (.bool (letB c)) ∧ w' = w) := fun w => isLetter_any c w
  have T2 : Hid (∀ w, Calls Tryd.prog 24 #[.int .u8 c] w fun e w' => e = .returned (.bool (digB c)) ∧ w' = w) := fun w => isDigit_any c w
  generalize letB c = t1 at T1 ⊢
  generalize digB c = t2 at T2 ⊢
  cases t1 with
  | true =>
    go_enter Tryd.func18, Tryd.ntmps18
    go_wp2_with fail
    refine (T1.out _).mono ?_
    rintro e w1 ⟨rfl, hw⟩
    subst hw
    go_wp2
    go_ret
    exact ⟨rfl, rfl⟩
  | false =>
    cases t2 with
    | true =>
      go_enter Tryd.func18, Tryd.ntmps18
      go_wp2_with fail
      refine (T1.out _).mono ?_
      rintro e w1 ⟨rfl, hw⟩
      subst hw
      go_wp2_with fail
      refine (T2.out _).mono ?_
      rintro e w1 ⟨rfl, hw⟩
      subst hw
      go_wp2
      go_ret
      exact ⟨rfl, rfl⟩
    | false =>
      go_enter Tryd.func18, Tryd.ntmps18
      go_wp2_with fail
      refine (T1.out _).mono ?_
      rintro e w1 ⟨rfl, hw⟩
      subst hw
      go_wp2_with fail
      refine (T2.out _).mono ?_
      rintro e w1 ⟨rfl, hw⟩
      subst hw
      go_wp2_with (go_at_call 25; refine (idxB_any _ _ _).mono ?_; rintro e w' ⟨rfl, rfl⟩)
      go_wp2
      go_ret
      exact ⟨rfl, rfl⟩

end Go.Proofs.YtbpdfkngkkopbabDoor
