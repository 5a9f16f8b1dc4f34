/- SameHash, the program's and the model's: both are one text of 32 bytes; the walk of its law. -/
import Derived.Test.YtmhlanbmlkidhacProg
import Derived.Test.YtmhlanbmlkidhacPlain
namespace Go.Proofs.Ytmhlanbmlkidhac
open Go.RowKit Go.PlainAid
set_option linter.unusedVariables false
set_option maxRecDepth 20000

def sameB (a b : ByteArray) : Bool := decide (a.size = 32) && (a.toList == b.toList)
theorem same_size {a b : ByteArray} (h : (a.toList == b.toList) = true) : a.size = b.size := by
  rw [ByteArray.toList_eq, ByteArray.toList_eq] at h
  have := congrArg List.length (eq_of_beq h)
  rw [Array.length_toList, Array.length_toList] at this
  exact this
theorem sameB_n (a b : ByteArray) (h : a.size ≠ 32) : sameB a b = false := by simp [sameB, h]
theorem sameB_y (a b : ByteArray) (h : a.size = 32) : sameB a b = (a.toList == b.toList) := by simp [sameB, h]

theorem sameHash_any (a b : ByteArray) (w : World) (ha : a.size ≤ 9223372036854775807) :
    Calls Try.prog 5 #[.string a, .string b] w fun e w' => e = .returned (.bool (sameB a b)) ∧ w' = w := by
  by_cases h : a.size = 32
  · have hq : ((a.size : Int) == 32) = true := by simp; omega
    have HS : Hid (sameB a b = (a.toList == b.toList)) := sameB_y a b h
    clear h
    go_enter Try.func5, Try.ntmps5
    go_wp2
    go_ret
    exact ⟨(by rw [HS.out]; try rfl), rfl⟩
  · have hq : ((a.size : Int) == 32) = false := by simp; omega
    have HS : Hid (sameB a b = false) := sameB_n a b h
    clear h
    go_enter Try.func5, Try.ntmps5
    go_wp2
    go_ret
    exact ⟨(by rw [HS.out]; try rfl), rfl⟩

theorem specSameHash_any (a b : ByteArray) (w : World) (ha : a.size ≤ 9223372036854775807) (hb : b.size ≤ 9223372036854775807) :
    Calls Try.prog 4 #[.string a, .string b] w fun e w' => e = .returned (.bool (sameB a b)) ∧ w' = w := by
  by_cases hl : 65536 < a.size
  · have HS : Hid (sameB a b = false) := sameB_n a b (by omega)
    go_enter Try.func4, Try.ntmps4
    go_wp2
    go_ret
    exact ⟨(by rw [HS.out]; try rfl), rfl⟩
  by_cases hm : 65536 < b.size
  · have HS : Hid (sameB a b = false) := by
      show sameB a b = false
      cases e : sameB a b
      · rfl
      · simp only [sameB, Bool.and_eq_true, decide_eq_true_eq] at e
        have := same_size e.2
        omega
    go_enter Try.func4, Try.ntmps4
    go_wp2
    go_ret
    exact ⟨(by rw [HS.out]; try rfl), rfl⟩
  by_cases h : a.size = 32
  · have hq : ((a.size : Int) == 32) = true := by simp; omega
    have HS : Hid (sameB a b = (a.toList == b.toList)) := sameB_y a b h
    clear h
    go_enter Try.func4, Try.ntmps4
    go_wp2
    go_ret
    exact ⟨(by rw [HS.out]; try rfl), rfl⟩
  · have hq : ((a.size : Int) == 32) = false := by simp; omega
    have HS : Hid (sameB a b = false) := sameB_n a b h
    clear h
    go_enter Try.func4, Try.ntmps4
    go_wp2
    go_ret
    exact ⟨(by rw [HS.out]; try rfl), rfl⟩

theorem lawSameHash_any (a b : ByteArray) (w : World) (ha : a.size ≤ maxLen) (hb : b.size ≤ maxLen) :
    Calls Try.prog 3 #[.string a, .string b] w fun e w' => e = .returned (.bool true) ∧ Below w.heap.size w w' := by
  unfold maxLen at ha hb
  by_cases hl : 1048576 < a.size
  · go_enter Try.func3, Try.ntmps3
    go_wp2
    go_ret
    exact ⟨rfl, Below.refl _ _⟩
  by_cases hm : 1048576 < b.size
  · go_enter Try.func3, Try.ntmps3
    go_wp2
    go_ret
    exact ⟨rfl, Below.refl _ _⟩
  obtain ⟨q, hq⟩ : ∃ q, q = sameB a b := ⟨_, rfl⟩
  have HI : Hid (∀ w, Calls Try.prog 5 #[.string a, .string b] w fun e w' => e = .returned (.bool q) ∧ w' = w) := fun w => hq ▸ sameHash_any a b w (by omega)
  have HS : Hid (∀ w, Calls Try.prog 4 #[.string a, .string b] w fun e w' => e = .returned (.bool q) ∧ w' = w) := fun w => hq ▸ specSameHash_any a b w (by omega) (by omega)
  clear hq
  have hne : (q != q) = false := by simp
  go_enter Try.func3, Try.ntmps3
  go_wp2_with fail
  refine (HS.out _).mono ?_
  rintro e w1 ⟨rfl, hw⟩
  subst hw
  go_wp2_with fail
  refine (HI.out _).mono ?_
  rintro e w1 ⟨rfl, hw⟩
  subst hw
  go_wp2
  go_ret
  exact ⟨rfl, Below.refl _ _⟩
end Go.Proofs.Ytmhlanbmlkidhac
