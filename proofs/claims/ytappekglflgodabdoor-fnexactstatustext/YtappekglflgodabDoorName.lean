/- The contracts of NameOK, the program's and the model's, and of what they call: whether a byte is a letter, a digit; whether a text is a name. -/
import Derived.Test.YtappekglflgodabDoorProg
import Derived.Test.YtappekglflgodabDoorPlain
namespace Go.Proofs.YtappekglflgodabDoor
open Go.RowKit Go.PlainAid
set_option linter.unusedVariables false

def letB (c : Int) : Bool := decide ((97 ≤ c ∧ c ≤ 122) ∨ (65 ≤ c ∧ c ≤ 90) ∨ c = 95)
def digB (c : Int) : Bool := decide (48 ≤ c ∧ c ≤ 57)

theorem ret_bool {a b : Bool} (h : a = b) : Ending.returned (.bool a) = .returned (.bool b) := by rw [h]

theorem let_cases (c : Int) : (c < 65 ∧ letB c = false) ∨ (65 ≤ c ∧ c ≤ 90 ∧ letB c = true) ∨ (90 < c ∧ c < 95 ∧ letB c = false) ∨ (c = 95 ∧ letB c = true) ∨ (95 < c ∧ c < 97 ∧ letB c = false) ∨ (97 ≤ c ∧ c ≤ 122 ∧ letB c = true) ∨ (122 < c ∧ letB c = false) := by
  unfold letB; simp; omega
theorem dig_cases (c : Int) : (c < 48 ∧ digB c = false) ∨ (48 ≤ c ∧ c ≤ 57 ∧ digB c = true) ∨ (57 < c ∧ digB c = false) := by
  unfold digB; simp; omega
theorem dig_not_let (c : Int) (h : digB c = true) : letB c = false := by
  unfold digB at h; unfold letB; simp at h ⊢; omega

/-- A name: 1 to 40 bytes, a letter, then letters and digits. -/
def nameB (f : Nat → Int) (n : Nat) : Bool := decide (1 ≤ n ∧ n ≤ 40 ∧ letB (f 0) = true ∧ ∀ j, j < n → letB (f j) = true ∨ digB (f j) = true)

theorem name_no_len (f : Nat → Int) (n : Nat) (h : n < 1 ∨ 40 < n) : nameB f n = false := by unfold nameB; rw [decide_eq_false_iff_not]; omega
theorem name_no_let (f : Nat → Int) (n : Nat) (h : letB (f 0) = false) : nameB f n = false := by unfold nameB; rw [decide_eq_false_iff_not]; simp [h]
theorem name_no_at (f : Nat → Int) (n k : Nat) (hk : k < n) (h : letB (f k) = false) (h' : digB (f k) = false) : nameB f n = false := by
  unfold nameB; rw [decide_eq_false_iff_not]; rintro ⟨_, _, _, h4⟩; have := h4 k hk; simp [h, h'] at this
theorem name_yes (f : Nat → Int) (n : Nat) (h0 : 1 ≤ n) (h1 : n ≤ 40) (h2 : letB (f 0) = true) (h : ∀ j, j < n → letB (f j) = true ∨ digB (f j) = true) : nameB f n = true := by
  unfold nameB; rw [decide_eq_true_iff]; exact ⟨h0, h1, h2, h⟩

theorem all_step {f : Nat → Int} {k : Nat} (h : ∀ j, j < k → letB (f j) = true ∨ digB (f j) = true) (hk : letB (f k) = true ∨ digB (f k) = true) : ∀ j, j < k + 1 → letB (f j) = true ∨ digB (f j) = true := by
  intro j hj
  by_cases e : j = k
  · subst e; exact hk
  · exact h j (by omega)

end Go.Proofs.YtappekglflgodabDoor
