/- ReadMac, the program's and the model's: six bytes of two hexadecimal digits, colons between, or code 3; the walk of its law. -/
import Derived.Test.YtcgdpijmfgkalaaDoorProg
import Derived.Test.YtcgdpijmfgkalaaDoorHex
import Derived.Test.YtcgdpijmfgkalaaDoorBits
import Derived.Test.YtcgdpijmfgkalaaDoorCopy
import Derived.Test.YtcgdpijmfgkalaaDoorOwn
import Derived.Deep.AppendLies
namespace Go.Proofs.YtcgdpijmfgkalaaDoor
open Go.RowKit Go.PlainAid
set_option linter.unusedVariables false
set_option maxRecDepth 20000

/-- Byte k can't be read. -/
def badB (f : Nat → Int) (k : Nat) : Bool := decide (half (f (3 * k)) < 0) || decide (half (f (3 * k + 1)) < 0) || (decide (k < 5) && (f (3 * k + 2) != 58))
def anyB (f : Nat → Int) : Bool := (List.range 6).any (badB f)
/-- The bytes that were read. -/
def rml (f : Nat → Int) (k : Nat) : List Int := (List.range k).map fun j => 16 * half (f (3 * j)) + half (f (3 * j + 1))
theorem rml_snoc (f : Nat → Int) (k : Nat) : rml f (k + 1) = rml f k ++ [16 * half (f (3 * k)) + half (f (3 * k + 1))] := by
  unfold rml; rw [List.range_succ, List.map_append]; rfl
theorem rml_len (f : Nat → Int) (k : Nat) : (rml f k).length = k := by simp [rml]
theorem rml_bd (f : Nat → Int) (k : Nat) (h : ∀ j, j < k → badB f j = false) : ∀ x ∈ rml f k, 0 ≤ x ∧ x ≤ 255 := by
  intro x hx
  unfold rml at hx
  obtain ⟨j, hj, rfl⟩ := List.mem_map.1 hx
  have hb := h j (by simpa using hj)
  have h1 := half_bd (f (3 * j))
  have h2 := half_bd (f (3 * j + 1))
  simp [badB] at hb
  omega
def rmT (f : Nat → Int) : ByteArray := if anyB f then ⟨#[]⟩ else strOfNums (rml f 6)
def rmC (f : Nat → Int) : Int := if anyB f then 3 else 0
theorem rm_bad (f : Nat → Int) (k : Nat) (hk : k < 6) (h : badB f k = true) : rmT f = ⟨#[]⟩ ∧ rmC f = 3 := by
  have : anyB f = true := List.any_eq_true.2 ⟨k, by simpa using hk, h⟩
  simp [rmT, rmC, this]
theorem rm_ok (f : Nat → Int) (h : ∀ j, j < 6 → badB f j = false) : rmT f = strOfNums (rml f 6) ∧ rmC f = 0 := by
  have : anyB f = false := by
    rw [anyB, List.any_eq_false]
    intro x hx
    have := h x (by simpa using hx)
    simp [this]
  simp [rmT, rmC, this]
theorem ok_step {f : Nat → Int} {k : Nat} (h : ∀ j, j < k → badB f j = false) (hk : badB f k = false) : ∀ j, j < k + 1 → badB f j = false := by
  intro j hj
  by_cases e : j = k
  · subst e; exact hk
  · exact h j (by omega)

end Go.Proofs.YtcgdpijmfgkalaaDoor
