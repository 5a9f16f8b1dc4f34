/- A number's digits: the model's l00Digits at every number from 0 on. -/
import Derived.Test.YtjammgjmidchmaaProg
import Derived.Test.YtjammgjmidchmaaOwn
import Derived.Lib.ItoaNum
import Derived.Deep.RegionHeld3
namespace Go.Proofs.Ytjammgjmidchmaa
open Go.RowKit Go.PlainAid
set_option linter.unusedVariables false
set_option maxRecDepth 20000

/-- The decimal digits, as numbers of bytes. -/
def dgs (n : Nat) : List Int := if n < 10 then [48 + (n : Int)] else dgs (n / 10) ++ [48 + ((n % 10 : Nat) : Int)]
termination_by n
decreasing_by omega
theorem dgs_small {n : Nat} (h : n < 10) : dgs n = [48 + (n : Int)] := by rw [dgs, if_pos h]
theorem dgs_more {n : Nat} (h : 10 ≤ n) : dgs n = dgs (n / 10) ++ [48 + ((n % 10 : Nat) : Int)] := by rw [dgs, if_neg (by omega)]
theorem dgs_bd : ∀ n : Nat, ∀ x ∈ dgs n, 48 ≤ x ∧ x ≤ 57 := by
  intro n
  induction n using Nat.strongRecOn with
  | _ n ih =>
    intro x hx
    by_cases h : n < 10
    · rw [dgs_small h] at hx; simp at hx; omega
    · rw [dgs_more (by omega)] at hx
      rcases List.mem_append.1 hx with h1 | h1
      · exact ih (n / 10) (by omega) x h1
      · simp at h1; omega
theorem dgs_len : ∀ (k n : Nat), n < 10 ^ (k + 1) → 1 ≤ (dgs n).length ∧ (dgs n).length ≤ k + 1
  | 0, n, h => by rw [dgs_small (by simpa using h)]; simp
  | k + 1, n, h => by
    by_cases h1 : n < 10
    · rw [dgs_small h1]; simp
    · have := dgs_len k (n / 10) (by rw [Nat.div_lt_iff_lt_mul (by omega)]; rw [Nat.pow_succ] at h; exact h)
      rw [dgs_more (by omega)]
      simp; omega
theorem strOfNums_append (L M : List Int) : strOfNums L ++ strOfNums M = strOfNums (L ++ M) := by
  apply ByteArray.ext
  simp [strOfNums, ByteArray.data_append]

/-- 'string([]byte{x})'. -/
theorem conv_one (wx : World) (b : Nat) (x : Int) (h0 : 0 ≤ x) (h1 : x ≤ 255) (hb : wx.cell? ⟨b, 0, none⟩ = some (.int .u8 x)) : (convert 22 9 (.slice (some ⟨b, 0, none⟩) 1 1)).run Try.prog wx = .ok (.string (strOfNums [x])) wx := by
  have hB : Bytes wx (some ⟨b, 0, none⟩) [x].length (fun j => [x].getD j 0) := by
    refine ⟨fun k => ?_, fun _ => ⟨b, 0, rfl, fun i hi => ?_⟩⟩
    · rcases k with _ | k <;> simp <;> omega
    · obtain rfl : i = 0 := by simpa using hi
      simpa using hb
  exact conv_own (P := Try.prog) wx 22 9 5 Try.underlying22 Try.underlying5 Try.underlying9 (some ⟨b, 0, none⟩) 1 [x] hB

end Go.Proofs.Ytjammgjmidchmaa
