/- NumberBytes, the program's and the model's. -/
import Derived.Test.YtocabbeejkogdaaDoorProg
import Derived.Test.YtocabbeejkogdaaDoorNumOf
import Derived.Test.YtocabbeejkogdaaDoorNumB
import Derived.Test.YtocabbeejkogdaaDoorOwn
namespace Go.Proofs.YtocabbeejkogdaaDoor
open Go.RowKit Go.PlainAid
set_option linter.unusedVariables false

theorem numberBytes_no (n m : Int) (w : World) (h : ¬ (1 ≤ m ∧ m ≤ 6)) :
    Calls Tryd.prog 13 #[.int .i64 n, .int .i64 m] w fun e w' => e = .returned (.tuple #[.slice none 0 0, .int .i64 4]) ∧ w' = w := by
  by_cases h0 : m < 1
  · have b1 : decide (m < 1) = true := by simp; omega
    go_enter Tryd.func13, Tryd.ntmps13
    go_wp2
    go_ret2
    exact ⟨rfl, rfl⟩
  · have b1 : decide (m < 1) = false := by simp; omega
    have b2 : decide (6 < m) = true := by simp; omega
    go_enter Tryd.func13, Tryd.ntmps13
    go_wp2
    go_ret2
    exact ⟨rfl, rfl⟩

theorem numberBytes_out (n : Int) (m : Nat) (w : World) (h1 : 1 ≤ m) (h6 : m ≤ 6) (hx : n ≤ 9223372036854775807) (h : n < 0 ∨ 2 ^ (8 * m) ≤ n) :
    Calls Tryd.prog 13 #[.int .i64 n, .int .i64 m] w fun e w' => e = .returned (.tuple #[.slice none 0 0, .int .i64 4]) ∧ w' = w := by
  have b1 : decide ((m : Int) < 1) = false := by simp; omega
  have b2 : decide (6 < (m : Int)) = false := by simp; omega
  by_cases h0 : n < 0
  · have b3 : decide (n < 0) = true := by simp; omega
    go_enter Tryd.func13, Tryd.ntmps13
    go_wp2
    go_ret2
    exact ⟨rfl, rfl⟩
  · have b3 : decide (n < 0) = false := by simp; omega
    have hp : (0 : Int) < 2 ^ (8 * m) := Int.pow_pos (by omega)
    have hq : 1 ≤ n / 2 ^ (8 * m) := by rw [Int.le_ediv_iff_mul_le hp]; omega
    have b4 : (n / 2 ^ (8 * m) != 0) = true := by simp; omega
    clear h hp hq
    go_enter Tryd.func13, Tryd.ntmps13
    go_wp2
    go_ret2
    exact ⟨rfl, rfl⟩

theorem nbl_snoc (n : Int) (m k : Nat) : (List.range (k + 1)).map (nb n m) = (List.range k).map (nb n m) ++ [nb n m k] := by
  rw [List.range_succ, List.map_append]; rfl

end Go.Proofs.YtocabbeejkogdaaDoor
