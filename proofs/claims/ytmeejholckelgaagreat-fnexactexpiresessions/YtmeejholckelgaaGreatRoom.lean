/- The program's small tests: hasRoom, addressOK. -/
import Derived.Test.YtmeejholckelgaaGreatProg
import Derived.WalkKit
import Derived.PlainAid
import Derived.Below
namespace Go.Proofs.YtmeejholckelgaaGreat
open Go.RowKit Go.PlainAid
set_option linter.unusedVariables false

theorem hasRoom_y (n : Int) (m : Nat) (w : World) (h1 : 1 ≤ m) (h6 : m ≤ 6) (hn : 0 ≤ n) (hr : n < 2 ^ (8 * m)) (hx : n ≤ 9223372036854775807) :
    Calls Tryz.prog 154 #[.int .i64 n, .int .i64 m] w fun e w' => e = .returned (.bool true) ∧ w' = w := by
  have b3 : decide (0 ≤ n) = true := by simp; omega
  have b4 : (n / 2 ^ (8 * m) == 0) = true := by simp; exact Int.ediv_eq_zero_of_lt hn hr
  clear hr
  go_enter Tryz.func154, Tryz.ntmps154
  go_wp2
  go_ret
  exact ⟨rfl, rfl⟩
theorem hasRoom_n (n : Int) (m : Nat) (w : World) (h1 : 1 ≤ m) (h6 : m ≤ 6) (h : n < 0 ∨ 2 ^ (8 * m) ≤ n) (hx : n ≤ 9223372036854775807) :
    Calls Tryz.prog 154 #[.int .i64 n, .int .i64 m] w fun e w' => e = .returned (.bool false) ∧ w' = w := by
  by_cases h0 : n < 0
  · have b3 : decide (0 ≤ n) = false := by simp; omega
    clear h
    go_enter Tryz.func154, Tryz.ntmps154
    go_wp2
    go_ret
    exact ⟨rfl, rfl⟩
  · have b3 : decide (0 ≤ n) = true := by simp; omega
    have hp : (0 : Int) < 2 ^ (8 * m) := Int.pow_pos (by omega)
    have hq : 1 ≤ n / 2 ^ (8 * m) := by rw [Int.le_ediv_iff_mul_le hp]; omega
    have b4 : (n / 2 ^ (8 * m) == 0) = false := by rw [beq_eq_false_iff_ne]; omega
    clear h hp hq
    go_enter Tryz.func154, Tryz.ntmps154
    go_wp2
    go_ret
    exact ⟨rfl, rfl⟩

theorem addressOK_y (n : Int) (w : World) (h0 : 0 ≤ n) (h1 : n ≤ 4294967295) :
    Calls Tryz.prog 132 #[.int .i64 n] w fun e w' => e = .returned (.bool true) ∧ w' = w := by
  go_enter Tryz.func132, Tryz.ntmps132
  go_wp2
  go_ret
  exact ⟨congrArg (fun b => Ending.returned (.bool b)) (by simp), rfl⟩
theorem addressOK_n (n : Int) (w : World) (h : ¬ (0 ≤ n ∧ n ≤ 4294967295)) :
    Calls Tryz.prog 132 #[.int .i64 n] w fun e w' => e = .returned (.bool false) ∧ w' = w := by
  by_cases h0 : 0 ≤ n
  · have h2 : ¬ n ≤ 4294967295 := fun hh => h ⟨h0, hh⟩
    clear h
    go_enter Tryz.func132, Tryz.ntmps132
    go_wp2
    go_ret
    exact ⟨congrArg (fun b => Ending.returned (.bool b)) (by simp), rfl⟩
  · clear h
    have b : decide (0 ≤ n) = false := by simp; omega
    go_enter Tryz.func132, Tryz.ntmps132
    go_wp2
    go_ret
    exact ⟨rfl, rfl⟩
end Go.Proofs.YtmeejholckelgaaGreat
