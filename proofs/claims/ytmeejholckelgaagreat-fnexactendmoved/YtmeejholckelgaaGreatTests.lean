/- The small tests of both sides, each answering whether a condition holds. -/
import Derived.Test.YtmeejholckelgaaGreatRoom
import Derived.Test.YtmeejholckelgaaGreatNumOf
namespace Go.Proofs.YtmeejholckelgaaGreat
open Go.RowKit Go.PlainAid
set_option linter.unusedVariables false
set_option maxRecDepth 20000

/-- Whether it holds: a name that no rule looks into. -/
def dec (p : Prop) [Decidable p] : Bool := decide p
theorem dec_y {p : Prop} [Decidable p] (h : p) : dec p = true := decide_eq_true h
theorem dec_n {p : Prop} [Decidable p] (h : ¬ p) : dec p = false := decide_eq_false h

theorem hasRoom_any (n : Int) (m : Nat) (M : Int) (w : World) (h1 : 1 ≤ m) (h6 : m ≤ 6) (hM : (2 : Int) ^ (8 * m) = M + 1) (hx : n ≤ 9223372036854775807) :
    Calls Tryz.prog 154 #[.int .i64 n, .int .i64 m] w fun e w' => e = .returned (.bool (dec (0 ≤ n ∧ n ≤ M))) ∧ w' = w := by
  by_cases h : 0 ≤ n ∧ n ≤ M
  · exact (hasRoom_y n m w h1 h6 h.1 (by rw [hM]; omega) hx).mono fun e w' hh => ⟨by rw [dec_y h]; exact hh.1, hh.2⟩
  · exact (hasRoom_n n m w h1 h6 (by rw [hM]; omega) hx).mono fun e w' hh => ⟨by rw [dec_n h]; exact hh.1, hh.2⟩
theorem hasRoom1 (n : Int) (w : World) (hx : n ≤ 9223372036854775807) : Calls Tryz.prog 154 #[.int .i64 n, .int .i64 1] w fun e w' => e = .returned (.bool (dec (0 ≤ n ∧ n ≤ 255))) ∧ w' = w :=
  hasRoom_any n 1 255 w (by omega) (by omega) rfl hx
theorem hasRoom2 (n : Int) (w : World) (hx : n ≤ 9223372036854775807) : Calls Tryz.prog 154 #[.int .i64 n, .int .i64 2] w fun e w' => e = .returned (.bool (dec (0 ≤ n ∧ n ≤ 65535))) ∧ w' = w :=
  hasRoom_any n 2 65535 w (by omega) (by omega) rfl hx
theorem hasRoom4 (n : Int) (w : World) (hx : n ≤ 9223372036854775807) : Calls Tryz.prog 154 #[.int .i64 n, .int .i64 4] w fun e w' => e = .returned (.bool (dec (0 ≤ n ∧ n ≤ 4294967295))) ∧ w' = w :=
  hasRoom_any n 4 4294967295 w (by omega) (by omega) rfl hx
theorem addressOK_any (n : Int) (w : World) : Calls Tryz.prog 132 #[.int .i64 n] w fun e w' => e = .returned (.bool (dec (0 ≤ n ∧ n ≤ 4294967295))) ∧ w' = w := by
  by_cases h : 0 ≤ n ∧ n ≤ 4294967295
  · exact (addressOK_y n w h.1 h.2).mono fun e w' hh => ⟨by rw [dec_y h]; exact hh.1, hh.2⟩
  · exact (addressOK_n n w h).mono fun e w' hh => ⟨by rw [dec_n h]; exact hh.1, hh.2⟩
theorem portOK_any (n : Int) (w : World) (hx : n ≤ 9223372036854775807) : Calls Tryz.prog 147 #[.int .i64 n] w fun e w' => e = .returned (.bool (dec (0 ≤ n ∧ n ≤ 65535))) ∧ w' = w := by
  go_enter Tryz.func147, Tryz.ntmps147
  go_wp2_with fail
  refine (hasRoom2 _ _ hx).mono ?_
  rintro e w1 ⟨rfl, hw1⟩
  obtain rfl := hw1.symm
  clear hw1
  go_wp2
  go_ret
  exact ⟨rfl, rfl⟩
theorem specIn_any (n lo hi : Int) (w : World) : Calls Tryz.prog 31 #[.int .i64 n, .int .i64 lo, .int .i64 hi] w fun e w' => e = .returned (.bool (dec (lo ≤ n ∧ n ≤ hi))) ∧ w' = w := l01In_any n lo hi w
theorem specIp_any (n : Int) (w : World) : Calls Tryz.prog 104 #[.int .i64 n] w fun e w' => e = .returned (.bool (dec (0 ≤ n ∧ n ≤ 4294967295))) ∧ w' = w := by
  go_enter Tryz.func104, Tryz.ntmps104
  go_wp2_with fail
  refine (specIn_any _ _ _ _).mono ?_
  rintro e w1 ⟨rfl, hw1⟩
  obtain rfl := hw1.symm
  clear hw1
  go_wp2
  go_ret
  exact ⟨rfl, rfl⟩
end Go.Proofs.YtmeejholckelgaaGreat
