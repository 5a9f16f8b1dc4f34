/- Small tests of the program's chapter of guests: between, causes, bytes, credit, times; short names of the model. -/
import Derived.Test.YtmeejholckelgaaGreatNumOf
import Derived.Test.YtmeejholckelgaaGreatTests
import Derived.Test.YtmeejholckelgaaGreatName
namespace Go.Proofs.YtmeejholckelgaaGreat
open Go.RowKit Go.PlainAid
set_option linter.unusedVariables false
set_option maxRecDepth 20000
theorem between_any (n lo hi : Int) (w : World) : Calls Tryz.prog 83 #[.int .i64 n, .int .i64 lo, .int .i64 hi] w fun e w' => e = .returned (.bool (decide (lo ≤ n ∧ n ≤ hi))) ∧ w' = w := by
  by_cases h1 : lo ≤ n
  · by_cases h2 : n ≤ hi
    · go_enter Tryz.func83, Tryz.ntmps83
      go_wp2
      go_ret
      exact ⟨congrArg (fun b => Ending.returned (.bool b)) (by simp [h1, h2]), rfl⟩
    · go_enter Tryz.func83, Tryz.ntmps83
      go_wp2
      go_ret
      exact ⟨congrArg (fun b => Ending.returned (.bool b)) (by simp [h2]), rfl⟩
  · have h1' : decide (lo ≤ n) = false := by simp; omega
    go_enter Tryz.func83, Tryz.ntmps83
    go_wp2
    go_ret
    exact ⟨congrArg (fun b => Ending.returned (.bool b)) (by simp), rfl⟩
theorem causeOK_any (c : Int) (w : World) : Calls Tryz.prog 145 #[.int .i64 c] w fun e w' => e = .returned (.bool (decide (1 ≤ c ∧ c ≤ 6))) ∧ w' = w := by
  have HB : Hid (∀ w, Calls Tryz.prog 83 #[.int .i64 c, .int .i64 1, .int .i64 6] w fun e w' => e = .returned (.bool (decide (1 ≤ c ∧ c ≤ 6))) ∧ w' = w) := fun w => between_any c 1 6 w
  generalize decide (1 ≤ c ∧ c ≤ 6) = z at HB ⊢
  go_enter Tryz.func145, Tryz.ntmps145
  go_wp2_with fail
  refine (HB.out _).mono ?_
  rintro e w1 ⟨rfl, hw⟩
  subst hw
  go_wp2
  go_ret
  exact ⟨rfl, rfl⟩
theorem bytesOK_any (n : Int) (w : World) : Calls Tryz.prog 43 #[.int .i64 n] w fun e w' => e = .returned (.bool (dec (0 ≤ n ∧ n ≤ 1000000))) ∧ w' = w := by
  have HB : Hid (∀ w, Calls Tryz.prog 83 #[.int .i64 n, .int .i64 0, .int .i64 1000000] w fun e w' => e = .returned (.bool (dec (0 ≤ n ∧ n ≤ 1000000))) ∧ w' = w) := fun w => between_any n 0 1000000 w
  generalize dec (0 ≤ n ∧ n ≤ 1000000) = z at HB ⊢
  go_enter Tryz.func43, Tryz.ntmps43
  go_wp2_with fail
  refine (HB.out _).mono ?_
  rintro e w1 ⟨rfl, hw⟩
  subst hw
  go_wp2
  go_ret
  exact ⟨rfl, rfl⟩
theorem creditOK_any (b l : Int) (w : World) : Calls Tryz.prog 138 #[.int .i64 b, .int .i64 l] w fun e w' => e = .returned (.bool (dec (0 ≤ b ∧ b ≤ 1000000) && dec (0 ≤ l ∧ l ≤ 1000))) ∧ w' = w := by
  have HA : Hid (∀ w, Calls Tryz.prog 43 #[.int .i64 b] w fun e w' => e = .returned (.bool (dec (0 ≤ b ∧ b ≤ 1000000))) ∧ w' = w) := fun w => bytesOK_any b w
  have HB : Hid (∀ w, Calls Tryz.prog 83 #[.int .i64 l, .int .i64 0, .int .i64 1000] w fun e w' => e = .returned (.bool (dec (0 ≤ l ∧ l ≤ 1000))) ∧ w' = w) := fun w => between_any l 0 1000 w
  generalize dec (0 ≤ b ∧ b ≤ 1000000) = y at HA ⊢
  generalize dec (0 ≤ l ∧ l ≤ 1000) = z at HB ⊢
  cases y with
  | false =>
    go_enter Tryz.func138, Tryz.ntmps138
    go_wp2_with fail
    refine (HA.out _).mono ?_
    rintro e w1 ⟨rfl, hw⟩
    subst hw
    go_wp2
    go_ret
    exact ⟨rfl, rfl⟩
  | true =>
    go_enter Tryz.func138, Tryz.ntmps138
    go_wp2_with fail
    refine (HA.out _).mono ?_
    rintro e w1 ⟨rfl, hw⟩
    subst hw
    go_wp2_with fail
    refine (HB.out _).mono ?_
    rintro e w1 ⟨rfl, hw⟩
    subst hw
    go_wp2
    go_ret
    exact ⟨by simp, rfl⟩
theorem timeOK_any (n : Int) (w : World) : Calls Tryz.prog 82 #[.int .i64 n] w fun e w' => e = .returned (.bool (dec (0 ≤ n ∧ n ≤ 100000))) ∧ w' = w := by
  have HB : Hid (∀ w, Calls Tryz.prog 83 #[.int .i64 n, .int .i64 0, .int .i64 100000] w fun e w' => e = .returned (.bool (dec (0 ≤ n ∧ n ≤ 100000))) ∧ w' = w) := fun w => between_any n 0 100000 w
  generalize dec (0 ≤ n ∧ n ≤ 100000) = z at HB ⊢
  go_enter Tryz.func82, Tryz.ntmps82
  go_wp2_with fail
  refine (HB.out _).mono ?_
  rintro e w1 ⟨rfl, hw⟩
  subst hw
  go_wp2
  go_ret
  exact ⟨rfl, rfl⟩
def snB (s : ByteArray) : Bool := nameB (bt s) s.size && dec (s.size ≤ 8)
theorem snB_le {s : ByteArray} (h : snB s = true) : s.size ≤ 8 := by
  unfold snB dec at h
  simp at h
  exact h.2
theorem l08Name_any (s : ByteArray) (w : World) (hs : s.size ≤ 1048576) : Calls Tryz.prog 117 #[.string s] w fun e w' => e = .returned (.bool (snB s)) ∧ w' = w := by
  have HA : Hid (∀ w, Calls Tryz.prog 129 #[.string s] w fun e w' => e = .returned (.bool (nameB (bt s) s.size)) ∧ w' = w) := fun w => specNameOK_any s w hs
  unfold snB
  generalize nameB (bt s) s.size = q at HA ⊢
  by_cases h8 : s.size ≤ 8
  · rw [dec_y h8]
    have hz : (s.size : Int) ≤ 8 := by omega
    cases q <;>
    · go_enter Tryz.func117, Tryz.ntmps117
      go_wp2_with fail
      refine (HA.out _).mono ?_
      rintro e w1 ⟨rfl, hw⟩
      subst hw
      go_wp2
      go_ret
      exact ⟨rfl, rfl⟩
  · rw [dec_n h8]
    have hz : decide ((s.size : Int) ≤ 8) = false := by simp; omega
    cases q <;>
    · go_enter Tryz.func117, Tryz.ntmps117
      go_wp2_with fail
      refine (HA.out _).mono ?_
      rintro e w1 ⟨rfl, hw⟩
      subst hw
      go_wp2
      go_ret
      exact ⟨rfl, rfl⟩
end Go.Proofs.YtmeejholckelgaaGreat
