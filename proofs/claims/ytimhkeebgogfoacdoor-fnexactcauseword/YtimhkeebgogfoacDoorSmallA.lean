/- Small tests of the program's chapter of guests: between, causes, bytes, credit, times; short names of the model. -/
import Derived.Test.YtimhkeebgogfoacDoorNumOf
import Derived.Test.YtimhkeebgogfoacDoorTests
import Derived.Test.YtimhkeebgogfoacDoorName
namespace Go.Proofs.YtimhkeebgogfoacDoor
open Go.RowKit Go.PlainAid
set_option linter.unusedVariables false
set_option maxRecDepth 20000
theorem between_any (n lo hi : Int) (w : World) : Calls Tryd.prog 8 #[.int .i64 n, .int .i64 lo, .int .i64 hi] w fun e w' => e = .returned (.bool (decide (lo ≤ n ∧ n ≤ hi))) ∧ w' = w := by
  by_cases h1 : lo ≤ n
  · by_cases h2 : n ≤ hi
    · go_enter Tryd.func8, Tryd.ntmps8
      go_wp2
      go_ret
      exact ⟨congrArg (fun b => Ending.returned (.bool b)) (by simp [h1, h2]), rfl⟩
    · go_enter Tryd.func8, Tryd.ntmps8
      go_wp2
      go_ret
      exact ⟨congrArg (fun b => Ending.returned (.bool b)) (by simp [h2]), rfl⟩
  · have h1' : decide (lo ≤ n) = false := by simp; omega
    go_enter Tryd.func8, Tryd.ntmps8
    go_wp2
    go_ret
    exact ⟨congrArg (fun b => Ending.returned (.bool b)) (by simp), rfl⟩
theorem causeOK_any (c : Int) (w : World) : Calls Tryd.prog 7 #[.int .i64 c] w fun e w' => e = .returned (.bool (decide (1 ≤ c ∧ c ≤ 6))) ∧ w' = w := by
  have HB : Hid (∀ w, Calls Tryd.prog 8 #[.int .i64 c, .int .i64 1, .int .i64 6] w fun e w' => e = .returned (.bool (decide (1 ≤ c ∧ c ≤ 6))) ∧ w' = w) := fun w => between_any c 1 6 w
  generalize decide (1 ≤ c ∧ c ≤ 6) = z at HB ⊢
  go_enter Tryd.func7, Tryd.ntmps7
  go_wp2_with fail
  refine (HB.out _).mono ?_
  rintro e w1 ⟨rfl, hw⟩
  subst hw
  go_wp2
  go_ret
  exact ⟨rfl, rfl⟩
def snB (s : ByteArray) : Bool := nameB (bt s) s.size && dec (s.size ≤ 8)
theorem snB_le {s : ByteArray} (h : snB s = true) : s.size ≤ 8 := by
  unfold snB dec at h
  simp at h
  exact h.2
end Go.Proofs.YtimhkeebgogfoacDoor
