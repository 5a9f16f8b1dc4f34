/- Small tests of the program's chapter of guests: between, causes, bytes, credit, times; short names of the model. -/
import Derived.Test.YtappekglflgodabDoorNumOf
import Derived.Test.YtappekglflgodabDoorTests
import Derived.Test.YtappekglflgodabDoorName
namespace Go.Proofs.YtappekglflgodabDoor
open Go.RowKit Go.PlainAid
set_option linter.unusedVariables false
set_option maxRecDepth 20000
theorem between_any (n lo hi : Int) (w : World) : Calls Tryd.prog 35 #[.int .i64 n, .int .i64 lo, .int .i64 hi] w fun e w' => e = .returned (.bool (decide (lo ≤ n ∧ n ≤ hi))) ∧ w' = w := by
  by_cases h1 : lo ≤ n
  · by_cases h2 : n ≤ hi
    · go_enter Tryd.func35, Tryd.ntmps35
      go_wp2
      go_ret
      exact ⟨congrArg (fun b => Ending.returned (.bool b)) (by simp [h1, h2]), rfl⟩
    · go_enter Tryd.func35, Tryd.ntmps35
      go_wp2
      go_ret
      exact ⟨congrArg (fun b => Ending.returned (.bool b)) (by simp [h2]), rfl⟩
  · have h1' : decide (lo ≤ n) = false := by simp; omega
    go_enter Tryd.func35, Tryd.ntmps35
    go_wp2
    go_ret
    exact ⟨congrArg (fun b => Ending.returned (.bool b)) (by simp), rfl⟩
theorem timeOK_any (n : Int) (w : World) : Calls Tryd.prog 20 #[.int .i64 n] w fun e w' => e = .returned (.bool (dec (0 ≤ n ∧ n ≤ 100000))) ∧ w' = w := by
  have HB : Hid (∀ w, Calls Tryd.prog 35 #[.int .i64 n, .int .i64 0, .int .i64 100000] w fun e w' => e = .returned (.bool (dec (0 ≤ n ∧ n ≤ 100000))) ∧ w' = w) := fun w => between_any n 0 100000 w
  generalize dec (0 ≤ n ∧ n ≤ 100000) = z at HB ⊢
  go_enter Tryd.func20, Tryd.ntmps20
  go_wp2_with fail
  refine (HB.out _).mono ?_
  rintro e w1 ⟨rfl, hw⟩
  subst hw
  go_wp2
  go_ret
  exact ⟨rfl, rfl⟩
def snB (s : ByteArray) : Bool := nameB (bt s) s.size && dec (s.size ≤ 8)
theorem snB_le {s : ByteArray} (h : snB s = true) : s.size ≤ 8 := by
  unfold snB dec at h
  simp at h
  exact h.2
end Go.Proofs.YtappekglflgodabDoor
