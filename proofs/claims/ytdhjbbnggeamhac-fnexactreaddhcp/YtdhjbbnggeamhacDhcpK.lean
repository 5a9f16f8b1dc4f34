/- Whether it is a kind of a message of leases. -/
import Derived.Test.YtdhjbbnggeamhacTests
namespace Go.Proofs.Ytdhjbbnggeamhac
open Go.RowKit Go.PlainAid
set_option linter.unusedVariables false
set_option maxRecDepth 20000
theorem kindLease_any (n : Int) (w : World) : Calls Try.prog 13 #[.int .i64 n] w fun e w' => e = .returned (.bool (dec (1 ≤ n ∧ n ≤ 8))) ∧ w' = w := by
  by_cases h0 : 1 ≤ n
  · go_enter Try.func13, Try.ntmps13
    go_wp2
    go_ret
    exact ⟨congrArg (fun b => Ending.returned (.bool b)) (by simp [dec, h0]), rfl⟩
  · have b : decide (1 ≤ n) = false := by simp; omega
    go_enter Try.func13, Try.ntmps13
    go_wp2
    go_ret
    exact ⟨congrArg (fun b => Ending.returned (.bool b)) (by rw [dec_n]; omega), rfl⟩
end Go.Proofs.Ytdhjbbnggeamhac
