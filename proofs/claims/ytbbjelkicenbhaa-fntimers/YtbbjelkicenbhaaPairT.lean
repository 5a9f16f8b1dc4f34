/- Timers in the laws: szTimerS, toTimerS (a copy of one's own), eqTimerS. -/
import Derived.Test.YtbbjelkicenbhaaProg
import Derived.Test.YtbbjelkicenbhaaGrw
import Derived.Test.YtbbjelkicenbhaaPairs2
namespace Go.Proofs.Ytbbjelkicenbhaa
open Go.RowKit Go.PlainAid Go.Sort
set_option linter.unusedVariables false
set_option maxRecDepth 20000

theorem timerInfo : (Try.prog.info? 44).map (fun i => (i.zero, i.size, i.bytes)) = some (some (.agg #[.int .i64 0, .int .i64 0]), 2, 16) := by kernel_rfl

end Go.Proofs.Ytbbjelkicenbhaa
