/- The byte's row of the program's table of types. -/
import Derived.Test.YtmeejholckelgaaGreatProg
import Derived.WalkKit
namespace Go.Proofs.YtmeejholckelgaaGreat
theorem Tryz.infoB : (Tryz.prog.info? 5).map (fun i => (i.zero, i.size, i.bytes)) = some (some (.int .u8 0), 1, 1) := by kernel_rfl
end Go.Proofs.YtmeejholckelgaaGreat
