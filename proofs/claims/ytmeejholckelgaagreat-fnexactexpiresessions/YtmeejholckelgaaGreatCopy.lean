/- The contracts of laws.toByteS (a copy in new memory) and laws.eqByteS (whether two rows are one). -/
import Derived.Test.YtmeejholckelgaaGreatProg
import Derived.Test.YtmeejholckelgaaGreatFill
import Derived.BigQuiet
import Derived.Deep.QuietTactic
namespace Go.Proofs.YtmeejholckelgaaGreat
open Go.RowKit Go.PlainAid
set_option linter.unusedVariables false
set_option maxRecDepth 20000

theorem Tryz.infoByte : (Tryz.prog.info? 5).map (fun i => (i.zero, i.size, i.bytes)) = some (some (.int .u8 0), 1, 1) := by kernel_rfl

end Go.Proofs.YtmeejholckelgaaGreat
