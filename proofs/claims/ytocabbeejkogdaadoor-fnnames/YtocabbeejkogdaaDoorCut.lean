/- The model's l00Cut: a text cut at its points. -/
import Derived.Test.YtocabbeejkogdaaDoorProg
import Derived.Test.YtocabbeejkogdaaDoorPieces
import Derived.Test.YtocabbeejkogdaaDoorOwn
import Derived.Deep.AppendLies
import Derived.WalkSpells
namespace Go.Proofs.YtocabbeejkogdaaDoor
open Go.RowKit Go.PlainAid
set_option linter.unusedVariables false
theorem Tryd.infoS : (Tryd.prog.info? 9).map (fun i => (i.zero, i.size, i.bytes)) = some (some (.string ⟨#[]⟩), 1, 16) := by kernel_rfl

/-- The slice value owns the strings ps. -/
def OwnS (w : World) (B : Nat) (v : Value) (ps : List ByteArray) : Prop := w.ownsRow B 9 1 v ps.length (ps.map Value.string)

end Go.Proofs.YtocabbeejkogdaaDoor
