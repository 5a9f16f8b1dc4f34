/- The walk of laws.FnExactCheck16: it answers true at every row of bytes, and turns nothing that was there. -/
import Derived.Test.YtimhkeebgogfoabDoorSum
import Derived.Test.YtimhkeebgogfoabDoorCopy
namespace Go.Proofs.YtimhkeebgogfoabDoor
open Go.RowKit Go.PlainAid Go.Proofs.YtimhkeebgogfoabDoor.Pl
set_option linter.unusedVariables false

theorem Fill.old {w wr : World} {len k : Nat} {f : Nat → Int} (h : Fill w wr len k f) {a : Option Addr} {n : Nat} {g : Nat → Int} (hb : Bytes w a n g) (hlt : ∀ b off, 0 < n → a = some ⟨b, off, none⟩ → b < w.heap.size) : Bytes wr a n g :=
  hb.below h.1 hlt

end Go.Proofs.YtimhkeebgogfoabDoor
