/- Boxes with their object: a struct in a block of its own, known whole, with its type; so a row of another type is another block. Nothing of the program is used. -/
import Derived.Test.YtnlepjcjakghcaaGreatDoorJ1
namespace Go.Proofs.YtnlepjcjakghcaaGreatDoor
open Go.RowKit
set_option linter.unusedVariables false
def Bo (w : World) (q : Nat) (t : TypeId) (cs : List Value) : Prop := w.heap[q]? = some (.cells cs.toArray t (0, 0))
section
variable {w w' : World} {q : Nat} {t : TypeId} {cs : List Value}
theorem Bo.lt (h : Bo w q t cs) : q < w.heap.size := (Array.getElem?_eq_some_iff.1 h).1
theorem Bo.bx (h : Bo w q t cs) : Bx w q cs :=
  Bx.of (fun j v hv => by unfold World.cell?; rw [h]; simpa using hv) (fun j hj => by
    unfold World.frozen?
    rw [h]
    simp)
theorem Bo.new (w : World) (cs : Array Value) (t : TypeId) : Bo (w.alloc (.cells cs t)) w.heap.size t cs.toList := by
  show (w.heap.push _)[w.heap.size]? = _
  rw [Array.getElem?_push_size]
theorem Bo.keep {B : Nat} (h : Bo w q t cs) (hb : Below B w w') (hq : q < B) : Bo w' q t cs := (hb.block q hq).trans h
theorem Bo.below (h : Bo w q t cs) (hb : Below w.heap.size w w') : Bo w' q t cs := h.keep hb h.lt
end
end Go.Proofs.YtnlepjcjakghcaaGreatDoor
