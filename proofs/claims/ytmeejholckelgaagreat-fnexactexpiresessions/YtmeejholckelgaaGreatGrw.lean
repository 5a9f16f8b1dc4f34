/- Worlds that have come of another by draws and new blocks alone. Nothing of the program is imported. -/
import Derived.WalkKit
import Derived.PlainAid
import Derived.Below
import Derived.Shelf.SlSortCmp.QuietGrown
import Derived.BigQuiet
namespace Go.Proofs.YtmeejholckelgaaGreat
open Go.RowKit Go.PlainAid Go.Sort
set_option linter.unusedVariables false

/-- Draws, and new blocks alone. -/
def Grw (w w' : World) : Prop := ∃ q os, w' = grow (w.drewN q) os
theorem Grw.refl (w : World) : Grw w w := ⟨0, #[], by rw [grow_empty]; rfl⟩
theorem Grw.drew {w w' : World} (h : Grw w w') : Grw w w'.drew := by
  obtain ⟨q, os, rfl⟩ := h
  exact ⟨q + 1, os, by rw [drew_grow]; congr 1⟩
theorem Grw.alloc {w w' : World} (h : Grw w w') (o : Obj) : Grw w (w'.alloc o) := by
  obtain ⟨q, os, rfl⟩ := h
  exact ⟨q, os ++ #[o], by rw [alloc_eq_grow, grow_grow]⟩
theorem Grw.trans {w w1 w2 : World} (h : Grw w w1) (h2 : Grw w1 w2) : Grw w w2 := by
  obtain ⟨q, os, rfl⟩ := h
  obtain ⟨r, os2, rfl⟩ := h2
  refine ⟨q + r, os ++ os2, ?_⟩
  show grow (grow ((w.drewN q).drewN r) os) os2 = _
  rw [grow_grow, World.drewN_drewN]
theorem below_grow (w : World) (q : Nat) (os : Array Obj) : Below w.heap.size w (grow (w.drewN q) os) := by
  refine ⟨rfl, rfl, rfl, ?_, fun k hk => ?_⟩
  · show w.heap.size ≤ (w.heap ++ os).size
    rw [Array.size_append]; omega
  · exact heap_grow_old (w.drewN q) os hk
theorem Grw.below {w w' : World} (h : Grw w w') : Below w.heap.size w w' := by
  obtain ⟨q, os, rfl⟩ := h
  exact below_grow w q os

theorem grown_cell {w wr : World} {b off : Nat} {v : Value} (hb : b < w.heap.size) (hG : Grw w wr) (h : wr.cell? ⟨b, off, none⟩ = some v) (n : Nat) (os : Array Obj) : (grow (wr.drewN n) os).cell? ⟨b, off, none⟩ = some v :=
  cell_grown (Nat.lt_of_lt_of_le hb hG.below.size) h n os

end Go.Proofs.YtmeejholckelgaaGreat
