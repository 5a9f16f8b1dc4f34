/- A store into a block that is new leaves a world that has come of the elder one by draws and new blocks alone. Nothing of the program is imported. -/
import Derived.Test.YtappekglflgodaaDoorKeeps
namespace Go.Proofs.YtappekglflgodaaDoor
open Go.RowKit Go.PlainAid Go.Sort
set_option linter.unusedVariables false
theorem modify_app {α : Type} (A B : Array α) (i : Nat) (f : α → α) (h : A.size ≤ i) : (A ++ B).modify i f = A ++ B.modify (i - A.size) f := by
  apply Array.ext
  · simp
  · intro j h1 h2
    rw [Array.getElem_modify]
    by_cases hj : j < A.size
    · rw [if_neg (by omega), Array.getElem_append_left hj, Array.getElem_append_left hj]
    · rw [Array.getElem_append_right (by omega), Array.getElem_append_right (by omega), Array.getElem_modify]
      by_cases e : i = j
      · rw [if_pos e, if_pos (by omega)]
      · rw [if_neg e, if_neg (by omega)]
theorem Grw.set {w w' : World} (h : Grw w w') (a : Addr) (v : Value) (ha : w.heap.size ≤ a.block) : Grw w (w'.setCell a v) := by
  obtain ⟨f, hf⟩ : ∃ f : Obj → Obj, ∀ w : World, w.setCell a v = { w with heap := w.heap.modify a.block f } := ⟨_, fun _ => rfl⟩
  obtain ⟨q, os, rfl⟩ := h
  refine ⟨q, os.modify (a.block - w.heap.size) f, ?_⟩
  rw [hf]
  unfold grow
  have e1 := modify_app (w.drewN q).heap os a.block f ha
  show ({ heap := ((w.drewN q).heap ++ os).modify a.block f, tape := _, drawn := _, os := _, output := _ } : World) = _
  rw [e1]
  rfl
end Go.Proofs.YtappekglflgodaaDoor
