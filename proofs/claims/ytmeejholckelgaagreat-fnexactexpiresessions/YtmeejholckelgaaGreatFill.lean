/- A new row of bytes that a loop fills: what its rounds keep. Nothing of the program is imported. -/
import Derived.Test.YtmeejholckelgaaGreatBytes
import Derived.Deep.OwnRows
namespace Go.Proofs.YtmeejholckelgaaGreat
open Go.RowKit Go.PlainAid
set_option linter.unusedVariables false

/-- Behind w a new block of len cells was made; the first k of them are 'f 0' .. -/
def Fill (w wr : World) (len k : Nat) (f : Nat → Int) : Prop :=
  Below w.heap.size w wr ∧ w.heap.size < wr.heap.size ∧ (∀ i, wr.frozen? ⟨w.heap.size, i, none⟩ = false) ∧ (∀ i, i < len → ∃ v, wr.cell? ⟨w.heap.size, i, none⟩ = some v) ∧ ∀ i, i < k → wr.cell? ⟨w.heap.size, i, none⟩ = some (.int .u8 (f i))

theorem fill_start (w : World) (len : Nat) (f : Nat → Int) (e : TypeId) : Fill w (w.alloc (.cells (madeCells #[.int .u8 0] len) e)) len 0 f := by
  refine ⟨(Below.refl _ _).alloc (Nat.le_refl _) _, by simp, fun i => by simp, fun i hi => ?_, fun i hi => absurd hi (by omega)⟩
  rw [World.cell?_alloc_new]
  exact ⟨_, by simp [madeCells, hi]; rfl⟩

theorem fill_step {w wr : World} {len k : Nat} {f : Nat → Int} (h : Fill w wr len k f) (hk : k < len) : Fill w (wr.setCell ⟨w.heap.size, k, none⟩ (.int .u8 (f k))) len (k + 1) f := by
  obtain ⟨hb, hz, hf, hs, hc⟩ := h
  refine ⟨hb.setCell (Nat.le_refl _) _, by simpa using hz, fun i => by simpa using hf i, fun i hi => cell?_setCell_some (hs i hi).choose_spec, fun i hi => ?_⟩
  by_cases e : i = k
  · subst e
    exact World.cell?_setCell_same _ _ _ (hs i hk).choose_spec
  · rw [World.cell?_setCell_other _ _ _ _ (fun hh => e (Addr.mk.inj hh).2.1.symm)]
    exact hc i (by omega)

theorem Fill.bytes {w wr : World} {len : Nat} {f : Nat → Int} (h : Fill w wr len len f) (hf : ∀ k, 0 ≤ f k ∧ f k ≤ 255) : Bytes wr (some ⟨w.heap.size, 0, none⟩) len f :=
  ⟨hf, fun _ => ⟨w.heap.size, 0, rfl, fun i hi => by rw [Nat.zero_add]; exact h.2.2.2.2 i hi⟩⟩
end Go.Proofs.YtmeejholckelgaaGreat
