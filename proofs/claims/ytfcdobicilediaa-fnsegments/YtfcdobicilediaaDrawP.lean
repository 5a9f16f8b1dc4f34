/- A drawn packet. -/
import Derived.Test.YtfcdobicilediaaDrawS
import Derived.Deep.RegionHeld3
namespace Go.Proofs.Ytfcdobicilediaa.DrawP
open Go.RowKit Go.PlainAid Go.Proofs.Ytfcdobicilediaa
set_option linter.unusedVariables false
set_option maxRecDepth 20000

/-- The region's goal by a letter, with the way in and the way out. -/
theorem region_name {P : Program} {md : Region.Mode} {ops : Array Oper} {Q : Exit → Act → World → Prop} {S : World → Prop} {n : Nat} {l : Array Bool} {a : Act} {w : World}
    (h : ∀ G : Nat → Array Bool → Act → World → Prop, (∀ n l a w, wpAnyH P md ops Q S n l a w → G n l a w) → (∀ n l a w, G n l a w → wpAnyH P md ops Q S n l a w) → G n l a w) : wpAnyH P md ops Q S n l a w :=
  h _ (fun _ _ _ _ h => h) (fun _ _ _ _ h => h)
/-- Of some numbers one. -/
def kf (n : Nat) : Int := [6, 17, 1, 99].getD n 0
theorem kf_bd (n : Nat) : 0 ≤ kf n ∧ kf n ≤ 255 := by
  unfold kf
  rcases (show n = 0 ∨ n = 1 ∨ n = 2 ∨ n = 3 ∨ 4 ≤ n by omega) with rfl | rfl | rfl | rfl | h
  all_goals first | decide | skip
  rw [List.getD_eq_getElem?_getD, List.getElem?_eq_none (by simpa using h)]
  decide
theorem pickI {W : World} {g : Nat} (h : Boxed W g [.int .i64 6, .int .i64 17, .int .i64 1, .int .i64 99]) (n : Nat) (hn : n < 4) : W.cell? ⟨g, n, none⟩ = some (.int .i64 (kf n)) := by
  rcases (show n = 0 ∨ n = 1 ∨ n = 2 ∨ n = 3 by omega) with rfl | rfl | rfl | rfl
  · exact h.at 0 _ rfl
  · exact h.at 1 _ rfl
  · exact h.at 2 _ rfl
  · exact h.at 3 _ rfl
theorem tx_le {b : ByteArray} (h : b = ⟨#[]⟩ ∨ b = ⟨#[97]⟩ ∨ b = ⟨#[98, 111, 100, 121]⟩) : b.size ≤ 4 := by
  rcases h with rfl | rfl | rfl <;> decide
theorem gr_set1 {w W : World} {q : Nat} (hW : w.grownBy W (some q)) (i : Nat) (v : Value) : w.grownBy (W.setCell ⟨w.heap.size, i, none⟩ v) (some q) :=
  ⟨hW.os, hW.tape, hW.output, by simpa using hW.size, fun b hl hr => by rw [Below.heap_setCell _ _ _ _ (by show b ≠ w.heap.size; omega)]; exact hW.block b hl hr⟩

end Go.Proofs.Ytfcdobicilediaa.DrawP
