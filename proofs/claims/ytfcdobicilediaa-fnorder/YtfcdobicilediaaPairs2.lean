/- Rows of pairs of one's own: made, stored into, appended to. Nothing of the program is imported. -/
import Derived.Test.YtfcdobicilediaaPairs
import Derived.Laws.MakeOwn
namespace Go.Proofs.Ytfcdobicilediaa
open Go.RowKit Go.PlainAid
set_option linter.unusedVariables false

theorem flat_zero (n : Nat) : flat (List.replicate n (0, 0)) = List.replicate (n * 2) (Value.int .i64 0) := by
  induction n with
  | zero => rfl
  | succ n ih =>
    rw [List.replicate_succ, show (n + 1) * 2 = n * 2 + 1 + 1 by omega, List.replicate_succ, List.replicate_succ, ← ih]
    rfl
theorem made_flat (n : Nat) : (madeCells #[Value.int .i64 0, .int .i64 0] (n * 2)).toList = flat (List.replicate n (0, 0)) := by
  rw [flat_zero]
  apply List.ext_getElem?
  intro j
  by_cases hj : j < n * 2
  · have : j % 2 = 0 ∨ j % 2 = 1 := by omega
    rcases this with h | h <;> simp [madeCells, hj, h]
  · simp [madeCells, hj]
theorem flat_set1 (L : List (Int × Int)) (x : Int) : ∀ i, i < L.length → flat (L.set i (x, (L.getD i (0, 0)).2)) = (flat L).set (i * 2) (.int .i64 x) := by
  induction L with
  | nil => intro i hi; simp at hi
  | cons p L ih =>
    intro i hi
    cases i with
    | zero => simp [flat]
    | succ i =>
      have := ih i (by simpa using hi)
      rw [show (i + 1) * 2 = i * 2 + 1 + 1 by omega]
      simpa [flat, List.getD_eq_getElem?_getD] using this
theorem flat_set2 (L : List (Int × Int)) (y : Int) : ∀ i, i < L.length → flat (L.set i ((L.getD i (0, 0)).1, y)) = (flat L).set (i * 2 + 1) (.int .i64 y) := by
  induction L with
  | nil => intro i hi; simp at hi
  | cons p L ih =>
    intro i hi
    cases i with
    | zero => simp [flat]
    | succ i =>
      have := ih i (by simpa using hi)
      rw [show (i + 1) * 2 + 1 = i * 2 + 1 + 1 + 1 by omega]
      simpa [flat, List.getD_eq_getElem?_getD] using this

theorem OwnP.made (w : World) (e : TypeId) (B n : Nat) (hB : B ≤ w.heap.size) (hn : n ≤ maxLen) : OwnP e (w.alloc (.cells (madeCells #[Value.int .i64 0, .int .i64 0] (n * 2)) e)) B (.slice (some ⟨w.heap.size, 0, none⟩) n n) (List.replicate n (0, 0)) := by
  have := World.ownsRow_lit (base := B) (e := e) (size := 2) w (madeCells #[Value.int .i64 0, .int .i64 0] (n * 2)) n hB hn (by rw [size_madeCells])
  rw [made_flat] at this
  unfold OwnP
  rwa [List.length_replicate]
theorem OwnP.set1 {e : TypeId} {w : World} {B g cap n : Nat} {L : List (Int × Int)} (h : OwnP e w B (.slice (some ⟨g, 0, none⟩) n cap) L) (hn : L.length = n) {i : Nat} (hi : i < n) (x : Int) :
    OwnP e (w.setCell ⟨g, i * 2, none⟩ (.int .i64 x)) B (.slice (some ⟨g, 0, none⟩) n cap) (L.set i (x, (L.getD i (0, 0)).2)) ∧ w.grownBy (w.setCell ⟨g, i * 2, none⟩ (.int .i64 x)) (some g) := by
  subst hn
  have := World.ownsRow.stored h (i * 2) (.int .i64 x)
  refine ⟨?_, this.2⟩
  unfold OwnP
  rw [flat_set1 L x i hi, List.length_set]
  exact this.1
theorem OwnP.set2 {e : TypeId} {w : World} {B g cap n : Nat} {L : List (Int × Int)} (h : OwnP e w B (.slice (some ⟨g, 0, none⟩) n cap) L) (hn : L.length = n) {i : Nat} (hi : i < n) (y : Int) :
    OwnP e (w.setCell ⟨g, i * 2 + 1, none⟩ (.int .i64 y)) B (.slice (some ⟨g, 0, none⟩) n cap) (L.set i ((L.getD i (0, 0)).1, y)) ∧ w.grownBy (w.setCell ⟨g, i * 2 + 1, none⟩ (.int .i64 y)) (some g) := by
  subst hn
  have := World.ownsRow.stored h (i * 2 + 1) (.int .i64 y)
  refine ⟨?_, this.2⟩
  unfold OwnP
  rw [flat_set2 L y i hi, List.length_set]
  exact this.1
/-- Both fields. -/
theorem OwnP.set {e : TypeId} {w : World} {B g cap n : Nat} {L : List (Int × Int)} (h : OwnP e w B (.slice (some ⟨g, 0, none⟩) n cap) L) (hn : L.length = n) (hB : B ≤ g) (hg : g < w.heap.size) {i : Nat} (hi : i < n) (x y : Int) :
    OwnP e ((w.setCell ⟨g, i * 2, none⟩ (.int .i64 x)).setCell ⟨g, i * 2 + 1, none⟩ (.int .i64 y)) B (.slice (some ⟨g, 0, none⟩) n cap) (L.set i (x, y)) ∧ Below B w ((w.setCell ⟨g, i * 2, none⟩ (.int .i64 x)).setCell ⟨g, i * 2 + 1, none⟩ (.int .i64 y)) := by
  have h1 := h.set1 hn hi x
  have h2 := h1.1.set2 (by rw [List.length_set]; exact hn) hi y
  refine ⟨?_, ((Below.refl B w).grown h1.2 (by omega) (fun k hk => by cases hk; exact hB)).grown h2.2 (by simp; omega) (fun k hk => by cases hk; exact hB)⟩
  have e2 : (L.set i (x, (L.getD i (0, 0)).2)).set i (((L.set i (x, (L.getD i (0, 0)).2)).getD i (0, 0)).1, y) = L.set i (x, y) := by
    rw [List.set_set, List.getD_eq_getElem?_getD, List.getElem?_set_self (by omega)]
    rfl
  rw [e2] at h2
  exact h2.1
theorem OwnP.cell {e : TypeId} {w : World} {B g cap n : Nat} {L : List (Int × Int)} (h : OwnP e w B (.slice (some ⟨g, 0, none⟩) n cap) L) (hn : L.length = n) {i : Nat} (hi : i < n) :
    w.cell? ⟨g, i * 2, none⟩ = some (.int .i64 (L.getD i (0, 0)).1) ∧ w.cell? ⟨g, i * 2 + 1, none⟩ = some (.int .i64 (L.getD i (0, 0)).2) ∧ w.frozen? ⟨g, i * 2, none⟩ = false ∧ w.frozen? ⟨g, i * 2 + 1, none⟩ = false ∧ g < w.heap.size := by
  subst hn
  have fa := flat_at L i hi
  refine ⟨?_, ?_, World.ownsRow.frozenAt h _, World.ownsRow.frozenAt h _, (World.ownsRow.lt h g rfl).2⟩
  · rw [World.ownsRow.cellAt h _ (by omega)]; exact fa.1
  · rw [World.ownsRow.cellAt h _ (by omega)]; exact fa.2
/-- Kept by what leaves all that lay below a bound above it. -/
theorem OwnP.keep {e : TypeId} {w w' : World} {B n : Nat} {v : Value} {L : List (Int × Int)} (h : OwnP e w B v L) (hb : Below n w w') (hn : ∀ k, v.ownBlock = some k → k < n) : OwnP e w' B v L := by
  refine ⟨h.1, ?_⟩
  rcases h.2 with h' | ⟨g, cap, cur, h1, hB, hg, h4⟩
  · exact .inl h'
  · exact .inr ⟨g, cap, cur, h1, hB, by rw [hb.block _ (hn g (by rw [h1]; rfl))]; exact hg, h4⟩
theorem OwnP.now {e : TypeId} {w w' : World} {B : Nat} {v : Value} {L : List (Int × Int)} (h : OwnP e w B v L) (hb : Below w.heap.size w w') : OwnP e w' B v L :=
  h.keep hb (fun k hk => (World.ownsRow.lt h k hk).2)
theorem OwnP.lower {e : TypeId} {w : World} {B B' : Nat} {v : Value} {L : List (Int × Int)} (h : OwnP e w B v L) (hB : B' ≤ B) : OwnP e w B' v L := by
  refine ⟨h.1, ?_⟩
  rcases h.2 with h' | ⟨g, cap, cur, h1, hb, h4⟩
  · exact .inl h'
  · exact .inr ⟨g, cap, cur, h1, Nat.le_trans hB hb, h4⟩
theorem take_set {L zs : List (Int × Int)} {k : Nat} (hl : L.length = zs.length) (hk : k < zs.length) (h : L.take k = zs.take k) : (L.set k (zs.getD k (0, 0))).take (k + 1) = zs.take (k + 1) := by
  have e1 : (L.set k (zs.getD k (0, 0))).take (k + 1) = (L.set k (zs.getD k (0, 0))).take k ++ [zs.getD k (0, 0)] := by
    rw [List.take_add_one, List.getElem?_set_self (by omega)]; rfl
  have e2 : zs.take (k + 1) = zs.take k ++ [zs.getD k (0, 0)] := by
    rw [List.take_add_one, List.getD_eq_getElem?_getD, List.getElem?_eq_getElem hk]; rfl
  rw [e1, e2, List.take_set_of_le (Nat.le_refl _), h]
theorem Prs.cells {w w' : World} {a : Option Addr} {zs : List (Int × Int)} (h : Prs w a zs) (hb : Below w.heap.size w w') {k : Nat} (hk : k < zs.length) :
    ∃ b off, a = some ⟨b, off, none⟩ ∧ b < w.heap.size ∧ w'.cell? ⟨b, off + k * 2, none⟩ = some (.int .i64 (zs.getD k (0, 0)).1) ∧ w'.cell? ⟨b, off + k * 2 + 1, none⟩ = some (.int .i64 (zs.getD k (0, 0)).2) := by
  obtain ⟨b, off, rfl, hlt, hc⟩ := (h.keep hb) (by omega)
  obtain ⟨b', off', e, hlt', _⟩ := h (by omega)
  cases e
  exact ⟨b, off, rfl, hlt', (hc k hk).1, (hc k hk).2⟩

end Go.Proofs.Ytfcdobicilediaa
