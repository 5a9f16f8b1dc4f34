/- A slice of pairs of numbers: one that came in; its cells as a list of pairs. Nothing of the program is imported. -/
import Derived.WalkKit
import Derived.PlainAid
import Derived.OpenShut
import Derived.Below
import Derived.Deep.SlicePairs
import Derived.Laws.AppendOwn
import Derived.Laws.OwnMore
namespace Go.Proofs.Ytfcdobicilediaa
open Go.RowKit Go.PlainAid
set_option linter.unusedVariables false

/-- A slice of pairs that came in. -/
def IsPairs (w : World) (a : Option Addr) (len cap : Nat) (zs : List (Int × Int)) : Prop :=
  (a = none ∧ len = 0 ∧ cap = 0 ∧ zs = []) ∨
  ∃ x, a = some x ∧ len ≤ cap ∧ cap ≤ maxLen ∧ zs.length = len ∧ ∀ i, i < len → w.cell? (x.add (i * 2)) = some (.int .i64 (zs.getD i (0, 0)).1) ∧ w.cell? (x.add (i * 2 + 1)) = some (.int .i64 (zs.getD i (0, 0)).2)

theorem list_of {n : Nat} {p : Nat → Int → Int → Prop} (h : ∀ i, i < n → ∃ x y, p i x y) : ∃ zs : List (Int × Int), zs.length = n ∧ ∀ i, i < n → p i (zs.getD i (0, 0)).1 (zs.getD i (0, 0)).2 := by
  induction n with
  | zero => exact ⟨[], rfl, fun i hi => absurd hi (by omega)⟩
  | succ n ih =>
    obtain ⟨zs, hl, hz⟩ := ih (fun i hi => h i (by omega))
    obtain ⟨x, y, hxy⟩ := h n (by omega)
    refine ⟨zs ++ [(x, y)], by simp [hl], fun i hi => ?_⟩
    by_cases hi' : i < n
    · have := hz i hi'
      rwa [List.getD_eq_getElem?_getD, List.getElem?_append_left (by omega), ← List.getD_eq_getElem?_getD]
    · have e : i = n := by omega
      subst e
      simp [hl, hxy]
theorem pairs_of {w : World} {x : Addr} {len cap : Nat} (hl : len ≤ cap) (hm : cap ≤ maxLen) (h : ∀ i, i < len → ∃ n0 n1, w.cell? (x.add (i * 2)) = some (.int .i64 n0) ∧ w.cell? (x.add (i * 2 + 1)) = some (.int .i64 n1)) :
    ∃ zs, IsPairs w (some x) len cap zs := by
  obtain ⟨zs, h1, h2⟩ := list_of (p := fun i n0 n1 => w.cell? (x.add (i * 2)) = some (.int .i64 n0) ∧ w.cell? (x.add (i * 2 + 1)) = some (.int .i64 n1)) h
  exact ⟨zs, .inr ⟨x, rfl, hl, hm, h1, h2⟩⟩

/-- The pairs zs lie at a (where there is one at least). -/
def Prs (w : World) (a : Option Addr) (zs : List (Int × Int)) : Prop :=
  0 < zs.length → ∃ b off, a = some ⟨b, off, none⟩ ∧ b < w.heap.size ∧ ∀ i, i < zs.length → w.cell? ⟨b, off + i * 2, none⟩ = some (.int .i64 (zs.getD i (0, 0)).1) ∧ w.cell? ⟨b, off + (i * 2 + 1), none⟩ = some (.int .i64 (zs.getD i (0, 0)).2)

theorem add_none (b off i : Nat) : (⟨b, off, none⟩ : Addr).add i = ⟨b, off + i, none⟩ := by unfold Addr.add; split <;> simp_all
theorem IsPairs.prs {w : World} {a : Option Addr} {len cap : Nat} {zs : List (Int × Int)} (h : IsPairs w a len cap zs) : Prs w a zs ∧ zs.length = len ∧ len ≤ cap ∧ cap ≤ maxLen ∧ (a = none → cap = 0) := by
  rcases h with ⟨rfl, rfl, rfl, rfl⟩ | ⟨x, rfl, hl, hm, hz, hcell⟩
  · exact ⟨fun h => absurd h (by simp), rfl, Nat.le_refl _, Nat.zero_le _, fun _ => rfl⟩
  · refine ⟨fun h0 => ?_, hz, hl, hm, fun h => (by cases h)⟩
    obtain ⟨b, off, spot⟩ := x
    have hc := (hcell 0 (by omega)).1
    have hspot : spot = none := by simpa [Addr.add] using World.cell?_spot hc
    subst hspot
    refine ⟨b, off, rfl, by simpa [Addr.add] using World.block_lt_of_cell? w _ hc, fun i hi => ?_⟩
    have := hcell i (by omega)
    rwa [add_none, add_none] at this
theorem Prs.below {w w' : World} {a : Option Addr} {zs : List (Int × Int)} {n : Nat} (h : Prs w a zs) (hb : Below n w w') (hn : ∀ b off, a = some ⟨b, off, none⟩ → b < n) : Prs w' a zs := by
  intro h0
  obtain ⟨b, off, rfl, hlt, hc⟩ := h h0
  have := hn b off rfl
  refine ⟨b, off, rfl, Nat.lt_of_lt_of_le hlt hb.size, fun i hi => ?_⟩
  rw [hb.cell (p := ⟨b, off + i * 2, none⟩) this, hb.cell (p := ⟨b, off + (i * 2 + 1), none⟩) this]
  exact hc i hi
theorem Prs.keep {w w' : World} {a : Option Addr} {zs : List (Int × Int)} (h : Prs w a zs) (hb : Below w.heap.size w w') : Prs w' a zs := by
  intro h0
  obtain ⟨b, off, rfl, hlt, hc⟩ := h h0
  refine ⟨b, off, rfl, Nat.lt_of_lt_of_le hlt hb.size, fun i hi => ?_⟩
  rw [hb.cell (p := ⟨b, off + i * 2, none⟩) hlt, hb.cell (p := ⟨b, off + (i * 2 + 1), none⟩) hlt]
  exact hc i hi

/-- The cells of pairs. -/
def flat (zs : List (Int × Int)) : List Value := zs.flatMap fun p => [.int .i64 p.1, .int .i64 p.2]
theorem flat_len (zs : List (Int × Int)) : (flat zs).length = zs.length * 2 := by
  induction zs with
  | nil => rfl
  | cons p zs ih => simp only [flat, List.flatMap_cons, List.length_append, List.length_cons, List.length_nil] at *; omega
theorem flat_append (a b : List (Int × Int)) : flat (a ++ b) = flat a ++ flat b := by simp [flat]
theorem flat_at (zs : List (Int × Int)) : ∀ i, i < zs.length → (flat zs)[i * 2]? = some (.int .i64 (zs.getD i (0, 0)).1) ∧ (flat zs)[i * 2 + 1]? = some (.int .i64 (zs.getD i (0, 0)).2) := by
  induction zs with
  | nil => intro i hi; simp at hi
  | cons p zs ih =>
    intro i hi
    cases i with
    | zero => simp [flat]
    | succ i =>
      have := ih i (by simpa using hi)
      have e1 : (i + 1) * 2 = i * 2 + 1 + 1 := by omega
      have e2 : (i + 1) * 2 + 1 = i * 2 + 1 + 1 + 1 := by omega
      rw [e1]
      simpa [flat, List.getD_eq_getElem?_getD] using this
theorem flat_one (zs : List (Int × Int)) : ∀ u ∈ flat zs, u.oneCell' = true := by
  intro u hu
  obtain ⟨p, -, hp⟩ := List.mem_flatMap.1 hu
  simp at hp
  rcases hp with rfl | rfl <;> rfl

/-- The slice value v owns the pairs L, in a block from B on. -/
def OwnP (e : TypeId) (w : World) (B : Nat) (v : Value) (L : List (Int × Int)) : Prop := w.ownsRow B e 2 v L.length (flat L)
theorem OwnP.slice {e : TypeId} {w : World} {B : Nat} {v : Value} {L : List (Int × Int)} (h : OwnP e w B v L) :
    ∃ a cap, v = .slice a L.length cap ∧ Prs w a L ∧ L.length ≤ cap ∧ cap ≤ maxLen ∧ ∀ b off, a = some ⟨b, off, none⟩ → B ≤ b ∧ b < w.heap.size := by
  rcases h.2 with ⟨h1, h2⟩ | ⟨g, cap, cur, h1, hB, hg, hle, hm, hs, ht⟩
  · have e0 : L = [] := by simpa using h2
    subst e0
    exact ⟨none, 0, by simpa using h1, fun h => absurd h (by simp), Nat.le_refl _, Nat.zero_le _, fun b off h => (by cases h)⟩
  · have hgl : g < w.heap.size := (World.ownsRow.lt h g (by rw [h1]; rfl)).2
    refine ⟨some ⟨g, 0, none⟩, cap, h1, fun h0 => ⟨g, 0, rfl, hgl, fun i hi => ?_⟩, hle, hm, fun b off h => by cases h; exact ⟨hB, hgl⟩⟩
    have hc := World.ownsRow.cells h (g := g) (by rw [h1]; rfl)
    have fa := flat_at L i hi
    have c1 := hc (i * 2) _ fa.1
    have c2 := hc (i * 2 + 1) _ fa.2
    rw [add_none] at c1 c2
    exact ⟨c1, c2⟩
end Go.Proofs.Ytfcdobicilediaa
