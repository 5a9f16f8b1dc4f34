/- Rows of structs, K cells an element: opened, stored into, kept. Nothing of the program is imported. -/
import Derived.WalkKit
import Derived.PlainAid
import Derived.OpenShut
import Derived.Below
import Derived.Deep.Slices
import Derived.Laws.AppendOwn
import Derived.Laws.OwnMore
import Derived.Laws.MakeOwn
namespace Go.Proofs.YtmeejholckelgaaGreat
open Go.RowKit Go.PlainAid
set_option linter.unusedVariables false

/-- The xs lie at a, K cells an element, each by R. -/
def Rw {α : Type} (R : World → α → List Value → Prop) (K : Nat) (w : World) (a : Option Addr) (xs : List α) : Prop :=
  0 < xs.length → ∃ b off, a = some ⟨b, off, none⟩ ∧ b < w.heap.size ∧ ∀ i x, xs[i]? = some x → ∃ vs, vs.length = K ∧ R w x vs ∧ ∀ j v, vs[j]? = some v → w.cell? ⟨b, off + i * K + j, none⟩ = some v
/-- What R says is kept by all that leaves old blocks as they were. -/
def Kp {α : Type} (R : World → α → List Value → Prop) : Prop := ∀ w w' x vs, R w x vs → Below w.heap.size w w' → R w' x vs

theorem Rw.keep {α : Type} {R : World → α → List Value → Prop} {K : Nat} {w w' : World} {a : Option Addr} {xs : List α} (h : Rw R K w a xs) (hk : Kp R) (hb : Below w.heap.size w w') : Rw R K w' a xs := by
  intro h0
  obtain ⟨b, off, rfl, hlt, hc⟩ := h h0
  refine ⟨b, off, rfl, Nat.lt_of_lt_of_le hlt hb.size, fun i x hx => ?_⟩
  obtain ⟨vs, h1, h2, h3⟩ := hc i x hx
  refine ⟨vs, h1, hk _ _ _ _ h2 hb, fun j v hv => ?_⟩
  rw [hb.cell (p := ⟨b, off + i * K + j, none⟩) hlt]
  exact h3 j v hv
/-- The element at k, read later. -/
theorem Rw.at {α : Type} {R : World → α → List Value → Prop} {K : Nat} {w w' : World} {a : Option Addr} {xs : List α} (h : Rw R K w a xs) (hk : Kp R) (hb : Below w.heap.size w w') {k : Nat} {x : α} (hx : xs[k]? = some x) :
    ∃ b off vs, a = some ⟨b, off, none⟩ ∧ b < w.heap.size ∧ vs.length = K ∧ R w' x vs ∧ ∀ j v, vs[j]? = some v → w'.cell? ⟨b, off + k * K + j, none⟩ = some v := by
  have h0 : 0 < xs.length := by
    have := (List.getElem?_eq_some_iff.1 hx).1
    omega
  obtain ⟨b, off, e, hlt, _⟩ := h h0
  obtain ⟨b', off', e', _, hc⟩ := (h.keep hk hb) h0
  rw [e] at e'
  cases e'
  obtain ⟨vs, h1, h2, h3⟩ := hc k x hx
  exact ⟨b, off, vs, e, hlt, h1, h2, h3⟩
theorem Rw.none {α : Type} {R : World → α → List Value → Prop} {K : Nat} {w : World} {a : Option Addr} : Rw R K w a ([] : List α) := fun h => absurd h (by simp)

theorem addn (b off i : Nat) : (⟨b, off, Option.none⟩ : Addr).add i = ⟨b, off + i, Option.none⟩ := by unfold Addr.add; split <;> simp_all
/-- A slice that came in. -/
theorem rows_of {H : Type} {enc : TypeId × Value → H} {P : Program} {w : World} {base : Nat} {spare : Nat → Bool} {held : Bool} {t e : TypeId} {fuel : Nat} {cs : List Value} {x : DataW H × List MemPlace} {α : Type} [Inhabited α]
    (R : World → α → List Value → Prop) (K : Nat) (ht : P.underlying t = some (.slice e)) (hK : P.cellsOf e = K) (h0K : 0 < K)
    (he : ∀ n cs y, DataW.trod enc P w base spare held n e cs = some y → ∃ d, R w d cs) (h : DataW.trod enc P w base spare held fuel t cs = some x) :
    ∃ (a : Option Addr) (len cap : Nat) (xs : List α), cs = [.slice a len cap] ∧ xs.length = len ∧ len ≤ cap ∧ cap ≤ maxLen ∧ (a = none → cap = 0) ∧ Rw R K w a xs := by
  rcases Go.Deep.open_slice ht h with ⟨rfl, _⟩ | ⟨a, len, cap, m, n, D, Pl, rfl, hb, hl, hm, hmm, _, hx⟩
  · exact ⟨none, 0, 0, [], rfl, rfl, Nat.le_refl _, Nat.zero_le _, fun _ => rfl, Rw.none⟩
  have hlm : len ≤ m := by rw [hmm]; split <;> omega
  obtain ⟨f, hf⟩ := Go.Deep.choose_lt (n := len) (p := fun i d => ∃ vs, vs.length = K ∧ R w d vs ∧ ∀ j v, vs[j]? = some v → w.cell? ((a.add (i * K)).add j) = some v) (fun i hi => by
    obtain ⟨cs', h1, h2⟩ := hx i (by omega)
    rw [hK] at h1
    obtain ⟨_, hlen, hcell⟩ := World.cells?_some h1
    obtain ⟨d, hd⟩ := he _ _ _ h2
    refine ⟨d, cs', hlen, hd, fun j v hv => ?_⟩
    have hj := (List.getElem?_eq_some_iff.1 hv).1
    rw [hcell j (by omega)]
    exact hv)
  refine ⟨some a, len, cap, (List.range len).map f, rfl, by simp, hl, hm, (fun h => by cases h), fun h0 => ?_⟩
  have h0 : 0 < len := by simpa using h0
  obtain ⟨b, off, spot⟩ := a
  have hs : spot = none := by
    obtain ⟨vs, h1, _, h3⟩ := hf 0 h0
    have hc := h3 0 (vs[0]'(by omega)) (List.getElem?_eq_getElem _)
    simpa [Addr.add] using World.cell?_spot hc
  subst hs
  have hadd : ∀ i j : Nat, ((⟨b, off, none⟩ : Addr).add i).add j = ⟨b, off + i + j, none⟩ := by
    intro i j
    rw [addn, addn]
  refine ⟨b, off, rfl, ?_, fun i x hx => ?_⟩
  · obtain ⟨vs, h1, _, h3⟩ := hf 0 h0
    have hc := h3 0 (vs[0]'(by omega)) (List.getElem?_eq_getElem _)
    rw [hadd] at hc
    exact World.block_lt_of_cell? w _ hc
  · have hi : i < len := by
      have := (List.getElem?_eq_some_iff.1 hx).1
      simpa using this
    rw [List.getElem?_map, List.getElem?_range hi] at hx
    simp only [Option.map_some, Option.some.injEq] at hx
    subst hx
    obtain ⟨vs, h1, h2, h3⟩ := hf i hi
    refine ⟨vs, h1, h2, fun j v hv => ?_⟩
    rw [← hadd]
    exact h3 j v hv

/-- Cells set behind one another. -/
def sets (F : List Value) (i : Nat) : List Value → List Value
  | [] => F
  | v :: vs => sets (F.set i v) (i + 1) vs
def wsets (w : World) (g i : Nat) : List Value → World
  | [] => w
  | v :: vs => wsets (w.setCell ⟨g, i, none⟩ v) g (i + 1) vs
theorem sets_lo : ∀ (vs : List Value) (F : List Value) (i m : Nat), m < i → (sets F i vs)[m]? = F[m]?
  | [], F, i, m, h => rfl
  | v :: vs, F, i, m, h => by
    unfold sets
    rw [sets_lo vs _ (i + 1) m (by omega), List.getElem?_set_ne (by omega)]
theorem sets_at : ∀ (vs : List Value) (F : List Value) (i j : Nat) (v : Value), i + vs.length ≤ F.length → vs[j]? = some v → (sets F i vs)[i + j]? = some v
  | [], F, i, j, v, h, hv => by simp at hv
  | u :: vs, F, i, 0, v, h, hv => by
    unfold sets
    simp at hv h
    rw [sets_lo vs _ (i + 1) (i + 0) (by omega), Nat.add_zero, List.getElem?_set_self (by omega), hv]
  | u :: vs, F, i, j + 1, v, h, hv => by
    unfold sets
    simp at hv h
    have := sets_at vs (F.set i u) (i + 1) j v (by simp; omega) hv
    rwa [show i + 1 + j = i + (j + 1) by omega] at this
theorem sets_len : ∀ (vs : List Value) (F : List Value) (i : Nat), (sets F i vs).length = F.length
  | [], F, i => rfl
  | v :: vs, F, i => by unfold sets; rw [sets_len vs]; simp

theorem wsets4 (w : World) (g i : Nat) (v0 v1 v2 v3 : Value) : wsets w g i [v0, v1, v2, v3] = (((w.setCell ⟨g, i, Option.none⟩ v0).setCell ⟨g, i + 1, Option.none⟩ v1).setCell ⟨g, i + 2, Option.none⟩ v2).setCell ⟨g, i + 3, Option.none⟩ v3 := rfl
theorem wsets5 (w : World) (g i : Nat) (v0 v1 v2 v3 v4 : Value) : wsets w g i [v0, v1, v2, v3, v4] = ((((w.setCell ⟨g, i, Option.none⟩ v0).setCell ⟨g, i + 1, Option.none⟩ v1).setCell ⟨g, i + 2, Option.none⟩ v2).setCell ⟨g, i + 3, Option.none⟩ v3).setCell ⟨g, i + 4, Option.none⟩ v4 := rfl
theorem wsets6 (w : World) (g i : Nat) (v0 v1 v2 v3 v4 v5 : Value) : wsets w g i [v0, v1, v2, v3, v4, v5] = (((((w.setCell ⟨g, i, Option.none⟩ v0).setCell ⟨g, i + 1, Option.none⟩ v1).setCell ⟨g, i + 2, Option.none⟩ v2).setCell ⟨g, i + 3, Option.none⟩ v3).setCell ⟨g, i + 4, Option.none⟩ v4).setCell ⟨g, i + 5, Option.none⟩ v5 := rfl
theorem grown_refl (w : World) (r : Option Nat) : w.grownBy w r := ⟨rfl, rfl, rfl, Nat.le_refl _, fun _ _ _ => rfl⟩
theorem grown_tr {w w1 w2 : World} {r : Option Nat} (h : w.grownBy w1 r) (h2 : w1.grownBy w2 r) : w.grownBy w2 r :=
  ⟨h2.os.trans h.os, h2.tape.trans h.tape, h2.output.trans h.output, Nat.le_trans h.size h2.size, fun k hk hr => (h2.block k (Nat.lt_of_lt_of_le hk h.size) hr).trans (h.block k hk hr)⟩
theorem owns_sets {e : TypeId} {B K g n cap : Nat} : ∀ (vs : List Value) (w : World) (F : List Value) (i : Nat), w.ownsRow B e K (.slice (some ⟨g, 0, none⟩) n cap) n F →
    (wsets w g i vs).ownsRow B e K (.slice (some ⟨g, 0, none⟩) n cap) n (sets F i vs) ∧ w.grownBy (wsets w g i vs) (some g)
  | [], w, F, i, h => ⟨h, grown_refl _ _⟩
  | v :: vs, w, F, i, h => by
    have h1 := World.ownsRow.stored h i v
    have h2 := owns_sets vs _ _ (i + 1) h1.1
    exact ⟨h2.1, grown_tr h1.2 h2.2⟩
theorem below_row {w w' : World} {B g : Nat} (h : w.grownBy w' (some g)) (hB : B ≤ g) (hs : B ≤ w.heap.size) : Below B w w' :=
  (Below.refl B w).grown h hs (fun k hk => by cases hk; exact hB)
theorem owns_keep {e : TypeId} {w w' : World} {B K n m : Nat} {v : Value} {F : List Value} (h : w.ownsRow B e K v n F) (hb : Below m w w') (hm : ∀ k, v.ownBlock = some k → k < m) : w'.ownsRow B e K v n F := by
  refine ⟨h.1, ?_⟩
  rcases h.2 with h' | ⟨g, cap, cur, h1, hB, hg, h4⟩
  · exact .inl h'
  · exact .inr ⟨g, cap, cur, h1, hB, by rw [hb.block _ (hm g (by rw [h1]; rfl))]; exact hg, h4⟩
theorem owns_now {e : TypeId} {w w' : World} {B K n : Nat} {v : Value} {F : List Value} (h : w.ownsRow B e K v n F) (hb : Below w.heap.size w w') : w'.ownsRow B e K v n F :=
  owns_keep h hb (fun k hk => (World.ownsRow.lt h k hk).2)
/-- What a store into element k wants to know. -/
theorem owns_cell {e : TypeId} {w : World} {B K n g cap : Nat} {F : List Value} (h : w.ownsRow B e K (.slice (some ⟨g, 0, none⟩) n cap) n F) {k j : Nat} (hk : k < n) (hj : j < K) :
    (∃ u, w.cell? ⟨g, k * K + j, none⟩ = some u) ∧ w.frozen? ⟨g, k * K + j, none⟩ = false := by
  have hlt : k * K + j < n * K := by
    have : (k + 1) * K ≤ n * K := Nat.mul_le_mul_right _ hk
    rw [Nat.add_mul] at this
    omega
  refine ⟨?_, World.ownsRow.frozenAt h _⟩
  rw [World.ownsRow.cellAt h _ hlt, List.getElem?_eq_getElem (by rw [h.1]; exact hlt)]
  exact ⟨_, rfl⟩
theorem owns_made (w : World) (e : TypeId) (B n K : Nat) (z : Array Value) (hB : B ≤ w.heap.size) (hn : n ≤ maxLen) :
    (w.alloc (.cells (madeCells z (n * K)) e)).ownsRow B e K (.slice (some ⟨w.heap.size, 0, none⟩) n n) n (madeCells z (n * K)).toList :=
  World.ownsRow_lit (base := B) (e := e) (size := K) w (madeCells z (n * K)) n hB hn (by rw [size_madeCells])

/-- The first k of xs are copied into F. -/
def Cop {α : Type} (R : World → α → List Value → Prop) (K : Nat) (w : World) (F : List Value) (xs : List α) (k : Nat) : Prop :=
  ∀ i x, i < k → xs[i]? = some x → ∃ vs, vs.length = K ∧ R w x vs ∧ ∀ j v, vs[j]? = some v → F[i * K + j]? = some v
theorem Cop.zero {α : Type} {R : World → α → List Value → Prop} {K : Nat} {w : World} {F : List Value} {xs : List α} : Cop R K w F xs 0 := fun i x hi => absurd hi (by omega)
theorem Cop.keep {α : Type} {R : World → α → List Value → Prop} {K : Nat} {w w' : World} {F : List Value} {xs : List α} {k : Nat} (h : Cop R K w F xs k) (hk : ∀ x vs, R w x vs → R w' x vs) : Cop R K w' F xs k := by
  intro i x hi hx
  obtain ⟨vs, h1, h2, h3⟩ := h i x hi hx
  exact ⟨vs, h1, hk _ _ h2, h3⟩
theorem Cop.step {α : Type} {R : World → α → List Value → Prop} {K : Nat} {w : World} {F : List Value} {xs : List α} {k : Nat} (h : Cop R K w F xs k) {x : α} {vs : List Value} (hx : xs[k]? = some x) (hR : R w x vs) (hl : vs.length = K) (hF : k * K + K ≤ F.length) :
    Cop R K w (sets F (k * K) vs) xs (k + 1) := by
  intro i y hi hy
  by_cases hik : i < k
  · obtain ⟨us, h1, h2, h3⟩ := h i y hik hy
    refine ⟨us, h1, h2, fun j v hv => ?_⟩
    have hj := (List.getElem?_eq_some_iff.1 hv).1
    have : (i + 1) * K ≤ k * K := Nat.mul_le_mul_right _ hik
    rw [Nat.add_mul] at this
    rw [sets_lo _ _ _ _ (by omega)]
    exact h3 j v hv
  · obtain rfl : i = k := by omega
    rw [hx] at hy
    cases hy
    exact ⟨vs, hl, hR, fun j v hv => sets_at vs F _ j v (by omega) hv⟩
theorem Cop.rw {α : Type} {R : World → α → List Value → Prop} {K : Nat} {w : World} {F : List Value} {xs : List α} {e : TypeId} {B g n cap : Nat} (h : Cop R K w F xs n) (ho : w.ownsRow B e K (.slice (some ⟨g, 0, none⟩) n cap) n F) (hn : xs.length = n) :
    Rw R K w (some ⟨g, 0, none⟩) xs := by
  intro h0
  refine ⟨g, 0, rfl, (World.ownsRow.lt ho g rfl).2, fun i x hx => ?_⟩
  have hi := (List.getElem?_eq_some_iff.1 hx).1
  obtain ⟨vs, h1, h2, h3⟩ := h i x (by omega) hx
  refine ⟨vs, h1, h2, fun j v hv => ?_⟩
  have hj := (List.getElem?_eq_some_iff.1 hv).1
  have : (i + 1) * K ≤ n * K := Nat.mul_le_mul_right _ (by omega)
  rw [Nat.add_mul] at this
  rw [Nat.zero_add, World.ownsRow.cellAt ho _ (by omega)]
  exact h3 j v hv
theorem at_of {α : Type} {xs : List α} {k n : Nat} (h : xs.length = n) (hk : k < n) : ∃ x, xs[k]? = some x := ⟨_, List.getElem?_eq_getElem (by omega)⟩
end Go.Proofs.YtmeejholckelgaaGreat
