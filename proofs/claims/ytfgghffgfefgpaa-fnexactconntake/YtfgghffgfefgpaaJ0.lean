/- Rows of structs, K cells an element: opened, stored into, kept. Nothing of the program is imported. Rows of one's own of flat structs, K cells an element. Nothing of the program is imported. Connections and segments as values. The bitwise operators on int where no operand is negative: and, or, exclusive or, and with masks, or of parts that do not meet. Nothing of the program is imported. Plain numbers: the words' sum of a row of bytes, and its folding into sixteen bits, as closed forms; nothing of the program is imported. A row of bytes in memory, told as a function of the place; what it is as a string; nothing of the program is imported. A new row of bytes that a loop fills: what its rounds keep. Nothing of the program is imported. The contracts of laws.toByteS (a copy in new memory) and laws.eqByteS (whether two rows are one). NumberOf, the program's and the model's: both answer the number of 1 to 6 bytes, the higher ones first; the walk of its law. The program's small tests: hasRoom, addressOK. The small tests of both sides, each answering whether a condition holds. The contracts of NameOK, the program's and the model's, and of what they call: whether a byte is a letter, a digit; whether a text is a name. Small tests of the program's chapter of guests: between, causes, bytes, credit, times; short names of the model. Worlds that have come of another by draws and new blocks alone. Nothing of the program is imported. Numbers that go round, of both sides. What is kept by all that leaves old blocks as they were. Nothing of the program is imported. A row of bytes of the call's own that is appended to, told as a list of numbers; as a string; a string's bytes in new memory. Nothing of the program is imported. MacText, the program's and the model's: two hexadecimal digits a byte, colons between; the walk of its law. Texts as lists of numbers: of a string, of a number's bytes, of a part; the number and the sum of a list. Nothing of the program is imported. The byte's row of the program's table of types. The program's NumberBytes at a size from 1 to 6 and a number that has room: its bytes, the higher ones first, in new memory. The program's part, numberAt, addNumber, setNumber. The program's macOf and macAt: a mac as an array of six, and back. Right connections and right segments, of both sides. ConnOK of both sides, right segments of both sides. The model's ConnOK. Connections and segments in the laws: copied, measured, compared. Rows of one's own of flat structs: the last fields of an element stored; a row joined. Nothing of the program is imported. A store into a block that is new leaves a world that has come of the elder one by draws and new blocks alone. Nothing of the program is imported. A number's digits: the model's l00Digits at every number from 0 on. markText of the laws. Segments that a connection sends: one, and what is out in pieces; both sides. What is out, in pieces, and the end behind it: the program. What is out, in pieces, and the end behind it: the model. -/
import Derived.WalkKit
import Derived.PlainAid
import Derived.OpenShut
import Derived.Below
import Derived.Deep.Slices
import Derived.Laws.AppendOwn
import Derived.Laws.OwnMore
import Derived.Laws.MakeOwn
import Derived.Laws.AppendOwnNone
import Derived.Laws.BitsAllLaws
import Derived.WalkSpells
import Derived.Laws.BytesArg
import Derived.Deep.OwnRows
import Derived.Test.YtfgghffgfefgpaaProg
import Derived.BigQuiet
import Derived.Deep.QuietTactic
import Derived.Shelf.SlSortCmp.QuietGrown
import Derived.Lib.ConvBytes
import Derived.Deep.RegionHeld3
import Derived.Deep.AppendLies
import Derived.Lib.AppendStr
import Derived.Laws.Concat
import Derived.Laws.CopyOwn
import Derived.Handy
import Derived.Laws.Cover3
import Derived.Lib.ItoaNum
namespace Go.Proofs.Ytfgghffgfefgpaa
open Go.RowKit Go.PlainAid
set_option linter.unusedVariables false

/-- The xs lie at a, K cells an element, each by R. -/
def Rw {α : Type} (R : World → α → List Value → Prop) (K : Nat) (w : World) (a : Option Addr) (xs : List α) : Prop :=
  0 < xs.length → ∃ b off, a = some ⟨b, off, none⟩ ∧ b < w.heap.size ∧ ∀ i x, xs[i]? = some x → ∃ vs, vs.length = K ∧ R w x vs ∧ ∀ j v, vs[j]? = some v → w.cell? ⟨b, off + i * K + j, none⟩ = some v
/-- What R says is kept by all that leaves old blocks as they were. -/
def Kp {α : Type} (R : World → α → List Value → Prop) : Prop := ∀ w w' x vs, R w x vs → Below w.heap.size w w' → R w' x vs

theorem Rw.keep {α : Type} {R : World → α → List Value → Prop} {K : Nat} {w w' : World} {a : Option Addr} {xs : List α} (h : Rw R K w a xs) (hk : Kp R) (hb : Below w.heap.size w w') : Rw R K w' a xs := by
  intro h0
  obtain ⟨b, off, rfl, hlt, hc⟩ := h h0
  refine ⟨b, off, rfl, Nat.lt_of_lt_of_le hlt hb.size, fun i x hx => ?_⟩
  obtain ⟨vs, h1, h2, h3⟩ := hc i x hx
  refine ⟨vs, h1, hk _ _ _ _ h2 hb, fun j v hv => ?_⟩
  rw [hb.cell (p := ⟨b, off + i * K + j, none⟩) hlt]
  exact h3 j v hv
/-- The element at k, read later. -/
theorem Rw.at {α : Type} {R : World → α → List Value → Prop} {K : Nat} {w w' : World} {a : Option Addr} {xs : List α} (h : Rw R K w a xs) (hk : Kp R) (hb : Below w.heap.size w w') {k : Nat} {x : α} (hx : xs[k]? = some x) :
    ∃ b off vs, a = some ⟨b, off, none⟩ ∧ b < w.heap.size ∧ vs.length = K ∧ R w' x vs ∧ ∀ j v, vs[j]? = some v → w'.cell? ⟨b, off + k * K + j, none⟩ = some v := by
  have h0 : 0 < xs.length := by
    have := (List.getElem?_eq_some_iff.1 hx).1
    omega
  obtain ⟨b, off, e, hlt, _⟩ := h h0
  obtain ⟨b', off', e', _, hc⟩ := (h.keep hk hb) h0
  rw [e] at e'
  cases e'
  obtain ⟨vs, h1, h2, h3⟩ := hc k x hx
  exact ⟨b, off, vs, e, hlt, h1, h2, h3⟩
theorem Rw.none {α : Type} {R : World → α → List Value → Prop} {K : Nat} {w : World} {a : Option Addr} : Rw R K w a ([] : List α) := fun h => absurd h (by simp)

theorem addn (b off i : Nat) : (⟨b, off, Option.none⟩ : Addr).add i = ⟨b, off + i, Option.none⟩ := by unfold Addr.add; split <;> simp_all
/-- A slice that came in. -/
theorem rows_of {H : Type} {enc : TypeId × Value → H} {P : Program} {w : World} {base : Nat} {spare : Nat → Bool} {held : Bool} {t e : TypeId} {fuel : Nat} {cs : List Value} {x : DataW H × List MemPlace} {α : Type} [Inhabited α]
    (R : World → α → List Value → Prop) (K : Nat) (ht : P.underlying t = some (.slice e)) (hK : P.cellsOf e = K) (h0K : 0 < K)
    (he : ∀ n cs y, DataW.trod enc P w base spare held n e cs = some y → ∃ d, R w d cs) (h : DataW.trod enc P w base spare held fuel t cs = some x) :
    ∃ (a : Option Addr) (len cap : Nat) (xs : List α), cs = [.slice a len cap] ∧ xs.length = len ∧ len ≤ cap ∧ cap ≤ maxLen ∧ (a = none → cap = 0) ∧ Rw R K w a xs := by
  rcases Go.Deep.open_slice ht h with ⟨rfl, _⟩ | ⟨a, len, cap, m, n, D, Pl, rfl, hb, hl, hm, hmm, _, hx⟩
  · exact ⟨none, 0, 0, [], rfl, rfl, Nat.le_refl _, Nat.zero_le _, fun _ => rfl, Rw.none⟩
  have hlm : len ≤ m := by rw [hmm]; split <;> omega
  obtain ⟨f, hf⟩ := Go.Deep.choose_lt (n := len) (p := fun i d => ∃ vs, vs.length = K ∧ R w d vs ∧ ∀ j v, vs[j]? = some v → w.cell? ((a.add (i * K)).add j) = some v) (fun i hi => by
    obtain ⟨cs', h1, h2⟩ := hx i (by omega)
    rw [hK] at h1
    obtain ⟨_, hlen, hcell⟩ := World.cells?_some h1
    obtain ⟨d, hd⟩ := he _ _ _ h2
    refine ⟨d, cs', hlen, hd, fun j v hv => ?_⟩
    have hj := (List.getElem?_eq_some_iff.1 hv).1
    rw [hcell j (by omega)]
    exact hv)
  refine ⟨some a, len, cap, (List.range len).map f, rfl, by simp, hl, hm, (fun h => by cases h), fun h0 => ?_⟩
  have h0 : 0 < len := by simpa using h0
  obtain ⟨b, off, spot⟩ := a
  have hs : spot = none := by
    obtain ⟨vs, h1, _, h3⟩ := hf 0 h0
    have hc := h3 0 (vs[0]'(by omega)) (List.getElem?_eq_getElem _)
    simpa [Addr.add] using World.cell?_spot hc
  subst hs
  have hadd : ∀ i j : Nat, ((⟨b, off, none⟩ : Addr).add i).add j = ⟨b, off + i + j, none⟩ := by
    intro i j
    rw [addn, addn]
  refine ⟨b, off, rfl, ?_, fun i x hx => ?_⟩
  · obtain ⟨vs, h1, _, h3⟩ := hf 0 h0
    have hc := h3 0 (vs[0]'(by omega)) (List.getElem?_eq_getElem _)
    rw [hadd] at hc
    exact World.block_lt_of_cell? w _ hc
  · have hi : i < len := by
      have := (List.getElem?_eq_some_iff.1 hx).1
      simpa using this
    rw [List.getElem?_map, List.getElem?_range hi] at hx
    simp only [Option.map_some, Option.some.injEq] at hx
    subst hx
    obtain ⟨vs, h1, h2, h3⟩ := hf i hi
    refine ⟨vs, h1, h2, fun j v hv => ?_⟩
    rw [← hadd]
    exact h3 j v hv

/-- Cells set behind one another. -/
def sets (F : List Value) (i : Nat) : List Value → List Value
  | [] => F
  | v :: vs => sets (F.set i v) (i + 1) vs
def wsets (w : World) (g i : Nat) : List Value → World
  | [] => w
  | v :: vs => wsets (w.setCell ⟨g, i, none⟩ v) g (i + 1) vs
theorem sets_lo : ∀ (vs : List Value) (F : List Value) (i m : Nat), m < i → (sets F i vs)[m]? = F[m]?
  | [], F, i, m, h => rfl
  | v :: vs, F, i, m, h => by
    unfold sets
    rw [sets_lo vs _ (i + 1) m (by omega), List.getElem?_set_ne (by omega)]
theorem sets_at : ∀ (vs : List Value) (F : List Value) (i j : Nat) (v : Value), i + vs.length ≤ F.length → vs[j]? = some v → (sets F i vs)[i + j]? = some v
  | [], F, i, j, v, h, hv => by simp at hv
  | u :: vs, F, i, 0, v, h, hv => by
    unfold sets
    simp at hv h
    rw [sets_lo vs _ (i + 1) (i + 0) (by omega), Nat.add_zero, List.getElem?_set_self (by omega), hv]
  | u :: vs, F, i, j + 1, v, h, hv => by
    unfold sets
    simp at hv h
    have := sets_at vs (F.set i u) (i + 1) j v (by simp; omega) hv
    rwa [show i + 1 + j = i + (j + 1) by omega] at this
theorem sets_len : ∀ (vs : List Value) (F : List Value) (i : Nat), (sets F i vs).length = F.length
  | [], F, i => rfl
  | v :: vs, F, i => by unfold sets; rw [sets_len vs]; simp

theorem wsets4 (w : World) (g i : Nat) (v0 v1 v2 v3 : Value) : wsets w g i [v0, v1, v2, v3] = (((w.setCell ⟨g, i, Option.none⟩ v0).setCell ⟨g, i + 1, Option.none⟩ v1).setCell ⟨g, i + 2, Option.none⟩ v2).setCell ⟨g, i + 3, Option.none⟩ v3 := rfl
theorem wsets5 (w : World) (g i : Nat) (v0 v1 v2 v3 v4 : Value) : wsets w g i [v0, v1, v2, v3, v4] = ((((w.setCell ⟨g, i, Option.none⟩ v0).setCell ⟨g, i + 1, Option.none⟩ v1).setCell ⟨g, i + 2, Option.none⟩ v2).setCell ⟨g, i + 3, Option.none⟩ v3).setCell ⟨g, i + 4, Option.none⟩ v4 := rfl
theorem wsets6 (w : World) (g i : Nat) (v0 v1 v2 v3 v4 v5 : Value) : wsets w g i [v0, v1, v2, v3, v4, v5] = (((((w.setCell ⟨g, i, Option.none⟩ v0).setCell ⟨g, i + 1, Option.none⟩ v1).setCell ⟨g, i + 2, Option.none⟩ v2).setCell ⟨g, i + 3, Option.none⟩ v3).setCell ⟨g, i + 4, Option.none⟩ v4).setCell ⟨g, i + 5, Option.none⟩ v5 := rfl
theorem grown_refl (w : World) (r : Option Nat) : w.grownBy w r := ⟨rfl, rfl, rfl, Nat.le_refl _, fun _ _ _ => rfl⟩
theorem grown_tr {w w1 w2 : World} {r : Option Nat} (h : w.grownBy w1 r) (h2 : w1.grownBy w2 r) : w.grownBy w2 r :=
  ⟨h2.os.trans h.os, h2.tape.trans h.tape, h2.output.trans h.output, Nat.le_trans h.size h2.size, fun k hk hr => (h2.block k (Nat.lt_of_lt_of_le hk h.size) hr).trans (h.block k hk hr)⟩
theorem owns_sets {e : TypeId} {B K g n cap : Nat} : ∀ (vs : List Value) (w : World) (F : List Value) (i : Nat), w.ownsRow B e K (.slice (some ⟨g, 0, none⟩) n cap) n F →
    (wsets w g i vs).ownsRow B e K (.slice (some ⟨g, 0, none⟩) n cap) n (sets F i vs) ∧ w.grownBy (wsets w g i vs) (some g)
  | [], w, F, i, h => ⟨h, grown_refl _ _⟩
  | v :: vs, w, F, i, h => by
    have h1 := World.ownsRow.stored h i v
    have h2 := owns_sets vs _ _ (i + 1) h1.1
    exact ⟨h2.1, grown_tr h1.2 h2.2⟩
theorem below_row {w w' : World} {B g : Nat} (h : w.grownBy w' (some g)) (hB : B ≤ g) (hs : B ≤ w.heap.size) : Below B w w' :=
  (Below.refl B w).grown h hs (fun k hk => by cases hk; exact hB)
theorem owns_keep {e : TypeId} {w w' : World} {B K n m : Nat} {v : Value} {F : List Value} (h : w.ownsRow B e K v n F) (hb : Below m w w') (hm : ∀ k, v.ownBlock = some k → k < m) : w'.ownsRow B e K v n F := by
  refine ⟨h.1, ?_⟩
  rcases h.2 with h' | ⟨g, cap, cur, h1, hB, hg, h4⟩
  · exact .inl h'
  · exact .inr ⟨g, cap, cur, h1, hB, by rw [hb.block _ (hm g (by rw [h1]; rfl))]; exact hg, h4⟩
theorem owns_now {e : TypeId} {w w' : World} {B K n : Nat} {v : Value} {F : List Value} (h : w.ownsRow B e K v n F) (hb : Below w.heap.size w w') : w'.ownsRow B e K v n F :=
  owns_keep h hb (fun k hk => (World.ownsRow.lt h k hk).2)
/-- What a store into element k wants to know. -/
theorem owns_cell {e : TypeId} {w : World} {B K n g cap : Nat} {F : List Value} (h : w.ownsRow B e K (.slice (some ⟨g, 0, none⟩) n cap) n F) {k j : Nat} (hk : k < n) (hj : j < K) :
    (∃ u, w.cell? ⟨g, k * K + j, none⟩ = some u) ∧ w.frozen? ⟨g, k * K + j, none⟩ = false := by
  have hlt : k * K + j < n * K := by
    have : (k + 1) * K ≤ n * K := Nat.mul_le_mul_right _ hk
    rw [Nat.add_mul] at this
    omega
  refine ⟨?_, World.ownsRow.frozenAt h _⟩
  rw [World.ownsRow.cellAt h _ hlt, List.getElem?_eq_getElem (by rw [h.1]; exact hlt)]
  exact ⟨_, rfl⟩
theorem owns_made (w : World) (e : TypeId) (B n K : Nat) (z : Array Value) (hB : B ≤ w.heap.size) (hn : n ≤ maxLen) :
    (w.alloc (.cells (madeCells z (n * K)) e)).ownsRow B e K (.slice (some ⟨w.heap.size, 0, none⟩) n n) n (madeCells z (n * K)).toList :=
  World.ownsRow_lit (base := B) (e := e) (size := K) w (madeCells z (n * K)) n hB hn (by rw [size_madeCells])

/-- The first k of xs are copied into F. -/
def Cop {α : Type} (R : World → α → List Value → Prop) (K : Nat) (w : World) (F : List Value) (xs : List α) (k : Nat) : Prop :=
  ∀ i x, i < k → xs[i]? = some x → ∃ vs, vs.length = K ∧ R w x vs ∧ ∀ j v, vs[j]? = some v → F[i * K + j]? = some v
theorem Cop.zero {α : Type} {R : World → α → List Value → Prop} {K : Nat} {w : World} {F : List Value} {xs : List α} : Cop R K w F xs 0 := fun i x hi => absurd hi (by omega)
theorem Cop.keep {α : Type} {R : World → α → List Value → Prop} {K : Nat} {w w' : World} {F : List Value} {xs : List α} {k : Nat} (h : Cop R K w F xs k) (hk : ∀ x vs, R w x vs → R w' x vs) : Cop R K w' F xs k := by
  intro i x hi hx
  obtain ⟨vs, h1, h2, h3⟩ := h i x hi hx
  exact ⟨vs, h1, hk _ _ h2, h3⟩
theorem Cop.step {α : Type} {R : World → α → List Value → Prop} {K : Nat} {w : World} {F : List Value} {xs : List α} {k : Nat} (h : Cop R K w F xs k) {x : α} {vs : List Value} (hx : xs[k]? = some x) (hR : R w x vs) (hl : vs.length = K) (hF : k * K + K ≤ F.length) :
    Cop R K w (sets F (k * K) vs) xs (k + 1) := by
  intro i y hi hy
  by_cases hik : i < k
  · obtain ⟨us, h1, h2, h3⟩ := h i y hik hy
    refine ⟨us, h1, h2, fun j v hv => ?_⟩
    have hj := (List.getElem?_eq_some_iff.1 hv).1
    have : (i + 1) * K ≤ k * K := Nat.mul_le_mul_right _ hik
    rw [Nat.add_mul] at this
    rw [sets_lo _ _ _ _ (by omega)]
    exact h3 j v hv
  · obtain rfl : i = k := by omega
    rw [hx] at hy
    cases hy
    exact ⟨vs, hl, hR, fun j v hv => sets_at vs F _ j v (by omega) hv⟩
theorem Cop.rw {α : Type} {R : World → α → List Value → Prop} {K : Nat} {w : World} {F : List Value} {xs : List α} {e : TypeId} {B g n cap : Nat} (h : Cop R K w F xs n) (ho : w.ownsRow B e K (.slice (some ⟨g, 0, none⟩) n cap) n F) (hn : xs.length = n) :
    Rw R K w (some ⟨g, 0, none⟩) xs := by
  intro h0
  refine ⟨g, 0, rfl, (World.ownsRow.lt ho g rfl).2, fun i x hx => ?_⟩
  have hi := (List.getElem?_eq_some_iff.1 hx).1
  obtain ⟨vs, h1, h2, h3⟩ := h i x (by omega) hx
  refine ⟨vs, h1, h2, fun j v hv => ?_⟩
  have hj := (List.getElem?_eq_some_iff.1 hv).1
  have : (i + 1) * K ≤ n * K := Nat.mul_le_mul_right _ (by omega)
  rw [Nat.add_mul] at this
  rw [Nat.zero_add, World.ownsRow.cellAt ho _ (by omega)]
  exact h3 j v hv
theorem at_of {α : Type} {xs : List α} {k n : Nat} (h : xs.length = n) (hk : k < n) : ∃ x, xs[k]? = some x := ⟨_, List.getElem?_eq_getElem (by omega)⟩
end Go.Proofs.Ytfgghffgfefgpaa

namespace Go.Proofs.Ytfgghffgfefgpaa
open Go.RowKit Go.PlainAid
set_option linter.unusedVariables false

/-- The cells of the xs, one behind the other. -/
def flatS {α : Type} (c : α → List Value) (xs : List α) : List Value := xs.flatMap c
section Fl
variable {α : Type} {c : α → List Value} {K : Nat}
theorem flatS_append (xs ys : List α) : flatS c (xs ++ ys) = flatS c xs ++ flatS c ys := by simp [flatS]
theorem flatS_one (x : α) : flatS c [x] = c x := by simp [flatS]
theorem flatS_cons (x : α) (xs : List α) : flatS c (x :: xs) = c x ++ flatS c xs := rfl
theorem flatS_len (hK : ∀ x, (c x).length = K) : ∀ xs : List α, (flatS c xs).length = xs.length * K
  | [] => by simp [flatS]
  | x :: xs => by rw [flatS_cons, List.length_append, hK, flatS_len hK xs, List.length_cons, Nat.add_mul]; omega
theorem flatS_at (hK : ∀ x, (c x).length = K) : ∀ (xs : List α) (i : Nat) (x : α) (j : Nat), xs[i]? = some x → j < K → (flatS c xs)[i * K + j]? = (c x)[j]?
  | [], i, x, j, h, hj => by simp at h
  | y :: xs, 0, x, j, h, hj => by
    simp at h
    subst h
    rw [flatS_cons, List.getElem?_append_left (by rw [hK]; omega)]
    congr 1
    omega
  | y :: xs, i + 1, x, j, h, hj => by
    rw [flatS_cons, List.getElem?_append_right (by rw [hK, Nat.add_mul]; omega), hK, show (i + 1) * K + j - K = i * K + j by rw [Nat.add_mul]; omega]
    exact flatS_at hK xs i x j (by simpa using h) hj
theorem sets_mid : ∀ (vs B A C : List Value), B.length = vs.length → sets (A ++ (B ++ C)) A.length vs = A ++ (vs ++ C)
  | [], [], A, C, _ => rfl
  | v :: vs, b :: B, A, C, h => by
    have e : (A ++ ((b :: B) ++ C)).set A.length v = (A ++ [v]) ++ (B ++ C) := by simp
    have := sets_mid vs B (A ++ [v]) C (by simpa using h)
    unfold sets
    rw [e, show A.length + 1 = (A ++ [v]).length by simp, this]
    simp
theorem flatS_sets (hK : ∀ x, (c x).length = K) (xs : List α) (i : Nat) (y : α) (hi : i < xs.length) : flatS c (xs.set i y) = sets (flatS c xs) (i * K) (c y) := by
  obtain ⟨A, x, C, rfl, rfl⟩ : ∃ A x C, xs = A ++ x :: C ∧ A.length = i := ⟨xs.take i, xs[i], xs.drop (i + 1), by simp, by simp; omega⟩
  have e : (A ++ x :: C).set A.length y = A ++ y :: C := by simp
  rw [e, flatS_append, flatS_append, flatS_cons, flatS_cons, ← flatS_len hK, sets_mid _ _ _ _ (by rw [hK, hK])]
theorem flatS_set1 (hK : ∀ x, (c x).length = K) (xs : List α) (i : Nat) (x y : α) (j : Nat) (v : Value) (hx : xs[i]? = some x) (hj : j < K) (hy : c y = (c x).set j v) : flatS c (xs.set i y) = (flatS c xs).set (i * K + j) v := by
  have hi := (List.getElem?_eq_some_iff.1 hx).1
  obtain ⟨A, x', C, rfl, rfl⟩ : ∃ A x C, xs = A ++ x :: C ∧ A.length = i := ⟨xs.take i, xs[i], xs.drop (i + 1), by simp, by simp; omega⟩
  have ex : x' = x := by simpa using hx
  subst ex
  have e : (A ++ x' :: C).set A.length y = A ++ y :: C := by simp
  rw [e, flatS_append, flatS_append, flatS_cons, flatS_cons, ← flatS_len hK, hy, List.set_append_right _ _ (by omega), List.set_append_left _ _ (by rw [hK]; omega), show (flatS c A).length + j - (flatS c A).length = j by omega]
end Fl

/-- The slice value v owns the xs, in a block from B on. -/
def OwnS {α : Type} (c : α → List Value) (K : Nat) (e : TypeId) (w : World) (B : Nat) (v : Value) (xs : List α) : Prop := w.ownsRow B e K v xs.length (flatS c xs)
/-- A flat struct, its cells and what is known of it. -/
def FR {α : Type} (c : α → List Value) (ok : α → Prop) (w : World) (u : α) (vs : List Value) : Prop := vs = c u ∧ ok u
theorem FR.kp {α : Type} {c : α → List Value} {ok : α → Prop} : Kp (FR c ok) := fun _ _ _ _ h _ => h
section Ow
variable {α : Type} {c : α → List Value} {K : Nat} {e : TypeId} {w w' : World} {B : Nat} {v : Value} {xs : List α}
theorem OwnS.lt (h : OwnS c K e w B v xs) : ∀ k, v.ownBlock = some k → B ≤ k ∧ k < w.heap.size := World.ownsRow.lt h
theorem OwnS.keep {m : Nat} (h : OwnS c K e w B v xs) (hb : Below m w w') (hm : ∀ k, v.ownBlock = some k → k < m) : OwnS c K e w' B v xs := owns_keep h hb hm
theorem OwnS.now (h : OwnS c K e w B v xs) (hb : Below w.heap.size w w') : OwnS c K e w' B v xs := owns_now h hb
theorem OwnS.kept {r : Option Nat} (h : OwnS c K e w B v xs) (hg : w.grownBy w' r) (hne : v.ownBlock = none ∨ v.ownBlock ≠ r) : OwnS c K e w' B v xs := World.ownsRow.kept h hg hne
theorem OwnS.lower {B' : Nat} (h : OwnS c K e w B v xs) (hB : B' ≤ B) : OwnS c K e w B' v xs := by
  refine ⟨h.1, ?_⟩
  rcases h.2 with h' | ⟨g, cap, cur, h1, hb, h4⟩
  · exact .inl h'
  · exact .inr ⟨g, cap, cur, h1, Nat.le_trans hB hb, h4⟩
theorem OwnS.slice (h : OwnS c K e w B v xs) : ∃ a cap, v = .slice a xs.length cap ∧ xs.length ≤ cap ∧ cap ≤ maxLen ∧ (∀ b off, a = some ⟨b, off, none⟩ → B ≤ b ∧ b < w.heap.size) := by
  rcases h.2 with ⟨h1, h2⟩ | ⟨g, cap, cur, h1, hB, hg, h3, h4, _⟩
  · exact ⟨none, 0, by rw [h1, h2], by omega, Nat.zero_le _, fun b off e => by cases e⟩
  · exact ⟨_, cap, h1, h3, h4, fun b off e => by cases e; exact ⟨hB, (Array.getElem?_eq_some_iff.1 hg).1⟩⟩
theorem OwnS.form {a : Option Addr} {n cap : Nat} (h : OwnS c K e w B (.slice a n cap) xs) (h0 : 0 < xs.length) : ∃ g, a = some ⟨g, 0, none⟩ ∧ B ≤ g ∧ g < w.heap.size ∧ xs.length = n := by
  rcases h.2 with ⟨h1, h2⟩ | ⟨g, cap, cur, h1, hB, hg, _⟩
  · omega
  · cases h1
    exact ⟨g, rfl, hB, (Array.getElem?_eq_some_iff.1 hg).1, rfl⟩
theorem OwnS.len {a : Option Addr} {n cap : Nat} (h : OwnS c K e w B (.slice a n cap) xs) : xs.length = n := by
  rcases h.2 with ⟨h1, h2⟩ | ⟨g, cap, cur, h1, _⟩
  · cases h1
    exact h2
  · cases h1
    rfl
theorem OwnS.rw {a : Option Addr} {n cap : Nat} {ok : α → Prop} (h : OwnS c K e w B (.slice a n cap) xs) (hK : ∀ x, (c x).length = K) (hok : ∀ x, x ∈ xs → ok x) : Rw (FR c ok) K w a xs := by
  intro h0
  obtain ⟨g, rfl, hB, hg, rfl⟩ := h.form h0
  refine ⟨g, 0, rfl, hg, fun i x hx => ⟨c x, hK x, ⟨rfl, hok x (List.mem_of_getElem? hx)⟩, fun j u hu => ?_⟩⟩
  have hj := (List.getElem?_eq_some_iff.1 hu).1
  rw [hK] at hj
  have hi := (List.getElem?_eq_some_iff.1 hx).1
  have : (i + 1) * K ≤ xs.length * K := Nat.mul_le_mul_right _ hi
  rw [Nat.add_mul] at this
  rw [Nat.zero_add, World.ownsRow.cellAt h _ (by omega), flatS_at hK xs i x j hx hj]
  exact hu
/-- What a load from or a store into element i wants to know. -/
theorem OwnS.cell {g n cap : Nat} (h : OwnS c K e w B (.slice (some ⟨g, 0, none⟩) n cap) xs) (hK : ∀ x, (c x).length = K) {i j : Nat} {x : α} {u : Value} (hx : xs[i]? = some x) (hu : (c x)[j]? = some u) : w.cell? ⟨g, i * K + j, none⟩ = some u ∧ w.frozen? ⟨g, i * K + j, none⟩ = false := by
  obtain rfl := h.len
  have hj := (List.getElem?_eq_some_iff.1 hu).1
  rw [hK] at hj
  have hi := (List.getElem?_eq_some_iff.1 hx).1
  have : (i + 1) * K ≤ xs.length * K := Nat.mul_le_mul_right _ hi
  rw [Nat.add_mul] at this
  exact ⟨by rw [World.ownsRow.cellAt h _ (by omega), flatS_at hK xs i x j hx hj]; exact hu, World.ownsRow.frozenAt h _⟩
theorem OwnS.nil (w : World) (B : Nat) : OwnS c K e w B (.slice none 0 0) ([] : List α) := World.ownsRow_nil w _ _ _
theorem OwnS.lit (w : World) (B : Nat) (hB : B ≤ w.heap.size) : OwnS c K e (w.alloc (.cells #[] e)) B (.slice (some ⟨w.heap.size, 0, none⟩) 0 0) ([] : List α) := World.ownsRow_lit w #[] 0 hB (Nat.zero_le _) (by simp)
/-- An element stored whole. -/
theorem OwnS.store {g n cap : Nat} (h : OwnS c K e w B (.slice (some ⟨g, 0, none⟩) n cap) xs) (hK : ∀ x, (c x).length = K) {i : Nat} (hi : i < n) (y : α) :
    OwnS c K e (wsets w g (i * K) (c y)) B (.slice (some ⟨g, 0, none⟩) n cap) (xs.set i y) ∧ w.grownBy (wsets w g (i * K) (c y)) (some g) := by
  obtain rfl := h.len
  have := owns_sets (c y) w _ (i * K) h
  refine ⟨?_, this.2⟩
  unfold OwnS
  rw [flatS_sets hK xs i y hi, List.length_set]
  exact this.1
/-- A field stored. -/
theorem OwnS.set1 {g n cap : Nat} (h : OwnS c K e w B (.slice (some ⟨g, 0, none⟩) n cap) xs) (hK : ∀ x, (c x).length = K) {i j : Nat} {x y : α} {u : Value} (hx : xs[i]? = some x) (hj : j < K) (hy : c y = (c x).set j u) :
    OwnS c K e (w.setCell ⟨g, i * K + j, none⟩ u) B (.slice (some ⟨g, 0, none⟩) n cap) (xs.set i y) ∧ w.grownBy (w.setCell ⟨g, i * K + j, none⟩ u) (some g) := by
  obtain rfl := h.len
  have := World.ownsRow.stored h (i * K + j) u
  refine ⟨?_, this.2⟩
  unfold OwnS
  rw [flatS_set1 hK xs i x y j u hx hj hy, List.length_set]
  exact this.1
end Ow
theorem made_flatS {α : Type} (c : α → List Value) (z : α) (Z : Array Value) (hz : Z.toList = c z) (h0 : 0 < Z.size) (n : Nat) : (madeCells Z (n * Z.size)).toList = flatS c (List.replicate n z) := by
  have hK : ∀ x ∈ [z], (c x).length = Z.size := by intro x hx; simp at hx; subst hx; rw [← hz]; simp
  have flat_at : ∀ (n i j : Nat), i < n → j < Z.size → (flatS c (List.replicate n z))[i * Z.size + j]? = (c z)[j]? := by
    intro n
    induction n with
    | zero => intro i j hi; omega
    | succ n ih =>
      intro i j hi hj
      rw [List.replicate_succ, flatS_cons]
      cases i with
      | zero => rw [List.getElem?_append_left (by rw [hK z (by simp)]; omega)]; congr 1; omega
      | succ i =>
        rw [List.getElem?_append_right (by rw [hK z (by simp), Nat.add_mul]; omega), hK z (by simp), show (i + 1) * Z.size + j - Z.size = i * Z.size + j by rw [Nat.add_mul]; omega]
        exact ih i j (by omega) hj
  have hlen : ∀ n, (flatS c (List.replicate n z)).length = n * Z.size := by
    intro n
    induction n with
    | zero => simp [flatS]
    | succ n ih => rw [List.replicate_succ, flatS_cons, List.length_append, ih, hK z (by simp), Nat.add_mul]; omega
  apply List.ext_getElem?
  intro m
  by_cases hm : m < n * Z.size
  · have e1 : m = m / Z.size * Z.size + m % Z.size := by rw [Nat.mul_comm]; exact (Nat.div_add_mod m Z.size).symm
    have hq : m / Z.size < n := (Nat.div_lt_iff_lt_mul h0).2 hm
    have hr : m % Z.size < Z.size := Nat.mod_lt _ h0
    have e2 := flat_at n (m / Z.size) (m % Z.size) hq hr
    rw [← e1] at e2
    rw [e2, ← hz]
    simp [madeCells, hm, hr]
  · rw [List.getElem?_eq_none (by rw [Array.length_toList, size_madeCells]; omega), List.getElem?_eq_none (by rw [hlen]; omega)]
theorem OwnS.made {α : Type} {c : α → List Value} {K : Nat} (w : World) (e : TypeId) (B n : Nat) (z : α) (Z : Array Value) (hz : Z.toList = c z) (hZ : Z.size = K) (h0 : 0 < K) (hB : B ≤ w.heap.size) (hn : n ≤ maxLen) : OwnS c K e (w.alloc (.cells (madeCells Z (n * K)) e)) B (.slice (some ⟨w.heap.size, 0, none⟩) n n) (List.replicate n z) := by
  subst hZ
  have := owns_made w e B n Z.size Z hB hn
  unfold OwnS
  rw [made_flatS c z Z hz h0 n] at this
  rwa [List.length_replicate]
theorem takeS_set {α : Type} {L zs : List α} {k : Nat} {x : α} (hl : L.length = zs.length) (hx : zs[k]? = some x) (h : L.take k = zs.take k) : (L.set k x).take (k + 1) = zs.take (k + 1) := by
  have hk := (List.getElem?_eq_some_iff.1 hx).1
  have e1 : (L.set k x).take (k + 1) = (L.set k x).take k ++ [x] := by rw [List.take_add_one, List.getElem?_set_self (by omega)]; rfl
  have e2 : zs.take (k + 1) = zs.take k ++ [x] := by rw [List.take_add_one, hx]; rfl
  rw [e1, e2, List.take_set_of_le (Nat.le_refl _), h]
theorem takeS_next {α : Type} {zs : List α} {k : Nat} {x : α} (hx : zs[k]? = some x) : zs.take (k + 1) = zs.take k ++ [x] := by rw [List.take_add_one, hx]; rfl
/-- The cells of a row that is read, one behind the other. -/
theorem flat_rw {α : Type} {c : α → List Value} {ok : α → Prop} {K : Nat} {w : World} {b off : Nat} {xs : List α} (h : Rw (FR c ok) K w (some ⟨b, off, none⟩) xs) (hK : ∀ x, (c x).length = K) (h0 : 0 < K) : ∀ j u, (flatS c xs)[j]? = some u → w.cell? ⟨b, off + j, none⟩ = some u := by
  intro j u hu
  have hj := (List.getElem?_eq_some_iff.1 hu).1
  rw [flatS_len hK] at hj
  have e1 : j = j / K * K + j % K := by rw [Nat.mul_comm]; exact (Nat.div_add_mod j K).symm
  have hq : j / K < xs.length := (Nat.div_lt_iff_lt_mul h0).2 hj
  have hr : j % K < K := Nat.mod_lt _ h0
  obtain ⟨b', off', e, hlt, hc⟩ := h (Nat.lt_of_le_of_lt (Nat.zero_le _) hq)
  cases e
  have hx : xs[j / K]? = some (xs[j / K]) := List.getElem?_eq_getElem hq
  obtain ⟨vs, h1, ⟨rfl, _⟩, h3⟩ := hc _ _ hx
  rw [e1, flatS_at hK xs _ _ _ hx hr] at hu
  have := h3 _ _ hu
  rw [Nat.add_assoc, ← e1] at this
  exact this
end Go.Proofs.Ytfgghffgfefgpaa

namespace Go.Proofs.Ytfgghffgfefgpaa
open Go.RowKit Go.PlainAid
set_option linter.unusedVariables false

structure ConnV where
  mc : ByteArray
  ip : Int
  po : Int
  di : Int
  st : Int
  un : Int
  nx : Int
  wa : Int
  inn : ByteArray
  out : ByteArray
  fin : Bool

instance : Inhabited ConnV := ⟨⟨⟨#[]⟩, 0, 0, 0, 0, 0, 0, 0, ⟨#[]⟩, ⟨#[]⟩, false⟩⟩
def cnG (u : ConnV) : List Value := [.string u.mc, .int .i64 u.ip, .int .i64 u.po, .int .i64 u.di, .int .i64 u.st, .int .i64 u.un, .int .i64 u.nx, .int .i64 u.wa, .string u.inn, .string u.out, .bool u.fin]
def CnRok (u : ConnV) : Prop := u.mc.size ≤ maxLen ∧ (Lit.int .i64 u.ip).wf = true ∧ (Lit.int .i64 u.po).wf = true ∧ (Lit.int .i64 u.di).wf = true ∧ (Lit.int .i64 u.st).wf = true ∧ (Lit.int .i64 u.un).wf = true ∧ (Lit.int .i64 u.nx).wf = true ∧ (Lit.int .i64 u.wa).wf = true ∧ u.inn.size ≤ maxLen ∧ u.out.size ≤ maxLen
abbrev CnR := FR cnG CnRok
theorem cnG_len (u : ConnV) : (cnG u).length = 11 := rfl
structure SegV where
  sp : Int
  dp : Int
  sq : Int
  ac : Int
  fl : Int
  wi : Int
  da : ByteArray

instance : Inhabited SegV := ⟨⟨0, 0, 0, 0, 0, 0, ⟨#[]⟩⟩⟩
def sgG (u : SegV) : List Value := [.int .i64 u.sp, .int .i64 u.dp, .int .i64 u.sq, .int .i64 u.ac, .int .i64 u.fl, .int .i64 u.wi, .string u.da]
def SgRok (u : SegV) : Prop := (Lit.int .i64 u.sp).wf = true ∧ (Lit.int .i64 u.dp).wf = true ∧ (Lit.int .i64 u.sq).wf = true ∧ (Lit.int .i64 u.ac).wf = true ∧ (Lit.int .i64 u.fl).wf = true ∧ (Lit.int .i64 u.wi).wf = true ∧ u.da.size ≤ maxLen
abbrev SgR := FR sgG SgRok
theorem sgG_len (u : SegV) : (sgG u).length = 7 := rfl
end Go.Proofs.Ytfgghffgfefgpaa

namespace Go.Proofs.Ytfgghffgfefgpaa.Bt
open Go.RowKit
set_option linter.unusedVariables false

theorem ofInt_i64 (a : Nat) (ha : a < 9223372036854775808) : (BitVec.ofInt 64 (a : Int)).toNat = a := by
  rw [BitVec.ofInt_natCast, BitVec.toNat_ofNat]; exact Nat.mod_eq_of_lt (by omega)
theorem and_nat (a b : Nat) (ha : a < 9223372036854775808) (hb : b < 9223372036854775808) : bits .and .i64 (a : Int) (b : Int) = ((a &&& b : Nat) : Int) := by
  have hx : a &&& b < 2 ^ 63 := Nat.and_lt_two_pow _ (by omega)
  show IntKind.i64.wrap ((BitVec.ofInt 64 (a : Int) &&& BitVec.ofInt 64 (b : Int)).toNat : Int) = _
  rw [BitVec.toNat_and, ofInt_i64 a ha, ofInt_i64 b hb, IntKind.wrap_i64]
  omega
theorem or_nat (a b : Nat) (ha : a < 9223372036854775808) (hb : b < 9223372036854775808) : bits .or .i64 (a : Int) (b : Int) = ((a ||| b : Nat) : Int) := by
  have hx : a ||| b < 2 ^ 63 := Nat.or_lt_two_pow (by omega) (by omega)
  show IntKind.i64.wrap ((BitVec.ofInt 64 (a : Int) ||| BitVec.ofInt 64 (b : Int)).toNat : Int) = _
  rw [BitVec.toNat_or, ofInt_i64 a ha, ofInt_i64 b hb, IntKind.wrap_i64]
  omega
theorem xor_nat (a b : Nat) (ha : a < 9223372036854775808) (hb : b < 9223372036854775808) : bits .xor .i64 (a : Int) (b : Int) = ((a ^^^ b : Nat) : Int) := by
  have hx : a ^^^ b < 2 ^ 63 := Nat.xor_lt_two_pow (by omega) (by omega)
  show IntKind.i64.wrap ((BitVec.ofInt 64 (a : Int) ^^^ BitVec.ofInt 64 (b : Int)).toNat : Int) = _
  rw [BitVec.toNat_xor, ofInt_i64 a ha, ofInt_i64 b hb, IntKind.wrap_i64]
  omega
/-- 'n & (2^i - 1)'. -/
theorem mask (i : Nat) (hi : i < 63) (n : Int) (h0 : 0 ≤ n) (h1 : n ≤ 9223372036854775807) : bits BinOp.and IntKind.i64 n ((2 ^ i - 1 : Nat) : Int) = n % ((2 ^ i : Nat) : Int) := by
  obtain ⟨m, rfl⟩ := Int.eq_ofNat_of_zero_le h0
  have hp : 2 ^ i ≤ 2 ^ 62 := Nat.pow_le_pow_right (by omega) (by omega)
  rw [and_nat m (2 ^ i - 1) (by omega) (by omega), Nat.and_two_pow_sub_one_eq_mod]
  omega
theorem mask16 (n : Int) (h0 : 0 ≤ n) (h1 : n ≤ 9223372036854775807) : bits BinOp.and IntKind.i64 n 65535 = n % 65536 := mask 16 (by omega) n h0 h1
theorem mask8 (n : Int) (h0 : 0 ≤ n) (h1 : n ≤ 9223372036854775807) : bits BinOp.and IntKind.i64 n 255 = n % 256 := mask 8 (by omega) n h0 h1
theorem mask4 (n : Int) (h0 : 0 ≤ n) (h1 : n ≤ 9223372036854775807) : bits BinOp.and IntKind.i64 n 15 = n % 16 := mask 4 (by omega) n h0 h1
/-- 'x << 8 | y', y below 256. -/
theorem join8 (x y : Int) (h0 : 0 ≤ x) (h1 : x ≤ 36028797018963967) (h2 : 0 ≤ y) (h3 : y ≤ 255) : bits BinOp.or IntKind.i64 (x * 256) y = x * 256 + y := by
  obtain ⟨a, rfl⟩ := Int.eq_ofNat_of_zero_le h0
  obtain ⟨b, rfl⟩ := Int.eq_ofNat_of_zero_le h2
  have e : ((a : Int) * 256) = ((a * 256 : Nat) : Int) := by omega
  rw [e, or_nat (a * 256) b (by omega) (by omega), nat_join 8 (a * 256) b (by omega) (by omega)]
  omega
theorem join4 (x y : Int) (h0 : 0 ≤ x) (h1 : x ≤ 36028797018963967) (h2 : 0 ≤ y) (h3 : y ≤ 15) : bits BinOp.or IntKind.i64 (x * 16) y = x * 16 + y := by
  obtain ⟨a, rfl⟩ := Int.eq_ofNat_of_zero_le h0
  obtain ⟨b, rfl⟩ := Int.eq_ofNat_of_zero_le h2
  have e : ((a : Int) * 16) = ((a * 16 : Nat) : Int) := by omega
  rw [e, or_nat (a * 16) b (by omega) (by omega), nat_join 4 (a * 16) b (by omega) (by omega)]
  omega
end Go.Proofs.Ytfgghffgfefgpaa.Bt

namespace Go.Proofs.Ytfgghffgfefgpaa.Pl
open Go.RowKit Go.PlainAid
set_option linter.unusedVariables false

/-- The sum of the first k words' halves: an even place counts 256 times. -/
def wsum (f : Nat → Int) : Nat → Int
  | 0 => 0
  | k + 1 => wsum f k + (if k % 2 = 0 then 256 * f k else f k)

/-- What folding comes to. -/
def foldc (n : Int) : Int := if n = 0 then 0 else (n - 1) % 65535 + 1

theorem wsum_bd (f : Nat → Int) (h : ∀ k, 0 ≤ f k ∧ f k ≤ 255) : ∀ k : Nat, 0 ≤ wsum f k ∧ wsum f k ≤ 65280 * k
  | 0 => by simp [wsum]
  | k + 1 => by
    have := wsum_bd f h k
    have := h k
    unfold wsum
    split <;> omega

theorem wsum_even (f : Nat → Int) (k : Nat) (h : k % 2 = 0) : wsum f (k + 1) = wsum f k + 256 * f k := by
  rw [wsum, if_pos h]
theorem wsum_odd (f : Nat → Int) (k : Nat) (h : k % 2 = 1) : wsum f (k + 1) = wsum f k + f k := by
  rw [wsum, if_neg (by omega)]
theorem wsum_congr (f g : Nat → Int) : ∀ k : Nat, (∀ j, j < k → f j = g j) → wsum f k = wsum g k
  | 0, _ => rfl
  | k + 1, h => by
    rw [wsum, wsum, wsum_congr f g k (fun j hj => h j (by omega)), h k (by omega)]

theorem foldc_small (n : Int) (h0 : 0 ≤ n) (h : n ≤ 65535) : foldc n = n := by unfold foldc; split <;> omega
theorem foldc_step (n : Int) (h : 65535 < n) : foldc (n % 65536 + n / 65536) = foldc n := by unfold foldc; split <;> split <;> omega
theorem step_lt (n : Int) (h : 65535 < n) : 0 ≤ n % 65536 + n / 65536 ∧ n % 65536 + n / 65536 < n := by omega
theorem foldc_bd (n : Int) (h : 0 ≤ n) : 0 ≤ foldc n ∧ foldc n ≤ 65535 := by unfold foldc; split <;> omega

/-- The sum of a row of bytes. -/
def chk (f : Nat → Int) (n : Nat) : Int := 65535 - foldc (wsum f n)
theorem chk_bd (f : Nat → Int) (n : Nat) (h : ∀ k, 0 ≤ f k ∧ f k ≤ 255) : 0 ≤ chk f n ∧ chk f n ≤ 65535 := by
  have := foldc_bd (wsum f n) (wsum_bd f h n).1
  unfold chk; omega
theorem chk_congr (f g : Nat → Int) (n : Nat) (h : ∀ j, j < n → f j = g j) : chk f n = chk g n := by
  unfold chk; rw [wsum_congr f g n h]
end Go.Proofs.Ytfgghffgfefgpaa.Pl

namespace Go.Proofs.Ytfgghffgfefgpaa
open Go.RowKit Go.PlainAid Go.Proofs.Ytfgghffgfefgpaa.Pl
set_option linter.unusedVariables false

/-- A slice of bytes: its numbers are 'f 0', 'f 1' .. -/
def Bytes (w : World) (a : Option Addr) (len : Nat) (f : Nat → Int) : Prop :=
  (∀ k, 0 ≤ f k ∧ f k ≤ 255) ∧ (0 < len → ∃ b off, a = some ⟨b, off, none⟩ ∧ ∀ i, i < len → w.cell? ⟨b, off + i, none⟩ = some (.int .u8 (f i)))

/-- The same row as a string. -/
def strOf (f : Nat → Int) (n : Nat) : ByteArray := strOfNums ((List.range n).map f)

theorem strOf_size (f : Nat → Int) (n : Nat) : (strOf f n).size = n := by simp [strOf, strOfNums_size]
theorem strOf_bt (f : Nat → Int) (n : Nat) (h : ∀ k, 0 ≤ f k ∧ f k ≤ 255) (k : Nat) (hk : k < n) : bt (strOf f n) k = f k := by
  have hz := strOf_size f n
  unfold bt
  rw [dif_pos (by omega)]
  have e : (strOf f n)[k]'(by omega) = UInt8.ofNat (f k).toNat := by
    simp [strOf, strOfNums, ByteArray.getElem_eq_getElem_data]
  rw [e]
  have := h k
  simp
  omega

theorem conv_row {P : Program} (w : World) (src dst e : TypeId) (hs : P.underlying src = some (.slice e)) (he : P.underlying e = some (.int .u8)) (hd : P.underlying dst = some .string)
    (a : Option Addr) (len cap : Nat) (f : Nat → Int) (h : Bytes w a len f) :
    (convert src dst (.slice a len cap)).run P w = .ok (.string (strOf f len)) w := by
  rcases Nat.eq_zero_or_pos len with h0 | h0
  · subst h0
    have e0 : strOf f 0 = ByteArray.empty := by simp [strOf, strOfNums, ByteArray.empty, ByteArray.emptyWithCapacity]; rfl
    rw [e0]
    cases a with
    | none => exact run_convert_bytes_nil w src e hs he 0 cap dst hd
    | some x =>
      rw [run_convert_bytes_string w src dst e _ 0 cap hs he hd]
      exact run_bytesToString w x 0 cap [] (by simpa using run_loadCells_list (P := P) w x [] (fun j v hj => by simp at hj))
  · obtain ⟨b, off, rfl, hc⟩ := h.2 h0
    exact run_convert_bytes_arg w src e hs he b off len cap ((List.range len).map f) (by simp) (fun i hi => by rw [hc i hi]; simp [hi]) dst hd

theorem Bytes.below {B : Nat} {w w' : World} {a : Option Addr} {len : Nat} {f : Nat → Int} (h : Bytes w a len f) (hb : Below B w w') (hlt : ∀ b off, 0 < len → a = some ⟨b, off, none⟩ → b < B) : Bytes w' a len f := by
  refine ⟨h.1, fun h0 => ?_⟩
  obtain ⟨b, off, rfl, hc⟩ := h.2 h0
  exact ⟨b, off, rfl, fun i hi => by rw [hb.cell (p := ⟨b, off + i, none⟩) (hlt b off h0 rfl)]; exact hc i hi⟩
end Go.Proofs.Ytfgghffgfefgpaa

namespace Go.Proofs.Ytfgghffgfefgpaa
open Go.RowKit Go.PlainAid
set_option linter.unusedVariables false

/-- Behind w a new block of len cells was made; the first k of them are 'f 0' .. -/
def Fill (w wr : World) (len k : Nat) (f : Nat → Int) : Prop :=
  Below w.heap.size w wr ∧ w.heap.size < wr.heap.size ∧ (∀ i, wr.frozen? ⟨w.heap.size, i, none⟩ = false) ∧ (∀ i, i < len → ∃ v, wr.cell? ⟨w.heap.size, i, none⟩ = some v) ∧ ∀ i, i < k → wr.cell? ⟨w.heap.size, i, none⟩ = some (.int .u8 (f i))

theorem fill_start (w : World) (len : Nat) (f : Nat → Int) (e : TypeId) : Fill w (w.alloc (.cells (madeCells #[.int .u8 0] len) e)) len 0 f := by
  refine ⟨(Below.refl _ _).alloc (Nat.le_refl _) _, by simp, fun i => by simp, fun i hi => ?_, fun i hi => absurd hi (by omega)⟩
  rw [World.cell?_alloc_new]
  exact ⟨_, by simp [madeCells, hi]; rfl⟩

theorem fill_step {w wr : World} {len k : Nat} {f : Nat → Int} (h : Fill w wr len k f) (hk : k < len) : Fill w (wr.setCell ⟨w.heap.size, k, none⟩ (.int .u8 (f k))) len (k + 1) f := by
  obtain ⟨hb, hz, hf, hs, hc⟩ := h
  refine ⟨hb.setCell (Nat.le_refl _) _, by simpa using hz, fun i => by simpa using hf i, fun i hi => cell?_setCell_some (hs i hi).choose_spec, fun i hi => ?_⟩
  by_cases e : i = k
  · subst e
    exact World.cell?_setCell_same _ _ _ (hs i hk).choose_spec
  · rw [World.cell?_setCell_other _ _ _ _ (fun hh => e (Addr.mk.inj hh).2.1.symm)]
    exact hc i (by omega)

theorem Fill.bytes {w wr : World} {len : Nat} {f : Nat → Int} (h : Fill w wr len len f) (hf : ∀ k, 0 ≤ f k ∧ f k ≤ 255) : Bytes wr (some ⟨w.heap.size, 0, none⟩) len f :=
  ⟨hf, fun _ => ⟨w.heap.size, 0, rfl, fun i hi => by rw [Nat.zero_add]; exact h.2.2.2.2 i hi⟩⟩
end Go.Proofs.Ytfgghffgfefgpaa

namespace Go.Proofs.Ytfgghffgfefgpaa
open Go.RowKit Go.PlainAid
set_option linter.unusedVariables false
set_option maxRecDepth 20000

theorem Try.infoByte : (Try.prog.info? 5).map (fun i => (i.zero, i.size, i.bytes)) = some (some (.int .u8 0), 1, 1) := by kernel_rfl

end Go.Proofs.Ytfgghffgfefgpaa

namespace Go.Proofs.Ytfgghffgfefgpaa
open Go.RowKit Go.PlainAid
set_option linter.unusedVariables false
set_option maxRecDepth 20000

/-- The number of the first k bytes. -/
def numOf (f : Nat → Int) : Nat → Int
  | 0 => 0
  | k + 1 => numOf f k * 256 + f k

theorem numOf_bd (f : Nat → Int) (h : ∀ k, 0 ≤ f k ∧ f k ≤ 255) : ∀ k : Nat, 0 ≤ numOf f k ∧ numOf f k ≤ 256 ^ k - 1
  | 0 => by simp [numOf]
  | k + 1 => by
    have := numOf_bd f h k
    have := h k
    have e : (256 : Int) ^ (k + 1) = 256 ^ k * 256 := Int.pow_succ ..
    rw [e]
    unfold numOf
    omega
theorem numOf_le5 (f : Nat → Int) (h : ∀ k, 0 ≤ f k ∧ f k ≤ 255) (k : Nat) (hk : k ≤ 5) : 0 ≤ numOf f k ∧ numOf f k ≤ 1099511627775 := by
  have := numOf_bd f h k
  match k, hk with
  | 0, _ | 1, _ | 2, _ | 3, _ | 4, _ | 5, _ => simp at this; omega
theorem numOf_congr (f g : Nat → Int) : ∀ k : Nat, (∀ j, j < k → f j = g j) → numOf f k = numOf g k
  | 0, _ => rfl
  | k + 1, h => by rw [numOf, numOf, numOf_congr f g k (fun j hj => h j (by omega)), h k (by omega)]

theorem l01In_any (n lo hi : Int) (w : World) : Calls Try.prog 74 #[.int .i64 n, .int .i64 lo, .int .i64 hi] w fun e w' => e = .returned (.bool (decide (lo ≤ n ∧ n ≤ hi))) ∧ w' = w := by
  by_cases h1 : lo ≤ n
  · by_cases h2 : n ≤ hi
    · go_enter Try.func74, Try.ntmps74
      go_wp2
      go_ret
      exact ⟨congrArg (fun b => Ending.returned (.bool b)) (by simp [h1, h2]), rfl⟩
    · go_enter Try.func74, Try.ntmps74
      go_wp2
      go_ret
      exact ⟨congrArg (fun b => Ending.returned (.bool b)) (by simp [h2]), rfl⟩
  · have h1' : decide (lo ≤ n) = false := by simp; omega
    go_enter Try.func74, Try.ntmps74
    go_wp2
    go_ret
    exact ⟨congrArg (fun b => Ending.returned (.bool b)) (by simp), rfl⟩

theorem l01In_no (n lo hi : Int) (w : World) (h : n < lo ∨ hi < n) : Calls Try.prog 74 #[.int .i64 n, .int .i64 lo, .int .i64 hi] w fun e w' => e = .returned (.bool false) ∧ w' = w :=
  (l01In_any n lo hi w).mono fun e w' hh => ⟨by rw [hh.1, decide_eq_false (by omega)], hh.2⟩
theorem l01In_yes (n lo hi : Int) (w : World) (h : lo ≤ n) (h' : n ≤ hi) : Calls Try.prog 74 #[.int .i64 n, .int .i64 lo, .int .i64 hi] w fun e w' => e = .returned (.bool true) ∧ w' = w :=
  (l01In_any n lo hi w).mono fun e w' hh => ⟨by rw [hh.1, decide_eq_true ⟨h, h'⟩], hh.2⟩

end Go.Proofs.Ytfgghffgfefgpaa

namespace Go.Proofs.Ytfgghffgfefgpaa
open Go.RowKit Go.PlainAid
set_option linter.unusedVariables false

theorem hasRoom_y (n : Int) (m : Nat) (w : World) (h1 : 1 ≤ m) (h6 : m ≤ 6) (hn : 0 ≤ n) (hr : n < 2 ^ (8 * m)) (hx : n ≤ 9223372036854775807) :
    Calls Try.prog 63 #[.int .i64 n, .int .i64 m] w fun e w' => e = .returned (.bool true) ∧ w' = w := by
  have b3 : decide (0 ≤ n) = true := by simp; omega
  have b4 : (n / 2 ^ (8 * m) == 0) = true := by simp; exact Int.ediv_eq_zero_of_lt hn hr
  clear hr
  go_enter Try.func63, Try.ntmps63
  go_wp2
  go_ret
  exact ⟨rfl, rfl⟩
theorem hasRoom_n (n : Int) (m : Nat) (w : World) (h1 : 1 ≤ m) (h6 : m ≤ 6) (h : n < 0 ∨ 2 ^ (8 * m) ≤ n) (hx : n ≤ 9223372036854775807) :
    Calls Try.prog 63 #[.int .i64 n, .int .i64 m] w fun e w' => e = .returned (.bool false) ∧ w' = w := by
  by_cases h0 : n < 0
  · have b3 : decide (0 ≤ n) = false := by simp; omega
    clear h
    go_enter Try.func63, Try.ntmps63
    go_wp2
    go_ret
    exact ⟨rfl, rfl⟩
  · have b3 : decide (0 ≤ n) = true := by simp; omega
    have hp : (0 : Int) < 2 ^ (8 * m) := Int.pow_pos (by omega)
    have hq : 1 ≤ n / 2 ^ (8 * m) := by rw [Int.le_ediv_iff_mul_le hp]; omega
    have b4 : (n / 2 ^ (8 * m) == 0) = false := by rw [beq_eq_false_iff_ne]; omega
    clear h hp hq
    go_enter Try.func63, Try.ntmps63
    go_wp2
    go_ret
    exact ⟨rfl, rfl⟩

theorem addressOK_y (n : Int) (w : World) (h0 : 0 ≤ n) (h1 : n ≤ 4294967295) :
    Calls Try.prog 47 #[.int .i64 n] w fun e w' => e = .returned (.bool true) ∧ w' = w := by
  go_enter Try.func47, Try.ntmps47
  go_wp2
  go_ret
  exact ⟨congrArg (fun b => Ending.returned (.bool b)) (by simp), rfl⟩
theorem addressOK_n (n : Int) (w : World) (h : ¬ (0 ≤ n ∧ n ≤ 4294967295)) :
    Calls Try.prog 47 #[.int .i64 n] w fun e w' => e = .returned (.bool false) ∧ w' = w := by
  by_cases h0 : 0 ≤ n
  · have h2 : ¬ n ≤ 4294967295 := fun hh => h ⟨h0, hh⟩
    clear h
    go_enter Try.func47, Try.ntmps47
    go_wp2
    go_ret
    exact ⟨congrArg (fun b => Ending.returned (.bool b)) (by simp), rfl⟩
  · clear h
    have b : decide (0 ≤ n) = false := by simp; omega
    go_enter Try.func47, Try.ntmps47
    go_wp2
    go_ret
    exact ⟨rfl, rfl⟩
end Go.Proofs.Ytfgghffgfefgpaa

namespace Go.Proofs.Ytfgghffgfefgpaa
open Go.RowKit Go.PlainAid
set_option linter.unusedVariables false
set_option maxRecDepth 20000

/-- Whether it holds: a name that no rule looks into. -/
def dec (p : Prop) [Decidable p] : Bool := decide p
theorem dec_y {p : Prop} [Decidable p] (h : p) : dec p = true := decide_eq_true h
theorem dec_n {p : Prop} [Decidable p] (h : ¬ p) : dec p = false := decide_eq_false h

theorem hasRoom_any (n : Int) (m : Nat) (M : Int) (w : World) (h1 : 1 ≤ m) (h6 : m ≤ 6) (hM : (2 : Int) ^ (8 * m) = M + 1) (hx : n ≤ 9223372036854775807) :
    Calls Try.prog 63 #[.int .i64 n, .int .i64 m] w fun e w' => e = .returned (.bool (dec (0 ≤ n ∧ n ≤ M))) ∧ w' = w := by
  by_cases h : 0 ≤ n ∧ n ≤ M
  · exact (hasRoom_y n m w h1 h6 h.1 (by rw [hM]; omega) hx).mono fun e w' hh => ⟨by rw [dec_y h]; exact hh.1, hh.2⟩
  · exact (hasRoom_n n m w h1 h6 (by rw [hM]; omega) hx).mono fun e w' hh => ⟨by rw [dec_n h]; exact hh.1, hh.2⟩
theorem hasRoom1 (n : Int) (w : World) (hx : n ≤ 9223372036854775807) : Calls Try.prog 63 #[.int .i64 n, .int .i64 1] w fun e w' => e = .returned (.bool (dec (0 ≤ n ∧ n ≤ 255))) ∧ w' = w :=
  hasRoom_any n 1 255 w (by omega) (by omega) rfl hx
theorem hasRoom2 (n : Int) (w : World) (hx : n ≤ 9223372036854775807) : Calls Try.prog 63 #[.int .i64 n, .int .i64 2] w fun e w' => e = .returned (.bool (dec (0 ≤ n ∧ n ≤ 65535))) ∧ w' = w :=
  hasRoom_any n 2 65535 w (by omega) (by omega) rfl hx
theorem hasRoom4 (n : Int) (w : World) (hx : n ≤ 9223372036854775807) : Calls Try.prog 63 #[.int .i64 n, .int .i64 4] w fun e w' => e = .returned (.bool (dec (0 ≤ n ∧ n ≤ 4294967295))) ∧ w' = w :=
  hasRoom_any n 4 4294967295 w (by omega) (by omega) rfl hx
theorem addressOK_any (n : Int) (w : World) : Calls Try.prog 47 #[.int .i64 n] w fun e w' => e = .returned (.bool (dec (0 ≤ n ∧ n ≤ 4294967295))) ∧ w' = w := by
  by_cases h : 0 ≤ n ∧ n ≤ 4294967295
  · exact (addressOK_y n w h.1 h.2).mono fun e w' hh => ⟨by rw [dec_y h]; exact hh.1, hh.2⟩
  · exact (addressOK_n n w h).mono fun e w' hh => ⟨by rw [dec_n h]; exact hh.1, hh.2⟩
theorem portOK_any (n : Int) (w : World) (hx : n ≤ 9223372036854775807) : Calls Try.prog 62 #[.int .i64 n] w fun e w' => e = .returned (.bool (dec (0 ≤ n ∧ n ≤ 65535))) ∧ w' = w := by
  go_enter Try.func62, Try.ntmps62
  go_wp2_with fail
  refine (hasRoom2 _ _ hx).mono ?_
  rintro e w1 ⟨rfl, hw1⟩
  obtain rfl := hw1.symm
  clear hw1
  go_wp2
  go_ret
  exact ⟨rfl, rfl⟩
theorem flagsOK_any (n : Int) (w : World) : Calls Try.prog 64 #[.int .i64 n] w fun e w' => e = .returned (.bool (dec (0 ≤ n ∧ n ≤ 31))) ∧ w' = w := by
  by_cases h0 : 0 ≤ n
  · go_enter Try.func64, Try.ntmps64
    go_wp2
    go_ret
    exact ⟨congrArg (fun b => Ending.returned (.bool b)) (by simp [dec, h0]), rfl⟩
  · have b : decide (0 ≤ n) = false := by simp; omega
    go_enter Try.func64, Try.ntmps64
    go_wp2
    go_ret
    exact ⟨congrArg (fun b => Ending.returned (.bool b)) (by rw [dec_n]; omega), rfl⟩
theorem specIn_any (n lo hi : Int) (w : World) : Calls Try.prog 74 #[.int .i64 n, .int .i64 lo, .int .i64 hi] w fun e w' => e = .returned (.bool (dec (lo ≤ n ∧ n ≤ hi))) ∧ w' = w := l01In_any n lo hi w
theorem specIp_any (n : Int) (w : World) : Calls Try.prog 73 #[.int .i64 n] w fun e w' => e = .returned (.bool (dec (0 ≤ n ∧ n ≤ 4294967295))) ∧ w' = w := by
  go_enter Try.func73, Try.ntmps73
  go_wp2_with fail
  refine (specIn_any _ _ _ _).mono ?_
  rintro e w1 ⟨rfl, hw1⟩
  obtain rfl := hw1.symm
  clear hw1
  go_wp2
  go_ret
  exact ⟨rfl, rfl⟩
theorem specPort_any (n : Int) (w : World) : Calls Try.prog 76 #[.int .i64 n] w fun e w' => e = .returned (.bool (dec (0 ≤ n ∧ n ≤ 65535))) ∧ w' = w := by
  go_enter Try.func76, Try.ntmps76
  go_wp2_with fail
  refine (specIn_any _ _ _ _).mono ?_
  rintro e w1 ⟨rfl, hw1⟩
  obtain rfl := hw1.symm
  clear hw1
  go_wp2
  go_ret
  exact ⟨rfl, rfl⟩
end Go.Proofs.Ytfgghffgfefgpaa

namespace Go.Proofs.Ytfgghffgfefgpaa
open Go.RowKit Go.PlainAid
set_option linter.unusedVariables false

def letB (c : Int) : Bool := decide ((97 ≤ c ∧ c ≤ 122) ∨ (65 ≤ c ∧ c ≤ 90) ∨ c = 95)
def digB (c : Int) : Bool := decide (48 ≤ c ∧ c ≤ 57)

theorem ret_bool {a b : Bool} (h : a = b) : Ending.returned (.bool a) = .returned (.bool b) := by rw [h]

theorem let_cases (c : Int) : (c < 65 ∧ letB c = false) ∨ (65 ≤ c ∧ c ≤ 90 ∧ letB c = true) ∨ (90 < c ∧ c < 95 ∧ letB c = false) ∨ (c = 95 ∧ letB c = true) ∨ (95 < c ∧ c < 97 ∧ letB c = false) ∨ (97 ≤ c ∧ c ≤ 122 ∧ letB c = true) ∨ (122 < c ∧ letB c = false) := by
  unfold letB; simp; omega
theorem dig_cases (c : Int) : (c < 48 ∧ digB c = false) ∨ (48 ≤ c ∧ c ≤ 57 ∧ digB c = true) ∨ (57 < c ∧ digB c = false) := by
  unfold digB; simp; omega
theorem dig_not_let (c : Int) (h : digB c = true) : letB c = false := by
  unfold digB at h; unfold letB; simp at h ⊢; omega

/-- A name: 1 to 40 bytes, a letter, then letters and digits. -/
def nameB (f : Nat → Int) (n : Nat) : Bool := decide (1 ≤ n ∧ n ≤ 40 ∧ letB (f 0) = true ∧ ∀ j, j < n → letB (f j) = true ∨ digB (f j) = true)

theorem name_no_len (f : Nat → Int) (n : Nat) (h : n < 1 ∨ 40 < n) : nameB f n = false := by unfold nameB; rw [decide_eq_false_iff_not]; omega
theorem name_no_let (f : Nat → Int) (n : Nat) (h : letB (f 0) = false) : nameB f n = false := by unfold nameB; rw [decide_eq_false_iff_not]; simp [h]
theorem name_no_at (f : Nat → Int) (n k : Nat) (hk : k < n) (h : letB (f k) = false) (h' : digB (f k) = false) : nameB f n = false := by
  unfold nameB; rw [decide_eq_false_iff_not]; rintro ⟨_, _, _, h4⟩; have := h4 k hk; simp [h, h'] at this
theorem name_yes (f : Nat → Int) (n : Nat) (h0 : 1 ≤ n) (h1 : n ≤ 40) (h2 : letB (f 0) = true) (h : ∀ j, j < n → letB (f j) = true ∨ digB (f j) = true) : nameB f n = true := by
  unfold nameB; rw [decide_eq_true_iff]; exact ⟨h0, h1, h2, h⟩

theorem all_step {f : Nat → Int} {k : Nat} (h : ∀ j, j < k → letB (f j) = true ∨ digB (f j) = true) (hk : letB (f k) = true ∨ digB (f k) = true) : ∀ j, j < k + 1 → letB (f j) = true ∨ digB (f j) = true := by
  intro j hj
  by_cases e : j = k
  · subst e; exact hk
  · exact h j (by omega)

end Go.Proofs.Ytfgghffgfefgpaa

namespace Go.Proofs.Ytfgghffgfefgpaa
open Go.RowKit Go.PlainAid
set_option linter.unusedVariables false
set_option maxRecDepth 20000
theorem between_any (n lo hi : Int) (w : World) : Calls Try.prog 52 #[.int .i64 n, .int .i64 lo, .int .i64 hi] w fun e w' => e = .returned (.bool (decide (lo ≤ n ∧ n ≤ hi))) ∧ w' = w := by
  by_cases h1 : lo ≤ n
  · by_cases h2 : n ≤ hi
    · go_enter Try.func52, Try.ntmps52
      go_wp2
      go_ret
      exact ⟨congrArg (fun b => Ending.returned (.bool b)) (by simp [h1, h2]), rfl⟩
    · go_enter Try.func52, Try.ntmps52
      go_wp2
      go_ret
      exact ⟨congrArg (fun b => Ending.returned (.bool b)) (by simp [h2]), rfl⟩
  · have h1' : decide (lo ≤ n) = false := by simp; omega
    go_enter Try.func52, Try.ntmps52
    go_wp2
    go_ret
    exact ⟨congrArg (fun b => Ending.returned (.bool b)) (by simp), rfl⟩
def snB (s : ByteArray) : Bool := nameB (bt s) s.size && dec (s.size ≤ 8)
theorem snB_le {s : ByteArray} (h : snB s = true) : s.size ≤ 8 := by
  unfold snB dec at h
  simp at h
  exact h.2
end Go.Proofs.Ytfgghffgfefgpaa

namespace Go.Proofs.Ytfgghffgfefgpaa
open Go.RowKit Go.PlainAid Go.Sort
set_option linter.unusedVariables false

/-- Draws, and new blocks alone. -/
def Grw (w w' : World) : Prop := ∃ q os, w' = grow (w.drewN q) os
theorem Grw.refl (w : World) : Grw w w := ⟨0, #[], by rw [grow_empty]; rfl⟩
theorem Grw.drew {w w' : World} (h : Grw w w') : Grw w w'.drew := by
  obtain ⟨q, os, rfl⟩ := h
  exact ⟨q + 1, os, by rw [drew_grow]; congr 1⟩
theorem Grw.alloc {w w' : World} (h : Grw w w') (o : Obj) : Grw w (w'.alloc o) := by
  obtain ⟨q, os, rfl⟩ := h
  exact ⟨q, os ++ #[o], by rw [alloc_eq_grow, grow_grow]⟩
theorem Grw.trans {w w1 w2 : World} (h : Grw w w1) (h2 : Grw w1 w2) : Grw w w2 := by
  obtain ⟨q, os, rfl⟩ := h
  obtain ⟨r, os2, rfl⟩ := h2
  refine ⟨q + r, os ++ os2, ?_⟩
  show grow (grow ((w.drewN q).drewN r) os) os2 = _
  rw [grow_grow, World.drewN_drewN]
theorem below_grow (w : World) (q : Nat) (os : Array Obj) : Below w.heap.size w (grow (w.drewN q) os) := by
  refine ⟨rfl, rfl, rfl, ?_, fun k hk => ?_⟩
  · show w.heap.size ≤ (w.heap ++ os).size
    rw [Array.size_append]; omega
  · exact heap_grow_old (w.drewN q) os hk
theorem Grw.below {w w' : World} (h : Grw w w') : Below w.heap.size w w' := by
  obtain ⟨q, os, rfl⟩ := h
  exact below_grow w q os

theorem grown_cell {w wr : World} {b off : Nat} {v : Value} (hb : b < w.heap.size) (hG : Grw w wr) (h : wr.cell? ⟨b, off, none⟩ = some v) (n : Nat) (os : Array Obj) : (grow (wr.drewN n) os).cell? ⟨b, off, none⟩ = some v :=
  cell_grown (Nat.lt_of_lt_of_le hb hG.below.size) h n os

end Go.Proofs.Ytfgghffgfefgpaa

namespace Go.Proofs.Ytfgghffgfefgpaa
open Go.RowKit Go.PlainAid Go.Proofs.Ytfgghffgfefgpaa.Bt Go.Sort
set_option linter.unusedVariables false
set_option maxRecDepth 20000

/-- The number's place in the round. -/
def sqN (n : Int) : Int := n % 4294967296
theorem sqN_bd (n : Int) : 0 ≤ sqN n ∧ sqN n ≤ 4294967295 := by unfold sqN; omega
theorem sqN_id {n : Int} (h0 : 0 ≤ n) (h1 : n ≤ 4294967295) : sqN n = n := by unfold sqN; omega
/-- 'n & MaxAddress', also below 0. -/
theorem mask32 (n : Int) (h0 : -9223372036854775808 ≤ n) (h1 : n ≤ 9223372036854775807) : bits BinOp.and IntKind.i64 n 4294967295 = sqN n := by
  by_cases hn : 0 ≤ n
  · exact mask 32 (by omega) n hn h1
  · have e : bits BinOp.and IntKind.i64 n 4294967295 = bits BinOp.and IntKind.i64 ((n + 18446744073709551616) % 4294967296) 4294967295 := by
      show IntKind.i64.wrap ((BitVec.ofInt 64 n &&& BitVec.ofInt 64 4294967295).toNat : Int) = IntKind.i64.wrap ((BitVec.ofInt 64 ((n + 18446744073709551616) % 4294967296) &&& BitVec.ofInt 64 4294967295).toNat : Int)
      congr 2
      rw [BitVec.toNat_and, BitVec.toNat_and]
      have e1 : (BitVec.ofInt 64 (4294967295 : Int)).toNat = 2 ^ 32 - 1 := by decide
      rw [e1, Nat.and_two_pow_sub_one_eq_mod, Nat.and_two_pow_sub_one_eq_mod, BitVec.toNat_ofInt, BitVec.toNat_ofInt]
      omega
    rw [e]
    have := mask 32 (by omega) ((n + 18446744073709551616) % 4294967296) (by omega) (by omega)
    rw [show bits BinOp.and IntKind.i64 ((n + 18446744073709551616) % 4294967296) 4294967295 = (n + 18446744073709551616) % 4294967296 % ((2 ^ 32 : Nat) : Int) from this]
    unfold sqN
    omega
theorem l10Seq_any (n : Int) (w : World) (h0 : -9223372036854775808 ≤ n) (h1 : n ≤ 9223372036854775807) : Calls Try.prog 61 #[.int .i64 n] w fun e w' => e = .returned (.int .i64 (sqN n)) ∧ w' = w := by
  have hm := mask32 n h0 h1
  generalize sqN n = z at hm ⊢
  go_enter Try.func61, Try.ntmps61
  go_wp2
  go_ret
  exact ⟨by first | rfl | (rw [hm]; rfl), rfl⟩
theorem seqOK_any (n : Int) (w : World) : Calls Try.prog 48 #[.int .i64 n] w fun e w' => e = .returned (.bool (dec (0 ≤ n ∧ n ≤ 4294967295))) ∧ w' = w := by
  have HB : Hid (∀ w, Calls Try.prog 52 #[.int .i64 n, .int .i64 0, .int .i64 4294967295] w fun e w' => e = .returned (.bool (dec (0 ≤ n ∧ n ≤ 4294967295))) ∧ w' = w) := fun w => between_any n 0 4294967295 w
  generalize dec (0 ≤ n ∧ n ≤ 4294967295) = z at HB ⊢
  go_enter Try.func48, Try.ntmps48
  go_wp2_with fail
  refine (HB.out _).mono ?_
  rintro e w1 ⟨rfl, hw⟩
  subst hw
  go_wp2
  go_ret
  exact ⟨rfl, rfl⟩
theorem seqAfter_any (n b : Int) (w : World) (h0 : 0 ≤ n) (h1 : n ≤ 4294967296) (h2 : 0 ≤ b) (h3 : b ≤ 4294967296) : Calls Try.prog 40 #[.int .i64 n, .int .i64 b] w fun e w' => e = .returned (.int .i64 (sqN (n + b))) ∧ w' = w := by
  have ht : (n + b).tmod 4294967296 = (n + b) % 4294967296 := Int.tmod_eq_emod_of_nonneg (by omega)
  go_enter Try.func40, Try.ntmps40
  go_wp2
  go_ret
  exact ⟨by first | rfl | (unfold sqN; rw [ht]), rfl⟩
theorem seqWay_any (a b : Int) (w : World) (h0 : 0 ≤ a) (h1 : a ≤ 4294967295) (h2 : 0 ≤ b) (h3 : b ≤ 4294967295) : Calls Try.prog 53 #[.int .i64 a, .int .i64 b] w fun e w' => e = .returned (.int .i64 (sqN (b - a))) ∧ w' = w := by
  have ht : (b - a + 4294967296).tmod 4294967296 = (b - a + 4294967296) % 4294967296 := Int.tmod_eq_emod_of_nonneg (by omega)
  have he : (b - a + 4294967296) % 4294967296 = (b - a) % 4294967296 := by omega
  go_enter Try.func53, Try.ntmps53
  go_wp2
  go_ret
  exact ⟨by unfold sqN; first | rfl | (rw [ht, he]; rfl), rfl⟩
/-- What SeqLess answers. -/
def slB (a b : Int) : Bool := dec (0 ≤ a ∧ a ≤ 4294967295) && dec (0 ≤ b ∧ b ≤ 4294967295) && decide (1 ≤ sqN (b - a) ∧ sqN (b - a) ≤ 2147483647)
def slC (a b : Int) : Int := if (dec (0 ≤ a ∧ a ≤ 4294967295) && dec (0 ≤ b ∧ b ≤ 4294967295)) = true then 0 else 4
theorem implLess_any (a b : Int) (w : World) : Calls Try.prog 21 #[.int .i64 a, .int .i64 b] w fun e w' => e = .returned (.tuple #[.bool (slB a b), .int .i64 (slC a b)]) ∧ w' = w := by
  have T1 : Hid (∀ w, Calls Try.prog 48 #[.int .i64 a] w fun e w' => e = .returned (.bool (dec (0 ≤ a ∧ a ≤ 4294967295))) ∧ w' = w) := fun w => seqOK_any a w
  have T2 : Hid (∀ w, Calls Try.prog 48 #[.int .i64 b] w fun e w' => e = .returned (.bool (dec (0 ≤ b ∧ b ≤ 4294967295))) ∧ w' = w) := fun w => seqOK_any b w
  have T3 : Hid (dec (0 ≤ a ∧ a ≤ 4294967295) = true → dec (0 ≤ b ∧ b ≤ 4294967295) = true → ∀ w, Calls Try.prog 53 #[.int .i64 a, .int .i64 b] w fun e w' => e = .returned (.int .i64 (sqN (b - a))) ∧ w' = w) := fun h1 h2 w => by
    simp [dec] at h1 h2
    exact seqWay_any a b w h1.1 h1.2 h2.1 h2.2
  have T5 : Hid (∀ w, Calls Try.prog 52 #[.int .i64 (sqN (b - a)), .int .i64 1, .int .i64 2147483647] w fun e w' => e = .returned (.bool (decide (1 ≤ sqN (b - a) ∧ sqN (b - a) ≤ 2147483647))) ∧ w' = w) := fun w => between_any _ 1 2147483647 w
  unfold slB slC
  generalize dec (0 ≤ a ∧ a ≤ 4294967295) = t1 at T1 T3 ⊢
  generalize dec (0 ≤ b ∧ b ≤ 4294967295) = t2 at T2 T3 ⊢
  generalize decide (1 ≤ sqN (b - a) ∧ sqN (b - a) ≤ 2147483647) = t3 at T5 ⊢
  generalize sqN (b - a) = z at T3 T5
  cases t1 with
  | false =>
    rw [if_neg (by simp)]
    clear T3
    go_enter Try.func21, Try.ntmps21
    go_wp2_with fail
    refine (T1.out _).mono ?_
    rintro e w1 ⟨rfl, hw⟩
    subst hw
    go_wp2
    go_ret2
    exact ⟨rfl, rfl⟩
  | true =>
    cases t2 with
    | false =>
      rw [if_neg (by simp)]
      clear T3
      go_enter Try.func21, Try.ntmps21
      go_wp2_with fail
      refine (T1.out _).mono ?_
      rintro e w1 ⟨rfl, hw⟩
      subst hw
      go_wp2_with fail
      refine (T2.out _).mono ?_
      rintro e w1 ⟨rfl, hw⟩
      subst hw
      go_wp2
      go_ret2
      exact ⟨rfl, rfl⟩
    | true =>
      have T4 : Hid (∀ w, Calls Try.prog 53 #[.int .i64 a, .int .i64 b] w fun e w' => e = .returned (.int .i64 z) ∧ w' = w) := T3.out rfl rfl
      clear T3
      rw [if_pos (by simp)]
      go_enter Try.func21, Try.ntmps21
      go_wp2_with fail
      refine (T1.out _).mono ?_
      rintro e w1 ⟨rfl, hw⟩
      subst hw
      go_wp2_with fail
      refine (T2.out _).mono ?_
      rintro e w1 ⟨rfl, hw⟩
      subst hw
      go_wp2_with fail
      refine (T4.out _).mono ?_
      rintro e w1 ⟨rfl, hw⟩
      subst hw
      go_wp2_with fail
      refine (T5.out _).mono ?_
      rintro e w1 ⟨rfl, hw⟩
      subst hw
      go_wp2
      go_ret2
      exact ⟨rfl, rfl⟩
end Go.Proofs.Ytfgghffgfefgpaa

namespace Go.Proofs.Ytfgghffgfefgpaa
open Go.RowKit Go.PlainAid
set_option linter.unusedVariables false
theorem Grw.keep {w w' : World} (h : Grw w w') {a : Addr} {v : Value} (hc : w.cell? a = some v) : w'.cell? a = some v := by
  rw [h.below.cell (World.block_lt_of_cell? w a hc)]; exact hc
theorem bkeep {w w' : World} (h : Below w.heap.size w w') {a : Addr} {v : Value} (hc : w.cell? a = some v) : w'.cell? a = some v := by
  rw [h.cell (World.block_lt_of_cell? w a hc)]; exact hc
theorem acell {w : World} {a : Addr} {v : Value} (h : w.cell? a = some v) (o : Obj) : (w.alloc o).cell? a = some v := bkeep ((Below.refl _ _).alloc (Nat.le_refl _) o) h
theorem bthaw {w w' : World} (h : Below w.heap.size w w') {a : Addr} {v : Value} (hc : w.cell? a = some v) (hf : w.frozen? a = false) : w'.frozen? a = false := by
  rw [h.frozen (World.block_lt_of_cell? w a hc)]; exact hf
end Go.Proofs.Ytfgghffgfefgpaa

namespace Go.Proofs.Ytfgghffgfefgpaa
open Go.RowKit Go.PlainAid
set_option linter.unusedVariables false

/-- The slice value v owns the bytes L, in a block from B on. -/
def OwnL (e : TypeId) (w : World) (B : Nat) (v : Value) (L : List Int) : Prop := w.ownsRow B e 1 v L.length (L.map (Value.int .u8))

theorem OwnL.snoc {e : TypeId} {w : World} {B : Nat} {v : Value} {L : List Int} {x : Int} (h : w.ownsRow B e 1 v (L.length + 1) (L.map (Value.int .u8) ++ [.int .u8 x])) : OwnL e w B v (L ++ [x]) := by
  unfold OwnL; simpa using h
theorem OwnL.more {e : TypeId} {w : World} {B : Nat} {v : Value} {L M : List Int} (h : w.ownsRow B e 1 v (L.length + M.length) (L.map (Value.int .u8) ++ M.map (.int .u8))) : OwnL e w B v (L ++ M) := by
  unfold OwnL; simpa using h

theorem OwnL.slice {e : TypeId} {w : World} {B : Nat} {v : Value} {L : List Int} (h : OwnL e w B v L) (hL : ∀ x ∈ L, 0 ≤ x ∧ x ≤ 255) :
    ∃ a cap, v = .slice a L.length cap ∧ Bytes w a L.length (fun j => L.getD j 0) ∧ ∀ b off, a = some ⟨b, off, none⟩ → B ≤ b := by
  have hf : ∀ k, 0 ≤ L.getD k 0 ∧ L.getD k 0 ≤ 255 := by
    intro k
    by_cases hk : k < L.length
    · rw [List.getD_eq_getElem?_getD, List.getElem?_eq_getElem hk]; exact hL _ (List.getElem_mem hk)
    · rw [List.getD_eq_getElem?_getD, List.getElem?_eq_none (by omega)]; simp
  rcases h.2 with ⟨h1, h2⟩ | ⟨g, cap, cur, h1, hB, hg, hle, hm, hs, ht⟩
  · have e0 : L = [] := by simpa using h2
    subst e0
    exact ⟨none, 0, by simpa using h1, ⟨hf, fun h0 => absurd h0 (by simp)⟩, fun b off h => by cases h⟩
  · refine ⟨some ⟨g, 0, none⟩, cap, by simpa using h1, ⟨hf, fun h0 => ⟨g, 0, rfl, fun i hi => ?_⟩⟩, fun b off h => by cases h; exact hB⟩
    have hc := World.ownsRow.cells h (g := g) (by rw [h1]; rfl) i (.int .u8 (L.getD i 0)) (by simp [hi])
    have ea : (⟨g, 0, none⟩ : Addr).add i = ⟨g, 0 + i, none⟩ := by unfold Addr.add; split <;> simp_all
    rw [ea] at hc
    exact hc

theorem strOf_list (L : List Int) : strOf (fun j => L.getD j 0) L.length = strOfNums L := by
  unfold strOf
  congr 1
  apply List.ext_getElem?
  intro i
  by_cases hi : i < L.length
  · simp [hi]
  · simp [hi]

/-- 'string(out)'. -/
theorem conv_own {P : Program} (w : World) (src dst e : TypeId) (hs : P.underlying src = some (.slice e)) (he : P.underlying e = some (.int .u8)) (hd : P.underlying dst = some .string)
    (a : Option Addr) (cap : Nat) (L : List Int) (h : Bytes w a L.length (fun j => L.getD j 0)) :
    (convert src dst (.slice a L.length cap)).run P w = .ok (.string (strOfNums L)) w := by
  rw [conv_row w src dst e hs he hd a L.length cap _ h, strOf_list]

/-- '[]byte(s)': the bytes in new memory. -/
theorem conv_bytes {P : Program} (w : World) (src dst e : TypeId) (s : ByteArray) (hs : P.underlying src = some .string) (hd : P.underlying dst = some (.slice e)) (he : P.underlying e = some (.int .u8)) :
    ∃ cap w', (convert src dst (.string s)).run P w = .ok (.slice (some ⟨w.heap.size, 0, none⟩) s.size cap) w' ∧ Below w.heap.size w w' ∧ w'.heap.size = w.heap.size + 1 ∧
      (∀ i, i < s.size → w'.frozen? ⟨w.heap.size, i, none⟩ = false) ∧ ∀ i, i < s.size → w'.cell? ⟨w.heap.size, i, none⟩ = some (.int .u8 (bt s i)) := by
  refine ⟨_, _, Go.Lib.run_convert_string_bytes w src dst e s hs hd he, ⟨rfl, rfl, rfl, ?_, ?_⟩, Go.Lib.bytesWorld_size w e s, ?_, ?_⟩
  · rw [Go.Lib.bytesWorld_size]; omega
  · intro k hk; exact Go.Lib.bytesWorld_at_old w e s k hk
  · intro i hi
    have hb := Go.Lib.bytesWorld_at_new w e s
    have hz : s.size ≤ (Go.Lib.bytesCells w e s).size := by simp [Go.Lib.bytesCells]
    simp [World.frozen?, hb]
    omega
  · intro i hi
    rw [Go.Lib.bytesWorld_cell w e s i hi]
    have : (s.data.toList.getD i 0) = s[i] := by
      have hi' : i < s.data.size := hi
      rw [List.getD_eq_getElem?_getD, List.getElem?_eq_getElem (by simpa using hi')]; rfl
    rw [this, get_bt s i hi]
end Go.Proofs.Ytfgghffgfefgpaa

namespace Go.Proofs.Ytfgghffgfefgpaa
open Go.RowKit Go.PlainAid
set_option linter.unusedVariables false

/-- The sixteen digits. -/
def hexs : ByteArray := ⟨#[48, 49, 50, 51, 52, 53, 54, 55, 56, 57, 97, 98, 99, 100, 101, 102]⟩
theorem hexs_size : hexs.size = 16 := rfl
def hx (n : Int) : Int := bt hexs n.toNat
theorem hx_bd (n : Int) : 0 ≤ hx n ∧ hx n ≤ 255 := ⟨bt_nonneg _ _, bt_le _ _⟩

/-- The digits of the first k bytes, with colons between. -/
def macl (f : Nat → Int) : Nat → List Int
  | 0 => []
  | k + 1 => macl f k ++ ((if k = 0 then [] else [58]) ++ [hx (f k / 16), hx (f k % 16)])

theorem macl_len (f : Nat → Int) : ∀ k : Nat, (macl f k).length ≤ 3 * k
  | 0 => by simp [macl]
  | k + 1 => by
    have := macl_len f k
    unfold macl
    split <;> simp <;> omega
theorem macl_bd (f : Nat → Int) : ∀ k : Nat, ∀ x ∈ macl f k, 0 ≤ x ∧ x ≤ 255
  | 0 => by simp [macl]
  | k + 1 => by
    have := macl_bd f k
    intro x hx'
    unfold macl at hx'
    split at hx' <;> simp at hx' <;> rcases hx' with h | h | h <;> first | exact this x h | (subst h; exact hx_bd _) | skip
    all_goals (first | (subst h; omega) | (rcases h with h | h <;> (subst h; exact hx_bd _)))
theorem macl_first (f : Nat → Int) : macl f 1 = [hx (f 0 / 16), hx (f 0 % 16)] := rfl
theorem macl_next (f : Nat → Int) (k : Nat) (h : 0 < k) : macl f (k + 1) = macl f k ++ [58] ++ [hx (f k / 16), hx (f k % 16)] := by
  rw [macl, if_neg (by omega), List.append_assoc]

theorem u8_and15 (n : Int) (h0 : 0 ≤ n) (h1 : n ≤ 255) : bits BinOp.and IntKind.u8 n 15 = n % 16 := by
  rw [u8_and n 15 h0 (by omega) (by omega) (by omega)]
  show ((n.toNat &&& 15 : Nat) : Int) = _
  rw [nat_mask4]
  omega

theorem isMac_a (s : ByteArray) (q : Bool) (hq : ((s.size : Int) == 6) = q) (w : World) : Calls Try.prog 46 #[.string s] w fun e w' => e = .returned (.bool q) ∧ w' = w := by
  go_enter Try.func46, Try.ntmps46
  go_wp2
  go_ret
  exact ⟨rfl, rfl⟩
theorem l01Mac_any (s : ByteArray) (w : World) : Calls Try.prog 71 #[.string s] w fun e w' => e = .returned (.bool ((s.size : Int) == 6)) ∧ w' = w := by
  go_enter Try.func71, Try.ntmps71
  go_wp2
  go_ret
  exact ⟨rfl, rfl⟩

end Go.Proofs.Ytfgghffgfefgpaa

namespace Go.Proofs.Ytfgghffgfefgpaa
open Go.RowKit Go.PlainAid Go.Proofs.Ytfgghffgfefgpaa.Pl
set_option linter.unusedVariables false

/-- A string's bytes. -/
def nums (s : ByteArray) : List Int := s.data.toList.map fun b => (b.toNat : Int)

theorem nums_len (s : ByteArray) : (nums s).length = s.size := by unfold nums; rw [List.length_map, Array.length_toList]; rfl
theorem nums_bd (s : ByteArray) : ∀ x ∈ nums s, 0 ≤ x ∧ x ≤ 255 := by
  intro x hx
  obtain ⟨b, -, rfl⟩ := List.mem_map.1 hx
  have := b.toNat_lt
  omega
theorem strOfNums_nums (s : ByteArray) : strOfNums (nums s) = s := by
  unfold strOfNums nums
  rw [List.map_map]
  cases s with | mk d =>
  congr 1
  have : (d.toList.map ((fun n : Int => UInt8.ofNat n.toNat) ∘ fun b : UInt8 => (b.toNat : Int))) = d.toList := by
    conv => rhs; rw [← List.map_id d.toList]
    apply List.map_congr_left
    intro b _
    simp
  rw [this]
theorem nums_strOfNums (L : List Int) (h : ∀ x ∈ L, 0 ≤ x ∧ x ≤ 255) : nums (strOfNums L) = L := by
  unfold strOfNums nums
  simp only [List.map_map]
  conv => rhs; rw [← List.map_id L]
  apply List.map_congr_left
  intro x hx
  have := h x hx
  simp
  omega
theorem nums_append (s t : ByteArray) : nums (s ++ t) = nums s ++ nums t := by
  cases s with | mk a => cases t with | mk b =>
  have := Go.ByteArray.mk_append_mk a.toList b.toList
  simp only [Array.toArray_toList] at this
  rw [this]
  simp [nums]
theorem nums_getD (s : ByteArray) (i : Nat) : (nums s).getD i 0 = bt s i := by
  by_cases hi : i < s.size
  · have h2 : i < (nums s).length := by rw [nums_len]; exact hi
    rw [List.getD_eq_getElem?_getD, List.getElem?_eq_getElem h2, ← get_bt s i hi]
    simp [nums]
    rfl
  · rw [bt_end s (by omega), List.getD_eq_getElem?_getD, List.getElem?_eq_none (by rw [nums_len]; omega)]
    rfl
theorem nums_extract (s : ByteArray) (a b : Nat) : nums (s.extract a b) = ((nums s).drop a).take (b - a) := by
  cases s with | mk d =>
  simp [nums, ByteArray.extract, ByteArray.copySlice, List.map_take, List.map_drop]
theorem nums_inj {s t : ByteArray} (h : nums s = nums t) : s = t := by rw [← strOfNums_nums s, ← strOfNums_nums t, h]
theorem strCells_nums (s : ByteArray) : Lib.strCells s = (nums s).map (Value.int .u8) := by simp [Lib.strCells, nums, Function.comp_def]
theorem nums_strOf (f : Nat → Int) (n : Nat) (h : ∀ k, 0 ≤ f k ∧ f k ≤ 255) : nums (strOf f n) = (List.range n).map f :=
  nums_strOfNums _ (by intro x hx; obtain ⟨j, -, rfl⟩ := List.mem_map.1 hx; exact h j)

/-- A list told by places is the list. -/
theorem getD_bd {L : List Int} (h : ∀ x ∈ L, 0 ≤ x ∧ x ≤ 255) (k : Nat) : 0 ≤ L.getD k 0 ∧ L.getD k 0 ≤ 255 := by
  by_cases hk : k < L.length
  · rw [List.getD_eq_getElem?_getD, List.getElem?_eq_getElem hk]; exact h _ (List.getElem_mem hk)
  · rw [List.getD_eq_getElem?_getD, List.getElem?_eq_none (by omega)]; simp
theorem range_getD (L : List Int) : (List.range L.length).map (fun j => L.getD j 0) = L := by
  apply List.ext_getElem?
  intro i
  by_cases hi : i < L.length
  · simp [hi]
  · simp [hi]

/-- The folded sum of a list of bytes. -/
def chkL (L : List Int) : Int := chk (fun j => L.getD j 0) L.length
theorem chkL_bd (L : List Int) (h : ∀ x ∈ L, 0 ≤ x ∧ x ≤ 255) : 0 ≤ chkL L ∧ chkL L ≤ 65535 := chk_bd _ _ (getD_bd h)
theorem chk_nums (s : ByteArray) : chk (bt s) s.size = chkL (nums s) := by
  unfold chkL
  rw [nums_len]
  exact chk_congr _ _ _ (fun j _ => (nums_getD s j).symm)
end Go.Proofs.Ytfgghffgfefgpaa

namespace Go.Proofs.Ytfgghffgfefgpaa
theorem Try.infoB : (Try.prog.info? 5).map (fun i => (i.zero, i.size, i.bytes)) = some (some (.int .u8 0), 1, 1) := by kernel_rfl
end Go.Proofs.Ytfgghffgfefgpaa

namespace Go.Proofs.Ytfgghffgfefgpaa
open Go.RowKit Go.PlainAid
set_option linter.unusedVariables false
set_option maxRecDepth 20000

/-- Byte j of n in m bytes, the higher ones first. -/
def nb (n : Int) (m j : Nat) : Int := n / 2 ^ (8 * (m - 1 - j)) % 256
theorem nb_bd (n : Int) (m j : Nat) : 0 ≤ nb n m j ∧ nb n m j ≤ 255 := by unfold nb; omega

end Go.Proofs.Ytfgghffgfefgpaa

namespace Go.Proofs.Ytfgghffgfefgpaa
open Go.RowKit Go.PlainAid
set_option linter.unusedVariables false
set_option maxRecDepth 20000

theorem Bytes.part {w : World} {b off len : Nat} {f : Nat → Int} (h : Bytes w (some ⟨b, off, none⟩) len f) (at_ size : Nat) (hs : at_ + size ≤ len) (a' : Option Addr) (ha : 0 < size → a' = some ⟨b, off + at_, none⟩) : Bytes w a' size (fun j => f (at_ + j)) := by
  refine ⟨fun k => h.1 _, fun h0 => ?_⟩
  obtain ⟨b', off', e, hc⟩ := h.2 (by omega)
  cases e
  exact ⟨b, off + at_, ha h0, fun i hi => by rw [Nat.add_assoc]; exact hc (at_ + i) (by omega)⟩

/-- A number's bytes. -/
def nbl (n : Int) (m : Nat) : List Int := (List.range m).map (nb n m)
theorem nbl_len (n : Int) (m : Nat) : (nbl n m).length = m := by simp [nbl]
theorem nbl_bd (n : Int) (m : Nat) : ∀ x ∈ nbl n m, 0 ≤ x ∧ x ≤ 255 := by
  intro x hx
  obtain ⟨j, -, rfl⟩ := List.mem_map.1 hx
  exact nb_bd n m j
theorem nums_nb (n : Int) (m : Nat) : nums (strOf (nb n m) m) = nbl n m := nums_strOf _ _ (nb_bd n m)

theorem below_grownBy {w w' : World} (h : Below w.heap.size w w') (row : Option Nat) : w.grownBy w' row := ⟨h.os, h.tape, h.output, h.size, fun k hk _ => h.block k hk⟩
theorem gr_trans {w w1 w2 : World} {r : Option Nat} (h : w.grownBy w1 r) (k : w1.grownBy w2 r) : w.grownBy w2 r :=
  ⟨k.os.trans h.os, k.tape.trans h.tape, k.output.trans h.output, Nat.le_trans h.size k.size, fun i hi hr => (k.block i (Nat.lt_of_lt_of_le hi h.size) hr).trans (h.block i hi hr)⟩
/-- Of what was there when w was, and is not the row, nothing has turned; the row may be a newer one. -/
theorem gr_newer {w w1 w2 : World} {r r' : Option Nat} (h : w.grownBy w1 r) (k : w1.grownBy w2 r') (hn : ∀ b, r' = some b → r = some b ∨ w.heap.size ≤ b) : w.grownBy w2 r :=
  ⟨k.os.trans h.os, k.tape.trans h.tape, k.output.trans h.output, Nat.le_trans h.size k.size, fun i hi hr => (k.block i (Nat.lt_of_lt_of_le hi h.size) (fun e => by
    rcases hn i e.symm with h' | h'
    · exact hr h'.symm
    · omega)).trans (h.block i hi hr)⟩

theorem news_of_fill {w w1 : World} {m : Nat} {f : Nat → Int} (h : Fill w w1 m m f) : ∀ j u, ((List.range m).map fun i => Value.int .u8 (f i))[j]? = some u → w1.cell? ((⟨w.heap.size, 0, none⟩ : Addr).add j) = some u := by
  intro j u hu
  have hj : j < m := by
    by_cases hj : j < m
    · exact hj
    · rw [List.getElem?_eq_none (by simp; omega)] at hu; cases hu
  have e : (⟨w.heap.size, 0, none⟩ : Addr).add j = ⟨w.heap.size, j, none⟩ := by unfold Addr.add; split <;> simp_all
  rw [e, h.2.2.2.2 j hj]
  simpa [hj] using hu

/-- A part of a list laid anew. -/
def over (L : List Int) (at_ : Nat) (M : List Int) : List Int := L.take at_ ++ (M ++ L.drop (at_ + M.length))
theorem over_len (L : List Int) (at_ : Nat) (M : List Int) (h : at_ + M.length ≤ L.length) : (over L at_ M).length = L.length := by simp [over]; omega

theorem take_over {α : Type} (M R N : List α) (at_ m l : Nat) (hM : M.length = l) (hN : N.length = m) (h : at_ + m ≤ l) :
    ((M ++ R).take at_ ++ N ++ (M ++ R).drop (at_ + m)).take l = M.take at_ ++ (N ++ M.drop (at_ + m)) := by
  have h1 : (M ++ R).take at_ = M.take at_ := List.take_append_of_le_length (by omega)
  have h2 : (M ++ R).drop (at_ + m) = M.drop (at_ + m) ++ R := List.drop_append_of_le_length (by omega)
  rw [h1, h2, ← List.append_assoc, List.take_append_of_le_length (by simp; omega), List.take_of_length_le (by simp; omega), List.append_assoc]

theorem OwnL.form {e : TypeId} {w : World} {B : Nat} {v : Value} {L : List Int} (h : OwnL e w B v L) (h0 : 0 < L.length) :
    ∃ g cap cur, v = .slice (some ⟨g, 0, none⟩) L.length cap ∧ B ≤ g ∧ w.heap[g]? = some (.cells cur e (0, 0)) ∧ L.length ≤ cap ∧ cap ≤ maxLen ∧ cur.size = cap ∧ cur.toList.take L.length = L.map (Value.int .u8) := by
  rcases h.2 with ⟨h1, h2⟩ | ⟨g, cap, cur, h1, h2, h3, h4, h5, h6, h7⟩
  · omega
  · exact ⟨g, cap, cur, h1, h2, h3, h4, h5, by simpa using h6, by simpa using h7⟩

end Go.Proofs.Ytfgghffgfefgpaa

namespace Go.Proofs.Ytfgghffgfefgpaa
open Go.RowKit Go.PlainAid
set_option linter.unusedVariables false
set_option maxRecDepth 20000

theorem isMac_b (s : ByteArray) (q : Bool) (hq : ((s.size : Int) == 6) = q) (w : World) : Calls Try.prog 46 #[.string s] w fun e w' => e = .returned (.bool q) ∧ w' = w := by
  go_enter Try.func46, Try.ntmps46
  go_wp2
  go_ret
  exact ⟨rfl, rfl⟩
theorem nums6 (s : ByteArray) (h : s.size = 6) : nums s = [bt s 0, bt s 1, bt s 2, bt s 3, bt s 4, bt s 5] := by
  have e := range_getD (nums s)
  rw [nums_len, h] at e
  rw [← e]
  simp only [nums_getD]
  rfl

end Go.Proofs.Ytfgghffgfefgpaa

namespace Go.Proofs.Ytfgghffgfefgpaa
open Go.RowKit Go.PlainAid Go.Proofs.Ytfgghffgfefgpaa.Bt Go.Sort
set_option linter.unusedVariables false
set_option maxRecDepth 20000

theorem toG {f : Nat} {args : Array Value} {w : World} {r : Ending} (h : Calls Try.prog f args w fun e w' => e = r ∧ w' = w) : Calls Try.prog f args w fun e w' => e = r ∧ Grw w w' :=
  h.mono fun e w' hh => ⟨hh.1, by rw [hh.2]; exact Grw.refl _⟩
def bitN (b : Bool) : Int := if b then 1 else 0
theorem bitN_bd (b : Bool) : 0 ≤ bitN b ∧ bitN b ≤ 1 := by unfold bitN; split <;> omega
/-- How many numbers were sent and not acknowledged. -/
def sentN (c : ConnV) : Int := (c.out.size : Int) + bitN c.fin + bitN (c.st == 1)
theorem sentN_bd (c : ConnV) : (c.out.size : Int) ≤ sentN c ∧ sentN c ≤ (c.out.size : Int) + 2 := by
  have := bitN_bd c.fin
  have := bitN_bd (c.st == 1)
  unfold sentN
  omega
def nuB (c : ConnV) : Bool := dec (0 ≤ c.ip ∧ c.ip ≤ 4294967295) && dec (0 ≤ c.po ∧ c.po ≤ 65535) && dec (0 ≤ c.di ∧ c.di ≤ 4294967295) && dec (1 ≤ c.st ∧ c.st ≤ 4) && dec (0 ≤ c.un ∧ c.un ≤ 4294967295) && dec (0 ≤ c.nx ∧ c.nx ≤ 4294967295) && dec (0 ≤ c.wa ∧ c.wa ≤ 4294967295)
def txB (c : ConnV) : Bool := ((c.mc.size : Int) == 6) && !decide ((300 : Int) < (c.inn.size : Int)) && !decide ((300 : Int) < (c.out.size : Int)) && !((c.st == 1) && !(c.inn.toList == [])) && (c.fin == (c.st == 3)) && (c.fin || (c.out.toList == []))
/-- Whether a connection is right. -/
def okB (c : ConnV) : Bool := nuB c && txB c && (sqN (c.nx - c.un) == sentN c)
/-- Whether a segment is right. -/
def sgB (g : SegV) : Bool := dec (0 ≤ g.sp ∧ g.sp ≤ 65535) && dec (0 ≤ g.dp ∧ g.dp ≤ 65535) && dec (0 ≤ g.sq ∧ g.sq ≤ 4294967295) && dec (0 ≤ g.ac ∧ g.ac ≤ 4294967295) && dec (0 ≤ g.fl ∧ g.fl ≤ 31) && dec (0 ≤ g.wi ∧ g.wi ≤ 65535) && decide ((g.da.size : Int) ≤ 360)
theorem l01Bit_any (b : Bool) (w : World) : Calls Try.prog 88 #[.bool b] w fun e w' => e = .returned (.int .i64 (bitN b)) ∧ w' = w := by
  cases b <;>
  · go_enter Try.func88, Try.ntmps88
    go_wp2
    go_ret
    exact ⟨rfl, rfl⟩
set_option maxHeartbeats 1000000 in
theorem l10Sent_any (mc : ByteArray) (ip po di st un nx wa : Int) (inn out : ByteArray) (fin : Bool) (w : World) (ho : out.size ≤ 1048576) :
    Calls Try.prog 75 #[.agg #[.string mc, .int .i64 ip, .int .i64 po, .int .i64 di, .int .i64 st, .int .i64 un, .int .i64 nx, .int .i64 wa, .string inn, .string out, .bool fin]] w fun e w' => e = .returned (.int .i64 (sentN ⟨mc, ip, po, di, st, un, nx, wa, inn, out, fin⟩)) ∧ Grw w w' := by
  have T1 : Hid (∀ w, Calls Try.prog 88 #[.bool fin] w fun e w' => e = .returned (.int .i64 (bitN fin)) ∧ Grw w w') := fun w => toG (l01Bit_any fin w)
  have T2 : Hid (∀ w, Calls Try.prog 88 #[.bool (st == 1)] w fun e w' => e = .returned (.int .i64 (bitN (st == 1))) ∧ Grw w w') := fun w => toG (l01Bit_any (st == 1) w)
  have E : Hid (sentN ⟨mc, ip, po, di, st, un, nx, wa, inn, out, fin⟩ = (out.size : Int) + bitN fin + bitN (st == 1)) := rfl
  rw [E.out]
  have hb1 := bitN_bd fin
  have hb2 := bitN_bd (st == 1)
  generalize bitN fin = x1 at T1 hb1 ⊢
  generalize bitN (st == 1) = x2 at T2 hb2 ⊢
  clear E
  have B0 : Hid (Grw w (w.alloc (.cells #[.string mc, .int .i64 ip, .int .i64 po, .int .i64 di, .int .i64 st, .int .i64 un, .int .i64 nx, .int .i64 wa, .string inn, .string out, .bool fin] 24))) := (Grw.refl _).alloc _
  have q4 : (w.alloc (.cells #[.string mc, .int .i64 ip, .int .i64 po, .int .i64 di, .int .i64 st, .int .i64 un, .int .i64 nx, .int .i64 wa, .string inn, .string out, .bool fin] 24)).cell? ⟨w.heap.size, 4, none⟩ = some (.int .i64 st) := by simp [go_sem]
  have q9 : (w.alloc (.cells #[.string mc, .int .i64 ip, .int .i64 po, .int .i64 di, .int .i64 st, .int .i64 un, .int .i64 nx, .int .i64 wa, .string inn, .string out, .bool fin] 24)).cell? ⟨w.heap.size, 9, none⟩ = some (.string out) := by simp [go_sem]
  have q10 : (w.alloc (.cells #[.string mc, .int .i64 ip, .int .i64 po, .int .i64 di, .int .i64 st, .int .i64 un, .int .i64 nx, .int .i64 wa, .string inn, .string out, .bool fin] 24)).cell? ⟨w.heap.size, 10, none⟩ = some (.bool fin) := by simp [go_sem]
  have hmix : Try.prog.follows .mixedOrders = true := by kernel_rfl
  have hw1 : IntKind.i64.wrap ((out.size : Int) + x1) = (out.size : Int) + x1 := by rw [IntKind.wrap_i64]; omega
  have hw2 : IntKind.i64.wrap ((out.size : Int) + x1 + x2) = (out.size : Int) + x1 + x2 := by rw [IntKind.wrap_i64]; omega
  go_enter Try.func75, Try.ntmps75
  go_wp2_with fail
  generalize w.alloc (.cells #[.string mc, .int .i64 ip, .int .i64 po, .int .i64 di, .int .i64 st, .int .i64 un, .int .i64 nx, .int .i64 wa, .string inn, .string out, .bool fin] 24) = W at *
  have y4 : ∀ n os, (grow (W.drewN n) os).cell? ⟨w.heap.size, 4, none⟩ = some (.int .i64 st) := fun n os => bkeep (Grw.below ⟨n, os, rfl⟩) q4
  have y9 : ∀ n os, (grow (W.drewN n) os).cell? ⟨w.heap.size, 9, none⟩ = some (.string out) := fun n os => bkeep (Grw.below ⟨n, os, rfl⟩) q9
  have y10 : ∀ n os, (grow (W.drewN n) os).cell? ⟨w.heap.size, 10, none⟩ = some (.bool fin) := fun n os => bkeep (Grw.below ⟨n, os, rfl⟩) q10
  refine wp_region_quiet_grown (by assumption) (by kernel_rfl) ?_
  repeat (go_big_quiet_step (first | fail | (go_at_call 88; first | (with_reducible exact Calls.grown_of (T1.out _)) | (with_reducible exact Calls.grown_of (T2.out _)))))
  refine wpQuiet_nil ?_
  intro _ hw'
  obtain ⟨⟨nq, osq⟩, hw''⟩ := hw'
  subst hw''
  have HG2 : Hid (Grw w (grow (W.drewN nq) osq)) := B0.out.trans ⟨nq, osq, rfl⟩
  clear y4 y9 y10 q4 q9 q10 B0
  generalize (grow (W.drewN nq) osq) = w5 at *
  go_wp2
  go_ret
  exact ⟨rfl, HG2.out⟩
set_option maxHeartbeats 1000000 in
theorem unack_any (mc : ByteArray) (ip po di st un nx wa : Int) (inn out : ByteArray) (fin : Bool) (w : World) (ho : out.size ≤ 1048576) :
    Calls Try.prog 41 #[.agg #[.string mc, .int .i64 ip, .int .i64 po, .int .i64 di, .int .i64 st, .int .i64 un, .int .i64 nx, .int .i64 wa, .string inn, .string out, .bool fin]] w fun e w' => e = .returned (.int .i64 (sentN ⟨mc, ip, po, di, st, un, nx, wa, inn, out, fin⟩)) ∧ Grw w w' := by
  have E : Hid (sentN ⟨mc, ip, po, di, st, un, nx, wa, inn, out, fin⟩ = (out.size : Int) + bitN fin + bitN (st == 1)) := rfl
  rw [E.out]
  clear E
  cases fin with
  | false =>
    generalize hb : (st == 1) = b
    cases b with
    | false =>
      go_enter Try.func41, Try.ntmps41
      go_wp2
      go_ret
      exact ⟨by simp [bitN], (Grw.refl _).alloc _⟩
    | true =>
      go_enter Try.func41, Try.ntmps41
      go_wp2
      go_ret
      exact ⟨by simp [bitN], (Grw.refl _).alloc _⟩
  | true =>
    generalize hb : (st == 1) = b
    cases b with
    | false =>
      go_enter Try.func41, Try.ntmps41
      go_wp2
      go_ret
      exact ⟨by simp [bitN], (Grw.refl _).alloc _⟩
    | true =>
      go_enter Try.func41, Try.ntmps41
      go_wp2
      go_ret
      exact ⟨by simp [bitN], (Grw.refl _).alloc _⟩
set_option maxHeartbeats 2000000 in
theorem conNums_any (mc : ByteArray) (ip po di st un nx wa : Int) (inn out : ByteArray) (fin : Bool) (w : World) (hp : po ≤ 9223372036854775807) :
    Calls Try.prog 38 #[.agg #[.string mc, .int .i64 ip, .int .i64 po, .int .i64 di, .int .i64 st, .int .i64 un, .int .i64 nx, .int .i64 wa, .string inn, .string out, .bool fin]] w fun e w' => e = .returned (.bool (nuB ⟨mc, ip, po, di, st, un, nx, wa, inn, out, fin⟩)) ∧ Grw w w' := by
  have T0 : Hid (∀ w, Calls Try.prog 47 #[.int .i64 ip] w fun e w' => e = .returned (.bool (dec (0 ≤ ip ∧ ip ≤ 4294967295))) ∧ w' = w) := fun w => addressOK_any ip w
  have T1 : Hid (∀ w, Calls Try.prog 62 #[.int .i64 po] w fun e w' => e = .returned (.bool (dec (0 ≤ po ∧ po ≤ 65535))) ∧ w' = w) := fun w => portOK_any po w hp
  have T2 : Hid (∀ w, Calls Try.prog 47 #[.int .i64 di] w fun e w' => e = .returned (.bool (dec (0 ≤ di ∧ di ≤ 4294967295))) ∧ w' = w) := fun w => addressOK_any di w
  have T3 : Hid (∀ w, Calls Try.prog 52 #[.int .i64 st, .int .i64 1, .int .i64 4] w fun e w' => e = .returned (.bool (dec (1 ≤ st ∧ st ≤ 4))) ∧ w' = w) := fun w => between_any st 1 4 w
  have T4 : Hid (∀ w, Calls Try.prog 48 #[.int .i64 un] w fun e w' => e = .returned (.bool (dec (0 ≤ un ∧ un ≤ 4294967295))) ∧ w' = w) := fun w => seqOK_any un w
  have T5 : Hid (∀ w, Calls Try.prog 48 #[.int .i64 nx] w fun e w' => e = .returned (.bool (dec (0 ≤ nx ∧ nx ≤ 4294967295))) ∧ w' = w) := fun w => seqOK_any nx w
  have T6 : Hid (∀ w, Calls Try.prog 48 #[.int .i64 wa] w fun e w' => e = .returned (.bool (dec (0 ≤ wa ∧ wa ≤ 4294967295))) ∧ w' = w) := fun w => seqOK_any wa w
  have E : Hid (nuB ⟨mc, ip, po, di, st, un, nx, wa, inn, out, fin⟩ = ((dec (0 ≤ ip ∧ ip ≤ 4294967295)) && (dec (0 ≤ po ∧ po ≤ 65535)) && (dec (0 ≤ di ∧ di ≤ 4294967295)) && (dec (1 ≤ st ∧ st ≤ 4)) && (dec (0 ≤ un ∧ un ≤ 4294967295)) && (dec (0 ≤ nx ∧ nx ≤ 4294967295)) && (dec (0 ≤ wa ∧ wa ≤ 4294967295)))) := rfl
  generalize dec (0 ≤ ip ∧ ip ≤ 4294967295) = t0 at T0 E
  generalize dec (0 ≤ po ∧ po ≤ 65535) = t1 at T1 E
  generalize dec (0 ≤ di ∧ di ≤ 4294967295) = t2 at T2 E
  generalize dec (1 ≤ st ∧ st ≤ 4) = t3 at T3 E
  generalize dec (0 ≤ un ∧ un ≤ 4294967295) = t4 at T4 E
  generalize dec (0 ≤ nx ∧ nx ≤ 4294967295) = t5 at T5 E
  generalize dec (0 ≤ wa ∧ wa ≤ 4294967295) = t6 at T6 E
  go_enter Try.func38, Try.ntmps38
  go_wp2_with fail
  refine (T0.out _).mono ?_
  rintro e wx1 ⟨rfl, rfl⟩
  cases t0 with
  | false =>
    go_wp2
    go_ret
    exact ⟨by rw [E.out]; rfl, ((Grw.refl _).alloc _)⟩
  | true =>
    go_wp2_with fail
    refine (T1.out _).mono ?_
    rintro e wx2 ⟨rfl, rfl⟩
    cases t1 with
    | false =>
      go_wp2
      go_ret
      exact ⟨by rw [E.out]; rfl, ((Grw.refl _).alloc _)⟩
    | true =>
      go_wp2_with fail
      refine (T2.out _).mono ?_
      rintro e wx3 ⟨rfl, rfl⟩
      cases t2 with
      | false =>
        go_wp2
        go_ret
        exact ⟨by rw [E.out]; rfl, ((Grw.refl _).alloc _)⟩
      | true =>
        go_wp2_with fail
        refine (T3.out _).mono ?_
        rintro e wx4 ⟨rfl, rfl⟩
        cases t3 with
        | false =>
          go_wp2
          go_ret
          exact ⟨by rw [E.out]; rfl, ((Grw.refl _).alloc _)⟩
        | true =>
          go_wp2_with fail
          refine (T4.out _).mono ?_
          rintro e wx5 ⟨rfl, rfl⟩
          cases t4 with
          | false =>
            go_wp2
            go_ret
            exact ⟨by rw [E.out]; rfl, ((Grw.refl _).alloc _)⟩
          | true =>
            go_wp2_with fail
            refine (T5.out _).mono ?_
            rintro e wx6 ⟨rfl, rfl⟩
            cases t5 with
            | false =>
              go_wp2
              go_ret
              exact ⟨by rw [E.out]; rfl, ((Grw.refl _).alloc _)⟩
            | true =>
              go_wp2_with fail
              refine (T6.out _).mono ?_
              rintro e wx7 ⟨rfl, rfl⟩
              cases t6 with
              | false =>
                go_wp2
                go_ret
                exact ⟨by rw [E.out]; rfl, ((Grw.refl _).alloc _)⟩
              | true =>
                go_wp2
                go_ret
                exact ⟨by rw [E.out]; rfl, ((Grw.refl _).alloc _)⟩
set_option maxHeartbeats 1000000 in
theorem conTexts_any (mc : ByteArray) (ip po di st un nx wa : Int) (inn out : ByteArray) (fin : Bool) (w : World) (hmc : mc.size ≤ 9223372036854775807) (hi : inn.size ≤ 9223372036854775807) (ho : out.size ≤ 9223372036854775807) :
    Calls Try.prog 39 #[.agg #[.string mc, .int .i64 ip, .int .i64 po, .int .i64 di, .int .i64 st, .int .i64 un, .int .i64 nx, .int .i64 wa, .string inn, .string out, .bool fin]] w fun e w' => e = .returned (.bool (txB ⟨mc, ip, po, di, st, un, nx, wa, inn, out, fin⟩)) ∧ Grw w w' := by
  have E : Hid (txB ⟨mc, ip, po, di, st, un, nx, wa, inn, out, fin⟩ = (((mc.size : Int) == 6) && !decide ((300 : Int) < (inn.size : Int)) && !decide ((300 : Int) < (out.size : Int)) && !((st == 1) && !(inn.toList == [])) && (fin == (st == 3)) && (fin || (out.toList == [])))) := rfl
  have T0 : Hid (∀ w, Calls Try.prog 46 #[.string mc] w fun e w' => e = .returned (.bool ((mc.size : Int) == 6)) ∧ w' = w) := fun w => isMac_b mc _ rfl w
  generalize ((mc.size : Int) == 6) = t0 at T0 E
  generalize h1 : decide ((300 : Int) < (inn.size : Int)) = t1 at E
  generalize h2 : decide ((300 : Int) < (out.size : Int)) = t2 at E
  generalize h3 : (st == 1) = t3 at E
  generalize h4 : (inn.toList == []) = t4 at E
  generalize h5 : (st == 3) = t5 at E
  generalize h6 : (out.toList == []) = t6 at E
  go_enter Try.func39, Try.ntmps39
  go_wp2_with fail
  refine (T0.out _).mono ?_
  rintro e w1 ⟨rfl, rfl⟩
  cases t0 with
  | false =>
    go_wp2
    go_ret
    exact ⟨by rw [E.out]; rfl, (Grw.refl _).alloc _⟩
  | true =>
    cases t1 with
    | false =>
      cases t2 with
      | false =>
        cases t3 with
        | false =>
          cases fin with
          | false =>
            cases t5 with
            | false =>
              cases t6 with
              | false =>
                go_wp2
                go_ret
                exact ⟨by rw [E.out]; rfl, (Grw.refl _).alloc _⟩
              | true =>
                go_wp2
                go_ret
                exact ⟨by rw [E.out]; rfl, (Grw.refl _).alloc _⟩
            | true =>
              go_wp2
              go_ret
              exact ⟨by rw [E.out]; rfl, (Grw.refl _).alloc _⟩
          | true =>
            cases t5 with
            | false =>
              go_wp2
              go_ret
              exact ⟨by rw [E.out]; rfl, (Grw.refl _).alloc _⟩
            | true =>
              go_wp2
              go_ret
              exact ⟨by rw [E.out]; rfl, (Grw.refl _).alloc _⟩
        | true =>
          cases t4 with
          | false =>
            go_wp2
            go_ret
            exact ⟨by rw [E.out]; rfl, (Grw.refl _).alloc _⟩
          | true =>
            cases fin with
            | false =>
              cases t5 with
              | false =>
                cases t6 with
                | false =>
                  go_wp2
                  go_ret
                  exact ⟨by rw [E.out]; rfl, (Grw.refl _).alloc _⟩
                | true =>
                  go_wp2
                  go_ret
                  exact ⟨by rw [E.out]; rfl, (Grw.refl _).alloc _⟩
              | true =>
                go_wp2
                go_ret
                exact ⟨by rw [E.out]; rfl, (Grw.refl _).alloc _⟩
            | true =>
              cases t5 with
              | false =>
                go_wp2
                go_ret
                exact ⟨by rw [E.out]; rfl, (Grw.refl _).alloc _⟩
              | true =>
                go_wp2
                go_ret
                exact ⟨by rw [E.out]; rfl, (Grw.refl _).alloc _⟩
      | true =>
        go_wp2
        go_ret
        exact ⟨by rw [E.out]; rfl, (Grw.refl _).alloc _⟩
    | true =>
      go_wp2
      go_ret
      exact ⟨by rw [E.out]; rfl, (Grw.refl _).alloc _⟩
end Go.Proofs.Ytfgghffgfefgpaa

namespace Go.Proofs.Ytfgghffgfefgpaa
open Go.RowKit Go.PlainAid Go.Proofs.Ytfgghffgfefgpaa.Bt Go.Sort
set_option linter.unusedVariables false
set_option maxRecDepth 20000

theorem int_ub {n : Int} (h : (Lit.int .i64 n).wf = true) : n ≤ 9223372036854775807 := by
  have : IntKind.i64.min = -9223372036854775808 := by decide
  have : IntKind.i64.max = 9223372036854775807 := by decide
  simp [Lit.wf] at h
  omega
theorem and3 {a b c : Bool} : (a && b && c) = true → a = true ∧ b = true ∧ c = true := by cases a <;> cases b <;> cases c <;> simp
theorem nuB_bd {c : ConnV} (h : nuB c = true) : (0 ≤ c.ip ∧ c.ip ≤ 4294967295) ∧ (0 ≤ c.po ∧ c.po ≤ 65535) ∧ (0 ≤ c.di ∧ c.di ≤ 4294967295) ∧ (1 ≤ c.st ∧ c.st ≤ 4) ∧ (0 ≤ c.un ∧ c.un ≤ 4294967295) ∧ (0 ≤ c.nx ∧ c.nx ≤ 4294967295) ∧ (0 ≤ c.wa ∧ c.wa ≤ 4294967295) := by
  unfold nuB dec at h
  simp only [Bool.and_eq_true, decide_eq_true_eq] at h
  obtain ⟨⟨⟨⟨⟨⟨a, b⟩, c⟩, d⟩, e⟩, f⟩, g⟩ := h
  exact ⟨a, b, c, d, e, f, g⟩
theorem txB_bd {c : ConnV} (h : txB c = true) : c.mc.size = 6 ∧ c.inn.size ≤ 300 ∧ c.out.size ≤ 300 ∧ (c.st = 1 → c.inn.size = 0) ∧ (c.fin = true ↔ c.st = 3) ∧ (c.fin = false → c.out.size = 0) := by
  unfold txB at h
  simp only [Bool.and_eq_true, Bool.not_eq_true', decide_eq_false_iff_not, beq_iff_eq] at h
  obtain ⟨⟨⟨⟨⟨a, b⟩, d⟩, e⟩, f⟩, g⟩ := h
  have z : ∀ x : ByteArray, (x.toList == []) = true → x.size = 0 := by
    intro x hx
    have h := congrArg List.length (beq_iff_eq.1 hx)
    rw [List.length_nil] at h
    rw [← h]
    simp [ByteArray.toList_eq]
  refine ⟨by omega, by omega, by omega, fun h1 => ?_, ?_, fun h1 => ?_⟩
  · rw [h1] at e
    simp at e
    exact z _ (by rw [e]; rfl)
  · rw [f]
    simp
  · rw [h1] at g
    simp at g
    exact z _ (by rw [g]; rfl)
set_option maxHeartbeats 2000000 in
theorem implConOK_any (mc : ByteArray) (ip po di st un nx wa : Int) (inn out : ByteArray) (fin : Bool) (w : World) (hp : po ≤ 9223372036854775807) (hmc : mc.size ≤ 1048576) (hi : inn.size ≤ 1048576) (ho : out.size ≤ 1048576) :
    Calls Try.prog 11 #[.agg #[.string mc, .int .i64 ip, .int .i64 po, .int .i64 di, .int .i64 st, .int .i64 un, .int .i64 nx, .int .i64 wa, .string inn, .string out, .bool fin]] w fun e w' => e = .returned (.bool (okB ⟨mc, ip, po, di, st, un, nx, wa, inn, out, fin⟩)) ∧ Grw w w' := by
  have T0 : Hid (∀ w, Calls Try.prog 38 #[.agg #[.string mc, .int .i64 ip, .int .i64 po, .int .i64 di, .int .i64 st, .int .i64 un, .int .i64 nx, .int .i64 wa, .string inn, .string out, .bool fin]] w fun e w' => e = .returned (.bool (nuB ⟨mc, ip, po, di, st, un, nx, wa, inn, out, fin⟩)) ∧ Grw w w') := fun w => conNums_any mc ip po di st un nx wa inn out fin w hp
  have T1 : Hid (∀ w, Calls Try.prog 39 #[.agg #[.string mc, .int .i64 ip, .int .i64 po, .int .i64 di, .int .i64 st, .int .i64 un, .int .i64 nx, .int .i64 wa, .string inn, .string out, .bool fin]] w fun e w' => e = .returned (.bool (txB ⟨mc, ip, po, di, st, un, nx, wa, inn, out, fin⟩)) ∧ Grw w w') := fun w => conTexts_any mc ip po di st un nx wa inn out fin w (by omega) (by omega) (by omega)
  have T2 : Hid (∀ w, Calls Try.prog 41 #[.agg #[.string mc, .int .i64 ip, .int .i64 po, .int .i64 di, .int .i64 st, .int .i64 un, .int .i64 nx, .int .i64 wa, .string inn, .string out, .bool fin]] w fun e w' => e = .returned (.int .i64 (sentN ⟨mc, ip, po, di, st, un, nx, wa, inn, out, fin⟩)) ∧ Grw w w') := fun w => unack_any mc ip po di st un nx wa inn out fin w ho
  have E : Hid (okB ⟨mc, ip, po, di, st, un, nx, wa, inn, out, fin⟩ = (nuB ⟨mc, ip, po, di, st, un, nx, wa, inn, out, fin⟩ && txB ⟨mc, ip, po, di, st, un, nx, wa, inn, out, fin⟩ && (sqN (nx - un) == sentN ⟨mc, ip, po, di, st, un, nx, wa, inn, out, fin⟩))) := rfl
  have T3 : Hid (nuB ⟨mc, ip, po, di, st, un, nx, wa, inn, out, fin⟩ = true → ∀ w, Calls Try.prog 40 #[.int .i64 un, .int .i64 (sentN ⟨mc, ip, po, di, st, un, nx, wa, inn, out, fin⟩)] w fun e w' => e = .returned (.int .i64 (sqN (un + sentN ⟨mc, ip, po, di, st, un, nx, wa, inn, out, fin⟩))) ∧ Grw w w') := fun h w => by
    have h1 := nuB_bd h
    have h2 := sentN_bd ⟨mc, ip, po, di, st, un, nx, wa, inn, out, fin⟩
    dsimp only at h1 h2
    exact toG (seqAfter_any un _ w (by omega) (by omega) (by omega) (by omega))
  have F : Hid (nuB ⟨mc, ip, po, di, st, un, nx, wa, inn, out, fin⟩ = true → txB ⟨mc, ip, po, di, st, un, nx, wa, inn, out, fin⟩ = true → (sqN (nx - un) == sentN ⟨mc, ip, po, di, st, un, nx, wa, inn, out, fin⟩) = (nx == sqN (un + sentN ⟨mc, ip, po, di, st, un, nx, wa, inn, out, fin⟩))) := fun h h' => by
    have h1 := nuB_bd h
    have h3 := txB_bd h'
    have h2 := sentN_bd ⟨mc, ip, po, di, st, un, nx, wa, inn, out, fin⟩
    dsimp only at h1 h2 h3
    generalize sentN ⟨mc, ip, po, di, st, un, nx, wa, inn, out, fin⟩ = z at h2
    rw [Bool.eq_iff_iff, beq_iff_eq, beq_iff_eq]
    unfold sqN
    omega
  generalize nuB ⟨mc, ip, po, di, st, un, nx, wa, inn, out, fin⟩ = t0 at T0 T3 E F
  generalize txB ⟨mc, ip, po, di, st, un, nx, wa, inn, out, fin⟩ = t1 at T1 E F
  generalize sentN ⟨mc, ip, po, di, st, un, nx, wa, inn, out, fin⟩ = z at T2 T3 E F
  generalize sqN (un + z) = z2 at T3 F
  generalize (sqN (nx - un) == z) = t3 at E F
  have B0 : Hid (Grw w (w.alloc (.cells #[.string mc, .int .i64 ip, .int .i64 po, .int .i64 di, .int .i64 st, .int .i64 un, .int .i64 nx, .int .i64 wa, .string inn, .string out, .bool fin] 24))) := (Grw.refl _).alloc _
  have q0 : (w.alloc (.cells #[.string mc, .int .i64 ip, .int .i64 po, .int .i64 di, .int .i64 st, .int .i64 un, .int .i64 nx, .int .i64 wa, .string inn, .string out, .bool fin] 24)).cell? ⟨w.heap.size, 0, none⟩ = some (.string mc) := by simp [go_sem]
  have q1 : (w.alloc (.cells #[.string mc, .int .i64 ip, .int .i64 po, .int .i64 di, .int .i64 st, .int .i64 un, .int .i64 nx, .int .i64 wa, .string inn, .string out, .bool fin] 24)).cell? ⟨w.heap.size, 1, none⟩ = some (.int .i64 ip) := by simp [go_sem]
  have q2 : (w.alloc (.cells #[.string mc, .int .i64 ip, .int .i64 po, .int .i64 di, .int .i64 st, .int .i64 un, .int .i64 nx, .int .i64 wa, .string inn, .string out, .bool fin] 24)).cell? ⟨w.heap.size, 2, none⟩ = some (.int .i64 po) := by simp [go_sem]
  have q3 : (w.alloc (.cells #[.string mc, .int .i64 ip, .int .i64 po, .int .i64 di, .int .i64 st, .int .i64 un, .int .i64 nx, .int .i64 wa, .string inn, .string out, .bool fin] 24)).cell? ⟨w.heap.size, 3, none⟩ = some (.int .i64 di) := by simp [go_sem]
  have q4 : (w.alloc (.cells #[.string mc, .int .i64 ip, .int .i64 po, .int .i64 di, .int .i64 st, .int .i64 un, .int .i64 nx, .int .i64 wa, .string inn, .string out, .bool fin] 24)).cell? ⟨w.heap.size, 4, none⟩ = some (.int .i64 st) := by simp [go_sem]
  have q5 : (w.alloc (.cells #[.string mc, .int .i64 ip, .int .i64 po, .int .i64 di, .int .i64 st, .int .i64 un, .int .i64 nx, .int .i64 wa, .string inn, .string out, .bool fin] 24)).cell? ⟨w.heap.size, 5, none⟩ = some (.int .i64 un) := by simp [go_sem]
  have q6 : (w.alloc (.cells #[.string mc, .int .i64 ip, .int .i64 po, .int .i64 di, .int .i64 st, .int .i64 un, .int .i64 nx, .int .i64 wa, .string inn, .string out, .bool fin] 24)).cell? ⟨w.heap.size, 6, none⟩ = some (.int .i64 nx) := by simp [go_sem]
  have q7 : (w.alloc (.cells #[.string mc, .int .i64 ip, .int .i64 po, .int .i64 di, .int .i64 st, .int .i64 un, .int .i64 nx, .int .i64 wa, .string inn, .string out, .bool fin] 24)).cell? ⟨w.heap.size, 7, none⟩ = some (.int .i64 wa) := by simp [go_sem]
  have q8 : (w.alloc (.cells #[.string mc, .int .i64 ip, .int .i64 po, .int .i64 di, .int .i64 st, .int .i64 un, .int .i64 nx, .int .i64 wa, .string inn, .string out, .bool fin] 24)).cell? ⟨w.heap.size, 8, none⟩ = some (.string inn) := by simp [go_sem]
  have q9 : (w.alloc (.cells #[.string mc, .int .i64 ip, .int .i64 po, .int .i64 di, .int .i64 st, .int .i64 un, .int .i64 nx, .int .i64 wa, .string inn, .string out, .bool fin] 24)).cell? ⟨w.heap.size, 9, none⟩ = some (.string out) := by simp [go_sem]
  have q10 : (w.alloc (.cells #[.string mc, .int .i64 ip, .int .i64 po, .int .i64 di, .int .i64 st, .int .i64 un, .int .i64 nx, .int .i64 wa, .string inn, .string out, .bool fin] 24)).cell? ⟨w.heap.size, 10, none⟩ = some (.bool fin) := by simp [go_sem]
  have hmix : Try.prog.follows .mixedOrders = true := by kernel_rfl
  cases t0 with
  | false =>
    clear T3 F
    go_enter Try.func11, Try.ntmps11
    go_wp2_with fail
    generalize w.alloc (.cells #[.string mc, .int .i64 ip, .int .i64 po, .int .i64 di, .int .i64 st, .int .i64 un, .int .i64 nx, .int .i64 wa, .string inn, .string out, .bool fin] 24) = W at *
    have y0 : ∀ n os, (grow (W.drewN n) os).cell? ⟨w.heap.size, 0, none⟩ = some (.string mc) := fun n os => bkeep (Grw.below ⟨n, os, rfl⟩) q0
    have y1 : ∀ n os, (grow (W.drewN n) os).cell? ⟨w.heap.size, 1, none⟩ = some (.int .i64 ip) := fun n os => bkeep (Grw.below ⟨n, os, rfl⟩) q1
    have y2 : ∀ n os, (grow (W.drewN n) os).cell? ⟨w.heap.size, 2, none⟩ = some (.int .i64 po) := fun n os => bkeep (Grw.below ⟨n, os, rfl⟩) q2
    have y3 : ∀ n os, (grow (W.drewN n) os).cell? ⟨w.heap.size, 3, none⟩ = some (.int .i64 di) := fun n os => bkeep (Grw.below ⟨n, os, rfl⟩) q3
    have y4 : ∀ n os, (grow (W.drewN n) os).cell? ⟨w.heap.size, 4, none⟩ = some (.int .i64 st) := fun n os => bkeep (Grw.below ⟨n, os, rfl⟩) q4
    have y5 : ∀ n os, (grow (W.drewN n) os).cell? ⟨w.heap.size, 5, none⟩ = some (.int .i64 un) := fun n os => bkeep (Grw.below ⟨n, os, rfl⟩) q5
    have y6 : ∀ n os, (grow (W.drewN n) os).cell? ⟨w.heap.size, 6, none⟩ = some (.int .i64 nx) := fun n os => bkeep (Grw.below ⟨n, os, rfl⟩) q6
    have y7 : ∀ n os, (grow (W.drewN n) os).cell? ⟨w.heap.size, 7, none⟩ = some (.int .i64 wa) := fun n os => bkeep (Grw.below ⟨n, os, rfl⟩) q7
    have y8 : ∀ n os, (grow (W.drewN n) os).cell? ⟨w.heap.size, 8, none⟩ = some (.string inn) := fun n os => bkeep (Grw.below ⟨n, os, rfl⟩) q8
    have y9 : ∀ n os, (grow (W.drewN n) os).cell? ⟨w.heap.size, 9, none⟩ = some (.string out) := fun n os => bkeep (Grw.below ⟨n, os, rfl⟩) q9
    have y10 : ∀ n os, (grow (W.drewN n) os).cell? ⟨w.heap.size, 10, none⟩ = some (.bool fin) := fun n os => bkeep (Grw.below ⟨n, os, rfl⟩) q10
    refine wp_region_quiet_grown (by assumption) (by kernel_rfl) ?_
    repeat (go_big_quiet_step (first | fail | (first | (go_at_call 38; exact Calls.grown_of (T0.out _)))))
    refine wpQuiet_nil ?_
    intro _ hw'
    obtain ⟨⟨nq, osq⟩, hw''⟩ := hw'
    subst hw''
    have HG2 : Hid (Grw w (grow (W.drewN nq) osq)) := B0.out.trans ⟨nq, osq, rfl⟩
    clear y0 y1 y2 y3 y4 y5 y6 y7 y8 y9 y10 q0 q1 q2 q3 q4 q5 q6 q7 q8 q9 q10 B0
    generalize (grow (W.drewN nq) osq) = w5 at *
    go_wp2
    go_ret
    exact ⟨by rw [E.out]; rfl, HG2.out⟩
  | true =>
    have T4 : Hid (∀ w, Calls Try.prog 40 #[.int .i64 un, .int .i64 z] w fun e w' => e = .returned (.int .i64 z2) ∧ Grw w w') := T3.out rfl
    have F2 : Hid (t1 = true → t3 = (nx == z2)) := F.out rfl
    clear T3 F
    cases t1 with
    | false =>
      clear F2 T4
      go_enter Try.func11, Try.ntmps11
      go_wp2_with fail
      generalize w.alloc (.cells #[.string mc, .int .i64 ip, .int .i64 po, .int .i64 di, .int .i64 st, .int .i64 un, .int .i64 nx, .int .i64 wa, .string inn, .string out, .bool fin] 24) = W at *
      have y0 : ∀ n os, (grow (W.drewN n) os).cell? ⟨w.heap.size, 0, none⟩ = some (.string mc) := fun n os => bkeep (Grw.below ⟨n, os, rfl⟩) q0
      have y1 : ∀ n os, (grow (W.drewN n) os).cell? ⟨w.heap.size, 1, none⟩ = some (.int .i64 ip) := fun n os => bkeep (Grw.below ⟨n, os, rfl⟩) q1
      have y2 : ∀ n os, (grow (W.drewN n) os).cell? ⟨w.heap.size, 2, none⟩ = some (.int .i64 po) := fun n os => bkeep (Grw.below ⟨n, os, rfl⟩) q2
      have y3 : ∀ n os, (grow (W.drewN n) os).cell? ⟨w.heap.size, 3, none⟩ = some (.int .i64 di) := fun n os => bkeep (Grw.below ⟨n, os, rfl⟩) q3
      have y4 : ∀ n os, (grow (W.drewN n) os).cell? ⟨w.heap.size, 4, none⟩ = some (.int .i64 st) := fun n os => bkeep (Grw.below ⟨n, os, rfl⟩) q4
      have y5 : ∀ n os, (grow (W.drewN n) os).cell? ⟨w.heap.size, 5, none⟩ = some (.int .i64 un) := fun n os => bkeep (Grw.below ⟨n, os, rfl⟩) q5
      have y6 : ∀ n os, (grow (W.drewN n) os).cell? ⟨w.heap.size, 6, none⟩ = some (.int .i64 nx) := fun n os => bkeep (Grw.below ⟨n, os, rfl⟩) q6
      have y7 : ∀ n os, (grow (W.drewN n) os).cell? ⟨w.heap.size, 7, none⟩ = some (.int .i64 wa) := fun n os => bkeep (Grw.below ⟨n, os, rfl⟩) q7
      have y8 : ∀ n os, (grow (W.drewN n) os).cell? ⟨w.heap.size, 8, none⟩ = some (.string inn) := fun n os => bkeep (Grw.below ⟨n, os, rfl⟩) q8
      have y9 : ∀ n os, (grow (W.drewN n) os).cell? ⟨w.heap.size, 9, none⟩ = some (.string out) := fun n os => bkeep (Grw.below ⟨n, os, rfl⟩) q9
      have y10 : ∀ n os, (grow (W.drewN n) os).cell? ⟨w.heap.size, 10, none⟩ = some (.bool fin) := fun n os => bkeep (Grw.below ⟨n, os, rfl⟩) q10
      refine wp_region_quiet_grown (by assumption) (by kernel_rfl) ?_
      repeat (go_big_quiet_step (first | fail | (first | (go_at_call 38; exact Calls.grown_of (T0.out _)) | (go_at_call 39; exact Calls.grown_of (T1.out _)))))
      refine wpQuiet_nil ?_
      intro _ hw'
      obtain ⟨⟨nq, osq⟩, hw''⟩ := hw'
      subst hw''
      have HG2 : Hid (Grw w (grow (W.drewN nq) osq)) := B0.out.trans ⟨nq, osq, rfl⟩
      clear y0 y1 y2 y3 y4 y5 y6 y7 y8 y9 y10 q0 q1 q2 q3 q4 q5 q6 q7 q8 q9 q10 B0
      generalize (grow (W.drewN nq) osq) = w5 at *
      go_wp2
      go_ret
      exact ⟨by rw [E.out]; rfl, HG2.out⟩
    | true =>
      have F3 : Hid (t3 = (nx == z2)) := F2.out rfl
      rw [F3.out] at E
      clear F2 F3
      go_enter Try.func11, Try.ntmps11
      go_wp2_with fail
      generalize w.alloc (.cells #[.string mc, .int .i64 ip, .int .i64 po, .int .i64 di, .int .i64 st, .int .i64 un, .int .i64 nx, .int .i64 wa, .string inn, .string out, .bool fin] 24) = W at *
      have y0 : ∀ n os, (grow (W.drewN n) os).cell? ⟨w.heap.size, 0, none⟩ = some (.string mc) := fun n os => bkeep (Grw.below ⟨n, os, rfl⟩) q0
      have y1 : ∀ n os, (grow (W.drewN n) os).cell? ⟨w.heap.size, 1, none⟩ = some (.int .i64 ip) := fun n os => bkeep (Grw.below ⟨n, os, rfl⟩) q1
      have y2 : ∀ n os, (grow (W.drewN n) os).cell? ⟨w.heap.size, 2, none⟩ = some (.int .i64 po) := fun n os => bkeep (Grw.below ⟨n, os, rfl⟩) q2
      have y3 : ∀ n os, (grow (W.drewN n) os).cell? ⟨w.heap.size, 3, none⟩ = some (.int .i64 di) := fun n os => bkeep (Grw.below ⟨n, os, rfl⟩) q3
      have y4 : ∀ n os, (grow (W.drewN n) os).cell? ⟨w.heap.size, 4, none⟩ = some (.int .i64 st) := fun n os => bkeep (Grw.below ⟨n, os, rfl⟩) q4
      have y5 : ∀ n os, (grow (W.drewN n) os).cell? ⟨w.heap.size, 5, none⟩ = some (.int .i64 un) := fun n os => bkeep (Grw.below ⟨n, os, rfl⟩) q5
      have y6 : ∀ n os, (grow (W.drewN n) os).cell? ⟨w.heap.size, 6, none⟩ = some (.int .i64 nx) := fun n os => bkeep (Grw.below ⟨n, os, rfl⟩) q6
      have y7 : ∀ n os, (grow (W.drewN n) os).cell? ⟨w.heap.size, 7, none⟩ = some (.int .i64 wa) := fun n os => bkeep (Grw.below ⟨n, os, rfl⟩) q7
      have y8 : ∀ n os, (grow (W.drewN n) os).cell? ⟨w.heap.size, 8, none⟩ = some (.string inn) := fun n os => bkeep (Grw.below ⟨n, os, rfl⟩) q8
      have y9 : ∀ n os, (grow (W.drewN n) os).cell? ⟨w.heap.size, 9, none⟩ = some (.string out) := fun n os => bkeep (Grw.below ⟨n, os, rfl⟩) q9
      have y10 : ∀ n os, (grow (W.drewN n) os).cell? ⟨w.heap.size, 10, none⟩ = some (.bool fin) := fun n os => bkeep (Grw.below ⟨n, os, rfl⟩) q10
      refine wp_region_quiet_grown (by assumption) (by kernel_rfl) ?_
      repeat (go_big_quiet_step (first | fail | (first | (go_at_call 38; exact Calls.grown_of (T0.out _)) | (go_at_call 39; exact Calls.grown_of (T1.out _)) | (go_at_call 41; exact Calls.grown_of (T2.out _)) | (go_at_call 40; exact Calls.grown_of (T4.out _)))))
      refine wpQuiet_nil ?_
      intro _ hw'
      obtain ⟨⟨nq, osq⟩, hw''⟩ := hw'
      subst hw''
      have HG2 : Hid (Grw w (grow (W.drewN nq) osq)) := B0.out.trans ⟨nq, osq, rfl⟩
      clear y0 y1 y2 y3 y4 y5 y6 y7 y8 y9 y10 q0 q1 q2 q3 q4 q5 q6 q7 q8 q9 q10 B0
      generalize (grow (W.drewN nq) osq) = w5 at *
      go_wp2
      go_ret
      exact ⟨by rw [E.out]; rfl, HG2.out⟩
end Go.Proofs.Ytfgghffgfefgpaa

namespace Go.Proofs.Ytfgghffgfefgpaa
open Go.RowKit Go.PlainAid Go.Proofs.Ytfgghffgfefgpaa.Bt Go.Sort
set_option linter.unusedVariables false
set_option maxRecDepth 20000

theorem l07Ask9_any (ip po : Int) (w : World) : Calls Try.prog 72 #[.int .i64 ip, .int .i64 po] w fun e w' => e = .returned (.bool (dec (0 ≤ ip ∧ ip ≤ 4294967295) && dec (0 ≤ po ∧ po ≤ 65535))) ∧ w' = w := by
  have T0 : Hid (∀ w, Calls Try.prog 73 #[.int .i64 ip] w fun e w' => e = .returned (.bool (dec (0 ≤ ip ∧ ip ≤ 4294967295))) ∧ w' = w) := fun w => specIp_any ip w
  have T1 : Hid (∀ w, Calls Try.prog 76 #[.int .i64 po] w fun e w' => e = .returned (.bool (dec (0 ≤ po ∧ po ≤ 65535))) ∧ w' = w) := fun w => specPort_any po w
  generalize dec (0 ≤ ip ∧ ip ≤ 4294967295) = t0 at T0 ⊢
  generalize dec (0 ≤ po ∧ po ≤ 65535) = t1 at T1 ⊢
  cases t0 with
  | false =>
    go_enter Try.func72, Try.ntmps72
    go_wp2_with fail
    refine (T0.out _).mono ?_
    rintro e w1 ⟨rfl, hw⟩
    subst hw
    go_wp2
    go_ret
    exact ⟨rfl, rfl⟩
  | true =>
    go_enter Try.func72, Try.ntmps72
    go_wp2_with fail
    refine (T0.out _).mono ?_
    rintro e w1 ⟨rfl, hw⟩
    subst hw
    go_wp2_with fail
    refine (T1.out _).mono ?_
    rintro e w1 ⟨rfl, hw⟩
    subst hw
    go_wp2
    go_ret
    exact ⟨by simp, rfl⟩
set_option maxHeartbeats 4000000 in
theorem specConOK_any (mc : ByteArray) (ip po di st un nx wa : Int) (inn out : ByteArray) (fin : Bool) (w : World) (hmc : mc.size ≤ 1048576) (hi : inn.size ≤ 1048576) (ho : out.size ≤ 1048576) :
    Calls Try.prog 35 #[.agg #[.string mc, .int .i64 ip, .int .i64 po, .int .i64 di, .int .i64 st, .int .i64 un, .int .i64 nx, .int .i64 wa, .string inn, .string out, .bool fin]] w fun e w' => e = .returned (.bool (okB ⟨mc, ip, po, di, st, un, nx, wa, inn, out, fin⟩)) ∧ Grw w w' := by
  have T0 : Hid (∀ w, Calls Try.prog 71 #[.string mc] w fun e w' => e = .returned (.bool ((mc.size : Int) == 6)) ∧ w' = w) := fun w => l01Mac_any mc w
  have T1 : Hid (∀ w, Calls Try.prog 72 #[.int .i64 ip, .int .i64 po] w fun e w' => e = .returned (.bool (dec (0 ≤ ip ∧ ip ≤ 4294967295) && dec (0 ≤ po ∧ po ≤ 65535))) ∧ w' = w) := fun w => l07Ask9_any ip po w
  have T2 : Hid (∀ w, Calls Try.prog 73 #[.int .i64 di] w fun e w' => e = .returned (.bool (dec (0 ≤ di ∧ di ≤ 4294967295))) ∧ w' = w) := fun w => specIp_any di w
  have T3 : Hid (∀ w, Calls Try.prog 74 #[.int .i64 st, .int .i64 1, .int .i64 4] w fun e w' => e = .returned (.bool (dec (1 ≤ st ∧ st ≤ 4))) ∧ w' = w) := fun w => specIn_any st 1 4 w
  have T4 : Hid (∀ w, Calls Try.prog 73 #[.int .i64 un] w fun e w' => e = .returned (.bool (dec (0 ≤ un ∧ un ≤ 4294967295))) ∧ w' = w) := fun w => specIp_any un w
  have T5 : Hid (∀ w, Calls Try.prog 73 #[.int .i64 nx] w fun e w' => e = .returned (.bool (dec (0 ≤ nx ∧ nx ≤ 4294967295))) ∧ w' = w) := fun w => specIp_any nx w
  have T6 : Hid (∀ w, Calls Try.prog 73 #[.int .i64 wa] w fun e w' => e = .returned (.bool (dec (0 ≤ wa ∧ wa ≤ 4294967295))) ∧ w' = w) := fun w => specIp_any wa w
  have T10 : Hid (∀ w, Calls Try.prog 75 #[.agg #[.string mc, .int .i64 ip, .int .i64 po, .int .i64 di, .int .i64 st, .int .i64 un, .int .i64 nx, .int .i64 wa, .string inn, .string out, .bool fin]] w fun e w' => e = .returned (.int .i64 (sentN ⟨mc, ip, po, di, st, un, nx, wa, inn, out, fin⟩)) ∧ Grw w w') := fun w => l10Sent_any mc ip po di st un nx wa inn out fin w ho
  have T9 : Hid (dec (0 ≤ un ∧ un ≤ 4294967295) = true → dec (0 ≤ nx ∧ nx ≤ 4294967295) = true → IntKind.i64.wrap (nx - un) = nx - un ∧ ∀ w, Calls Try.prog 61 #[.int .i64 (nx - un)] w fun e w' => e = .returned (.int .i64 (sqN (nx - un))) ∧ Grw w w') := fun h1 h2 => by
    simp [dec] at h1 h2
    exact ⟨by rw [IntKind.wrap_i64]; omega, fun w => toG (l10Seq_any (nx - un) w (by omega) (by omega))⟩
  have E : Hid (okB ⟨mc, ip, po, di, st, un, nx, wa, inn, out, fin⟩ = ((dec (0 ≤ ip ∧ ip ≤ 4294967295) && dec (0 ≤ po ∧ po ≤ 65535) && dec (0 ≤ di ∧ di ≤ 4294967295) && dec (1 ≤ st ∧ st ≤ 4) && dec (0 ≤ un ∧ un ≤ 4294967295) && dec (0 ≤ nx ∧ nx ≤ 4294967295) && dec (0 ≤ wa ∧ wa ≤ 4294967295)) && (((mc.size : Int) == 6) && !decide ((300 : Int) < (inn.size : Int)) && !decide ((300 : Int) < (out.size : Int)) && !((st == 1) && !(inn.toList == [])) && (fin == (st == 3)) && (fin || (out.toList == []))) && (sqN (nx - un) == sentN ⟨mc, ip, po, di, st, un, nx, wa, inn, out, fin⟩))) := rfl
  generalize ((mc.size : Int) == 6) = t0 at T0 E
  generalize (dec (0 ≤ ip ∧ ip ≤ 4294967295) && dec (0 ≤ po ∧ po ≤ 65535)) = t1 at T1 E
  generalize dec (0 ≤ di ∧ di ≤ 4294967295) = t2 at T2 E
  generalize dec (1 ≤ st ∧ st ≤ 4) = t3c at T3 E
  generalize dec (0 ≤ un ∧ un ≤ 4294967295) = u4 at T4 T9 E
  generalize dec (0 ≤ nx ∧ nx ≤ 4294967295) = u5 at T5 T9 E
  generalize dec (0 ≤ wa ∧ wa ≤ 4294967295) = u6 at T6 E
  generalize h1 : decide ((300 : Int) < (inn.size : Int)) = b1 at E
  generalize h2 : decide ((300 : Int) < (out.size : Int)) = b2 at E
  generalize h3 : (st == 1) = t3 at E
  generalize h4 : (inn.toList == []) = t4 at E
  generalize h5 : (st == 3) = t5 at E
  generalize h6 : (out.toList == []) = t6 at E
  generalize sentN ⟨mc, ip, po, di, st, un, nx, wa, inn, out, fin⟩ = z at T10 E
  generalize sqN (nx - un) = zz at T9 E
  have B0 : Hid (Grw w (w.alloc (.cells #[.string mc, .int .i64 ip, .int .i64 po, .int .i64 di, .int .i64 st, .int .i64 un, .int .i64 nx, .int .i64 wa, .string inn, .string out, .bool fin] 24))) := (Grw.refl _).alloc _
  have q0 : (w.alloc (.cells #[.string mc, .int .i64 ip, .int .i64 po, .int .i64 di, .int .i64 st, .int .i64 un, .int .i64 nx, .int .i64 wa, .string inn, .string out, .bool fin] 24)).cell? ⟨w.heap.size, 0, none⟩ = some (.string mc) := by simp [go_sem]
  have q1 : (w.alloc (.cells #[.string mc, .int .i64 ip, .int .i64 po, .int .i64 di, .int .i64 st, .int .i64 un, .int .i64 nx, .int .i64 wa, .string inn, .string out, .bool fin] 24)).cell? ⟨w.heap.size, 1, none⟩ = some (.int .i64 ip) := by simp [go_sem]
  have q2 : (w.alloc (.cells #[.string mc, .int .i64 ip, .int .i64 po, .int .i64 di, .int .i64 st, .int .i64 un, .int .i64 nx, .int .i64 wa, .string inn, .string out, .bool fin] 24)).cell? ⟨w.heap.size, 2, none⟩ = some (.int .i64 po) := by simp [go_sem]
  have q3 : (w.alloc (.cells #[.string mc, .int .i64 ip, .int .i64 po, .int .i64 di, .int .i64 st, .int .i64 un, .int .i64 nx, .int .i64 wa, .string inn, .string out, .bool fin] 24)).cell? ⟨w.heap.size, 3, none⟩ = some (.int .i64 di) := by simp [go_sem]
  have q4 : (w.alloc (.cells #[.string mc, .int .i64 ip, .int .i64 po, .int .i64 di, .int .i64 st, .int .i64 un, .int .i64 nx, .int .i64 wa, .string inn, .string out, .bool fin] 24)).cell? ⟨w.heap.size, 4, none⟩ = some (.int .i64 st) := by simp [go_sem]
  have q5 : (w.alloc (.cells #[.string mc, .int .i64 ip, .int .i64 po, .int .i64 di, .int .i64 st, .int .i64 un, .int .i64 nx, .int .i64 wa, .string inn, .string out, .bool fin] 24)).cell? ⟨w.heap.size, 5, none⟩ = some (.int .i64 un) := by simp [go_sem]
  have q6 : (w.alloc (.cells #[.string mc, .int .i64 ip, .int .i64 po, .int .i64 di, .int .i64 st, .int .i64 un, .int .i64 nx, .int .i64 wa, .string inn, .string out, .bool fin] 24)).cell? ⟨w.heap.size, 6, none⟩ = some (.int .i64 nx) := by simp [go_sem]
  have q7 : (w.alloc (.cells #[.string mc, .int .i64 ip, .int .i64 po, .int .i64 di, .int .i64 st, .int .i64 un, .int .i64 nx, .int .i64 wa, .string inn, .string out, .bool fin] 24)).cell? ⟨w.heap.size, 7, none⟩ = some (.int .i64 wa) := by simp [go_sem]
  have q8 : (w.alloc (.cells #[.string mc, .int .i64 ip, .int .i64 po, .int .i64 di, .int .i64 st, .int .i64 un, .int .i64 nx, .int .i64 wa, .string inn, .string out, .bool fin] 24)).cell? ⟨w.heap.size, 8, none⟩ = some (.string inn) := by simp [go_sem]
  have q9 : (w.alloc (.cells #[.string mc, .int .i64 ip, .int .i64 po, .int .i64 di, .int .i64 st, .int .i64 un, .int .i64 nx, .int .i64 wa, .string inn, .string out, .bool fin] 24)).cell? ⟨w.heap.size, 9, none⟩ = some (.string out) := by simp [go_sem]
  have q10 : (w.alloc (.cells #[.string mc, .int .i64 ip, .int .i64 po, .int .i64 di, .int .i64 st, .int .i64 un, .int .i64 nx, .int .i64 wa, .string inn, .string out, .bool fin] 24)).cell? ⟨w.heap.size, 10, none⟩ = some (.bool fin) := by simp [go_sem]
  have hmix : Try.prog.follows .mixedOrders = true := by kernel_rfl
  go_enter Try.func35, Try.ntmps35
  go_wp2_with fail
  refine (T0.out _).mono ?_
  rintro e w1 ⟨rfl, rfl⟩
  cases t0 with
  | false =>
    go_wp2
    go_ret
    exact ⟨by rw [E.out]; first | rfl | (show Ending.returned (.bool false) = _; simp), (Grw.refl _).alloc _⟩
  | true =>
    go_wp2_with fail
    refine (T1.out _).mono ?_
    rintro e w1 ⟨rfl, rfl⟩
    cases t1 with
    | false =>
      go_wp2
      go_ret
      exact ⟨by rw [E.out]; first | rfl | (show Ending.returned (.bool false) = _; simp), (Grw.refl _).alloc _⟩
    | true =>
      go_wp2_with fail
      refine (T2.out _).mono ?_
      rintro e w1 ⟨rfl, rfl⟩
      cases t2 with
      | false =>
        go_wp2
        go_ret
        exact ⟨by rw [E.out]; first | rfl | (show Ending.returned (.bool false) = _; simp), (Grw.refl _).alloc _⟩
      | true =>
        go_wp2_with fail
        refine (T3.out _).mono ?_
        rintro e w1 ⟨rfl, rfl⟩
        cases t3c with
        | false =>
          go_wp2
          go_ret
          exact ⟨by rw [E.out]; first | rfl | (show Ending.returned (.bool false) = _; simp), (Grw.refl _).alloc _⟩
        | true =>
          go_wp2_with fail
          refine (T4.out _).mono ?_
          rintro e w1 ⟨rfl, rfl⟩
          cases u4 with
          | false =>
            go_wp2
            go_ret
            exact ⟨by rw [E.out]; first | rfl | (show Ending.returned (.bool false) = _; simp), (Grw.refl _).alloc _⟩
          | true =>
            go_wp2_with fail
            refine (T5.out _).mono ?_
            rintro e w1 ⟨rfl, rfl⟩
            cases u5 with
            | false =>
              go_wp2
              go_ret
              exact ⟨by rw [E.out]; first | rfl | (show Ending.returned (.bool false) = _; simp), (Grw.refl _).alloc _⟩
            | true =>
              go_wp2_with fail
              refine (T6.out _).mono ?_
              rintro e w1 ⟨rfl, rfl⟩
              cases u6 with
              | false =>
                go_wp2
                go_ret
                exact ⟨by rw [E.out]; first | rfl | (show Ending.returned (.bool false) = _; simp), (Grw.refl _).alloc _⟩
              | true =>
                cases b1 with
                | false =>
                  cases b2 with
                  | false =>
                    cases t3 with
                    | false =>
                      cases fin with
                      | false =>
                        cases t5 with
                        | false =>
                          cases t6 with
                          | false =>
                            go_wp2
                            go_ret
                            exact ⟨by rw [E.out]; first | rfl | (show Ending.returned (.bool false) = _; simp), (Grw.refl _).alloc _⟩
                          | true =>
                            have X := T9.out (by first | rfl | trivial) (by first | rfl | trivial)
                            have X1 := X.1
                            have X2 : Hid (∀ w, Calls Try.prog 61 #[.int .i64 (nx - un)] w fun e w' => e = .returned (.int .i64 zz) ∧ Grw w w') := X.2
                            clear X T9
                            go_wp2_with fail
                            generalize w.alloc (.cells #[.string mc, .int .i64 ip, .int .i64 po, .int .i64 di, .int .i64 st, .int .i64 un, .int .i64 nx, .int .i64 wa, .string inn, .string out, .bool false] 24) = W at *
                            have y0 : ∀ n os, (grow (W.drewN n) os).cell? ⟨w.heap.size, 0, none⟩ = some (.string mc) := fun n os => bkeep (Grw.below ⟨n, os, rfl⟩) q0
                            have y1 : ∀ n os, (grow (W.drewN n) os).cell? ⟨w.heap.size, 1, none⟩ = some (.int .i64 ip) := fun n os => bkeep (Grw.below ⟨n, os, rfl⟩) q1
                            have y2 : ∀ n os, (grow (W.drewN n) os).cell? ⟨w.heap.size, 2, none⟩ = some (.int .i64 po) := fun n os => bkeep (Grw.below ⟨n, os, rfl⟩) q2
                            have y3 : ∀ n os, (grow (W.drewN n) os).cell? ⟨w.heap.size, 3, none⟩ = some (.int .i64 di) := fun n os => bkeep (Grw.below ⟨n, os, rfl⟩) q3
                            have y4 : ∀ n os, (grow (W.drewN n) os).cell? ⟨w.heap.size, 4, none⟩ = some (.int .i64 st) := fun n os => bkeep (Grw.below ⟨n, os, rfl⟩) q4
                            have y5 : ∀ n os, (grow (W.drewN n) os).cell? ⟨w.heap.size, 5, none⟩ = some (.int .i64 un) := fun n os => bkeep (Grw.below ⟨n, os, rfl⟩) q5
                            have y6 : ∀ n os, (grow (W.drewN n) os).cell? ⟨w.heap.size, 6, none⟩ = some (.int .i64 nx) := fun n os => bkeep (Grw.below ⟨n, os, rfl⟩) q6
                            have y7 : ∀ n os, (grow (W.drewN n) os).cell? ⟨w.heap.size, 7, none⟩ = some (.int .i64 wa) := fun n os => bkeep (Grw.below ⟨n, os, rfl⟩) q7
                            have y8 : ∀ n os, (grow (W.drewN n) os).cell? ⟨w.heap.size, 8, none⟩ = some (.string inn) := fun n os => bkeep (Grw.below ⟨n, os, rfl⟩) q8
                            have y9 : ∀ n os, (grow (W.drewN n) os).cell? ⟨w.heap.size, 9, none⟩ = some (.string out) := fun n os => bkeep (Grw.below ⟨n, os, rfl⟩) q9
                            have y10 : ∀ n os, (grow (W.drewN n) os).cell? ⟨w.heap.size, 10, none⟩ = some (.bool false) := fun n os => bkeep (Grw.below ⟨n, os, rfl⟩) q10
                            refine wp_region_quiet_grown (by assumption) (by kernel_rfl) ?_
                            repeat (go_big_quiet_step (first | fail | (first | (go_at_call 61; exact Calls.grown_of (X2.out _)) | (go_at_call 75; exact Calls.grown_of (T10.out _)))))
                            refine wpQuiet_nil ?_
                            intro _ hw'
                            obtain ⟨⟨nq, osq⟩, hw''⟩ := hw'
                            subst hw''
                            have HG2 : Hid (Grw w (grow (W.drewN nq) osq)) := B0.out.trans ⟨nq, osq, rfl⟩
                            clear y0 y1 y2 y3 y4 y5 y6 y7 y8 y9 y10 q0 q1 q2 q3 q4 q5 q6 q7 q8 q9 q10 B0
                            generalize (grow (W.drewN nq) osq) = w5 at *
                            go_wp2
                            go_ret
                            exact ⟨by rw [E.out]; rfl, HG2.out⟩
                        | true =>
                          go_wp2
                          go_ret
                          exact ⟨by rw [E.out]; first | rfl | (show Ending.returned (.bool false) = _; simp), (Grw.refl _).alloc _⟩
                      | true =>
                        cases t5 with
                        | false =>
                          go_wp2
                          go_ret
                          exact ⟨by rw [E.out]; first | rfl | (show Ending.returned (.bool false) = _; simp), (Grw.refl _).alloc _⟩
                        | true =>
                          have X := T9.out (by first | rfl | trivial) (by first | rfl | trivial)
                          have X1 := X.1
                          have X2 : Hid (∀ w, Calls Try.prog 61 #[.int .i64 (nx - un)] w fun e w' => e = .returned (.int .i64 zz) ∧ Grw w w') := X.2
                          clear X T9
                          go_wp2_with fail
                          generalize w.alloc (.cells #[.string mc, .int .i64 ip, .int .i64 po, .int .i64 di, .int .i64 st, .int .i64 un, .int .i64 nx, .int .i64 wa, .string inn, .string out, .bool true] 24) = W at *
                          have y0 : ∀ n os, (grow (W.drewN n) os).cell? ⟨w.heap.size, 0, none⟩ = some (.string mc) := fun n os => bkeep (Grw.below ⟨n, os, rfl⟩) q0
                          have y1 : ∀ n os, (grow (W.drewN n) os).cell? ⟨w.heap.size, 1, none⟩ = some (.int .i64 ip) := fun n os => bkeep (Grw.below ⟨n, os, rfl⟩) q1
                          have y2 : ∀ n os, (grow (W.drewN n) os).cell? ⟨w.heap.size, 2, none⟩ = some (.int .i64 po) := fun n os => bkeep (Grw.below ⟨n, os, rfl⟩) q2
                          have y3 : ∀ n os, (grow (W.drewN n) os).cell? ⟨w.heap.size, 3, none⟩ = some (.int .i64 di) := fun n os => bkeep (Grw.below ⟨n, os, rfl⟩) q3
                          have y4 : ∀ n os, (grow (W.drewN n) os).cell? ⟨w.heap.size, 4, none⟩ = some (.int .i64 st) := fun n os => bkeep (Grw.below ⟨n, os, rfl⟩) q4
                          have y5 : ∀ n os, (grow (W.drewN n) os).cell? ⟨w.heap.size, 5, none⟩ = some (.int .i64 un) := fun n os => bkeep (Grw.below ⟨n, os, rfl⟩) q5
                          have y6 : ∀ n os, (grow (W.drewN n) os).cell? ⟨w.heap.size, 6, none⟩ = some (.int .i64 nx) := fun n os => bkeep (Grw.below ⟨n, os, rfl⟩) q6
                          have y7 : ∀ n os, (grow (W.drewN n) os).cell? ⟨w.heap.size, 7, none⟩ = some (.int .i64 wa) := fun n os => bkeep (Grw.below ⟨n, os, rfl⟩) q7
                          have y8 : ∀ n os, (grow (W.drewN n) os).cell? ⟨w.heap.size, 8, none⟩ = some (.string inn) := fun n os => bkeep (Grw.below ⟨n, os, rfl⟩) q8
                          have y9 : ∀ n os, (grow (W.drewN n) os).cell? ⟨w.heap.size, 9, none⟩ = some (.string out) := fun n os => bkeep (Grw.below ⟨n, os, rfl⟩) q9
                          have y10 : ∀ n os, (grow (W.drewN n) os).cell? ⟨w.heap.size, 10, none⟩ = some (.bool true) := fun n os => bkeep (Grw.below ⟨n, os, rfl⟩) q10
                          refine wp_region_quiet_grown (by assumption) (by kernel_rfl) ?_
                          repeat (go_big_quiet_step (first | fail | (first | (go_at_call 61; exact Calls.grown_of (X2.out _)) | (go_at_call 75; exact Calls.grown_of (T10.out _)))))
                          refine wpQuiet_nil ?_
                          intro _ hw'
                          obtain ⟨⟨nq, osq⟩, hw''⟩ := hw'
                          subst hw''
                          have HG2 : Hid (Grw w (grow (W.drewN nq) osq)) := B0.out.trans ⟨nq, osq, rfl⟩
                          clear y0 y1 y2 y3 y4 y5 y6 y7 y8 y9 y10 q0 q1 q2 q3 q4 q5 q6 q7 q8 q9 q10 B0
                          generalize (grow (W.drewN nq) osq) = w5 at *
                          go_wp2
                          go_ret
                          exact ⟨by rw [E.out]; rfl, HG2.out⟩
                    | true =>
                      cases t4 with
                      | false =>
                        go_wp2
                        go_ret
                        exact ⟨by rw [E.out]; first | rfl | (show Ending.returned (.bool false) = _; simp), (Grw.refl _).alloc _⟩
                      | true =>
                        cases fin with
                        | false =>
                          cases t5 with
                          | false =>
                            cases t6 with
                            | false =>
                              go_wp2
                              go_ret
                              exact ⟨by rw [E.out]; first | rfl | (show Ending.returned (.bool false) = _; simp), (Grw.refl _).alloc _⟩
                            | true =>
                              have X := T9.out (by first | rfl | trivial) (by first | rfl | trivial)
                              have X1 := X.1
                              have X2 : Hid (∀ w, Calls Try.prog 61 #[.int .i64 (nx - un)] w fun e w' => e = .returned (.int .i64 zz) ∧ Grw w w') := X.2
                              clear X T9
                              go_wp2_with fail
                              generalize w.alloc (.cells #[.string mc, .int .i64 ip, .int .i64 po, .int .i64 di, .int .i64 st, .int .i64 un, .int .i64 nx, .int .i64 wa, .string inn, .string out, .bool false] 24) = W at *
                              have y0 : ∀ n os, (grow (W.drewN n) os).cell? ⟨w.heap.size, 0, none⟩ = some (.string mc) := fun n os => bkeep (Grw.below ⟨n, os, rfl⟩) q0
                              have y1 : ∀ n os, (grow (W.drewN n) os).cell? ⟨w.heap.size, 1, none⟩ = some (.int .i64 ip) := fun n os => bkeep (Grw.below ⟨n, os, rfl⟩) q1
                              have y2 : ∀ n os, (grow (W.drewN n) os).cell? ⟨w.heap.size, 2, none⟩ = some (.int .i64 po) := fun n os => bkeep (Grw.below ⟨n, os, rfl⟩) q2
                              have y3 : ∀ n os, (grow (W.drewN n) os).cell? ⟨w.heap.size, 3, none⟩ = some (.int .i64 di) := fun n os => bkeep (Grw.below ⟨n, os, rfl⟩) q3
                              have y4 : ∀ n os, (grow (W.drewN n) os).cell? ⟨w.heap.size, 4, none⟩ = some (.int .i64 st) := fun n os => bkeep (Grw.below ⟨n, os, rfl⟩) q4
                              have y5 : ∀ n os, (grow (W.drewN n) os).cell? ⟨w.heap.size, 5, none⟩ = some (.int .i64 un) := fun n os => bkeep (Grw.below ⟨n, os, rfl⟩) q5
                              have y6 : ∀ n os, (grow (W.drewN n) os).cell? ⟨w.heap.size, 6, none⟩ = some (.int .i64 nx) := fun n os => bkeep (Grw.below ⟨n, os, rfl⟩) q6
                              have y7 : ∀ n os, (grow (W.drewN n) os).cell? ⟨w.heap.size, 7, none⟩ = some (.int .i64 wa) := fun n os => bkeep (Grw.below ⟨n, os, rfl⟩) q7
                              have y8 : ∀ n os, (grow (W.drewN n) os).cell? ⟨w.heap.size, 8, none⟩ = some (.string inn) := fun n os => bkeep (Grw.below ⟨n, os, rfl⟩) q8
                              have y9 : ∀ n os, (grow (W.drewN n) os).cell? ⟨w.heap.size, 9, none⟩ = some (.string out) := fun n os => bkeep (Grw.below ⟨n, os, rfl⟩) q9
                              have y10 : ∀ n os, (grow (W.drewN n) os).cell? ⟨w.heap.size, 10, none⟩ = some (.bool false) := fun n os => bkeep (Grw.below ⟨n, os, rfl⟩) q10
                              refine wp_region_quiet_grown (by assumption) (by kernel_rfl) ?_
                              repeat (go_big_quiet_step (first | fail | (first | (go_at_call 61; exact Calls.grown_of (X2.out _)) | (go_at_call 75; exact Calls.grown_of (T10.out _)))))
                              refine wpQuiet_nil ?_
                              intro _ hw'
                              obtain ⟨⟨nq, osq⟩, hw''⟩ := hw'
                              subst hw''
                              have HG2 : Hid (Grw w (grow (W.drewN nq) osq)) := B0.out.trans ⟨nq, osq, rfl⟩
                              clear y0 y1 y2 y3 y4 y5 y6 y7 y8 y9 y10 q0 q1 q2 q3 q4 q5 q6 q7 q8 q9 q10 B0
                              generalize (grow (W.drewN nq) osq) = w5 at *
                              go_wp2
                              go_ret
                              exact ⟨by rw [E.out]; rfl, HG2.out⟩
                          | true =>
                            go_wp2
                            go_ret
                            exact ⟨by rw [E.out]; first | rfl | (show Ending.returned (.bool false) = _; simp), (Grw.refl _).alloc _⟩
                        | true =>
                          cases t5 with
                          | false =>
                            go_wp2
                            go_ret
                            exact ⟨by rw [E.out]; first | rfl | (show Ending.returned (.bool false) = _; simp), (Grw.refl _).alloc _⟩
                          | true =>
                            have X := T9.out (by first | rfl | trivial) (by first | rfl | trivial)
                            have X1 := X.1
                            have X2 : Hid (∀ w, Calls Try.prog 61 #[.int .i64 (nx - un)] w fun e w' => e = .returned (.int .i64 zz) ∧ Grw w w') := X.2
                            clear X T9
                            go_wp2_with fail
                            generalize w.alloc (.cells #[.string mc, .int .i64 ip, .int .i64 po, .int .i64 di, .int .i64 st, .int .i64 un, .int .i64 nx, .int .i64 wa, .string inn, .string out, .bool true] 24) = W at *
                            have y0 : ∀ n os, (grow (W.drewN n) os).cell? ⟨w.heap.size, 0, none⟩ = some (.string mc) := fun n os => bkeep (Grw.below ⟨n, os, rfl⟩) q0
                            have y1 : ∀ n os, (grow (W.drewN n) os).cell? ⟨w.heap.size, 1, none⟩ = some (.int .i64 ip) := fun n os => bkeep (Grw.below ⟨n, os, rfl⟩) q1
                            have y2 : ∀ n os, (grow (W.drewN n) os).cell? ⟨w.heap.size, 2, none⟩ = some (.int .i64 po) := fun n os => bkeep (Grw.below ⟨n, os, rfl⟩) q2
                            have y3 : ∀ n os, (grow (W.drewN n) os).cell? ⟨w.heap.size, 3, none⟩ = some (.int .i64 di) := fun n os => bkeep (Grw.below ⟨n, os, rfl⟩) q3
                            have y4 : ∀ n os, (grow (W.drewN n) os).cell? ⟨w.heap.size, 4, none⟩ = some (.int .i64 st) := fun n os => bkeep (Grw.below ⟨n, os, rfl⟩) q4
                            have y5 : ∀ n os, (grow (W.drewN n) os).cell? ⟨w.heap.size, 5, none⟩ = some (.int .i64 un) := fun n os => bkeep (Grw.below ⟨n, os, rfl⟩) q5
                            have y6 : ∀ n os, (grow (W.drewN n) os).cell? ⟨w.heap.size, 6, none⟩ = some (.int .i64 nx) := fun n os => bkeep (Grw.below ⟨n, os, rfl⟩) q6
                            have y7 : ∀ n os, (grow (W.drewN n) os).cell? ⟨w.heap.size, 7, none⟩ = some (.int .i64 wa) := fun n os => bkeep (Grw.below ⟨n, os, rfl⟩) q7
                            have y8 : ∀ n os, (grow (W.drewN n) os).cell? ⟨w.heap.size, 8, none⟩ = some (.string inn) := fun n os => bkeep (Grw.below ⟨n, os, rfl⟩) q8
                            have y9 : ∀ n os, (grow (W.drewN n) os).cell? ⟨w.heap.size, 9, none⟩ = some (.string out) := fun n os => bkeep (Grw.below ⟨n, os, rfl⟩) q9
                            have y10 : ∀ n os, (grow (W.drewN n) os).cell? ⟨w.heap.size, 10, none⟩ = some (.bool true) := fun n os => bkeep (Grw.below ⟨n, os, rfl⟩) q10
                            refine wp_region_quiet_grown (by assumption) (by kernel_rfl) ?_
                            repeat (go_big_quiet_step (first | fail | (first | (go_at_call 61; exact Calls.grown_of (X2.out _)) | (go_at_call 75; exact Calls.grown_of (T10.out _)))))
                            refine wpQuiet_nil ?_
                            intro _ hw'
                            obtain ⟨⟨nq, osq⟩, hw''⟩ := hw'
                            subst hw''
                            have HG2 : Hid (Grw w (grow (W.drewN nq) osq)) := B0.out.trans ⟨nq, osq, rfl⟩
                            clear y0 y1 y2 y3 y4 y5 y6 y7 y8 y9 y10 q0 q1 q2 q3 q4 q5 q6 q7 q8 q9 q10 B0
                            generalize (grow (W.drewN nq) osq) = w5 at *
                            go_wp2
                            go_ret
                            exact ⟨by rw [E.out]; rfl, HG2.out⟩
                  | true =>
                    go_wp2
                    go_ret
                    exact ⟨by rw [E.out]; first | rfl | (show Ending.returned (.bool false) = _; simp), (Grw.refl _).alloc _⟩
                | true =>
                  go_wp2
                  go_ret
                  exact ⟨by rw [E.out]; first | rfl | (show Ending.returned (.bool false) = _; simp), (Grw.refl _).alloc _⟩
end Go.Proofs.Ytfgghffgfefgpaa

namespace Go.Proofs.Ytfgghffgfefgpaa
open Go.RowKit Go.PlainAid Go.Proofs.Ytfgghffgfefgpaa.Bt Go.Sort
set_option linter.unusedVariables false
set_option maxRecDepth 20000
set_option maxHeartbeats 2000000 in
theorem toConn_any (mc : ByteArray) (ip po di st un nx wa : Int) (inn out : ByteArray) (fin : Bool) (w : World) :
    Calls Try.prog 24 #[.agg #[.string mc, .int .i64 ip, .int .i64 po, .int .i64 di, .int .i64 st, .int .i64 un, .int .i64 nx, .int .i64 wa, .string inn, .string out, .bool fin]] w fun e w' => e = .returned (.agg #[.string mc, .int .i64 ip, .int .i64 po, .int .i64 di, .int .i64 st, .int .i64 un, .int .i64 nx, .int .i64 wa, .string inn, .string out, .bool fin]) ∧ Grw w w' := by
  go_enter Try.func24, Try.ntmps24
  go_wp2
  (try simp only [Exit.inBlock, Exit.then])
  refine bodyPost_ret (v := .agg #[.string mc, .int .i64 ip, .int .i64 po, .int .i64 di, .int .i64 st, .int .i64 un, .int .i64 nx, .int .i64 wa, .string inn, .string out, .bool fin]) (by simp [results, Try.results24, go_sem]; try rfl) rfl ?_
  exact ⟨rfl, ((((Grw.refl _).alloc _).alloc _).alloc _)⟩
set_option maxHeartbeats 1000000 in
theorem eqConn_any (mc : ByteArray) (ip po di st un nx wa : Int) (inn out : ByteArray) (fin : Bool) (w : World) :
    Calls Try.prog 26 #[.agg #[.string mc, .int .i64 ip, .int .i64 po, .int .i64 di, .int .i64 st, .int .i64 un, .int .i64 nx, .int .i64 wa, .string inn, .string out, .bool fin], .agg #[.string mc, .int .i64 ip, .int .i64 po, .int .i64 di, .int .i64 st, .int .i64 un, .int .i64 nx, .int .i64 wa, .string inn, .string out, .bool fin]] w fun e w' => e = .returned (.bool true) ∧ Grw w w' := by
  have h0 : (mc.toList == mc.toList) = true := by simp
  have h1 : (ip != ip) = false := by simp
  have h2 : (po != po) = false := by simp
  have h3 : (di != di) = false := by simp
  have h4 : (st != st) = false := by simp
  have h5 : (un != un) = false := by simp
  have h6 : (nx != nx) = false := by simp
  have h7 : (wa != wa) = false := by simp
  have h8 : (inn.toList == inn.toList) = true := by simp
  have h9 : (out.toList == out.toList) = true := by simp
  have h10 : (fin != fin) = false := by simp
  go_enter Try.func26, Try.ntmps26
  go_wp2
  go_ret
  exact ⟨rfl, ((Grw.refl _).alloc _).alloc _⟩
set_option maxHeartbeats 2000000 in
theorem toSegment_any (sp dp sq ac fl wi : Int) (da : ByteArray) (w : World) :
    Calls Try.prog 25 #[.agg #[.int .i64 sp, .int .i64 dp, .int .i64 sq, .int .i64 ac, .int .i64 fl, .int .i64 wi, .string da]] w fun e w' => e = .returned (.agg #[.int .i64 sp, .int .i64 dp, .int .i64 sq, .int .i64 ac, .int .i64 fl, .int .i64 wi, .string da]) ∧ Grw w w' := by
  go_enter Try.func25, Try.ntmps25
  go_wp2
  (try simp only [Exit.inBlock, Exit.then])
  refine bodyPost_ret (v := .agg #[.int .i64 sp, .int .i64 dp, .int .i64 sq, .int .i64 ac, .int .i64 fl, .int .i64 wi, .string da]) (by simp [results, Try.results25, go_sem]; try rfl) rfl ?_
  exact ⟨rfl, ((((Grw.refl _).alloc _).alloc _).alloc _)⟩
set_option maxHeartbeats 1000000 in
theorem eqSegment_any (sp dp sq ac fl wi : Int) (da : ByteArray) (w : World) :
    Calls Try.prog 54 #[.agg #[.int .i64 sp, .int .i64 dp, .int .i64 sq, .int .i64 ac, .int .i64 fl, .int .i64 wi, .string da], .agg #[.int .i64 sp, .int .i64 dp, .int .i64 sq, .int .i64 ac, .int .i64 fl, .int .i64 wi, .string da]] w fun e w' => e = .returned (.bool true) ∧ Grw w w' := by
  have h0 : (sp != sp) = false := by simp
  have h1 : (dp != dp) = false := by simp
  have h2 : (sq != sq) = false := by simp
  have h3 : (ac != ac) = false := by simp
  have h4 : (fl != fl) = false := by simp
  have h5 : (wi != wi) = false := by simp
  have h6 : (da.toList == da.toList) = true := by simp
  go_enter Try.func54, Try.ntmps54
  go_wp2
  go_ret
  exact ⟨rfl, ((Grw.refl _).alloc _).alloc _⟩
set_option maxHeartbeats 1000000 in
theorem szConn_any (mc : ByteArray) (ip po di st un nx wa : Int) (inn out : ByteArray) (fin : Bool) (l : Int) (w : World) (hmc : mc.size ≤ 9223372036854775807) (hinn : inn.size ≤ 9223372036854775807) (hout : out.size ≤ 9223372036854775807) (h0 : 0 ≤ l) (h1 : l ≤ 1048576) :
    Calls Try.prog 22 #[.agg #[.string mc, .int .i64 ip, .int .i64 po, .int .i64 di, .int .i64 st, .int .i64 un, .int .i64 nx, .int .i64 wa, .string inn, .string out, .bool fin], .int .i64 l] w fun e w' => ∃ r : Int, e = .returned (.int .i64 r) ∧ (0 ≤ r → r ≤ l ∧ (mc.size : Int) ≤ l ∧ (inn.size : Int) ≤ l ∧ (out.size : Int) ≤ l) ∧ -1 ≤ r ∧ r ≤ 1048576 ∧ Grw w w' := by
  by_cases hx0 : l - (mc.size : Int) < 0
  · go_enter Try.func22, Try.ntmps22
    go_wp2
    go_ret
    exact ⟨-1, rfl, fun h => absurd h (by omega), by omega, by omega, (Grw.refl _).alloc _⟩
  by_cases hx1 : l - (mc.size : Int) - (inn.size : Int) < 0
  · go_enter Try.func22, Try.ntmps22
    go_wp2
    go_ret
    exact ⟨-1, rfl, fun h => absurd h (by omega), by omega, by omega, (Grw.refl _).alloc _⟩
  by_cases hx2 : l - (mc.size : Int) - (inn.size : Int) - (out.size : Int) < 0
  · go_enter Try.func22, Try.ntmps22
    go_wp2
    go_ret
    exact ⟨-1, rfl, fun h => absurd h (by omega), by omega, by omega, (Grw.refl _).alloc _⟩
  go_enter Try.func22, Try.ntmps22
  go_wp2
  go_ret
  exact ⟨_, rfl, fun _ => ⟨by omega, by omega, by omega, by omega⟩, by omega, by omega, (Grw.refl _).alloc _⟩
set_option maxHeartbeats 1000000 in
theorem szSegment_any (sp dp sq ac fl wi : Int) (da : ByteArray) (l : Int) (w : World) (hda : da.size ≤ 9223372036854775807) (h0 : 0 ≤ l) (h1 : l ≤ 1048576) :
    Calls Try.prog 23 #[.agg #[.int .i64 sp, .int .i64 dp, .int .i64 sq, .int .i64 ac, .int .i64 fl, .int .i64 wi, .string da], .int .i64 l] w fun e w' => ∃ r : Int, e = .returned (.int .i64 r) ∧ (0 ≤ r → r ≤ l ∧ (da.size : Int) ≤ l) ∧ -1 ≤ r ∧ r ≤ 1048576 ∧ Grw w w' := by
  by_cases hx0 : l - (da.size : Int) < 0
  · go_enter Try.func23, Try.ntmps23
    go_wp2
    go_ret
    exact ⟨-1, rfl, fun h => absurd h (by omega), by omega, by omega, (Grw.refl _).alloc _⟩
  go_enter Try.func23, Try.ntmps23
  go_wp2
  go_ret
  exact ⟨_, rfl, fun _ => ⟨by omega, by omega⟩, by omega, by omega, (Grw.refl _).alloc _⟩
theorem infoSegment : (Try.prog.info? 27).map (fun i => (i.zero, i.size, i.bytes)) = some (some (.agg #[.int .i64 0, .int .i64 0, .int .i64 0, .int .i64 0, .int .i64 0, .int .i64 0, .string ⟨#[]⟩]), 7, 64) := by kernel_rfl
set_option maxHeartbeats 2000000 in
theorem eqSegmentS_yes (a a' : Option Addr) (len cap cap' : Nat) (xs : List SegV) (w : World) (h : Rw SgR 7 w a xs) (h' : Rw SgR 7 w a' xs) (hl : xs.length = len) (hlen : len ≤ 9223372036854775807) :
    Calls Try.prog 27 #[.slice a len cap, .slice a' len cap'] w fun e w' => e = .returned (.bool true) ∧ Grw w w' := by
  have hne : ((len : Int) != (len : Int)) = false := by simp
  have hmix : Try.prog.follows .mixedOrders = true := by kernel_rfl
  have RW : Hid (Rw SgR 7 w a xs) := h
  have RW' : Hid (Rw SgR 7 w a' xs) := h'
  clear h h'
  go_enter Try.func27, Try.ntmps27
  go_wp2
  go_loopw [5] (fun i wr => ∃ k : Nat, k ≤ len ∧ i = .int .i64 k ∧ Hid (Grw w wr)) (fun i _ => len - (intOf i).toNat)
  case atStart => exact ⟨0, Nat.zero_le _, rfl, Grw.refl w⟩
  case round =>
    obtain ⟨k, hk, rfl, HG⟩ := hrel
    by_cases hlt : k < len
    · obtain ⟨x, hx⟩ := at_of hl hlt
      obtain ⟨b, off, vs, rfl, hb, hvl, hR, hc⟩ := RW.out.at FR.kp HG.out.below hx
      obtain ⟨b', off', vs', rfl, hb', hvl', hR', hc'⟩ := RW'.out.at FR.kp HG.out.below hx
      obtain ⟨sp, dp, sq, ac, fl, wi, da⟩ := x
      obtain ⟨rfl, -⟩ := hR
      obtain ⟨rfl, -⟩ := hR'
      have q0 : ∀ n os, (grow (wr.drewN n) os).cell? ⟨b, off + k * 7, none⟩ = some (.int .i64 sp) := fun n os => grown_cell hb HG.out (hc 0 _ rfl) n os
      have q1 : ∀ n os, (grow (wr.drewN n) os).cell? ⟨b, off + k * 7 + 1, none⟩ = some (.int .i64 dp) := fun n os => grown_cell hb HG.out (hc 1 _ rfl) n os
      have q2 : ∀ n os, (grow (wr.drewN n) os).cell? ⟨b, off + k * 7 + 2, none⟩ = some (.int .i64 sq) := fun n os => grown_cell hb HG.out (hc 2 _ rfl) n os
      have q3 : ∀ n os, (grow (wr.drewN n) os).cell? ⟨b, off + k * 7 + 3, none⟩ = some (.int .i64 ac) := fun n os => grown_cell hb HG.out (hc 3 _ rfl) n os
      have q4 : ∀ n os, (grow (wr.drewN n) os).cell? ⟨b, off + k * 7 + 4, none⟩ = some (.int .i64 fl) := fun n os => grown_cell hb HG.out (hc 4 _ rfl) n os
      have q5 : ∀ n os, (grow (wr.drewN n) os).cell? ⟨b, off + k * 7 + 5, none⟩ = some (.int .i64 wi) := fun n os => grown_cell hb HG.out (hc 5 _ rfl) n os
      have q6 : ∀ n os, (grow (wr.drewN n) os).cell? ⟨b, off + k * 7 + 6, none⟩ = some (.string da) := fun n os => grown_cell hb HG.out (hc 6 _ rfl) n os
      have r0 : ∀ n os, (grow (wr.drewN n) os).cell? ⟨b', off' + k * 7, none⟩ = some (.int .i64 sp) := fun n os => grown_cell hb' HG.out (hc' 0 _ rfl) n os
      have r1 : ∀ n os, (grow (wr.drewN n) os).cell? ⟨b', off' + k * 7 + 1, none⟩ = some (.int .i64 dp) := fun n os => grown_cell hb' HG.out (hc' 1 _ rfl) n os
      have r2 : ∀ n os, (grow (wr.drewN n) os).cell? ⟨b', off' + k * 7 + 2, none⟩ = some (.int .i64 sq) := fun n os => grown_cell hb' HG.out (hc' 2 _ rfl) n os
      have r3 : ∀ n os, (grow (wr.drewN n) os).cell? ⟨b', off' + k * 7 + 3, none⟩ = some (.int .i64 ac) := fun n os => grown_cell hb' HG.out (hc' 3 _ rfl) n os
      have r4 : ∀ n os, (grow (wr.drewN n) os).cell? ⟨b', off' + k * 7 + 4, none⟩ = some (.int .i64 fl) := fun n os => grown_cell hb' HG.out (hc' 4 _ rfl) n os
      have r5 : ∀ n os, (grow (wr.drewN n) os).cell? ⟨b', off' + k * 7 + 5, none⟩ = some (.int .i64 wi) := fun n os => grown_cell hb' HG.out (hc' 5 _ rfl) n os
      have r6 : ∀ n os, (grow (wr.drewN n) os).cell? ⟨b', off' + k * 7 + 6, none⟩ = some (.string da) := fun n os => grown_cell hb' HG.out (hc' 6 _ rfl) n os
      have HE : Hid (∀ w, Calls Try.prog 54 #[.agg #[.int .i64 sp, .int .i64 dp, .int .i64 sq, .int .i64 ac, .int .i64 fl, .int .i64 wi, .string da], .agg #[.int .i64 sp, .int .i64 dp, .int .i64 sq, .int .i64 ac, .int .i64 fl, .int .i64 wi, .string da]] w fun e w' => e = .returned (.bool true) ∧ Grw w w') := fun w => eqSegment_any sp dp sq ac fl wi da w
      have hltz : (k : Int) < (len : Int) := by omega
      clear hc hc'
      go_wp2_with fail
      refine wp_region_quiet_grown (by assumption) (by kernel_rfl) ?_
      repeat (go_big_quiet_step (first | fail | (go_at_call 54; exact Calls.grown_of (HE.out _))))
      refine wpQuiet_nil ?_
      intro _ hw'
      obtain ⟨⟨nq, osq⟩, hw''⟩ := hw'
      subst hw''
      have HG2 : Hid (Grw w (grow (wr.drewN nq) osq)) := HG.out.trans ⟨nq, osq, rfl⟩
      clear q0 q1 q2 q3 q4 q5 q6 r0 r1 r2 r3 r4 r5 r6 HG HE
      go_wp2
      go_roundw
      case rel => exact ⟨k + 1, by omega, by go_num, HG2⟩
      case measure => simp [intOf]; omega
    · obtain rfl : k = len := by omega
      go_wp2
      go_ret
      exact ⟨rfl, HG.out⟩
end Go.Proofs.Ytfgghffgfefgpaa

namespace Go.Proofs.Ytfgghffgfefgpaa
open Go.RowKit Go.PlainAid
set_option linter.unusedVariables false

theorem flatS_tail {α : Type} {c : α → List Value} {K : Nat} (hK : ∀ x, (c x).length = K) (xs : List α) (i : Nat) (x y : α) (j : Nat) (hx : xs[i]? = some x) (hj : j ≤ K) (hy : (c y).take j = (c x).take j) : flatS c (xs.set i y) = sets (flatS c xs) (i * K + j) ((c y).drop j) := by
  have hi := (List.getElem?_eq_some_iff.1 hx).1
  obtain ⟨A, x', C, rfl, rfl⟩ : ∃ A x C, xs = A ++ x :: C ∧ A.length = i := ⟨xs.take i, xs[i], xs.drop (i + 1), by simp, by simp; omega⟩
  have ex : x' = x := by simpa using hx
  subst ex
  have e : (A ++ x' :: C).set A.length y = A ++ y :: C := by simp
  have h1 : flatS c (A ++ x' :: C) = (flatS c A ++ (c x').take j) ++ ((c x').drop j ++ flatS c C) := by
    rw [flatS_append, flatS_cons, List.append_assoc, ← List.append_assoc (List.take j (c x')), List.take_append_drop]
  have h2 : A.length * K + j = (flatS c A ++ (c x').take j).length := by
    rw [List.length_append, flatS_len hK, List.length_take, hK]
    omega
  rw [e, h1, h2, sets_mid _ _ _ _ (by rw [List.length_drop, List.length_drop, hK, hK]), flatS_append, flatS_cons, ← hy]
  rw [List.append_assoc, ← List.append_assoc (List.take j (c y)), List.take_append_drop]
/-- The fields of an element from j on, stored. -/
theorem OwnS.tail {α : Type} {c : α → List Value} {K : Nat} {e : TypeId} {w : World} {B : Nat} {xs : List α} {g n cap : Nat} (h : OwnS c K e w B (.slice (some ⟨g, 0, none⟩) n cap) xs) (hK : ∀ x, (c x).length = K) {i j : Nat} {x : α} (y : α) (hx : xs[i]? = some x) (hj : j ≤ K) (hy : (c y).take j = (c x).take j) :
    OwnS c K e (wsets w g (i * K + j) ((c y).drop j)) B (.slice (some ⟨g, 0, none⟩) n cap) (xs.set i y) ∧ w.grownBy (wsets w g (i * K + j) ((c y).drop j)) (some g) := by
  obtain rfl := h.len
  have := owns_sets ((c y).drop j) w _ (i * K + j) h
  refine ⟨?_, this.2⟩
  unfold OwnS
  rw [flatS_tail hK xs i x y j hx hj hy, List.length_set]
  exact this.1
theorem Grw.grown {w w' : World} (h : Grw w w') (r : Option Nat) : w.grownBy w' r := by
  have b := h.below
  obtain ⟨q, os, rfl⟩ := h
  exact ⟨rfl, rfl, rfl, b.size, fun k hk _ => b.block k hk⟩
/-- What is appended. -/
theorem OwnS.join {α : Type} {c : α → List Value} {K : Nat} {e : TypeId} {w w' : World} {B : Nat} {v v' : Value} {xs ys : List α} (h : OwnS c K e w B v xs) (hB : B ≤ w.heap.size) (h1 : w'.ownsRow B e K v' (xs.length + ys.length) (flatS c xs ++ flatS c ys)) (h2 : w.grownBy w' v.ownBlock) :
    OwnS c K e w' B v' (xs ++ ys) ∧ Below B w w' := by
  refine ⟨?_, (Below.refl B w).grown h2 hB (fun k hk => (h.lt k hk).1)⟩
  unfold OwnS
  rw [flatS_append, List.length_append]
  exact h1
end Go.Proofs.Ytfgghffgfefgpaa

namespace Go.Proofs.Ytfgghffgfefgpaa
open Go.RowKit Go.PlainAid Go.Sort
set_option linter.unusedVariables false
theorem modify_app {α : Type} (A B : Array α) (i : Nat) (f : α → α) (h : A.size ≤ i) : (A ++ B).modify i f = A ++ B.modify (i - A.size) f := by
  apply Array.ext
  · simp
  · intro j h1 h2
    rw [Array.getElem_modify]
    by_cases hj : j < A.size
    · rw [if_neg (by omega), Array.getElem_append_left hj, Array.getElem_append_left hj]
    · rw [Array.getElem_append_right (by omega), Array.getElem_append_right (by omega), Array.getElem_modify]
      by_cases e : i = j
      · rw [if_pos e, if_pos (by omega)]
      · rw [if_neg e, if_neg (by omega)]
theorem Grw.set {w w' : World} (h : Grw w w') (a : Addr) (v : Value) (ha : w.heap.size ≤ a.block) : Grw w (w'.setCell a v) := by
  obtain ⟨f, hf⟩ : ∃ f : Obj → Obj, ∀ w : World, w.setCell a v = { w with heap := w.heap.modify a.block f } := ⟨_, fun _ => rfl⟩
  obtain ⟨q, os, rfl⟩ := h
  refine ⟨q, os.modify (a.block - w.heap.size) f, ?_⟩
  rw [hf]
  unfold grow
  have e1 := modify_app (w.drewN q).heap os a.block f ha
  show ({ heap := ((w.drewN q).heap ++ os).modify a.block f, tape := _, drawn := _, os := _, output := _ } : World) = _
  rw [e1]
  rfl
end Go.Proofs.Ytfgghffgfefgpaa

namespace Go.Proofs.Ytfgghffgfefgpaa
open Go.RowKit Go.PlainAid
set_option linter.unusedVariables false
set_option maxRecDepth 20000

/-- The decimal digits, as numbers of bytes. -/
def dgs (n : Nat) : List Int := if n < 10 then [48 + (n : Int)] else dgs (n / 10) ++ [48 + ((n % 10 : Nat) : Int)]
termination_by n
decreasing_by omega
theorem dgs_small {n : Nat} (h : n < 10) : dgs n = [48 + (n : Int)] := by rw [dgs, if_pos h]
theorem dgs_more {n : Nat} (h : 10 ≤ n) : dgs n = dgs (n / 10) ++ [48 + ((n % 10 : Nat) : Int)] := by rw [dgs, if_neg (by omega)]
theorem dgs_bd : ∀ n : Nat, ∀ x ∈ dgs n, 48 ≤ x ∧ x ≤ 57 := by
  intro n
  induction n using Nat.strongRecOn with
  | _ n ih =>
    intro x hx
    by_cases h : n < 10
    · rw [dgs_small h] at hx; simp at hx; omega
    · rw [dgs_more (by omega)] at hx
      rcases List.mem_append.1 hx with h1 | h1
      · exact ih (n / 10) (by omega) x h1
      · simp at h1; omega
theorem dgs_len : ∀ (k n : Nat), n < 10 ^ (k + 1) → 1 ≤ (dgs n).length ∧ (dgs n).length ≤ k + 1
  | 0, n, h => by rw [dgs_small (by simpa using h)]; simp
  | k + 1, n, h => by
    by_cases h1 : n < 10
    · rw [dgs_small h1]; simp
    · have := dgs_len k (n / 10) (by rw [Nat.div_lt_iff_lt_mul (by omega)]; rw [Nat.pow_succ] at h; exact h)
      rw [dgs_more (by omega)]
      simp; omega
theorem strOfNums_append (L M : List Int) : strOfNums L ++ strOfNums M = strOfNums (L ++ M) := by
  apply ByteArray.ext
  simp [strOfNums, ByteArray.data_append]

/-- 'string([]byte{x})'. -/
theorem conv_one (wx : World) (b : Nat) (x : Int) (h0 : 0 ≤ x) (h1 : x ≤ 255) (hb : wx.cell? ⟨b, 0, none⟩ = some (.int .u8 x)) : (convert 22 9 (.slice (some ⟨b, 0, none⟩) 1 1)).run Try.prog wx = .ok (.string (strOfNums [x])) wx := by
  have hB : Bytes wx (some ⟨b, 0, none⟩) [x].length (fun j => [x].getD j 0) := by
    refine ⟨fun k => ?_, fun _ => ⟨b, 0, rfl, fun i hi => ?_⟩⟩
    · rcases k with _ | k <;> simp <;> omega
    · obtain rfl : i = 0 := by simpa using hi
      simpa using hb
  exact conv_own (P := Try.prog) wx 22 9 5 Try.underlying22 Try.underlying5 Try.underlying9 (some ⟨b, 0, none⟩) 1 [x] hB

end Go.Proofs.Ytfgghffgfefgpaa

namespace Go.Proofs.Ytfgghffgfefgpaa
open Go.RowKit Go.PlainAid Go.Proofs.Ytfgghffgfefgpaa.Bt Go.Sort
set_option linter.unusedVariables false
set_option maxRecDepth 20000
/-- The digits of a number, laid ahead of others. -/
def mtF (k : Nat) (L : List Int) : List Int := if h : k = 0 then L else mtF (k / 10) ((48 + ((k % 10 : Nat) : Int)) :: L)
termination_by k
decreasing_by omega
theorem mtF_zero (L : List Int) : mtF 0 L = L := by rw [mtF, dif_pos rfl]
theorem mtF_step {k : Nat} (h : 0 < k) (L : List Int) : mtF k L = mtF (k / 10) ((48 + ((k % 10 : Nat) : Int)) :: L) := by rw [mtF, dif_neg (by omega)]
/-- What markText answers. -/
def mtS (k : Nat) : ByteArray := strOfNums [109] ++ strOfNums (mtF k [])
theorem m_lit : (⟨#[109]⟩ : ByteArray) = strOfNums [109] := by
  apply ByteArray.ext
  simp [strOfNums]
set_option maxHeartbeats 1000000 in
theorem markText_any (n : Nat) (w : World) (h0 : 0 < n) (hn : n ≤ 1000000000000) :
    Calls Try.prog 55 #[.int .i64 n] w fun e w' => e = .returned (.string (mtS n)) ∧ Grw w w' := by
  have hpos : decide ((n : Int) ≤ 0) = false := by simp; omega
  go_enter Try.func55, Try.ntmps55
  go_wp2
  go_loopw [0, 3] (fun p q wr => ∃ (k : Nat) (L : List Int), k ≤ n ∧ p = .int .i64 k ∧ q = .string (strOfNums L) ∧ Hid (mtF k L = mtF n [] ∧ k < 10 ^ (20 - L.length) ∧ L.length ≤ 20) ∧ Hid (Grw w wr)) (fun p _ _ => (intOf p).toNat)
  case atStart => exact ⟨n, [], Nat.le_refl _, rfl, rfl, ⟨rfl, by simp; omega, by simp⟩, Grw.refl _⟩
  case round =>
    obtain ⟨k, L, hk, rfl, rfl, HM, HG⟩ := hrel
    by_cases hlt : 0 < k
    · have hltz : (0 : Int) < (k : Int) := by omega
      have hL : L.length + 1 ≤ 20 := by
        have h1 := HM.out.2.1
        have h2 := HM.out.2.2
        by_cases h3 : L.length = 20
        · rw [h3] at h1
          simp at h1
          omega
        · omega
      have HM2 : Hid (mtF (k / 10) ((48 + (k : Int) % 10) :: L) = mtF n [] ∧ k / 10 < 10 ^ (20 - (((48 + (k : Int) % 10) :: L)).length) ∧ (((48 + (k : Int) % 10) :: L)).length ≤ 20) := by
        have e : ((k % 10 : Nat) : Int) = (k : Int) % 10 := by omega
        refine ⟨by rw [← e, ← mtF_step hlt]; exact HM.out.1, ?_, by simpa using hL⟩
        rw [Nat.div_lt_iff_lt_mul (by omega), List.length_cons]
        have := HM.out.2.1
        rw [show 20 - L.length = (20 - (L.length + 1)) + 1 by omega, Nat.pow_succ] at this
        exact this
      have hcv : ∀ (wx : World) (b : Nat), wx.cell? ⟨b, 0, none⟩ = some (.int .u8 (48 + (k : Int) % 10)) → (convert 22 9 (.slice (some ⟨b, 0, none⟩) 1 1)).run Try.prog wx = .ok (.string (strOfNums [48 + (k : Int) % 10])) wx := fun wx b hb => conv_one wx b _ (by omega) (by omega) hb
      have hcv1 := hcv (wr.alloc (.cells #[.int .u8 (48 + (k : Int) % 10)] 5)) wr.heap.size (by simp)
      have hadd : ∀ wx : World, (Op.stringOp .add (strOfNums [48 + (k : Int) % 10]) (strOfNums L)).run Try.prog wx = .ok (.string (strOfNums [48 + (k : Int) % 10] ++ strOfNums L)) wx := fun wx => run_string_add_sum (P := Try.prog) (w := wx) _ _ (by
        rw [strOfNums_size, strOfNums_size]
        simp; omega)
      rw [strOfNums_append] at hadd
      have hadd' : ∀ wx : World, (Op.stringOp .add (strOfNums [48 + (k : Int) % 10]) (strOfNums L)).run Try.prog wx = .ok (.string (strOfNums ((48 + (k : Int) % 10) :: L))) wx := hadd
      have hw1 : IntKind.i64.wrap ((k : Int) / 10) = (k : Int) / 10 := by rw [IntKind.wrap_i64]; omega
      have htm : (k : Int).tmod 10 = (k : Int) % 10 := Int.tmod_eq_emod_of_nonneg (by omega)
      have htd : (k : Int).tdiv 10 = (k : Int) / 10 := Int.tdiv_eq_ediv_of_nonneg (by omega)
      have hw2 : IntKind.i64.wrap ((k : Int) % 10) = (k : Int) % 10 := by rw [IntKind.wrap_i64]; omega
      have hw3 : IntKind.i64.wrap (48 + (k : Int) % 10) = 48 + (k : Int) % 10 := by rw [IntKind.wrap_i64]; omega
      have hw4 : IntKind.u8.wrap (48 + (k : Int) % 10) = 48 + (k : Int) % 10 := by rw [IntKind.wrap_u8]; omega
      have HG2 : Hid (Grw w (wr.alloc (.cells #[.int .u8 (48 + (k : Int) % 10)] 5))) := HG.out.alloc _
      have hdv : Hid ((k : Int) / 10 = ((k / 10 : Nat) : Int)) := by show _ = _; omega
      have hk2 : Hid (k / 10 < k) := Nat.div_lt_self hlt (by omega)
      generalize ((48 + (k : Int) % 10) :: L) = L2 at HM2 hadd'
      clear hadd HM HG
      go_wp2
      go_roundw
      case rel => exact ⟨k / 10, L2, by omega, by rw [hdv.out], rfl, HM2, HG2⟩
      case measure => simp [intOf]; omega
    · obtain rfl : k = 0 := by omega
      have e0 := HM.out.1
      rw [mtF_zero] at e0
      have E : Hid (mtS n = strOfNums [109] ++ strOfNums L) := by
        show mtS n = _
        unfold mtS
        rw [e0]
      have hadd : ∀ wx : World, (Op.stringOp .add (⟨#[109]⟩ : ByteArray) (strOfNums L)).run Try.prog wx = .ok (.string (strOfNums [109] ++ strOfNums L)) wx := fun wx => by
        rw [m_lit]
        exact run_string_add_sum (P := Try.prog) (w := wx) _ _ (by
          have := HM.out.2.2
          rw [strOfNums_size, strOfNums_size]
          simp; omega)
      generalize strOfNums [109] ++ strOfNums L = R at E hadd
      clear e0 HM
      go_wp2
      go_ret
      exact ⟨by rw [E.out]; rfl, HG.out⟩
theorem mtS_len (k : Nat) (h : k ≤ 1000000000000) : (mtS k).size ≤ 1000 := by
  have : ∀ (m k : Nat) (L : List Int), k < 10 ^ m → (mtF k L).length ≤ L.length + m := by
    intro m
    induction m with
    | zero => intro k L h; simp at h; subst h; rw [mtF_zero]; omega
    | succ m ih =>
      intro k L h
      by_cases h0 : k = 0
      · subst h0; rw [mtF_zero]; omega
      · rw [mtF_step (by omega)]
        have := ih (k / 10) ((48 + ((k % 10 : Nat) : Int)) :: L) (by rw [Nat.div_lt_iff_lt_mul (by omega)]; rw [Nat.pow_succ] at h; exact h)
        rw [List.length_cons] at this
        omega
  have h1 := this 13 k [] (by omega)
  unfold mtS
  simp [ByteArray.size_append, strOfNums_size] at h1 ⊢
  omega
theorem int_wf9 {n : Int} (h0 : 0 ≤ n) (h1 : n ≤ 1000000000000) : (Lit.int .i64 n).wf = true := by
  have : IntKind.i64.min = -9223372036854775808 := by decide
  have : IntKind.i64.max = 9223372036854775807 := by decide
  simp [Lit.wf]
  omega
end Go.Proofs.Ytfgghffgfefgpaa

namespace Go.Proofs.Ytfgghffgfefgpaa
open Go.RowKit Go.PlainAid Go.Proofs.Ytfgghffgfefgpaa.Bt Go.Sort
set_option linter.unusedVariables false
set_option maxRecDepth 20000

set_option maxHeartbeats 1000000 in
theorem segOf_any (mc : ByteArray) (ip po di st un nx wa : Int) (inn out : ByteArray) (fin : Bool) (sq fl : Int) (da : ByteArray) (w : World) :
    Calls Try.prog 79 #[.agg #[.string mc, .int .i64 ip, .int .i64 po, .int .i64 di, .int .i64 st, .int .i64 un, .int .i64 nx, .int .i64 wa, .string inn, .string out, .bool fin], .int .i64 sq, .int .i64 fl, .string da] w fun e w' => e = .returned (.agg #[.int .i64 80, .int .i64 po, .int .i64 sq, .int .i64 wa, .int .i64 fl, .int .i64 1000, .string da]) ∧ Grw w w' := by
  go_enter Try.func79, Try.ntmps79
  go_wp2
  (try simp only [Exit.inBlock, Exit.then])
  first
    | (go_ret; exact ⟨rfl, by first | exact ((Grw.refl _).alloc _).alloc _ | exact (((Grw.refl _).alloc _).alloc _).alloc _⟩)
    | (refine bodyPost_ret (v := .agg #[.int .i64 80, .int .i64 po, .int .i64 sq, .int .i64 wa, .int .i64 fl, .int .i64 1000, .string da]) (by simp [results, Try.results79, go_sem]; try rfl) rfl ?_
       exact ⟨rfl, by first | exact ((Grw.refl _).alloc _).alloc _ | exact (((Grw.refl _).alloc _).alloc _).alloc _⟩)

set_option maxHeartbeats 1000000 in
theorem l10Reply_any (mc : ByteArray) (ip po di st un nx wa : Int) (inn out : ByteArray) (fin : Bool) (sq fl : Int) (da : ByteArray) (w : World) :
    Calls Try.prog 77 #[.agg #[.string mc, .int .i64 ip, .int .i64 po, .int .i64 di, .int .i64 st, .int .i64 un, .int .i64 nx, .int .i64 wa, .string inn, .string out, .bool fin], .int .i64 sq, .int .i64 fl, .string da] w fun e w' => e = .returned (.agg #[.int .i64 80, .int .i64 po, .int .i64 sq, .int .i64 wa, .int .i64 fl, .int .i64 1000, .string da]) ∧ Grw w w' := by
  go_enter Try.func77, Try.ntmps77
  go_wp2
  (try simp only [Exit.inBlock, Exit.then])
  first
    | (go_ret; exact ⟨rfl, by first | exact ((Grw.refl _).alloc _).alloc _ | exact (((Grw.refl _).alloc _).alloc _).alloc _⟩)
    | (refine bodyPost_ret (v := .agg #[.int .i64 80, .int .i64 po, .int .i64 sq, .int .i64 wa, .int .i64 fl, .int .i64 1000, .string da]) (by simp [results, Try.results77, go_sem]; try rfl) rfl ?_
       exact ⟨rfl, by first | exact ((Grw.refl _).alloc _).alloc _ | exact (((Grw.refl _).alloc _).alloc _).alloc _⟩)

set_option maxHeartbeats 1000000 in
theorem greeting_any (mc : ByteArray) (ip po di st un nx wa : Int) (inn out : ByteArray) (fin : Bool) (w : World) :
    Calls Try.prog 42 #[.agg #[.string mc, .int .i64 ip, .int .i64 po, .int .i64 di, .int .i64 st, .int .i64 un, .int .i64 nx, .int .i64 wa, .string inn, .string out, .bool fin]] w fun e w' => e = .returned (.agg #[.int .i64 80, .int .i64 po, .int .i64 un, .int .i64 wa, .int .i64 18, .int .i64 1000, .string ⟨#[]⟩]) ∧ Grw w w' := by
  have T : Hid (∀ w, Calls Try.prog 79 #[.agg #[.string mc, .int .i64 ip, .int .i64 po, .int .i64 di, .int .i64 st, .int .i64 un, .int .i64 nx, .int .i64 wa, .string inn, .string out, .bool fin], .int .i64 un, .int .i64 18, .string ⟨#[]⟩] w fun e w' => e = .returned (.agg #[.int .i64 80, .int .i64 po, .int .i64 un, .int .i64 wa, .int .i64 18, .int .i64 1000, .string ⟨#[]⟩]) ∧ Grw w w') := fun w => segOf_any mc ip po di st un nx wa inn out fin un 18 ⟨#[]⟩ w
  go_enter Try.func42, Try.ntmps42
  go_wp2_with fail
  refine (T.out _).mono ?_
  rintro e w1 ⟨rfl, g1⟩
  have z0 : w1.cell? ⟨w.heap.size + 1, 0, none⟩ = some (.int .i64 0) := g1.keep (by simp [go_sem])
  have f0 : w1.frozen? ⟨w.heap.size + 1, 0, none⟩ = false := bthaw g1.below (a := ⟨w.heap.size + 1, 0, none⟩) (v := .int .i64 0) (by simp [go_sem]) (by simp [go_sem])
  have z1 : w1.cell? ⟨w.heap.size + 1, 1, none⟩ = some (.int .i64 0) := g1.keep (by simp [go_sem])
  have f1 : w1.frozen? ⟨w.heap.size + 1, 1, none⟩ = false := bthaw g1.below (a := ⟨w.heap.size + 1, 1, none⟩) (v := .int .i64 0) (by simp [go_sem]) (by simp [go_sem])
  have z2 : w1.cell? ⟨w.heap.size + 1, 2, none⟩ = some (.int .i64 0) := g1.keep (by simp [go_sem])
  have f2 : w1.frozen? ⟨w.heap.size + 1, 2, none⟩ = false := bthaw g1.below (a := ⟨w.heap.size + 1, 2, none⟩) (v := .int .i64 0) (by simp [go_sem]) (by simp [go_sem])
  have z3 : w1.cell? ⟨w.heap.size + 1, 3, none⟩ = some (.int .i64 0) := g1.keep (by simp [go_sem])
  have f3 : w1.frozen? ⟨w.heap.size + 1, 3, none⟩ = false := bthaw g1.below (a := ⟨w.heap.size + 1, 3, none⟩) (v := .int .i64 0) (by simp [go_sem]) (by simp [go_sem])
  have z4 : w1.cell? ⟨w.heap.size + 1, 4, none⟩ = some (.int .i64 0) := g1.keep (by simp [go_sem])
  have f4 : w1.frozen? ⟨w.heap.size + 1, 4, none⟩ = false := bthaw g1.below (a := ⟨w.heap.size + 1, 4, none⟩) (v := .int .i64 0) (by simp [go_sem]) (by simp [go_sem])
  have z5 : w1.cell? ⟨w.heap.size + 1, 5, none⟩ = some (.int .i64 0) := g1.keep (by simp [go_sem])
  have f5 : w1.frozen? ⟨w.heap.size + 1, 5, none⟩ = false := bthaw g1.below (a := ⟨w.heap.size + 1, 5, none⟩) (v := .int .i64 0) (by simp [go_sem]) (by simp [go_sem])
  have z6 : w1.cell? ⟨w.heap.size + 1, 6, none⟩ = some (.string ⟨#[]⟩) := g1.keep (by simp [go_sem])
  have f6 : w1.frozen? ⟨w.heap.size + 1, 6, none⟩ = false := bthaw g1.below (a := ⟨w.heap.size + 1, 6, none⟩) (v := .string ⟨#[]⟩) (by simp [go_sem]) (by simp [go_sem])
  have G1 : Hid (Grw w w1) := (((Grw.refl _).alloc _).alloc _).trans g1
  have hz : w.heap.size < w1.heap.size := by have := g1.below.size; simp at this; omega
  clear g1 T
  go_wp2
  (try simp only [Exit.inBlock, Exit.then])
  refine bodyPost_ret (v := .agg #[.int .i64 80, .int .i64 po, .int .i64 un, .int .i64 wa, .int .i64 18, .int .i64 1000, .string ⟨#[]⟩]) (by simp [results, Try.results42, go_sem, z0, z1, z2, z3, z4, z5, z6]; try rfl) rfl ?_
  exact ⟨rfl, ((((((G1.out.set _ _ (Nat.le_succ _)).set _ _ (Nat.le_succ _)).set _ _ (Nat.le_succ _)).set _ _ (Nat.le_succ _)).set _ _ (Nat.le_succ _)).set _ _ (Nat.le_succ _)).set _ _ (Nat.le_succ _)⟩

set_option maxHeartbeats 1000000 in
theorem acking_any (mc : ByteArray) (ip po di st un nx wa : Int) (inn out : ByteArray) (fin : Bool) (w : World) :
    Calls Try.prog 87 #[.agg #[.string mc, .int .i64 ip, .int .i64 po, .int .i64 di, .int .i64 st, .int .i64 un, .int .i64 nx, .int .i64 wa, .string inn, .string out, .bool fin]] w fun e w' => e = .returned (.agg #[.int .i64 80, .int .i64 po, .int .i64 nx, .int .i64 wa, .int .i64 16, .int .i64 1000, .string ⟨#[]⟩]) ∧ Grw w w' := by
  have T : Hid (∀ w, Calls Try.prog 79 #[.agg #[.string mc, .int .i64 ip, .int .i64 po, .int .i64 di, .int .i64 st, .int .i64 un, .int .i64 nx, .int .i64 wa, .string inn, .string out, .bool fin], .int .i64 nx, .int .i64 16, .string ⟨#[]⟩] w fun e w' => e = .returned (.agg #[.int .i64 80, .int .i64 po, .int .i64 nx, .int .i64 wa, .int .i64 16, .int .i64 1000, .string ⟨#[]⟩]) ∧ Grw w w') := fun w => segOf_any mc ip po di st un nx wa inn out fin nx 16 ⟨#[]⟩ w
  go_enter Try.func87, Try.ntmps87
  go_wp2_with fail
  refine (T.out _).mono ?_
  rintro e w1 ⟨rfl, g1⟩
  have z0 : w1.cell? ⟨w.heap.size + 1, 0, none⟩ = some (.int .i64 0) := g1.keep (by simp [go_sem])
  have f0 : w1.frozen? ⟨w.heap.size + 1, 0, none⟩ = false := bthaw g1.below (a := ⟨w.heap.size + 1, 0, none⟩) (v := .int .i64 0) (by simp [go_sem]) (by simp [go_sem])
  have z1 : w1.cell? ⟨w.heap.size + 1, 1, none⟩ = some (.int .i64 0) := g1.keep (by simp [go_sem])
  have f1 : w1.frozen? ⟨w.heap.size + 1, 1, none⟩ = false := bthaw g1.below (a := ⟨w.heap.size + 1, 1, none⟩) (v := .int .i64 0) (by simp [go_sem]) (by simp [go_sem])
  have z2 : w1.cell? ⟨w.heap.size + 1, 2, none⟩ = some (.int .i64 0) := g1.keep (by simp [go_sem])
  have f2 : w1.frozen? ⟨w.heap.size + 1, 2, none⟩ = false := bthaw g1.below (a := ⟨w.heap.size + 1, 2, none⟩) (v := .int .i64 0) (by simp [go_sem]) (by simp [go_sem])
  have z3 : w1.cell? ⟨w.heap.size + 1, 3, none⟩ = some (.int .i64 0) := g1.keep (by simp [go_sem])
  have f3 : w1.frozen? ⟨w.heap.size + 1, 3, none⟩ = false := bthaw g1.below (a := ⟨w.heap.size + 1, 3, none⟩) (v := .int .i64 0) (by simp [go_sem]) (by simp [go_sem])
  have z4 : w1.cell? ⟨w.heap.size + 1, 4, none⟩ = some (.int .i64 0) := g1.keep (by simp [go_sem])
  have f4 : w1.frozen? ⟨w.heap.size + 1, 4, none⟩ = false := bthaw g1.below (a := ⟨w.heap.size + 1, 4, none⟩) (v := .int .i64 0) (by simp [go_sem]) (by simp [go_sem])
  have z5 : w1.cell? ⟨w.heap.size + 1, 5, none⟩ = some (.int .i64 0) := g1.keep (by simp [go_sem])
  have f5 : w1.frozen? ⟨w.heap.size + 1, 5, none⟩ = false := bthaw g1.below (a := ⟨w.heap.size + 1, 5, none⟩) (v := .int .i64 0) (by simp [go_sem]) (by simp [go_sem])
  have z6 : w1.cell? ⟨w.heap.size + 1, 6, none⟩ = some (.string ⟨#[]⟩) := g1.keep (by simp [go_sem])
  have f6 : w1.frozen? ⟨w.heap.size + 1, 6, none⟩ = false := bthaw g1.below (a := ⟨w.heap.size + 1, 6, none⟩) (v := .string ⟨#[]⟩) (by simp [go_sem]) (by simp [go_sem])
  have G1 : Hid (Grw w w1) := (((Grw.refl _).alloc _).alloc _).trans g1
  have hz : w.heap.size < w1.heap.size := by have := g1.below.size; simp at this; omega
  clear g1 T
  go_wp2
  (try simp only [Exit.inBlock, Exit.then])
  refine bodyPost_ret (v := .agg #[.int .i64 80, .int .i64 po, .int .i64 nx, .int .i64 wa, .int .i64 16, .int .i64 1000, .string ⟨#[]⟩]) (by simp [results, Try.results87, go_sem, z0, z1, z2, z3, z4, z5, z6]; try rfl) rfl ?_
  exact ⟨rfl, ((((((G1.out.set _ _ (Nat.le_succ _)).set _ _ (Nat.le_succ _)).set _ _ (Nat.le_succ _)).set _ _ (Nat.le_succ _)).set _ _ (Nat.le_succ _)).set _ _ (Nat.le_succ _)).set _ _ (Nat.le_succ _)⟩

/-- The k-th piece; the first k; all of them, and an end. -/
def pcS (po wa sq : Int) (t : ByteArray) (k : Nat) : SegV := ⟨80, po, sqN (sq + 200 * (k : Int)), wa, 24, 1000, t.extract (200 * k) (min (200 * k + 200) t.size)⟩
def pcL (po wa sq : Int) (t : ByteArray) (k : Nat) : List SegV := (List.range k).map (pcS po wa sq t)
def pcN (n : Nat) : Nat := (n + 199) / 200
def puL (po wa sq : Int) (t : ByteArray) (fin : Bool) : List SegV := pcL po wa sq t (pcN t.size) ++ if fin = true then [⟨80, po, sqN (sq + (t.size : Int)), wa, 17, 1000, ⟨#[]⟩⟩] else []
theorem pcL_len (po wa sq : Int) (t : ByteArray) (k : Nat) : (pcL po wa sq t k).length = k := by simp [pcL]
theorem pcL_more (po wa sq : Int) (t : ByteArray) (k : Nat) : pcL po wa sq t (k + 1) = pcL po wa sq t k ++ [pcS po wa sq t k] := by unfold pcL; rw [List.range_succ, List.map_append]; rfl
theorem puL_len (po wa sq : Int) (t : ByteArray) (fin : Bool) (h : t.size ≤ 300) : (puL po wa sq t fin).length ≤ 3 := by
  unfold puL pcN
  rw [List.length_append, pcL_len]
  split <;> simp <;> omega
theorem wf64 {n : Int} (h0 : 0 ≤ n) (h1 : n ≤ 4294967295) : (Lit.int .i64 n).wf = true := int_wf9 h0 (by omega)
theorem sg_ok {po sq wa fl : Int} {da : ByteArray} (hp : 0 ≤ po ∧ po ≤ 65535) (hs : 0 ≤ sq ∧ sq ≤ 4294967295) (hw : 0 ≤ wa ∧ wa ≤ 4294967295) (hf : 0 ≤ fl ∧ fl ≤ 31) (hd : da.size ≤ 300) : SgRok ⟨80, po, sq, wa, fl, 1000, da⟩ := by
  have a0 : (Lit.int .i64 80).wf = true := wf64 (by decide) (by decide)
  have a1 : (Lit.int .i64 po).wf = true := wf64 hp.1 (by omega)
  have a2 : (Lit.int .i64 sq).wf = true := wf64 hs.1 hs.2
  have a3 : (Lit.int .i64 wa).wf = true := wf64 hw.1 hw.2
  have a4 : (Lit.int .i64 fl).wf = true := wf64 hf.1 (by omega)
  have a5 : (Lit.int .i64 1000).wf = true := wf64 (by decide) (by decide)
  have a6 : da.size ≤ maxLen := by unfold maxLen; omega
  exact ⟨a0, a1, a2, a3, a4, a5, a6⟩
theorem puL_ok (po wa sq : Int) (t : ByteArray) (fin : Bool) (h : t.size ≤ 300) (hp : 0 ≤ po ∧ po ≤ 65535) (hw : 0 ≤ wa ∧ wa ≤ 4294967295) : ∀ x, x ∈ puL po wa sq t fin → SgRok x := by
  intro x hx
  unfold puL pcL at hx
  rw [List.mem_append] at hx
  rcases hx with hx | hx
  · obtain ⟨k, _, rfl⟩ := List.mem_map.1 hx
    have := sqN_bd (sq + 200 * (k : Int))
    have hz : (t.extract (200 * k) (min (200 * k + 200) t.size)).size ≤ 300 := by rw [ByteArray.size_extract]; omega
    exact sg_ok hp this hw ⟨by decide, by decide⟩ hz
  · split at hx
    · simp at hx
      subst hx
      have := sqN_bd (sq + (t.size : Int))
      exact sg_ok hp this hw ⟨by decide, by decide⟩ (Nat.zero_le 300)
    · simp at hx
theorem one7 (ys : List SegV) : ∀ u ∈ flatS sgG ys, u.oneCell' = true := by
  intro u hu
  unfold flatS at hu
  rw [List.mem_flatMap] at hu
  obtain ⟨f, _, hf⟩ := hu
  simp [sgG] at hf
  rcases hf with rfl | rfl | rfl | rfl | rfl | rfl | rfl <;> rfl
/-- 'append(row, ys...)'. -/
theorem wpl_segs (w : World) {ops : Array Oper} {rest : List Oper} {o : Oper} {a : Act} {Q : Exit → Act → World → Prop} (hgd : o.guard = none) (s x : Operand)
    (ho : o.op = .call { callee := .builtin .append, args := #[s, x], argTypes := #[29, 29] })
    (B : Nat) (v : Value) (L ys : List SegV) (hs : a.eval s = v) (hown : OwnS sgG 7 27 w B v L)
    (g off m c : Nat) (hm : ys.length = m) (hx : a.eval x = .slice (some ⟨g, off, none⟩) m c) (hc : ∀ j u, (flatS sgG ys)[j]? = some u → w.cell? ⟨g, off + j, none⟩ = some u)
    (hlen : L.length + m ≤ 100000) (hB : B ≤ w.heap.size)
    (h : ∀ v' w', Hid (OwnS sgG 7 27 w' B v' (L ++ ys) ∧ Below B w w') → w.grownBy w' v.ownBlock → wpList Try.prog ops Q rest (a.put o.dst v') w') : wpList Try.prog ops Q (o :: rest) a w := by
  obtain ⟨i0, hi, hz0, hz1, hz2⟩ := info_parts infoSegment
  refine wpList_append_own w hgd s x 29 ho B 27 i0 (.agg #[.int .i64 0, .int .i64 0, .int .i64 0, .int .i64 0, .int .i64 0, .int .i64 0, .string ⟨#[]⟩]) 7 64 Try.underlying29 hi hz0 hz1 hz2 rfl (by decide) v L.length (flatS sgG L) hs hown ⟨g, off, none⟩ m c (flatS sgG ys) hx (by rw [flatS_len sgG_len, hm]) ?_
    (one7 ys) (by unfold maxLen; omega) (by omega) hB ?_
  · intro j u hu
    rw [addn]
    exact hc j u hu
  · intro v' w' h2 h3 _
    subst hm
    exact h v' w' (hown.join hB h2 h3) h3
theorem seg_new {w : World} (sp dp sq ac fl wi : Int) (da : ByteArray) (T : TypeId) : ∀ j u, (flatS sgG [⟨sp, dp, sq, ac, fl, wi, da⟩])[j]? = some u → (w.alloc (.cells #[.int .i64 sp, .int .i64 dp, .int .i64 sq, .int .i64 ac, .int .i64 fl, .int .i64 wi, .string da] T)).cell? ⟨w.heap.size, 0 + j, none⟩ = some u := by
  intro j u hu
  rw [flatS_one] at hu
  rw [Nat.zero_add]
  match j, hu with
  | 0, hu => cases hu; simp
  | 1, hu => cases hu; simp
  | 2, hu => cases hu; simp
  | 3, hu => cases hu; simp
  | 4, hu => cases hu; simp
  | 5, hu => cases hu; simp
  | 6, hu => cases hu; simp
end Go.Proofs.Ytfgghffgfefgpaa

namespace Go.Proofs.Ytfgghffgfefgpaa
open Go.RowKit Go.PlainAid Go.Proofs.Ytfgghffgfefgpaa.Bt Go.Sort
set_option linter.unusedVariables false
set_option maxRecDepth 20000

theorem ext_ext (t : ByteArray) (a b c : Nat) (h : a + b ≤ t.size) (hc : c = a + b) : (t.extract a t.size).extract 0 b = t.extract a c := by
  subst hc
  apply ByteArray.ext
  simp only [ByteArray.data_extract, Array.extract_extract]
  congr 1
  · omega
theorem ext_tail (t : ByteArray) (a b c d : Nat) (h : a + b ≤ t.size) (hd : d = a + b) (hc : c = (t.extract a t.size).size) : (t.extract a t.size).extract b c = t.extract d t.size := by
  subst hc hd
  apply ByteArray.ext
  simp only [ByteArray.data_extract, Array.extract_extract, ByteArray.size_extract]
  congr 1
  omega
theorem ext_all (t : ByteArray) : t.extract 0 t.size = t := by
  apply ByteArray.ext
  simp only [ByteArray.data_extract]
  exact Array.extract_size
/-- The last one, if there is an end. -/
theorem puL_fin (po wa sq : Int) (t : ByteArray) : puL po wa sq t true = pcL po wa sq t (pcN t.size) ++ [⟨80, po, sqN (sq + (t.size : Int)), wa, 17, 1000, ⟨#[]⟩⟩] := by unfold puL; rw [if_pos rfl]
theorem puL_open (po wa sq : Int) (t : ByteArray) : puL po wa sq t false = pcL po wa sq t (pcN t.size) := by unfold puL; rw [if_neg (by simp), List.append_nil]
structure KpC (w wx : World) : Prop where
  out : Below w.heap.size w wx
/-- What a region reads: a connection in its box. -/
def CnS (q : Nat) (mc : ByteArray) (ip po di st un nx wa : Int) (inn out : ByteArray) (fin : Bool) (W wx : World) : Prop := wx.cell? ⟨q, 0, none⟩ = some (.string mc) ∧ wx.cell? ⟨q, 1, none⟩ = some (.int .i64 ip) ∧ wx.cell? ⟨q, 2, none⟩ = some (.int .i64 po) ∧ wx.cell? ⟨q, 3, none⟩ = some (.int .i64 di) ∧ wx.cell? ⟨q, 4, none⟩ = some (.int .i64 st) ∧ wx.cell? ⟨q, 5, none⟩ = some (.int .i64 un) ∧ wx.cell? ⟨q, 6, none⟩ = some (.int .i64 nx) ∧ wx.cell? ⟨q, 7, none⟩ = some (.int .i64 wa) ∧ wx.cell? ⟨q, 8, none⟩ = some (.string inn) ∧ wx.cell? ⟨q, 9, none⟩ = some (.string out) ∧ wx.cell? ⟨q, 10, none⟩ = some (.bool fin) ∧ KpC W wx
theorem CnS.below {q : Nat} {mc : ByteArray} {ip po di st un nx wa : Int} {inn out : ByteArray} {fin : Bool} {W wx wy : World} (h : CnS q mc ip po di st un nx wa inn out fin W wx) (hb : Below wx.heap.size wx wy) : CnS q mc ip po di st un nx wa inn out fin W wy :=
  ⟨bkeep hb h.1, bkeep hb h.2.1, bkeep hb h.2.2.1, bkeep hb h.2.2.2.1, bkeep hb h.2.2.2.2.1, bkeep hb h.2.2.2.2.2.1, bkeep hb h.2.2.2.2.2.2.1, bkeep hb h.2.2.2.2.2.2.2.1, bkeep hb h.2.2.2.2.2.2.2.2.1, bkeep hb h.2.2.2.2.2.2.2.2.2.1, bkeep hb h.2.2.2.2.2.2.2.2.2.2.1, ⟨h.2.2.2.2.2.2.2.2.2.2.2.out.trans (hb.mono h.2.2.2.2.2.2.2.2.2.2.2.out.size)⟩⟩
theorem CnS.row {q : Nat} {r : Option Nat} {mc : ByteArray} {ip po di st un nx wa : Int} {inn out : ByteArray} {fin : Bool} {W wx wy : World} (h : CnS q mc ip po di st un nx wa inn out fin W wx) (hg : wx.grownBy wy r) (hb : Below W.heap.size wx wy) (hne : some q ≠ r) : CnS q mc ip po di st un nx wa inn out fin W wy :=
  ⟨hg.cell (a := ⟨q, 0, none⟩) h.1 hne, hg.cell (a := ⟨q, 1, none⟩) h.2.1 hne, hg.cell (a := ⟨q, 2, none⟩) h.2.2.1 hne, hg.cell (a := ⟨q, 3, none⟩) h.2.2.2.1 hne, hg.cell (a := ⟨q, 4, none⟩) h.2.2.2.2.1 hne, hg.cell (a := ⟨q, 5, none⟩) h.2.2.2.2.2.1 hne, hg.cell (a := ⟨q, 6, none⟩) h.2.2.2.2.2.2.1 hne, hg.cell (a := ⟨q, 7, none⟩) h.2.2.2.2.2.2.2.1 hne, hg.cell (a := ⟨q, 8, none⟩) h.2.2.2.2.2.2.2.2.1 hne, hg.cell (a := ⟨q, 9, none⟩) h.2.2.2.2.2.2.2.2.2.1 hne, hg.cell (a := ⟨q, 10, none⟩) h.2.2.2.2.2.2.2.2.2.2.1 hne, ⟨h.2.2.2.2.2.2.2.2.2.2.2.out.trans hb⟩⟩
/-- 'append(row, ys...)' within a region. -/
theorem step_segs (w : World) {ops : Array Oper} {o : Oper} {a : Act} {K : Act → World → Prop} {Q : Exit → Act → World → Prop} {E : Prop} (hgd : o.guard = none) (s x : Operand)
    (ho : o.op = .call { callee := .builtin .append, args := #[s, x], argTypes := #[29, 29] })
    (B : Nat) (v : Value) (L : List SegV) (hs : a.eval s = v) (hown : OwnS sgG 7 27 w B v L)
    (g off m c : Nat) (M : List SegV) (hx : a.eval x = .slice (some ⟨g, off, none⟩) m c) (hM : M.length = m) (hn : ∀ j u, (flatS sgG M)[j]? = some u → w.cell? ⟨g, off + j, none⟩ = some u)
    (hlen : L.length + m ≤ 100000) (hB : B ≤ w.heap.size)
    (h : ∀ v' w', Hid (OwnS sgG 7 27 w' B v' (L ++ M) ∧ Below B w w' ∧ w.grownBy w' v.ownBlock) → K (a.put o.dst v') w') :
    if Region.wanted o (yielded ops a.tmps) = true then Oper.wp Try.prog o a w K Q else E := by
  have hw : Region.wanted o (yielded ops a.tmps) = true := by simp [Region.wanted, hgd]
  rw [if_pos hw]
  obtain ⟨i0, hi, hz0, hz1, hz2⟩ := info_parts infoSegment
  refine wp_append_own w s x 29 ho B 27 i0 (.agg #[.int .i64 0, .int .i64 0, .int .i64 0, .int .i64 0, .int .i64 0, .int .i64 0, .string ⟨#[]⟩]) 7 64 Try.underlying29 hi hz0 hz1 hz2 rfl (by decide) v L.length (flatS sgG L) hs hown ⟨g, off, none⟩ m c (flatS sgG M) hx (by rw [flatS_len sgG_len, hM]) (fun j u hu => by rw [addn]; exact hn j u hu)
    (one7 M) (by unfold maxLen; omega) (by omega) hB ?_
  intro v' w' h2 h3 _
  subst hM
  have hj := hown.join hB h2 h3
  exact h v' w' ⟨hj.1, hj.2, h3⟩

set_option maxHeartbeats 4000000 in
theorem outst_any (mc : ByteArray) (ip po di st un nx wa : Int) (inn out : ByteArray) (fin : Bool) (w : World) (ho : out.size ≤ 300) (hu : 0 ≤ un ∧ un ≤ 4294967295) :
    Calls Try.prog 43 #[.agg #[.string mc, .int .i64 ip, .int .i64 po, .int .i64 di, .int .i64 st, .int .i64 un, .int .i64 nx, .int .i64 wa, .string inn, .string out, .bool fin]] w fun e w' => ∃ v, e = .returned v ∧ OwnS sgG 7 27 w' w.heap.size v (puL po wa un out fin) ∧ Below w.heap.size w w' := by
  obtain ⟨hu0, hu1⟩ := hu
  have SG : Hid (∀ (sq fl : Int) (da : ByteArray) (w : World), Calls Try.prog 79 #[.agg #[.string mc, .int .i64 ip, .int .i64 po, .int .i64 di, .int .i64 st, .int .i64 un, .int .i64 nx, .int .i64 wa, .string inn, .string out, .bool fin], .int .i64 sq, .int .i64 fl, .string da] w fun e w' => e = .returned (.agg #[.int .i64 80, .int .i64 po, .int .i64 sq, .int .i64 wa, .int .i64 fl, .int .i64 1000, .string da]) ∧ Grw w w') := fun sq fl da w => segOf_any mc ip po di st un nx wa inn out fin sq fl da w
  have SQ : Hid (∀ (b : Int) (w : World), 0 ≤ b → b ≤ 600 → Calls Try.prog 40 #[.int .i64 un, .int .i64 b] w fun e w' => e = .returned (.int .i64 (sqN (un + b))) ∧ w' = w) := fun b w hb hb2 => seqAfter_any un b w hu0 (by omega) hb (by omega)
  have CC : Hid (CnS w.heap.size mc ip po di st un nx wa inn out fin w (w.alloc (.cells #[.string mc, .int .i64 ip, .int .i64 po, .int .i64 di, .int .i64 st, .int .i64 un, .int .i64 nx, .int .i64 wa, .string inn, .string out, .bool fin] 24))) := ⟨by simp [go_sem], by simp [go_sem], by simp [go_sem], by simp [go_sem], by simp [go_sem], by simp [go_sem], by simp [go_sem], by simp [go_sem], by simp [go_sem], by simp [go_sem], by simp [go_sem], ⟨(Below.refl _ _).alloc (Nat.le_refl _) _⟩⟩
  have CB : Hid (∀ wx wy, Below wx.heap.size wx wy → CnS w.heap.size mc ip po di st un nx wa inn out fin w wx → CnS w.heap.size mc ip po di st un nx wa inn out fin w wy) := fun wx wy hb h => h.below hb
  go_enter Try.func43, Try.ntmps43
  go_wp2
  go_loopw [3, 4] (fun v i wr => ∃ k : Nat, k ≤ pcN out.size ∧ i = .int .i64 (200 * k : Nat) ∧ Hid (OwnS sgG 7 27 wr w.heap.size v (pcL po wa un out k) ∧ v.ownBlock ≠ some w.heap.size ∧ CnS w.heap.size mc ip po di st un nx wa inn out fin w wr)) (fun _ i _ => 600 - (intOf i).toNat)
  case atStart => exact ⟨0, Nat.zero_le _, rfl, OwnS.nil _ _, (by simp [Value.ownBlock]), CC.out⟩
  case round =>
    obtain ⟨k, hk, rfl, X⟩ := hrel
    have hk2 : k ≤ 2 := by unfold pcN at hk; omega
    have HS9 := X.out.2.2
    have q0 : wr.cell? ⟨w.heap.size, 0, none⟩ = some (.string mc) := HS9.1
    have q1 : wr.cell? ⟨w.heap.size, 1, none⟩ = some (.int .i64 ip) := HS9.2.1
    have q2 : wr.cell? ⟨w.heap.size, 2, none⟩ = some (.int .i64 po) := HS9.2.2.1
    have q3 : wr.cell? ⟨w.heap.size, 3, none⟩ = some (.int .i64 di) := HS9.2.2.2.1
    have q4 : wr.cell? ⟨w.heap.size, 4, none⟩ = some (.int .i64 st) := HS9.2.2.2.2.1
    have q5 : wr.cell? ⟨w.heap.size, 5, none⟩ = some (.int .i64 un) := HS9.2.2.2.2.2.1
    have q6 : wr.cell? ⟨w.heap.size, 6, none⟩ = some (.int .i64 nx) := HS9.2.2.2.2.2.2.1
    have q7 : wr.cell? ⟨w.heap.size, 7, none⟩ = some (.int .i64 wa) := HS9.2.2.2.2.2.2.2.1
    have q8 : wr.cell? ⟨w.heap.size, 8, none⟩ = some (.string inn) := HS9.2.2.2.2.2.2.2.2.1
    have q9 : wr.cell? ⟨w.heap.size, 9, none⟩ = some (.string out) := HS9.2.2.2.2.2.2.2.2.2.1
    have q10 : wr.cell? ⟨w.heap.size, 10, none⟩ = some (.bool fin) := HS9.2.2.2.2.2.2.2.2.2.2.1
    by_cases hlt : 200 * k < out.size
    · have hltz : ((200 * k : Nat) : Int) < (out.size : Int) := by omega
      have hx2 : (200 * (k : Int) + 200).toNat = 200 * k + 200 := by omega
      have hkn : k + 1 ≤ pcN out.size := by unfold pcN; omega
      have PL : Hid (pcL po wa un out (k + 1) = pcL po wa un out k ++ [pcS po wa un out k]) := pcL_more _ _ _ _ _
      have PN : Hid ((pcL po wa un out k).length = k) := pcL_len _ _ _ _ _
      clear HS9
      by_cases hq : 200 * k + 200 < out.size
      · have hqz : 200 * (k : Int) + 200 < (out.size : Int) := by omega
        have PS : Hid (pcS po wa un out k = ⟨80, po, sqN (un + 200 * (k : Int)), wa, 24, 1000, out.extract (200 * k) (200 * k + 200)⟩) := by show _ = _; unfold pcS; rw [Nat.min_eq_left (by omega)]
        go_wp2_with fail
        have SS : Hid (CnS w.heap.size mc ip po di st un nx wa inn out fin w wr.drew) := X.out.2.2.below ((Below.refl _ _).drew)
        have S1 : Hid (∀ w, Calls Try.prog 40 #[.int .i64 un, .int .i64 (200 * (k : Int))] w fun e w' => e = .returned (.int .i64 (sqN (un + 200 * (k : Int)))) ∧ w' = w) := fun w => SQ.out _ w (by omega) (by omega)
        have S2 : Hid (∀ w, Calls Try.prog 79 #[.agg #[.string mc, .int .i64 ip, .int .i64 po, .int .i64 di, .int .i64 st, .int .i64 un, .int .i64 nx, .int .i64 wa, .string inn, .string out, .bool fin], .int .i64 (sqN (un + 200 * (k : Int))), .int .i64 24, .string (out.extract (200 * k) (200 * k + 200))] w fun e w' => e = .returned (.agg #[.int .i64 80, .int .i64 po, .int .i64 (sqN (un + 200 * (k : Int))), .int .i64 wa, .int .i64 24, .int .i64 1000, .string (out.extract (200 * k) (200 * k + 200))]) ∧ Grw w w') := fun w => SG.out _ _ _ w
        generalize sqN (un + 200 * (k : Int)) = SQN at S1 S2 PS
        generalize out.extract (200 * k) (200 * k + 200) = DA at S2 PS ⊢
        have OW : Hid (∀ w5 o, Below wr.drew.heap.size wr.drew w5 → OwnS sgG 7 27 (w5.alloc o) w.heap.size u3 (pcL po wa un out k)) := fun w5 o b5 => (OwnS.now (w := wr.drew) X.out.1 b5).now ((Below.refl _ _).alloc (Nat.le_refl _) o)
        have SR : Hid (∀ wx wy, wx.grownBy wy u3.ownBlock → Below w.heap.size wx wy → CnS w.heap.size mc ip po di st un nx wa inn out fin w wx → CnS w.heap.size mc ip po di st un nx wa inn out fin w wy) := fun wx wy hg hb h => h.row hg hb (fun e => X.out.2.1 e.symm)
        have SZ : Hid (∀ wx, CnS w.heap.size mc ip po di st un nx wa inn out fin w wx → w.heap.size ≤ wx.heap.size) := fun wx h => h.2.2.2.2.2.2.2.2.2.2.2.out.size
        have SA : Hid (∀ wx o, CnS w.heap.size mc ip po di st un nx wa inn out fin w wx → CnS w.heap.size mc ip po di st un nx wa inn out fin w (wx.alloc o)) := fun wx o h => h.below ((Below.refl _ _).alloc (Nat.le_refl _) o)
        clear q0 q1 q2 q3 q4 q5 q6 q7 q8 q9 q10
        go_region_held3 (fun wx => wx.cell? ⟨w.heap.size, 0, none⟩ = some (.string mc) ∧ wx.cell? ⟨w.heap.size, 1, none⟩ = some (.int .i64 ip) ∧ wx.cell? ⟨w.heap.size, 2, none⟩ = some (.int .i64 po) ∧ wx.cell? ⟨w.heap.size, 3, none⟩ = some (.int .i64 di) ∧ wx.cell? ⟨w.heap.size, 4, none⟩ = some (.int .i64 st) ∧ wx.cell? ⟨w.heap.size, 5, none⟩ = some (.int .i64 un) ∧ wx.cell? ⟨w.heap.size, 6, none⟩ = some (.int .i64 nx) ∧ wx.cell? ⟨w.heap.size, 7, none⟩ = some (.int .i64 wa) ∧ wx.cell? ⟨w.heap.size, 8, none⟩ = some (.string inn) ∧ wx.cell? ⟨w.heap.size, 9, none⟩ = some (.string out) ∧ wx.cell? ⟨w.heap.size, 10, none⟩ = some (.bool fin) ∧ KpC w wx)
          (first | exact SS.out | exact CB.out _ _ b6 (by assumption) | exact SA.out _ _ (by assumption) | exact SR.out _ _ Y7.out.2.2 Y7.out.2.1 (by assumption))
          (first | (go_at_call 40; (with_reducible refine (S1.out _).mono ?_); rintro e w' ⟨rfl, hw⟩; have hw2 := hw.symm; clear hw; subst hw2) | (go_at_call 79; (with_reducible refine (S2.out _).mono ?_); rintro e w6 ⟨rfl, g6⟩; have b6 := g6.below) | (refine step_segs _ (by rfl) (.tmp 23) (.tmp 31) (by rfl) w.heap.size u3 (pcL po wa un out k) (by rfl) (OW.out _ _ b6) _ 0 1 1 [⟨80, po, SQN, wa, 24, 1000, DA⟩] (by rfl) rfl (seg_new _ _ _ _ _ _ _ _) (by rw [PN.out]; omega) (SZ.out _ (by assumption)) ?_; intro v7 w7 Y7))
        have hS7 : CnS w.heap.size mc ip po di st un nx wa inn out fin w w7 := by assumption
        have F7 : Hid (OwnS sgG 7 27 w7 w.heap.size v7 (pcL po wa un out (k + 1)) ∧ v7.ownBlock ≠ some w.heap.size ∧ CnS w.heap.size mc ip po di st un nx wa inn out fin w w7) := by
          have h7 : OwnS sgG 7 27 w7 w.heap.size v7 (pcL po wa un out (k + 1)) := by rw [PL.out, PS.out]; exact Y7.out.1
          refine ⟨h7, ?_, hS7⟩
          intro e
          obtain ⟨q, hq⟩ : ∃ q, v7 = .slice (some ⟨w.heap.size, 0, none⟩) (pcL po wa un out (k + 1)).length q := by
            obtain ⟨a7, c7, he, _⟩ := h7.slice
            subst he
            obtain ⟨g7, hg7, -⟩ := h7.form (by rw [PL.out]; simp)
            subst hg7
            have : g7 = w.heap.size := by simpa [Value.ownBlock] using e
            subst this
            exact ⟨_, rfl⟩
          subst hq
          have h1 := (h7.cell sgG_len (i := 0) (j := 0) (x := pcS po wa un out 0) (u := .int .i64 80) (by unfold pcL; rw [List.getElem?_map, List.getElem?_range (by omega)]; rfl) rfl).1
          have h2 := hS7.1
          rw [h2] at h1
          cases h1
        clear hS7 Y7 SS OW SR SZ SA b6 g6 X S1 S2
        go_wp2
        go_roundw
        case rel => exact ⟨k + 1, hkn, by go_num, F7⟩
        case measure => simp [intOf]; omega
      by_cases hq3 : 200 * k + 200 = out.size
      · have hqz : 200 * (k : Int) + 200 = (out.size : Int) := by omega
        have PS : Hid (pcS po wa un out k = ⟨80, po, sqN (un + 200 * (k : Int)), wa, 24, 1000, out.extract (200 * k) (200 * k + 200)⟩) := by show _ = _; unfold pcS; rw [Nat.min_eq_left (by omega)]
        have hqa : ¬ 200 * (k : Int) + 200 < (out.size : Int) := by omega
        have hqb : ¬ (out.size : Int) < 200 * (k : Int) + 200 := by omega
        have HQ3 : Hid (200 * k + 200 = out.size) := hq3
        clear hqz hq3
        go_wp2_with fail
        have SS : Hid (CnS w.heap.size mc ip po di st un nx wa inn out fin w wr.drew) := X.out.2.2.below ((Below.refl _ _).drew)
        have S1 : Hid (∀ w, Calls Try.prog 40 #[.int .i64 un, .int .i64 (200 * (k : Int))] w fun e w' => e = .returned (.int .i64 (sqN (un + 200 * (k : Int)))) ∧ w' = w) := fun w => SQ.out _ w (by omega) (by omega)
        have S2 : Hid (∀ w, Calls Try.prog 79 #[.agg #[.string mc, .int .i64 ip, .int .i64 po, .int .i64 di, .int .i64 st, .int .i64 un, .int .i64 nx, .int .i64 wa, .string inn, .string out, .bool fin], .int .i64 (sqN (un + 200 * (k : Int))), .int .i64 24, .string (out.extract (200 * k) (200 * k + 200))] w fun e w' => e = .returned (.agg #[.int .i64 80, .int .i64 po, .int .i64 (sqN (un + 200 * (k : Int))), .int .i64 wa, .int .i64 24, .int .i64 1000, .string (out.extract (200 * k) (200 * k + 200))]) ∧ Grw w w') := fun w => SG.out _ _ _ w
        generalize sqN (un + 200 * (k : Int)) = SQN at S1 S2 PS
        generalize out.extract (200 * k) (200 * k + 200) = DA at S2 PS ⊢
        have OW : Hid (∀ w5 o, Below wr.drew.heap.size wr.drew w5 → OwnS sgG 7 27 (w5.alloc o) w.heap.size u3 (pcL po wa un out k)) := fun w5 o b5 => (OwnS.now (w := wr.drew) X.out.1 b5).now ((Below.refl _ _).alloc (Nat.le_refl _) o)
        have SR : Hid (∀ wx wy, wx.grownBy wy u3.ownBlock → Below w.heap.size wx wy → CnS w.heap.size mc ip po di st un nx wa inn out fin w wx → CnS w.heap.size mc ip po di st un nx wa inn out fin w wy) := fun wx wy hg hb h => h.row hg hb (fun e => X.out.2.1 e.symm)
        have SZ : Hid (∀ wx, CnS w.heap.size mc ip po di st un nx wa inn out fin w wx → w.heap.size ≤ wx.heap.size) := fun wx h => h.2.2.2.2.2.2.2.2.2.2.2.out.size
        have SA : Hid (∀ wx o, CnS w.heap.size mc ip po di st un nx wa inn out fin w wx → CnS w.heap.size mc ip po di st un nx wa inn out fin w (wx.alloc o)) := fun wx o h => h.below ((Below.refl _ _).alloc (Nat.le_refl _) o)
        clear q0 q1 q2 q3 q4 q5 q6 q7 q8 q9 q10
        go_region_held3 (fun wx => wx.cell? ⟨w.heap.size, 0, none⟩ = some (.string mc) ∧ wx.cell? ⟨w.heap.size, 1, none⟩ = some (.int .i64 ip) ∧ wx.cell? ⟨w.heap.size, 2, none⟩ = some (.int .i64 po) ∧ wx.cell? ⟨w.heap.size, 3, none⟩ = some (.int .i64 di) ∧ wx.cell? ⟨w.heap.size, 4, none⟩ = some (.int .i64 st) ∧ wx.cell? ⟨w.heap.size, 5, none⟩ = some (.int .i64 un) ∧ wx.cell? ⟨w.heap.size, 6, none⟩ = some (.int .i64 nx) ∧ wx.cell? ⟨w.heap.size, 7, none⟩ = some (.int .i64 wa) ∧ wx.cell? ⟨w.heap.size, 8, none⟩ = some (.string inn) ∧ wx.cell? ⟨w.heap.size, 9, none⟩ = some (.string out) ∧ wx.cell? ⟨w.heap.size, 10, none⟩ = some (.bool fin) ∧ KpC w wx)
          (first | exact SS.out | exact CB.out _ _ b6 (by assumption) | exact SA.out _ _ (by assumption) | exact SR.out _ _ Y7.out.2.2 Y7.out.2.1 (by assumption))
          (first | (go_at_call 40; (with_reducible refine (S1.out _).mono ?_); rintro e w' ⟨rfl, hw⟩; have hw2 := hw.symm; clear hw; subst hw2) | (go_at_call 79; (with_reducible refine (S2.out _).mono ?_); rintro e w6 ⟨rfl, g6⟩; have b6 := g6.below) | (refine step_segs _ (by rfl) (.tmp 23) (.tmp 31) (by rfl) w.heap.size u3 (pcL po wa un out k) (by rfl) (OW.out _ _ b6) _ 0 1 1 [⟨80, po, SQN, wa, 24, 1000, DA⟩] (by rfl) rfl (seg_new _ _ _ _ _ _ _ _) (by rw [PN.out]; omega) (SZ.out _ (by assumption)) ?_; intro v7 w7 Y7))
        have hS7 : CnS w.heap.size mc ip po di st un nx wa inn out fin w w7 := by assumption
        have F7 : Hid (OwnS sgG 7 27 w7 w.heap.size v7 (pcL po wa un out (k + 1)) ∧ v7.ownBlock ≠ some w.heap.size ∧ CnS w.heap.size mc ip po di st un nx wa inn out fin w w7) := by
          have h7 : OwnS sgG 7 27 w7 w.heap.size v7 (pcL po wa un out (k + 1)) := by rw [PL.out, PS.out]; exact Y7.out.1
          refine ⟨h7, ?_, hS7⟩
          intro e
          obtain ⟨q, hq⟩ : ∃ q, v7 = .slice (some ⟨w.heap.size, 0, none⟩) (pcL po wa un out (k + 1)).length q := by
            obtain ⟨a7, c7, he, _⟩ := h7.slice
            subst he
            obtain ⟨g7, hg7, -⟩ := h7.form (by rw [PL.out]; simp)
            subst hg7
            have : g7 = w.heap.size := by simpa [Value.ownBlock] using e
            subst this
            exact ⟨_, rfl⟩
          subst hq
          have h1 := (h7.cell sgG_len (i := 0) (j := 0) (x := pcS po wa un out 0) (u := .int .i64 80) (by unfold pcL; rw [List.getElem?_map, List.getElem?_range (by omega)]; rfl) rfl).1
          have h2 := hS7.1
          rw [h2] at h1
          cases h1
        clear hS7 Y7 SS OW SR SZ SA b6 g6 X S1 S2
        go_wp2
        go_roundw
        case rel => exact ⟨k + 1, hkn, by go_num, F7⟩
        case measure => simp [intOf]; omega
      · have hqz : (out.size : Int) < 200 * (k : Int) + 200 := by omega
        have PS : Hid (pcS po wa un out k = ⟨80, po, sqN (un + 200 * (k : Int)), wa, 24, 1000, out.extract (200 * k) out.size⟩) := by show _ = _; unfold pcS; rw [Nat.min_eq_right (by omega)]
        go_wp2_with fail
        have SS : Hid (CnS w.heap.size mc ip po di st un nx wa inn out fin w wr.drew) := X.out.2.2.below ((Below.refl _ _).drew)
        have S1 : Hid (∀ w, Calls Try.prog 40 #[.int .i64 un, .int .i64 (200 * (k : Int))] w fun e w' => e = .returned (.int .i64 (sqN (un + 200 * (k : Int)))) ∧ w' = w) := fun w => SQ.out _ w (by omega) (by omega)
        have S2 : Hid (∀ w, Calls Try.prog 79 #[.agg #[.string mc, .int .i64 ip, .int .i64 po, .int .i64 di, .int .i64 st, .int .i64 un, .int .i64 nx, .int .i64 wa, .string inn, .string out, .bool fin], .int .i64 (sqN (un + 200 * (k : Int))), .int .i64 24, .string (out.extract (200 * k) out.size)] w fun e w' => e = .returned (.agg #[.int .i64 80, .int .i64 po, .int .i64 (sqN (un + 200 * (k : Int))), .int .i64 wa, .int .i64 24, .int .i64 1000, .string (out.extract (200 * k) out.size)]) ∧ Grw w w') := fun w => SG.out _ _ _ w
        generalize sqN (un + 200 * (k : Int)) = SQN at S1 S2 PS
        generalize out.extract (200 * k) out.size = DA at S2 PS ⊢
        have OW : Hid (∀ w5 o, Below wr.drew.heap.size wr.drew w5 → OwnS sgG 7 27 (w5.alloc o) w.heap.size u3 (pcL po wa un out k)) := fun w5 o b5 => (OwnS.now (w := wr.drew) X.out.1 b5).now ((Below.refl _ _).alloc (Nat.le_refl _) o)
        have SR : Hid (∀ wx wy, wx.grownBy wy u3.ownBlock → Below w.heap.size wx wy → CnS w.heap.size mc ip po di st un nx wa inn out fin w wx → CnS w.heap.size mc ip po di st un nx wa inn out fin w wy) := fun wx wy hg hb h => h.row hg hb (fun e => X.out.2.1 e.symm)
        have SZ : Hid (∀ wx, CnS w.heap.size mc ip po di st un nx wa inn out fin w wx → w.heap.size ≤ wx.heap.size) := fun wx h => h.2.2.2.2.2.2.2.2.2.2.2.out.size
        have SA : Hid (∀ wx o, CnS w.heap.size mc ip po di st un nx wa inn out fin w wx → CnS w.heap.size mc ip po di st un nx wa inn out fin w (wx.alloc o)) := fun wx o h => h.below ((Below.refl _ _).alloc (Nat.le_refl _) o)
        clear q0 q1 q2 q3 q4 q5 q6 q7 q8 q9 q10
        go_region_held3 (fun wx => wx.cell? ⟨w.heap.size, 0, none⟩ = some (.string mc) ∧ wx.cell? ⟨w.heap.size, 1, none⟩ = some (.int .i64 ip) ∧ wx.cell? ⟨w.heap.size, 2, none⟩ = some (.int .i64 po) ∧ wx.cell? ⟨w.heap.size, 3, none⟩ = some (.int .i64 di) ∧ wx.cell? ⟨w.heap.size, 4, none⟩ = some (.int .i64 st) ∧ wx.cell? ⟨w.heap.size, 5, none⟩ = some (.int .i64 un) ∧ wx.cell? ⟨w.heap.size, 6, none⟩ = some (.int .i64 nx) ∧ wx.cell? ⟨w.heap.size, 7, none⟩ = some (.int .i64 wa) ∧ wx.cell? ⟨w.heap.size, 8, none⟩ = some (.string inn) ∧ wx.cell? ⟨w.heap.size, 9, none⟩ = some (.string out) ∧ wx.cell? ⟨w.heap.size, 10, none⟩ = some (.bool fin) ∧ KpC w wx)
          (first | exact SS.out | exact CB.out _ _ b6 (by assumption) | exact SA.out _ _ (by assumption) | exact SR.out _ _ Y7.out.2.2 Y7.out.2.1 (by assumption))
          (first | (go_at_call 40; (with_reducible refine (S1.out _).mono ?_); rintro e w' ⟨rfl, hw⟩; have hw2 := hw.symm; clear hw; subst hw2) | (go_at_call 79; (with_reducible refine (S2.out _).mono ?_); rintro e w6 ⟨rfl, g6⟩; have b6 := g6.below) | (refine step_segs _ (by rfl) (.tmp 23) (.tmp 31) (by rfl) w.heap.size u3 (pcL po wa un out k) (by rfl) (OW.out _ _ b6) _ 0 1 1 [⟨80, po, SQN, wa, 24, 1000, DA⟩] (by rfl) rfl (seg_new _ _ _ _ _ _ _ _) (by rw [PN.out]; omega) (SZ.out _ (by assumption)) ?_; intro v7 w7 Y7))
        have hS7 : CnS w.heap.size mc ip po di st un nx wa inn out fin w w7 := by assumption
        have F7 : Hid (OwnS sgG 7 27 w7 w.heap.size v7 (pcL po wa un out (k + 1)) ∧ v7.ownBlock ≠ some w.heap.size ∧ CnS w.heap.size mc ip po di st un nx wa inn out fin w w7) := by
          have h7 : OwnS sgG 7 27 w7 w.heap.size v7 (pcL po wa un out (k + 1)) := by rw [PL.out, PS.out]; exact Y7.out.1
          refine ⟨h7, ?_, hS7⟩
          intro e
          obtain ⟨q, hq⟩ : ∃ q, v7 = .slice (some ⟨w.heap.size, 0, none⟩) (pcL po wa un out (k + 1)).length q := by
            obtain ⟨a7, c7, he, _⟩ := h7.slice
            subst he
            obtain ⟨g7, hg7, -⟩ := h7.form (by rw [PL.out]; simp)
            subst hg7
            have : g7 = w.heap.size := by simpa [Value.ownBlock] using e
            subst this
            exact ⟨_, rfl⟩
          subst hq
          have h1 := (h7.cell sgG_len (i := 0) (j := 0) (x := pcS po wa un out 0) (u := .int .i64 80) (by unfold pcL; rw [List.getElem?_map, List.getElem?_range (by omega)]; rfl) rfl).1
          have h2 := hS7.1
          rw [h2] at h1
          cases h1
        clear hS7 Y7 SS OW SR SZ SA b6 g6 X S1 S2
        go_wp2
        go_roundw
        case rel => exact ⟨k + 1, hkn, by go_num, F7⟩
        case measure => simp [intOf]; omega
    · have hkn : k = pcN out.size := by unfold pcN at hk ⊢; omega
      have HK : Hid (pcL po wa un out k = pcL po wa un out (pcN out.size)) := by show _ = _; rw [← hkn]
      have PN : Hid ((pcL po wa un out k).length = k) := pcL_len _ _ _ _ _
      have hnl : ¬ ((200 * k : Nat) : Int) < (out.size : Int) := by omega
      clear HS9 hkn
      cases hfin : fin with
      | false =>
        subst hfin
        go_wp2
        go_ret
        exact ⟨_, rfl, by rw [puL_open, ← HK.out]; exact X.out.1, X.out.2.2.2.2.2.2.2.2.2.2.2.2.2.out⟩
      | true =>
        subst hfin
        have PF : Hid (puL po wa un out true = pcL po wa un out k ++ [⟨80, po, sqN (un + (out.size : Int)), wa, 17, 1000, ⟨#[]⟩⟩]) := by show _ = _; rw [puL_fin, ← HK.out]
        go_wp2_with fail
        have SS : Hid (CnS w.heap.size mc ip po di st un nx wa inn out true w wr.drew) := X.out.2.2.below ((Below.refl _ _).drew)
        have S1 : Hid (∀ w, Calls Try.prog 40 #[.int .i64 un, .int .i64 ((out.size : Int))] w fun e w' => e = .returned (.int .i64 (sqN (un + (out.size : Int)))) ∧ w' = w) := fun w => SQ.out _ w (by omega) (by omega)
        have S2 : Hid (∀ w, Calls Try.prog 79 #[.agg #[.string mc, .int .i64 ip, .int .i64 po, .int .i64 di, .int .i64 st, .int .i64 un, .int .i64 nx, .int .i64 wa, .string inn, .string out, .bool true], .int .i64 (sqN (un + (out.size : Int))), .int .i64 17, .string (⟨#[]⟩)] w fun e w' => e = .returned (.agg #[.int .i64 80, .int .i64 po, .int .i64 (sqN (un + (out.size : Int))), .int .i64 wa, .int .i64 17, .int .i64 1000, .string (⟨#[]⟩)]) ∧ Grw w w') := fun w => SG.out _ _ _ w
        generalize sqN (un + (out.size : Int)) = SQN at S1 S2 PF
        have OW : Hid (∀ w5 o, Below wr.drew.heap.size wr.drew w5 → OwnS sgG 7 27 (w5.alloc o) w.heap.size u3 (pcL po wa un out k)) := fun w5 o b5 => (OwnS.now (w := wr.drew) X.out.1 b5).now ((Below.refl _ _).alloc (Nat.le_refl _) o)
        have SR : Hid (∀ wx wy, wx.grownBy wy u3.ownBlock → Below w.heap.size wx wy → CnS w.heap.size mc ip po di st un nx wa inn out true w wx → CnS w.heap.size mc ip po di st un nx wa inn out true w wy) := fun wx wy hg hb h => h.row hg hb (fun e => X.out.2.1 e.symm)
        have SZ : Hid (∀ wx, CnS w.heap.size mc ip po di st un nx wa inn out true w wx → w.heap.size ≤ wx.heap.size) := fun wx h => h.2.2.2.2.2.2.2.2.2.2.2.out.size
        have SA : Hid (∀ wx o, CnS w.heap.size mc ip po di st un nx wa inn out true w wx → CnS w.heap.size mc ip po di st un nx wa inn out true w (wx.alloc o)) := fun wx o h => h.below ((Below.refl _ _).alloc (Nat.le_refl _) o)
        clear q0 q1 q2 q3 q4 q5 q6 q7 q8 q9 SG
        go_region_held3 (fun wx => wx.cell? ⟨w.heap.size, 0, none⟩ = some (.string mc) ∧ wx.cell? ⟨w.heap.size, 1, none⟩ = some (.int .i64 ip) ∧ wx.cell? ⟨w.heap.size, 2, none⟩ = some (.int .i64 po) ∧ wx.cell? ⟨w.heap.size, 3, none⟩ = some (.int .i64 di) ∧ wx.cell? ⟨w.heap.size, 4, none⟩ = some (.int .i64 st) ∧ wx.cell? ⟨w.heap.size, 5, none⟩ = some (.int .i64 un) ∧ wx.cell? ⟨w.heap.size, 6, none⟩ = some (.int .i64 nx) ∧ wx.cell? ⟨w.heap.size, 7, none⟩ = some (.int .i64 wa) ∧ wx.cell? ⟨w.heap.size, 8, none⟩ = some (.string inn) ∧ wx.cell? ⟨w.heap.size, 9, none⟩ = some (.string out) ∧ wx.cell? ⟨w.heap.size, 10, none⟩ = some (.bool true) ∧ KpC w wx)
          (first | exact SS.out | exact CB.out _ _ b6 (by assumption) | exact SA.out _ _ (by assumption) | exact SR.out _ _ Y7.out.2.2 Y7.out.2.1 (by assumption))
          (first | (go_at_call 40; (with_reducible refine (S1.out _).mono ?_); rintro e w' ⟨rfl, hw⟩; have hw2 := hw.symm; clear hw; subst hw2) | (go_at_call 79; (with_reducible refine (S2.out _).mono ?_); rintro e w6 ⟨rfl, g6⟩; have b6 := g6.below) | (refine step_segs _ (by rfl) (.tmp 35) (.tmp 44) (by rfl) w.heap.size u3 (pcL po wa un out k) (by rfl) (OW.out _ _ b6) _ 0 1 1 [⟨80, po, SQN, wa, 17, 1000, ⟨#[]⟩⟩] (by rfl) rfl (seg_new _ _ _ _ _ _ _ _) (by rw [PN.out]; omega) (SZ.out _ (by assumption)) ?_; intro v7 w7 Y7))
        have hS7 : CnS w.heap.size mc ip po di st un nx wa inn out true w w7 := by assumption
        have F7 : Hid (OwnS sgG 7 27 w7 w.heap.size v7 (puL po wa un out true) ∧ Below w.heap.size w w7) := ⟨by rw [PF.out]; exact Y7.out.1, hS7.2.2.2.2.2.2.2.2.2.2.2.out⟩
        clear hS7 Y7 SS OW SR SZ SA b6 g6 X S1 S2
        go_wp2
        go_ret
        exact ⟨_, rfl, F7.out.1, F7.out.2⟩
end Go.Proofs.Ytfgghffgfefgpaa

namespace Go.Proofs.Ytfgghffgfefgpaa
open Go.RowKit Go.PlainAid Go.Proofs.Ytfgghffgfefgpaa.Bt Go.Sort
set_option linter.unusedVariables false
set_option maxRecDepth 20000

def strLen : Value → Nat | .string s => s.size | _ => 0
theorem ext_none (T : ByteArray) : T.extract T.size T.size = ByteArray.empty := by simp
theorem sq_more (sq : Int) (k : Nat) (n : Int) : sqN (sqN (sq + 200 * (k : Int)) + n) = sqN (sq + 200 * (k : Int) + n) := by unfold sqN; omega
set_option maxHeartbeats 4000000 in
theorem l10Pieces_any (mc : ByteArray) (ip po di st un nx wa : Int) (inn out : ByteArray) (fin : Bool) (sq : Int) (t : ByteArray) (fn : Bool) (w : World) (ho : t.size ≤ 300) (hu : 0 ≤ sq ∧ sq ≤ 4294967295) :
    Calls Try.prog 80 #[.agg #[.string mc, .int .i64 ip, .int .i64 po, .int .i64 di, .int .i64 st, .int .i64 un, .int .i64 nx, .int .i64 wa, .string inn, .string out, .bool fin], .int .i64 sq, .string t, .bool fn] w fun e w' => ∃ v, e = .returned v ∧ OwnS sgG 7 27 w' w.heap.size v (puL po wa sq t fn) ∧ Below w.heap.size w w' := by
  obtain ⟨hu0, hu1⟩ := hu
  have SG : Hid (∀ (sq fl : Int) (da : ByteArray) (w : World), Calls Try.prog 77 #[.agg #[.string mc, .int .i64 ip, .int .i64 po, .int .i64 di, .int .i64 st, .int .i64 un, .int .i64 nx, .int .i64 wa, .string inn, .string out, .bool fin], .int .i64 sq, .int .i64 fl, .string da] w fun e w' => e = .returned (.agg #[.int .i64 80, .int .i64 po, .int .i64 sq, .int .i64 wa, .int .i64 fl, .int .i64 1000, .string da]) ∧ Grw w w') := fun sq fl da w => l10Reply_any mc ip po di st un nx wa inn out fin sq fl da w
  have SQ : Hid (∀ (n : Int) (w : World), 0 ≤ n → n ≤ 9000000000 → Calls Try.prog 61 #[.int .i64 n] w fun e w' => e = .returned (.int .i64 (sqN n)) ∧ w' = w) := fun n w h0 h1 => l10Seq_any n w (by omega) (by omega)
  have CC : Hid (∀ o, CnS w.heap.size mc ip po di st un nx wa inn out fin w ((w.alloc (.cells #[.string mc, .int .i64 ip, .int .i64 po, .int .i64 di, .int .i64 st, .int .i64 un, .int .i64 nx, .int .i64 wa, .string inn, .string out, .bool fin] 24)).alloc o)) := fun o => CnS.below (wx := w.alloc (.cells #[.string mc, .int .i64 ip, .int .i64 po, .int .i64 di, .int .i64 st, .int .i64 un, .int .i64 nx, .int .i64 wa, .string inn, .string out, .bool fin] 24)) ⟨by simp [go_sem], by simp [go_sem], by simp [go_sem], by simp [go_sem], by simp [go_sem], by simp [go_sem], by simp [go_sem], by simp [go_sem], by simp [go_sem], by simp [go_sem], by simp [go_sem], ⟨(Below.refl _ _).alloc (Nat.le_refl _) _⟩⟩ ((Below.refl _ _).alloc (Nat.le_refl _) o)
  have CB : Hid (∀ wx wy, Below wx.heap.size wx wy → CnS w.heap.size mc ip po di st un nx wa inn out fin w wx → CnS w.heap.size mc ip po di st un nx wa inn out fin w wy) := fun wx wy hb h => h.below hb
  have O0 : Hid (OwnS sgG 7 27 ((w.alloc (.cells #[.string mc, .int .i64 ip, .int .i64 po, .int .i64 di, .int .i64 st, .int .i64 un, .int .i64 nx, .int .i64 wa, .string inn, .string out, .bool fin] 24)).alloc (.cells #[] 27)) w.heap.size (.slice (some ⟨w.heap.size + 1, 0, none⟩) 0 0) []) := by
    have := OwnS.lit (α := SegV) (c := sgG) (K := 7) (e := 27) (w.alloc (.cells #[.string mc, .int .i64 ip, .int .i64 po, .int .i64 di, .int .i64 st, .int .i64 un, .int .i64 nx, .int .i64 wa, .string inn, .string out, .bool fin] 24)) w.heap.size (by simp)
    rw [World.size_alloc] at this
    exact this
  have hst : Hid (t.extract 0 t.size = t) := ext_all t
  go_enter Try.func80, Try.ntmps80
  go_wp2
  go_loopw [1, 2, 9] (fun x y v wr => ∃ k : Nat, k ≤ pcN t.size ∧ x = .int .i64 (sqN (sq + (min (200 * k) t.size : Nat))) ∧ y = .string (t.extract (min (200 * k) t.size) t.size) ∧ Hid (OwnS sgG 7 27 wr w.heap.size v (pcL po wa sq t k) ∧ v.ownBlock ≠ some w.heap.size ∧ CnS w.heap.size mc ip po di st un nx wa inn out fin w wr)) (fun _ y _ _ => (strLen y))
  case atStart =>
    have e0 : min (200 * 0) t.size = 0 := by omega
    have e1 : sqN (sq + ((min (200 * 0) t.size : Nat) : Int)) = sq := by
      rw [e0]
      unfold sqN
      omega
    exact ⟨0, Nat.zero_le _, by rw [e1], by rw [e0, hst.out], O0.out, (by simp [Value.ownBlock]), CC.out _⟩
  case round =>
    obtain ⟨k, hk, rfl, rfl, X⟩ := hrel
    by_cases hlt : 200 * k < t.size
    · have hmn : min (200 * k) t.size = 200 * k := Nat.min_eq_left (by omega)
      rw [hmn]
      have hkn : k + 1 ≤ pcN t.size := by unfold pcN; omega
      have hk2 : k ≤ 1 := by omega
      obtain ⟨T, hT⟩ : ∃ T, T = t.extract (200 * k) t.size := ⟨_, rfl⟩
      have HT : Hid (T = t.extract (200 * k) t.size) := hT
      have HTs : Hid (T.size = t.size - 200 * k) := by show _ = _; rw [hT, ByteArray.size_extract]; omega
      have hT0 : (0 : Int) < (T.size : Int) := by have := HTs.out; omega
      have hT3 : T.size ≤ 300 := by have := HTs.out; omega
      rw [← hT]
      obtain ⟨s0, hs0⟩ : ∃ s0, s0 = sqN (sq + ((200 * k : Nat) : Int)) := ⟨_, rfl⟩
      have hsb := sqN_bd (sq + ((200 * k : Nat) : Int))
      rw [← hs0] at hsb ⊢
      have HS0 : Hid (s0 = sqN (sq + 200 * (k : Int))) := by show _ = _; rw [hs0]; congr 1
      obtain ⟨hsb0, hsb1⟩ := hsb
      clear hT hs0 hmn
      have PL : Hid (pcL po wa sq t (k + 1) = pcL po wa sq t k ++ [pcS po wa sq t k]) := pcL_more _ _ _ _ _
      have PN : Hid ((pcL po wa sq t k).length = k) := pcL_len _ _ _ _ _
      by_cases hq : T.size < 200
      · have hqz : (T.size : Int) < 200 := by omega
        have PS : Hid (pcS po wa sq t k = ⟨80, po, s0, wa, 24, 1000, T⟩) := by
          have h2 := ext_ext t (200 * k) T.size (min (200 * k + 200) t.size) (by have := HTs.out; omega) (by have := HTs.out; omega)
          rw [← HT.out] at h2
          show _ = _
          unfold pcS
          rw [ext_all] at h2
          rw [HS0.out, ← h2]
        have NX : Hid (sqN (s0 + (T.size : Int)) = sqN (sq + ((min (200 * (k + 1)) t.size : Nat) : Int)) ∧ ByteArray.empty = t.extract (min (200 * (k + 1)) t.size) t.size ∧ (ByteArray.empty).size < T.size) := by
          refine ⟨?_, ?_, ?_⟩
          · rw [HS0.out, sq_more]
            congr 1
            have := HTs.out
            omega
          · have h1 := HTs.out
            have h2 := ext_tail t (200 * k) T.size (t.extract (200 * k) t.size).size (min (200 * (k + 1)) t.size) (by omega) (by omega) rfl
            rw [← HT.out] at h2
            rw [ext_none] at h2
            exact h2
          · show 0 < _; omega
        have SS : Hid (CnS w.heap.size mc ip po di st un nx wa inn out fin w wr.drew) := X.out.2.2.below ((Below.refl _ _).drew)
        have S2 : Hid (∀ w, Calls Try.prog 77 #[.agg #[.string mc, .int .i64 ip, .int .i64 po, .int .i64 di, .int .i64 st, .int .i64 un, .int .i64 nx, .int .i64 wa, .string inn, .string out, .bool fin], .int .i64 s0, .int .i64 24, .string (T)] w fun e w' => e = .returned (.agg #[.int .i64 80, .int .i64 po, .int .i64 s0, .int .i64 wa, .int .i64 24, .int .i64 1000, .string (T)]) ∧ Grw w w') := fun w => SG.out _ _ _ w
        have S3 : Hid (∀ w, Calls Try.prog 61 #[.int .i64 (s0 + (T.size : Int))] w fun e w' => e = .returned (.int .i64 (sqN (s0 + (T.size : Int)))) ∧ w' = w) := fun w => SQ.out _ w (by omega) (by omega)
        have OW : Hid (∀ w5 o, Below wr.drew.heap.size wr.drew w5 → OwnS sgG 7 27 (w5.alloc o) w.heap.size u9 (pcL po wa sq t k)) := fun w5 o b5 => (OwnS.now (w := wr.drew) X.out.1 b5).now ((Below.refl _ _).alloc (Nat.le_refl _) o)
        have SR : Hid (∀ wx wy, wx.grownBy wy u9.ownBlock → Below w.heap.size wx wy → CnS w.heap.size mc ip po di st un nx wa inn out fin w wx → CnS w.heap.size mc ip po di st un nx wa inn out fin w wy) := fun wx wy hg hb h => h.row hg hb (fun e => X.out.2.1 e.symm)
        have SZ : Hid (∀ wx, CnS w.heap.size mc ip po di st un nx wa inn out fin w wx → w.heap.size ≤ wx.heap.size) := fun wx h => h.2.2.2.2.2.2.2.2.2.2.2.out.size
        have SA : Hid (∀ wx o, CnS w.heap.size mc ip po di st un nx wa inn out fin w wx → CnS w.heap.size mc ip po di st un nx wa inn out fin w (wx.alloc o)) := fun wx o h => h.below ((Below.refl _ _).alloc (Nat.le_refl _) o)
        generalize sqN (s0 + (T.size : Int)) = s1 at S3 NX
        go_wp2_with fail
        go_region_held3 (fun wx => wx.cell? ⟨w.heap.size, 0, none⟩ = some (.string mc) ∧ wx.cell? ⟨w.heap.size, 1, none⟩ = some (.int .i64 ip) ∧ wx.cell? ⟨w.heap.size, 2, none⟩ = some (.int .i64 po) ∧ wx.cell? ⟨w.heap.size, 3, none⟩ = some (.int .i64 di) ∧ wx.cell? ⟨w.heap.size, 4, none⟩ = some (.int .i64 st) ∧ wx.cell? ⟨w.heap.size, 5, none⟩ = some (.int .i64 un) ∧ wx.cell? ⟨w.heap.size, 6, none⟩ = some (.int .i64 nx) ∧ wx.cell? ⟨w.heap.size, 7, none⟩ = some (.int .i64 wa) ∧ wx.cell? ⟨w.heap.size, 8, none⟩ = some (.string inn) ∧ wx.cell? ⟨w.heap.size, 9, none⟩ = some (.string out) ∧ wx.cell? ⟨w.heap.size, 10, none⟩ = some (.bool fin) ∧ KpC w wx)
          (first | exact SS.out | exact CB.out _ _ b6 (by assumption) | exact SA.out _ _ (by assumption) | exact SR.out _ _ Y7.out.2.2 Y7.out.2.1 (by assumption))
          (first | (go_at_call 77; (with_reducible refine (S2.out _).mono ?_); rintro e w6 ⟨rfl, g6⟩; have b6 := g6.below) | (refine step_segs _ (by rfl) (.tmp 18) (.tmp 25) (by rfl) w.heap.size u9 (pcL po wa sq t k) (by rfl) (OW.out _ _ b6) _ 0 1 1 [⟨80, po, s0, wa, 24, 1000, T⟩] (by rfl) rfl (seg_new _ _ _ _ _ _ _ _) (by rw [PN.out]; omega) (SZ.out _ (by assumption)) ?_; intro v7 w7 Y7))
        have hS7 : CnS w.heap.size mc ip po di st un nx wa inn out fin w w7 := by assumption
        have F7 : Hid (OwnS sgG 7 27 w7 w.heap.size v7 (pcL po wa sq t (k + 1)) ∧ v7.ownBlock ≠ some w.heap.size ∧ CnS w.heap.size mc ip po di st un nx wa inn out fin w w7) := by
          have h7 : OwnS sgG 7 27 w7 w.heap.size v7 (pcL po wa sq t (k + 1)) := by rw [PL.out, PS.out]; exact Y7.out.1
          refine ⟨h7, ?_, hS7⟩
          intro e
          obtain ⟨q, hq⟩ : ∃ q, v7 = .slice (some ⟨w.heap.size, 0, none⟩) (pcL po wa sq t (k + 1)).length q := by
            obtain ⟨a7, c7, he, _⟩ := h7.slice
            subst he
            obtain ⟨g7, hg7, -⟩ := h7.form (by rw [PL.out]; simp)
            subst hg7
            have : g7 = w.heap.size := by simpa [Value.ownBlock] using e
            subst this
            exact ⟨_, rfl⟩
          subst hq
          have h1 := (h7.cell sgG_len (i := 0) (j := 0) (x := pcS po wa sq t 0) (u := .int .i64 80) (by unfold pcL; rw [List.getElem?_map, List.getElem?_range (by omega)]; rfl) rfl).1
          have h2 := hS7.1
          rw [h2] at h1
          cases h1
        clear hS7 Y7 SS OW SR SZ SA b6 g6 X S2
        go_wp2_with fail
        refine (S3.out _).mono ?_
        rintro e w1 ⟨rfl, hw⟩
        subst hw
        go_wp2
        go_roundw
        case rel => exact ⟨k + 1, hkn, by rw [NX.out.1], by rw [NX.out.2.1], F7⟩
        case measure => exact NX.out.2.2
      by_cases hq3 : T.size = 200
      · have hqa : ¬ (T.size : Int) < 200 := by omega
        have hqb : ¬ (200 : Int) < (T.size : Int) := by omega
        have HQ3 : Hid (T.size = 200) := hq3
        clear hq hq3
        have PS : Hid (pcS po wa sq t k = ⟨80, po, s0, wa, 24, 1000, T⟩) := by
          have h2 := ext_ext t (200 * k) T.size (min (200 * k + 200) t.size) (by have := HTs.out; omega) (by have := HTs.out; omega)
          rw [← HT.out] at h2
          show _ = _
          unfold pcS
          rw [ext_all] at h2
          rw [HS0.out, ← h2]
        have NX : Hid (sqN (s0 + (T.size : Int)) = sqN (sq + ((min (200 * (k + 1)) t.size : Nat) : Int)) ∧ ByteArray.empty = t.extract (min (200 * (k + 1)) t.size) t.size ∧ (ByteArray.empty).size < T.size) := by
          refine ⟨?_, ?_, ?_⟩
          · rw [HS0.out, sq_more]
            congr 1
            have := HTs.out
            omega
          · have h1 := HTs.out
            have h2 := ext_tail t (200 * k) T.size (t.extract (200 * k) t.size).size (min (200 * (k + 1)) t.size) (by omega) (by omega) rfl
            rw [← HT.out] at h2
            rw [ext_none] at h2
            exact h2
          · show 0 < _; omega
        have SS : Hid (CnS w.heap.size mc ip po di st un nx wa inn out fin w wr.drew) := X.out.2.2.below ((Below.refl _ _).drew)
        have S2 : Hid (∀ w, Calls Try.prog 77 #[.agg #[.string mc, .int .i64 ip, .int .i64 po, .int .i64 di, .int .i64 st, .int .i64 un, .int .i64 nx, .int .i64 wa, .string inn, .string out, .bool fin], .int .i64 s0, .int .i64 24, .string (T)] w fun e w' => e = .returned (.agg #[.int .i64 80, .int .i64 po, .int .i64 s0, .int .i64 wa, .int .i64 24, .int .i64 1000, .string (T)]) ∧ Grw w w') := fun w => SG.out _ _ _ w
        have S3 : Hid (∀ w, Calls Try.prog 61 #[.int .i64 (s0 + (T.size : Int))] w fun e w' => e = .returned (.int .i64 (sqN (s0 + (T.size : Int)))) ∧ w' = w) := fun w => SQ.out _ w (by omega) (by omega)
        have OW : Hid (∀ w5 o, Below wr.drew.heap.size wr.drew w5 → OwnS sgG 7 27 (w5.alloc o) w.heap.size u9 (pcL po wa sq t k)) := fun w5 o b5 => (OwnS.now (w := wr.drew) X.out.1 b5).now ((Below.refl _ _).alloc (Nat.le_refl _) o)
        have SR : Hid (∀ wx wy, wx.grownBy wy u9.ownBlock → Below w.heap.size wx wy → CnS w.heap.size mc ip po di st un nx wa inn out fin w wx → CnS w.heap.size mc ip po di st un nx wa inn out fin w wy) := fun wx wy hg hb h => h.row hg hb (fun e => X.out.2.1 e.symm)
        have SZ : Hid (∀ wx, CnS w.heap.size mc ip po di st un nx wa inn out fin w wx → w.heap.size ≤ wx.heap.size) := fun wx h => h.2.2.2.2.2.2.2.2.2.2.2.out.size
        have SA : Hid (∀ wx o, CnS w.heap.size mc ip po di st un nx wa inn out fin w wx → CnS w.heap.size mc ip po di st un nx wa inn out fin w (wx.alloc o)) := fun wx o h => h.below ((Below.refl _ _).alloc (Nat.le_refl _) o)
        generalize sqN (s0 + (T.size : Int)) = s1 at S3 NX
        go_wp2_with fail
        go_region_held3 (fun wx => wx.cell? ⟨w.heap.size, 0, none⟩ = some (.string mc) ∧ wx.cell? ⟨w.heap.size, 1, none⟩ = some (.int .i64 ip) ∧ wx.cell? ⟨w.heap.size, 2, none⟩ = some (.int .i64 po) ∧ wx.cell? ⟨w.heap.size, 3, none⟩ = some (.int .i64 di) ∧ wx.cell? ⟨w.heap.size, 4, none⟩ = some (.int .i64 st) ∧ wx.cell? ⟨w.heap.size, 5, none⟩ = some (.int .i64 un) ∧ wx.cell? ⟨w.heap.size, 6, none⟩ = some (.int .i64 nx) ∧ wx.cell? ⟨w.heap.size, 7, none⟩ = some (.int .i64 wa) ∧ wx.cell? ⟨w.heap.size, 8, none⟩ = some (.string inn) ∧ wx.cell? ⟨w.heap.size, 9, none⟩ = some (.string out) ∧ wx.cell? ⟨w.heap.size, 10, none⟩ = some (.bool fin) ∧ KpC w wx)
          (first | exact SS.out | exact CB.out _ _ b6 (by assumption) | exact SA.out _ _ (by assumption) | exact SR.out _ _ Y7.out.2.2 Y7.out.2.1 (by assumption))
          (first | (go_at_call 77; (with_reducible refine (S2.out _).mono ?_); rintro e w6 ⟨rfl, g6⟩; have b6 := g6.below) | (refine step_segs _ (by rfl) (.tmp 18) (.tmp 25) (by rfl) w.heap.size u9 (pcL po wa sq t k) (by rfl) (OW.out _ _ b6) _ 0 1 1 [⟨80, po, s0, wa, 24, 1000, T⟩] (by rfl) rfl (seg_new _ _ _ _ _ _ _ _) (by rw [PN.out]; omega) (SZ.out _ (by assumption)) ?_; intro v7 w7 Y7))
        have hS7 : CnS w.heap.size mc ip po di st un nx wa inn out fin w w7 := by assumption
        have F7 : Hid (OwnS sgG 7 27 w7 w.heap.size v7 (pcL po wa sq t (k + 1)) ∧ v7.ownBlock ≠ some w.heap.size ∧ CnS w.heap.size mc ip po di st un nx wa inn out fin w w7) := by
          have h7 : OwnS sgG 7 27 w7 w.heap.size v7 (pcL po wa sq t (k + 1)) := by rw [PL.out, PS.out]; exact Y7.out.1
          refine ⟨h7, ?_, hS7⟩
          intro e
          obtain ⟨q, hq⟩ : ∃ q, v7 = .slice (some ⟨w.heap.size, 0, none⟩) (pcL po wa sq t (k + 1)).length q := by
            obtain ⟨a7, c7, he, _⟩ := h7.slice
            subst he
            obtain ⟨g7, hg7, -⟩ := h7.form (by rw [PL.out]; simp)
            subst hg7
            have : g7 = w.heap.size := by simpa [Value.ownBlock] using e
            subst this
            exact ⟨_, rfl⟩
          subst hq
          have h1 := (h7.cell sgG_len (i := 0) (j := 0) (x := pcS po wa sq t 0) (u := .int .i64 80) (by unfold pcL; rw [List.getElem?_map, List.getElem?_range (by omega)]; rfl) rfl).1
          have h2 := hS7.1
          rw [h2] at h1
          cases h1
        clear hS7 Y7 SS OW SR SZ SA b6 g6 X S2
        go_wp2_with fail
        refine (S3.out _).mono ?_
        rintro e w1 ⟨rfl, hw⟩
        subst hw
        go_wp2
        go_roundw
        case rel => exact ⟨k + 1, hkn, by rw [NX.out.1], by rw [NX.out.2.1], F7⟩
        case measure => exact NX.out.2.2
      · have hqz : (200 : Int) < (T.size : Int) := by omega
        have hqw : (200 : Int) ≤ (T.size : Int) := by omega
        have PS : Hid (pcS po wa sq t k = ⟨80, po, s0, wa, 24, 1000, T.extract 0 200⟩) := by
          have h2 := ext_ext t (200 * k) 200 (min (200 * k + 200) t.size) (by have := HTs.out; omega) (by have := HTs.out; omega)
          rw [← HT.out] at h2
          show _ = _
          unfold pcS
          rw [HS0.out, ← h2]
        have NX : Hid (sqN (s0 + 200) = sqN (sq + ((min (200 * (k + 1)) t.size : Nat) : Int)) ∧ T.extract 200 T.size = t.extract (min (200 * (k + 1)) t.size) t.size ∧ (T.extract 200 T.size).size < T.size) := by
          refine ⟨?_, ?_, ?_⟩
          · rw [HS0.out, sq_more]
            congr 1
            have := HTs.out
            omega
          · have h1 := HTs.out
            have h2 := ext_tail t (200 * k) 200 (t.extract (200 * k) t.size).size (min (200 * (k + 1)) t.size) (by omega) (by omega) rfl
            rw [← HT.out] at h2
            exact h2
          · rw [ByteArray.size_extract]; omega
        have SS : Hid (CnS w.heap.size mc ip po di st un nx wa inn out fin w wr.drew) := X.out.2.2.below ((Below.refl _ _).drew)
        have S2 : Hid (∀ w, Calls Try.prog 77 #[.agg #[.string mc, .int .i64 ip, .int .i64 po, .int .i64 di, .int .i64 st, .int .i64 un, .int .i64 nx, .int .i64 wa, .string inn, .string out, .bool fin], .int .i64 s0, .int .i64 24, .string (T.extract 0 200)] w fun e w' => e = .returned (.agg #[.int .i64 80, .int .i64 po, .int .i64 s0, .int .i64 wa, .int .i64 24, .int .i64 1000, .string (T.extract 0 200)]) ∧ Grw w w') := fun w => SG.out _ _ _ w
        have S3 : Hid (∀ w, Calls Try.prog 61 #[.int .i64 (s0 + 200)] w fun e w' => e = .returned (.int .i64 (sqN (s0 + 200))) ∧ w' = w) := fun w => SQ.out _ w (by omega) (by omega)
        have OW : Hid (∀ w5 o, Below wr.drew.heap.size wr.drew w5 → OwnS sgG 7 27 (w5.alloc o) w.heap.size u9 (pcL po wa sq t k)) := fun w5 o b5 => (OwnS.now (w := wr.drew) X.out.1 b5).now ((Below.refl _ _).alloc (Nat.le_refl _) o)
        have SR : Hid (∀ wx wy, wx.grownBy wy u9.ownBlock → Below w.heap.size wx wy → CnS w.heap.size mc ip po di st un nx wa inn out fin w wx → CnS w.heap.size mc ip po di st un nx wa inn out fin w wy) := fun wx wy hg hb h => h.row hg hb (fun e => X.out.2.1 e.symm)
        have SZ : Hid (∀ wx, CnS w.heap.size mc ip po di st un nx wa inn out fin w wx → w.heap.size ≤ wx.heap.size) := fun wx h => h.2.2.2.2.2.2.2.2.2.2.2.out.size
        have SA : Hid (∀ wx o, CnS w.heap.size mc ip po di st un nx wa inn out fin w wx → CnS w.heap.size mc ip po di st un nx wa inn out fin w (wx.alloc o)) := fun wx o h => h.below ((Below.refl _ _).alloc (Nat.le_refl _) o)
        generalize sqN (s0 + 200) = s1 at S3 NX
        go_wp2_with fail
        go_region_held3 (fun wx => wx.cell? ⟨w.heap.size, 0, none⟩ = some (.string mc) ∧ wx.cell? ⟨w.heap.size, 1, none⟩ = some (.int .i64 ip) ∧ wx.cell? ⟨w.heap.size, 2, none⟩ = some (.int .i64 po) ∧ wx.cell? ⟨w.heap.size, 3, none⟩ = some (.int .i64 di) ∧ wx.cell? ⟨w.heap.size, 4, none⟩ = some (.int .i64 st) ∧ wx.cell? ⟨w.heap.size, 5, none⟩ = some (.int .i64 un) ∧ wx.cell? ⟨w.heap.size, 6, none⟩ = some (.int .i64 nx) ∧ wx.cell? ⟨w.heap.size, 7, none⟩ = some (.int .i64 wa) ∧ wx.cell? ⟨w.heap.size, 8, none⟩ = some (.string inn) ∧ wx.cell? ⟨w.heap.size, 9, none⟩ = some (.string out) ∧ wx.cell? ⟨w.heap.size, 10, none⟩ = some (.bool fin) ∧ KpC w wx)
          (first | exact SS.out | exact CB.out _ _ b6 (by assumption) | exact SA.out _ _ (by assumption) | exact SR.out _ _ Y7.out.2.2 Y7.out.2.1 (by assumption))
          (first | (go_at_call 77; (with_reducible refine (S2.out _).mono ?_); rintro e w6 ⟨rfl, g6⟩; have b6 := g6.below) | (refine step_segs _ (by rfl) (.tmp 18) (.tmp 25) (by rfl) w.heap.size u9 (pcL po wa sq t k) (by rfl) (OW.out _ _ b6) _ 0 1 1 [⟨80, po, s0, wa, 24, 1000, T.extract 0 200⟩] (by rfl) rfl (seg_new _ _ _ _ _ _ _ _) (by rw [PN.out]; omega) (SZ.out _ (by assumption)) ?_; intro v7 w7 Y7))
        have hS7 : CnS w.heap.size mc ip po di st un nx wa inn out fin w w7 := by assumption
        have F7 : Hid (OwnS sgG 7 27 w7 w.heap.size v7 (pcL po wa sq t (k + 1)) ∧ v7.ownBlock ≠ some w.heap.size ∧ CnS w.heap.size mc ip po di st un nx wa inn out fin w w7) := by
          have h7 : OwnS sgG 7 27 w7 w.heap.size v7 (pcL po wa sq t (k + 1)) := by rw [PL.out, PS.out]; exact Y7.out.1
          refine ⟨h7, ?_, hS7⟩
          intro e
          obtain ⟨q, hq⟩ : ∃ q, v7 = .slice (some ⟨w.heap.size, 0, none⟩) (pcL po wa sq t (k + 1)).length q := by
            obtain ⟨a7, c7, he, _⟩ := h7.slice
            subst he
            obtain ⟨g7, hg7, -⟩ := h7.form (by rw [PL.out]; simp)
            subst hg7
            have : g7 = w.heap.size := by simpa [Value.ownBlock] using e
            subst this
            exact ⟨_, rfl⟩
          subst hq
          have h1 := (h7.cell sgG_len (i := 0) (j := 0) (x := pcS po wa sq t 0) (u := .int .i64 80) (by unfold pcL; rw [List.getElem?_map, List.getElem?_range (by omega)]; rfl) rfl).1
          have h2 := hS7.1
          rw [h2] at h1
          cases h1
        clear hS7 Y7 SS OW SR SZ SA b6 g6 X S2
        go_wp2_with fail
        refine (S3.out _).mono ?_
        rintro e w1 ⟨rfl, hw⟩
        subst hw
        go_wp2
        go_roundw
        case rel => exact ⟨k + 1, hkn, by rw [NX.out.1], by rw [NX.out.2.1], F7⟩
        case measure => exact NX.out.2.2
    · have hmn : min (200 * k) t.size = t.size := Nat.min_eq_right (by omega)
      rw [hmn]
      have hkn : k = pcN t.size := by unfold pcN at hk ⊢; omega
      have HK : Hid (pcL po wa sq t k = pcL po wa sq t (pcN t.size)) := by show _ = _; rw [← hkn]
      have PN : Hid ((pcL po wa sq t k).length = k) := pcL_len _ _ _ _ _
      have hk2 : k ≤ 2 := by unfold pcN at hkn; omega
      obtain ⟨T, hT⟩ : ∃ T, T = t.extract t.size t.size := ⟨_, rfl⟩
      have hTs : T.size = 0 := by rw [hT, ByteArray.size_extract]; omega
      have hT0 : ¬ (0 : Int) < (T.size : Int) := by omega
      rw [← hT]
      clear hT hTs hkn
      cases hfin : fn with
      | false =>
        subst hfin
        go_wp2
        go_ret
        exact ⟨_, rfl, by rw [puL_open, ← HK.out]; exact X.out.1, X.out.2.2.2.2.2.2.2.2.2.2.2.2.2.out⟩
      | true =>
        subst hfin
        have PF : Hid (puL po wa sq t true = pcL po wa sq t k ++ [⟨80, po, sqN (sq + (t.size : Int)), wa, 17, 1000, ⟨#[]⟩⟩]) := by show _ = _; rw [puL_fin, ← HK.out]
        have hS0 := X.out.2.2
        have S2 : Hid (∀ w, Calls Try.prog 77 #[.agg #[.string mc, .int .i64 ip, .int .i64 po, .int .i64 di, .int .i64 st, .int .i64 un, .int .i64 nx, .int .i64 wa, .string inn, .string out, .bool fin], .int .i64 (sqN (sq + (t.size : Int))), .int .i64 17, .string ⟨#[]⟩] w fun e w' => e = .returned (.agg #[.int .i64 80, .int .i64 po, .int .i64 (sqN (sq + (t.size : Int))), .int .i64 wa, .int .i64 17, .int .i64 1000, .string ⟨#[]⟩]) ∧ Grw w w') := fun w => SG.out _ _ _ w
        generalize sqN (sq + (t.size : Int)) = SQN at S2 PF ⊢
        have q0 : wr.cell? ⟨w.heap.size, 0, none⟩ = some (.string mc) := hS0.1
        have q1 : wr.cell? ⟨w.heap.size, 1, none⟩ = some (.int .i64 ip) := hS0.2.1
        have q2 : wr.cell? ⟨w.heap.size, 2, none⟩ = some (.int .i64 po) := hS0.2.2.1
        have q3 : wr.cell? ⟨w.heap.size, 3, none⟩ = some (.int .i64 di) := hS0.2.2.2.1
        have q4 : wr.cell? ⟨w.heap.size, 4, none⟩ = some (.int .i64 st) := hS0.2.2.2.2.1
        have q5 : wr.cell? ⟨w.heap.size, 5, none⟩ = some (.int .i64 un) := hS0.2.2.2.2.2.1
        have q6 : wr.cell? ⟨w.heap.size, 6, none⟩ = some (.int .i64 nx) := hS0.2.2.2.2.2.2.1
        have q7 : wr.cell? ⟨w.heap.size, 7, none⟩ = some (.int .i64 wa) := hS0.2.2.2.2.2.2.2.1
        have q8 : wr.cell? ⟨w.heap.size, 8, none⟩ = some (.string inn) := hS0.2.2.2.2.2.2.2.2.1
        have q9 : wr.cell? ⟨w.heap.size, 9, none⟩ = some (.string out) := hS0.2.2.2.2.2.2.2.2.2.1
        have q10 : wr.cell? ⟨w.heap.size, 10, none⟩ = some (.bool fin) := hS0.2.2.2.2.2.2.2.2.2.2.1
        go_wp2_with fail
        refine (S2.out _).mono ?_
        rintro e w6 ⟨rfl, g6⟩
        have X6 : Hid (OwnS sgG 7 27 w6 w.heap.size u9 (pcL po wa sq t k) ∧ CnS w.heap.size mc ip po di st un nx wa inn out fin w w6) := ⟨X.out.1.now g6.below, hS0.below g6.below⟩
        clear hS0 g6 q0 q1 q2 q3 q4 q5 q6 q7 q8 q9 q10 X
        go_wp2_with (at_builtin; refine wpl_segs _ rfl (.tmp 35) (.tmp 39) rfl w.heap.size u9 (pcL po wa sq t k) [⟨80, po, SQN, wa, 17, 1000, ⟨#[]⟩⟩] rfl (X6.out.1.now ((Below.refl _ _).alloc (Nat.le_refl _) _)) _ 0 1 1 rfl rfl (seg_new _ _ _ _ _ _ _ _) (by rw [PN.out]; omega) (by have := X6.out.2.2.2.2.2.2.2.2.2.2.2.2.out.size; simp; omega) ?_; intro v7 w7 Y7 G7)
        have F7 : Hid (OwnS sgG 7 27 w7 w.heap.size v7 (puL po wa sq t true) ∧ Below w.heap.size w w7) := ⟨by rw [PF.out]; exact Y7.out.1, (X6.out.2.2.2.2.2.2.2.2.2.2.2.2.out.alloc X6.out.2.2.2.2.2.2.2.2.2.2.2.2.out.size _).trans Y7.out.2⟩
        clear Y7 G7 X6
        go_wp2
        go_ret
        exact ⟨_, rfl, F7.out.1, F7.out.2⟩
end Go.Proofs.Ytfgghffgfefgpaa
