/- Rows of structs, K cells an element: opened, stored into, kept. Nothing of the program is imported. Rows of one's own of flat structs, K cells an element. Nothing of the program is imported. Connections and segments as values. The bitwise operators on int where no operand is negative: and, or, exclusive or, and with masks, or of parts that do not meet. Nothing of the program is imported. Plain numbers: the words' sum of a row of bytes, and its folding into sixteen bits, as closed forms; nothing of the program is imported. A row of bytes in memory, told as a function of the place; what it is as a string; nothing of the program is imported. A new row of bytes that a loop fills: what its rounds keep. Nothing of the program is imported. The contracts of laws.toByteS (a copy in new memory) and laws.eqByteS (whether two rows are one). NumberOf, the program's and the model's: both answer the number of 1 to 6 bytes, the higher ones first; the walk of its law. The program's small tests: hasRoom, addressOK. The small tests of both sides, each answering whether a condition holds. The contracts of NameOK, the program's and the model's, and of what they call: whether a byte is a letter, a digit; whether a text is a name. Small tests of the program's chapter of guests: between, causes, bytes, credit, times; short names of the model. Worlds that have come of another by draws and new blocks alone. Nothing of the program is imported. Numbers that go round, of both sides. What is kept by all that leaves old blocks as they were. Nothing of the program is imported. A row of bytes of the call's own that is appended to, told as a list of numbers; as a string; a string's bytes in new memory. Nothing of the program is imported. MacText, the program's and the model's: two hexadecimal digits a byte, colons between; the walk of its law. Texts as lists of numbers: of a string, of a number's bytes, of a part; the number and the sum of a list. Nothing of the program is imported. The byte's row of the program's table of types. The program's NumberBytes at a size from 1 to 6 and a number that has room: its bytes, the higher ones first, in new memory. The program's part, numberAt, addNumber, setNumber. The program's macOf and macAt: a mac as an array of six, and back. Right connections and right segments, of both sides. ConnOK of both sides, right segments of both sides. The model's ConnOK. Connections and segments in the laws: copied, measured, compared. Rows of one's own of flat structs: the last fields of an element stored; a row joined. Nothing of the program is imported. A store into a block that is new leaves a world that has come of the elder one by draws and new blocks alone. Nothing of the program is imported. A number's digits: the model's l00Digits at every number from 0 on. markText of the laws. Segments that a connection sends: one, and what is out in pieces; both sides. What is out, in pieces, and the end behind it: the program. What is out, in pieces, and the end behind it: the model. -/
import Derived.WalkKit
import Derived.PlainAid
import Derived.OpenShut
import Derived.Below
import Derived.Deep.Slices
import Derived.Laws.AppendOwn
import Derived.Laws.OwnMore
import Derived.Laws.MakeOwn
import Derived.Laws.AppendOwnNone
import Derived.Laws.BitsAllLaws
import Derived.WalkSpells
import Derived.Laws.BytesArg
import Derived.Deep.OwnRows
import Derived.Test.YtfgghffgfefgpaaProg
import Derived.BigQuiet
import Derived.Deep.QuietTactic
import Derived.Shelf.SlSortCmp.QuietGrown
import Derived.Lib.ConvBytes
import Derived.Deep.RegionHeld3
import Derived.Deep.AppendLies
import Derived.Lib.AppendStr
import Derived.Laws.Concat
import Derived.Laws.CopyOwn
import Derived.Handy
import Derived.Laws.Cover3
import Derived.Lib.ItoaNum
namespace Go.Proofs.Ytfgghffgfefgpaa
open Go.RowKit Go.PlainAid
set_option linter.unusedVariables false

/-- The xs lie at a, K cells an element, each by R. -/
def Rw {α : Type} (R : World → α → List Value → Prop) (K : Nat) (w : World) (a : Option Addr) (xs : List α) : Prop :=
  0 < xs.length → ∃ b off, a = some ⟨b, off, none⟩ ∧ b < w.heap.size ∧ ∀ i x, xs[i]? = some x → ∃ vs, vs.length = K ∧ R w x vs ∧ ∀ j v, vs[j]? = some v → w.cell? ⟨b, off + i * K + j, none⟩ = some v
/-- What R says is kept by all that leaves old blocks as they were. -/
def Kp {α : Type} (R : World → α → List Value → Prop) : Prop := ∀ w w' x vs, R w x vs → Below w.heap.size w w' → R w' x vs

theorem Rw.keep {α : Type} {R : World → α → List Value → Prop} {K : Nat} {w w' : World} {a : Option Addr} {xs : List α} (h : Rw R K w a xs) (hk : Kp R) (hb : Below w.heap.size w w') : Rw R K w' a xs := by
  intro h0
  obtain ⟨b, off, rfl, hlt, hc⟩ := h h0
  refine ⟨b, off, rfl, Nat.lt_of_lt_of_le hlt hb.size, fun i x hx => ?_⟩
  obtain ⟨vs, h1, h2, h3⟩ := hc i x hx
  refine ⟨vs, h1, hk _ _ _ _ h2 hb, fun j v hv => ?_⟩
  rw [hb.cell (p := ⟨b, off + i * K + j, none⟩) hlt]
  exact h3 j v hv
/-- The element at k, read later. -/
theorem Rw.at {α : Type} {R : World → α → List Value → Prop} {K : Nat} {w w' : World} {a : Option Addr} {xs : List α} (h : Rw R K w a xs) (hk : Kp R) (hb : Below w.heap.size w w') {k : Nat} {x : α} (hx : xs[k]? = some x) :
    ∃ b off vs, a = some ⟨b, off, none⟩ ∧ b < w.heap.size ∧ vs.length = K ∧ R w' x vs ∧ ∀ j v, vs[j]? = some v → w'.cell? ⟨b, off + k * K + j, none⟩ = some v := by
  have h0 : 0 < xs.length := by
    have := (List.getElem?_eq_some_iff.1 hx).1
    omega
  obtain ⟨b, off, e, hlt, _⟩ := h h0
  obtain ⟨b', off', e', _, hc⟩ := (h.keep hk hb) h0
  rw [e] at e'
  cases e'
  obtain ⟨vs, h1, h2, h3⟩ := hc k x hx
  exact ⟨b, off, vs, e, hlt, h1, h2, h3⟩
theorem Rw.none {α : Type} {R : World → α → List Value → Prop} {K : Nat} {w : World} {a : Option Addr} : Rw R K w a ([] : List α) := fun h => absurd h (by simp)

/-- Cells set behind one another. -/
def sets (F : List Value) (i : Nat) : List Value → List Value
  | [] => F
  | v :: vs => sets (F.set i v) (i + 1) vs
def wsets (w : World) (g i : Nat) : List Value → World
  | [] => w
  | v :: vs => wsets (w.setCell ⟨g, i, none⟩ v) g (i + 1) vs
theorem grown_refl (w : World) (r : Option Nat) : w.grownBy w r := ⟨rfl, rfl, rfl, Nat.le_refl _, fun _ _ _ => rfl⟩
theorem grown_tr {w w1 w2 : World} {r : Option Nat} (h : w.grownBy w1 r) (h2 : w1.grownBy w2 r) : w.grownBy w2 r :=
  ⟨h2.os.trans h.os, h2.tape.trans h.tape, h2.output.trans h.output, Nat.le_trans h.size h2.size, fun k hk hr => (h2.block k (Nat.lt_of_lt_of_le hk h.size) hr).trans (h.block k hk hr)⟩
theorem owns_sets {e : TypeId} {B K g n cap : Nat} : ∀ (vs : List Value) (w : World) (F : List Value) (i : Nat), w.ownsRow B e K (.slice (some ⟨g, 0, none⟩) n cap) n F →
    (wsets w g i vs).ownsRow B e K (.slice (some ⟨g, 0, none⟩) n cap) n (sets F i vs) ∧ w.grownBy (wsets w g i vs) (some g)
  | [], w, F, i, h => ⟨h, grown_refl _ _⟩
  | v :: vs, w, F, i, h => by
    have h1 := World.ownsRow.stored h i v
    have h2 := owns_sets vs _ _ (i + 1) h1.1
    exact ⟨h2.1, grown_tr h1.2 h2.2⟩
theorem owns_keep {e : TypeId} {w w' : World} {B K n m : Nat} {v : Value} {F : List Value} (h : w.ownsRow B e K v n F) (hb : Below m w w') (hm : ∀ k, v.ownBlock = some k → k < m) : w'.ownsRow B e K v n F := by
  refine ⟨h.1, ?_⟩
  rcases h.2 with h' | ⟨g, cap, cur, h1, hB, hg, h4⟩
  · exact .inl h'
  · exact .inr ⟨g, cap, cur, h1, hB, by rw [hb.block _ (hm g (by rw [h1]; rfl))]; exact hg, h4⟩
theorem owns_now {e : TypeId} {w w' : World} {B K n : Nat} {v : Value} {F : List Value} (h : w.ownsRow B e K v n F) (hb : Below w.heap.size w w') : w'.ownsRow B e K v n F :=
  owns_keep h hb (fun k hk => (World.ownsRow.lt h k hk).2)
theorem owns_made (w : World) (e : TypeId) (B n K : Nat) (z : Array Value) (hB : B ≤ w.heap.size) (hn : n ≤ maxLen) :
    (w.alloc (.cells (madeCells z (n * K)) e)).ownsRow B e K (.slice (some ⟨w.heap.size, 0, none⟩) n n) n (madeCells z (n * K)).toList :=
  World.ownsRow_lit (base := B) (e := e) (size := K) w (madeCells z (n * K)) n hB hn (by rw [size_madeCells])

/-- The first k of xs are copied into F. -/
def Cop {α : Type} (R : World → α → List Value → Prop) (K : Nat) (w : World) (F : List Value) (xs : List α) (k : Nat) : Prop :=
  ∀ i x, i < k → xs[i]? = some x → ∃ vs, vs.length = K ∧ R w x vs ∧ ∀ j v, vs[j]? = some v → F[i * K + j]? = some v
theorem Cop.zero {α : Type} {R : World → α → List Value → Prop} {K : Nat} {w : World} {F : List Value} {xs : List α} : Cop R K w F xs 0 := fun i x hi => absurd hi (by omega)
theorem Cop.keep {α : Type} {R : World → α → List Value → Prop} {K : Nat} {w w' : World} {F : List Value} {xs : List α} {k : Nat} (h : Cop R K w F xs k) (hk : ∀ x vs, R w x vs → R w' x vs) : Cop R K w' F xs k := by
  intro i x hi hx
  obtain ⟨vs, h1, h2, h3⟩ := h i x hi hx
  exact ⟨vs, h1, hk _ _ h2, h3⟩
theorem Cop.rw {α : Type} {R : World → α → List Value → Prop} {K : Nat} {w : World} {F : List Value} {xs : List α} {e : TypeId} {B g n cap : Nat} (h : Cop R K w F xs n) (ho : w.ownsRow B e K (.slice (some ⟨g, 0, none⟩) n cap) n F) (hn : xs.length = n) :
    Rw R K w (some ⟨g, 0, none⟩) xs := by
  intro h0
  refine ⟨g, 0, rfl, (World.ownsRow.lt ho g rfl).2, fun i x hx => ?_⟩
  have hi := (List.getElem?_eq_some_iff.1 hx).1
  obtain ⟨vs, h1, h2, h3⟩ := h i x (by omega) hx
  refine ⟨vs, h1, h2, fun j v hv => ?_⟩
  have hj := (List.getElem?_eq_some_iff.1 hv).1
  have : (i + 1) * K ≤ n * K := Nat.mul_le_mul_right _ (by omega)
  rw [Nat.add_mul] at this
  rw [Nat.zero_add, World.ownsRow.cellAt ho _ (by omega)]
  exact h3 j v hv
theorem at_of {α : Type} {xs : List α} {k n : Nat} (h : xs.length = n) (hk : k < n) : ∃ x, xs[k]? = some x := ⟨_, List.getElem?_eq_getElem (by omega)⟩
end Go.Proofs.Ytfgghffgfefgpaa

namespace Go.Proofs.Ytfgghffgfefgpaa
open Go.RowKit Go.PlainAid
set_option linter.unusedVariables false

/-- The cells of the xs, one behind the other. -/
def flatS {α : Type} (c : α → List Value) (xs : List α) : List Value := xs.flatMap c
section Fl
variable {α : Type} {c : α → List Value} {K : Nat}
theorem flatS_append (xs ys : List α) : flatS c (xs ++ ys) = flatS c xs ++ flatS c ys := by simp [flatS]
theorem flatS_cons (x : α) (xs : List α) : flatS c (x :: xs) = c x ++ flatS c xs := rfl
theorem flatS_len (hK : ∀ x, (c x).length = K) : ∀ xs : List α, (flatS c xs).length = xs.length * K
  | [] => by simp [flatS]
  | x :: xs => by rw [flatS_cons, List.length_append, hK, flatS_len hK xs, List.length_cons, Nat.add_mul]; omega
theorem flatS_at (hK : ∀ x, (c x).length = K) : ∀ (xs : List α) (i : Nat) (x : α) (j : Nat), xs[i]? = some x → j < K → (flatS c xs)[i * K + j]? = (c x)[j]?
  | [], i, x, j, h, hj => by simp at h
  | y :: xs, 0, x, j, h, hj => by
    simp at h
    subst h
    rw [flatS_cons, List.getElem?_append_left (by rw [hK]; omega)]
    congr 1
    omega
  | y :: xs, i + 1, x, j, h, hj => by
    rw [flatS_cons, List.getElem?_append_right (by rw [hK, Nat.add_mul]; omega), hK, show (i + 1) * K + j - K = i * K + j by rw [Nat.add_mul]; omega]
    exact flatS_at hK xs i x j (by simpa using h) hj
theorem sets_mid : ∀ (vs B A C : List Value), B.length = vs.length → sets (A ++ (B ++ C)) A.length vs = A ++ (vs ++ C)
  | [], [], A, C, _ => rfl
  | v :: vs, b :: B, A, C, h => by
    have e : (A ++ ((b :: B) ++ C)).set A.length v = (A ++ [v]) ++ (B ++ C) := by simp
    have := sets_mid vs B (A ++ [v]) C (by simpa using h)
    unfold sets
    rw [e, show A.length + 1 = (A ++ [v]).length by simp, this]
    simp
theorem flatS_sets (hK : ∀ x, (c x).length = K) (xs : List α) (i : Nat) (y : α) (hi : i < xs.length) : flatS c (xs.set i y) = sets (flatS c xs) (i * K) (c y) := by
  obtain ⟨A, x, C, rfl, rfl⟩ : ∃ A x C, xs = A ++ x :: C ∧ A.length = i := ⟨xs.take i, xs[i], xs.drop (i + 1), by simp, by simp; omega⟩
  have e : (A ++ x :: C).set A.length y = A ++ y :: C := by simp
  rw [e, flatS_append, flatS_append, flatS_cons, flatS_cons, ← flatS_len hK, sets_mid _ _ _ _ (by rw [hK, hK])]
theorem flatS_set1 (hK : ∀ x, (c x).length = K) (xs : List α) (i : Nat) (x y : α) (j : Nat) (v : Value) (hx : xs[i]? = some x) (hj : j < K) (hy : c y = (c x).set j v) : flatS c (xs.set i y) = (flatS c xs).set (i * K + j) v := by
  have hi := (List.getElem?_eq_some_iff.1 hx).1
  obtain ⟨A, x', C, rfl, rfl⟩ : ∃ A x C, xs = A ++ x :: C ∧ A.length = i := ⟨xs.take i, xs[i], xs.drop (i + 1), by simp, by simp; omega⟩
  have ex : x' = x := by simpa using hx
  subst ex
  have e : (A ++ x' :: C).set A.length y = A ++ y :: C := by simp
  rw [e, flatS_append, flatS_append, flatS_cons, flatS_cons, ← flatS_len hK, hy, List.set_append_right _ _ (by omega), List.set_append_left _ _ (by rw [hK]; omega), show (flatS c A).length + j - (flatS c A).length = j by omega]
end Fl

/-- The slice value v owns the xs, in a block from B on. -/
def OwnS {α : Type} (c : α → List Value) (K : Nat) (e : TypeId) (w : World) (B : Nat) (v : Value) (xs : List α) : Prop := w.ownsRow B e K v xs.length (flatS c xs)
/-- A flat struct, its cells and what is known of it. -/
def FR {α : Type} (c : α → List Value) (ok : α → Prop) (w : World) (u : α) (vs : List Value) : Prop := vs = c u ∧ ok u
theorem FR.kp {α : Type} {c : α → List Value} {ok : α → Prop} : Kp (FR c ok) := fun _ _ _ _ h _ => h
section Ow
variable {α : Type} {c : α → List Value} {K : Nat} {e : TypeId} {w w' : World} {B : Nat} {v : Value} {xs : List α}
theorem OwnS.lt (h : OwnS c K e w B v xs) : ∀ k, v.ownBlock = some k → B ≤ k ∧ k < w.heap.size := World.ownsRow.lt h
theorem OwnS.keep {m : Nat} (h : OwnS c K e w B v xs) (hb : Below m w w') (hm : ∀ k, v.ownBlock = some k → k < m) : OwnS c K e w' B v xs := owns_keep h hb hm
theorem OwnS.now (h : OwnS c K e w B v xs) (hb : Below w.heap.size w w') : OwnS c K e w' B v xs := owns_now h hb
theorem OwnS.kept {r : Option Nat} (h : OwnS c K e w B v xs) (hg : w.grownBy w' r) (hne : v.ownBlock = none ∨ v.ownBlock ≠ r) : OwnS c K e w' B v xs := World.ownsRow.kept h hg hne
theorem OwnS.lower {B' : Nat} (h : OwnS c K e w B v xs) (hB : B' ≤ B) : OwnS c K e w B' v xs := by
  refine ⟨h.1, ?_⟩
  rcases h.2 with h' | ⟨g, cap, cur, h1, hb, h4⟩
  · exact .inl h'
  · exact .inr ⟨g, cap, cur, h1, Nat.le_trans hB hb, h4⟩
theorem OwnS.slice (h : OwnS c K e w B v xs) : ∃ a cap, v = .slice a xs.length cap ∧ xs.length ≤ cap ∧ cap ≤ maxLen ∧ (∀ b off, a = some ⟨b, off, none⟩ → B ≤ b ∧ b < w.heap.size) := by
  rcases h.2 with ⟨h1, h2⟩ | ⟨g, cap, cur, h1, hB, hg, h3, h4, _⟩
  · exact ⟨none, 0, by rw [h1, h2], by omega, Nat.zero_le _, fun b off e => by cases e⟩
  · exact ⟨_, cap, h1, h3, h4, fun b off e => by cases e; exact ⟨hB, (Array.getElem?_eq_some_iff.1 hg).1⟩⟩
theorem OwnS.form {a : Option Addr} {n cap : Nat} (h : OwnS c K e w B (.slice a n cap) xs) (h0 : 0 < xs.length) : ∃ g, a = some ⟨g, 0, none⟩ ∧ B ≤ g ∧ g < w.heap.size ∧ xs.length = n := by
  rcases h.2 with ⟨h1, h2⟩ | ⟨g, cap, cur, h1, hB, hg, _⟩
  · omega
  · cases h1
    exact ⟨g, rfl, hB, (Array.getElem?_eq_some_iff.1 hg).1, rfl⟩
theorem OwnS.len {a : Option Addr} {n cap : Nat} (h : OwnS c K e w B (.slice a n cap) xs) : xs.length = n := by
  rcases h.2 with ⟨h1, h2⟩ | ⟨g, cap, cur, h1, _⟩
  · cases h1
    exact h2
  · cases h1
    rfl
theorem OwnS.rw {a : Option Addr} {n cap : Nat} {ok : α → Prop} (h : OwnS c K e w B (.slice a n cap) xs) (hK : ∀ x, (c x).length = K) (hok : ∀ x, x ∈ xs → ok x) : Rw (FR c ok) K w a xs := by
  intro h0
  obtain ⟨g, rfl, hB, hg, rfl⟩ := h.form h0
  refine ⟨g, 0, rfl, hg, fun i x hx => ⟨c x, hK x, ⟨rfl, hok x (List.mem_of_getElem? hx)⟩, fun j u hu => ?_⟩⟩
  have hj := (List.getElem?_eq_some_iff.1 hu).1
  rw [hK] at hj
  have hi := (List.getElem?_eq_some_iff.1 hx).1
  have : (i + 1) * K ≤ xs.length * K := Nat.mul_le_mul_right _ hi
  rw [Nat.add_mul] at this
  rw [Nat.zero_add, World.ownsRow.cellAt h _ (by omega), flatS_at hK xs i x j hx hj]
  exact hu
/-- What a load from or a store into element i wants to know. -/
theorem OwnS.cell {g n cap : Nat} (h : OwnS c K e w B (.slice (some ⟨g, 0, none⟩) n cap) xs) (hK : ∀ x, (c x).length = K) {i j : Nat} {x : α} {u : Value} (hx : xs[i]? = some x) (hu : (c x)[j]? = some u) : w.cell? ⟨g, i * K + j, none⟩ = some u ∧ w.frozen? ⟨g, i * K + j, none⟩ = false := by
  obtain rfl := h.len
  have hj := (List.getElem?_eq_some_iff.1 hu).1
  rw [hK] at hj
  have hi := (List.getElem?_eq_some_iff.1 hx).1
  have : (i + 1) * K ≤ xs.length * K := Nat.mul_le_mul_right _ hi
  rw [Nat.add_mul] at this
  exact ⟨by rw [World.ownsRow.cellAt h _ (by omega), flatS_at hK xs i x j hx hj]; exact hu, World.ownsRow.frozenAt h _⟩
theorem OwnS.nil (w : World) (B : Nat) : OwnS c K e w B (.slice none 0 0) ([] : List α) := World.ownsRow_nil w _ _ _
theorem OwnS.lit (w : World) (B : Nat) (hB : B ≤ w.heap.size) : OwnS c K e (w.alloc (.cells #[] e)) B (.slice (some ⟨w.heap.size, 0, none⟩) 0 0) ([] : List α) := World.ownsRow_lit w #[] 0 hB (Nat.zero_le _) (by simp)
/-- An element stored whole. -/
theorem OwnS.store {g n cap : Nat} (h : OwnS c K e w B (.slice (some ⟨g, 0, none⟩) n cap) xs) (hK : ∀ x, (c x).length = K) {i : Nat} (hi : i < n) (y : α) :
    OwnS c K e (wsets w g (i * K) (c y)) B (.slice (some ⟨g, 0, none⟩) n cap) (xs.set i y) ∧ w.grownBy (wsets w g (i * K) (c y)) (some g) := by
  obtain rfl := h.len
  have := owns_sets (c y) w _ (i * K) h
  refine ⟨?_, this.2⟩
  unfold OwnS
  rw [flatS_sets hK xs i y hi, List.length_set]
  exact this.1
/-- A field stored. -/
theorem OwnS.set1 {g n cap : Nat} (h : OwnS c K e w B (.slice (some ⟨g, 0, none⟩) n cap) xs) (hK : ∀ x, (c x).length = K) {i j : Nat} {x y : α} {u : Value} (hx : xs[i]? = some x) (hj : j < K) (hy : c y = (c x).set j u) :
    OwnS c K e (w.setCell ⟨g, i * K + j, none⟩ u) B (.slice (some ⟨g, 0, none⟩) n cap) (xs.set i y) ∧ w.grownBy (w.setCell ⟨g, i * K + j, none⟩ u) (some g) := by
  obtain rfl := h.len
  have := World.ownsRow.stored h (i * K + j) u
  refine ⟨?_, this.2⟩
  unfold OwnS
  rw [flatS_set1 hK xs i x y j u hx hj hy, List.length_set]
  exact this.1
end Ow
theorem made_flatS {α : Type} (c : α → List Value) (z : α) (Z : Array Value) (hz : Z.toList = c z) (h0 : 0 < Z.size) (n : Nat) : (madeCells Z (n * Z.size)).toList = flatS c (List.replicate n z) := by
  have hK : ∀ x ∈ [z], (c x).length = Z.size := by intro x hx; simp at hx; subst hx; rw [← hz]; simp
  have flat_at : ∀ (n i j : Nat), i < n → j < Z.size → (flatS c (List.replicate n z))[i * Z.size + j]? = (c z)[j]? := by
    intro n
    induction n with
    | zero => intro i j hi; omega
    | succ n ih =>
      intro i j hi hj
      rw [List.replicate_succ, flatS_cons]
      cases i with
      | zero => rw [List.getElem?_append_left (by rw [hK z (by simp)]; omega)]; congr 1; omega
      | succ i =>
        rw [List.getElem?_append_right (by rw [hK z (by simp), Nat.add_mul]; omega), hK z (by simp), show (i + 1) * Z.size + j - Z.size = i * Z.size + j by rw [Nat.add_mul]; omega]
        exact ih i j (by omega) hj
  have hlen : ∀ n, (flatS c (List.replicate n z)).length = n * Z.size := by
    intro n
    induction n with
    | zero => simp [flatS]
    | succ n ih => rw [List.replicate_succ, flatS_cons, List.length_append, ih, hK z (by simp), Nat.add_mul]; omega
  apply List.ext_getElem?
  intro m
  by_cases hm : m < n * Z.size
  · have e1 : m = m / Z.size * Z.size + m % Z.size := by rw [Nat.mul_comm]; exact (Nat.div_add_mod m Z.size).symm
    have hq : m / Z.size < n := (Nat.div_lt_iff_lt_mul h0).2 hm
    have hr : m % Z.size < Z.size := Nat.mod_lt _ h0
    have e2 := flat_at n (m / Z.size) (m % Z.size) hq hr
    rw [← e1] at e2
    rw [e2, ← hz]
    simp [madeCells, hm, hr]
  · rw [List.getElem?_eq_none (by rw [Array.length_toList, size_madeCells]; omega), List.getElem?_eq_none (by rw [hlen]; omega)]
theorem OwnS.made {α : Type} {c : α → List Value} {K : Nat} (w : World) (e : TypeId) (B n : Nat) (z : α) (Z : Array Value) (hz : Z.toList = c z) (hZ : Z.size = K) (h0 : 0 < K) (hB : B ≤ w.heap.size) (hn : n ≤ maxLen) : OwnS c K e (w.alloc (.cells (madeCells Z (n * K)) e)) B (.slice (some ⟨w.heap.size, 0, none⟩) n n) (List.replicate n z) := by
  subst hZ
  have := owns_made w e B n Z.size Z hB hn
  unfold OwnS
  rw [made_flatS c z Z hz h0 n] at this
  rwa [List.length_replicate]
theorem takeS_set {α : Type} {L zs : List α} {k : Nat} {x : α} (hl : L.length = zs.length) (hx : zs[k]? = some x) (h : L.take k = zs.take k) : (L.set k x).take (k + 1) = zs.take (k + 1) := by
  have hk := (List.getElem?_eq_some_iff.1 hx).1
  have e1 : (L.set k x).take (k + 1) = (L.set k x).take k ++ [x] := by rw [List.take_add_one, List.getElem?_set_self (by omega)]; rfl
  have e2 : zs.take (k + 1) = zs.take k ++ [x] := by rw [List.take_add_one, hx]; rfl
  rw [e1, e2, List.take_set_of_le (Nat.le_refl _), h]
end Go.Proofs.Ytfgghffgfefgpaa

namespace Go.Proofs.Ytfgghffgfefgpaa
open Go.RowKit Go.PlainAid
set_option linter.unusedVariables false

structure ConnV where
  mc : ByteArray
  ip : Int
  po : Int
  di : Int
  st : Int
  un : Int
  nx : Int
  wa : Int
  inn : ByteArray
  out : ByteArray
  fin : Bool

instance : Inhabited ConnV := ⟨⟨⟨#[]⟩, 0, 0, 0, 0, 0, 0, 0, ⟨#[]⟩, ⟨#[]⟩, false⟩⟩
structure SegV where
  sp : Int
  dp : Int
  sq : Int
  ac : Int
  fl : Int
  wi : Int
  da : ByteArray

instance : Inhabited SegV := ⟨⟨0, 0, 0, 0, 0, 0, ⟨#[]⟩⟩⟩
def sgG (u : SegV) : List Value := [.int .i64 u.sp, .int .i64 u.dp, .int .i64 u.sq, .int .i64 u.ac, .int .i64 u.fl, .int .i64 u.wi, .string u.da]
def SgRok (u : SegV) : Prop := (Lit.int .i64 u.sp).wf = true ∧ (Lit.int .i64 u.dp).wf = true ∧ (Lit.int .i64 u.sq).wf = true ∧ (Lit.int .i64 u.ac).wf = true ∧ (Lit.int .i64 u.fl).wf = true ∧ (Lit.int .i64 u.wi).wf = true ∧ u.da.size ≤ maxLen
abbrev SgR := FR sgG SgRok
theorem sgG_len (u : SegV) : (sgG u).length = 7 := rfl
end Go.Proofs.Ytfgghffgfefgpaa

namespace Go.Proofs.Ytfgghffgfefgpaa.Bt
open Go.RowKit
set_option linter.unusedVariables false

theorem ofInt_i64 (a : Nat) (ha : a < 9223372036854775808) : (BitVec.ofInt 64 (a : Int)).toNat = a := by
  rw [BitVec.ofInt_natCast, BitVec.toNat_ofNat]; exact Nat.mod_eq_of_lt (by omega)
theorem and_nat (a b : Nat) (ha : a < 9223372036854775808) (hb : b < 9223372036854775808) : bits .and .i64 (a : Int) (b : Int) = ((a &&& b : Nat) : Int) := by
  have hx : a &&& b < 2 ^ 63 := Nat.and_lt_two_pow _ (by omega)
  show IntKind.i64.wrap ((BitVec.ofInt 64 (a : Int) &&& BitVec.ofInt 64 (b : Int)).toNat : Int) = _
  rw [BitVec.toNat_and, ofInt_i64 a ha, ofInt_i64 b hb, IntKind.wrap_i64]
  omega
/-- 'n & (2^i - 1)'. -/
theorem mask (i : Nat) (hi : i < 63) (n : Int) (h0 : 0 ≤ n) (h1 : n ≤ 9223372036854775807) : bits BinOp.and IntKind.i64 n ((2 ^ i - 1 : Nat) : Int) = n % ((2 ^ i : Nat) : Int) := by
  obtain ⟨m, rfl⟩ := Int.eq_ofNat_of_zero_le h0
  have hp : 2 ^ i ≤ 2 ^ 62 := Nat.pow_le_pow_right (by omega) (by omega)
  rw [and_nat m (2 ^ i - 1) (by omega) (by omega), Nat.and_two_pow_sub_one_eq_mod]
  omega
end Go.Proofs.Ytfgghffgfefgpaa.Bt

namespace Go.Proofs.Ytfgghffgfefgpaa.Pl
open Go.RowKit Go.PlainAid
set_option linter.unusedVariables false

end Go.Proofs.Ytfgghffgfefgpaa.Pl

namespace Go.Proofs.Ytfgghffgfefgpaa
open Go.RowKit Go.PlainAid Go.Proofs.Ytfgghffgfefgpaa.Pl
set_option linter.unusedVariables false

/-- A slice of bytes: its numbers are 'f 0', 'f 1' .. -/
def Bytes (w : World) (a : Option Addr) (len : Nat) (f : Nat → Int) : Prop :=
  (∀ k, 0 ≤ f k ∧ f k ≤ 255) ∧ (0 < len → ∃ b off, a = some ⟨b, off, none⟩ ∧ ∀ i, i < len → w.cell? ⟨b, off + i, none⟩ = some (.int .u8 (f i)))

/-- The same row as a string. -/
def strOf (f : Nat → Int) (n : Nat) : ByteArray := strOfNums ((List.range n).map f)

theorem conv_row {P : Program} (w : World) (src dst e : TypeId) (hs : P.underlying src = some (.slice e)) (he : P.underlying e = some (.int .u8)) (hd : P.underlying dst = some .string)
    (a : Option Addr) (len cap : Nat) (f : Nat → Int) (h : Bytes w a len f) :
    (convert src dst (.slice a len cap)).run P w = .ok (.string (strOf f len)) w := by
  rcases Nat.eq_zero_or_pos len with h0 | h0
  · subst h0
    have e0 : strOf f 0 = ByteArray.empty := by simp [strOf, strOfNums, ByteArray.empty, ByteArray.emptyWithCapacity]; rfl
    rw [e0]
    cases a with
    | none => exact run_convert_bytes_nil w src e hs he 0 cap dst hd
    | some x =>
      rw [run_convert_bytes_string w src dst e _ 0 cap hs he hd]
      exact run_bytesToString w x 0 cap [] (by simpa using run_loadCells_list (P := P) w x [] (fun j v hj => by simp at hj))
  · obtain ⟨b, off, rfl, hc⟩ := h.2 h0
    exact run_convert_bytes_arg w src e hs he b off len cap ((List.range len).map f) (by simp) (fun i hi => by rw [hc i hi]; simp [hi]) dst hd

theorem Bytes.below {B : Nat} {w w' : World} {a : Option Addr} {len : Nat} {f : Nat → Int} (h : Bytes w a len f) (hb : Below B w w') (hlt : ∀ b off, 0 < len → a = some ⟨b, off, none⟩ → b < B) : Bytes w' a len f := by
  refine ⟨h.1, fun h0 => ?_⟩
  obtain ⟨b, off, rfl, hc⟩ := h.2 h0
  exact ⟨b, off, rfl, fun i hi => by rw [hb.cell (p := ⟨b, off + i, none⟩) (hlt b off h0 rfl)]; exact hc i hi⟩
end Go.Proofs.Ytfgghffgfefgpaa

namespace Go.Proofs.Ytfgghffgfefgpaa
open Go.RowKit Go.PlainAid
set_option linter.unusedVariables false

/-- Behind w a new block of len cells was made; the first k of them are 'f 0' .. -/
def Fill (w wr : World) (len k : Nat) (f : Nat → Int) : Prop :=
  Below w.heap.size w wr ∧ w.heap.size < wr.heap.size ∧ (∀ i, wr.frozen? ⟨w.heap.size, i, none⟩ = false) ∧ (∀ i, i < len → ∃ v, wr.cell? ⟨w.heap.size, i, none⟩ = some v) ∧ ∀ i, i < k → wr.cell? ⟨w.heap.size, i, none⟩ = some (.int .u8 (f i))

theorem Fill.bytes {w wr : World} {len : Nat} {f : Nat → Int} (h : Fill w wr len len f) (hf : ∀ k, 0 ≤ f k ∧ f k ≤ 255) : Bytes wr (some ⟨w.heap.size, 0, none⟩) len f :=
  ⟨hf, fun _ => ⟨w.heap.size, 0, rfl, fun i hi => by rw [Nat.zero_add]; exact h.2.2.2.2 i hi⟩⟩
end Go.Proofs.Ytfgghffgfefgpaa

namespace Go.Proofs.Ytfgghffgfefgpaa
open Go.RowKit Go.PlainAid
set_option linter.unusedVariables false
set_option maxRecDepth 20000

end Go.Proofs.Ytfgghffgfefgpaa

namespace Go.Proofs.Ytfgghffgfefgpaa
open Go.RowKit Go.PlainAid
set_option linter.unusedVariables false
set_option maxRecDepth 20000

theorem l01In_any (n lo hi : Int) (w : World) : Calls Try.prog 74 #[.int .i64 n, .int .i64 lo, .int .i64 hi] w fun e w' => e = .returned (.bool (decide (lo ≤ n ∧ n ≤ hi))) ∧ w' = w := by
  by_cases h1 : lo ≤ n
  · by_cases h2 : n ≤ hi
    · go_enter Try.func74, Try.ntmps74
      go_wp2
      go_ret
      exact ⟨congrArg (fun b => Ending.returned (.bool b)) (by simp [h1, h2]), rfl⟩
    · go_enter Try.func74, Try.ntmps74
      go_wp2
      go_ret
      exact ⟨congrArg (fun b => Ending.returned (.bool b)) (by simp [h2]), rfl⟩
  · have h1' : decide (lo ≤ n) = false := by simp; omega
    go_enter Try.func74, Try.ntmps74
    go_wp2
    go_ret
    exact ⟨congrArg (fun b => Ending.returned (.bool b)) (by simp), rfl⟩

end Go.Proofs.Ytfgghffgfefgpaa

namespace Go.Proofs.Ytfgghffgfefgpaa
open Go.RowKit Go.PlainAid
set_option linter.unusedVariables false

theorem hasRoom_y (n : Int) (m : Nat) (w : World) (h1 : 1 ≤ m) (h6 : m ≤ 6) (hn : 0 ≤ n) (hr : n < 2 ^ (8 * m)) (hx : n ≤ 9223372036854775807) :
    Calls Try.prog 63 #[.int .i64 n, .int .i64 m] w fun e w' => e = .returned (.bool true) ∧ w' = w := by
  have b3 : decide (0 ≤ n) = true := by simp; omega
  have b4 : (n / 2 ^ (8 * m) == 0) = true := by simp; exact Int.ediv_eq_zero_of_lt hn hr
  clear hr
  go_enter Try.func63, Try.ntmps63
  go_wp2
  go_ret
  exact ⟨rfl, rfl⟩
theorem hasRoom_n (n : Int) (m : Nat) (w : World) (h1 : 1 ≤ m) (h6 : m ≤ 6) (h : n < 0 ∨ 2 ^ (8 * m) ≤ n) (hx : n ≤ 9223372036854775807) :
    Calls Try.prog 63 #[.int .i64 n, .int .i64 m] w fun e w' => e = .returned (.bool false) ∧ w' = w := by
  by_cases h0 : n < 0
  · have b3 : decide (0 ≤ n) = false := by simp; omega
    clear h
    go_enter Try.func63, Try.ntmps63
    go_wp2
    go_ret
    exact ⟨rfl, rfl⟩
  · have b3 : decide (0 ≤ n) = true := by simp; omega
    have hp : (0 : Int) < 2 ^ (8 * m) := Int.pow_pos (by omega)
    have hq : 1 ≤ n / 2 ^ (8 * m) := by rw [Int.le_ediv_iff_mul_le hp]; omega
    have b4 : (n / 2 ^ (8 * m) == 0) = false := by rw [beq_eq_false_iff_ne]; omega
    clear h hp hq
    go_enter Try.func63, Try.ntmps63
    go_wp2
    go_ret
    exact ⟨rfl, rfl⟩

theorem addressOK_y (n : Int) (w : World) (h0 : 0 ≤ n) (h1 : n ≤ 4294967295) :
    Calls Try.prog 47 #[.int .i64 n] w fun e w' => e = .returned (.bool true) ∧ w' = w := by
  go_enter Try.func47, Try.ntmps47
  go_wp2
  go_ret
  exact ⟨congrArg (fun b => Ending.returned (.bool b)) (by simp), rfl⟩
theorem addressOK_n (n : Int) (w : World) (h : ¬ (0 ≤ n ∧ n ≤ 4294967295)) :
    Calls Try.prog 47 #[.int .i64 n] w fun e w' => e = .returned (.bool false) ∧ w' = w := by
  by_cases h0 : 0 ≤ n
  · have h2 : ¬ n ≤ 4294967295 := fun hh => h ⟨h0, hh⟩
    clear h
    go_enter Try.func47, Try.ntmps47
    go_wp2
    go_ret
    exact ⟨congrArg (fun b => Ending.returned (.bool b)) (by simp), rfl⟩
  · clear h
    have b : decide (0 ≤ n) = false := by simp; omega
    go_enter Try.func47, Try.ntmps47
    go_wp2
    go_ret
    exact ⟨rfl, rfl⟩
end Go.Proofs.Ytfgghffgfefgpaa

namespace Go.Proofs.Ytfgghffgfefgpaa
open Go.RowKit Go.PlainAid
set_option linter.unusedVariables false
set_option maxRecDepth 20000

/-- Whether it holds: a name that no rule looks into. -/
def dec (p : Prop) [Decidable p] : Bool := decide p
theorem dec_y {p : Prop} [Decidable p] (h : p) : dec p = true := decide_eq_true h
theorem dec_n {p : Prop} [Decidable p] (h : ¬ p) : dec p = false := decide_eq_false h

theorem hasRoom_any (n : Int) (m : Nat) (M : Int) (w : World) (h1 : 1 ≤ m) (h6 : m ≤ 6) (hM : (2 : Int) ^ (8 * m) = M + 1) (hx : n ≤ 9223372036854775807) :
    Calls Try.prog 63 #[.int .i64 n, .int .i64 m] w fun e w' => e = .returned (.bool (dec (0 ≤ n ∧ n ≤ M))) ∧ w' = w := by
  by_cases h : 0 ≤ n ∧ n ≤ M
  · exact (hasRoom_y n m w h1 h6 h.1 (by rw [hM]; omega) hx).mono fun e w' hh => ⟨by rw [dec_y h]; exact hh.1, hh.2⟩
  · exact (hasRoom_n n m w h1 h6 (by rw [hM]; omega) hx).mono fun e w' hh => ⟨by rw [dec_n h]; exact hh.1, hh.2⟩
theorem hasRoom2 (n : Int) (w : World) (hx : n ≤ 9223372036854775807) : Calls Try.prog 63 #[.int .i64 n, .int .i64 2] w fun e w' => e = .returned (.bool (dec (0 ≤ n ∧ n ≤ 65535))) ∧ w' = w :=
  hasRoom_any n 2 65535 w (by omega) (by omega) rfl hx
theorem hasRoom4 (n : Int) (w : World) (hx : n ≤ 9223372036854775807) : Calls Try.prog 63 #[.int .i64 n, .int .i64 4] w fun e w' => e = .returned (.bool (dec (0 ≤ n ∧ n ≤ 4294967295))) ∧ w' = w :=
  hasRoom_any n 4 4294967295 w (by omega) (by omega) rfl hx
theorem addressOK_any (n : Int) (w : World) : Calls Try.prog 47 #[.int .i64 n] w fun e w' => e = .returned (.bool (dec (0 ≤ n ∧ n ≤ 4294967295))) ∧ w' = w := by
  by_cases h : 0 ≤ n ∧ n ≤ 4294967295
  · exact (addressOK_y n w h.1 h.2).mono fun e w' hh => ⟨by rw [dec_y h]; exact hh.1, hh.2⟩
  · exact (addressOK_n n w h).mono fun e w' hh => ⟨by rw [dec_n h]; exact hh.1, hh.2⟩
theorem portOK_any (n : Int) (w : World) (hx : n ≤ 9223372036854775807) : Calls Try.prog 62 #[.int .i64 n] w fun e w' => e = .returned (.bool (dec (0 ≤ n ∧ n ≤ 65535))) ∧ w' = w := by
  go_enter Try.func62, Try.ntmps62
  go_wp2_with fail
  refine (hasRoom2 _ _ hx).mono ?_
  rintro e w1 ⟨rfl, hw1⟩
  obtain rfl := hw1.symm
  clear hw1
  go_wp2
  go_ret
  exact ⟨rfl, rfl⟩
theorem flagsOK_any (n : Int) (w : World) : Calls Try.prog 64 #[.int .i64 n] w fun e w' => e = .returned (.bool (dec (0 ≤ n ∧ n ≤ 31))) ∧ w' = w := by
  by_cases h0 : 0 ≤ n
  · go_enter Try.func64, Try.ntmps64
    go_wp2
    go_ret
    exact ⟨congrArg (fun b => Ending.returned (.bool b)) (by simp [dec, h0]), rfl⟩
  · have b : decide (0 ≤ n) = false := by simp; omega
    go_enter Try.func64, Try.ntmps64
    go_wp2
    go_ret
    exact ⟨congrArg (fun b => Ending.returned (.bool b)) (by rw [dec_n]; omega), rfl⟩
theorem specIn_any (n lo hi : Int) (w : World) : Calls Try.prog 74 #[.int .i64 n, .int .i64 lo, .int .i64 hi] w fun e w' => e = .returned (.bool (dec (lo ≤ n ∧ n ≤ hi))) ∧ w' = w := l01In_any n lo hi w
theorem specIp_any (n : Int) (w : World) : Calls Try.prog 73 #[.int .i64 n] w fun e w' => e = .returned (.bool (dec (0 ≤ n ∧ n ≤ 4294967295))) ∧ w' = w := by
  go_enter Try.func73, Try.ntmps73
  go_wp2_with fail
  refine (specIn_any _ _ _ _).mono ?_
  rintro e w1 ⟨rfl, hw1⟩
  obtain rfl := hw1.symm
  clear hw1
  go_wp2
  go_ret
  exact ⟨rfl, rfl⟩
theorem specPort_any (n : Int) (w : World) : Calls Try.prog 76 #[.int .i64 n] w fun e w' => e = .returned (.bool (dec (0 ≤ n ∧ n ≤ 65535))) ∧ w' = w := by
  go_enter Try.func76, Try.ntmps76
  go_wp2_with fail
  refine (specIn_any _ _ _ _).mono ?_
  rintro e w1 ⟨rfl, hw1⟩
  obtain rfl := hw1.symm
  clear hw1
  go_wp2
  go_ret
  exact ⟨rfl, rfl⟩
end Go.Proofs.Ytfgghffgfefgpaa

namespace Go.Proofs.Ytfgghffgfefgpaa
open Go.RowKit Go.PlainAid
set_option linter.unusedVariables false

end Go.Proofs.Ytfgghffgfefgpaa

namespace Go.Proofs.Ytfgghffgfefgpaa
open Go.RowKit Go.PlainAid
set_option linter.unusedVariables false
set_option maxRecDepth 20000
theorem between_any (n lo hi : Int) (w : World) : Calls Try.prog 52 #[.int .i64 n, .int .i64 lo, .int .i64 hi] w fun e w' => e = .returned (.bool (decide (lo ≤ n ∧ n ≤ hi))) ∧ w' = w := by
  by_cases h1 : lo ≤ n
  · by_cases h2 : n ≤ hi
    · go_enter Try.func52, Try.ntmps52
      go_wp2
      go_ret
      exact ⟨congrArg (fun b => Ending.returned (.bool b)) (by simp [h1, h2]), rfl⟩
    · go_enter Try.func52, Try.ntmps52
      go_wp2
      go_ret
      exact ⟨congrArg (fun b => Ending.returned (.bool b)) (by simp [h2]), rfl⟩
  · have h1' : decide (lo ≤ n) = false := by simp; omega
    go_enter Try.func52, Try.ntmps52
    go_wp2
    go_ret
    exact ⟨congrArg (fun b => Ending.returned (.bool b)) (by simp), rfl⟩
end Go.Proofs.Ytfgghffgfefgpaa

namespace Go.Proofs.Ytfgghffgfefgpaa
open Go.RowKit Go.PlainAid Go.Sort
set_option linter.unusedVariables false

/-- Draws, and new blocks alone. -/
def Grw (w w' : World) : Prop := ∃ q os, w' = grow (w.drewN q) os
theorem Grw.refl (w : World) : Grw w w := ⟨0, #[], by rw [grow_empty]; rfl⟩
theorem Grw.drew {w w' : World} (h : Grw w w') : Grw w w'.drew := by
  obtain ⟨q, os, rfl⟩ := h
  exact ⟨q + 1, os, by rw [drew_grow]; congr 1⟩
theorem Grw.alloc {w w' : World} (h : Grw w w') (o : Obj) : Grw w (w'.alloc o) := by
  obtain ⟨q, os, rfl⟩ := h
  exact ⟨q, os ++ #[o], by rw [alloc_eq_grow, grow_grow]⟩
theorem Grw.trans {w w1 w2 : World} (h : Grw w w1) (h2 : Grw w1 w2) : Grw w w2 := by
  obtain ⟨q, os, rfl⟩ := h
  obtain ⟨r, os2, rfl⟩ := h2
  refine ⟨q + r, os ++ os2, ?_⟩
  show grow (grow ((w.drewN q).drewN r) os) os2 = _
  rw [grow_grow, World.drewN_drewN]
theorem below_grow (w : World) (q : Nat) (os : Array Obj) : Below w.heap.size w (grow (w.drewN q) os) := by
  refine ⟨rfl, rfl, rfl, ?_, fun k hk => ?_⟩
  · show w.heap.size ≤ (w.heap ++ os).size
    rw [Array.size_append]; omega
  · exact heap_grow_old (w.drewN q) os hk
theorem Grw.below {w w' : World} (h : Grw w w') : Below w.heap.size w w' := by
  obtain ⟨q, os, rfl⟩ := h
  exact below_grow w q os

theorem grown_cell {w wr : World} {b off : Nat} {v : Value} (hb : b < w.heap.size) (hG : Grw w wr) (h : wr.cell? ⟨b, off, none⟩ = some v) (n : Nat) (os : Array Obj) : (grow (wr.drewN n) os).cell? ⟨b, off, none⟩ = some v :=
  cell_grown (Nat.lt_of_lt_of_le hb hG.below.size) h n os

end Go.Proofs.Ytfgghffgfefgpaa

namespace Go.Proofs.Ytfgghffgfefgpaa
open Go.RowKit Go.PlainAid Go.Proofs.Ytfgghffgfefgpaa.Bt Go.Sort
set_option linter.unusedVariables false
set_option maxRecDepth 20000

/-- The number's place in the round. -/
def sqN (n : Int) : Int := n % 4294967296
theorem sqN_bd (n : Int) : 0 ≤ sqN n ∧ sqN n ≤ 4294967295 := by unfold sqN; omega
/-- 'n & MaxAddress', also below 0. -/
theorem mask32 (n : Int) (h0 : -9223372036854775808 ≤ n) (h1 : n ≤ 9223372036854775807) : bits BinOp.and IntKind.i64 n 4294967295 = sqN n := by
  by_cases hn : 0 ≤ n
  · exact mask 32 (by omega) n hn h1
  · have e : bits BinOp.and IntKind.i64 n 4294967295 = bits BinOp.and IntKind.i64 ((n + 18446744073709551616) % 4294967296) 4294967295 := by
      show IntKind.i64.wrap ((BitVec.ofInt 64 n &&& BitVec.ofInt 64 4294967295).toNat : Int) = IntKind.i64.wrap ((BitVec.ofInt 64 ((n + 18446744073709551616) % 4294967296) &&& BitVec.ofInt 64 4294967295).toNat : Int)
      congr 2
      rw [BitVec.toNat_and, BitVec.toNat_and]
      have e1 : (BitVec.ofInt 64 (4294967295 : Int)).toNat = 2 ^ 32 - 1 := by decide
      rw [e1, Nat.and_two_pow_sub_one_eq_mod, Nat.and_two_pow_sub_one_eq_mod, BitVec.toNat_ofInt, BitVec.toNat_ofInt]
      omega
    rw [e]
    have := mask 32 (by omega) ((n + 18446744073709551616) % 4294967296) (by omega) (by omega)
    rw [show bits BinOp.and IntKind.i64 ((n + 18446744073709551616) % 4294967296) 4294967295 = (n + 18446744073709551616) % 4294967296 % ((2 ^ 32 : Nat) : Int) from this]
    unfold sqN
    omega
theorem l10Seq_any (n : Int) (w : World) (h0 : -9223372036854775808 ≤ n) (h1 : n ≤ 9223372036854775807) : Calls Try.prog 61 #[.int .i64 n] w fun e w' => e = .returned (.int .i64 (sqN n)) ∧ w' = w := by
  have hm := mask32 n h0 h1
  generalize sqN n = z at hm ⊢
  go_enter Try.func61, Try.ntmps61
  go_wp2
  go_ret
  exact ⟨by first | rfl | (rw [hm]; rfl), rfl⟩
theorem seqOK_any (n : Int) (w : World) : Calls Try.prog 48 #[.int .i64 n] w fun e w' => e = .returned (.bool (dec (0 ≤ n ∧ n ≤ 4294967295))) ∧ w' = w := by
  have HB : Hid (∀ w, Calls Try.prog 52 #[.int .i64 n, .int .i64 0, .int .i64 4294967295] w fun e w' => e = .returned (.bool (dec (0 ≤ n ∧ n ≤ 4294967295))) ∧ w' = w) := fun w => between_any n 0 4294967295 w
  generalize dec (0 ≤ n ∧ n ≤ 4294967295) = z at HB ⊢
  go_enter Try.func48, Try.ntmps48
  go_wp2_with fail
  refine (HB.out _).mono ?_
  rintro e w1 ⟨rfl, hw⟩
  subst hw
  go_wp2
  go_ret
  exact ⟨rfl, rfl⟩
theorem seqAfter_any (n b : Int) (w : World) (h0 : 0 ≤ n) (h1 : n ≤ 4294967296) (h2 : 0 ≤ b) (h3 : b ≤ 4294967296) : Calls Try.prog 40 #[.int .i64 n, .int .i64 b] w fun e w' => e = .returned (.int .i64 (sqN (n + b))) ∧ w' = w := by
  have ht : (n + b).tmod 4294967296 = (n + b) % 4294967296 := Int.tmod_eq_emod_of_nonneg (by omega)
  go_enter Try.func40, Try.ntmps40
  go_wp2
  go_ret
  exact ⟨by first | rfl | (unfold sqN; rw [ht]), rfl⟩
theorem seqWay_any (a b : Int) (w : World) (h0 : 0 ≤ a) (h1 : a ≤ 4294967295) (h2 : 0 ≤ b) (h3 : b ≤ 4294967295) : Calls Try.prog 53 #[.int .i64 a, .int .i64 b] w fun e w' => e = .returned (.int .i64 (sqN (b - a))) ∧ w' = w := by
  have ht : (b - a + 4294967296).tmod 4294967296 = (b - a + 4294967296) % 4294967296 := Int.tmod_eq_emod_of_nonneg (by omega)
  have he : (b - a + 4294967296) % 4294967296 = (b - a) % 4294967296 := by omega
  go_enter Try.func53, Try.ntmps53
  go_wp2
  go_ret
  exact ⟨by unfold sqN; first | rfl | (rw [ht, he]; rfl), rfl⟩
end Go.Proofs.Ytfgghffgfefgpaa

namespace Go.Proofs.Ytfgghffgfefgpaa
open Go.RowKit Go.PlainAid
set_option linter.unusedVariables false
theorem Grw.keep {w w' : World} (h : Grw w w') {a : Addr} {v : Value} (hc : w.cell? a = some v) : w'.cell? a = some v := by
  rw [h.below.cell (World.block_lt_of_cell? w a hc)]; exact hc
theorem bkeep {w w' : World} (h : Below w.heap.size w w') {a : Addr} {v : Value} (hc : w.cell? a = some v) : w'.cell? a = some v := by
  rw [h.cell (World.block_lt_of_cell? w a hc)]; exact hc
theorem acell {w : World} {a : Addr} {v : Value} (h : w.cell? a = some v) (o : Obj) : (w.alloc o).cell? a = some v := bkeep ((Below.refl _ _).alloc (Nat.le_refl _) o) h
theorem bthaw {w w' : World} (h : Below w.heap.size w w') {a : Addr} {v : Value} (hc : w.cell? a = some v) (hf : w.frozen? a = false) : w'.frozen? a = false := by
  rw [h.frozen (World.block_lt_of_cell? w a hc)]; exact hf
end Go.Proofs.Ytfgghffgfefgpaa

namespace Go.Proofs.Ytfgghffgfefgpaa
open Go.RowKit Go.PlainAid
set_option linter.unusedVariables false

/-- The slice value v owns the bytes L, in a block from B on. -/
def OwnL (e : TypeId) (w : World) (B : Nat) (v : Value) (L : List Int) : Prop := w.ownsRow B e 1 v L.length (L.map (Value.int .u8))

theorem OwnL.slice {e : TypeId} {w : World} {B : Nat} {v : Value} {L : List Int} (h : OwnL e w B v L) (hL : ∀ x ∈ L, 0 ≤ x ∧ x ≤ 255) :
    ∃ a cap, v = .slice a L.length cap ∧ Bytes w a L.length (fun j => L.getD j 0) ∧ ∀ b off, a = some ⟨b, off, none⟩ → B ≤ b := by
  have hf : ∀ k, 0 ≤ L.getD k 0 ∧ L.getD k 0 ≤ 255 := by
    intro k
    by_cases hk : k < L.length
    · rw [List.getD_eq_getElem?_getD, List.getElem?_eq_getElem hk]; exact hL _ (List.getElem_mem hk)
    · rw [List.getD_eq_getElem?_getD, List.getElem?_eq_none (by omega)]; simp
  rcases h.2 with ⟨h1, h2⟩ | ⟨g, cap, cur, h1, hB, hg, hle, hm, hs, ht⟩
  · have e0 : L = [] := by simpa using h2
    subst e0
    exact ⟨none, 0, by simpa using h1, ⟨hf, fun h0 => absurd h0 (by simp)⟩, fun b off h => by cases h⟩
  · refine ⟨some ⟨g, 0, none⟩, cap, by simpa using h1, ⟨hf, fun h0 => ⟨g, 0, rfl, fun i hi => ?_⟩⟩, fun b off h => by cases h; exact hB⟩
    have hc := World.ownsRow.cells h (g := g) (by rw [h1]; rfl) i (.int .u8 (L.getD i 0)) (by simp [hi])
    have ea : (⟨g, 0, none⟩ : Addr).add i = ⟨g, 0 + i, none⟩ := by unfold Addr.add; split <;> simp_all
    rw [ea] at hc
    exact hc

theorem strOf_list (L : List Int) : strOf (fun j => L.getD j 0) L.length = strOfNums L := by
  unfold strOf
  congr 1
  apply List.ext_getElem?
  intro i
  by_cases hi : i < L.length
  · simp [hi]
  · simp [hi]

/-- 'string(out)'. -/
theorem conv_own {P : Program} (w : World) (src dst e : TypeId) (hs : P.underlying src = some (.slice e)) (he : P.underlying e = some (.int .u8)) (hd : P.underlying dst = some .string)
    (a : Option Addr) (cap : Nat) (L : List Int) (h : Bytes w a L.length (fun j => L.getD j 0)) :
    (convert src dst (.slice a L.length cap)).run P w = .ok (.string (strOfNums L)) w := by
  rw [conv_row w src dst e hs he hd a L.length cap _ h, strOf_list]

end Go.Proofs.Ytfgghffgfefgpaa

namespace Go.Proofs.Ytfgghffgfefgpaa
open Go.RowKit Go.PlainAid
set_option linter.unusedVariables false

/-- The sixteen digits. -/
def hexs : ByteArray := ⟨#[48, 49, 50, 51, 52, 53, 54, 55, 56, 57, 97, 98, 99, 100, 101, 102]⟩
def hx (n : Int) : Int := bt hexs n.toNat
theorem l01Mac_any (s : ByteArray) (w : World) : Calls Try.prog 71 #[.string s] w fun e w' => e = .returned (.bool ((s.size : Int) == 6)) ∧ w' = w := by
  go_enter Try.func71, Try.ntmps71
  go_wp2
  go_ret
  exact ⟨rfl, rfl⟩

end Go.Proofs.Ytfgghffgfefgpaa

namespace Go.Proofs.Ytfgghffgfefgpaa
open Go.RowKit Go.PlainAid Go.Proofs.Ytfgghffgfefgpaa.Pl
set_option linter.unusedVariables false

end Go.Proofs.Ytfgghffgfefgpaa

namespace Go.Proofs.Ytfgghffgfefgpaa
end Go.Proofs.Ytfgghffgfefgpaa

namespace Go.Proofs.Ytfgghffgfefgpaa
open Go.RowKit Go.PlainAid
set_option linter.unusedVariables false
set_option maxRecDepth 20000

/-- Byte j of n in m bytes, the higher ones first. -/
def nb (n : Int) (m j : Nat) : Int := n / 2 ^ (8 * (m - 1 - j)) % 256
end Go.Proofs.Ytfgghffgfefgpaa

namespace Go.Proofs.Ytfgghffgfefgpaa
open Go.RowKit Go.PlainAid
set_option linter.unusedVariables false
set_option maxRecDepth 20000

theorem Bytes.part {w : World} {b off len : Nat} {f : Nat → Int} (h : Bytes w (some ⟨b, off, none⟩) len f) (at_ size : Nat) (hs : at_ + size ≤ len) (a' : Option Addr) (ha : 0 < size → a' = some ⟨b, off + at_, none⟩) : Bytes w a' size (fun j => f (at_ + j)) := by
  refine ⟨fun k => h.1 _, fun h0 => ?_⟩
  obtain ⟨b', off', e, hc⟩ := h.2 (by omega)
  cases e
  exact ⟨b, off + at_, ha h0, fun i hi => by rw [Nat.add_assoc]; exact hc (at_ + i) (by omega)⟩

/-- A part of a list laid anew. -/
def over (L : List Int) (at_ : Nat) (M : List Int) : List Int := L.take at_ ++ (M ++ L.drop (at_ + M.length))
theorem OwnL.form {e : TypeId} {w : World} {B : Nat} {v : Value} {L : List Int} (h : OwnL e w B v L) (h0 : 0 < L.length) :
    ∃ g cap cur, v = .slice (some ⟨g, 0, none⟩) L.length cap ∧ B ≤ g ∧ w.heap[g]? = some (.cells cur e (0, 0)) ∧ L.length ≤ cap ∧ cap ≤ maxLen ∧ cur.size = cap ∧ cur.toList.take L.length = L.map (Value.int .u8) := by
  rcases h.2 with ⟨h1, h2⟩ | ⟨g, cap, cur, h1, h2, h3, h4, h5, h6, h7⟩
  · omega
  · exact ⟨g, cap, cur, h1, h2, h3, h4, h5, by simpa using h6, by simpa using h7⟩

end Go.Proofs.Ytfgghffgfefgpaa

namespace Go.Proofs.Ytfgghffgfefgpaa
open Go.RowKit Go.PlainAid
set_option linter.unusedVariables false
set_option maxRecDepth 20000

theorem isMac_b (s : ByteArray) (q : Bool) (hq : ((s.size : Int) == 6) = q) (w : World) : Calls Try.prog 46 #[.string s] w fun e w' => e = .returned (.bool q) ∧ w' = w := by
  go_enter Try.func46, Try.ntmps46
  go_wp2
  go_ret
  exact ⟨rfl, rfl⟩
end Go.Proofs.Ytfgghffgfefgpaa

namespace Go.Proofs.Ytfgghffgfefgpaa
open Go.RowKit Go.PlainAid Go.Proofs.Ytfgghffgfefgpaa.Bt Go.Sort
set_option linter.unusedVariables false
set_option maxRecDepth 20000

theorem toG {f : Nat} {args : Array Value} {w : World} {r : Ending} (h : Calls Try.prog f args w fun e w' => e = r ∧ w' = w) : Calls Try.prog f args w fun e w' => e = r ∧ Grw w w' :=
  h.mono fun e w' hh => ⟨hh.1, by rw [hh.2]; exact Grw.refl _⟩
def bitN (b : Bool) : Int := if b then 1 else 0
theorem bitN_bd (b : Bool) : 0 ≤ bitN b ∧ bitN b ≤ 1 := by unfold bitN; split <;> omega
/-- How many numbers were sent and not acknowledged. -/
def sentN (c : ConnV) : Int := (c.out.size : Int) + bitN c.fin + bitN (c.st == 1)
theorem sentN_bd (c : ConnV) : (c.out.size : Int) ≤ sentN c ∧ sentN c ≤ (c.out.size : Int) + 2 := by
  have := bitN_bd c.fin
  have := bitN_bd (c.st == 1)
  unfold sentN
  omega
def nuB (c : ConnV) : Bool := dec (0 ≤ c.ip ∧ c.ip ≤ 4294967295) && dec (0 ≤ c.po ∧ c.po ≤ 65535) && dec (0 ≤ c.di ∧ c.di ≤ 4294967295) && dec (1 ≤ c.st ∧ c.st ≤ 4) && dec (0 ≤ c.un ∧ c.un ≤ 4294967295) && dec (0 ≤ c.nx ∧ c.nx ≤ 4294967295) && dec (0 ≤ c.wa ∧ c.wa ≤ 4294967295)
def txB (c : ConnV) : Bool := ((c.mc.size : Int) == 6) && !decide ((300 : Int) < (c.inn.size : Int)) && !decide ((300 : Int) < (c.out.size : Int)) && !((c.st == 1) && !(c.inn.toList == [])) && (c.fin == (c.st == 3)) && (c.fin || (c.out.toList == []))
/-- Whether a connection is right. -/
def okB (c : ConnV) : Bool := nuB c && txB c && (sqN (c.nx - c.un) == sentN c)
/-- Whether a segment is right. -/
def sgB (g : SegV) : Bool := dec (0 ≤ g.sp ∧ g.sp ≤ 65535) && dec (0 ≤ g.dp ∧ g.dp ≤ 65535) && dec (0 ≤ g.sq ∧ g.sq ≤ 4294967295) && dec (0 ≤ g.ac ∧ g.ac ≤ 4294967295) && dec (0 ≤ g.fl ∧ g.fl ≤ 31) && dec (0 ≤ g.wi ∧ g.wi ≤ 65535) && decide ((g.da.size : Int) ≤ 360)
theorem l01Bit_any (b : Bool) (w : World) : Calls Try.prog 88 #[.bool b] w fun e w' => e = .returned (.int .i64 (bitN b)) ∧ w' = w := by
  cases b <;>
  · go_enter Try.func88, Try.ntmps88
    go_wp2
    go_ret
    exact ⟨rfl, rfl⟩
set_option maxHeartbeats 1000000 in
theorem l10Sent_any (mc : ByteArray) (ip po di st un nx wa : Int) (inn out : ByteArray) (fin : Bool) (w : World) (ho : out.size ≤ 1048576) :
    Calls Try.prog 75 #[.agg #[.string mc, .int .i64 ip, .int .i64 po, .int .i64 di, .int .i64 st, .int .i64 un, .int .i64 nx, .int .i64 wa, .string inn, .string out, .bool fin]] w fun e w' => e = .returned (.int .i64 (sentN ⟨mc, ip, po, di, st, un, nx, wa, inn, out, fin⟩)) ∧ Grw w w' := by
  have T1 : Hid (∀ w, Calls Try.prog 88 #[.bool fin] w fun e w' => e = .returned (.int .i64 (bitN fin)) ∧ Grw w w') := fun w => toG (l01Bit_any fin w)
  have T2 : Hid (∀ w, Calls Try.prog 88 #[.bool (st == 1)] w fun e w' => e = .returned (.int .i64 (bitN (st == 1))) ∧ Grw w w') := fun w => toG (l01Bit_any (st == 1) w)
  have E : Hid (sentN ⟨mc, ip, po, di, st, un, nx, wa, inn, out, fin⟩ = (out.size : Int) + bitN fin + bitN (st == 1)) := rfl
  rw [E.out]
  have hb1 := bitN_bd fin
  have hb2 := bitN_bd (st == 1)
  generalize bitN fin = x1 at T1 hb1 ⊢
  generalize bitN (st == 1) = x2 at T2 hb2 ⊢
  clear E
  have B0 : Hid (Grw w (w.alloc (.cells #[.string mc, .int .i64 ip, .int .i64 po, .int .i64 di, .int .i64 st, .int .i64 un, .int .i64 nx, .int .i64 wa, .string inn, .string out, .bool fin] 24))) := (Grw.refl _).alloc _
  have q4 : (w.alloc (.cells #[.string mc, .int .i64 ip, .int .i64 po, .int .i64 di, .int .i64 st, .int .i64 un, .int .i64 nx, .int .i64 wa, .string inn, .string out, .bool fin] 24)).cell? ⟨w.heap.size, 4, none⟩ = some (.int .i64 st) := by simp [go_sem]
  have q9 : (w.alloc (.cells #[.string mc, .int .i64 ip, .int .i64 po, .int .i64 di, .int .i64 st, .int .i64 un, .int .i64 nx, .int .i64 wa, .string inn, .string out, .bool fin] 24)).cell? ⟨w.heap.size, 9, none⟩ = some (.string out) := by simp [go_sem]
  have q10 : (w.alloc (.cells #[.string mc, .int .i64 ip, .int .i64 po, .int .i64 di, .int .i64 st, .int .i64 un, .int .i64 nx, .int .i64 wa, .string inn, .string out, .bool fin] 24)).cell? ⟨w.heap.size, 10, none⟩ = some (.bool fin) := by simp [go_sem]
  have hmix : Try.prog.follows .mixedOrders = true := by kernel_rfl
  have hw1 : IntKind.i64.wrap ((out.size : Int) + x1) = (out.size : Int) + x1 := by rw [IntKind.wrap_i64]; omega
  have hw2 : IntKind.i64.wrap ((out.size : Int) + x1 + x2) = (out.size : Int) + x1 + x2 := by rw [IntKind.wrap_i64]; omega
  go_enter Try.func75, Try.ntmps75
  go_wp2_with fail
  generalize w.alloc (.cells #[.string mc, .int .i64 ip, .int .i64 po, .int .i64 di, .int .i64 st, .int .i64 un, .int .i64 nx, .int .i64 wa, .string inn, .string out, .bool fin] 24) = W at *
  have y4 : ∀ n os, (grow (W.drewN n) os).cell? ⟨w.heap.size, 4, none⟩ = some (.int .i64 st) := fun n os => bkeep (Grw.below ⟨n, os, rfl⟩) q4
  have y9 : ∀ n os, (grow (W.drewN n) os).cell? ⟨w.heap.size, 9, none⟩ = some (.string out) := fun n os => bkeep (Grw.below ⟨n, os, rfl⟩) q9
  have y10 : ∀ n os, (grow (W.drewN n) os).cell? ⟨w.heap.size, 10, none⟩ = some (.bool fin) := fun n os => bkeep (Grw.below ⟨n, os, rfl⟩) q10
  refine wp_region_quiet_grown (by assumption) (by kernel_rfl) ?_
  repeat (go_big_quiet_step (first | fail | (go_at_call 88; first | (with_reducible exact Calls.grown_of (T1.out _)) | (with_reducible exact Calls.grown_of (T2.out _)))))
  refine wpQuiet_nil ?_
  intro _ hw'
  obtain ⟨⟨nq, osq⟩, hw''⟩ := hw'
  subst hw''
  have HG2 : Hid (Grw w (grow (W.drewN nq) osq)) := B0.out.trans ⟨nq, osq, rfl⟩
  clear y4 y9 y10 q4 q9 q10 B0
  generalize (grow (W.drewN nq) osq) = w5 at *
  go_wp2
  go_ret
  exact ⟨rfl, HG2.out⟩
set_option maxHeartbeats 1000000 in
theorem unack_any (mc : ByteArray) (ip po di st un nx wa : Int) (inn out : ByteArray) (fin : Bool) (w : World) (ho : out.size ≤ 1048576) :
    Calls Try.prog 41 #[.agg #[.string mc, .int .i64 ip, .int .i64 po, .int .i64 di, .int .i64 st, .int .i64 un, .int .i64 nx, .int .i64 wa, .string inn, .string out, .bool fin]] w fun e w' => e = .returned (.int .i64 (sentN ⟨mc, ip, po, di, st, un, nx, wa, inn, out, fin⟩)) ∧ Grw w w' := by
  have E : Hid (sentN ⟨mc, ip, po, di, st, un, nx, wa, inn, out, fin⟩ = (out.size : Int) + bitN fin + bitN (st == 1)) := rfl
  rw [E.out]
  clear E
  cases fin with
  | false =>
    generalize hb : (st == 1) = b
    cases b with
    | false =>
      go_enter Try.func41, Try.ntmps41
      go_wp2
      go_ret
      exact ⟨by simp [bitN], (Grw.refl _).alloc _⟩
    | true =>
      go_enter Try.func41, Try.ntmps41
      go_wp2
      go_ret
      exact ⟨by simp [bitN], (Grw.refl _).alloc _⟩
  | true =>
    generalize hb : (st == 1) = b
    cases b with
    | false =>
      go_enter Try.func41, Try.ntmps41
      go_wp2
      go_ret
      exact ⟨by simp [bitN], (Grw.refl _).alloc _⟩
    | true =>
      go_enter Try.func41, Try.ntmps41
      go_wp2
      go_ret
      exact ⟨by simp [bitN], (Grw.refl _).alloc _⟩
set_option maxHeartbeats 2000000 in
theorem conNums_any (mc : ByteArray) (ip po di st un nx wa : Int) (inn out : ByteArray) (fin : Bool) (w : World) (hp : po ≤ 9223372036854775807) :
    Calls Try.prog 38 #[.agg #[.string mc, .int .i64 ip, .int .i64 po, .int .i64 di, .int .i64 st, .int .i64 un, .int .i64 nx, .int .i64 wa, .string inn, .string out, .bool fin]] w fun e w' => e = .returned (.bool (nuB ⟨mc, ip, po, di, st, un, nx, wa, inn, out, fin⟩)) ∧ Grw w w' := by
  have T0 : Hid (∀ w, Calls Try.prog 47 #[.int .i64 ip] w fun e w' => e = .returned (.bool (dec (0 ≤ ip ∧ ip ≤ 4294967295))) ∧ w' = w) := fun w => addressOK_any ip w
  have T1 : Hid (∀ w, Calls Try.prog 62 #[.int .i64 po] w fun e w' => e = .returned (.bool (dec (0 ≤ po ∧ po ≤ 65535))) ∧ w' = w) := fun w => portOK_any po w hp
  have T2 : Hid (∀ w, Calls Try.prog 47 #[.int .i64 di] w fun e w' => e = .returned (.bool (dec (0 ≤ di ∧ di ≤ 4294967295))) ∧ w' = w) := fun w => addressOK_any di w
  have T3 : Hid (∀ w, Calls Try.prog 52 #[.int .i64 st, .int .i64 1, .int .i64 4] w fun e w' => e = .returned (.bool (dec (1 ≤ st ∧ st ≤ 4))) ∧ w' = w) := fun w => between_any st 1 4 w
  have T4 : Hid (∀ w, Calls Try.prog 48 #[.int .i64 un] w fun e w' => e = .returned (.bool (dec (0 ≤ un ∧ un ≤ 4294967295))) ∧ w' = w) := fun w => seqOK_any un w
  have T5 : Hid (∀ w, Calls Try.prog 48 #[.int .i64 nx] w fun e w' => e = .returned (.bool (dec (0 ≤ nx ∧ nx ≤ 4294967295))) ∧ w' = w) := fun w => seqOK_any nx w
  have T6 : Hid (∀ w, Calls Try.prog 48 #[.int .i64 wa] w fun e w' => e = .returned (.bool (dec (0 ≤ wa ∧ wa ≤ 4294967295))) ∧ w' = w) := fun w => seqOK_any wa w
  have E : Hid (nuB ⟨mc, ip, po, di, st, un, nx, wa, inn, out, fin⟩ = ((dec (0 ≤ ip ∧ ip ≤ 4294967295)) && (dec (0 ≤ po ∧ po ≤ 65535)) && (dec (0 ≤ di ∧ di ≤ 4294967295)) && (dec (1 ≤ st ∧ st ≤ 4)) && (dec (0 ≤ un ∧ un ≤ 4294967295)) && (dec (0 ≤ nx ∧ nx ≤ 4294967295)) && (dec (0 ≤ wa ∧ wa ≤ 4294967295)))) := rfl
  generalize dec (0 ≤ ip ∧ ip ≤ 4294967295) = t0 at T0 E
  generalize dec (0 ≤ po ∧ po ≤ 65535) = t1 at T1 E
  generalize dec (0 ≤ di ∧ di ≤ 4294967295) = t2 at T2 E
  generalize dec (1 ≤ st ∧ st ≤ 4) = t3 at T3 E
  generalize dec (0 ≤ un ∧ un ≤ 4294967295) = t4 at T4 E
  generalize dec (0 ≤ nx ∧ nx ≤ 4294967295) = t5 at T5 E
  generalize dec (0 ≤ wa ∧ wa ≤ 4294967295) = t6 at T6 E
  go_enter Try.func38, Try.ntmps38
  go_wp2_with fail
  refine (T0.out _).mono ?_
  rintro e wx1 ⟨rfl, rfl⟩
  cases t0 with
  | false =>
    go_wp2
    go_ret
    exact ⟨by rw [E.out]; rfl, ((Grw.refl _).alloc _)⟩
  | true =>
    go_wp2_with fail
    refine (T1.out _).mono ?_
    rintro e wx2 ⟨rfl, rfl⟩
    cases t1 with
    | false =>
      go_wp2
      go_ret
      exact ⟨by rw [E.out]; rfl, ((Grw.refl _).alloc _)⟩
    | true =>
      go_wp2_with fail
      refine (T2.out _).mono ?_
      rintro e wx3 ⟨rfl, rfl⟩
      cases t2 with
      | false =>
        go_wp2
        go_ret
        exact ⟨by rw [E.out]; rfl, ((Grw.refl _).alloc _)⟩
      | true =>
        go_wp2_with fail
        refine (T3.out _).mono ?_
        rintro e wx4 ⟨rfl, rfl⟩
        cases t3 with
        | false =>
          go_wp2
          go_ret
          exact ⟨by rw [E.out]; rfl, ((Grw.refl _).alloc _)⟩
        | true =>
          go_wp2_with fail
          refine (T4.out _).mono ?_
          rintro e wx5 ⟨rfl, rfl⟩
          cases t4 with
          | false =>
            go_wp2
            go_ret
            exact ⟨by rw [E.out]; rfl, ((Grw.refl _).alloc _)⟩
          | true =>
            go_wp2_with fail
            refine (T5.out _).mono ?_
            rintro e wx6 ⟨rfl, rfl⟩
            cases t5 with
            | false =>
              go_wp2
              go_ret
              exact ⟨by rw [E.out]; rfl, ((Grw.refl _).alloc _)⟩
            | true =>
              go_wp2_with fail
              refine (T6.out _).mono ?_
              rintro e wx7 ⟨rfl, rfl⟩
              cases t6 with
              | false =>
                go_wp2
                go_ret
                exact ⟨by rw [E.out]; rfl, ((Grw.refl _).alloc _)⟩
              | true =>
                go_wp2
                go_ret
                exact ⟨by rw [E.out]; rfl, ((Grw.refl _).alloc _)⟩
set_option maxHeartbeats 1000000 in
theorem conTexts_any (mc : ByteArray) (ip po di st un nx wa : Int) (inn out : ByteArray) (fin : Bool) (w : World) (hmc : mc.size ≤ 9223372036854775807) (hi : inn.size ≤ 9223372036854775807) (ho : out.size ≤ 9223372036854775807) :
    Calls Try.prog 39 #[.agg #[.string mc, .int .i64 ip, .int .i64 po, .int .i64 di, .int .i64 st, .int .i64 un, .int .i64 nx, .int .i64 wa, .string inn, .string out, .bool fin]] w fun e w' => e = .returned (.bool (txB ⟨mc, ip, po, di, st, un, nx, wa, inn, out, fin⟩)) ∧ Grw w w' := by
  have E : Hid (txB ⟨mc, ip, po, di, st, un, nx, wa, inn, out, fin⟩ = (((mc.size : Int) == 6) && !decide ((300 : Int) < (inn.size : Int)) && !decide ((300 : Int) < (out.size : Int)) && !((st == 1) && !(inn.toList == [])) && (fin == (st == 3)) && (fin || (out.toList == [])))) := rfl
  have T0 : Hid (∀ w, Calls Try.prog 46 #[.string mc] w fun e w' => e = .returned (.bool ((mc.size : Int) == 6)) ∧ w' = w) := fun w => isMac_b mc _ rfl w
  generalize ((mc.size : Int) == 6) = t0 at T0 E
  generalize h1 : decide ((300 : Int) < (inn.size : Int)) = t1 at E
  generalize h2 : decide ((300 : Int) < (out.size : Int)) = t2 at E
  generalize h3 : (st == 1) = t3 at E
  generalize h4 : (inn.toList == []) = t4 at E
  generalize h5 : (st == 3) = t5 at E
  generalize h6 : (out.toList == []) = t6 at E
  go_enter Try.func39, Try.ntmps39
  go_wp2_with fail
  refine (T0.out _).mono ?_
  rintro e w1 ⟨rfl, rfl⟩
  cases t0 with
  | false =>
    go_wp2
    go_ret
    exact ⟨by rw [E.out]; rfl, (Grw.refl _).alloc _⟩
  | true =>
    cases t1 with
    | false =>
      cases t2 with
      | false =>
        cases t3 with
        | false =>
          cases fin with
          | false =>
            cases t5 with
            | false =>
              cases t6 with
              | false =>
                go_wp2
                go_ret
                exact ⟨by rw [E.out]; rfl, (Grw.refl _).alloc _⟩
              | true =>
                go_wp2
                go_ret
                exact ⟨by rw [E.out]; rfl, (Grw.refl _).alloc _⟩
            | true =>
              go_wp2
              go_ret
              exact ⟨by rw [E.out]; rfl, (Grw.refl _).alloc _⟩
          | true =>
            cases t5 with
            | false =>
              go_wp2
              go_ret
              exact ⟨by rw [E.out]; rfl, (Grw.refl _).alloc _⟩
            | true =>
              go_wp2
              go_ret
              exact ⟨by rw [E.out]; rfl, (Grw.refl _).alloc _⟩
        | true =>
          cases t4 with
          | false =>
            go_wp2
            go_ret
            exact ⟨by rw [E.out]; rfl, (Grw.refl _).alloc _⟩
          | true =>
            cases fin with
            | false =>
              cases t5 with
              | false =>
                cases t6 with
                | false =>
                  go_wp2
                  go_ret
                  exact ⟨by rw [E.out]; rfl, (Grw.refl _).alloc _⟩
                | true =>
                  go_wp2
                  go_ret
                  exact ⟨by rw [E.out]; rfl, (Grw.refl _).alloc _⟩
              | true =>
                go_wp2
                go_ret
                exact ⟨by rw [E.out]; rfl, (Grw.refl _).alloc _⟩
            | true =>
              cases t5 with
              | false =>
                go_wp2
                go_ret
                exact ⟨by rw [E.out]; rfl, (Grw.refl _).alloc _⟩
              | true =>
                go_wp2
                go_ret
                exact ⟨by rw [E.out]; rfl, (Grw.refl _).alloc _⟩
      | true =>
        go_wp2
        go_ret
        exact ⟨by rw [E.out]; rfl, (Grw.refl _).alloc _⟩
    | true =>
      go_wp2
      go_ret
      exact ⟨by rw [E.out]; rfl, (Grw.refl _).alloc _⟩
end Go.Proofs.Ytfgghffgfefgpaa

namespace Go.Proofs.Ytfgghffgfefgpaa
open Go.RowKit Go.PlainAid Go.Proofs.Ytfgghffgfefgpaa.Bt Go.Sort
set_option linter.unusedVariables false
set_option maxRecDepth 20000

theorem int_ub {n : Int} (h : (Lit.int .i64 n).wf = true) : n ≤ 9223372036854775807 := by
  have : IntKind.i64.min = -9223372036854775808 := by decide
  have : IntKind.i64.max = 9223372036854775807 := by decide
  simp [Lit.wf] at h
  omega
theorem nuB_bd {c : ConnV} (h : nuB c = true) : (0 ≤ c.ip ∧ c.ip ≤ 4294967295) ∧ (0 ≤ c.po ∧ c.po ≤ 65535) ∧ (0 ≤ c.di ∧ c.di ≤ 4294967295) ∧ (1 ≤ c.st ∧ c.st ≤ 4) ∧ (0 ≤ c.un ∧ c.un ≤ 4294967295) ∧ (0 ≤ c.nx ∧ c.nx ≤ 4294967295) ∧ (0 ≤ c.wa ∧ c.wa ≤ 4294967295) := by
  unfold nuB dec at h
  simp only [Bool.and_eq_true, decide_eq_true_eq] at h
  obtain ⟨⟨⟨⟨⟨⟨a, b⟩, c⟩, d⟩, e⟩, f⟩, g⟩ := h
  exact ⟨a, b, c, d, e, f, g⟩
theorem txB_bd {c : ConnV} (h : txB c = true) : c.mc.size = 6 ∧ c.inn.size ≤ 300 ∧ c.out.size ≤ 300 ∧ (c.st = 1 → c.inn.size = 0) ∧ (c.fin = true ↔ c.st = 3) ∧ (c.fin = false → c.out.size = 0) := by
  unfold txB at h
  simp only [Bool.and_eq_true, Bool.not_eq_true', decide_eq_false_iff_not, beq_iff_eq] at h
  obtain ⟨⟨⟨⟨⟨a, b⟩, d⟩, e⟩, f⟩, g⟩ := h
  have z : ∀ x : ByteArray, (x.toList == []) = true → x.size = 0 := by
    intro x hx
    have h := congrArg List.length (beq_iff_eq.1 hx)
    rw [List.length_nil] at h
    rw [← h]
    simp [ByteArray.toList_eq]
  refine ⟨by omega, by omega, by omega, fun h1 => ?_, ?_, fun h1 => ?_⟩
  · rw [h1] at e
    simp at e
    exact z _ (by rw [e]; rfl)
  · rw [f]
    simp
  · rw [h1] at g
    simp at g
    exact z _ (by rw [g]; rfl)
set_option maxHeartbeats 2000000 in
theorem implConOK_any (mc : ByteArray) (ip po di st un nx wa : Int) (inn out : ByteArray) (fin : Bool) (w : World) (hp : po ≤ 9223372036854775807) (hmc : mc.size ≤ 1048576) (hi : inn.size ≤ 1048576) (ho : out.size ≤ 1048576) :
    Calls Try.prog 11 #[.agg #[.string mc, .int .i64 ip, .int .i64 po, .int .i64 di, .int .i64 st, .int .i64 un, .int .i64 nx, .int .i64 wa, .string inn, .string out, .bool fin]] w fun e w' => e = .returned (.bool (okB ⟨mc, ip, po, di, st, un, nx, wa, inn, out, fin⟩)) ∧ Grw w w' := by
  have T0 : Hid (∀ w, Calls Try.prog 38 #[.agg #[.string mc, .int .i64 ip, .int .i64 po, .int .i64 di, .int .i64 st, .int .i64 un, .int .i64 nx, .int .i64 wa, .string inn, .string out, .bool fin]] w fun e w' => e = .returned (.bool (nuB ⟨mc, ip, po, di, st, un, nx, wa, inn, out, fin⟩)) ∧ Grw w w') := fun w => conNums_any mc ip po di st un nx wa inn out fin w hp
  have T1 : Hid (∀ w, Calls Try.prog 39 #[.agg #[.string mc, .int .i64 ip, .int .i64 po, .int .i64 di, .int .i64 st, .int .i64 un, .int .i64 nx, .int .i64 wa, .string inn, .string out, .bool fin]] w fun e w' => e = .returned (.bool (txB ⟨mc, ip, po, di, st, un, nx, wa, inn, out, fin⟩)) ∧ Grw w w') := fun w => conTexts_any mc ip po di st un nx wa inn out fin w (by omega) (by omega) (by omega)
  have T2 : Hid (∀ w, Calls Try.prog 41 #[.agg #[.string mc, .int .i64 ip, .int .i64 po, .int .i64 di, .int .i64 st, .int .i64 un, .int .i64 nx, .int .i64 wa, .string inn, .string out, .bool fin]] w fun e w' => e = .returned (.int .i64 (sentN ⟨mc, ip, po, di, st, un, nx, wa, inn, out, fin⟩)) ∧ Grw w w') := fun w => unack_any mc ip po di st un nx wa inn out fin w ho
  have E : Hid (okB ⟨mc, ip, po, di, st, un, nx, wa, inn, out, fin⟩ = (nuB ⟨mc, ip, po, di, st, un, nx, wa, inn, out, fin⟩ && txB ⟨mc, ip, po, di, st, un, nx, wa, inn, out, fin⟩ && (sqN (nx - un) == sentN ⟨mc, ip, po, di, st, un, nx, wa, inn, out, fin⟩))) := rfl
  have T3 : Hid (nuB ⟨mc, ip, po, di, st, un, nx, wa, inn, out, fin⟩ = true → ∀ w, Calls Try.prog 40 #[.int .i64 un, .int .i64 (sentN ⟨mc, ip, po, di, st, un, nx, wa, inn, out, fin⟩)] w fun e w' => e = .returned (.int .i64 (sqN (un + sentN ⟨mc, ip, po, di, st, un, nx, wa, inn, out, fin⟩))) ∧ Grw w w') := fun h w => by
    have h1 := nuB_bd h
    have h2 := sentN_bd ⟨mc, ip, po, di, st, un, nx, wa, inn, out, fin⟩
    dsimp only at h1 h2
    exact toG (seqAfter_any un _ w (by omega) (by omega) (by omega) (by omega))
  have F : Hid (nuB ⟨mc, ip, po, di, st, un, nx, wa, inn, out, fin⟩ = true → txB ⟨mc, ip, po, di, st, un, nx, wa, inn, out, fin⟩ = true → (sqN (nx - un) == sentN ⟨mc, ip, po, di, st, un, nx, wa, inn, out, fin⟩) = (nx == sqN (un + sentN ⟨mc, ip, po, di, st, un, nx, wa, inn, out, fin⟩))) := fun h h' => by
    have h1 := nuB_bd h
    have h3 := txB_bd h'
    have h2 := sentN_bd ⟨mc, ip, po, di, st, un, nx, wa, inn, out, fin⟩
    dsimp only at h1 h2 h3
    generalize sentN ⟨mc, ip, po, di, st, un, nx, wa, inn, out, fin⟩ = z at h2
    rw [Bool.eq_iff_iff, beq_iff_eq, beq_iff_eq]
    unfold sqN
    omega
  generalize nuB ⟨mc, ip, po, di, st, un, nx, wa, inn, out, fin⟩ = t0 at T0 T3 E F
  generalize txB ⟨mc, ip, po, di, st, un, nx, wa, inn, out, fin⟩ = t1 at T1 E F
  generalize sentN ⟨mc, ip, po, di, st, un, nx, wa, inn, out, fin⟩ = z at T2 T3 E F
  generalize sqN (un + z) = z2 at T3 F
  generalize (sqN (nx - un) == z) = t3 at E F
  have B0 : Hid (Grw w (w.alloc (.cells #[.string mc, .int .i64 ip, .int .i64 po, .int .i64 di, .int .i64 st, .int .i64 un, .int .i64 nx, .int .i64 wa, .string inn, .string out, .bool fin] 24))) := (Grw.refl _).alloc _
  have q0 : (w.alloc (.cells #[.string mc, .int .i64 ip, .int .i64 po, .int .i64 di, .int .i64 st, .int .i64 un, .int .i64 nx, .int .i64 wa, .string inn, .string out, .bool fin] 24)).cell? ⟨w.heap.size, 0, none⟩ = some (.string mc) := by simp [go_sem]
  have q1 : (w.alloc (.cells #[.string mc, .int .i64 ip, .int .i64 po, .int .i64 di, .int .i64 st, .int .i64 un, .int .i64 nx, .int .i64 wa, .string inn, .string out, .bool fin] 24)).cell? ⟨w.heap.size, 1, none⟩ = some (.int .i64 ip) := by simp [go_sem]
  have q2 : (w.alloc (.cells #[.string mc, .int .i64 ip, .int .i64 po, .int .i64 di, .int .i64 st, .int .i64 un, .int .i64 nx, .int .i64 wa, .string inn, .string out, .bool fin] 24)).cell? ⟨w.heap.size, 2, none⟩ = some (.int .i64 po) := by simp [go_sem]
  have q3 : (w.alloc (.cells #[.string mc, .int .i64 ip, .int .i64 po, .int .i64 di, .int .i64 st, .int .i64 un, .int .i64 nx, .int .i64 wa, .string inn, .string out, .bool fin] 24)).cell? ⟨w.heap.size, 3, none⟩ = some (.int .i64 di) := by simp [go_sem]
  have q4 : (w.alloc (.cells #[.string mc, .int .i64 ip, .int .i64 po, .int .i64 di, .int .i64 st, .int .i64 un, .int .i64 nx, .int .i64 wa, .string inn, .string out, .bool fin] 24)).cell? ⟨w.heap.size, 4, none⟩ = some (.int .i64 st) := by simp [go_sem]
  have q5 : (w.alloc (.cells #[.string mc, .int .i64 ip, .int .i64 po, .int .i64 di, .int .i64 st, .int .i64 un, .int .i64 nx, .int .i64 wa, .string inn, .string out, .bool fin] 24)).cell? ⟨w.heap.size, 5, none⟩ = some (.int .i64 un) := by simp [go_sem]
  have q6 : (w.alloc (.cells #[.string mc, .int .i64 ip, .int .i64 po, .int .i64 di, .int .i64 st, .int .i64 un, .int .i64 nx, .int .i64 wa, .string inn, .string out, .bool fin] 24)).cell? ⟨w.heap.size, 6, none⟩ = some (.int .i64 nx) := by simp [go_sem]
  have q7 : (w.alloc (.cells #[.string mc, .int .i64 ip, .int .i64 po, .int .i64 di, .int .i64 st, .int .i64 un, .int .i64 nx, .int .i64 wa, .string inn, .string out, .bool fin] 24)).cell? ⟨w.heap.size, 7, none⟩ = some (.int .i64 wa) := by simp [go_sem]
  have q8 : (w.alloc (.cells #[.string mc, .int .i64 ip, .int .i64 po, .int .i64 di, .int .i64 st, .int .i64 un, .int .i64 nx, .int .i64 wa, .string inn, .string out, .bool fin] 24)).cell? ⟨w.heap.size, 8, none⟩ = some (.string inn) := by simp [go_sem]
  have q9 : (w.alloc (.cells #[.string mc, .int .i64 ip, .int .i64 po, .int .i64 di, .int .i64 st, .int .i64 un, .int .i64 nx, .int .i64 wa, .string inn, .string out, .bool fin] 24)).cell? ⟨w.heap.size, 9, none⟩ = some (.string out) := by simp [go_sem]
  have q10 : (w.alloc (.cells #[.string mc, .int .i64 ip, .int .i64 po, .int .i64 di, .int .i64 st, .int .i64 un, .int .i64 nx, .int .i64 wa, .string inn, .string out, .bool fin] 24)).cell? ⟨w.heap.size, 10, none⟩ = some (.bool fin) := by simp [go_sem]
  have hmix : Try.prog.follows .mixedOrders = true := by kernel_rfl
  cases t0 with
  | false =>
    clear T3 F
    go_enter Try.func11, Try.ntmps11
    go_wp2_with fail
    generalize w.alloc (.cells #[.string mc, .int .i64 ip, .int .i64 po, .int .i64 di, .int .i64 st, .int .i64 un, .int .i64 nx, .int .i64 wa, .string inn, .string out, .bool fin] 24) = W at *
    have y0 : ∀ n os, (grow (W.drewN n) os).cell? ⟨w.heap.size, 0, none⟩ = some (.string mc) := fun n os => bkeep (Grw.below ⟨n, os, rfl⟩) q0
    have y1 : ∀ n os, (grow (W.drewN n) os).cell? ⟨w.heap.size, 1, none⟩ = some (.int .i64 ip) := fun n os => bkeep (Grw.below ⟨n, os, rfl⟩) q1
    have y2 : ∀ n os, (grow (W.drewN n) os).cell? ⟨w.heap.size, 2, none⟩ = some (.int .i64 po) := fun n os => bkeep (Grw.below ⟨n, os, rfl⟩) q2
    have y3 : ∀ n os, (grow (W.drewN n) os).cell? ⟨w.heap.size, 3, none⟩ = some (.int .i64 di) := fun n os => bkeep (Grw.below ⟨n, os, rfl⟩) q3
    have y4 : ∀ n os, (grow (W.drewN n) os).cell? ⟨w.heap.size, 4, none⟩ = some (.int .i64 st) := fun n os => bkeep (Grw.below ⟨n, os, rfl⟩) q4
    have y5 : ∀ n os, (grow (W.drewN n) os).cell? ⟨w.heap.size, 5, none⟩ = some (.int .i64 un) := fun n os => bkeep (Grw.below ⟨n, os, rfl⟩) q5
    have y6 : ∀ n os, (grow (W.drewN n) os).cell? ⟨w.heap.size, 6, none⟩ = some (.int .i64 nx) := fun n os => bkeep (Grw.below ⟨n, os, rfl⟩) q6
    have y7 : ∀ n os, (grow (W.drewN n) os).cell? ⟨w.heap.size, 7, none⟩ = some (.int .i64 wa) := fun n os => bkeep (Grw.below ⟨n, os, rfl⟩) q7
    have y8 : ∀ n os, (grow (W.drewN n) os).cell? ⟨w.heap.size, 8, none⟩ = some (.string inn) := fun n os => bkeep (Grw.below ⟨n, os, rfl⟩) q8
    have y9 : ∀ n os, (grow (W.drewN n) os).cell? ⟨w.heap.size, 9, none⟩ = some (.string out) := fun n os => bkeep (Grw.below ⟨n, os, rfl⟩) q9
    have y10 : ∀ n os, (grow (W.drewN n) os).cell? ⟨w.heap.size, 10, none⟩ = some (.bool fin) := fun n os => bkeep (Grw.below ⟨n, os, rfl⟩) q10
    refine wp_region_quiet_grown (by assumption) (by kernel_rfl) ?_
    repeat (go_big_quiet_step (first | fail | (first | (go_at_call 38; exact Calls.grown_of (T0.out _)))))
    refine wpQuiet_nil ?_
    intro _ hw'
    obtain ⟨⟨nq, osq⟩, hw''⟩ := hw'
    subst hw''
    have HG2 : Hid (Grw w (grow (W.drewN nq) osq)) := B0.out.trans ⟨nq, osq, rfl⟩
    clear y0 y1 y2 y3 y4 y5 y6 y7 y8 y9 y10 q0 q1 q2 q3 q4 q5 q6 q7 q8 q9 q10 B0
    generalize (grow (W.drewN nq) osq) = w5 at *
    go_wp2
    go_ret
    exact ⟨by rw [E.out]; rfl, HG2.out⟩
  | true =>
    have T4 : Hid (∀ w, Calls Try.prog 40 #[.int .i64 un, .int .i64 z] w fun e w' => e = .returned (.int .i64 z2) ∧ Grw w w') := T3.out rfl
    have F2 : Hid (t1 = true → t3 = (nx == z2)) := F.out rfl
    clear T3 F
    cases t1 with
    | false =>
      clear F2 T4
      go_enter Try.func11, Try.ntmps11
      go_wp2_with fail
      generalize w.alloc (.cells #[.string mc, .int .i64 ip, .int .i64 po, .int .i64 di, .int .i64 st, .int .i64 un, .int .i64 nx, .int .i64 wa, .string inn, .string out, .bool fin] 24) = W at *
      have y0 : ∀ n os, (grow (W.drewN n) os).cell? ⟨w.heap.size, 0, none⟩ = some (.string mc) := fun n os => bkeep (Grw.below ⟨n, os, rfl⟩) q0
      have y1 : ∀ n os, (grow (W.drewN n) os).cell? ⟨w.heap.size, 1, none⟩ = some (.int .i64 ip) := fun n os => bkeep (Grw.below ⟨n, os, rfl⟩) q1
      have y2 : ∀ n os, (grow (W.drewN n) os).cell? ⟨w.heap.size, 2, none⟩ = some (.int .i64 po) := fun n os => bkeep (Grw.below ⟨n, os, rfl⟩) q2
      have y3 : ∀ n os, (grow (W.drewN n) os).cell? ⟨w.heap.size, 3, none⟩ = some (.int .i64 di) := fun n os => bkeep (Grw.below ⟨n, os, rfl⟩) q3
      have y4 : ∀ n os, (grow (W.drewN n) os).cell? ⟨w.heap.size, 4, none⟩ = some (.int .i64 st) := fun n os => bkeep (Grw.below ⟨n, os, rfl⟩) q4
      have y5 : ∀ n os, (grow (W.drewN n) os).cell? ⟨w.heap.size, 5, none⟩ = some (.int .i64 un) := fun n os => bkeep (Grw.below ⟨n, os, rfl⟩) q5
      have y6 : ∀ n os, (grow (W.drewN n) os).cell? ⟨w.heap.size, 6, none⟩ = some (.int .i64 nx) := fun n os => bkeep (Grw.below ⟨n, os, rfl⟩) q6
      have y7 : ∀ n os, (grow (W.drewN n) os).cell? ⟨w.heap.size, 7, none⟩ = some (.int .i64 wa) := fun n os => bkeep (Grw.below ⟨n, os, rfl⟩) q7
      have y8 : ∀ n os, (grow (W.drewN n) os).cell? ⟨w.heap.size, 8, none⟩ = some (.string inn) := fun n os => bkeep (Grw.below ⟨n, os, rfl⟩) q8
      have y9 : ∀ n os, (grow (W.drewN n) os).cell? ⟨w.heap.size, 9, none⟩ = some (.string out) := fun n os => bkeep (Grw.below ⟨n, os, rfl⟩) q9
      have y10 : ∀ n os, (grow (W.drewN n) os).cell? ⟨w.heap.size, 10, none⟩ = some (.bool fin) := fun n os => bkeep (Grw.below ⟨n, os, rfl⟩) q10
      refine wp_region_quiet_grown (by assumption) (by kernel_rfl) ?_
      repeat (go_big_quiet_step (first | fail | (first | (go_at_call 38; exact Calls.grown_of (T0.out _)) | (go_at_call 39; exact Calls.grown_of (T1.out _)))))
      refine wpQuiet_nil ?_
      intro _ hw'
      obtain ⟨⟨nq, osq⟩, hw''⟩ := hw'
      subst hw''
      have HG2 : Hid (Grw w (grow (W.drewN nq) osq)) := B0.out.trans ⟨nq, osq, rfl⟩
      clear y0 y1 y2 y3 y4 y5 y6 y7 y8 y9 y10 q0 q1 q2 q3 q4 q5 q6 q7 q8 q9 q10 B0
      generalize (grow (W.drewN nq) osq) = w5 at *
      go_wp2
      go_ret
      exact ⟨by rw [E.out]; rfl, HG2.out⟩
    | true =>
      have F3 : Hid (t3 = (nx == z2)) := F2.out rfl
      rw [F3.out] at E
      clear F2 F3
      go_enter Try.func11, Try.ntmps11
      go_wp2_with fail
      generalize w.alloc (.cells #[.string mc, .int .i64 ip, .int .i64 po, .int .i64 di, .int .i64 st, .int .i64 un, .int .i64 nx, .int .i64 wa, .string inn, .string out, .bool fin] 24) = W at *
      have y0 : ∀ n os, (grow (W.drewN n) os).cell? ⟨w.heap.size, 0, none⟩ = some (.string mc) := fun n os => bkeep (Grw.below ⟨n, os, rfl⟩) q0
      have y1 : ∀ n os, (grow (W.drewN n) os).cell? ⟨w.heap.size, 1, none⟩ = some (.int .i64 ip) := fun n os => bkeep (Grw.below ⟨n, os, rfl⟩) q1
      have y2 : ∀ n os, (grow (W.drewN n) os).cell? ⟨w.heap.size, 2, none⟩ = some (.int .i64 po) := fun n os => bkeep (Grw.below ⟨n, os, rfl⟩) q2
      have y3 : ∀ n os, (grow (W.drewN n) os).cell? ⟨w.heap.size, 3, none⟩ = some (.int .i64 di) := fun n os => bkeep (Grw.below ⟨n, os, rfl⟩) q3
      have y4 : ∀ n os, (grow (W.drewN n) os).cell? ⟨w.heap.size, 4, none⟩ = some (.int .i64 st) := fun n os => bkeep (Grw.below ⟨n, os, rfl⟩) q4
      have y5 : ∀ n os, (grow (W.drewN n) os).cell? ⟨w.heap.size, 5, none⟩ = some (.int .i64 un) := fun n os => bkeep (Grw.below ⟨n, os, rfl⟩) q5
      have y6 : ∀ n os, (grow (W.drewN n) os).cell? ⟨w.heap.size, 6, none⟩ = some (.int .i64 nx) := fun n os => bkeep (Grw.below ⟨n, os, rfl⟩) q6
      have y7 : ∀ n os, (grow (W.drewN n) os).cell? ⟨w.heap.size, 7, none⟩ = some (.int .i64 wa) := fun n os => bkeep (Grw.below ⟨n, os, rfl⟩) q7
      have y8 : ∀ n os, (grow (W.drewN n) os).cell? ⟨w.heap.size, 8, none⟩ = some (.string inn) := fun n os => bkeep (Grw.below ⟨n, os, rfl⟩) q8
      have y9 : ∀ n os, (grow (W.drewN n) os).cell? ⟨w.heap.size, 9, none⟩ = some (.string out) := fun n os => bkeep (Grw.below ⟨n, os, rfl⟩) q9
      have y10 : ∀ n os, (grow (W.drewN n) os).cell? ⟨w.heap.size, 10, none⟩ = some (.bool fin) := fun n os => bkeep (Grw.below ⟨n, os, rfl⟩) q10
      refine wp_region_quiet_grown (by assumption) (by kernel_rfl) ?_
      repeat (go_big_quiet_step (first | fail | (first | (go_at_call 38; exact Calls.grown_of (T0.out _)) | (go_at_call 39; exact Calls.grown_of (T1.out _)) | (go_at_call 41; exact Calls.grown_of (T2.out _)) | (go_at_call 40; exact Calls.grown_of (T4.out _)))))
      refine wpQuiet_nil ?_
      intro _ hw'
      obtain ⟨⟨nq, osq⟩, hw''⟩ := hw'
      subst hw''
      have HG2 : Hid (Grw w (grow (W.drewN nq) osq)) := B0.out.trans ⟨nq, osq, rfl⟩
      clear y0 y1 y2 y3 y4 y5 y6 y7 y8 y9 y10 q0 q1 q2 q3 q4 q5 q6 q7 q8 q9 q10 B0
      generalize (grow (W.drewN nq) osq) = w5 at *
      go_wp2
      go_ret
      exact ⟨by rw [E.out]; rfl, HG2.out⟩
end Go.Proofs.Ytfgghffgfefgpaa

namespace Go.Proofs.Ytfgghffgfefgpaa
open Go.RowKit Go.PlainAid Go.Proofs.Ytfgghffgfefgpaa.Bt Go.Sort
set_option linter.unusedVariables false
set_option maxRecDepth 20000

theorem l07Ask9_any (ip po : Int) (w : World) : Calls Try.prog 72 #[.int .i64 ip, .int .i64 po] w fun e w' => e = .returned (.bool (dec (0 ≤ ip ∧ ip ≤ 4294967295) && dec (0 ≤ po ∧ po ≤ 65535))) ∧ w' = w := by
  have T0 : Hid (∀ w, Calls Try.prog 73 #[.int .i64 ip] w fun e w' => e = .returned (.bool (dec (0 ≤ ip ∧ ip ≤ 4294967295))) ∧ w' = w) := fun w => specIp_any ip w
  have T1 : Hid (∀ w, Calls Try.prog 76 #[.int .i64 po] w fun e w' => e = .returned (.bool (dec (0 ≤ po ∧ po ≤ 65535))) ∧ w' = w) := fun w => specPort_any po w
  generalize dec (0 ≤ ip ∧ ip ≤ 4294967295) = t0 at T0 ⊢
  generalize dec (0 ≤ po ∧ po ≤ 65535) = t1 at T1 ⊢
  cases t0 with
  | false =>
    go_enter Try.func72, Try.ntmps72
    go_wp2_with fail
    refine (T0.out _).mono ?_
    rintro e w1 ⟨rfl, hw⟩
    subst hw
    go_wp2
    go_ret
    exact ⟨rfl, rfl⟩
  | true =>
    go_enter Try.func72, Try.ntmps72
    go_wp2_with fail
    refine (T0.out _).mono ?_
    rintro e w1 ⟨rfl, hw⟩
    subst hw
    go_wp2_with fail
    refine (T1.out _).mono ?_
    rintro e w1 ⟨rfl, hw⟩
    subst hw
    go_wp2
    go_ret
    exact ⟨by simp, rfl⟩
set_option maxHeartbeats 4000000 in
theorem specConOK_any (mc : ByteArray) (ip po di st un nx wa : Int) (inn out : ByteArray) (fin : Bool) (w : World) (hmc : mc.size ≤ 1048576) (hi : inn.size ≤ 1048576) (ho : out.size ≤ 1048576) :
    Calls Try.prog 35 #[.agg #[.string mc, .int .i64 ip, .int .i64 po, .int .i64 di, .int .i64 st, .int .i64 un, .int .i64 nx, .int .i64 wa, .string inn, .string out, .bool fin]] w fun e w' => e = .returned (.bool (okB ⟨mc, ip, po, di, st, un, nx, wa, inn, out, fin⟩)) ∧ Grw w w' := by
  have T0 : Hid (∀ w, Calls Try.prog 71 #[.string mc] w fun e w' => e = .returned (.bool ((mc.size : Int) == 6)) ∧ w' = w) := fun w => l01Mac_any mc w
  have T1 : Hid (∀ w, Calls Try.prog 72 #[.int .i64 ip, .int .i64 po] w fun e w' => e = .returned (.bool (dec (0 ≤ ip ∧ ip ≤ 4294967295) && dec (0 ≤ po ∧ po ≤ 65535))) ∧ w' = w) := fun w => l07Ask9_any ip po w
  have T2 : Hid (∀ w, Calls Try.prog 73 #[.int .i64 di] w fun e w' => e = .returned (.bool (dec (0 ≤ di ∧ di ≤ 4294967295))) ∧ w' = w) := fun w => specIp_any di w
  have T3 : Hid (∀ w, Calls Try.prog 74 #[.int .i64 st, .int .i64 1, .int .i64 4] w fun e w' => e = .returned (.bool (dec (1 ≤ st ∧ st ≤ 4))) ∧ w' = w) := fun w => specIn_any st 1 4 w
  have T4 : Hid (∀ w, Calls Try.prog 73 #[.int .i64 un] w fun e w' => e = .returned (.bool (dec (0 ≤ un ∧ un ≤ 4294967295))) ∧ w' = w) := fun w => specIp_any un w
  have T5 : Hid (∀ w, Calls Try.prog 73 #[.int .i64 nx] w fun e w' => e = .returned (.bool (dec (0 ≤ nx ∧ nx ≤ 4294967295))) ∧ w' = w) := fun w => specIp_any nx w
  have T6 : Hid (∀ w, Calls Try.prog 73 #[.int .i64 wa] w fun e w' => e = .returned (.bool (dec (0 ≤ wa ∧ wa ≤ 4294967295))) ∧ w' = w) := fun w => specIp_any wa w
  have T10 : Hid (∀ w, Calls Try.prog 75 #[.agg #[.string mc, .int .i64 ip, .int .i64 po, .int .i64 di, .int .i64 st, .int .i64 un, .int .i64 nx, .int .i64 wa, .string inn, .string out, .bool fin]] w fun e w' => e = .returned (.int .i64 (sentN ⟨mc, ip, po, di, st, un, nx, wa, inn, out, fin⟩)) ∧ Grw w w') := fun w => l10Sent_any mc ip po di st un nx wa inn out fin w ho
  have T9 : Hid (dec (0 ≤ un ∧ un ≤ 4294967295) = true → dec (0 ≤ nx ∧ nx ≤ 4294967295) = true → IntKind.i64.wrap (nx - un) = nx - un ∧ ∀ w, Calls Try.prog 61 #[.int .i64 (nx - un)] w fun e w' => e = .returned (.int .i64 (sqN (nx - un))) ∧ Grw w w') := fun h1 h2 => by
    simp [dec] at h1 h2
    exact ⟨by rw [IntKind.wrap_i64]; omega, fun w => toG (l10Seq_any (nx - un) w (by omega) (by omega))⟩
  have E : Hid (okB ⟨mc, ip, po, di, st, un, nx, wa, inn, out, fin⟩ = ((dec (0 ≤ ip ∧ ip ≤ 4294967295) && dec (0 ≤ po ∧ po ≤ 65535) && dec (0 ≤ di ∧ di ≤ 4294967295) && dec (1 ≤ st ∧ st ≤ 4) && dec (0 ≤ un ∧ un ≤ 4294967295) && dec (0 ≤ nx ∧ nx ≤ 4294967295) && dec (0 ≤ wa ∧ wa ≤ 4294967295)) && (((mc.size : Int) == 6) && !decide ((300 : Int) < (inn.size : Int)) && !decide ((300 : Int) < (out.size : Int)) && !((st == 1) && !(inn.toList == [])) && (fin == (st == 3)) && (fin || (out.toList == []))) && (sqN (nx - un) == sentN ⟨mc, ip, po, di, st, un, nx, wa, inn, out, fin⟩))) := rfl
  generalize ((mc.size : Int) == 6) = t0 at T0 E
  generalize (dec (0 ≤ ip ∧ ip ≤ 4294967295) && dec (0 ≤ po ∧ po ≤ 65535)) = t1 at T1 E
  generalize dec (0 ≤ di ∧ di ≤ 4294967295) = t2 at T2 E
  generalize dec (1 ≤ st ∧ st ≤ 4) = t3c at T3 E
  generalize dec (0 ≤ un ∧ un ≤ 4294967295) = u4 at T4 T9 E
  generalize dec (0 ≤ nx ∧ nx ≤ 4294967295) = u5 at T5 T9 E
  generalize dec (0 ≤ wa ∧ wa ≤ 4294967295) = u6 at T6 E
  generalize h1 : decide ((300 : Int) < (inn.size : Int)) = b1 at E
  generalize h2 : decide ((300 : Int) < (out.size : Int)) = b2 at E
  generalize h3 : (st == 1) = t3 at E
  generalize h4 : (inn.toList == []) = t4 at E
  generalize h5 : (st == 3) = t5 at E
  generalize h6 : (out.toList == []) = t6 at E
  generalize sentN ⟨mc, ip, po, di, st, un, nx, wa, inn, out, fin⟩ = z at T10 E
  generalize sqN (nx - un) = zz at T9 E
  have B0 : Hid (Grw w (w.alloc (.cells #[.string mc, .int .i64 ip, .int .i64 po, .int .i64 di, .int .i64 st, .int .i64 un, .int .i64 nx, .int .i64 wa, .string inn, .string out, .bool fin] 24))) := (Grw.refl _).alloc _
  have q0 : (w.alloc (.cells #[.string mc, .int .i64 ip, .int .i64 po, .int .i64 di, .int .i64 st, .int .i64 un, .int .i64 nx, .int .i64 wa, .string inn, .string out, .bool fin] 24)).cell? ⟨w.heap.size, 0, none⟩ = some (.string mc) := by simp [go_sem]
  have q1 : (w.alloc (.cells #[.string mc, .int .i64 ip, .int .i64 po, .int .i64 di, .int .i64 st, .int .i64 un, .int .i64 nx, .int .i64 wa, .string inn, .string out, .bool fin] 24)).cell? ⟨w.heap.size, 1, none⟩ = some (.int .i64 ip) := by simp [go_sem]
  have q2 : (w.alloc (.cells #[.string mc, .int .i64 ip, .int .i64 po, .int .i64 di, .int .i64 st, .int .i64 un, .int .i64 nx, .int .i64 wa, .string inn, .string out, .bool fin] 24)).cell? ⟨w.heap.size, 2, none⟩ = some (.int .i64 po) := by simp [go_sem]
  have q3 : (w.alloc (.cells #[.string mc, .int .i64 ip, .int .i64 po, .int .i64 di, .int .i64 st, .int .i64 un, .int .i64 nx, .int .i64 wa, .string inn, .string out, .bool fin] 24)).cell? ⟨w.heap.size, 3, none⟩ = some (.int .i64 di) := by simp [go_sem]
  have q4 : (w.alloc (.cells #[.string mc, .int .i64 ip, .int .i64 po, .int .i64 di, .int .i64 st, .int .i64 un, .int .i64 nx, .int .i64 wa, .string inn, .string out, .bool fin] 24)).cell? ⟨w.heap.size, 4, none⟩ = some (.int .i64 st) := by simp [go_sem]
  have q5 : (w.alloc (.cells #[.string mc, .int .i64 ip, .int .i64 po, .int .i64 di, .int .i64 st, .int .i64 un, .int .i64 nx, .int .i64 wa, .string inn, .string out, .bool fin] 24)).cell? ⟨w.heap.size, 5, none⟩ = some (.int .i64 un) := by simp [go_sem]
  have q6 : (w.alloc (.cells #[.string mc, .int .i64 ip, .int .i64 po, .int .i64 di, .int .i64 st, .int .i64 un, .int .i64 nx, .int .i64 wa, .string inn, .string out, .bool fin] 24)).cell? ⟨w.heap.size, 6, none⟩ = some (.int .i64 nx) := by simp [go_sem]
  have q7 : (w.alloc (.cells #[.string mc, .int .i64 ip, .int .i64 po, .int .i64 di, .int .i64 st, .int .i64 un, .int .i64 nx, .int .i64 wa, .string inn, .string out, .bool fin] 24)).cell? ⟨w.heap.size, 7, none⟩ = some (.int .i64 wa) := by simp [go_sem]
  have q8 : (w.alloc (.cells #[.string mc, .int .i64 ip, .int .i64 po, .int .i64 di, .int .i64 st, .int .i64 un, .int .i64 nx, .int .i64 wa, .string inn, .string out, .bool fin] 24)).cell? ⟨w.heap.size, 8, none⟩ = some (.string inn) := by simp [go_sem]
  have q9 : (w.alloc (.cells #[.string mc, .int .i64 ip, .int .i64 po, .int .i64 di, .int .i64 st, .int .i64 un, .int .i64 nx, .int .i64 wa, .string inn, .string out, .bool fin] 24)).cell? ⟨w.heap.size, 9, none⟩ = some (.string out) := by simp [go_sem]
  have q10 : (w.alloc (.cells #[.string mc, .int .i64 ip, .int .i64 po, .int .i64 di, .int .i64 st, .int .i64 un, .int .i64 nx, .int .i64 wa, .string inn, .string out, .bool fin] 24)).cell? ⟨w.heap.size, 10, none⟩ = some (.bool fin) := by simp [go_sem]
  have hmix : Try.prog.follows .mixedOrders = true := by kernel_rfl
  go_enter Try.func35, Try.ntmps35
  go_wp2_with fail
  refine (T0.out _).mono ?_
  rintro e w1 ⟨rfl, rfl⟩
  cases t0 with
  | false =>
    go_wp2
    go_ret
    exact ⟨by rw [E.out]; first | rfl | (show Ending.returned (.bool false) = _; simp), (Grw.refl _).alloc _⟩
  | true =>
    go_wp2_with fail
    refine (T1.out _).mono ?_
    rintro e w1 ⟨rfl, rfl⟩
    cases t1 with
    | false =>
      go_wp2
      go_ret
      exact ⟨by rw [E.out]; first | rfl | (show Ending.returned (.bool false) = _; simp), (Grw.refl _).alloc _⟩
    | true =>
      go_wp2_with fail
      refine (T2.out _).mono ?_
      rintro e w1 ⟨rfl, rfl⟩
      cases t2 with
      | false =>
        go_wp2
        go_ret
        exact ⟨by rw [E.out]; first | rfl | (show Ending.returned (.bool false) = _; simp), (Grw.refl _).alloc _⟩
      | true =>
        go_wp2_with fail
        refine (T3.out _).mono ?_
        rintro e w1 ⟨rfl, rfl⟩
        cases t3c with
        | false =>
          go_wp2
          go_ret
          exact ⟨by rw [E.out]; first | rfl | (show Ending.returned (.bool false) = _; simp), (Grw.refl _).alloc _⟩
        | true =>
          go_wp2_with fail
          refine (T4.out _).mono ?_
          rintro e w1 ⟨rfl, rfl⟩
          cases u4 with
          | false =>
            go_wp2
            go_ret
            exact ⟨by rw [E.out]; first | rfl | (show Ending.returned (.bool false) = _; simp), (Grw.refl _).alloc _⟩
          | true =>
            go_wp2_with fail
            refine (T5.out _).mono ?_
            rintro e w1 ⟨rfl, rfl⟩
            cases u5 with
            | false =>
              go_wp2
              go_ret
              exact ⟨by rw [E.out]; first | rfl | (show Ending.returned (.bool false) = _; simp), (Grw.refl _).alloc _⟩
            | true =>
              go_wp2_with fail
              refine (T6.out _).mono ?_
              rintro e w1 ⟨rfl, rfl⟩
              cases u6 with
              | false =>
                go_wp2
                go_ret
                exact ⟨by rw [E.out]; first | rfl | (show Ending.returned (.bool false) = _; simp), (Grw.refl _).alloc _⟩
              | true =>
                cases b1 with
                | false =>
                  cases b2 with
                  | false =>
                    cases t3 with
                    | false =>
                      cases fin with
                      | false =>
                        cases t5 with
                        | false =>
                          cases t6 with
                          | false =>
                            go_wp2
                            go_ret
                            exact ⟨by rw [E.out]; first | rfl | (show Ending.returned (.bool false) = _; simp), (Grw.refl _).alloc _⟩
                          | true =>
                            have X := T9.out (by first | rfl | trivial) (by first | rfl | trivial)
                            have X1 := X.1
                            have X2 : Hid (∀ w, Calls Try.prog 61 #[.int .i64 (nx - un)] w fun e w' => e = .returned (.int .i64 zz) ∧ Grw w w') := X.2
                            clear X T9
                            go_wp2_with fail
                            generalize w.alloc (.cells #[.string mc, .int .i64 ip, .int .i64 po, .int .i64 di, .int .i64 st, .int .i64 un, .int .i64 nx, .int .i64 wa, .string inn, .string out, .bool false] 24) = W at *
                            have y0 : ∀ n os, (grow (W.drewN n) os).cell? ⟨w.heap.size, 0, none⟩ = some (.string mc) := fun n os => bkeep (Grw.below ⟨n, os, rfl⟩) q0
                            have y1 : ∀ n os, (grow (W.drewN n) os).cell? ⟨w.heap.size, 1, none⟩ = some (.int .i64 ip) := fun n os => bkeep (Grw.below ⟨n, os, rfl⟩) q1
                            have y2 : ∀ n os, (grow (W.drewN n) os).cell? ⟨w.heap.size, 2, none⟩ = some (.int .i64 po) := fun n os => bkeep (Grw.below ⟨n, os, rfl⟩) q2
                            have y3 : ∀ n os, (grow (W.drewN n) os).cell? ⟨w.heap.size, 3, none⟩ = some (.int .i64 di) := fun n os => bkeep (Grw.below ⟨n, os, rfl⟩) q3
                            have y4 : ∀ n os, (grow (W.drewN n) os).cell? ⟨w.heap.size, 4, none⟩ = some (.int .i64 st) := fun n os => bkeep (Grw.below ⟨n, os, rfl⟩) q4
                            have y5 : ∀ n os, (grow (W.drewN n) os).cell? ⟨w.heap.size, 5, none⟩ = some (.int .i64 un) := fun n os => bkeep (Grw.below ⟨n, os, rfl⟩) q5
                            have y6 : ∀ n os, (grow (W.drewN n) os).cell? ⟨w.heap.size, 6, none⟩ = some (.int .i64 nx) := fun n os => bkeep (Grw.below ⟨n, os, rfl⟩) q6
                            have y7 : ∀ n os, (grow (W.drewN n) os).cell? ⟨w.heap.size, 7, none⟩ = some (.int .i64 wa) := fun n os => bkeep (Grw.below ⟨n, os, rfl⟩) q7
                            have y8 : ∀ n os, (grow (W.drewN n) os).cell? ⟨w.heap.size, 8, none⟩ = some (.string inn) := fun n os => bkeep (Grw.below ⟨n, os, rfl⟩) q8
                            have y9 : ∀ n os, (grow (W.drewN n) os).cell? ⟨w.heap.size, 9, none⟩ = some (.string out) := fun n os => bkeep (Grw.below ⟨n, os, rfl⟩) q9
                            have y10 : ∀ n os, (grow (W.drewN n) os).cell? ⟨w.heap.size, 10, none⟩ = some (.bool false) := fun n os => bkeep (Grw.below ⟨n, os, rfl⟩) q10
                            refine wp_region_quiet_grown (by assumption) (by kernel_rfl) ?_
                            repeat (go_big_quiet_step (first | fail | (first | (go_at_call 61; exact Calls.grown_of (X2.out _)) | (go_at_call 75; exact Calls.grown_of (T10.out _)))))
                            refine wpQuiet_nil ?_
                            intro _ hw'
                            obtain ⟨⟨nq, osq⟩, hw''⟩ := hw'
                            subst hw''
                            have HG2 : Hid (Grw w (grow (W.drewN nq) osq)) := B0.out.trans ⟨nq, osq, rfl⟩
                            clear y0 y1 y2 y3 y4 y5 y6 y7 y8 y9 y10 q0 q1 q2 q3 q4 q5 q6 q7 q8 q9 q10 B0
                            generalize (grow (W.drewN nq) osq) = w5 at *
                            go_wp2
                            go_ret
                            exact ⟨by rw [E.out]; rfl, HG2.out⟩
                        | true =>
                          go_wp2
                          go_ret
                          exact ⟨by rw [E.out]; first | rfl | (show Ending.returned (.bool false) = _; simp), (Grw.refl _).alloc _⟩
                      | true =>
                        cases t5 with
                        | false =>
                          go_wp2
                          go_ret
                          exact ⟨by rw [E.out]; first | rfl | (show Ending.returned (.bool false) = _; simp), (Grw.refl _).alloc _⟩
                        | true =>
                          have X := T9.out (by first | rfl | trivial) (by first | rfl | trivial)
                          have X1 := X.1
                          have X2 : Hid (∀ w, Calls Try.prog 61 #[.int .i64 (nx - un)] w fun e w' => e = .returned (.int .i64 zz) ∧ Grw w w') := X.2
                          clear X T9
                          go_wp2_with fail
                          generalize w.alloc (.cells #[.string mc, .int .i64 ip, .int .i64 po, .int .i64 di, .int .i64 st, .int .i64 un, .int .i64 nx, .int .i64 wa, .string inn, .string out, .bool true] 24) = W at *
                          have y0 : ∀ n os, (grow (W.drewN n) os).cell? ⟨w.heap.size, 0, none⟩ = some (.string mc) := fun n os => bkeep (Grw.below ⟨n, os, rfl⟩) q0
                          have y1 : ∀ n os, (grow (W.drewN n) os).cell? ⟨w.heap.size, 1, none⟩ = some (.int .i64 ip) := fun n os => bkeep (Grw.below ⟨n, os, rfl⟩) q1
                          have y2 : ∀ n os, (grow (W.drewN n) os).cell? ⟨w.heap.size, 2, none⟩ = some (.int .i64 po) := fun n os => bkeep (Grw.below ⟨n, os, rfl⟩) q2
                          have y3 : ∀ n os, (grow (W.drewN n) os).cell? ⟨w.heap.size, 3, none⟩ = some (.int .i64 di) := fun n os => bkeep (Grw.below ⟨n, os, rfl⟩) q3
                          have y4 : ∀ n os, (grow (W.drewN n) os).cell? ⟨w.heap.size, 4, none⟩ = some (.int .i64 st) := fun n os => bkeep (Grw.below ⟨n, os, rfl⟩) q4
                          have y5 : ∀ n os, (grow (W.drewN n) os).cell? ⟨w.heap.size, 5, none⟩ = some (.int .i64 un) := fun n os => bkeep (Grw.below ⟨n, os, rfl⟩) q5
                          have y6 : ∀ n os, (grow (W.drewN n) os).cell? ⟨w.heap.size, 6, none⟩ = some (.int .i64 nx) := fun n os => bkeep (Grw.below ⟨n, os, rfl⟩) q6
                          have y7 : ∀ n os, (grow (W.drewN n) os).cell? ⟨w.heap.size, 7, none⟩ = some (.int .i64 wa) := fun n os => bkeep (Grw.below ⟨n, os, rfl⟩) q7
                          have y8 : ∀ n os, (grow (W.drewN n) os).cell? ⟨w.heap.size, 8, none⟩ = some (.string inn) := fun n os => bkeep (Grw.below ⟨n, os, rfl⟩) q8
                          have y9 : ∀ n os, (grow (W.drewN n) os).cell? ⟨w.heap.size, 9, none⟩ = some (.string out) := fun n os => bkeep (Grw.below ⟨n, os, rfl⟩) q9
                          have y10 : ∀ n os, (grow (W.drewN n) os).cell? ⟨w.heap.size, 10, none⟩ = some (.bool true) := fun n os => bkeep (Grw.below ⟨n, os, rfl⟩) q10
                          refine wp_region_quiet_grown (by assumption) (by kernel_rfl) ?_
                          repeat (go_big_quiet_step (first | fail | (first | (go_at_call 61; exact Calls.grown_of (X2.out _)) | (go_at_call 75; exact Calls.grown_of (T10.out _)))))
                          refine wpQuiet_nil ?_
                          intro _ hw'
                          obtain ⟨⟨nq, osq⟩, hw''⟩ := hw'
                          subst hw''
                          have HG2 : Hid (Grw w (grow (W.drewN nq) osq)) := B0.out.trans ⟨nq, osq, rfl⟩
                          clear y0 y1 y2 y3 y4 y5 y6 y7 y8 y9 y10 q0 q1 q2 q3 q4 q5 q6 q7 q8 q9 q10 B0
                          generalize (grow (W.drewN nq) osq) = w5 at *
                          go_wp2
                          go_ret
                          exact ⟨by rw [E.out]; rfl, HG2.out⟩
                    | true =>
                      cases t4 with
                      | false =>
                        go_wp2
                        go_ret
                        exact ⟨by rw [E.out]; first | rfl | (show Ending.returned (.bool false) = _; simp), (Grw.refl _).alloc _⟩
                      | true =>
                        cases fin with
                        | false =>
                          cases t5 with
                          | false =>
                            cases t6 with
                            | false =>
                              go_wp2
                              go_ret
                              exact ⟨by rw [E.out]; first | rfl | (show Ending.returned (.bool false) = _; simp), (Grw.refl _).alloc _⟩
                            | true =>
                              have X := T9.out (by first | rfl | trivial) (by first | rfl | trivial)
                              have X1 := X.1
                              have X2 : Hid (∀ w, Calls Try.prog 61 #[.int .i64 (nx - un)] w fun e w' => e = .returned (.int .i64 zz) ∧ Grw w w') := X.2
                              clear X T9
                              go_wp2_with fail
                              generalize w.alloc (.cells #[.string mc, .int .i64 ip, .int .i64 po, .int .i64 di, .int .i64 st, .int .i64 un, .int .i64 nx, .int .i64 wa, .string inn, .string out, .bool false] 24) = W at *
                              have y0 : ∀ n os, (grow (W.drewN n) os).cell? ⟨w.heap.size, 0, none⟩ = some (.string mc) := fun n os => bkeep (Grw.below ⟨n, os, rfl⟩) q0
                              have y1 : ∀ n os, (grow (W.drewN n) os).cell? ⟨w.heap.size, 1, none⟩ = some (.int .i64 ip) := fun n os => bkeep (Grw.below ⟨n, os, rfl⟩) q1
                              have y2 : ∀ n os, (grow (W.drewN n) os).cell? ⟨w.heap.size, 2, none⟩ = some (.int .i64 po) := fun n os => bkeep (Grw.below ⟨n, os, rfl⟩) q2
                              have y3 : ∀ n os, (grow (W.drewN n) os).cell? ⟨w.heap.size, 3, none⟩ = some (.int .i64 di) := fun n os => bkeep (Grw.below ⟨n, os, rfl⟩) q3
                              have y4 : ∀ n os, (grow (W.drewN n) os).cell? ⟨w.heap.size, 4, none⟩ = some (.int .i64 st) := fun n os => bkeep (Grw.below ⟨n, os, rfl⟩) q4
                              have y5 : ∀ n os, (grow (W.drewN n) os).cell? ⟨w.heap.size, 5, none⟩ = some (.int .i64 un) := fun n os => bkeep (Grw.below ⟨n, os, rfl⟩) q5
                              have y6 : ∀ n os, (grow (W.drewN n) os).cell? ⟨w.heap.size, 6, none⟩ = some (.int .i64 nx) := fun n os => bkeep (Grw.below ⟨n, os, rfl⟩) q6
                              have y7 : ∀ n os, (grow (W.drewN n) os).cell? ⟨w.heap.size, 7, none⟩ = some (.int .i64 wa) := fun n os => bkeep (Grw.below ⟨n, os, rfl⟩) q7
                              have y8 : ∀ n os, (grow (W.drewN n) os).cell? ⟨w.heap.size, 8, none⟩ = some (.string inn) := fun n os => bkeep (Grw.below ⟨n, os, rfl⟩) q8
                              have y9 : ∀ n os, (grow (W.drewN n) os).cell? ⟨w.heap.size, 9, none⟩ = some (.string out) := fun n os => bkeep (Grw.below ⟨n, os, rfl⟩) q9
                              have y10 : ∀ n os, (grow (W.drewN n) os).cell? ⟨w.heap.size, 10, none⟩ = some (.bool false) := fun n os => bkeep (Grw.below ⟨n, os, rfl⟩) q10
                              refine wp_region_quiet_grown (by assumption) (by kernel_rfl) ?_
                              repeat (go_big_quiet_step (first | fail | (first | (go_at_call 61; exact Calls.grown_of (X2.out _)) | (go_at_call 75; exact Calls.grown_of (T10.out _)))))
                              refine wpQuiet_nil ?_
                              intro _ hw'
                              obtain ⟨⟨nq, osq⟩, hw''⟩ := hw'
                              subst hw''
                              have HG2 : Hid (Grw w (grow (W.drewN nq) osq)) := B0.out.trans ⟨nq, osq, rfl⟩
                              clear y0 y1 y2 y3 y4 y5 y6 y7 y8 y9 y10 q0 q1 q2 q3 q4 q5 q6 q7 q8 q9 q10 B0
                              generalize (grow (W.drewN nq) osq) = w5 at *
                              go_wp2
                              go_ret
                              exact ⟨by rw [E.out]; rfl, HG2.out⟩
                          | true =>
                            go_wp2
                            go_ret
                            exact ⟨by rw [E.out]; first | rfl | (show Ending.returned (.bool false) = _; simp), (Grw.refl _).alloc _⟩
                        | true =>
                          cases t5 with
                          | false =>
                            go_wp2
                            go_ret
                            exact ⟨by rw [E.out]; first | rfl | (show Ending.returned (.bool false) = _; simp), (Grw.refl _).alloc _⟩
                          | true =>
                            have X := T9.out (by first | rfl | trivial) (by first | rfl | trivial)
                            have X1 := X.1
                            have X2 : Hid (∀ w, Calls Try.prog 61 #[.int .i64 (nx - un)] w fun e w' => e = .returned (.int .i64 zz) ∧ Grw w w') := X.2
                            clear X T9
                            go_wp2_with fail
                            generalize w.alloc (.cells #[.string mc, .int .i64 ip, .int .i64 po, .int .i64 di, .int .i64 st, .int .i64 un, .int .i64 nx, .int .i64 wa, .string inn, .string out, .bool true] 24) = W at *
                            have y0 : ∀ n os, (grow (W.drewN n) os).cell? ⟨w.heap.size, 0, none⟩ = some (.string mc) := fun n os => bkeep (Grw.below ⟨n, os, rfl⟩) q0
                            have y1 : ∀ n os, (grow (W.drewN n) os).cell? ⟨w.heap.size, 1, none⟩ = some (.int .i64 ip) := fun n os => bkeep (Grw.below ⟨n, os, rfl⟩) q1
                            have y2 : ∀ n os, (grow (W.drewN n) os).cell? ⟨w.heap.size, 2, none⟩ = some (.int .i64 po) := fun n os => bkeep (Grw.below ⟨n, os, rfl⟩) q2
                            have y3 : ∀ n os, (grow (W.drewN n) os).cell? ⟨w.heap.size, 3, none⟩ = some (.int .i64 di) := fun n os => bkeep (Grw.below ⟨n, os, rfl⟩) q3
                            have y4 : ∀ n os, (grow (W.drewN n) os).cell? ⟨w.heap.size, 4, none⟩ = some (.int .i64 st) := fun n os => bkeep (Grw.below ⟨n, os, rfl⟩) q4
                            have y5 : ∀ n os, (grow (W.drewN n) os).cell? ⟨w.heap.size, 5, none⟩ = some (.int .i64 un) := fun n os => bkeep (Grw.below ⟨n, os, rfl⟩) q5
                            have y6 : ∀ n os, (grow (W.drewN n) os).cell? ⟨w.heap.size, 6, none⟩ = some (.int .i64 nx) := fun n os => bkeep (Grw.below ⟨n, os, rfl⟩) q6
                            have y7 : ∀ n os, (grow (W.drewN n) os).cell? ⟨w.heap.size, 7, none⟩ = some (.int .i64 wa) := fun n os => bkeep (Grw.below ⟨n, os, rfl⟩) q7
                            have y8 : ∀ n os, (grow (W.drewN n) os).cell? ⟨w.heap.size, 8, none⟩ = some (.string inn) := fun n os => bkeep (Grw.below ⟨n, os, rfl⟩) q8
                            have y9 : ∀ n os, (grow (W.drewN n) os).cell? ⟨w.heap.size, 9, none⟩ = some (.string out) := fun n os => bkeep (Grw.below ⟨n, os, rfl⟩) q9
                            have y10 : ∀ n os, (grow (W.drewN n) os).cell? ⟨w.heap.size, 10, none⟩ = some (.bool true) := fun n os => bkeep (Grw.below ⟨n, os, rfl⟩) q10
                            refine wp_region_quiet_grown (by assumption) (by kernel_rfl) ?_
                            repeat (go_big_quiet_step (first | fail | (first | (go_at_call 61; exact Calls.grown_of (X2.out _)) | (go_at_call 75; exact Calls.grown_of (T10.out _)))))
                            refine wpQuiet_nil ?_
                            intro _ hw'
                            obtain ⟨⟨nq, osq⟩, hw''⟩ := hw'
                            subst hw''
                            have HG2 : Hid (Grw w (grow (W.drewN nq) osq)) := B0.out.trans ⟨nq, osq, rfl⟩
                            clear y0 y1 y2 y3 y4 y5 y6 y7 y8 y9 y10 q0 q1 q2 q3 q4 q5 q6 q7 q8 q9 q10 B0
                            generalize (grow (W.drewN nq) osq) = w5 at *
                            go_wp2
                            go_ret
                            exact ⟨by rw [E.out]; rfl, HG2.out⟩
                  | true =>
                    go_wp2
                    go_ret
                    exact ⟨by rw [E.out]; first | rfl | (show Ending.returned (.bool false) = _; simp), (Grw.refl _).alloc _⟩
                | true =>
                  go_wp2
                  go_ret
                  exact ⟨by rw [E.out]; first | rfl | (show Ending.returned (.bool false) = _; simp), (Grw.refl _).alloc _⟩
end Go.Proofs.Ytfgghffgfefgpaa

namespace Go.Proofs.Ytfgghffgfefgpaa
open Go.RowKit Go.PlainAid Go.Proofs.Ytfgghffgfefgpaa.Bt Go.Sort
set_option linter.unusedVariables false
set_option maxRecDepth 20000
set_option maxHeartbeats 2000000 in
theorem toConn_any (mc : ByteArray) (ip po di st un nx wa : Int) (inn out : ByteArray) (fin : Bool) (w : World) :
    Calls Try.prog 24 #[.agg #[.string mc, .int .i64 ip, .int .i64 po, .int .i64 di, .int .i64 st, .int .i64 un, .int .i64 nx, .int .i64 wa, .string inn, .string out, .bool fin]] w fun e w' => e = .returned (.agg #[.string mc, .int .i64 ip, .int .i64 po, .int .i64 di, .int .i64 st, .int .i64 un, .int .i64 nx, .int .i64 wa, .string inn, .string out, .bool fin]) ∧ Grw w w' := by
  go_enter Try.func24, Try.ntmps24
  go_wp2
  (try simp only [Exit.inBlock, Exit.then])
  refine bodyPost_ret (v := .agg #[.string mc, .int .i64 ip, .int .i64 po, .int .i64 di, .int .i64 st, .int .i64 un, .int .i64 nx, .int .i64 wa, .string inn, .string out, .bool fin]) (by simp [results, Try.results24, go_sem]; try rfl) rfl ?_
  exact ⟨rfl, ((((Grw.refl _).alloc _).alloc _).alloc _)⟩
set_option maxHeartbeats 1000000 in
theorem eqConn_any (mc : ByteArray) (ip po di st un nx wa : Int) (inn out : ByteArray) (fin : Bool) (w : World) :
    Calls Try.prog 26 #[.agg #[.string mc, .int .i64 ip, .int .i64 po, .int .i64 di, .int .i64 st, .int .i64 un, .int .i64 nx, .int .i64 wa, .string inn, .string out, .bool fin], .agg #[.string mc, .int .i64 ip, .int .i64 po, .int .i64 di, .int .i64 st, .int .i64 un, .int .i64 nx, .int .i64 wa, .string inn, .string out, .bool fin]] w fun e w' => e = .returned (.bool true) ∧ Grw w w' := by
  have h0 : (mc.toList == mc.toList) = true := by simp
  have h1 : (ip != ip) = false := by simp
  have h2 : (po != po) = false := by simp
  have h3 : (di != di) = false := by simp
  have h4 : (st != st) = false := by simp
  have h5 : (un != un) = false := by simp
  have h6 : (nx != nx) = false := by simp
  have h7 : (wa != wa) = false := by simp
  have h8 : (inn.toList == inn.toList) = true := by simp
  have h9 : (out.toList == out.toList) = true := by simp
  have h10 : (fin != fin) = false := by simp
  go_enter Try.func26, Try.ntmps26
  go_wp2
  go_ret
  exact ⟨rfl, ((Grw.refl _).alloc _).alloc _⟩
set_option maxHeartbeats 2000000 in
theorem toSegment_any (sp dp sq ac fl wi : Int) (da : ByteArray) (w : World) :
    Calls Try.prog 25 #[.agg #[.int .i64 sp, .int .i64 dp, .int .i64 sq, .int .i64 ac, .int .i64 fl, .int .i64 wi, .string da]] w fun e w' => e = .returned (.agg #[.int .i64 sp, .int .i64 dp, .int .i64 sq, .int .i64 ac, .int .i64 fl, .int .i64 wi, .string da]) ∧ Grw w w' := by
  go_enter Try.func25, Try.ntmps25
  go_wp2
  (try simp only [Exit.inBlock, Exit.then])
  refine bodyPost_ret (v := .agg #[.int .i64 sp, .int .i64 dp, .int .i64 sq, .int .i64 ac, .int .i64 fl, .int .i64 wi, .string da]) (by simp [results, Try.results25, go_sem]; try rfl) rfl ?_
  exact ⟨rfl, ((((Grw.refl _).alloc _).alloc _).alloc _)⟩
set_option maxHeartbeats 1000000 in
theorem eqSegment_any (sp dp sq ac fl wi : Int) (da : ByteArray) (w : World) :
    Calls Try.prog 54 #[.agg #[.int .i64 sp, .int .i64 dp, .int .i64 sq, .int .i64 ac, .int .i64 fl, .int .i64 wi, .string da], .agg #[.int .i64 sp, .int .i64 dp, .int .i64 sq, .int .i64 ac, .int .i64 fl, .int .i64 wi, .string da]] w fun e w' => e = .returned (.bool true) ∧ Grw w w' := by
  have h0 : (sp != sp) = false := by simp
  have h1 : (dp != dp) = false := by simp
  have h2 : (sq != sq) = false := by simp
  have h3 : (ac != ac) = false := by simp
  have h4 : (fl != fl) = false := by simp
  have h5 : (wi != wi) = false := by simp
  have h6 : (da.toList == da.toList) = true := by simp
  go_enter Try.func54, Try.ntmps54
  go_wp2
  go_ret
  exact ⟨rfl, ((Grw.refl _).alloc _).alloc _⟩
set_option maxHeartbeats 1000000 in
theorem szConn_any (mc : ByteArray) (ip po di st un nx wa : Int) (inn out : ByteArray) (fin : Bool) (l : Int) (w : World) (hmc : mc.size ≤ 9223372036854775807) (hinn : inn.size ≤ 9223372036854775807) (hout : out.size ≤ 9223372036854775807) (h0 : 0 ≤ l) (h1 : l ≤ 1048576) :
    Calls Try.prog 22 #[.agg #[.string mc, .int .i64 ip, .int .i64 po, .int .i64 di, .int .i64 st, .int .i64 un, .int .i64 nx, .int .i64 wa, .string inn, .string out, .bool fin], .int .i64 l] w fun e w' => ∃ r : Int, e = .returned (.int .i64 r) ∧ (0 ≤ r → r ≤ l ∧ (mc.size : Int) ≤ l ∧ (inn.size : Int) ≤ l ∧ (out.size : Int) ≤ l) ∧ -1 ≤ r ∧ r ≤ 1048576 ∧ Grw w w' := by
  by_cases hx0 : l - (mc.size : Int) < 0
  · go_enter Try.func22, Try.ntmps22
    go_wp2
    go_ret
    exact ⟨-1, rfl, fun h => absurd h (by omega), by omega, by omega, (Grw.refl _).alloc _⟩
  by_cases hx1 : l - (mc.size : Int) - (inn.size : Int) < 0
  · go_enter Try.func22, Try.ntmps22
    go_wp2
    go_ret
    exact ⟨-1, rfl, fun h => absurd h (by omega), by omega, by omega, (Grw.refl _).alloc _⟩
  by_cases hx2 : l - (mc.size : Int) - (inn.size : Int) - (out.size : Int) < 0
  · go_enter Try.func22, Try.ntmps22
    go_wp2
    go_ret
    exact ⟨-1, rfl, fun h => absurd h (by omega), by omega, by omega, (Grw.refl _).alloc _⟩
  go_enter Try.func22, Try.ntmps22
  go_wp2
  go_ret
  exact ⟨_, rfl, fun _ => ⟨by omega, by omega, by omega, by omega⟩, by omega, by omega, (Grw.refl _).alloc _⟩
set_option maxHeartbeats 1000000 in
theorem szSegment_any (sp dp sq ac fl wi : Int) (da : ByteArray) (l : Int) (w : World) (hda : da.size ≤ 9223372036854775807) (h0 : 0 ≤ l) (h1 : l ≤ 1048576) :
    Calls Try.prog 23 #[.agg #[.int .i64 sp, .int .i64 dp, .int .i64 sq, .int .i64 ac, .int .i64 fl, .int .i64 wi, .string da], .int .i64 l] w fun e w' => ∃ r : Int, e = .returned (.int .i64 r) ∧ (0 ≤ r → r ≤ l ∧ (da.size : Int) ≤ l) ∧ -1 ≤ r ∧ r ≤ 1048576 ∧ Grw w w' := by
  by_cases hx0 : l - (da.size : Int) < 0
  · go_enter Try.func23, Try.ntmps23
    go_wp2
    go_ret
    exact ⟨-1, rfl, fun h => absurd h (by omega), by omega, by omega, (Grw.refl _).alloc _⟩
  go_enter Try.func23, Try.ntmps23
  go_wp2
  go_ret
  exact ⟨_, rfl, fun _ => ⟨by omega, by omega⟩, by omega, by omega, (Grw.refl _).alloc _⟩
set_option maxHeartbeats 2000000 in
theorem eqSegmentS_yes (a a' : Option Addr) (len cap cap' : Nat) (xs : List SegV) (w : World) (h : Rw SgR 7 w a xs) (h' : Rw SgR 7 w a' xs) (hl : xs.length = len) (hlen : len ≤ 9223372036854775807) :
    Calls Try.prog 27 #[.slice a len cap, .slice a' len cap'] w fun e w' => e = .returned (.bool true) ∧ Grw w w' := by
  have hne : ((len : Int) != (len : Int)) = false := by simp
  have hmix : Try.prog.follows .mixedOrders = true := by kernel_rfl
  have RW : Hid (Rw SgR 7 w a xs) := h
  have RW' : Hid (Rw SgR 7 w a' xs) := h'
  clear h h'
  go_enter Try.func27, Try.ntmps27
  go_wp2
  go_loopw [5] (fun i wr => ∃ k : Nat, k ≤ len ∧ i = .int .i64 k ∧ Hid (Grw w wr)) (fun i _ => len - (intOf i).toNat)
  case atStart => exact ⟨0, Nat.zero_le _, rfl, Grw.refl w⟩
  case round =>
    obtain ⟨k, hk, rfl, HG⟩ := hrel
    by_cases hlt : k < len
    · obtain ⟨x, hx⟩ := at_of hl hlt
      obtain ⟨b, off, vs, rfl, hb, hvl, hR, hc⟩ := RW.out.at FR.kp HG.out.below hx
      obtain ⟨b', off', vs', rfl, hb', hvl', hR', hc'⟩ := RW'.out.at FR.kp HG.out.below hx
      obtain ⟨sp, dp, sq, ac, fl, wi, da⟩ := x
      obtain ⟨rfl, -⟩ := hR
      obtain ⟨rfl, -⟩ := hR'
      have q0 : ∀ n os, (grow (wr.drewN n) os).cell? ⟨b, off + k * 7, none⟩ = some (.int .i64 sp) := fun n os => grown_cell hb HG.out (hc 0 _ rfl) n os
      have q1 : ∀ n os, (grow (wr.drewN n) os).cell? ⟨b, off + k * 7 + 1, none⟩ = some (.int .i64 dp) := fun n os => grown_cell hb HG.out (hc 1 _ rfl) n os
      have q2 : ∀ n os, (grow (wr.drewN n) os).cell? ⟨b, off + k * 7 + 2, none⟩ = some (.int .i64 sq) := fun n os => grown_cell hb HG.out (hc 2 _ rfl) n os
      have q3 : ∀ n os, (grow (wr.drewN n) os).cell? ⟨b, off + k * 7 + 3, none⟩ = some (.int .i64 ac) := fun n os => grown_cell hb HG.out (hc 3 _ rfl) n os
      have q4 : ∀ n os, (grow (wr.drewN n) os).cell? ⟨b, off + k * 7 + 4, none⟩ = some (.int .i64 fl) := fun n os => grown_cell hb HG.out (hc 4 _ rfl) n os
      have q5 : ∀ n os, (grow (wr.drewN n) os).cell? ⟨b, off + k * 7 + 5, none⟩ = some (.int .i64 wi) := fun n os => grown_cell hb HG.out (hc 5 _ rfl) n os
      have q6 : ∀ n os, (grow (wr.drewN n) os).cell? ⟨b, off + k * 7 + 6, none⟩ = some (.string da) := fun n os => grown_cell hb HG.out (hc 6 _ rfl) n os
      have r0 : ∀ n os, (grow (wr.drewN n) os).cell? ⟨b', off' + k * 7, none⟩ = some (.int .i64 sp) := fun n os => grown_cell hb' HG.out (hc' 0 _ rfl) n os
      have r1 : ∀ n os, (grow (wr.drewN n) os).cell? ⟨b', off' + k * 7 + 1, none⟩ = some (.int .i64 dp) := fun n os => grown_cell hb' HG.out (hc' 1 _ rfl) n os
      have r2 : ∀ n os, (grow (wr.drewN n) os).cell? ⟨b', off' + k * 7 + 2, none⟩ = some (.int .i64 sq) := fun n os => grown_cell hb' HG.out (hc' 2 _ rfl) n os
      have r3 : ∀ n os, (grow (wr.drewN n) os).cell? ⟨b', off' + k * 7 + 3, none⟩ = some (.int .i64 ac) := fun n os => grown_cell hb' HG.out (hc' 3 _ rfl) n os
      have r4 : ∀ n os, (grow (wr.drewN n) os).cell? ⟨b', off' + k * 7 + 4, none⟩ = some (.int .i64 fl) := fun n os => grown_cell hb' HG.out (hc' 4 _ rfl) n os
      have r5 : ∀ n os, (grow (wr.drewN n) os).cell? ⟨b', off' + k * 7 + 5, none⟩ = some (.int .i64 wi) := fun n os => grown_cell hb' HG.out (hc' 5 _ rfl) n os
      have r6 : ∀ n os, (grow (wr.drewN n) os).cell? ⟨b', off' + k * 7 + 6, none⟩ = some (.string da) := fun n os => grown_cell hb' HG.out (hc' 6 _ rfl) n os
      have HE : Hid (∀ w, Calls Try.prog 54 #[.agg #[.int .i64 sp, .int .i64 dp, .int .i64 sq, .int .i64 ac, .int .i64 fl, .int .i64 wi, .string da], .agg #[.int .i64 sp, .int .i64 dp, .int .i64 sq, .int .i64 ac, .int .i64 fl, .int .i64 wi, .string da]] w fun e w' => e = .returned (.bool true) ∧ Grw w w') := fun w => eqSegment_any sp dp sq ac fl wi da w
      have hltz : (k : Int) < (len : Int) := by omega
      clear hc hc'
      go_wp2_with fail
      refine wp_region_quiet_grown (by assumption) (by kernel_rfl) ?_
      repeat (go_big_quiet_step (first | fail | (go_at_call 54; exact Calls.grown_of (HE.out _))))
      refine wpQuiet_nil ?_
      intro _ hw'
      obtain ⟨⟨nq, osq⟩, hw''⟩ := hw'
      subst hw''
      have HG2 : Hid (Grw w (grow (wr.drewN nq) osq)) := HG.out.trans ⟨nq, osq, rfl⟩
      clear q0 q1 q2 q3 q4 q5 q6 r0 r1 r2 r3 r4 r5 r6 HG HE
      go_wp2
      go_roundw
      case rel => exact ⟨k + 1, by omega, by go_num, HG2⟩
      case measure => simp [intOf]; omega
    · obtain rfl : k = len := by omega
      go_wp2
      go_ret
      exact ⟨rfl, HG.out⟩
end Go.Proofs.Ytfgghffgfefgpaa

namespace Go.Proofs.Ytfgghffgfefgpaa
open Go.RowKit Go.PlainAid
set_option linter.unusedVariables false

theorem Grw.grown {w w' : World} (h : Grw w w') (r : Option Nat) : w.grownBy w' r := by
  have b := h.below
  obtain ⟨q, os, rfl⟩ := h
  exact ⟨rfl, rfl, rfl, b.size, fun k hk _ => b.block k hk⟩
end Go.Proofs.Ytfgghffgfefgpaa

namespace Go.Proofs.Ytfgghffgfefgpaa
open Go.RowKit Go.PlainAid Go.Sort
set_option linter.unusedVariables false
theorem modify_app {α : Type} (A B : Array α) (i : Nat) (f : α → α) (h : A.size ≤ i) : (A ++ B).modify i f = A ++ B.modify (i - A.size) f := by
  apply Array.ext
  · simp
  · intro j h1 h2
    rw [Array.getElem_modify]
    by_cases hj : j < A.size
    · rw [if_neg (by omega), Array.getElem_append_left hj, Array.getElem_append_left hj]
    · rw [Array.getElem_append_right (by omega), Array.getElem_append_right (by omega), Array.getElem_modify]
      by_cases e : i = j
      · rw [if_pos e, if_pos (by omega)]
      · rw [if_neg e, if_neg (by omega)]
theorem Grw.set {w w' : World} (h : Grw w w') (a : Addr) (v : Value) (ha : w.heap.size ≤ a.block) : Grw w (w'.setCell a v) := by
  obtain ⟨f, hf⟩ : ∃ f : Obj → Obj, ∀ w : World, w.setCell a v = { w with heap := w.heap.modify a.block f } := ⟨_, fun _ => rfl⟩
  obtain ⟨q, os, rfl⟩ := h
  refine ⟨q, os.modify (a.block - w.heap.size) f, ?_⟩
  rw [hf]
  unfold grow
  have e1 := modify_app (w.drewN q).heap os a.block f ha
  show ({ heap := ((w.drewN q).heap ++ os).modify a.block f, tape := _, drawn := _, os := _, output := _ } : World) = _
  rw [e1]
  rfl
end Go.Proofs.Ytfgghffgfefgpaa

namespace Go.Proofs.Ytfgghffgfefgpaa
open Go.RowKit Go.PlainAid
set_option linter.unusedVariables false
set_option maxRecDepth 20000

theorem strOfNums_append (L M : List Int) : strOfNums L ++ strOfNums M = strOfNums (L ++ M) := by
  apply ByteArray.ext
  simp [strOfNums, ByteArray.data_append]

/-- 'string([]byte{x})'. -/
theorem conv_one (wx : World) (b : Nat) (x : Int) (h0 : 0 ≤ x) (h1 : x ≤ 255) (hb : wx.cell? ⟨b, 0, none⟩ = some (.int .u8 x)) : (convert 22 9 (.slice (some ⟨b, 0, none⟩) 1 1)).run Try.prog wx = .ok (.string (strOfNums [x])) wx := by
  have hB : Bytes wx (some ⟨b, 0, none⟩) [x].length (fun j => [x].getD j 0) := by
    refine ⟨fun k => ?_, fun _ => ⟨b, 0, rfl, fun i hi => ?_⟩⟩
    · rcases k with _ | k <;> simp <;> omega
    · obtain rfl : i = 0 := by simpa using hi
      simpa using hb
  exact conv_own (P := Try.prog) wx 22 9 5 Try.underlying22 Try.underlying5 Try.underlying9 (some ⟨b, 0, none⟩) 1 [x] hB

end Go.Proofs.Ytfgghffgfefgpaa

namespace Go.Proofs.Ytfgghffgfefgpaa
open Go.RowKit Go.PlainAid Go.Proofs.Ytfgghffgfefgpaa.Bt Go.Sort
set_option linter.unusedVariables false
set_option maxRecDepth 20000
/-- The digits of a number, laid ahead of others. -/
def mtF (k : Nat) (L : List Int) : List Int := if h : k = 0 then L else mtF (k / 10) ((48 + ((k % 10 : Nat) : Int)) :: L)
termination_by k
decreasing_by omega
theorem mtF_zero (L : List Int) : mtF 0 L = L := by rw [mtF, dif_pos rfl]
theorem mtF_step {k : Nat} (h : 0 < k) (L : List Int) : mtF k L = mtF (k / 10) ((48 + ((k % 10 : Nat) : Int)) :: L) := by rw [mtF, dif_neg (by omega)]
/-- What markText answers. -/
def mtS (k : Nat) : ByteArray := strOfNums [109] ++ strOfNums (mtF k [])
theorem m_lit : (⟨#[109]⟩ : ByteArray) = strOfNums [109] := by
  apply ByteArray.ext
  simp [strOfNums]
set_option maxHeartbeats 1000000 in
theorem markText_any (n : Nat) (w : World) (h0 : 0 < n) (hn : n ≤ 1000000000000) :
    Calls Try.prog 55 #[.int .i64 n] w fun e w' => e = .returned (.string (mtS n)) ∧ Grw w w' := by
  have hpos : decide ((n : Int) ≤ 0) = false := by simp; omega
  go_enter Try.func55, Try.ntmps55
  go_wp2
  go_loopw [0, 3] (fun p q wr => ∃ (k : Nat) (L : List Int), k ≤ n ∧ p = .int .i64 k ∧ q = .string (strOfNums L) ∧ Hid (mtF k L = mtF n [] ∧ k < 10 ^ (20 - L.length) ∧ L.length ≤ 20) ∧ Hid (Grw w wr)) (fun p _ _ => (intOf p).toNat)
  case atStart => exact ⟨n, [], Nat.le_refl _, rfl, rfl, ⟨rfl, by simp; omega, by simp⟩, Grw.refl _⟩
  case round =>
    obtain ⟨k, L, hk, rfl, rfl, HM, HG⟩ := hrel
    by_cases hlt : 0 < k
    · have hltz : (0 : Int) < (k : Int) := by omega
      have hL : L.length + 1 ≤ 20 := by
        have h1 := HM.out.2.1
        have h2 := HM.out.2.2
        by_cases h3 : L.length = 20
        · rw [h3] at h1
          simp at h1
          omega
        · omega
      have HM2 : Hid (mtF (k / 10) ((48 + (k : Int) % 10) :: L) = mtF n [] ∧ k / 10 < 10 ^ (20 - (((48 + (k : Int) % 10) :: L)).length) ∧ (((48 + (k : Int) % 10) :: L)).length ≤ 20) := by
        have e : ((k % 10 : Nat) : Int) = (k : Int) % 10 := by omega
        refine ⟨by rw [← e, ← mtF_step hlt]; exact HM.out.1, ?_, by simpa using hL⟩
        rw [Nat.div_lt_iff_lt_mul (by omega), List.length_cons]
        have := HM.out.2.1
        rw [show 20 - L.length = (20 - (L.length + 1)) + 1 by omega, Nat.pow_succ] at this
        exact this
      have hcv : ∀ (wx : World) (b : Nat), wx.cell? ⟨b, 0, none⟩ = some (.int .u8 (48 + (k : Int) % 10)) → (convert 22 9 (.slice (some ⟨b, 0, none⟩) 1 1)).run Try.prog wx = .ok (.string (strOfNums [48 + (k : Int) % 10])) wx := fun wx b hb => conv_one wx b _ (by omega) (by omega) hb
      have hcv1 := hcv (wr.alloc (.cells #[.int .u8 (48 + (k : Int) % 10)] 5)) wr.heap.size (by simp)
      have hadd : ∀ wx : World, (Op.stringOp .add (strOfNums [48 + (k : Int) % 10]) (strOfNums L)).run Try.prog wx = .ok (.string (strOfNums [48 + (k : Int) % 10] ++ strOfNums L)) wx := fun wx => run_string_add_sum (P := Try.prog) (w := wx) _ _ (by
        rw [strOfNums_size, strOfNums_size]
        simp; omega)
      rw [strOfNums_append] at hadd
      have hadd' : ∀ wx : World, (Op.stringOp .add (strOfNums [48 + (k : Int) % 10]) (strOfNums L)).run Try.prog wx = .ok (.string (strOfNums ((48 + (k : Int) % 10) :: L))) wx := hadd
      have hw1 : IntKind.i64.wrap ((k : Int) / 10) = (k : Int) / 10 := by rw [IntKind.wrap_i64]; omega
      have htm : (k : Int).tmod 10 = (k : Int) % 10 := Int.tmod_eq_emod_of_nonneg (by omega)
      have htd : (k : Int).tdiv 10 = (k : Int) / 10 := Int.tdiv_eq_ediv_of_nonneg (by omega)
      have hw2 : IntKind.i64.wrap ((k : Int) % 10) = (k : Int) % 10 := by rw [IntKind.wrap_i64]; omega
      have hw3 : IntKind.i64.wrap (48 + (k : Int) % 10) = 48 + (k : Int) % 10 := by rw [IntKind.wrap_i64]; omega
      have hw4 : IntKind.u8.wrap (48 + (k : Int) % 10) = 48 + (k : Int) % 10 := by rw [IntKind.wrap_u8]; omega
      have HG2 : Hid (Grw w (wr.alloc (.cells #[.int .u8 (48 + (k : Int) % 10)] 5))) := HG.out.alloc _
      have hdv : Hid ((k : Int) / 10 = ((k / 10 : Nat) : Int)) := by show _ = _; omega
      have hk2 : Hid (k / 10 < k) := Nat.div_lt_self hlt (by omega)
      generalize ((48 + (k : Int) % 10) :: L) = L2 at HM2 hadd'
      clear hadd HM HG
      go_wp2
      go_roundw
      case rel => exact ⟨k / 10, L2, by omega, by rw [hdv.out], rfl, HM2, HG2⟩
      case measure => simp [intOf]; omega
    · obtain rfl : k = 0 := by omega
      have e0 := HM.out.1
      rw [mtF_zero] at e0
      have E : Hid (mtS n = strOfNums [109] ++ strOfNums L) := by
        show mtS n = _
        unfold mtS
        rw [e0]
      have hadd : ∀ wx : World, (Op.stringOp .add (⟨#[109]⟩ : ByteArray) (strOfNums L)).run Try.prog wx = .ok (.string (strOfNums [109] ++ strOfNums L)) wx := fun wx => by
        rw [m_lit]
        exact run_string_add_sum (P := Try.prog) (w := wx) _ _ (by
          have := HM.out.2.2
          rw [strOfNums_size, strOfNums_size]
          simp; omega)
      generalize strOfNums [109] ++ strOfNums L = R at E hadd
      clear e0 HM
      go_wp2
      go_ret
      exact ⟨by rw [E.out]; rfl, HG.out⟩
theorem mtS_len (k : Nat) (h : k ≤ 1000000000000) : (mtS k).size ≤ 1000 := by
  have : ∀ (m k : Nat) (L : List Int), k < 10 ^ m → (mtF k L).length ≤ L.length + m := by
    intro m
    induction m with
    | zero => intro k L h; simp at h; subst h; rw [mtF_zero]; omega
    | succ m ih =>
      intro k L h
      by_cases h0 : k = 0
      · subst h0; rw [mtF_zero]; omega
      · rw [mtF_step (by omega)]
        have := ih (k / 10) ((48 + ((k % 10 : Nat) : Int)) :: L) (by rw [Nat.div_lt_iff_lt_mul (by omega)]; rw [Nat.pow_succ] at h; exact h)
        rw [List.length_cons] at this
        omega
  have h1 := this 13 k [] (by omega)
  unfold mtS
  simp [ByteArray.size_append, strOfNums_size] at h1 ⊢
  omega
theorem int_wf9 {n : Int} (h0 : 0 ≤ n) (h1 : n ≤ 1000000000000) : (Lit.int .i64 n).wf = true := by
  have : IntKind.i64.min = -9223372036854775808 := by decide
  have : IntKind.i64.max = 9223372036854775807 := by decide
  simp [Lit.wf]
  omega
end Go.Proofs.Ytfgghffgfefgpaa

namespace Go.Proofs.Ytfgghffgfefgpaa
open Go.RowKit Go.PlainAid Go.Proofs.Ytfgghffgfefgpaa.Bt Go.Sort
set_option linter.unusedVariables false
set_option maxRecDepth 20000

set_option maxHeartbeats 1000000 in
theorem segOf_any (mc : ByteArray) (ip po di st un nx wa : Int) (inn out : ByteArray) (fin : Bool) (sq fl : Int) (da : ByteArray) (w : World) :
    Calls Try.prog 79 #[.agg #[.string mc, .int .i64 ip, .int .i64 po, .int .i64 di, .int .i64 st, .int .i64 un, .int .i64 nx, .int .i64 wa, .string inn, .string out, .bool fin], .int .i64 sq, .int .i64 fl, .string da] w fun e w' => e = .returned (.agg #[.int .i64 80, .int .i64 po, .int .i64 sq, .int .i64 wa, .int .i64 fl, .int .i64 1000, .string da]) ∧ Grw w w' := by
  go_enter Try.func79, Try.ntmps79
  go_wp2
  (try simp only [Exit.inBlock, Exit.then])
  first
    | (go_ret; exact ⟨rfl, by first | exact ((Grw.refl _).alloc _).alloc _ | exact (((Grw.refl _).alloc _).alloc _).alloc _⟩)
    | (refine bodyPost_ret (v := .agg #[.int .i64 80, .int .i64 po, .int .i64 sq, .int .i64 wa, .int .i64 fl, .int .i64 1000, .string da]) (by simp [results, Try.results79, go_sem]; try rfl) rfl ?_
       exact ⟨rfl, by first | exact ((Grw.refl _).alloc _).alloc _ | exact (((Grw.refl _).alloc _).alloc _).alloc _⟩)

set_option maxHeartbeats 1000000 in
theorem l10Reply_any (mc : ByteArray) (ip po di st un nx wa : Int) (inn out : ByteArray) (fin : Bool) (sq fl : Int) (da : ByteArray) (w : World) :
    Calls Try.prog 77 #[.agg #[.string mc, .int .i64 ip, .int .i64 po, .int .i64 di, .int .i64 st, .int .i64 un, .int .i64 nx, .int .i64 wa, .string inn, .string out, .bool fin], .int .i64 sq, .int .i64 fl, .string da] w fun e w' => e = .returned (.agg #[.int .i64 80, .int .i64 po, .int .i64 sq, .int .i64 wa, .int .i64 fl, .int .i64 1000, .string da]) ∧ Grw w w' := by
  go_enter Try.func77, Try.ntmps77
  go_wp2
  (try simp only [Exit.inBlock, Exit.then])
  first
    | (go_ret; exact ⟨rfl, by first | exact ((Grw.refl _).alloc _).alloc _ | exact (((Grw.refl _).alloc _).alloc _).alloc _⟩)
    | (refine bodyPost_ret (v := .agg #[.int .i64 80, .int .i64 po, .int .i64 sq, .int .i64 wa, .int .i64 fl, .int .i64 1000, .string da]) (by simp [results, Try.results77, go_sem]; try rfl) rfl ?_
       exact ⟨rfl, by first | exact ((Grw.refl _).alloc _).alloc _ | exact (((Grw.refl _).alloc _).alloc _).alloc _⟩)

set_option maxHeartbeats 1000000 in
theorem greeting_any (mc : ByteArray) (ip po di st un nx wa : Int) (inn out : ByteArray) (fin : Bool) (w : World) :
    Calls Try.prog 42 #[.agg #[.string mc, .int .i64 ip, .int .i64 po, .int .i64 di, .int .i64 st, .int .i64 un, .int .i64 nx, .int .i64 wa, .string inn, .string out, .bool fin]] w fun e w' => e = .returned (.agg #[.int .i64 80, .int .i64 po, .int .i64 un, .int .i64 wa, .int .i64 18, .int .i64 1000, .string ⟨#[]⟩]) ∧ Grw w w' := by
  have T : Hid (∀ w, Calls Try.prog 79 #[.agg #[.string mc, .int .i64 ip, .int .i64 po, .int .i64 di, .int .i64 st, .int .i64 un, .int .i64 nx, .int .i64 wa, .string inn, .string out, .bool fin], .int .i64 un, .int .i64 18, .string ⟨#[]⟩] w fun e w' => e = .returned (.agg #[.int .i64 80, .int .i64 po, .int .i64 un, .int .i64 wa, .int .i64 18, .int .i64 1000, .string ⟨#[]⟩]) ∧ Grw w w') := fun w => segOf_any mc ip po di st un nx wa inn out fin un 18 ⟨#[]⟩ w
  go_enter Try.func42, Try.ntmps42
  go_wp2_with fail
  refine (T.out _).mono ?_
  rintro e w1 ⟨rfl, g1⟩
  have z0 : w1.cell? ⟨w.heap.size + 1, 0, none⟩ = some (.int .i64 0) := g1.keep (by simp [go_sem])
  have f0 : w1.frozen? ⟨w.heap.size + 1, 0, none⟩ = false := bthaw g1.below (a := ⟨w.heap.size + 1, 0, none⟩) (v := .int .i64 0) (by simp [go_sem]) (by simp [go_sem])
  have z1 : w1.cell? ⟨w.heap.size + 1, 1, none⟩ = some (.int .i64 0) := g1.keep (by simp [go_sem])
  have f1 : w1.frozen? ⟨w.heap.size + 1, 1, none⟩ = false := bthaw g1.below (a := ⟨w.heap.size + 1, 1, none⟩) (v := .int .i64 0) (by simp [go_sem]) (by simp [go_sem])
  have z2 : w1.cell? ⟨w.heap.size + 1, 2, none⟩ = some (.int .i64 0) := g1.keep (by simp [go_sem])
  have f2 : w1.frozen? ⟨w.heap.size + 1, 2, none⟩ = false := bthaw g1.below (a := ⟨w.heap.size + 1, 2, none⟩) (v := .int .i64 0) (by simp [go_sem]) (by simp [go_sem])
  have z3 : w1.cell? ⟨w.heap.size + 1, 3, none⟩ = some (.int .i64 0) := g1.keep (by simp [go_sem])
  have f3 : w1.frozen? ⟨w.heap.size + 1, 3, none⟩ = false := bthaw g1.below (a := ⟨w.heap.size + 1, 3, none⟩) (v := .int .i64 0) (by simp [go_sem]) (by simp [go_sem])
  have z4 : w1.cell? ⟨w.heap.size + 1, 4, none⟩ = some (.int .i64 0) := g1.keep (by simp [go_sem])
  have f4 : w1.frozen? ⟨w.heap.size + 1, 4, none⟩ = false := bthaw g1.below (a := ⟨w.heap.size + 1, 4, none⟩) (v := .int .i64 0) (by simp [go_sem]) (by simp [go_sem])
  have z5 : w1.cell? ⟨w.heap.size + 1, 5, none⟩ = some (.int .i64 0) := g1.keep (by simp [go_sem])
  have f5 : w1.frozen? ⟨w.heap.size + 1, 5, none⟩ = false := bthaw g1.below (a := ⟨w.heap.size + 1, 5, none⟩) (v := .int .i64 0) (by simp [go_sem]) (by simp [go_sem])
  have z6 : w1.cell? ⟨w.heap.size + 1, 6, none⟩ = some (.string ⟨#[]⟩) := g1.keep (by simp [go_sem])
  have f6 : w1.frozen? ⟨w.heap.size + 1, 6, none⟩ = false := bthaw g1.below (a := ⟨w.heap.size + 1, 6, none⟩) (v := .string ⟨#[]⟩) (by simp [go_sem]) (by simp [go_sem])
  have G1 : Hid (Grw w w1) := (((Grw.refl _).alloc _).alloc _).trans g1
  have hz : w.heap.size < w1.heap.size := by have := g1.below.size; simp at this; omega
  clear g1 T
  go_wp2
  (try simp only [Exit.inBlock, Exit.then])
  refine bodyPost_ret (v := .agg #[.int .i64 80, .int .i64 po, .int .i64 un, .int .i64 wa, .int .i64 18, .int .i64 1000, .string ⟨#[]⟩]) (by simp [results, Try.results42, go_sem, z0, z1, z2, z3, z4, z5, z6]; try rfl) rfl ?_
  exact ⟨rfl, ((((((G1.out.set _ _ (Nat.le_succ _)).set _ _ (Nat.le_succ _)).set _ _ (Nat.le_succ _)).set _ _ (Nat.le_succ _)).set _ _ (Nat.le_succ _)).set _ _ (Nat.le_succ _)).set _ _ (Nat.le_succ _)⟩

set_option maxHeartbeats 1000000 in
theorem acking_any (mc : ByteArray) (ip po di st un nx wa : Int) (inn out : ByteArray) (fin : Bool) (w : World) :
    Calls Try.prog 87 #[.agg #[.string mc, .int .i64 ip, .int .i64 po, .int .i64 di, .int .i64 st, .int .i64 un, .int .i64 nx, .int .i64 wa, .string inn, .string out, .bool fin]] w fun e w' => e = .returned (.agg #[.int .i64 80, .int .i64 po, .int .i64 nx, .int .i64 wa, .int .i64 16, .int .i64 1000, .string ⟨#[]⟩]) ∧ Grw w w' := by
  have T : Hid (∀ w, Calls Try.prog 79 #[.agg #[.string mc, .int .i64 ip, .int .i64 po, .int .i64 di, .int .i64 st, .int .i64 un, .int .i64 nx, .int .i64 wa, .string inn, .string out, .bool fin], .int .i64 nx, .int .i64 16, .string ⟨#[]⟩] w fun e w' => e = .returned (.agg #[.int .i64 80, .int .i64 po, .int .i64 nx, .int .i64 wa, .int .i64 16, .int .i64 1000, .string ⟨#[]⟩]) ∧ Grw w w') := fun w => segOf_any mc ip po di st un nx wa inn out fin nx 16 ⟨#[]⟩ w
  go_enter Try.func87, Try.ntmps87
  go_wp2_with fail
  refine (T.out _).mono ?_
  rintro e w1 ⟨rfl, g1⟩
  have z0 : w1.cell? ⟨w.heap.size + 1, 0, none⟩ = some (.int .i64 0) := g1.keep (by simp [go_sem])
  have f0 : w1.frozen? ⟨w.heap.size + 1, 0, none⟩ = false := bthaw g1.below (a := ⟨w.heap.size + 1, 0, none⟩) (v := .int .i64 0) (by simp [go_sem]) (by simp [go_sem])
  have z1 : w1.cell? ⟨w.heap.size + 1, 1, none⟩ = some (.int .i64 0) := g1.keep (by simp [go_sem])
  have f1 : w1.frozen? ⟨w.heap.size + 1, 1, none⟩ = false := bthaw g1.below (a := ⟨w.heap.size + 1, 1, none⟩) (v := .int .i64 0) (by simp [go_sem]) (by simp [go_sem])
  have z2 : w1.cell? ⟨w.heap.size + 1, 2, none⟩ = some (.int .i64 0) := g1.keep (by simp [go_sem])
  have f2 : w1.frozen? ⟨w.heap.size + 1, 2, none⟩ = false := bthaw g1.below (a := ⟨w.heap.size + 1, 2, none⟩) (v := .int .i64 0) (by simp [go_sem]) (by simp [go_sem])
  have z3 : w1.cell? ⟨w.heap.size + 1, 3, none⟩ = some (.int .i64 0) := g1.keep (by simp [go_sem])
  have f3 : w1.frozen? ⟨w.heap.size + 1, 3, none⟩ = false := bthaw g1.below (a := ⟨w.heap.size + 1, 3, none⟩) (v := .int .i64 0) (by simp [go_sem]) (by simp [go_sem])
  have z4 : w1.cell? ⟨w.heap.size + 1, 4, none⟩ = some (.int .i64 0) := g1.keep (by simp [go_sem])
  have f4 : w1.frozen? ⟨w.heap.size + 1, 4, none⟩ = false := bthaw g1.below (a := ⟨w.heap.size + 1, 4, none⟩) (v := .int .i64 0) (by simp [go_sem]) (by simp [go_sem])
  have z5 : w1.cell? ⟨w.heap.size + 1, 5, none⟩ = some (.int .i64 0) := g1.keep (by simp [go_sem])
  have f5 : w1.frozen? ⟨w.heap.size + 1, 5, none⟩ = false := bthaw g1.below (a := ⟨w.heap.size + 1, 5, none⟩) (v := .int .i64 0) (by simp [go_sem]) (by simp [go_sem])
  have z6 : w1.cell? ⟨w.heap.size + 1, 6, none⟩ = some (.string ⟨#[]⟩) := g1.keep (by simp [go_sem])
  have f6 : w1.frozen? ⟨w.heap.size + 1, 6, none⟩ = false := bthaw g1.below (a := ⟨w.heap.size + 1, 6, none⟩) (v := .string ⟨#[]⟩) (by simp [go_sem]) (by simp [go_sem])
  have G1 : Hid (Grw w w1) := (((Grw.refl _).alloc _).alloc _).trans g1
  have hz : w.heap.size < w1.heap.size := by have := g1.below.size; simp at this; omega
  clear g1 T
  go_wp2
  (try simp only [Exit.inBlock, Exit.then])
  refine bodyPost_ret (v := .agg #[.int .i64 80, .int .i64 po, .int .i64 nx, .int .i64 wa, .int .i64 16, .int .i64 1000, .string ⟨#[]⟩]) (by simp [results, Try.results87, go_sem, z0, z1, z2, z3, z4, z5, z6]; try rfl) rfl ?_
  exact ⟨rfl, ((((((G1.out.set _ _ (Nat.le_succ _)).set _ _ (Nat.le_succ _)).set _ _ (Nat.le_succ _)).set _ _ (Nat.le_succ _)).set _ _ (Nat.le_succ _)).set _ _ (Nat.le_succ _)).set _ _ (Nat.le_succ _)⟩

theorem wf64 {n : Int} (h0 : 0 ≤ n) (h1 : n ≤ 4294967295) : (Lit.int .i64 n).wf = true := int_wf9 h0 (by omega)
end Go.Proofs.Ytfgghffgfefgpaa

namespace Go.Proofs.Ytfgghffgfefgpaa
open Go.RowKit Go.PlainAid Go.Proofs.Ytfgghffgfefgpaa.Bt Go.Sort
set_option linter.unusedVariables false
set_option maxRecDepth 20000

structure KpC (w wx : World) : Prop where
  out : Below w.heap.size w wx
/-- What a region reads: a connection in its box. -/
def CnS (q : Nat) (mc : ByteArray) (ip po di st un nx wa : Int) (inn out : ByteArray) (fin : Bool) (W wx : World) : Prop := wx.cell? ⟨q, 0, none⟩ = some (.string mc) ∧ wx.cell? ⟨q, 1, none⟩ = some (.int .i64 ip) ∧ wx.cell? ⟨q, 2, none⟩ = some (.int .i64 po) ∧ wx.cell? ⟨q, 3, none⟩ = some (.int .i64 di) ∧ wx.cell? ⟨q, 4, none⟩ = some (.int .i64 st) ∧ wx.cell? ⟨q, 5, none⟩ = some (.int .i64 un) ∧ wx.cell? ⟨q, 6, none⟩ = some (.int .i64 nx) ∧ wx.cell? ⟨q, 7, none⟩ = some (.int .i64 wa) ∧ wx.cell? ⟨q, 8, none⟩ = some (.string inn) ∧ wx.cell? ⟨q, 9, none⟩ = some (.string out) ∧ wx.cell? ⟨q, 10, none⟩ = some (.bool fin) ∧ KpC W wx
theorem CnS.below {q : Nat} {mc : ByteArray} {ip po di st un nx wa : Int} {inn out : ByteArray} {fin : Bool} {W wx wy : World} (h : CnS q mc ip po di st un nx wa inn out fin W wx) (hb : Below wx.heap.size wx wy) : CnS q mc ip po di st un nx wa inn out fin W wy :=
  ⟨bkeep hb h.1, bkeep hb h.2.1, bkeep hb h.2.2.1, bkeep hb h.2.2.2.1, bkeep hb h.2.2.2.2.1, bkeep hb h.2.2.2.2.2.1, bkeep hb h.2.2.2.2.2.2.1, bkeep hb h.2.2.2.2.2.2.2.1, bkeep hb h.2.2.2.2.2.2.2.2.1, bkeep hb h.2.2.2.2.2.2.2.2.2.1, bkeep hb h.2.2.2.2.2.2.2.2.2.2.1, ⟨h.2.2.2.2.2.2.2.2.2.2.2.out.trans (hb.mono h.2.2.2.2.2.2.2.2.2.2.2.out.size)⟩⟩
theorem CnS.row {q : Nat} {r : Option Nat} {mc : ByteArray} {ip po di st un nx wa : Int} {inn out : ByteArray} {fin : Bool} {W wx wy : World} (h : CnS q mc ip po di st un nx wa inn out fin W wx) (hg : wx.grownBy wy r) (hb : Below W.heap.size wx wy) (hne : some q ≠ r) : CnS q mc ip po di st un nx wa inn out fin W wy :=
  ⟨hg.cell (a := ⟨q, 0, none⟩) h.1 hne, hg.cell (a := ⟨q, 1, none⟩) h.2.1 hne, hg.cell (a := ⟨q, 2, none⟩) h.2.2.1 hne, hg.cell (a := ⟨q, 3, none⟩) h.2.2.2.1 hne, hg.cell (a := ⟨q, 4, none⟩) h.2.2.2.2.1 hne, hg.cell (a := ⟨q, 5, none⟩) h.2.2.2.2.2.1 hne, hg.cell (a := ⟨q, 6, none⟩) h.2.2.2.2.2.2.1 hne, hg.cell (a := ⟨q, 7, none⟩) h.2.2.2.2.2.2.2.1 hne, hg.cell (a := ⟨q, 8, none⟩) h.2.2.2.2.2.2.2.2.1 hne, hg.cell (a := ⟨q, 9, none⟩) h.2.2.2.2.2.2.2.2.2.1 hne, hg.cell (a := ⟨q, 10, none⟩) h.2.2.2.2.2.2.2.2.2.2.1 hne, ⟨h.2.2.2.2.2.2.2.2.2.2.2.out.trans hb⟩⟩
end Go.Proofs.Ytfgghffgfefgpaa

namespace Go.Proofs.Ytfgghffgfefgpaa
open Go.RowKit Go.PlainAid Go.Proofs.Ytfgghffgfefgpaa.Bt Go.Sort
set_option linter.unusedVariables false
set_option maxRecDepth 20000

end Go.Proofs.Ytfgghffgfefgpaa
