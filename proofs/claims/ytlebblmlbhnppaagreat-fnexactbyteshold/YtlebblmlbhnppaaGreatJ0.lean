/- Rows of structs, K cells an element: opened, stored into, kept. Nothing of the program is imported. Rules, places, roles, as values; what comes in as an argument, opened. Users, sessions, fails, records, guests, as values. Users, sessions, fails, records, guests: what comes in as an argument, opened. Rows of one's own of flat structs, K cells an element. Nothing of the program is imported. Flows as values. Flows that come in as an argument, opened. Connections and segments as values. Connections that come in as an argument, opened. Gateways as values; one that comes in as an argument, opened. The bitwise operators on int where no operand is negative: and, or, exclusive or, and with masks, or of parts that do not meet. Nothing of the program is imported. Nets, plain numbers: what stands behind a net's bits, and what is kept ahead of it. Nothing of the program is imported. The program's small tests: hasRoom, addressOK. Plain numbers: the words' sum of a row of bytes, and its folding into sixteen bits, as closed forms; nothing of the program is imported. A row of bytes in memory, told as a function of the place; what it is as a string; nothing of the program is imported. A new row of bytes that a loop fills: what its rounds keep. Nothing of the program is imported. The contracts of laws.toByteS (a copy in new memory) and laws.eqByteS (whether two rows are one). NumberOf, the program's and the model's: both answer the number of 1 to 6 bytes, the higher ones first; the walk of its law. The small tests of both sides, each answering whether a condition holds. A row of bytes of the call's own that is appended to, told as a list of numbers; as a string; a string's bytes in new memory. Nothing of the program is imported. Texts as lists of numbers: of a string, of a number's bytes, of a part; the number and the sum of a list. Nothing of the program is imported. The byte's row of the program's table of types. The program's NumberBytes at a size from 1 to 6 and a number that has room: its bytes, the higher ones first, in new memory. The program's part, numberAt, addNumber, setNumber. Laying texts behind one another in a row of the call's own; a struct in a box of the call's own. Worlds that have come of another by draws and new blocks alone. Nothing of the program is imported. Nets, the walks: netAround, NetOK, NetHas; the model's NetOK, l05Has, NetHas. What is kept by all that leaves old blocks as they were. Nothing of the program is imported. Rules: placeOf, placeOK, protoWord, RuleOK; the model's l07Range, RuleOK. Rules and places copied and compared by the laws; the walk of laws.FnExactRuleOK. The contracts of NameOK, the program's and the model's, and of what they call: whether a byte is a letter, a digit; whether a text is a name. Roles: RoleOK, the program's and the model's. Lists of rules and roles in the laws: szRuleS, toRuleS, eqRuleS, szRole, toRole, eqRole; the walk of laws.FnExactRoleOK. -/
import Derived.WalkKit
import Derived.PlainAid
import Derived.OpenShut
import Derived.Below
import Derived.Deep.Slices
import Derived.Laws.AppendOwn
import Derived.Laws.OwnMore
import Derived.Laws.MakeOwn
import Derived.Test.YtlebblmlbhnppaaGreatProg
import Derived.Laws.AppendOwnNone
import Derived.Laws.BitsAllLaws
import Derived.WalkSpells
import Derived.Laws.BytesArg
import Derived.Deep.OwnRows
import Derived.BigQuiet
import Derived.Deep.QuietTactic
import Derived.Lib.ConvBytes
import Derived.Lib.AppendStr
import Derived.Laws.Concat
import Derived.Laws.CopyOwn
import Derived.Shelf.SlSortCmp.QuietGrown
import Derived.Laws.StructEq
import Derived.Deep.RegionHeld3
namespace Go.Proofs.YtlebblmlbhnppaaGreat
open Go.RowKit Go.PlainAid
set_option linter.unusedVariables false

/-- The xs lie at a, K cells an element, each by R. -/
def Rw {α : Type} (R : World → α → List Value → Prop) (K : Nat) (w : World) (a : Option Addr) (xs : List α) : Prop :=
  0 < xs.length → ∃ b off, a = some ⟨b, off, none⟩ ∧ b < w.heap.size ∧ ∀ i x, xs[i]? = some x → ∃ vs, vs.length = K ∧ R w x vs ∧ ∀ j v, vs[j]? = some v → w.cell? ⟨b, off + i * K + j, none⟩ = some v
/-- What R says is kept by all that leaves old blocks as they were. -/
def Kp {α : Type} (R : World → α → List Value → Prop) : Prop := ∀ w w' x vs, R w x vs → Below w.heap.size w w' → R w' x vs

theorem Rw.keep {α : Type} {R : World → α → List Value → Prop} {K : Nat} {w w' : World} {a : Option Addr} {xs : List α} (h : Rw R K w a xs) (hk : Kp R) (hb : Below w.heap.size w w') : Rw R K w' a xs := by
  intro h0
  obtain ⟨b, off, rfl, hlt, hc⟩ := h h0
  refine ⟨b, off, rfl, Nat.lt_of_lt_of_le hlt hb.size, fun i x hx => ?_⟩
  obtain ⟨vs, h1, h2, h3⟩ := hc i x hx
  refine ⟨vs, h1, hk _ _ _ _ h2 hb, fun j v hv => ?_⟩
  rw [hb.cell (p := ⟨b, off + i * K + j, none⟩) hlt]
  exact h3 j v hv
/-- The element at k, read later. -/
theorem Rw.at {α : Type} {R : World → α → List Value → Prop} {K : Nat} {w w' : World} {a : Option Addr} {xs : List α} (h : Rw R K w a xs) (hk : Kp R) (hb : Below w.heap.size w w') {k : Nat} {x : α} (hx : xs[k]? = some x) :
    ∃ b off vs, a = some ⟨b, off, none⟩ ∧ b < w.heap.size ∧ vs.length = K ∧ R w' x vs ∧ ∀ j v, vs[j]? = some v → w'.cell? ⟨b, off + k * K + j, none⟩ = some v := by
  have h0 : 0 < xs.length := by
    have := (List.getElem?_eq_some_iff.1 hx).1
    omega
  obtain ⟨b, off, e, hlt, _⟩ := h h0
  obtain ⟨b', off', e', _, hc⟩ := (h.keep hk hb) h0
  rw [e] at e'
  cases e'
  obtain ⟨vs, h1, h2, h3⟩ := hc k x hx
  exact ⟨b, off, vs, e, hlt, h1, h2, h3⟩
theorem Rw.none {α : Type} {R : World → α → List Value → Prop} {K : Nat} {w : World} {a : Option Addr} : Rw R K w a ([] : List α) := fun h => absurd h (by simp)

theorem addn (b off i : Nat) : (⟨b, off, Option.none⟩ : Addr).add i = ⟨b, off + i, Option.none⟩ := by unfold Addr.add; split <;> simp_all
/-- A slice that came in. -/
theorem rows_of {H : Type} {enc : TypeId × Value → H} {P : Program} {w : World} {base : Nat} {spare : Nat → Bool} {held : Bool} {t e : TypeId} {fuel : Nat} {cs : List Value} {x : DataW H × List MemPlace} {α : Type} [Inhabited α]
    (R : World → α → List Value → Prop) (K : Nat) (ht : P.underlying t = some (.slice e)) (hK : P.cellsOf e = K) (h0K : 0 < K)
    (he : ∀ n cs y, DataW.trod enc P w base spare held n e cs = some y → ∃ d, R w d cs) (h : DataW.trod enc P w base spare held fuel t cs = some x) :
    ∃ (a : Option Addr) (len cap : Nat) (xs : List α), cs = [.slice a len cap] ∧ xs.length = len ∧ len ≤ cap ∧ cap ≤ maxLen ∧ (a = none → cap = 0) ∧ Rw R K w a xs := by
  rcases Go.Deep.open_slice ht h with ⟨rfl, _⟩ | ⟨a, len, cap, m, n, D, Pl, rfl, hb, hl, hm, hmm, _, hx⟩
  · exact ⟨none, 0, 0, [], rfl, rfl, Nat.le_refl _, Nat.zero_le _, fun _ => rfl, Rw.none⟩
  have hlm : len ≤ m := by rw [hmm]; split <;> omega
  obtain ⟨f, hf⟩ := Go.Deep.choose_lt (n := len) (p := fun i d => ∃ vs, vs.length = K ∧ R w d vs ∧ ∀ j v, vs[j]? = some v → w.cell? ((a.add (i * K)).add j) = some v) (fun i hi => by
    obtain ⟨cs', h1, h2⟩ := hx i (by omega)
    rw [hK] at h1
    obtain ⟨_, hlen, hcell⟩ := World.cells?_some h1
    obtain ⟨d, hd⟩ := he _ _ _ h2
    refine ⟨d, cs', hlen, hd, fun j v hv => ?_⟩
    have hj := (List.getElem?_eq_some_iff.1 hv).1
    rw [hcell j (by omega)]
    exact hv)
  refine ⟨some a, len, cap, (List.range len).map f, rfl, by simp, hl, hm, (fun h => by cases h), fun h0 => ?_⟩
  have h0 : 0 < len := by simpa using h0
  obtain ⟨b, off, spot⟩ := a
  have hs : spot = none := by
    obtain ⟨vs, h1, _, h3⟩ := hf 0 h0
    have hc := h3 0 (vs[0]'(by omega)) (List.getElem?_eq_getElem _)
    simpa [Addr.add] using World.cell?_spot hc
  subst hs
  have hadd : ∀ i j : Nat, ((⟨b, off, none⟩ : Addr).add i).add j = ⟨b, off + i + j, none⟩ := by
    intro i j
    rw [addn, addn]
  refine ⟨b, off, rfl, ?_, fun i x hx => ?_⟩
  · obtain ⟨vs, h1, _, h3⟩ := hf 0 h0
    have hc := h3 0 (vs[0]'(by omega)) (List.getElem?_eq_getElem _)
    rw [hadd] at hc
    exact World.block_lt_of_cell? w _ hc
  · have hi : i < len := by
      have := (List.getElem?_eq_some_iff.1 hx).1
      simpa using this
    rw [List.getElem?_map, List.getElem?_range hi] at hx
    simp only [Option.map_some, Option.some.injEq] at hx
    subst hx
    obtain ⟨vs, h1, h2, h3⟩ := hf i hi
    refine ⟨vs, h1, h2, fun j v hv => ?_⟩
    rw [← hadd]
    exact h3 j v hv

/-- Cells set behind one another. -/
def sets (F : List Value) (i : Nat) : List Value → List Value
  | [] => F
  | v :: vs => sets (F.set i v) (i + 1) vs
def wsets (w : World) (g i : Nat) : List Value → World
  | [] => w
  | v :: vs => wsets (w.setCell ⟨g, i, none⟩ v) g (i + 1) vs
theorem sets_lo : ∀ (vs : List Value) (F : List Value) (i m : Nat), m < i → (sets F i vs)[m]? = F[m]?
  | [], F, i, m, h => rfl
  | v :: vs, F, i, m, h => by
    unfold sets
    rw [sets_lo vs _ (i + 1) m (by omega), List.getElem?_set_ne (by omega)]
theorem sets_at : ∀ (vs : List Value) (F : List Value) (i j : Nat) (v : Value), i + vs.length ≤ F.length → vs[j]? = some v → (sets F i vs)[i + j]? = some v
  | [], F, i, j, v, h, hv => by simp at hv
  | u :: vs, F, i, 0, v, h, hv => by
    unfold sets
    simp at hv h
    rw [sets_lo vs _ (i + 1) (i + 0) (by omega), Nat.add_zero, List.getElem?_set_self (by omega), hv]
  | u :: vs, F, i, j + 1, v, h, hv => by
    unfold sets
    simp at hv h
    have := sets_at vs (F.set i u) (i + 1) j v (by simp; omega) hv
    rwa [show i + 1 + j = i + (j + 1) by omega] at this
theorem sets_len : ∀ (vs : List Value) (F : List Value) (i : Nat), (sets F i vs).length = F.length
  | [], F, i => rfl
  | v :: vs, F, i => by unfold sets; rw [sets_len vs]; simp

theorem wsets4 (w : World) (g i : Nat) (v0 v1 v2 v3 : Value) : wsets w g i [v0, v1, v2, v3] = (((w.setCell ⟨g, i, Option.none⟩ v0).setCell ⟨g, i + 1, Option.none⟩ v1).setCell ⟨g, i + 2, Option.none⟩ v2).setCell ⟨g, i + 3, Option.none⟩ v3 := rfl
theorem wsets5 (w : World) (g i : Nat) (v0 v1 v2 v3 v4 : Value) : wsets w g i [v0, v1, v2, v3, v4] = ((((w.setCell ⟨g, i, Option.none⟩ v0).setCell ⟨g, i + 1, Option.none⟩ v1).setCell ⟨g, i + 2, Option.none⟩ v2).setCell ⟨g, i + 3, Option.none⟩ v3).setCell ⟨g, i + 4, Option.none⟩ v4 := rfl
theorem wsets6 (w : World) (g i : Nat) (v0 v1 v2 v3 v4 v5 : Value) : wsets w g i [v0, v1, v2, v3, v4, v5] = (((((w.setCell ⟨g, i, Option.none⟩ v0).setCell ⟨g, i + 1, Option.none⟩ v1).setCell ⟨g, i + 2, Option.none⟩ v2).setCell ⟨g, i + 3, Option.none⟩ v3).setCell ⟨g, i + 4, Option.none⟩ v4).setCell ⟨g, i + 5, Option.none⟩ v5 := rfl
theorem grown_refl (w : World) (r : Option Nat) : w.grownBy w r := ⟨rfl, rfl, rfl, Nat.le_refl _, fun _ _ _ => rfl⟩
theorem grown_tr {w w1 w2 : World} {r : Option Nat} (h : w.grownBy w1 r) (h2 : w1.grownBy w2 r) : w.grownBy w2 r :=
  ⟨h2.os.trans h.os, h2.tape.trans h.tape, h2.output.trans h.output, Nat.le_trans h.size h2.size, fun k hk hr => (h2.block k (Nat.lt_of_lt_of_le hk h.size) hr).trans (h.block k hk hr)⟩
theorem owns_sets {e : TypeId} {B K g n cap : Nat} : ∀ (vs : List Value) (w : World) (F : List Value) (i : Nat), w.ownsRow B e K (.slice (some ⟨g, 0, none⟩) n cap) n F →
    (wsets w g i vs).ownsRow B e K (.slice (some ⟨g, 0, none⟩) n cap) n (sets F i vs) ∧ w.grownBy (wsets w g i vs) (some g)
  | [], w, F, i, h => ⟨h, grown_refl _ _⟩
  | v :: vs, w, F, i, h => by
    have h1 := World.ownsRow.stored h i v
    have h2 := owns_sets vs _ _ (i + 1) h1.1
    exact ⟨h2.1, grown_tr h1.2 h2.2⟩
theorem below_row {w w' : World} {B g : Nat} (h : w.grownBy w' (some g)) (hB : B ≤ g) (hs : B ≤ w.heap.size) : Below B w w' :=
  (Below.refl B w).grown h hs (fun k hk => by cases hk; exact hB)
theorem owns_keep {e : TypeId} {w w' : World} {B K n m : Nat} {v : Value} {F : List Value} (h : w.ownsRow B e K v n F) (hb : Below m w w') (hm : ∀ k, v.ownBlock = some k → k < m) : w'.ownsRow B e K v n F := by
  refine ⟨h.1, ?_⟩
  rcases h.2 with h' | ⟨g, cap, cur, h1, hB, hg, h4⟩
  · exact .inl h'
  · exact .inr ⟨g, cap, cur, h1, hB, by rw [hb.block _ (hm g (by rw [h1]; rfl))]; exact hg, h4⟩
theorem owns_now {e : TypeId} {w w' : World} {B K n : Nat} {v : Value} {F : List Value} (h : w.ownsRow B e K v n F) (hb : Below w.heap.size w w') : w'.ownsRow B e K v n F :=
  owns_keep h hb (fun k hk => (World.ownsRow.lt h k hk).2)
/-- What a store into element k wants to know. -/
theorem owns_cell {e : TypeId} {w : World} {B K n g cap : Nat} {F : List Value} (h : w.ownsRow B e K (.slice (some ⟨g, 0, none⟩) n cap) n F) {k j : Nat} (hk : k < n) (hj : j < K) :
    (∃ u, w.cell? ⟨g, k * K + j, none⟩ = some u) ∧ w.frozen? ⟨g, k * K + j, none⟩ = false := by
  have hlt : k * K + j < n * K := by
    have : (k + 1) * K ≤ n * K := Nat.mul_le_mul_right _ hk
    rw [Nat.add_mul] at this
    omega
  refine ⟨?_, World.ownsRow.frozenAt h _⟩
  rw [World.ownsRow.cellAt h _ hlt, List.getElem?_eq_getElem (by rw [h.1]; exact hlt)]
  exact ⟨_, rfl⟩
theorem owns_made (w : World) (e : TypeId) (B n K : Nat) (z : Array Value) (hB : B ≤ w.heap.size) (hn : n ≤ maxLen) :
    (w.alloc (.cells (madeCells z (n * K)) e)).ownsRow B e K (.slice (some ⟨w.heap.size, 0, none⟩) n n) n (madeCells z (n * K)).toList :=
  World.ownsRow_lit (base := B) (e := e) (size := K) w (madeCells z (n * K)) n hB hn (by rw [size_madeCells])

/-- The first k of xs are copied into F. -/
def Cop {α : Type} (R : World → α → List Value → Prop) (K : Nat) (w : World) (F : List Value) (xs : List α) (k : Nat) : Prop :=
  ∀ i x, i < k → xs[i]? = some x → ∃ vs, vs.length = K ∧ R w x vs ∧ ∀ j v, vs[j]? = some v → F[i * K + j]? = some v
theorem Cop.zero {α : Type} {R : World → α → List Value → Prop} {K : Nat} {w : World} {F : List Value} {xs : List α} : Cop R K w F xs 0 := fun i x hi => absurd hi (by omega)
theorem Cop.keep {α : Type} {R : World → α → List Value → Prop} {K : Nat} {w w' : World} {F : List Value} {xs : List α} {k : Nat} (h : Cop R K w F xs k) (hk : ∀ x vs, R w x vs → R w' x vs) : Cop R K w' F xs k := by
  intro i x hi hx
  obtain ⟨vs, h1, h2, h3⟩ := h i x hi hx
  exact ⟨vs, h1, hk _ _ h2, h3⟩
theorem Cop.step {α : Type} {R : World → α → List Value → Prop} {K : Nat} {w : World} {F : List Value} {xs : List α} {k : Nat} (h : Cop R K w F xs k) {x : α} {vs : List Value} (hx : xs[k]? = some x) (hR : R w x vs) (hl : vs.length = K) (hF : k * K + K ≤ F.length) :
    Cop R K w (sets F (k * K) vs) xs (k + 1) := by
  intro i y hi hy
  by_cases hik : i < k
  · obtain ⟨us, h1, h2, h3⟩ := h i y hik hy
    refine ⟨us, h1, h2, fun j v hv => ?_⟩
    have hj := (List.getElem?_eq_some_iff.1 hv).1
    have : (i + 1) * K ≤ k * K := Nat.mul_le_mul_right _ hik
    rw [Nat.add_mul] at this
    rw [sets_lo _ _ _ _ (by omega)]
    exact h3 j v hv
  · obtain rfl : i = k := by omega
    rw [hx] at hy
    cases hy
    exact ⟨vs, hl, hR, fun j v hv => sets_at vs F _ j v (by omega) hv⟩
theorem Cop.rw {α : Type} {R : World → α → List Value → Prop} {K : Nat} {w : World} {F : List Value} {xs : List α} {e : TypeId} {B g n cap : Nat} (h : Cop R K w F xs n) (ho : w.ownsRow B e K (.slice (some ⟨g, 0, none⟩) n cap) n F) (hn : xs.length = n) :
    Rw R K w (some ⟨g, 0, none⟩) xs := by
  intro h0
  refine ⟨g, 0, rfl, (World.ownsRow.lt ho g rfl).2, fun i x hx => ?_⟩
  have hi := (List.getElem?_eq_some_iff.1 hx).1
  obtain ⟨vs, h1, h2, h3⟩ := h i x (by omega) hx
  refine ⟨vs, h1, h2, fun j v hv => ?_⟩
  have hj := (List.getElem?_eq_some_iff.1 hv).1
  have : (i + 1) * K ≤ n * K := Nat.mul_le_mul_right _ (by omega)
  rw [Nat.add_mul] at this
  rw [Nat.zero_add, World.ownsRow.cellAt ho _ (by omega)]
  exact h3 j v hv
theorem at_of {α : Type} {xs : List α} {k n : Nat} (h : xs.length = n) (hk : k < n) : ∃ x, xs[k]? = some x := ⟨_, List.getElem?_eq_getElem (by omega)⟩
end Go.Proofs.YtlebblmlbhnppaaGreat

namespace Go.Proofs.YtlebblmlbhnppaaGreat
open Go.RowKit Go.PlainAid
set_option linter.unusedVariables false

structure RuleV where
  p : Int
  ip : Int
  b : Int
  lo : Int
  hi : Int
  al : Bool
deriving Inhabited
structure PlaceV where
  ip : Int
  b : Int
  lo : Int
  hi : Int
deriving Inhabited
structure RoleV where
  nm : ByteArray
  rs : List RuleV
  q : Int
  m : Int
  i : Int
instance : Inhabited RoleV := ⟨⟨⟨#[]⟩, [], 0, 0, 0⟩⟩
def rv (r : RuleV) : List Value := [.int .i64 r.p, .int .i64 r.ip, .int .i64 r.b, .int .i64 r.lo, .int .i64 r.hi, .bool r.al]
def pv (r : PlaceV) : List Value := [.int .i64 r.ip, .int .i64 r.b, .int .i64 r.lo, .int .i64 r.hi]
/-- The cells of a rule. -/
def RuR (w : World) (r : RuleV) (vs : List Value) : Prop := vs = rv r ∧ r.lo ≤ 9223372036854775807 ∧ r.hi ≤ 9223372036854775807
def PlR (w : World) (r : PlaceV) (vs : List Value) : Prop := vs = pv r ∧ r.lo ≤ 9223372036854775807 ∧ r.hi ≤ 9223372036854775807
theorem RuR.kp : Kp RuR := fun _ _ _ _ h _ => h
theorem PlR.kp : Kp PlR := fun _ _ _ _ h _ => h
/-- The cells of a role, its rules in a block from g on. -/
def RoR (g : Nat) (w : World) (r : RoleV) (vs : List Value) : Prop := ∃ a cap, vs = [.string r.nm, .slice a r.rs.length cap, .int .i64 r.q, .int .i64 r.m, .int .i64 r.i] ∧ r.nm.size ≤ maxLen ∧ r.rs.length ≤ cap ∧ cap ≤ maxLen ∧ Rw RuR 6 w a r.rs ∧ ∀ b off, a = some ⟨b, off, none⟩ → g ≤ b
theorem RoR.kp (g : Nat) : Kp (RoR g) := fun _ _ _ _ h hb => by
  obtain ⟨a, cap, h1, h2, h3, h4, h5, h6⟩ := h
  exact ⟨a, cap, h1, h2, h3, h4, h5.keep RuR.kp hb, h6⟩
theorem RoR.lower {g g' : Nat} {w : World} {r : RoleV} {vs : List Value} (h : RoR g w r vs) (hg : g' ≤ g) : RoR g' w r vs := by
  obtain ⟨a, cap, h1, h2, h3, h4, h5, h6⟩ := h
  exact ⟨a, cap, h1, h2, h3, h4, h5, fun b off e => Nat.le_trans hg (h6 b off e)⟩
theorem wf_le {n : Int} (h : (Lit.int .i64 n).wf = true) : n ≤ 9223372036854775807 := (bounds_i64 h).2

section Opn
variable {H : Type} {enc : TypeId × Value → H} {w : World} {base : Nat} {spare : Nat → Bool} {held : Bool} {fuel : Nat} {cs : List Value} {x : DataW H × List MemPlace}

theorem lis2 {α : Type} {cs : List α} (h : cs.length = 2) : ∃ c0 c1, cs = [c0, c1] := by
  match cs, h with
  | [c0, c1], _ => exact ⟨c0, c1, rfl⟩

theorem lis4 {α : Type} {cs : List α} (h : cs.length = 4) : ∃ c0 c1 c2 c3, cs = [c0, c1, c2, c3] := by
  match cs, h with
  | [c0, c1, c2, c3], _ => exact ⟨c0, c1, c2, c3, rfl⟩

theorem lis5 {α : Type} {cs : List α} (h : cs.length = 5) : ∃ c0 c1 c2 c3 c4, cs = [c0, c1, c2, c3, c4] := by
  match cs, h with
  | [c0, c1, c2, c3, c4], _ => exact ⟨c0, c1, c2, c3, c4, rfl⟩

theorem lis6 {α : Type} {cs : List α} (h : cs.length = 6) : ∃ c0 c1 c2 c3 c4 c5, cs = [c0, c1, c2, c3, c4, c5] := by
  match cs, h with
  | [c0, c1, c2, c3, c4, c5], _ => exact ⟨c0, c1, c2, c3, c4, c5, rfl⟩

theorem lis8 {α : Type} {cs : List α} (h : cs.length = 8) : ∃ c0 c1 c2 c3 c4 c5 c6 c7, cs = [c0, c1, c2, c3, c4, c5, c6, c7] := by
  match cs, h with
  | [c0, c1, c2, c3, c4, c5, c6, c7], _ => exact ⟨c0, c1, c2, c3, c4, c5, c6, c7, rfl⟩

theorem cl_laws_Net : Tryz.prog.cellsOf 23 = 2 := by kernel_rfl

theorem cl_laws_Range : Tryz.prog.cellsOf 187 = 2 := by kernel_rfl

theorem cl_laws_Rule : Tryz.prog.cellsOf 296 = 6 := by kernel_rfl

theorem cl_laws_Place : Tryz.prog.cellsOf 189 = 4 := by kernel_rfl

theorem cl_laws_Role : Tryz.prog.cellsOf 168 = 5 := by kernel_rfl

theorem cl_laws_Config : Tryz.prog.cellsOf 27 = 8 := by kernel_rfl

theorem cl_int : Tryz.prog.cellsOf 3 = 1 := by kernel_rfl

theorem cl_string : Tryz.prog.cellsOf 9 = 1 := by kernel_rfl

theorem cl_bool : Tryz.prog.cellsOf 4 = 1 := by kernel_rfl

theorem cl_slaws_Rule : Tryz.prog.cellsOf 166 = 1 := by kernel_rfl

theorem cl_slaws_Place : Tryz.prog.cellsOf 24 = 1 := by kernel_rfl

theorem cl_slaws_Role : Tryz.prog.cellsOf 25 = 1 := by kernel_rfl

theorem open_net (h : DataW.trod enc Tryz.prog w base spare held fuel 23 cs = some x) : ∃ ip b : Int, cs = [.int .i64 ip, .int .i64 b] ∧ (Lit.int .i64 ip).wf = true ∧ (Lit.int .i64 b).wf = true := by
  obtain ⟨xs, m, _, _, hcl, hlen, hfld⟩ := DataW.trod_struct Tryz.underlying23 h
  rw [cl_laws_Net] at hcl
  obtain ⟨c0, c1, rfl⟩ := lis2 hcl
  replace hlen : xs.length = 2 := hlen
  have e0 := hfld 0 _ rfl
  rw [List.getElem?_eq_getElem (by omega)] at e0
  obtain ⟨a0, q0, _, w0⟩ := DataW.trod_int Tryz.underlying3 e0
  simp [cl_int] at q0
  subst q0
  have e1 := hfld 1 _ rfl
  rw [List.getElem?_eq_getElem (by omega)] at e1
  obtain ⟨a1, q1, _, w1⟩ := DataW.trod_int Tryz.underlying3 e1
  simp [cl_int] at q1
  subst q1
  exact ⟨a0, a1, rfl, w0, w1⟩

theorem open_range (h : DataW.trod enc Tryz.prog w base spare held fuel 187 cs = some x) : ∃ ip b : Int, cs = [.int .i64 ip, .int .i64 b] ∧ (Lit.int .i64 ip).wf = true ∧ (Lit.int .i64 b).wf = true := by
  obtain ⟨xs, m, _, _, hcl, hlen, hfld⟩ := DataW.trod_struct Tryz.underlying187 h
  rw [cl_laws_Range] at hcl
  obtain ⟨c0, c1, rfl⟩ := lis2 hcl
  replace hlen : xs.length = 2 := hlen
  have e0 := hfld 0 _ rfl
  rw [List.getElem?_eq_getElem (by omega)] at e0
  obtain ⟨a0, q0, _, w0⟩ := DataW.trod_int Tryz.underlying3 e0
  simp [cl_int] at q0
  subst q0
  have e1 := hfld 1 _ rfl
  rw [List.getElem?_eq_getElem (by omega)] at e1
  obtain ⟨a1, q1, _, w1⟩ := DataW.trod_int Tryz.underlying3 e1
  simp [cl_int] at q1
  subst q1
  exact ⟨a0, a1, rfl, w0, w1⟩

theorem open_rule (h : DataW.trod enc Tryz.prog w base spare held fuel 296 cs = some x) : ∃ d, RuR w d cs := by
  obtain ⟨xs, m, _, _, hcl, hlen, hfld⟩ := DataW.trod_struct Tryz.underlying296 h
  rw [cl_laws_Rule] at hcl
  obtain ⟨c0, c1, c2, c3, c4, c5, rfl⟩ := lis6 hcl
  replace hlen : xs.length = 4 := hlen
  have e0 := hfld 0 _ rfl
  rw [List.getElem?_eq_getElem (by omega)] at e0
  obtain ⟨a0, q0, _, w0⟩ := DataW.trod_int Tryz.underlying3 e0
  simp [cl_int] at q0
  subst q0
  have e1 := hfld 1 _ rfl
  rw [List.getElem?_eq_getElem (by omega)] at e1
  obtain ⟨a1, b1, q1, w1, u1⟩ := open_net e1
  simp [cl_laws_Net] at q1
  obtain ⟨rfl, rfl⟩ := q1
  have e2 := hfld 2 _ rfl
  rw [List.getElem?_eq_getElem (by omega)] at e2
  obtain ⟨a2, b2, q2, w2, u2⟩ := open_range e2
  simp [cl_laws_Range] at q2
  obtain ⟨rfl, rfl⟩ := q2
  have e3 := hfld 3 _ rfl
  rw [List.getElem?_eq_getElem (by omega)] at e3
  obtain ⟨a3, q3, _⟩ := DataW.trod_bool Tryz.underlying4 e3
  simp [cl_bool] at q3
  subst q3
  exact ⟨⟨a0, a1, b1, a2, b2, a3⟩, rfl, wf_le w2, wf_le u2⟩

theorem open_place (h : DataW.trod enc Tryz.prog w base spare held fuel 189 cs = some x) : ∃ d, PlR w d cs := by
  obtain ⟨xs, m, _, _, hcl, hlen, hfld⟩ := DataW.trod_struct Tryz.underlying189 h
  rw [cl_laws_Place] at hcl
  obtain ⟨c0, c1, c2, c3, rfl⟩ := lis4 hcl
  replace hlen : xs.length = 2 := hlen
  have e0 := hfld 0 _ rfl
  rw [List.getElem?_eq_getElem (by omega)] at e0
  obtain ⟨a0, b0, q0, w0, u0⟩ := open_net e0
  simp [cl_laws_Net] at q0
  obtain ⟨rfl, rfl⟩ := q0
  have e1 := hfld 1 _ rfl
  rw [List.getElem?_eq_getElem (by omega)] at e1
  obtain ⟨a1, b1, q1, w1, u1⟩ := open_range e1
  simp [cl_laws_Range] at q1
  obtain ⟨rfl, rfl⟩ := q1
  exact ⟨⟨a0, b0, a1, b1⟩, rfl, wf_le w1, wf_le u1⟩

theorem open_rules (h : DataW.trod enc Tryz.prog w base spare held fuel 166 cs = some x) : ∃ (a : Option Addr) (len cap : Nat) (xs : List RuleV), cs = [.slice a len cap] ∧ xs.length = len ∧ len ≤ cap ∧ cap ≤ maxLen ∧ (a = none → cap = 0) ∧ Rw RuR 6 w a xs :=
  rows_of RuR 6 Tryz.underlying166 cl_laws_Rule (by omega) (fun _ _ _ h => open_rule h) h

theorem open_places (h : DataW.trod enc Tryz.prog w base spare held fuel 24 cs = some x) : ∃ (a : Option Addr) (len cap : Nat) (xs : List PlaceV), cs = [.slice a len cap] ∧ xs.length = len ∧ len ≤ cap ∧ cap ≤ maxLen ∧ (a = none → cap = 0) ∧ Rw PlR 4 w a xs :=
  rows_of PlR 4 Tryz.underlying24 cl_laws_Place (by omega) (fun _ _ _ h => open_place h) h

theorem open_role (h : DataW.trod enc Tryz.prog w base spare held fuel 168 cs = some x) : ∃ d, RoR 0 w d cs := by
  obtain ⟨xs, m, _, _, hcl, hlen, hfld⟩ := DataW.trod_struct Tryz.underlying168 h
  rw [cl_laws_Role] at hcl
  obtain ⟨c0, c1, c2, c3, c4, rfl⟩ := lis5 hcl
  replace hlen : xs.length = 5 := hlen
  have e0 := hfld 0 _ rfl
  rw [List.getElem?_eq_getElem (by omega)] at e0
  obtain ⟨a0, q0, _, w0⟩ := DataW.trod_string Tryz.underlying9 e0
  simp [cl_string] at q0
  subst q0
  have e1 := hfld 1 _ rfl
  rw [List.getElem?_eq_getElem (by omega)] at e1
  obtain ⟨a1, len1, cap1, xs1, q1, l1, lc1, cm1, an1, r1⟩ := open_rules e1
  simp [cl_slaws_Rule] at q1
  subst q1
  have e2 := hfld 2 _ rfl
  rw [List.getElem?_eq_getElem (by omega)] at e2
  obtain ⟨a2, q2, _, w2⟩ := DataW.trod_int Tryz.underlying3 e2
  simp [cl_int] at q2
  subst q2
  have e3 := hfld 3 _ rfl
  rw [List.getElem?_eq_getElem (by omega)] at e3
  obtain ⟨a3, q3, _, w3⟩ := DataW.trod_int Tryz.underlying3 e3
  simp [cl_int] at q3
  subst q3
  have e4 := hfld 4 _ rfl
  rw [List.getElem?_eq_getElem (by omega)] at e4
  obtain ⟨a4, q4, _, w4⟩ := DataW.trod_int Tryz.underlying3 e4
  simp [cl_int] at q4
  subst q4
  exact ⟨⟨a0, xs1, a2, a3, a4⟩, a1, cap1, by rw [l1], w0, by rw [l1]; exact lc1, cm1, r1, fun _ _ _ => Nat.zero_le _⟩

theorem open_roles (h : DataW.trod enc Tryz.prog w base spare held fuel 25 cs = some x) : ∃ (a : Option Addr) (len cap : Nat) (xs : List RoleV), cs = [.slice a len cap] ∧ xs.length = len ∧ len ≤ cap ∧ cap ≤ maxLen ∧ (a = none → cap = 0) ∧ Rw (RoR 0) 5 w a xs :=
  rows_of (RoR 0) 5 Tryz.underlying25 cl_laws_Role (by omega) (fun _ _ _ h => open_role h) h

theorem open_config (h : DataW.trod enc Tryz.prog w base spare held fuel 27 cs = some x) : ∃ (ip b gt : Int) (gm wm : ByteArray) (rs : Int) (a1 a2 : Option Addr) (len1 cap1 len2 cap2 : Nat) (ps : List PlaceV) (ros : List RoleV), cs = [.int .i64 ip, .int .i64 b, .int .i64 gt, .string gm, .string wm, .int .i64 rs, .slice a1 len1 cap1, .slice a2 len2 cap2] ∧ gm.size ≤ maxLen ∧ wm.size ≤ maxLen ∧
    (ps.length = len1 ∧ len1 ≤ cap1 ∧ cap1 ≤ maxLen ∧ Rw PlR 4 w a1 ps) ∧ ros.length = len2 ∧ len2 ≤ cap2 ∧ cap2 ≤ maxLen ∧ Rw (RoR 0) 5 w a2 ros := by
  obtain ⟨xs, m, _, _, hcl, hlen, hfld⟩ := DataW.trod_struct Tryz.underlying27 h
  rw [cl_laws_Config] at hcl
  obtain ⟨c0, c1, c2, c3, c4, c5, c6, c7, rfl⟩ := lis8 hcl
  replace hlen : xs.length = 7 := hlen
  have e0 := hfld 0 _ rfl
  rw [List.getElem?_eq_getElem (by omega)] at e0
  obtain ⟨a0, b0, q0, w0, u0⟩ := open_net e0
  simp [cl_laws_Net] at q0
  obtain ⟨rfl, rfl⟩ := q0
  have e1 := hfld 1 _ rfl
  rw [List.getElem?_eq_getElem (by omega)] at e1
  obtain ⟨a1, q1, _, w1⟩ := DataW.trod_int Tryz.underlying3 e1
  simp [cl_int] at q1
  subst q1
  have e2 := hfld 2 _ rfl
  rw [List.getElem?_eq_getElem (by omega)] at e2
  obtain ⟨a2, q2, _, w2⟩ := DataW.trod_string Tryz.underlying9 e2
  simp [cl_string] at q2
  subst q2
  have e3 := hfld 3 _ rfl
  rw [List.getElem?_eq_getElem (by omega)] at e3
  obtain ⟨a3, q3, _, w3⟩ := DataW.trod_string Tryz.underlying9 e3
  simp [cl_string] at q3
  subst q3
  have e4 := hfld 4 _ rfl
  rw [List.getElem?_eq_getElem (by omega)] at e4
  obtain ⟨a4, q4, _, w4⟩ := DataW.trod_int Tryz.underlying3 e4
  simp [cl_int] at q4
  subst q4
  have e5 := hfld 5 _ rfl
  rw [List.getElem?_eq_getElem (by omega)] at e5
  obtain ⟨a5, len5, cap5, xs5, q5, l5, lc5, cm5, an5, r5⟩ := open_places e5
  simp [cl_slaws_Place] at q5
  subst q5
  have e6 := hfld 6 _ rfl
  rw [List.getElem?_eq_getElem (by omega)] at e6
  obtain ⟨a6, len6, cap6, xs6, q6, l6, lc6, cm6, an6, r6⟩ := open_roles e6
  simp [cl_slaws_Role] at q6
  subst q6
  exact ⟨_, _, _, _, _, _, _, _, _, _, _, _, _, _, rfl, w2, w3, ⟨l5, lc5, cm5, r5⟩, l6, lc6, cm6, r6⟩

end Opn
end Go.Proofs.YtlebblmlbhnppaaGreat

namespace Go.Proofs.YtlebblmlbhnppaaGreat
open Go.RowKit Go.PlainAid
set_option linter.unusedVariables false

structure UserV where
  nm : ByteArray
  sa : ByteArray
  ha : ByteArray
  ro : ByteArray
  bl : Int
  lg : Int

instance : Inhabited UserV := ⟨⟨⟨#[]⟩, ⟨#[]⟩, ⟨#[]⟩, ⟨#[]⟩, 0, 0⟩⟩
def uvG (u : UserV) : List Value := [.string u.nm, .string u.sa, .string u.ha, .string u.ro, .int .i64 u.bl, .int .i64 u.lg]
def UsRok (u : UserV) : Prop := u.nm.size ≤ maxLen ∧ u.sa.size ≤ maxLen ∧ u.ha.size ≤ maxLen ∧ u.ro.size ≤ maxLen ∧ (Lit.int .i64 u.bl).wf = true ∧ (Lit.int .i64 u.lg).wf = true
def UsR (w : World) (u : UserV) (vs : List Value) : Prop := vs = uvG u ∧ UsRok u
theorem UsR.kp : Kp UsR := fun _ _ _ _ h _ => h

structure SessV where
  id : Int
  us : Int
  mc : ByteArray
  ip : Int
  be : Int
  la : Int
  ud : Int
  qu : Int
  un : Int
  il : Int

instance : Inhabited SessV := ⟨⟨0, 0, ⟨#[]⟩, 0, 0, 0, 0, 0, 0, 0⟩⟩
def svG (u : SessV) : List Value := [.int .i64 u.id, .int .i64 u.us, .string u.mc, .int .i64 u.ip, .int .i64 u.be, .int .i64 u.la, .int .i64 u.ud, .int .i64 u.qu, .int .i64 u.un, .int .i64 u.il]
def SeRok (u : SessV) : Prop := (Lit.int .i64 u.id).wf = true ∧ (Lit.int .i64 u.us).wf = true ∧ u.mc.size ≤ maxLen ∧ (Lit.int .i64 u.ip).wf = true ∧ (Lit.int .i64 u.be).wf = true ∧ (Lit.int .i64 u.la).wf = true ∧ (Lit.int .i64 u.ud).wf = true ∧ (Lit.int .i64 u.qu).wf = true ∧ (Lit.int .i64 u.un).wf = true ∧ (Lit.int .i64 u.il).wf = true
def SeR (w : World) (u : SessV) (vs : List Value) : Prop := vs = svG u ∧ SeRok u
theorem SeR.kp : Kp SeR := fun _ _ _ _ h _ => h

structure FailV where
  mc : ByteArray
  ct : Int
  un : Int

instance : Inhabited FailV := ⟨⟨⟨#[]⟩, 0, 0⟩⟩
def fvG (u : FailV) : List Value := [.string u.mc, .int .i64 u.ct, .int .i64 u.un]
def FaRok (u : FailV) : Prop := u.mc.size ≤ maxLen ∧ (Lit.int .i64 u.ct).wf = true ∧ (Lit.int .i64 u.un).wf = true
def FaR (w : World) (u : FailV) (vs : List Value) : Prop := vs = fvG u ∧ FaRok u
theorem FaR.kp : Kp FaR := fun _ _ _ _ h _ => h

structure RecV where
  id : Int
  tm : Int
  ca : Int
  bt : Int
  st : Bool

instance : Inhabited RecV := ⟨⟨0, 0, 0, 0, false⟩⟩
def evG (u : RecV) : List Value := [.int .i64 u.id, .int .i64 u.tm, .int .i64 u.ca, .int .i64 u.bt, .bool u.st]
def ReRok (u : RecV) : Prop := (Lit.int .i64 u.id).wf = true ∧ (Lit.int .i64 u.tm).wf = true ∧ (Lit.int .i64 u.ca).wf = true ∧ (Lit.int .i64 u.bt).wf = true
def ReR (w : World) (u : RecV) (vs : List Value) : Prop := vs = evG u ∧ ReRok u
theorem ReR.kp : Kp ReR := fun _ _ _ _ h _ => h

theorem wsets3 (w : World) (g i : Nat) (v0 v1 v2 : Value) : wsets w g i [v0, v1, v2] = ((w.setCell ⟨g, i, Option.none⟩ v0).setCell ⟨g, i + 1, Option.none⟩ v1).setCell ⟨g, i + 2, Option.none⟩ v2 := rfl
theorem wsets10 (w : World) (g i : Nat) (v0 v1 v2 v3 v4 v5 v6 v7 v8 v9 : Value) : wsets w g i [v0, v1, v2, v3, v4, v5, v6, v7, v8, v9] = (((((((((w.setCell ⟨g, i, Option.none⟩ v0).setCell ⟨g, i + 1, Option.none⟩ v1).setCell ⟨g, i + 2, Option.none⟩ v2).setCell ⟨g, i + 3, Option.none⟩ v3).setCell ⟨g, i + 4, Option.none⟩ v4).setCell ⟨g, i + 5, Option.none⟩ v5).setCell ⟨g, i + 6, Option.none⟩ v6).setCell ⟨g, i + 7, Option.none⟩ v7).setCell ⟨g, i + 8, Option.none⟩ v8).setCell ⟨g, i + 9, Option.none⟩ v9 := rfl
end Go.Proofs.YtlebblmlbhnppaaGreat

namespace Go.Proofs.YtlebblmlbhnppaaGreat
open Go.RowKit Go.PlainAid
set_option linter.unusedVariables false

section OpnG
variable {H : Type} {enc : TypeId × Value → H} {w : World} {base : Nat} {spare : Nat → Bool} {held : Bool} {fuel : Nat} {cs : List Value} {x : DataW H × List MemPlace}

theorem gis3 {α : Type} {cs : List α} (h : cs.length = 3) : ∃ c0 c1 c2, cs = [c0, c1, c2] := by
  match cs, h with
  | [c0, c1, c2], _ => exact ⟨c0, c1, c2, rfl⟩

theorem gis5 {α : Type} {cs : List α} (h : cs.length = 5) : ∃ c0 c1 c2 c3 c4, cs = [c0, c1, c2, c3, c4] := by
  match cs, h with
  | [c0, c1, c2, c3, c4], _ => exact ⟨c0, c1, c2, c3, c4, rfl⟩

theorem gis6 {α : Type} {cs : List α} (h : cs.length = 6) : ∃ c0 c1 c2 c3 c4 c5, cs = [c0, c1, c2, c3, c4, c5] := by
  match cs, h with
  | [c0, c1, c2, c3, c4, c5], _ => exact ⟨c0, c1, c2, c3, c4, c5, rfl⟩

theorem gis10 {α : Type} {cs : List α} (h : cs.length = 10) : ∃ c0 c1 c2 c3 c4 c5 c6 c7 c8 c9, cs = [c0, c1, c2, c3, c4, c5, c6, c7, c8, c9] := by
  match cs, h with
  | [c0, c1, c2, c3, c4, c5, c6, c7, c8, c9], _ => exact ⟨c0, c1, c2, c3, c4, c5, c6, c7, c8, c9, rfl⟩

theorem gl_User : Tryz.prog.cellsOf 170 = 6 := by kernel_rfl
theorem gl_sUser : Tryz.prog.cellsOf 28 = 1 := by kernel_rfl
theorem gl_Session : Tryz.prog.cellsOf 172 = 10 := by kernel_rfl
theorem gl_sSession : Tryz.prog.cellsOf 29 = 1 := by kernel_rfl
theorem gl_Fail : Tryz.prog.cellsOf 175 = 3 := by kernel_rfl
theorem gl_sFail : Tryz.prog.cellsOf 30 = 1 := by kernel_rfl
theorem gl_Record : Tryz.prog.cellsOf 195 = 5 := by kernel_rfl
theorem gl_sRecord : Tryz.prog.cellsOf 31 = 1 := by kernel_rfl
theorem gl_Guests : Tryz.prog.cellsOf 33 = 5 := by kernel_rfl
theorem gl_int : Tryz.prog.cellsOf 3 = 1 := by kernel_rfl
theorem gl_string : Tryz.prog.cellsOf 9 = 1 := by kernel_rfl
theorem gl_bool : Tryz.prog.cellsOf 4 = 1 := by kernel_rfl
theorem open_user (h : DataW.trod enc Tryz.prog w base spare held fuel 170 cs = some x) : ∃ d, UsR w d cs := by
  obtain ⟨xs, m, _, _, hcl, hlen, hfld⟩ := DataW.trod_struct Tryz.underlying170 h
  rw [gl_User] at hcl
  obtain ⟨c0, c1, c2, c3, c4, c5, rfl⟩ := gis6 hcl
  replace hlen : xs.length = 6 := hlen
  have e0 := hfld 0 _ rfl
  rw [List.getElem?_eq_getElem (by omega)] at e0
  obtain ⟨a0, q0, _, w0⟩ := DataW.trod_string Tryz.underlying9 e0
  simp [gl_string] at q0
  subst q0
  have e1 := hfld 1 _ rfl
  rw [List.getElem?_eq_getElem (by omega)] at e1
  obtain ⟨a1, q1, _, w1⟩ := DataW.trod_string Tryz.underlying9 e1
  simp [gl_string] at q1
  subst q1
  have e2 := hfld 2 _ rfl
  rw [List.getElem?_eq_getElem (by omega)] at e2
  obtain ⟨a2, q2, _, w2⟩ := DataW.trod_string Tryz.underlying9 e2
  simp [gl_string] at q2
  subst q2
  have e3 := hfld 3 _ rfl
  rw [List.getElem?_eq_getElem (by omega)] at e3
  obtain ⟨a3, q3, _, w3⟩ := DataW.trod_string Tryz.underlying9 e3
  simp [gl_string] at q3
  subst q3
  have e4 := hfld 4 _ rfl
  rw [List.getElem?_eq_getElem (by omega)] at e4
  obtain ⟨a4, q4, _, w4⟩ := DataW.trod_int Tryz.underlying3 e4
  simp [gl_int] at q4
  subst q4
  have e5 := hfld 5 _ rfl
  rw [List.getElem?_eq_getElem (by omega)] at e5
  obtain ⟨a5, q5, _, w5⟩ := DataW.trod_int Tryz.underlying3 e5
  simp [gl_int] at q5
  subst q5
  exact ⟨⟨a0, a1, a2, a3, a4, a5⟩, rfl, w0, w1, w2, w3, w4, w5⟩

theorem open_users (h : DataW.trod enc Tryz.prog w base spare held fuel 28 cs = some x) : ∃ (a : Option Addr) (len cap : Nat) (xs : List UserV), cs = [.slice a len cap] ∧ xs.length = len ∧ len ≤ cap ∧ cap ≤ maxLen ∧ (a = none → cap = 0) ∧ Rw UsR 6 w a xs :=
  rows_of UsR 6 Tryz.underlying28 gl_User (by omega) (fun _ _ _ h => open_user h) h

theorem open_session (h : DataW.trod enc Tryz.prog w base spare held fuel 172 cs = some x) : ∃ d, SeR w d cs := by
  obtain ⟨xs, m, _, _, hcl, hlen, hfld⟩ := DataW.trod_struct Tryz.underlying172 h
  rw [gl_Session] at hcl
  obtain ⟨c0, c1, c2, c3, c4, c5, c6, c7, c8, c9, rfl⟩ := gis10 hcl
  replace hlen : xs.length = 10 := hlen
  have e0 := hfld 0 _ rfl
  rw [List.getElem?_eq_getElem (by omega)] at e0
  obtain ⟨a0, q0, _, w0⟩ := DataW.trod_int Tryz.underlying3 e0
  simp [gl_int] at q0
  subst q0
  have e1 := hfld 1 _ rfl
  rw [List.getElem?_eq_getElem (by omega)] at e1
  obtain ⟨a1, q1, _, w1⟩ := DataW.trod_int Tryz.underlying3 e1
  simp [gl_int] at q1
  subst q1
  have e2 := hfld 2 _ rfl
  rw [List.getElem?_eq_getElem (by omega)] at e2
  obtain ⟨a2, q2, _, w2⟩ := DataW.trod_string Tryz.underlying9 e2
  simp [gl_string] at q2
  subst q2
  have e3 := hfld 3 _ rfl
  rw [List.getElem?_eq_getElem (by omega)] at e3
  obtain ⟨a3, q3, _, w3⟩ := DataW.trod_int Tryz.underlying3 e3
  simp [gl_int] at q3
  subst q3
  have e4 := hfld 4 _ rfl
  rw [List.getElem?_eq_getElem (by omega)] at e4
  obtain ⟨a4, q4, _, w4⟩ := DataW.trod_int Tryz.underlying3 e4
  simp [gl_int] at q4
  subst q4
  have e5 := hfld 5 _ rfl
  rw [List.getElem?_eq_getElem (by omega)] at e5
  obtain ⟨a5, q5, _, w5⟩ := DataW.trod_int Tryz.underlying3 e5
  simp [gl_int] at q5
  subst q5
  have e6 := hfld 6 _ rfl
  rw [List.getElem?_eq_getElem (by omega)] at e6
  obtain ⟨a6, q6, _, w6⟩ := DataW.trod_int Tryz.underlying3 e6
  simp [gl_int] at q6
  subst q6
  have e7 := hfld 7 _ rfl
  rw [List.getElem?_eq_getElem (by omega)] at e7
  obtain ⟨a7, q7, _, w7⟩ := DataW.trod_int Tryz.underlying3 e7
  simp [gl_int] at q7
  subst q7
  have e8 := hfld 8 _ rfl
  rw [List.getElem?_eq_getElem (by omega)] at e8
  obtain ⟨a8, q8, _, w8⟩ := DataW.trod_int Tryz.underlying3 e8
  simp [gl_int] at q8
  subst q8
  have e9 := hfld 9 _ rfl
  rw [List.getElem?_eq_getElem (by omega)] at e9
  obtain ⟨a9, q9, _, w9⟩ := DataW.trod_int Tryz.underlying3 e9
  simp [gl_int] at q9
  subst q9
  exact ⟨⟨a0, a1, a2, a3, a4, a5, a6, a7, a8, a9⟩, rfl, w0, w1, w2, w3, w4, w5, w6, w7, w8, w9⟩

theorem open_sessions (h : DataW.trod enc Tryz.prog w base spare held fuel 29 cs = some x) : ∃ (a : Option Addr) (len cap : Nat) (xs : List SessV), cs = [.slice a len cap] ∧ xs.length = len ∧ len ≤ cap ∧ cap ≤ maxLen ∧ (a = none → cap = 0) ∧ Rw SeR 10 w a xs :=
  rows_of SeR 10 Tryz.underlying29 gl_Session (by omega) (fun _ _ _ h => open_session h) h

theorem open_fail (h : DataW.trod enc Tryz.prog w base spare held fuel 175 cs = some x) : ∃ d, FaR w d cs := by
  obtain ⟨xs, m, _, _, hcl, hlen, hfld⟩ := DataW.trod_struct Tryz.underlying175 h
  rw [gl_Fail] at hcl
  obtain ⟨c0, c1, c2, rfl⟩ := gis3 hcl
  replace hlen : xs.length = 3 := hlen
  have e0 := hfld 0 _ rfl
  rw [List.getElem?_eq_getElem (by omega)] at e0
  obtain ⟨a0, q0, _, w0⟩ := DataW.trod_string Tryz.underlying9 e0
  simp [gl_string] at q0
  subst q0
  have e1 := hfld 1 _ rfl
  rw [List.getElem?_eq_getElem (by omega)] at e1
  obtain ⟨a1, q1, _, w1⟩ := DataW.trod_int Tryz.underlying3 e1
  simp [gl_int] at q1
  subst q1
  have e2 := hfld 2 _ rfl
  rw [List.getElem?_eq_getElem (by omega)] at e2
  obtain ⟨a2, q2, _, w2⟩ := DataW.trod_int Tryz.underlying3 e2
  simp [gl_int] at q2
  subst q2
  exact ⟨⟨a0, a1, a2⟩, rfl, w0, w1, w2⟩

theorem open_fails (h : DataW.trod enc Tryz.prog w base spare held fuel 30 cs = some x) : ∃ (a : Option Addr) (len cap : Nat) (xs : List FailV), cs = [.slice a len cap] ∧ xs.length = len ∧ len ≤ cap ∧ cap ≤ maxLen ∧ (a = none → cap = 0) ∧ Rw FaR 3 w a xs :=
  rows_of FaR 3 Tryz.underlying30 gl_Fail (by omega) (fun _ _ _ h => open_fail h) h

theorem open_record (h : DataW.trod enc Tryz.prog w base spare held fuel 195 cs = some x) : ∃ d, ReR w d cs := by
  obtain ⟨xs, m, _, _, hcl, hlen, hfld⟩ := DataW.trod_struct Tryz.underlying195 h
  rw [gl_Record] at hcl
  obtain ⟨c0, c1, c2, c3, c4, rfl⟩ := gis5 hcl
  replace hlen : xs.length = 5 := hlen
  have e0 := hfld 0 _ rfl
  rw [List.getElem?_eq_getElem (by omega)] at e0
  obtain ⟨a0, q0, _, w0⟩ := DataW.trod_int Tryz.underlying3 e0
  simp [gl_int] at q0
  subst q0
  have e1 := hfld 1 _ rfl
  rw [List.getElem?_eq_getElem (by omega)] at e1
  obtain ⟨a1, q1, _, w1⟩ := DataW.trod_int Tryz.underlying3 e1
  simp [gl_int] at q1
  subst q1
  have e2 := hfld 2 _ rfl
  rw [List.getElem?_eq_getElem (by omega)] at e2
  obtain ⟨a2, q2, _, w2⟩ := DataW.trod_int Tryz.underlying3 e2
  simp [gl_int] at q2
  subst q2
  have e3 := hfld 3 _ rfl
  rw [List.getElem?_eq_getElem (by omega)] at e3
  obtain ⟨a3, q3, _, w3⟩ := DataW.trod_int Tryz.underlying3 e3
  simp [gl_int] at q3
  subst q3
  have e4 := hfld 4 _ rfl
  rw [List.getElem?_eq_getElem (by omega)] at e4
  obtain ⟨a4, q4, _⟩ := DataW.trod_bool Tryz.underlying4 e4
  simp [gl_bool] at q4
  subst q4
  exact ⟨⟨a0, a1, a2, a3, a4⟩, rfl, w0, w1, w2, w3⟩

theorem open_records (h : DataW.trod enc Tryz.prog w base spare held fuel 31 cs = some x) : ∃ (a : Option Addr) (len cap : Nat) (xs : List RecV), cs = [.slice a len cap] ∧ xs.length = len ∧ len ≤ cap ∧ cap ≤ maxLen ∧ (a = none → cap = 0) ∧ Rw ReR 5 w a xs :=
  rows_of ReR 5 Tryz.underlying31 gl_Record (by omega) (fun _ _ _ h => open_record h) h

theorem open_guests (h : DataW.trod enc Tryz.prog w base spare held fuel 33 cs = some x) : ∃ (ua sa fa ra : Option Addr) (ul uc sl sc fl fc rl rc : Nat) (us : List UserV) (ss : List SessV) (fs : List FailV) (rs : List RecV) (nx : Int), cs = [.slice ua ul uc, .slice sa sl sc, .slice fa fl fc, .slice ra rl rc, .int .i64 nx] ∧ (us.length = ul ∧ ul ≤ uc ∧ uc ≤ maxLen ∧ Rw UsR 6 w ua us) ∧ (ss.length = sl ∧ sl ≤ sc ∧ sc ≤ maxLen ∧ Rw SeR 10 w sa ss) ∧ (fs.length = fl ∧ fl ≤ fc ∧ fc ≤ maxLen ∧ Rw FaR 3 w fa fs) ∧ (rs.length = rl ∧ rl ≤ rc ∧ rc ≤ maxLen ∧ Rw ReR 5 w ra rs) ∧ (Lit.int .i64 nx).wf = true := by
  obtain ⟨xs, m, _, _, hcl, hlen, hfld⟩ := DataW.trod_struct Tryz.underlying33 h
  rw [gl_Guests] at hcl
  obtain ⟨c0, c1, c2, c3, c4, rfl⟩ := gis5 hcl
  replace hlen : xs.length = 5 := hlen
  have e0 := hfld 0 _ rfl
  rw [List.getElem?_eq_getElem (by omega)] at e0
  obtain ⟨a0, len0, cap0, xs0, q0, l0, lc0, cm0, _, r0⟩ := open_users e0
  simp [gl_sUser] at q0
  subst q0
  have e1 := hfld 1 _ rfl
  rw [List.getElem?_eq_getElem (by omega)] at e1
  obtain ⟨a1, len1, cap1, xs1, q1, l1, lc1, cm1, _, r1⟩ := open_sessions e1
  simp [gl_sSession] at q1
  subst q1
  have e2 := hfld 2 _ rfl
  rw [List.getElem?_eq_getElem (by omega)] at e2
  obtain ⟨a2, len2, cap2, xs2, q2, l2, lc2, cm2, _, r2⟩ := open_fails e2
  simp [gl_sFail] at q2
  subst q2
  have e3 := hfld 3 _ rfl
  rw [List.getElem?_eq_getElem (by omega)] at e3
  obtain ⟨a3, len3, cap3, xs3, q3, l3, lc3, cm3, _, r3⟩ := open_records e3
  simp [gl_sRecord] at q3
  subst q3
  have e4 := hfld 4 _ rfl
  rw [List.getElem?_eq_getElem (by omega)] at e4
  obtain ⟨a4, q4, _, w4⟩ := DataW.trod_int Tryz.underlying3 e4
  simp [gl_int] at q4
  subst q4
  exact ⟨_, _, _, _, _, _, _, _, _, _, _, _, _, _, _, _, _, rfl, ⟨l0, lc0, cm0, r0⟩, ⟨l1, lc1, cm1, r1⟩, ⟨l2, lc2, cm2, r2⟩, ⟨l3, lc3, cm3, r3⟩, w4⟩

end OpnG
end Go.Proofs.YtlebblmlbhnppaaGreat

namespace Go.Proofs.YtlebblmlbhnppaaGreat
open Go.RowKit Go.PlainAid
set_option linter.unusedVariables false

/-- The cells of the xs, one behind the other. -/
def flatS {α : Type} (c : α → List Value) (xs : List α) : List Value := xs.flatMap c
section Fl
variable {α : Type} {c : α → List Value} {K : Nat}
theorem flatS_append (xs ys : List α) : flatS c (xs ++ ys) = flatS c xs ++ flatS c ys := by simp [flatS]
theorem flatS_one (x : α) : flatS c [x] = c x := by simp [flatS]
theorem flatS_cons (x : α) (xs : List α) : flatS c (x :: xs) = c x ++ flatS c xs := rfl
theorem flatS_len (hK : ∀ x, (c x).length = K) : ∀ xs : List α, (flatS c xs).length = xs.length * K
  | [] => by simp [flatS]
  | x :: xs => by rw [flatS_cons, List.length_append, hK, flatS_len hK xs, List.length_cons, Nat.add_mul]; omega
theorem flatS_at (hK : ∀ x, (c x).length = K) : ∀ (xs : List α) (i : Nat) (x : α) (j : Nat), xs[i]? = some x → j < K → (flatS c xs)[i * K + j]? = (c x)[j]?
  | [], i, x, j, h, hj => by simp at h
  | y :: xs, 0, x, j, h, hj => by
    simp at h
    subst h
    rw [flatS_cons, List.getElem?_append_left (by rw [hK]; omega)]
    congr 1
    omega
  | y :: xs, i + 1, x, j, h, hj => by
    rw [flatS_cons, List.getElem?_append_right (by rw [hK, Nat.add_mul]; omega), hK, show (i + 1) * K + j - K = i * K + j by rw [Nat.add_mul]; omega]
    exact flatS_at hK xs i x j (by simpa using h) hj
theorem sets_mid : ∀ (vs B A C : List Value), B.length = vs.length → sets (A ++ (B ++ C)) A.length vs = A ++ (vs ++ C)
  | [], [], A, C, _ => rfl
  | v :: vs, b :: B, A, C, h => by
    have e : (A ++ ((b :: B) ++ C)).set A.length v = (A ++ [v]) ++ (B ++ C) := by simp
    have := sets_mid vs B (A ++ [v]) C (by simpa using h)
    unfold sets
    rw [e, show A.length + 1 = (A ++ [v]).length by simp, this]
    simp
theorem flatS_sets (hK : ∀ x, (c x).length = K) (xs : List α) (i : Nat) (y : α) (hi : i < xs.length) : flatS c (xs.set i y) = sets (flatS c xs) (i * K) (c y) := by
  obtain ⟨A, x, C, rfl, rfl⟩ : ∃ A x C, xs = A ++ x :: C ∧ A.length = i := ⟨xs.take i, xs[i], xs.drop (i + 1), by simp, by simp; omega⟩
  have e : (A ++ x :: C).set A.length y = A ++ y :: C := by simp
  rw [e, flatS_append, flatS_append, flatS_cons, flatS_cons, ← flatS_len hK, sets_mid _ _ _ _ (by rw [hK, hK])]
theorem flatS_set1 (hK : ∀ x, (c x).length = K) (xs : List α) (i : Nat) (x y : α) (j : Nat) (v : Value) (hx : xs[i]? = some x) (hj : j < K) (hy : c y = (c x).set j v) : flatS c (xs.set i y) = (flatS c xs).set (i * K + j) v := by
  have hi := (List.getElem?_eq_some_iff.1 hx).1
  obtain ⟨A, x', C, rfl, rfl⟩ : ∃ A x C, xs = A ++ x :: C ∧ A.length = i := ⟨xs.take i, xs[i], xs.drop (i + 1), by simp, by simp; omega⟩
  have ex : x' = x := by simpa using hx
  subst ex
  have e : (A ++ x' :: C).set A.length y = A ++ y :: C := by simp
  rw [e, flatS_append, flatS_append, flatS_cons, flatS_cons, ← flatS_len hK, hy, List.set_append_right _ _ (by omega), List.set_append_left _ _ (by rw [hK]; omega), show (flatS c A).length + j - (flatS c A).length = j by omega]
end Fl

/-- The slice value v owns the xs, in a block from B on. -/
def OwnS {α : Type} (c : α → List Value) (K : Nat) (e : TypeId) (w : World) (B : Nat) (v : Value) (xs : List α) : Prop := w.ownsRow B e K v xs.length (flatS c xs)
/-- A flat struct, its cells and what is known of it. -/
def FR {α : Type} (c : α → List Value) (ok : α → Prop) (w : World) (u : α) (vs : List Value) : Prop := vs = c u ∧ ok u
theorem FR.kp {α : Type} {c : α → List Value} {ok : α → Prop} : Kp (FR c ok) := fun _ _ _ _ h _ => h
section Ow
variable {α : Type} {c : α → List Value} {K : Nat} {e : TypeId} {w w' : World} {B : Nat} {v : Value} {xs : List α}
theorem OwnS.lt (h : OwnS c K e w B v xs) : ∀ k, v.ownBlock = some k → B ≤ k ∧ k < w.heap.size := World.ownsRow.lt h
theorem OwnS.keep {m : Nat} (h : OwnS c K e w B v xs) (hb : Below m w w') (hm : ∀ k, v.ownBlock = some k → k < m) : OwnS c K e w' B v xs := owns_keep h hb hm
theorem OwnS.now (h : OwnS c K e w B v xs) (hb : Below w.heap.size w w') : OwnS c K e w' B v xs := owns_now h hb
theorem OwnS.kept {r : Option Nat} (h : OwnS c K e w B v xs) (hg : w.grownBy w' r) (hne : v.ownBlock = none ∨ v.ownBlock ≠ r) : OwnS c K e w' B v xs := World.ownsRow.kept h hg hne
theorem OwnS.lower {B' : Nat} (h : OwnS c K e w B v xs) (hB : B' ≤ B) : OwnS c K e w B' v xs := by
  refine ⟨h.1, ?_⟩
  rcases h.2 with h' | ⟨g, cap, cur, h1, hb, h4⟩
  · exact .inl h'
  · exact .inr ⟨g, cap, cur, h1, Nat.le_trans hB hb, h4⟩
theorem OwnS.slice (h : OwnS c K e w B v xs) : ∃ a cap, v = .slice a xs.length cap ∧ xs.length ≤ cap ∧ cap ≤ maxLen ∧ (∀ b off, a = some ⟨b, off, none⟩ → B ≤ b ∧ b < w.heap.size) := by
  rcases h.2 with ⟨h1, h2⟩ | ⟨g, cap, cur, h1, hB, hg, h3, h4, _⟩
  · exact ⟨none, 0, by rw [h1, h2], by omega, Nat.zero_le _, fun b off e => by cases e⟩
  · exact ⟨_, cap, h1, h3, h4, fun b off e => by cases e; exact ⟨hB, (Array.getElem?_eq_some_iff.1 hg).1⟩⟩
theorem OwnS.form {a : Option Addr} {n cap : Nat} (h : OwnS c K e w B (.slice a n cap) xs) (h0 : 0 < xs.length) : ∃ g, a = some ⟨g, 0, none⟩ ∧ B ≤ g ∧ g < w.heap.size ∧ xs.length = n := by
  rcases h.2 with ⟨h1, h2⟩ | ⟨g, cap, cur, h1, hB, hg, _⟩
  · omega
  · cases h1
    exact ⟨g, rfl, hB, (Array.getElem?_eq_some_iff.1 hg).1, rfl⟩
theorem OwnS.len {a : Option Addr} {n cap : Nat} (h : OwnS c K e w B (.slice a n cap) xs) : xs.length = n := by
  rcases h.2 with ⟨h1, h2⟩ | ⟨g, cap, cur, h1, _⟩
  · cases h1
    exact h2
  · cases h1
    rfl
theorem OwnS.rw {a : Option Addr} {n cap : Nat} {ok : α → Prop} (h : OwnS c K e w B (.slice a n cap) xs) (hK : ∀ x, (c x).length = K) (hok : ∀ x, x ∈ xs → ok x) : Rw (FR c ok) K w a xs := by
  intro h0
  obtain ⟨g, rfl, hB, hg, rfl⟩ := h.form h0
  refine ⟨g, 0, rfl, hg, fun i x hx => ⟨c x, hK x, ⟨rfl, hok x (List.mem_of_getElem? hx)⟩, fun j u hu => ?_⟩⟩
  have hj := (List.getElem?_eq_some_iff.1 hu).1
  rw [hK] at hj
  have hi := (List.getElem?_eq_some_iff.1 hx).1
  have : (i + 1) * K ≤ xs.length * K := Nat.mul_le_mul_right _ hi
  rw [Nat.add_mul] at this
  rw [Nat.zero_add, World.ownsRow.cellAt h _ (by omega), flatS_at hK xs i x j hx hj]
  exact hu
/-- What a load from or a store into element i wants to know. -/
theorem OwnS.cell {g n cap : Nat} (h : OwnS c K e w B (.slice (some ⟨g, 0, none⟩) n cap) xs) (hK : ∀ x, (c x).length = K) {i j : Nat} {x : α} {u : Value} (hx : xs[i]? = some x) (hu : (c x)[j]? = some u) : w.cell? ⟨g, i * K + j, none⟩ = some u ∧ w.frozen? ⟨g, i * K + j, none⟩ = false := by
  obtain rfl := h.len
  have hj := (List.getElem?_eq_some_iff.1 hu).1
  rw [hK] at hj
  have hi := (List.getElem?_eq_some_iff.1 hx).1
  have : (i + 1) * K ≤ xs.length * K := Nat.mul_le_mul_right _ hi
  rw [Nat.add_mul] at this
  exact ⟨by rw [World.ownsRow.cellAt h _ (by omega), flatS_at hK xs i x j hx hj]; exact hu, World.ownsRow.frozenAt h _⟩
theorem OwnS.nil (w : World) (B : Nat) : OwnS c K e w B (.slice none 0 0) ([] : List α) := World.ownsRow_nil w _ _ _
theorem OwnS.lit (w : World) (B : Nat) (hB : B ≤ w.heap.size) : OwnS c K e (w.alloc (.cells #[] e)) B (.slice (some ⟨w.heap.size, 0, none⟩) 0 0) ([] : List α) := World.ownsRow_lit w #[] 0 hB (Nat.zero_le _) (by simp)
/-- An element stored whole. -/
theorem OwnS.store {g n cap : Nat} (h : OwnS c K e w B (.slice (some ⟨g, 0, none⟩) n cap) xs) (hK : ∀ x, (c x).length = K) {i : Nat} (hi : i < n) (y : α) :
    OwnS c K e (wsets w g (i * K) (c y)) B (.slice (some ⟨g, 0, none⟩) n cap) (xs.set i y) ∧ w.grownBy (wsets w g (i * K) (c y)) (some g) := by
  obtain rfl := h.len
  have := owns_sets (c y) w _ (i * K) h
  refine ⟨?_, this.2⟩
  unfold OwnS
  rw [flatS_sets hK xs i y hi, List.length_set]
  exact this.1
/-- A field stored. -/
theorem OwnS.set1 {g n cap : Nat} (h : OwnS c K e w B (.slice (some ⟨g, 0, none⟩) n cap) xs) (hK : ∀ x, (c x).length = K) {i j : Nat} {x y : α} {u : Value} (hx : xs[i]? = some x) (hj : j < K) (hy : c y = (c x).set j u) :
    OwnS c K e (w.setCell ⟨g, i * K + j, none⟩ u) B (.slice (some ⟨g, 0, none⟩) n cap) (xs.set i y) ∧ w.grownBy (w.setCell ⟨g, i * K + j, none⟩ u) (some g) := by
  obtain rfl := h.len
  have := World.ownsRow.stored h (i * K + j) u
  refine ⟨?_, this.2⟩
  unfold OwnS
  rw [flatS_set1 hK xs i x y j u hx hj hy, List.length_set]
  exact this.1
end Ow
theorem made_flatS {α : Type} (c : α → List Value) (z : α) (Z : Array Value) (hz : Z.toList = c z) (h0 : 0 < Z.size) (n : Nat) : (madeCells Z (n * Z.size)).toList = flatS c (List.replicate n z) := by
  have hK : ∀ x ∈ [z], (c x).length = Z.size := by intro x hx; simp at hx; subst hx; rw [← hz]; simp
  have flat_at : ∀ (n i j : Nat), i < n → j < Z.size → (flatS c (List.replicate n z))[i * Z.size + j]? = (c z)[j]? := by
    intro n
    induction n with
    | zero => intro i j hi; omega
    | succ n ih =>
      intro i j hi hj
      rw [List.replicate_succ, flatS_cons]
      cases i with
      | zero => rw [List.getElem?_append_left (by rw [hK z (by simp)]; omega)]; congr 1; omega
      | succ i =>
        rw [List.getElem?_append_right (by rw [hK z (by simp), Nat.add_mul]; omega), hK z (by simp), show (i + 1) * Z.size + j - Z.size = i * Z.size + j by rw [Nat.add_mul]; omega]
        exact ih i j (by omega) hj
  have hlen : ∀ n, (flatS c (List.replicate n z)).length = n * Z.size := by
    intro n
    induction n with
    | zero => simp [flatS]
    | succ n ih => rw [List.replicate_succ, flatS_cons, List.length_append, ih, hK z (by simp), Nat.add_mul]; omega
  apply List.ext_getElem?
  intro m
  by_cases hm : m < n * Z.size
  · have e1 : m = m / Z.size * Z.size + m % Z.size := by rw [Nat.mul_comm]; exact (Nat.div_add_mod m Z.size).symm
    have hq : m / Z.size < n := (Nat.div_lt_iff_lt_mul h0).2 hm
    have hr : m % Z.size < Z.size := Nat.mod_lt _ h0
    have e2 := flat_at n (m / Z.size) (m % Z.size) hq hr
    rw [← e1] at e2
    rw [e2, ← hz]
    simp [madeCells, hm, hr]
  · rw [List.getElem?_eq_none (by rw [Array.length_toList, size_madeCells]; omega), List.getElem?_eq_none (by rw [hlen]; omega)]
theorem OwnS.made {α : Type} {c : α → List Value} {K : Nat} (w : World) (e : TypeId) (B n : Nat) (z : α) (Z : Array Value) (hz : Z.toList = c z) (hZ : Z.size = K) (h0 : 0 < K) (hB : B ≤ w.heap.size) (hn : n ≤ maxLen) : OwnS c K e (w.alloc (.cells (madeCells Z (n * K)) e)) B (.slice (some ⟨w.heap.size, 0, none⟩) n n) (List.replicate n z) := by
  subst hZ
  have := owns_made w e B n Z.size Z hB hn
  unfold OwnS
  rw [made_flatS c z Z hz h0 n] at this
  rwa [List.length_replicate]
theorem takeS_set {α : Type} {L zs : List α} {k : Nat} {x : α} (hl : L.length = zs.length) (hx : zs[k]? = some x) (h : L.take k = zs.take k) : (L.set k x).take (k + 1) = zs.take (k + 1) := by
  have hk := (List.getElem?_eq_some_iff.1 hx).1
  have e1 : (L.set k x).take (k + 1) = (L.set k x).take k ++ [x] := by rw [List.take_add_one, List.getElem?_set_self (by omega)]; rfl
  have e2 : zs.take (k + 1) = zs.take k ++ [x] := by rw [List.take_add_one, hx]; rfl
  rw [e1, e2, List.take_set_of_le (Nat.le_refl _), h]
theorem takeS_next {α : Type} {zs : List α} {k : Nat} {x : α} (hx : zs[k]? = some x) : zs.take (k + 1) = zs.take k ++ [x] := by rw [List.take_add_one, hx]; rfl
/-- The cells of a row that is read, one behind the other. -/
theorem flat_rw {α : Type} {c : α → List Value} {ok : α → Prop} {K : Nat} {w : World} {b off : Nat} {xs : List α} (h : Rw (FR c ok) K w (some ⟨b, off, none⟩) xs) (hK : ∀ x, (c x).length = K) (h0 : 0 < K) : ∀ j u, (flatS c xs)[j]? = some u → w.cell? ⟨b, off + j, none⟩ = some u := by
  intro j u hu
  have hj := (List.getElem?_eq_some_iff.1 hu).1
  rw [flatS_len hK] at hj
  have e1 : j = j / K * K + j % K := by rw [Nat.mul_comm]; exact (Nat.div_add_mod j K).symm
  have hq : j / K < xs.length := (Nat.div_lt_iff_lt_mul h0).2 hj
  have hr : j % K < K := Nat.mod_lt _ h0
  obtain ⟨b', off', e, hlt, hc⟩ := h (Nat.lt_of_le_of_lt (Nat.zero_le _) hq)
  cases e
  have hx : xs[j / K]? = some (xs[j / K]) := List.getElem?_eq_getElem hq
  obtain ⟨vs, h1, ⟨rfl, _⟩, h3⟩ := hc _ _ hx
  rw [e1, flatS_at hK xs _ _ _ hx hr] at hu
  have := h3 _ _ hu
  rw [Nat.add_assoc, ← e1] at this
  exact this
end Go.Proofs.YtlebblmlbhnppaaGreat

namespace Go.Proofs.YtlebblmlbhnppaaGreat
open Go.RowKit Go.PlainAid
set_option linter.unusedVariables false

structure FlowV where
  pr : Int
  mc : ByteArray
  si : Int
  sp : Int
  di : Int
  dp : Int
  st : Int
  un : Int
  ow : Int

instance : Inhabited FlowV := ⟨⟨0, ⟨#[]⟩, 0, 0, 0, 0, 0, 0, 0⟩⟩
def wvG (u : FlowV) : List Value := [.int .i64 u.pr, .string u.mc, .int .i64 u.si, .int .i64 u.sp, .int .i64 u.di, .int .i64 u.dp, .int .i64 u.st, .int .i64 u.un, .int .i64 u.ow]
def FlRok (u : FlowV) : Prop := (Lit.int .i64 u.pr).wf = true ∧ u.mc.size ≤ maxLen ∧ (Lit.int .i64 u.si).wf = true ∧ (Lit.int .i64 u.sp).wf = true ∧ (Lit.int .i64 u.di).wf = true ∧ (Lit.int .i64 u.dp).wf = true ∧ (Lit.int .i64 u.st).wf = true ∧ (Lit.int .i64 u.un).wf = true ∧ (Lit.int .i64 u.ow).wf = true
abbrev FlR := FR wvG FlRok
theorem wvG_len (u : FlowV) : (wvG u).length = 9 := rfl
theorem wsets9 (w : World) (g i : Nat) (v0 v1 v2 v3 v4 v5 v6 v7 v8 : Value) : wsets w g i [v0, v1, v2, v3, v4, v5, v6, v7, v8] = ((((((((w.setCell ⟨g, i, Option.none⟩ v0).setCell ⟨g, i + 1, Option.none⟩ v1).setCell ⟨g, i + 2, Option.none⟩ v2).setCell ⟨g, i + 3, Option.none⟩ v3).setCell ⟨g, i + 4, Option.none⟩ v4).setCell ⟨g, i + 5, Option.none⟩ v5).setCell ⟨g, i + 6, Option.none⟩ v6).setCell ⟨g, i + 7, Option.none⟩ v7).setCell ⟨g, i + 8, Option.none⟩ v8 := rfl
end Go.Proofs.YtlebblmlbhnppaaGreat

namespace Go.Proofs.YtlebblmlbhnppaaGreat
open Go.RowKit Go.PlainAid
set_option linter.unusedVariables false

section OpnF
variable {H : Type} {enc : TypeId × Value → H} {w : World} {base : Nat} {spare : Nat → Bool} {held : Bool} {fuel : Nat} {cs : List Value} {x : DataW H × List MemPlace}

theorem gis9 {α : Type} {cs : List α} (h : cs.length = 9) : ∃ c0 c1 c2 c3 c4 c5 c6 c7 c8, cs = [c0, c1, c2, c3, c4, c5, c6, c7, c8] := by
  match cs, h with
  | [c0, c1, c2, c3, c4, c5, c6, c7, c8], _ => exact ⟨c0, c1, c2, c3, c4, c5, c6, c7, c8, rfl⟩

theorem f9_Flow : Tryz.prog.cellsOf 218 = 9 := by kernel_rfl
theorem f9_int : Tryz.prog.cellsOf 3 = 1 := by kernel_rfl
theorem f9_string : Tryz.prog.cellsOf 9 = 1 := by kernel_rfl
theorem open_flow (h : DataW.trod enc Tryz.prog w base spare held fuel 218 cs = some x) : ∃ d, FlR w d cs := by
  obtain ⟨xs, m, _, _, hcl, hlen, hfld⟩ := DataW.trod_struct Tryz.underlying218 h
  rw [f9_Flow] at hcl
  obtain ⟨c0, c1, c2, c3, c4, c5, c6, c7, c8, rfl⟩ := gis9 hcl
  replace hlen : xs.length = 9 := hlen
  have e0 := hfld 0 _ rfl
  rw [List.getElem?_eq_getElem (by omega)] at e0
  obtain ⟨a0, q0, _, w0⟩ := DataW.trod_int Tryz.underlying3 e0
  simp [f9_int] at q0
  subst q0
  have e1 := hfld 1 _ rfl
  rw [List.getElem?_eq_getElem (by omega)] at e1
  obtain ⟨a1, q1, _, w1⟩ := DataW.trod_string Tryz.underlying9 e1
  simp [f9_string] at q1
  subst q1
  have e2 := hfld 2 _ rfl
  rw [List.getElem?_eq_getElem (by omega)] at e2
  obtain ⟨a2, q2, _, w2⟩ := DataW.trod_int Tryz.underlying3 e2
  simp [f9_int] at q2
  subst q2
  have e3 := hfld 3 _ rfl
  rw [List.getElem?_eq_getElem (by omega)] at e3
  obtain ⟨a3, q3, _, w3⟩ := DataW.trod_int Tryz.underlying3 e3
  simp [f9_int] at q3
  subst q3
  have e4 := hfld 4 _ rfl
  rw [List.getElem?_eq_getElem (by omega)] at e4
  obtain ⟨a4, q4, _, w4⟩ := DataW.trod_int Tryz.underlying3 e4
  simp [f9_int] at q4
  subst q4
  have e5 := hfld 5 _ rfl
  rw [List.getElem?_eq_getElem (by omega)] at e5
  obtain ⟨a5, q5, _, w5⟩ := DataW.trod_int Tryz.underlying3 e5
  simp [f9_int] at q5
  subst q5
  have e6 := hfld 6 _ rfl
  rw [List.getElem?_eq_getElem (by omega)] at e6
  obtain ⟨a6, q6, _, w6⟩ := DataW.trod_int Tryz.underlying3 e6
  simp [f9_int] at q6
  subst q6
  have e7 := hfld 7 _ rfl
  rw [List.getElem?_eq_getElem (by omega)] at e7
  obtain ⟨a7, q7, _, w7⟩ := DataW.trod_int Tryz.underlying3 e7
  simp [f9_int] at q7
  subst q7
  have e8 := hfld 8 _ rfl
  rw [List.getElem?_eq_getElem (by omega)] at e8
  obtain ⟨a8, q8, _, w8⟩ := DataW.trod_int Tryz.underlying3 e8
  simp [f9_int] at q8
  subst q8
  exact ⟨⟨a0, a1, a2, a3, a4, a5, a6, a7, a8⟩, rfl, w0, w1, w2, w3, w4, w5, w6, w7, w8⟩

theorem open_flows (h : DataW.trod enc Tryz.prog w base spare held fuel 62 cs = some x) : ∃ (a : Option Addr) (len cap : Nat) (xs : List FlowV), cs = [.slice a len cap] ∧ xs.length = len ∧ len ≤ cap ∧ cap ≤ maxLen ∧ (a = none → cap = 0) ∧ Rw FlR 9 w a xs :=
  rows_of FlR 9 Tryz.underlying62 f9_Flow (by omega) (fun _ _ _ h => open_flow h) h

end OpnF
end Go.Proofs.YtlebblmlbhnppaaGreat

namespace Go.Proofs.YtlebblmlbhnppaaGreat
open Go.RowKit Go.PlainAid
set_option linter.unusedVariables false

structure ConnV where
  mc : ByteArray
  ip : Int
  po : Int
  di : Int
  st : Int
  un : Int
  nx : Int
  wa : Int
  inn : ByteArray
  out : ByteArray
  fin : Bool

instance : Inhabited ConnV := ⟨⟨⟨#[]⟩, 0, 0, 0, 0, 0, 0, 0, ⟨#[]⟩, ⟨#[]⟩, false⟩⟩
def cnG (u : ConnV) : List Value := [.string u.mc, .int .i64 u.ip, .int .i64 u.po, .int .i64 u.di, .int .i64 u.st, .int .i64 u.un, .int .i64 u.nx, .int .i64 u.wa, .string u.inn, .string u.out, .bool u.fin]
def CnRok (u : ConnV) : Prop := u.mc.size ≤ maxLen ∧ (Lit.int .i64 u.ip).wf = true ∧ (Lit.int .i64 u.po).wf = true ∧ (Lit.int .i64 u.di).wf = true ∧ (Lit.int .i64 u.st).wf = true ∧ (Lit.int .i64 u.un).wf = true ∧ (Lit.int .i64 u.nx).wf = true ∧ (Lit.int .i64 u.wa).wf = true ∧ u.inn.size ≤ maxLen ∧ u.out.size ≤ maxLen
abbrev CnR := FR cnG CnRok
theorem cnG_len (u : ConnV) : (cnG u).length = 11 := rfl
structure SegV where
  sp : Int
  dp : Int
  sq : Int
  ac : Int
  fl : Int
  wi : Int
  da : ByteArray

instance : Inhabited SegV := ⟨⟨0, 0, 0, 0, 0, 0, ⟨#[]⟩⟩⟩
def sgG (u : SegV) : List Value := [.int .i64 u.sp, .int .i64 u.dp, .int .i64 u.sq, .int .i64 u.ac, .int .i64 u.fl, .int .i64 u.wi, .string u.da]
def SgRok (u : SegV) : Prop := (Lit.int .i64 u.sp).wf = true ∧ (Lit.int .i64 u.dp).wf = true ∧ (Lit.int .i64 u.sq).wf = true ∧ (Lit.int .i64 u.ac).wf = true ∧ (Lit.int .i64 u.fl).wf = true ∧ (Lit.int .i64 u.wi).wf = true ∧ u.da.size ≤ maxLen
abbrev SgR := FR sgG SgRok
theorem sgG_len (u : SegV) : (sgG u).length = 7 := rfl
end Go.Proofs.YtlebblmlbhnppaaGreat

namespace Go.Proofs.YtlebblmlbhnppaaGreat
open Go.RowKit Go.PlainAid
set_option linter.unusedVariables false

theorem wsets11 (w : World) (g i : Nat) (v0 v1 v2 v3 v4 v5 v6 v7 v8 v9 v10 : Value) : wsets w g i [v0, v1, v2, v3, v4, v5, v6, v7, v8, v9, v10] = ((((((((((w.setCell ⟨g, i, Option.none⟩ v0).setCell ⟨g, i + 1, Option.none⟩ v1).setCell ⟨g, i + 2, Option.none⟩ v2).setCell ⟨g, i + 3, Option.none⟩ v3).setCell ⟨g, i + 4, Option.none⟩ v4).setCell ⟨g, i + 5, Option.none⟩ v5).setCell ⟨g, i + 6, Option.none⟩ v6).setCell ⟨g, i + 7, Option.none⟩ v7).setCell ⟨g, i + 8, Option.none⟩ v8).setCell ⟨g, i + 9, Option.none⟩ v9).setCell ⟨g, i + 10, Option.none⟩ v10 := rfl
section OpnC
variable {H : Type} {enc : TypeId × Value → H} {w : World} {base : Nat} {spare : Nat → Bool} {held : Bool} {fuel : Nat} {cs : List Value} {x : DataW H × List MemPlace}

theorem gis11 {α : Type} {cs : List α} (h : cs.length = 11) : ∃ c0 c1 c2 c3 c4 c5 c6 c7 c8 c9 c10, cs = [c0, c1, c2, c3, c4, c5, c6, c7, c8, c9, c10] := by
  match cs, h with
  | [c0, c1, c2, c3, c4, c5, c6, c7, c8, c9, c10], _ => exact ⟨c0, c1, c2, c3, c4, c5, c6, c7, c8, c9, c10, rfl⟩

theorem c11_Conn : Tryz.prog.cellsOf 220 = 11 := by kernel_rfl
theorem c11_int : Tryz.prog.cellsOf 3 = 1 := by kernel_rfl
theorem c11_string : Tryz.prog.cellsOf 9 = 1 := by kernel_rfl
theorem c11_bool : Tryz.prog.cellsOf 4 = 1 := by kernel_rfl
theorem open_conn (h : DataW.trod enc Tryz.prog w base spare held fuel 220 cs = some x) : ∃ d, CnR w d cs := by
  obtain ⟨xs, m, _, _, hcl, hlen, hfld⟩ := DataW.trod_struct Tryz.underlying220 h
  rw [c11_Conn] at hcl
  obtain ⟨c0, c1, c2, c3, c4, c5, c6, c7, c8, c9, c10, rfl⟩ := gis11 hcl
  replace hlen : xs.length = 11 := hlen
  have e0 := hfld 0 _ rfl
  rw [List.getElem?_eq_getElem (by omega)] at e0
  obtain ⟨a0, q0, _, w0⟩ := DataW.trod_string Tryz.underlying9 e0
  simp [c11_string] at q0
  subst q0
  have e1 := hfld 1 _ rfl
  rw [List.getElem?_eq_getElem (by omega)] at e1
  obtain ⟨a1, q1, _, w1⟩ := DataW.trod_int Tryz.underlying3 e1
  simp [c11_int] at q1
  subst q1
  have e2 := hfld 2 _ rfl
  rw [List.getElem?_eq_getElem (by omega)] at e2
  obtain ⟨a2, q2, _, w2⟩ := DataW.trod_int Tryz.underlying3 e2
  simp [c11_int] at q2
  subst q2
  have e3 := hfld 3 _ rfl
  rw [List.getElem?_eq_getElem (by omega)] at e3
  obtain ⟨a3, q3, _, w3⟩ := DataW.trod_int Tryz.underlying3 e3
  simp [c11_int] at q3
  subst q3
  have e4 := hfld 4 _ rfl
  rw [List.getElem?_eq_getElem (by omega)] at e4
  obtain ⟨a4, q4, _, w4⟩ := DataW.trod_int Tryz.underlying3 e4
  simp [c11_int] at q4
  subst q4
  have e5 := hfld 5 _ rfl
  rw [List.getElem?_eq_getElem (by omega)] at e5
  obtain ⟨a5, q5, _, w5⟩ := DataW.trod_int Tryz.underlying3 e5
  simp [c11_int] at q5
  subst q5
  have e6 := hfld 6 _ rfl
  rw [List.getElem?_eq_getElem (by omega)] at e6
  obtain ⟨a6, q6, _, w6⟩ := DataW.trod_int Tryz.underlying3 e6
  simp [c11_int] at q6
  subst q6
  have e7 := hfld 7 _ rfl
  rw [List.getElem?_eq_getElem (by omega)] at e7
  obtain ⟨a7, q7, _, w7⟩ := DataW.trod_int Tryz.underlying3 e7
  simp [c11_int] at q7
  subst q7
  have e8 := hfld 8 _ rfl
  rw [List.getElem?_eq_getElem (by omega)] at e8
  obtain ⟨a8, q8, _, w8⟩ := DataW.trod_string Tryz.underlying9 e8
  simp [c11_string] at q8
  subst q8
  have e9 := hfld 9 _ rfl
  rw [List.getElem?_eq_getElem (by omega)] at e9
  obtain ⟨a9, q9, _, w9⟩ := DataW.trod_string Tryz.underlying9 e9
  simp [c11_string] at q9
  subst q9
  have e10 := hfld 10 _ rfl
  rw [List.getElem?_eq_getElem (by omega)] at e10
  obtain ⟨a10, q10, _⟩ := DataW.trod_bool Tryz.underlying4 e10
  simp [c11_bool] at q10
  subst q10
  exact ⟨⟨a0, a1, a2, a3, a4, a5, a6, a7, a8, a9, a10⟩, rfl, w0, w1, w2, w3, w4, w5, w6, w7, w8, w9⟩

theorem open_conns (h : DataW.trod enc Tryz.prog w base spare held fuel 63 cs = some x) : ∃ (a : Option Addr) (len cap : Nat) (xs : List ConnV), cs = [.slice a len cap] ∧ xs.length = len ∧ len ≤ cap ∧ cap ≤ maxLen ∧ (a = none → cap = 0) ∧ Rw CnR 11 w a xs :=
  rows_of CnR 11 Tryz.underlying63 c11_Conn (by omega) (fun _ _ _ h => open_conn h) h

end OpnC
end Go.Proofs.YtlebblmlbhnppaaGreat

namespace Go.Proofs.YtlebblmlbhnppaaGreat
open Go.RowKit Go.PlainAid
set_option linter.unusedVariables false

structure GtV where
  ip : Int
  b : Int
  gt : Int
  gm : ByteArray
  wm : ByteArray
  rs : Int
  ps : List PlaceV
  ros : List RoleV
  us : List UserV
  ss : List SessV
  fs : List FailV
  es : List RecV
  nx : Int
  fl : List FlowV
  co : List ConnV
  nw : Int
  dr : Int
  sn : Int
/-- Where the lists of a gateway lie. -/
structure GtA where
  (x y ua sa fa ra la ca : Option Addr)
  (xc yc uc sc fc rc lc cc : Nat)
def gtC (A : GtA) (g : GtV) : List Value := [.int .i64 g.ip, .int .i64 g.b, .int .i64 g.gt, .string g.gm, .string g.wm, .int .i64 g.rs, .slice A.x g.ps.length A.xc, .slice A.y g.ros.length A.yc, .slice A.ua g.us.length A.uc, .slice A.sa g.ss.length A.sc, .slice A.fa g.fs.length A.fc, .slice A.ra g.es.length A.rc, .int .i64 g.nx, .slice A.la g.fl.length A.lc, .slice A.ca g.co.length A.cc, .int .i64 g.nw, .int .i64 g.dr, .int .i64 g.sn]
structure GtR (w : World) (A : GtA) (g : GtV) : Prop where
  ps : Rw PlR 4 w A.x g.ps
  ros : Rw (RoR 0) 5 w A.y g.ros
  us : Rw UsR 6 w A.ua g.us
  ss : Rw SeR 10 w A.sa g.ss
  fs : Rw FaR 3 w A.fa g.fs
  es : Rw ReR 5 w A.ra g.es
  fl : Rw FlR 9 w A.la g.fl
  co : Rw CnR 11 w A.ca g.co
  kl : g.fl.length ≤ A.lc
  kc : g.co.length ≤ A.cc
theorem GtR.below {w w' : World} {A : GtA} {g : GtV} (h : GtR w A g) (hb : Below w.heap.size w w') : GtR w' A g := ⟨h.ps.keep PlR.kp hb, h.ros.keep (RoR.kp 0) hb, h.us.keep UsR.kp hb, h.ss.keep SeR.kp hb, h.fs.keep FaR.kp hb, h.es.keep ReR.kp hb, h.fl.keep FR.kp hb, h.co.keep FR.kp hb, h.kl, h.kc⟩
structure GtB (A : GtA) (g : GtV) : Prop where
  gm : g.gm.size ≤ maxLen
  wm : g.wm.size ≤ maxLen
  ps : g.ps.length ≤ A.xc ∧ A.xc ≤ maxLen
  ros : g.ros.length ≤ A.yc ∧ A.yc ≤ maxLen
  us : g.us.length ≤ A.uc ∧ A.uc ≤ maxLen
  ss : g.ss.length ≤ A.sc ∧ A.sc ≤ maxLen
  fs : g.fs.length ≤ A.fc ∧ A.fc ≤ maxLen
  es : g.es.length ≤ A.rc ∧ A.rc ≤ maxLen
  fl : g.fl.length ≤ A.lc ∧ A.lc ≤ maxLen
  co : g.co.length ≤ A.cc ∧ A.cc ≤ maxLen
  nx : (Lit.int .i64 g.nx).wf = true
  nw : (Lit.int .i64 g.nw).wf = true
  dr : (Lit.int .i64 g.dr).wf = true
  sn : (Lit.int .i64 g.sn).wf = true
section OpnT
variable {H : Type} {enc : TypeId × Value → H} {w : World} {base : Nat} {spare : Nat → Bool} {held : Bool} {fuel : Nat} {cs : List Value} {x : DataW H × List MemPlace}

theorem gis18 {α : Type} {cs : List α} (h : cs.length = 18) : ∃ c0 c1 c2 c3 c4 c5 c6 c7 c8 c9 c10 c11 c12 c13 c14 c15 c16 c17, cs = [c0, c1, c2, c3, c4, c5, c6, c7, c8, c9, c10, c11, c12, c13, c14, c15, c16, c17] := by
  match cs, h with
  | [c0, c1, c2, c3, c4, c5, c6, c7, c8, c9, c10, c11, c12, c13, c14, c15, c16, c17], _ => exact ⟨c0, c1, c2, c3, c4, c5, c6, c7, c8, c9, c10, c11, c12, c13, c14, c15, c16, c17, rfl⟩

theorem t18_Gateway : Tryz.prog.cellsOf 65 = 18 := by kernel_rfl
theorem t18_Config : Tryz.prog.cellsOf 27 = 8 := by kernel_rfl
theorem t18_Guests : Tryz.prog.cellsOf 33 = 5 := by kernel_rfl
theorem t18_Flows : Tryz.prog.cellsOf 62 = 1 := by kernel_rfl
theorem t18_Conns : Tryz.prog.cellsOf 63 = 1 := by kernel_rfl
theorem t18_int : Tryz.prog.cellsOf 3 = 1 := by kernel_rfl
theorem open_gateway (h : DataW.trod enc Tryz.prog w base spare held fuel 65 cs = some x) : ∃ (A : GtA) (g : GtV), cs = gtC A g ∧ GtR w A g ∧ GtB A g := by
  obtain ⟨xs, m, _, _, hcl, hlen, hfld⟩ := DataW.trod_struct Tryz.underlying65 h
  rw [t18_Gateway] at hcl
  obtain ⟨c0, c1, c2, c3, c4, c5, c6, c7, c8, c9, c10, c11, c12, c13, c14, c15, c16, c17, rfl⟩ := gis18 hcl
  replace hlen : xs.length = 7 := hlen
  have e0 := hfld 0 _ rfl
  rw [List.getElem?_eq_getElem (by omega)] at e0
  obtain ⟨ip, b, gt, gm, wm, rs, x, y, lx, xc, ly, yc, ps, ros, q0, wg, ww, ⟨l1, lc1, cm1, r1⟩, l2, lc2, cm2, r2⟩ := open_config e0
  simp [t18_Config] at q0
  obtain ⟨rfl, rfl, rfl, rfl, rfl, rfl, rfl, rfl⟩ := q0
  have e1 := hfld 1 _ rfl
  rw [List.getElem?_eq_getElem (by omega)] at e1
  obtain ⟨ua, sa, fa, ra, ul, uc, sl, sc, fl, fc, rl, rc, us, ss, fs, es, nx, q1, ⟨l3, lc3, cm3, r3⟩, ⟨l4, lc4, cm4, r4⟩, ⟨l5, lc5, cm5, r5⟩, ⟨l6, lc6, cm6, r6⟩, wnx⟩ := open_guests e1
  simp [t18_Guests] at q1
  obtain ⟨rfl, rfl, rfl, rfl, rfl⟩ := q1
  have e2 := hfld 2 _ rfl
  rw [List.getElem?_eq_getElem (by omega)] at e2
  obtain ⟨la, ll, lc, fl2, q2, l7, lc7, cm7, _, r7⟩ := open_flows e2
  simp [t18_Flows] at q2
  subst q2
  have e3 := hfld 3 _ rfl
  rw [List.getElem?_eq_getElem (by omega)] at e3
  obtain ⟨ca, cl, cc, co, q3, l8, lc8, cm8, _, r8⟩ := open_conns e3
  simp [t18_Conns] at q3
  subst q3
  have e4 := hfld 4 _ rfl
  rw [List.getElem?_eq_getElem (by omega)] at e4
  obtain ⟨nw, q4, _, wnw⟩ := DataW.trod_int Tryz.underlying3 e4
  simp [t18_int] at q4
  subst q4
  have e5 := hfld 5 _ rfl
  rw [List.getElem?_eq_getElem (by omega)] at e5
  obtain ⟨dr, q5, _, wdr⟩ := DataW.trod_int Tryz.underlying3 e5
  simp [t18_int] at q5
  subst q5
  have e6 := hfld 6 _ rfl
  rw [List.getElem?_eq_getElem (by omega)] at e6
  obtain ⟨sn, q6, _, wsn⟩ := DataW.trod_int Tryz.underlying3 e6
  simp [t18_int] at q6
  subst q6
  subst l1 l2 l3 l4 l5 l6 l7 l8
  exact ⟨⟨x, y, ua, sa, fa, ra, la, ca, xc, yc, uc, sc, fc, rc, lc, cc⟩, ⟨ip, b, gt, gm, wm, rs, ps, ros, us, ss, fs, es, nx, fl2, co, nw, dr, sn⟩, rfl, ⟨r1, r2, r3, r4, r5, r6, r7, r8, lc7, lc8⟩, ⟨wg, ww, ⟨lc1, cm1⟩, ⟨lc2, cm2⟩, ⟨lc3, cm3⟩, ⟨lc4, cm4⟩, ⟨lc5, cm5⟩, ⟨lc6, cm6⟩, ⟨lc7, cm7⟩, ⟨lc8, cm8⟩, wnx, wnw, wdr, wsn⟩⟩

end OpnT
end Go.Proofs.YtlebblmlbhnppaaGreat

namespace Go.Proofs.YtlebblmlbhnppaaGreat.Bt
open Go.RowKit
set_option linter.unusedVariables false

theorem ofInt_i64 (a : Nat) (ha : a < 9223372036854775808) : (BitVec.ofInt 64 (a : Int)).toNat = a := by
  rw [BitVec.ofInt_natCast, BitVec.toNat_ofNat]; exact Nat.mod_eq_of_lt (by omega)
theorem and_nat (a b : Nat) (ha : a < 9223372036854775808) (hb : b < 9223372036854775808) : bits .and .i64 (a : Int) (b : Int) = ((a &&& b : Nat) : Int) := by
  have hx : a &&& b < 2 ^ 63 := Nat.and_lt_two_pow _ (by omega)
  show IntKind.i64.wrap ((BitVec.ofInt 64 (a : Int) &&& BitVec.ofInt 64 (b : Int)).toNat : Int) = _
  rw [BitVec.toNat_and, ofInt_i64 a ha, ofInt_i64 b hb, IntKind.wrap_i64]
  omega
theorem or_nat (a b : Nat) (ha : a < 9223372036854775808) (hb : b < 9223372036854775808) : bits .or .i64 (a : Int) (b : Int) = ((a ||| b : Nat) : Int) := by
  have hx : a ||| b < 2 ^ 63 := Nat.or_lt_two_pow (by omega) (by omega)
  show IntKind.i64.wrap ((BitVec.ofInt 64 (a : Int) ||| BitVec.ofInt 64 (b : Int)).toNat : Int) = _
  rw [BitVec.toNat_or, ofInt_i64 a ha, ofInt_i64 b hb, IntKind.wrap_i64]
  omega
theorem xor_nat (a b : Nat) (ha : a < 9223372036854775808) (hb : b < 9223372036854775808) : bits .xor .i64 (a : Int) (b : Int) = ((a ^^^ b : Nat) : Int) := by
  have hx : a ^^^ b < 2 ^ 63 := Nat.xor_lt_two_pow (by omega) (by omega)
  show IntKind.i64.wrap ((BitVec.ofInt 64 (a : Int) ^^^ BitVec.ofInt 64 (b : Int)).toNat : Int) = _
  rw [BitVec.toNat_xor, ofInt_i64 a ha, ofInt_i64 b hb, IntKind.wrap_i64]
  omega
/-- 'n & (2^i - 1)'. -/
theorem mask (i : Nat) (hi : i < 63) (n : Int) (h0 : 0 ≤ n) (h1 : n ≤ 9223372036854775807) : bits BinOp.and IntKind.i64 n ((2 ^ i - 1 : Nat) : Int) = n % ((2 ^ i : Nat) : Int) := by
  obtain ⟨m, rfl⟩ := Int.eq_ofNat_of_zero_le h0
  have hp : 2 ^ i ≤ 2 ^ 62 := Nat.pow_le_pow_right (by omega) (by omega)
  rw [and_nat m (2 ^ i - 1) (by omega) (by omega), Nat.and_two_pow_sub_one_eq_mod]
  omega
theorem mask16 (n : Int) (h0 : 0 ≤ n) (h1 : n ≤ 9223372036854775807) : bits BinOp.and IntKind.i64 n 65535 = n % 65536 := mask 16 (by omega) n h0 h1
theorem mask8 (n : Int) (h0 : 0 ≤ n) (h1 : n ≤ 9223372036854775807) : bits BinOp.and IntKind.i64 n 255 = n % 256 := mask 8 (by omega) n h0 h1
theorem mask4 (n : Int) (h0 : 0 ≤ n) (h1 : n ≤ 9223372036854775807) : bits BinOp.and IntKind.i64 n 15 = n % 16 := mask 4 (by omega) n h0 h1
/-- 'x << 8 | y', y below 256. -/
theorem join8 (x y : Int) (h0 : 0 ≤ x) (h1 : x ≤ 36028797018963967) (h2 : 0 ≤ y) (h3 : y ≤ 255) : bits BinOp.or IntKind.i64 (x * 256) y = x * 256 + y := by
  obtain ⟨a, rfl⟩ := Int.eq_ofNat_of_zero_le h0
  obtain ⟨b, rfl⟩ := Int.eq_ofNat_of_zero_le h2
  have e : ((a : Int) * 256) = ((a * 256 : Nat) : Int) := by omega
  rw [e, or_nat (a * 256) b (by omega) (by omega), nat_join 8 (a * 256) b (by omega) (by omega)]
  omega
theorem join4 (x y : Int) (h0 : 0 ≤ x) (h1 : x ≤ 36028797018963967) (h2 : 0 ≤ y) (h3 : y ≤ 15) : bits BinOp.or IntKind.i64 (x * 16) y = x * 16 + y := by
  obtain ⟨a, rfl⟩ := Int.eq_ofNat_of_zero_le h0
  obtain ⟨b, rfl⟩ := Int.eq_ofNat_of_zero_le h2
  have e : ((a : Int) * 16) = ((a * 16 : Nat) : Int) := by omega
  rw [e, or_nat (a * 16) b (by omega) (by omega), nat_join 4 (a * 16) b (by omega) (by omega)]
  omega
end Go.Proofs.YtlebblmlbhnppaaGreat.Bt

namespace Go.Proofs.YtlebblmlbhnppaaGreat.Bt
open Go.RowKit
set_option linter.unusedVariables false

theorem behind_nat : ∀ b, b < 33 → 4294967295 / 2 ^ b = 2 ^ (32 - b) - 1 := by decide
theorem behind (b : Nat) (h : b ≤ 32) : (4294967295 : Int) / 2 ^ b = ((2 ^ (32 - b) - 1 : Nat) : Int) := by
  rw [← behind_nat b (by omega)]
  simp
theorem keep_hi (a k : Nat) (ha : a < 4294967296) (hk : k ≤ 32) : bits .andNot .i64 (a : Int) ((2 ^ k - 1 : Nat) : Int) = ((a / 2 ^ k * 2 ^ k : Nat) : Int) := by
  have hp : 2 ^ k ≤ 2 ^ 32 := Nat.pow_le_pow_right (by omega) hk
  have hp0 : 0 < 2 ^ k := Nat.two_pow_pos k
  have hle : a / 2 ^ k * 2 ^ k ≤ a := Nat.div_mul_le_self _ _
  have e : a &&& (2 ^ 64 - (2 ^ k - 1 + 1)) = a / 2 ^ k * 2 ^ k := by
    apply Nat.eq_of_testBit_eq
    intro i
    rw [← Nat.shiftRight_eq_div_pow, ← Nat.shiftLeft_eq, Nat.testBit_and, Nat.testBit_two_pow_sub_succ (by omega), Nat.testBit_shiftLeft, Nat.testBit_shiftRight, Nat.testBit_two_pow_sub_one]
    by_cases h1 : i < k
    · simp [h1]; omega
    · have h2 : k + (i - k) = i := by omega
      rw [h2]
      by_cases h3 : i < 64
      · simp [h1, h3]; omega
      · have : a.testBit i = false := Nat.testBit_lt_two_pow (Nat.lt_of_lt_of_le ha (by rw [show (4294967296 : Nat) = 2 ^ 32 from rfl]; exact Nat.pow_le_pow_right (by omega) (by omega)))
        simp [this]
  show IntKind.i64.wrap ((BitVec.ofInt 64 (a : Int) &&& ~~~BitVec.ofInt 64 ((2 ^ k - 1 : Nat) : Int)).toNat : Int) = _
  rw [BitVec.toNat_and, BitVec.toNat_not, ofInt_i64 a (by omega), ofInt_i64 (2 ^ k - 1) (by omega), IntKind.wrap_i64, show 2 ^ 64 - 1 - (2 ^ k - 1) = 2 ^ 64 - (2 ^ k - 1 + 1) by omega, e]
  omega

/-- The size of a net of b bits. -/
def netM (b : Int) : Int := 2 ^ (32 - b.toNat)
theorem netM_pos (b : Int) : 1 ≤ netM b := Int.pow_pos (by omega)
theorem netM_le (b : Int) : netM b ≤ 4294967296 := by
  unfold netM
  have : (2 : Nat) ^ (32 - b.toNat) ≤ 2 ^ 32 := Nat.pow_le_pow_right (by omega) (by omega)
  have e : ((2 ^ (32 - b.toNat) : Nat) : Int) = (2 : Int) ^ (32 - b.toNat) := by simp
  omega
/-- 'ip &^ (MaxAddress >> bits)'. -/
theorem around (ip : Int) (b : Nat) (h0 : 0 ≤ ip) (h1 : ip ≤ 4294967295) (hb : b ≤ 32) : bits .andNot .i64 ip (4294967295 / 2 ^ b) = ip / netM b * netM b := by
  obtain ⟨a, rfl⟩ := Int.eq_ofNat_of_zero_le h0
  rw [behind b hb, keep_hi a (32 - b) (by omega) (by omega)]
  unfold netM
  simp
/-- 'ip & (1<<(32-bits) - 1)'. -/
theorem within (ip : Int) (b : Nat) (h0 : 0 ≤ ip) (h1 : ip ≤ 4294967295) (hb : b ≤ 32) : bits .and .i64 ip (2 ^ (32 - b) - 1) = ip % netM b := by
  have e : ((2 : Int) ^ (32 - b) - 1) = ((2 ^ (32 - b) - 1 : Nat) : Int) := by
    have := Nat.two_pow_pos (32 - b)
    have e : ((2 ^ (32 - b) : Nat) : Int) = (2 : Int) ^ (32 - b) := by simp
    omega
  rw [e, mask (32 - b) (by omega) ip h0 (by omega)]
  unfold netM
  simp
theorem pow_bd (b : Nat) : 1 ≤ (2 : Int) ^ (32 - b) ∧ (2 : Int) ^ (32 - b) ≤ 4294967296 := by
  have h0 := Nat.two_pow_pos (32 - b)
  have h1 : (2 : Nat) ^ (32 - b) ≤ 2 ^ 32 := Nat.pow_le_pow_right (by omega) (by omega)
  have e : ((2 ^ (32 - b) : Nat) : Int) = (2 : Int) ^ (32 - b) := by simp
  omega
theorem pow_wrap (b : Nat) : wrap64 (2 ^ (32 - b)) = 2 ^ (32 - b) := by
  have := pow_bd b
  generalize (2 : Int) ^ (32 - b) = m at *
  unfold wrap64; omega
theorem pow_wrap1 (b : Nat) : wrap64 (2 ^ (32 - b) - 1) = 2 ^ (32 - b) - 1 := by
  have := pow_bd b
  generalize (2 : Int) ^ (32 - b) = m at *
  unfold wrap64; omega
theorem mul_same (a m : Int) (hm : 1 ≤ m) : (a = a / m * m) ↔ a % m = 0 := by
  have := Int.mul_ediv_add_emod a m
  rw [Int.mul_comm] at this
  omega
theorem mul_has (a x m : Int) (hm : 1 ≤ m) (h : a % m = 0) : (a = x / m * m) ↔ a / m = x / m := by
  have h2 := Int.mul_ediv_add_emod a m
  rw [Int.mul_comm] at h2
  constructor
  · intro e
    have h3 : a / m * m = x / m * m := by omega
    exact Int.eq_of_mul_eq_mul_right (by omega) h3
  · intro e
    rw [← e]; omega
end Go.Proofs.YtlebblmlbhnppaaGreat.Bt

namespace Go.Proofs.YtlebblmlbhnppaaGreat
open Go.RowKit Go.PlainAid
set_option linter.unusedVariables false

theorem hasRoom_y (n : Int) (m : Nat) (w : World) (h1 : 1 ≤ m) (h6 : m ≤ 6) (hn : 0 ≤ n) (hr : n < 2 ^ (8 * m)) (hx : n ≤ 9223372036854775807) :
    Calls Tryz.prog 225 #[.int .i64 n, .int .i64 m] w fun e w' => e = .returned (.bool true) ∧ w' = w := by
  have b3 : decide (0 ≤ n) = true := by simp; omega
  have b4 : (n / 2 ^ (8 * m) == 0) = true := by simp; exact Int.ediv_eq_zero_of_lt hn hr
  clear hr
  go_enter Tryz.func225, Tryz.ntmps225
  go_wp2
  go_ret
  exact ⟨rfl, rfl⟩
theorem hasRoom_n (n : Int) (m : Nat) (w : World) (h1 : 1 ≤ m) (h6 : m ≤ 6) (h : n < 0 ∨ 2 ^ (8 * m) ≤ n) (hx : n ≤ 9223372036854775807) :
    Calls Tryz.prog 225 #[.int .i64 n, .int .i64 m] w fun e w' => e = .returned (.bool false) ∧ w' = w := by
  by_cases h0 : n < 0
  · have b3 : decide (0 ≤ n) = false := by simp; omega
    clear h
    go_enter Tryz.func225, Tryz.ntmps225
    go_wp2
    go_ret
    exact ⟨rfl, rfl⟩
  · have b3 : decide (0 ≤ n) = true := by simp; omega
    have hp : (0 : Int) < 2 ^ (8 * m) := Int.pow_pos (by omega)
    have hq : 1 ≤ n / 2 ^ (8 * m) := by rw [Int.le_ediv_iff_mul_le hp]; omega
    have b4 : (n / 2 ^ (8 * m) == 0) = false := by rw [beq_eq_false_iff_ne]; omega
    clear h hp hq
    go_enter Tryz.func225, Tryz.ntmps225
    go_wp2
    go_ret
    exact ⟨rfl, rfl⟩

theorem addressOK_y (n : Int) (w : World) (h0 : 0 ≤ n) (h1 : n ≤ 4294967295) :
    Calls Tryz.prog 170 #[.int .i64 n] w fun e w' => e = .returned (.bool true) ∧ w' = w := by
  go_enter Tryz.func170, Tryz.ntmps170
  go_wp2
  go_ret
  exact ⟨congrArg (fun b => Ending.returned (.bool b)) (by simp), rfl⟩
theorem addressOK_n (n : Int) (w : World) (h : ¬ (0 ≤ n ∧ n ≤ 4294967295)) :
    Calls Tryz.prog 170 #[.int .i64 n] w fun e w' => e = .returned (.bool false) ∧ w' = w := by
  by_cases h0 : 0 ≤ n
  · have h2 : ¬ n ≤ 4294967295 := fun hh => h ⟨h0, hh⟩
    clear h
    go_enter Tryz.func170, Tryz.ntmps170
    go_wp2
    go_ret
    exact ⟨congrArg (fun b => Ending.returned (.bool b)) (by simp), rfl⟩
  · clear h
    have b : decide (0 ≤ n) = false := by simp; omega
    go_enter Tryz.func170, Tryz.ntmps170
    go_wp2
    go_ret
    exact ⟨rfl, rfl⟩
end Go.Proofs.YtlebblmlbhnppaaGreat

namespace Go.Proofs.YtlebblmlbhnppaaGreat.Pl
open Go.RowKit Go.PlainAid
set_option linter.unusedVariables false

/-- The sum of the first k words' halves: an even place counts 256 times. -/
def wsum (f : Nat → Int) : Nat → Int
  | 0 => 0
  | k + 1 => wsum f k + (if k % 2 = 0 then 256 * f k else f k)

/-- What folding comes to. -/
def foldc (n : Int) : Int := if n = 0 then 0 else (n - 1) % 65535 + 1

theorem wsum_bd (f : Nat → Int) (h : ∀ k, 0 ≤ f k ∧ f k ≤ 255) : ∀ k : Nat, 0 ≤ wsum f k ∧ wsum f k ≤ 65280 * k
  | 0 => by simp [wsum]
  | k + 1 => by
    have := wsum_bd f h k
    have := h k
    unfold wsum
    split <;> omega

theorem wsum_even (f : Nat → Int) (k : Nat) (h : k % 2 = 0) : wsum f (k + 1) = wsum f k + 256 * f k := by
  rw [wsum, if_pos h]
theorem wsum_odd (f : Nat → Int) (k : Nat) (h : k % 2 = 1) : wsum f (k + 1) = wsum f k + f k := by
  rw [wsum, if_neg (by omega)]
theorem wsum_congr (f g : Nat → Int) : ∀ k : Nat, (∀ j, j < k → f j = g j) → wsum f k = wsum g k
  | 0, _ => rfl
  | k + 1, h => by
    rw [wsum, wsum, wsum_congr f g k (fun j hj => h j (by omega)), h k (by omega)]

theorem foldc_small (n : Int) (h0 : 0 ≤ n) (h : n ≤ 65535) : foldc n = n := by unfold foldc; split <;> omega
theorem foldc_step (n : Int) (h : 65535 < n) : foldc (n % 65536 + n / 65536) = foldc n := by unfold foldc; split <;> split <;> omega
theorem step_lt (n : Int) (h : 65535 < n) : 0 ≤ n % 65536 + n / 65536 ∧ n % 65536 + n / 65536 < n := by omega
theorem foldc_bd (n : Int) (h : 0 ≤ n) : 0 ≤ foldc n ∧ foldc n ≤ 65535 := by unfold foldc; split <;> omega

/-- The sum of a row of bytes. -/
def chk (f : Nat → Int) (n : Nat) : Int := 65535 - foldc (wsum f n)
theorem chk_bd (f : Nat → Int) (n : Nat) (h : ∀ k, 0 ≤ f k ∧ f k ≤ 255) : 0 ≤ chk f n ∧ chk f n ≤ 65535 := by
  have := foldc_bd (wsum f n) (wsum_bd f h n).1
  unfold chk; omega
theorem chk_congr (f g : Nat → Int) (n : Nat) (h : ∀ j, j < n → f j = g j) : chk f n = chk g n := by
  unfold chk; rw [wsum_congr f g n h]
end Go.Proofs.YtlebblmlbhnppaaGreat.Pl

namespace Go.Proofs.YtlebblmlbhnppaaGreat
open Go.RowKit Go.PlainAid Go.Proofs.YtlebblmlbhnppaaGreat.Pl
set_option linter.unusedVariables false

/-- A slice of bytes: its numbers are 'f 0', 'f 1' .. -/
def Bytes (w : World) (a : Option Addr) (len : Nat) (f : Nat → Int) : Prop :=
  (∀ k, 0 ≤ f k ∧ f k ≤ 255) ∧ (0 < len → ∃ b off, a = some ⟨b, off, none⟩ ∧ ∀ i, i < len → w.cell? ⟨b, off + i, none⟩ = some (.int .u8 (f i)))

/-- The same row as a string. -/
def strOf (f : Nat → Int) (n : Nat) : ByteArray := strOfNums ((List.range n).map f)

theorem strOf_size (f : Nat → Int) (n : Nat) : (strOf f n).size = n := by simp [strOf, strOfNums_size]
theorem strOf_bt (f : Nat → Int) (n : Nat) (h : ∀ k, 0 ≤ f k ∧ f k ≤ 255) (k : Nat) (hk : k < n) : bt (strOf f n) k = f k := by
  have hz := strOf_size f n
  unfold bt
  rw [dif_pos (by omega)]
  have e : (strOf f n)[k]'(by omega) = UInt8.ofNat (f k).toNat := by
    simp [strOf, strOfNums, ByteArray.getElem_eq_getElem_data]
  rw [e]
  have := h k
  simp
  omega

theorem conv_row {P : Program} (w : World) (src dst e : TypeId) (hs : P.underlying src = some (.slice e)) (he : P.underlying e = some (.int .u8)) (hd : P.underlying dst = some .string)
    (a : Option Addr) (len cap : Nat) (f : Nat → Int) (h : Bytes w a len f) :
    (convert src dst (.slice a len cap)).run P w = .ok (.string (strOf f len)) w := by
  rcases Nat.eq_zero_or_pos len with h0 | h0
  · subst h0
    have e0 : strOf f 0 = ByteArray.empty := by simp [strOf, strOfNums, ByteArray.empty, ByteArray.emptyWithCapacity]; rfl
    rw [e0]
    cases a with
    | none => exact run_convert_bytes_nil w src e hs he 0 cap dst hd
    | some x =>
      rw [run_convert_bytes_string w src dst e _ 0 cap hs he hd]
      exact run_bytesToString w x 0 cap [] (by simpa using run_loadCells_list (P := P) w x [] (fun j v hj => by simp at hj))
  · obtain ⟨b, off, rfl, hc⟩ := h.2 h0
    exact run_convert_bytes_arg w src e hs he b off len cap ((List.range len).map f) (by simp) (fun i hi => by rw [hc i hi]; simp [hi]) dst hd

theorem Bytes.below {B : Nat} {w w' : World} {a : Option Addr} {len : Nat} {f : Nat → Int} (h : Bytes w a len f) (hb : Below B w w') (hlt : ∀ b off, 0 < len → a = some ⟨b, off, none⟩ → b < B) : Bytes w' a len f := by
  refine ⟨h.1, fun h0 => ?_⟩
  obtain ⟨b, off, rfl, hc⟩ := h.2 h0
  exact ⟨b, off, rfl, fun i hi => by rw [hb.cell (p := ⟨b, off + i, none⟩) (hlt b off h0 rfl)]; exact hc i hi⟩
end Go.Proofs.YtlebblmlbhnppaaGreat

namespace Go.Proofs.YtlebblmlbhnppaaGreat
open Go.RowKit Go.PlainAid
set_option linter.unusedVariables false

/-- Behind w a new block of len cells was made; the first k of them are 'f 0' .. -/
def Fill (w wr : World) (len k : Nat) (f : Nat → Int) : Prop :=
  Below w.heap.size w wr ∧ w.heap.size < wr.heap.size ∧ (∀ i, wr.frozen? ⟨w.heap.size, i, none⟩ = false) ∧ (∀ i, i < len → ∃ v, wr.cell? ⟨w.heap.size, i, none⟩ = some v) ∧ ∀ i, i < k → wr.cell? ⟨w.heap.size, i, none⟩ = some (.int .u8 (f i))

theorem fill_start (w : World) (len : Nat) (f : Nat → Int) (e : TypeId) : Fill w (w.alloc (.cells (madeCells #[.int .u8 0] len) e)) len 0 f := by
  refine ⟨(Below.refl _ _).alloc (Nat.le_refl _) _, by simp, fun i => by simp, fun i hi => ?_, fun i hi => absurd hi (by omega)⟩
  rw [World.cell?_alloc_new]
  exact ⟨_, by simp [madeCells, hi]; rfl⟩

theorem fill_step {w wr : World} {len k : Nat} {f : Nat → Int} (h : Fill w wr len k f) (hk : k < len) : Fill w (wr.setCell ⟨w.heap.size, k, none⟩ (.int .u8 (f k))) len (k + 1) f := by
  obtain ⟨hb, hz, hf, hs, hc⟩ := h
  refine ⟨hb.setCell (Nat.le_refl _) _, by simpa using hz, fun i => by simpa using hf i, fun i hi => cell?_setCell_some (hs i hi).choose_spec, fun i hi => ?_⟩
  by_cases e : i = k
  · subst e
    exact World.cell?_setCell_same _ _ _ (hs i hk).choose_spec
  · rw [World.cell?_setCell_other _ _ _ _ (fun hh => e (Addr.mk.inj hh).2.1.symm)]
    exact hc i (by omega)

theorem Fill.bytes {w wr : World} {len : Nat} {f : Nat → Int} (h : Fill w wr len len f) (hf : ∀ k, 0 ≤ f k ∧ f k ≤ 255) : Bytes wr (some ⟨w.heap.size, 0, none⟩) len f :=
  ⟨hf, fun _ => ⟨w.heap.size, 0, rfl, fun i hi => by rw [Nat.zero_add]; exact h.2.2.2.2 i hi⟩⟩
end Go.Proofs.YtlebblmlbhnppaaGreat

namespace Go.Proofs.YtlebblmlbhnppaaGreat
open Go.RowKit Go.PlainAid
set_option linter.unusedVariables false
set_option maxRecDepth 20000

theorem Tryz.infoByte : (Tryz.prog.info? 5).map (fun i => (i.zero, i.size, i.bytes)) = some (some (.int .u8 0), 1, 1) := by kernel_rfl

set_option maxHeartbeats 400000 in
theorem toByteS_any (a : Option Addr) (len cap : Nat) (f : Nat → Int) (w : World) (h : Bytes w a len f) (hlen : len ≤ 1048576) (hlt : ∀ b off, 0 < len → a = some ⟨b, off, none⟩ → b < w.heap.size) :
    Calls Tryz.prog 28 #[.slice a len cap] w fun e w' => e = .returned (.slice (some ⟨w.heap.size, 0, none⟩) len len) ∧ Fill w w' len len f := by
  have hmk := Go.run_make_row' (P := Tryz.prog) 72 5 (.int .u8 0) 1 Tryz.underlying72 Tryz.infoByte rfl .i64 .i64 len (by omega) (by omega)
  have hst := fill_start w len f 5
  go_enter Tryz.func28, Tryz.ntmps28
  go_wp2
  go_loopw [4] (fun i wr => ∃ k : Nat, k ≤ len ∧ i = .int .i64 k ∧ Fill w wr len k f) (fun i _ => len - (intOf i).toNat)
  case atStart => exact ⟨0, Nat.zero_le _, rfl, hst⟩
  case round =>
    obtain ⟨k, hk, rfl, hfill⟩ := hrel
    have hfill' : Hid (Fill w wr len k f) := hfill
    by_cases hlt2 : k < len
    · obtain ⟨b, off, rfl, hc⟩ := h.2 (by omega)
      have hbl := hlt b off (by omega) rfl
      have hck : wr.cell? ⟨b, off + k, none⟩ = some (.int .u8 (f k)) := (hfill.1.cell (by exact hbl)).trans (hc k hlt2)
      have hfz := hfill.2.2.1 k
      obtain ⟨v, hv⟩ := hfill.2.2.2.1 k hlt2
      clear hc hfill hst hmk
      go_wp2
      go_roundw
      case rel => exact ⟨k + 1, by omega, by go_num, fill_step hfill'.out hlt2⟩
      case measure => simp [intOf]; omega
    · obtain rfl : k = len := by omega
      clear hst hmk hfill
      go_wp2
      go_ret
      exact ⟨rfl, hfill'.out⟩

set_option maxHeartbeats 400000 in
theorem eqByteS_yes (a a' : Option Addr) (len cap cap' : Nat) (f : Nat → Int) (w : World) (h : Bytes w a len f) (h' : Bytes w a' len f) (hlen : len ≤ 1048576) :
    Calls Tryz.prog 31 #[.slice a len cap, .slice a' len cap'] w fun e w' => e = .returned (.bool true) ∧ Below w.heap.size w w' := by
  have hne : ((len : Int) != (len : Int)) = false := by simp
  go_enter Tryz.func31, Tryz.ntmps31
  go_wp2
  go_loopw [5] (fun i wr => ∃ k : Nat, k ≤ len ∧ i = .int .i64 k ∧ ∃ n, wr = w.drewN n) (fun i _ => len - (intOf i).toNat)
  case atStart => exact ⟨0, Nat.zero_le _, rfl, 0, rfl⟩
  case round =>
    obtain ⟨k, hk, rfl, n, rfl⟩ := hrel
    by_cases hlt2 : k < len
    · obtain ⟨b, off, rfl, hc⟩ := h.2 (by omega)
      obtain ⟨b', off', rfl, hc'⟩ := h'.2 (by omega)
      have hck := hc k hlt2
      have hck' := hc' k hlt2
      have hff : ((f k) != (f k)) = false := by simp
      clear hc hc'
      go_wp2
      go_quiet (fail)
      go_wp2
      go_roundw
      case rel => exact ⟨k + 1, by omega, by go_num, _, rfl⟩
      case measure => simp [intOf]; omega
    · obtain rfl : k = len := by omega
      go_wp2
      go_ret
      exact ⟨rfl, ⟨rfl, rfl, rfl, Nat.le_refl _, fun _ _ => rfl⟩⟩
end Go.Proofs.YtlebblmlbhnppaaGreat

namespace Go.Proofs.YtlebblmlbhnppaaGreat
open Go.RowKit Go.PlainAid
set_option linter.unusedVariables false
set_option maxRecDepth 20000

/-- The number of the first k bytes. -/
def numOf (f : Nat → Int) : Nat → Int
  | 0 => 0
  | k + 1 => numOf f k * 256 + f k

theorem numOf_bd (f : Nat → Int) (h : ∀ k, 0 ≤ f k ∧ f k ≤ 255) : ∀ k : Nat, 0 ≤ numOf f k ∧ numOf f k ≤ 256 ^ k - 1
  | 0 => by simp [numOf]
  | k + 1 => by
    have := numOf_bd f h k
    have := h k
    have e : (256 : Int) ^ (k + 1) = 256 ^ k * 256 := Int.pow_succ ..
    rw [e]
    unfold numOf
    omega
theorem numOf_le5 (f : Nat → Int) (h : ∀ k, 0 ≤ f k ∧ f k ≤ 255) (k : Nat) (hk : k ≤ 5) : 0 ≤ numOf f k ∧ numOf f k ≤ 1099511627775 := by
  have := numOf_bd f h k
  match k, hk with
  | 0, _ | 1, _ | 2, _ | 3, _ | 4, _ | 5, _ => simp at this; omega
theorem numOf_congr (f g : Nat → Int) : ∀ k : Nat, (∀ j, j < k → f j = g j) → numOf f k = numOf g k
  | 0, _ => rfl
  | k + 1, h => by rw [numOf, numOf, numOf_congr f g k (fun j hj => h j (by omega)), h k (by omega)]

theorem l01In_any (n lo hi : Int) (w : World) : Calls Tryz.prog 76 #[.int .i64 n, .int .i64 lo, .int .i64 hi] w fun e w' => e = .returned (.bool (decide (lo ≤ n ∧ n ≤ hi))) ∧ w' = w := by
  by_cases h1 : lo ≤ n
  · by_cases h2 : n ≤ hi
    · go_enter Tryz.func76, Tryz.ntmps76
      go_wp2
      go_ret
      exact ⟨congrArg (fun b => Ending.returned (.bool b)) (by simp [h1, h2]), rfl⟩
    · go_enter Tryz.func76, Tryz.ntmps76
      go_wp2
      go_ret
      exact ⟨congrArg (fun b => Ending.returned (.bool b)) (by simp [h2]), rfl⟩
  · have h1' : decide (lo ≤ n) = false := by simp; omega
    go_enter Tryz.func76, Tryz.ntmps76
    go_wp2
    go_ret
    exact ⟨congrArg (fun b => Ending.returned (.bool b)) (by simp), rfl⟩

theorem l01In_no (n lo hi : Int) (w : World) (h : n < lo ∨ hi < n) : Calls Tryz.prog 76 #[.int .i64 n, .int .i64 lo, .int .i64 hi] w fun e w' => e = .returned (.bool false) ∧ w' = w :=
  (l01In_any n lo hi w).mono fun e w' hh => ⟨by rw [hh.1, decide_eq_false (by omega)], hh.2⟩
theorem l01In_yes (n lo hi : Int) (w : World) (h : lo ≤ n) (h' : n ≤ hi) : Calls Tryz.prog 76 #[.int .i64 n, .int .i64 lo, .int .i64 hi] w fun e w' => e = .returned (.bool true) ∧ w' = w :=
  (l01In_any n lo hi w).mono fun e w' hh => ⟨by rw [hh.1, decide_eq_true ⟨h, h'⟩], hh.2⟩

set_option maxHeartbeats 400000 in
theorem l01Of_any (s : ByteArray) (w : World) (hs : s.size ≤ 6) :
    Calls Tryz.prog 161 #[.string s] w fun e w' => e = .returned (.int .i64 (numOf (bt s) s.size)) ∧ w' = w := by
  have hb := get_bt s
  go_enter Tryz.func161, Tryz.ntmps161
  go_wp2
  go_loop [3, 4] (fun n i => ∃ k : Nat, k ≤ s.size ∧ i = .int .i64 k ∧ n = .int .i64 (numOf (bt s) k)) (fun _ i => s.size - (intOf i).toNat)
  case atStart => exact ⟨0, Nat.zero_le _, rfl, rfl⟩
  case round =>
    obtain ⟨k, hk, rfl, rfl⟩ := hrel
    have h0 := bt_nonneg s k
    have h1 := bt_le s k
    by_cases hlt : k < s.size
    · have hbd := numOf_le5 (bt s) (fun k => ⟨bt_nonneg s k, bt_le s k⟩) k (by omega)
      go_wp2
      go_round
      case rel => exact ⟨k + 1, by omega, by go_num, rfl⟩
      case measure => simp [intOf]; omega
    · obtain rfl : k = s.size := by omega
      go_wp2
      go_ret
      exact ⟨rfl, rfl⟩

set_option maxHeartbeats 400000 in
theorem numberOf_yes (a : Option Addr) (len cap : Nat) (f : Nat → Int) (w : World) (h : Bytes w a len f) (h1 : 1 ≤ len) (h6 : len ≤ 6) :
    Calls Tryz.prog 242 #[.slice a len cap] w fun e w' => e = .returned (.tuple #[.int .i64 (numOf f len), .int .i64 0]) ∧ w' = w := by
  have b1 : decide ((len : Int) < 1) = false := by simp; omega
  have b2 : decide (6 < (len : Int)) = false := by simp; omega
  go_enter Tryz.func242, Tryz.ntmps242
  go_wp2
  go_loop [4, 19] (fun n i => ∃ k : Nat, k ≤ len ∧ i = .int .i64 k ∧ n = .int .i64 (numOf f k)) (fun _ i => len - (intOf i).toNat)
  case atStart => exact ⟨0, Nat.zero_le _, rfl, rfl⟩
  case round =>
    obtain ⟨k, hk, rfl, rfl⟩ := hrel
    have h0 := (h.1 k).1
    have hx := (h.1 k).2
    by_cases hlt : k < len
    · have hbd := numOf_le5 f h.1 k (by omega)
      obtain ⟨b, off, rfl, hc⟩ := h.2 (by omega)
      have hck := hc k hlt
      have hj := Bt.join8 (numOf f k) (f k) hbd.1 (by omega) h0 hx
      clear hc
      go_wp2
      go_round
      case rel => exact ⟨k + 1, by omega, by go_num, rfl⟩
      case measure => simp [intOf]; omega
    · obtain rfl : k = len := by omega
      go_wp2
      go_ret2
      exact ⟨rfl, rfl⟩

theorem numberOf_no (a : Option Addr) (len cap : Nat) (w : World) (h1 : len < 1 ∨ 6 < len) (hl : len ≤ 65536) :
    Calls Tryz.prog 242 #[.slice a len cap] w fun e w' => e = .returned (.tuple #[.int .i64 0, .int .i64 4]) ∧ w' = w := by
  by_cases h0 : len < 1
  · have b1 : decide ((len : Int) < 1) = true := by simp; omega
    go_enter Tryz.func242, Tryz.ntmps242
    go_wp2
    go_ret2
    exact ⟨rfl, rfl⟩
  · have b1 : decide ((len : Int) < 1) = false := by simp; omega
    have b2 : decide (6 < (len : Int)) = true := by simp; omega
    go_enter Tryz.func242, Tryz.ntmps242
    go_wp2
    go_ret2
    exact ⟨rfl, rfl⟩

theorem numberOf_long (a : Option Addr) (len cap : Nat) (w : World) (hl : 65536 < len) :
    Calls Tryz.prog 242 #[.slice a len cap] w fun e w' => e = .returned (.tuple #[.int .i64 0, .int .i64 2]) ∧ w' = w := by
  go_enter Tryz.func242, Tryz.ntmps242
  go_wp2
  go_ret2
  exact ⟨rfl, rfl⟩
end Go.Proofs.YtlebblmlbhnppaaGreat

namespace Go.Proofs.YtlebblmlbhnppaaGreat
open Go.RowKit Go.PlainAid
set_option linter.unusedVariables false
set_option maxRecDepth 20000

/-- Whether it holds: a name that no rule looks into. -/
def dec (p : Prop) [Decidable p] : Bool := decide p
theorem dec_y {p : Prop} [Decidable p] (h : p) : dec p = true := decide_eq_true h
theorem dec_n {p : Prop} [Decidable p] (h : ¬ p) : dec p = false := decide_eq_false h

theorem hasRoom_any (n : Int) (m : Nat) (M : Int) (w : World) (h1 : 1 ≤ m) (h6 : m ≤ 6) (hM : (2 : Int) ^ (8 * m) = M + 1) (hx : n ≤ 9223372036854775807) :
    Calls Tryz.prog 225 #[.int .i64 n, .int .i64 m] w fun e w' => e = .returned (.bool (dec (0 ≤ n ∧ n ≤ M))) ∧ w' = w := by
  by_cases h : 0 ≤ n ∧ n ≤ M
  · exact (hasRoom_y n m w h1 h6 h.1 (by rw [hM]; omega) hx).mono fun e w' hh => ⟨by rw [dec_y h]; exact hh.1, hh.2⟩
  · exact (hasRoom_n n m w h1 h6 (by rw [hM]; omega) hx).mono fun e w' hh => ⟨by rw [dec_n h]; exact hh.1, hh.2⟩
theorem hasRoom1 (n : Int) (w : World) (hx : n ≤ 9223372036854775807) : Calls Tryz.prog 225 #[.int .i64 n, .int .i64 1] w fun e w' => e = .returned (.bool (dec (0 ≤ n ∧ n ≤ 255))) ∧ w' = w :=
  hasRoom_any n 1 255 w (by omega) (by omega) rfl hx
theorem hasRoom2 (n : Int) (w : World) (hx : n ≤ 9223372036854775807) : Calls Tryz.prog 225 #[.int .i64 n, .int .i64 2] w fun e w' => e = .returned (.bool (dec (0 ≤ n ∧ n ≤ 65535))) ∧ w' = w :=
  hasRoom_any n 2 65535 w (by omega) (by omega) rfl hx
theorem hasRoom4 (n : Int) (w : World) (hx : n ≤ 9223372036854775807) : Calls Tryz.prog 225 #[.int .i64 n, .int .i64 4] w fun e w' => e = .returned (.bool (dec (0 ≤ n ∧ n ≤ 4294967295))) ∧ w' = w :=
  hasRoom_any n 4 4294967295 w (by omega) (by omega) rfl hx
theorem addressOK_any (n : Int) (w : World) : Calls Tryz.prog 170 #[.int .i64 n] w fun e w' => e = .returned (.bool (dec (0 ≤ n ∧ n ≤ 4294967295))) ∧ w' = w := by
  by_cases h : 0 ≤ n ∧ n ≤ 4294967295
  · exact (addressOK_y n w h.1 h.2).mono fun e w' hh => ⟨by rw [dec_y h]; exact hh.1, hh.2⟩
  · exact (addressOK_n n w h).mono fun e w' hh => ⟨by rw [dec_n h]; exact hh.1, hh.2⟩
theorem portOK_any (n : Int) (w : World) (hx : n ≤ 9223372036854775807) : Calls Tryz.prog 171 #[.int .i64 n] w fun e w' => e = .returned (.bool (dec (0 ≤ n ∧ n ≤ 65535))) ∧ w' = w := by
  go_enter Tryz.func171, Tryz.ntmps171
  go_wp2_with fail
  refine (hasRoom2 _ _ hx).mono ?_
  rintro e w1 ⟨rfl, hw1⟩
  obtain rfl := hw1.symm
  clear hw1
  go_wp2
  go_ret
  exact ⟨rfl, rfl⟩
theorem specIn_any (n lo hi : Int) (w : World) : Calls Tryz.prog 76 #[.int .i64 n, .int .i64 lo, .int .i64 hi] w fun e w' => e = .returned (.bool (dec (lo ≤ n ∧ n ≤ hi))) ∧ w' = w := l01In_any n lo hi w
theorem specIp_any (n : Int) (w : World) : Calls Tryz.prog 77 #[.int .i64 n] w fun e w' => e = .returned (.bool (dec (0 ≤ n ∧ n ≤ 4294967295))) ∧ w' = w := by
  go_enter Tryz.func77, Tryz.ntmps77
  go_wp2_with fail
  refine (specIn_any _ _ _ _).mono ?_
  rintro e w1 ⟨rfl, hw1⟩
  obtain rfl := hw1.symm
  clear hw1
  go_wp2
  go_ret
  exact ⟨rfl, rfl⟩
theorem specPort_any (n : Int) (w : World) : Calls Tryz.prog 199 #[.int .i64 n] w fun e w' => e = .returned (.bool (dec (0 ≤ n ∧ n ≤ 65535))) ∧ w' = w := by
  go_enter Tryz.func199, Tryz.ntmps199
  go_wp2_with fail
  refine (specIn_any _ _ _ _).mono ?_
  rintro e w1 ⟨rfl, hw1⟩
  obtain rfl := hw1.symm
  clear hw1
  go_wp2
  go_ret
  exact ⟨rfl, rfl⟩
end Go.Proofs.YtlebblmlbhnppaaGreat

namespace Go.Proofs.YtlebblmlbhnppaaGreat
open Go.RowKit Go.PlainAid
set_option linter.unusedVariables false

/-- The slice value v owns the bytes L, in a block from B on. -/
def OwnL (e : TypeId) (w : World) (B : Nat) (v : Value) (L : List Int) : Prop := w.ownsRow B e 1 v L.length (L.map (Value.int .u8))

theorem OwnL.snoc {e : TypeId} {w : World} {B : Nat} {v : Value} {L : List Int} {x : Int} (h : w.ownsRow B e 1 v (L.length + 1) (L.map (Value.int .u8) ++ [.int .u8 x])) : OwnL e w B v (L ++ [x]) := by
  unfold OwnL; simpa using h
theorem OwnL.more {e : TypeId} {w : World} {B : Nat} {v : Value} {L M : List Int} (h : w.ownsRow B e 1 v (L.length + M.length) (L.map (Value.int .u8) ++ M.map (.int .u8))) : OwnL e w B v (L ++ M) := by
  unfold OwnL; simpa using h

theorem OwnL.slice {e : TypeId} {w : World} {B : Nat} {v : Value} {L : List Int} (h : OwnL e w B v L) (hL : ∀ x ∈ L, 0 ≤ x ∧ x ≤ 255) :
    ∃ a cap, v = .slice a L.length cap ∧ Bytes w a L.length (fun j => L.getD j 0) ∧ ∀ b off, a = some ⟨b, off, none⟩ → B ≤ b := by
  have hf : ∀ k, 0 ≤ L.getD k 0 ∧ L.getD k 0 ≤ 255 := by
    intro k
    by_cases hk : k < L.length
    · rw [List.getD_eq_getElem?_getD, List.getElem?_eq_getElem hk]; exact hL _ (List.getElem_mem hk)
    · rw [List.getD_eq_getElem?_getD, List.getElem?_eq_none (by omega)]; simp
  rcases h.2 with ⟨h1, h2⟩ | ⟨g, cap, cur, h1, hB, hg, hle, hm, hs, ht⟩
  · have e0 : L = [] := by simpa using h2
    subst e0
    exact ⟨none, 0, by simpa using h1, ⟨hf, fun h0 => absurd h0 (by simp)⟩, fun b off h => by cases h⟩
  · refine ⟨some ⟨g, 0, none⟩, cap, by simpa using h1, ⟨hf, fun h0 => ⟨g, 0, rfl, fun i hi => ?_⟩⟩, fun b off h => by cases h; exact hB⟩
    have hc := World.ownsRow.cells h (g := g) (by rw [h1]; rfl) i (.int .u8 (L.getD i 0)) (by simp [hi])
    have ea : (⟨g, 0, none⟩ : Addr).add i = ⟨g, 0 + i, none⟩ := by unfold Addr.add; split <;> simp_all
    rw [ea] at hc
    exact hc

theorem strOf_list (L : List Int) : strOf (fun j => L.getD j 0) L.length = strOfNums L := by
  unfold strOf
  congr 1
  apply List.ext_getElem?
  intro i
  by_cases hi : i < L.length
  · simp [hi]
  · simp [hi]

/-- 'string(out)'. -/
theorem conv_own {P : Program} (w : World) (src dst e : TypeId) (hs : P.underlying src = some (.slice e)) (he : P.underlying e = some (.int .u8)) (hd : P.underlying dst = some .string)
    (a : Option Addr) (cap : Nat) (L : List Int) (h : Bytes w a L.length (fun j => L.getD j 0)) :
    (convert src dst (.slice a L.length cap)).run P w = .ok (.string (strOfNums L)) w := by
  rw [conv_row w src dst e hs he hd a L.length cap _ h, strOf_list]

/-- '[]byte(s)': the bytes in new memory. -/
theorem conv_bytes {P : Program} (w : World) (src dst e : TypeId) (s : ByteArray) (hs : P.underlying src = some .string) (hd : P.underlying dst = some (.slice e)) (he : P.underlying e = some (.int .u8)) :
    ∃ cap w', (convert src dst (.string s)).run P w = .ok (.slice (some ⟨w.heap.size, 0, none⟩) s.size cap) w' ∧ Below w.heap.size w w' ∧ w'.heap.size = w.heap.size + 1 ∧
      (∀ i, i < s.size → w'.frozen? ⟨w.heap.size, i, none⟩ = false) ∧ ∀ i, i < s.size → w'.cell? ⟨w.heap.size, i, none⟩ = some (.int .u8 (bt s i)) := by
  refine ⟨_, _, Go.Lib.run_convert_string_bytes w src dst e s hs hd he, ⟨rfl, rfl, rfl, ?_, ?_⟩, Go.Lib.bytesWorld_size w e s, ?_, ?_⟩
  · rw [Go.Lib.bytesWorld_size]; omega
  · intro k hk; exact Go.Lib.bytesWorld_at_old w e s k hk
  · intro i hi
    have hb := Go.Lib.bytesWorld_at_new w e s
    have hz : s.size ≤ (Go.Lib.bytesCells w e s).size := by simp [Go.Lib.bytesCells]
    simp [World.frozen?, hb]
    omega
  · intro i hi
    rw [Go.Lib.bytesWorld_cell w e s i hi]
    have : (s.data.toList.getD i 0) = s[i] := by
      have hi' : i < s.data.size := hi
      rw [List.getD_eq_getElem?_getD, List.getElem?_eq_getElem (by simpa using hi')]; rfl
    rw [this, get_bt s i hi]
end Go.Proofs.YtlebblmlbhnppaaGreat

namespace Go.Proofs.YtlebblmlbhnppaaGreat
open Go.RowKit Go.PlainAid Go.Proofs.YtlebblmlbhnppaaGreat.Pl
set_option linter.unusedVariables false

/-- A string's bytes. -/
def nums (s : ByteArray) : List Int := s.data.toList.map fun b => (b.toNat : Int)

theorem nums_len (s : ByteArray) : (nums s).length = s.size := by unfold nums; rw [List.length_map, Array.length_toList]; rfl
theorem nums_bd (s : ByteArray) : ∀ x ∈ nums s, 0 ≤ x ∧ x ≤ 255 := by
  intro x hx
  obtain ⟨b, -, rfl⟩ := List.mem_map.1 hx
  have := b.toNat_lt
  omega
theorem strOfNums_nums (s : ByteArray) : strOfNums (nums s) = s := by
  unfold strOfNums nums
  rw [List.map_map]
  cases s with | mk d =>
  congr 1
  have : (d.toList.map ((fun n : Int => UInt8.ofNat n.toNat) ∘ fun b : UInt8 => (b.toNat : Int))) = d.toList := by
    conv => rhs; rw [← List.map_id d.toList]
    apply List.map_congr_left
    intro b _
    simp
  rw [this]
theorem nums_strOfNums (L : List Int) (h : ∀ x ∈ L, 0 ≤ x ∧ x ≤ 255) : nums (strOfNums L) = L := by
  unfold strOfNums nums
  simp only [List.map_map]
  conv => rhs; rw [← List.map_id L]
  apply List.map_congr_left
  intro x hx
  have := h x hx
  simp
  omega
theorem nums_append (s t : ByteArray) : nums (s ++ t) = nums s ++ nums t := by
  cases s with | mk a => cases t with | mk b =>
  have := Go.ByteArray.mk_append_mk a.toList b.toList
  simp only [Array.toArray_toList] at this
  rw [this]
  simp [nums]
theorem nums_getD (s : ByteArray) (i : Nat) : (nums s).getD i 0 = bt s i := by
  by_cases hi : i < s.size
  · have h2 : i < (nums s).length := by rw [nums_len]; exact hi
    rw [List.getD_eq_getElem?_getD, List.getElem?_eq_getElem h2, ← get_bt s i hi]
    simp [nums]
    rfl
  · rw [bt_end s (by omega), List.getD_eq_getElem?_getD, List.getElem?_eq_none (by rw [nums_len]; omega)]
    rfl
theorem nums_extract (s : ByteArray) (a b : Nat) : nums (s.extract a b) = ((nums s).drop a).take (b - a) := by
  cases s with | mk d =>
  simp [nums, ByteArray.extract, ByteArray.copySlice, List.map_take, List.map_drop]
theorem nums_inj {s t : ByteArray} (h : nums s = nums t) : s = t := by rw [← strOfNums_nums s, ← strOfNums_nums t, h]
theorem strCells_nums (s : ByteArray) : Lib.strCells s = (nums s).map (Value.int .u8) := by simp [Lib.strCells, nums, Function.comp_def]
theorem nums_strOf (f : Nat → Int) (n : Nat) (h : ∀ k, 0 ≤ f k ∧ f k ≤ 255) : nums (strOf f n) = (List.range n).map f :=
  nums_strOfNums _ (by intro x hx; obtain ⟨j, -, rfl⟩ := List.mem_map.1 hx; exact h j)

/-- A list told by places is the list. -/
theorem getD_bd {L : List Int} (h : ∀ x ∈ L, 0 ≤ x ∧ x ≤ 255) (k : Nat) : 0 ≤ L.getD k 0 ∧ L.getD k 0 ≤ 255 := by
  by_cases hk : k < L.length
  · rw [List.getD_eq_getElem?_getD, List.getElem?_eq_getElem hk]; exact h _ (List.getElem_mem hk)
  · rw [List.getD_eq_getElem?_getD, List.getElem?_eq_none (by omega)]; simp
theorem range_getD (L : List Int) : (List.range L.length).map (fun j => L.getD j 0) = L := by
  apply List.ext_getElem?
  intro i
  by_cases hi : i < L.length
  · simp [hi]
  · simp [hi]

/-- The folded sum of a list of bytes. -/
def chkL (L : List Int) : Int := chk (fun j => L.getD j 0) L.length
theorem chkL_bd (L : List Int) (h : ∀ x ∈ L, 0 ≤ x ∧ x ≤ 255) : 0 ≤ chkL L ∧ chkL L ≤ 65535 := chk_bd _ _ (getD_bd h)
theorem chk_nums (s : ByteArray) : chk (bt s) s.size = chkL (nums s) := by
  unfold chkL
  rw [nums_len]
  exact chk_congr _ _ _ (fun j _ => (nums_getD s j).symm)
end Go.Proofs.YtlebblmlbhnppaaGreat

namespace Go.Proofs.YtlebblmlbhnppaaGreat
theorem Tryz.infoB : (Tryz.prog.info? 5).map (fun i => (i.zero, i.size, i.bytes)) = some (some (.int .u8 0), 1, 1) := by kernel_rfl
end Go.Proofs.YtlebblmlbhnppaaGreat

namespace Go.Proofs.YtlebblmlbhnppaaGreat
open Go.RowKit Go.PlainAid
set_option linter.unusedVariables false
set_option maxRecDepth 20000

/-- Byte j of n in m bytes, the higher ones first. -/
def nb (n : Int) (m j : Nat) : Int := n / 2 ^ (8 * (m - 1 - j)) % 256
theorem nb_bd (n : Int) (m j : Nat) : 0 ≤ nb n m j ∧ nb n m j ≤ 255 := by unfold nb; omega

set_option maxHeartbeats 400000 in
theorem numberBytes_yes (n : Int) (m : Nat) (w : World) (h1 : 1 ≤ m) (h6 : m ≤ 6) (hn : 0 ≤ n) (hr : n < 2 ^ (8 * m)) (hx : n ≤ 9223372036854775807) :
    Calls Tryz.prog 266 #[.int .i64 n, .int .i64 m] w fun e w' => e = .returned (.tuple #[.slice (some ⟨w.heap.size, 0, none⟩) m m, .int .i64 0]) ∧ Fill w w' m m (nb n m) := by
  have hmk := run_make_row' (P := Tryz.prog) 72 5 (.int .u8 0) 1 Tryz.underlying72 Tryz.infoB rfl .i64 .i64 m (by omega) (by omega)
  have hst := fill_start w m (nb n m) 5
  have b1 : decide ((m : Int) < 1) = false := by simp; omega
  have b2 : decide (6 < (m : Int)) = false := by simp; omega
  have HR : Hid (n < 2 ^ (8 * m)) := hr
  clear hr
  go_enter Tryz.func266, Tryz.ntmps266
  go_wp2_with fail
  refine (hasRoom_y n m w h1 h6 hn HR.out hx).mono ?_
  rintro e w0 ⟨rfl, hw⟩
  have hw' := hw.symm
  subst hw'
  go_wp2
  go_loopw [23] (fun i wr => ∃ k : Nat, k ≤ m ∧ i = .int .i64 k ∧ Fill w wr m k (nb n m)) (fun i _ => m - (intOf i).toNat)
  case atStart => exact ⟨0, Nat.zero_le _, rfl, hst⟩
  case round =>
    obtain ⟨k, hk, rfl, hfill⟩ := hrel
    have hfill' : Hid (Fill w wr m k (nb n m)) := hfill
    by_cases hlt2 : k < m
    · have hfz := hfill.2.2.1 k
      obtain ⟨v, hv⟩ := hfill.2.2.2.1 k hlt2
      clear hfill hst hmk
      have hp : (0 : Int) < 2 ^ (8 * (m - 1 - k)) := Int.pow_pos (by omega)
      have hq0 : 0 ≤ n / 2 ^ (8 * (m - 1 - k)) := Int.ediv_nonneg hn (by omega)
      go_wp2
      go_roundw
      case rel => exact ⟨k + 1, by omega, by go_num, fill_step hfill'.out hlt2⟩
      case measure => simp [intOf]; omega
    · obtain rfl : k = m := by omega
      clear hst hmk hfill
      go_wp2
      go_ret2
      exact ⟨rfl, hfill'.out⟩

end Go.Proofs.YtlebblmlbhnppaaGreat

namespace Go.Proofs.YtlebblmlbhnppaaGreat
open Go.RowKit Go.PlainAid
set_option linter.unusedVariables false
set_option maxRecDepth 20000

theorem part_any (b off len cap at_ size : Nat) (w : World) (h : at_ + size ≤ cap) (hc : cap ≤ 9223372036854775807) :
    Calls Tryz.prog 220 #[.slice (some ⟨b, off, none⟩) len cap, .int .i64 at_, .int .i64 size] w fun e w' => ∃ a', e = .returned (.slice a' size size) ∧ (0 < size → a' = some ⟨b, off + at_, none⟩) ∧ w' = w := by
  go_enter Tryz.func220, Tryz.ntmps220
  go_wp2
  · go_ret
    obtain rfl : size = 0 := by omega
    exact ⟨_, rfl, by omega, rfl⟩
  · go_ret
    exact ⟨_, rfl, fun _ => rfl, rfl⟩

theorem Bytes.part {w : World} {b off len : Nat} {f : Nat → Int} (h : Bytes w (some ⟨b, off, none⟩) len f) (at_ size : Nat) (hs : at_ + size ≤ len) (a' : Option Addr) (ha : 0 < size → a' = some ⟨b, off + at_, none⟩) : Bytes w a' size (fun j => f (at_ + j)) := by
  refine ⟨fun k => h.1 _, fun h0 => ?_⟩
  obtain ⟨b', off', e, hc⟩ := h.2 (by omega)
  cases e
  exact ⟨b, off + at_, ha h0, fun i hi => by rw [Nat.add_assoc]; exact hc (at_ + i) (by omega)⟩

theorem numberAt_any (a : Option Addr) (len cap : Nat) (f : Nat → Int) (at_ size : Nat) (w : World) (h : Bytes w a len f) (hs : at_ + size ≤ len) (hc : len ≤ cap) (hx : cap ≤ 9223372036854775807) (h1 : 1 ≤ size) (h6 : size ≤ 6) :
    Calls Tryz.prog 217 #[.slice a len cap, .int .i64 at_, .int .i64 size] w fun e w' => e = .returned (.int .i64 (numOf (fun j => f (at_ + j)) size)) ∧ w' = w := by
  obtain ⟨b, off, rfl, -⟩ := h.2 (by omega)
  have H : Hid (Bytes w (some ⟨b, off, none⟩) len f) := h
  clear h
  go_enter Tryz.func217, Tryz.ntmps217
  go_wp2_with fail
  refine (part_any b off len cap at_ size w (by omega) hx).mono ?_
  rintro e w0 ⟨a', rfl, ha, hw⟩
  subst hw
  have HA : Hid (0 < size → a' = some ⟨b, off + at_, none⟩) := ha
  clear ha
  go_wp2_with fail
  refine (numberOf_yes a' size size _ w0 (H.out.part at_ size hs a' HA.out) h1 h6).mono ?_
  rintro e w1 ⟨rfl, hw⟩
  subst hw
  go_wp2
  go_ret
  exact ⟨rfl, rfl⟩

/-- A number's bytes. -/
def nbl (n : Int) (m : Nat) : List Int := (List.range m).map (nb n m)
theorem nbl_len (n : Int) (m : Nat) : (nbl n m).length = m := by simp [nbl]
theorem nbl_bd (n : Int) (m : Nat) : ∀ x ∈ nbl n m, 0 ≤ x ∧ x ≤ 255 := by
  intro x hx
  obtain ⟨j, -, rfl⟩ := List.mem_map.1 hx
  exact nb_bd n m j
theorem nums_nb (n : Int) (m : Nat) : nums (strOf (nb n m) m) = nbl n m := nums_strOf _ _ (nb_bd n m)

theorem below_grownBy {w w' : World} (h : Below w.heap.size w w') (row : Option Nat) : w.grownBy w' row := ⟨h.os, h.tape, h.output, h.size, fun k hk _ => h.block k hk⟩
theorem gr_trans {w w1 w2 : World} {r : Option Nat} (h : w.grownBy w1 r) (k : w1.grownBy w2 r) : w.grownBy w2 r :=
  ⟨k.os.trans h.os, k.tape.trans h.tape, k.output.trans h.output, Nat.le_trans h.size k.size, fun i hi hr => (k.block i (Nat.lt_of_lt_of_le hi h.size) hr).trans (h.block i hi hr)⟩
/-- Of what was there when w was, and is not the row, nothing has turned; the row may be a newer one. -/
theorem gr_newer {w w1 w2 : World} {r r' : Option Nat} (h : w.grownBy w1 r) (k : w1.grownBy w2 r') (hn : ∀ b, r' = some b → r = some b ∨ w.heap.size ≤ b) : w.grownBy w2 r :=
  ⟨k.os.trans h.os, k.tape.trans h.tape, k.output.trans h.output, Nat.le_trans h.size k.size, fun i hi hr => (k.block i (Nat.lt_of_lt_of_le hi h.size) (fun e => by
    rcases hn i e.symm with h' | h'
    · exact hr h'.symm
    · omega)).trans (h.block i hi hr)⟩

theorem news_of_fill {w w1 : World} {m : Nat} {f : Nat → Int} (h : Fill w w1 m m f) : ∀ j u, ((List.range m).map fun i => Value.int .u8 (f i))[j]? = some u → w1.cell? ((⟨w.heap.size, 0, none⟩ : Addr).add j) = some u := by
  intro j u hu
  have hj : j < m := by
    by_cases hj : j < m
    · exact hj
    · rw [List.getElem?_eq_none (by simp; omega)] at hu; cases hu
  have e : (⟨w.heap.size, 0, none⟩ : Addr).add j = ⟨w.heap.size, j, none⟩ := by unfold Addr.add; split <;> simp_all
  rw [e, h.2.2.2.2 j hj]
  simpa [hj] using hu

set_option maxHeartbeats 400000 in
theorem addNumber_any (v : Value) (L : List Int) (n : Int) (m : Nat) (w : World) (B : Nat) (h : OwnL 5 w B v L) (hB : B ≤ w.heap.size) (h1 : 1 ≤ m) (h6 : m ≤ 6) (hn : 0 ≤ n) (hr : n < 2 ^ (8 * m)) (hx : n ≤ 9223372036854775807) (hl : L.length ≤ 1000000) :
    Calls Tryz.prog 259 #[v, .int .i64 n, .int .i64 m] w fun e w' => ∃ v', e = .returned v' ∧ OwnL 5 w' B v' (L ++ nbl n m) ∧ w.grownBy w' v.ownBlock := by
  obtain ⟨i0, hi, hz0, hz1, hz2⟩ := info_parts Tryz.infoB
  have H : Hid (OwnL 5 w B v L) := h
  have HR : Hid (n < 2 ^ (8 * m)) := hr
  clear h hr
  go_enter Tryz.func259, Tryz.ntmps259
  go_wp2_with fail
  refine (numberBytes_yes n m w h1 h6 hn HR.out hx).mono ?_
  rintro e w1 ⟨rfl, hf⟩
  have F : Hid (Fill w w1 m m (nb n m)) := hf
  clear hf
  have hz := F.out.1.size
  have O : Hid (w1.ownsRow B 5 1 v L.length (L.map (Value.int .u8))) := by
    have h0 := H.out
    rcases hv : v.ownBlock with _ | q
    · exact World.ownsRow.kept h0 (below_grownBy F.out.1 none) (.inl hv)
    · exact World.ownsRow.kept h0 (below_grownBy F.out.1 none) (.inr (by rw [hv]; simp))
  go_wp2_with (at_builtin; refine wpList_append_own _ rfl _ _ 72 rfl B 5 i0 (.int .u8 0) 1 1 Tryz.underlying72 hi hz0 hz1 hz2 rfl (by decide) v L.length (L.map (Value.int .u8)) rfl O.out ⟨w.heap.size, 0, none⟩ m m ((List.range m).map fun i => Value.int .u8 (nb n m i)) rfl (by simp) (news_of_fill F.out) ?c2 ?c3 ?c4 ?c5 ?_)
  case c2 => intro u hu; obtain ⟨j, -, rfl⟩ := List.mem_map.1 hu; rfl
  case c3 => unfold maxLen; omega
  case c4 => omega
  case c5 => omega
  intro v' w2 ho hg _
  have X : Hid (OwnL 5 w2 B v' (L ++ nbl n m) ∧ w.grownBy w2 v.ownBlock) := by
    refine ⟨?_, gr_trans (below_grownBy F.out.1 _) hg⟩
    unfold OwnL
    have e : (L ++ nbl n m).length = L.length + m := by simp [nbl_len]
    rw [e, List.map_append]
    simpa [nbl, List.map_map, Function.comp_def] using ho
  clear ho hg
  go_wp2
  go_ret
  exact ⟨v', rfl, X.out⟩

/-- A part of a list laid anew. -/
def over (L : List Int) (at_ : Nat) (M : List Int) : List Int := L.take at_ ++ (M ++ L.drop (at_ + M.length))
theorem over_len (L : List Int) (at_ : Nat) (M : List Int) (h : at_ + M.length ≤ L.length) : (over L at_ M).length = L.length := by simp [over]; omega

theorem take_over {α : Type} (M R N : List α) (at_ m l : Nat) (hM : M.length = l) (hN : N.length = m) (h : at_ + m ≤ l) :
    ((M ++ R).take at_ ++ N ++ (M ++ R).drop (at_ + m)).take l = M.take at_ ++ (N ++ M.drop (at_ + m)) := by
  have h1 : (M ++ R).take at_ = M.take at_ := List.take_append_of_le_length (by omega)
  have h2 : (M ++ R).drop (at_ + m) = M.drop (at_ + m) ++ R := List.drop_append_of_le_length (by omega)
  rw [h1, h2, ← List.append_assoc, List.take_append_of_le_length (by simp; omega), List.take_of_length_le (by simp; omega), List.append_assoc]

theorem OwnL.form {e : TypeId} {w : World} {B : Nat} {v : Value} {L : List Int} (h : OwnL e w B v L) (h0 : 0 < L.length) :
    ∃ g cap cur, v = .slice (some ⟨g, 0, none⟩) L.length cap ∧ B ≤ g ∧ w.heap[g]? = some (.cells cur e (0, 0)) ∧ L.length ≤ cap ∧ cap ≤ maxLen ∧ cur.size = cap ∧ cur.toList.take L.length = L.map (Value.int .u8) := by
  rcases h.2 with ⟨h1, h2⟩ | ⟨g, cap, cur, h1, h2, h3, h4, h5, h6, h7⟩
  · omega
  · exact ⟨g, cap, cur, h1, h2, h3, h4, h5, by simpa using h6, by simpa using h7⟩

end Go.Proofs.YtlebblmlbhnppaaGreat

namespace Go.Proofs.YtlebblmlbhnppaaGreat
open Go.RowKit Go.PlainAid
set_option linter.unusedVariables false
set_option maxRecDepth 20000

/-- A box holds these. -/
def Boxed (w : World) (q : Nat) (cs : List Value) : Prop := ∀ i v, cs[i]? = some v → w.cell? ⟨q, i, none⟩ = some v
theorem Boxed.new (w : World) (cs : List Value) (t : TypeId) : Boxed (w.alloc (.cells cs.toArray t)) w.heap.size cs := by
  intro i v h
  rw [World.cell?_alloc_new]
  simpa using h
theorem Boxed.below {w w' : World} {q n : Nat} {cs : List Value} (h : Boxed w q cs) (b : Below n w w') (hq : q < n) : Boxed w' q cs :=
  fun i v hi => by rw [b.cell (p := ⟨q, i, none⟩) hq]; exact h i v hi
theorem Boxed.alloc {w : World} {q : Nat} {cs : List Value} (h : Boxed w q cs) (hq : q < w.heap.size) (o : Obj) : Boxed (w.alloc o) q cs :=
  h.below ((Below.refl w.heap.size w).alloc (Nat.le_refl _) o) hq
theorem Boxed.drew {w : World} {q : Nat} {cs : List Value} (h : Boxed w q cs) : Boxed w.drew q cs := h
theorem Boxed.at {w : World} {q : Nat} {cs : List Value} (h : Boxed w q cs) (i : Nat) (v : Value) (hi : cs[i]? = some v) : w.cell? ⟨q, i, none⟩ = some v := h i v hi

/-- A box that may be written. -/
def Slots (w : World) (q : Nat) (cs : List Value) : Prop := Boxed w q cs ∧ ∀ i, w.frozen? ⟨q, i, none⟩ = false
theorem Slots.new (w : World) (cs : List Value) (t : TypeId) : Slots (w.alloc (.cells cs.toArray t)) w.heap.size cs := ⟨Boxed.new w cs t, fun i => by simp⟩
theorem Slots.below {w w' : World} {q n : Nat} {cs : List Value} (h : Slots w q cs) (b : Below n w w') (hq : q < n) : Slots w' q cs :=
  ⟨h.1.below b hq, fun i => by rw [b.frozen (p := ⟨q, i, none⟩) hq]; exact h.2 i⟩
theorem keep_cell {wx w' : World} {a : Addr} {v : Value} (h : wx.cell? a = some v) (b : Below wx.heap.size wx w') : w'.cell? a = some v := by
  rw [b.cell (World.block_lt_of_cell? wx _ h)]; exact h
theorem keep_below {B : Nat} {w wx w' : World} (h : Below B w wx) (hB : B < wx.heap.size) (b : Below wx.heap.size wx w') : Below B w w' := h.trans (b.mono (by omega))
theorem keep_size {B : Nat} {wx w' : World} (hB : B < wx.heap.size) (b : Below wx.heap.size wx w') : B < w'.heap.size := Nat.lt_of_lt_of_le hB b.size
theorem keep_c {wx w' : World} {a : Addr} {v : Value} (b : Below wx.heap.size wx w') (h : wx.cell? a = some v) : w'.cell? a = some v := keep_cell h b
theorem keep_bs {B : Nat} {w wx w' : World} (b : Below wx.heap.size wx w') (h : Below B w wx ∧ B < wx.heap.size) : Below B w w' ∧ B < w'.heap.size := ⟨keep_below h.1 h.2 b, keep_size h.2 b⟩

theorem news_row {w : World} {q : Nat} {M : List Int} (h : Boxed w q (M.map (Value.int .u8))) : ∀ j u, (M.map (Value.int .u8))[j]? = some u → w.cell? ((⟨q, 0, none⟩ : Addr).add j) = some u := by
  intro j u hu
  have e : (⟨q, 0, none⟩ : Addr).add j = ⟨q, j, none⟩ := by unfold Addr.add; split <;> simp_all
  rw [e]
  exact h j u hu

/-- What an append leaves: the longer row, and all that lies below it. -/
def Laid (w w' : World) (B : Nat) (v' : Value) (L : List Int) : Prop := OwnL 5 w' B v' L ∧ Below B w w'
theorem Laid.own {w w' : World} {B : Nat} {v' : Value} {L : List Int} (h : Laid w w' B v' L) : OwnL 5 w' B v' L := h.1
theorem Laid.below {w w' : World} {B : Nat} {v' : Value} {L : List Int} (h : Laid w w' B v' L) : Below B w w' := h.2

theorem grown_below {w w' : World} {B : Nat} {v : Value} {L : List Int} (h : OwnL 5 w B v L) (hB : B ≤ w.heap.size) (hg : w.grownBy w' v.ownBlock) : Below B w w' :=
  (Below.refl B w).grown hg hB (fun k hk => (World.ownsRow.lt h k hk).1)

theorem wpl_app (w : World) {ops : Array Oper} {rest : List Oper} {o : Oper} {a : Act} {Q : Exit → Act → World → Prop} (hgd : o.guard = none) (s x : Operand)
    (ho : o.op = .call { callee := .builtin .append, args := #[s, x], argTypes := #[72, 72] })
    (B : Nat) (v : Value) (L : List Int) (hs : a.eval s = v) (hown : OwnL 5 w B v L)
    (ad : Addr) (m c : Nat) (M : List Int) (hx : a.eval x = .slice (some ad) m c) (hl : M.length = m) (hnews : ∀ j u, (M.map (Value.int .u8))[j]? = some u → w.cell? (ad.add j) = some u)
    (hlen : L.length + m ≤ 1000000) (hB : B ≤ w.heap.size)
    (h : ∀ v' w', Hid (Laid w w' B v' (L ++ M)) → wpList Tryz.prog ops Q rest (a.put o.dst v') w') : wpList Tryz.prog ops Q (o :: rest) a w := by
  obtain ⟨i0, hi, hz0, hz1, hz2⟩ := info_parts Tryz.infoB
  refine wpList_append_own w hgd s x 72 ho B 5 i0 (.int .u8 0) 1 1 Tryz.underlying72 hi hz0 hz1 hz2 rfl (by decide) v L.length (L.map (Value.int .u8)) hs hown ad m c (M.map (Value.int .u8)) hx (by simp [hl]) hnews
    (by intro u hu; obtain ⟨j, -, rfl⟩ := List.mem_map.1 hu; rfl) (by unfold maxLen; omega) (by omega) hB ?_
  intro v' w' h1 h2 _
  exact h v' w' ⟨OwnL.more (by rw [hl]; exact h1), grown_below hown hB h2⟩

theorem wpl_str (w : World) {ops : Array Oper} {rest : List Oper} {o : Oper} {a : Act} {Q : Exit → Act → World → Prop} (hgd : o.guard = none) (sl x : Operand)
    (ho : o.op = .call { callee := .builtin .append, args := #[sl, x], argTypes := #[72, 9] })
    (B : Nat) (v : Value) (L : List Int) (hs : a.eval sl = v) (hown : OwnL 5 w B v L) (s : ByteArray) (hx : a.eval x = .string s)
    (hlen : L.length + s.size ≤ 1000000) (hB : B ≤ w.heap.size)
    (h : ∀ v' w', Hid (Laid w w' B v' (L ++ nums s)) → wpList Tryz.prog ops Q rest (a.put o.dst v') w') : wpList Tryz.prog ops Q (o :: rest) a w := by
  obtain ⟨i0, hi, hz0, hz1, hz2⟩ := info_parts Tryz.infoB
  refine Lib.wpList_append_own_string w hgd sl x 72 9 ho B 5 i0 Tryz.underlying72 Tryz.underlying9 hi hz0 hz1 hz2 v L.length (L.map (Value.int .u8)) hs hown s hx (by unfold maxLen; omega) (by omega) hB ?_
  intro v' w' h1 h2 _
  exact h v' w' ⟨OwnL.more (by rw [nums_len, ← strCells_nums]; exact h1), grown_below hown hB h2⟩

theorem addNum (v : Value) (L : List Int) (n : Int) (m : Nat) (w : World) (B : Nat) (h : OwnL 5 w B v L) (hB : B ≤ w.heap.size) (h1 : 1 ≤ m) (h6 : m ≤ 6) (hn : 0 ≤ n) (hr : n < 2 ^ (8 * m)) (hx : n ≤ 9223372036854775807) (hl : L.length ≤ 1000000) :
    Calls Tryz.prog 259 #[v, .int .i64 n, .int .i64 m] w fun e w' => ∃ v', e = .returned v' ∧ Hid (Laid w w' B v' (L ++ nbl n m)) :=
  (addNumber_any v L n m w B h hB h1 h6 hn hr hx hl).mono fun e w' ⟨v', he, ho, hg⟩ => ⟨v', he, ho, grown_below h hB hg⟩
/-- 'make([]byte, 0, c)'. -/
theorem make_room (c : Nat) (hc : c ≤ 1000000) : ∃ MC : Array Value, ∀ w : World,
    (Instr.makeSlice 72 (.int .i64 0) (.int .i64 (c : Int))).run Tryz.prog w = .ok (.slice (some ⟨w.heap.size, 0, none⟩) 0 c) (w.alloc (.cells MC 5)) ∧
      OwnL 5 (w.alloc (.cells MC 5)) w.heap.size (.slice (some ⟨w.heap.size, 0, none⟩) 0 c) [] := by
  obtain ⟨i0, hi, hz0, hz1, hz2⟩ := info_parts Tryz.infoB
  refine ⟨madeCells (Value.int .u8 0).cells (c * i0.size), fun w => ⟨?_, ?_⟩⟩
  · have := run_make (P := Tryz.prog) w 72 5 i0 (.int .u8 0) Tryz.underlying72 hi hz0 .i64 .i64 0 c (Int.le_refl _) (by omega) (by rw [hz2]; omega) (by omega)
    simpa using this
  · exact World.ownsRow_made w _ c (Nat.le_refl _) (by unfold maxLen; omega) (by rw [size_madeCells, hz1])

/-- The row that a writer hands back. -/
theorem Laid.writ {w w' : World} {B : Nat} {v : Value} {L : List Int} (h : OwnL 5 w B v L) (hL : ∀ x ∈ L, 0 ≤ x ∧ x ≤ 255) (h0 : 0 < L.length) :
    ∃ g cap, v = .slice (some ⟨g, 0, none⟩) L.length cap ∧ L.length ≤ cap ∧ cap ≤ maxLen ∧ B ≤ g ∧ g < w.heap.size ∧ (∀ i, w.frozen? ⟨g, i, none⟩ = false) ∧ ∀ i, i < L.length → w.cell? ⟨g, i, none⟩ = some (.int .u8 (L.getD i 0)) := by
  obtain ⟨g, cap, cur, rfl, hB, hg, hcap, hmax, hs, ht⟩ := h.form h0
  refine ⟨g, cap, rfl, hcap, hmax, hB, (World.ownsRow.lt h g rfl).2, fun i => World.ownsRow.frozenAt h i, fun i hi => ?_⟩
  rw [World.ownsRow.cellAt h i (by simpa using hi)]
  simp [hi]
end Go.Proofs.YtlebblmlbhnppaaGreat

namespace Go.Proofs.YtlebblmlbhnppaaGreat
open Go.RowKit Go.PlainAid Go.Sort
set_option linter.unusedVariables false

/-- Draws, and new blocks alone. -/
def Grw (w w' : World) : Prop := ∃ q os, w' = grow (w.drewN q) os
theorem Grw.refl (w : World) : Grw w w := ⟨0, #[], by rw [grow_empty]; rfl⟩
theorem Grw.drew {w w' : World} (h : Grw w w') : Grw w w'.drew := by
  obtain ⟨q, os, rfl⟩ := h
  exact ⟨q + 1, os, by rw [drew_grow]; congr 1⟩
theorem Grw.alloc {w w' : World} (h : Grw w w') (o : Obj) : Grw w (w'.alloc o) := by
  obtain ⟨q, os, rfl⟩ := h
  exact ⟨q, os ++ #[o], by rw [alloc_eq_grow, grow_grow]⟩
theorem Grw.trans {w w1 w2 : World} (h : Grw w w1) (h2 : Grw w1 w2) : Grw w w2 := by
  obtain ⟨q, os, rfl⟩ := h
  obtain ⟨r, os2, rfl⟩ := h2
  refine ⟨q + r, os ++ os2, ?_⟩
  show grow (grow ((w.drewN q).drewN r) os) os2 = _
  rw [grow_grow, World.drewN_drewN]
theorem below_grow (w : World) (q : Nat) (os : Array Obj) : Below w.heap.size w (grow (w.drewN q) os) := by
  refine ⟨rfl, rfl, rfl, ?_, fun k hk => ?_⟩
  · show w.heap.size ≤ (w.heap ++ os).size
    rw [Array.size_append]; omega
  · exact heap_grow_old (w.drewN q) os hk
theorem Grw.below {w w' : World} (h : Grw w w') : Below w.heap.size w w' := by
  obtain ⟨q, os, rfl⟩ := h
  exact below_grow w q os

theorem grown_cell {w wr : World} {b off : Nat} {v : Value} (hb : b < w.heap.size) (hG : Grw w wr) (h : wr.cell? ⟨b, off, none⟩ = some v) (n : Nat) (os : Array Obj) : (grow (wr.drewN n) os).cell? ⟨b, off, none⟩ = some v :=
  cell_grown (Nat.lt_of_lt_of_le hb hG.below.size) h n os

end Go.Proofs.YtlebblmlbhnppaaGreat

namespace Go.Proofs.YtlebblmlbhnppaaGreat
open Go.RowKit Go.PlainAid Go.Proofs.YtlebblmlbhnppaaGreat.Bt Go.Sort
set_option linter.unusedVariables false
set_option maxRecDepth 20000

/-- Whether it is a net. -/
def nB (ip b : Int) : Bool := dec (0 ≤ ip ∧ ip ≤ 4294967295 ∧ 0 ≤ b ∧ b ≤ 32 ∧ ip % netM b = 0)
/-- Whether a net has an address. -/
def hB (ip b x : Int) : Bool := dec (ip / netM b = x / netM b)

theorem netAround_any (ip : Int) (b : Nat) (w : World) (h0 : 0 ≤ ip) (h1 : ip ≤ 4294967295) (hb : b ≤ 32) :
    Calls Tryz.prog 233 #[.int .i64 ip, .int .i64 b] w fun e w' => e = .returned (.agg #[.int .i64 (ip / netM b * netM b), .int .i64 b]) ∧ Grw w w' := by
  have hm := around ip b h0 h1 hb
  generalize ip / netM b * netM b = r at hm ⊢
  go_enter Tryz.func233, Tryz.ntmps233
  go_wp2
  (try simp only [Exit.inBlock, Exit.then])
  refine bodyPost_ret (v := .agg #[.int .i64 r, .int .i64 b]) (by simp [results, Tryz.results233, go_sem]; try rfl) rfl ?_
  exact ⟨rfl, (Grw.refl _).alloc _⟩

/-- Nets compared. -/
theorem eql_net (x0 x1 y0 y1 : Int) (w : World) : (binOp .eql 36 (.agg #[.int .i64 x0, .int .i64 x1]) (.agg #[.int .i64 y0, .int .i64 y1])).run Tryz.prog w = .ok (.bool (decide (x0 = y0 ∧ x1 = y1))) w := by
  have u3 := Tryz.underlying3
  have a3 := Tryz.isAgg3
  have z3 := Tryz.sizeOf3
  have hS : Tryz.prog.underlying 36 = some (.struct (Tryz.prog.fieldsOf 36)) := by kernel_rfl
  have hp : Tryz.prog.stoodInHeld 36 = false := by kernel_rfl
  rw [run_eql_struct, show (10000 : Nat) = 9999 + 1 from rfl, run_equalIn_agg w 9999 36 _ _ hS hp]
  simp only [Program.fieldsOf, Tryz.underlying36]
  go_simp
  by_cases h1 : x0 = y0 <;> by_cases h2 : x1 = y1 <;> simp [h1, h2]

theorem implNetOK_any (ip b : Int) (w : World) :
    Calls Tryz.prog 232 #[.agg #[.int .i64 ip, .int .i64 b]] w fun e w' => e = .returned (.bool (nB ip b)) ∧ Grw w w' := by
  obtain ⟨q, hq⟩ : ∃ q, q = dec (0 ≤ ip ∧ ip ≤ 4294967295) := ⟨_, rfl⟩
  have HA : Hid (∀ w, Calls Tryz.prog 170 #[.int .i64 ip] w fun e w' => e = .returned (.bool q) ∧ w' = w) := fun w => hq ▸ addressOK_any ip w
  by_cases ha : 0 ≤ ip ∧ ip ≤ 4294967295
  · rw [dec_y ha] at hq
    subst hq
    by_cases hb : b < 0
    · have HN : nB ip b = false := dec_n (by omega)
      rw [HN]; clear HN
      go_enter Tryz.func232, Tryz.ntmps232
      go_wp2_with fail
      refine (HA.out _).mono ?_
      rintro e w1 ⟨rfl, hw⟩
      subst hw
      go_wp2
      go_ret
      exact ⟨rfl, (Grw.refl _).alloc _⟩
    obtain ⟨b, rfl⟩ := Int.eq_ofNat_of_zero_le (by omega : 0 ≤ b)
    by_cases hb : 32 < b
    · have HN : nB ip b = false := dec_n (by omega)
      rw [HN]; clear HN
      go_enter Tryz.func232, Tryz.ntmps232
      go_wp2_with fail
      refine (HA.out _).mono ?_
      rintro e w1 ⟨rfl, hw⟩
      subst hw
      go_wp2
      go_ret
      exact ⟨rfl, (Grw.refl _).alloc _⟩
    have e : nB ip b = decide (ip = ip / netM b * netM b ∧ (b : Int) = b) := by
      have := mul_same ip (netM b) (netM_pos b)
      unfold nB dec
      apply decide_eq_decide.2
      constructor
      · rintro ⟨_, _, _, _, h⟩; exact ⟨this.2 h, rfl⟩
      · rintro ⟨h, _⟩; exact ⟨ha.1, ha.2, by omega, by omega, this.1 h⟩
    rw [e]
    clear e
    have HR : Hid (∀ w, Calls Tryz.prog 233 #[.int .i64 ip, .int .i64 b] w fun e w' => e = .returned (.agg #[.int .i64 (ip / netM b * netM b), .int .i64 b]) ∧ Grw w w') := fun w => netAround_any ip b w ha.1 ha.2 (by omega)
    generalize ip / netM b * netM b = r at HR ⊢
    have he : ∀ w, (binOp .eql 36 (.agg #[.int .i64 ip, .int .i64 b]) (.agg #[.int .i64 r, .int .i64 b])).run Tryz.prog w = .ok (.bool (decide (ip = r ∧ (b : Int) = b))) w := fun w => eql_net ip b r b w
    generalize decide (ip = r ∧ (b : Int) = b) = q at he ⊢
    go_enter Tryz.func232, Tryz.ntmps232
    go_wp2_with fail
    refine (HA.out _).mono ?_
    rintro e w1 ⟨rfl, hw⟩
    subst hw
    go_wp2_with fail
    have hmix : Tryz.prog.follows .mixedOrders = true := by kernel_rfl
    have k0 : ∀ n os, (grow ((w.alloc (.cells #[.int .i64 ip, .int .i64 b] 36)).drewN n) os).cell? ⟨w.heap.size, 0, none⟩ = some (.int .i64 ip) := fun n os => cell_grown (by simp) (by simp) n os
    have k1 : ∀ n os, (grow ((w.alloc (.cells #[.int .i64 ip, .int .i64 b] 36)).drewN n) os).cell? ⟨w.heap.size, 1, none⟩ = some (.int .i64 b) := fun n os => cell_grown (by simp) (by simp) n os
    refine wp_region_quiet_grown (by assumption) (by kernel_rfl) ?_
    repeat (go_big_quiet_step (first | fail | (go_at_call 233; exact Calls.grown_of (HR.out _))))
    refine wpQuiet_nil ?_
    intro _ hw'
    obtain ⟨⟨nq, osq⟩, hw''⟩ := hw'
    subst hw''
    go_wp2
    go_ret
    exact ⟨rfl, ((Grw.refl _).alloc _).trans ⟨nq, osq, rfl⟩⟩
  · have HN : nB ip b = false := dec_n (by omega)
    rw [HN]; clear HN
    rw [dec_n ha] at hq
    subst hq
    go_enter Tryz.func232, Tryz.ntmps232
    go_wp2_with fail
    refine (HA.out _).mono ?_
    rintro e w1 ⟨rfl, hw⟩
    subst hw
    go_wp2
    go_ret
    exact ⟨rfl, (Grw.refl _).alloc _⟩

theorem specNetOK_any (ip b : Int) (w : World) :
    Calls Tryz.prog 178 #[.agg #[.int .i64 ip, .int .i64 b]] w fun e w' => e = .returned (.bool (nB ip b)) ∧ Grw w w' := by
  obtain ⟨q, hq⟩ : ∃ q, q = dec (0 ≤ ip ∧ ip ≤ 4294967295) := ⟨_, rfl⟩
  have HA : Hid (∀ w, Calls Tryz.prog 77 #[.int .i64 ip] w fun e w' => e = .returned (.bool q) ∧ w' = w) := fun w => hq ▸ specIp_any ip w
  obtain ⟨r, hr⟩ : ∃ r, r = dec (0 ≤ b ∧ b ≤ 32) := ⟨_, rfl⟩
  have HI : Hid (∀ w, Calls Tryz.prog 76 #[.int .i64 b, .int .i64 0, .int .i64 32] w fun e w' => e = .returned (.bool r) ∧ w' = w) := fun w => hr ▸ specIn_any b 0 32 w
  by_cases ha : 0 ≤ ip ∧ ip ≤ 4294967295
  · rw [dec_y ha] at hq
    subst hq
    by_cases hb : 0 ≤ b ∧ b ≤ 32
    · rw [dec_y hb] at hr
      subst hr
      obtain ⟨b, rfl⟩ := Int.eq_ofNat_of_zero_le hb.1
      have e : nB ip b = (ip % netM b == 0) := by
        unfold nB dec
        rw [Bool.eq_iff_iff, decide_eq_true_eq, beq_iff_eq]
        exact ⟨fun h => h.2.2.2.2, fun h => ⟨ha.1, ha.2, by omega, by omega, h⟩⟩
      rw [e]
      have hm := within ip b ha.1 ha.2 (by omega)
      generalize ip % netM b = m at hm ⊢
      have c0 : IntKind.i64.wrap (32 - (b : Int)) = ((32 - b : Nat) : Int) := by rw [IntKind.wrap_i64]; omega
      have c1 : IntKind.u64.wrap ((32 - b : Nat) : Int) = ((32 - b : Nat) : Int) := by rw [IntKind.wrap_u64]; omega
      have c2 : wrap64 (2 ^ (32 - b)) = 2 ^ (32 - b) := pow_wrap b
      have c3 : wrap64 (2 ^ (32 - b) - 1) = 2 ^ (32 - b) - 1 := pow_wrap1 b
      clear e
      go_enter Tryz.func178, Tryz.ntmps178
      go_wp2_with fail
      refine (HA.out _).mono ?_
      rintro e w1 ⟨rfl, hw⟩
      subst hw
      go_wp2_with fail
      refine (HI.out _).mono ?_
      rintro e w1 ⟨rfl, hw⟩
      subst hw
      go_wp2
      go_ret
      exact ⟨rfl, (Grw.refl _).alloc _⟩
    · have HN : nB ip b = false := dec_n (by omega)
      rw [HN]; clear HN
      rw [dec_n hb] at hr
      subst hr
      go_enter Tryz.func178, Tryz.ntmps178
      go_wp2_with fail
      refine (HA.out _).mono ?_
      rintro e w1 ⟨rfl, hw⟩
      subst hw
      go_wp2_with fail
      refine (HI.out _).mono ?_
      rintro e w1 ⟨rfl, hw⟩
      subst hw
      go_wp2
      go_ret
      exact ⟨rfl, (Grw.refl _).alloc _⟩
  · have HN : nB ip b = false := dec_n (by omega)
    rw [HN]; clear HN
    rw [dec_n ha] at hq
    subst hq
    go_enter Tryz.func178, Tryz.ntmps178
    go_wp2_with fail
    refine (HA.out _).mono ?_
    rintro e w1 ⟨rfl, hw⟩
    subst hw
    go_wp2
    go_ret
    exact ⟨rfl, (Grw.refl _).alloc _⟩

theorem nB_yes {ip b : Int} (h : nB ip b = true) : 0 ≤ ip ∧ ip ≤ 4294967295 ∧ 0 ≤ b ∧ b ≤ 32 ∧ ip % netM b = 0 := by
  unfold nB dec at h
  exact of_decide_eq_true h
theorem l05Has_any (ip b x : Int) (w : World) (hb0 : 0 ≤ b) (hb1 : b ≤ 32) :
    Calls Tryz.prog 111 #[.agg #[.int .i64 ip, .int .i64 b], .int .i64 x] w fun e w' => e = .returned (.bool (hB ip b x)) ∧ Grw w w' := by
  obtain ⟨b, rfl⟩ := Int.eq_ofNat_of_zero_le hb0
  have e : hB ip b x = (ip / 2 ^ (32 - b) == x / 2 ^ (32 - b)) := by
    unfold hB dec netM
    rw [Bool.eq_iff_iff, decide_eq_true_eq, beq_iff_eq]
    exact Iff.rfl
  rw [e]
  clear e
  have c0 : IntKind.i64.wrap (32 - (b : Int)) = ((32 - b : Nat) : Int) := by rw [IntKind.wrap_i64]; omega
  have c1 : IntKind.u64.wrap ((32 - b : Nat) : Int) = ((32 - b : Nat) : Int) := by rw [IntKind.wrap_u64]; omega
  go_enter Tryz.func111, Tryz.ntmps111
  go_wp2
  go_ret
  exact ⟨rfl, (Grw.refl _).alloc _⟩
/-- What NetHas answers. -/
def nhB (ip b x : Int) : Bool := nB ip b && dec (0 ≤ x ∧ x ≤ 4294967295) && hB ip b x
def nhC (ip b x : Int) : Int := if nB ip b = false then 1 else if dec (0 ≤ x ∧ x ≤ 4294967295) = false then 4 else 0

theorem has_around (ip x : Int) (b : Nat) (h : nB ip b = true) : hB ip b x = decide (ip = x / netM b * netM b ∧ (b : Int) = b) := by
  have := mul_has ip x (netM b) (netM_pos b) (nB_yes h).2.2.2.2
  unfold hB dec
  apply decide_eq_decide.2
  rw [this]
  simp
theorem implNetHas_any (ip b x : Int) (w : World) :
    Calls Tryz.prog 184 #[.agg #[.int .i64 ip, .int .i64 b], .int .i64 x] w fun e w' => e = .returned (.tuple #[.bool (nhB ip b x), .int .i64 (nhC ip b x)]) ∧ Grw w w' := by
  obtain ⟨q, hq⟩ : ∃ q, q = nB ip b := ⟨_, rfl⟩
  have HO : Hid (∀ w, Calls Tryz.prog 232 #[.agg #[.int .i64 ip, .int .i64 b]] w fun e w' => e = .returned (.bool q) ∧ Grw w w') := fun w => hq ▸ implNetOK_any ip b w
  obtain ⟨r, hr⟩ : ∃ r, r = dec (0 ≤ x ∧ x ≤ 4294967295) := ⟨_, rfl⟩
  have HA : Hid (∀ w, Calls Tryz.prog 170 #[.int .i64 x] w fun e w' => e = .returned (.bool r) ∧ w' = w) := fun w => hr ▸ addressOK_any x w
  cases q with
  | false =>
    have e1 : nhB ip b x = false := by unfold nhB; rw [← hq]; rfl
    have e2 : nhC ip b x = 1 := by unfold nhC; rw [← hq]; rfl
    rw [e1, e2]
    clear e1 e2 hq hr
    go_enter Tryz.func184, Tryz.ntmps184
    go_wp2_with fail
    refine (HO.out _).mono ?_
    rintro e w1 ⟨rfl, b1⟩
    have B1 : Hid (Grw w w1) := ((Grw.refl _).alloc _).trans b1
    clear b1
    go_wp2
    go_ret2
    exact ⟨rfl, B1.out⟩
  | true =>
    have hn := nB_yes hq.symm
    cases r with
    | false =>
      have e1 : nhB ip b x = false := by unfold nhB; rw [← hq, ← hr]; rfl
      have e2 : nhC ip b x = 4 := by unfold nhC; rw [← hq, ← hr]; rfl
      rw [e1, e2]
      clear e1 e2 hq hr hn
      go_enter Tryz.func184, Tryz.ntmps184
      go_wp2_with fail
      refine (HO.out _).mono ?_
      rintro e w1 ⟨rfl, b1⟩
      have B1 : Hid (Grw w w1) := ((Grw.refl _).alloc _).trans b1
      clear b1
      go_wp2_with fail
      refine (HA.out _).mono ?_
      rintro e w2 ⟨rfl, hw⟩
      subst hw
      go_wp2
      go_ret2
      exact ⟨rfl, B1.out⟩
    | true =>
      obtain ⟨b, rfl⟩ := Int.eq_ofNat_of_zero_le hn.2.2.1
      have hx : 0 ≤ x ∧ x ≤ 4294967295 := of_decide_eq_true hr.symm
      have e1 : nhB ip b x = decide (ip = x / netM b * netM b ∧ (b : Int) = b) := by unfold nhB; rw [← hq, ← hr, ← has_around ip x b hq.symm]; rfl
      have e2 : nhC ip b x = 0 := by unfold nhC; rw [← hq, ← hr]; rfl
      rw [e1, e2]
      have HR : Hid (∀ w, Calls Tryz.prog 233 #[.int .i64 x, .int .i64 b] w fun e w' => e = .returned (.agg #[.int .i64 (x / netM b * netM b), .int .i64 b]) ∧ Grw w w') := fun w => netAround_any x b w hx.1 hx.2 (by omega)
      clear e1 e2 hq hr hn
      generalize x / netM b * netM b = r at HR ⊢
      have he : ∀ w, (binOp .eql 36 (.agg #[.int .i64 ip, .int .i64 b]) (.agg #[.int .i64 r, .int .i64 b])).run Tryz.prog w = .ok (.bool (decide (ip = r ∧ (b : Int) = b))) w := fun w => eql_net ip b r b w
      generalize decide (ip = r ∧ (b : Int) = b) = q at he ⊢
      have hmix : Tryz.prog.follows .mixedOrders = true := by kernel_rfl
      go_enter Tryz.func184, Tryz.ntmps184
      go_wp2_with fail
      refine (HO.out _).mono ?_
      rintro e w1 ⟨rfl, b1⟩
      have B1 : Hid (Grw w w1) := ((Grw.refl _).alloc _).trans b1
      have q0 : w1.cell? ⟨w.heap.size, 0, none⟩ = some (.int .i64 ip) := by rw [b1.below.cell (by simp)]; simp
      have q1 : w1.cell? ⟨w.heap.size, 1, none⟩ = some (.int .i64 b) := by rw [b1.below.cell (by simp)]; simp
      clear b1
      go_wp2_with fail
      refine (HA.out _).mono ?_
      rintro e w2 ⟨rfl, hw⟩
      subst hw
      have hl : w.heap.size < w2.heap.size := World.block_lt_of_cell? w2 _ q0
      have k0 : ∀ n os, (grow (w2.drewN n) os).cell? ⟨w.heap.size, 0, none⟩ = some (.int .i64 ip) := fun n os => cell_grown (by exact hl) q0 n os
      have k1 : ∀ n os, (grow (w2.drewN n) os).cell? ⟨w.heap.size, 1, none⟩ = some (.int .i64 b) := fun n os => cell_grown (by exact hl) q1 n os
      go_wp2_with fail
      refine wp_region_quiet_grown (by assumption) (by kernel_rfl) ?_
      repeat (go_big_quiet_step (first | fail | (go_at_call 233; exact Calls.grown_of (HR.out _))))
      refine wpQuiet_nil ?_
      intro _ hw'
      obtain ⟨⟨nq, osq⟩, hw''⟩ := hw'
      subst hw''
      go_wp2
      go_ret2
      exact ⟨rfl, B1.out.trans ⟨nq, osq, rfl⟩⟩
end Go.Proofs.YtlebblmlbhnppaaGreat

namespace Go.Proofs.YtlebblmlbhnppaaGreat
open Go.RowKit Go.PlainAid
set_option linter.unusedVariables false
theorem Grw.keep {w w' : World} (h : Grw w w') {a : Addr} {v : Value} (hc : w.cell? a = some v) : w'.cell? a = some v := by
  rw [h.below.cell (World.block_lt_of_cell? w a hc)]; exact hc
theorem bkeep {w w' : World} (h : Below w.heap.size w w') {a : Addr} {v : Value} (hc : w.cell? a = some v) : w'.cell? a = some v := by
  rw [h.cell (World.block_lt_of_cell? w a hc)]; exact hc
theorem acell {w : World} {a : Addr} {v : Value} (h : w.cell? a = some v) (o : Obj) : (w.alloc o).cell? a = some v := bkeep ((Below.refl _ _).alloc (Nat.le_refl _) o) h
theorem bthaw {w w' : World} (h : Below w.heap.size w w') {a : Addr} {v : Value} (hc : w.cell? a = some v) (hf : w.frozen? a = false) : w'.frozen? a = false := by
  rw [h.frozen (World.block_lt_of_cell? w a hc)]; exact hf
end Go.Proofs.YtlebblmlbhnppaaGreat

namespace Go.Proofs.YtlebblmlbhnppaaGreat
open Go.RowKit Go.PlainAid Go.Proofs.YtlebblmlbhnppaaGreat.Bt Go.Sort
set_option linter.unusedVariables false
set_option maxRecDepth 20000

/-- Ports; a proto; a rule. -/
def rgB (lo hi : Int) : Bool := dec (0 ≤ lo ∧ lo ≤ 65535) && dec (lo ≤ hi ∧ hi ≤ 65535)
def prB (p : Int) : Bool := dec (p = 0 ∨ p = 1 ∨ p = 6 ∨ p = 17)
def plB (ip b lo hi : Int) : Bool := nB ip b && rgB lo hi
def ruB (r : RuleV) : Bool := prB r.p && plB r.ip r.b r.lo r.hi
theorem dec_congr {p q : Prop} [Decidable p] [Decidable q] (h : p ↔ q) : dec p = dec q := decide_eq_decide.2 h
theorem rg_ports (lo hi : Int) : (dec (0 ≤ lo ∧ lo ≤ 65535) && (dec (0 ≤ hi ∧ hi ≤ 65535) && decide (lo ≤ hi))) = rgB lo hi := by
  unfold rgB dec
  rw [Bool.eq_iff_iff]
  simp
  omega

theorem l07Range_any (lo hi : Int) (w : World) :
    Calls Tryz.prog 179 #[.agg #[.int .i64 lo, .int .i64 hi]] w fun e w' => e = .returned (.bool (rgB lo hi)) ∧ Grw w w' := by
  obtain ⟨q, hq⟩ : ∃ q, q = dec (0 ≤ lo ∧ lo ≤ 65535) := ⟨_, rfl⟩
  obtain ⟨r, hr⟩ : ∃ r, r = dec (lo ≤ hi ∧ hi ≤ 65535) := ⟨_, rfl⟩
  have HA : Hid (∀ w, Calls Tryz.prog 76 #[.int .i64 lo, .int .i64 0, .int .i64 65535] w fun e w' => e = .returned (.bool q) ∧ w' = w) := fun w => hq ▸ specIn_any lo 0 65535 w
  have HB : Hid (∀ w, Calls Tryz.prog 76 #[.int .i64 hi, .int .i64 lo, .int .i64 65535] w fun e w' => e = .returned (.bool r) ∧ w' = w) := fun w => hr ▸ specIn_any hi lo 65535 w
  have E : Hid (rgB lo hi = (q && r)) := by rw [hq, hr]; rfl
  clear hq hr
  go_enter Tryz.func179, Tryz.ntmps179
  go_wp2_with fail
  refine (HA.out _).mono ?_
  rintro e wx1 ⟨rfl, rfl⟩
  cases q with
  | false =>
    go_wp2
    go_ret
    exact ⟨by rw [E.out]; rfl, ((Grw.refl _).alloc _)⟩
  | true =>
    go_wp2_with fail
    refine (HB.out _).mono ?_
    rintro e wx2 ⟨rfl, rfl⟩
    cases r with
    | false =>
      go_wp2
      go_ret
      exact ⟨by rw [E.out]; rfl, ((Grw.refl _).alloc _)⟩
    | true =>
      go_wp2
      go_ret
      exact ⟨by rw [E.out]; rfl, ((Grw.refl _).alloc _)⟩

set_option maxHeartbeats 1000000 in
theorem specRuleOK_any (p ip b lo hi : Int) (al : Bool) (w : World) :
    Calls Tryz.prog 230 #[.agg #[.int .i64 p, .int .i64 ip, .int .i64 b, .int .i64 lo, .int .i64 hi, .bool al]] w fun e w' => e = .returned (.bool (ruB ⟨p, ip, b, lo, hi, al⟩)) ∧ Grw w w' := by
  obtain ⟨q, hq⟩ : ∃ q, q = nB ip b := ⟨_, rfl⟩
  obtain ⟨r, hr⟩ : ∃ r, r = rgB lo hi := ⟨_, rfl⟩
  have HA : Hid (∀ w, Calls Tryz.prog 178 #[.agg #[.int .i64 ip, .int .i64 b]] w fun e w' => e = .returned (.bool q) ∧ Grw w w') := fun w => hq ▸ specNetOK_any ip b w
  have HB : Hid (∀ w, Calls Tryz.prog 179 #[.agg #[.int .i64 lo, .int .i64 hi]] w fun e w' => e = .returned (.bool r) ∧ Grw w w') := fun w => hr ▸ l07Range_any lo hi w
  have E : Hid (ruB ⟨p, ip, b, lo, hi, al⟩ = (prB p && (q && r))) := by rw [hq, hr]; rfl
  clear hq hr
  generalize ruB ⟨p, ip, b, lo, hi, al⟩ = z at E ⊢
  by_cases hp : p = 0 ∨ p = 1 ∨ p = 6 ∨ p = 17
  · have e1 : prB p = true := dec_y hp
    rw [e1] at E
    rcases hp with hp | hp | hp | hp
    · have n0 : (p == 0) = true := by simp; omega
      have n1 : (p == 1) = false := by simp; omega
      have n2 : (p == 6) = false := by simp; omega
      have n3 : (p == 17) = false := by simp; omega
      go_enter Tryz.func230, Tryz.ntmps230
      go_wp2_with fail
      refine (HA.out _).mono ?_
      rintro e wx1 ⟨rfl, bx⟩
      have k1 : World.cell? _ ⟨w.heap.size, 1, none⟩ = some (.int .i64 ip) := bx.keep (a := ⟨w.heap.size, 1, none⟩) (v := .int .i64 ip) (by simp [go_sem])
      have k2 : World.cell? _ ⟨w.heap.size, 2, none⟩ = some (.int .i64 b) := bx.keep (a := ⟨w.heap.size, 2, none⟩) (v := .int .i64 b) (by simp [go_sem])
      have k3 : World.cell? _ ⟨w.heap.size, 3, none⟩ = some (.int .i64 lo) := bx.keep (a := ⟨w.heap.size, 3, none⟩) (v := .int .i64 lo) (by simp [go_sem])
      have k4 : World.cell? _ ⟨w.heap.size, 4, none⟩ = some (.int .i64 hi) := bx.keep (a := ⟨w.heap.size, 4, none⟩) (v := .int .i64 hi) (by simp [go_sem])
      have BX : Hid (Grw w _) := ((Grw.refl _).alloc _).trans bx
      clear bx
      cases q with
      | false =>
        go_wp2
        go_ret
        exact ⟨by rw [E.out]; rfl, BX.out⟩
      | true =>
        go_wp2_with fail
        refine (HB.out _).mono ?_
        rintro e wx2 ⟨rfl, bx⟩
        replace k1 := bx.keep k1
        replace k2 := bx.keep k2
        replace k3 := bx.keep k3
        replace k4 := bx.keep k4
        replace BX : Hid (Grw w _) := BX.out.trans bx
        clear bx
        cases r with
        | false =>
          go_wp2
          go_ret
          exact ⟨by rw [E.out]; rfl, BX.out⟩
        | true =>
          go_wp2
          go_ret
          exact ⟨by rw [E.out]; rfl, BX.out⟩
    · have n0 : (p == 0) = false := by simp; omega
      have n1 : (p == 1) = true := by simp; omega
      have n2 : (p == 6) = false := by simp; omega
      have n3 : (p == 17) = false := by simp; omega
      go_enter Tryz.func230, Tryz.ntmps230
      go_wp2_with fail
      refine (HA.out _).mono ?_
      rintro e wx1 ⟨rfl, bx⟩
      have k1 : World.cell? _ ⟨w.heap.size, 1, none⟩ = some (.int .i64 ip) := bx.keep (a := ⟨w.heap.size, 1, none⟩) (v := .int .i64 ip) (by simp [go_sem])
      have k2 : World.cell? _ ⟨w.heap.size, 2, none⟩ = some (.int .i64 b) := bx.keep (a := ⟨w.heap.size, 2, none⟩) (v := .int .i64 b) (by simp [go_sem])
      have k3 : World.cell? _ ⟨w.heap.size, 3, none⟩ = some (.int .i64 lo) := bx.keep (a := ⟨w.heap.size, 3, none⟩) (v := .int .i64 lo) (by simp [go_sem])
      have k4 : World.cell? _ ⟨w.heap.size, 4, none⟩ = some (.int .i64 hi) := bx.keep (a := ⟨w.heap.size, 4, none⟩) (v := .int .i64 hi) (by simp [go_sem])
      have BX : Hid (Grw w _) := ((Grw.refl _).alloc _).trans bx
      clear bx
      cases q with
      | false =>
        go_wp2
        go_ret
        exact ⟨by rw [E.out]; rfl, BX.out⟩
      | true =>
        go_wp2_with fail
        refine (HB.out _).mono ?_
        rintro e wx2 ⟨rfl, bx⟩
        replace k1 := bx.keep k1
        replace k2 := bx.keep k2
        replace k3 := bx.keep k3
        replace k4 := bx.keep k4
        replace BX : Hid (Grw w _) := BX.out.trans bx
        clear bx
        cases r with
        | false =>
          go_wp2
          go_ret
          exact ⟨by rw [E.out]; rfl, BX.out⟩
        | true =>
          go_wp2
          go_ret
          exact ⟨by rw [E.out]; rfl, BX.out⟩
    · have n0 : (p == 0) = false := by simp; omega
      have n1 : (p == 1) = false := by simp; omega
      have n2 : (p == 6) = true := by simp; omega
      have n3 : (p == 17) = false := by simp; omega
      go_enter Tryz.func230, Tryz.ntmps230
      go_wp2_with fail
      refine (HA.out _).mono ?_
      rintro e wx1 ⟨rfl, bx⟩
      have k1 : World.cell? _ ⟨w.heap.size, 1, none⟩ = some (.int .i64 ip) := bx.keep (a := ⟨w.heap.size, 1, none⟩) (v := .int .i64 ip) (by simp [go_sem])
      have k2 : World.cell? _ ⟨w.heap.size, 2, none⟩ = some (.int .i64 b) := bx.keep (a := ⟨w.heap.size, 2, none⟩) (v := .int .i64 b) (by simp [go_sem])
      have k3 : World.cell? _ ⟨w.heap.size, 3, none⟩ = some (.int .i64 lo) := bx.keep (a := ⟨w.heap.size, 3, none⟩) (v := .int .i64 lo) (by simp [go_sem])
      have k4 : World.cell? _ ⟨w.heap.size, 4, none⟩ = some (.int .i64 hi) := bx.keep (a := ⟨w.heap.size, 4, none⟩) (v := .int .i64 hi) (by simp [go_sem])
      have BX : Hid (Grw w _) := ((Grw.refl _).alloc _).trans bx
      clear bx
      cases q with
      | false =>
        go_wp2
        go_ret
        exact ⟨by rw [E.out]; rfl, BX.out⟩
      | true =>
        go_wp2_with fail
        refine (HB.out _).mono ?_
        rintro e wx2 ⟨rfl, bx⟩
        replace k1 := bx.keep k1
        replace k2 := bx.keep k2
        replace k3 := bx.keep k3
        replace k4 := bx.keep k4
        replace BX : Hid (Grw w _) := BX.out.trans bx
        clear bx
        cases r with
        | false =>
          go_wp2
          go_ret
          exact ⟨by rw [E.out]; rfl, BX.out⟩
        | true =>
          go_wp2
          go_ret
          exact ⟨by rw [E.out]; rfl, BX.out⟩
    · have n0 : (p == 0) = false := by simp; omega
      have n1 : (p == 1) = false := by simp; omega
      have n2 : (p == 6) = false := by simp; omega
      have n3 : (p == 17) = true := by simp; omega
      go_enter Tryz.func230, Tryz.ntmps230
      go_wp2_with fail
      refine (HA.out _).mono ?_
      rintro e wx1 ⟨rfl, bx⟩
      have k1 : World.cell? _ ⟨w.heap.size, 1, none⟩ = some (.int .i64 ip) := bx.keep (a := ⟨w.heap.size, 1, none⟩) (v := .int .i64 ip) (by simp [go_sem])
      have k2 : World.cell? _ ⟨w.heap.size, 2, none⟩ = some (.int .i64 b) := bx.keep (a := ⟨w.heap.size, 2, none⟩) (v := .int .i64 b) (by simp [go_sem])
      have k3 : World.cell? _ ⟨w.heap.size, 3, none⟩ = some (.int .i64 lo) := bx.keep (a := ⟨w.heap.size, 3, none⟩) (v := .int .i64 lo) (by simp [go_sem])
      have k4 : World.cell? _ ⟨w.heap.size, 4, none⟩ = some (.int .i64 hi) := bx.keep (a := ⟨w.heap.size, 4, none⟩) (v := .int .i64 hi) (by simp [go_sem])
      have BX : Hid (Grw w _) := ((Grw.refl _).alloc _).trans bx
      clear bx
      cases q with
      | false =>
        go_wp2
        go_ret
        exact ⟨by rw [E.out]; rfl, BX.out⟩
      | true =>
        go_wp2_with fail
        refine (HB.out _).mono ?_
        rintro e wx2 ⟨rfl, bx⟩
        replace k1 := bx.keep k1
        replace k2 := bx.keep k2
        replace k3 := bx.keep k3
        replace k4 := bx.keep k4
        replace BX : Hid (Grw w _) := BX.out.trans bx
        clear bx
        cases r with
        | false =>
          go_wp2
          go_ret
          exact ⟨by rw [E.out]; rfl, BX.out⟩
        | true =>
          go_wp2
          go_ret
          exact ⟨by rw [E.out]; rfl, BX.out⟩
  · have e1 : prB p = false := dec_n hp
    rw [e1] at E
    have n0 : (p == 0) = false := by simp; omega
    have n1 : (p == 1) = false := by simp; omega
    have n2 : (p == 6) = false := by simp; omega
    have n3 : (p == 17) = false := by simp; omega
    go_enter Tryz.func230, Tryz.ntmps230
    go_wp2
    go_ret
    exact ⟨by rw [E.out]; rfl, (Grw.refl _).alloc _⟩

theorem placeOf_any (p ip b lo hi : Int) (al : Bool) (w : World) :
    Calls Tryz.prog 260 #[.agg #[.int .i64 p, .int .i64 ip, .int .i64 b, .int .i64 lo, .int .i64 hi, .bool al]] w fun e w' => e = .returned (.agg #[.int .i64 ip, .int .i64 b, .int .i64 lo, .int .i64 hi]) ∧ Grw w w' := by
  go_enter Tryz.func260, Tryz.ntmps260
  go_wp2
  (try simp only [Exit.inBlock, Exit.then])
  refine bodyPost_ret (v := .agg #[.int .i64 ip, .int .i64 b, .int .i64 lo, .int .i64 hi]) (by simp [results, Tryz.results260, go_sem]; try rfl) rfl ?_
  exact ⟨rfl, ((Grw.refl _).alloc _).alloc _⟩

set_option maxHeartbeats 1000000 in
theorem placeOK_any (ip b lo hi : Int) (w : World) (hl : lo ≤ 9223372036854775807) (hh : hi ≤ 9223372036854775807) :
    Calls Tryz.prog 234 #[.agg #[.int .i64 ip, .int .i64 b, .int .i64 lo, .int .i64 hi]] w fun e w' => e = .returned (.bool (plB ip b lo hi)) ∧ Grw w w' := by
  obtain ⟨q, hq⟩ : ∃ q, q = nB ip b := ⟨_, rfl⟩
  obtain ⟨r, hr⟩ : ∃ r, r = dec (0 ≤ lo ∧ lo ≤ 65535) := ⟨_, rfl⟩
  obtain ⟨s, hs⟩ : ∃ s, s = dec (0 ≤ hi ∧ hi ≤ 65535) := ⟨_, rfl⟩
  obtain ⟨u, hu⟩ : ∃ u, u = decide (lo ≤ hi) := ⟨_, rfl⟩
  have HA : Hid (∀ w, Calls Tryz.prog 232 #[.agg #[.int .i64 ip, .int .i64 b]] w fun e w' => e = .returned (.bool q) ∧ Grw w w') := fun w => hq ▸ implNetOK_any ip b w
  have HB : Hid (∀ w, Calls Tryz.prog 171 #[.int .i64 lo] w fun e w' => e = .returned (.bool r) ∧ w' = w) := fun w => hr ▸ portOK_any lo w hl
  have HC : Hid (∀ w, Calls Tryz.prog 171 #[.int .i64 hi] w fun e w' => e = .returned (.bool s) ∧ w' = w) := fun w => hs ▸ portOK_any hi w hh
  have E : Hid (plB ip b lo hi = (q && (r && (s && u)))) := by
    rw [hq, hr, hs, hu, rg_ports]
    rfl
  have hu' : decide (lo ≤ hi) = u := hu.symm
  clear hq hr hs hu
  go_enter Tryz.func234, Tryz.ntmps234
  go_wp2_with fail
  refine (HA.out _).mono ?_
  rintro e wx1 ⟨rfl, bx⟩
  have k0 : World.cell? _ ⟨w.heap.size, 0, none⟩ = some (.int .i64 ip) := bx.keep (a := ⟨w.heap.size, 0, none⟩) (v := .int .i64 ip) (by simp [go_sem])
  have k1 : World.cell? _ ⟨w.heap.size, 1, none⟩ = some (.int .i64 b) := bx.keep (a := ⟨w.heap.size, 1, none⟩) (v := .int .i64 b) (by simp [go_sem])
  have k2 : World.cell? _ ⟨w.heap.size, 2, none⟩ = some (.int .i64 lo) := bx.keep (a := ⟨w.heap.size, 2, none⟩) (v := .int .i64 lo) (by simp [go_sem])
  have k3 : World.cell? _ ⟨w.heap.size, 3, none⟩ = some (.int .i64 hi) := bx.keep (a := ⟨w.heap.size, 3, none⟩) (v := .int .i64 hi) (by simp [go_sem])
  have BX : Hid (Grw w _) := ((Grw.refl _).alloc _).trans bx
  clear bx
  cases q with
  | false =>
    go_wp2
    go_ret
    exact ⟨by rw [E.out]; rfl, BX.out⟩
  | true =>
    go_wp2_with fail
    refine (HB.out _).mono ?_
    rintro e wx2 ⟨rfl, rfl⟩
    cases r with
    | false =>
      go_wp2
      go_ret
      exact ⟨by rw [E.out]; rfl, BX.out⟩
    | true =>
      go_wp2_with fail
      refine (HC.out _).mono ?_
      rintro e wx3 ⟨rfl, rfl⟩
      cases s with
      | false =>
        go_wp2
        go_ret
        exact ⟨by rw [E.out]; rfl, BX.out⟩
      | true =>
        go_wp2
        go_ret
        exact ⟨by rw [E.out]; rfl, BX.out⟩

/-- The word of a proto. -/
def pwS (p : Int) : ByteArray := if p = 0 then ⟨#[97, 110, 121]⟩ else if p = 1 then ⟨#[105, 99, 109, 112]⟩ else if p = 6 then ⟨#[116, 99, 112]⟩ else if p = 17 then ⟨#[117, 100, 112]⟩ else ⟨#[]⟩
theorem protoWord_any (p : Int) (w : World) :
    Calls Tryz.prog 263 #[.int .i64 p] w fun e w' => e = .returned (.string (pwS p)) ∧ w' = w := by
  by_cases h0 : p = 0
  · subst h0
    go_enter Tryz.func263, Tryz.ntmps263
    go_wp2
    go_ret
    exact ⟨rfl, rfl⟩
  by_cases h1 : p = 1
  · subst h1
    go_enter Tryz.func263, Tryz.ntmps263
    go_wp2
    go_ret
    exact ⟨rfl, rfl⟩
  by_cases h2 : p = 6
  · subst h2
    go_enter Tryz.func263, Tryz.ntmps263
    go_wp2
    go_ret
    exact ⟨rfl, rfl⟩
  by_cases h3 : p = 17
  · subst h3
    go_enter Tryz.func263, Tryz.ntmps263
    go_wp2
    go_ret
    exact ⟨rfl, rfl⟩
  have e : pwS p = ⟨#[]⟩ := by unfold pwS; rw [if_neg h0, if_neg h1, if_neg h2, if_neg h3]
  rw [e]
  have n0 : (p == 0) = false := by simp; omega
  have n1 : (p == 1) = false := by simp; omega
  have n2 : (p == 6) = false := by simp; omega
  have n3 : (p == 17) = false := by simp; omega
  go_enter Tryz.func263, Tryz.ntmps263
  go_wp2
  go_ret
  exact ⟨rfl, rfl⟩

set_option maxHeartbeats 1000000 in
theorem implRuleOK_any (p ip b lo hi : Int) (al : Bool) (w : World) (hl : lo ≤ 9223372036854775807) (hh : hi ≤ 9223372036854775807) :
    Calls Tryz.prog 257 #[.agg #[.int .i64 p, .int .i64 ip, .int .i64 b, .int .i64 lo, .int .i64 hi, .bool al]] w fun e w' => e = .returned (.bool (ruB ⟨p, ip, b, lo, hi, al⟩)) ∧ Grw w w' := by
  obtain ⟨r, hr⟩ : ∃ r, r = plB ip b lo hi := ⟨_, rfl⟩
  have HP := fun w => protoWord_any p w
  have HA : Hid (∀ w, Calls Tryz.prog 263 #[.int .i64 p] w fun e w' => e = .returned (.string (pwS p)) ∧ w' = w) := fun w => protoWord_any p w
  have HB : Hid (∀ w, Calls Tryz.prog 260 #[.agg #[.int .i64 p, .int .i64 ip, .int .i64 b, .int .i64 lo, .int .i64 hi, .bool al]] w fun e w' => e = .returned (.agg #[.int .i64 ip, .int .i64 b, .int .i64 lo, .int .i64 hi]) ∧ Grw w w') := fun w => placeOf_any p ip b lo hi al w
  have HC : Hid (∀ w, Calls Tryz.prog 234 #[.agg #[.int .i64 ip, .int .i64 b, .int .i64 lo, .int .i64 hi]] w fun e w' => e = .returned (.bool r) ∧ Grw w w') := fun w => hr ▸ placeOK_any ip b lo hi w hl hh
  have E : Hid (ruB ⟨p, ip, b, lo, hi, al⟩ = (prB p && r)) := by rw [hr]; rfl
  clear hr HP
  generalize ruB ⟨p, ip, b, lo, hi, al⟩ = z at E ⊢
  by_cases hp : p = 0 ∨ p = 1 ∨ p = 6 ∨ p = 17
  · have e1 : prB p = true := dec_y hp
    rw [e1] at E
    have hS : ((pwS p).toList == []) = false := by rcases hp with rfl | rfl | rfl | rfl <;> simp [pwS]
    generalize pwS p = S at HA hS
    go_enter Tryz.func257, Tryz.ntmps257
    go_wp2_with fail
    refine (HA.out _).mono ?_
    rintro e wx1 ⟨rfl, rfl⟩
    go_wp2_with fail
    refine (HB.out _).mono ?_
    rintro e wx2 ⟨rfl, bx⟩
    have k0 : World.cell? _ ⟨w.heap.size, 0, none⟩ = some (.int .i64 p) := bx.keep (a := ⟨w.heap.size, 0, none⟩) (v := .int .i64 p) (by simp [go_sem])
    have k1 : World.cell? _ ⟨w.heap.size, 1, none⟩ = some (.int .i64 ip) := bx.keep (a := ⟨w.heap.size, 1, none⟩) (v := .int .i64 ip) (by simp [go_sem])
    have k2 : World.cell? _ ⟨w.heap.size, 2, none⟩ = some (.int .i64 b) := bx.keep (a := ⟨w.heap.size, 2, none⟩) (v := .int .i64 b) (by simp [go_sem])
    have k3 : World.cell? _ ⟨w.heap.size, 3, none⟩ = some (.int .i64 lo) := bx.keep (a := ⟨w.heap.size, 3, none⟩) (v := .int .i64 lo) (by simp [go_sem])
    have k4 : World.cell? _ ⟨w.heap.size, 4, none⟩ = some (.int .i64 hi) := bx.keep (a := ⟨w.heap.size, 4, none⟩) (v := .int .i64 hi) (by simp [go_sem])
    have k5 : World.cell? _ ⟨w.heap.size, 5, none⟩ = some (.bool al) := bx.keep (a := ⟨w.heap.size, 5, none⟩) (v := .bool al) (by simp [go_sem])
    have BX : Hid (Grw w _) := ((Grw.refl _).alloc _).trans bx
    clear bx
    go_wp2_with fail
    refine (HC.out _).mono ?_
    rintro e wx3 ⟨rfl, bx⟩
    replace k0 := bx.keep k0
    replace k1 := bx.keep k1
    replace k2 := bx.keep k2
    replace k3 := bx.keep k3
    replace k4 := bx.keep k4
    replace k5 := bx.keep k5
    replace BX : Hid (Grw w _) := BX.out.trans bx
    clear bx
    go_wp2
    go_ret
    exact ⟨by rw [E.out]; rfl, BX.out⟩
  · have e1 : prB p = false := dec_n hp
    rw [e1] at E
    have e : pwS p = ⟨#[]⟩ := by unfold pwS; rw [if_neg (by omega), if_neg (by omega), if_neg (by omega), if_neg (by omega)]
    rw [e] at HA
    go_enter Tryz.func257, Tryz.ntmps257
    go_wp2_with fail
    refine (HA.out _).mono ?_
    rintro e wx1 ⟨rfl, rfl⟩
    go_wp2
    go_ret
    exact ⟨by rw [E.out]; rfl, (Grw.refl _).alloc _⟩

end Go.Proofs.YtlebblmlbhnppaaGreat

namespace Go.Proofs.YtlebblmlbhnppaaGreat
open Go.RowKit Go.PlainAid Go.Proofs.YtlebblmlbhnppaaGreat.Bt Go.Sort
set_option linter.unusedVariables false
set_option maxRecDepth 20000
theorem toNet2 (f0 f1 : Int) (w : World) :
    Calls Tryz.prog 42 #[.agg #[.int .i64 f0, .int .i64 f1]] w fun e w' => e = .returned (.agg #[.int .i64 f0, .int .i64 f1]) ∧ Below w.heap.size w w' := by
  go_enter Tryz.func42, Tryz.ntmps42
  go_wp2
  (try simp only [Exit.inBlock, Exit.then])
  refine bodyPost_ret (v := .agg #[.int .i64 f0, .int .i64 f1]) (by simp [results, Tryz.results42, go_sem]; try rfl) rfl ?_
  exact ⟨rfl, ((((Grw.refl _).alloc _).alloc _).alloc _).below⟩
theorem eqNet2 (x0 x1 : Int) (w : World) :
    Calls Tryz.prog 53 #[.agg #[.int .i64 x0, .int .i64 x1], .agg #[.int .i64 x0, .int .i64 x1]] w fun e w' => e = .returned (.bool true) ∧ Grw w w' := by
  have h0 : (x0 != x0) = false := by simp
  have h1 : (x1 != x1) = false := by simp
  go_enter Tryz.func53, Tryz.ntmps53
  go_wp2
  go_ret
  exact ⟨rfl, ((Grw.refl _).alloc _).alloc _⟩

theorem toRange2 (f0 f1 : Int) (w : World) :
    Calls Tryz.prog 182 #[.agg #[.int .i64 f0, .int .i64 f1]] w fun e w' => e = .returned (.agg #[.int .i64 f0, .int .i64 f1]) ∧ Below w.heap.size w w' := by
  go_enter Tryz.func182, Tryz.ntmps182
  go_wp2
  (try simp only [Exit.inBlock, Exit.then])
  refine bodyPost_ret (v := .agg #[.int .i64 f0, .int .i64 f1]) (by simp [results, Tryz.results182, go_sem]; try rfl) rfl ?_
  exact ⟨rfl, ((((Grw.refl _).alloc _).alloc _).alloc _).below⟩
theorem eqRange2 (x0 x1 : Int) (w : World) :
    Calls Tryz.prog 196 #[.agg #[.int .i64 x0, .int .i64 x1], .agg #[.int .i64 x0, .int .i64 x1]] w fun e w' => e = .returned (.bool true) ∧ Grw w w' := by
  have h0 : (x0 != x0) = false := by simp
  have h1 : (x1 != x1) = false := by simp
  go_enter Tryz.func196, Tryz.ntmps196
  go_wp2
  go_ret
  exact ⟨rfl, ((Grw.refl _).alloc _).alloc _⟩

set_option maxHeartbeats 1000000 in
theorem toRule_any (p ip b lo hi : Int) (al : Bool) (w : World) :
    Calls Tryz.prog 231 #[.agg #[.int .i64 p, .int .i64 ip, .int .i64 b, .int .i64 lo, .int .i64 hi, .bool al]] w fun e w' => e = .returned (.agg #[.int .i64 p, .int .i64 ip, .int .i64 b, .int .i64 lo, .int .i64 hi, .bool al]) ∧ Below w.heap.size w w' := by
  have HA : Hid (∀ w, Calls Tryz.prog 42 #[.agg #[.int .i64 ip, .int .i64 b]] w fun e w' => e = .returned (.agg #[.int .i64 ip, .int .i64 b]) ∧ Below w.heap.size w w') := fun w => toNet2 ip b w
  have HB : Hid (∀ w, Calls Tryz.prog 182 #[.agg #[.int .i64 lo, .int .i64 hi]] w fun e w' => e = .returned (.agg #[.int .i64 lo, .int .i64 hi]) ∧ Below w.heap.size w w') := fun w => toRange2 lo hi w
  go_enter Tryz.func231, Tryz.ntmps231
  go_wp2_with fail
  refine (HA.out _).mono ?_
  rintro e wx1 ⟨rfl, bx⟩
  have c1_0_0 : wx1.cell? ⟨w.heap.size, 0, none⟩ = some (.int .i64 p) := bkeep bx (by simp [go_sem])
  have c1_0_1 : wx1.cell? ⟨w.heap.size, 1, none⟩ = some (.int .i64 ip) := bkeep bx (by simp [go_sem])
  have c1_0_2 : wx1.cell? ⟨w.heap.size, 2, none⟩ = some (.int .i64 b) := bkeep bx (by simp [go_sem])
  have c1_0_3 : wx1.cell? ⟨w.heap.size, 3, none⟩ = some (.int .i64 lo) := bkeep bx (by simp [go_sem])
  have c1_0_4 : wx1.cell? ⟨w.heap.size, 4, none⟩ = some (.int .i64 hi) := bkeep bx (by simp [go_sem])
  have c1_0_5 : wx1.cell? ⟨w.heap.size, 5, none⟩ = some (.bool al) := bkeep bx (by simp [go_sem])
  have c1_1_0 : wx1.cell? ⟨w.heap.size + 1, 0, none⟩ = some (.int .i64 0) := bkeep bx (by simp [go_sem])
  have f1_1_0 : wx1.frozen? ⟨w.heap.size + 1, 0, none⟩ = false := bthaw bx (v := .int .i64 0) (by simp [go_sem]) (by simp [go_sem])
  have c1_1_1 : wx1.cell? ⟨w.heap.size + 1, 1, none⟩ = some (.int .i64 0) := bkeep bx (by simp [go_sem])
  have f1_1_1 : wx1.frozen? ⟨w.heap.size + 1, 1, none⟩ = false := bthaw bx (v := .int .i64 0) (by simp [go_sem]) (by simp [go_sem])
  have c1_1_2 : wx1.cell? ⟨w.heap.size + 1, 2, none⟩ = some (.int .i64 0) := bkeep bx (by simp [go_sem])
  have f1_1_2 : wx1.frozen? ⟨w.heap.size + 1, 2, none⟩ = false := bthaw bx (v := .int .i64 0) (by simp [go_sem]) (by simp [go_sem])
  have c1_1_3 : wx1.cell? ⟨w.heap.size + 1, 3, none⟩ = some (.int .i64 0) := bkeep bx (by simp [go_sem])
  have f1_1_3 : wx1.frozen? ⟨w.heap.size + 1, 3, none⟩ = false := bthaw bx (v := .int .i64 0) (by simp [go_sem]) (by simp [go_sem])
  have c1_1_4 : wx1.cell? ⟨w.heap.size + 1, 4, none⟩ = some (.int .i64 0) := bkeep bx (by simp [go_sem])
  have f1_1_4 : wx1.frozen? ⟨w.heap.size + 1, 4, none⟩ = false := bthaw bx (v := .int .i64 0) (by simp [go_sem]) (by simp [go_sem])
  have c1_1_5 : wx1.cell? ⟨w.heap.size + 1, 5, none⟩ = some (.bool false) := bkeep bx (by simp [go_sem])
  have f1_1_5 : wx1.frozen? ⟨w.heap.size + 1, 5, none⟩ = false := bthaw bx (v := .bool false) (by simp [go_sem]) (by simp [go_sem])
  have c1_2_0 : wx1.cell? ⟨w.heap.size + 1 + 1, 0, none⟩ = some (.int .i64 p) := bkeep bx (by simp [go_sem])
  have f1_2_0 : wx1.frozen? ⟨w.heap.size + 1 + 1, 0, none⟩ = false := bthaw bx (v := .int .i64 p) (by simp [go_sem]) (by simp [go_sem])
  have c1_2_1 : wx1.cell? ⟨w.heap.size + 1 + 1, 1, none⟩ = some (.int .i64 0) := bkeep bx (by simp [go_sem])
  have f1_2_1 : wx1.frozen? ⟨w.heap.size + 1 + 1, 1, none⟩ = false := bthaw bx (v := .int .i64 0) (by simp [go_sem]) (by simp [go_sem])
  have c1_2_2 : wx1.cell? ⟨w.heap.size + 1 + 1, 2, none⟩ = some (.int .i64 0) := bkeep bx (by simp [go_sem])
  have f1_2_2 : wx1.frozen? ⟨w.heap.size + 1 + 1, 2, none⟩ = false := bthaw bx (v := .int .i64 0) (by simp [go_sem]) (by simp [go_sem])
  have c1_2_3 : wx1.cell? ⟨w.heap.size + 1 + 1, 3, none⟩ = some (.int .i64 0) := bkeep bx (by simp [go_sem])
  have f1_2_3 : wx1.frozen? ⟨w.heap.size + 1 + 1, 3, none⟩ = false := bthaw bx (v := .int .i64 0) (by simp [go_sem]) (by simp [go_sem])
  have c1_2_4 : wx1.cell? ⟨w.heap.size + 1 + 1, 4, none⟩ = some (.int .i64 0) := bkeep bx (by simp [go_sem])
  have f1_2_4 : wx1.frozen? ⟨w.heap.size + 1 + 1, 4, none⟩ = false := bthaw bx (v := .int .i64 0) (by simp [go_sem]) (by simp [go_sem])
  have c1_2_5 : wx1.cell? ⟨w.heap.size + 1 + 1, 5, none⟩ = some (.bool false) := bkeep bx (by simp [go_sem])
  have f1_2_5 : wx1.frozen? ⟨w.heap.size + 1 + 1, 5, none⟩ = false := bthaw bx (v := .bool false) (by simp [go_sem]) (by simp [go_sem])
  have BX1 : Hid (Below w.heap.size w wx1) := ((((Below.refl w.heap.size w).alloc (by simp <;> omega) _).alloc (by simp <;> omega) _).alloc (by simp <;> omega) _).trans (bx.mono (by simp <;> omega))
  clear bx
  go_wp2_with fail
  refine (HB.out _).mono ?_
  rintro e wx2 ⟨rfl, bx⟩
  have c2_0_0 : wx2.cell? ⟨w.heap.size, 0, none⟩ = some (.int .i64 p) := bkeep bx (by first | (simp [go_sem]; done) | simp [go_sem, c1_0_0])
  have c2_0_1 : wx2.cell? ⟨w.heap.size, 1, none⟩ = some (.int .i64 ip) := bkeep bx (by first | (simp [go_sem]; done) | simp [go_sem, c1_0_1])
  have c2_0_2 : wx2.cell? ⟨w.heap.size, 2, none⟩ = some (.int .i64 b) := bkeep bx (by first | (simp [go_sem]; done) | simp [go_sem, c1_0_2])
  have c2_0_3 : wx2.cell? ⟨w.heap.size, 3, none⟩ = some (.int .i64 lo) := bkeep bx (by first | (simp [go_sem]; done) | simp [go_sem, c1_0_3])
  have c2_0_4 : wx2.cell? ⟨w.heap.size, 4, none⟩ = some (.int .i64 hi) := bkeep bx (by first | (simp [go_sem]; done) | simp [go_sem, c1_0_4])
  have c2_0_5 : wx2.cell? ⟨w.heap.size, 5, none⟩ = some (.bool al) := bkeep bx (by first | (simp [go_sem]; done) | simp [go_sem, c1_0_5])
  have c2_1_0 : wx2.cell? ⟨w.heap.size + 1, 0, none⟩ = some (.int .i64 0) := bkeep bx (by first | (simp [go_sem]; done) | simp [go_sem, c1_1_0])
  have f2_1_0 : wx2.frozen? ⟨w.heap.size + 1, 0, none⟩ = false := bthaw bx (v := .int .i64 0) (by first | (simp [go_sem]; done) | simp [go_sem, c1_1_0]) (by first | (simp [go_sem]; done) | simp [go_sem, f1_1_0])
  have c2_1_1 : wx2.cell? ⟨w.heap.size + 1, 1, none⟩ = some (.int .i64 0) := bkeep bx (by first | (simp [go_sem]; done) | simp [go_sem, c1_1_1])
  have f2_1_1 : wx2.frozen? ⟨w.heap.size + 1, 1, none⟩ = false := bthaw bx (v := .int .i64 0) (by first | (simp [go_sem]; done) | simp [go_sem, c1_1_1]) (by first | (simp [go_sem]; done) | simp [go_sem, f1_1_1])
  have c2_1_2 : wx2.cell? ⟨w.heap.size + 1, 2, none⟩ = some (.int .i64 0) := bkeep bx (by first | (simp [go_sem]; done) | simp [go_sem, c1_1_2])
  have f2_1_2 : wx2.frozen? ⟨w.heap.size + 1, 2, none⟩ = false := bthaw bx (v := .int .i64 0) (by first | (simp [go_sem]; done) | simp [go_sem, c1_1_2]) (by first | (simp [go_sem]; done) | simp [go_sem, f1_1_2])
  have c2_1_3 : wx2.cell? ⟨w.heap.size + 1, 3, none⟩ = some (.int .i64 0) := bkeep bx (by first | (simp [go_sem]; done) | simp [go_sem, c1_1_3])
  have f2_1_3 : wx2.frozen? ⟨w.heap.size + 1, 3, none⟩ = false := bthaw bx (v := .int .i64 0) (by first | (simp [go_sem]; done) | simp [go_sem, c1_1_3]) (by first | (simp [go_sem]; done) | simp [go_sem, f1_1_3])
  have c2_1_4 : wx2.cell? ⟨w.heap.size + 1, 4, none⟩ = some (.int .i64 0) := bkeep bx (by first | (simp [go_sem]; done) | simp [go_sem, c1_1_4])
  have f2_1_4 : wx2.frozen? ⟨w.heap.size + 1, 4, none⟩ = false := bthaw bx (v := .int .i64 0) (by first | (simp [go_sem]; done) | simp [go_sem, c1_1_4]) (by first | (simp [go_sem]; done) | simp [go_sem, f1_1_4])
  have c2_1_5 : wx2.cell? ⟨w.heap.size + 1, 5, none⟩ = some (.bool false) := bkeep bx (by first | (simp [go_sem]; done) | simp [go_sem, c1_1_5])
  have f2_1_5 : wx2.frozen? ⟨w.heap.size + 1, 5, none⟩ = false := bthaw bx (v := .bool false) (by first | (simp [go_sem]; done) | simp [go_sem, c1_1_5]) (by first | (simp [go_sem]; done) | simp [go_sem, f1_1_5])
  have c2_2_0 : wx2.cell? ⟨w.heap.size + 1 + 1, 0, none⟩ = some (.int .i64 p) := bkeep bx (by first | (simp [go_sem]; done) | simp [go_sem, c1_2_0])
  have f2_2_0 : wx2.frozen? ⟨w.heap.size + 1 + 1, 0, none⟩ = false := bthaw bx (v := .int .i64 p) (by first | (simp [go_sem]; done) | simp [go_sem, c1_2_0]) (by first | (simp [go_sem]; done) | simp [go_sem, f1_2_0])
  have c2_2_1 : wx2.cell? ⟨w.heap.size + 1 + 1, 1, none⟩ = some (.int .i64 ip) := bkeep bx (by first | (simp [go_sem]; done) | simp [go_sem, c1_2_1])
  have f2_2_1 : wx2.frozen? ⟨w.heap.size + 1 + 1, 1, none⟩ = false := bthaw bx (v := .int .i64 ip) (by first | (simp [go_sem]; done) | simp [go_sem, c1_2_1]) (by first | (simp [go_sem]; done) | simp [go_sem, f1_2_1])
  have c2_2_2 : wx2.cell? ⟨w.heap.size + 1 + 1, 2, none⟩ = some (.int .i64 b) := bkeep bx (by first | (simp [go_sem]; done) | simp [go_sem, c1_2_2])
  have f2_2_2 : wx2.frozen? ⟨w.heap.size + 1 + 1, 2, none⟩ = false := bthaw bx (v := .int .i64 b) (by first | (simp [go_sem]; done) | simp [go_sem, c1_2_2]) (by first | (simp [go_sem]; done) | simp [go_sem, f1_2_2])
  have c2_2_3 : wx2.cell? ⟨w.heap.size + 1 + 1, 3, none⟩ = some (.int .i64 0) := bkeep bx (by first | (simp [go_sem]; done) | simp [go_sem, c1_2_3])
  have f2_2_3 : wx2.frozen? ⟨w.heap.size + 1 + 1, 3, none⟩ = false := bthaw bx (v := .int .i64 0) (by first | (simp [go_sem]; done) | simp [go_sem, c1_2_3]) (by first | (simp [go_sem]; done) | simp [go_sem, f1_2_3])
  have c2_2_4 : wx2.cell? ⟨w.heap.size + 1 + 1, 4, none⟩ = some (.int .i64 0) := bkeep bx (by first | (simp [go_sem]; done) | simp [go_sem, c1_2_4])
  have f2_2_4 : wx2.frozen? ⟨w.heap.size + 1 + 1, 4, none⟩ = false := bthaw bx (v := .int .i64 0) (by first | (simp [go_sem]; done) | simp [go_sem, c1_2_4]) (by first | (simp [go_sem]; done) | simp [go_sem, f1_2_4])
  have c2_2_5 : wx2.cell? ⟨w.heap.size + 1 + 1, 5, none⟩ = some (.bool false) := bkeep bx (by first | (simp [go_sem]; done) | simp [go_sem, c1_2_5])
  have f2_2_5 : wx2.frozen? ⟨w.heap.size + 1 + 1, 5, none⟩ = false := bthaw bx (v := .bool false) (by first | (simp [go_sem]; done) | simp [go_sem, c1_2_5]) (by first | (simp [go_sem]; done) | simp [go_sem, f1_2_5])
  have BX2 : Hid (Below w.heap.size w wx2) := ((BX1.out.setCell (p := ⟨w.heap.size + 1 + 1, _, _⟩) (by show w.heap.size ≤ w.heap.size + 1 + 1; omega) _).setCell (p := ⟨w.heap.size + 1 + 1, _, _⟩) (by show w.heap.size ≤ w.heap.size + 1 + 1; omega) _).trans (bx.mono (by have := BX1.out.size; simp <;> omega))
  clear bx c1_0_0 c1_0_1 c1_0_2 c1_0_3 c1_0_4 c1_0_5 c1_1_0 c1_1_1 c1_1_2 c1_1_3 c1_1_4 c1_1_5 c1_2_0 c1_2_1 c1_2_2 c1_2_3 c1_2_4 c1_2_5 f1_1_0 f1_1_1 f1_1_2 f1_1_3 f1_1_4 f1_1_5 f1_2_0 f1_2_1 f1_2_2 f1_2_3 f1_2_4 f1_2_5 BX1
  go_wp2
  (try simp only [Exit.inBlock, Exit.then])
  refine bodyPost_ret (v := .agg #[.int .i64 p, .int .i64 ip, .int .i64 b, .int .i64 lo, .int .i64 hi, .bool al]) (by simp [results, Tryz.results231, go_sem, c2_1_0, c2_1_1, c2_1_2, c2_1_3, c2_1_4, c2_1_5]; try rfl) rfl ?_
  exact ⟨rfl, (((((((((BX2.out.setCell (p := ⟨w.heap.size + 1 + 1, _, _⟩) (by show w.heap.size ≤ w.heap.size + 1 + 1; omega) _).setCell (p := ⟨w.heap.size + 1 + 1, _, _⟩) (by show w.heap.size ≤ w.heap.size + 1 + 1; omega) _).setCell (p := ⟨w.heap.size + 1 + 1, _, _⟩) (by show w.heap.size ≤ w.heap.size + 1 + 1; omega) _).setCell (p := ⟨w.heap.size + 1, _, _⟩) (by show w.heap.size ≤ w.heap.size + 1; omega) _).setCell (p := ⟨w.heap.size + 1, _, _⟩) (by show w.heap.size ≤ w.heap.size + 1; omega) _).setCell (p := ⟨w.heap.size + 1, _, _⟩) (by show w.heap.size ≤ w.heap.size + 1; omega) _).setCell (p := ⟨w.heap.size + 1, _, _⟩) (by show w.heap.size ≤ w.heap.size + 1; omega) _).setCell (p := ⟨w.heap.size + 1, _, _⟩) (by show w.heap.size ≤ w.heap.size + 1; omega) _).setCell (p := ⟨w.heap.size + 1, _, _⟩) (by show w.heap.size ≤ w.heap.size + 1; omega) _)⟩

set_option maxHeartbeats 1000000 in
theorem eqRule_any (p ip b lo hi : Int) (al : Bool) (w : World) :
    Calls Tryz.prog 246 #[.agg #[.int .i64 p, .int .i64 ip, .int .i64 b, .int .i64 lo, .int .i64 hi, .bool al], .agg #[.int .i64 p, .int .i64 ip, .int .i64 b, .int .i64 lo, .int .i64 hi, .bool al]] w fun e w' => e = .returned (.bool true) ∧ Grw w w' := by
  have HA : Hid (∀ w, Calls Tryz.prog 53 #[.agg #[.int .i64 ip, .int .i64 b], .agg #[.int .i64 ip, .int .i64 b]] w fun e w' => e = .returned (.bool true) ∧ Grw w w') := fun w => eqNet2 ip b w
  have HB : Hid (∀ w, Calls Tryz.prog 196 #[.agg #[.int .i64 lo, .int .i64 hi], .agg #[.int .i64 lo, .int .i64 hi]] w fun e w' => e = .returned (.bool true) ∧ Grw w w') := fun w => eqRange2 lo hi w
  have hp : (p != p) = false := by simp
  have ha : (al != al) = false := by simp
  go_enter Tryz.func246, Tryz.ntmps246
  go_wp2_with fail
  refine (HA.out _).mono ?_
  rintro e wx1 ⟨rfl, bx⟩
  have k0_0 : World.cell? _ ⟨w.heap.size, 0, none⟩ = some (.int .i64 p) := bx.keep (a := ⟨w.heap.size, 0, none⟩) (v := .int .i64 p) (by simp [go_sem])
  have k0_1 : World.cell? _ ⟨w.heap.size, 1, none⟩ = some (.int .i64 ip) := bx.keep (a := ⟨w.heap.size, 1, none⟩) (v := .int .i64 ip) (by simp [go_sem])
  have k0_2 : World.cell? _ ⟨w.heap.size, 2, none⟩ = some (.int .i64 b) := bx.keep (a := ⟨w.heap.size, 2, none⟩) (v := .int .i64 b) (by simp [go_sem])
  have k0_3 : World.cell? _ ⟨w.heap.size, 3, none⟩ = some (.int .i64 lo) := bx.keep (a := ⟨w.heap.size, 3, none⟩) (v := .int .i64 lo) (by simp [go_sem])
  have k0_4 : World.cell? _ ⟨w.heap.size, 4, none⟩ = some (.int .i64 hi) := bx.keep (a := ⟨w.heap.size, 4, none⟩) (v := .int .i64 hi) (by simp [go_sem])
  have k0_5 : World.cell? _ ⟨w.heap.size, 5, none⟩ = some (.bool al) := bx.keep (a := ⟨w.heap.size, 5, none⟩) (v := .bool al) (by simp [go_sem])
  have k1_0 : World.cell? _ ⟨w.heap.size + 1, 0, none⟩ = some (.int .i64 p) := bx.keep (a := ⟨w.heap.size + 1, 0, none⟩) (v := .int .i64 p) (by simp [go_sem])
  have k1_1 : World.cell? _ ⟨w.heap.size + 1, 1, none⟩ = some (.int .i64 ip) := bx.keep (a := ⟨w.heap.size + 1, 1, none⟩) (v := .int .i64 ip) (by simp [go_sem])
  have k1_2 : World.cell? _ ⟨w.heap.size + 1, 2, none⟩ = some (.int .i64 b) := bx.keep (a := ⟨w.heap.size + 1, 2, none⟩) (v := .int .i64 b) (by simp [go_sem])
  have k1_3 : World.cell? _ ⟨w.heap.size + 1, 3, none⟩ = some (.int .i64 lo) := bx.keep (a := ⟨w.heap.size + 1, 3, none⟩) (v := .int .i64 lo) (by simp [go_sem])
  have k1_4 : World.cell? _ ⟨w.heap.size + 1, 4, none⟩ = some (.int .i64 hi) := bx.keep (a := ⟨w.heap.size + 1, 4, none⟩) (v := .int .i64 hi) (by simp [go_sem])
  have k1_5 : World.cell? _ ⟨w.heap.size + 1, 5, none⟩ = some (.bool al) := bx.keep (a := ⟨w.heap.size + 1, 5, none⟩) (v := .bool al) (by simp [go_sem])
  have BX : Hid (Grw w _) := (((Grw.refl _).alloc _).alloc _).trans bx
  clear bx
  go_wp2_with fail
  refine (HB.out _).mono ?_
  rintro e wx2 ⟨rfl, bx⟩
  replace k0_0 := bx.keep k0_0
  replace k0_1 := bx.keep k0_1
  replace k0_2 := bx.keep k0_2
  replace k0_3 := bx.keep k0_3
  replace k0_4 := bx.keep k0_4
  replace k0_5 := bx.keep k0_5
  replace k1_0 := bx.keep k1_0
  replace k1_1 := bx.keep k1_1
  replace k1_2 := bx.keep k1_2
  replace k1_3 := bx.keep k1_3
  replace k1_4 := bx.keep k1_4
  replace k1_5 := bx.keep k1_5
  replace BX : Hid (Grw w _) := BX.out.trans bx
  clear bx
  go_wp2
  go_ret
  exact ⟨rfl, BX.out⟩

end Go.Proofs.YtlebblmlbhnppaaGreat

namespace Go.Proofs.YtlebblmlbhnppaaGreat
open Go.RowKit Go.PlainAid
set_option linter.unusedVariables false

def letB (c : Int) : Bool := decide ((97 ≤ c ∧ c ≤ 122) ∨ (65 ≤ c ∧ c ≤ 90) ∨ c = 95)
def digB (c : Int) : Bool := decide (48 ≤ c ∧ c ≤ 57)

theorem ret_bool {a b : Bool} (h : a = b) : Ending.returned (.bool a) = .returned (.bool b) := by rw [h]

theorem let_cases (c : Int) : (c < 65 ∧ letB c = false) ∨ (65 ≤ c ∧ c ≤ 90 ∧ letB c = true) ∨ (90 < c ∧ c < 95 ∧ letB c = false) ∨ (c = 95 ∧ letB c = true) ∨ (95 < c ∧ c < 97 ∧ letB c = false) ∨ (97 ≤ c ∧ c ≤ 122 ∧ letB c = true) ∨ (122 < c ∧ letB c = false) := by
  unfold letB; simp; omega
theorem dig_cases (c : Int) : (c < 48 ∧ digB c = false) ∨ (48 ≤ c ∧ c ≤ 57 ∧ digB c = true) ∨ (57 < c ∧ digB c = false) := by
  unfold digB; simp; omega
theorem dig_not_let (c : Int) (h : digB c = true) : letB c = false := by
  unfold digB at h; unfold letB; simp at h ⊢; omega

theorem isDigit_any (c : Int) (w : World) : Calls Tryz.prog 264 #[.int .u8 c] w fun e w' => e = .returned (.bool (digB c)) ∧ w' = w := by
  rcases dig_cases c with ⟨h1, h2⟩ | ⟨h1, h3, h2⟩ | ⟨h1, h2⟩
  all_goals
    have H : Hid (digB c = _) := h2
    clear h2
    go_enter Tryz.func264, Tryz.ntmps264
    go_wp2
    go_ret
    exact ⟨ret_bool (Eq.trans (by first | rfl | (simp; omega)) H.out.symm), rfl⟩
theorem l00Digit_any (c : Int) (w : World) : Calls Tryz.prog 262 #[.int .u8 c] w fun e w' => e = .returned (.bool (digB c)) ∧ w' = w := by
  rcases dig_cases c with ⟨h1, h2⟩ | ⟨h1, h3, h2⟩ | ⟨h1, h2⟩
  all_goals
    have H : Hid (digB c = _) := h2
    clear h2
    go_enter Tryz.func262, Tryz.ntmps262
    go_wp2
    go_ret
    exact ⟨ret_bool (Eq.trans (by first | rfl | (simp; omega)) H.out.symm), rfl⟩
theorem isLetter_any (c : Int) (w : World) : Calls Tryz.prog 265 #[.int .u8 c] w fun e w' => e = .returned (.bool (letB c)) ∧ w' = w := by
  rcases let_cases c with ⟨h1, h2⟩ | ⟨h1, h3, h2⟩ | ⟨h1, h3, h2⟩ | ⟨rfl, h2⟩ | ⟨h1, h3, h2⟩ | ⟨h1, h3, h2⟩ | ⟨h1, h2⟩
  all_goals
    have H : Hid (letB _ = _) := h2
    clear h2
    go_enter Tryz.func265, Tryz.ntmps265
    go_wp2
    go_ret
    exact ⟨ret_bool (Eq.trans (by first | rfl | (simp; omega)) H.out.symm), rfl⟩
theorem l00Letter_any (c : Int) (w : World) : Calls Tryz.prog 261 #[.int .u8 c] w fun e w' => e = .returned (.bool (letB c)) ∧ w' = w := by
  rcases let_cases c with ⟨h1, h2⟩ | ⟨h1, h3, h2⟩ | ⟨h1, h3, h2⟩ | ⟨rfl, h2⟩ | ⟨h1, h3, h2⟩ | ⟨h1, h3, h2⟩ | ⟨h1, h2⟩
  all_goals
    have H : Hid (letB _ = _) := h2
    clear h2
    go_enter Tryz.func261, Tryz.ntmps261
    go_wp2
    go_ret
    exact ⟨ret_bool (Eq.trans (by first | rfl | (simp; omega)) H.out.symm), rfl⟩

/-- A name: 1 to 40 bytes, a letter, then letters and digits. -/
def nameB (f : Nat → Int) (n : Nat) : Bool := decide (1 ≤ n ∧ n ≤ 40 ∧ letB (f 0) = true ∧ ∀ j, j < n → letB (f j) = true ∨ digB (f j) = true)

theorem name_no_len (f : Nat → Int) (n : Nat) (h : n < 1 ∨ 40 < n) : nameB f n = false := by unfold nameB; rw [decide_eq_false_iff_not]; omega
theorem name_no_let (f : Nat → Int) (n : Nat) (h : letB (f 0) = false) : nameB f n = false := by unfold nameB; rw [decide_eq_false_iff_not]; simp [h]
theorem name_no_at (f : Nat → Int) (n k : Nat) (hk : k < n) (h : letB (f k) = false) (h' : digB (f k) = false) : nameB f n = false := by
  unfold nameB; rw [decide_eq_false_iff_not]; rintro ⟨_, _, _, h4⟩; have := h4 k hk; simp [h, h'] at this
theorem name_yes (f : Nat → Int) (n : Nat) (h0 : 1 ≤ n) (h1 : n ≤ 40) (h2 : letB (f 0) = true) (h : ∀ j, j < n → letB (f j) = true ∨ digB (f j) = true) : nameB f n = true := by
  unfold nameB; rw [decide_eq_true_iff]; exact ⟨h0, h1, h2, h⟩

theorem all_step {f : Nat → Int} {k : Nat} (h : ∀ j, j < k → letB (f j) = true ∨ digB (f j) = true) (hk : letB (f k) = true ∨ digB (f k) = true) : ∀ j, j < k + 1 → letB (f j) = true ∨ digB (f j) = true := by
  intro j hj
  by_cases e : j = k
  · subst e; exact hk
  · exact h j (by omega)

set_option maxHeartbeats 400000 in
theorem nameOK_any (s : ByteArray) (w : World) (hs : s.size ≤ 1048576) :
    Calls Tryz.prog 258 #[.string s] w fun e w' => e = .returned (.bool (nameB (bt s) s.size)) ∧ w' = w := by
  have hb := get_bt s
  by_cases h1 : s.size < 1
  · have hz : s.size = 0 := by omega
    go_enter Tryz.func258, Tryz.ntmps258
    go_wp2
    go_ret
    exact ⟨ret_bool (name_no_len _ _ (by omega)).symm, rfl⟩
  by_cases h40 : 40 < s.size
  · go_enter Tryz.func258, Tryz.ntmps258
    go_wp2
    go_ret
    exact ⟨ret_bool (name_no_len _ _ (by omega)).symm, rfl⟩
  by_cases hd : digB (bt s 0) = true
  · go_enter Tryz.func258, Tryz.ntmps258
    go_wp2_with (go_at_call 264; refine (isDigit_any _ _).mono ?_; rintro e w' ⟨rfl, rfl⟩)
    go_ret
    exact ⟨ret_bool (name_no_let _ _ (dig_not_let _ hd)).symm, rfl⟩
  simp only [Bool.not_eq_true] at hd
  have b1 : decide ((s.size : Int) < 1) = false := by simp; omega
  have b2 : decide (40 < (s.size : Int)) = false := by simp; omega
  go_enter Tryz.func258, Tryz.ntmps258
  go_wp2_with (go_at_call 264; refine (isDigit_any _ _).mono ?_; rintro e w' ⟨rfl, rfl⟩)
  go_loop [19] (fun i => ∃ k : Nat, k ≤ s.size ∧ i = .int .i64 k ∧ ∀ j, j < k → letB (bt s j) = true ∨ digB (bt s j) = true) (fun i => s.size - (intOf i).toNat)
  case atStart => exact ⟨0, Nat.zero_le _, rfl, fun j hj => absurd hj (by omega)⟩
  case round =>
    obtain ⟨k, hk, rfl, hall⟩ := hrel
    have HA : Hid (∀ j, j < k → letB (bt s j) = true ∨ digB (bt s j) = true) := hall
    clear hall
    have HD : Hid (digB (bt s 0) = false) := hd
    clear hd
    by_cases hlt : k < s.size
    · cases hl : letB (bt s k)
      · cases hg : digB (bt s k)
        · go_wp2_with (first | (go_at_call 265; refine (isLetter_any _ _).mono ?_; rintro e w' ⟨rfl, rfl⟩) | (go_at_call 264; refine (isDigit_any _ _).mono ?_; rintro e w' ⟨rfl, rfl⟩))
          go_ret
          exact ⟨ret_bool (name_no_at _ _ k hlt hl hg).symm, rfl⟩
        · go_wp2_with (first | (go_at_call 265; refine (isLetter_any _ _).mono ?_; rintro e w' ⟨rfl, rfl⟩) | (go_at_call 264; refine (isDigit_any _ _).mono ?_; rintro e w' ⟨rfl, rfl⟩))
          go_round
          case rel => exact ⟨k + 1, by omega, by go_num, all_step HA.out (.inr hg)⟩
          case measure => simp [intOf]; omega
      · go_wp2_with (first | (go_at_call 265; refine (isLetter_any _ _).mono ?_; rintro e w' ⟨rfl, rfl⟩) | (go_at_call 264; refine (isDigit_any _ _).mono ?_; rintro e w' ⟨rfl, rfl⟩))
        go_round
        case rel => exact ⟨k + 1, by omega, by go_num, all_step HA.out (.inl hl)⟩
        case measure => simp [intOf]; omega
    · obtain rfl : k = s.size := by omega
      go_wp2
      go_ret
      exact ⟨ret_bool (name_yes _ _ (by omega) (by omega) (by have := HA.out 0 (by omega); have := HD.out; simp_all) HA.out).symm, rfl⟩

set_option maxHeartbeats 400000 in
theorem l00Word_any (s : ByteArray) (w : World) (hs : s.size ≤ 1048576) :
    Calls Tryz.prog 256 #[.string s] w fun e w' => e = .returned (.bool (nameB (bt s) s.size)) ∧ w' = w := by
  have hb := get_bt s
  by_cases h1 : s.size < 1
  · have hz : s.size = 0 := by omega
    go_enter Tryz.func256, Tryz.ntmps256
    go_wp2
    go_ret
    exact ⟨ret_bool (name_no_len _ _ (by omega)).symm, rfl⟩
  by_cases h40 : 40 < s.size
  · go_enter Tryz.func256, Tryz.ntmps256
    go_wp2
    go_ret
    exact ⟨ret_bool (name_no_len _ _ (by omega)).symm, rfl⟩
  cases hd : letB (bt s 0)
  · go_enter Tryz.func256, Tryz.ntmps256
    go_wp2_with (go_at_call 261; refine (l00Letter_any _ _).mono ?_; rintro e w' ⟨rfl, rfl⟩)
    go_ret
    exact ⟨ret_bool (name_no_let _ _ hd).symm, rfl⟩
  have b1 : decide ((s.size : Int) < 1) = false := by simp; omega
  have b2 : decide (40 < (s.size : Int)) = false := by simp; omega
  go_enter Tryz.func256, Tryz.ntmps256
  go_wp2_with (go_at_call 261; refine (l00Letter_any _ _).mono ?_; rintro e w' ⟨rfl, rfl⟩)
  go_loop [3] (fun i => ∃ k : Nat, 1 ≤ k ∧ k ≤ s.size ∧ i = .int .i64 k ∧ ∀ j, j < k → letB (bt s j) = true ∨ digB (bt s j) = true) (fun i => s.size - (intOf i).toNat)
  case atStart => exact ⟨1, Nat.le_refl _, by omega, rfl, fun j hj => by obtain rfl : j = 0 := by omega
                                                                         exact .inl hd⟩
  case round =>
    obtain ⟨k, hk1, hk, rfl, hall⟩ := hrel
    have HA : Hid (∀ j, j < k → letB (bt s j) = true ∨ digB (bt s j) = true) := hall
    clear hall
    have HD : Hid (letB (bt s 0) = true) := hd
    clear hd
    by_cases hlt : k < s.size
    · cases hl : letB (bt s k)
      · cases hg : digB (bt s k)
        · go_wp2_with (first | (go_at_call 261; refine (l00Letter_any _ _).mono ?_; rintro e w' ⟨rfl, rfl⟩) | (go_at_call 262; refine (l00Digit_any _ _).mono ?_; rintro e w' ⟨rfl, rfl⟩))
          go_ret
          exact ⟨ret_bool (name_no_at _ _ k hlt hl hg).symm, rfl⟩
        · go_wp2_with (first | (go_at_call 261; refine (l00Letter_any _ _).mono ?_; rintro e w' ⟨rfl, rfl⟩) | (go_at_call 262; refine (l00Digit_any _ _).mono ?_; rintro e w' ⟨rfl, rfl⟩))
          go_round
          case rel => exact ⟨k + 1, by omega, by omega, by go_num, all_step HA.out (.inr hg)⟩
          case measure => simp [intOf]; omega
      · go_wp2_with (first | (go_at_call 261; refine (l00Letter_any _ _).mono ?_; rintro e w' ⟨rfl, rfl⟩) | (go_at_call 262; refine (l00Digit_any _ _).mono ?_; rintro e w' ⟨rfl, rfl⟩))
        go_round
        case rel => exact ⟨k + 1, by omega, by omega, by go_num, all_step HA.out (.inl hl)⟩
        case measure => simp [intOf]; omega
    · obtain rfl : k = s.size := by omega
      go_wp2
      go_ret
      exact ⟨ret_bool (name_yes _ _ (by omega) (by omega) HD.out HA.out).symm, rfl⟩

theorem specNameOK_any (s : ByteArray) (w : World) (hs : s.size ≤ 1048576) :
    Calls Tryz.prog 229 #[.string s] w fun e w' => e = .returned (.bool (nameB (bt s) s.size)) ∧ w' = w := by
  go_enter Tryz.func229, Tryz.ntmps229
  go_wp2_with (go_at_call 256; refine (l00Word_any _ _ hs).mono ?_; rintro e w' ⟨rfl, rfl⟩)
  go_ret
  exact ⟨rfl, rfl⟩

end Go.Proofs.YtlebblmlbhnppaaGreat

namespace Go.Proofs.YtlebblmlbhnppaaGreat
open Go.RowKit Go.PlainAid Go.Proofs.YtlebblmlbhnppaaGreat.Bt Go.Sort
set_option linter.unusedVariables false
set_option maxRecDepth 20000

/-- A role. -/
def roB (r : RoleV) : Bool := nameB (bt r.nm) r.nm.size && (dec (r.nm.size ≤ 8) && (dec (r.rs.length ≤ 8) && (dec (1 ≤ r.q ∧ r.q ≤ 1000000) && (dec (1 ≤ r.m ∧ r.m ≤ 1000) && (dec (1 ≤ r.i ∧ r.i ≤ 1000) && r.rs.all ruB)))))
theorem all_step2 {α : Type} {f : α → Bool} {xs : List α} {k : Nat} {x : α} (hx : xs[k]? = some x) (h : (xs.take k).all f = true) (hf : f x = true) : (xs.take (k + 1)).all f = true := by
  rw [List.take_add_one, List.all_append, h, hx]
  simp [hf]
theorem all_no {α : Type} {f : α → Bool} {xs : List α} {k : Nat} {x : α} (hx : xs[k]? = some x) (hf : f x = false) : xs.all f = false := by
  rw [List.all_eq_false]
  exact ⟨x, List.mem_of_getElem? hx, by simp [hf]⟩
theorem all_end {α : Type} {f : α → Bool} {xs : List α} {k : Nat} (hk : xs.length = k) (h : (xs.take k).all f = true) : xs.all f = true := by
  rwa [List.take_of_length_le (by omega)] at h
theorem minutesOK_any (n : Int) (w : World) : Calls Tryz.prog 239 #[.int .i64 n] w fun e w' => e = .returned (.bool (dec (1 ≤ n ∧ n ≤ 1000))) ∧ w' = w := by
  by_cases h : 1 ≤ n
  · by_cases h' : n ≤ 1000
    · rw [dec_y ⟨h, h'⟩]
      go_enter Tryz.func239, Tryz.ntmps239
      go_wp2
      go_ret
      exact ⟨rfl, rfl⟩
    · rw [dec_n (fun x => h' x.2)]
      go_enter Tryz.func239, Tryz.ntmps239
      go_wp2
      go_ret
      exact ⟨rfl, rfl⟩
  · rw [dec_n (fun x => h x.1)]
    go_enter Tryz.func239, Tryz.ntmps239
    go_wp2
    go_ret
    exact ⟨rfl, rfl⟩
theorem shortNameOK_any (s : ByteArray) (w : World) (hs : s.size ≤ 1048576) : Calls Tryz.prog 236 #[.string s] w fun e w' => e = .returned (.bool (nameB (bt s) s.size && dec (s.size ≤ 8))) ∧ w' = w := by
  obtain ⟨n, hn⟩ : ∃ n, n = nameB (bt s) s.size := ⟨_, rfl⟩
  have HN : Hid (∀ w, Calls Tryz.prog 258 #[.string s] w fun e w' => e = .returned (.bool n) ∧ w' = w) := fun w => hn ▸ nameOK_any s w hs
  rw [← hn]
  clear hn
  by_cases h8 : s.size ≤ 8
  · rw [dec_y h8, Bool.and_true]
    have h8z : (s.size : Int) ≤ 8 := by omega
    go_enter Tryz.func236, Tryz.ntmps236
    go_wp2_with fail
    refine (HN.out _).mono ?_
    rintro e w1 ⟨rfl, rfl⟩
    go_wp2
    go_ret
    exact ⟨rfl, rfl⟩
  · rw [dec_n h8, Bool.and_false]
    have h8z : ¬ (s.size : Int) ≤ 8 := by omega
    go_enter Tryz.func236, Tryz.ntmps236
    go_wp2
    go_ret
    exact ⟨rfl, rfl⟩

set_option maxHeartbeats 2000000 in
theorem specRoleOK_any (nm : ByteArray) (rs : List RuleV) (q m i : Int) (a : Option Addr) (len cap : Nat) (w : World) (hs : nm.size ≤ 1048576) (h : Rw RuR 6 w a rs) (hl : rs.length = len) (hl2 : len ≤ 1048576) :
    Calls Tryz.prog 180 #[.agg #[.string nm, .slice a len cap, .int .i64 q, .int .i64 m, .int .i64 i]] w fun e w' => e = .returned (.bool (roB ⟨nm, rs, q, m, i⟩)) ∧ Grw w w' := by
  obtain ⟨bn, hbn⟩ : ∃ n, n = nameB (bt nm) nm.size := ⟨_, rfl⟩
  obtain ⟨bq, hbq⟩ : ∃ n, n = dec (1 ≤ q ∧ q ≤ 1000000) := ⟨_, rfl⟩
  obtain ⟨bm, hbm⟩ : ∃ n, n = dec (1 ≤ m ∧ m ≤ 1000) := ⟨_, rfl⟩
  obtain ⟨bi, hbi⟩ : ∃ n, n = dec (1 ≤ i ∧ i ≤ 1000) := ⟨_, rfl⟩
  have E : Hid (roB ⟨nm, rs, q, m, i⟩ = (bn && (dec (nm.size ≤ 8) && (dec (rs.length ≤ 8) && (bq && (bm && (bi && rs.all ruB))))))) := by rw [hbn, hbq, hbm, hbi]; rfl
  generalize roB ⟨nm, rs, q, m, i⟩ = z at E ⊢
  have RW : Hid (Rw RuR 6 w a rs) := h
  clear h
  have HN : Hid (∀ w, Calls Tryz.prog 229 #[.string nm] w fun e w' => e = .returned (.bool bn) ∧ w' = w) := fun w => hbn ▸ specNameOK_any nm w hs
  have HQ : Hid (∀ w, Calls Tryz.prog 76 #[.int .i64 q, .int .i64 1, .int .i64 1000000] w fun e w' => e = .returned (.bool bq) ∧ w' = w) := fun w => hbq ▸ specIn_any q 1 1000000 w
  have HM : Hid (∀ w, Calls Tryz.prog 76 #[.int .i64 m, .int .i64 1, .int .i64 1000] w fun e w' => e = .returned (.bool bm) ∧ w' = w) := fun w => hbm ▸ specIn_any m 1 1000 w
  have HI : Hid (∀ w, Calls Tryz.prog 76 #[.int .i64 i, .int .i64 1, .int .i64 1000] w fun e w' => e = .returned (.bool bi) ∧ w' = w) := fun w => hbi ▸ specIn_any i 1 1000 w
  clear hbn hbq hbm hbi
  cases bn with
  | false =>
    go_enter Tryz.func180, Tryz.ntmps180
    go_wp2_with fail
    refine (HN.out _).mono ?_
    rintro e w1 ⟨rfl, rfl⟩
    go_wp2
    go_ret
    exact ⟨by rw [E.out]; simp, (Grw.refl _).alloc _⟩
  | true =>
    by_cases h8 : nm.size ≤ 8
    rotate_left
    · rw [dec_n h8] at E
      have h8z : (8 : Int) < (nm.size : Int) := by omega
      go_enter Tryz.func180, Tryz.ntmps180
      go_wp2_with fail
      refine (HN.out _).mono ?_
      rintro e w1 ⟨rfl, rfl⟩
      go_wp2
      go_ret
      exact ⟨by rw [E.out]; simp, (Grw.refl _).alloc _⟩
    rw [dec_y h8] at E
    have h8z : (nm.size : Int) ≤ 8 := by omega
    by_cases hc : rs.length ≤ 8
    rotate_left
    · rw [dec_n hc] at E
      have hcz : (8 : Int) < (len : Int) := by omega
      go_enter Tryz.func180, Tryz.ntmps180
      go_wp2_with fail
      refine (HN.out _).mono ?_
      rintro e w1 ⟨rfl, rfl⟩
      go_wp2
      go_ret
      exact ⟨by rw [E.out]; simp, (Grw.refl _).alloc _⟩
    rw [dec_y hc] at E
    have hcz : (len : Int) ≤ 8 := by omega
    go_enter Tryz.func180, Tryz.ntmps180
    go_wp2_with fail
    refine (HN.out _).mono ?_
    rintro e w1 ⟨rfl, rfl⟩
    go_wp2_with fail
    refine (HQ.out _).mono ?_
    rintro e w1 ⟨rfl, rfl⟩
    cases bq with
    | false =>
      go_wp2
      go_ret
      exact ⟨by rw [E.out]; simp, (Grw.refl _).alloc _⟩
    | true =>
      go_wp2_with fail
      refine (HM.out _).mono ?_
      rintro e w1 ⟨rfl, rfl⟩
      cases bm with
      | false =>
        go_wp2
        go_ret
        exact ⟨by rw [E.out]; simp, (Grw.refl _).alloc _⟩
      | true =>
        go_wp2_with fail
        refine (HI.out _).mono ?_
        rintro e w1 ⟨rfl, rfl⟩
        cases bi with
        | false =>
          go_wp2
          go_ret
          exact ⟨by rw [E.out]; simp, (Grw.refl _).alloc _⟩
        | true =>
          go_wp2
          go_loopw [3] (fun x wr => ∃ k : Nat, k ≤ len ∧ x = .int .i64 k ∧ Hid ((rs.take k).all ruB = true) ∧ Hid (Grw (w.alloc (.cells #[.string nm, .slice a len cap, .int .i64 q, .int .i64 m, .int .i64 i] 141)) wr)) (fun x _ => len - (intOf x).toNat)
          case atStart => exact ⟨0, Nat.zero_le _, rfl, rfl, Grw.refl _⟩
          case round =>
            obtain ⟨k, hk, rfl, HO, HG⟩ := hrel
            have b1 : wr.cell? ⟨w.heap.size, 1, none⟩ = some (.slice a len cap) := HG.out.keep (by simp)
            by_cases hlt : k < len
            · obtain ⟨x, hx⟩ := at_of hl hlt
              obtain ⟨b, off, vs, rfl, hb, hvl, hR, hc⟩ := RW.out.at RuR.kp (((Grw.refl w).alloc _).trans HG.out).below hx
              obtain ⟨p, ip, bb, lo, hi, al⟩ := x
              obtain ⟨rfl, hlo, hhi⟩ := hR
              have q0 : wr.cell? ⟨b, off + k * 6, none⟩ = some (.int .i64 p) := hc 0 _ rfl
              have q1 : wr.cell? ⟨b, off + k * 6 + 1, none⟩ = some (.int .i64 ip) := hc 1 _ rfl
              have q2 : wr.cell? ⟨b, off + k * 6 + 2, none⟩ = some (.int .i64 bb) := hc 2 _ rfl
              have q3 : wr.cell? ⟨b, off + k * 6 + 3, none⟩ = some (.int .i64 lo) := hc 3 _ rfl
              have q4 : wr.cell? ⟨b, off + k * 6 + 4, none⟩ = some (.int .i64 hi) := hc 4 _ rfl
              have q5 : wr.cell? ⟨b, off + k * 6 + 5, none⟩ = some (.bool al) := hc 5 _ rfl
              have HN : Hid (∀ w, Calls Tryz.prog 230 #[.agg #[.int .i64 p, .int .i64 ip, .int .i64 bb, .int .i64 lo, .int .i64 hi, .bool al]] w fun e w' => e = .returned (.bool (ruB ⟨p, ip, bb, lo, hi, al⟩)) ∧ Grw w w') := fun w => specRuleOK_any _ _ _ _ _ _ w
              have HS : Hid (ruB ⟨p, ip, bb, lo, hi, al⟩ = true → (rs.take (k + 1)).all ruB = true) := fun h => all_step2 hx HO.out h
              have HF : Hid (ruB ⟨p, ip, bb, lo, hi, al⟩ = false → rs.all ruB = false) := fun h => all_no hx h
              generalize ruB ⟨p, ip, bb, lo, hi, al⟩ = r at HN HS HF
              have hltz : (k : Int) < (len : Int) := by omega
              clear hc hvl hx
              go_wp2_with fail
              refine (HN.out _).mono ?_
              rintro e w1 ⟨rfl, g1⟩
              have HG1 : Hid (Grw _ w1) := HG.out.trans g1
              clear q0 q1 q2 q3 q4 q5 HN
              cases r with
              | true =>
                have HS' : Hid ((rs.take (k + 1)).all ruB = true) := HS.out rfl
                clear HS HF g1 HG
                go_wp2
                go_roundw
                case rel => exact ⟨k + 1, by omega, by go_num, HS', HG1⟩
                case measure => simp [intOf]; omega
              | false =>
                have hd : Hid (rs.all ruB = false) := HF.out rfl
                go_wp2
                go_ret
                exact ⟨by rw [E.out, hd.out]; rfl, ((Grw.refl _).alloc _).trans HG1.out⟩
            · obtain rfl : k = len := by omega
              have hd : Hid (rs.all ruB = true) := all_end hl HO.out
              go_wp2
              go_ret
              exact ⟨by rw [E.out, hd.out]; rfl, ((Grw.refl _).alloc _).trans HG.out⟩

set_option maxHeartbeats 2000000 in
theorem implRoleOK_any (nm : ByteArray) (rs : List RuleV) (q m i : Int) (a : Option Addr) (len cap : Nat) (w : World) (hs : nm.size ≤ 1048576) (h : Rw RuR 6 w a rs) (hl : rs.length = len) (hl2 : len ≤ 1048576) :
    Calls Tryz.prog 235 #[.agg #[.string nm, .slice a len cap, .int .i64 q, .int .i64 m, .int .i64 i]] w fun e w' => e = .returned (.bool (roB ⟨nm, rs, q, m, i⟩)) ∧ Grw w w' := by
  obtain ⟨bn, hbn⟩ : ∃ n, n = nameB (bt nm) nm.size := ⟨_, rfl⟩
  obtain ⟨bq, hbq⟩ : ∃ n, n = dec (1 ≤ q ∧ q ≤ 1000000) := ⟨_, rfl⟩
  obtain ⟨bm, hbm⟩ : ∃ n, n = dec (1 ≤ m ∧ m ≤ 1000) := ⟨_, rfl⟩
  obtain ⟨bi, hbi⟩ : ∃ n, n = dec (1 ≤ i ∧ i ≤ 1000) := ⟨_, rfl⟩
  have E : Hid (roB ⟨nm, rs, q, m, i⟩ = (bn && (dec (nm.size ≤ 8) && (dec (rs.length ≤ 8) && (bq && (bm && (bi && rs.all ruB))))))) := by rw [hbn, hbq, hbm, hbi]; rfl
  generalize roB ⟨nm, rs, q, m, i⟩ = z at E ⊢
  have RW : Hid (Rw RuR 6 w a rs) := h
  clear h
  have HN : Hid (∀ w, Calls Tryz.prog 236 #[.string nm] w fun e w' => e = .returned (.bool (bn && dec (nm.size ≤ 8))) ∧ w' = w) := fun w => hbn ▸ shortNameOK_any nm w hs
  have HM : Hid (∀ w, Calls Tryz.prog 239 #[.int .i64 m] w fun e w' => e = .returned (.bool bm) ∧ w' = w) := fun w => hbm ▸ minutesOK_any m w
  have HI : Hid (∀ w, Calls Tryz.prog 239 #[.int .i64 i] w fun e w' => e = .returned (.bool bi) ∧ w' = w) := fun w => hbi ▸ minutesOK_any i w
  have E2 : Hid (z = ((bn && dec (nm.size ≤ 8)) && (dec (rs.length ≤ 8) && (bq && (bm && (bi && rs.all ruB)))))) := by rw [E.out]; cases bn <;> rfl
  clear E hbn hbm hbi
  have E := E2
  clear E2
  generalize (bn && dec (nm.size ≤ 8)) = bs at E HN
  cases bs with
  | false =>
    go_enter Tryz.func235, Tryz.ntmps235
    go_wp2_with fail
    refine (HN.out _).mono ?_
    rintro e w1 ⟨rfl, rfl⟩
    go_wp2
    go_ret
    exact ⟨by rw [E.out]; simp, (Grw.refl _).alloc _⟩
  | true =>
    by_cases hc : rs.length ≤ 8
    rotate_left
    · rw [dec_n hc] at E
      have hcz : (8 : Int) < (len : Int) := by omega
      go_enter Tryz.func235, Tryz.ntmps235
      go_wp2_with fail
      refine (HN.out _).mono ?_
      rintro e w1 ⟨rfl, rfl⟩
      go_wp2
      go_ret
      exact ⟨by rw [E.out]; simp, (Grw.refl _).alloc _⟩
    rw [dec_y hc] at E
    have hcz : (len : Int) ≤ 8 := by omega
    by_cases hq1 : 1 ≤ q
    rotate_left
    · rw [dec_n (fun x => hq1 x.1)] at hbq
      subst hbq
      go_enter Tryz.func235, Tryz.ntmps235
      go_wp2_with fail
      refine (HN.out _).mono ?_
      rintro e w1 ⟨rfl, rfl⟩
      go_wp2
      go_ret
      exact ⟨by rw [E.out]; simp, (Grw.refl _).alloc _⟩
    by_cases hq2 : q ≤ 1000000
    rotate_left
    · rw [dec_n (fun x => hq2 x.2)] at hbq
      subst hbq
      go_enter Tryz.func235, Tryz.ntmps235
      go_wp2_with fail
      refine (HN.out _).mono ?_
      rintro e w1 ⟨rfl, rfl⟩
      go_wp2
      go_ret
      exact ⟨by rw [E.out]; simp, (Grw.refl _).alloc _⟩
    rw [dec_y ⟨hq1, hq2⟩] at hbq
    subst hbq
    go_enter Tryz.func235, Tryz.ntmps235
    go_wp2_with fail
    refine (HN.out _).mono ?_
    rintro e w1 ⟨rfl, rfl⟩
    go_wp2_with fail
    refine (HM.out _).mono ?_
    rintro e w1 ⟨rfl, rfl⟩
    cases bm with
    | false =>
      go_wp2
      go_ret
      exact ⟨by rw [E.out]; simp, (Grw.refl _).alloc _⟩
    | true =>
      go_wp2_with fail
      refine (HI.out _).mono ?_
      rintro e w1 ⟨rfl, rfl⟩
      cases bi with
      | false =>
        go_wp2
        go_ret
        exact ⟨by rw [E.out]; simp, (Grw.refl _).alloc _⟩
      | true =>
        go_wp2
        go_loopw [38] (fun x wr => ∃ k : Nat, k ≤ len ∧ x = .int .i64 k ∧ Hid ((rs.take k).all ruB = true) ∧ Hid (Grw (w.alloc (.cells #[.string nm, .slice a len cap, .int .i64 q, .int .i64 m, .int .i64 i] 141)) wr)) (fun x _ => len - (intOf x).toNat)
        case atStart => exact ⟨0, Nat.zero_le _, rfl, rfl, Grw.refl _⟩
        case round =>
          obtain ⟨k, hk, rfl, HO, HG⟩ := hrel
          have b1 : wr.cell? ⟨w.heap.size, 1, none⟩ = some (.slice a len cap) := HG.out.keep (by simp)
          by_cases hlt : k < len
          · obtain ⟨x, hx⟩ := at_of hl hlt
            obtain ⟨b, off, vs, rfl, hb, hvl, hR, hc⟩ := RW.out.at RuR.kp (((Grw.refl w).alloc _).trans HG.out).below hx
            obtain ⟨p, ip, bb, lo, hi, al⟩ := x
            obtain ⟨rfl, hlo, hhi⟩ := hR
            have q0 : wr.cell? ⟨b, off + k * 6, none⟩ = some (.int .i64 p) := hc 0 _ rfl
            have q1 : wr.cell? ⟨b, off + k * 6 + 1, none⟩ = some (.int .i64 ip) := hc 1 _ rfl
            have q2 : wr.cell? ⟨b, off + k * 6 + 2, none⟩ = some (.int .i64 bb) := hc 2 _ rfl
            have q3 : wr.cell? ⟨b, off + k * 6 + 3, none⟩ = some (.int .i64 lo) := hc 3 _ rfl
            have q4 : wr.cell? ⟨b, off + k * 6 + 4, none⟩ = some (.int .i64 hi) := hc 4 _ rfl
            have q5 : wr.cell? ⟨b, off + k * 6 + 5, none⟩ = some (.bool al) := hc 5 _ rfl
            have HN : Hid (∀ w, Calls Tryz.prog 257 #[.agg #[.int .i64 p, .int .i64 ip, .int .i64 bb, .int .i64 lo, .int .i64 hi, .bool al]] w fun e w' => e = .returned (.bool (ruB ⟨p, ip, bb, lo, hi, al⟩)) ∧ Grw w w') := fun w => implRuleOK_any _ _ _ _ _ _ w hlo hhi
            have HS : Hid (ruB ⟨p, ip, bb, lo, hi, al⟩ = true → (rs.take (k + 1)).all ruB = true) := fun h => all_step2 hx HO.out h
            have HF : Hid (ruB ⟨p, ip, bb, lo, hi, al⟩ = false → rs.all ruB = false) := fun h => all_no hx h
            generalize ruB ⟨p, ip, bb, lo, hi, al⟩ = r at HN HS HF
            have hltz : (k : Int) < (len : Int) := by omega
            clear hc hvl hx
            go_wp2_with fail
            refine (HN.out _).mono ?_
            rintro e w1 ⟨rfl, g1⟩
            have HG1 : Hid (Grw _ w1) := (HG.out.alloc _).trans g1
            clear q0 q1 q2 q3 q4 q5 HN
            cases r with
            | true =>
              have HS' : Hid ((rs.take (k + 1)).all ruB = true) := HS.out rfl
              clear HS HF g1 HG
              go_wp2
              go_roundw
              case rel => exact ⟨k + 1, by omega, by go_num, HS', HG1⟩
              case measure => simp [intOf]; omega
            | false =>
              have hd : Hid (rs.all ruB = false) := HF.out rfl
              go_wp2
              go_ret
              exact ⟨by rw [E.out, hd.out]; rfl, ((Grw.refl _).alloc _).trans HG1.out⟩
          · obtain rfl : k = len := by omega
            have hd : Hid (rs.all ruB = true) := all_end hl HO.out
            go_wp2
            go_ret
            exact ⟨by rw [E.out, hd.out]; rfl, ((Grw.refl _).alloc _).trans HG.out⟩

end Go.Proofs.YtlebblmlbhnppaaGreat

namespace Go.Proofs.YtlebblmlbhnppaaGreat
open Go.RowKit Go.PlainAid Go.Proofs.YtlebblmlbhnppaaGreat.Bt Go.Sort
set_option linter.unusedVariables false
set_option maxRecDepth 20000

theorem szRuleS_any (a : Option Addr) (len cap : Nat) (l : Int) (w : World) (hl : len ≤ 9223372036854775807) (h0 : 0 ≤ l) (h1 : l ≤ 1048576) :
    Calls Tryz.prog 177 #[.slice a len cap, .int .i64 l] w fun e w' => ∃ r : Int, e = .returned (.int .i64 r) ∧ (0 ≤ r → r = l - len) ∧ -1 ≤ r ∧ r ≤ 1048576 ∧ w' = w := by
  by_cases h : (len : Int) ≤ l
  · go_enter Tryz.func177, Tryz.ntmps177
    go_wp2
    go_ret
    exact ⟨_, rfl, fun _ => by omega, by omega, by omega, rfl⟩
  · go_enter Tryz.func177, Tryz.ntmps177
    go_wp2
    go_ret
    exact ⟨-1, rfl, fun h => absurd h (by omega), by omega, by omega, rfl⟩
theorem infoRule : (Tryz.prog.info? 202).map (fun i => (i.zero, i.size, i.bytes)) = some (some (.agg #[.int .i64 0, .int .i64 0, .int .i64 0, .int .i64 0, .int .i64 0, .bool false]), 6, 48) := by kernel_rfl
set_option maxHeartbeats 2000000 in
theorem toRuleS_any (a : Option Addr) (len cap : Nat) (xs : List RuleV) (w : World) (h : Rw RuR 6 w a xs) (hl : xs.length = len) (hc : len ≤ 1048576) :
    Calls Tryz.prog 183 #[.slice a len cap] w fun e w' => e = .returned (.slice (some ⟨w.heap.size, 0, none⟩) len len) ∧ Rw RuR 6 w' (some ⟨w.heap.size, 0, none⟩) xs ∧ Below w.heap.size w w' := by
  have RW : Hid (Rw RuR 6 w a xs) := h
  clear h
  obtain ⟨i0, hi, hz0, hz1, hz2⟩ := info_parts infoRule
  have hmk := run_make (P := Tryz.prog) w 139 202 i0 (.agg #[.int .i64 0, .int .i64 0, .int .i64 0, .int .i64 0, .int .i64 0, .bool false]) Tryz.underlying139 hi hz0 .i64 .i64 len len (by omega) (Int.le_refl _) (by rw [hz2]; omega) (by omega)
  rw [hz1, Int.toNat_natCast] at hmk
  have HM : Hid ((w.alloc (.cells (madeCells #[.int .i64 0, .int .i64 0, .int .i64 0, .int .i64 0, .int .i64 0, .bool false] (len * 6)) 202)).ownsRow w.heap.size 202 6 (.slice (some ⟨w.heap.size, 0, none⟩) len len) len (madeCells #[.int .i64 0, .int .i64 0, .int .i64 0, .int .i64 0, .int .i64 0, .bool false] (len * 6)).toList ∧ Below w.heap.size w (w.alloc (.cells (madeCells #[.int .i64 0, .int .i64 0, .int .i64 0, .int .i64 0, .int .i64 0, .bool false] (len * 6)) 202))) := ⟨owns_made w _ _ len 6 _ (Nat.le_refl _) (by unfold maxLen; omega), (Below.refl _ _).alloc (Nat.le_refl _) _⟩
  have hmk2 : (Instr.makeSlice 139 (.int .i64 (len : Int)) (.int .i64 (len : Int))).run Tryz.prog w = .ok (.slice (some ⟨w.heap.size, 0, none⟩) len len) (w.alloc (.cells (madeCells #[.int .i64 0, .int .i64 0, .int .i64 0, .int .i64 0, .int .i64 0, .bool false] (len * 6)) 202)) := hmk
  clear hmk hi hz0 hz1 hz2
  obtain ⟨W, hW⟩ : ∃ W, W = w.alloc (.cells (madeCells #[.int .i64 0, .int .i64 0, .int .i64 0, .int .i64 0, .int .i64 0, .bool false] (len * 6)) 202) := ⟨_, rfl⟩
  rw [← hW] at HM hmk2
  clear hW
  go_enter Tryz.func183, Tryz.ntmps183
  go_wp2
  go_loopw [4] (fun i wr => ∃ (k : Nat) (F : List Value), k ≤ len ∧ i = .int .i64 k ∧ Hid (wr.ownsRow w.heap.size 202 6 (.slice (some ⟨w.heap.size, 0, none⟩) len len) len F ∧ Cop RuR 6 wr F xs k ∧ Below w.heap.size w wr)) (fun i _ => len - (intOf i).toNat)
  case atStart => exact ⟨0, _, Nat.zero_le _, rfl, HM.out.1, Cop.zero, HM.out.2⟩
  case round =>
    obtain ⟨k, F, hk, rfl, X⟩ := hrel
    by_cases hlt : k < len
    · obtain ⟨x, hx⟩ := at_of hl hlt
      obtain ⟨b, off, vs, rfl, hb, hvl, hR, hc⟩ := RW.out.at RuR.kp X.out.2.2 hx
      obtain ⟨p, ip, bb, lo, hi, al⟩ := x
      obtain ⟨rfl, hlo, hhi⟩ := hR
      have q0 : wr.cell? ⟨b, off + k * 6, none⟩ = some (.int .i64 p) := hc 0 _ rfl
      have q1 : wr.cell? ⟨b, off + k * 6 + 1, none⟩ = some (.int .i64 ip) := hc 1 _ rfl
      have q2 : wr.cell? ⟨b, off + k * 6 + 2, none⟩ = some (.int .i64 bb) := hc 2 _ rfl
      have q3 : wr.cell? ⟨b, off + k * 6 + 3, none⟩ = some (.int .i64 lo) := hc 3 _ rfl
      have q4 : wr.cell? ⟨b, off + k * 6 + 4, none⟩ = some (.int .i64 hi) := hc 4 _ rfl
      have q5 : wr.cell? ⟨b, off + k * 6 + 5, none⟩ = some (.bool al) := hc 5 _ rfl
      have HT : Hid (∀ w, Calls Tryz.prog 231 #[.agg #[.int .i64 p, .int .i64 ip, .int .i64 bb, .int .i64 lo, .int .i64 hi, .bool al]] w fun e w' => e = .returned (.agg #[.int .i64 p, .int .i64 ip, .int .i64 bb, .int .i64 lo, .int .i64 hi, .bool al]) ∧ Below w.heap.size w w') := fun w => toRule_any _ _ _ _ _ _ w
      have hltz : (k : Int) < (len : Int) := by omega
      clear hc
      go_wp2_with fail
      refine (HT.out _).mono ?_
      rintro e w1 ⟨rfl, b1⟩
      have o1 := owns_now X.out.1 b1
      obtain ⟨⟨u0, c0⟩, z0⟩ := owns_cell o1 (j := 0) hlt (by omega)
      obtain ⟨⟨u1, c1⟩, z1⟩ := owns_cell o1 (j := 1) hlt (by omega)
      obtain ⟨⟨u2, c2⟩, z2⟩ := owns_cell o1 (j := 2) hlt (by omega)
      obtain ⟨⟨u3, c3⟩, z3⟩ := owns_cell o1 (j := 3) hlt (by omega)
      obtain ⟨⟨u4, c4⟩, z4⟩ := owns_cell o1 (j := 4) hlt (by omega)
      obtain ⟨⟨u5, c5⟩, z5⟩ := owns_cell o1 (j := 5) hlt (by omega)
      replace c0 : w1.cell? ⟨w.heap.size, k * 6, none⟩ = some u0 := c0
      replace z0 : w1.frozen? ⟨w.heap.size, k * 6, none⟩ = false := z0
      have Y0 : ∀ W1, W1 = (((((w1.setCell ⟨w.heap.size, k * 6, none⟩ (.int .i64 p)).setCell ⟨w.heap.size, k * 6 + 1, none⟩ (.int .i64 ip)).setCell ⟨w.heap.size, k * 6 + 2, none⟩ (.int .i64 bb)).setCell ⟨w.heap.size, k * 6 + 3, none⟩ (.int .i64 lo)).setCell ⟨w.heap.size, k * 6 + 4, none⟩ (.int .i64 hi)).setCell ⟨w.heap.size, k * 6 + 5, none⟩ (.bool al) → W1.ownsRow w.heap.size 202 6 (.slice (some ⟨w.heap.size, 0, none⟩) len len) len (sets F (k * 6) [.int .i64 p, .int .i64 ip, .int .i64 bb, .int .i64 lo, .int .i64 hi, .bool al]) ∧ Cop RuR 6 W1 (sets F (k * 6) [.int .i64 p, .int .i64 ip, .int .i64 bb, .int .i64 lo, .int .i64 hi, .bool al]) xs (k + 1) ∧ Below w.heap.size w W1 := by
        intro W1 hW1
        have h2 := owns_sets [.int .i64 p, .int .i64 ip, .int .i64 bb, .int .i64 lo, .int .i64 hi, .bool al] _ _ (k * 6) o1
        rw [wsets6, ← hW1] at h2
        have hF : k * 6 + 6 ≤ F.length := by
          rw [X.out.1.1]
          have : (k + 1) * 6 ≤ len * 6 := Nat.mul_le_mul_right _ hlt
          omega
        have c2 : Cop RuR 6 W1 F xs k := Cop.keep X.out.2.1 (fun x vs h => h)
        have c3 := Cop.step (vs := [.int .i64 p, .int .i64 ip, .int .i64 bb, .int .i64 lo, .int .i64 hi, .bool al]) c2 hx ⟨rfl, hlo, hhi⟩ rfl hF
        exact ⟨h2.1, c3, (X.out.2.2.trans (b1.mono X.out.2.2.size)).trans (below_row h2.2 (Nat.le_refl _) (Nat.le_trans X.out.2.2.size b1.size))⟩
      have Y : Hid (((((((w1.setCell ⟨w.heap.size, k * 6, none⟩ (.int .i64 p)).setCell ⟨w.heap.size, k * 6 + 1, none⟩ (.int .i64 ip)).setCell ⟨w.heap.size, k * 6 + 2, none⟩ (.int .i64 bb)).setCell ⟨w.heap.size, k * 6 + 3, none⟩ (.int .i64 lo)).setCell ⟨w.heap.size, k * 6 + 4, none⟩ (.int .i64 hi)).setCell ⟨w.heap.size, k * 6 + 5, none⟩ (.bool al)).ownsRow w.heap.size 202 6 (.slice (some ⟨w.heap.size, 0, none⟩) len len) len (sets F (k * 6) [.int .i64 p, .int .i64 ip, .int .i64 bb, .int .i64 lo, .int .i64 hi, .bool al]) ∧ Cop RuR 6 ((((((w1.setCell ⟨w.heap.size, k * 6, none⟩ (.int .i64 p)).setCell ⟨w.heap.size, k * 6 + 1, none⟩ (.int .i64 ip)).setCell ⟨w.heap.size, k * 6 + 2, none⟩ (.int .i64 bb)).setCell ⟨w.heap.size, k * 6 + 3, none⟩ (.int .i64 lo)).setCell ⟨w.heap.size, k * 6 + 4, none⟩ (.int .i64 hi)).setCell ⟨w.heap.size, k * 6 + 5, none⟩ (.bool al)) (sets F (k * 6) [.int .i64 p, .int .i64 ip, .int .i64 bb, .int .i64 lo, .int .i64 hi, .bool al]) xs (k + 1) ∧ Below w.heap.size w ((((((w1.setCell ⟨w.heap.size, k * 6, none⟩ (.int .i64 p)).setCell ⟨w.heap.size, k * 6 + 1, none⟩ (.int .i64 ip)).setCell ⟨w.heap.size, k * 6 + 2, none⟩ (.int .i64 bb)).setCell ⟨w.heap.size, k * 6 + 3, none⟩ (.int .i64 lo)).setCell ⟨w.heap.size, k * 6 + 4, none⟩ (.int .i64 hi)).setCell ⟨w.heap.size, k * 6 + 5, none⟩ (.bool al))) := Y0 _ rfl
      clear Y0
      clear o1 b1 q0 q1 q2 q3 q4 q5 HT X HM hmk2 hx
      go_wp2
      go_roundw
      case rel => exact ⟨k + 1, _, by omega, by go_num, Y⟩
      case measure => simp [intOf]; omega
    · obtain rfl : k = len := by omega
      go_wp2
      go_ret
      exact ⟨rfl, X.out.2.1.rw X.out.1 hl, X.out.2.2⟩
set_option maxHeartbeats 2000000 in
theorem eqRuleS_yes (a a' : Option Addr) (len cap cap' : Nat) (xs : List RuleV) (w : World) (h : Rw RuR 6 w a xs) (h' : Rw RuR 6 w a' xs) (hl : xs.length = len) (hlen : len ≤ 1048576) :
    Calls Tryz.prog 197 #[.slice a len cap, .slice a' len cap'] w fun e w' => e = .returned (.bool true) ∧ Grw w w' := by
  have hne : ((len : Int) != (len : Int)) = false := by simp
  have hmix : Tryz.prog.follows .mixedOrders = true := by kernel_rfl
  have RW : Hid (Rw RuR 6 w a xs) := h
  have RW' : Hid (Rw RuR 6 w a' xs) := h'
  clear h h'
  go_enter Tryz.func197, Tryz.ntmps197
  go_wp2
  go_loopw [5] (fun i wr => ∃ k : Nat, k ≤ len ∧ i = .int .i64 k ∧ Hid (Grw w wr)) (fun i _ => len - (intOf i).toNat)
  case atStart => exact ⟨0, Nat.zero_le _, rfl, Grw.refl w⟩
  case round =>
    obtain ⟨k, hk, rfl, HG⟩ := hrel
    by_cases hlt : k < len
    · obtain ⟨x, hx⟩ := at_of hl hlt
      obtain ⟨b, off, vs, rfl, hb, hvl, hR, hc⟩ := RW.out.at RuR.kp HG.out.below hx
      obtain ⟨b', off', vs', rfl, hb', hvl', hR', hc'⟩ := RW'.out.at RuR.kp HG.out.below hx
      obtain ⟨p, ip, bb, lo, hi, al⟩ := x
      obtain ⟨rfl, hlo, hhi⟩ := hR
      obtain ⟨rfl, -, -⟩ := hR'
      have q0 : ∀ n os, (grow (wr.drewN n) os).cell? ⟨b, off + k * 6, none⟩ = some (.int .i64 p) := fun n os => grown_cell hb HG.out (hc 0 _ rfl) n os
      have q1 : ∀ n os, (grow (wr.drewN n) os).cell? ⟨b, off + k * 6 + 1, none⟩ = some (.int .i64 ip) := fun n os => grown_cell hb HG.out (hc 1 _ rfl) n os
      have q2 : ∀ n os, (grow (wr.drewN n) os).cell? ⟨b, off + k * 6 + 2, none⟩ = some (.int .i64 bb) := fun n os => grown_cell hb HG.out (hc 2 _ rfl) n os
      have q3 : ∀ n os, (grow (wr.drewN n) os).cell? ⟨b, off + k * 6 + 3, none⟩ = some (.int .i64 lo) := fun n os => grown_cell hb HG.out (hc 3 _ rfl) n os
      have q4 : ∀ n os, (grow (wr.drewN n) os).cell? ⟨b, off + k * 6 + 4, none⟩ = some (.int .i64 hi) := fun n os => grown_cell hb HG.out (hc 4 _ rfl) n os
      have q5 : ∀ n os, (grow (wr.drewN n) os).cell? ⟨b, off + k * 6 + 5, none⟩ = some (.bool al) := fun n os => grown_cell hb HG.out (hc 5 _ rfl) n os
      have r0 : ∀ n os, (grow (wr.drewN n) os).cell? ⟨b', off' + k * 6, none⟩ = some (.int .i64 p) := fun n os => grown_cell hb' HG.out (hc' 0 _ rfl) n os
      have r1 : ∀ n os, (grow (wr.drewN n) os).cell? ⟨b', off' + k * 6 + 1, none⟩ = some (.int .i64 ip) := fun n os => grown_cell hb' HG.out (hc' 1 _ rfl) n os
      have r2 : ∀ n os, (grow (wr.drewN n) os).cell? ⟨b', off' + k * 6 + 2, none⟩ = some (.int .i64 bb) := fun n os => grown_cell hb' HG.out (hc' 2 _ rfl) n os
      have r3 : ∀ n os, (grow (wr.drewN n) os).cell? ⟨b', off' + k * 6 + 3, none⟩ = some (.int .i64 lo) := fun n os => grown_cell hb' HG.out (hc' 3 _ rfl) n os
      have r4 : ∀ n os, (grow (wr.drewN n) os).cell? ⟨b', off' + k * 6 + 4, none⟩ = some (.int .i64 hi) := fun n os => grown_cell hb' HG.out (hc' 4 _ rfl) n os
      have r5 : ∀ n os, (grow (wr.drewN n) os).cell? ⟨b', off' + k * 6 + 5, none⟩ = some (.bool al) := fun n os => grown_cell hb' HG.out (hc' 5 _ rfl) n os
      have HE : Hid (∀ w, Calls Tryz.prog 246 #[.agg #[.int .i64 p, .int .i64 ip, .int .i64 bb, .int .i64 lo, .int .i64 hi, .bool al], .agg #[.int .i64 p, .int .i64 ip, .int .i64 bb, .int .i64 lo, .int .i64 hi, .bool al]] w fun e w' => e = .returned (.bool true) ∧ Grw w w') := fun w => eqRule_any _ _ _ _ _ _ w
      have hltz : (k : Int) < (len : Int) := by omega
      clear hc hc'
      go_wp2_with fail
      refine wp_region_quiet_grown (by assumption) (by kernel_rfl) ?_
      repeat (go_big_quiet_step (first | fail | (go_at_call 246; exact Calls.grown_of (HE.out _))))
      refine wpQuiet_nil ?_
      intro _ hw'
      obtain ⟨⟨nq, osq⟩, hw''⟩ := hw'
      subst hw''
      have HG2 : Hid (Grw w (grow (wr.drewN nq) osq)) := HG.out.trans ⟨nq, osq, rfl⟩
      clear q0 q1 q2 q3 q4 q5 r0 r1 r2 r3 r4 r5 HG HE
      go_wp2
      go_roundw
      case rel => exact ⟨k + 1, by omega, by go_num, HG2⟩
      case measure => simp [intOf]; omega
    · obtain rfl : k = len := by omega
      go_wp2
      go_ret
      exact ⟨rfl, HG.out⟩

theorem rw_away {w : World} {a : Option Addr} {xs : List RuleV} (h : Rw RuR 6 w a xs) {p : Addr} (hp : ∀ b off, a = some ⟨b, off, none⟩ → b ≠ p.block) (v : Value) : Rw RuR 6 (w.setCell p v) a xs := by
  intro h0
  obtain ⟨b, off, rfl, hlt, hc⟩ := h h0
  refine ⟨b, off, rfl, by simpa using hlt, fun i x hx => ?_⟩
  obtain ⟨vs, h1, h2, h3⟩ := hc i x hx
  refine ⟨vs, h1, h2, fun j u hu => ?_⟩
  rw [World.cell?_of_block (w := w) (Below.heap_setCell w p v b (hp b off rfl))]
  exact h3 j u hu
set_option maxHeartbeats 1000000 in
theorem szRole_any (nm : ByteArray) (q m i : Int) (a : Option Addr) (len cap : Nat) (l : Int) (w : World) (hs : nm.size ≤ 9223372036854775807) (hl : len ≤ 9223372036854775807) (h0 : 0 ≤ l) (h1 : l ≤ 1048576) :
    Calls Tryz.prog 104 #[.agg #[.string nm, .slice a len cap, .int .i64 q, .int .i64 m, .int .i64 i], .int .i64 l] w fun e w' => ∃ r : Int, e = .returned (.int .i64 r) ∧ (0 ≤ r → r = l - nm.size - len) ∧ -1 ≤ r ∧ r ≤ 1048576 ∧ Grw w w' := by
  by_cases h : (nm.size : Int) ≤ l
  · have HC : Hid (∀ w, Calls Tryz.prog 177 #[.slice a len cap, .int .i64 (l - nm.size)] w fun e w' => ∃ r : Int, e = .returned (.int .i64 r) ∧ (0 ≤ r → r = l - nm.size - len) ∧ -1 ≤ r ∧ r ≤ 1048576 ∧ w' = w) := fun w => szRuleS_any a len cap _ w hl (by omega) (by omega)
    go_enter Tryz.func104, Tryz.ntmps104
    go_wp2_with fail
    refine (HC.out _).mono ?_
    rintro e w1 ⟨r, rfl, hr, hr1, hr2, rfl⟩
    by_cases hr0 : r < 0
    · go_wp2
      go_ret
      exact ⟨-1, rfl, fun h => absurd h (by omega), by omega, by omega, (Grw.refl _).alloc _⟩
    · go_wp2
      go_ret
      exact ⟨r, rfl, hr, by omega, by omega, (Grw.refl _).alloc _⟩
  · go_enter Tryz.func104, Tryz.ntmps104
    go_wp2
    go_ret
    exact ⟨-1, rfl, fun h => absurd h (by omega), by omega, by omega, (Grw.refl _).alloc _⟩

set_option maxHeartbeats 2000000 in
theorem toRole_any (nm : ByteArray) (rs : List RuleV) (q m i : Int) (a : Option Addr) (len cap : Nat) (w : World) (h : Rw RuR 6 w a rs) (hl : rs.length = len) (hc : len ≤ 1048576) :
    Calls Tryz.prog 115 #[.agg #[.string nm, .slice a len cap, .int .i64 q, .int .i64 m, .int .i64 i]] w fun e w' => ∃ a', e = .returned (.agg #[.string nm, .slice a' len len, .int .i64 q, .int .i64 m, .int .i64 i]) ∧ (∀ b off, a' = some ⟨b, off, none⟩ → w.heap.size ≤ b) ∧ Rw RuR 6 w' a' rs ∧ Below w.heap.size w w' := by
  have RW : Hid (Rw RuR 6 w a rs) := h
  have HA : Hid (∀ w, Rw RuR 6 w a rs → Calls Tryz.prog 183 #[.slice a len cap] w fun e w' => e = .returned (.slice (some ⟨w.heap.size, 0, none⟩) len len) ∧ Rw RuR 6 w' (some ⟨w.heap.size, 0, none⟩) rs ∧ Below w.heap.size w w') := fun w h => toRuleS_any a len cap rs w h hl hc
  clear h
  go_enter Tryz.func115, Tryz.ntmps115
  go_wp2_with fail
  refine (HA.out _ (RW.out.keep RuR.kp ((((Below.refl w.heap.size w).alloc (by simp <;> omega) _).alloc (by simp <;> omega) _).alloc (by simp <;> omega) _))).mono ?_
  rintro e wx1 ⟨rfl, hr, bx⟩
  have c1_0_0 : wx1.cell? ⟨w.heap.size, 0, none⟩ = some (.string nm) := bkeep bx (by simp [go_sem])
  have c1_0_1 : wx1.cell? ⟨w.heap.size, 1, none⟩ = some (.slice a len cap) := bkeep bx (by simp [go_sem])
  have c1_0_2 : wx1.cell? ⟨w.heap.size, 2, none⟩ = some (.int .i64 q) := bkeep bx (by simp [go_sem])
  have c1_0_3 : wx1.cell? ⟨w.heap.size, 3, none⟩ = some (.int .i64 m) := bkeep bx (by simp [go_sem])
  have c1_0_4 : wx1.cell? ⟨w.heap.size, 4, none⟩ = some (.int .i64 i) := bkeep bx (by simp [go_sem])
  have c1_1_0 : wx1.cell? ⟨w.heap.size + 1, 0, none⟩ = some (.string ⟨#[]⟩) := bkeep bx (by simp [go_sem])
  have f1_1_0 : wx1.frozen? ⟨w.heap.size + 1, 0, none⟩ = false := bthaw bx (v := .string ⟨#[]⟩) (by simp [go_sem]) (by simp [go_sem])
  have c1_1_1 : wx1.cell? ⟨w.heap.size + 1, 1, none⟩ = some (.slice none 0 0) := bkeep bx (by simp [go_sem])
  have f1_1_1 : wx1.frozen? ⟨w.heap.size + 1, 1, none⟩ = false := bthaw bx (v := .slice none 0 0) (by simp [go_sem]) (by simp [go_sem])
  have c1_1_2 : wx1.cell? ⟨w.heap.size + 1, 2, none⟩ = some (.int .i64 0) := bkeep bx (by simp [go_sem])
  have f1_1_2 : wx1.frozen? ⟨w.heap.size + 1, 2, none⟩ = false := bthaw bx (v := .int .i64 0) (by simp [go_sem]) (by simp [go_sem])
  have c1_1_3 : wx1.cell? ⟨w.heap.size + 1, 3, none⟩ = some (.int .i64 0) := bkeep bx (by simp [go_sem])
  have f1_1_3 : wx1.frozen? ⟨w.heap.size + 1, 3, none⟩ = false := bthaw bx (v := .int .i64 0) (by simp [go_sem]) (by simp [go_sem])
  have c1_1_4 : wx1.cell? ⟨w.heap.size + 1, 4, none⟩ = some (.int .i64 0) := bkeep bx (by simp [go_sem])
  have f1_1_4 : wx1.frozen? ⟨w.heap.size + 1, 4, none⟩ = false := bthaw bx (v := .int .i64 0) (by simp [go_sem]) (by simp [go_sem])
  have c1_2_0 : wx1.cell? ⟨w.heap.size + 1 + 1, 0, none⟩ = some (.string nm) := bkeep bx (by simp [go_sem])
  have f1_2_0 : wx1.frozen? ⟨w.heap.size + 1 + 1, 0, none⟩ = false := bthaw bx (v := .string nm) (by simp [go_sem]) (by simp [go_sem])
  have c1_2_1 : wx1.cell? ⟨w.heap.size + 1 + 1, 1, none⟩ = some (.slice none 0 0) := bkeep bx (by simp [go_sem])
  have f1_2_1 : wx1.frozen? ⟨w.heap.size + 1 + 1, 1, none⟩ = false := bthaw bx (v := .slice none 0 0) (by simp [go_sem]) (by simp [go_sem])
  have c1_2_2 : wx1.cell? ⟨w.heap.size + 1 + 1, 2, none⟩ = some (.int .i64 0) := bkeep bx (by simp [go_sem])
  have f1_2_2 : wx1.frozen? ⟨w.heap.size + 1 + 1, 2, none⟩ = false := bthaw bx (v := .int .i64 0) (by simp [go_sem]) (by simp [go_sem])
  have c1_2_3 : wx1.cell? ⟨w.heap.size + 1 + 1, 3, none⟩ = some (.int .i64 0) := bkeep bx (by simp [go_sem])
  have f1_2_3 : wx1.frozen? ⟨w.heap.size + 1 + 1, 3, none⟩ = false := bthaw bx (v := .int .i64 0) (by simp [go_sem]) (by simp [go_sem])
  have c1_2_4 : wx1.cell? ⟨w.heap.size + 1 + 1, 4, none⟩ = some (.int .i64 0) := bkeep bx (by simp [go_sem])
  have f1_2_4 : wx1.frozen? ⟨w.heap.size + 1 + 1, 4, none⟩ = false := bthaw bx (v := .int .i64 0) (by simp [go_sem]) (by simp [go_sem])
  have BX1 : Hid (Below w.heap.size w wx1) := ((((Below.refl w.heap.size w).alloc (by simp <;> omega) _).alloc (by simp <;> omega) _).alloc (by simp <;> omega) _).trans (bx.mono (by simp <;> omega))
  clear bx
  simp [go_sem] at hr
  have HR : Hid (Rw RuR 6 wx1 (some ⟨w.heap.size + 1 + 1 + 1, 0, none⟩) rs) := hr
  clear hr
  go_wp2
  (try simp only [Exit.inBlock, Exit.then])
  refine bodyPost_ret (v := .agg #[.string nm, .slice (some ⟨w.heap.size + 1 + 1 + 1, 0, none⟩) len len, .int .i64 q, .int .i64 m, .int .i64 i]) (by simp [results, Tryz.results115, go_sem, c1_1_0, c1_1_1, c1_1_2, c1_1_3, c1_1_4]; try rfl) rfl ?_
  refine ⟨_, rfl, (fun b off e => by cases e; omega), ?_, (((((((((BX1.out.setCell (p := ⟨w.heap.size + 1 + 1, _, _⟩) (by show w.heap.size ≤ w.heap.size + 1 + 1; omega) _).setCell (p := ⟨w.heap.size + 1 + 1, _, _⟩) (by show w.heap.size ≤ w.heap.size + 1 + 1; omega) _).setCell (p := ⟨w.heap.size + 1 + 1, _, _⟩) (by show w.heap.size ≤ w.heap.size + 1 + 1; omega) _).setCell (p := ⟨w.heap.size + 1 + 1, _, _⟩) (by show w.heap.size ≤ w.heap.size + 1 + 1; omega) _).setCell (p := ⟨w.heap.size + 1, _, _⟩) (by show w.heap.size ≤ w.heap.size + 1; omega) _).setCell (p := ⟨w.heap.size + 1, _, _⟩) (by show w.heap.size ≤ w.heap.size + 1; omega) _).setCell (p := ⟨w.heap.size + 1, _, _⟩) (by show w.heap.size ≤ w.heap.size + 1; omega) _).setCell (p := ⟨w.heap.size + 1, _, _⟩) (by show w.heap.size ≤ w.heap.size + 1; omega) _).setCell (p := ⟨w.heap.size + 1, _, _⟩) (by show w.heap.size ≤ w.heap.size + 1; omega) _)⟩
  
  repeat (refine rw_away ?_ (fun b off e => by cases e; simp <;> omega) _)
  exact HR.out

set_option maxHeartbeats 1000000 in
theorem eqRole_yes (nm : ByteArray) (rs : List RuleV) (q m i : Int) (a a' : Option Addr) (len cap cap' : Nat) (w : World) (h : Rw RuR 6 w a rs) (h' : Rw RuR 6 w a' rs) (hl : rs.length = len) (hc : len ≤ 1048576) :
    Calls Tryz.prog 134 #[.agg #[.string nm, .slice a len cap, .int .i64 q, .int .i64 m, .int .i64 i], .agg #[.string nm, .slice a' len cap', .int .i64 q, .int .i64 m, .int .i64 i]] w fun e w' => e = .returned (.bool true) ∧ Grw w w' := by
  have RW : Hid (Rw RuR 6 w a rs) := h
  have RW' : Hid (Rw RuR 6 w a' rs) := h'
  have HA : Hid (∀ w, Rw RuR 6 w a rs → Rw RuR 6 w a' rs → Calls Tryz.prog 197 #[.slice a len cap, .slice a' len cap'] w fun e w' => e = .returned (.bool true) ∧ Grw w w') := fun w h h' => eqRuleS_yes a a' len cap cap' rs w h h' hl hc
  clear h h'
  have h0 : (nm.toList == nm.toList) = true := by simp
  have h1 : (q != q) = false := by simp
  have h2 : (m != m) = false := by simp
  have h3 : (i != i) = false := by simp
  go_enter Tryz.func134, Tryz.ntmps134
  go_wp2_with fail
  refine (HA.out _ (RW.out.keep RuR.kp (((Grw.refl w).alloc _).alloc _).below) (RW'.out.keep RuR.kp (((Grw.refl w).alloc _).alloc _).below)).mono ?_
  rintro e wx1 ⟨rfl, bx⟩
  have k0_0 : World.cell? _ ⟨w.heap.size, 0, none⟩ = some (.string nm) := bx.keep (a := ⟨w.heap.size, 0, none⟩) (v := .string nm) (by simp [go_sem])
  have k0_1 : World.cell? _ ⟨w.heap.size, 1, none⟩ = some (.slice a len cap) := bx.keep (a := ⟨w.heap.size, 1, none⟩) (v := .slice a len cap) (by simp [go_sem])
  have k0_2 : World.cell? _ ⟨w.heap.size, 2, none⟩ = some (.int .i64 q) := bx.keep (a := ⟨w.heap.size, 2, none⟩) (v := .int .i64 q) (by simp [go_sem])
  have k0_3 : World.cell? _ ⟨w.heap.size, 3, none⟩ = some (.int .i64 m) := bx.keep (a := ⟨w.heap.size, 3, none⟩) (v := .int .i64 m) (by simp [go_sem])
  have k0_4 : World.cell? _ ⟨w.heap.size, 4, none⟩ = some (.int .i64 i) := bx.keep (a := ⟨w.heap.size, 4, none⟩) (v := .int .i64 i) (by simp [go_sem])
  have k1_0 : World.cell? _ ⟨w.heap.size + 1, 0, none⟩ = some (.string nm) := bx.keep (a := ⟨w.heap.size + 1, 0, none⟩) (v := .string nm) (by simp [go_sem])
  have k1_1 : World.cell? _ ⟨w.heap.size + 1, 1, none⟩ = some (.slice a' len cap') := bx.keep (a := ⟨w.heap.size + 1, 1, none⟩) (v := .slice a' len cap') (by simp [go_sem])
  have k1_2 : World.cell? _ ⟨w.heap.size + 1, 2, none⟩ = some (.int .i64 q) := bx.keep (a := ⟨w.heap.size + 1, 2, none⟩) (v := .int .i64 q) (by simp [go_sem])
  have k1_3 : World.cell? _ ⟨w.heap.size + 1, 3, none⟩ = some (.int .i64 m) := bx.keep (a := ⟨w.heap.size + 1, 3, none⟩) (v := .int .i64 m) (by simp [go_sem])
  have k1_4 : World.cell? _ ⟨w.heap.size + 1, 4, none⟩ = some (.int .i64 i) := bx.keep (a := ⟨w.heap.size + 1, 4, none⟩) (v := .int .i64 i) (by simp [go_sem])
  have BX : Hid (Grw w _) := (((Grw.refl _).alloc _).alloc _).trans bx
  clear bx
  go_wp2
  go_ret
  exact ⟨rfl, BX.out⟩

end Go.Proofs.YtlebblmlbhnppaaGreat
