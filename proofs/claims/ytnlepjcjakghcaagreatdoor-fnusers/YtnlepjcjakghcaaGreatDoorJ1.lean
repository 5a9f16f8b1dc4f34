/- Regions that draw their order, whatever they do, walked once: each operation has a fact of its own (a resource: a fact of values and of the blocks that it owns), is shown from the facts of those that it waits for, and may take a fact's blocks over. Nothing of the program is imported. As Rel, with blocks that may hang on the world (rows within rows): regions that draw their order, whatever they do, walked once: each operation has a fact of its own (a resource: a fact of values and of the blocks that it owns), is shown from the facts of those that it waits for, and may take a fact's blocks over. Worlds that have come of another by draws and new blocks alone. Nothing of the program is imported. What is kept by all that leaves old blocks as they were. Nothing of the program is imported. Rows of structs, K cells an element: opened, stored into, kept. Nothing of the program is imported. Boxes of any struct: a struct in a block, read and written whole. Nothing of the program is used. Regions by resources whose blocks may hang on the world: the kinds of resources. Rows of one's own of flat structs, K cells an element. Nothing of the program is imported. Rows of one's own of flat structs: the last fields of an element stored; a row joined. Nothing of the program is imported. Kinds of values of one's own: what lies, in which blocks (which may hang on the world), as resources of RelW. Rules, places, roles, as values; what comes in as an argument, opened. Plain numbers: the words' sum of a row of bytes, and its folding into sixteen bits, as closed forms; nothing of the program is imported. A row of bytes in memory, told as a function of the place; what it is as a string; nothing of the program is imported. A new row of bytes that a loop fills: what its rounds keep. Nothing of the program is imported. -/
import Derived.WalkKit
import Derived.Below
import Derived.Still
import Derived.PlainAid
import Derived.Shelf.SlSortCmp.QuietGrown
import Derived.BigQuiet
import Derived.OpenShut
import Derived.Deep.Slices
import Derived.Laws.AppendOwn
import Derived.Laws.OwnMore
import Derived.Laws.MakeOwn
import Derived.Deep.MidRow
import Derived.Laws.AppendOwnNone
import Derived.Test.YtnlepjcjakghcaaGreatDoorProg
import Derived.WalkSpells
import Derived.Laws.BytesArg
import Derived.Deep.OwnRows
namespace Go.Proofs.YtnlepjcjakghcaaGreatDoor
open Go.RowKit
set_option linter.unusedVariables false

namespace Rel
/-- In the blocks of B nothing has turned; the streams are as they were; no block has gone. -/
structure Keep (B : Nat → Prop) (w w' : World) : Prop where
  os : w'.os = w.os
  tape : w'.tape = w.tape
  output : w'.output = w.output
  size : w.heap.size ≤ w'.heap.size
  block : ∀ k, B k → w'.heap[k]? = w.heap[k]?
theorem Keep.refl (B : Nat → Prop) (w : World) : Keep B w w := ⟨rfl, rfl, rfl, Nat.le_refl _, fun _ _ => rfl⟩
theorem Keep.trans {B : Nat → Prop} {a b c : World} (h : Keep B a b) (k : Keep B b c) : Keep B a c :=
  ⟨k.os.trans h.os, k.tape.trans h.tape, k.output.trans h.output, Nat.le_trans h.size k.size, fun i hi => (k.block i hi).trans (h.block i hi)⟩
theorem Keep.mono {B C : Nat → Prop} {a b : World} (h : Keep B a b) (hc : ∀ k, C k → B k) : Keep C a b := ⟨h.os, h.tape, h.output, h.size, fun i hi => h.block i (hc i hi)⟩

def upd (σ : Nat → Value) (i : Nat) (v : Value) : Nat → Value := fun j => if j = i then v else σ j
theorem upd_self (σ : Nat → Value) (i : Nat) (v : Value) : upd σ i v i = v := if_pos rfl
theorem upd_ne (σ : Nat → Value) {i j : Nat} (v : Value) (h : j ≠ i) : upd σ i v j = σ j := if_neg h

/-- What an operation leaves: a fact of the values so far and of the world, and the blocks that it owns. -/
structure Rsc where
  fact : (Nat → Value) → World → Prop
  own : (Nat → Value) → Nat → Prop
  dm : List Nat
  tk : List Nat
  nd : List Nat

/-- The fact hangs on its own blocks and those of Bs alone, and on the values of dm alone. -/
structure Rsc.Ok (Bs : Nat → Prop) (r : Rsc) : Prop where
  loc : ∀ σ w w', r.fact σ w → Keep (fun b => Bs b ∨ r.own σ b) w w' → r.fact σ w'
  ext : ∀ σ σ' : Nat → Value, (∀ j, j ∈ r.dm → σ' j = σ j) → (∀ w, r.fact σ w → r.fact σ' w) ∧ (∀ b, r.own σ' b → r.own σ b)

def dstOf (ops : Array Oper) (k : Nat) : Option Tmp := (ops[k]?).bind (·.dst)

/-- The frame with the values of those that are listed. -/
def mixFr (ops : Array Oper) (a0 : Act) (σ : Nat → Value) (L : Nat → Bool) : Nat → Act
  | 0 => a0
  | k + 1 => if L k then (mixFr ops a0 σ L k).put (dstOf ops k) (σ k) else mixFr ops a0 σ L k

def look (ops : Array Oper) (a0 : Act) (σ : Nat → Value) (L : Nat → Bool) (t : Nat) : Nat → Option Value
  | 0 => a0.tmps[t]?
  | k + 1 => if L k = true ∧ dstOf ops k = some t ∧ t < a0.tmps.size then some (σ k) else look ops a0 σ L t k

theorem mixFr_size (ops : Array Oper) (a0 : Act) (σ : Nat → Value) (L : Nat → Bool) : ∀ n, (mixFr ops a0 σ L n).tmps.size = a0.tmps.size
  | 0 => rfl
  | k + 1 => by
    unfold mixFr
    split
    · unfold Act.put
      split
      · simp [mixFr_size ops a0 σ L k]
      · exact mixFr_size ops a0 σ L k
    · exact mixFr_size ops a0 σ L k

theorem mixFr_look (ops : Array Oper) (a0 : Act) (σ : Nat → Value) (L : Nat → Bool) (t : Nat) : ∀ n, (mixFr ops a0 σ L n).tmps[t]? = look ops a0 σ L t n
  | 0 => rfl
  | k + 1 => by
    have ih := mixFr_look ops a0 σ L t k
    have hs := mixFr_size ops a0 σ L k
    unfold mixFr look
    by_cases hL : L k = true
    · rw [if_pos hL]
      cases hd : dstOf ops k with
      | none => simp only [Act.put]; rw [if_neg (by rintro ⟨_, h, _⟩; cases h)]; exact ih
      | some d =>
        simp only [Act.put]
        by_cases e : d = t
        · subst e
          by_cases hlt : d < a0.tmps.size
          · rw [if_pos ⟨hL, rfl, hlt⟩, Array.getElem?_setIfInBounds_self_of_lt (by rw [hs]; exact hlt)]
          · have hle : (mixFr ops a0 σ L k).tmps.size ≤ d := by rw [hs]; exact Nat.le_of_not_lt hlt
            rw [if_neg (by rintro ⟨_, _, h⟩; exact hlt h), ← ih, Array.setIfInBounds_eq_of_size_le hle]
        · rw [if_neg (by rintro ⟨_, h, _⟩; exact e (Option.some.inj h)), Array.getElem?_setIfInBounds_ne e]
          exact ih
    · rw [if_neg hL, if_neg (by rintro ⟨h, _⟩; exact hL h)]
      exact ih

theorem look_same {ops : Array Oper} {a0 : Act} {σ : Nat → Value} {L L' : Nat → Bool} {t : Nat} : ∀ n, (∀ k, k < n → dstOf ops k = some t → L k = L' k) → look ops a0 σ L t n = look ops a0 σ L' t n
  | 0, _ => rfl
  | k + 1, h => by
    unfold look
    rw [look_same k (fun j hj => h j (by omega))]
    by_cases e : dstOf ops k = some t
    · rw [h k (by omega) e]
    · rw [if_neg (fun x => e x.2.1), if_neg (fun x => e x.2.1)]
theorem look_cut {ops : Array Oper} {a0 : Act} {σ : Nat → Value} {L : Nat → Bool} {t i : Nat} (h : ∀ k, dstOf ops k = some t → k < i) : ∀ n, i ≤ n → look ops a0 σ L t n = look ops a0 σ L t i
  | 0, hn => by have : i = 0 := by omega
                subst this; rfl
  | k + 1, hn => by
    by_cases e : i = k + 1
    · rw [e]
    · rw [← look_cut h k (by omega)]
      conv => lhs; unfold look
      rw [if_neg (fun x => by have := h k x.2.1; omega)]

theorem mixFr_low {ops : Array Oper} {a0 : Act} {σ σ' : Nat → Value} {L L' : Nat → Bool} : ∀ n, (∀ k, k < n → L k = L' k ∧ σ k = σ' k) → mixFr ops a0 σ L n = mixFr ops a0 σ' L' n
  | 0, _ => rfl
  | k + 1, h => by
    unfold mixFr
    rw [mixFr_low k (fun j hj => h j (by omega)), (h k (by omega)).1, (h k (by omega)).2]

theorem mixFr_add {ops : Array Oper} {a0 : Act} {σ : Nat → Value} {L L' : Nat → Bool} {i : Nat} {v : Value} (hd : ∀ k, k ≠ i → ∀ d, dstOf ops i = some d → dstOf ops k ≠ some d) (hi : L i = false) (hi' : L' i = true) (hL : ∀ k, k ≠ i → L' k = L k) :
    ∀ n, i < n → mixFr ops a0 (upd σ i v) L' n = (mixFr ops a0 σ L n).put (dstOf ops i) v
  | 0, hn => by omega
  | k + 1, hn => by
    by_cases e : i = k
    · subst e
      unfold mixFr
      rw [if_pos hi', if_neg (by rw [hi]; exact Bool.false_ne_true), upd_self]
      rw [mixFr_low i (fun j hj => ⟨hL j (by omega), upd_ne σ v (by omega)⟩)]
    · have ih := mixFr_add (v := v) (σ := σ) (a0 := a0) hd hi hi' hL k (by omega)
      unfold mixFr
      rw [hL k (fun h => e h.symm), upd_ne σ v (fun h => e h.symm), ih]
      split
      · exact Act.put_comm _ _ _ (fun d h => hd k (fun h => e h.symm) d h)
      · rfl

def waits (o : Oper) (j : Nat) : Bool := o.after.any fun e => Region.binds .any e && e.on == j
def waitsAt (ops : Array Oper) (t i : Nat) : Bool := match ops[t]? with | some o => waits o i | none => false

/-- What the region and the resources must show by looking. -/
def check (ops : Array Oper) (R : List Rsc) (ini : List Nat) : Bool :=
  Region.noSelect ops && ini.all (fun k => decide (ops.size ≤ k) && ((R[k]?).map fun r => r.dm.isEmpty && r.tk.isEmpty).getD false) &&
  (List.range ops.size).all fun i => match ops[i]?, R[i]? with
    | some o, some r =>
      (o.after.all fun e => !Region.binds .any e || decide (e.on < i)) &&
      ((List.range ops.size).all fun j => match dstOf ops j with
        | none => true
        | some d => (j == i || dstOf ops i != some d) && (!(o.looksAt ops).contains d || waits o j)) &&
      ((r.tk ++ r.nd).all fun j => (waits o j || ini.contains j) && (List.range ops.size).all fun t => t == i || !(((R[t]?).map (·.tk)).getD []).contains j || waitsAt ops t i) &&
      r.dm.all (fun j => j == i || waits o j)
    | _, _ => false

/-- What an operation that has run has yielded. -/
def relUpon (P : Program) (post : Value → World → Prop) : Result Next → Prop
  | .ok (.value u) w' => post u w'
  | .ok .skip w' => post undef w'
  | .ok (.enter f args) w' => Calls P f args w' fun e w'' => ∃ v, e = .returned v ∧ post v w''
  | .ok (.row row args) w' => Rows P row args w' post
  | _ => False

/-- One operation: run in the frame of those ahead of it in the text, at a world where the facts that it wants hold. -/
def factsOf (Bs : Nat → Prop) (R : List Rsc) (σ : Nat → Value) (w : World) : List Nat → Prop
  | [] => True
  | j :: l => (∃ r, R[j]? = some r ∧ r.fact σ w ∧ ∀ b, r.own σ b → b < w.heap.size ∧ ¬ Bs b) ∧ factsOf Bs R σ w l

/-- What is asked of what it leaves. -/
structure Left (R : List Rsc) (r : Rsc) (i : Nat) (σ : Nat → Value) (w : World) (v : Value) (w' : World) : Prop where
  fact : r.fact (upd σ i v) w'
  own : ∀ b, r.own (upd σ i v) b → (∃ j rj, j ∈ r.tk ∧ R[j]? = some rj ∧ rj.own σ b) ∨ (w.heap.size ≤ b ∧ b < w'.heap.size)
  keep : Keep (fun b => b < w.heap.size ∧ ∀ j rj, j ∈ r.tk → R[j]? = some rj → ¬ rj.own σ b) w w'

def StepAt (P : Program) (ops : Array Oper) (Bs : Nat → Prop) (wS : World) (R : List Rsc) (i : Nat) (o : Oper) (r : Rsc) (Fr : (Nat → Value) → Act) : Prop :=
  ∀ σ w, Keep Bs wS w → factsOf Bs R σ w (r.tk ++ r.nd) →
    if Region.wanted o (yielded ops (Fr σ).tmps) = true then relUpon P (Left R r i σ w) ((execOp (Fr σ).eval o).run P w) else Left R r i σ w undef w

/-- All of them, in the order of the text. -/
def Walk (P : Program) (ops : Array Oper) (Bs : Nat → Prop) (wS : World) (R : List Rsc) : List Oper → List Rsc → Nat → ((Nat → Value) → Act) → Prop
  | o :: l, r :: rs, i, Fr => StepAt P ops Bs wS R i o r Fr ∧ Walk P ops Bs wS R l rs (i + 1) (fun σ => (Fr σ).put o.dst (σ i))
  | _, _, _, _ => True
def putAll : List Oper → Nat → Act → (Nat → Value) → Act
  | [], _, a, _ => a
  | o :: l, k, a, σ => putAll l (k + 1) (a.put o.dst (σ k)) σ

section
variable {P : Program} {ops : Array Oper} {Bs : Nat → Prop} {wS : World} {R : List Rsc} {ini fin : List Nat} {a0 : Act} {Q : Exit → Act → World → Prop}

def Held (ops : Array Oper) (R : List Rsc) (ini : List Nat) (listed : Array Bool) (k : Nat) : Prop :=
  (k ∈ ini ∨ (k < ops.size ∧ listed.getD k false = true)) ∧ ∀ t r, R[t]? = some r → t < ops.size → listed.getD t false = true → k ∉ r.tk

structure Inv (ops : Array Oper) (Bs : Nat → Prop) (wS : World) (R : List Rsc) (ini : List Nat) (a0 : Act) (listed : Array Bool) (σ : Nat → Value) (a : Act) (w : World) : Prop where
  sz : listed.size = ops.size
  fr : a = mixFr ops a0 σ (fun k => listed.getD k false) ops.size
  keep : Keep Bs wS w
  closed : ∀ t o, listed.getD t false = true → ops[t]? = some o → ∀ e ∈ o.after, Region.binds .any e = true → listed.getD e.on false = true
  held : ∀ k r, R[k]? = some r → Held ops R ini listed k → r.fact σ w ∧ ∀ b, r.own σ b → b < w.heap.size ∧ ¬ Bs b
  apart : ∀ j k rj rk, R[j]? = some rj → R[k]? = some rk → Held ops R ini listed j → Held ops R ini listed k → j ≠ k → ∀ b, rj.own σ b → ¬ rk.own σ b

structure Chk (ops : Array Oper) (R : List Rsc) (ini : List Nat) : Prop where
  nosel : Region.noSelect ops = true
  inis : ∀ k, k ∈ ini → ops.size ≤ k ∧ ∃ r, R[k]? = some r ∧ r.dm = []
  has : ∀ i, i < ops.size → ∃ o r, ops[i]? = some o ∧ R[i]? = some r
  low : ∀ (i : Nat) o, ops[i]? = some o → ∀ e ∈ o.after, Region.binds .any e = true → e.on < i
  dst : ∀ i j, i < ops.size → j ≠ i → ∀ d, dstOf ops i = some d → dstOf ops j ≠ some d
  looks : ∀ (i : Nat) o (j : Nat) d, ops[i]? = some o → dstOf ops j = some d → d ∈ o.looksAt ops → waits o j = true
  wants : ∀ (i : Nat) o r (j : Nat), ops[i]? = some o → R[i]? = some r → j ∈ r.tk ++ r.nd → (waits o j = true ∨ j ∈ ini) ∧ ∀ t rt, R[t]? = some rt → t < ops.size → t ≠ i → j ∈ rt.tk → waitsAt ops t i = true
  dm : ∀ (i : Nat) o r (j : Nat), ops[i]? = some o → R[i]? = some r → j ∈ r.dm → j = i ∨ waits o j = true

theorem dstOf_lt {j : Nat} {d : Tmp} (h : dstOf ops j = some d) : j < ops.size := by
  unfold dstOf at h
  cases ho : ops[j]? with
  | none => rw [ho] at h; cases h
  | some o => exact (Array.getElem?_eq_some_iff.1 ho).1

theorem chk_of (h : check ops R ini = true) : Chk ops R ini := by
  unfold check at h
  simp only [Bool.and_eq_true, List.all_eq_true, List.mem_range] at h
  obtain ⟨⟨h1, h2⟩, h3⟩ := h
  have at3 : ∀ i o, ops[i]? = some o → ∃ r, R[i]? = some r ∧
      (o.after.all fun e => !Region.binds .any e || decide (e.on < i)) = true ∧
      ((List.range ops.size).all fun j => match dstOf ops j with
        | none => true
        | some d => (j == i || dstOf ops i != some d) && (!(o.looksAt ops).contains d || waits o j)) = true ∧
      ((r.tk ++ r.nd).all fun j => (waits o j || ini.contains j) && (List.range ops.size).all fun t => t == i || !(((R[t]?).map (·.tk)).getD []).contains j || waitsAt ops t i) = true ∧
      r.dm.all (fun j => j == i || waits o j) = true := by
    intro i o ho
    have hi := (Array.getElem?_eq_some_iff.1 ho).1
    have := h3 i hi
    rw [ho] at this
    cases hr : R[i]? with
    | none => rw [hr] at this; simp at this
    | some r =>
      rw [hr] at this
      simp only [Bool.and_eq_true] at this
      exact ⟨r, rfl, this.1.1.1, this.1.1.2, this.1.2, this.2⟩
  refine ⟨h1, ?_, ?_, ?_, ?_, ?_, ?_, ?_⟩
  · intro k hk
    have := h2 k hk
    rw [decide_eq_true_eq] at this
    refine ⟨this.1, ?_⟩
    cases hr : R[k]? with
    | none => rw [hr] at this; simp at this
    | some r =>
      rw [hr] at this
      simp only [Option.map_some, Option.getD_some, Bool.and_eq_true] at this
      exact ⟨r, rfl, List.isEmpty_iff.1 this.2.1⟩
  · intro i hi
    obtain ⟨r, hr, _⟩ := at3 i ops[i] (Array.getElem?_eq_getElem hi)
    exact ⟨_, r, Array.getElem?_eq_getElem hi, hr⟩
  · intro i o ho e he hb
    obtain ⟨r, hr, h, _⟩ := at3 i o ho
    have := Array.all_eq_true_iff_forall_mem.1 h e he
    simpa [hb] using this
  · intro i j hi hne d hd hj
    obtain ⟨r, hr, _, h, _⟩ := at3 i ops[i] (Array.getElem?_eq_getElem hi)
    have := List.all_eq_true.1 h j (List.mem_range.2 (dstOf_lt hj))
    rw [hj] at this
    simp [hd, hne] at this
  · intro i o j d ho hj hl
    obtain ⟨r, hr, _, h, _⟩ := at3 i o ho
    have := List.all_eq_true.1 h j (List.mem_range.2 (dstOf_lt hj))
    rw [hj] at this
    simp only [Bool.and_eq_true, Bool.or_eq_true, Bool.not_eq_true'] at this
    rcases this.2 with hx | hx
    · rw [List.contains_iff_mem.2 hl] at hx; cases hx
    · exact hx
  · intro i o r j ho hr hj
    obtain ⟨r', hr', _, _, h, _⟩ := at3 i o ho
    rw [hr] at hr'; cases hr'
    have := List.all_eq_true.1 h j hj
    simp only [Bool.and_eq_true, Bool.or_eq_true, List.all_eq_true, List.mem_range, Bool.not_eq_true'] at this
    refine ⟨this.1.imp id (fun hx => List.contains_iff_mem.1 hx), fun t rt ht hlt hne hm => ?_⟩
    rcases this.2 t hlt with (hx | hx) | hx
    · exact absurd (by simpa using hx) hne
    · rw [ht] at hx; simp only [Option.map_some, Option.getD_some] at hx; rw [List.contains_iff_mem.2 hm] at hx; cases hx
    · exact hx
  · intro i o r j ho hr hj
    obtain ⟨r', hr', _, _, _, h⟩ := at3 i o ho
    rw [hr] at hr'; cases hr'
    have := List.all_eq_true.1 h j hj
    simpa using this

theorem waits_listed {listed : Array Bool} {o : Oper} {j : Nat} (hw : waits o j = true) (h : ∀ e ∈ o.after, Region.binds .any e = true → listed.getD e.on false = true) : listed.getD j false = true := by
  unfold waits at hw
  rw [Array.any_eq_true'] at hw
  obtain ⟨e, he, hx⟩ := hw
  simp only [Bool.and_eq_true, beq_iff_eq] at hx
  have := h e he hx.1
  rwa [hx.2] at this

theorem factsOf_of {σ : Nat → Value} {w : World} : ∀ l : List Nat, (∀ j, j ∈ l → ∃ r, R[j]? = some r ∧ r.fact σ w ∧ ∀ b, r.own σ b → b < w.heap.size ∧ ¬ Bs b) → factsOf Bs R σ w l
  | [], _ => trivial
  | j :: l, h => ⟨h j (by simp), factsOf_of l (fun i hi => h i (by simp [hi]))⟩

theorem walk_drop {l : List Oper} {ops : Array Oper} (hW : Walk P ops Bs wS R l R 0 (fun _ => a0)) (ho : ops = l.toArray) : ∀ k, k ≤ l.length → Walk P ops Bs wS R (l.drop k) (R.drop k) k (fun σ => mixFr ops a0 σ (fun _ => true) k) ∨ R.length < k
  | 0, _ => .inl (by
    rw [List.drop_zero, List.drop_zero]
    exact hW)
  | k + 1, hk => by
    rcases walk_drop hW ho k (by omega) with h | h
    · by_cases hr : k < R.length
      · rw [List.drop_eq_getElem_cons (show k < l.length by omega), List.drop_eq_getElem_cons hr] at h
        refine .inl ?_
        have h2 := h.2
        have e : ∀ σ, (mixFr ops a0 σ (fun _ => true) k).put (l[k]'(by omega)).dst (σ k) = mixFr ops a0 σ (fun _ => true) (k + 1) := fun σ => by
          conv => rhs; unfold mixFr
          rw [if_pos rfl]
          congr 1
          unfold dstOf
          rw [ho]
          simp [show k < l.length by omega]
        simp only [e] at h2
        exact h2
      · exact .inr (by omega)
    · exact .inr (by omega)

theorem walk_at {l : List Oper} (hW : Walk P l.toArray Bs wS R l R 0 (fun _ => a0)) {i : Nat} {o : Oper} {r : Rsc} (ho : l.toArray[i]? = some o) (hr : R[i]? = some r) :
    StepAt P l.toArray Bs wS R i o r (fun σ => mixFr l.toArray a0 σ (fun _ => true) i) := by
  have hi : i < l.length := by simpa using (Array.getElem?_eq_some_iff.1 ho).1
  have hri := (List.getElem?_eq_some_iff.1 hr).1
  rcases walk_drop hW rfl i (by omega) with h | h
  · rw [List.drop_eq_getElem_cons hi, List.drop_eq_getElem_cons hri] at h
    have h1 := h.1
    have e1 : l[i] = o := by simpa [hi] using ho
    have e2 : R[i] = r := by simpa [hri] using hr
    rw [e1, e2] at h1
    exact h1
  · omega

theorem putAll_mix {l : List Oper} {σ : Nat → Value} : ∀ m k, k + m = l.length → putAll (l.drop k) k (mixFr l.toArray a0 σ (fun _ => true) k) σ = mixFr l.toArray a0 σ (fun _ => true) l.length
  | 0, k, h => by
    have : k = l.length := by omega
    subst this
    simp [putAll]
  | m + 1, k, h => by
    rw [List.drop_eq_getElem_cons (show k < l.length by omega)]
    unfold putAll
    rw [← putAll_mix m (k + 1) (by omega)]
    congr 1
    conv => rhs; unfold mixFr
    rw [if_pos rfl]
    congr 1
    unfold dstOf
    simp [show k < l.length by omega]

theorem getD_t {listed : Array Bool} {i k : Nat} : (listed.setIfInBounds i true).getD k false = if k = i ∧ i < listed.size then true else listed.getD k false := by
  by_cases h : k = i
  · subst h
    by_cases hs : k < listed.size
    · simp [hs]
    · simp [hs]
  · rw [if_neg (fun x => h x.1)]
    exact getD_set_ne false (fun e => h e.symm)

/-- Whatever operation comes up: it runs as in the frame of the text. -/
theorem inv_run (hc : Chk ops R ini) {listed : Array Bool} {σ : Nat → Value} {a : Act} {w : World} (hI : Inv ops Bs wS R ini a0 listed σ a w) {i : Nat} {o : Oper} (ho : ops[i]? = some o) (hall : ∀ e ∈ o.after, Region.binds .any e = true → listed.getD e.on false = true) :
    execOp a.eval o = execOp (mixFr ops a0 σ (fun _ => true) i).eval o ∧ Region.wanted o (yielded ops a.tmps) = Region.wanted o (yielded ops (mixFr ops a0 σ (fun _ => true) i).tmps) := by
  have hi := (Array.getElem?_eq_some_iff.1 ho).1
  have key : ∀ d, d ∈ o.looksAt ops → a.tmps[d]? = (mixFr ops a0 σ (fun _ => true) i).tmps[d]? := by
    intro d hd
    have hw : ∀ j, dstOf ops j = some d → listed.getD j false = true ∧ j < i := fun j hj => by
      have := hc.looks i o j d ho hj hd
      refine ⟨waits_listed this hall, ?_⟩
      unfold waits at this
      rw [Array.any_eq_true'] at this
      obtain ⟨e, he, hx⟩ := this
      simp only [Bool.and_eq_true, beq_iff_eq] at hx
      have := hc.low i o ho e he hx.1
      omega
    rw [hI.fr, mixFr_look, mixFr_look, ← look_cut (fun k hk => (hw k hk).2) ops.size (by omega)]
    exact look_same _ (fun k _ hk => (hw k hk).1)
  constructor
  · refine execOp_congr o (fun cs b => Region.noSelect_spec hc.nosel i o cs b ho) (fun x hx => ?_)
    cases x with
    | tmp t =>
      have := key t (List.mem_append_left _ (List.mem_filterMap.2 ⟨.tmp t, by simpa using hx, rfl⟩))
      simp only [Act.eval, Array.getD_eq_getD_getElem?, this]
    | _ => rfl
  · unfold Region.wanted
    cases hg : o.guard with
    | none => rfl
    | some gw =>
      obtain ⟨g, want⟩ := gw
      have hy : yielded ops a.tmps g = yielded ops (mixFr ops a0 σ (fun _ => true) i).tmps g := by
        unfold yielded
        cases ht : (ops[g]?).bind (·.dst) with
        | none => rfl
        | some t =>
          have := key t (by simp [Oper.looksAt, hg, ht])
          simp [this]
      simp only [hy]

/-- The operation has run: the invariant holds with it listed. -/
theorem inv_step (hc : Chk ops R ini) (hok : ∀ (k : Nat) (r : Rsc), R[k]? = some r → r.Ok Bs) (hBs : ∀ b, Bs b → b < wS.heap.size) {listed : Array Bool} {σ : Nat → Value} {a : Act} {w : World} (hI : Inv ops Bs wS R ini a0 listed σ a w)
    {i : Nat} {o : Oper} {r : Rsc} (ho : ops[i]? = some o) (hr : R[i]? = some r) (hun : listed.getD i true = false) (hall : ∀ e ∈ o.after, Region.binds .any e = true → listed.getD e.on false = true) {v : Value} {w' : World} (hL : Left R r i σ w v w') :
    Inv ops Bs wS R ini a0 (listed.setIfInBounds i true) (upd σ i v) (a.put o.dst v) w' := by
  have hi := (Array.getElem?_eq_some_iff.1 ho).1
  have hil : i < listed.size := by rw [hI.sz]; exact hi
  have hif : listed.getD i false = false := by
    rw [Array.getD_eq_getD_getElem?, Array.getElem?_eq_getElem hil] at hun ⊢
    exact hun
  have hdst : dstOf ops i = o.dst := by unfold dstOf; rw [ho]; rfl
  -- those that are taken are held
  have htk : ∀ j, j ∈ r.tk ++ r.nd → Held ops R ini listed j := fun j hj => by
    obtain ⟨h1, h2⟩ := hc.wants i o r j ho hr hj
    refine ⟨?_, fun t rt ht hlt hl hm => ?_⟩
    · rcases h1 with h1 | h1
      · have hlj := waits_listed h1 hall
        refine .inr ⟨?_, hlj⟩
        rw [← hI.sz]
        rcases Nat.lt_or_ge j listed.size with h | h
        · exact h
        · rw [Array.getD_eq_getD_getElem?, Array.getElem?_eq_none h] at hlj; cases hlj
      · exact .inl h1
    · have hne : t ≠ i := fun e => by subst e; rw [hif] at hl; cases hl
      have hw := h2 t rt ht hlt hne hm
      unfold waitsAt at hw
      split at hw
      · rename_i ot hot
        have := waits_listed hw (hI.closed t ot hl hot)
        rw [hif] at this; cases this
      · cases hw
  -- who is held behind it
  have hold : ∀ k, k ≠ i → Held ops R ini (listed.setIfInBounds i true) k → Held ops R ini listed k ∧ k ∉ r.tk := fun k hk h => by
    refine ⟨⟨?_, fun t rt ht hlt hl => h.2 t rt ht hlt (getD_set_true hl)⟩, h.2 i r hr hi (by rw [getD_t, if_pos ⟨rfl, hil⟩])⟩
    rcases h.1 with h1 | h1
    · exact .inl h1
    · refine .inr ⟨h1.1, ?_⟩
      have := h1.2
      rw [getD_t, if_neg (fun x => hk x.1)] at this
      exact this
  -- the values that a held fact hangs on are there
  have hdm : ∀ k rk, R[k]? = some rk → k ≠ i → Held ops R ini listed k → ∀ j, j ∈ rk.dm → upd σ i v j = σ j ∧ σ j = upd σ i v j := fun k rk hrk hki hh j hj => by
    have hne : j ≠ i := by
      intro e
      rcases hh.1 with h1 | h1
      · obtain ⟨_, r', hr', hd⟩ := hc.inis k h1
        rw [hrk] at hr'; cases hr'
        rw [hd] at hj; cases hj
      · obtain ⟨ok, rk', hok', hrk'⟩ := hc.has k h1.1
        rw [hrk] at hrk'; cases hrk'
        rcases hc.dm k ok rk j hok' hrk hj with h2 | h2
        · omega
        · have := waits_listed h2 (hI.closed k ok h1.2 hok')
          rw [e, hif] at this; cases this
    exact ⟨upd_ne σ v hne, (upd_ne σ v hne).symm⟩
  have hsz := hL.keep.size
  have hw0 := hI.keep.size
  -- an old fact's blocks are as they were
  have hblk : ∀ k rk, R[k]? = some rk → k ≠ i → Held ops R ini (listed.setIfInBounds i true) k → Keep (fun b => Bs b ∨ rk.own σ b) w w' := fun k rk hrk hki hh => by
    obtain ⟨h1, h2⟩ := hold k hki hh
    refine hL.keep.mono (fun b hb => ?_)
    rcases hb with hb | hb
    · refine ⟨Nat.lt_of_lt_of_le (hBs b hb) hw0, fun j rj hj hrj hob => ?_⟩
      exact ((hI.held j rj hrj (htk j (List.mem_append_left _ hj))).2 b hob).2 hb
    · refine ⟨((hI.held k rk hrk h1).2 b hb).1, fun j rj hj hrj hob => ?_⟩
      exact hI.apart j k rj rk hrj hrk (htk j (List.mem_append_left _ hj)) h1 (fun e => h2 (e ▸ hj)) b hob hb
  have howni : ∀ b, r.own (upd σ i v) b → b < w'.heap.size ∧ ¬ Bs b := fun b hb => by
    rcases hL.own b hb with ⟨j, rj, hj, hrj, hob⟩ | ⟨h1, h2⟩
    · have := (hI.held j rj hrj (htk j (List.mem_append_left _ hj))).2 b hob
      exact ⟨Nat.lt_of_lt_of_le this.1 hsz, this.2⟩
    · exact ⟨h2, fun hb' => by have := hBs b hb'; omega⟩
  have hownk : ∀ k rk, R[k]? = some rk → k ≠ i → Held ops R ini (listed.setIfInBounds i true) k → ∀ b, rk.own (upd σ i v) b → rk.own σ b := fun k rk hrk hki hh b hb =>
    ((hok k rk hrk).ext σ (upd σ i v) (fun j hj => (hdm k rk hrk hki (hold k hki hh).1 j hj).1)).2 b hb
  have hia : ∀ k rk, R[k]? = some rk → k ≠ i → Held ops R ini (listed.setIfInBounds i true) k → ∀ b, r.own (upd σ i v) b → ¬ rk.own (upd σ i v) b := fun k rk hrk hki hh b hb hb' => by
    have hb2 := hownk k rk hrk hki hh b hb'
    obtain ⟨h1, h2⟩ := hold k hki hh
    rcases hL.own b hb with ⟨j, rj, hj, hrj, hob⟩ | ⟨h3, h4⟩
    · exact hI.apart j k rj rk hrj hrk (htk j (List.mem_append_left _ hj)) h1 (fun e => h2 (e ▸ hj)) b hob hb2
    · have := ((hI.held k rk hrk h1).2 b hb2).1
      omega
  refine ⟨by simp [hI.sz], ?_, ?_, ?_, ?_, ?_⟩
  · rw [← hdst, hI.fr]
    refine (mixFr_add (fun k hk d hd => hc.dst i k hi hk d hd) hif (by rw [getD_t, if_pos ⟨rfl, hil⟩]) (fun k hk => by rw [getD_t, if_neg (fun x => hk x.1)]) _ hi).symm
  · exact hI.keep.trans (hL.keep.mono (fun b hb => ⟨Nat.lt_of_lt_of_le (hBs b hb) hw0, fun j rj hj hrj hob => ((hI.held j rj hrj (htk j (List.mem_append_left _ hj))).2 b hob).2 hb⟩))
  · intro t ot hl hot e he hb
    by_cases hti : t = i
    · subst hti
      rw [ho] at hot; cases hot
      exact getD_set_true (hall e he hb)
    · rw [getD_t, if_neg (fun x => hti x.1)] at hl
      exact getD_set_true (hI.closed t ot hl hot e he hb)
  · intro k rk hrk hh
    by_cases hki : k = i
    · subst hki
      rw [hr] at hrk; cases hrk
      exact ⟨hL.fact, howni⟩
    · have h0 := hI.held k rk hrk (hold k hki hh).1
      refine ⟨((hok k rk hrk).ext σ (upd σ i v) (fun j hj => (hdm k rk hrk hki (hold k hki hh).1 j hj).1)).1 _ ((hok k rk hrk).loc σ w w' h0.1 (hblk k rk hrk hki hh)), fun b hb => ?_⟩
      have := h0.2 b (hownk k rk hrk hki hh b hb)
      exact ⟨Nat.lt_of_lt_of_le this.1 hsz, this.2⟩
  · intro j k rj rk hrj hrk hj hk hne b hb hb'
    by_cases hji : j = i
    · subst hji
      rw [hr] at hrj; cases hrj
      exact hia k rk hrk (fun e => hne e.symm) hk b hb hb'
    · by_cases hki : k = i
      · subst hki
        rw [hr] at hrk; cases hrk
        exact hia j rj hrj hji hj b hb' hb
      · exact hI.apart j k rj rk hrj hrk (hold j hji hj).1 (hold k hki hk).1 hne b (hownk j rj hrj hji hj b hb) (hownk k rk hrk hki hk b hb')

theorem rel_wp {o : Oper} {a : Act} {w : World} {K : Act → World → Prop} {post : Value → World → Prop} (h : relUpon P post ((execOp a.eval o).run P w)) (hk : ∀ v w', post v w' → K (a.put o.dst v) w') : o.wp P a w K Q := by
  unfold Oper.wp
  generalize (execOp a.eval o).run P w = res at *
  cases res with
  | ok n w' =>
    cases n <;> simp only [relUpon] at h <;> simp only [Oper.upon]
    case value u => exact hk _ _ h
    case skip => exact hk _ _ h
    case enter f args => exact h.mono fun e w'' ⟨v, he, hp⟩ => by subst he; exact hk _ _ hp
    case row row args => exact h.mono fun v w'' hp => hk _ _ hp
  | halt x w' => simp only [relUpon] at h

theorem count_set {listed : Array Bool} {i : Nat} (hi : i < listed.size) (h : listed[i] = false) : (listed.setIfInBounds i true).toList.count false + 1 = listed.toList.count false := by
  have hl : i < listed.toList.length := by simpa using hi
  have hx : listed.toList[i] = false := by simpa using h
  have h1 : (listed.setIfInBounds i true).toList = listed.toList.set i true := by simp
  have h2 : 0 < listed.toList.count false := List.count_pos_iff.2 (by rw [← hx]; exact List.getElem_mem hl)
  rw [h1, List.count_set hl, hx]
  rw [if_pos (show ((false : Bool) == false) = true from rfl), if_neg (show ¬ ((true : Bool) == false) = true from Bool.false_ne_true)]
  omega

theorem any_of_inv (hc : Chk ops R ini) (hok : ∀ (k : Nat) (r : Rsc), R[k]? = some r → r.Ok Bs) (hBs : ∀ b, Bs b → b < wS.heap.size)
    (hS : ∀ (i : Nat) (o : Oper) (r : Rsc), ops[i]? = some o → R[i]? = some r → StepAt P ops Bs wS R i o r (fun σ => mixFr ops a0 σ (fun _ => true) i))
    (hE : ∀ (listed : Array Bool) (σ : Nat → Value) (a : Act) (w : World), Inv ops Bs wS R ini a0 listed σ a w → (∀ k, k < ops.size → listed.getD k false = true) → Q .normal a w) :
    ∀ (fuel : Nat) (listed : Array Bool) (σ : Nat → Value) (a : Act) (w : World), Inv ops Bs wS R ini a0 listed σ a w → listed.toList.count false ≤ fuel → wpAny P .any ops Q fuel listed a w := by
  have hend : ∀ (listed : Array Bool) (σ : Nat → Value) (a : Act) (w : World), Inv ops Bs wS R ini a0 listed σ a w → Region.ready .any ops listed = [] → Q .normal a w := by
    intro listed σ a w hI hr
    refine hE listed σ a w hI ?_
    intro k
    induction k using Nat.strongRecOn with
    | ind k ih =>
      intro hk
      obtain ⟨o, r, ho, _⟩ := hc.has k hk
      have hkl : k < listed.size := by rw [hI.sz]; exact hk
      cases hx : listed.getD k false with
      | true => rfl
      | false =>
        have : k ∈ Region.ready .any ops listed := mem_ready.2 ⟨by
          rw [Array.getD_eq_getD_getElem?, Array.getElem?_eq_getElem hkl] at hx ⊢
          exact hx, o, ho, fun e he hb => ih e.on (hc.low k o ho e he hb) (by have := hc.low k o ho e he hb; omega)⟩
        rw [hr] at this; cases this
  intro fuel
  induction fuel with
  | zero =>
    intro listed σ a w hI hn
    have hr : Region.ready .any ops listed = [] := by
      cases hx : Region.ready .any ops listed with
      | nil => rfl
      | cons i l =>
        have hm := (mem_ready.1 (show i ∈ Region.ready .any ops listed by rw [hx]; simp)).1
        rcases Nat.lt_or_ge i listed.size with h | h
        · have hf : listed[i] = false := by
            rw [Array.getD_eq_getD_getElem?, Array.getElem?_eq_getElem h] at hm
            exact hm
          have := count_set h hf
          omega
        · rw [Array.getD_eq_getD_getElem?, Array.getElem?_eq_none h] at hm; cases hm
    exact ⟨hr, hend listed σ a w hI hr⟩
  | succ fuel ih =>
    intro listed σ a w hI hn
    refine ⟨hend listed σ a w hI, fun i hi => ?_⟩
    obtain ⟨hun, o, ho, hall⟩ := mem_ready.1 hi
    have hlt := (Array.getElem?_eq_some_iff.1 ho).1
    obtain ⟨_, r, _, hr⟩ := hc.has i hlt
    have hil : i < listed.size := by rw [hI.sz]; exact hlt
    have hf : listed[i] = false := by
      rw [Array.getD_eq_getD_getElem?, Array.getElem?_eq_getElem hil] at hun
      exact hun
    have hcnt := count_set hil hf
    obtain ⟨e1, e2⟩ := inv_run hc hI ho hall
    have hif : listed.getD i false = false := by
      rw [Array.getD_eq_getD_getElem?, Array.getElem?_eq_getElem hil] at hun ⊢
      exact hun
    have hfacts : factsOf Bs R σ w (r.tk ++ r.nd) := factsOf_of _ (fun j hj => by
      obtain ⟨h1, h2⟩ := hc.wants i o r j ho hr hj
      have hheld : Held ops R ini listed j := by
        refine ⟨?_, fun t rt ht hlt hl hm => ?_⟩
        · rcases h1 with h1 | h1
          · have hlj := waits_listed h1 hall
            refine .inr ⟨?_, hlj⟩
            rw [← hI.sz]
            rcases Nat.lt_or_ge j listed.size with h | h
            · exact h
            · rw [Array.getD_eq_getD_getElem?, Array.getElem?_eq_none h] at hlj; cases hlj
          · exact .inl h1
        · have hne : t ≠ i := fun e => by subst e; rw [hif] at hl; cases hl
          have hw := h2 t rt ht hlt hne hm
          unfold waitsAt at hw
          split at hw
          · rename_i ot hot
            have := waits_listed hw (hI.closed t ot hl hot)
            rw [hif] at this; cases this
          · cases hw
      have hR : ∃ rj, R[j]? = some rj := by
        rcases hheld.1 with h | h
        · obtain ⟨_, rj, h, _⟩ := hc.inis j h
          exact ⟨rj, h⟩
        · obtain ⟨_, rj, _, h⟩ := hc.has j h.1
          exact ⟨rj, h⟩
      obtain ⟨rj, hrj⟩ := hR
      exact ⟨rj, hrj, hI.held j rj hrj hheld⟩)
    have hst := hS i o r ho hr σ w hI.keep hfacts
    unfold wpOp
    simp only [ho]
    rw [e2]
    dsimp only at hst
    split
    · rename_i hw
      rw [if_pos hw, ← e1] at hst
      exact .inl (rel_wp hst (fun v w' hL => ih _ _ _ _ (inv_step hc hok hBs hI ho hr hun hall hL) (by omega)))
    · rename_i hw
      rw [if_neg hw] at hst
      exact ih _ _ _ _ (inv_step hc hok hBs hI ho hr hun hall hst) (by omega)

def finB (ops : Array Oper) (R : List Rsc) (ini fin : List Nat) : Bool :=
  fin.all fun k => (decide (k < ops.size) || ini.contains k) && (List.range ops.size).all fun t => !(((R[t]?).map (·.tk)).getD []).contains k

/-- ONE WALK IN THE ORDER OF THE TEXT SERVES EVERY ORDER. -/
theorem wp_region_rel {id : Nat} {l : List Oper} {a : Act} {w : World} (R : List Rsc) (ini fin : List Nat) (Bs : Nat → Prop)
    (hm : P.follows .mixedOrders = true) (hchk : check l.toArray R ini = true) (hfin : finB l.toArray R ini fin = true)
    (hok : ∀ r, r ∈ R → r.Ok Bs) (hBs : ∀ b, Bs b → b < w.heap.size)
    (hini : ∀ (k : Nat) (r : Rsc), k ∈ ini → R[k]? = some r → r.fact (fun _ => undef) { w with drawn := w.drawn + 1 } ∧ ∀ b, r.own (fun _ => undef) b → b < w.heap.size ∧ ¬ Bs b)
    (hap : ∀ (j k : Nat) (rj rk : Rsc), j ∈ ini → k ∈ ini → j ≠ k → R[j]? = some rj → R[k]? = some rk → ∀ b, rj.own (fun _ => undef) b → ¬ rk.own (fun _ => undef) b)
    (hW : Walk P l.toArray Bs { w with drawn := w.drawn + 1 } R l R 0 (fun _ => a))
    (hE : ∀ (σ : Nat → Value) (w' : World), Keep Bs { w with drawn := w.drawn + 1 } w' → factsOf Bs R σ w' fin →
      (∀ (j k : Nat) (rj rk : Rsc), j ∈ fin → k ∈ fin → j ≠ k → R[j]? = some rj → R[k]? = some rk → ∀ b, rj.own σ b → ¬ rk.own σ b) → Q .normal (putAll l 0 a σ) w') :
    (Code.region id l.toArray true).wp P Q a w := by
  have hc := chk_of hchk
  have hok' : ∀ (k : Nat) (r : Rsc), R[k]? = some r → r.Ok Bs := fun k r h => hok r (List.mem_of_getElem? h)
  have hno : ∀ k, (Array.replicate l.toArray.size false).getD k false = false := fun k => by
    rw [Array.getD_eq_getD_getElem?, Array.getElem?_replicate]
    split <;> rfl
  have hHeld : ∀ k, Held l.toArray R ini (Array.replicate l.toArray.size false) k → k ∈ ini := fun k h => by
    rcases h.1 with h | h
    · exact h
    · rw [hno] at h; cases h.2
  refine wp_region_any hm (any_of_inv (R := R) (ini := ini) (Bs := Bs) (wS := { w with drawn := w.drawn + 1 }) (a0 := a) hc hok' hBs (fun i o r ho hr => walk_at hW ho hr) ?_ _ _ (fun _ => undef) _ _ ?_ ?_)
  · intro listed σ a' w' hI hall
    have hheld : ∀ k, k ∈ fin → Held l.toArray R ini listed k ∧ ∃ r, R[k]? = some r := fun k hk => by
      unfold finB at hfin
      have := List.all_eq_true.1 hfin k hk
      simp only [Bool.and_eq_true, Bool.or_eq_true, decide_eq_true_eq, List.all_eq_true, List.mem_range, Bool.not_eq_true'] at this
      refine ⟨⟨?_, fun t r ht hlt _ hmem => ?_⟩, ?_⟩
      · rcases this.1 with h | h
        · exact .inr ⟨h, hall k h⟩
        · exact .inl (List.contains_iff_mem.1 h)
      · have h2 := this.2 t hlt
        rw [ht] at h2
        simp only [Option.map_some, Option.getD_some] at h2
        rw [List.contains_iff_mem.2 hmem] at h2; cases h2
      · rcases this.1 with h | h
        · obtain ⟨_, r, _, h⟩ := hc.has k h
          exact ⟨r, h⟩
        · obtain ⟨_, r, h, _⟩ := hc.inis k (List.contains_iff_mem.1 h)
          exact ⟨r, h⟩
    have hfr : a' = putAll l 0 a σ := by
      rw [hI.fr]
      have := putAll_mix (l := l) (a0 := a) (σ := σ) l.length 0 (by omega)
      rw [List.drop_zero] at this
      refine Eq.trans ?_ this.symm
      rw [show l.toArray.size = l.length from by simp]
      exact mixFr_low _ (fun k hk => ⟨hall k (by simpa using hk), rfl⟩)
    rw [hfr]
    refine hE σ w' hI.keep (factsOf_of _ (fun j hj => ?_)) (fun j k rj rk hj hk hne hrj hrk b => ?_)
    · obtain ⟨hh, r, hr⟩ := hheld j hj
      exact ⟨r, hr, hI.held j r hr hh⟩
    · exact hI.apart j k rj rk hrj hrk (hheld j hj).1 (hheld k hk).1 hne b
  · refine ⟨by simp, ?_, Keep.refl _ _, ?_, ?_, ?_⟩
    · have : ∀ n, mixFr l.toArray a (fun _ => undef) (fun k => (Array.replicate l.toArray.size false).getD k false) n = a := by
        intro n
        induction n with
        | zero => rfl
        | succ n ih => unfold mixFr; rw [hno, if_neg Bool.false_ne_true]; exact ih
      exact (this _).symm
    · intro t o ht
      rw [hno] at ht; cases ht
    · intro k r hr hh
      exact hini k r (hHeld k hh) hr
    · intro j k rj rk hrj hrk hj hk hne b hb
      exact hap j k rj rk (hHeld j hj) (hHeld k hk) hne hrj hrk b hb
  · refine Nat.le_trans (List.count_le_length) ?_
    simp
end

end Rel
end Go.Proofs.YtnlepjcjakghcaaGreatDoor

namespace Go.Proofs.YtnlepjcjakghcaaGreatDoor
open Go.RowKit
set_option linter.unusedVariables false

namespace Rlw
open Rel (Keep)
def upd (σ : Nat → Value) (i : Nat) (v : Value) : Nat → Value := fun j => if j = i then v else σ j
theorem upd_self (σ : Nat → Value) (i : Nat) (v : Value) : upd σ i v i = v := if_pos rfl
theorem upd_ne (σ : Nat → Value) {i j : Nat} (v : Value) (h : j ≠ i) : upd σ i v j = σ j := if_neg h

/-- What an operation leaves: a fact of the values so far and of the world, and the blocks that it owns. -/
structure Rsc where
  fact : (Nat → Value) → World → Prop
  own : (Nat → Value) → World → Nat → Prop
  dm : List Nat
  tk : List Nat
  nd : List Nat

/-- The fact hangs on its own blocks and those of Bs alone, and on the values of dm alone. -/
structure Rsc.Ok (Bs : Nat → Prop) (r : Rsc) : Prop where
  loc : ∀ σ w w', r.fact σ w → Keep (fun b => Bs b ∨ r.own σ w b) w w' → r.fact σ w' ∧ ∀ b, r.own σ w' b → r.own σ w b
  ext : ∀ σ σ' : Nat → Value, (∀ j, j ∈ r.dm → σ' j = σ j) → ∀ w, (r.fact σ w → r.fact σ' w) ∧ (∀ b, r.own σ' w b → r.own σ w b)

def dstOf (ops : Array Oper) (k : Nat) : Option Tmp := (ops[k]?).bind (·.dst)

/-- The frame with the values of those that are listed. -/
def mixFr (ops : Array Oper) (a0 : Act) (σ : Nat → Value) (L : Nat → Bool) : Nat → Act
  | 0 => a0
  | k + 1 => if L k then (mixFr ops a0 σ L k).put (dstOf ops k) (σ k) else mixFr ops a0 σ L k

def look (ops : Array Oper) (a0 : Act) (σ : Nat → Value) (L : Nat → Bool) (t : Nat) : Nat → Option Value
  | 0 => a0.tmps[t]?
  | k + 1 => if L k = true ∧ dstOf ops k = some t ∧ t < a0.tmps.size then some (σ k) else look ops a0 σ L t k

theorem mixFr_size (ops : Array Oper) (a0 : Act) (σ : Nat → Value) (L : Nat → Bool) : ∀ n, (mixFr ops a0 σ L n).tmps.size = a0.tmps.size
  | 0 => rfl
  | k + 1 => by
    unfold mixFr
    split
    · unfold Act.put
      split
      · simp [mixFr_size ops a0 σ L k]
      · exact mixFr_size ops a0 σ L k
    · exact mixFr_size ops a0 σ L k

theorem mixFr_look (ops : Array Oper) (a0 : Act) (σ : Nat → Value) (L : Nat → Bool) (t : Nat) : ∀ n, (mixFr ops a0 σ L n).tmps[t]? = look ops a0 σ L t n
  | 0 => rfl
  | k + 1 => by
    have ih := mixFr_look ops a0 σ L t k
    have hs := mixFr_size ops a0 σ L k
    unfold mixFr look
    by_cases hL : L k = true
    · rw [if_pos hL]
      cases hd : dstOf ops k with
      | none => simp only [Act.put]; rw [if_neg (by rintro ⟨_, h, _⟩; cases h)]; exact ih
      | some d =>
        simp only [Act.put]
        by_cases e : d = t
        · subst e
          by_cases hlt : d < a0.tmps.size
          · rw [if_pos ⟨hL, rfl, hlt⟩, Array.getElem?_setIfInBounds_self_of_lt (by rw [hs]; exact hlt)]
          · have hle : (mixFr ops a0 σ L k).tmps.size ≤ d := by rw [hs]; exact Nat.le_of_not_lt hlt
            rw [if_neg (by rintro ⟨_, _, h⟩; exact hlt h), ← ih, Array.setIfInBounds_eq_of_size_le hle]
        · rw [if_neg (by rintro ⟨_, h, _⟩; exact e (Option.some.inj h)), Array.getElem?_setIfInBounds_ne e]
          exact ih
    · rw [if_neg hL, if_neg (by rintro ⟨h, _⟩; exact hL h)]
      exact ih

theorem look_same {ops : Array Oper} {a0 : Act} {σ : Nat → Value} {L L' : Nat → Bool} {t : Nat} : ∀ n, (∀ k, k < n → dstOf ops k = some t → L k = L' k) → look ops a0 σ L t n = look ops a0 σ L' t n
  | 0, _ => rfl
  | k + 1, h => by
    unfold look
    rw [look_same k (fun j hj => h j (by omega))]
    by_cases e : dstOf ops k = some t
    · rw [h k (by omega) e]
    · rw [if_neg (fun x => e x.2.1), if_neg (fun x => e x.2.1)]
theorem look_cut {ops : Array Oper} {a0 : Act} {σ : Nat → Value} {L : Nat → Bool} {t i : Nat} (h : ∀ k, dstOf ops k = some t → k < i) : ∀ n, i ≤ n → look ops a0 σ L t n = look ops a0 σ L t i
  | 0, hn => by have : i = 0 := by omega
                subst this; rfl
  | k + 1, hn => by
    by_cases e : i = k + 1
    · rw [e]
    · rw [← look_cut h k (by omega)]
      conv => lhs; unfold look
      rw [if_neg (fun x => by have := h k x.2.1; omega)]

theorem mixFr_low {ops : Array Oper} {a0 : Act} {σ σ' : Nat → Value} {L L' : Nat → Bool} : ∀ n, (∀ k, k < n → L k = L' k ∧ σ k = σ' k) → mixFr ops a0 σ L n = mixFr ops a0 σ' L' n
  | 0, _ => rfl
  | k + 1, h => by
    unfold mixFr
    rw [mixFr_low k (fun j hj => h j (by omega)), (h k (by omega)).1, (h k (by omega)).2]

theorem mixFr_add {ops : Array Oper} {a0 : Act} {σ : Nat → Value} {L L' : Nat → Bool} {i : Nat} {v : Value} (hd : ∀ k, k ≠ i → ∀ d, dstOf ops i = some d → dstOf ops k ≠ some d) (hi : L i = false) (hi' : L' i = true) (hL : ∀ k, k ≠ i → L' k = L k) :
    ∀ n, i < n → mixFr ops a0 (upd σ i v) L' n = (mixFr ops a0 σ L n).put (dstOf ops i) v
  | 0, hn => by omega
  | k + 1, hn => by
    by_cases e : i = k
    · subst e
      unfold mixFr
      rw [if_pos hi', if_neg (by rw [hi]; exact Bool.false_ne_true), upd_self]
      rw [mixFr_low i (fun j hj => ⟨hL j (by omega), upd_ne σ v (by omega)⟩)]
    · have ih := mixFr_add (v := v) (σ := σ) (a0 := a0) hd hi hi' hL k (by omega)
      unfold mixFr
      rw [hL k (fun h => e h.symm), upd_ne σ v (fun h => e h.symm), ih]
      split
      · exact Act.put_comm _ _ _ (fun d h => hd k (fun h => e h.symm) d h)
      · rfl

def waits (o : Oper) (j : Nat) : Bool := o.after.any fun e => Region.binds .any e && e.on == j
def waitsAt (ops : Array Oper) (t i : Nat) : Bool := match ops[t]? with | some o => waits o i | none => false

/-- What the region and the resources must show by looking. -/
def check (ops : Array Oper) (R : List Rsc) (ini : List Nat) : Bool :=
  Region.noSelect ops && ini.all (fun k => decide (ops.size ≤ k) && ((R[k]?).map fun r => r.dm.isEmpty && r.tk.isEmpty).getD false) &&
  (List.range ops.size).all fun i => match ops[i]?, R[i]? with
    | some o, some r =>
      (o.after.all fun e => !Region.binds .any e || decide (e.on < i)) &&
      ((List.range ops.size).all fun j => match dstOf ops j with
        | none => true
        | some d => (j == i || dstOf ops i != some d) && (!(o.looksAt ops).contains d || waits o j)) &&
      ((r.tk ++ r.nd).all fun j => (waits o j || ini.contains j) && (List.range ops.size).all fun t => t == i || !(((R[t]?).map (·.tk)).getD []).contains j || waitsAt ops t i) &&
      r.dm.all (fun j => j == i || waits o j)
    | _, _ => false

/-- What an operation that has run has yielded. -/
def relUpon (P : Program) (post : Value → World → Prop) : Result Next → Prop
  | .ok (.value u) w' => post u w'
  | .ok .skip w' => post undef w'
  | .ok (.enter f args) w' => Calls P f args w' fun e w'' => ∃ v, e = .returned v ∧ post v w''
  | .ok (.row row args) w' => Rows P row args w' post
  | _ => False

/-- One operation: run in the frame of those ahead of it in the text, at a world where the facts that it wants hold. -/
def factsOf (Bs : Nat → Prop) (R : List Rsc) (σ : Nat → Value) (w : World) : List Nat → Prop
  | [] => True
  | j :: l => (∃ r, R[j]? = some r ∧ r.fact σ w ∧ ∀ b, r.own σ w b → b < w.heap.size ∧ ¬ Bs b) ∧ factsOf Bs R σ w l

/-- What is asked of what it leaves. -/
structure Left (R : List Rsc) (r : Rsc) (i : Nat) (σ : Nat → Value) (w : World) (v : Value) (w' : World) : Prop where
  fact : r.fact (upd σ i v) w'
  own : ∀ b, r.own (upd σ i v) w' b → (∃ j rj, j ∈ r.tk ∧ R[j]? = some rj ∧ rj.own σ w b) ∨ (w.heap.size ≤ b ∧ b < w'.heap.size)
  keep : Keep (fun b => b < w.heap.size ∧ ∀ j rj, j ∈ r.tk → R[j]? = some rj → ¬ rj.own σ w b) w w'

def StepAt (P : Program) (ops : Array Oper) (Bs : Nat → Prop) (wS : World) (R : List Rsc) (i : Nat) (o : Oper) (r : Rsc) (Fr : (Nat → Value) → Act) : Prop :=
  ∀ σ w, Keep Bs wS w → factsOf Bs R σ w (r.tk ++ r.nd) →
    if Region.wanted o (yielded ops (Fr σ).tmps) = true then relUpon P (Left R r i σ w) ((execOp (Fr σ).eval o).run P w) else Left R r i σ w undef w

/-- All of them, in the order of the text. -/
def Walk (P : Program) (ops : Array Oper) (Bs : Nat → Prop) (wS : World) (R : List Rsc) : List Oper → List Rsc → Nat → ((Nat → Value) → Act) → Prop
  | o :: l, r :: rs, i, Fr => StepAt P ops Bs wS R i o r Fr ∧ Walk P ops Bs wS R l rs (i + 1) (fun σ => (Fr σ).put o.dst (σ i))
  | _, _, _, _ => True
def putAll : List Oper → Nat → Act → (Nat → Value) → Act
  | [], _, a, _ => a
  | o :: l, k, a, σ => putAll l (k + 1) (a.put o.dst (σ k)) σ

section
variable {P : Program} {ops : Array Oper} {Bs : Nat → Prop} {wS : World} {R : List Rsc} {ini fin : List Nat} {a0 : Act} {Q : Exit → Act → World → Prop}

def Held (ops : Array Oper) (R : List Rsc) (ini : List Nat) (listed : Array Bool) (k : Nat) : Prop :=
  (k ∈ ini ∨ (k < ops.size ∧ listed.getD k false = true)) ∧ ∀ t r, R[t]? = some r → t < ops.size → listed.getD t false = true → k ∉ r.tk

structure Inv (ops : Array Oper) (Bs : Nat → Prop) (wS : World) (R : List Rsc) (ini : List Nat) (a0 : Act) (listed : Array Bool) (σ : Nat → Value) (a : Act) (w : World) : Prop where
  sz : listed.size = ops.size
  fr : a = mixFr ops a0 σ (fun k => listed.getD k false) ops.size
  keep : Keep Bs wS w
  closed : ∀ t o, listed.getD t false = true → ops[t]? = some o → ∀ e ∈ o.after, Region.binds .any e = true → listed.getD e.on false = true
  held : ∀ k r, R[k]? = some r → Held ops R ini listed k → r.fact σ w ∧ ∀ b, r.own σ w b → b < w.heap.size ∧ ¬ Bs b
  apart : ∀ j k rj rk, R[j]? = some rj → R[k]? = some rk → Held ops R ini listed j → Held ops R ini listed k → j ≠ k → ∀ b, rj.own σ w b → ¬ rk.own σ w b

structure Chk (ops : Array Oper) (R : List Rsc) (ini : List Nat) : Prop where
  nosel : Region.noSelect ops = true
  inis : ∀ k, k ∈ ini → ops.size ≤ k ∧ ∃ r, R[k]? = some r ∧ r.dm = []
  has : ∀ i, i < ops.size → ∃ o r, ops[i]? = some o ∧ R[i]? = some r
  low : ∀ (i : Nat) o, ops[i]? = some o → ∀ e ∈ o.after, Region.binds .any e = true → e.on < i
  dst : ∀ i j, i < ops.size → j ≠ i → ∀ d, dstOf ops i = some d → dstOf ops j ≠ some d
  looks : ∀ (i : Nat) o (j : Nat) d, ops[i]? = some o → dstOf ops j = some d → d ∈ o.looksAt ops → waits o j = true
  wants : ∀ (i : Nat) o r (j : Nat), ops[i]? = some o → R[i]? = some r → j ∈ r.tk ++ r.nd → (waits o j = true ∨ j ∈ ini) ∧ ∀ t rt, R[t]? = some rt → t < ops.size → t ≠ i → j ∈ rt.tk → waitsAt ops t i = true
  dm : ∀ (i : Nat) o r (j : Nat), ops[i]? = some o → R[i]? = some r → j ∈ r.dm → j = i ∨ waits o j = true

theorem dstOf_lt {j : Nat} {d : Tmp} (h : dstOf ops j = some d) : j < ops.size := by
  unfold dstOf at h
  cases ho : ops[j]? with
  | none => rw [ho] at h; cases h
  | some o => exact (Array.getElem?_eq_some_iff.1 ho).1

theorem chk_of (h : check ops R ini = true) : Chk ops R ini := by
  unfold check at h
  simp only [Bool.and_eq_true, List.all_eq_true, List.mem_range] at h
  obtain ⟨⟨h1, h2⟩, h3⟩ := h
  have at3 : ∀ i o, ops[i]? = some o → ∃ r, R[i]? = some r ∧
      (o.after.all fun e => !Region.binds .any e || decide (e.on < i)) = true ∧
      ((List.range ops.size).all fun j => match dstOf ops j with
        | none => true
        | some d => (j == i || dstOf ops i != some d) && (!(o.looksAt ops).contains d || waits o j)) = true ∧
      ((r.tk ++ r.nd).all fun j => (waits o j || ini.contains j) && (List.range ops.size).all fun t => t == i || !(((R[t]?).map (·.tk)).getD []).contains j || waitsAt ops t i) = true ∧
      r.dm.all (fun j => j == i || waits o j) = true := by
    intro i o ho
    have hi := (Array.getElem?_eq_some_iff.1 ho).1
    have := h3 i hi
    rw [ho] at this
    cases hr : R[i]? with
    | none => rw [hr] at this; simp at this
    | some r =>
      rw [hr] at this
      simp only [Bool.and_eq_true] at this
      exact ⟨r, rfl, this.1.1.1, this.1.1.2, this.1.2, this.2⟩
  refine ⟨h1, ?_, ?_, ?_, ?_, ?_, ?_, ?_⟩
  · intro k hk
    have := h2 k hk
    rw [decide_eq_true_eq] at this
    refine ⟨this.1, ?_⟩
    cases hr : R[k]? with
    | none => rw [hr] at this; simp at this
    | some r =>
      rw [hr] at this
      simp only [Option.map_some, Option.getD_some, Bool.and_eq_true] at this
      exact ⟨r, rfl, List.isEmpty_iff.1 this.2.1⟩
  · intro i hi
    obtain ⟨r, hr, _⟩ := at3 i ops[i] (Array.getElem?_eq_getElem hi)
    exact ⟨_, r, Array.getElem?_eq_getElem hi, hr⟩
  · intro i o ho e he hb
    obtain ⟨r, hr, h, _⟩ := at3 i o ho
    have := Array.all_eq_true_iff_forall_mem.1 h e he
    simpa [hb] using this
  · intro i j hi hne d hd hj
    obtain ⟨r, hr, _, h, _⟩ := at3 i ops[i] (Array.getElem?_eq_getElem hi)
    have := List.all_eq_true.1 h j (List.mem_range.2 (dstOf_lt hj))
    rw [hj] at this
    simp [hd, hne] at this
  · intro i o j d ho hj hl
    obtain ⟨r, hr, _, h, _⟩ := at3 i o ho
    have := List.all_eq_true.1 h j (List.mem_range.2 (dstOf_lt hj))
    rw [hj] at this
    simp only [Bool.and_eq_true, Bool.or_eq_true, Bool.not_eq_true'] at this
    rcases this.2 with hx | hx
    · rw [List.contains_iff_mem.2 hl] at hx; cases hx
    · exact hx
  · intro i o r j ho hr hj
    obtain ⟨r', hr', _, _, h, _⟩ := at3 i o ho
    rw [hr] at hr'; cases hr'
    have := List.all_eq_true.1 h j hj
    simp only [Bool.and_eq_true, Bool.or_eq_true, List.all_eq_true, List.mem_range, Bool.not_eq_true'] at this
    refine ⟨this.1.imp id (fun hx => List.contains_iff_mem.1 hx), fun t rt ht hlt hne hm => ?_⟩
    rcases this.2 t hlt with (hx | hx) | hx
    · exact absurd (by simpa using hx) hne
    · rw [ht] at hx; simp only [Option.map_some, Option.getD_some] at hx; rw [List.contains_iff_mem.2 hm] at hx; cases hx
    · exact hx
  · intro i o r j ho hr hj
    obtain ⟨r', hr', _, _, _, h⟩ := at3 i o ho
    rw [hr] at hr'; cases hr'
    have := List.all_eq_true.1 h j hj
    simpa using this

theorem waits_listed {listed : Array Bool} {o : Oper} {j : Nat} (hw : waits o j = true) (h : ∀ e ∈ o.after, Region.binds .any e = true → listed.getD e.on false = true) : listed.getD j false = true := by
  unfold waits at hw
  rw [Array.any_eq_true'] at hw
  obtain ⟨e, he, hx⟩ := hw
  simp only [Bool.and_eq_true, beq_iff_eq] at hx
  have := h e he hx.1
  rwa [hx.2] at this

theorem factsOf_of {σ : Nat → Value} {w : World} : ∀ l : List Nat, (∀ j, j ∈ l → ∃ r, R[j]? = some r ∧ r.fact σ w ∧ ∀ b, r.own σ w b → b < w.heap.size ∧ ¬ Bs b) → factsOf Bs R σ w l
  | [], _ => trivial
  | j :: l, h => ⟨h j (by simp), factsOf_of l (fun i hi => h i (by simp [hi]))⟩

theorem walk_drop {l : List Oper} {ops : Array Oper} (hW : Walk P ops Bs wS R l R 0 (fun _ => a0)) (ho : ops = l.toArray) : ∀ k, k ≤ l.length → Walk P ops Bs wS R (l.drop k) (R.drop k) k (fun σ => mixFr ops a0 σ (fun _ => true) k) ∨ R.length < k
  | 0, _ => .inl (by
    rw [List.drop_zero, List.drop_zero]
    exact hW)
  | k + 1, hk => by
    rcases walk_drop hW ho k (by omega) with h | h
    · by_cases hr : k < R.length
      · rw [List.drop_eq_getElem_cons (show k < l.length by omega), List.drop_eq_getElem_cons hr] at h
        refine .inl ?_
        have h2 := h.2
        have e : ∀ σ, (mixFr ops a0 σ (fun _ => true) k).put (l[k]'(by omega)).dst (σ k) = mixFr ops a0 σ (fun _ => true) (k + 1) := fun σ => by
          conv => rhs; unfold mixFr
          rw [if_pos rfl]
          congr 1
          unfold dstOf
          rw [ho]
          simp [show k < l.length by omega]
        simp only [e] at h2
        exact h2
      · exact .inr (by omega)
    · exact .inr (by omega)

theorem walk_at {l : List Oper} (hW : Walk P l.toArray Bs wS R l R 0 (fun _ => a0)) {i : Nat} {o : Oper} {r : Rsc} (ho : l.toArray[i]? = some o) (hr : R[i]? = some r) :
    StepAt P l.toArray Bs wS R i o r (fun σ => mixFr l.toArray a0 σ (fun _ => true) i) := by
  have hi : i < l.length := by simpa using (Array.getElem?_eq_some_iff.1 ho).1
  have hri := (List.getElem?_eq_some_iff.1 hr).1
  rcases walk_drop hW rfl i (by omega) with h | h
  · rw [List.drop_eq_getElem_cons hi, List.drop_eq_getElem_cons hri] at h
    have h1 := h.1
    have e1 : l[i] = o := by simpa [hi] using ho
    have e2 : R[i] = r := by simpa [hri] using hr
    rw [e1, e2] at h1
    exact h1
  · omega

theorem putAll_mix {l : List Oper} {σ : Nat → Value} : ∀ m k, k + m = l.length → putAll (l.drop k) k (mixFr l.toArray a0 σ (fun _ => true) k) σ = mixFr l.toArray a0 σ (fun _ => true) l.length
  | 0, k, h => by
    have : k = l.length := by omega
    subst this
    simp [putAll]
  | m + 1, k, h => by
    rw [List.drop_eq_getElem_cons (show k < l.length by omega)]
    unfold putAll
    rw [← putAll_mix m (k + 1) (by omega)]
    congr 1
    conv => rhs; unfold mixFr
    rw [if_pos rfl]
    congr 1
    unfold dstOf
    simp [show k < l.length by omega]

theorem getD_t {listed : Array Bool} {i k : Nat} : (listed.setIfInBounds i true).getD k false = if k = i ∧ i < listed.size then true else listed.getD k false := by
  by_cases h : k = i
  · subst h
    by_cases hs : k < listed.size
    · simp [hs]
    · simp [hs]
  · rw [if_neg (fun x => h x.1)]
    exact getD_set_ne false (fun e => h e.symm)

/-- Whatever operation comes up: it runs as in the frame of the text. -/
theorem inv_run (hc : Chk ops R ini) {listed : Array Bool} {σ : Nat → Value} {a : Act} {w : World} (hI : Inv ops Bs wS R ini a0 listed σ a w) {i : Nat} {o : Oper} (ho : ops[i]? = some o) (hall : ∀ e ∈ o.after, Region.binds .any e = true → listed.getD e.on false = true) :
    execOp a.eval o = execOp (mixFr ops a0 σ (fun _ => true) i).eval o ∧ Region.wanted o (yielded ops a.tmps) = Region.wanted o (yielded ops (mixFr ops a0 σ (fun _ => true) i).tmps) := by
  have hi := (Array.getElem?_eq_some_iff.1 ho).1
  have key : ∀ d, d ∈ o.looksAt ops → a.tmps[d]? = (mixFr ops a0 σ (fun _ => true) i).tmps[d]? := by
    intro d hd
    have hw : ∀ j, dstOf ops j = some d → listed.getD j false = true ∧ j < i := fun j hj => by
      have := hc.looks i o j d ho hj hd
      refine ⟨waits_listed this hall, ?_⟩
      unfold waits at this
      rw [Array.any_eq_true'] at this
      obtain ⟨e, he, hx⟩ := this
      simp only [Bool.and_eq_true, beq_iff_eq] at hx
      have := hc.low i o ho e he hx.1
      omega
    rw [hI.fr, mixFr_look, mixFr_look, ← look_cut (fun k hk => (hw k hk).2) ops.size (by omega)]
    exact look_same _ (fun k _ hk => (hw k hk).1)
  constructor
  · refine execOp_congr o (fun cs b => Region.noSelect_spec hc.nosel i o cs b ho) (fun x hx => ?_)
    cases x with
    | tmp t =>
      have := key t (List.mem_append_left _ (List.mem_filterMap.2 ⟨.tmp t, by simpa using hx, rfl⟩))
      simp only [Act.eval, Array.getD_eq_getD_getElem?, this]
    | _ => rfl
  · unfold Region.wanted
    cases hg : o.guard with
    | none => rfl
    | some gw =>
      obtain ⟨g, want⟩ := gw
      have hy : yielded ops a.tmps g = yielded ops (mixFr ops a0 σ (fun _ => true) i).tmps g := by
        unfold yielded
        cases ht : (ops[g]?).bind (·.dst) with
        | none => rfl
        | some t =>
          have := key t (by simp [Oper.looksAt, hg, ht])
          simp [this]
      simp only [hy]

/-- The operation has run: the invariant holds with it listed. -/
theorem inv_step (hc : Chk ops R ini) (hok : ∀ (k : Nat) (r : Rsc), R[k]? = some r → r.Ok Bs) (hBs : ∀ b, Bs b → b < wS.heap.size) {listed : Array Bool} {σ : Nat → Value} {a : Act} {w : World} (hI : Inv ops Bs wS R ini a0 listed σ a w)
    {i : Nat} {o : Oper} {r : Rsc} (ho : ops[i]? = some o) (hr : R[i]? = some r) (hun : listed.getD i true = false) (hall : ∀ e ∈ o.after, Region.binds .any e = true → listed.getD e.on false = true) {v : Value} {w' : World} (hL : Left R r i σ w v w') :
    Inv ops Bs wS R ini a0 (listed.setIfInBounds i true) (upd σ i v) (a.put o.dst v) w' := by
  have hi := (Array.getElem?_eq_some_iff.1 ho).1
  have hil : i < listed.size := by rw [hI.sz]; exact hi
  have hif : listed.getD i false = false := by
    rw [Array.getD_eq_getD_getElem?, Array.getElem?_eq_getElem hil] at hun ⊢
    exact hun
  have hdst : dstOf ops i = o.dst := by unfold dstOf; rw [ho]; rfl
  -- those that are taken are held
  have htk : ∀ j, j ∈ r.tk ++ r.nd → Held ops R ini listed j := fun j hj => by
    obtain ⟨h1, h2⟩ := hc.wants i o r j ho hr hj
    refine ⟨?_, fun t rt ht hlt hl hm => ?_⟩
    · rcases h1 with h1 | h1
      · have hlj := waits_listed h1 hall
        refine .inr ⟨?_, hlj⟩
        rw [← hI.sz]
        rcases Nat.lt_or_ge j listed.size with h | h
        · exact h
        · rw [Array.getD_eq_getD_getElem?, Array.getElem?_eq_none h] at hlj; cases hlj
      · exact .inl h1
    · have hne : t ≠ i := fun e => by subst e; rw [hif] at hl; cases hl
      have hw := h2 t rt ht hlt hne hm
      unfold waitsAt at hw
      split at hw
      · rename_i ot hot
        have := waits_listed hw (hI.closed t ot hl hot)
        rw [hif] at this; cases this
      · cases hw
  -- who is held behind it
  have hold : ∀ k, k ≠ i → Held ops R ini (listed.setIfInBounds i true) k → Held ops R ini listed k ∧ k ∉ r.tk := fun k hk h => by
    refine ⟨⟨?_, fun t rt ht hlt hl => h.2 t rt ht hlt (getD_set_true hl)⟩, h.2 i r hr hi (by rw [getD_t, if_pos ⟨rfl, hil⟩])⟩
    rcases h.1 with h1 | h1
    · exact .inl h1
    · refine .inr ⟨h1.1, ?_⟩
      have := h1.2
      rw [getD_t, if_neg (fun x => hk x.1)] at this
      exact this
  -- the values that a held fact hangs on are there
  have hdm : ∀ k rk, R[k]? = some rk → k ≠ i → Held ops R ini listed k → ∀ j, j ∈ rk.dm → upd σ i v j = σ j ∧ σ j = upd σ i v j := fun k rk hrk hki hh j hj => by
    have hne : j ≠ i := by
      intro e
      rcases hh.1 with h1 | h1
      · obtain ⟨_, r', hr', hd⟩ := hc.inis k h1
        rw [hrk] at hr'; cases hr'
        rw [hd] at hj; cases hj
      · obtain ⟨ok, rk', hok', hrk'⟩ := hc.has k h1.1
        rw [hrk] at hrk'; cases hrk'
        rcases hc.dm k ok rk j hok' hrk hj with h2 | h2
        · omega
        · have := waits_listed h2 (hI.closed k ok h1.2 hok')
          rw [e, hif] at this; cases this
    exact ⟨upd_ne σ v hne, (upd_ne σ v hne).symm⟩
  have hsz := hL.keep.size
  have hw0 := hI.keep.size
  -- an old fact's blocks are as they were
  have hblk : ∀ k rk, R[k]? = some rk → k ≠ i → Held ops R ini (listed.setIfInBounds i true) k → Keep (fun b => Bs b ∨ rk.own σ w b) w w' := fun k rk hrk hki hh => by
    obtain ⟨h1, h2⟩ := hold k hki hh
    refine hL.keep.mono (fun b hb => ?_)
    rcases hb with hb | hb
    · refine ⟨Nat.lt_of_lt_of_le (hBs b hb) hw0, fun j rj hj hrj hob => ?_⟩
      exact ((hI.held j rj hrj (htk j (List.mem_append_left _ hj))).2 b hob).2 hb
    · refine ⟨((hI.held k rk hrk h1).2 b hb).1, fun j rj hj hrj hob => ?_⟩
      exact hI.apart j k rj rk hrj hrk (htk j (List.mem_append_left _ hj)) h1 (fun e => h2 (e ▸ hj)) b hob hb
  have howni : ∀ b, r.own (upd σ i v) w' b → b < w'.heap.size ∧ ¬ Bs b := fun b hb => by
    rcases hL.own b hb with ⟨j, rj, hj, hrj, hob⟩ | ⟨h1, h2⟩
    · have := (hI.held j rj hrj (htk j (List.mem_append_left _ hj))).2 b hob
      exact ⟨Nat.lt_of_lt_of_le this.1 hsz, this.2⟩
    · exact ⟨h2, fun hb' => by have := hBs b hb'; omega⟩
  have hownk : ∀ k rk, R[k]? = some rk → k ≠ i → Held ops R ini (listed.setIfInBounds i true) k → ∀ b, rk.own (upd σ i v) w' b → rk.own σ w b := fun k rk hrk hki hh b hb =>
    ((hok k rk hrk).loc σ w w' (hI.held k rk hrk (hold k hki hh).1).1 (hblk k rk hrk hki hh)).2 b ((((hok k rk hrk).ext σ (upd σ i v) (fun j hj => (hdm k rk hrk hki (hold k hki hh).1 j hj).1)) w').2 b hb)
  have hia : ∀ k rk, R[k]? = some rk → k ≠ i → Held ops R ini (listed.setIfInBounds i true) k → ∀ b, r.own (upd σ i v) w' b → ¬ rk.own (upd σ i v) w' b := fun k rk hrk hki hh b hb hb' => by
    have hb2 := hownk k rk hrk hki hh b hb'
    obtain ⟨h1, h2⟩ := hold k hki hh
    rcases hL.own b hb with ⟨j, rj, hj, hrj, hob⟩ | ⟨h3, h4⟩
    · exact hI.apart j k rj rk hrj hrk (htk j (List.mem_append_left _ hj)) h1 (fun e => h2 (e ▸ hj)) b hob hb2
    · have := ((hI.held k rk hrk h1).2 b hb2).1
      omega
  refine ⟨by simp [hI.sz], ?_, ?_, ?_, ?_, ?_⟩
  · rw [← hdst, hI.fr]
    refine (mixFr_add (fun k hk d hd => hc.dst i k hi hk d hd) hif (by rw [getD_t, if_pos ⟨rfl, hil⟩]) (fun k hk => by rw [getD_t, if_neg (fun x => hk x.1)]) _ hi).symm
  · exact hI.keep.trans (hL.keep.mono (fun b hb => ⟨Nat.lt_of_lt_of_le (hBs b hb) hw0, fun j rj hj hrj hob => ((hI.held j rj hrj (htk j (List.mem_append_left _ hj))).2 b hob).2 hb⟩))
  · intro t ot hl hot e he hb
    by_cases hti : t = i
    · subst hti
      rw [ho] at hot; cases hot
      exact getD_set_true (hall e he hb)
    · rw [getD_t, if_neg (fun x => hti x.1)] at hl
      exact getD_set_true (hI.closed t ot hl hot e he hb)
  · intro k rk hrk hh
    by_cases hki : k = i
    · subst hki
      rw [hr] at hrk; cases hrk
      exact ⟨hL.fact, howni⟩
    · have h0 := hI.held k rk hrk (hold k hki hh).1
      refine ⟨((hok k rk hrk).ext σ (upd σ i v) (fun j hj => (hdm k rk hrk hki (hold k hki hh).1 j hj).1) _).1 ((hok k rk hrk).loc σ w w' h0.1 (hblk k rk hrk hki hh)).1, fun b hb => ?_⟩
      have := h0.2 b (hownk k rk hrk hki hh b hb)
      exact ⟨Nat.lt_of_lt_of_le this.1 hsz, this.2⟩
  · intro j k rj rk hrj hrk hj hk hne b hb hb'
    by_cases hji : j = i
    · subst hji
      rw [hr] at hrj; cases hrj
      exact hia k rk hrk (fun e => hne e.symm) hk b hb hb'
    · by_cases hki : k = i
      · subst hki
        rw [hr] at hrk; cases hrk
        exact hia j rj hrj hji hj b hb' hb
      · exact hI.apart j k rj rk hrj hrk (hold j hji hj).1 (hold k hki hk).1 hne b (hownk j rj hrj hji hj b hb) (hownk k rk hrk hki hk b hb')

theorem rel_wp {o : Oper} {a : Act} {w : World} {K : Act → World → Prop} {post : Value → World → Prop} (h : relUpon P post ((execOp a.eval o).run P w)) (hk : ∀ v w', post v w' → K (a.put o.dst v) w') : o.wp P a w K Q := by
  unfold Oper.wp
  generalize (execOp a.eval o).run P w = res at *
  cases res with
  | ok n w' =>
    cases n <;> simp only [relUpon] at h <;> simp only [Oper.upon]
    case value u => exact hk _ _ h
    case skip => exact hk _ _ h
    case enter f args => exact h.mono fun e w'' ⟨v, he, hp⟩ => by subst he; exact hk _ _ hp
    case row row args => exact h.mono fun v w'' hp => hk _ _ hp
  | halt x w' => simp only [relUpon] at h

theorem count_set {listed : Array Bool} {i : Nat} (hi : i < listed.size) (h : listed[i] = false) : (listed.setIfInBounds i true).toList.count false + 1 = listed.toList.count false := by
  have hl : i < listed.toList.length := by simpa using hi
  have hx : listed.toList[i] = false := by simpa using h
  have h1 : (listed.setIfInBounds i true).toList = listed.toList.set i true := by simp
  have h2 : 0 < listed.toList.count false := List.count_pos_iff.2 (by rw [← hx]; exact List.getElem_mem hl)
  rw [h1, List.count_set hl, hx]
  rw [if_pos (show ((false : Bool) == false) = true from rfl), if_neg (show ¬ ((true : Bool) == false) = true from Bool.false_ne_true)]
  omega

theorem any_of_inv (hc : Chk ops R ini) (hok : ∀ (k : Nat) (r : Rsc), R[k]? = some r → r.Ok Bs) (hBs : ∀ b, Bs b → b < wS.heap.size)
    (hS : ∀ (i : Nat) (o : Oper) (r : Rsc), ops[i]? = some o → R[i]? = some r → StepAt P ops Bs wS R i o r (fun σ => mixFr ops a0 σ (fun _ => true) i))
    (hE : ∀ (listed : Array Bool) (σ : Nat → Value) (a : Act) (w : World), Inv ops Bs wS R ini a0 listed σ a w → (∀ k, k < ops.size → listed.getD k false = true) → Q .normal a w) :
    ∀ (fuel : Nat) (listed : Array Bool) (σ : Nat → Value) (a : Act) (w : World), Inv ops Bs wS R ini a0 listed σ a w → listed.toList.count false ≤ fuel → wpAny P .any ops Q fuel listed a w := by
  have hend : ∀ (listed : Array Bool) (σ : Nat → Value) (a : Act) (w : World), Inv ops Bs wS R ini a0 listed σ a w → Region.ready .any ops listed = [] → Q .normal a w := by
    intro listed σ a w hI hr
    refine hE listed σ a w hI ?_
    intro k
    induction k using Nat.strongRecOn with
    | ind k ih =>
      intro hk
      obtain ⟨o, r, ho, _⟩ := hc.has k hk
      have hkl : k < listed.size := by rw [hI.sz]; exact hk
      cases hx : listed.getD k false with
      | true => rfl
      | false =>
        have : k ∈ Region.ready .any ops listed := mem_ready.2 ⟨by
          rw [Array.getD_eq_getD_getElem?, Array.getElem?_eq_getElem hkl] at hx ⊢
          exact hx, o, ho, fun e he hb => ih e.on (hc.low k o ho e he hb) (by have := hc.low k o ho e he hb; omega)⟩
        rw [hr] at this; cases this
  intro fuel
  induction fuel with
  | zero =>
    intro listed σ a w hI hn
    have hr : Region.ready .any ops listed = [] := by
      cases hx : Region.ready .any ops listed with
      | nil => rfl
      | cons i l =>
        have hm := (mem_ready.1 (show i ∈ Region.ready .any ops listed by rw [hx]; simp)).1
        rcases Nat.lt_or_ge i listed.size with h | h
        · have hf : listed[i] = false := by
            rw [Array.getD_eq_getD_getElem?, Array.getElem?_eq_getElem h] at hm
            exact hm
          have := count_set h hf
          omega
        · rw [Array.getD_eq_getD_getElem?, Array.getElem?_eq_none h] at hm; cases hm
    exact ⟨hr, hend listed σ a w hI hr⟩
  | succ fuel ih =>
    intro listed σ a w hI hn
    refine ⟨hend listed σ a w hI, fun i hi => ?_⟩
    obtain ⟨hun, o, ho, hall⟩ := mem_ready.1 hi
    have hlt := (Array.getElem?_eq_some_iff.1 ho).1
    obtain ⟨_, r, _, hr⟩ := hc.has i hlt
    have hil : i < listed.size := by rw [hI.sz]; exact hlt
    have hf : listed[i] = false := by
      rw [Array.getD_eq_getD_getElem?, Array.getElem?_eq_getElem hil] at hun
      exact hun
    have hcnt := count_set hil hf
    obtain ⟨e1, e2⟩ := inv_run hc hI ho hall
    have hif : listed.getD i false = false := by
      rw [Array.getD_eq_getD_getElem?, Array.getElem?_eq_getElem hil] at hun ⊢
      exact hun
    have hfacts : factsOf Bs R σ w (r.tk ++ r.nd) := factsOf_of _ (fun j hj => by
      obtain ⟨h1, h2⟩ := hc.wants i o r j ho hr hj
      have hheld : Held ops R ini listed j := by
        refine ⟨?_, fun t rt ht hlt hl hm => ?_⟩
        · rcases h1 with h1 | h1
          · have hlj := waits_listed h1 hall
            refine .inr ⟨?_, hlj⟩
            rw [← hI.sz]
            rcases Nat.lt_or_ge j listed.size with h | h
            · exact h
            · rw [Array.getD_eq_getD_getElem?, Array.getElem?_eq_none h] at hlj; cases hlj
          · exact .inl h1
        · have hne : t ≠ i := fun e => by subst e; rw [hif] at hl; cases hl
          have hw := h2 t rt ht hlt hne hm
          unfold waitsAt at hw
          split at hw
          · rename_i ot hot
            have := waits_listed hw (hI.closed t ot hl hot)
            rw [hif] at this; cases this
          · cases hw
      have hR : ∃ rj, R[j]? = some rj := by
        rcases hheld.1 with h | h
        · obtain ⟨_, rj, h, _⟩ := hc.inis j h
          exact ⟨rj, h⟩
        · obtain ⟨_, rj, _, h⟩ := hc.has j h.1
          exact ⟨rj, h⟩
      obtain ⟨rj, hrj⟩ := hR
      exact ⟨rj, hrj, hI.held j rj hrj hheld⟩)
    have hst := hS i o r ho hr σ w hI.keep hfacts
    unfold wpOp
    simp only [ho]
    rw [e2]
    dsimp only at hst
    split
    · rename_i hw
      rw [if_pos hw, ← e1] at hst
      exact .inl (rel_wp hst (fun v w' hL => ih _ _ _ _ (inv_step hc hok hBs hI ho hr hun hall hL) (by omega)))
    · rename_i hw
      rw [if_neg hw] at hst
      exact ih _ _ _ _ (inv_step hc hok hBs hI ho hr hun hall hst) (by omega)

def finB (ops : Array Oper) (R : List Rsc) (ini fin : List Nat) : Bool :=
  fin.all fun k => (decide (k < ops.size) || ini.contains k) && (List.range ops.size).all fun t => !(((R[t]?).map (·.tk)).getD []).contains k

/-- ONE WALK IN THE ORDER OF THE TEXT SERVES EVERY ORDER. -/
theorem wp_region_rel {id : Nat} {l : List Oper} {a : Act} {w : World} (R : List Rsc) (ini fin : List Nat) (Bs : Nat → Prop)
    (hm : P.follows .mixedOrders = true) (hchk : check l.toArray R ini = true) (hfin : finB l.toArray R ini fin = true)
    (hok : ∀ r, r ∈ R → r.Ok Bs) (hBs : ∀ b, Bs b → b < w.heap.size)
    (hini : ∀ (k : Nat) (r : Rsc), k ∈ ini → R[k]? = some r → r.fact (fun _ => undef) { w with drawn := w.drawn + 1 } ∧ ∀ b, r.own (fun _ => undef) { w with drawn := w.drawn + 1 } b → b < w.heap.size ∧ ¬ Bs b)
    (hap : ∀ (j k : Nat) (rj rk : Rsc), j ∈ ini → k ∈ ini → j ≠ k → R[j]? = some rj → R[k]? = some rk → ∀ b, rj.own (fun _ => undef) { w with drawn := w.drawn + 1 } b → ¬ rk.own (fun _ => undef) { w with drawn := w.drawn + 1 } b)
    (hW : Walk P l.toArray Bs { w with drawn := w.drawn + 1 } R l R 0 (fun _ => a))
    (hE : ∀ (σ : Nat → Value) (w' : World), Keep Bs { w with drawn := w.drawn + 1 } w' → factsOf Bs R σ w' fin →
      (∀ (j k : Nat) (rj rk : Rsc), j ∈ fin → k ∈ fin → j ≠ k → R[j]? = some rj → R[k]? = some rk → ∀ b, rj.own σ w' b → ¬ rk.own σ w' b) → Q .normal (putAll l 0 a σ) w') :
    (Code.region id l.toArray true).wp P Q a w := by
  have hc := chk_of hchk
  have hok' : ∀ (k : Nat) (r : Rsc), R[k]? = some r → r.Ok Bs := fun k r h => hok r (List.mem_of_getElem? h)
  have hno : ∀ k, (Array.replicate l.toArray.size false).getD k false = false := fun k => by
    rw [Array.getD_eq_getD_getElem?, Array.getElem?_replicate]
    split <;> rfl
  have hHeld : ∀ k, Held l.toArray R ini (Array.replicate l.toArray.size false) k → k ∈ ini := fun k h => by
    rcases h.1 with h | h
    · exact h
    · rw [hno] at h; cases h.2
  refine wp_region_any hm (any_of_inv (R := R) (ini := ini) (Bs := Bs) (wS := { w with drawn := w.drawn + 1 }) (a0 := a) hc hok' hBs (fun i o r ho hr => walk_at hW ho hr) ?_ _ _ (fun _ => undef) _ _ ?_ ?_)
  · intro listed σ a' w' hI hall
    have hheld : ∀ k, k ∈ fin → Held l.toArray R ini listed k ∧ ∃ r, R[k]? = some r := fun k hk => by
      unfold finB at hfin
      have := List.all_eq_true.1 hfin k hk
      simp only [Bool.and_eq_true, Bool.or_eq_true, decide_eq_true_eq, List.all_eq_true, List.mem_range, Bool.not_eq_true'] at this
      refine ⟨⟨?_, fun t r ht hlt _ hmem => ?_⟩, ?_⟩
      · rcases this.1 with h | h
        · exact .inr ⟨h, hall k h⟩
        · exact .inl (List.contains_iff_mem.1 h)
      · have h2 := this.2 t hlt
        rw [ht] at h2
        simp only [Option.map_some, Option.getD_some] at h2
        rw [List.contains_iff_mem.2 hmem] at h2; cases h2
      · rcases this.1 with h | h
        · obtain ⟨_, r, _, h⟩ := hc.has k h
          exact ⟨r, h⟩
        · obtain ⟨_, r, h, _⟩ := hc.inis k (List.contains_iff_mem.1 h)
          exact ⟨r, h⟩
    have hfr : a' = putAll l 0 a σ := by
      rw [hI.fr]
      have := putAll_mix (l := l) (a0 := a) (σ := σ) l.length 0 (by omega)
      rw [List.drop_zero] at this
      refine Eq.trans ?_ this.symm
      rw [show l.toArray.size = l.length from by simp]
      exact mixFr_low _ (fun k hk => ⟨hall k (by simpa using hk), rfl⟩)
    rw [hfr]
    refine hE σ w' hI.keep (factsOf_of _ (fun j hj => ?_)) (fun j k rj rk hj hk hne hrj hrk b => ?_)
    · obtain ⟨hh, r, hr⟩ := hheld j hj
      exact ⟨r, hr, hI.held j r hr hh⟩
    · exact hI.apart j k rj rk hrj hrk (hheld j hj).1 (hheld k hk).1 hne b
  · refine ⟨by simp, ?_, Keep.refl _ _, ?_, ?_, ?_⟩
    · have : ∀ n, mixFr l.toArray a (fun _ => undef) (fun k => (Array.replicate l.toArray.size false).getD k false) n = a := by
        intro n
        induction n with
        | zero => rfl
        | succ n ih => unfold mixFr; rw [hno, if_neg Bool.false_ne_true]; exact ih
      exact (this _).symm
    · intro t o ht
      rw [hno] at ht; cases ht
    · intro k r hr hh
      exact hini k r (hHeld k hh) hr
    · intro j k rj rk hrj hrk hj hk hne b hb
      exact hap j k rj rk (hHeld j hj) (hHeld k hk) hne hrj hrk b hb
  · refine Nat.le_trans (List.count_le_length) ?_
    simp
end

end Rlw
end Go.Proofs.YtnlepjcjakghcaaGreatDoor

namespace Go.Proofs.YtnlepjcjakghcaaGreatDoor
open Go.RowKit Go.PlainAid Go.Sort
set_option linter.unusedVariables false

/-- Draws, and new blocks alone. -/
def Grw (w w' : World) : Prop := ∃ q os, w' = grow (w.drewN q) os
theorem Grw.refl (w : World) : Grw w w := ⟨0, #[], by rw [grow_empty]; rfl⟩
theorem Grw.alloc {w w' : World} (h : Grw w w') (o : Obj) : Grw w (w'.alloc o) := by
  obtain ⟨q, os, rfl⟩ := h
  exact ⟨q, os ++ #[o], by rw [alloc_eq_grow, grow_grow]⟩
theorem Grw.trans {w w1 w2 : World} (h : Grw w w1) (h2 : Grw w1 w2) : Grw w w2 := by
  obtain ⟨q, os, rfl⟩ := h
  obtain ⟨r, os2, rfl⟩ := h2
  refine ⟨q + r, os ++ os2, ?_⟩
  show grow (grow ((w.drewN q).drewN r) os) os2 = _
  rw [grow_grow, World.drewN_drewN]
theorem below_grow (w : World) (q : Nat) (os : Array Obj) : Below w.heap.size w (grow (w.drewN q) os) := by
  refine ⟨rfl, rfl, rfl, ?_, fun k hk => ?_⟩
  · show w.heap.size ≤ (w.heap ++ os).size
    rw [Array.size_append]; omega
  · exact heap_grow_old (w.drewN q) os hk
theorem Grw.below {w w' : World} (h : Grw w w') : Below w.heap.size w w' := by
  obtain ⟨q, os, rfl⟩ := h
  exact below_grow w q os

end Go.Proofs.YtnlepjcjakghcaaGreatDoor

namespace Go.Proofs.YtnlepjcjakghcaaGreatDoor
open Go.RowKit Go.PlainAid
set_option linter.unusedVariables false
theorem Grw.keep {w w' : World} (h : Grw w w') {a : Addr} {v : Value} (hc : w.cell? a = some v) : w'.cell? a = some v := by
  rw [h.below.cell (World.block_lt_of_cell? w a hc)]; exact hc
theorem bkeep {w w' : World} (h : Below w.heap.size w w') {a : Addr} {v : Value} (hc : w.cell? a = some v) : w'.cell? a = some v := by
  rw [h.cell (World.block_lt_of_cell? w a hc)]; exact hc
theorem acell {w : World} {a : Addr} {v : Value} (h : w.cell? a = some v) (o : Obj) : (w.alloc o).cell? a = some v := bkeep ((Below.refl _ _).alloc (Nat.le_refl _) o) h
theorem bthaw {w w' : World} (h : Below w.heap.size w w') {a : Addr} {v : Value} (hc : w.cell? a = some v) (hf : w.frozen? a = false) : w'.frozen? a = false := by
  rw [h.frozen (World.block_lt_of_cell? w a hc)]; exact hf
end Go.Proofs.YtnlepjcjakghcaaGreatDoor

namespace Go.Proofs.YtnlepjcjakghcaaGreatDoor
open Go.RowKit Go.PlainAid
set_option linter.unusedVariables false

/-- The xs lie at a, K cells an element, each by R. -/
def Rw {α : Type} (R : World → α → List Value → Prop) (K : Nat) (w : World) (a : Option Addr) (xs : List α) : Prop :=
  0 < xs.length → ∃ b off, a = some ⟨b, off, none⟩ ∧ b < w.heap.size ∧ ∀ i x, xs[i]? = some x → ∃ vs, vs.length = K ∧ R w x vs ∧ ∀ j v, vs[j]? = some v → w.cell? ⟨b, off + i * K + j, none⟩ = some v
/-- What R says is kept by all that leaves old blocks as they were. -/
def Kp {α : Type} (R : World → α → List Value → Prop) : Prop := ∀ w w' x vs, R w x vs → Below w.heap.size w w' → R w' x vs

theorem Rw.keep {α : Type} {R : World → α → List Value → Prop} {K : Nat} {w w' : World} {a : Option Addr} {xs : List α} (h : Rw R K w a xs) (hk : Kp R) (hb : Below w.heap.size w w') : Rw R K w' a xs := by
  intro h0
  obtain ⟨b, off, rfl, hlt, hc⟩ := h h0
  refine ⟨b, off, rfl, Nat.lt_of_lt_of_le hlt hb.size, fun i x hx => ?_⟩
  obtain ⟨vs, h1, h2, h3⟩ := hc i x hx
  refine ⟨vs, h1, hk _ _ _ _ h2 hb, fun j v hv => ?_⟩
  rw [hb.cell (p := ⟨b, off + i * K + j, none⟩) hlt]
  exact h3 j v hv
/-- The element at k, read later. -/
theorem Rw.at {α : Type} {R : World → α → List Value → Prop} {K : Nat} {w w' : World} {a : Option Addr} {xs : List α} (h : Rw R K w a xs) (hk : Kp R) (hb : Below w.heap.size w w') {k : Nat} {x : α} (hx : xs[k]? = some x) :
    ∃ b off vs, a = some ⟨b, off, none⟩ ∧ b < w.heap.size ∧ vs.length = K ∧ R w' x vs ∧ ∀ j v, vs[j]? = some v → w'.cell? ⟨b, off + k * K + j, none⟩ = some v := by
  have h0 : 0 < xs.length := by
    have := (List.getElem?_eq_some_iff.1 hx).1
    omega
  obtain ⟨b, off, e, hlt, _⟩ := h h0
  obtain ⟨b', off', e', _, hc⟩ := (h.keep hk hb) h0
  rw [e] at e'
  cases e'
  obtain ⟨vs, h1, h2, h3⟩ := hc k x hx
  exact ⟨b, off, vs, e, hlt, h1, h2, h3⟩
theorem addn (b off i : Nat) : (⟨b, off, Option.none⟩ : Addr).add i = ⟨b, off + i, Option.none⟩ := by unfold Addr.add; split <;> simp_all
/-- Cells set behind one another. -/
def sets (F : List Value) (i : Nat) : List Value → List Value
  | [] => F
  | v :: vs => sets (F.set i v) (i + 1) vs
def wsets (w : World) (g i : Nat) : List Value → World
  | [] => w
  | v :: vs => wsets (w.setCell ⟨g, i, none⟩ v) g (i + 1) vs
theorem grown_refl (w : World) (r : Option Nat) : w.grownBy w r := ⟨rfl, rfl, rfl, Nat.le_refl _, fun _ _ _ => rfl⟩
theorem grown_tr {w w1 w2 : World} {r : Option Nat} (h : w.grownBy w1 r) (h2 : w1.grownBy w2 r) : w.grownBy w2 r :=
  ⟨h2.os.trans h.os, h2.tape.trans h.tape, h2.output.trans h.output, Nat.le_trans h.size h2.size, fun k hk hr => (h2.block k (Nat.lt_of_lt_of_le hk h.size) hr).trans (h.block k hk hr)⟩
theorem owns_sets {e : TypeId} {B K g n cap : Nat} : ∀ (vs : List Value) (w : World) (F : List Value) (i : Nat), w.ownsRow B e K (.slice (some ⟨g, 0, none⟩) n cap) n F →
    (wsets w g i vs).ownsRow B e K (.slice (some ⟨g, 0, none⟩) n cap) n (sets F i vs) ∧ w.grownBy (wsets w g i vs) (some g)
  | [], w, F, i, h => ⟨h, grown_refl _ _⟩
  | v :: vs, w, F, i, h => by
    have h1 := World.ownsRow.stored h i v
    have h2 := owns_sets vs _ _ (i + 1) h1.1
    exact ⟨h2.1, grown_tr h1.2 h2.2⟩
theorem owns_keep {e : TypeId} {w w' : World} {B K n m : Nat} {v : Value} {F : List Value} (h : w.ownsRow B e K v n F) (hb : Below m w w') (hm : ∀ k, v.ownBlock = some k → k < m) : w'.ownsRow B e K v n F := by
  refine ⟨h.1, ?_⟩
  rcases h.2 with h' | ⟨g, cap, cur, h1, hB, hg, h4⟩
  · exact .inl h'
  · exact .inr ⟨g, cap, cur, h1, hB, by rw [hb.block _ (hm g (by rw [h1]; rfl))]; exact hg, h4⟩
theorem owns_now {e : TypeId} {w w' : World} {B K n : Nat} {v : Value} {F : List Value} (h : w.ownsRow B e K v n F) (hb : Below w.heap.size w w') : w'.ownsRow B e K v n F :=
  owns_keep h hb (fun k hk => (World.ownsRow.lt h k hk).2)
theorem at_of {α : Type} {xs : List α} {k n : Nat} (h : xs.length = n) (hk : k < n) : ∃ x, xs[k]? = some x := ⟨_, List.getElem?_eq_getElem (by omega)⟩
end Go.Proofs.YtnlepjcjakghcaaGreatDoor

namespace Go.Proofs.YtnlepjcjakghcaaGreatDoor
open Go.RowKit Go.PlainAid Go.Sort
set_option linter.unusedVariables false
set_option maxRecDepth 20000
theorem grown_set (w : World) (a : Addr) (u : Value) : w.grownBy (w.setCell a u) (some a.block) :=
  ⟨rfl, rfl, rfl, by simp [World.setCell], fun k _ hk => Below.heap_setCell _ _ _ _ (fun e => hk (by rw [e]))⟩
/-- A box: its cells, and they may be written. -/
structure Bx (w : World) (q : Nat) (cs : List Value) : Prop where
  cl : w.rangeAt q 0 cs
  th : w.there q 0 cs.length
theorem Bx.cell {w : World} {q : Nat} {cs : List Value} (h : Bx w q cs) (j : Nat) {v : Value} (hj : cs[j]? = some v) : w.cell? ⟨q, j, none⟩ = some v := by
  have := h.cl j v hj
  rwa [Nat.zero_add] at this
theorem Bx.thaw {w : World} {q : Nat} {cs : List Value} (h : Bx w q cs) (j : Nat) (hj : j < cs.length) : w.frozen? ⟨q, j, none⟩ = false := by
  have := (h.th j hj).2
  rwa [Nat.zero_add] at this
theorem Bx.of {w : World} {q : Nat} {cs : List Value} (hc : ∀ j v, cs[j]? = some v → w.cell? ⟨q, j, none⟩ = some v) (hf : ∀ j, j < cs.length → w.frozen? ⟨q, j, none⟩ = false) : Bx w q cs :=
  ⟨fun j v hv => by rw [Nat.zero_add]; exact hc j v hv, fun j hj => by rw [Nat.zero_add]; exact ⟨by rw [hc j _ (List.getElem?_eq_getElem hj)]; rfl, hf j hj⟩⟩
theorem Bx.below {w w' : World} {q : Nat} {cs : List Value} (h : Bx w q cs) (hb : Below w.heap.size w w') : Bx w' q cs :=
  Bx.of (fun j v hv => bkeep hb (h.cell j hv)) (fun j hj => bthaw hb (h.cell j (List.getElem?_eq_getElem hj)) (h.thaw j hj))
theorem Bx.put {w : World} {q : Nat} {cs : List Value} (h : Bx w q cs) (vs : List Value) (hl : vs.length = cs.length) : Bx (w.setCells q 0 vs) q vs :=
  ⟨w.rangeAt_setCells_same q 0 vs (by rw [hl]; exact h.th), fun j hj => ⟨World.isSome_setCells q vs 0 w _ (h.th j (by omega)).1, by rw [World.frozen?_setCells]; exact (h.th j (by omega)).2⟩⟩
theorem below_cells {n : Nat} {w : World} {q : Nat} (hq : n ≤ q) : ∀ (vs : List Value) (o : Nat) (W : World), Below n w W → Below n w (W.setCells q o vs)
  | [], _, _, h => h
  | v :: r, o, W, h => by
    rw [World.setCells]
    exact below_cells hq r (o + 1) _ (h.setCell hq v)
theorem Bx.field {w : World} {q : Nat} {cs : List Value} (h : Bx w q cs) (j : Nat) (v : Value) : Bx (w.setCell ⟨q, j, none⟩ v) q (cs.set j v) := by
  refine Bx.of (fun i u hu => ?_) (fun i hi => ?_)
  · by_cases e : i = j
    · subst e
      have hi : i < cs.length := by have := (List.getElem?_eq_some_iff.1 hu).1; simpa using this
      rw [List.getElem?_set_self hi] at hu
      cases hu
      exact World.cell?_setCell_same _ _ _ (h.cell i (List.getElem?_eq_getElem hi))
    · rw [List.getElem?_set_ne (fun h => e h.symm)] at hu
      rw [World.cell?_setCell_other _ _ _ _ (fun h => e (by cases h; rfl))]
      exact h.cell i hu
  · rw [List.length_set] at hi
    rw [World.frozen?_setCell]
    exact h.thaw i hi
theorem Bx.far {w : World} {q : Nat} {cs : List Value} (h : Bx w q cs) (a : Addr) (v : Value) (hne : a.block ≠ q) : Bx (w.setCell a v) q cs :=
  Bx.of (fun i u hu => by rw [World.cell?_setCell_other _ _ _ _ (fun h => hne (by cases h; rfl))]; exact h.cell i hu) (fun i hi => by rw [World.frozen?_setCell]; exact h.thaw i hi)
theorem Bx.new (w : World) (cs : Array Value) (t : TypeId) : Bx (w.alloc (.cells cs t)) w.heap.size cs.toList :=
  Bx.of (fun j v hv => by rw [Array.getElem?_toList] at hv; simp [go_sem, hv]) (fun j hj => by simp [go_sem])
theorem wpl_putT {P : Program} {ops : Array Oper} {rest : List Oper} {op : Oper} {a : Act} {w : World} {Q : Exit → Act → World → Prop} (t : TypeId) (hgd : op.guard = none) (x y : Operand) (ho : op.op = .store t x y)
    (q : Nat) (cells : Array Value) (hx : a.eval x = .pointer (some ⟨q, 0, none⟩)) (hy : a.eval y = .agg cells) {cs : List Value} (h0 : Bx w q cs) (hv : cells.size = cs.length) (hi : (P.info? t).map (·.size) = some cells.size) (h1 : cells.toList.all (·.oneCell') = true)
    (h : ∀ w', w' = w.setCells q 0 cells.toList → Bx w' q cells.toList → wpList P ops Q rest (a.put op.dst undef) w') : wpList P ops Q (op :: rest) a w :=
  wpList_store_mid hgd t x y ho q 0 cells hx hy (by rw [hv]; exact h0.th) hi (by rw [← Array.all_toList]; exact h1) (h _ rfl (h0.put _ (by simp [hv])))
theorem wpl_getT {P : Program} {ops : Array Oper} {rest : List Oper} {op : Oper} {a : Act} {w : World} {Q : Exit → Act → World → Prop} (t : TypeId) (hgd : op.guard = none) (x : Operand) (ho : op.op = .load t x)
    (q : Nat) (hx : a.eval x = .pointer (some ⟨q, 0, none⟩)) {cs : List Value} (h0 : Bx w q cs) (d : TypeDesc) (hu : P.underlying t = some d) (hd : d.isRow = true) (hi : (P.info? t).map (·.size) = some cs.length)
    (h : wpList P ops Q rest (a.put op.dst (.agg cs.toArray)) w) : wpList P ops Q (op :: rest) a w :=
  wpList_load_mid hgd t x ho q 0 hx cs d h0.cl hu hd hi h
theorem Bx.sets {q : Nat} : ∀ (vs : List Value) (o : Nat) (w : World) (cs : List Value), Bx w q cs → Bx (w.setCells q o vs) q (sets cs o vs)
  | [], _, _, _, h => h
  | v :: r, o, w, cs, h => by
    rw [World.setCells]
    unfold Go.Proofs.YtnlepjcjakghcaaGreatDoor.sets
    exact Bx.sets r (o + 1) _ _ (h.field o v)
theorem Bx.thereAt {w : World} {q : Nat} {cs : List Value} (h : Bx w q cs) (o n : Nat) (hn : o + n ≤ cs.length) : w.there q o n := fun j hj => ⟨by rw [h.cell (o + j) (List.getElem?_eq_getElem (by omega))]; rfl, h.thaw (o + j) (by omega)⟩
theorem heap_cellsA {q : Nat} : ∀ (vs : List Value) (o : Nat) (w : World), (w.setCells q o vs).heap.size = w.heap.size ∧ ∀ k, k ≠ q → (w.setCells q o vs).heap[k]? = w.heap[k]?
  | [], _, _ => ⟨rfl, fun _ _ => rfl⟩
  | v :: r, o, w => by
    rw [World.setCells]
    obtain ⟨h1, h5⟩ := heap_cellsA r (o + 1) (w.setCell ⟨q, o, none⟩ v)
    exact ⟨h1.trans (by simp [World.setCell]), fun k hk => (h5 k hk).trans (Below.heap_setCell _ _ _ _ hk)⟩
theorem Bx.apartO {w : World} {q p o : Nat} {cs : List Value} (h : Bx w q cs) (vs : List Value) (hne : q ≠ p) : Bx (w.setCells p o vs) q cs :=
  ⟨World.rangeAt_setCells_apart h.cl p o vs (.inl hne), fun j hj => ⟨World.isSome_setCells p vs o w _ (h.th j hj).1, by rw [World.frozen?_setCells]; exact (h.th j hj).2⟩⟩
end Go.Proofs.YtnlepjcjakghcaaGreatDoor

namespace Go.Proofs.YtnlepjcjakghcaaGreatDoor
open Go.RowKit
set_option linter.unusedVariables false
namespace Rlw
open Rel (Keep)
theorem cell_of {w w' : World} {a : Addr} (h : w'.heap[a.block]? = w.heap[a.block]?) : w'.cell? a = w.cell? a := by
  unfold World.cell?; rw [h]
theorem froz_of {w w' : World} {a : Addr} (h : w'.heap[a.block]? = w.heap[a.block]?) : w'.frozen? a = w.frozen? a := by
  unfold World.frozen?; rw [h]
theorem bx_loc {w w' : World} {q : Nat} {cs : List Value} (h : Bx w q cs) (hq : w'.heap[q]? = w.heap[q]?) : Bx w' q cs :=
  Bx.of (fun j v hv => (cell_of (a := ⟨q, j, none⟩) hq).trans (h.cell j hv)) (fun j hj => (froz_of (a := ⟨q, j, none⟩) hq).trans (h.thaw j hj))
theorem own_loc {e : TypeId} {w w' : World} {B K n : Nat} {v : Value} {F : List Value} (h : w.ownsRow B e K v n F) (hq : ∀ k, v.ownBlock = some k → w'.heap[k]? = w.heap[k]?) : w'.ownsRow B e K v n F := by
  refine ⟨h.1, ?_⟩
  rcases h.2 with h' | ⟨g, cap, cur, h1, hB, hg, h4⟩
  · exact .inl h'
  · exact .inr ⟨g, cap, cur, h1, hB, by rw [hq g (by rw [h1]; rfl)]; exact hg, h4⟩

/-- A value that is known. -/
def valR (i : Nat) (nd : List Nat) (v : Value) : Rsc := ⟨fun σ _ => σ i = v, fun _ _ _ => False, [i], [], nd⟩
theorem valR_ok {Bs : Nat → Prop} (i : Nat) (nd : List Nat) (v : Value) : (valR i nd v).Ok Bs :=
  ⟨fun σ w w' h _ => ⟨h, fun b hb => hb⟩, fun σ σ' h w => ⟨fun hf => (h i (by simp [valR])).trans hf, fun b hb => hb⟩⟩
/-- Two values that stand to each other so. -/
def twoR (i j : Nat) (nd : List Nat) (p : Value → Value → Prop) : Rsc := ⟨fun σ _ => p (σ i) (σ j), fun _ _ _ => False, [i, j], [], nd⟩
theorem twoR_ok {Bs : Nat → Prop} (i j : Nat) (nd : List Nat) (p : Value → Value → Prop) : (twoR i j nd p).Ok Bs :=
  ⟨fun σ w w' h _ => ⟨h, fun b hb => hb⟩, fun σ σ' h w => ⟨fun hf => by
    have h1 := h i (by simp [twoR]); have h2 := h j (by simp [twoR])
    show p (σ' i) (σ' j)
    rw [h1, h2]; exact hf, fun b hb => hb⟩⟩
/-- A new value, with blocks of its own (which may hang on the world). -/
def retR (i : Nat) (nd : List Nat) (F : Value → World → Prop) (ow : Value → World → Nat → Prop) : Rsc := ⟨fun σ w => F (σ i) w, fun σ w b => ow (σ i) w b, [i], [], nd⟩
theorem retR_ok {Bs : Nat → Prop} (i : Nat) (nd : List Nat) (F : Value → World → Prop) (ow : Value → World → Nat → Prop) (h : ∀ v w w', F v w → Keep (fun b => Bs b ∨ ow v w b) w w' → F v w' ∧ ∀ b, ow v w' b → ow v w b) : (retR i nd F ow).Ok Bs :=
  ⟨fun σ w w' hf hk => h (σ i) w w' hf hk, fun σ σ' hh w => by
    have h1 := hh i (by simp [retR])
    exact ⟨fun hf => by show F (σ' i) w; rw [h1]; exact hf, fun b hb => by show ow (σ i) w b; rw [← h1]; exact hb⟩⟩
/-- A box. -/
def boxF (cs : List Value) (v : Value) (w : World) : Prop := ∃ q, v = .pointer (some ⟨q, 0, none⟩) ∧ Bx w q cs
def boxO (v : Value) (_ : World) (b : Nat) : Prop := v = .pointer (some ⟨b, 0, none⟩)
theorem box_loc {Bs : Nat → Prop} {cs : List Value} (v : Value) (w w' : World) (h : boxF cs v w) (hk : Keep (fun b => Bs b ∨ boxO v w b) w w') : boxF cs v w' ∧ ∀ b, boxO v w' b → boxO v w b := by
  obtain ⟨q, hv, hb⟩ := h
  exact ⟨⟨q, hv, bx_loc hb (hk.block q (.inr hv))⟩, fun b h => h⟩
def boxR (i : Nat) (nd : List Nat) (cs : List Value) : Rsc := retR i nd (boxF cs) boxO
theorem boxR_ok {Bs : Nat → Prop} (i : Nat) (nd : List Nat) (cs : List Value) : (boxR i nd cs).Ok Bs := retR_ok i nd _ _ box_loc
/-- The box j, filled by operation i. -/
def putR (j : Nat) (nd : List Nat) (cs : List Value) : Rsc := ⟨fun σ w => boxF cs (σ j) w, fun σ w b => boxO (σ j) w b, [j], [j], nd⟩
theorem putR_ok {Bs : Nat → Prop} (j : Nat) (nd : List Nat) (cs : List Value) : (putR j nd cs).Ok Bs :=
  ⟨fun σ w w' hf hk => box_loc (σ j) w w' hf hk, fun σ σ' hh w => by
    have h1 := hh j (by simp [putR])
    exact ⟨fun hf => by show boxF cs (σ' j) w; rw [h1]; exact hf, fun b hb => by show boxO (σ j) w b; rw [← h1]; exact hb⟩⟩

theorem left_below {R : List Rsc} {r : Rsc} {i : Nat} {σ : Nat → Value} {w : World} {v : Value} {w' : World} (hf : r.fact (upd σ i v) w') (ho : ∀ b, r.own (upd σ i v) w' b → w.heap.size ≤ b ∧ b < w'.heap.size) (hb : Below w.heap.size w w') : Left R r i σ w v w' :=
  ⟨hf, fun b h => .inr (ho b h), ⟨hb.os, hb.tape, hb.output, hb.size, fun k hk => hb.block k hk.1⟩⟩
theorem left_val {R : List Rsc} {i : Nat} {nd : List Nat} {σ : Nat → Value} {w : World} {v : Value} : Left R (valR i nd v) i σ w v w :=
  left_below (upd_self σ i v) (fun b h => h.elim) (Below.refl _ _)
theorem left_valB {R : List Rsc} {i : Nat} {nd : List Nat} {σ : Nat → Value} {w w' : World} {v : Value} (hb : Below w.heap.size w w') : Left R (valR i nd v) i σ w v w' :=
  left_below (upd_self σ i v) (fun b h => h.elim) hb
theorem left_ret {R : List Rsc} {i : Nat} {nd : List Nat} {σ : Nat → Value} {w w' : World} {v : Value} {F : Value → World → Prop} {ow : Value → World → Nat → Prop} (hf : F v w') (ho : ∀ b, ow v w' b → w.heap.size ≤ b ∧ b < w'.heap.size) (hb : Below w.heap.size w w') : Left R (retR i nd F ow) i σ w v w' :=
  left_below (by show F (upd σ i v i) w'; rw [upd_self]; exact hf) (fun b h => ho b (by have h2 : ow (upd σ i v i) w' b := h; rwa [upd_self] at h2)) hb
theorem left_box {R : List Rsc} {i : Nat} {nd : List Nat} {σ : Nat → Value} {w : World} (cs : Array Value) (t : TypeId) : Left R (boxR i nd cs.toList) i σ w (.pointer (some ⟨w.heap.size, 0, none⟩)) (w.alloc (.cells cs t)) :=
  left_ret ⟨_, rfl, Bx.new w cs t⟩ (fun b h => by
    have : w.heap.size = b := by cases h; rfl
    subst this
    simp) ((Below.refl _ _).alloc (Nat.le_refl _) _)
theorem heap_cells {q : Nat} : ∀ (vs : List Value) (o : Nat) (w : World), (w.setCells q o vs).heap.size = w.heap.size ∧ (w.setCells q o vs).os = w.os ∧ (w.setCells q o vs).tape = w.tape ∧ (w.setCells q o vs).output = w.output ∧ ∀ k, k ≠ q → (w.setCells q o vs).heap[k]? = w.heap[k]?
  | [], _, _ => ⟨rfl, rfl, rfl, rfl, fun _ _ => rfl⟩
  | v :: r, o, w => by
    rw [World.setCells]
    obtain ⟨h1, h2, h3, h4, h5⟩ := heap_cells r (o + 1) (w.setCell ⟨q, o, none⟩ v)
    exact ⟨h1.trans (by simp [World.setCell]), h2, h3, h4, fun k hk => (h5 k hk).trans (Below.heap_setCell _ _ _ _ hk)⟩
theorem left_put {R : List Rsc} {i j q : Nat} {nd nd' : List Nat} {σ : Nat → Value} {w : World} {u : Value} {cs vs : List Value} (hR : R[j]? = some (boxR j nd' cs)) (hij : j ≠ i) (hq : σ j = .pointer (some ⟨q, 0, none⟩)) (hb : Bx w q cs) (hl : vs.length = cs.length) : Left R (putR j nd vs) i σ w u (w.setCells q 0 vs) := by
  have hu : upd σ i u j = .pointer (some ⟨q, 0, none⟩) := by rw [upd_ne σ u hij]; exact hq
  obtain ⟨h1, h2, h3, h4, h5⟩ := heap_cells (q := q) vs 0 w
  refine ⟨⟨q, hu, hb.put vs hl⟩, fun b h => .inl ⟨j, _, by simp [putR], hR, ?_⟩, ⟨h2, h3, h4, by omega, fun k hk => h5 k ?_⟩⟩
  · show boxO (σ j) w b
    have h6 : boxO (upd σ i u j) w b := h
    rwa [upd_ne σ u hij] at h6
  · intro e
    subst e
    exact hk.2 j _ (by simp [putR]) hR hq
theorem keep_below {w w' : World} (h : Keep (fun b => b < w.heap.size) { w with drawn := w.drawn + 1 } w') : Below w.heap.size w w' := ⟨h.os, h.tape, h.output, h.size, h.block⟩
theorem fact_of {Bs : Nat → Prop} {R : List Rsc} {σ : Nat → Value} {w : World} : ∀ {l : List Nat} {j : Nat} {r : Rsc}, factsOf Bs R σ w l → l.contains j = true → R[j]? = some r → r.fact σ w
  | x :: l, j, r, h, hm, hr => by
    rcases List.mem_cons.1 (List.contains_iff_mem.1 hm) with e | e
    · subst e
      obtain ⟨r', hr', hf, _⟩ := h.1
      rw [hr] at hr'; cases hr'
      exact hf
    · exact fact_of h.2 (List.contains_iff_mem.2 e) hr
theorem walk_cons {P : Program} {ops : Array Oper} {Bs : Nat → Prop} {wS : World} {R : List Rsc} {o : Oper} {l : List Oper} {r : Rsc} {rs : List Rsc} {i : Nat} {Fr : (Nat → Value) → Act}
    (h : StepAt P ops Bs wS R i o r Fr) (hr : Walk P ops Bs wS R l rs (i + 1) (fun σ => (Fr σ).put o.dst (σ i))) : Walk P ops Bs wS R (o :: l) (r :: rs) i Fr := ⟨h, hr⟩
theorem walk_nil {P : Program} {ops : Array Oper} {Bs : Nat → Prop} {wS : World} {R : List Rsc} {rs : List Rsc} {i : Nat} {Fr : (Nat → Value) → Act} : Walk P ops Bs wS R [] rs i Fr := trivial
/-- What an operation has yielded, shut (so that no tactic looks into the run). -/
structure Yld (P : Program) (post : Value → World → Prop) (res : Result Next) : Prop where
  out : relUpon P post res
theorem yld_val {P : Program} {post : Value → World → Prop} {u : Value} {w : World} (h : post u w) : Yld P post (.ok (.value u) w) := ⟨h⟩
theorem yld_call {P : Program} {post : Value → World → Prop} {w : World} {f : FuncId} {args : Array Value} (h : Calls P f args w fun e w'' => ∃ v, e = .returned v ∧ post v w'') : Yld P post (.ok (.enter f args) w) := ⟨h⟩
theorem yld_get {P : Program} {post : Value → World → Prop} {o : Oper} {a : Act} {w : World} (t : TypeId) (x : Operand) (ho : o.op = .load t x) {q : Nat} (hx : a.eval x = .pointer (some ⟨q, 0, none⟩)) {cs : List Value} (hb : Bx w q cs) (d : TypeDesc) (hu : P.underlying t = some d) (hd : d.isRow = true)
    (hi : (P.info? t).map (·.size) = some cs.length) (h : post (.agg cs.toArray) w) : Yld P post ((execOp a.eval o).run P w) := by
  refine ⟨?_⟩
  unfold execOp
  simp only [ho, hx, Instr.loadAt, Instr.sureAddr, Sem.run_bind, Sem.run_pure, Result.andThen_ok, run_loadVar_mid w q 0 t cs d hb.cl hu hd hi]
  exact h
theorem yld_put {P : Program} {post : Value → World → Prop} {o : Oper} {a : Act} {w : World} (t : TypeId) (x y : Operand) (ho : o.op = .store t x y) {q : Nat} {cells : Array Value} (hx : a.eval x = .pointer (some ⟨q, 0, none⟩)) (hy : a.eval y = .agg cells) {cs : List Value} (hb : Bx w q cs)
    (hl : cells.size = cs.length) (hi : (P.info? t).map (·.size) = some cells.size) (h1 : cells.toList.all (·.oneCell') = true) (h : post undef (w.setCells q 0 cells.toList)) : Yld P post ((execOp a.eval o).run P w) := by
  refine ⟨?_⟩
  have hr := run_storeAt_mid w q 0 t cells (by rw [hl]; exact hb.th) hi (by rw [← Array.all_toList]; exact h1)
  unfold execOp
  simp only [ho, hx, hy, Sem.run_bind, Sem.run_pure, Result.andThen_ok, hr]
  exact h
theorem step_want {P : Program} {ops : Array Oper} {Bs : Nat → Prop} {wS : World} {R : List Rsc} {o : Oper} {r : Rsc} {i : Nat} {Fr : (Nat → Value) → Act} (hg : o.guard = none)
    (h : ∀ σ w, Keep Bs wS w → factsOf Bs R σ w (r.tk ++ r.nd) → ∀ post : Value → World → Prop, (∀ v w', Left R r i σ w v w' → post v w') → Yld P post ((execOp (Fr σ).eval o).run P w)) : StepAt P ops Bs wS R i o r Fr := by
  intro σ w hK hF
  rw [if_pos (by unfold Region.wanted; rw [hg])]
  exact (h σ w hK hF _ (fun _ _ h => h)).out
end Rlw
end Go.Proofs.YtnlepjcjakghcaaGreatDoor

namespace Go.Proofs.YtnlepjcjakghcaaGreatDoor
open Go.RowKit Go.PlainAid
set_option linter.unusedVariables false

/-- The cells of the xs, one behind the other. -/
def flatS {α : Type} (c : α → List Value) (xs : List α) : List Value := xs.flatMap c
section Fl
variable {α : Type} {c : α → List Value} {K : Nat}
theorem flatS_append (xs ys : List α) : flatS c (xs ++ ys) = flatS c xs ++ flatS c ys := by simp [flatS]
theorem flatS_one (x : α) : flatS c [x] = c x := by simp [flatS]
theorem flatS_cons (x : α) (xs : List α) : flatS c (x :: xs) = c x ++ flatS c xs := rfl
theorem flatS_len (hK : ∀ x, (c x).length = K) : ∀ xs : List α, (flatS c xs).length = xs.length * K
  | [] => by simp [flatS]
  | x :: xs => by rw [flatS_cons, List.length_append, hK, flatS_len hK xs, List.length_cons, Nat.add_mul]; omega
theorem flatS_at (hK : ∀ x, (c x).length = K) : ∀ (xs : List α) (i : Nat) (x : α) (j : Nat), xs[i]? = some x → j < K → (flatS c xs)[i * K + j]? = (c x)[j]?
  | [], i, x, j, h, hj => by simp at h
  | y :: xs, 0, x, j, h, hj => by
    simp at h
    subst h
    rw [flatS_cons, List.getElem?_append_left (by rw [hK]; omega)]
    congr 1
    omega
  | y :: xs, i + 1, x, j, h, hj => by
    rw [flatS_cons, List.getElem?_append_right (by rw [hK, Nat.add_mul]; omega), hK, show (i + 1) * K + j - K = i * K + j by rw [Nat.add_mul]; omega]
    exact flatS_at hK xs i x j (by simpa using h) hj
theorem sets_mid : ∀ (vs B A C : List Value), B.length = vs.length → sets (A ++ (B ++ C)) A.length vs = A ++ (vs ++ C)
  | [], [], A, C, _ => rfl
  | v :: vs, b :: B, A, C, h => by
    have e : (A ++ ((b :: B) ++ C)).set A.length v = (A ++ [v]) ++ (B ++ C) := by simp
    have := sets_mid vs B (A ++ [v]) C (by simpa using h)
    unfold sets
    rw [e, show A.length + 1 = (A ++ [v]).length by simp, this]
    simp
theorem flatS_sets (hK : ∀ x, (c x).length = K) (xs : List α) (i : Nat) (y : α) (hi : i < xs.length) : flatS c (xs.set i y) = sets (flatS c xs) (i * K) (c y) := by
  obtain ⟨A, x, C, rfl, rfl⟩ : ∃ A x C, xs = A ++ x :: C ∧ A.length = i := ⟨xs.take i, xs[i], xs.drop (i + 1), by simp, by simp; omega⟩
  have e : (A ++ x :: C).set A.length y = A ++ y :: C := by simp
  rw [e, flatS_append, flatS_append, flatS_cons, flatS_cons, ← flatS_len hK, sets_mid _ _ _ _ (by rw [hK, hK])]
theorem flatS_set1 (hK : ∀ x, (c x).length = K) (xs : List α) (i : Nat) (x y : α) (j : Nat) (v : Value) (hx : xs[i]? = some x) (hj : j < K) (hy : c y = (c x).set j v) : flatS c (xs.set i y) = (flatS c xs).set (i * K + j) v := by
  have hi := (List.getElem?_eq_some_iff.1 hx).1
  obtain ⟨A, x', C, rfl, rfl⟩ : ∃ A x C, xs = A ++ x :: C ∧ A.length = i := ⟨xs.take i, xs[i], xs.drop (i + 1), by simp, by simp; omega⟩
  have ex : x' = x := by simpa using hx
  subst ex
  have e : (A ++ x' :: C).set A.length y = A ++ y :: C := by simp
  rw [e, flatS_append, flatS_append, flatS_cons, flatS_cons, ← flatS_len hK, hy, List.set_append_right _ _ (by omega), List.set_append_left _ _ (by rw [hK]; omega), show (flatS c A).length + j - (flatS c A).length = j by omega]
end Fl

/-- The slice value v owns the xs, in a block from B on. -/
def OwnS {α : Type} (c : α → List Value) (K : Nat) (e : TypeId) (w : World) (B : Nat) (v : Value) (xs : List α) : Prop := w.ownsRow B e K v xs.length (flatS c xs)
/-- A flat struct, its cells and what is known of it. -/
def FR {α : Type} (c : α → List Value) (ok : α → Prop) (w : World) (u : α) (vs : List Value) : Prop := vs = c u ∧ ok u
theorem FR.kp {α : Type} {c : α → List Value} {ok : α → Prop} : Kp (FR c ok) := fun _ _ _ _ h _ => h
section Ow
variable {α : Type} {c : α → List Value} {K : Nat} {e : TypeId} {w w' : World} {B : Nat} {v : Value} {xs : List α}
theorem OwnS.lt (h : OwnS c K e w B v xs) : ∀ k, v.ownBlock = some k → B ≤ k ∧ k < w.heap.size := World.ownsRow.lt h
theorem OwnS.now (h : OwnS c K e w B v xs) (hb : Below w.heap.size w w') : OwnS c K e w' B v xs := owns_now h hb
theorem OwnS.kept {r : Option Nat} (h : OwnS c K e w B v xs) (hg : w.grownBy w' r) (hne : v.ownBlock = none ∨ v.ownBlock ≠ r) : OwnS c K e w' B v xs := World.ownsRow.kept h hg hne
theorem OwnS.lower {B' : Nat} (h : OwnS c K e w B v xs) (hB : B' ≤ B) : OwnS c K e w B' v xs := by
  refine ⟨h.1, ?_⟩
  rcases h.2 with h' | ⟨g, cap, cur, h1, hb, h4⟩
  · exact .inl h'
  · exact .inr ⟨g, cap, cur, h1, Nat.le_trans hB hb, h4⟩
theorem OwnS.slice (h : OwnS c K e w B v xs) : ∃ a cap, v = .slice a xs.length cap ∧ xs.length ≤ cap ∧ cap ≤ maxLen ∧ (∀ b off, a = some ⟨b, off, none⟩ → B ≤ b ∧ b < w.heap.size) := by
  rcases h.2 with ⟨h1, h2⟩ | ⟨g, cap, cur, h1, hB, hg, h3, h4, _⟩
  · exact ⟨none, 0, by rw [h1, h2], by omega, Nat.zero_le _, fun b off e => by cases e⟩
  · exact ⟨_, cap, h1, h3, h4, fun b off e => by cases e; exact ⟨hB, (Array.getElem?_eq_some_iff.1 hg).1⟩⟩
theorem OwnS.form {a : Option Addr} {n cap : Nat} (h : OwnS c K e w B (.slice a n cap) xs) (h0 : 0 < xs.length) : ∃ g, a = some ⟨g, 0, none⟩ ∧ B ≤ g ∧ g < w.heap.size ∧ xs.length = n := by
  rcases h.2 with ⟨h1, h2⟩ | ⟨g, cap, cur, h1, hB, hg, _⟩
  · omega
  · cases h1
    exact ⟨g, rfl, hB, (Array.getElem?_eq_some_iff.1 hg).1, rfl⟩
theorem OwnS.len {a : Option Addr} {n cap : Nat} (h : OwnS c K e w B (.slice a n cap) xs) : xs.length = n := by
  rcases h.2 with ⟨h1, h2⟩ | ⟨g, cap, cur, h1, _⟩
  · cases h1
    exact h2
  · cases h1
    rfl
theorem OwnS.rw {a : Option Addr} {n cap : Nat} {ok : α → Prop} (h : OwnS c K e w B (.slice a n cap) xs) (hK : ∀ x, (c x).length = K) (hok : ∀ x, x ∈ xs → ok x) : Rw (FR c ok) K w a xs := by
  intro h0
  obtain ⟨g, rfl, hB, hg, rfl⟩ := h.form h0
  refine ⟨g, 0, rfl, hg, fun i x hx => ⟨c x, hK x, ⟨rfl, hok x (List.mem_of_getElem? hx)⟩, fun j u hu => ?_⟩⟩
  have hj := (List.getElem?_eq_some_iff.1 hu).1
  rw [hK] at hj
  have hi := (List.getElem?_eq_some_iff.1 hx).1
  have : (i + 1) * K ≤ xs.length * K := Nat.mul_le_mul_right _ hi
  rw [Nat.add_mul] at this
  rw [Nat.zero_add, World.ownsRow.cellAt h _ (by omega), flatS_at hK xs i x j hx hj]
  exact hu
/-- What a load from or a store into element i wants to know. -/
theorem OwnS.cell {g n cap : Nat} (h : OwnS c K e w B (.slice (some ⟨g, 0, none⟩) n cap) xs) (hK : ∀ x, (c x).length = K) {i j : Nat} {x : α} {u : Value} (hx : xs[i]? = some x) (hu : (c x)[j]? = some u) : w.cell? ⟨g, i * K + j, none⟩ = some u ∧ w.frozen? ⟨g, i * K + j, none⟩ = false := by
  obtain rfl := h.len
  have hj := (List.getElem?_eq_some_iff.1 hu).1
  rw [hK] at hj
  have hi := (List.getElem?_eq_some_iff.1 hx).1
  have : (i + 1) * K ≤ xs.length * K := Nat.mul_le_mul_right _ hi
  rw [Nat.add_mul] at this
  exact ⟨by rw [World.ownsRow.cellAt h _ (by omega), flatS_at hK xs i x j hx hj]; exact hu, World.ownsRow.frozenAt h _⟩
theorem OwnS.nil (w : World) (B : Nat) : OwnS c K e w B (.slice none 0 0) ([] : List α) := World.ownsRow_nil w _ _ _
theorem OwnS.lit (w : World) (B : Nat) (hB : B ≤ w.heap.size) : OwnS c K e (w.alloc (.cells #[] e)) B (.slice (some ⟨w.heap.size, 0, none⟩) 0 0) ([] : List α) := World.ownsRow_lit w #[] 0 hB (Nat.zero_le _) (by simp)
/-- An element stored whole. -/
theorem OwnS.store {g n cap : Nat} (h : OwnS c K e w B (.slice (some ⟨g, 0, none⟩) n cap) xs) (hK : ∀ x, (c x).length = K) {i : Nat} (hi : i < n) (y : α) :
    OwnS c K e (wsets w g (i * K) (c y)) B (.slice (some ⟨g, 0, none⟩) n cap) (xs.set i y) ∧ w.grownBy (wsets w g (i * K) (c y)) (some g) := by
  obtain rfl := h.len
  have := owns_sets (c y) w _ (i * K) h
  refine ⟨?_, this.2⟩
  unfold OwnS
  rw [flatS_sets hK xs i y hi, List.length_set]
  exact this.1
/-- A field stored. -/
theorem OwnS.set1 {g n cap : Nat} (h : OwnS c K e w B (.slice (some ⟨g, 0, none⟩) n cap) xs) (hK : ∀ x, (c x).length = K) {i j : Nat} {x y : α} {u : Value} (hx : xs[i]? = some x) (hj : j < K) (hy : c y = (c x).set j u) :
    OwnS c K e (w.setCell ⟨g, i * K + j, none⟩ u) B (.slice (some ⟨g, 0, none⟩) n cap) (xs.set i y) ∧ w.grownBy (w.setCell ⟨g, i * K + j, none⟩ u) (some g) := by
  obtain rfl := h.len
  have := World.ownsRow.stored h (i * K + j) u
  refine ⟨?_, this.2⟩
  unfold OwnS
  rw [flatS_set1 hK xs i x y j u hx hj hy, List.length_set]
  exact this.1
end Ow
/-- The cells of a row that is read, one behind the other. -/
theorem flat_rw {α : Type} {c : α → List Value} {ok : α → Prop} {K : Nat} {w : World} {b off : Nat} {xs : List α} (h : Rw (FR c ok) K w (some ⟨b, off, none⟩) xs) (hK : ∀ x, (c x).length = K) (h0 : 0 < K) : ∀ j u, (flatS c xs)[j]? = some u → w.cell? ⟨b, off + j, none⟩ = some u := by
  intro j u hu
  have hj := (List.getElem?_eq_some_iff.1 hu).1
  rw [flatS_len hK] at hj
  have e1 : j = j / K * K + j % K := by rw [Nat.mul_comm]; exact (Nat.div_add_mod j K).symm
  have hq : j / K < xs.length := (Nat.div_lt_iff_lt_mul h0).2 hj
  have hr : j % K < K := Nat.mod_lt _ h0
  obtain ⟨b', off', e, hlt, hc⟩ := h (Nat.lt_of_le_of_lt (Nat.zero_le _) hq)
  cases e
  have hx : xs[j / K]? = some (xs[j / K]) := List.getElem?_eq_getElem hq
  obtain ⟨vs, h1, ⟨rfl, _⟩, h3⟩ := hc _ _ hx
  rw [e1, flatS_at hK xs _ _ _ hx hr] at hu
  have := h3 _ _ hu
  rw [Nat.add_assoc, ← e1] at this
  exact this
end Go.Proofs.YtnlepjcjakghcaaGreatDoor

namespace Go.Proofs.YtnlepjcjakghcaaGreatDoor
open Go.RowKit Go.PlainAid
set_option linter.unusedVariables false

/-- What is appended. -/
theorem OwnS.join {α : Type} {c : α → List Value} {K : Nat} {e : TypeId} {w w' : World} {B : Nat} {v v' : Value} {xs ys : List α} (h : OwnS c K e w B v xs) (hB : B ≤ w.heap.size) (h1 : w'.ownsRow B e K v' (xs.length + ys.length) (flatS c xs ++ flatS c ys)) (h2 : w.grownBy w' v.ownBlock) :
    OwnS c K e w' B v' (xs ++ ys) ∧ Below B w w' := by
  refine ⟨?_, (Below.refl B w).grown h2 hB (fun k hk => (h.lt k hk).1)⟩
  unfold OwnS
  rw [flatS_append, List.length_append]
  exact h1
end Go.Proofs.YtnlepjcjakghcaaGreatDoor

namespace Go.Proofs.YtnlepjcjakghcaaGreatDoor
open Go.RowKit
set_option linter.unusedVariables false
/-- A kind of values: what is owned, from which block on, and the blocks. -/
structure Knd where
  own : World → Nat → Value → Prop
  bk : World → Value → Nat → Prop
  keep : ∀ (w w' : World) (B : Nat) (v : Value), own w B v → (∀ b, bk w v b → w'.heap[b]? = w.heap[b]?) → own w' B v ∧ ∀ b, bk w' v b → bk w v b
  lt : ∀ (w : World) (B : Nat) (v : Value), own w B v → ∀ b, bk w v b → B ≤ b ∧ b < w.heap.size
  lower : ∀ (w : World) (B B' : Nat) (v : Value), own w B v → B' ≤ B → own w B' v
namespace Knd
theorem now {k : Knd} {w w' : World} {B : Nat} {v : Value} (h : k.own w B v) (hb : Below w.heap.size w w') : k.own w' B v := (k.keep w w' B v h (fun b hb' => hb.block b (k.lt w B v h b hb').2)).1
/-- A list of a flat struct. -/
def row {α : Type} (c : α → List Value) (K : Nat) (e : TypeId) (xs : List α) : Knd where
  own := fun w B v => OwnS c K e w B v xs
  bk := fun _ v b => v.ownBlock = some b
  keep := fun w w' B v h hk => ⟨Rlw.own_loc h hk, fun b hb => hb⟩
  lt := fun w B v h b hb => h.lt b hb
  lower := fun w B B' v h hB => h.lower hB
end Knd
namespace Rlw
open Rel (Keep)
/-- A value of a kind that an operation hands over. -/
def kndR (i : Nat) (nd : List Nat) (k : Knd) (B : Nat) : Rsc := retR i nd (fun v w => k.own w B v) (fun v w b => k.bk w v b)
theorem kndR_ok {Bs : Nat → Prop} (i : Nat) (nd : List Nat) (k : Knd) (B : Nat) : (kndR i nd k B).Ok Bs :=
  retR_ok i nd _ _ (fun v w w' hf hk => k.keep w w' B v hf (fun b hb => hk.block b (.inr hb)))
theorem left_knd {R : List Rsc} {i : Nat} {nd : List Nat} {σ : Nat → Value} {w w' : World} {v : Value} {k : Knd} {B : Nat} (hf : k.own w' w.heap.size v) (hB : B ≤ w.heap.size) (hb : Below w.heap.size w w') : Left R (kndR i nd k B) i σ w v w' :=
  left_ret (k.lower w' _ B v hf hB) (k.lt w' _ v hf) hb
/-- The box j, filled with the struct that operation t has yielded. -/
def putV (j t : Nat) (nd : List Nat) : Rsc := ⟨fun σ w => ∃ cs : List Value, σ t = .agg cs.toArray ∧ boxF cs (σ j) w, fun σ w b => boxO (σ j) w b, [j, t], [j], nd⟩
theorem putV_ok {Bs : Nat → Prop} (j t : Nat) (nd : List Nat) : (putV j t nd).Ok Bs :=
  ⟨fun σ w w' ⟨cs, hc, hf⟩ hk => ⟨⟨cs, hc, (box_loc (σ j) w w' hf hk).1⟩, (box_loc (σ j) w w' hf hk).2⟩, fun σ σ' hh w => by
    have h1 := hh j (by simp [putV])
    have h2 := hh t (by simp [putV])
    exact ⟨fun ⟨cs, hc, hf⟩ => ⟨cs, by rw [h2]; exact hc, by rw [h1]; exact hf⟩, fun b hb => by show boxO (σ j) w b; rw [← h1]; exact hb⟩⟩
theorem left_putV {R : List Rsc} {i j t q : Nat} {nd nd' : List Nat} {σ : Nat → Value} {w : World} {u : Value} {cs vs : List Value} (hR : R[j]? = some (boxR j nd' cs)) (hij : j ≠ i) (hti : t ≠ i) (hq : σ j = .pointer (some ⟨q, 0, none⟩)) (ht : σ t = .agg vs.toArray) (hb : Bx w q cs) (hl : vs.length = cs.length) : Left R (putV j t nd) i σ w u (w.setCells q 0 vs) := by
  have hu : upd σ i u j = .pointer (some ⟨q, 0, none⟩) := by rw [upd_ne σ u hij]; exact hq
  obtain ⟨h1, h2, h3, h4, h5⟩ := heap_cells (q := q) vs 0 w
  refine ⟨⟨vs, by rw [upd_ne σ u hti]; exact ht, q, hu, hb.put vs hl⟩, fun b h => .inl ⟨j, _, by simp [putV], hR, ?_⟩, ⟨h2, h3, h4, by omega, fun k hk => h5 k ?_⟩⟩
  · show boxO (σ j) w b
    have h6 : boxO (upd σ i u j) w b := h
    rwa [upd_ne σ u hij] at h6
  · intro e
    subst e
    exact hk.2 j _ (by simp [putV]) hR hq
end Rlw
end Go.Proofs.YtnlepjcjakghcaaGreatDoor

namespace Go.Proofs.YtnlepjcjakghcaaGreatDoor
open Go.RowKit Go.PlainAid
set_option linter.unusedVariables false

structure RuleV where
  p : Int
  ip : Int
  b : Int
  lo : Int
  hi : Int
  al : Bool
deriving Inhabited
structure PlaceV where
  ip : Int
  b : Int
  lo : Int
  hi : Int
deriving Inhabited
structure RoleV where
  nm : ByteArray
  rs : List RuleV
  q : Int
  m : Int
  i : Int
instance : Inhabited RoleV := ⟨⟨⟨#[]⟩, [], 0, 0, 0⟩⟩
def rv (r : RuleV) : List Value := [.int .i64 r.p, .int .i64 r.ip, .int .i64 r.b, .int .i64 r.lo, .int .i64 r.hi, .bool r.al]
def pv (r : PlaceV) : List Value := [.int .i64 r.ip, .int .i64 r.b, .int .i64 r.lo, .int .i64 r.hi]
/-- The cells of a rule. -/
def RuR (w : World) (r : RuleV) (vs : List Value) : Prop := vs = rv r ∧ r.lo ≤ 9223372036854775807 ∧ r.hi ≤ 9223372036854775807
def PlR (w : World) (r : PlaceV) (vs : List Value) : Prop := vs = pv r ∧ r.lo ≤ 9223372036854775807 ∧ r.hi ≤ 9223372036854775807
theorem RuR.kp : Kp RuR := fun _ _ _ _ h _ => h
theorem PlR.kp : Kp PlR := fun _ _ _ _ h _ => h
/-- The cells of a role, its rules in a block from g on. -/
def RoR (g : Nat) (w : World) (r : RoleV) (vs : List Value) : Prop := ∃ a cap, vs = [.string r.nm, .slice a r.rs.length cap, .int .i64 r.q, .int .i64 r.m, .int .i64 r.i] ∧ r.nm.size ≤ maxLen ∧ r.rs.length ≤ cap ∧ cap ≤ maxLen ∧ Rw RuR 6 w a r.rs ∧ ∀ b off, a = some ⟨b, off, none⟩ → g ≤ b
theorem RoR.kp (g : Nat) : Kp (RoR g) := fun _ _ _ _ h hb => by
  obtain ⟨a, cap, h1, h2, h3, h4, h5, h6⟩ := h
  exact ⟨a, cap, h1, h2, h3, h4, h5.keep RuR.kp hb, h6⟩
section Opn
variable {H : Type} {enc : TypeId × Value → H} {w : World} {base : Nat} {spare : Nat → Bool} {held : Bool} {fuel : Nat} {cs : List Value} {x : DataW H × List MemPlace}

end Opn
end Go.Proofs.YtnlepjcjakghcaaGreatDoor

namespace Go.Proofs.YtnlepjcjakghcaaGreatDoor.Pl
open Go.RowKit Go.PlainAid
set_option linter.unusedVariables false

end Go.Proofs.YtnlepjcjakghcaaGreatDoor.Pl

namespace Go.Proofs.YtnlepjcjakghcaaGreatDoor
open Go.RowKit Go.PlainAid Go.Proofs.YtnlepjcjakghcaaGreatDoor.Pl
set_option linter.unusedVariables false

/-- A slice of bytes: its numbers are 'f 0', 'f 1' .. -/
def Bytes (w : World) (a : Option Addr) (len : Nat) (f : Nat → Int) : Prop :=
  (∀ k, 0 ≤ f k ∧ f k ≤ 255) ∧ (0 < len → ∃ b off, a = some ⟨b, off, none⟩ ∧ ∀ i, i < len → w.cell? ⟨b, off + i, none⟩ = some (.int .u8 (f i)))

/-- The same row as a string. -/
def strOf (f : Nat → Int) (n : Nat) : ByteArray := strOfNums ((List.range n).map f)

theorem conv_row {P : Program} (w : World) (src dst e : TypeId) (hs : P.underlying src = some (.slice e)) (he : P.underlying e = some (.int .u8)) (hd : P.underlying dst = some .string)
    (a : Option Addr) (len cap : Nat) (f : Nat → Int) (h : Bytes w a len f) :
    (convert src dst (.slice a len cap)).run P w = .ok (.string (strOf f len)) w := by
  rcases Nat.eq_zero_or_pos len with h0 | h0
  · subst h0
    have e0 : strOf f 0 = ByteArray.empty := by simp [strOf, strOfNums, ByteArray.empty, ByteArray.emptyWithCapacity]; rfl
    rw [e0]
    cases a with
    | none => exact run_convert_bytes_nil w src e hs he 0 cap dst hd
    | some x =>
      rw [run_convert_bytes_string w src dst e _ 0 cap hs he hd]
      exact run_bytesToString w x 0 cap [] (by simpa using run_loadCells_list (P := P) w x [] (fun j v hj => by simp at hj))
  · obtain ⟨b, off, rfl, hc⟩ := h.2 h0
    exact run_convert_bytes_arg w src e hs he b off len cap ((List.range len).map f) (by simp) (fun i hi => by rw [hc i hi]; simp [hi]) dst hd

theorem Bytes.below {B : Nat} {w w' : World} {a : Option Addr} {len : Nat} {f : Nat → Int} (h : Bytes w a len f) (hb : Below B w w') (hlt : ∀ b off, 0 < len → a = some ⟨b, off, none⟩ → b < B) : Bytes w' a len f := by
  refine ⟨h.1, fun h0 => ?_⟩
  obtain ⟨b, off, rfl, hc⟩ := h.2 h0
  exact ⟨b, off, rfl, fun i hi => by rw [hb.cell (p := ⟨b, off + i, none⟩) (hlt b off h0 rfl)]; exact hc i hi⟩
end Go.Proofs.YtnlepjcjakghcaaGreatDoor

namespace Go.Proofs.YtnlepjcjakghcaaGreatDoor
open Go.RowKit Go.PlainAid
set_option linter.unusedVariables false

/-- Behind w a new block of len cells was made; the first k of them are 'f 0' .. -/
def Fill (w wr : World) (len k : Nat) (f : Nat → Int) : Prop :=
  Below w.heap.size w wr ∧ w.heap.size < wr.heap.size ∧ (∀ i, wr.frozen? ⟨w.heap.size, i, none⟩ = false) ∧ (∀ i, i < len → ∃ v, wr.cell? ⟨w.heap.size, i, none⟩ = some v) ∧ ∀ i, i < k → wr.cell? ⟨w.heap.size, i, none⟩ = some (.int .u8 (f i))

theorem fill_start (w : World) (len : Nat) (f : Nat → Int) (e : TypeId) : Fill w (w.alloc (.cells (madeCells #[.int .u8 0] len) e)) len 0 f := by
  refine ⟨(Below.refl _ _).alloc (Nat.le_refl _) _, by simp, fun i => by simp, fun i hi => ?_, fun i hi => absurd hi (by omega)⟩
  rw [World.cell?_alloc_new]
  exact ⟨_, by simp [madeCells, hi]; rfl⟩

theorem fill_step {w wr : World} {len k : Nat} {f : Nat → Int} (h : Fill w wr len k f) (hk : k < len) : Fill w (wr.setCell ⟨w.heap.size, k, none⟩ (.int .u8 (f k))) len (k + 1) f := by
  obtain ⟨hb, hz, hf, hs, hc⟩ := h
  refine ⟨hb.setCell (Nat.le_refl _) _, by simpa using hz, fun i => by simpa using hf i, fun i hi => cell?_setCell_some (hs i hi).choose_spec, fun i hi => ?_⟩
  by_cases e : i = k
  · subst e
    exact World.cell?_setCell_same _ _ _ (hs i hk).choose_spec
  · rw [World.cell?_setCell_other _ _ _ _ (fun hh => e (Addr.mk.inj hh).2.1.symm)]
    exact hc i (by omega)

end Go.Proofs.YtnlepjcjakghcaaGreatDoor
