/- Regions that draw their order, whatever they do, walked once: each operation has a fact of its own (a resource: a fact of values and of the blocks that it owns), is shown from the facts of those that it waits for, and may take a fact's blocks over. Nothing of the program is imported. Regions by resources: the kinds of resources. -/
import Derived.WalkKit
import Derived.Below
import Derived.Still
import Derived.Test.YtlebblmlbhnppabGreatJ34
namespace Go.Proofs.YtlebblmlbhnppabGreat
open Go.RowKit
set_option linter.unusedVariables false

namespace Rel
/-- In the blocks of B nothing has turned; the streams are as they were; no block has gone. -/
structure Keep (B : Nat → Prop) (w w' : World) : Prop where
  os : w'.os = w.os
  tape : w'.tape = w.tape
  output : w'.output = w.output
  size : w.heap.size ≤ w'.heap.size
  block : ∀ k, B k → w'.heap[k]? = w.heap[k]?
theorem Keep.refl (B : Nat → Prop) (w : World) : Keep B w w := ⟨rfl, rfl, rfl, Nat.le_refl _, fun _ _ => rfl⟩
theorem Keep.trans {B : Nat → Prop} {a b c : World} (h : Keep B a b) (k : Keep B b c) : Keep B a c :=
  ⟨k.os.trans h.os, k.tape.trans h.tape, k.output.trans h.output, Nat.le_trans h.size k.size, fun i hi => (k.block i hi).trans (h.block i hi)⟩
theorem Keep.mono {B C : Nat → Prop} {a b : World} (h : Keep B a b) (hc : ∀ k, C k → B k) : Keep C a b := ⟨h.os, h.tape, h.output, h.size, fun i hi => h.block i (hc i hi)⟩

def upd (σ : Nat → Value) (i : Nat) (v : Value) : Nat → Value := fun j => if j = i then v else σ j
theorem upd_self (σ : Nat → Value) (i : Nat) (v : Value) : upd σ i v i = v := if_pos rfl
theorem upd_ne (σ : Nat → Value) {i j : Nat} (v : Value) (h : j ≠ i) : upd σ i v j = σ j := if_neg h

/-- What an operation leaves: a fact of the values so far and of the world, and the blocks that it owns. -/
structure Rsc where
  fact : (Nat → Value) → World → Prop
  own : (Nat → Value) → Nat → Prop
  dm : List Nat
  tk : List Nat
  nd : List Nat

/-- The fact hangs on its own blocks and those of Bs alone, and on the values of dm alone. -/
structure Rsc.Ok (Bs : Nat → Prop) (r : Rsc) : Prop where
  loc : ∀ σ w w', r.fact σ w → Keep (fun b => Bs b ∨ r.own σ b) w w' → r.fact σ w'
  ext : ∀ σ σ' : Nat → Value, (∀ j, j ∈ r.dm → σ' j = σ j) → (∀ w, r.fact σ w → r.fact σ' w) ∧ (∀ b, r.own σ' b → r.own σ b)

def dstOf (ops : Array Oper) (k : Nat) : Option Tmp := (ops[k]?).bind (·.dst)

/-- The frame with the values of those that are listed. -/
def mixFr (ops : Array Oper) (a0 : Act) (σ : Nat → Value) (L : Nat → Bool) : Nat → Act
  | 0 => a0
  | k + 1 => if L k then (mixFr ops a0 σ L k).put (dstOf ops k) (σ k) else mixFr ops a0 σ L k

def look (ops : Array Oper) (a0 : Act) (σ : Nat → Value) (L : Nat → Bool) (t : Nat) : Nat → Option Value
  | 0 => a0.tmps[t]?
  | k + 1 => if L k = true ∧ dstOf ops k = some t ∧ t < a0.tmps.size then some (σ k) else look ops a0 σ L t k

theorem mixFr_size (ops : Array Oper) (a0 : Act) (σ : Nat → Value) (L : Nat → Bool) : ∀ n, (mixFr ops a0 σ L n).tmps.size = a0.tmps.size
  | 0 => rfl
  | k + 1 => by
    unfold mixFr
    split
    · unfold Act.put
      split
      · simp [mixFr_size ops a0 σ L k]
      · exact mixFr_size ops a0 σ L k
    · exact mixFr_size ops a0 σ L k

theorem mixFr_look (ops : Array Oper) (a0 : Act) (σ : Nat → Value) (L : Nat → Bool) (t : Nat) : ∀ n, (mixFr ops a0 σ L n).tmps[t]? = look ops a0 σ L t n
  | 0 => rfl
  | k + 1 => by
    have ih := mixFr_look ops a0 σ L t k
    have hs := mixFr_size ops a0 σ L k
    unfold mixFr look
    by_cases hL : L k = true
    · rw [if_pos hL]
      cases hd : dstOf ops k with
      | none => simp only [Act.put]; rw [if_neg (by rintro ⟨_, h, _⟩; cases h)]; exact ih
      | some d =>
        simp only [Act.put]
        by_cases e : d = t
        · subst e
          by_cases hlt : d < a0.tmps.size
          · rw [if_pos ⟨hL, rfl, hlt⟩, Array.getElem?_setIfInBounds_self_of_lt (by rw [hs]; exact hlt)]
          · have hle : (mixFr ops a0 σ L k).tmps.size ≤ d := by rw [hs]; exact Nat.le_of_not_lt hlt
            rw [if_neg (by rintro ⟨_, _, h⟩; exact hlt h), ← ih, Array.setIfInBounds_eq_of_size_le hle]
        · rw [if_neg (by rintro ⟨_, h, _⟩; exact e (Option.some.inj h)), Array.getElem?_setIfInBounds_ne e]
          exact ih
    · rw [if_neg hL, if_neg (by rintro ⟨h, _⟩; exact hL h)]
      exact ih

theorem look_same {ops : Array Oper} {a0 : Act} {σ : Nat → Value} {L L' : Nat → Bool} {t : Nat} : ∀ n, (∀ k, k < n → dstOf ops k = some t → L k = L' k) → look ops a0 σ L t n = look ops a0 σ L' t n
  | 0, _ => rfl
  | k + 1, h => by
    unfold look
    rw [look_same k (fun j hj => h j (by omega))]
    by_cases e : dstOf ops k = some t
    · rw [h k (by omega) e]
    · rw [if_neg (fun x => e x.2.1), if_neg (fun x => e x.2.1)]
theorem look_cut {ops : Array Oper} {a0 : Act} {σ : Nat → Value} {L : Nat → Bool} {t i : Nat} (h : ∀ k, dstOf ops k = some t → k < i) : ∀ n, i ≤ n → look ops a0 σ L t n = look ops a0 σ L t i
  | 0, hn => by have : i = 0 := by omega
                subst this; rfl
  | k + 1, hn => by
    by_cases e : i = k + 1
    · rw [e]
    · rw [← look_cut h k (by omega)]
      conv => lhs; unfold look
      rw [if_neg (fun x => by have := h k x.2.1; omega)]

theorem mixFr_low {ops : Array Oper} {a0 : Act} {σ σ' : Nat → Value} {L L' : Nat → Bool} : ∀ n, (∀ k, k < n → L k = L' k ∧ σ k = σ' k) → mixFr ops a0 σ L n = mixFr ops a0 σ' L' n
  | 0, _ => rfl
  | k + 1, h => by
    unfold mixFr
    rw [mixFr_low k (fun j hj => h j (by omega)), (h k (by omega)).1, (h k (by omega)).2]

theorem mixFr_add {ops : Array Oper} {a0 : Act} {σ : Nat → Value} {L L' : Nat → Bool} {i : Nat} {v : Value} (hd : ∀ k, k ≠ i → ∀ d, dstOf ops i = some d → dstOf ops k ≠ some d) (hi : L i = false) (hi' : L' i = true) (hL : ∀ k, k ≠ i → L' k = L k) :
    ∀ n, i < n → mixFr ops a0 (upd σ i v) L' n = (mixFr ops a0 σ L n).put (dstOf ops i) v
  | 0, hn => by omega
  | k + 1, hn => by
    by_cases e : i = k
    · subst e
      unfold mixFr
      rw [if_pos hi', if_neg (by rw [hi]; exact Bool.false_ne_true), upd_self]
      rw [mixFr_low i (fun j hj => ⟨hL j (by omega), upd_ne σ v (by omega)⟩)]
    · have ih := mixFr_add (v := v) (σ := σ) (a0 := a0) hd hi hi' hL k (by omega)
      unfold mixFr
      rw [hL k (fun h => e h.symm), upd_ne σ v (fun h => e h.symm), ih]
      split
      · exact Act.put_comm _ _ _ (fun d h => hd k (fun h => e h.symm) d h)
      · rfl

def waits (o : Oper) (j : Nat) : Bool := o.after.any fun e => Region.binds .any e && e.on == j
def waitsAt (ops : Array Oper) (t i : Nat) : Bool := match ops[t]? with | some o => waits o i | none => false

/-- What the region and the resources must show by looking. -/
def check (ops : Array Oper) (R : List Rsc) (ini : List Nat) : Bool :=
  Region.noSelect ops && ini.all (fun k => decide (ops.size ≤ k) && ((R[k]?).map fun r => r.dm.isEmpty && r.tk.isEmpty).getD false) &&
  (List.range ops.size).all fun i => match ops[i]?, R[i]? with
    | some o, some r =>
      (o.after.all fun e => !Region.binds .any e || decide (e.on < i)) &&
      ((List.range ops.size).all fun j => match dstOf ops j with
        | none => true
        | some d => (j == i || dstOf ops i != some d) && (!(o.looksAt ops).contains d || waits o j)) &&
      ((r.tk ++ r.nd).all fun j => (waits o j || ini.contains j) && (List.range ops.size).all fun t => t == i || !(((R[t]?).map (·.tk)).getD []).contains j || waitsAt ops t i) &&
      r.dm.all (fun j => j == i || waits o j)
    | _, _ => false

/-- What an operation that has run has yielded. -/
def relUpon (P : Program) (post : Value → World → Prop) : Result Next → Prop
  | .ok (.value u) w' => post u w'
  | .ok .skip w' => post undef w'
  | .ok (.enter f args) w' => Calls P f args w' fun e w'' => ∃ v, e = .returned v ∧ post v w''
  | .ok (.row row args) w' => Rows P row args w' post
  | _ => False

/-- One operation: run in the frame of those ahead of it in the text, at a world where the facts that it wants hold. -/
def factsOf (Bs : Nat → Prop) (R : List Rsc) (σ : Nat → Value) (w : World) : List Nat → Prop
  | [] => True
  | j :: l => (∃ r, R[j]? = some r ∧ r.fact σ w ∧ ∀ b, r.own σ b → b < w.heap.size ∧ ¬ Bs b) ∧ factsOf Bs R σ w l

/-- What is asked of what it leaves. -/
structure Left (R : List Rsc) (r : Rsc) (i : Nat) (σ : Nat → Value) (w : World) (v : Value) (w' : World) : Prop where
  fact : r.fact (upd σ i v) w'
  own : ∀ b, r.own (upd σ i v) b → (∃ j rj, j ∈ r.tk ∧ R[j]? = some rj ∧ rj.own σ b) ∨ (w.heap.size ≤ b ∧ b < w'.heap.size)
  keep : Keep (fun b => b < w.heap.size ∧ ∀ j rj, j ∈ r.tk → R[j]? = some rj → ¬ rj.own σ b) w w'

def StepAt (P : Program) (ops : Array Oper) (Bs : Nat → Prop) (wS : World) (R : List Rsc) (i : Nat) (o : Oper) (r : Rsc) (Fr : (Nat → Value) → Act) : Prop :=
  ∀ σ w, Keep Bs wS w → factsOf Bs R σ w (r.tk ++ r.nd) →
    if Region.wanted o (yielded ops (Fr σ).tmps) = true then relUpon P (Left R r i σ w) ((execOp (Fr σ).eval o).run P w) else Left R r i σ w undef w

/-- All of them, in the order of the text. -/
def Walk (P : Program) (ops : Array Oper) (Bs : Nat → Prop) (wS : World) (R : List Rsc) : List Oper → List Rsc → Nat → ((Nat → Value) → Act) → Prop
  | o :: l, r :: rs, i, Fr => StepAt P ops Bs wS R i o r Fr ∧ Walk P ops Bs wS R l rs (i + 1) (fun σ => (Fr σ).put o.dst (σ i))
  | _, _, _, _ => True
def putAll : List Oper → Nat → Act → (Nat → Value) → Act
  | [], _, a, _ => a
  | o :: l, k, a, σ => putAll l (k + 1) (a.put o.dst (σ k)) σ

section
variable {P : Program} {ops : Array Oper} {Bs : Nat → Prop} {wS : World} {R : List Rsc} {ini fin : List Nat} {a0 : Act} {Q : Exit → Act → World → Prop}

def Held (ops : Array Oper) (R : List Rsc) (ini : List Nat) (listed : Array Bool) (k : Nat) : Prop :=
  (k ∈ ini ∨ (k < ops.size ∧ listed.getD k false = true)) ∧ ∀ t r, R[t]? = some r → t < ops.size → listed.getD t false = true → k ∉ r.tk

structure Inv (ops : Array Oper) (Bs : Nat → Prop) (wS : World) (R : List Rsc) (ini : List Nat) (a0 : Act) (listed : Array Bool) (σ : Nat → Value) (a : Act) (w : World) : Prop where
  sz : listed.size = ops.size
  fr : a = mixFr ops a0 σ (fun k => listed.getD k false) ops.size
  keep : Keep Bs wS w
  closed : ∀ t o, listed.getD t false = true → ops[t]? = some o → ∀ e ∈ o.after, Region.binds .any e = true → listed.getD e.on false = true
  held : ∀ k r, R[k]? = some r → Held ops R ini listed k → r.fact σ w ∧ ∀ b, r.own σ b → b < w.heap.size ∧ ¬ Bs b
  apart : ∀ j k rj rk, R[j]? = some rj → R[k]? = some rk → Held ops R ini listed j → Held ops R ini listed k → j ≠ k → ∀ b, rj.own σ b → ¬ rk.own σ b

structure Chk (ops : Array Oper) (R : List Rsc) (ini : List Nat) : Prop where
  nosel : Region.noSelect ops = true
  inis : ∀ k, k ∈ ini → ops.size ≤ k ∧ ∃ r, R[k]? = some r ∧ r.dm = []
  has : ∀ i, i < ops.size → ∃ o r, ops[i]? = some o ∧ R[i]? = some r
  low : ∀ (i : Nat) o, ops[i]? = some o → ∀ e ∈ o.after, Region.binds .any e = true → e.on < i
  dst : ∀ i j, i < ops.size → j ≠ i → ∀ d, dstOf ops i = some d → dstOf ops j ≠ some d
  looks : ∀ (i : Nat) o (j : Nat) d, ops[i]? = some o → dstOf ops j = some d → d ∈ o.looksAt ops → waits o j = true
  wants : ∀ (i : Nat) o r (j : Nat), ops[i]? = some o → R[i]? = some r → j ∈ r.tk ++ r.nd → (waits o j = true ∨ j ∈ ini) ∧ ∀ t rt, R[t]? = some rt → t < ops.size → t ≠ i → j ∈ rt.tk → waitsAt ops t i = true
  dm : ∀ (i : Nat) o r (j : Nat), ops[i]? = some o → R[i]? = some r → j ∈ r.dm → j = i ∨ waits o j = true

theorem dstOf_lt {j : Nat} {d : Tmp} (h : dstOf ops j = some d) : j < ops.size := by
  unfold dstOf at h
  cases ho : ops[j]? with
  | none => rw [ho] at h; cases h
  | some o => exact (Array.getElem?_eq_some_iff.1 ho).1

theorem chk_of (h : check ops R ini = true) : Chk ops R ini := by
  unfold check at h
  simp only [Bool.and_eq_true, List.all_eq_true, List.mem_range] at h
  obtain ⟨⟨h1, h2⟩, h3⟩ := h
  have at3 : ∀ i o, ops[i]? = some o → ∃ r, R[i]? = some r ∧
      (o.after.all fun e => !Region.binds .any e || decide (e.on < i)) = true ∧
      ((List.range ops.size).all fun j => match dstOf ops j with
        | none => true
        | some d => (j == i || dstOf ops i != some d) && (!(o.looksAt ops).contains d || waits o j)) = true ∧
      ((r.tk ++ r.nd).all fun j => (waits o j || ini.contains j) && (List.range ops.size).all fun t => t == i || !(((R[t]?).map (·.tk)).getD []).contains j || waitsAt ops t i) = true ∧
      r.dm.all (fun j => j == i || waits o j) = true := by
    intro i o ho
    have hi := (Array.getElem?_eq_some_iff.1 ho).1
    have := h3 i hi
    rw [ho] at this
    cases hr : R[i]? with
    | none => rw [hr] at this; simp at this
    | some r =>
      rw [hr] at this
      simp only [Bool.and_eq_true] at this
      exact ⟨r, rfl, this.1.1.1, this.1.1.2, this.1.2, this.2⟩
  refine ⟨h1, ?_, ?_, ?_, ?_, ?_, ?_, ?_⟩
  · intro k hk
    have := h2 k hk
    rw [decide_eq_true_eq] at this
    refine ⟨this.1, ?_⟩
    cases hr : R[k]? with
    | none => rw [hr] at this; simp at this
    | some r =>
      rw [hr] at this
      simp only [Option.map_some, Option.getD_some, Bool.and_eq_true] at this
      exact ⟨r, rfl, List.isEmpty_iff.1 this.2.1⟩
  · intro i hi
    obtain ⟨r, hr, _⟩ := at3 i ops[i] (Array.getElem?_eq_getElem hi)
    exact ⟨_, r, Array.getElem?_eq_getElem hi, hr⟩
  · intro i o ho e he hb
    obtain ⟨r, hr, h, _⟩ := at3 i o ho
    have := Array.all_eq_true_iff_forall_mem.1 h e he
    simpa [hb] using this
  · intro i j hi hne d hd hj
    obtain ⟨r, hr, _, h, _⟩ := at3 i ops[i] (Array.getElem?_eq_getElem hi)
    have := List.all_eq_true.1 h j (List.mem_range.2 (dstOf_lt hj))
    rw [hj] at this
    simp [hd, hne] at this
  · intro i o j d ho hj hl
    obtain ⟨r, hr, _, h, _⟩ := at3 i o ho
    have := List.all_eq_true.1 h j (List.mem_range.2 (dstOf_lt hj))
    rw [hj] at this
    simp only [Bool.and_eq_true, Bool.or_eq_true, Bool.not_eq_true'] at this
    rcases this.2 with hx | hx
    · rw [List.contains_iff_mem.2 hl] at hx; cases hx
    · exact hx
  · intro i o r j ho hr hj
    obtain ⟨r', hr', _, _, h, _⟩ := at3 i o ho
    rw [hr] at hr'; cases hr'
    have := List.all_eq_true.1 h j hj
    simp only [Bool.and_eq_true, Bool.or_eq_true, List.all_eq_true, List.mem_range, Bool.not_eq_true'] at this
    refine ⟨this.1.imp id (fun hx => List.contains_iff_mem.1 hx), fun t rt ht hlt hne hm => ?_⟩
    rcases this.2 t hlt with (hx | hx) | hx
    · exact absurd (by simpa using hx) hne
    · rw [ht] at hx; simp only [Option.map_some, Option.getD_some] at hx; rw [List.contains_iff_mem.2 hm] at hx; cases hx
    · exact hx
  · intro i o r j ho hr hj
    obtain ⟨r', hr', _, _, _, h⟩ := at3 i o ho
    rw [hr] at hr'; cases hr'
    have := List.all_eq_true.1 h j hj
    simpa using this

theorem waits_listed {listed : Array Bool} {o : Oper} {j : Nat} (hw : waits o j = true) (h : ∀ e ∈ o.after, Region.binds .any e = true → listed.getD e.on false = true) : listed.getD j false = true := by
  unfold waits at hw
  rw [Array.any_eq_true'] at hw
  obtain ⟨e, he, hx⟩ := hw
  simp only [Bool.and_eq_true, beq_iff_eq] at hx
  have := h e he hx.1
  rwa [hx.2] at this

theorem factsOf_of {σ : Nat → Value} {w : World} : ∀ l : List Nat, (∀ j, j ∈ l → ∃ r, R[j]? = some r ∧ r.fact σ w ∧ ∀ b, r.own σ b → b < w.heap.size ∧ ¬ Bs b) → factsOf Bs R σ w l
  | [], _ => trivial
  | j :: l, h => ⟨h j (by simp), factsOf_of l (fun i hi => h i (by simp [hi]))⟩

theorem walk_drop {l : List Oper} {ops : Array Oper} (hW : Walk P ops Bs wS R l R 0 (fun _ => a0)) (ho : ops = l.toArray) : ∀ k, k ≤ l.length → Walk P ops Bs wS R (l.drop k) (R.drop k) k (fun σ => mixFr ops a0 σ (fun _ => true) k) ∨ R.length < k
  | 0, _ => .inl (by
    rw [List.drop_zero, List.drop_zero]
    exact hW)
  | k + 1, hk => by
    rcases walk_drop hW ho k (by omega) with h | h
    · by_cases hr : k < R.length
      · rw [List.drop_eq_getElem_cons (show k < l.length by omega), List.drop_eq_getElem_cons hr] at h
        refine .inl ?_
        have h2 := h.2
        have e : ∀ σ, (mixFr ops a0 σ (fun _ => true) k).put (l[k]'(by omega)).dst (σ k) = mixFr ops a0 σ (fun _ => true) (k + 1) := fun σ => by
          conv => rhs; unfold mixFr
          rw [if_pos rfl]
          congr 1
          unfold dstOf
          rw [ho]
          simp [show k < l.length by omega]
        simp only [e] at h2
        exact h2
      · exact .inr (by omega)
    · exact .inr (by omega)

theorem walk_at {l : List Oper} (hW : Walk P l.toArray Bs wS R l R 0 (fun _ => a0)) {i : Nat} {o : Oper} {r : Rsc} (ho : l.toArray[i]? = some o) (hr : R[i]? = some r) :
    StepAt P l.toArray Bs wS R i o r (fun σ => mixFr l.toArray a0 σ (fun _ => true) i) := by
  have hi : i < l.length := by simpa using (Array.getElem?_eq_some_iff.1 ho).1
  have hri := (List.getElem?_eq_some_iff.1 hr).1
  rcases walk_drop hW rfl i (by omega) with h | h
  · rw [List.drop_eq_getElem_cons hi, List.drop_eq_getElem_cons hri] at h
    have h1 := h.1
    have e1 : l[i] = o := by simpa [hi] using ho
    have e2 : R[i] = r := by simpa [hri] using hr
    rw [e1, e2] at h1
    exact h1
  · omega

theorem putAll_mix {l : List Oper} {σ : Nat → Value} : ∀ m k, k + m = l.length → putAll (l.drop k) k (mixFr l.toArray a0 σ (fun _ => true) k) σ = mixFr l.toArray a0 σ (fun _ => true) l.length
  | 0, k, h => by
    have : k = l.length := by omega
    subst this
    simp [putAll]
  | m + 1, k, h => by
    rw [List.drop_eq_getElem_cons (show k < l.length by omega)]
    unfold putAll
    rw [← putAll_mix m (k + 1) (by omega)]
    congr 1
    conv => rhs; unfold mixFr
    rw [if_pos rfl]
    congr 1
    unfold dstOf
    simp [show k < l.length by omega]

theorem getD_t {listed : Array Bool} {i k : Nat} : (listed.setIfInBounds i true).getD k false = if k = i ∧ i < listed.size then true else listed.getD k false := by
  by_cases h : k = i
  · subst h
    by_cases hs : k < listed.size
    · simp [hs]
    · simp [hs]
  · rw [if_neg (fun x => h x.1)]
    exact getD_set_ne false (fun e => h e.symm)

/-- Whatever operation comes up: it runs as in the frame of the text. -/
theorem inv_run (hc : Chk ops R ini) {listed : Array Bool} {σ : Nat → Value} {a : Act} {w : World} (hI : Inv ops Bs wS R ini a0 listed σ a w) {i : Nat} {o : Oper} (ho : ops[i]? = some o) (hall : ∀ e ∈ o.after, Region.binds .any e = true → listed.getD e.on false = true) :
    execOp a.eval o = execOp (mixFr ops a0 σ (fun _ => true) i).eval o ∧ Region.wanted o (yielded ops a.tmps) = Region.wanted o (yielded ops (mixFr ops a0 σ (fun _ => true) i).tmps) := by
  have hi := (Array.getElem?_eq_some_iff.1 ho).1
  have key : ∀ d, d ∈ o.looksAt ops → a.tmps[d]? = (mixFr ops a0 σ (fun _ => true) i).tmps[d]? := by
    intro d hd
    have hw : ∀ j, dstOf ops j = some d → listed.getD j false = true ∧ j < i := fun j hj => by
      have := hc.looks i o j d ho hj hd
      refine ⟨waits_listed this hall, ?_⟩
      unfold waits at this
      rw [Array.any_eq_true'] at this
      obtain ⟨e, he, hx⟩ := this
      simp only [Bool.and_eq_true, beq_iff_eq] at hx
      have := hc.low i o ho e he hx.1
      omega
    rw [hI.fr, mixFr_look, mixFr_look, ← look_cut (fun k hk => (hw k hk).2) ops.size (by omega)]
    exact look_same _ (fun k _ hk => (hw k hk).1)
  constructor
  · refine execOp_congr o (fun cs b => Region.noSelect_spec hc.nosel i o cs b ho) (fun x hx => ?_)
    cases x with
    | tmp t =>
      have := key t (List.mem_append_left _ (List.mem_filterMap.2 ⟨.tmp t, by simpa using hx, rfl⟩))
      simp only [Act.eval, Array.getD_eq_getD_getElem?, this]
    | _ => rfl
  · unfold Region.wanted
    cases hg : o.guard with
    | none => rfl
    | some gw =>
      obtain ⟨g, want⟩ := gw
      have hy : yielded ops a.tmps g = yielded ops (mixFr ops a0 σ (fun _ => true) i).tmps g := by
        unfold yielded
        cases ht : (ops[g]?).bind (·.dst) with
        | none => rfl
        | some t =>
          have := key t (by simp [Oper.looksAt, hg, ht])
          simp [this]
      simp only [hy]

/-- The operation has run: the invariant holds with it listed. -/
theorem inv_step (hc : Chk ops R ini) (hok : ∀ (k : Nat) (r : Rsc), R[k]? = some r → r.Ok Bs) (hBs : ∀ b, Bs b → b < wS.heap.size) {listed : Array Bool} {σ : Nat → Value} {a : Act} {w : World} (hI : Inv ops Bs wS R ini a0 listed σ a w)
    {i : Nat} {o : Oper} {r : Rsc} (ho : ops[i]? = some o) (hr : R[i]? = some r) (hun : listed.getD i true = false) (hall : ∀ e ∈ o.after, Region.binds .any e = true → listed.getD e.on false = true) {v : Value} {w' : World} (hL : Left R r i σ w v w') :
    Inv ops Bs wS R ini a0 (listed.setIfInBounds i true) (upd σ i v) (a.put o.dst v) w' := by
  have hi := (Array.getElem?_eq_some_iff.1 ho).1
  have hil : i < listed.size := by rw [hI.sz]; exact hi
  have hif : listed.getD i false = false := by
    rw [Array.getD_eq_getD_getElem?, Array.getElem?_eq_getElem hil] at hun ⊢
    exact hun
  have hdst : dstOf ops i = o.dst := by unfold dstOf; rw [ho]; rfl
  -- those that are taken are held
  have htk : ∀ j, j ∈ r.tk ++ r.nd → Held ops R ini listed j := fun j hj => by
    obtain ⟨h1, h2⟩ := hc.wants i o r j ho hr hj
    refine ⟨?_, fun t rt ht hlt hl hm => ?_⟩
    · rcases h1 with h1 | h1
      · have hlj := waits_listed h1 hall
        refine .inr ⟨?_, hlj⟩
        rw [← hI.sz]
        rcases Nat.lt_or_ge j listed.size with h | h
        · exact h
        · rw [Array.getD_eq_getD_getElem?, Array.getElem?_eq_none h] at hlj; cases hlj
      · exact .inl h1
    · have hne : t ≠ i := fun e => by subst e; rw [hif] at hl; cases hl
      have hw := h2 t rt ht hlt hne hm
      unfold waitsAt at hw
      split at hw
      · rename_i ot hot
        have := waits_listed hw (hI.closed t ot hl hot)
        rw [hif] at this; cases this
      · cases hw
  -- who is held behind it
  have hold : ∀ k, k ≠ i → Held ops R ini (listed.setIfInBounds i true) k → Held ops R ini listed k ∧ k ∉ r.tk := fun k hk h => by
    refine ⟨⟨?_, fun t rt ht hlt hl => h.2 t rt ht hlt (getD_set_true hl)⟩, h.2 i r hr hi (by rw [getD_t, if_pos ⟨rfl, hil⟩])⟩
    rcases h.1 with h1 | h1
    · exact .inl h1
    · refine .inr ⟨h1.1, ?_⟩
      have := h1.2
      rw [getD_t, if_neg (fun x => hk x.1)] at this
      exact this
  -- the values that a held fact hangs on are there
  have hdm : ∀ k rk, R[k]? = some rk → k ≠ i → Held ops R ini listed k → ∀ j, j ∈ rk.dm → upd σ i v j = σ j ∧ σ j = upd σ i v j := fun k rk hrk hki hh j hj => by
    have hne : j ≠ i := by
      intro e
      rcases hh.1 with h1 | h1
      · obtain ⟨_, r', hr', hd⟩ := hc.inis k h1
        rw [hrk] at hr'; cases hr'
        rw [hd] at hj; cases hj
      · obtain ⟨ok, rk', hok', hrk'⟩ := hc.has k h1.1
        rw [hrk] at hrk'; cases hrk'
        rcases hc.dm k ok rk j hok' hrk hj with h2 | h2
        · omega
        · have := waits_listed h2 (hI.closed k ok h1.2 hok')
          rw [e, hif] at this; cases this
    exact ⟨upd_ne σ v hne, (upd_ne σ v hne).symm⟩
  have hsz := hL.keep.size
  have hw0 := hI.keep.size
  -- an old fact's blocks are as they were
  have hblk : ∀ k rk, R[k]? = some rk → k ≠ i → Held ops R ini (listed.setIfInBounds i true) k → Keep (fun b => Bs b ∨ rk.own σ b) w w' := fun k rk hrk hki hh => by
    obtain ⟨h1, h2⟩ := hold k hki hh
    refine hL.keep.mono (fun b hb => ?_)
    rcases hb with hb | hb
    · refine ⟨Nat.lt_of_lt_of_le (hBs b hb) hw0, fun j rj hj hrj hob => ?_⟩
      exact ((hI.held j rj hrj (htk j (List.mem_append_left _ hj))).2 b hob).2 hb
    · refine ⟨((hI.held k rk hrk h1).2 b hb).1, fun j rj hj hrj hob => ?_⟩
      exact hI.apart j k rj rk hrj hrk (htk j (List.mem_append_left _ hj)) h1 (fun e => h2 (e ▸ hj)) b hob hb
  have howni : ∀ b, r.own (upd σ i v) b → b < w'.heap.size ∧ ¬ Bs b := fun b hb => by
    rcases hL.own b hb with ⟨j, rj, hj, hrj, hob⟩ | ⟨h1, h2⟩
    · have := (hI.held j rj hrj (htk j (List.mem_append_left _ hj))).2 b hob
      exact ⟨Nat.lt_of_lt_of_le this.1 hsz, this.2⟩
    · exact ⟨h2, fun hb' => by have := hBs b hb'; omega⟩
  have hownk : ∀ k rk, R[k]? = some rk → k ≠ i → Held ops R ini (listed.setIfInBounds i true) k → ∀ b, rk.own (upd σ i v) b → rk.own σ b := fun k rk hrk hki hh b hb =>
    ((hok k rk hrk).ext σ (upd σ i v) (fun j hj => (hdm k rk hrk hki (hold k hki hh).1 j hj).1)).2 b hb
  have hia : ∀ k rk, R[k]? = some rk → k ≠ i → Held ops R ini (listed.setIfInBounds i true) k → ∀ b, r.own (upd σ i v) b → ¬ rk.own (upd σ i v) b := fun k rk hrk hki hh b hb hb' => by
    have hb2 := hownk k rk hrk hki hh b hb'
    obtain ⟨h1, h2⟩ := hold k hki hh
    rcases hL.own b hb with ⟨j, rj, hj, hrj, hob⟩ | ⟨h3, h4⟩
    · exact hI.apart j k rj rk hrj hrk (htk j (List.mem_append_left _ hj)) h1 (fun e => h2 (e ▸ hj)) b hob hb2
    · have := ((hI.held k rk hrk h1).2 b hb2).1
      omega
  refine ⟨by simp [hI.sz], ?_, ?_, ?_, ?_, ?_⟩
  · rw [← hdst, hI.fr]
    refine (mixFr_add (fun k hk d hd => hc.dst i k hi hk d hd) hif (by rw [getD_t, if_pos ⟨rfl, hil⟩]) (fun k hk => by rw [getD_t, if_neg (fun x => hk x.1)]) _ hi).symm
  · exact hI.keep.trans (hL.keep.mono (fun b hb => ⟨Nat.lt_of_lt_of_le (hBs b hb) hw0, fun j rj hj hrj hob => ((hI.held j rj hrj (htk j (List.mem_append_left _ hj))).2 b hob).2 hb⟩))
  · intro t ot hl hot e he hb
    by_cases hti : t = i
    · subst hti
      rw [ho] at hot; cases hot
      exact getD_set_true (hall e he hb)
    · rw [getD_t, if_neg (fun x => hti x.1)] at hl
      exact getD_set_true (hI.closed t ot hl hot e he hb)
  · intro k rk hrk hh
    by_cases hki : k = i
    · subst hki
      rw [hr] at hrk; cases hrk
      exact ⟨hL.fact, howni⟩
    · have h0 := hI.held k rk hrk (hold k hki hh).1
      refine ⟨((hok k rk hrk).ext σ (upd σ i v) (fun j hj => (hdm k rk hrk hki (hold k hki hh).1 j hj).1)).1 _ ((hok k rk hrk).loc σ w w' h0.1 (hblk k rk hrk hki hh)), fun b hb => ?_⟩
      have := h0.2 b (hownk k rk hrk hki hh b hb)
      exact ⟨Nat.lt_of_lt_of_le this.1 hsz, this.2⟩
  · intro j k rj rk hrj hrk hj hk hne b hb hb'
    by_cases hji : j = i
    · subst hji
      rw [hr] at hrj; cases hrj
      exact hia k rk hrk (fun e => hne e.symm) hk b hb hb'
    · by_cases hki : k = i
      · subst hki
        rw [hr] at hrk; cases hrk
        exact hia j rj hrj hji hj b hb' hb
      · exact hI.apart j k rj rk hrj hrk (hold j hji hj).1 (hold k hki hk).1 hne b (hownk j rj hrj hji hj b hb) (hownk k rk hrk hki hk b hb')

theorem rel_wp {o : Oper} {a : Act} {w : World} {K : Act → World → Prop} {post : Value → World → Prop} (h : relUpon P post ((execOp a.eval o).run P w)) (hk : ∀ v w', post v w' → K (a.put o.dst v) w') : o.wp P a w K Q := by
  unfold Oper.wp
  generalize (execOp a.eval o).run P w = res at *
  cases res with
  | ok n w' =>
    cases n <;> simp only [relUpon] at h <;> simp only [Oper.upon]
    case value u => exact hk _ _ h
    case skip => exact hk _ _ h
    case enter f args => exact h.mono fun e w'' ⟨v, he, hp⟩ => by subst he; exact hk _ _ hp
    case row row args => exact h.mono fun v w'' hp => hk _ _ hp
  | halt x w' => simp only [relUpon] at h

theorem count_set {listed : Array Bool} {i : Nat} (hi : i < listed.size) (h : listed[i] = false) : (listed.setIfInBounds i true).toList.count false + 1 = listed.toList.count false := by
  have hl : i < listed.toList.length := by simpa using hi
  have hx : listed.toList[i] = false := by simpa using h
  have h1 : (listed.setIfInBounds i true).toList = listed.toList.set i true := by simp
  have h2 : 0 < listed.toList.count false := List.count_pos_iff.2 (by rw [← hx]; exact List.getElem_mem hl)
  rw [h1, List.count_set hl, hx]
  rw [if_pos (show ((false : Bool) == false) = true from rfl), if_neg (show ¬ ((true : Bool) == false) = true from Bool.false_ne_true)]
  omega

theorem any_of_inv (hc : Chk ops R ini) (hok : ∀ (k : Nat) (r : Rsc), R[k]? = some r → r.Ok Bs) (hBs : ∀ b, Bs b → b < wS.heap.size)
    (hS : ∀ (i : Nat) (o : Oper) (r : Rsc), ops[i]? = some o → R[i]? = some r → StepAt P ops Bs wS R i o r (fun σ => mixFr ops a0 σ (fun _ => true) i))
    (hE : ∀ (listed : Array Bool) (σ : Nat → Value) (a : Act) (w : World), Inv ops Bs wS R ini a0 listed σ a w → (∀ k, k < ops.size → listed.getD k false = true) → Q .normal a w) :
    ∀ (fuel : Nat) (listed : Array Bool) (σ : Nat → Value) (a : Act) (w : World), Inv ops Bs wS R ini a0 listed σ a w → listed.toList.count false ≤ fuel → wpAny P .any ops Q fuel listed a w := by
  have hend : ∀ (listed : Array Bool) (σ : Nat → Value) (a : Act) (w : World), Inv ops Bs wS R ini a0 listed σ a w → Region.ready .any ops listed = [] → Q .normal a w := by
    intro listed σ a w hI hr
    refine hE listed σ a w hI ?_
    intro k
    induction k using Nat.strongRecOn with
    | ind k ih =>
      intro hk
      obtain ⟨o, r, ho, _⟩ := hc.has k hk
      have hkl : k < listed.size := by rw [hI.sz]; exact hk
      cases hx : listed.getD k false with
      | true => rfl
      | false =>
        have : k ∈ Region.ready .any ops listed := mem_ready.2 ⟨by
          rw [Array.getD_eq_getD_getElem?, Array.getElem?_eq_getElem hkl] at hx ⊢
          exact hx, o, ho, fun e he hb => ih e.on (hc.low k o ho e he hb) (by have := hc.low k o ho e he hb; omega)⟩
        rw [hr] at this; cases this
  intro fuel
  induction fuel with
  | zero =>
    intro listed σ a w hI hn
    have hr : Region.ready .any ops listed = [] := by
      cases hx : Region.ready .any ops listed with
      | nil => rfl
      | cons i l =>
        have hm := (mem_ready.1 (show i ∈ Region.ready .any ops listed by rw [hx]; simp)).1
        rcases Nat.lt_or_ge i listed.size with h | h
        · have hf : listed[i] = false := by
            rw [Array.getD_eq_getD_getElem?, Array.getElem?_eq_getElem h] at hm
            exact hm
          have := count_set h hf
          omega
        · rw [Array.getD_eq_getD_getElem?, Array.getElem?_eq_none h] at hm; cases hm
    exact ⟨hr, hend listed σ a w hI hr⟩
  | succ fuel ih =>
    intro listed σ a w hI hn
    refine ⟨hend listed σ a w hI, fun i hi => ?_⟩
    obtain ⟨hun, o, ho, hall⟩ := mem_ready.1 hi
    have hlt := (Array.getElem?_eq_some_iff.1 ho).1
    obtain ⟨_, r, _, hr⟩ := hc.has i hlt
    have hil : i < listed.size := by rw [hI.sz]; exact hlt
    have hf : listed[i] = false := by
      rw [Array.getD_eq_getD_getElem?, Array.getElem?_eq_getElem hil] at hun
      exact hun
    have hcnt := count_set hil hf
    obtain ⟨e1, e2⟩ := inv_run hc hI ho hall
    have hif : listed.getD i false = false := by
      rw [Array.getD_eq_getD_getElem?, Array.getElem?_eq_getElem hil] at hun ⊢
      exact hun
    have hfacts : factsOf Bs R σ w (r.tk ++ r.nd) := factsOf_of _ (fun j hj => by
      obtain ⟨h1, h2⟩ := hc.wants i o r j ho hr hj
      have hheld : Held ops R ini listed j := by
        refine ⟨?_, fun t rt ht hlt hl hm => ?_⟩
        · rcases h1 with h1 | h1
          · have hlj := waits_listed h1 hall
            refine .inr ⟨?_, hlj⟩
            rw [← hI.sz]
            rcases Nat.lt_or_ge j listed.size with h | h
            · exact h
            · rw [Array.getD_eq_getD_getElem?, Array.getElem?_eq_none h] at hlj; cases hlj
          · exact .inl h1
        · have hne : t ≠ i := fun e => by subst e; rw [hif] at hl; cases hl
          have hw := h2 t rt ht hlt hne hm
          unfold waitsAt at hw
          split at hw
          · rename_i ot hot
            have := waits_listed hw (hI.closed t ot hl hot)
            rw [hif] at this; cases this
          · cases hw
      have hR : ∃ rj, R[j]? = some rj := by
        rcases hheld.1 with h | h
        · obtain ⟨_, rj, h, _⟩ := hc.inis j h
          exact ⟨rj, h⟩
        · obtain ⟨_, rj, _, h⟩ := hc.has j h.1
          exact ⟨rj, h⟩
      obtain ⟨rj, hrj⟩ := hR
      exact ⟨rj, hrj, hI.held j rj hrj hheld⟩)
    have hst := hS i o r ho hr σ w hI.keep hfacts
    unfold wpOp
    simp only [ho]
    rw [e2]
    dsimp only at hst
    split
    · rename_i hw
      rw [if_pos hw, ← e1] at hst
      exact .inl (rel_wp hst (fun v w' hL => ih _ _ _ _ (inv_step hc hok hBs hI ho hr hun hall hL) (by omega)))
    · rename_i hw
      rw [if_neg hw] at hst
      exact ih _ _ _ _ (inv_step hc hok hBs hI ho hr hun hall hst) (by omega)

def finB (ops : Array Oper) (R : List Rsc) (ini fin : List Nat) : Bool :=
  fin.all fun k => (decide (k < ops.size) || ini.contains k) && (List.range ops.size).all fun t => !(((R[t]?).map (·.tk)).getD []).contains k

/-- ONE WALK IN THE ORDER OF THE TEXT SERVES EVERY ORDER. -/
theorem wp_region_rel {id : Nat} {l : List Oper} {a : Act} {w : World} (R : List Rsc) (ini fin : List Nat) (Bs : Nat → Prop)
    (hm : P.follows .mixedOrders = true) (hchk : check l.toArray R ini = true) (hfin : finB l.toArray R ini fin = true)
    (hok : ∀ r, r ∈ R → r.Ok Bs) (hBs : ∀ b, Bs b → b < w.heap.size)
    (hini : ∀ (k : Nat) (r : Rsc), k ∈ ini → R[k]? = some r → r.fact (fun _ => undef) { w with drawn := w.drawn + 1 } ∧ ∀ b, r.own (fun _ => undef) b → b < w.heap.size ∧ ¬ Bs b)
    (hap : ∀ (j k : Nat) (rj rk : Rsc), j ∈ ini → k ∈ ini → j ≠ k → R[j]? = some rj → R[k]? = some rk → ∀ b, rj.own (fun _ => undef) b → ¬ rk.own (fun _ => undef) b)
    (hW : Walk P l.toArray Bs { w with drawn := w.drawn + 1 } R l R 0 (fun _ => a))
    (hE : ∀ (σ : Nat → Value) (w' : World), Keep Bs { w with drawn := w.drawn + 1 } w' → factsOf Bs R σ w' fin →
      (∀ (j k : Nat) (rj rk : Rsc), j ∈ fin → k ∈ fin → j ≠ k → R[j]? = some rj → R[k]? = some rk → ∀ b, rj.own σ b → ¬ rk.own σ b) → Q .normal (putAll l 0 a σ) w') :
    (Code.region id l.toArray true).wp P Q a w := by
  have hc := chk_of hchk
  have hok' : ∀ (k : Nat) (r : Rsc), R[k]? = some r → r.Ok Bs := fun k r h => hok r (List.mem_of_getElem? h)
  have hno : ∀ k, (Array.replicate l.toArray.size false).getD k false = false := fun k => by
    rw [Array.getD_eq_getD_getElem?, Array.getElem?_replicate]
    split <;> rfl
  have hHeld : ∀ k, Held l.toArray R ini (Array.replicate l.toArray.size false) k → k ∈ ini := fun k h => by
    rcases h.1 with h | h
    · exact h
    · rw [hno] at h; cases h.2
  refine wp_region_any hm (any_of_inv (R := R) (ini := ini) (Bs := Bs) (wS := { w with drawn := w.drawn + 1 }) (a0 := a) hc hok' hBs (fun i o r ho hr => walk_at hW ho hr) ?_ _ _ (fun _ => undef) _ _ ?_ ?_)
  · intro listed σ a' w' hI hall
    have hheld : ∀ k, k ∈ fin → Held l.toArray R ini listed k ∧ ∃ r, R[k]? = some r := fun k hk => by
      unfold finB at hfin
      have := List.all_eq_true.1 hfin k hk
      simp only [Bool.and_eq_true, Bool.or_eq_true, decide_eq_true_eq, List.all_eq_true, List.mem_range, Bool.not_eq_true'] at this
      refine ⟨⟨?_, fun t r ht hlt _ hmem => ?_⟩, ?_⟩
      · rcases this.1 with h | h
        · exact .inr ⟨h, hall k h⟩
        · exact .inl (List.contains_iff_mem.1 h)
      · have h2 := this.2 t hlt
        rw [ht] at h2
        simp only [Option.map_some, Option.getD_some] at h2
        rw [List.contains_iff_mem.2 hmem] at h2; cases h2
      · rcases this.1 with h | h
        · obtain ⟨_, r, _, h⟩ := hc.has k h
          exact ⟨r, h⟩
        · obtain ⟨_, r, h, _⟩ := hc.inis k (List.contains_iff_mem.1 h)
          exact ⟨r, h⟩
    have hfr : a' = putAll l 0 a σ := by
      rw [hI.fr]
      have := putAll_mix (l := l) (a0 := a) (σ := σ) l.length 0 (by omega)
      rw [List.drop_zero] at this
      refine Eq.trans ?_ this.symm
      rw [show l.toArray.size = l.length from by simp]
      exact mixFr_low _ (fun k hk => ⟨hall k (by simpa using hk), rfl⟩)
    rw [hfr]
    refine hE σ w' hI.keep (factsOf_of _ (fun j hj => ?_)) (fun j k rj rk hj hk hne hrj hrk b => ?_)
    · obtain ⟨hh, r, hr⟩ := hheld j hj
      exact ⟨r, hr, hI.held j r hr hh⟩
    · exact hI.apart j k rj rk hrj hrk (hheld j hj).1 (hheld k hk).1 hne b
  · refine ⟨by simp, ?_, Keep.refl _ _, ?_, ?_, ?_⟩
    · have : ∀ n, mixFr l.toArray a (fun _ => undef) (fun k => (Array.replicate l.toArray.size false).getD k false) n = a := by
        intro n
        induction n with
        | zero => rfl
        | succ n ih => unfold mixFr; rw [hno, if_neg Bool.false_ne_true]; exact ih
      exact (this _).symm
    · intro t o ht
      rw [hno] at ht; cases ht
    · intro k r hr hh
      exact hini k r (hHeld k hh) hr
    · intro j k rj rk hrj hrk hj hk hne b hb
      exact hap j k rj rk (hHeld j hj) (hHeld k hk) hne hrj hrk b hb
  · refine Nat.le_trans (List.count_le_length) ?_
    simp
end

end Rel
end Go.Proofs.YtlebblmlbhnppabGreat

namespace Go.Proofs.YtlebblmlbhnppabGreat
open Go.RowKit
set_option linter.unusedVariables false
namespace Rel
theorem cell_of {w w' : World} {a : Addr} (h : w'.heap[a.block]? = w.heap[a.block]?) : w'.cell? a = w.cell? a := by
  unfold World.cell?; rw [h]
theorem froz_of {w w' : World} {a : Addr} (h : w'.heap[a.block]? = w.heap[a.block]?) : w'.frozen? a = w.frozen? a := by
  unfold World.frozen?; rw [h]
theorem bx_loc {w w' : World} {q : Nat} {cs : List Value} (h : Bx w q cs) (hq : w'.heap[q]? = w.heap[q]?) : Bx w' q cs :=
  Bx.of (fun j v hv => (cell_of (a := ⟨q, j, none⟩) hq).trans (h.cell j hv)) (fun j hj => (froz_of (a := ⟨q, j, none⟩) hq).trans (h.thaw j hj))
theorem own_loc {e : TypeId} {w w' : World} {B K n : Nat} {v : Value} {F : List Value} (h : w.ownsRow B e K v n F) (hq : ∀ k, v.ownBlock = some k → w'.heap[k]? = w.heap[k]?) : w'.ownsRow B e K v n F := by
  refine ⟨h.1, ?_⟩
  rcases h.2 with h' | ⟨g, cap, cur, h1, hB, hg, h4⟩
  · exact .inl h'
  · exact .inr ⟨g, cap, cur, h1, hB, by rw [hq g (by rw [h1]; rfl)]; exact hg, h4⟩

/-- A value that is known. -/
def valR (i : Nat) (nd : List Nat) (v : Value) : Rsc := ⟨fun σ _ => σ i = v, fun _ _ => False, [i], [], nd⟩
theorem valR_ok {Bs : Nat → Prop} (i : Nat) (nd : List Nat) (v : Value) : (valR i nd v).Ok Bs :=
  ⟨fun σ w w' h _ => h, fun σ σ' h => ⟨fun w hf => (h i (by simp [valR])).trans hf, fun b hb => hb⟩⟩
/-- A value that is another one's. -/
def eqR (i j : Nat) (nd : List Nat) : Rsc := ⟨fun σ _ => σ i = σ j, fun _ _ => False, [i, j], [], nd⟩
theorem eqR_ok {Bs : Nat → Prop} (i j : Nat) (nd : List Nat) : (eqR i j nd).Ok Bs :=
  ⟨fun σ w w' h _ => h, fun σ σ' h => ⟨fun w hf => ((h i (by simp [eqR])).trans hf).trans (h j (by simp [eqR])).symm, fun b hb => hb⟩⟩
/-- Two values that stand to each other so. -/
def twoR (i j : Nat) (nd : List Nat) (p : Value → Value → Prop) : Rsc := ⟨fun σ _ => p (σ i) (σ j), fun _ _ => False, [i, j], [], nd⟩
theorem twoR_ok {Bs : Nat → Prop} (i j : Nat) (nd : List Nat) (p : Value → Value → Prop) : (twoR i j nd p).Ok Bs :=
  ⟨fun σ w w' h _ => h, fun σ σ' h => ⟨fun w hf => by
    have h1 := h i (by simp [twoR]); have h2 := h j (by simp [twoR])
    show p (σ' i) (σ' j)
    rw [h1, h2]; exact hf, fun b hb => hb⟩⟩
/-- A new value, with blocks of its own. -/
def retR (i : Nat) (nd : List Nat) (F : Value → World → Prop) (ow : Value → Nat → Prop) : Rsc := ⟨fun σ w => F (σ i) w, fun σ b => ow (σ i) b, [i], [], nd⟩
theorem retR_ok {Bs : Nat → Prop} (i : Nat) (nd : List Nat) (F : Value → World → Prop) (ow : Value → Nat → Prop) (h : ∀ v w w', F v w → Keep (fun b => Bs b ∨ ow v b) w w' → F v w') : (retR i nd F ow).Ok Bs :=
  ⟨fun σ w w' hf hk => h (σ i) w w' hf hk, fun σ σ' hh => by
    have h1 := hh i (by simp [retR])
    exact ⟨fun w hf => by show F (σ' i) w; rw [h1]; exact hf, fun b hb => by show ow (σ i) b; rw [← h1]; exact hb⟩⟩
/-- A box. -/
def boxF (cs : List Value) (v : Value) (w : World) : Prop := ∃ q, v = .pointer (some ⟨q, 0, none⟩) ∧ Bx w q cs
def boxO (v : Value) (b : Nat) : Prop := v = .pointer (some ⟨b, 0, none⟩)
theorem box_loc {Bs : Nat → Prop} {cs : List Value} (v : Value) (w w' : World) (h : boxF cs v w) (hk : Keep (fun b => Bs b ∨ boxO v b) w w') : boxF cs v w' := by
  obtain ⟨q, hv, hb⟩ := h
  exact ⟨q, hv, bx_loc hb (hk.block q (.inr hv))⟩
def boxR (i : Nat) (nd : List Nat) (cs : List Value) : Rsc := retR i nd (boxF cs) boxO
theorem boxR_ok {Bs : Nat → Prop} (i : Nat) (nd : List Nat) (cs : List Value) : (boxR i nd cs).Ok Bs := retR_ok i nd _ _ box_loc
/-- The box j, filled by operation i. -/
def putR (j : Nat) (nd : List Nat) (cs : List Value) : Rsc := ⟨fun σ w => boxF cs (σ j) w, fun σ b => boxO (σ j) b, [j], [j], nd⟩
theorem putR_ok {Bs : Nat → Prop} (j : Nat) (nd : List Nat) (cs : List Value) : (putR j nd cs).Ok Bs :=
  ⟨fun σ w w' hf hk => box_loc (σ j) w w' hf hk, fun σ σ' hh => by
    have h1 := hh j (by simp [putR])
    exact ⟨fun w hf => by show boxF cs (σ' j) w; rw [h1]; exact hf, fun b hb => by show boxO (σ j) b; rw [← h1]; exact hb⟩⟩

theorem left_below {R : List Rsc} {r : Rsc} {i : Nat} {σ : Nat → Value} {w : World} {v : Value} {w' : World} (hf : r.fact (upd σ i v) w') (ho : ∀ b, r.own (upd σ i v) b → w.heap.size ≤ b ∧ b < w'.heap.size) (hb : Below w.heap.size w w') : Left R r i σ w v w' :=
  ⟨hf, fun b h => .inr (ho b h), ⟨hb.os, hb.tape, hb.output, hb.size, fun k hk => hb.block k hk.1⟩⟩
theorem left_val {R : List Rsc} {i : Nat} {nd : List Nat} {σ : Nat → Value} {w : World} {v : Value} : Left R (valR i nd v) i σ w v w :=
  left_below (upd_self σ i v) (fun b h => h.elim) (Below.refl _ _)
theorem left_valB {R : List Rsc} {i : Nat} {nd : List Nat} {σ : Nat → Value} {w w' : World} {v : Value} (hb : Below w.heap.size w w') : Left R (valR i nd v) i σ w v w' :=
  left_below (upd_self σ i v) (fun b h => h.elim) hb
theorem left_ret {R : List Rsc} {i : Nat} {nd : List Nat} {σ : Nat → Value} {w w' : World} {v : Value} {F : Value → World → Prop} {ow : Value → Nat → Prop} (hf : F v w') (ho : ∀ b, ow v b → w.heap.size ≤ b ∧ b < w'.heap.size) (hb : Below w.heap.size w w') : Left R (retR i nd F ow) i σ w v w' :=
  left_below (by show F (upd σ i v i) w'; rw [upd_self]; exact hf) (fun b h => ho b (by have h2 : ow (upd σ i v i) b := h; rwa [upd_self] at h2)) hb
theorem left_box {R : List Rsc} {i : Nat} {nd : List Nat} {σ : Nat → Value} {w : World} (cs : Array Value) (t : TypeId) : Left R (boxR i nd cs.toList) i σ w (.pointer (some ⟨w.heap.size, 0, none⟩)) (w.alloc (.cells cs t)) :=
  left_ret ⟨_, rfl, Bx.new w cs t⟩ (fun b h => by
    have : w.heap.size = b := by cases h; rfl
    subst this
    simp) ((Below.refl _ _).alloc (Nat.le_refl _) _)
theorem heap_cells {q : Nat} : ∀ (vs : List Value) (o : Nat) (w : World), (w.setCells q o vs).heap.size = w.heap.size ∧ (w.setCells q o vs).os = w.os ∧ (w.setCells q o vs).tape = w.tape ∧ (w.setCells q o vs).output = w.output ∧ ∀ k, k ≠ q → (w.setCells q o vs).heap[k]? = w.heap[k]?
  | [], _, _ => ⟨rfl, rfl, rfl, rfl, fun _ _ => rfl⟩
  | v :: r, o, w => by
    rw [World.setCells]
    obtain ⟨h1, h2, h3, h4, h5⟩ := heap_cells r (o + 1) (w.setCell ⟨q, o, none⟩ v)
    exact ⟨h1.trans (by simp [World.setCell]), h2, h3, h4, fun k hk => (h5 k hk).trans (Below.heap_setCell _ _ _ _ hk)⟩
theorem left_put {R : List Rsc} {i j q : Nat} {nd nd' : List Nat} {σ : Nat → Value} {w : World} {u : Value} {cs vs : List Value} (hR : R[j]? = some (boxR j nd' cs)) (hij : j ≠ i) (hq : σ j = .pointer (some ⟨q, 0, none⟩)) (hb : Bx w q cs) (hl : vs.length = cs.length) : Left R (putR j nd vs) i σ w u (w.setCells q 0 vs) := by
  have hu : upd σ i u j = .pointer (some ⟨q, 0, none⟩) := by rw [upd_ne σ u hij]; exact hq
  obtain ⟨h1, h2, h3, h4, h5⟩ := heap_cells (q := q) vs 0 w
  refine ⟨⟨q, hu, hb.put vs hl⟩, fun b h => .inl ⟨j, _, by simp [putR], hR, ?_⟩, ⟨h2, h3, h4, by omega, fun k hk => h5 k ?_⟩⟩
  · show boxO (σ j) b
    have h6 : boxO (upd σ i u j) b := h
    rwa [upd_ne σ u hij] at h6
  · intro e
    subst e
    exact hk.2 j _ (by simp [putR]) hR hq
theorem tup3 {a b c a' b' c' : Value} (h : Value.tuple #[a, b, c] = Value.tuple #[a', b', c']) : b = b' := by
  injection h with h
  injection h with h
  injection h with _ h
  injection h
theorem keep_below {w w' : World} (h : Keep (fun b => b < w.heap.size) { w with drawn := w.drawn + 1 } w') : Below w.heap.size w w' := ⟨h.os, h.tape, h.output, h.size, h.block⟩
theorem fact_of {Bs : Nat → Prop} {R : List Rsc} {σ : Nat → Value} {w : World} : ∀ {l : List Nat} {j : Nat} {r : Rsc}, factsOf Bs R σ w l → l.contains j = true → R[j]? = some r → r.fact σ w
  | x :: l, j, r, h, hm, hr => by
    rcases List.mem_cons.1 (List.contains_iff_mem.1 hm) with e | e
    · subst e
      obtain ⟨r', hr', hf, _⟩ := h.1
      rw [hr] at hr'; cases hr'
      exact hf
    · exact fact_of h.2 (List.contains_iff_mem.2 e) hr
theorem owns_of {Bs : Nat → Prop} {R : List Rsc} {σ : Nat → Value} {w : World} : ∀ {l : List Nat} {j : Nat} {r : Rsc}, factsOf Bs R σ w l → l.contains j = true → R[j]? = some r → ∀ b, r.own σ b → b < w.heap.size ∧ ¬ Bs b
  | x :: l, j, r, h, hm, hr => by
    rcases List.mem_cons.1 (List.contains_iff_mem.1 hm) with e | e
    · subst e
      obtain ⟨r', hr', _, hf⟩ := h.1
      rw [hr] at hr'; cases hr'
      exact hf
    · exact owns_of h.2 (List.contains_iff_mem.2 e) hr
theorem rel_of {P : Program} {R : List Rsc} {r : Rsc} {i : Nat} {σ : Nat → Value} {w : World} {res : Result Next} (h : ∀ post : Value → World → Prop, (∀ v w', Left R r i σ w v w' → post v w') → relUpon P post res) : relUpon P (Left R r i σ w) res := h _ (fun _ _ h => h)
theorem walk_cons {P : Program} {ops : Array Oper} {Bs : Nat → Prop} {wS : World} {R : List Rsc} {o : Oper} {l : List Oper} {r : Rsc} {rs : List Rsc} {i : Nat} {Fr : (Nat → Value) → Act}
    (h : StepAt P ops Bs wS R i o r Fr) (hr : Walk P ops Bs wS R l rs (i + 1) (fun σ => (Fr σ).put o.dst (σ i))) : Walk P ops Bs wS R (o :: l) (r :: rs) i Fr := ⟨h, hr⟩
theorem walk_nil {P : Program} {ops : Array Oper} {Bs : Nat → Prop} {wS : World} {R : List Rsc} {rs : List Rsc} {i : Nat} {Fr : (Nat → Value) → Act} : Walk P ops Bs wS R [] rs i Fr := trivial
/-- What an operation has yielded, shut (so that no tactic looks into the run). -/
structure Yld (P : Program) (post : Value → World → Prop) (res : Result Next) : Prop where
  out : relUpon P post res
theorem yld_val {P : Program} {post : Value → World → Prop} {u : Value} {w : World} (h : post u w) : Yld P post (.ok (.value u) w) := ⟨h⟩
theorem yld_skip {P : Program} {post : Value → World → Prop} {w : World} (h : post undef w) : Yld P post (.ok .skip w) := ⟨h⟩
theorem yld_call {P : Program} {post : Value → World → Prop} {w : World} {f : FuncId} {args : Array Value} (h : Calls P f args w fun e w'' => ∃ v, e = .returned v ∧ post v w'') : Yld P post (.ok (.enter f args) w) := ⟨h⟩
theorem yld_get {P : Program} {post : Value → World → Prop} {o : Oper} {a : Act} {w : World} (t : TypeId) (x : Operand) (ho : o.op = .load t x) {q : Nat} (hx : a.eval x = .pointer (some ⟨q, 0, none⟩)) {cs : List Value} (hb : Bx w q cs) (d : TypeDesc) (hu : P.underlying t = some d) (hd : d.isRow = true)
    (hi : (P.info? t).map (·.size) = some cs.length) (h : post (.agg cs.toArray) w) : Yld P post ((execOp a.eval o).run P w) := by
  refine ⟨?_⟩
  unfold execOp
  simp only [ho, hx, Instr.loadAt, Instr.sureAddr, Sem.run_bind, Sem.run_pure, Result.andThen_ok, run_loadVar_mid w q 0 t cs d hb.cl hu hd hi]
  exact h
theorem yld_put {P : Program} {post : Value → World → Prop} {o : Oper} {a : Act} {w : World} (t : TypeId) (x y : Operand) (ho : o.op = .store t x y) {q : Nat} {cells : Array Value} (hx : a.eval x = .pointer (some ⟨q, 0, none⟩)) (hy : a.eval y = .agg cells) {cs : List Value} (hb : Bx w q cs)
    (hl : cells.size = cs.length) (hi : (P.info? t).map (·.size) = some cells.size) (h1 : cells.toList.all (·.oneCell') = true) (h : post undef (w.setCells q 0 cells.toList)) : Yld P post ((execOp a.eval o).run P w) := by
  refine ⟨?_⟩
  have hr := run_storeAt_mid w q 0 t cells (by rw [hl]; exact hb.th) hi (by rw [← Array.all_toList]; exact h1)
  unfold execOp
  simp only [ho, hx, hy, Sem.run_bind, Sem.run_pure, Result.andThen_ok, hr]
  exact h
theorem put_inj {a : Act} {d : Tmp} {u v : Value} (hd : d < a.tmps.size) (h : a.put (some d) u = a.put (some d) v) : u = v := by
  have h1 : (a.put (some d) u).tmps[d]? = (a.put (some d) v).tmps[d]? := by rw [h]
  unfold Act.put at h1
  simp only [] at h1
  rw [Array.getElem?_setIfInBounds_self_of_lt hd, Array.getElem?_setIfInBounds_self_of_lt hd] at h1
  exact Option.some.inj h1
/-- A law of the ordinary walk serves here too. -/
theorem yld_of_wp {P : Program} {post : Value → World → Prop} {o : Oper} {a : Act} {w : World} {d : Tmp} (ho : o.dst = some d) (hd : d < a.tmps.size)
    (h : o.wp P a w (fun a' w' => ∃ v, a' = a.put (some d) v ∧ post v w') (fun _ _ _ => False)) : Yld P post ((execOp a.eval o).run P w) := by
  refine ⟨?_⟩
  unfold Oper.wp at h
  generalize (execOp a.eval o).run P w = res at *
  cases res with
  | ok n w' =>
    cases n <;> simp only [Oper.upon, ho] at h <;> simp only [relUpon]
    case value u =>
      obtain ⟨v, h1, h2⟩ := h
      rw [put_inj hd h1]; exact h2
    case skip =>
      obtain ⟨v, h1, h2⟩ := h
      rw [put_inj hd h1]; exact h2
    case defer dd =>
      obtain ⟨v, h1, h2⟩ := h
      have := congrArg Act.defers h1
      simp [Act.put] at this
    case enter f args =>
      refine h.mono fun e w'' hx => ?_
      cases e with
      | returned u =>
        obtain ⟨v, h1, h2⟩ := hx
        exact ⟨u, rfl, by rw [put_inj hd h1]; exact h2⟩
      | panicked c => exact hx.elim
      | outgrown => exact hx.elim (fun _ hx => hx.elim (fun _ hx => hx.elim))
    case row r args =>
      refine h.mono fun u w'' hx => ?_
      obtain ⟨v, h1, h2⟩ := hx
      rw [put_inj hd h1]; exact h2
    all_goals (first | exact h.elim | exact h | skip)
  | halt x w' => cases x <;> exact (show False from h).elim
theorem step_want {P : Program} {ops : Array Oper} {Bs : Nat → Prop} {wS : World} {R : List Rsc} {o : Oper} {r : Rsc} {i : Nat} {Fr : (Nat → Value) → Act} (hg : o.guard = none)
    (h : ∀ σ w, Keep Bs wS w → factsOf Bs R σ w (r.tk ++ r.nd) → ∀ post : Value → World → Prop, (∀ v w', Left R r i σ w v w' → post v w') → Yld P post ((execOp (Fr σ).eval o).run P w)) : StepAt P ops Bs wS R i o r Fr := by
  intro σ w hK hF
  rw [if_pos (by unfold Region.wanted; rw [hg])]
  exact (h σ w hK hF _ (fun _ _ h => h)).out
end Rel
end Go.Proofs.YtlebblmlbhnppabGreat
