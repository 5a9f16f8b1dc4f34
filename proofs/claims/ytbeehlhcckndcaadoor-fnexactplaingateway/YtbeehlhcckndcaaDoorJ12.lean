/- As Rel, with blocks that may hang on the world (rows within rows): regions that draw their order, whatever they do, walked once: each operation has a fact of its own (a resource: a fact of values and of the blocks that it owns), is shown from the facts of those that it waits for, and may take a fact's blocks over. Regions by resources whose blocks may hang on the world: the kinds of resources. Kinds of values of one's own: what lies, in which blocks (which may hang on the world), as resources of RelW. Configs and guests of one's own as kinds; read again, kept where nothing of them is written. Gateways of one's own: read again, kept where nothing of them is written, and the empty one. Gateways copied by the laws. Places and rules copied by the laws into rows of one's own. Roles copied by the laws into rows of one's own. Configurations copied by the laws into rows of one's own, and marked. Guests copied by the laws into rows of one's own. Gateways copied by the laws into rows of one's own. Gateways compared by the laws. A gateway marked. Marked roles held. A marked configuration held. A marked gateway held. What the laws do with gateways, in packed words. Append within a region walked by resources: the row that comes lies where the elder one lay, or in a new block. Nothing of the program is used. -/
import Derived.WalkKit
import Derived.Below
import Derived.Still
import Derived.Test.YtbeehlhcckndcaaDoorJ3
import Derived.Test.YtbeehlhcckndcaaDoorJ8
import Derived.Test.YtbeehlhcckndcaaDoorJ7
import Derived.Test.YtbeehlhcckndcaaDoorJ11
import Derived.Test.YtbeehlhcckndcaaDoorJ10
import Derived.Test.YtbeehlhcckndcaaDoorJ9
import Derived.Test.YtbeehlhcckndcaaDoorJ6
namespace Go.Proofs.YtbeehlhcckndcaaDoor
open Go.RowKit
set_option linter.unusedVariables false

namespace Rlw
open Rel (Keep)
def upd (σ : Nat → Value) (i : Nat) (v : Value) : Nat → Value := fun j => if j = i then v else σ j
theorem upd_self (σ : Nat → Value) (i : Nat) (v : Value) : upd σ i v i = v := if_pos rfl
theorem upd_ne (σ : Nat → Value) {i j : Nat} (v : Value) (h : j ≠ i) : upd σ i v j = σ j := if_neg h

/-- What an operation leaves: a fact of the values so far and of the world, and the blocks that it owns. -/
structure Rsc where
  fact : (Nat → Value) → World → Prop
  own : (Nat → Value) → World → Nat → Prop
  dm : List Nat
  tk : List Nat
  nd : List Nat

/-- The fact hangs on its own blocks and those of Bs alone, and on the values of dm alone. -/
structure Rsc.Ok (Bs : Nat → Prop) (r : Rsc) : Prop where
  loc : ∀ σ w w', r.fact σ w → Keep (fun b => Bs b ∨ r.own σ w b) w w' → r.fact σ w' ∧ ∀ b, r.own σ w' b → r.own σ w b
  ext : ∀ σ σ' : Nat → Value, (∀ j, j ∈ r.dm → σ' j = σ j) → ∀ w, (r.fact σ w → r.fact σ' w) ∧ (∀ b, r.own σ' w b → r.own σ w b)

def dstOf (ops : Array Oper) (k : Nat) : Option Tmp := (ops[k]?).bind (·.dst)

/-- The frame with the values of those that are listed. -/
def mixFr (ops : Array Oper) (a0 : Act) (σ : Nat → Value) (L : Nat → Bool) : Nat → Act
  | 0 => a0
  | k + 1 => if L k then (mixFr ops a0 σ L k).put (dstOf ops k) (σ k) else mixFr ops a0 σ L k

def look (ops : Array Oper) (a0 : Act) (σ : Nat → Value) (L : Nat → Bool) (t : Nat) : Nat → Option Value
  | 0 => a0.tmps[t]?
  | k + 1 => if L k = true ∧ dstOf ops k = some t ∧ t < a0.tmps.size then some (σ k) else look ops a0 σ L t k

theorem mixFr_size (ops : Array Oper) (a0 : Act) (σ : Nat → Value) (L : Nat → Bool) : ∀ n, (mixFr ops a0 σ L n).tmps.size = a0.tmps.size
  | 0 => rfl
  | k + 1 => by
    unfold mixFr
    split
    · unfold Act.put
      split
      · simp [mixFr_size ops a0 σ L k]
      · exact mixFr_size ops a0 σ L k
    · exact mixFr_size ops a0 σ L k

theorem mixFr_look (ops : Array Oper) (a0 : Act) (σ : Nat → Value) (L : Nat → Bool) (t : Nat) : ∀ n, (mixFr ops a0 σ L n).tmps[t]? = look ops a0 σ L t n
  | 0 => rfl
  | k + 1 => by
    have ih := mixFr_look ops a0 σ L t k
    have hs := mixFr_size ops a0 σ L k
    unfold mixFr look
    by_cases hL : L k = true
    · rw [if_pos hL]
      cases hd : dstOf ops k with
      | none => simp only [Act.put]; rw [if_neg (by rintro ⟨_, h, _⟩; cases h)]; exact ih
      | some d =>
        simp only [Act.put]
        by_cases e : d = t
        · subst e
          by_cases hlt : d < a0.tmps.size
          · rw [if_pos ⟨hL, rfl, hlt⟩, Array.getElem?_setIfInBounds_self_of_lt (by rw [hs]; exact hlt)]
          · have hle : (mixFr ops a0 σ L k).tmps.size ≤ d := by rw [hs]; exact Nat.le_of_not_lt hlt
            rw [if_neg (by rintro ⟨_, _, h⟩; exact hlt h), ← ih, Array.setIfInBounds_eq_of_size_le hle]
        · rw [if_neg (by rintro ⟨_, h, _⟩; exact e (Option.some.inj h)), Array.getElem?_setIfInBounds_ne e]
          exact ih
    · rw [if_neg hL, if_neg (by rintro ⟨h, _⟩; exact hL h)]
      exact ih

theorem look_same {ops : Array Oper} {a0 : Act} {σ : Nat → Value} {L L' : Nat → Bool} {t : Nat} : ∀ n, (∀ k, k < n → dstOf ops k = some t → L k = L' k) → look ops a0 σ L t n = look ops a0 σ L' t n
  | 0, _ => rfl
  | k + 1, h => by
    unfold look
    rw [look_same k (fun j hj => h j (by omega))]
    by_cases e : dstOf ops k = some t
    · rw [h k (by omega) e]
    · rw [if_neg (fun x => e x.2.1), if_neg (fun x => e x.2.1)]
theorem look_cut {ops : Array Oper} {a0 : Act} {σ : Nat → Value} {L : Nat → Bool} {t i : Nat} (h : ∀ k, dstOf ops k = some t → k < i) : ∀ n, i ≤ n → look ops a0 σ L t n = look ops a0 σ L t i
  | 0, hn => by have : i = 0 := by omega
                subst this; rfl
  | k + 1, hn => by
    by_cases e : i = k + 1
    · rw [e]
    · rw [← look_cut h k (by omega)]
      conv => lhs; unfold look
      rw [if_neg (fun x => by have := h k x.2.1; omega)]

theorem mixFr_low {ops : Array Oper} {a0 : Act} {σ σ' : Nat → Value} {L L' : Nat → Bool} : ∀ n, (∀ k, k < n → L k = L' k ∧ σ k = σ' k) → mixFr ops a0 σ L n = mixFr ops a0 σ' L' n
  | 0, _ => rfl
  | k + 1, h => by
    unfold mixFr
    rw [mixFr_low k (fun j hj => h j (by omega)), (h k (by omega)).1, (h k (by omega)).2]

theorem mixFr_add {ops : Array Oper} {a0 : Act} {σ : Nat → Value} {L L' : Nat → Bool} {i : Nat} {v : Value} (hd : ∀ k, k ≠ i → ∀ d, dstOf ops i = some d → dstOf ops k ≠ some d) (hi : L i = false) (hi' : L' i = true) (hL : ∀ k, k ≠ i → L' k = L k) :
    ∀ n, i < n → mixFr ops a0 (upd σ i v) L' n = (mixFr ops a0 σ L n).put (dstOf ops i) v
  | 0, hn => by omega
  | k + 1, hn => by
    by_cases e : i = k
    · subst e
      unfold mixFr
      rw [if_pos hi', if_neg (by rw [hi]; exact Bool.false_ne_true), upd_self]
      rw [mixFr_low i (fun j hj => ⟨hL j (by omega), upd_ne σ v (by omega)⟩)]
    · have ih := mixFr_add (v := v) (σ := σ) (a0 := a0) hd hi hi' hL k (by omega)
      unfold mixFr
      rw [hL k (fun h => e h.symm), upd_ne σ v (fun h => e h.symm), ih]
      split
      · exact Act.put_comm _ _ _ (fun d h => hd k (fun h => e h.symm) d h)
      · rfl

def waits (o : Oper) (j : Nat) : Bool := o.after.any fun e => Region.binds .any e && e.on == j
def waitsAt (ops : Array Oper) (t i : Nat) : Bool := match ops[t]? with | some o => waits o i | none => false

/-- What the region and the resources must show by looking. -/
def check (ops : Array Oper) (R : List Rsc) (ini : List Nat) : Bool :=
  Region.noSelect ops && ini.all (fun k => decide (ops.size ≤ k) && ((R[k]?).map fun r => r.dm.isEmpty && r.tk.isEmpty).getD false) &&
  (List.range ops.size).all fun i => match ops[i]?, R[i]? with
    | some o, some r =>
      (o.after.all fun e => !Region.binds .any e || decide (e.on < i)) &&
      ((List.range ops.size).all fun j => match dstOf ops j with
        | none => true
        | some d => (j == i || dstOf ops i != some d) && (!(o.looksAt ops).contains d || waits o j)) &&
      ((r.tk ++ r.nd).all fun j => (waits o j || ini.contains j) && (List.range ops.size).all fun t => t == i || !(((R[t]?).map (·.tk)).getD []).contains j || waitsAt ops t i) &&
      r.dm.all (fun j => j == i || waits o j)
    | _, _ => false

/-- What an operation that has run has yielded. -/
def relUpon (P : Program) (post : Value → World → Prop) : Result Next → Prop
  | .ok (.value u) w' => post u w'
  | .ok .skip w' => post undef w'
  | .ok (.enter f args) w' => Calls P f args w' fun e w'' => ∃ v, e = .returned v ∧ post v w''
  | .ok (.row row args) w' => Rows P row args w' post
  | _ => False

/-- One operation: run in the frame of those ahead of it in the text, at a world where the facts that it wants hold. -/
def factsOf (Bs : Nat → Prop) (R : List Rsc) (σ : Nat → Value) (w : World) : List Nat → Prop
  | [] => True
  | j :: l => (∃ r, R[j]? = some r ∧ r.fact σ w ∧ ∀ b, r.own σ w b → b < w.heap.size ∧ ¬ Bs b) ∧ factsOf Bs R σ w l

/-- What is asked of what it leaves. -/
structure Left (R : List Rsc) (r : Rsc) (i : Nat) (σ : Nat → Value) (w : World) (v : Value) (w' : World) : Prop where
  fact : r.fact (upd σ i v) w'
  own : ∀ b, r.own (upd σ i v) w' b → (∃ j rj, j ∈ r.tk ∧ R[j]? = some rj ∧ rj.own σ w b) ∨ (w.heap.size ≤ b ∧ b < w'.heap.size)
  keep : Keep (fun b => b < w.heap.size ∧ ∀ j rj, j ∈ r.tk → R[j]? = some rj → ¬ rj.own σ w b) w w'

def StepAt (P : Program) (ops : Array Oper) (Bs : Nat → Prop) (wS : World) (R : List Rsc) (i : Nat) (o : Oper) (r : Rsc) (Fr : (Nat → Value) → Act) : Prop :=
  ∀ σ w, Keep Bs wS w → factsOf Bs R σ w (r.tk ++ r.nd) →
    if Region.wanted o (yielded ops (Fr σ).tmps) = true then relUpon P (Left R r i σ w) ((execOp (Fr σ).eval o).run P w) else Left R r i σ w undef w

/-- All of them, in the order of the text. -/
def Walk (P : Program) (ops : Array Oper) (Bs : Nat → Prop) (wS : World) (R : List Rsc) : List Oper → List Rsc → Nat → ((Nat → Value) → Act) → Prop
  | o :: l, r :: rs, i, Fr => StepAt P ops Bs wS R i o r Fr ∧ Walk P ops Bs wS R l rs (i + 1) (fun σ => (Fr σ).put o.dst (σ i))
  | _, _, _, _ => True
def putAll : List Oper → Nat → Act → (Nat → Value) → Act
  | [], _, a, _ => a
  | o :: l, k, a, σ => putAll l (k + 1) (a.put o.dst (σ k)) σ

section
variable {P : Program} {ops : Array Oper} {Bs : Nat → Prop} {wS : World} {R : List Rsc} {ini fin : List Nat} {a0 : Act} {Q : Exit → Act → World → Prop}

def Held (ops : Array Oper) (R : List Rsc) (ini : List Nat) (listed : Array Bool) (k : Nat) : Prop :=
  (k ∈ ini ∨ (k < ops.size ∧ listed.getD k false = true)) ∧ ∀ t r, R[t]? = some r → t < ops.size → listed.getD t false = true → k ∉ r.tk

structure Inv (ops : Array Oper) (Bs : Nat → Prop) (wS : World) (R : List Rsc) (ini : List Nat) (a0 : Act) (listed : Array Bool) (σ : Nat → Value) (a : Act) (w : World) : Prop where
  sz : listed.size = ops.size
  fr : a = mixFr ops a0 σ (fun k => listed.getD k false) ops.size
  keep : Keep Bs wS w
  closed : ∀ t o, listed.getD t false = true → ops[t]? = some o → ∀ e ∈ o.after, Region.binds .any e = true → listed.getD e.on false = true
  held : ∀ k r, R[k]? = some r → Held ops R ini listed k → r.fact σ w ∧ ∀ b, r.own σ w b → b < w.heap.size ∧ ¬ Bs b
  apart : ∀ j k rj rk, R[j]? = some rj → R[k]? = some rk → Held ops R ini listed j → Held ops R ini listed k → j ≠ k → ∀ b, rj.own σ w b → ¬ rk.own σ w b

structure Chk (ops : Array Oper) (R : List Rsc) (ini : List Nat) : Prop where
  nosel : Region.noSelect ops = true
  inis : ∀ k, k ∈ ini → ops.size ≤ k ∧ ∃ r, R[k]? = some r ∧ r.dm = []
  has : ∀ i, i < ops.size → ∃ o r, ops[i]? = some o ∧ R[i]? = some r
  low : ∀ (i : Nat) o, ops[i]? = some o → ∀ e ∈ o.after, Region.binds .any e = true → e.on < i
  dst : ∀ i j, i < ops.size → j ≠ i → ∀ d, dstOf ops i = some d → dstOf ops j ≠ some d
  looks : ∀ (i : Nat) o (j : Nat) d, ops[i]? = some o → dstOf ops j = some d → d ∈ o.looksAt ops → waits o j = true
  wants : ∀ (i : Nat) o r (j : Nat), ops[i]? = some o → R[i]? = some r → j ∈ r.tk ++ r.nd → (waits o j = true ∨ j ∈ ini) ∧ ∀ t rt, R[t]? = some rt → t < ops.size → t ≠ i → j ∈ rt.tk → waitsAt ops t i = true
  dm : ∀ (i : Nat) o r (j : Nat), ops[i]? = some o → R[i]? = some r → j ∈ r.dm → j = i ∨ waits o j = true

theorem dstOf_lt {j : Nat} {d : Tmp} (h : dstOf ops j = some d) : j < ops.size := by
  unfold dstOf at h
  cases ho : ops[j]? with
  | none => rw [ho] at h; cases h
  | some o => exact (Array.getElem?_eq_some_iff.1 ho).1

theorem chk_of (h : check ops R ini = true) : Chk ops R ini := by
  unfold check at h
  simp only [Bool.and_eq_true, List.all_eq_true, List.mem_range] at h
  obtain ⟨⟨h1, h2⟩, h3⟩ := h
  have at3 : ∀ i o, ops[i]? = some o → ∃ r, R[i]? = some r ∧
      (o.after.all fun e => !Region.binds .any e || decide (e.on < i)) = true ∧
      ((List.range ops.size).all fun j => match dstOf ops j with
        | none => true
        | some d => (j == i || dstOf ops i != some d) && (!(o.looksAt ops).contains d || waits o j)) = true ∧
      ((r.tk ++ r.nd).all fun j => (waits o j || ini.contains j) && (List.range ops.size).all fun t => t == i || !(((R[t]?).map (·.tk)).getD []).contains j || waitsAt ops t i) = true ∧
      r.dm.all (fun j => j == i || waits o j) = true := by
    intro i o ho
    have hi := (Array.getElem?_eq_some_iff.1 ho).1
    have := h3 i hi
    rw [ho] at this
    cases hr : R[i]? with
    | none => rw [hr] at this; simp at this
    | some r =>
      rw [hr] at this
      simp only [Bool.and_eq_true] at this
      exact ⟨r, rfl, this.1.1.1, this.1.1.2, this.1.2, this.2⟩
  refine ⟨h1, ?_, ?_, ?_, ?_, ?_, ?_, ?_⟩
  · intro k hk
    have := h2 k hk
    rw [decide_eq_true_eq] at this
    refine ⟨this.1, ?_⟩
    cases hr : R[k]? with
    | none => rw [hr] at this; simp at this
    | some r =>
      rw [hr] at this
      simp only [Option.map_some, Option.getD_some, Bool.and_eq_true] at this
      exact ⟨r, rfl, List.isEmpty_iff.1 this.2.1⟩
  · intro i hi
    obtain ⟨r, hr, _⟩ := at3 i ops[i] (Array.getElem?_eq_getElem hi)
    exact ⟨_, r, Array.getElem?_eq_getElem hi, hr⟩
  · intro i o ho e he hb
    obtain ⟨r, hr, h, _⟩ := at3 i o ho
    have := Array.all_eq_true_iff_forall_mem.1 h e he
    simpa [hb] using this
  · intro i j hi hne d hd hj
    obtain ⟨r, hr, _, h, _⟩ := at3 i ops[i] (Array.getElem?_eq_getElem hi)
    have := List.all_eq_true.1 h j (List.mem_range.2 (dstOf_lt hj))
    rw [hj] at this
    simp [hd, hne] at this
  · intro i o j d ho hj hl
    obtain ⟨r, hr, _, h, _⟩ := at3 i o ho
    have := List.all_eq_true.1 h j (List.mem_range.2 (dstOf_lt hj))
    rw [hj] at this
    simp only [Bool.and_eq_true, Bool.or_eq_true, Bool.not_eq_true'] at this
    rcases this.2 with hx | hx
    · rw [List.contains_iff_mem.2 hl] at hx; cases hx
    · exact hx
  · intro i o r j ho hr hj
    obtain ⟨r', hr', _, _, h, _⟩ := at3 i o ho
    rw [hr] at hr'; cases hr'
    have := List.all_eq_true.1 h j hj
    simp only [Bool.and_eq_true, Bool.or_eq_true, List.all_eq_true, List.mem_range, Bool.not_eq_true'] at this
    refine ⟨this.1.imp id (fun hx => List.contains_iff_mem.1 hx), fun t rt ht hlt hne hm => ?_⟩
    rcases this.2 t hlt with (hx | hx) | hx
    · exact absurd (by simpa using hx) hne
    · rw [ht] at hx; simp only [Option.map_some, Option.getD_some] at hx; rw [List.contains_iff_mem.2 hm] at hx; cases hx
    · exact hx
  · intro i o r j ho hr hj
    obtain ⟨r', hr', _, _, _, h⟩ := at3 i o ho
    rw [hr] at hr'; cases hr'
    have := List.all_eq_true.1 h j hj
    simpa using this

theorem waits_listed {listed : Array Bool} {o : Oper} {j : Nat} (hw : waits o j = true) (h : ∀ e ∈ o.after, Region.binds .any e = true → listed.getD e.on false = true) : listed.getD j false = true := by
  unfold waits at hw
  rw [Array.any_eq_true'] at hw
  obtain ⟨e, he, hx⟩ := hw
  simp only [Bool.and_eq_true, beq_iff_eq] at hx
  have := h e he hx.1
  rwa [hx.2] at this

theorem factsOf_of {σ : Nat → Value} {w : World} : ∀ l : List Nat, (∀ j, j ∈ l → ∃ r, R[j]? = some r ∧ r.fact σ w ∧ ∀ b, r.own σ w b → b < w.heap.size ∧ ¬ Bs b) → factsOf Bs R σ w l
  | [], _ => trivial
  | j :: l, h => ⟨h j (by simp), factsOf_of l (fun i hi => h i (by simp [hi]))⟩

theorem walk_drop {l : List Oper} {ops : Array Oper} (hW : Walk P ops Bs wS R l R 0 (fun _ => a0)) (ho : ops = l.toArray) : ∀ k, k ≤ l.length → Walk P ops Bs wS R (l.drop k) (R.drop k) k (fun σ => mixFr ops a0 σ (fun _ => true) k) ∨ R.length < k
  | 0, _ => .inl (by
    rw [List.drop_zero, List.drop_zero]
    exact hW)
  | k + 1, hk => by
    rcases walk_drop hW ho k (by omega) with h | h
    · by_cases hr : k < R.length
      · rw [List.drop_eq_getElem_cons (show k < l.length by omega), List.drop_eq_getElem_cons hr] at h
        refine .inl ?_
        have h2 := h.2
        have e : ∀ σ, (mixFr ops a0 σ (fun _ => true) k).put (l[k]'(by omega)).dst (σ k) = mixFr ops a0 σ (fun _ => true) (k + 1) := fun σ => by
          conv => rhs; unfold mixFr
          rw [if_pos rfl]
          congr 1
          unfold dstOf
          rw [ho]
          simp [show k < l.length by omega]
        simp only [e] at h2
        exact h2
      · exact .inr (by omega)
    · exact .inr (by omega)

theorem walk_at {l : List Oper} (hW : Walk P l.toArray Bs wS R l R 0 (fun _ => a0)) {i : Nat} {o : Oper} {r : Rsc} (ho : l.toArray[i]? = some o) (hr : R[i]? = some r) :
    StepAt P l.toArray Bs wS R i o r (fun σ => mixFr l.toArray a0 σ (fun _ => true) i) := by
  have hi : i < l.length := by simpa using (Array.getElem?_eq_some_iff.1 ho).1
  have hri := (List.getElem?_eq_some_iff.1 hr).1
  rcases walk_drop hW rfl i (by omega) with h | h
  · rw [List.drop_eq_getElem_cons hi, List.drop_eq_getElem_cons hri] at h
    have h1 := h.1
    have e1 : l[i] = o := by simpa [hi] using ho
    have e2 : R[i] = r := by simpa [hri] using hr
    rw [e1, e2] at h1
    exact h1
  · omega

theorem putAll_mix {l : List Oper} {σ : Nat → Value} : ∀ m k, k + m = l.length → putAll (l.drop k) k (mixFr l.toArray a0 σ (fun _ => true) k) σ = mixFr l.toArray a0 σ (fun _ => true) l.length
  | 0, k, h => by
    have : k = l.length := by omega
    subst this
    simp [putAll]
  | m + 1, k, h => by
    rw [List.drop_eq_getElem_cons (show k < l.length by omega)]
    unfold putAll
    rw [← putAll_mix m (k + 1) (by omega)]
    congr 1
    conv => rhs; unfold mixFr
    rw [if_pos rfl]
    congr 1
    unfold dstOf
    simp [show k < l.length by omega]

theorem getD_t {listed : Array Bool} {i k : Nat} : (listed.setIfInBounds i true).getD k false = if k = i ∧ i < listed.size then true else listed.getD k false := by
  by_cases h : k = i
  · subst h
    by_cases hs : k < listed.size
    · simp [hs]
    · simp [hs]
  · rw [if_neg (fun x => h x.1)]
    exact getD_set_ne false (fun e => h e.symm)

/-- Whatever operation comes up: it runs as in the frame of the text. -/
theorem inv_run (hc : Chk ops R ini) {listed : Array Bool} {σ : Nat → Value} {a : Act} {w : World} (hI : Inv ops Bs wS R ini a0 listed σ a w) {i : Nat} {o : Oper} (ho : ops[i]? = some o) (hall : ∀ e ∈ o.after, Region.binds .any e = true → listed.getD e.on false = true) :
    execOp a.eval o = execOp (mixFr ops a0 σ (fun _ => true) i).eval o ∧ Region.wanted o (yielded ops a.tmps) = Region.wanted o (yielded ops (mixFr ops a0 σ (fun _ => true) i).tmps) := by
  have hi := (Array.getElem?_eq_some_iff.1 ho).1
  have key : ∀ d, d ∈ o.looksAt ops → a.tmps[d]? = (mixFr ops a0 σ (fun _ => true) i).tmps[d]? := by
    intro d hd
    have hw : ∀ j, dstOf ops j = some d → listed.getD j false = true ∧ j < i := fun j hj => by
      have := hc.looks i o j d ho hj hd
      refine ⟨waits_listed this hall, ?_⟩
      unfold waits at this
      rw [Array.any_eq_true'] at this
      obtain ⟨e, he, hx⟩ := this
      simp only [Bool.and_eq_true, beq_iff_eq] at hx
      have := hc.low i o ho e he hx.1
      omega
    rw [hI.fr, mixFr_look, mixFr_look, ← look_cut (fun k hk => (hw k hk).2) ops.size (by omega)]
    exact look_same _ (fun k _ hk => (hw k hk).1)
  constructor
  · refine execOp_congr o (fun cs b => Region.noSelect_spec hc.nosel i o cs b ho) (fun x hx => ?_)
    cases x with
    | tmp t =>
      have := key t (List.mem_append_left _ (List.mem_filterMap.2 ⟨.tmp t, by simpa using hx, rfl⟩))
      simp only [Act.eval, Array.getD_eq_getD_getElem?, this]
    | _ => rfl
  · unfold Region.wanted
    cases hg : o.guard with
    | none => rfl
    | some gw =>
      obtain ⟨g, want⟩ := gw
      have hy : yielded ops a.tmps g = yielded ops (mixFr ops a0 σ (fun _ => true) i).tmps g := by
        unfold yielded
        cases ht : (ops[g]?).bind (·.dst) with
        | none => rfl
        | some t =>
          have := key t (by simp [Oper.looksAt, hg, ht])
          simp [this]
      simp only [hy]

/-- The operation has run: the invariant holds with it listed. -/
theorem inv_step (hc : Chk ops R ini) (hok : ∀ (k : Nat) (r : Rsc), R[k]? = some r → r.Ok Bs) (hBs : ∀ b, Bs b → b < wS.heap.size) {listed : Array Bool} {σ : Nat → Value} {a : Act} {w : World} (hI : Inv ops Bs wS R ini a0 listed σ a w)
    {i : Nat} {o : Oper} {r : Rsc} (ho : ops[i]? = some o) (hr : R[i]? = some r) (hun : listed.getD i true = false) (hall : ∀ e ∈ o.after, Region.binds .any e = true → listed.getD e.on false = true) {v : Value} {w' : World} (hL : Left R r i σ w v w') :
    Inv ops Bs wS R ini a0 (listed.setIfInBounds i true) (upd σ i v) (a.put o.dst v) w' := by
  have hi := (Array.getElem?_eq_some_iff.1 ho).1
  have hil : i < listed.size := by rw [hI.sz]; exact hi
  have hif : listed.getD i false = false := by
    rw [Array.getD_eq_getD_getElem?, Array.getElem?_eq_getElem hil] at hun ⊢
    exact hun
  have hdst : dstOf ops i = o.dst := by unfold dstOf; rw [ho]; rfl
  -- those that are taken are held
  have htk : ∀ j, j ∈ r.tk ++ r.nd → Held ops R ini listed j := fun j hj => by
    obtain ⟨h1, h2⟩ := hc.wants i o r j ho hr hj
    refine ⟨?_, fun t rt ht hlt hl hm => ?_⟩
    · rcases h1 with h1 | h1
      · have hlj := waits_listed h1 hall
        refine .inr ⟨?_, hlj⟩
        rw [← hI.sz]
        rcases Nat.lt_or_ge j listed.size with h | h
        · exact h
        · rw [Array.getD_eq_getD_getElem?, Array.getElem?_eq_none h] at hlj; cases hlj
      · exact .inl h1
    · have hne : t ≠ i := fun e => by subst e; rw [hif] at hl; cases hl
      have hw := h2 t rt ht hlt hne hm
      unfold waitsAt at hw
      split at hw
      · rename_i ot hot
        have := waits_listed hw (hI.closed t ot hl hot)
        rw [hif] at this; cases this
      · cases hw
  -- who is held behind it
  have hold : ∀ k, k ≠ i → Held ops R ini (listed.setIfInBounds i true) k → Held ops R ini listed k ∧ k ∉ r.tk := fun k hk h => by
    refine ⟨⟨?_, fun t rt ht hlt hl => h.2 t rt ht hlt (getD_set_true hl)⟩, h.2 i r hr hi (by rw [getD_t, if_pos ⟨rfl, hil⟩])⟩
    rcases h.1 with h1 | h1
    · exact .inl h1
    · refine .inr ⟨h1.1, ?_⟩
      have := h1.2
      rw [getD_t, if_neg (fun x => hk x.1)] at this
      exact this
  -- the values that a held fact hangs on are there
  have hdm : ∀ k rk, R[k]? = some rk → k ≠ i → Held ops R ini listed k → ∀ j, j ∈ rk.dm → upd σ i v j = σ j ∧ σ j = upd σ i v j := fun k rk hrk hki hh j hj => by
    have hne : j ≠ i := by
      intro e
      rcases hh.1 with h1 | h1
      · obtain ⟨_, r', hr', hd⟩ := hc.inis k h1
        rw [hrk] at hr'; cases hr'
        rw [hd] at hj; cases hj
      · obtain ⟨ok, rk', hok', hrk'⟩ := hc.has k h1.1
        rw [hrk] at hrk'; cases hrk'
        rcases hc.dm k ok rk j hok' hrk hj with h2 | h2
        · omega
        · have := waits_listed h2 (hI.closed k ok h1.2 hok')
          rw [e, hif] at this; cases this
    exact ⟨upd_ne σ v hne, (upd_ne σ v hne).symm⟩
  have hsz := hL.keep.size
  have hw0 := hI.keep.size
  -- an old fact's blocks are as they were
  have hblk : ∀ k rk, R[k]? = some rk → k ≠ i → Held ops R ini (listed.setIfInBounds i true) k → Keep (fun b => Bs b ∨ rk.own σ w b) w w' := fun k rk hrk hki hh => by
    obtain ⟨h1, h2⟩ := hold k hki hh
    refine hL.keep.mono (fun b hb => ?_)
    rcases hb with hb | hb
    · refine ⟨Nat.lt_of_lt_of_le (hBs b hb) hw0, fun j rj hj hrj hob => ?_⟩
      exact ((hI.held j rj hrj (htk j (List.mem_append_left _ hj))).2 b hob).2 hb
    · refine ⟨((hI.held k rk hrk h1).2 b hb).1, fun j rj hj hrj hob => ?_⟩
      exact hI.apart j k rj rk hrj hrk (htk j (List.mem_append_left _ hj)) h1 (fun e => h2 (e ▸ hj)) b hob hb
  have howni : ∀ b, r.own (upd σ i v) w' b → b < w'.heap.size ∧ ¬ Bs b := fun b hb => by
    rcases hL.own b hb with ⟨j, rj, hj, hrj, hob⟩ | ⟨h1, h2⟩
    · have := (hI.held j rj hrj (htk j (List.mem_append_left _ hj))).2 b hob
      exact ⟨Nat.lt_of_lt_of_le this.1 hsz, this.2⟩
    · exact ⟨h2, fun hb' => by have := hBs b hb'; omega⟩
  have hownk : ∀ k rk, R[k]? = some rk → k ≠ i → Held ops R ini (listed.setIfInBounds i true) k → ∀ b, rk.own (upd σ i v) w' b → rk.own σ w b := fun k rk hrk hki hh b hb =>
    ((hok k rk hrk).loc σ w w' (hI.held k rk hrk (hold k hki hh).1).1 (hblk k rk hrk hki hh)).2 b ((((hok k rk hrk).ext σ (upd σ i v) (fun j hj => (hdm k rk hrk hki (hold k hki hh).1 j hj).1)) w').2 b hb)
  have hia : ∀ k rk, R[k]? = some rk → k ≠ i → Held ops R ini (listed.setIfInBounds i true) k → ∀ b, r.own (upd σ i v) w' b → ¬ rk.own (upd σ i v) w' b := fun k rk hrk hki hh b hb hb' => by
    have hb2 := hownk k rk hrk hki hh b hb'
    obtain ⟨h1, h2⟩ := hold k hki hh
    rcases hL.own b hb with ⟨j, rj, hj, hrj, hob⟩ | ⟨h3, h4⟩
    · exact hI.apart j k rj rk hrj hrk (htk j (List.mem_append_left _ hj)) h1 (fun e => h2 (e ▸ hj)) b hob hb2
    · have := ((hI.held k rk hrk h1).2 b hb2).1
      omega
  refine ⟨by simp [hI.sz], ?_, ?_, ?_, ?_, ?_⟩
  · rw [← hdst, hI.fr]
    refine (mixFr_add (fun k hk d hd => hc.dst i k hi hk d hd) hif (by rw [getD_t, if_pos ⟨rfl, hil⟩]) (fun k hk => by rw [getD_t, if_neg (fun x => hk x.1)]) _ hi).symm
  · exact hI.keep.trans (hL.keep.mono (fun b hb => ⟨Nat.lt_of_lt_of_le (hBs b hb) hw0, fun j rj hj hrj hob => ((hI.held j rj hrj (htk j (List.mem_append_left _ hj))).2 b hob).2 hb⟩))
  · intro t ot hl hot e he hb
    by_cases hti : t = i
    · subst hti
      rw [ho] at hot; cases hot
      exact getD_set_true (hall e he hb)
    · rw [getD_t, if_neg (fun x => hti x.1)] at hl
      exact getD_set_true (hI.closed t ot hl hot e he hb)
  · intro k rk hrk hh
    by_cases hki : k = i
    · subst hki
      rw [hr] at hrk; cases hrk
      exact ⟨hL.fact, howni⟩
    · have h0 := hI.held k rk hrk (hold k hki hh).1
      refine ⟨((hok k rk hrk).ext σ (upd σ i v) (fun j hj => (hdm k rk hrk hki (hold k hki hh).1 j hj).1) _).1 ((hok k rk hrk).loc σ w w' h0.1 (hblk k rk hrk hki hh)).1, fun b hb => ?_⟩
      have := h0.2 b (hownk k rk hrk hki hh b hb)
      exact ⟨Nat.lt_of_lt_of_le this.1 hsz, this.2⟩
  · intro j k rj rk hrj hrk hj hk hne b hb hb'
    by_cases hji : j = i
    · subst hji
      rw [hr] at hrj; cases hrj
      exact hia k rk hrk (fun e => hne e.symm) hk b hb hb'
    · by_cases hki : k = i
      · subst hki
        rw [hr] at hrk; cases hrk
        exact hia j rj hrj hji hj b hb' hb
      · exact hI.apart j k rj rk hrj hrk (hold j hji hj).1 (hold k hki hk).1 hne b (hownk j rj hrj hji hj b hb) (hownk k rk hrk hki hk b hb')

theorem rel_wp {o : Oper} {a : Act} {w : World} {K : Act → World → Prop} {post : Value → World → Prop} (h : relUpon P post ((execOp a.eval o).run P w)) (hk : ∀ v w', post v w' → K (a.put o.dst v) w') : o.wp P a w K Q := by
  unfold Oper.wp
  generalize (execOp a.eval o).run P w = res at *
  cases res with
  | ok n w' =>
    cases n <;> simp only [relUpon] at h <;> simp only [Oper.upon]
    case value u => exact hk _ _ h
    case skip => exact hk _ _ h
    case enter f args => exact h.mono fun e w'' ⟨v, he, hp⟩ => by subst he; exact hk _ _ hp
    case row row args => exact h.mono fun v w'' hp => hk _ _ hp
  | halt x w' => simp only [relUpon] at h

theorem count_set {listed : Array Bool} {i : Nat} (hi : i < listed.size) (h : listed[i] = false) : (listed.setIfInBounds i true).toList.count false + 1 = listed.toList.count false := by
  have hl : i < listed.toList.length := by simpa using hi
  have hx : listed.toList[i] = false := by simpa using h
  have h1 : (listed.setIfInBounds i true).toList = listed.toList.set i true := by simp
  have h2 : 0 < listed.toList.count false := List.count_pos_iff.2 (by rw [← hx]; exact List.getElem_mem hl)
  rw [h1, List.count_set hl, hx]
  rw [if_pos (show ((false : Bool) == false) = true from rfl), if_neg (show ¬ ((true : Bool) == false) = true from Bool.false_ne_true)]
  omega

theorem any_of_inv (hc : Chk ops R ini) (hok : ∀ (k : Nat) (r : Rsc), R[k]? = some r → r.Ok Bs) (hBs : ∀ b, Bs b → b < wS.heap.size)
    (hS : ∀ (i : Nat) (o : Oper) (r : Rsc), ops[i]? = some o → R[i]? = some r → StepAt P ops Bs wS R i o r (fun σ => mixFr ops a0 σ (fun _ => true) i))
    (hE : ∀ (listed : Array Bool) (σ : Nat → Value) (a : Act) (w : World), Inv ops Bs wS R ini a0 listed σ a w → (∀ k, k < ops.size → listed.getD k false = true) → Q .normal a w) :
    ∀ (fuel : Nat) (listed : Array Bool) (σ : Nat → Value) (a : Act) (w : World), Inv ops Bs wS R ini a0 listed σ a w → listed.toList.count false ≤ fuel → wpAny P .any ops Q fuel listed a w := by
  have hend : ∀ (listed : Array Bool) (σ : Nat → Value) (a : Act) (w : World), Inv ops Bs wS R ini a0 listed σ a w → Region.ready .any ops listed = [] → Q .normal a w := by
    intro listed σ a w hI hr
    refine hE listed σ a w hI ?_
    intro k
    induction k using Nat.strongRecOn with
    | ind k ih =>
      intro hk
      obtain ⟨o, r, ho, _⟩ := hc.has k hk
      have hkl : k < listed.size := by rw [hI.sz]; exact hk
      cases hx : listed.getD k false with
      | true => rfl
      | false =>
        have : k ∈ Region.ready .any ops listed := mem_ready.2 ⟨by
          rw [Array.getD_eq_getD_getElem?, Array.getElem?_eq_getElem hkl] at hx ⊢
          exact hx, o, ho, fun e he hb => ih e.on (hc.low k o ho e he hb) (by have := hc.low k o ho e he hb; omega)⟩
        rw [hr] at this; cases this
  intro fuel
  induction fuel with
  | zero =>
    intro listed σ a w hI hn
    have hr : Region.ready .any ops listed = [] := by
      cases hx : Region.ready .any ops listed with
      | nil => rfl
      | cons i l =>
        have hm := (mem_ready.1 (show i ∈ Region.ready .any ops listed by rw [hx]; simp)).1
        rcases Nat.lt_or_ge i listed.size with h | h
        · have hf : listed[i] = false := by
            rw [Array.getD_eq_getD_getElem?, Array.getElem?_eq_getElem h] at hm
            exact hm
          have := count_set h hf
          omega
        · rw [Array.getD_eq_getD_getElem?, Array.getElem?_eq_none h] at hm; cases hm
    exact ⟨hr, hend listed σ a w hI hr⟩
  | succ fuel ih =>
    intro listed σ a w hI hn
    refine ⟨hend listed σ a w hI, fun i hi => ?_⟩
    obtain ⟨hun, o, ho, hall⟩ := mem_ready.1 hi
    have hlt := (Array.getElem?_eq_some_iff.1 ho).1
    obtain ⟨_, r, _, hr⟩ := hc.has i hlt
    have hil : i < listed.size := by rw [hI.sz]; exact hlt
    have hf : listed[i] = false := by
      rw [Array.getD_eq_getD_getElem?, Array.getElem?_eq_getElem hil] at hun
      exact hun
    have hcnt := count_set hil hf
    obtain ⟨e1, e2⟩ := inv_run hc hI ho hall
    have hif : listed.getD i false = false := by
      rw [Array.getD_eq_getD_getElem?, Array.getElem?_eq_getElem hil] at hun ⊢
      exact hun
    have hfacts : factsOf Bs R σ w (r.tk ++ r.nd) := factsOf_of _ (fun j hj => by
      obtain ⟨h1, h2⟩ := hc.wants i o r j ho hr hj
      have hheld : Held ops R ini listed j := by
        refine ⟨?_, fun t rt ht hlt hl hm => ?_⟩
        · rcases h1 with h1 | h1
          · have hlj := waits_listed h1 hall
            refine .inr ⟨?_, hlj⟩
            rw [← hI.sz]
            rcases Nat.lt_or_ge j listed.size with h | h
            · exact h
            · rw [Array.getD_eq_getD_getElem?, Array.getElem?_eq_none h] at hlj; cases hlj
          · exact .inl h1
        · have hne : t ≠ i := fun e => by subst e; rw [hif] at hl; cases hl
          have hw := h2 t rt ht hlt hne hm
          unfold waitsAt at hw
          split at hw
          · rename_i ot hot
            have := waits_listed hw (hI.closed t ot hl hot)
            rw [hif] at this; cases this
          · cases hw
      have hR : ∃ rj, R[j]? = some rj := by
        rcases hheld.1 with h | h
        · obtain ⟨_, rj, h, _⟩ := hc.inis j h
          exact ⟨rj, h⟩
        · obtain ⟨_, rj, _, h⟩ := hc.has j h.1
          exact ⟨rj, h⟩
      obtain ⟨rj, hrj⟩ := hR
      exact ⟨rj, hrj, hI.held j rj hrj hheld⟩)
    have hst := hS i o r ho hr σ w hI.keep hfacts
    unfold wpOp
    simp only [ho]
    rw [e2]
    dsimp only at hst
    split
    · rename_i hw
      rw [if_pos hw, ← e1] at hst
      exact .inl (rel_wp hst (fun v w' hL => ih _ _ _ _ (inv_step hc hok hBs hI ho hr hun hall hL) (by omega)))
    · rename_i hw
      rw [if_neg hw] at hst
      exact ih _ _ _ _ (inv_step hc hok hBs hI ho hr hun hall hst) (by omega)

def finB (ops : Array Oper) (R : List Rsc) (ini fin : List Nat) : Bool :=
  fin.all fun k => (decide (k < ops.size) || ini.contains k) && (List.range ops.size).all fun t => !(((R[t]?).map (·.tk)).getD []).contains k

/-- ONE WALK IN THE ORDER OF THE TEXT SERVES EVERY ORDER. -/
theorem wp_region_rel {id : Nat} {l : List Oper} {a : Act} {w : World} (R : List Rsc) (ini fin : List Nat) (Bs : Nat → Prop)
    (hm : P.follows .mixedOrders = true) (hchk : check l.toArray R ini = true) (hfin : finB l.toArray R ini fin = true)
    (hok : ∀ r, r ∈ R → r.Ok Bs) (hBs : ∀ b, Bs b → b < w.heap.size)
    (hini : ∀ (k : Nat) (r : Rsc), k ∈ ini → R[k]? = some r → r.fact (fun _ => undef) { w with drawn := w.drawn + 1 } ∧ ∀ b, r.own (fun _ => undef) { w with drawn := w.drawn + 1 } b → b < w.heap.size ∧ ¬ Bs b)
    (hap : ∀ (j k : Nat) (rj rk : Rsc), j ∈ ini → k ∈ ini → j ≠ k → R[j]? = some rj → R[k]? = some rk → ∀ b, rj.own (fun _ => undef) { w with drawn := w.drawn + 1 } b → ¬ rk.own (fun _ => undef) { w with drawn := w.drawn + 1 } b)
    (hW : Walk P l.toArray Bs { w with drawn := w.drawn + 1 } R l R 0 (fun _ => a))
    (hE : ∀ (σ : Nat → Value) (w' : World), Keep Bs { w with drawn := w.drawn + 1 } w' → factsOf Bs R σ w' fin →
      (∀ (j k : Nat) (rj rk : Rsc), j ∈ fin → k ∈ fin → j ≠ k → R[j]? = some rj → R[k]? = some rk → ∀ b, rj.own σ w' b → ¬ rk.own σ w' b) → Q .normal (putAll l 0 a σ) w') :
    (Code.region id l.toArray true).wp P Q a w := by
  have hc := chk_of hchk
  have hok' : ∀ (k : Nat) (r : Rsc), R[k]? = some r → r.Ok Bs := fun k r h => hok r (List.mem_of_getElem? h)
  have hno : ∀ k, (Array.replicate l.toArray.size false).getD k false = false := fun k => by
    rw [Array.getD_eq_getD_getElem?, Array.getElem?_replicate]
    split <;> rfl
  have hHeld : ∀ k, Held l.toArray R ini (Array.replicate l.toArray.size false) k → k ∈ ini := fun k h => by
    rcases h.1 with h | h
    · exact h
    · rw [hno] at h; cases h.2
  refine wp_region_any hm (any_of_inv (R := R) (ini := ini) (Bs := Bs) (wS := { w with drawn := w.drawn + 1 }) (a0 := a) hc hok' hBs (fun i o r ho hr => walk_at hW ho hr) ?_ _ _ (fun _ => undef) _ _ ?_ ?_)
  · intro listed σ a' w' hI hall
    have hheld : ∀ k, k ∈ fin → Held l.toArray R ini listed k ∧ ∃ r, R[k]? = some r := fun k hk => by
      unfold finB at hfin
      have := List.all_eq_true.1 hfin k hk
      simp only [Bool.and_eq_true, Bool.or_eq_true, decide_eq_true_eq, List.all_eq_true, List.mem_range, Bool.not_eq_true'] at this
      refine ⟨⟨?_, fun t r ht hlt _ hmem => ?_⟩, ?_⟩
      · rcases this.1 with h | h
        · exact .inr ⟨h, hall k h⟩
        · exact .inl (List.contains_iff_mem.1 h)
      · have h2 := this.2 t hlt
        rw [ht] at h2
        simp only [Option.map_some, Option.getD_some] at h2
        rw [List.contains_iff_mem.2 hmem] at h2; cases h2
      · rcases this.1 with h | h
        · obtain ⟨_, r, _, h⟩ := hc.has k h
          exact ⟨r, h⟩
        · obtain ⟨_, r, h, _⟩ := hc.inis k (List.contains_iff_mem.1 h)
          exact ⟨r, h⟩
    have hfr : a' = putAll l 0 a σ := by
      rw [hI.fr]
      have := putAll_mix (l := l) (a0 := a) (σ := σ) l.length 0 (by omega)
      rw [List.drop_zero] at this
      refine Eq.trans ?_ this.symm
      rw [show l.toArray.size = l.length from by simp]
      exact mixFr_low _ (fun k hk => ⟨hall k (by simpa using hk), rfl⟩)
    rw [hfr]
    refine hE σ w' hI.keep (factsOf_of _ (fun j hj => ?_)) (fun j k rj rk hj hk hne hrj hrk b => ?_)
    · obtain ⟨hh, r, hr⟩ := hheld j hj
      exact ⟨r, hr, hI.held j r hr hh⟩
    · exact hI.apart j k rj rk hrj hrk (hheld j hj).1 (hheld k hk).1 hne b
  · refine ⟨by simp, ?_, Keep.refl _ _, ?_, ?_, ?_⟩
    · have : ∀ n, mixFr l.toArray a (fun _ => undef) (fun k => (Array.replicate l.toArray.size false).getD k false) n = a := by
        intro n
        induction n with
        | zero => rfl
        | succ n ih => unfold mixFr; rw [hno, if_neg Bool.false_ne_true]; exact ih
      exact (this _).symm
    · intro t o ht
      rw [hno] at ht; cases ht
    · intro k r hr hh
      exact hini k r (hHeld k hh) hr
    · intro j k rj rk hrj hrk hj hk hne b hb
      exact hap j k rj rk (hHeld j hj) (hHeld k hk) hne hrj hrk b hb
  · refine Nat.le_trans (List.count_le_length) ?_
    simp
end

end Rlw
end Go.Proofs.YtbeehlhcckndcaaDoor

namespace Go.Proofs.YtbeehlhcckndcaaDoor
open Go.RowKit
set_option linter.unusedVariables false
namespace Rlw
open Rel (Keep)
theorem cell_of {w w' : World} {a : Addr} (h : w'.heap[a.block]? = w.heap[a.block]?) : w'.cell? a = w.cell? a := by
  unfold World.cell?; rw [h]
theorem froz_of {w w' : World} {a : Addr} (h : w'.heap[a.block]? = w.heap[a.block]?) : w'.frozen? a = w.frozen? a := by
  unfold World.frozen?; rw [h]
theorem bx_loc {w w' : World} {q : Nat} {cs : List Value} (h : Bx w q cs) (hq : w'.heap[q]? = w.heap[q]?) : Bx w' q cs :=
  Bx.of (fun j v hv => (cell_of (a := ⟨q, j, none⟩) hq).trans (h.cell j hv)) (fun j hj => (froz_of (a := ⟨q, j, none⟩) hq).trans (h.thaw j hj))
theorem own_loc {e : TypeId} {w w' : World} {B K n : Nat} {v : Value} {F : List Value} (h : w.ownsRow B e K v n F) (hq : ∀ k, v.ownBlock = some k → w'.heap[k]? = w.heap[k]?) : w'.ownsRow B e K v n F := by
  refine ⟨h.1, ?_⟩
  rcases h.2 with h' | ⟨g, cap, cur, h1, hB, hg, h4⟩
  · exact .inl h'
  · exact .inr ⟨g, cap, cur, h1, hB, by rw [hq g (by rw [h1]; rfl)]; exact hg, h4⟩

/-- A value that is known. -/
def valR (i : Nat) (nd : List Nat) (v : Value) : Rsc := ⟨fun σ _ => σ i = v, fun _ _ _ => False, [i], [], nd⟩
theorem valR_ok {Bs : Nat → Prop} (i : Nat) (nd : List Nat) (v : Value) : (valR i nd v).Ok Bs :=
  ⟨fun σ w w' h _ => ⟨h, fun b hb => hb⟩, fun σ σ' h w => ⟨fun hf => (h i (by simp [valR])).trans hf, fun b hb => hb⟩⟩
/-- Two values that stand to each other so. -/
def twoR (i j : Nat) (nd : List Nat) (p : Value → Value → Prop) : Rsc := ⟨fun σ _ => p (σ i) (σ j), fun _ _ _ => False, [i, j], [], nd⟩
theorem twoR_ok {Bs : Nat → Prop} (i j : Nat) (nd : List Nat) (p : Value → Value → Prop) : (twoR i j nd p).Ok Bs :=
  ⟨fun σ w w' h _ => ⟨h, fun b hb => hb⟩, fun σ σ' h w => ⟨fun hf => by
    have h1 := h i (by simp [twoR]); have h2 := h j (by simp [twoR])
    show p (σ' i) (σ' j)
    rw [h1, h2]; exact hf, fun b hb => hb⟩⟩
/-- A new value, with blocks of its own (which may hang on the world). -/
def retR (i : Nat) (nd : List Nat) (F : Value → World → Prop) (ow : Value → World → Nat → Prop) : Rsc := ⟨fun σ w => F (σ i) w, fun σ w b => ow (σ i) w b, [i], [], nd⟩
theorem retR_ok {Bs : Nat → Prop} (i : Nat) (nd : List Nat) (F : Value → World → Prop) (ow : Value → World → Nat → Prop) (h : ∀ v w w', F v w → Keep (fun b => Bs b ∨ ow v w b) w w' → F v w' ∧ ∀ b, ow v w' b → ow v w b) : (retR i nd F ow).Ok Bs :=
  ⟨fun σ w w' hf hk => h (σ i) w w' hf hk, fun σ σ' hh w => by
    have h1 := hh i (by simp [retR])
    exact ⟨fun hf => by show F (σ' i) w; rw [h1]; exact hf, fun b hb => by show ow (σ i) w b; rw [← h1]; exact hb⟩⟩
theorem left_below {R : List Rsc} {r : Rsc} {i : Nat} {σ : Nat → Value} {w : World} {v : Value} {w' : World} (hf : r.fact (upd σ i v) w') (ho : ∀ b, r.own (upd σ i v) w' b → w.heap.size ≤ b ∧ b < w'.heap.size) (hb : Below w.heap.size w w') : Left R r i σ w v w' :=
  ⟨hf, fun b h => .inr (ho b h), ⟨hb.os, hb.tape, hb.output, hb.size, fun k hk => hb.block k hk.1⟩⟩
theorem left_val {R : List Rsc} {i : Nat} {nd : List Nat} {σ : Nat → Value} {w : World} {v : Value} : Left R (valR i nd v) i σ w v w :=
  left_below (upd_self σ i v) (fun b h => h.elim) (Below.refl _ _)
theorem left_ret {R : List Rsc} {i : Nat} {nd : List Nat} {σ : Nat → Value} {w w' : World} {v : Value} {F : Value → World → Prop} {ow : Value → World → Nat → Prop} (hf : F v w') (ho : ∀ b, ow v w' b → w.heap.size ≤ b ∧ b < w'.heap.size) (hb : Below w.heap.size w w') : Left R (retR i nd F ow) i σ w v w' :=
  left_below (by show F (upd σ i v i) w'; rw [upd_self]; exact hf) (fun b h => ho b (by have h2 : ow (upd σ i v i) w' b := h; rwa [upd_self] at h2)) hb
theorem heap_cells {q : Nat} : ∀ (vs : List Value) (o : Nat) (w : World), (w.setCells q o vs).heap.size = w.heap.size ∧ (w.setCells q o vs).os = w.os ∧ (w.setCells q o vs).tape = w.tape ∧ (w.setCells q o vs).output = w.output ∧ ∀ k, k ≠ q → (w.setCells q o vs).heap[k]? = w.heap[k]?
  | [], _, _ => ⟨rfl, rfl, rfl, rfl, fun _ _ => rfl⟩
  | v :: r, o, w => by
    rw [World.setCells]
    obtain ⟨h1, h2, h3, h4, h5⟩ := heap_cells r (o + 1) (w.setCell ⟨q, o, none⟩ v)
    exact ⟨h1.trans (by simp [World.setCell]), h2, h3, h4, fun k hk => (h5 k hk).trans (Below.heap_setCell _ _ _ _ hk)⟩
theorem fact_of {Bs : Nat → Prop} {R : List Rsc} {σ : Nat → Value} {w : World} : ∀ {l : List Nat} {j : Nat} {r : Rsc}, factsOf Bs R σ w l → l.contains j = true → R[j]? = some r → r.fact σ w
  | x :: l, j, r, h, hm, hr => by
    rcases List.mem_cons.1 (List.contains_iff_mem.1 hm) with e | e
    · subst e
      obtain ⟨r', hr', hf, _⟩ := h.1
      rw [hr] at hr'; cases hr'
      exact hf
    · exact fact_of h.2 (List.contains_iff_mem.2 e) hr
theorem walk_cons {P : Program} {ops : Array Oper} {Bs : Nat → Prop} {wS : World} {R : List Rsc} {o : Oper} {l : List Oper} {r : Rsc} {rs : List Rsc} {i : Nat} {Fr : (Nat → Value) → Act}
    (h : StepAt P ops Bs wS R i o r Fr) (hr : Walk P ops Bs wS R l rs (i + 1) (fun σ => (Fr σ).put o.dst (σ i))) : Walk P ops Bs wS R (o :: l) (r :: rs) i Fr := ⟨h, hr⟩
theorem walk_nil {P : Program} {ops : Array Oper} {Bs : Nat → Prop} {wS : World} {R : List Rsc} {rs : List Rsc} {i : Nat} {Fr : (Nat → Value) → Act} : Walk P ops Bs wS R [] rs i Fr := trivial
/-- What an operation has yielded, shut (so that no tactic looks into the run). -/
structure Yld (P : Program) (post : Value → World → Prop) (res : Result Next) : Prop where
  out : relUpon P post res
theorem yld_val {P : Program} {post : Value → World → Prop} {u : Value} {w : World} (h : post u w) : Yld P post (.ok (.value u) w) := ⟨h⟩
theorem yld_call {P : Program} {post : Value → World → Prop} {w : World} {f : FuncId} {args : Array Value} (h : Calls P f args w fun e w'' => ∃ v, e = .returned v ∧ post v w'') : Yld P post (.ok (.enter f args) w) := ⟨h⟩
theorem yld_get {P : Program} {post : Value → World → Prop} {o : Oper} {a : Act} {w : World} (t : TypeId) (x : Operand) (ho : o.op = .load t x) {q : Nat} (hx : a.eval x = .pointer (some ⟨q, 0, none⟩)) {cs : List Value} (hb : Bx w q cs) (d : TypeDesc) (hu : P.underlying t = some d) (hd : d.isRow = true)
    (hi : (P.info? t).map (·.size) = some cs.length) (h : post (.agg cs.toArray) w) : Yld P post ((execOp a.eval o).run P w) := by
  refine ⟨?_⟩
  unfold execOp
  simp only [ho, hx, Instr.loadAt, Instr.sureAddr, Sem.run_bind, Sem.run_pure, Result.andThen_ok, run_loadVar_mid w q 0 t cs d hb.cl hu hd hi]
  exact h
theorem yld_put {P : Program} {post : Value → World → Prop} {o : Oper} {a : Act} {w : World} (t : TypeId) (x y : Operand) (ho : o.op = .store t x y) {q : Nat} {cells : Array Value} (hx : a.eval x = .pointer (some ⟨q, 0, none⟩)) (hy : a.eval y = .agg cells) {cs : List Value} (hb : Bx w q cs)
    (hl : cells.size = cs.length) (hi : (P.info? t).map (·.size) = some cells.size) (h1 : cells.toList.all (·.oneCell') = true) (h : post undef (w.setCells q 0 cells.toList)) : Yld P post ((execOp a.eval o).run P w) := by
  refine ⟨?_⟩
  have hr := run_storeAt_mid w q 0 t cells (by rw [hl]; exact hb.th) hi (by rw [← Array.all_toList]; exact h1)
  unfold execOp
  simp only [ho, hx, hy, Sem.run_bind, Sem.run_pure, Result.andThen_ok, hr]
  exact h
theorem step_want {P : Program} {ops : Array Oper} {Bs : Nat → Prop} {wS : World} {R : List Rsc} {o : Oper} {r : Rsc} {i : Nat} {Fr : (Nat → Value) → Act} (hg : o.guard = none)
    (h : ∀ σ w, Keep Bs wS w → factsOf Bs R σ w (r.tk ++ r.nd) → ∀ post : Value → World → Prop, (∀ v w', Left R r i σ w v w' → post v w') → Yld P post ((execOp (Fr σ).eval o).run P w)) : StepAt P ops Bs wS R i o r Fr := by
  intro σ w hK hF
  rw [if_pos (by unfold Region.wanted; rw [hg])]
  exact (h σ w hK hF _ (fun _ _ h => h)).out
end Rlw
end Go.Proofs.YtbeehlhcckndcaaDoor

namespace Go.Proofs.YtbeehlhcckndcaaDoor
open Go.RowKit
set_option linter.unusedVariables false
/-- A kind of values: what is owned, from which block on, and the blocks. -/
structure Knd where
  own : World → Nat → Value → Prop
  bk : World → Value → Nat → Prop
  keep : ∀ (w w' : World) (B : Nat) (v : Value), own w B v → (∀ b, bk w v b → w'.heap[b]? = w.heap[b]?) → own w' B v ∧ ∀ b, bk w' v b → bk w v b
  lt : ∀ (w : World) (B : Nat) (v : Value), own w B v → ∀ b, bk w v b → B ≤ b ∧ b < w.heap.size
  lower : ∀ (w : World) (B B' : Nat) (v : Value), own w B v → B' ≤ B → own w B' v
namespace Knd
theorem now {k : Knd} {w w' : World} {B : Nat} {v : Value} (h : k.own w B v) (hb : Below w.heap.size w w') : k.own w' B v := (k.keep w w' B v h (fun b hb' => hb.block b (k.lt w B v h b hb').2)).1
def val (x : Value) : Knd where
  own := fun _ _ v => v = x
  bk := fun _ _ _ => False
  keep := fun _ _ _ _ h _ => ⟨h, fun b hb => hb⟩
  lt := fun _ _ _ _ b hb => hb.elim
  lower := fun _ _ _ _ h _ => h
def two (k l : Knd) : Knd where
  own := fun w B v => ∃ a b, v = .tuple #[a, b] ∧ k.own w B a ∧ l.own w B b
  bk := fun w v x => ∃ a b, v = .tuple #[a, b] ∧ (k.bk w a x ∨ l.bk w b x)
  keep := fun w w' B v ⟨a, b, hv, h1, h2⟩ hk => by
    have k1 := k.keep w w' B a h1 (fun x hx => hk x ⟨a, b, hv, .inl hx⟩)
    have k2 := l.keep w w' B b h2 (fun x hx => hk x ⟨a, b, hv, .inr hx⟩)
    refine ⟨⟨a, b, hv, k1.1, k2.1⟩, ?_⟩
    rintro x ⟨a', b', hv', hx⟩
    rw [hv] at hv'
    injection hv' with hv'
    injection hv' with hv'
    injection hv' with e1 hv'
    injection hv' with e2
    subst e1; subst e2
    exact ⟨a, b, hv, hx.imp (k1.2 x) (k2.2 x)⟩
  lt := fun w B v ⟨a, b, hv, h1, h2⟩ x ⟨a', b', hv', hx⟩ => by
    rw [hv] at hv'
    injection hv' with hv'
    injection hv' with hv'
    injection hv' with e1 hv'
    injection hv' with e2
    subst e1; subst e2
    exact hx.elim (k.lt w B a h1 x) (l.lt w B b h2 x)
  lower := fun w B B' v ⟨a, b, hv, h1, h2⟩ hB => ⟨a, b, hv, k.lower w B B' a h1 hB, l.lower w B B' b h2 hB⟩
def three (k l m : Knd) : Knd where
  own := fun w B v => ∃ a b c, v = .tuple #[a, b, c] ∧ k.own w B a ∧ l.own w B b ∧ m.own w B c
  bk := fun w v x => ∃ a b c, v = .tuple #[a, b, c] ∧ (k.bk w a x ∨ l.bk w b x ∨ m.bk w c x)
  keep := fun w w' B v ⟨a, b, c, hv, h1, h2, h3⟩ hk => by
    have k1 := k.keep w w' B a h1 (fun x hx => hk x ⟨a, b, c, hv, .inl hx⟩)
    have k2 := l.keep w w' B b h2 (fun x hx => hk x ⟨a, b, c, hv, .inr (.inl hx)⟩)
    have k3 := m.keep w w' B c h3 (fun x hx => hk x ⟨a, b, c, hv, .inr (.inr hx)⟩)
    refine ⟨⟨a, b, c, hv, k1.1, k2.1, k3.1⟩, ?_⟩
    rintro x ⟨a', b', c', hv', hx⟩
    rw [hv] at hv'
    injection hv' with hv'
    injection hv' with hv'
    injection hv' with e1 hv'
    injection hv' with e2 hv'
    injection hv' with e3
    subst e1; subst e2; subst e3
    exact ⟨a, b, c, hv, hx.imp (k1.2 x) (fun h => h.imp (k2.2 x) (k3.2 x))⟩
  lt := fun w B v ⟨a, b, c, hv, h1, h2, h3⟩ x ⟨a', b', c', hv', hx⟩ => by
    rw [hv] at hv'
    injection hv' with hv'
    injection hv' with hv'
    injection hv' with e1 hv'
    injection hv' with e2 hv'
    injection hv' with e3
    subst e1; subst e2; subst e3
    exact hx.elim (k.lt w B a h1 x) (fun h => h.elim (l.lt w B b h2 x) (m.lt w B c h3 x))
  lower := fun w B B' v ⟨a, b, c, hv, h1, h2, h3⟩ hB => ⟨a, b, c, hv, k.lower w B B' a h1 hB, l.lower w B B' b h2 hB, m.lower w B B' c h3 hB⟩
/-- A list of a flat struct. -/
def row {α : Type} (c : α → List Value) (K : Nat) (e : TypeId) (xs : List α) : Knd where
  own := fun w B v => OwnS c K e w B v xs
  bk := fun _ v b => v.ownBlock = some b
  keep := fun w w' B v h hk => ⟨Rlw.own_loc h hk, fun b hb => hb⟩
  lt := fun w B v h b hb => h.lt b hb
  lower := fun w B B' v h hB => h.lower hB
end Knd
namespace Rlw
open Rel (Keep)
/-- A value of a kind that an operation hands over. -/
def kndR (i : Nat) (nd : List Nat) (k : Knd) (B : Nat) : Rsc := retR i nd (fun v w => k.own w B v) (fun v w b => k.bk w v b)
theorem kndR_ok {Bs : Nat → Prop} (i : Nat) (nd : List Nat) (k : Knd) (B : Nat) : (kndR i nd k B).Ok Bs :=
  retR_ok i nd _ _ (fun v w w' hf hk => k.keep w w' B v hf (fun b hb => hk.block b (.inr hb)))
theorem left_knd {R : List Rsc} {i : Nat} {nd : List Nat} {σ : Nat → Value} {w w' : World} {v : Value} {k : Knd} {B : Nat} (hf : k.own w' w.heap.size v) (hB : B ≤ w.heap.size) (hb : Below w.heap.size w w') : Left R (kndR i nd k B) i σ w v w' :=
  left_ret (k.lower w' _ B v hf hB) (k.lt w' _ v hf) hb
end Rlw
end Go.Proofs.YtbeehlhcckndcaaDoor

namespace Go.Proofs.YtbeehlhcckndcaaDoor
open Go.RowKit Go.PlainAid Go.Proofs.YtbeehlhcckndcaaDoor.Bt Go.Sort
set_option linter.unusedVariables false
set_option maxRecDepth 20000
theorem rw_okG {α : Type} {c : α → List Value} {ok : α → Prop} {K : Nat} {w : World} {a : Option Addr} {xs : List α} (h : Rw (FR c ok) K w a xs) : ∀ x, x ∈ xs → ok x := by
  intro x hx
  obtain ⟨i, hi⟩ := List.getElem?_of_mem hx
  obtain ⟨b, off, -, -, hc⟩ := h (List.length_pos_of_mem hx)
  obtain ⟨vs, -, ⟨-, hk⟩, -⟩ := hc i x hi
  exact hk
structure RoOk (r : RoleV) : Prop where
  nm : r.nm.size ≤ maxLen
  rs : ∀ x, x ∈ r.rs → RuRok x
theorem rw_okR {n K : Nat} {w : World} {a : Option Addr} {xs : List RoleV} (h : Rw (RoR n) K w a xs) : ∀ x, x ∈ xs → RoOk x := by
  intro x hx
  obtain ⟨i, hi⟩ := List.getElem?_of_mem hx
  obtain ⟨b, off, -, -, hc⟩ := h (List.length_pos_of_mem hx)
  obtain ⟨vs, -, ⟨a', cap', -, h1, -, -, h4, -⟩, -⟩ := hc i x hi
  exact ⟨h1, rw_okG (c := rv) (ok := RuRok) h4⟩
theorem own_cap {α : Type} {c : α → List Value} {K n cap : Nat} {a : Option Addr} {e : TypeId} {B : Nat} {xs : List α} {w : World} (h : OwnS c K e w B (.slice a n cap) xs) : n ≤ cap ∧ cap ≤ maxLen := by
  rcases h.2 with ⟨h1, h2⟩ | ⟨g, cap', cur, h1, hB, hg, h3, h4, _⟩
  · cases h1; exact ⟨Nat.le_refl _, Nat.zero_le _⟩
  · cases h1; exact ⟨h3, h4⟩
theorem rw_ro {w : World} {B n cap : Nat} {y : Option Addr} {L : List RoX} (o : OwnRo w B (.slice y n cap) L) (hok : ∀ x, x ∈ L → RoOk x.r) : Rw (RoR 0) 5 w y (L.map (fun x => x.r)) := by
  intro h0
  rw [List.length_map] at h0
  obtain ⟨g, rfl, hB, hg, -⟩ := o.row.form h0
  refine ⟨g, 0, rfl, hg, fun i r hr => ?_⟩
  rw [List.getElem?_map] at hr
  obtain ⟨x, hx, rfl⟩ := Option.map_eq_some_iff.1 hr
  have hm := List.mem_of_getElem? hx
  have hru := o.rules x hm
  obtain ⟨k1, k2⟩ := own_cap hru
  refine ⟨roG x, rfl, ⟨x.ra, x.rc, rfl, (hok x hm).nm, k1, k2, hru.rw (ok := RuRok) rv_len (hok x hm).rs, fun _ _ _ => Nat.zero_le _⟩, fun j u hu => ?_⟩
  have := (o.row.cell roG_len (j := j) hx hu).1
  rw [Nat.zero_add]
  exact this
/-- Where the rules of roles lie is to be seen in the row. -/
theorem OwnRo.uniq {w : World} {B B' : Nat} {v : Value} {L L' : List RoX} (o : OwnRo w B v L) (o' : OwnRo w B' v L') (h : L.map (fun x => x.r) = L'.map (fun x => x.r)) : L = L' := by
  have hl : L.length = L'.length := by simpa using congrArg List.length h
  obtain ⟨a, cap, rfl, -⟩ := o.row.slice
  refine List.ext_getElem? (fun i => ?_)
  cases hi : L[i]? with
  | none =>
    rw [List.getElem?_eq_none_iff] at hi
    exact (List.getElem?_eq_none (by omega)).symm
  | some x =>
    have hlt := (List.getElem?_eq_some_iff.1 hi).1
    have hi' : L'[i]? = some L'[i] := List.getElem?_eq_getElem (by omega)
    generalize L'[i] = x' at hi'
    have hr : x.r = x'.r := by
      have := congrArg (·[i]?) h
      simp only [List.getElem?_map, hi, hi', Option.map_some] at this
      exact Option.some.inj this
    obtain ⟨g, rfl, -⟩ := o.row.form (by omega)
    have c1 := (o.row.cell roG_len (j := 1) hi rfl).1
    have c2 := (o'.row.cell roG_len (j := 1) hi' rfl).1
    have e := Option.some.inj (c1.symm.trans c2)
    injection e with e1 _ e2
    rw [hi']
    congr 1
    cases x; cases x'
    simp_all
structure CfV where
  ip : Int
  b : Int
  gt : Int
  gm : ByteArray
  wm : ByteArray
  rs : Int
  ps : List PlaceV
  ros : List RoleV
structure CfA where
  x : Option Addr
  y : Option Addr
  xc : Nat
  yc : Nat
def cfC (A : CfA) (c : CfV) : List Value := [.int .i64 c.ip, .int .i64 c.b, .int .i64 c.gt, .string c.gm, .string c.wm, .int .i64 c.rs, .slice A.x c.ps.length A.xc, .slice A.y c.ros.length A.yc]
theorem cfC_inj {A A' : CfA} {c : CfV} (h : cfC A c = cfC A' c) : A = A' := by
  cases A; cases A'
  simp only [cfC, List.cons.injEq, Value.slice.injEq] at h
  simp_all
theorem agg_inj {l l' : List Value} (h : Value.agg l.toArray = .agg l'.toArray) : l = l' := by
  injection h with h
  exact List.toArray_inj h
structure OwnCf (w : World) (B : Nat) (A : CfA) (c : CfV) (L : List RoX) : Prop where
  ro : L.map (fun x => x.r) = c.ros
  ps : OwnS pv 4 62 w B (.slice A.x c.ps.length A.xc) c.ps
  rs : OwnRo w B (.slice A.y c.ros.length A.yc) L
def cfB (A : CfA) (c : CfV) (L : List RoX) (k : Nat) : Prop := cfBk (.slice A.x c.ps.length A.xc) (.slice A.y c.ros.length A.yc) L k
theorem OwnCf.now {w w' : World} {B : Nat} {A : CfA} {c : CfV} {L : List RoX} (h : OwnCf w B A c L) (hb : Below w.heap.size w w') : OwnCf w' B A c L := ⟨h.ro, h.ps.now hb, h.rs.now hb⟩
theorem OwnCf.keep {w w' : World} {B : Nat} {A : CfA} {c : CfV} {L : List RoX} (h : OwnCf w B A c L) (hk : ∀ b, cfB A c L b → w'.heap[b]? = w.heap[b]?) : OwnCf w' B A c L :=
  ⟨h.ro, Rlw.own_loc h.ps (fun b e => hk b (.inl e)), h.rs.keepB (fun b e => hk b (.inr e))⟩
theorem OwnCf.lt {w : World} {B : Nat} {A : CfA} {c : CfV} {L : List RoX} (h : OwnCf w B A c L) : ∀ k, cfB A c L k → B ≤ k ∧ k < w.heap.size := by
  rintro k (e | e)
  · exact h.ps.lt k e
  · exact h.rs.lt k e
theorem OwnCf.uniq {w : World} {B B' : Nat} {A : CfA} {c : CfV} {L L' : List RoX} (h : OwnCf w B A c L) (h' : OwnCf w B' A c L') : L = L' := h.rs.uniq h'.rs (h.ro.trans h'.ro.symm)
def kCf (c : CfV) : Knd where
  own := fun w B v => ∃ A L, v = .agg (cfC A c).toArray ∧ OwnCf w B A c L
  bk := fun w v b => ∃ A L B, v = .agg (cfC A c).toArray ∧ OwnCf w B A c L ∧ cfB A c L b
  keep := fun w w' B v ⟨A, L, hv, h⟩ hk => by
    have h2 := h.keep (w' := w') (fun b hb => hk b ⟨A, L, B, hv, h, hb⟩)
    refine ⟨⟨A, L, hv, h2⟩, ?_⟩
    rintro b ⟨A', L', B', hv', h', hb⟩
    cases cfC_inj (agg_inj (hv.symm.trans hv'))
    cases h2.uniq h'
    exact ⟨A, L, B, hv, h, hb⟩
  lt := fun w B v ⟨A, L, hv, h⟩ b ⟨A', L', B', hv', h', hb⟩ => by
    cases cfC_inj (agg_inj (hv.symm.trans hv'))
    cases h.uniq h'
    exact h.lt b hb
  lower := fun w B B' v ⟨A, L, hv, h⟩ hB => ⟨A, L, hv, h.ro, h.ps.lower hB, h.rs.lower hB⟩
structure CfR (w : World) (A : CfA) (c : CfV) : Prop where
  ps : Rw PlR 4 w A.x c.ps
  ros : Rw (RoR 0) 5 w A.y c.ros
theorem CfR.below {w w' : World} {A : CfA} {c : CfV} (h : CfR w A c) (hb : Below w.heap.size w w') : CfR w' A c := ⟨h.ps.keep PlR.kp hb, h.ros.keep (RoR.kp 0) hb⟩
structure CfOk (c : CfV) : Prop where
  ps : ∀ x, x ∈ c.ps → PlRok x
  ros : ∀ x, x ∈ c.ros → RoOk x
theorem CfR.ok {w : World} {A : CfA} {c : CfV} (h : CfR w A c) : CfOk c := ⟨rw_okG (c := pv) (ok := PlRok) h.ps, rw_okR h.ros⟩
theorem OwnCf.rw {w : World} {B : Nat} {A : CfA} {c : CfV} {L : List RoX} (h : OwnCf w B A c L) (hk : CfOk c) : CfR w A c := by
  refine ⟨h.ps.rw (ok := PlRok) pv_len hk.ps, ?_⟩
  have := rw_ro h.rs (fun x hx => hk.ros x.r (by rw [← h.ro]; exact List.mem_map_of_mem hx))
  rw [h.ro] at this
  exact this
/-- Guests. -/
structure HuV where
  us : List UserV
  ss : List SessV
  fs : List FailV
  es : List RecV
  nx : Int
structure HuA where
  u : Option Addr
  s : Option Addr
  f : Option Addr
  r : Option Addr
  uc : Nat
  sc : Nat
  fc : Nat
  rc : Nat
def OwnHu (w : World) (B : Nat) (A : HuA) (h : HuV) : Prop := Own4 w B (.slice A.u h.us.length A.uc) (.slice A.s h.ss.length A.sc) (.slice A.f h.fs.length A.fc) (.slice A.r h.es.length A.rc) h.us h.ss h.fs h.es
def huB (A : HuA) (h : HuV) (k : Nat) : Prop := Value.ownBlock (.slice A.u h.us.length A.uc) = some k ∨ Value.ownBlock (.slice A.s h.ss.length A.sc) = some k ∨ Value.ownBlock (.slice A.f h.fs.length A.fc) = some k ∨ Value.ownBlock (.slice A.r h.es.length A.rc) = some k
theorem OwnHu.now {w w' : World} {B : Nat} {A : HuA} {h : HuV} (o : OwnHu w B A h) (hb : Below w.heap.size w w') : OwnHu w' B A h := Own4.now o hb
theorem OwnHu.keep {w w' : World} {B : Nat} {A : HuA} {h : HuV} (o : OwnHu w B A h) (hk : ∀ b, huB A h b → w'.heap[b]? = w.heap[b]?) : OwnHu w' B A h :=
  ⟨Rlw.own_loc o.u (fun b e => hk b (.inl e)), Rlw.own_loc o.s (fun b e => hk b (.inr (.inl e))), Rlw.own_loc o.f (fun b e => hk b (.inr (.inr (.inl e)))), Rlw.own_loc o.r (fun b e => hk b (.inr (.inr (.inr e)))), o.us_, o.uf, o.ur, o.sf, o.sr, o.fr⟩
theorem OwnHu.lt {w : World} {B : Nat} {A : HuA} {h : HuV} (o : OwnHu w B A h) : ∀ k, huB A h k → B ≤ k ∧ k < w.heap.size := by
  rintro k (e | e | e | e)
  · exact o.u.lt k e
  · exact o.s.lt k e
  · exact o.f.lt k e
  · exact o.r.lt k e
structure HuR (w : World) (A : HuA) (h : HuV) : Prop where
  us : Rw UsR 6 w A.u h.us
  ss : Rw SeR 10 w A.s h.ss
  fs : Rw FaR 3 w A.f h.fs
  es : Rw ReR 5 w A.r h.es
theorem HuR.below {w w' : World} {A : HuA} {h : HuV} (o : HuR w A h) (hb : Below w.heap.size w w') : HuR w' A h := ⟨o.us.keep UsR.kp hb, o.ss.keep SeR.kp hb, o.fs.keep FaR.kp hb, o.es.keep ReR.kp hb⟩
structure HuOk (h : HuV) : Prop where
  us : ∀ x, x ∈ h.us → UsRok x
  ss : ∀ x, x ∈ h.ss → SeRok x
  fs : ∀ x, x ∈ h.fs → FaRok x
  es : ∀ x, x ∈ h.es → ReRok x
theorem HuR.ok {w : World} {A : HuA} {h : HuV} (o : HuR w A h) : HuOk h := ⟨rw_okG (c := uvG) (ok := UsRok) o.us, rw_okG (c := svG) (ok := SeRok) o.ss, rw_okG (c := fvG) (ok := FaRok) o.fs, rw_okG (c := evG) (ok := ReRok) o.es⟩
theorem OwnHu.rw {w : World} {B : Nat} {A : HuA} {h : HuV} (o : OwnHu w B A h) (hk : HuOk h) : HuR w A h :=
  ⟨o.u.rw (ok := UsRok) uvG_len hk.us, o.s.rw (ok := SeRok) svG_len hk.ss, o.f.rw (ok := FaRok) fvG_len hk.fs, o.r.rw (ok := ReRok) evG_len hk.es⟩
def zeroHu : HuV := ⟨[], [], [], [], 0⟩
def zeroHA : HuA := ⟨none, none, none, none, 0, 0, 0, 0⟩
theorem ap_none (v : Value) (n c : Nat) : Ap (.slice none n c) v := by
  intro k hk
  cases hk
theorem OwnHu.zero (w : World) (B : Nat) : OwnHu w B zeroHA zeroHu :=
  ⟨OwnS.nil w B, OwnS.nil w B, OwnS.nil w B, OwnS.nil w B, ap_none _ _ _, ap_none _ _ _, ap_none _ _ _, ap_none _ _ _, ap_none _ _ _, ap_none _ _ _⟩
/-- A list that is handed in, out of one of one's own. -/
theorem OwnS.src {α : Type} {c : α → List Value} {K n cap : Nat} {a : Option Addr} {e : TypeId} {B : Nat} {xs : List α} {w : World} {ok : α → Prop} (h : OwnS c K e w B (.slice a n cap) xs) (hK : ∀ x, (c x).length = K) (hok : ∀ x, x ∈ xs → ok x) (hm : n ≤ 1048576) : Src (FR c ok) K w a n cap xs := by
  refine ⟨h.rw hK hok, h.len, hm, (own_cap h).1, ?_, ?_⟩
  · intro p hp
    rcases h.2 with ⟨h1, _⟩ | ⟨g, cap', cur, h1, _⟩
    · cases h1; cases hp
    · cases h1; cases hp; rfl
  · intro hn
    rcases h.2 with ⟨h1, _⟩ | ⟨g, cap', cur, h1, _⟩
    · cases h1; exact ⟨rfl, rfl⟩
    · cases h1; cases hn
end Go.Proofs.YtbeehlhcckndcaaDoor

namespace Go.Proofs.YtbeehlhcckndcaaDoor
open Go.RowKit Go.PlainAid Go.Proofs.YtbeehlhcckndcaaDoor.Bt Go.Sort
set_option linter.unusedVariables false
set_option maxRecDepth 20000
structure GtOk (g : GtV) : Prop where
  ps : ∀ x, x ∈ g.ps → PlRok x
  ros : ∀ x, x ∈ g.ros → RoOk x
  us : ∀ x, x ∈ g.us → UsRok x
  ss : ∀ x, x ∈ g.ss → SeRok x
  fs : ∀ x, x ∈ g.fs → FaRok x
  es : ∀ x, x ∈ g.es → ReRok x
  fl : ∀ x, x ∈ g.fl → FlRok x
  co : ∀ x, x ∈ g.co → CnRok x
theorem GtR.ok {w : World} {A : GtA} {g : GtV} (h : GtR w A g) : GtOk g :=
  ⟨rw_okG (c := pv) (ok := PlRok) h.ps, rw_okR h.ros, rw_okG (c := uvG) (ok := UsRok) h.us, rw_okG (c := svG) (ok := SeRok) h.ss, rw_okG (c := fvG) (ok := FaRok) h.fs, rw_okG (c := evG) (ok := ReRok) h.es, rw_okG (c := wvG) (ok := FlRok) h.fl, rw_okG (c := cnG) (ok := CnRok) h.co⟩
theorem OwnGt.gtR {w : World} {B : Nat} {A : GtA} {g : GtV} {L : List RoX} (h : OwnGt w B A g L) (hk : GtOk g) : GtR w A g := by
  refine ⟨h.ps.rw (ok := PlRok) pv_len hk.ps, ?_, h.gu.u.rw (ok := UsRok) uvG_len hk.us, h.gu.s.rw (ok := SeRok) svG_len hk.ss, h.gu.f.rw (ok := FaRok) fvG_len hk.fs, h.gu.r.rw (ok := ReRok) evG_len hk.es, h.fl.rw wvG_len hk.fl, h.co.rw cnG_len hk.co, (own_cap h.fl).1, (own_cap h.co).1⟩
  have := rw_ro h.rs (fun x hx => hk.ros x.r (by rw [← h.ro]; exact List.mem_map_of_mem hx))
  rw [h.ro] at this
  exact this
theorem OwnGt.kept {w w' : World} {B : Nat} {A : GtA} {g : GtV} {L : List RoX} {P : Nat → Prop} (h : OwnGt w B A g L) (hk : Rel.Keep P w w') (hP : ∀ k, gtBk A g L k → P k) : OwnGt w' B A g L :=
  ⟨h.ro, own_keep h.ps hk (fun k e => hP k (.inl (.inl e))), h.rs.keepB (fun b hb => hk.block b (hP b (.inl (.inr hb)))), own4_keep h.gu hk (fun k e => hP k (.inr (.inl (.inl e)))) (fun k e => hP k (.inr (.inl (.inr (.inl e))))) (fun k e => hP k (.inr (.inl (.inr (.inr (.inl e)))))) (fun k e => hP k (.inr (.inl (.inr (.inr (.inr e)))))), own_keep h.fl hk (fun k e => hP k (.inr (.inr (.inl e)))), own_keep h.co hk (fun k e => hP k (.inr (.inr (.inr e))))⟩
theorem OwnGt.lt {w : World} {B : Nat} {A : GtA} {g : GtV} {L : List RoX} (h : OwnGt w B A g L) : ∀ k, gtBk A g L k → B ≤ k ∧ k < w.heap.size := by
  rintro k ((e | e) | (e | e | e | e) | e | e)
  · exact h.ps.lt k e
  · exact h.rs.lt k e
  · exact h.gu.u.lt k e
  · exact h.gu.s.lt k e
  · exact h.gu.f.lt k e
  · exact h.gu.r.lt k e
  · exact h.fl.lt k e
  · exact h.co.lt k e
/-- The empty gateway. -/
def zeroGt : GtV := ⟨0, 0, 0, ⟨#[]⟩, ⟨#[]⟩, 0, [], [], [], [], [], [], 0, [], [], 0, 0, 0⟩
def zeroGA : GtA := ⟨none, none, none, none, none, none, none, none, 0, 0, 0, 0, 0, 0, 0, 0⟩
theorem OwnGt.zero (w : World) (B : Nat) : OwnGt w B zeroGA zeroGt [] :=
  ⟨rfl, OwnS.nil w B, ⟨OwnS.nil w B, (fun x hx => by cases hx), List.Pairwise.nil⟩, ⟨OwnS.nil w B, OwnS.nil w B, OwnS.nil w B, OwnS.nil w B, ap_none _ _ _, ap_none _ _ _, ap_none _ _ _, ap_none _ _ _, ap_none _ _ _, ap_none _ _ _⟩, OwnS.nil w B, OwnS.nil w B⟩
end Go.Proofs.YtbeehlhcckndcaaDoor

namespace Go.Proofs.YtbeehlhcckndcaaDoor
open Go.RowKit Go.PlainAid Go.Proofs.YtbeehlhcckndcaaDoor.Bt Go.Sort
set_option linter.unusedVariables false
set_option maxRecDepth 20000
/-- The rows of a copy, all in blocks from lo on. -/
structure R8 (lo : Nat) (g : GtV) (b1 b2 bu bs bf br bl bc : Nat) (W : World) : Prop where
  l : lo ≤ b1 ∧ lo ≤ b2 ∧ lo ≤ bu ∧ lo ≤ bs ∧ lo ≤ bf ∧ lo ≤ br ∧ lo ≤ bl ∧ lo ≤ bc
  r : Rw PlR 4 W (some ⟨b1, 0, none⟩) g.ps ∧ Rw (RoR lo) 5 W (some ⟨b2, 0, none⟩) g.ros ∧ Rw UsR 6 W (some ⟨bu, 0, none⟩) g.us ∧ Rw SeR 10 W (some ⟨bs, 0, none⟩) g.ss ∧ Rw FaR 3 W (some ⟨bf, 0, none⟩) g.fs ∧ Rw ReR 5 W (some ⟨br, 0, none⟩) g.es ∧ Rw FlR 9 W (some ⟨bl, 0, none⟩) g.fl ∧ Rw CnR 11 W (some ⟨bc, 0, none⟩) g.co
theorem R8.put {lo : Nat} {g : GtV} {b1 b2 bu bs bf br bl bc : Nat} {W : World} (h : R8 lo g b1 b2 bu bs bf br bl bc W) {q : Nat} (hq : q < lo) (o : Nat) (vs : List Value) : R8 lo g b1 b2 bu bs bf br bl bc (W.setCells q o vs) := by
  obtain ⟨⟨l1, l2, l3, l4, l5, l6, l7, l8⟩, r1, r2, r3, r4, r5, r6, r7, r8⟩ := h
  exact ⟨⟨l1, l2, l3, l4, l5, l6, l7, l8⟩, row_put r1 (by omega) (fun _ _ _ _ h => h), row_putR r2 (by omega) hq, row_put r3 (by omega) (fun _ _ _ _ h => h), row_put r4 (by omega) (fun _ _ _ _ h => h), row_put r5 (by omega) (fun _ _ _ _ h => h), row_put r6 (by omega) (fun _ _ _ _ h => h), row_put r7 (by omega) (fun _ _ _ _ h => h), row_put r8 (by omega) (fun _ _ _ _ h => h)⟩
theorem GtR.of {w : World} {g : GtV} {b1 b2 bu bs bf br bl bc lo : Nat} {c1 c2 c3 c4 c5 c6 c7 c8 : Nat} (h : Rw PlR 4 w (some ⟨b1, 0, none⟩) g.ps ∧ Rw (RoR lo) 5 w (some ⟨b2, 0, none⟩) g.ros ∧ Rw UsR 6 w (some ⟨bu, 0, none⟩) g.us ∧ Rw SeR 10 w (some ⟨bs, 0, none⟩) g.ss ∧ Rw FaR 3 w (some ⟨bf, 0, none⟩) g.fs ∧ Rw ReR 5 w (some ⟨br, 0, none⟩) g.es ∧ Rw FlR 9 w (some ⟨bl, 0, none⟩) g.fl ∧ Rw CnR 11 w (some ⟨bc, 0, none⟩) g.co) (k7 : g.fl.length ≤ c7) (k8 : g.co.length ≤ c8) : GtR w ⟨some ⟨b1, 0, none⟩, some ⟨b2, 0, none⟩, some ⟨bu, 0, none⟩, some ⟨bs, 0, none⟩, some ⟨bf, 0, none⟩, some ⟨br, 0, none⟩, some ⟨bl, 0, none⟩, some ⟨bc, 0, none⟩, c1, c2, c3, c4, c5, c6, c7, c8⟩ g :=
  ⟨h.1, Rw_lower h.2.1 (Nat.zero_le _), h.2.2.1, h.2.2.2.1, h.2.2.2.2.1, h.2.2.2.2.2.1, h.2.2.2.2.2.2.1, h.2.2.2.2.2.2.2, k7, k8⟩
end Go.Proofs.YtbeehlhcckndcaaDoor

namespace Go.Proofs.YtbeehlhcckndcaaDoor
open Go.RowKit Go.PlainAid Go.Proofs.YtbeehlhcckndcaaDoor.Bt Go.Sort
set_option linter.unusedVariables false
set_option maxRecDepth 20000
end Go.Proofs.YtbeehlhcckndcaaDoor

namespace Go.Proofs.YtbeehlhcckndcaaDoor
open Go.RowKit Go.PlainAid Go.Proofs.YtbeehlhcckndcaaDoor.Bt Go.Sort
set_option linter.unusedVariables false
set_option maxRecDepth 20000
structure TR (w : World) (nm : ByteArray) (a : Option Addr) (len cap : Nat) (q m i : Int) (cs : List Value) (W : World) : Prop where
  a : Bx W w.heap.size [.string nm, .slice a len cap, .int .i64 q, .int .i64 m, .int .i64 i]
  r : Bx W (w.heap.size + 1) [.string ⟨#[]⟩, .slice none 0 0, .int .i64 0, .int .i64 0, .int .i64 0]
  n : Bx W (w.heap.size + 1 + 1) cs
  b : Below w.heap.size w W
theorem TR.call {w : World} {nm : ByteArray} {a : Option Addr} {len cap : Nat} {q m i : Int} {cs : List Value} {W W' : World} (h : TR w nm a len cap q m i cs W) (hb : Below W.heap.size W W') : TR w nm a len cap q m i cs W' := ⟨h.a.below hb, h.r.below hb, h.n.below hb, h.b.trans (hb.mono h.b.size)⟩
theorem TR.put {w : World} {nm : ByteArray} {a : Option Addr} {len cap : Nat} {q m i : Int} {cs : List Value} {W : World} (h : TR w nm a len cap q m i cs W) (o : Nat) (vs : List Value) : TR w nm a len cap q m i (sets cs o vs) (W.setCells (w.heap.size + 1 + 1) o vs) :=
  ⟨h.a.apartO vs (by omega), h.r.apartO vs (by omega), h.n.sets vs o _ _, below_cells (by omega) vs o _ h.b⟩
def zRo : RoX := ⟨⟨⟨#[]⟩, [], 0, 0, 0⟩, none, 0⟩
instance : Inhabited RoX := ⟨zRo⟩
end Go.Proofs.YtbeehlhcckndcaaDoor

namespace Go.Proofs.YtbeehlhcckndcaaDoor
open Go.RowKit Go.PlainAid Go.Proofs.YtbeehlhcckndcaaDoor.Bt Go.Sort
set_option linter.unusedVariables false
set_option maxRecDepth 20000
theorem OwnRo.put {w : World} {B q : Nat} {v : Value} {L : List RoX} (h : OwnRo w B v L) (hq : q < B) (o : Nat) (vs : List Value) : OwnRo (w.setCells q o vs) B v L :=
  h.keepB (fun b hb => (heap_cellsA vs o w).2 b (by have := (h.lt b hb).1; omega))
structure TC (w : World) (ip b gt : Int) (gm wm : ByteArray) (rs : Int) (x y : Option Addr) (lenx capx leny capy : Nat) (cs : List Value) (W : World) : Prop where
  a : Bx W w.heap.size [.int .i64 ip, .int .i64 b, .int .i64 gt, .string gm, .string wm, .int .i64 rs, .slice x lenx capx, .slice y leny capy]
  r : Bx W (w.heap.size + 1) [.int .i64 0, .int .i64 0, .int .i64 0, .string ⟨#[]⟩, .string ⟨#[]⟩, .int .i64 0, .slice none 0 0, .slice none 0 0]
  n : Bx W (w.heap.size + 1 + 1) cs
  b : Below w.heap.size w W
  z : w.heap.size + 1 + 1 + 1 ≤ W.heap.size
theorem TC.call {w : World} {ip b gt : Int} {gm wm : ByteArray} {rs : Int} {x y : Option Addr} {lenx capx leny capy : Nat} {cs : List Value} {W W' : World} (h : TC w ip b gt gm wm rs x y lenx capx leny capy cs W) (hb : Below W.heap.size W W') : TC w ip b gt gm wm rs x y lenx capx leny capy cs W' := ⟨h.a.below hb, h.r.below hb, h.n.below hb, h.b.trans (hb.mono h.b.size), Nat.le_trans h.z hb.size⟩
theorem TC.put {w : World} {ip b gt : Int} {gm wm : ByteArray} {rs : Int} {x y : Option Addr} {lenx capx leny capy : Nat} {cs : List Value} {W : World} (h : TC w ip b gt gm wm rs x y lenx capx leny capy cs W) (o : Nat) (vs : List Value) : TC w ip b gt gm wm rs x y lenx capx leny capy (sets cs o vs) (W.setCells (w.heap.size + 1 + 1) o vs) :=
  ⟨h.a.apartO vs (by omega), h.r.apartO vs (by omega), h.n.sets vs o _ _, below_cells (by omega) vs o _ h.b, by rw [(heap_cellsA vs o W).1]; exact h.z⟩
end Go.Proofs.YtbeehlhcckndcaaDoor

namespace Go.Proofs.YtbeehlhcckndcaaDoor
open Go.RowKit Go.PlainAid Go.Proofs.YtbeehlhcckndcaaDoor.Bt Go.Sort
set_option linter.unusedVariables false
set_option maxRecDepth 20000
end Go.Proofs.YtbeehlhcckndcaaDoor

namespace Go.Proofs.YtbeehlhcckndcaaDoor
open Go.RowKit Go.PlainAid Go.Proofs.YtbeehlhcckndcaaDoor.Bt Go.Sort
set_option linter.unusedVariables false
set_option maxRecDepth 20000
end Go.Proofs.YtbeehlhcckndcaaDoor

namespace Go.Proofs.YtbeehlhcckndcaaDoor
open Go.RowKit Go.PlainAid Go.Proofs.YtbeehlhcckndcaaDoor.Bt Go.Sort
set_option linter.unusedVariables false
set_option maxRecDepth 20000
set_option maxHeartbeats 4000000 in
theorem eqGateway_yes (A A' : GtA) (g : GtV) (w : World) (h : GtR w A g) (h' : GtR w A' g) (hs : GtS g) :
    Calls Tryd.prog 6 #[.agg #[.int .i64 g.ip, .int .i64 g.b, .int .i64 g.gt, .string g.gm, .string g.wm, .int .i64 g.rs, .slice A.x g.ps.length A.xc, .slice A.y g.ros.length A.yc, .slice A.ua g.us.length A.uc, .slice A.sa g.ss.length A.sc, .slice A.fa g.fs.length A.fc, .slice A.ra g.es.length A.rc, .int .i64 g.nx, .slice A.la g.fl.length A.lc, .slice A.ca g.co.length A.cc, .int .i64 g.nw, .int .i64 g.dr, .int .i64 g.sn], .agg #[.int .i64 g.ip, .int .i64 g.b, .int .i64 g.gt, .string g.gm, .string g.wm, .int .i64 g.rs, .slice A'.x g.ps.length A'.xc, .slice A'.y g.ros.length A'.yc, .slice A'.ua g.us.length A'.uc, .slice A'.sa g.ss.length A'.sc, .slice A'.fa g.fs.length A'.fc, .slice A'.ra g.es.length A'.rc, .int .i64 g.nx, .slice A'.la g.fl.length A'.lc, .slice A'.ca g.co.length A'.cc, .int .i64 g.nw, .int .i64 g.dr, .int .i64 g.sn]] w fun e w' => e = .returned (.bool true) ∧ Grw w w' := by
  have GR : Hid (GtR w A g) := h
  have GR' : Hid (GtR w A' g) := h'
  have HZ : Hid (∀ w, GtR w A g → GtR w A' g → Calls Tryd.prog 14 #[.agg #[.int .i64 g.ip, .int .i64 g.b, .int .i64 g.gt, .string g.gm, .string g.wm, .int .i64 g.rs, .slice A.x g.ps.length A.xc, .slice A.y g.ros.length A.yc], .agg #[.int .i64 g.ip, .int .i64 g.b, .int .i64 g.gt, .string g.gm, .string g.wm, .int .i64 g.rs, .slice A'.x g.ps.length A'.xc, .slice A'.y g.ros.length A'.yc]] w fun e w' => e = .returned (.bool true) ∧ Grw w w') := fun w h h' => eqConfig_caps _ _ _ _ _ _ _ _ _ _ _ _ _ _ _ _ g.ps g.ros w h.ps h'.ps rfl h.ros h'.ros rfl hs.ps hs.ros hs.szr
  have HY : Hid (∀ w, GtR w A g → GtR w A' g → Calls Tryd.prog 15 #[.agg #[.slice A.ua g.us.length A.uc, .slice A.sa g.ss.length A.sc, .slice A.fa g.fs.length A.fc, .slice A.ra g.es.length A.rc, .int .i64 g.nx], .agg #[.slice A'.ua g.us.length A'.uc, .slice A'.sa g.ss.length A'.sc, .slice A'.fa g.fs.length A'.fc, .slice A'.ra g.es.length A'.rc, .int .i64 g.nx]] w fun e w' => e = .returned (.bool true) ∧ Grw w w') := fun w h h' => eqGuests_yes _ _ _ _ _ _ _ _ _ _ _ _ _ _ _ _ _ _ _ _ g.us g.ss g.fs g.es g.nx w h.us h'.us rfl h.ss h'.ss rfl h.fs h'.fs rfl h.es h'.es rfl (Nat.le_trans hs.us (by decide)) (Nat.le_trans hs.ss (by decide)) (Nat.le_trans hs.fs (by decide)) (Nat.le_trans hs.es (by decide))
  have HF : Hid (∀ w, GtR w A g → GtR w A' g → Calls Tryd.prog 16 #[.slice A.la g.fl.length A.lc, .slice A'.la g.fl.length A'.lc] w fun e w' => e = .returned (.bool true) ∧ Grw w w') := fun w h h' => eqFlowS_yes _ _ _ _ _ g.fl w h.fl h'.fl rfl (Nat.le_trans hs.fl (by decide))
  have HC : Hid (∀ w, GtR w A g → GtR w A' g → Calls Tryd.prog 17 #[.slice A.ca g.co.length A.cc, .slice A'.ca g.co.length A'.cc] w fun e w' => e = .returned (.bool true) ∧ Grw w w') := fun w h h' => eqConnS_yes _ _ _ _ _ g.co w h.co h'.co rfl (Nat.le_trans hs.co (by decide))
  clear h h' hs
  have n0 : (g.nw != g.nw) = false := by simp
  have n1 : (g.dr != g.dr) = false := by simp
  have n2 : (g.sn != g.sn) = false := by simp
  have A0 : Hid (Bx ((w.alloc (.cells #[.int .i64 g.ip, .int .i64 g.b, .int .i64 g.gt, .string g.gm, .string g.wm, .int .i64 g.rs, .slice A.x g.ps.length A.xc, .slice A.y g.ros.length A.yc, .slice A.ua g.us.length A.uc, .slice A.sa g.ss.length A.sc, .slice A.fa g.fs.length A.fc, .slice A.ra g.es.length A.rc, .int .i64 g.nx, .slice A.la g.fl.length A.lc, .slice A.ca g.co.length A.cc, .int .i64 g.nw, .int .i64 g.dr, .int .i64 g.sn] 37)).alloc (.cells #[.int .i64 g.ip, .int .i64 g.b, .int .i64 g.gt, .string g.gm, .string g.wm, .int .i64 g.rs, .slice A'.x g.ps.length A'.xc, .slice A'.y g.ros.length A'.yc, .slice A'.ua g.us.length A'.uc, .slice A'.sa g.ss.length A'.sc, .slice A'.fa g.fs.length A'.fc, .slice A'.ra g.es.length A'.rc, .int .i64 g.nx, .slice A'.la g.fl.length A'.lc, .slice A'.ca g.co.length A'.cc, .int .i64 g.nw, .int .i64 g.dr, .int .i64 g.sn] 37)) w.heap.size [.int .i64 g.ip, .int .i64 g.b, .int .i64 g.gt, .string g.gm, .string g.wm, .int .i64 g.rs, .slice A.x g.ps.length A.xc, .slice A.y g.ros.length A.yc, .slice A.ua g.us.length A.uc, .slice A.sa g.ss.length A.sc, .slice A.fa g.fs.length A.fc, .slice A.ra g.es.length A.rc, .int .i64 g.nx, .slice A.la g.fl.length A.lc, .slice A.ca g.co.length A.cc, .int .i64 g.nw, .int .i64 g.dr, .int .i64 g.sn]) := (Bx.new w #[.int .i64 g.ip, .int .i64 g.b, .int .i64 g.gt, .string g.gm, .string g.wm, .int .i64 g.rs, .slice A.x g.ps.length A.xc, .slice A.y g.ros.length A.yc, .slice A.ua g.us.length A.uc, .slice A.sa g.ss.length A.sc, .slice A.fa g.fs.length A.fc, .slice A.ra g.es.length A.rc, .int .i64 g.nx, .slice A.la g.fl.length A.lc, .slice A.ca g.co.length A.cc, .int .i64 g.nw, .int .i64 g.dr, .int .i64 g.sn] 37).below ((Below.refl _ _).alloc (Nat.le_refl _) _)
  have E0 : Hid (Bx ((w.alloc (.cells #[.int .i64 g.ip, .int .i64 g.b, .int .i64 g.gt, .string g.gm, .string g.wm, .int .i64 g.rs, .slice A.x g.ps.length A.xc, .slice A.y g.ros.length A.yc, .slice A.ua g.us.length A.uc, .slice A.sa g.ss.length A.sc, .slice A.fa g.fs.length A.fc, .slice A.ra g.es.length A.rc, .int .i64 g.nx, .slice A.la g.fl.length A.lc, .slice A.ca g.co.length A.cc, .int .i64 g.nw, .int .i64 g.dr, .int .i64 g.sn] 37)).alloc (.cells #[.int .i64 g.ip, .int .i64 g.b, .int .i64 g.gt, .string g.gm, .string g.wm, .int .i64 g.rs, .slice A'.x g.ps.length A'.xc, .slice A'.y g.ros.length A'.yc, .slice A'.ua g.us.length A'.uc, .slice A'.sa g.ss.length A'.sc, .slice A'.fa g.fs.length A'.fc, .slice A'.ra g.es.length A'.rc, .int .i64 g.nx, .slice A'.la g.fl.length A'.lc, .slice A'.ca g.co.length A'.cc, .int .i64 g.nw, .int .i64 g.dr, .int .i64 g.sn] 37)) (w.heap.size + 1) [.int .i64 g.ip, .int .i64 g.b, .int .i64 g.gt, .string g.gm, .string g.wm, .int .i64 g.rs, .slice A'.x g.ps.length A'.xc, .slice A'.y g.ros.length A'.yc, .slice A'.ua g.us.length A'.uc, .slice A'.sa g.ss.length A'.sc, .slice A'.fa g.fs.length A'.fc, .slice A'.ra g.es.length A'.rc, .int .i64 g.nx, .slice A'.la g.fl.length A'.lc, .slice A'.ca g.co.length A'.cc, .int .i64 g.nw, .int .i64 g.dr, .int .i64 g.sn]) := by
    have h := Bx.new (w.alloc (.cells #[.int .i64 g.ip, .int .i64 g.b, .int .i64 g.gt, .string g.gm, .string g.wm, .int .i64 g.rs, .slice A.x g.ps.length A.xc, .slice A.y g.ros.length A.yc, .slice A.ua g.us.length A.uc, .slice A.sa g.ss.length A.sc, .slice A.fa g.fs.length A.fc, .slice A.ra g.es.length A.rc, .int .i64 g.nx, .slice A.la g.fl.length A.lc, .slice A.ca g.co.length A.cc, .int .i64 g.nw, .int .i64 g.dr, .int .i64 g.sn] 37)) #[.int .i64 g.ip, .int .i64 g.b, .int .i64 g.gt, .string g.gm, .string g.wm, .int .i64 g.rs, .slice A'.x g.ps.length A'.xc, .slice A'.y g.ros.length A'.yc, .slice A'.ua g.us.length A'.uc, .slice A'.sa g.ss.length A'.sc, .slice A'.fa g.fs.length A'.fc, .slice A'.ra g.es.length A'.rc, .int .i64 g.nx, .slice A'.la g.fl.length A'.lc, .slice A'.ca g.co.length A'.cc, .int .i64 g.nw, .int .i64 g.dr, .int .i64 g.sn] 37
    rw [World.size_alloc] at h
    exact h
  have X0 : Hid (Grw w ((w.alloc (.cells #[.int .i64 g.ip, .int .i64 g.b, .int .i64 g.gt, .string g.gm, .string g.wm, .int .i64 g.rs, .slice A.x g.ps.length A.xc, .slice A.y g.ros.length A.yc, .slice A.ua g.us.length A.uc, .slice A.sa g.ss.length A.sc, .slice A.fa g.fs.length A.fc, .slice A.ra g.es.length A.rc, .int .i64 g.nx, .slice A.la g.fl.length A.lc, .slice A.ca g.co.length A.cc, .int .i64 g.nw, .int .i64 g.dr, .int .i64 g.sn] 37)).alloc (.cells #[.int .i64 g.ip, .int .i64 g.b, .int .i64 g.gt, .string g.gm, .string g.wm, .int .i64 g.rs, .slice A'.x g.ps.length A'.xc, .slice A'.y g.ros.length A'.yc, .slice A'.ua g.us.length A'.uc, .slice A'.sa g.ss.length A'.sc, .slice A'.fa g.fs.length A'.fc, .slice A'.ra g.es.length A'.rc, .int .i64 g.nx, .slice A'.la g.fl.length A'.lc, .slice A'.ca g.co.length A'.cc, .int .i64 g.nw, .int .i64 g.dr, .int .i64 g.sn] 37))) := ((Grw.refl _).alloc _).alloc _
  go_enter Tryd.func6, Tryd.ntmps6
  go_wp2_with fail
  refine (HZ.out _ (GR.out.below X0.out.below) (GR'.out.below X0.out.below)).mono ?_
  rintro e w1 ⟨rfl, gx⟩
  have A1 : Hid (Bx w1 w.heap.size [.int .i64 g.ip, .int .i64 g.b, .int .i64 g.gt, .string g.gm, .string g.wm, .int .i64 g.rs, .slice A.x g.ps.length A.xc, .slice A.y g.ros.length A.yc, .slice A.ua g.us.length A.uc, .slice A.sa g.ss.length A.sc, .slice A.fa g.fs.length A.fc, .slice A.ra g.es.length A.rc, .int .i64 g.nx, .slice A.la g.fl.length A.lc, .slice A.ca g.co.length A.cc, .int .i64 g.nw, .int .i64 g.dr, .int .i64 g.sn]) := A0.out.below gx.below
  have E1 : Hid (Bx w1 (w.heap.size + 1) [.int .i64 g.ip, .int .i64 g.b, .int .i64 g.gt, .string g.gm, .string g.wm, .int .i64 g.rs, .slice A'.x g.ps.length A'.xc, .slice A'.y g.ros.length A'.yc, .slice A'.ua g.us.length A'.uc, .slice A'.sa g.ss.length A'.sc, .slice A'.fa g.fs.length A'.fc, .slice A'.ra g.es.length A'.rc, .int .i64 g.nx, .slice A'.la g.fl.length A'.lc, .slice A'.ca g.co.length A'.cc, .int .i64 g.nw, .int .i64 g.dr, .int .i64 g.sn]) := E0.out.below gx.below
  have X1 : Hid (Grw w w1) := X0.out.trans gx
  clear gx A0 E0 X0
  go_wp2_with (first | (refine wpl_getO 33 rfl _ rfl w.heap.size 8 [.slice A.ua g.us.length A.uc, .slice A.sa g.ss.length A.sc, .slice A.fa g.fs.length A.fc, .slice A.ra g.es.length A.rc, .int .i64 g.nx] rfl A1.out rfl _ Tryd.underlying33 rfl rfl ?_) | (refine wpl_getO 33 rfl _ rfl (w.heap.size + 1) 8 [.slice A'.ua g.us.length A'.uc, .slice A'.sa g.ss.length A'.sc, .slice A'.fa g.fs.length A'.fc, .slice A'.ra g.es.length A'.rc, .int .i64 g.nx] rfl E1.out rfl _ Tryd.underlying33 rfl rfl ?_) | fail)
  refine (HY.out _ (GR.out.below X1.out.below) (GR'.out.below X1.out.below)).mono ?_
  rintro e w2 ⟨rfl, gx⟩
  have A2 : Hid (Bx w2 w.heap.size [.int .i64 g.ip, .int .i64 g.b, .int .i64 g.gt, .string g.gm, .string g.wm, .int .i64 g.rs, .slice A.x g.ps.length A.xc, .slice A.y g.ros.length A.yc, .slice A.ua g.us.length A.uc, .slice A.sa g.ss.length A.sc, .slice A.fa g.fs.length A.fc, .slice A.ra g.es.length A.rc, .int .i64 g.nx, .slice A.la g.fl.length A.lc, .slice A.ca g.co.length A.cc, .int .i64 g.nw, .int .i64 g.dr, .int .i64 g.sn]) := A1.out.below gx.below
  have E2 : Hid (Bx w2 (w.heap.size + 1) [.int .i64 g.ip, .int .i64 g.b, .int .i64 g.gt, .string g.gm, .string g.wm, .int .i64 g.rs, .slice A'.x g.ps.length A'.xc, .slice A'.y g.ros.length A'.yc, .slice A'.ua g.us.length A'.uc, .slice A'.sa g.ss.length A'.sc, .slice A'.fa g.fs.length A'.fc, .slice A'.ra g.es.length A'.rc, .int .i64 g.nx, .slice A'.la g.fl.length A'.lc, .slice A'.ca g.co.length A'.cc, .int .i64 g.nw, .int .i64 g.dr, .int .i64 g.sn]) := E1.out.below gx.below
  have X2 : Hid (Grw w w2) := X1.out.trans gx
  clear gx A1 E1 X1
  have u2 := A2.out.cell 13 rfl
  have v2 := E2.out.cell 13 rfl
  go_wp2_with fail
  clear u2 v2
  refine (HF.out _ (GR.out.below X2.out.below) (GR'.out.below X2.out.below)).mono ?_
  rintro e w3 ⟨rfl, gx⟩
  have A3 : Hid (Bx w3 w.heap.size [.int .i64 g.ip, .int .i64 g.b, .int .i64 g.gt, .string g.gm, .string g.wm, .int .i64 g.rs, .slice A.x g.ps.length A.xc, .slice A.y g.ros.length A.yc, .slice A.ua g.us.length A.uc, .slice A.sa g.ss.length A.sc, .slice A.fa g.fs.length A.fc, .slice A.ra g.es.length A.rc, .int .i64 g.nx, .slice A.la g.fl.length A.lc, .slice A.ca g.co.length A.cc, .int .i64 g.nw, .int .i64 g.dr, .int .i64 g.sn]) := A2.out.below gx.below
  have E3 : Hid (Bx w3 (w.heap.size + 1) [.int .i64 g.ip, .int .i64 g.b, .int .i64 g.gt, .string g.gm, .string g.wm, .int .i64 g.rs, .slice A'.x g.ps.length A'.xc, .slice A'.y g.ros.length A'.yc, .slice A'.ua g.us.length A'.uc, .slice A'.sa g.ss.length A'.sc, .slice A'.fa g.fs.length A'.fc, .slice A'.ra g.es.length A'.rc, .int .i64 g.nx, .slice A'.la g.fl.length A'.lc, .slice A'.ca g.co.length A'.cc, .int .i64 g.nw, .int .i64 g.dr, .int .i64 g.sn]) := E2.out.below gx.below
  have X3 : Hid (Grw w w3) := X2.out.trans gx
  clear gx A2 E2 X2
  have u3 := A3.out.cell 14 rfl
  have v3 := E3.out.cell 14 rfl
  go_wp2_with fail
  clear u3 v3
  refine (HC.out _ (GR.out.below X3.out.below) (GR'.out.below X3.out.below)).mono ?_
  rintro e w4 ⟨rfl, gx⟩
  have A4 : Hid (Bx w4 w.heap.size [.int .i64 g.ip, .int .i64 g.b, .int .i64 g.gt, .string g.gm, .string g.wm, .int .i64 g.rs, .slice A.x g.ps.length A.xc, .slice A.y g.ros.length A.yc, .slice A.ua g.us.length A.uc, .slice A.sa g.ss.length A.sc, .slice A.fa g.fs.length A.fc, .slice A.ra g.es.length A.rc, .int .i64 g.nx, .slice A.la g.fl.length A.lc, .slice A.ca g.co.length A.cc, .int .i64 g.nw, .int .i64 g.dr, .int .i64 g.sn]) := A3.out.below gx.below
  have E4 : Hid (Bx w4 (w.heap.size + 1) [.int .i64 g.ip, .int .i64 g.b, .int .i64 g.gt, .string g.gm, .string g.wm, .int .i64 g.rs, .slice A'.x g.ps.length A'.xc, .slice A'.y g.ros.length A'.yc, .slice A'.ua g.us.length A'.uc, .slice A'.sa g.ss.length A'.sc, .slice A'.fa g.fs.length A'.fc, .slice A'.ra g.es.length A'.rc, .int .i64 g.nx, .slice A'.la g.fl.length A'.lc, .slice A'.ca g.co.length A'.cc, .int .i64 g.nw, .int .i64 g.dr, .int .i64 g.sn]) := E3.out.below gx.below
  have X4 : Hid (Grw w w4) := X3.out.trans gx
  clear gx A3 E3 X3
  have u15 := A4.out.cell 15 rfl
  have v15 := E4.out.cell 15 rfl
  have u16 := A4.out.cell 16 rfl
  have v16 := E4.out.cell 16 rfl
  have u17 := A4.out.cell 17 rfl
  have v17 := E4.out.cell 17 rfl
  go_wp2
  go_ret
  exact ⟨rfl, X4.out⟩
end Go.Proofs.YtbeehlhcckndcaaDoor

namespace Go.Proofs.YtbeehlhcckndcaaDoor
open Go.RowKit Go.PlainAid Go.Proofs.YtbeehlhcckndcaaDoor.Bt Go.Sort
set_option linter.unusedVariables false
set_option maxRecDepth 20000
set_option maxHeartbeats 8000000 in
theorem markGateway_any (A : GtA) (g : GtV) (L : List RoX) (B m0 : Nat) (w : World) (h : OwnGt w B A g L) (h0 : 0 < m0) (hm : gtN4 m0 g L ≤ 100000000000) (hy : g.ros.length ≤ 1048576) :
    Calls Tryd.prog 7 #[.agg #[.int .i64 g.ip, .int .i64 g.b, .int .i64 g.gt, .string g.gm, .string g.wm, .int .i64 g.rs, .slice A.x g.ps.length A.xc, .slice A.y g.ros.length A.yc, .slice A.ua g.us.length A.uc, .slice A.sa g.ss.length A.sc, .slice A.fa g.fs.length A.fc, .slice A.ra g.es.length A.rc, .int .i64 g.nx, .slice A.la g.fl.length A.lc, .slice A.ca g.co.length A.cc, .int .i64 g.nw, .int .i64 g.dr, .int .i64 g.sn], .int .i64 (m0 : Int)] w fun e w' => e = .returned (.int .i64 ((gtN4 m0 g L : Nat) : Int)) ∧ MkdGt w' B A g L m0 ∧ Rel.Keep (fun k => k < w.heap.size ∧ ¬ gtBk A g L k) w w' := by
  have al : Below w.heap.size w (w.alloc (.cells #[.int .i64 g.ip, .int .i64 g.b, .int .i64 g.gt, .string g.gm, .string g.wm, .int .i64 g.rs, .slice A.x g.ps.length A.xc, .slice A.y g.ros.length A.yc, .slice A.ua g.us.length A.uc, .slice A.sa g.ss.length A.sc, .slice A.fa g.fs.length A.fc, .slice A.ra g.es.length A.rc, .int .i64 g.nx, .slice A.la g.fl.length A.lc, .slice A.ca g.co.length A.cc, .int .i64 g.nw, .int .i64 g.dr, .int .i64 g.sn] 37)) := (Below.refl _ _).alloc (Nat.le_refl _) _
  have A0 : Hid (w.heap.size < (w.alloc (.cells #[.int .i64 g.ip, .int .i64 g.b, .int .i64 g.gt, .string g.gm, .string g.wm, .int .i64 g.rs, .slice A.x g.ps.length A.xc, .slice A.y g.ros.length A.yc, .slice A.ua g.us.length A.uc, .slice A.sa g.ss.length A.sc, .slice A.fa g.fs.length A.fc, .slice A.ra g.es.length A.rc, .int .i64 g.nx, .slice A.la g.fl.length A.lc, .slice A.ca g.co.length A.cc, .int .i64 g.nw, .int .i64 g.dr, .int .i64 g.sn] 37)).heap.size) := by show _ < _; simp
  have B0 : Hid (Bx (w.alloc (.cells #[.int .i64 g.ip, .int .i64 g.b, .int .i64 g.gt, .string g.gm, .string g.wm, .int .i64 g.rs, .slice A.x g.ps.length A.xc, .slice A.y g.ros.length A.yc, .slice A.ua g.us.length A.uc, .slice A.sa g.ss.length A.sc, .slice A.fa g.fs.length A.fc, .slice A.ra g.es.length A.rc, .int .i64 g.nx, .slice A.la g.fl.length A.lc, .slice A.ca g.co.length A.cc, .int .i64 g.nw, .int .i64 g.dr, .int .i64 g.sn] 37)) w.heap.size [.int .i64 g.ip, .int .i64 g.b, .int .i64 g.gt, .string g.gm, .string g.wm, .int .i64 g.rs, .slice A.x g.ps.length A.xc, .slice A.y g.ros.length A.yc, .slice A.ua g.us.length A.uc, .slice A.sa g.ss.length A.sc, .slice A.fa g.fs.length A.fc, .slice A.ra g.es.length A.rc, .int .i64 g.nx, .slice A.la g.fl.length A.lc, .slice A.ca g.co.length A.cc, .int .i64 g.nw, .int .i64 g.dr, .int .i64 g.sn]) := Bx.new w #[.int .i64 g.ip, .int .i64 g.b, .int .i64 g.gt, .string g.gm, .string g.wm, .int .i64 g.rs, .slice A.x g.ps.length A.xc, .slice A.y g.ros.length A.yc, .slice A.ua g.us.length A.uc, .slice A.sa g.ss.length A.sc, .slice A.fa g.fs.length A.fc, .slice A.ra g.es.length A.rc, .int .i64 g.nx, .slice A.la g.fl.length A.lc, .slice A.ca g.co.length A.cc, .int .i64 g.nw, .int .i64 g.dr, .int .i64 g.sn] 37
  have K0 : Hid (Rel.Keep (fun k => k < w.heap.size ∧ ¬ gtBk A g L k) w (w.alloc (.cells #[.int .i64 g.ip, .int .i64 g.b, .int .i64 g.gt, .string g.gm, .string g.wm, .int .i64 g.rs, .slice A.x g.ps.length A.xc, .slice A.y g.ros.length A.yc, .slice A.ua g.us.length A.uc, .slice A.sa g.ss.length A.sc, .slice A.fa g.fs.length A.fc, .slice A.ra g.es.length A.rc, .int .i64 g.nx, .slice A.la g.fl.length A.lc, .slice A.ca g.co.length A.cc, .int .i64 g.nw, .int .i64 g.dr, .int .i64 g.sn] 37))) := ⟨al.os, al.tape, al.output, al.size, fun k hk => al.block k hk.1⟩
  have O0 : Hid (OwnGt (w.alloc (.cells #[.int .i64 g.ip, .int .i64 g.b, .int .i64 g.gt, .string g.gm, .string g.wm, .int .i64 g.rs, .slice A.x g.ps.length A.xc, .slice A.y g.ros.length A.yc, .slice A.ua g.us.length A.uc, .slice A.sa g.ss.length A.sc, .slice A.fa g.fs.length A.fc, .slice A.ra g.es.length A.rc, .int .i64 g.nx, .slice A.la g.fl.length A.lc, .slice A.ca g.co.length A.cc, .int .i64 g.nw, .int .i64 g.dr, .int .i64 g.sn] 37)) B A g L) := h.now al
  have hlc : ∀ k, cfBk (.slice A.x g.ps.length A.xc) (.slice A.y g.ros.length A.yc) L k → k < w.heap.size := by
    rintro k (hk | hk)
    · exact (h.ps.lt k hk).2
    · exact (h.rs.lt k hk).2
  have hlu : ∀ k, guBk A g k → k < w.heap.size := by
    rintro k (hk | hk | hk | hk)
    · exact (h.gu.u.lt k hk).2
    · exact (h.gu.s.lt k hk).2
    · exact (h.gu.f.lt k hk).2
    · exact (h.gu.r.lt k hk).2
  have hll : ∀ k, Value.ownBlock (.slice A.la g.fl.length A.lc) = some k → k < w.heap.size := fun k hk => (h.fl.lt k hk).2
  have hlo : ∀ k, Value.ownBlock (.slice A.ca g.co.length A.cc) = some k → k < w.heap.size := fun k hk => (h.co.lt k hk).2
  have NB : Hid (¬ cfBk (.slice A.x g.ps.length A.xc) (.slice A.y g.ros.length A.yc) L w.heap.size ∧ ¬ guBk A g w.heap.size ∧ Value.ownBlock (.slice A.la g.fl.length A.lc) ≠ some w.heap.size ∧ Value.ownBlock (.slice A.ca g.co.length A.cc) ≠ some w.heap.size) :=
    ⟨fun e => Nat.lt_irrefl _ (hlc _ e), fun e => Nat.lt_irrefl _ (hlu _ e), fun e => Nat.lt_irrefl _ (hll _ e), fun e => Nat.lt_irrefl _ (hlo _ e)⟩
  have au : Hid (∀ k, guBk A g k → ¬ cfBk (.slice A.x g.ps.length A.xc) (.slice A.y g.ros.length A.yc) L k) := by
    rintro k (hk | hk | hk | hk)
    · exact cf_apart h.gu.u h.ps h.rs (by decide) (by decide) (by decide) k hk
    · exact cf_apart h.gu.s h.ps h.rs (by decide) (by decide) (by decide) k hk
    · exact cf_apart h.gu.f h.ps h.rs (by decide) (by decide) (by decide) k hk
    · exact cf_apart h.gu.r h.ps h.rs (by decide) (by decide) (by decide) k hk
  have alc : Hid (∀ k, Value.ownBlock (.slice A.la g.fl.length A.lc) = some k → ¬ cfBk (.slice A.x g.ps.length A.xc) (.slice A.y g.ros.length A.yc) L k ∧ ¬ guBk A g k ∧ Value.ownBlock (.slice A.ca g.co.length A.cc) ≠ some k) := fun k hk =>
    ⟨cf_apart h.fl h.ps h.rs (by decide) (by decide) (by decide) k hk, gu_apart h.fl h.gu (by decide) (by decide) (by decide) (by decide) k hk, apB_of h.fl h.co (by decide) k hk⟩
  have aoc : Hid (∀ k, Value.ownBlock (.slice A.ca g.co.length A.cc) = some k → ¬ cfBk (.slice A.x g.ps.length A.xc) (.slice A.y g.ros.length A.yc) L k ∧ ¬ guBk A g k ∧ Value.ownBlock (.slice A.la g.fl.length A.lc) ≠ some k) := fun k hk =>
    ⟨cf_apart h.co h.ps h.rs (by decide) (by decide) (by decide) k hk, gu_apart h.co h.gu (by decide) (by decide) (by decide) (by decide) k hk, apB_of h.co h.fl (by decide) k hk⟩
  have hm1 : gtN1 m0 g L + 6 * g.us.length + 10 * g.ss.length + 3 * g.fs.length + 5 * g.es.length + 9 * g.fl.length + 11 * g.co.length ≤ 100000000000 := hm
  have hm2 : gtN1 m0 g L = m0 + 4 * g.ps.length + roN L := rfl
  have HC : Hid (Calls Tryd.prog 18 #[.agg #[.int .i64 g.ip, .int .i64 g.b, .int .i64 g.gt, .string g.gm, .string g.wm, .int .i64 g.rs, .slice A.x g.ps.length A.xc, .slice A.y g.ros.length A.yc], .int .i64 (m0 : Int)] (w.alloc (.cells #[.int .i64 g.ip, .int .i64 g.b, .int .i64 g.gt, .string g.gm, .string g.wm, .int .i64 g.rs, .slice A.x g.ps.length A.xc, .slice A.y g.ros.length A.yc, .slice A.ua g.us.length A.uc, .slice A.sa g.ss.length A.sc, .slice A.fa g.fs.length A.fc, .slice A.ra g.es.length A.rc, .int .i64 g.nx, .slice A.la g.fl.length A.lc, .slice A.ca g.co.length A.cc, .int .i64 g.nw, .int .i64 g.dr, .int .i64 g.sn] 37)) fun e w' => e = .returned (.int .i64 ((gtN1 m0 g L : Nat) : Int)) ∧ OwnS pv 4 62 w' B (.slice A.x g.ps.length A.xc) (mkPlaceL m0 g.ps.length) ∧ OwnRo w' B (.slice A.y g.ros.length A.yc) (mkRoL (m0 + 4 * g.ps.length) L) ∧ Rel.Keep (fun k => k < (w.alloc (.cells #[.int .i64 g.ip, .int .i64 g.b, .int .i64 g.gt, .string g.gm, .string g.wm, .int .i64 g.rs, .slice A.x g.ps.length A.xc, .slice A.y g.ros.length A.yc, .slice A.ua g.us.length A.uc, .slice A.sa g.ss.length A.sc, .slice A.fa g.fs.length A.fc, .slice A.ra g.es.length A.rc, .int .i64 g.nx, .slice A.la g.fl.length A.lc, .slice A.ca g.co.length A.cc, .int .i64 g.nw, .int .i64 g.dr, .int .i64 g.sn] 37)).heap.size ∧ ¬ cfBk (.slice A.x g.ps.length A.xc) (.slice A.y g.ros.length A.yc) L k) (w.alloc (.cells #[.int .i64 g.ip, .int .i64 g.b, .int .i64 g.gt, .string g.gm, .string g.wm, .int .i64 g.rs, .slice A.x g.ps.length A.xc, .slice A.y g.ros.length A.yc, .slice A.ua g.us.length A.uc, .slice A.sa g.ss.length A.sc, .slice A.fa g.fs.length A.fc, .slice A.ra g.es.length A.rc, .int .i64 g.nx, .slice A.la g.fl.length A.lc, .slice A.ca g.co.length A.cc, .int .i64 g.nw, .int .i64 g.dr, .int .i64 g.sn] 37)) w') := markConfig_any g.ip g.b g.gt g.gm g.wm g.rs A.x A.y g.ps.length A.xc g.ros.length A.yc g.ps L B m0 _ O0.out.ps O0.out.rs h0 (by omega) hy
  have HU : Hid (∀ W, Own4 W B (.slice A.ua g.us.length A.uc) (.slice A.sa g.ss.length A.sc) (.slice A.fa g.fs.length A.fc) (.slice A.ra g.es.length A.rc) g.us g.ss g.fs g.es → Calls Tryd.prog 19 #[.agg #[.slice A.ua g.us.length A.uc, .slice A.sa g.ss.length A.sc, .slice A.fa g.fs.length A.fc, .slice A.ra g.es.length A.rc, .int .i64 g.nx], .int .i64 ((gtN1 m0 g L : Nat) : Int)] W fun e w' => e = .returned (.int .i64 ((gtN2 m0 g L : Nat) : Int)) ∧ Own4 w' B (.slice A.ua g.us.length A.uc) (.slice A.sa g.ss.length A.sc) (.slice A.fa g.fs.length A.fc) (.slice A.ra g.es.length A.rc) (mkUserL (gtN1 m0 g L) g.us.length) (mkSessionL (gtN1 m0 g L + 6 * g.us.length) g.ss.length) (mkFailL (gtN1 m0 g L + 6 * g.us.length + 10 * g.ss.length) g.fs.length) (mkRecordL (gtN1 m0 g L + 6 * g.us.length + 10 * g.ss.length + 3 * g.fs.length) g.es.length) ∧ Rel.Keep (fun k => k < W.heap.size ∧ ¬ guBk A g k) W w') := fun W hW => (markGuests_any A.ua A.sa A.fa A.ra g.us.length A.uc g.ss.length A.sc g.fs.length A.fc g.es.length A.rc g.us g.ss g.fs g.es g.nx (gtN1 m0 g L) B W hW (by omega) (by omega)).mono fun e w' h => ⟨h.1, h.2.1, h.2.2.mono fun k hk => ⟨hk.1, fun e => hk.2 (.inl e), fun e => hk.2 (.inr (.inl e)), fun e => hk.2 (.inr (.inr (.inl e))), fun e => hk.2 (.inr (.inr (.inr e)))⟩⟩
  have HF : Hid (∀ W, OwnS wvG 9 82 W B (.slice A.la g.fl.length A.lc) g.fl → Calls Tryd.prog 20 #[(.slice A.la g.fl.length A.lc), .int .i64 ((gtN2 m0 g L : Nat) : Int)] W fun e w' => e = .returned (.int .i64 ((gtN3 m0 g L : Nat) : Int)) ∧ OwnS wvG 9 82 w' B (.slice A.la g.fl.length A.lc) (mkFlowL (gtN2 m0 g L) g.fl.length) ∧ W.grownBy w' (Value.ownBlock (.slice A.la g.fl.length A.lc))) := fun W hW => markFlowS_any A.la g.fl.length A.lc B (gtN2 m0 g L) g.fl W hW (by unfold gtN2; omega) (by unfold gtN2; omega)
  have HN : Hid (∀ W, OwnS cnG 11 85 W B (.slice A.ca g.co.length A.cc) g.co → Calls Tryd.prog 21 #[(.slice A.ca g.co.length A.cc), .int .i64 ((gtN3 m0 g L : Nat) : Int)] W fun e w' => e = .returned (.int .i64 ((gtN4 m0 g L : Nat) : Int)) ∧ OwnS cnG 11 85 w' B (.slice A.ca g.co.length A.cc) (mkConnL (gtN3 m0 g L) g.co.length) ∧ W.grownBy w' (Value.ownBlock (.slice A.ca g.co.length A.cc))) := fun W hW => markConnS_any A.ca g.co.length A.cc B (gtN3 m0 g L) g.co W hW (by unfold gtN3 gtN2; omega) (by unfold gtN3 gtN2; omega)
  obtain ⟨n1, hn1⟩ : ∃ n1, ((gtN1 m0 g L : Nat) : Int) = n1 := ⟨_, rfl⟩
  obtain ⟨n2, hn2⟩ : ∃ n2, ((gtN2 m0 g L : Nat) : Int) = n2 := ⟨_, rfl⟩
  obtain ⟨n3, hn3⟩ : ∃ n3, ((gtN3 m0 g L : Nat) : Int) = n3 := ⟨_, rfl⟩
  obtain ⟨n4, hn4⟩ : ∃ n4, ((gtN4 m0 g L : Nat) : Int) = n4 := ⟨_, rfl⟩
  rw [hn1] at HC HU
  rw [hn2] at HU HF
  rw [hn3] at HF HN
  rw [hn4] at HN ⊢
  have HLC : Hid ((∀ k, cfBk (.slice A.x g.ps.length A.xc) (.slice A.y g.ros.length A.yc) L k → k < w.heap.size) ∧ (∀ k, guBk A g k → k < w.heap.size) ∧ (∀ k, Value.ownBlock (.slice A.la g.fl.length A.lc) = some k → k < w.heap.size) ∧ (∀ k, Value.ownBlock (.slice A.ca g.co.length A.cc) = some k → k < w.heap.size)) := ⟨hlc, hlu, hll, hlo⟩
  clear hn1 hn2 hn3 hn4 h h0 hm hy hm1 hm2 hlc hlu hll hlo al
  go_enter Tryd.func7, Tryd.ntmps7
  go_wp2_with (first | (refine wpl_getO 27 rfl _ rfl w.heap.size 0 [.int .i64 g.ip, .int .i64 g.b, .int .i64 g.gt, .string g.gm, .string g.wm, .int .i64 g.rs, .slice A.x g.ps.length A.xc, .slice A.y g.ros.length A.yc] rfl B0.out rfl _ Tryd.underlying27 rfl rfl ?_) | (refine wpl_getO 33 rfl _ rfl w.heap.size 8 [.slice A.ua g.us.length A.uc, .slice A.sa g.ss.length A.sc, .slice A.fa g.fs.length A.fc, .slice A.ra g.es.length A.rc, .int .i64 g.nx] rfl B0.out rfl _ Tryd.underlying33 rfl rfl ?_) | fail)
  refine HC.out.mono ?_
  rintro e w1 ⟨rfl, p1, r1, k1⟩
  have A1 : Hid (w.heap.size < w1.heap.size) := Nat.lt_of_lt_of_le A0.out k1.size
  have B1 : Hid (Bx w1 w.heap.size [.int .i64 g.ip, .int .i64 g.b, .int .i64 g.gt, .string g.gm, .string g.wm, .int .i64 g.rs, .slice A.x g.ps.length A.xc, .slice A.y g.ros.length A.yc, .slice A.ua g.us.length A.uc, .slice A.sa g.ss.length A.sc, .slice A.fa g.fs.length A.fc, .slice A.ra g.es.length A.rc, .int .i64 g.nx, .slice A.la g.fl.length A.lc, .slice A.ca g.co.length A.cc, .int .i64 g.nw, .int .i64 g.dr, .int .i64 g.sn]) := bx_keep B0.out k1 ⟨A0.out, NB.out.1⟩
  have K1 : Hid (Rel.Keep (fun k => k < w.heap.size ∧ ¬ gtBk A g L k) w w1) := K0.out.trans (k1.mono fun k hk => ⟨Nat.lt_trans hk.1 A0.out, fun e => hk.2 (.inl e)⟩)
  have P1 : Hid (OwnS pv 4 62 w1 B (.slice A.x g.ps.length A.xc) (mkPlaceL m0 g.ps.length) ∧ OwnRo w1 B (.slice A.y g.ros.length A.yc) (mkRoL (m0 + 4 * g.ps.length) L)) := ⟨p1, r1⟩
  have G1 : Hid (Own4 w1 B (.slice A.ua g.us.length A.uc) (.slice A.sa g.ss.length A.sc) (.slice A.fa g.fs.length A.fc) (.slice A.ra g.es.length A.rc) g.us g.ss g.fs g.es) := own4_keep O0.out.gu k1 (fun k e => ⟨Nat.lt_trans (HLC.out.2.1 k (.inl e)) A0.out, au.out k (.inl e)⟩) (fun k e => ⟨Nat.lt_trans (HLC.out.2.1 k (.inr (.inl e))) A0.out, au.out k (.inr (.inl e))⟩) (fun k e => ⟨Nat.lt_trans (HLC.out.2.1 k (.inr (.inr (.inl e)))) A0.out, au.out k (.inr (.inr (.inl e)))⟩) (fun k e => ⟨Nat.lt_trans (HLC.out.2.1 k (.inr (.inr (.inr e)))) A0.out, au.out k (.inr (.inr (.inr e)))⟩)
  have F1 : Hid (OwnS wvG 9 82 w1 B (.slice A.la g.fl.length A.lc) g.fl) := own_keep O0.out.fl k1 (fun k e => ⟨Nat.lt_trans (HLC.out.2.2.1 k e) A0.out, (alc.out k e).1⟩)
  have C1 : Hid (OwnS cnG 11 85 w1 B (.slice A.ca g.co.length A.cc) g.co) := own_keep O0.out.co k1 (fun k e => ⟨Nat.lt_trans (HLC.out.2.2.2 k e) A0.out, (aoc.out k e).1⟩)
  clear HC p1 r1 k1 B0 K0 O0 A0
  go_wp2_with (first | (refine wpl_getO 27 rfl _ rfl w.heap.size 0 [.int .i64 g.ip, .int .i64 g.b, .int .i64 g.gt, .string g.gm, .string g.wm, .int .i64 g.rs, .slice A.x g.ps.length A.xc, .slice A.y g.ros.length A.yc] rfl B1.out rfl _ Tryd.underlying27 rfl rfl ?_) | (refine wpl_getO 33 rfl _ rfl w.heap.size 8 [.slice A.ua g.us.length A.uc, .slice A.sa g.ss.length A.sc, .slice A.fa g.fs.length A.fc, .slice A.ra g.es.length A.rc, .int .i64 g.nx] rfl B1.out rfl _ Tryd.underlying33 rfl rfl ?_) | fail)
  refine (HU.out _ G1.out).mono ?_
  rintro e w2 ⟨rfl, g2, k2⟩
  have A2 : Hid (w.heap.size < w2.heap.size) := Nat.lt_of_lt_of_le A1.out k2.size
  have B2 : Hid (Bx w2 w.heap.size [.int .i64 g.ip, .int .i64 g.b, .int .i64 g.gt, .string g.gm, .string g.wm, .int .i64 g.rs, .slice A.x g.ps.length A.xc, .slice A.y g.ros.length A.yc, .slice A.ua g.us.length A.uc, .slice A.sa g.ss.length A.sc, .slice A.fa g.fs.length A.fc, .slice A.ra g.es.length A.rc, .int .i64 g.nx, .slice A.la g.fl.length A.lc, .slice A.ca g.co.length A.cc, .int .i64 g.nw, .int .i64 g.dr, .int .i64 g.sn]) := bx_keep B1.out k2 ⟨A1.out, NB.out.2.1⟩
  have K2 : Hid (Rel.Keep (fun k => k < w.heap.size ∧ ¬ gtBk A g L k) w w2) := K1.out.trans (k2.mono fun k hk => ⟨Nat.lt_trans hk.1 A1.out, fun e => hk.2 (.inr (.inl e))⟩)
  have P2 : Hid (OwnS pv 4 62 w2 B (.slice A.x g.ps.length A.xc) (mkPlaceL m0 g.ps.length) ∧ OwnRo w2 B (.slice A.y g.ros.length A.yc) (mkRoL (m0 + 4 * g.ps.length) L)) := by
    have hcu : ∀ k, cfBk (.slice A.x g.ps.length A.xc) (.slice A.y g.ros.length A.yc) L k → k < w1.heap.size ∧ ¬ guBk A g k := fun k e => ⟨Nat.lt_trans (HLC.out.1 k e) A1.out, fun e' => au.out k e' e⟩
    refine ⟨own_keep P1.out.1 k2 (fun k e => hcu k (.inl e)), P1.out.2.keepB (fun k e => k2.block k (hcu k (.inr ?_)))⟩
    exact (roBk_mk (.slice A.y g.ros.length A.yc) L (m0 + 4 * g.ps.length) k).1 e
  have G2 : Hid (Own4 w2 B (.slice A.ua g.us.length A.uc) (.slice A.sa g.ss.length A.sc) (.slice A.fa g.fs.length A.fc) (.slice A.ra g.es.length A.rc) (mkUserL (gtN1 m0 g L) g.us.length) (mkSessionL (gtN1 m0 g L + 6 * g.us.length) g.ss.length) (mkFailL (gtN1 m0 g L + 6 * g.us.length + 10 * g.ss.length) g.fs.length) (mkRecordL (gtN1 m0 g L + 6 * g.us.length + 10 * g.ss.length + 3 * g.fs.length) g.es.length)) := g2
  have F2 : Hid (OwnS wvG 9 82 w2 B (.slice A.la g.fl.length A.lc) g.fl) := own_keep F1.out k2 (fun k e => ⟨Nat.lt_trans (HLC.out.2.2.1 k e) A1.out, (alc.out k e).2.1⟩)
  have C2 : Hid (OwnS cnG 11 85 w2 B (.slice A.ca g.co.length A.cc) g.co) := own_keep C1.out k2 (fun k e => ⟨Nat.lt_trans (HLC.out.2.2.2 k e) A1.out, (aoc.out k e).2.1⟩)
  clear HU g2 k2 B1 K1 A1 P1 G1 F1 C1
  have c13 : w2.cell? ⟨w.heap.size, 13, none⟩ = some (.slice A.la g.fl.length A.lc) := B2.out.cell 13 rfl
  go_wp2_with fail
  refine (HF.out _ F2.out).mono ?_
  rintro e w3 ⟨rfl, f3, g3⟩
  have k3 : Rel.Keep (fun k => k < w2.heap.size ∧ Value.ownBlock (.slice A.la g.fl.length A.lc) ≠ some k) w2 w3 := ⟨g3.os, g3.tape, g3.output, g3.size, fun k hk => g3.block k hk.1 (fun e => hk.2 e.symm)⟩
  have A3 : Hid (w.heap.size < w3.heap.size) := Nat.lt_of_lt_of_le A2.out k3.size
  have B3 : Hid (Bx w3 w.heap.size [.int .i64 g.ip, .int .i64 g.b, .int .i64 g.gt, .string g.gm, .string g.wm, .int .i64 g.rs, .slice A.x g.ps.length A.xc, .slice A.y g.ros.length A.yc, .slice A.ua g.us.length A.uc, .slice A.sa g.ss.length A.sc, .slice A.fa g.fs.length A.fc, .slice A.ra g.es.length A.rc, .int .i64 g.nx, .slice A.la g.fl.length A.lc, .slice A.ca g.co.length A.cc, .int .i64 g.nw, .int .i64 g.dr, .int .i64 g.sn]) := bx_keep B2.out k3 ⟨A2.out, NB.out.2.2.1⟩
  have K3 : Hid (Rel.Keep (fun k => k < w.heap.size ∧ ¬ gtBk A g L k) w w3) := K2.out.trans (k3.mono fun k hk => ⟨Nat.lt_trans hk.1 A2.out, fun e => hk.2 (.inr (.inr (.inl e)))⟩)
  have P3 : Hid (OwnS pv 4 62 w3 B (.slice A.x g.ps.length A.xc) (mkPlaceL m0 g.ps.length) ∧ OwnRo w3 B (.slice A.y g.ros.length A.yc) (mkRoL (m0 + 4 * g.ps.length) L)) := by
    have hcu : ∀ k, cfBk (.slice A.x g.ps.length A.xc) (.slice A.y g.ros.length A.yc) L k → k < w2.heap.size ∧ Value.ownBlock (.slice A.la g.fl.length A.lc) ≠ some k := fun k e => ⟨Nat.lt_trans (HLC.out.1 k e) A2.out, fun e' => (alc.out k e').1 e⟩
    refine ⟨own_keep P2.out.1 k3 (fun k e => hcu k (.inl e)), P2.out.2.keepB (fun k e => k3.block k (hcu k (.inr ?_)))⟩
    exact (roBk_mk (.slice A.y g.ros.length A.yc) L (m0 + 4 * g.ps.length) k).1 e
  have G3 : Hid (Own4 w3 B (.slice A.ua g.us.length A.uc) (.slice A.sa g.ss.length A.sc) (.slice A.fa g.fs.length A.fc) (.slice A.ra g.es.length A.rc) (mkUserL (gtN1 m0 g L) g.us.length) (mkSessionL (gtN1 m0 g L + 6 * g.us.length) g.ss.length) (mkFailL (gtN1 m0 g L + 6 * g.us.length + 10 * g.ss.length) g.fs.length) (mkRecordL (gtN1 m0 g L + 6 * g.us.length + 10 * g.ss.length + 3 * g.fs.length) g.es.length)) := by
    have hcu : ∀ k, guBk A g k → k < w2.heap.size ∧ Value.ownBlock (.slice A.la g.fl.length A.lc) ≠ some k := fun k e => ⟨Nat.lt_trans (HLC.out.2.1 k e) A2.out, fun e' => (alc.out k e').2.1 e⟩
    exact own4_keep G2.out k3 (fun k e => hcu k (.inl e)) (fun k e => hcu k (.inr (.inl e))) (fun k e => hcu k (.inr (.inr (.inl e)))) (fun k e => hcu k (.inr (.inr (.inr e))))
  have F3 : Hid (OwnS wvG 9 82 w3 B (.slice A.la g.fl.length A.lc) (mkFlowL (gtN2 m0 g L) g.fl.length)) := f3
  have C3 : Hid (OwnS cnG 11 85 w3 B (.slice A.ca g.co.length A.cc) g.co) := own_keep C2.out k3 (fun k e => ⟨Nat.lt_trans (HLC.out.2.2.2 k e) A2.out, (aoc.out k e).2.2⟩)
  clear HF f3 g3 k3 B2 K2 A2 P2 G2 F2 C2 c13
  have c14 : w3.cell? ⟨w.heap.size, 14, none⟩ = some (.slice A.ca g.co.length A.cc) := B3.out.cell 14 rfl
  go_wp2_with fail
  refine (HN.out _ C3.out).mono ?_
  rintro e w4 ⟨rfl, f4, g4⟩
  have k4 : Rel.Keep (fun k => k < w3.heap.size ∧ Value.ownBlock (.slice A.ca g.co.length A.cc) ≠ some k) w3 w4 := ⟨g4.os, g4.tape, g4.output, g4.size, fun k hk => g4.block k hk.1 (fun e => hk.2 e.symm)⟩
  have FIN : Hid (MkdGt w4 B A g L m0 ∧ Rel.Keep (fun k => k < w.heap.size ∧ ¬ gtBk A g L k) w w4) := by
    have hcu : ∀ k, cfBk (.slice A.x g.ps.length A.xc) (.slice A.y g.ros.length A.yc) L k → k < w3.heap.size ∧ Value.ownBlock (.slice A.ca g.co.length A.cc) ≠ some k := fun k e => ⟨Nat.lt_trans (HLC.out.1 k e) A3.out, fun e' => (aoc.out k e').1 e⟩
    have hgu : ∀ k, guBk A g k → k < w3.heap.size ∧ Value.ownBlock (.slice A.ca g.co.length A.cc) ≠ some k := fun k e => ⟨Nat.lt_trans (HLC.out.2.1 k e) A3.out, fun e' => (aoc.out k e').2.1 e⟩
    refine ⟨⟨own_keep P3.out.1 k4 (fun k e => hcu k (.inl e)), P3.out.2.keepB (fun k e => k4.block k (hcu k (.inr ((roBk_mk (.slice A.y g.ros.length A.yc) L (m0 + 4 * g.ps.length) k).1 e)))), own4_keep G3.out k4 (fun k e => hgu k (.inl e)) (fun k e => hgu k (.inr (.inl e))) (fun k e => hgu k (.inr (.inr (.inl e)))) (fun k e => hgu k (.inr (.inr (.inr e)))), own_keep F3.out k4 (fun k e => ⟨Nat.lt_trans (HLC.out.2.2.1 k e) A3.out, (alc.out k e).2.2⟩), f4⟩, K3.out.trans (k4.mono fun k hk => ⟨Nat.lt_trans hk.1 A3.out, fun e => hk.2 (.inr (.inr (.inr e)))⟩)⟩
  clear HN f4 g4 k4 B3 K3 A3 P3 G3 F3 C3 c14
  go_wp2
  go_ret
  exact ⟨rfl, FIN.out⟩
end Go.Proofs.YtbeehlhcckndcaaDoor

namespace Go.Proofs.YtbeehlhcckndcaaDoor
open Go.RowKit Go.PlainAid Go.Proofs.YtbeehlhcckndcaaDoor.Bt Go.Sort
set_option linter.unusedVariables false
set_option maxRecDepth 20000
set_option maxHeartbeats 4000000 in
theorem heldRoleS_any (a : Option Addr) (n cap B m0 : Nat) (L : List RoX) (w : World) (h : OwnRo w B (.slice a n cap) (mkRoL m0 L)) (h0 : 0 < m0) (hm : m0 + roN L ≤ 100000000000) (hn9 : n ≤ 1048576) :
    Calls Tryd.prog 49 #[.slice a n cap, .int .i64 (m0 : Int)] w fun e w' => e = .returned (.int .i64 ((m0 + roN L : Nat) : Int)) ∧ Grw w w' := by
  have H : Hid (OwnRo w B (.slice a n cap) (mkRoL m0 L)) := h
  have hn : L.length = n := by have := h.row.len; rwa [mkRoL_len] at this
  clear h
  have hmix : Tryd.prog.follows .mixedOrders = true := by kernel_rfl
  go_enter Tryd.func49, Tryd.ntmps49
  go_wp2
  go_loopw [1, 5] (fun m i wr => ∃ k M : Nat, k ≤ n ∧ i = .int .i64 k ∧ m = .int .i64 (M : Int) ∧ Hid (M = m0 + roN (L.take k)) ∧ Hid (Grw w wr)) (fun _ i _ => n - (intOf i).toNat)
  case atStart => exact ⟨0, m0, Nat.zero_le _, rfl, rfl, by show m0 = _; simp [roN], Grw.refl w⟩
  case round =>
    obtain ⟨k, M, hk, rfl, rfl, hM, HG⟩ := hrel
    by_cases hlt : k < n
    · have hkl : k < L.length := by omega
      obtain ⟨x, hxL⟩ := at_of (xs := L) rfl hkl
      have hx := mkRoL_at (M := m0) hxL
      rw [← hM.out] at hx
      have O := H.out.now HG.out.below
      obtain ⟨g, rfl, hBg, hg, -⟩ := O.row.form (by rw [mkRoL_len]; omega)
      have hltz : (k : Int) < (n : Int) := by omega
      have hle := roN_le L (k + 1)
      have hst := roN_step hxL
      have hMz : (M : Int) + 6 * (x.r.rs.length : Int) + 4 ≤ 200000000000 := by have := hM.out; omega
      have hMn : M + 1 + 6 * x.r.rs.length ≤ 100000000000 := by have := hM.out; omega
      have hM0 : 0 < M := by have := hM.out; omega
      have HMN : Hid (M + (4 + 6 * x.r.rs.length) = m0 + roN (L.take (k + 1))) := by show _ = _; rw [hst, hM.out]; omega
      have hK0 : (0 : Int) ≤ 6 * (x.r.rs.length : Int) := by omega
      have OR : Hid (OwnS rv 6 64 wr B (.slice x.ra x.r.rs.length x.rc) (mkRuleL (M + 1) x.r.rs.length)) := by
        have := O.rules _ (List.mem_of_getElem? hx)
        rw [mkRo_sl] at this
        exact this
      obtain ⟨q0, -⟩ := O.row.cell roG_len (j := 0) hx rfl
      obtain ⟨q1, -⟩ := O.row.cell roG_len (j := 1) hx rfl
      obtain ⟨q2, -⟩ := O.row.cell roG_len (j := 2) hx rfl
      obtain ⟨q3, -⟩ := O.row.cell roG_len (j := 3) hx rfl
      obtain ⟨q4, -⟩ := O.row.cell roG_len (j := 4) hx rfl
      clear hle hst hxL O hx
      obtain ⟨K1, hK1⟩ : ∃ K1, (M : Int) + 1 + 6 * (x.r.rs.length : Int) = K1 := ⟨_, rfl⟩
      have hK1z : K1 ≤ 300000000000 := by omega
      have hK10 : 0 ≤ K1 := by omega
      have HK1 : Hid ((M : Int) + 1 + 6 * (x.r.rs.length : Int) = K1) := hK1
      replace q0 : wr.cell? ⟨g, k * 5, none⟩ = some (.string (mtS M)) := q0
      replace q1 : wr.cell? ⟨g, k * 5 + 1, none⟩ = some (.slice x.ra x.r.rs.length x.rc) := by rw [q1]; show some (Value.slice x.ra (mkRuleL (M + 1) x.r.rs.length).length x.rc) = _; rw [mkRuleL_len]
      replace q2 : wr.cell? ⟨g, k * 5 + 2, none⟩ = some (.int .i64 K1) := by rw [q2, ← hK1]; rfl
      replace q3 : wr.cell? ⟨g, k * 5 + 3, none⟩ = some (.int .i64 (K1 + 1)) := by rw [q3, ← hK1]; rfl
      replace q4 : wr.cell? ⟨g, k * 5 + 4, none⟩ = some (.int .i64 (K1 + 1 + 1)) := by rw [q4, ← hK1]; rfl
      have HM0 : Hid (∀ w, Calls Tryd.prog 47 #[.int .i64 (M : Int)] w fun e w' => e = .returned (.string (mtS M)) ∧ Grw w w') := fun w => markText_any M w (by omega) (by omega)
      have HR : Hid (∀ W, Grw wr W → Calls Tryd.prog 66 #[.slice x.ra x.r.rs.length x.rc, .int .i64 ((M : Int) + 1)] W fun e w' => e = .returned (.int .i64 K1) ∧ Grw W w') := by
        intro W hW
        have o := (OR.out.now hW.below).rw (ok := RuRok) rv_len (mkRuleL_ok _ _ (by omega))
        have := heldRuleS_any x.ra x.r.rs.length x.rc (M + 1) W o (by omega) (by omega)
        rw [show ((M + 1 : Nat) : Int) = (M : Int) + 1 by omega, show ((M + 1 + 6 * x.r.rs.length : Nat) : Int) = K1 by omega] at this
        exact this
      have hMz2 : (M : Int) ≤ 200000000000 := by omega
      clear hK1 hMz hMn hK0
      generalize mtS M = T0 at *
      have t0 : (T0.toList == T0.toList) = true := by simp
      have e2 : (K1 != K1) = false := by simp
      have e3 : ((K1 + 1) != (K1 + 1)) = false := by simp
      have e4 : ((K1 + 1 + 1) != (K1 + 1 + 1)) = false := by simp
      have y0 : ∀ n os, (grow (wr.drewN n) os).cell? ⟨g, k * 5, none⟩ = some (.string T0) := fun n os => bkeep (Grw.below ⟨n, os, rfl⟩) q0
      go_wp2_with fail
      refine wp_region_quiet_grown (by assumption) (by kernel_rfl) ?_
      repeat (go_big_quiet_step (first | fail | (go_at_call 47; exact Calls.grown_of (HM0.out _))))
      refine wpQuiet_nil ?_
      intro _ hw'
      obtain ⟨⟨nq, osq⟩, hw''⟩ := hw'
      subst hw''
      have HG0 : Hid (Grw wr (grow (wr.drewN nq) osq)) := ⟨nq, osq, rfl⟩
      replace q1 := bkeep HG0.out.below q1
      replace q2 := bkeep HG0.out.below q2
      replace q3 := bkeep HG0.out.below q3
      replace q4 := bkeep HG0.out.below q4
      clear y0 q0 HM0
      generalize (grow (wr.drewN nq) osq) = wv0 at *
      go_wp2_with fail
      refine (HR.out _ HG0.out).mono ?_
      rintro e w2 ⟨rfl, g2⟩
      have HG2 : Hid (Grw w w2) := (HG.out.trans HG0.out).trans g2
      replace q2 := bkeep g2.below q2
      replace q3 := bkeep g2.below q3
      replace q4 := bkeep g2.below q4
      clear HR OR HG HG0 g2 q1
      go_wp2
      go_roundw
      case rel => exact ⟨k + 1, M + (4 + 6 * x.r.rs.length), by omega, by go_num, by rw [show ((M + (4 + 6 * x.r.rs.length) : Nat) : Int) = K1 + 1 + 1 + 1 by have := HK1.out; omega], HMN, HG2⟩
      case measure => simp [intOf]; omega
    · obtain rfl : k = n := by omega
      have hM2 := hM.out
      rw [← hn, List.take_length] at hM2
      subst hM2
      go_wp2
      go_ret
      exact ⟨rfl, HG.out⟩
end Go.Proofs.YtbeehlhcckndcaaDoor

namespace Go.Proofs.YtbeehlhcckndcaaDoor
open Go.RowKit Go.PlainAid Go.Proofs.YtbeehlhcckndcaaDoor.Bt Go.Sort
set_option linter.unusedVariables false
set_option maxRecDepth 20000
set_option maxHeartbeats 4000000 in
theorem heldConfig_any (ip b gt : Int) (gm wm : ByteArray) (rs : Int) (x y : Option Addr) (lenx capx leny capy : Nat) (L : List RoX) (B m0 : Nat) (w : World) (h : OwnS pv 4 62 w B (.slice x lenx capx) (mkPlaceL m0 lenx)) (h2 : OwnRo w B (.slice y leny capy) (mkRoL (m0 + 4 * lenx) L)) (h0 : 0 < m0) (hm : m0 + 4 * lenx + roN L ≤ 100000000000) (hy : leny ≤ 1048576) :
    Calls Tryd.prog 22 #[.agg #[.int .i64 ip, .int .i64 b, .int .i64 gt, .string gm, .string wm, .int .i64 rs, .slice x lenx capx, .slice y leny capy], .int .i64 (m0 : Int)] w fun e w' => e = .returned (.int .i64 ((m0 + 4 * lenx + roN L : Nat) : Int)) ∧ Grw w w' := by
  have G0 : Bx (w.alloc (.cells #[.int .i64 ip, .int .i64 b, .int .i64 gt, .string gm, .string wm, .int .i64 rs, .slice x lenx capx, .slice y leny capy] 27)) w.heap.size [.int .i64 ip, .int .i64 b, .int .i64 gt, .string gm, .string wm, .int .i64 rs, .slice x lenx capx, .slice y leny capy] := Bx.new w #[.int .i64 ip, .int .i64 b, .int .i64 gt, .string gm, .string wm, .int .i64 rs, .slice x lenx capx, .slice y leny capy] 27
  have K0 : Hid (Grw w (w.alloc (.cells #[.int .i64 ip, .int .i64 b, .int .i64 gt, .string gm, .string wm, .int .i64 rs, .slice x lenx capx, .slice y leny capy] 27))) := (Grw.refl _).alloc _
  have c6 := G0.cell 6 rfl
  have H0 := heldPlaceS_any x lenx capx m0 _ ((h.now K0.out.below).rw (ok := PlRok) pv_len (mkPlaceL_ok _ _ (by omega))) h0 (by omega)
  have H1 : Hid (∀ W, Grw w W → Calls Tryd.prog 49 #[.slice y leny capy, .int .i64 ((m0 + 4 * lenx : Nat) : Int)] W fun e w' => e = .returned (.int .i64 ((m0 + 4 * lenx + roN L : Nat) : Int)) ∧ Grw W w') := fun W hW => heldRoleS_any y leny capy B (m0 + 4 * lenx) L W (h2.now hW.below) (by omega) (by omega) hy
  obtain ⟨n1, hn1⟩ : ∃ n1, ((m0 + 4 * lenx : Nat) : Int) = n1 := ⟨_, rfl⟩
  obtain ⟨n2, hn2⟩ : ∃ n2, ((m0 + 4 * lenx + roN L : Nat) : Int) = n2 := ⟨_, rfl⟩
  have e1 : decide (n1 < 0) = false := decide_eq_false (by omega)
  have e2 : decide (n2 < 0) = false := decide_eq_false (by omega)
  rw [hn1] at H0 H1
  rw [hn2] at H1 ⊢
  clear hn1 hn2 h h2 h0 hm
  go_enter Tryd.func22, Tryd.ntmps22
  go_wp2_with fail
  refine H0.mono ?_
  rintro e w1 ⟨rfl, g0⟩
  have K1 : Hid (Grw w w1) := K0.out.trans g0
  have c7 := (G0.below g0.below).cell 7 rfl
  clear H0 g0 G0 K0 c6
  go_wp2_with fail
  refine (H1.out _ K1.out).mono ?_
  rintro e w2 ⟨rfl, g1⟩
  have K2 : Hid (Grw w w2) := K1.out.trans g1
  clear H1 g1 K1 c7
  go_wp2
  go_ret
  exact ⟨rfl, K2.out⟩
end Go.Proofs.YtbeehlhcckndcaaDoor

namespace Go.Proofs.YtbeehlhcckndcaaDoor
open Go.RowKit Go.PlainAid Go.Proofs.YtbeehlhcckndcaaDoor.Bt Go.Sort
set_option linter.unusedVariables false
set_option maxRecDepth 20000
set_option maxHeartbeats 8000000 in
theorem heldGateway_any (A : GtA) (g : GtV) (L : List RoX) (B m0 : Nat) (w : World) (h : MkdGt w B A g L m0) (h0 : 0 < m0) (hm : gtN4 m0 g L ≤ 100000000000) (hy : g.ros.length ≤ 1048576) :
    Calls Tryd.prog 8 #[.agg #[.int .i64 g.ip, .int .i64 g.b, .int .i64 g.gt, .string g.gm, .string g.wm, .int .i64 g.rs, .slice A.x g.ps.length A.xc, .slice A.y g.ros.length A.yc, .slice A.ua g.us.length A.uc, .slice A.sa g.ss.length A.sc, .slice A.fa g.fs.length A.fc, .slice A.ra g.es.length A.rc, .int .i64 g.nx, .slice A.la g.fl.length A.lc, .slice A.ca g.co.length A.cc, .int .i64 g.nw, .int .i64 g.dr, .int .i64 g.sn], .int .i64 (m0 : Int)] w fun e w' => e = .returned (.int .i64 ((gtN4 m0 g L : Nat) : Int)) ∧ Grw w w' := by
  have B0 : Hid (Bx (w.alloc (.cells #[.int .i64 g.ip, .int .i64 g.b, .int .i64 g.gt, .string g.gm, .string g.wm, .int .i64 g.rs, .slice A.x g.ps.length A.xc, .slice A.y g.ros.length A.yc, .slice A.ua g.us.length A.uc, .slice A.sa g.ss.length A.sc, .slice A.fa g.fs.length A.fc, .slice A.ra g.es.length A.rc, .int .i64 g.nx, .slice A.la g.fl.length A.lc, .slice A.ca g.co.length A.cc, .int .i64 g.nw, .int .i64 g.dr, .int .i64 g.sn] 37)) w.heap.size [.int .i64 g.ip, .int .i64 g.b, .int .i64 g.gt, .string g.gm, .string g.wm, .int .i64 g.rs, .slice A.x g.ps.length A.xc, .slice A.y g.ros.length A.yc, .slice A.ua g.us.length A.uc, .slice A.sa g.ss.length A.sc, .slice A.fa g.fs.length A.fc, .slice A.ra g.es.length A.rc, .int .i64 g.nx, .slice A.la g.fl.length A.lc, .slice A.ca g.co.length A.cc, .int .i64 g.nw, .int .i64 g.dr, .int .i64 g.sn]) := Bx.new w #[.int .i64 g.ip, .int .i64 g.b, .int .i64 g.gt, .string g.gm, .string g.wm, .int .i64 g.rs, .slice A.x g.ps.length A.xc, .slice A.y g.ros.length A.yc, .slice A.ua g.us.length A.uc, .slice A.sa g.ss.length A.sc, .slice A.fa g.fs.length A.fc, .slice A.ra g.es.length A.rc, .int .i64 g.nx, .slice A.la g.fl.length A.lc, .slice A.ca g.co.length A.cc, .int .i64 g.nw, .int .i64 g.dr, .int .i64 g.sn] 37
  have K0 : Hid (Grw w (w.alloc (.cells #[.int .i64 g.ip, .int .i64 g.b, .int .i64 g.gt, .string g.gm, .string g.wm, .int .i64 g.rs, .slice A.x g.ps.length A.xc, .slice A.y g.ros.length A.yc, .slice A.ua g.us.length A.uc, .slice A.sa g.ss.length A.sc, .slice A.fa g.fs.length A.fc, .slice A.ra g.es.length A.rc, .int .i64 g.nx, .slice A.la g.fl.length A.lc, .slice A.ca g.co.length A.cc, .int .i64 g.nw, .int .i64 g.dr, .int .i64 g.sn] 37))) := (Grw.refl _).alloc _
  have hm1 : gtN1 m0 g L + 6 * g.us.length + 10 * g.ss.length + 3 * g.fs.length + 5 * g.es.length + 9 * g.fl.length + 11 * g.co.length ≤ 100000000000 := hm
  have hm2 : gtN1 m0 g L = m0 + 4 * g.ps.length + roN L := rfl
  have HC : Hid (∀ W, Grw w W → Calls Tryd.prog 22 #[.agg #[.int .i64 g.ip, .int .i64 g.b, .int .i64 g.gt, .string g.gm, .string g.wm, .int .i64 g.rs, .slice A.x g.ps.length A.xc, .slice A.y g.ros.length A.yc], .int .i64 (m0 : Int)] W fun e w' => e = .returned (.int .i64 ((gtN1 m0 g L : Nat) : Int)) ∧ Grw W w') := fun W hW => heldConfig_any g.ip g.b g.gt g.gm g.wm g.rs A.x A.y g.ps.length A.xc g.ros.length A.yc L B m0 W (h.ps.now hW.below) (h.rs.now hW.below) h0 (by omega) hy
  have HU : Hid (∀ W, Grw w W → Calls Tryd.prog 23 #[.agg #[.slice A.ua g.us.length A.uc, .slice A.sa g.ss.length A.sc, .slice A.fa g.fs.length A.fc, .slice A.ra g.es.length A.rc, .int .i64 g.nx], .int .i64 ((gtN1 m0 g L : Nat) : Int)] W fun e w' => e = .returned (.int .i64 ((gtN2 m0 g L : Nat) : Int)) ∧ Grw W w') := fun W hW => heldGuests_any A.ua A.sa A.fa A.ra g.us.length A.uc g.ss.length A.sc g.fs.length A.fc g.es.length A.rc g.nx (gtN1 m0 g L) W ((h.gu.u.now hW.below).rw (ok := UsRok) uvG_len (mkUserL_ok _ _ (by omega))) ((h.gu.s.now hW.below).rw (ok := SeRok) svG_len (mkSessionL_ok _ _ (by omega))) ((h.gu.f.now hW.below).rw (ok := FaRok) fvG_len (mkFailL_ok _ _ (by omega))) ((h.gu.r.now hW.below).rw (ok := ReRok) evG_len (mkRecordL_ok _ _ (by omega))) (by omega) (by omega)
  have HF : Hid (∀ W, Grw w W → Calls Tryd.prog 24 #[(.slice A.la g.fl.length A.lc), .int .i64 ((gtN2 m0 g L : Nat) : Int)] W fun e w' => e = .returned (.int .i64 ((gtN3 m0 g L : Nat) : Int)) ∧ Grw W w') := fun W hW => heldFlowS_any A.la g.fl.length A.lc (gtN2 m0 g L) W ((h.fl.now hW.below).rw (ok := FlRok) wvG_len (mkFlowL_ok _ _ (by unfold gtN2; omega))) (by unfold gtN2; omega) (by unfold gtN2; omega)
  have HN : Hid (∀ W, Grw w W → Calls Tryd.prog 25 #[(.slice A.ca g.co.length A.cc), .int .i64 ((gtN3 m0 g L : Nat) : Int)] W fun e w' => e = .returned (.int .i64 ((gtN4 m0 g L : Nat) : Int)) ∧ Grw W w') := fun W hW => heldConnS_any A.ca g.co.length A.cc (gtN3 m0 g L) W ((h.co.now hW.below).rw (ok := CnRok) cnG_len (mkConnL_ok _ _ (by unfold gtN3 gtN2; omega))) (by unfold gtN3 gtN2; omega) (by unfold gtN3 gtN2; omega)
  obtain ⟨n1, hn1⟩ : ∃ n1, ((gtN1 m0 g L : Nat) : Int) = n1 := ⟨_, rfl⟩
  obtain ⟨n2, hn2⟩ : ∃ n2, ((gtN2 m0 g L : Nat) : Int) = n2 := ⟨_, rfl⟩
  obtain ⟨n3, hn3⟩ : ∃ n3, ((gtN3 m0 g L : Nat) : Int) = n3 := ⟨_, rfl⟩
  obtain ⟨n4, hn4⟩ : ∃ n4, ((gtN4 m0 g L : Nat) : Int) = n4 := ⟨_, rfl⟩
  have e1 : decide (n1 < 0) = false := decide_eq_false (by omega)
  have e2 : decide (n2 < 0) = false := decide_eq_false (by omega)
  have e3 : decide (n3 < 0) = false := decide_eq_false (by omega)
  have e4 : decide (n4 < 0) = false := decide_eq_false (by omega)
  rw [hn1] at HC HU
  rw [hn2] at HU HF
  rw [hn3] at HF HN
  rw [hn4] at HN ⊢
  clear hn1 hn2 hn3 hn4 h h0 hm hy hm1 hm2
  go_enter Tryd.func8, Tryd.ntmps8
  go_wp2_with (first | (refine wpl_getO 27 rfl _ rfl w.heap.size 0 [.int .i64 g.ip, .int .i64 g.b, .int .i64 g.gt, .string g.gm, .string g.wm, .int .i64 g.rs, .slice A.x g.ps.length A.xc, .slice A.y g.ros.length A.yc] rfl B0.out rfl _ Tryd.underlying27 rfl rfl ?_) | (refine wpl_getO 33 rfl _ rfl w.heap.size 8 [.slice A.ua g.us.length A.uc, .slice A.sa g.ss.length A.sc, .slice A.fa g.fs.length A.fc, .slice A.ra g.es.length A.rc, .int .i64 g.nx] rfl B0.out rfl _ Tryd.underlying33 rfl rfl ?_) | fail)
  refine (HC.out _ K0.out).mono ?_
  rintro e w1 ⟨rfl, g0⟩
  have K1 : Hid (Grw w w1) := K0.out.trans g0
  have B1 : Hid (Bx w1 w.heap.size [.int .i64 g.ip, .int .i64 g.b, .int .i64 g.gt, .string g.gm, .string g.wm, .int .i64 g.rs, .slice A.x g.ps.length A.xc, .slice A.y g.ros.length A.yc, .slice A.ua g.us.length A.uc, .slice A.sa g.ss.length A.sc, .slice A.fa g.fs.length A.fc, .slice A.ra g.es.length A.rc, .int .i64 g.nx, .slice A.la g.fl.length A.lc, .slice A.ca g.co.length A.cc, .int .i64 g.nw, .int .i64 g.dr, .int .i64 g.sn]) := B0.out.below g0.below
  clear HC g0 B0 K0
  go_wp2_with (first | (refine wpl_getO 27 rfl _ rfl w.heap.size 0 [.int .i64 g.ip, .int .i64 g.b, .int .i64 g.gt, .string g.gm, .string g.wm, .int .i64 g.rs, .slice A.x g.ps.length A.xc, .slice A.y g.ros.length A.yc] rfl B1.out rfl _ Tryd.underlying27 rfl rfl ?_) | (refine wpl_getO 33 rfl _ rfl w.heap.size 8 [.slice A.ua g.us.length A.uc, .slice A.sa g.ss.length A.sc, .slice A.fa g.fs.length A.fc, .slice A.ra g.es.length A.rc, .int .i64 g.nx] rfl B1.out rfl _ Tryd.underlying33 rfl rfl ?_) | fail)
  refine (HU.out _ K1.out).mono ?_
  rintro e w2 ⟨rfl, g0⟩
  have K2 : Hid (Grw w w2) := K1.out.trans g0
  have B2 : Hid (Bx w2 w.heap.size [.int .i64 g.ip, .int .i64 g.b, .int .i64 g.gt, .string g.gm, .string g.wm, .int .i64 g.rs, .slice A.x g.ps.length A.xc, .slice A.y g.ros.length A.yc, .slice A.ua g.us.length A.uc, .slice A.sa g.ss.length A.sc, .slice A.fa g.fs.length A.fc, .slice A.ra g.es.length A.rc, .int .i64 g.nx, .slice A.la g.fl.length A.lc, .slice A.ca g.co.length A.cc, .int .i64 g.nw, .int .i64 g.dr, .int .i64 g.sn]) := B1.out.below g0.below
  clear HU g0 B1 K1
  have c13 : w2.cell? ⟨w.heap.size, 13, none⟩ = some (.slice A.la g.fl.length A.lc) := B2.out.cell 13 rfl
  go_wp2_with fail
  refine (HF.out _ K2.out).mono ?_
  rintro e w3 ⟨rfl, g0⟩
  have K3 : Hid (Grw w w3) := K2.out.trans g0
  have B3 : Hid (Bx w3 w.heap.size [.int .i64 g.ip, .int .i64 g.b, .int .i64 g.gt, .string g.gm, .string g.wm, .int .i64 g.rs, .slice A.x g.ps.length A.xc, .slice A.y g.ros.length A.yc, .slice A.ua g.us.length A.uc, .slice A.sa g.ss.length A.sc, .slice A.fa g.fs.length A.fc, .slice A.ra g.es.length A.rc, .int .i64 g.nx, .slice A.la g.fl.length A.lc, .slice A.ca g.co.length A.cc, .int .i64 g.nw, .int .i64 g.dr, .int .i64 g.sn]) := B2.out.below g0.below
  clear HF g0 B2 K2 c13
  have c14 : w3.cell? ⟨w.heap.size, 14, none⟩ = some (.slice A.ca g.co.length A.cc) := B3.out.cell 14 rfl
  go_wp2_with fail
  refine (HN.out _ K3.out).mono ?_
  rintro e w4 ⟨rfl, g0⟩
  have K4 : Hid (Grw w w4) := K3.out.trans g0
  clear HN g0 B3 K3 c14
  go_wp2
  go_ret
  exact ⟨rfl, K4.out⟩
end Go.Proofs.YtbeehlhcckndcaaDoor

namespace Go.Proofs.YtbeehlhcckndcaaDoor
open Go.RowKit Go.PlainAid Go.Proofs.YtbeehlhcckndcaaDoor.Bt Go.Sort
set_option linter.unusedVariables false
set_option maxRecDepth 20000

theorem OwnGt.keep {w w' : World} {B : Nat} {A : GtA} {g : GtV} {L : List RoX} (h : OwnGt w B A g L) (hk : ∀ b, gtBk A g L b → w'.heap[b]? = w.heap[b]?) : OwnGt w' B A g L :=
  ⟨h.ro, Rlw.own_loc h.ps (fun k e => hk k (.inl (.inl e))), h.rs.keepB (fun b hb => hk b (.inl (.inr hb))), ⟨Rlw.own_loc h.gu.u (fun k e => hk k (.inr (.inl (.inl e)))), Rlw.own_loc h.gu.s (fun k e => hk k (.inr (.inl (.inr (.inl e))))), Rlw.own_loc h.gu.f (fun k e => hk k (.inr (.inl (.inr (.inr (.inl e)))))), Rlw.own_loc h.gu.r (fun k e => hk k (.inr (.inl (.inr (.inr (.inr e)))))), h.gu.us_, h.gu.uf, h.gu.ur, h.gu.sf, h.gu.sr, h.gu.fr⟩, Rlw.own_loc h.fl (fun k e => hk k (.inr (.inr (.inl e)))), Rlw.own_loc h.co (fun k e => hk k (.inr (.inr (.inr e))))⟩
theorem OwnGt.uniq {w : World} {B B' : Nat} {A : GtA} {g : GtV} {L L' : List RoX} (h : OwnGt w B A g L) (h' : OwnGt w B' A g L') : L = L' := h.rs.uniq h'.rs (h.ro.trans h'.ro.symm)
theorem gt_eq (A A' : GtA) (g : GtV) (w : World) (h : GtR w A g) (h' : GtR w A' g) (hs : GtS g) :
    Calls Tryd.prog 6 #[.agg #[.int .i64 g.ip, .int .i64 g.b, .int .i64 g.gt, .string g.gm, .string g.wm, .int .i64 g.rs, .slice A.x g.ps.length A.xc, .slice A.y g.ros.length A.yc, .slice A.ua g.us.length A.uc, .slice A.sa g.ss.length A.sc, .slice A.fa g.fs.length A.fc, .slice A.ra g.es.length A.rc, .int .i64 g.nx, .slice A.la g.fl.length A.lc, .slice A.ca g.co.length A.cc, .int .i64 g.nw, .int .i64 g.dr, .int .i64 g.sn], .agg #[.int .i64 g.ip, .int .i64 g.b, .int .i64 g.gt, .string g.gm, .string g.wm, .int .i64 g.rs, .slice A'.x g.ps.length A'.xc, .slice A'.y g.ros.length A'.yc, .slice A'.ua g.us.length A'.uc, .slice A'.sa g.ss.length A'.sc, .slice A'.fa g.fs.length A'.fc, .slice A'.ra g.es.length A'.rc, .int .i64 g.nx, .slice A'.la g.fl.length A'.lc, .slice A'.ca g.co.length A'.cc, .int .i64 g.nw, .int .i64 g.dr, .int .i64 g.sn]] w fun e w' => e = .returned (.bool true) ∧ Below w.heap.size w w' :=
  (eqGateway_yes A A' g w h h' hs).mono fun e w' h => ⟨h.1, h.2.below⟩
theorem roN_bdG : ∀ (L : List RoX), (roN L : Int) ≤ 4 * L.length + 6 * szR (L.map (fun x => x.r))
  | [] => by simp [roN, szR]
  | x :: L => by
    have := roN_bdG L
    have n := szR_nonneg (L.map (fun x => x.r))
    rw [List.map_cons, szR_cons]
    simp only [roN, List.length_cons]
    omega
def gtN (g : GtV) (L : List RoX) : Nat := gtN4 0 g L
theorem gtN4_add (m0 : Nat) (g : GtV) (L : List RoX) : gtN4 m0 g L = m0 + gtN g L := by
  unfold gtN gtN4 gtN3 gtN2 gtN1
  omega
theorem gtN_bd {g : GtV} {L : List RoX} (hl : L.map (fun x => x.r) = g.ros) (hs : GtS g) : gtN g L ≤ 80000000 := by
  have h1 := roN_bdG L
  have h2 := hs.szt
  have h3 := hs.ps; have h4 := hs.ros; have h5 := hs.us; have h6 := hs.ss; have h7 := hs.fs; have h8 := hs.es; have h9 := hs.fl; have h10 := hs.co
  rw [hl] at h1
  have h11 : L.length = g.ros.length := by rw [← hl]; simp
  unfold gtN gtN4 gtN3 gtN2 gtN1
  omega
theorem gt_mark (A : GtA) (g : GtV) (L : List RoX) (B m0 : Nat) (w : World) (h : OwnGt w B A g L) (hs : GtS g) (h0 : 0 < m0) (h1 : m0 ≤ 1000000000) :
    Calls Tryd.prog 7 #[.agg #[.int .i64 g.ip, .int .i64 g.b, .int .i64 g.gt, .string g.gm, .string g.wm, .int .i64 g.rs, .slice A.x g.ps.length A.xc, .slice A.y g.ros.length A.yc, .slice A.ua g.us.length A.uc, .slice A.sa g.ss.length A.sc, .slice A.fa g.fs.length A.fc, .slice A.ra g.es.length A.rc, .int .i64 g.nx, .slice A.la g.fl.length A.lc, .slice A.ca g.co.length A.cc, .int .i64 g.nw, .int .i64 g.dr, .int .i64 g.sn], .int .i64 (m0 : Int)] w fun e w' => e = .returned (.int .i64 ((m0 + gtN g L : Nat) : Int)) ∧ MkdGt w' B A g L m0 ∧ Rel.Keep (fun k => k < w.heap.size ∧ ¬ gtBk A g L k) w w' := by
  have hb := gtN_bd h.ro hs
  have e := gtN4_add m0 g L
  refine (markGateway_any A g L B m0 w h h0 (by omega) hs.ros).mono ?_
  rintro e2 w' ⟨h1, h2, h3⟩
  exact ⟨by rw [h1, e], h2, h3⟩
theorem gt_held (A : GtA) (g : GtV) (L : List RoX) (B m0 : Nat) (w : World) (hl : L.map (fun x => x.r) = g.ros) (h : MkdGt w B A g L m0) (hs : GtS g) (h0 : 0 < m0) (h1 : m0 ≤ 1000000000) :
    Calls Tryd.prog 8 #[.agg #[.int .i64 g.ip, .int .i64 g.b, .int .i64 g.gt, .string g.gm, .string g.wm, .int .i64 g.rs, .slice A.x g.ps.length A.xc, .slice A.y g.ros.length A.yc, .slice A.ua g.us.length A.uc, .slice A.sa g.ss.length A.sc, .slice A.fa g.fs.length A.fc, .slice A.ra g.es.length A.rc, .int .i64 g.nx, .slice A.la g.fl.length A.lc, .slice A.ca g.co.length A.cc, .int .i64 g.nw, .int .i64 g.dr, .int .i64 g.sn], .int .i64 (m0 : Int)] w fun e w' => e = .returned (.int .i64 ((m0 + gtN g L : Nat) : Int)) ∧ Below w.heap.size w w' := by
  have hb := gtN_bd hl hs
  have e := gtN4_add m0 g L
  refine (heldGateway_any A g L B m0 w h h0 (by omega) hs.ros).mono ?_
  rintro e2 w' ⟨h1, h2⟩
  exact ⟨by rw [h1, e], h2.below⟩
end Go.Proofs.YtbeehlhcckndcaaDoor

namespace Go.Proofs.YtbeehlhcckndcaaDoor
open Go.RowKit
set_option linter.unusedVariables false
namespace Rel
end Rel
end Go.Proofs.YtbeehlhcckndcaaDoor
