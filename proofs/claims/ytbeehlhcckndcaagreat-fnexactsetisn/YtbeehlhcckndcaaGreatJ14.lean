/- As Rel, with blocks that may hang on the world (rows within rows): regions that draw their order, whatever they do, walked once: each operation has a fact of its own (a resource: a fact of values and of the blocks that it owns), is shown from the facts of those that it waits for, and may take a fact's blocks over. Regions by resources whose blocks may hang on the world: the kinds of resources. Kinds of values of one's own: what lies, in which blocks (which may hang on the world), as resources of RelW. Configs and guests of one's own as kinds; read again, kept where nothing of them is written. Gateways of one's own: read again, kept where nothing of them is written, and the empty one. Gateways copied by the laws. Places and rules copied by the laws into rows of one's own. Roles copied by the laws into rows of one's own. Configurations copied by the laws into rows of one's own, and marked. -/
import Derived.WalkKit
import Derived.Below
import Derived.Still
import Derived.Test.YtbeehlhcckndcaaGreatJ1
import Derived.Test.YtbeehlhcckndcaaGreatJ0
import Derived.Test.YtbeehlhcckndcaaGreatJ8
import Derived.Test.YtbeehlhcckndcaaGreatJ7
import Derived.Test.YtbeehlhcckndcaaGreatJ13
import Derived.Test.YtbeehlhcckndcaaGreatJ12
import Derived.Test.YtbeehlhcckndcaaGreatJ11
namespace Go.Proofs.YtbeehlhcckndcaaGreat
open Go.RowKit
set_option linter.unusedVariables false
namespace Rlw
open Rel (Keep)
def upd (σ:Nat→Value) (i:Nat) (v:Value):Nat→Value:=fun j=>if j=i then v else σ j
theorem upd_self (σ:Nat→Value) (i:Nat) (v:Value):upd σ i v i=v:=if_pos rfl
theorem upd_ne (σ:Nat→Value) {i j:Nat} (v:Value) (h:j ≠ i):upd σ i v j=σ j:=if_neg h
structure Rsc where
 fact:(Nat→Value)→World→Prop
 own:(Nat→Value)→World→Nat→Prop
 dm:List Nat
 tk:List Nat
 nd:List Nat
structure Rsc.Ok (Bs:Nat→Prop) (r:Rsc):Prop where
 loc:∀ σ w w',r.fact σ w→Keep (fun b=>Bs b ∨ r.own σ w b) w w'→r.fact σ w'∧∀ b,r.own σ w' b→r.own σ w b
 ext:∀ σ σ':Nat→Value,(∀ j,j ∈ r.dm→σ' j=σ j)→∀ w,(r.fact σ w→r.fact σ' w)∧(∀ b,r.own σ' w b→r.own σ w b)
def dstOf (ops:Array Oper) (k:Nat):Option Tmp:=(ops[k]?).bind (·.dst)
def mixFr (ops:Array Oper) (a0:Act) (σ:Nat→Value) (L:Nat→Bool):Nat→Act
 | 0=>a0
 | k+1=>if L k then (mixFr ops a0 σ L k).put (dstOf ops k) (σ k) else mixFr ops a0 σ L k
def look (ops:Array Oper) (a0:Act) (σ:Nat→Value) (L:Nat→Bool) (t:Nat):Nat→Option Value
 | 0=>a0.tmps[t]?
 | k+1=>if L k=true∧dstOf ops k=some t∧t<a0.tmps.size then some (σ k) else look ops a0 σ L t k
theorem mixFr_size (ops:Array Oper) (a0:Act) (σ:Nat→Value) (L:Nat→Bool):∀ n,(mixFr ops a0 σ L n).tmps.size=a0.tmps.size
 | 0=>rfl
 | k+1=>by
  unfold mixFr
  split
  ·unfold Act.put
   split
   ·simp [mixFr_size ops a0 σ L k]
   ·exact mixFr_size ops a0 σ L k
  ·exact mixFr_size ops a0 σ L k
theorem mixFr_look (ops:Array Oper) (a0:Act) (σ:Nat→Value) (L:Nat→Bool) (t:Nat):∀ n,(mixFr ops a0 σ L n).tmps[t]?=look ops a0 σ L t n
 | 0=>rfl
 | k+1=>by
  have ih:=mixFr_look ops a0 σ L t k
  have hs:=mixFr_size ops a0 σ L k
  unfold mixFr look
  by_cases hL:L k=true
  ·rw [if_pos hL]
   cases hd:dstOf ops k with
   | none=>simp only [Act.put];rw [if_neg (by rintro ⟨_,h,_⟩;cases h)];exact ih
   | some d =>
    simp only [Act.put]
    by_cases e:d=t
    ·subst e
     by_cases hlt:d<a0.tmps.size
     ·rw [if_pos ⟨hL,rfl,hlt⟩,Array.getElem?_setIfInBounds_self_of_lt (by rw [hs];exact hlt)]
     ·have hle:(mixFr ops a0 σ L k).tmps.size≤d:=by rw [hs];exact Nat.le_of_not_lt hlt
      rw [if_neg (by rintro ⟨_,_,h⟩;exact hlt h),← ih,Array.setIfInBounds_eq_of_size_le hle]
    ·rw [if_neg (by rintro ⟨_,h,_⟩;exact e (Option.some.inj h)),Array.getElem?_setIfInBounds_ne e]
     exact ih
  ·rw [if_neg hL,if_neg (by rintro ⟨h,_⟩;exact hL h)]
   exact ih
theorem look_same {ops:Array Oper} {a0:Act} {σ:Nat→Value} {L L':Nat→Bool} {t:Nat}:∀ n,(∀ k,k<n→dstOf ops k=some t→L k=L' k)→look ops a0 σ L t n=look ops a0 σ L' t n
 | 0,_=>rfl
 | k+1,h=>by
  unfold look
  rw [look_same k (fun j hj=>h j (by omega))]
  by_cases e:dstOf ops k=some t
  ·rw [h k (by omega) e]
  ·rw [if_neg (fun x=>e x.2.1),if_neg (fun x=>e x.2.1)]
theorem look_cut {ops : Array Oper} {a0 : Act} {σ : Nat → Value} {L : Nat → Bool} {t i : Nat} (h : ∀ k, dstOf ops k = some t → k < i) : ∀ n, i ≤ n → look ops a0 σ L t n = look ops a0 σ L t i
  | 0, hn => by have : i = 0 := by omega
                subst this; rfl
  | k + 1, hn => by
    by_cases e : i = k + 1
    · rw [e]
    · rw [← look_cut h k (by omega)]
      conv => lhs; unfold look
      rw [if_neg (fun x => by have := h k x.2.1; omega)]
theorem mixFr_low {ops:Array Oper} {a0:Act} {σ σ':Nat→Value} {L L':Nat→Bool}:∀ n,(∀ k,k<n→L k=L' k∧σ k=σ' k)→mixFr ops a0 σ L n=mixFr ops a0 σ' L' n
 | 0,_=>rfl
 | k+1,h=>by
  unfold mixFr
  rw [mixFr_low k (fun j hj=>h j (by omega)),(h k (by omega)).1,(h k (by omega)).2]
theorem mixFr_add {ops:Array Oper} {a0:Act} {σ:Nat→Value} {L L':Nat→Bool} {i:Nat} {v:Value} (hd:∀ k,k ≠ i→∀ d,dstOf ops i=some d→dstOf ops k ≠ some d) (hi:L i=false) (hi':L' i=true) (hL:∀ k,k ≠ i→L' k=L k) :
  ∀ n,i<n→mixFr ops a0 (upd σ i v) L' n=(mixFr ops a0 σ L n).put (dstOf ops i) v
 | 0,hn=>by omega
 | k+1,hn=>by
  by_cases e:i=k
  ·subst e
   unfold mixFr
   rw [if_pos hi',if_neg (by rw [hi];exact Bool.false_ne_true),upd_self]
   rw [mixFr_low i (fun j hj=>⟨hL j (by omega),upd_ne σ v (by omega)⟩)]
  ·have ih:=mixFr_add (v:=v) (σ:=σ) (a0:=a0) hd hi hi' hL k (by omega)
   unfold mixFr
   rw [hL k (fun h=>e h.symm),upd_ne σ v (fun h=>e h.symm),ih]
   split
   ·exact Act.put_comm _ _ _ (fun d h=>hd k (fun h=>e h.symm) d h)
   ·rfl
def waits (o:Oper) (j:Nat):Bool:=o.after.any fun e=>Region.binds .any e && e.on == j
def waitsAt (ops:Array Oper) (t i:Nat):Bool:=match ops[t]? with | some o=>waits o i | none=>false
def check (ops:Array Oper) (R:List Rsc) (ini:List Nat):Bool :=
 Region.noSelect ops && ini.all (fun k=>decide (ops.size≤k) && ((R[k]?).map fun r=>r.dm.isEmpty && r.tk.isEmpty).getD false) &&
 (List.range ops.size).all fun i=>match ops[i]?,R[i]? with
  | some o,some r =>
   (o.after.all fun e=>!Region.binds .any e || decide (e.on<i)) &&
   ((List.range ops.size).all fun j=>match dstOf ops j with
    | none=>true
    | some d=>(j == i || dstOf ops i != some d) && (!(o.looksAt ops).contains d || waits o j)) &&
   ((r.tk ++ r.nd).all fun j=>(waits o j || ini.contains j) && (List.range ops.size).all fun t=>t == i || !(((R[t]?).map (·.tk)).getD []).contains j || waitsAt ops t i) &&
   r.dm.all (fun j=>j == i || waits o j)
  | _,_=>false
def relUpon (P:Program) (post:Value→World→Prop):Result Next→Prop
 | .ok (.value u) w'=>post u w'
 | .ok .skip w'=>post undef w'
 | .ok (.enter f args) w'=>Calls P f args w' fun e w''=>∃ v,e=.returned v∧post v w''
 | .ok (.row row args) w'=>Rows P row args w' post
 | _=>False
def factsOf (Bs:Nat→Prop) (R:List Rsc) (σ:Nat→Value) (w:World):List Nat→Prop
 | []=>True
 | j :: l=>(∃ r,R[j]?=some r∧r.fact σ w∧∀ b,r.own σ w b→b<w.heap.size∧¬ Bs b)∧factsOf Bs R σ w l
structure Left (R:List Rsc) (r:Rsc) (i:Nat) (σ:Nat→Value) (w:World) (v:Value) (w':World):Prop where
 fact:r.fact (upd σ i v) w'
 own:∀ b,r.own (upd σ i v) w' b→(∃ j rj,j ∈ r.tk∧R[j]?=some rj∧rj.own σ w b) ∨ (w.heap.size≤b∧b<w'.heap.size)
 keep:Keep (fun b=>b<w.heap.size∧∀ j rj,j ∈ r.tk→R[j]?=some rj→¬ rj.own σ w b) w w'
def StepAt (P:Program) (ops:Array Oper) (Bs:Nat→Prop) (wS:World) (R:List Rsc) (i:Nat) (o:Oper) (r:Rsc) (Fr:(Nat→Value)→Act):Prop :=
 ∀ σ w,Keep Bs wS w→factsOf Bs R σ w (r.tk ++ r.nd) →
  if Region.wanted o (yielded ops (Fr σ).tmps)=true then relUpon P (Left R r i σ w) ((execOp (Fr σ).eval o).run P w) else Left R r i σ w undef w
def Walk (P:Program) (ops:Array Oper) (Bs:Nat→Prop) (wS:World) (R:List Rsc):List Oper→List Rsc→Nat→((Nat→Value)→Act)→Prop
 | o :: l,r :: rs,i,Fr=>StepAt P ops Bs wS R i o r Fr∧Walk P ops Bs wS R l rs (i+1) (fun σ=>(Fr σ).put o.dst (σ i))
 | _,_,_,_=>True
def putAll:List Oper→Nat→Act→(Nat→Value)→Act
 | [],_,a,_=>a
 | o :: l,k,a,σ=>putAll l (k+1) (a.put o.dst (σ k)) σ
section
variable {P:Program} {ops:Array Oper} {Bs:Nat→Prop} {wS:World} {R:List Rsc} {ini fin:List Nat} {a0:Act} {Q:Exit→Act→World→Prop}
def Held (ops:Array Oper) (R:List Rsc) (ini:List Nat) (listed:Array Bool) (k:Nat):Prop :=
 (k ∈ ini ∨ (k<ops.size∧listed.getD k false=true))∧∀ t r,R[t]?=some r→t<ops.size→listed.getD t false=true→k ∉ r.tk
structure Inv (ops:Array Oper) (Bs:Nat→Prop) (wS:World) (R:List Rsc) (ini:List Nat) (a0:Act) (listed:Array Bool) (σ:Nat→Value) (a:Act) (w:World):Prop where
 sz:listed.size=ops.size
 fr:a=mixFr ops a0 σ (fun k=>listed.getD k false) ops.size
 keep:Keep Bs wS w
 closed:∀ t o,listed.getD t false=true→ops[t]?=some o→∀ e ∈ o.after,Region.binds .any e=true→listed.getD e.on false=true
 held:∀ k r,R[k]?=some r→Held ops R ini listed k→r.fact σ w∧∀ b,r.own σ w b→b<w.heap.size∧¬ Bs b
 apart:∀ j k rj rk,R[j]?=some rj→R[k]?=some rk→Held ops R ini listed j→Held ops R ini listed k→j ≠ k→∀ b,rj.own σ w b→¬ rk.own σ w b
structure Chk (ops:Array Oper) (R:List Rsc) (ini:List Nat):Prop where
 nosel:Region.noSelect ops=true
 inis:∀ k,k ∈ ini→ops.size≤k∧∃ r,R[k]?=some r∧r.dm=[]
 has:∀ i,i<ops.size→∃ o r,ops[i]?=some o∧R[i]?=some r
 low:∀ (i:Nat) o,ops[i]?=some o→∀ e ∈ o.after,Region.binds .any e=true→e.on<i
 dst:∀ i j,i<ops.size→j ≠ i→∀ d,dstOf ops i=some d→dstOf ops j ≠ some d
 looks:∀ (i:Nat) o (j:Nat) d,ops[i]?=some o→dstOf ops j=some d→d ∈ o.looksAt ops→waits o j=true
 wants:∀ (i:Nat) o r (j:Nat),ops[i]?=some o→R[i]?=some r→j ∈ r.tk ++ r.nd→(waits o j=true ∨ j ∈ ini)∧∀ t rt,R[t]?=some rt→t<ops.size→t ≠ i→j ∈ rt.tk→waitsAt ops t i=true
 dm:∀ (i:Nat) o r (j:Nat),ops[i]?=some o→R[i]?=some r→j ∈ r.dm→j=i ∨ waits o j=true
theorem dstOf_lt {j:Nat} {d:Tmp} (h:dstOf ops j=some d):j<ops.size:=by
 unfold dstOf at h
 cases ho:ops[j]? with
 | none=>rw [ho] at h;cases h
 | some o=>exact (Array.getElem?_eq_some_iff.1 ho).1
theorem chk_of (h:check ops R ini=true):Chk ops R ini:=by
 unfold check at h
 simp only [Bool.and_eq_true,List.all_eq_true,List.mem_range] at h
 obtain ⟨⟨h1,h2⟩,h3⟩:=h
 have at3:∀ i o,ops[i]?=some o→∃ r,R[i]?=some r ∧
   (o.after.all fun e=>!Region.binds .any e || decide (e.on<i))=true ∧
   ((List.range ops.size).all fun j=>match dstOf ops j with
    | none=>true
    | some d=>(j == i || dstOf ops i != some d) && (!(o.looksAt ops).contains d || waits o j))=true ∧
   ((r.tk ++ r.nd).all fun j=>(waits o j || ini.contains j) && (List.range ops.size).all fun t=>t == i || !(((R[t]?).map (·.tk)).getD []).contains j || waitsAt ops t i)=true ∧
   r.dm.all (fun j=>j == i || waits o j)=true:=by
  intro i o ho
  have hi:=(Array.getElem?_eq_some_iff.1 ho).1
  have:=h3 i hi
  rw [ho] at this
  cases hr:R[i]? with
  | none=>rw [hr] at this;simp at this
  | some r =>
   rw [hr] at this
   simp only [Bool.and_eq_true] at this
   exact ⟨r,rfl,this.1.1.1,this.1.1.2,this.1.2,this.2⟩
 refine ⟨h1,?_,?_,?_,?_,?_,?_,?_⟩
 ·intro k hk
  have:=h2 k hk
  rw [decide_eq_true_eq] at this
  refine ⟨this.1,?_⟩
  cases hr:R[k]? with
  | none=>rw [hr] at this;simp at this
  | some r =>
   rw [hr] at this
   simp only [Option.map_some,Option.getD_some,Bool.and_eq_true] at this
   exact ⟨r,rfl,List.isEmpty_iff.1 this.2.1⟩
 ·intro i hi
  obtain ⟨r,hr,_⟩:=at3 i ops[i] (Array.getElem?_eq_getElem hi)
  exact ⟨_,r,Array.getElem?_eq_getElem hi,hr⟩
 ·intro i o ho e he hb
  obtain ⟨r,hr,h,_⟩:=at3 i o ho
  have:=Array.all_eq_true_iff_forall_mem.1 h e he
  simpa [hb] using this
 ·intro i j hi hne d hd hj
  obtain ⟨r,hr,_,h,_⟩:=at3 i ops[i] (Array.getElem?_eq_getElem hi)
  have:=List.all_eq_true.1 h j (List.mem_range.2 (dstOf_lt hj))
  rw [hj] at this
  simp [hd,hne] at this
 ·intro i o j d ho hj hl
  obtain ⟨r,hr,_,h,_⟩:=at3 i o ho
  have:=List.all_eq_true.1 h j (List.mem_range.2 (dstOf_lt hj))
  rw [hj] at this
  simp only [Bool.and_eq_true,Bool.or_eq_true,Bool.not_eq_true'] at this
  rcases this.2 with hx | hx
  ·rw [List.contains_iff_mem.2 hl] at hx;cases hx
  ·exact hx
 ·intro i o r j ho hr hj
  obtain ⟨r',hr',_,_,h,_⟩:=at3 i o ho
  rw [hr] at hr';cases hr'
  have:=List.all_eq_true.1 h j hj
  simp only [Bool.and_eq_true,Bool.or_eq_true,List.all_eq_true,List.mem_range,Bool.not_eq_true'] at this
  refine ⟨this.1.imp id (fun hx=>List.contains_iff_mem.1 hx),fun t rt ht hlt hne hm=>?_⟩
  rcases this.2 t hlt with (hx | hx) | hx
  ·exact absurd (by simpa using hx) hne
  ·rw [ht] at hx;simp only [Option.map_some,Option.getD_some] at hx;rw [List.contains_iff_mem.2 hm] at hx;cases hx
  ·exact hx
 ·intro i o r j ho hr hj
  obtain ⟨r',hr',_,_,_,h⟩:=at3 i o ho
  rw [hr] at hr';cases hr'
  have:=List.all_eq_true.1 h j hj
  simpa using this
theorem waits_listed {listed:Array Bool} {o:Oper} {j:Nat} (hw:waits o j=true) (h:∀ e ∈ o.after,Region.binds .any e=true→listed.getD e.on false=true):listed.getD j false=true:=by
 unfold waits at hw
 rw [Array.any_eq_true'] at hw
 obtain ⟨e,he,hx⟩:=hw
 simp only [Bool.and_eq_true,beq_iff_eq] at hx
 have:=h e he hx.1
 rwa [hx.2] at this
theorem factsOf_of {σ:Nat→Value} {w:World}:∀ l:List Nat,(∀ j,j ∈ l→∃ r,R[j]?=some r∧r.fact σ w∧∀ b,r.own σ w b→b<w.heap.size∧¬ Bs b)→factsOf Bs R σ w l
 | [],_=>trivial
 | j :: l,h=>⟨h j (by simp),factsOf_of l (fun i hi=>h i (by simp [hi]))⟩
theorem walk_drop {l:List Oper} {ops:Array Oper} (hW:Walk P ops Bs wS R l R 0 (fun _=>a0)) (ho:ops=l.toArray):∀ k,k≤l.length→Walk P ops Bs wS R (l.drop k) (R.drop k) k (fun σ=>mixFr ops a0 σ (fun _=>true) k) ∨ R.length<k
 | 0,_=>.inl (by
  rw [List.drop_zero,List.drop_zero]
  exact hW)
 | k+1,hk=>by
  rcases walk_drop hW ho k (by omega) with h | h
  ·by_cases hr:k<R.length
   ·rw [List.drop_eq_getElem_cons (show k<l.length by omega),List.drop_eq_getElem_cons hr] at h
    refine .inl ?_
    have h2:=h.2
    have e:∀ σ,(mixFr ops a0 σ (fun _=>true) k).put (l[k]'(by omega)).dst (σ k)=mixFr ops a0 σ (fun _=>true) (k+1):=fun σ=>by
     conv=>rhs;unfold mixFr
     rw [if_pos rfl]
     congr 1
     unfold dstOf
     rw [ho]
     simp [show k<l.length by omega]
    simp only [e] at h2
    exact h2
   ·exact .inr (by omega)
  ·exact .inr (by omega)
theorem walk_at {l:List Oper} (hW:Walk P l.toArray Bs wS R l R 0 (fun _=>a0)) {i:Nat} {o:Oper} {r:Rsc} (ho:l.toArray[i]?=some o) (hr:R[i]?=some r) :
  StepAt P l.toArray Bs wS R i o r (fun σ=>mixFr l.toArray a0 σ (fun _=>true) i):=by
 have hi:i<l.length:=by simpa using (Array.getElem?_eq_some_iff.1 ho).1
 have hri:=(List.getElem?_eq_some_iff.1 hr).1
 rcases walk_drop hW rfl i (by omega) with h | h
 ·rw [List.drop_eq_getElem_cons hi,List.drop_eq_getElem_cons hri] at h
  have h1:=h.1
  have e1:l[i]=o:=by simpa [hi] using ho
  have e2:R[i]=r:=by simpa [hri] using hr
  rw [e1,e2] at h1
  exact h1
 ·omega
theorem putAll_mix {l:List Oper} {σ:Nat→Value}:∀ m k,k+m=l.length→putAll (l.drop k) k (mixFr l.toArray a0 σ (fun _=>true) k) σ=mixFr l.toArray a0 σ (fun _=>true) l.length
 | 0,k,h=>by
  have:k=l.length:=by omega
  subst this
  simp [putAll]
 | m+1,k,h=>by
  rw [List.drop_eq_getElem_cons (show k<l.length by omega)]
  unfold putAll
  rw [← putAll_mix m (k+1) (by omega)]
  congr 1
  conv=>rhs;unfold mixFr
  rw [if_pos rfl]
  congr 1
  unfold dstOf
  simp [show k<l.length by omega]
theorem getD_t {listed:Array Bool} {i k:Nat}:(listed.setIfInBounds i true).getD k false=if k=i∧i<listed.size then true else listed.getD k false:=by
 by_cases h:k=i
 ·subst h
  by_cases hs:k<listed.size
  ·simp [hs]
  ·simp [hs]
 ·rw [if_neg (fun x=>h x.1)]
  exact getD_set_ne false (fun e=>h e.symm)
theorem inv_run (hc:Chk ops R ini) {listed:Array Bool} {σ:Nat→Value} {a:Act} {w:World} (hI:Inv ops Bs wS R ini a0 listed σ a w) {i:Nat} {o:Oper} (ho:ops[i]?=some o) (hall:∀ e ∈ o.after,Region.binds .any e=true→listed.getD e.on false=true) :
  execOp a.eval o=execOp (mixFr ops a0 σ (fun _=>true) i).eval o∧Region.wanted o (yielded ops a.tmps)=Region.wanted o (yielded ops (mixFr ops a0 σ (fun _=>true) i).tmps):=by
 have hi:=(Array.getElem?_eq_some_iff.1 ho).1
 have key:∀ d,d ∈ o.looksAt ops→a.tmps[d]?=(mixFr ops a0 σ (fun _=>true) i).tmps[d]?:=by
  intro d hd
  have hw:∀ j,dstOf ops j=some d→listed.getD j false=true∧j<i:=fun j hj=>by
   have:=hc.looks i o j d ho hj hd
   refine ⟨waits_listed this hall,?_⟩
   unfold waits at this
   rw [Array.any_eq_true'] at this
   obtain ⟨e,he,hx⟩:=this
   simp only [Bool.and_eq_true,beq_iff_eq] at hx
   have:=hc.low i o ho e he hx.1
   omega
  rw [hI.fr,mixFr_look,mixFr_look,← look_cut (fun k hk=>(hw k hk).2) ops.size (by omega)]
  exact look_same _ (fun k _ hk=>(hw k hk).1)
 constructor
 ·refine execOp_congr o (fun cs b=>Region.noSelect_spec hc.nosel i o cs b ho) (fun x hx=>?_)
  cases x with
  | tmp t =>
   have:=key t (List.mem_append_left _ (List.mem_filterMap.2 ⟨.tmp t,by simpa using hx,rfl⟩))
   simp only [Act.eval,Array.getD_eq_getD_getElem?,this]
  | _=>rfl
 ·unfold Region.wanted
  cases hg:o.guard with
  | none=>rfl
  | some gw =>
   obtain ⟨g,want⟩:=gw
   have hy:yielded ops a.tmps g=yielded ops (mixFr ops a0 σ (fun _=>true) i).tmps g:=by
    unfold yielded
    cases ht:(ops[g]?).bind (·.dst) with
    | none=>rfl
    | some t =>
     have:=key t (by simp [Oper.looksAt,hg,ht])
     simp [this]
   simp only [hy]
theorem inv_step (hc:Chk ops R ini) (hok:∀ (k:Nat) (r:Rsc),R[k]?=some r→r.Ok Bs) (hBs:∀ b,Bs b→b<wS.heap.size) {listed:Array Bool} {σ:Nat→Value} {a:Act} {w:World} (hI:Inv ops Bs wS R ini a0 listed σ a w)
  {i:Nat} {o:Oper} {r:Rsc} (ho:ops[i]?=some o) (hr:R[i]?=some r) (hun:listed.getD i true=false) (hall:∀ e ∈ o.after,Region.binds .any e=true→listed.getD e.on false=true) {v:Value} {w':World} (hL:Left R r i σ w v w') :
  Inv ops Bs wS R ini a0 (listed.setIfInBounds i true) (upd σ i v) (a.put o.dst v) w':=by
 have hi:=(Array.getElem?_eq_some_iff.1 ho).1
 have hil:i<listed.size:=by rw [hI.sz];exact hi
 have hif:listed.getD i false=false:=by
  rw [Array.getD_eq_getD_getElem?,Array.getElem?_eq_getElem hil] at hun ⊢
  exact hun
 have hdst:dstOf ops i=o.dst:=by unfold dstOf;rw [ho];rfl
 -- those that are taken are held
 have htk:∀ j,j ∈ r.tk ++ r.nd→Held ops R ini listed j:=fun j hj=>by
  obtain ⟨h1,h2⟩:=hc.wants i o r j ho hr hj
  refine ⟨?_,fun t rt ht hlt hl hm=>?_⟩
  ·rcases h1 with h1 | h1
   ·have hlj:=waits_listed h1 hall
    refine .inr ⟨?_,hlj⟩
    rw [← hI.sz]
    rcases Nat.lt_or_ge j listed.size with h | h
    ·exact h
    ·rw [Array.getD_eq_getD_getElem?,Array.getElem?_eq_none h] at hlj;cases hlj
   ·exact .inl h1
  ·have hne:t ≠ i:=fun e=>by subst e;rw [hif] at hl;cases hl
   have hw:=h2 t rt ht hlt hne hm
   unfold waitsAt at hw
   split at hw
   ·rename_i ot hot
    have:=waits_listed hw (hI.closed t ot hl hot)
    rw [hif] at this;cases this
   ·cases hw
 -- who is held behind it
 have hold:∀ k,k ≠ i→Held ops R ini (listed.setIfInBounds i true) k→Held ops R ini listed k∧k ∉ r.tk:=fun k hk h=>by
  refine ⟨⟨?_,fun t rt ht hlt hl=>h.2 t rt ht hlt (getD_set_true hl)⟩,h.2 i r hr hi (by rw [getD_t,if_pos ⟨rfl,hil⟩])⟩
  rcases h.1 with h1 | h1
  ·exact .inl h1
  ·refine .inr ⟨h1.1,?_⟩
   have:=h1.2
   rw [getD_t,if_neg (fun x=>hk x.1)] at this
   exact this
 -- the values that a held fact hangs on are there
 have hdm:∀ k rk,R[k]?=some rk→k ≠ i→Held ops R ini listed k→∀ j,j ∈ rk.dm→upd σ i v j=σ j∧σ j=upd σ i v j:=fun k rk hrk hki hh j hj=>by
  have hne:j ≠ i:=by
   intro e
   rcases hh.1 with h1 | h1
   ·obtain ⟨_,r',hr',hd⟩:=hc.inis k h1
    rw [hrk] at hr';cases hr'
    rw [hd] at hj;cases hj
   ·obtain ⟨ok,rk',hok',hrk'⟩:=hc.has k h1.1
    rw [hrk] at hrk';cases hrk'
    rcases hc.dm k ok rk j hok' hrk hj with h2 | h2
    ·omega
    ·have:=waits_listed h2 (hI.closed k ok h1.2 hok')
     rw [e,hif] at this;cases this
  exact ⟨upd_ne σ v hne,(upd_ne σ v hne).symm⟩
 have hsz:=hL.keep.size
 have hw0:=hI.keep.size
 -- an old fact's blocks are as they were
 have hblk:∀ k rk,R[k]?=some rk→k ≠ i→Held ops R ini (listed.setIfInBounds i true) k→Keep (fun b=>Bs b ∨ rk.own σ w b) w w':=fun k rk hrk hki hh=>by
  obtain ⟨h1,h2⟩:=hold k hki hh
  refine hL.keep.mono (fun b hb=>?_)
  rcases hb with hb | hb
  ·refine ⟨Nat.lt_of_lt_of_le (hBs b hb) hw0,fun j rj hj hrj hob=>?_⟩
   exact ((hI.held j rj hrj (htk j (List.mem_append_left _ hj))).2 b hob).2 hb
  ·refine ⟨((hI.held k rk hrk h1).2 b hb).1,fun j rj hj hrj hob=>?_⟩
   exact hI.apart j k rj rk hrj hrk (htk j (List.mem_append_left _ hj)) h1 (fun e=>h2 (e ▸ hj)) b hob hb
 have howni:∀ b,r.own (upd σ i v) w' b→b<w'.heap.size∧¬ Bs b:=fun b hb=>by
  rcases hL.own b hb with ⟨j,rj,hj,hrj,hob⟩ | ⟨h1,h2⟩
  ·have:=(hI.held j rj hrj (htk j (List.mem_append_left _ hj))).2 b hob
   exact ⟨Nat.lt_of_lt_of_le this.1 hsz,this.2⟩
  ·exact ⟨h2,fun hb'=>by have:=hBs b hb';omega⟩
 have hownk:∀ k rk,R[k]?=some rk→k ≠ i→Held ops R ini (listed.setIfInBounds i true) k→∀ b,rk.own (upd σ i v) w' b→rk.own σ w b:=fun k rk hrk hki hh b hb =>
  ((hok k rk hrk).loc σ w w' (hI.held k rk hrk (hold k hki hh).1).1 (hblk k rk hrk hki hh)).2 b ((((hok k rk hrk).ext σ (upd σ i v) (fun j hj=>(hdm k rk hrk hki (hold k hki hh).1 j hj).1)) w').2 b hb)
 have hia:∀ k rk,R[k]?=some rk→k ≠ i→Held ops R ini (listed.setIfInBounds i true) k→∀ b,r.own (upd σ i v) w' b→¬ rk.own (upd σ i v) w' b:=fun k rk hrk hki hh b hb hb'=>by
  have hb2:=hownk k rk hrk hki hh b hb'
  obtain ⟨h1,h2⟩:=hold k hki hh
  rcases hL.own b hb with ⟨j,rj,hj,hrj,hob⟩ | ⟨h3,h4⟩
  ·exact hI.apart j k rj rk hrj hrk (htk j (List.mem_append_left _ hj)) h1 (fun e=>h2 (e ▸ hj)) b hob hb2
  ·have:=((hI.held k rk hrk h1).2 b hb2).1
   omega
 refine ⟨by simp [hI.sz],?_,?_,?_,?_,?_⟩
 ·rw [← hdst,hI.fr]
  refine (mixFr_add (fun k hk d hd=>hc.dst i k hi hk d hd) hif (by rw [getD_t,if_pos ⟨rfl,hil⟩]) (fun k hk=>by rw [getD_t,if_neg (fun x=>hk x.1)]) _ hi).symm
 ·exact hI.keep.trans (hL.keep.mono (fun b hb=>⟨Nat.lt_of_lt_of_le (hBs b hb) hw0,fun j rj hj hrj hob=>((hI.held j rj hrj (htk j (List.mem_append_left _ hj))).2 b hob).2 hb⟩))
 ·intro t ot hl hot e he hb
  by_cases hti:t=i
  ·subst hti
   rw [ho] at hot;cases hot
   exact getD_set_true (hall e he hb)
  ·rw [getD_t,if_neg (fun x=>hti x.1)] at hl
   exact getD_set_true (hI.closed t ot hl hot e he hb)
 ·intro k rk hrk hh
  by_cases hki:k=i
  ·subst hki
   rw [hr] at hrk;cases hrk
   exact ⟨hL.fact,howni⟩
  ·have h0:=hI.held k rk hrk (hold k hki hh).1
   refine ⟨((hok k rk hrk).ext σ (upd σ i v) (fun j hj=>(hdm k rk hrk hki (hold k hki hh).1 j hj).1) _).1 ((hok k rk hrk).loc σ w w' h0.1 (hblk k rk hrk hki hh)).1,fun b hb=>?_⟩
   have:=h0.2 b (hownk k rk hrk hki hh b hb)
   exact ⟨Nat.lt_of_lt_of_le this.1 hsz,this.2⟩
 ·intro j k rj rk hrj hrk hj hk hne b hb hb'
  by_cases hji:j=i
  ·subst hji
   rw [hr] at hrj;cases hrj
   exact hia k rk hrk (fun e=>hne e.symm) hk b hb hb'
  ·by_cases hki:k=i
   ·subst hki
    rw [hr] at hrk;cases hrk
    exact hia j rj hrj hji hj b hb' hb
   ·exact hI.apart j k rj rk hrj hrk (hold j hji hj).1 (hold k hki hk).1 hne b (hownk j rj hrj hji hj b hb) (hownk k rk hrk hki hk b hb')
theorem rel_wp {o:Oper} {a:Act} {w:World} {K:Act→World→Prop} {post:Value→World→Prop} (h:relUpon P post ((execOp a.eval o).run P w)) (hk:∀ v w',post v w'→K (a.put o.dst v) w'):o.wp P a w K Q:=by
 unfold Oper.wp
 generalize (execOp a.eval o).run P w=res at *
 cases res with
 | ok n w' =>
  cases n <;> simp only [relUpon] at h <;> simp only [Oper.upon]
  case value u=>exact hk _ _ h
  case skip=>exact hk _ _ h
  case enter f args=>exact h.mono fun e w'' ⟨v,he,hp⟩=>by subst he;exact hk _ _ hp
  case row row args=>exact h.mono fun v w'' hp=>hk _ _ hp
 | halt x w'=>simp only [relUpon] at h
theorem count_set {listed:Array Bool} {i:Nat} (hi:i<listed.size) (h:listed[i]=false):(listed.setIfInBounds i true).toList.count false+1=listed.toList.count false:=by
 have hl:i<listed.toList.length:=by simpa using hi
 have hx:listed.toList[i]=false:=by simpa using h
 have h1:(listed.setIfInBounds i true).toList=listed.toList.set i true:=by simp
 have h2:0<listed.toList.count false:=List.count_pos_iff.2 (by rw [← hx];exact List.getElem_mem hl)
 rw [h1,List.count_set hl,hx]
 rw [if_pos (show ((false:Bool) == false)=true from rfl),if_neg (show ¬ ((true:Bool) == false)=true from Bool.false_ne_true)]
 omega
theorem any_of_inv (hc:Chk ops R ini) (hok:∀ (k:Nat) (r:Rsc),R[k]?=some r→r.Ok Bs) (hBs:∀ b,Bs b→b<wS.heap.size)
  (hS:∀ (i:Nat) (o:Oper) (r:Rsc),ops[i]?=some o→R[i]?=some r→StepAt P ops Bs wS R i o r (fun σ=>mixFr ops a0 σ (fun _=>true) i))
  (hE:∀ (listed:Array Bool) (σ:Nat→Value) (a:Act) (w:World),Inv ops Bs wS R ini a0 listed σ a w→(∀ k,k<ops.size→listed.getD k false=true)→Q .normal a w) :
  ∀ (fuel:Nat) (listed:Array Bool) (σ:Nat→Value) (a:Act) (w:World),Inv ops Bs wS R ini a0 listed σ a w→listed.toList.count false≤fuel→wpAny P .any ops Q fuel listed a w:=by
 have hend:∀ (listed:Array Bool) (σ:Nat→Value) (a:Act) (w:World),Inv ops Bs wS R ini a0 listed σ a w→Region.ready .any ops listed=[]→Q .normal a w:=by
  intro listed σ a w hI hr
  refine hE listed σ a w hI ?_
  intro k
  induction k using Nat.strongRecOn with
  | ind k ih =>
   intro hk
   obtain ⟨o,r,ho,_⟩:=hc.has k hk
   have hkl:k<listed.size:=by rw [hI.sz];exact hk
   cases hx:listed.getD k false with
   | true=>rfl
   | false =>
    have:k ∈ Region.ready .any ops listed:=mem_ready.2 ⟨by
     rw [Array.getD_eq_getD_getElem?,Array.getElem?_eq_getElem hkl] at hx ⊢
     exact hx,o,ho,fun e he hb=>ih e.on (hc.low k o ho e he hb) (by have:=hc.low k o ho e he hb;omega)⟩
    rw [hr] at this;cases this
 intro fuel
 induction fuel with
 | zero =>
  intro listed σ a w hI hn
  have hr:Region.ready .any ops listed=[]:=by
   cases hx:Region.ready .any ops listed with
   | nil=>rfl
   | cons i l =>
    have hm:=(mem_ready.1 (show i ∈ Region.ready .any ops listed by rw [hx];simp)).1
    rcases Nat.lt_or_ge i listed.size with h | h
    ·have hf:listed[i]=false:=by
      rw [Array.getD_eq_getD_getElem?,Array.getElem?_eq_getElem h] at hm
      exact hm
     have:=count_set h hf
     omega
    ·rw [Array.getD_eq_getD_getElem?,Array.getElem?_eq_none h] at hm;cases hm
  exact ⟨hr,hend listed σ a w hI hr⟩
 | succ fuel ih =>
  intro listed σ a w hI hn
  refine ⟨hend listed σ a w hI,fun i hi=>?_⟩
  obtain ⟨hun,o,ho,hall⟩:=mem_ready.1 hi
  have hlt:=(Array.getElem?_eq_some_iff.1 ho).1
  obtain ⟨_,r,_,hr⟩:=hc.has i hlt
  have hil:i<listed.size:=by rw [hI.sz];exact hlt
  have hf:listed[i]=false:=by
   rw [Array.getD_eq_getD_getElem?,Array.getElem?_eq_getElem hil] at hun
   exact hun
  have hcnt:=count_set hil hf
  obtain ⟨e1,e2⟩:=inv_run hc hI ho hall
  have hif:listed.getD i false=false:=by
   rw [Array.getD_eq_getD_getElem?,Array.getElem?_eq_getElem hil] at hun ⊢
   exact hun
  have hfacts:factsOf Bs R σ w (r.tk ++ r.nd):=factsOf_of _ (fun j hj=>by
   obtain ⟨h1,h2⟩:=hc.wants i o r j ho hr hj
   have hheld:Held ops R ini listed j:=by
    refine ⟨?_,fun t rt ht hlt hl hm=>?_⟩
    ·rcases h1 with h1 | h1
     ·have hlj:=waits_listed h1 hall
      refine .inr ⟨?_,hlj⟩
      rw [← hI.sz]
      rcases Nat.lt_or_ge j listed.size with h | h
      ·exact h
      ·rw [Array.getD_eq_getD_getElem?,Array.getElem?_eq_none h] at hlj;cases hlj
     ·exact .inl h1
    ·have hne:t ≠ i:=fun e=>by subst e;rw [hif] at hl;cases hl
     have hw:=h2 t rt ht hlt hne hm
     unfold waitsAt at hw
     split at hw
     ·rename_i ot hot
      have:=waits_listed hw (hI.closed t ot hl hot)
      rw [hif] at this;cases this
     ·cases hw
   have hR:∃ rj,R[j]?=some rj:=by
    rcases hheld.1 with h | h
    ·obtain ⟨_,rj,h,_⟩:=hc.inis j h
     exact ⟨rj,h⟩
    ·obtain ⟨_,rj,_,h⟩:=hc.has j h.1
     exact ⟨rj,h⟩
   obtain ⟨rj,hrj⟩:=hR
   exact ⟨rj,hrj,hI.held j rj hrj hheld⟩)
  have hst:=hS i o r ho hr σ w hI.keep hfacts
  unfold wpOp
  simp only [ho]
  rw [e2]
  dsimp only at hst
  split
  ·rename_i hw
   rw [if_pos hw,← e1] at hst
   exact .inl (rel_wp hst (fun v w' hL=>ih _ _ _ _ (inv_step hc hok hBs hI ho hr hun hall hL) (by omega)))
  ·rename_i hw
   rw [if_neg hw] at hst
   exact ih _ _ _ _ (inv_step hc hok hBs hI ho hr hun hall hst) (by omega)
def finB (ops:Array Oper) (R:List Rsc) (ini fin:List Nat):Bool :=
 fin.all fun k=>(decide (k<ops.size) || ini.contains k) && (List.range ops.size).all fun t=>!(((R[t]?).map (·.tk)).getD []).contains k
theorem wp_region_rel {id:Nat} {l:List Oper} {a:Act} {w:World} (R:List Rsc) (ini fin:List Nat) (Bs:Nat→Prop)
  (hm:P.follows .mixedOrders=true) (hchk:check l.toArray R ini=true) (hfin:finB l.toArray R ini fin=true)
  (hok:∀ r,r ∈ R→r.Ok Bs) (hBs:∀ b,Bs b→b<w.heap.size)
  (hini:∀ (k:Nat) (r:Rsc),k ∈ ini→R[k]?=some r→r.fact (fun _=>undef) { w with drawn:=w.drawn+1 }∧∀ b,r.own (fun _=>undef) { w with drawn:=w.drawn+1 } b→b<w.heap.size∧¬ Bs b)
  (hap:∀ (j k:Nat) (rj rk:Rsc),j ∈ ini→k ∈ ini→j ≠ k→R[j]?=some rj→R[k]?=some rk→∀ b,rj.own (fun _=>undef) { w with drawn:=w.drawn+1 } b→¬ rk.own (fun _=>undef) { w with drawn:=w.drawn+1 } b)
  (hW:Walk P l.toArray Bs { w with drawn:=w.drawn+1 } R l R 0 (fun _=>a))
  (hE:∀ (σ:Nat→Value) (w':World),Keep Bs { w with drawn:=w.drawn+1 } w'→factsOf Bs R σ w' fin →
   (∀ (j k:Nat) (rj rk:Rsc),j ∈ fin→k ∈ fin→j ≠ k→R[j]?=some rj→R[k]?=some rk→∀ b,rj.own σ w' b→¬ rk.own σ w' b)→Q .normal (putAll l 0 a σ) w') :
  (Code.region id l.toArray true).wp P Q a w:=by
 have hc:=chk_of hchk
 have hok':∀ (k:Nat) (r:Rsc),R[k]?=some r→r.Ok Bs:=fun k r h=>hok r (List.mem_of_getElem? h)
 have hno:∀ k,(Array.replicate l.toArray.size false).getD k false=false:=fun k=>by
  rw [Array.getD_eq_getD_getElem?,Array.getElem?_replicate]
  split <;> rfl
 have hHeld:∀ k,Held l.toArray R ini (Array.replicate l.toArray.size false) k→k ∈ ini:=fun k h=>by
  rcases h.1 with h | h
  ·exact h
  ·rw [hno] at h;cases h.2
 refine wp_region_any hm (any_of_inv (R:=R) (ini:=ini) (Bs:=Bs) (wS:={ w with drawn:=w.drawn+1 }) (a0:=a) hc hok' hBs (fun i o r ho hr=>walk_at hW ho hr) ?_ _ _ (fun _=>undef) _ _ ?_ ?_)
 ·intro listed σ a' w' hI hall
  have hheld:∀ k,k ∈ fin→Held l.toArray R ini listed k∧∃ r,R[k]?=some r:=fun k hk=>by
   unfold finB at hfin
   have:=List.all_eq_true.1 hfin k hk
   simp only [Bool.and_eq_true,Bool.or_eq_true,decide_eq_true_eq,List.all_eq_true,List.mem_range,Bool.not_eq_true'] at this
   refine ⟨⟨?_,fun t r ht hlt _ hmem=>?_⟩,?_⟩
   ·rcases this.1 with h | h
    ·exact .inr ⟨h,hall k h⟩
    ·exact .inl (List.contains_iff_mem.1 h)
   ·have h2:=this.2 t hlt
    rw [ht] at h2
    simp only [Option.map_some,Option.getD_some] at h2
    rw [List.contains_iff_mem.2 hmem] at h2;cases h2
   ·rcases this.1 with h | h
    ·obtain ⟨_,r,_,h⟩:=hc.has k h
     exact ⟨r,h⟩
    ·obtain ⟨_,r,h,_⟩:=hc.inis k (List.contains_iff_mem.1 h)
     exact ⟨r,h⟩
  have hfr:a'=putAll l 0 a σ:=by
   rw [hI.fr]
   have:=putAll_mix (l:=l) (a0:=a) (σ:=σ) l.length 0 (by omega)
   rw [List.drop_zero] at this
   refine Eq.trans ?_ this.symm
   rw [show l.toArray.size=l.length from by simp]
   exact mixFr_low _ (fun k hk=>⟨hall k (by simpa using hk),rfl⟩)
  rw [hfr]
  refine hE σ w' hI.keep (factsOf_of _ (fun j hj=>?_)) (fun j k rj rk hj hk hne hrj hrk b=>?_)
  ·obtain ⟨hh,r,hr⟩:=hheld j hj
   exact ⟨r,hr,hI.held j r hr hh⟩
  ·exact hI.apart j k rj rk hrj hrk (hheld j hj).1 (hheld k hk).1 hne b
 ·refine ⟨by simp,?_,Keep.refl _ _,?_,?_,?_⟩
  ·have:∀ n,mixFr l.toArray a (fun _=>undef) (fun k=>(Array.replicate l.toArray.size false).getD k false) n=a:=by
    intro n
    induction n with
    | zero=>rfl
    | succ n ih=>unfold mixFr;rw [hno,if_neg Bool.false_ne_true];exact ih
   exact (this _).symm
  ·intro t o ht
   rw [hno] at ht;cases ht
  ·intro k r hr hh
   exact hini k r (hHeld k hh) hr
  ·intro j k rj rk hrj hrk hj hk hne b hb
   exact hap j k rj rk (hHeld j hj) (hHeld k hk) hne hrj hrk b hb
 ·refine Nat.le_trans (List.count_le_length) ?_
  simp
end
end Rlw
namespace Rlw
open Rel (Keep)
theorem cell_of {w w':World} {a:Addr} (h:w'.heap[a.block]?=w.heap[a.block]?):w'.cell? a=w.cell? a:=by
 unfold World.cell?;rw [h]
theorem froz_of {w w':World} {a:Addr} (h:w'.heap[a.block]?=w.heap[a.block]?):w'.frozen? a=w.frozen? a:=by
 unfold World.frozen?;rw [h]
theorem bx_loc {w w':World} {q:Nat} {cs:List Value} (h:Bx w q cs) (hq:w'.heap[q]?=w.heap[q]?):Bx w' q cs :=
 Bx.of (fun j v hv=>(cell_of (a:=⟨q,j,none⟩) hq).trans (h.cell j hv)) (fun j hj=>(froz_of (a:=⟨q,j,none⟩) hq).trans (h.thaw j hj))
theorem own_loc {e:TypeId} {w w':World} {B K n:Nat} {v:Value} {F:List Value} (h:w.ownsRow B e K v n F) (hq:∀ k,v.ownBlock=some k→w'.heap[k]?=w.heap[k]?):w'.ownsRow B e K v n F:=by
 refine ⟨h.1,?_⟩
 rcases h.2 with h' | ⟨g,cap,cur,h1,hB,hg,h4⟩
 ·exact .inl h'
 ·exact .inr ⟨g,cap,cur,h1,hB,by rw [hq g (by rw [h1];rfl)];exact hg,h4⟩
def valR (i:Nat) (nd:List Nat) (v:Value):Rsc:=⟨fun σ _=>σ i=v,fun _ _ _=>False,[i],[],nd⟩
theorem valR_ok {Bs:Nat→Prop} (i:Nat) (nd:List Nat) (v:Value):(valR i nd v).Ok Bs :=
 ⟨fun σ w w' h _=>⟨h,fun b hb=>hb⟩,fun σ σ' h w=>⟨fun hf=>(h i (by simp [valR])).trans hf,fun b hb=>hb⟩⟩
def retR (i:Nat) (nd:List Nat) (F:Value→World→Prop) (ow:Value→World→Nat→Prop):Rsc:=⟨fun σ w=>F (σ i) w,fun σ w b=>ow (σ i) w b,[i],[],nd⟩
theorem retR_ok {Bs:Nat→Prop} (i:Nat) (nd:List Nat) (F:Value→World→Prop) (ow:Value→World→Nat→Prop) (h:∀ v w w',F v w→Keep (fun b=>Bs b ∨ ow v w b) w w'→F v w'∧∀ b,ow v w' b→ow v w b):(retR i nd F ow).Ok Bs :=
 ⟨fun σ w w' hf hk=>h (σ i) w w' hf hk,fun σ σ' hh w=>by
  have h1:=hh i (by simp [retR])
  exact ⟨fun hf=>by show F (σ' i) w;rw [h1];exact hf,fun b hb=>by show ow (σ i) w b;rw [← h1];exact hb⟩⟩
theorem left_below {R:List Rsc} {r:Rsc} {i:Nat} {σ:Nat→Value} {w:World} {v:Value} {w':World} (hf:r.fact (upd σ i v) w') (ho:∀ b,r.own (upd σ i v) w' b→w.heap.size≤b∧b<w'.heap.size) (hb:Below w.heap.size w w'):Left R r i σ w v w' :=
 ⟨hf,fun b h=>.inr (ho b h),⟨hb.os,hb.tape,hb.output,hb.size,fun k hk=>hb.block k hk.1⟩⟩
theorem left_val {R:List Rsc} {i:Nat} {nd:List Nat} {σ:Nat→Value} {w:World} {v:Value}:Left R (valR i nd v) i σ w v w :=
 left_below (upd_self σ i v) (fun b h=>h.elim) (Below.refl _ _)
theorem left_valB {R:List Rsc} {i:Nat} {nd:List Nat} {σ:Nat→Value} {w w':World} {v:Value} (hb:Below w.heap.size w w'):Left R (valR i nd v) i σ w v w' :=
 left_below (upd_self σ i v) (fun b h=>h.elim) hb
theorem left_ret {R:List Rsc} {i:Nat} {nd:List Nat} {σ:Nat→Value} {w w':World} {v:Value} {F:Value→World→Prop} {ow:Value→World→Nat→Prop} (hf:F v w') (ho:∀ b,ow v w' b→w.heap.size≤b∧b<w'.heap.size) (hb:Below w.heap.size w w'):Left R (retR i nd F ow) i σ w v w' :=
 left_below (by show F (upd σ i v i) w';rw [upd_self];exact hf) (fun b h=>ho b (by have h2:ow (upd σ i v i) w' b:=h;rwa [upd_self] at h2)) hb
theorem keep_below {w w':World} (h:Keep (fun b=>b<w.heap.size) { w with drawn:=w.drawn+1 } w'):Below w.heap.size w w':=⟨h.os,h.tape,h.output,h.size,h.block⟩
theorem fact_of {Bs:Nat→Prop} {R:List Rsc} {σ:Nat→Value} {w:World}:∀ {l:List Nat} {j:Nat} {r:Rsc},factsOf Bs R σ w l→l.contains j=true→R[j]?=some r→r.fact σ w
 | x :: l,j,r,h,hm,hr=>by
  rcases List.mem_cons.1 (List.contains_iff_mem.1 hm) with e | e
  ·subst e
   obtain ⟨r',hr',hf,_⟩:=h.1
   rw [hr] at hr';cases hr'
   exact hf
  ·exact fact_of h.2 (List.contains_iff_mem.2 e) hr
theorem walk_cons {P:Program} {ops:Array Oper} {Bs:Nat→Prop} {wS:World} {R:List Rsc} {o:Oper} {l:List Oper} {r:Rsc} {rs:List Rsc} {i:Nat} {Fr:(Nat→Value)→Act}
  (h:StepAt P ops Bs wS R i o r Fr) (hr:Walk P ops Bs wS R l rs (i+1) (fun σ=>(Fr σ).put o.dst (σ i))):Walk P ops Bs wS R (o :: l) (r :: rs) i Fr:=⟨h,hr⟩
theorem walk_nil {P:Program} {ops:Array Oper} {Bs:Nat→Prop} {wS:World} {R:List Rsc} {rs:List Rsc} {i:Nat} {Fr:(Nat→Value)→Act}:Walk P ops Bs wS R [] rs i Fr:=trivial
structure Yld (P:Program) (post:Value→World→Prop) (res:Result Next):Prop where
 out:relUpon P post res
theorem yld_val {P:Program} {post:Value→World→Prop} {u:Value} {w:World} (h:post u w):Yld P post (.ok (.value u) w):=⟨h⟩
theorem yld_skip {P:Program} {post:Value→World→Prop} {w:World} (h:post undef w):Yld P post (.ok .skip w):=⟨h⟩
theorem yld_call {P:Program} {post:Value→World→Prop} {w:World} {f:FuncId} {args:Array Value} (h:Calls P f args w fun e w''=>∃ v,e=.returned v∧post v w''):Yld P post (.ok (.enter f args) w):=⟨h⟩
theorem yld_get {P:Program} {post:Value→World→Prop} {o:Oper} {a:Act} {w:World} (t:TypeId) (x:Operand) (ho:o.op=.load t x) {q:Nat} (hx:a.eval x=.pointer (some ⟨q,0,none⟩)) {cs:List Value} (hb:Bx w q cs) (d:TypeDesc) (hu:P.underlying t=some d) (hd:d.isRow=true)
  (hi:(P.info? t).map (·.size)=some cs.length) (h:post (.agg cs.toArray) w):Yld P post ((execOp a.eval o).run P w):=by
 refine ⟨?_⟩
 unfold execOp
 simp only [ho,hx,Instr.loadAt,Instr.sureAddr,Sem.run_bind,Sem.run_pure,Result.andThen_ok,run_loadVar_mid w q 0 t cs d hb.cl hu hd hi]
 exact h
theorem step_want {P:Program} {ops:Array Oper} {Bs:Nat→Prop} {wS:World} {R:List Rsc} {o:Oper} {r:Rsc} {i:Nat} {Fr:(Nat→Value)→Act} (hg:o.guard=none)
  (h:∀ σ w,Keep Bs wS w→factsOf Bs R σ w (r.tk ++ r.nd)→∀ post:Value→World→Prop,(∀ v w',Left R r i σ w v w'→post v w')→Yld P post ((execOp (Fr σ).eval o).run P w)):StepAt P ops Bs wS R i o r Fr:=by
 intro σ w hK hF
 rw [if_pos (by unfold Region.wanted;rw [hg])]
 exact (h σ w hK hF _ (fun _ _ h=>h)).out
end Rlw
structure Knd where
 own:World→Nat→Value→Prop
 bk:World→Value→Nat→Prop
 keep:∀ (w w':World) (B:Nat) (v:Value),own w B v→(∀ b,bk w v b→w'.heap[b]?=w.heap[b]?)→own w' B v∧∀ b,bk w' v b→bk w v b
 lt:∀ (w:World) (B:Nat) (v:Value),own w B v→∀ b,bk w v b→B≤b∧b<w.heap.size
 lower:∀ (w:World) (B B':Nat) (v:Value),own w B v→B'≤B→own w B' v
namespace Knd
theorem now {k:Knd} {w w':World} {B:Nat} {v:Value} (h:k.own w B v) (hb:Below w.heap.size w w'):k.own w' B v:=(k.keep w w' B v h (fun b hb'=>hb.block b (k.lt w B v h b hb').2)).1
def val (x:Value):Knd where
 own:=fun _ _ v=>v=x
 bk:=fun _ _ _=>False
 keep:=fun _ _ _ _ h _=>⟨h,fun b hb=>hb⟩
 lt:=fun _ _ _ _ b hb=>hb.elim
 lower:=fun _ _ _ _ h _=>h
def two (k l:Knd):Knd where
 own:=fun w B v=>∃ a b,v=.tuple #[a,b]∧k.own w B a∧l.own w B b
 bk:=fun w v x=>∃ a b,v=.tuple #[a,b]∧(k.bk w a x ∨ l.bk w b x)
 keep:=fun w w' B v ⟨a,b,hv,h1,h2⟩ hk=>by
  have k1:=k.keep w w' B a h1 (fun x hx=>hk x ⟨a,b,hv,.inl hx⟩)
  have k2:=l.keep w w' B b h2 (fun x hx=>hk x ⟨a,b,hv,.inr hx⟩)
  refine ⟨⟨a,b,hv,k1.1,k2.1⟩,?_⟩
  rintro x ⟨a',b',hv',hx⟩
  rw [hv] at hv'
  injection hv' with hv'
  injection hv' with hv'
  injection hv' with e1 hv'
  injection hv' with e2
  subst e1;subst e2
  exact ⟨a,b,hv,hx.imp (k1.2 x) (k2.2 x)⟩
 lt:=fun w B v ⟨a,b,hv,h1,h2⟩ x ⟨a',b',hv',hx⟩=>by
  rw [hv] at hv'
  injection hv' with hv'
  injection hv' with hv'
  injection hv' with e1 hv'
  injection hv' with e2
  subst e1;subst e2
  exact hx.elim (k.lt w B a h1 x) (l.lt w B b h2 x)
 lower:=fun w B B' v ⟨a,b,hv,h1,h2⟩ hB=>⟨a,b,hv,k.lower w B B' a h1 hB,l.lower w B B' b h2 hB⟩
def three (k l m:Knd):Knd where
 own:=fun w B v=>∃ a b c,v=.tuple #[a,b,c]∧k.own w B a∧l.own w B b∧m.own w B c
 bk:=fun w v x=>∃ a b c,v=.tuple #[a,b,c]∧(k.bk w a x ∨ l.bk w b x ∨ m.bk w c x)
 keep:=fun w w' B v ⟨a,b,c,hv,h1,h2,h3⟩ hk=>by
  have k1:=k.keep w w' B a h1 (fun x hx=>hk x ⟨a,b,c,hv,.inl hx⟩)
  have k2:=l.keep w w' B b h2 (fun x hx=>hk x ⟨a,b,c,hv,.inr (.inl hx)⟩)
  have k3:=m.keep w w' B c h3 (fun x hx=>hk x ⟨a,b,c,hv,.inr (.inr hx)⟩)
  refine ⟨⟨a,b,c,hv,k1.1,k2.1,k3.1⟩,?_⟩
  rintro x ⟨a',b',c',hv',hx⟩
  rw [hv] at hv'
  injection hv' with hv'
  injection hv' with hv'
  injection hv' with e1 hv'
  injection hv' with e2 hv'
  injection hv' with e3
  subst e1;subst e2;subst e3
  exact ⟨a,b,c,hv,hx.imp (k1.2 x) (fun h=>h.imp (k2.2 x) (k3.2 x))⟩
 lt:=fun w B v ⟨a,b,c,hv,h1,h2,h3⟩ x ⟨a',b',c',hv',hx⟩=>by
  rw [hv] at hv'
  injection hv' with hv'
  injection hv' with hv'
  injection hv' with e1 hv'
  injection hv' with e2 hv'
  injection hv' with e3
  subst e1;subst e2;subst e3
  exact hx.elim (k.lt w B a h1 x) (fun h=>h.elim (l.lt w B b h2 x) (m.lt w B c h3 x))
 lower:=fun w B B' v ⟨a,b,c,hv,h1,h2,h3⟩ hB=>⟨a,b,c,hv,k.lower w B B' a h1 hB,l.lower w B B' b h2 hB,m.lower w B B' c h3 hB⟩
def row {α:Type} (c:α→List Value) (K:Nat) (e:TypeId) (xs:List α):Knd where
 own:=fun w B v=>OwnS c K e w B v xs
 bk:=fun _ v b=>v.ownBlock=some b
 keep:=fun w w' B v h hk=>⟨Rlw.own_loc h hk,fun b hb=>hb⟩
 lt:=fun w B v h b hb=>h.lt b hb
 lower:=fun w B B' v h hB=>h.lower hB
end Knd
namespace Rlw
open Rel (Keep)
def kndR (i:Nat) (nd:List Nat) (k:Knd) (B:Nat):Rsc:=retR i nd (fun v w=>k.own w B v) (fun v w b=>k.bk w v b)
theorem kndR_ok {Bs:Nat→Prop} (i:Nat) (nd:List Nat) (k:Knd) (B:Nat):(kndR i nd k B).Ok Bs :=
 retR_ok i nd _ _ (fun v w w' hf hk=>k.keep w w' B v hf (fun b hb=>hk.block b (.inr hb)))
theorem left_knd {R:List Rsc} {i:Nat} {nd:List Nat} {σ:Nat→Value} {w w':World} {v:Value} {k:Knd} {B:Nat} (hf:k.own w' w.heap.size v) (hB:B≤w.heap.size) (hb:Below w.heap.size w w'):Left R (kndR i nd k B) i σ w v w' :=
 left_ret (k.lower w' _ B v hf hB) (k.lt w' _ v hf) hb
end Rlw
open Go.RowKit Go.PlainAid Go.Proofs.YtbeehlhcckndcaaGreat.Bt Go.Sort
set_option maxRecDepth 20000
theorem rw_okG {α:Type} {c:α→List Value} {ok:α→Prop} {K:Nat} {w:World} {a:Option Addr} {xs:List α} (h:Rw (FR c ok) K w a xs):∀ x,x ∈ xs→ok x:=by
 intro x hx
 obtain ⟨i,hi⟩:=List.getElem?_of_mem hx
 obtain ⟨b,off,-,-,hc⟩:=h (List.length_pos_of_mem hx)
 obtain ⟨vs,-,⟨-,hk⟩,-⟩:=hc i x hi
 exact hk
structure RoOk (r:RoleV):Prop where
 nm:r.nm.size≤maxLen
 rs:∀ x,x ∈ r.rs→RuRok x
theorem rw_okR {n K:Nat} {w:World} {a:Option Addr} {xs:List RoleV} (h:Rw (RoR n) K w a xs):∀ x,x ∈ xs→RoOk x:=by
 intro x hx
 obtain ⟨i,hi⟩:=List.getElem?_of_mem hx
 obtain ⟨b,off,-,-,hc⟩:=h (List.length_pos_of_mem hx)
 obtain ⟨vs,-,⟨a',cap',-,h1,-,-,h4,-⟩,-⟩:=hc i x hi
 exact ⟨h1,rw_okG (c:=rv) (ok:=RuRok) h4⟩
theorem own_cap {α:Type} {c:α→List Value} {K n cap:Nat} {a:Option Addr} {e:TypeId} {B:Nat} {xs:List α} {w:World} (h:OwnS c K e w B (.slice a n cap) xs):n≤cap∧cap≤maxLen:=by
 rcases h.2 with ⟨h1,h2⟩ | ⟨g,cap',cur,h1,hB,hg,h3,h4,_⟩
 ·cases h1;exact ⟨Nat.le_refl _,Nat.zero_le _⟩
 ·cases h1;exact ⟨h3,h4⟩
theorem rw_ro {w:World} {B n cap:Nat} {y:Option Addr} {L:List RoX} (o:OwnRo w B (.slice y n cap) L) (hok:∀ x,x ∈ L→RoOk x.r):Rw (RoR 0) 5 w y (L.map (fun x=>x.r)):=by
 intro h0
 rw [List.length_map] at h0
 obtain ⟨g,rfl,hB,hg,-⟩:=o.row.form h0
 refine ⟨g,0,rfl,hg,fun i r hr=>?_⟩
 rw [List.getElem?_map] at hr
 obtain ⟨x,hx,rfl⟩:=Option.map_eq_some_iff.1 hr
 have hm:=List.mem_of_getElem? hx
 have hru:=o.rules x hm
 obtain ⟨k1,k2⟩:=own_cap hru
 refine ⟨roG x,rfl,⟨x.ra,x.rc,rfl,(hok x hm).nm,k1,k2,hru.rw (ok:=RuRok) rv_len (hok x hm).rs,fun _ _ _=>Nat.zero_le _⟩,fun j u hu=>?_⟩
 have:=(o.row.cell roG_len (j:=j) hx hu).1
 rw [Nat.zero_add]
 exact this
theorem OwnRo.uniq {w:World} {B B':Nat} {v:Value} {L L':List RoX} (o:OwnRo w B v L) (o':OwnRo w B' v L') (h:L.map (fun x=>x.r)=L'.map (fun x=>x.r)):L=L':=by
 have hl:L.length=L'.length:=by simpa using congrArg List.length h
 obtain ⟨a,cap,rfl,-⟩:=o.row.slice
 refine List.ext_getElem? (fun i=>?_)
 cases hi:L[i]? with
 | none =>
  rw [List.getElem?_eq_none_iff] at hi
  exact (List.getElem?_eq_none (by omega)).symm
 | some x =>
  have hlt:=(List.getElem?_eq_some_iff.1 hi).1
  have hi':L'[i]?=some L'[i]:=List.getElem?_eq_getElem (by omega)
  generalize L'[i]=x' at hi'
  have hr:x.r=x'.r:=by
   have:=congrArg (·[i]?) h
   simp only [List.getElem?_map,hi,hi',Option.map_some] at this
   exact Option.some.inj this
  obtain ⟨g,rfl,-⟩:=o.row.form (by omega)
  have c1:=(o.row.cell roG_len (j:=1) hi rfl).1
  have c2:=(o'.row.cell roG_len (j:=1) hi' rfl).1
  have e:=Option.some.inj (c1.symm.trans c2)
  injection e with e1 _ e2
  rw [hi']
  congr 1
  cases x;cases x'
  simp_all
structure CfV where
 ip:Int
 b:Int
 gt:Int
 gm:ByteArray
 wm:ByteArray
 rs:Int
 ps:List PlaceV
 ros:List RoleV
structure CfA where
 x:Option Addr
 y:Option Addr
 xc:Nat
 yc:Nat
theorem agg_inj {l l':List Value} (h:Value.agg l.toArray=.agg l'.toArray):l=l':=by
 injection h with h
 exact List.toArray_inj h
structure OwnCf (w:World) (B:Nat) (A:CfA) (c:CfV) (L:List RoX):Prop where
 ro:L.map (fun x=>x.r)=c.ros
 ps:OwnS pv 4 135 w B (.slice A.x c.ps.length A.xc) c.ps
 rs:OwnRo w B (.slice A.y c.ros.length A.yc) L
def cfB (A:CfA) (c:CfV) (L:List RoX) (k:Nat):Prop:=cfBk (.slice A.x c.ps.length A.xc) (.slice A.y c.ros.length A.yc) L k
theorem OwnCf.now {w w':World} {B:Nat} {A:CfA} {c:CfV} {L:List RoX} (h:OwnCf w B A c L) (hb:Below w.heap.size w w'):OwnCf w' B A c L:=⟨h.ro,h.ps.now hb,h.rs.now hb⟩
theorem OwnCf.keep {w w':World} {B:Nat} {A:CfA} {c:CfV} {L:List RoX} (h:OwnCf w B A c L) (hk:∀ b,cfB A c L b→w'.heap[b]?=w.heap[b]?):OwnCf w' B A c L :=
 ⟨h.ro,Rlw.own_loc h.ps (fun b e=>hk b (.inl e)),h.rs.keepB (fun b e=>hk b (.inr e))⟩
theorem OwnCf.lt {w:World} {B:Nat} {A:CfA} {c:CfV} {L:List RoX} (h:OwnCf w B A c L):∀ k,cfB A c L k→B≤k∧k<w.heap.size:=by
 rintro k (e | e)
 ·exact h.ps.lt k e
 ·exact h.rs.lt k e
theorem OwnCf.uniq {w:World} {B B':Nat} {A:CfA} {c:CfV} {L L':List RoX} (h:OwnCf w B A c L) (h':OwnCf w B' A c L'):L=L':=h.rs.uniq h'.rs (h.ro.trans h'.ro.symm)
structure CfR (w:World) (A:CfA) (c:CfV):Prop where
 ps:Rw PlR 4 w A.x c.ps
 ros:Rw (RoR 0) 5 w A.y c.ros
theorem CfR.below {w w':World} {A:CfA} {c:CfV} (h:CfR w A c) (hb:Below w.heap.size w w'):CfR w' A c:=⟨h.ps.keep PlR.kp hb,h.ros.keep (RoR.kp 0) hb⟩
structure CfOk (c:CfV):Prop where
 ps:∀ x,x ∈ c.ps→PlRok x
 ros:∀ x,x ∈ c.ros→RoOk x
theorem CfR.ok {w:World} {A:CfA} {c:CfV} (h:CfR w A c):CfOk c:=⟨rw_okG (c:=pv) (ok:=PlRok) h.ps,rw_okR h.ros⟩
theorem OwnCf.rw {w:World} {B:Nat} {A:CfA} {c:CfV} {L:List RoX} (h:OwnCf w B A c L) (hk:CfOk c):CfR w A c:=by
 refine ⟨h.ps.rw (ok:=PlRok) pv_len hk.ps,?_⟩
 have:=rw_ro h.rs (fun x hx=>hk.ros x.r (by rw [← h.ro];exact List.mem_map_of_mem hx))
 rw [h.ro] at this
 exact this
structure HuV where
 us:List UserV
 ss:List SessV
 fs:List FailV
 es:List RecV
 nx:Int
structure HuA where
 u:Option Addr
 s:Option Addr
 f:Option Addr
 r:Option Addr
 uc:Nat
 sc:Nat
 fc:Nat
 rc:Nat
def OwnHu (w:World) (B:Nat) (A:HuA) (h:HuV):Prop:=Own4 w B (.slice A.u h.us.length A.uc) (.slice A.s h.ss.length A.sc) (.slice A.f h.fs.length A.fc) (.slice A.r h.es.length A.rc) h.us h.ss h.fs h.es
def huB (A:HuA) (h:HuV) (k:Nat):Prop:=Value.ownBlock (.slice A.u h.us.length A.uc)=some k ∨ Value.ownBlock (.slice A.s h.ss.length A.sc)=some k ∨ Value.ownBlock (.slice A.f h.fs.length A.fc)=some k ∨ Value.ownBlock (.slice A.r h.es.length A.rc)=some k
theorem OwnHu.now {w w':World} {B:Nat} {A:HuA} {h:HuV} (o:OwnHu w B A h) (hb:Below w.heap.size w w'):OwnHu w' B A h:=Own4.now o hb
theorem OwnHu.keep {w w':World} {B:Nat} {A:HuA} {h:HuV} (o:OwnHu w B A h) (hk:∀ b,huB A h b→w'.heap[b]?=w.heap[b]?):OwnHu w' B A h :=
 ⟨Rlw.own_loc o.u (fun b e=>hk b (.inl e)),Rlw.own_loc o.s (fun b e=>hk b (.inr (.inl e))),Rlw.own_loc o.f (fun b e=>hk b (.inr (.inr (.inl e)))),Rlw.own_loc o.r (fun b e=>hk b (.inr (.inr (.inr e)))),o.us_,o.uf,o.ur,o.sf,o.sr,o.fr⟩
theorem OwnHu.lt {w:World} {B:Nat} {A:HuA} {h:HuV} (o:OwnHu w B A h):∀ k,huB A h k→B≤k∧k<w.heap.size:=by
 rintro k (e | e | e | e)
 ·exact o.u.lt k e
 ·exact o.s.lt k e
 ·exact o.f.lt k e
 ·exact o.r.lt k e
structure HuR (w:World) (A:HuA) (h:HuV):Prop where
 us:Rw UsR 6 w A.u h.us
 ss:Rw SeR 10 w A.s h.ss
 fs:Rw FaR 3 w A.f h.fs
 es:Rw ReR 5 w A.r h.es
theorem HuR.below {w w':World} {A:HuA} {h:HuV} (o:HuR w A h) (hb:Below w.heap.size w w'):HuR w' A h:=⟨o.us.keep UsR.kp hb,o.ss.keep SeR.kp hb,o.fs.keep FaR.kp hb,o.es.keep ReR.kp hb⟩
structure HuOk (h:HuV):Prop where
 us:∀ x,x ∈ h.us→UsRok x
 ss:∀ x,x ∈ h.ss→SeRok x
 fs:∀ x,x ∈ h.fs→FaRok x
 es:∀ x,x ∈ h.es→ReRok x
theorem HuR.ok {w:World} {A:HuA} {h:HuV} (o:HuR w A h):HuOk h:=⟨rw_okG (c:=uvG) (ok:=UsRok) o.us,rw_okG (c:=svG) (ok:=SeRok) o.ss,rw_okG (c:=fvG) (ok:=FaRok) o.fs,rw_okG (c:=evG) (ok:=ReRok) o.es⟩
theorem OwnHu.rw {w:World} {B:Nat} {A:HuA} {h:HuV} (o:OwnHu w B A h) (hk:HuOk h):HuR w A h :=
 ⟨o.u.rw (ok:=UsRok) uvG_len hk.us,o.s.rw (ok:=SeRok) svG_len hk.ss,o.f.rw (ok:=FaRok) fvG_len hk.fs,o.r.rw (ok:=ReRok) evG_len hk.es⟩
def zeroHu:HuV:=⟨[],[],[],[],0⟩
def zeroHA:HuA:=⟨none,none,none,none,0,0,0,0⟩
theorem ap_none (v:Value) (n c:Nat):Ap (.slice none n c) v:=by
 intro k hk
 cases hk
theorem OwnHu.zero (w:World) (B:Nat):OwnHu w B zeroHA zeroHu :=
 ⟨OwnS.nil w B,OwnS.nil w B,OwnS.nil w B,OwnS.nil w B,ap_none _ _ _,ap_none _ _ _,ap_none _ _ _,ap_none _ _ _,ap_none _ _ _,ap_none _ _ _⟩
theorem OwnS.src {α:Type} {c:α→List Value} {K n cap:Nat} {a:Option Addr} {e:TypeId} {B:Nat} {xs:List α} {w:World} {ok:α→Prop} (h:OwnS c K e w B (.slice a n cap) xs) (hK:∀ x,(c x).length=K) (hok:∀ x,x ∈ xs→ok x) (hm:n≤1048576):Src (FR c ok) K w a n cap xs:=by
 refine ⟨h.rw hK hok,h.len,hm,(own_cap h).1,?_,?_⟩
 ·intro p hp
  rcases h.2 with ⟨h1,_⟩ | ⟨g,cap',cur,h1,_⟩
  ·cases h1;cases hp
  ·cases h1;cases hp;rfl
 ·intro hn
  rcases h.2 with ⟨h1,_⟩ | ⟨g,cap',cur,h1,_⟩
  ·cases h1;exact ⟨rfl,rfl⟩
  ·cases h1;cases hn
structure GtOk (g:GtV):Prop where
 ps:∀ x,x ∈ g.ps→PlRok x
 ros:∀ x,x ∈ g.ros→RoOk x
 us:∀ x,x ∈ g.us→UsRok x
 ss:∀ x,x ∈ g.ss→SeRok x
 fs:∀ x,x ∈ g.fs→FaRok x
 es:∀ x,x ∈ g.es→ReRok x
 fl:∀ x,x ∈ g.fl→FlRok x
 co:∀ x,x ∈ g.co→CnRok x
theorem GtR.ok {w:World} {A:GtA} {g:GtV} (h:GtR w A g):GtOk g :=
 ⟨rw_okG (c:=pv) (ok:=PlRok) h.ps,rw_okR h.ros,rw_okG (c:=uvG) (ok:=UsRok) h.us,rw_okG (c:=svG) (ok:=SeRok) h.ss,rw_okG (c:=fvG) (ok:=FaRok) h.fs,rw_okG (c:=evG) (ok:=ReRok) h.es,rw_okG (c:=wvG) (ok:=FlRok) h.fl,rw_okG (c:=cnG) (ok:=CnRok) h.co⟩
theorem OwnGt.gtR {w:World} {B:Nat} {A:GtA} {g:GtV} {L:List RoX} (h:OwnGt w B A g L) (hk:GtOk g):GtR w A g:=by
 refine ⟨h.ps.rw (ok:=PlRok) pv_len hk.ps,?_,h.gu.u.rw (ok:=UsRok) uvG_len hk.us,h.gu.s.rw (ok:=SeRok) svG_len hk.ss,h.gu.f.rw (ok:=FaRok) fvG_len hk.fs,h.gu.r.rw (ok:=ReRok) evG_len hk.es,h.fl.rw wvG_len hk.fl,h.co.rw cnG_len hk.co,(own_cap h.fl).1,(own_cap h.co).1⟩
 have:=rw_ro h.rs (fun x hx=>hk.ros x.r (by rw [← h.ro];exact List.mem_map_of_mem hx))
 rw [h.ro] at this
 exact this
theorem OwnGt.kept {w w':World} {B:Nat} {A:GtA} {g:GtV} {L:List RoX} {P:Nat→Prop} (h:OwnGt w B A g L) (hk:Rel.Keep P w w') (hP:∀ k,gtBk A g L k→P k):OwnGt w' B A g L :=
 ⟨h.ro,own_keep h.ps hk (fun k e=>hP k (.inl (.inl e))),h.rs.keepB (fun b hb=>hk.block b (hP b (.inl (.inr hb)))),own4_keep h.gu hk (fun k e=>hP k (.inr (.inl (.inl e)))) (fun k e=>hP k (.inr (.inl (.inr (.inl e))))) (fun k e=>hP k (.inr (.inl (.inr (.inr (.inl e)))))) (fun k e=>hP k (.inr (.inl (.inr (.inr (.inr e)))))),own_keep h.fl hk (fun k e=>hP k (.inr (.inr (.inl e)))),own_keep h.co hk (fun k e=>hP k (.inr (.inr (.inr e))))⟩
theorem OwnGt.lt {w:World} {B:Nat} {A:GtA} {g:GtV} {L:List RoX} (h:OwnGt w B A g L):∀ k,gtBk A g L k→B≤k∧k<w.heap.size:=by
 rintro k ((e | e) | (e | e | e | e) | e | e)
 ·exact h.ps.lt k e
 ·exact h.rs.lt k e
 ·exact h.gu.u.lt k e
 ·exact h.gu.s.lt k e
 ·exact h.gu.f.lt k e
 ·exact h.gu.r.lt k e
 ·exact h.fl.lt k e
 ·exact h.co.lt k e
def zeroGt:GtV:=⟨0,0,0,⟨#[]⟩,⟨#[]⟩,0,[],[],[],[],[],[],0,[],[],0,0,0⟩
def zeroGA:GtA:=⟨none,none,none,none,none,none,none,none,0,0,0,0,0,0,0,0⟩
theorem OwnGt.zero (w:World) (B:Nat):OwnGt w B zeroGA zeroGt [] :=
 ⟨rfl,OwnS.nil w B,⟨OwnS.nil w B,(fun x hx=>by cases hx),List.Pairwise.nil⟩,⟨OwnS.nil w B,OwnS.nil w B,OwnS.nil w B,OwnS.nil w B,ap_none _ _ _,ap_none _ _ _,ap_none _ _ _,ap_none _ _ _,ap_none _ _ _,ap_none _ _ _⟩,OwnS.nil w B,OwnS.nil w B⟩
theorem zeroGt_ok:GtOk zeroGt:=⟨(fun _ h=>by cases h),(fun _ h=>by cases h),(fun _ h=>by cases h),(fun _ h=>by cases h),(fun _ h=>by cases h),(fun _ h=>by cases h),(fun _ h=>by cases h),(fun _ h=>by cases h)⟩
structure R8 (lo:Nat) (g:GtV) (b1 b2 bu bs bf br bl bc:Nat) (W:World):Prop where
 l:lo≤b1∧lo≤b2∧lo≤bu∧lo≤bs∧lo≤bf∧lo≤br∧lo≤bl∧lo≤bc
 r:Rw PlR 4 W (some ⟨b1,0,none⟩) g.ps∧Rw (RoR lo) 5 W (some ⟨b2,0,none⟩) g.ros∧Rw UsR 6 W (some ⟨bu,0,none⟩) g.us∧Rw SeR 10 W (some ⟨bs,0,none⟩) g.ss∧Rw FaR 3 W (some ⟨bf,0,none⟩) g.fs∧Rw ReR 5 W (some ⟨br,0,none⟩) g.es∧Rw FlR 9 W (some ⟨bl,0,none⟩) g.fl∧Rw CnR 11 W (some ⟨bc,0,none⟩) g.co
theorem R8.put {lo:Nat} {g:GtV} {b1 b2 bu bs bf br bl bc:Nat} {W:World} (h:R8 lo g b1 b2 bu bs bf br bl bc W) {q:Nat} (hq:q<lo) (o:Nat) (vs:List Value):R8 lo g b1 b2 bu bs bf br bl bc (W.setCells q o vs):=by
 obtain ⟨⟨l1,l2,l3,l4,l5,l6,l7,l8⟩,r1,r2,r3,r4,r5,r6,r7,r8⟩:=h
 exact ⟨⟨l1,l2,l3,l4,l5,l6,l7,l8⟩,row_put r1 (by omega) (fun _ _ _ _ h=>h),row_putR r2 (by omega) hq,row_put r3 (by omega) (fun _ _ _ _ h=>h),row_put r4 (by omega) (fun _ _ _ _ h=>h),row_put r5 (by omega) (fun _ _ _ _ h=>h),row_put r6 (by omega) (fun _ _ _ _ h=>h),row_put r7 (by omega) (fun _ _ _ _ h=>h),row_put r8 (by omega) (fun _ _ _ _ h=>h)⟩
theorem GtR.of {w:World} {g:GtV} {b1 b2 bu bs bf br bl bc lo:Nat} {c1 c2 c3 c4 c5 c6 c7 c8:Nat} (h:Rw PlR 4 w (some ⟨b1,0,none⟩) g.ps∧Rw (RoR lo) 5 w (some ⟨b2,0,none⟩) g.ros∧Rw UsR 6 w (some ⟨bu,0,none⟩) g.us∧Rw SeR 10 w (some ⟨bs,0,none⟩) g.ss∧Rw FaR 3 w (some ⟨bf,0,none⟩) g.fs∧Rw ReR 5 w (some ⟨br,0,none⟩) g.es∧Rw FlR 9 w (some ⟨bl,0,none⟩) g.fl∧Rw CnR 11 w (some ⟨bc,0,none⟩) g.co) (k7:g.fl.length≤c7) (k8:g.co.length≤c8):GtR w ⟨some ⟨b1,0,none⟩,some ⟨b2,0,none⟩,some ⟨bu,0,none⟩,some ⟨bs,0,none⟩,some ⟨bf,0,none⟩,some ⟨br,0,none⟩,some ⟨bl,0,none⟩,some ⟨bc,0,none⟩,c1,c2,c3,c4,c5,c6,c7,c8⟩ g :=
 ⟨h.1,Rw_lower h.2.1 (Nat.zero_le _),h.2.2.1,h.2.2.2.1,h.2.2.2.2.1,h.2.2.2.2.2.1,h.2.2.2.2.2.2.1,h.2.2.2.2.2.2.2,k7,k8⟩
theorem zPlace:#[.int .i64 0,.int .i64 0,.int .i64 0,.int .i64 0].toList=pv default:=rfl
set_option maxHeartbeats 4000000 in
theorem toPlaceS_own (a:Option Addr) (len cap:Nat) (xs:List PlaceV) (w:World) (h:Rw PlR 4 w a xs) (hl:xs.length=len) (hc:len≤1048576) :
  Calls Tryz.prog 31 #[.slice a len cap] w fun e w'=>e=.returned (.slice (some ⟨w.heap.size,0,none⟩) len len)∧OwnS pv 4 135 w' w.heap.size (.slice (some ⟨w.heap.size,0,none⟩) len len) xs∧(∀ x,x ∈ xs→PlRok x)∧Below w.heap.size w w':=by
 have RW:Hid (Rw PlR 4 w a xs):=h
 have HK:Hid (∀ x,x ∈ xs→PlRok x):=by
  intro x hx
  obtain ⟨i,hi⟩:=List.getElem?_of_mem hx
  obtain ⟨b,off,vs,_,_,_,h2,_⟩:=h.at PlR.kp (Below.refl _ _) hi
  exact h2.2
 clear h
 obtain ⟨i0,hi,hz0,hz1,hz2⟩:=info_parts infoPlace
 have hmk:=run_make (P:=Tryz.prog) w 37 135 i0 (.agg #[.int .i64 0,.int .i64 0,.int .i64 0,.int .i64 0]) Tryz.underlying37 hi hz0 .i64 .i64 len len (by omega) (Int.le_refl _) (by rw [hz2];omega) (by omega)
 rw [hz1,Int.toNat_natCast] at hmk
 have HM:Hid (OwnS pv 4 135 (w.alloc (.cells (madeCells #[.int .i64 0,.int .i64 0,.int .i64 0,.int .i64 0] (len * 4)) 135)) w.heap.size (.slice (some ⟨w.heap.size,0,none⟩) len len) (List.replicate len default)∧Below w.heap.size w (w.alloc (.cells (madeCells #[.int .i64 0,.int .i64 0,.int .i64 0,.int .i64 0] (len * 4)) 135))):=⟨OwnS.made w _ _ len default _ zPlace rfl (by omega) (Nat.le_refl _) (by unfold maxLen;omega),(Below.refl _ _).alloc (Nat.le_refl _) _⟩
 have hmk2:(Instr.makeSlice 37 (.int .i64 (len:Int)) (.int .i64 (len:Int))).run Tryz.prog w=.ok (.slice (some ⟨w.heap.size,0,none⟩) len len) (w.alloc (.cells (madeCells #[.int .i64 0,.int .i64 0,.int .i64 0,.int .i64 0] (len * 4)) 135)):=hmk
 clear hmk hi hz0 hz1 hz2
 obtain ⟨W,hW⟩:∃ W,W=(w.alloc (.cells (madeCells #[.int .i64 0,.int .i64 0,.int .i64 0,.int .i64 0] (len * 4)) 135)):=⟨_,rfl⟩
 rw [← hW] at HM hmk2
 clear hW
 go_enter Tryz.func31,Tryz.ntmps31
 go_wp2
 go_loopw [4] (fun i wr=>∃ (k:Nat) (L:List PlaceV),k≤len∧i=.int .i64 k∧Hid (OwnS pv 4 135 wr w.heap.size (.slice (some ⟨w.heap.size,0,none⟩) len len) L∧L.length=len∧L.take k=xs.take k∧Below w.heap.size w wr)) (fun i _=>len - (intOf i).toNat)
 case atStart=>exact ⟨0,_,Nat.zero_le _,rfl,HM.out.1,List.length_replicate ..,rfl,HM.out.2⟩
 case round =>
  obtain ⟨k,L,hk,rfl,X⟩:=hrel
  by_cases hlt:k<len
  ·obtain ⟨x,hx⟩:=at_of hl hlt
   obtain ⟨b,off,vs,rfl,hb,hvl,hR,hc⟩:=RW.out.at PlR.kp X.out.2.2.2 hx
   have TS:Hid ((L.set k x).take (k+1)=xs.take (k+1)):=takeS_set (by rw [X.out.2.1,hl]) hx X.out.2.2.1
   obtain ⟨ip,bt,lo,hi⟩:=x
   obtain ⟨rfl,hok⟩:=hR
   clear hok
   have q0:wr.cell? ⟨b,off+k * 4,none⟩=some (.int .i64 ip):=hc 0 _ rfl
   have q1:wr.cell? ⟨b,off+k * 4+1,none⟩=some (.int .i64 bt):=hc 1 _ rfl
   have q2:wr.cell? ⟨b,off+k * 4+2,none⟩=some (.int .i64 lo):=hc 2 _ rfl
   have q3:wr.cell? ⟨b,off+k * 4+3,none⟩=some (.int .i64 hi):=hc 3 _ rfl
   have HT:Hid (∀ w,Calls Tryz.prog 79 #[.agg #[.int .i64 ip,.int .i64 bt,.int .i64 lo,.int .i64 hi]] w fun e w'=>e=.returned (.agg #[.int .i64 ip,.int .i64 bt,.int .i64 lo,.int .i64 hi])∧Below w.heap.size w w'):=fun w=>toPlace_any ip bt lo hi w
   have hltz:(k:Int)<(len:Int):=by omega
   clear hc
   go_wp2_with fail
   refine (HT.out _).mono ?_
   rintro e w1 ⟨rfl,b1⟩
   have o1:=X.out.1.now b1
   obtain ⟨y,hy⟩:=at_of (k:=k) X.out.2.1 hlt
   obtain ⟨c0,z0⟩:=o1.cell pv_len (j:=0) hy rfl
   obtain ⟨c1,z1⟩:=o1.cell pv_len (j:=1) hy rfl
   obtain ⟨c2,z2⟩:=o1.cell pv_len (j:=2) hy rfl
   obtain ⟨c3,z3⟩:=o1.cell pv_len (j:=3) hy rfl
   replace c0:w1.cell? ⟨w.heap.size,k * 4,none⟩=some (.int .i64 y.ip):=c0
   replace z0:w1.frozen? ⟨w.heap.size,k * 4,none⟩=false:=z0
   have Y0:∀ W1,W1=((((w1.setCell ⟨w.heap.size,k * 4,none⟩ (.int .i64 ip)).setCell ⟨w.heap.size,k * 4+1,none⟩ (.int .i64 bt)).setCell ⟨w.heap.size,k * 4+2,none⟩ (.int .i64 lo)).setCell ⟨w.heap.size,k * 4+3,none⟩ (.int .i64 hi))→OwnS pv 4 135 W1 w.heap.size (.slice (some ⟨w.heap.size,0,none⟩) len len) (L.set k ⟨ip,bt,lo,hi⟩)∧(L.set k ⟨ip,bt,lo,hi⟩).length=len∧(L.set k ⟨ip,bt,lo,hi⟩).take (k+1)=xs.take (k+1)∧Below w.heap.size w W1:=by
    intro W1 hW1
    have h2:=o1.store pv_len hlt ⟨ip,bt,lo,hi⟩
    have e3:W1=wsets w1 w.heap.size (k * 4) (pv ⟨ip,bt,lo,hi⟩):=hW1
    rw [← e3] at h2
    exact ⟨h2.1,by rw [List.length_set];exact X.out.2.1,TS.out,(X.out.2.2.2.trans (b1.mono X.out.2.2.2.size)).trans (below_row h2.2 (Nat.le_refl _) (Nat.le_trans X.out.2.2.2.size b1.size))⟩
   have Y:Hid (OwnS pv 4 135 ((((w1.setCell ⟨w.heap.size,k * 4,none⟩ (.int .i64 ip)).setCell ⟨w.heap.size,k * 4+1,none⟩ (.int .i64 bt)).setCell ⟨w.heap.size,k * 4+2,none⟩ (.int .i64 lo)).setCell ⟨w.heap.size,k * 4+3,none⟩ (.int .i64 hi)) w.heap.size (.slice (some ⟨w.heap.size,0,none⟩) len len) (L.set k ⟨ip,bt,lo,hi⟩)∧(L.set k ⟨ip,bt,lo,hi⟩).length=len∧(L.set k ⟨ip,bt,lo,hi⟩).take (k+1)=xs.take (k+1)∧Below w.heap.size w ((((w1.setCell ⟨w.heap.size,k * 4,none⟩ (.int .i64 ip)).setCell ⟨w.heap.size,k * 4+1,none⟩ (.int .i64 bt)).setCell ⟨w.heap.size,k * 4+2,none⟩ (.int .i64 lo)).setCell ⟨w.heap.size,k * 4+3,none⟩ (.int .i64 hi))):=Y0 _ rfl
   clear Y0
   clear o1 b1 q0 q1 q2 q3 HT X HM hmk2 hx hy TS
   go_wp2
   go_roundw
   case rel=>exact ⟨k+1,_,by omega,by go_num,Y⟩
   case measure=>simp [intOf];omega
  ·obtain rfl:k=len:=by omega
   have e1:L=xs:=by
    have:=X.out.2.2.1
    rw [List.take_of_length_le (by rw [X.out.2.1];exact Nat.le_refl _),List.take_of_length_le (by omega)] at this
    exact this
   subst e1
   go_wp2
   go_ret
   exact ⟨rfl,X.out.1,HK.out,X.out.2.2.2⟩
theorem zRule:#[.int .i64 0,.int .i64 0,.int .i64 0,.int .i64 0,.int .i64 0,.bool false].toList=rv default:=rfl
set_option maxHeartbeats 4000000 in
theorem toRuleS_own (a:Option Addr) (len cap:Nat) (xs:List RuleV) (w:World) (h:Rw RuR 6 w a xs) (hl:xs.length=len) (hc:len≤1048576) :
  Calls Tryz.prog 131 #[.slice a len cap] w fun e w'=>e=.returned (.slice (some ⟨w.heap.size,0,none⟩) len len)∧OwnS rv 6 156 w' w.heap.size (.slice (some ⟨w.heap.size,0,none⟩) len len) xs∧(∀ x,x ∈ xs→RuRok x)∧Below w.heap.size w w':=by
 have RW:Hid (Rw RuR 6 w a xs):=h
 have HK:Hid (∀ x,x ∈ xs→RuRok x):=by
  intro x hx
  obtain ⟨i,hi⟩:=List.getElem?_of_mem hx
  obtain ⟨b,off,vs,_,_,_,h2,_⟩:=h.at RuR.kp (Below.refl _ _) hi
  exact h2.2
 clear h
 obtain ⟨i0,hi,hz0,hz1,hz2⟩:=info_parts infoRule
 have hmk:=run_make (P:=Tryz.prog) w 140 156 i0 (.agg #[.int .i64 0,.int .i64 0,.int .i64 0,.int .i64 0,.int .i64 0,.bool false]) Tryz.underlying140 hi hz0 .i64 .i64 len len (by omega) (Int.le_refl _) (by rw [hz2];omega) (by omega)
 rw [hz1,Int.toNat_natCast] at hmk
 have HM:Hid (OwnS rv 6 156 (w.alloc (.cells (madeCells #[.int .i64 0,.int .i64 0,.int .i64 0,.int .i64 0,.int .i64 0,.bool false] (len * 6)) 156)) w.heap.size (.slice (some ⟨w.heap.size,0,none⟩) len len) (List.replicate len default)∧Below w.heap.size w (w.alloc (.cells (madeCells #[.int .i64 0,.int .i64 0,.int .i64 0,.int .i64 0,.int .i64 0,.bool false] (len * 6)) 156))):=⟨OwnS.made w _ _ len default _ zRule rfl (by omega) (Nat.le_refl _) (by unfold maxLen;omega),(Below.refl _ _).alloc (Nat.le_refl _) _⟩
 have hmk2:(Instr.makeSlice 140 (.int .i64 (len:Int)) (.int .i64 (len:Int))).run Tryz.prog w=.ok (.slice (some ⟨w.heap.size,0,none⟩) len len) (w.alloc (.cells (madeCells #[.int .i64 0,.int .i64 0,.int .i64 0,.int .i64 0,.int .i64 0,.bool false] (len * 6)) 156)):=hmk
 clear hmk hi hz0 hz1 hz2
 obtain ⟨W,hW⟩:∃ W,W=(w.alloc (.cells (madeCells #[.int .i64 0,.int .i64 0,.int .i64 0,.int .i64 0,.int .i64 0,.bool false] (len * 6)) 156)):=⟨_,rfl⟩
 rw [← hW] at HM hmk2
 clear hW
 go_enter Tryz.func131,Tryz.ntmps131
 go_wp2
 go_loopw [4] (fun i wr=>∃ (k:Nat) (L:List RuleV),k≤len∧i=.int .i64 k∧Hid (OwnS rv 6 156 wr w.heap.size (.slice (some ⟨w.heap.size,0,none⟩) len len) L∧L.length=len∧L.take k=xs.take k∧Below w.heap.size w wr)) (fun i _=>len - (intOf i).toNat)
 case atStart=>exact ⟨0,_,Nat.zero_le _,rfl,HM.out.1,List.length_replicate ..,rfl,HM.out.2⟩
 case round =>
  obtain ⟨k,L,hk,rfl,X⟩:=hrel
  by_cases hlt:k<len
  ·obtain ⟨x,hx⟩:=at_of hl hlt
   obtain ⟨b,off,vs,rfl,hb,hvl,hR,hc⟩:=RW.out.at RuR.kp X.out.2.2.2 hx
   have TS:Hid ((L.set k x).take (k+1)=xs.take (k+1)):=takeS_set (by rw [X.out.2.1,hl]) hx X.out.2.2.1
   obtain ⟨p,ip,bt,lo,hi,al⟩:=x
   obtain ⟨rfl,hok⟩:=hR
   clear hok
   have q0:wr.cell? ⟨b,off+k * 6,none⟩=some (.int .i64 p):=hc 0 _ rfl
   have q1:wr.cell? ⟨b,off+k * 6+1,none⟩=some (.int .i64 ip):=hc 1 _ rfl
   have q2:wr.cell? ⟨b,off+k * 6+2,none⟩=some (.int .i64 bt):=hc 2 _ rfl
   have q3:wr.cell? ⟨b,off+k * 6+3,none⟩=some (.int .i64 lo):=hc 3 _ rfl
   have q4:wr.cell? ⟨b,off+k * 6+4,none⟩=some (.int .i64 hi):=hc 4 _ rfl
   have q5:wr.cell? ⟨b,off+k * 6+5,none⟩=some (.bool al):=hc 5 _ rfl
   have HT:Hid (∀ w,Calls Tryz.prog 159 #[.agg #[.int .i64 p,.int .i64 ip,.int .i64 bt,.int .i64 lo,.int .i64 hi,.bool al]] w fun e w'=>e=.returned (.agg #[.int .i64 p,.int .i64 ip,.int .i64 bt,.int .i64 lo,.int .i64 hi,.bool al])∧Below w.heap.size w w'):=fun w=>toRule_any p ip bt lo hi al w
   have hltz:(k:Int)<(len:Int):=by omega
   clear hc
   go_wp2_with fail
   refine (HT.out _).mono ?_
   rintro e w1 ⟨rfl,b1⟩
   have o1:=X.out.1.now b1
   obtain ⟨y,hy⟩:=at_of (k:=k) X.out.2.1 hlt
   obtain ⟨c0,z0⟩:=o1.cell rv_len (j:=0) hy rfl
   obtain ⟨c1,z1⟩:=o1.cell rv_len (j:=1) hy rfl
   obtain ⟨c2,z2⟩:=o1.cell rv_len (j:=2) hy rfl
   obtain ⟨c3,z3⟩:=o1.cell rv_len (j:=3) hy rfl
   obtain ⟨c4,z4⟩:=o1.cell rv_len (j:=4) hy rfl
   obtain ⟨c5,z5⟩:=o1.cell rv_len (j:=5) hy rfl
   replace c0:w1.cell? ⟨w.heap.size,k * 6,none⟩=some (.int .i64 y.p):=c0
   replace z0:w1.frozen? ⟨w.heap.size,k * 6,none⟩=false:=z0
   have Y0:∀ W1,W1=((((((w1.setCell ⟨w.heap.size,k * 6,none⟩ (.int .i64 p)).setCell ⟨w.heap.size,k * 6+1,none⟩ (.int .i64 ip)).setCell ⟨w.heap.size,k * 6+2,none⟩ (.int .i64 bt)).setCell ⟨w.heap.size,k * 6+3,none⟩ (.int .i64 lo)).setCell ⟨w.heap.size,k * 6+4,none⟩ (.int .i64 hi)).setCell ⟨w.heap.size,k * 6+5,none⟩ (.bool al))→OwnS rv 6 156 W1 w.heap.size (.slice (some ⟨w.heap.size,0,none⟩) len len) (L.set k ⟨p,ip,bt,lo,hi,al⟩)∧(L.set k ⟨p,ip,bt,lo,hi,al⟩).length=len∧(L.set k ⟨p,ip,bt,lo,hi,al⟩).take (k+1)=xs.take (k+1)∧Below w.heap.size w W1:=by
    intro W1 hW1
    have h2:=o1.store rv_len hlt ⟨p,ip,bt,lo,hi,al⟩
    have e3:W1=wsets w1 w.heap.size (k * 6) (rv ⟨p,ip,bt,lo,hi,al⟩):=hW1
    rw [← e3] at h2
    exact ⟨h2.1,by rw [List.length_set];exact X.out.2.1,TS.out,(X.out.2.2.2.trans (b1.mono X.out.2.2.2.size)).trans (below_row h2.2 (Nat.le_refl _) (Nat.le_trans X.out.2.2.2.size b1.size))⟩
   have Y:Hid (OwnS rv 6 156 ((((((w1.setCell ⟨w.heap.size,k * 6,none⟩ (.int .i64 p)).setCell ⟨w.heap.size,k * 6+1,none⟩ (.int .i64 ip)).setCell ⟨w.heap.size,k * 6+2,none⟩ (.int .i64 bt)).setCell ⟨w.heap.size,k * 6+3,none⟩ (.int .i64 lo)).setCell ⟨w.heap.size,k * 6+4,none⟩ (.int .i64 hi)).setCell ⟨w.heap.size,k * 6+5,none⟩ (.bool al)) w.heap.size (.slice (some ⟨w.heap.size,0,none⟩) len len) (L.set k ⟨p,ip,bt,lo,hi,al⟩)∧(L.set k ⟨p,ip,bt,lo,hi,al⟩).length=len∧(L.set k ⟨p,ip,bt,lo,hi,al⟩).take (k+1)=xs.take (k+1)∧Below w.heap.size w ((((((w1.setCell ⟨w.heap.size,k * 6,none⟩ (.int .i64 p)).setCell ⟨w.heap.size,k * 6+1,none⟩ (.int .i64 ip)).setCell ⟨w.heap.size,k * 6+2,none⟩ (.int .i64 bt)).setCell ⟨w.heap.size,k * 6+3,none⟩ (.int .i64 lo)).setCell ⟨w.heap.size,k * 6+4,none⟩ (.int .i64 hi)).setCell ⟨w.heap.size,k * 6+5,none⟩ (.bool al))):=Y0 _ rfl
   clear Y0
   clear o1 b1 q0 q1 q2 q3 q4 q5 HT X HM hmk2 hx hy TS
   go_wp2
   go_roundw
   case rel=>exact ⟨k+1,_,by omega,by go_num,Y⟩
   case measure=>simp [intOf];omega
  ·obtain rfl:k=len:=by omega
   have e1:L=xs:=by
    have:=X.out.2.2.1
    rw [List.take_of_length_le (by rw [X.out.2.1];exact Nat.le_refl _),List.take_of_length_le (by omega)] at this
    exact this
   subst e1
   go_wp2
   go_ret
   exact ⟨rfl,X.out.1,HK.out,X.out.2.2.2⟩
theorem own_cellsC {α : Type} {c : α → List Value} {K : Nat} {e : TypeId} {B q : Nat} {v : Value} {xs : List α} (hq : q < B) : ∀ (vs : List Value) (o : Nat) (W : World), OwnS c K e W B v xs → OwnS c K e (W.setCells q o vs) B v xs
  | [], _, _, h => h
  | x :: r, o, W, h => by
    rw [World.setCells]
    refine own_cellsC hq r (o + 1) _ (h.kept (grown_set W ⟨q, o, none⟩ x) ?_)
    cases hb : v.ownBlock with
    | none => exact Or.inl rfl
    | some k => exact Or.inr (fun he => by have := (h.lt k hb).1; have : k = q := by simpa using he
                                           omega)
structure TR (w:World) (nm:ByteArray) (a:Option Addr) (len cap:Nat) (q m i:Int) (cs:List Value) (W:World):Prop where
 a:Bx W w.heap.size [.string nm,.slice a len cap,.int .i64 q,.int .i64 m,.int .i64 i]
 r:Bx W (w.heap.size+1) [.string ⟨#[]⟩,.slice none 0 0,.int .i64 0,.int .i64 0,.int .i64 0]
 n:Bx W (w.heap.size+1+1) cs
 b:Below w.heap.size w W
theorem TR.call {w:World} {nm:ByteArray} {a:Option Addr} {len cap:Nat} {q m i:Int} {cs:List Value} {W W':World} (h:TR w nm a len cap q m i cs W) (hb:Below W.heap.size W W'):TR w nm a len cap q m i cs W':=⟨h.a.below hb,h.r.below hb,h.n.below hb,h.b.trans (hb.mono h.b.size)⟩
theorem TR.put {w:World} {nm:ByteArray} {a:Option Addr} {len cap:Nat} {q m i:Int} {cs:List Value} {W:World} (h:TR w nm a len cap q m i cs W) (o:Nat) (vs:List Value):TR w nm a len cap q m i (sets cs o vs) (W.setCells (w.heap.size+1+1) o vs) :=
 ⟨h.a.apartO vs (by omega),h.r.apartO vs (by omega),h.n.sets vs o _ _,below_cells (by omega) vs o _ h.b⟩
set_option maxHeartbeats 4000000 in
theorem toRole_own (nm:ByteArray) (rs:List RuleV) (q m i:Int) (a:Option Addr) (len cap:Nat) (w:World) (h:Rw RuR 6 w a rs) (hl:rs.length=len) (hc:len≤1048576) :
  Calls Tryz.prog 80 #[.agg #[.string nm,.slice a len cap,.int .i64 q,.int .i64 m,.int .i64 i]] w fun e w'=>∃ b:Nat,e=.returned (.agg #[.string nm,.slice (some ⟨b,0,none⟩) len len,.int .i64 q,.int .i64 m,.int .i64 i])∧OwnS rv 6 156 w' w.heap.size (.slice (some ⟨b,0,none⟩) len len) rs∧Below w.heap.size w w':=by
 have HA:Hid (∀ W,Below w.heap.size w W→Calls Tryz.prog 131 #[.slice a len cap] W fun e w'=>e=.returned (.slice (some ⟨W.heap.size,0,none⟩) len len)∧OwnS rv 6 156 w' W.heap.size (.slice (some ⟨W.heap.size,0,none⟩) len len) rs∧(∀ x,x ∈ rs→RuRok x)∧Below W.heap.size W w'):=fun W b=>toRuleS_own a len cap rs W (h.keep RuR.kp b) hl hc
 clear h
 obtain ⟨W0,hW0⟩:∃ W0,W0=(((w.alloc (.cells #[.string nm,.slice a len cap,.int .i64 q,.int .i64 m,.int .i64 i] 111)).alloc (.cells #[.string ⟨#[]⟩,.slice none 0 0,.int .i64 0,.int .i64 0,.int .i64 0] 142)).alloc (.cells #[.string nm,.slice none 0 0,.int .i64 0,.int .i64 0,.int .i64 0] 142)):=⟨_,rfl⟩
 have hz0:W0.heap.size=w.heap.size+1+1+1:=by rw [hW0];simp
 have T0:Hid (TR w nm a len cap q m i [.string nm,.slice none 0 0,.int .i64 0,.int .i64 0,.int .i64 0] W0):=by
  rw [hW0]
  refine ⟨?_,?_,?_,?_⟩
  ·exact ((Bx.new w #[.string nm,.slice a len cap,.int .i64 q,.int .i64 m,.int .i64 i] 111).below ((Below.refl _ _).alloc (Nat.le_refl _) _)).below ((Below.refl _ _).alloc (Nat.le_refl _) _)
  ·have h:=Bx.new (w.alloc (.cells #[.string nm,.slice a len cap,.int .i64 q,.int .i64 m,.int .i64 i] 111)) #[.string ⟨#[]⟩,.slice none 0 0,.int .i64 0,.int .i64 0,.int .i64 0] 142
   rw [World.size_alloc] at h
   exact h.below ((Below.refl _ _).alloc (Nat.le_refl _) _)
  ·have h:=Bx.new ((w.alloc (.cells #[.string nm,.slice a len cap,.int .i64 q,.int .i64 m,.int .i64 i] 111)).alloc (.cells #[.string ⟨#[]⟩,.slice none 0 0,.int .i64 0,.int .i64 0,.int .i64 0] 142)) #[.string nm,.slice none 0 0,.int .i64 0,.int .i64 0,.int .i64 0] 142
   rw [World.size_alloc,World.size_alloc] at h
   exact h
  ·exact (((Below.refl _ _).alloc (Nat.le_refl _) _).alloc (by simp) _).alloc (by simp;omega) _
 go_enter Tryz.func80,Tryz.ntmps80
 go_wp2_with fail
 rw [← hW0]
 refine (HA.out _ T0.out.b).mono ?_
 rintro e w1 ⟨rfl,o1,-,bx⟩
 rw [hz0] at o1
 have T1:Hid (TR w nm a len cap q m i [.string nm,.slice none 0 0,.int .i64 0,.int .i64 0,.int .i64 0] w1):=T0.out.call bx
 have Y1:Hid (OwnS rv 6 156 w1 (w.heap.size+1+1+1) (.slice (some ⟨w.heap.size+1+1+1,0,none⟩) len len) rs):=o1
 rw [hz0]
 clear o1 bx T0 hW0 hz0 HA
 go_wp2_with (first | (refine wpl_put1 140 rfl _ _ rfl (w.heap.size+1+1) 1 (.slice (some ⟨w.heap.size+1+1+1,0,none⟩) len len) rfl rfl T1.out.n rfl rfl rfl ?_;intro w2 hw2;have T2:Hid (TR w nm a len cap q m i [.string nm,.slice (some ⟨w.heap.size+1+1+1,0,none⟩) len len,.int .i64 0,.int .i64 0,.int .i64 0] w2):=(by rw [hw2];exact T1.out.put 1 [.slice (some ⟨w.heap.size+1+1+1,0,none⟩) len len]);have Y2:Hid (OwnS rv 6 156 w2 (w.heap.size+1+1+1) (.slice (some ⟨w.heap.size+1+1+1,0,none⟩) len len) rs):=(by rw [hw2];exact own_cellsC (by omega) _ _ _ Y1.out);clear hw2 T1 Y1;have k2:=T2.out.a.cell 2 rfl) | (refine wpl_put1 3 rfl _ _ rfl (w.heap.size+1+1) 2 (.int .i64 q) rfl rfl T2.out.n rfl rfl rfl ?_;intro w3 hw3;have T3:Hid (TR w nm a len cap q m i [.string nm,.slice (some ⟨w.heap.size+1+1+1,0,none⟩) len len,.int .i64 q,.int .i64 0,.int .i64 0] w3):=(by rw [hw3];exact T2.out.put 2 [.int .i64 q]);have Y3:Hid (OwnS rv 6 156 w3 (w.heap.size+1+1+1) (.slice (some ⟨w.heap.size+1+1+1,0,none⟩) len len) rs):=(by rw [hw3];exact own_cellsC (by omega) _ _ _ Y2.out);clear hw3 T2 Y2 k2;have k3:=T3.out.a.cell 3 rfl) | (refine wpl_put1 3 rfl _ _ rfl (w.heap.size+1+1) 3 (.int .i64 m) rfl rfl T3.out.n rfl rfl rfl ?_;intro w4 hw4;have T4:Hid (TR w nm a len cap q m i [.string nm,.slice (some ⟨w.heap.size+1+1+1,0,none⟩) len len,.int .i64 q,.int .i64 m,.int .i64 0] w4):=(by rw [hw4];exact T3.out.put 3 [.int .i64 m]);have Y4:Hid (OwnS rv 6 156 w4 (w.heap.size+1+1+1) (.slice (some ⟨w.heap.size+1+1+1,0,none⟩) len len) rs):=(by rw [hw4];exact own_cellsC (by omega) _ _ _ Y3.out);clear hw4 T3 Y3 k3;have k4:=T4.out.a.cell 4 rfl) | (refine wpl_put1 3 rfl _ _ rfl (w.heap.size+1+1) 4 (.int .i64 i) rfl rfl T4.out.n rfl rfl rfl ?_;intro w5 hw5;have T5:Hid (TR w nm a len cap q m i [.string nm,.slice (some ⟨w.heap.size+1+1+1,0,none⟩) len len,.int .i64 q,.int .i64 m,.int .i64 i] w5):=(by rw [hw5];exact T4.out.put 4 [.int .i64 i]);have Y5:Hid (OwnS rv 6 156 w5 (w.heap.size+1+1+1) (.slice (some ⟨w.heap.size+1+1+1,0,none⟩) len len) rs):=(by rw [hw5];exact own_cellsC (by omega) _ _ _ Y4.out);clear hw5 T4 Y4 k4) | (refine wpl_getO 142 rfl _ rfl (w.heap.size+1+1) 0 [.string nm,.slice (some ⟨w.heap.size+1+1+1,0,none⟩) len len,.int .i64 q,.int .i64 m,.int .i64 i] rfl T5.out.n rfl _ Tryz.underlying142 rfl rfl ?_) | (refine wpl_putO 142 rfl _ _ rfl (w.heap.size+1) 0 _ rfl rfl T5.out.r rfl rfl rfl ?_;intro w6 hw6 R6;have B6:Hid (Below w.heap.size w w6):=(by rw [hw6];exact below_cells (by omega) _ _ _ T5.out.b);have Y6:Hid (OwnS rv 6 156 w6 (w.heap.size+1+1+1) (.slice (some ⟨w.heap.size+1+1+1,0,none⟩) len len) rs):=(by rw [hw6];exact own_cellsC (by omega) _ _ _ Y5.out);clear hw6) | fail)
 refine bodyPost_ret (v:=.agg #[.string nm,.slice (some ⟨w.heap.size+1+1+1,0,none⟩) len len,.int .i64 q,.int .i64 m,.int .i64 i]) (results_cell Tryz.results80 (w.heap.size+1) rfl R6 _ Tryz.underlying142 rfl rfl) rfl ?_
 exact ⟨_,rfl,Y6.out.lower (by omega),B6.out⟩
def zRo:RoX:=⟨⟨⟨#[]⟩,[],0,0,0⟩,none,0⟩
instance:Inhabited RoX:=⟨zRo⟩
theorem infoRo:(Tryz.prog.info? 142).map (fun i=>(i.zero,i.size,i.bytes))=some (some (.agg #[.string ⟨#[]⟩,.slice none 0 0,.int .i64 0,.int .i64 0,.int .i64 0]),5,64):=by kernel_rfl
theorem zRole:#[.string ⟨#[]⟩,.slice none 0 0,.int .i64 0,.int .i64 0,.int .i64 0].toList=roG default:=rfl
theorem pair_new {L:List RoX} {k:Nat} {y:RoX} (h:L.Pairwise (fun x y=>ApB x.sl y.sl)) (hy:∀ z,z ∈ L→ApB z.sl y.sl):(L.set k y).Pairwise (fun x y=>ApB x.sl y.sl):=by
 rw [List.pairwise_iff_getElem]
 intro i j hi hj hij
 rw [List.length_set] at hi hj
 have hp:=List.pairwise_iff_getElem.1 h i j hi hj hij
 rw [List.getElem_set,List.getElem_set]
 by_cases h1:k=i
 ·rw [if_pos h1,if_neg (by omega)]
  exact (hy _ (List.getElem_mem hj)).symm
 ·rw [if_neg h1]
  by_cases h2:k=j
  ·rw [if_pos h2];exact hy _ (List.getElem_mem hi)
  ·rw [if_neg h2];exact hp
theorem rep_own {w:World} {B len:Nat} {v:Value} (h:OwnS roG 5 142 w B v (List.replicate len default)):OwnRo w B v (List.replicate len default):=by
 refine ⟨h,fun x hx=>?_,?_⟩
 ·obtain rfl:=(List.mem_replicate.1 hx).2
  exact OwnS.nil w B
 ·rw [List.pairwise_iff_getElem]
  intro i j hi hj hij
  rw [List.getElem_replicate,List.getElem_replicate]
  intro k hk
  exact absurd hk (by simp [RoX.sl,default,zRo,Value.ownBlock])
theorem rep_set {D:List RoX} {k len:Nat} (y:RoX) (hD:D.length=k) (hk:k<len):(D ++ List.replicate (len - k) default).set k y=(D ++ [y]) ++ List.replicate (len - (k+1)) default:=by
 rw [List.set_append_right _ _ (by omega),show k - D.length=0 by omega,show len - k=(len - (k+1))+1 by omega,List.replicate_succ,List.set_cons_zero]
 simp
set_option maxHeartbeats 8000000 in
theorem toRoleS_own (a:Option Addr) (len cap:Nat) (xs:List RoleV) (w:World) (h:Rw (RoR 0) 5 w a xs) (hl:xs.length=len) (hc:len≤1048576) (hsz:∀ x,x ∈ xs→x.rs.length≤1048576) :
  Calls Tryz.prog 32 #[.slice a len cap] w fun e w'=>∃ L:List RoX,L.map (fun x=>x.r)=xs∧e=.returned (.slice (some ⟨w.heap.size,0,none⟩) len len)∧OwnRo w' w.heap.size (.slice (some ⟨w.heap.size,0,none⟩) len len) L∧Below w.heap.size w w':=by
 have RW:Hid (Rw (RoR 0) 5 w a xs):=h
 have SZ:Hid (∀ x,x ∈ xs→x.rs.length≤1048576):=hsz
 clear h hsz
 obtain ⟨i0,hi,hz0,hz1,hz2⟩:=info_parts infoRo
 have hmk:=run_make (P:=Tryz.prog) w 38 142 i0 (.agg #[.string ⟨#[]⟩,.slice none 0 0,.int .i64 0,.int .i64 0,.int .i64 0]) Tryz.underlying38 hi hz0 .i64 .i64 len len (by omega) (Int.le_refl _) (by rw [hz2];omega) (by omega)
 rw [hz1,Int.toNat_natCast] at hmk
 obtain ⟨W,hW⟩:∃ W,W=(w.alloc (.cells (madeCells #[.string ⟨#[]⟩,.slice none 0 0,.int .i64 0,.int .i64 0,.int .i64 0] (len * 5)) 142)):=⟨_,rfl⟩
 have HM:Hid (OwnRo W w.heap.size (.slice (some ⟨w.heap.size,0,none⟩) len len) (List.replicate len default)∧Below w.heap.size w W):=by
  rw [hW]
  exact ⟨rep_own (OwnS.made w _ _ len default _ zRole rfl (by omega) (Nat.le_refl _) (by unfold maxLen;omega)),(Below.refl _ _).alloc (Nat.le_refl _) _⟩
 have hmk2:(Instr.makeSlice 38 (.int .i64 (len:Int)) (.int .i64 (len:Int))).run Tryz.prog w=.ok (.slice (some ⟨w.heap.size,0,none⟩) len len) W:=by rw [hW];exact hmk
 clear hmk hi hz0 hz1 hz2 hW
 go_enter Tryz.func32,Tryz.ntmps32
 go_wp2
 go_loopw [4] (fun i wr=>∃ (k:Nat) (D:List RoX),k≤len∧i=.int .i64 k∧Hid (D.length=k∧D.map (fun x=>x.r)=xs.take k)∧Hid (OwnRo wr w.heap.size (.slice (some ⟨w.heap.size,0,none⟩) len len) (D ++ List.replicate (len - k) default)∧Below w.heap.size w wr)) (fun i _=>len - (intOf i).toNat)
 case atStart=>exact ⟨0,[],Nat.zero_le _,rfl,⟨rfl,rfl⟩,HM.out⟩
 case round =>
  clear HM hmk2
  obtain ⟨k,D,hk,rfl,hD,X⟩:=hrel
  by_cases hlt:k<len
  ·obtain ⟨x,hx⟩:=at_of hl hlt
   obtain ⟨b,off,vs,rfl,hb,hvl,hR,hc2⟩:=RW.out.at (RoR.kp 0) X.out.2 hx
   have hsz:=SZ.out _ (List.mem_of_getElem? hx)
   have HX:Hid (xs[k]?=some x):=hx
   obtain ⟨nm,rrs,rq,rm,ri⟩:=x
   obtain ⟨ra,rc,rfl,hnm,hrc,hrm,hRR,-⟩:=hR
   have q0:wr.cell? ⟨b,off+k * 5,none⟩=some (.string nm):=hc2 0 _ rfl
   have q1:wr.cell? ⟨b,off+k * 5+1,none⟩=some (.slice ra rrs.length rc):=hc2 1 _ rfl
   have q2:wr.cell? ⟨b,off+k * 5+2,none⟩=some (.int .i64 rq):=hc2 2 _ rfl
   have q3:wr.cell? ⟨b,off+k * 5+3,none⟩=some (.int .i64 rm):=hc2 3 _ rfl
   have q4:wr.cell? ⟨b,off+k * 5+4,none⟩=some (.int .i64 ri):=hc2 4 _ rfl
   have HT:Hid (∀ w,Rw RuR 6 w ra rrs→Calls Tryz.prog 80 #[.agg #[.string nm,.slice ra rrs.length rc,.int .i64 rq,.int .i64 rm,.int .i64 ri]] w fun e w'=>∃ b:Nat,e=.returned (.agg #[.string nm,.slice (some ⟨b,0,none⟩) rrs.length rrs.length,.int .i64 rq,.int .i64 rm,.int .i64 ri])∧OwnS rv 6 156 w' w.heap.size (.slice (some ⟨b,0,none⟩) rrs.length rrs.length) rrs∧Below w.heap.size w w'):=fun w h=>toRole_own nm rrs rq rm ri ra rrs.length rc w h rfl hsz
   have hltz:(k:Int)<(len:Int):=by omega
   clear hc2 hvl hx
   go_wp2_with fail
   refine (HT.out _ hRR).mono ?_
   rintro e w1 ⟨rb,rfl,or1,b1⟩
   have o1:=X.out.1.now b1
   have hzD:(D ++ List.replicate (len - k) default)[k]?=some (default:RoX):=by
    rw [List.getElem?_append_right (by have:=hD.out.1;omega),show k - D.length=0 by have:=hD.out.1;omega,List.getElem?_replicate,if_pos (by omega)]
   obtain ⟨c0,z0⟩:=o1.row.cell roG_len (j:=0) hzD rfl
   obtain ⟨c1,z1⟩:=o1.row.cell roG_len (j:=1) hzD rfl
   obtain ⟨c2,z2⟩:=o1.row.cell roG_len (j:=2) hzD rfl
   obtain ⟨c3,z3⟩:=o1.row.cell roG_len (j:=3) hzD rfl
   obtain ⟨c4,z4⟩:=o1.row.cell roG_len (j:=4) hzD rfl
   replace c0:w1.cell? ⟨w.heap.size,k * 5,none⟩=some (.string ⟨#[]⟩):=c0
   replace z0:w1.frozen? ⟨w.heap.size,k * 5,none⟩=false:=z0
   have Y0:∀ W1,W1=((((w1.setCell ⟨w.heap.size,k * 5,none⟩ (.string nm)).setCell ⟨w.heap.size,k * 5+1,none⟩ (.slice (some ⟨rb,0,none⟩) rrs.length rrs.length)).setCell ⟨w.heap.size,k * 5+2,none⟩ (.int .i64 rq)).setCell ⟨w.heap.size,k * 5+3,none⟩ (.int .i64 rm)).setCell ⟨w.heap.size,k * 5+4,none⟩ (.int .i64 ri)→OwnRo W1 w.heap.size (.slice (some ⟨w.heap.size,0,none⟩) len len) ((D ++ [⟨⟨nm,rrs,rq,rm,ri⟩,some ⟨rb,0,none⟩,rrs.length⟩]) ++ List.replicate (len - (k+1)) default)∧Below w.heap.size w W1:=by
    intro W1 hW1
    have s:=o1.row.store roG_len hlt ⟨⟨nm,rrs,rq,rm,ri⟩,some ⟨rb,0,none⟩,rrs.length⟩
    have e3:W1=wsets w1 w.heap.size (k * 5) (roG ⟨⟨nm,rrs,rq,rm,ri⟩,some ⟨rb,0,none⟩,rrs.length⟩):=hW1
    rw [← e3] at s
    have or2:OwnS rv 6 156 w1 w.heap.size (.slice (some ⟨rb,0,none⟩) rrs.length rrs.length) rrs:=or1.lower X.out.2.size
    refine ⟨?_,(X.out.2.trans (b1.mono X.out.2.size)).trans (below_row s.2 (Nat.le_refl _) (Nat.le_trans X.out.2.size b1.size))⟩
    rw [← rep_set _ hD.out.1 hlt]
    refine ⟨s.1,fun z hz=>?_,pair_new o1.apart (fun z hz=>?_)⟩
    ·have hz2:OwnS rv 6 156 w1 w.heap.size z.sl z.r.rs:=by
      rcases List.mem_or_eq_of_mem_set hz with h1 | h1
      ·exact o1.rules z h1
      ·subst h1;exact or2
     exact hz2.kept s.2 ((apB_of hz2 o1.row (by decide)).kept)
    ·intro kk hk1 hk2
     have h1:=((X.out.1.rules z hz).lt kk hk1).2
     have h2:=(or1.lt kk hk2).1
     omega
   have Y:Hid (OwnRo (((((w1.setCell ⟨w.heap.size,k * 5,none⟩ (.string nm)).setCell ⟨w.heap.size,k * 5+1,none⟩ (.slice (some ⟨rb,0,none⟩) rrs.length rrs.length)).setCell ⟨w.heap.size,k * 5+2,none⟩ (.int .i64 rq)).setCell ⟨w.heap.size,k * 5+3,none⟩ (.int .i64 rm)).setCell ⟨w.heap.size,k * 5+4,none⟩ (.int .i64 ri)) w.heap.size (.slice (some ⟨w.heap.size,0,none⟩) len len) ((D ++ [⟨⟨nm,rrs,rq,rm,ri⟩,some ⟨rb,0,none⟩,rrs.length⟩]) ++ List.replicate (len - (k+1)) default)∧Below w.heap.size w (((((w1.setCell ⟨w.heap.size,k * 5,none⟩ (.string nm)).setCell ⟨w.heap.size,k * 5+1,none⟩ (.slice (some ⟨rb,0,none⟩) rrs.length rrs.length)).setCell ⟨w.heap.size,k * 5+2,none⟩ (.int .i64 rq)).setCell ⟨w.heap.size,k * 5+3,none⟩ (.int .i64 rm)).setCell ⟨w.heap.size,k * 5+4,none⟩ (.int .i64 ri))):=Y0 _ rfl
   have HD2:Hid ((D ++ [(⟨⟨nm,rrs,rq,rm,ri⟩,some ⟨rb,0,none⟩,rrs.length⟩:RoX)]).length=k+1∧(D ++ [(⟨⟨nm,rrs,rq,rm,ri⟩,some ⟨rb,0,none⟩,rrs.length⟩:RoX)]).map (fun x=>x.r)=xs.take (k+1)):=⟨by rw [List.length_append,hD.out.1];rfl,by rw [List.map_append,hD.out.2,List.take_add_one,HX.out];rfl⟩
   clear Y0 o1 or1 b1 q0 q1 q2 q3 q4 HT X HX hD hRR hzD
   go_wp2
   go_roundw
   case rel=>exact ⟨k+1,_,by omega,by go_num,HD2,Y⟩
   case measure=>simp [intOf];omega
  ·obtain rfl:k=len:=by omega
   have Z:=X.out.1
   rw [Nat.sub_self,List.replicate_zero,List.append_nil] at Z
   have hm:=hD.out.2
   rw [List.take_of_length_le (by omega)] at hm
   have HF:Hid (D.map (fun x=>x.r)=xs∧OwnRo wr w.heap.size (.slice (some ⟨w.heap.size,0,none⟩) k k) D∧Below w.heap.size w wr):=⟨hm,Z,X.out.2⟩
   clear hm Z X hD
   go_wp2
   go_ret
   exact ⟨D,HF.out.1,rfl,HF.out.2.1,HF.out.2.2⟩
theorem OwnRo.put {w:World} {B q:Nat} {v:Value} {L:List RoX} (h:OwnRo w B v L) (hq:q<B) (o:Nat) (vs:List Value):OwnRo (w.setCells q o vs) B v L :=
 h.keepB (fun b hb=>(heap_cellsA vs o w).2 b (by have:=(h.lt b hb).1;omega))
structure TC (w:World) (ip b gt:Int) (gm wm:ByteArray) (rs:Int) (x y:Option Addr) (lenx capx leny capy:Nat) (cs:List Value) (W:World):Prop where
 a:Bx W w.heap.size [.int .i64 ip,.int .i64 b,.int .i64 gt,.string gm,.string wm,.int .i64 rs,.slice x lenx capx,.slice y leny capy]
 r:Bx W (w.heap.size+1) [.int .i64 0,.int .i64 0,.int .i64 0,.string ⟨#[]⟩,.string ⟨#[]⟩,.int .i64 0,.slice none 0 0,.slice none 0 0]
 n:Bx W (w.heap.size+1+1) cs
 b:Below w.heap.size w W
 z:w.heap.size+1+1+1≤W.heap.size
theorem TC.call {w:World} {ip b gt:Int} {gm wm:ByteArray} {rs:Int} {x y:Option Addr} {lenx capx leny capy:Nat} {cs:List Value} {W W':World} (h:TC w ip b gt gm wm rs x y lenx capx leny capy cs W) (hb:Below W.heap.size W W'):TC w ip b gt gm wm rs x y lenx capx leny capy cs W':=⟨h.a.below hb,h.r.below hb,h.n.below hb,h.b.trans (hb.mono h.b.size),Nat.le_trans h.z hb.size⟩
theorem TC.put {w:World} {ip b gt:Int} {gm wm:ByteArray} {rs:Int} {x y:Option Addr} {lenx capx leny capy:Nat} {cs:List Value} {W:World} (h:TC w ip b gt gm wm rs x y lenx capx leny capy cs W) (o:Nat) (vs:List Value):TC w ip b gt gm wm rs x y lenx capx leny capy (sets cs o vs) (W.setCells (w.heap.size+1+1) o vs) :=
 ⟨h.a.apartO vs (by omega),h.r.apartO vs (by omega),h.n.sets vs o _ _,below_cells (by omega) vs o _ h.b,by rw [(heap_cellsA vs o W).1];exact h.z⟩
set_option maxHeartbeats 8000000 in
theorem toConfig_own (ip b gt:Int) (gm wm:ByteArray) (rs:Int) (x y:Option Addr) (lenx capx leny capy:Nat) (ps:List PlaceV) (ros:List RoleV) (w:World) (h:Rw PlR 4 w x ps) (hl:ps.length=lenx) (h2:Rw (RoR 0) 5 w y ros) (hl2:ros.length=leny) (hx:lenx≤1048576) (hy:leny≤1048576) (hsz:∀ x,x ∈ ros→x.rs.length≤1048576) :
  Calls Tryz.prog 8 #[.agg #[.int .i64 ip,.int .i64 b,.int .i64 gt,.string gm,.string wm,.int .i64 rs,.slice x lenx capx,.slice y leny capy]] w fun e w'=>∃ (b1 b2:Nat) (L:List RoX),L.map (fun x=>x.r)=ros∧e=.returned (.agg #[.int .i64 ip,.int .i64 b,.int .i64 gt,.string gm,.string wm,.int .i64 rs,.slice (some ⟨b1,0,none⟩) lenx lenx,.slice (some ⟨b2,0,none⟩) leny leny])∧OwnS pv 4 135 w' w.heap.size (.slice (some ⟨b1,0,none⟩) lenx lenx) ps∧OwnRo w' w.heap.size (.slice (some ⟨b2,0,none⟩) leny leny) L∧Below w.heap.size w w':=by
 have HA:Hid (∀ w,Calls Tryz.prog 30 #[.agg #[.int .i64 ip,.int .i64 b]] w fun e w'=>e=.returned (.agg #[.int .i64 ip,.int .i64 b])∧Below w.heap.size w w'):=fun w=>toNet2 ip b w
 have HB:Hid (∀ W,Below w.heap.size w W→Calls Tryz.prog 31 #[.slice x lenx capx] W fun e w'=>∃ b1:Nat,e=.returned (.slice (some ⟨b1,0,none⟩) lenx lenx)∧OwnS pv 4 135 w' W.heap.size (.slice (some ⟨b1,0,none⟩) lenx lenx) ps∧Below W.heap.size W w'):=fun W bb=>(toPlaceS_own x lenx capx ps W (h.keep PlR.kp bb) hl hx).mono fun e w' ⟨h1,h2,_,h4⟩=>⟨_,h1,h2,h4⟩
 have HC:Hid (∀ W,Below w.heap.size w W→Calls Tryz.prog 32 #[.slice y leny capy] W fun e w'=>∃ (b2:Nat) (L:List RoX),L.map (fun x=>x.r)=ros∧e=.returned (.slice (some ⟨b2,0,none⟩) leny leny)∧OwnRo w' W.heap.size (.slice (some ⟨b2,0,none⟩) leny leny) L∧Below W.heap.size W w'):=fun W bb=>(toRoleS_own y leny capy ros W (h2.keep (RoR.kp 0) bb) hl2 hy hsz).mono fun e w' ⟨L,h1,h2,h3,h4⟩=>⟨_,L,h1,h2,h3,h4⟩
 clear h h2 hsz
 obtain ⟨W0,hW0⟩:∃ W0,W0=(((w.alloc (.cells #[.int .i64 ip,.int .i64 b,.int .i64 gt,.string gm,.string wm,.int .i64 rs,.slice x lenx capx,.slice y leny capy] 27)).alloc (.cells #[.int .i64 0,.int .i64 0,.int .i64 0,.string ⟨#[]⟩,.string ⟨#[]⟩,.int .i64 0,.slice none 0 0,.slice none 0 0] 40)).alloc (.cells #[.int .i64 0,.int .i64 0,.int .i64 0,.string ⟨#[]⟩,.string ⟨#[]⟩,.int .i64 0,.slice none 0 0,.slice none 0 0] 40)):=⟨_,rfl⟩
 have T0:Hid (TC w ip b gt gm wm rs x y lenx capx leny capy [.int .i64 0,.int .i64 0,.int .i64 0,.string ⟨#[]⟩,.string ⟨#[]⟩,.int .i64 0,.slice none 0 0,.slice none 0 0] W0):=by
  rw [hW0]
  refine ⟨?_,?_,?_,?_,?_⟩
  ·exact ((Bx.new w #[.int .i64 ip,.int .i64 b,.int .i64 gt,.string gm,.string wm,.int .i64 rs,.slice x lenx capx,.slice y leny capy] 27).below ((Below.refl _ _).alloc (Nat.le_refl _) _)).below ((Below.refl _ _).alloc (Nat.le_refl _) _)
  ·have h:=Bx.new (w.alloc (.cells #[.int .i64 ip,.int .i64 b,.int .i64 gt,.string gm,.string wm,.int .i64 rs,.slice x lenx capx,.slice y leny capy] 27)) #[.int .i64 0,.int .i64 0,.int .i64 0,.string ⟨#[]⟩,.string ⟨#[]⟩,.int .i64 0,.slice none 0 0,.slice none 0 0] 40
   rw [World.size_alloc] at h
   exact h.below ((Below.refl _ _).alloc (Nat.le_refl _) _)
  ·have h:=Bx.new ((w.alloc (.cells #[.int .i64 ip,.int .i64 b,.int .i64 gt,.string gm,.string wm,.int .i64 rs,.slice x lenx capx,.slice y leny capy] 27)).alloc (.cells #[.int .i64 0,.int .i64 0,.int .i64 0,.string ⟨#[]⟩,.string ⟨#[]⟩,.int .i64 0,.slice none 0 0,.slice none 0 0] 40)) #[.int .i64 0,.int .i64 0,.int .i64 0,.string ⟨#[]⟩,.string ⟨#[]⟩,.int .i64 0,.slice none 0 0,.slice none 0 0] 40
   rw [World.size_alloc,World.size_alloc] at h
   exact h
  ·exact (((Below.refl _ _).alloc (Nat.le_refl _) _).alloc (by simp) _).alloc (by simp;omega) _
  ·simp
 go_enter Tryz.func8,Tryz.ntmps8
 go_wp2_with fail
 rw [← hW0]
 refine (HA.out _).mono ?_
 rintro e w1 ⟨rfl,bx⟩
 have T1:Hid (TC w ip b gt gm wm rs x y lenx capx leny capy [.int .i64 0,.int .i64 0,.int .i64 0,.string ⟨#[]⟩,.string ⟨#[]⟩,.int .i64 0,.slice none 0 0,.slice none 0 0] w1):=T0.out.call bx
 clear bx T0 hW0 HA
 go_wp2_with (first | (refine wpl_putO 36 rfl _ _ rfl (w.heap.size+1+1) 0 _ rfl rfl T1.out.n rfl rfl rfl ?_;intro w2 hw2 _;have T2:Hid (TC w ip b gt gm wm rs x y lenx capx leny capy [.int .i64 ip,.int .i64 b,.int .i64 0,.string ⟨#[]⟩,.string ⟨#[]⟩,.int .i64 0,.slice none 0 0,.slice none 0 0] w2):=(by rw [hw2];exact T1.out.put 0 [.int .i64 ip,.int .i64 b]);clear hw2 T1 ;have k2:=T2.out.a.cell 2 rfl) | (refine wpl_put1 3 rfl _ _ rfl (w.heap.size+1+1) 2 (.int .i64 gt) rfl rfl T2.out.n rfl rfl rfl ?_;intro w3 hw3;have T3:Hid (TC w ip b gt gm wm rs x y lenx capx leny capy [.int .i64 ip,.int .i64 b,.int .i64 gt,.string ⟨#[]⟩,.string ⟨#[]⟩,.int .i64 0,.slice none 0 0,.slice none 0 0] w3):=(by rw [hw3];exact T2.out.put 2 [.int .i64 gt]);clear hw3 T2  k2;have k3:=T3.out.a.cell 3 rfl) | (refine wpl_put1 9 rfl _ _ rfl (w.heap.size+1+1) 3 (.string gm) rfl rfl T3.out.n rfl rfl rfl ?_;intro w4 hw4;have T4:Hid (TC w ip b gt gm wm rs x y lenx capx leny capy [.int .i64 ip,.int .i64 b,.int .i64 gt,.string gm,.string ⟨#[]⟩,.int .i64 0,.slice none 0 0,.slice none 0 0] w4):=(by rw [hw4];exact T3.out.put 3 [.string gm]);clear hw4 T3  k3;have k4:=T4.out.a.cell 4 rfl) | (refine wpl_put1 9 rfl _ _ rfl (w.heap.size+1+1) 4 (.string wm) rfl rfl T4.out.n rfl rfl rfl ?_;intro w5 hw5;have T5:Hid (TC w ip b gt gm wm rs x y lenx capx leny capy [.int .i64 ip,.int .i64 b,.int .i64 gt,.string gm,.string wm,.int .i64 0,.slice none 0 0,.slice none 0 0] w5):=(by rw [hw5];exact T4.out.put 4 [.string wm]);clear hw5 T4  k4;have k5:=T5.out.a.cell 5 rfl) | (refine wpl_put1 3 rfl _ _ rfl (w.heap.size+1+1) 5 (.int .i64 rs) rfl rfl T5.out.n rfl rfl rfl ?_;intro w6 hw6;have T6:Hid (TC w ip b gt gm wm rs x y lenx capx leny capy [.int .i64 ip,.int .i64 b,.int .i64 gt,.string gm,.string wm,.int .i64 rs,.slice none 0 0,.slice none 0 0] w6):=(by rw [hw6];exact T5.out.put 5 [.int .i64 rs]);clear hw6 T5  k5;have k6:=T6.out.a.cell 6 rfl) | fail)
 refine (HB.out _ T6.out.b).mono ?_
 rintro e w7 ⟨b1,rfl,op,bx⟩
 have T7:Hid (TC w ip b gt gm wm rs x y lenx capx leny capy [.int .i64 ip,.int .i64 b,.int .i64 gt,.string gm,.string wm,.int .i64 rs,.slice none 0 0,.slice none 0 0] w7):=T6.out.call bx
 have P7:Hid (OwnS pv 4 135 w7 (w.heap.size+1+1+1) (.slice (some ⟨b1,0,none⟩) lenx lenx) ps):=op.lower T6.out.z
 clear op bx T6 k6
 go_wp2_with (first | (refine wpl_put1 37 rfl _ _ rfl (w.heap.size+1+1) 6 (.slice (some ⟨b1,0,none⟩) lenx lenx) rfl rfl T7.out.n rfl rfl rfl ?_;intro w8 hw8;have T8:Hid (TC w ip b gt gm wm rs x y lenx capx leny capy [.int .i64 ip,.int .i64 b,.int .i64 gt,.string gm,.string wm,.int .i64 rs,.slice (some ⟨b1,0,none⟩) lenx lenx,.slice none 0 0] w8):=(by rw [hw8];exact T7.out.put 6 [.slice (some ⟨b1,0,none⟩) lenx lenx]);have P8:Hid (OwnS pv 4 135 w8 (w.heap.size+1+1+1) (.slice (some ⟨b1,0,none⟩) lenx lenx) ps):=(by rw [hw8];exact own_cellsC (by omega) _ _ _ P7.out);clear hw8 T7 P7;have k7:=T8.out.a.cell 7 rfl) | fail)
 refine (HC.out _ T8.out.b).mono ?_
 rintro e w9 ⟨b2,L,hL,rfl,orr,bx⟩
 have T9:Hid (TC w ip b gt gm wm rs x y lenx capx leny capy [.int .i64 ip,.int .i64 b,.int .i64 gt,.string gm,.string wm,.int .i64 rs,.slice (some ⟨b1,0,none⟩) lenx lenx,.slice none 0 0] w9):=T8.out.call bx
 have P9:Hid (OwnS pv 4 135 w9 (w.heap.size+1+1+1) (.slice (some ⟨b1,0,none⟩) lenx lenx) ps):=P8.out.now bx
 have R9:Hid (OwnRo w9 (w.heap.size+1+1+1) (.slice (some ⟨b2,0,none⟩) leny leny) L):=orr.lower T8.out.z
 clear orr bx T8 P8 k7
 go_wp2_with (first | (refine wpl_put1 38 rfl _ _ rfl (w.heap.size+1+1) 7 (.slice (some ⟨b2,0,none⟩) leny leny) rfl rfl T9.out.n rfl rfl rfl ?_;intro w10 hw10;have T10:Hid (TC w ip b gt gm wm rs x y lenx capx leny capy [.int .i64 ip,.int .i64 b,.int .i64 gt,.string gm,.string wm,.int .i64 rs,.slice (some ⟨b1,0,none⟩) lenx lenx,.slice (some ⟨b2,0,none⟩) leny leny] w10):=(by rw [hw10];exact T9.out.put 7 [.slice (some ⟨b2,0,none⟩) leny leny]);have P10:Hid (OwnS pv 4 135 w10 (w.heap.size+1+1+1) (.slice (some ⟨b1,0,none⟩) lenx lenx) ps):=(by rw [hw10];exact own_cellsC (by omega) _ _ _ P9.out);have R10:Hid (OwnRo w10 (w.heap.size+1+1+1) (.slice (some ⟨b2,0,none⟩) leny leny) L):=(by rw [hw10];exact R9.out.put (by omega) _ _);clear hw10 T9 P9 R9) | (refine wpl_getO 40 rfl _ rfl (w.heap.size+1+1) 0 [.int .i64 ip,.int .i64 b,.int .i64 gt,.string gm,.string wm,.int .i64 rs,.slice (some ⟨b1,0,none⟩) lenx lenx,.slice (some ⟨b2,0,none⟩) leny leny] rfl T10.out.n rfl _ Tryz.underlying40 rfl rfl ?_) | (refine wpl_putO 40 rfl _ _ rfl (w.heap.size+1) 0 _ rfl rfl T10.out.r rfl rfl rfl ?_;intro w11 hw11 R11;have B11:Hid (Below w.heap.size w w11):=(by rw [hw11];exact below_cells (by omega) _ _ _ T10.out.b);have P11:Hid (OwnS pv 4 135 w11 (w.heap.size+1+1+1) (.slice (some ⟨b1,0,none⟩) lenx lenx) ps):=(by rw [hw11];exact own_cellsC (by omega) _ _ _ P10.out);have Q11:Hid (OwnRo w11 (w.heap.size+1+1+1) (.slice (some ⟨b2,0,none⟩) leny leny) L):=(by rw [hw11];exact R10.out.put (by omega) _ _);clear hw11) | fail)
 refine bodyPost_ret (v:=.agg #[.int .i64 ip,.int .i64 b,.int .i64 gt,.string gm,.string wm,.int .i64 rs,.slice (some ⟨b1,0,none⟩) lenx lenx,.slice (some ⟨b2,0,none⟩) leny leny]) (results_cell Tryz.results8 (w.heap.size+1) rfl R11 _ Tryz.underlying40 rfl rfl) rfl ?_
 exact ⟨b1,b2,L,hL,rfl,P11.out.lower (by omega),Q11.out.lower (by omega),B11.out⟩
end Go.Proofs.YtbeehlhcckndcaaGreat
