/- Rows of roles of one's own, each with rules of its own. Regions that draw their order, whatever they do, walked once: each operation has a fact of its own (a resource: a fact of values and of the blocks that it owns), is shown from the facts of those that it waits for, and may take a fact's blocks over. Nothing of the program is imported. Roles marked. Configurations marked. The byte's row of the program's table of types. -/
import Derived.Test.YtbeehlhcckndcaaGreatJ0
import Derived.WalkKit
import Derived.Below
import Derived.Still
import Derived.Test.YtbeehlhcckndcaaGreatProg
namespace Go.Proofs.YtbeehlhcckndcaaGreat
open Go.RowKit Go.PlainAid Go.Proofs.YtbeehlhcckndcaaGreat.Bt Go.Sort
set_option linter.unusedVariables false
set_option maxRecDepth 20000
structure RoX where
 r:RoleV
 ra:Option Addr
 rc:Nat
def RoX.sl (x:RoX):Value:=.slice x.ra x.r.rs.length x.rc
def roG (x:RoX):List Value:=[.string x.r.nm,.slice x.ra x.r.rs.length x.rc,.int .i64 x.r.q,.int .i64 x.r.m,.int .i64 x.r.i]
theorem roG_len (x:RoX):(roG x).length=5:=rfl
def ApB (v v':Value):Prop:=∀ k,v.ownBlock=some k→v'.ownBlock ≠ some k
theorem ApB.symm {v v':Value} (h:ApB v v'):ApB v' v:=fun k h1 h2=>h k h2 h1
theorem apB_of {α β:Type} {c:α→List Value} {c':β→List Value} {K K':Nat} {e e':TypeId} {w:World} {B B':Nat} {v u:Value} {xs:List α} {ys:List β} (o:OwnS c K e w B v xs) (o':OwnS c' K' e' w B' u ys) (hne:e ≠ e'):ApB v u:=by
 intro k hk hk'
 rcases o.2 with ⟨h1,_⟩ | ⟨g,cap,cur,h1,_,hg1,_⟩
 ·rw [h1] at hk;cases hk
 rcases o'.2 with ⟨h2,_⟩ | ⟨g',cap',cur',h2,_,hg2,_⟩
 ·rw [h2] at hk';cases hk'
 rw [h1] at hk
 rw [h2] at hk'
 have e1:g=k:=by simpa [Value.ownBlock] using hk
 have e2:g'=k:=by simpa [Value.ownBlock] using hk'
 subst e1;subst e2
 rw [hg1] at hg2
 cases hg2
 exact hne rfl
structure OwnRo (w:World) (B:Nat) (v:Value) (L:List RoX):Prop where
 row:OwnS roG 5 142 w B v L
 rules:∀ x,x ∈ L→OwnS rv 6 156 w B x.sl x.r.rs
 apart:L.Pairwise (fun x y=>ApB x.sl y.sl)
theorem ApB.kept {v v':Value} (h:ApB v v'):v.ownBlock=none ∨ v.ownBlock ≠ v'.ownBlock:=by
 cases hv:v.ownBlock with
 | none=>exact .inl rfl
 | some k=>exact .inr (fun e=>h k hv e.symm)
theorem OwnRo.now {w w':World} {B:Nat} {v:Value} {L:List RoX} (h:OwnRo w B v L) (hb:Below w.heap.size w w'):OwnRo w' B v L:=⟨h.row.now hb,fun x hx=>(h.rules x hx).now hb,h.apart⟩
theorem OwnRo.lower {w:World} {B B':Nat} {v:Value} {L:List RoX} (h:OwnRo w B v L) (hb:B'≤B):OwnRo w B' v L:=⟨h.row.lower hb,fun x hx=>(h.rules x hx).lower hb,h.apart⟩
def roBk (v:Value) (L:List RoX) (b:Nat):Prop:=v.ownBlock=some b ∨ ∃ x,x ∈ L∧x.sl.ownBlock=some b
theorem OwnRo.lt {w:World} {B:Nat} {v:Value} {L:List RoX} (h:OwnRo w B v L):∀ b,roBk v L b→B≤b∧b<w.heap.size:=by
 rintro b (hb | ⟨x,hx,hb⟩)
 ·exact h.row.lt b hb
 ·exact (h.rules x hx).lt b hb
theorem OwnRo.keepB {w w':World} {B:Nat} {v:Value} {L:List RoX} (h:OwnRo w B v L) (hk:∀ b,roBk v L b→w'.heap[b]?=w.heap[b]?):OwnRo w' B v L:=by
 have loc:∀ {e:TypeId} {K n:Nat} {v:Value} {F:List Value},w.ownsRow B e K v n F→(∀ k,v.ownBlock=some k→w'.heap[k]?=w.heap[k]?)→w'.ownsRow B e K v n F:=by
  intro e K n v F h hq
  refine ⟨h.1,?_⟩
  rcases h.2 with h' | ⟨g,cap,cur,h1,hB,hg,h4⟩
  ·exact .inl h'
  ·exact .inr ⟨g,cap,cur,h1,hB,by rw [hq g (by rw [h1];rfl)];exact hg,h4⟩
 exact ⟨loc h.row (fun k hk'=>hk k (.inl hk')),fun x hx=>loc (h.rules x hx) (fun k hk'=>hk k (.inr ⟨x,hx,hk'⟩)),h.apart⟩
theorem pair_set {L:List RoX} {k:Nat} {x y:RoX} (h:L.Pairwise (fun x y=>ApB x.sl y.sl)) (hx:L[k]?=some x) (hs:y.sl=x.sl):(L.set k y).Pairwise (fun x y=>ApB x.sl y.sl):=by
 have e:(L.set k y).map RoX.sl=L.map RoX.sl:=by
  rw [List.map_set,hs]
  have hk:=(List.getElem?_eq_some_iff.1 hx)
  refine List.ext_getElem? (fun i=>?_)
  by_cases hi:i=k
  ·subst hi
   rw [List.getElem?_set_self (by rw [List.length_map];exact hk.1),List.getElem?_map,hx];rfl
  ·rw [List.getElem?_set_ne (fun e=>hi e.symm)]
 have a:=List.pairwise_map.2 h
 rw [← e] at a
 exact List.pairwise_map.1 a
theorem roBk_set {v:Value} {L:List RoX} {k:Nat} {x y:RoX} (hx:L[k]?=some x) (hs:y.sl=x.sl) (b:Nat):roBk v (L.set k y) b ↔ roBk v L b:=by
 have hk:=(List.getElem?_eq_some_iff.1 hx)
 unfold roBk
 constructor
 ·rintro (h | ⟨z,hz,h⟩)
  ·exact .inl h
  ·rcases List.mem_or_eq_of_mem_set hz with h1 | h1
   ·exact .inr ⟨z,h1,h⟩
   ·subst h1;exact .inr ⟨x,List.mem_of_getElem? hx,by rw [← hs];exact h⟩
 ·rintro (h | ⟨z,hz,h⟩)
  ·exact .inl h
  ·obtain ⟨i,hi⟩:=List.getElem?_of_mem hz
   by_cases hik:i=k
   ·subst hik
    rw [hx] at hi;cases hi
    exact .inr ⟨y,List.mem_of_getElem? (List.getElem?_set_self hk.1),by rw [hs];exact h⟩
   ·exact .inr ⟨z,List.mem_of_getElem? (by rw [List.getElem?_set_ne (fun e=>hik e.symm)];exact hi),h⟩
theorem OwnRo.set1 {w:World} {B g n cap:Nat} {L:List RoX} (h:OwnRo w B (.slice (some ⟨g,0,none⟩) n cap) L) {k j:Nat} {x:RoX} (y:RoX) {u:Value} (hx:L[k]?=some x) (hj:j<5) (hy:roG y=(roG x).set j u) (hs:y.sl=x.sl) (hr:y.r.rs=x.r.rs) :
  OwnRo (w.setCell ⟨g,k * 5+j,none⟩ u) B (.slice (some ⟨g,0,none⟩) n cap) (L.set k y)∧w.grownBy (w.setCell ⟨g,k * 5+j,none⟩ u) (some g):=by
 have s:=h.row.set1 roG_len (j:=j) (y:=y) (u:=u) hx hj hy
 refine ⟨⟨s.1,fun z hz=>?_,pair_set h.apart hx hs⟩,s.2⟩
 have hz2:OwnS rv 6 156 w B z.sl z.r.rs:=by
  rcases List.mem_or_eq_of_mem_set hz with h1 | h1
  ·exact h.rules z h1
  ·subst h1;rw [hs,hr];exact h.rules x (List.mem_of_getElem? hx)
 exact hz2.kept s.2 ((apB_of hz2 h.row (by decide)).kept)
theorem OwnRo.setR {w w':World} {B:Nat} {v:Value} {L:List RoX} (h:OwnRo w B v L) {k:Nat} {x:RoX} (rs:List RuleV) (hx:L[k]?=some x) (hl:rs.length=x.r.rs.length) (hg:w.grownBy w' x.sl.ownBlock) (ho:OwnS rv 6 156 w' B x.sl rs) :
  OwnRo w' B v (L.set k { x with r:={ x.r with rs:=rs } }):=by
 have hs:({ x with r:={ x.r with rs:=rs } }:RoX).sl=x.sl:=by unfold RoX.sl;dsimp only;rw [hl]
 have hg1:roG { x with r:={ x.r with rs:=rs } }=roG x:=by unfold roG;dsimp only;rw [hl]
 have hfl:flatS roG (L.set k { x with r:={ x.r with rs:=rs } })=flatS roG L:=by
  have hk:=List.getElem?_eq_some_iff.1 hx
  obtain ⟨A,x',C,rfl,rfl⟩:∃ A x' C,L=A ++ x' :: C∧A.length=k:=⟨L.take k,L[k]'hk.1,L.drop (k+1),by simp,by have:=hk.1;simp;omega⟩
  have ex:x'=x:=by simpa using hx
  subst ex
  have e:(A ++ x' :: C).set A.length { x' with r:={ x'.r with rs:=rs } }=A ++ { x' with r:={ x'.r with rs:=rs } } :: C:=by simp
  rw [e,flatS_append,flatS_append,flatS_cons,flatS_cons,hg1]
 have hrow:OwnS roG 5 142 w' B v (L.set k { x with r:={ x.r with rs:=rs } }):=by
  have h1:=h.row.kept hg ((apB_of h.row (h.rules x (List.mem_of_getElem? hx)) (by decide)).kept)
  unfold OwnS at h1 ⊢
  rw [hfl,List.length_set]
  exact h1
 refine ⟨hrow,fun z hz=>?_,pair_set h.apart hx hs⟩
 obtain ⟨i,hi⟩:=List.getElem?_of_mem hz
 have hk:=(List.getElem?_eq_some_iff.1 hx)
 by_cases hik:i=k
 ·subst hik
  rw [List.getElem?_set_self hk.1] at hi
  cases hi
  rw [hs];exact ho
 ·rw [List.getElem?_set_ne (fun e=>hik e.symm)] at hi
  have hap:ApB z.sl x.sl:=by
   have hii:=(List.getElem?_eq_some_iff.1 hi)
   rcases Nat.lt_or_ge i k with hlt | hge
   ·have:=List.pairwise_iff_getElem.1 h.apart i k hii.1 hk.1 hlt
    rw [hii.2,hk.2] at this;exact this
   ·have:=List.pairwise_iff_getElem.1 h.apart k i hk.1 hii.1 (by omega)
    rw [hii.2,hk.2] at this;exact this.symm
  exact (h.rules z (List.mem_of_getElem? hi)).kept hg hap.kept
def roN:List RoX→Nat
 | []=>0
 | x :: L=>4+6 * x.r.rs.length+roN L
def mkRo (M:Nat) (x:RoX):RoX:={ x with r:=⟨mtS M,mkRuleL (M+1) x.r.rs.length,(M:Int)+1+6 * (x.r.rs.length:Int),(M:Int)+1+6 * (x.r.rs.length:Int)+1,(M:Int)+1+6 * (x.r.rs.length:Int)+1+1⟩ }
theorem mkRo_sl (M:Nat) (x:RoX):(mkRo M x).sl=x.sl:=by unfold mkRo RoX.sl;dsimp only;rw [mkRuleL_len]
def mkRoL (M:Nat):List RoX→List RoX
 | []=>[]
 | x :: L=>mkRo M x :: mkRoL (M+(4+6 * x.r.rs.length)) L
theorem roN_step:∀ {L:List RoX} {k:Nat} {x:RoX},L[k]?=some x→roN (L.take (k+1))=roN (L.take k)+(4+6 * x.r.rs.length)
 | [],k,x,h=>by simp at h
 | y :: L,0,x,h=>by simp at h;subst h;simp [roN]
 | y :: L,k+1,x,h=>by
  have:=roN_step (L:=L) (k:=k) (x:=x) (by simpa using h)
  simp only [List.take_succ_cons,roN]
  omega
theorem roN_le:∀ (L:List RoX) (k:Nat),roN (L.take k)≤roN L
 | [],k=>by simp [roN]
 | y :: L,0=>by simp [roN]
 | y :: L,k+1=>by
  have:=roN_le L k
  simp only [List.take_succ_cons,roN]
  omega
theorem mkRoL_len:∀ (L:List RoX) (M:Nat),(mkRoL M L).length=L.length
 | [],_=>rfl
 | x :: L,M=>by simp [mkRoL,mkRoL_len L]
theorem mkRoL_at:∀ {L:List RoX} {k M:Nat} {x:RoX},L[k]?=some x→(mkRoL M L)[k]?=some (mkRo (M+roN (L.take k)) x)
 | [],k,M,x,h=>by simp at h
 | y :: L,0,M,x,h=>by simp at h;subst h;simp [mkRoL,roN]
 | y :: L,k+1,M,x,h=>by
  have:=mkRoL_at (L:=L) (k:=k) (M:=M+(4+6 * y.r.rs.length)) (x:=x) (by simpa using h)
  simp only [mkRoL,List.getElem?_cons_succ,List.take_succ_cons,roN]
  rw [this]
  congr 2
  omega
def mixRo (M:Nat) (L:List RoX) (k:Nat):List RoX:=(mkRoL M L).take k ++ L.drop k
theorem mix_zero (M:Nat) (L:List RoX):mixRo M L 0=L:=by simp [mixRo]
theorem mix_all (M:Nat) (L:List RoX):mixRo M L L.length=mkRoL M L:=by
 unfold mixRo
 rw [List.drop_length,List.append_nil,List.take_of_length_le (by rw [mkRoL_len];exact Nat.le_refl _)]
theorem mix_at {M:Nat} {L:List RoX} {k:Nat} {x:RoX} (h:L[k]?=some x):(mixRo M L k)[k]?=some x:=by
 have hk:=(List.getElem?_eq_some_iff.1 h).1
 unfold mixRo
 rw [List.getElem?_append_right (by simp;omega)]
 have:k - ((mkRoL M L).take k).length=0:=by rw [List.length_take,mkRoL_len];omega
 rw [this,List.getElem?_drop,Nat.add_zero]
 exact h
theorem mix_step {M:Nat} {L:List RoX} {k:Nat} {x:RoX} (h:L[k]?=some x):(mixRo M L k).set k (mkRo (M+roN (L.take k)) x)=mixRo M L (k+1):=by
 have hk:=List.getElem?_eq_some_iff.1 h
 unfold mixRo
 rw [List.set_append_right _ _ (by have:=hk.1;simp;omega)]
 have:k - ((mkRoL M L).take k).length=0:=by have:=hk.1;rw [List.length_take,mkRoL_len];omega
 rw [this]
 have hd:L.drop k=x :: L.drop (k+1):=by rw [← hk.2];exact List.drop_eq_getElem_cons hk.1
 rw [hd,List.set_cons_zero,List.take_add_one,mkRoL_at h]
 simp
theorem mix_len (M:Nat) (L:List RoX) (k:Nat) (hk:k≤L.length):(mixRo M L k).length=L.length:=by
 unfold mixRo
 rw [List.length_append,List.length_take,mkRoL_len,List.length_drop];omega
open Go.RowKit
namespace Rel
structure Keep (B:Nat→Prop) (w w':World):Prop where
 os:w'.os=w.os
 tape:w'.tape=w.tape
 output:w'.output=w.output
 size:w.heap.size≤w'.heap.size
 block:∀ k,B k→w'.heap[k]?=w.heap[k]?
theorem Keep.refl (B:Nat→Prop) (w:World):Keep B w w:=⟨rfl,rfl,rfl,Nat.le_refl _,fun _ _=>rfl⟩
theorem Keep.trans {B:Nat→Prop} {a b c:World} (h:Keep B a b) (k:Keep B b c):Keep B a c :=
 ⟨k.os.trans h.os,k.tape.trans h.tape,k.output.trans h.output,Nat.le_trans h.size k.size,fun i hi=>(k.block i hi).trans (h.block i hi)⟩
theorem Keep.mono {B C:Nat→Prop} {a b:World} (h:Keep B a b) (hc:∀ k,C k→B k):Keep C a b:=⟨h.os,h.tape,h.output,h.size,fun i hi=>h.block i (hc i hi)⟩
def upd (σ:Nat→Value) (i:Nat) (v:Value):Nat→Value:=fun j=>if j=i then v else σ j
theorem upd_self (σ:Nat→Value) (i:Nat) (v:Value):upd σ i v i=v:=if_pos rfl
theorem upd_ne (σ:Nat→Value) {i j:Nat} (v:Value) (h:j ≠ i):upd σ i v j=σ j:=if_neg h
structure Rsc where
 fact:(Nat→Value)→World→Prop
 own:(Nat→Value)→Nat→Prop
 dm:List Nat
 tk:List Nat
 nd:List Nat
structure Rsc.Ok (Bs:Nat→Prop) (r:Rsc):Prop where
 loc:∀ σ w w',r.fact σ w→Keep (fun b=>Bs b ∨ r.own σ b) w w'→r.fact σ w'
 ext:∀ σ σ':Nat→Value,(∀ j,j ∈ r.dm→σ' j=σ j)→(∀ w,r.fact σ w→r.fact σ' w)∧(∀ b,r.own σ' b→r.own σ b)
def dstOf (ops:Array Oper) (k:Nat):Option Tmp:=(ops[k]?).bind (·.dst)
def mixFr (ops:Array Oper) (a0:Act) (σ:Nat→Value) (L:Nat→Bool):Nat→Act
 | 0=>a0
 | k+1=>if L k then (mixFr ops a0 σ L k).put (dstOf ops k) (σ k) else mixFr ops a0 σ L k
def look (ops:Array Oper) (a0:Act) (σ:Nat→Value) (L:Nat→Bool) (t:Nat):Nat→Option Value
 | 0=>a0.tmps[t]?
 | k+1=>if L k=true∧dstOf ops k=some t∧t<a0.tmps.size then some (σ k) else look ops a0 σ L t k
theorem mixFr_size (ops:Array Oper) (a0:Act) (σ:Nat→Value) (L:Nat→Bool):∀ n,(mixFr ops a0 σ L n).tmps.size=a0.tmps.size
 | 0=>rfl
 | k+1=>by
  unfold mixFr
  split
  ·unfold Act.put
   split
   ·simp [mixFr_size ops a0 σ L k]
   ·exact mixFr_size ops a0 σ L k
  ·exact mixFr_size ops a0 σ L k
theorem mixFr_look (ops:Array Oper) (a0:Act) (σ:Nat→Value) (L:Nat→Bool) (t:Nat):∀ n,(mixFr ops a0 σ L n).tmps[t]?=look ops a0 σ L t n
 | 0=>rfl
 | k+1=>by
  have ih:=mixFr_look ops a0 σ L t k
  have hs:=mixFr_size ops a0 σ L k
  unfold mixFr look
  by_cases hL:L k=true
  ·rw [if_pos hL]
   cases hd:dstOf ops k with
   | none=>simp only [Act.put];rw [if_neg (by rintro ⟨_,h,_⟩;cases h)];exact ih
   | some d =>
    simp only [Act.put]
    by_cases e:d=t
    ·subst e
     by_cases hlt:d<a0.tmps.size
     ·rw [if_pos ⟨hL,rfl,hlt⟩,Array.getElem?_setIfInBounds_self_of_lt (by rw [hs];exact hlt)]
     ·have hle:(mixFr ops a0 σ L k).tmps.size≤d:=by rw [hs];exact Nat.le_of_not_lt hlt
      rw [if_neg (by rintro ⟨_,_,h⟩;exact hlt h),← ih,Array.setIfInBounds_eq_of_size_le hle]
    ·rw [if_neg (by rintro ⟨_,h,_⟩;exact e (Option.some.inj h)),Array.getElem?_setIfInBounds_ne e]
     exact ih
  ·rw [if_neg hL,if_neg (by rintro ⟨h,_⟩;exact hL h)]
   exact ih
theorem look_same {ops:Array Oper} {a0:Act} {σ:Nat→Value} {L L':Nat→Bool} {t:Nat}:∀ n,(∀ k,k<n→dstOf ops k=some t→L k=L' k)→look ops a0 σ L t n=look ops a0 σ L' t n
 | 0,_=>rfl
 | k+1,h=>by
  unfold look
  rw [look_same k (fun j hj=>h j (by omega))]
  by_cases e:dstOf ops k=some t
  ·rw [h k (by omega) e]
  ·rw [if_neg (fun x=>e x.2.1),if_neg (fun x=>e x.2.1)]
theorem look_cut {ops : Array Oper} {a0 : Act} {σ : Nat → Value} {L : Nat → Bool} {t i : Nat} (h : ∀ k, dstOf ops k = some t → k < i) : ∀ n, i ≤ n → look ops a0 σ L t n = look ops a0 σ L t i
  | 0, hn => by have : i = 0 := by omega
                subst this; rfl
  | k + 1, hn => by
    by_cases e : i = k + 1
    · rw [e]
    · rw [← look_cut h k (by omega)]
      conv => lhs; unfold look
      rw [if_neg (fun x => by have := h k x.2.1; omega)]
theorem mixFr_low {ops:Array Oper} {a0:Act} {σ σ':Nat→Value} {L L':Nat→Bool}:∀ n,(∀ k,k<n→L k=L' k∧σ k=σ' k)→mixFr ops a0 σ L n=mixFr ops a0 σ' L' n
 | 0,_=>rfl
 | k+1,h=>by
  unfold mixFr
  rw [mixFr_low k (fun j hj=>h j (by omega)),(h k (by omega)).1,(h k (by omega)).2]
theorem mixFr_add {ops:Array Oper} {a0:Act} {σ:Nat→Value} {L L':Nat→Bool} {i:Nat} {v:Value} (hd:∀ k,k ≠ i→∀ d,dstOf ops i=some d→dstOf ops k ≠ some d) (hi:L i=false) (hi':L' i=true) (hL:∀ k,k ≠ i→L' k=L k) :
  ∀ n,i<n→mixFr ops a0 (upd σ i v) L' n=(mixFr ops a0 σ L n).put (dstOf ops i) v
 | 0,hn=>by omega
 | k+1,hn=>by
  by_cases e:i=k
  ·subst e
   unfold mixFr
   rw [if_pos hi',if_neg (by rw [hi];exact Bool.false_ne_true),upd_self]
   rw [mixFr_low i (fun j hj=>⟨hL j (by omega),upd_ne σ v (by omega)⟩)]
  ·have ih:=mixFr_add (v:=v) (σ:=σ) (a0:=a0) hd hi hi' hL k (by omega)
   unfold mixFr
   rw [hL k (fun h=>e h.symm),upd_ne σ v (fun h=>e h.symm),ih]
   split
   ·exact Act.put_comm _ _ _ (fun d h=>hd k (fun h=>e h.symm) d h)
   ·rfl
def waits (o:Oper) (j:Nat):Bool:=o.after.any fun e=>Region.binds .any e && e.on == j
def waitsAt (ops:Array Oper) (t i:Nat):Bool:=match ops[t]? with | some o=>waits o i | none=>false
def check (ops:Array Oper) (R:List Rsc) (ini:List Nat):Bool :=
 Region.noSelect ops && ini.all (fun k=>decide (ops.size≤k) && ((R[k]?).map fun r=>r.dm.isEmpty && r.tk.isEmpty).getD false) &&
 (List.range ops.size).all fun i=>match ops[i]?,R[i]? with
  | some o,some r =>
   (o.after.all fun e=>!Region.binds .any e || decide (e.on<i)) &&
   ((List.range ops.size).all fun j=>match dstOf ops j with
    | none=>true
    | some d=>(j == i || dstOf ops i != some d) && (!(o.looksAt ops).contains d || waits o j)) &&
   ((r.tk ++ r.nd).all fun j=>(waits o j || ini.contains j) && (List.range ops.size).all fun t=>t == i || !(((R[t]?).map (·.tk)).getD []).contains j || waitsAt ops t i) &&
   r.dm.all (fun j=>j == i || waits o j)
  | _,_=>false
def relUpon (P:Program) (post:Value→World→Prop):Result Next→Prop
 | .ok (.value u) w'=>post u w'
 | .ok .skip w'=>post undef w'
 | .ok (.enter f args) w'=>Calls P f args w' fun e w''=>∃ v,e=.returned v∧post v w''
 | .ok (.row row args) w'=>Rows P row args w' post
 | _=>False
def factsOf (Bs:Nat→Prop) (R:List Rsc) (σ:Nat→Value) (w:World):List Nat→Prop
 | []=>True
 | j :: l=>(∃ r,R[j]?=some r∧r.fact σ w∧∀ b,r.own σ b→b<w.heap.size∧¬ Bs b)∧factsOf Bs R σ w l
structure Left (R:List Rsc) (r:Rsc) (i:Nat) (σ:Nat→Value) (w:World) (v:Value) (w':World):Prop where
 fact:r.fact (upd σ i v) w'
 own:∀ b,r.own (upd σ i v) b→(∃ j rj,j ∈ r.tk∧R[j]?=some rj∧rj.own σ b) ∨ (w.heap.size≤b∧b<w'.heap.size)
 keep:Keep (fun b=>b<w.heap.size∧∀ j rj,j ∈ r.tk→R[j]?=some rj→¬ rj.own σ b) w w'
def StepAt (P:Program) (ops:Array Oper) (Bs:Nat→Prop) (wS:World) (R:List Rsc) (i:Nat) (o:Oper) (r:Rsc) (Fr:(Nat→Value)→Act):Prop :=
 ∀ σ w,Keep Bs wS w→factsOf Bs R σ w (r.tk ++ r.nd) →
  if Region.wanted o (yielded ops (Fr σ).tmps)=true then relUpon P (Left R r i σ w) ((execOp (Fr σ).eval o).run P w) else Left R r i σ w undef w
def Walk (P:Program) (ops:Array Oper) (Bs:Nat→Prop) (wS:World) (R:List Rsc):List Oper→List Rsc→Nat→((Nat→Value)→Act)→Prop
 | o :: l,r :: rs,i,Fr=>StepAt P ops Bs wS R i o r Fr∧Walk P ops Bs wS R l rs (i+1) (fun σ=>(Fr σ).put o.dst (σ i))
 | _,_,_,_=>True
def putAll:List Oper→Nat→Act→(Nat→Value)→Act
 | [],_,a,_=>a
 | o :: l,k,a,σ=>putAll l (k+1) (a.put o.dst (σ k)) σ
section
variable {P:Program} {ops:Array Oper} {Bs:Nat→Prop} {wS:World} {R:List Rsc} {ini fin:List Nat} {a0:Act} {Q:Exit→Act→World→Prop}
def Held (ops:Array Oper) (R:List Rsc) (ini:List Nat) (listed:Array Bool) (k:Nat):Prop :=
 (k ∈ ini ∨ (k<ops.size∧listed.getD k false=true))∧∀ t r,R[t]?=some r→t<ops.size→listed.getD t false=true→k ∉ r.tk
structure Inv (ops:Array Oper) (Bs:Nat→Prop) (wS:World) (R:List Rsc) (ini:List Nat) (a0:Act) (listed:Array Bool) (σ:Nat→Value) (a:Act) (w:World):Prop where
 sz:listed.size=ops.size
 fr:a=mixFr ops a0 σ (fun k=>listed.getD k false) ops.size
 keep:Keep Bs wS w
 closed:∀ t o,listed.getD t false=true→ops[t]?=some o→∀ e ∈ o.after,Region.binds .any e=true→listed.getD e.on false=true
 held:∀ k r,R[k]?=some r→Held ops R ini listed k→r.fact σ w∧∀ b,r.own σ b→b<w.heap.size∧¬ Bs b
 apart:∀ j k rj rk,R[j]?=some rj→R[k]?=some rk→Held ops R ini listed j→Held ops R ini listed k→j ≠ k→∀ b,rj.own σ b→¬ rk.own σ b
structure Chk (ops:Array Oper) (R:List Rsc) (ini:List Nat):Prop where
 nosel:Region.noSelect ops=true
 inis:∀ k,k ∈ ini→ops.size≤k∧∃ r,R[k]?=some r∧r.dm=[]
 has:∀ i,i<ops.size→∃ o r,ops[i]?=some o∧R[i]?=some r
 low:∀ (i:Nat) o,ops[i]?=some o→∀ e ∈ o.after,Region.binds .any e=true→e.on<i
 dst:∀ i j,i<ops.size→j ≠ i→∀ d,dstOf ops i=some d→dstOf ops j ≠ some d
 looks:∀ (i:Nat) o (j:Nat) d,ops[i]?=some o→dstOf ops j=some d→d ∈ o.looksAt ops→waits o j=true
 wants:∀ (i:Nat) o r (j:Nat),ops[i]?=some o→R[i]?=some r→j ∈ r.tk ++ r.nd→(waits o j=true ∨ j ∈ ini)∧∀ t rt,R[t]?=some rt→t<ops.size→t ≠ i→j ∈ rt.tk→waitsAt ops t i=true
 dm:∀ (i:Nat) o r (j:Nat),ops[i]?=some o→R[i]?=some r→j ∈ r.dm→j=i ∨ waits o j=true
theorem dstOf_lt {j:Nat} {d:Tmp} (h:dstOf ops j=some d):j<ops.size:=by
 unfold dstOf at h
 cases ho:ops[j]? with
 | none=>rw [ho] at h;cases h
 | some o=>exact (Array.getElem?_eq_some_iff.1 ho).1
theorem chk_of (h:check ops R ini=true):Chk ops R ini:=by
 unfold check at h
 simp only [Bool.and_eq_true,List.all_eq_true,List.mem_range] at h
 obtain ⟨⟨h1,h2⟩,h3⟩:=h
 have at3:∀ i o,ops[i]?=some o→∃ r,R[i]?=some r ∧
   (o.after.all fun e=>!Region.binds .any e || decide (e.on<i))=true ∧
   ((List.range ops.size).all fun j=>match dstOf ops j with
    | none=>true
    | some d=>(j == i || dstOf ops i != some d) && (!(o.looksAt ops).contains d || waits o j))=true ∧
   ((r.tk ++ r.nd).all fun j=>(waits o j || ini.contains j) && (List.range ops.size).all fun t=>t == i || !(((R[t]?).map (·.tk)).getD []).contains j || waitsAt ops t i)=true ∧
   r.dm.all (fun j=>j == i || waits o j)=true:=by
  intro i o ho
  have hi:=(Array.getElem?_eq_some_iff.1 ho).1
  have:=h3 i hi
  rw [ho] at this
  cases hr:R[i]? with
  | none=>rw [hr] at this;simp at this
  | some r =>
   rw [hr] at this
   simp only [Bool.and_eq_true] at this
   exact ⟨r,rfl,this.1.1.1,this.1.1.2,this.1.2,this.2⟩
 refine ⟨h1,?_,?_,?_,?_,?_,?_,?_⟩
 ·intro k hk
  have:=h2 k hk
  rw [decide_eq_true_eq] at this
  refine ⟨this.1,?_⟩
  cases hr:R[k]? with
  | none=>rw [hr] at this;simp at this
  | some r =>
   rw [hr] at this
   simp only [Option.map_some,Option.getD_some,Bool.and_eq_true] at this
   exact ⟨r,rfl,List.isEmpty_iff.1 this.2.1⟩
 ·intro i hi
  obtain ⟨r,hr,_⟩:=at3 i ops[i] (Array.getElem?_eq_getElem hi)
  exact ⟨_,r,Array.getElem?_eq_getElem hi,hr⟩
 ·intro i o ho e he hb
  obtain ⟨r,hr,h,_⟩:=at3 i o ho
  have:=Array.all_eq_true_iff_forall_mem.1 h e he
  simpa [hb] using this
 ·intro i j hi hne d hd hj
  obtain ⟨r,hr,_,h,_⟩:=at3 i ops[i] (Array.getElem?_eq_getElem hi)
  have:=List.all_eq_true.1 h j (List.mem_range.2 (dstOf_lt hj))
  rw [hj] at this
  simp [hd,hne] at this
 ·intro i o j d ho hj hl
  obtain ⟨r,hr,_,h,_⟩:=at3 i o ho
  have:=List.all_eq_true.1 h j (List.mem_range.2 (dstOf_lt hj))
  rw [hj] at this
  simp only [Bool.and_eq_true,Bool.or_eq_true,Bool.not_eq_true'] at this
  rcases this.2 with hx | hx
  ·rw [List.contains_iff_mem.2 hl] at hx;cases hx
  ·exact hx
 ·intro i o r j ho hr hj
  obtain ⟨r',hr',_,_,h,_⟩:=at3 i o ho
  rw [hr] at hr';cases hr'
  have:=List.all_eq_true.1 h j hj
  simp only [Bool.and_eq_true,Bool.or_eq_true,List.all_eq_true,List.mem_range,Bool.not_eq_true'] at this
  refine ⟨this.1.imp id (fun hx=>List.contains_iff_mem.1 hx),fun t rt ht hlt hne hm=>?_⟩
  rcases this.2 t hlt with (hx | hx) | hx
  ·exact absurd (by simpa using hx) hne
  ·rw [ht] at hx;simp only [Option.map_some,Option.getD_some] at hx;rw [List.contains_iff_mem.2 hm] at hx;cases hx
  ·exact hx
 ·intro i o r j ho hr hj
  obtain ⟨r',hr',_,_,_,h⟩:=at3 i o ho
  rw [hr] at hr';cases hr'
  have:=List.all_eq_true.1 h j hj
  simpa using this
theorem waits_listed {listed:Array Bool} {o:Oper} {j:Nat} (hw:waits o j=true) (h:∀ e ∈ o.after,Region.binds .any e=true→listed.getD e.on false=true):listed.getD j false=true:=by
 unfold waits at hw
 rw [Array.any_eq_true'] at hw
 obtain ⟨e,he,hx⟩:=hw
 simp only [Bool.and_eq_true,beq_iff_eq] at hx
 have:=h e he hx.1
 rwa [hx.2] at this
theorem factsOf_of {σ:Nat→Value} {w:World}:∀ l:List Nat,(∀ j,j ∈ l→∃ r,R[j]?=some r∧r.fact σ w∧∀ b,r.own σ b→b<w.heap.size∧¬ Bs b)→factsOf Bs R σ w l
 | [],_=>trivial
 | j :: l,h=>⟨h j (by simp),factsOf_of l (fun i hi=>h i (by simp [hi]))⟩
theorem walk_drop {l:List Oper} {ops:Array Oper} (hW:Walk P ops Bs wS R l R 0 (fun _=>a0)) (ho:ops=l.toArray):∀ k,k≤l.length→Walk P ops Bs wS R (l.drop k) (R.drop k) k (fun σ=>mixFr ops a0 σ (fun _=>true) k) ∨ R.length<k
 | 0,_=>.inl (by
  rw [List.drop_zero,List.drop_zero]
  exact hW)
 | k+1,hk=>by
  rcases walk_drop hW ho k (by omega) with h | h
  ·by_cases hr:k<R.length
   ·rw [List.drop_eq_getElem_cons (show k<l.length by omega),List.drop_eq_getElem_cons hr] at h
    refine .inl ?_
    have h2:=h.2
    have e:∀ σ,(mixFr ops a0 σ (fun _=>true) k).put (l[k]'(by omega)).dst (σ k)=mixFr ops a0 σ (fun _=>true) (k+1):=fun σ=>by
     conv=>rhs;unfold mixFr
     rw [if_pos rfl]
     congr 1
     unfold dstOf
     rw [ho]
     simp [show k<l.length by omega]
    simp only [e] at h2
    exact h2
   ·exact .inr (by omega)
  ·exact .inr (by omega)
theorem walk_at {l:List Oper} (hW:Walk P l.toArray Bs wS R l R 0 (fun _=>a0)) {i:Nat} {o:Oper} {r:Rsc} (ho:l.toArray[i]?=some o) (hr:R[i]?=some r) :
  StepAt P l.toArray Bs wS R i o r (fun σ=>mixFr l.toArray a0 σ (fun _=>true) i):=by
 have hi:i<l.length:=by simpa using (Array.getElem?_eq_some_iff.1 ho).1
 have hri:=(List.getElem?_eq_some_iff.1 hr).1
 rcases walk_drop hW rfl i (by omega) with h | h
 ·rw [List.drop_eq_getElem_cons hi,List.drop_eq_getElem_cons hri] at h
  have h1:=h.1
  have e1:l[i]=o:=by simpa [hi] using ho
  have e2:R[i]=r:=by simpa [hri] using hr
  rw [e1,e2] at h1
  exact h1
 ·omega
theorem putAll_mix {l:List Oper} {σ:Nat→Value}:∀ m k,k+m=l.length→putAll (l.drop k) k (mixFr l.toArray a0 σ (fun _=>true) k) σ=mixFr l.toArray a0 σ (fun _=>true) l.length
 | 0,k,h=>by
  have:k=l.length:=by omega
  subst this
  simp [putAll]
 | m+1,k,h=>by
  rw [List.drop_eq_getElem_cons (show k<l.length by omega)]
  unfold putAll
  rw [← putAll_mix m (k+1) (by omega)]
  congr 1
  conv=>rhs;unfold mixFr
  rw [if_pos rfl]
  congr 1
  unfold dstOf
  simp [show k<l.length by omega]
theorem getD_t {listed:Array Bool} {i k:Nat}:(listed.setIfInBounds i true).getD k false=if k=i∧i<listed.size then true else listed.getD k false:=by
 by_cases h:k=i
 ·subst h
  by_cases hs:k<listed.size
  ·simp [hs]
  ·simp [hs]
 ·rw [if_neg (fun x=>h x.1)]
  exact getD_set_ne false (fun e=>h e.symm)
theorem inv_run (hc:Chk ops R ini) {listed:Array Bool} {σ:Nat→Value} {a:Act} {w:World} (hI:Inv ops Bs wS R ini a0 listed σ a w) {i:Nat} {o:Oper} (ho:ops[i]?=some o) (hall:∀ e ∈ o.after,Region.binds .any e=true→listed.getD e.on false=true) :
  execOp a.eval o=execOp (mixFr ops a0 σ (fun _=>true) i).eval o∧Region.wanted o (yielded ops a.tmps)=Region.wanted o (yielded ops (mixFr ops a0 σ (fun _=>true) i).tmps):=by
 have hi:=(Array.getElem?_eq_some_iff.1 ho).1
 have key:∀ d,d ∈ o.looksAt ops→a.tmps[d]?=(mixFr ops a0 σ (fun _=>true) i).tmps[d]?:=by
  intro d hd
  have hw:∀ j,dstOf ops j=some d→listed.getD j false=true∧j<i:=fun j hj=>by
   have:=hc.looks i o j d ho hj hd
   refine ⟨waits_listed this hall,?_⟩
   unfold waits at this
   rw [Array.any_eq_true'] at this
   obtain ⟨e,he,hx⟩:=this
   simp only [Bool.and_eq_true,beq_iff_eq] at hx
   have:=hc.low i o ho e he hx.1
   omega
  rw [hI.fr,mixFr_look,mixFr_look,← look_cut (fun k hk=>(hw k hk).2) ops.size (by omega)]
  exact look_same _ (fun k _ hk=>(hw k hk).1)
 constructor
 ·refine execOp_congr o (fun cs b=>Region.noSelect_spec hc.nosel i o cs b ho) (fun x hx=>?_)
  cases x with
  | tmp t =>
   have:=key t (List.mem_append_left _ (List.mem_filterMap.2 ⟨.tmp t,by simpa using hx,rfl⟩))
   simp only [Act.eval,Array.getD_eq_getD_getElem?,this]
  | _=>rfl
 ·unfold Region.wanted
  cases hg:o.guard with
  | none=>rfl
  | some gw =>
   obtain ⟨g,want⟩:=gw
   have hy:yielded ops a.tmps g=yielded ops (mixFr ops a0 σ (fun _=>true) i).tmps g:=by
    unfold yielded
    cases ht:(ops[g]?).bind (·.dst) with
    | none=>rfl
    | some t =>
     have:=key t (by simp [Oper.looksAt,hg,ht])
     simp [this]
   simp only [hy]
theorem inv_step (hc:Chk ops R ini) (hok:∀ (k:Nat) (r:Rsc),R[k]?=some r→r.Ok Bs) (hBs:∀ b,Bs b→b<wS.heap.size) {listed:Array Bool} {σ:Nat→Value} {a:Act} {w:World} (hI:Inv ops Bs wS R ini a0 listed σ a w)
  {i:Nat} {o:Oper} {r:Rsc} (ho:ops[i]?=some o) (hr:R[i]?=some r) (hun:listed.getD i true=false) (hall:∀ e ∈ o.after,Region.binds .any e=true→listed.getD e.on false=true) {v:Value} {w':World} (hL:Left R r i σ w v w') :
  Inv ops Bs wS R ini a0 (listed.setIfInBounds i true) (upd σ i v) (a.put o.dst v) w':=by
 have hi:=(Array.getElem?_eq_some_iff.1 ho).1
 have hil:i<listed.size:=by rw [hI.sz];exact hi
 have hif:listed.getD i false=false:=by
  rw [Array.getD_eq_getD_getElem?,Array.getElem?_eq_getElem hil] at hun ⊢
  exact hun
 have hdst:dstOf ops i=o.dst:=by unfold dstOf;rw [ho];rfl
 -- those that are taken are held
 have htk:∀ j,j ∈ r.tk ++ r.nd→Held ops R ini listed j:=fun j hj=>by
  obtain ⟨h1,h2⟩:=hc.wants i o r j ho hr hj
  refine ⟨?_,fun t rt ht hlt hl hm=>?_⟩
  ·rcases h1 with h1 | h1
   ·have hlj:=waits_listed h1 hall
    refine .inr ⟨?_,hlj⟩
    rw [← hI.sz]
    rcases Nat.lt_or_ge j listed.size with h | h
    ·exact h
    ·rw [Array.getD_eq_getD_getElem?,Array.getElem?_eq_none h] at hlj;cases hlj
   ·exact .inl h1
  ·have hne:t ≠ i:=fun e=>by subst e;rw [hif] at hl;cases hl
   have hw:=h2 t rt ht hlt hne hm
   unfold waitsAt at hw
   split at hw
   ·rename_i ot hot
    have:=waits_listed hw (hI.closed t ot hl hot)
    rw [hif] at this;cases this
   ·cases hw
 -- who is held behind it
 have hold:∀ k,k ≠ i→Held ops R ini (listed.setIfInBounds i true) k→Held ops R ini listed k∧k ∉ r.tk:=fun k hk h=>by
  refine ⟨⟨?_,fun t rt ht hlt hl=>h.2 t rt ht hlt (getD_set_true hl)⟩,h.2 i r hr hi (by rw [getD_t,if_pos ⟨rfl,hil⟩])⟩
  rcases h.1 with h1 | h1
  ·exact .inl h1
  ·refine .inr ⟨h1.1,?_⟩
   have:=h1.2
   rw [getD_t,if_neg (fun x=>hk x.1)] at this
   exact this
 -- the values that a held fact hangs on are there
 have hdm:∀ k rk,R[k]?=some rk→k ≠ i→Held ops R ini listed k→∀ j,j ∈ rk.dm→upd σ i v j=σ j∧σ j=upd σ i v j:=fun k rk hrk hki hh j hj=>by
  have hne:j ≠ i:=by
   intro e
   rcases hh.1 with h1 | h1
   ·obtain ⟨_,r',hr',hd⟩:=hc.inis k h1
    rw [hrk] at hr';cases hr'
    rw [hd] at hj;cases hj
   ·obtain ⟨ok,rk',hok',hrk'⟩:=hc.has k h1.1
    rw [hrk] at hrk';cases hrk'
    rcases hc.dm k ok rk j hok' hrk hj with h2 | h2
    ·omega
    ·have:=waits_listed h2 (hI.closed k ok h1.2 hok')
     rw [e,hif] at this;cases this
  exact ⟨upd_ne σ v hne,(upd_ne σ v hne).symm⟩
 have hsz:=hL.keep.size
 have hw0:=hI.keep.size
 -- an old fact's blocks are as they were
 have hblk:∀ k rk,R[k]?=some rk→k ≠ i→Held ops R ini (listed.setIfInBounds i true) k→Keep (fun b=>Bs b ∨ rk.own σ b) w w':=fun k rk hrk hki hh=>by
  obtain ⟨h1,h2⟩:=hold k hki hh
  refine hL.keep.mono (fun b hb=>?_)
  rcases hb with hb | hb
  ·refine ⟨Nat.lt_of_lt_of_le (hBs b hb) hw0,fun j rj hj hrj hob=>?_⟩
   exact ((hI.held j rj hrj (htk j (List.mem_append_left _ hj))).2 b hob).2 hb
  ·refine ⟨((hI.held k rk hrk h1).2 b hb).1,fun j rj hj hrj hob=>?_⟩
   exact hI.apart j k rj rk hrj hrk (htk j (List.mem_append_left _ hj)) h1 (fun e=>h2 (e ▸ hj)) b hob hb
 have howni:∀ b,r.own (upd σ i v) b→b<w'.heap.size∧¬ Bs b:=fun b hb=>by
  rcases hL.own b hb with ⟨j,rj,hj,hrj,hob⟩ | ⟨h1,h2⟩
  ·have:=(hI.held j rj hrj (htk j (List.mem_append_left _ hj))).2 b hob
   exact ⟨Nat.lt_of_lt_of_le this.1 hsz,this.2⟩
  ·exact ⟨h2,fun hb'=>by have:=hBs b hb';omega⟩
 have hownk:∀ k rk,R[k]?=some rk→k ≠ i→Held ops R ini (listed.setIfInBounds i true) k→∀ b,rk.own (upd σ i v) b→rk.own σ b:=fun k rk hrk hki hh b hb =>
  ((hok k rk hrk).ext σ (upd σ i v) (fun j hj=>(hdm k rk hrk hki (hold k hki hh).1 j hj).1)).2 b hb
 have hia:∀ k rk,R[k]?=some rk→k ≠ i→Held ops R ini (listed.setIfInBounds i true) k→∀ b,r.own (upd σ i v) b→¬ rk.own (upd σ i v) b:=fun k rk hrk hki hh b hb hb'=>by
  have hb2:=hownk k rk hrk hki hh b hb'
  obtain ⟨h1,h2⟩:=hold k hki hh
  rcases hL.own b hb with ⟨j,rj,hj,hrj,hob⟩ | ⟨h3,h4⟩
  ·exact hI.apart j k rj rk hrj hrk (htk j (List.mem_append_left _ hj)) h1 (fun e=>h2 (e ▸ hj)) b hob hb2
  ·have:=((hI.held k rk hrk h1).2 b hb2).1
   omega
 refine ⟨by simp [hI.sz],?_,?_,?_,?_,?_⟩
 ·rw [← hdst,hI.fr]
  refine (mixFr_add (fun k hk d hd=>hc.dst i k hi hk d hd) hif (by rw [getD_t,if_pos ⟨rfl,hil⟩]) (fun k hk=>by rw [getD_t,if_neg (fun x=>hk x.1)]) _ hi).symm
 ·exact hI.keep.trans (hL.keep.mono (fun b hb=>⟨Nat.lt_of_lt_of_le (hBs b hb) hw0,fun j rj hj hrj hob=>((hI.held j rj hrj (htk j (List.mem_append_left _ hj))).2 b hob).2 hb⟩))
 ·intro t ot hl hot e he hb
  by_cases hti:t=i
  ·subst hti
   rw [ho] at hot;cases hot
   exact getD_set_true (hall e he hb)
  ·rw [getD_t,if_neg (fun x=>hti x.1)] at hl
   exact getD_set_true (hI.closed t ot hl hot e he hb)
 ·intro k rk hrk hh
  by_cases hki:k=i
  ·subst hki
   rw [hr] at hrk;cases hrk
   exact ⟨hL.fact,howni⟩
  ·have h0:=hI.held k rk hrk (hold k hki hh).1
   refine ⟨((hok k rk hrk).ext σ (upd σ i v) (fun j hj=>(hdm k rk hrk hki (hold k hki hh).1 j hj).1)).1 _ ((hok k rk hrk).loc σ w w' h0.1 (hblk k rk hrk hki hh)),fun b hb=>?_⟩
   have:=h0.2 b (hownk k rk hrk hki hh b hb)
   exact ⟨Nat.lt_of_lt_of_le this.1 hsz,this.2⟩
 ·intro j k rj rk hrj hrk hj hk hne b hb hb'
  by_cases hji:j=i
  ·subst hji
   rw [hr] at hrj;cases hrj
   exact hia k rk hrk (fun e=>hne e.symm) hk b hb hb'
  ·by_cases hki:k=i
   ·subst hki
    rw [hr] at hrk;cases hrk
    exact hia j rj hrj hji hj b hb' hb
   ·exact hI.apart j k rj rk hrj hrk (hold j hji hj).1 (hold k hki hk).1 hne b (hownk j rj hrj hji hj b hb) (hownk k rk hrk hki hk b hb')
theorem rel_wp {o:Oper} {a:Act} {w:World} {K:Act→World→Prop} {post:Value→World→Prop} (h:relUpon P post ((execOp a.eval o).run P w)) (hk:∀ v w',post v w'→K (a.put o.dst v) w'):o.wp P a w K Q:=by
 unfold Oper.wp
 generalize (execOp a.eval o).run P w=res at *
 cases res with
 | ok n w' =>
  cases n <;> simp only [relUpon] at h <;> simp only [Oper.upon]
  case value u=>exact hk _ _ h
  case skip=>exact hk _ _ h
  case enter f args=>exact h.mono fun e w'' ⟨v,he,hp⟩=>by subst he;exact hk _ _ hp
  case row row args=>exact h.mono fun v w'' hp=>hk _ _ hp
 | halt x w'=>simp only [relUpon] at h
theorem count_set {listed:Array Bool} {i:Nat} (hi:i<listed.size) (h:listed[i]=false):(listed.setIfInBounds i true).toList.count false+1=listed.toList.count false:=by
 have hl:i<listed.toList.length:=by simpa using hi
 have hx:listed.toList[i]=false:=by simpa using h
 have h1:(listed.setIfInBounds i true).toList=listed.toList.set i true:=by simp
 have h2:0<listed.toList.count false:=List.count_pos_iff.2 (by rw [← hx];exact List.getElem_mem hl)
 rw [h1,List.count_set hl,hx]
 rw [if_pos (show ((false:Bool) == false)=true from rfl),if_neg (show ¬ ((true:Bool) == false)=true from Bool.false_ne_true)]
 omega
theorem any_of_inv (hc:Chk ops R ini) (hok:∀ (k:Nat) (r:Rsc),R[k]?=some r→r.Ok Bs) (hBs:∀ b,Bs b→b<wS.heap.size)
  (hS:∀ (i:Nat) (o:Oper) (r:Rsc),ops[i]?=some o→R[i]?=some r→StepAt P ops Bs wS R i o r (fun σ=>mixFr ops a0 σ (fun _=>true) i))
  (hE:∀ (listed:Array Bool) (σ:Nat→Value) (a:Act) (w:World),Inv ops Bs wS R ini a0 listed σ a w→(∀ k,k<ops.size→listed.getD k false=true)→Q .normal a w) :
  ∀ (fuel:Nat) (listed:Array Bool) (σ:Nat→Value) (a:Act) (w:World),Inv ops Bs wS R ini a0 listed σ a w→listed.toList.count false≤fuel→wpAny P .any ops Q fuel listed a w:=by
 have hend:∀ (listed:Array Bool) (σ:Nat→Value) (a:Act) (w:World),Inv ops Bs wS R ini a0 listed σ a w→Region.ready .any ops listed=[]→Q .normal a w:=by
  intro listed σ a w hI hr
  refine hE listed σ a w hI ?_
  intro k
  induction k using Nat.strongRecOn with
  | ind k ih =>
   intro hk
   obtain ⟨o,r,ho,_⟩:=hc.has k hk
   have hkl:k<listed.size:=by rw [hI.sz];exact hk
   cases hx:listed.getD k false with
   | true=>rfl
   | false =>
    have:k ∈ Region.ready .any ops listed:=mem_ready.2 ⟨by
     rw [Array.getD_eq_getD_getElem?,Array.getElem?_eq_getElem hkl] at hx ⊢
     exact hx,o,ho,fun e he hb=>ih e.on (hc.low k o ho e he hb) (by have:=hc.low k o ho e he hb;omega)⟩
    rw [hr] at this;cases this
 intro fuel
 induction fuel with
 | zero =>
  intro listed σ a w hI hn
  have hr:Region.ready .any ops listed=[]:=by
   cases hx:Region.ready .any ops listed with
   | nil=>rfl
   | cons i l =>
    have hm:=(mem_ready.1 (show i ∈ Region.ready .any ops listed by rw [hx];simp)).1
    rcases Nat.lt_or_ge i listed.size with h | h
    ·have hf:listed[i]=false:=by
      rw [Array.getD_eq_getD_getElem?,Array.getElem?_eq_getElem h] at hm
      exact hm
     have:=count_set h hf
     omega
    ·rw [Array.getD_eq_getD_getElem?,Array.getElem?_eq_none h] at hm;cases hm
  exact ⟨hr,hend listed σ a w hI hr⟩
 | succ fuel ih =>
  intro listed σ a w hI hn
  refine ⟨hend listed σ a w hI,fun i hi=>?_⟩
  obtain ⟨hun,o,ho,hall⟩:=mem_ready.1 hi
  have hlt:=(Array.getElem?_eq_some_iff.1 ho).1
  obtain ⟨_,r,_,hr⟩:=hc.has i hlt
  have hil:i<listed.size:=by rw [hI.sz];exact hlt
  have hf:listed[i]=false:=by
   rw [Array.getD_eq_getD_getElem?,Array.getElem?_eq_getElem hil] at hun
   exact hun
  have hcnt:=count_set hil hf
  obtain ⟨e1,e2⟩:=inv_run hc hI ho hall
  have hif:listed.getD i false=false:=by
   rw [Array.getD_eq_getD_getElem?,Array.getElem?_eq_getElem hil] at hun ⊢
   exact hun
  have hfacts:factsOf Bs R σ w (r.tk ++ r.nd):=factsOf_of _ (fun j hj=>by
   obtain ⟨h1,h2⟩:=hc.wants i o r j ho hr hj
   have hheld:Held ops R ini listed j:=by
    refine ⟨?_,fun t rt ht hlt hl hm=>?_⟩
    ·rcases h1 with h1 | h1
     ·have hlj:=waits_listed h1 hall
      refine .inr ⟨?_,hlj⟩
      rw [← hI.sz]
      rcases Nat.lt_or_ge j listed.size with h | h
      ·exact h
      ·rw [Array.getD_eq_getD_getElem?,Array.getElem?_eq_none h] at hlj;cases hlj
     ·exact .inl h1
    ·have hne:t ≠ i:=fun e=>by subst e;rw [hif] at hl;cases hl
     have hw:=h2 t rt ht hlt hne hm
     unfold waitsAt at hw
     split at hw
     ·rename_i ot hot
      have:=waits_listed hw (hI.closed t ot hl hot)
      rw [hif] at this;cases this
     ·cases hw
   have hR:∃ rj,R[j]?=some rj:=by
    rcases hheld.1 with h | h
    ·obtain ⟨_,rj,h,_⟩:=hc.inis j h
     exact ⟨rj,h⟩
    ·obtain ⟨_,rj,_,h⟩:=hc.has j h.1
     exact ⟨rj,h⟩
   obtain ⟨rj,hrj⟩:=hR
   exact ⟨rj,hrj,hI.held j rj hrj hheld⟩)
  have hst:=hS i o r ho hr σ w hI.keep hfacts
  unfold wpOp
  simp only [ho]
  rw [e2]
  dsimp only at hst
  split
  ·rename_i hw
   rw [if_pos hw,← e1] at hst
   exact .inl (rel_wp hst (fun v w' hL=>ih _ _ _ _ (inv_step hc hok hBs hI ho hr hun hall hL) (by omega)))
  ·rename_i hw
   rw [if_neg hw] at hst
   exact ih _ _ _ _ (inv_step hc hok hBs hI ho hr hun hall hst) (by omega)
def finB (ops:Array Oper) (R:List Rsc) (ini fin:List Nat):Bool :=
 fin.all fun k=>(decide (k<ops.size) || ini.contains k) && (List.range ops.size).all fun t=>!(((R[t]?).map (·.tk)).getD []).contains k
theorem wp_region_rel {id:Nat} {l:List Oper} {a:Act} {w:World} (R:List Rsc) (ini fin:List Nat) (Bs:Nat→Prop)
  (hm:P.follows .mixedOrders=true) (hchk:check l.toArray R ini=true) (hfin:finB l.toArray R ini fin=true)
  (hok:∀ r,r ∈ R→r.Ok Bs) (hBs:∀ b,Bs b→b<w.heap.size)
  (hini:∀ (k:Nat) (r:Rsc),k ∈ ini→R[k]?=some r→r.fact (fun _=>undef) { w with drawn:=w.drawn+1 }∧∀ b,r.own (fun _=>undef) b→b<w.heap.size∧¬ Bs b)
  (hap:∀ (j k:Nat) (rj rk:Rsc),j ∈ ini→k ∈ ini→j ≠ k→R[j]?=some rj→R[k]?=some rk→∀ b,rj.own (fun _=>undef) b→¬ rk.own (fun _=>undef) b)
  (hW:Walk P l.toArray Bs { w with drawn:=w.drawn+1 } R l R 0 (fun _=>a))
  (hE:∀ (σ:Nat→Value) (w':World),Keep Bs { w with drawn:=w.drawn+1 } w'→factsOf Bs R σ w' fin →
   (∀ (j k:Nat) (rj rk:Rsc),j ∈ fin→k ∈ fin→j ≠ k→R[j]?=some rj→R[k]?=some rk→∀ b,rj.own σ b→¬ rk.own σ b)→Q .normal (putAll l 0 a σ) w') :
  (Code.region id l.toArray true).wp P Q a w:=by
 have hc:=chk_of hchk
 have hok':∀ (k:Nat) (r:Rsc),R[k]?=some r→r.Ok Bs:=fun k r h=>hok r (List.mem_of_getElem? h)
 have hno:∀ k,(Array.replicate l.toArray.size false).getD k false=false:=fun k=>by
  rw [Array.getD_eq_getD_getElem?,Array.getElem?_replicate]
  split <;> rfl
 have hHeld:∀ k,Held l.toArray R ini (Array.replicate l.toArray.size false) k→k ∈ ini:=fun k h=>by
  rcases h.1 with h | h
  ·exact h
  ·rw [hno] at h;cases h.2
 refine wp_region_any hm (any_of_inv (R:=R) (ini:=ini) (Bs:=Bs) (wS:={ w with drawn:=w.drawn+1 }) (a0:=a) hc hok' hBs (fun i o r ho hr=>walk_at hW ho hr) ?_ _ _ (fun _=>undef) _ _ ?_ ?_)
 ·intro listed σ a' w' hI hall
  have hheld:∀ k,k ∈ fin→Held l.toArray R ini listed k∧∃ r,R[k]?=some r:=fun k hk=>by
   unfold finB at hfin
   have:=List.all_eq_true.1 hfin k hk
   simp only [Bool.and_eq_true,Bool.or_eq_true,decide_eq_true_eq,List.all_eq_true,List.mem_range,Bool.not_eq_true'] at this
   refine ⟨⟨?_,fun t r ht hlt _ hmem=>?_⟩,?_⟩
   ·rcases this.1 with h | h
    ·exact .inr ⟨h,hall k h⟩
    ·exact .inl (List.contains_iff_mem.1 h)
   ·have h2:=this.2 t hlt
    rw [ht] at h2
    simp only [Option.map_some,Option.getD_some] at h2
    rw [List.contains_iff_mem.2 hmem] at h2;cases h2
   ·rcases this.1 with h | h
    ·obtain ⟨_,r,_,h⟩:=hc.has k h
     exact ⟨r,h⟩
    ·obtain ⟨_,r,h,_⟩:=hc.inis k (List.contains_iff_mem.1 h)
     exact ⟨r,h⟩
  have hfr:a'=putAll l 0 a σ:=by
   rw [hI.fr]
   have:=putAll_mix (l:=l) (a0:=a) (σ:=σ) l.length 0 (by omega)
   rw [List.drop_zero] at this
   refine Eq.trans ?_ this.symm
   rw [show l.toArray.size=l.length from by simp]
   exact mixFr_low _ (fun k hk=>⟨hall k (by simpa using hk),rfl⟩)
  rw [hfr]
  refine hE σ w' hI.keep (factsOf_of _ (fun j hj=>?_)) (fun j k rj rk hj hk hne hrj hrk b=>?_)
  ·obtain ⟨hh,r,hr⟩:=hheld j hj
   exact ⟨r,hr,hI.held j r hr hh⟩
  ·exact hI.apart j k rj rk hrj hrk (hheld j hj).1 (hheld k hk).1 hne b
 ·refine ⟨by simp,?_,Keep.refl _ _,?_,?_,?_⟩
  ·have:∀ n,mixFr l.toArray a (fun _=>undef) (fun k=>(Array.replicate l.toArray.size false).getD k false) n=a:=by
    intro n
    induction n with
    | zero=>rfl
    | succ n ih=>unfold mixFr;rw [hno,if_neg Bool.false_ne_true];exact ih
   exact (this _).symm
  ·intro t o ht
   rw [hno] at ht;cases ht
  ·intro k r hr hh
   exact hini k r (hHeld k hh) hr
  ·intro j k rj rk hrj hrk hj hk hne b hb
   exact hap j k rj rk (hHeld j hj) (hHeld k hk) hne hrj hrk b hb
 ·refine Nat.le_trans (List.count_le_length) ?_
  simp
end
end Rel
theorem keep_grown {B:Nat→Prop} {w w1 w2:World} {r:Option Nat} (h:Rel.Keep B w w1) (hg:w1.grownBy w2 r) (hB:∀ b,B b→b<w1.heap.size∧some b ≠ r):Rel.Keep B w w2 :=
 ⟨hg.os.trans h.os,hg.tape.trans h.tape,hg.output.trans h.output,Nat.le_trans h.size hg.size,fun b hb=>(hg.block b (hB b hb).1 (hB b hb).2).trans (h.block b hb)⟩
set_option maxHeartbeats 4000000 in
theorem markRoleS_any (a:Option Addr) (n cap B m0:Nat) (L:List RoX) (w:World) (h:OwnRo w B (.slice a n cap) L) (h0:0<m0) (hm:m0+roN L≤100000000000) (hn9:n≤1048576) :
  Calls Tryz.prog 49 #[.slice a n cap,.int .i64 (m0:Int)] w fun e w'=>e=.returned (.int .i64 ((m0+roN L:Nat):Int))∧OwnRo w' B (.slice a n cap) (mkRoL m0 L)∧Rel.Keep (fun b=>b<w.heap.size∧¬ roBk (.slice a n cap) L b) w w':=by
 have H:Hid (OwnRo w B (.slice a n cap) (mixRo m0 L 0)):=by show OwnRo _ _ _ _;rw [mix_zero];exact h
 have hn:=h.row.len
 clear h
 go_enter Tryz.func49,Tryz.ntmps49
 go_wp2
 go_loopw [1,5] (fun m i wr=>∃ (k M:Nat),k≤n∧i=.int .i64 k∧m=.int .i64 (M:Int)∧Hid (M=m0+roN (L.take k))∧Hid (OwnRo wr B (.slice a n cap) (mixRo m0 L k)∧(∀ b,roBk (.slice a n cap) (mixRo m0 L k) b ↔ roBk (.slice a n cap) L b)∧Rel.Keep (fun b=>b<w.heap.size∧¬ roBk (.slice a n cap) L b) w wr)) (fun _ i _=>n - (intOf i).toNat)
 case atStart=>exact ⟨0,m0,Nat.zero_le _,rfl,rfl,by show m0=_;simp [roN],H.out,fun b=>by rw [mix_zero],Rel.Keep.refl _ _⟩
 case round =>
  clear H
  obtain ⟨k,M,hk,rfl,rfl,hM,X⟩:=hrel
  by_cases hlt:k<n
  ·have hkl:k<L.length:=by omega
   obtain ⟨x,hxL⟩:=at_of (xs:=L) rfl hkl
   have hx:(mixRo m0 L k)[k]?=some x:=mix_at hxL
   obtain ⟨g,rfl,hBg,hg,-⟩:=X.out.1.row.form (by rw [mix_len m0 L k (by omega)];omega)
   have hltz:(k:Int)<(n:Int):=by omega
   have hle:=roN_le L (k+1)
   have hst:=roN_step hxL
   have hMz:(M:Int)+6 * (x.r.rs.length:Int)+4≤200000000000:=by have:=hM.out;omega
   have hMn:M+1+6 * x.r.rs.length≤100000000000:=by have:=hM.out;omega
   have hM0:0<M:=by have:=hM.out;omega
   have HST:Hid ((mixRo m0 L k).set k (mkRo M x)=mixRo m0 L (k+1)):=by show _=_;rw [hM.out];exact mix_step hxL
   have HMN:Hid (M+(4+6 * x.r.rs.length)=m0+roN (L.take (k+1))):=by show _=_;rw [hst,hM.out];omega
   clear hle hst hxL
   generalize hLk:mixRo m0 L k=Lk at X hx HST
   clear hLk
   have HT:Hid (∀ w,Calls Tryz.prog 105 #[.int .i64 (M:Int)] w fun e w'=>e=.returned (.string (mtS M))∧Grw w w'):=fun w=>markText_any M w (by omega) (by omega)
   go_wp2_with fail
   refine (HT.out _).mono ?_
   rintro e wt ⟨rfl,gt⟩
   have ot:=X.out.1.now gt.below
   have RB:=X.out.2.1
   have KT:Hid (Rel.Keep (fun b=>b<w.heap.size∧¬ roBk (.slice (some ⟨g,0,none⟩) n cap) L b) w wt):=keep_grown X.out.2.2 (gt.grown none) (fun b hb=>⟨Nat.lt_of_lt_of_le hb.1 X.out.2.2.size,by simp⟩)
   clear HT gt X
   obtain ⟨c0,z0⟩:=ot.row.cell roG_len (j:=0) hx rfl
   replace c0:wt.cell? ⟨g,k * 5,none⟩=some (.string x.r.nm):=c0
   replace z0:wt.frozen? ⟨g,k * 5,none⟩=false:=z0
   have s0:=ot.set1 (j:=0) { x with r:={ x.r with nm:=mtS M } } (u:=.string (mtS M)) hx (by omega) rfl rfl rfl
   have hx0:(Lk.set k { x with r:={ x.r with nm:=mtS M } })[k]?=some { x with r:={ x.r with nm:=mtS M } }:=List.getElem?_set_self (List.getElem?_eq_some_iff.1 hx).1
   have RB0:∀ b,roBk (.slice (some ⟨g,0,none⟩) n cap) (Lk.set k { x with r:={ x.r with nm:=mtS M } }) b ↔ roBk (.slice (some ⟨g,0,none⟩) n cap) L b:=fun b=>(roBk_set (y:={ x with r:={ x.r with nm:=mtS M } }) hx rfl b).trans (RB b)
   have Y0:∀ W1,W1=wt.setCell ⟨g,k * 5,none⟩ (.string (mtS M))→OwnRo W1 B (.slice (some ⟨g,0,none⟩) n cap) (Lk.set k { x with r:={ x.r with nm:=mtS M } })∧Rel.Keep (fun b=>b<w.heap.size∧¬ roBk (.slice (some ⟨g,0,none⟩) n cap) L b) w W1:=by
    intro W1 hW1
    subst hW1
    exact ⟨s0.1,keep_grown KT.out s0.2 (fun b hb=>⟨Nat.lt_of_lt_of_le hb.1 KT.out.size,fun e=>hb.2 (.inl e.symm)⟩)⟩
   have Z0:Hid (OwnRo (wt.setCell ⟨g,k * 5,none⟩ (.string (mtS M))) B (.slice (some ⟨g,0,none⟩) n cap) (Lk.set k { x with r:={ x.r with nm:=mtS M } })∧Rel.Keep (fun b=>b<w.heap.size∧¬ roBk (.slice (some ⟨g,0,none⟩) n cap) L b) w (wt.setCell ⟨g,k * 5,none⟩ (.string (mtS M)))):=Y0 _ rfl
   obtain ⟨c1,z1⟩:=ot.row.cell roG_len (j:=1) hx rfl
   have HR:Hid (∀ W,OwnRo W B (.slice (some ⟨g,0,none⟩) n cap) (Lk.set k { x with r:={ x.r with nm:=mtS M } })→Calls Tryz.prog 106 #[.slice x.ra x.r.rs.length x.rc,.int .i64 ((M:Int)+1)] W fun e w'=>e=.returned (.int .i64 ((M:Int)+1+6 * (x.r.rs.length:Int)))∧OwnS rv 6 156 w' B x.sl (mkRuleL (M+1) x.r.rs.length)∧W.grownBy w' x.sl.ownBlock):=fun W hW=>by
    have hr0:=hW.rules _ (List.mem_of_getElem? hx0)
    have:=markRuleS_any x.ra x.r.rs.length x.rc B (M+1) x.r.rs W hr0 (by omega) hMn
    rw [show ((M+1:Nat):Int)=(M:Int)+1 by omega,show ((M+1+6 * x.r.rs.length:Nat):Int)=(M:Int)+1+6 * (x.r.rs.length:Int) by omega] at this
    exact this
   clear Y0 s0 ot KT
   go_wp2_with fail
   refine (HR.out _ Z0.out.1).mono ?_
   rintro e w2 ⟨rfl,o2,g2⟩
   have o3:=Z0.out.1.setR (mkRuleL (M+1) x.r.rs.length) hx0 (mkRuleL_len _ _) g2 o2
   rw [List.set_set] at o3
   have K2:Hid (Rel.Keep (fun b=>b<w.heap.size∧¬ roBk (.slice (some ⟨g,0,none⟩) n cap) L b) w w2):=keep_grown Z0.out.2 g2 (fun b hb=>⟨Nat.lt_of_lt_of_le hb.1 Z0.out.2.size,fun e=>hb.2 ((RB0 b).1 (.inr ⟨_,List.mem_of_getElem? hx0,e.symm⟩))⟩)
   have hx1:(Lk.set k { x with r:={ x.r with nm:=mtS M,rs:=mkRuleL (M+1) x.r.rs.length } })[k]?=some { x with r:={ x.r with nm:=mtS M,rs:=mkRuleL (M+1) x.r.rs.length } }:=List.getElem?_set_self (List.getElem?_eq_some_iff.1 hx).1
   have HXX:Hid (Lk[k]?=some x):=hx
   clear HR Z0 g2 o2 c0 z0 c1 z1 hx0 RB0 hx
   obtain ⟨K1,hK1⟩:∃ K1,(M:Int)+1+6 * (x.r.rs.length:Int)=K1:=⟨_,rfl⟩
   have hK1z:K1≤300000000000:=by omega
   have hK10:0≤K1:=by omega
   have HK1:Hid ((M:Int)+1+6 * (x.r.rs.length:Int)=K1):=hK1
   rw [hK1]
   clear hK1
   obtain ⟨c2,z2⟩:=o3.row.cell roG_len (j:=2) hx1 rfl
   obtain ⟨c3,z3⟩:=o3.row.cell roG_len (j:=3) hx1 rfl
   obtain ⟨c4,z4⟩:=o3.row.cell roG_len (j:=4) hx1 rfl
   have s2:=o3.set1 (j:=2) { x with r:=⟨mtS M,mkRuleL (M+1) x.r.rs.length,K1,x.r.m,x.r.i⟩ } (u:=.int .i64 K1) hx1 (by omega) rfl rfl rfl
   rw [List.set_set] at s2
   have hx2:(Lk.set k { x with r:=⟨mtS M,mkRuleL (M+1) x.r.rs.length,K1,x.r.m,x.r.i⟩ })[k]?=some { x with r:=⟨mtS M,mkRuleL (M+1) x.r.rs.length,K1,x.r.m,x.r.i⟩ }:=List.getElem?_set_self (List.getElem?_eq_some_iff.1 HXX.out).1
   have s3:=s2.1.set1 (j:=3) { x with r:=⟨mtS M,mkRuleL (M+1) x.r.rs.length,K1,K1+1,x.r.i⟩ } (u:=.int .i64 (K1+1)) hx2 (by omega) rfl rfl rfl
   rw [List.set_set] at s3
   have hx3:(Lk.set k { x with r:=⟨mtS M,mkRuleL (M+1) x.r.rs.length,K1,K1+1,x.r.i⟩ })[k]?=some { x with r:=⟨mtS M,mkRuleL (M+1) x.r.rs.length,K1,K1+1,x.r.i⟩ }:=List.getElem?_set_self (List.getElem?_eq_some_iff.1 HXX.out).1
   have s4:=s3.1.set1 (j:=4) { x with r:=⟨mtS M,mkRuleL (M+1) x.r.rs.length,K1,K1+1,K1+1+1⟩ } (u:=.int .i64 (K1+1+1)) hx3 (by omega) rfl rfl rfl
   rw [List.set_set] at s4
   have e4:({ x with r:=⟨mtS M,mkRuleL (M+1) x.r.rs.length,K1,K1+1,K1+1+1⟩ }:RoX)=mkRo M x:=by unfold mkRo;rw [HK1.out]
   rw [e4] at s4
   have Y4:∀ W1,W1=((w2.setCell ⟨g,k * 5+2,none⟩ (.int .i64 K1)).setCell ⟨g,k * 5+3,none⟩ (.int .i64 (K1+1))).setCell ⟨g,k * 5+4,none⟩ (.int .i64 (K1+1+1))→OwnRo W1 B (.slice (some ⟨g,0,none⟩) n cap) (mixRo m0 L (k+1))∧(∀ b,roBk (.slice (some ⟨g,0,none⟩) n cap) (mixRo m0 L (k+1)) b ↔ roBk (.slice (some ⟨g,0,none⟩) n cap) L b)∧Rel.Keep (fun b=>b<w.heap.size∧¬ roBk (.slice (some ⟨g,0,none⟩) n cap) L b) w W1:=by
    intro W1 hW1
    subst hW1
    rw [HST.out] at s4
    refine ⟨s4.1,fun b=>?_,keep_grown K2.out (grown_tr (grown_tr s2.2 s3.2) s4.2) (fun b hb=>⟨Nat.lt_of_lt_of_le hb.1 K2.out.size,fun e=>hb.2 (.inl e.symm)⟩)⟩
    rw [← HST.out]
    exact (roBk_set HXX.out (mkRo_sl M x) b).trans (RB b)
   have Z4:Hid (OwnRo (((w2.setCell ⟨g,k * 5+2,none⟩ (.int .i64 K1)).setCell ⟨g,k * 5+3,none⟩ (.int .i64 (K1+1))).setCell ⟨g,k * 5+4,none⟩ (.int .i64 (K1+1+1))) B (.slice (some ⟨g,0,none⟩) n cap) (mixRo m0 L (k+1))∧(∀ b,roBk (.slice (some ⟨g,0,none⟩) n cap) (mixRo m0 L (k+1)) b ↔ roBk (.slice (some ⟨g,0,none⟩) n cap) L b)∧Rel.Keep (fun b=>b<w.heap.size∧¬ roBk (.slice (some ⟨g,0,none⟩) n cap) L b) w (((w2.setCell ⟨g,k * 5+2,none⟩ (.int .i64 K1)).setCell ⟨g,k * 5+3,none⟩ (.int .i64 (K1+1))).setCell ⟨g,k * 5+4,none⟩ (.int .i64 (K1+1+1)))):=Y4 _ rfl
   clear Y4 s2 s3 s4 e4 hx1 hx2 hx3 o3 K2 RB HXX HST
   go_wp2
   go_roundw
   case rel=>exact ⟨k+1,M+(4+6 * x.r.rs.length),by omega,by go_num,by rw [show ((M+(4+6 * x.r.rs.length):Nat):Int)=K1+1+1+1 by have:=HK1.out;omega],HMN,Z4⟩
   case measure=>simp [intOf];omega
  ·obtain rfl:k=n:=by omega
   have hM2:=hM.out
   rw [← hn,List.take_length] at hM2
   subst hM2
   have Z:=X.out
   rw [← hn,mix_all] at Z
   go_wp2
   go_ret
   exact ⟨rfl,by rw [← hn];exact Z.1,by rw [← hn];exact Z.2.2⟩
def cfBk (vp vr:Value) (L:List RoX) (k:Nat):Prop:=vp.ownBlock=some k ∨ roBk vr L k
set_option maxHeartbeats 4000000 in
theorem markConfig_any (ip b gt:Int) (gm wm:ByteArray) (rs:Int) (x y:Option Addr) (lenx capx leny capy:Nat) (ps:List PlaceV) (L:List RoX) (B m0:Nat) (w:World) (h:OwnS pv 4 135 w B (.slice x lenx capx) ps) (h2:OwnRo w B (.slice y leny capy) L) (h0:0<m0) (hm:m0+4 * lenx+roN L≤100000000000) (hy:leny≤1048576) :
  Calls Tryz.prog 14 #[.agg #[.int .i64 ip,.int .i64 b,.int .i64 gt,.string gm,.string wm,.int .i64 rs,.slice x lenx capx,.slice y leny capy],.int .i64 (m0:Int)] w fun e w'=>e=.returned (.int .i64 ((m0+4 * lenx+roN L:Nat):Int))∧OwnS pv 4 135 w' B (.slice x lenx capx) (mkPlaceL m0 lenx)∧OwnRo w' B (.slice y leny capy) (mkRoL (m0+4 * lenx) L)∧Rel.Keep (fun k=>k<w.heap.size∧¬ cfBk (.slice x lenx capx) (.slice y leny capy) L k) w w':=by
 have al:Below w.heap.size w (w.alloc (.cells #[.int .i64 ip,.int .i64 b,.int .i64 gt,.string gm,.string wm,.int .i64 rs,.slice x lenx capx,.slice y leny capy] 40)):=(Below.refl _ _).alloc (Nat.le_refl _) _
 have G0:Hid (Bx (w.alloc (.cells #[.int .i64 ip,.int .i64 b,.int .i64 gt,.string gm,.string wm,.int .i64 rs,.slice x lenx capx,.slice y leny capy] 40)) w.heap.size [.int .i64 ip,.int .i64 b,.int .i64 gt,.string gm,.string wm,.int .i64 rs,.slice x lenx capx,.slice y leny capy]):=Bx.new w #[.int .i64 ip,.int .i64 b,.int .i64 gt,.string gm,.string wm,.int .i64 rs,.slice x lenx capx,.slice y leny capy] 40
 have hp:=h.now al
 have hr:=h2.now al
 have ap:∀ k,(Value.slice x lenx capx).ownBlock=some k→¬ roBk (.slice y leny capy) L k:=by
  rintro k hk (hb | ⟨z,hz,hb⟩)
  ·exact apB_of h h2.row (by decide) k hk hb
  ·exact apB_of h (h2.rules z hz) (by decide) k hk hb
 have HP:Hid (Calls Tryz.prog 48 #[.slice x lenx capx,.int .i64 (m0:Int)] (w.alloc (.cells #[.int .i64 ip,.int .i64 b,.int .i64 gt,.string gm,.string wm,.int .i64 rs,.slice x lenx capx,.slice y leny capy] 40)) fun e w'=>e=.returned (.int .i64 ((m0+4 * lenx:Nat):Int))∧OwnS pv 4 135 w' B (.slice x lenx capx) (mkPlaceL m0 lenx)∧(w.alloc (.cells #[.int .i64 ip,.int .i64 b,.int .i64 gt,.string gm,.string wm,.int .i64 rs,.slice x lenx capx,.slice y leny capy] 40)).grownBy w' (Value.slice x lenx capx).ownBlock):=markPlaceS_any x lenx capx B m0 ps _ hp h0 (by omega)
 have HR:Hid (∀ W,OwnRo W B (.slice y leny capy) L→Calls Tryz.prog 49 #[.slice y leny capy,.int .i64 ((m0+4 * lenx:Nat):Int)] W fun e w'=>e=.returned (.int .i64 ((m0+4 * lenx+roN L:Nat):Int))∧OwnRo w' B (.slice y leny capy) (mkRoL (m0+4 * lenx) L)∧Rel.Keep (fun b=>b<W.heap.size∧¬ roBk (.slice y leny capy) L b) W w'):=fun W hW=>markRoleS_any y leny capy B (m0+4 * lenx) L W hW (by omega) (by omega) hy
 obtain ⟨pb,hpb⟩:∃ pb,(Value.slice x lenx capx).ownBlock=pb:=⟨_,rfl⟩
 have hlt:∀ k,pb=some k→k<w.heap.size:=fun k hk=>(h.lt k (by rw [hpb];exact hk)).2
 generalize hn1:((m0+4 * lenx:Nat):Int)=n1 at HP HR
 generalize hn2:((m0+4 * lenx+roN L:Nat):Int)=n2 at HR ⊢
 clear hn1 hn2 h h2 h0 hm
 go_enter Tryz.func14,Tryz.ntmps14
 go_wp2_with fail
 refine HP.out.mono ?_
 rintro e w1 ⟨rfl,o1,g1⟩
 have r1:OwnRo w1 B (.slice y leny capy) L:=hr.keepB (fun k hk=>g1.block k (hr.lt k hk).2 (fun e=>ap k e.symm hk))
 have c7:w1.cell? ⟨w.heap.size,7,none⟩=some (.slice y leny capy):=by
  have h7:=G0.out.cell 7 rfl
  have e:w1.heap[w.heap.size]?=(w.alloc (.cells #[.int .i64 ip,.int .i64 b,.int .i64 gt,.string gm,.string wm,.int .i64 rs,.slice x lenx capx,.slice y leny capy] 40)).heap[w.heap.size]?:=g1.block _ (by simp) (fun e=>by rw [hpb] at e;have:=hlt _ e.symm;omega)
  unfold World.cell? at h7 ⊢
  rw [show w1.heap[(⟨w.heap.size,7,none⟩:Addr).block]?=(w.alloc (.cells #[.int .i64 ip,.int .i64 b,.int .i64 gt,.string gm,.string wm,.int .i64 rs,.slice x lenx capx,.slice y leny capy] 40)).heap[(⟨w.heap.size,7,none⟩:Addr).block]? from e]
  exact h7
 have K1:Hid (Rel.Keep (fun k=>k<w.heap.size∧¬ cfBk (.slice x lenx capx) (.slice y leny capy) L k) w w1):=keep_grown (Rel.Keep.mono ⟨al.os,al.tape,al.output,al.size,al.block⟩ (fun k hk=>hk.1)) g1 (fun k hk=>⟨by have:=al.size;exact Nat.lt_of_lt_of_le hk.1 this,fun e=>hk.2 (.inl e.symm)⟩)
 have O1:Hid (OwnS pv 4 135 w1 B (.slice x lenx capx) (mkPlaceL m0 lenx)):=o1
 have A1:Hid (w.heap.size≤w1.heap.size):=Nat.le_trans al.size g1.size
 have AP:Hid (∀ k,(Value.slice x lenx capx).ownBlock=some k→¬ roBk (.slice y leny capy) L k):=ap
 clear HP hp hr g1 o1 G0 al ap hlt
 go_wp2_with fail
 refine (HR.out _ r1).mono ?_
 rintro e w2 ⟨rfl,r2,k2⟩
 have FIN:Hid (OwnS pv 4 135 w2 B (.slice x lenx capx) (mkPlaceL m0 lenx)∧OwnRo w2 B (.slice y leny capy) (mkRoL (m0+4 * lenx) L)∧Rel.Keep (fun k=>k<w.heap.size∧¬ cfBk (.slice x lenx capx) (.slice y leny capy) L k) w w2):=by
  refine ⟨?_,r2,K1.out.trans (Rel.Keep.mono k2 (fun k hk=>⟨Nat.lt_of_lt_of_le hk.1 A1.out,fun h=>hk.2 (.inr h)⟩))⟩
  have o:=O1.out
  refine ⟨o.1,?_⟩
  rcases o.2 with h' | ⟨g,cap,cur,h1,hB,hg,h4⟩
  ·exact .inl h'
  ·refine .inr ⟨g,cap,cur,h1,hB,?_,h4⟩
   rw [k2.block g ⟨(Array.getElem?_eq_some_iff.1 hg).1,AP.out g (by rw [h1];rfl)⟩]
   exact hg
 clear r1 r2 k2 K1 O1 AP A1 HR c7 hpb
 go_wp2
 go_ret
 exact ⟨rfl,FIN.out⟩
end Go.Proofs.YtbeehlhcckndcaaGreat
