/- Boxes with their object: a struct in a block of its own, known whole, with its type; so a row of another type is another block. Nothing of the program is used. -/
import Derived.Test.YtojcakkkakmniaaGreatDoorJ1
namespace Go.Proofs.YtojcakkkakmniaaGreatDoor
open Go.RowKit
set_option linter.unusedVariables false
def Bo (w:World) (q:Nat) (t:TypeId) (cs:List Value):Prop:=w.heap[q]?=some (.cells cs.toArray t (0,0))
section
variable {w w':World} {q:Nat} {t:TypeId} {cs:List Value}
theorem Bo.lt (h:Bo w q t cs):q<w.heap.size:=(Array.getElem?_eq_some_iff.1 h).1
theorem Bo.bx (h:Bo w q t cs):Bx w q cs :=
 Bx.of (fun j v hv=>by unfold World.cell?;rw [h];simpa using hv) (fun j hj=>by
  unfold World.frozen?
  rw [h]
  simp)
theorem Bo.cell (h:Bo w q t cs) (j:Nat) {v:Value} (hj:cs[j]?=some v):w.cell? ⟨q,j,none⟩=some v:=h.bx.cell j hj
theorem Bo.thaw (h:Bo w q t cs) (j:Nat) (hj:j<cs.length):w.frozen? ⟨q,j,none⟩=false:=h.bx.thaw j hj
theorem Bo.new (w:World) (cs:Array Value) (t:TypeId):Bo (w.alloc (.cells cs t)) w.heap.size t cs.toList:=by
 show (w.heap.push _)[w.heap.size]?=_
 rw [Array.getElem?_push_size]
theorem Bo.keep {B:Nat} (h:Bo w q t cs) (hb:Below B w w') (hq:q<B):Bo w' q t cs:=(hb.block q hq).trans h
theorem Bo.below (h:Bo w q t cs) (hb:Below w.heap.size w w'):Bo w' q t cs:=h.keep hb h.lt
theorem Bo.far (h:Bo w q t cs) (a:Addr) (v:Value) (hne:a.block ≠ q):Bo (w.setCell a v) q t cs:=(Below.heap_setCell w a v q (fun e=>hne e.symm)).trans h
theorem Bo.field (h:Bo w q t cs) (j:Nat) (v:Value):Bo (w.setCell ⟨q,j,none⟩ v) q t (cs.set j v):=by
 unfold Bo at *
 simp only [World.setCell,Array.getElem?_modify]
 rw [if_pos trivial,h]
 simp
theorem Bo.ne {α:Type} {c:α→List Value} {K:Nat} {e:TypeId} {B:Nat} {v:Value} {xs:List α} (h:Bo w q t cs) (o:OwnS c K e w B v xs) (hne:e ≠ t):∀ k,v.ownBlock=some k→k ≠ q:=by
 intro k hk he
 subst he
 rcases o.2 with ⟨h1,_⟩ | ⟨g,cap,cur,h1,_,hg,_⟩
 ·rw [h1] at hk;cases hk
 ·rw [h1] at hk
  have:g=k:=by simpa [Value.ownBlock] using hk
  subst this
  unfold Bo at h
  rw [h] at hg
  cases hg
  exact hne rfl
theorem Bo.row {α:Type} {c:α→List Value} {K:Nat} {e:TypeId} {B:Nat} {v:Value} {xs:List α} (h:Bo w q t cs) (o:OwnS c K e w B v xs) (hne:e ≠ t) (hg:w.grownBy w' v.ownBlock):Bo w' q t cs :=
 (hg.block q h.lt (fun he=>h.ne o hne q he.symm rfl)).trans h
theorem OwnS.box {α:Type} {c:α→List Value} {K:Nat} {e:TypeId} {B:Nat} {v:Value} {xs:List α} (o:OwnS c K e w B v xs) (h:Bo w q t cs) (hne:e ≠ t) (j:Nat) (x:Value):OwnS c K e (w.setCell ⟨q,j,none⟩ x) B v xs :=
 o.kept (grown_set w ⟨q,j,none⟩ x) (by
  cases hb:v.ownBlock with
  | none=>exact Or.inl rfl
  | some k=>exact Or.inr (fun he=>h.ne o hne k hb (Option.some.inj he)))
theorem OwnS.boxes {α:Type} {c:α→List Value} {K:Nat} {e:TypeId} {B:Nat} {v:Value} {xs:List α}:∀ (vs:List Value) (j:Nat) (w:World) (cs:List Value),OwnS c K e w B v xs→Bo w q t cs→e ≠ t→OwnS c K e (w.setCells q j vs) B v xs
 | [],_,_,_,o,_,_=>o
 | x :: r,j,w,cs,o,h,hne=>by
  rw [World.setCells]
  exact OwnS.boxes r (j+1) _ _ (o.box h hne j x) (h.field j x) hne
theorem OwnS.other {α β:Type} {c:α→List Value} {c':β→List Value} {K K':Nat} {e e':TypeId} {B B':Nat} {v u:Value} {xs:List α} {ys:List β} (o:OwnS c K e w B v xs) (o':OwnS c' K' e' w B' u ys) (hne:e ≠ e') (hg:w.grownBy w' u.ownBlock):OwnS c K e w' B v xs :=
 o.kept hg (by
  cases hb:v.ownBlock with
  | none=>exact Or.inl rfl
  | some k =>
   refine Or.inr (fun he=>?_)
   rcases o.2 with ⟨h1,_⟩ | ⟨g,cap,cur,h1,_,hg1,_⟩
   ·rw [h1] at hb;cases hb
   rcases o'.2 with ⟨h2,_⟩ | ⟨g',cap',cur',h2,_,hg2,_⟩
   ·rw [h2] at he;cases he
   rw [h1] at hb
   rw [h2] at he
   have e1:g=k:=by simpa [Value.ownBlock] using hb
   have e2:k=g':=by simpa [Value.ownBlock] using he
   subst e1;subst e2
   rw [hg1] at hg2
   cases hg2
   exact hne rfl)
end
end Go.Proofs.YtojcakkkakmniaaGreatDoor
