/- Rows of structs, K cells an element: opened, stored into, kept. Nothing of the program is imported. Rules, places, roles, as values; what comes in as an argument, opened. Users, sessions, fails, records, guests, as values. Users, sessions, fails, records, guests: what comes in as an argument, opened. Rows of one's own of flat structs, K cells an element. Nothing of the program is imported. Flows as values. Flows that come in as an argument, opened. Connections and segments as values. Connections that come in as an argument, opened. Gateways as values; one that comes in as an argument, opened. Worlds that have come of another by draws and new blocks alone. Nothing of the program is imported. Rows of one's own of flat structs: the last fields of an element stored; a row joined. Nothing of the program is imported. Plain numbers: the words' sum of a row of bytes, and its folding into sixteen bits, as closed forms; nothing of the program is imported. A row of bytes in memory, told as a function of the place; what it is as a string; nothing of the program is imported. A new row of bytes that a loop fills: what its rounds keep. Nothing of the program is imported. A row of bytes of the call's own that is appended to, told as a list of numbers; as a string; a string's bytes in new memory. Nothing of the program is imported. A number's digits: the model's l00Digits at every number from 0 on. The bitwise operators on int where no operand is negative: and, or, exclusive or, and with masks, or of parts that do not meet. Nothing of the program is imported. The program's small tests: hasRoom, addressOK. The contracts of laws.toByteS (a copy in new memory) and laws.eqByteS (whether two rows are one). NumberOf, the program's and the model's: both answer the number of 1 to 6 bytes, the higher ones first; the walk of its law. The small tests of both sides, each answering whether a condition holds. markText of the laws. What is kept by all that leaves old blocks as they were. Nothing of the program is imported. Lists of places and rules marked and held. Boxes of any struct: a struct in a block, read and written whole. Nothing of the program is used. -/
import Derived.WalkKit
import Derived.PlainAid
import Derived.OpenShut
import Derived.Below
import Derived.Deep.Slices
import Derived.Laws.AppendOwn
import Derived.Laws.OwnMore
import Derived.Laws.MakeOwn
import Derived.Test.YtbeehlhcckndcaaGreatProg
import Derived.Laws.AppendOwnNone
import Derived.Shelf.SlSortCmp.QuietGrown
import Derived.BigQuiet
import Derived.WalkSpells
import Derived.Laws.BytesArg
import Derived.Deep.OwnRows
import Derived.Lib.ConvBytes
import Derived.Lib.ItoaNum
import Derived.Deep.RegionHeld3
import Derived.Laws.BitsAllLaws
import Derived.Deep.QuietTactic
import Derived.Deep.MidRow
namespace Go.Proofs.YtbeehlhcckndcaaGreat
open Go.RowKit Go.PlainAid
set_option linter.unusedVariables false
def Rw {α:Type} (R:World→α→List Value→Prop) (K:Nat) (w:World) (a:Option Addr) (xs:List α):Prop :=
 0<xs.length→∃ b off,a=some ⟨b,off,none⟩∧b<w.heap.size∧∀ i x,xs[i]?=some x→∃ vs,vs.length=K∧R w x vs∧∀ j v,vs[j]?=some v→w.cell? ⟨b,off+i * K+j,none⟩=some v
def Kp {α:Type} (R:World→α→List Value→Prop):Prop:=∀ w w' x vs,R w x vs→Below w.heap.size w w'→R w' x vs
theorem Rw.keep {α:Type} {R:World→α→List Value→Prop} {K:Nat} {w w':World} {a:Option Addr} {xs:List α} (h:Rw R K w a xs) (hk:Kp R) (hb:Below w.heap.size w w'):Rw R K w' a xs:=by
 intro h0
 obtain ⟨b,off,rfl,hlt,hc⟩:=h h0
 refine ⟨b,off,rfl,Nat.lt_of_lt_of_le hlt hb.size,fun i x hx=>?_⟩
 obtain ⟨vs,h1,h2,h3⟩:=hc i x hx
 refine ⟨vs,h1,hk _ _ _ _ h2 hb,fun j v hv=>?_⟩
 rw [hb.cell (p:=⟨b,off+i * K+j,none⟩) hlt]
 exact h3 j v hv
theorem Rw.at {α:Type} {R:World→α→List Value→Prop} {K:Nat} {w w':World} {a:Option Addr} {xs:List α} (h:Rw R K w a xs) (hk:Kp R) (hb:Below w.heap.size w w') {k:Nat} {x:α} (hx:xs[k]?=some x) :
  ∃ b off vs,a=some ⟨b,off,none⟩∧b<w.heap.size∧vs.length=K∧R w' x vs∧∀ j v,vs[j]?=some v→w'.cell? ⟨b,off+k * K+j,none⟩=some v:=by
 have h0:0<xs.length:=by
  have:=(List.getElem?_eq_some_iff.1 hx).1
  omega
 obtain ⟨b,off,e,hlt,_⟩:=h h0
 obtain ⟨b',off',e',_,hc⟩:=(h.keep hk hb) h0
 rw [e] at e'
 cases e'
 obtain ⟨vs,h1,h2,h3⟩:=hc k x hx
 exact ⟨b,off,vs,e,hlt,h1,h2,h3⟩
theorem Rw.none {α:Type} {R:World→α→List Value→Prop} {K:Nat} {w:World} {a:Option Addr}:Rw R K w a ([]:List α):=fun h=>absurd h (by simp)
theorem addn (b off i:Nat):(⟨b,off,Option.none⟩:Addr).add i=⟨b,off+i,Option.none⟩:=by unfold Addr.add;split <;> simp_all
theorem rows_of {H:Type} {enc:TypeId × Value→H} {P:Program} {w:World} {base:Nat} {spare:Nat→Bool} {held:Bool} {t e:TypeId} {fuel:Nat} {cs:List Value} {x:DataW H × List MemPlace} {α:Type} [Inhabited α]
  (R:World→α→List Value→Prop) (K:Nat) (ht:P.underlying t=some (.slice e)) (hK:P.cellsOf e=K) (h0K:0<K)
  (he:∀ n cs y,DataW.trod enc P w base spare held n e cs=some y→∃ d,R w d cs) (h:DataW.trod enc P w base spare held fuel t cs=some x) :
  ∃ (a:Option Addr) (len cap:Nat) (xs:List α),cs=[.slice a len cap]∧xs.length=len∧len≤cap∧cap≤maxLen∧(a=none→cap=0)∧Rw R K w a xs:=by
 rcases Go.Deep.open_slice ht h with ⟨rfl,_⟩ | ⟨a,len,cap,m,n,D,Pl,rfl,hb,hl,hm,hmm,_,hx⟩
 ·exact ⟨none,0,0,[],rfl,rfl,Nat.le_refl _,Nat.zero_le _,fun _=>rfl,Rw.none⟩
 have hlm:len≤m:=by rw [hmm];split <;> omega
 obtain ⟨f,hf⟩:=Go.Deep.choose_lt (n:=len) (p:=fun i d=>∃ vs,vs.length=K∧R w d vs∧∀ j v,vs[j]?=some v→w.cell? ((a.add (i * K)).add j)=some v) (fun i hi=>by
  obtain ⟨cs',h1,h2⟩:=hx i (by omega)
  rw [hK] at h1
  obtain ⟨_,hlen,hcell⟩:=World.cells?_some h1
  obtain ⟨d,hd⟩:=he _ _ _ h2
  refine ⟨d,cs',hlen,hd,fun j v hv=>?_⟩
  have hj:=(List.getElem?_eq_some_iff.1 hv).1
  rw [hcell j (by omega)]
  exact hv)
 refine ⟨some a,len,cap,(List.range len).map f,rfl,by simp,hl,hm,(fun h=>by cases h),fun h0=>?_⟩
 have h0:0<len:=by simpa using h0
 obtain ⟨b,off,spot⟩:=a
 have hs:spot=none:=by
  obtain ⟨vs,h1,_,h3⟩:=hf 0 h0
  have hc:=h3 0 (vs[0]'(by omega)) (List.getElem?_eq_getElem _)
  simpa [Addr.add] using World.cell?_spot hc
 subst hs
 have hadd:∀ i j:Nat,((⟨b,off,none⟩:Addr).add i).add j=⟨b,off+i+j,none⟩:=by
  intro i j
  rw [addn,addn]
 refine ⟨b,off,rfl,?_,fun i x hx=>?_⟩
 ·obtain ⟨vs,h1,_,h3⟩:=hf 0 h0
  have hc:=h3 0 (vs[0]'(by omega)) (List.getElem?_eq_getElem _)
  rw [hadd] at hc
  exact World.block_lt_of_cell? w _ hc
 ·have hi:i<len:=by
   have:=(List.getElem?_eq_some_iff.1 hx).1
   simpa using this
  rw [List.getElem?_map,List.getElem?_range hi] at hx
  simp only [Option.map_some,Option.some.injEq] at hx
  subst hx
  obtain ⟨vs,h1,h2,h3⟩:=hf i hi
  refine ⟨vs,h1,h2,fun j v hv=>?_⟩
  rw [← hadd]
  exact h3 j v hv
def sets (F:List Value) (i:Nat):List Value→List Value
 | []=>F
 | v :: vs=>sets (F.set i v) (i+1) vs
def wsets (w:World) (g i:Nat):List Value→World
 | []=>w
 | v :: vs=>wsets (w.setCell ⟨g,i,none⟩ v) g (i+1) vs
theorem grown_refl (w:World) (r:Option Nat):w.grownBy w r:=⟨rfl,rfl,rfl,Nat.le_refl _,fun _ _ _=>rfl⟩
theorem grown_tr {w w1 w2:World} {r:Option Nat} (h:w.grownBy w1 r) (h2:w1.grownBy w2 r):w.grownBy w2 r :=
 ⟨h2.os.trans h.os,h2.tape.trans h.tape,h2.output.trans h.output,Nat.le_trans h.size h2.size,fun k hk hr=>(h2.block k (Nat.lt_of_lt_of_le hk h.size) hr).trans (h.block k hk hr)⟩
theorem owns_sets {e:TypeId} {B K g n cap:Nat}:∀ (vs:List Value) (w:World) (F:List Value) (i:Nat),w.ownsRow B e K (.slice (some ⟨g,0,none⟩) n cap) n F →
  (wsets w g i vs).ownsRow B e K (.slice (some ⟨g,0,none⟩) n cap) n (sets F i vs)∧w.grownBy (wsets w g i vs) (some g)
 | [],w,F,i,h=>⟨h,grown_refl _ _⟩
 | v :: vs,w,F,i,h=>by
  have h1:=World.ownsRow.stored h i v
  have h2:=owns_sets vs _ _ (i+1) h1.1
  exact ⟨h2.1,grown_tr h1.2 h2.2⟩
theorem below_row {w w':World} {B g:Nat} (h:w.grownBy w' (some g)) (hB:B≤g) (hs:B≤w.heap.size):Below B w w' :=
 (Below.refl B w).grown h hs (fun k hk=>by cases hk;exact hB)
theorem owns_keep {e:TypeId} {w w':World} {B K n m:Nat} {v:Value} {F:List Value} (h:w.ownsRow B e K v n F) (hb:Below m w w') (hm:∀ k,v.ownBlock=some k→k<m):w'.ownsRow B e K v n F:=by
 refine ⟨h.1,?_⟩
 rcases h.2 with h' | ⟨g,cap,cur,h1,hB,hg,h4⟩
 ·exact .inl h'
 ·exact .inr ⟨g,cap,cur,h1,hB,by rw [hb.block _ (hm g (by rw [h1];rfl))];exact hg,h4⟩
theorem owns_now {e:TypeId} {w w':World} {B K n:Nat} {v:Value} {F:List Value} (h:w.ownsRow B e K v n F) (hb:Below w.heap.size w w'):w'.ownsRow B e K v n F :=
 owns_keep h hb (fun k hk=>(World.ownsRow.lt h k hk).2)
theorem owns_made (w:World) (e:TypeId) (B n K:Nat) (z:Array Value) (hB:B≤w.heap.size) (hn:n≤maxLen) :
  (w.alloc (.cells (madeCells z (n * K)) e)).ownsRow B e K (.slice (some ⟨w.heap.size,0,none⟩) n n) n (madeCells z (n * K)).toList :=
 World.ownsRow_lit (base:=B) (e:=e) (size:=K) w (madeCells z (n * K)) n hB hn (by rw [size_madeCells])
def Cop {α:Type} (R:World→α→List Value→Prop) (K:Nat) (w:World) (F:List Value) (xs:List α) (k:Nat):Prop :=
 ∀ i x,i<k→xs[i]?=some x→∃ vs,vs.length=K∧R w x vs∧∀ j v,vs[j]?=some v→F[i * K+j]?=some v
theorem Cop.zero {α:Type} {R:World→α→List Value→Prop} {K:Nat} {w:World} {F:List Value} {xs:List α}:Cop R K w F xs 0:=fun i x hi=>absurd hi (by omega)
theorem Cop.keep {α:Type} {R:World→α→List Value→Prop} {K:Nat} {w w':World} {F:List Value} {xs:List α} {k:Nat} (h:Cop R K w F xs k) (hk:∀ x vs,R w x vs→R w' x vs):Cop R K w' F xs k:=by
 intro i x hi hx
 obtain ⟨vs,h1,h2,h3⟩:=h i x hi hx
 exact ⟨vs,h1,hk _ _ h2,h3⟩
theorem Cop.rw {α:Type} {R:World→α→List Value→Prop} {K:Nat} {w:World} {F:List Value} {xs:List α} {e:TypeId} {B g n cap:Nat} (h:Cop R K w F xs n) (ho:w.ownsRow B e K (.slice (some ⟨g,0,none⟩) n cap) n F) (hn:xs.length=n) :
  Rw R K w (some ⟨g,0,none⟩) xs:=by
 intro h0
 refine ⟨g,0,rfl,(World.ownsRow.lt ho g rfl).2,fun i x hx=>?_⟩
 have hi:=(List.getElem?_eq_some_iff.1 hx).1
 obtain ⟨vs,h1,h2,h3⟩:=h i x (by omega) hx
 refine ⟨vs,h1,h2,fun j v hv=>?_⟩
 have hj:=(List.getElem?_eq_some_iff.1 hv).1
 have:(i+1) * K≤n * K:=Nat.mul_le_mul_right _ (by omega)
 rw [Nat.add_mul] at this
 rw [Nat.zero_add,World.ownsRow.cellAt ho _ (by omega)]
 exact h3 j v hv
theorem at_of {α:Type} {xs:List α} {k n:Nat} (h:xs.length=n) (hk:k<n):∃ x,xs[k]?=some x:=⟨_,List.getElem?_eq_getElem (by omega)⟩
structure RuleV where
 p:Int
 ip:Int
 b:Int
 lo:Int
 hi:Int
 al:Bool
deriving Inhabited
structure PlaceV where
 ip:Int
 b:Int
 lo:Int
 hi:Int
deriving Inhabited
structure RoleV where
 nm:ByteArray
 rs:List RuleV
 q:Int
 m:Int
 i:Int
instance:Inhabited RoleV:=⟨⟨⟨#[]⟩,[],0,0,0⟩⟩
def rv (r:RuleV):List Value:=[.int .i64 r.p,.int .i64 r.ip,.int .i64 r.b,.int .i64 r.lo,.int .i64 r.hi,.bool r.al]
def pv (r:PlaceV):List Value:=[.int .i64 r.ip,.int .i64 r.b,.int .i64 r.lo,.int .i64 r.hi]
def RuR (w:World) (r:RuleV) (vs:List Value):Prop:=vs=rv r∧r.lo≤9223372036854775807∧r.hi≤9223372036854775807
def PlR (w:World) (r:PlaceV) (vs:List Value):Prop:=vs=pv r∧r.lo≤9223372036854775807∧r.hi≤9223372036854775807
theorem RuR.kp:Kp RuR:=fun _ _ _ _ h _=>h
theorem PlR.kp:Kp PlR:=fun _ _ _ _ h _=>h
def RoR (g:Nat) (w:World) (r:RoleV) (vs:List Value):Prop:=∃ a cap,vs=[.string r.nm,.slice a r.rs.length cap,.int .i64 r.q,.int .i64 r.m,.int .i64 r.i]∧r.nm.size≤maxLen∧r.rs.length≤cap∧cap≤maxLen∧Rw RuR 6 w a r.rs∧∀ b off,a=some ⟨b,off,none⟩→g≤b
theorem RoR.kp (g:Nat):Kp (RoR g):=fun _ _ _ _ h hb=>by
 obtain ⟨a,cap,h1,h2,h3,h4,h5,h6⟩:=h
 exact ⟨a,cap,h1,h2,h3,h4,h5.keep RuR.kp hb,h6⟩
theorem RoR.lower {g g':Nat} {w:World} {r:RoleV} {vs:List Value} (h:RoR g w r vs) (hg:g'≤g):RoR g' w r vs:=by
 obtain ⟨a,cap,h1,h2,h3,h4,h5,h6⟩:=h
 exact ⟨a,cap,h1,h2,h3,h4,h5,fun b off e=>Nat.le_trans hg (h6 b off e)⟩
theorem wf_le {n:Int} (h:(Lit.int .i64 n).wf=true):n≤9223372036854775807:=(bounds_i64 h).2
section Opn
variable {H:Type} {enc:TypeId × Value→H} {w:World} {base:Nat} {spare:Nat→Bool} {held:Bool} {fuel:Nat} {cs:List Value} {x:DataW H × List MemPlace}
theorem lis2 {α:Type} {cs:List α} (h:cs.length=2):∃ c0 c1,cs=[c0,c1]:=by
 match cs,h with
 | [c0,c1],_=>exact ⟨c0,c1,rfl⟩
theorem lis4 {α:Type} {cs:List α} (h:cs.length=4):∃ c0 c1 c2 c3,cs=[c0,c1,c2,c3]:=by
 match cs,h with
 | [c0,c1,c2,c3],_=>exact ⟨c0,c1,c2,c3,rfl⟩
theorem lis5 {α:Type} {cs:List α} (h:cs.length=5):∃ c0 c1 c2 c3 c4,cs=[c0,c1,c2,c3,c4]:=by
 match cs,h with
 | [c0,c1,c2,c3,c4],_=>exact ⟨c0,c1,c2,c3,c4,rfl⟩
theorem lis6 {α:Type} {cs:List α} (h:cs.length=6):∃ c0 c1 c2 c3 c4 c5,cs=[c0,c1,c2,c3,c4,c5]:=by
 match cs,h with
 | [c0,c1,c2,c3,c4,c5],_=>exact ⟨c0,c1,c2,c3,c4,c5,rfl⟩
theorem lis8 {α:Type} {cs:List α} (h:cs.length=8):∃ c0 c1 c2 c3 c4 c5 c6 c7,cs=[c0,c1,c2,c3,c4,c5,c6,c7]:=by
 match cs,h with
 | [c0,c1,c2,c3,c4,c5,c6,c7],_=>exact ⟨c0,c1,c2,c3,c4,c5,c6,c7,rfl⟩
theorem cl_laws_Net:Tryz.prog.cellsOf 23=2:=by kernel_rfl
theorem cl_laws_Range:Tryz.prog.cellsOf 137=2:=by kernel_rfl
theorem cl_laws_Rule:Tryz.prog.cellsOf 213=6:=by kernel_rfl
theorem cl_laws_Place:Tryz.prog.cellsOf 139=4:=by kernel_rfl
theorem cl_laws_Role:Tryz.prog.cellsOf 111=5:=by kernel_rfl
theorem cl_laws_Config:Tryz.prog.cellsOf 27=8:=by kernel_rfl
theorem cl_int:Tryz.prog.cellsOf 3=1:=by kernel_rfl
theorem cl_string:Tryz.prog.cellsOf 9=1:=by kernel_rfl
theorem cl_bool:Tryz.prog.cellsOf 4=1:=by kernel_rfl
theorem cl_slaws_Rule:Tryz.prog.cellsOf 109=1:=by kernel_rfl
theorem cl_slaws_Place:Tryz.prog.cellsOf 24=1:=by kernel_rfl
theorem cl_slaws_Role:Tryz.prog.cellsOf 25=1:=by kernel_rfl
theorem open_net (h:DataW.trod enc Tryz.prog w base spare held fuel 23 cs=some x):∃ ip b:Int,cs=[.int .i64 ip,.int .i64 b]∧(Lit.int .i64 ip).wf=true∧(Lit.int .i64 b).wf=true:=by
 obtain ⟨xs,m,_,_,hcl,hlen,hfld⟩:=DataW.trod_struct Tryz.underlying23 h
 rw [cl_laws_Net] at hcl
 obtain ⟨c0,c1,rfl⟩:=lis2 hcl
 replace hlen:xs.length=2:=hlen
 have e0:=hfld 0 _ rfl
 rw [List.getElem?_eq_getElem (by omega)] at e0
 obtain ⟨a0,q0,_,w0⟩:=DataW.trod_int Tryz.underlying3 e0
 simp [cl_int] at q0
 subst q0
 have e1:=hfld 1 _ rfl
 rw [List.getElem?_eq_getElem (by omega)] at e1
 obtain ⟨a1,q1,_,w1⟩:=DataW.trod_int Tryz.underlying3 e1
 simp [cl_int] at q1
 subst q1
 exact ⟨a0,a1,rfl,w0,w1⟩
theorem open_range (h:DataW.trod enc Tryz.prog w base spare held fuel 137 cs=some x):∃ ip b:Int,cs=[.int .i64 ip,.int .i64 b]∧(Lit.int .i64 ip).wf=true∧(Lit.int .i64 b).wf=true:=by
 obtain ⟨xs,m,_,_,hcl,hlen,hfld⟩:=DataW.trod_struct Tryz.underlying137 h
 rw [cl_laws_Range] at hcl
 obtain ⟨c0,c1,rfl⟩:=lis2 hcl
 replace hlen:xs.length=2:=hlen
 have e0:=hfld 0 _ rfl
 rw [List.getElem?_eq_getElem (by omega)] at e0
 obtain ⟨a0,q0,_,w0⟩:=DataW.trod_int Tryz.underlying3 e0
 simp [cl_int] at q0
 subst q0
 have e1:=hfld 1 _ rfl
 rw [List.getElem?_eq_getElem (by omega)] at e1
 obtain ⟨a1,q1,_,w1⟩:=DataW.trod_int Tryz.underlying3 e1
 simp [cl_int] at q1
 subst q1
 exact ⟨a0,a1,rfl,w0,w1⟩
theorem open_rule (h:DataW.trod enc Tryz.prog w base spare held fuel 213 cs=some x):∃ d,RuR w d cs:=by
 obtain ⟨xs,m,_,_,hcl,hlen,hfld⟩:=DataW.trod_struct Tryz.underlying213 h
 rw [cl_laws_Rule] at hcl
 obtain ⟨c0,c1,c2,c3,c4,c5,rfl⟩:=lis6 hcl
 replace hlen:xs.length=4:=hlen
 have e0:=hfld 0 _ rfl
 rw [List.getElem?_eq_getElem (by omega)] at e0
 obtain ⟨a0,q0,_,w0⟩:=DataW.trod_int Tryz.underlying3 e0
 simp [cl_int] at q0
 subst q0
 have e1:=hfld 1 _ rfl
 rw [List.getElem?_eq_getElem (by omega)] at e1
 obtain ⟨a1,b1,q1,w1,u1⟩:=open_net e1
 simp [cl_laws_Net] at q1
 obtain ⟨rfl,rfl⟩:=q1
 have e2:=hfld 2 _ rfl
 rw [List.getElem?_eq_getElem (by omega)] at e2
 obtain ⟨a2,b2,q2,w2,u2⟩:=open_range e2
 simp [cl_laws_Range] at q2
 obtain ⟨rfl,rfl⟩:=q2
 have e3:=hfld 3 _ rfl
 rw [List.getElem?_eq_getElem (by omega)] at e3
 obtain ⟨a3,q3,_⟩:=DataW.trod_bool Tryz.underlying4 e3
 simp [cl_bool] at q3
 subst q3
 exact ⟨⟨a0,a1,b1,a2,b2,a3⟩,rfl,wf_le w2,wf_le u2⟩
theorem open_place (h:DataW.trod enc Tryz.prog w base spare held fuel 139 cs=some x):∃ d,PlR w d cs:=by
 obtain ⟨xs,m,_,_,hcl,hlen,hfld⟩:=DataW.trod_struct Tryz.underlying139 h
 rw [cl_laws_Place] at hcl
 obtain ⟨c0,c1,c2,c3,rfl⟩:=lis4 hcl
 replace hlen:xs.length=2:=hlen
 have e0:=hfld 0 _ rfl
 rw [List.getElem?_eq_getElem (by omega)] at e0
 obtain ⟨a0,b0,q0,w0,u0⟩:=open_net e0
 simp [cl_laws_Net] at q0
 obtain ⟨rfl,rfl⟩:=q0
 have e1:=hfld 1 _ rfl
 rw [List.getElem?_eq_getElem (by omega)] at e1
 obtain ⟨a1,b1,q1,w1,u1⟩:=open_range e1
 simp [cl_laws_Range] at q1
 obtain ⟨rfl,rfl⟩:=q1
 exact ⟨⟨a0,b0,a1,b1⟩,rfl,wf_le w1,wf_le u1⟩
theorem open_rules (h:DataW.trod enc Tryz.prog w base spare held fuel 109 cs=some x):∃ (a:Option Addr) (len cap:Nat) (xs:List RuleV),cs=[.slice a len cap]∧xs.length=len∧len≤cap∧cap≤maxLen∧(a=none→cap=0)∧Rw RuR 6 w a xs :=
 rows_of RuR 6 Tryz.underlying109 cl_laws_Rule (by omega) (fun _ _ _ h=>open_rule h) h
theorem open_places (h:DataW.trod enc Tryz.prog w base spare held fuel 24 cs=some x):∃ (a:Option Addr) (len cap:Nat) (xs:List PlaceV),cs=[.slice a len cap]∧xs.length=len∧len≤cap∧cap≤maxLen∧(a=none→cap=0)∧Rw PlR 4 w a xs :=
 rows_of PlR 4 Tryz.underlying24 cl_laws_Place (by omega) (fun _ _ _ h=>open_place h) h
theorem open_role (h:DataW.trod enc Tryz.prog w base spare held fuel 111 cs=some x):∃ d,RoR 0 w d cs:=by
 obtain ⟨xs,m,_,_,hcl,hlen,hfld⟩:=DataW.trod_struct Tryz.underlying111 h
 rw [cl_laws_Role] at hcl
 obtain ⟨c0,c1,c2,c3,c4,rfl⟩:=lis5 hcl
 replace hlen:xs.length=5:=hlen
 have e0:=hfld 0 _ rfl
 rw [List.getElem?_eq_getElem (by omega)] at e0
 obtain ⟨a0,q0,_,w0⟩:=DataW.trod_string Tryz.underlying9 e0
 simp [cl_string] at q0
 subst q0
 have e1:=hfld 1 _ rfl
 rw [List.getElem?_eq_getElem (by omega)] at e1
 obtain ⟨a1,len1,cap1,xs1,q1,l1,lc1,cm1,an1,r1⟩:=open_rules e1
 simp [cl_slaws_Rule] at q1
 subst q1
 have e2:=hfld 2 _ rfl
 rw [List.getElem?_eq_getElem (by omega)] at e2
 obtain ⟨a2,q2,_,w2⟩:=DataW.trod_int Tryz.underlying3 e2
 simp [cl_int] at q2
 subst q2
 have e3:=hfld 3 _ rfl
 rw [List.getElem?_eq_getElem (by omega)] at e3
 obtain ⟨a3,q3,_,w3⟩:=DataW.trod_int Tryz.underlying3 e3
 simp [cl_int] at q3
 subst q3
 have e4:=hfld 4 _ rfl
 rw [List.getElem?_eq_getElem (by omega)] at e4
 obtain ⟨a4,q4,_,w4⟩:=DataW.trod_int Tryz.underlying3 e4
 simp [cl_int] at q4
 subst q4
 exact ⟨⟨a0,xs1,a2,a3,a4⟩,a1,cap1,by rw [l1],w0,by rw [l1];exact lc1,cm1,r1,fun _ _ _=>Nat.zero_le _⟩
theorem open_roles (h:DataW.trod enc Tryz.prog w base spare held fuel 25 cs=some x):∃ (a:Option Addr) (len cap:Nat) (xs:List RoleV),cs=[.slice a len cap]∧xs.length=len∧len≤cap∧cap≤maxLen∧(a=none→cap=0)∧Rw (RoR 0) 5 w a xs :=
 rows_of (RoR 0) 5 Tryz.underlying25 cl_laws_Role (by omega) (fun _ _ _ h=>open_role h) h
theorem open_config (h:DataW.trod enc Tryz.prog w base spare held fuel 27 cs=some x):∃ (ip b gt:Int) (gm wm:ByteArray) (rs:Int) (a1 a2:Option Addr) (len1 cap1 len2 cap2:Nat) (ps:List PlaceV) (ros:List RoleV),cs=[.int .i64 ip,.int .i64 b,.int .i64 gt,.string gm,.string wm,.int .i64 rs,.slice a1 len1 cap1,.slice a2 len2 cap2]∧gm.size≤maxLen∧wm.size≤maxLen ∧
  (ps.length=len1∧len1≤cap1∧cap1≤maxLen∧Rw PlR 4 w a1 ps)∧ros.length=len2∧len2≤cap2∧cap2≤maxLen∧Rw (RoR 0) 5 w a2 ros:=by
 obtain ⟨xs,m,_,_,hcl,hlen,hfld⟩:=DataW.trod_struct Tryz.underlying27 h
 rw [cl_laws_Config] at hcl
 obtain ⟨c0,c1,c2,c3,c4,c5,c6,c7,rfl⟩:=lis8 hcl
 replace hlen:xs.length=7:=hlen
 have e0:=hfld 0 _ rfl
 rw [List.getElem?_eq_getElem (by omega)] at e0
 obtain ⟨a0,b0,q0,w0,u0⟩:=open_net e0
 simp [cl_laws_Net] at q0
 obtain ⟨rfl,rfl⟩:=q0
 have e1:=hfld 1 _ rfl
 rw [List.getElem?_eq_getElem (by omega)] at e1
 obtain ⟨a1,q1,_,w1⟩:=DataW.trod_int Tryz.underlying3 e1
 simp [cl_int] at q1
 subst q1
 have e2:=hfld 2 _ rfl
 rw [List.getElem?_eq_getElem (by omega)] at e2
 obtain ⟨a2,q2,_,w2⟩:=DataW.trod_string Tryz.underlying9 e2
 simp [cl_string] at q2
 subst q2
 have e3:=hfld 3 _ rfl
 rw [List.getElem?_eq_getElem (by omega)] at e3
 obtain ⟨a3,q3,_,w3⟩:=DataW.trod_string Tryz.underlying9 e3
 simp [cl_string] at q3
 subst q3
 have e4:=hfld 4 _ rfl
 rw [List.getElem?_eq_getElem (by omega)] at e4
 obtain ⟨a4,q4,_,w4⟩:=DataW.trod_int Tryz.underlying3 e4
 simp [cl_int] at q4
 subst q4
 have e5:=hfld 5 _ rfl
 rw [List.getElem?_eq_getElem (by omega)] at e5
 obtain ⟨a5,len5,cap5,xs5,q5,l5,lc5,cm5,an5,r5⟩:=open_places e5
 simp [cl_slaws_Place] at q5
 subst q5
 have e6:=hfld 6 _ rfl
 rw [List.getElem?_eq_getElem (by omega)] at e6
 obtain ⟨a6,len6,cap6,xs6,q6,l6,lc6,cm6,an6,r6⟩:=open_roles e6
 simp [cl_slaws_Role] at q6
 subst q6
 exact ⟨_,_,_,_,_,_,_,_,_,_,_,_,_,_,rfl,w2,w3,⟨l5,lc5,cm5,r5⟩,l6,lc6,cm6,r6⟩
end Opn
structure UserV where
 nm:ByteArray
 sa:ByteArray
 ha:ByteArray
 ro:ByteArray
 bl:Int
 lg:Int
instance:Inhabited UserV:=⟨⟨⟨#[]⟩,⟨#[]⟩,⟨#[]⟩,⟨#[]⟩,0,0⟩⟩
def uvG (u:UserV):List Value:=[.string u.nm,.string u.sa,.string u.ha,.string u.ro,.int .i64 u.bl,.int .i64 u.lg]
def UsRok (u:UserV):Prop:=u.nm.size≤maxLen∧u.sa.size≤maxLen∧u.ha.size≤maxLen∧u.ro.size≤maxLen∧(Lit.int .i64 u.bl).wf=true∧(Lit.int .i64 u.lg).wf=true
def UsR (w:World) (u:UserV) (vs:List Value):Prop:=vs=uvG u∧UsRok u
theorem UsR.kp:Kp UsR:=fun _ _ _ _ h _=>h
structure SessV where
 id:Int
 us:Int
 mc:ByteArray
 ip:Int
 be:Int
 la:Int
 ud:Int
 qu:Int
 un:Int
 il:Int
instance:Inhabited SessV:=⟨⟨0,0,⟨#[]⟩,0,0,0,0,0,0,0⟩⟩
def svG (u:SessV):List Value:=[.int .i64 u.id,.int .i64 u.us,.string u.mc,.int .i64 u.ip,.int .i64 u.be,.int .i64 u.la,.int .i64 u.ud,.int .i64 u.qu,.int .i64 u.un,.int .i64 u.il]
def SeRok (u:SessV):Prop:=(Lit.int .i64 u.id).wf=true∧(Lit.int .i64 u.us).wf=true∧u.mc.size≤maxLen∧(Lit.int .i64 u.ip).wf=true∧(Lit.int .i64 u.be).wf=true∧(Lit.int .i64 u.la).wf=true∧(Lit.int .i64 u.ud).wf=true∧(Lit.int .i64 u.qu).wf=true∧(Lit.int .i64 u.un).wf=true∧(Lit.int .i64 u.il).wf=true
def SeR (w:World) (u:SessV) (vs:List Value):Prop:=vs=svG u∧SeRok u
theorem SeR.kp:Kp SeR:=fun _ _ _ _ h _=>h
structure FailV where
 mc:ByteArray
 ct:Int
 un:Int
instance:Inhabited FailV:=⟨⟨⟨#[]⟩,0,0⟩⟩
def fvG (u:FailV):List Value:=[.string u.mc,.int .i64 u.ct,.int .i64 u.un]
def FaRok (u:FailV):Prop:=u.mc.size≤maxLen∧(Lit.int .i64 u.ct).wf=true∧(Lit.int .i64 u.un).wf=true
def FaR (w:World) (u:FailV) (vs:List Value):Prop:=vs=fvG u∧FaRok u
theorem FaR.kp:Kp FaR:=fun _ _ _ _ h _=>h
structure RecV where
 id:Int
 tm:Int
 ca:Int
 bt:Int
 st:Bool
instance:Inhabited RecV:=⟨⟨0,0,0,0,false⟩⟩
def evG (u:RecV):List Value:=[.int .i64 u.id,.int .i64 u.tm,.int .i64 u.ca,.int .i64 u.bt,.bool u.st]
def ReRok (u:RecV):Prop:=(Lit.int .i64 u.id).wf=true∧(Lit.int .i64 u.tm).wf=true∧(Lit.int .i64 u.ca).wf=true∧(Lit.int .i64 u.bt).wf=true
def ReR (w:World) (u:RecV) (vs:List Value):Prop:=vs=evG u∧ReRok u
theorem ReR.kp:Kp ReR:=fun _ _ _ _ h _=>h
section OpnG
variable {H:Type} {enc:TypeId × Value→H} {w:World} {base:Nat} {spare:Nat→Bool} {held:Bool} {fuel:Nat} {cs:List Value} {x:DataW H × List MemPlace}
theorem gis3 {α:Type} {cs:List α} (h:cs.length=3):∃ c0 c1 c2,cs=[c0,c1,c2]:=by
 match cs,h with
 | [c0,c1,c2],_=>exact ⟨c0,c1,c2,rfl⟩
theorem gis5 {α:Type} {cs:List α} (h:cs.length=5):∃ c0 c1 c2 c3 c4,cs=[c0,c1,c2,c3,c4]:=by
 match cs,h with
 | [c0,c1,c2,c3,c4],_=>exact ⟨c0,c1,c2,c3,c4,rfl⟩
theorem gis6 {α:Type} {cs:List α} (h:cs.length=6):∃ c0 c1 c2 c3 c4 c5,cs=[c0,c1,c2,c3,c4,c5]:=by
 match cs,h with
 | [c0,c1,c2,c3,c4,c5],_=>exact ⟨c0,c1,c2,c3,c4,c5,rfl⟩
theorem gis10 {α:Type} {cs:List α} (h:cs.length=10):∃ c0 c1 c2 c3 c4 c5 c6 c7 c8 c9,cs=[c0,c1,c2,c3,c4,c5,c6,c7,c8,c9]:=by
 match cs,h with
 | [c0,c1,c2,c3,c4,c5,c6,c7,c8,c9],_=>exact ⟨c0,c1,c2,c3,c4,c5,c6,c7,c8,c9,rfl⟩
theorem gl_User:Tryz.prog.cellsOf 114=6:=by kernel_rfl
theorem gl_sUser:Tryz.prog.cellsOf 28=1:=by kernel_rfl
theorem gl_Session:Tryz.prog.cellsOf 117=10:=by kernel_rfl
theorem gl_sSession:Tryz.prog.cellsOf 29=1:=by kernel_rfl
theorem gl_Fail:Tryz.prog.cellsOf 120=3:=by kernel_rfl
theorem gl_sFail:Tryz.prog.cellsOf 30=1:=by kernel_rfl
theorem gl_Record:Tryz.prog.cellsOf 149=5:=by kernel_rfl
theorem gl_sRecord:Tryz.prog.cellsOf 31=1:=by kernel_rfl
theorem gl_Guests:Tryz.prog.cellsOf 33=5:=by kernel_rfl
theorem gl_int:Tryz.prog.cellsOf 3=1:=by kernel_rfl
theorem gl_string:Tryz.prog.cellsOf 9=1:=by kernel_rfl
theorem gl_bool:Tryz.prog.cellsOf 4=1:=by kernel_rfl
theorem open_user (h:DataW.trod enc Tryz.prog w base spare held fuel 114 cs=some x):∃ d,UsR w d cs:=by
 obtain ⟨xs,m,_,_,hcl,hlen,hfld⟩:=DataW.trod_struct Tryz.underlying114 h
 rw [gl_User] at hcl
 obtain ⟨c0,c1,c2,c3,c4,c5,rfl⟩:=gis6 hcl
 replace hlen:xs.length=6:=hlen
 have e0:=hfld 0 _ rfl
 rw [List.getElem?_eq_getElem (by omega)] at e0
 obtain ⟨a0,q0,_,w0⟩:=DataW.trod_string Tryz.underlying9 e0
 simp [gl_string] at q0
 subst q0
 have e1:=hfld 1 _ rfl
 rw [List.getElem?_eq_getElem (by omega)] at e1
 obtain ⟨a1,q1,_,w1⟩:=DataW.trod_string Tryz.underlying9 e1
 simp [gl_string] at q1
 subst q1
 have e2:=hfld 2 _ rfl
 rw [List.getElem?_eq_getElem (by omega)] at e2
 obtain ⟨a2,q2,_,w2⟩:=DataW.trod_string Tryz.underlying9 e2
 simp [gl_string] at q2
 subst q2
 have e3:=hfld 3 _ rfl
 rw [List.getElem?_eq_getElem (by omega)] at e3
 obtain ⟨a3,q3,_,w3⟩:=DataW.trod_string Tryz.underlying9 e3
 simp [gl_string] at q3
 subst q3
 have e4:=hfld 4 _ rfl
 rw [List.getElem?_eq_getElem (by omega)] at e4
 obtain ⟨a4,q4,_,w4⟩:=DataW.trod_int Tryz.underlying3 e4
 simp [gl_int] at q4
 subst q4
 have e5:=hfld 5 _ rfl
 rw [List.getElem?_eq_getElem (by omega)] at e5
 obtain ⟨a5,q5,_,w5⟩:=DataW.trod_int Tryz.underlying3 e5
 simp [gl_int] at q5
 subst q5
 exact ⟨⟨a0,a1,a2,a3,a4,a5⟩,rfl,w0,w1,w2,w3,w4,w5⟩
theorem open_users (h:DataW.trod enc Tryz.prog w base spare held fuel 28 cs=some x):∃ (a:Option Addr) (len cap:Nat) (xs:List UserV),cs=[.slice a len cap]∧xs.length=len∧len≤cap∧cap≤maxLen∧(a=none→cap=0)∧Rw UsR 6 w a xs :=
 rows_of UsR 6 Tryz.underlying28 gl_User (by omega) (fun _ _ _ h=>open_user h) h
theorem open_session (h:DataW.trod enc Tryz.prog w base spare held fuel 117 cs=some x):∃ d,SeR w d cs:=by
 obtain ⟨xs,m,_,_,hcl,hlen,hfld⟩:=DataW.trod_struct Tryz.underlying117 h
 rw [gl_Session] at hcl
 obtain ⟨c0,c1,c2,c3,c4,c5,c6,c7,c8,c9,rfl⟩:=gis10 hcl
 replace hlen:xs.length=10:=hlen
 have e0:=hfld 0 _ rfl
 rw [List.getElem?_eq_getElem (by omega)] at e0
 obtain ⟨a0,q0,_,w0⟩:=DataW.trod_int Tryz.underlying3 e0
 simp [gl_int] at q0
 subst q0
 have e1:=hfld 1 _ rfl
 rw [List.getElem?_eq_getElem (by omega)] at e1
 obtain ⟨a1,q1,_,w1⟩:=DataW.trod_int Tryz.underlying3 e1
 simp [gl_int] at q1
 subst q1
 have e2:=hfld 2 _ rfl
 rw [List.getElem?_eq_getElem (by omega)] at e2
 obtain ⟨a2,q2,_,w2⟩:=DataW.trod_string Tryz.underlying9 e2
 simp [gl_string] at q2
 subst q2
 have e3:=hfld 3 _ rfl
 rw [List.getElem?_eq_getElem (by omega)] at e3
 obtain ⟨a3,q3,_,w3⟩:=DataW.trod_int Tryz.underlying3 e3
 simp [gl_int] at q3
 subst q3
 have e4:=hfld 4 _ rfl
 rw [List.getElem?_eq_getElem (by omega)] at e4
 obtain ⟨a4,q4,_,w4⟩:=DataW.trod_int Tryz.underlying3 e4
 simp [gl_int] at q4
 subst q4
 have e5:=hfld 5 _ rfl
 rw [List.getElem?_eq_getElem (by omega)] at e5
 obtain ⟨a5,q5,_,w5⟩:=DataW.trod_int Tryz.underlying3 e5
 simp [gl_int] at q5
 subst q5
 have e6:=hfld 6 _ rfl
 rw [List.getElem?_eq_getElem (by omega)] at e6
 obtain ⟨a6,q6,_,w6⟩:=DataW.trod_int Tryz.underlying3 e6
 simp [gl_int] at q6
 subst q6
 have e7:=hfld 7 _ rfl
 rw [List.getElem?_eq_getElem (by omega)] at e7
 obtain ⟨a7,q7,_,w7⟩:=DataW.trod_int Tryz.underlying3 e7
 simp [gl_int] at q7
 subst q7
 have e8:=hfld 8 _ rfl
 rw [List.getElem?_eq_getElem (by omega)] at e8
 obtain ⟨a8,q8,_,w8⟩:=DataW.trod_int Tryz.underlying3 e8
 simp [gl_int] at q8
 subst q8
 have e9:=hfld 9 _ rfl
 rw [List.getElem?_eq_getElem (by omega)] at e9
 obtain ⟨a9,q9,_,w9⟩:=DataW.trod_int Tryz.underlying3 e9
 simp [gl_int] at q9
 subst q9
 exact ⟨⟨a0,a1,a2,a3,a4,a5,a6,a7,a8,a9⟩,rfl,w0,w1,w2,w3,w4,w5,w6,w7,w8,w9⟩
theorem open_sessions (h:DataW.trod enc Tryz.prog w base spare held fuel 29 cs=some x):∃ (a:Option Addr) (len cap:Nat) (xs:List SessV),cs=[.slice a len cap]∧xs.length=len∧len≤cap∧cap≤maxLen∧(a=none→cap=0)∧Rw SeR 10 w a xs :=
 rows_of SeR 10 Tryz.underlying29 gl_Session (by omega) (fun _ _ _ h=>open_session h) h
theorem open_fail (h:DataW.trod enc Tryz.prog w base spare held fuel 120 cs=some x):∃ d,FaR w d cs:=by
 obtain ⟨xs,m,_,_,hcl,hlen,hfld⟩:=DataW.trod_struct Tryz.underlying120 h
 rw [gl_Fail] at hcl
 obtain ⟨c0,c1,c2,rfl⟩:=gis3 hcl
 replace hlen:xs.length=3:=hlen
 have e0:=hfld 0 _ rfl
 rw [List.getElem?_eq_getElem (by omega)] at e0
 obtain ⟨a0,q0,_,w0⟩:=DataW.trod_string Tryz.underlying9 e0
 simp [gl_string] at q0
 subst q0
 have e1:=hfld 1 _ rfl
 rw [List.getElem?_eq_getElem (by omega)] at e1
 obtain ⟨a1,q1,_,w1⟩:=DataW.trod_int Tryz.underlying3 e1
 simp [gl_int] at q1
 subst q1
 have e2:=hfld 2 _ rfl
 rw [List.getElem?_eq_getElem (by omega)] at e2
 obtain ⟨a2,q2,_,w2⟩:=DataW.trod_int Tryz.underlying3 e2
 simp [gl_int] at q2
 subst q2
 exact ⟨⟨a0,a1,a2⟩,rfl,w0,w1,w2⟩
theorem open_fails (h:DataW.trod enc Tryz.prog w base spare held fuel 30 cs=some x):∃ (a:Option Addr) (len cap:Nat) (xs:List FailV),cs=[.slice a len cap]∧xs.length=len∧len≤cap∧cap≤maxLen∧(a=none→cap=0)∧Rw FaR 3 w a xs :=
 rows_of FaR 3 Tryz.underlying30 gl_Fail (by omega) (fun _ _ _ h=>open_fail h) h
theorem open_record (h:DataW.trod enc Tryz.prog w base spare held fuel 149 cs=some x):∃ d,ReR w d cs:=by
 obtain ⟨xs,m,_,_,hcl,hlen,hfld⟩:=DataW.trod_struct Tryz.underlying149 h
 rw [gl_Record] at hcl
 obtain ⟨c0,c1,c2,c3,c4,rfl⟩:=gis5 hcl
 replace hlen:xs.length=5:=hlen
 have e0:=hfld 0 _ rfl
 rw [List.getElem?_eq_getElem (by omega)] at e0
 obtain ⟨a0,q0,_,w0⟩:=DataW.trod_int Tryz.underlying3 e0
 simp [gl_int] at q0
 subst q0
 have e1:=hfld 1 _ rfl
 rw [List.getElem?_eq_getElem (by omega)] at e1
 obtain ⟨a1,q1,_,w1⟩:=DataW.trod_int Tryz.underlying3 e1
 simp [gl_int] at q1
 subst q1
 have e2:=hfld 2 _ rfl
 rw [List.getElem?_eq_getElem (by omega)] at e2
 obtain ⟨a2,q2,_,w2⟩:=DataW.trod_int Tryz.underlying3 e2
 simp [gl_int] at q2
 subst q2
 have e3:=hfld 3 _ rfl
 rw [List.getElem?_eq_getElem (by omega)] at e3
 obtain ⟨a3,q3,_,w3⟩:=DataW.trod_int Tryz.underlying3 e3
 simp [gl_int] at q3
 subst q3
 have e4:=hfld 4 _ rfl
 rw [List.getElem?_eq_getElem (by omega)] at e4
 obtain ⟨a4,q4,_⟩:=DataW.trod_bool Tryz.underlying4 e4
 simp [gl_bool] at q4
 subst q4
 exact ⟨⟨a0,a1,a2,a3,a4⟩,rfl,w0,w1,w2,w3⟩
theorem open_records (h:DataW.trod enc Tryz.prog w base spare held fuel 31 cs=some x):∃ (a:Option Addr) (len cap:Nat) (xs:List RecV),cs=[.slice a len cap]∧xs.length=len∧len≤cap∧cap≤maxLen∧(a=none→cap=0)∧Rw ReR 5 w a xs :=
 rows_of ReR 5 Tryz.underlying31 gl_Record (by omega) (fun _ _ _ h=>open_record h) h
theorem open_guests (h:DataW.trod enc Tryz.prog w base spare held fuel 33 cs=some x):∃ (ua sa fa ra:Option Addr) (ul uc sl sc fl fc rl rc:Nat) (us:List UserV) (ss:List SessV) (fs:List FailV) (rs:List RecV) (nx:Int),cs=[.slice ua ul uc,.slice sa sl sc,.slice fa fl fc,.slice ra rl rc,.int .i64 nx]∧(us.length=ul∧ul≤uc∧uc≤maxLen∧Rw UsR 6 w ua us)∧(ss.length=sl∧sl≤sc∧sc≤maxLen∧Rw SeR 10 w sa ss)∧(fs.length=fl∧fl≤fc∧fc≤maxLen∧Rw FaR 3 w fa fs)∧(rs.length=rl∧rl≤rc∧rc≤maxLen∧Rw ReR 5 w ra rs)∧(Lit.int .i64 nx).wf=true:=by
 obtain ⟨xs,m,_,_,hcl,hlen,hfld⟩:=DataW.trod_struct Tryz.underlying33 h
 rw [gl_Guests] at hcl
 obtain ⟨c0,c1,c2,c3,c4,rfl⟩:=gis5 hcl
 replace hlen:xs.length=5:=hlen
 have e0:=hfld 0 _ rfl
 rw [List.getElem?_eq_getElem (by omega)] at e0
 obtain ⟨a0,len0,cap0,xs0,q0,l0,lc0,cm0,_,r0⟩:=open_users e0
 simp [gl_sUser] at q0
 subst q0
 have e1:=hfld 1 _ rfl
 rw [List.getElem?_eq_getElem (by omega)] at e1
 obtain ⟨a1,len1,cap1,xs1,q1,l1,lc1,cm1,_,r1⟩:=open_sessions e1
 simp [gl_sSession] at q1
 subst q1
 have e2:=hfld 2 _ rfl
 rw [List.getElem?_eq_getElem (by omega)] at e2
 obtain ⟨a2,len2,cap2,xs2,q2,l2,lc2,cm2,_,r2⟩:=open_fails e2
 simp [gl_sFail] at q2
 subst q2
 have e3:=hfld 3 _ rfl
 rw [List.getElem?_eq_getElem (by omega)] at e3
 obtain ⟨a3,len3,cap3,xs3,q3,l3,lc3,cm3,_,r3⟩:=open_records e3
 simp [gl_sRecord] at q3
 subst q3
 have e4:=hfld 4 _ rfl
 rw [List.getElem?_eq_getElem (by omega)] at e4
 obtain ⟨a4,q4,_,w4⟩:=DataW.trod_int Tryz.underlying3 e4
 simp [gl_int] at q4
 subst q4
 exact ⟨_,_,_,_,_,_,_,_,_,_,_,_,_,_,_,_,_,rfl,⟨l0,lc0,cm0,r0⟩,⟨l1,lc1,cm1,r1⟩,⟨l2,lc2,cm2,r2⟩,⟨l3,lc3,cm3,r3⟩,w4⟩
end OpnG
def flatS {α:Type} (c:α→List Value) (xs:List α):List Value:=xs.flatMap c
section Fl
variable {α:Type} {c:α→List Value} {K:Nat}
theorem flatS_append (xs ys:List α):flatS c (xs ++ ys)=flatS c xs ++ flatS c ys:=by simp [flatS]
theorem flatS_cons (x:α) (xs:List α):flatS c (x :: xs)=c x ++ flatS c xs:=rfl
theorem flatS_len (hK:∀ x,(c x).length=K):∀ xs:List α,(flatS c xs).length=xs.length * K
 | []=>by simp [flatS]
 | x :: xs=>by rw [flatS_cons,List.length_append,hK,flatS_len hK xs,List.length_cons,Nat.add_mul];omega
theorem flatS_at (hK:∀ x,(c x).length=K):∀ (xs:List α) (i:Nat) (x:α) (j:Nat),xs[i]?=some x→j<K→(flatS c xs)[i * K+j]?=(c x)[j]?
 | [],i,x,j,h,hj=>by simp at h
 | y :: xs,0,x,j,h,hj=>by
  simp at h
  subst h
  rw [flatS_cons,List.getElem?_append_left (by rw [hK];omega)]
  congr 1
  omega
 | y :: xs,i+1,x,j,h,hj=>by
  rw [flatS_cons,List.getElem?_append_right (by rw [hK,Nat.add_mul];omega),hK,show (i+1) * K+j - K=i * K+j by rw [Nat.add_mul];omega]
  exact flatS_at hK xs i x j (by simpa using h) hj
theorem sets_mid:∀ (vs B A C:List Value),B.length=vs.length→sets (A ++ (B ++ C)) A.length vs=A ++ (vs ++ C)
 | [],[],A,C,_=>rfl
 | v :: vs,b :: B,A,C,h=>by
  have e:(A ++ ((b :: B) ++ C)).set A.length v=(A ++ [v]) ++ (B ++ C):=by simp
  have:=sets_mid vs B (A ++ [v]) C (by simpa using h)
  unfold sets
  rw [e,show A.length+1=(A ++ [v]).length by simp,this]
  simp
theorem flatS_sets (hK:∀ x,(c x).length=K) (xs:List α) (i:Nat) (y:α) (hi:i<xs.length):flatS c (xs.set i y)=sets (flatS c xs) (i * K) (c y):=by
 obtain ⟨A,x,C,rfl,rfl⟩:∃ A x C,xs=A ++ x :: C∧A.length=i:=⟨xs.take i,xs[i],xs.drop (i+1),by simp,by simp;omega⟩
 have e:(A ++ x :: C).set A.length y=A ++ y :: C:=by simp
 rw [e,flatS_append,flatS_append,flatS_cons,flatS_cons,← flatS_len hK,sets_mid _ _ _ _ (by rw [hK,hK])]
theorem flatS_set1 (hK:∀ x,(c x).length=K) (xs:List α) (i:Nat) (x y:α) (j:Nat) (v:Value) (hx:xs[i]?=some x) (hj:j<K) (hy:c y=(c x).set j v):flatS c (xs.set i y)=(flatS c xs).set (i * K+j) v:=by
 have hi:=(List.getElem?_eq_some_iff.1 hx).1
 obtain ⟨A,x',C,rfl,rfl⟩:∃ A x C,xs=A ++ x :: C∧A.length=i:=⟨xs.take i,xs[i],xs.drop (i+1),by simp,by simp;omega⟩
 have ex:x'=x:=by simpa using hx
 subst ex
 have e:(A ++ x' :: C).set A.length y=A ++ y :: C:=by simp
 rw [e,flatS_append,flatS_append,flatS_cons,flatS_cons,← flatS_len hK,hy,List.set_append_right _ _ (by omega),List.set_append_left _ _ (by rw [hK];omega),show (flatS c A).length+j - (flatS c A).length=j by omega]
end Fl
def OwnS {α:Type} (c:α→List Value) (K:Nat) (e:TypeId) (w:World) (B:Nat) (v:Value) (xs:List α):Prop:=w.ownsRow B e K v xs.length (flatS c xs)
def FR {α:Type} (c:α→List Value) (ok:α→Prop) (w:World) (u:α) (vs:List Value):Prop:=vs=c u∧ok u
theorem FR.kp {α:Type} {c:α→List Value} {ok:α→Prop}:Kp (FR c ok):=fun _ _ _ _ h _=>h
section Ow
variable {α:Type} {c:α→List Value} {K:Nat} {e:TypeId} {w w':World} {B:Nat} {v:Value} {xs:List α}
theorem OwnS.lt (h:OwnS c K e w B v xs):∀ k,v.ownBlock=some k→B≤k∧k<w.heap.size:=World.ownsRow.lt h
theorem OwnS.keep {m:Nat} (h:OwnS c K e w B v xs) (hb:Below m w w') (hm:∀ k,v.ownBlock=some k→k<m):OwnS c K e w' B v xs:=owns_keep h hb hm
theorem OwnS.now (h:OwnS c K e w B v xs) (hb:Below w.heap.size w w'):OwnS c K e w' B v xs:=owns_now h hb
theorem OwnS.kept {r:Option Nat} (h:OwnS c K e w B v xs) (hg:w.grownBy w' r) (hne:v.ownBlock=none ∨ v.ownBlock ≠ r):OwnS c K e w' B v xs:=World.ownsRow.kept h hg hne
theorem OwnS.lower {B':Nat} (h:OwnS c K e w B v xs) (hB:B'≤B):OwnS c K e w B' v xs:=by
 refine ⟨h.1,?_⟩
 rcases h.2 with h' | ⟨g,cap,cur,h1,hb,h4⟩
 ·exact .inl h'
 ·exact .inr ⟨g,cap,cur,h1,Nat.le_trans hB hb,h4⟩
theorem OwnS.slice (h:OwnS c K e w B v xs):∃ a cap,v=.slice a xs.length cap∧xs.length≤cap∧cap≤maxLen∧(∀ b off,a=some ⟨b,off,none⟩→B≤b∧b<w.heap.size):=by
 rcases h.2 with ⟨h1,h2⟩ | ⟨g,cap,cur,h1,hB,hg,h3,h4,_⟩
 ·exact ⟨none,0,by rw [h1,h2],by omega,Nat.zero_le _,fun b off e=>by cases e⟩
 ·exact ⟨_,cap,h1,h3,h4,fun b off e=>by cases e;exact ⟨hB,(Array.getElem?_eq_some_iff.1 hg).1⟩⟩
theorem OwnS.form {a:Option Addr} {n cap:Nat} (h:OwnS c K e w B (.slice a n cap) xs) (h0:0<xs.length):∃ g,a=some ⟨g,0,none⟩∧B≤g∧g<w.heap.size∧xs.length=n:=by
 rcases h.2 with ⟨h1,h2⟩ | ⟨g,cap,cur,h1,hB,hg,_⟩
 ·omega
 ·cases h1
  exact ⟨g,rfl,hB,(Array.getElem?_eq_some_iff.1 hg).1,rfl⟩
theorem OwnS.len {a:Option Addr} {n cap:Nat} (h:OwnS c K e w B (.slice a n cap) xs):xs.length=n:=by
 rcases h.2 with ⟨h1,h2⟩ | ⟨g,cap,cur,h1,_⟩
 ·cases h1
  exact h2
 ·cases h1
  rfl
theorem OwnS.rw {a:Option Addr} {n cap:Nat} {ok:α→Prop} (h:OwnS c K e w B (.slice a n cap) xs) (hK:∀ x,(c x).length=K) (hok:∀ x,x ∈ xs→ok x):Rw (FR c ok) K w a xs:=by
 intro h0
 obtain ⟨g,rfl,hB,hg,rfl⟩:=h.form h0
 refine ⟨g,0,rfl,hg,fun i x hx=>⟨c x,hK x,⟨rfl,hok x (List.mem_of_getElem? hx)⟩,fun j u hu=>?_⟩⟩
 have hj:=(List.getElem?_eq_some_iff.1 hu).1
 rw [hK] at hj
 have hi:=(List.getElem?_eq_some_iff.1 hx).1
 have:(i+1) * K≤xs.length * K:=Nat.mul_le_mul_right _ hi
 rw [Nat.add_mul] at this
 rw [Nat.zero_add,World.ownsRow.cellAt h _ (by omega),flatS_at hK xs i x j hx hj]
 exact hu
theorem OwnS.cell {g n cap:Nat} (h:OwnS c K e w B (.slice (some ⟨g,0,none⟩) n cap) xs) (hK:∀ x,(c x).length=K) {i j:Nat} {x:α} {u:Value} (hx:xs[i]?=some x) (hu:(c x)[j]?=some u):w.cell? ⟨g,i * K+j,none⟩=some u∧w.frozen? ⟨g,i * K+j,none⟩=false:=by
 obtain rfl:=h.len
 have hj:=(List.getElem?_eq_some_iff.1 hu).1
 rw [hK] at hj
 have hi:=(List.getElem?_eq_some_iff.1 hx).1
 have:(i+1) * K≤xs.length * K:=Nat.mul_le_mul_right _ hi
 rw [Nat.add_mul] at this
 exact ⟨by rw [World.ownsRow.cellAt h _ (by omega),flatS_at hK xs i x j hx hj];exact hu,World.ownsRow.frozenAt h _⟩
theorem OwnS.nil (w:World) (B:Nat):OwnS c K e w B (.slice none 0 0) ([]:List α):=World.ownsRow_nil w _ _ _
theorem OwnS.lit (w:World) (B:Nat) (hB:B≤w.heap.size):OwnS c K e (w.alloc (.cells #[] e)) B (.slice (some ⟨w.heap.size,0,none⟩) 0 0) ([]:List α):=World.ownsRow_lit w #[] 0 hB (Nat.zero_le _) (by simp)
theorem OwnS.store {g n cap:Nat} (h:OwnS c K e w B (.slice (some ⟨g,0,none⟩) n cap) xs) (hK:∀ x,(c x).length=K) {i:Nat} (hi:i<n) (y:α) :
  OwnS c K e (wsets w g (i * K) (c y)) B (.slice (some ⟨g,0,none⟩) n cap) (xs.set i y)∧w.grownBy (wsets w g (i * K) (c y)) (some g):=by
 obtain rfl:=h.len
 have:=owns_sets (c y) w _ (i * K) h
 refine ⟨?_,this.2⟩
 unfold OwnS
 rw [flatS_sets hK xs i y hi,List.length_set]
 exact this.1
theorem OwnS.set1 {g n cap:Nat} (h:OwnS c K e w B (.slice (some ⟨g,0,none⟩) n cap) xs) (hK:∀ x,(c x).length=K) {i j:Nat} {x y:α} {u:Value} (hx:xs[i]?=some x) (hj:j<K) (hy:c y=(c x).set j u) :
  OwnS c K e (w.setCell ⟨g,i * K+j,none⟩ u) B (.slice (some ⟨g,0,none⟩) n cap) (xs.set i y)∧w.grownBy (w.setCell ⟨g,i * K+j,none⟩ u) (some g):=by
 obtain rfl:=h.len
 have:=World.ownsRow.stored h (i * K+j) u
 refine ⟨?_,this.2⟩
 unfold OwnS
 rw [flatS_set1 hK xs i x y j u hx hj hy,List.length_set]
 exact this.1
end Ow
theorem made_flatS {α:Type} (c:α→List Value) (z:α) (Z:Array Value) (hz:Z.toList=c z) (h0:0<Z.size) (n:Nat):(madeCells Z (n * Z.size)).toList=flatS c (List.replicate n z):=by
 have hK:∀ x ∈ [z],(c x).length=Z.size:=by intro x hx;simp at hx;subst hx;rw [← hz];simp
 have flat_at:∀ (n i j:Nat),i<n→j<Z.size→(flatS c (List.replicate n z))[i * Z.size+j]?=(c z)[j]?:=by
  intro n
  induction n with
  | zero=>intro i j hi;omega
  | succ n ih =>
   intro i j hi hj
   rw [List.replicate_succ,flatS_cons]
   cases i with
   | zero=>rw [List.getElem?_append_left (by rw [hK z (by simp)];omega)];congr 1;omega
   | succ i =>
    rw [List.getElem?_append_right (by rw [hK z (by simp),Nat.add_mul];omega),hK z (by simp),show (i+1) * Z.size+j - Z.size=i * Z.size+j by rw [Nat.add_mul];omega]
    exact ih i j (by omega) hj
 have hlen:∀ n,(flatS c (List.replicate n z)).length=n * Z.size:=by
  intro n
  induction n with
  | zero=>simp [flatS]
  | succ n ih=>rw [List.replicate_succ,flatS_cons,List.length_append,ih,hK z (by simp),Nat.add_mul];omega
 apply List.ext_getElem?
 intro m
 by_cases hm:m<n * Z.size
 ·have e1:m=m / Z.size * Z.size+m % Z.size:=by rw [Nat.mul_comm];exact (Nat.div_add_mod m Z.size).symm
  have hq:m / Z.size<n:=(Nat.div_lt_iff_lt_mul h0).2 hm
  have hr:m % Z.size<Z.size:=Nat.mod_lt _ h0
  have e2:=flat_at n (m / Z.size) (m % Z.size) hq hr
  rw [← e1] at e2
  rw [e2,← hz]
  simp [madeCells,hm,hr]
 ·rw [List.getElem?_eq_none (by rw [Array.length_toList,size_madeCells];omega),List.getElem?_eq_none (by rw [hlen];omega)]
theorem OwnS.made {α:Type} {c:α→List Value} {K:Nat} (w:World) (e:TypeId) (B n:Nat) (z:α) (Z:Array Value) (hz:Z.toList=c z) (hZ:Z.size=K) (h0:0<K) (hB:B≤w.heap.size) (hn:n≤maxLen):OwnS c K e (w.alloc (.cells (madeCells Z (n * K)) e)) B (.slice (some ⟨w.heap.size,0,none⟩) n n) (List.replicate n z):=by
 subst hZ
 have:=owns_made w e B n Z.size Z hB hn
 unfold OwnS
 rw [made_flatS c z Z hz h0 n] at this
 rwa [List.length_replicate]
theorem takeS_set {α:Type} {L zs:List α} {k:Nat} {x:α} (hl:L.length=zs.length) (hx:zs[k]?=some x) (h:L.take k=zs.take k):(L.set k x).take (k+1)=zs.take (k+1):=by
 have hk:=(List.getElem?_eq_some_iff.1 hx).1
 have e1:(L.set k x).take (k+1)=(L.set k x).take k ++ [x]:=by rw [List.take_add_one,List.getElem?_set_self (by omega)];rfl
 have e2:zs.take (k+1)=zs.take k ++ [x]:=by rw [List.take_add_one,hx];rfl
 rw [e1,e2,List.take_set_of_le (Nat.le_refl _),h]
theorem takeS_next {α:Type} {zs:List α} {k:Nat} {x:α} (hx:zs[k]?=some x):zs.take (k+1)=zs.take k ++ [x]:=by rw [List.take_add_one,hx];rfl
theorem flat_rw {α:Type} {c:α→List Value} {ok:α→Prop} {K:Nat} {w:World} {b off:Nat} {xs:List α} (h:Rw (FR c ok) K w (some ⟨b,off,none⟩) xs) (hK:∀ x,(c x).length=K) (h0:0<K):∀ j u,(flatS c xs)[j]?=some u→w.cell? ⟨b,off+j,none⟩=some u:=by
 intro j u hu
 have hj:=(List.getElem?_eq_some_iff.1 hu).1
 rw [flatS_len hK] at hj
 have e1:j=j / K * K+j % K:=by rw [Nat.mul_comm];exact (Nat.div_add_mod j K).symm
 have hq:j / K<xs.length:=(Nat.div_lt_iff_lt_mul h0).2 hj
 have hr:j % K<K:=Nat.mod_lt _ h0
 obtain ⟨b',off',e,hlt,hc⟩:=h (Nat.lt_of_le_of_lt (Nat.zero_le _) hq)
 cases e
 have hx:xs[j / K]?=some (xs[j / K]):=List.getElem?_eq_getElem hq
 obtain ⟨vs,h1,⟨rfl,_⟩,h3⟩:=hc _ _ hx
 rw [e1,flatS_at hK xs _ _ _ hx hr] at hu
 have:=h3 _ _ hu
 rw [Nat.add_assoc,← e1] at this
 exact this
structure FlowV where
 pr:Int
 mc:ByteArray
 si:Int
 sp:Int
 di:Int
 dp:Int
 st:Int
 un:Int
 ow:Int
instance:Inhabited FlowV:=⟨⟨0,⟨#[]⟩,0,0,0,0,0,0,0⟩⟩
def wvG (u:FlowV):List Value:=[.int .i64 u.pr,.string u.mc,.int .i64 u.si,.int .i64 u.sp,.int .i64 u.di,.int .i64 u.dp,.int .i64 u.st,.int .i64 u.un,.int .i64 u.ow]
def FlRok (u:FlowV):Prop:=(Lit.int .i64 u.pr).wf=true∧u.mc.size≤maxLen∧(Lit.int .i64 u.si).wf=true∧(Lit.int .i64 u.sp).wf=true∧(Lit.int .i64 u.di).wf=true∧(Lit.int .i64 u.dp).wf=true∧(Lit.int .i64 u.st).wf=true∧(Lit.int .i64 u.un).wf=true∧(Lit.int .i64 u.ow).wf=true
abbrev FlR:=FR wvG FlRok
theorem wvG_len (u:FlowV):(wvG u).length=9:=rfl
section OpnF
variable {H:Type} {enc:TypeId × Value→H} {w:World} {base:Nat} {spare:Nat→Bool} {held:Bool} {fuel:Nat} {cs:List Value} {x:DataW H × List MemPlace}
theorem gis9 {α:Type} {cs:List α} (h:cs.length=9):∃ c0 c1 c2 c3 c4 c5 c6 c7 c8,cs=[c0,c1,c2,c3,c4,c5,c6,c7,c8]:=by
 match cs,h with
 | [c0,c1,c2,c3,c4,c5,c6,c7,c8],_=>exact ⟨c0,c1,c2,c3,c4,c5,c6,c7,c8,rfl⟩
theorem f9_Flow:Tryz.prog.cellsOf 174=9:=by kernel_rfl
theorem f9_int:Tryz.prog.cellsOf 3=1:=by kernel_rfl
theorem f9_string:Tryz.prog.cellsOf 9=1:=by kernel_rfl
theorem open_flow (h:DataW.trod enc Tryz.prog w base spare held fuel 174 cs=some x):∃ d,FlR w d cs:=by
 obtain ⟨xs,m,_,_,hcl,hlen,hfld⟩:=DataW.trod_struct Tryz.underlying174 h
 rw [f9_Flow] at hcl
 obtain ⟨c0,c1,c2,c3,c4,c5,c6,c7,c8,rfl⟩:=gis9 hcl
 replace hlen:xs.length=9:=hlen
 have e0:=hfld 0 _ rfl
 rw [List.getElem?_eq_getElem (by omega)] at e0
 obtain ⟨a0,q0,_,w0⟩:=DataW.trod_int Tryz.underlying3 e0
 simp [f9_int] at q0
 subst q0
 have e1:=hfld 1 _ rfl
 rw [List.getElem?_eq_getElem (by omega)] at e1
 obtain ⟨a1,q1,_,w1⟩:=DataW.trod_string Tryz.underlying9 e1
 simp [f9_string] at q1
 subst q1
 have e2:=hfld 2 _ rfl
 rw [List.getElem?_eq_getElem (by omega)] at e2
 obtain ⟨a2,q2,_,w2⟩:=DataW.trod_int Tryz.underlying3 e2
 simp [f9_int] at q2
 subst q2
 have e3:=hfld 3 _ rfl
 rw [List.getElem?_eq_getElem (by omega)] at e3
 obtain ⟨a3,q3,_,w3⟩:=DataW.trod_int Tryz.underlying3 e3
 simp [f9_int] at q3
 subst q3
 have e4:=hfld 4 _ rfl
 rw [List.getElem?_eq_getElem (by omega)] at e4
 obtain ⟨a4,q4,_,w4⟩:=DataW.trod_int Tryz.underlying3 e4
 simp [f9_int] at q4
 subst q4
 have e5:=hfld 5 _ rfl
 rw [List.getElem?_eq_getElem (by omega)] at e5
 obtain ⟨a5,q5,_,w5⟩:=DataW.trod_int Tryz.underlying3 e5
 simp [f9_int] at q5
 subst q5
 have e6:=hfld 6 _ rfl
 rw [List.getElem?_eq_getElem (by omega)] at e6
 obtain ⟨a6,q6,_,w6⟩:=DataW.trod_int Tryz.underlying3 e6
 simp [f9_int] at q6
 subst q6
 have e7:=hfld 7 _ rfl
 rw [List.getElem?_eq_getElem (by omega)] at e7
 obtain ⟨a7,q7,_,w7⟩:=DataW.trod_int Tryz.underlying3 e7
 simp [f9_int] at q7
 subst q7
 have e8:=hfld 8 _ rfl
 rw [List.getElem?_eq_getElem (by omega)] at e8
 obtain ⟨a8,q8,_,w8⟩:=DataW.trod_int Tryz.underlying3 e8
 simp [f9_int] at q8
 subst q8
 exact ⟨⟨a0,a1,a2,a3,a4,a5,a6,a7,a8⟩,rfl,w0,w1,w2,w3,w4,w5,w6,w7,w8⟩
theorem open_flows (h:DataW.trod enc Tryz.prog w base spare held fuel 62 cs=some x):∃ (a:Option Addr) (len cap:Nat) (xs:List FlowV),cs=[.slice a len cap]∧xs.length=len∧len≤cap∧cap≤maxLen∧(a=none→cap=0)∧Rw FlR 9 w a xs :=
 rows_of FlR 9 Tryz.underlying62 f9_Flow (by omega) (fun _ _ _ h=>open_flow h) h
end OpnF
structure ConnV where
 mc:ByteArray
 ip:Int
 po:Int
 di:Int
 st:Int
 un:Int
 nx:Int
 wa:Int
 inn:ByteArray
 out:ByteArray
 fin:Bool
instance:Inhabited ConnV:=⟨⟨⟨#[]⟩,0,0,0,0,0,0,0,⟨#[]⟩,⟨#[]⟩,false⟩⟩
def cnG (u:ConnV):List Value:=[.string u.mc,.int .i64 u.ip,.int .i64 u.po,.int .i64 u.di,.int .i64 u.st,.int .i64 u.un,.int .i64 u.nx,.int .i64 u.wa,.string u.inn,.string u.out,.bool u.fin]
def CnRok (u:ConnV):Prop:=u.mc.size≤maxLen∧(Lit.int .i64 u.ip).wf=true∧(Lit.int .i64 u.po).wf=true∧(Lit.int .i64 u.di).wf=true∧(Lit.int .i64 u.st).wf=true∧(Lit.int .i64 u.un).wf=true∧(Lit.int .i64 u.nx).wf=true∧(Lit.int .i64 u.wa).wf=true∧u.inn.size≤maxLen∧u.out.size≤maxLen
abbrev CnR:=FR cnG CnRok
theorem cnG_len (u:ConnV):(cnG u).length=11:=rfl
structure SegV where
 sp:Int
 dp:Int
 sq:Int
 ac:Int
 fl:Int
 wi:Int
 da:ByteArray
instance:Inhabited SegV:=⟨⟨0,0,0,0,0,0,⟨#[]⟩⟩⟩
section OpnC
variable {H:Type} {enc:TypeId × Value→H} {w:World} {base:Nat} {spare:Nat→Bool} {held:Bool} {fuel:Nat} {cs:List Value} {x:DataW H × List MemPlace}
theorem gis11 {α:Type} {cs:List α} (h:cs.length=11):∃ c0 c1 c2 c3 c4 c5 c6 c7 c8 c9 c10,cs=[c0,c1,c2,c3,c4,c5,c6,c7,c8,c9,c10]:=by
 match cs,h with
 | [c0,c1,c2,c3,c4,c5,c6,c7,c8,c9,c10],_=>exact ⟨c0,c1,c2,c3,c4,c5,c6,c7,c8,c9,c10,rfl⟩
theorem c11_Conn:Tryz.prog.cellsOf 176=11:=by kernel_rfl
theorem c11_int:Tryz.prog.cellsOf 3=1:=by kernel_rfl
theorem c11_string:Tryz.prog.cellsOf 9=1:=by kernel_rfl
theorem c11_bool:Tryz.prog.cellsOf 4=1:=by kernel_rfl
theorem open_conn (h:DataW.trod enc Tryz.prog w base spare held fuel 176 cs=some x):∃ d,CnR w d cs:=by
 obtain ⟨xs,m,_,_,hcl,hlen,hfld⟩:=DataW.trod_struct Tryz.underlying176 h
 rw [c11_Conn] at hcl
 obtain ⟨c0,c1,c2,c3,c4,c5,c6,c7,c8,c9,c10,rfl⟩:=gis11 hcl
 replace hlen:xs.length=11:=hlen
 have e0:=hfld 0 _ rfl
 rw [List.getElem?_eq_getElem (by omega)] at e0
 obtain ⟨a0,q0,_,w0⟩:=DataW.trod_string Tryz.underlying9 e0
 simp [c11_string] at q0
 subst q0
 have e1:=hfld 1 _ rfl
 rw [List.getElem?_eq_getElem (by omega)] at e1
 obtain ⟨a1,q1,_,w1⟩:=DataW.trod_int Tryz.underlying3 e1
 simp [c11_int] at q1
 subst q1
 have e2:=hfld 2 _ rfl
 rw [List.getElem?_eq_getElem (by omega)] at e2
 obtain ⟨a2,q2,_,w2⟩:=DataW.trod_int Tryz.underlying3 e2
 simp [c11_int] at q2
 subst q2
 have e3:=hfld 3 _ rfl
 rw [List.getElem?_eq_getElem (by omega)] at e3
 obtain ⟨a3,q3,_,w3⟩:=DataW.trod_int Tryz.underlying3 e3
 simp [c11_int] at q3
 subst q3
 have e4:=hfld 4 _ rfl
 rw [List.getElem?_eq_getElem (by omega)] at e4
 obtain ⟨a4,q4,_,w4⟩:=DataW.trod_int Tryz.underlying3 e4
 simp [c11_int] at q4
 subst q4
 have e5:=hfld 5 _ rfl
 rw [List.getElem?_eq_getElem (by omega)] at e5
 obtain ⟨a5,q5,_,w5⟩:=DataW.trod_int Tryz.underlying3 e5
 simp [c11_int] at q5
 subst q5
 have e6:=hfld 6 _ rfl
 rw [List.getElem?_eq_getElem (by omega)] at e6
 obtain ⟨a6,q6,_,w6⟩:=DataW.trod_int Tryz.underlying3 e6
 simp [c11_int] at q6
 subst q6
 have e7:=hfld 7 _ rfl
 rw [List.getElem?_eq_getElem (by omega)] at e7
 obtain ⟨a7,q7,_,w7⟩:=DataW.trod_int Tryz.underlying3 e7
 simp [c11_int] at q7
 subst q7
 have e8:=hfld 8 _ rfl
 rw [List.getElem?_eq_getElem (by omega)] at e8
 obtain ⟨a8,q8,_,w8⟩:=DataW.trod_string Tryz.underlying9 e8
 simp [c11_string] at q8
 subst q8
 have e9:=hfld 9 _ rfl
 rw [List.getElem?_eq_getElem (by omega)] at e9
 obtain ⟨a9,q9,_,w9⟩:=DataW.trod_string Tryz.underlying9 e9
 simp [c11_string] at q9
 subst q9
 have e10:=hfld 10 _ rfl
 rw [List.getElem?_eq_getElem (by omega)] at e10
 obtain ⟨a10,q10,_⟩:=DataW.trod_bool Tryz.underlying4 e10
 simp [c11_bool] at q10
 subst q10
 exact ⟨⟨a0,a1,a2,a3,a4,a5,a6,a7,a8,a9,a10⟩,rfl,w0,w1,w2,w3,w4,w5,w6,w7,w8,w9⟩
theorem open_conns (h:DataW.trod enc Tryz.prog w base spare held fuel 63 cs=some x):∃ (a:Option Addr) (len cap:Nat) (xs:List ConnV),cs=[.slice a len cap]∧xs.length=len∧len≤cap∧cap≤maxLen∧(a=none→cap=0)∧Rw CnR 11 w a xs :=
 rows_of CnR 11 Tryz.underlying63 c11_Conn (by omega) (fun _ _ _ h=>open_conn h) h
end OpnC
structure GtV where
 ip:Int
 b:Int
 gt:Int
 gm:ByteArray
 wm:ByteArray
 rs:Int
 ps:List PlaceV
 ros:List RoleV
 us:List UserV
 ss:List SessV
 fs:List FailV
 es:List RecV
 nx:Int
 fl:List FlowV
 co:List ConnV
 nw:Int
 dr:Int
 sn:Int
structure GtA where
 (x y ua sa fa ra la ca:Option Addr)
 (xc yc uc sc fc rc lc cc:Nat)
def gtC (A:GtA) (g:GtV):List Value:=[.int .i64 g.ip,.int .i64 g.b,.int .i64 g.gt,.string g.gm,.string g.wm,.int .i64 g.rs,.slice A.x g.ps.length A.xc,.slice A.y g.ros.length A.yc,.slice A.ua g.us.length A.uc,.slice A.sa g.ss.length A.sc,.slice A.fa g.fs.length A.fc,.slice A.ra g.es.length A.rc,.int .i64 g.nx,.slice A.la g.fl.length A.lc,.slice A.ca g.co.length A.cc,.int .i64 g.nw,.int .i64 g.dr,.int .i64 g.sn]
structure GtR (w:World) (A:GtA) (g:GtV):Prop where
 ps:Rw PlR 4 w A.x g.ps
 ros:Rw (RoR 0) 5 w A.y g.ros
 us:Rw UsR 6 w A.ua g.us
 ss:Rw SeR 10 w A.sa g.ss
 fs:Rw FaR 3 w A.fa g.fs
 es:Rw ReR 5 w A.ra g.es
 fl:Rw FlR 9 w A.la g.fl
 co:Rw CnR 11 w A.ca g.co
 kl:g.fl.length≤A.lc
 kc:g.co.length≤A.cc
theorem GtR.below {w w':World} {A:GtA} {g:GtV} (h:GtR w A g) (hb:Below w.heap.size w w'):GtR w' A g:=⟨h.ps.keep PlR.kp hb,h.ros.keep (RoR.kp 0) hb,h.us.keep UsR.kp hb,h.ss.keep SeR.kp hb,h.fs.keep FaR.kp hb,h.es.keep ReR.kp hb,h.fl.keep FR.kp hb,h.co.keep FR.kp hb,h.kl,h.kc⟩
structure GtB (A:GtA) (g:GtV):Prop where
 gm:g.gm.size≤maxLen
 wm:g.wm.size≤maxLen
 ps:g.ps.length≤A.xc∧A.xc≤maxLen
 ros:g.ros.length≤A.yc∧A.yc≤maxLen
 us:g.us.length≤A.uc∧A.uc≤maxLen
 ss:g.ss.length≤A.sc∧A.sc≤maxLen
 fs:g.fs.length≤A.fc∧A.fc≤maxLen
 es:g.es.length≤A.rc∧A.rc≤maxLen
 fl:g.fl.length≤A.lc∧A.lc≤maxLen
 co:g.co.length≤A.cc∧A.cc≤maxLen
 nx:(Lit.int .i64 g.nx).wf=true
 nw:(Lit.int .i64 g.nw).wf=true
 dr:(Lit.int .i64 g.dr).wf=true
 sn:(Lit.int .i64 g.sn).wf=true
section OpnT
variable {H:Type} {enc:TypeId × Value→H} {w:World} {base:Nat} {spare:Nat→Bool} {held:Bool} {fuel:Nat} {cs:List Value} {x:DataW H × List MemPlace}
theorem gis18 {α:Type} {cs:List α} (h:cs.length=18):∃ c0 c1 c2 c3 c4 c5 c6 c7 c8 c9 c10 c11 c12 c13 c14 c15 c16 c17,cs=[c0,c1,c2,c3,c4,c5,c6,c7,c8,c9,c10,c11,c12,c13,c14,c15,c16,c17]:=by
 match cs,h with
 | [c0,c1,c2,c3,c4,c5,c6,c7,c8,c9,c10,c11,c12,c13,c14,c15,c16,c17],_=>exact ⟨c0,c1,c2,c3,c4,c5,c6,c7,c8,c9,c10,c11,c12,c13,c14,c15,c16,c17,rfl⟩
theorem t18_Gateway:Tryz.prog.cellsOf 65=18:=by kernel_rfl
theorem t18_Config:Tryz.prog.cellsOf 27=8:=by kernel_rfl
theorem t18_Guests:Tryz.prog.cellsOf 33=5:=by kernel_rfl
theorem t18_Flows:Tryz.prog.cellsOf 62=1:=by kernel_rfl
theorem t18_Conns:Tryz.prog.cellsOf 63=1:=by kernel_rfl
theorem t18_int:Tryz.prog.cellsOf 3=1:=by kernel_rfl
theorem open_gateway (h:DataW.trod enc Tryz.prog w base spare held fuel 65 cs=some x):∃ (A:GtA) (g:GtV),cs=gtC A g∧GtR w A g∧GtB A g:=by
 obtain ⟨xs,m,_,_,hcl,hlen,hfld⟩:=DataW.trod_struct Tryz.underlying65 h
 rw [t18_Gateway] at hcl
 obtain ⟨c0,c1,c2,c3,c4,c5,c6,c7,c8,c9,c10,c11,c12,c13,c14,c15,c16,c17,rfl⟩:=gis18 hcl
 replace hlen:xs.length=7:=hlen
 have e0:=hfld 0 _ rfl
 rw [List.getElem?_eq_getElem (by omega)] at e0
 obtain ⟨ip,b,gt,gm,wm,rs,x,y,lx,xc,ly,yc,ps,ros,q0,wg,ww,⟨l1,lc1,cm1,r1⟩,l2,lc2,cm2,r2⟩:=open_config e0
 simp [t18_Config] at q0
 obtain ⟨rfl,rfl,rfl,rfl,rfl,rfl,rfl,rfl⟩:=q0
 have e1:=hfld 1 _ rfl
 rw [List.getElem?_eq_getElem (by omega)] at e1
 obtain ⟨ua,sa,fa,ra,ul,uc,sl,sc,fl,fc,rl,rc,us,ss,fs,es,nx,q1,⟨l3,lc3,cm3,r3⟩,⟨l4,lc4,cm4,r4⟩,⟨l5,lc5,cm5,r5⟩,⟨l6,lc6,cm6,r6⟩,wnx⟩:=open_guests e1
 simp [t18_Guests] at q1
 obtain ⟨rfl,rfl,rfl,rfl,rfl⟩:=q1
 have e2:=hfld 2 _ rfl
 rw [List.getElem?_eq_getElem (by omega)] at e2
 obtain ⟨la,ll,lc,fl2,q2,l7,lc7,cm7,_,r7⟩:=open_flows e2
 simp [t18_Flows] at q2
 subst q2
 have e3:=hfld 3 _ rfl
 rw [List.getElem?_eq_getElem (by omega)] at e3
 obtain ⟨ca,cl,cc,co,q3,l8,lc8,cm8,_,r8⟩:=open_conns e3
 simp [t18_Conns] at q3
 subst q3
 have e4:=hfld 4 _ rfl
 rw [List.getElem?_eq_getElem (by omega)] at e4
 obtain ⟨nw,q4,_,wnw⟩:=DataW.trod_int Tryz.underlying3 e4
 simp [t18_int] at q4
 subst q4
 have e5:=hfld 5 _ rfl
 rw [List.getElem?_eq_getElem (by omega)] at e5
 obtain ⟨dr,q5,_,wdr⟩:=DataW.trod_int Tryz.underlying3 e5
 simp [t18_int] at q5
 subst q5
 have e6:=hfld 6 _ rfl
 rw [List.getElem?_eq_getElem (by omega)] at e6
 obtain ⟨sn,q6,_,wsn⟩:=DataW.trod_int Tryz.underlying3 e6
 simp [t18_int] at q6
 subst q6
 subst l1 l2 l3 l4 l5 l6 l7 l8
 exact ⟨⟨x,y,ua,sa,fa,ra,la,ca,xc,yc,uc,sc,fc,rc,lc,cc⟩,⟨ip,b,gt,gm,wm,rs,ps,ros,us,ss,fs,es,nx,fl2,co,nw,dr,sn⟩,rfl,⟨r1,r2,r3,r4,r5,r6,r7,r8,lc7,lc8⟩,⟨wg,ww,⟨lc1,cm1⟩,⟨lc2,cm2⟩,⟨lc3,cm3⟩,⟨lc4,cm4⟩,⟨lc5,cm5⟩,⟨lc6,cm6⟩,⟨lc7,cm7⟩,⟨lc8,cm8⟩,wnx,wnw,wdr,wsn⟩⟩
end OpnT
open Go.RowKit Go.PlainAid Go.Sort
def Grw (w w':World):Prop:=∃ q os,w'=grow (w.drewN q) os
theorem Grw.refl (w:World):Grw w w:=⟨0,#[],by rw [grow_empty];rfl⟩
theorem Grw.alloc {w w':World} (h:Grw w w') (o:Obj):Grw w (w'.alloc o):=by
 obtain ⟨q,os,rfl⟩:=h
 exact ⟨q,os ++ #[o],by rw [alloc_eq_grow,grow_grow]⟩
theorem Grw.trans {w w1 w2:World} (h:Grw w w1) (h2:Grw w1 w2):Grw w w2:=by
 obtain ⟨q,os,rfl⟩:=h
 obtain ⟨r,os2,rfl⟩:=h2
 refine ⟨q+r,os ++ os2,?_⟩
 show grow (grow ((w.drewN q).drewN r) os) os2=_
 rw [grow_grow,World.drewN_drewN]
theorem below_grow (w:World) (q:Nat) (os:Array Obj):Below w.heap.size w (grow (w.drewN q) os):=by
 refine ⟨rfl,rfl,rfl,?_,fun k hk=>?_⟩
 ·show w.heap.size≤(w.heap ++ os).size
  rw [Array.size_append];omega
 ·exact heap_grow_old (w.drewN q) os hk
theorem Grw.below {w w':World} (h:Grw w w'):Below w.heap.size w w':=by
 obtain ⟨q,os,rfl⟩:=h
 exact below_grow w q os
theorem grown_cell {w wr:World} {b off:Nat} {v:Value} (hb:b<w.heap.size) (hG:Grw w wr) (h:wr.cell? ⟨b,off,none⟩=some v) (n:Nat) (os:Array Obj):(grow (wr.drewN n) os).cell? ⟨b,off,none⟩=some v :=
 cell_grown (Nat.lt_of_lt_of_le hb hG.below.size) h n os
theorem flatS_tail {α:Type} {c:α→List Value} {K:Nat} (hK:∀ x,(c x).length=K) (xs:List α) (i:Nat) (x y:α) (j:Nat) (hx:xs[i]?=some x) (hj:j≤K) (hy:(c y).take j=(c x).take j):flatS c (xs.set i y)=sets (flatS c xs) (i * K+j) ((c y).drop j):=by
 have hi:=(List.getElem?_eq_some_iff.1 hx).1
 obtain ⟨A,x',C,rfl,rfl⟩:∃ A x C,xs=A ++ x :: C∧A.length=i:=⟨xs.take i,xs[i],xs.drop (i+1),by simp,by simp;omega⟩
 have ex:x'=x:=by simpa using hx
 subst ex
 have e:(A ++ x' :: C).set A.length y=A ++ y :: C:=by simp
 have h1:flatS c (A ++ x' :: C)=(flatS c A ++ (c x').take j) ++ ((c x').drop j ++ flatS c C):=by
  rw [flatS_append,flatS_cons,List.append_assoc,← List.append_assoc (List.take j (c x')),List.take_append_drop]
 have h2:A.length * K+j=(flatS c A ++ (c x').take j).length:=by
  rw [List.length_append,flatS_len hK,List.length_take,hK]
  omega
 rw [e,h1,h2,sets_mid _ _ _ _ (by rw [List.length_drop,List.length_drop,hK,hK]),flatS_append,flatS_cons,← hy]
 rw [List.append_assoc,← List.append_assoc (List.take j (c y)),List.take_append_drop]
theorem OwnS.tail {α:Type} {c:α→List Value} {K:Nat} {e:TypeId} {w:World} {B:Nat} {xs:List α} {g n cap:Nat} (h:OwnS c K e w B (.slice (some ⟨g,0,none⟩) n cap) xs) (hK:∀ x,(c x).length=K) {i j:Nat} {x:α} (y:α) (hx:xs[i]?=some x) (hj:j≤K) (hy:(c y).take j=(c x).take j) :
  OwnS c K e (wsets w g (i * K+j) ((c y).drop j)) B (.slice (some ⟨g,0,none⟩) n cap) (xs.set i y)∧w.grownBy (wsets w g (i * K+j) ((c y).drop j)) (some g):=by
 obtain rfl:=h.len
 have:=owns_sets ((c y).drop j) w _ (i * K+j) h
 refine ⟨?_,this.2⟩
 unfold OwnS
 rw [flatS_tail hK xs i x y j hx hj hy,List.length_set]
 exact this.1
theorem Grw.grown {w w':World} (h:Grw w w') (r:Option Nat):w.grownBy w' r:=by
 have b:=h.below
 obtain ⟨q,os,rfl⟩:=h
 exact ⟨rfl,rfl,rfl,b.size,fun k hk _=>b.block k hk⟩
theorem OwnS.join {α:Type} {c:α→List Value} {K:Nat} {e:TypeId} {w w':World} {B:Nat} {v v':Value} {xs ys:List α} (h:OwnS c K e w B v xs) (hB:B≤w.heap.size) (h1:w'.ownsRow B e K v' (xs.length+ys.length) (flatS c xs ++ flatS c ys)) (h2:w.grownBy w' v.ownBlock) :
  OwnS c K e w' B v' (xs ++ ys)∧Below B w w':=by
 refine ⟨?_,(Below.refl B w).grown h2 hB (fun k hk=>(h.lt k hk).1)⟩
 unfold OwnS
 rw [flatS_append,List.length_append]
 exact h1
end Go.Proofs.YtbeehlhcckndcaaGreat
namespace Go.Proofs.YtbeehlhcckndcaaGreat.Pl
open Go.RowKit Go.PlainAid
set_option linter.unusedVariables false
end Go.Proofs.YtbeehlhcckndcaaGreat.Pl
namespace Go.Proofs.YtbeehlhcckndcaaGreat
open Go.RowKit Go.PlainAid Go.Proofs.YtbeehlhcckndcaaGreat.Pl
set_option linter.unusedVariables false
def Bytes (w:World) (a:Option Addr) (len:Nat) (f:Nat→Int):Prop :=
 (∀ k,0≤f k∧f k≤255)∧(0<len→∃ b off,a=some ⟨b,off,none⟩∧∀ i,i<len→w.cell? ⟨b,off+i,none⟩=some (.int .u8 (f i)))
def strOf (f:Nat→Int) (n:Nat):ByteArray:=strOfNums ((List.range n).map f)
theorem conv_row {P:Program} (w:World) (src dst e:TypeId) (hs:P.underlying src=some (.slice e)) (he:P.underlying e=some (.int .u8)) (hd:P.underlying dst=some .string)
  (a:Option Addr) (len cap:Nat) (f:Nat→Int) (h:Bytes w a len f) :
  (convert src dst (.slice a len cap)).run P w=.ok (.string (strOf f len)) w:=by
 rcases Nat.eq_zero_or_pos len with h0 | h0
 ·subst h0
  have e0:strOf f 0=ByteArray.empty:=by simp [strOf,strOfNums,ByteArray.empty,ByteArray.emptyWithCapacity];rfl
  rw [e0]
  cases a with
  | none=>exact run_convert_bytes_nil w src e hs he 0 cap dst hd
  | some x =>
   rw [run_convert_bytes_string w src dst e _ 0 cap hs he hd]
   exact run_bytesToString w x 0 cap [] (by simpa using run_loadCells_list (P:=P) w x [] (fun j v hj=>by simp at hj))
 ·obtain ⟨b,off,rfl,hc⟩:=h.2 h0
  exact run_convert_bytes_arg w src e hs he b off len cap ((List.range len).map f) (by simp) (fun i hi=>by rw [hc i hi];simp [hi]) dst hd
theorem Bytes.below {B:Nat} {w w':World} {a:Option Addr} {len:Nat} {f:Nat→Int} (h:Bytes w a len f) (hb:Below B w w') (hlt:∀ b off,0<len→a=some ⟨b,off,none⟩→b<B):Bytes w' a len f:=by
 refine ⟨h.1,fun h0=>?_⟩
 obtain ⟨b,off,rfl,hc⟩:=h.2 h0
 exact ⟨b,off,rfl,fun i hi=>by rw [hb.cell (p:=⟨b,off+i,none⟩) (hlt b off h0 rfl)];exact hc i hi⟩
open Go.RowKit Go.PlainAid
def Fill (w wr:World) (len k:Nat) (f:Nat→Int):Prop :=
 Below w.heap.size w wr∧w.heap.size<wr.heap.size∧(∀ i,wr.frozen? ⟨w.heap.size,i,none⟩=false)∧(∀ i,i<len→∃ v,wr.cell? ⟨w.heap.size,i,none⟩=some v)∧∀ i,i<k→wr.cell? ⟨w.heap.size,i,none⟩=some (.int .u8 (f i))
theorem Fill.bytes {w wr:World} {len:Nat} {f:Nat→Int} (h:Fill w wr len len f) (hf:∀ k,0≤f k∧f k≤255):Bytes wr (some ⟨w.heap.size,0,none⟩) len f :=
 ⟨hf,fun _=>⟨w.heap.size,0,rfl,fun i hi=>by rw [Nat.zero_add];exact h.2.2.2.2 i hi⟩⟩
def OwnL (e:TypeId) (w:World) (B:Nat) (v:Value) (L:List Int):Prop:=w.ownsRow B e 1 v L.length (L.map (Value.int .u8))
theorem OwnL.slice {e:TypeId} {w:World} {B:Nat} {v:Value} {L:List Int} (h:OwnL e w B v L) (hL:∀ x ∈ L,0≤x∧x≤255) :
  ∃ a cap,v=.slice a L.length cap∧Bytes w a L.length (fun j=>L.getD j 0)∧∀ b off,a=some ⟨b,off,none⟩→B≤b:=by
 have hf:∀ k,0≤L.getD k 0∧L.getD k 0≤255:=by
  intro k
  by_cases hk:k<L.length
  ·rw [List.getD_eq_getElem?_getD,List.getElem?_eq_getElem hk];exact hL _ (List.getElem_mem hk)
  ·rw [List.getD_eq_getElem?_getD,List.getElem?_eq_none (by omega)];simp
 rcases h.2 with ⟨h1,h2⟩ | ⟨g,cap,cur,h1,hB,hg,hle,hm,hs,ht⟩
 ·have e0:L=[]:=by simpa using h2
  subst e0
  exact ⟨none,0,by simpa using h1,⟨hf,fun h0=>absurd h0 (by simp)⟩,fun b off h=>by cases h⟩
 ·refine ⟨some ⟨g,0,none⟩,cap,by simpa using h1,⟨hf,fun h0=>⟨g,0,rfl,fun i hi=>?_⟩⟩,fun b off h=>by cases h;exact hB⟩
  have hc:=World.ownsRow.cells h (g:=g) (by rw [h1];rfl) i (.int .u8 (L.getD i 0)) (by simp [hi])
  have ea:(⟨g,0,none⟩:Addr).add i=⟨g,0+i,none⟩:=by unfold Addr.add;split <;> simp_all
  rw [ea] at hc
  exact hc
theorem strOf_list (L:List Int):strOf (fun j=>L.getD j 0) L.length=strOfNums L:=by
 unfold strOf
 congr 1
 apply List.ext_getElem?
 intro i
 by_cases hi:i<L.length
 ·simp [hi]
 ·simp [hi]
theorem conv_own {P:Program} (w:World) (src dst e:TypeId) (hs:P.underlying src=some (.slice e)) (he:P.underlying e=some (.int .u8)) (hd:P.underlying dst=some .string)
  (a:Option Addr) (cap:Nat) (L:List Int) (h:Bytes w a L.length (fun j=>L.getD j 0)) :
  (convert src dst (.slice a L.length cap)).run P w=.ok (.string (strOfNums L)) w:=by
 rw [conv_row w src dst e hs he hd a L.length cap _ h,strOf_list]
theorem conv_bytes {P:Program} (w:World) (src dst e:TypeId) (s:ByteArray) (hs:P.underlying src=some .string) (hd:P.underlying dst=some (.slice e)) (he:P.underlying e=some (.int .u8)) :
  ∃ cap w',(convert src dst (.string s)).run P w=.ok (.slice (some ⟨w.heap.size,0,none⟩) s.size cap) w'∧Below w.heap.size w w'∧w'.heap.size=w.heap.size+1 ∧
   (∀ i,i<s.size→w'.frozen? ⟨w.heap.size,i,none⟩=false)∧∀ i,i<s.size→w'.cell? ⟨w.heap.size,i,none⟩=some (.int .u8 (bt s i)):=by
 refine ⟨_,_,Go.Lib.run_convert_string_bytes w src dst e s hs hd he,⟨rfl,rfl,rfl,?_,?_⟩,Go.Lib.bytesWorld_size w e s,?_,?_⟩
 ·rw [Go.Lib.bytesWorld_size];omega
 ·intro k hk;exact Go.Lib.bytesWorld_at_old w e s k hk
 ·intro i hi
  have hb:=Go.Lib.bytesWorld_at_new w e s
  have hz:s.size≤(Go.Lib.bytesCells w e s).size:=by simp [Go.Lib.bytesCells]
  simp [World.frozen?,hb]
  omega
 ·intro i hi
  rw [Go.Lib.bytesWorld_cell w e s i hi]
  have:(s.data.toList.getD i 0)=s[i]:=by
   have hi':i<s.data.size:=hi
   rw [List.getD_eq_getElem?_getD,List.getElem?_eq_getElem (by simpa using hi')];rfl
  rw [this,get_bt s i hi]
set_option maxRecDepth 20000
theorem strOfNums_append (L M:List Int):strOfNums L ++ strOfNums M=strOfNums (L ++ M):=by
 apply ByteArray.ext
 simp [strOfNums,ByteArray.data_append]
theorem conv_one (wx:World) (b:Nat) (x:Int) (h0:0≤x) (h1:x≤255) (hb:wx.cell? ⟨b,0,none⟩=some (.int .u8 x)):(convert 203 9 (.slice (some ⟨b,0,none⟩) 1 1)).run Tryz.prog wx=.ok (.string (strOfNums [x])) wx:=by
 have hB:Bytes wx (some ⟨b,0,none⟩) [x].length (fun j=>[x].getD j 0):=by
  refine ⟨fun k=>?_,fun _=>⟨b,0,rfl,fun i hi=>?_⟩⟩
  ·rcases k with _ | k <;> simp <;> omega
  ·obtain rfl:i=0:=by simpa using hi
   simpa using hb
 exact conv_own (P:=Tryz.prog) wx 203 9 5 Tryz.underlying203 Tryz.underlying5 Tryz.underlying9 (some ⟨b,0,none⟩) 1 [x] hB
end Go.Proofs.YtbeehlhcckndcaaGreat
namespace Go.Proofs.YtbeehlhcckndcaaGreat.Bt
open Go.RowKit
set_option linter.unusedVariables false
theorem ofInt_i64 (a:Nat) (ha:a<9223372036854775808):(BitVec.ofInt 64 (a:Int)).toNat=a:=by
 rw [BitVec.ofInt_natCast,BitVec.toNat_ofNat];exact Nat.mod_eq_of_lt (by omega)
theorem and_nat (a b:Nat) (ha:a<9223372036854775808) (hb:b<9223372036854775808):bits .and .i64 (a:Int) (b:Int)=((a &&& b:Nat):Int):=by
 have hx:a &&& b<2 ^ 63:=Nat.and_lt_two_pow _ (by omega)
 show IntKind.i64.wrap ((BitVec.ofInt 64 (a:Int) &&& BitVec.ofInt 64 (b:Int)).toNat:Int)=_
 rw [BitVec.toNat_and,ofInt_i64 a ha,ofInt_i64 b hb,IntKind.wrap_i64]
 omega
theorem or_nat (a b:Nat) (ha:a<9223372036854775808) (hb:b<9223372036854775808):bits .or .i64 (a:Int) (b:Int)=((a ||| b:Nat):Int):=by
 have hx:a ||| b<2 ^ 63:=Nat.or_lt_two_pow (by omega) (by omega)
 show IntKind.i64.wrap ((BitVec.ofInt 64 (a:Int) ||| BitVec.ofInt 64 (b:Int)).toNat:Int)=_
 rw [BitVec.toNat_or,ofInt_i64 a ha,ofInt_i64 b hb,IntKind.wrap_i64]
 omega
theorem mask (i:Nat) (hi:i<63) (n:Int) (h0:0≤n) (h1:n≤9223372036854775807):bits BinOp.and IntKind.i64 n ((2 ^ i - 1:Nat):Int)=n % ((2 ^ i:Nat):Int):=by
 obtain ⟨m,rfl⟩:=Int.eq_ofNat_of_zero_le h0
 have hp:2 ^ i≤2 ^ 62:=Nat.pow_le_pow_right (by omega) (by omega)
 rw [and_nat m (2 ^ i - 1) (by omega) (by omega),Nat.and_two_pow_sub_one_eq_mod]
 omega
theorem join8 (x y:Int) (h0:0≤x) (h1:x≤36028797018963967) (h2:0≤y) (h3:y≤255):bits BinOp.or IntKind.i64 (x * 256) y=x * 256+y:=by
 obtain ⟨a,rfl⟩:=Int.eq_ofNat_of_zero_le h0
 obtain ⟨b,rfl⟩:=Int.eq_ofNat_of_zero_le h2
 have e:((a:Int) * 256)=((a * 256:Nat):Int):=by omega
 rw [e,or_nat (a * 256) b (by omega) (by omega),nat_join 8 (a * 256) b (by omega) (by omega)]
 omega
end Go.Proofs.YtbeehlhcckndcaaGreat.Bt
namespace Go.Proofs.YtbeehlhcckndcaaGreat
open Go.RowKit Go.PlainAid
set_option linter.unusedVariables false
theorem hasRoom_y (n:Int) (m:Nat) (w:World) (h1:1≤m) (h6:m≤6) (hn:0≤n) (hr:n<2 ^ (8 * m)) (hx:n≤9223372036854775807) :
  Calls Tryz.prog 208 #[.int .i64 n,.int .i64 m] w fun e w'=>e=.returned (.bool true)∧w'=w:=by
 have b3:decide (0≤n)=true:=by simp;omega
 have b4:(n / 2 ^ (8 * m) == 0)=true:=by simp;exact Int.ediv_eq_zero_of_lt hn hr
 clear hr
 go_enter Tryz.func208,Tryz.ntmps208
 go_wp2
 go_ret
 exact ⟨rfl,rfl⟩
theorem hasRoom_n (n:Int) (m:Nat) (w:World) (h1:1≤m) (h6:m≤6) (h:n<0 ∨ 2 ^ (8 * m)≤n) (hx:n≤9223372036854775807) :
  Calls Tryz.prog 208 #[.int .i64 n,.int .i64 m] w fun e w'=>e=.returned (.bool false)∧w'=w:=by
 by_cases h0:n<0
 ·have b3:decide (0≤n)=false:=by simp;omega
  clear h
  go_enter Tryz.func208,Tryz.ntmps208
  go_wp2
  go_ret
  exact ⟨rfl,rfl⟩
 ·have b3:decide (0≤n)=true:=by simp;omega
  have hp:(0:Int)<2 ^ (8 * m):=Int.pow_pos (by omega)
  have hq:1≤n / 2 ^ (8 * m):=by rw [Int.le_ediv_iff_mul_le hp];omega
  have b4:(n / 2 ^ (8 * m) == 0)=false:=by rw [beq_eq_false_iff_ne];omega
  clear h hp hq
  go_enter Tryz.func208,Tryz.ntmps208
  go_wp2
  go_ret
  exact ⟨rfl,rfl⟩
theorem addressOK_y (n:Int) (w:World) (h0:0≤n) (h1:n≤4294967295) :
  Calls Tryz.prog 161 #[.int .i64 n] w fun e w'=>e=.returned (.bool true)∧w'=w:=by
 go_enter Tryz.func161,Tryz.ntmps161
 go_wp2
 go_ret
 exact ⟨congrArg (fun b=>Ending.returned (.bool b)) (by simp),rfl⟩
theorem addressOK_n (n:Int) (w:World) (h:¬ (0≤n∧n≤4294967295)) :
  Calls Tryz.prog 161 #[.int .i64 n] w fun e w'=>e=.returned (.bool false)∧w'=w:=by
 by_cases h0:0≤n
 ·have h2:¬ n≤4294967295:=fun hh=>h ⟨h0,hh⟩
  clear h
  go_enter Tryz.func161,Tryz.ntmps161
  go_wp2
  go_ret
  exact ⟨congrArg (fun b=>Ending.returned (.bool b)) (by simp),rfl⟩
 ·clear h
  have b:decide (0≤n)=false:=by simp;omega
  go_enter Tryz.func161,Tryz.ntmps161
  go_wp2
  go_ret
  exact ⟨rfl,rfl⟩
set_option maxRecDepth 20000
def numOf (f:Nat→Int):Nat→Int
 | 0=>0
 | k+1=>numOf f k * 256+f k
theorem numOf_bd (f:Nat→Int) (h:∀ k,0≤f k∧f k≤255):∀ k:Nat,0≤numOf f k∧numOf f k≤256 ^ k - 1
 | 0=>by simp [numOf]
 | k+1=>by
  have:=numOf_bd f h k
  have:=h k
  have e:(256:Int) ^ (k+1)=256 ^ k * 256:=Int.pow_succ ..
  rw [e]
  unfold numOf
  omega
theorem numOf_le5 (f:Nat→Int) (h:∀ k,0≤f k∧f k≤255) (k:Nat) (hk:k≤5):0≤numOf f k∧numOf f k≤1099511627775:=by
 have:=numOf_bd f h k
 match k,hk with
 | 0,_ | 1,_ | 2,_ | 3,_ | 4,_ | 5,_=>simp at this;omega
theorem l01In_any (n lo hi:Int) (w:World):Calls Tryz.prog 74 #[.int .i64 n,.int .i64 lo,.int .i64 hi] w fun e w'=>e=.returned (.bool (decide (lo≤n∧n≤hi)))∧w'=w:=by
 by_cases h1:lo≤n
 ·by_cases h2:n≤hi
  ·go_enter Tryz.func74,Tryz.ntmps74
   go_wp2
   go_ret
   exact ⟨congrArg (fun b=>Ending.returned (.bool b)) (by simp [h1,h2]),rfl⟩
  ·go_enter Tryz.func74,Tryz.ntmps74
   go_wp2
   go_ret
   exact ⟨congrArg (fun b=>Ending.returned (.bool b)) (by simp [h2]),rfl⟩
 ·have h1':decide (lo≤n)=false:=by simp;omega
  go_enter Tryz.func74,Tryz.ntmps74
  go_wp2
  go_ret
  exact ⟨congrArg (fun b=>Ending.returned (.bool b)) (by simp),rfl⟩
set_option maxHeartbeats 400000 in
theorem numberOf_yes (a:Option Addr) (len cap:Nat) (f:Nat→Int) (w:World) (h:Bytes w a len f) (h1:1≤len) (h6:len≤6) :
  Calls Tryz.prog 172 #[.slice a len cap] w fun e w'=>e=.returned (.tuple #[.int .i64 (numOf f len),.int .i64 0])∧w'=w:=by
 have b1:decide ((len:Int)<1)=false:=by simp;omega
 have b2:decide (6<(len:Int))=false:=by simp;omega
 go_enter Tryz.func172,Tryz.ntmps172
 go_wp2
 go_loop [4,19] (fun n i=>∃ k:Nat,k≤len∧i=.int .i64 k∧n=.int .i64 (numOf f k)) (fun _ i=>len - (intOf i).toNat)
 case atStart=>exact ⟨0,Nat.zero_le _,rfl,rfl⟩
 case round =>
  obtain ⟨k,hk,rfl,rfl⟩:=hrel
  have h0:=(h.1 k).1
  have hx:=(h.1 k).2
  by_cases hlt:k<len
  ·have hbd:=numOf_le5 f h.1 k (by omega)
   obtain ⟨b,off,rfl,hc⟩:=h.2 (by omega)
   have hck:=hc k hlt
   have hj:=Bt.join8 (numOf f k) (f k) hbd.1 (by omega) h0 hx
   clear hc
   go_wp2
   go_round
   case rel=>exact ⟨k+1,by omega,by go_num,rfl⟩
   case measure=>simp [intOf];omega
  ·obtain rfl:k=len:=by omega
   go_wp2
   go_ret2
   exact ⟨rfl,rfl⟩
def dec (p:Prop) [Decidable p]:Bool:=decide p
theorem dec_y {p:Prop} [Decidable p] (h:p):dec p=true:=decide_eq_true h
theorem dec_n {p:Prop} [Decidable p] (h:¬ p):dec p=false:=decide_eq_false h
theorem hasRoom_any (n:Int) (m:Nat) (M:Int) (w:World) (h1:1≤m) (h6:m≤6) (hM:(2:Int) ^ (8 * m)=M+1) (hx:n≤9223372036854775807) :
  Calls Tryz.prog 208 #[.int .i64 n,.int .i64 m] w fun e w'=>e=.returned (.bool (dec (0≤n∧n≤M)))∧w'=w:=by
 by_cases h:0≤n∧n≤M
 ·exact (hasRoom_y n m w h1 h6 h.1 (by rw [hM];omega) hx).mono fun e w' hh=>⟨by rw [dec_y h];exact hh.1,hh.2⟩
 ·exact (hasRoom_n n m w h1 h6 (by rw [hM];omega) hx).mono fun e w' hh=>⟨by rw [dec_n h];exact hh.1,hh.2⟩
theorem hasRoom1 (n:Int) (w:World) (hx:n≤9223372036854775807):Calls Tryz.prog 208 #[.int .i64 n,.int .i64 1] w fun e w'=>e=.returned (.bool (dec (0≤n∧n≤255)))∧w'=w :=
 hasRoom_any n 1 255 w (by omega) (by omega) rfl hx
theorem hasRoom2 (n:Int) (w:World) (hx:n≤9223372036854775807):Calls Tryz.prog 208 #[.int .i64 n,.int .i64 2] w fun e w'=>e=.returned (.bool (dec (0≤n∧n≤65535)))∧w'=w :=
 hasRoom_any n 2 65535 w (by omega) (by omega) rfl hx
theorem addressOK_any (n:Int) (w:World):Calls Tryz.prog 161 #[.int .i64 n] w fun e w'=>e=.returned (.bool (dec (0≤n∧n≤4294967295)))∧w'=w:=by
 by_cases h:0≤n∧n≤4294967295
 ·exact (addressOK_y n w h.1 h.2).mono fun e w' hh=>⟨by rw [dec_y h];exact hh.1,hh.2⟩
 ·exact (addressOK_n n w h).mono fun e w' hh=>⟨by rw [dec_n h];exact hh.1,hh.2⟩
theorem portOK_any (n:Int) (w:World) (hx:n≤9223372036854775807):Calls Tryz.prog 195 #[.int .i64 n] w fun e w'=>e=.returned (.bool (dec (0≤n∧n≤65535)))∧w'=w:=by
 go_enter Tryz.func195,Tryz.ntmps195
 go_wp2_with fail
 refine (hasRoom2 _ _ hx).mono ?_
 rintro e w1 ⟨rfl,hw1⟩
 obtain rfl:=hw1.symm
 clear hw1
 go_wp2
 go_ret
 exact ⟨rfl,rfl⟩
theorem specIn_any (n lo hi:Int) (w:World):Calls Tryz.prog 74 #[.int .i64 n,.int .i64 lo,.int .i64 hi] w fun e w'=>e=.returned (.bool (dec (lo≤n∧n≤hi)))∧w'=w:=l01In_any n lo hi w
theorem specIp_any (n:Int) (w:World):Calls Tryz.prog 63 #[.int .i64 n] w fun e w'=>e=.returned (.bool (dec (0≤n∧n≤4294967295)))∧w'=w:=by
 go_enter Tryz.func63,Tryz.ntmps63
 go_wp2_with fail
 refine (specIn_any _ _ _ _).mono ?_
 rintro e w1 ⟨rfl,hw1⟩
 obtain rfl:=hw1.symm
 clear hw1
 go_wp2
 go_ret
 exact ⟨rfl,rfl⟩
theorem specPort_any (n:Int) (w:World):Calls Tryz.prog 177 #[.int .i64 n] w fun e w'=>e=.returned (.bool (dec (0≤n∧n≤65535)))∧w'=w:=by
 go_enter Tryz.func177,Tryz.ntmps177
 go_wp2_with fail
 refine (specIn_any _ _ _ _).mono ?_
 rintro e w1 ⟨rfl,hw1⟩
 obtain rfl:=hw1.symm
 clear hw1
 go_wp2
 go_ret
 exact ⟨rfl,rfl⟩
open Go.RowKit Go.PlainAid Go.Proofs.YtbeehlhcckndcaaGreat.Bt Go.Sort
def mtF (k:Nat) (L:List Int):List Int:=if h:k=0 then L else mtF (k / 10) ((48+((k % 10:Nat):Int)) :: L)
termination_by k
decreasing_by omega
theorem mtF_zero (L:List Int):mtF 0 L=L:=by rw [mtF,dif_pos rfl]
theorem mtF_step {k:Nat} (h:0<k) (L:List Int):mtF k L=mtF (k / 10) ((48+((k % 10:Nat):Int)) :: L):=by rw [mtF,dif_neg (by omega)]
def mtS (k:Nat):ByteArray:=strOfNums [109] ++ strOfNums (mtF k [])
theorem m_lit:(⟨#[109]⟩:ByteArray)=strOfNums [109]:=by
 apply ByteArray.ext
 simp [strOfNums]
set_option maxHeartbeats 1000000 in
theorem markText_any (n:Nat) (w:World) (h0:0<n) (hn:n≤1000000000000) :
  Calls Tryz.prog 105 #[.int .i64 n] w fun e w'=>e=.returned (.string (mtS n))∧Grw w w':=by
 have hpos:decide ((n:Int)≤0)=false:=by simp;omega
 go_enter Tryz.func105,Tryz.ntmps105
 go_wp2
 go_loopw [0,3] (fun p q wr=>∃ (k:Nat) (L:List Int),k≤n∧p=.int .i64 k∧q=.string (strOfNums L)∧Hid (mtF k L=mtF n []∧k<10 ^ (20 - L.length)∧L.length≤20)∧Hid (Grw w wr)) (fun p _ _=>(intOf p).toNat)
 case atStart=>exact ⟨n,[],Nat.le_refl _,rfl,rfl,⟨rfl,by simp;omega,by simp⟩,Grw.refl _⟩
 case round =>
  obtain ⟨k,L,hk,rfl,rfl,HM,HG⟩:=hrel
  by_cases hlt:0<k
  ·have hltz:(0:Int)<(k:Int):=by omega
   have hL:L.length+1≤20:=by
    have h1:=HM.out.2.1
    have h2:=HM.out.2.2
    by_cases h3:L.length=20
    ·rw [h3] at h1
     simp at h1
     omega
    ·omega
   have HM2:Hid (mtF (k / 10) ((48+(k:Int) % 10) :: L)=mtF n []∧k / 10<10 ^ (20 - (((48+(k:Int) % 10) :: L)).length)∧(((48+(k:Int) % 10) :: L)).length≤20):=by
    have e:((k % 10:Nat):Int)=(k:Int) % 10:=by omega
    refine ⟨by rw [← e,← mtF_step hlt];exact HM.out.1,?_,by simpa using hL⟩
    rw [Nat.div_lt_iff_lt_mul (by omega),List.length_cons]
    have:=HM.out.2.1
    rw [show 20 - L.length=(20 - (L.length+1))+1 by omega,Nat.pow_succ] at this
    exact this
   have hcv:∀ (wx:World) (b:Nat),wx.cell? ⟨b,0,none⟩=some (.int .u8 (48+(k:Int) % 10))→(convert 203 9 (.slice (some ⟨b,0,none⟩) 1 1)).run Tryz.prog wx=.ok (.string (strOfNums [48+(k:Int) % 10])) wx:=fun wx b hb=>conv_one wx b _ (by omega) (by omega) hb
   have hcv1:=hcv (wr.alloc (.cells #[.int .u8 (48+(k:Int) % 10)] 5)) wr.heap.size (by simp)
   have hadd:∀ wx:World,(Op.stringOp .add (strOfNums [48+(k:Int) % 10]) (strOfNums L)).run Tryz.prog wx=.ok (.string (strOfNums [48+(k:Int) % 10] ++ strOfNums L)) wx:=fun wx=>run_string_add_sum (P:=Tryz.prog) (w:=wx) _ _ (by
    rw [strOfNums_size,strOfNums_size]
    simp;omega)
   rw [strOfNums_append] at hadd
   have hadd':∀ wx:World,(Op.stringOp .add (strOfNums [48+(k:Int) % 10]) (strOfNums L)).run Tryz.prog wx=.ok (.string (strOfNums ((48+(k:Int) % 10) :: L))) wx:=hadd
   have hw1:IntKind.i64.wrap ((k:Int) / 10)=(k:Int) / 10:=by rw [IntKind.wrap_i64];omega
   have htm:(k:Int).tmod 10=(k:Int) % 10:=Int.tmod_eq_emod_of_nonneg (by omega)
   have htd:(k:Int).tdiv 10=(k:Int) / 10:=Int.tdiv_eq_ediv_of_nonneg (by omega)
   have hw2:IntKind.i64.wrap ((k:Int) % 10)=(k:Int) % 10:=by rw [IntKind.wrap_i64];omega
   have hw3:IntKind.i64.wrap (48+(k:Int) % 10)=48+(k:Int) % 10:=by rw [IntKind.wrap_i64];omega
   have hw4:IntKind.u8.wrap (48+(k:Int) % 10)=48+(k:Int) % 10:=by rw [IntKind.wrap_u8];omega
   have HG2:Hid (Grw w (wr.alloc (.cells #[.int .u8 (48+(k:Int) % 10)] 5))):=HG.out.alloc _
   have hdv:Hid ((k:Int) / 10=((k / 10:Nat):Int)):=by show _=_;omega
   have hk2:Hid (k / 10<k):=Nat.div_lt_self hlt (by omega)
   generalize ((48+(k:Int) % 10) :: L)=L2 at HM2 hadd'
   clear hadd HM HG
   go_wp2
   go_roundw
   case rel=>exact ⟨k / 10,L2,by omega,by rw [hdv.out],rfl,HM2,HG2⟩
   case measure=>simp [intOf];omega
  ·obtain rfl:k=0:=by omega
   have e0:=HM.out.1
   rw [mtF_zero] at e0
   have E:Hid (mtS n=strOfNums [109] ++ strOfNums L):=by
    show mtS n=_
    unfold mtS
    rw [e0]
   have hadd:∀ wx:World,(Op.stringOp .add (⟨#[109]⟩:ByteArray) (strOfNums L)).run Tryz.prog wx=.ok (.string (strOfNums [109] ++ strOfNums L)) wx:=fun wx=>by
    rw [m_lit]
    exact run_string_add_sum (P:=Tryz.prog) (w:=wx) _ _ (by
     have:=HM.out.2.2
     rw [strOfNums_size,strOfNums_size]
     simp;omega)
   generalize strOfNums [109] ++ strOfNums L=R at E hadd
   clear e0 HM
   go_wp2
   go_ret
   exact ⟨by rw [E.out];rfl,HG.out⟩
theorem mtS_len (k:Nat) (h:k≤1000000000000):(mtS k).size≤1000:=by
 have:∀ (m k:Nat) (L:List Int),k<10 ^ m→(mtF k L).length≤L.length+m:=by
  intro m
  induction m with
  | zero=>intro k L h;simp at h;subst h;rw [mtF_zero];omega
  | succ m ih =>
   intro k L h
   by_cases h0:k=0
   ·subst h0;rw [mtF_zero];omega
   ·rw [mtF_step (by omega)]
    have:=ih (k / 10) ((48+((k % 10:Nat):Int)) :: L) (by rw [Nat.div_lt_iff_lt_mul (by omega)];rw [Nat.pow_succ] at h;exact h)
    rw [List.length_cons] at this
    omega
 have h1:=this 13 k [] (by omega)
 unfold mtS
 simp [ByteArray.size_append,strOfNums_size] at h1 ⊢
 omega
theorem int_wf9 {n:Int} (h0:0≤n) (h1:n≤1000000000000):(Lit.int .i64 n).wf=true:=by
 have:IntKind.i64.min=-9223372036854775808:=by decide
 have:IntKind.i64.max=9223372036854775807:=by decide
 simp [Lit.wf]
 omega
theorem Grw.keep {w w':World} (h:Grw w w') {a:Addr} {v:Value} (hc:w.cell? a=some v):w'.cell? a=some v:=by
 rw [h.below.cell (World.block_lt_of_cell? w a hc)];exact hc
theorem bkeep {w w':World} (h:Below w.heap.size w w') {a:Addr} {v:Value} (hc:w.cell? a=some v):w'.cell? a=some v:=by
 rw [h.cell (World.block_lt_of_cell? w a hc)];exact hc
theorem acell {w:World} {a:Addr} {v:Value} (h:w.cell? a=some v) (o:Obj):(w.alloc o).cell? a=some v:=bkeep ((Below.refl _ _).alloc (Nat.le_refl _) o) h
theorem bthaw {w w':World} (h:Below w.heap.size w w') {a:Addr} {v:Value} (hc:w.cell? a=some v) (hf:w.frozen? a=false):w'.frozen? a=false:=by
 rw [h.frozen (World.block_lt_of_cell? w a hc)];exact hf
def PlRok (r:PlaceV):Prop:=r.lo≤9223372036854775807∧r.hi≤9223372036854775807
def RuRok (r:RuleV):Prop:=r.lo≤9223372036854775807∧r.hi≤9223372036854775807
theorem pv_len (u:PlaceV):(pv u).length=4:=rfl
theorem rv_len (u:RuleV):(rv u).length=6:=rfl
def mkPlace (M:Nat):PlaceV:=⟨(M:Int),(M:Int)+1,(M:Int)+1+1,(M:Int)+1+1+1⟩
def mkPlaceL (m0 n:Nat):List PlaceV:=(List.range n).map (fun k=>mkPlace (m0+4 * k))
theorem mkPlaceL_len (m0 n:Nat):(mkPlaceL m0 n).length=n:=by simp [mkPlaceL]
theorem mkPlaceL_at (m0 n i:Nat) (h:i<n):(mkPlaceL m0 n)[i]?=some (mkPlace (m0+4 * i)):=by rw [mkPlaceL,List.getElem?_map,List.getElem?_range h];rfl
theorem mkPlace_ok (M:Nat) (h:M+4≤1000000000000):PlRok (mkPlace M):=by
 unfold PlRok mkPlace
 dsimp only
 exact ⟨by omega,by omega⟩
theorem mkPlaceL_ok (m0 n:Nat) (h:m0+4 * n≤1000000000000):∀ x,x ∈ mkPlaceL m0 n→PlRok x:=by
 intro x hx
 unfold mkPlaceL at hx
 simp at hx
 obtain ⟨i,hi,rfl⟩:=hx
 exact mkPlace_ok _ (by omega)
def mkPlace_0 (x:PlaceV) (M:Nat):PlaceV:={ x with ip:=(M:Int) }
def mkPlace_1 (x:PlaceV) (M:Nat):PlaceV:={ mkPlace_0 x M with b:=(M:Int)+1 }
def mkPlace_2 (x:PlaceV) (M:Nat):PlaceV:={ mkPlace_1 x M with lo:=(M:Int)+1+1 }
def mkPlace_3 (x:PlaceV) (M:Nat):PlaceV:={ mkPlace_2 x M with hi:=(M:Int)+1+1+1 }
set_option maxHeartbeats 4000000 in
theorem markPlaceS_any (a:Option Addr) (n cap B m0:Nat) (L:List PlaceV) (w:World) (h:OwnS pv 4 135 w B (.slice a n cap) L) (h0:0<m0) (hm:m0+4 * n≤100000000000) :
  Calls Tryz.prog 48 #[.slice a n cap,.int .i64 (m0:Int)] w fun e w'=>e=.returned (.int .i64 ((m0+4 * n:Nat):Int))∧OwnS pv 4 135 w' B (.slice a n cap) (mkPlaceL m0 n)∧w.grownBy w' (Value.slice a n cap).ownBlock:=by
 have H:Hid (OwnS pv 4 135 w B (.slice a n cap) L):=h
 have hn:=h.len
 have hlen:n≤100000000000:=by omega
 clear h
 go_enter Tryz.func48,Tryz.ntmps48
 go_wp2
 go_loopw [1,5] (fun m i wr=>∃ (k M:Nat) (L':List PlaceV),k≤n∧i=.int .i64 k∧m=.int .i64 (M:Int)∧Hid (M=m0+4 * k)∧Hid (OwnS pv 4 135 wr B (.slice a n cap) L'∧L'.length=n∧L'.take k=(mkPlaceL m0 n).take k∧w.grownBy wr (Value.slice a n cap).ownBlock)) (fun _ i _=>n - (intOf i).toNat)
 case atStart=>exact ⟨0,m0,L,Nat.zero_le _,rfl,rfl,by show m0=_;omega,H.out,hn,rfl,grown_refl w _⟩
 case round =>
  obtain ⟨k,M,L',hk,rfl,rfl,hM,X⟩:=hrel
  by_cases hlt:k<n
  ·obtain ⟨g,rfl,hBg,hg,-⟩:=X.out.1.form (by rw [X.out.2.1];omega)
   obtain ⟨x,hx⟩:=at_of (k:=k) X.out.2.1 hlt
   have hltz:(k:Int)<(n:Int):=by omega
   have hMz:(M:Int)≤200000000000:=by have:=hM.out;omega
   have hM0:0<M:=by have:=hM.out;omega
   have G0:Hid (w.grownBy wr (some g)):=X.out.2.2.2
   have o0:=X.out.1
   have hT:Hid (L'.length=n∧L'.take k=(mkPlaceL m0 n).take k):=⟨X.out.2.1,X.out.2.2.1⟩
   clear X
   obtain ⟨c0,z0⟩:=o0.cell pv_len (j:=0) hx rfl
   replace c0:wr.cell? ⟨g,k * 4,none⟩=some (.int .i64 x.ip):=c0
   replace z0:wr.frozen? ⟨g,k * 4,none⟩=false:=z0
   obtain ⟨c1,z1⟩:=o0.cell pv_len (j:=1) hx rfl
   obtain ⟨c2,z2⟩:=o0.cell pv_len (j:=2) hx rfl
   obtain ⟨c3,z3⟩:=o0.cell pv_len (j:=3) hx rfl
   have s0:=o0.set1 pv_len (j:=0) (y:=(mkPlace_0 x M)) (u:=.int .i64 ((M:Int))) hx (by omega) rfl
   have hx0:(L'.set k (mkPlace_0 x M))[k]?=some (mkPlace_0 x M):=List.getElem?_set_self (by rw [hT.out.1];exact hlt)
   have s1:=s0.1.set1 pv_len (j:=1) (y:=(mkPlace_1 x M)) (u:=.int .i64 ((M:Int)+1)) hx0 (by omega) rfl
   rw [List.set_set] at s1
   have hx1:(L'.set k (mkPlace_1 x M))[k]?=some (mkPlace_1 x M):=List.getElem?_set_self (by rw [hT.out.1];exact hlt)
   have s2:=s1.1.set1 pv_len (j:=2) (y:=(mkPlace_2 x M)) (u:=.int .i64 ((M:Int)+1+1)) hx1 (by omega) rfl
   rw [List.set_set] at s2
   have hx2:(L'.set k (mkPlace_2 x M))[k]?=some (mkPlace_2 x M):=List.getElem?_set_self (by rw [hT.out.1];exact hlt)
   have s3:=s2.1.set1 pv_len (j:=3) (y:=(mkPlace_3 x M)) (u:=.int .i64 ((M:Int)+1+1+1)) hx2 (by omega) rfl
   rw [List.set_set] at s3
   have hx3:(L'.set k (mkPlace_3 x M))[k]?=some (mkPlace_3 x M):=List.getElem?_set_self (by rw [hT.out.1];exact hlt)
   have Z0:Hid (OwnS pv 4 135 ((((wr.setCell ⟨g,k * 4,none⟩ (.int .i64 ((M:Int)))).setCell ⟨g,k * 4+1,none⟩ (.int .i64 ((M:Int)+1))).setCell ⟨g,k * 4+2,none⟩ (.int .i64 ((M:Int)+1+1))).setCell ⟨g,k * 4+3,none⟩ (.int .i64 ((M:Int)+1+1+1))) B (.slice (some ⟨g,0,none⟩) n cap) (L'.set k (mkPlace_3 x M))∧w.grownBy ((((wr.setCell ⟨g,k * 4,none⟩ (.int .i64 ((M:Int)))).setCell ⟨g,k * 4+1,none⟩ (.int .i64 ((M:Int)+1))).setCell ⟨g,k * 4+2,none⟩ (.int .i64 ((M:Int)+1+1))).setCell ⟨g,k * 4+3,none⟩ (.int .i64 ((M:Int)+1+1+1))) (some g)):=⟨s3.1,(grown_tr (grown_tr (grown_tr (grown_tr G0.out s0.2) s1.2) s2.2) s3.2)⟩
   have hy0:Hid ((L'.set k (mkPlace_3 x M))[k]?=some (mkPlace_3 x M)):=hx3
   clear o0 G0 s0 hx0 s1 hx1 s2 hx2 s3 hx3 hx
   have ePlace:(mkPlace_3 x M)=mkPlace M:=rfl
   rw [ePlace] at Z0
   have YY:Hid (OwnS pv 4 135 ((((wr.setCell ⟨g,k * 4,none⟩ (.int .i64 ((M:Int)))).setCell ⟨g,k * 4+1,none⟩ (.int .i64 ((M:Int)+1))).setCell ⟨g,k * 4+2,none⟩ (.int .i64 ((M:Int)+1+1))).setCell ⟨g,k * 4+3,none⟩ (.int .i64 ((M:Int)+1+1+1))) B (.slice (some ⟨g,0,none⟩) n cap) (L'.set k (mkPlace M))∧(L'.set k (mkPlace M)).length=n∧(L'.set k (mkPlace M)).take (k+1)=(mkPlaceL m0 n).take (k+1)∧w.grownBy ((((wr.setCell ⟨g,k * 4,none⟩ (.int .i64 ((M:Int)))).setCell ⟨g,k * 4+1,none⟩ (.int .i64 ((M:Int)+1))).setCell ⟨g,k * 4+2,none⟩ (.int .i64 ((M:Int)+1+1))).setCell ⟨g,k * 4+3,none⟩ (.int .i64 ((M:Int)+1+1+1))) (some g)):=⟨Z0.out.1,by rw [List.length_set];exact hT.out.1,takeS_set (by rw [hT.out.1,mkPlaceL_len]) (by rw [mkPlaceL_at m0 n k hlt,hM.out]) hT.out.2,Z0.out.2⟩
   clear Z0 hT hy0
   go_wp2
   go_roundw
   case rel=>exact ⟨k+1,M+4,_,by omega,by go_num,by go_num,(show M+4=m0+4 * (k+1) by have:=hM.out;omega),YY⟩
   case measure=>simp [intOf];omega
  ·obtain rfl:k=n:=by omega
   have e1:L'=mkPlaceL m0 k:=by
    have:=X.out.2.2.1
    rwa [List.take_of_length_le (by rw [X.out.2.1];exact Nat.le_refl _),List.take_of_length_le (by rw [mkPlaceL_len];exact Nat.le_refl _)] at this
   subst e1
   have hM2:=hM.out
   subst hM2
   go_wp2
   go_ret
   exact ⟨rfl,X.out.1,X.out.2.2.2⟩
set_option maxHeartbeats 4000000 in
theorem heldPlaceS_any (a:Option Addr) (n cap m0:Nat) (w:World) (h:Rw PlR 4 w a (mkPlaceL m0 n)) (h0:0<m0) (hm:m0+4 * n≤100000000000) :
  Calls Tryz.prog 107 #[.slice a n cap,.int .i64 (m0:Int)] w fun e w'=>e=.returned (.int .i64 ((m0+4 * n:Nat):Int))∧Grw w w':=by
 have H:Hid (Rw PlR 4 w a (mkPlaceL m0 n)):=h
 have hlen:n≤100000000000:=by omega
 clear h
 have hmix:Tryz.prog.follows .mixedOrders=true:=by kernel_rfl
 go_enter Tryz.func107,Tryz.ntmps107
 go_wp2
 go_loopw [1,5] (fun m i wr=>∃ k M:Nat,k≤n∧i=.int .i64 k∧m=.int .i64 (M:Int)∧Hid (M=m0+4 * k)∧Hid (Grw w wr)) (fun _ i _=>n - (intOf i).toNat)
 case atStart=>exact ⟨0,m0,Nat.zero_le _,rfl,rfl,by show m0=_;omega,Grw.refl w⟩
 case round =>
  obtain ⟨k,M,hk,rfl,rfl,hM,HG⟩:=hrel
  by_cases hlt:k<n
  ·obtain ⟨b,off,vs,rfl,hb,hvl,hR,hc⟩:=H.out.at PlR.kp HG.out.below (mkPlaceL_at m0 n k hlt)
   rw [← hM.out] at hR
   obtain ⟨rfl,-⟩:=hR
   have hltz:(k:Int)<(n:Int):=by omega
   have hMz:(M:Int)≤200000000000:=by have:=hM.out;omega
   have hM0:0<M:=by have:=hM.out;omega
   have q0:wr.cell? ⟨b,off+k * 4,none⟩=some (.int .i64 ((M:Int))):=hc 0 _ rfl
   have q1:wr.cell? ⟨b,off+k * 4+1,none⟩=some (.int .i64 ((M:Int)+1)):=hc 1 _ rfl
   have q2:wr.cell? ⟨b,off+k * 4+2,none⟩=some (.int .i64 ((M:Int)+1+1)):=hc 2 _ rfl
   have q3:wr.cell? ⟨b,off+k * 4+3,none⟩=some (.int .i64 ((M:Int)+1+1+1)):=hc 3 _ rfl
   clear hc hvl
   have e0:(((M:Int)) != ((M:Int)))=false:=by simp
   have e1:(((M:Int)+1) != ((M:Int)+1))=false:=by simp
   have e2:(((M:Int)+1+1) != ((M:Int)+1+1))=false:=by simp
   have e3:(((M:Int)+1+1+1) != ((M:Int)+1+1+1))=false:=by simp
   go_wp2
   go_roundw
   case rel=>exact ⟨k+1,M+4,by omega,by go_num,by go_num,(show M+4=m0+4 * (k+1) by have:=hM.out;omega),HG⟩
   case measure=>simp [intOf];omega
  ·obtain rfl:k=n:=by omega
   have hM2:=hM.out
   subst hM2
   go_wp2
   go_ret
   exact ⟨rfl,HG.out⟩
def mkRule (M:Nat):RuleV:=⟨(M:Int),(M:Int)+1,(M:Int)+1+1,(M:Int)+1+1+1,(M:Int)+1+1+1+1,(((M:Int)+1+1+1+1+1) % 3 == 0)⟩
def mkRuleL (m0 n:Nat):List RuleV:=(List.range n).map (fun k=>mkRule (m0+6 * k))
theorem mkRuleL_len (m0 n:Nat):(mkRuleL m0 n).length=n:=by simp [mkRuleL]
theorem mkRuleL_at (m0 n i:Nat) (h:i<n):(mkRuleL m0 n)[i]?=some (mkRule (m0+6 * i)):=by rw [mkRuleL,List.getElem?_map,List.getElem?_range h];rfl
theorem mkRule_ok (M:Nat) (h:M+6≤1000000000000):RuRok (mkRule M):=by
 unfold RuRok mkRule
 dsimp only
 exact ⟨by omega,by omega⟩
theorem mkRuleL_ok (m0 n:Nat) (h:m0+6 * n≤1000000000000):∀ x,x ∈ mkRuleL m0 n→RuRok x:=by
 intro x hx
 unfold mkRuleL at hx
 simp at hx
 obtain ⟨i,hi,rfl⟩:=hx
 exact mkRule_ok _ (by omega)
def mkRule_0 (x:RuleV) (M:Nat):RuleV:={ x with p:=(M:Int) }
def mkRule_1 (x:RuleV) (M:Nat):RuleV:={ mkRule_0 x M with ip:=(M:Int)+1 }
def mkRule_2 (x:RuleV) (M:Nat):RuleV:={ mkRule_1 x M with b:=(M:Int)+1+1 }
def mkRule_3 (x:RuleV) (M:Nat):RuleV:={ mkRule_2 x M with lo:=(M:Int)+1+1+1 }
def mkRule_4 (x:RuleV) (M:Nat):RuleV:={ mkRule_3 x M with hi:=(M:Int)+1+1+1+1 }
def mkRule_5 (x:RuleV) (M:Nat):RuleV:={ mkRule_4 x M with al:=(((M:Int)+1+1+1+1+1) % 3 == 0) }
set_option maxHeartbeats 4000000 in
theorem markRuleS_any (a:Option Addr) (n cap B m0:Nat) (L:List RuleV) (w:World) (h:OwnS rv 6 156 w B (.slice a n cap) L) (h0:0<m0) (hm:m0+6 * n≤100000000000) :
  Calls Tryz.prog 106 #[.slice a n cap,.int .i64 (m0:Int)] w fun e w'=>e=.returned (.int .i64 ((m0+6 * n:Nat):Int))∧OwnS rv 6 156 w' B (.slice a n cap) (mkRuleL m0 n)∧w.grownBy w' (Value.slice a n cap).ownBlock:=by
 have H:Hid (OwnS rv 6 156 w B (.slice a n cap) L):=h
 have hn:=h.len
 have hlen:n≤100000000000:=by omega
 clear h
 go_enter Tryz.func106,Tryz.ntmps106
 go_wp2
 go_loopw [1,5] (fun m i wr=>∃ (k M:Nat) (L':List RuleV),k≤n∧i=.int .i64 k∧m=.int .i64 (M:Int)∧Hid (M=m0+6 * k)∧Hid (OwnS rv 6 156 wr B (.slice a n cap) L'∧L'.length=n∧L'.take k=(mkRuleL m0 n).take k∧w.grownBy wr (Value.slice a n cap).ownBlock)) (fun _ i _=>n - (intOf i).toNat)
 case atStart=>exact ⟨0,m0,L,Nat.zero_le _,rfl,rfl,by show m0=_;omega,H.out,hn,rfl,grown_refl w _⟩
 case round =>
  obtain ⟨k,M,L',hk,rfl,rfl,hM,X⟩:=hrel
  by_cases hlt:k<n
  ·obtain ⟨g,rfl,hBg,hg,-⟩:=X.out.1.form (by rw [X.out.2.1];omega)
   obtain ⟨x,hx⟩:=at_of (k:=k) X.out.2.1 hlt
   have hltz:(k:Int)<(n:Int):=by omega
   have hMz:(M:Int)≤200000000000:=by have:=hM.out;omega
   have hM0:0<M:=by have:=hM.out;omega
   have G0:Hid (w.grownBy wr (some g)):=X.out.2.2.2
   have o0:=X.out.1
   have hT:Hid (L'.length=n∧L'.take k=(mkRuleL m0 n).take k):=⟨X.out.2.1,X.out.2.2.1⟩
   clear X
   obtain ⟨c0,z0⟩:=o0.cell rv_len (j:=0) hx rfl
   replace c0:wr.cell? ⟨g,k * 6,none⟩=some (.int .i64 x.p):=c0
   replace z0:wr.frozen? ⟨g,k * 6,none⟩=false:=z0
   obtain ⟨c1,z1⟩:=o0.cell rv_len (j:=1) hx rfl
   obtain ⟨c2,z2⟩:=o0.cell rv_len (j:=2) hx rfl
   obtain ⟨c3,z3⟩:=o0.cell rv_len (j:=3) hx rfl
   obtain ⟨c4,z4⟩:=o0.cell rv_len (j:=4) hx rfl
   obtain ⟨c5,z5⟩:=o0.cell rv_len (j:=5) hx rfl
   have s0:=o0.set1 rv_len (j:=0) (y:=(mkRule_0 x M)) (u:=.int .i64 ((M:Int))) hx (by omega) rfl
   have hx0:(L'.set k (mkRule_0 x M))[k]?=some (mkRule_0 x M):=List.getElem?_set_self (by rw [hT.out.1];exact hlt)
   have s1:=s0.1.set1 rv_len (j:=1) (y:=(mkRule_1 x M)) (u:=.int .i64 ((M:Int)+1)) hx0 (by omega) rfl
   rw [List.set_set] at s1
   have hx1:(L'.set k (mkRule_1 x M))[k]?=some (mkRule_1 x M):=List.getElem?_set_self (by rw [hT.out.1];exact hlt)
   have s2:=s1.1.set1 rv_len (j:=2) (y:=(mkRule_2 x M)) (u:=.int .i64 ((M:Int)+1+1)) hx1 (by omega) rfl
   rw [List.set_set] at s2
   have hx2:(L'.set k (mkRule_2 x M))[k]?=some (mkRule_2 x M):=List.getElem?_set_self (by rw [hT.out.1];exact hlt)
   have s3:=s2.1.set1 rv_len (j:=3) (y:=(mkRule_3 x M)) (u:=.int .i64 ((M:Int)+1+1+1)) hx2 (by omega) rfl
   rw [List.set_set] at s3
   have hx3:(L'.set k (mkRule_3 x M))[k]?=some (mkRule_3 x M):=List.getElem?_set_self (by rw [hT.out.1];exact hlt)
   have s4:=s3.1.set1 rv_len (j:=4) (y:=(mkRule_4 x M)) (u:=.int .i64 ((M:Int)+1+1+1+1)) hx3 (by omega) rfl
   rw [List.set_set] at s4
   have hx4:(L'.set k (mkRule_4 x M))[k]?=some (mkRule_4 x M):=List.getElem?_set_self (by rw [hT.out.1];exact hlt)
   have s5:=s4.1.set1 rv_len (j:=5) (y:=(mkRule_5 x M)) (u:=.bool (((M:Int)+1+1+1+1+1) % 3 == 0)) hx4 (by omega) rfl
   rw [List.set_set] at s5
   have hx5:(L'.set k (mkRule_5 x M))[k]?=some (mkRule_5 x M):=List.getElem?_set_self (by rw [hT.out.1];exact hlt)
   have Z0:Hid (OwnS rv 6 156 ((((((wr.setCell ⟨g,k * 6,none⟩ (.int .i64 ((M:Int)))).setCell ⟨g,k * 6+1,none⟩ (.int .i64 ((M:Int)+1))).setCell ⟨g,k * 6+2,none⟩ (.int .i64 ((M:Int)+1+1))).setCell ⟨g,k * 6+3,none⟩ (.int .i64 ((M:Int)+1+1+1))).setCell ⟨g,k * 6+4,none⟩ (.int .i64 ((M:Int)+1+1+1+1))).setCell ⟨g,k * 6+5,none⟩ (.bool (((M:Int)+1+1+1+1+1) % 3 == 0))) B (.slice (some ⟨g,0,none⟩) n cap) (L'.set k (mkRule_5 x M))∧w.grownBy ((((((wr.setCell ⟨g,k * 6,none⟩ (.int .i64 ((M:Int)))).setCell ⟨g,k * 6+1,none⟩ (.int .i64 ((M:Int)+1))).setCell ⟨g,k * 6+2,none⟩ (.int .i64 ((M:Int)+1+1))).setCell ⟨g,k * 6+3,none⟩ (.int .i64 ((M:Int)+1+1+1))).setCell ⟨g,k * 6+4,none⟩ (.int .i64 ((M:Int)+1+1+1+1))).setCell ⟨g,k * 6+5,none⟩ (.bool (((M:Int)+1+1+1+1+1) % 3 == 0))) (some g)):=⟨s5.1,(grown_tr (grown_tr (grown_tr (grown_tr (grown_tr (grown_tr G0.out s0.2) s1.2) s2.2) s3.2) s4.2) s5.2)⟩
   have hy0:Hid ((L'.set k (mkRule_5 x M))[k]?=some (mkRule_5 x M)):=hx5
   clear o0 G0 s0 hx0 s1 hx1 s2 hx2 s3 hx3 s4 hx4 s5 hx5 hx
   have eRule:(mkRule_5 x M)=mkRule M:=rfl
   rw [eRule] at Z0
   have YY:Hid (OwnS rv 6 156 ((((((wr.setCell ⟨g,k * 6,none⟩ (.int .i64 ((M:Int)))).setCell ⟨g,k * 6+1,none⟩ (.int .i64 ((M:Int)+1))).setCell ⟨g,k * 6+2,none⟩ (.int .i64 ((M:Int)+1+1))).setCell ⟨g,k * 6+3,none⟩ (.int .i64 ((M:Int)+1+1+1))).setCell ⟨g,k * 6+4,none⟩ (.int .i64 ((M:Int)+1+1+1+1))).setCell ⟨g,k * 6+5,none⟩ (.bool (((M:Int)+1+1+1+1+1) % 3 == 0))) B (.slice (some ⟨g,0,none⟩) n cap) (L'.set k (mkRule M))∧(L'.set k (mkRule M)).length=n∧(L'.set k (mkRule M)).take (k+1)=(mkRuleL m0 n).take (k+1)∧w.grownBy ((((((wr.setCell ⟨g,k * 6,none⟩ (.int .i64 ((M:Int)))).setCell ⟨g,k * 6+1,none⟩ (.int .i64 ((M:Int)+1))).setCell ⟨g,k * 6+2,none⟩ (.int .i64 ((M:Int)+1+1))).setCell ⟨g,k * 6+3,none⟩ (.int .i64 ((M:Int)+1+1+1))).setCell ⟨g,k * 6+4,none⟩ (.int .i64 ((M:Int)+1+1+1+1))).setCell ⟨g,k * 6+5,none⟩ (.bool (((M:Int)+1+1+1+1+1) % 3 == 0))) (some g)):=⟨Z0.out.1,by rw [List.length_set];exact hT.out.1,takeS_set (by rw [hT.out.1,mkRuleL_len]) (by rw [mkRuleL_at m0 n k hlt,hM.out]) hT.out.2,Z0.out.2⟩
   clear Z0 hT hy0
   go_wp2
   go_roundw
   case rel=>exact ⟨k+1,M+6,_,by omega,by go_num,by go_num,(show M+6=m0+6 * (k+1) by have:=hM.out;omega),YY⟩
   case measure=>simp [intOf];omega
  ·obtain rfl:k=n:=by omega
   have e1:L'=mkRuleL m0 k:=by
    have:=X.out.2.2.1
    rwa [List.take_of_length_le (by rw [X.out.2.1];exact Nat.le_refl _),List.take_of_length_le (by rw [mkRuleL_len];exact Nat.le_refl _)] at this
   subst e1
   have hM2:=hM.out
   subst hM2
   go_wp2
   go_ret
   exact ⟨rfl,X.out.1,X.out.2.2.2⟩
set_option maxHeartbeats 4000000 in
theorem heldRuleS_any (a:Option Addr) (n cap m0:Nat) (w:World) (h:Rw RuR 6 w a (mkRuleL m0 n)) (h0:0<m0) (hm:m0+6 * n≤100000000000) :
  Calls Tryz.prog 146 #[.slice a n cap,.int .i64 (m0:Int)] w fun e w'=>e=.returned (.int .i64 ((m0+6 * n:Nat):Int))∧Grw w w':=by
 have H:Hid (Rw RuR 6 w a (mkRuleL m0 n)):=h
 have hlen:n≤100000000000:=by omega
 clear h
 have hmix:Tryz.prog.follows .mixedOrders=true:=by kernel_rfl
 go_enter Tryz.func146,Tryz.ntmps146
 go_wp2
 go_loopw [1,5] (fun m i wr=>∃ k M:Nat,k≤n∧i=.int .i64 k∧m=.int .i64 (M:Int)∧Hid (M=m0+6 * k)∧Hid (Grw w wr)) (fun _ i _=>n - (intOf i).toNat)
 case atStart=>exact ⟨0,m0,Nat.zero_le _,rfl,rfl,by show m0=_;omega,Grw.refl w⟩
 case round =>
  obtain ⟨k,M,hk,rfl,rfl,hM,HG⟩:=hrel
  by_cases hlt:k<n
  ·obtain ⟨b,off,vs,rfl,hb,hvl,hR,hc⟩:=H.out.at RuR.kp HG.out.below (mkRuleL_at m0 n k hlt)
   rw [← hM.out] at hR
   obtain ⟨rfl,-⟩:=hR
   have hltz:(k:Int)<(n:Int):=by omega
   have hMz:(M:Int)≤200000000000:=by have:=hM.out;omega
   have hM0:0<M:=by have:=hM.out;omega
   have q0:wr.cell? ⟨b,off+k * 6,none⟩=some (.int .i64 ((M:Int))):=hc 0 _ rfl
   have q1:wr.cell? ⟨b,off+k * 6+1,none⟩=some (.int .i64 ((M:Int)+1)):=hc 1 _ rfl
   have q2:wr.cell? ⟨b,off+k * 6+2,none⟩=some (.int .i64 ((M:Int)+1+1)):=hc 2 _ rfl
   have q3:wr.cell? ⟨b,off+k * 6+3,none⟩=some (.int .i64 ((M:Int)+1+1+1)):=hc 3 _ rfl
   have q4:wr.cell? ⟨b,off+k * 6+4,none⟩=some (.int .i64 ((M:Int)+1+1+1+1)):=hc 4 _ rfl
   have q5:wr.cell? ⟨b,off+k * 6+5,none⟩=some (.bool (((M:Int)+1+1+1+1+1) % 3 == 0)):=hc 5 _ rfl
   clear hc hvl
   have e0:(((M:Int)) != ((M:Int)))=false:=by simp
   have e1:(((M:Int)+1) != ((M:Int)+1))=false:=by simp
   have e2:(((M:Int)+1+1) != ((M:Int)+1+1))=false:=by simp
   have e3:(((M:Int)+1+1+1) != ((M:Int)+1+1+1))=false:=by simp
   have e4:(((M:Int)+1+1+1+1) != ((M:Int)+1+1+1+1))=false:=by simp
   have e5:((((M:Int)+1+1+1+1+1) % 3 == 0) != (((M:Int)+1+1+1+1+1) % 3 == 0))=false:=by simp
   go_wp2
   go_roundw
   case rel=>exact ⟨k+1,M+6,by omega,by go_num,by go_num,(show M+6=m0+6 * (k+1) by have:=hM.out;omega),HG⟩
   case measure=>simp [intOf];omega
  ·obtain rfl:k=n:=by omega
   have hM2:=hM.out
   subst hM2
   go_wp2
   go_ret
   exact ⟨rfl,HG.out⟩
open Go.RowKit Go.PlainAid Go.Sort
theorem grown_set (w:World) (a:Addr) (u:Value):w.grownBy (w.setCell a u) (some a.block) :=
 ⟨rfl,rfl,rfl,by simp [World.setCell],fun k _ hk=>Below.heap_setCell _ _ _ _ (fun e=>hk (by rw [e]))⟩
structure Bx (w:World) (q:Nat) (cs:List Value):Prop where
 cl:w.rangeAt q 0 cs
 th:w.there q 0 cs.length
theorem Bx.cell {w:World} {q:Nat} {cs:List Value} (h:Bx w q cs) (j:Nat) {v:Value} (hj:cs[j]?=some v):w.cell? ⟨q,j,none⟩=some v:=by
 have:=h.cl j v hj
 rwa [Nat.zero_add] at this
theorem Bx.thaw {w:World} {q:Nat} {cs:List Value} (h:Bx w q cs) (j:Nat) (hj:j<cs.length):w.frozen? ⟨q,j,none⟩=false:=by
 have:=(h.th j hj).2
 rwa [Nat.zero_add] at this
theorem Bx.of {w:World} {q:Nat} {cs:List Value} (hc:∀ j v,cs[j]?=some v→w.cell? ⟨q,j,none⟩=some v) (hf:∀ j,j<cs.length→w.frozen? ⟨q,j,none⟩=false):Bx w q cs :=
 ⟨fun j v hv=>by rw [Nat.zero_add];exact hc j v hv,fun j hj=>by rw [Nat.zero_add];exact ⟨by rw [hc j _ (List.getElem?_eq_getElem hj)];rfl,hf j hj⟩⟩
theorem Bx.below {w w':World} {q:Nat} {cs:List Value} (h:Bx w q cs) (hb:Below w.heap.size w w'):Bx w' q cs :=
 Bx.of (fun j v hv=>bkeep hb (h.cell j hv)) (fun j hj=>bthaw hb (h.cell j (List.getElem?_eq_getElem hj)) (h.thaw j hj))
theorem Bx.put {w:World} {q:Nat} {cs:List Value} (h:Bx w q cs) (vs:List Value) (hl:vs.length=cs.length):Bx (w.setCells q 0 vs) q vs :=
 ⟨w.rangeAt_setCells_same q 0 vs (by rw [hl];exact h.th),fun j hj=>⟨World.isSome_setCells q vs 0 w _ (h.th j (by omega)).1,by rw [World.frozen?_setCells];exact (h.th j (by omega)).2⟩⟩
theorem Bx.apart {w:World} {q p:Nat} {cs:List Value} (h:Bx w q cs) (vs:List Value) (hne:q ≠ p):Bx (w.setCells p 0 vs) q cs :=
 ⟨World.rangeAt_setCells_apart h.cl p 0 vs (.inl hne),fun j hj=>⟨World.isSome_setCells p vs 0 w _ (h.th j hj).1,by rw [World.frozen?_setCells];exact (h.th j hj).2⟩⟩
theorem below_cells {n:Nat} {w:World} {q:Nat} (hq:n≤q):∀ (vs:List Value) (o:Nat) (W:World),Below n w W→Below n w (W.setCells q o vs)
 | [],_,_,h=>h
 | v :: r,o,W,h=>by
  rw [World.setCells]
  exact below_cells hq r (o+1) _ (h.setCell hq v)
theorem Bx.field {w:World} {q:Nat} {cs:List Value} (h:Bx w q cs) (j:Nat) (v:Value):Bx (w.setCell ⟨q,j,none⟩ v) q (cs.set j v):=by
 refine Bx.of (fun i u hu=>?_) (fun i hi=>?_)
 ·by_cases e:i=j
  ·subst e
   have hi:i<cs.length:=by have:=(List.getElem?_eq_some_iff.1 hu).1;simpa using this
   rw [List.getElem?_set_self hi] at hu
   cases hu
   exact World.cell?_setCell_same _ _ _ (h.cell i (List.getElem?_eq_getElem hi))
  ·rw [List.getElem?_set_ne (fun h=>e h.symm)] at hu
   rw [World.cell?_setCell_other _ _ _ _ (fun h=>e (by cases h;rfl))]
   exact h.cell i hu
 ·rw [List.length_set] at hi
  rw [World.frozen?_setCell]
  exact h.thaw i hi
theorem Bx.far {w:World} {q:Nat} {cs:List Value} (h:Bx w q cs) (a:Addr) (v:Value) (hne:a.block ≠ q):Bx (w.setCell a v) q cs :=
 Bx.of (fun i u hu=>by rw [World.cell?_setCell_other _ _ _ _ (fun h=>hne (by cases h;rfl))];exact h.cell i hu) (fun i hi=>by rw [World.frozen?_setCell];exact h.thaw i hi)
structure XQ (cb:Nat) (cs:List Value) (w wx:World):Prop where
 c:Bx wx cb cs
 out:Below w.heap.size w wx
theorem XQ.below {cb:Nat} {cs:List Value} {w wx wy:World} (h:XQ cb cs w wx) (hb:Below wx.heap.size wx wy):XQ cb cs w wy:=⟨h.c.below hb,h.out.trans (hb.mono h.out.size)⟩
theorem XQ.cells {cb rb:Nat} {cs vs:List Value} {w wx:World} (h:XQ cb cs w wx) (h1:cb ≠ rb) (h2:w.heap.size≤rb):XQ cb cs w (wx.setCells rb 0 vs):=⟨h.c.apart _ h1,below_cells h2 _ _ _ h.out⟩
theorem Bx.new (w:World) (cs:Array Value) (t:TypeId):Bx (w.alloc (.cells cs t)) w.heap.size cs.toList :=
 Bx.of (fun j v hv=>by rw [Array.getElem?_toList] at hv;simp [go_sem,hv]) (fun j hj=>by simp [go_sem])
theorem wpl_putT {P:Program} {ops:Array Oper} {rest:List Oper} {op:Oper} {a:Act} {w:World} {Q:Exit→Act→World→Prop} (t:TypeId) (hgd:op.guard=none) (x y:Operand) (ho:op.op=.store t x y)
  (q:Nat) (cells:Array Value) (hx:a.eval x=.pointer (some ⟨q,0,none⟩)) (hy:a.eval y=.agg cells) {cs:List Value} (h0:Bx w q cs) (hv:cells.size=cs.length) (hi:(P.info? t).map (·.size)=some cells.size) (h1:cells.toList.all (·.oneCell')=true)
  (h:∀ w',w'=w.setCells q 0 cells.toList→Bx w' q cells.toList→wpList P ops Q rest (a.put op.dst undef) w'):wpList P ops Q (op :: rest) a w :=
 wpList_store_mid hgd t x y ho q 0 cells hx hy (by rw [hv];exact h0.th) hi (by rw [← Array.all_toList];exact h1) (h _ rfl (h0.put _ (by simp [hv])))
theorem wpl_getT {P:Program} {ops:Array Oper} {rest:List Oper} {op:Oper} {a:Act} {w:World} {Q:Exit→Act→World→Prop} (t:TypeId) (hgd:op.guard=none) (x:Operand) (ho:op.op=.load t x)
  (q:Nat) (hx:a.eval x=.pointer (some ⟨q,0,none⟩)) {cs:List Value} (h0:Bx w q cs) (d:TypeDesc) (hu:P.underlying t=some d) (hd:d.isRow=true) (hi:(P.info? t).map (·.size)=some cs.length)
  (h:wpList P ops Q rest (a.put op.dst (.agg cs.toArray)) w):wpList P ops Q (op :: rest) a w :=
 wpList_load_mid hgd t x ho q 0 hx cs d h0.cl hu hd hi h
theorem Bx.sets {q:Nat}:∀ (vs:List Value) (o:Nat) (w:World) (cs:List Value),Bx w q cs→Bx (w.setCells q o vs) q (sets cs o vs)
 | [],_,_,_,h=>h
 | v :: r,o,w,cs,h=>by
  rw [World.setCells]
  unfold Go.Proofs.YtbeehlhcckndcaaGreat.sets
  exact Bx.sets r (o+1) _ _ (h.field o v)
theorem Bx.part {w:World} {q:Nat} {cs:List Value} (h:Bx w q cs) (o:Nat) (vs:List Value) (hv:(cs.drop o).take vs.length=vs):w.rangeAt q o vs:=by
 intro j v hj
 refine h.cell (o+j) ?_
 have hl:=(List.getElem?_eq_some_iff.1 hj).1
 rw [← hv,List.getElem?_take_of_lt hl,List.getElem?_drop] at hj
 exact hj
theorem Bx.thereAt {w:World} {q:Nat} {cs:List Value} (h:Bx w q cs) (o n:Nat) (hn:o+n≤cs.length):w.there q o n:=fun j hj=>⟨by rw [h.cell (o+j) (List.getElem?_eq_getElem (by omega))];rfl,h.thaw (o+j) (by omega)⟩
theorem wpl_getO {P:Program} {ops:Array Oper} {rest:List Oper} {op:Oper} {a:Act} {w:World} {Q:Exit→Act→World→Prop} (t:TypeId) (hgd:op.guard=none) (x:Operand) (ho:op.op=.load t x)
  (q o:Nat) (vs:List Value) (hx:a.eval x=.pointer (some ⟨q,o,none⟩)) {cs:List Value} (h0:Bx w q cs) (hv:(cs.drop o).take vs.length=vs) (d:TypeDesc) (hu:P.underlying t=some d) (hd:d.isRow=true) (hi:(P.info? t).map (·.size)=some vs.length)
  (h:wpList P ops Q rest (a.put op.dst (.agg vs.toArray)) w):wpList P ops Q (op :: rest) a w :=
 wpList_load_mid hgd t x ho q o hx vs d (h0.part o vs hv) hu hd hi h
theorem wpl_putO {P:Program} {ops:Array Oper} {rest:List Oper} {op:Oper} {a:Act} {w:World} {Q:Exit→Act→World→Prop} (t:TypeId) (hgd:op.guard=none) (x y:Operand) (ho:op.op=.store t x y)
  (q o:Nat) (cells:Array Value) (hx:a.eval x=.pointer (some ⟨q,o,none⟩)) (hy:a.eval y=.agg cells) {cs:List Value} (h0:Bx w q cs) (hn:(decide (o+cells.size≤cs.length))=true) (hi:(P.info? t).map (·.size)=some cells.size) (h1:cells.toList.all (·.oneCell')=true)
  (h:∀ w',w'=w.setCells q o cells.toList→Bx w' q (sets cs o cells.toList)→wpList P ops Q rest (a.put op.dst undef) w'):wpList P ops Q (op :: rest) a w :=
 wpList_store_mid hgd t x y ho q o cells hx hy (h0.thereAt o _ (of_decide_eq_true hn)) hi (by rw [← Array.all_toList];exact h1) (h _ rfl (h0.sets _ _ _ _))
theorem rw_keepB {α:Type} {R:World→α→List Value→Prop} {K:Nat} {w w':World} {a:Option Addr} {xs:List α} {B:Nat→Prop} (h:Rw R K w a xs) (hs:w.heap.size≤w'.heap.size) (hk:∀ k,B k→w'.heap[k]?=w.heap[k]?) (hb:∀ b off,a=some ⟨b,off,none⟩→b<w.heap.size→B b) (hR:∀ x vs,R w x vs→R w' x vs):Rw R K w' a xs:=by
 intro h0
 obtain ⟨b,off,rfl,hlt,hc⟩:=h h0
 refine ⟨b,off,rfl,Nat.lt_of_lt_of_le hlt hs,fun i x hx=>?_⟩
 obtain ⟨vs,h1,h2,h3⟩:=hc i x hx
 refine ⟨vs,h1,hR _ _ h2,fun j v hv=>?_⟩
 have e:w'.cell? ⟨b,off+i * K+j,none⟩=w.cell? ⟨b,off+i * K+j,none⟩:=by
  unfold World.cell?
  rw [show w'.heap[(⟨b,off+i * K+j,none⟩:Addr).block]?=w.heap[(⟨b,off+i * K+j,none⟩:Addr).block]? from hk b (hb b off rfl hlt)]
 rw [e]
 exact h3 j v hv
theorem heap_cellsA {q:Nat}:∀ (vs:List Value) (o:Nat) (w:World),(w.setCells q o vs).heap.size=w.heap.size∧∀ k,k ≠ q→(w.setCells q o vs).heap[k]?=w.heap[k]?
 | [],_,_=>⟨rfl,fun _ _=>rfl⟩
 | v :: r,o,w=>by
  rw [World.setCells]
  obtain ⟨h1,h5⟩:=heap_cellsA r (o+1) (w.setCell ⟨q,o,none⟩ v)
  exact ⟨h1.trans (by simp [World.setCell]),fun k hk=>(h5 k hk).trans (Below.heap_setCell _ _ _ _ hk)⟩
theorem Bx.apartO {w:World} {q p o:Nat} {cs:List Value} (h:Bx w q cs) (vs:List Value) (hne:q ≠ p):Bx (w.setCells p o vs) q cs :=
 ⟨World.rangeAt_setCells_apart h.cl p o vs (.inl hne),fun j hj=>⟨World.isSome_setCells p vs o w _ (h.th j hj).1,by rw [World.frozen?_setCells];exact (h.th j hj).2⟩⟩
end Go.Proofs.YtbeehlhcckndcaaGreat
