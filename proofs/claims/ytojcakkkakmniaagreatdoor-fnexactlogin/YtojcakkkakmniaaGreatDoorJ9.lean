/- Guests marked and held. Configs and guests of one's own as kinds; read again, kept where nothing of them is written. Nets, plain numbers: what stands behind a net's bits, and what is kept ahead of it. Nothing of the program is imported. Texts as lists of numbers: of a string, of a number's bytes, of a part; the number and the sum of a list. Nothing of the program is imported. The program's NumberBytes at a size from 1 to 6 and a number that has room: its bytes, the higher ones first, in new memory. The program's part, numberAt, addNumber, setNumber. Laying texts behind one another in a row of the call's own; a struct in a box of the call's own. Nets, the walks: netAround, NetOK, NetHas; the model's NetOK, l05Has, NetHas. Rules: placeOf, placeOK, protoWord, RuleOK; the model's l07Range, RuleOK. Rules and places copied and compared by the laws; the walk of laws.FnExactRuleOK. The contracts of NameOK, the program's and the model's, and of what they call: whether a byte is a letter, a digit; whether a text is a name. Roles: RoleOK, the program's and the model's. Lists of rules and roles in the laws: szRuleS, toRuleS, eqRuleS, szRole, toRole, eqRole; the walk of laws.FnExactRoleOK. -/
import Derived.Test.YtojcakkkakmniaaGreatDoorJ8
import Derived.Lib.AppendStr
import Derived.Laws.Concat
import Derived.Laws.CopyOwn
import Derived.Laws.StructEq
namespace Go.Proofs.YtojcakkkakmniaaGreatDoor
open Go.RowKit Go.PlainAid Go.Proofs.YtojcakkkakmniaaGreatDoor.Bt Go.Sort
set_option linter.unusedVariables false
set_option maxRecDepth 20000
set_option maxHeartbeats 4000000 in
theorem markGuests_any (ux sx fx rx:Option Addr) (un uy sn sy fn fy rn ry:Nat) (us:List UserV) (ss:List SessV) (fs:List FailV) (rs:List RecV) (nx:Int) (m0 B:Nat) (w:World) (h:Own4 w B (.slice ux un uy) (.slice sx sn sy) (.slice fx fn fy) (.slice rx rn ry) us ss fs rs) (h0:0<m0) (hm:m0+6 * un+10 * sn+3 * fn+5 * rn≤100000000000) :
  Calls Tryz.prog 13 #[.agg #[.slice ux un uy,.slice sx sn sy,.slice fx fn fy,.slice rx rn ry,.int .i64 nx],.int .i64 (m0:Int)] w fun e w'=>e=.returned (.int .i64 ((m0+6 * un+10 * sn+3 * fn+5 * rn:Nat):Int))∧Own4 w' B (.slice ux un uy) (.slice sx sn sy) (.slice fx fn fy) (.slice rx rn ry) (mkUserL (m0) un) (mkSessionL (m0+6 * un) sn) (mkFailL (m0+6 * un+10 * sn) fn) (mkRecordL (m0+6 * un+10 * sn+3 * fn) rn)∧Rel.Keep (fun k=>k<w.heap.size∧Value.ownBlock (.slice ux un uy) ≠ some k∧Value.ownBlock (.slice sx sn sy) ≠ some k∧Value.ownBlock (.slice fx fn fy) ≠ some k∧Value.ownBlock (.slice rx rn ry) ≠ some k) w w':=by
 have G0:Bo (w.alloc (.cells #[.slice ux un uy,.slice sx sn sy,.slice fx fn fy,.slice rx rn ry,.int .i64 nx] 41)) w.heap.size 41 [.slice ux un uy,.slice sx sn sy,.slice fx fn fy,.slice rx rn ry,.int .i64 nx]:=Bo.new w #[.slice ux un uy,.slice sx sn sy,.slice fx fn fy,.slice rx rn ry,.int .i64 nx] _
 have al:Below w.heap.size w (w.alloc (.cells #[.slice ux un uy,.slice sx sn sy,.slice fx fn fy,.slice rx rn ry,.int .i64 nx] 41)):=(Below.refl _ _).alloc (Nat.le_refl _) _
 have ou:=h.u.now al
 have os_:=h.s.now al
 have of_:=h.f.now al
 have or_:=h.r.now al
 have K0:Hid (Rel.Keep (fun k=>k<w.heap.size∧Value.ownBlock (.slice ux un uy) ≠ some k∧Value.ownBlock (.slice sx sn sy) ≠ some k∧Value.ownBlock (.slice fx fn fy) ≠ some k∧Value.ownBlock (.slice rx rn ry) ≠ some k) w (w.alloc (.cells #[.slice ux un uy,.slice sx sn sy,.slice fx fn fy,.slice rx rn ry,.int .i64 nx] 41))):=⟨al.os,al.tape,al.output,al.size,fun k hk=>al.block k hk.1⟩
 clear h al
 have c0:=G0.cell 0 rfl
 go_enter Tryz.func13,Tryz.ntmps13
 have H0:=markUserS_any ux un uy B (m0) us _ ou (by omega) (by omega)
 go_wp2_with fail
 refine H0.mono ?_
 rintro e w1 ⟨rfl,o0,g0⟩
 have G1:=G0.row ou (by decide) g0
 have K1:Hid (Rel.Keep (fun k=>k<w.heap.size∧Value.ownBlock (.slice ux un uy) ≠ some k∧Value.ownBlock (.slice sx sn sy) ≠ some k∧Value.ownBlock (.slice fx fn fy) ≠ some k∧Value.ownBlock (.slice rx rn ry) ≠ some k) w w1):=K0.out.trans ⟨g0.os,g0.tape,g0.output,g0.size,fun k hk=>g0.block k (Nat.lt_of_lt_of_le hk.1 K0.out.size) (fun he=>hk.2.1 he.symm)⟩
 have ns:=os_.other ou (by decide) g0
 have nf:=of_.other ou (by decide) g0
 have nr:=or_.other ou (by decide) g0
 clear ou os_ of_ or_
 have ou:=o0
 have os_:=ns
 have of_:=nf
 have or_:=nr
 clear o0 g0 H0 K0 G0 ns nf nr c0
 have c1:=G1.cell 1 rfl
 have H1:=markSessionS_any sx sn sy B (m0+6 * un) ss _ os_ (by omega) (by omega)
 go_wp2_with fail
 refine H1.mono ?_
 rintro e w2 ⟨rfl,o1,g1⟩
 have G2:=G1.row os_ (by decide) g1
 have K2:Hid (Rel.Keep (fun k=>k<w.heap.size∧Value.ownBlock (.slice ux un uy) ≠ some k∧Value.ownBlock (.slice sx sn sy) ≠ some k∧Value.ownBlock (.slice fx fn fy) ≠ some k∧Value.ownBlock (.slice rx rn ry) ≠ some k) w w2):=K1.out.trans ⟨g1.os,g1.tape,g1.output,g1.size,fun k hk=>g1.block k (Nat.lt_of_lt_of_le hk.1 K1.out.size) (fun he=>hk.2.2.1 he.symm)⟩
 have nu:=ou.other os_ (by decide) g1
 have nf:=of_.other os_ (by decide) g1
 have nr:=or_.other os_ (by decide) g1
 clear ou os_ of_ or_
 have ou:=nu
 have os_:=o1
 have of_:=nf
 have or_:=nr
 clear o1 g1 H1 K1 G1 nu nf nr c1
 have c2:=G2.cell 2 rfl
 have H2:=markFailS_any fx fn fy B (m0+6 * un+10 * sn) fs _ of_ (by omega) (by omega)
 go_wp2_with fail
 refine H2.mono ?_
 rintro e w3 ⟨rfl,o2,g2⟩
 have G3:=G2.row of_ (by decide) g2
 have K3:Hid (Rel.Keep (fun k=>k<w.heap.size∧Value.ownBlock (.slice ux un uy) ≠ some k∧Value.ownBlock (.slice sx sn sy) ≠ some k∧Value.ownBlock (.slice fx fn fy) ≠ some k∧Value.ownBlock (.slice rx rn ry) ≠ some k) w w3):=K2.out.trans ⟨g2.os,g2.tape,g2.output,g2.size,fun k hk=>g2.block k (Nat.lt_of_lt_of_le hk.1 K2.out.size) (fun he=>hk.2.2.2.1 he.symm)⟩
 have nu:=ou.other of_ (by decide) g2
 have ns:=os_.other of_ (by decide) g2
 have nr:=or_.other of_ (by decide) g2
 clear ou os_ of_ or_
 have ou:=nu
 have os_:=ns
 have of_:=o2
 have or_:=nr
 clear o2 g2 H2 K2 G2 nu ns nr c2
 have c3:=G3.cell 3 rfl
 have H3:=markRecordS_any rx rn ry B (m0+6 * un+10 * sn+3 * fn) rs _ or_ (by omega) (by omega)
 go_wp2_with fail
 refine H3.mono ?_
 rintro e w4 ⟨rfl,o3,g3⟩
 have G4:=G3.row or_ (by decide) g3
 have K4:Hid (Rel.Keep (fun k=>k<w.heap.size∧Value.ownBlock (.slice ux un uy) ≠ some k∧Value.ownBlock (.slice sx sn sy) ≠ some k∧Value.ownBlock (.slice fx fn fy) ≠ some k∧Value.ownBlock (.slice rx rn ry) ≠ some k) w w4):=K3.out.trans ⟨g3.os,g3.tape,g3.output,g3.size,fun k hk=>g3.block k (Nat.lt_of_lt_of_le hk.1 K3.out.size) (fun he=>hk.2.2.2.2 he.symm)⟩
 have nu:=ou.other or_ (by decide) g3
 have ns:=os_.other or_ (by decide) g3
 have nf:=of_.other or_ (by decide) g3
 clear ou os_ of_ or_
 have ou:=nu
 have os_:=ns
 have of_:=nf
 have or_:=o3
 clear o3 g3 H3 K3 G3 nu ns nf c3
 have OO:Hid (Own4 w4 B (.slice ux un uy) (.slice sx sn sy) (.slice fx fn fy) (.slice rx rn ry) (mkUserL (m0) un) (mkSessionL (m0+6 * un) sn) (mkFailL (m0+6 * un+10 * sn) fn) (mkRecordL (m0+6 * un+10 * sn+3 * fn) rn)):=⟨ou,os_,of_,or_,ap_of ou os_ (by decide),ap_of ou of_ (by decide),ap_of ou or_ (by decide),ap_of os_ of_ (by decide),ap_of os_ or_ (by decide),ap_of of_ or_ (by decide)⟩
 clear ou os_ of_ or_ G4
 go_wp2
 go_ret
 exact ⟨rfl,OO.out,K4.out⟩
set_option maxHeartbeats 4000000 in
theorem heldGuests_any (ux sx fx rx:Option Addr) (un uy sn sy fn fy rn ry:Nat) (nx:Int) (m0:Nat) (w:World) (hu:Rw UsR 6 w ux (mkUserL (m0) un)) (hs:Rw SeR 10 w sx (mkSessionL (m0+6 * un) sn)) (hf:Rw FaR 3 w fx (mkFailL (m0+6 * un+10 * sn) fn)) (hr:Rw ReR 5 w rx (mkRecordL (m0+6 * un+10 * sn+3 * fn) rn)) (h0:0<m0) (hm:m0+6 * un+10 * sn+3 * fn+5 * rn≤100000000000) :
  Calls Tryz.prog 14 #[.agg #[.slice ux un uy,.slice sx sn sy,.slice fx fn fy,.slice rx rn ry,.int .i64 nx],.int .i64 (m0:Int)] w fun e w'=>e=.returned (.int .i64 ((m0+6 * un+10 * sn+3 * fn+5 * rn:Nat):Int))∧Grw w w':=by
 have G0:Bo (w.alloc (.cells #[.slice ux un uy,.slice sx sn sy,.slice fx fn fy,.slice rx rn ry,.int .i64 nx] 41)) w.heap.size 41 [.slice ux un uy,.slice sx sn sy,.slice fx fn fy,.slice rx rn ry,.int .i64 nx]:=Bo.new w #[.slice ux un uy,.slice sx sn sy,.slice fx fn fy,.slice rx rn ry,.int .i64 nx] _
 have K0:Hid (Grw w (w.alloc (.cells #[.slice ux un uy,.slice sx sn sy,.slice fx fn fy,.slice rx rn ry,.int .i64 nx] 41))):=(Grw.refl _).alloc _
 have c0:=G0.cell 0 rfl
 go_enter Tryz.func14,Tryz.ntmps14
 have H0:=heldUserS_any ux un uy (m0) _ (hu.keep UsR.kp K0.out.below) (by omega) (by omega)
 go_wp2_with fail
 refine H0.mono ?_
 rintro e w1 ⟨rfl,g0⟩
 have G1:=G0.below g0.below
 have K1:Hid (Grw w w1):=K0.out.trans g0
 have e0:decide (((m0+6 * un:Nat):Int)<0)=false:=decide_eq_false (by omega)
 clear H0 g0 G0 K0 c0
 have c1:=G1.cell 1 rfl
 have H1:=heldSessionS_any sx sn sy (m0+6 * un) _ (hs.keep SeR.kp K1.out.below) (by omega) (by omega)
 go_wp2_with fail
 refine H1.mono ?_
 rintro e w2 ⟨rfl,g1⟩
 have G2:=G1.below g1.below
 have K2:Hid (Grw w w2):=K1.out.trans g1
 have e1:decide (((m0+6 * un+10 * sn:Nat):Int)<0)=false:=decide_eq_false (by omega)
 clear H1 g1 G1 K1 c1
 have c2:=G2.cell 2 rfl
 have H2:=heldFailS_any fx fn fy (m0+6 * un+10 * sn) _ (hf.keep FaR.kp K2.out.below) (by omega) (by omega)
 go_wp2_with fail
 refine H2.mono ?_
 rintro e w3 ⟨rfl,g2⟩
 have G3:=G2.below g2.below
 have K3:Hid (Grw w w3):=K2.out.trans g2
 have e2:decide (((m0+6 * un+10 * sn+3 * fn:Nat):Int)<0)=false:=decide_eq_false (by omega)
 clear H2 g2 G2 K2 c2
 have c3:=G3.cell 3 rfl
 have H3:=heldRecordS_any rx rn ry (m0+6 * un+10 * sn+3 * fn) _ (hr.keep ReR.kp K3.out.below) (by omega) (by omega)
 go_wp2_with fail
 refine H3.mono ?_
 rintro e w4 ⟨rfl,g3⟩
 have G4:=G3.below g3.below
 have K4:Hid (Grw w w4):=K3.out.trans g3
 have e3:decide (((m0+6 * un+10 * sn+3 * fn+5 * rn:Nat):Int)<0)=false:=decide_eq_false (by omega)
 clear H3 g3 G3 K3 c3
 go_wp2
 go_ret
 exact ⟨rfl,K4.out⟩
theorem rw_okG {α:Type} {c:α→List Value} {ok:α→Prop} {K:Nat} {w:World} {a:Option Addr} {xs:List α} (h:Rw (FR c ok) K w a xs):∀ x,x ∈ xs→ok x:=by
 intro x hx
 obtain ⟨i,hi⟩:=List.getElem?_of_mem hx
 obtain ⟨b,off,-,-,hc⟩:=h (List.length_pos_of_mem hx)
 obtain ⟨vs,-,⟨-,hk⟩,-⟩:=hc i x hi
 exact hk
structure RoOk (r:RoleV):Prop where
 nm:r.nm.size≤maxLen
 rs:∀ x,x ∈ r.rs→RuRok x
theorem rw_okR {n K:Nat} {w:World} {a:Option Addr} {xs:List RoleV} (h:Rw (RoR n) K w a xs):∀ x,x ∈ xs→RoOk x:=by
 intro x hx
 obtain ⟨i,hi⟩:=List.getElem?_of_mem hx
 obtain ⟨b,off,-,-,hc⟩:=h (List.length_pos_of_mem hx)
 obtain ⟨vs,-,⟨a',cap',-,h1,-,-,h4,-⟩,-⟩:=hc i x hi
 exact ⟨h1,rw_okG (c:=rv) (ok:=RuRok) h4⟩
theorem own_cap {α:Type} {c:α→List Value} {K n cap:Nat} {a:Option Addr} {e:TypeId} {B:Nat} {xs:List α} {w:World} (h:OwnS c K e w B (.slice a n cap) xs):n≤cap∧cap≤maxLen:=by
 rcases h.2 with ⟨h1,h2⟩ | ⟨g,cap',cur,h1,hB,hg,h3,h4,_⟩
 ·cases h1;exact ⟨Nat.le_refl _,Nat.zero_le _⟩
 ·cases h1;exact ⟨h3,h4⟩
theorem rw_ro {w:World} {B n cap:Nat} {y:Option Addr} {L:List RoX} (o:OwnRo w B (.slice y n cap) L) (hok:∀ x,x ∈ L→RoOk x.r):Rw (RoR 0) 5 w y (L.map (fun x=>x.r)):=by
 intro h0
 rw [List.length_map] at h0
 obtain ⟨g,rfl,hB,hg,-⟩:=o.row.form h0
 refine ⟨g,0,rfl,hg,fun i r hr=>?_⟩
 rw [List.getElem?_map] at hr
 obtain ⟨x,hx,rfl⟩:=Option.map_eq_some_iff.1 hr
 have hm:=List.mem_of_getElem? hx
 have hru:=o.rules x hm
 obtain ⟨k1,k2⟩:=own_cap hru
 refine ⟨roG x,rfl,⟨x.ra,x.rc,rfl,(hok x hm).nm,k1,k2,hru.rw (ok:=RuRok) rv_len (hok x hm).rs,fun _ _ _=>Nat.zero_le _⟩,fun j u hu=>?_⟩
 have:=(o.row.cell roG_len (j:=j) hx hu).1
 rw [Nat.zero_add]
 exact this
theorem OwnRo.uniq {w:World} {B B':Nat} {v:Value} {L L':List RoX} (o:OwnRo w B v L) (o':OwnRo w B' v L') (h:L.map (fun x=>x.r)=L'.map (fun x=>x.r)):L=L':=by
 have hl:L.length=L'.length:=by simpa using congrArg List.length h
 obtain ⟨a,cap,rfl,-⟩:=o.row.slice
 refine List.ext_getElem? (fun i=>?_)
 cases hi:L[i]? with
 | none =>
  rw [List.getElem?_eq_none_iff] at hi
  exact (List.getElem?_eq_none (by omega)).symm
 | some x =>
  have hlt:=(List.getElem?_eq_some_iff.1 hi).1
  have hi':L'[i]?=some L'[i]:=List.getElem?_eq_getElem (by omega)
  generalize L'[i]=x' at hi'
  have hr:x.r=x'.r:=by
   have:=congrArg (·[i]?) h
   simp only [List.getElem?_map,hi,hi',Option.map_some] at this
   exact Option.some.inj this
  obtain ⟨g,rfl,-⟩:=o.row.form (by omega)
  have c1:=(o.row.cell roG_len (j:=1) hi rfl).1
  have c2:=(o'.row.cell roG_len (j:=1) hi' rfl).1
  have e:=Option.some.inj (c1.symm.trans c2)
  injection e with e1 _ e2
  rw [hi']
  congr 1
  cases x;cases x'
  simp_all
structure CfV where
 ip:Int
 b:Int
 gt:Int
 gm:ByteArray
 wm:ByteArray
 rs:Int
 ps:List PlaceV
 ros:List RoleV
structure CfA where
 x:Option Addr
 y:Option Addr
 xc:Nat
 yc:Nat
def cfC (A:CfA) (c:CfV):List Value:=[.int .i64 c.ip,.int .i64 c.b,.int .i64 c.gt,.string c.gm,.string c.wm,.int .i64 c.rs,.slice A.x c.ps.length A.xc,.slice A.y c.ros.length A.yc]
theorem cfC_inj {A A':CfA} {c:CfV} (h:cfC A c=cfC A' c):A=A':=by
 cases A;cases A'
 simp only [cfC,List.cons.injEq,Value.slice.injEq] at h
 simp_all
theorem agg_inj {l l':List Value} (h:Value.agg l.toArray=.agg l'.toArray):l=l':=by
 injection h with h
 exact List.toArray_inj h
structure OwnCf (w:World) (B:Nat) (A:CfA) (c:CfV) (L:List RoX):Prop where
 ro:L.map (fun x=>x.r)=c.ros
 ps:OwnS pv 4 126 w B (.slice A.x c.ps.length A.xc) c.ps
 rs:OwnRo w B (.slice A.y c.ros.length A.yc) L
def cfB (A:CfA) (c:CfV) (L:List RoX) (k:Nat):Prop:=cfBk (.slice A.x c.ps.length A.xc) (.slice A.y c.ros.length A.yc) L k
theorem OwnCf.now {w w':World} {B:Nat} {A:CfA} {c:CfV} {L:List RoX} (h:OwnCf w B A c L) (hb:Below w.heap.size w w'):OwnCf w' B A c L:=⟨h.ro,h.ps.now hb,h.rs.now hb⟩
theorem OwnCf.keep {w w':World} {B:Nat} {A:CfA} {c:CfV} {L:List RoX} (h:OwnCf w B A c L) (hk:∀ b,cfB A c L b→w'.heap[b]?=w.heap[b]?):OwnCf w' B A c L :=
 ⟨h.ro,Rlw.own_loc h.ps (fun b e=>hk b (.inl e)),h.rs.keepB (fun b e=>hk b (.inr e))⟩
theorem OwnCf.lt {w:World} {B:Nat} {A:CfA} {c:CfV} {L:List RoX} (h:OwnCf w B A c L):∀ k,cfB A c L k→B≤k∧k<w.heap.size:=by
 rintro k (e | e)
 ·exact h.ps.lt k e
 ·exact h.rs.lt k e
theorem OwnCf.uniq {w:World} {B B':Nat} {A:CfA} {c:CfV} {L L':List RoX} (h:OwnCf w B A c L) (h':OwnCf w B' A c L'):L=L':=h.rs.uniq h'.rs (h.ro.trans h'.ro.symm)
def kCf (c:CfV):Knd where
 own:=fun w B v=>∃ A L,v=.agg (cfC A c).toArray∧OwnCf w B A c L
 bk:=fun w v b=>∃ A L B,v=.agg (cfC A c).toArray∧OwnCf w B A c L∧cfB A c L b
 keep:=fun w w' B v ⟨A,L,hv,h⟩ hk=>by
  have h2:=h.keep (w':=w') (fun b hb=>hk b ⟨A,L,B,hv,h,hb⟩)
  refine ⟨⟨A,L,hv,h2⟩,?_⟩
  rintro b ⟨A',L',B',hv',h',hb⟩
  cases cfC_inj (agg_inj (hv.symm.trans hv'))
  cases h2.uniq h'
  exact ⟨A,L,B,hv,h,hb⟩
 lt:=fun w B v ⟨A,L,hv,h⟩ b ⟨A',L',B',hv',h',hb⟩=>by
  cases cfC_inj (agg_inj (hv.symm.trans hv'))
  cases h.uniq h'
  exact h.lt b hb
 lower:=fun w B B' v ⟨A,L,hv,h⟩ hB=>⟨A,L,hv,h.ro,h.ps.lower hB,h.rs.lower hB⟩
structure CfR (w:World) (A:CfA) (c:CfV):Prop where
 ps:Rw PlR 4 w A.x c.ps
 ros:Rw (RoR 0) 5 w A.y c.ros
theorem CfR.below {w w':World} {A:CfA} {c:CfV} (h:CfR w A c) (hb:Below w.heap.size w w'):CfR w' A c:=⟨h.ps.keep PlR.kp hb,h.ros.keep (RoR.kp 0) hb⟩
structure CfOk (c:CfV):Prop where
 ps:∀ x,x ∈ c.ps→PlRok x
 ros:∀ x,x ∈ c.ros→RoOk x
theorem CfR.ok {w:World} {A:CfA} {c:CfV} (h:CfR w A c):CfOk c:=⟨rw_okG (c:=pv) (ok:=PlRok) h.ps,rw_okR h.ros⟩
theorem OwnCf.rw {w:World} {B:Nat} {A:CfA} {c:CfV} {L:List RoX} (h:OwnCf w B A c L) (hk:CfOk c):CfR w A c:=by
 refine ⟨h.ps.rw (ok:=PlRok) pv_len hk.ps,?_⟩
 have:=rw_ro h.rs (fun x hx=>hk.ros x.r (by rw [← h.ro];exact List.mem_map_of_mem hx))
 rw [h.ro] at this
 exact this
structure HuV where
 us:List UserV
 ss:List SessV
 fs:List FailV
 es:List RecV
 nx:Int
structure HuA where
 u:Option Addr
 s:Option Addr
 f:Option Addr
 r:Option Addr
 uc:Nat
 sc:Nat
 fc:Nat
 rc:Nat
def huC (A:HuA) (h:HuV):List Value:=[.slice A.u h.us.length A.uc,.slice A.s h.ss.length A.sc,.slice A.f h.fs.length A.fc,.slice A.r h.es.length A.rc,.int .i64 h.nx]
theorem huC_inj {A A':HuA} {h:HuV} (e:huC A h=huC A' h):A=A':=by
 cases A;cases A'
 simp only [huC,List.cons.injEq,Value.slice.injEq] at e
 simp_all
def OwnHu (w:World) (B:Nat) (A:HuA) (h:HuV):Prop:=Own4 w B (.slice A.u h.us.length A.uc) (.slice A.s h.ss.length A.sc) (.slice A.f h.fs.length A.fc) (.slice A.r h.es.length A.rc) h.us h.ss h.fs h.es
def huB (A:HuA) (h:HuV) (k:Nat):Prop:=Value.ownBlock (.slice A.u h.us.length A.uc)=some k ∨ Value.ownBlock (.slice A.s h.ss.length A.sc)=some k ∨ Value.ownBlock (.slice A.f h.fs.length A.fc)=some k ∨ Value.ownBlock (.slice A.r h.es.length A.rc)=some k
theorem OwnHu.now {w w':World} {B:Nat} {A:HuA} {h:HuV} (o:OwnHu w B A h) (hb:Below w.heap.size w w'):OwnHu w' B A h:=Own4.now o hb
theorem OwnHu.keep {w w':World} {B:Nat} {A:HuA} {h:HuV} (o:OwnHu w B A h) (hk:∀ b,huB A h b→w'.heap[b]?=w.heap[b]?):OwnHu w' B A h :=
 ⟨Rlw.own_loc o.u (fun b e=>hk b (.inl e)),Rlw.own_loc o.s (fun b e=>hk b (.inr (.inl e))),Rlw.own_loc o.f (fun b e=>hk b (.inr (.inr (.inl e)))),Rlw.own_loc o.r (fun b e=>hk b (.inr (.inr (.inr e)))),o.us_,o.uf,o.ur,o.sf,o.sr,o.fr⟩
theorem OwnHu.lt {w:World} {B:Nat} {A:HuA} {h:HuV} (o:OwnHu w B A h):∀ k,huB A h k→B≤k∧k<w.heap.size:=by
 rintro k (e | e | e | e)
 ·exact o.u.lt k e
 ·exact o.s.lt k e
 ·exact o.f.lt k e
 ·exact o.r.lt k e
def kHu (h:HuV):Knd where
 own:=fun w B v=>∃ A,v=.agg (huC A h).toArray∧OwnHu w B A h
 bk:=fun w v b=>∃ A,v=.agg (huC A h).toArray∧huB A h b
 keep:=fun w w' B v ⟨A,hv,o⟩ hk=>⟨⟨A,hv,o.keep (fun b hb=>hk b ⟨A,hv,hb⟩)⟩,fun b hb=>hb⟩
 lt:=fun w B v ⟨A,hv,o⟩ b ⟨A',hv',hb⟩=>by
  cases huC_inj (agg_inj (hv.symm.trans hv'))
  exact o.lt b hb
 lower:=fun w B B' v ⟨A,hv,o⟩ hB=>⟨A,hv,Own4.lower o hB⟩
structure HuR (w:World) (A:HuA) (h:HuV):Prop where
 us:Rw UsR 6 w A.u h.us
 ss:Rw SeR 10 w A.s h.ss
 fs:Rw FaR 3 w A.f h.fs
 es:Rw ReR 5 w A.r h.es
theorem HuR.below {w w':World} {A:HuA} {h:HuV} (o:HuR w A h) (hb:Below w.heap.size w w'):HuR w' A h:=⟨o.us.keep UsR.kp hb,o.ss.keep SeR.kp hb,o.fs.keep FaR.kp hb,o.es.keep ReR.kp hb⟩
structure HuOk (h:HuV):Prop where
 us:∀ x,x ∈ h.us→UsRok x
 ss:∀ x,x ∈ h.ss→SeRok x
 fs:∀ x,x ∈ h.fs→FaRok x
 es:∀ x,x ∈ h.es→ReRok x
theorem HuR.ok {w:World} {A:HuA} {h:HuV} (o:HuR w A h):HuOk h:=⟨rw_okG (c:=uvG) (ok:=UsRok) o.us,rw_okG (c:=svG) (ok:=SeRok) o.ss,rw_okG (c:=fvG) (ok:=FaRok) o.fs,rw_okG (c:=evG) (ok:=ReRok) o.es⟩
theorem OwnHu.rw {w:World} {B:Nat} {A:HuA} {h:HuV} (o:OwnHu w B A h) (hk:HuOk h):HuR w A h :=
 ⟨o.u.rw (ok:=UsRok) uvG_len hk.us,o.s.rw (ok:=SeRok) svG_len hk.ss,o.f.rw (ok:=FaRok) fvG_len hk.fs,o.r.rw (ok:=ReRok) evG_len hk.es⟩
def zeroHu:HuV:=⟨[],[],[],[],0⟩
def zeroHA:HuA:=⟨none,none,none,none,0,0,0,0⟩
theorem ap_none (v:Value) (n c:Nat):Ap (.slice none n c) v:=by
 intro k hk
 cases hk
theorem OwnHu.zero (w:World) (B:Nat):OwnHu w B zeroHA zeroHu :=
 ⟨OwnS.nil w B,OwnS.nil w B,OwnS.nil w B,OwnS.nil w B,ap_none _ _ _,ap_none _ _ _,ap_none _ _ _,ap_none _ _ _,ap_none _ _ _,ap_none _ _ _⟩
theorem zeroHu_ok:HuOk zeroHu:=⟨(fun _ h=>by cases h),(fun _ h=>by cases h),(fun _ h=>by cases h),(fun _ h=>by cases h)⟩
theorem OwnS.src {α:Type} {c:α→List Value} {K n cap:Nat} {a:Option Addr} {e:TypeId} {B:Nat} {xs:List α} {w:World} {ok:α→Prop} (h:OwnS c K e w B (.slice a n cap) xs) (hK:∀ x,(c x).length=K) (hok:∀ x,x ∈ xs→ok x) (hm:n≤1048576):Src (FR c ok) K w a n cap xs:=by
 refine ⟨h.rw hK hok,h.len,hm,(own_cap h).1,?_,?_⟩
 ·intro p hp
  rcases h.2 with ⟨h1,_⟩ | ⟨g,cap',cur,h1,_⟩
  ·cases h1;cases hp
  ·cases h1;cases hp;rfl
 ·intro hn
  rcases h.2 with ⟨h1,_⟩ | ⟨g,cap',cur,h1,_⟩
  ·cases h1;exact ⟨rfl,rfl⟩
  ·cases h1;cases hn
end Go.Proofs.YtojcakkkakmniaaGreatDoor
namespace Go.Proofs.YtojcakkkakmniaaGreatDoor.Bt
open Go.RowKit
set_option linter.unusedVariables false
theorem behind_nat:∀ b,b<33→4294967295 / 2 ^ b=2 ^ (32 - b) - 1:=by decide
theorem behind (b:Nat) (h:b≤32):(4294967295:Int) / 2 ^ b=((2 ^ (32 - b) - 1:Nat):Int):=by
 rw [← behind_nat b (by omega)]
 simp
theorem keep_hi (a k:Nat) (ha:a<4294967296) (hk:k≤32):bits .andNot .i64 (a:Int) ((2 ^ k - 1:Nat):Int)=((a / 2 ^ k * 2 ^ k:Nat):Int):=by
 have hp:2 ^ k≤2 ^ 32:=Nat.pow_le_pow_right (by omega) hk
 have hp0:0<2 ^ k:=Nat.two_pow_pos k
 have hle:a / 2 ^ k * 2 ^ k≤a:=Nat.div_mul_le_self _ _
 have e:a &&& (2 ^ 64 - (2 ^ k - 1+1))=a / 2 ^ k * 2 ^ k:=by
  apply Nat.eq_of_testBit_eq
  intro i
  rw [← Nat.shiftRight_eq_div_pow,← Nat.shiftLeft_eq,Nat.testBit_and,Nat.testBit_two_pow_sub_succ (by omega),Nat.testBit_shiftLeft,Nat.testBit_shiftRight,Nat.testBit_two_pow_sub_one]
  by_cases h1:i<k
  ·simp [h1];omega
  ·have h2:k+(i - k)=i:=by omega
   rw [h2]
   by_cases h3:i<64
   ·simp [h1,h3];omega
   ·have:a.testBit i=false:=Nat.testBit_lt_two_pow (Nat.lt_of_lt_of_le ha (by rw [show (4294967296:Nat)=2 ^ 32 from rfl];exact Nat.pow_le_pow_right (by omega) (by omega)))
    simp [this]
 show IntKind.i64.wrap ((BitVec.ofInt 64 (a:Int) &&& ~~~BitVec.ofInt 64 ((2 ^ k - 1:Nat):Int)).toNat:Int)=_
 rw [BitVec.toNat_and,BitVec.toNat_not,ofInt_i64 a (by omega),ofInt_i64 (2 ^ k - 1) (by omega),IntKind.wrap_i64,show 2 ^ 64 - 1 - (2 ^ k - 1)=2 ^ 64 - (2 ^ k - 1+1) by omega,e]
 omega
def netM (b:Int):Int:=2 ^ (32 - b.toNat)
theorem netM_pos (b:Int):1≤netM b:=Int.pow_pos (by omega)
theorem around (ip:Int) (b:Nat) (h0:0≤ip) (h1:ip≤4294967295) (hb:b≤32):bits .andNot .i64 ip (4294967295 / 2 ^ b)=ip / netM b * netM b:=by
 obtain ⟨a,rfl⟩:=Int.eq_ofNat_of_zero_le h0
 rw [behind b hb,keep_hi a (32 - b) (by omega) (by omega)]
 unfold netM
 simp
theorem within (ip:Int) (b:Nat) (h0:0≤ip) (h1:ip≤4294967295) (hb:b≤32):bits .and .i64 ip (2 ^ (32 - b) - 1)=ip % netM b:=by
 have e:((2:Int) ^ (32 - b) - 1)=((2 ^ (32 - b) - 1:Nat):Int):=by
  have:=Nat.two_pow_pos (32 - b)
  have e:((2 ^ (32 - b):Nat):Int)=(2:Int) ^ (32 - b):=by simp
  omega
 rw [e,mask (32 - b) (by omega) ip h0 (by omega)]
 unfold netM
 simp
theorem pow_bd (b:Nat):1≤(2:Int) ^ (32 - b)∧(2:Int) ^ (32 - b)≤4294967296:=by
 have h0:=Nat.two_pow_pos (32 - b)
 have h1:(2:Nat) ^ (32 - b)≤2 ^ 32:=Nat.pow_le_pow_right (by omega) (by omega)
 have e:((2 ^ (32 - b):Nat):Int)=(2:Int) ^ (32 - b):=by simp
 omega
theorem pow_wrap (b:Nat):wrap64 (2 ^ (32 - b))=2 ^ (32 - b):=by
 have:=pow_bd b
 generalize (2:Int) ^ (32 - b)=m at *
 unfold wrap64;omega
theorem pow_wrap1 (b:Nat):wrap64 (2 ^ (32 - b) - 1)=2 ^ (32 - b) - 1:=by
 have:=pow_bd b
 generalize (2:Int) ^ (32 - b)=m at *
 unfold wrap64;omega
theorem mul_same (a m:Int) (hm:1≤m):(a=a / m * m) ↔ a % m=0:=by
 have:=Int.mul_ediv_add_emod a m
 rw [Int.mul_comm] at this
 omega
theorem mul_has (a x m:Int) (hm:1≤m) (h:a % m=0):(a=x / m * m) ↔ a / m=x / m:=by
 have h2:=Int.mul_ediv_add_emod a m
 rw [Int.mul_comm] at h2
 constructor
 ·intro e
  have h3:a / m * m=x / m * m:=by omega
  exact Int.eq_of_mul_eq_mul_right (by omega) h3
 ·intro e
  rw [← e];omega
end Go.Proofs.YtojcakkkakmniaaGreatDoor.Bt
namespace Go.Proofs.YtojcakkkakmniaaGreatDoor
open Go.RowKit Go.PlainAid Go.Proofs.YtojcakkkakmniaaGreatDoor.Pl
set_option linter.unusedVariables false
def nums (s:ByteArray):List Int:=s.data.toList.map fun b=>(b.toNat:Int)
theorem nums_len (s:ByteArray):(nums s).length=s.size:=by unfold nums;rw [List.length_map,Array.length_toList];rfl
theorem nums_strOfNums (L:List Int) (h:∀ x ∈ L,0≤x∧x≤255):nums (strOfNums L)=L:=by
 unfold strOfNums nums
 simp only [List.map_map]
 conv=>rhs;rw [← List.map_id L]
 apply List.map_congr_left
 intro x hx
 have:=h x hx
 simp
 omega
theorem getD_bd {L:List Int} (h:∀ x ∈ L,0≤x∧x≤255) (k:Nat):0≤L.getD k 0∧L.getD k 0≤255:=by
 by_cases hk:k<L.length
 ·rw [List.getD_eq_getElem?_getD,List.getElem?_eq_getElem hk];exact h _ (List.getElem_mem hk)
 ·rw [List.getD_eq_getElem?_getD,List.getElem?_eq_none (by omega)];simp
open Go.RowKit Go.PlainAid
set_option maxRecDepth 20000
def nb (n:Int) (m j:Nat):Int:=n / 2 ^ (8 * (m - 1 - j)) % 256
theorem nb_bd (n:Int) (m j:Nat):0≤nb n m j∧nb n m j≤255:=by unfold nb;omega
set_option maxHeartbeats 400000 in
theorem numberBytes_yes (n:Int) (m:Nat) (w:World) (h1:1≤m) (h6:m≤6) (hn:0≤n) (hr:n<2 ^ (8 * m)) (hx:n≤9223372036854775807) :
  Calls Tryz.prog 172 #[.int .i64 n,.int .i64 m] w fun e w'=>e=.returned (.tuple #[.slice (some ⟨w.heap.size,0,none⟩) m m,.int .i64 0])∧Fill w w' m m (nb n m):=by
 have hmk:=run_make_row' (P:=Tryz.prog) 163 5 (.int .u8 0) 1 Tryz.underlying163 Tryz.infoB rfl .i64 .i64 m (by omega) (by omega)
 have hst:=fill_start w m (nb n m) 5
 have b1:decide ((m:Int)<1)=false:=by simp;omega
 have b2:decide (6<(m:Int))=false:=by simp;omega
 have HR:Hid (n<2 ^ (8 * m)):=hr
 clear hr
 go_enter Tryz.func172,Tryz.ntmps172
 go_wp2_with fail
 refine (hasRoom_y n m w h1 h6 hn HR.out hx).mono ?_
 rintro e w0 ⟨rfl,hw⟩
 have hw':=hw.symm
 subst hw'
 go_wp2
 go_loopw [23] (fun i wr=>∃ k:Nat,k≤m∧i=.int .i64 k∧Fill w wr m k (nb n m)) (fun i _=>m - (intOf i).toNat)
 case atStart=>exact ⟨0,Nat.zero_le _,rfl,hst⟩
 case round =>
  obtain ⟨k,hk,rfl,hfill⟩:=hrel
  have hfill':Hid (Fill w wr m k (nb n m)):=hfill
  by_cases hlt2:k<m
  ·have hfz:=hfill.2.2.1 k
   obtain ⟨v,hv⟩:=hfill.2.2.2.1 k hlt2
   clear hfill hst hmk
   have hp:(0:Int)<2 ^ (8 * (m - 1 - k)):=Int.pow_pos (by omega)
   have hq0:0≤n / 2 ^ (8 * (m - 1 - k)):=Int.ediv_nonneg hn (by omega)
   go_wp2
   go_roundw
   case rel=>exact ⟨k+1,by omega,by go_num,fill_step hfill'.out hlt2⟩
   case measure=>simp [intOf];omega
  ·obtain rfl:k=m:=by omega
   clear hst hmk hfill
   go_wp2
   go_ret2
   exact ⟨rfl,hfill'.out⟩
theorem part_any (b off len cap at_ size:Nat) (w:World) (h:at_+size≤cap) (hc:cap≤9223372036854775807) :
  Calls Tryz.prog 163 #[.slice (some ⟨b,off,none⟩) len cap,.int .i64 at_,.int .i64 size] w fun e w'=>∃ a',e=.returned (.slice a' size size)∧(0<size→a'=some ⟨b,off+at_,none⟩)∧w'=w:=by
 go_enter Tryz.func163,Tryz.ntmps163
 go_wp2
 ·go_ret
  obtain rfl:size=0:=by omega
  exact ⟨_,rfl,by omega,rfl⟩
 ·go_ret
  exact ⟨_,rfl,fun _=>rfl,rfl⟩
theorem Bytes.part {w:World} {b off len:Nat} {f:Nat→Int} (h:Bytes w (some ⟨b,off,none⟩) len f) (at_ size:Nat) (hs:at_+size≤len) (a':Option Addr) (ha:0<size→a'=some ⟨b,off+at_,none⟩):Bytes w a' size (fun j=>f (at_+j)):=by
 refine ⟨fun k=>h.1 _,fun h0=>?_⟩
 obtain ⟨b',off',e,hc⟩:=h.2 (by omega)
 cases e
 exact ⟨b,off+at_,ha h0,fun i hi=>by rw [Nat.add_assoc];exact hc (at_+i) (by omega)⟩
theorem numberAt_any (a:Option Addr) (len cap:Nat) (f:Nat→Int) (at_ size:Nat) (w:World) (h:Bytes w a len f) (hs:at_+size≤len) (hc:len≤cap) (hx:cap≤9223372036854775807) (h1:1≤size) (h6:size≤6) :
  Calls Tryz.prog 180 #[.slice a len cap,.int .i64 at_,.int .i64 size] w fun e w'=>e=.returned (.int .i64 (numOf (fun j=>f (at_+j)) size))∧w'=w:=by
 obtain ⟨b,off,rfl,-⟩:=h.2 (by omega)
 have H:Hid (Bytes w (some ⟨b,off,none⟩) len f):=h
 clear h
 go_enter Tryz.func180,Tryz.ntmps180
 go_wp2_with fail
 refine (part_any b off len cap at_ size w (by omega) hx).mono ?_
 rintro e w0 ⟨a',rfl,ha,hw⟩
 subst hw
 have HA:Hid (0<size→a'=some ⟨b,off+at_,none⟩):=ha
 clear ha
 go_wp2_with fail
 refine (numberOf_yes a' size size _ w0 (H.out.part at_ size hs a' HA.out) h1 h6).mono ?_
 rintro e w1 ⟨rfl,hw⟩
 subst hw
 go_wp2
 go_ret
 exact ⟨rfl,rfl⟩
def nbl (n:Int) (m:Nat):List Int:=(List.range m).map (nb n m)
theorem nbl_len (n:Int) (m:Nat):(nbl n m).length=m:=by simp [nbl]
theorem nbl_bd (n:Int) (m:Nat):∀ x ∈ nbl n m,0≤x∧x≤255:=by
 intro x hx
 obtain ⟨j,-,rfl⟩:=List.mem_map.1 hx
 exact nb_bd n m j
theorem below_grownBy {w w':World} (h:Below w.heap.size w w') (row:Option Nat):w.grownBy w' row:=⟨h.os,h.tape,h.output,h.size,fun k hk _=>h.block k hk⟩
theorem gr_trans {w w1 w2:World} {r:Option Nat} (h:w.grownBy w1 r) (k:w1.grownBy w2 r):w.grownBy w2 r :=
 ⟨k.os.trans h.os,k.tape.trans h.tape,k.output.trans h.output,Nat.le_trans h.size k.size,fun i hi hr=>(k.block i (Nat.lt_of_lt_of_le hi h.size) hr).trans (h.block i hi hr)⟩
theorem news_of_fill {w w1:World} {m:Nat} {f:Nat→Int} (h:Fill w w1 m m f):∀ j u,((List.range m).map fun i=>Value.int .u8 (f i))[j]?=some u→w1.cell? ((⟨w.heap.size,0,none⟩:Addr).add j)=some u:=by
 intro j u hu
 have hj:j<m:=by
  by_cases hj:j<m
  ·exact hj
  ·rw [List.getElem?_eq_none (by simp;omega)] at hu;cases hu
 have e:(⟨w.heap.size,0,none⟩:Addr).add j=⟨w.heap.size,j,none⟩:=by unfold Addr.add;split <;> simp_all
 rw [e,h.2.2.2.2 j hj]
 simpa [hj] using hu
set_option maxHeartbeats 400000 in
theorem addNumber_any (v:Value) (L:List Int) (n:Int) (m:Nat) (w:World) (B:Nat) (h:OwnL 5 w B v L) (hB:B≤w.heap.size) (h1:1≤m) (h6:m≤6) (hn:0≤n) (hr:n<2 ^ (8 * m)) (hx:n≤9223372036854775807) (hl:L.length≤1000000) :
  Calls Tryz.prog 164 #[v,.int .i64 n,.int .i64 m] w fun e w'=>∃ v',e=.returned v'∧OwnL 5 w' B v' (L ++ nbl n m)∧w.grownBy w' v.ownBlock:=by
 obtain ⟨i0,hi,hz0,hz1,hz2⟩:=info_parts Tryz.infoB
 have H:Hid (OwnL 5 w B v L):=h
 have HR:Hid (n<2 ^ (8 * m)):=hr
 clear h hr
 go_enter Tryz.func164,Tryz.ntmps164
 go_wp2_with fail
 refine (numberBytes_yes n m w h1 h6 hn HR.out hx).mono ?_
 rintro e w1 ⟨rfl,hf⟩
 have F:Hid (Fill w w1 m m (nb n m)):=hf
 clear hf
 have hz:=F.out.1.size
 have O:Hid (w1.ownsRow B 5 1 v L.length (L.map (Value.int .u8))):=by
  have h0:=H.out
  rcases hv:v.ownBlock with _ | q
  ·exact World.ownsRow.kept h0 (below_grownBy F.out.1 none) (.inl hv)
  ·exact World.ownsRow.kept h0 (below_grownBy F.out.1 none) (.inr (by rw [hv];simp))
 go_wp2_with (at_builtin;refine wpList_append_own _ rfl _ _ 163 rfl B 5 i0 (.int .u8 0) 1 1 Tryz.underlying163 hi hz0 hz1 hz2 rfl (by decide) v L.length (L.map (Value.int .u8)) rfl O.out ⟨w.heap.size,0,none⟩ m m ((List.range m).map fun i=>Value.int .u8 (nb n m i)) rfl (by simp) (news_of_fill F.out) ?c2 ?c3 ?c4 ?c5 ?_)
 case c2=>intro u hu;obtain ⟨j,-,rfl⟩:=List.mem_map.1 hu;rfl
 case c3=>unfold maxLen;omega
 case c4=>omega
 case c5=>omega
 intro v' w2 ho hg _
 have X:Hid (OwnL 5 w2 B v' (L ++ nbl n m)∧w.grownBy w2 v.ownBlock):=by
  refine ⟨?_,gr_trans (below_grownBy F.out.1 _) hg⟩
  unfold OwnL
  have e:(L ++ nbl n m).length=L.length+m:=by simp [nbl_len]
  rw [e,List.map_append]
  simpa [nbl,List.map_map,Function.comp_def] using ho
 clear ho hg
 go_wp2
 go_ret
 exact ⟨v',rfl,X.out⟩
def over (L:List Int) (at_:Nat) (M:List Int):List Int:=L.take at_ ++ (M ++ L.drop (at_+M.length))
theorem OwnL.form {e:TypeId} {w:World} {B:Nat} {v:Value} {L:List Int} (h:OwnL e w B v L) (h0:0<L.length) :
  ∃ g cap cur,v=.slice (some ⟨g,0,none⟩) L.length cap∧B≤g∧w.heap[g]?=some (.cells cur e (0,0))∧L.length≤cap∧cap≤maxLen∧cur.size=cap∧cur.toList.take L.length=L.map (Value.int .u8):=by
 rcases h.2 with ⟨h1,h2⟩ | ⟨g,cap,cur,h1,h2,h3,h4,h5,h6,h7⟩
 ·omega
 ·exact ⟨g,cap,cur,h1,h2,h3,h4,h5,by simpa using h6,by simpa using h7⟩
def Boxed (w:World) (q:Nat) (cs:List Value):Prop:=∀ i v,cs[i]?=some v→w.cell? ⟨q,i,none⟩=some v
theorem Boxed.new (w:World) (cs:List Value) (t:TypeId):Boxed (w.alloc (.cells cs.toArray t)) w.heap.size cs:=by
 intro i v h
 rw [World.cell?_alloc_new]
 simpa using h
theorem keep_below {B:Nat} {w wx w':World} (h:Below B w wx) (hB:B<wx.heap.size) (b:Below wx.heap.size wx w'):Below B w w':=h.trans (b.mono (by omega))
theorem news_row {w:World} {q:Nat} {M:List Int} (h:Boxed w q (M.map (Value.int .u8))):∀ j u,(M.map (Value.int .u8))[j]?=some u→w.cell? ((⟨q,0,none⟩:Addr).add j)=some u:=by
 intro j u hu
 have e:(⟨q,0,none⟩:Addr).add j=⟨q,j,none⟩:=by unfold Addr.add;split <;> simp_all
 rw [e]
 exact h j u hu
def Laid (w w':World) (B:Nat) (v':Value) (L:List Int):Prop:=OwnL 5 w' B v' L∧Below B w w'
theorem Laid.own {w w':World} {B:Nat} {v':Value} {L:List Int} (h:Laid w w' B v' L):OwnL 5 w' B v' L:=h.1
theorem Laid.below {w w':World} {B:Nat} {v':Value} {L:List Int} (h:Laid w w' B v' L):Below B w w':=h.2
theorem grown_below {w w':World} {B:Nat} {v:Value} {L:List Int} (h:OwnL 5 w B v L) (hB:B≤w.heap.size) (hg:w.grownBy w' v.ownBlock):Below B w w' :=
 (Below.refl B w).grown hg hB (fun k hk=>(World.ownsRow.lt h k hk).1)
theorem wpl_app (w:World) {ops:Array Oper} {rest:List Oper} {o:Oper} {a:Act} {Q:Exit→Act→World→Prop} (hgd:o.guard=none) (s x:Operand)
  (ho:o.op=.call { callee:=.builtin .append,args:=#[s,x],argTypes:=#[163,163] })
  (B:Nat) (v:Value) (L:List Int) (hs:a.eval s=v) (hown:OwnL 5 w B v L)
  (ad:Addr) (m c:Nat) (M:List Int) (hx:a.eval x=.slice (some ad) m c) (hl:M.length=m) (hnews:∀ j u,(M.map (Value.int .u8))[j]?=some u→w.cell? (ad.add j)=some u)
  (hlen:L.length+m≤1000000) (hB:B≤w.heap.size)
  (h:∀ v' w',Hid (Laid w w' B v' (L ++ M))→wpList Tryz.prog ops Q rest (a.put o.dst v') w'):wpList Tryz.prog ops Q (o :: rest) a w:=by
 obtain ⟨i0,hi,hz0,hz1,hz2⟩:=info_parts Tryz.infoB
 refine wpList_append_own w hgd s x 163 ho B 5 i0 (.int .u8 0) 1 1 Tryz.underlying163 hi hz0 hz1 hz2 rfl (by decide) v L.length (L.map (Value.int .u8)) hs hown ad m c (M.map (Value.int .u8)) hx (by simp [hl]) hnews
  (by intro u hu;obtain ⟨j,-,rfl⟩:=List.mem_map.1 hu;rfl) (by unfold maxLen;omega) (by omega) hB ?_
 intro v' w' h1 h2 _
 exact h v' w' ⟨OwnL.more (by rw [hl];exact h1),grown_below hown hB h2⟩
theorem addNum (v:Value) (L:List Int) (n:Int) (m:Nat) (w:World) (B:Nat) (h:OwnL 5 w B v L) (hB:B≤w.heap.size) (h1:1≤m) (h6:m≤6) (hn:0≤n) (hr:n<2 ^ (8 * m)) (hx:n≤9223372036854775807) (hl:L.length≤1000000) :
  Calls Tryz.prog 164 #[v,.int .i64 n,.int .i64 m] w fun e w'=>∃ v',e=.returned v'∧Hid (Laid w w' B v' (L ++ nbl n m)) :=
 (addNumber_any v L n m w B h hB h1 h6 hn hr hx hl).mono fun e w' ⟨v',he,ho,hg⟩=>⟨v',he,ho,grown_below h hB hg⟩
theorem make_room (c:Nat) (hc:c≤1000000):∃ MC:Array Value,∀ w:World,
  (Instr.makeSlice 163 (.int .i64 0) (.int .i64 (c:Int))).run Tryz.prog w=.ok (.slice (some ⟨w.heap.size,0,none⟩) 0 c) (w.alloc (.cells MC 5)) ∧
   OwnL 5 (w.alloc (.cells MC 5)) w.heap.size (.slice (some ⟨w.heap.size,0,none⟩) 0 c) []:=by
 obtain ⟨i0,hi,hz0,hz1,hz2⟩:=info_parts Tryz.infoB
 refine ⟨madeCells (Value.int .u8 0).cells (c * i0.size),fun w=>⟨?_,?_⟩⟩
 ·have:=run_make (P:=Tryz.prog) w 163 5 i0 (.int .u8 0) Tryz.underlying163 hi hz0 .i64 .i64 0 c (Int.le_refl _) (by omega) (by rw [hz2];omega) (by omega)
  simpa using this
 ·exact World.ownsRow_made w _ c (Nat.le_refl _) (by unfold maxLen;omega) (by rw [size_madeCells,hz1])
theorem Laid.writ {w w':World} {B:Nat} {v:Value} {L:List Int} (h:OwnL 5 w B v L) (hL:∀ x ∈ L,0≤x∧x≤255) (h0:0<L.length) :
  ∃ g cap,v=.slice (some ⟨g,0,none⟩) L.length cap∧L.length≤cap∧cap≤maxLen∧B≤g∧g<w.heap.size∧(∀ i,w.frozen? ⟨g,i,none⟩=false)∧∀ i,i<L.length→w.cell? ⟨g,i,none⟩=some (.int .u8 (L.getD i 0)):=by
 obtain ⟨g,cap,cur,rfl,hB,hg,hcap,hmax,hs,ht⟩:=h.form h0
 refine ⟨g,cap,rfl,hcap,hmax,hB,(World.ownsRow.lt h g rfl).2,fun i=>World.ownsRow.frozenAt h i,fun i hi=>?_⟩
 rw [World.ownsRow.cellAt h i (by simpa using hi)]
 simp [hi]
open Go.RowKit Go.PlainAid Go.Proofs.YtojcakkkakmniaaGreatDoor.Bt Go.Sort
def nB (ip b:Int):Bool:=dec (0≤ip∧ip≤4294967295∧0≤b∧b≤32∧ip % netM b=0)
def hB (ip b x:Int):Bool:=dec (ip / netM b=x / netM b)
theorem netAround_any (ip:Int) (b:Nat) (w:World) (h0:0≤ip) (h1:ip≤4294967295) (hb:b≤32) :
  Calls Tryz.prog 114 #[.int .i64 ip,.int .i64 b] w fun e w'=>e=.returned (.agg #[.int .i64 (ip / netM b * netM b),.int .i64 b])∧Grw w w':=by
 have hm:=around ip b h0 h1 hb
 generalize ip / netM b * netM b=r at hm ⊢
 go_enter Tryz.func114,Tryz.ntmps114
 go_wp2
 (try simp only [Exit.inBlock,Exit.then])
 refine bodyPost_ret (v:=.agg #[.int .i64 r,.int .i64 b]) (by simp [results,Tryz.results114,go_sem];try rfl) rfl ?_
 exact ⟨rfl,(Grw.refl _).alloc _⟩
theorem eql_net (x0 x1 y0 y1:Int) (w:World):(binOp .eql 44 (.agg #[.int .i64 x0,.int .i64 x1]) (.agg #[.int .i64 y0,.int .i64 y1])).run Tryz.prog w=.ok (.bool (decide (x0=y0∧x1=y1))) w:=by
 have u3:=Tryz.underlying3
 have a3:=Tryz.isAgg3
 have z3:=Tryz.sizeOf3
 have hS:Tryz.prog.underlying 44=some (.struct (Tryz.prog.fieldsOf 44)):=by kernel_rfl
 have hp:Tryz.prog.stoodInHeld 44=false:=by kernel_rfl
 rw [run_eql_struct,show (10000:Nat)=9999+1 from rfl,run_equalIn_agg w 9999 44 _ _ hS hp]
 simp only [Program.fieldsOf,Tryz.underlying44]
 go_simp
 by_cases h1:x0=y0 <;> by_cases h2:x1=y1 <;> simp [h1,h2]
theorem implNetOK_any (ip b:Int) (w:World) :
  Calls Tryz.prog 112 #[.agg #[.int .i64 ip,.int .i64 b]] w fun e w'=>e=.returned (.bool (nB ip b))∧Grw w w':=by
 obtain ⟨q,hq⟩:∃ q,q=dec (0≤ip∧ip≤4294967295):=⟨_,rfl⟩
 have HA:Hid (∀ w,Calls Tryz.prog 113 #[.int .i64 ip] w fun e w'=>e=.returned (.bool q)∧w'=w):=fun w=>hq ▸ addressOK_any ip w
 by_cases ha:0≤ip∧ip≤4294967295
 ·rw [dec_y ha] at hq
  subst hq
  by_cases hb:b<0
  ·have HN:nB ip b=false:=dec_n (by omega)
   rw [HN];clear HN
   go_enter Tryz.func112,Tryz.ntmps112
   go_wp2_with fail
   refine (HA.out _).mono ?_
   rintro e w1 ⟨rfl,hw⟩
   subst hw
   go_wp2
   go_ret
   exact ⟨rfl,(Grw.refl _).alloc _⟩
  obtain ⟨b,rfl⟩:=Int.eq_ofNat_of_zero_le (by omega:0≤b)
  by_cases hb:32<b
  ·have HN:nB ip b=false:=dec_n (by omega)
   rw [HN];clear HN
   go_enter Tryz.func112,Tryz.ntmps112
   go_wp2_with fail
   refine (HA.out _).mono ?_
   rintro e w1 ⟨rfl,hw⟩
   subst hw
   go_wp2
   go_ret
   exact ⟨rfl,(Grw.refl _).alloc _⟩
  have e:nB ip b=decide (ip=ip / netM b * netM b∧(b:Int)=b):=by
   have:=mul_same ip (netM b) (netM_pos b)
   unfold nB dec
   apply decide_eq_decide.2
   constructor
   ·rintro ⟨_,_,_,_,h⟩;exact ⟨this.2 h,rfl⟩
   ·rintro ⟨h,_⟩;exact ⟨ha.1,ha.2,by omega,by omega,this.1 h⟩
  rw [e]
  clear e
  have HR:Hid (∀ w,Calls Tryz.prog 114 #[.int .i64 ip,.int .i64 b] w fun e w'=>e=.returned (.agg #[.int .i64 (ip / netM b * netM b),.int .i64 b])∧Grw w w'):=fun w=>netAround_any ip b w ha.1 ha.2 (by omega)
  generalize ip / netM b * netM b=r at HR ⊢
  have he:∀ w,(binOp .eql 44 (.agg #[.int .i64 ip,.int .i64 b]) (.agg #[.int .i64 r,.int .i64 b])).run Tryz.prog w=.ok (.bool (decide (ip=r∧(b:Int)=b))) w:=fun w=>eql_net ip b r b w
  generalize decide (ip=r∧(b:Int)=b)=q at he ⊢
  go_enter Tryz.func112,Tryz.ntmps112
  go_wp2_with fail
  refine (HA.out _).mono ?_
  rintro e w1 ⟨rfl,hw⟩
  subst hw
  go_wp2_with fail
  have hmix:Tryz.prog.follows .mixedOrders=true:=by kernel_rfl
  have k0:∀ n os,(grow ((w.alloc (.cells #[.int .i64 ip,.int .i64 b] 44)).drewN n) os).cell? ⟨w.heap.size,0,none⟩=some (.int .i64 ip):=fun n os=>cell_grown (by simp) (by simp) n os
  have k1:∀ n os,(grow ((w.alloc (.cells #[.int .i64 ip,.int .i64 b] 44)).drewN n) os).cell? ⟨w.heap.size,1,none⟩=some (.int .i64 b):=fun n os=>cell_grown (by simp) (by simp) n os
  refine wp_region_quiet_grown (by assumption) (by kernel_rfl) ?_
  repeat (go_big_quiet_step (first | fail | (go_at_call 114;exact Calls.grown_of (HR.out _))))
  refine wpQuiet_nil ?_
  intro _ hw'
  obtain ⟨⟨nq,osq⟩,hw''⟩:=hw'
  subst hw''
  go_wp2
  go_ret
  exact ⟨rfl,((Grw.refl _).alloc _).trans ⟨nq,osq,rfl⟩⟩
 ·have HN:nB ip b=false:=dec_n (by omega)
  rw [HN];clear HN
  rw [dec_n ha] at hq
  subst hq
  go_enter Tryz.func112,Tryz.ntmps112
  go_wp2_with fail
  refine (HA.out _).mono ?_
  rintro e w1 ⟨rfl,hw⟩
  subst hw
  go_wp2
  go_ret
  exact ⟨rfl,(Grw.refl _).alloc _⟩
theorem specNetOK_any (ip b:Int) (w:World) :
  Calls Tryz.prog 128 #[.agg #[.int .i64 ip,.int .i64 b]] w fun e w'=>e=.returned (.bool (nB ip b))∧Grw w w':=by
 obtain ⟨q,hq⟩:∃ q,q=dec (0≤ip∧ip≤4294967295):=⟨_,rfl⟩
 have HA:Hid (∀ w,Calls Tryz.prog 23 #[.int .i64 ip] w fun e w'=>e=.returned (.bool q)∧w'=w):=fun w=>hq ▸ specIp_any ip w
 obtain ⟨r,hr⟩:∃ r,r=dec (0≤b∧b≤32):=⟨_,rfl⟩
 have HI:Hid (∀ w,Calls Tryz.prog 65 #[.int .i64 b,.int .i64 0,.int .i64 32] w fun e w'=>e=.returned (.bool r)∧w'=w):=fun w=>hr ▸ specIn_any b 0 32 w
 by_cases ha:0≤ip∧ip≤4294967295
 ·rw [dec_y ha] at hq
  subst hq
  by_cases hb:0≤b∧b≤32
  ·rw [dec_y hb] at hr
   subst hr
   obtain ⟨b,rfl⟩:=Int.eq_ofNat_of_zero_le hb.1
   have e:nB ip b=(ip % netM b == 0):=by
    unfold nB dec
    rw [Bool.eq_iff_iff,decide_eq_true_eq,beq_iff_eq]
    exact ⟨fun h=>h.2.2.2.2,fun h=>⟨ha.1,ha.2,by omega,by omega,h⟩⟩
   rw [e]
   have hm:=within ip b ha.1 ha.2 (by omega)
   generalize ip % netM b=m at hm ⊢
   have c0:IntKind.i64.wrap (32 - (b:Int))=((32 - b:Nat):Int):=by rw [IntKind.wrap_i64];omega
   have c1:IntKind.u64.wrap ((32 - b:Nat):Int)=((32 - b:Nat):Int):=by rw [IntKind.wrap_u64];omega
   have c2:wrap64 (2 ^ (32 - b))=2 ^ (32 - b):=pow_wrap b
   have c3:wrap64 (2 ^ (32 - b) - 1)=2 ^ (32 - b) - 1:=pow_wrap1 b
   clear e
   go_enter Tryz.func128,Tryz.ntmps128
   go_wp2_with fail
   refine (HA.out _).mono ?_
   rintro e w1 ⟨rfl,hw⟩
   subst hw
   go_wp2_with fail
   refine (HI.out _).mono ?_
   rintro e w1 ⟨rfl,hw⟩
   subst hw
   go_wp2
   go_ret
   exact ⟨rfl,(Grw.refl _).alloc _⟩
  ·have HN:nB ip b=false:=dec_n (by omega)
   rw [HN];clear HN
   rw [dec_n hb] at hr
   subst hr
   go_enter Tryz.func128,Tryz.ntmps128
   go_wp2_with fail
   refine (HA.out _).mono ?_
   rintro e w1 ⟨rfl,hw⟩
   subst hw
   go_wp2_with fail
   refine (HI.out _).mono ?_
   rintro e w1 ⟨rfl,hw⟩
   subst hw
   go_wp2
   go_ret
   exact ⟨rfl,(Grw.refl _).alloc _⟩
 ·have HN:nB ip b=false:=dec_n (by omega)
  rw [HN];clear HN
  rw [dec_n ha] at hq
  subst hq
  go_enter Tryz.func128,Tryz.ntmps128
  go_wp2_with fail
  refine (HA.out _).mono ?_
  rintro e w1 ⟨rfl,hw⟩
  subst hw
  go_wp2
  go_ret
  exact ⟨rfl,(Grw.refl _).alloc _⟩
theorem nB_yes {ip b:Int} (h:nB ip b=true):0≤ip∧ip≤4294967295∧0≤b∧b≤32∧ip % netM b=0:=by
 unfold nB dec at h
 exact of_decide_eq_true h
theorem l05Has_any (ip b x:Int) (w:World) (hb0:0≤b) (hb1:b≤32) :
  Calls Tryz.prog 24 #[.agg #[.int .i64 ip,.int .i64 b],.int .i64 x] w fun e w'=>e=.returned (.bool (hB ip b x))∧Grw w w':=by
 obtain ⟨b,rfl⟩:=Int.eq_ofNat_of_zero_le hb0
 have e:hB ip b x=(ip / 2 ^ (32 - b) == x / 2 ^ (32 - b)):=by
  unfold hB dec netM
  rw [Bool.eq_iff_iff,decide_eq_true_eq,beq_iff_eq]
  exact Iff.rfl
 rw [e]
 clear e
 have c0:IntKind.i64.wrap (32 - (b:Int))=((32 - b:Nat):Int):=by rw [IntKind.wrap_i64];omega
 have c1:IntKind.u64.wrap ((32 - b:Nat):Int)=((32 - b:Nat):Int):=by rw [IntKind.wrap_u64];omega
 go_enter Tryz.func24,Tryz.ntmps24
 go_wp2
 go_ret
 exact ⟨rfl,(Grw.refl _).alloc _⟩
def nhB (ip b x:Int):Bool:=nB ip b && dec (0≤x∧x≤4294967295) && hB ip b x
def nhC (ip b x:Int):Int:=if nB ip b=false then 1 else if dec (0≤x∧x≤4294967295)=false then 4 else 0
theorem has_around (ip x:Int) (b:Nat) (h:nB ip b=true):hB ip b x=decide (ip=x / netM b * netM b∧(b:Int)=b):=by
 have:=mul_has ip x (netM b) (netM_pos b) (nB_yes h).2.2.2.2
 unfold hB dec
 apply decide_eq_decide.2
 rw [this]
 simp
theorem implNetHas_any (ip b x:Int) (w:World) :
  Calls Tryz.prog 79 #[.agg #[.int .i64 ip,.int .i64 b],.int .i64 x] w fun e w'=>e=.returned (.tuple #[.bool (nhB ip b x),.int .i64 (nhC ip b x)])∧Grw w w':=by
 obtain ⟨q,hq⟩:∃ q,q=nB ip b:=⟨_,rfl⟩
 have HO:Hid (∀ w,Calls Tryz.prog 112 #[.agg #[.int .i64 ip,.int .i64 b]] w fun e w'=>e=.returned (.bool q)∧Grw w w'):=fun w=>hq ▸ implNetOK_any ip b w
 obtain ⟨r,hr⟩:∃ r,r=dec (0≤x∧x≤4294967295):=⟨_,rfl⟩
 have HA:Hid (∀ w,Calls Tryz.prog 113 #[.int .i64 x] w fun e w'=>e=.returned (.bool r)∧w'=w):=fun w=>hr ▸ addressOK_any x w
 cases q with
 | false =>
  have e1:nhB ip b x=false:=by unfold nhB;rw [← hq];rfl
  have e2:nhC ip b x=1:=by unfold nhC;rw [← hq];rfl
  rw [e1,e2]
  clear e1 e2 hq hr
  go_enter Tryz.func79,Tryz.ntmps79
  go_wp2_with fail
  refine (HO.out _).mono ?_
  rintro e w1 ⟨rfl,b1⟩
  have B1:Hid (Grw w w1):=((Grw.refl _).alloc _).trans b1
  clear b1
  go_wp2
  go_ret2
  exact ⟨rfl,B1.out⟩
 | true =>
  have hn:=nB_yes hq.symm
  cases r with
  | false =>
   have e1:nhB ip b x=false:=by unfold nhB;rw [← hq,← hr];rfl
   have e2:nhC ip b x=4:=by unfold nhC;rw [← hq,← hr];rfl
   rw [e1,e2]
   clear e1 e2 hq hr hn
   go_enter Tryz.func79,Tryz.ntmps79
   go_wp2_with fail
   refine (HO.out _).mono ?_
   rintro e w1 ⟨rfl,b1⟩
   have B1:Hid (Grw w w1):=((Grw.refl _).alloc _).trans b1
   clear b1
   go_wp2_with fail
   refine (HA.out _).mono ?_
   rintro e w2 ⟨rfl,hw⟩
   subst hw
   go_wp2
   go_ret2
   exact ⟨rfl,B1.out⟩
  | true =>
   obtain ⟨b,rfl⟩:=Int.eq_ofNat_of_zero_le hn.2.2.1
   have hx:0≤x∧x≤4294967295:=of_decide_eq_true hr.symm
   have e1:nhB ip b x=decide (ip=x / netM b * netM b∧(b:Int)=b):=by unfold nhB;rw [← hq,← hr,← has_around ip x b hq.symm];rfl
   have e2:nhC ip b x=0:=by unfold nhC;rw [← hq,← hr];rfl
   rw [e1,e2]
   have HR:Hid (∀ w,Calls Tryz.prog 114 #[.int .i64 x,.int .i64 b] w fun e w'=>e=.returned (.agg #[.int .i64 (x / netM b * netM b),.int .i64 b])∧Grw w w'):=fun w=>netAround_any x b w hx.1 hx.2 (by omega)
   clear e1 e2 hq hr hn
   generalize x / netM b * netM b=r at HR ⊢
   have he:∀ w,(binOp .eql 44 (.agg #[.int .i64 ip,.int .i64 b]) (.agg #[.int .i64 r,.int .i64 b])).run Tryz.prog w=.ok (.bool (decide (ip=r∧(b:Int)=b))) w:=fun w=>eql_net ip b r b w
   generalize decide (ip=r∧(b:Int)=b)=q at he ⊢
   have hmix:Tryz.prog.follows .mixedOrders=true:=by kernel_rfl
   go_enter Tryz.func79,Tryz.ntmps79
   go_wp2_with fail
   refine (HO.out _).mono ?_
   rintro e w1 ⟨rfl,b1⟩
   have B1:Hid (Grw w w1):=((Grw.refl _).alloc _).trans b1
   have q0:w1.cell? ⟨w.heap.size,0,none⟩=some (.int .i64 ip):=by rw [b1.below.cell (by simp)];simp
   have q1:w1.cell? ⟨w.heap.size,1,none⟩=some (.int .i64 b):=by rw [b1.below.cell (by simp)];simp
   clear b1
   go_wp2_with fail
   refine (HA.out _).mono ?_
   rintro e w2 ⟨rfl,hw⟩
   subst hw
   have hl:w.heap.size<w2.heap.size:=World.block_lt_of_cell? w2 _ q0
   have k0:∀ n os,(grow (w2.drewN n) os).cell? ⟨w.heap.size,0,none⟩=some (.int .i64 ip):=fun n os=>cell_grown (by exact hl) q0 n os
   have k1:∀ n os,(grow (w2.drewN n) os).cell? ⟨w.heap.size,1,none⟩=some (.int .i64 b):=fun n os=>cell_grown (by exact hl) q1 n os
   go_wp2_with fail
   refine wp_region_quiet_grown (by assumption) (by kernel_rfl) ?_
   repeat (go_big_quiet_step (first | fail | (go_at_call 114;exact Calls.grown_of (HR.out _))))
   refine wpQuiet_nil ?_
   intro _ hw'
   obtain ⟨⟨nq,osq⟩,hw''⟩:=hw'
   subst hw''
   go_wp2
   go_ret2
   exact ⟨rfl,B1.out.trans ⟨nq,osq,rfl⟩⟩
def rgB (lo hi:Int):Bool:=dec (0≤lo∧lo≤65535) && dec (lo≤hi∧hi≤65535)
def prB (p:Int):Bool:=dec (p=0 ∨ p=1 ∨ p=6 ∨ p=17)
def plB (ip b lo hi:Int):Bool:=nB ip b && rgB lo hi
def ruB (r:RuleV):Bool:=prB r.p && plB r.ip r.b r.lo r.hi
theorem dec_congr {p q:Prop} [Decidable p] [Decidable q] (h:p ↔ q):dec p=dec q:=decide_eq_decide.2 h
theorem rg_ports (lo hi:Int):(dec (0≤lo∧lo≤65535) && (dec (0≤hi∧hi≤65535) && decide (lo≤hi)))=rgB lo hi:=by
 unfold rgB dec
 rw [Bool.eq_iff_iff]
 simp
 omega
theorem l07Range_any (lo hi:Int) (w:World) :
  Calls Tryz.prog 129 #[.agg #[.int .i64 lo,.int .i64 hi]] w fun e w'=>e=.returned (.bool (rgB lo hi))∧Grw w w':=by
 obtain ⟨q,hq⟩:∃ q,q=dec (0≤lo∧lo≤65535):=⟨_,rfl⟩
 obtain ⟨r,hr⟩:∃ r,r=dec (lo≤hi∧hi≤65535):=⟨_,rfl⟩
 have HA:Hid (∀ w,Calls Tryz.prog 65 #[.int .i64 lo,.int .i64 0,.int .i64 65535] w fun e w'=>e=.returned (.bool q)∧w'=w):=fun w=>hq ▸ specIn_any lo 0 65535 w
 have HB:Hid (∀ w,Calls Tryz.prog 65 #[.int .i64 hi,.int .i64 lo,.int .i64 65535] w fun e w'=>e=.returned (.bool r)∧w'=w):=fun w=>hr ▸ specIn_any hi lo 65535 w
 have E:Hid (rgB lo hi=(q && r)):=by rw [hq,hr];rfl
 clear hq hr
 go_enter Tryz.func129,Tryz.ntmps129
 go_wp2_with fail
 refine (HA.out _).mono ?_
 rintro e wx1 ⟨rfl,rfl⟩
 cases q with
 | false =>
  go_wp2
  go_ret
  exact ⟨by rw [E.out];rfl,((Grw.refl _).alloc _)⟩
 | true =>
  go_wp2_with fail
  refine (HB.out _).mono ?_
  rintro e wx2 ⟨rfl,rfl⟩
  cases r with
  | false =>
   go_wp2
   go_ret
   exact ⟨by rw [E.out];rfl,((Grw.refl _).alloc _)⟩
  | true =>
   go_wp2
   go_ret
   exact ⟨by rw [E.out];rfl,((Grw.refl _).alloc _)⟩
set_option maxHeartbeats 1000000 in
theorem specRuleOK_any (p ip b lo hi:Int) (al:Bool) (w:World) :
  Calls Tryz.prog 148 #[.agg #[.int .i64 p,.int .i64 ip,.int .i64 b,.int .i64 lo,.int .i64 hi,.bool al]] w fun e w'=>e=.returned (.bool (ruB ⟨p,ip,b,lo,hi,al⟩))∧Grw w w':=by
 obtain ⟨q,hq⟩:∃ q,q=nB ip b:=⟨_,rfl⟩
 obtain ⟨r,hr⟩:∃ r,r=rgB lo hi:=⟨_,rfl⟩
 have HA:Hid (∀ w,Calls Tryz.prog 128 #[.agg #[.int .i64 ip,.int .i64 b]] w fun e w'=>e=.returned (.bool q)∧Grw w w'):=fun w=>hq ▸ specNetOK_any ip b w
 have HB:Hid (∀ w,Calls Tryz.prog 129 #[.agg #[.int .i64 lo,.int .i64 hi]] w fun e w'=>e=.returned (.bool r)∧Grw w w'):=fun w=>hr ▸ l07Range_any lo hi w
 have E:Hid (ruB ⟨p,ip,b,lo,hi,al⟩=(prB p && (q && r))):=by rw [hq,hr];rfl
 clear hq hr
 generalize ruB ⟨p,ip,b,lo,hi,al⟩=z at E ⊢
 by_cases hp:p=0 ∨ p=1 ∨ p=6 ∨ p=17
 ·have e1:prB p=true:=dec_y hp
  rw [e1] at E
  rcases hp with hp | hp | hp | hp
  ·have n0:(p == 0)=true:=by simp;omega
   have n1:(p == 1)=false:=by simp;omega
   have n2:(p == 6)=false:=by simp;omega
   have n3:(p == 17)=false:=by simp;omega
   go_enter Tryz.func148,Tryz.ntmps148
   go_wp2_with fail
   refine (HA.out _).mono ?_
   rintro e wx1 ⟨rfl,bx⟩
   have k1:World.cell? _ ⟨w.heap.size,1,none⟩=some (.int .i64 ip):=bx.keep (a:=⟨w.heap.size,1,none⟩) (v:=.int .i64 ip) (by simp [go_sem])
   have k2:World.cell? _ ⟨w.heap.size,2,none⟩=some (.int .i64 b):=bx.keep (a:=⟨w.heap.size,2,none⟩) (v:=.int .i64 b) (by simp [go_sem])
   have k3:World.cell? _ ⟨w.heap.size,3,none⟩=some (.int .i64 lo):=bx.keep (a:=⟨w.heap.size,3,none⟩) (v:=.int .i64 lo) (by simp [go_sem])
   have k4:World.cell? _ ⟨w.heap.size,4,none⟩=some (.int .i64 hi):=bx.keep (a:=⟨w.heap.size,4,none⟩) (v:=.int .i64 hi) (by simp [go_sem])
   have BX:Hid (Grw w _):=((Grw.refl _).alloc _).trans bx
   clear bx
   cases q with
   | false =>
    go_wp2
    go_ret
    exact ⟨by rw [E.out];rfl,BX.out⟩
   | true =>
    go_wp2_with fail
    refine (HB.out _).mono ?_
    rintro e wx2 ⟨rfl,bx⟩
    replace k1:=bx.keep k1
    replace k2:=bx.keep k2
    replace k3:=bx.keep k3
    replace k4:=bx.keep k4
    replace BX:Hid (Grw w _):=BX.out.trans bx
    clear bx
    cases r with
    | false =>
     go_wp2
     go_ret
     exact ⟨by rw [E.out];rfl,BX.out⟩
    | true =>
     go_wp2
     go_ret
     exact ⟨by rw [E.out];rfl,BX.out⟩
  ·have n0:(p == 0)=false:=by simp;omega
   have n1:(p == 1)=true:=by simp;omega
   have n2:(p == 6)=false:=by simp;omega
   have n3:(p == 17)=false:=by simp;omega
   go_enter Tryz.func148,Tryz.ntmps148
   go_wp2_with fail
   refine (HA.out _).mono ?_
   rintro e wx1 ⟨rfl,bx⟩
   have k1:World.cell? _ ⟨w.heap.size,1,none⟩=some (.int .i64 ip):=bx.keep (a:=⟨w.heap.size,1,none⟩) (v:=.int .i64 ip) (by simp [go_sem])
   have k2:World.cell? _ ⟨w.heap.size,2,none⟩=some (.int .i64 b):=bx.keep (a:=⟨w.heap.size,2,none⟩) (v:=.int .i64 b) (by simp [go_sem])
   have k3:World.cell? _ ⟨w.heap.size,3,none⟩=some (.int .i64 lo):=bx.keep (a:=⟨w.heap.size,3,none⟩) (v:=.int .i64 lo) (by simp [go_sem])
   have k4:World.cell? _ ⟨w.heap.size,4,none⟩=some (.int .i64 hi):=bx.keep (a:=⟨w.heap.size,4,none⟩) (v:=.int .i64 hi) (by simp [go_sem])
   have BX:Hid (Grw w _):=((Grw.refl _).alloc _).trans bx
   clear bx
   cases q with
   | false =>
    go_wp2
    go_ret
    exact ⟨by rw [E.out];rfl,BX.out⟩
   | true =>
    go_wp2_with fail
    refine (HB.out _).mono ?_
    rintro e wx2 ⟨rfl,bx⟩
    replace k1:=bx.keep k1
    replace k2:=bx.keep k2
    replace k3:=bx.keep k3
    replace k4:=bx.keep k4
    replace BX:Hid (Grw w _):=BX.out.trans bx
    clear bx
    cases r with
    | false =>
     go_wp2
     go_ret
     exact ⟨by rw [E.out];rfl,BX.out⟩
    | true =>
     go_wp2
     go_ret
     exact ⟨by rw [E.out];rfl,BX.out⟩
  ·have n0:(p == 0)=false:=by simp;omega
   have n1:(p == 1)=false:=by simp;omega
   have n2:(p == 6)=true:=by simp;omega
   have n3:(p == 17)=false:=by simp;omega
   go_enter Tryz.func148,Tryz.ntmps148
   go_wp2_with fail
   refine (HA.out _).mono ?_
   rintro e wx1 ⟨rfl,bx⟩
   have k1:World.cell? _ ⟨w.heap.size,1,none⟩=some (.int .i64 ip):=bx.keep (a:=⟨w.heap.size,1,none⟩) (v:=.int .i64 ip) (by simp [go_sem])
   have k2:World.cell? _ ⟨w.heap.size,2,none⟩=some (.int .i64 b):=bx.keep (a:=⟨w.heap.size,2,none⟩) (v:=.int .i64 b) (by simp [go_sem])
   have k3:World.cell? _ ⟨w.heap.size,3,none⟩=some (.int .i64 lo):=bx.keep (a:=⟨w.heap.size,3,none⟩) (v:=.int .i64 lo) (by simp [go_sem])
   have k4:World.cell? _ ⟨w.heap.size,4,none⟩=some (.int .i64 hi):=bx.keep (a:=⟨w.heap.size,4,none⟩) (v:=.int .i64 hi) (by simp [go_sem])
   have BX:Hid (Grw w _):=((Grw.refl _).alloc _).trans bx
   clear bx
   cases q with
   | false =>
    go_wp2
    go_ret
    exact ⟨by rw [E.out];rfl,BX.out⟩
   | true =>
    go_wp2_with fail
    refine (HB.out _).mono ?_
    rintro e wx2 ⟨rfl,bx⟩
    replace k1:=bx.keep k1
    replace k2:=bx.keep k2
    replace k3:=bx.keep k3
    replace k4:=bx.keep k4
    replace BX:Hid (Grw w _):=BX.out.trans bx
    clear bx
    cases r with
    | false =>
     go_wp2
     go_ret
     exact ⟨by rw [E.out];rfl,BX.out⟩
    | true =>
     go_wp2
     go_ret
     exact ⟨by rw [E.out];rfl,BX.out⟩
  ·have n0:(p == 0)=false:=by simp;omega
   have n1:(p == 1)=false:=by simp;omega
   have n2:(p == 6)=false:=by simp;omega
   have n3:(p == 17)=true:=by simp;omega
   go_enter Tryz.func148,Tryz.ntmps148
   go_wp2_with fail
   refine (HA.out _).mono ?_
   rintro e wx1 ⟨rfl,bx⟩
   have k1:World.cell? _ ⟨w.heap.size,1,none⟩=some (.int .i64 ip):=bx.keep (a:=⟨w.heap.size,1,none⟩) (v:=.int .i64 ip) (by simp [go_sem])
   have k2:World.cell? _ ⟨w.heap.size,2,none⟩=some (.int .i64 b):=bx.keep (a:=⟨w.heap.size,2,none⟩) (v:=.int .i64 b) (by simp [go_sem])
   have k3:World.cell? _ ⟨w.heap.size,3,none⟩=some (.int .i64 lo):=bx.keep (a:=⟨w.heap.size,3,none⟩) (v:=.int .i64 lo) (by simp [go_sem])
   have k4:World.cell? _ ⟨w.heap.size,4,none⟩=some (.int .i64 hi):=bx.keep (a:=⟨w.heap.size,4,none⟩) (v:=.int .i64 hi) (by simp [go_sem])
   have BX:Hid (Grw w _):=((Grw.refl _).alloc _).trans bx
   clear bx
   cases q with
   | false =>
    go_wp2
    go_ret
    exact ⟨by rw [E.out];rfl,BX.out⟩
   | true =>
    go_wp2_with fail
    refine (HB.out _).mono ?_
    rintro e wx2 ⟨rfl,bx⟩
    replace k1:=bx.keep k1
    replace k2:=bx.keep k2
    replace k3:=bx.keep k3
    replace k4:=bx.keep k4
    replace BX:Hid (Grw w _):=BX.out.trans bx
    clear bx
    cases r with
    | false =>
     go_wp2
     go_ret
     exact ⟨by rw [E.out];rfl,BX.out⟩
    | true =>
     go_wp2
     go_ret
     exact ⟨by rw [E.out];rfl,BX.out⟩
 ·have e1:prB p=false:=dec_n hp
  rw [e1] at E
  have n0:(p == 0)=false:=by simp;omega
  have n1:(p == 1)=false:=by simp;omega
  have n2:(p == 6)=false:=by simp;omega
  have n3:(p == 17)=false:=by simp;omega
  go_enter Tryz.func148,Tryz.ntmps148
  go_wp2
  go_ret
  exact ⟨by rw [E.out];rfl,(Grw.refl _).alloc _⟩
theorem placeOf_any (p ip b lo hi:Int) (al:Bool) (w:World) :
  Calls Tryz.prog 177 #[.agg #[.int .i64 p,.int .i64 ip,.int .i64 b,.int .i64 lo,.int .i64 hi,.bool al]] w fun e w'=>e=.returned (.agg #[.int .i64 ip,.int .i64 b,.int .i64 lo,.int .i64 hi])∧Grw w w':=by
 go_enter Tryz.func177,Tryz.ntmps177
 go_wp2
 (try simp only [Exit.inBlock,Exit.then])
 refine bodyPost_ret (v:=.agg #[.int .i64 ip,.int .i64 b,.int .i64 lo,.int .i64 hi]) (by simp [results,Tryz.results177,go_sem];try rfl) rfl ?_
 exact ⟨rfl,((Grw.refl _).alloc _).alloc _⟩
set_option maxHeartbeats 1000000 in
theorem placeOK_any (ip b lo hi:Int) (w:World) (hl:lo≤9223372036854775807) (hh:hi≤9223372036854775807) :
  Calls Tryz.prog 150 #[.agg #[.int .i64 ip,.int .i64 b,.int .i64 lo,.int .i64 hi]] w fun e w'=>e=.returned (.bool (plB ip b lo hi))∧Grw w w':=by
 obtain ⟨q,hq⟩:∃ q,q=nB ip b:=⟨_,rfl⟩
 obtain ⟨r,hr⟩:∃ r,r=dec (0≤lo∧lo≤65535):=⟨_,rfl⟩
 obtain ⟨s,hs⟩:∃ s,s=dec (0≤hi∧hi≤65535):=⟨_,rfl⟩
 obtain ⟨u,hu⟩:∃ u,u=decide (lo≤hi):=⟨_,rfl⟩
 have HA:Hid (∀ w,Calls Tryz.prog 112 #[.agg #[.int .i64 ip,.int .i64 b]] w fun e w'=>e=.returned (.bool q)∧Grw w w'):=fun w=>hq ▸ implNetOK_any ip b w
 have HB:Hid (∀ w,Calls Tryz.prog 167 #[.int .i64 lo] w fun e w'=>e=.returned (.bool r)∧w'=w):=fun w=>hr ▸ portOK_any lo w hl
 have HC:Hid (∀ w,Calls Tryz.prog 167 #[.int .i64 hi] w fun e w'=>e=.returned (.bool s)∧w'=w):=fun w=>hs ▸ portOK_any hi w hh
 have E:Hid (plB ip b lo hi=(q && (r && (s && u)))):=by
  rw [hq,hr,hs,hu,rg_ports]
  rfl
 have hu':decide (lo≤hi)=u:=hu.symm
 clear hq hr hs hu
 go_enter Tryz.func150,Tryz.ntmps150
 go_wp2_with fail
 refine (HA.out _).mono ?_
 rintro e wx1 ⟨rfl,bx⟩
 have k0:World.cell? _ ⟨w.heap.size,0,none⟩=some (.int .i64 ip):=bx.keep (a:=⟨w.heap.size,0,none⟩) (v:=.int .i64 ip) (by simp [go_sem])
 have k1:World.cell? _ ⟨w.heap.size,1,none⟩=some (.int .i64 b):=bx.keep (a:=⟨w.heap.size,1,none⟩) (v:=.int .i64 b) (by simp [go_sem])
 have k2:World.cell? _ ⟨w.heap.size,2,none⟩=some (.int .i64 lo):=bx.keep (a:=⟨w.heap.size,2,none⟩) (v:=.int .i64 lo) (by simp [go_sem])
 have k3:World.cell? _ ⟨w.heap.size,3,none⟩=some (.int .i64 hi):=bx.keep (a:=⟨w.heap.size,3,none⟩) (v:=.int .i64 hi) (by simp [go_sem])
 have BX:Hid (Grw w _):=((Grw.refl _).alloc _).trans bx
 clear bx
 cases q with
 | false =>
  go_wp2
  go_ret
  exact ⟨by rw [E.out];rfl,BX.out⟩
 | true =>
  go_wp2_with fail
  refine (HB.out _).mono ?_
  rintro e wx2 ⟨rfl,rfl⟩
  cases r with
  | false =>
   go_wp2
   go_ret
   exact ⟨by rw [E.out];rfl,BX.out⟩
  | true =>
   go_wp2_with fail
   refine (HC.out _).mono ?_
   rintro e wx3 ⟨rfl,rfl⟩
   cases s with
   | false =>
    go_wp2
    go_ret
    exact ⟨by rw [E.out];rfl,BX.out⟩
   | true =>
    go_wp2
    go_ret
    exact ⟨by rw [E.out];rfl,BX.out⟩
def pwS (p:Int):ByteArray:=if p=0 then ⟨#[97,110,121]⟩ else if p=1 then ⟨#[105,99,109,112]⟩ else if p=6 then ⟨#[116,99,112]⟩ else if p=17 then ⟨#[117,100,112]⟩ else ⟨#[]⟩
theorem protoWord_any (p:Int) (w:World) :
  Calls Tryz.prog 176 #[.int .i64 p] w fun e w'=>e=.returned (.string (pwS p))∧w'=w:=by
 by_cases h0:p=0
 ·subst h0
  go_enter Tryz.func176,Tryz.ntmps176
  go_wp2
  go_ret
  exact ⟨rfl,rfl⟩
 by_cases h1:p=1
 ·subst h1
  go_enter Tryz.func176,Tryz.ntmps176
  go_wp2
  go_ret
  exact ⟨rfl,rfl⟩
 by_cases h2:p=6
 ·subst h2
  go_enter Tryz.func176,Tryz.ntmps176
  go_wp2
  go_ret
  exact ⟨rfl,rfl⟩
 by_cases h3:p=17
 ·subst h3
  go_enter Tryz.func176,Tryz.ntmps176
  go_wp2
  go_ret
  exact ⟨rfl,rfl⟩
 have e:pwS p=⟨#[]⟩:=by unfold pwS;rw [if_neg h0,if_neg h1,if_neg h2,if_neg h3]
 rw [e]
 have n0:(p == 0)=false:=by simp;omega
 have n1:(p == 1)=false:=by simp;omega
 have n2:(p == 6)=false:=by simp;omega
 have n3:(p == 17)=false:=by simp;omega
 go_enter Tryz.func176,Tryz.ntmps176
 go_wp2
 go_ret
 exact ⟨rfl,rfl⟩
set_option maxHeartbeats 1000000 in
theorem implRuleOK_any (p ip b lo hi:Int) (al:Bool) (w:World) (hl:lo≤9223372036854775807) (hh:hi≤9223372036854775807) :
  Calls Tryz.prog 168 #[.agg #[.int .i64 p,.int .i64 ip,.int .i64 b,.int .i64 lo,.int .i64 hi,.bool al]] w fun e w'=>e=.returned (.bool (ruB ⟨p,ip,b,lo,hi,al⟩))∧Grw w w':=by
 obtain ⟨r,hr⟩:∃ r,r=plB ip b lo hi:=⟨_,rfl⟩
 have HP:=fun w=>protoWord_any p w
 have HA:Hid (∀ w,Calls Tryz.prog 176 #[.int .i64 p] w fun e w'=>e=.returned (.string (pwS p))∧w'=w):=fun w=>protoWord_any p w
 have HB:Hid (∀ w,Calls Tryz.prog 177 #[.agg #[.int .i64 p,.int .i64 ip,.int .i64 b,.int .i64 lo,.int .i64 hi,.bool al]] w fun e w'=>e=.returned (.agg #[.int .i64 ip,.int .i64 b,.int .i64 lo,.int .i64 hi])∧Grw w w'):=fun w=>placeOf_any p ip b lo hi al w
 have HC:Hid (∀ w,Calls Tryz.prog 150 #[.agg #[.int .i64 ip,.int .i64 b,.int .i64 lo,.int .i64 hi]] w fun e w'=>e=.returned (.bool r)∧Grw w w'):=fun w=>hr ▸ placeOK_any ip b lo hi w hl hh
 have E:Hid (ruB ⟨p,ip,b,lo,hi,al⟩=(prB p && r)):=by rw [hr];rfl
 clear hr HP
 generalize ruB ⟨p,ip,b,lo,hi,al⟩=z at E ⊢
 by_cases hp:p=0 ∨ p=1 ∨ p=6 ∨ p=17
 ·have e1:prB p=true:=dec_y hp
  rw [e1] at E
  have hS:((pwS p).toList == [])=false:=by rcases hp with rfl | rfl | rfl | rfl <;> simp [pwS]
  generalize pwS p=S at HA hS
  go_enter Tryz.func168,Tryz.ntmps168
  go_wp2_with fail
  refine (HA.out _).mono ?_
  rintro e wx1 ⟨rfl,rfl⟩
  go_wp2_with fail
  refine (HB.out _).mono ?_
  rintro e wx2 ⟨rfl,bx⟩
  have k0:World.cell? _ ⟨w.heap.size,0,none⟩=some (.int .i64 p):=bx.keep (a:=⟨w.heap.size,0,none⟩) (v:=.int .i64 p) (by simp [go_sem])
  have k1:World.cell? _ ⟨w.heap.size,1,none⟩=some (.int .i64 ip):=bx.keep (a:=⟨w.heap.size,1,none⟩) (v:=.int .i64 ip) (by simp [go_sem])
  have k2:World.cell? _ ⟨w.heap.size,2,none⟩=some (.int .i64 b):=bx.keep (a:=⟨w.heap.size,2,none⟩) (v:=.int .i64 b) (by simp [go_sem])
  have k3:World.cell? _ ⟨w.heap.size,3,none⟩=some (.int .i64 lo):=bx.keep (a:=⟨w.heap.size,3,none⟩) (v:=.int .i64 lo) (by simp [go_sem])
  have k4:World.cell? _ ⟨w.heap.size,4,none⟩=some (.int .i64 hi):=bx.keep (a:=⟨w.heap.size,4,none⟩) (v:=.int .i64 hi) (by simp [go_sem])
  have k5:World.cell? _ ⟨w.heap.size,5,none⟩=some (.bool al):=bx.keep (a:=⟨w.heap.size,5,none⟩) (v:=.bool al) (by simp [go_sem])
  have BX:Hid (Grw w _):=((Grw.refl _).alloc _).trans bx
  clear bx
  go_wp2_with fail
  refine (HC.out _).mono ?_
  rintro e wx3 ⟨rfl,bx⟩
  replace k0:=bx.keep k0
  replace k1:=bx.keep k1
  replace k2:=bx.keep k2
  replace k3:=bx.keep k3
  replace k4:=bx.keep k4
  replace k5:=bx.keep k5
  replace BX:Hid (Grw w _):=BX.out.trans bx
  clear bx
  go_wp2
  go_ret
  exact ⟨by rw [E.out];rfl,BX.out⟩
 ·have e1:prB p=false:=dec_n hp
  rw [e1] at E
  have e:pwS p=⟨#[]⟩:=by unfold pwS;rw [if_neg (by omega),if_neg (by omega),if_neg (by omega),if_neg (by omega)]
  rw [e] at HA
  go_enter Tryz.func168,Tryz.ntmps168
  go_wp2_with fail
  refine (HA.out _).mono ?_
  rintro e wx1 ⟨rfl,rfl⟩
  go_wp2
  go_ret
  exact ⟨by rw [E.out];rfl,(Grw.refl _).alloc _⟩
theorem toNet2 (f0 f1:Int) (w:World) :
  Calls Tryz.prog 27 #[.agg #[.int .i64 f0,.int .i64 f1]] w fun e w'=>e=.returned (.agg #[.int .i64 f0,.int .i64 f1])∧Below w.heap.size w w':=by
 go_enter Tryz.func27,Tryz.ntmps27
 go_wp2
 (try simp only [Exit.inBlock,Exit.then])
 refine bodyPost_ret (v:=.agg #[.int .i64 f0,.int .i64 f1]) (by simp [results,Tryz.results27,go_sem];try rfl) rfl ?_
 exact ⟨rfl,((((Grw.refl _).alloc _).alloc _).alloc _).below⟩
theorem eqNet2 (x0 x1:Int) (w:World) :
  Calls Tryz.prog 47 #[.agg #[.int .i64 x0,.int .i64 x1],.agg #[.int .i64 x0,.int .i64 x1]] w fun e w'=>e=.returned (.bool true)∧Grw w w':=by
 have h0:(x0 != x0)=false:=by simp
 have h1:(x1 != x1)=false:=by simp
 go_enter Tryz.func47,Tryz.ntmps47
 go_wp2
 go_ret
 exact ⟨rfl,((Grw.refl _).alloc _).alloc _⟩
theorem toRange2 (f0 f1:Int) (w:World) :
  Calls Tryz.prog 104 #[.agg #[.int .i64 f0,.int .i64 f1]] w fun e w'=>e=.returned (.agg #[.int .i64 f0,.int .i64 f1])∧Below w.heap.size w w':=by
 go_enter Tryz.func104,Tryz.ntmps104
 go_wp2
 (try simp only [Exit.inBlock,Exit.then])
 refine bodyPost_ret (v:=.agg #[.int .i64 f0,.int .i64 f1]) (by simp [results,Tryz.results104,go_sem];try rfl) rfl ?_
 exact ⟨rfl,((((Grw.refl _).alloc _).alloc _).alloc _).below⟩
theorem eqRange2 (x0 x1:Int) (w:World) :
  Calls Tryz.prog 126 #[.agg #[.int .i64 x0,.int .i64 x1],.agg #[.int .i64 x0,.int .i64 x1]] w fun e w'=>e=.returned (.bool true)∧Grw w w':=by
 have h0:(x0 != x0)=false:=by simp
 have h1:(x1 != x1)=false:=by simp
 go_enter Tryz.func126,Tryz.ntmps126
 go_wp2
 go_ret
 exact ⟨rfl,((Grw.refl _).alloc _).alloc _⟩
set_option maxHeartbeats 1000000 in
theorem toRule_any (p ip b lo hi:Int) (al:Bool) (w:World) :
  Calls Tryz.prog 134 #[.agg #[.int .i64 p,.int .i64 ip,.int .i64 b,.int .i64 lo,.int .i64 hi,.bool al]] w fun e w'=>e=.returned (.agg #[.int .i64 p,.int .i64 ip,.int .i64 b,.int .i64 lo,.int .i64 hi,.bool al])∧Below w.heap.size w w':=by
 have HA:Hid (∀ w,Calls Tryz.prog 27 #[.agg #[.int .i64 ip,.int .i64 b]] w fun e w'=>e=.returned (.agg #[.int .i64 ip,.int .i64 b])∧Below w.heap.size w w'):=fun w=>toNet2 ip b w
 have HB:Hid (∀ w,Calls Tryz.prog 104 #[.agg #[.int .i64 lo,.int .i64 hi]] w fun e w'=>e=.returned (.agg #[.int .i64 lo,.int .i64 hi])∧Below w.heap.size w w'):=fun w=>toRange2 lo hi w
 go_enter Tryz.func134,Tryz.ntmps134
 go_wp2_with fail
 refine (HA.out _).mono ?_
 rintro e wx1 ⟨rfl,bx⟩
 have c1_0_0:wx1.cell? ⟨w.heap.size,0,none⟩=some (.int .i64 p):=bkeep bx (by simp [go_sem])
 have c1_0_1:wx1.cell? ⟨w.heap.size,1,none⟩=some (.int .i64 ip):=bkeep bx (by simp [go_sem])
 have c1_0_2:wx1.cell? ⟨w.heap.size,2,none⟩=some (.int .i64 b):=bkeep bx (by simp [go_sem])
 have c1_0_3:wx1.cell? ⟨w.heap.size,3,none⟩=some (.int .i64 lo):=bkeep bx (by simp [go_sem])
 have c1_0_4:wx1.cell? ⟨w.heap.size,4,none⟩=some (.int .i64 hi):=bkeep bx (by simp [go_sem])
 have c1_0_5:wx1.cell? ⟨w.heap.size,5,none⟩=some (.bool al):=bkeep bx (by simp [go_sem])
 have c1_1_0:wx1.cell? ⟨w.heap.size+1,0,none⟩=some (.int .i64 0):=bkeep bx (by simp [go_sem])
 have f1_1_0:wx1.frozen? ⟨w.heap.size+1,0,none⟩=false:=bthaw bx (v:=.int .i64 0) (by simp [go_sem]) (by simp [go_sem])
 have c1_1_1:wx1.cell? ⟨w.heap.size+1,1,none⟩=some (.int .i64 0):=bkeep bx (by simp [go_sem])
 have f1_1_1:wx1.frozen? ⟨w.heap.size+1,1,none⟩=false:=bthaw bx (v:=.int .i64 0) (by simp [go_sem]) (by simp [go_sem])
 have c1_1_2:wx1.cell? ⟨w.heap.size+1,2,none⟩=some (.int .i64 0):=bkeep bx (by simp [go_sem])
 have f1_1_2:wx1.frozen? ⟨w.heap.size+1,2,none⟩=false:=bthaw bx (v:=.int .i64 0) (by simp [go_sem]) (by simp [go_sem])
 have c1_1_3:wx1.cell? ⟨w.heap.size+1,3,none⟩=some (.int .i64 0):=bkeep bx (by simp [go_sem])
 have f1_1_3:wx1.frozen? ⟨w.heap.size+1,3,none⟩=false:=bthaw bx (v:=.int .i64 0) (by simp [go_sem]) (by simp [go_sem])
 have c1_1_4:wx1.cell? ⟨w.heap.size+1,4,none⟩=some (.int .i64 0):=bkeep bx (by simp [go_sem])
 have f1_1_4:wx1.frozen? ⟨w.heap.size+1,4,none⟩=false:=bthaw bx (v:=.int .i64 0) (by simp [go_sem]) (by simp [go_sem])
 have c1_1_5:wx1.cell? ⟨w.heap.size+1,5,none⟩=some (.bool false):=bkeep bx (by simp [go_sem])
 have f1_1_5:wx1.frozen? ⟨w.heap.size+1,5,none⟩=false:=bthaw bx (v:=.bool false) (by simp [go_sem]) (by simp [go_sem])
 have c1_2_0:wx1.cell? ⟨w.heap.size+1+1,0,none⟩=some (.int .i64 p):=bkeep bx (by simp [go_sem])
 have f1_2_0:wx1.frozen? ⟨w.heap.size+1+1,0,none⟩=false:=bthaw bx (v:=.int .i64 p) (by simp [go_sem]) (by simp [go_sem])
 have c1_2_1:wx1.cell? ⟨w.heap.size+1+1,1,none⟩=some (.int .i64 0):=bkeep bx (by simp [go_sem])
 have f1_2_1:wx1.frozen? ⟨w.heap.size+1+1,1,none⟩=false:=bthaw bx (v:=.int .i64 0) (by simp [go_sem]) (by simp [go_sem])
 have c1_2_2:wx1.cell? ⟨w.heap.size+1+1,2,none⟩=some (.int .i64 0):=bkeep bx (by simp [go_sem])
 have f1_2_2:wx1.frozen? ⟨w.heap.size+1+1,2,none⟩=false:=bthaw bx (v:=.int .i64 0) (by simp [go_sem]) (by simp [go_sem])
 have c1_2_3:wx1.cell? ⟨w.heap.size+1+1,3,none⟩=some (.int .i64 0):=bkeep bx (by simp [go_sem])
 have f1_2_3:wx1.frozen? ⟨w.heap.size+1+1,3,none⟩=false:=bthaw bx (v:=.int .i64 0) (by simp [go_sem]) (by simp [go_sem])
 have c1_2_4:wx1.cell? ⟨w.heap.size+1+1,4,none⟩=some (.int .i64 0):=bkeep bx (by simp [go_sem])
 have f1_2_4:wx1.frozen? ⟨w.heap.size+1+1,4,none⟩=false:=bthaw bx (v:=.int .i64 0) (by simp [go_sem]) (by simp [go_sem])
 have c1_2_5:wx1.cell? ⟨w.heap.size+1+1,5,none⟩=some (.bool false):=bkeep bx (by simp [go_sem])
 have f1_2_5:wx1.frozen? ⟨w.heap.size+1+1,5,none⟩=false:=bthaw bx (v:=.bool false) (by simp [go_sem]) (by simp [go_sem])
 have BX1:Hid (Below w.heap.size w wx1):=((((Below.refl w.heap.size w).alloc (by simp <;> omega) _).alloc (by simp <;> omega) _).alloc (by simp <;> omega) _).trans (bx.mono (by simp <;> omega))
 clear bx
 go_wp2_with fail
 refine (HB.out _).mono ?_
 rintro e wx2 ⟨rfl,bx⟩
 have c2_0_0:wx2.cell? ⟨w.heap.size,0,none⟩=some (.int .i64 p):=bkeep bx (by first | (simp [go_sem];done) | simp [go_sem,c1_0_0])
 have c2_0_1:wx2.cell? ⟨w.heap.size,1,none⟩=some (.int .i64 ip):=bkeep bx (by first | (simp [go_sem];done) | simp [go_sem,c1_0_1])
 have c2_0_2:wx2.cell? ⟨w.heap.size,2,none⟩=some (.int .i64 b):=bkeep bx (by first | (simp [go_sem];done) | simp [go_sem,c1_0_2])
 have c2_0_3:wx2.cell? ⟨w.heap.size,3,none⟩=some (.int .i64 lo):=bkeep bx (by first | (simp [go_sem];done) | simp [go_sem,c1_0_3])
 have c2_0_4:wx2.cell? ⟨w.heap.size,4,none⟩=some (.int .i64 hi):=bkeep bx (by first | (simp [go_sem];done) | simp [go_sem,c1_0_4])
 have c2_0_5:wx2.cell? ⟨w.heap.size,5,none⟩=some (.bool al):=bkeep bx (by first | (simp [go_sem];done) | simp [go_sem,c1_0_5])
 have c2_1_0:wx2.cell? ⟨w.heap.size+1,0,none⟩=some (.int .i64 0):=bkeep bx (by first | (simp [go_sem];done) | simp [go_sem,c1_1_0])
 have f2_1_0:wx2.frozen? ⟨w.heap.size+1,0,none⟩=false:=bthaw bx (v:=.int .i64 0) (by first | (simp [go_sem];done) | simp [go_sem,c1_1_0]) (by first | (simp [go_sem];done) | simp [go_sem,f1_1_0])
 have c2_1_1:wx2.cell? ⟨w.heap.size+1,1,none⟩=some (.int .i64 0):=bkeep bx (by first | (simp [go_sem];done) | simp [go_sem,c1_1_1])
 have f2_1_1:wx2.frozen? ⟨w.heap.size+1,1,none⟩=false:=bthaw bx (v:=.int .i64 0) (by first | (simp [go_sem];done) | simp [go_sem,c1_1_1]) (by first | (simp [go_sem];done) | simp [go_sem,f1_1_1])
 have c2_1_2:wx2.cell? ⟨w.heap.size+1,2,none⟩=some (.int .i64 0):=bkeep bx (by first | (simp [go_sem];done) | simp [go_sem,c1_1_2])
 have f2_1_2:wx2.frozen? ⟨w.heap.size+1,2,none⟩=false:=bthaw bx (v:=.int .i64 0) (by first | (simp [go_sem];done) | simp [go_sem,c1_1_2]) (by first | (simp [go_sem];done) | simp [go_sem,f1_1_2])
 have c2_1_3:wx2.cell? ⟨w.heap.size+1,3,none⟩=some (.int .i64 0):=bkeep bx (by first | (simp [go_sem];done) | simp [go_sem,c1_1_3])
 have f2_1_3:wx2.frozen? ⟨w.heap.size+1,3,none⟩=false:=bthaw bx (v:=.int .i64 0) (by first | (simp [go_sem];done) | simp [go_sem,c1_1_3]) (by first | (simp [go_sem];done) | simp [go_sem,f1_1_3])
 have c2_1_4:wx2.cell? ⟨w.heap.size+1,4,none⟩=some (.int .i64 0):=bkeep bx (by first | (simp [go_sem];done) | simp [go_sem,c1_1_4])
 have f2_1_4:wx2.frozen? ⟨w.heap.size+1,4,none⟩=false:=bthaw bx (v:=.int .i64 0) (by first | (simp [go_sem];done) | simp [go_sem,c1_1_4]) (by first | (simp [go_sem];done) | simp [go_sem,f1_1_4])
 have c2_1_5:wx2.cell? ⟨w.heap.size+1,5,none⟩=some (.bool false):=bkeep bx (by first | (simp [go_sem];done) | simp [go_sem,c1_1_5])
 have f2_1_5:wx2.frozen? ⟨w.heap.size+1,5,none⟩=false:=bthaw bx (v:=.bool false) (by first | (simp [go_sem];done) | simp [go_sem,c1_1_5]) (by first | (simp [go_sem];done) | simp [go_sem,f1_1_5])
 have c2_2_0:wx2.cell? ⟨w.heap.size+1+1,0,none⟩=some (.int .i64 p):=bkeep bx (by first | (simp [go_sem];done) | simp [go_sem,c1_2_0])
 have f2_2_0:wx2.frozen? ⟨w.heap.size+1+1,0,none⟩=false:=bthaw bx (v:=.int .i64 p) (by first | (simp [go_sem];done) | simp [go_sem,c1_2_0]) (by first | (simp [go_sem];done) | simp [go_sem,f1_2_0])
 have c2_2_1:wx2.cell? ⟨w.heap.size+1+1,1,none⟩=some (.int .i64 ip):=bkeep bx (by first | (simp [go_sem];done) | simp [go_sem,c1_2_1])
 have f2_2_1:wx2.frozen? ⟨w.heap.size+1+1,1,none⟩=false:=bthaw bx (v:=.int .i64 ip) (by first | (simp [go_sem];done) | simp [go_sem,c1_2_1]) (by first | (simp [go_sem];done) | simp [go_sem,f1_2_1])
 have c2_2_2:wx2.cell? ⟨w.heap.size+1+1,2,none⟩=some (.int .i64 b):=bkeep bx (by first | (simp [go_sem];done) | simp [go_sem,c1_2_2])
 have f2_2_2:wx2.frozen? ⟨w.heap.size+1+1,2,none⟩=false:=bthaw bx (v:=.int .i64 b) (by first | (simp [go_sem];done) | simp [go_sem,c1_2_2]) (by first | (simp [go_sem];done) | simp [go_sem,f1_2_2])
 have c2_2_3:wx2.cell? ⟨w.heap.size+1+1,3,none⟩=some (.int .i64 0):=bkeep bx (by first | (simp [go_sem];done) | simp [go_sem,c1_2_3])
 have f2_2_3:wx2.frozen? ⟨w.heap.size+1+1,3,none⟩=false:=bthaw bx (v:=.int .i64 0) (by first | (simp [go_sem];done) | simp [go_sem,c1_2_3]) (by first | (simp [go_sem];done) | simp [go_sem,f1_2_3])
 have c2_2_4:wx2.cell? ⟨w.heap.size+1+1,4,none⟩=some (.int .i64 0):=bkeep bx (by first | (simp [go_sem];done) | simp [go_sem,c1_2_4])
 have f2_2_4:wx2.frozen? ⟨w.heap.size+1+1,4,none⟩=false:=bthaw bx (v:=.int .i64 0) (by first | (simp [go_sem];done) | simp [go_sem,c1_2_4]) (by first | (simp [go_sem];done) | simp [go_sem,f1_2_4])
 have c2_2_5:wx2.cell? ⟨w.heap.size+1+1,5,none⟩=some (.bool false):=bkeep bx (by first | (simp [go_sem];done) | simp [go_sem,c1_2_5])
 have f2_2_5:wx2.frozen? ⟨w.heap.size+1+1,5,none⟩=false:=bthaw bx (v:=.bool false) (by first | (simp [go_sem];done) | simp [go_sem,c1_2_5]) (by first | (simp [go_sem];done) | simp [go_sem,f1_2_5])
 have BX2:Hid (Below w.heap.size w wx2):=((BX1.out.setCell (p:=⟨w.heap.size+1+1,_,_⟩) (by show w.heap.size≤w.heap.size+1+1;omega) _).setCell (p:=⟨w.heap.size+1+1,_,_⟩) (by show w.heap.size≤w.heap.size+1+1;omega) _).trans (bx.mono (by have:=BX1.out.size;simp <;> omega))
 clear bx c1_0_0 c1_0_1 c1_0_2 c1_0_3 c1_0_4 c1_0_5 c1_1_0 c1_1_1 c1_1_2 c1_1_3 c1_1_4 c1_1_5 c1_2_0 c1_2_1 c1_2_2 c1_2_3 c1_2_4 c1_2_5 f1_1_0 f1_1_1 f1_1_2 f1_1_3 f1_1_4 f1_1_5 f1_2_0 f1_2_1 f1_2_2 f1_2_3 f1_2_4 f1_2_5 BX1
 go_wp2
 (try simp only [Exit.inBlock,Exit.then])
 refine bodyPost_ret (v:=.agg #[.int .i64 p,.int .i64 ip,.int .i64 b,.int .i64 lo,.int .i64 hi,.bool al]) (by simp [results,Tryz.results134,go_sem,c2_1_0,c2_1_1,c2_1_2,c2_1_3,c2_1_4,c2_1_5];try rfl) rfl ?_
 exact ⟨rfl,(((((((((BX2.out.setCell (p:=⟨w.heap.size+1+1,_,_⟩) (by show w.heap.size≤w.heap.size+1+1;omega) _).setCell (p:=⟨w.heap.size+1+1,_,_⟩) (by show w.heap.size≤w.heap.size+1+1;omega) _).setCell (p:=⟨w.heap.size+1+1,_,_⟩) (by show w.heap.size≤w.heap.size+1+1;omega) _).setCell (p:=⟨w.heap.size+1,_,_⟩) (by show w.heap.size≤w.heap.size+1;omega) _).setCell (p:=⟨w.heap.size+1,_,_⟩) (by show w.heap.size≤w.heap.size+1;omega) _).setCell (p:=⟨w.heap.size+1,_,_⟩) (by show w.heap.size≤w.heap.size+1;omega) _).setCell (p:=⟨w.heap.size+1,_,_⟩) (by show w.heap.size≤w.heap.size+1;omega) _).setCell (p:=⟨w.heap.size+1,_,_⟩) (by show w.heap.size≤w.heap.size+1;omega) _).setCell (p:=⟨w.heap.size+1,_,_⟩) (by show w.heap.size≤w.heap.size+1;omega) _)⟩
set_option maxHeartbeats 1000000 in
theorem eqRule_any (p ip b lo hi:Int) (al:Bool) (w:World) :
  Calls Tryz.prog 146 #[.agg #[.int .i64 p,.int .i64 ip,.int .i64 b,.int .i64 lo,.int .i64 hi,.bool al],.agg #[.int .i64 p,.int .i64 ip,.int .i64 b,.int .i64 lo,.int .i64 hi,.bool al]] w fun e w'=>e=.returned (.bool true)∧Grw w w':=by
 have HA:Hid (∀ w,Calls Tryz.prog 47 #[.agg #[.int .i64 ip,.int .i64 b],.agg #[.int .i64 ip,.int .i64 b]] w fun e w'=>e=.returned (.bool true)∧Grw w w'):=fun w=>eqNet2 ip b w
 have HB:Hid (∀ w,Calls Tryz.prog 126 #[.agg #[.int .i64 lo,.int .i64 hi],.agg #[.int .i64 lo,.int .i64 hi]] w fun e w'=>e=.returned (.bool true)∧Grw w w'):=fun w=>eqRange2 lo hi w
 have hp:(p != p)=false:=by simp
 have ha:(al != al)=false:=by simp
 go_enter Tryz.func146,Tryz.ntmps146
 go_wp2_with fail
 refine (HA.out _).mono ?_
 rintro e wx1 ⟨rfl,bx⟩
 have k0_0:World.cell? _ ⟨w.heap.size,0,none⟩=some (.int .i64 p):=bx.keep (a:=⟨w.heap.size,0,none⟩) (v:=.int .i64 p) (by simp [go_sem])
 have k0_1:World.cell? _ ⟨w.heap.size,1,none⟩=some (.int .i64 ip):=bx.keep (a:=⟨w.heap.size,1,none⟩) (v:=.int .i64 ip) (by simp [go_sem])
 have k0_2:World.cell? _ ⟨w.heap.size,2,none⟩=some (.int .i64 b):=bx.keep (a:=⟨w.heap.size,2,none⟩) (v:=.int .i64 b) (by simp [go_sem])
 have k0_3:World.cell? _ ⟨w.heap.size,3,none⟩=some (.int .i64 lo):=bx.keep (a:=⟨w.heap.size,3,none⟩) (v:=.int .i64 lo) (by simp [go_sem])
 have k0_4:World.cell? _ ⟨w.heap.size,4,none⟩=some (.int .i64 hi):=bx.keep (a:=⟨w.heap.size,4,none⟩) (v:=.int .i64 hi) (by simp [go_sem])
 have k0_5:World.cell? _ ⟨w.heap.size,5,none⟩=some (.bool al):=bx.keep (a:=⟨w.heap.size,5,none⟩) (v:=.bool al) (by simp [go_sem])
 have k1_0:World.cell? _ ⟨w.heap.size+1,0,none⟩=some (.int .i64 p):=bx.keep (a:=⟨w.heap.size+1,0,none⟩) (v:=.int .i64 p) (by simp [go_sem])
 have k1_1:World.cell? _ ⟨w.heap.size+1,1,none⟩=some (.int .i64 ip):=bx.keep (a:=⟨w.heap.size+1,1,none⟩) (v:=.int .i64 ip) (by simp [go_sem])
 have k1_2:World.cell? _ ⟨w.heap.size+1,2,none⟩=some (.int .i64 b):=bx.keep (a:=⟨w.heap.size+1,2,none⟩) (v:=.int .i64 b) (by simp [go_sem])
 have k1_3:World.cell? _ ⟨w.heap.size+1,3,none⟩=some (.int .i64 lo):=bx.keep (a:=⟨w.heap.size+1,3,none⟩) (v:=.int .i64 lo) (by simp [go_sem])
 have k1_4:World.cell? _ ⟨w.heap.size+1,4,none⟩=some (.int .i64 hi):=bx.keep (a:=⟨w.heap.size+1,4,none⟩) (v:=.int .i64 hi) (by simp [go_sem])
 have k1_5:World.cell? _ ⟨w.heap.size+1,5,none⟩=some (.bool al):=bx.keep (a:=⟨w.heap.size+1,5,none⟩) (v:=.bool al) (by simp [go_sem])
 have BX:Hid (Grw w _):=(((Grw.refl _).alloc _).alloc _).trans bx
 clear bx
 go_wp2_with fail
 refine (HB.out _).mono ?_
 rintro e wx2 ⟨rfl,bx⟩
 replace k0_0:=bx.keep k0_0
 replace k0_1:=bx.keep k0_1
 replace k0_2:=bx.keep k0_2
 replace k0_3:=bx.keep k0_3
 replace k0_4:=bx.keep k0_4
 replace k0_5:=bx.keep k0_5
 replace k1_0:=bx.keep k1_0
 replace k1_1:=bx.keep k1_1
 replace k1_2:=bx.keep k1_2
 replace k1_3:=bx.keep k1_3
 replace k1_4:=bx.keep k1_4
 replace k1_5:=bx.keep k1_5
 replace BX:Hid (Grw w _):=BX.out.trans bx
 clear bx
 go_wp2
 go_ret
 exact ⟨rfl,BX.out⟩
def letB (c:Int):Bool:=decide ((97≤c∧c≤122) ∨ (65≤c∧c≤90) ∨ c=95)
def digB (c:Int):Bool:=decide (48≤c∧c≤57)
theorem ret_bool {a b:Bool} (h:a=b):Ending.returned (.bool a)=.returned (.bool b):=by rw [h]
theorem let_cases (c:Int):(c<65∧letB c=false) ∨ (65≤c∧c≤90∧letB c=true) ∨ (90<c∧c<95∧letB c=false) ∨ (c=95∧letB c=true) ∨ (95<c∧c<97∧letB c=false) ∨ (97≤c∧c≤122∧letB c=true) ∨ (122<c∧letB c=false):=by
 unfold letB;simp;omega
theorem dig_cases (c:Int):(c<48∧digB c=false) ∨ (48≤c∧c≤57∧digB c=true) ∨ (57<c∧digB c=false):=by
 unfold digB;simp;omega
theorem dig_not_let (c:Int) (h:digB c=true):letB c=false:=by
 unfold digB at h;unfold letB;simp at h ⊢;omega
theorem isDigit_any (c:Int) (w:World):Calls Tryz.prog 178 #[.int .u8 c] w fun e w'=>e=.returned (.bool (digB c))∧w'=w:=by
 rcases dig_cases c with ⟨h1,h2⟩ | ⟨h1,h3,h2⟩ | ⟨h1,h2⟩
 all_goals
  have H:Hid (digB c=_):=h2
  clear h2
  go_enter Tryz.func178,Tryz.ntmps178
  go_wp2
  go_ret
  exact ⟨ret_bool (Eq.trans (by first | rfl | (simp;omega)) H.out.symm),rfl⟩
theorem l00Digit_any (c:Int) (w:World):Calls Tryz.prog 174 #[.int .u8 c] w fun e w'=>e=.returned (.bool (digB c))∧w'=w:=by
 rcases dig_cases c with ⟨h1,h2⟩ | ⟨h1,h3,h2⟩ | ⟨h1,h2⟩
 all_goals
  have H:Hid (digB c=_):=h2
  clear h2
  go_enter Tryz.func174,Tryz.ntmps174
  go_wp2
  go_ret
  exact ⟨ret_bool (Eq.trans (by first | rfl | (simp;omega)) H.out.symm),rfl⟩
theorem isLetter_any (c:Int) (w:World):Calls Tryz.prog 179 #[.int .u8 c] w fun e w'=>e=.returned (.bool (letB c))∧w'=w:=by
 rcases let_cases c with ⟨h1,h2⟩ | ⟨h1,h3,h2⟩ | ⟨h1,h3,h2⟩ | ⟨rfl,h2⟩ | ⟨h1,h3,h2⟩ | ⟨h1,h3,h2⟩ | ⟨h1,h2⟩
 all_goals
  have H:Hid (letB _=_):=h2
  clear h2
  go_enter Tryz.func179,Tryz.ntmps179
  go_wp2
  go_ret
  exact ⟨ret_bool (Eq.trans (by first | rfl | (simp;omega)) H.out.symm),rfl⟩
theorem l00Letter_any (c:Int) (w:World):Calls Tryz.prog 173 #[.int .u8 c] w fun e w'=>e=.returned (.bool (letB c))∧w'=w:=by
 rcases let_cases c with ⟨h1,h2⟩ | ⟨h1,h3,h2⟩ | ⟨h1,h3,h2⟩ | ⟨rfl,h2⟩ | ⟨h1,h3,h2⟩ | ⟨h1,h3,h2⟩ | ⟨h1,h2⟩
 all_goals
  have H:Hid (letB _=_):=h2
  clear h2
  go_enter Tryz.func173,Tryz.ntmps173
  go_wp2
  go_ret
  exact ⟨ret_bool (Eq.trans (by first | rfl | (simp;omega)) H.out.symm),rfl⟩
def nameB (f:Nat→Int) (n:Nat):Bool:=decide (1≤n∧n≤40∧letB (f 0)=true∧∀ j,j<n→letB (f j)=true ∨ digB (f j)=true)
theorem name_no_len (f:Nat→Int) (n:Nat) (h:n<1 ∨ 40<n):nameB f n=false:=by unfold nameB;rw [decide_eq_false_iff_not];omega
theorem name_no_let (f:Nat→Int) (n:Nat) (h:letB (f 0)=false):nameB f n=false:=by unfold nameB;rw [decide_eq_false_iff_not];simp [h]
theorem name_no_at (f:Nat→Int) (n k:Nat) (hk:k<n) (h:letB (f k)=false) (h':digB (f k)=false):nameB f n=false:=by
 unfold nameB;rw [decide_eq_false_iff_not];rintro ⟨_,_,_,h4⟩;have:=h4 k hk;simp [h,h'] at this
theorem name_yes (f:Nat→Int) (n:Nat) (h0:1≤n) (h1:n≤40) (h2:letB (f 0)=true) (h:∀ j,j<n→letB (f j)=true ∨ digB (f j)=true):nameB f n=true:=by
 unfold nameB;rw [decide_eq_true_iff];exact ⟨h0,h1,h2,h⟩
theorem all_step {f:Nat→Int} {k:Nat} (h:∀ j,j<k→letB (f j)=true ∨ digB (f j)=true) (hk:letB (f k)=true ∨ digB (f k)=true):∀ j,j<k+1→letB (f j)=true ∨ digB (f j)=true:=by
 intro j hj
 by_cases e:j=k
 ·subst e;exact hk
 ·exact h j (by omega)
set_option maxHeartbeats 400000 in
theorem nameOK_any (s:ByteArray) (w:World) (hs:s.size≤1048576) :
  Calls Tryz.prog 169 #[.string s] w fun e w'=>e=.returned (.bool (nameB (bt s) s.size))∧w'=w:=by
 have hb:=get_bt s
 by_cases h1:s.size<1
 ·have hz:s.size=0:=by omega
  go_enter Tryz.func169,Tryz.ntmps169
  go_wp2
  go_ret
  exact ⟨ret_bool (name_no_len _ _ (by omega)).symm,rfl⟩
 by_cases h40:40<s.size
 ·go_enter Tryz.func169,Tryz.ntmps169
  go_wp2
  go_ret
  exact ⟨ret_bool (name_no_len _ _ (by omega)).symm,rfl⟩
 by_cases hd:digB (bt s 0)=true
 ·go_enter Tryz.func169,Tryz.ntmps169
  go_wp2_with (go_at_call 178;refine (isDigit_any _ _).mono ?_;rintro e w' ⟨rfl,rfl⟩)
  go_ret
  exact ⟨ret_bool (name_no_let _ _ (dig_not_let _ hd)).symm,rfl⟩
 simp only [Bool.not_eq_true] at hd
 have b1:decide ((s.size:Int)<1)=false:=by simp;omega
 have b2:decide (40<(s.size:Int))=false:=by simp;omega
 go_enter Tryz.func169,Tryz.ntmps169
 go_wp2_with (go_at_call 178;refine (isDigit_any _ _).mono ?_;rintro e w' ⟨rfl,rfl⟩)
 go_loop [19] (fun i=>∃ k:Nat,k≤s.size∧i=.int .i64 k∧∀ j,j<k→letB (bt s j)=true ∨ digB (bt s j)=true) (fun i=>s.size - (intOf i).toNat)
 case atStart=>exact ⟨0,Nat.zero_le _,rfl,fun j hj=>absurd hj (by omega)⟩
 case round =>
  obtain ⟨k,hk,rfl,hall⟩:=hrel
  have HA:Hid (∀ j,j<k→letB (bt s j)=true ∨ digB (bt s j)=true):=hall
  clear hall
  have HD:Hid (digB (bt s 0)=false):=hd
  clear hd
  by_cases hlt:k<s.size
  ·cases hl:letB (bt s k)
   ·cases hg:digB (bt s k)
    ·go_wp2_with (first | (go_at_call 179;refine (isLetter_any _ _).mono ?_;rintro e w' ⟨rfl,rfl⟩) | (go_at_call 178;refine (isDigit_any _ _).mono ?_;rintro e w' ⟨rfl,rfl⟩))
     go_ret
     exact ⟨ret_bool (name_no_at _ _ k hlt hl hg).symm,rfl⟩
    ·go_wp2_with (first | (go_at_call 179;refine (isLetter_any _ _).mono ?_;rintro e w' ⟨rfl,rfl⟩) | (go_at_call 178;refine (isDigit_any _ _).mono ?_;rintro e w' ⟨rfl,rfl⟩))
     go_round
     case rel=>exact ⟨k+1,by omega,by go_num,all_step HA.out (.inr hg)⟩
     case measure=>simp [intOf];omega
   ·go_wp2_with (first | (go_at_call 179;refine (isLetter_any _ _).mono ?_;rintro e w' ⟨rfl,rfl⟩) | (go_at_call 178;refine (isDigit_any _ _).mono ?_;rintro e w' ⟨rfl,rfl⟩))
    go_round
    case rel=>exact ⟨k+1,by omega,by go_num,all_step HA.out (.inl hl)⟩
    case measure=>simp [intOf];omega
  ·obtain rfl:k=s.size:=by omega
   go_wp2
   go_ret
   exact ⟨ret_bool (name_yes _ _ (by omega) (by omega) (by have:=HA.out 0 (by omega);have:=HD.out;simp_all) HA.out).symm,rfl⟩
set_option maxHeartbeats 400000 in
theorem l00Word_any (s : ByteArray) (w : World) (hs : s.size ≤ 1048576) :
    Calls Tryz.prog 166 #[.string s] w fun e w' => e = .returned (.bool (nameB (bt s) s.size)) ∧ w' = w := by
  have hb := get_bt s
  by_cases h1 : s.size < 1
  · have hz : s.size = 0 := by omega
    go_enter Tryz.func166, Tryz.ntmps166
    go_wp2
    go_ret
    exact ⟨ret_bool (name_no_len _ _ (by omega)).symm, rfl⟩
  by_cases h40 : 40 < s.size
  · go_enter Tryz.func166, Tryz.ntmps166
    go_wp2
    go_ret
    exact ⟨ret_bool (name_no_len _ _ (by omega)).symm, rfl⟩
  cases hd : letB (bt s 0)
  · go_enter Tryz.func166, Tryz.ntmps166
    go_wp2_with (go_at_call 173; refine (l00Letter_any _ _).mono ?_; rintro e w' ⟨rfl, rfl⟩)
    go_ret
    exact ⟨ret_bool (name_no_let _ _ hd).symm, rfl⟩
  have b1 : decide ((s.size : Int) < 1) = false := by simp; omega
  have b2 : decide (40 < (s.size : Int)) = false := by simp; omega
  go_enter Tryz.func166, Tryz.ntmps166
  go_wp2_with (go_at_call 173; refine (l00Letter_any _ _).mono ?_; rintro e w' ⟨rfl, rfl⟩)
  go_loop [3] (fun i => ∃ k : Nat, 1 ≤ k ∧ k ≤ s.size ∧ i = .int .i64 k ∧ ∀ j, j < k → letB (bt s j) = true ∨ digB (bt s j) = true) (fun i => s.size - (intOf i).toNat)
  case atStart => exact ⟨1, Nat.le_refl _, by omega, rfl, fun j hj => by obtain rfl : j = 0 := by omega
                                                                         exact .inl hd⟩
  case round =>
    obtain ⟨k, hk1, hk, rfl, hall⟩ := hrel
    have HA : Hid (∀ j, j < k → letB (bt s j) = true ∨ digB (bt s j) = true) := hall
    clear hall
    have HD : Hid (letB (bt s 0) = true) := hd
    clear hd
    by_cases hlt : k < s.size
    · cases hl : letB (bt s k)
      · cases hg : digB (bt s k)
        · go_wp2_with (first | (go_at_call 173; refine (l00Letter_any _ _).mono ?_; rintro e w' ⟨rfl, rfl⟩) | (go_at_call 174; refine (l00Digit_any _ _).mono ?_; rintro e w' ⟨rfl, rfl⟩))
          go_ret
          exact ⟨ret_bool (name_no_at _ _ k hlt hl hg).symm, rfl⟩
        · go_wp2_with (first | (go_at_call 173; refine (l00Letter_any _ _).mono ?_; rintro e w' ⟨rfl, rfl⟩) | (go_at_call 174; refine (l00Digit_any _ _).mono ?_; rintro e w' ⟨rfl, rfl⟩))
          go_round
          case rel => exact ⟨k + 1, by omega, by omega, by go_num, all_step HA.out (.inr hg)⟩
          case measure => simp [intOf]; omega
      · go_wp2_with (first | (go_at_call 173; refine (l00Letter_any _ _).mono ?_; rintro e w' ⟨rfl, rfl⟩) | (go_at_call 174; refine (l00Digit_any _ _).mono ?_; rintro e w' ⟨rfl, rfl⟩))
        go_round
        case rel => exact ⟨k + 1, by omega, by omega, by go_num, all_step HA.out (.inl hl)⟩
        case measure => simp [intOf]; omega
    · obtain rfl : k = s.size := by omega
      go_wp2
      go_ret
      exact ⟨ret_bool (name_yes _ _ (by omega) (by omega) HD.out HA.out).symm, rfl⟩
theorem specNameOK_any (s:ByteArray) (w:World) (hs:s.size≤1048576) :
  Calls Tryz.prog 147 #[.string s] w fun e w'=>e=.returned (.bool (nameB (bt s) s.size))∧w'=w:=by
 go_enter Tryz.func147,Tryz.ntmps147
 go_wp2_with (go_at_call 166;refine (l00Word_any _ _ hs).mono ?_;rintro e w' ⟨rfl,rfl⟩)
 go_ret
 exact ⟨rfl,rfl⟩
def roB (r:RoleV):Bool:=nameB (bt r.nm) r.nm.size && (dec (r.nm.size≤8) && (dec (r.rs.length≤8) && (dec (1≤r.q∧r.q≤1000000) && (dec (1≤r.m∧r.m≤1000) && (dec (1≤r.i∧r.i≤1000) && r.rs.all ruB)))))
theorem all_step2 {α:Type} {f:α→Bool} {xs:List α} {k:Nat} {x:α} (hx:xs[k]?=some x) (h:(xs.take k).all f=true) (hf:f x=true):(xs.take (k+1)).all f=true:=by
 rw [List.take_add_one,List.all_append,h,hx]
 simp [hf]
theorem all_no {α:Type} {f:α→Bool} {xs:List α} {k:Nat} {x:α} (hx:xs[k]?=some x) (hf:f x=false):xs.all f=false:=by
 rw [List.all_eq_false]
 exact ⟨x,List.mem_of_getElem? hx,by simp [hf]⟩
theorem all_end {α:Type} {f:α→Bool} {xs:List α} {k:Nat} (hk:xs.length=k) (h:(xs.take k).all f=true):xs.all f=true:=by
 rwa [List.take_of_length_le (by omega)] at h
theorem minutesOK_any (n:Int) (w:World):Calls Tryz.prog 154 #[.int .i64 n] w fun e w'=>e=.returned (.bool (dec (1≤n∧n≤1000)))∧w'=w:=by
 by_cases h:1≤n
 ·by_cases h':n≤1000
  ·rw [dec_y ⟨h,h'⟩]
   go_enter Tryz.func154,Tryz.ntmps154
   go_wp2
   go_ret
   exact ⟨rfl,rfl⟩
  ·rw [dec_n (fun x=>h' x.2)]
   go_enter Tryz.func154,Tryz.ntmps154
   go_wp2
   go_ret
   exact ⟨rfl,rfl⟩
 ·rw [dec_n (fun x=>h x.1)]
  go_enter Tryz.func154,Tryz.ntmps154
  go_wp2
  go_ret
  exact ⟨rfl,rfl⟩
theorem shortNameOK_any (s:ByteArray) (w:World) (hs:s.size≤1048576):Calls Tryz.prog 152 #[.string s] w fun e w'=>e=.returned (.bool (nameB (bt s) s.size && dec (s.size≤8)))∧w'=w:=by
 obtain ⟨n,hn⟩:∃ n,n=nameB (bt s) s.size:=⟨_,rfl⟩
 have HN:Hid (∀ w,Calls Tryz.prog 169 #[.string s] w fun e w'=>e=.returned (.bool n)∧w'=w):=fun w=>hn ▸ nameOK_any s w hs
 rw [← hn]
 clear hn
 by_cases h8:s.size≤8
 ·rw [dec_y h8,Bool.and_true]
  have h8z:(s.size:Int)≤8:=by omega
  go_enter Tryz.func152,Tryz.ntmps152
  go_wp2_with fail
  refine (HN.out _).mono ?_
  rintro e w1 ⟨rfl,rfl⟩
  go_wp2
  go_ret
  exact ⟨rfl,rfl⟩
 ·rw [dec_n h8,Bool.and_false]
  have h8z:¬ (s.size:Int)≤8:=by omega
  go_enter Tryz.func152,Tryz.ntmps152
  go_wp2
  go_ret
  exact ⟨rfl,rfl⟩
set_option maxHeartbeats 2000000 in
theorem specRoleOK_any (nm:ByteArray) (rs:List RuleV) (q m i:Int) (a:Option Addr) (len cap:Nat) (w:World) (hs:nm.size≤1048576) (h:Rw RuR 6 w a rs) (hl:rs.length=len) (hl2:len≤1048576) :
  Calls Tryz.prog 130 #[.agg #[.string nm,.slice a len cap,.int .i64 q,.int .i64 m,.int .i64 i]] w fun e w'=>e=.returned (.bool (roB ⟨nm,rs,q,m,i⟩))∧Grw w w':=by
 obtain ⟨bn,hbn⟩:∃ n,n=nameB (bt nm) nm.size:=⟨_,rfl⟩
 obtain ⟨bq,hbq⟩:∃ n,n=dec (1≤q∧q≤1000000):=⟨_,rfl⟩
 obtain ⟨bm,hbm⟩:∃ n,n=dec (1≤m∧m≤1000):=⟨_,rfl⟩
 obtain ⟨bi,hbi⟩:∃ n,n=dec (1≤i∧i≤1000):=⟨_,rfl⟩
 have E:Hid (roB ⟨nm,rs,q,m,i⟩=(bn && (dec (nm.size≤8) && (dec (rs.length≤8) && (bq && (bm && (bi && rs.all ruB))))))):=by rw [hbn,hbq,hbm,hbi];rfl
 generalize roB ⟨nm,rs,q,m,i⟩=z at E ⊢
 have RW:Hid (Rw RuR 6 w a rs):=h
 clear h
 have HN:Hid (∀ w,Calls Tryz.prog 147 #[.string nm] w fun e w'=>e=.returned (.bool bn)∧w'=w):=fun w=>hbn ▸ specNameOK_any nm w hs
 have HQ:Hid (∀ w,Calls Tryz.prog 65 #[.int .i64 q,.int .i64 1,.int .i64 1000000] w fun e w'=>e=.returned (.bool bq)∧w'=w):=fun w=>hbq ▸ specIn_any q 1 1000000 w
 have HM:Hid (∀ w,Calls Tryz.prog 65 #[.int .i64 m,.int .i64 1,.int .i64 1000] w fun e w'=>e=.returned (.bool bm)∧w'=w):=fun w=>hbm ▸ specIn_any m 1 1000 w
 have HI:Hid (∀ w,Calls Tryz.prog 65 #[.int .i64 i,.int .i64 1,.int .i64 1000] w fun e w'=>e=.returned (.bool bi)∧w'=w):=fun w=>hbi ▸ specIn_any i 1 1000 w
 clear hbn hbq hbm hbi
 cases bn with
 | false =>
  go_enter Tryz.func130,Tryz.ntmps130
  go_wp2_with fail
  refine (HN.out _).mono ?_
  rintro e w1 ⟨rfl,rfl⟩
  go_wp2
  go_ret
  exact ⟨by rw [E.out];simp,(Grw.refl _).alloc _⟩
 | true =>
  by_cases h8:nm.size≤8
  rotate_left
  ·rw [dec_n h8] at E
   have h8z:(8:Int)<(nm.size:Int):=by omega
   go_enter Tryz.func130,Tryz.ntmps130
   go_wp2_with fail
   refine (HN.out _).mono ?_
   rintro e w1 ⟨rfl,rfl⟩
   go_wp2
   go_ret
   exact ⟨by rw [E.out];simp,(Grw.refl _).alloc _⟩
  rw [dec_y h8] at E
  have h8z:(nm.size:Int)≤8:=by omega
  by_cases hc:rs.length≤8
  rotate_left
  ·rw [dec_n hc] at E
   have hcz:(8:Int)<(len:Int):=by omega
   go_enter Tryz.func130,Tryz.ntmps130
   go_wp2_with fail
   refine (HN.out _).mono ?_
   rintro e w1 ⟨rfl,rfl⟩
   go_wp2
   go_ret
   exact ⟨by rw [E.out];simp,(Grw.refl _).alloc _⟩
  rw [dec_y hc] at E
  have hcz:(len:Int)≤8:=by omega
  go_enter Tryz.func130,Tryz.ntmps130
  go_wp2_with fail
  refine (HN.out _).mono ?_
  rintro e w1 ⟨rfl,rfl⟩
  go_wp2_with fail
  refine (HQ.out _).mono ?_
  rintro e w1 ⟨rfl,rfl⟩
  cases bq with
  | false =>
   go_wp2
   go_ret
   exact ⟨by rw [E.out];simp,(Grw.refl _).alloc _⟩
  | true =>
   go_wp2_with fail
   refine (HM.out _).mono ?_
   rintro e w1 ⟨rfl,rfl⟩
   cases bm with
   | false =>
    go_wp2
    go_ret
    exact ⟨by rw [E.out];simp,(Grw.refl _).alloc _⟩
   | true =>
    go_wp2_with fail
    refine (HI.out _).mono ?_
    rintro e w1 ⟨rfl,rfl⟩
    cases bi with
    | false =>
     go_wp2
     go_ret
     exact ⟨by rw [E.out];simp,(Grw.refl _).alloc _⟩
    | true =>
     go_wp2
     go_loopw [3] (fun x wr=>∃ k:Nat,k≤len∧x=.int .i64 k∧Hid ((rs.take k).all ruB=true)∧Hid (Grw (w.alloc (.cells #[.string nm,.slice a len cap,.int .i64 q,.int .i64 m,.int .i64 i] 121)) wr)) (fun x _=>len - (intOf x).toNat)
     case atStart=>exact ⟨0,Nat.zero_le _,rfl,rfl,Grw.refl _⟩
     case round =>
      obtain ⟨k,hk,rfl,HO,HG⟩:=hrel
      have b1:wr.cell? ⟨w.heap.size,1,none⟩=some (.slice a len cap):=HG.out.keep (by simp)
      by_cases hlt:k<len
      ·obtain ⟨x,hx⟩:=at_of hl hlt
       obtain ⟨b,off,vs,rfl,hb,hvl,hR,hc⟩:=RW.out.at RuR.kp (((Grw.refl w).alloc _).trans HG.out).below hx
       obtain ⟨p,ip,bb,lo,hi,al⟩:=x
       obtain ⟨rfl,hlo,hhi⟩:=hR
       have q0:wr.cell? ⟨b,off+k * 6,none⟩=some (.int .i64 p):=hc 0 _ rfl
       have q1:wr.cell? ⟨b,off+k * 6+1,none⟩=some (.int .i64 ip):=hc 1 _ rfl
       have q2:wr.cell? ⟨b,off+k * 6+2,none⟩=some (.int .i64 bb):=hc 2 _ rfl
       have q3:wr.cell? ⟨b,off+k * 6+3,none⟩=some (.int .i64 lo):=hc 3 _ rfl
       have q4:wr.cell? ⟨b,off+k * 6+4,none⟩=some (.int .i64 hi):=hc 4 _ rfl
       have q5:wr.cell? ⟨b,off+k * 6+5,none⟩=some (.bool al):=hc 5 _ rfl
       have HN:Hid (∀ w,Calls Tryz.prog 148 #[.agg #[.int .i64 p,.int .i64 ip,.int .i64 bb,.int .i64 lo,.int .i64 hi,.bool al]] w fun e w'=>e=.returned (.bool (ruB ⟨p,ip,bb,lo,hi,al⟩))∧Grw w w'):=fun w=>specRuleOK_any _ _ _ _ _ _ w
       have HS:Hid (ruB ⟨p,ip,bb,lo,hi,al⟩=true→(rs.take (k+1)).all ruB=true):=fun h=>all_step2 hx HO.out h
       have HF:Hid (ruB ⟨p,ip,bb,lo,hi,al⟩=false→rs.all ruB=false):=fun h=>all_no hx h
       generalize ruB ⟨p,ip,bb,lo,hi,al⟩=r at HN HS HF
       have hltz:(k:Int)<(len:Int):=by omega
       clear hc hvl hx
       go_wp2_with fail
       refine (HN.out _).mono ?_
       rintro e w1 ⟨rfl,g1⟩
       have HG1:Hid (Grw _ w1):=HG.out.trans g1
       clear q0 q1 q2 q3 q4 q5 HN
       cases r with
       | true =>
        have HS':Hid ((rs.take (k+1)).all ruB=true):=HS.out rfl
        clear HS HF g1 HG
        go_wp2
        go_roundw
        case rel=>exact ⟨k+1,by omega,by go_num,HS',HG1⟩
        case measure=>simp [intOf];omega
       | false =>
        have hd:Hid (rs.all ruB=false):=HF.out rfl
        go_wp2
        go_ret
        exact ⟨by rw [E.out,hd.out];rfl,((Grw.refl _).alloc _).trans HG1.out⟩
      ·obtain rfl:k=len:=by omega
       have hd:Hid (rs.all ruB=true):=all_end hl HO.out
       go_wp2
       go_ret
       exact ⟨by rw [E.out,hd.out];rfl,((Grw.refl _).alloc _).trans HG.out⟩
set_option maxHeartbeats 2000000 in
theorem implRoleOK_any (nm:ByteArray) (rs:List RuleV) (q m i:Int) (a:Option Addr) (len cap:Nat) (w:World) (hs:nm.size≤1048576) (h:Rw RuR 6 w a rs) (hl:rs.length=len) (hl2:len≤1048576) :
  Calls Tryz.prog 151 #[.agg #[.string nm,.slice a len cap,.int .i64 q,.int .i64 m,.int .i64 i]] w fun e w'=>e=.returned (.bool (roB ⟨nm,rs,q,m,i⟩))∧Grw w w':=by
 obtain ⟨bn,hbn⟩:∃ n,n=nameB (bt nm) nm.size:=⟨_,rfl⟩
 obtain ⟨bq,hbq⟩:∃ n,n=dec (1≤q∧q≤1000000):=⟨_,rfl⟩
 obtain ⟨bm,hbm⟩:∃ n,n=dec (1≤m∧m≤1000):=⟨_,rfl⟩
 obtain ⟨bi,hbi⟩:∃ n,n=dec (1≤i∧i≤1000):=⟨_,rfl⟩
 have E:Hid (roB ⟨nm,rs,q,m,i⟩=(bn && (dec (nm.size≤8) && (dec (rs.length≤8) && (bq && (bm && (bi && rs.all ruB))))))):=by rw [hbn,hbq,hbm,hbi];rfl
 generalize roB ⟨nm,rs,q,m,i⟩=z at E ⊢
 have RW:Hid (Rw RuR 6 w a rs):=h
 clear h
 have HN:Hid (∀ w,Calls Tryz.prog 152 #[.string nm] w fun e w'=>e=.returned (.bool (bn && dec (nm.size≤8)))∧w'=w):=fun w=>hbn ▸ shortNameOK_any nm w hs
 have HM:Hid (∀ w,Calls Tryz.prog 154 #[.int .i64 m] w fun e w'=>e=.returned (.bool bm)∧w'=w):=fun w=>hbm ▸ minutesOK_any m w
 have HI:Hid (∀ w,Calls Tryz.prog 154 #[.int .i64 i] w fun e w'=>e=.returned (.bool bi)∧w'=w):=fun w=>hbi ▸ minutesOK_any i w
 have E2:Hid (z=((bn && dec (nm.size≤8)) && (dec (rs.length≤8) && (bq && (bm && (bi && rs.all ruB)))))):=by rw [E.out];cases bn <;> rfl
 clear E hbn hbm hbi
 have E:=E2
 clear E2
 generalize (bn && dec (nm.size≤8))=bs at E HN
 cases bs with
 | false =>
  go_enter Tryz.func151,Tryz.ntmps151
  go_wp2_with fail
  refine (HN.out _).mono ?_
  rintro e w1 ⟨rfl,rfl⟩
  go_wp2
  go_ret
  exact ⟨by rw [E.out];simp,(Grw.refl _).alloc _⟩
 | true =>
  by_cases hc:rs.length≤8
  rotate_left
  ·rw [dec_n hc] at E
   have hcz:(8:Int)<(len:Int):=by omega
   go_enter Tryz.func151,Tryz.ntmps151
   go_wp2_with fail
   refine (HN.out _).mono ?_
   rintro e w1 ⟨rfl,rfl⟩
   go_wp2
   go_ret
   exact ⟨by rw [E.out];simp,(Grw.refl _).alloc _⟩
  rw [dec_y hc] at E
  have hcz:(len:Int)≤8:=by omega
  by_cases hq1:1≤q
  rotate_left
  ·rw [dec_n (fun x=>hq1 x.1)] at hbq
   subst hbq
   go_enter Tryz.func151,Tryz.ntmps151
   go_wp2_with fail
   refine (HN.out _).mono ?_
   rintro e w1 ⟨rfl,rfl⟩
   go_wp2
   go_ret
   exact ⟨by rw [E.out];simp,(Grw.refl _).alloc _⟩
  by_cases hq2:q≤1000000
  rotate_left
  ·rw [dec_n (fun x=>hq2 x.2)] at hbq
   subst hbq
   go_enter Tryz.func151,Tryz.ntmps151
   go_wp2_with fail
   refine (HN.out _).mono ?_
   rintro e w1 ⟨rfl,rfl⟩
   go_wp2
   go_ret
   exact ⟨by rw [E.out];simp,(Grw.refl _).alloc _⟩
  rw [dec_y ⟨hq1,hq2⟩] at hbq
  subst hbq
  go_enter Tryz.func151,Tryz.ntmps151
  go_wp2_with fail
  refine (HN.out _).mono ?_
  rintro e w1 ⟨rfl,rfl⟩
  go_wp2_with fail
  refine (HM.out _).mono ?_
  rintro e w1 ⟨rfl,rfl⟩
  cases bm with
  | false =>
   go_wp2
   go_ret
   exact ⟨by rw [E.out];simp,(Grw.refl _).alloc _⟩
  | true =>
   go_wp2_with fail
   refine (HI.out _).mono ?_
   rintro e w1 ⟨rfl,rfl⟩
   cases bi with
   | false =>
    go_wp2
    go_ret
    exact ⟨by rw [E.out];simp,(Grw.refl _).alloc _⟩
   | true =>
    go_wp2
    go_loopw [38] (fun x wr=>∃ k:Nat,k≤len∧x=.int .i64 k∧Hid ((rs.take k).all ruB=true)∧Hid (Grw (w.alloc (.cells #[.string nm,.slice a len cap,.int .i64 q,.int .i64 m,.int .i64 i] 121)) wr)) (fun x _=>len - (intOf x).toNat)
    case atStart=>exact ⟨0,Nat.zero_le _,rfl,rfl,Grw.refl _⟩
    case round =>
     obtain ⟨k,hk,rfl,HO,HG⟩:=hrel
     have b1:wr.cell? ⟨w.heap.size,1,none⟩=some (.slice a len cap):=HG.out.keep (by simp)
     by_cases hlt:k<len
     ·obtain ⟨x,hx⟩:=at_of hl hlt
      obtain ⟨b,off,vs,rfl,hb,hvl,hR,hc⟩:=RW.out.at RuR.kp (((Grw.refl w).alloc _).trans HG.out).below hx
      obtain ⟨p,ip,bb,lo,hi,al⟩:=x
      obtain ⟨rfl,hlo,hhi⟩:=hR
      have q0:wr.cell? ⟨b,off+k * 6,none⟩=some (.int .i64 p):=hc 0 _ rfl
      have q1:wr.cell? ⟨b,off+k * 6+1,none⟩=some (.int .i64 ip):=hc 1 _ rfl
      have q2:wr.cell? ⟨b,off+k * 6+2,none⟩=some (.int .i64 bb):=hc 2 _ rfl
      have q3:wr.cell? ⟨b,off+k * 6+3,none⟩=some (.int .i64 lo):=hc 3 _ rfl
      have q4:wr.cell? ⟨b,off+k * 6+4,none⟩=some (.int .i64 hi):=hc 4 _ rfl
      have q5:wr.cell? ⟨b,off+k * 6+5,none⟩=some (.bool al):=hc 5 _ rfl
      have HN:Hid (∀ w,Calls Tryz.prog 168 #[.agg #[.int .i64 p,.int .i64 ip,.int .i64 bb,.int .i64 lo,.int .i64 hi,.bool al]] w fun e w'=>e=.returned (.bool (ruB ⟨p,ip,bb,lo,hi,al⟩))∧Grw w w'):=fun w=>implRuleOK_any _ _ _ _ _ _ w hlo hhi
      have HS:Hid (ruB ⟨p,ip,bb,lo,hi,al⟩=true→(rs.take (k+1)).all ruB=true):=fun h=>all_step2 hx HO.out h
      have HF:Hid (ruB ⟨p,ip,bb,lo,hi,al⟩=false→rs.all ruB=false):=fun h=>all_no hx h
      generalize ruB ⟨p,ip,bb,lo,hi,al⟩=r at HN HS HF
      have hltz:(k:Int)<(len:Int):=by omega
      clear hc hvl hx
      go_wp2_with fail
      refine (HN.out _).mono ?_
      rintro e w1 ⟨rfl,g1⟩
      have HG1:Hid (Grw _ w1):=(HG.out.alloc _).trans g1
      clear q0 q1 q2 q3 q4 q5 HN
      cases r with
      | true =>
       have HS':Hid ((rs.take (k+1)).all ruB=true):=HS.out rfl
       clear HS HF g1 HG
       go_wp2
       go_roundw
       case rel=>exact ⟨k+1,by omega,by go_num,HS',HG1⟩
       case measure=>simp [intOf];omega
      | false =>
       have hd:Hid (rs.all ruB=false):=HF.out rfl
       go_wp2
       go_ret
       exact ⟨by rw [E.out,hd.out];rfl,((Grw.refl _).alloc _).trans HG1.out⟩
     ·obtain rfl:k=len:=by omega
      have hd:Hid (rs.all ruB=true):=all_end hl HO.out
      go_wp2
      go_ret
      exact ⟨by rw [E.out,hd.out];rfl,((Grw.refl _).alloc _).trans HG.out⟩
theorem szRuleS_any (a:Option Addr) (len cap:Nat) (l:Int) (w:World) (hl:len≤9223372036854775807) (h0:0≤l) (h1:l≤1048576) :
  Calls Tryz.prog 100 #[.slice a len cap,.int .i64 l] w fun e w'=>∃ r:Int,e=.returned (.int .i64 r)∧(0≤r→r=l - len)∧-1≤r∧r≤1048576∧w'=w:=by
 by_cases h:(len:Int)≤l
 ·go_enter Tryz.func100,Tryz.ntmps100
  go_wp2
  go_ret
  exact ⟨_,rfl,fun _=>by omega,by omega,by omega,rfl⟩
 ·go_enter Tryz.func100,Tryz.ntmps100
  go_wp2
  go_ret
  exact ⟨-1,rfl,fun h=>absurd h (by omega),by omega,by omega,rfl⟩
theorem infoRule:(Tryz.prog.info? 182).map (fun i=>(i.zero,i.size,i.bytes))=some (some (.agg #[.int .i64 0,.int .i64 0,.int .i64 0,.int .i64 0,.int .i64 0,.bool false]),6,48):=by kernel_rfl
set_option maxHeartbeats 2000000 in
theorem eqRuleS_yes (a a':Option Addr) (len cap cap':Nat) (xs:List RuleV) (w:World) (h:Rw RuR 6 w a xs) (h':Rw RuR 6 w a' xs) (hl:xs.length=len) (hlen:len≤1048576) :
  Calls Tryz.prog 127 #[.slice a len cap,.slice a' len cap'] w fun e w'=>e=.returned (.bool true)∧Grw w w':=by
 have hne:((len:Int) != (len:Int))=false:=by simp
 have hmix:Tryz.prog.follows .mixedOrders=true:=by kernel_rfl
 have RW:Hid (Rw RuR 6 w a xs):=h
 have RW':Hid (Rw RuR 6 w a' xs):=h'
 clear h h'
 go_enter Tryz.func127,Tryz.ntmps127
 go_wp2
 go_loopw [5] (fun i wr=>∃ k:Nat,k≤len∧i=.int .i64 k∧Hid (Grw w wr)) (fun i _=>len - (intOf i).toNat)
 case atStart=>exact ⟨0,Nat.zero_le _,rfl,Grw.refl w⟩
 case round =>
  obtain ⟨k,hk,rfl,HG⟩:=hrel
  by_cases hlt:k<len
  ·obtain ⟨x,hx⟩:=at_of hl hlt
   obtain ⟨b,off,vs,rfl,hb,hvl,hR,hc⟩:=RW.out.at RuR.kp HG.out.below hx
   obtain ⟨b',off',vs',rfl,hb',hvl',hR',hc'⟩:=RW'.out.at RuR.kp HG.out.below hx
   obtain ⟨p,ip,bb,lo,hi,al⟩:=x
   obtain ⟨rfl,hlo,hhi⟩:=hR
   obtain ⟨rfl,-,-⟩:=hR'
   have q0:∀ n os,(grow (wr.drewN n) os).cell? ⟨b,off+k * 6,none⟩=some (.int .i64 p):=fun n os=>grown_cell hb HG.out (hc 0 _ rfl) n os
   have q1:∀ n os,(grow (wr.drewN n) os).cell? ⟨b,off+k * 6+1,none⟩=some (.int .i64 ip):=fun n os=>grown_cell hb HG.out (hc 1 _ rfl) n os
   have q2:∀ n os,(grow (wr.drewN n) os).cell? ⟨b,off+k * 6+2,none⟩=some (.int .i64 bb):=fun n os=>grown_cell hb HG.out (hc 2 _ rfl) n os
   have q3:∀ n os,(grow (wr.drewN n) os).cell? ⟨b,off+k * 6+3,none⟩=some (.int .i64 lo):=fun n os=>grown_cell hb HG.out (hc 3 _ rfl) n os
   have q4:∀ n os,(grow (wr.drewN n) os).cell? ⟨b,off+k * 6+4,none⟩=some (.int .i64 hi):=fun n os=>grown_cell hb HG.out (hc 4 _ rfl) n os
   have q5:∀ n os,(grow (wr.drewN n) os).cell? ⟨b,off+k * 6+5,none⟩=some (.bool al):=fun n os=>grown_cell hb HG.out (hc 5 _ rfl) n os
   have r0:∀ n os,(grow (wr.drewN n) os).cell? ⟨b',off'+k * 6,none⟩=some (.int .i64 p):=fun n os=>grown_cell hb' HG.out (hc' 0 _ rfl) n os
   have r1:∀ n os,(grow (wr.drewN n) os).cell? ⟨b',off'+k * 6+1,none⟩=some (.int .i64 ip):=fun n os=>grown_cell hb' HG.out (hc' 1 _ rfl) n os
   have r2:∀ n os,(grow (wr.drewN n) os).cell? ⟨b',off'+k * 6+2,none⟩=some (.int .i64 bb):=fun n os=>grown_cell hb' HG.out (hc' 2 _ rfl) n os
   have r3:∀ n os,(grow (wr.drewN n) os).cell? ⟨b',off'+k * 6+3,none⟩=some (.int .i64 lo):=fun n os=>grown_cell hb' HG.out (hc' 3 _ rfl) n os
   have r4:∀ n os,(grow (wr.drewN n) os).cell? ⟨b',off'+k * 6+4,none⟩=some (.int .i64 hi):=fun n os=>grown_cell hb' HG.out (hc' 4 _ rfl) n os
   have r5:∀ n os,(grow (wr.drewN n) os).cell? ⟨b',off'+k * 6+5,none⟩=some (.bool al):=fun n os=>grown_cell hb' HG.out (hc' 5 _ rfl) n os
   have HE:Hid (∀ w,Calls Tryz.prog 146 #[.agg #[.int .i64 p,.int .i64 ip,.int .i64 bb,.int .i64 lo,.int .i64 hi,.bool al],.agg #[.int .i64 p,.int .i64 ip,.int .i64 bb,.int .i64 lo,.int .i64 hi,.bool al]] w fun e w'=>e=.returned (.bool true)∧Grw w w'):=fun w=>eqRule_any _ _ _ _ _ _ w
   have hltz:(k:Int)<(len:Int):=by omega
   clear hc hc'
   go_wp2_with fail
   refine wp_region_quiet_grown (by assumption) (by kernel_rfl) ?_
   repeat (go_big_quiet_step (first | fail | (go_at_call 146;exact Calls.grown_of (HE.out _))))
   refine wpQuiet_nil ?_
   intro _ hw'
   obtain ⟨⟨nq,osq⟩,hw''⟩:=hw'
   subst hw''
   have HG2:Hid (Grw w (grow (wr.drewN nq) osq)):=HG.out.trans ⟨nq,osq,rfl⟩
   clear q0 q1 q2 q3 q4 q5 r0 r1 r2 r3 r4 r5 HG HE
   go_wp2
   go_roundw
   case rel=>exact ⟨k+1,by omega,by go_num,HG2⟩
   case measure=>simp [intOf];omega
  ·obtain rfl:k=len:=by omega
   go_wp2
   go_ret
   exact ⟨rfl,HG.out⟩
set_option maxHeartbeats 1000000 in
theorem szRole_any (nm:ByteArray) (q m i:Int) (a:Option Addr) (len cap:Nat) (l:Int) (w:World) (hs:nm.size≤9223372036854775807) (hl:len≤9223372036854775807) (h0:0≤l) (h1:l≤1048576) :
  Calls Tryz.prog 60 #[.agg #[.string nm,.slice a len cap,.int .i64 q,.int .i64 m,.int .i64 i],.int .i64 l] w fun e w'=>∃ r:Int,e=.returned (.int .i64 r)∧(0≤r→r=l - nm.size - len)∧-1≤r∧r≤1048576∧Grw w w':=by
 by_cases h:(nm.size:Int)≤l
 ·have HC:Hid (∀ w,Calls Tryz.prog 100 #[.slice a len cap,.int .i64 (l - nm.size)] w fun e w'=>∃ r:Int,e=.returned (.int .i64 r)∧(0≤r→r=l - nm.size - len)∧-1≤r∧r≤1048576∧w'=w):=fun w=>szRuleS_any a len cap _ w hl (by omega) (by omega)
  go_enter Tryz.func60,Tryz.ntmps60
  go_wp2_with fail
  refine (HC.out _).mono ?_
  rintro e w1 ⟨r,rfl,hr,hr1,hr2,rfl⟩
  by_cases hr0:r<0
  ·go_wp2
   go_ret
   exact ⟨-1,rfl,fun h=>absurd h (by omega),by omega,by omega,(Grw.refl _).alloc _⟩
  ·go_wp2
   go_ret
   exact ⟨r,rfl,hr,by omega,by omega,(Grw.refl _).alloc _⟩
 ·go_enter Tryz.func60,Tryz.ntmps60
  go_wp2
  go_ret
  exact ⟨-1,rfl,fun h=>absurd h (by omega),by omega,by omega,(Grw.refl _).alloc _⟩
set_option maxHeartbeats 1000000 in
theorem eqRole_yes (nm:ByteArray) (rs:List RuleV) (q m i:Int) (a a':Option Addr) (len cap cap':Nat) (w:World) (h:Rw RuR 6 w a rs) (h':Rw RuR 6 w a' rs) (hl:rs.length=len) (hc:len≤1048576) :
  Calls Tryz.prog 97 #[.agg #[.string nm,.slice a len cap,.int .i64 q,.int .i64 m,.int .i64 i],.agg #[.string nm,.slice a' len cap',.int .i64 q,.int .i64 m,.int .i64 i]] w fun e w'=>e=.returned (.bool true)∧Grw w w':=by
 have RW:Hid (Rw RuR 6 w a rs):=h
 have RW':Hid (Rw RuR 6 w a' rs):=h'
 have HA:Hid (∀ w,Rw RuR 6 w a rs→Rw RuR 6 w a' rs→Calls Tryz.prog 127 #[.slice a len cap,.slice a' len cap'] w fun e w'=>e=.returned (.bool true)∧Grw w w'):=fun w h h'=>eqRuleS_yes a a' len cap cap' rs w h h' hl hc
 clear h h'
 have h0:(nm.toList == nm.toList)=true:=by simp
 have h1:(q != q)=false:=by simp
 have h2:(m != m)=false:=by simp
 have h3:(i != i)=false:=by simp
 go_enter Tryz.func97,Tryz.ntmps97
 go_wp2_with fail
 refine (HA.out _ (RW.out.keep RuR.kp (((Grw.refl w).alloc _).alloc _).below) (RW'.out.keep RuR.kp (((Grw.refl w).alloc _).alloc _).below)).mono ?_
 rintro e wx1 ⟨rfl,bx⟩
 have k0_0:World.cell? _ ⟨w.heap.size,0,none⟩=some (.string nm):=bx.keep (a:=⟨w.heap.size,0,none⟩) (v:=.string nm) (by simp [go_sem])
 have k0_1:World.cell? _ ⟨w.heap.size,1,none⟩=some (.slice a len cap):=bx.keep (a:=⟨w.heap.size,1,none⟩) (v:=.slice a len cap) (by simp [go_sem])
 have k0_2:World.cell? _ ⟨w.heap.size,2,none⟩=some (.int .i64 q):=bx.keep (a:=⟨w.heap.size,2,none⟩) (v:=.int .i64 q) (by simp [go_sem])
 have k0_3:World.cell? _ ⟨w.heap.size,3,none⟩=some (.int .i64 m):=bx.keep (a:=⟨w.heap.size,3,none⟩) (v:=.int .i64 m) (by simp [go_sem])
 have k0_4:World.cell? _ ⟨w.heap.size,4,none⟩=some (.int .i64 i):=bx.keep (a:=⟨w.heap.size,4,none⟩) (v:=.int .i64 i) (by simp [go_sem])
 have k1_0:World.cell? _ ⟨w.heap.size+1,0,none⟩=some (.string nm):=bx.keep (a:=⟨w.heap.size+1,0,none⟩) (v:=.string nm) (by simp [go_sem])
 have k1_1:World.cell? _ ⟨w.heap.size+1,1,none⟩=some (.slice a' len cap'):=bx.keep (a:=⟨w.heap.size+1,1,none⟩) (v:=.slice a' len cap') (by simp [go_sem])
 have k1_2:World.cell? _ ⟨w.heap.size+1,2,none⟩=some (.int .i64 q):=bx.keep (a:=⟨w.heap.size+1,2,none⟩) (v:=.int .i64 q) (by simp [go_sem])
 have k1_3:World.cell? _ ⟨w.heap.size+1,3,none⟩=some (.int .i64 m):=bx.keep (a:=⟨w.heap.size+1,3,none⟩) (v:=.int .i64 m) (by simp [go_sem])
 have k1_4:World.cell? _ ⟨w.heap.size+1,4,none⟩=some (.int .i64 i):=bx.keep (a:=⟨w.heap.size+1,4,none⟩) (v:=.int .i64 i) (by simp [go_sem])
 have BX:Hid (Grw w _):=(((Grw.refl _).alloc _).alloc _).trans bx
 clear bx
 go_wp2
 go_ret
 exact ⟨rfl,BX.out⟩
end Go.Proofs.YtojcakkkakmniaaGreatDoor
