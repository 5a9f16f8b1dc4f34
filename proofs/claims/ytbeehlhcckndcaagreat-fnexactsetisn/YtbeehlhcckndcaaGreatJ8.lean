/- Guests marked and held. Lists of flows and connections marked and held. Gateways of one's own: where their rows lie, and what is marked. Nets, plain numbers: what stands behind a net's bits, and what is kept ahead of it. Nothing of the program is imported. Texts as lists of numbers: of a string, of a number's bytes, of a part; the number and the sum of a list. Nothing of the program is imported. The program's NumberBytes at a size from 1 to 6 and a number that has room: its bytes, the higher ones first, in new memory. The program's part, numberAt, addNumber, setNumber. Laying texts behind one another in a row of the call's own; a struct in a box of the call's own. Nets, the walks: netAround, NetOK, NetHas; the model's NetOK, l05Has, NetHas. Rules: placeOf, placeOK, protoWord, RuleOK; the model's l07Range, RuleOK. Rules and places copied and compared by the laws; the walk of laws.FnExactRuleOK. The contracts of NameOK, the program's and the model's, and of what they call: whether a byte is a letter, a digit; whether a text is a name. -/
import Derived.Test.YtbeehlhcckndcaaGreatJ7
import Derived.Test.YtbeehlhcckndcaaGreatJ1
import Derived.Test.YtbeehlhcckndcaaGreatJ0
import Derived.Lib.AppendStr
import Derived.Laws.Concat
import Derived.Test.YtbeehlhcckndcaaGreatProg
import Derived.Laws.CopyOwn
import Derived.Laws.MakeOwn
import Derived.Laws.StructEq
namespace Go.Proofs.YtbeehlhcckndcaaGreat
open Go.RowKit Go.PlainAid Go.Proofs.YtbeehlhcckndcaaGreat.Bt Go.Sort
set_option linter.unusedVariables false
set_option maxRecDepth 20000
set_option maxHeartbeats 4000000 in
theorem markGuests_any (ux sx fx rx:Option Addr) (un uy sn sy fn fy rn ry:Nat) (us:List UserV) (ss:List SessV) (fs:List FailV) (rs:List RecV) (nx:Int) (m0 B:Nat) (w:World) (h:Own4 w B (.slice ux un uy) (.slice sx sn sy) (.slice fx fn fy) (.slice rx rn ry) us ss fs rs) (h0:0<m0) (hm:m0+6 * un+10 * sn+3 * fn+5 * rn≤100000000000) :
  Calls Tryz.prog 15 #[.agg #[.slice ux un uy,.slice sx sn sy,.slice fx fn fy,.slice rx rn ry,.int .i64 nx],.int .i64 (m0:Int)] w fun e w'=>e=.returned (.int .i64 ((m0+6 * un+10 * sn+3 * fn+5 * rn:Nat):Int))∧Own4 w' B (.slice ux un uy) (.slice sx sn sy) (.slice fx fn fy) (.slice rx rn ry) (mkUserL (m0) un) (mkSessionL (m0+6 * un) sn) (mkFailL (m0+6 * un+10 * sn) fn) (mkRecordL (m0+6 * un+10 * sn+3 * fn) rn)∧Rel.Keep (fun k=>k<w.heap.size∧Value.ownBlock (.slice ux un uy) ≠ some k∧Value.ownBlock (.slice sx sn sy) ≠ some k∧Value.ownBlock (.slice fx fn fy) ≠ some k∧Value.ownBlock (.slice rx rn ry) ≠ some k) w w':=by
 have G0:Bo (w.alloc (.cells #[.slice ux un uy,.slice sx sn sy,.slice fx fn fy,.slice rx rn ry,.int .i64 nx] 46)) w.heap.size 46 [.slice ux un uy,.slice sx sn sy,.slice fx fn fy,.slice rx rn ry,.int .i64 nx]:=Bo.new w #[.slice ux un uy,.slice sx sn sy,.slice fx fn fy,.slice rx rn ry,.int .i64 nx] _
 have al:Below w.heap.size w (w.alloc (.cells #[.slice ux un uy,.slice sx sn sy,.slice fx fn fy,.slice rx rn ry,.int .i64 nx] 46)):=(Below.refl _ _).alloc (Nat.le_refl _) _
 have ou:=h.u.now al
 have os_:=h.s.now al
 have of_:=h.f.now al
 have or_:=h.r.now al
 have K0:Hid (Rel.Keep (fun k=>k<w.heap.size∧Value.ownBlock (.slice ux un uy) ≠ some k∧Value.ownBlock (.slice sx sn sy) ≠ some k∧Value.ownBlock (.slice fx fn fy) ≠ some k∧Value.ownBlock (.slice rx rn ry) ≠ some k) w (w.alloc (.cells #[.slice ux un uy,.slice sx sn sy,.slice fx fn fy,.slice rx rn ry,.int .i64 nx] 46))):=⟨al.os,al.tape,al.output,al.size,fun k hk=>al.block k hk.1⟩
 clear h al
 have c0:=G0.cell 0 rfl
 go_enter Tryz.func15,Tryz.ntmps15
 have H0:=markUserS_any ux un uy B (m0) us _ ou (by omega) (by omega)
 go_wp2_with fail
 refine H0.mono ?_
 rintro e w1 ⟨rfl,o0,g0⟩
 have G1:=G0.row ou (by decide) g0
 have K1:Hid (Rel.Keep (fun k=>k<w.heap.size∧Value.ownBlock (.slice ux un uy) ≠ some k∧Value.ownBlock (.slice sx sn sy) ≠ some k∧Value.ownBlock (.slice fx fn fy) ≠ some k∧Value.ownBlock (.slice rx rn ry) ≠ some k) w w1):=K0.out.trans ⟨g0.os,g0.tape,g0.output,g0.size,fun k hk=>g0.block k (Nat.lt_of_lt_of_le hk.1 K0.out.size) (fun he=>hk.2.1 he.symm)⟩
 have ns:=os_.other ou (by decide) g0
 have nf:=of_.other ou (by decide) g0
 have nr:=or_.other ou (by decide) g0
 clear ou os_ of_ or_
 have ou:=o0
 have os_:=ns
 have of_:=nf
 have or_:=nr
 clear o0 g0 H0 K0 G0 ns nf nr c0
 have c1:=G1.cell 1 rfl
 have H1:=markSessionS_any sx sn sy B (m0+6 * un) ss _ os_ (by omega) (by omega)
 go_wp2_with fail
 refine H1.mono ?_
 rintro e w2 ⟨rfl,o1,g1⟩
 have G2:=G1.row os_ (by decide) g1
 have K2:Hid (Rel.Keep (fun k=>k<w.heap.size∧Value.ownBlock (.slice ux un uy) ≠ some k∧Value.ownBlock (.slice sx sn sy) ≠ some k∧Value.ownBlock (.slice fx fn fy) ≠ some k∧Value.ownBlock (.slice rx rn ry) ≠ some k) w w2):=K1.out.trans ⟨g1.os,g1.tape,g1.output,g1.size,fun k hk=>g1.block k (Nat.lt_of_lt_of_le hk.1 K1.out.size) (fun he=>hk.2.2.1 he.symm)⟩
 have nu:=ou.other os_ (by decide) g1
 have nf:=of_.other os_ (by decide) g1
 have nr:=or_.other os_ (by decide) g1
 clear ou os_ of_ or_
 have ou:=nu
 have os_:=o1
 have of_:=nf
 have or_:=nr
 clear o1 g1 H1 K1 G1 nu nf nr c1
 have c2:=G2.cell 2 rfl
 have H2:=markFailS_any fx fn fy B (m0+6 * un+10 * sn) fs _ of_ (by omega) (by omega)
 go_wp2_with fail
 refine H2.mono ?_
 rintro e w3 ⟨rfl,o2,g2⟩
 have G3:=G2.row of_ (by decide) g2
 have K3:Hid (Rel.Keep (fun k=>k<w.heap.size∧Value.ownBlock (.slice ux un uy) ≠ some k∧Value.ownBlock (.slice sx sn sy) ≠ some k∧Value.ownBlock (.slice fx fn fy) ≠ some k∧Value.ownBlock (.slice rx rn ry) ≠ some k) w w3):=K2.out.trans ⟨g2.os,g2.tape,g2.output,g2.size,fun k hk=>g2.block k (Nat.lt_of_lt_of_le hk.1 K2.out.size) (fun he=>hk.2.2.2.1 he.symm)⟩
 have nu:=ou.other of_ (by decide) g2
 have ns:=os_.other of_ (by decide) g2
 have nr:=or_.other of_ (by decide) g2
 clear ou os_ of_ or_
 have ou:=nu
 have os_:=ns
 have of_:=o2
 have or_:=nr
 clear o2 g2 H2 K2 G2 nu ns nr c2
 have c3:=G3.cell 3 rfl
 have H3:=markRecordS_any rx rn ry B (m0+6 * un+10 * sn+3 * fn) rs _ or_ (by omega) (by omega)
 go_wp2_with fail
 refine H3.mono ?_
 rintro e w4 ⟨rfl,o3,g3⟩
 have G4:=G3.row or_ (by decide) g3
 have K4:Hid (Rel.Keep (fun k=>k<w.heap.size∧Value.ownBlock (.slice ux un uy) ≠ some k∧Value.ownBlock (.slice sx sn sy) ≠ some k∧Value.ownBlock (.slice fx fn fy) ≠ some k∧Value.ownBlock (.slice rx rn ry) ≠ some k) w w4):=K3.out.trans ⟨g3.os,g3.tape,g3.output,g3.size,fun k hk=>g3.block k (Nat.lt_of_lt_of_le hk.1 K3.out.size) (fun he=>hk.2.2.2.2 he.symm)⟩
 have nu:=ou.other or_ (by decide) g3
 have ns:=os_.other or_ (by decide) g3
 have nf:=of_.other or_ (by decide) g3
 clear ou os_ of_ or_
 have ou:=nu
 have os_:=ns
 have of_:=nf
 have or_:=o3
 clear o3 g3 H3 K3 G3 nu ns nf c3
 have OO:Hid (Own4 w4 B (.slice ux un uy) (.slice sx sn sy) (.slice fx fn fy) (.slice rx rn ry) (mkUserL (m0) un) (mkSessionL (m0+6 * un) sn) (mkFailL (m0+6 * un+10 * sn) fn) (mkRecordL (m0+6 * un+10 * sn+3 * fn) rn)):=⟨ou,os_,of_,or_,ap_of ou os_ (by decide),ap_of ou of_ (by decide),ap_of ou or_ (by decide),ap_of os_ of_ (by decide),ap_of os_ or_ (by decide),ap_of of_ or_ (by decide)⟩
 clear ou os_ of_ or_ G4
 go_wp2
 go_ret
 exact ⟨rfl,OO.out,K4.out⟩
set_option maxHeartbeats 4000000 in
theorem heldGuests_any (ux sx fx rx:Option Addr) (un uy sn sy fn fy rn ry:Nat) (nx:Int) (m0:Nat) (w:World) (hu:Rw UsR 6 w ux (mkUserL (m0) un)) (hs:Rw SeR 10 w sx (mkSessionL (m0+6 * un) sn)) (hf:Rw FaR 3 w fx (mkFailL (m0+6 * un+10 * sn) fn)) (hr:Rw ReR 5 w rx (mkRecordL (m0+6 * un+10 * sn+3 * fn) rn)) (h0:0<m0) (hm:m0+6 * un+10 * sn+3 * fn+5 * rn≤100000000000) :
  Calls Tryz.prog 57 #[.agg #[.slice ux un uy,.slice sx sn sy,.slice fx fn fy,.slice rx rn ry,.int .i64 nx],.int .i64 (m0:Int)] w fun e w'=>e=.returned (.int .i64 ((m0+6 * un+10 * sn+3 * fn+5 * rn:Nat):Int))∧Grw w w':=by
 have G0:Bo (w.alloc (.cells #[.slice ux un uy,.slice sx sn sy,.slice fx fn fy,.slice rx rn ry,.int .i64 nx] 46)) w.heap.size 46 [.slice ux un uy,.slice sx sn sy,.slice fx fn fy,.slice rx rn ry,.int .i64 nx]:=Bo.new w #[.slice ux un uy,.slice sx sn sy,.slice fx fn fy,.slice rx rn ry,.int .i64 nx] _
 have K0:Hid (Grw w (w.alloc (.cells #[.slice ux un uy,.slice sx sn sy,.slice fx fn fy,.slice rx rn ry,.int .i64 nx] 46))):=(Grw.refl _).alloc _
 have c0:=G0.cell 0 rfl
 go_enter Tryz.func57,Tryz.ntmps57
 have H0:=heldUserS_any ux un uy (m0) _ (hu.keep UsR.kp K0.out.below) (by omega) (by omega)
 go_wp2_with fail
 refine H0.mono ?_
 rintro e w1 ⟨rfl,g0⟩
 have G1:=G0.below g0.below
 have K1:Hid (Grw w w1):=K0.out.trans g0
 have e0:decide (((m0+6 * un:Nat):Int)<0)=false:=decide_eq_false (by omega)
 clear H0 g0 G0 K0 c0
 have c1:=G1.cell 1 rfl
 have H1:=heldSessionS_any sx sn sy (m0+6 * un) _ (hs.keep SeR.kp K1.out.below) (by omega) (by omega)
 go_wp2_with fail
 refine H1.mono ?_
 rintro e w2 ⟨rfl,g1⟩
 have G2:=G1.below g1.below
 have K2:Hid (Grw w w2):=K1.out.trans g1
 have e1:decide (((m0+6 * un+10 * sn:Nat):Int)<0)=false:=decide_eq_false (by omega)
 clear H1 g1 G1 K1 c1
 have c2:=G2.cell 2 rfl
 have H2:=heldFailS_any fx fn fy (m0+6 * un+10 * sn) _ (hf.keep FaR.kp K2.out.below) (by omega) (by omega)
 go_wp2_with fail
 refine H2.mono ?_
 rintro e w3 ⟨rfl,g2⟩
 have G3:=G2.below g2.below
 have K3:Hid (Grw w w3):=K2.out.trans g2
 have e2:decide (((m0+6 * un+10 * sn+3 * fn:Nat):Int)<0)=false:=decide_eq_false (by omega)
 clear H2 g2 G2 K2 c2
 have c3:=G3.cell 3 rfl
 have H3:=heldRecordS_any rx rn ry (m0+6 * un+10 * sn+3 * fn) _ (hr.keep ReR.kp K3.out.below) (by omega) (by omega)
 go_wp2_with fail
 refine H3.mono ?_
 rintro e w4 ⟨rfl,g3⟩
 have G4:=G3.below g3.below
 have K4:Hid (Grw w w4):=K3.out.trans g3
 have e3:decide (((m0+6 * un+10 * sn+3 * fn+5 * rn:Nat):Int)<0)=false:=decide_eq_false (by omega)
 clear H3 g3 G3 K3 c3
 go_wp2
 go_ret
 exact ⟨rfl,K4.out⟩
theorem FlR.kp:Kp FlR:=FR.kp
theorem CnR.kp:Kp CnR:=FR.kp
def mkFlow (M:Nat):FlowV:=⟨(M:Int),mtS (M+1),(M:Int)+1+1,(M:Int)+1+1+1,(M:Int)+1+1+1+1,(M:Int)+1+1+1+1+1,(M:Int)+1+1+1+1+1+1,(M:Int)+1+1+1+1+1+1+1,(M:Int)+1+1+1+1+1+1+1+1⟩
def mkFlowL (m0 n:Nat):List FlowV:=(List.range n).map (fun k=>mkFlow (m0+9 * k))
theorem mkFlowL_len (m0 n:Nat):(mkFlowL m0 n).length=n:=by simp [mkFlowL]
theorem mkFlowL_at (m0 n i:Nat) (h:i<n):(mkFlowL m0 n)[i]?=some (mkFlow (m0+9 * i)):=by rw [mkFlowL,List.getElem?_map,List.getElem?_range h];rfl
theorem mkFlow_ok (M:Nat) (h:M+9≤1000000000000):FlRok (mkFlow M):=by
 unfold FlRok mkFlow
 dsimp only
 exact ⟨int_wf9 (by omega) (by omega),Nat.le_trans (mtS_len _ (by omega)) (by unfold maxLen;omega),int_wf9 (by omega) (by omega),int_wf9 (by omega) (by omega),int_wf9 (by omega) (by omega),int_wf9 (by omega) (by omega),int_wf9 (by omega) (by omega),int_wf9 (by omega) (by omega),int_wf9 (by omega) (by omega)⟩
theorem mkFlowL_ok (m0 n:Nat) (h:m0+9 * n≤1000000000000):∀ x,x ∈ mkFlowL m0 n→FlRok x:=by
 intro x hx
 unfold mkFlowL at hx
 simp at hx
 obtain ⟨i,hi,rfl⟩:=hx
 exact mkFlow_ok _ (by omega)
def mkFlow_0 (x:FlowV) (M:Nat):FlowV:={ x with pr:=(M:Int) }
def mkFlow_1 (x:FlowV) (M:Nat):FlowV:={ mkFlow_0 x M with mc:=mtS (M+1) }
def mkFlow_2 (x:FlowV) (M:Nat):FlowV:={ mkFlow_1 x M with si:=(M:Int)+1+1 }
def mkFlow_3 (x:FlowV) (M:Nat):FlowV:={ mkFlow_2 x M with sp:=(M:Int)+1+1+1 }
def mkFlow_4 (x:FlowV) (M:Nat):FlowV:={ mkFlow_3 x M with di:=(M:Int)+1+1+1+1 }
def mkFlow_5 (x:FlowV) (M:Nat):FlowV:={ mkFlow_4 x M with dp:=(M:Int)+1+1+1+1+1 }
def mkFlow_6 (x:FlowV) (M:Nat):FlowV:={ mkFlow_5 x M with st:=(M:Int)+1+1+1+1+1+1 }
def mkFlow_7 (x:FlowV) (M:Nat):FlowV:={ mkFlow_6 x M with un:=(M:Int)+1+1+1+1+1+1+1 }
def mkFlow_8 (x:FlowV) (M:Nat):FlowV:={ mkFlow_7 x M with ow:=(M:Int)+1+1+1+1+1+1+1+1 }
set_option maxHeartbeats 4000000 in
theorem markFlowS_any (a:Option Addr) (n cap B m0:Nat) (L:List FlowV) (w:World) (h:OwnS wvG 9 159 w B (.slice a n cap) L) (h0:0<m0) (hm:m0+9 * n≤100000000000) :
  Calls Tryz.prog 54 #[.slice a n cap,.int .i64 (m0:Int)] w fun e w'=>e=.returned (.int .i64 ((m0+9 * n:Nat):Int))∧OwnS wvG 9 159 w' B (.slice a n cap) (mkFlowL m0 n)∧w.grownBy w' (Value.slice a n cap).ownBlock:=by
 have H:Hid (OwnS wvG 9 159 w B (.slice a n cap) L):=h
 have hn:=h.len
 have hlen:n≤100000000000:=by omega
 clear h
 go_enter Tryz.func54,Tryz.ntmps54
 go_wp2
 go_loopw [1,5] (fun m i wr=>∃ (k M:Nat) (L':List FlowV),k≤n∧i=.int .i64 k∧m=.int .i64 (M:Int)∧Hid (M=m0+9 * k)∧Hid (OwnS wvG 9 159 wr B (.slice a n cap) L'∧L'.length=n∧L'.take k=(mkFlowL m0 n).take k∧w.grownBy wr (Value.slice a n cap).ownBlock)) (fun _ i _=>n - (intOf i).toNat)
 case atStart=>exact ⟨0,m0,L,Nat.zero_le _,rfl,rfl,by show m0=_;omega,H.out,hn,rfl,grown_refl w _⟩
 case round =>
  obtain ⟨k,M,L',hk,rfl,rfl,hM,X⟩:=hrel
  by_cases hlt:k<n
  ·obtain ⟨g,rfl,hBg,hg,-⟩:=X.out.1.form (by rw [X.out.2.1];omega)
   obtain ⟨x,hx⟩:=at_of (k:=k) X.out.2.1 hlt
   have hltz:(k:Int)<(n:Int):=by omega
   have hMz:(M:Int)≤200000000000:=by have:=hM.out;omega
   have hM0:0<M:=by have:=hM.out;omega
   have G0:Hid (w.grownBy wr (some g)):=X.out.2.2.2
   have o0:=X.out.1
   have hT:Hid (L'.length=n∧L'.take k=(mkFlowL m0 n).take k):=⟨X.out.2.1,X.out.2.2.1⟩
   clear X
   obtain ⟨c0,z0⟩:=o0.cell wvG_len (j:=0) hx rfl
   replace c0:wr.cell? ⟨g,k * 9,none⟩=some (.int .i64 x.pr):=c0
   replace z0:wr.frozen? ⟨g,k * 9,none⟩=false:=z0
   have s0:=o0.set1 wvG_len (j:=0) (y:=(mkFlow_0 x M)) (u:=.int .i64 ((M:Int))) hx (by omega) rfl
   have hx0:(L'.set k (mkFlow_0 x M))[k]?=some (mkFlow_0 x M):=List.getElem?_set_self (by rw [hT.out.1];exact hlt)
   have Z0:Hid (OwnS wvG 9 159 (wr.setCell ⟨g,k * 9,none⟩ (.int .i64 ((M:Int)))) B (.slice (some ⟨g,0,none⟩) n cap) (L'.set k (mkFlow_0 x M))∧w.grownBy (wr.setCell ⟨g,k * 9,none⟩ (.int .i64 ((M:Int)))) (some g)):=⟨s0.1,(grown_tr G0.out s0.2)⟩
   have hy0:Hid ((L'.set k (mkFlow_0 x M))[k]?=some (mkFlow_0 x M)):=hx0
   clear o0 G0 s0 hx0 hx
   have HM1:Hid (∀ w,Calls Tryz.prog 105 #[.int .i64 ((M:Int)+1)] w fun e w'=>e=.returned (.string (mtS (M+1)))∧Grw w w'):=fun w=>by
    have:=markText_any (M+1) w (by omega) (by omega)
    rw [show ((M+1:Nat):Int)=(M:Int)+1 by omega] at this
    exact this
   go_wp2_with fail
   refine (HM1.out _).mono ?_
   rintro e wt1 ⟨rfl,gt1⟩
   clear c0 z0
   have ot1:=Z0.out.1.now gt1.below
   have Gt1:Hid (w.grownBy wt1 (some g)):=grown_tr Z0.out.2 (gt1.grown _)
   clear HM1 gt1 Z0
   obtain ⟨c1,z1⟩:=ot1.cell wvG_len (j:=1) hy0.out rfl
   obtain ⟨c2,z2⟩:=ot1.cell wvG_len (j:=2) hy0.out rfl
   obtain ⟨c3,z3⟩:=ot1.cell wvG_len (j:=3) hy0.out rfl
   obtain ⟨c4,z4⟩:=ot1.cell wvG_len (j:=4) hy0.out rfl
   obtain ⟨c5,z5⟩:=ot1.cell wvG_len (j:=5) hy0.out rfl
   obtain ⟨c6,z6⟩:=ot1.cell wvG_len (j:=6) hy0.out rfl
   obtain ⟨c7,z7⟩:=ot1.cell wvG_len (j:=7) hy0.out rfl
   obtain ⟨c8,z8⟩:=ot1.cell wvG_len (j:=8) hy0.out rfl
   have s1:=ot1.set1 wvG_len (j:=1) (y:=(mkFlow_1 x M)) (u:=.string (mtS (M+1))) hy0.out (by omega) rfl
   rw [List.set_set] at s1
   have hx1:(L'.set k (mkFlow_1 x M))[k]?=some (mkFlow_1 x M):=List.getElem?_set_self (by rw [hT.out.1];exact hlt)
   have s2:=s1.1.set1 wvG_len (j:=2) (y:=(mkFlow_2 x M)) (u:=.int .i64 ((M:Int)+1+1)) hx1 (by omega) rfl
   rw [List.set_set] at s2
   have hx2:(L'.set k (mkFlow_2 x M))[k]?=some (mkFlow_2 x M):=List.getElem?_set_self (by rw [hT.out.1];exact hlt)
   have s3:=s2.1.set1 wvG_len (j:=3) (y:=(mkFlow_3 x M)) (u:=.int .i64 ((M:Int)+1+1+1)) hx2 (by omega) rfl
   rw [List.set_set] at s3
   have hx3:(L'.set k (mkFlow_3 x M))[k]?=some (mkFlow_3 x M):=List.getElem?_set_self (by rw [hT.out.1];exact hlt)
   have s4:=s3.1.set1 wvG_len (j:=4) (y:=(mkFlow_4 x M)) (u:=.int .i64 ((M:Int)+1+1+1+1)) hx3 (by omega) rfl
   rw [List.set_set] at s4
   have hx4:(L'.set k (mkFlow_4 x M))[k]?=some (mkFlow_4 x M):=List.getElem?_set_self (by rw [hT.out.1];exact hlt)
   have s5:=s4.1.set1 wvG_len (j:=5) (y:=(mkFlow_5 x M)) (u:=.int .i64 ((M:Int)+1+1+1+1+1)) hx4 (by omega) rfl
   rw [List.set_set] at s5
   have hx5:(L'.set k (mkFlow_5 x M))[k]?=some (mkFlow_5 x M):=List.getElem?_set_self (by rw [hT.out.1];exact hlt)
   have s6:=s5.1.set1 wvG_len (j:=6) (y:=(mkFlow_6 x M)) (u:=.int .i64 ((M:Int)+1+1+1+1+1+1)) hx5 (by omega) rfl
   rw [List.set_set] at s6
   have hx6:(L'.set k (mkFlow_6 x M))[k]?=some (mkFlow_6 x M):=List.getElem?_set_self (by rw [hT.out.1];exact hlt)
   have s7:=s6.1.set1 wvG_len (j:=7) (y:=(mkFlow_7 x M)) (u:=.int .i64 ((M:Int)+1+1+1+1+1+1+1)) hx6 (by omega) rfl
   rw [List.set_set] at s7
   have hx7:(L'.set k (mkFlow_7 x M))[k]?=some (mkFlow_7 x M):=List.getElem?_set_self (by rw [hT.out.1];exact hlt)
   have s8:=s7.1.set1 wvG_len (j:=8) (y:=(mkFlow_8 x M)) (u:=.int .i64 ((M:Int)+1+1+1+1+1+1+1+1)) hx7 (by omega) rfl
   rw [List.set_set] at s8
   have hx8:(L'.set k (mkFlow_8 x M))[k]?=some (mkFlow_8 x M):=List.getElem?_set_self (by rw [hT.out.1];exact hlt)
   have Z1:Hid (OwnS wvG 9 159 ((((((((wt1.setCell ⟨g,k * 9+1,none⟩ (.string (mtS (M+1)))).setCell ⟨g,k * 9+2,none⟩ (.int .i64 ((M:Int)+1+1))).setCell ⟨g,k * 9+3,none⟩ (.int .i64 ((M:Int)+1+1+1))).setCell ⟨g,k * 9+4,none⟩ (.int .i64 ((M:Int)+1+1+1+1))).setCell ⟨g,k * 9+5,none⟩ (.int .i64 ((M:Int)+1+1+1+1+1))).setCell ⟨g,k * 9+6,none⟩ (.int .i64 ((M:Int)+1+1+1+1+1+1))).setCell ⟨g,k * 9+7,none⟩ (.int .i64 ((M:Int)+1+1+1+1+1+1+1))).setCell ⟨g,k * 9+8,none⟩ (.int .i64 ((M:Int)+1+1+1+1+1+1+1+1))) B (.slice (some ⟨g,0,none⟩) n cap) (L'.set k (mkFlow_8 x M))∧w.grownBy ((((((((wt1.setCell ⟨g,k * 9+1,none⟩ (.string (mtS (M+1)))).setCell ⟨g,k * 9+2,none⟩ (.int .i64 ((M:Int)+1+1))).setCell ⟨g,k * 9+3,none⟩ (.int .i64 ((M:Int)+1+1+1))).setCell ⟨g,k * 9+4,none⟩ (.int .i64 ((M:Int)+1+1+1+1))).setCell ⟨g,k * 9+5,none⟩ (.int .i64 ((M:Int)+1+1+1+1+1))).setCell ⟨g,k * 9+6,none⟩ (.int .i64 ((M:Int)+1+1+1+1+1+1))).setCell ⟨g,k * 9+7,none⟩ (.int .i64 ((M:Int)+1+1+1+1+1+1+1))).setCell ⟨g,k * 9+8,none⟩ (.int .i64 ((M:Int)+1+1+1+1+1+1+1+1))) (some g)):=⟨s8.1,(grown_tr (grown_tr (grown_tr (grown_tr (grown_tr (grown_tr (grown_tr (grown_tr Gt1.out s1.2) s2.2) s3.2) s4.2) s5.2) s6.2) s7.2) s8.2)⟩
   have hy1:Hid ((L'.set k (mkFlow_8 x M))[k]?=some (mkFlow_8 x M)):=hx8
   clear ot1 Gt1 s1 hx1 s2 hx2 s3 hx3 s4 hx4 s5 hx5 s6 hx6 s7 hx7 s8 hx8 
   have eFlow:(mkFlow_8 x M)=mkFlow M:=rfl
   rw [eFlow] at Z1
   have YY:Hid (OwnS wvG 9 159 ((((((((wt1.setCell ⟨g,k * 9+1,none⟩ (.string (mtS (M+1)))).setCell ⟨g,k * 9+2,none⟩ (.int .i64 ((M:Int)+1+1))).setCell ⟨g,k * 9+3,none⟩ (.int .i64 ((M:Int)+1+1+1))).setCell ⟨g,k * 9+4,none⟩ (.int .i64 ((M:Int)+1+1+1+1))).setCell ⟨g,k * 9+5,none⟩ (.int .i64 ((M:Int)+1+1+1+1+1))).setCell ⟨g,k * 9+6,none⟩ (.int .i64 ((M:Int)+1+1+1+1+1+1))).setCell ⟨g,k * 9+7,none⟩ (.int .i64 ((M:Int)+1+1+1+1+1+1+1))).setCell ⟨g,k * 9+8,none⟩ (.int .i64 ((M:Int)+1+1+1+1+1+1+1+1))) B (.slice (some ⟨g,0,none⟩) n cap) (L'.set k (mkFlow M))∧(L'.set k (mkFlow M)).length=n∧(L'.set k (mkFlow M)).take (k+1)=(mkFlowL m0 n).take (k+1)∧w.grownBy ((((((((wt1.setCell ⟨g,k * 9+1,none⟩ (.string (mtS (M+1)))).setCell ⟨g,k * 9+2,none⟩ (.int .i64 ((M:Int)+1+1))).setCell ⟨g,k * 9+3,none⟩ (.int .i64 ((M:Int)+1+1+1))).setCell ⟨g,k * 9+4,none⟩ (.int .i64 ((M:Int)+1+1+1+1))).setCell ⟨g,k * 9+5,none⟩ (.int .i64 ((M:Int)+1+1+1+1+1))).setCell ⟨g,k * 9+6,none⟩ (.int .i64 ((M:Int)+1+1+1+1+1+1))).setCell ⟨g,k * 9+7,none⟩ (.int .i64 ((M:Int)+1+1+1+1+1+1+1))).setCell ⟨g,k * 9+8,none⟩ (.int .i64 ((M:Int)+1+1+1+1+1+1+1+1))) (some g)):=⟨Z1.out.1,by rw [List.length_set];exact hT.out.1,takeS_set (by rw [hT.out.1,mkFlowL_len]) (by rw [mkFlowL_at m0 n k hlt,hM.out]) hT.out.2,Z1.out.2⟩
   clear Z1 hT hy0 hy1
   go_wp2
   go_roundw
   case rel=>exact ⟨k+1,M+9,_,by omega,by go_num,by go_num,(show M+9=m0+9 * (k+1) by have:=hM.out;omega),YY⟩
   case measure=>simp [intOf];omega
  ·obtain rfl:k=n:=by omega
   have e1:L'=mkFlowL m0 k:=by
    have:=X.out.2.2.1
    rwa [List.take_of_length_le (by rw [X.out.2.1];exact Nat.le_refl _),List.take_of_length_le (by rw [mkFlowL_len];exact Nat.le_refl _)] at this
   subst e1
   have hM2:=hM.out
   subst hM2
   go_wp2
   go_ret
   exact ⟨rfl,X.out.1,X.out.2.2.2⟩
set_option maxHeartbeats 4000000 in
theorem heldFlowS_any (a:Option Addr) (n cap m0:Nat) (w:World) (h:Rw FlR 9 w a (mkFlowL m0 n)) (h0:0<m0) (hm:m0+9 * n≤100000000000) :
  Calls Tryz.prog 58 #[.slice a n cap,.int .i64 (m0:Int)] w fun e w'=>e=.returned (.int .i64 ((m0+9 * n:Nat):Int))∧Grw w w':=by
 have H:Hid (Rw FlR 9 w a (mkFlowL m0 n)):=h
 have hlen:n≤100000000000:=by omega
 clear h
 have hmix:Tryz.prog.follows .mixedOrders=true:=by kernel_rfl
 go_enter Tryz.func58,Tryz.ntmps58
 go_wp2
 go_loopw [1,5] (fun m i wr=>∃ k M:Nat,k≤n∧i=.int .i64 k∧m=.int .i64 (M:Int)∧Hid (M=m0+9 * k)∧Hid (Grw w wr)) (fun _ i _=>n - (intOf i).toNat)
 case atStart=>exact ⟨0,m0,Nat.zero_le _,rfl,rfl,by show m0=_;omega,Grw.refl w⟩
 case round =>
  obtain ⟨k,M,hk,rfl,rfl,hM,HG⟩:=hrel
  by_cases hlt:k<n
  ·obtain ⟨b,off,vs,rfl,hb,hvl,hR,hc⟩:=H.out.at FlR.kp HG.out.below (mkFlowL_at m0 n k hlt)
   rw [← hM.out] at hR
   obtain ⟨rfl,-⟩:=hR
   have hltz:(k:Int)<(n:Int):=by omega
   have hMz:(M:Int)≤200000000000:=by have:=hM.out;omega
   have hM0:0<M:=by have:=hM.out;omega
   have q0:wr.cell? ⟨b,off+k * 9,none⟩=some (.int .i64 ((M:Int))):=hc 0 _ rfl
   have q1:wr.cell? ⟨b,off+k * 9+1,none⟩=some (.string (mtS (M+1))):=hc 1 _ rfl
   have q2:wr.cell? ⟨b,off+k * 9+2,none⟩=some (.int .i64 ((M:Int)+1+1)):=hc 2 _ rfl
   have q3:wr.cell? ⟨b,off+k * 9+3,none⟩=some (.int .i64 ((M:Int)+1+1+1)):=hc 3 _ rfl
   have q4:wr.cell? ⟨b,off+k * 9+4,none⟩=some (.int .i64 ((M:Int)+1+1+1+1)):=hc 4 _ rfl
   have q5:wr.cell? ⟨b,off+k * 9+5,none⟩=some (.int .i64 ((M:Int)+1+1+1+1+1)):=hc 5 _ rfl
   have q6:wr.cell? ⟨b,off+k * 9+6,none⟩=some (.int .i64 ((M:Int)+1+1+1+1+1+1)):=hc 6 _ rfl
   have q7:wr.cell? ⟨b,off+k * 9+7,none⟩=some (.int .i64 ((M:Int)+1+1+1+1+1+1+1)):=hc 7 _ rfl
   have q8:wr.cell? ⟨b,off+k * 9+8,none⟩=some (.int .i64 ((M:Int)+1+1+1+1+1+1+1+1)):=hc 8 _ rfl
   clear hc hvl
   have e0:(((M:Int)) != ((M:Int)))=false:=by simp
   have e2:(((M:Int)+1+1) != ((M:Int)+1+1))=false:=by simp
   have e3:(((M:Int)+1+1+1) != ((M:Int)+1+1+1))=false:=by simp
   have e4:(((M:Int)+1+1+1+1) != ((M:Int)+1+1+1+1))=false:=by simp
   have e5:(((M:Int)+1+1+1+1+1) != ((M:Int)+1+1+1+1+1))=false:=by simp
   have e6:(((M:Int)+1+1+1+1+1+1) != ((M:Int)+1+1+1+1+1+1))=false:=by simp
   have e7:(((M:Int)+1+1+1+1+1+1+1) != ((M:Int)+1+1+1+1+1+1+1))=false:=by simp
   have e8:(((M:Int)+1+1+1+1+1+1+1+1) != ((M:Int)+1+1+1+1+1+1+1+1))=false:=by simp
   have HM1:Hid (∀ w,Calls Tryz.prog 105 #[.int .i64 ((M:Int)+1)] w fun e w'=>e=.returned (.string (mtS (M+1)))∧Grw w w'):=fun w=>by
    have:=markText_any (M+1) w (by omega) (by omega)
    rw [show ((M+1:Nat):Int)=(M:Int)+1 by omega] at this
    exact this
   generalize mtS (M+1)=T1 at *
   have t1:(T1.toList == T1.toList)=true:=by simp
   have y1:∀ n os,(grow (wr.drewN n) os).cell? ⟨b,off+k * 9+1,none⟩=some (.string T1):=fun n os=>bkeep (Grw.below ⟨n,os,rfl⟩) q1
   go_wp2_with fail
   refine wp_region_quiet_grown (by assumption) (by kernel_rfl) ?_
   repeat (go_big_quiet_step (first | fail | (go_at_call 105;exact Calls.grown_of (HM1.out _))))
   refine wpQuiet_nil ?_
   intro _ hw'
   obtain ⟨⟨nq,osq⟩,hw''⟩:=hw'
   subst hw''
   have HG1:Hid (Grw w (grow (wr.drewN nq) osq)):=HG.out.trans ⟨nq,osq,rfl⟩
   replace q2:(grow (wr.drewN nq) osq).cell? ⟨b,off+k * 9+2,none⟩=some (.int .i64 ((M:Int)+1+1)):=bkeep (Grw.below ⟨nq,osq,rfl⟩) q2
   replace q3:(grow (wr.drewN nq) osq).cell? ⟨b,off+k * 9+3,none⟩=some (.int .i64 ((M:Int)+1+1+1)):=bkeep (Grw.below ⟨nq,osq,rfl⟩) q3
   replace q4:(grow (wr.drewN nq) osq).cell? ⟨b,off+k * 9+4,none⟩=some (.int .i64 ((M:Int)+1+1+1+1)):=bkeep (Grw.below ⟨nq,osq,rfl⟩) q4
   replace q5:(grow (wr.drewN nq) osq).cell? ⟨b,off+k * 9+5,none⟩=some (.int .i64 ((M:Int)+1+1+1+1+1)):=bkeep (Grw.below ⟨nq,osq,rfl⟩) q5
   replace q6:(grow (wr.drewN nq) osq).cell? ⟨b,off+k * 9+6,none⟩=some (.int .i64 ((M:Int)+1+1+1+1+1+1)):=bkeep (Grw.below ⟨nq,osq,rfl⟩) q6
   replace q7:(grow (wr.drewN nq) osq).cell? ⟨b,off+k * 9+7,none⟩=some (.int .i64 ((M:Int)+1+1+1+1+1+1+1)):=bkeep (Grw.below ⟨nq,osq,rfl⟩) q7
   replace q8:(grow (wr.drewN nq) osq).cell? ⟨b,off+k * 9+8,none⟩=some (.int .i64 ((M:Int)+1+1+1+1+1+1+1+1)):=bkeep (Grw.below ⟨nq,osq,rfl⟩) q8
   clear y1 q0 q1 HM1
   generalize (grow (wr.drewN nq) osq)=wv1 at *
   go_wp2
   go_roundw
   case rel=>exact ⟨k+1,M+9,by omega,by go_num,by go_num,(show M+9=m0+9 * (k+1) by have:=hM.out;omega),HG1⟩
   case measure=>simp [intOf];omega
  ·obtain rfl:k=n:=by omega
   have hM2:=hM.out
   subst hM2
   go_wp2
   go_ret
   exact ⟨rfl,HG.out⟩
def mkConn (M:Nat):ConnV:=⟨mtS M,(M:Int)+1,(M:Int)+1+1,(M:Int)+1+1+1,(M:Int)+1+1+1+1,(M:Int)+1+1+1+1+1,(M:Int)+1+1+1+1+1+1,(M:Int)+1+1+1+1+1+1+1,mtS (M+8),mtS (M+9),(((M:Int)+1+1+1+1+1+1+1+1+1+1) % 3 == 0)⟩
def mkConnL (m0 n:Nat):List ConnV:=(List.range n).map (fun k=>mkConn (m0+11 * k))
theorem mkConnL_len (m0 n:Nat):(mkConnL m0 n).length=n:=by simp [mkConnL]
theorem mkConnL_at (m0 n i:Nat) (h:i<n):(mkConnL m0 n)[i]?=some (mkConn (m0+11 * i)):=by rw [mkConnL,List.getElem?_map,List.getElem?_range h];rfl
theorem mkConn_ok (M:Nat) (h:M+11≤1000000000000):CnRok (mkConn M):=by
 unfold CnRok mkConn
 dsimp only
 exact ⟨Nat.le_trans (mtS_len _ (by omega)) (by unfold maxLen;omega),int_wf9 (by omega) (by omega),int_wf9 (by omega) (by omega),int_wf9 (by omega) (by omega),int_wf9 (by omega) (by omega),int_wf9 (by omega) (by omega),int_wf9 (by omega) (by omega),int_wf9 (by omega) (by omega),Nat.le_trans (mtS_len _ (by omega)) (by unfold maxLen;omega),Nat.le_trans (mtS_len _ (by omega)) (by unfold maxLen;omega)⟩
theorem mkConnL_ok (m0 n:Nat) (h:m0+11 * n≤1000000000000):∀ x,x ∈ mkConnL m0 n→CnRok x:=by
 intro x hx
 unfold mkConnL at hx
 simp at hx
 obtain ⟨i,hi,rfl⟩:=hx
 exact mkConn_ok _ (by omega)
def mkConn_0 (x:ConnV) (M:Nat):ConnV:={ x with mc:=mtS M }
def mkConn_1 (x:ConnV) (M:Nat):ConnV:={ mkConn_0 x M with ip:=(M:Int)+1 }
def mkConn_2 (x:ConnV) (M:Nat):ConnV:={ mkConn_1 x M with po:=(M:Int)+1+1 }
def mkConn_3 (x:ConnV) (M:Nat):ConnV:={ mkConn_2 x M with di:=(M:Int)+1+1+1 }
def mkConn_4 (x:ConnV) (M:Nat):ConnV:={ mkConn_3 x M with st:=(M:Int)+1+1+1+1 }
def mkConn_5 (x:ConnV) (M:Nat):ConnV:={ mkConn_4 x M with un:=(M:Int)+1+1+1+1+1 }
def mkConn_6 (x:ConnV) (M:Nat):ConnV:={ mkConn_5 x M with nx:=(M:Int)+1+1+1+1+1+1 }
def mkConn_7 (x:ConnV) (M:Nat):ConnV:={ mkConn_6 x M with wa:=(M:Int)+1+1+1+1+1+1+1 }
def mkConn_8 (x:ConnV) (M:Nat):ConnV:={ mkConn_7 x M with inn:=mtS (M+8) }
def mkConn_9 (x:ConnV) (M:Nat):ConnV:={ mkConn_8 x M with out:=mtS (M+9) }
def mkConn_10 (x:ConnV) (M:Nat):ConnV:={ mkConn_9 x M with fin:=(((M:Int)+1+1+1+1+1+1+1+1+1+1) % 3 == 0) }
set_option maxHeartbeats 4000000 in
theorem markConnS_any (a:Option Addr) (n cap B m0:Nat) (L:List ConnV) (w:World) (h:OwnS cnG 11 162 w B (.slice a n cap) L) (h0:0<m0) (hm:m0+11 * n≤100000000000) :
  Calls Tryz.prog 55 #[.slice a n cap,.int .i64 (m0:Int)] w fun e w'=>e=.returned (.int .i64 ((m0+11 * n:Nat):Int))∧OwnS cnG 11 162 w' B (.slice a n cap) (mkConnL m0 n)∧w.grownBy w' (Value.slice a n cap).ownBlock:=by
 have H:Hid (OwnS cnG 11 162 w B (.slice a n cap) L):=h
 have hn:=h.len
 have hlen:n≤100000000000:=by omega
 clear h
 go_enter Tryz.func55,Tryz.ntmps55
 go_wp2
 go_loopw [1,5] (fun m i wr=>∃ (k M:Nat) (L':List ConnV),k≤n∧i=.int .i64 k∧m=.int .i64 (M:Int)∧Hid (M=m0+11 * k)∧Hid (OwnS cnG 11 162 wr B (.slice a n cap) L'∧L'.length=n∧L'.take k=(mkConnL m0 n).take k∧w.grownBy wr (Value.slice a n cap).ownBlock)) (fun _ i _=>n - (intOf i).toNat)
 case atStart=>exact ⟨0,m0,L,Nat.zero_le _,rfl,rfl,by show m0=_;omega,H.out,hn,rfl,grown_refl w _⟩
 case round =>
  obtain ⟨k,M,L',hk,rfl,rfl,hM,X⟩:=hrel
  by_cases hlt:k<n
  ·obtain ⟨g,rfl,hBg,hg,-⟩:=X.out.1.form (by rw [X.out.2.1];omega)
   obtain ⟨x,hx⟩:=at_of (k:=k) X.out.2.1 hlt
   have hltz:(k:Int)<(n:Int):=by omega
   have hMz:(M:Int)≤200000000000:=by have:=hM.out;omega
   have hM0:0<M:=by have:=hM.out;omega
   have G0:Hid (w.grownBy wr (some g)):=X.out.2.2.2
   have o0:=X.out.1
   have hT:Hid (L'.length=n∧L'.take k=(mkConnL m0 n).take k):=⟨X.out.2.1,X.out.2.2.1⟩
   clear X
   have HM0:Hid (∀ w,Calls Tryz.prog 105 #[.int .i64 ((M:Int))] w fun e w'=>e=.returned (.string (mtS (M)))∧Grw w w'):=fun w=>by
    have:=markText_any (M) w (by omega) (by omega)
    exact this
   go_wp2_with fail
   refine (HM0.out _).mono ?_
   rintro e wt0 ⟨rfl,gt0⟩
   have ot0:=o0.now gt0.below
   have Gt0:Hid (w.grownBy wt0 (some g)):=grown_tr G0.out (gt0.grown _)
   clear HM0 gt0 o0 G0
   obtain ⟨c0,z0⟩:=ot0.cell cnG_len (j:=0) hx rfl
   replace c0:wt0.cell? ⟨g,k * 11,none⟩=some (.string x.mc):=c0
   replace z0:wt0.frozen? ⟨g,k * 11,none⟩=false:=z0
   obtain ⟨c1,z1⟩:=ot0.cell cnG_len (j:=1) hx rfl
   obtain ⟨c2,z2⟩:=ot0.cell cnG_len (j:=2) hx rfl
   obtain ⟨c3,z3⟩:=ot0.cell cnG_len (j:=3) hx rfl
   obtain ⟨c4,z4⟩:=ot0.cell cnG_len (j:=4) hx rfl
   obtain ⟨c5,z5⟩:=ot0.cell cnG_len (j:=5) hx rfl
   obtain ⟨c6,z6⟩:=ot0.cell cnG_len (j:=6) hx rfl
   obtain ⟨c7,z7⟩:=ot0.cell cnG_len (j:=7) hx rfl
   have s0:=ot0.set1 cnG_len (j:=0) (y:=(mkConn_0 x M)) (u:=.string (mtS M)) hx (by omega) rfl
   have hx0:(L'.set k (mkConn_0 x M))[k]?=some (mkConn_0 x M):=List.getElem?_set_self (by rw [hT.out.1];exact hlt)
   have s1:=s0.1.set1 cnG_len (j:=1) (y:=(mkConn_1 x M)) (u:=.int .i64 ((M:Int)+1)) hx0 (by omega) rfl
   rw [List.set_set] at s1
   have hx1:(L'.set k (mkConn_1 x M))[k]?=some (mkConn_1 x M):=List.getElem?_set_self (by rw [hT.out.1];exact hlt)
   have s2:=s1.1.set1 cnG_len (j:=2) (y:=(mkConn_2 x M)) (u:=.int .i64 ((M:Int)+1+1)) hx1 (by omega) rfl
   rw [List.set_set] at s2
   have hx2:(L'.set k (mkConn_2 x M))[k]?=some (mkConn_2 x M):=List.getElem?_set_self (by rw [hT.out.1];exact hlt)
   have s3:=s2.1.set1 cnG_len (j:=3) (y:=(mkConn_3 x M)) (u:=.int .i64 ((M:Int)+1+1+1)) hx2 (by omega) rfl
   rw [List.set_set] at s3
   have hx3:(L'.set k (mkConn_3 x M))[k]?=some (mkConn_3 x M):=List.getElem?_set_self (by rw [hT.out.1];exact hlt)
   have s4:=s3.1.set1 cnG_len (j:=4) (y:=(mkConn_4 x M)) (u:=.int .i64 ((M:Int)+1+1+1+1)) hx3 (by omega) rfl
   rw [List.set_set] at s4
   have hx4:(L'.set k (mkConn_4 x M))[k]?=some (mkConn_4 x M):=List.getElem?_set_self (by rw [hT.out.1];exact hlt)
   have s5:=s4.1.set1 cnG_len (j:=5) (y:=(mkConn_5 x M)) (u:=.int .i64 ((M:Int)+1+1+1+1+1)) hx4 (by omega) rfl
   rw [List.set_set] at s5
   have hx5:(L'.set k (mkConn_5 x M))[k]?=some (mkConn_5 x M):=List.getElem?_set_self (by rw [hT.out.1];exact hlt)
   have s6:=s5.1.set1 cnG_len (j:=6) (y:=(mkConn_6 x M)) (u:=.int .i64 ((M:Int)+1+1+1+1+1+1)) hx5 (by omega) rfl
   rw [List.set_set] at s6
   have hx6:(L'.set k (mkConn_6 x M))[k]?=some (mkConn_6 x M):=List.getElem?_set_self (by rw [hT.out.1];exact hlt)
   have s7:=s6.1.set1 cnG_len (j:=7) (y:=(mkConn_7 x M)) (u:=.int .i64 ((M:Int)+1+1+1+1+1+1+1)) hx6 (by omega) rfl
   rw [List.set_set] at s7
   have hx7:(L'.set k (mkConn_7 x M))[k]?=some (mkConn_7 x M):=List.getElem?_set_self (by rw [hT.out.1];exact hlt)
   have Z0:Hid (OwnS cnG 11 162 ((((((((wt0.setCell ⟨g,k * 11,none⟩ (.string (mtS M))).setCell ⟨g,k * 11+1,none⟩ (.int .i64 ((M:Int)+1))).setCell ⟨g,k * 11+2,none⟩ (.int .i64 ((M:Int)+1+1))).setCell ⟨g,k * 11+3,none⟩ (.int .i64 ((M:Int)+1+1+1))).setCell ⟨g,k * 11+4,none⟩ (.int .i64 ((M:Int)+1+1+1+1))).setCell ⟨g,k * 11+5,none⟩ (.int .i64 ((M:Int)+1+1+1+1+1))).setCell ⟨g,k * 11+6,none⟩ (.int .i64 ((M:Int)+1+1+1+1+1+1))).setCell ⟨g,k * 11+7,none⟩ (.int .i64 ((M:Int)+1+1+1+1+1+1+1))) B (.slice (some ⟨g,0,none⟩) n cap) (L'.set k (mkConn_7 x M))∧w.grownBy ((((((((wt0.setCell ⟨g,k * 11,none⟩ (.string (mtS M))).setCell ⟨g,k * 11+1,none⟩ (.int .i64 ((M:Int)+1))).setCell ⟨g,k * 11+2,none⟩ (.int .i64 ((M:Int)+1+1))).setCell ⟨g,k * 11+3,none⟩ (.int .i64 ((M:Int)+1+1+1))).setCell ⟨g,k * 11+4,none⟩ (.int .i64 ((M:Int)+1+1+1+1))).setCell ⟨g,k * 11+5,none⟩ (.int .i64 ((M:Int)+1+1+1+1+1))).setCell ⟨g,k * 11+6,none⟩ (.int .i64 ((M:Int)+1+1+1+1+1+1))).setCell ⟨g,k * 11+7,none⟩ (.int .i64 ((M:Int)+1+1+1+1+1+1+1))) (some g)):=⟨s7.1,(grown_tr (grown_tr (grown_tr (grown_tr (grown_tr (grown_tr (grown_tr (grown_tr Gt0.out s0.2) s1.2) s2.2) s3.2) s4.2) s5.2) s6.2) s7.2)⟩
   have hy0:Hid ((L'.set k (mkConn_7 x M))[k]?=some (mkConn_7 x M)):=hx7
   clear ot0 Gt0 s0 hx0 s1 hx1 s2 hx2 s3 hx3 s4 hx4 s5 hx5 s6 hx6 s7 hx7 hx
   have HM1:Hid (∀ w,Calls Tryz.prog 105 #[.int .i64 ((M:Int)+1+1+1+1+1+1+1+1)] w fun e w'=>e=.returned (.string (mtS (M+8)))∧Grw w w'):=fun w=>by
    have:=markText_any (M+8) w (by omega) (by omega)
    rw [show ((M+8:Nat):Int)=(M:Int)+1+1+1+1+1+1+1+1 by omega] at this
    exact this
   go_wp2_with fail
   refine (HM1.out _).mono ?_
   rintro e wt1 ⟨rfl,gt1⟩
   clear c0 z0 c1 z1 c2 z2 c3 z3 c4 z4 c5 z5 c6 z6 c7 z7
   have ot1:=Z0.out.1.now gt1.below
   have Gt1:Hid (w.grownBy wt1 (some g)):=grown_tr Z0.out.2 (gt1.grown _)
   clear HM1 gt1 Z0
   obtain ⟨c8,z8⟩:=ot1.cell cnG_len (j:=8) hy0.out rfl
   have s8:=ot1.set1 cnG_len (j:=8) (y:=(mkConn_8 x M)) (u:=.string (mtS (M+8))) hy0.out (by omega) rfl
   rw [List.set_set] at s8
   have hx8:(L'.set k (mkConn_8 x M))[k]?=some (mkConn_8 x M):=List.getElem?_set_self (by rw [hT.out.1];exact hlt)
   have Z1:Hid (OwnS cnG 11 162 (wt1.setCell ⟨g,k * 11+8,none⟩ (.string (mtS (M+8)))) B (.slice (some ⟨g,0,none⟩) n cap) (L'.set k (mkConn_8 x M))∧w.grownBy (wt1.setCell ⟨g,k * 11+8,none⟩ (.string (mtS (M+8)))) (some g)):=⟨s8.1,(grown_tr Gt1.out s8.2)⟩
   have hy1:Hid ((L'.set k (mkConn_8 x M))[k]?=some (mkConn_8 x M)):=hx8
   clear ot1 Gt1 s8 hx8 
   have HM2:Hid (∀ w,Calls Tryz.prog 105 #[.int .i64 ((M:Int)+1+1+1+1+1+1+1+1+1)] w fun e w'=>e=.returned (.string (mtS (M+9)))∧Grw w w'):=fun w=>by
    have:=markText_any (M+9) w (by omega) (by omega)
    rw [show ((M+9:Nat):Int)=(M:Int)+1+1+1+1+1+1+1+1+1 by omega] at this
    exact this
   go_wp2_with fail
   refine (HM2.out _).mono ?_
   rintro e wt2 ⟨rfl,gt2⟩
   clear c8 z8
   have ot2:=Z1.out.1.now gt2.below
   have Gt2:Hid (w.grownBy wt2 (some g)):=grown_tr Z1.out.2 (gt2.grown _)
   clear HM2 gt2 Z1
   obtain ⟨c9,z9⟩:=ot2.cell cnG_len (j:=9) hy1.out rfl
   obtain ⟨c10,z10⟩:=ot2.cell cnG_len (j:=10) hy1.out rfl
   have s9:=ot2.set1 cnG_len (j:=9) (y:=(mkConn_9 x M)) (u:=.string (mtS (M+9))) hy1.out (by omega) rfl
   rw [List.set_set] at s9
   have hx9:(L'.set k (mkConn_9 x M))[k]?=some (mkConn_9 x M):=List.getElem?_set_self (by rw [hT.out.1];exact hlt)
   have s10:=s9.1.set1 cnG_len (j:=10) (y:=(mkConn_10 x M)) (u:=.bool (((M:Int)+1+1+1+1+1+1+1+1+1+1) % 3 == 0)) hx9 (by omega) rfl
   rw [List.set_set] at s10
   have hx10:(L'.set k (mkConn_10 x M))[k]?=some (mkConn_10 x M):=List.getElem?_set_self (by rw [hT.out.1];exact hlt)
   have Z2:Hid (OwnS cnG 11 162 ((wt2.setCell ⟨g,k * 11+9,none⟩ (.string (mtS (M+9)))).setCell ⟨g,k * 11+10,none⟩ (.bool (((M:Int)+1+1+1+1+1+1+1+1+1+1) % 3 == 0))) B (.slice (some ⟨g,0,none⟩) n cap) (L'.set k (mkConn_10 x M))∧w.grownBy ((wt2.setCell ⟨g,k * 11+9,none⟩ (.string (mtS (M+9)))).setCell ⟨g,k * 11+10,none⟩ (.bool (((M:Int)+1+1+1+1+1+1+1+1+1+1) % 3 == 0))) (some g)):=⟨s10.1,(grown_tr (grown_tr Gt2.out s9.2) s10.2)⟩
   have hy2:Hid ((L'.set k (mkConn_10 x M))[k]?=some (mkConn_10 x M)):=hx10
   clear ot2 Gt2 s9 hx9 s10 hx10 
   have eConn:(mkConn_10 x M)=mkConn M:=rfl
   rw [eConn] at Z2
   have YY:Hid (OwnS cnG 11 162 ((wt2.setCell ⟨g,k * 11+9,none⟩ (.string (mtS (M+9)))).setCell ⟨g,k * 11+10,none⟩ (.bool (((M:Int)+1+1+1+1+1+1+1+1+1+1) % 3 == 0))) B (.slice (some ⟨g,0,none⟩) n cap) (L'.set k (mkConn M))∧(L'.set k (mkConn M)).length=n∧(L'.set k (mkConn M)).take (k+1)=(mkConnL m0 n).take (k+1)∧w.grownBy ((wt2.setCell ⟨g,k * 11+9,none⟩ (.string (mtS (M+9)))).setCell ⟨g,k * 11+10,none⟩ (.bool (((M:Int)+1+1+1+1+1+1+1+1+1+1) % 3 == 0))) (some g)):=⟨Z2.out.1,by rw [List.length_set];exact hT.out.1,takeS_set (by rw [hT.out.1,mkConnL_len]) (by rw [mkConnL_at m0 n k hlt,hM.out]) hT.out.2,Z2.out.2⟩
   clear Z2 hT hy0 hy1 hy2
   go_wp2
   go_roundw
   case rel=>exact ⟨k+1,M+11,_,by omega,by go_num,by go_num,(show M+11=m0+11 * (k+1) by have:=hM.out;omega),YY⟩
   case measure=>simp [intOf];omega
  ·obtain rfl:k=n:=by omega
   have e1:L'=mkConnL m0 k:=by
    have:=X.out.2.2.1
    rwa [List.take_of_length_le (by rw [X.out.2.1];exact Nat.le_refl _),List.take_of_length_le (by rw [mkConnL_len];exact Nat.le_refl _)] at this
   subst e1
   have hM2:=hM.out
   subst hM2
   go_wp2
   go_ret
   exact ⟨rfl,X.out.1,X.out.2.2.2⟩
set_option maxHeartbeats 4000000 in
theorem heldConnS_any (a:Option Addr) (n cap m0:Nat) (w:World) (h:Rw CnR 11 w a (mkConnL m0 n)) (h0:0<m0) (hm:m0+11 * n≤100000000000) :
  Calls Tryz.prog 59 #[.slice a n cap,.int .i64 (m0:Int)] w fun e w'=>e=.returned (.int .i64 ((m0+11 * n:Nat):Int))∧Grw w w':=by
 have H:Hid (Rw CnR 11 w a (mkConnL m0 n)):=h
 have hlen:n≤100000000000:=by omega
 clear h
 have hmix:Tryz.prog.follows .mixedOrders=true:=by kernel_rfl
 go_enter Tryz.func59,Tryz.ntmps59
 go_wp2
 go_loopw [1,5] (fun m i wr=>∃ k M:Nat,k≤n∧i=.int .i64 k∧m=.int .i64 (M:Int)∧Hid (M=m0+11 * k)∧Hid (Grw w wr)) (fun _ i _=>n - (intOf i).toNat)
 case atStart=>exact ⟨0,m0,Nat.zero_le _,rfl,rfl,by show m0=_;omega,Grw.refl w⟩
 case round =>
  obtain ⟨k,M,hk,rfl,rfl,hM,HG⟩:=hrel
  by_cases hlt:k<n
  ·obtain ⟨b,off,vs,rfl,hb,hvl,hR,hc⟩:=H.out.at CnR.kp HG.out.below (mkConnL_at m0 n k hlt)
   rw [← hM.out] at hR
   obtain ⟨rfl,-⟩:=hR
   have hltz:(k:Int)<(n:Int):=by omega
   have hMz:(M:Int)≤200000000000:=by have:=hM.out;omega
   have hM0:0<M:=by have:=hM.out;omega
   have q0:wr.cell? ⟨b,off+k * 11,none⟩=some (.string (mtS M)):=hc 0 _ rfl
   have q1:wr.cell? ⟨b,off+k * 11+1,none⟩=some (.int .i64 ((M:Int)+1)):=hc 1 _ rfl
   have q2:wr.cell? ⟨b,off+k * 11+2,none⟩=some (.int .i64 ((M:Int)+1+1)):=hc 2 _ rfl
   have q3:wr.cell? ⟨b,off+k * 11+3,none⟩=some (.int .i64 ((M:Int)+1+1+1)):=hc 3 _ rfl
   have q4:wr.cell? ⟨b,off+k * 11+4,none⟩=some (.int .i64 ((M:Int)+1+1+1+1)):=hc 4 _ rfl
   have q5:wr.cell? ⟨b,off+k * 11+5,none⟩=some (.int .i64 ((M:Int)+1+1+1+1+1)):=hc 5 _ rfl
   have q6:wr.cell? ⟨b,off+k * 11+6,none⟩=some (.int .i64 ((M:Int)+1+1+1+1+1+1)):=hc 6 _ rfl
   have q7:wr.cell? ⟨b,off+k * 11+7,none⟩=some (.int .i64 ((M:Int)+1+1+1+1+1+1+1)):=hc 7 _ rfl
   have q8:wr.cell? ⟨b,off+k * 11+8,none⟩=some (.string (mtS (M+8))):=hc 8 _ rfl
   have q9:wr.cell? ⟨b,off+k * 11+9,none⟩=some (.string (mtS (M+9))):=hc 9 _ rfl
   have q10:wr.cell? ⟨b,off+k * 11+10,none⟩=some (.bool (((M:Int)+1+1+1+1+1+1+1+1+1+1) % 3 == 0)):=hc 10 _ rfl
   clear hc hvl
   have e1:(((M:Int)+1) != ((M:Int)+1))=false:=by simp
   have e2:(((M:Int)+1+1) != ((M:Int)+1+1))=false:=by simp
   have e3:(((M:Int)+1+1+1) != ((M:Int)+1+1+1))=false:=by simp
   have e4:(((M:Int)+1+1+1+1) != ((M:Int)+1+1+1+1))=false:=by simp
   have e5:(((M:Int)+1+1+1+1+1) != ((M:Int)+1+1+1+1+1))=false:=by simp
   have e6:(((M:Int)+1+1+1+1+1+1) != ((M:Int)+1+1+1+1+1+1))=false:=by simp
   have e7:(((M:Int)+1+1+1+1+1+1+1) != ((M:Int)+1+1+1+1+1+1+1))=false:=by simp
   have e10:((((M:Int)+1+1+1+1+1+1+1+1+1+1) % 3 == 0) != (((M:Int)+1+1+1+1+1+1+1+1+1+1) % 3 == 0))=false:=by simp
   have HM0:Hid (∀ w,Calls Tryz.prog 105 #[.int .i64 ((M:Int))] w fun e w'=>e=.returned (.string (mtS (M)))∧Grw w w'):=fun w=>by
    have:=markText_any (M) w (by omega) (by omega)
    exact this
   generalize mtS (M)=T0 at *
   have t0:(T0.toList == T0.toList)=true:=by simp
   have HM8:Hid (∀ w,Calls Tryz.prog 105 #[.int .i64 ((M:Int)+1+1+1+1+1+1+1+1)] w fun e w'=>e=.returned (.string (mtS (M+8)))∧Grw w w'):=fun w=>by
    have:=markText_any (M+8) w (by omega) (by omega)
    rw [show ((M+8:Nat):Int)=(M:Int)+1+1+1+1+1+1+1+1 by omega] at this
    exact this
   generalize mtS (M+8)=T8 at *
   have t8:(T8.toList == T8.toList)=true:=by simp
   have HM9:Hid (∀ w,Calls Tryz.prog 105 #[.int .i64 ((M:Int)+1+1+1+1+1+1+1+1+1)] w fun e w'=>e=.returned (.string (mtS (M+9)))∧Grw w w'):=fun w=>by
    have:=markText_any (M+9) w (by omega) (by omega)
    rw [show ((M+9:Nat):Int)=(M:Int)+1+1+1+1+1+1+1+1+1 by omega] at this
    exact this
   generalize mtS (M+9)=T9 at *
   have t9:(T9.toList == T9.toList)=true:=by simp
   have y0:∀ n os,(grow (wr.drewN n) os).cell? ⟨b,off+k * 11,none⟩=some (.string T0):=fun n os=>bkeep (Grw.below ⟨n,os,rfl⟩) q0
   go_wp2_with fail
   refine wp_region_quiet_grown (by assumption) (by kernel_rfl) ?_
   repeat (go_big_quiet_step (first | fail | (go_at_call 105;exact Calls.grown_of (HM0.out _))))
   refine wpQuiet_nil ?_
   intro _ hw'
   obtain ⟨⟨nq,osq⟩,hw''⟩:=hw'
   subst hw''
   have HG0:Hid (Grw w (grow (wr.drewN nq) osq)):=HG.out.trans ⟨nq,osq,rfl⟩
   replace q1:(grow (wr.drewN nq) osq).cell? ⟨b,off+k * 11+1,none⟩=some (.int .i64 ((M:Int)+1)):=bkeep (Grw.below ⟨nq,osq,rfl⟩) q1
   replace q2:(grow (wr.drewN nq) osq).cell? ⟨b,off+k * 11+2,none⟩=some (.int .i64 ((M:Int)+1+1)):=bkeep (Grw.below ⟨nq,osq,rfl⟩) q2
   replace q3:(grow (wr.drewN nq) osq).cell? ⟨b,off+k * 11+3,none⟩=some (.int .i64 ((M:Int)+1+1+1)):=bkeep (Grw.below ⟨nq,osq,rfl⟩) q3
   replace q4:(grow (wr.drewN nq) osq).cell? ⟨b,off+k * 11+4,none⟩=some (.int .i64 ((M:Int)+1+1+1+1)):=bkeep (Grw.below ⟨nq,osq,rfl⟩) q4
   replace q5:(grow (wr.drewN nq) osq).cell? ⟨b,off+k * 11+5,none⟩=some (.int .i64 ((M:Int)+1+1+1+1+1)):=bkeep (Grw.below ⟨nq,osq,rfl⟩) q5
   replace q6:(grow (wr.drewN nq) osq).cell? ⟨b,off+k * 11+6,none⟩=some (.int .i64 ((M:Int)+1+1+1+1+1+1)):=bkeep (Grw.below ⟨nq,osq,rfl⟩) q6
   replace q7:(grow (wr.drewN nq) osq).cell? ⟨b,off+k * 11+7,none⟩=some (.int .i64 ((M:Int)+1+1+1+1+1+1+1)):=bkeep (Grw.below ⟨nq,osq,rfl⟩) q7
   replace q8:(grow (wr.drewN nq) osq).cell? ⟨b,off+k * 11+8,none⟩=some (.string T8):=bkeep (Grw.below ⟨nq,osq,rfl⟩) q8
   replace q9:(grow (wr.drewN nq) osq).cell? ⟨b,off+k * 11+9,none⟩=some (.string T9):=bkeep (Grw.below ⟨nq,osq,rfl⟩) q9
   replace q10:(grow (wr.drewN nq) osq).cell? ⟨b,off+k * 11+10,none⟩=some (.bool (((M:Int)+1+1+1+1+1+1+1+1+1+1) % 3 == 0)):=bkeep (Grw.below ⟨nq,osq,rfl⟩) q10
   clear y0 q0 HM0
   generalize (grow (wr.drewN nq) osq)=wv0 at *
   have y8:∀ n os,(grow (wv0.drewN n) os).cell? ⟨b,off+k * 11+8,none⟩=some (.string T8):=fun n os=>bkeep (Grw.below ⟨n,os,rfl⟩) q8
   go_wp2_with fail
   refine wp_region_quiet_grown (by assumption) (by kernel_rfl) ?_
   repeat (go_big_quiet_step (first | fail | (go_at_call 105;exact Calls.grown_of (HM8.out _))))
   refine wpQuiet_nil ?_
   intro _ hw'
   obtain ⟨⟨nq,osq⟩,hw''⟩:=hw'
   subst hw''
   have HG8:Hid (Grw w (grow (wv0.drewN nq) osq)):=HG0.out.trans ⟨nq,osq,rfl⟩
   replace q9:(grow (wv0.drewN nq) osq).cell? ⟨b,off+k * 11+9,none⟩=some (.string T9):=bkeep (Grw.below ⟨nq,osq,rfl⟩) q9
   replace q10:(grow (wv0.drewN nq) osq).cell? ⟨b,off+k * 11+10,none⟩=some (.bool (((M:Int)+1+1+1+1+1+1+1+1+1+1) % 3 == 0)):=bkeep (Grw.below ⟨nq,osq,rfl⟩) q10
   clear y8 q1 q2 q3 q4 q5 q6 q7 q8 HM8
   generalize (grow (wv0.drewN nq) osq)=wv8 at *
   have y9:∀ n os,(grow (wv8.drewN n) os).cell? ⟨b,off+k * 11+9,none⟩=some (.string T9):=fun n os=>bkeep (Grw.below ⟨n,os,rfl⟩) q9
   go_wp2_with fail
   refine wp_region_quiet_grown (by assumption) (by kernel_rfl) ?_
   repeat (go_big_quiet_step (first | fail | (go_at_call 105;exact Calls.grown_of (HM9.out _))))
   refine wpQuiet_nil ?_
   intro _ hw'
   obtain ⟨⟨nq,osq⟩,hw''⟩:=hw'
   subst hw''
   have HG9:Hid (Grw w (grow (wv8.drewN nq) osq)):=HG8.out.trans ⟨nq,osq,rfl⟩
   replace q10:(grow (wv8.drewN nq) osq).cell? ⟨b,off+k * 11+10,none⟩=some (.bool (((M:Int)+1+1+1+1+1+1+1+1+1+1) % 3 == 0)):=bkeep (Grw.below ⟨nq,osq,rfl⟩) q10
   clear y9 q9 HM9
   generalize (grow (wv8.drewN nq) osq)=wv9 at *
   go_wp2
   go_roundw
   case rel=>exact ⟨k+1,M+11,by omega,by go_num,by go_num,(show M+11=m0+11 * (k+1) by have:=hM.out;omega),HG9⟩
   case measure=>simp [intOf];omega
  ·obtain rfl:k=n:=by omega
   have hM2:=hM.out
   subst hM2
   go_wp2
   go_ret
   exact ⟨rfl,HG.out⟩
theorem own_loc {e:TypeId} {K n B:Nat} {w w':World} {v:Value} {F:List Value} (h:w.ownsRow B e K v n F) (hq:∀ k,v.ownBlock=some k→w'.heap[k]?=w.heap[k]?):w'.ownsRow B e K v n F:=by
 refine ⟨h.1,?_⟩
 rcases h.2 with h' | ⟨g,cap,cur,h1,hB,hg,h4⟩
 ·exact .inl h'
 ·exact .inr ⟨g,cap,cur,h1,hB,by rw [hq g (by rw [h1];rfl)];exact hg,h4⟩
theorem own_keep {α:Type} {c:α→List Value} {K:Nat} {e:TypeId} {w w':World} {B:Nat} {v:Value} {xs:List α} {P:Nat→Prop} (h:OwnS c K e w B v xs) (hk:Rel.Keep P w w') (hP:∀ k,v.ownBlock=some k→P k):OwnS c K e w' B v xs :=
 own_loc h (fun k e=>hk.block k (hP k e))
structure OwnGt (w:World) (B:Nat) (A:GtA) (g:GtV) (L:List RoX):Prop where
 ro:L.map (fun x=>x.r)=g.ros
 ps:OwnS pv 4 135 w B (.slice A.x g.ps.length A.xc) g.ps
 rs:OwnRo w B (.slice A.y g.ros.length A.yc) L
 gu:Own4 w B (.slice A.ua g.us.length A.uc) (.slice A.sa g.ss.length A.sc) (.slice A.fa g.fs.length A.fc) (.slice A.ra g.es.length A.rc) g.us g.ss g.fs g.es
 fl:OwnS wvG 9 159 w B (.slice A.la g.fl.length A.lc) g.fl
 co:OwnS cnG 11 162 w B (.slice A.ca g.co.length A.cc) g.co
theorem OwnGt.now {w w':World} {B:Nat} {A:GtA} {g:GtV} {L:List RoX} (h:OwnGt w B A g L) (hb:Below w.heap.size w w'):OwnGt w' B A g L:=⟨h.ro,h.ps.now hb,h.rs.now hb,h.gu.now hb,h.fl.now hb,h.co.now hb⟩
theorem OwnGt.lower {w:World} {B B':Nat} {A:GtA} {g:GtV} {L:List RoX} (h:OwnGt w B A g L) (hb:B'≤B):OwnGt w B' A g L:=⟨h.ro,h.ps.lower hb,h.rs.lower hb,h.gu.lower hb,h.fl.lower hb,h.co.lower hb⟩
def gtN1 (m0:Nat) (g:GtV) (L:List RoX):Nat:=m0+4 * g.ps.length+roN L
def gtN2 (m0:Nat) (g:GtV) (L:List RoX):Nat:=gtN1 m0 g L+6 * g.us.length+10 * g.ss.length+3 * g.fs.length+5 * g.es.length
def gtN3 (m0:Nat) (g:GtV) (L:List RoX):Nat:=gtN2 m0 g L+9 * g.fl.length
def gtN4 (m0:Nat) (g:GtV) (L:List RoX):Nat:=gtN3 m0 g L+11 * g.co.length
structure MkdGt (w:World) (B:Nat) (A:GtA) (g:GtV) (L:List RoX) (m0:Nat):Prop where
 ps:OwnS pv 4 135 w B (.slice A.x g.ps.length A.xc) (mkPlaceL m0 g.ps.length)
 rs:OwnRo w B (.slice A.y g.ros.length A.yc) (mkRoL (m0+4 * g.ps.length) L)
 gu:Own4 w B (.slice A.ua g.us.length A.uc) (.slice A.sa g.ss.length A.sc) (.slice A.fa g.fs.length A.fc) (.slice A.ra g.es.length A.rc) (mkUserL (gtN1 m0 g L) g.us.length) (mkSessionL (gtN1 m0 g L+6 * g.us.length) g.ss.length) (mkFailL (gtN1 m0 g L+6 * g.us.length+10 * g.ss.length) g.fs.length) (mkRecordL (gtN1 m0 g L+6 * g.us.length+10 * g.ss.length+3 * g.fs.length) g.es.length)
 fl:OwnS wvG 9 159 w B (.slice A.la g.fl.length A.lc) (mkFlowL (gtN2 m0 g L) g.fl.length)
 co:OwnS cnG 11 162 w B (.slice A.ca g.co.length A.cc) (mkConnL (gtN3 m0 g L) g.co.length)
theorem MkdGt.now {w w':World} {B:Nat} {A:GtA} {g:GtV} {L:List RoX} {m0:Nat} (h:MkdGt w B A g L m0) (hb:Below w.heap.size w w'):MkdGt w' B A g L m0:=⟨h.ps.now hb,h.rs.now hb,h.gu.now hb,h.fl.now hb,h.co.now hb⟩
def guBk (A:GtA) (g:GtV) (k:Nat):Prop:=Value.ownBlock (.slice A.ua g.us.length A.uc)=some k ∨ Value.ownBlock (.slice A.sa g.ss.length A.sc)=some k ∨ Value.ownBlock (.slice A.fa g.fs.length A.fc)=some k ∨ Value.ownBlock (.slice A.ra g.es.length A.rc)=some k
def gtBk (A:GtA) (g:GtV) (L:List RoX) (k:Nat):Prop:=cfBk (.slice A.x g.ps.length A.xc) (.slice A.y g.ros.length A.yc) L k ∨ guBk A g k ∨ Value.ownBlock (.slice A.la g.fl.length A.lc)=some k ∨ Value.ownBlock (.slice A.ca g.co.length A.cc)=some k
theorem cf_apart {α:Type} {c:α→List Value} {K:Nat} {e:TypeId} {w:World} {B:Nat} {v vp vr:Value} {xs:List α} {ps:List PlaceV} {L:List RoX} (o:OwnS c K e w B v xs) (op:OwnS pv 4 135 w B vp ps) (or_:OwnRo w B vr L) (h1:e ≠ 135) (h2:e ≠ 142) (h3:e ≠ 156):∀ k,v.ownBlock=some k→¬ cfBk vp vr L k:=by
 rintro k hk (hb | hb | ⟨z,hz,hb⟩)
 ·exact apB_of o op h1 k hk hb
 ·exact apB_of o or_.row h2 k hk hb
 ·exact apB_of o (or_.rules z hz) h3 k hk hb
theorem gu_apart {α:Type} {c:α→List Value} {K:Nat} {e:TypeId} {w:World} {B:Nat} {v:Value} {xs:List α} {A:GtA} {g:GtV} {us:List UserV} {ss:List SessV} {fs:List FailV} {es:List RecV} (o:OwnS c K e w B v xs) (h:Own4 w B (.slice A.ua g.us.length A.uc) (.slice A.sa g.ss.length A.sc) (.slice A.fa g.fs.length A.fc) (.slice A.ra g.es.length A.rc) us ss fs es) (h1:e ≠ 144) (h2:e ≠ 124) (h3:e ≠ 127) (h4:e ≠ 129):∀ k,v.ownBlock=some k→¬ guBk A g k:=by
 rintro k hk (hb | hb | hb | hb)
 ·exact apB_of o h.u h1 k hk hb
 ·exact apB_of o h.s h2 k hk hb
 ·exact apB_of o h.f h3 k hk hb
 ·exact apB_of o h.r h4 k hk hb
theorem own4_keep {w w':World} {B:Nat} {vu vs vf vr:Value} {us:List UserV} {ss:List SessV} {fs:List FailV} {rs:List RecV} {P:Nat→Prop} (h:Own4 w B vu vs vf vr us ss fs rs) (hk:Rel.Keep P w w') (h1:∀ k,vu.ownBlock=some k→P k) (h2:∀ k,vs.ownBlock=some k→P k) (h3:∀ k,vf.ownBlock=some k→P k) (h4:∀ k,vr.ownBlock=some k→P k):Own4 w' B vu vs vf vr us ss fs rs :=
 ⟨own_keep h.u hk h1,own_keep h.s hk h2,own_keep h.f hk h3,own_keep h.r hk h4,h.us_,h.uf,h.ur,h.sf,h.sr,h.fr⟩
theorem bx_keep {w w':World} {q:Nat} {cs:List Value} {P:Nat→Prop} (h:Bx w q cs) (hk:Rel.Keep P w w') (hq:P q):Bx w' q cs:=by
 refine Bx.of (fun j v hj=>?_) (fun j hj=>?_)
 ·have:=h.cell j hj
  unfold World.cell? at this ⊢
  rw [show w'.heap[(⟨q,j,none⟩:Addr).block]?=w.heap[(⟨q,j,none⟩:Addr).block]? from hk.block q hq]
  exact this
 ·have:=h.thaw j hj
  unfold World.frozen? at this ⊢
  rw [show w'.heap[(⟨q,j,none⟩:Addr).block]?=w.heap[(⟨q,j,none⟩:Addr).block]? from hk.block q hq]
  exact this
theorem mkRoL_sl:∀ (L:List RoX) (M:Nat),(mkRoL M L).map RoX.sl=L.map RoX.sl
 | [],_=>rfl
 | x :: L,M=>by simp only [mkRoL,List.map_cons,mkRoL_sl L,mkRo_sl]
theorem roBk_sl {v:Value} {L L':List RoX} (h:L.map RoX.sl=L'.map RoX.sl) {k:Nat} (hk:roBk v L k):roBk v L' k:=by
 rcases hk with hk | ⟨x,hx,hk⟩
 ·exact .inl hk
 ·have hm:x.sl ∈ L'.map RoX.sl:=by rw [← h];exact List.mem_map_of_mem hx
  obtain ⟨y,hy,e⟩:=List.mem_map.1 hm
  exact .inr ⟨y,hy,by rw [e];exact hk⟩
theorem roBk_mk (v:Value) (L:List RoX) (M k:Nat):roBk v (mkRoL M L) k ↔ roBk v L k:=⟨roBk_sl (mkRoL_sl L M),roBk_sl (mkRoL_sl L M).symm⟩
end Go.Proofs.YtbeehlhcckndcaaGreat
namespace Go.Proofs.YtbeehlhcckndcaaGreat.Bt
open Go.RowKit
set_option linter.unusedVariables false
theorem behind_nat:∀ b,b<33→4294967295 / 2 ^ b=2 ^ (32 - b) - 1:=by decide
theorem behind (b:Nat) (h:b≤32):(4294967295:Int) / 2 ^ b=((2 ^ (32 - b) - 1:Nat):Int):=by
 rw [← behind_nat b (by omega)]
 simp
theorem keep_hi (a k:Nat) (ha:a<4294967296) (hk:k≤32):bits .andNot .i64 (a:Int) ((2 ^ k - 1:Nat):Int)=((a / 2 ^ k * 2 ^ k:Nat):Int):=by
 have hp:2 ^ k≤2 ^ 32:=Nat.pow_le_pow_right (by omega) hk
 have hp0:0<2 ^ k:=Nat.two_pow_pos k
 have hle:a / 2 ^ k * 2 ^ k≤a:=Nat.div_mul_le_self _ _
 have e:a &&& (2 ^ 64 - (2 ^ k - 1+1))=a / 2 ^ k * 2 ^ k:=by
  apply Nat.eq_of_testBit_eq
  intro i
  rw [← Nat.shiftRight_eq_div_pow,← Nat.shiftLeft_eq,Nat.testBit_and,Nat.testBit_two_pow_sub_succ (by omega),Nat.testBit_shiftLeft,Nat.testBit_shiftRight,Nat.testBit_two_pow_sub_one]
  by_cases h1:i<k
  ·simp [h1];omega
  ·have h2:k+(i - k)=i:=by omega
   rw [h2]
   by_cases h3:i<64
   ·simp [h1,h3];omega
   ·have:a.testBit i=false:=Nat.testBit_lt_two_pow (Nat.lt_of_lt_of_le ha (by rw [show (4294967296:Nat)=2 ^ 32 from rfl];exact Nat.pow_le_pow_right (by omega) (by omega)))
    simp [this]
 show IntKind.i64.wrap ((BitVec.ofInt 64 (a:Int) &&& ~~~BitVec.ofInt 64 ((2 ^ k - 1:Nat):Int)).toNat:Int)=_
 rw [BitVec.toNat_and,BitVec.toNat_not,ofInt_i64 a (by omega),ofInt_i64 (2 ^ k - 1) (by omega),IntKind.wrap_i64,show 2 ^ 64 - 1 - (2 ^ k - 1)=2 ^ 64 - (2 ^ k - 1+1) by omega,e]
 omega
def netM (b:Int):Int:=2 ^ (32 - b.toNat)
theorem netM_pos (b:Int):1≤netM b:=Int.pow_pos (by omega)
theorem around (ip:Int) (b:Nat) (h0:0≤ip) (h1:ip≤4294967295) (hb:b≤32):bits .andNot .i64 ip (4294967295 / 2 ^ b)=ip / netM b * netM b:=by
 obtain ⟨a,rfl⟩:=Int.eq_ofNat_of_zero_le h0
 rw [behind b hb,keep_hi a (32 - b) (by omega) (by omega)]
 unfold netM
 simp
theorem within (ip:Int) (b:Nat) (h0:0≤ip) (h1:ip≤4294967295) (hb:b≤32):bits .and .i64 ip (2 ^ (32 - b) - 1)=ip % netM b:=by
 have e:((2:Int) ^ (32 - b) - 1)=((2 ^ (32 - b) - 1:Nat):Int):=by
  have:=Nat.two_pow_pos (32 - b)
  have e:((2 ^ (32 - b):Nat):Int)=(2:Int) ^ (32 - b):=by simp
  omega
 rw [e,mask (32 - b) (by omega) ip h0 (by omega)]
 unfold netM
 simp
theorem pow_bd (b:Nat):1≤(2:Int) ^ (32 - b)∧(2:Int) ^ (32 - b)≤4294967296:=by
 have h0:=Nat.two_pow_pos (32 - b)
 have h1:(2:Nat) ^ (32 - b)≤2 ^ 32:=Nat.pow_le_pow_right (by omega) (by omega)
 have e:((2 ^ (32 - b):Nat):Int)=(2:Int) ^ (32 - b):=by simp
 omega
theorem pow_wrap (b:Nat):wrap64 (2 ^ (32 - b))=2 ^ (32 - b):=by
 have:=pow_bd b
 generalize (2:Int) ^ (32 - b)=m at *
 unfold wrap64;omega
theorem pow_wrap1 (b:Nat):wrap64 (2 ^ (32 - b) - 1)=2 ^ (32 - b) - 1:=by
 have:=pow_bd b
 generalize (2:Int) ^ (32 - b)=m at *
 unfold wrap64;omega
theorem mul_same (a m:Int) (hm:1≤m):(a=a / m * m) ↔ a % m=0:=by
 have:=Int.mul_ediv_add_emod a m
 rw [Int.mul_comm] at this
 omega
theorem mul_has (a x m:Int) (hm:1≤m) (h:a % m=0):(a=x / m * m) ↔ a / m=x / m:=by
 have h2:=Int.mul_ediv_add_emod a m
 rw [Int.mul_comm] at h2
 constructor
 ·intro e
  have h3:a / m * m=x / m * m:=by omega
  exact Int.eq_of_mul_eq_mul_right (by omega) h3
 ·intro e
  rw [← e];omega
end Go.Proofs.YtbeehlhcckndcaaGreat.Bt
namespace Go.Proofs.YtbeehlhcckndcaaGreat
open Go.RowKit Go.PlainAid Go.Proofs.YtbeehlhcckndcaaGreat.Pl
set_option linter.unusedVariables false
open Go.RowKit Go.PlainAid
set_option maxRecDepth 20000
theorem Bytes.part {w:World} {b off len:Nat} {f:Nat→Int} (h:Bytes w (some ⟨b,off,none⟩) len f) (at_ size:Nat) (hs:at_+size≤len) (a':Option Addr) (ha:0<size→a'=some ⟨b,off+at_,none⟩):Bytes w a' size (fun j=>f (at_+j)):=by
 refine ⟨fun k=>h.1 _,fun h0=>?_⟩
 obtain ⟨b',off',e,hc⟩:=h.2 (by omega)
 cases e
 exact ⟨b,off+at_,ha h0,fun i hi=>by rw [Nat.add_assoc];exact hc (at_+i) (by omega)⟩
def over (L:List Int) (at_:Nat) (M:List Int):List Int:=L.take at_ ++ (M ++ L.drop (at_+M.length))
theorem OwnL.form {e:TypeId} {w:World} {B:Nat} {v:Value} {L:List Int} (h:OwnL e w B v L) (h0:0<L.length) :
  ∃ g cap cur,v=.slice (some ⟨g,0,none⟩) L.length cap∧B≤g∧w.heap[g]?=some (.cells cur e (0,0))∧L.length≤cap∧cap≤maxLen∧cur.size=cap∧cur.toList.take L.length=L.map (Value.int .u8):=by
 rcases h.2 with ⟨h1,h2⟩ | ⟨g,cap,cur,h1,h2,h3,h4,h5,h6,h7⟩
 ·omega
 ·exact ⟨g,cap,cur,h1,h2,h3,h4,h5,by simpa using h6,by simpa using h7⟩
def Boxed (w:World) (q:Nat) (cs:List Value):Prop:=∀ i v,cs[i]?=some v→w.cell? ⟨q,i,none⟩=some v
theorem Boxed.new (w:World) (cs:List Value) (t:TypeId):Boxed (w.alloc (.cells cs.toArray t)) w.heap.size cs:=by
 intro i v h
 rw [World.cell?_alloc_new]
 simpa using h
theorem Boxed.below {w w':World} {q n:Nat} {cs:List Value} (h:Boxed w q cs) (b:Below n w w') (hq:q<n):Boxed w' q cs :=
 fun i v hi=>by rw [b.cell (p:=⟨q,i,none⟩) hq];exact h i v hi
theorem Boxed.alloc {w:World} {q:Nat} {cs:List Value} (h:Boxed w q cs) (hq:q<w.heap.size) (o:Obj):Boxed (w.alloc o) q cs :=
 h.below ((Below.refl w.heap.size w).alloc (Nat.le_refl _) o) hq
theorem Boxed.at {w:World} {q:Nat} {cs:List Value} (h:Boxed w q cs) (i:Nat) (v:Value) (hi:cs[i]?=some v):w.cell? ⟨q,i,none⟩=some v:=h i v hi
def Slots (w:World) (q:Nat) (cs:List Value):Prop:=Boxed w q cs∧∀ i,w.frozen? ⟨q,i,none⟩=false
theorem Slots.new (w:World) (cs:List Value) (t:TypeId):Slots (w.alloc (.cells cs.toArray t)) w.heap.size cs:=⟨Boxed.new w cs t,fun i=>by simp⟩
theorem Slots.below {w w':World} {q n:Nat} {cs:List Value} (h:Slots w q cs) (b:Below n w w') (hq:q<n):Slots w' q cs :=
 ⟨h.1.below b hq,fun i=>by rw [b.frozen (p:=⟨q,i,none⟩) hq];exact h.2 i⟩
theorem keep_below {B:Nat} {w wx w':World} (h:Below B w wx) (hB:B<wx.heap.size) (b:Below wx.heap.size wx w'):Below B w w':=h.trans (b.mono (by omega))
def Laid (w w':World) (B:Nat) (v':Value) (L:List Int):Prop:=OwnL 5 w' B v' L∧Below B w w'
theorem Laid.own {w w':World} {B:Nat} {v':Value} {L:List Int} (h:Laid w w' B v' L):OwnL 5 w' B v' L:=h.1
theorem Laid.below {w w':World} {B:Nat} {v':Value} {L:List Int} (h:Laid w w' B v' L):Below B w w':=h.2
open Go.RowKit Go.PlainAid Go.Proofs.YtbeehlhcckndcaaGreat.Bt Go.Sort
def nB (ip b:Int):Bool:=dec (0≤ip∧ip≤4294967295∧0≤b∧b≤32∧ip % netM b=0)
def hB (ip b x:Int):Bool:=dec (ip / netM b=x / netM b)
theorem netAround_any (ip:Int) (b:Nat) (w:World) (h0:0≤ip) (h1:ip≤4294967295) (hb:b≤32) :
  Calls Tryz.prog 162 #[.int .i64 ip,.int .i64 b] w fun e w'=>e=.returned (.agg #[.int .i64 (ip / netM b * netM b),.int .i64 b])∧Grw w w':=by
 have hm:=around ip b h0 h1 hb
 generalize ip / netM b * netM b=r at hm ⊢
 go_enter Tryz.func162,Tryz.ntmps162
 go_wp2
 (try simp only [Exit.inBlock,Exit.then])
 refine bodyPost_ret (v:=.agg #[.int .i64 r,.int .i64 b]) (by simp [results,Tryz.results162,go_sem];try rfl) rfl ?_
 exact ⟨rfl,(Grw.refl _).alloc _⟩
theorem eql_net (x0 x1 y0 y1:Int) (w:World):(binOp .eql 36 (.agg #[.int .i64 x0,.int .i64 x1]) (.agg #[.int .i64 y0,.int .i64 y1])).run Tryz.prog w=.ok (.bool (decide (x0=y0∧x1=y1))) w:=by
 have u3:=Tryz.underlying3
 have a3:=Tryz.isAgg3
 have z3:=Tryz.sizeOf3
 have hS:Tryz.prog.underlying 36=some (.struct (Tryz.prog.fieldsOf 36)):=by kernel_rfl
 have hp:Tryz.prog.stoodInHeld 36=false:=by kernel_rfl
 rw [run_eql_struct,show (10000:Nat)=9999+1 from rfl,run_equalIn_agg w 9999 36 _ _ hS hp]
 simp only [Program.fieldsOf,Tryz.underlying36]
 go_simp
 by_cases h1:x0=y0 <;> by_cases h2:x1=y1 <;> simp [h1,h2]
theorem implNetOK_any (ip b:Int) (w:World) :
  Calls Tryz.prog 160 #[.agg #[.int .i64 ip,.int .i64 b]] w fun e w'=>e=.returned (.bool (nB ip b))∧Grw w w':=by
 obtain ⟨q,hq⟩:∃ q,q=dec (0≤ip∧ip≤4294967295):=⟨_,rfl⟩
 have HA:Hid (∀ w,Calls Tryz.prog 161 #[.int .i64 ip] w fun e w'=>e=.returned (.bool q)∧w'=w):=fun w=>hq ▸ addressOK_any ip w
 by_cases ha:0≤ip∧ip≤4294967295
 ·rw [dec_y ha] at hq
  subst hq
  by_cases hb:b<0
  ·have HN:nB ip b=false:=dec_n (by omega)
   rw [HN];clear HN
   go_enter Tryz.func160,Tryz.ntmps160
   go_wp2_with fail
   refine (HA.out _).mono ?_
   rintro e w1 ⟨rfl,hw⟩
   subst hw
   go_wp2
   go_ret
   exact ⟨rfl,(Grw.refl _).alloc _⟩
  obtain ⟨b,rfl⟩:=Int.eq_ofNat_of_zero_le (by omega:0≤b)
  by_cases hb:32<b
  ·have HN:nB ip b=false:=dec_n (by omega)
   rw [HN];clear HN
   go_enter Tryz.func160,Tryz.ntmps160
   go_wp2_with fail
   refine (HA.out _).mono ?_
   rintro e w1 ⟨rfl,hw⟩
   subst hw
   go_wp2
   go_ret
   exact ⟨rfl,(Grw.refl _).alloc _⟩
  have e:nB ip b=decide (ip=ip / netM b * netM b∧(b:Int)=b):=by
   have:=mul_same ip (netM b) (netM_pos b)
   unfold nB dec
   apply decide_eq_decide.2
   constructor
   ·rintro ⟨_,_,_,_,h⟩;exact ⟨this.2 h,rfl⟩
   ·rintro ⟨h,_⟩;exact ⟨ha.1,ha.2,by omega,by omega,this.1 h⟩
  rw [e]
  clear e
  have HR:Hid (∀ w,Calls Tryz.prog 162 #[.int .i64 ip,.int .i64 b] w fun e w'=>e=.returned (.agg #[.int .i64 (ip / netM b * netM b),.int .i64 b])∧Grw w w'):=fun w=>netAround_any ip b w ha.1 ha.2 (by omega)
  generalize ip / netM b * netM b=r at HR ⊢
  have he:∀ w,(binOp .eql 36 (.agg #[.int .i64 ip,.int .i64 b]) (.agg #[.int .i64 r,.int .i64 b])).run Tryz.prog w=.ok (.bool (decide (ip=r∧(b:Int)=b))) w:=fun w=>eql_net ip b r b w
  generalize decide (ip=r∧(b:Int)=b)=q at he ⊢
  go_enter Tryz.func160,Tryz.ntmps160
  go_wp2_with fail
  refine (HA.out _).mono ?_
  rintro e w1 ⟨rfl,hw⟩
  subst hw
  go_wp2_with fail
  have hmix:Tryz.prog.follows .mixedOrders=true:=by kernel_rfl
  have k0:∀ n os,(grow ((w.alloc (.cells #[.int .i64 ip,.int .i64 b] 36)).drewN n) os).cell? ⟨w.heap.size,0,none⟩=some (.int .i64 ip):=fun n os=>cell_grown (by simp) (by simp) n os
  have k1:∀ n os,(grow ((w.alloc (.cells #[.int .i64 ip,.int .i64 b] 36)).drewN n) os).cell? ⟨w.heap.size,1,none⟩=some (.int .i64 b):=fun n os=>cell_grown (by simp) (by simp) n os
  refine wp_region_quiet_grown (by assumption) (by kernel_rfl) ?_
  repeat (go_big_quiet_step (first | fail | (go_at_call 162;exact Calls.grown_of (HR.out _))))
  refine wpQuiet_nil ?_
  intro _ hw'
  obtain ⟨⟨nq,osq⟩,hw''⟩:=hw'
  subst hw''
  go_wp2
  go_ret
  exact ⟨rfl,((Grw.refl _).alloc _).trans ⟨nq,osq,rfl⟩⟩
 ·have HN:nB ip b=false:=dec_n (by omega)
  rw [HN];clear HN
  rw [dec_n ha] at hq
  subst hq
  go_enter Tryz.func160,Tryz.ntmps160
  go_wp2_with fail
  refine (HA.out _).mono ?_
  rintro e w1 ⟨rfl,hw⟩
  subst hw
  go_wp2
  go_ret
  exact ⟨rfl,(Grw.refl _).alloc _⟩
theorem specNetOK_any (ip b:Int) (w:World) :
  Calls Tryz.prog 125 #[.agg #[.int .i64 ip,.int .i64 b]] w fun e w'=>e=.returned (.bool (nB ip b))∧Grw w w':=by
 obtain ⟨q,hq⟩:∃ q,q=dec (0≤ip∧ip≤4294967295):=⟨_,rfl⟩
 have HA:Hid (∀ w,Calls Tryz.prog 63 #[.int .i64 ip] w fun e w'=>e=.returned (.bool q)∧w'=w):=fun w=>hq ▸ specIp_any ip w
 obtain ⟨r,hr⟩:∃ r,r=dec (0≤b∧b≤32):=⟨_,rfl⟩
 have HI:Hid (∀ w,Calls Tryz.prog 74 #[.int .i64 b,.int .i64 0,.int .i64 32] w fun e w'=>e=.returned (.bool r)∧w'=w):=fun w=>hr ▸ specIn_any b 0 32 w
 by_cases ha:0≤ip∧ip≤4294967295
 ·rw [dec_y ha] at hq
  subst hq
  by_cases hb:0≤b∧b≤32
  ·rw [dec_y hb] at hr
   subst hr
   obtain ⟨b,rfl⟩:=Int.eq_ofNat_of_zero_le hb.1
   have e:nB ip b=(ip % netM b == 0):=by
    unfold nB dec
    rw [Bool.eq_iff_iff,decide_eq_true_eq,beq_iff_eq]
    exact ⟨fun h=>h.2.2.2.2,fun h=>⟨ha.1,ha.2,by omega,by omega,h⟩⟩
   rw [e]
   have hm:=within ip b ha.1 ha.2 (by omega)
   generalize ip % netM b=m at hm ⊢
   have c0:IntKind.i64.wrap (32 - (b:Int))=((32 - b:Nat):Int):=by rw [IntKind.wrap_i64];omega
   have c1:IntKind.u64.wrap ((32 - b:Nat):Int)=((32 - b:Nat):Int):=by rw [IntKind.wrap_u64];omega
   have c2:wrap64 (2 ^ (32 - b))=2 ^ (32 - b):=pow_wrap b
   have c3:wrap64 (2 ^ (32 - b) - 1)=2 ^ (32 - b) - 1:=pow_wrap1 b
   clear e
   go_enter Tryz.func125,Tryz.ntmps125
   go_wp2_with fail
   refine (HA.out _).mono ?_
   rintro e w1 ⟨rfl,hw⟩
   subst hw
   go_wp2_with fail
   refine (HI.out _).mono ?_
   rintro e w1 ⟨rfl,hw⟩
   subst hw
   go_wp2
   go_ret
   exact ⟨rfl,(Grw.refl _).alloc _⟩
  ·have HN:nB ip b=false:=dec_n (by omega)
   rw [HN];clear HN
   rw [dec_n hb] at hr
   subst hr
   go_enter Tryz.func125,Tryz.ntmps125
   go_wp2_with fail
   refine (HA.out _).mono ?_
   rintro e w1 ⟨rfl,hw⟩
   subst hw
   go_wp2_with fail
   refine (HI.out _).mono ?_
   rintro e w1 ⟨rfl,hw⟩
   subst hw
   go_wp2
   go_ret
   exact ⟨rfl,(Grw.refl _).alloc _⟩
 ·have HN:nB ip b=false:=dec_n (by omega)
  rw [HN];clear HN
  rw [dec_n ha] at hq
  subst hq
  go_enter Tryz.func125,Tryz.ntmps125
  go_wp2_with fail
  refine (HA.out _).mono ?_
  rintro e w1 ⟨rfl,hw⟩
  subst hw
  go_wp2
  go_ret
  exact ⟨rfl,(Grw.refl _).alloc _⟩
theorem nB_yes {ip b:Int} (h:nB ip b=true):0≤ip∧ip≤4294967295∧0≤b∧b≤32∧ip % netM b=0:=by
 unfold nB dec at h
 exact of_decide_eq_true h
theorem l05Has_any (ip b x:Int) (w:World) (hb0:0≤b) (hb1:b≤32) :
  Calls Tryz.prog 76 #[.agg #[.int .i64 ip,.int .i64 b],.int .i64 x] w fun e w'=>e=.returned (.bool (hB ip b x))∧Grw w w':=by
 obtain ⟨b,rfl⟩:=Int.eq_ofNat_of_zero_le hb0
 have e:hB ip b x=(ip / 2 ^ (32 - b) == x / 2 ^ (32 - b)):=by
  unfold hB dec netM
  rw [Bool.eq_iff_iff,decide_eq_true_eq,beq_iff_eq]
  exact Iff.rfl
 rw [e]
 clear e
 have c0:IntKind.i64.wrap (32 - (b:Int))=((32 - b:Nat):Int):=by rw [IntKind.wrap_i64];omega
 have c1:IntKind.u64.wrap ((32 - b:Nat):Int)=((32 - b:Nat):Int):=by rw [IntKind.wrap_u64];omega
 go_enter Tryz.func76,Tryz.ntmps76
 go_wp2
 go_ret
 exact ⟨rfl,(Grw.refl _).alloc _⟩
def nhB (ip b x:Int):Bool:=nB ip b && dec (0≤x∧x≤4294967295) && hB ip b x
def nhC (ip b x:Int):Int:=if nB ip b=false then 1 else if dec (0≤x∧x≤4294967295)=false then 4 else 0
theorem has_around (ip x:Int) (b:Nat) (h:nB ip b=true):hB ip b x=decide (ip=x / netM b * netM b∧(b:Int)=b):=by
 have:=mul_has ip x (netM b) (netM_pos b) (nB_yes h).2.2.2.2
 unfold hB dec
 apply decide_eq_decide.2
 rw [this]
 simp
theorem implNetHas_any (ip b x:Int) (w:World) :
  Calls Tryz.prog 132 #[.agg #[.int .i64 ip,.int .i64 b],.int .i64 x] w fun e w'=>e=.returned (.tuple #[.bool (nhB ip b x),.int .i64 (nhC ip b x)])∧Grw w w':=by
 obtain ⟨q,hq⟩:∃ q,q=nB ip b:=⟨_,rfl⟩
 have HO:Hid (∀ w,Calls Tryz.prog 160 #[.agg #[.int .i64 ip,.int .i64 b]] w fun e w'=>e=.returned (.bool q)∧Grw w w'):=fun w=>hq ▸ implNetOK_any ip b w
 obtain ⟨r,hr⟩:∃ r,r=dec (0≤x∧x≤4294967295):=⟨_,rfl⟩
 have HA:Hid (∀ w,Calls Tryz.prog 161 #[.int .i64 x] w fun e w'=>e=.returned (.bool r)∧w'=w):=fun w=>hr ▸ addressOK_any x w
 cases q with
 | false =>
  have e1:nhB ip b x=false:=by unfold nhB;rw [← hq];rfl
  have e2:nhC ip b x=1:=by unfold nhC;rw [← hq];rfl
  rw [e1,e2]
  clear e1 e2 hq hr
  go_enter Tryz.func132,Tryz.ntmps132
  go_wp2_with fail
  refine (HO.out _).mono ?_
  rintro e w1 ⟨rfl,b1⟩
  have B1:Hid (Grw w w1):=((Grw.refl _).alloc _).trans b1
  clear b1
  go_wp2
  go_ret2
  exact ⟨rfl,B1.out⟩
 | true =>
  have hn:=nB_yes hq.symm
  cases r with
  | false =>
   have e1:nhB ip b x=false:=by unfold nhB;rw [← hq,← hr];rfl
   have e2:nhC ip b x=4:=by unfold nhC;rw [← hq,← hr];rfl
   rw [e1,e2]
   clear e1 e2 hq hr hn
   go_enter Tryz.func132,Tryz.ntmps132
   go_wp2_with fail
   refine (HO.out _).mono ?_
   rintro e w1 ⟨rfl,b1⟩
   have B1:Hid (Grw w w1):=((Grw.refl _).alloc _).trans b1
   clear b1
   go_wp2_with fail
   refine (HA.out _).mono ?_
   rintro e w2 ⟨rfl,hw⟩
   subst hw
   go_wp2
   go_ret2
   exact ⟨rfl,B1.out⟩
  | true =>
   obtain ⟨b,rfl⟩:=Int.eq_ofNat_of_zero_le hn.2.2.1
   have hx:0≤x∧x≤4294967295:=of_decide_eq_true hr.symm
   have e1:nhB ip b x=decide (ip=x / netM b * netM b∧(b:Int)=b):=by unfold nhB;rw [← hq,← hr,← has_around ip x b hq.symm];rfl
   have e2:nhC ip b x=0:=by unfold nhC;rw [← hq,← hr];rfl
   rw [e1,e2]
   have HR:Hid (∀ w,Calls Tryz.prog 162 #[.int .i64 x,.int .i64 b] w fun e w'=>e=.returned (.agg #[.int .i64 (x / netM b * netM b),.int .i64 b])∧Grw w w'):=fun w=>netAround_any x b w hx.1 hx.2 (by omega)
   clear e1 e2 hq hr hn
   generalize x / netM b * netM b=r at HR ⊢
   have he:∀ w,(binOp .eql 36 (.agg #[.int .i64 ip,.int .i64 b]) (.agg #[.int .i64 r,.int .i64 b])).run Tryz.prog w=.ok (.bool (decide (ip=r∧(b:Int)=b))) w:=fun w=>eql_net ip b r b w
   generalize decide (ip=r∧(b:Int)=b)=q at he ⊢
   have hmix:Tryz.prog.follows .mixedOrders=true:=by kernel_rfl
   go_enter Tryz.func132,Tryz.ntmps132
   go_wp2_with fail
   refine (HO.out _).mono ?_
   rintro e w1 ⟨rfl,b1⟩
   have B1:Hid (Grw w w1):=((Grw.refl _).alloc _).trans b1
   have q0:w1.cell? ⟨w.heap.size,0,none⟩=some (.int .i64 ip):=by rw [b1.below.cell (by simp)];simp
   have q1:w1.cell? ⟨w.heap.size,1,none⟩=some (.int .i64 b):=by rw [b1.below.cell (by simp)];simp
   clear b1
   go_wp2_with fail
   refine (HA.out _).mono ?_
   rintro e w2 ⟨rfl,hw⟩
   subst hw
   have hl:w.heap.size<w2.heap.size:=World.block_lt_of_cell? w2 _ q0
   have k0:∀ n os,(grow (w2.drewN n) os).cell? ⟨w.heap.size,0,none⟩=some (.int .i64 ip):=fun n os=>cell_grown (by exact hl) q0 n os
   have k1:∀ n os,(grow (w2.drewN n) os).cell? ⟨w.heap.size,1,none⟩=some (.int .i64 b):=fun n os=>cell_grown (by exact hl) q1 n os
   go_wp2_with fail
   refine wp_region_quiet_grown (by assumption) (by kernel_rfl) ?_
   repeat (go_big_quiet_step (first | fail | (go_at_call 162;exact Calls.grown_of (HR.out _))))
   refine wpQuiet_nil ?_
   intro _ hw'
   obtain ⟨⟨nq,osq⟩,hw''⟩:=hw'
   subst hw''
   go_wp2
   go_ret2
   exact ⟨rfl,B1.out.trans ⟨nq,osq,rfl⟩⟩
def rgB (lo hi:Int):Bool:=dec (0≤lo∧lo≤65535) && dec (lo≤hi∧hi≤65535)
def prB (p:Int):Bool:=dec (p=0 ∨ p=1 ∨ p=6 ∨ p=17)
def plB (ip b lo hi:Int):Bool:=nB ip b && rgB lo hi
def ruB (r:RuleV):Bool:=prB r.p && plB r.ip r.b r.lo r.hi
theorem dec_congr {p q:Prop} [Decidable p] [Decidable q] (h:p ↔ q):dec p=dec q:=decide_eq_decide.2 h
theorem rg_ports (lo hi:Int):(dec (0≤lo∧lo≤65535) && (dec (0≤hi∧hi≤65535) && decide (lo≤hi)))=rgB lo hi:=by
 unfold rgB dec
 rw [Bool.eq_iff_iff]
 simp
 omega
theorem l07Range_any (lo hi:Int) (w:World) :
  Calls Tryz.prog 126 #[.agg #[.int .i64 lo,.int .i64 hi]] w fun e w'=>e=.returned (.bool (rgB lo hi))∧Grw w w':=by
 obtain ⟨q,hq⟩:∃ q,q=dec (0≤lo∧lo≤65535):=⟨_,rfl⟩
 obtain ⟨r,hr⟩:∃ r,r=dec (lo≤hi∧hi≤65535):=⟨_,rfl⟩
 have HA:Hid (∀ w,Calls Tryz.prog 74 #[.int .i64 lo,.int .i64 0,.int .i64 65535] w fun e w'=>e=.returned (.bool q)∧w'=w):=fun w=>hq ▸ specIn_any lo 0 65535 w
 have HB:Hid (∀ w,Calls Tryz.prog 74 #[.int .i64 hi,.int .i64 lo,.int .i64 65535] w fun e w'=>e=.returned (.bool r)∧w'=w):=fun w=>hr ▸ specIn_any hi lo 65535 w
 have E:Hid (rgB lo hi=(q && r)):=by rw [hq,hr];rfl
 clear hq hr
 go_enter Tryz.func126,Tryz.ntmps126
 go_wp2_with fail
 refine (HA.out _).mono ?_
 rintro e wx1 ⟨rfl,rfl⟩
 cases q with
 | false =>
  go_wp2
  go_ret
  exact ⟨by rw [E.out];rfl,((Grw.refl _).alloc _)⟩
 | true =>
  go_wp2_with fail
  refine (HB.out _).mono ?_
  rintro e wx2 ⟨rfl,rfl⟩
  cases r with
  | false =>
   go_wp2
   go_ret
   exact ⟨by rw [E.out];rfl,((Grw.refl _).alloc _)⟩
  | true =>
   go_wp2
   go_ret
   exact ⟨by rw [E.out];rfl,((Grw.refl _).alloc _)⟩
set_option maxHeartbeats 1000000 in
theorem specRuleOK_any (p ip b lo hi:Int) (al:Bool) (w:World) :
  Calls Tryz.prog 158 #[.agg #[.int .i64 p,.int .i64 ip,.int .i64 b,.int .i64 lo,.int .i64 hi,.bool al]] w fun e w'=>e=.returned (.bool (ruB ⟨p,ip,b,lo,hi,al⟩))∧Grw w w':=by
 obtain ⟨q,hq⟩:∃ q,q=nB ip b:=⟨_,rfl⟩
 obtain ⟨r,hr⟩:∃ r,r=rgB lo hi:=⟨_,rfl⟩
 have HA:Hid (∀ w,Calls Tryz.prog 125 #[.agg #[.int .i64 ip,.int .i64 b]] w fun e w'=>e=.returned (.bool q)∧Grw w w'):=fun w=>hq ▸ specNetOK_any ip b w
 have HB:Hid (∀ w,Calls Tryz.prog 126 #[.agg #[.int .i64 lo,.int .i64 hi]] w fun e w'=>e=.returned (.bool r)∧Grw w w'):=fun w=>hr ▸ l07Range_any lo hi w
 have E:Hid (ruB ⟨p,ip,b,lo,hi,al⟩=(prB p && (q && r))):=by rw [hq,hr];rfl
 clear hq hr
 generalize ruB ⟨p,ip,b,lo,hi,al⟩=z at E ⊢
 by_cases hp:p=0 ∨ p=1 ∨ p=6 ∨ p=17
 ·have e1:prB p=true:=dec_y hp
  rw [e1] at E
  rcases hp with hp | hp | hp | hp
  ·have n0:(p == 0)=true:=by simp;omega
   have n1:(p == 1)=false:=by simp;omega
   have n2:(p == 6)=false:=by simp;omega
   have n3:(p == 17)=false:=by simp;omega
   go_enter Tryz.func158,Tryz.ntmps158
   go_wp2_with fail
   refine (HA.out _).mono ?_
   rintro e wx1 ⟨rfl,bx⟩
   have k1:World.cell? _ ⟨w.heap.size,1,none⟩=some (.int .i64 ip):=bx.keep (a:=⟨w.heap.size,1,none⟩) (v:=.int .i64 ip) (by simp [go_sem])
   have k2:World.cell? _ ⟨w.heap.size,2,none⟩=some (.int .i64 b):=bx.keep (a:=⟨w.heap.size,2,none⟩) (v:=.int .i64 b) (by simp [go_sem])
   have k3:World.cell? _ ⟨w.heap.size,3,none⟩=some (.int .i64 lo):=bx.keep (a:=⟨w.heap.size,3,none⟩) (v:=.int .i64 lo) (by simp [go_sem])
   have k4:World.cell? _ ⟨w.heap.size,4,none⟩=some (.int .i64 hi):=bx.keep (a:=⟨w.heap.size,4,none⟩) (v:=.int .i64 hi) (by simp [go_sem])
   have BX:Hid (Grw w _):=((Grw.refl _).alloc _).trans bx
   clear bx
   cases q with
   | false =>
    go_wp2
    go_ret
    exact ⟨by rw [E.out];rfl,BX.out⟩
   | true =>
    go_wp2_with fail
    refine (HB.out _).mono ?_
    rintro e wx2 ⟨rfl,bx⟩
    replace k1:=bx.keep k1
    replace k2:=bx.keep k2
    replace k3:=bx.keep k3
    replace k4:=bx.keep k4
    replace BX:Hid (Grw w _):=BX.out.trans bx
    clear bx
    cases r with
    | false =>
     go_wp2
     go_ret
     exact ⟨by rw [E.out];rfl,BX.out⟩
    | true =>
     go_wp2
     go_ret
     exact ⟨by rw [E.out];rfl,BX.out⟩
  ·have n0:(p == 0)=false:=by simp;omega
   have n1:(p == 1)=true:=by simp;omega
   have n2:(p == 6)=false:=by simp;omega
   have n3:(p == 17)=false:=by simp;omega
   go_enter Tryz.func158,Tryz.ntmps158
   go_wp2_with fail
   refine (HA.out _).mono ?_
   rintro e wx1 ⟨rfl,bx⟩
   have k1:World.cell? _ ⟨w.heap.size,1,none⟩=some (.int .i64 ip):=bx.keep (a:=⟨w.heap.size,1,none⟩) (v:=.int .i64 ip) (by simp [go_sem])
   have k2:World.cell? _ ⟨w.heap.size,2,none⟩=some (.int .i64 b):=bx.keep (a:=⟨w.heap.size,2,none⟩) (v:=.int .i64 b) (by simp [go_sem])
   have k3:World.cell? _ ⟨w.heap.size,3,none⟩=some (.int .i64 lo):=bx.keep (a:=⟨w.heap.size,3,none⟩) (v:=.int .i64 lo) (by simp [go_sem])
   have k4:World.cell? _ ⟨w.heap.size,4,none⟩=some (.int .i64 hi):=bx.keep (a:=⟨w.heap.size,4,none⟩) (v:=.int .i64 hi) (by simp [go_sem])
   have BX:Hid (Grw w _):=((Grw.refl _).alloc _).trans bx
   clear bx
   cases q with
   | false =>
    go_wp2
    go_ret
    exact ⟨by rw [E.out];rfl,BX.out⟩
   | true =>
    go_wp2_with fail
    refine (HB.out _).mono ?_
    rintro e wx2 ⟨rfl,bx⟩
    replace k1:=bx.keep k1
    replace k2:=bx.keep k2
    replace k3:=bx.keep k3
    replace k4:=bx.keep k4
    replace BX:Hid (Grw w _):=BX.out.trans bx
    clear bx
    cases r with
    | false =>
     go_wp2
     go_ret
     exact ⟨by rw [E.out];rfl,BX.out⟩
    | true =>
     go_wp2
     go_ret
     exact ⟨by rw [E.out];rfl,BX.out⟩
  ·have n0:(p == 0)=false:=by simp;omega
   have n1:(p == 1)=false:=by simp;omega
   have n2:(p == 6)=true:=by simp;omega
   have n3:(p == 17)=false:=by simp;omega
   go_enter Tryz.func158,Tryz.ntmps158
   go_wp2_with fail
   refine (HA.out _).mono ?_
   rintro e wx1 ⟨rfl,bx⟩
   have k1:World.cell? _ ⟨w.heap.size,1,none⟩=some (.int .i64 ip):=bx.keep (a:=⟨w.heap.size,1,none⟩) (v:=.int .i64 ip) (by simp [go_sem])
   have k2:World.cell? _ ⟨w.heap.size,2,none⟩=some (.int .i64 b):=bx.keep (a:=⟨w.heap.size,2,none⟩) (v:=.int .i64 b) (by simp [go_sem])
   have k3:World.cell? _ ⟨w.heap.size,3,none⟩=some (.int .i64 lo):=bx.keep (a:=⟨w.heap.size,3,none⟩) (v:=.int .i64 lo) (by simp [go_sem])
   have k4:World.cell? _ ⟨w.heap.size,4,none⟩=some (.int .i64 hi):=bx.keep (a:=⟨w.heap.size,4,none⟩) (v:=.int .i64 hi) (by simp [go_sem])
   have BX:Hid (Grw w _):=((Grw.refl _).alloc _).trans bx
   clear bx
   cases q with
   | false =>
    go_wp2
    go_ret
    exact ⟨by rw [E.out];rfl,BX.out⟩
   | true =>
    go_wp2_with fail
    refine (HB.out _).mono ?_
    rintro e wx2 ⟨rfl,bx⟩
    replace k1:=bx.keep k1
    replace k2:=bx.keep k2
    replace k3:=bx.keep k3
    replace k4:=bx.keep k4
    replace BX:Hid (Grw w _):=BX.out.trans bx
    clear bx
    cases r with
    | false =>
     go_wp2
     go_ret
     exact ⟨by rw [E.out];rfl,BX.out⟩
    | true =>
     go_wp2
     go_ret
     exact ⟨by rw [E.out];rfl,BX.out⟩
  ·have n0:(p == 0)=false:=by simp;omega
   have n1:(p == 1)=false:=by simp;omega
   have n2:(p == 6)=false:=by simp;omega
   have n3:(p == 17)=true:=by simp;omega
   go_enter Tryz.func158,Tryz.ntmps158
   go_wp2_with fail
   refine (HA.out _).mono ?_
   rintro e wx1 ⟨rfl,bx⟩
   have k1:World.cell? _ ⟨w.heap.size,1,none⟩=some (.int .i64 ip):=bx.keep (a:=⟨w.heap.size,1,none⟩) (v:=.int .i64 ip) (by simp [go_sem])
   have k2:World.cell? _ ⟨w.heap.size,2,none⟩=some (.int .i64 b):=bx.keep (a:=⟨w.heap.size,2,none⟩) (v:=.int .i64 b) (by simp [go_sem])
   have k3:World.cell? _ ⟨w.heap.size,3,none⟩=some (.int .i64 lo):=bx.keep (a:=⟨w.heap.size,3,none⟩) (v:=.int .i64 lo) (by simp [go_sem])
   have k4:World.cell? _ ⟨w.heap.size,4,none⟩=some (.int .i64 hi):=bx.keep (a:=⟨w.heap.size,4,none⟩) (v:=.int .i64 hi) (by simp [go_sem])
   have BX:Hid (Grw w _):=((Grw.refl _).alloc _).trans bx
   clear bx
   cases q with
   | false =>
    go_wp2
    go_ret
    exact ⟨by rw [E.out];rfl,BX.out⟩
   | true =>
    go_wp2_with fail
    refine (HB.out _).mono ?_
    rintro e wx2 ⟨rfl,bx⟩
    replace k1:=bx.keep k1
    replace k2:=bx.keep k2
    replace k3:=bx.keep k3
    replace k4:=bx.keep k4
    replace BX:Hid (Grw w _):=BX.out.trans bx
    clear bx
    cases r with
    | false =>
     go_wp2
     go_ret
     exact ⟨by rw [E.out];rfl,BX.out⟩
    | true =>
     go_wp2
     go_ret
     exact ⟨by rw [E.out];rfl,BX.out⟩
 ·have e1:prB p=false:=dec_n hp
  rw [e1] at E
  have n0:(p == 0)=false:=by simp;omega
  have n1:(p == 1)=false:=by simp;omega
  have n2:(p == 6)=false:=by simp;omega
  have n3:(p == 17)=false:=by simp;omega
  go_enter Tryz.func158,Tryz.ntmps158
  go_wp2
  go_ret
  exact ⟨by rw [E.out];rfl,(Grw.refl _).alloc _⟩
theorem placeOf_any (p ip b lo hi:Int) (al:Bool) (w:World) :
  Calls Tryz.prog 210 #[.agg #[.int .i64 p,.int .i64 ip,.int .i64 b,.int .i64 lo,.int .i64 hi,.bool al]] w fun e w'=>e=.returned (.agg #[.int .i64 ip,.int .i64 b,.int .i64 lo,.int .i64 hi])∧Grw w w':=by
 go_enter Tryz.func210,Tryz.ntmps210
 go_wp2
 (try simp only [Exit.inBlock,Exit.then])
 refine bodyPost_ret (v:=.agg #[.int .i64 ip,.int .i64 b,.int .i64 lo,.int .i64 hi]) (by simp [results,Tryz.results210,go_sem];try rfl) rfl ?_
 exact ⟨rfl,((Grw.refl _).alloc _).alloc _⟩
set_option maxHeartbeats 1000000 in
theorem placeOK_any (ip b lo hi:Int) (w:World) (hl:lo≤9223372036854775807) (hh:hi≤9223372036854775807) :
  Calls Tryz.prog 163 #[.agg #[.int .i64 ip,.int .i64 b,.int .i64 lo,.int .i64 hi]] w fun e w'=>e=.returned (.bool (plB ip b lo hi))∧Grw w w':=by
 obtain ⟨q,hq⟩:∃ q,q=nB ip b:=⟨_,rfl⟩
 obtain ⟨r,hr⟩:∃ r,r=dec (0≤lo∧lo≤65535):=⟨_,rfl⟩
 obtain ⟨s,hs⟩:∃ s,s=dec (0≤hi∧hi≤65535):=⟨_,rfl⟩
 obtain ⟨u,hu⟩:∃ u,u=decide (lo≤hi):=⟨_,rfl⟩
 have HA:Hid (∀ w,Calls Tryz.prog 160 #[.agg #[.int .i64 ip,.int .i64 b]] w fun e w'=>e=.returned (.bool q)∧Grw w w'):=fun w=>hq ▸ implNetOK_any ip b w
 have HB:Hid (∀ w,Calls Tryz.prog 195 #[.int .i64 lo] w fun e w'=>e=.returned (.bool r)∧w'=w):=fun w=>hr ▸ portOK_any lo w hl
 have HC:Hid (∀ w,Calls Tryz.prog 195 #[.int .i64 hi] w fun e w'=>e=.returned (.bool s)∧w'=w):=fun w=>hs ▸ portOK_any hi w hh
 have E:Hid (plB ip b lo hi=(q && (r && (s && u)))):=by
  rw [hq,hr,hs,hu,rg_ports]
  rfl
 have hu':decide (lo≤hi)=u:=hu.symm
 clear hq hr hs hu
 go_enter Tryz.func163,Tryz.ntmps163
 go_wp2_with fail
 refine (HA.out _).mono ?_
 rintro e wx1 ⟨rfl,bx⟩
 have k0:World.cell? _ ⟨w.heap.size,0,none⟩=some (.int .i64 ip):=bx.keep (a:=⟨w.heap.size,0,none⟩) (v:=.int .i64 ip) (by simp [go_sem])
 have k1:World.cell? _ ⟨w.heap.size,1,none⟩=some (.int .i64 b):=bx.keep (a:=⟨w.heap.size,1,none⟩) (v:=.int .i64 b) (by simp [go_sem])
 have k2:World.cell? _ ⟨w.heap.size,2,none⟩=some (.int .i64 lo):=bx.keep (a:=⟨w.heap.size,2,none⟩) (v:=.int .i64 lo) (by simp [go_sem])
 have k3:World.cell? _ ⟨w.heap.size,3,none⟩=some (.int .i64 hi):=bx.keep (a:=⟨w.heap.size,3,none⟩) (v:=.int .i64 hi) (by simp [go_sem])
 have BX:Hid (Grw w _):=((Grw.refl _).alloc _).trans bx
 clear bx
 cases q with
 | false =>
  go_wp2
  go_ret
  exact ⟨by rw [E.out];rfl,BX.out⟩
 | true =>
  go_wp2_with fail
  refine (HB.out _).mono ?_
  rintro e wx2 ⟨rfl,rfl⟩
  cases r with
  | false =>
   go_wp2
   go_ret
   exact ⟨by rw [E.out];rfl,BX.out⟩
  | true =>
   go_wp2_with fail
   refine (HC.out _).mono ?_
   rintro e wx3 ⟨rfl,rfl⟩
   cases s with
   | false =>
    go_wp2
    go_ret
    exact ⟨by rw [E.out];rfl,BX.out⟩
   | true =>
    go_wp2
    go_ret
    exact ⟨by rw [E.out];rfl,BX.out⟩
def pwS (p:Int):ByteArray:=if p=0 then ⟨#[97,110,121]⟩ else if p=1 then ⟨#[105,99,109,112]⟩ else if p=6 then ⟨#[116,99,112]⟩ else if p=17 then ⟨#[117,100,112]⟩ else ⟨#[]⟩
theorem protoWord_any (p:Int) (w:World) :
  Calls Tryz.prog 209 #[.int .i64 p] w fun e w'=>e=.returned (.string (pwS p))∧w'=w:=by
 by_cases h0:p=0
 ·subst h0
  go_enter Tryz.func209,Tryz.ntmps209
  go_wp2
  go_ret
  exact ⟨rfl,rfl⟩
 by_cases h1:p=1
 ·subst h1
  go_enter Tryz.func209,Tryz.ntmps209
  go_wp2
  go_ret
  exact ⟨rfl,rfl⟩
 by_cases h2:p=6
 ·subst h2
  go_enter Tryz.func209,Tryz.ntmps209
  go_wp2
  go_ret
  exact ⟨rfl,rfl⟩
 by_cases h3:p=17
 ·subst h3
  go_enter Tryz.func209,Tryz.ntmps209
  go_wp2
  go_ret
  exact ⟨rfl,rfl⟩
 have e:pwS p=⟨#[]⟩:=by unfold pwS;rw [if_neg h0,if_neg h1,if_neg h2,if_neg h3]
 rw [e]
 have n0:(p == 0)=false:=by simp;omega
 have n1:(p == 1)=false:=by simp;omega
 have n2:(p == 6)=false:=by simp;omega
 have n3:(p == 17)=false:=by simp;omega
 go_enter Tryz.func209,Tryz.ntmps209
 go_wp2
 go_ret
 exact ⟨rfl,rfl⟩
set_option maxHeartbeats 1000000 in
theorem implRuleOK_any (p ip b lo hi:Int) (al:Bool) (w:World) (hl:lo≤9223372036854775807) (hh:hi≤9223372036854775807) :
  Calls Tryz.prog 196 #[.agg #[.int .i64 p,.int .i64 ip,.int .i64 b,.int .i64 lo,.int .i64 hi,.bool al]] w fun e w'=>e=.returned (.bool (ruB ⟨p,ip,b,lo,hi,al⟩))∧Grw w w':=by
 obtain ⟨r,hr⟩:∃ r,r=plB ip b lo hi:=⟨_,rfl⟩
 have HP:=fun w=>protoWord_any p w
 have HA:Hid (∀ w,Calls Tryz.prog 209 #[.int .i64 p] w fun e w'=>e=.returned (.string (pwS p))∧w'=w):=fun w=>protoWord_any p w
 have HB:Hid (∀ w,Calls Tryz.prog 210 #[.agg #[.int .i64 p,.int .i64 ip,.int .i64 b,.int .i64 lo,.int .i64 hi,.bool al]] w fun e w'=>e=.returned (.agg #[.int .i64 ip,.int .i64 b,.int .i64 lo,.int .i64 hi])∧Grw w w'):=fun w=>placeOf_any p ip b lo hi al w
 have HC:Hid (∀ w,Calls Tryz.prog 163 #[.agg #[.int .i64 ip,.int .i64 b,.int .i64 lo,.int .i64 hi]] w fun e w'=>e=.returned (.bool r)∧Grw w w'):=fun w=>hr ▸ placeOK_any ip b lo hi w hl hh
 have E:Hid (ruB ⟨p,ip,b,lo,hi,al⟩=(prB p && r)):=by rw [hr];rfl
 clear hr HP
 generalize ruB ⟨p,ip,b,lo,hi,al⟩=z at E ⊢
 by_cases hp:p=0 ∨ p=1 ∨ p=6 ∨ p=17
 ·have e1:prB p=true:=dec_y hp
  rw [e1] at E
  have hS:((pwS p).toList == [])=false:=by rcases hp with rfl | rfl | rfl | rfl <;> simp [pwS]
  generalize pwS p=S at HA hS
  go_enter Tryz.func196,Tryz.ntmps196
  go_wp2_with fail
  refine (HA.out _).mono ?_
  rintro e wx1 ⟨rfl,rfl⟩
  go_wp2_with fail
  refine (HB.out _).mono ?_
  rintro e wx2 ⟨rfl,bx⟩
  have k0:World.cell? _ ⟨w.heap.size,0,none⟩=some (.int .i64 p):=bx.keep (a:=⟨w.heap.size,0,none⟩) (v:=.int .i64 p) (by simp [go_sem])
  have k1:World.cell? _ ⟨w.heap.size,1,none⟩=some (.int .i64 ip):=bx.keep (a:=⟨w.heap.size,1,none⟩) (v:=.int .i64 ip) (by simp [go_sem])
  have k2:World.cell? _ ⟨w.heap.size,2,none⟩=some (.int .i64 b):=bx.keep (a:=⟨w.heap.size,2,none⟩) (v:=.int .i64 b) (by simp [go_sem])
  have k3:World.cell? _ ⟨w.heap.size,3,none⟩=some (.int .i64 lo):=bx.keep (a:=⟨w.heap.size,3,none⟩) (v:=.int .i64 lo) (by simp [go_sem])
  have k4:World.cell? _ ⟨w.heap.size,4,none⟩=some (.int .i64 hi):=bx.keep (a:=⟨w.heap.size,4,none⟩) (v:=.int .i64 hi) (by simp [go_sem])
  have k5:World.cell? _ ⟨w.heap.size,5,none⟩=some (.bool al):=bx.keep (a:=⟨w.heap.size,5,none⟩) (v:=.bool al) (by simp [go_sem])
  have BX:Hid (Grw w _):=((Grw.refl _).alloc _).trans bx
  clear bx
  go_wp2_with fail
  refine (HC.out _).mono ?_
  rintro e wx3 ⟨rfl,bx⟩
  replace k0:=bx.keep k0
  replace k1:=bx.keep k1
  replace k2:=bx.keep k2
  replace k3:=bx.keep k3
  replace k4:=bx.keep k4
  replace k5:=bx.keep k5
  replace BX:Hid (Grw w _):=BX.out.trans bx
  clear bx
  go_wp2
  go_ret
  exact ⟨by rw [E.out];rfl,BX.out⟩
 ·have e1:prB p=false:=dec_n hp
  rw [e1] at E
  have e:pwS p=⟨#[]⟩:=by unfold pwS;rw [if_neg (by omega),if_neg (by omega),if_neg (by omega),if_neg (by omega)]
  rw [e] at HA
  go_enter Tryz.func196,Tryz.ntmps196
  go_wp2_with fail
  refine (HA.out _).mono ?_
  rintro e wx1 ⟨rfl,rfl⟩
  go_wp2
  go_ret
  exact ⟨by rw [E.out];rfl,(Grw.refl _).alloc _⟩
theorem toNet2 (f0 f1:Int) (w:World) :
  Calls Tryz.prog 30 #[.agg #[.int .i64 f0,.int .i64 f1]] w fun e w'=>e=.returned (.agg #[.int .i64 f0,.int .i64 f1])∧Below w.heap.size w w':=by
 go_enter Tryz.func30,Tryz.ntmps30
 go_wp2
 (try simp only [Exit.inBlock,Exit.then])
 refine bodyPost_ret (v:=.agg #[.int .i64 f0,.int .i64 f1]) (by simp [results,Tryz.results30,go_sem];try rfl) rfl ?_
 exact ⟨rfl,((((Grw.refl _).alloc _).alloc _).alloc _).below⟩
theorem eqNet2 (x0 x1:Int) (w:World) :
  Calls Tryz.prog 41 #[.agg #[.int .i64 x0,.int .i64 x1],.agg #[.int .i64 x0,.int .i64 x1]] w fun e w'=>e=.returned (.bool true)∧Grw w w':=by
 have h0:(x0 != x0)=false:=by simp
 have h1:(x1 != x1)=false:=by simp
 go_enter Tryz.func41,Tryz.ntmps41
 go_wp2
 go_ret
 exact ⟨rfl,((Grw.refl _).alloc _).alloc _⟩
theorem toRange2 (f0 f1:Int) (w:World) :
  Calls Tryz.prog 130 #[.agg #[.int .i64 f0,.int .i64 f1]] w fun e w'=>e=.returned (.agg #[.int .i64 f0,.int .i64 f1])∧Below w.heap.size w w':=by
 go_enter Tryz.func130,Tryz.ntmps130
 go_wp2
 (try simp only [Exit.inBlock,Exit.then])
 refine bodyPost_ret (v:=.agg #[.int .i64 f0,.int .i64 f1]) (by simp [results,Tryz.results130,go_sem];try rfl) rfl ?_
 exact ⟨rfl,((((Grw.refl _).alloc _).alloc _).alloc _).below⟩
theorem eqRange2 (x0 x1:Int) (w:World) :
  Calls Tryz.prog 144 #[.agg #[.int .i64 x0,.int .i64 x1],.agg #[.int .i64 x0,.int .i64 x1]] w fun e w'=>e=.returned (.bool true)∧Grw w w':=by
 have h0:(x0 != x0)=false:=by simp
 have h1:(x1 != x1)=false:=by simp
 go_enter Tryz.func144,Tryz.ntmps144
 go_wp2
 go_ret
 exact ⟨rfl,((Grw.refl _).alloc _).alloc _⟩
set_option maxHeartbeats 1000000 in
theorem toRule_any (p ip b lo hi:Int) (al:Bool) (w:World) :
  Calls Tryz.prog 159 #[.agg #[.int .i64 p,.int .i64 ip,.int .i64 b,.int .i64 lo,.int .i64 hi,.bool al]] w fun e w'=>e=.returned (.agg #[.int .i64 p,.int .i64 ip,.int .i64 b,.int .i64 lo,.int .i64 hi,.bool al])∧Below w.heap.size w w':=by
 have HA:Hid (∀ w,Calls Tryz.prog 30 #[.agg #[.int .i64 ip,.int .i64 b]] w fun e w'=>e=.returned (.agg #[.int .i64 ip,.int .i64 b])∧Below w.heap.size w w'):=fun w=>toNet2 ip b w
 have HB:Hid (∀ w,Calls Tryz.prog 130 #[.agg #[.int .i64 lo,.int .i64 hi]] w fun e w'=>e=.returned (.agg #[.int .i64 lo,.int .i64 hi])∧Below w.heap.size w w'):=fun w=>toRange2 lo hi w
 go_enter Tryz.func159,Tryz.ntmps159
 go_wp2_with fail
 refine (HA.out _).mono ?_
 rintro e wx1 ⟨rfl,bx⟩
 have c1_0_0:wx1.cell? ⟨w.heap.size,0,none⟩=some (.int .i64 p):=bkeep bx (by simp [go_sem])
 have c1_0_1:wx1.cell? ⟨w.heap.size,1,none⟩=some (.int .i64 ip):=bkeep bx (by simp [go_sem])
 have c1_0_2:wx1.cell? ⟨w.heap.size,2,none⟩=some (.int .i64 b):=bkeep bx (by simp [go_sem])
 have c1_0_3:wx1.cell? ⟨w.heap.size,3,none⟩=some (.int .i64 lo):=bkeep bx (by simp [go_sem])
 have c1_0_4:wx1.cell? ⟨w.heap.size,4,none⟩=some (.int .i64 hi):=bkeep bx (by simp [go_sem])
 have c1_0_5:wx1.cell? ⟨w.heap.size,5,none⟩=some (.bool al):=bkeep bx (by simp [go_sem])
 have c1_1_0:wx1.cell? ⟨w.heap.size+1,0,none⟩=some (.int .i64 0):=bkeep bx (by simp [go_sem])
 have f1_1_0:wx1.frozen? ⟨w.heap.size+1,0,none⟩=false:=bthaw bx (v:=.int .i64 0) (by simp [go_sem]) (by simp [go_sem])
 have c1_1_1:wx1.cell? ⟨w.heap.size+1,1,none⟩=some (.int .i64 0):=bkeep bx (by simp [go_sem])
 have f1_1_1:wx1.frozen? ⟨w.heap.size+1,1,none⟩=false:=bthaw bx (v:=.int .i64 0) (by simp [go_sem]) (by simp [go_sem])
 have c1_1_2:wx1.cell? ⟨w.heap.size+1,2,none⟩=some (.int .i64 0):=bkeep bx (by simp [go_sem])
 have f1_1_2:wx1.frozen? ⟨w.heap.size+1,2,none⟩=false:=bthaw bx (v:=.int .i64 0) (by simp [go_sem]) (by simp [go_sem])
 have c1_1_3:wx1.cell? ⟨w.heap.size+1,3,none⟩=some (.int .i64 0):=bkeep bx (by simp [go_sem])
 have f1_1_3:wx1.frozen? ⟨w.heap.size+1,3,none⟩=false:=bthaw bx (v:=.int .i64 0) (by simp [go_sem]) (by simp [go_sem])
 have c1_1_4:wx1.cell? ⟨w.heap.size+1,4,none⟩=some (.int .i64 0):=bkeep bx (by simp [go_sem])
 have f1_1_4:wx1.frozen? ⟨w.heap.size+1,4,none⟩=false:=bthaw bx (v:=.int .i64 0) (by simp [go_sem]) (by simp [go_sem])
 have c1_1_5:wx1.cell? ⟨w.heap.size+1,5,none⟩=some (.bool false):=bkeep bx (by simp [go_sem])
 have f1_1_5:wx1.frozen? ⟨w.heap.size+1,5,none⟩=false:=bthaw bx (v:=.bool false) (by simp [go_sem]) (by simp [go_sem])
 have c1_2_0:wx1.cell? ⟨w.heap.size+1+1,0,none⟩=some (.int .i64 p):=bkeep bx (by simp [go_sem])
 have f1_2_0:wx1.frozen? ⟨w.heap.size+1+1,0,none⟩=false:=bthaw bx (v:=.int .i64 p) (by simp [go_sem]) (by simp [go_sem])
 have c1_2_1:wx1.cell? ⟨w.heap.size+1+1,1,none⟩=some (.int .i64 0):=bkeep bx (by simp [go_sem])
 have f1_2_1:wx1.frozen? ⟨w.heap.size+1+1,1,none⟩=false:=bthaw bx (v:=.int .i64 0) (by simp [go_sem]) (by simp [go_sem])
 have c1_2_2:wx1.cell? ⟨w.heap.size+1+1,2,none⟩=some (.int .i64 0):=bkeep bx (by simp [go_sem])
 have f1_2_2:wx1.frozen? ⟨w.heap.size+1+1,2,none⟩=false:=bthaw bx (v:=.int .i64 0) (by simp [go_sem]) (by simp [go_sem])
 have c1_2_3:wx1.cell? ⟨w.heap.size+1+1,3,none⟩=some (.int .i64 0):=bkeep bx (by simp [go_sem])
 have f1_2_3:wx1.frozen? ⟨w.heap.size+1+1,3,none⟩=false:=bthaw bx (v:=.int .i64 0) (by simp [go_sem]) (by simp [go_sem])
 have c1_2_4:wx1.cell? ⟨w.heap.size+1+1,4,none⟩=some (.int .i64 0):=bkeep bx (by simp [go_sem])
 have f1_2_4:wx1.frozen? ⟨w.heap.size+1+1,4,none⟩=false:=bthaw bx (v:=.int .i64 0) (by simp [go_sem]) (by simp [go_sem])
 have c1_2_5:wx1.cell? ⟨w.heap.size+1+1,5,none⟩=some (.bool false):=bkeep bx (by simp [go_sem])
 have f1_2_5:wx1.frozen? ⟨w.heap.size+1+1,5,none⟩=false:=bthaw bx (v:=.bool false) (by simp [go_sem]) (by simp [go_sem])
 have BX1:Hid (Below w.heap.size w wx1):=((((Below.refl w.heap.size w).alloc (by simp <;> omega) _).alloc (by simp <;> omega) _).alloc (by simp <;> omega) _).trans (bx.mono (by simp <;> omega))
 clear bx
 go_wp2_with fail
 refine (HB.out _).mono ?_
 rintro e wx2 ⟨rfl,bx⟩
 have c2_0_0:wx2.cell? ⟨w.heap.size,0,none⟩=some (.int .i64 p):=bkeep bx (by first | (simp [go_sem];done) | simp [go_sem,c1_0_0])
 have c2_0_1:wx2.cell? ⟨w.heap.size,1,none⟩=some (.int .i64 ip):=bkeep bx (by first | (simp [go_sem];done) | simp [go_sem,c1_0_1])
 have c2_0_2:wx2.cell? ⟨w.heap.size,2,none⟩=some (.int .i64 b):=bkeep bx (by first | (simp [go_sem];done) | simp [go_sem,c1_0_2])
 have c2_0_3:wx2.cell? ⟨w.heap.size,3,none⟩=some (.int .i64 lo):=bkeep bx (by first | (simp [go_sem];done) | simp [go_sem,c1_0_3])
 have c2_0_4:wx2.cell? ⟨w.heap.size,4,none⟩=some (.int .i64 hi):=bkeep bx (by first | (simp [go_sem];done) | simp [go_sem,c1_0_4])
 have c2_0_5:wx2.cell? ⟨w.heap.size,5,none⟩=some (.bool al):=bkeep bx (by first | (simp [go_sem];done) | simp [go_sem,c1_0_5])
 have c2_1_0:wx2.cell? ⟨w.heap.size+1,0,none⟩=some (.int .i64 0):=bkeep bx (by first | (simp [go_sem];done) | simp [go_sem,c1_1_0])
 have f2_1_0:wx2.frozen? ⟨w.heap.size+1,0,none⟩=false:=bthaw bx (v:=.int .i64 0) (by first | (simp [go_sem];done) | simp [go_sem,c1_1_0]) (by first | (simp [go_sem];done) | simp [go_sem,f1_1_0])
 have c2_1_1:wx2.cell? ⟨w.heap.size+1,1,none⟩=some (.int .i64 0):=bkeep bx (by first | (simp [go_sem];done) | simp [go_sem,c1_1_1])
 have f2_1_1:wx2.frozen? ⟨w.heap.size+1,1,none⟩=false:=bthaw bx (v:=.int .i64 0) (by first | (simp [go_sem];done) | simp [go_sem,c1_1_1]) (by first | (simp [go_sem];done) | simp [go_sem,f1_1_1])
 have c2_1_2:wx2.cell? ⟨w.heap.size+1,2,none⟩=some (.int .i64 0):=bkeep bx (by first | (simp [go_sem];done) | simp [go_sem,c1_1_2])
 have f2_1_2:wx2.frozen? ⟨w.heap.size+1,2,none⟩=false:=bthaw bx (v:=.int .i64 0) (by first | (simp [go_sem];done) | simp [go_sem,c1_1_2]) (by first | (simp [go_sem];done) | simp [go_sem,f1_1_2])
 have c2_1_3:wx2.cell? ⟨w.heap.size+1,3,none⟩=some (.int .i64 0):=bkeep bx (by first | (simp [go_sem];done) | simp [go_sem,c1_1_3])
 have f2_1_3:wx2.frozen? ⟨w.heap.size+1,3,none⟩=false:=bthaw bx (v:=.int .i64 0) (by first | (simp [go_sem];done) | simp [go_sem,c1_1_3]) (by first | (simp [go_sem];done) | simp [go_sem,f1_1_3])
 have c2_1_4:wx2.cell? ⟨w.heap.size+1,4,none⟩=some (.int .i64 0):=bkeep bx (by first | (simp [go_sem];done) | simp [go_sem,c1_1_4])
 have f2_1_4:wx2.frozen? ⟨w.heap.size+1,4,none⟩=false:=bthaw bx (v:=.int .i64 0) (by first | (simp [go_sem];done) | simp [go_sem,c1_1_4]) (by first | (simp [go_sem];done) | simp [go_sem,f1_1_4])
 have c2_1_5:wx2.cell? ⟨w.heap.size+1,5,none⟩=some (.bool false):=bkeep bx (by first | (simp [go_sem];done) | simp [go_sem,c1_1_5])
 have f2_1_5:wx2.frozen? ⟨w.heap.size+1,5,none⟩=false:=bthaw bx (v:=.bool false) (by first | (simp [go_sem];done) | simp [go_sem,c1_1_5]) (by first | (simp [go_sem];done) | simp [go_sem,f1_1_5])
 have c2_2_0:wx2.cell? ⟨w.heap.size+1+1,0,none⟩=some (.int .i64 p):=bkeep bx (by first | (simp [go_sem];done) | simp [go_sem,c1_2_0])
 have f2_2_0:wx2.frozen? ⟨w.heap.size+1+1,0,none⟩=false:=bthaw bx (v:=.int .i64 p) (by first | (simp [go_sem];done) | simp [go_sem,c1_2_0]) (by first | (simp [go_sem];done) | simp [go_sem,f1_2_0])
 have c2_2_1:wx2.cell? ⟨w.heap.size+1+1,1,none⟩=some (.int .i64 ip):=bkeep bx (by first | (simp [go_sem];done) | simp [go_sem,c1_2_1])
 have f2_2_1:wx2.frozen? ⟨w.heap.size+1+1,1,none⟩=false:=bthaw bx (v:=.int .i64 ip) (by first | (simp [go_sem];done) | simp [go_sem,c1_2_1]) (by first | (simp [go_sem];done) | simp [go_sem,f1_2_1])
 have c2_2_2:wx2.cell? ⟨w.heap.size+1+1,2,none⟩=some (.int .i64 b):=bkeep bx (by first | (simp [go_sem];done) | simp [go_sem,c1_2_2])
 have f2_2_2:wx2.frozen? ⟨w.heap.size+1+1,2,none⟩=false:=bthaw bx (v:=.int .i64 b) (by first | (simp [go_sem];done) | simp [go_sem,c1_2_2]) (by first | (simp [go_sem];done) | simp [go_sem,f1_2_2])
 have c2_2_3:wx2.cell? ⟨w.heap.size+1+1,3,none⟩=some (.int .i64 0):=bkeep bx (by first | (simp [go_sem];done) | simp [go_sem,c1_2_3])
 have f2_2_3:wx2.frozen? ⟨w.heap.size+1+1,3,none⟩=false:=bthaw bx (v:=.int .i64 0) (by first | (simp [go_sem];done) | simp [go_sem,c1_2_3]) (by first | (simp [go_sem];done) | simp [go_sem,f1_2_3])
 have c2_2_4:wx2.cell? ⟨w.heap.size+1+1,4,none⟩=some (.int .i64 0):=bkeep bx (by first | (simp [go_sem];done) | simp [go_sem,c1_2_4])
 have f2_2_4:wx2.frozen? ⟨w.heap.size+1+1,4,none⟩=false:=bthaw bx (v:=.int .i64 0) (by first | (simp [go_sem];done) | simp [go_sem,c1_2_4]) (by first | (simp [go_sem];done) | simp [go_sem,f1_2_4])
 have c2_2_5:wx2.cell? ⟨w.heap.size+1+1,5,none⟩=some (.bool false):=bkeep bx (by first | (simp [go_sem];done) | simp [go_sem,c1_2_5])
 have f2_2_5:wx2.frozen? ⟨w.heap.size+1+1,5,none⟩=false:=bthaw bx (v:=.bool false) (by first | (simp [go_sem];done) | simp [go_sem,c1_2_5]) (by first | (simp [go_sem];done) | simp [go_sem,f1_2_5])
 have BX2:Hid (Below w.heap.size w wx2):=((BX1.out.setCell (p:=⟨w.heap.size+1+1,_,_⟩) (by show w.heap.size≤w.heap.size+1+1;omega) _).setCell (p:=⟨w.heap.size+1+1,_,_⟩) (by show w.heap.size≤w.heap.size+1+1;omega) _).trans (bx.mono (by have:=BX1.out.size;simp <;> omega))
 clear bx c1_0_0 c1_0_1 c1_0_2 c1_0_3 c1_0_4 c1_0_5 c1_1_0 c1_1_1 c1_1_2 c1_1_3 c1_1_4 c1_1_5 c1_2_0 c1_2_1 c1_2_2 c1_2_3 c1_2_4 c1_2_5 f1_1_0 f1_1_1 f1_1_2 f1_1_3 f1_1_4 f1_1_5 f1_2_0 f1_2_1 f1_2_2 f1_2_3 f1_2_4 f1_2_5 BX1
 go_wp2
 (try simp only [Exit.inBlock,Exit.then])
 refine bodyPost_ret (v:=.agg #[.int .i64 p,.int .i64 ip,.int .i64 b,.int .i64 lo,.int .i64 hi,.bool al]) (by simp [results,Tryz.results159,go_sem,c2_1_0,c2_1_1,c2_1_2,c2_1_3,c2_1_4,c2_1_5];try rfl) rfl ?_
 exact ⟨rfl,(((((((((BX2.out.setCell (p:=⟨w.heap.size+1+1,_,_⟩) (by show w.heap.size≤w.heap.size+1+1;omega) _).setCell (p:=⟨w.heap.size+1+1,_,_⟩) (by show w.heap.size≤w.heap.size+1+1;omega) _).setCell (p:=⟨w.heap.size+1+1,_,_⟩) (by show w.heap.size≤w.heap.size+1+1;omega) _).setCell (p:=⟨w.heap.size+1,_,_⟩) (by show w.heap.size≤w.heap.size+1;omega) _).setCell (p:=⟨w.heap.size+1,_,_⟩) (by show w.heap.size≤w.heap.size+1;omega) _).setCell (p:=⟨w.heap.size+1,_,_⟩) (by show w.heap.size≤w.heap.size+1;omega) _).setCell (p:=⟨w.heap.size+1,_,_⟩) (by show w.heap.size≤w.heap.size+1;omega) _).setCell (p:=⟨w.heap.size+1,_,_⟩) (by show w.heap.size≤w.heap.size+1;omega) _).setCell (p:=⟨w.heap.size+1,_,_⟩) (by show w.heap.size≤w.heap.size+1;omega) _)⟩
set_option maxHeartbeats 1000000 in
theorem eqRule_any (p ip b lo hi:Int) (al:Bool) (w:World) :
  Calls Tryz.prog 176 #[.agg #[.int .i64 p,.int .i64 ip,.int .i64 b,.int .i64 lo,.int .i64 hi,.bool al],.agg #[.int .i64 p,.int .i64 ip,.int .i64 b,.int .i64 lo,.int .i64 hi,.bool al]] w fun e w'=>e=.returned (.bool true)∧Grw w w':=by
 have HA:Hid (∀ w,Calls Tryz.prog 41 #[.agg #[.int .i64 ip,.int .i64 b],.agg #[.int .i64 ip,.int .i64 b]] w fun e w'=>e=.returned (.bool true)∧Grw w w'):=fun w=>eqNet2 ip b w
 have HB:Hid (∀ w,Calls Tryz.prog 144 #[.agg #[.int .i64 lo,.int .i64 hi],.agg #[.int .i64 lo,.int .i64 hi]] w fun e w'=>e=.returned (.bool true)∧Grw w w'):=fun w=>eqRange2 lo hi w
 have hp:(p != p)=false:=by simp
 have ha:(al != al)=false:=by simp
 go_enter Tryz.func176,Tryz.ntmps176
 go_wp2_with fail
 refine (HA.out _).mono ?_
 rintro e wx1 ⟨rfl,bx⟩
 have k0_0:World.cell? _ ⟨w.heap.size,0,none⟩=some (.int .i64 p):=bx.keep (a:=⟨w.heap.size,0,none⟩) (v:=.int .i64 p) (by simp [go_sem])
 have k0_1:World.cell? _ ⟨w.heap.size,1,none⟩=some (.int .i64 ip):=bx.keep (a:=⟨w.heap.size,1,none⟩) (v:=.int .i64 ip) (by simp [go_sem])
 have k0_2:World.cell? _ ⟨w.heap.size,2,none⟩=some (.int .i64 b):=bx.keep (a:=⟨w.heap.size,2,none⟩) (v:=.int .i64 b) (by simp [go_sem])
 have k0_3:World.cell? _ ⟨w.heap.size,3,none⟩=some (.int .i64 lo):=bx.keep (a:=⟨w.heap.size,3,none⟩) (v:=.int .i64 lo) (by simp [go_sem])
 have k0_4:World.cell? _ ⟨w.heap.size,4,none⟩=some (.int .i64 hi):=bx.keep (a:=⟨w.heap.size,4,none⟩) (v:=.int .i64 hi) (by simp [go_sem])
 have k0_5:World.cell? _ ⟨w.heap.size,5,none⟩=some (.bool al):=bx.keep (a:=⟨w.heap.size,5,none⟩) (v:=.bool al) (by simp [go_sem])
 have k1_0:World.cell? _ ⟨w.heap.size+1,0,none⟩=some (.int .i64 p):=bx.keep (a:=⟨w.heap.size+1,0,none⟩) (v:=.int .i64 p) (by simp [go_sem])
 have k1_1:World.cell? _ ⟨w.heap.size+1,1,none⟩=some (.int .i64 ip):=bx.keep (a:=⟨w.heap.size+1,1,none⟩) (v:=.int .i64 ip) (by simp [go_sem])
 have k1_2:World.cell? _ ⟨w.heap.size+1,2,none⟩=some (.int .i64 b):=bx.keep (a:=⟨w.heap.size+1,2,none⟩) (v:=.int .i64 b) (by simp [go_sem])
 have k1_3:World.cell? _ ⟨w.heap.size+1,3,none⟩=some (.int .i64 lo):=bx.keep (a:=⟨w.heap.size+1,3,none⟩) (v:=.int .i64 lo) (by simp [go_sem])
 have k1_4:World.cell? _ ⟨w.heap.size+1,4,none⟩=some (.int .i64 hi):=bx.keep (a:=⟨w.heap.size+1,4,none⟩) (v:=.int .i64 hi) (by simp [go_sem])
 have k1_5:World.cell? _ ⟨w.heap.size+1,5,none⟩=some (.bool al):=bx.keep (a:=⟨w.heap.size+1,5,none⟩) (v:=.bool al) (by simp [go_sem])
 have BX:Hid (Grw w _):=(((Grw.refl _).alloc _).alloc _).trans bx
 clear bx
 go_wp2_with fail
 refine (HB.out _).mono ?_
 rintro e wx2 ⟨rfl,bx⟩
 replace k0_0:=bx.keep k0_0
 replace k0_1:=bx.keep k0_1
 replace k0_2:=bx.keep k0_2
 replace k0_3:=bx.keep k0_3
 replace k0_4:=bx.keep k0_4
 replace k0_5:=bx.keep k0_5
 replace k1_0:=bx.keep k1_0
 replace k1_1:=bx.keep k1_1
 replace k1_2:=bx.keep k1_2
 replace k1_3:=bx.keep k1_3
 replace k1_4:=bx.keep k1_4
 replace k1_5:=bx.keep k1_5
 replace BX:Hid (Grw w _):=BX.out.trans bx
 clear bx
 go_wp2
 go_ret
 exact ⟨rfl,BX.out⟩
def letB (c:Int):Bool:=decide ((97≤c∧c≤122) ∨ (65≤c∧c≤90) ∨ c=95)
def digB (c:Int):Bool:=decide (48≤c∧c≤57)
theorem ret_bool {a b:Bool} (h:a=b):Ending.returned (.bool a)=.returned (.bool b):=by rw [h]
theorem let_cases (c:Int):(c<65∧letB c=false) ∨ (65≤c∧c≤90∧letB c=true) ∨ (90<c∧c<95∧letB c=false) ∨ (c=95∧letB c=true) ∨ (95<c∧c<97∧letB c=false) ∨ (97≤c∧c≤122∧letB c=true) ∨ (122<c∧letB c=false):=by
 unfold letB;simp;omega
theorem dig_cases (c:Int):(c<48∧digB c=false) ∨ (48≤c∧c≤57∧digB c=true) ∨ (57<c∧digB c=false):=by
 unfold digB;simp;omega
theorem dig_not_let (c:Int) (h:digB c=true):letB c=false:=by
 unfold digB at h;unfold letB;simp at h ⊢;omega
theorem isDigit_any (c:Int) (w:World):Calls Tryz.prog 211 #[.int .u8 c] w fun e w'=>e=.returned (.bool (digB c))∧w'=w:=by
 rcases dig_cases c with ⟨h1,h2⟩ | ⟨h1,h3,h2⟩ | ⟨h1,h2⟩
 all_goals
  have H:Hid (digB c=_):=h2
  clear h2
  go_enter Tryz.func211,Tryz.ntmps211
  go_wp2
  go_ret
  exact ⟨ret_bool (Eq.trans (by first | rfl | (simp;omega)) H.out.symm),rfl⟩
theorem l00Digit_any (c:Int) (w:World):Calls Tryz.prog 207 #[.int .u8 c] w fun e w'=>e=.returned (.bool (digB c))∧w'=w:=by
 rcases dig_cases c with ⟨h1,h2⟩ | ⟨h1,h3,h2⟩ | ⟨h1,h2⟩
 all_goals
  have H:Hid (digB c=_):=h2
  clear h2
  go_enter Tryz.func207,Tryz.ntmps207
  go_wp2
  go_ret
  exact ⟨ret_bool (Eq.trans (by first | rfl | (simp;omega)) H.out.symm),rfl⟩
theorem isLetter_any (c:Int) (w:World):Calls Tryz.prog 212 #[.int .u8 c] w fun e w'=>e=.returned (.bool (letB c))∧w'=w:=by
 rcases let_cases c with ⟨h1,h2⟩ | ⟨h1,h3,h2⟩ | ⟨h1,h3,h2⟩ | ⟨rfl,h2⟩ | ⟨h1,h3,h2⟩ | ⟨h1,h3,h2⟩ | ⟨h1,h2⟩
 all_goals
  have H:Hid (letB _=_):=h2
  clear h2
  go_enter Tryz.func212,Tryz.ntmps212
  go_wp2
  go_ret
  exact ⟨ret_bool (Eq.trans (by first | rfl | (simp;omega)) H.out.symm),rfl⟩
theorem l00Letter_any (c:Int) (w:World):Calls Tryz.prog 206 #[.int .u8 c] w fun e w'=>e=.returned (.bool (letB c))∧w'=w:=by
 rcases let_cases c with ⟨h1,h2⟩ | ⟨h1,h3,h2⟩ | ⟨h1,h3,h2⟩ | ⟨rfl,h2⟩ | ⟨h1,h3,h2⟩ | ⟨h1,h3,h2⟩ | ⟨h1,h2⟩
 all_goals
  have H:Hid (letB _=_):=h2
  clear h2
  go_enter Tryz.func206,Tryz.ntmps206
  go_wp2
  go_ret
  exact ⟨ret_bool (Eq.trans (by first | rfl | (simp;omega)) H.out.symm),rfl⟩
def nameB (f:Nat→Int) (n:Nat):Bool:=decide (1≤n∧n≤40∧letB (f 0)=true∧∀ j,j<n→letB (f j)=true ∨ digB (f j)=true)
theorem name_no_len (f:Nat→Int) (n:Nat) (h:n<1 ∨ 40<n):nameB f n=false:=by unfold nameB;rw [decide_eq_false_iff_not];omega
theorem name_no_let (f:Nat→Int) (n:Nat) (h:letB (f 0)=false):nameB f n=false:=by unfold nameB;rw [decide_eq_false_iff_not];simp [h]
theorem name_no_at (f:Nat→Int) (n k:Nat) (hk:k<n) (h:letB (f k)=false) (h':digB (f k)=false):nameB f n=false:=by
 unfold nameB;rw [decide_eq_false_iff_not];rintro ⟨_,_,_,h4⟩;have:=h4 k hk;simp [h,h'] at this
theorem name_yes (f:Nat→Int) (n:Nat) (h0:1≤n) (h1:n≤40) (h2:letB (f 0)=true) (h:∀ j,j<n→letB (f j)=true ∨ digB (f j)=true):nameB f n=true:=by
 unfold nameB;rw [decide_eq_true_iff];exact ⟨h0,h1,h2,h⟩
theorem all_step {f:Nat→Int} {k:Nat} (h:∀ j,j<k→letB (f j)=true ∨ digB (f j)=true) (hk:letB (f k)=true ∨ digB (f k)=true):∀ j,j<k+1→letB (f j)=true ∨ digB (f j)=true:=by
 intro j hj
 by_cases e:j=k
 ·subst e;exact hk
 ·exact h j (by omega)
set_option maxHeartbeats 400000 in
theorem nameOK_any (s:ByteArray) (w:World) (hs:s.size≤1048576) :
  Calls Tryz.prog 197 #[.string s] w fun e w'=>e=.returned (.bool (nameB (bt s) s.size))∧w'=w:=by
 have hb:=get_bt s
 by_cases h1:s.size<1
 ·have hz:s.size=0:=by omega
  go_enter Tryz.func197,Tryz.ntmps197
  go_wp2
  go_ret
  exact ⟨ret_bool (name_no_len _ _ (by omega)).symm,rfl⟩
 by_cases h40:40<s.size
 ·go_enter Tryz.func197,Tryz.ntmps197
  go_wp2
  go_ret
  exact ⟨ret_bool (name_no_len _ _ (by omega)).symm,rfl⟩
 by_cases hd:digB (bt s 0)=true
 ·go_enter Tryz.func197,Tryz.ntmps197
  go_wp2_with (go_at_call 211;refine (isDigit_any _ _).mono ?_;rintro e w' ⟨rfl,rfl⟩)
  go_ret
  exact ⟨ret_bool (name_no_let _ _ (dig_not_let _ hd)).symm,rfl⟩
 simp only [Bool.not_eq_true] at hd
 have b1:decide ((s.size:Int)<1)=false:=by simp;omega
 have b2:decide (40<(s.size:Int))=false:=by simp;omega
 go_enter Tryz.func197,Tryz.ntmps197
 go_wp2_with (go_at_call 211;refine (isDigit_any _ _).mono ?_;rintro e w' ⟨rfl,rfl⟩)
 go_loop [19] (fun i=>∃ k:Nat,k≤s.size∧i=.int .i64 k∧∀ j,j<k→letB (bt s j)=true ∨ digB (bt s j)=true) (fun i=>s.size - (intOf i).toNat)
 case atStart=>exact ⟨0,Nat.zero_le _,rfl,fun j hj=>absurd hj (by omega)⟩
 case round =>
  obtain ⟨k,hk,rfl,hall⟩:=hrel
  have HA:Hid (∀ j,j<k→letB (bt s j)=true ∨ digB (bt s j)=true):=hall
  clear hall
  have HD:Hid (digB (bt s 0)=false):=hd
  clear hd
  by_cases hlt:k<s.size
  ·cases hl:letB (bt s k)
   ·cases hg:digB (bt s k)
    ·go_wp2_with (first | (go_at_call 212;refine (isLetter_any _ _).mono ?_;rintro e w' ⟨rfl,rfl⟩) | (go_at_call 211;refine (isDigit_any _ _).mono ?_;rintro e w' ⟨rfl,rfl⟩))
     go_ret
     exact ⟨ret_bool (name_no_at _ _ k hlt hl hg).symm,rfl⟩
    ·go_wp2_with (first | (go_at_call 212;refine (isLetter_any _ _).mono ?_;rintro e w' ⟨rfl,rfl⟩) | (go_at_call 211;refine (isDigit_any _ _).mono ?_;rintro e w' ⟨rfl,rfl⟩))
     go_round
     case rel=>exact ⟨k+1,by omega,by go_num,all_step HA.out (.inr hg)⟩
     case measure=>simp [intOf];omega
   ·go_wp2_with (first | (go_at_call 212;refine (isLetter_any _ _).mono ?_;rintro e w' ⟨rfl,rfl⟩) | (go_at_call 211;refine (isDigit_any _ _).mono ?_;rintro e w' ⟨rfl,rfl⟩))
    go_round
    case rel=>exact ⟨k+1,by omega,by go_num,all_step HA.out (.inl hl)⟩
    case measure=>simp [intOf];omega
  ·obtain rfl:k=s.size:=by omega
   go_wp2
   go_ret
   exact ⟨ret_bool (name_yes _ _ (by omega) (by omega) (by have:=HA.out 0 (by omega);have:=HD.out;simp_all) HA.out).symm,rfl⟩
set_option maxHeartbeats 400000 in
theorem l00Word_any (s : ByteArray) (w : World) (hs : s.size ≤ 1048576) :
    Calls Tryz.prog 194 #[.string s] w fun e w' => e = .returned (.bool (nameB (bt s) s.size)) ∧ w' = w := by
  have hb := get_bt s
  by_cases h1 : s.size < 1
  · have hz : s.size = 0 := by omega
    go_enter Tryz.func194, Tryz.ntmps194
    go_wp2
    go_ret
    exact ⟨ret_bool (name_no_len _ _ (by omega)).symm, rfl⟩
  by_cases h40 : 40 < s.size
  · go_enter Tryz.func194, Tryz.ntmps194
    go_wp2
    go_ret
    exact ⟨ret_bool (name_no_len _ _ (by omega)).symm, rfl⟩
  cases hd : letB (bt s 0)
  · go_enter Tryz.func194, Tryz.ntmps194
    go_wp2_with (go_at_call 206; refine (l00Letter_any _ _).mono ?_; rintro e w' ⟨rfl, rfl⟩)
    go_ret
    exact ⟨ret_bool (name_no_let _ _ hd).symm, rfl⟩
  have b1 : decide ((s.size : Int) < 1) = false := by simp; omega
  have b2 : decide (40 < (s.size : Int)) = false := by simp; omega
  go_enter Tryz.func194, Tryz.ntmps194
  go_wp2_with (go_at_call 206; refine (l00Letter_any _ _).mono ?_; rintro e w' ⟨rfl, rfl⟩)
  go_loop [3] (fun i => ∃ k : Nat, 1 ≤ k ∧ k ≤ s.size ∧ i = .int .i64 k ∧ ∀ j, j < k → letB (bt s j) = true ∨ digB (bt s j) = true) (fun i => s.size - (intOf i).toNat)
  case atStart => exact ⟨1, Nat.le_refl _, by omega, rfl, fun j hj => by obtain rfl : j = 0 := by omega
                                                                         exact .inl hd⟩
  case round =>
    obtain ⟨k, hk1, hk, rfl, hall⟩ := hrel
    have HA : Hid (∀ j, j < k → letB (bt s j) = true ∨ digB (bt s j) = true) := hall
    clear hall
    have HD : Hid (letB (bt s 0) = true) := hd
    clear hd
    by_cases hlt : k < s.size
    · cases hl : letB (bt s k)
      · cases hg : digB (bt s k)
        · go_wp2_with (first | (go_at_call 206; refine (l00Letter_any _ _).mono ?_; rintro e w' ⟨rfl, rfl⟩) | (go_at_call 207; refine (l00Digit_any _ _).mono ?_; rintro e w' ⟨rfl, rfl⟩))
          go_ret
          exact ⟨ret_bool (name_no_at _ _ k hlt hl hg).symm, rfl⟩
        · go_wp2_with (first | (go_at_call 206; refine (l00Letter_any _ _).mono ?_; rintro e w' ⟨rfl, rfl⟩) | (go_at_call 207; refine (l00Digit_any _ _).mono ?_; rintro e w' ⟨rfl, rfl⟩))
          go_round
          case rel => exact ⟨k + 1, by omega, by omega, by go_num, all_step HA.out (.inr hg)⟩
          case measure => simp [intOf]; omega
      · go_wp2_with (first | (go_at_call 206; refine (l00Letter_any _ _).mono ?_; rintro e w' ⟨rfl, rfl⟩) | (go_at_call 207; refine (l00Digit_any _ _).mono ?_; rintro e w' ⟨rfl, rfl⟩))
        go_round
        case rel => exact ⟨k + 1, by omega, by omega, by go_num, all_step HA.out (.inl hl)⟩
        case measure => simp [intOf]; omega
    · obtain rfl : k = s.size := by omega
      go_wp2
      go_ret
      exact ⟨ret_bool (name_yes _ _ (by omega) (by omega) HD.out HA.out).symm, rfl⟩
theorem specNameOK_any (s:ByteArray) (w:World) (hs:s.size≤1048576) :
  Calls Tryz.prog 157 #[.string s] w fun e w'=>e=.returned (.bool (nameB (bt s) s.size))∧w'=w:=by
 go_enter Tryz.func157,Tryz.ntmps157
 go_wp2_with (go_at_call 194;refine (l00Word_any _ _ hs).mono ?_;rintro e w' ⟨rfl,rfl⟩)
 go_ret
 exact ⟨rfl,rfl⟩
end Go.Proofs.YtbeehlhcckndcaaGreat
