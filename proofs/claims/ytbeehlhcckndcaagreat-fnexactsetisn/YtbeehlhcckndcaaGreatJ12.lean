/- Flows and lists of them in the laws: measured, copied, compared. Connections and segments in the laws: copied, measured, compared. Lists of connections in the laws: measured, copied, compared. Append and slices.Clone of places, rules, roles, flows and connections. Boxes: stores of one cell. Nothing of the program is used. Gateways in the laws: measured, copied, compared. Regions by resources: the kinds of resources. -/
import Derived.Test.YtbeehlhcckndcaaGreatJ0
import Derived.Test.YtbeehlhcckndcaaGreatJ1
import Derived.Test.YtbeehlhcckndcaaGreatJ4
import Derived.Test.YtbeehlhcckndcaaGreatJ11
import Derived.Test.YtbeehlhcckndcaaGreatJ3
namespace Go.Proofs.YtbeehlhcckndcaaGreat
open Go.RowKit Go.PlainAid Go.Proofs.YtbeehlhcckndcaaGreat.Bt Go.Sort
set_option linter.unusedVariables false
set_option maxRecDepth 20000
set_option maxHeartbeats 2000000 in
theorem toFlow_any (pr:Int) (mc:ByteArray) (si sp di dp st un ow:Int) (w:World) :
  Calls Tryz.prog 118 #[.agg #[.int .i64 pr,.string mc,.int .i64 si,.int .i64 sp,.int .i64 di,.int .i64 dp,.int .i64 st,.int .i64 un,.int .i64 ow]] w fun e w'=>e=.returned (.agg #[.int .i64 pr,.string mc,.int .i64 si,.int .i64 sp,.int .i64 di,.int .i64 dp,.int .i64 st,.int .i64 un,.int .i64 ow])∧Grw w w':=by
 go_enter Tryz.func118,Tryz.ntmps118
 go_wp2
 (try simp only [Exit.inBlock,Exit.then])
 refine bodyPost_ret (v:=.agg #[.int .i64 pr,.string mc,.int .i64 si,.int .i64 sp,.int .i64 di,.int .i64 dp,.int .i64 st,.int .i64 un,.int .i64 ow]) (by simp [results,Tryz.results118,go_sem];try rfl) rfl ?_
 exact ⟨rfl,((((Grw.refl _).alloc _).alloc _).alloc _)⟩
set_option maxHeartbeats 1000000 in
theorem eqFlow_any (pr:Int) (mc:ByteArray) (si sp di dp st un ow:Int) (w:World) :
  Calls Tryz.prog 97 #[.agg #[.int .i64 pr,.string mc,.int .i64 si,.int .i64 sp,.int .i64 di,.int .i64 dp,.int .i64 st,.int .i64 un,.int .i64 ow],.agg #[.int .i64 pr,.string mc,.int .i64 si,.int .i64 sp,.int .i64 di,.int .i64 dp,.int .i64 st,.int .i64 un,.int .i64 ow]] w fun e w'=>e=.returned (.bool true)∧Grw w w':=by
 have h0:(pr != pr)=false:=by simp
 have h1:(mc.toList == mc.toList)=true:=by simp
 have h2:(si != si)=false:=by simp
 have h3:(sp != sp)=false:=by simp
 have h4:(di != di)=false:=by simp
 have h5:(dp != dp)=false:=by simp
 have h6:(st != st)=false:=by simp
 have h7:(un != un)=false:=by simp
 have h8:(ow != ow)=false:=by simp
 go_enter Tryz.func97,Tryz.ntmps97
 go_wp2
 go_ret
 exact ⟨rfl,((Grw.refl _).alloc _).alloc _⟩
theorem infoFlow:(Tryz.prog.info? 159).map (fun i=>(i.zero,i.size,i.bytes))=some (some (.agg #[.int .i64 0,.string ⟨#[]⟩,.int .i64 0,.int .i64 0,.int .i64 0,.int .i64 0,.int .i64 0,.int .i64 0,.int .i64 0]),9,80):=by kernel_rfl
theorem zFlow:(#[.int .i64 0,.string ⟨#[]⟩,.int .i64 0,.int .i64 0,.int .i64 0,.int .i64 0,.int .i64 0,.int .i64 0,.int .i64 0]:Array Value).toList=wvG default:=rfl
set_option maxHeartbeats 2000000 in
theorem toFlowS_any (a:Option Addr) (len cap:Nat) (xs:List FlowV) (w:World) (h:Rw FlR 9 w a xs) (hl:xs.length=len) (hc:len≤1048576) :
  Calls Tryz.prog 64 #[.slice a len cap] w fun e w'=>e=.returned (.slice (some ⟨w.heap.size,0,none⟩) len len)∧OwnS wvG 9 159 w' w.heap.size (.slice (some ⟨w.heap.size,0,none⟩) len len) xs∧(∀ x,x ∈ xs→FlRok x)∧Below w.heap.size w w':=by
 have RW:Hid (Rw FlR 9 w a xs):=h
 have HK:Hid (∀ x,x ∈ xs→FlRok x):=by
  intro x hx
  obtain ⟨i,hi⟩:=List.getElem?_of_mem hx
  obtain ⟨b,off,vs,_,_,_,h2,_⟩:=h.at FR.kp (Below.refl _ _) hi
  exact h2.2
 clear h
 obtain ⟨i0,hi,hz0,hz1,hz2⟩:=info_parts infoFlow
 have hmk:=run_make (P:=Tryz.prog) w 47 159 i0 (.agg #[.int .i64 0,.string ⟨#[]⟩,.int .i64 0,.int .i64 0,.int .i64 0,.int .i64 0,.int .i64 0,.int .i64 0,.int .i64 0]) Tryz.underlying47 hi hz0 .i64 .i64 len len (by omega) (Int.le_refl _) (by rw [hz2];omega) (by omega)
 rw [hz1,Int.toNat_natCast] at hmk
 have HM:Hid (OwnS wvG 9 159 (w.alloc (.cells (madeCells #[.int .i64 0,.string ⟨#[]⟩,.int .i64 0,.int .i64 0,.int .i64 0,.int .i64 0,.int .i64 0,.int .i64 0,.int .i64 0] (len * 9)) 159)) w.heap.size (.slice (some ⟨w.heap.size,0,none⟩) len len) (List.replicate len default)∧Below w.heap.size w (w.alloc (.cells (madeCells #[.int .i64 0,.string ⟨#[]⟩,.int .i64 0,.int .i64 0,.int .i64 0,.int .i64 0,.int .i64 0,.int .i64 0,.int .i64 0] (len * 9)) 159))):=⟨OwnS.made w _ _ len default _ zFlow rfl (by omega) (Nat.le_refl _) (by unfold maxLen;omega),(Below.refl _ _).alloc (Nat.le_refl _) _⟩
 have hmk2:(Instr.makeSlice 47 (.int .i64 (len:Int)) (.int .i64 (len:Int))).run Tryz.prog w=.ok (.slice (some ⟨w.heap.size,0,none⟩) len len) (w.alloc (.cells (madeCells #[.int .i64 0,.string ⟨#[]⟩,.int .i64 0,.int .i64 0,.int .i64 0,.int .i64 0,.int .i64 0,.int .i64 0,.int .i64 0] (len * 9)) 159)):=hmk
 clear hmk hi hz0 hz1 hz2
 obtain ⟨W,hW⟩:∃ W,W=w.alloc (.cells (madeCells #[.int .i64 0,.string ⟨#[]⟩,.int .i64 0,.int .i64 0,.int .i64 0,.int .i64 0,.int .i64 0,.int .i64 0,.int .i64 0] (len * 9)) 159):=⟨_,rfl⟩
 rw [← hW] at HM hmk2
 clear hW
 go_enter Tryz.func64,Tryz.ntmps64
 go_wp2
 go_loopw [4] (fun i wr=>∃ (k:Nat) (L:List FlowV),k≤len∧i=.int .i64 k∧Hid (OwnS wvG 9 159 wr w.heap.size (.slice (some ⟨w.heap.size,0,none⟩) len len) L∧L.length=len∧L.take k=xs.take k∧Below w.heap.size w wr)) (fun i _=>len - (intOf i).toNat)
 case atStart=>exact ⟨0,_,Nat.zero_le _,rfl,HM.out.1,List.length_replicate ..,rfl,HM.out.2⟩
 case round =>
  obtain ⟨k,L,hk,rfl,X⟩:=hrel
  by_cases hlt:k<len
  ·obtain ⟨x,hx⟩:=at_of hl hlt
   obtain ⟨b,off,vs,rfl,hb,hvl,hR,hc⟩:=RW.out.at FR.kp X.out.2.2.2 hx
   have TS:Hid ((L.set k x).take (k+1)=xs.take (k+1)):=takeS_set (by rw [X.out.2.1,hl]) hx X.out.2.2.1
   obtain ⟨pr,mc,si,sp,di,dp,st,un,ow⟩:=x
   obtain ⟨rfl,hok⟩:=hR
   clear hok
   have q0:wr.cell? ⟨b,off+k * 9,none⟩=some (.int .i64 pr):=hc 0 _ rfl
   have q1:wr.cell? ⟨b,off+k * 9+1,none⟩=some (.string mc):=hc 1 _ rfl
   have q2:wr.cell? ⟨b,off+k * 9+2,none⟩=some (.int .i64 si):=hc 2 _ rfl
   have q3:wr.cell? ⟨b,off+k * 9+3,none⟩=some (.int .i64 sp):=hc 3 _ rfl
   have q4:wr.cell? ⟨b,off+k * 9+4,none⟩=some (.int .i64 di):=hc 4 _ rfl
   have q5:wr.cell? ⟨b,off+k * 9+5,none⟩=some (.int .i64 dp):=hc 5 _ rfl
   have q6:wr.cell? ⟨b,off+k * 9+6,none⟩=some (.int .i64 st):=hc 6 _ rfl
   have q7:wr.cell? ⟨b,off+k * 9+7,none⟩=some (.int .i64 un):=hc 7 _ rfl
   have q8:wr.cell? ⟨b,off+k * 9+8,none⟩=some (.int .i64 ow):=hc 8 _ rfl
   have HT:Hid (∀ w,Calls Tryz.prog 118 #[.agg #[.int .i64 pr,.string mc,.int .i64 si,.int .i64 sp,.int .i64 di,.int .i64 dp,.int .i64 st,.int .i64 un,.int .i64 ow]] w fun e w'=>e=.returned (.agg #[.int .i64 pr,.string mc,.int .i64 si,.int .i64 sp,.int .i64 di,.int .i64 dp,.int .i64 st,.int .i64 un,.int .i64 ow])∧Grw w w'):=fun w=>toFlow_any pr mc si sp di dp st un ow w
   have hltz:(k:Int)<(len:Int):=by omega
   clear hc
   go_wp2_with fail
   refine (HT.out _).mono ?_
   rintro e w1 ⟨rfl,g1⟩
   have b1:=g1.below
   have o1:=X.out.1.now b1
   obtain ⟨y,hy⟩:=at_of (k:=k) X.out.2.1 hlt
   obtain ⟨c0,z0⟩:=o1.cell wvG_len (j:=0) hy rfl
   obtain ⟨c1,z1⟩:=o1.cell wvG_len (j:=1) hy rfl
   obtain ⟨c2,z2⟩:=o1.cell wvG_len (j:=2) hy rfl
   obtain ⟨c3,z3⟩:=o1.cell wvG_len (j:=3) hy rfl
   obtain ⟨c4,z4⟩:=o1.cell wvG_len (j:=4) hy rfl
   obtain ⟨c5,z5⟩:=o1.cell wvG_len (j:=5) hy rfl
   obtain ⟨c6,z6⟩:=o1.cell wvG_len (j:=6) hy rfl
   obtain ⟨c7,z7⟩:=o1.cell wvG_len (j:=7) hy rfl
   obtain ⟨c8,z8⟩:=o1.cell wvG_len (j:=8) hy rfl
   replace c0:w1.cell? ⟨w.heap.size,k * 9,none⟩=some (.int .i64 y.pr):=c0
   replace z0:w1.frozen? ⟨w.heap.size,k * 9,none⟩=false:=z0
   have Y0:∀ W1,W1=((((((((w1.setCell ⟨w.heap.size,k * 9,none⟩ (.int .i64 pr)).setCell ⟨w.heap.size,k * 9+1,none⟩ (.string mc)).setCell ⟨w.heap.size,k * 9+2,none⟩ (.int .i64 si)).setCell ⟨w.heap.size,k * 9+3,none⟩ (.int .i64 sp)).setCell ⟨w.heap.size,k * 9+4,none⟩ (.int .i64 di)).setCell ⟨w.heap.size,k * 9+5,none⟩ (.int .i64 dp)).setCell ⟨w.heap.size,k * 9+6,none⟩ (.int .i64 st)).setCell ⟨w.heap.size,k * 9+7,none⟩ (.int .i64 un)).setCell ⟨w.heap.size,k * 9+8,none⟩ (.int .i64 ow)→OwnS wvG 9 159 W1 w.heap.size (.slice (some ⟨w.heap.size,0,none⟩) len len) (L.set k ⟨pr,mc,si,sp,di,dp,st,un,ow⟩)∧(L.set k ⟨pr,mc,si,sp,di,dp,st,un,ow⟩).length=len∧(L.set k ⟨pr,mc,si,sp,di,dp,st,un,ow⟩).take (k+1)=xs.take (k+1)∧Below w.heap.size w W1:=by
    intro W1 hW1
    have h2:=o1.store wvG_len hlt ⟨pr,mc,si,sp,di,dp,st,un,ow⟩
    have e3:W1=wsets w1 w.heap.size (k * 9) (wvG ⟨pr,mc,si,sp,di,dp,st,un,ow⟩):=hW1
    rw [← e3] at h2
    exact ⟨h2.1,by rw [List.length_set];exact X.out.2.1,TS.out,(X.out.2.2.2.trans (b1.mono X.out.2.2.2.size)).trans (below_row h2.2 (Nat.le_refl _) (Nat.le_trans X.out.2.2.2.size b1.size))⟩
   have Y:Hid (OwnS wvG 9 159 (((((((((w1.setCell ⟨w.heap.size,k * 9,none⟩ (.int .i64 pr)).setCell ⟨w.heap.size,k * 9+1,none⟩ (.string mc)).setCell ⟨w.heap.size,k * 9+2,none⟩ (.int .i64 si)).setCell ⟨w.heap.size,k * 9+3,none⟩ (.int .i64 sp)).setCell ⟨w.heap.size,k * 9+4,none⟩ (.int .i64 di)).setCell ⟨w.heap.size,k * 9+5,none⟩ (.int .i64 dp)).setCell ⟨w.heap.size,k * 9+6,none⟩ (.int .i64 st)).setCell ⟨w.heap.size,k * 9+7,none⟩ (.int .i64 un)).setCell ⟨w.heap.size,k * 9+8,none⟩ (.int .i64 ow)) w.heap.size (.slice (some ⟨w.heap.size,0,none⟩) len len) (L.set k ⟨pr,mc,si,sp,di,dp,st,un,ow⟩)∧(L.set k ⟨pr,mc,si,sp,di,dp,st,un,ow⟩).length=len∧(L.set k ⟨pr,mc,si,sp,di,dp,st,un,ow⟩).take (k+1)=xs.take (k+1)∧Below w.heap.size w (((((((((w1.setCell ⟨w.heap.size,k * 9,none⟩ (.int .i64 pr)).setCell ⟨w.heap.size,k * 9+1,none⟩ (.string mc)).setCell ⟨w.heap.size,k * 9+2,none⟩ (.int .i64 si)).setCell ⟨w.heap.size,k * 9+3,none⟩ (.int .i64 sp)).setCell ⟨w.heap.size,k * 9+4,none⟩ (.int .i64 di)).setCell ⟨w.heap.size,k * 9+5,none⟩ (.int .i64 dp)).setCell ⟨w.heap.size,k * 9+6,none⟩ (.int .i64 st)).setCell ⟨w.heap.size,k * 9+7,none⟩ (.int .i64 un)).setCell ⟨w.heap.size,k * 9+8,none⟩ (.int .i64 ow))):=Y0 _ rfl
   clear Y0
   clear o1 b1 g1 q0 q1 q2 q3 q4 q5 q6 q7 q8 HT X HM hmk2 hx hy TS
   go_wp2
   go_roundw
   case rel=>exact ⟨k+1,_,by omega,by go_num,Y⟩
   case measure=>simp [intOf];omega
  ·obtain rfl:k=len:=by omega
   have e1:L=xs:=by
    have:=X.out.2.2.1
    rw [List.take_of_length_le (by rw [X.out.2.1];exact Nat.le_refl _),List.take_of_length_le (by omega)] at this
    exact this
   subst e1
   go_wp2
   go_ret
   exact ⟨rfl,X.out.1,HK.out,X.out.2.2.2⟩
set_option maxHeartbeats 2000000 in
theorem eqFlowS_yes (a a':Option Addr) (len cap cap':Nat) (xs:List FlowV) (w:World) (h:Rw FlR 9 w a xs) (h':Rw FlR 9 w a' xs) (hl:xs.length=len) (hlen:len≤9223372036854775807) :
  Calls Tryz.prog 39 #[.slice a len cap,.slice a' len cap'] w fun e w'=>e=.returned (.bool true)∧Grw w w':=by
 have hne:((len:Int) != (len:Int))=false:=by simp
 have hmix:Tryz.prog.follows .mixedOrders=true:=by kernel_rfl
 have RW:Hid (Rw FlR 9 w a xs):=h
 have RW':Hid (Rw FlR 9 w a' xs):=h'
 clear h h'
 go_enter Tryz.func39,Tryz.ntmps39
 go_wp2
 go_loopw [5] (fun i wr=>∃ k:Nat,k≤len∧i=.int .i64 k∧Hid (Grw w wr)) (fun i _=>len - (intOf i).toNat)
 case atStart=>exact ⟨0,Nat.zero_le _,rfl,Grw.refl w⟩
 case round =>
  obtain ⟨k,hk,rfl,HG⟩:=hrel
  by_cases hlt:k<len
  ·obtain ⟨x,hx⟩:=at_of hl hlt
   obtain ⟨b,off,vs,rfl,hb,hvl,hR,hc⟩:=RW.out.at FR.kp HG.out.below hx
   obtain ⟨b',off',vs',rfl,hb',hvl',hR',hc'⟩:=RW'.out.at FR.kp HG.out.below hx
   obtain ⟨pr,mc,si,sp,di,dp,st,un,ow⟩:=x
   obtain ⟨rfl,-⟩:=hR
   obtain ⟨rfl,-⟩:=hR'
   have q0:∀ n os,(grow (wr.drewN n) os).cell? ⟨b,off+k * 9,none⟩=some (.int .i64 pr):=fun n os=>grown_cell hb HG.out (hc 0 _ rfl) n os
   have q1:∀ n os,(grow (wr.drewN n) os).cell? ⟨b,off+k * 9+1,none⟩=some (.string mc):=fun n os=>grown_cell hb HG.out (hc 1 _ rfl) n os
   have q2:∀ n os,(grow (wr.drewN n) os).cell? ⟨b,off+k * 9+2,none⟩=some (.int .i64 si):=fun n os=>grown_cell hb HG.out (hc 2 _ rfl) n os
   have q3:∀ n os,(grow (wr.drewN n) os).cell? ⟨b,off+k * 9+3,none⟩=some (.int .i64 sp):=fun n os=>grown_cell hb HG.out (hc 3 _ rfl) n os
   have q4:∀ n os,(grow (wr.drewN n) os).cell? ⟨b,off+k * 9+4,none⟩=some (.int .i64 di):=fun n os=>grown_cell hb HG.out (hc 4 _ rfl) n os
   have q5:∀ n os,(grow (wr.drewN n) os).cell? ⟨b,off+k * 9+5,none⟩=some (.int .i64 dp):=fun n os=>grown_cell hb HG.out (hc 5 _ rfl) n os
   have q6:∀ n os,(grow (wr.drewN n) os).cell? ⟨b,off+k * 9+6,none⟩=some (.int .i64 st):=fun n os=>grown_cell hb HG.out (hc 6 _ rfl) n os
   have q7:∀ n os,(grow (wr.drewN n) os).cell? ⟨b,off+k * 9+7,none⟩=some (.int .i64 un):=fun n os=>grown_cell hb HG.out (hc 7 _ rfl) n os
   have q8:∀ n os,(grow (wr.drewN n) os).cell? ⟨b,off+k * 9+8,none⟩=some (.int .i64 ow):=fun n os=>grown_cell hb HG.out (hc 8 _ rfl) n os
   have r0:∀ n os,(grow (wr.drewN n) os).cell? ⟨b',off'+k * 9,none⟩=some (.int .i64 pr):=fun n os=>grown_cell hb' HG.out (hc' 0 _ rfl) n os
   have r1:∀ n os,(grow (wr.drewN n) os).cell? ⟨b',off'+k * 9+1,none⟩=some (.string mc):=fun n os=>grown_cell hb' HG.out (hc' 1 _ rfl) n os
   have r2:∀ n os,(grow (wr.drewN n) os).cell? ⟨b',off'+k * 9+2,none⟩=some (.int .i64 si):=fun n os=>grown_cell hb' HG.out (hc' 2 _ rfl) n os
   have r3:∀ n os,(grow (wr.drewN n) os).cell? ⟨b',off'+k * 9+3,none⟩=some (.int .i64 sp):=fun n os=>grown_cell hb' HG.out (hc' 3 _ rfl) n os
   have r4:∀ n os,(grow (wr.drewN n) os).cell? ⟨b',off'+k * 9+4,none⟩=some (.int .i64 di):=fun n os=>grown_cell hb' HG.out (hc' 4 _ rfl) n os
   have r5:∀ n os,(grow (wr.drewN n) os).cell? ⟨b',off'+k * 9+5,none⟩=some (.int .i64 dp):=fun n os=>grown_cell hb' HG.out (hc' 5 _ rfl) n os
   have r6:∀ n os,(grow (wr.drewN n) os).cell? ⟨b',off'+k * 9+6,none⟩=some (.int .i64 st):=fun n os=>grown_cell hb' HG.out (hc' 6 _ rfl) n os
   have r7:∀ n os,(grow (wr.drewN n) os).cell? ⟨b',off'+k * 9+7,none⟩=some (.int .i64 un):=fun n os=>grown_cell hb' HG.out (hc' 7 _ rfl) n os
   have r8:∀ n os,(grow (wr.drewN n) os).cell? ⟨b',off'+k * 9+8,none⟩=some (.int .i64 ow):=fun n os=>grown_cell hb' HG.out (hc' 8 _ rfl) n os
   have HE:Hid (∀ w,Calls Tryz.prog 97 #[.agg #[.int .i64 pr,.string mc,.int .i64 si,.int .i64 sp,.int .i64 di,.int .i64 dp,.int .i64 st,.int .i64 un,.int .i64 ow],.agg #[.int .i64 pr,.string mc,.int .i64 si,.int .i64 sp,.int .i64 di,.int .i64 dp,.int .i64 st,.int .i64 un,.int .i64 ow]] w fun e w'=>e=.returned (.bool true)∧Grw w w'):=fun w=>eqFlow_any pr mc si sp di dp st un ow w
   have hltz:(k:Int)<(len:Int):=by omega
   clear hc hc'
   go_wp2_with fail
   refine wp_region_quiet_grown (by assumption) (by kernel_rfl) ?_
   repeat (go_big_quiet_step (first | fail | (go_at_call 97;exact Calls.grown_of (HE.out _))))
   refine wpQuiet_nil ?_
   intro _ hw'
   obtain ⟨⟨nq,osq⟩,hw''⟩:=hw'
   subst hw''
   have HG2:Hid (Grw w (grow (wr.drewN nq) osq)):=HG.out.trans ⟨nq,osq,rfl⟩
   clear q0 q1 q2 q3 q4 q5 q6 q7 q8 r0 r1 r2 r3 r4 r5 r6 r7 r8 HG HE
   go_wp2
   go_roundw
   case rel=>exact ⟨k+1,by omega,by go_num,HG2⟩
   case measure=>simp [intOf];omega
  ·obtain rfl:k=len:=by omega
   go_wp2
   go_ret
   exact ⟨rfl,HG.out⟩
set_option maxHeartbeats 1000000 in
theorem szFlow_any (pr:Int) (mc:ByteArray) (si sp di dp st un ow:Int) (l:Int) (w:World) (hmc:mc.size≤9223372036854775807) (h0:0≤l) (h1:l≤1048576) :
  Calls Tryz.prog 113 #[.agg #[.int .i64 pr,.string mc,.int .i64 si,.int .i64 sp,.int .i64 di,.int .i64 dp,.int .i64 st,.int .i64 un,.int .i64 ow],.int .i64 l] w fun e w'=>∃ r:Int,e=.returned (.int .i64 r)∧(0≤r→r≤l∧(mc.size:Int)≤l)∧-1≤r∧r≤1048576∧Grw w w':=by
 by_cases hx:(mc.size:Int)≤l
 ·go_enter Tryz.func113,Tryz.ntmps113
  go_wp2
  go_ret
  exact ⟨_,rfl,fun _=>⟨by omega,by omega⟩,by omega,by omega,(Grw.refl _).alloc _⟩
 ·go_enter Tryz.func113,Tryz.ntmps113
  go_wp2
  go_ret
  exact ⟨-1,rfl,fun h=>absurd h (by omega),by omega,by omega,(Grw.refl _).alloc _⟩
set_option maxHeartbeats 2000000 in
theorem szFlowS_any (a:Option Addr) (len cap:Nat) (xs:List FlowV) (l:Int) (w:World) (h:Rw FlR 9 w a xs) (hl:xs.length=len) (hlm:len≤9223372036854775807) (h0:0≤l) (h1:l≤1048576) :
  Calls Tryz.prog 60 #[.slice a len cap,.int .i64 l] w fun e w'=>∃ r:Int,e=.returned (.int .i64 r)∧(0≤r→(len:Int)≤l∧r≤l∧∀ x,x ∈ xs→(x.mc.size:Int)≤1048576)∧-1≤r∧r≤1048576∧Grw w w':=by
 have RW:Hid (Rw FlR 9 w a xs):=h
 clear h
 by_cases hle:(len:Int)≤l
 rotate_left
 ·go_enter Tryz.func60,Tryz.ntmps60
  go_wp2
  go_ret
  exact ⟨-1,rfl,fun h=>absurd h (by omega),by omega,by omega,Grw.refl _⟩
 go_enter Tryz.func60,Tryz.ntmps60
 go_wp2
 go_loopw [1,5] (fun p x wr=>∃ (k:Nat) (r:Int),k≤len∧x=.int .i64 k∧p=.int .i64 r∧0≤r∧r≤l∧Hid (∀ x,x ∈ xs.take k→(x.mc.size:Int)≤1048576)∧Hid (Grw w wr)) (fun _ x _=>len - (intOf x).toNat)
 case atStart=>exact ⟨0,l - len,Nat.zero_le _,rfl,rfl,by omega,by omega,(fun x hx=>by simp at hx),Grw.refl _⟩
 case round =>
  obtain ⟨k,r,hk,rfl,rfl,hr0,hr1,HR,HG⟩:=hrel
  by_cases hlt:k<len
  ·obtain ⟨x,hx⟩:=at_of hl hlt
   obtain ⟨b,off,vs,rfl,hb,hvl,hR,hc⟩:=RW.out.at FR.kp HG.out.below hx
   have HS:Hid (xs.take (k+1)=xs.take k ++ [x]):=takeS_next hx
   obtain ⟨pr,mc,si,sp,di,dp,st,un,ow⟩:=x
   obtain ⟨rfl,hok⟩:=hR
   have q0:wr.cell? ⟨b,off+k * 9,none⟩=some (.int .i64 pr):=hc 0 _ rfl
   have q1:wr.cell? ⟨b,off+k * 9+1,none⟩=some (.string mc):=hc 1 _ rfl
   have q2:wr.cell? ⟨b,off+k * 9+2,none⟩=some (.int .i64 si):=hc 2 _ rfl
   have q3:wr.cell? ⟨b,off+k * 9+3,none⟩=some (.int .i64 sp):=hc 3 _ rfl
   have q4:wr.cell? ⟨b,off+k * 9+4,none⟩=some (.int .i64 di):=hc 4 _ rfl
   have q5:wr.cell? ⟨b,off+k * 9+5,none⟩=some (.int .i64 dp):=hc 5 _ rfl
   have q6:wr.cell? ⟨b,off+k * 9+6,none⟩=some (.int .i64 st):=hc 6 _ rfl
   have q7:wr.cell? ⟨b,off+k * 9+7,none⟩=some (.int .i64 un):=hc 7 _ rfl
   have q8:wr.cell? ⟨b,off+k * 9+8,none⟩=some (.int .i64 ow):=hc 8 _ rfl
   have HN:Hid (∀ w,Calls Tryz.prog 113 #[.agg #[.int .i64 pr,.string mc,.int .i64 si,.int .i64 sp,.int .i64 di,.int .i64 dp,.int .i64 st,.int .i64 un,.int .i64 ow],.int .i64 r] w fun e w'=>∃ r':Int,e=.returned (.int .i64 r')∧(0≤r'→r'≤r∧(mc.size:Int)≤r)∧-1≤r'∧r'≤1048576∧Grw w w'):=fun w=>by
    unfold FlRok maxLen at hok;dsimp only at hok
    exact szFlow_any pr mc si sp di dp st un ow r w (by omega) hr0 (by omega)
   have hltz:(k:Int)<(len:Int):=by omega
   clear hc hvl hx hok
   go_wp2_with fail
   refine (HN.out _).mono ?_
   rintro e w1 ⟨r',rfl,hr',hr2,hr3,g1⟩
   have HG1:Hid (Grw w w1):=HG.out.trans g1
   clear q0 q1 q2 q3 q4 q5 q6 q7 q8 HN g1 HG
   by_cases hneg:r'<0
   ·go_wp2
    go_ret
    exact ⟨-1,rfl,fun h=>absurd h (by omega),by omega,by omega,HG1.out⟩
   ·have h2:=hr' (by omega)
    have HR':Hid (∀ x,x ∈ xs.take (k+1)→(x.mc.size:Int)≤1048576):=by
     intro x hx
     rw [HS.out] at hx
     rcases List.mem_append.1 hx with h | h
     ·exact HR.out x h
     ·simp at h
      subst h
      show (mc.size:Int)≤1048576
      omega
    have h3:r'≤l:=by omega
    clear HR HS hr' h2
    go_wp2
    go_roundw
    case rel=>exact ⟨k+1,r',by omega,by go_num,rfl,by omega,h3,HR',HG1⟩
    case measure=>simp [intOf];omega
  ·obtain rfl:k=len:=by omega
   have hfin:Hid (∀ x,x ∈ xs→(x.mc.size:Int)≤1048576):=by
    have e1:=HR.out
    rw [List.take_of_length_le (by omega)] at e1
    exact e1
   go_wp2
   go_ret
   exact ⟨r,rfl,fun _=>⟨by omega,by omega,hfin.out⟩,by omega,by omega,HG.out⟩
set_option maxHeartbeats 2000000 in
theorem toConn_any (mc:ByteArray) (ip po di st un nx wa:Int) (inn out:ByteArray) (fin:Bool) (w:World) :
  Calls Tryz.prog 119 #[.agg #[.string mc,.int .i64 ip,.int .i64 po,.int .i64 di,.int .i64 st,.int .i64 un,.int .i64 nx,.int .i64 wa,.string inn,.string out,.bool fin]] w fun e w'=>e=.returned (.agg #[.string mc,.int .i64 ip,.int .i64 po,.int .i64 di,.int .i64 st,.int .i64 un,.int .i64 nx,.int .i64 wa,.string inn,.string out,.bool fin])∧Grw w w':=by
 go_enter Tryz.func119,Tryz.ntmps119
 go_wp2
 (try simp only [Exit.inBlock,Exit.then])
 refine bodyPost_ret (v:=.agg #[.string mc,.int .i64 ip,.int .i64 po,.int .i64 di,.int .i64 st,.int .i64 un,.int .i64 nx,.int .i64 wa,.string inn,.string out,.bool fin]) (by simp [results,Tryz.results119,go_sem];try rfl) rfl ?_
 exact ⟨rfl,((((Grw.refl _).alloc _).alloc _).alloc _)⟩
set_option maxHeartbeats 1000000 in
theorem eqConn_any (mc:ByteArray) (ip po di st un nx wa:Int) (inn out:ByteArray) (fin:Bool) (w:World) :
  Calls Tryz.prog 98 #[.agg #[.string mc,.int .i64 ip,.int .i64 po,.int .i64 di,.int .i64 st,.int .i64 un,.int .i64 nx,.int .i64 wa,.string inn,.string out,.bool fin],.agg #[.string mc,.int .i64 ip,.int .i64 po,.int .i64 di,.int .i64 st,.int .i64 un,.int .i64 nx,.int .i64 wa,.string inn,.string out,.bool fin]] w fun e w'=>e=.returned (.bool true)∧Grw w w':=by
 have h0:(mc.toList == mc.toList)=true:=by simp
 have h1:(ip != ip)=false:=by simp
 have h2:(po != po)=false:=by simp
 have h3:(di != di)=false:=by simp
 have h4:(st != st)=false:=by simp
 have h5:(un != un)=false:=by simp
 have h6:(nx != nx)=false:=by simp
 have h7:(wa != wa)=false:=by simp
 have h8:(inn.toList == inn.toList)=true:=by simp
 have h9:(out.toList == out.toList)=true:=by simp
 have h10:(fin != fin)=false:=by simp
 go_enter Tryz.func98,Tryz.ntmps98
 go_wp2
 go_ret
 exact ⟨rfl,((Grw.refl _).alloc _).alloc _⟩
set_option maxHeartbeats 1000000 in
theorem szConn_any (mc:ByteArray) (ip po di st un nx wa:Int) (inn out:ByteArray) (fin:Bool) (l:Int) (w:World) (hmc:mc.size≤9223372036854775807) (hinn:inn.size≤9223372036854775807) (hout:out.size≤9223372036854775807) (h0:0≤l) (h1:l≤1048576) :
  Calls Tryz.prog 114 #[.agg #[.string mc,.int .i64 ip,.int .i64 po,.int .i64 di,.int .i64 st,.int .i64 un,.int .i64 nx,.int .i64 wa,.string inn,.string out,.bool fin],.int .i64 l] w fun e w'=>∃ r:Int,e=.returned (.int .i64 r)∧(0≤r→r≤l∧(mc.size:Int)≤l∧(inn.size:Int)≤l∧(out.size:Int)≤l)∧-1≤r∧r≤1048576∧Grw w w':=by
 by_cases hx0:l - (mc.size:Int)<0
 ·go_enter Tryz.func114,Tryz.ntmps114
  go_wp2
  go_ret
  exact ⟨-1,rfl,fun h=>absurd h (by omega),by omega,by omega,(Grw.refl _).alloc _⟩
 by_cases hx1:l - (mc.size:Int) - (inn.size:Int)<0
 ·go_enter Tryz.func114,Tryz.ntmps114
  go_wp2
  go_ret
  exact ⟨-1,rfl,fun h=>absurd h (by omega),by omega,by omega,(Grw.refl _).alloc _⟩
 by_cases hx2:l - (mc.size:Int) - (inn.size:Int) - (out.size:Int)<0
 ·go_enter Tryz.func114,Tryz.ntmps114
  go_wp2
  go_ret
  exact ⟨-1,rfl,fun h=>absurd h (by omega),by omega,by omega,(Grw.refl _).alloc _⟩
 go_enter Tryz.func114,Tryz.ntmps114
 go_wp2
 go_ret
 exact ⟨_,rfl,fun _=>⟨by omega,by omega,by omega,by omega⟩,by omega,by omega,(Grw.refl _).alloc _⟩
theorem infoConn:(Tryz.prog.info? 162).map (fun i=>(i.zero,i.size,i.bytes))=some (some (.agg #[.string ⟨#[]⟩,.int .i64 0,.int .i64 0,.int .i64 0,.int .i64 0,.int .i64 0,.int .i64 0,.int .i64 0,.string ⟨#[]⟩,.string ⟨#[]⟩,.bool false]),11,112):=by kernel_rfl
theorem zConn:(#[.string ⟨#[]⟩,.int .i64 0,.int .i64 0,.int .i64 0,.int .i64 0,.int .i64 0,.int .i64 0,.int .i64 0,.string ⟨#[]⟩,.string ⟨#[]⟩,.bool false]:Array Value).toList=cnG default:=rfl
set_option maxHeartbeats 2000000 in
theorem toConnS_any (a:Option Addr) (len cap:Nat) (xs:List ConnV) (w:World) (h:Rw CnR 11 w a xs) (hl:xs.length=len) (hc:len≤1048576) :
  Calls Tryz.prog 65 #[.slice a len cap] w fun e w'=>e=.returned (.slice (some ⟨w.heap.size,0,none⟩) len len)∧OwnS cnG 11 162 w' w.heap.size (.slice (some ⟨w.heap.size,0,none⟩) len len) xs∧(∀ x,x ∈ xs→CnRok x)∧Below w.heap.size w w':=by
 have RW:Hid (Rw CnR 11 w a xs):=h
 have HK:Hid (∀ x,x ∈ xs→CnRok x):=by
  intro x hx
  obtain ⟨i,hi⟩:=List.getElem?_of_mem hx
  obtain ⟨b,off,vs,_,_,_,h2,_⟩:=h.at FR.kp (Below.refl _ _) hi
  exact h2.2
 clear h
 obtain ⟨i0,hi,hz0,hz1,hz2⟩:=info_parts infoConn
 have hmk:=run_make (P:=Tryz.prog) w 48 162 i0 (.agg #[.string ⟨#[]⟩,.int .i64 0,.int .i64 0,.int .i64 0,.int .i64 0,.int .i64 0,.int .i64 0,.int .i64 0,.string ⟨#[]⟩,.string ⟨#[]⟩,.bool false]) Tryz.underlying48 hi hz0 .i64 .i64 len len (by omega) (Int.le_refl _) (by rw [hz2];omega) (by omega)
 rw [hz1,Int.toNat_natCast] at hmk
 have HM:Hid (OwnS cnG 11 162 (w.alloc (.cells (madeCells #[.string ⟨#[]⟩,.int .i64 0,.int .i64 0,.int .i64 0,.int .i64 0,.int .i64 0,.int .i64 0,.int .i64 0,.string ⟨#[]⟩,.string ⟨#[]⟩,.bool false] (len * 11)) 162)) w.heap.size (.slice (some ⟨w.heap.size,0,none⟩) len len) (List.replicate len default)∧Below w.heap.size w (w.alloc (.cells (madeCells #[.string ⟨#[]⟩,.int .i64 0,.int .i64 0,.int .i64 0,.int .i64 0,.int .i64 0,.int .i64 0,.int .i64 0,.string ⟨#[]⟩,.string ⟨#[]⟩,.bool false] (len * 11)) 162))):=⟨OwnS.made w _ _ len default _ zConn rfl (by omega) (Nat.le_refl _) (by unfold maxLen;omega),(Below.refl _ _).alloc (Nat.le_refl _) _⟩
 have hmk2:(Instr.makeSlice 48 (.int .i64 (len:Int)) (.int .i64 (len:Int))).run Tryz.prog w=.ok (.slice (some ⟨w.heap.size,0,none⟩) len len) (w.alloc (.cells (madeCells #[.string ⟨#[]⟩,.int .i64 0,.int .i64 0,.int .i64 0,.int .i64 0,.int .i64 0,.int .i64 0,.int .i64 0,.string ⟨#[]⟩,.string ⟨#[]⟩,.bool false] (len * 11)) 162)):=hmk
 clear hmk hi hz0 hz1 hz2
 obtain ⟨W,hW⟩:∃ W,W=w.alloc (.cells (madeCells #[.string ⟨#[]⟩,.int .i64 0,.int .i64 0,.int .i64 0,.int .i64 0,.int .i64 0,.int .i64 0,.int .i64 0,.string ⟨#[]⟩,.string ⟨#[]⟩,.bool false] (len * 11)) 162):=⟨_,rfl⟩
 rw [← hW] at HM hmk2
 clear hW
 go_enter Tryz.func65,Tryz.ntmps65
 go_wp2
 go_loopw [4] (fun i wr=>∃ (k:Nat) (L:List ConnV),k≤len∧i=.int .i64 k∧Hid (OwnS cnG 11 162 wr w.heap.size (.slice (some ⟨w.heap.size,0,none⟩) len len) L∧L.length=len∧L.take k=xs.take k∧Below w.heap.size w wr)) (fun i _=>len - (intOf i).toNat)
 case atStart=>exact ⟨0,_,Nat.zero_le _,rfl,HM.out.1,List.length_replicate ..,rfl,HM.out.2⟩
 case round =>
  obtain ⟨k,L,hk,rfl,X⟩:=hrel
  by_cases hlt:k<len
  ·obtain ⟨x,hx⟩:=at_of hl hlt
   obtain ⟨b,off,vs,rfl,hb,hvl,hR,hc⟩:=RW.out.at FR.kp X.out.2.2.2 hx
   have TS:Hid ((L.set k x).take (k+1)=xs.take (k+1)):=takeS_set (by rw [X.out.2.1,hl]) hx X.out.2.2.1
   obtain ⟨mc,ip,po,di,st,un,nx,wa,inn,out,fin⟩:=x
   obtain ⟨rfl,hok⟩:=hR
   clear hok
   have q0:wr.cell? ⟨b,off+k * 11,none⟩=some (.string mc):=hc 0 _ rfl
   have q1:wr.cell? ⟨b,off+k * 11+1,none⟩=some (.int .i64 ip):=hc 1 _ rfl
   have q2:wr.cell? ⟨b,off+k * 11+2,none⟩=some (.int .i64 po):=hc 2 _ rfl
   have q3:wr.cell? ⟨b,off+k * 11+3,none⟩=some (.int .i64 di):=hc 3 _ rfl
   have q4:wr.cell? ⟨b,off+k * 11+4,none⟩=some (.int .i64 st):=hc 4 _ rfl
   have q5:wr.cell? ⟨b,off+k * 11+5,none⟩=some (.int .i64 un):=hc 5 _ rfl
   have q6:wr.cell? ⟨b,off+k * 11+6,none⟩=some (.int .i64 nx):=hc 6 _ rfl
   have q7:wr.cell? ⟨b,off+k * 11+7,none⟩=some (.int .i64 wa):=hc 7 _ rfl
   have q8:wr.cell? ⟨b,off+k * 11+8,none⟩=some (.string inn):=hc 8 _ rfl
   have q9:wr.cell? ⟨b,off+k * 11+9,none⟩=some (.string out):=hc 9 _ rfl
   have q10:wr.cell? ⟨b,off+k * 11+10,none⟩=some (.bool fin):=hc 10 _ rfl
   have HT:Hid (∀ w,Calls Tryz.prog 119 #[.agg #[.string mc,.int .i64 ip,.int .i64 po,.int .i64 di,.int .i64 st,.int .i64 un,.int .i64 nx,.int .i64 wa,.string inn,.string out,.bool fin]] w fun e w'=>e=.returned (.agg #[.string mc,.int .i64 ip,.int .i64 po,.int .i64 di,.int .i64 st,.int .i64 un,.int .i64 nx,.int .i64 wa,.string inn,.string out,.bool fin])∧Grw w w'):=fun w=>toConn_any mc ip po di st un nx wa inn out fin w
   have hltz:(k:Int)<(len:Int):=by omega
   clear hc
   go_wp2_with fail
   refine (HT.out _).mono ?_
   rintro e w1 ⟨rfl,g1⟩
   have b1:=g1.below
   have o1:=X.out.1.now b1
   obtain ⟨y,hy⟩:=at_of (k:=k) X.out.2.1 hlt
   obtain ⟨c0,z0⟩:=o1.cell cnG_len (j:=0) hy rfl
   obtain ⟨c1,z1⟩:=o1.cell cnG_len (j:=1) hy rfl
   obtain ⟨c2,z2⟩:=o1.cell cnG_len (j:=2) hy rfl
   obtain ⟨c3,z3⟩:=o1.cell cnG_len (j:=3) hy rfl
   obtain ⟨c4,z4⟩:=o1.cell cnG_len (j:=4) hy rfl
   obtain ⟨c5,z5⟩:=o1.cell cnG_len (j:=5) hy rfl
   obtain ⟨c6,z6⟩:=o1.cell cnG_len (j:=6) hy rfl
   obtain ⟨c7,z7⟩:=o1.cell cnG_len (j:=7) hy rfl
   obtain ⟨c8,z8⟩:=o1.cell cnG_len (j:=8) hy rfl
   obtain ⟨c9,z9⟩:=o1.cell cnG_len (j:=9) hy rfl
   obtain ⟨c10,z10⟩:=o1.cell cnG_len (j:=10) hy rfl
   replace c0:w1.cell? ⟨w.heap.size,k * 11,none⟩=some (.string y.mc):=c0
   replace z0:w1.frozen? ⟨w.heap.size,k * 11,none⟩=false:=z0
   have Y0:∀ W1,W1=((((((((((w1.setCell ⟨w.heap.size,k * 11,none⟩ (.string mc)).setCell ⟨w.heap.size,k * 11+1,none⟩ (.int .i64 ip)).setCell ⟨w.heap.size,k * 11+2,none⟩ (.int .i64 po)).setCell ⟨w.heap.size,k * 11+3,none⟩ (.int .i64 di)).setCell ⟨w.heap.size,k * 11+4,none⟩ (.int .i64 st)).setCell ⟨w.heap.size,k * 11+5,none⟩ (.int .i64 un)).setCell ⟨w.heap.size,k * 11+6,none⟩ (.int .i64 nx)).setCell ⟨w.heap.size,k * 11+7,none⟩ (.int .i64 wa)).setCell ⟨w.heap.size,k * 11+8,none⟩ (.string inn)).setCell ⟨w.heap.size,k * 11+9,none⟩ (.string out)).setCell ⟨w.heap.size,k * 11+10,none⟩ (.bool fin)→OwnS cnG 11 162 W1 w.heap.size (.slice (some ⟨w.heap.size,0,none⟩) len len) (L.set k ⟨mc,ip,po,di,st,un,nx,wa,inn,out,fin⟩)∧(L.set k ⟨mc,ip,po,di,st,un,nx,wa,inn,out,fin⟩).length=len∧(L.set k ⟨mc,ip,po,di,st,un,nx,wa,inn,out,fin⟩).take (k+1)=xs.take (k+1)∧Below w.heap.size w W1:=by
    intro W1 hW1
    have h2:=o1.store cnG_len hlt ⟨mc,ip,po,di,st,un,nx,wa,inn,out,fin⟩
    have e3:W1=wsets w1 w.heap.size (k * 11) (cnG ⟨mc,ip,po,di,st,un,nx,wa,inn,out,fin⟩):=hW1
    rw [← e3] at h2
    exact ⟨h2.1,by rw [List.length_set];exact X.out.2.1,TS.out,(X.out.2.2.2.trans (b1.mono X.out.2.2.2.size)).trans (below_row h2.2 (Nat.le_refl _) (Nat.le_trans X.out.2.2.2.size b1.size))⟩
   have Y:Hid (OwnS cnG 11 162 (((((((((((w1.setCell ⟨w.heap.size,k * 11,none⟩ (.string mc)).setCell ⟨w.heap.size,k * 11+1,none⟩ (.int .i64 ip)).setCell ⟨w.heap.size,k * 11+2,none⟩ (.int .i64 po)).setCell ⟨w.heap.size,k * 11+3,none⟩ (.int .i64 di)).setCell ⟨w.heap.size,k * 11+4,none⟩ (.int .i64 st)).setCell ⟨w.heap.size,k * 11+5,none⟩ (.int .i64 un)).setCell ⟨w.heap.size,k * 11+6,none⟩ (.int .i64 nx)).setCell ⟨w.heap.size,k * 11+7,none⟩ (.int .i64 wa)).setCell ⟨w.heap.size,k * 11+8,none⟩ (.string inn)).setCell ⟨w.heap.size,k * 11+9,none⟩ (.string out)).setCell ⟨w.heap.size,k * 11+10,none⟩ (.bool fin)) w.heap.size (.slice (some ⟨w.heap.size,0,none⟩) len len) (L.set k ⟨mc,ip,po,di,st,un,nx,wa,inn,out,fin⟩)∧(L.set k ⟨mc,ip,po,di,st,un,nx,wa,inn,out,fin⟩).length=len∧(L.set k ⟨mc,ip,po,di,st,un,nx,wa,inn,out,fin⟩).take (k+1)=xs.take (k+1)∧Below w.heap.size w (((((((((((w1.setCell ⟨w.heap.size,k * 11,none⟩ (.string mc)).setCell ⟨w.heap.size,k * 11+1,none⟩ (.int .i64 ip)).setCell ⟨w.heap.size,k * 11+2,none⟩ (.int .i64 po)).setCell ⟨w.heap.size,k * 11+3,none⟩ (.int .i64 di)).setCell ⟨w.heap.size,k * 11+4,none⟩ (.int .i64 st)).setCell ⟨w.heap.size,k * 11+5,none⟩ (.int .i64 un)).setCell ⟨w.heap.size,k * 11+6,none⟩ (.int .i64 nx)).setCell ⟨w.heap.size,k * 11+7,none⟩ (.int .i64 wa)).setCell ⟨w.heap.size,k * 11+8,none⟩ (.string inn)).setCell ⟨w.heap.size,k * 11+9,none⟩ (.string out)).setCell ⟨w.heap.size,k * 11+10,none⟩ (.bool fin))):=Y0 _ rfl
   clear Y0
   clear o1 b1 g1 q0 q1 q2 q3 q4 q5 q6 q7 q8 q9 q10 HT X HM hmk2 hx hy TS
   go_wp2
   go_roundw
   case rel=>exact ⟨k+1,_,by omega,by go_num,Y⟩
   case measure=>simp [intOf];omega
  ·obtain rfl:k=len:=by omega
   have e1:L=xs:=by
    have:=X.out.2.2.1
    rw [List.take_of_length_le (by rw [X.out.2.1];exact Nat.le_refl _),List.take_of_length_le (by omega)] at this
    exact this
   subst e1
   go_wp2
   go_ret
   exact ⟨rfl,X.out.1,HK.out,X.out.2.2.2⟩
set_option maxHeartbeats 2000000 in
theorem eqConnS_yes (a a':Option Addr) (len cap cap':Nat) (xs:List ConnV) (w:World) (h:Rw CnR 11 w a xs) (h':Rw CnR 11 w a' xs) (hl:xs.length=len) (hlen:len≤9223372036854775807) :
  Calls Tryz.prog 40 #[.slice a len cap,.slice a' len cap'] w fun e w'=>e=.returned (.bool true)∧Grw w w':=by
 have hne:((len:Int) != (len:Int))=false:=by simp
 have hmix:Tryz.prog.follows .mixedOrders=true:=by kernel_rfl
 have RW:Hid (Rw CnR 11 w a xs):=h
 have RW':Hid (Rw CnR 11 w a' xs):=h'
 clear h h'
 go_enter Tryz.func40,Tryz.ntmps40
 go_wp2
 go_loopw [5] (fun i wr=>∃ k:Nat,k≤len∧i=.int .i64 k∧Hid (Grw w wr)) (fun i _=>len - (intOf i).toNat)
 case atStart=>exact ⟨0,Nat.zero_le _,rfl,Grw.refl w⟩
 case round =>
  obtain ⟨k,hk,rfl,HG⟩:=hrel
  by_cases hlt:k<len
  ·obtain ⟨x,hx⟩:=at_of hl hlt
   obtain ⟨b,off,vs,rfl,hb,hvl,hR,hc⟩:=RW.out.at FR.kp HG.out.below hx
   obtain ⟨b',off',vs',rfl,hb',hvl',hR',hc'⟩:=RW'.out.at FR.kp HG.out.below hx
   obtain ⟨mc,ip,po,di,st,un,nx,wa,inn,out,fin⟩:=x
   obtain ⟨rfl,-⟩:=hR
   obtain ⟨rfl,-⟩:=hR'
   have q0:∀ n os,(grow (wr.drewN n) os).cell? ⟨b,off+k * 11,none⟩=some (.string mc):=fun n os=>grown_cell hb HG.out (hc 0 _ rfl) n os
   have q1:∀ n os,(grow (wr.drewN n) os).cell? ⟨b,off+k * 11+1,none⟩=some (.int .i64 ip):=fun n os=>grown_cell hb HG.out (hc 1 _ rfl) n os
   have q2:∀ n os,(grow (wr.drewN n) os).cell? ⟨b,off+k * 11+2,none⟩=some (.int .i64 po):=fun n os=>grown_cell hb HG.out (hc 2 _ rfl) n os
   have q3:∀ n os,(grow (wr.drewN n) os).cell? ⟨b,off+k * 11+3,none⟩=some (.int .i64 di):=fun n os=>grown_cell hb HG.out (hc 3 _ rfl) n os
   have q4:∀ n os,(grow (wr.drewN n) os).cell? ⟨b,off+k * 11+4,none⟩=some (.int .i64 st):=fun n os=>grown_cell hb HG.out (hc 4 _ rfl) n os
   have q5:∀ n os,(grow (wr.drewN n) os).cell? ⟨b,off+k * 11+5,none⟩=some (.int .i64 un):=fun n os=>grown_cell hb HG.out (hc 5 _ rfl) n os
   have q6:∀ n os,(grow (wr.drewN n) os).cell? ⟨b,off+k * 11+6,none⟩=some (.int .i64 nx):=fun n os=>grown_cell hb HG.out (hc 6 _ rfl) n os
   have q7:∀ n os,(grow (wr.drewN n) os).cell? ⟨b,off+k * 11+7,none⟩=some (.int .i64 wa):=fun n os=>grown_cell hb HG.out (hc 7 _ rfl) n os
   have q8:∀ n os,(grow (wr.drewN n) os).cell? ⟨b,off+k * 11+8,none⟩=some (.string inn):=fun n os=>grown_cell hb HG.out (hc 8 _ rfl) n os
   have q9:∀ n os,(grow (wr.drewN n) os).cell? ⟨b,off+k * 11+9,none⟩=some (.string out):=fun n os=>grown_cell hb HG.out (hc 9 _ rfl) n os
   have q10:∀ n os,(grow (wr.drewN n) os).cell? ⟨b,off+k * 11+10,none⟩=some (.bool fin):=fun n os=>grown_cell hb HG.out (hc 10 _ rfl) n os
   have r0:∀ n os,(grow (wr.drewN n) os).cell? ⟨b',off'+k * 11,none⟩=some (.string mc):=fun n os=>grown_cell hb' HG.out (hc' 0 _ rfl) n os
   have r1:∀ n os,(grow (wr.drewN n) os).cell? ⟨b',off'+k * 11+1,none⟩=some (.int .i64 ip):=fun n os=>grown_cell hb' HG.out (hc' 1 _ rfl) n os
   have r2:∀ n os,(grow (wr.drewN n) os).cell? ⟨b',off'+k * 11+2,none⟩=some (.int .i64 po):=fun n os=>grown_cell hb' HG.out (hc' 2 _ rfl) n os
   have r3:∀ n os,(grow (wr.drewN n) os).cell? ⟨b',off'+k * 11+3,none⟩=some (.int .i64 di):=fun n os=>grown_cell hb' HG.out (hc' 3 _ rfl) n os
   have r4:∀ n os,(grow (wr.drewN n) os).cell? ⟨b',off'+k * 11+4,none⟩=some (.int .i64 st):=fun n os=>grown_cell hb' HG.out (hc' 4 _ rfl) n os
   have r5:∀ n os,(grow (wr.drewN n) os).cell? ⟨b',off'+k * 11+5,none⟩=some (.int .i64 un):=fun n os=>grown_cell hb' HG.out (hc' 5 _ rfl) n os
   have r6:∀ n os,(grow (wr.drewN n) os).cell? ⟨b',off'+k * 11+6,none⟩=some (.int .i64 nx):=fun n os=>grown_cell hb' HG.out (hc' 6 _ rfl) n os
   have r7:∀ n os,(grow (wr.drewN n) os).cell? ⟨b',off'+k * 11+7,none⟩=some (.int .i64 wa):=fun n os=>grown_cell hb' HG.out (hc' 7 _ rfl) n os
   have r8:∀ n os,(grow (wr.drewN n) os).cell? ⟨b',off'+k * 11+8,none⟩=some (.string inn):=fun n os=>grown_cell hb' HG.out (hc' 8 _ rfl) n os
   have r9:∀ n os,(grow (wr.drewN n) os).cell? ⟨b',off'+k * 11+9,none⟩=some (.string out):=fun n os=>grown_cell hb' HG.out (hc' 9 _ rfl) n os
   have r10:∀ n os,(grow (wr.drewN n) os).cell? ⟨b',off'+k * 11+10,none⟩=some (.bool fin):=fun n os=>grown_cell hb' HG.out (hc' 10 _ rfl) n os
   have HE:Hid (∀ w,Calls Tryz.prog 98 #[.agg #[.string mc,.int .i64 ip,.int .i64 po,.int .i64 di,.int .i64 st,.int .i64 un,.int .i64 nx,.int .i64 wa,.string inn,.string out,.bool fin],.agg #[.string mc,.int .i64 ip,.int .i64 po,.int .i64 di,.int .i64 st,.int .i64 un,.int .i64 nx,.int .i64 wa,.string inn,.string out,.bool fin]] w fun e w'=>e=.returned (.bool true)∧Grw w w'):=fun w=>eqConn_any mc ip po di st un nx wa inn out fin w
   have hltz:(k:Int)<(len:Int):=by omega
   clear hc hc'
   go_wp2_with fail
   refine wp_region_quiet_grown (by assumption) (by kernel_rfl) ?_
   repeat (go_big_quiet_step (first | fail | (go_at_call 98;exact Calls.grown_of (HE.out _))))
   refine wpQuiet_nil ?_
   intro _ hw'
   obtain ⟨⟨nq,osq⟩,hw''⟩:=hw'
   subst hw''
   have HG2:Hid (Grw w (grow (wr.drewN nq) osq)):=HG.out.trans ⟨nq,osq,rfl⟩
   clear q0 q1 q2 q3 q4 q5 q6 q7 q8 q9 q10 r0 r1 r2 r3 r4 r5 r6 r7 r8 r9 r10 HG HE
   go_wp2
   go_roundw
   case rel=>exact ⟨k+1,by omega,by go_num,HG2⟩
   case measure=>simp [intOf];omega
  ·obtain rfl:k=len:=by omega
   go_wp2
   go_ret
   exact ⟨rfl,HG.out⟩
set_option maxHeartbeats 2000000 in
theorem szConnS_any (a:Option Addr) (len cap:Nat) (xs:List ConnV) (l:Int) (w:World) (h:Rw CnR 11 w a xs) (hl:xs.length=len) (hlm:len≤9223372036854775807) (h0:0≤l) (h1:l≤1048576) :
  Calls Tryz.prog 61 #[.slice a len cap,.int .i64 l] w fun e w'=>∃ r:Int,e=.returned (.int .i64 r)∧(0≤r→(len:Int)≤l∧r≤l∧∀ x,x ∈ xs→((x.mc.size:Int)≤1048576∧(x.inn.size:Int)≤1048576∧(x.out.size:Int)≤1048576))∧-1≤r∧r≤1048576∧Grw w w':=by
 have RW:Hid (Rw CnR 11 w a xs):=h
 clear h
 by_cases hle:(len:Int)≤l
 rotate_left
 ·go_enter Tryz.func61,Tryz.ntmps61
  go_wp2
  go_ret
  exact ⟨-1,rfl,fun h=>absurd h (by omega),by omega,by omega,Grw.refl _⟩
 go_enter Tryz.func61,Tryz.ntmps61
 go_wp2
 go_loopw [1,5] (fun p x wr=>∃ (k:Nat) (r:Int),k≤len∧x=.int .i64 k∧p=.int .i64 r∧0≤r∧r≤l∧Hid (∀ x,x ∈ xs.take k→((x.mc.size:Int)≤1048576∧(x.inn.size:Int)≤1048576∧(x.out.size:Int)≤1048576))∧Hid (Grw w wr)) (fun _ x _=>len - (intOf x).toNat)
 case atStart=>exact ⟨0,l - len,Nat.zero_le _,rfl,rfl,by omega,by omega,(fun x hx=>by simp at hx),Grw.refl _⟩
 case round =>
  obtain ⟨k,r,hk,rfl,rfl,hr0,hr1,HR,HG⟩:=hrel
  by_cases hlt:k<len
  ·obtain ⟨x,hx⟩:=at_of hl hlt
   obtain ⟨b,off,vs,rfl,hb,hvl,hR,hc⟩:=RW.out.at FR.kp HG.out.below hx
   have HS:Hid (xs.take (k+1)=xs.take k ++ [x]):=takeS_next hx
   obtain ⟨mc,ip,po,di,st,un,nx,wa,inn,out,fin⟩:=x
   obtain ⟨rfl,hok⟩:=hR
   have q0:wr.cell? ⟨b,off+k * 11,none⟩=some (.string mc):=hc 0 _ rfl
   have q1:wr.cell? ⟨b,off+k * 11+1,none⟩=some (.int .i64 ip):=hc 1 _ rfl
   have q2:wr.cell? ⟨b,off+k * 11+2,none⟩=some (.int .i64 po):=hc 2 _ rfl
   have q3:wr.cell? ⟨b,off+k * 11+3,none⟩=some (.int .i64 di):=hc 3 _ rfl
   have q4:wr.cell? ⟨b,off+k * 11+4,none⟩=some (.int .i64 st):=hc 4 _ rfl
   have q5:wr.cell? ⟨b,off+k * 11+5,none⟩=some (.int .i64 un):=hc 5 _ rfl
   have q6:wr.cell? ⟨b,off+k * 11+6,none⟩=some (.int .i64 nx):=hc 6 _ rfl
   have q7:wr.cell? ⟨b,off+k * 11+7,none⟩=some (.int .i64 wa):=hc 7 _ rfl
   have q8:wr.cell? ⟨b,off+k * 11+8,none⟩=some (.string inn):=hc 8 _ rfl
   have q9:wr.cell? ⟨b,off+k * 11+9,none⟩=some (.string out):=hc 9 _ rfl
   have q10:wr.cell? ⟨b,off+k * 11+10,none⟩=some (.bool fin):=hc 10 _ rfl
   have HN:Hid (∀ w,Calls Tryz.prog 114 #[.agg #[.string mc,.int .i64 ip,.int .i64 po,.int .i64 di,.int .i64 st,.int .i64 un,.int .i64 nx,.int .i64 wa,.string inn,.string out,.bool fin],.int .i64 r] w fun e w'=>∃ r':Int,e=.returned (.int .i64 r')∧(0≤r'→r'≤r∧(mc.size:Int)≤r∧(inn.size:Int)≤r∧(out.size:Int)≤r)∧-1≤r'∧r'≤1048576∧Grw w w'):=fun w=>by
    unfold CnRok maxLen at hok;dsimp only at hok
    exact szConn_any mc ip po di st un nx wa inn out fin r w (by omega) (by omega) (by omega) hr0 (by omega)
   have hltz:(k:Int)<(len:Int):=by omega
   clear hc hvl hx hok
   go_wp2_with fail
   refine (HN.out _).mono ?_
   rintro e w1 ⟨r',rfl,hr',hr2,hr3,g1⟩
   have HG1:Hid (Grw w w1):=HG.out.trans g1
   clear q0 q1 q2 q3 q4 q5 q6 q7 q8 q9 q10 HN g1 HG
   by_cases hneg:r'<0
   ·go_wp2
    go_ret
    exact ⟨-1,rfl,fun h=>absurd h (by omega),by omega,by omega,HG1.out⟩
   ·have h2:=hr' (by omega)
    have HR':Hid (∀ x,x ∈ xs.take (k+1)→((x.mc.size:Int)≤1048576∧(x.inn.size:Int)≤1048576∧(x.out.size:Int)≤1048576)):=by
     intro x hx
     rw [HS.out] at hx
     rcases List.mem_append.1 hx with h | h
     ·exact HR.out x h
     ·simp at h
      subst h
      show (mc.size:Int)≤1048576∧(inn.size:Int)≤1048576∧(out.size:Int)≤1048576
      omega
    have h3:r'≤l:=by omega
    clear HR HS hr' h2
    go_wp2
    go_roundw
    case rel=>exact ⟨k+1,r',by omega,by go_num,rfl,by omega,h3,HR',HG1⟩
    case measure=>simp [intOf];omega
  ·obtain rfl:k=len:=by omega
   have hfin:Hid (∀ x,x ∈ xs→((x.mc.size:Int)≤1048576∧(x.inn.size:Int)≤1048576∧(x.out.size:Int)≤1048576)):=by
    have e1:=HR.out
    rw [List.take_of_length_le (by omega)] at e1
    exact e1
   go_wp2
   go_ret
   exact ⟨r,rfl,fun _=>⟨by omega,by omega,hfin.out⟩,by omega,by omega,HG.out⟩
def RoXok (x:RoX):Prop:=x.r.nm.size≤maxLen
abbrev RoXR:=FR roG RoXok
theorem onePlaceC (ys:List PlaceV):∀ u ∈ flatS pv ys,u.oneCell'=true:=by
 intro u hu
 unfold flatS at hu
 rw [List.mem_flatMap] at hu
 obtain ⟨f,_,hf⟩:=hu
 simp [pv] at hf
 rcases hf with rfl | rfl | rfl | rfl <;> rfl
theorem wpl_PlaceC (w:World) {ops:Array Oper} {rest:List Oper} {o:Oper} {a:Act} {Q:Exit→Act→World→Prop} (hgd:o.guard=none) (s x:Operand)
  (ho:o.op=.call { callee:=.builtin .append,args:=#[s,x],argTypes:=#[37,37] })
  (B:Nat) (v:Value) (L ys:List PlaceV) (hs:a.eval s=v) (hown:OwnS pv 4 135 w B v L)
  (g off m c:Nat) (hm:ys.length=m) (hx:a.eval x=.slice (some ⟨g,off,none⟩) m c) (hc:∀ j u,(flatS pv ys)[j]?=some u→w.cell? ⟨g,off+j,none⟩=some u)
  (hlen:L.length+m≤2000000) (hB:B≤w.heap.size)
  (h:∀ v' w',Hid (OwnS pv 4 135 w' B v' (L ++ ys)∧Below B w w')→w.grownBy w' v.ownBlock→wpList Tryz.prog ops Q rest (a.put o.dst v') w'):wpList Tryz.prog ops Q (o :: rest) a w:=by
 obtain ⟨i0,hi,hz0,hz1,hz2⟩:=info_parts infoPlace
 refine wpList_append_own w hgd s x 37 ho B 135 i0 (.agg #[.int .i64 0,.int .i64 0,.int .i64 0,.int .i64 0]) 4 32 Tryz.underlying37 hi hz0 hz1 hz2 rfl (by decide) v L.length (flatS pv L) hs hown ⟨g,off,none⟩ m c (flatS pv ys) hx (by rw [flatS_len pv_len,hm]) ?_
  (onePlaceC ys) (by unfold maxLen;omega) (by omega) hB ?_
 ·intro j u hu
  rw [addn]
  exact hc j u hu
 ·intro v' w' h2 h3 _
  subst hm
  exact h v' w' (hown.join hB h2 h3) h3
theorem wpl_PlaceCS (w:World) {ops:Array Oper} {rest:List Oper} {o:Oper} {a:Act} {Q:Exit→Act→World→Prop} (hgd:o.guard=none) (s x:Operand)
  (ho:o.op=.call { callee:=.builtin .append,args:=#[s,x],argTypes:=#[37,37] })
  (B:Nat) (v:Value) (L ys:List PlaceV) (hs:a.eval s=v) (hown:OwnS pv 4 135 w B v L)
  (p:Option Addr) (m c:Nat) (hrw:Rw PlR 4 w p ys) (hm:ys.length=m) (hsp:∀ q,p=some q→q.spot=none) (hnil:p=none→m=0∧c=0) (hx:a.eval x=.slice p m c)
  (hlen:L.length+m≤2000000) (hB:B≤w.heap.size)
  (h:∀ v' w',Hid (OwnS pv 4 135 w' B v' (L ++ ys)∧Below B w w')→w.grownBy w' v.ownBlock→wpList Tryz.prog ops Q rest (a.put o.dst v') w'):wpList Tryz.prog ops Q (o :: rest) a w:=by
 cases p with
 | some q =>
  obtain ⟨b,off,pt⟩:=q
  obtain rfl:pt=none:=hsp _ rfl
  have h':Rw (FR pv PlRok) 4 w (some ⟨b,off,none⟩) ys:=hrw
  exact wpl_PlaceC w hgd s x ho B v L ys hs hown b off m c hm hx (flat_rw h' pv_len (by omega)) hlen hB h
 | none =>
  obtain ⟨rfl,rfl⟩:=hnil rfl
  obtain rfl:ys=[]:=List.length_eq_zero_iff.1 hm
  obtain ⟨i0,hi,hz0,hz1,hz2⟩:=info_parts infoPlace
  refine wpList_append_own_none hgd s x 37 ho B 135 i0 4 Tryz.underlying37 hi v L.length (flatS pv L) hs hown hx (h v w ?_ (grown_refl w _))
  rw [List.append_nil]
  exact ⟨hown,Below.refl _ _⟩
theorem clonePlace_some (b off len cap:Nat) (xs:List PlaceV) (w:World) (h:Rw PlR 4 w (some ⟨b,off,none⟩) xs) (hl:xs.length=len) (hm:len≤1048576) (hc:len≤cap) :
  Calls Tryz.prog 91 #[.slice (some ⟨b,off,none⟩) len cap] w fun e w'=>∃ v,e=.returned v∧OwnS pv 4 135 w' w.heap.size v xs∧Below w.heap.size w w':=by
 have h':Rw (FR pv PlRok) 4 w (some ⟨b,off,none⟩) xs:=h
 have RC:Hid (∀ j u,(flatS pv xs)[j]?=some u→w.cell? ⟨b,off+j,none⟩=some u):=flat_rw h' pv_len (by omega)
 have q22:(binOp .eql 37 (.slice (some ⟨b,off,none⟩) len cap) (.slice none 0 0)).run Tryz.prog w=.ok (.bool false) w:=Lib.run_eql_slice_nil w _ _ (some ⟨b,off,none⟩) len cap 0 0 Tryz.underlying37
 clear h h'
 go_enter Tryz.func91,Tryz.ntmps91
 go_wp2_with (at_builtin;refine wpl_PlaceC _ rfl (.tmp 5) (.tmp 6) rfl w.heap.size _ [] xs rfl (OwnS.lit w _ (Nat.le_refl _)) b off len cap hl rfl (fun j u hu=>acell (RC.out j u hu) _) (by simp;omega) (by simp) ?_;intro v' w3 Y _)
 have Y2:Hid (OwnS pv 4 135 w3 w.heap.size v' xs∧Below w.heap.size w w3):=⟨Y.out.1,((Below.refl _ _).alloc (Nat.le_refl _) _).trans Y.out.2⟩
 clear Y
 go_wp2
 go_ret
 exact ⟨_,rfl,Y2.out.1,Y2.out.2⟩
theorem clonePlace_any (a:Option Addr) (len cap:Nat) (xs:List PlaceV) (w:World) (h:Rw PlR 4 w a xs) (hl:xs.length=len) (hm:len≤1048576) (hc:len≤cap) (ha:∀ p,a=some p→p.spot=none) (hn:a=none→len=0∧cap=0) :
  Calls Tryz.prog 91 #[.slice a len cap] w fun e w'=>∃ v,e=.returned v∧OwnS pv 4 135 w' w.heap.size v xs∧Below w.heap.size w w':=by
 cases a with
 | some p =>
  obtain ⟨b,off,pt⟩:=p
  obtain rfl:pt=none:=ha _ rfl
  exact clonePlace_some b off len cap xs w h hl hm hc
 | none =>
  obtain ⟨rfl,rfl⟩:=hn rfl
  obtain rfl:xs=[]:=List.length_eq_zero_iff.1 hl
  have q22:(binOp .eql 37 (.slice none 0 0) (.slice none 0 0)).run Tryz.prog w=.ok (.bool true) w:=Lib.run_eql_slice_nil w _ _ none 0 0 0 0 Tryz.underlying37
  go_enter Tryz.func91,Tryz.ntmps91
  go_wp2
  go_ret
  exact ⟨_,rfl,OwnS.nil _ _,Below.refl _ _⟩
theorem oneRuleC (ys:List RuleV):∀ u ∈ flatS rv ys,u.oneCell'=true:=by
 intro u hu
 unfold flatS at hu
 rw [List.mem_flatMap] at hu
 obtain ⟨f,_,hf⟩:=hu
 simp [rv] at hf
 rcases hf with rfl | rfl | rfl | rfl | rfl | rfl <;> rfl
theorem wpl_RuleC (w:World) {ops:Array Oper} {rest:List Oper} {o:Oper} {a:Act} {Q:Exit→Act→World→Prop} (hgd:o.guard=none) (s x:Operand)
  (ho:o.op=.call { callee:=.builtin .append,args:=#[s,x],argTypes:=#[140,140] })
  (B:Nat) (v:Value) (L ys:List RuleV) (hs:a.eval s=v) (hown:OwnS rv 6 156 w B v L)
  (g off m c:Nat) (hm:ys.length=m) (hx:a.eval x=.slice (some ⟨g,off,none⟩) m c) (hc:∀ j u,(flatS rv ys)[j]?=some u→w.cell? ⟨g,off+j,none⟩=some u)
  (hlen:L.length+m≤2000000) (hB:B≤w.heap.size)
  (h:∀ v' w',Hid (OwnS rv 6 156 w' B v' (L ++ ys)∧Below B w w')→w.grownBy w' v.ownBlock→wpList Tryz.prog ops Q rest (a.put o.dst v') w'):wpList Tryz.prog ops Q (o :: rest) a w:=by
 obtain ⟨i0,hi,hz0,hz1,hz2⟩:=info_parts infoRule
 refine wpList_append_own w hgd s x 140 ho B 156 i0 (.agg #[.int .i64 0,.int .i64 0,.int .i64 0,.int .i64 0,.int .i64 0,.bool false]) 6 48 Tryz.underlying140 hi hz0 hz1 hz2 rfl (by decide) v L.length (flatS rv L) hs hown ⟨g,off,none⟩ m c (flatS rv ys) hx (by rw [flatS_len rv_len,hm]) ?_
  (oneRuleC ys) (by unfold maxLen;omega) (by omega) hB ?_
 ·intro j u hu
  rw [addn]
  exact hc j u hu
 ·intro v' w' h2 h3 _
  subst hm
  exact h v' w' (hown.join hB h2 h3) h3
theorem wpl_RuleCS (w:World) {ops:Array Oper} {rest:List Oper} {o:Oper} {a:Act} {Q:Exit→Act→World→Prop} (hgd:o.guard=none) (s x:Operand)
  (ho:o.op=.call { callee:=.builtin .append,args:=#[s,x],argTypes:=#[140,140] })
  (B:Nat) (v:Value) (L ys:List RuleV) (hs:a.eval s=v) (hown:OwnS rv 6 156 w B v L)
  (p:Option Addr) (m c:Nat) (hrw:Rw RuR 6 w p ys) (hm:ys.length=m) (hsp:∀ q,p=some q→q.spot=none) (hnil:p=none→m=0∧c=0) (hx:a.eval x=.slice p m c)
  (hlen:L.length+m≤2000000) (hB:B≤w.heap.size)
  (h:∀ v' w',Hid (OwnS rv 6 156 w' B v' (L ++ ys)∧Below B w w')→w.grownBy w' v.ownBlock→wpList Tryz.prog ops Q rest (a.put o.dst v') w'):wpList Tryz.prog ops Q (o :: rest) a w:=by
 cases p with
 | some q =>
  obtain ⟨b,off,pt⟩:=q
  obtain rfl:pt=none:=hsp _ rfl
  have h':Rw (FR rv RuRok) 6 w (some ⟨b,off,none⟩) ys:=hrw
  exact wpl_RuleC w hgd s x ho B v L ys hs hown b off m c hm hx (flat_rw h' rv_len (by omega)) hlen hB h
 | none =>
  obtain ⟨rfl,rfl⟩:=hnil rfl
  obtain rfl:ys=[]:=List.length_eq_zero_iff.1 hm
  obtain ⟨i0,hi,hz0,hz1,hz2⟩:=info_parts infoRule
  refine wpList_append_own_none hgd s x 140 ho B 156 i0 6 Tryz.underlying140 hi v L.length (flatS rv L) hs hown hx (h v w ?_ (grown_refl w _))
  rw [List.append_nil]
  exact ⟨hown,Below.refl _ _⟩
theorem cloneRule_some (b off len cap:Nat) (xs:List RuleV) (w:World) (h:Rw RuR 6 w (some ⟨b,off,none⟩) xs) (hl:xs.length=len) (hm:len≤1048576) (hc:len≤cap) :
  Calls Tryz.prog 93 #[.slice (some ⟨b,off,none⟩) len cap] w fun e w'=>∃ v,e=.returned v∧OwnS rv 6 156 w' w.heap.size v xs∧Below w.heap.size w w':=by
 have h':Rw (FR rv RuRok) 6 w (some ⟨b,off,none⟩) xs:=h
 have RC:Hid (∀ j u,(flatS rv xs)[j]?=some u→w.cell? ⟨b,off+j,none⟩=some u):=flat_rw h' rv_len (by omega)
 have q22:(binOp .eql 140 (.slice (some ⟨b,off,none⟩) len cap) (.slice none 0 0)).run Tryz.prog w=.ok (.bool false) w:=Lib.run_eql_slice_nil w _ _ (some ⟨b,off,none⟩) len cap 0 0 Tryz.underlying140
 clear h h'
 go_enter Tryz.func93,Tryz.ntmps93
 go_wp2_with (at_builtin;refine wpl_RuleC _ rfl (.tmp 5) (.tmp 6) rfl w.heap.size _ [] xs rfl (OwnS.lit w _ (Nat.le_refl _)) b off len cap hl rfl (fun j u hu=>acell (RC.out j u hu) _) (by simp;omega) (by simp) ?_;intro v' w3 Y _)
 have Y2:Hid (OwnS rv 6 156 w3 w.heap.size v' xs∧Below w.heap.size w w3):=⟨Y.out.1,((Below.refl _ _).alloc (Nat.le_refl _) _).trans Y.out.2⟩
 clear Y
 go_wp2
 go_ret
 exact ⟨_,rfl,Y2.out.1,Y2.out.2⟩
theorem cloneRule_any (a:Option Addr) (len cap:Nat) (xs:List RuleV) (w:World) (h:Rw RuR 6 w a xs) (hl:xs.length=len) (hm:len≤1048576) (hc:len≤cap) (ha:∀ p,a=some p→p.spot=none) (hn:a=none→len=0∧cap=0) :
  Calls Tryz.prog 93 #[.slice a len cap] w fun e w'=>∃ v,e=.returned v∧OwnS rv 6 156 w' w.heap.size v xs∧Below w.heap.size w w':=by
 cases a with
 | some p =>
  obtain ⟨b,off,pt⟩:=p
  obtain rfl:pt=none:=ha _ rfl
  exact cloneRule_some b off len cap xs w h hl hm hc
 | none =>
  obtain ⟨rfl,rfl⟩:=hn rfl
  obtain rfl:xs=[]:=List.length_eq_zero_iff.1 hl
  have q22:(binOp .eql 140 (.slice none 0 0) (.slice none 0 0)).run Tryz.prog w=.ok (.bool true) w:=Lib.run_eql_slice_nil w _ _ none 0 0 0 0 Tryz.underlying140
  go_enter Tryz.func93,Tryz.ntmps93
  go_wp2
  go_ret
  exact ⟨_,rfl,OwnS.nil _ _,Below.refl _ _⟩
theorem oneRoleC (ys:List RoX):∀ u ∈ flatS roG ys,u.oneCell'=true:=by
 intro u hu
 unfold flatS at hu
 rw [List.mem_flatMap] at hu
 obtain ⟨f,_,hf⟩:=hu
 simp [roG] at hf
 rcases hf with rfl | rfl | rfl | rfl | rfl <;> rfl
theorem wpl_RoleC (w:World) {ops:Array Oper} {rest:List Oper} {o:Oper} {a:Act} {Q:Exit→Act→World→Prop} (hgd:o.guard=none) (s x:Operand)
  (ho:o.op=.call { callee:=.builtin .append,args:=#[s,x],argTypes:=#[38,38] })
  (B:Nat) (v:Value) (L ys:List RoX) (hs:a.eval s=v) (hown:OwnS roG 5 142 w B v L)
  (g off m c:Nat) (hm:ys.length=m) (hx:a.eval x=.slice (some ⟨g,off,none⟩) m c) (hc:∀ j u,(flatS roG ys)[j]?=some u→w.cell? ⟨g,off+j,none⟩=some u)
  (hlen:L.length+m≤2000000) (hB:B≤w.heap.size)
  (h:∀ v' w',Hid (OwnS roG 5 142 w' B v' (L ++ ys)∧Below B w w')→w.grownBy w' v.ownBlock→wpList Tryz.prog ops Q rest (a.put o.dst v') w'):wpList Tryz.prog ops Q (o :: rest) a w:=by
 obtain ⟨i0,hi,hz0,hz1,hz2⟩:=info_parts infoRole
 refine wpList_append_own w hgd s x 38 ho B 142 i0 (.agg #[.string ⟨#[]⟩,.slice none 0 0,.int .i64 0,.int .i64 0,.int .i64 0]) 5 64 Tryz.underlying38 hi hz0 hz1 hz2 rfl (by decide) v L.length (flatS roG L) hs hown ⟨g,off,none⟩ m c (flatS roG ys) hx (by rw [flatS_len roG_len,hm]) ?_
  (oneRoleC ys) (by unfold maxLen;omega) (by omega) hB ?_
 ·intro j u hu
  rw [addn]
  exact hc j u hu
 ·intro v' w' h2 h3 _
  subst hm
  exact h v' w' (hown.join hB h2 h3) h3
theorem cloneRole_some (b off len cap:Nat) (xs:List RoX) (w:World) (h:Rw RoXR 5 w (some ⟨b,off,none⟩) xs) (hl:xs.length=len) (hm:len≤1048576) (hc:len≤cap) :
  Calls Tryz.prog 92 #[.slice (some ⟨b,off,none⟩) len cap] w fun e w'=>∃ v,e=.returned v∧OwnS roG 5 142 w' w.heap.size v xs∧Below w.heap.size w w':=by
 have h':Rw (FR roG RoXok) 5 w (some ⟨b,off,none⟩) xs:=h
 have RC:Hid (∀ j u,(flatS roG xs)[j]?=some u→w.cell? ⟨b,off+j,none⟩=some u):=flat_rw h' roG_len (by omega)
 have q22:(binOp .eql 38 (.slice (some ⟨b,off,none⟩) len cap) (.slice none 0 0)).run Tryz.prog w=.ok (.bool false) w:=Lib.run_eql_slice_nil w _ _ (some ⟨b,off,none⟩) len cap 0 0 Tryz.underlying38
 clear h h'
 go_enter Tryz.func92,Tryz.ntmps92
 go_wp2_with (at_builtin;refine wpl_RoleC _ rfl (.tmp 5) (.tmp 6) rfl w.heap.size _ [] xs rfl (OwnS.lit w _ (Nat.le_refl _)) b off len cap hl rfl (fun j u hu=>acell (RC.out j u hu) _) (by simp;omega) (by simp) ?_;intro v' w3 Y _)
 have Y2:Hid (OwnS roG 5 142 w3 w.heap.size v' xs∧Below w.heap.size w w3):=⟨Y.out.1,((Below.refl _ _).alloc (Nat.le_refl _) _).trans Y.out.2⟩
 clear Y
 go_wp2
 go_ret
 exact ⟨_,rfl,Y2.out.1,Y2.out.2⟩
theorem cloneRole_any (a:Option Addr) (len cap:Nat) (xs:List RoX) (w:World) (h:Rw RoXR 5 w a xs) (hl:xs.length=len) (hm:len≤1048576) (hc:len≤cap) (ha:∀ p,a=some p→p.spot=none) (hn:a=none→len=0∧cap=0) :
  Calls Tryz.prog 92 #[.slice a len cap] w fun e w'=>∃ v,e=.returned v∧OwnS roG 5 142 w' w.heap.size v xs∧Below w.heap.size w w':=by
 cases a with
 | some p =>
  obtain ⟨b,off,pt⟩:=p
  obtain rfl:pt=none:=ha _ rfl
  exact cloneRole_some b off len cap xs w h hl hm hc
 | none =>
  obtain ⟨rfl,rfl⟩:=hn rfl
  obtain rfl:xs=[]:=List.length_eq_zero_iff.1 hl
  have q22:(binOp .eql 38 (.slice none 0 0) (.slice none 0 0)).run Tryz.prog w=.ok (.bool true) w:=Lib.run_eql_slice_nil w _ _ none 0 0 0 0 Tryz.underlying38
  go_enter Tryz.func92,Tryz.ntmps92
  go_wp2
  go_ret
  exact ⟨_,rfl,OwnS.nil _ _,Below.refl _ _⟩
theorem oneFlowC (ys:List FlowV):∀ u ∈ flatS wvG ys,u.oneCell'=true:=by
 intro u hu
 unfold flatS at hu
 rw [List.mem_flatMap] at hu
 obtain ⟨f,_,hf⟩:=hu
 simp [wvG] at hf
 rcases hf with rfl | rfl | rfl | rfl | rfl | rfl | rfl | rfl | rfl <;> rfl
theorem wpl_FlowC (w:World) {ops:Array Oper} {rest:List Oper} {o:Oper} {a:Act} {Q:Exit→Act→World→Prop} (hgd:o.guard=none) (s x:Operand)
  (ho:o.op=.call { callee:=.builtin .append,args:=#[s,x],argTypes:=#[47,47] })
  (B:Nat) (v:Value) (L ys:List FlowV) (hs:a.eval s=v) (hown:OwnS wvG 9 159 w B v L)
  (g off m c:Nat) (hm:ys.length=m) (hx:a.eval x=.slice (some ⟨g,off,none⟩) m c) (hc:∀ j u,(flatS wvG ys)[j]?=some u→w.cell? ⟨g,off+j,none⟩=some u)
  (hlen:L.length+m≤2000000) (hB:B≤w.heap.size)
  (h:∀ v' w',Hid (OwnS wvG 9 159 w' B v' (L ++ ys)∧Below B w w')→w.grownBy w' v.ownBlock→wpList Tryz.prog ops Q rest (a.put o.dst v') w'):wpList Tryz.prog ops Q (o :: rest) a w:=by
 obtain ⟨i0,hi,hz0,hz1,hz2⟩:=info_parts infoFlow
 refine wpList_append_own w hgd s x 47 ho B 159 i0 (.agg #[.int .i64 0,.string ⟨#[]⟩,.int .i64 0,.int .i64 0,.int .i64 0,.int .i64 0,.int .i64 0,.int .i64 0,.int .i64 0]) 9 80 Tryz.underlying47 hi hz0 hz1 hz2 rfl (by decide) v L.length (flatS wvG L) hs hown ⟨g,off,none⟩ m c (flatS wvG ys) hx (by rw [flatS_len wvG_len,hm]) ?_
  (oneFlowC ys) (by unfold maxLen;omega) (by omega) hB ?_
 ·intro j u hu
  rw [addn]
  exact hc j u hu
 ·intro v' w' h2 h3 _
  subst hm
  exact h v' w' (hown.join hB h2 h3) h3
theorem wpl_FlowCS (w:World) {ops:Array Oper} {rest:List Oper} {o:Oper} {a:Act} {Q:Exit→Act→World→Prop} (hgd:o.guard=none) (s x:Operand)
  (ho:o.op=.call { callee:=.builtin .append,args:=#[s,x],argTypes:=#[47,47] })
  (B:Nat) (v:Value) (L ys:List FlowV) (hs:a.eval s=v) (hown:OwnS wvG 9 159 w B v L)
  (p:Option Addr) (m c:Nat) (hrw:Rw FlR 9 w p ys) (hm:ys.length=m) (hsp:∀ q,p=some q→q.spot=none) (hnil:p=none→m=0∧c=0) (hx:a.eval x=.slice p m c)
  (hlen:L.length+m≤2000000) (hB:B≤w.heap.size)
  (h:∀ v' w',Hid (OwnS wvG 9 159 w' B v' (L ++ ys)∧Below B w w')→w.grownBy w' v.ownBlock→wpList Tryz.prog ops Q rest (a.put o.dst v') w'):wpList Tryz.prog ops Q (o :: rest) a w:=by
 cases p with
 | some q =>
  obtain ⟨b,off,pt⟩:=q
  obtain rfl:pt=none:=hsp _ rfl
  have h':Rw (FR wvG FlRok) 9 w (some ⟨b,off,none⟩) ys:=hrw
  exact wpl_FlowC w hgd s x ho B v L ys hs hown b off m c hm hx (flat_rw h' wvG_len (by omega)) hlen hB h
 | none =>
  obtain ⟨rfl,rfl⟩:=hnil rfl
  obtain rfl:ys=[]:=List.length_eq_zero_iff.1 hm
  obtain ⟨i0,hi,hz0,hz1,hz2⟩:=info_parts infoFlow
  refine wpList_append_own_none hgd s x 47 ho B 159 i0 9 Tryz.underlying47 hi v L.length (flatS wvG L) hs hown hx (h v w ?_ (grown_refl w _))
  rw [List.append_nil]
  exact ⟨hown,Below.refl _ _⟩
theorem cloneFlow_some (b off len cap:Nat) (xs:List FlowV) (w:World) (h:Rw FlR 9 w (some ⟨b,off,none⟩) xs) (hl:xs.length=len) (hm:len≤1048576) (hc:len≤cap) :
  Calls Tryz.prog 95 #[.slice (some ⟨b,off,none⟩) len cap] w fun e w'=>∃ v,e=.returned v∧OwnS wvG 9 159 w' w.heap.size v xs∧Below w.heap.size w w':=by
 have h':Rw (FR wvG FlRok) 9 w (some ⟨b,off,none⟩) xs:=h
 have RC:Hid (∀ j u,(flatS wvG xs)[j]?=some u→w.cell? ⟨b,off+j,none⟩=some u):=flat_rw h' wvG_len (by omega)
 have q22:(binOp .eql 47 (.slice (some ⟨b,off,none⟩) len cap) (.slice none 0 0)).run Tryz.prog w=.ok (.bool false) w:=Lib.run_eql_slice_nil w _ _ (some ⟨b,off,none⟩) len cap 0 0 Tryz.underlying47
 clear h h'
 go_enter Tryz.func95,Tryz.ntmps95
 go_wp2_with (at_builtin;refine wpl_FlowC _ rfl (.tmp 5) (.tmp 6) rfl w.heap.size _ [] xs rfl (OwnS.lit w _ (Nat.le_refl _)) b off len cap hl rfl (fun j u hu=>acell (RC.out j u hu) _) (by simp;omega) (by simp) ?_;intro v' w3 Y _)
 have Y2:Hid (OwnS wvG 9 159 w3 w.heap.size v' xs∧Below w.heap.size w w3):=⟨Y.out.1,((Below.refl _ _).alloc (Nat.le_refl _) _).trans Y.out.2⟩
 clear Y
 go_wp2
 go_ret
 exact ⟨_,rfl,Y2.out.1,Y2.out.2⟩
theorem cloneFlow_any (a:Option Addr) (len cap:Nat) (xs:List FlowV) (w:World) (h:Rw FlR 9 w a xs) (hl:xs.length=len) (hm:len≤1048576) (hc:len≤cap) (ha:∀ p,a=some p→p.spot=none) (hn:a=none→len=0∧cap=0) :
  Calls Tryz.prog 95 #[.slice a len cap] w fun e w'=>∃ v,e=.returned v∧OwnS wvG 9 159 w' w.heap.size v xs∧Below w.heap.size w w':=by
 cases a with
 | some p =>
  obtain ⟨b,off,pt⟩:=p
  obtain rfl:pt=none:=ha _ rfl
  exact cloneFlow_some b off len cap xs w h hl hm hc
 | none =>
  obtain ⟨rfl,rfl⟩:=hn rfl
  obtain rfl:xs=[]:=List.length_eq_zero_iff.1 hl
  have q22:(binOp .eql 47 (.slice none 0 0) (.slice none 0 0)).run Tryz.prog w=.ok (.bool true) w:=Lib.run_eql_slice_nil w _ _ none 0 0 0 0 Tryz.underlying47
  go_enter Tryz.func95,Tryz.ntmps95
  go_wp2
  go_ret
  exact ⟨_,rfl,OwnS.nil _ _,Below.refl _ _⟩
theorem oneConnC (ys:List ConnV):∀ u ∈ flatS cnG ys,u.oneCell'=true:=by
 intro u hu
 unfold flatS at hu
 rw [List.mem_flatMap] at hu
 obtain ⟨f,_,hf⟩:=hu
 simp [cnG] at hf
 rcases hf with rfl | rfl | rfl | rfl | rfl | rfl | rfl | rfl | rfl | rfl | rfl <;> rfl
theorem wpl_ConnC (w:World) {ops:Array Oper} {rest:List Oper} {o:Oper} {a:Act} {Q:Exit→Act→World→Prop} (hgd:o.guard=none) (s x:Operand)
  (ho:o.op=.call { callee:=.builtin .append,args:=#[s,x],argTypes:=#[48,48] })
  (B:Nat) (v:Value) (L ys:List ConnV) (hs:a.eval s=v) (hown:OwnS cnG 11 162 w B v L)
  (g off m c:Nat) (hm:ys.length=m) (hx:a.eval x=.slice (some ⟨g,off,none⟩) m c) (hc:∀ j u,(flatS cnG ys)[j]?=some u→w.cell? ⟨g,off+j,none⟩=some u)
  (hlen:L.length+m≤2000000) (hB:B≤w.heap.size)
  (h:∀ v' w',Hid (OwnS cnG 11 162 w' B v' (L ++ ys)∧Below B w w')→w.grownBy w' v.ownBlock→wpList Tryz.prog ops Q rest (a.put o.dst v') w'):wpList Tryz.prog ops Q (o :: rest) a w:=by
 obtain ⟨i0,hi,hz0,hz1,hz2⟩:=info_parts infoConn
 refine wpList_append_own w hgd s x 48 ho B 162 i0 (.agg #[.string ⟨#[]⟩,.int .i64 0,.int .i64 0,.int .i64 0,.int .i64 0,.int .i64 0,.int .i64 0,.int .i64 0,.string ⟨#[]⟩,.string ⟨#[]⟩,.bool false]) 11 112 Tryz.underlying48 hi hz0 hz1 hz2 rfl (by decide) v L.length (flatS cnG L) hs hown ⟨g,off,none⟩ m c (flatS cnG ys) hx (by rw [flatS_len cnG_len,hm]) ?_
  (oneConnC ys) (by unfold maxLen;omega) (by omega) hB ?_
 ·intro j u hu
  rw [addn]
  exact hc j u hu
 ·intro v' w' h2 h3 _
  subst hm
  exact h v' w' (hown.join hB h2 h3) h3
theorem wpl_ConnCS (w:World) {ops:Array Oper} {rest:List Oper} {o:Oper} {a:Act} {Q:Exit→Act→World→Prop} (hgd:o.guard=none) (s x:Operand)
  (ho:o.op=.call { callee:=.builtin .append,args:=#[s,x],argTypes:=#[48,48] })
  (B:Nat) (v:Value) (L ys:List ConnV) (hs:a.eval s=v) (hown:OwnS cnG 11 162 w B v L)
  (p:Option Addr) (m c:Nat) (hrw:Rw CnR 11 w p ys) (hm:ys.length=m) (hsp:∀ q,p=some q→q.spot=none) (hnil:p=none→m=0∧c=0) (hx:a.eval x=.slice p m c)
  (hlen:L.length+m≤2000000) (hB:B≤w.heap.size)
  (h:∀ v' w',Hid (OwnS cnG 11 162 w' B v' (L ++ ys)∧Below B w w')→w.grownBy w' v.ownBlock→wpList Tryz.prog ops Q rest (a.put o.dst v') w'):wpList Tryz.prog ops Q (o :: rest) a w:=by
 cases p with
 | some q =>
  obtain ⟨b,off,pt⟩:=q
  obtain rfl:pt=none:=hsp _ rfl
  have h':Rw (FR cnG CnRok) 11 w (some ⟨b,off,none⟩) ys:=hrw
  exact wpl_ConnC w hgd s x ho B v L ys hs hown b off m c hm hx (flat_rw h' cnG_len (by omega)) hlen hB h
 | none =>
  obtain ⟨rfl,rfl⟩:=hnil rfl
  obtain rfl:ys=[]:=List.length_eq_zero_iff.1 hm
  obtain ⟨i0,hi,hz0,hz1,hz2⟩:=info_parts infoConn
  refine wpList_append_own_none hgd s x 48 ho B 162 i0 11 Tryz.underlying48 hi v L.length (flatS cnG L) hs hown hx (h v w ?_ (grown_refl w _))
  rw [List.append_nil]
  exact ⟨hown,Below.refl _ _⟩
theorem cloneConn_some (b off len cap:Nat) (xs:List ConnV) (w:World) (h:Rw CnR 11 w (some ⟨b,off,none⟩) xs) (hl:xs.length=len) (hm:len≤1048576) (hc:len≤cap) :
  Calls Tryz.prog 96 #[.slice (some ⟨b,off,none⟩) len cap] w fun e w'=>∃ v,e=.returned v∧OwnS cnG 11 162 w' w.heap.size v xs∧Below w.heap.size w w':=by
 have h':Rw (FR cnG CnRok) 11 w (some ⟨b,off,none⟩) xs:=h
 have RC:Hid (∀ j u,(flatS cnG xs)[j]?=some u→w.cell? ⟨b,off+j,none⟩=some u):=flat_rw h' cnG_len (by omega)
 have q22:(binOp .eql 48 (.slice (some ⟨b,off,none⟩) len cap) (.slice none 0 0)).run Tryz.prog w=.ok (.bool false) w:=Lib.run_eql_slice_nil w _ _ (some ⟨b,off,none⟩) len cap 0 0 Tryz.underlying48
 clear h h'
 go_enter Tryz.func96,Tryz.ntmps96
 go_wp2_with (at_builtin;refine wpl_ConnC _ rfl (.tmp 5) (.tmp 6) rfl w.heap.size _ [] xs rfl (OwnS.lit w _ (Nat.le_refl _)) b off len cap hl rfl (fun j u hu=>acell (RC.out j u hu) _) (by simp;omega) (by simp) ?_;intro v' w3 Y _)
 have Y2:Hid (OwnS cnG 11 162 w3 w.heap.size v' xs∧Below w.heap.size w w3):=⟨Y.out.1,((Below.refl _ _).alloc (Nat.le_refl _) _).trans Y.out.2⟩
 clear Y
 go_wp2
 go_ret
 exact ⟨_,rfl,Y2.out.1,Y2.out.2⟩
theorem cloneConn_any (a:Option Addr) (len cap:Nat) (xs:List ConnV) (w:World) (h:Rw CnR 11 w a xs) (hl:xs.length=len) (hm:len≤1048576) (hc:len≤cap) (ha:∀ p,a=some p→p.spot=none) (hn:a=none→len=0∧cap=0) :
  Calls Tryz.prog 96 #[.slice a len cap] w fun e w'=>∃ v,e=.returned v∧OwnS cnG 11 162 w' w.heap.size v xs∧Below w.heap.size w w':=by
 cases a with
 | some p =>
  obtain ⟨b,off,pt⟩:=p
  obtain rfl:pt=none:=ha _ rfl
  exact cloneConn_some b off len cap xs w h hl hm hc
 | none =>
  obtain ⟨rfl,rfl⟩:=hn rfl
  obtain rfl:xs=[]:=List.length_eq_zero_iff.1 hl
  have q22:(binOp .eql 48 (.slice none 0 0) (.slice none 0 0)).run Tryz.prog w=.ok (.bool true) w:=Lib.run_eql_slice_nil w _ _ none 0 0 0 0 Tryz.underlying48
  go_enter Tryz.func96,Tryz.ntmps96
  go_wp2
  go_ret
  exact ⟨_,rfl,OwnS.nil _ _,Below.refl _ _⟩
open Go.RowKit Go.PlainAid Go.Sort
theorem run_storeVar_at {P:Program} (w:World) (b o:Nat) (ty:TypeId) (v:Value) (ht:w.there b o 1) (hi:(P.info? ty).map (·.size)=some 1) (h1:v.oneCell'=true) :
  (storeVar ty ⟨b,o,none⟩ v).run P w=.ok () (w.setCells b o [v]):=by
 have hc:v.cells=#[v]:=by cases v <;> first | rfl | cases h1
 have:=run_storeCells_cells (P:=P) b o [v] 0 w (fun j hj=>by simpa using (ht j (by simpa using hj)).1) (fun j hj=>by simpa using (ht j (by simpa using hj)).2)
  (fun u hu=>by simp at hu;subst hu;exact h1)
 cases hq:P.info? ty with
 | none=>simp [hq] at hi
 | some i =>
  have hs:i.size=1:=by simpa [hq] using hi
  simp only [Nat.add_zero] at this
  simp [storeVar,sizeOf,typeInfo,hq,hc,hs,this]
theorem wpl_put1 {P:Program} {ops:Array Oper} {rest:List Oper} {op:Oper} {a:Act} {w:World} {Q:Exit→Act→World→Prop} (t:TypeId) (hgd:op.guard=none) (x y:Operand) (ho:op.op=.store t x y)
  (q o:Nat) (v:Value) (hx:a.eval x=.pointer (some ⟨q,o,none⟩)) (hy:a.eval y=v) {cs:List Value} (h0:Bx w q cs) (hn:(decide (o+1≤cs.length))=true) (hi:(P.info? t).map (·.size)=some 1) (h1:v.oneCell'=true)
  (h:∀ w',w'=w.setCells q o [v]→wpList P ops Q rest (a.put op.dst undef) w'):wpList P ops Q (op :: rest) a w :=
 wpList_plain hgd fun _ hK=>by
  unfold Oper.wp execOp
  simp only [ho,hx,hy,Instr.storeAt,Instr.sureAddr,Sem.run_bind,Sem.run_pure,Result.andThen_ok,run_storeVar_at w q o t v (h0.thereAt o 1 (of_decide_eq_true hn)) hi h1]
  exact hK _ _ (h _ rfl)
theorem results_cell {P:Program} {fn:Func} {tmps:Array Value} {w:World} {a:Tmp} {t:TypeId} (hr:fn.results=#[.cell a t]) (q:Nat) (hp:tmps.getD a undef=.pointer (some ⟨q,0,none⟩)) {cs:List Value} (hb:Bx w q cs)
  (d:TypeDesc) (hu:P.underlying t=some d) (hd:d.isRow=true) (hi:(P.info? t).map (·.size)=some cs.length):(results fn tmps).run P w=.ok (.agg cs.toArray) w:=by
 have h:=run_loadVar_mid w q 0 t cs d hb.cl hu hd hi
 unfold results
 rw [hr]
 have hp':tmps[a]?.getD undef=.pointer (some ⟨q,0,none⟩):=by rw [← Array.getD_eq_getD_getElem?];exact hp
 simp [hp',asAddr,h]
structure GtS (g:GtV):Prop where
 gm:g.gm.size≤1048576
 wm:g.wm.size≤1048576
 ps:g.ps.length≤1048576
 ros:g.ros.length≤1048576
 us:g.us.length≤1048576
 ss:g.ss.length≤1048576
 fs:g.fs.length≤1048576
 es:g.es.length≤1048576
 fl:g.fl.length≤1048576
 co:g.co.length≤1048576
 szr:SzR g.ros
 szu:szL wtUser g.us≤1048576
 szs:szL wtSession g.ss≤1048576
 szf:szL wtFail g.fs≤1048576
 szl:∀ x,x ∈ g.fl→(x.mc.size:Int)≤1048576
 szc:∀ x,x ∈ g.co→(x.mc.size:Int)≤1048576∧(x.inn.size:Int)≤1048576∧(x.out.size:Int)≤1048576
 szt:szR g.ros≤1048576
set_option maxHeartbeats 4000000 in
theorem szGateway_any (A:GtA) (g:GtV) (w:World) (h:GtR w A g) (hb:GtB A g) :
  Calls Tryz.prog 18 #[.agg #[.int .i64 g.ip,.int .i64 g.b,.int .i64 g.gt,.string g.gm,.string g.wm,.int .i64 g.rs,.slice A.x g.ps.length A.xc,.slice A.y g.ros.length A.yc,.slice A.ua g.us.length A.uc,.slice A.sa g.ss.length A.sc,.slice A.fa g.fs.length A.fc,.slice A.ra g.es.length A.rc,.int .i64 g.nx,.slice A.la g.fl.length A.lc,.slice A.ca g.co.length A.cc,.int .i64 g.nw,.int .i64 g.dr,.int .i64 g.sn],.int .i64 1048576] w fun e w'=>∃ r:Int,e=.returned (.int .i64 r)∧(0≤r→GtS g)∧Below w.heap.size w w':=by
 have GR:Hid (GtR w A g):=h
 have HZ:Hid (∀ w,GtR w A g→Calls Tryz.prog 5 #[.agg #[.int .i64 g.ip,.int .i64 g.b,.int .i64 g.gt,.string g.gm,.string g.wm,.int .i64 g.rs,.slice A.x g.ps.length A.xc,.slice A.y g.ros.length A.yc],.int .i64 1048576] w fun e w'=>∃ r:Int,e=.returned (.int .i64 r)∧(0≤r→(g.gm.size:Int)+g.wm.size+(g.ps.length:Int)+(g.ros.length:Int)+szR g.ros≤1048576)∧-1≤r∧r≤1048576∧Below w.heap.size w w'):=fun w h=>(szConfig_any _ _ _ _ _ _ _ _ _ _ _ _ g.ps g.ros w h.ps rfl h.ros rfl (Nat.le_trans hb.gm (by decide)) (Nat.le_trans hb.wm (by decide)) (Nat.le_trans hb.ps.1 (Nat.le_trans hb.ps.2 (by decide))) (Nat.le_trans hb.ros.1 (Nat.le_trans hb.ros.2 (by decide)))).mono fun e w' ⟨r,h1,h2,h3,h4,h5⟩=>⟨r,h1,h2,h3,h4,h5.below⟩
 have HY:Hid (∀ (l:Int) w,0≤l→l≤1048576→GtR w A g→Calls Tryz.prog 6 #[.agg #[.slice A.ua g.us.length A.uc,.slice A.sa g.ss.length A.sc,.slice A.fa g.fs.length A.fc,.slice A.ra g.es.length A.rc,.int .i64 g.nx],.int .i64 l] w fun e w'=>∃ r:Int,e=.returned (.int .i64 r)∧(0≤r→((g.us.length:Int)+szL wtUser g.us+(g.ss.length:Int)+szL wtSession g.ss+(g.fs.length:Int)+szL wtFail g.fs+(g.es.length:Int))≤l)∧-1≤r∧r≤1048576∧Below w.heap.size w w'):=fun l w h0 h1 h=>(szGuests_any _ _ _ _ _ _ _ _ _ _ _ _ g.us g.ss g.fs g.es g.nx l w h.us rfl h.ss rfl h.fs rfl h.es rfl (Nat.le_trans hb.us.1 (Nat.le_trans hb.us.2 (by decide))) (Nat.le_trans hb.ss.1 (Nat.le_trans hb.ss.2 (by decide))) (Nat.le_trans hb.fs.1 (Nat.le_trans hb.fs.2 (by decide))) (Nat.le_trans hb.es.1 (Nat.le_trans hb.es.2 (by decide))) h0 h1).mono fun e w' ⟨r,h1,h2,h3,h4,h5⟩=>⟨r,h1,h2,h3,h4,h5.below⟩
 have HF:Hid (∀ (l:Int) w,0≤l→l≤1048576→GtR w A g→Calls Tryz.prog 60 #[.slice A.la g.fl.length A.lc,.int .i64 l] w fun e w'=>∃ r:Int,e=.returned (.int .i64 r)∧(0≤r→(g.fl.length:Int)≤l∧r≤l∧∀ x,x ∈ g.fl→(x.mc.size:Int)≤1048576)∧-1≤r∧r≤1048576∧Below w.heap.size w w'):=fun l w h0 h1 h=>(szFlowS_any _ _ _ g.fl l w h.fl rfl (Nat.le_trans hb.fl.1 (Nat.le_trans hb.fl.2 (by decide))) h0 h1).mono fun e w' ⟨r,h1,h2,h3,h4,h5⟩=>⟨r,h1,h2,h3,h4,h5.below⟩
 have HC:Hid (∀ (l:Int) w,0≤l→l≤1048576→GtR w A g→Calls Tryz.prog 61 #[.slice A.ca g.co.length A.cc,.int .i64 l] w fun e w'=>∃ r:Int,e=.returned (.int .i64 r)∧(0≤r→(g.co.length:Int)≤l∧r≤l∧∀ x,x ∈ g.co→((x.mc.size:Int)≤1048576∧(x.inn.size:Int)≤1048576∧(x.out.size:Int)≤1048576))∧-1≤r∧r≤1048576∧Below w.heap.size w w'):=fun l w h0 h1 h=>(szConnS_any _ _ _ g.co l w h.co rfl (Nat.le_trans hb.co.1 (Nat.le_trans hb.co.2 (by decide))) h0 h1).mono fun e w' ⟨r,h1,h2,h3,h4,h5⟩=>⟨r,h1,h2,h3,h4,h5.below⟩
 clear h hb
 go_enter Tryz.func18,Tryz.ntmps18
 go_wp2_with fail
 refine (HZ.out _ (GR.out.below ((Below.refl w.heap.size w).alloc (by simp <;> omega) _))).mono ?_
 rintro e wx1 ⟨r1,rfl,hr1,hr2,hr3,bx⟩
 have c1_0_0:wx1.cell? ⟨w.heap.size,0,none⟩=some (.int .i64 g.ip):=bkeep bx (by simp [go_sem])
 have c1_0_1:wx1.cell? ⟨w.heap.size,1,none⟩=some (.int .i64 g.b):=bkeep bx (by simp [go_sem])
 have c1_0_2:wx1.cell? ⟨w.heap.size,2,none⟩=some (.int .i64 g.gt):=bkeep bx (by simp [go_sem])
 have c1_0_3:wx1.cell? ⟨w.heap.size,3,none⟩=some (.string g.gm):=bkeep bx (by simp [go_sem])
 have c1_0_4:wx1.cell? ⟨w.heap.size,4,none⟩=some (.string g.wm):=bkeep bx (by simp [go_sem])
 have c1_0_5:wx1.cell? ⟨w.heap.size,5,none⟩=some (.int .i64 g.rs):=bkeep bx (by simp [go_sem])
 have c1_0_6:wx1.cell? ⟨w.heap.size,6,none⟩=some (.slice A.x g.ps.length A.xc):=bkeep bx (by simp [go_sem])
 have c1_0_7:wx1.cell? ⟨w.heap.size,7,none⟩=some (.slice A.y g.ros.length A.yc):=bkeep bx (by simp [go_sem])
 have c1_0_8:wx1.cell? ⟨w.heap.size,8,none⟩=some (.slice A.ua g.us.length A.uc):=bkeep bx (by simp [go_sem])
 have c1_0_9:wx1.cell? ⟨w.heap.size,9,none⟩=some (.slice A.sa g.ss.length A.sc):=bkeep bx (by simp [go_sem])
 have c1_0_10:wx1.cell? ⟨w.heap.size,10,none⟩=some (.slice A.fa g.fs.length A.fc):=bkeep bx (by simp [go_sem])
 have c1_0_11:wx1.cell? ⟨w.heap.size,11,none⟩=some (.slice A.ra g.es.length A.rc):=bkeep bx (by simp [go_sem])
 have c1_0_12:wx1.cell? ⟨w.heap.size,12,none⟩=some (.int .i64 g.nx):=bkeep bx (by simp [go_sem])
 have c1_0_13:wx1.cell? ⟨w.heap.size,13,none⟩=some (.slice A.la g.fl.length A.lc):=bkeep bx (by simp [go_sem])
 have c1_0_14:wx1.cell? ⟨w.heap.size,14,none⟩=some (.slice A.ca g.co.length A.cc):=bkeep bx (by simp [go_sem])
 have c1_0_15:wx1.cell? ⟨w.heap.size,15,none⟩=some (.int .i64 g.nw):=bkeep bx (by simp [go_sem])
 have c1_0_16:wx1.cell? ⟨w.heap.size,16,none⟩=some (.int .i64 g.dr):=bkeep bx (by simp [go_sem])
 have c1_0_17:wx1.cell? ⟨w.heap.size,17,none⟩=some (.int .i64 g.sn):=bkeep bx (by simp [go_sem])
 have BX1:Hid (Below w.heap.size w wx1):=((Below.refl w.heap.size w).alloc (by simp <;> omega) _).trans (bx.mono (by simp <;> omega))
 clear bx
 by_cases k1:r1<0
 ·go_wp2
  go_ret
  exact ⟨-1,rfl,fun h=>absurd h (by omega),BX1.out⟩
 have s1:Hid ((g.gm.size:Int)+g.wm.size+(g.ps.length:Int)+(g.ros.length:Int)+szR g.ros≤1048576):=hr1 (by omega)
 clear hr1
 go_wp2_with fail
 refine (HY.out r1 _ (by omega) (by omega) (GR.out.below BX1.out)).mono ?_
 rintro e wx2 ⟨r2,rfl,ht1,ht2,ht3,bx⟩
 have c2_0_0:wx2.cell? ⟨w.heap.size,0,none⟩=some (.int .i64 g.ip):=bkeep bx (by first | (simp [go_sem];done) | simp [go_sem,c1_0_0])
 have c2_0_1:wx2.cell? ⟨w.heap.size,1,none⟩=some (.int .i64 g.b):=bkeep bx (by first | (simp [go_sem];done) | simp [go_sem,c1_0_1])
 have c2_0_2:wx2.cell? ⟨w.heap.size,2,none⟩=some (.int .i64 g.gt):=bkeep bx (by first | (simp [go_sem];done) | simp [go_sem,c1_0_2])
 have c2_0_3:wx2.cell? ⟨w.heap.size,3,none⟩=some (.string g.gm):=bkeep bx (by first | (simp [go_sem];done) | simp [go_sem,c1_0_3])
 have c2_0_4:wx2.cell? ⟨w.heap.size,4,none⟩=some (.string g.wm):=bkeep bx (by first | (simp [go_sem];done) | simp [go_sem,c1_0_4])
 have c2_0_5:wx2.cell? ⟨w.heap.size,5,none⟩=some (.int .i64 g.rs):=bkeep bx (by first | (simp [go_sem];done) | simp [go_sem,c1_0_5])
 have c2_0_6:wx2.cell? ⟨w.heap.size,6,none⟩=some (.slice A.x g.ps.length A.xc):=bkeep bx (by first | (simp [go_sem];done) | simp [go_sem,c1_0_6])
 have c2_0_7:wx2.cell? ⟨w.heap.size,7,none⟩=some (.slice A.y g.ros.length A.yc):=bkeep bx (by first | (simp [go_sem];done) | simp [go_sem,c1_0_7])
 have c2_0_8:wx2.cell? ⟨w.heap.size,8,none⟩=some (.slice A.ua g.us.length A.uc):=bkeep bx (by first | (simp [go_sem];done) | simp [go_sem,c1_0_8])
 have c2_0_9:wx2.cell? ⟨w.heap.size,9,none⟩=some (.slice A.sa g.ss.length A.sc):=bkeep bx (by first | (simp [go_sem];done) | simp [go_sem,c1_0_9])
 have c2_0_10:wx2.cell? ⟨w.heap.size,10,none⟩=some (.slice A.fa g.fs.length A.fc):=bkeep bx (by first | (simp [go_sem];done) | simp [go_sem,c1_0_10])
 have c2_0_11:wx2.cell? ⟨w.heap.size,11,none⟩=some (.slice A.ra g.es.length A.rc):=bkeep bx (by first | (simp [go_sem];done) | simp [go_sem,c1_0_11])
 have c2_0_12:wx2.cell? ⟨w.heap.size,12,none⟩=some (.int .i64 g.nx):=bkeep bx (by first | (simp [go_sem];done) | simp [go_sem,c1_0_12])
 have c2_0_13:wx2.cell? ⟨w.heap.size,13,none⟩=some (.slice A.la g.fl.length A.lc):=bkeep bx (by first | (simp [go_sem];done) | simp [go_sem,c1_0_13])
 have c2_0_14:wx2.cell? ⟨w.heap.size,14,none⟩=some (.slice A.ca g.co.length A.cc):=bkeep bx (by first | (simp [go_sem];done) | simp [go_sem,c1_0_14])
 have c2_0_15:wx2.cell? ⟨w.heap.size,15,none⟩=some (.int .i64 g.nw):=bkeep bx (by first | (simp [go_sem];done) | simp [go_sem,c1_0_15])
 have c2_0_16:wx2.cell? ⟨w.heap.size,16,none⟩=some (.int .i64 g.dr):=bkeep bx (by first | (simp [go_sem];done) | simp [go_sem,c1_0_16])
 have c2_0_17:wx2.cell? ⟨w.heap.size,17,none⟩=some (.int .i64 g.sn):=bkeep bx (by first | (simp [go_sem];done) | simp [go_sem,c1_0_17])
 have BX2:Hid (Below w.heap.size w wx2):=BX1.out.trans (bx.mono (by have:=BX1.out.size;simp <;> omega))
 clear bx c1_0_0 c1_0_1 c1_0_2 c1_0_3 c1_0_4 c1_0_5 c1_0_6 c1_0_7 c1_0_8 c1_0_9 c1_0_10 c1_0_11 c1_0_12 c1_0_13 c1_0_14 c1_0_15 c1_0_16 c1_0_17 BX1
 by_cases k2:r2<0
 ·go_wp2
  go_ret
  exact ⟨-1,rfl,fun h=>absurd h (by omega),BX2.out⟩
 have s2:Hid (((g.us.length:Int)+szL wtUser g.us+(g.ss.length:Int)+szL wtSession g.ss+(g.fs.length:Int)+szL wtFail g.fs+(g.es.length:Int))≤r1):=ht1 (by omega)
 clear ht1
 go_wp2_with fail
 refine (HF.out r2 _ (by omega) (by omega) (GR.out.below BX2.out)).mono ?_
 rintro e wx3 ⟨r3,rfl,hu1,hu2,hu3,bx⟩
 have c3_0_0:wx3.cell? ⟨w.heap.size,0,none⟩=some (.int .i64 g.ip):=bkeep bx (by first | (simp [go_sem];done) | simp [go_sem,c2_0_0])
 have c3_0_1:wx3.cell? ⟨w.heap.size,1,none⟩=some (.int .i64 g.b):=bkeep bx (by first | (simp [go_sem];done) | simp [go_sem,c2_0_1])
 have c3_0_2:wx3.cell? ⟨w.heap.size,2,none⟩=some (.int .i64 g.gt):=bkeep bx (by first | (simp [go_sem];done) | simp [go_sem,c2_0_2])
 have c3_0_3:wx3.cell? ⟨w.heap.size,3,none⟩=some (.string g.gm):=bkeep bx (by first | (simp [go_sem];done) | simp [go_sem,c2_0_3])
 have c3_0_4:wx3.cell? ⟨w.heap.size,4,none⟩=some (.string g.wm):=bkeep bx (by first | (simp [go_sem];done) | simp [go_sem,c2_0_4])
 have c3_0_5:wx3.cell? ⟨w.heap.size,5,none⟩=some (.int .i64 g.rs):=bkeep bx (by first | (simp [go_sem];done) | simp [go_sem,c2_0_5])
 have c3_0_6:wx3.cell? ⟨w.heap.size,6,none⟩=some (.slice A.x g.ps.length A.xc):=bkeep bx (by first | (simp [go_sem];done) | simp [go_sem,c2_0_6])
 have c3_0_7:wx3.cell? ⟨w.heap.size,7,none⟩=some (.slice A.y g.ros.length A.yc):=bkeep bx (by first | (simp [go_sem];done) | simp [go_sem,c2_0_7])
 have c3_0_8:wx3.cell? ⟨w.heap.size,8,none⟩=some (.slice A.ua g.us.length A.uc):=bkeep bx (by first | (simp [go_sem];done) | simp [go_sem,c2_0_8])
 have c3_0_9:wx3.cell? ⟨w.heap.size,9,none⟩=some (.slice A.sa g.ss.length A.sc):=bkeep bx (by first | (simp [go_sem];done) | simp [go_sem,c2_0_9])
 have c3_0_10:wx3.cell? ⟨w.heap.size,10,none⟩=some (.slice A.fa g.fs.length A.fc):=bkeep bx (by first | (simp [go_sem];done) | simp [go_sem,c2_0_10])
 have c3_0_11:wx3.cell? ⟨w.heap.size,11,none⟩=some (.slice A.ra g.es.length A.rc):=bkeep bx (by first | (simp [go_sem];done) | simp [go_sem,c2_0_11])
 have c3_0_12:wx3.cell? ⟨w.heap.size,12,none⟩=some (.int .i64 g.nx):=bkeep bx (by first | (simp [go_sem];done) | simp [go_sem,c2_0_12])
 have c3_0_13:wx3.cell? ⟨w.heap.size,13,none⟩=some (.slice A.la g.fl.length A.lc):=bkeep bx (by first | (simp [go_sem];done) | simp [go_sem,c2_0_13])
 have c3_0_14:wx3.cell? ⟨w.heap.size,14,none⟩=some (.slice A.ca g.co.length A.cc):=bkeep bx (by first | (simp [go_sem];done) | simp [go_sem,c2_0_14])
 have c3_0_15:wx3.cell? ⟨w.heap.size,15,none⟩=some (.int .i64 g.nw):=bkeep bx (by first | (simp [go_sem];done) | simp [go_sem,c2_0_15])
 have c3_0_16:wx3.cell? ⟨w.heap.size,16,none⟩=some (.int .i64 g.dr):=bkeep bx (by first | (simp [go_sem];done) | simp [go_sem,c2_0_16])
 have c3_0_17:wx3.cell? ⟨w.heap.size,17,none⟩=some (.int .i64 g.sn):=bkeep bx (by first | (simp [go_sem];done) | simp [go_sem,c2_0_17])
 have BX3:Hid (Below w.heap.size w wx3):=BX2.out.trans (bx.mono (by have:=BX2.out.size;simp <;> omega))
 clear bx c2_0_0 c2_0_1 c2_0_2 c2_0_3 c2_0_4 c2_0_5 c2_0_6 c2_0_7 c2_0_8 c2_0_9 c2_0_10 c2_0_11 c2_0_12 c2_0_13 c2_0_14 c2_0_15 c2_0_16 c2_0_17 BX2
 by_cases k3:r3<0
 ·go_wp2
  go_ret
  exact ⟨-1,rfl,fun h=>absurd h (by omega),BX3.out⟩
 have s3:Hid ((g.fl.length:Int)≤r2∧∀ x,x ∈ g.fl→(x.mc.size:Int)≤1048576):=⟨(hu1 (by omega)).1,(hu1 (by omega)).2.2⟩
 clear hu1
 go_wp2_with fail
 refine (HC.out r3 _ (by omega) (by omega) (GR.out.below BX3.out)).mono ?_
 rintro e wx4 ⟨r4,rfl,hv1,hv2,hv3,bx⟩
 have c4_0_0:wx4.cell? ⟨w.heap.size,0,none⟩=some (.int .i64 g.ip):=bkeep bx (by first | (simp [go_sem];done) | simp [go_sem,c3_0_0])
 have c4_0_1:wx4.cell? ⟨w.heap.size,1,none⟩=some (.int .i64 g.b):=bkeep bx (by first | (simp [go_sem];done) | simp [go_sem,c3_0_1])
 have c4_0_2:wx4.cell? ⟨w.heap.size,2,none⟩=some (.int .i64 g.gt):=bkeep bx (by first | (simp [go_sem];done) | simp [go_sem,c3_0_2])
 have c4_0_3:wx4.cell? ⟨w.heap.size,3,none⟩=some (.string g.gm):=bkeep bx (by first | (simp [go_sem];done) | simp [go_sem,c3_0_3])
 have c4_0_4:wx4.cell? ⟨w.heap.size,4,none⟩=some (.string g.wm):=bkeep bx (by first | (simp [go_sem];done) | simp [go_sem,c3_0_4])
 have c4_0_5:wx4.cell? ⟨w.heap.size,5,none⟩=some (.int .i64 g.rs):=bkeep bx (by first | (simp [go_sem];done) | simp [go_sem,c3_0_5])
 have c4_0_6:wx4.cell? ⟨w.heap.size,6,none⟩=some (.slice A.x g.ps.length A.xc):=bkeep bx (by first | (simp [go_sem];done) | simp [go_sem,c3_0_6])
 have c4_0_7:wx4.cell? ⟨w.heap.size,7,none⟩=some (.slice A.y g.ros.length A.yc):=bkeep bx (by first | (simp [go_sem];done) | simp [go_sem,c3_0_7])
 have c4_0_8:wx4.cell? ⟨w.heap.size,8,none⟩=some (.slice A.ua g.us.length A.uc):=bkeep bx (by first | (simp [go_sem];done) | simp [go_sem,c3_0_8])
 have c4_0_9:wx4.cell? ⟨w.heap.size,9,none⟩=some (.slice A.sa g.ss.length A.sc):=bkeep bx (by first | (simp [go_sem];done) | simp [go_sem,c3_0_9])
 have c4_0_10:wx4.cell? ⟨w.heap.size,10,none⟩=some (.slice A.fa g.fs.length A.fc):=bkeep bx (by first | (simp [go_sem];done) | simp [go_sem,c3_0_10])
 have c4_0_11:wx4.cell? ⟨w.heap.size,11,none⟩=some (.slice A.ra g.es.length A.rc):=bkeep bx (by first | (simp [go_sem];done) | simp [go_sem,c3_0_11])
 have c4_0_12:wx4.cell? ⟨w.heap.size,12,none⟩=some (.int .i64 g.nx):=bkeep bx (by first | (simp [go_sem];done) | simp [go_sem,c3_0_12])
 have c4_0_13:wx4.cell? ⟨w.heap.size,13,none⟩=some (.slice A.la g.fl.length A.lc):=bkeep bx (by first | (simp [go_sem];done) | simp [go_sem,c3_0_13])
 have c4_0_14:wx4.cell? ⟨w.heap.size,14,none⟩=some (.slice A.ca g.co.length A.cc):=bkeep bx (by first | (simp [go_sem];done) | simp [go_sem,c3_0_14])
 have c4_0_15:wx4.cell? ⟨w.heap.size,15,none⟩=some (.int .i64 g.nw):=bkeep bx (by first | (simp [go_sem];done) | simp [go_sem,c3_0_15])
 have c4_0_16:wx4.cell? ⟨w.heap.size,16,none⟩=some (.int .i64 g.dr):=bkeep bx (by first | (simp [go_sem];done) | simp [go_sem,c3_0_16])
 have c4_0_17:wx4.cell? ⟨w.heap.size,17,none⟩=some (.int .i64 g.sn):=bkeep bx (by first | (simp [go_sem];done) | simp [go_sem,c3_0_17])
 have BX4:Hid (Below w.heap.size w wx4):=BX3.out.trans (bx.mono (by have:=BX3.out.size;simp <;> omega))
 clear bx c3_0_0 c3_0_1 c3_0_2 c3_0_3 c3_0_4 c3_0_5 c3_0_6 c3_0_7 c3_0_8 c3_0_9 c3_0_10 c3_0_11 c3_0_12 c3_0_13 c3_0_14 c3_0_15 c3_0_16 c3_0_17 BX3
 by_cases k4:r4<0
 ·go_wp2
  go_ret
  exact ⟨-1,rfl,fun h=>absurd h (by omega),BX4.out⟩
 have s4:Hid ((g.co.length:Int)≤r3∧∀ x,x ∈ g.co→((x.mc.size:Int)≤1048576∧(x.inn.size:Int)≤1048576∧(x.out.size:Int)≤1048576)):=⟨(hv1 (by omega)).1,(hv1 (by omega)).2.2⟩
 clear hv1
 have FIN:Hid (GtS g):=by
  have a1:=s1.out;have a2:=s2.out;have a3:=s3.out;have a4:=s4.out
  have n1:=szR_nonneg g.ros
  have n2:=szL_nonneg wtUser_nn g.us
  have n3:=szL_nonneg wtSession_nn g.ss
  have n4:=szL_nonneg wtFail_nn g.fs
  exact ⟨by omega,by omega,by omega,by omega,by omega,by omega,by omega,by omega,by omega,by omega,SzR_of (n:=1048576) (by omega) (by omega),by omega,by omega,by omega,a3.2,a4.2,by omega⟩
 clear s1 s2 s3 s4
 go_wp2
 go_ret
 exact ⟨r4,rfl,fun _=>FIN.out,BX4.out⟩
theorem row_put {α:Type} {R:World→α→List Value→Prop} {K:Nat} {w:World} {b q o:Nat} {xs:List α} {vs:List Value} (h:Rw R K w (some ⟨b,0,none⟩) xs) (hne:q ≠ b) (hR:∀ w w' x vs,R w x vs→R w' x vs):Rw R K (w.setCells q o vs) (some ⟨b,0,none⟩) xs :=
 rw_keepB (B:=fun k=>k ≠ q) h (Nat.le_of_eq (heap_cellsA vs o w).1.symm) (fun k hk=>(heap_cellsA vs o w).2 k hk) (fun b' off e _=>by cases e;exact fun e=>hne e.symm) (fun _ _ h=>hR _ _ _ _ h)
theorem row_putR {K:Nat} {w:World} {b q o lo:Nat} {xs:List RoleV} {vs:List Value} (h:Rw (RoR lo) K w (some ⟨b,0,none⟩) xs) (hne:q ≠ b) (hlo:q<lo):Rw (RoR lo) K (w.setCells q o vs) (some ⟨b,0,none⟩) xs :=
 rw_keepB (B:=fun k=>k ≠ q) h (Nat.le_of_eq (heap_cellsA vs o w).1.symm) (fun k hk=>(heap_cellsA vs o w).2 k hk) (fun b' off e _=>by cases e;exact fun e=>hne e.symm) (fun x us h=>by
  obtain ⟨a,cap,h1,h2,h3,h4,h5,h6⟩:=h
  refine ⟨a,cap,h1,h2,h3,h4,rw_keepB (B:=fun k=>k ≠ q) h5 (Nat.le_of_eq (heap_cellsA vs o w).1.symm) (fun k hk=>(heap_cellsA vs o w).2 k hk) (fun b' off e _=>?_) (fun _ _ h=>h),h6⟩
  have:=h6 b' off e
  omega)
structure TG (w:World) (A:GtA) (g:GtV) (cs:List Value) (W:World):Prop where
 a:Bx W w.heap.size (gtC A g)
 r:Bx W (w.heap.size+1) [.int .i64 0,.int .i64 0,.int .i64 0,.string ⟨#[]⟩,.string ⟨#[]⟩,.int .i64 0,.slice none 0 0,.slice none 0 0,.slice none 0 0,.slice none 0 0,.slice none 0 0,.slice none 0 0,.int .i64 0,.slice none 0 0,.slice none 0 0,.int .i64 0,.int .i64 0,.int .i64 0]
 n:Bx W (w.heap.size+1+1) cs
 b:Below w.heap.size w W
 z:w.heap.size+1+1+1≤W.heap.size
theorem TG.call {w:World} {A:GtA} {g:GtV} {cs:List Value} {W W':World} (h:TG w A g cs W) (hb:Below W.heap.size W W'):TG w A g cs W':=⟨h.a.below hb,h.r.below hb,h.n.below hb,h.b.trans (hb.mono h.b.size),Nat.le_trans h.z hb.size⟩
theorem TG.put {w:World} {A:GtA} {g:GtV} {cs:List Value} {W:World} (h:TG w A g cs W) (o:Nat) (vs:List Value):TG w A g (sets cs o vs) (W.setCells (w.heap.size+1+1) o vs) :=
 ⟨h.a.apartO vs (by omega),h.r.apartO vs (by omega),h.n.sets vs o _ _,below_cells (by omega) vs o _ h.b,by rw [(heap_cellsA vs o W).1];exact h.z⟩
theorem TG.new (w:World) (A:GtA) (g:GtV):TG w A g [.int .i64 0,.int .i64 0,.int .i64 0,.string ⟨#[]⟩,.string ⟨#[]⟩,.int .i64 0,.slice none 0 0,.slice none 0 0,.slice none 0 0,.slice none 0 0,.slice none 0 0,.slice none 0 0,.int .i64 0,.slice none 0 0,.slice none 0 0,.int .i64 0,.int .i64 0,.int .i64 0] (((w.alloc (.cells #[.int .i64 g.ip,.int .i64 g.b,.int .i64 g.gt,.string g.gm,.string g.wm,.int .i64 g.rs,.slice A.x g.ps.length A.xc,.slice A.y g.ros.length A.yc,.slice A.ua g.us.length A.uc,.slice A.sa g.ss.length A.sc,.slice A.fa g.fs.length A.fc,.slice A.ra g.es.length A.rc,.int .i64 g.nx,.slice A.la g.fl.length A.lc,.slice A.ca g.co.length A.cc,.int .i64 g.nw,.int .i64 g.dr,.int .i64 g.sn] 65)).alloc (.cells #[.int .i64 0,.int .i64 0,.int .i64 0,.string ⟨#[]⟩,.string ⟨#[]⟩,.int .i64 0,.slice none 0 0,.slice none 0 0,.slice none 0 0,.slice none 0 0,.slice none 0 0,.slice none 0 0,.int .i64 0,.slice none 0 0,.slice none 0 0,.int .i64 0,.int .i64 0,.int .i64 0] 50)).alloc (.cells #[.int .i64 0,.int .i64 0,.int .i64 0,.string ⟨#[]⟩,.string ⟨#[]⟩,.int .i64 0,.slice none 0 0,.slice none 0 0,.slice none 0 0,.slice none 0 0,.slice none 0 0,.slice none 0 0,.int .i64 0,.slice none 0 0,.slice none 0 0,.int .i64 0,.int .i64 0,.int .i64 0] 50)):=by
 refine ⟨?_,?_,?_,?_,?_⟩
 ·exact ((Bx.new w #[.int .i64 g.ip,.int .i64 g.b,.int .i64 g.gt,.string g.gm,.string g.wm,.int .i64 g.rs,.slice A.x g.ps.length A.xc,.slice A.y g.ros.length A.yc,.slice A.ua g.us.length A.uc,.slice A.sa g.ss.length A.sc,.slice A.fa g.fs.length A.fc,.slice A.ra g.es.length A.rc,.int .i64 g.nx,.slice A.la g.fl.length A.lc,.slice A.ca g.co.length A.cc,.int .i64 g.nw,.int .i64 g.dr,.int .i64 g.sn] 65).below ((Below.refl _ _).alloc (Nat.le_refl _) _)).below ((Below.refl _ _).alloc (Nat.le_refl _) _)
 ·have h:=Bx.new (w.alloc (.cells #[.int .i64 g.ip,.int .i64 g.b,.int .i64 g.gt,.string g.gm,.string g.wm,.int .i64 g.rs,.slice A.x g.ps.length A.xc,.slice A.y g.ros.length A.yc,.slice A.ua g.us.length A.uc,.slice A.sa g.ss.length A.sc,.slice A.fa g.fs.length A.fc,.slice A.ra g.es.length A.rc,.int .i64 g.nx,.slice A.la g.fl.length A.lc,.slice A.ca g.co.length A.cc,.int .i64 g.nw,.int .i64 g.dr,.int .i64 g.sn] 65)) #[.int .i64 0,.int .i64 0,.int .i64 0,.string ⟨#[]⟩,.string ⟨#[]⟩,.int .i64 0,.slice none 0 0,.slice none 0 0,.slice none 0 0,.slice none 0 0,.slice none 0 0,.slice none 0 0,.int .i64 0,.slice none 0 0,.slice none 0 0,.int .i64 0,.int .i64 0,.int .i64 0] 50
  rw [World.size_alloc] at h
  exact h.below ((Below.refl _ _).alloc (Nat.le_refl _) _)
 ·have h:=Bx.new ((w.alloc (.cells #[.int .i64 g.ip,.int .i64 g.b,.int .i64 g.gt,.string g.gm,.string g.wm,.int .i64 g.rs,.slice A.x g.ps.length A.xc,.slice A.y g.ros.length A.yc,.slice A.ua g.us.length A.uc,.slice A.sa g.ss.length A.sc,.slice A.fa g.fs.length A.fc,.slice A.ra g.es.length A.rc,.int .i64 g.nx,.slice A.la g.fl.length A.lc,.slice A.ca g.co.length A.cc,.int .i64 g.nw,.int .i64 g.dr,.int .i64 g.sn] 65)).alloc (.cells #[.int .i64 0,.int .i64 0,.int .i64 0,.string ⟨#[]⟩,.string ⟨#[]⟩,.int .i64 0,.slice none 0 0,.slice none 0 0,.slice none 0 0,.slice none 0 0,.slice none 0 0,.slice none 0 0,.int .i64 0,.slice none 0 0,.slice none 0 0,.int .i64 0,.int .i64 0,.int .i64 0] 50)) #[.int .i64 0,.int .i64 0,.int .i64 0,.string ⟨#[]⟩,.string ⟨#[]⟩,.int .i64 0,.slice none 0 0,.slice none 0 0,.slice none 0 0,.slice none 0 0,.slice none 0 0,.slice none 0 0,.int .i64 0,.slice none 0 0,.slice none 0 0,.int .i64 0,.int .i64 0,.int .i64 0] 50
  rw [World.size_alloc,World.size_alloc] at h
  exact h
 ·exact (((Below.refl _ _).alloc (Nat.le_refl _) _).alloc (by simp) _).alloc (by simp;omega) _
 ·simp
theorem w0_size (w:World) (A:GtA) (g:GtV):(((w.alloc (.cells #[.int .i64 g.ip,.int .i64 g.b,.int .i64 g.gt,.string g.gm,.string g.wm,.int .i64 g.rs,.slice A.x g.ps.length A.xc,.slice A.y g.ros.length A.yc,.slice A.ua g.us.length A.uc,.slice A.sa g.ss.length A.sc,.slice A.fa g.fs.length A.fc,.slice A.ra g.es.length A.rc,.int .i64 g.nx,.slice A.la g.fl.length A.lc,.slice A.ca g.co.length A.cc,.int .i64 g.nw,.int .i64 g.dr,.int .i64 g.sn] 65)).alloc (.cells #[.int .i64 0,.int .i64 0,.int .i64 0,.string ⟨#[]⟩,.string ⟨#[]⟩,.int .i64 0,.slice none 0 0,.slice none 0 0,.slice none 0 0,.slice none 0 0,.slice none 0 0,.slice none 0 0,.int .i64 0,.slice none 0 0,.slice none 0 0,.int .i64 0,.int .i64 0,.int .i64 0] 50)).alloc (.cells #[.int .i64 0,.int .i64 0,.int .i64 0,.string ⟨#[]⟩,.string ⟨#[]⟩,.int .i64 0,.slice none 0 0,.slice none 0 0,.slice none 0 0,.slice none 0 0,.slice none 0 0,.slice none 0 0,.int .i64 0,.slice none 0 0,.slice none 0 0,.int .i64 0,.int .i64 0,.int .i64 0] 50)).heap.size=w.heap.size+1+1+1:=by simp
open Go.RowKit
namespace Rel
theorem cell_of {w w':World} {a:Addr} (h:w'.heap[a.block]?=w.heap[a.block]?):w'.cell? a=w.cell? a:=by
 unfold World.cell?;rw [h]
theorem froz_of {w w':World} {a:Addr} (h:w'.heap[a.block]?=w.heap[a.block]?):w'.frozen? a=w.frozen? a:=by
 unfold World.frozen?;rw [h]
theorem bx_loc {w w':World} {q:Nat} {cs:List Value} (h:Bx w q cs) (hq:w'.heap[q]?=w.heap[q]?):Bx w' q cs :=
 Bx.of (fun j v hv=>(cell_of (a:=⟨q,j,none⟩) hq).trans (h.cell j hv)) (fun j hj=>(froz_of (a:=⟨q,j,none⟩) hq).trans (h.thaw j hj))
theorem own_loc {e:TypeId} {w w':World} {B K n:Nat} {v:Value} {F:List Value} (h:w.ownsRow B e K v n F) (hq:∀ k,v.ownBlock=some k→w'.heap[k]?=w.heap[k]?):w'.ownsRow B e K v n F:=by
 refine ⟨h.1,?_⟩
 rcases h.2 with h' | ⟨g,cap,cur,h1,hB,hg,h4⟩
 ·exact .inl h'
 ·exact .inr ⟨g,cap,cur,h1,hB,by rw [hq g (by rw [h1];rfl)];exact hg,h4⟩
def valR (i:Nat) (nd:List Nat) (v:Value):Rsc:=⟨fun σ _=>σ i=v,fun _ _=>False,[i],[],nd⟩
theorem valR_ok {Bs:Nat→Prop} (i:Nat) (nd:List Nat) (v:Value):(valR i nd v).Ok Bs :=
 ⟨fun σ w w' h _=>h,fun σ σ' h=>⟨fun w hf=>(h i (by simp [valR])).trans hf,fun b hb=>hb⟩⟩
def retR (i:Nat) (nd:List Nat) (F:Value→World→Prop) (ow:Value→Nat→Prop):Rsc:=⟨fun σ w=>F (σ i) w,fun σ b=>ow (σ i) b,[i],[],nd⟩
theorem retR_ok {Bs:Nat→Prop} (i:Nat) (nd:List Nat) (F:Value→World→Prop) (ow:Value→Nat→Prop) (h:∀ v w w',F v w→Keep (fun b=>Bs b ∨ ow v b) w w'→F v w'):(retR i nd F ow).Ok Bs :=
 ⟨fun σ w w' hf hk=>h (σ i) w w' hf hk,fun σ σ' hh=>by
  have h1:=hh i (by simp [retR])
  exact ⟨fun w hf=>by show F (σ' i) w;rw [h1];exact hf,fun b hb=>by show ow (σ i) b;rw [← h1];exact hb⟩⟩
theorem left_below {R:List Rsc} {r:Rsc} {i:Nat} {σ:Nat→Value} {w:World} {v:Value} {w':World} (hf:r.fact (upd σ i v) w') (ho:∀ b,r.own (upd σ i v) b→w.heap.size≤b∧b<w'.heap.size) (hb:Below w.heap.size w w'):Left R r i σ w v w' :=
 ⟨hf,fun b h=>.inr (ho b h),⟨hb.os,hb.tape,hb.output,hb.size,fun k hk=>hb.block k hk.1⟩⟩
theorem left_val {R:List Rsc} {i:Nat} {nd:List Nat} {σ:Nat→Value} {w:World} {v:Value}:Left R (valR i nd v) i σ w v w :=
 left_below (upd_self σ i v) (fun b h=>h.elim) (Below.refl _ _)
theorem left_valB {R:List Rsc} {i:Nat} {nd:List Nat} {σ:Nat→Value} {w w':World} {v:Value} (hb:Below w.heap.size w w'):Left R (valR i nd v) i σ w v w' :=
 left_below (upd_self σ i v) (fun b h=>h.elim) hb
theorem left_ret {R:List Rsc} {i:Nat} {nd:List Nat} {σ:Nat→Value} {w w':World} {v:Value} {F:Value→World→Prop} {ow:Value→Nat→Prop} (hf:F v w') (ho:∀ b,ow v b→w.heap.size≤b∧b<w'.heap.size) (hb:Below w.heap.size w w'):Left R (retR i nd F ow) i σ w v w' :=
 left_below (by show F (upd σ i v i) w';rw [upd_self];exact hf) (fun b h=>ho b (by have h2:ow (upd σ i v i) b:=h;rwa [upd_self] at h2)) hb
theorem keep_below {w w':World} (h:Keep (fun b=>b<w.heap.size) { w with drawn:=w.drawn+1 } w'):Below w.heap.size w w':=⟨h.os,h.tape,h.output,h.size,h.block⟩
theorem fact_of {Bs:Nat→Prop} {R:List Rsc} {σ:Nat→Value} {w:World}:∀ {l:List Nat} {j:Nat} {r:Rsc},factsOf Bs R σ w l→l.contains j=true→R[j]?=some r→r.fact σ w
 | x :: l,j,r,h,hm,hr=>by
  rcases List.mem_cons.1 (List.contains_iff_mem.1 hm) with e | e
  ·subst e
   obtain ⟨r',hr',hf,_⟩:=h.1
   rw [hr] at hr';cases hr'
   exact hf
  ·exact fact_of h.2 (List.contains_iff_mem.2 e) hr
theorem walk_cons {P:Program} {ops:Array Oper} {Bs:Nat→Prop} {wS:World} {R:List Rsc} {o:Oper} {l:List Oper} {r:Rsc} {rs:List Rsc} {i:Nat} {Fr:(Nat→Value)→Act}
  (h:StepAt P ops Bs wS R i o r Fr) (hr:Walk P ops Bs wS R l rs (i+1) (fun σ=>(Fr σ).put o.dst (σ i))):Walk P ops Bs wS R (o :: l) (r :: rs) i Fr:=⟨h,hr⟩
theorem walk_nil {P:Program} {ops:Array Oper} {Bs:Nat→Prop} {wS:World} {R:List Rsc} {rs:List Rsc} {i:Nat} {Fr:(Nat→Value)→Act}:Walk P ops Bs wS R [] rs i Fr:=trivial
structure Yld (P:Program) (post:Value→World→Prop) (res:Result Next):Prop where
 out:relUpon P post res
theorem yld_val {P:Program} {post:Value→World→Prop} {u:Value} {w:World} (h:post u w):Yld P post (.ok (.value u) w):=⟨h⟩
theorem yld_skip {P:Program} {post:Value→World→Prop} {w:World} (h:post undef w):Yld P post (.ok .skip w):=⟨h⟩
theorem yld_call {P:Program} {post:Value→World→Prop} {w:World} {f:FuncId} {args:Array Value} (h:Calls P f args w fun e w''=>∃ v,e=.returned v∧post v w''):Yld P post (.ok (.enter f args) w):=⟨h⟩
theorem yld_get {P:Program} {post:Value→World→Prop} {o:Oper} {a:Act} {w:World} (t:TypeId) (x:Operand) (ho:o.op=.load t x) {q:Nat} (hx:a.eval x=.pointer (some ⟨q,0,none⟩)) {cs:List Value} (hb:Bx w q cs) (d:TypeDesc) (hu:P.underlying t=some d) (hd:d.isRow=true)
  (hi:(P.info? t).map (·.size)=some cs.length) (h:post (.agg cs.toArray) w):Yld P post ((execOp a.eval o).run P w):=by
 refine ⟨?_⟩
 unfold execOp
 simp only [ho,hx,Instr.loadAt,Instr.sureAddr,Sem.run_bind,Sem.run_pure,Result.andThen_ok,run_loadVar_mid w q 0 t cs d hb.cl hu hd hi]
 exact h
theorem step_want {P:Program} {ops:Array Oper} {Bs:Nat→Prop} {wS:World} {R:List Rsc} {o:Oper} {r:Rsc} {i:Nat} {Fr:(Nat→Value)→Act} (hg:o.guard=none)
  (h:∀ σ w,Keep Bs wS w→factsOf Bs R σ w (r.tk ++ r.nd)→∀ post:Value→World→Prop,(∀ v w',Left R r i σ w v w'→post v w')→Yld P post ((execOp (Fr σ).eval o).run P w)):StepAt P ops Bs wS R i o r Fr:=by
 intro σ w hK hF
 rw [if_pos (by unfold Region.wanted;rw [hg])]
 exact (h σ w hK hF _ (fun _ _ h=>h)).out
end Rel
end Go.Proofs.YtbeehlhcckndcaaGreat
