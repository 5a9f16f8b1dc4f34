/- Flows and lists of them in the laws: measured, copied, compared. Connections and segments in the laws: copied, measured, compared. Lists of connections in the laws: measured, copied, compared. Append and slices.Clone of places, rules, roles, flows and connections. Gateways in the laws: measured, copied, compared. Regions by resources: the kinds of resources. -/
import Derived.Test.YtbeehlhcckndcaaGreatK11
import Derived.Test.YtbeehlhcckndcaaGreatK0
import Derived.Test.YtbeehlhcckndcaaGreatK1
import Derived.Test.YtbeehlhcckndcaaGreatK4
import Derived.Test.YtbeehlhcckndcaaGreatK10
import Derived.Test.YtbeehlhcckndcaaGreatK3
namespace Go.Proofs.YtbeehlhcckndcaaGreat
open Go.RowKit Go.PlainAid Go.Proofs.YtbeehlhcckndcaaGreat.Bt Go.Sort
set_option linter.unusedVariables false
set_option maxRecDepth 20000
set_option maxHeartbeats 1000000 in
theorem eqFlow_any (pr:Int) (mc:ByteArray) (si sp di dp st un ow:Int) (w:World) :
  Calls Tryz.prog 97 #[.agg #[.int .i64 pr,.string mc,.int .i64 si,.int .i64 sp,.int .i64 di,.int .i64 dp,.int .i64 st,.int .i64 un,.int .i64 ow],.agg #[.int .i64 pr,.string mc,.int .i64 si,.int .i64 sp,.int .i64 di,.int .i64 dp,.int .i64 st,.int .i64 un,.int .i64 ow]] w fun e w'=>e=.returned (.bool true)∧Grw w w':=by
 have h0:(pr != pr)=false:=by simp
 have h1:(mc.toList == mc.toList)=true:=by simp
 have h2:(si != si)=false:=by simp
 have h3:(sp != sp)=false:=by simp
 have h4:(di != di)=false:=by simp
 have h5:(dp != dp)=false:=by simp
 have h6:(st != st)=false:=by simp
 have h7:(un != un)=false:=by simp
 have h8:(ow != ow)=false:=by simp
 go_enter Tryz.func97,Tryz.ntmps97
 go_wp2
 go_ret
 exact ⟨rfl,((Grw.refl _).alloc _).alloc _⟩
theorem infoFlow:(Tryz.prog.info? 159).map (fun i=>(i.zero,i.size,i.bytes))=some (some (.agg #[.int .i64 0,.string ⟨#[]⟩,.int .i64 0,.int .i64 0,.int .i64 0,.int .i64 0,.int .i64 0,.int .i64 0,.int .i64 0]),9,80):=by kernel_rfl
set_option maxHeartbeats 2000000 in
theorem eqFlowS_yes (a a':Option Addr) (len cap cap':Nat) (xs:List FlowV) (w:World) (h:Rw FlR 9 w a xs) (h':Rw FlR 9 w a' xs) (hl:xs.length=len) (hlen:len≤9223372036854775807) :
  Calls Tryz.prog 39 #[.slice a len cap,.slice a' len cap'] w fun e w'=>e=.returned (.bool true)∧Grw w w':=by
 have hne:((len:Int) != (len:Int))=false:=by simp
 have hmix:Tryz.prog.follows .mixedOrders=true:=by kernel_rfl
 have RW:Hid (Rw FlR 9 w a xs):=h
 have RW':Hid (Rw FlR 9 w a' xs):=h'
 clear h h'
 go_enter Tryz.func39,Tryz.ntmps39
 go_wp2
 go_loopw [5] (fun i wr=>∃ k:Nat,k≤len∧i=.int .i64 k∧Hid (Grw w wr)) (fun i _=>len - (intOf i).toNat)
 case atStart=>exact ⟨0,Nat.zero_le _,rfl,Grw.refl w⟩
 case round =>
  obtain ⟨k,hk,rfl,HG⟩:=hrel
  by_cases hlt:k<len
  ·obtain ⟨x,hx⟩:=at_of hl hlt
   obtain ⟨b,off,vs,rfl,hb,hvl,hR,hc⟩:=RW.out.at FR.kp HG.out.below hx
   obtain ⟨b',off',vs',rfl,hb',hvl',hR',hc'⟩:=RW'.out.at FR.kp HG.out.below hx
   obtain ⟨pr,mc,si,sp,di,dp,st,un,ow⟩:=x
   obtain ⟨rfl,-⟩:=hR
   obtain ⟨rfl,-⟩:=hR'
   have q0:∀ n os,(grow (wr.drewN n) os).cell? ⟨b,off+k * 9,none⟩=some (.int .i64 pr):=fun n os=>grown_cell hb HG.out (hc 0 _ rfl) n os
   have q1:∀ n os,(grow (wr.drewN n) os).cell? ⟨b,off+k * 9+1,none⟩=some (.string mc):=fun n os=>grown_cell hb HG.out (hc 1 _ rfl) n os
   have q2:∀ n os,(grow (wr.drewN n) os).cell? ⟨b,off+k * 9+2,none⟩=some (.int .i64 si):=fun n os=>grown_cell hb HG.out (hc 2 _ rfl) n os
   have q3:∀ n os,(grow (wr.drewN n) os).cell? ⟨b,off+k * 9+3,none⟩=some (.int .i64 sp):=fun n os=>grown_cell hb HG.out (hc 3 _ rfl) n os
   have q4:∀ n os,(grow (wr.drewN n) os).cell? ⟨b,off+k * 9+4,none⟩=some (.int .i64 di):=fun n os=>grown_cell hb HG.out (hc 4 _ rfl) n os
   have q5:∀ n os,(grow (wr.drewN n) os).cell? ⟨b,off+k * 9+5,none⟩=some (.int .i64 dp):=fun n os=>grown_cell hb HG.out (hc 5 _ rfl) n os
   have q6:∀ n os,(grow (wr.drewN n) os).cell? ⟨b,off+k * 9+6,none⟩=some (.int .i64 st):=fun n os=>grown_cell hb HG.out (hc 6 _ rfl) n os
   have q7:∀ n os,(grow (wr.drewN n) os).cell? ⟨b,off+k * 9+7,none⟩=some (.int .i64 un):=fun n os=>grown_cell hb HG.out (hc 7 _ rfl) n os
   have q8:∀ n os,(grow (wr.drewN n) os).cell? ⟨b,off+k * 9+8,none⟩=some (.int .i64 ow):=fun n os=>grown_cell hb HG.out (hc 8 _ rfl) n os
   have r0:∀ n os,(grow (wr.drewN n) os).cell? ⟨b',off'+k * 9,none⟩=some (.int .i64 pr):=fun n os=>grown_cell hb' HG.out (hc' 0 _ rfl) n os
   have r1:∀ n os,(grow (wr.drewN n) os).cell? ⟨b',off'+k * 9+1,none⟩=some (.string mc):=fun n os=>grown_cell hb' HG.out (hc' 1 _ rfl) n os
   have r2:∀ n os,(grow (wr.drewN n) os).cell? ⟨b',off'+k * 9+2,none⟩=some (.int .i64 si):=fun n os=>grown_cell hb' HG.out (hc' 2 _ rfl) n os
   have r3:∀ n os,(grow (wr.drewN n) os).cell? ⟨b',off'+k * 9+3,none⟩=some (.int .i64 sp):=fun n os=>grown_cell hb' HG.out (hc' 3 _ rfl) n os
   have r4:∀ n os,(grow (wr.drewN n) os).cell? ⟨b',off'+k * 9+4,none⟩=some (.int .i64 di):=fun n os=>grown_cell hb' HG.out (hc' 4 _ rfl) n os
   have r5:∀ n os,(grow (wr.drewN n) os).cell? ⟨b',off'+k * 9+5,none⟩=some (.int .i64 dp):=fun n os=>grown_cell hb' HG.out (hc' 5 _ rfl) n os
   have r6:∀ n os,(grow (wr.drewN n) os).cell? ⟨b',off'+k * 9+6,none⟩=some (.int .i64 st):=fun n os=>grown_cell hb' HG.out (hc' 6 _ rfl) n os
   have r7:∀ n os,(grow (wr.drewN n) os).cell? ⟨b',off'+k * 9+7,none⟩=some (.int .i64 un):=fun n os=>grown_cell hb' HG.out (hc' 7 _ rfl) n os
   have r8:∀ n os,(grow (wr.drewN n) os).cell? ⟨b',off'+k * 9+8,none⟩=some (.int .i64 ow):=fun n os=>grown_cell hb' HG.out (hc' 8 _ rfl) n os
   have HE:Hid (∀ w,Calls Tryz.prog 97 #[.agg #[.int .i64 pr,.string mc,.int .i64 si,.int .i64 sp,.int .i64 di,.int .i64 dp,.int .i64 st,.int .i64 un,.int .i64 ow],.agg #[.int .i64 pr,.string mc,.int .i64 si,.int .i64 sp,.int .i64 di,.int .i64 dp,.int .i64 st,.int .i64 un,.int .i64 ow]] w fun e w'=>e=.returned (.bool true)∧Grw w w'):=fun w=>eqFlow_any pr mc si sp di dp st un ow w
   have hltz:(k:Int)<(len:Int):=by omega
   clear hc hc'
   go_wp2_with fail
   refine wp_region_quiet_grown (by assumption) (by kernel_rfl) ?_
   repeat (go_big_quiet_step (first | fail | (go_at_call 97;exact Calls.grown_of (HE.out _))))
   refine wpQuiet_nil ?_
   intro _ hw'
   obtain ⟨⟨nq,osq⟩,hw''⟩:=hw'
   subst hw''
   have HG2:Hid (Grw w (grow (wr.drewN nq) osq)):=HG.out.trans ⟨nq,osq,rfl⟩
   clear q0 q1 q2 q3 q4 q5 q6 q7 q8 r0 r1 r2 r3 r4 r5 r6 r7 r8 HG HE
   go_wp2
   go_roundw
   case rel=>exact ⟨k+1,by omega,by go_num,HG2⟩
   case measure=>simp [intOf];omega
  ·obtain rfl:k=len:=by omega
   go_wp2
   go_ret
   exact ⟨rfl,HG.out⟩
set_option maxHeartbeats 1000000 in
theorem eqConn_any (mc:ByteArray) (ip po di st un nx wa:Int) (inn out:ByteArray) (fin:Bool) (w:World) :
  Calls Tryz.prog 98 #[.agg #[.string mc,.int .i64 ip,.int .i64 po,.int .i64 di,.int .i64 st,.int .i64 un,.int .i64 nx,.int .i64 wa,.string inn,.string out,.bool fin],.agg #[.string mc,.int .i64 ip,.int .i64 po,.int .i64 di,.int .i64 st,.int .i64 un,.int .i64 nx,.int .i64 wa,.string inn,.string out,.bool fin]] w fun e w'=>e=.returned (.bool true)∧Grw w w':=by
 have h0:(mc.toList == mc.toList)=true:=by simp
 have h1:(ip != ip)=false:=by simp
 have h2:(po != po)=false:=by simp
 have h3:(di != di)=false:=by simp
 have h4:(st != st)=false:=by simp
 have h5:(un != un)=false:=by simp
 have h6:(nx != nx)=false:=by simp
 have h7:(wa != wa)=false:=by simp
 have h8:(inn.toList == inn.toList)=true:=by simp
 have h9:(out.toList == out.toList)=true:=by simp
 have h10:(fin != fin)=false:=by simp
 go_enter Tryz.func98,Tryz.ntmps98
 go_wp2
 go_ret
 exact ⟨rfl,((Grw.refl _).alloc _).alloc _⟩
theorem infoConn:(Tryz.prog.info? 162).map (fun i=>(i.zero,i.size,i.bytes))=some (some (.agg #[.string ⟨#[]⟩,.int .i64 0,.int .i64 0,.int .i64 0,.int .i64 0,.int .i64 0,.int .i64 0,.int .i64 0,.string ⟨#[]⟩,.string ⟨#[]⟩,.bool false]),11,112):=by kernel_rfl
set_option maxHeartbeats 2000000 in
theorem eqConnS_yes (a a':Option Addr) (len cap cap':Nat) (xs:List ConnV) (w:World) (h:Rw CnR 11 w a xs) (h':Rw CnR 11 w a' xs) (hl:xs.length=len) (hlen:len≤9223372036854775807) :
  Calls Tryz.prog 40 #[.slice a len cap,.slice a' len cap'] w fun e w'=>e=.returned (.bool true)∧Grw w w':=by
 have hne:((len:Int) != (len:Int))=false:=by simp
 have hmix:Tryz.prog.follows .mixedOrders=true:=by kernel_rfl
 have RW:Hid (Rw CnR 11 w a xs):=h
 have RW':Hid (Rw CnR 11 w a' xs):=h'
 clear h h'
 go_enter Tryz.func40,Tryz.ntmps40
 go_wp2
 go_loopw [5] (fun i wr=>∃ k:Nat,k≤len∧i=.int .i64 k∧Hid (Grw w wr)) (fun i _=>len - (intOf i).toNat)
 case atStart=>exact ⟨0,Nat.zero_le _,rfl,Grw.refl w⟩
 case round =>
  obtain ⟨k,hk,rfl,HG⟩:=hrel
  by_cases hlt:k<len
  ·obtain ⟨x,hx⟩:=at_of hl hlt
   obtain ⟨b,off,vs,rfl,hb,hvl,hR,hc⟩:=RW.out.at FR.kp HG.out.below hx
   obtain ⟨b',off',vs',rfl,hb',hvl',hR',hc'⟩:=RW'.out.at FR.kp HG.out.below hx
   obtain ⟨mc,ip,po,di,st,un,nx,wa,inn,out,fin⟩:=x
   obtain ⟨rfl,-⟩:=hR
   obtain ⟨rfl,-⟩:=hR'
   have q0:∀ n os,(grow (wr.drewN n) os).cell? ⟨b,off+k * 11,none⟩=some (.string mc):=fun n os=>grown_cell hb HG.out (hc 0 _ rfl) n os
   have q1:∀ n os,(grow (wr.drewN n) os).cell? ⟨b,off+k * 11+1,none⟩=some (.int .i64 ip):=fun n os=>grown_cell hb HG.out (hc 1 _ rfl) n os
   have q2:∀ n os,(grow (wr.drewN n) os).cell? ⟨b,off+k * 11+2,none⟩=some (.int .i64 po):=fun n os=>grown_cell hb HG.out (hc 2 _ rfl) n os
   have q3:∀ n os,(grow (wr.drewN n) os).cell? ⟨b,off+k * 11+3,none⟩=some (.int .i64 di):=fun n os=>grown_cell hb HG.out (hc 3 _ rfl) n os
   have q4:∀ n os,(grow (wr.drewN n) os).cell? ⟨b,off+k * 11+4,none⟩=some (.int .i64 st):=fun n os=>grown_cell hb HG.out (hc 4 _ rfl) n os
   have q5:∀ n os,(grow (wr.drewN n) os).cell? ⟨b,off+k * 11+5,none⟩=some (.int .i64 un):=fun n os=>grown_cell hb HG.out (hc 5 _ rfl) n os
   have q6:∀ n os,(grow (wr.drewN n) os).cell? ⟨b,off+k * 11+6,none⟩=some (.int .i64 nx):=fun n os=>grown_cell hb HG.out (hc 6 _ rfl) n os
   have q7:∀ n os,(grow (wr.drewN n) os).cell? ⟨b,off+k * 11+7,none⟩=some (.int .i64 wa):=fun n os=>grown_cell hb HG.out (hc 7 _ rfl) n os
   have q8:∀ n os,(grow (wr.drewN n) os).cell? ⟨b,off+k * 11+8,none⟩=some (.string inn):=fun n os=>grown_cell hb HG.out (hc 8 _ rfl) n os
   have q9:∀ n os,(grow (wr.drewN n) os).cell? ⟨b,off+k * 11+9,none⟩=some (.string out):=fun n os=>grown_cell hb HG.out (hc 9 _ rfl) n os
   have q10:∀ n os,(grow (wr.drewN n) os).cell? ⟨b,off+k * 11+10,none⟩=some (.bool fin):=fun n os=>grown_cell hb HG.out (hc 10 _ rfl) n os
   have r0:∀ n os,(grow (wr.drewN n) os).cell? ⟨b',off'+k * 11,none⟩=some (.string mc):=fun n os=>grown_cell hb' HG.out (hc' 0 _ rfl) n os
   have r1:∀ n os,(grow (wr.drewN n) os).cell? ⟨b',off'+k * 11+1,none⟩=some (.int .i64 ip):=fun n os=>grown_cell hb' HG.out (hc' 1 _ rfl) n os
   have r2:∀ n os,(grow (wr.drewN n) os).cell? ⟨b',off'+k * 11+2,none⟩=some (.int .i64 po):=fun n os=>grown_cell hb' HG.out (hc' 2 _ rfl) n os
   have r3:∀ n os,(grow (wr.drewN n) os).cell? ⟨b',off'+k * 11+3,none⟩=some (.int .i64 di):=fun n os=>grown_cell hb' HG.out (hc' 3 _ rfl) n os
   have r4:∀ n os,(grow (wr.drewN n) os).cell? ⟨b',off'+k * 11+4,none⟩=some (.int .i64 st):=fun n os=>grown_cell hb' HG.out (hc' 4 _ rfl) n os
   have r5:∀ n os,(grow (wr.drewN n) os).cell? ⟨b',off'+k * 11+5,none⟩=some (.int .i64 un):=fun n os=>grown_cell hb' HG.out (hc' 5 _ rfl) n os
   have r6:∀ n os,(grow (wr.drewN n) os).cell? ⟨b',off'+k * 11+6,none⟩=some (.int .i64 nx):=fun n os=>grown_cell hb' HG.out (hc' 6 _ rfl) n os
   have r7:∀ n os,(grow (wr.drewN n) os).cell? ⟨b',off'+k * 11+7,none⟩=some (.int .i64 wa):=fun n os=>grown_cell hb' HG.out (hc' 7 _ rfl) n os
   have r8:∀ n os,(grow (wr.drewN n) os).cell? ⟨b',off'+k * 11+8,none⟩=some (.string inn):=fun n os=>grown_cell hb' HG.out (hc' 8 _ rfl) n os
   have r9:∀ n os,(grow (wr.drewN n) os).cell? ⟨b',off'+k * 11+9,none⟩=some (.string out):=fun n os=>grown_cell hb' HG.out (hc' 9 _ rfl) n os
   have r10:∀ n os,(grow (wr.drewN n) os).cell? ⟨b',off'+k * 11+10,none⟩=some (.bool fin):=fun n os=>grown_cell hb' HG.out (hc' 10 _ rfl) n os
   have HE:Hid (∀ w,Calls Tryz.prog 98 #[.agg #[.string mc,.int .i64 ip,.int .i64 po,.int .i64 di,.int .i64 st,.int .i64 un,.int .i64 nx,.int .i64 wa,.string inn,.string out,.bool fin],.agg #[.string mc,.int .i64 ip,.int .i64 po,.int .i64 di,.int .i64 st,.int .i64 un,.int .i64 nx,.int .i64 wa,.string inn,.string out,.bool fin]] w fun e w'=>e=.returned (.bool true)∧Grw w w'):=fun w=>eqConn_any mc ip po di st un nx wa inn out fin w
   have hltz:(k:Int)<(len:Int):=by omega
   clear hc hc'
   go_wp2_with fail
   refine wp_region_quiet_grown (by assumption) (by kernel_rfl) ?_
   repeat (go_big_quiet_step (first | fail | (go_at_call 98;exact Calls.grown_of (HE.out _))))
   refine wpQuiet_nil ?_
   intro _ hw'
   obtain ⟨⟨nq,osq⟩,hw''⟩:=hw'
   subst hw''
   have HG2:Hid (Grw w (grow (wr.drewN nq) osq)):=HG.out.trans ⟨nq,osq,rfl⟩
   clear q0 q1 q2 q3 q4 q5 q6 q7 q8 q9 q10 r0 r1 r2 r3 r4 r5 r6 r7 r8 r9 r10 HG HE
   go_wp2
   go_roundw
   case rel=>exact ⟨k+1,by omega,by go_num,HG2⟩
   case measure=>simp [intOf];omega
  ·obtain rfl:k=len:=by omega
   go_wp2
   go_ret
   exact ⟨rfl,HG.out⟩
def RoXok (x:RoX):Prop:=x.r.nm.size≤maxLen
abbrev RoXR:=FR roG RoXok
theorem onePlaceC (ys:List PlaceV):∀ u ∈ flatS pv ys,u.oneCell'=true:=by
 intro u hu
 unfold flatS at hu
 rw [List.mem_flatMap] at hu
 obtain ⟨f,_,hf⟩:=hu
 simp [pv] at hf
 rcases hf with rfl | rfl | rfl | rfl <;> rfl
theorem wpl_PlaceC (w:World) {ops:Array Oper} {rest:List Oper} {o:Oper} {a:Act} {Q:Exit→Act→World→Prop} (hgd:o.guard=none) (s x:Operand)
  (ho:o.op=.call { callee:=.builtin .append,args:=#[s,x],argTypes:=#[37,37] })
  (B:Nat) (v:Value) (L ys:List PlaceV) (hs:a.eval s=v) (hown:OwnS pv 4 135 w B v L)
  (g off m c:Nat) (hm:ys.length=m) (hx:a.eval x=.slice (some ⟨g,off,none⟩) m c) (hc:∀ j u,(flatS pv ys)[j]?=some u→w.cell? ⟨g,off+j,none⟩=some u)
  (hlen:L.length+m≤2000000) (hB:B≤w.heap.size)
  (h:∀ v' w',Hid (OwnS pv 4 135 w' B v' (L ++ ys)∧Below B w w')→w.grownBy w' v.ownBlock→wpList Tryz.prog ops Q rest (a.put o.dst v') w'):wpList Tryz.prog ops Q (o :: rest) a w:=by
 obtain ⟨i0,hi,hz0,hz1,hz2⟩:=info_parts infoPlace
 refine wpList_append_own w hgd s x 37 ho B 135 i0 (.agg #[.int .i64 0,.int .i64 0,.int .i64 0,.int .i64 0]) 4 32 Tryz.underlying37 hi hz0 hz1 hz2 rfl (by decide) v L.length (flatS pv L) hs hown ⟨g,off,none⟩ m c (flatS pv ys) hx (by rw [flatS_len pv_len,hm]) ?_
  (onePlaceC ys) (by unfold maxLen;omega) (by omega) hB ?_
 ·intro j u hu
  rw [addn]
  exact hc j u hu
 ·intro v' w' h2 h3 _
  subst hm
  exact h v' w' (hown.join hB h2 h3) h3
theorem wpl_PlaceCS (w:World) {ops:Array Oper} {rest:List Oper} {o:Oper} {a:Act} {Q:Exit→Act→World→Prop} (hgd:o.guard=none) (s x:Operand)
  (ho:o.op=.call { callee:=.builtin .append,args:=#[s,x],argTypes:=#[37,37] })
  (B:Nat) (v:Value) (L ys:List PlaceV) (hs:a.eval s=v) (hown:OwnS pv 4 135 w B v L)
  (p:Option Addr) (m c:Nat) (hrw:Rw PlR 4 w p ys) (hm:ys.length=m) (hsp:∀ q,p=some q→q.spot=none) (hnil:p=none→m=0∧c=0) (hx:a.eval x=.slice p m c)
  (hlen:L.length+m≤2000000) (hB:B≤w.heap.size)
  (h:∀ v' w',Hid (OwnS pv 4 135 w' B v' (L ++ ys)∧Below B w w')→w.grownBy w' v.ownBlock→wpList Tryz.prog ops Q rest (a.put o.dst v') w'):wpList Tryz.prog ops Q (o :: rest) a w:=by
 cases p with
 | some q =>
  obtain ⟨b,off,pt⟩:=q
  obtain rfl:pt=none:=hsp _ rfl
  have h':Rw (FR pv PlRok) 4 w (some ⟨b,off,none⟩) ys:=hrw
  exact wpl_PlaceC w hgd s x ho B v L ys hs hown b off m c hm hx (flat_rw h' pv_len (by omega)) hlen hB h
 | none =>
  obtain ⟨rfl,rfl⟩:=hnil rfl
  obtain rfl:ys=[]:=List.length_eq_zero_iff.1 hm
  obtain ⟨i0,hi,hz0,hz1,hz2⟩:=info_parts infoPlace
  refine wpList_append_own_none hgd s x 37 ho B 135 i0 4 Tryz.underlying37 hi v L.length (flatS pv L) hs hown hx (h v w ?_ (grown_refl w _))
  rw [List.append_nil]
  exact ⟨hown,Below.refl _ _⟩
theorem clonePlace_some (b off len cap:Nat) (xs:List PlaceV) (w:World) (h:Rw PlR 4 w (some ⟨b,off,none⟩) xs) (hl:xs.length=len) (hm:len≤1048576) (hc:len≤cap) :
  Calls Tryz.prog 91 #[.slice (some ⟨b,off,none⟩) len cap] w fun e w'=>∃ v,e=.returned v∧OwnS pv 4 135 w' w.heap.size v xs∧Below w.heap.size w w':=by
 have h':Rw (FR pv PlRok) 4 w (some ⟨b,off,none⟩) xs:=h
 have RC:Hid (∀ j u,(flatS pv xs)[j]?=some u→w.cell? ⟨b,off+j,none⟩=some u):=flat_rw h' pv_len (by omega)
 have q22:(binOp .eql 37 (.slice (some ⟨b,off,none⟩) len cap) (.slice none 0 0)).run Tryz.prog w=.ok (.bool false) w:=Lib.run_eql_slice_nil w _ _ (some ⟨b,off,none⟩) len cap 0 0 Tryz.underlying37
 clear h h'
 go_enter Tryz.func91,Tryz.ntmps91
 go_wp2_with (at_builtin;refine wpl_PlaceC _ rfl (.tmp 5) (.tmp 6) rfl w.heap.size _ [] xs rfl (OwnS.lit w _ (Nat.le_refl _)) b off len cap hl rfl (fun j u hu=>acell (RC.out j u hu) _) (by simp;omega) (by simp) ?_;intro v' w3 Y _)
 have Y2:Hid (OwnS pv 4 135 w3 w.heap.size v' xs∧Below w.heap.size w w3):=⟨Y.out.1,((Below.refl _ _).alloc (Nat.le_refl _) _).trans Y.out.2⟩
 clear Y
 go_wp2
 go_ret
 exact ⟨_,rfl,Y2.out.1,Y2.out.2⟩
theorem clonePlace_any (a:Option Addr) (len cap:Nat) (xs:List PlaceV) (w:World) (h:Rw PlR 4 w a xs) (hl:xs.length=len) (hm:len≤1048576) (hc:len≤cap) (ha:∀ p,a=some p→p.spot=none) (hn:a=none→len=0∧cap=0) :
  Calls Tryz.prog 91 #[.slice a len cap] w fun e w'=>∃ v,e=.returned v∧OwnS pv 4 135 w' w.heap.size v xs∧Below w.heap.size w w':=by
 cases a with
 | some p =>
  obtain ⟨b,off,pt⟩:=p
  obtain rfl:pt=none:=ha _ rfl
  exact clonePlace_some b off len cap xs w h hl hm hc
 | none =>
  obtain ⟨rfl,rfl⟩:=hn rfl
  obtain rfl:xs=[]:=List.length_eq_zero_iff.1 hl
  have q22:(binOp .eql 37 (.slice none 0 0) (.slice none 0 0)).run Tryz.prog w=.ok (.bool true) w:=Lib.run_eql_slice_nil w _ _ none 0 0 0 0 Tryz.underlying37
  go_enter Tryz.func91,Tryz.ntmps91
  go_wp2
  go_ret
  exact ⟨_,rfl,OwnS.nil _ _,Below.refl _ _⟩
theorem oneRuleC (ys:List RuleV):∀ u ∈ flatS rv ys,u.oneCell'=true:=by
 intro u hu
 unfold flatS at hu
 rw [List.mem_flatMap] at hu
 obtain ⟨f,_,hf⟩:=hu
 simp [rv] at hf
 rcases hf with rfl | rfl | rfl | rfl | rfl | rfl <;> rfl
theorem wpl_RuleC (w:World) {ops:Array Oper} {rest:List Oper} {o:Oper} {a:Act} {Q:Exit→Act→World→Prop} (hgd:o.guard=none) (s x:Operand)
  (ho:o.op=.call { callee:=.builtin .append,args:=#[s,x],argTypes:=#[140,140] })
  (B:Nat) (v:Value) (L ys:List RuleV) (hs:a.eval s=v) (hown:OwnS rv 6 156 w B v L)
  (g off m c:Nat) (hm:ys.length=m) (hx:a.eval x=.slice (some ⟨g,off,none⟩) m c) (hc:∀ j u,(flatS rv ys)[j]?=some u→w.cell? ⟨g,off+j,none⟩=some u)
  (hlen:L.length+m≤2000000) (hB:B≤w.heap.size)
  (h:∀ v' w',Hid (OwnS rv 6 156 w' B v' (L ++ ys)∧Below B w w')→w.grownBy w' v.ownBlock→wpList Tryz.prog ops Q rest (a.put o.dst v') w'):wpList Tryz.prog ops Q (o :: rest) a w:=by
 obtain ⟨i0,hi,hz0,hz1,hz2⟩:=info_parts infoRule
 refine wpList_append_own w hgd s x 140 ho B 156 i0 (.agg #[.int .i64 0,.int .i64 0,.int .i64 0,.int .i64 0,.int .i64 0,.bool false]) 6 48 Tryz.underlying140 hi hz0 hz1 hz2 rfl (by decide) v L.length (flatS rv L) hs hown ⟨g,off,none⟩ m c (flatS rv ys) hx (by rw [flatS_len rv_len,hm]) ?_
  (oneRuleC ys) (by unfold maxLen;omega) (by omega) hB ?_
 ·intro j u hu
  rw [addn]
  exact hc j u hu
 ·intro v' w' h2 h3 _
  subst hm
  exact h v' w' (hown.join hB h2 h3) h3
theorem wpl_RuleCS (w:World) {ops:Array Oper} {rest:List Oper} {o:Oper} {a:Act} {Q:Exit→Act→World→Prop} (hgd:o.guard=none) (s x:Operand)
  (ho:o.op=.call { callee:=.builtin .append,args:=#[s,x],argTypes:=#[140,140] })
  (B:Nat) (v:Value) (L ys:List RuleV) (hs:a.eval s=v) (hown:OwnS rv 6 156 w B v L)
  (p:Option Addr) (m c:Nat) (hrw:Rw RuR 6 w p ys) (hm:ys.length=m) (hsp:∀ q,p=some q→q.spot=none) (hnil:p=none→m=0∧c=0) (hx:a.eval x=.slice p m c)
  (hlen:L.length+m≤2000000) (hB:B≤w.heap.size)
  (h:∀ v' w',Hid (OwnS rv 6 156 w' B v' (L ++ ys)∧Below B w w')→w.grownBy w' v.ownBlock→wpList Tryz.prog ops Q rest (a.put o.dst v') w'):wpList Tryz.prog ops Q (o :: rest) a w:=by
 cases p with
 | some q =>
  obtain ⟨b,off,pt⟩:=q
  obtain rfl:pt=none:=hsp _ rfl
  have h':Rw (FR rv RuRok) 6 w (some ⟨b,off,none⟩) ys:=hrw
  exact wpl_RuleC w hgd s x ho B v L ys hs hown b off m c hm hx (flat_rw h' rv_len (by omega)) hlen hB h
 | none =>
  obtain ⟨rfl,rfl⟩:=hnil rfl
  obtain rfl:ys=[]:=List.length_eq_zero_iff.1 hm
  obtain ⟨i0,hi,hz0,hz1,hz2⟩:=info_parts infoRule
  refine wpList_append_own_none hgd s x 140 ho B 156 i0 6 Tryz.underlying140 hi v L.length (flatS rv L) hs hown hx (h v w ?_ (grown_refl w _))
  rw [List.append_nil]
  exact ⟨hown,Below.refl _ _⟩
theorem cloneRule_some (b off len cap:Nat) (xs:List RuleV) (w:World) (h:Rw RuR 6 w (some ⟨b,off,none⟩) xs) (hl:xs.length=len) (hm:len≤1048576) (hc:len≤cap) :
  Calls Tryz.prog 93 #[.slice (some ⟨b,off,none⟩) len cap] w fun e w'=>∃ v,e=.returned v∧OwnS rv 6 156 w' w.heap.size v xs∧Below w.heap.size w w':=by
 have h':Rw (FR rv RuRok) 6 w (some ⟨b,off,none⟩) xs:=h
 have RC:Hid (∀ j u,(flatS rv xs)[j]?=some u→w.cell? ⟨b,off+j,none⟩=some u):=flat_rw h' rv_len (by omega)
 have q22:(binOp .eql 140 (.slice (some ⟨b,off,none⟩) len cap) (.slice none 0 0)).run Tryz.prog w=.ok (.bool false) w:=Lib.run_eql_slice_nil w _ _ (some ⟨b,off,none⟩) len cap 0 0 Tryz.underlying140
 clear h h'
 go_enter Tryz.func93,Tryz.ntmps93
 go_wp2_with (at_builtin;refine wpl_RuleC _ rfl (.tmp 5) (.tmp 6) rfl w.heap.size _ [] xs rfl (OwnS.lit w _ (Nat.le_refl _)) b off len cap hl rfl (fun j u hu=>acell (RC.out j u hu) _) (by simp;omega) (by simp) ?_;intro v' w3 Y _)
 have Y2:Hid (OwnS rv 6 156 w3 w.heap.size v' xs∧Below w.heap.size w w3):=⟨Y.out.1,((Below.refl _ _).alloc (Nat.le_refl _) _).trans Y.out.2⟩
 clear Y
 go_wp2
 go_ret
 exact ⟨_,rfl,Y2.out.1,Y2.out.2⟩
theorem cloneRule_any (a:Option Addr) (len cap:Nat) (xs:List RuleV) (w:World) (h:Rw RuR 6 w a xs) (hl:xs.length=len) (hm:len≤1048576) (hc:len≤cap) (ha:∀ p,a=some p→p.spot=none) (hn:a=none→len=0∧cap=0) :
  Calls Tryz.prog 93 #[.slice a len cap] w fun e w'=>∃ v,e=.returned v∧OwnS rv 6 156 w' w.heap.size v xs∧Below w.heap.size w w':=by
 cases a with
 | some p =>
  obtain ⟨b,off,pt⟩:=p
  obtain rfl:pt=none:=ha _ rfl
  exact cloneRule_some b off len cap xs w h hl hm hc
 | none =>
  obtain ⟨rfl,rfl⟩:=hn rfl
  obtain rfl:xs=[]:=List.length_eq_zero_iff.1 hl
  have q22:(binOp .eql 140 (.slice none 0 0) (.slice none 0 0)).run Tryz.prog w=.ok (.bool true) w:=Lib.run_eql_slice_nil w _ _ none 0 0 0 0 Tryz.underlying140
  go_enter Tryz.func93,Tryz.ntmps93
  go_wp2
  go_ret
  exact ⟨_,rfl,OwnS.nil _ _,Below.refl _ _⟩
theorem oneRoleC (ys:List RoX):∀ u ∈ flatS roG ys,u.oneCell'=true:=by
 intro u hu
 unfold flatS at hu
 rw [List.mem_flatMap] at hu
 obtain ⟨f,_,hf⟩:=hu
 simp [roG] at hf
 rcases hf with rfl | rfl | rfl | rfl | rfl <;> rfl
theorem wpl_RoleC (w:World) {ops:Array Oper} {rest:List Oper} {o:Oper} {a:Act} {Q:Exit→Act→World→Prop} (hgd:o.guard=none) (s x:Operand)
  (ho:o.op=.call { callee:=.builtin .append,args:=#[s,x],argTypes:=#[38,38] })
  (B:Nat) (v:Value) (L ys:List RoX) (hs:a.eval s=v) (hown:OwnS roG 5 142 w B v L)
  (g off m c:Nat) (hm:ys.length=m) (hx:a.eval x=.slice (some ⟨g,off,none⟩) m c) (hc:∀ j u,(flatS roG ys)[j]?=some u→w.cell? ⟨g,off+j,none⟩=some u)
  (hlen:L.length+m≤2000000) (hB:B≤w.heap.size)
  (h:∀ v' w',Hid (OwnS roG 5 142 w' B v' (L ++ ys)∧Below B w w')→w.grownBy w' v.ownBlock→wpList Tryz.prog ops Q rest (a.put o.dst v') w'):wpList Tryz.prog ops Q (o :: rest) a w:=by
 obtain ⟨i0,hi,hz0,hz1,hz2⟩:=info_parts infoRole
 refine wpList_append_own w hgd s x 38 ho B 142 i0 (.agg #[.string ⟨#[]⟩,.slice none 0 0,.int .i64 0,.int .i64 0,.int .i64 0]) 5 64 Tryz.underlying38 hi hz0 hz1 hz2 rfl (by decide) v L.length (flatS roG L) hs hown ⟨g,off,none⟩ m c (flatS roG ys) hx (by rw [flatS_len roG_len,hm]) ?_
  (oneRoleC ys) (by unfold maxLen;omega) (by omega) hB ?_
 ·intro j u hu
  rw [addn]
  exact hc j u hu
 ·intro v' w' h2 h3 _
  subst hm
  exact h v' w' (hown.join hB h2 h3) h3
theorem cloneRole_some (b off len cap:Nat) (xs:List RoX) (w:World) (h:Rw RoXR 5 w (some ⟨b,off,none⟩) xs) (hl:xs.length=len) (hm:len≤1048576) (hc:len≤cap) :
  Calls Tryz.prog 92 #[.slice (some ⟨b,off,none⟩) len cap] w fun e w'=>∃ v,e=.returned v∧OwnS roG 5 142 w' w.heap.size v xs∧Below w.heap.size w w':=by
 have h':Rw (FR roG RoXok) 5 w (some ⟨b,off,none⟩) xs:=h
 have RC:Hid (∀ j u,(flatS roG xs)[j]?=some u→w.cell? ⟨b,off+j,none⟩=some u):=flat_rw h' roG_len (by omega)
 have q22:(binOp .eql 38 (.slice (some ⟨b,off,none⟩) len cap) (.slice none 0 0)).run Tryz.prog w=.ok (.bool false) w:=Lib.run_eql_slice_nil w _ _ (some ⟨b,off,none⟩) len cap 0 0 Tryz.underlying38
 clear h h'
 go_enter Tryz.func92,Tryz.ntmps92
 go_wp2_with (at_builtin;refine wpl_RoleC _ rfl (.tmp 5) (.tmp 6) rfl w.heap.size _ [] xs rfl (OwnS.lit w _ (Nat.le_refl _)) b off len cap hl rfl (fun j u hu=>acell (RC.out j u hu) _) (by simp;omega) (by simp) ?_;intro v' w3 Y _)
 have Y2:Hid (OwnS roG 5 142 w3 w.heap.size v' xs∧Below w.heap.size w w3):=⟨Y.out.1,((Below.refl _ _).alloc (Nat.le_refl _) _).trans Y.out.2⟩
 clear Y
 go_wp2
 go_ret
 exact ⟨_,rfl,Y2.out.1,Y2.out.2⟩
theorem cloneRole_any (a:Option Addr) (len cap:Nat) (xs:List RoX) (w:World) (h:Rw RoXR 5 w a xs) (hl:xs.length=len) (hm:len≤1048576) (hc:len≤cap) (ha:∀ p,a=some p→p.spot=none) (hn:a=none→len=0∧cap=0) :
  Calls Tryz.prog 92 #[.slice a len cap] w fun e w'=>∃ v,e=.returned v∧OwnS roG 5 142 w' w.heap.size v xs∧Below w.heap.size w w':=by
 cases a with
 | some p =>
  obtain ⟨b,off,pt⟩:=p
  obtain rfl:pt=none:=ha _ rfl
  exact cloneRole_some b off len cap xs w h hl hm hc
 | none =>
  obtain ⟨rfl,rfl⟩:=hn rfl
  obtain rfl:xs=[]:=List.length_eq_zero_iff.1 hl
  have q22:(binOp .eql 38 (.slice none 0 0) (.slice none 0 0)).run Tryz.prog w=.ok (.bool true) w:=Lib.run_eql_slice_nil w _ _ none 0 0 0 0 Tryz.underlying38
  go_enter Tryz.func92,Tryz.ntmps92
  go_wp2
  go_ret
  exact ⟨_,rfl,OwnS.nil _ _,Below.refl _ _⟩
theorem oneFlowC (ys:List FlowV):∀ u ∈ flatS wvG ys,u.oneCell'=true:=by
 intro u hu
 unfold flatS at hu
 rw [List.mem_flatMap] at hu
 obtain ⟨f,_,hf⟩:=hu
 simp [wvG] at hf
 rcases hf with rfl | rfl | rfl | rfl | rfl | rfl | rfl | rfl | rfl <;> rfl
theorem wpl_FlowC (w:World) {ops:Array Oper} {rest:List Oper} {o:Oper} {a:Act} {Q:Exit→Act→World→Prop} (hgd:o.guard=none) (s x:Operand)
  (ho:o.op=.call { callee:=.builtin .append,args:=#[s,x],argTypes:=#[47,47] })
  (B:Nat) (v:Value) (L ys:List FlowV) (hs:a.eval s=v) (hown:OwnS wvG 9 159 w B v L)
  (g off m c:Nat) (hm:ys.length=m) (hx:a.eval x=.slice (some ⟨g,off,none⟩) m c) (hc:∀ j u,(flatS wvG ys)[j]?=some u→w.cell? ⟨g,off+j,none⟩=some u)
  (hlen:L.length+m≤2000000) (hB:B≤w.heap.size)
  (h:∀ v' w',Hid (OwnS wvG 9 159 w' B v' (L ++ ys)∧Below B w w')→w.grownBy w' v.ownBlock→wpList Tryz.prog ops Q rest (a.put o.dst v') w'):wpList Tryz.prog ops Q (o :: rest) a w:=by
 obtain ⟨i0,hi,hz0,hz1,hz2⟩:=info_parts infoFlow
 refine wpList_append_own w hgd s x 47 ho B 159 i0 (.agg #[.int .i64 0,.string ⟨#[]⟩,.int .i64 0,.int .i64 0,.int .i64 0,.int .i64 0,.int .i64 0,.int .i64 0,.int .i64 0]) 9 80 Tryz.underlying47 hi hz0 hz1 hz2 rfl (by decide) v L.length (flatS wvG L) hs hown ⟨g,off,none⟩ m c (flatS wvG ys) hx (by rw [flatS_len wvG_len,hm]) ?_
  (oneFlowC ys) (by unfold maxLen;omega) (by omega) hB ?_
 ·intro j u hu
  rw [addn]
  exact hc j u hu
 ·intro v' w' h2 h3 _
  subst hm
  exact h v' w' (hown.join hB h2 h3) h3
theorem wpl_FlowCS (w:World) {ops:Array Oper} {rest:List Oper} {o:Oper} {a:Act} {Q:Exit→Act→World→Prop} (hgd:o.guard=none) (s x:Operand)
  (ho:o.op=.call { callee:=.builtin .append,args:=#[s,x],argTypes:=#[47,47] })
  (B:Nat) (v:Value) (L ys:List FlowV) (hs:a.eval s=v) (hown:OwnS wvG 9 159 w B v L)
  (p:Option Addr) (m c:Nat) (hrw:Rw FlR 9 w p ys) (hm:ys.length=m) (hsp:∀ q,p=some q→q.spot=none) (hnil:p=none→m=0∧c=0) (hx:a.eval x=.slice p m c)
  (hlen:L.length+m≤2000000) (hB:B≤w.heap.size)
  (h:∀ v' w',Hid (OwnS wvG 9 159 w' B v' (L ++ ys)∧Below B w w')→w.grownBy w' v.ownBlock→wpList Tryz.prog ops Q rest (a.put o.dst v') w'):wpList Tryz.prog ops Q (o :: rest) a w:=by
 cases p with
 | some q =>
  obtain ⟨b,off,pt⟩:=q
  obtain rfl:pt=none:=hsp _ rfl
  have h':Rw (FR wvG FlRok) 9 w (some ⟨b,off,none⟩) ys:=hrw
  exact wpl_FlowC w hgd s x ho B v L ys hs hown b off m c hm hx (flat_rw h' wvG_len (by omega)) hlen hB h
 | none =>
  obtain ⟨rfl,rfl⟩:=hnil rfl
  obtain rfl:ys=[]:=List.length_eq_zero_iff.1 hm
  obtain ⟨i0,hi,hz0,hz1,hz2⟩:=info_parts infoFlow
  refine wpList_append_own_none hgd s x 47 ho B 159 i0 9 Tryz.underlying47 hi v L.length (flatS wvG L) hs hown hx (h v w ?_ (grown_refl w _))
  rw [List.append_nil]
  exact ⟨hown,Below.refl _ _⟩
theorem cloneFlow_some (b off len cap:Nat) (xs:List FlowV) (w:World) (h:Rw FlR 9 w (some ⟨b,off,none⟩) xs) (hl:xs.length=len) (hm:len≤1048576) (hc:len≤cap) :
  Calls Tryz.prog 95 #[.slice (some ⟨b,off,none⟩) len cap] w fun e w'=>∃ v,e=.returned v∧OwnS wvG 9 159 w' w.heap.size v xs∧Below w.heap.size w w':=by
 have h':Rw (FR wvG FlRok) 9 w (some ⟨b,off,none⟩) xs:=h
 have RC:Hid (∀ j u,(flatS wvG xs)[j]?=some u→w.cell? ⟨b,off+j,none⟩=some u):=flat_rw h' wvG_len (by omega)
 have q22:(binOp .eql 47 (.slice (some ⟨b,off,none⟩) len cap) (.slice none 0 0)).run Tryz.prog w=.ok (.bool false) w:=Lib.run_eql_slice_nil w _ _ (some ⟨b,off,none⟩) len cap 0 0 Tryz.underlying47
 clear h h'
 go_enter Tryz.func95,Tryz.ntmps95
 go_wp2_with (at_builtin;refine wpl_FlowC _ rfl (.tmp 5) (.tmp 6) rfl w.heap.size _ [] xs rfl (OwnS.lit w _ (Nat.le_refl _)) b off len cap hl rfl (fun j u hu=>acell (RC.out j u hu) _) (by simp;omega) (by simp) ?_;intro v' w3 Y _)
 have Y2:Hid (OwnS wvG 9 159 w3 w.heap.size v' xs∧Below w.heap.size w w3):=⟨Y.out.1,((Below.refl _ _).alloc (Nat.le_refl _) _).trans Y.out.2⟩
 clear Y
 go_wp2
 go_ret
 exact ⟨_,rfl,Y2.out.1,Y2.out.2⟩
theorem cloneFlow_any (a:Option Addr) (len cap:Nat) (xs:List FlowV) (w:World) (h:Rw FlR 9 w a xs) (hl:xs.length=len) (hm:len≤1048576) (hc:len≤cap) (ha:∀ p,a=some p→p.spot=none) (hn:a=none→len=0∧cap=0) :
  Calls Tryz.prog 95 #[.slice a len cap] w fun e w'=>∃ v,e=.returned v∧OwnS wvG 9 159 w' w.heap.size v xs∧Below w.heap.size w w':=by
 cases a with
 | some p =>
  obtain ⟨b,off,pt⟩:=p
  obtain rfl:pt=none:=ha _ rfl
  exact cloneFlow_some b off len cap xs w h hl hm hc
 | none =>
  obtain ⟨rfl,rfl⟩:=hn rfl
  obtain rfl:xs=[]:=List.length_eq_zero_iff.1 hl
  have q22:(binOp .eql 47 (.slice none 0 0) (.slice none 0 0)).run Tryz.prog w=.ok (.bool true) w:=Lib.run_eql_slice_nil w _ _ none 0 0 0 0 Tryz.underlying47
  go_enter Tryz.func95,Tryz.ntmps95
  go_wp2
  go_ret
  exact ⟨_,rfl,OwnS.nil _ _,Below.refl _ _⟩
theorem oneConnC (ys:List ConnV):∀ u ∈ flatS cnG ys,u.oneCell'=true:=by
 intro u hu
 unfold flatS at hu
 rw [List.mem_flatMap] at hu
 obtain ⟨f,_,hf⟩:=hu
 simp [cnG] at hf
 rcases hf with rfl | rfl | rfl | rfl | rfl | rfl | rfl | rfl | rfl | rfl | rfl <;> rfl
theorem wpl_ConnC (w:World) {ops:Array Oper} {rest:List Oper} {o:Oper} {a:Act} {Q:Exit→Act→World→Prop} (hgd:o.guard=none) (s x:Operand)
  (ho:o.op=.call { callee:=.builtin .append,args:=#[s,x],argTypes:=#[48,48] })
  (B:Nat) (v:Value) (L ys:List ConnV) (hs:a.eval s=v) (hown:OwnS cnG 11 162 w B v L)
  (g off m c:Nat) (hm:ys.length=m) (hx:a.eval x=.slice (some ⟨g,off,none⟩) m c) (hc:∀ j u,(flatS cnG ys)[j]?=some u→w.cell? ⟨g,off+j,none⟩=some u)
  (hlen:L.length+m≤2000000) (hB:B≤w.heap.size)
  (h:∀ v' w',Hid (OwnS cnG 11 162 w' B v' (L ++ ys)∧Below B w w')→w.grownBy w' v.ownBlock→wpList Tryz.prog ops Q rest (a.put o.dst v') w'):wpList Tryz.prog ops Q (o :: rest) a w:=by
 obtain ⟨i0,hi,hz0,hz1,hz2⟩:=info_parts infoConn
 refine wpList_append_own w hgd s x 48 ho B 162 i0 (.agg #[.string ⟨#[]⟩,.int .i64 0,.int .i64 0,.int .i64 0,.int .i64 0,.int .i64 0,.int .i64 0,.int .i64 0,.string ⟨#[]⟩,.string ⟨#[]⟩,.bool false]) 11 112 Tryz.underlying48 hi hz0 hz1 hz2 rfl (by decide) v L.length (flatS cnG L) hs hown ⟨g,off,none⟩ m c (flatS cnG ys) hx (by rw [flatS_len cnG_len,hm]) ?_
  (oneConnC ys) (by unfold maxLen;omega) (by omega) hB ?_
 ·intro j u hu
  rw [addn]
  exact hc j u hu
 ·intro v' w' h2 h3 _
  subst hm
  exact h v' w' (hown.join hB h2 h3) h3
theorem wpl_ConnCS (w:World) {ops:Array Oper} {rest:List Oper} {o:Oper} {a:Act} {Q:Exit→Act→World→Prop} (hgd:o.guard=none) (s x:Operand)
  (ho:o.op=.call { callee:=.builtin .append,args:=#[s,x],argTypes:=#[48,48] })
  (B:Nat) (v:Value) (L ys:List ConnV) (hs:a.eval s=v) (hown:OwnS cnG 11 162 w B v L)
  (p:Option Addr) (m c:Nat) (hrw:Rw CnR 11 w p ys) (hm:ys.length=m) (hsp:∀ q,p=some q→q.spot=none) (hnil:p=none→m=0∧c=0) (hx:a.eval x=.slice p m c)
  (hlen:L.length+m≤2000000) (hB:B≤w.heap.size)
  (h:∀ v' w',Hid (OwnS cnG 11 162 w' B v' (L ++ ys)∧Below B w w')→w.grownBy w' v.ownBlock→wpList Tryz.prog ops Q rest (a.put o.dst v') w'):wpList Tryz.prog ops Q (o :: rest) a w:=by
 cases p with
 | some q =>
  obtain ⟨b,off,pt⟩:=q
  obtain rfl:pt=none:=hsp _ rfl
  have h':Rw (FR cnG CnRok) 11 w (some ⟨b,off,none⟩) ys:=hrw
  exact wpl_ConnC w hgd s x ho B v L ys hs hown b off m c hm hx (flat_rw h' cnG_len (by omega)) hlen hB h
 | none =>
  obtain ⟨rfl,rfl⟩:=hnil rfl
  obtain rfl:ys=[]:=List.length_eq_zero_iff.1 hm
  obtain ⟨i0,hi,hz0,hz1,hz2⟩:=info_parts infoConn
  refine wpList_append_own_none hgd s x 48 ho B 162 i0 11 Tryz.underlying48 hi v L.length (flatS cnG L) hs hown hx (h v w ?_ (grown_refl w _))
  rw [List.append_nil]
  exact ⟨hown,Below.refl _ _⟩
theorem cloneConn_some (b off len cap:Nat) (xs:List ConnV) (w:World) (h:Rw CnR 11 w (some ⟨b,off,none⟩) xs) (hl:xs.length=len) (hm:len≤1048576) (hc:len≤cap) :
  Calls Tryz.prog 96 #[.slice (some ⟨b,off,none⟩) len cap] w fun e w'=>∃ v,e=.returned v∧OwnS cnG 11 162 w' w.heap.size v xs∧Below w.heap.size w w':=by
 have h':Rw (FR cnG CnRok) 11 w (some ⟨b,off,none⟩) xs:=h
 have RC:Hid (∀ j u,(flatS cnG xs)[j]?=some u→w.cell? ⟨b,off+j,none⟩=some u):=flat_rw h' cnG_len (by omega)
 have q22:(binOp .eql 48 (.slice (some ⟨b,off,none⟩) len cap) (.slice none 0 0)).run Tryz.prog w=.ok (.bool false) w:=Lib.run_eql_slice_nil w _ _ (some ⟨b,off,none⟩) len cap 0 0 Tryz.underlying48
 clear h h'
 go_enter Tryz.func96,Tryz.ntmps96
 go_wp2_with (at_builtin;refine wpl_ConnC _ rfl (.tmp 5) (.tmp 6) rfl w.heap.size _ [] xs rfl (OwnS.lit w _ (Nat.le_refl _)) b off len cap hl rfl (fun j u hu=>acell (RC.out j u hu) _) (by simp;omega) (by simp) ?_;intro v' w3 Y _)
 have Y2:Hid (OwnS cnG 11 162 w3 w.heap.size v' xs∧Below w.heap.size w w3):=⟨Y.out.1,((Below.refl _ _).alloc (Nat.le_refl _) _).trans Y.out.2⟩
 clear Y
 go_wp2
 go_ret
 exact ⟨_,rfl,Y2.out.1,Y2.out.2⟩
theorem cloneConn_any (a:Option Addr) (len cap:Nat) (xs:List ConnV) (w:World) (h:Rw CnR 11 w a xs) (hl:xs.length=len) (hm:len≤1048576) (hc:len≤cap) (ha:∀ p,a=some p→p.spot=none) (hn:a=none→len=0∧cap=0) :
  Calls Tryz.prog 96 #[.slice a len cap] w fun e w'=>∃ v,e=.returned v∧OwnS cnG 11 162 w' w.heap.size v xs∧Below w.heap.size w w':=by
 cases a with
 | some p =>
  obtain ⟨b,off,pt⟩:=p
  obtain rfl:pt=none:=ha _ rfl
  exact cloneConn_some b off len cap xs w h hl hm hc
 | none =>
  obtain ⟨rfl,rfl⟩:=hn rfl
  obtain rfl:xs=[]:=List.length_eq_zero_iff.1 hl
  have q22:(binOp .eql 48 (.slice none 0 0) (.slice none 0 0)).run Tryz.prog w=.ok (.bool true) w:=Lib.run_eql_slice_nil w _ _ none 0 0 0 0 Tryz.underlying48
  go_enter Tryz.func96,Tryz.ntmps96
  go_wp2
  go_ret
  exact ⟨_,rfl,OwnS.nil _ _,Below.refl _ _⟩
structure GtS (g:GtV):Prop where
 gm:g.gm.size≤1048576
 wm:g.wm.size≤1048576
 ps:g.ps.length≤1048576
 ros:g.ros.length≤1048576
 us:g.us.length≤1048576
 ss:g.ss.length≤1048576
 fs:g.fs.length≤1048576
 es:g.es.length≤1048576
 fl:g.fl.length≤1048576
 co:g.co.length≤1048576
 szr:SzR g.ros
 szu:szL wtUser g.us≤1048576
 szs:szL wtSession g.ss≤1048576
 szf:szL wtFail g.fs≤1048576
 szl:∀ x,x ∈ g.fl→(x.mc.size:Int)≤1048576
 szc:∀ x,x ∈ g.co→(x.mc.size:Int)≤1048576∧(x.inn.size:Int)≤1048576∧(x.out.size:Int)≤1048576
 szt:szR g.ros≤1048576
theorem row_put {α:Type} {R:World→α→List Value→Prop} {K:Nat} {w:World} {b q o:Nat} {xs:List α} {vs:List Value} (h:Rw R K w (some ⟨b,0,none⟩) xs) (hne:q ≠ b) (hR:∀ w w' x vs,R w x vs→R w' x vs):Rw R K (w.setCells q o vs) (some ⟨b,0,none⟩) xs :=
 rw_keepB (B:=fun k=>k ≠ q) h (Nat.le_of_eq (heap_cellsA vs o w).1.symm) (fun k hk=>(heap_cellsA vs o w).2 k hk) (fun b' off e _=>by cases e;exact fun e=>hne e.symm) (fun _ _ h=>hR _ _ _ _ h)
theorem row_putR {K:Nat} {w:World} {b q o lo:Nat} {xs:List RoleV} {vs:List Value} (h:Rw (RoR lo) K w (some ⟨b,0,none⟩) xs) (hne:q ≠ b) (hlo:q<lo):Rw (RoR lo) K (w.setCells q o vs) (some ⟨b,0,none⟩) xs :=
 rw_keepB (B:=fun k=>k ≠ q) h (Nat.le_of_eq (heap_cellsA vs o w).1.symm) (fun k hk=>(heap_cellsA vs o w).2 k hk) (fun b' off e _=>by cases e;exact fun e=>hne e.symm) (fun x us h=>by
  obtain ⟨a,cap,h1,h2,h3,h4,h5,h6⟩:=h
  refine ⟨a,cap,h1,h2,h3,h4,rw_keepB (B:=fun k=>k ≠ q) h5 (Nat.le_of_eq (heap_cellsA vs o w).1.symm) (fun k hk=>(heap_cellsA vs o w).2 k hk) (fun b' off e _=>?_) (fun _ _ h=>h),h6⟩
  have:=h6 b' off e
  omega)
structure TG (w:World) (A:GtA) (g:GtV) (cs:List Value) (W:World):Prop where
 a:Bx W w.heap.size (gtC A g)
 r:Bx W (w.heap.size+1) [.int .i64 0,.int .i64 0,.int .i64 0,.string ⟨#[]⟩,.string ⟨#[]⟩,.int .i64 0,.slice none 0 0,.slice none 0 0,.slice none 0 0,.slice none 0 0,.slice none 0 0,.slice none 0 0,.int .i64 0,.slice none 0 0,.slice none 0 0,.int .i64 0,.int .i64 0,.int .i64 0]
 n:Bx W (w.heap.size+1+1) cs
 b:Below w.heap.size w W
 z:w.heap.size+1+1+1≤W.heap.size
theorem TG.call {w:World} {A:GtA} {g:GtV} {cs:List Value} {W W':World} (h:TG w A g cs W) (hb:Below W.heap.size W W'):TG w A g cs W':=⟨h.a.below hb,h.r.below hb,h.n.below hb,h.b.trans (hb.mono h.b.size),Nat.le_trans h.z hb.size⟩
theorem TG.put {w:World} {A:GtA} {g:GtV} {cs:List Value} {W:World} (h:TG w A g cs W) (o:Nat) (vs:List Value):TG w A g (sets cs o vs) (W.setCells (w.heap.size+1+1) o vs) :=
 ⟨h.a.apartO vs (by omega),h.r.apartO vs (by omega),h.n.sets vs o _ _,below_cells (by omega) vs o _ h.b,by rw [(heap_cellsA vs o W).1];exact h.z⟩
theorem TG.new (w:World) (A:GtA) (g:GtV):TG w A g [.int .i64 0,.int .i64 0,.int .i64 0,.string ⟨#[]⟩,.string ⟨#[]⟩,.int .i64 0,.slice none 0 0,.slice none 0 0,.slice none 0 0,.slice none 0 0,.slice none 0 0,.slice none 0 0,.int .i64 0,.slice none 0 0,.slice none 0 0,.int .i64 0,.int .i64 0,.int .i64 0] (((w.alloc (.cells #[.int .i64 g.ip,.int .i64 g.b,.int .i64 g.gt,.string g.gm,.string g.wm,.int .i64 g.rs,.slice A.x g.ps.length A.xc,.slice A.y g.ros.length A.yc,.slice A.ua g.us.length A.uc,.slice A.sa g.ss.length A.sc,.slice A.fa g.fs.length A.fc,.slice A.ra g.es.length A.rc,.int .i64 g.nx,.slice A.la g.fl.length A.lc,.slice A.ca g.co.length A.cc,.int .i64 g.nw,.int .i64 g.dr,.int .i64 g.sn] 65)).alloc (.cells #[.int .i64 0,.int .i64 0,.int .i64 0,.string ⟨#[]⟩,.string ⟨#[]⟩,.int .i64 0,.slice none 0 0,.slice none 0 0,.slice none 0 0,.slice none 0 0,.slice none 0 0,.slice none 0 0,.int .i64 0,.slice none 0 0,.slice none 0 0,.int .i64 0,.int .i64 0,.int .i64 0] 50)).alloc (.cells #[.int .i64 0,.int .i64 0,.int .i64 0,.string ⟨#[]⟩,.string ⟨#[]⟩,.int .i64 0,.slice none 0 0,.slice none 0 0,.slice none 0 0,.slice none 0 0,.slice none 0 0,.slice none 0 0,.int .i64 0,.slice none 0 0,.slice none 0 0,.int .i64 0,.int .i64 0,.int .i64 0] 50)):=by
 refine ⟨?_,?_,?_,?_,?_⟩
 ·exact ((Bx.new w #[.int .i64 g.ip,.int .i64 g.b,.int .i64 g.gt,.string g.gm,.string g.wm,.int .i64 g.rs,.slice A.x g.ps.length A.xc,.slice A.y g.ros.length A.yc,.slice A.ua g.us.length A.uc,.slice A.sa g.ss.length A.sc,.slice A.fa g.fs.length A.fc,.slice A.ra g.es.length A.rc,.int .i64 g.nx,.slice A.la g.fl.length A.lc,.slice A.ca g.co.length A.cc,.int .i64 g.nw,.int .i64 g.dr,.int .i64 g.sn] 65).below ((Below.refl _ _).alloc (Nat.le_refl _) _)).below ((Below.refl _ _).alloc (Nat.le_refl _) _)
 ·have h:=Bx.new (w.alloc (.cells #[.int .i64 g.ip,.int .i64 g.b,.int .i64 g.gt,.string g.gm,.string g.wm,.int .i64 g.rs,.slice A.x g.ps.length A.xc,.slice A.y g.ros.length A.yc,.slice A.ua g.us.length A.uc,.slice A.sa g.ss.length A.sc,.slice A.fa g.fs.length A.fc,.slice A.ra g.es.length A.rc,.int .i64 g.nx,.slice A.la g.fl.length A.lc,.slice A.ca g.co.length A.cc,.int .i64 g.nw,.int .i64 g.dr,.int .i64 g.sn] 65)) #[.int .i64 0,.int .i64 0,.int .i64 0,.string ⟨#[]⟩,.string ⟨#[]⟩,.int .i64 0,.slice none 0 0,.slice none 0 0,.slice none 0 0,.slice none 0 0,.slice none 0 0,.slice none 0 0,.int .i64 0,.slice none 0 0,.slice none 0 0,.int .i64 0,.int .i64 0,.int .i64 0] 50
  rw [World.size_alloc] at h
  exact h.below ((Below.refl _ _).alloc (Nat.le_refl _) _)
 ·have h:=Bx.new ((w.alloc (.cells #[.int .i64 g.ip,.int .i64 g.b,.int .i64 g.gt,.string g.gm,.string g.wm,.int .i64 g.rs,.slice A.x g.ps.length A.xc,.slice A.y g.ros.length A.yc,.slice A.ua g.us.length A.uc,.slice A.sa g.ss.length A.sc,.slice A.fa g.fs.length A.fc,.slice A.ra g.es.length A.rc,.int .i64 g.nx,.slice A.la g.fl.length A.lc,.slice A.ca g.co.length A.cc,.int .i64 g.nw,.int .i64 g.dr,.int .i64 g.sn] 65)).alloc (.cells #[.int .i64 0,.int .i64 0,.int .i64 0,.string ⟨#[]⟩,.string ⟨#[]⟩,.int .i64 0,.slice none 0 0,.slice none 0 0,.slice none 0 0,.slice none 0 0,.slice none 0 0,.slice none 0 0,.int .i64 0,.slice none 0 0,.slice none 0 0,.int .i64 0,.int .i64 0,.int .i64 0] 50)) #[.int .i64 0,.int .i64 0,.int .i64 0,.string ⟨#[]⟩,.string ⟨#[]⟩,.int .i64 0,.slice none 0 0,.slice none 0 0,.slice none 0 0,.slice none 0 0,.slice none 0 0,.slice none 0 0,.int .i64 0,.slice none 0 0,.slice none 0 0,.int .i64 0,.int .i64 0,.int .i64 0] 50
  rw [World.size_alloc,World.size_alloc] at h
  exact h
 ·exact (((Below.refl _ _).alloc (Nat.le_refl _) _).alloc (by simp) _).alloc (by simp;omega) _
 ·simp
open Go.RowKit
namespace Rel
theorem cell_of {w w':World} {a:Addr} (h:w'.heap[a.block]?=w.heap[a.block]?):w'.cell? a=w.cell? a:=by
 unfold World.cell?;rw [h]
theorem froz_of {w w':World} {a:Addr} (h:w'.heap[a.block]?=w.heap[a.block]?):w'.frozen? a=w.frozen? a:=by
 unfold World.frozen?;rw [h]
theorem bx_loc {w w':World} {q:Nat} {cs:List Value} (h:Bx w q cs) (hq:w'.heap[q]?=w.heap[q]?):Bx w' q cs :=
 Bx.of (fun j v hv=>(cell_of (a:=⟨q,j,none⟩) hq).trans (h.cell j hv)) (fun j hj=>(froz_of (a:=⟨q,j,none⟩) hq).trans (h.thaw j hj))
theorem own_loc {e:TypeId} {w w':World} {B K n:Nat} {v:Value} {F:List Value} (h:w.ownsRow B e K v n F) (hq:∀ k,v.ownBlock=some k→w'.heap[k]?=w.heap[k]?):w'.ownsRow B e K v n F:=by
 refine ⟨h.1,?_⟩
 rcases h.2 with h' | ⟨g,cap,cur,h1,hB,hg,h4⟩
 ·exact .inl h'
 ·exact .inr ⟨g,cap,cur,h1,hB,by rw [hq g (by rw [h1];rfl)];exact hg,h4⟩
def valR (i:Nat) (nd:List Nat) (v:Value):Rsc:=⟨fun σ _=>σ i=v,fun _ _=>False,[i],[],nd⟩
theorem valR_ok {Bs:Nat→Prop} (i:Nat) (nd:List Nat) (v:Value):(valR i nd v).Ok Bs :=
 ⟨fun σ w w' h _=>h,fun σ σ' h=>⟨fun w hf=>(h i (by simp [valR])).trans hf,fun b hb=>hb⟩⟩
def twoR (i j:Nat) (nd:List Nat) (p:Value→Value→Prop):Rsc:=⟨fun σ _=>p (σ i) (σ j),fun _ _=>False,[i,j],[],nd⟩
theorem twoR_ok {Bs:Nat→Prop} (i j:Nat) (nd:List Nat) (p:Value→Value→Prop):(twoR i j nd p).Ok Bs :=
 ⟨fun σ w w' h _=>h,fun σ σ' h=>⟨fun w hf=>by
  have h1:=h i (by simp [twoR]);have h2:=h j (by simp [twoR])
  show p (σ' i) (σ' j)
  rw [h1,h2];exact hf,fun b hb=>hb⟩⟩
def retR (i:Nat) (nd:List Nat) (F:Value→World→Prop) (ow:Value→Nat→Prop):Rsc:=⟨fun σ w=>F (σ i) w,fun σ b=>ow (σ i) b,[i],[],nd⟩
theorem retR_ok {Bs:Nat→Prop} (i:Nat) (nd:List Nat) (F:Value→World→Prop) (ow:Value→Nat→Prop) (h:∀ v w w',F v w→Keep (fun b=>Bs b ∨ ow v b) w w'→F v w'):(retR i nd F ow).Ok Bs :=
 ⟨fun σ w w' hf hk=>h (σ i) w w' hf hk,fun σ σ' hh=>by
  have h1:=hh i (by simp [retR])
  exact ⟨fun w hf=>by show F (σ' i) w;rw [h1];exact hf,fun b hb=>by show ow (σ i) b;rw [← h1];exact hb⟩⟩
def boxF (cs:List Value) (v:Value) (w:World):Prop:=∃ q,v=.pointer (some ⟨q,0,none⟩)∧Bx w q cs
def boxO (v:Value) (b:Nat):Prop:=v=.pointer (some ⟨b,0,none⟩)
theorem box_loc {Bs:Nat→Prop} {cs:List Value} (v:Value) (w w':World) (h:boxF cs v w) (hk:Keep (fun b=>Bs b ∨ boxO v b) w w'):boxF cs v w':=by
 obtain ⟨q,hv,hb⟩:=h
 exact ⟨q,hv,bx_loc hb (hk.block q (.inr hv))⟩
def boxR (i:Nat) (nd:List Nat) (cs:List Value):Rsc:=retR i nd (boxF cs) boxO
theorem boxR_ok {Bs:Nat→Prop} (i:Nat) (nd:List Nat) (cs:List Value):(boxR i nd cs).Ok Bs:=retR_ok i nd _ _ box_loc
theorem left_below {R:List Rsc} {r:Rsc} {i:Nat} {σ:Nat→Value} {w:World} {v:Value} {w':World} (hf:r.fact (upd σ i v) w') (ho:∀ b,r.own (upd σ i v) b→w.heap.size≤b∧b<w'.heap.size) (hb:Below w.heap.size w w'):Left R r i σ w v w' :=
 ⟨hf,fun b h=>.inr (ho b h),⟨hb.os,hb.tape,hb.output,hb.size,fun k hk=>hb.block k hk.1⟩⟩
theorem left_val {R:List Rsc} {i:Nat} {nd:List Nat} {σ:Nat→Value} {w:World} {v:Value}:Left R (valR i nd v) i σ w v w :=
 left_below (upd_self σ i v) (fun b h=>h.elim) (Below.refl _ _)
theorem left_valB {R:List Rsc} {i:Nat} {nd:List Nat} {σ:Nat→Value} {w w':World} {v:Value} (hb:Below w.heap.size w w'):Left R (valR i nd v) i σ w v w' :=
 left_below (upd_self σ i v) (fun b h=>h.elim) hb
theorem left_ret {R:List Rsc} {i:Nat} {nd:List Nat} {σ:Nat→Value} {w w':World} {v:Value} {F:Value→World→Prop} {ow:Value→Nat→Prop} (hf:F v w') (ho:∀ b,ow v b→w.heap.size≤b∧b<w'.heap.size) (hb:Below w.heap.size w w'):Left R (retR i nd F ow) i σ w v w' :=
 left_below (by show F (upd σ i v i) w';rw [upd_self];exact hf) (fun b h=>ho b (by have h2:ow (upd σ i v i) b:=h;rwa [upd_self] at h2)) hb
theorem left_box {R:List Rsc} {i:Nat} {nd:List Nat} {σ:Nat→Value} {w:World} (cs:Array Value) (t:TypeId):Left R (boxR i nd cs.toList) i σ w (.pointer (some ⟨w.heap.size,0,none⟩)) (w.alloc (.cells cs t)) :=
 left_ret ⟨_,rfl,Bx.new w cs t⟩ (fun b h=>by
  have:w.heap.size=b:=by cases h;rfl
  subst this
  simp) ((Below.refl _ _).alloc (Nat.le_refl _) _)
theorem heap_cells {q:Nat}:∀ (vs:List Value) (o:Nat) (w:World),(w.setCells q o vs).heap.size=w.heap.size∧(w.setCells q o vs).os=w.os∧(w.setCells q o vs).tape=w.tape∧(w.setCells q o vs).output=w.output∧∀ k,k ≠ q→(w.setCells q o vs).heap[k]?=w.heap[k]?
 | [],_,_=>⟨rfl,rfl,rfl,rfl,fun _ _=>rfl⟩
 | v :: r,o,w=>by
  rw [World.setCells]
  obtain ⟨h1,h2,h3,h4,h5⟩:=heap_cells r (o+1) (w.setCell ⟨q,o,none⟩ v)
  exact ⟨h1.trans (by simp [World.setCell]),h2,h3,h4,fun k hk=>(h5 k hk).trans (Below.heap_setCell _ _ _ _ hk)⟩
theorem keep_below {w w':World} (h:Keep (fun b=>b<w.heap.size) { w with drawn:=w.drawn+1 } w'):Below w.heap.size w w':=⟨h.os,h.tape,h.output,h.size,h.block⟩
theorem fact_of {Bs:Nat→Prop} {R:List Rsc} {σ:Nat→Value} {w:World}:∀ {l:List Nat} {j:Nat} {r:Rsc},factsOf Bs R σ w l→l.contains j=true→R[j]?=some r→r.fact σ w
 | x :: l,j,r,h,hm,hr=>by
  rcases List.mem_cons.1 (List.contains_iff_mem.1 hm) with e | e
  ·subst e
   obtain ⟨r',hr',hf,_⟩:=h.1
   rw [hr] at hr';cases hr'
   exact hf
  ·exact fact_of h.2 (List.contains_iff_mem.2 e) hr
theorem owns_of {Bs:Nat→Prop} {R:List Rsc} {σ:Nat→Value} {w:World}:∀ {l:List Nat} {j:Nat} {r:Rsc},factsOf Bs R σ w l→l.contains j=true→R[j]?=some r→∀ b,r.own σ b→b<w.heap.size∧¬ Bs b
 | x :: l,j,r,h,hm,hr=>by
  rcases List.mem_cons.1 (List.contains_iff_mem.1 hm) with e | e
  ·subst e
   obtain ⟨r',hr',_,hf⟩:=h.1
   rw [hr] at hr';cases hr'
   exact hf
  ·exact owns_of h.2 (List.contains_iff_mem.2 e) hr
theorem walk_cons {P:Program} {ops:Array Oper} {Bs:Nat→Prop} {wS:World} {R:List Rsc} {o:Oper} {l:List Oper} {r:Rsc} {rs:List Rsc} {i:Nat} {Fr:(Nat→Value)→Act}
  (h:StepAt P ops Bs wS R i o r Fr) (hr:Walk P ops Bs wS R l rs (i+1) (fun σ=>(Fr σ).put o.dst (σ i))):Walk P ops Bs wS R (o :: l) (r :: rs) i Fr:=⟨h,hr⟩
theorem walk_nil {P:Program} {ops:Array Oper} {Bs:Nat→Prop} {wS:World} {R:List Rsc} {rs:List Rsc} {i:Nat} {Fr:(Nat→Value)→Act}:Walk P ops Bs wS R [] rs i Fr:=trivial
structure Yld (P:Program) (post:Value→World→Prop) (res:Result Next):Prop where
 out:relUpon P post res
theorem yld_val {P:Program} {post:Value→World→Prop} {u:Value} {w:World} (h:post u w):Yld P post (.ok (.value u) w):=⟨h⟩
theorem yld_skip {P:Program} {post:Value→World→Prop} {w:World} (h:post undef w):Yld P post (.ok .skip w):=⟨h⟩
theorem yld_call {P:Program} {post:Value→World→Prop} {w:World} {f:FuncId} {args:Array Value} (h:Calls P f args w fun e w''=>∃ v,e=.returned v∧post v w''):Yld P post (.ok (.enter f args) w):=⟨h⟩
theorem yld_get {P:Program} {post:Value→World→Prop} {o:Oper} {a:Act} {w:World} (t:TypeId) (x:Operand) (ho:o.op=.load t x) {q:Nat} (hx:a.eval x=.pointer (some ⟨q,0,none⟩)) {cs:List Value} (hb:Bx w q cs) (d:TypeDesc) (hu:P.underlying t=some d) (hd:d.isRow=true)
  (hi:(P.info? t).map (·.size)=some cs.length) (h:post (.agg cs.toArray) w):Yld P post ((execOp a.eval o).run P w):=by
 refine ⟨?_⟩
 unfold execOp
 simp only [ho,hx,Instr.loadAt,Instr.sureAddr,Sem.run_bind,Sem.run_pure,Result.andThen_ok,run_loadVar_mid w q 0 t cs d hb.cl hu hd hi]
 exact h
theorem yld_put {P:Program} {post:Value→World→Prop} {o:Oper} {a:Act} {w:World} (t:TypeId) (x y:Operand) (ho:o.op=.store t x y) {q:Nat} {cells:Array Value} (hx:a.eval x=.pointer (some ⟨q,0,none⟩)) (hy:a.eval y=.agg cells) {cs:List Value} (hb:Bx w q cs)
  (hl:cells.size=cs.length) (hi:(P.info? t).map (·.size)=some cells.size) (h1:cells.toList.all (·.oneCell')=true) (h:post undef (w.setCells q 0 cells.toList)):Yld P post ((execOp a.eval o).run P w):=by
 refine ⟨?_⟩
 have hr:=run_storeAt_mid w q 0 t cells (by rw [hl];exact hb.th) hi (by rw [← Array.all_toList];exact h1)
 unfold execOp
 simp only [ho,hx,hy,Sem.run_bind,Sem.run_pure,Result.andThen_ok,hr]
 exact h
theorem step_want {P:Program} {ops:Array Oper} {Bs:Nat→Prop} {wS:World} {R:List Rsc} {o:Oper} {r:Rsc} {i:Nat} {Fr:(Nat→Value)→Act} (hg:o.guard=none)
  (h:∀ σ w,Keep Bs wS w→factsOf Bs R σ w (r.tk ++ r.nd)→∀ post:Value→World→Prop,(∀ v w',Left R r i σ w v w'→post v w')→Yld P post ((execOp (Fr σ).eval o).run P w)):StepAt P ops Bs wS R i o r Fr:=by
 intro σ w hK hF
 rw [if_pos (by unfold Region.wanted;rw [hg])]
 exact (h σ w hK hF _ (fun _ _ h=>h)).out
end Rel
end Go.Proofs.YtbeehlhcckndcaaGreat
