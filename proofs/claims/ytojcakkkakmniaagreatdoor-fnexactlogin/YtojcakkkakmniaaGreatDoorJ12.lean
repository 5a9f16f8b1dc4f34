/- Places, lists of places and of roles, configurations in the laws. -/
import Derived.Test.YtojcakkkakmniaaGreatDoorJ11
namespace Go.Proofs.YtojcakkkakmniaaGreatDoor
open Go.RowKit Go.PlainAid Go.Proofs.YtojcakkkakmniaaGreatDoor.Bt Go.Sort
set_option linter.unusedVariables false
set_option maxRecDepth 20000
set_option maxHeartbeats 1000000 in
theorem toPlace_any (ip b lo hi:Int) (w:World) :
  Calls Tryz.prog 71 #[.agg #[.int .i64 ip,.int .i64 b,.int .i64 lo,.int .i64 hi]] w fun e w'=>e=.returned (.agg #[.int .i64 ip,.int .i64 b,.int .i64 lo,.int .i64 hi])∧Below w.heap.size w w':=by
 have HA:Hid (∀ w,Calls Tryz.prog 27 #[.agg #[.int .i64 ip,.int .i64 b]] w fun e w'=>e=.returned (.agg #[.int .i64 ip,.int .i64 b])∧Below w.heap.size w w'):=fun w=>toNet2 ip b w
 have HB:Hid (∀ w,Calls Tryz.prog 104 #[.agg #[.int .i64 lo,.int .i64 hi]] w fun e w'=>e=.returned (.agg #[.int .i64 lo,.int .i64 hi])∧Below w.heap.size w w'):=fun w=>toRange2 lo hi w
 go_enter Tryz.func71,Tryz.ntmps71
 go_wp2_with fail
 refine (HA.out _).mono ?_
 rintro e wx1 ⟨rfl,bx⟩
 have c1_0_0:wx1.cell? ⟨w.heap.size,0,none⟩=some (.int .i64 ip):=bkeep bx (by simp [go_sem])
 have c1_0_1:wx1.cell? ⟨w.heap.size,1,none⟩=some (.int .i64 b):=bkeep bx (by simp [go_sem])
 have c1_0_2:wx1.cell? ⟨w.heap.size,2,none⟩=some (.int .i64 lo):=bkeep bx (by simp [go_sem])
 have c1_0_3:wx1.cell? ⟨w.heap.size,3,none⟩=some (.int .i64 hi):=bkeep bx (by simp [go_sem])
 have c1_1_0:wx1.cell? ⟨w.heap.size+1,0,none⟩=some (.int .i64 0):=bkeep bx (by simp [go_sem])
 have f1_1_0:wx1.frozen? ⟨w.heap.size+1,0,none⟩=false:=bthaw bx (v:=.int .i64 0) (by simp [go_sem]) (by simp [go_sem])
 have c1_1_1:wx1.cell? ⟨w.heap.size+1,1,none⟩=some (.int .i64 0):=bkeep bx (by simp [go_sem])
 have f1_1_1:wx1.frozen? ⟨w.heap.size+1,1,none⟩=false:=bthaw bx (v:=.int .i64 0) (by simp [go_sem]) (by simp [go_sem])
 have c1_1_2:wx1.cell? ⟨w.heap.size+1,2,none⟩=some (.int .i64 0):=bkeep bx (by simp [go_sem])
 have f1_1_2:wx1.frozen? ⟨w.heap.size+1,2,none⟩=false:=bthaw bx (v:=.int .i64 0) (by simp [go_sem]) (by simp [go_sem])
 have c1_1_3:wx1.cell? ⟨w.heap.size+1,3,none⟩=some (.int .i64 0):=bkeep bx (by simp [go_sem])
 have f1_1_3:wx1.frozen? ⟨w.heap.size+1,3,none⟩=false:=bthaw bx (v:=.int .i64 0) (by simp [go_sem]) (by simp [go_sem])
 have c1_2_0:wx1.cell? ⟨w.heap.size+1+1,0,none⟩=some (.int .i64 0):=bkeep bx (by simp [go_sem])
 have f1_2_0:wx1.frozen? ⟨w.heap.size+1+1,0,none⟩=false:=bthaw bx (v:=.int .i64 0) (by simp [go_sem]) (by simp [go_sem])
 have c1_2_1:wx1.cell? ⟨w.heap.size+1+1,1,none⟩=some (.int .i64 0):=bkeep bx (by simp [go_sem])
 have f1_2_1:wx1.frozen? ⟨w.heap.size+1+1,1,none⟩=false:=bthaw bx (v:=.int .i64 0) (by simp [go_sem]) (by simp [go_sem])
 have c1_2_2:wx1.cell? ⟨w.heap.size+1+1,2,none⟩=some (.int .i64 0):=bkeep bx (by simp [go_sem])
 have f1_2_2:wx1.frozen? ⟨w.heap.size+1+1,2,none⟩=false:=bthaw bx (v:=.int .i64 0) (by simp [go_sem]) (by simp [go_sem])
 have c1_2_3:wx1.cell? ⟨w.heap.size+1+1,3,none⟩=some (.int .i64 0):=bkeep bx (by simp [go_sem])
 have f1_2_3:wx1.frozen? ⟨w.heap.size+1+1,3,none⟩=false:=bthaw bx (v:=.int .i64 0) (by simp [go_sem]) (by simp [go_sem])
 have BX1:Hid (Below w.heap.size w wx1):=((((Below.refl w.heap.size w).alloc (by simp <;> omega) _).alloc (by simp <;> omega) _).alloc (by simp <;> omega) _).trans (bx.mono (by simp <;> omega))
 clear bx
 go_wp2_with fail
 refine (HB.out _).mono ?_
 rintro e wx2 ⟨rfl,bx⟩
 have c2_0_0:wx2.cell? ⟨w.heap.size,0,none⟩=some (.int .i64 ip):=bkeep bx (by first | (simp [go_sem];done) | simp [go_sem,c1_0_0])
 have c2_0_1:wx2.cell? ⟨w.heap.size,1,none⟩=some (.int .i64 b):=bkeep bx (by first | (simp [go_sem];done) | simp [go_sem,c1_0_1])
 have c2_0_2:wx2.cell? ⟨w.heap.size,2,none⟩=some (.int .i64 lo):=bkeep bx (by first | (simp [go_sem];done) | simp [go_sem,c1_0_2])
 have c2_0_3:wx2.cell? ⟨w.heap.size,3,none⟩=some (.int .i64 hi):=bkeep bx (by first | (simp [go_sem];done) | simp [go_sem,c1_0_3])
 have c2_1_0:wx2.cell? ⟨w.heap.size+1,0,none⟩=some (.int .i64 0):=bkeep bx (by first | (simp [go_sem];done) | simp [go_sem,c1_1_0])
 have f2_1_0:wx2.frozen? ⟨w.heap.size+1,0,none⟩=false:=bthaw bx (v:=.int .i64 0) (by first | (simp [go_sem];done) | simp [go_sem,c1_1_0]) (by first | (simp [go_sem];done) | simp [go_sem,f1_1_0])
 have c2_1_1:wx2.cell? ⟨w.heap.size+1,1,none⟩=some (.int .i64 0):=bkeep bx (by first | (simp [go_sem];done) | simp [go_sem,c1_1_1])
 have f2_1_1:wx2.frozen? ⟨w.heap.size+1,1,none⟩=false:=bthaw bx (v:=.int .i64 0) (by first | (simp [go_sem];done) | simp [go_sem,c1_1_1]) (by first | (simp [go_sem];done) | simp [go_sem,f1_1_1])
 have c2_1_2:wx2.cell? ⟨w.heap.size+1,2,none⟩=some (.int .i64 0):=bkeep bx (by first | (simp [go_sem];done) | simp [go_sem,c1_1_2])
 have f2_1_2:wx2.frozen? ⟨w.heap.size+1,2,none⟩=false:=bthaw bx (v:=.int .i64 0) (by first | (simp [go_sem];done) | simp [go_sem,c1_1_2]) (by first | (simp [go_sem];done) | simp [go_sem,f1_1_2])
 have c2_1_3:wx2.cell? ⟨w.heap.size+1,3,none⟩=some (.int .i64 0):=bkeep bx (by first | (simp [go_sem];done) | simp [go_sem,c1_1_3])
 have f2_1_3:wx2.frozen? ⟨w.heap.size+1,3,none⟩=false:=bthaw bx (v:=.int .i64 0) (by first | (simp [go_sem];done) | simp [go_sem,c1_1_3]) (by first | (simp [go_sem];done) | simp [go_sem,f1_1_3])
 have c2_2_0:wx2.cell? ⟨w.heap.size+1+1,0,none⟩=some (.int .i64 ip):=bkeep bx (by first | (simp [go_sem];done) | simp [go_sem,c1_2_0])
 have f2_2_0:wx2.frozen? ⟨w.heap.size+1+1,0,none⟩=false:=bthaw bx (v:=.int .i64 ip) (by first | (simp [go_sem];done) | simp [go_sem,c1_2_0]) (by first | (simp [go_sem];done) | simp [go_sem,f1_2_0])
 have c2_2_1:wx2.cell? ⟨w.heap.size+1+1,1,none⟩=some (.int .i64 b):=bkeep bx (by first | (simp [go_sem];done) | simp [go_sem,c1_2_1])
 have f2_2_1:wx2.frozen? ⟨w.heap.size+1+1,1,none⟩=false:=bthaw bx (v:=.int .i64 b) (by first | (simp [go_sem];done) | simp [go_sem,c1_2_1]) (by first | (simp [go_sem];done) | simp [go_sem,f1_2_1])
 have c2_2_2:wx2.cell? ⟨w.heap.size+1+1,2,none⟩=some (.int .i64 0):=bkeep bx (by first | (simp [go_sem];done) | simp [go_sem,c1_2_2])
 have f2_2_2:wx2.frozen? ⟨w.heap.size+1+1,2,none⟩=false:=bthaw bx (v:=.int .i64 0) (by first | (simp [go_sem];done) | simp [go_sem,c1_2_2]) (by first | (simp [go_sem];done) | simp [go_sem,f1_2_2])
 have c2_2_3:wx2.cell? ⟨w.heap.size+1+1,3,none⟩=some (.int .i64 0):=bkeep bx (by first | (simp [go_sem];done) | simp [go_sem,c1_2_3])
 have f2_2_3:wx2.frozen? ⟨w.heap.size+1+1,3,none⟩=false:=bthaw bx (v:=.int .i64 0) (by first | (simp [go_sem];done) | simp [go_sem,c1_2_3]) (by first | (simp [go_sem];done) | simp [go_sem,f1_2_3])
 have BX2:Hid (Below w.heap.size w wx2):=((BX1.out.setCell (p:=⟨w.heap.size+1+1,_,_⟩) (by show w.heap.size≤w.heap.size+1+1;omega) _).setCell (p:=⟨w.heap.size+1+1,_,_⟩) (by show w.heap.size≤w.heap.size+1+1;omega) _).trans (bx.mono (by have:=BX1.out.size;simp <;> omega))
 clear bx c1_0_0 c1_0_1 c1_0_2 c1_0_3 c1_1_0 c1_1_1 c1_1_2 c1_1_3 c1_2_0 c1_2_1 c1_2_2 c1_2_3 f1_1_0 f1_1_1 f1_1_2 f1_1_3 f1_2_0 f1_2_1 f1_2_2 f1_2_3 BX1
 go_wp2
 (try simp only [Exit.inBlock,Exit.then])
 refine bodyPost_ret (v:=.agg #[.int .i64 ip,.int .i64 b,.int .i64 lo,.int .i64 hi]) (by simp [results,Tryz.results71,go_sem,c2_1_0,c2_1_1,c2_1_2,c2_1_3];try rfl) rfl ?_
 exact ⟨rfl,((((((BX2.out.setCell (p:=⟨w.heap.size+1+1,_,_⟩) (by show w.heap.size≤w.heap.size+1+1;omega) _).setCell (p:=⟨w.heap.size+1+1,_,_⟩) (by show w.heap.size≤w.heap.size+1+1;omega) _).setCell (p:=⟨w.heap.size+1,_,_⟩) (by show w.heap.size≤w.heap.size+1;omega) _).setCell (p:=⟨w.heap.size+1,_,_⟩) (by show w.heap.size≤w.heap.size+1;omega) _).setCell (p:=⟨w.heap.size+1,_,_⟩) (by show w.heap.size≤w.heap.size+1;omega) _).setCell (p:=⟨w.heap.size+1,_,_⟩) (by show w.heap.size≤w.heap.size+1;omega) _)⟩
set_option maxHeartbeats 1000000 in
theorem eqPlace_any (ip b lo hi:Int) (w:World) :
  Calls Tryz.prog 96 #[.agg #[.int .i64 ip,.int .i64 b,.int .i64 lo,.int .i64 hi],.agg #[.int .i64 ip,.int .i64 b,.int .i64 lo,.int .i64 hi]] w fun e w'=>e=.returned (.bool true)∧Grw w w':=by
 have HA:Hid (∀ w,Calls Tryz.prog 47 #[.agg #[.int .i64 ip,.int .i64 b],.agg #[.int .i64 ip,.int .i64 b]] w fun e w'=>e=.returned (.bool true)∧Grw w w'):=fun w=>eqNet2 ip b w
 have HB:Hid (∀ w,Calls Tryz.prog 126 #[.agg #[.int .i64 lo,.int .i64 hi],.agg #[.int .i64 lo,.int .i64 hi]] w fun e w'=>e=.returned (.bool true)∧Grw w w'):=fun w=>eqRange2 lo hi w
 go_enter Tryz.func96,Tryz.ntmps96
 go_wp2_with fail
 refine (HA.out _).mono ?_
 rintro e wx1 ⟨rfl,bx⟩
 have k0_0:World.cell? _ ⟨w.heap.size,0,none⟩=some (.int .i64 ip):=bx.keep (a:=⟨w.heap.size,0,none⟩) (v:=.int .i64 ip) (by simp [go_sem])
 have k0_1:World.cell? _ ⟨w.heap.size,1,none⟩=some (.int .i64 b):=bx.keep (a:=⟨w.heap.size,1,none⟩) (v:=.int .i64 b) (by simp [go_sem])
 have k0_2:World.cell? _ ⟨w.heap.size,2,none⟩=some (.int .i64 lo):=bx.keep (a:=⟨w.heap.size,2,none⟩) (v:=.int .i64 lo) (by simp [go_sem])
 have k0_3:World.cell? _ ⟨w.heap.size,3,none⟩=some (.int .i64 hi):=bx.keep (a:=⟨w.heap.size,3,none⟩) (v:=.int .i64 hi) (by simp [go_sem])
 have k1_0:World.cell? _ ⟨w.heap.size+1,0,none⟩=some (.int .i64 ip):=bx.keep (a:=⟨w.heap.size+1,0,none⟩) (v:=.int .i64 ip) (by simp [go_sem])
 have k1_1:World.cell? _ ⟨w.heap.size+1,1,none⟩=some (.int .i64 b):=bx.keep (a:=⟨w.heap.size+1,1,none⟩) (v:=.int .i64 b) (by simp [go_sem])
 have k1_2:World.cell? _ ⟨w.heap.size+1,2,none⟩=some (.int .i64 lo):=bx.keep (a:=⟨w.heap.size+1,2,none⟩) (v:=.int .i64 lo) (by simp [go_sem])
 have k1_3:World.cell? _ ⟨w.heap.size+1,3,none⟩=some (.int .i64 hi):=bx.keep (a:=⟨w.heap.size+1,3,none⟩) (v:=.int .i64 hi) (by simp [go_sem])
 have BX:Hid (Grw w _):=(((Grw.refl _).alloc _).alloc _).trans bx
 clear bx
 go_wp2_with fail
 refine (HB.out _).mono ?_
 rintro e wx2 ⟨rfl,bx⟩
 replace k0_0:=bx.keep k0_0
 replace k0_1:=bx.keep k0_1
 replace k0_2:=bx.keep k0_2
 replace k0_3:=bx.keep k0_3
 replace k1_0:=bx.keep k1_0
 replace k1_1:=bx.keep k1_1
 replace k1_2:=bx.keep k1_2
 replace k1_3:=bx.keep k1_3
 replace BX:Hid (Grw w _):=BX.out.trans bx
 clear bx
 go_wp2
 go_ret
 exact ⟨rfl,BX.out⟩
theorem szPlaceS_any (a:Option Addr) (len cap:Nat) (l:Int) (w:World) (hl:len≤9223372036854775807) (h0:0≤l) (h1:l≤1048576) :
  Calls Tryz.prog 15 #[.slice a len cap,.int .i64 l] w fun e w'=>∃ r:Int,e=.returned (.int .i64 r)∧(0≤r→r=l - len)∧-1≤r∧r≤1048576∧w'=w:=by
 by_cases h:(len:Int)≤l
 ·go_enter Tryz.func15,Tryz.ntmps15
  go_wp2
  go_ret
  exact ⟨_,rfl,fun _=>by omega,by omega,by omega,rfl⟩
 ·go_enter Tryz.func15,Tryz.ntmps15
  go_wp2
  go_ret
  exact ⟨-1,rfl,fun h=>absurd h (by omega),by omega,by omega,rfl⟩
theorem infoPlace:(Tryz.prog.info? 126).map (fun i=>(i.zero,i.size,i.bytes))=some (some (.agg #[.int .i64 0,.int .i64 0,.int .i64 0,.int .i64 0]),4,32):=by kernel_rfl
set_option maxHeartbeats 2000000 in
theorem eqPlaceS_yes (a a':Option Addr) (len cap cap':Nat) (xs:List PlaceV) (w:World) (h:Rw PlR 4 w a xs) (h':Rw PlR 4 w a' xs) (hl:xs.length=len) (hlen:len≤1048576) :
  Calls Tryz.prog 48 #[.slice a len cap,.slice a' len cap'] w fun e w'=>e=.returned (.bool true)∧Grw w w':=by
 have hne:((len:Int) != (len:Int))=false:=by simp
 have hmix:Tryz.prog.follows .mixedOrders=true:=by kernel_rfl
 have RW:Hid (Rw PlR 4 w a xs):=h
 have RW':Hid (Rw PlR 4 w a' xs):=h'
 clear h h'
 go_enter Tryz.func48,Tryz.ntmps48
 go_wp2
 go_loopw [5] (fun i wr=>∃ k:Nat,k≤len∧i=.int .i64 k∧Hid (Grw w wr)) (fun i _=>len - (intOf i).toNat)
 case atStart=>exact ⟨0,Nat.zero_le _,rfl,Grw.refl w⟩
 case round =>
  obtain ⟨k,hk,rfl,HG⟩:=hrel
  by_cases hlt:k<len
  ·obtain ⟨x,hx⟩:=at_of hl hlt
   obtain ⟨b,off,vs,rfl,hb,hvl,hR,hc⟩:=RW.out.at PlR.kp HG.out.below hx
   obtain ⟨b',off',vs',rfl,hb',hvl',hR',hc'⟩:=RW'.out.at PlR.kp HG.out.below hx
   obtain ⟨ip,bb,lo,hi⟩:=x
   obtain ⟨rfl,hlo,hhi⟩:=hR
   obtain ⟨rfl,-,-⟩:=hR'
   have q0:∀ n os,(grow (wr.drewN n) os).cell? ⟨b,off+k * 4,none⟩=some (.int .i64 ip):=fun n os=>grown_cell hb HG.out (hc 0 _ rfl) n os
   have q1:∀ n os,(grow (wr.drewN n) os).cell? ⟨b,off+k * 4+1,none⟩=some (.int .i64 bb):=fun n os=>grown_cell hb HG.out (hc 1 _ rfl) n os
   have q2:∀ n os,(grow (wr.drewN n) os).cell? ⟨b,off+k * 4+2,none⟩=some (.int .i64 lo):=fun n os=>grown_cell hb HG.out (hc 2 _ rfl) n os
   have q3:∀ n os,(grow (wr.drewN n) os).cell? ⟨b,off+k * 4+3,none⟩=some (.int .i64 hi):=fun n os=>grown_cell hb HG.out (hc 3 _ rfl) n os
   have r0:∀ n os,(grow (wr.drewN n) os).cell? ⟨b',off'+k * 4,none⟩=some (.int .i64 ip):=fun n os=>grown_cell hb' HG.out (hc' 0 _ rfl) n os
   have r1:∀ n os,(grow (wr.drewN n) os).cell? ⟨b',off'+k * 4+1,none⟩=some (.int .i64 bb):=fun n os=>grown_cell hb' HG.out (hc' 1 _ rfl) n os
   have r2:∀ n os,(grow (wr.drewN n) os).cell? ⟨b',off'+k * 4+2,none⟩=some (.int .i64 lo):=fun n os=>grown_cell hb' HG.out (hc' 2 _ rfl) n os
   have r3:∀ n os,(grow (wr.drewN n) os).cell? ⟨b',off'+k * 4+3,none⟩=some (.int .i64 hi):=fun n os=>grown_cell hb' HG.out (hc' 3 _ rfl) n os
   have HE:Hid (∀ w,Calls Tryz.prog 96 #[.agg #[.int .i64 ip,.int .i64 bb,.int .i64 lo,.int .i64 hi],.agg #[.int .i64 ip,.int .i64 bb,.int .i64 lo,.int .i64 hi]] w fun e w'=>e=.returned (.bool true)∧Grw w w'):=fun w=>eqPlace_any _ _ _ _ w
   have hltz:(k:Int)<(len:Int):=by omega
   clear hc hc'
   go_wp2_with fail
   refine wp_region_quiet_grown (by assumption) (by kernel_rfl) ?_
   repeat (go_big_quiet_step (first | fail | (go_at_call 96;exact Calls.grown_of (HE.out _))))
   refine wpQuiet_nil ?_
   intro _ hw'
   obtain ⟨⟨nq,osq⟩,hw''⟩:=hw'
   subst hw''
   have HG2:Hid (Grw w (grow (wr.drewN nq) osq)):=HG.out.trans ⟨nq,osq,rfl⟩
   clear q0 q1 q2 q3 r0 r1 r2 r3 HG HE
   go_wp2
   go_roundw
   case rel=>exact ⟨k+1,by omega,by go_num,HG2⟩
   case measure=>simp [intOf];omega
  ·obtain rfl:k=len:=by omega
   go_wp2
   go_ret
   exact ⟨rfl,HG.out⟩
def szR (ros:List RoleV):Int:=ros.foldr (fun r n=>(r.nm.size:Int)+r.rs.length+n) 0
theorem szR_nonneg:∀ ros:List RoleV,0≤szR ros
 | []=>Int.le_refl _
 | r :: ros=>by have:=szR_nonneg ros;unfold szR at *;rw [List.foldr_cons];omega
theorem szR_cons (r:RoleV) (ros:List RoleV):szR (r :: ros)=(r.nm.size:Int)+r.rs.length+szR ros:=rfl
theorem szR_mem:∀ (ros:List RoleV) (r:RoleV),r ∈ ros→(r.nm.size:Int)+r.rs.length≤szR ros
 | [],r,h=>by simp at h
 | x :: ros,r,h=>by
  rw [szR_cons]
  rcases List.mem_cons.1 h with rfl | h
  ·have:=szR_nonneg ros;omega
  ·have:=szR_mem ros r h;omega
theorem szR_step:∀ (ros:List RoleV) (k:Nat) (r:RoleV),ros[k]?=some r→szR (ros.take (k+1))=szR (ros.take k)+((r.nm.size:Int)+r.rs.length)
 | [],k,r,h=>by simp at h
 | x :: ros,0,r,h=>by
  simp at h
  subst h
  simp [szR]
 | x :: ros,k+1,r,h=>by
  have:=szR_step ros k r (by simpa using h)
  rw [List.take_succ_cons,List.take_succ_cons,szR_cons,szR_cons,this]
  omega
theorem SzR_of {ros:List RoleV} {n:Int} (h:szR ros≤n) (hn:n≤1048576):SzR ros:=by
 intro r hr
 have:=szR_mem ros r hr
 omega
set_option maxHeartbeats 2000000 in
theorem szRoleS_any (a:Option Addr) (len cap:Nat) (ros:List RoleV) (l:Int) (w:World) (h:Rw (RoR 0) 5 w a ros) (hl:ros.length=len) (hlm:len≤9223372036854775807) (h0:0≤l) (h1:l≤1048576) :
  Calls Tryz.prog 16 #[.slice a len cap,.int .i64 l] w fun e w'=>∃ r:Int,e=.returned (.int .i64 r)∧(0≤r→(len:Int)+szR ros≤l)∧-1≤r∧r≤1048576∧Grw w w':=by
 have RW:Hid (Rw (RoR 0) 5 w a ros):=h
 clear h
 by_cases hle:(len:Int)≤l
 rotate_left
 ·go_enter Tryz.func16,Tryz.ntmps16
  go_wp2
  go_ret
  exact ⟨-1,rfl,fun h=>absurd h (by omega),by omega,by omega,Grw.refl _⟩
 go_enter Tryz.func16,Tryz.ntmps16
 go_wp2
 go_loopw [1,5] (fun p x wr=>∃ (k:Nat) (r:Int),k≤len∧x=.int .i64 k∧p=.int .i64 r∧0≤r∧r≤1048576∧Hid (r=l - len - szR (ros.take k))∧Hid (Grw w wr)) (fun _ x _=>len - (intOf x).toNat)
 case atStart=>exact ⟨0,l - len,Nat.zero_le _,rfl,rfl,by omega,by omega,by show l - len=l - len - 0;omega,Grw.refl _⟩
 case round =>
  obtain ⟨k,r,hk,rfl,rfl,hr0,hr1,HR,HG⟩:=hrel
  by_cases hlt:k<len
  ·obtain ⟨x,hx⟩:=at_of hl hlt
   obtain ⟨b,off,vs,rfl,hb,hvl,hR,hc⟩:=RW.out.at (RoR.kp 0) HG.out.below hx
   have HS:Hid (szR (ros.take (k+1))=szR (ros.take k)+((x.nm.size:Int)+x.rs.length)):=szR_step ros k x hx
   obtain ⟨nm,rrs,rq,rm,ri⟩:=x
   obtain ⟨ra,rc,rfl,hnm,hrc,hrm,hRR,-⟩:=hR
   have q0:wr.cell? ⟨b,off+k * 5,none⟩=some (.string nm):=hc 0 _ rfl
   have q1:wr.cell? ⟨b,off+k * 5+1,none⟩=some (.slice ra rrs.length rc):=hc 1 _ rfl
   have q2:wr.cell? ⟨b,off+k * 5+2,none⟩=some (.int .i64 rq):=hc 2 _ rfl
   have q3:wr.cell? ⟨b,off+k * 5+3,none⟩=some (.int .i64 rm):=hc 3 _ rfl
   have q4:wr.cell? ⟨b,off+k * 5+4,none⟩=some (.int .i64 ri):=hc 4 _ rfl
   have hnm2:nm.size≤maxLen:=hnm
   have hrc2:rrs.length≤rc:=hrc
   have HN:Hid (∀ w,Calls Tryz.prog 60 #[.agg #[.string nm,.slice ra rrs.length rc,.int .i64 rq,.int .i64 rm,.int .i64 ri],.int .i64 r] w fun e w'=>∃ r':Int,e=.returned (.int .i64 r')∧(0≤r'→r'=r - nm.size - rrs.length)∧-1≤r'∧r'≤1048576∧Grw w w'):=fun w=>szRole_any nm rq rm ri ra rrs.length rc r w (by unfold maxLen at hnm2;omega) (by unfold maxLen at hrm;omega) hr0 hr1
   have hltz:(k:Int)<(len:Int):=by omega
   clear hc hvl hx hRR hrc hrm hnm hnm2 hrc2
   go_wp2_with fail
   refine (HN.out _).mono ?_
   rintro e w1 ⟨r',rfl,hr',hr2,hr3,g1⟩
   have HG1:Hid (Grw w w1):=HG.out.trans g1
   clear q0 q1 q2 q3 q4 HN g1 HG
   by_cases hneg:r'<0
   ·go_wp2
    go_ret
    exact ⟨-1,rfl,fun h=>absurd h (by omega),by omega,by omega,HG1.out⟩
   ·have HR':Hid (r'=l - len - szR (ros.take (k+1))):=by
     have e1:=HR.out
     have e2:szR (ros.take (k+1))=szR (ros.take k)+((nm.size:Int)+rrs.length):=HS.out
     have e3:=hr' (by omega)
     show r'=_
     rw [e2]
     omega
    clear HR HS hr'
    go_wp2
    go_roundw
    case rel=>exact ⟨k+1,r',by omega,by go_num,rfl,by omega,hr3,HR',HG1⟩
    case measure=>simp [intOf];omega
  ·obtain rfl:k=len:=by omega
   have hfin:Hid ((k:Int)+szR ros≤l):=by
    have e1:=HR.out
    rw [List.take_of_length_le (by omega)] at e1
    show (k:Int)+szR ros≤l
    omega
   go_wp2
   go_ret
   exact ⟨r,rfl,fun _=>hfin.out,by omega,hr1,HG.out⟩
set_option maxHeartbeats 2000000 in
theorem eqRoleS_yes (a a':Option Addr) (len cap cap':Nat) (xs:List RoleV) (w:World) (h:Rw (RoR 0) 5 w a xs) (h':Rw (RoR 0) 5 w a' xs) (hl:xs.length=len) (hlen:len≤1048576) (hsz:SzR xs) :
  Calls Tryz.prog 49 #[.slice a len cap,.slice a' len cap'] w fun e w'=>e=.returned (.bool true)∧Grw w w':=by
 have hne:((len:Int) != (len:Int))=false:=by simp
 have hmix:Tryz.prog.follows .mixedOrders=true:=by kernel_rfl
 have RW:Hid (Rw (RoR 0) 5 w a xs):=h
 have RW':Hid (Rw (RoR 0) 5 w a' xs):=h'
 have SZ:Hid (SzR xs):=hsz
 clear h h' hsz
 go_enter Tryz.func49,Tryz.ntmps49
 go_wp2
 go_loopw [5] (fun i wr=>∃ k:Nat,k≤len∧i=.int .i64 k∧Hid (Grw w wr)) (fun i _=>len - (intOf i).toNat)
 case atStart=>exact ⟨0,Nat.zero_le _,rfl,Grw.refl w⟩
 case round =>
  obtain ⟨k,hk,rfl,HG⟩:=hrel
  by_cases hlt:k<len
  ·obtain ⟨x,hx⟩:=at_of hl hlt
   have hsz:=SZ.out _ (List.mem_of_getElem? hx)
   obtain ⟨b,off,vs,rfl,hb,hvl,hR,hc⟩:=RW.out.at (RoR.kp 0) HG.out.below hx
   obtain ⟨b',off',vs',rfl,hb',hvl',hR',hc'⟩:=RW'.out.at (RoR.kp 0) HG.out.below hx
   obtain ⟨nm,rrs,rq,rm,ri⟩:=x
   obtain ⟨ra,rc,rfl,hnm,hrc,hrm,hRR,-⟩:=hR
   obtain ⟨ra2,rc2,rfl,-,-,-,hRR2,-⟩:=hR'
   have q0:∀ n os,(grow (wr.drewN n) os).cell? ⟨b,off+k * 5,none⟩=some (.string nm):=fun n os=>grown_cell hb HG.out (hc 0 _ rfl) n os
   have q1:∀ n os,(grow (wr.drewN n) os).cell? ⟨b,off+k * 5+1,none⟩=some (.slice ra rrs.length rc):=fun n os=>grown_cell hb HG.out (hc 1 _ rfl) n os
   have q2:∀ n os,(grow (wr.drewN n) os).cell? ⟨b,off+k * 5+2,none⟩=some (.int .i64 rq):=fun n os=>grown_cell hb HG.out (hc 2 _ rfl) n os
   have q3:∀ n os,(grow (wr.drewN n) os).cell? ⟨b,off+k * 5+3,none⟩=some (.int .i64 rm):=fun n os=>grown_cell hb HG.out (hc 3 _ rfl) n os
   have q4:∀ n os,(grow (wr.drewN n) os).cell? ⟨b,off+k * 5+4,none⟩=some (.int .i64 ri):=fun n os=>grown_cell hb HG.out (hc 4 _ rfl) n os
   have r0:∀ n os,(grow (wr.drewN n) os).cell? ⟨b',off'+k * 5,none⟩=some (.string nm):=fun n os=>grown_cell hb' HG.out (hc' 0 _ rfl) n os
   have r1:∀ n os,(grow (wr.drewN n) os).cell? ⟨b',off'+k * 5+1,none⟩=some (.slice ra2 rrs.length rc2):=fun n os=>grown_cell hb' HG.out (hc' 1 _ rfl) n os
   have r2:∀ n os,(grow (wr.drewN n) os).cell? ⟨b',off'+k * 5+2,none⟩=some (.int .i64 rq):=fun n os=>grown_cell hb' HG.out (hc' 2 _ rfl) n os
   have r3:∀ n os,(grow (wr.drewN n) os).cell? ⟨b',off'+k * 5+3,none⟩=some (.int .i64 rm):=fun n os=>grown_cell hb' HG.out (hc' 3 _ rfl) n os
   have r4:∀ n os,(grow (wr.drewN n) os).cell? ⟨b',off'+k * 5+4,none⟩=some (.int .i64 ri):=fun n os=>grown_cell hb' HG.out (hc' 4 _ rfl) n os
   have HE:Hid (∀ w,Rw RuR 6 w ra rrs→Rw RuR 6 w ra2 rrs→Calls Tryz.prog 97 #[.agg #[.string nm,.slice ra rrs.length rc,.int .i64 rq,.int .i64 rm,.int .i64 ri],.agg #[.string nm,.slice ra2 rrs.length rc2,.int .i64 rq,.int .i64 rm,.int .i64 ri]] w fun e w'=>e=.returned (.bool true)∧Grw w w'):=fun w h h'=>eqRole_yes nm rrs rq rm ri ra ra2 _ rc rc2 w h h' rfl hsz.2
   have YR:Hid (∀ n os,Rw RuR 6 (grow (wr.drewN n) os) ra rrs∧Rw RuR 6 (grow (wr.drewN n) os) ra2 rrs):=fun n os=>⟨hRR.keep RuR.kp (Grw.below ⟨n,os,rfl⟩),hRR2.keep RuR.kp (Grw.below ⟨n,os,rfl⟩)⟩
   have hltz:(k:Int)<(len:Int):=by omega
   clear hc hc' hRR hRR2
   go_wp2_with fail
   refine wp_region_quiet_grown (by assumption) (by kernel_rfl) ?_
   repeat (go_big_quiet_step (first | fail | (go_at_call 97;exact Calls.grown_of (HE.out _ (YR.out _ _).1 (YR.out _ _).2))))
   refine wpQuiet_nil ?_
   intro _ hw'
   obtain ⟨⟨nq,osq⟩,hw''⟩:=hw'
   subst hw''
   have HG2:Hid (Grw w (grow (wr.drewN nq) osq)):=HG.out.trans ⟨nq,osq,rfl⟩
   clear q0 q1 q2 q3 q4 r0 r1 r2 r3 r4 HG HE YR
   go_wp2
   go_roundw
   case rel=>exact ⟨k+1,by omega,by go_num,HG2⟩
   case measure=>simp [intOf];omega
  ·obtain rfl:k=len:=by omega
   go_wp2
   go_ret
   exact ⟨rfl,HG.out⟩
set_option maxHeartbeats 2000000 in
theorem szConfig_any (ip b gt:Int) (gm wm:ByteArray) (rs:Int) (x y:Option Addr) (lenx capx leny capy:Nat) (ps:List PlaceV) (ros:List RoleV) (w:World) (h:Rw PlR 4 w x ps) (hl:ps.length=lenx) (h2:Rw (RoR 0) 5 w y ros) (hl2:ros.length=leny) (hg:gm.size≤9223372036854775807) (hw:wm.size≤9223372036854775807) (hx:lenx≤9223372036854775807) (hy:leny≤9223372036854775807) :
  Calls Tryz.prog 4 #[.agg #[.int .i64 ip,.int .i64 b,.int .i64 gt,.string gm,.string wm,.int .i64 rs,.slice x lenx capx,.slice y leny capy],.int .i64 1048576] w fun e w'=>∃ r:Int,e=.returned (.int .i64 r)∧(0≤r→(gm.size:Int)+wm.size+lenx+leny+szR ros≤1048576)∧-1≤r∧r≤1048576∧Grw w w':=by
 have RY:Hid (Rw (RoR 0) 5 w y ros):=h2
 clear h h2
 by_cases h1:(gm.size:Int)≤1048576
 rotate_left
 ·go_enter Tryz.func4,Tryz.ntmps4
  go_wp2
  go_ret
  exact ⟨-1,rfl,fun h=>absurd h (by omega),by omega,by omega,(Grw.refl _).alloc _⟩
 by_cases h3:(wm.size:Int)≤1048576 - gm.size
 rotate_left
 ·go_enter Tryz.func4,Tryz.ntmps4
  go_wp2
  go_ret
  exact ⟨-1,rfl,fun h=>absurd h (by omega),by omega,by omega,(Grw.refl _).alloc _⟩
 have HC:Hid (∀ w,Calls Tryz.prog 15 #[.slice x lenx capx,.int .i64 (1048576 - gm.size - wm.size)] w fun e w'=>∃ r:Int,e=.returned (.int .i64 r)∧(0≤r→r=1048576 - gm.size - wm.size - lenx)∧-1≤r∧r≤1048576∧w'=w):=fun w=>szPlaceS_any x lenx capx _ w hx (by omega) (by omega)
 go_enter Tryz.func4,Tryz.ntmps4
 go_wp2_with fail
 refine (HC.out _).mono ?_
 rintro e w1 ⟨r,rfl,hr,hr1,hr2,rfl⟩
 by_cases hr0:r<0
 ·go_wp2
  go_ret
  exact ⟨-1,rfl,fun h=>absurd h (by omega),by omega,by omega,(Grw.refl _).alloc _⟩
 have hrv:=hr (by omega)
 have HD:Hid (∀ w,Rw (RoR 0) 5 w y ros→Calls Tryz.prog 16 #[.slice y leny capy,.int .i64 r] w fun e w'=>∃ r':Int,e=.returned (.int .i64 r')∧(0≤r'→(leny:Int)+szR ros≤r)∧-1≤r'∧r'≤1048576∧Grw w w'):=fun w h=>szRoleS_any y leny capy ros r w h hl2 hy (by omega) hr2
 have HV:Hid (r=1048576 - gm.size - wm.size - lenx):=hrv
 clear hr hrv
 go_wp2_with fail
 refine (HD.out _ (RY.out.keep (RoR.kp 0) ((Grw.refl w).alloc _).below)).mono ?_
 rintro e w2 ⟨r',rfl,hr',hr3,hr4,g2⟩
 have BX:Hid (Grw w w2):=((Grw.refl _).alloc _).trans g2
 clear g2
 by_cases hr5:r'<0
 ·go_wp2
  go_ret
  exact ⟨-1,rfl,fun h=>absurd h (by omega),by omega,by omega,BX.out⟩
 ·have hfin:Hid ((gm.size:Int)+wm.size+lenx+leny+szR ros≤1048576):=by
   have e1:=hr' (by omega)
   have e2:=HV.out
   show (gm.size:Int)+wm.size+lenx+leny+szR ros≤1048576
   omega
  clear hr'
  go_wp2
  go_ret
  exact ⟨r',rfl,fun _=>hfin.out,by omega,hr4,BX.out⟩
set_option maxHeartbeats 2000000 in
theorem eqConfig_caps (ip b gt:Int) (gm wm:ByteArray) (rs:Int) (xa ya xb yb:Option Addr) (lenx leny cxa cya cxb cyb:Nat) (ps:List PlaceV) (ros:List RoleV) (w:World) (h:Rw PlR 4 w xa ps) (h':Rw PlR 4 w xb ps) (hl:ps.length=lenx) (h2:Rw (RoR 0) 5 w ya ros) (h2':Rw (RoR 0) 5 w yb ros) (hl2:ros.length=leny) (hx:lenx≤1048576) (hy:leny≤1048576) (hsz:SzR ros) :
  Calls Tryz.prog 11 #[.agg #[.int .i64 ip,.int .i64 b,.int .i64 gt,.string gm,.string wm,.int .i64 rs,.slice xa lenx cxa,.slice ya leny cya],.agg #[.int .i64 ip,.int .i64 b,.int .i64 gt,.string gm,.string wm,.int .i64 rs,.slice xb lenx cxb,.slice yb leny cyb]] w fun e w'=>e=.returned (.bool true)∧Grw w w':=by
 have RX:Hid (Rw PlR 4 w xa ps∧Rw PlR 4 w xb ps):=⟨h,h'⟩
 have RY:Hid (Rw (RoR 0) 5 w ya ros∧Rw (RoR 0) 5 w yb ros):=⟨h2,h2'⟩
 have HA:Hid (∀ w,Calls Tryz.prog 47 #[.agg #[.int .i64 ip,.int .i64 b],.agg #[.int .i64 ip,.int .i64 b]] w fun e w'=>e=.returned (.bool true)∧Grw w w'):=fun w=>eqNet2 ip b w
 have HB:Hid (∀ w,Rw PlR 4 w xa ps→Rw PlR 4 w xb ps→Calls Tryz.prog 48 #[.slice xa lenx cxa,.slice xb lenx cxb] w fun e w'=>e=.returned (.bool true)∧Grw w w'):=fun w h h'=>eqPlaceS_yes xa xb lenx cxa cxb ps w h h' hl hx
 have HC:Hid (∀ w,Rw (RoR 0) 5 w ya ros→Rw (RoR 0) 5 w yb ros→Calls Tryz.prog 49 #[.slice ya leny cya,.slice yb leny cyb] w fun e w'=>e=.returned (.bool true)∧Grw w w'):=fun w h h'=>eqRoleS_yes ya yb leny cya cyb ros w h h' hl2 hy hsz
 clear h h' h2 h2' hsz
 have n0:(gt != gt)=false:=by simp
 have n1:(gm.toList == gm.toList)=true:=by simp
 have n2:(wm.toList == wm.toList)=true:=by simp
 have n3:(rs != rs)=false:=by simp
 go_enter Tryz.func11,Tryz.ntmps11
 go_wp2_with fail
 refine (HA.out _).mono ?_
 rintro e wx1 ⟨rfl,bx⟩
 have k0_0:World.cell? _ ⟨w.heap.size,0,none⟩=some (.int .i64 ip):=bx.keep (a:=⟨w.heap.size,0,none⟩) (v:=.int .i64 ip) (by simp [go_sem])
 have k0_1:World.cell? _ ⟨w.heap.size,1,none⟩=some (.int .i64 b):=bx.keep (a:=⟨w.heap.size,1,none⟩) (v:=.int .i64 b) (by simp [go_sem])
 have k0_2:World.cell? _ ⟨w.heap.size,2,none⟩=some (.int .i64 gt):=bx.keep (a:=⟨w.heap.size,2,none⟩) (v:=.int .i64 gt) (by simp [go_sem])
 have k0_3:World.cell? _ ⟨w.heap.size,3,none⟩=some (.string gm):=bx.keep (a:=⟨w.heap.size,3,none⟩) (v:=.string gm) (by simp [go_sem])
 have k0_4:World.cell? _ ⟨w.heap.size,4,none⟩=some (.string wm):=bx.keep (a:=⟨w.heap.size,4,none⟩) (v:=.string wm) (by simp [go_sem])
 have k0_5:World.cell? _ ⟨w.heap.size,5,none⟩=some (.int .i64 rs):=bx.keep (a:=⟨w.heap.size,5,none⟩) (v:=.int .i64 rs) (by simp [go_sem])
 have k0_6:World.cell? _ ⟨w.heap.size,6,none⟩=some (.slice xa lenx cxa):=bx.keep (a:=⟨w.heap.size,6,none⟩) (v:=.slice xa lenx cxa) (by simp [go_sem])
 have k0_7:World.cell? _ ⟨w.heap.size,7,none⟩=some (.slice ya leny cya):=bx.keep (a:=⟨w.heap.size,7,none⟩) (v:=.slice ya leny cya) (by simp [go_sem])
 have k1_0:World.cell? _ ⟨w.heap.size+1,0,none⟩=some (.int .i64 ip):=bx.keep (a:=⟨w.heap.size+1,0,none⟩) (v:=.int .i64 ip) (by simp [go_sem])
 have k1_1:World.cell? _ ⟨w.heap.size+1,1,none⟩=some (.int .i64 b):=bx.keep (a:=⟨w.heap.size+1,1,none⟩) (v:=.int .i64 b) (by simp [go_sem])
 have k1_2:World.cell? _ ⟨w.heap.size+1,2,none⟩=some (.int .i64 gt):=bx.keep (a:=⟨w.heap.size+1,2,none⟩) (v:=.int .i64 gt) (by simp [go_sem])
 have k1_3:World.cell? _ ⟨w.heap.size+1,3,none⟩=some (.string gm):=bx.keep (a:=⟨w.heap.size+1,3,none⟩) (v:=.string gm) (by simp [go_sem])
 have k1_4:World.cell? _ ⟨w.heap.size+1,4,none⟩=some (.string wm):=bx.keep (a:=⟨w.heap.size+1,4,none⟩) (v:=.string wm) (by simp [go_sem])
 have k1_5:World.cell? _ ⟨w.heap.size+1,5,none⟩=some (.int .i64 rs):=bx.keep (a:=⟨w.heap.size+1,5,none⟩) (v:=.int .i64 rs) (by simp [go_sem])
 have k1_6:World.cell? _ ⟨w.heap.size+1,6,none⟩=some (.slice xb lenx cxb):=bx.keep (a:=⟨w.heap.size+1,6,none⟩) (v:=.slice xb lenx cxb) (by simp [go_sem])
 have k1_7:World.cell? _ ⟨w.heap.size+1,7,none⟩=some (.slice yb leny cyb):=bx.keep (a:=⟨w.heap.size+1,7,none⟩) (v:=.slice yb leny cyb) (by simp [go_sem])
 have BX:Hid (Grw w _):=(((Grw.refl _).alloc _).alloc _).trans bx
 clear bx
 go_wp2_with fail
 refine (HB.out _ (RX.out.1.keep PlR.kp BX.out.below) (RX.out.2.keep PlR.kp BX.out.below)).mono ?_
 rintro e wx2 ⟨rfl,bx⟩
 replace k0_0:=bx.keep k0_0
 replace k0_1:=bx.keep k0_1
 replace k0_2:=bx.keep k0_2
 replace k0_3:=bx.keep k0_3
 replace k0_4:=bx.keep k0_4
 replace k0_5:=bx.keep k0_5
 replace k0_6:=bx.keep k0_6
 replace k0_7:=bx.keep k0_7
 replace k1_0:=bx.keep k1_0
 replace k1_1:=bx.keep k1_1
 replace k1_2:=bx.keep k1_2
 replace k1_3:=bx.keep k1_3
 replace k1_4:=bx.keep k1_4
 replace k1_5:=bx.keep k1_5
 replace k1_6:=bx.keep k1_6
 replace k1_7:=bx.keep k1_7
 replace BX:Hid (Grw w _):=BX.out.trans bx
 clear bx
 go_wp2_with fail
 refine (HC.out _ (RY.out.1.keep (RoR.kp 0) BX.out.below) (RY.out.2.keep (RoR.kp 0) BX.out.below)).mono ?_
 rintro e wx3 ⟨rfl,bx⟩
 replace k0_0:=bx.keep k0_0
 replace k0_1:=bx.keep k0_1
 replace k0_2:=bx.keep k0_2
 replace k0_3:=bx.keep k0_3
 replace k0_4:=bx.keep k0_4
 replace k0_5:=bx.keep k0_5
 replace k0_6:=bx.keep k0_6
 replace k0_7:=bx.keep k0_7
 replace k1_0:=bx.keep k1_0
 replace k1_1:=bx.keep k1_1
 replace k1_2:=bx.keep k1_2
 replace k1_3:=bx.keep k1_3
 replace k1_4:=bx.keep k1_4
 replace k1_5:=bx.keep k1_5
 replace k1_6:=bx.keep k1_6
 replace k1_7:=bx.keep k1_7
 replace BX:Hid (Grw w _):=BX.out.trans bx
 clear bx
 go_wp2
 go_ret
 exact ⟨rfl,BX.out⟩
end Go.Proofs.YtojcakkkakmniaaGreatDoor
