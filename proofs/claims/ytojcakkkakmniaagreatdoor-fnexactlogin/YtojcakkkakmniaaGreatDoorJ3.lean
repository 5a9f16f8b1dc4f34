/- Users, sessions, fails, records and lists of them in the laws: measured, copied, compared. -/
import Derived.Test.YtojcakkkakmniaaGreatDoorJ2
namespace Go.Proofs.YtojcakkkakmniaaGreatDoor
open Go.RowKit Go.PlainAid Go.Proofs.YtojcakkkakmniaaGreatDoor.Bt Go.Sort
set_option linter.unusedVariables false
set_option maxRecDepth 20000
set_option maxHeartbeats 2000000 in
theorem toUser_any (nm:ByteArray) (sa:ByteArray) (ha:ByteArray) (ro:ByteArray) (bl:Int) (lg:Int) (w:World) :
  Calls Tryz.prog 73 #[.agg #[.string nm,.string sa,.string ha,.string ro,.int .i64 bl,.int .i64 lg]] w fun e w'=>e=.returned (.agg #[.string nm,.string sa,.string ha,.string ro,.int .i64 bl,.int .i64 lg])∧Below w.heap.size w w':=by
 go_enter Tryz.func73,Tryz.ntmps73
 go_wp2
 (try simp only [Exit.inBlock,Exit.then])
 refine bodyPost_ret (v:=.agg #[.string nm,.string sa,.string ha,.string ro,.int .i64 bl,.int .i64 lg]) (by simp [results,Tryz.results73,go_sem];try rfl) rfl ?_
 exact ⟨rfl,((((Grw.refl _).alloc _).alloc _).alloc _).below⟩
set_option maxHeartbeats 1000000 in
theorem eqUser_any (nm:ByteArray) (sa:ByteArray) (ha:ByteArray) (ro:ByteArray) (bl:Int) (lg:Int) (w:World) :
  Calls Tryz.prog 92 #[.agg #[.string nm,.string sa,.string ha,.string ro,.int .i64 bl,.int .i64 lg],.agg #[.string nm,.string sa,.string ha,.string ro,.int .i64 bl,.int .i64 lg]] w fun e w'=>e=.returned (.bool true)∧Grw w w':=by
 have h0:(nm.toList == nm.toList)=true:=by simp
 have h1:(sa.toList == sa.toList)=true:=by simp
 have h2:(ha.toList == ha.toList)=true:=by simp
 have h3:(ro.toList == ro.toList)=true:=by simp
 have h4:(bl != bl)=false:=by simp
 have h5:(lg != lg)=false:=by simp
 go_enter Tryz.func92,Tryz.ntmps92
 go_wp2
 go_ret
 exact ⟨rfl,((Grw.refl _).alloc _).alloc _⟩
theorem infoUser:(Tryz.prog.info? 84).map (fun i=>(i.zero,i.size,i.bytes))=some (some (.agg #[.string ⟨#[]⟩,.string ⟨#[]⟩,.string ⟨#[]⟩,.string ⟨#[]⟩,.int .i64 0,.int .i64 0]),6,80):=by kernel_rfl
set_option maxHeartbeats 2000000 in
theorem eqUserS_yes (a a':Option Addr) (len cap cap':Nat) (xs:List UserV) (w:World) (h:Rw UsR 6 w a xs) (h':Rw UsR 6 w a' xs) (hl:xs.length=len) (hlen:len≤9223372036854775807) :
  Calls Tryz.prog 43 #[.slice a len cap,.slice a' len cap'] w fun e w'=>e=.returned (.bool true)∧Grw w w':=by
 have hne:((len:Int) != (len:Int))=false:=by simp
 have hmix:Tryz.prog.follows .mixedOrders=true:=by kernel_rfl
 have RW:Hid (Rw UsR 6 w a xs):=h
 have RW':Hid (Rw UsR 6 w a' xs):=h'
 clear h h'
 go_enter Tryz.func43,Tryz.ntmps43
 go_wp2
 go_loopw [5] (fun i wr=>∃ k:Nat,k≤len∧i=.int .i64 k∧Hid (Grw w wr)) (fun i _=>len - (intOf i).toNat)
 case atStart=>exact ⟨0,Nat.zero_le _,rfl,Grw.refl w⟩
 case round =>
  obtain ⟨k,hk,rfl,HG⟩:=hrel
  by_cases hlt:k<len
  ·obtain ⟨x,hx⟩:=at_of hl hlt
   obtain ⟨b,off,vs,rfl,hb,hvl,hR,hc⟩:=RW.out.at UsR.kp HG.out.below hx
   obtain ⟨b',off',vs',rfl,hb',hvl',hR',hc'⟩:=RW'.out.at UsR.kp HG.out.below hx
   obtain ⟨nm,sa,ha,ro,bl,lg⟩:=x
   obtain ⟨rfl,-⟩:=hR
   obtain ⟨rfl,-⟩:=hR'
   have q0:∀ n os,(grow (wr.drewN n) os).cell? ⟨b,off+k * 6,none⟩=some (.string nm):=fun n os=>grown_cell hb HG.out (hc 0 _ rfl) n os
   have q1:∀ n os,(grow (wr.drewN n) os).cell? ⟨b,off+k * 6+1,none⟩=some (.string sa):=fun n os=>grown_cell hb HG.out (hc 1 _ rfl) n os
   have q2:∀ n os,(grow (wr.drewN n) os).cell? ⟨b,off+k * 6+2,none⟩=some (.string ha):=fun n os=>grown_cell hb HG.out (hc 2 _ rfl) n os
   have q3:∀ n os,(grow (wr.drewN n) os).cell? ⟨b,off+k * 6+3,none⟩=some (.string ro):=fun n os=>grown_cell hb HG.out (hc 3 _ rfl) n os
   have q4:∀ n os,(grow (wr.drewN n) os).cell? ⟨b,off+k * 6+4,none⟩=some (.int .i64 bl):=fun n os=>grown_cell hb HG.out (hc 4 _ rfl) n os
   have q5:∀ n os,(grow (wr.drewN n) os).cell? ⟨b,off+k * 6+5,none⟩=some (.int .i64 lg):=fun n os=>grown_cell hb HG.out (hc 5 _ rfl) n os
   have r0:∀ n os,(grow (wr.drewN n) os).cell? ⟨b',off'+k * 6,none⟩=some (.string nm):=fun n os=>grown_cell hb' HG.out (hc' 0 _ rfl) n os
   have r1:∀ n os,(grow (wr.drewN n) os).cell? ⟨b',off'+k * 6+1,none⟩=some (.string sa):=fun n os=>grown_cell hb' HG.out (hc' 1 _ rfl) n os
   have r2:∀ n os,(grow (wr.drewN n) os).cell? ⟨b',off'+k * 6+2,none⟩=some (.string ha):=fun n os=>grown_cell hb' HG.out (hc' 2 _ rfl) n os
   have r3:∀ n os,(grow (wr.drewN n) os).cell? ⟨b',off'+k * 6+3,none⟩=some (.string ro):=fun n os=>grown_cell hb' HG.out (hc' 3 _ rfl) n os
   have r4:∀ n os,(grow (wr.drewN n) os).cell? ⟨b',off'+k * 6+4,none⟩=some (.int .i64 bl):=fun n os=>grown_cell hb' HG.out (hc' 4 _ rfl) n os
   have r5:∀ n os,(grow (wr.drewN n) os).cell? ⟨b',off'+k * 6+5,none⟩=some (.int .i64 lg):=fun n os=>grown_cell hb' HG.out (hc' 5 _ rfl) n os
   have HE:Hid (∀ w,Calls Tryz.prog 92 #[.agg #[.string nm,.string sa,.string ha,.string ro,.int .i64 bl,.int .i64 lg],.agg #[.string nm,.string sa,.string ha,.string ro,.int .i64 bl,.int .i64 lg]] w fun e w'=>e=.returned (.bool true)∧Grw w w'):=fun w=>eqUser_any nm sa ha ro bl lg w
   have hltz:(k:Int)<(len:Int):=by omega
   clear hc hc'
   go_wp2_with fail
   refine wp_region_quiet_grown (by assumption) (by kernel_rfl) ?_
   repeat (go_big_quiet_step (first | fail | (go_at_call 92;exact Calls.grown_of (HE.out _))))
   refine wpQuiet_nil ?_
   intro _ hw'
   obtain ⟨⟨nq,osq⟩,hw''⟩:=hw'
   subst hw''
   have HG2:Hid (Grw w (grow (wr.drewN nq) osq)):=HG.out.trans ⟨nq,osq,rfl⟩
   clear q0 q1 q2 q3 q4 q5 r0 r1 r2 r3 r4 r5 HG HE
   go_wp2
   go_roundw
   case rel=>exact ⟨k+1,by omega,by go_num,HG2⟩
   case measure=>simp [intOf];omega
  ·obtain rfl:k=len:=by omega
   go_wp2
   go_ret
   exact ⟨rfl,HG.out⟩
set_option maxHeartbeats 2000000 in
theorem toSession_any (id:Int) (us:Int) (mc:ByteArray) (ip:Int) (be:Int) (la:Int) (ud:Int) (qu:Int) (un:Int) (il:Int) (w:World) :
  Calls Tryz.prog 74 #[.agg #[.int .i64 id,.int .i64 us,.string mc,.int .i64 ip,.int .i64 be,.int .i64 la,.int .i64 ud,.int .i64 qu,.int .i64 un,.int .i64 il]] w fun e w'=>e=.returned (.agg #[.int .i64 id,.int .i64 us,.string mc,.int .i64 ip,.int .i64 be,.int .i64 la,.int .i64 ud,.int .i64 qu,.int .i64 un,.int .i64 il])∧Below w.heap.size w w':=by
 go_enter Tryz.func74,Tryz.ntmps74
 go_wp2
 (try simp only [Exit.inBlock,Exit.then])
 refine bodyPost_ret (v:=.agg #[.int .i64 id,.int .i64 us,.string mc,.int .i64 ip,.int .i64 be,.int .i64 la,.int .i64 ud,.int .i64 qu,.int .i64 un,.int .i64 il]) (by simp [results,Tryz.results74,go_sem];try rfl) rfl ?_
 exact ⟨rfl,((((Grw.refl _).alloc _).alloc _).alloc _).below⟩
set_option maxHeartbeats 1000000 in
theorem eqSession_any (id:Int) (us:Int) (mc:ByteArray) (ip:Int) (be:Int) (la:Int) (ud:Int) (qu:Int) (un:Int) (il:Int) (w:World) :
  Calls Tryz.prog 93 #[.agg #[.int .i64 id,.int .i64 us,.string mc,.int .i64 ip,.int .i64 be,.int .i64 la,.int .i64 ud,.int .i64 qu,.int .i64 un,.int .i64 il],.agg #[.int .i64 id,.int .i64 us,.string mc,.int .i64 ip,.int .i64 be,.int .i64 la,.int .i64 ud,.int .i64 qu,.int .i64 un,.int .i64 il]] w fun e w'=>e=.returned (.bool true)∧Grw w w':=by
 have h0:(id != id)=false:=by simp
 have h1:(us != us)=false:=by simp
 have h2:(mc.toList == mc.toList)=true:=by simp
 have h3:(ip != ip)=false:=by simp
 have h4:(be != be)=false:=by simp
 have h5:(la != la)=false:=by simp
 have h6:(ud != ud)=false:=by simp
 have h7:(qu != qu)=false:=by simp
 have h8:(un != un)=false:=by simp
 have h9:(il != il)=false:=by simp
 go_enter Tryz.func93,Tryz.ntmps93
 go_wp2
 go_ret
 exact ⟨rfl,((Grw.refl _).alloc _).alloc _⟩
theorem infoSession:(Tryz.prog.info? 80).map (fun i=>(i.zero,i.size,i.bytes))=some (some (.agg #[.int .i64 0,.int .i64 0,.string ⟨#[]⟩,.int .i64 0,.int .i64 0,.int .i64 0,.int .i64 0,.int .i64 0,.int .i64 0,.int .i64 0]),10,88):=by kernel_rfl
set_option maxHeartbeats 2000000 in
theorem eqSessionS_yes (a a':Option Addr) (len cap cap':Nat) (xs:List SessV) (w:World) (h:Rw SeR 10 w a xs) (h':Rw SeR 10 w a' xs) (hl:xs.length=len) (hlen:len≤9223372036854775807) :
  Calls Tryz.prog 44 #[.slice a len cap,.slice a' len cap'] w fun e w'=>e=.returned (.bool true)∧Grw w w':=by
 have hne:((len:Int) != (len:Int))=false:=by simp
 have hmix:Tryz.prog.follows .mixedOrders=true:=by kernel_rfl
 have RW:Hid (Rw SeR 10 w a xs):=h
 have RW':Hid (Rw SeR 10 w a' xs):=h'
 clear h h'
 go_enter Tryz.func44,Tryz.ntmps44
 go_wp2
 go_loopw [5] (fun i wr=>∃ k:Nat,k≤len∧i=.int .i64 k∧Hid (Grw w wr)) (fun i _=>len - (intOf i).toNat)
 case atStart=>exact ⟨0,Nat.zero_le _,rfl,Grw.refl w⟩
 case round =>
  obtain ⟨k,hk,rfl,HG⟩:=hrel
  by_cases hlt:k<len
  ·obtain ⟨x,hx⟩:=at_of hl hlt
   obtain ⟨b,off,vs,rfl,hb,hvl,hR,hc⟩:=RW.out.at SeR.kp HG.out.below hx
   obtain ⟨b',off',vs',rfl,hb',hvl',hR',hc'⟩:=RW'.out.at SeR.kp HG.out.below hx
   obtain ⟨id,us,mc,ip,be,la,ud,qu,un,il⟩:=x
   obtain ⟨rfl,-⟩:=hR
   obtain ⟨rfl,-⟩:=hR'
   have q0:∀ n os,(grow (wr.drewN n) os).cell? ⟨b,off+k * 10,none⟩=some (.int .i64 id):=fun n os=>grown_cell hb HG.out (hc 0 _ rfl) n os
   have q1:∀ n os,(grow (wr.drewN n) os).cell? ⟨b,off+k * 10+1,none⟩=some (.int .i64 us):=fun n os=>grown_cell hb HG.out (hc 1 _ rfl) n os
   have q2:∀ n os,(grow (wr.drewN n) os).cell? ⟨b,off+k * 10+2,none⟩=some (.string mc):=fun n os=>grown_cell hb HG.out (hc 2 _ rfl) n os
   have q3:∀ n os,(grow (wr.drewN n) os).cell? ⟨b,off+k * 10+3,none⟩=some (.int .i64 ip):=fun n os=>grown_cell hb HG.out (hc 3 _ rfl) n os
   have q4:∀ n os,(grow (wr.drewN n) os).cell? ⟨b,off+k * 10+4,none⟩=some (.int .i64 be):=fun n os=>grown_cell hb HG.out (hc 4 _ rfl) n os
   have q5:∀ n os,(grow (wr.drewN n) os).cell? ⟨b,off+k * 10+5,none⟩=some (.int .i64 la):=fun n os=>grown_cell hb HG.out (hc 5 _ rfl) n os
   have q6:∀ n os,(grow (wr.drewN n) os).cell? ⟨b,off+k * 10+6,none⟩=some (.int .i64 ud):=fun n os=>grown_cell hb HG.out (hc 6 _ rfl) n os
   have q7:∀ n os,(grow (wr.drewN n) os).cell? ⟨b,off+k * 10+7,none⟩=some (.int .i64 qu):=fun n os=>grown_cell hb HG.out (hc 7 _ rfl) n os
   have q8:∀ n os,(grow (wr.drewN n) os).cell? ⟨b,off+k * 10+8,none⟩=some (.int .i64 un):=fun n os=>grown_cell hb HG.out (hc 8 _ rfl) n os
   have q9:∀ n os,(grow (wr.drewN n) os).cell? ⟨b,off+k * 10+9,none⟩=some (.int .i64 il):=fun n os=>grown_cell hb HG.out (hc 9 _ rfl) n os
   have r0:∀ n os,(grow (wr.drewN n) os).cell? ⟨b',off'+k * 10,none⟩=some (.int .i64 id):=fun n os=>grown_cell hb' HG.out (hc' 0 _ rfl) n os
   have r1:∀ n os,(grow (wr.drewN n) os).cell? ⟨b',off'+k * 10+1,none⟩=some (.int .i64 us):=fun n os=>grown_cell hb' HG.out (hc' 1 _ rfl) n os
   have r2:∀ n os,(grow (wr.drewN n) os).cell? ⟨b',off'+k * 10+2,none⟩=some (.string mc):=fun n os=>grown_cell hb' HG.out (hc' 2 _ rfl) n os
   have r3:∀ n os,(grow (wr.drewN n) os).cell? ⟨b',off'+k * 10+3,none⟩=some (.int .i64 ip):=fun n os=>grown_cell hb' HG.out (hc' 3 _ rfl) n os
   have r4:∀ n os,(grow (wr.drewN n) os).cell? ⟨b',off'+k * 10+4,none⟩=some (.int .i64 be):=fun n os=>grown_cell hb' HG.out (hc' 4 _ rfl) n os
   have r5:∀ n os,(grow (wr.drewN n) os).cell? ⟨b',off'+k * 10+5,none⟩=some (.int .i64 la):=fun n os=>grown_cell hb' HG.out (hc' 5 _ rfl) n os
   have r6:∀ n os,(grow (wr.drewN n) os).cell? ⟨b',off'+k * 10+6,none⟩=some (.int .i64 ud):=fun n os=>grown_cell hb' HG.out (hc' 6 _ rfl) n os
   have r7:∀ n os,(grow (wr.drewN n) os).cell? ⟨b',off'+k * 10+7,none⟩=some (.int .i64 qu):=fun n os=>grown_cell hb' HG.out (hc' 7 _ rfl) n os
   have r8:∀ n os,(grow (wr.drewN n) os).cell? ⟨b',off'+k * 10+8,none⟩=some (.int .i64 un):=fun n os=>grown_cell hb' HG.out (hc' 8 _ rfl) n os
   have r9:∀ n os,(grow (wr.drewN n) os).cell? ⟨b',off'+k * 10+9,none⟩=some (.int .i64 il):=fun n os=>grown_cell hb' HG.out (hc' 9 _ rfl) n os
   have HE:Hid (∀ w,Calls Tryz.prog 93 #[.agg #[.int .i64 id,.int .i64 us,.string mc,.int .i64 ip,.int .i64 be,.int .i64 la,.int .i64 ud,.int .i64 qu,.int .i64 un,.int .i64 il],.agg #[.int .i64 id,.int .i64 us,.string mc,.int .i64 ip,.int .i64 be,.int .i64 la,.int .i64 ud,.int .i64 qu,.int .i64 un,.int .i64 il]] w fun e w'=>e=.returned (.bool true)∧Grw w w'):=fun w=>eqSession_any id us mc ip be la ud qu un il w
   have hltz:(k:Int)<(len:Int):=by omega
   clear hc hc'
   go_wp2_with fail
   refine wp_region_quiet_grown (by assumption) (by kernel_rfl) ?_
   repeat (go_big_quiet_step (first | fail | (go_at_call 93;exact Calls.grown_of (HE.out _))))
   refine wpQuiet_nil ?_
   intro _ hw'
   obtain ⟨⟨nq,osq⟩,hw''⟩:=hw'
   subst hw''
   have HG2:Hid (Grw w (grow (wr.drewN nq) osq)):=HG.out.trans ⟨nq,osq,rfl⟩
   clear q0 q1 q2 q3 q4 q5 q6 q7 q8 q9 r0 r1 r2 r3 r4 r5 r6 r7 r8 r9 HG HE
   go_wp2
   go_roundw
   case rel=>exact ⟨k+1,by omega,by go_num,HG2⟩
   case measure=>simp [intOf];omega
  ·obtain rfl:k=len:=by omega
   go_wp2
   go_ret
   exact ⟨rfl,HG.out⟩
set_option maxHeartbeats 2000000 in
theorem toFail_any (mc:ByteArray) (ct:Int) (un:Int) (w:World) :
  Calls Tryz.prog 75 #[.agg #[.string mc,.int .i64 ct,.int .i64 un]] w fun e w'=>e=.returned (.agg #[.string mc,.int .i64 ct,.int .i64 un])∧Below w.heap.size w w':=by
 go_enter Tryz.func75,Tryz.ntmps75
 go_wp2
 (try simp only [Exit.inBlock,Exit.then])
 refine bodyPost_ret (v:=.agg #[.string mc,.int .i64 ct,.int .i64 un]) (by simp [results,Tryz.results75,go_sem];try rfl) rfl ?_
 exact ⟨rfl,((((Grw.refl _).alloc _).alloc _).alloc _).below⟩
set_option maxHeartbeats 1000000 in
theorem eqFail_any (mc:ByteArray) (ct:Int) (un:Int) (w:World) :
  Calls Tryz.prog 94 #[.agg #[.string mc,.int .i64 ct,.int .i64 un],.agg #[.string mc,.int .i64 ct,.int .i64 un]] w fun e w'=>e=.returned (.bool true)∧Grw w w':=by
 have h0:(mc.toList == mc.toList)=true:=by simp
 have h1:(ct != ct)=false:=by simp
 have h2:(un != un)=false:=by simp
 go_enter Tryz.func94,Tryz.ntmps94
 go_wp2
 go_ret
 exact ⟨rfl,((Grw.refl _).alloc _).alloc _⟩
theorem infoFail:(Tryz.prog.info? 115).map (fun i=>(i.zero,i.size,i.bytes))=some (some (.agg #[.string ⟨#[]⟩,.int .i64 0,.int .i64 0]),3,32):=by kernel_rfl
set_option maxHeartbeats 2000000 in
theorem eqFailS_yes (a a':Option Addr) (len cap cap':Nat) (xs:List FailV) (w:World) (h:Rw FaR 3 w a xs) (h':Rw FaR 3 w a' xs) (hl:xs.length=len) (hlen:len≤9223372036854775807) :
  Calls Tryz.prog 45 #[.slice a len cap,.slice a' len cap'] w fun e w'=>e=.returned (.bool true)∧Grw w w':=by
 have hne:((len:Int) != (len:Int))=false:=by simp
 have hmix:Tryz.prog.follows .mixedOrders=true:=by kernel_rfl
 have RW:Hid (Rw FaR 3 w a xs):=h
 have RW':Hid (Rw FaR 3 w a' xs):=h'
 clear h h'
 go_enter Tryz.func45,Tryz.ntmps45
 go_wp2
 go_loopw [5] (fun i wr=>∃ k:Nat,k≤len∧i=.int .i64 k∧Hid (Grw w wr)) (fun i _=>len - (intOf i).toNat)
 case atStart=>exact ⟨0,Nat.zero_le _,rfl,Grw.refl w⟩
 case round =>
  obtain ⟨k,hk,rfl,HG⟩:=hrel
  by_cases hlt:k<len
  ·obtain ⟨x,hx⟩:=at_of hl hlt
   obtain ⟨b,off,vs,rfl,hb,hvl,hR,hc⟩:=RW.out.at FaR.kp HG.out.below hx
   obtain ⟨b',off',vs',rfl,hb',hvl',hR',hc'⟩:=RW'.out.at FaR.kp HG.out.below hx
   obtain ⟨mc,ct,un⟩:=x
   obtain ⟨rfl,-⟩:=hR
   obtain ⟨rfl,-⟩:=hR'
   have q0:∀ n os,(grow (wr.drewN n) os).cell? ⟨b,off+k * 3,none⟩=some (.string mc):=fun n os=>grown_cell hb HG.out (hc 0 _ rfl) n os
   have q1:∀ n os,(grow (wr.drewN n) os).cell? ⟨b,off+k * 3+1,none⟩=some (.int .i64 ct):=fun n os=>grown_cell hb HG.out (hc 1 _ rfl) n os
   have q2:∀ n os,(grow (wr.drewN n) os).cell? ⟨b,off+k * 3+2,none⟩=some (.int .i64 un):=fun n os=>grown_cell hb HG.out (hc 2 _ rfl) n os
   have r0:∀ n os,(grow (wr.drewN n) os).cell? ⟨b',off'+k * 3,none⟩=some (.string mc):=fun n os=>grown_cell hb' HG.out (hc' 0 _ rfl) n os
   have r1:∀ n os,(grow (wr.drewN n) os).cell? ⟨b',off'+k * 3+1,none⟩=some (.int .i64 ct):=fun n os=>grown_cell hb' HG.out (hc' 1 _ rfl) n os
   have r2:∀ n os,(grow (wr.drewN n) os).cell? ⟨b',off'+k * 3+2,none⟩=some (.int .i64 un):=fun n os=>grown_cell hb' HG.out (hc' 2 _ rfl) n os
   have HE:Hid (∀ w,Calls Tryz.prog 94 #[.agg #[.string mc,.int .i64 ct,.int .i64 un],.agg #[.string mc,.int .i64 ct,.int .i64 un]] w fun e w'=>e=.returned (.bool true)∧Grw w w'):=fun w=>eqFail_any mc ct un w
   have hltz:(k:Int)<(len:Int):=by omega
   clear hc hc'
   go_wp2_with fail
   refine wp_region_quiet_grown (by assumption) (by kernel_rfl) ?_
   repeat (go_big_quiet_step (first | fail | (go_at_call 94;exact Calls.grown_of (HE.out _))))
   refine wpQuiet_nil ?_
   intro _ hw'
   obtain ⟨⟨nq,osq⟩,hw''⟩:=hw'
   subst hw''
   have HG2:Hid (Grw w (grow (wr.drewN nq) osq)):=HG.out.trans ⟨nq,osq,rfl⟩
   clear q0 q1 q2 r0 r1 r2 HG HE
   go_wp2
   go_roundw
   case rel=>exact ⟨k+1,by omega,by go_num,HG2⟩
   case measure=>simp [intOf];omega
  ·obtain rfl:k=len:=by omega
   go_wp2
   go_ret
   exact ⟨rfl,HG.out⟩
set_option maxHeartbeats 2000000 in
theorem toRecord_any (id:Int) (tm:Int) (ca:Int) (bt:Int) (st:Bool) (w:World) :
  Calls Tryz.prog 76 #[.agg #[.int .i64 id,.int .i64 tm,.int .i64 ca,.int .i64 bt,.bool st]] w fun e w'=>e=.returned (.agg #[.int .i64 id,.int .i64 tm,.int .i64 ca,.int .i64 bt,.bool st])∧Below w.heap.size w w':=by
 go_enter Tryz.func76,Tryz.ntmps76
 go_wp2
 (try simp only [Exit.inBlock,Exit.then])
 refine bodyPost_ret (v:=.agg #[.int .i64 id,.int .i64 tm,.int .i64 ca,.int .i64 bt,.bool st]) (by simp [results,Tryz.results76,go_sem];try rfl) rfl ?_
 exact ⟨rfl,((((Grw.refl _).alloc _).alloc _).alloc _).below⟩
set_option maxHeartbeats 1000000 in
theorem eqRecord_any (id:Int) (tm:Int) (ca:Int) (bt:Int) (st:Bool) (w:World) :
  Calls Tryz.prog 95 #[.agg #[.int .i64 id,.int .i64 tm,.int .i64 ca,.int .i64 bt,.bool st],.agg #[.int .i64 id,.int .i64 tm,.int .i64 ca,.int .i64 bt,.bool st]] w fun e w'=>e=.returned (.bool true)∧Grw w w':=by
 have h0:(id != id)=false:=by simp
 have h1:(tm != tm)=false:=by simp
 have h2:(ca != ca)=false:=by simp
 have h3:(bt != bt)=false:=by simp
 have h4:(st != st)=false:=by simp
 go_enter Tryz.func95,Tryz.ntmps95
 go_wp2
 go_ret
 exact ⟨rfl,((Grw.refl _).alloc _).alloc _⟩
theorem infoRecord:(Tryz.prog.info? 86).map (fun i=>(i.zero,i.size,i.bytes))=some (some (.agg #[.int .i64 0,.int .i64 0,.int .i64 0,.int .i64 0,.bool false]),5,40):=by kernel_rfl
set_option maxHeartbeats 2000000 in
theorem eqRecordS_yes (a a':Option Addr) (len cap cap':Nat) (xs:List RecV) (w:World) (h:Rw ReR 5 w a xs) (h':Rw ReR 5 w a' xs) (hl:xs.length=len) (hlen:len≤9223372036854775807) :
  Calls Tryz.prog 46 #[.slice a len cap,.slice a' len cap'] w fun e w'=>e=.returned (.bool true)∧Grw w w':=by
 have hne:((len:Int) != (len:Int))=false:=by simp
 have hmix:Tryz.prog.follows .mixedOrders=true:=by kernel_rfl
 have RW:Hid (Rw ReR 5 w a xs):=h
 have RW':Hid (Rw ReR 5 w a' xs):=h'
 clear h h'
 go_enter Tryz.func46,Tryz.ntmps46
 go_wp2
 go_loopw [5] (fun i wr=>∃ k:Nat,k≤len∧i=.int .i64 k∧Hid (Grw w wr)) (fun i _=>len - (intOf i).toNat)
 case atStart=>exact ⟨0,Nat.zero_le _,rfl,Grw.refl w⟩
 case round =>
  obtain ⟨k,hk,rfl,HG⟩:=hrel
  by_cases hlt:k<len
  ·obtain ⟨x,hx⟩:=at_of hl hlt
   obtain ⟨b,off,vs,rfl,hb,hvl,hR,hc⟩:=RW.out.at ReR.kp HG.out.below hx
   obtain ⟨b',off',vs',rfl,hb',hvl',hR',hc'⟩:=RW'.out.at ReR.kp HG.out.below hx
   obtain ⟨id,tm,ca,bt,st⟩:=x
   obtain ⟨rfl,-⟩:=hR
   obtain ⟨rfl,-⟩:=hR'
   have q0:∀ n os,(grow (wr.drewN n) os).cell? ⟨b,off+k * 5,none⟩=some (.int .i64 id):=fun n os=>grown_cell hb HG.out (hc 0 _ rfl) n os
   have q1:∀ n os,(grow (wr.drewN n) os).cell? ⟨b,off+k * 5+1,none⟩=some (.int .i64 tm):=fun n os=>grown_cell hb HG.out (hc 1 _ rfl) n os
   have q2:∀ n os,(grow (wr.drewN n) os).cell? ⟨b,off+k * 5+2,none⟩=some (.int .i64 ca):=fun n os=>grown_cell hb HG.out (hc 2 _ rfl) n os
   have q3:∀ n os,(grow (wr.drewN n) os).cell? ⟨b,off+k * 5+3,none⟩=some (.int .i64 bt):=fun n os=>grown_cell hb HG.out (hc 3 _ rfl) n os
   have q4:∀ n os,(grow (wr.drewN n) os).cell? ⟨b,off+k * 5+4,none⟩=some (.bool st):=fun n os=>grown_cell hb HG.out (hc 4 _ rfl) n os
   have r0:∀ n os,(grow (wr.drewN n) os).cell? ⟨b',off'+k * 5,none⟩=some (.int .i64 id):=fun n os=>grown_cell hb' HG.out (hc' 0 _ rfl) n os
   have r1:∀ n os,(grow (wr.drewN n) os).cell? ⟨b',off'+k * 5+1,none⟩=some (.int .i64 tm):=fun n os=>grown_cell hb' HG.out (hc' 1 _ rfl) n os
   have r2:∀ n os,(grow (wr.drewN n) os).cell? ⟨b',off'+k * 5+2,none⟩=some (.int .i64 ca):=fun n os=>grown_cell hb' HG.out (hc' 2 _ rfl) n os
   have r3:∀ n os,(grow (wr.drewN n) os).cell? ⟨b',off'+k * 5+3,none⟩=some (.int .i64 bt):=fun n os=>grown_cell hb' HG.out (hc' 3 _ rfl) n os
   have r4:∀ n os,(grow (wr.drewN n) os).cell? ⟨b',off'+k * 5+4,none⟩=some (.bool st):=fun n os=>grown_cell hb' HG.out (hc' 4 _ rfl) n os
   have HE:Hid (∀ w,Calls Tryz.prog 95 #[.agg #[.int .i64 id,.int .i64 tm,.int .i64 ca,.int .i64 bt,.bool st],.agg #[.int .i64 id,.int .i64 tm,.int .i64 ca,.int .i64 bt,.bool st]] w fun e w'=>e=.returned (.bool true)∧Grw w w'):=fun w=>eqRecord_any id tm ca bt st w
   have hltz:(k:Int)<(len:Int):=by omega
   clear hc hc'
   go_wp2_with fail
   refine wp_region_quiet_grown (by assumption) (by kernel_rfl) ?_
   repeat (go_big_quiet_step (first | fail | (go_at_call 95;exact Calls.grown_of (HE.out _))))
   refine wpQuiet_nil ?_
   intro _ hw'
   obtain ⟨⟨nq,osq⟩,hw''⟩:=hw'
   subst hw''
   have HG2:Hid (Grw w (grow (wr.drewN nq) osq)):=HG.out.trans ⟨nq,osq,rfl⟩
   clear q0 q1 q2 q3 q4 r0 r1 r2 r3 r4 HG HE
   go_wp2
   go_roundw
   case rel=>exact ⟨k+1,by omega,by go_num,HG2⟩
   case measure=>simp [intOf];omega
  ·obtain rfl:k=len:=by omega
   go_wp2
   go_ret
   exact ⟨rfl,HG.out⟩
theorem szRecordS_any (a:Option Addr) (len cap:Nat) (l:Int) (w:World) (hl:len≤9223372036854775807) (h0:0≤l) (h1:l≤1048576) :
  Calls Tryz.prog 20 #[.slice a len cap,.int .i64 l] w fun e w'=>∃ r:Int,e=.returned (.int .i64 r)∧(0≤r→(len:Int)≤l)∧-1≤r∧r≤1048576∧w'=w:=by
 by_cases h:(len:Int)≤l
 ·go_enter Tryz.func20,Tryz.ntmps20
  go_wp2
  go_ret
  exact ⟨_,rfl,fun _=>by omega,by omega,by omega,rfl⟩
 ·go_enter Tryz.func20,Tryz.ntmps20
  go_wp2
  go_ret
  exact ⟨-1,rfl,fun h=>absurd h (by omega),by omega,by omega,rfl⟩
end Go.Proofs.YtojcakkkakmniaaGreatDoor
