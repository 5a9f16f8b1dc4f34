/- The model's l08Role, l08Users. -/
import Derived.Test.YtojcakkkakmniaaGreatDoorJ15
namespace Go.Proofs.YtojcakkkakmniaaGreatDoor
open Go.RowKit Go.PlainAid Go.Proofs.YtojcakkkakmniaaGreatDoor.Bt Go.Sort
set_option linter.unusedVariables false
set_option maxRecDepth 20000
set_option maxHeartbeats 2000000 in
theorem l08Role_any (ip b gt:Int) (gm wm:ByteArray) (rs:Int) (x y:Option Addr) (lenx capx leny capy:Nat) (ros:List RoleV) (nm2:ByteArray) (w:World) (h:Rw (RoR 0) 5 w y ros) (hl:ros.length=leny) (hl9:leny≤1048576) :
  Calls Tryz.prog 70 #[.agg #[.int .i64 ip,.int .i64 b,.int .i64 gt,.string gm,.string wm,.int .i64 rs,.slice x lenx capx,.slice y leny capy],.string nm2] w fun e w'=>e=.returned (.int .i64 (roI ros nm2))∧Grw w w':=by
 have RY:Hid (Rw (RoR 0) 5 w y ros):=h
 clear h
 go_enter Tryz.func70,Tryz.ntmps70
 go_wp2
 go_loopw [5] (fun u wr=>∃ k:Nat,k≤leny∧u=.int .i64 k∧Hid ((ros.take k).find? (rfP nm2)=none)∧Hid (Grw w wr∧wr.cell? ⟨w.heap.size,7,none⟩=some (.slice y leny capy))) (fun u _=>leny - (intOf u).toNat)
 case atStart=>exact ⟨0,Nat.zero_le _,rfl,rfl,(Grw.refl _).alloc _,by simp [go_sem]⟩
 case round =>
  obtain ⟨k,hk,rfl,HO,HG⟩:=hrel
  have gs:=HG.out.2
  by_cases hlt:k<leny
  ·obtain ⟨z,hx⟩:=at_of hl hlt
   obtain ⟨bk,off,vs,rfl,hb,hvl,hR,hc⟩:=RY.out.at (RoR.kp 0) HG.out.1.below hx
   have HY:Hid (rfP nm2 z=true→roI ros nm2=k):=fun h=>by unfold roI;rw [bfind_yes hx HO.out h,bfind_at hx HO.out h]
   have HN:Hid (rfP nm2 z=false→(ros.take (k+1)).find? (rfP nm2)=none):=fun h=>bfind_no hx HO.out h
   have HX:Hid (ros[k]?=some z):=hx
   clear hx
   obtain ⟨nm,rrs,rq,rm,ri⟩:=z
   obtain ⟨ra,rc,rfl,-⟩:=hR
   have q0:wr.cell? ⟨bk,off+k * 5,none⟩=some (.string nm):=hc 0 _ rfl
   have hltz:(k:Int)<(leny:Int):=by omega
   have he:rfP nm2 ⟨nm,rrs,rq,rm,ri⟩=(nm.toList == nm2.toList):=rfl
   rw [he] at HY HN
   obtain ⟨u,hu⟩:∃ u,(nm.toList == nm2.toList)=u:=⟨_,rfl⟩
   rw [hu] at HY HN
   clear hc hvl he
   cases u with
   | false =>
    have HN':Hid ((ros.take (k+1)).find? (rfP nm2)=none):=HN.out rfl
    clear HY HN
    go_wp2
    go_roundw
    case rel=>exact ⟨k+1,by omega,by go_num,HN',HG⟩
    case measure=>simp [intOf];omega
   | true =>
    have HY':Hid (roI ros nm2=k):=HY.out rfl
    clear HY HN
    go_wp2
    go_ret
    exact ⟨by rw [HY'.out];rfl,HG.out.1⟩
  ·obtain rfl:k=leny:=by omega
   have hd:Hid (roI ros nm2=-1):=by show roI ros nm2=-1;unfold roI;rw [bfind_end hl HO.out]
   go_wp2
   go_ret
   exact ⟨by rw [hd.out];rfl,HG.out.1⟩
set_option maxHeartbeats 8000000 in
theorem l08Users_any (ip b gt:Int) (gm wm:ByteArray) (rs:Int) (x y:Option Addr) (lenx capx leny capy:Nat) (ros:List RoleV) (a:Option Addr) (len cap:Nat) (us:List UserV) (w:World) (h:Rw (RoR 0) 5 w y ros) (hl2:ros.length=leny) (hu:Rw UsR 6 w a us) (hl:us.length=len) (hsz:SzU us) (hl9:leny≤1048576) (hl8:len≤1048576) :
  Calls Tryz.prog 102 #[.agg #[.int .i64 ip,.int .i64 b,.int .i64 gt,.string gm,.string wm,.int .i64 rs,.slice x lenx capx,.slice y leny capy],.slice a len cap] w fun e w'=>e=.returned (.bool (usB ros us))∧Grw w w':=by
 have RY:Hid (Rw (RoR 0) 5 w y ros):=h
 have RW:Hid (Rw UsR 6 w a us):=hu
 have SZ:Hid (SzU us):=hsz
 clear h hu hsz
 go_enter Tryz.func102,Tryz.ntmps102
 go_wp2
 go_loopw [5] (fun u wr=>∃ k:Nat,k≤len∧u=.int .i64 k∧Hid ((List.range k).all (risAt (uB ros) ltU us)=true)∧Hid (Grw w wr∧wr.cell? ⟨w.heap.size,0,none⟩=some (.int .i64 ip)∧wr.cell? ⟨w.heap.size,1,none⟩=some (.int .i64 b)∧wr.cell? ⟨w.heap.size,2,none⟩=some (.int .i64 gt)∧wr.cell? ⟨w.heap.size,3,none⟩=some (.string gm)∧wr.cell? ⟨w.heap.size,4,none⟩=some (.string wm)∧wr.cell? ⟨w.heap.size,5,none⟩=some (.int .i64 rs)∧wr.cell? ⟨w.heap.size,6,none⟩=some (.slice x lenx capx)∧wr.cell? ⟨w.heap.size,7,none⟩=some (.slice y leny capy))) (fun u _=>len - (intOf u).toNat)
 case atStart=>exact ⟨0,Nat.zero_le _,rfl,rfl,(Grw.refl _).alloc _,by simp [go_sem],by simp [go_sem],by simp [go_sem],by simp [go_sem],by simp [go_sem],by simp [go_sem],by simp [go_sem],by simp [go_sem]⟩
 case round =>
  obtain ⟨k,hk,rfl,HO,HG⟩:=hrel
  obtain ⟨G0,d0,d1,d2,d3,d4,d5,d6,d7⟩:=HG.out
  have GG:=G0.below
  by_cases hlt:k<len
  ·obtain ⟨z,hx⟩:=at_of hl hlt
   obtain ⟨bk,off,vs,rfl,hb,hvl,hR,hc⟩:=RW.out.at UsR.kp GG hx
   have hsz:=SZ.out _ (List.mem_of_getElem? hx)
   have HS:Hid (risAt (uB ros) ltU us k=true→(List.range (k+1)).all (risAt (uB ros) ltU us)=true):=fun h=>ris_step HO.out h
   have HF:Hid (risAt (uB ros) ltU us k=false→risB (uB ros) ltU us=false):=fun h=>ris_no (by omega) h
   obtain ⟨nm,sa,ha,ro,bl,lg⟩:=z
   obtain ⟨rfl,-⟩:=hR
   have q0:wr.cell? ⟨bk,off+k * 6,none⟩=some (.string nm):=hc 0 _ rfl
   have q1:wr.cell? ⟨bk,off+k * 6+1,none⟩=some (.string sa):=hc 1 _ rfl
   have q2:wr.cell? ⟨bk,off+k * 6+2,none⟩=some (.string ha):=hc 2 _ rfl
   have q3:wr.cell? ⟨bk,off+k * 6+3,none⟩=some (.string ro):=hc 3 _ rfl
   have q4:wr.cell? ⟨bk,off+k * 6+4,none⟩=some (.int .i64 bl):=hc 4 _ rfl
   have q5:wr.cell? ⟨bk,off+k * 6+5,none⟩=some (.int .i64 lg):=hc 5 _ rfl
   have HN:Hid (∀ w,Calls Tryz.prog 131 #[.string nm] w fun e w'=>e=.returned (.bool (snB nm))∧Grw w w'):=fun w=>(l08Name_any nm w hsz.1).mono fun e w' h=>⟨h.1,h.2 ▸ Grw.refl _⟩
   have HR:Hid (∀ w,Rw (RoR 0) 5 w y ros→Calls Tryz.prog 70 #[.agg #[.int .i64 ip,.int .i64 b,.int .i64 gt,.string gm,.string wm,.int .i64 rs,.slice x lenx capx,.slice y leny capy],.string ro] w fun e w'=>e=.returned (.int .i64 (roI ros ro))∧Grw w w'):=fun w h=>l08Role_any ip b gt gm wm rs x y lenx capx leny capy ros ro w h hl2 hl9
   have HB:Hid (∀ w,Calls Tryz.prog 65 #[.int .i64 bl,.int .i64 0,.int .i64 1000000] w fun e w'=>e=.returned (.bool (dec (0≤bl∧bl≤1000000)))∧Grw w w'):=fun w=>(specIn_any bl 0 1000000 w).mono fun e w' h=>⟨h.1,h.2 ▸ Grw.refl _⟩
   have HL:Hid (∀ w,Calls Tryz.prog 65 #[.int .i64 lg,.int .i64 0,.int .i64 1000] w fun e w'=>e=.returned (.bool (dec (0≤lg∧lg≤1000)))∧Grw w w'):=fun w=>(specIn_any lg 0 1000 w).mono fun e w' h=>⟨h.1,h.2 ▸ Grw.refl _⟩
   have hltz:(k:Int)<(len:Int):=by omega
   have hss:(sa.size:Int)≤1048576:=by have:=hsz.2.1;dsimp only at this;omega
   have hhs:(ha.size:Int)≤1048576:=by have:=hsz.2.2.1;dsimp only at this;omega
   have eu:uB ros ⟨nm,sa,ha,ro,bl,lg⟩=(snB nm && (dec (sa.size≤40) && (dec (ha.size=32) && (roH ros ro && (dec (0≤bl∧bl≤1000000) && dec (0≤lg∧lg≤1000)))))):=rfl
   by_cases hk0:k=0
   ·have eo:risAt (uB ros) ltU us k=uB ros ⟨nm,sa,ha,ro,bl,lg⟩:=by subst hk0;exact risAt_zero hx
    have hkd:decide (0<k)=false:=decide_eq_false (by omega)
    clear hk0
    rw [eo,eu] at HS HF
    generalize snB nm=q1 at HN HS HF
    obtain ⟨q4,hq4⟩:∃ q,roH ros ro=q:=⟨_,rfl⟩
    obtain ⟨r,hr⟩:∃ r,roI ros ro=r:=⟨_,rfl⟩
    have hrr:(q4=false∧decide (r<0)=true) ∨ (q4=true∧decide (r<0)=false):=by
     rw [← hq4,← hr]
     unfold roH roI
     cases ros.find? (rfP ro) with
     | none=>left;exact ⟨rfl,by simp⟩
     | some v=>right;exact ⟨rfl,by first | (simp;done) | (simp;omega)⟩
    rw [hq4] at HS HF
    rw [hr] at HR
    clear hq4 hr
    generalize dec (0≤bl∧bl≤1000000)=q5 at HB HS HF
    generalize dec (0≤lg∧lg≤1000)=q6 at HL HS HF
    clear hc hvl hx eo eu
    have HA:Hid (Grw w (wr.alloc (.cells #[.string nm,.string sa,.string ha,.string ro,.int .i64 bl,.int .i64 lg] 84))):=G0.alloc _
    have hmix:Tryz.prog.follows .mixedOrders=true:=by kernel_rfl
    have y0:∀ n os,(grow (World.drewN (wr.alloc (.cells #[.string nm,.string sa,.string ha,.string ro,.int .i64 bl,.int .i64 lg] 84)) n) os).cell? ⟨wr.heap.size,0,none⟩=some (.string nm):=fun n os=>cell_grown (by simp) (by simp) n os
    have y1:∀ n os,(grow (World.drewN (wr.alloc (.cells #[.string nm,.string sa,.string ha,.string ro,.int .i64 bl,.int .i64 lg] 84)) n) os).cell? ⟨wr.heap.size,1,none⟩=some (.string sa):=fun n os=>cell_grown (by simp) (by simp) n os
    have y2:∀ n os,(grow (World.drewN (wr.alloc (.cells #[.string nm,.string sa,.string ha,.string ro,.int .i64 bl,.int .i64 lg] 84)) n) os).cell? ⟨wr.heap.size,2,none⟩=some (.string ha):=fun n os=>cell_grown (by simp) (by simp) n os
    have y3:∀ n os,(grow (World.drewN (wr.alloc (.cells #[.string nm,.string sa,.string ha,.string ro,.int .i64 bl,.int .i64 lg] 84)) n) os).cell? ⟨wr.heap.size,3,none⟩=some (.string ro):=fun n os=>cell_grown (by simp) (by simp) n os
    have y4:∀ n os,(grow (World.drewN (wr.alloc (.cells #[.string nm,.string sa,.string ha,.string ro,.int .i64 bl,.int .i64 lg] 84)) n) os).cell? ⟨wr.heap.size,4,none⟩=some (.int .i64 bl):=fun n os=>cell_grown (by simp) (by simp) n os
    have y5:∀ n os,(grow (World.drewN (wr.alloc (.cells #[.string nm,.string sa,.string ha,.string ro,.int .i64 bl,.int .i64 lg] 84)) n) os).cell? ⟨wr.heap.size,5,none⟩=some (.int .i64 lg):=fun n os=>cell_grown (by simp) (by simp) n os
    have e0:∀ n os,(grow (World.drewN (wr.alloc (.cells #[.string nm,.string sa,.string ha,.string ro,.int .i64 bl,.int .i64 lg] 84)) n) os).cell? ⟨w.heap.size,0,none⟩=some (.int .i64 ip):=fun n os=>(((Grw.refl wr).alloc _).trans ⟨n,os,rfl⟩).keep d0
    have e1:∀ n os,(grow (World.drewN (wr.alloc (.cells #[.string nm,.string sa,.string ha,.string ro,.int .i64 bl,.int .i64 lg] 84)) n) os).cell? ⟨w.heap.size,1,none⟩=some (.int .i64 b):=fun n os=>(((Grw.refl wr).alloc _).trans ⟨n,os,rfl⟩).keep d1
    have e2:∀ n os,(grow (World.drewN (wr.alloc (.cells #[.string nm,.string sa,.string ha,.string ro,.int .i64 bl,.int .i64 lg] 84)) n) os).cell? ⟨w.heap.size,2,none⟩=some (.int .i64 gt):=fun n os=>(((Grw.refl wr).alloc _).trans ⟨n,os,rfl⟩).keep d2
    have e3:∀ n os,(grow (World.drewN (wr.alloc (.cells #[.string nm,.string sa,.string ha,.string ro,.int .i64 bl,.int .i64 lg] 84)) n) os).cell? ⟨w.heap.size,3,none⟩=some (.string gm):=fun n os=>(((Grw.refl wr).alloc _).trans ⟨n,os,rfl⟩).keep d3
    have e4:∀ n os,(grow (World.drewN (wr.alloc (.cells #[.string nm,.string sa,.string ha,.string ro,.int .i64 bl,.int .i64 lg] 84)) n) os).cell? ⟨w.heap.size,4,none⟩=some (.string wm):=fun n os=>(((Grw.refl wr).alloc _).trans ⟨n,os,rfl⟩).keep d4
    have e5:∀ n os,(grow (World.drewN (wr.alloc (.cells #[.string nm,.string sa,.string ha,.string ro,.int .i64 bl,.int .i64 lg] 84)) n) os).cell? ⟨w.heap.size,5,none⟩=some (.int .i64 rs):=fun n os=>(((Grw.refl wr).alloc _).trans ⟨n,os,rfl⟩).keep d5
    have e6:∀ n os,(grow (World.drewN (wr.alloc (.cells #[.string nm,.string sa,.string ha,.string ro,.int .i64 bl,.int .i64 lg] 84)) n) os).cell? ⟨w.heap.size,6,none⟩=some (.slice x lenx capx):=fun n os=>(((Grw.refl wr).alloc _).trans ⟨n,os,rfl⟩).keep d6
    have e7:∀ n os,(grow (World.drewN (wr.alloc (.cells #[.string nm,.string sa,.string ha,.string ro,.int .i64 bl,.int .i64 lg] 84)) n) os).cell? ⟨w.heap.size,7,none⟩=some (.slice y leny capy):=fun n os=>(((Grw.refl wr).alloc _).trans ⟨n,os,rfl⟩).keep d7
    have YR:Hid (∀ n os,Rw (RoR 0) 5 (grow (World.drewN (wr.alloc (.cells #[.string nm,.string sa,.string ha,.string ro,.int .i64 bl,.int .i64 lg] 84)) n) os) y ros):=fun n os=>RY.out.keep (RoR.kp 0) (HA.out.trans ⟨n,os,rfl⟩).below
    cases q1 with
    | false =>
     have hd:Hid (risB (uB ros) ltU us=false):=HF.out (by simp)
     have hv:Hid (usB ros us=false):=by show usB ros us=false;unfold usB;rw [hd.out,Bool.and_false]
     go_wp2_with fail
     refine wp_region_quiet_grown (by assumption) (by kernel_rfl) ?_
     repeat (go_big_quiet_step (first | fail | (first | (go_at_call 131;exact Calls.grown_of (HN.out _)) | (go_at_call 70;exact Calls.grown_of (HR.out _ (YR.out _ _))) | (go_at_call 65;with_reducible exact Calls.grown_of (HB.out _)) | (go_at_call 65;with_reducible exact Calls.grown_of (HL.out _)))))
     refine wpQuiet_nil ?_
     intro _ hw'
     obtain ⟨⟨nq,osq⟩,hw''⟩:=hw'
     subst hw''
     have HG1:Hid (Grw w _):=HA.out.trans ⟨nq,osq,rfl⟩
     clear y0 y1 y2 y3 y4 y5 e0 e1 e2 e3 e4 e5 e6 e7
     go_wp2
     go_ret
     exact ⟨by rw [hv.out];rfl,HG1.out⟩
    | true =>
     by_cases hsa:sa.size≤40
     rotate_left
     ·rw [dec_n hsa] at HS HF
      have hsz1:decide ((40:Int)<(sa.size:Int))=true:=decide_eq_true (by omega)
      have hd:Hid (risB (uB ros) ltU us=false):=HF.out (by simp)
      have hv:Hid (usB ros us=false):=by show usB ros us=false;unfold usB;rw [hd.out,Bool.and_false]
      go_wp2_with fail
      refine wp_region_quiet_grown (by assumption) (by kernel_rfl) ?_
      repeat (go_big_quiet_step (first | fail | (first | (go_at_call 131;exact Calls.grown_of (HN.out _)) | (go_at_call 70;exact Calls.grown_of (HR.out _ (YR.out _ _))) | (go_at_call 65;with_reducible exact Calls.grown_of (HB.out _)) | (go_at_call 65;with_reducible exact Calls.grown_of (HL.out _)))))
      refine wpQuiet_nil ?_
      intro _ hw'
      obtain ⟨⟨nq,osq⟩,hw''⟩:=hw'
      subst hw''
      have HG1:Hid (Grw w _):=HA.out.trans ⟨nq,osq,rfl⟩
      clear y0 y1 y2 y3 y4 y5 e0 e1 e2 e3 e4 e5 e6 e7
      go_wp2
      go_ret
      exact ⟨by rw [hv.out];rfl,HG1.out⟩
     have hsz1:decide ((40:Int)<(sa.size:Int))=false:=decide_eq_false (by omega)
     rw [dec_y hsa] at HS HF
     by_cases hha:ha.size=32
     rotate_left
     ·rw [dec_n hha] at HS HF
      have hsz2:((ha.size:Int) != 32)=true:=by simp;omega
      have hd:Hid (risB (uB ros) ltU us=false):=HF.out (by simp)
      have hv:Hid (usB ros us=false):=by show usB ros us=false;unfold usB;rw [hd.out,Bool.and_false]
      go_wp2_with fail
      refine wp_region_quiet_grown (by assumption) (by kernel_rfl) ?_
      repeat (go_big_quiet_step (first | fail | (first | (go_at_call 131;exact Calls.grown_of (HN.out _)) | (go_at_call 70;exact Calls.grown_of (HR.out _ (YR.out _ _))) | (go_at_call 65;with_reducible exact Calls.grown_of (HB.out _)) | (go_at_call 65;with_reducible exact Calls.grown_of (HL.out _)))))
      refine wpQuiet_nil ?_
      intro _ hw'
      obtain ⟨⟨nq,osq⟩,hw''⟩:=hw'
      subst hw''
      have HG1:Hid (Grw w _):=HA.out.trans ⟨nq,osq,rfl⟩
      clear y0 y1 y2 y3 y4 y5 e0 e1 e2 e3 e4 e5 e6 e7
      go_wp2
      go_ret
      exact ⟨by rw [hv.out];rfl,HG1.out⟩
     have hsz2:((ha.size:Int) != 32)=false:=by simp;omega
     rw [dec_y hha] at HS HF
     rcases hrr with ⟨rfl,hr0⟩ | ⟨rfl,hr0⟩
     ·have hd:Hid (risB (uB ros) ltU us=false):=HF.out (by simp)
      have hv:Hid (usB ros us=false):=by show usB ros us=false;unfold usB;rw [hd.out,Bool.and_false]
      go_wp2_with fail
      refine wp_region_quiet_grown (by assumption) (by kernel_rfl) ?_
      repeat (go_big_quiet_step (first | fail | (first | (go_at_call 131;exact Calls.grown_of (HN.out _)) | (go_at_call 70;exact Calls.grown_of (HR.out _ (YR.out _ _))) | (go_at_call 65;with_reducible exact Calls.grown_of (HB.out _)) | (go_at_call 65;with_reducible exact Calls.grown_of (HL.out _)))))
      refine wpQuiet_nil ?_
      intro _ hw'
      obtain ⟨⟨nq,osq⟩,hw''⟩:=hw'
      subst hw''
      have HG1:Hid (Grw w _):=HA.out.trans ⟨nq,osq,rfl⟩
      clear y0 y1 y2 y3 y4 y5 e0 e1 e2 e3 e4 e5 e6 e7
      go_wp2
      go_ret
      exact ⟨by rw [hv.out];rfl,HG1.out⟩
     ·cases q5 with
      | false =>
       have hd:Hid (risB (uB ros) ltU us=false):=HF.out (by simp)
       have hv:Hid (usB ros us=false):=by show usB ros us=false;unfold usB;rw [hd.out,Bool.and_false]
       go_wp2_with fail
       refine wp_region_quiet_grown (by assumption) (by kernel_rfl) ?_
       repeat (go_big_quiet_step (first | fail | (first | (go_at_call 131;exact Calls.grown_of (HN.out _)) | (go_at_call 70;exact Calls.grown_of (HR.out _ (YR.out _ _))) | (go_at_call 65;with_reducible exact Calls.grown_of (HB.out _)) | (go_at_call 65;with_reducible exact Calls.grown_of (HL.out _)))))
       refine wpQuiet_nil ?_
       intro _ hw'
       obtain ⟨⟨nq,osq⟩,hw''⟩:=hw'
       subst hw''
       have HG1:Hid (Grw w _):=HA.out.trans ⟨nq,osq,rfl⟩
       clear y0 y1 y2 y3 y4 y5 e0 e1 e2 e3 e4 e5 e6 e7
       go_wp2
       go_ret
       exact ⟨by rw [hv.out];rfl,HG1.out⟩
      | true =>
       cases q6 with
       | false =>
        have hd:Hid (risB (uB ros) ltU us=false):=HF.out (by simp)
        have hv:Hid (usB ros us=false):=by show usB ros us=false;unfold usB;rw [hd.out,Bool.and_false]
        go_wp2_with fail
        refine wp_region_quiet_grown (by assumption) (by kernel_rfl) ?_
        repeat (go_big_quiet_step (first | fail | (first | (go_at_call 131;exact Calls.grown_of (HN.out _)) | (go_at_call 70;exact Calls.grown_of (HR.out _ (YR.out _ _))) | (go_at_call 65;with_reducible exact Calls.grown_of (HB.out _)) | (go_at_call 65;with_reducible exact Calls.grown_of (HL.out _)))))
        refine wpQuiet_nil ?_
        intro _ hw'
        obtain ⟨⟨nq,osq⟩,hw''⟩:=hw'
        subst hw''
        have HG1:Hid (Grw w _):=HA.out.trans ⟨nq,osq,rfl⟩
        clear y0 y1 y2 y3 y4 y5 e0 e1 e2 e3 e4 e5 e6 e7
        go_wp2
        go_ret
        exact ⟨by rw [hv.out];rfl,HG1.out⟩
       | true =>
        have HS':Hid ((List.range (k+1)).all (risAt (uB ros) ltU us)=true):=HS.out (by simp)
        clear HS HF
        go_wp2_with fail
        refine wp_region_quiet_grown (by assumption) (by kernel_rfl) ?_
        repeat (go_big_quiet_step (first | fail | (first | (go_at_call 131;exact Calls.grown_of (HN.out _)) | (go_at_call 70;exact Calls.grown_of (HR.out _ (YR.out _ _))) | (go_at_call 65;with_reducible exact Calls.grown_of (HB.out _)) | (go_at_call 65;with_reducible exact Calls.grown_of (HL.out _)))))
        refine wpQuiet_nil ?_
        intro _ hw'
        obtain ⟨⟨nq,osq⟩,hw''⟩:=hw'
        subst hw''
        have HG1:Hid (Grw w (grow (World.drewN (wr.alloc (.cells #[.string nm,.string sa,.string ha,.string ro,.int .i64 bl,.int .i64 lg] 84)) nq) osq)∧(grow (World.drewN (wr.alloc (.cells #[.string nm,.string sa,.string ha,.string ro,.int .i64 bl,.int .i64 lg] 84)) nq) osq).cell? ⟨w.heap.size,0,none⟩=some (.int .i64 ip)∧(grow (World.drewN (wr.alloc (.cells #[.string nm,.string sa,.string ha,.string ro,.int .i64 bl,.int .i64 lg] 84)) nq) osq).cell? ⟨w.heap.size,1,none⟩=some (.int .i64 b)∧(grow (World.drewN (wr.alloc (.cells #[.string nm,.string sa,.string ha,.string ro,.int .i64 bl,.int .i64 lg] 84)) nq) osq).cell? ⟨w.heap.size,2,none⟩=some (.int .i64 gt)∧(grow (World.drewN (wr.alloc (.cells #[.string nm,.string sa,.string ha,.string ro,.int .i64 bl,.int .i64 lg] 84)) nq) osq).cell? ⟨w.heap.size,3,none⟩=some (.string gm)∧(grow (World.drewN (wr.alloc (.cells #[.string nm,.string sa,.string ha,.string ro,.int .i64 bl,.int .i64 lg] 84)) nq) osq).cell? ⟨w.heap.size,4,none⟩=some (.string wm)∧(grow (World.drewN (wr.alloc (.cells #[.string nm,.string sa,.string ha,.string ro,.int .i64 bl,.int .i64 lg] 84)) nq) osq).cell? ⟨w.heap.size,5,none⟩=some (.int .i64 rs)∧(grow (World.drewN (wr.alloc (.cells #[.string nm,.string sa,.string ha,.string ro,.int .i64 bl,.int .i64 lg] 84)) nq) osq).cell? ⟨w.heap.size,6,none⟩=some (.slice x lenx capx)∧(grow (World.drewN (wr.alloc (.cells #[.string nm,.string sa,.string ha,.string ro,.int .i64 bl,.int .i64 lg] 84)) nq) osq).cell? ⟨w.heap.size,7,none⟩=some (.slice y leny capy)):=⟨HA.out.trans ⟨nq,osq,rfl⟩,e0 nq osq,e1 nq osq,e2 nq osq,e3 nq osq,e4 nq osq,e5 nq osq,e6 nq osq,e7 nq osq⟩
        clear y0 y1 y2 y3 y4 y5 e0 e1 e2 e3 e4 e5 e6 e7
        go_wp2
        go_roundw
        case rel=>exact ⟨k+1,by omega,by go_num,HS',HG1⟩
        case measure=>simp [intOf];omega
   ·obtain ⟨j,hkj⟩:∃ j,k=j+1:=⟨k - 1,by omega⟩
    obtain ⟨z',hx'⟩:=at_of (k:=j) hl (by omega)
    obtain ⟨b',off',vs',e',hb',hvl',hR',hc'⟩:=RW.out.at UsR.kp GG hx'
    cases e'
    obtain ⟨nm',sa',ha',ro',bl',lg'⟩:=z'
    obtain ⟨rfl,-⟩:=hR'
    have p0:wr.cell? ⟨bk,off+j * 6,none⟩=some (.string nm'):=hc' 0 _ rfl
    obtain ⟨lt,hlt2⟩:∃ lt,Op.bytesLess nm'.toList nm.toList=lt:=⟨_,rfl⟩
    have eo:risAt (uB ros) ltU us k=(uB ros ⟨nm,sa,ha,ro,bl,lg⟩ && lt):=by subst hkj;rw [← hlt2];exact risAt_succ hx hx'
    have hkd:decide (0<k)=true:=decide_eq_true (by omega)
    have hj:(k:Int) - 1=(j:Int):=by omega
    have hjl:(j:Int)<(len:Int):=by omega
    clear hk0 hkj
    rw [eo,eu] at HS HF
    generalize snB nm=q1 at HN HS HF
    obtain ⟨q4,hq4⟩:∃ q,roH ros ro=q:=⟨_,rfl⟩
    obtain ⟨r,hr⟩:∃ r,roI ros ro=r:=⟨_,rfl⟩
    have hrr:(q4=false∧decide (r<0)=true) ∨ (q4=true∧decide (r<0)=false):=by
     rw [← hq4,← hr]
     unfold roH roI
     cases ros.find? (rfP ro) with
     | none=>left;exact ⟨rfl,by simp⟩
     | some v=>right;exact ⟨rfl,by first | (simp;done) | (simp;omega)⟩
    rw [hq4] at HS HF
    rw [hr] at HR
    clear hq4 hr
    generalize dec (0≤bl∧bl≤1000000)=q5 at HB HS HF
    generalize dec (0≤lg∧lg≤1000)=q6 at HL HS HF
    clear hc hvl hx eo eu hc' hvl' hx'
    have HA:Hid (Grw w (wr.alloc (.cells #[.string nm,.string sa,.string ha,.string ro,.int .i64 bl,.int .i64 lg] 84))):=G0.alloc _
    have hmix:Tryz.prog.follows .mixedOrders=true:=by kernel_rfl
    have y0:∀ n os,(grow (World.drewN (wr.alloc (.cells #[.string nm,.string sa,.string ha,.string ro,.int .i64 bl,.int .i64 lg] 84)) n) os).cell? ⟨wr.heap.size,0,none⟩=some (.string nm):=fun n os=>cell_grown (by simp) (by simp) n os
    have y1:∀ n os,(grow (World.drewN (wr.alloc (.cells #[.string nm,.string sa,.string ha,.string ro,.int .i64 bl,.int .i64 lg] 84)) n) os).cell? ⟨wr.heap.size,1,none⟩=some (.string sa):=fun n os=>cell_grown (by simp) (by simp) n os
    have y2:∀ n os,(grow (World.drewN (wr.alloc (.cells #[.string nm,.string sa,.string ha,.string ro,.int .i64 bl,.int .i64 lg] 84)) n) os).cell? ⟨wr.heap.size,2,none⟩=some (.string ha):=fun n os=>cell_grown (by simp) (by simp) n os
    have y3:∀ n os,(grow (World.drewN (wr.alloc (.cells #[.string nm,.string sa,.string ha,.string ro,.int .i64 bl,.int .i64 lg] 84)) n) os).cell? ⟨wr.heap.size,3,none⟩=some (.string ro):=fun n os=>cell_grown (by simp) (by simp) n os
    have y4:∀ n os,(grow (World.drewN (wr.alloc (.cells #[.string nm,.string sa,.string ha,.string ro,.int .i64 bl,.int .i64 lg] 84)) n) os).cell? ⟨wr.heap.size,4,none⟩=some (.int .i64 bl):=fun n os=>cell_grown (by simp) (by simp) n os
    have y5:∀ n os,(grow (World.drewN (wr.alloc (.cells #[.string nm,.string sa,.string ha,.string ro,.int .i64 bl,.int .i64 lg] 84)) n) os).cell? ⟨wr.heap.size,5,none⟩=some (.int .i64 lg):=fun n os=>cell_grown (by simp) (by simp) n os
    have e0:∀ n os,(grow (World.drewN (wr.alloc (.cells #[.string nm,.string sa,.string ha,.string ro,.int .i64 bl,.int .i64 lg] 84)) n) os).cell? ⟨w.heap.size,0,none⟩=some (.int .i64 ip):=fun n os=>(((Grw.refl wr).alloc _).trans ⟨n,os,rfl⟩).keep d0
    have e1:∀ n os,(grow (World.drewN (wr.alloc (.cells #[.string nm,.string sa,.string ha,.string ro,.int .i64 bl,.int .i64 lg] 84)) n) os).cell? ⟨w.heap.size,1,none⟩=some (.int .i64 b):=fun n os=>(((Grw.refl wr).alloc _).trans ⟨n,os,rfl⟩).keep d1
    have e2:∀ n os,(grow (World.drewN (wr.alloc (.cells #[.string nm,.string sa,.string ha,.string ro,.int .i64 bl,.int .i64 lg] 84)) n) os).cell? ⟨w.heap.size,2,none⟩=some (.int .i64 gt):=fun n os=>(((Grw.refl wr).alloc _).trans ⟨n,os,rfl⟩).keep d2
    have e3:∀ n os,(grow (World.drewN (wr.alloc (.cells #[.string nm,.string sa,.string ha,.string ro,.int .i64 bl,.int .i64 lg] 84)) n) os).cell? ⟨w.heap.size,3,none⟩=some (.string gm):=fun n os=>(((Grw.refl wr).alloc _).trans ⟨n,os,rfl⟩).keep d3
    have e4:∀ n os,(grow (World.drewN (wr.alloc (.cells #[.string nm,.string sa,.string ha,.string ro,.int .i64 bl,.int .i64 lg] 84)) n) os).cell? ⟨w.heap.size,4,none⟩=some (.string wm):=fun n os=>(((Grw.refl wr).alloc _).trans ⟨n,os,rfl⟩).keep d4
    have e5:∀ n os,(grow (World.drewN (wr.alloc (.cells #[.string nm,.string sa,.string ha,.string ro,.int .i64 bl,.int .i64 lg] 84)) n) os).cell? ⟨w.heap.size,5,none⟩=some (.int .i64 rs):=fun n os=>(((Grw.refl wr).alloc _).trans ⟨n,os,rfl⟩).keep d5
    have e6:∀ n os,(grow (World.drewN (wr.alloc (.cells #[.string nm,.string sa,.string ha,.string ro,.int .i64 bl,.int .i64 lg] 84)) n) os).cell? ⟨w.heap.size,6,none⟩=some (.slice x lenx capx):=fun n os=>(((Grw.refl wr).alloc _).trans ⟨n,os,rfl⟩).keep d6
    have e7:∀ n os,(grow (World.drewN (wr.alloc (.cells #[.string nm,.string sa,.string ha,.string ro,.int .i64 bl,.int .i64 lg] 84)) n) os).cell? ⟨w.heap.size,7,none⟩=some (.slice y leny capy):=fun n os=>(((Grw.refl wr).alloc _).trans ⟨n,os,rfl⟩).keep d7
    have p1:∀ n os,(grow (World.drewN (wr.alloc (.cells #[.string nm,.string sa,.string ha,.string ro,.int .i64 bl,.int .i64 lg] 84)) n) os).cell? ⟨bk,off+j * 6,none⟩=some (.string nm'):=fun n os=>(((Grw.refl wr).alloc _).trans ⟨n,os,rfl⟩).keep p0
    have YR:Hid (∀ n os,Rw (RoR 0) 5 (grow (World.drewN (wr.alloc (.cells #[.string nm,.string sa,.string ha,.string ro,.int .i64 bl,.int .i64 lg] 84)) n) os) y ros):=fun n os=>RY.out.keep (RoR.kp 0) (HA.out.trans ⟨n,os,rfl⟩).below
    cases q1 with
    | false =>
     have hd:Hid (risB (uB ros) ltU us=false):=HF.out (by simp)
     have hv:Hid (usB ros us=false):=by show usB ros us=false;unfold usB;rw [hd.out,Bool.and_false]
     go_wp2_with fail
     refine wp_region_quiet_grown (by assumption) (by kernel_rfl) ?_
     repeat (go_big_quiet_step (first | fail | (first | (go_at_call 131;exact Calls.grown_of (HN.out _)) | (go_at_call 70;exact Calls.grown_of (HR.out _ (YR.out _ _))) | (go_at_call 65;with_reducible exact Calls.grown_of (HB.out _)) | (go_at_call 65;with_reducible exact Calls.grown_of (HL.out _)))))
     refine wpQuiet_nil ?_
     intro _ hw'
     obtain ⟨⟨nq,osq⟩,hw''⟩:=hw'
     subst hw''
     have HG1:Hid (Grw w _):=HA.out.trans ⟨nq,osq,rfl⟩
     clear y0 y1 y2 y3 y4 y5 e0 e1 e2 e3 e4 e5 e6 e7 p1
     go_wp2
     go_ret
     exact ⟨by rw [hv.out];rfl,HG1.out⟩
    | true =>
     by_cases hsa:sa.size≤40
     rotate_left
     ·rw [dec_n hsa] at HS HF
      have hsz1:decide ((40:Int)<(sa.size:Int))=true:=decide_eq_true (by omega)
      have hd:Hid (risB (uB ros) ltU us=false):=HF.out (by simp)
      have hv:Hid (usB ros us=false):=by show usB ros us=false;unfold usB;rw [hd.out,Bool.and_false]
      go_wp2_with fail
      refine wp_region_quiet_grown (by assumption) (by kernel_rfl) ?_
      repeat (go_big_quiet_step (first | fail | (first | (go_at_call 131;exact Calls.grown_of (HN.out _)) | (go_at_call 70;exact Calls.grown_of (HR.out _ (YR.out _ _))) | (go_at_call 65;with_reducible exact Calls.grown_of (HB.out _)) | (go_at_call 65;with_reducible exact Calls.grown_of (HL.out _)))))
      refine wpQuiet_nil ?_
      intro _ hw'
      obtain ⟨⟨nq,osq⟩,hw''⟩:=hw'
      subst hw''
      have HG1:Hid (Grw w _):=HA.out.trans ⟨nq,osq,rfl⟩
      clear y0 y1 y2 y3 y4 y5 e0 e1 e2 e3 e4 e5 e6 e7 p1
      go_wp2
      go_ret
      exact ⟨by rw [hv.out];rfl,HG1.out⟩
     have hsz1:decide ((40:Int)<(sa.size:Int))=false:=decide_eq_false (by omega)
     rw [dec_y hsa] at HS HF
     by_cases hha:ha.size=32
     rotate_left
     ·rw [dec_n hha] at HS HF
      have hsz2:((ha.size:Int) != 32)=true:=by simp;omega
      have hd:Hid (risB (uB ros) ltU us=false):=HF.out (by simp)
      have hv:Hid (usB ros us=false):=by show usB ros us=false;unfold usB;rw [hd.out,Bool.and_false]
      go_wp2_with fail
      refine wp_region_quiet_grown (by assumption) (by kernel_rfl) ?_
      repeat (go_big_quiet_step (first | fail | (first | (go_at_call 131;exact Calls.grown_of (HN.out _)) | (go_at_call 70;exact Calls.grown_of (HR.out _ (YR.out _ _))) | (go_at_call 65;with_reducible exact Calls.grown_of (HB.out _)) | (go_at_call 65;with_reducible exact Calls.grown_of (HL.out _)))))
      refine wpQuiet_nil ?_
      intro _ hw'
      obtain ⟨⟨nq,osq⟩,hw''⟩:=hw'
      subst hw''
      have HG1:Hid (Grw w _):=HA.out.trans ⟨nq,osq,rfl⟩
      clear y0 y1 y2 y3 y4 y5 e0 e1 e2 e3 e4 e5 e6 e7 p1
      go_wp2
      go_ret
      exact ⟨by rw [hv.out];rfl,HG1.out⟩
     have hsz2:((ha.size:Int) != 32)=false:=by simp;omega
     rw [dec_y hha] at HS HF
     rcases hrr with ⟨rfl,hr0⟩ | ⟨rfl,hr0⟩
     ·have hd:Hid (risB (uB ros) ltU us=false):=HF.out (by simp)
      have hv:Hid (usB ros us=false):=by show usB ros us=false;unfold usB;rw [hd.out,Bool.and_false]
      go_wp2_with fail
      refine wp_region_quiet_grown (by assumption) (by kernel_rfl) ?_
      repeat (go_big_quiet_step (first | fail | (first | (go_at_call 131;exact Calls.grown_of (HN.out _)) | (go_at_call 70;exact Calls.grown_of (HR.out _ (YR.out _ _))) | (go_at_call 65;with_reducible exact Calls.grown_of (HB.out _)) | (go_at_call 65;with_reducible exact Calls.grown_of (HL.out _)))))
      refine wpQuiet_nil ?_
      intro _ hw'
      obtain ⟨⟨nq,osq⟩,hw''⟩:=hw'
      subst hw''
      have HG1:Hid (Grw w _):=HA.out.trans ⟨nq,osq,rfl⟩
      clear y0 y1 y2 y3 y4 y5 e0 e1 e2 e3 e4 e5 e6 e7 p1
      go_wp2
      go_ret
      exact ⟨by rw [hv.out];rfl,HG1.out⟩
     ·cases q5 with
      | false =>
       have hd:Hid (risB (uB ros) ltU us=false):=HF.out (by simp)
       have hv:Hid (usB ros us=false):=by show usB ros us=false;unfold usB;rw [hd.out,Bool.and_false]
       go_wp2_with fail
       refine wp_region_quiet_grown (by assumption) (by kernel_rfl) ?_
       repeat (go_big_quiet_step (first | fail | (first | (go_at_call 131;exact Calls.grown_of (HN.out _)) | (go_at_call 70;exact Calls.grown_of (HR.out _ (YR.out _ _))) | (go_at_call 65;with_reducible exact Calls.grown_of (HB.out _)) | (go_at_call 65;with_reducible exact Calls.grown_of (HL.out _)))))
       refine wpQuiet_nil ?_
       intro _ hw'
       obtain ⟨⟨nq,osq⟩,hw''⟩:=hw'
       subst hw''
       have HG1:Hid (Grw w _):=HA.out.trans ⟨nq,osq,rfl⟩
       clear y0 y1 y2 y3 y4 y5 e0 e1 e2 e3 e4 e5 e6 e7 p1
       go_wp2
       go_ret
       exact ⟨by rw [hv.out];rfl,HG1.out⟩
      | true =>
       cases q6 with
       | false =>
        have hd:Hid (risB (uB ros) ltU us=false):=HF.out (by simp)
        have hv:Hid (usB ros us=false):=by show usB ros us=false;unfold usB;rw [hd.out,Bool.and_false]
        go_wp2_with fail
        refine wp_region_quiet_grown (by assumption) (by kernel_rfl) ?_
        repeat (go_big_quiet_step (first | fail | (first | (go_at_call 131;exact Calls.grown_of (HN.out _)) | (go_at_call 70;exact Calls.grown_of (HR.out _ (YR.out _ _))) | (go_at_call 65;with_reducible exact Calls.grown_of (HB.out _)) | (go_at_call 65;with_reducible exact Calls.grown_of (HL.out _)))))
        refine wpQuiet_nil ?_
        intro _ hw'
        obtain ⟨⟨nq,osq⟩,hw''⟩:=hw'
        subst hw''
        have HG1:Hid (Grw w _):=HA.out.trans ⟨nq,osq,rfl⟩
        clear y0 y1 y2 y3 y4 y5 e0 e1 e2 e3 e4 e5 e6 e7 p1
        go_wp2
        go_ret
        exact ⟨by rw [hv.out];rfl,HG1.out⟩
       | true =>
        cases lt with
        | true =>
         have HS':Hid ((List.range (k+1)).all (risAt (uB ros) ltU us)=true):=HS.out (by simp)
         clear HS HF
         go_wp2_with fail
         refine wp_region_quiet_grown (by assumption) (by kernel_rfl) ?_
         repeat (go_big_quiet_step (first | fail | (first | (go_at_call 131;exact Calls.grown_of (HN.out _)) | (go_at_call 70;exact Calls.grown_of (HR.out _ (YR.out _ _))) | (go_at_call 65;with_reducible exact Calls.grown_of (HB.out _)) | (go_at_call 65;with_reducible exact Calls.grown_of (HL.out _)))))
         refine wpQuiet_nil ?_
         intro _ hw'
         obtain ⟨⟨nq,osq⟩,hw''⟩:=hw'
         subst hw''
         have HG1:Hid (Grw w (grow (World.drewN (wr.alloc (.cells #[.string nm,.string sa,.string ha,.string ro,.int .i64 bl,.int .i64 lg] 84)) nq) osq)∧(grow (World.drewN (wr.alloc (.cells #[.string nm,.string sa,.string ha,.string ro,.int .i64 bl,.int .i64 lg] 84)) nq) osq).cell? ⟨w.heap.size,0,none⟩=some (.int .i64 ip)∧(grow (World.drewN (wr.alloc (.cells #[.string nm,.string sa,.string ha,.string ro,.int .i64 bl,.int .i64 lg] 84)) nq) osq).cell? ⟨w.heap.size,1,none⟩=some (.int .i64 b)∧(grow (World.drewN (wr.alloc (.cells #[.string nm,.string sa,.string ha,.string ro,.int .i64 bl,.int .i64 lg] 84)) nq) osq).cell? ⟨w.heap.size,2,none⟩=some (.int .i64 gt)∧(grow (World.drewN (wr.alloc (.cells #[.string nm,.string sa,.string ha,.string ro,.int .i64 bl,.int .i64 lg] 84)) nq) osq).cell? ⟨w.heap.size,3,none⟩=some (.string gm)∧(grow (World.drewN (wr.alloc (.cells #[.string nm,.string sa,.string ha,.string ro,.int .i64 bl,.int .i64 lg] 84)) nq) osq).cell? ⟨w.heap.size,4,none⟩=some (.string wm)∧(grow (World.drewN (wr.alloc (.cells #[.string nm,.string sa,.string ha,.string ro,.int .i64 bl,.int .i64 lg] 84)) nq) osq).cell? ⟨w.heap.size,5,none⟩=some (.int .i64 rs)∧(grow (World.drewN (wr.alloc (.cells #[.string nm,.string sa,.string ha,.string ro,.int .i64 bl,.int .i64 lg] 84)) nq) osq).cell? ⟨w.heap.size,6,none⟩=some (.slice x lenx capx)∧(grow (World.drewN (wr.alloc (.cells #[.string nm,.string sa,.string ha,.string ro,.int .i64 bl,.int .i64 lg] 84)) nq) osq).cell? ⟨w.heap.size,7,none⟩=some (.slice y leny capy)):=⟨HA.out.trans ⟨nq,osq,rfl⟩,e0 nq osq,e1 nq osq,e2 nq osq,e3 nq osq,e4 nq osq,e5 nq osq,e6 nq osq,e7 nq osq⟩
         clear y0 y1 y2 y3 y4 y5 e0 e1 e2 e3 e4 e5 e6 e7 p1
         go_wp2
         go_roundw
         case rel=>exact ⟨k+1,by omega,by go_num,HS',HG1⟩
         case measure=>simp [intOf];omega
        | false =>
         have hd:Hid (risB (uB ros) ltU us=false):=HF.out (by simp)
         have hv:Hid (usB ros us=false):=by show usB ros us=false;unfold usB;rw [hd.out,Bool.and_false]
         go_wp2_with fail
         refine wp_region_quiet_grown (by assumption) (by kernel_rfl) ?_
         repeat (go_big_quiet_step (first | fail | (first | (go_at_call 131;exact Calls.grown_of (HN.out _)) | (go_at_call 70;exact Calls.grown_of (HR.out _ (YR.out _ _))) | (go_at_call 65;with_reducible exact Calls.grown_of (HB.out _)) | (go_at_call 65;with_reducible exact Calls.grown_of (HL.out _)))))
         refine wpQuiet_nil ?_
         intro _ hw'
         obtain ⟨⟨nq,osq⟩,hw''⟩:=hw'
         subst hw''
         have HG1:Hid (Grw w _):=HA.out.trans ⟨nq,osq,rfl⟩
         clear y0 y1 y2 y3 y4 y5 e0 e1 e2 e3 e4 e5 e6 e7 p1
         go_wp2
         go_ret
         exact ⟨by rw [hv.out];rfl,HG1.out⟩
  ·obtain rfl:k=len:=by omega
   have hd:Hid (risB (uB ros) ltU us=true):=ris_end hl HO.out
   by_cases h6:k≤6
   ·have h6z:(k:Int)≤6:=by omega
    have hv:Hid (usB ros us=true):=by show usB ros us=true;unfold usB;rw [hd.out,dec_y (by omega)];rfl
    go_wp2
    go_ret
    exact ⟨by rw [hv.out];rfl,G0⟩
   ·have h6z:¬ (k:Int)≤6:=by omega
    have hv:Hid (usB ros us=false):=by show usB ros us=false;unfold usB;rw [dec_n (by omega)];rfl
    go_wp2
    go_ret
    exact ⟨by rw [hv.out];rfl,G0⟩
end Go.Proofs.YtojcakkkakmniaaGreatDoor
