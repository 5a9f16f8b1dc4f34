/- Login of the model, packed. The walk of laws.FnExactLogin. The program's two tables of hashes, as the rows list them, lie cell for cell in their variables. -/
import Derived.Test.YtojcakkkakmniaaGreatDoorJ29
import Derived.Test.YtojcakkkakmniaaGreatDoorJ14
import Derived.Test.YtojcakkkakmniaaGreatDoorJ27
import Derived.Test.YtojcakkkakmniaaGreatDoorRows
import Derived.ProofKit
import Derived.LaidMore
import Derived.Stop.Joined
import Derived.Lib.LaidTab
namespace Go.Proofs.YtojcakkkakmniaaGreatDoor
open Go.RowKit Go.PlainAid Go.Proofs.YtojcakkkakmniaaGreatDoor.Bt Go.Sort
set_option linter.unusedVariables false
set_option maxRecDepth 20000
set_option maxHeartbeats 16000000 in
theorem specLogin_any (C:CfA) (c:CfV) (A:HuA) (h:HuV) (nm wd mc:ByteArray) (ip now:Int) (w:World) (rc:CfR w C c) (rh:HuR w A h) (hs:HuS w A h) (sc:CfSz c) (sh:HuSz h) (l3:mc.size≤1048576) :
  Calls Tryz.prog 6 #[.agg #[.int .i64 c.ip,.int .i64 c.b,.int .i64 c.gt,.string c.gm,.string c.wm,.int .i64 c.rs,.slice C.x c.ps.length C.xc,.slice C.y c.ros.length C.yc],.agg #[.slice A.u h.us.length A.uc,.slice A.s h.ss.length A.sc,.slice A.f h.fs.length A.fc,.slice A.r h.es.length A.rc,.int .i64 h.nx],.string nm,.string wd,.string mc,.int .i64 ip,.int .i64 now] w fun e w'=>∃ R:HuA,e=.returned (.tuple #[.agg #[.slice R.u (lgT c h nm wd mc ip now).g.us.length R.uc,.slice R.s (lgT c h nm wd mc ip now).g.ss.length R.sc,.slice R.f (lgT c h nm wd mc ip now).g.fs.length R.fc,.slice R.r (lgT c h nm wd mc ip now).g.es.length R.rc,.int .i64 (lgT c h nm wd mc ip now).g.nx],.int .i64 (lgT c h nm wd mc ip now).id,.int .i64 (lgT c h nm wd mc ip now).k])∧OwnHu w' w.heap.size R (lgT c h nm wd mc ip now).g∧Below w.heap.size w w':=by
 have P0:Hid (LgPB C c A h w (((w.alloc (.cells #[.int .i64 c.ip,.int .i64 c.b,.int .i64 c.gt,.string c.gm,.string c.wm,.int .i64 c.rs,.slice C.x c.ps.length C.xc,.slice C.y c.ros.length C.yc] 48)).alloc (.cells #[.slice A.u h.us.length A.uc,.slice A.s h.ss.length A.sc,.slice A.f h.fs.length A.fc,.slice A.r h.es.length A.rc,.int .i64 h.nx] 41)).alloc (.cells #[.slice none 0 0,.slice none 0 0,.slice none 0 0,.slice none 0 0,.int .i64 0] 41))):=by
  refine ⟨((Bx.new w #[.int .i64 c.ip,.int .i64 c.b,.int .i64 c.gt,.string c.gm,.string c.wm,.int .i64 c.rs,.slice C.x c.ps.length C.xc,.slice C.y c.ros.length C.yc] 48).below ((Below.refl _ _).alloc (Nat.le_refl _) _)).below ((Below.refl _ _).alloc (Nat.le_refl _) _),?_,?_,(((Below.refl _ _).alloc (Nat.le_refl _) _).alloc (by simp) _).alloc (by simp;omega) _⟩
  ·have h:=Bx.new (w.alloc (.cells #[.int .i64 c.ip,.int .i64 c.b,.int .i64 c.gt,.string c.gm,.string c.wm,.int .i64 c.rs,.slice C.x c.ps.length C.xc,.slice C.y c.ros.length C.yc] 48)) #[.slice A.u h.us.length A.uc,.slice A.s h.ss.length A.sc,.slice A.f h.fs.length A.fc,.slice A.r h.es.length A.rc,.int .i64 h.nx] 41
   rw [World.size_alloc] at h
   exact h.below ((Below.refl _ _).alloc (Nat.le_refl _) _)
  ·have h:=Bx.new ((w.alloc (.cells #[.int .i64 c.ip,.int .i64 c.b,.int .i64 c.gt,.string c.gm,.string c.wm,.int .i64 c.rs,.slice C.x c.ps.length C.xc,.slice C.y c.ros.length C.yc] 48)).alloc (.cells #[.slice A.u h.us.length A.uc,.slice A.s h.ss.length A.sc,.slice A.f h.fs.length A.fc,.slice A.r h.es.length A.rc,.int .i64 h.nx] 41)) #[.slice none 0 0,.slice none 0 0,.slice none 0 0,.slice none 0 0,.int .i64 0] 41
   rw [World.size_alloc,World.size_alloc] at h
   exact h
 by_cases hl:65536<nm.size ∨ 65536<wd.size ∨ 65536<mc.size
 ·have e:lgT c h nm wd mc ip now=⟨zeroHu,0,2⟩:=by unfold lgT;rw [if_pos hl]
  rw [e]
  clear e rc rh hs
  by_cases h1:65536<nm.size
  ·have z1:(65536:Int)<(nm.size:Int):=by omega
   go_enter Tryz.func6,Tryz.ntmps6
   go_wp2_with (first | (refine wpl_putT 41 rfl _ _ rfl (w.heap.size+1+1) _ rfl rfl P0.out.2.2.1 rfl rfl rfl ?_;intro W5 hw5 R5;have B5:Hid (Below w.heap.size w W5):=(by rw [hw5];exact below_cells (by omega) _ _ _ P0.out.2.2.2);clear hw5) | fail)
   refine bodyPost_ret (v:=.tuple #[.agg #[.slice none 0 0,.slice none 0 0,.slice none 0 0,.slice none 0 0,.int .i64 0],.int .i64 0,.int .i64 2]) (results_cell3 Tryz.results6 (w.heap.size+1+1) rfl rfl rfl R5 _ Tryz.underlying41 rfl rfl) rfl ?_
   exact ⟨zeroHA,rfl,OwnHu.zero _ _,B5.out⟩
  have z1:¬ (65536:Int)<(nm.size:Int):=by omega
  by_cases h2:65536<wd.size
  ·have z2:(65536:Int)<(wd.size:Int):=by omega
   go_enter Tryz.func6,Tryz.ntmps6
   go_wp2_with (first | (refine wpl_putT 41 rfl _ _ rfl (w.heap.size+1+1) _ rfl rfl P0.out.2.2.1 rfl rfl rfl ?_;intro W5 hw5 R5;have B5:Hid (Below w.heap.size w W5):=(by rw [hw5];exact below_cells (by omega) _ _ _ P0.out.2.2.2);clear hw5) | fail)
   refine bodyPost_ret (v:=.tuple #[.agg #[.slice none 0 0,.slice none 0 0,.slice none 0 0,.slice none 0 0,.int .i64 0],.int .i64 0,.int .i64 2]) (results_cell3 Tryz.results6 (w.heap.size+1+1) rfl rfl rfl R5 _ Tryz.underlying41 rfl rfl) rfl ?_
   exact ⟨zeroHA,rfl,OwnHu.zero _ _,B5.out⟩
  have z2:¬ (65536:Int)<(wd.size:Int):=by omega
  have z3:(65536:Int)<(mc.size:Int):=by omega
  go_enter Tryz.func6,Tryz.ntmps6
  go_wp2_with (first | (refine wpl_putT 41 rfl _ _ rfl (w.heap.size+1+1) _ rfl rfl P0.out.2.2.1 rfl rfl rfl ?_;intro W5 hw5 R5;have B5:Hid (Below w.heap.size w W5):=(by rw [hw5];exact below_cells (by omega) _ _ _ P0.out.2.2.2);clear hw5) | fail)
  refine bodyPost_ret (v:=.tuple #[.agg #[.slice none 0 0,.slice none 0 0,.slice none 0 0,.slice none 0 0,.int .i64 0],.int .i64 0,.int .i64 2]) (results_cell3 Tryz.results6 (w.heap.size+1+1) rfl rfl rfl R5 _ Tryz.underlying41 rfl rfl) rfl ?_
  exact ⟨zeroHA,rfl,OwnHu.zero _ _,B5.out⟩
 have z1:¬ (65536:Int)<(nm.size:Int):=by omega
 have z2:¬ (65536:Int)<(wd.size:Int):=by omega
 have z3:¬ (65536:Int)<(mc.size:Int):=by omega
 obtain ⟨X,hX⟩:∃ X,X=lgT c h nm wd mc ip now:=⟨_,rfl⟩
 have EF:Hid (¬ fauC (okG c h) now=0→X=⟨zeroHu,0,fauC (okG c h) now⟩):=fun hf=>by rw [hX];unfold lgT;rw [if_neg hl,if_pos hf]
 have ER:Hid (fauC (okG c h) now=0→lgQ c wd mc ip=false→X=⟨zeroHu,0,4⟩):=fun hf hq=>by rw [hX];unfold lgT;rw [if_neg hl,if_neg (not_not_intro hf),if_neg (by rw [hq];simp)]
 have EO:Hid (fauC (okG c h) now=0→lgQ c wd mc ip=true→X=lgO c h nm wd mc ip now∧(LgK c h mc ip now∧wd.size≤40)):=fun hf hq=>by
  refine ⟨?_,lgQ_yes (fau_z hf).1 (fau_z hf).2 hq⟩
  rw [hX]
  unfold lgT
  rw [if_neg hl,if_neg (not_not_intro hf),if_pos hq]
 have EB:Hid (fauC (okG c h) now=0→nB c.ip c.b=true):=fun hf=>(okG_nx (fau_z hf).1).2.2
 rw [← hX]
 clear hX hl
 have HA:Hid (∀ wx,Below w.heap.size w wx→Calls Tryz.prog 21 #[.agg #[.int .i64 c.ip,.int .i64 c.b,.int .i64 c.gt,.string c.gm,.string c.wm,.int .i64 c.rs,.slice C.x c.ps.length C.xc,.slice C.y c.ros.length C.yc],.agg #[.slice A.u h.us.length A.uc,.slice A.s h.ss.length A.sc,.slice A.f h.fs.length A.fc,.slice A.r h.es.length A.rc,.int .i64 h.nx],.int .i64 now] wx fun e w'=>e=.returned (.int .i64 (fauC (okG c h) now))∧Below wx.heap.size wx w'):=fun wx hb=>spec_ask C c A h now wx (rc.below hb) (rh.below hb) sc sh
 have RH:Hid (HuR w A h):=rh
 have HS:Hid (HuS w A h):=hs
 have RC:Hid (CfR w C c):=rc
 have SC:Hid (CfSz c):=sc
 have SH:Hid (HuSz h):=sh
 have LM:Hid (mc.size≤maxLen):=Nat.le_trans l3 (by decide)
 clear rc rh hs sc sh l3
 obtain ⟨f,hf9⟩:∃ f,f=fauC (okG c h) now:=⟨_,rfl⟩
 rw [← hf9] at HA EF ER EO EB
 clear hf9
 go_enter Tryz.func6,Tryz.ntmps6
 go_wp2_with (first | (refine wpl_getT 48 rfl _ rfl (w.heap.size) rfl P0.out.1 _ Tryz.underlying48 rfl rfl ?_) | (refine wpl_getT 41 rfl _ rfl (w.heap.size+1) rfl P0.out.2.1 _ Tryz.underlying41 rfl rfl ?_) | fail)
 refine (HA.out _ P0.out.2.2.2).mono ?_
 rintro e w1 ⟨rfl,bx⟩
 have P1:Hid (LgPB C c A h w w1):=⟨P0.out.1.below bx,P0.out.2.1.below bx,P0.out.2.2.1.below bx,P0.out.2.2.2.trans (bx.mono P0.out.2.2.2.size)⟩
 clear bx P0 HA
 by_cases hf:¬ f=0
 ·have hfb:(f != 0)=true:=by simp [hf]
  have hX:=EF.out hf
  subst hX
  clear EF ER EO EB
  go_wp2_with (first | (refine wpl_putT 41 rfl _ _ rfl (w.heap.size+1+1) _ rfl rfl P1.out.2.2.1 rfl rfl rfl ?_;intro W5 hw5 R5;have B5:Hid (Below w.heap.size w W5):=(by rw [hw5];exact below_cells (by omega) _ _ _ P1.out.2.2.2);clear hw5) | fail)
  refine bodyPost_ret (v:=.tuple #[.agg #[.slice none 0 0,.slice none 0 0,.slice none 0 0,.slice none 0 0,.int .i64 0],.int .i64 0,.int .i64 f]) (results_cell3 Tryz.results6 (w.heap.size+1+1) rfl rfl rfl R5 _ Tryz.underlying41 rfl rfl) rfl ?_
  exact ⟨zeroHA,rfl,OwnHu.zero _ _,B5.out⟩
 replace hf:f=0:=Classical.not_not.1 hf
 subst hf
 have hnb:=EB.out rfl
 replace ER:Hid (lgQ c wd mc ip=false→X=⟨zeroHu,0,4⟩):=ER.out rfl
 replace EO:Hid (lgQ c wd mc ip=true→X=lgO c h nm wd mc ip now∧(LgK c h mc ip now∧wd.size≤40)):=EO.out rfl
 obtain ⟨t1,ht1⟩:∃ t,t=dec (mc.size=6):=⟨_,rfl⟩
 obtain ⟨t2,ht2⟩:∃ t,t=dec (0≤ip∧ip≤4294967295):=⟨_,rfl⟩
 obtain ⟨t3,ht3⟩:∃ t,t=hB c.ip c.b ip:=⟨_,rfl⟩
 obtain ⟨NQ,hNQ⟩:∃ q,q=!(lgQ c wd mc ip):=⟨_,rfl⟩
 have ENQ:Hid (NQ=!(t1 && ((t2 && t3) && dec (wd.size≤40)))):=by
  show NQ=_
  rw [hNQ]
  unfold lgQ nhB
  rw [hnb,Bool.true_and,← ht1,← ht2,← ht3]
 have HQ9:Hid (NQ=!(lgQ c wd mc ip)):=hNQ
 have T1:Hid (∀ w,Calls Tryz.prog 22 #[.string mc] w fun e w'=>e=.returned (.bool t1)∧w'=w):=fun w=>by rw [ht1];exact l01MacC_any mc w
 have T2:Hid (∀ w,Calls Tryz.prog 23 #[.int .i64 ip] w fun e w'=>e=.returned (.bool t2)∧w'=w):=fun w=>by rw [ht2];exact specIp_any ip w
 have T3:Hid (∀ w,Calls Tryz.prog 24 #[.agg #[.int .i64 c.ip,.int .i64 c.b],.int .i64 ip] w fun e w'=>e=.returned (.bool t3)∧Below w.heap.size w w'):=fun w=>by
  rw [ht3]
  exact (l05Has_any c.ip c.b ip w (nB_yes hnb).2.2.1 (nB_yes hnb).2.2.2.1).mono fun e w' h=>⟨h.1,h.2.below⟩
 clear hnb ht1 ht2 ht3 hNQ EF EB
 go_upto_region 6 with fail
 go_cut [62] from 43 to 62 (fun s wx=>s=.bool NQ∧Hid (LgPB C c A h w wx))
 case first =>
  go_wp2_with fail
  refine (T1.out _).mono ?_
  rintro e w2 ⟨rfl,rfl⟩
  cases t1 with
  | false =>
   have hs:NQ=true:=ENQ.out
   subst hs
   go_wp2
   go_meet
   exact ⟨rfl,P1⟩
  | true =>
   go_wp2_with fail
   refine (T2.out _).mono ?_
   rintro e w2 ⟨rfl,rfl⟩
   cases t2 with
   | false =>
    have hs:NQ=true:=ENQ.out
    subst hs
    go_wp2
    go_meet
    exact ⟨rfl,P1⟩
   | true =>
    have c0:=P1.out.1.cell 0 rfl
    have c1:=P1.out.1.cell 1 rfl
    go_wp2_with fail
    refine (T3.out _).mono ?_
    rintro e w3 ⟨rfl,bx⟩
    have P3:Hid (LgPB C c A h w w3):=⟨P1.out.1.below bx,P1.out.2.1.below bx,P1.out.2.2.1.below bx,P1.out.2.2.2.trans (bx.mono P1.out.2.2.2.size)⟩
    clear c0 c1 bx P1
    cases t3 with
    | false =>
     have hs:NQ=true:=ENQ.out
     subst hs
     go_wp2
     go_meet
     exact ⟨rfl,P3⟩
    | true =>
     by_cases hw:wd.size≤40
     ·have hs:NQ=false:=ENQ.out.trans (by rw [dec_y hw];rfl)
      have zw:decide ((40:Int)<(wd.size:Int))=false:=decide_eq_false (by omega)
      subst hs
      go_wp2
      go_meet
      exact ⟨rfl,P3⟩
     ·have hs:NQ=true:=ENQ.out.trans (by rw [dec_n hw];rfl)
      have zw:decide ((40:Int)<(wd.size:Int))=true:=decide_eq_true (by omega)
      subst hs
      go_wp2
      go_meet
      exact ⟨rfl,P3⟩
 case rest =>
  obtain ⟨hc1,P3⟩:=hcut
  subst hc1
  clear P1 T1 T2 T3 ENQ
  cases NQ with
  | true =>
   have hX:=ER.out (by have:=HQ9.out;cases hq:lgQ c wd mc ip with | false=>rfl | true=>rw [hq] at this;cases this)
   subst hX
   clear ER EO
   go_wp2_with (first | (refine wpl_putT 41 rfl _ _ rfl (w.heap.size+1+1) _ rfl rfl P3.out.2.2.1 rfl rfl rfl ?_;intro W5 hw5 R5;have B5:Hid (Below w.heap.size w W5):=(by rw [hw5];exact below_cells (by omega) _ _ _ P3.out.2.2.2);clear hw5) | fail)
   refine bodyPost_ret (v:=.tuple #[.agg #[.slice none 0 0,.slice none 0 0,.slice none 0 0,.slice none 0 0,.int .i64 0],.int .i64 0,.int .i64 4]) (results_cell3 Tryz.results6 (w.heap.size+1+1) rfl rfl rfl R5 _ Tryz.underlying41 rfl rfl) rfl ?_
   exact ⟨zeroHA,rfl,OwnHu.zero _ _,B5.out⟩
  | false =>
   obtain ⟨hX,LK,lw⟩:=EO.out (by have:=HQ9.out;cases hq:lgQ c wd mc ip with | true=>rfl | false=>rw [hq] at this;cases this)
   have HL:Hid (∀ wx,Below w.heap.size w wx→Calls Tryz.prog 25 #[.agg #[.int .i64 c.ip,.int .i64 c.b,.int .i64 c.gt,.string c.gm,.string c.wm,.int .i64 c.rs,.slice C.x c.ps.length C.xc,.slice C.y c.ros.length C.yc],.agg #[.slice A.u h.us.length A.uc,.slice A.s h.ss.length A.sc,.slice A.f h.fs.length A.fc,.slice A.r h.es.length A.rc,.int .i64 h.nx],.string nm,.string wd,.string mc,.int .i64 ip,.int .i64 now] wx fun e w'=>∃ A':HuA,e=.returned (.tuple #[.agg #[.slice A'.u X.g.us.length A'.uc,.slice A'.s X.g.ss.length A'.sc,.slice A'.f X.g.fs.length A'.fc,.slice A'.r X.g.es.length A'.rc,.int .i64 X.g.nx],.int .i64 X.id,.int .i64 X.k])∧HuS w' A' X.g∧Below wx.heap.size wx w'):=fun wx hb=>l08Login_any C c A h nm wd mc ip now X wx (RC.out.below hb) (RH.out.below hb) (HS.out.below hb) SC.out SH.out LK lw LM.out hX
   clear hX LK lw ER EO HQ9
   go_wp2_with (first | (refine wpl_getT 48 rfl _ rfl (w.heap.size) rfl P3.out.1 _ Tryz.underlying48 rfl rfl ?_) | (refine wpl_getT 41 rfl _ rfl (w.heap.size+1) rfl P3.out.2.1 _ Tryz.underlying41 rfl rfl ?_) | fail)
   refine (HL.out _ P3.out.2.2.2).mono ?_
   rintro e w4 ⟨A4,rfl,h4,bx⟩
   have P4:Hid (LgPB C c A h w w4):=⟨P3.out.1.below bx,P3.out.2.1.below bx,P3.out.2.2.1.below bx,P3.out.2.2.2.trans (bx.mono P3.out.2.2.2.size)⟩
   have H4:Hid (HuS w4 A4 X.g):=h4
   have N4:Hid (Bx (w4.alloc (.cells #[.slice none 0 0,.slice none 0 0,.slice none 0 0,.slice none 0 0,.int .i64 0] 41)) w4.heap.size [.slice none 0 0,.slice none 0 0,.slice none 0 0,.slice none 0 0,.int .i64 0]):=Bx.new w4 #[.slice none 0 0,.slice none 0 0,.slice none 0 0,.slice none 0 0,.int .i64 0] 41
   clear bx P3 HL h4
   go_wp2_with (first | (refine wpl_putT 41 rfl _ _ rfl (w4.heap.size) _ rfl rfl N4.out rfl rfl rfl ?_;intro W6 hw6 n6;have N6:Hid (Bx W6 w4.heap.size [.slice A4.u X.g.us.length A4.uc,.slice A4.s X.g.ss.length A4.sc,.slice A4.f X.g.fs.length A4.fc,.slice A4.r X.g.es.length A4.rc,.int .i64 X.g.nx]):=n6;have b6:Below w4.heap.size w4 W6:=(by rw [hw6];exact below_cells (Nat.le_refl _) _ _ _ ((Below.refl _ _).alloc (Nat.le_refl _) _));have P6:Hid (LgPB C c A h w W6):=⟨P4.out.1.below b6,P4.out.2.1.below b6,P4.out.2.2.1.below b6,P4.out.2.2.2.trans (b6.mono P4.out.2.2.2.size)⟩;have H6:Hid (HuS W6 A4 X.g):=H4.out.below b6;clear hw6 n6 b6 N4 P4 H4) | (refine wpl_getT 41 rfl _ rfl (w4.heap.size) rfl N6.out _ Tryz.underlying41 rfl rfl ?_) | fail)
   refine (spec_own A4 X.g _ H6.out).mono ?_
   rintro e w7 ⟨R,rfl,o7,bx⟩
   have Z6:Hid (w.heap.size+1+1<W6.heap.size):=bx_lt P6.out.2.2.1
   have hz6:=P6.out.2.2.2.size
   have P7:Hid (LgPB C c A h w w7):=⟨P6.out.1.below bx,P6.out.2.1.below bx,P6.out.2.2.1.below bx,P6.out.2.2.2.trans (bx.mono P6.out.2.2.2.size)⟩
   have O7:Hid (OwnHu w7 W6.heap.size R X.g):=o7
   clear bx P6 N6 H6 o7
   go_wp2_with (first | (refine wpl_putT 41 rfl _ _ rfl (w.heap.size+1+1) _ rfl rfl P7.out.2.2.1 rfl rfl rfl ?_;intro WR hwR RR;have BR:Hid (Below w.heap.size w WR):=(by rw [hwR];exact below_cells (by omega) _ _ _ P7.out.2.2.2);have OR:Hid (OwnHu WR W6.heap.size R X.g):=(by rw [hwR];exact Own4.put O7.out (Own4.offLow O7.out Z6.out) _ _);clear hwR) | fail)
   refine bodyPost_ret (v:=.tuple #[.agg #[.slice R.u X.g.us.length R.uc,.slice R.s X.g.ss.length R.sc,.slice R.f X.g.fs.length R.fc,.slice R.r X.g.es.length R.rc,.int .i64 X.g.nx],.int .i64 X.id,.int .i64 X.k]) (results_cell3 Tryz.results6 (w.heap.size+1+1) rfl rfl rfl RR _ Tryz.underlying41 rfl rfl) rfl ?_
   exact ⟨R,rfl,Own4.lower OR.out hz6,BR.out⟩
theorem lawLogin_any (C:CfA) (c:CfV) (A:HuA) (h:HuV) (nm wd mc:ByteArray) (ip now:Int) (w:World) (hT:KTab w∧HTab w) (rC:CfR w C c) (bC:CfBd C c) (rA:HuR w A h) (bA:HuBd A h) :
  Calls Tryz.prog 3 #[.agg #[.int .i64 c.ip,.int .i64 c.b,.int .i64 c.gt,.string c.gm,.string c.wm,.int .i64 c.rs,.slice C.x c.ps.length C.xc,.slice C.y c.ros.length C.yc],.agg #[.slice A.u h.us.length A.uc,.slice A.s h.ss.length A.sc,.slice A.f h.fs.length A.fc,.slice A.r h.es.length A.rc,.int .i64 h.nx],.string nm,.string wd,.string mc,.int .i64 ip,.int .i64 now] w fun e w'=>e=.returned (.bool true)∧Below w.heap.size w w' :=
 lawLogin_of C c A h nm wd mc ip now (lgT c h nm wd mc ip now).g (lgT c h nm wd mc ip now).id (lgT c h nm wd mc ip now).k w rC bC rA bA (lgT_ok rA.ok) (fun _ sh _ _ _=>lgT_ln sh.ln)
  (fun sc sh _ _ l3 C' L A' B0 B1 wx hb oC oA=>specLogin_any C' c A' h nm wd mc ip now wx (oC.rw rC.ok) (oA.rw rA.ok) (oA.srcs rA.ok sh.hl) sc sh l3)
  (fun sc sh l1 l2 l3 C' L A' B0 B1 wx hb oC oA=>implLogin_any C' c A' h nm wd mc ip now wx (oC.rw rC.ok) (oA.rw rA.ok) (oA.srcs rA.ok sh.hl) sc sh (hT.1.below hb) (hT.2.below hb) l1 l2 l3)
open Go.RowKit
theorem gHB : Tryz.prog.globalNamed "loop.example/g00356/impl.hashBegin" = some 0 := by kernel_rfl
theorem tHB:(Tryz.prog.globals[0]?).map (·.type)=some 198:=by kernel_rfl
theorem gKW : Tryz.prog.globalNamed "loop.example/g00356/impl.roundWords" = some 2 := by kernel_rfl
theorem tKW:(Tryz.prog.globals[2]?).map (·.type)=some 215:=by kernel_rfl
theorem cWd:Tryz.prog.cellsOf 184=1:=by kernel_rfl
theorem cHB:Tryz.prog.cellsOf 198=8:=by kernel_rfl
theorem cKW:Tryz.prog.cellsOf 215=64:=by kernel_rfl
theorem hb_is:(Rows.laid_loop_example_g00356_impl_hashBegin:DataW Unit)=Lib.tabData .u32 hbs:=by kernel_rfl
theorem kw_is:(Rows.laid_loop_example_g00356_impl_roundWords:DataW Unit)=Lib.tabData .u32 kks:=by kernel_rfl
theorem tab_at (L:List Int) (n i:Nat) (hL:L.length=n) (hi:i<n):(L.map fun z=>Value.int .u32 z)[i]?=some (.int .u32 (L.getD i 0)):=by
 rw [List.getElem?_map,List.getElem?_eq_getElem (by omega),List.getD_eq_getElem?_getD,List.getElem?_eq_getElem (by omega)]
 rfl
theorem hash_of_laid {W : World} (h : laidMetH Tryz.prog [("loop.example/g00356/impl.hashBegin", Rows.laid_loop_example_g00356_impl_hashBegin), ("loop.example/g00356/impl.roundWords", Rows.laid_loop_example_g00356_impl_roundWords)] W) : KTab W ∧ HTab W := by
 rw [MakeChecks.laidMetH_plain _ _ _ (by kernel_rfl)] at h
 obtain ⟨ps,⟨g0,t0,cs0,f0,p0,q0,hg0,ht0,hv0,hd0,⟨g1,t1,cs1,f1,p1,q1,hg1,ht1,hv1,hd1,_⟩,_⟩,_⟩:=h
 obtain rfl:=Option.some.inj (gHB.symm.trans hg0)
 obtain rfl:=Option.some.inj (tHB.symm.trans ht0)
 obtain rfl:=Option.some.inj (gKW.symm.trans hg1)
 obtain rfl:=Option.some.inj (tKW.symm.trans ht1)
 rw [hb_is] at hd0
 rw [kw_is] at hd1
 have e0:=Lib.cells_of_tab Tryz.underlying198 Tryz.underlying184 cWd cHB hd0
 have e1:=Lib.cells_of_tab Tryz.underlying215 Tryz.underlying184 cWd cKW hd1
 refine ⟨fun i hi=>?_,fun i hi=>?_⟩
 ·rw [World.var?_cell hg1 hv1 i,← Array.getElem?_toList,e1]
  exact tab_at kks 64 i rfl hi
 ·rw [World.var?_cell hg0 hv0 i,← Array.getElem?_toList,e0]
  exact tab_at hbs 8 i rfl hi
end Go.Proofs.YtojcakkkakmniaaGreatDoor
