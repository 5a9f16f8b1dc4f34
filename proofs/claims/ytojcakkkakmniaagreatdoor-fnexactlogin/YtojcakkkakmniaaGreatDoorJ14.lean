/- The walk of laws.FnExactLogin, over what both sides answer. -/
import Derived.Test.YtojcakkkakmniaaGreatDoorJ13
namespace Go.Proofs.YtojcakkkakmniaaGreatDoor
open Go.RowKit Go.PlainAid Go.Proofs.YtojcakkkakmniaaGreatDoor.Bt Go.Sort
set_option linter.unusedVariables false
set_option maxRecDepth 20000
abbrev lawLoginCt (f:FuncId) (c:CfV) (h:HuV) (nm:ByteArray) (wd:ByteArray) (mc:ByteArray) (ip:Int) (now:Int) (G:HuV) (d k:Int) (w:World):Prop:=∀ (C':CfA) (L0:List RoX) (A':HuA) (B0 B1:Nat) (wx:World),Below w.heap.size w wx→OwnCf wx B0 C' c L0→OwnHu wx B1 A' h→Calls Tryz.prog f #[.agg #[.int .i64 c.ip,.int .i64 c.b,.int .i64 c.gt,.string c.gm,.string c.wm,.int .i64 c.rs,.slice C'.x c.ps.length C'.xc,.slice C'.y c.ros.length C'.yc],.agg #[.slice A'.u h.us.length A'.uc,.slice A'.s h.ss.length A'.sc,.slice A'.f h.fs.length A'.fc,.slice A'.r h.es.length A'.rc,.int .i64 h.nx],.string nm,.string wd,.string mc,.int .i64 ip,.int .i64 now] wx fun e w'=>∃ (R:HuA),e=.returned (.tuple #[.agg #[.slice R.u G.us.length R.uc,.slice R.s G.ss.length R.sc,.slice R.f G.fs.length R.fc,.slice R.r G.es.length R.rc,.int .i64 G.nx],.int .i64 d,.int .i64 k])∧OwnHu w' wx.heap.size R G∧Below wx.heap.size wx w'
theorem leafHV {G:HuV} {d0 k:Int} {w:World} {B:Nat} {a b c d:Value} (f:(Knd.three (kHu G) (Knd.val (.int .i64 d0)) (Knd.val (.int .i64 k))).own w B a) (g:b=a∧∃ R,b=.tuple #[.agg (huC R G).toArray,.int .i64 d0,.int .i64 k]) (e:∃ R,c=.agg (huC R G).toArray∧b=.tuple #[c,.int .i64 d0,.int .i64 k]) (p:∃ cs:List Value,c=.agg cs.toArray∧Rlw.boxF cs d w) :
  ∃ R n,d=.pointer (some ⟨n,0,none⟩)∧OwnHu w B R G∧Bx w n (huC R G)∧(∀ x,huB R G x→(Knd.three (kHu G) (Knd.val (.int .i64 d0)) (Knd.val (.int .i64 k))).bk w a x):=by
 obtain ⟨a1,a2,a3,ha,⟨R,hR,ho⟩,h2,h3⟩:=f
 obtain ⟨R',hc,hb⟩:=e
 obtain ⟨cs,hcs,n,hn,hx⟩:=p
 have e1:=ha.symm.trans (g.1.symm.trans hb)
 injection e1 with e1
 injection e1 with e1
 injection e1 with e1
 have e2:huC R G=cs:=agg_inj (hR.symm.trans (e1.trans hcs))
 subst e2
 refine ⟨R,n,hn,ho,hx,fun x hx=>⟨a1,a2,a3,ha,.inl ⟨R,hR,hx⟩⟩⟩
set_option maxHeartbeats 8000000 in
theorem lawLogin_of (C:CfA) (c:CfV) (A:HuA) (h:HuV) (nm:ByteArray) (wd:ByteArray) (mc:ByteArray) (ip:Int) (now:Int) (G:HuV) (d k:Int) (w:World) (rC:CfR w C c) (bC:CfBd C c) (rA:HuR w A h) (bA:HuBd A h) (hG:HuOk G) (lG:CfSz c→HuSz h→nm.size≤1048576→wd.size≤1048576→mc.size≤1048576→HuLn G)
  (hS:CfSz c→HuSz h→nm.size≤1048576→wd.size≤1048576→mc.size≤1048576→lawLoginCt 6 c h nm wd mc ip now G d k w)
  (hI:CfSz c→HuSz h→nm.size≤1048576→wd.size≤1048576→mc.size≤1048576→lawLoginCt 9 c h nm wd mc ip now G d k w) :
  Calls Tryz.prog 3 #[.agg #[.int .i64 c.ip,.int .i64 c.b,.int .i64 c.gt,.string c.gm,.string c.wm,.int .i64 c.rs,.slice C.x c.ps.length C.xc,.slice C.y c.ros.length C.yc],.agg #[.slice A.u h.us.length A.uc,.slice A.s h.ss.length A.sc,.slice A.f h.fs.length A.fc,.slice A.r h.es.length A.rc,.int .i64 h.nx],.string nm,.string wd,.string mc,.int .i64 ip,.int .i64 now] w fun e w'=>e=.returned (.bool true)∧Below w.heap.size w w':=by
 have RC:Hid (CfR w C c):=rC
 have HKC:Hid (CfOk c):=rC.ok
 have HZC:Hid (∀ w,CfR w C c→Calls Tryz.prog 4 #[.agg #[.int .i64 c.ip,.int .i64 c.b,.int .i64 c.gt,.string c.gm,.string c.wm,.int .i64 c.rs,.slice C.x c.ps.length C.xc,.slice C.y c.ros.length C.yc],.int .i64 1048576] w fun e w'=>∃ r:Int,e=.returned (.int .i64 r)∧(0≤r→CfSz c)∧(r≤1048576)∧Below w.heap.size w w'):=fun w hh=>cf_sz C c w hh bC
 have RA:Hid (HuR w A h):=rA
 have HKH:Hid (HuOk h):=rA.ok
 have HZA:Hid (∀ (l:Int) w,HuR w A h→0≤l→l≤1048576→Calls Tryz.prog 5 #[.agg #[.slice A.u h.us.length A.uc,.slice A.s h.ss.length A.sc,.slice A.f h.fs.length A.fc,.slice A.r h.es.length A.rc,.int .i64 h.nx],.int .i64 l] w fun e w'=>∃ r:Int,e=.returned (.int .i64 r)∧(0≤r→HuSz h)∧(r≤1048576)∧Below w.heap.size w w'):=fun l w hh=>hu_sz A h l w hh bA
 have HS0:Hid (CfSz c→HuSz h→nm.size≤1048576→wd.size≤1048576→mc.size≤1048576→lawLoginCt 6 c h nm wd mc ip now G d k w):=hS
 have HI0:Hid (CfSz c→HuSz h→nm.size≤1048576→wd.size≤1048576→mc.size≤1048576→lawLoginCt 9 c h nm wd mc ip now G d k w):=hI
 have LG0:Hid (CfSz c→HuSz h→nm.size≤1048576→wd.size≤1048576→mc.size≤1048576→HuLn G):=lG
 have OKG:Hid (HuOk G):=hG
 clear rC bC rA bA hS hI lG hG
 have P0C:Hid (Bx ((w.alloc (.cells #[.int .i64 c.ip,.int .i64 c.b,.int .i64 c.gt,.string c.gm,.string c.wm,.int .i64 c.rs,.slice C.x c.ps.length C.xc,.slice C.y c.ros.length C.yc] 27)).alloc (.cells #[.slice A.u h.us.length A.uc,.slice A.s h.ss.length A.sc,.slice A.f h.fs.length A.fc,.slice A.r h.es.length A.rc,.int .i64 h.nx] 33)) (w.heap.size) [.int .i64 c.ip,.int .i64 c.b,.int .i64 c.gt,.string c.gm,.string c.wm,.int .i64 c.rs,.slice C.x c.ps.length C.xc,.slice C.y c.ros.length C.yc]):=by
  have h:=Bx.new w #[.int .i64 c.ip,.int .i64 c.b,.int .i64 c.gt,.string c.gm,.string c.wm,.int .i64 c.rs,.slice C.x c.ps.length C.xc,.slice C.y c.ros.length C.yc] 27
  exact h.below ((Below.refl _ _).alloc (Nat.le_refl _) _)
 have P0A:Hid (Bx ((w.alloc (.cells #[.int .i64 c.ip,.int .i64 c.b,.int .i64 c.gt,.string c.gm,.string c.wm,.int .i64 c.rs,.slice C.x c.ps.length C.xc,.slice C.y c.ros.length C.yc] 27)).alloc (.cells #[.slice A.u h.us.length A.uc,.slice A.s h.ss.length A.sc,.slice A.f h.fs.length A.fc,.slice A.r h.es.length A.rc,.int .i64 h.nx] 33)) (w.heap.size+1) [.slice A.u h.us.length A.uc,.slice A.s h.ss.length A.sc,.slice A.f h.fs.length A.fc,.slice A.r h.es.length A.rc,.int .i64 h.nx]):=by
  have h:=Bx.new (w.alloc (.cells #[.int .i64 c.ip,.int .i64 c.b,.int .i64 c.gt,.string c.gm,.string c.wm,.int .i64 c.rs,.slice C.x c.ps.length C.xc,.slice C.y c.ros.length C.yc] 27)) #[.slice A.u h.us.length A.uc,.slice A.s h.ss.length A.sc,.slice A.f h.fs.length A.fc,.slice A.r h.es.length A.rc,.int .i64 h.nx] 33
  rw [World.size_alloc] at h
  exact h
 have X0:Hid (Below w.heap.size w ((w.alloc (.cells #[.int .i64 c.ip,.int .i64 c.b,.int .i64 c.gt,.string c.gm,.string c.wm,.int .i64 c.rs,.slice C.x c.ps.length C.xc,.slice C.y c.ros.length C.yc] 27)).alloc (.cells #[.slice A.u h.us.length A.uc,.slice A.s h.ss.length A.sc,.slice A.f h.fs.length A.fc,.slice A.r h.es.length A.rc,.int .i64 h.nx] 33))):=(((Below.refl _ _).alloc (Nat.le_refl _) _).alloc (by simp) _)
 by_cases hlmnm:1048576<nm.size
 ·have hlz:decide ((1048576:Int)<(nm.size:Int))=true:=decide_eq_true (by omega)
  go_enter Tryz.func3,Tryz.ntmps3
  go_wp2
  go_ret
  exact ⟨rfl,X0.out⟩
 have hlznm:decide ((1048576:Int)<(nm.size:Int))=false:=decide_eq_false (by omega)
 by_cases hlmwd:1048576<wd.size
 ·have hlz:decide ((1048576:Int)<(wd.size:Int))=true:=decide_eq_true (by omega)
  go_enter Tryz.func3,Tryz.ntmps3
  go_wp2
  go_ret
  exact ⟨rfl,X0.out⟩
 have hlzwd:decide ((1048576:Int)<(wd.size:Int))=false:=decide_eq_false (by omega)
 by_cases hlmmc:1048576<mc.size
 ·have hlz:decide ((1048576:Int)<(mc.size:Int))=true:=decide_eq_true (by omega)
  go_enter Tryz.func3,Tryz.ntmps3
  go_wp2
  go_ret
  exact ⟨rfl,X0.out⟩
 have hlzmc:decide ((1048576:Int)<(mc.size:Int))=false:=decide_eq_false (by omega)
 go_enter Tryz.func3,Tryz.ntmps3
 go_wp2_with (first | (refine wpl_getT 27 rfl _ rfl (w.heap.size) rfl (P0C.out) _ Tryz.underlying27 rfl rfl ?_) | (refine wpl_getT 33 rfl _ rfl (w.heap.size+1) rfl (P0A.out) _ Tryz.underlying33 rfl rfl ?_) | fail)
 refine (HZC.out _ (RC.out.below X0.out)).mono ?_
 rintro e w1 ⟨r1,rfl,hr1,hm1,bx⟩
 have P1C:Hid _:=P0C.out.below bx
 have P1A:Hid _:=P0A.out.below bx
 have X1:Hid (Below w.heap.size w w1):=X0.out.trans (bx.mono X0.out.size)
 clear bx P0C P0A X0 HZC
 by_cases hn1:r1<0
 ·go_wp2
  go_ret
  exact ⟨rfl,X1.out⟩
 have SC:Hid (CfSz c):=hr1 (by omega)
 clear hr1
 go_wp2_with (first | (refine wpl_getT 27 rfl _ rfl (w.heap.size) rfl (P1C.out) _ Tryz.underlying27 rfl rfl ?_) | (refine wpl_getT 33 rfl _ rfl (w.heap.size+1) rfl (P1A.out) _ Tryz.underlying33 rfl rfl ?_) | fail)
 refine (HZA.out _ _ (RA.out.below X1.out) (by omega) (by omega)).mono ?_
 rintro e w2 ⟨r2,rfl,hr2,hm2,bx⟩
 have P2C:Hid _:=P1C.out.below bx
 have P2A:Hid _:=P1A.out.below bx
 have X2:Hid (Below w.heap.size w w2):=X1.out.trans (bx.mono X1.out.size)
 clear bx P1C P1A X1 HZA
 by_cases hn2:r2<0
 ·go_wp2
  go_ret
  exact ⟨rfl,X2.out⟩
 have SH:Hid (HuSz h):=hr2 (by omega)
 clear hr2
 have HS:Hid (lawLoginCt 6 c h nm wd mc ip now G d k w):=HS0.out SC.out SH.out (by omega) (by omega) (by omega)
 have HI:Hid (lawLoginCt 9 c h nm wd mc ip now G d k w):=HI0.out SC.out SH.out (by omega) (by omega) (by omega)
 have LG:Hid (HuLn G):=LG0.out SC.out SH.out (by omega) (by omega) (by omega)
 have HTC:Hid (∀ w,CfR w C c→Calls Tryz.prog 7 #[.agg #[.int .i64 c.ip,.int .i64 c.b,.int .i64 c.gt,.string c.gm,.string c.wm,.int .i64 c.rs,.slice C.x c.ps.length C.xc,.slice C.y c.ros.length C.yc]] w fun e w'=>∃ (C':CfA) (L:List RoX),e=.returned (.agg #[.int .i64 c.ip,.int .i64 c.b,.int .i64 c.gt,.string c.gm,.string c.wm,.int .i64 c.rs,.slice C'.x c.ps.length C'.xc,.slice C'.y c.ros.length C'.yc])∧OwnCf w' w.heap.size C' c L∧Below w.heap.size w w'):=fun w hh=>cf_to C c w hh SC.out
 have HTA:Hid (∀ w,HuR w A h→Calls Tryz.prog 8 #[.agg #[.slice A.u h.us.length A.uc,.slice A.s h.ss.length A.sc,.slice A.f h.fs.length A.fc,.slice A.r h.es.length A.rc,.int .i64 h.nx]] w fun e w'=>∃ (A':HuA),e=.returned (.agg #[.slice A'.u h.us.length A'.uc,.slice A'.s h.ss.length A'.sc,.slice A'.f h.fs.length A'.fc,.slice A'.r h.es.length A'.rc,.int .i64 h.nx])∧OwnHu w' w.heap.size A' h∧Below w.heap.size w w'):=fun w hh=>hu_to A h w hh SH.out.ln
 clear HS0 HI0 LG0
 go_wp2_with fail
 refine Rlw.wp_region_rel (w:=w2) [Rlw.valR 0 [] (.agg #[.int .i64 c.ip,.int .i64 c.b,.int .i64 c.gt,.string c.gm,.string c.wm,.int .i64 c.rs,.slice C.x c.ps.length C.xc,.slice C.y c.ros.length C.yc]),Rlw.kndR 1 [0] (kCf c) w2.heap.size,Rlw.valR 2 [] (.agg #[.slice A.u h.us.length A.uc,.slice A.s h.ss.length A.sc,.slice A.f h.fs.length A.fc,.slice A.r h.es.length A.rc,.int .i64 h.nx]),Rlw.kndR 3 [2] (kHu h) w2.heap.size,Rlw.valR 4 [] (.string nm),Rlw.valR 5 [] (.string wd),Rlw.valR 6 [] (.string mc),Rlw.valR 7 [] (.int .i64 ip),Rlw.valR 8 [] (.int .i64 now),Rlw.kndR 9 [1,3,4,5,6,7,8] (Knd.three (kHu G) (Knd.val (.int .i64 d)) (Knd.val (.int .i64 k))) w2.heap.size,Rlw.twoR 10 9 [9] (fun x y=>x=y∧∃ R,x=.tuple #[.agg (huC R G).toArray,.int .i64 d,.int .i64 k]),Rlw.twoR 11 10 [10] (fun x y=>∃ R,x=.agg (huC R G).toArray∧y=.tuple #[x,.int .i64 d,.int .i64 k]),Rlw.valR 12 [10] (.int .i64 d),Rlw.valR 13 [10] (.int .i64 k),Rlw.boxR 14 [] [.slice none 0 0,.slice none 0 0,.slice none 0 0,.slice none 0 0,.int .i64 0],Rlw.putV 14 11 [11],Rlw.valR 16 [12] (.int .i64 d),Rlw.valR 17 [13] (.int .i64 k)] [] [0,1,2,3,4,5,6,7,8,9,10,11,12,13,15,16,17] (fun b=>b<w2.heap.size) (by kernel_rfl) (by kernel_rfl) (by kernel_rfl) ?_ (fun b h=>h) (fun k r hk=>by cases hk) (fun j k rj rk hj=>by cases hj) ?_ ?_
 ·exact Rlw.ov (Rlw.oc (Rlw.kndR_ok _ _ _ _) (Rlw.ov (Rlw.oc (Rlw.kndR_ok _ _ _ _) (Rlw.ov (Rlw.ov (Rlw.ov (Rlw.ov (Rlw.ov (Rlw.oc (Rlw.kndR_ok _ _ _ _) (Rlw.oc (Rlw.twoR_ok _ _ _ _) (Rlw.oc (Rlw.twoR_ok _ _ _ _) (Rlw.ov (Rlw.ov (Rlw.oc (Rlw.boxR_ok _ _ _) (Rlw.oc (Rlw.putV_ok _ _ _) (Rlw.ov (Rlw.ov (List.forall_mem_nil _))))))))))))))))))
 ·refine Rlw.wk rfl ?_ ?_
  ·intro σ wx hK hF post hp
   have hq:=P2C.out.below (Rlw.keep_below hK)
   refine Rlw.yld_get 27 _ rfl (q:=w.heap.size) (by go_simp) hq _ Tryz.underlying27 rfl rfl ?_
   exact hp _ _ Rlw.left_val
  refine Rlw.wk rfl ?_ ?_
  ·intro σ wx hK hF post hp
   have f0:=Rlw.fv hF 0 rfl rfl
   have hb:=Rlw.keep_below hK
   go_simp
   refine Rlw.yld_call ?_
   refine (HTC.out _ (RC.out.below (X2.out.trans (hb.mono X2.out.size)))).mono ?_
   rintro e w9 ⟨A9,L9,rfl,ho,b9⟩
   exact ⟨_,rfl,hp _ _ (Rlw.left_knd ⟨A9,L9,rfl,ho⟩ hK.size b9)⟩
  refine Rlw.wk rfl ?_ ?_
  ·intro σ wx hK hF post hp
   have hq:=P2A.out.below (Rlw.keep_below hK)
   refine Rlw.yld_get 33 _ rfl (q:=w.heap.size+1) (by go_simp) hq _ Tryz.underlying33 rfl rfl ?_
   exact hp _ _ Rlw.left_val
  refine Rlw.wk rfl ?_ ?_
  ·intro σ wx hK hF post hp
   have f2:=Rlw.fv hF 2 rfl rfl
   have hb:=Rlw.keep_below hK
   go_simp
   refine Rlw.yld_call ?_
   refine (HTA.out _ (RA.out.below (X2.out.trans (hb.mono X2.out.size)))).mono ?_
   rintro e w9 ⟨A9,rfl,ho,b9⟩
   exact ⟨_,rfl,hp _ _ (Rlw.left_knd ⟨A9,rfl,ho⟩ hK.size b9)⟩
  refine Rlw.wk rfl ?_ ?_
  ·intro σ wx hK hF post hp
   go_simp
   exact Rlw.yv hp
  refine Rlw.wk rfl ?_ ?_
  ·intro σ wx hK hF post hp
   go_simp
   exact Rlw.yv hp
  refine Rlw.wk rfl ?_ ?_
  ·intro σ wx hK hF post hp
   go_simp
   exact Rlw.yv hp
  refine Rlw.wk rfl ?_ ?_
  ·intro σ wx hK hF post hp
   go_simp
   exact Rlw.yv hp
  refine Rlw.wk rfl ?_ ?_
  ·intro σ wx hK hF post hp
   go_simp
   exact Rlw.yv hp
  refine Rlw.wk rfl ?_ ?_
  ·intro σ wx hK hF post hp
   have f1:(kCf c).own wx w2.heap.size (σ 1):=Rlw.fact_of hF (j:=1) rfl rfl
   have f3:(kHu h).own wx w2.heap.size (σ 3):=Rlw.fact_of hF (j:=3) rfl rfl
   have f4:=Rlw.fv hF 4 rfl rfl
   have f5:=Rlw.fv hF 5 rfl rfl
   have f6:=Rlw.fv hF 6 rfl rfl
   have f7:=Rlw.fv hF 7 rfl rfl
   have f8:=Rlw.fv hF 8 rfl rfl
   obtain ⟨A0,L0,e0,o0⟩:=f1
   have d0:σ 1=.agg #[.int .i64 c.ip,.int .i64 c.b,.int .i64 c.gt,.string c.gm,.string c.wm,.int .i64 c.rs,.slice A0.x c.ps.length A0.xc,.slice A0.y c.ros.length A0.yc]:=e0
   clear e0
   obtain ⟨A1,e1,o1⟩:=f3
   have d1:σ 3=.agg #[.slice A1.u h.us.length A1.uc,.slice A1.s h.ss.length A1.sc,.slice A1.f h.fs.length A1.fc,.slice A1.r h.es.length A1.rc,.int .i64 h.nx]:=e1
   clear e1
   have hb:=Rlw.keep_below hK
   go_simp
   refine Rlw.yld_call ?_
   refine (HS.out A0 L0 A1 _ _ _ (X2.out.trans (hb.mono X2.out.size)) o0 o1).mono ?_
   rintro e w9 ⟨R9,rfl,ho,b9⟩
   exact ⟨_,rfl,hp _ _ (Rlw.left_knd ⟨_,_,_,rfl,⟨R9,rfl,ho⟩,rfl,rfl⟩ hK.size b9)⟩
  refine Rlw.wk rfl ?_ ?_
  ·intro σ wx hK hF post hp
   have f9:(Knd.three (kHu G) (Knd.val (.int .i64 d)) (Knd.val (.int .i64 k))).own wx w2.heap.size (σ 9):=Rlw.fact_of hF (j:=9) rfl rfl
   obtain ⟨y1,y2,y3,hy,⟨R9,rfl,-⟩,rfl,rfl⟩:=f9
   go_simp
   refine Rlw.yld_val ?_
   refine hp _ _ (Rlw.left_below ?_ (fun b h=>h.elim) (Below.refl _ _))
   exact ⟨by simp [Rlw.upd,hy],R9,by simp [Rlw.upd]⟩
  refine Rlw.wk rfl ?_ ?_
  ·intro σ wx hK hF post hp
   have f10:σ 10=σ 9∧∃ R,σ 10=.tuple #[.agg (huC R G).toArray,.int .i64 d,.int .i64 k]:=Rlw.fact_of hF (j:=10) rfl rfl
   obtain ⟨-,R9,h9⟩:=f10
   go_simp
   refine Rlw.yld_val ?_
   refine hp _ _ (Rlw.left_below ?_ (fun b h=>h.elim) (Below.refl _ _))
   exact ⟨R9,by simp [Rlw.upd],by simp [Rlw.upd,h9]⟩
  refine Rlw.wk rfl ?_ ?_
  ·intro σ wx hK hF post hp
   have f10:σ 10=σ 9∧∃ R,σ 10=.tuple #[.agg (huC R G).toArray,.int .i64 d,.int .i64 k]:=Rlw.fact_of hF (j:=10) rfl rfl
   obtain ⟨-,R9,h9⟩:=f10
   go_simp
   exact Rlw.yv hp
  refine Rlw.wk rfl ?_ ?_
  ·intro σ wx hK hF post hp
   have f10:σ 10=σ 9∧∃ R,σ 10=.tuple #[.agg (huC R G).toArray,.int .i64 d,.int .i64 k]:=Rlw.fact_of hF (j:=10) rfl rfl
   obtain ⟨-,R9,h9⟩:=f10
   go_simp
   exact Rlw.yv hp
  refine Rlw.wk rfl ?_ ?_
  ·intro σ wx hK hF post hp
   go_simp
   refine Rlw.yld_val ?_
   exact hp _ _ (Rlw.left_box #[.slice none 0 0,.slice none 0 0,.slice none 0 0,.slice none 0 0,.int .i64 0] _)
  refine Rlw.wk rfl ?_ ?_
  ·intro σ wx hK hF post hp
   have f14:Rlw.boxF [.slice none 0 0,.slice none 0 0,.slice none 0 0,.slice none 0 0,.int .i64 0] (σ 14) wx:=Rlw.fact_of hF (j:=14) rfl rfl
   have f11:∃ R,σ 11=.agg (huC R G).toArray∧σ 10=.tuple #[σ 11,.int .i64 d,.int .i64 k]:=Rlw.fact_of hF (j:=11) rfl rfl
   obtain ⟨q9,hq9,hb9⟩:=f14
   obtain ⟨R9,h9,-⟩:=f11
   refine Rlw.yld_put 41 _ _ rfl (q:=q9) (cells:=(huC R9 G).toArray) (by go_simp;try exact hq9) (by go_simp;try exact h9) hb9 rfl (by rfl) rfl ?_
   exact hp _ _ (Rlw.left_putV (t:=11) rfl (by decide) (by decide) hq9 h9 hb9 rfl)
  refine Rlw.wk rfl ?_ ?_
  ·intro σ wx hK hF post hp
   have f12:=Rlw.fv hF 12 rfl rfl
   go_simp
   exact Rlw.yv hp
  refine Rlw.wk rfl ?_ ?_
  ·intro σ wx hK hF post hp
   have f13:=Rlw.fv hF 13 rfl rfl
   go_simp
   exact Rlw.yv hp
  exact Rlw.walk_nil
 ·intro σ w3 hK hF hA
  have Bw3:Below w2.heap.size w2 w3:=Rlw.keep_below hK
  have f9:(Knd.three (kHu G) (Knd.val (.int .i64 d)) (Knd.val (.int .i64 k))).own w3 w2.heap.size (σ 9):=Rlw.fact_of hF (j:=9) rfl rfl
  have f10:σ 10=σ 9∧∃ R,σ 10=.tuple #[.agg (huC R G).toArray,.int .i64 d,.int .i64 k]:=Rlw.fact_of hF (j:=10) rfl rfl
  have f11:∃ R,σ 11=.agg (huC R G).toArray∧σ 10=.tuple #[σ 11,.int .i64 d,.int .i64 k]:=Rlw.fact_of hF (j:=11) rfl rfl
  have f15:∃ cs:List Value,σ 11=.agg cs.toArray∧Rlw.boxF cs (σ 14) w3:=Rlw.fact_of hF (j:=15) rfl rfl
  have f16:σ 16=.int .i64 d:=Rlw.fact_of hF (j:=16) rfl rfl
  have f17:σ 17=.int .i64 k:=Rlw.fact_of hF (j:=17) rfl rfl
  obtain ⟨Rw3,nw3,hn9,Ow3,Nw3,hbk⟩:=leafHV f9 f10 f11 f15
  have hlo:=(Rlw.owns_of hF (j:=15) rfl rfl nw3 hn9).2
  have hlt:=(Rlw.owns_of hF (j:=15) rfl rfl nw3 hn9).1
  have hap:¬ huB Rw3 G nw3:=fun hx=>hA 9 15 _ _ (by decide) (by decide) (by decide) rfl rfl nw3 (hbk _ hx) hn9
  replace Nw3:Bx w3 nw3 [.slice Rw3.u G.us.length Rw3.uc,.slice Rw3.s G.ss.length Rw3.sc,.slice Rw3.f G.fs.length Rw3.fc,.slice Rw3.r G.es.length Rw3.rc,.int .i64 G.nx]:=Nw3
  simp only [Rlw.putAll,Nat.zero_add,Nat.reduceAdd,hn9,f16,f17]
  clear f9 f10 f11 f15 f16 f17 hF hA hK hbk hn9
  go_simp
  have PC3:Hid (Bx w3 (w.heap.size) [.int .i64 c.ip,.int .i64 c.b,.int .i64 c.gt,.string c.gm,.string c.wm,.int .i64 c.rs,.slice C.x c.ps.length C.xc,.slice C.y c.ros.length C.yc]):=P2C.out.below Bw3
  have PA3:Hid (Bx w3 (w.heap.size+1) [.slice A.u h.us.length A.uc,.slice A.s h.ss.length A.sc,.slice A.f h.fs.length A.fc,.slice A.r h.es.length A.rc,.int .i64 h.nx]):=P2A.out.below Bw3
  have N33:Hid (Bx w3 (nw3) [.slice Rw3.u G.us.length Rw3.uc,.slice Rw3.s G.ss.length Rw3.sc,.slice Rw3.f G.fs.length Rw3.fc,.slice Rw3.r G.es.length Rw3.rc,.int .i64 G.nx]):=Nw3
  have O33:Hid (OwnHu w3 w2.heap.size Rw3 G):=Ow3
  have X3:Hid (Below w.heap.size w w3):=X2.out.trans (Bw3.mono X2.out.size)
  have I3:Hid (nw3<w3.heap.size∧(∀ x,huB Rw3 G x→x<w3.heap.size∧x ≠ nw3)):=⟨hlt,fun x hx=>⟨(Ow3.lt x hx).2,fun h=>hap (h ▸ hx)⟩⟩
  have J3:Hid (w.heap.size+1<w3.heap.size):=World.block_lt_of_cell? w3 ⟨w.heap.size+1,0,none⟩ (PA3.out.cell 0 rfl)
  clear P2C P2A X2 hlo hlt hap Nw3 Ow3 Bw3
  go_wp2_with (first | (refine wpl_getT 27 rfl _ rfl (w.heap.size) rfl (PC3.out) _ Tryz.underlying27 rfl rfl ?_) | (refine wpl_getT 33 rfl _ rfl (w.heap.size+1) rfl (PA3.out) _ Tryz.underlying33 rfl rfl ?_) | (refine wpl_getT 41 rfl _ rfl (nw3) rfl (N33.out) _ Tryz.underlying41 rfl rfl ?_) | fail)
  refine (HTC.out _ (RC.out.below X3.out)).mono ?_
  rintro e w4 ⟨C4,L4,rfl,o9,bx⟩
  have I4:Hid (w3.heap.size≤w4.heap.size∧(∀ x,cfB C4 c L4 x→w3.heap.size≤x∧x<w4.heap.size)):=by
   have h1:=bx.size
   have h2:=o9.lt
   rw [show w3.heap.size=w3.heap.size by simp] at h1 h2
   exact ⟨h1,h2⟩
  have bz:Below w3.heap.size w3 (w4.alloc (.cells #[.int .i64 c.ip,.int .i64 c.b,.int .i64 c.gt,.string c.gm,.string c.wm,.int .i64 c.rs,.slice C4.x c.ps.length C4.xc,.slice C4.y c.ros.length C4.yc] 48)):=bx.alloc bx.size _
  have PC4:Hid (Bx (w4.alloc (.cells #[.int .i64 c.ip,.int .i64 c.b,.int .i64 c.gt,.string c.gm,.string c.wm,.int .i64 c.rs,.slice C4.x c.ps.length C4.xc,.slice C4.y c.ros.length C4.yc] 48)) (w.heap.size) [.int .i64 c.ip,.int .i64 c.b,.int .i64 c.gt,.string c.gm,.string c.wm,.int .i64 c.rs,.slice C.x c.ps.length C.xc,.slice C.y c.ros.length C.yc]):=PC3.out.below bz
  have PA4:Hid (Bx (w4.alloc (.cells #[.int .i64 c.ip,.int .i64 c.b,.int .i64 c.gt,.string c.gm,.string c.wm,.int .i64 c.rs,.slice C4.x c.ps.length C4.xc,.slice C4.y c.ros.length C4.yc] 48)) (w.heap.size+1) [.slice A.u h.us.length A.uc,.slice A.s h.ss.length A.sc,.slice A.f h.fs.length A.fc,.slice A.r h.es.length A.rc,.int .i64 h.nx]):=PA3.out.below bz
  have N34:Hid (Bx (w4.alloc (.cells #[.int .i64 c.ip,.int .i64 c.b,.int .i64 c.gt,.string c.gm,.string c.wm,.int .i64 c.rs,.slice C4.x c.ps.length C4.xc,.slice C4.y c.ros.length C4.yc] 48)) (nw3) [.slice Rw3.u G.us.length Rw3.uc,.slice Rw3.s G.ss.length Rw3.sc,.slice Rw3.f G.fs.length Rw3.fc,.slice Rw3.r G.es.length Rw3.rc,.int .i64 G.nx]):=N33.out.below bz
  have O34:Hid (OwnHu (w4.alloc (.cells #[.int .i64 c.ip,.int .i64 c.b,.int .i64 c.gt,.string c.gm,.string c.wm,.int .i64 c.rs,.slice C4.x c.ps.length C4.xc,.slice C4.y c.ros.length C4.yc] 48)) w2.heap.size Rw3 G):=O33.out.now bz
  have X4:Hid (Below w.heap.size w (w4.alloc (.cells #[.int .i64 c.ip,.int .i64 c.b,.int .i64 c.gt,.string c.gm,.string c.wm,.int .i64 c.rs,.slice C4.x c.ps.length C4.xc,.slice C4.y c.ros.length C4.yc] 48))):=X3.out.trans ((bz).mono X3.out.size)
  clear PC3 PA3 N33 O33 X3
  have M44:Hid (Bx (w4.alloc (.cells #[.int .i64 c.ip,.int .i64 c.b,.int .i64 c.gt,.string c.gm,.string c.wm,.int .i64 c.rs,.slice C4.x c.ps.length C4.xc,.slice C4.y c.ros.length C4.yc] 48)) (w4.heap.size) [.int .i64 c.ip,.int .i64 c.b,.int .i64 c.gt,.string c.gm,.string c.wm,.int .i64 c.rs,.slice C4.x c.ps.length C4.xc,.slice C4.y c.ros.length C4.yc]):=Bx.new w4 #[.int .i64 c.ip,.int .i64 c.b,.int .i64 c.gt,.string c.gm,.string c.wm,.int .i64 c.rs,.slice C4.x c.ps.length C4.xc,.slice C4.y c.ros.length C4.yc] 48
  have Q44:Hid (OwnCf (w4.alloc (.cells #[.int .i64 c.ip,.int .i64 c.b,.int .i64 c.gt,.string c.gm,.string c.wm,.int .i64 c.rs,.slice C4.x c.ps.length C4.xc,.slice C4.y c.ros.length C4.yc] 48)) w3.heap.size C4 c L4):=o9.now ((Below.refl _ _).alloc (Nat.le_refl _) _)
  clear o9 bx bz
  go_wp2_with (first | (refine wpl_getT 27 rfl _ rfl (w.heap.size) rfl (PC4.out) _ Tryz.underlying27 rfl rfl ?_) | (refine wpl_getT 33 rfl _ rfl (w.heap.size+1) rfl (PA4.out) _ Tryz.underlying33 rfl rfl ?_) | (refine wpl_getT 41 rfl _ rfl (nw3) rfl (N34.out) _ Tryz.underlying41 rfl rfl ?_) | (refine wpl_getT 48 rfl _ rfl (w4.heap.size) rfl (M44.out) _ Tryz.underlying48 rfl rfl ?_) | fail)
  refine (HTA.out _ (RA.out.below X4.out)).mono ?_
  rintro e w5 ⟨A5,rfl,o9,bx⟩
  have I5:Hid (w4.heap.size+1≤w5.heap.size∧(∀ x,huB A5 h x→w4.heap.size+1≤x∧x<w5.heap.size)):=by
   have h1:=bx.size
   have h2:=o9.lt
   rw [show (w4.alloc (.cells #[.int .i64 c.ip,.int .i64 c.b,.int .i64 c.gt,.string c.gm,.string c.wm,.int .i64 c.rs,.slice C4.x c.ps.length C4.xc,.slice C4.y c.ros.length C4.yc] 48)).heap.size=w4.heap.size+1 by simp] at h1 h2
   exact ⟨h1,h2⟩
  have bz:Below (w4.alloc (.cells #[.int .i64 c.ip,.int .i64 c.b,.int .i64 c.gt,.string c.gm,.string c.wm,.int .i64 c.rs,.slice C4.x c.ps.length C4.xc,.slice C4.y c.ros.length C4.yc] 48)).heap.size (w4.alloc (.cells #[.int .i64 c.ip,.int .i64 c.b,.int .i64 c.gt,.string c.gm,.string c.wm,.int .i64 c.rs,.slice C4.x c.ps.length C4.xc,.slice C4.y c.ros.length C4.yc] 48)) (w5.alloc (.cells #[.slice A5.u h.us.length A5.uc,.slice A5.s h.ss.length A5.sc,.slice A5.f h.fs.length A5.fc,.slice A5.r h.es.length A5.rc,.int .i64 h.nx] 41)):=bx.alloc bx.size _
  have PC5:Hid (Bx (w5.alloc (.cells #[.slice A5.u h.us.length A5.uc,.slice A5.s h.ss.length A5.sc,.slice A5.f h.fs.length A5.fc,.slice A5.r h.es.length A5.rc,.int .i64 h.nx] 41)) (w.heap.size) [.int .i64 c.ip,.int .i64 c.b,.int .i64 c.gt,.string c.gm,.string c.wm,.int .i64 c.rs,.slice C.x c.ps.length C.xc,.slice C.y c.ros.length C.yc]):=PC4.out.below bz
  have PA5:Hid (Bx (w5.alloc (.cells #[.slice A5.u h.us.length A5.uc,.slice A5.s h.ss.length A5.sc,.slice A5.f h.fs.length A5.fc,.slice A5.r h.es.length A5.rc,.int .i64 h.nx] 41)) (w.heap.size+1) [.slice A.u h.us.length A.uc,.slice A.s h.ss.length A.sc,.slice A.f h.fs.length A.fc,.slice A.r h.es.length A.rc,.int .i64 h.nx]):=PA4.out.below bz
  have N35:Hid (Bx (w5.alloc (.cells #[.slice A5.u h.us.length A5.uc,.slice A5.s h.ss.length A5.sc,.slice A5.f h.fs.length A5.fc,.slice A5.r h.es.length A5.rc,.int .i64 h.nx] 41)) (nw3) [.slice Rw3.u G.us.length Rw3.uc,.slice Rw3.s G.ss.length Rw3.sc,.slice Rw3.f G.fs.length Rw3.fc,.slice Rw3.r G.es.length Rw3.rc,.int .i64 G.nx]):=N34.out.below bz
  have O35:Hid (OwnHu (w5.alloc (.cells #[.slice A5.u h.us.length A5.uc,.slice A5.s h.ss.length A5.sc,.slice A5.f h.fs.length A5.fc,.slice A5.r h.es.length A5.rc,.int .i64 h.nx] 41)) w2.heap.size Rw3 G):=O34.out.now bz
  have M45:Hid (Bx (w5.alloc (.cells #[.slice A5.u h.us.length A5.uc,.slice A5.s h.ss.length A5.sc,.slice A5.f h.fs.length A5.fc,.slice A5.r h.es.length A5.rc,.int .i64 h.nx] 41)) (w4.heap.size) [.int .i64 c.ip,.int .i64 c.b,.int .i64 c.gt,.string c.gm,.string c.wm,.int .i64 c.rs,.slice C4.x c.ps.length C4.xc,.slice C4.y c.ros.length C4.yc]):=M44.out.below bz
  have Q45:Hid (OwnCf (w5.alloc (.cells #[.slice A5.u h.us.length A5.uc,.slice A5.s h.ss.length A5.sc,.slice A5.f h.fs.length A5.fc,.slice A5.r h.es.length A5.rc,.int .i64 h.nx] 41)) w3.heap.size C4 c L4):=Q44.out.now bz
  have X5:Hid (Below w.heap.size w (w5.alloc (.cells #[.slice A5.u h.us.length A5.uc,.slice A5.s h.ss.length A5.sc,.slice A5.f h.fs.length A5.fc,.slice A5.r h.es.length A5.rc,.int .i64 h.nx] 41))):=X4.out.trans ((bz).mono X4.out.size)
  clear PC4 PA4 N34 O34 M44 Q44 X4
  have M55:Hid (Bx (w5.alloc (.cells #[.slice A5.u h.us.length A5.uc,.slice A5.s h.ss.length A5.sc,.slice A5.f h.fs.length A5.fc,.slice A5.r h.es.length A5.rc,.int .i64 h.nx] 41)) (w5.heap.size) [.slice A5.u h.us.length A5.uc,.slice A5.s h.ss.length A5.sc,.slice A5.f h.fs.length A5.fc,.slice A5.r h.es.length A5.rc,.int .i64 h.nx]):=Bx.new w5 #[.slice A5.u h.us.length A5.uc,.slice A5.s h.ss.length A5.sc,.slice A5.f h.fs.length A5.fc,.slice A5.r h.es.length A5.rc,.int .i64 h.nx] 41
  have Q55:Hid (OwnHu (w5.alloc (.cells #[.slice A5.u h.us.length A5.uc,.slice A5.s h.ss.length A5.sc,.slice A5.f h.fs.length A5.fc,.slice A5.r h.es.length A5.rc,.int .i64 h.nx] 41)) (w4.alloc (.cells #[.int .i64 c.ip,.int .i64 c.b,.int .i64 c.gt,.string c.gm,.string c.wm,.int .i64 c.rs,.slice C4.x c.ps.length C4.xc,.slice C4.y c.ros.length C4.yc] 48)).heap.size A5 h):=o9.now ((Below.refl _ _).alloc (Nat.le_refl _) _)
  clear o9 bx bz
  go_wp2_with (first | (refine wpl_getT 27 rfl _ rfl (w.heap.size) rfl (PC5.out) _ Tryz.underlying27 rfl rfl ?_) | (refine wpl_getT 33 rfl _ rfl (w.heap.size+1) rfl (PA5.out) _ Tryz.underlying33 rfl rfl ?_) | (refine wpl_getT 41 rfl _ rfl (nw3) rfl (N35.out) _ Tryz.underlying41 rfl rfl ?_) | (refine wpl_getT 48 rfl _ rfl (w4.heap.size) rfl (M45.out) _ Tryz.underlying48 rfl rfl ?_) | (refine wpl_getT 41 rfl _ rfl (w5.heap.size) rfl (M55.out) _ Tryz.underlying41 rfl rfl ?_) | fail)
  refine (HI.out C4 L4 A5 _ _ _ X5.out Q45.out Q55.out).mono ?_
  rintro e w6 ⟨R6,rfl,o9,bx⟩
  have I6:Hid (w5.heap.size+1≤w6.heap.size∧(∀ x,huB R6 G x→w5.heap.size+1≤x∧x<w6.heap.size)):=by
   have h1:=bx.size
   have h2:=o9.lt
   rw [show (w5.alloc (.cells #[.slice A5.u h.us.length A5.uc,.slice A5.s h.ss.length A5.sc,.slice A5.f h.fs.length A5.fc,.slice A5.r h.es.length A5.rc,.int .i64 h.nx] 41)).heap.size=w5.heap.size+1 by simp] at h1 h2
   exact ⟨h1,h2⟩
  have bz:Below (w5.alloc (.cells #[.slice A5.u h.us.length A5.uc,.slice A5.s h.ss.length A5.sc,.slice A5.f h.fs.length A5.fc,.slice A5.r h.es.length A5.rc,.int .i64 h.nx] 41)).heap.size (w5.alloc (.cells #[.slice A5.u h.us.length A5.uc,.slice A5.s h.ss.length A5.sc,.slice A5.f h.fs.length A5.fc,.slice A5.r h.es.length A5.rc,.int .i64 h.nx] 41)) (w6.alloc (.cells #[.slice R6.u G.us.length R6.uc,.slice R6.s G.ss.length R6.sc,.slice R6.f G.fs.length R6.fc,.slice R6.r G.es.length R6.rc,.int .i64 G.nx] 41)):=bx.alloc bx.size _
  have PC6:Hid (Bx (w6.alloc (.cells #[.slice R6.u G.us.length R6.uc,.slice R6.s G.ss.length R6.sc,.slice R6.f G.fs.length R6.fc,.slice R6.r G.es.length R6.rc,.int .i64 G.nx] 41)) (w.heap.size) [.int .i64 c.ip,.int .i64 c.b,.int .i64 c.gt,.string c.gm,.string c.wm,.int .i64 c.rs,.slice C.x c.ps.length C.xc,.slice C.y c.ros.length C.yc]):=PC5.out.below bz
  have PA6:Hid (Bx (w6.alloc (.cells #[.slice R6.u G.us.length R6.uc,.slice R6.s G.ss.length R6.sc,.slice R6.f G.fs.length R6.fc,.slice R6.r G.es.length R6.rc,.int .i64 G.nx] 41)) (w.heap.size+1) [.slice A.u h.us.length A.uc,.slice A.s h.ss.length A.sc,.slice A.f h.fs.length A.fc,.slice A.r h.es.length A.rc,.int .i64 h.nx]):=PA5.out.below bz
  have N36:Hid (Bx (w6.alloc (.cells #[.slice R6.u G.us.length R6.uc,.slice R6.s G.ss.length R6.sc,.slice R6.f G.fs.length R6.fc,.slice R6.r G.es.length R6.rc,.int .i64 G.nx] 41)) (nw3) [.slice Rw3.u G.us.length Rw3.uc,.slice Rw3.s G.ss.length Rw3.sc,.slice Rw3.f G.fs.length Rw3.fc,.slice Rw3.r G.es.length Rw3.rc,.int .i64 G.nx]):=N35.out.below bz
  have O36:Hid (OwnHu (w6.alloc (.cells #[.slice R6.u G.us.length R6.uc,.slice R6.s G.ss.length R6.sc,.slice R6.f G.fs.length R6.fc,.slice R6.r G.es.length R6.rc,.int .i64 G.nx] 41)) w2.heap.size Rw3 G):=O35.out.now bz
  have M46:Hid (Bx (w6.alloc (.cells #[.slice R6.u G.us.length R6.uc,.slice R6.s G.ss.length R6.sc,.slice R6.f G.fs.length R6.fc,.slice R6.r G.es.length R6.rc,.int .i64 G.nx] 41)) (w4.heap.size) [.int .i64 c.ip,.int .i64 c.b,.int .i64 c.gt,.string c.gm,.string c.wm,.int .i64 c.rs,.slice C4.x c.ps.length C4.xc,.slice C4.y c.ros.length C4.yc]):=M45.out.below bz
  have Q46:Hid (OwnCf (w6.alloc (.cells #[.slice R6.u G.us.length R6.uc,.slice R6.s G.ss.length R6.sc,.slice R6.f G.fs.length R6.fc,.slice R6.r G.es.length R6.rc,.int .i64 G.nx] 41)) w3.heap.size C4 c L4):=Q45.out.now bz
  have M56:Hid (Bx (w6.alloc (.cells #[.slice R6.u G.us.length R6.uc,.slice R6.s G.ss.length R6.sc,.slice R6.f G.fs.length R6.fc,.slice R6.r G.es.length R6.rc,.int .i64 G.nx] 41)) (w5.heap.size) [.slice A5.u h.us.length A5.uc,.slice A5.s h.ss.length A5.sc,.slice A5.f h.fs.length A5.fc,.slice A5.r h.es.length A5.rc,.int .i64 h.nx]):=M55.out.below bz
  have Q56:Hid (OwnHu (w6.alloc (.cells #[.slice R6.u G.us.length R6.uc,.slice R6.s G.ss.length R6.sc,.slice R6.f G.fs.length R6.fc,.slice R6.r G.es.length R6.rc,.int .i64 G.nx] 41)) (w4.alloc (.cells #[.int .i64 c.ip,.int .i64 c.b,.int .i64 c.gt,.string c.gm,.string c.wm,.int .i64 c.rs,.slice C4.x c.ps.length C4.xc,.slice C4.y c.ros.length C4.yc] 48)).heap.size A5 h):=Q55.out.now bz
  have X6:Hid (Below w.heap.size w (w6.alloc (.cells #[.slice R6.u G.us.length R6.uc,.slice R6.s G.ss.length R6.sc,.slice R6.f G.fs.length R6.fc,.slice R6.r G.es.length R6.rc,.int .i64 G.nx] 41))):=X5.out.trans ((bz).mono X5.out.size)
  clear PC5 PA5 N35 O35 M45 Q45 M55 Q55 X5
  have M66:Hid (Bx (w6.alloc (.cells #[.slice R6.u G.us.length R6.uc,.slice R6.s G.ss.length R6.sc,.slice R6.f G.fs.length R6.fc,.slice R6.r G.es.length R6.rc,.int .i64 G.nx] 41)) (w6.heap.size) [.slice R6.u G.us.length R6.uc,.slice R6.s G.ss.length R6.sc,.slice R6.f G.fs.length R6.fc,.slice R6.r G.es.length R6.rc,.int .i64 G.nx]):=Bx.new w6 #[.slice R6.u G.us.length R6.uc,.slice R6.s G.ss.length R6.sc,.slice R6.f G.fs.length R6.fc,.slice R6.r G.es.length R6.rc,.int .i64 G.nx] 41
  have Q66:Hid (OwnHu (w6.alloc (.cells #[.slice R6.u G.us.length R6.uc,.slice R6.s G.ss.length R6.sc,.slice R6.f G.fs.length R6.fc,.slice R6.r G.es.length R6.rc,.int .i64 G.nx] 41)) (w5.alloc (.cells #[.slice A5.u h.us.length A5.uc,.slice A5.s h.ss.length A5.sc,.slice A5.f h.fs.length A5.fc,.slice A5.r h.es.length A5.rc,.int .i64 h.nx] 41)).heap.size R6 G):=o9.now ((Below.refl _ _).alloc (Nat.le_refl _) _)
  clear o9 bx bz
  have hkk:(k != k)=false:=by simp
  have hdd:(d != d)=false:=by simp
  have HE:Hid (∀ (A1 A2:HuA) (w:World),HuR w A1 G→HuR w A2 G→Calls Tryz.prog 10 #[.agg #[.slice A1.u G.us.length A1.uc,.slice A1.s G.ss.length A1.sc,.slice A1.f G.fs.length A1.fc,.slice A1.r G.es.length A1.rc,.int .i64 G.nx],.agg #[.slice A2.u G.us.length A2.uc,.slice A2.s G.ss.length A2.sc,.slice A2.f G.fs.length A2.fc,.slice A2.r G.es.length A2.rc,.int .i64 G.nx]] w fun e w'=>e=.returned (.bool true)∧Below w.heap.size w w'):=fun A1 A2 w h1 h2=>hu_eq A1 A2 G w h1 h2 LG.out
  go_wp2_with (first | (refine wpl_getT 27 rfl _ rfl (w.heap.size) rfl (PC6.out) _ Tryz.underlying27 rfl rfl ?_) | (refine wpl_getT 33 rfl _ rfl (w.heap.size+1) rfl (PA6.out) _ Tryz.underlying33 rfl rfl ?_) | (refine wpl_getT 41 rfl _ rfl (nw3) rfl (N36.out) _ Tryz.underlying41 rfl rfl ?_) | (refine wpl_getT 48 rfl _ rfl (w4.heap.size) rfl (M46.out) _ Tryz.underlying48 rfl rfl ?_) | (refine wpl_getT 41 rfl _ rfl (w5.heap.size) rfl (M56.out) _ Tryz.underlying41 rfl rfl ?_) | (refine wpl_getT 41 rfl _ rfl (w6.heap.size) rfl (M66.out) _ Tryz.underlying41 rfl rfl ?_) | fail)
  refine (HE.out R6 Rw3 _ (Q66.out.rw OKG.out) (O36.out.rw OKG.out)).mono ?_
  rintro e w7 ⟨rfl,bx⟩
  have PC7:Hid (Bx w7 (w.heap.size) [.int .i64 c.ip,.int .i64 c.b,.int .i64 c.gt,.string c.gm,.string c.wm,.int .i64 c.rs,.slice C.x c.ps.length C.xc,.slice C.y c.ros.length C.yc]):=PC6.out.below bx
  have PA7:Hid (Bx w7 (w.heap.size+1) [.slice A.u h.us.length A.uc,.slice A.s h.ss.length A.sc,.slice A.f h.fs.length A.fc,.slice A.r h.es.length A.rc,.int .i64 h.nx]):=PA6.out.below bx
  have N37:Hid (Bx w7 (nw3) [.slice Rw3.u G.us.length Rw3.uc,.slice Rw3.s G.ss.length Rw3.sc,.slice Rw3.f G.fs.length Rw3.fc,.slice Rw3.r G.es.length Rw3.rc,.int .i64 G.nx]):=N36.out.below bx
  have O37:Hid (OwnHu w7 w2.heap.size Rw3 G):=O36.out.now bx
  have M47:Hid (Bx w7 (w4.heap.size) [.int .i64 c.ip,.int .i64 c.b,.int .i64 c.gt,.string c.gm,.string c.wm,.int .i64 c.rs,.slice C4.x c.ps.length C4.xc,.slice C4.y c.ros.length C4.yc]):=M46.out.below bx
  have Q47:Hid (OwnCf w7 w3.heap.size C4 c L4):=Q46.out.now bx
  have M57:Hid (Bx w7 (w5.heap.size) [.slice A5.u h.us.length A5.uc,.slice A5.s h.ss.length A5.sc,.slice A5.f h.fs.length A5.fc,.slice A5.r h.es.length A5.rc,.int .i64 h.nx]):=M56.out.below bx
  have Q57:Hid (OwnHu w7 (w4.alloc (.cells #[.int .i64 c.ip,.int .i64 c.b,.int .i64 c.gt,.string c.gm,.string c.wm,.int .i64 c.rs,.slice C4.x c.ps.length C4.xc,.slice C4.y c.ros.length C4.yc] 48)).heap.size A5 h):=Q56.out.now bx
  have M67:Hid (Bx w7 (w6.heap.size) [.slice R6.u G.us.length R6.uc,.slice R6.s G.ss.length R6.sc,.slice R6.f G.fs.length R6.fc,.slice R6.r G.es.length R6.rc,.int .i64 G.nx]):=M66.out.below bx
  have Q67:Hid (OwnHu w7 (w5.alloc (.cells #[.slice A5.u h.us.length A5.uc,.slice A5.s h.ss.length A5.sc,.slice A5.f h.fs.length A5.fc,.slice A5.r h.es.length A5.rc,.int .i64 h.nx] 41)).heap.size R6 G):=Q66.out.now bx
  have X7:Hid (Below w.heap.size w w7):=X6.out.trans ((bx).mono X6.out.size)
  clear PC6 PA6 N36 O36 M46 Q46 M56 Q56 M66 Q66 X6
  clear bx
  go_wp2_with fail
  refine Rlw.wp_region_rel (w:=w7) [Rlw.valR 0 [] (.agg #[.int .i64 c.ip,.int .i64 c.b,.int .i64 c.gt,.string c.gm,.string c.wm,.int .i64 c.rs,.slice C4.x c.ps.length C4.xc,.slice C4.y c.ros.length C4.yc]),Rlw.valR 1 [] (.agg #[.int .i64 c.ip,.int .i64 c.b,.int .i64 c.gt,.string c.gm,.string c.wm,.int .i64 c.rs,.slice C.x c.ps.length C.xc,.slice C.y c.ros.length C.yc]),Rlw.kndR 2 [1] (kCf c) w7.heap.size,Rlw.valR 3 [0,2] (.bool true),Rlw.valR 4 [3] (.bool false)] [] [0,1,2,3,4] (fun b=>b<w7.heap.size) (by kernel_rfl) (by kernel_rfl) (by kernel_rfl) ?_ (fun b h=>h) (fun k r hk=>by cases hk) (fun j k rj rk hj=>by cases hj) ?_ ?_
  ·exact Rlw.ov (Rlw.ov (Rlw.oc (Rlw.kndR_ok _ _ _ _) (Rlw.ov (Rlw.ov (List.forall_mem_nil _)))))
  ·refine Rlw.wk rfl ?_ ?_
   ·intro σ wx hK hF post hp
    have hq:=M47.out.below (Rlw.keep_below hK)
    refine Rlw.yld_get 48 _ rfl (q:=w4.heap.size) (by go_simp) hq _ Tryz.underlying48 rfl rfl ?_
    exact hp _ _ Rlw.left_val
   refine Rlw.wk rfl ?_ ?_
   ·intro σ wx hK hF post hp
    have hq:=PC7.out.below (Rlw.keep_below hK)
    refine Rlw.yld_get 27 _ rfl (q:=w.heap.size) (by go_simp) hq _ Tryz.underlying27 rfl rfl ?_
    exact hp _ _ Rlw.left_val
   refine Rlw.wk rfl ?_ ?_
   ·intro σ wx hK hF post hp
    have f1:=Rlw.fv hF 1 rfl rfl
    have hb:=Rlw.keep_below hK
    go_simp
    refine Rlw.yld_call ?_
    refine (HTC.out _ (RC.out.below (X7.out.trans (hb.mono X7.out.size)))).mono ?_
    rintro e w9 ⟨A9,L9,rfl,ho,b9⟩
    exact ⟨_,rfl,hp _ _ (Rlw.left_knd ⟨A9,L9,rfl,ho⟩ hK.size b9)⟩
   refine Rlw.wk rfl ?_ ?_
   ·intro σ wx hK hF post hp
    have f0:=Rlw.fv hF 0 rfl rfl
    have f2:(kCf c).own wx w7.heap.size (σ 2):=Rlw.fact_of hF (j:=2) rfl rfl
    obtain ⟨A9,L9,e9,o9⟩:=f2
    have d9:σ 2=.agg #[.int .i64 c.ip,.int .i64 c.b,.int .i64 c.gt,.string c.gm,.string c.wm,.int .i64 c.rs,.slice A9.x c.ps.length A9.xc,.slice A9.y c.ros.length A9.yc]:=e9
    clear e9
    have hb:=Rlw.keep_below hK
    go_simp
    refine Rlw.yld_call ?_
    refine (cf_eq C4 A9 c wx ((Q47.out.now hb).rw HKC.out) (o9.rw HKC.out) SC.out).mono ?_
    rintro e w9 ⟨rfl,b9⟩
    exact ⟨_,rfl,hp _ _ (Rlw.left_valB b9)⟩
   refine Rlw.wk rfl ?_ ?_
   ·intro σ wx hK hF post hp
    have f3:=Rlw.fv hF 3 rfl rfl
    go_simp
    exact Rlw.yv hp
   exact Rlw.walk_nil
  ·intro σ w8 hK hF hA
   have f4:σ 4=.bool false:=Rlw.fact_of hF (j:=4) rfl rfl
   have bx:=Rlw.keep_below hK
   clear hF hA hK
   simp only [Rlw.putAll,Nat.zero_add,Nat.reduceAdd,f4]
   go_simp
   clear f4
   have PC8:Hid (Bx w8 (w.heap.size) [.int .i64 c.ip,.int .i64 c.b,.int .i64 c.gt,.string c.gm,.string c.wm,.int .i64 c.rs,.slice C.x c.ps.length C.xc,.slice C.y c.ros.length C.yc]):=PC7.out.below bx
   have PA8:Hid (Bx w8 (w.heap.size+1) [.slice A.u h.us.length A.uc,.slice A.s h.ss.length A.sc,.slice A.f h.fs.length A.fc,.slice A.r h.es.length A.rc,.int .i64 h.nx]):=PA7.out.below bx
   have N38:Hid (Bx w8 (nw3) [.slice Rw3.u G.us.length Rw3.uc,.slice Rw3.s G.ss.length Rw3.sc,.slice Rw3.f G.fs.length Rw3.fc,.slice Rw3.r G.es.length Rw3.rc,.int .i64 G.nx]):=N37.out.below bx
   have O38:Hid (OwnHu w8 w2.heap.size Rw3 G):=O37.out.now bx
   have M48:Hid (Bx w8 (w4.heap.size) [.int .i64 c.ip,.int .i64 c.b,.int .i64 c.gt,.string c.gm,.string c.wm,.int .i64 c.rs,.slice C4.x c.ps.length C4.xc,.slice C4.y c.ros.length C4.yc]):=M47.out.below bx
   have Q48:Hid (OwnCf w8 w3.heap.size C4 c L4):=Q47.out.now bx
   have M58:Hid (Bx w8 (w5.heap.size) [.slice A5.u h.us.length A5.uc,.slice A5.s h.ss.length A5.sc,.slice A5.f h.fs.length A5.fc,.slice A5.r h.es.length A5.rc,.int .i64 h.nx]):=M57.out.below bx
   have Q58:Hid (OwnHu w8 (w4.alloc (.cells #[.int .i64 c.ip,.int .i64 c.b,.int .i64 c.gt,.string c.gm,.string c.wm,.int .i64 c.rs,.slice C4.x c.ps.length C4.xc,.slice C4.y c.ros.length C4.yc] 48)).heap.size A5 h):=Q57.out.now bx
   have M68:Hid (Bx w8 (w6.heap.size) [.slice R6.u G.us.length R6.uc,.slice R6.s G.ss.length R6.sc,.slice R6.f G.fs.length R6.fc,.slice R6.r G.es.length R6.rc,.int .i64 G.nx]):=M67.out.below bx
   have Q68:Hid (OwnHu w8 (w5.alloc (.cells #[.slice A5.u h.us.length A5.uc,.slice A5.s h.ss.length A5.sc,.slice A5.f h.fs.length A5.fc,.slice A5.r h.es.length A5.rc,.int .i64 h.nx] 41)).heap.size R6 G):=Q67.out.now bx
   have X8:Hid (Below w.heap.size w w8):=X7.out.trans ((bx).mono X7.out.size)
   clear PC7 PA7 N37 O37 M47 Q47 M57 Q57 M67 Q67 X7
   clear bx
   go_wp2_with fail
   refine Rlw.wp_region_rel (w:=w8) [Rlw.valR 0 [] (.agg #[.slice A5.u h.us.length A5.uc,.slice A5.s h.ss.length A5.sc,.slice A5.f h.fs.length A5.fc,.slice A5.r h.es.length A5.rc,.int .i64 h.nx]),Rlw.valR 1 [] (.agg #[.slice A.u h.us.length A.uc,.slice A.s h.ss.length A.sc,.slice A.f h.fs.length A.fc,.slice A.r h.es.length A.rc,.int .i64 h.nx]),Rlw.kndR 2 [1] (kHu h) w8.heap.size,Rlw.valR 3 [0,2] (.bool true),Rlw.valR 4 [3] (.bool false)] [] [0,1,2,3,4] (fun b=>b<w8.heap.size) (by kernel_rfl) (by kernel_rfl) (by kernel_rfl) ?_ (fun b h=>h) (fun k r hk=>by cases hk) (fun j k rj rk hj=>by cases hj) ?_ ?_
   ·exact Rlw.ov (Rlw.ov (Rlw.oc (Rlw.kndR_ok _ _ _ _) (Rlw.ov (Rlw.ov (List.forall_mem_nil _)))))
   ·refine Rlw.wk rfl ?_ ?_
    ·intro σ wx hK hF post hp
     have hq:=M58.out.below (Rlw.keep_below hK)
     refine Rlw.yld_get 41 _ rfl (q:=w5.heap.size) (by go_simp) hq _ Tryz.underlying41 rfl rfl ?_
     exact hp _ _ Rlw.left_val
    refine Rlw.wk rfl ?_ ?_
    ·intro σ wx hK hF post hp
     have hq:=PA8.out.below (Rlw.keep_below hK)
     refine Rlw.yld_get 33 _ rfl (q:=w.heap.size+1) (by go_simp) hq _ Tryz.underlying33 rfl rfl ?_
     exact hp _ _ Rlw.left_val
    refine Rlw.wk rfl ?_ ?_
    ·intro σ wx hK hF post hp
     have f1:=Rlw.fv hF 1 rfl rfl
     have hb:=Rlw.keep_below hK
     go_simp
     refine Rlw.yld_call ?_
     refine (HTA.out _ (RA.out.below (X8.out.trans (hb.mono X8.out.size)))).mono ?_
     rintro e w9 ⟨A9,rfl,ho,b9⟩
     exact ⟨_,rfl,hp _ _ (Rlw.left_knd ⟨A9,rfl,ho⟩ hK.size b9)⟩
    refine Rlw.wk rfl ?_ ?_
    ·intro σ wx hK hF post hp
     have f0:=Rlw.fv hF 0 rfl rfl
     have f2:(kHu h).own wx w8.heap.size (σ 2):=Rlw.fact_of hF (j:=2) rfl rfl
     obtain ⟨A9,e9,o9⟩:=f2
     have d9:σ 2=.agg #[.slice A9.u h.us.length A9.uc,.slice A9.s h.ss.length A9.sc,.slice A9.f h.fs.length A9.fc,.slice A9.r h.es.length A9.rc,.int .i64 h.nx]:=e9
     clear e9
     have hb:=Rlw.keep_below hK
     go_simp
     refine Rlw.yld_call ?_
     refine (hu_eq A5 A9 h wx ((Q58.out.now hb).rw HKH.out) (o9.rw HKH.out) SH.out.ln).mono ?_
     rintro e w9 ⟨rfl,b9⟩
     exact ⟨_,rfl,hp _ _ (Rlw.left_valB b9)⟩
    refine Rlw.wk rfl ?_ ?_
    ·intro σ wx hK hF post hp
     have f3:=Rlw.fv hF 3 rfl rfl
     go_simp
     exact Rlw.yv hp
    exact Rlw.walk_nil
   ·intro σ w9 hK hF hA
    have f4:σ 4=.bool false:=Rlw.fact_of hF (j:=4) rfl rfl
    have bx:=Rlw.keep_below hK
    clear hF hA hK
    simp only [Rlw.putAll,Nat.zero_add,Nat.reduceAdd,f4]
    go_simp
    clear f4
    have PC9:Hid (Bx w9 (w.heap.size) [.int .i64 c.ip,.int .i64 c.b,.int .i64 c.gt,.string c.gm,.string c.wm,.int .i64 c.rs,.slice C.x c.ps.length C.xc,.slice C.y c.ros.length C.yc]):=PC8.out.below bx
    have PA9:Hid (Bx w9 (w.heap.size+1) [.slice A.u h.us.length A.uc,.slice A.s h.ss.length A.sc,.slice A.f h.fs.length A.fc,.slice A.r h.es.length A.rc,.int .i64 h.nx]):=PA8.out.below bx
    have N39:Hid (Bx w9 (nw3) [.slice Rw3.u G.us.length Rw3.uc,.slice Rw3.s G.ss.length Rw3.sc,.slice Rw3.f G.fs.length Rw3.fc,.slice Rw3.r G.es.length Rw3.rc,.int .i64 G.nx]):=N38.out.below bx
    have O39:Hid (OwnHu w9 w2.heap.size Rw3 G):=O38.out.now bx
    have M49:Hid (Bx w9 (w4.heap.size) [.int .i64 c.ip,.int .i64 c.b,.int .i64 c.gt,.string c.gm,.string c.wm,.int .i64 c.rs,.slice C4.x c.ps.length C4.xc,.slice C4.y c.ros.length C4.yc]):=M48.out.below bx
    have Q49:Hid (OwnCf w9 w3.heap.size C4 c L4):=Q48.out.now bx
    have M59:Hid (Bx w9 (w5.heap.size) [.slice A5.u h.us.length A5.uc,.slice A5.s h.ss.length A5.sc,.slice A5.f h.fs.length A5.fc,.slice A5.r h.es.length A5.rc,.int .i64 h.nx]):=M58.out.below bx
    have Q59:Hid (OwnHu w9 (w4.alloc (.cells #[.int .i64 c.ip,.int .i64 c.b,.int .i64 c.gt,.string c.gm,.string c.wm,.int .i64 c.rs,.slice C4.x c.ps.length C4.xc,.slice C4.y c.ros.length C4.yc] 48)).heap.size A5 h):=Q58.out.now bx
    have M69:Hid (Bx w9 (w6.heap.size) [.slice R6.u G.us.length R6.uc,.slice R6.s G.ss.length R6.sc,.slice R6.f G.fs.length R6.fc,.slice R6.r G.es.length R6.rc,.int .i64 G.nx]):=M68.out.below bx
    have Q69:Hid (OwnHu w9 (w5.alloc (.cells #[.slice A5.u h.us.length A5.uc,.slice A5.s h.ss.length A5.sc,.slice A5.f h.fs.length A5.fc,.slice A5.r h.es.length A5.rc,.int .i64 h.nx] 41)).heap.size R6 G):=Q68.out.now bx
    have X9:Hid (Below w.heap.size w w9):=X8.out.trans ((bx).mono X8.out.size)
    clear PC8 PA8 N38 O38 M48 Q48 M58 Q58 M68 Q68 X8
    clear bx
    go_wp2_with (first | (refine wpl_getT 27 rfl _ rfl (w.heap.size) rfl (PC9.out) _ Tryz.underlying27 rfl rfl ?_) | (refine wpl_getT 33 rfl _ rfl (w.heap.size+1) rfl (PA9.out) _ Tryz.underlying33 rfl rfl ?_) | (refine wpl_getT 41 rfl _ rfl (nw3) rfl (N39.out) _ Tryz.underlying41 rfl rfl ?_) | (refine wpl_getT 48 rfl _ rfl (w4.heap.size) rfl (M49.out) _ Tryz.underlying48 rfl rfl ?_) | (refine wpl_getT 41 rfl _ rfl (w5.heap.size) rfl (M59.out) _ Tryz.underlying41 rfl rfl ?_) | (refine wpl_getT 41 rfl _ rfl (w6.heap.size) rfl (M69.out) _ Tryz.underlying41 rfl rfl ?_) | fail)
    refine (show Calls _ _ #[_,.int .i64 (1:Int)] _ _ from (cf_mark C4 c L4 _ 1 _ Q49.out SC.out (by omega) (by omega))).mono ?_
    rintro e w10 ⟨rfl,hk9⟩
    have nb10:=cfN_bd Q49.out.ro SC.out
    obtain ⟨K10,hK10⟩:∃ K:Nat,1+cfN c L4=K:=⟨_,rfl⟩
    have kb10:0<K10∧K10≤500000000:=by omega
    rw [hK10]
    clear hK10 nb10
    have PC10:Hid (Bx w10 (w.heap.size) [.int .i64 c.ip,.int .i64 c.b,.int .i64 c.gt,.string c.gm,.string c.wm,.int .i64 c.rs,.slice C.x c.ps.length C.xc,.slice C.y c.ros.length C.yc]):=Rlw.bx_keepW PC9.out hk9 ⟨World.block_lt_of_cell? w9 ⟨w.heap.size,0,none⟩ (PC9.out.cell 0 rfl),fun hx=>by have i3:=I3.out.1;have j3:=J3.out;have i4:=I4.out.1;have i5:=I5.out.1;have i6:=I6.out.1;have z:=I4.out.2 _ hx;omega⟩
    have PA10:Hid (Bx w10 (w.heap.size+1) [.slice A.u h.us.length A.uc,.slice A.s h.ss.length A.sc,.slice A.f h.fs.length A.fc,.slice A.r h.es.length A.rc,.int .i64 h.nx]):=Rlw.bx_keepW PA9.out hk9 ⟨World.block_lt_of_cell? w9 ⟨w.heap.size+1,0,none⟩ (PA9.out.cell 0 rfl),fun hx=>by have i3:=I3.out.1;have j3:=J3.out;have i4:=I4.out.1;have i5:=I5.out.1;have i6:=I6.out.1;have z:=I4.out.2 _ hx;omega⟩
    have N310:Hid (Bx w10 (nw3) [.slice Rw3.u G.us.length Rw3.uc,.slice Rw3.s G.ss.length Rw3.sc,.slice Rw3.f G.fs.length Rw3.fc,.slice Rw3.r G.es.length Rw3.rc,.int .i64 G.nx]):=Rlw.bx_keepW N39.out hk9 ⟨World.block_lt_of_cell? w9 ⟨nw3,0,none⟩ (N39.out.cell 0 rfl),fun hx=>by have i3:=I3.out.1;have j3:=J3.out;have i4:=I4.out.1;have i5:=I5.out.1;have i6:=I6.out.1;have z:=I4.out.2 _ hx;omega⟩
    have O310:Hid (OwnHu w10 w2.heap.size Rw3 G):=O39.out.keep (fun x hy=>hk9.block x ⟨(O39.out.lt x hy).2,fun hx=>by have i3:=I3.out.1;have j3:=J3.out;have i4:=I4.out.1;have i5:=I5.out.1;have i6:=I6.out.1;have z:=I4.out.2 _ hx;have y:=I3.out.2 x hy;omega⟩)
    have M510:Hid (Bx w10 (w5.heap.size) [.slice A5.u h.us.length A5.uc,.slice A5.s h.ss.length A5.sc,.slice A5.f h.fs.length A5.fc,.slice A5.r h.es.length A5.rc,.int .i64 h.nx]):=Rlw.bx_keepW M59.out hk9 ⟨World.block_lt_of_cell? w9 ⟨w5.heap.size,0,none⟩ (M59.out.cell 0 rfl),fun hx=>by have i3:=I3.out.1;have j3:=J3.out;have i4:=I4.out.1;have i5:=I5.out.1;have i6:=I6.out.1;have z:=I4.out.2 _ hx;omega⟩
    have Q510:Hid (OwnHu w10 (w4.alloc (.cells #[.int .i64 c.ip,.int .i64 c.b,.int .i64 c.gt,.string c.gm,.string c.wm,.int .i64 c.rs,.slice C4.x c.ps.length C4.xc,.slice C4.y c.ros.length C4.yc] 48)).heap.size A5 h):=Q59.out.keep (fun x hy=>hk9.block x ⟨(Q59.out.lt x hy).2,fun hx=>by have i3:=I3.out.1;have j3:=J3.out;have i4:=I4.out.1;have i5:=I5.out.1;have i6:=I6.out.1;have z:=I4.out.2 _ hx;have y:=I5.out.2 x hy;omega⟩)
    have M610:Hid (Bx w10 (w6.heap.size) [.slice R6.u G.us.length R6.uc,.slice R6.s G.ss.length R6.sc,.slice R6.f G.fs.length R6.fc,.slice R6.r G.es.length R6.rc,.int .i64 G.nx]):=Rlw.bx_keepW M69.out hk9 ⟨World.block_lt_of_cell? w9 ⟨w6.heap.size,0,none⟩ (M69.out.cell 0 rfl),fun hx=>by have i3:=I3.out.1;have j3:=J3.out;have i4:=I4.out.1;have i5:=I5.out.1;have i6:=I6.out.1;have z:=I4.out.2 _ hx;omega⟩
    have Q610:Hid (OwnHu w10 (w5.alloc (.cells #[.slice A5.u h.us.length A5.uc,.slice A5.s h.ss.length A5.sc,.slice A5.f h.fs.length A5.fc,.slice A5.r h.es.length A5.rc,.int .i64 h.nx] 41)).heap.size R6 G):=Q69.out.keep (fun x hy=>hk9.block x ⟨(Q69.out.lt x hy).2,fun hx=>by have i3:=I3.out.1;have j3:=J3.out;have i4:=I4.out.1;have i5:=I5.out.1;have i6:=I6.out.1;have z:=I4.out.2 _ hx;have y:=I6.out.2 x hy;omega⟩)
    have X10:Hid (Below w.heap.size w w10):=X9.out.trans ⟨hk9.os,hk9.tape,hk9.output,hk9.size,fun x hy=>hk9.block x ⟨Nat.lt_of_lt_of_le hy X9.out.size,fun hx=>by have i3:=I3.out.1;have j3:=J3.out;have i4:=I4.out.1;have i5:=I5.out.1;have i6:=I6.out.1;have z:=I4.out.2 _ hx;omega⟩⟩
    clear PC9 PA9 N39 O39 M49 Q49 M59 Q59 M69 Q69 X9
    clear hk9
    go_wp2_with (first | (refine wpl_getT 27 rfl _ rfl (w.heap.size) rfl (PC10.out) _ Tryz.underlying27 rfl rfl ?_) | (refine wpl_getT 33 rfl _ rfl (w.heap.size+1) rfl (PA10.out) _ Tryz.underlying33 rfl rfl ?_) | (refine wpl_getT 41 rfl _ rfl (nw3) rfl (N310.out) _ Tryz.underlying41 rfl rfl ?_) | (refine wpl_getT 41 rfl _ rfl (w5.heap.size) rfl (M510.out) _ Tryz.underlying41 rfl rfl ?_) | (refine wpl_getT 41 rfl _ rfl (w6.heap.size) rfl (M610.out) _ Tryz.underlying41 rfl rfl ?_) | fail)
    refine (hu_mark A5 h _ K10 _ Q510.out SH.out.ln (by omega) (by omega)).mono ?_
    rintro e w11 ⟨rfl,-,hk9⟩
    have nb11:=huN_bd SH.out.ln
    obtain ⟨K11,hK11⟩:∃ K:Nat,K10+huN h=K:=⟨_,rfl⟩
    have kb11:0<K11∧K11≤900000000:=by omega
    rw [hK11]
    clear hK11 nb11
    have PC11:Hid (Bx w11 (w.heap.size) [.int .i64 c.ip,.int .i64 c.b,.int .i64 c.gt,.string c.gm,.string c.wm,.int .i64 c.rs,.slice C.x c.ps.length C.xc,.slice C.y c.ros.length C.yc]):=Rlw.bx_keepW PC10.out hk9 ⟨World.block_lt_of_cell? w10 ⟨w.heap.size,0,none⟩ (PC10.out.cell 0 rfl),fun hx=>by have i3:=I3.out.1;have j3:=J3.out;have i4:=I4.out.1;have i5:=I5.out.1;have i6:=I6.out.1;have z:=I5.out.2 _ hx;omega⟩
    have PA11:Hid (Bx w11 (w.heap.size+1) [.slice A.u h.us.length A.uc,.slice A.s h.ss.length A.sc,.slice A.f h.fs.length A.fc,.slice A.r h.es.length A.rc,.int .i64 h.nx]):=Rlw.bx_keepW PA10.out hk9 ⟨World.block_lt_of_cell? w10 ⟨w.heap.size+1,0,none⟩ (PA10.out.cell 0 rfl),fun hx=>by have i3:=I3.out.1;have j3:=J3.out;have i4:=I4.out.1;have i5:=I5.out.1;have i6:=I6.out.1;have z:=I5.out.2 _ hx;omega⟩
    have N311:Hid (Bx w11 (nw3) [.slice Rw3.u G.us.length Rw3.uc,.slice Rw3.s G.ss.length Rw3.sc,.slice Rw3.f G.fs.length Rw3.fc,.slice Rw3.r G.es.length Rw3.rc,.int .i64 G.nx]):=Rlw.bx_keepW N310.out hk9 ⟨World.block_lt_of_cell? w10 ⟨nw3,0,none⟩ (N310.out.cell 0 rfl),fun hx=>by have i3:=I3.out.1;have j3:=J3.out;have i4:=I4.out.1;have i5:=I5.out.1;have i6:=I6.out.1;have z:=I5.out.2 _ hx;omega⟩
    have O311:Hid (OwnHu w11 w2.heap.size Rw3 G):=O310.out.keep (fun x hy=>hk9.block x ⟨(O310.out.lt x hy).2,fun hx=>by have i3:=I3.out.1;have j3:=J3.out;have i4:=I4.out.1;have i5:=I5.out.1;have i6:=I6.out.1;have z:=I5.out.2 _ hx;have y:=I3.out.2 x hy;omega⟩)
    have M611:Hid (Bx w11 (w6.heap.size) [.slice R6.u G.us.length R6.uc,.slice R6.s G.ss.length R6.sc,.slice R6.f G.fs.length R6.fc,.slice R6.r G.es.length R6.rc,.int .i64 G.nx]):=Rlw.bx_keepW M610.out hk9 ⟨World.block_lt_of_cell? w10 ⟨w6.heap.size,0,none⟩ (M610.out.cell 0 rfl),fun hx=>by have i3:=I3.out.1;have j3:=J3.out;have i4:=I4.out.1;have i5:=I5.out.1;have i6:=I6.out.1;have z:=I5.out.2 _ hx;omega⟩
    have Q611:Hid (OwnHu w11 (w5.alloc (.cells #[.slice A5.u h.us.length A5.uc,.slice A5.s h.ss.length A5.sc,.slice A5.f h.fs.length A5.fc,.slice A5.r h.es.length A5.rc,.int .i64 h.nx] 41)).heap.size R6 G):=Q610.out.keep (fun x hy=>hk9.block x ⟨(Q610.out.lt x hy).2,fun hx=>by have i3:=I3.out.1;have j3:=J3.out;have i4:=I4.out.1;have i5:=I5.out.1;have i6:=I6.out.1;have z:=I5.out.2 _ hx;have y:=I6.out.2 x hy;omega⟩)
    have X11:Hid (Below w.heap.size w w11):=X10.out.trans ⟨hk9.os,hk9.tape,hk9.output,hk9.size,fun x hy=>hk9.block x ⟨Nat.lt_of_lt_of_le hy X10.out.size,fun hx=>by have i3:=I3.out.1;have j3:=J3.out;have i4:=I4.out.1;have i5:=I5.out.1;have i6:=I6.out.1;have z:=I5.out.2 _ hx;omega⟩⟩
    clear PC10 PA10 N310 O310 M510 Q510 M610 Q610 X10
    clear hk9
    have hkn:decide (((K11:Nat):Int)<0)=false:=decide_eq_false (by omega)
    have ca0:w11.cell? ⟨w6.heap.size,0,none⟩=some (.slice R6.u G.us.length R6.uc):=M611.out.cell 0 rfl
    have ca1:w11.cell? ⟨w6.heap.size,1,none⟩=some (.slice R6.s G.ss.length R6.sc):=M611.out.cell 1 rfl
    have ca2:w11.cell? ⟨w6.heap.size,2,none⟩=some (.slice R6.f G.fs.length R6.fc):=M611.out.cell 2 rfl
    have ca3:w11.cell? ⟨w6.heap.size,3,none⟩=some (.slice R6.r G.es.length R6.rc):=M611.out.cell 3 rfl
    have ca4:w11.cell? ⟨w6.heap.size,4,none⟩=some (.int .i64 G.nx):=M611.out.cell 4 rfl
    have cb0:w11.cell? ⟨nw3,0,none⟩=some (.slice Rw3.u G.us.length Rw3.uc):=N311.out.cell 0 rfl
    have cb1:w11.cell? ⟨nw3,1,none⟩=some (.slice Rw3.s G.ss.length Rw3.sc):=N311.out.cell 1 rfl
    have cb2:w11.cell? ⟨nw3,2,none⟩=some (.slice Rw3.f G.fs.length Rw3.fc):=N311.out.cell 2 rfl
    have cb3:w11.cell? ⟨nw3,3,none⟩=some (.slice Rw3.r G.es.length Rw3.rc):=N311.out.cell 3 rfl
    have cb4:w11.cell? ⟨nw3,4,none⟩=some (.int .i64 G.nx):=N311.out.cell 4 rfl
    go_wp2_with fail
    refine (HE.out R6 Rw3 _ (Q611.out.rw OKG.out) (O311.out.rw OKG.out)).mono ?_
    rintro e w12 ⟨rfl,bx⟩
    clear ca0 cb0 ca1 cb1 ca2 cb2 ca3 cb3 ca4 cb4
    have PC12:Hid (Bx w12 (w.heap.size) [.int .i64 c.ip,.int .i64 c.b,.int .i64 c.gt,.string c.gm,.string c.wm,.int .i64 c.rs,.slice C.x c.ps.length C.xc,.slice C.y c.ros.length C.yc]):=PC11.out.below bx
    have PA12:Hid (Bx w12 (w.heap.size+1) [.slice A.u h.us.length A.uc,.slice A.s h.ss.length A.sc,.slice A.f h.fs.length A.fc,.slice A.r h.es.length A.rc,.int .i64 h.nx]):=PA11.out.below bx
    have N312:Hid (Bx w12 (nw3) [.slice Rw3.u G.us.length Rw3.uc,.slice Rw3.s G.ss.length Rw3.sc,.slice Rw3.f G.fs.length Rw3.fc,.slice Rw3.r G.es.length Rw3.rc,.int .i64 G.nx]):=N311.out.below bx
    have O312:Hid (OwnHu w12 w2.heap.size Rw3 G):=O311.out.now bx
    have M612:Hid (Bx w12 (w6.heap.size) [.slice R6.u G.us.length R6.uc,.slice R6.s G.ss.length R6.sc,.slice R6.f G.fs.length R6.fc,.slice R6.r G.es.length R6.rc,.int .i64 G.nx]):=M611.out.below bx
    have Q612:Hid (OwnHu w12 (w5.alloc (.cells #[.slice A5.u h.us.length A5.uc,.slice A5.s h.ss.length A5.sc,.slice A5.f h.fs.length A5.fc,.slice A5.r h.es.length A5.rc,.int .i64 h.nx] 41)).heap.size R6 G):=Q611.out.now bx
    have X12:Hid (Below w.heap.size w w12):=X11.out.trans ((bx).mono X11.out.size)
    clear PC11 PA11 N311 O311 M611 Q611 X11
    clear bx
    go_wp2_with (first | (refine wpl_getT 27 rfl _ rfl (w.heap.size) rfl (PC12.out) _ Tryz.underlying27 rfl rfl ?_) | (refine wpl_getT 33 rfl _ rfl (w.heap.size+1) rfl (PA12.out) _ Tryz.underlying33 rfl rfl ?_) | (refine wpl_getT 41 rfl _ rfl (nw3) rfl (N312.out) _ Tryz.underlying41 rfl rfl ?_) | (refine wpl_getT 41 rfl _ rfl (w6.heap.size) rfl (M612.out) _ Tryz.underlying41 rfl rfl ?_) | fail)
    refine (show Calls _ _ #[_,.int .i64 (1:Int)] _ _ from (hu_mark R6 G _ 1 _ Q612.out LG.out (by omega) (by omega))).mono ?_
    rintro e w13 ⟨rfl,mk9,hk9⟩
    have nb13:=huN_bd LG.out
    obtain ⟨KM,hKM⟩:∃ K:Nat,1+huN G=K:=⟨_,rfl⟩
    have kbM:0<KM∧KM≤900000000:=by omega
    have HKM:Hid (1+huN G=KM):=hKM
    rw [hKM]
    clear hKM nb13
    have PC13:Hid (Bx w13 (w.heap.size) [.int .i64 c.ip,.int .i64 c.b,.int .i64 c.gt,.string c.gm,.string c.wm,.int .i64 c.rs,.slice C.x c.ps.length C.xc,.slice C.y c.ros.length C.yc]):=Rlw.bx_keepW PC12.out hk9 ⟨World.block_lt_of_cell? w12 ⟨w.heap.size,0,none⟩ (PC12.out.cell 0 rfl),fun hx=>by have i3:=I3.out.1;have j3:=J3.out;have i4:=I4.out.1;have i5:=I5.out.1;have i6:=I6.out.1;have z:=I6.out.2 _ hx;omega⟩
    have PA13:Hid (Bx w13 (w.heap.size+1) [.slice A.u h.us.length A.uc,.slice A.s h.ss.length A.sc,.slice A.f h.fs.length A.fc,.slice A.r h.es.length A.rc,.int .i64 h.nx]):=Rlw.bx_keepW PA12.out hk9 ⟨World.block_lt_of_cell? w12 ⟨w.heap.size+1,0,none⟩ (PA12.out.cell 0 rfl),fun hx=>by have i3:=I3.out.1;have j3:=J3.out;have i4:=I4.out.1;have i5:=I5.out.1;have i6:=I6.out.1;have z:=I6.out.2 _ hx;omega⟩
    have N313:Hid (Bx w13 (nw3) [.slice Rw3.u G.us.length Rw3.uc,.slice Rw3.s G.ss.length Rw3.sc,.slice Rw3.f G.fs.length Rw3.fc,.slice Rw3.r G.es.length Rw3.rc,.int .i64 G.nx]):=Rlw.bx_keepW N312.out hk9 ⟨World.block_lt_of_cell? w12 ⟨nw3,0,none⟩ (N312.out.cell 0 rfl),fun hx=>by have i3:=I3.out.1;have j3:=J3.out;have i4:=I4.out.1;have i5:=I5.out.1;have i6:=I6.out.1;have z:=I6.out.2 _ hx;omega⟩
    have O313:Hid (OwnHu w13 w2.heap.size Rw3 G):=O312.out.keep (fun x hy=>hk9.block x ⟨(O312.out.lt x hy).2,fun hx=>by have i3:=I3.out.1;have j3:=J3.out;have i4:=I4.out.1;have i5:=I5.out.1;have i6:=I6.out.1;have z:=I6.out.2 _ hx;have y:=I3.out.2 x hy;omega⟩)
    have M613:Hid (Bx w13 (w6.heap.size) [.slice R6.u G.us.length R6.uc,.slice R6.s G.ss.length R6.sc,.slice R6.f G.fs.length R6.fc,.slice R6.r G.es.length R6.rc,.int .i64 G.nx]):=Rlw.bx_keepW M612.out hk9 ⟨World.block_lt_of_cell? w12 ⟨w6.heap.size,0,none⟩ (M612.out.cell 0 rfl),fun hx=>by have i3:=I3.out.1;have j3:=J3.out;have i4:=I4.out.1;have i5:=I5.out.1;have i6:=I6.out.1;have z:=I6.out.2 _ hx;omega⟩
    have X13:Hid (Below w.heap.size w w13):=X12.out.trans ⟨hk9.os,hk9.tape,hk9.output,hk9.size,fun x hy=>hk9.block x ⟨Nat.lt_of_lt_of_le hy X12.out.size,fun hx=>by have i3:=I3.out.1;have j3:=J3.out;have i4:=I4.out.1;have i5:=I5.out.1;have i6:=I6.out.1;have z:=I6.out.2 _ hx;omega⟩⟩
    clear PC12 PA12 N312 O312 M612 Q612 X12
    have Q613:Hid (MkdHu w13 ((w5.alloc (.cells #[.slice A5.u h.us.length A5.uc,.slice A5.s h.ss.length A5.sc,.slice A5.f h.fs.length A5.fc,.slice A5.r h.es.length A5.rc,.int .i64 h.nx] 41)).heap.size) R6 G 1):=mk9
    clear mk9 hk9
    have HH:Hid (∀ w,MkdHu w ((w5.alloc (.cells #[.slice A5.u h.us.length A5.uc,.slice A5.s h.ss.length A5.sc,.slice A5.f h.fs.length A5.fc,.slice A5.r h.es.length A5.rc,.int .i64 h.nx] 41)).heap.size) R6 G 1→Calls Tryz.prog 14 #[.agg #[.slice R6.u G.us.length R6.uc,.slice R6.s G.ss.length R6.sc,.slice R6.f G.fs.length R6.fc,.slice R6.r G.es.length R6.rc,.int .i64 G.nx],.int .i64 1] w fun e w'=>e=.returned (.int .i64 ((KM:Nat):Int))∧Below w.heap.size w w'):=fun w h=>by
     have:=hu_held R6 G _ 1 w h LG.out (by omega) (by omega)
     rw [HKM.out] at this
     exact this
    have hqn:decide (((KM:Nat):Int)<0)=false:=decide_eq_false (by omega)
    have hqq:(((KM:Nat):Int) != ((KM:Nat):Int))=false:=by simp
    go_wp2_with (first | (refine wpl_getT 27 rfl _ rfl (w.heap.size) rfl (PC13.out) _ Tryz.underlying27 rfl rfl ?_) | (refine wpl_getT 33 rfl _ rfl (w.heap.size+1) rfl (PA13.out) _ Tryz.underlying33 rfl rfl ?_) | (refine wpl_getT 41 rfl _ rfl (nw3) rfl (N313.out) _ Tryz.underlying41 rfl rfl ?_) | (refine wpl_getT 41 rfl _ rfl (w6.heap.size) rfl (M613.out) _ Tryz.underlying41 rfl rfl ?_) | fail)
    refine (HH.out _ Q613.out).mono ?_
    rintro e w14 ⟨rfl,bx⟩
    have PC14:Hid (Bx w14 (w.heap.size) [.int .i64 c.ip,.int .i64 c.b,.int .i64 c.gt,.string c.gm,.string c.wm,.int .i64 c.rs,.slice C.x c.ps.length C.xc,.slice C.y c.ros.length C.yc]):=PC13.out.below bx
    have PA14:Hid (Bx w14 (w.heap.size+1) [.slice A.u h.us.length A.uc,.slice A.s h.ss.length A.sc,.slice A.f h.fs.length A.fc,.slice A.r h.es.length A.rc,.int .i64 h.nx]):=PA13.out.below bx
    have N314:Hid (Bx w14 (nw3) [.slice Rw3.u G.us.length Rw3.uc,.slice Rw3.s G.ss.length Rw3.sc,.slice Rw3.f G.fs.length Rw3.fc,.slice Rw3.r G.es.length Rw3.rc,.int .i64 G.nx]):=N313.out.below bx
    have O314:Hid (OwnHu w14 w2.heap.size Rw3 G):=O313.out.now bx
    have M614:Hid (Bx w14 (w6.heap.size) [.slice R6.u G.us.length R6.uc,.slice R6.s G.ss.length R6.sc,.slice R6.f G.fs.length R6.fc,.slice R6.r G.es.length R6.rc,.int .i64 G.nx]):=M613.out.below bx
    have Q614:Hid (MkdHu w14 ((w5.alloc (.cells #[.slice A5.u h.us.length A5.uc,.slice A5.s h.ss.length A5.sc,.slice A5.f h.fs.length A5.fc,.slice A5.r h.es.length A5.rc,.int .i64 h.nx] 41)).heap.size) R6 G 1):=Q613.out.now bx
    have X14:Hid (Below w.heap.size w w14):=X13.out.trans ((bx).mono X13.out.size)
    clear PC13 PA13 N313 O313 M613 Q613 X13
    clear bx
    go_wp2_with fail
    refine Rlw.wp_region_rel (w:=w14) [Rlw.valR 0 [] (.agg #[.int .i64 c.ip,.int .i64 c.b,.int .i64 c.gt,.string c.gm,.string c.wm,.int .i64 c.rs,.slice C.x c.ps.length C.xc,.slice C.y c.ros.length C.yc]),Rlw.kndR 1 [0] (kCf c) w14.heap.size,Rlw.valR 2 [] (.agg #[.slice A.u h.us.length A.uc,.slice A.s h.ss.length A.sc,.slice A.f h.fs.length A.fc,.slice A.r h.es.length A.rc,.int .i64 h.nx]),Rlw.kndR 3 [2] (kHu h) w14.heap.size,Rlw.valR 4 [] (.string nm),Rlw.valR 5 [] (.string wd),Rlw.valR 6 [] (.string mc),Rlw.valR 7 [] (.int .i64 ip),Rlw.valR 8 [] (.int .i64 now),Rlw.kndR 9 [1,3,4,5,6,7,8] (Knd.three (kHu G) (Knd.val (.int .i64 d)) (Knd.val (.int .i64 k))) w14.heap.size,Rlw.twoR 10 9 [9] (fun x y=>x=y∧∃ R,x=.tuple #[.agg (huC R G).toArray,.int .i64 d,.int .i64 k]),Rlw.twoR 11 10 [10] (fun x y=>∃ R,x=.agg (huC R G).toArray∧y=.tuple #[x,.int .i64 d,.int .i64 k]),Rlw.valR 12 [10] (.int .i64 d),Rlw.valR 13 [10] (.int .i64 k),Rlw.boxR 14 [] [.slice none 0 0,.slice none 0 0,.slice none 0 0,.slice none 0 0,.int .i64 0],Rlw.putV 14 11 [11],Rlw.valR 16 [12] (.int .i64 d),Rlw.valR 17 [13] (.int .i64 k)] [] [0,1,2,3,4,5,6,7,8,9,10,11,12,13,15,16,17] (fun b=>b<w14.heap.size) (by kernel_rfl) (by kernel_rfl) (by kernel_rfl) ?_ (fun b h=>h) (fun k r hk=>by cases hk) (fun j k rj rk hj=>by cases hj) ?_ ?_
    ·exact Rlw.ov (Rlw.oc (Rlw.kndR_ok _ _ _ _) (Rlw.ov (Rlw.oc (Rlw.kndR_ok _ _ _ _) (Rlw.ov (Rlw.ov (Rlw.ov (Rlw.ov (Rlw.ov (Rlw.oc (Rlw.kndR_ok _ _ _ _) (Rlw.oc (Rlw.twoR_ok _ _ _ _) (Rlw.oc (Rlw.twoR_ok _ _ _ _) (Rlw.ov (Rlw.ov (Rlw.oc (Rlw.boxR_ok _ _ _) (Rlw.oc (Rlw.putV_ok _ _ _) (Rlw.ov (Rlw.ov (List.forall_mem_nil _))))))))))))))))))
    ·refine Rlw.wk rfl ?_ ?_
     ·intro σ wx hK hF post hp
      have hq:=PC14.out.below (Rlw.keep_below hK)
      refine Rlw.yld_get 27 _ rfl (q:=w.heap.size) (by go_simp) hq _ Tryz.underlying27 rfl rfl ?_
      exact hp _ _ Rlw.left_val
     refine Rlw.wk rfl ?_ ?_
     ·intro σ wx hK hF post hp
      have f0:=Rlw.fv hF 0 rfl rfl
      have hb:=Rlw.keep_below hK
      go_simp
      refine Rlw.yld_call ?_
      refine (HTC.out _ (RC.out.below (X14.out.trans (hb.mono X14.out.size)))).mono ?_
      rintro e w9 ⟨A9,L9,rfl,ho,b9⟩
      exact ⟨_,rfl,hp _ _ (Rlw.left_knd ⟨A9,L9,rfl,ho⟩ hK.size b9)⟩
     refine Rlw.wk rfl ?_ ?_
     ·intro σ wx hK hF post hp
      have hq:=PA14.out.below (Rlw.keep_below hK)
      refine Rlw.yld_get 33 _ rfl (q:=w.heap.size+1) (by go_simp) hq _ Tryz.underlying33 rfl rfl ?_
      exact hp _ _ Rlw.left_val
     refine Rlw.wk rfl ?_ ?_
     ·intro σ wx hK hF post hp
      have f2:=Rlw.fv hF 2 rfl rfl
      have hb:=Rlw.keep_below hK
      go_simp
      refine Rlw.yld_call ?_
      refine (HTA.out _ (RA.out.below (X14.out.trans (hb.mono X14.out.size)))).mono ?_
      rintro e w9 ⟨A9,rfl,ho,b9⟩
      exact ⟨_,rfl,hp _ _ (Rlw.left_knd ⟨A9,rfl,ho⟩ hK.size b9)⟩
     refine Rlw.wk rfl ?_ ?_
     ·intro σ wx hK hF post hp
      go_simp
      exact Rlw.yv hp
     refine Rlw.wk rfl ?_ ?_
     ·intro σ wx hK hF post hp
      go_simp
      exact Rlw.yv hp
     refine Rlw.wk rfl ?_ ?_
     ·intro σ wx hK hF post hp
      go_simp
      exact Rlw.yv hp
     refine Rlw.wk rfl ?_ ?_
     ·intro σ wx hK hF post hp
      go_simp
      exact Rlw.yv hp
     refine Rlw.wk rfl ?_ ?_
     ·intro σ wx hK hF post hp
      go_simp
      exact Rlw.yv hp
     refine Rlw.wk rfl ?_ ?_
     ·intro σ wx hK hF post hp
      have f1:(kCf c).own wx w14.heap.size (σ 1):=Rlw.fact_of hF (j:=1) rfl rfl
      have f3:(kHu h).own wx w14.heap.size (σ 3):=Rlw.fact_of hF (j:=3) rfl rfl
      have f4:=Rlw.fv hF 4 rfl rfl
      have f5:=Rlw.fv hF 5 rfl rfl
      have f6:=Rlw.fv hF 6 rfl rfl
      have f7:=Rlw.fv hF 7 rfl rfl
      have f8:=Rlw.fv hF 8 rfl rfl
      obtain ⟨A0,L0,e0,o0⟩:=f1
      have d0:σ 1=.agg #[.int .i64 c.ip,.int .i64 c.b,.int .i64 c.gt,.string c.gm,.string c.wm,.int .i64 c.rs,.slice A0.x c.ps.length A0.xc,.slice A0.y c.ros.length A0.yc]:=e0
      clear e0
      obtain ⟨A1,e1,o1⟩:=f3
      have d1:σ 3=.agg #[.slice A1.u h.us.length A1.uc,.slice A1.s h.ss.length A1.sc,.slice A1.f h.fs.length A1.fc,.slice A1.r h.es.length A1.rc,.int .i64 h.nx]:=e1
      clear e1
      have hb:=Rlw.keep_below hK
      go_simp
      refine Rlw.yld_call ?_
      refine (HI.out A0 L0 A1 _ _ _ (X14.out.trans (hb.mono X14.out.size)) o0 o1).mono ?_
      rintro e w9 ⟨R9,rfl,ho,b9⟩
      exact ⟨_,rfl,hp _ _ (Rlw.left_knd ⟨_,_,_,rfl,⟨R9,rfl,ho⟩,rfl,rfl⟩ hK.size b9)⟩
     refine Rlw.wk rfl ?_ ?_
     ·intro σ wx hK hF post hp
      have f9:(Knd.three (kHu G) (Knd.val (.int .i64 d)) (Knd.val (.int .i64 k))).own wx w14.heap.size (σ 9):=Rlw.fact_of hF (j:=9) rfl rfl
      obtain ⟨y1,y2,y3,hy,⟨R9,rfl,-⟩,rfl,rfl⟩:=f9
      go_simp
      refine Rlw.yld_val ?_
      refine hp _ _ (Rlw.left_below ?_ (fun b h=>h.elim) (Below.refl _ _))
      exact ⟨by simp [Rlw.upd,hy],R9,by simp [Rlw.upd]⟩
     refine Rlw.wk rfl ?_ ?_
     ·intro σ wx hK hF post hp
      have f10:σ 10=σ 9∧∃ R,σ 10=.tuple #[.agg (huC R G).toArray,.int .i64 d,.int .i64 k]:=Rlw.fact_of hF (j:=10) rfl rfl
      obtain ⟨-,R9,h9⟩:=f10
      go_simp
      refine Rlw.yld_val ?_
      refine hp _ _ (Rlw.left_below ?_ (fun b h=>h.elim) (Below.refl _ _))
      exact ⟨R9,by simp [Rlw.upd],by simp [Rlw.upd,h9]⟩
     refine Rlw.wk rfl ?_ ?_
     ·intro σ wx hK hF post hp
      have f10:σ 10=σ 9∧∃ R,σ 10=.tuple #[.agg (huC R G).toArray,.int .i64 d,.int .i64 k]:=Rlw.fact_of hF (j:=10) rfl rfl
      obtain ⟨-,R9,h9⟩:=f10
      go_simp
      exact Rlw.yv hp
     refine Rlw.wk rfl ?_ ?_
     ·intro σ wx hK hF post hp
      have f10:σ 10=σ 9∧∃ R,σ 10=.tuple #[.agg (huC R G).toArray,.int .i64 d,.int .i64 k]:=Rlw.fact_of hF (j:=10) rfl rfl
      obtain ⟨-,R9,h9⟩:=f10
      go_simp
      exact Rlw.yv hp
     refine Rlw.wk rfl ?_ ?_
     ·intro σ wx hK hF post hp
      go_simp
      refine Rlw.yld_val ?_
      exact hp _ _ (Rlw.left_box #[.slice none 0 0,.slice none 0 0,.slice none 0 0,.slice none 0 0,.int .i64 0] _)
     refine Rlw.wk rfl ?_ ?_
     ·intro σ wx hK hF post hp
      have f14:Rlw.boxF [.slice none 0 0,.slice none 0 0,.slice none 0 0,.slice none 0 0,.int .i64 0] (σ 14) wx:=Rlw.fact_of hF (j:=14) rfl rfl
      have f11:∃ R,σ 11=.agg (huC R G).toArray∧σ 10=.tuple #[σ 11,.int .i64 d,.int .i64 k]:=Rlw.fact_of hF (j:=11) rfl rfl
      obtain ⟨q9,hq9,hb9⟩:=f14
      obtain ⟨R9,h9,-⟩:=f11
      refine Rlw.yld_put 41 _ _ rfl (q:=q9) (cells:=(huC R9 G).toArray) (by go_simp;try exact hq9) (by go_simp;try exact h9) hb9 rfl (by rfl) rfl ?_
      exact hp _ _ (Rlw.left_putV (t:=11) rfl (by decide) (by decide) hq9 h9 hb9 rfl)
     refine Rlw.wk rfl ?_ ?_
     ·intro σ wx hK hF post hp
      have f12:=Rlw.fv hF 12 rfl rfl
      go_simp
      exact Rlw.yv hp
     refine Rlw.wk rfl ?_ ?_
     ·intro σ wx hK hF post hp
      have f13:=Rlw.fv hF 13 rfl rfl
      go_simp
      exact Rlw.yv hp
     exact Rlw.walk_nil
    ·intro σ w15 hK hF hA
     have Bw15:Below w14.heap.size w14 w15:=Rlw.keep_below hK
     have f9:(Knd.three (kHu G) (Knd.val (.int .i64 d)) (Knd.val (.int .i64 k))).own w15 w14.heap.size (σ 9):=Rlw.fact_of hF (j:=9) rfl rfl
     have f10:σ 10=σ 9∧∃ R,σ 10=.tuple #[.agg (huC R G).toArray,.int .i64 d,.int .i64 k]:=Rlw.fact_of hF (j:=10) rfl rfl
     have f11:∃ R,σ 11=.agg (huC R G).toArray∧σ 10=.tuple #[σ 11,.int .i64 d,.int .i64 k]:=Rlw.fact_of hF (j:=11) rfl rfl
     have f15:∃ cs:List Value,σ 11=.agg cs.toArray∧Rlw.boxF cs (σ 14) w15:=Rlw.fact_of hF (j:=15) rfl rfl
     have f16:σ 16=.int .i64 d:=Rlw.fact_of hF (j:=16) rfl rfl
     have f17:σ 17=.int .i64 k:=Rlw.fact_of hF (j:=17) rfl rfl
     obtain ⟨Rw15,nw15,hn9,Ow15,Nw15,hbk⟩:=leafHV f9 f10 f11 f15
     have hlo:=(Rlw.owns_of hF (j:=15) rfl rfl nw15 hn9).2
     have hlt:=(Rlw.owns_of hF (j:=15) rfl rfl nw15 hn9).1
     have hap:¬ huB Rw15 G nw15:=fun hx=>hA 9 15 _ _ (by decide) (by decide) (by decide) rfl rfl nw15 (hbk _ hx) hn9
     replace Nw15:Bx w15 nw15 [.slice Rw15.u G.us.length Rw15.uc,.slice Rw15.s G.ss.length Rw15.sc,.slice Rw15.f G.fs.length Rw15.fc,.slice Rw15.r G.es.length Rw15.rc,.int .i64 G.nx]:=Nw15
     simp only [Rlw.putAll,Nat.zero_add,Nat.reduceAdd,hn9,f16,f17]
     clear f9 f10 f11 f15 f16 f17 hF hA hK hbk hn9
     go_simp
     have bx:=Bw15
     clear hlo hlt hap
     have PC15:Hid (Bx w15 (w.heap.size) [.int .i64 c.ip,.int .i64 c.b,.int .i64 c.gt,.string c.gm,.string c.wm,.int .i64 c.rs,.slice C.x c.ps.length C.xc,.slice C.y c.ros.length C.yc]):=PC14.out.below bx
     have PA15:Hid (Bx w15 (w.heap.size+1) [.slice A.u h.us.length A.uc,.slice A.s h.ss.length A.sc,.slice A.f h.fs.length A.fc,.slice A.r h.es.length A.rc,.int .i64 h.nx]):=PA14.out.below bx
     have N315:Hid (Bx w15 (nw3) [.slice Rw3.u G.us.length Rw3.uc,.slice Rw3.s G.ss.length Rw3.sc,.slice Rw3.f G.fs.length Rw3.fc,.slice Rw3.r G.es.length Rw3.rc,.int .i64 G.nx]):=N314.out.below bx
     have O315:Hid (OwnHu w15 w2.heap.size Rw3 G):=O314.out.now bx
     have M615:Hid (Bx w15 (w6.heap.size) [.slice R6.u G.us.length R6.uc,.slice R6.s G.ss.length R6.sc,.slice R6.f G.fs.length R6.fc,.slice R6.r G.es.length R6.rc,.int .i64 G.nx]):=M614.out.below bx
     have Q615:Hid (MkdHu w15 ((w5.alloc (.cells #[.slice A5.u h.us.length A5.uc,.slice A5.s h.ss.length A5.sc,.slice A5.f h.fs.length A5.fc,.slice A5.r h.es.length A5.rc,.int .i64 h.nx] 41)).heap.size) R6 G 1):=Q614.out.now bx
     have X15:Hid (Below w.heap.size w w15):=X14.out.trans ((bx).mono X14.out.size)
     clear PC14 PA14 N314 O314 M614 Q614 X14
     clear bx Bw15
     have NH15:Hid (Bx w15 nw15 [.slice Rw15.u G.us.length Rw15.uc,.slice Rw15.s G.ss.length Rw15.sc,.slice Rw15.f G.fs.length Rw15.fc,.slice Rw15.r G.es.length Rw15.rc,.int .i64 G.nx]):=Nw15
     go_wp2_with (first | (refine wpl_getT 27 rfl _ rfl (w.heap.size) rfl (PC15.out) _ Tryz.underlying27 rfl rfl ?_) | (refine wpl_getT 33 rfl _ rfl (w.heap.size+1) rfl (PA15.out) _ Tryz.underlying33 rfl rfl ?_) | (refine wpl_getT 41 rfl _ rfl (nw3) rfl (N315.out) _ Tryz.underlying41 rfl rfl ?_) | (refine wpl_getT 41 rfl _ rfl (w6.heap.size) rfl (M615.out) _ Tryz.underlying41 rfl rfl ?_) | (refine wpl_getT 41 rfl _ rfl (nw15) rfl (NH15.out) _ Tryz.underlying41 rfl rfl ?_) | fail)
     refine (HE.out Rw15 Rw3 _ (Ow15.rw OKG.out) (O315.out.rw OKG.out)).mono ?_
     rintro e w16 ⟨rfl,bx⟩
     clear Ow15 Nw15
     have PC16:Hid (Bx w16 (w.heap.size) [.int .i64 c.ip,.int .i64 c.b,.int .i64 c.gt,.string c.gm,.string c.wm,.int .i64 c.rs,.slice C.x c.ps.length C.xc,.slice C.y c.ros.length C.yc]):=PC15.out.below bx
     have PA16:Hid (Bx w16 (w.heap.size+1) [.slice A.u h.us.length A.uc,.slice A.s h.ss.length A.sc,.slice A.f h.fs.length A.fc,.slice A.r h.es.length A.rc,.int .i64 h.nx]):=PA15.out.below bx
     have N316:Hid (Bx w16 (nw3) [.slice Rw3.u G.us.length Rw3.uc,.slice Rw3.s G.ss.length Rw3.sc,.slice Rw3.f G.fs.length Rw3.fc,.slice Rw3.r G.es.length Rw3.rc,.int .i64 G.nx]):=N315.out.below bx
     have O316:Hid (OwnHu w16 w2.heap.size Rw3 G):=O315.out.now bx
     have M616:Hid (Bx w16 (w6.heap.size) [.slice R6.u G.us.length R6.uc,.slice R6.s G.ss.length R6.sc,.slice R6.f G.fs.length R6.fc,.slice R6.r G.es.length R6.rc,.int .i64 G.nx]):=M615.out.below bx
     have Q616:Hid (MkdHu w16 ((w5.alloc (.cells #[.slice A5.u h.us.length A5.uc,.slice A5.s h.ss.length A5.sc,.slice A5.f h.fs.length A5.fc,.slice A5.r h.es.length A5.rc,.int .i64 h.nx] 41)).heap.size) R6 G 1):=Q615.out.now bx
     have NH16:Hid (Bx w16 (nw15) [.slice Rw15.u G.us.length Rw15.uc,.slice Rw15.s G.ss.length Rw15.sc,.slice Rw15.f G.fs.length Rw15.fc,.slice Rw15.r G.es.length Rw15.rc,.int .i64 G.nx]):=NH15.out.below bx
     have X16:Hid (Below w.heap.size w w16):=X15.out.trans ((bx).mono X15.out.size)
     clear PC15 PA15 N315 O315 M615 Q615 NH15 X15
     clear bx
     go_wp2_with (first | (refine wpl_getT 27 rfl _ rfl (w.heap.size) rfl (PC16.out) _ Tryz.underlying27 rfl rfl ?_) | (refine wpl_getT 33 rfl _ rfl (w.heap.size+1) rfl (PA16.out) _ Tryz.underlying33 rfl rfl ?_) | (refine wpl_getT 41 rfl _ rfl (nw3) rfl (N316.out) _ Tryz.underlying41 rfl rfl ?_) | (refine wpl_getT 41 rfl _ rfl (w6.heap.size) rfl (M616.out) _ Tryz.underlying41 rfl rfl ?_) | (refine wpl_getT 41 rfl _ rfl (nw15) rfl (NH16.out) _ Tryz.underlying41 rfl rfl ?_) | fail)
     refine (HH.out _ Q616.out).mono ?_
     rintro e w17 ⟨rfl,bx⟩
     have XZ:=X16.out.trans (bx.mono X16.out.size)
     go_wp2
     go_ret
     exact ⟨rfl,XZ⟩
end Go.Proofs.YtojcakkkakmniaaGreatDoor
