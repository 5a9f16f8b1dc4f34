/- l08Login of the model, packed. -/
import Derived.Test.YtojcakkkakmniaaGreatDoorJ28
namespace Go.Proofs.YtojcakkkakmniaaGreatDoor
open Go.RowKit Go.PlainAid Go.Proofs.YtojcakkkakmniaaGreatDoor.Bt Go.Sort
set_option linter.unusedVariables false
set_option maxRecDepth 20000
namespace Rlw
def iniK (v:Value) (k:Knd) (B:Nat):Rsc:=⟨fun _ w=>k.own w B v,fun _ w b=>k.bk w v b,[],[],[]⟩
theorem iniK_ok {Bs:Nat→Prop} (v:Value) (k:Knd) (B:Nat):(iniK v k B).Ok Bs :=
 ⟨fun σ w w' h hk=>k.keep w w' B v h (fun b hb=>hk.block b (.inr hb)),fun σ σ' _ w=>⟨fun h=>h,fun b hb=>hb⟩⟩
end Rlw
theorem ixI_one {V:Type} {p:V→Bool} {xs:List V} {k:Nat} {x:V} (hx:xs[k]?=some x) (hp:p x=true) (h:(xs.take k).find? p=none):(k:Int)=ixI p (xs.take (k+1)):=by
 have hx2:(xs.take (k+1))[k]?=some x:=by rw [List.getElem?_take_of_lt (by omega)];exact hx
 exact (ixI_at hx2 (by rw [List.take_take,Nat.min_eq_left (by omega)];exact h) hp).symm
theorem ixI_two {V:Type} {p:V→Bool} {xs:List V} {k:Nat} {x:V} (hx:xs[k]?=some x) (hp:p x=false):ixI p (xs.take k)=ixI p (xs.take (k+1)):=by
 have e:xs.take (k+1)=xs.take k ++ [x]:=by rw [List.take_add_one,hx];rfl
 unfold ixI
 rw [e,List.find?_append,List.findIdx_append]
 cases hq:(xs.take k).find? p with
 | none=>simp [hp]
 | some y =>
  have hlt:(xs.take k).findIdx p<(xs.take k).length:=List.findIdx_lt_length_of_exists ⟨y,List.mem_of_find?_eq_some hq,List.find?_some hq⟩
  rw [if_pos hlt]
  rfl
theorem ixI_was {V:Type} {p:V→Bool} {xs:List V} (h:¬ ixI p xs<0):∃ (m:Nat) (x:V),ixI p xs=(m:Int)∧xs[m]?=some x:=by
 unfold ixI at h ⊢
 cases hq:xs.find? p with
 | none=>rw [hq] at h;simp at h
 | some y =>
  have hlt:xs.findIdx p<xs.length:=List.findIdx_lt_length_of_exists ⟨y,List.mem_of_find?_eq_some hq,List.find?_some hq⟩
  exact ⟨_,_,rfl,List.getElem?_eq_getElem hlt⟩
set_option maxHeartbeats 16000000 in
theorem l08Login_any (C:CfA) (c:CfV) (A:HuA) (h:HuV) (nm wd mc:ByteArray) (ip now:Int) (X:LgR) (w:World) (rc:CfR w C c) (rh:HuR w A h) (hs:HuS w A h) (sc:CfSz c) (sh:HuSz h) (LK:LgK c h mc ip now) (lw:wd.size≤40) (lm:mc.size≤maxLen) (hX:X=lgO c h nm wd mc ip now) :
  Calls Tryz.prog 25 #[.agg #[.int .i64 c.ip,.int .i64 c.b,.int .i64 c.gt,.string c.gm,.string c.wm,.int .i64 c.rs,.slice C.x c.ps.length C.xc,.slice C.y c.ros.length C.yc],.agg #[.slice A.u h.us.length A.uc,.slice A.s h.ss.length A.sc,.slice A.f h.fs.length A.fc,.slice A.r h.es.length A.rc,.int .i64 h.nx],.string nm,.string wd,.string mc,.int .i64 ip,.int .i64 now] w fun e w'=>∃ A':HuA,e=.returned (.tuple #[.agg #[.slice A'.u X.g.us.length A'.uc,.slice A'.s X.g.ss.length A'.sc,.slice A'.f X.g.fs.length A'.fc,.slice A'.r X.g.es.length A'.rc,.int .i64 X.g.nx],.int .i64 X.id,.int .i64 X.k])∧HuS w' A' X.g∧Below w.heap.size w w':=by
 have P0:Hid (LgPB C c A h w (((w.alloc (.cells #[.int .i64 c.ip,.int .i64 c.b,.int .i64 c.gt,.string c.gm,.string c.wm,.int .i64 c.rs,.slice C.x c.ps.length C.xc,.slice C.y c.ros.length C.yc] 48)).alloc (.cells #[.slice A.u h.us.length A.uc,.slice A.s h.ss.length A.sc,.slice A.f h.fs.length A.fc,.slice A.r h.es.length A.rc,.int .i64 h.nx] 41)).alloc (.cells #[.slice none 0 0,.slice none 0 0,.slice none 0 0,.slice none 0 0,.int .i64 0] 41))):=by
  refine ⟨((Bx.new w #[.int .i64 c.ip,.int .i64 c.b,.int .i64 c.gt,.string c.gm,.string c.wm,.int .i64 c.rs,.slice C.x c.ps.length C.xc,.slice C.y c.ros.length C.yc] 48).below ((Below.refl _ _).alloc (Nat.le_refl _) _)).below ((Below.refl _ _).alloc (Nat.le_refl _) _),?_,?_,(((Below.refl _ _).alloc (Nat.le_refl _) _).alloc (by simp) _).alloc (by simp;omega) _⟩
  ·have h:=Bx.new (w.alloc (.cells #[.int .i64 c.ip,.int .i64 c.b,.int .i64 c.gt,.string c.gm,.string c.wm,.int .i64 c.rs,.slice C.x c.ps.length C.xc,.slice C.y c.ros.length C.yc] 48)) #[.slice A.u h.us.length A.uc,.slice A.s h.ss.length A.sc,.slice A.f h.fs.length A.fc,.slice A.r h.es.length A.rc,.int .i64 h.nx] 41
   rw [World.size_alloc] at h
   exact h.below ((Below.refl _ _).alloc (Nat.le_refl _) _)
  ·have h:=Bx.new ((w.alloc (.cells #[.int .i64 c.ip,.int .i64 c.b,.int .i64 c.gt,.string c.gm,.string c.wm,.int .i64 c.rs,.slice C.x c.ps.length C.xc,.slice C.y c.ros.length C.yc] 48)).alloc (.cells #[.slice A.u h.us.length A.uc,.slice A.s h.ss.length A.sc,.slice A.f h.fs.length A.fc,.slice A.r h.es.length A.rc,.int .i64 h.nx] 41)) #[.slice none 0 0,.slice none 0 0,.slice none 0 0,.slice none 0 0,.int .i64 0] 41
   rw [World.size_alloc,World.size_alloc] at h
   exact h
 have OKF:Hid (risB faB ltF h.fs=true∧h.fs.length≤20∧∀ z,z ∈ h.fs→0≤z.ct∧z.ct≤2):=okG_fs LK.ok
 have HF:Hid (∀ wx,Below w.heap.size w wx→Calls Tryz.prog 66 #[.agg #[.slice A.u h.us.length A.uc,.slice A.s h.ss.length A.sc,.slice A.f h.fs.length A.fc,.slice A.r h.es.length A.rc,.int .i64 h.nx],.string mc] wx fun e w'=>e=.returned (.int .i64 (fkN mc h.fs:Nat))∧Below wx.heap.size wx w'):=fun wx hbx=>(l08Fail_any A h mc wx (rh.below hbx).fs (by have:=OKF.out.2.1;omega)).mono fun e w' h=>⟨h.1,h.2.below⟩
 have HFD:Hid (∀ wx,Below w.heap.size w wx→Calls Tryz.prog 68 #[.agg #[.slice A.u h.us.length A.uc,.slice A.s h.ss.length A.sc,.slice A.f h.fs.length A.fc,.slice A.r h.es.length A.rc,.int .i64 h.nx],.string mc,.int .i64 now] wx fun e w'=>∃ A':HuA,e=.returned (.agg #[.slice A'.u (lgN h mc now).g.us.length A'.uc,.slice A'.s (lgN h mc now).g.ss.length A'.sc,.slice A'.f (lgN h mc now).g.fs.length A'.fc,.slice A'.r (lgN h mc now).g.es.length A'.rc,.int .i64 (lgN h mc now).g.nx])∧HuP (fun b=>b<w.heap.size ∨ wx.heap.size≤b) w' A' (lgN h mc now).g∧Below wx.heap.size wx w'):=fun wx hbx=>l08Failed_keep _ A h mc now wx (hs.keepP.step hbx.size (fun b _ hl=>⟨hl,hbx.block b hl⟩)) OKF.out.2.1 OKF.out.2.2 rh.ok.fs lm LK.now
 have HO:Hid (∀ wx,Below w.heap.size w wx→Calls Tryz.prog 26 #[.agg #[.slice A.u h.us.length A.uc,.slice A.s h.ss.length A.sc,.slice A.f h.fs.length A.fc,.slice A.r h.es.length A.rc,.int .i64 h.nx]] wx fun e w'=>∃ R:HuA,e=.returned (.agg #[.slice R.u h.us.length R.uc,.slice R.s h.ss.length R.sc,.slice R.f h.fs.length R.fc,.slice R.r h.es.length R.rc,.int .i64 h.nx])∧OwnHu w' wx.heap.size R h∧Below wx.heap.size wx w'):=fun wx hbx=>spec_own A h wx (hs.below hbx)
 have RH:Hid (HuR w A h):=rh
 have HS:Hid (HuS w A h):=hs
 have RC:Hid (CfR w C c):=rc
 have SC:Hid (CfSz c):=sc
 have SH:Hid (HuSz h):=sh
 have KK:Hid (LgK c h mc ip now):=LK
 have LW:Hid (wd.size≤40):=lw
 obtain ⟨n,hl⟩:∃ n,h.fs.length=n:=⟨_,rfl⟩
 have HL9:Hid (h.fs.length=n):=hl
 obtain ⟨K,hK⟩:∃ K,K=fkN mc h.fs:=⟨_,rfl⟩
 have HK9:Hid (K=fkN mc h.fs):=hK
 rw [← hK] at HF
 have hc4:(atF mc h.fs (fun x=>decide (now<x.un))=true∧∃ x,h.fs[K]?=some x∧(x.mc.toList == mc.toList)=true∧now<x.un) ∨ (atF mc h.fs (fun x=>decide (now<x.un))=false∧(¬ K<n ∨ (∃ x,h.fs[K]?=some x∧(x.mc.toList == mc.toList)=false) ∨ ∃ x,h.fs[K]?=some x∧(x.mc.toList == mc.toList)=true∧¬ now<x.un)):=by
  rcases Nat.lt_or_ge K n with hlt | hge
  ·obtain ⟨x,hx⟩:=at_of hl hlt
   have hx':=hx
   rw [hK] at hx'
   rw [atF_at hx']
   unfold eqM
   cases hq:(x.mc.toList == mc.toList) with
   | false=>exact .inr ⟨rfl,.inr (.inl ⟨x,hx,hq⟩)⟩
   | true =>
    by_cases hu:now<x.un
    ·exact .inl ⟨by simp [hu],x,hx,hq,hu⟩
    ·exact .inr ⟨by simp [hu],.inr (.inr ⟨x,hx,hq,hu⟩)⟩
  ·exact .inr ⟨atF_no (by rw [← hK];exact List.getElem?_eq_none (by omega)),.inl (by omega)⟩
 have EW:Hid (atF mc h.fs (fun x=>decide (now<x.un))=true→X=⟨h,0,14⟩):=fun hq=>by rw [hX];unfold lgO;rw [if_pos hq]
 have EN:Hid (atF mc h.fs (fun x=>decide (now<x.un))=false→(ixI (nmP nm) h.us<0→X=lgN h mc now)∧∀ (m:Nat) (u:UserV),ixI (nmP nm) h.us=(m:Int)→h.us[m]?=some u→X=lgU c h u wd m mc ip now):=fun hq=>by
  rw [hX]
  unfold lgO
  rw [if_neg (by rw [hq];simp)]
  refine ⟨fun h0=>?_,fun m u hm hu=>?_⟩
  ·split
   ·rw [if_pos h0]
   ·rfl
  ·rw [hm,show ((m:Int)).toNat=m by simp,hu]
   dsimp only
   rw [if_neg (by omega)]
 have HC4:Hid (_ ∨ _):=hc4
 have XOK:Hid (HuOk X.g∧HuL X.g):=by
  have hl9:=lgO_l (nm:=nm) (wd:=wd) (mc:=mc) (ip:=ip) (now:=now) LK.ok
  rw [← hX] at hl9
  refine ⟨by rw [hX];exact lgO_ok LK rh.ok,?_⟩
  exact ⟨by have:=sh.us;have:=hl9.us;omega,by have:=sh.ss;have:=hl9.ss;omega,by have:=sh.fs;have:=hl9.fs;omega,by have:=sh.es;have:=hl9.es;omega⟩
 clear rc rh hs sc sh LK lw hX hl hK hc4
 go_enter Tryz.func25,Tryz.ntmps25
 go_wp2_with (first | (refine wpl_getT 41 rfl _ rfl (w.heap.size+1) rfl P0.out.2.1 _ Tryz.underlying41 rfl rfl ?_) | fail)
 refine (HF.out _ P0.out.2.2.2).mono ?_
 rintro e w1 ⟨rfl,bx⟩
 have P1:Hid (LgPB C c A h w w1):=⟨P0.out.1.below bx,P0.out.2.1.below bx,P0.out.2.2.1.below bx,P0.out.2.2.2.trans (bx.mono P0.out.2.2.2.size)⟩
 clear bx P0 HF
 obtain ⟨T,hT⟩:∃ T,T=atF mc h.fs (fun x=>decide (now<x.un)):=⟨_,rfl⟩
 rw [← hT] at HC4 EW EN
 clear hT
 go_upto_region 2 with fail
 go_cut [49] from 25 to 49 (fun s wx=>s=.bool T∧Hid (LgPB C c A h w wx))
 case first =>
  rcases HC4.out with ⟨hT,x,hx,hq,hu⟩ | ⟨hT,h1 | ⟨x,hx,hq⟩ | ⟨x,hx,hq,hu⟩⟩
  all_goals subst hT
  ·have hxl:(K:Int)<(h.fs.length:Int):=by have:=(List.getElem?_eq_some_iff.1 hx).1;omega
   obtain ⟨bk,off,eu,-,hcx⟩:=rw_hold (c:=fvG) (ok:=FaRok) RH.out.fs hx
   have g2:w1.cell? ⟨w.heap.size+1,2,none⟩=some (.slice (some ⟨bk,off,none⟩) h.fs.length A.fc):=by
    have:=P1.out.2.1.cell 2 rfl
    rw [eu] at this
    exact this
   have q0:w1.cell? ⟨bk,off+K * 3,none⟩=some (.string x.mc):=hcx _ P1.out.2.2.2 0 _ rfl
   have q2:w1.cell? ⟨bk,off+K * 3+2,none⟩=some (.int .i64 x.un):=hcx _ P1.out.2.2.2 2 _ rfl
   clear hcx eu hx
   have hu':decide (now<x.un)=true:=decide_eq_true (by omega)
   go_wp2
   go_meet
   exact ⟨rfl,P1⟩
  ·have hxl:¬ (K:Int)<(h.fs.length:Int):=by have:=HL9.out;omega
   have g2:=P1.out.2.1.cell 2 rfl
   clear h1
   go_wp2
   go_meet
   exact ⟨rfl,P1⟩
  ·have hxl:(K:Int)<(h.fs.length:Int):=by have:=(List.getElem?_eq_some_iff.1 hx).1;omega
   obtain ⟨bk,off,eu,-,hcx⟩:=rw_hold (c:=fvG) (ok:=FaRok) RH.out.fs hx
   have g2:w1.cell? ⟨w.heap.size+1,2,none⟩=some (.slice (some ⟨bk,off,none⟩) h.fs.length A.fc):=by
    have:=P1.out.2.1.cell 2 rfl
    rw [eu] at this
    exact this
   have q0:w1.cell? ⟨bk,off+K * 3,none⟩=some (.string x.mc):=hcx _ P1.out.2.2.2 0 _ rfl
   have q2:w1.cell? ⟨bk,off+K * 3+2,none⟩=some (.int .i64 x.un):=hcx _ P1.out.2.2.2 2 _ rfl
   clear hcx eu hx
   go_wp2
   go_meet
   exact ⟨rfl,P1⟩
  ·have hxl:(K:Int)<(h.fs.length:Int):=by have:=(List.getElem?_eq_some_iff.1 hx).1;omega
   obtain ⟨bk,off,eu,-,hcx⟩:=rw_hold (c:=fvG) (ok:=FaRok) RH.out.fs hx
   have g2:w1.cell? ⟨w.heap.size+1,2,none⟩=some (.slice (some ⟨bk,off,none⟩) h.fs.length A.fc):=by
    have:=P1.out.2.1.cell 2 rfl
    rw [eu] at this
    exact this
   have q0:w1.cell? ⟨bk,off+K * 3,none⟩=some (.string x.mc):=hcx _ P1.out.2.2.2 0 _ rfl
   have q2:w1.cell? ⟨bk,off+K * 3+2,none⟩=some (.int .i64 x.un):=hcx _ P1.out.2.2.2 2 _ rfl
   clear hcx eu hx
   have hu':decide (now<x.un)=false:=decide_eq_false (by omega)
   go_wp2
   go_meet
   exact ⟨rfl,P1⟩
 case rest =>
  obtain ⟨hc1,P2⟩:=hcut
  subst hc1
  clear P1 HC4
  cases T with
  | true =>
   have hX:=EW.out rfl
   subst hX
   clear EN
   go_wp2_with (first | (refine wpl_getT 41 rfl _ rfl (w.heap.size+1) rfl P2.out.2.1 _ Tryz.underlying41 rfl rfl ?_) | (refine wpl_putT 41 rfl _ _ rfl (w.heap.size+1+1) _ rfl rfl P2.out.2.2.1 rfl rfl rfl ?_;intro WR hwR RR;have BR:Hid (Below w.heap.size w WR):=(by rw [hwR];exact below_cells (by omega) _ _ _ P2.out.2.2.2);clear hwR) | fail)
   refine bodyPost_ret (v:=.tuple #[.agg #[.slice A.u h.us.length A.uc,.slice A.s h.ss.length A.sc,.slice A.f h.fs.length A.fc,.slice A.r h.es.length A.rc,.int .i64 h.nx],.int .i64 0,.int .i64 14]) (results_cell3 Tryz.results25 (w.heap.size+1+1) rfl rfl rfl RR _ Tryz.underlying41 rfl rfl) rfl ?_
   exact ⟨A,rfl,HS.out.below BR.out,BR.out⟩
  | false =>
   have EM:Hid (ixI (nmP nm) h.us<0→X=lgN h mc now):=(EN.out rfl).1
   have EY:Hid (∀ (m:Nat) (u:UserV),ixI (nmP nm) h.us=(m:Int)→h.us[m]?=some u→X=lgU c h u wd m mc ip now):=(EN.out rfl).2
   clear EW EN
   go_wp2_with fail
   go_loopw [18,19] (fun uu i wr=>∃ (k:Nat) (U:Int),k≤h.us.length∧i=.int .i64 k∧uu=.int .i64 U∧Hid (U=ixI (nmP nm) (h.us.take k))∧Hid (LgPB C c A h w wr)) (fun _ i _=>h.us.length - (intOf i).toNat)
   case atStart=>exact ⟨0,-1,Nat.zero_le _,rfl,rfl,rfl,P2⟩
   case round =>
    obtain ⟨k,U,hk,rfl,rfl,HU9,P3⟩:=hrel
    clear P2
    have hul:=SH.out.us
    by_cases hlt:k<h.us.length
    ·obtain ⟨z,hx⟩:=at_of rfl hlt
     obtain ⟨bu,ou,eu,-,hcu⟩:=rw_hold (c:=uvG) (ok:=UsRok) RH.out.us hx
     have g0:wr.cell? ⟨w.heap.size+1,0,none⟩=some (.slice (some ⟨bu,ou,none⟩) h.us.length A.uc):=by
      have:=P3.out.2.1.cell 0 rfl
      rw [eu] at this
      exact this
     have q0:wr.cell? ⟨bu,ou+k * 6,none⟩=some (.string z.nm):=hcu _ P3.out.2.2.2 0 _ rfl
     have hltz:(k:Int)<(h.us.length:Int):=by omega
     have HY:Hid (nmP nm z=true→(k:Int)=ixI (nmP nm) (h.us.take (k+1))):=fun hq=>ixI_one hx hq (okG_one9 KK.out.ok hx hq)
     have HN:Hid (nmP nm z=false→U=ixI (nmP nm) (h.us.take (k+1))):=fun hq=>HU9.out.trans (ixI_two hx hq)
     have HY0:=HY.out
     have HN0:=HN.out
     clear HY HN
     obtain ⟨q,hq⟩:∃ q,(z.nm.toList == nm.toList)=q:=⟨_,rfl⟩
     rw [show nmP nm z=q from hq] at HY0 HN0
     clear hcu hx HU9 eu
     cases q with
     | true =>
      have HY2:Hid ((k:Int)=ixI (nmP nm) (h.us.take (k+1))):=HY0 rfl
      clear HY0 HN0
      go_wp2
      go_roundw
      case rel=>exact ⟨k+1,(k:Int),by omega,by go_num,rfl,HY2,P3⟩
      case measure=>simp [intOf];omega
     | false =>
      have HN2:Hid (U=ixI (nmP nm) (h.us.take (k+1))):=HN0 rfl
      clear HY0 HN0
      go_wp2
      go_roundw
      case rel=>exact ⟨k+1,U,by omega,by go_num,rfl,HN2,P3⟩
      case measure=>simp [intOf];omega
    ·have hnl:¬ (k:Int)<(h.us.length:Int):=by omega
     have EU:Hid (U=ixI (nmP nm) h.us):=by
      show U=_
      rw [HU9.out,List.take_of_length_le (by omega)]
     have g0:=P3.out.2.1.cell 0 rfl
     clear HU9 hlt
     obtain ⟨W,hW1,hW2⟩:∃ W:Bool,(U<0→W=true)∧∀ (m:Nat) (u:UserV),U=(m:Int)→h.us[m]?=some u→W=!(pwB u wd):=by
      by_cases h0:U<0
      ·exact ⟨true,fun _=>rfl,fun m u hm _=>by omega⟩
      ·obtain ⟨m,u,hm,hu⟩:=ixI_was (p:=nmP nm) (xs:=h.us) (by rw [← EU.out];exact h0)
       refine ⟨!(pwB u wd),fun h=>absurd h h0,fun m' u' hm' hu'=>?_⟩
       have e1:=EU.out.trans hm
       obtain rfl:m=m':=by omega
       rw [hu] at hu'
       cases hu'
       rfl
     have EW1:Hid (U<0→W=true):=hW1
     have EW2:Hid (∀ (m:Nat) (u:UserV),U=(m:Int)→h.us[m]?=some u→W=!(pwB u wd)):=hW2
     clear hW1 hW2
     go_upto_region 10 with fail
     go_cut [85] from 67 to 85 (fun s wx=>s=.bool W∧Hid (LgPB C c A h w wx))
     case first =>
      clear g0
      by_cases h0:U<0
      ·have hW:=EW1.out h0
       subst hW
       have hz0:decide (U<0)=true:=decide_eq_true h0
       clear h0
       refine Rlw.wp_region_rel (w:=wr) [Rlw.valR 0 [] (.int .i64 U),Rlw.valR 1 [0] (.bool true),Rlw.valR 2 [1] (.bool true),Rlw.valR 3 [2] (undef),Rlw.valR 4 [2] (undef),Rlw.valR 5 [2] (undef),Rlw.valR 6 [2] (undef),Rlw.valR 7 [2] (undef),Rlw.valR 8 [2] (undef),Rlw.valR 9 [2] (undef),Rlw.valR 10 [2] (undef),Rlw.valR 11 [2] (undef),Rlw.valR 12 [2] (undef),Rlw.valR 13 [2] (undef),Rlw.valR 14 [2] (undef),Rlw.valR 15 [2] (undef),Rlw.valR 16 [2] (undef),Rlw.valR 17 [2] (undef),Rlw.valR 18 [2] (.bool true)] [] [0,1,2,3,4,5,6,7,8,9,10,11,12,13,14,15,16,17,18] (fun b=>b<wr.heap.size) (by kernel_rfl) (by kernel_rfl) (by kernel_rfl) ?_ (fun b h=>h) (fun k r hk=>by cases hk) (fun j k rj rk hj=>by cases hj) ?_ ?_
       ·exact Rlw.ov (Rlw.ov (Rlw.ov (Rlw.ov (Rlw.ov (Rlw.ov (Rlw.ov (Rlw.ov (Rlw.ov (Rlw.ov (Rlw.ov (Rlw.ov (Rlw.ov (Rlw.ov (Rlw.ov (Rlw.ov (Rlw.ov (Rlw.ov (Rlw.ov (List.forall_mem_nil _)))))))))))))))))))
       ·refine (Rlw.walk_cons ?s0 (Rlw.walk_cons ?s1 (Rlw.walk_cons ?s2 (Rlw.walk_cons ?s3 (Rlw.walk_cons ?s4 (Rlw.walk_cons ?s5 (Rlw.walk_cons ?s6 (Rlw.walk_cons ?s7 (Rlw.walk_cons ?s8 (Rlw.walk_cons ?s9 (Rlw.walk_cons ?s10 (Rlw.walk_cons ?s11 (Rlw.walk_cons ?s12 (Rlw.walk_cons ?s13 (Rlw.walk_cons ?s14 (Rlw.walk_cons ?s15 (Rlw.walk_cons ?s16 (Rlw.walk_cons ?s17 (Rlw.walk_cons ?s18 Rlw.walk_nil)))))))))))))))))))
        case s0 =>
         refine Rlw.step_want ?_ ?_
         ·rfl
         intro σ wx hK hF post hp
         go_simp
         exact Rlw.yv hp
        case s1 =>
         refine Rlw.step_want ?_ ?_
         ·rfl
         intro σ wx hK hF post hp
         have f0:=Rlw.fv hF 0 rfl rfl
         go_simp
         exact Rlw.yv hp
        case s2 =>
         refine Rlw.step_want ?_ ?_
         ·rfl
         intro σ wx hK hF post hp
         have f1:=Rlw.fv hF 1 rfl rfl
         go_simp
         exact Rlw.yv hp
        case s3 =>
         refine Rlw.step_skipG ?_
         intro σ wx hK hF
         have f2:=Rlw.fv hF 2 rfl rfl
         refine ⟨by (first | (unfold Region.wanted yielded;go_simp;done) | (simp [Region.wanted,yielded,f2,Act.put];done)),?_⟩
         exact Rlw.left_val
        case s4 =>
         refine Rlw.step_skipG ?_
         intro σ wx hK hF
         have f2:=Rlw.fv hF 2 rfl rfl
         refine ⟨by (first | (unfold Region.wanted yielded;go_simp;done) | (simp [Region.wanted,yielded,f2,Act.put];done)),?_⟩
         exact Rlw.left_val
        case s5 =>
         refine Rlw.step_skipG ?_
         intro σ wx hK hF
         have f2:=Rlw.fv hF 2 rfl rfl
         refine ⟨by (first | (unfold Region.wanted yielded;go_simp;done) | (simp [Region.wanted,yielded,f2,Act.put];done)),?_⟩
         exact Rlw.left_val
        case s6 =>
         refine Rlw.step_skipG ?_
         intro σ wx hK hF
         have f2:=Rlw.fv hF 2 rfl rfl
         refine ⟨by (first | (unfold Region.wanted yielded;go_simp;done) | (simp [Region.wanted,yielded,f2,Act.put];done)),?_⟩
         exact Rlw.left_val
        case s7 =>
         refine Rlw.step_skipG ?_
         intro σ wx hK hF
         have f2:=Rlw.fv hF 2 rfl rfl
         refine ⟨by (first | (unfold Region.wanted yielded;go_simp;done) | (simp [Region.wanted,yielded,f2,Act.put];done)),?_⟩
         exact Rlw.left_val
        case s8 =>
         refine Rlw.step_skipG ?_
         intro σ wx hK hF
         have f2:=Rlw.fv hF 2 rfl rfl
         refine ⟨by (first | (unfold Region.wanted yielded;go_simp;done) | (simp [Region.wanted,yielded,f2,Act.put];done)),?_⟩
         exact Rlw.left_val
        case s9 =>
         refine Rlw.step_skipG ?_
         intro σ wx hK hF
         have f2:=Rlw.fv hF 2 rfl rfl
         refine ⟨by (first | (unfold Region.wanted yielded;go_simp;done) | (simp [Region.wanted,yielded,f2,Act.put];done)),?_⟩
         exact Rlw.left_val
        case s10 =>
         refine Rlw.step_skipG ?_
         intro σ wx hK hF
         have f2:=Rlw.fv hF 2 rfl rfl
         refine ⟨by (first | (unfold Region.wanted yielded;go_simp;done) | (simp [Region.wanted,yielded,f2,Act.put];done)),?_⟩
         exact Rlw.left_val
        case s11 =>
         refine Rlw.step_skipG ?_
         intro σ wx hK hF
         have f2:=Rlw.fv hF 2 rfl rfl
         refine ⟨by (first | (unfold Region.wanted yielded;go_simp;done) | (simp [Region.wanted,yielded,f2,Act.put];done)),?_⟩
         exact Rlw.left_val
        case s12 =>
         refine Rlw.step_skipG ?_
         intro σ wx hK hF
         have f2:=Rlw.fv hF 2 rfl rfl
         refine ⟨by (first | (unfold Region.wanted yielded;go_simp;done) | (simp [Region.wanted,yielded,f2,Act.put];done)),?_⟩
         exact Rlw.left_val
        case s13 =>
         refine Rlw.step_skipG ?_
         intro σ wx hK hF
         have f2:=Rlw.fv hF 2 rfl rfl
         refine ⟨by (first | (unfold Region.wanted yielded;go_simp;done) | (simp [Region.wanted,yielded,f2,Act.put];done)),?_⟩
         exact Rlw.left_val
        case s14 =>
         refine Rlw.step_skipG ?_
         intro σ wx hK hF
         have f2:=Rlw.fv hF 2 rfl rfl
         refine ⟨by (first | (unfold Region.wanted yielded;go_simp;done) | (simp [Region.wanted,yielded,f2,Act.put];done)),?_⟩
         exact Rlw.left_val
        case s15 =>
         refine Rlw.step_skipG ?_
         intro σ wx hK hF
         have f2:=Rlw.fv hF 2 rfl rfl
         refine ⟨by (first | (unfold Region.wanted yielded;go_simp;done) | (simp [Region.wanted,yielded,f2,Act.put];done)),?_⟩
         exact Rlw.left_val
        case s16 =>
         refine Rlw.step_skipG ?_
         intro σ wx hK hF
         have f2:=Rlw.fv hF 2 rfl rfl
         refine ⟨by (first | (unfold Region.wanted yielded;go_simp;done) | (simp [Region.wanted,yielded,f2,Act.put];done)),?_⟩
         exact Rlw.left_val
        case s17 =>
         refine Rlw.step_skipG ?_
         intro σ wx hK hF
         have f2:=Rlw.fv hF 2 rfl rfl
         refine ⟨by (first | (unfold Region.wanted yielded;go_simp;done) | (simp [Region.wanted,yielded,f2,Act.put];done)),?_⟩
         exact Rlw.left_val
        case s18 =>
         refine Rlw.step_want ?_ ?_
         ·rfl
         intro σ wx hK hF post hp
         have f2:=Rlw.fv hF 2 rfl rfl
         go_simp
         exact Rlw.yv hp
       ·intro σ w5 hK hF hA
        have f18:σ 18=.bool true:=Rlw.fact_of hF (j:=18) rfl rfl
        have bx:=Rlw.keep_below hK
        simp only [Rlw.putAll,Nat.zero_add,Nat.reduceAdd,f18]
        clear hF hA hK f18
        go_simp
        go_wp2
        go_meet
        exact ⟨rfl,⟨P3.out.1.below bx,P3.out.2.1.below bx,P3.out.2.2.1.below bx,P3.out.2.2.2.trans (bx.mono P3.out.2.2.2.size)⟩⟩
      ·obtain ⟨m,u,hm,hu⟩:=ixI_was (p:=nmP nm) (xs:=h.us) (by rw [← EU.out];exact h0)
       have hUm:U=(m:Int):=EU.out.trans hm
       subst hUm
       have hW:=EW2.out m u rfl hu
       unfold pwB at hW
       have HPW0:=fun wx=>l04Pass_any u.sa wd 3 wx (okG_us KK.out.ok hu).1 LW.out (by omega)
       obtain ⟨PS,hPS⟩:∃ PS,PS=passS u.sa wd 3:=⟨_,rfl⟩
       rw [← hPS] at hW HPW0
       have HPW:Hid (∀ wx,Calls Tryz.prog 67 #[.string u.sa,.string wd,.int .i64 3] wx fun e w'=>e=.returned (.string PS)∧Below wx.heap.size wx w'):=HPW0
       obtain ⟨bu,ou,eu,-,hcu⟩:=rw_hold (c:=uvG) (ok:=UsRok) RH.out.us hu
       have EU9:Hid (A.u=some ⟨bu,ou,none⟩):=eu
       have HCU:Hid (∀ wx,Below w.heap.size w wx→∀ j v,([.string u.nm,.string u.sa,.string u.ha,.string u.ro,.int .i64 u.bl,.int .i64 u.lg]:List Value)[j]?=some v→wx.cell? ⟨bu,ou+m * 6+j,none⟩=some v):=hcu
       have hml:(m:Int)<(h.us.length:Int):=by have:=(List.getElem?_eq_some_iff.1 hu).1;omega
       have hm0:¬ (m:Int)<0:=by omega
       have HWZ:Hid ((!(u.ha.toList == PS.toList))=W):=hW.symm
       clear h0 hm hPS HPW0 eu hcu EU EW1 EW2 hW hu
       refine Rlw.wp_region_rel (w:=wr) [Rlw.valR 0 [] (.int .i64 (m:Int)),Rlw.valR 1 [0] (.bool false),Rlw.valR 2 [1] (.bool false),Rlw.valR 3 [2] (.pointer (some ⟨w.heap.size+1,0,none⟩)),Rlw.valR 4 [2,3] (.slice (some ⟨bu,ou,none⟩) h.us.length A.uc),Rlw.valR 5 [2] (.int .i64 (m:Int)),Rlw.valR 6 [2,4,5] (.pointer (some ⟨bu,ou+m * 6,none⟩)),Rlw.valR 7 [2,6] (.pointer (some ⟨bu,ou+m * 6+2,none⟩)),Rlw.valR 8 [2,7] (.string u.ha),Rlw.valR 9 [2] (.pointer (some ⟨w.heap.size+1,0,none⟩)),Rlw.valR 10 [2,9] (.slice (some ⟨bu,ou,none⟩) h.us.length A.uc),Rlw.valR 11 [2] (.int .i64 (m:Int)),Rlw.valR 12 [2,10,11] (.pointer (some ⟨bu,ou+m * 6,none⟩)),Rlw.valR 13 [2,12] (.pointer (some ⟨bu,ou+m * 6+1,none⟩)),Rlw.valR 14 [2,13] (.string u.sa),Rlw.valR 15 [2] (.string wd),Rlw.valR 16 [2,14,15] (.string PS),Rlw.valR 17 [2,8,16] (.bool W),Rlw.valR 18 [2,17] (.bool W)] [] [0,1,2,3,4,5,6,7,8,9,10,11,12,13,14,15,16,17,18] (fun b=>b<wr.heap.size) (by kernel_rfl) (by kernel_rfl) (by kernel_rfl) ?_ (fun b h=>h) (fun k r hk=>by cases hk) (fun j k rj rk hj=>by cases hj) ?_ ?_
       ·exact Rlw.ov (Rlw.ov (Rlw.ov (Rlw.ov (Rlw.ov (Rlw.ov (Rlw.ov (Rlw.ov (Rlw.ov (Rlw.ov (Rlw.ov (Rlw.ov (Rlw.ov (Rlw.ov (Rlw.ov (Rlw.ov (Rlw.ov (Rlw.ov (Rlw.ov (List.forall_mem_nil _)))))))))))))))))))
       ·refine (Rlw.walk_cons ?s0 (Rlw.walk_cons ?s1 (Rlw.walk_cons ?s2 (Rlw.walk_cons ?s3 (Rlw.walk_cons ?s4 (Rlw.walk_cons ?s5 (Rlw.walk_cons ?s6 (Rlw.walk_cons ?s7 (Rlw.walk_cons ?s8 (Rlw.walk_cons ?s9 (Rlw.walk_cons ?s10 (Rlw.walk_cons ?s11 (Rlw.walk_cons ?s12 (Rlw.walk_cons ?s13 (Rlw.walk_cons ?s14 (Rlw.walk_cons ?s15 (Rlw.walk_cons ?s16 (Rlw.walk_cons ?s17 (Rlw.walk_cons ?s18 Rlw.walk_nil)))))))))))))))))))
        case s0 =>
         refine Rlw.step_want ?_ ?_
         ·rfl
         intro σ wx hK hF post hp
         go_simp
         exact Rlw.yv hp
        case s1 =>
         refine Rlw.step_want ?_ ?_
         ·rfl
         intro σ wx hK hF post hp
         have f0:=Rlw.fv hF 0 rfl rfl
         go_simp
         exact Rlw.yv hp
        case s2 =>
         refine Rlw.step_want ?_ ?_
         ·rfl
         intro σ wx hK hF post hp
         have f1:=Rlw.fv hF 1 rfl rfl
         go_simp
         exact Rlw.yv hp
        case s3 =>
         refine Rlw.step_wantG ?_
         intro σ wx hK hF
         have f2:=Rlw.fv hF 2 rfl rfl
         refine ⟨by (first | (unfold Region.wanted yielded;go_simp;done) | (simp [Region.wanted,yielded,f2,Act.put];done)),?_⟩
         intro post hp
         go_simp
         exact Rlw.yv hp
        case s4 =>
         refine Rlw.step_wantG ?_
         intro σ wx hK hF
         have f2:=Rlw.fv hF 2 rfl rfl
         have f3:=Rlw.fv hF 3 rfl rfl
         refine ⟨by (first | (unfold Region.wanted yielded;go_simp;done) | (simp [Region.wanted,yielded,f2,Act.put];done)),?_⟩
         intro post hp
         have hb:=Rlw.keep_below hK
         have q1:wx.cell? ⟨w.heap.size+1,0,none⟩=some (.slice (some ⟨bu,ou,none⟩) h.us.length A.uc):=by
          have:=(P3.out.2.1.below hb).cell 0 rfl
          rw [EU9.out] at this
          exact this
         go_simp
         exact Rlw.yv hp
        case s5 =>
         refine Rlw.step_wantG ?_
         intro σ wx hK hF
         have f2:=Rlw.fv hF 2 rfl rfl
         refine ⟨by (first | (unfold Region.wanted yielded;go_simp;done) | (simp [Region.wanted,yielded,f2,Act.put];done)),?_⟩
         intro post hp
         go_simp
         exact Rlw.yv hp
        case s6 =>
         refine Rlw.step_wantG ?_
         intro σ wx hK hF
         have f2:=Rlw.fv hF 2 rfl rfl
         have f4:=Rlw.fv hF 4 rfl rfl
         have f5:=Rlw.fv hF 5 rfl rfl
         refine ⟨by (first | (unfold Region.wanted yielded;go_simp;done) | (simp [Region.wanted,yielded,f2,Act.put];done)),?_⟩
         intro post hp
         go_simp
         exact Rlw.yv hp
        case s7 =>
         refine Rlw.step_wantG ?_
         intro σ wx hK hF
         have f2:=Rlw.fv hF 2 rfl rfl
         have f6:=Rlw.fv hF 6 rfl rfl
         refine ⟨by (first | (unfold Region.wanted yielded;go_simp;done) | (simp [Region.wanted,yielded,f2,Act.put];done)),?_⟩
         intro post hp
         go_simp
         exact Rlw.yv hp
        case s8 =>
         refine Rlw.step_wantG ?_
         intro σ wx hK hF
         have f2:=Rlw.fv hF 2 rfl rfl
         have f7:=Rlw.fv hF 7 rfl rfl
         refine ⟨by (first | (unfold Region.wanted yielded;go_simp;done) | (simp [Region.wanted,yielded,f2,Act.put];done)),?_⟩
         intro post hp
         have hb:=Rlw.keep_below hK
         have q1:=HCU.out _ (P3.out.2.2.2.trans (hb.mono P3.out.2.2.2.size)) 2 _ rfl
         go_simp
         exact Rlw.yv hp
        case s9 =>
         refine Rlw.step_wantG ?_
         intro σ wx hK hF
         have f2:=Rlw.fv hF 2 rfl rfl
         refine ⟨by (first | (unfold Region.wanted yielded;go_simp;done) | (simp [Region.wanted,yielded,f2,Act.put];done)),?_⟩
         intro post hp
         go_simp
         exact Rlw.yv hp
        case s10 =>
         refine Rlw.step_wantG ?_
         intro σ wx hK hF
         have f2:=Rlw.fv hF 2 rfl rfl
         have f9:=Rlw.fv hF 9 rfl rfl
         refine ⟨by (first | (unfold Region.wanted yielded;go_simp;done) | (simp [Region.wanted,yielded,f2,Act.put];done)),?_⟩
         intro post hp
         have hb:=Rlw.keep_below hK
         have q1:wx.cell? ⟨w.heap.size+1,0,none⟩=some (.slice (some ⟨bu,ou,none⟩) h.us.length A.uc):=by
          have:=(P3.out.2.1.below hb).cell 0 rfl
          rw [EU9.out] at this
          exact this
         go_simp
         exact Rlw.yv hp
        case s11 =>
         refine Rlw.step_wantG ?_
         intro σ wx hK hF
         have f2:=Rlw.fv hF 2 rfl rfl
         refine ⟨by (first | (unfold Region.wanted yielded;go_simp;done) | (simp [Region.wanted,yielded,f2,Act.put];done)),?_⟩
         intro post hp
         go_simp
         exact Rlw.yv hp
        case s12 =>
         refine Rlw.step_wantG ?_
         intro σ wx hK hF
         have f2:=Rlw.fv hF 2 rfl rfl
         have f10:=Rlw.fv hF 10 rfl rfl
         have f11:=Rlw.fv hF 11 rfl rfl
         refine ⟨by (first | (unfold Region.wanted yielded;go_simp;done) | (simp [Region.wanted,yielded,f2,Act.put];done)),?_⟩
         intro post hp
         go_simp
         exact Rlw.yv hp
        case s13 =>
         refine Rlw.step_wantG ?_
         intro σ wx hK hF
         have f2:=Rlw.fv hF 2 rfl rfl
         have f12:=Rlw.fv hF 12 rfl rfl
         refine ⟨by (first | (unfold Region.wanted yielded;go_simp;done) | (simp [Region.wanted,yielded,f2,Act.put];done)),?_⟩
         intro post hp
         go_simp
         exact Rlw.yv hp
        case s14 =>
         refine Rlw.step_wantG ?_
         intro σ wx hK hF
         have f2:=Rlw.fv hF 2 rfl rfl
         have f13:=Rlw.fv hF 13 rfl rfl
         refine ⟨by (first | (unfold Region.wanted yielded;go_simp;done) | (simp [Region.wanted,yielded,f2,Act.put];done)),?_⟩
         intro post hp
         have hb:=Rlw.keep_below hK
         have q1:=HCU.out _ (P3.out.2.2.2.trans (hb.mono P3.out.2.2.2.size)) 1 _ rfl
         go_simp
         exact Rlw.yv hp
        case s15 =>
         refine Rlw.step_wantG ?_
         intro σ wx hK hF
         have f2:=Rlw.fv hF 2 rfl rfl
         refine ⟨by (first | (unfold Region.wanted yielded;go_simp;done) | (simp [Region.wanted,yielded,f2,Act.put];done)),?_⟩
         intro post hp
         go_simp
         exact Rlw.yv hp
        case s16 =>
         refine Rlw.step_wantG ?_
         intro σ wx hK hF
         have f2:=Rlw.fv hF 2 rfl rfl
         have f14:=Rlw.fv hF 14 rfl rfl
         have f15:=Rlw.fv hF 15 rfl rfl
         refine ⟨by (first | (unfold Region.wanted yielded;go_simp;done) | (simp [Region.wanted,yielded,f2,Act.put];done)),?_⟩
         intro post hp
         go_simp
         refine Rlw.yld_call ?_
         refine (HPW.out _).mono ?_
         rintro e w9 ⟨rfl,b9⟩
         exact ⟨_,rfl,hp _ _ (Rlw.left_valB b9)⟩
        case s17 =>
         refine Rlw.step_wantG ?_
         intro σ wx hK hF
         have f2:=Rlw.fv hF 2 rfl rfl
         have f8:=Rlw.fv hF 8 rfl rfl
         have f16:=Rlw.fv hF 16 rfl rfl
         refine ⟨by (first | (unfold Region.wanted yielded;go_simp;done) | (simp [Region.wanted,yielded,f2,Act.put];done)),?_⟩
         intro post hp
         go_simp
         rw [HWZ.out]
         exact Rlw.yv hp
        case s18 =>
         refine Rlw.step_want ?_ ?_
         ·rfl
         intro σ wx hK hF post hp
         have f2:=Rlw.fv hF 2 rfl rfl
         have f17:=Rlw.fv hF 17 rfl rfl
         go_simp
         exact Rlw.yv hp
       ·intro σ w5 hK hF hA
        have f18:σ 18=.bool W:=Rlw.fact_of hF (j:=18) rfl rfl
        have bx:=Rlw.keep_below hK
        simp only [Rlw.putAll,Nat.zero_add,Nat.reduceAdd,f18]
        clear hF hA hK f18
        go_simp
        go_wp2
        go_meet
        exact ⟨rfl,⟨P3.out.1.below bx,P3.out.2.1.below bx,P3.out.2.2.1.below bx,P3.out.2.2.2.trans (bx.mono P3.out.2.2.2.size)⟩⟩
     case rest =>
      obtain ⟨hc1,P4⟩:=hcut
      subst hc1
      clear P3 g0
      cases W with
      | true =>
       have hX:X=lgN h mc now:=by
        by_cases h0:U<0
        ·exact EM.out (by rw [← EU.out];exact h0)
        ·obtain ⟨m,u,hm,hu⟩:=ixI_was (p:=nmP nm) (xs:=h.us) (by rw [← EU.out];exact h0)
         have hW:=EW2.out m u (EU.out.trans hm) hu
         rw [EY.out m u hm hu]
         unfold lgU
         rw [if_neg (by intro hp;rw [hp] at hW;cases hW)]
       subst hX
       clear EM EY EW1 EW2 EU XOK
       go_wp2_with (first | (refine wpl_getT 41 rfl _ rfl (w.heap.size+1) rfl P4.out.2.1 _ Tryz.underlying41 rfl rfl ?_) | fail)
       refine (HFD.out _ P4.out.2.2.2).mono ?_
       rintro e w6 ⟨A6,rfl,h6,bx⟩
       have Z6:Hid (w.heap.size+1+1<wc.heap.size):=bx_lt P4.out.2.2.1
       have H6:Hid (HuP (fun b=>b<w.heap.size ∨ wc.heap.size≤b) w6 A6 (lgN h mc now).g):=h6
       have P6:Hid (LgPB C c A h w w6):=⟨P4.out.1.below bx,P4.out.2.1.below bx,P4.out.2.2.1.below bx,P4.out.2.2.2.trans (bx.mono P4.out.2.2.2.size)⟩
       clear bx P4 h6
       go_wp2_with (first | (refine wpl_putT 41 rfl _ _ rfl (w.heap.size+1+1) _ rfl rfl P6.out.2.2.1 rfl rfl rfl ?_;intro WR hwR RR;have BR:Hid (Below w.heap.size w WR):=(by rw [hwR];exact below_cells (by omega) _ _ _ P6.out.2.2.2);have HR:Hid (HuS WR A6 (lgN h mc now).g):=(by rw [hwR];exact H6.out _ (Nat.le_of_eq (Rlw.heap_cells _ _ _).1.symm) (fun b hb _=>(Rlw.heap_cells _ _ _).2.2.2.2 b (by have:=Z6.out;omega)));clear hwR) | fail)
       refine bodyPost_ret (v:=.tuple #[.agg #[.slice A6.u (lgN h mc now).g.us.length A6.uc,.slice A6.s (lgN h mc now).g.ss.length A6.sc,.slice A6.f (lgN h mc now).g.fs.length A6.fc,.slice A6.r (lgN h mc now).g.es.length A6.rc,.int .i64 (lgN h mc now).g.nx],.int .i64 0,.int .i64 13]) (results_cell3 Tryz.results25 (w.heap.size+1+1) rfl rfl rfl RR _ Tryz.underlying41 rfl rfl) rfl ?_
       exact ⟨A6,rfl,HR.out,BR.out⟩
      | false =>
       have hU0:¬ U<0:=fun h0=>by have:=EW1.out h0;cases this
       obtain ⟨m,u,hm,hu⟩:=ixI_was (p:=nmP nm) (xs:=h.us) (by rw [← EU.out];exact hU0)
       have hUm:U=(m:Int):=EU.out.trans hm
       subst hUm
       have hX:X=lgY c h u m mc ip now:=by
        have hW:=EW2.out m u rfl hu
        rw [EY.out m u hm hu]
        unfold lgU
        rw [if_pos (by cases hp:pwB u wd with | true=>rfl | false=>rw [hp] at hW;cases hW)]
       have EX:Hid (X=lgY c h u m mc ip now):=hX
       have HUU:Hid (h.us[m]?=some u):=hu
       have HUB:Hid (u.sa.size≤40∧u.ha.size=32∧roH c.ros u.ro=true∧(0≤u.bl∧u.bl≤1000000)∧(0≤u.lg∧u.lg≤1000)):=okG_us KK.out.ok hu
       obtain ⟨bu,ou,eu,-,hcu⟩:=rw_hold (c:=uvG) (ok:=UsRok) RH.out.us hu
       have EU9:Hid (A.u=some ⟨bu,ou,none⟩):=eu
       have HCU:Hid (∀ wx,Below w.heap.size w wx→∀ j v,([.string u.nm,.string u.sa,.string u.ha,.string u.ro,.int .i64 u.bl,.int .i64 u.lg]:List Value)[j]?=some v→wx.cell? ⟨bu,ou+m * 6+j,none⟩=some v):=hcu
       have hml:(m:Int)<(h.us.length:Int):=by have:=(List.getElem?_eq_some_iff.1 hu).1;omega
       have HCL:Hid (∀ wx,Below w.heap.size w wx→Calls Tryz.prog 69 #[.agg #[.slice A.u h.us.length A.uc,.slice A.s h.ss.length A.sc,.slice A.f h.fs.length A.fc,.slice A.r h.es.length A.rc,.int .i64 h.nx],.int .i64 (m:Int),.string mc,.int .i64 ip] wx fun e w'=>e=.returned (.bool (h.ss.any (clB m mc ip)))∧Below wx.heap.size wx w'):=fun wx hbx=>(l08Clash_any A h m mc ip wx (RH.out.below hbx).ss (by have:=SH.out.ss;omega)).mono fun e w' h=>⟨h.1,h.2.below⟩
       obtain ⟨F,hF9⟩:∃ F,F=lgF h u m mc ip:=⟨_,rfl⟩
       have EF:Hid (F=lgF h u m mc ip):=hF9
       have EF1:Hid (¬ F=0→X=⟨h,0,F⟩):=fun hq=>by
        rw [EX.out]
        unfold lgY
        rw [← hF9,if_neg hq]
       clear hX hu hm eu hcu hF9 EM EY EW1 EW2 EU hU0
       obtain ⟨S1,hS1⟩:∃ S,S=decide (u.lg=0 ∨ u.bl=0):=⟨_,rfl⟩
       have ES1:Hid (S1=decide (u.lg=0 ∨ u.bl=0)):=hS1
       clear hS1
       go_upto_region 12 with fail
       go_cut [90] from 91 to 106 (fun s wx=>s=.bool S1∧Hid (LgPB C c A h w wx))
       case first =>
        have g0:wc.cell? ⟨w.heap.size+1,0,none⟩=some (.slice (some ⟨bu,ou,none⟩) h.us.length A.uc):=by
         have:=P4.out.2.1.cell 0 rfl
         rw [EU9.out] at this
         exact this
        have c4:=HCU.out _ P4.out.2.2.2 4 _ rfl
        have c5:=HCU.out _ P4.out.2.2.2 5 _ rfl
        by_cases h1:u.lg=0
        ·have hd1:(u.lg == 0)=true:=by rw [h1];rfl
         have hs:S1=true:=by rw [ES1.out];simp [h1]
         subst hs
         clear h1
         go_wp2
         go_meet
         exact ⟨rfl,P4⟩
        ·have hd1:(u.lg == 0)=false:=by simpa using h1
         have hs:S1=(u.bl == 0):=by
          rw [ES1.out]
          by_cases h2:u.bl=0
          ·simp [h2]
          ·simp [h1,h2]
         subst hs
         clear h1
         go_wp2
         go_meet
         exact ⟨rfl,P4⟩
       case rest =>
        obtain ⟨hc1,P5⟩:=hcut
        subst hc1
        clear P4
        cases S1 with
        | true =>
         have hFk:F=15:=by rw [EF.out];unfold lgF;rw [if_pos (of_decide_eq_true ES1.out.symm)]
         have hX:=EF1.out (by rw [hFk];decide)
         rw [hFk] at hX
         subst hX
         clear EX EF EF1 XOK
         go_wp2_with (first | (refine wpl_getT 41 rfl _ rfl (w.heap.size+1) rfl P5.out.2.1 _ Tryz.underlying41 rfl rfl ?_) | (refine wpl_putT 41 rfl _ _ rfl (w.heap.size+1+1) _ rfl rfl P5.out.2.2.1 rfl rfl rfl ?_;intro WR hwR RR;have BR:Hid (Below w.heap.size w WR):=(by rw [hwR];exact below_cells (by omega) _ _ _ P5.out.2.2.2);clear hwR) | fail)
         refine bodyPost_ret (v:=.tuple #[.agg #[.slice A.u h.us.length A.uc,.slice A.s h.ss.length A.sc,.slice A.f h.fs.length A.fc,.slice A.r h.es.length A.rc,.int .i64 h.nx],.int .i64 0,.int .i64 15]) (results_cell3 Tryz.results25 (w.heap.size+1+1) rfl rfl rfl RR _ Tryz.underlying41 rfl rfl) rfl ?_
         exact ⟨A,rfl,HS.out.below BR.out,BR.out⟩
        | false =>
         have hn1:¬ (u.lg=0 ∨ u.bl=0):=of_decide_eq_false ES1.out.symm
         have LGB:Hid (u.lg ≠ 0∧u.bl ≠ 0):=⟨fun h=>hn1 (.inl h),fun h=>hn1 (.inr h)⟩
         have EF2:Hid (F=if h.ss.any (clB m mc ip)=true then 9 else if h.ss.length=3 ∨ 60<h.es.length+h.ss.length+2 ∨ h.nx=10000 then 7 else 0):=by
          show F=_
          rw [EF.out]
          unfold lgF
          rw [if_neg hn1]
         clear ES1 hn1
         obtain ⟨CL,hCL⟩:∃ CL,CL=h.ss.any (clB m mc ip):=⟨_,rfl⟩
         rw [← hCL] at HCL EF2
         clear hCL
         go_wp2_with (first | (refine wpl_getT 41 rfl _ rfl (w.heap.size+1) rfl P5.out.2.1 _ Tryz.underlying41 rfl rfl ?_) | fail)
         refine (HCL.out _ P5.out.2.2.2).mono ?_
         rintro e w6 ⟨rfl,bx⟩
         have P6:Hid (LgPB C c A h w w6):=⟨P5.out.1.below bx,P5.out.2.1.below bx,P5.out.2.2.1.below bx,P5.out.2.2.2.trans (bx.mono P5.out.2.2.2.size)⟩
         clear bx P5 HCL
         cases CL with
         | true =>
          have hFk:F=9:=by rw [EF2.out];rfl
          have hX:=EF1.out (by rw [hFk];decide)
          rw [hFk] at hX
          subst hX
          clear EX EF EF1 XOK
          go_wp2_with (first | (refine wpl_getT 41 rfl _ rfl (w.heap.size+1) rfl P6.out.2.1 _ Tryz.underlying41 rfl rfl ?_) | (refine wpl_putT 41 rfl _ _ rfl (w.heap.size+1+1) _ rfl rfl P6.out.2.2.1 rfl rfl rfl ?_;intro WR hwR RR;have BR:Hid (Below w.heap.size w WR):=(by rw [hwR];exact below_cells (by omega) _ _ _ P6.out.2.2.2);clear hwR) | fail)
          refine bodyPost_ret (v:=.tuple #[.agg #[.slice A.u h.us.length A.uc,.slice A.s h.ss.length A.sc,.slice A.f h.fs.length A.fc,.slice A.r h.es.length A.rc,.int .i64 h.nx],.int .i64 0,.int .i64 9]) (results_cell3 Tryz.results25 (w.heap.size+1+1) rfl rfl rfl RR _ Tryz.underlying41 rfl rfl) rfl ?_
          exact ⟨A,rfl,HS.out.below BR.out,BR.out⟩
         | false =>
          obtain ⟨S3,hS3⟩:∃ S,S=decide (h.ss.length=3 ∨ 60<h.es.length+h.ss.length+2 ∨ h.nx=10000):=⟨_,rfl⟩
          have ES3:Hid (S3=decide (h.ss.length=3 ∨ 60<h.es.length+h.ss.length+2 ∨ h.nx=10000)):=hS3
          have LL:Hid (h.ss.length≤3∧h.es.length≤60):=okG_len KK.out.ok
          clear hS3
          go_upto_region 16 with fail
          go_cut [115] from 116 to 135 (fun s wx=>s=.bool S3∧Hid (LgPB C c A h w wx))
          case first =>
           have hLL:=LL.out
           have g1:=P6.out.2.1.cell 1 rfl
           have g3:=P6.out.2.1.cell 3 rfl
           have g4:=P6.out.2.1.cell 4 rfl
           have hw9:IntKind.i64.wrap ((h.es.length:Int)+(h.ss.length:Int))=(h.es.length:Int)+(h.ss.length:Int):=by rw [IntKind.wrap_i64];omega
           have hor:((((h.ss.length:Int) == 3) || decide (60<(h.es.length:Int)+(h.ss.length:Int)+2)) || (h.nx == 10000))=S3:=by
            rw [ES3.out]
            by_cases h1:h.ss.length=3
            ·simp [h1]
            ·by_cases h2:h.nx=10000
             ·simp [h2]
             ·have e1:((h.ss.length:Int) == 3)=false:=by simp;omega
              have e2:(h.nx == 10000)=false:=by simpa using h2
              rw [e1,e2,Bool.false_or,Bool.or_false]
              exact decide_eq_decide.2 ⟨fun h=>.inr (.inl (by omega)),fun h=>by rcases h with h | h | h <;> omega⟩
           obtain ⟨q1,hq1⟩:∃ q,((h.ss.length:Int) == 3)=q:=⟨_,rfl⟩
           obtain ⟨q2,hq2⟩:∃ q,decide (60<(h.es.length:Int)+(h.ss.length:Int)+2)=q:=⟨_,rfl⟩
           obtain ⟨q3,hq3⟩:∃ q,(h.nx == 10000)=q:=⟨_,rfl⟩
           rw [hq1,hq2,hq3] at hor
           clear ES3
           cases q1 <;> cases q2 <;> cases q3 <;>
           ·subst hor
            go_wp2
            go_meet
            exact ⟨rfl,P6⟩
          case rest =>
           obtain ⟨hc1,P7⟩:=hcut
           subst hc1
           clear P6
           cases S3 with
           | true =>
            have hFk:F=7:=by rw [EF2.out];rw [if_neg (by simp),if_pos (of_decide_eq_true ES3.out.symm)]
            have hX:=EF1.out (by rw [hFk];decide)
            rw [hFk] at hX
            subst hX
            clear EX EF EF1 XOK
            go_wp2_with (first | (refine wpl_getT 41 rfl _ rfl (w.heap.size+1) rfl P7.out.2.1 _ Tryz.underlying41 rfl rfl ?_) | (refine wpl_putT 41 rfl _ _ rfl (w.heap.size+1+1) _ rfl rfl P7.out.2.2.1 rfl rfl rfl ?_;intro WR hwR RR;have BR:Hid (Below w.heap.size w WR):=(by rw [hwR];exact below_cells (by omega) _ _ _ P7.out.2.2.2);clear hwR) | fail)
            refine bodyPost_ret (v:=.tuple #[.agg #[.slice A.u h.us.length A.uc,.slice A.s h.ss.length A.sc,.slice A.f h.fs.length A.fc,.slice A.r h.es.length A.rc,.int .i64 h.nx],.int .i64 0,.int .i64 7]) (results_cell3 Tryz.results25 (w.heap.size+1+1) rfl rfl rfl RR _ Tryz.underlying41 rfl rfl) rfl ?_
            exact ⟨A,rfl,HS.out.below BR.out,BR.out⟩
           | false =>
            have hFk:F=0:=by rw [EF2.out];rw [if_neg (by simp),if_neg (of_decide_eq_false ES3.out.symm)]
            obtain ⟨j,r,hr1,hr2,hrq,hrm,hri⟩:=okG_ro KK.out.ok HUB.out.2.2.1
            have hX:X=⟨lgG h r u m mc ip now,h.nx,0⟩:=by
             rw [EX.out]
             unfold lgY
             rw [← EF.out,if_pos hFk,hr1,show ((j:Int)).toNat=j by simp,hr2]
            subst hX
            clear EX EF EF1 EF2 ES3 hFk
            have HRL:Hid (∀ wx,Below w.heap.size w wx→Calls Tryz.prog 70 #[.agg #[.int .i64 c.ip,.int .i64 c.b,.int .i64 c.gt,.string c.gm,.string c.wm,.int .i64 c.rs,.slice C.x c.ps.length C.xc,.slice C.y c.ros.length C.yc],.string u.ro] wx fun e w'=>e=.returned (.int .i64 (j:Int))∧Below wx.heap.size wx w'):=fun wx hb=>by
             have:=l08Role_any c.ip c.b c.gt c.gm c.wm c.rs C.x C.y c.ps.length C.xc c.ros.length C.yc c.ros u.ro wx (RC.out.below hb).ros rfl SC.out.ros
             rw [hr1] at this
             exact this.mono fun e w' h=>⟨h.1,h.2.below⟩
            obtain ⟨br,or_,ra,rc9,er,-,hcr⟩:=rw_holdR RC.out.ros hr2
            have ERO:Hid (C.y=some ⟨br,or_,none⟩):=er
            have HCR:Hid (∀ wx,Below w.heap.size w wx→∀ i v,([.string r.nm,.slice ra r.rs.length rc9,.int .i64 r.q,.int .i64 r.m,.int .i64 r.i]:List Value)[i]?=some v→wx.cell? ⟨br,or_+j * 5+i,none⟩=some v):=hcr
            have hjl:(j:Int)<(c.ros.length:Int):=by have:=(List.getElem?_eq_some_iff.1 hr2).1;omega
            have hw1:IntKind.i64.wrap (now+r.m)=now+r.m:=by have:=KK.out.now;rw [IntKind.wrap_i64];omega
            have mixed:Tryz.prog.follows .mixedOrders=true:=by kernel_rfl
            clear er hcr hr1 hr2 hrq hri
            go_wp2_with fail
            refine Rlw.wp_region_rel (w:=wc) [Rlw.valR 0 [] (.pointer (some ⟨w.heap.size,7,none⟩)),Rlw.valR 1 [0] (.slice (some ⟨br,or_,none⟩) c.ros.length C.yc),Rlw.valR 2 [] (.agg #[.int .i64 c.ip,.int .i64 c.b,.int .i64 c.gt,.string c.gm,.string c.wm,.int .i64 c.rs,.slice C.x c.ps.length C.xc,.slice C.y c.ros.length C.yc]),Rlw.valR 3 [] (.pointer (some ⟨w.heap.size+1,0,none⟩)),Rlw.valR 4 [3] (.slice (some ⟨bu,ou,none⟩) h.us.length A.uc),Rlw.valR 5 [] (.int .i64 (m:Int)),Rlw.valR 6 [4,5] (.pointer (some ⟨bu,ou+m * 6,none⟩)),Rlw.valR 7 [6] (.pointer (some ⟨bu,ou+m * 6+3,none⟩)),Rlw.valR 8 [7] (.string u.ro),Rlw.valR 9 [2,8] (.int .i64 (j:Int)),Rlw.valR 10 [1,9] (.pointer (some ⟨br,or_+j * 5,none⟩)),Rlw.valR 11 [10] (.agg #[.string r.nm,.slice ra r.rs.length rc9,.int .i64 r.q,.int .i64 r.m,.int .i64 r.i]),Rlw.boxR 12 [] [.string ⟨#[]⟩,.slice none 0 0,.int .i64 0,.int .i64 0,.int .i64 0],Rlw.putR 12 [11] [.string r.nm,.slice ra r.rs.length rc9,.int .i64 r.q,.int .i64 r.m,.int .i64 r.i]] [] [0,1,2,3,4,5,6,7,8,9,10,11,13] (fun b=>b<wc.heap.size) (by kernel_rfl) (by kernel_rfl) (by kernel_rfl) ?_ (fun b h=>h) (fun k r hk=>by cases hk) (fun j k rj rk hj=>by cases hj) ?_ ?_
            ·exact Rlw.ov (Rlw.ov (Rlw.ov (Rlw.ov (Rlw.ov (Rlw.ov (Rlw.ov (Rlw.ov (Rlw.ov (Rlw.ov (Rlw.ov (Rlw.ov (Rlw.oc (Rlw.boxR_ok _ _ _) (Rlw.oc (Rlw.putR_ok _ _ _) (List.forall_mem_nil _))))))))))))))
            ·refine Rlw.wk rfl ?_ ?_
             ·intro σ wx hK hF post hp
              go_simp
              exact Rlw.yv hp
             refine Rlw.wk rfl ?_ ?_
             ·intro σ wx hK hF post hp
              have f0:=Rlw.fv hF 0 rfl rfl
              have hb:=Rlw.keep_below hK
              have q1:wx.cell? ⟨w.heap.size,7,none⟩=some (.slice (some ⟨br,or_,none⟩) c.ros.length C.yc):=by
               have:=(P7.out.1.below hb).cell 7 rfl
               rw [ERO.out] at this
               exact this
              go_simp
              exact Rlw.yv hp
             refine Rlw.wk rfl ?_ ?_
             ·intro σ wx hK hF post hp
              have hq:=P7.out.1.below (Rlw.keep_below hK)
              refine Rlw.yld_get 48 _ rfl (q:=w.heap.size) (by go_simp) hq _ Tryz.underlying48 rfl rfl ?_
              exact hp _ _ Rlw.left_val
             refine Rlw.wk rfl ?_ ?_
             ·intro σ wx hK hF post hp
              go_simp
              exact Rlw.yv hp
             refine Rlw.wk rfl ?_ ?_
             ·intro σ wx hK hF post hp
              have f3:=Rlw.fv hF 3 rfl rfl
              have hb:=Rlw.keep_below hK
              have q1:wx.cell? ⟨w.heap.size+1,0,none⟩=some (.slice (some ⟨bu,ou,none⟩) h.us.length A.uc):=by
               have:=(P7.out.2.1.below hb).cell 0 rfl
               rw [EU9.out] at this
               exact this
              go_simp
              exact Rlw.yv hp
             refine Rlw.wk rfl ?_ ?_
             ·intro σ wx hK hF post hp
              go_simp
              exact Rlw.yv hp
             refine Rlw.wk rfl ?_ ?_
             ·intro σ wx hK hF post hp
              have f4:=Rlw.fv hF 4 rfl rfl
              have f5:=Rlw.fv hF 5 rfl rfl
              go_simp
              exact Rlw.yv hp
             refine Rlw.wk rfl ?_ ?_
             ·intro σ wx hK hF post hp
              have f6:=Rlw.fv hF 6 rfl rfl
              go_simp
              exact Rlw.yv hp
             refine Rlw.wk rfl ?_ ?_
             ·intro σ wx hK hF post hp
              have f7:=Rlw.fv hF 7 rfl rfl
              have hb:=Rlw.keep_below hK
              have q1:=HCU.out _ (P7.out.2.2.2.trans (hb.mono P7.out.2.2.2.size)) 3 _ rfl
              go_simp
              exact Rlw.yv hp
             refine Rlw.wk rfl ?_ ?_
             ·intro σ wx hK hF post hp
              have f2:=Rlw.fv hF 2 rfl rfl
              have f8:=Rlw.fv hF 8 rfl rfl
              have hb:=Rlw.keep_below hK
              go_simp
              refine Rlw.yld_call ?_
              refine (HRL.out _ (P7.out.2.2.2.trans (hb.mono P7.out.2.2.2.size))).mono ?_
              rintro e w9 ⟨rfl,b9⟩
              exact ⟨_,rfl,hp _ _ (Rlw.left_valB b9)⟩
             refine Rlw.wk rfl ?_ ?_
             ·intro σ wx hK hF post hp
              have f1:=Rlw.fv hF 1 rfl rfl
              have f9:=Rlw.fv hF 9 rfl rfl
              go_simp
              exact Rlw.yv hp
             refine Rlw.wk rfl ?_ ?_
             ·intro σ wx hK hF post hp
              have f10:=Rlw.fv hF 10 rfl rfl
              have hb:=Rlw.keep_below hK
              refine Rlw.yld_getR 121 _ rfl (q:=br) (off:=or_+j * 5) (by go_simp) (fun i v hv=>HCR.out _ (P7.out.2.2.2.trans (hb.mono P7.out.2.2.2.size)) i v hv) _ Tryz.underlying121 rfl rfl ?_
              exact hp _ _ Rlw.left_val
             refine Rlw.wk rfl ?_ ?_
             ·intro σ wx hK hF post hp
              go_simp
              refine Rlw.yld_val ?_
              exact hp _ _ (Rlw.left_box #[.string ⟨#[]⟩,.slice none 0 0,.int .i64 0,.int .i64 0,.int .i64 0] _)
             refine Rlw.wk rfl ?_ ?_
             ·intro σ wx hK hF post hp
              have f12:Rlw.boxF [.string ⟨#[]⟩,.slice none 0 0,.int .i64 0,.int .i64 0,.int .i64 0] (σ 12) wx:=Rlw.fact_of hF (j:=12) rfl rfl
              have f11:=Rlw.fv hF 11 rfl rfl
              obtain ⟨q8,hq8,hb8⟩:=f12
              refine Rlw.yld_put 121 _ _ rfl (q:=q8) (cells:=#[.string r.nm,.slice ra r.rs.length rc9,.int .i64 r.q,.int .i64 r.m,.int .i64 r.i]) (by go_simp;try exact hq8) (by go_simp;try exact f11) hb8 rfl (by rfl) rfl ?_
              exact hp _ _ (Rlw.left_put rfl (by decide) hq8 hb8 rfl)
             exact Rlw.walk_nil
            ·intro σ w5 hK hF hA
             have b9:Below wc.heap.size wc w5:=Rlw.keep_below hK
             have f13:Rlw.boxF [.string r.nm,.slice ra r.rs.length rc9,.int .i64 r.q,.int .i64 r.m,.int .i64 r.i] (σ 12) w5:=Rlw.fact_of hF (j:=13) rfl rfl
             obtain ⟨q9,hq9,N5⟩:=f13
             have hlo:=(Rlw.owns_of hF (j:=13) rfl rfl q9 hq9).2
             have P8:Hid (LgPB C c A h w w5):=⟨P7.out.1.below b9,P7.out.2.1.below b9,P7.out.2.2.1.below b9,P7.out.2.2.2.trans (b9.mono P7.out.2.2.2.size)⟩
             have Q8:Hid (Bx w5 q9 [.string r.nm,.slice ra r.rs.length rc9,.int .i64 r.q,.int .i64 r.m,.int .i64 r.i]):=N5
             have hz9:=bx_lt P7.out.2.2.1
             have Z5:Hid (w.heap.size+1+1<q9∧q9<w5.heap.size):=⟨by omega,bx_lt N5⟩
             simp only [Rlw.putAll,Nat.zero_add,Nat.reduceAdd,hq9]
             clear hF hA hK hq9 N5 b9 P7 HRL HCR HCU hlo hz9
             have g4:=P8.out.2.1.cell 4 rfl
             go_simp
             go_wp2_with (first | (refine wpl_getT 41 rfl _ rfl (w.heap.size+1) rfl P8.out.2.1 _ Tryz.underlying41 rfl rfl ?_) | fail)
             refine (HO.out _ P8.out.2.2.2).mono ?_
             rintro e w6 ⟨R,rfl,o6,bx⟩
             obtain ⟨ru,rs,rf,rr,ruc,rsc,rfc,rrc⟩:=R
             have hml:m<h.us.length:=(List.getElem?_eq_some_iff.1 HUU.out).1
             have o7:Own4 w6 w5.heap.size (.slice ru h.us.length ruc) (.slice rs h.ss.length rsc) (.slice rf h.fs.length rfc) (.slice rr h.es.length rrc) h.us h.ss h.fs h.es:=o6
             obtain ⟨gu,hgu,hgu2,hgu3,-⟩:=o7.u.form (by omega)
             subst hgu
             have O9:Hid (Own4 w6 w5.heap.size (.slice (some ⟨gu,0,none⟩) h.us.length ruc) (.slice rs h.ss.length rsc) (.slice rf h.fs.length rfc) (.slice rr h.es.length rrc) h.us h.ss h.fs h.es):=o7
             have Q9:Hid (Bx w6 (w.heap.size+1+1) [.slice none 0 0,.slice none 0 0,.slice none 0 0,.slice none 0 0,.int .i64 0]∧Bx w6 q9 [.string r.nm,.slice ra r.rs.length rc9,.int .i64 r.q,.int .i64 r.m,.int .i64 r.i]∧Below w.heap.size w w6):=⟨P8.out.2.2.1.below bx,Q8.out.below bx,P8.out.2.2.2.trans (bx.mono P8.out.2.2.2.size)⟩
             have N9:Hid (Bx w6 (w.heap.size+1) [.slice A.u h.us.length A.uc,.slice A.s h.ss.length A.sc,.slice A.f h.fs.length A.fc,.slice A.r h.es.length A.rc,.int .i64 h.nx]):=P8.out.2.1.below bx
             have hub:=HUB.out
             have hnx:=(okG_nx KK.out.ok).1
             have hlg:=LGB.out
             have hw2:IntKind.i64.wrap (h.nx+1)=h.nx+1:=by rw [IntKind.wrap_i64];omega
             have hw3:IntKind.i64.wrap (u.lg - 1)=u.lg - 1:=by rw [IntKind.wrap_i64];omega
             have hmlz:(m:Int)<(h.us.length:Int):=by omega
             obtain ⟨SL9,hSL9⟩:∃ L,L=h.ss ++ [(lgS h r u m mc ip now)]:=⟨_,rfl⟩
             obtain ⟨EL9,hEL9⟩:∃ L:List RecV,L=h.es ++ [⟨h.nx,now,0,0,false⟩]:=⟨_,rfl⟩
             have HSL9:Hid (SL9=h.ss ++ [(lgS h r u m mc ip now)]):=hSL9
             have HEL9:Hid (EL9=h.es ++ [⟨h.nx,now,0,0,false⟩]):=hEL9
             clear hSL9 hEL9 o6 o7 bx P8 Q8 g4 HO RH HS RC SC SH HFD OKF
             go_wp2_with (first | (refine wpl_putT 41 rfl _ _ rfl (w.heap.size+1) _ rfl rfl N9.out rfl rfl rfl ?_;intro W10 hw10 n10;have N10:Hid (Bx W10 (w.heap.size+1) [.slice (some ⟨gu,0,none⟩) h.us.length ruc,.slice rs h.ss.length rsc,.slice rf h.fs.length rfc,.slice rr h.es.length rrc,.int .i64 h.nx]):=n10;have Q10:Hid (Bx W10 (w.heap.size+1+1) [.slice none 0 0,.slice none 0 0,.slice none 0 0,.slice none 0 0,.int .i64 0]∧Bx W10 q9 [.string r.nm,.slice ra r.rs.length rc9,.int .i64 r.q,.int .i64 r.m,.int .i64 r.i]∧Below w.heap.size w W10):=(by rw [hw10];exact ⟨Q9.out.1.apartO _ (by have:=Z5.out;omega),Q9.out.2.1.apartO _ (by have:=Z5.out;omega),below_cells (by have:=Z5.out;omega) _ _ _ Q9.out.2.2⟩);have O10:Hid (Own4 W10 w5.heap.size (.slice (some ⟨gu,0,none⟩) h.us.length ruc) (.slice rs h.ss.length rsc) (.slice rf h.fs.length rfc) (.slice rr h.es.length rrc) h.us h.ss h.fs h.es):=(by rw [hw10];exact O9.out.put (O9.out.offLow (by have:=Z5.out;omega)) _ _);clear hw10 n10 N9 Q9 O9;have n4:=N10.out.cell 4 rfl) | (refine wpl_put1 3 rfl _ _ rfl (w.heap.size+1) 4 _ rfl rfl N10.out rfl rfl rfl ?_;intro W11 hw11;have N11:Hid (Bx W11 (w.heap.size+1) [.slice (some ⟨gu,0,none⟩) h.us.length ruc,.slice rs h.ss.length rsc,.slice rf h.fs.length rfc,.slice rr h.es.length rrc,.int .i64 (h.nx+1)]):=(by rw [hw11];exact N10.out.sets _ _ _ _);have Q11:Hid (Bx W11 (w.heap.size+1+1) [.slice none 0 0,.slice none 0 0,.slice none 0 0,.slice none 0 0,.int .i64 0]∧Bx W11 q9 [.string r.nm,.slice ra r.rs.length rc9,.int .i64 r.q,.int .i64 r.m,.int .i64 r.i]∧Below w.heap.size w W11):=(by rw [hw11];exact ⟨Q10.out.1.apartO _ (by have:=Z5.out;omega),Q10.out.2.1.apartO _ (by have:=Z5.out;omega),below_cells (by have:=Z5.out;omega) _ _ _ Q10.out.2.2⟩);have O11:Hid (Own4 W11 w5.heap.size (.slice (some ⟨gu,0,none⟩) h.us.length ruc) (.slice rs h.ss.length rsc) (.slice rf h.fs.length rfc) (.slice rr h.es.length rrc) h.us h.ss h.fs h.es):=(by rw [hw11];exact O10.out.put (O10.out.offLow (by have:=Z5.out;omega)) _ _);clear hw11 N10 Q10 O10 n4;have n0:=N11.out.cell 0 rfl;obtain ⟨c5,z5⟩:=O11.out.u.cell uvG_len (j:=5) HUU.out rfl) | (refine wpl_putC 3 rfl _ _ rfl gu (m * 6+5) (.int .i64 (u.lg - 1)) rfl rfl (O11.out.u.there1 uvG_len HUU.out 5 (by omega)) rfl rfl ?_;intro W12 hw12;have T12:=O11.out.u.set1 uvG_len (j:=5) (y:={ u with lg:=u.lg - 1 }) HUU.out (by omega) rfl;rw [← hw12] at T12;have O12:Hid (Own4 W12 w5.heap.size (.slice (some ⟨gu,0,none⟩) h.us.length ruc) (.slice rs h.ss.length rsc) (.slice rf h.fs.length rfc) (.slice rr h.es.length rrc) (h.us.set m { u with lg:=u.lg - 1 }) h.ss h.fs h.es):=O11.out.putU T12.1 T12.2;have Q12:Hid (Bx W12 (w.heap.size+1+1) [.slice none 0 0,.slice none 0 0,.slice none 0 0,.slice none 0 0,.int .i64 0]∧Bx W12 q9 [.string r.nm,.slice ra r.rs.length rc9,.int .i64 r.q,.int .i64 r.m,.int .i64 r.i]∧Below w.heap.size w W12):=⟨by rw [hw12];exact Q11.out.1.far _ _ (by show gu ≠ _;have:=Z5.out;omega),by rw [hw12];exact Q11.out.2.1.far _ _ (by show gu ≠ _;have:=Z5.out;omega),Q11.out.2.2.grown T12.2 Q11.out.2.2.size (fun z hz=>by cases hz;have:=Z5.out;omega)⟩;have N12:Hid (Bx W12 (w.heap.size+1) [.slice (some ⟨gu,0,none⟩) h.us.length ruc,.slice rs h.ss.length rsc,.slice rf h.fs.length rfc,.slice rr h.es.length rrc,.int .i64 (h.nx+1)]):=(by rw [hw12];exact N11.out.far _ _ (by show gu ≠ _;have:=Z5.out;omega));clear hw12 T12 O11 Q11 N11 n0 c5 z5) | fail)
             have HUN:Hid ((h.us.set m { u with lg:=u.lg - 1 })[m]?=some { u with lg:=u.lg - 1 }):=List.getElem?_set_self hml
             have HB5:Hid (w5.heap.size≤W12.heap.size):=by
              have h1:=O12.out.u.lt gu rfl
              show _≤_
              omega
             refine Rlw.wp_region_rel (w:=W12) [Rlw.valR 0 [] (.pointer (some ⟨w.heap.size+1,1,none⟩)),Rlw.valR 1 [0,28] (.slice rs h.ss.length rsc),Rlw.valR 2 [] (.int .i64 h.nx),Rlw.valR 3 [] (.int .i64 (m:Int)),Rlw.valR 4 [] (.string mc),Rlw.valR 5 [] (.int .i64 ip),Rlw.valR 6 [] (.int .i64 now),Rlw.valR 7 [] (.int .i64 now),Rlw.valR 8 [] (.pointer (some ⟨q9,2,none⟩)),Rlw.valR 9 [8] (.int .i64 r.q),Rlw.valR 10 [] (.pointer (some ⟨w.heap.size+1,0,none⟩)),Rlw.valR 11 [10,28] (.slice (some ⟨gu,0,none⟩) h.us.length ruc),Rlw.valR 12 [] (.int .i64 (m:Int)),Rlw.valR 13 [11,12] (.pointer (some ⟨gu,m * 6,none⟩)),Rlw.valR 14 [13] (.pointer (some ⟨gu,m * 6+4,none⟩)),Rlw.valR 15 [14] (.int .i64 u.bl),Rlw.valR 16 [9,15] (.int .i64 (min r.q u.bl)),Rlw.valR 17 [] (.int .i64 now),Rlw.valR 18 [] (.pointer (some ⟨q9,3,none⟩)),Rlw.valR 19 [18] (.int .i64 r.m),Rlw.valR 20 [17,19] (.int .i64 (now+r.m)),Rlw.valR 21 [] (.pointer (some ⟨q9,4,none⟩)),Rlw.valR 22 [21] (.int .i64 r.i),Rlw.valR 23 [2,3,4,5,6,7,16,20,22] (.agg #[.int .i64 h.nx,.int .i64 (m:Int),.string mc,.int .i64 ip,.int .i64 now,.int .i64 now,.int .i64 0,.int .i64 (min r.q u.bl),.int .i64 (now+r.m),.int .i64 r.i]),Rlw.kndR 24 [23] (Knd.row svG 10 80 [(lgS h r u m mc ip now)]) w5.heap.size,Rlw.kndT 25 29 [1,24] (Knd.row svG 10 80 (h.ss ++ [(lgS h r u m mc ip now)])) w5.heap.size,Rlw.valR 26 [] (.pointer (some ⟨w.heap.size+1,1,none⟩)),Rlw.fillR (w.heap.size+1) 28 25 [25,26] (fun v=>[.slice (some ⟨gu,0,none⟩) h.us.length ruc,v,.slice rf h.fs.length rfc,.slice rr h.es.length rrc,.int .i64 (h.nx+1)]),Rlw.iniR (w.heap.size+1) [.slice (some ⟨gu,0,none⟩) h.us.length ruc,.slice rs h.ss.length rsc,.slice rf h.fs.length rfc,.slice rr h.es.length rrc,.int .i64 (h.nx+1)],Rlw.iniK (.slice rs h.ss.length rsc) (Knd.row svG 10 80 h.ss) w5.heap.size] [28,29] [0,1,2,3,4,5,6,7,8,9,10,11,12,13,14,15,16,17,18,19,20,21,22,23,25,26,27] (fun b=>b<W12.heap.size∧(b ≠ w.heap.size+1∧¬ (.slice rs h.ss.length rsc:Value).ownBlock=some b)) (by kernel_rfl) (by kernel_rfl) (by kernel_rfl) ?_ (fun b h=>h.1) ?ini ?ap ?_ ?_
             ·exact Rlw.ov (Rlw.ov (Rlw.ov (Rlw.ov (Rlw.ov (Rlw.ov (Rlw.ov (Rlw.ov (Rlw.ov (Rlw.ov (Rlw.ov (Rlw.ov (Rlw.ov (Rlw.ov (Rlw.ov (Rlw.ov (Rlw.ov (Rlw.ov (Rlw.ov (Rlw.ov (Rlw.ov (Rlw.ov (Rlw.ov (Rlw.ov (Rlw.oc (Rlw.kndR_ok _ _ _ _) (Rlw.oc (Rlw.kndT_ok _ _ _ _ _) (Rlw.ov (Rlw.oc (Rlw.fillR_ok _ _ _ _ _) (Rlw.oc (Rlw.iniR_ok _ _) (Rlw.oc (Rlw.iniK_ok _ _ _) (List.forall_mem_nil _))))))))))))))))))))))))))))))
             case ini =>
              intro q r hq hr
              simp only [List.mem_cons,List.not_mem_nil,or_false] at hq
              rcases hq with rfl | rfl
              ·cases hr
               exact ⟨Rlw.bx_loc N12.out rfl,fun b hb=>⟨by have hb2:b=w.heap.size+1:=hb;have:=bx_lt N12.out;show b<W12.heap.size;omega,fun e=>e.2.1 hb⟩⟩
              ·cases hr
               exact ⟨Rlw.own_loc O12.out.s (fun _ _=>rfl),fun b hb=>⟨(O12.out.s.lt b hb).2,fun e=>e.2.2 hb⟩⟩
             case ap =>
              intro q1 q2 r1 r2 h1 h2 hne hr1 hr2 b hb hb2
              simp only [List.mem_cons,List.not_mem_nil,or_false] at h1 h2
              rcases h1 with rfl | rfl <;> rcases h2 with rfl | rfl
              ·exact hne rfl
              ·cases hr1
               cases hr2
               have e1:b=w.heap.size+1:=hb
               have e2:=(O12.out.s.lt b hb2).1
               have:=Z5.out
               omega
              ·cases hr1
               cases hr2
               have e1:b=w.heap.size+1:=hb2
               have e2:=(O12.out.s.lt b hb).1
               have:=Z5.out
               omega
              ·exact hne rfl
             ·refine Rlw.wk rfl ?_ ?_
              ·intro σ wx hK hF post hp
               go_simp
               exact Rlw.yv hp
              refine Rlw.wk rfl ?_ ?_
              ·intro σ wx hK hF post hp
               have f0:=Rlw.fv hF 0 rfl rfl
               have f28:Bx wx (w.heap.size+1) [.slice (some ⟨gu,0,none⟩) h.us.length ruc,.slice rs h.ss.length rsc,.slice rf h.fs.length rfc,.slice rr h.es.length rrc,.int .i64 (h.nx+1)]:=Rlw.fact_of hF (j:=28) rfl rfl
               have q1:=f28.cell 1 rfl
               go_simp
               exact Rlw.yv hp
              refine Rlw.wk rfl ?_ ?_
              ·intro σ wx hK hF post hp
               go_simp
               exact Rlw.yv hp
              refine Rlw.wk rfl ?_ ?_
              ·intro σ wx hK hF post hp
               go_simp
               exact Rlw.yv hp
              refine Rlw.wk rfl ?_ ?_
              ·intro σ wx hK hF post hp
               go_simp
               exact Rlw.yv hp
              refine Rlw.wk rfl ?_ ?_
              ·intro σ wx hK hF post hp
               go_simp
               exact Rlw.yv hp
              refine Rlw.wk rfl ?_ ?_
              ·intro σ wx hK hF post hp
               go_simp
               exact Rlw.yv hp
              refine Rlw.wk rfl ?_ ?_
              ·intro σ wx hK hF post hp
               go_simp
               exact Rlw.yv hp
              refine Rlw.wk rfl ?_ ?_
              ·intro σ wx hK hF post hp
               go_simp
               exact Rlw.yv hp
              refine Rlw.wk rfl ?_ ?_
              ·intro σ wx hK hF post hp
               have f8:=Rlw.fv hF 8 rfl rfl
               have kq:Rel.Keep (fun b=>b<W12.heap.size∧(b ≠ w.heap.size+1∧¬ (.slice rs h.ss.length rsc:Value).ownBlock=some b)) W12 wx:=⟨hK.os,hK.tape,hK.output,hK.size,hK.block⟩
               have q1:=(Rlw.bx_keepW Q12.out.2.1 kq ⟨bx_lt Q12.out.2.1,by have:=Z5.out;omega,fun e9=>by have:=(O12.out.s.lt _ e9).1;have:=Z5.out;omega⟩).cell 2 rfl
               go_simp
               exact Rlw.yv hp
              refine Rlw.wk rfl ?_ ?_
              ·intro σ wx hK hF post hp
               go_simp
               exact Rlw.yv hp
              refine Rlw.wk rfl ?_ ?_
              ·intro σ wx hK hF post hp
               have f10:=Rlw.fv hF 10 rfl rfl
               have f28:Bx wx (w.heap.size+1) [.slice (some ⟨gu,0,none⟩) h.us.length ruc,.slice rs h.ss.length rsc,.slice rf h.fs.length rfc,.slice rr h.es.length rrc,.int .i64 (h.nx+1)]:=Rlw.fact_of hF (j:=28) rfl rfl
               have q1:=f28.cell 0 rfl
               go_simp
               exact Rlw.yv hp
              refine Rlw.wk rfl ?_ ?_
              ·intro σ wx hK hF post hp
               go_simp
               exact Rlw.yv hp
              refine Rlw.wk rfl ?_ ?_
              ·intro σ wx hK hF post hp
               have f11:=Rlw.fv hF 11 rfl rfl
               have f12:=Rlw.fv hF 12 rfl rfl
               go_simp
               exact Rlw.yv hp
              refine Rlw.wk rfl ?_ ?_
              ·intro σ wx hK hF post hp
               have f13:=Rlw.fv hF 13 rfl rfl
               go_simp
               exact Rlw.yv hp
              refine Rlw.wk rfl ?_ ?_
              ·intro σ wx hK hF post hp
               have f14:=Rlw.fv hF 14 rfl rfl
               have kq:Rel.Keep (fun b=>b<W12.heap.size∧(b ≠ w.heap.size+1∧¬ (.slice rs h.ss.length rsc:Value).ownBlock=some b)) W12 wx:=⟨hK.os,hK.tape,hK.output,hK.size,hK.block⟩
               have q1:=(OwnS.cell (Rlw.own_loc O12.out.u (fun k e=>kq.block k ⟨(O12.out.u.lt k e).2,by have:=(O12.out.u.lt k e).1;have:=Z5.out;omega,fun e2=>O12.out.us_ k e e2⟩)) uvG_len (j:=4) HUN.out rfl).1
               go_simp
               exact Rlw.yv hp
              refine Rlw.wk rfl ?_ ?_
              ·intro σ wx hK hF post hp
               have f9:=Rlw.fv hF 9 rfl rfl
               have f15:=Rlw.fv hF 15 rfl rfl
               go_simp
               exact Rlw.yv hp
              refine Rlw.wk rfl ?_ ?_
              ·intro σ wx hK hF post hp
               go_simp
               exact Rlw.yv hp
              refine Rlw.wk rfl ?_ ?_
              ·intro σ wx hK hF post hp
               go_simp
               exact Rlw.yv hp
              refine Rlw.wk rfl ?_ ?_
              ·intro σ wx hK hF post hp
               have f18:=Rlw.fv hF 18 rfl rfl
               have kq:Rel.Keep (fun b=>b<W12.heap.size∧(b ≠ w.heap.size+1∧¬ (.slice rs h.ss.length rsc:Value).ownBlock=some b)) W12 wx:=⟨hK.os,hK.tape,hK.output,hK.size,hK.block⟩
               have q1:=(Rlw.bx_keepW Q12.out.2.1 kq ⟨bx_lt Q12.out.2.1,by have:=Z5.out;omega,fun e9=>by have:=(O12.out.s.lt _ e9).1;have:=Z5.out;omega⟩).cell 3 rfl
               go_simp
               exact Rlw.yv hp
              refine Rlw.wk rfl ?_ ?_
              ·intro σ wx hK hF post hp
               have f17:=Rlw.fv hF 17 rfl rfl
               have f19:=Rlw.fv hF 19 rfl rfl
               go_simp
               exact Rlw.yv hp
              refine Rlw.wk rfl ?_ ?_
              ·intro σ wx hK hF post hp
               go_simp
               exact Rlw.yv hp
              refine Rlw.wk rfl ?_ ?_
              ·intro σ wx hK hF post hp
               have f21:=Rlw.fv hF 21 rfl rfl
               have kq:Rel.Keep (fun b=>b<W12.heap.size∧(b ≠ w.heap.size+1∧¬ (.slice rs h.ss.length rsc:Value).ownBlock=some b)) W12 wx:=⟨hK.os,hK.tape,hK.output,hK.size,hK.block⟩
               have q1:=(Rlw.bx_keepW Q12.out.2.1 kq ⟨bx_lt Q12.out.2.1,by have:=Z5.out;omega,fun e9=>by have:=(O12.out.s.lt _ e9).1;have:=Z5.out;omega⟩).cell 4 rfl
               go_simp
               exact Rlw.yv hp
              refine Rlw.wk rfl ?_ ?_
              ·intro σ wx hK hF post hp
               have f2:=Rlw.fv hF 2 rfl rfl
               have f3:=Rlw.fv hF 3 rfl rfl
               have f4:=Rlw.fv hF 4 rfl rfl
               have f5:=Rlw.fv hF 5 rfl rfl
               have f6:=Rlw.fv hF 6 rfl rfl
               have f7:=Rlw.fv hF 7 rfl rfl
               have f16:=Rlw.fv hF 16 rfl rfl
               have f20:=Rlw.fv hF 20 rfl rfl
               have f22:=Rlw.fv hF 22 rfl rfl
               go_simp
               exact Rlw.yv hp
              refine Rlw.wk rfl ?_ ?_
              ·intro σ wx hK hF post hp
               have f23:=Rlw.fv hF 23 rfl rfl
               have hB5:w5.heap.size≤wx.heap.size:=Nat.le_trans HB5.out hK.size
               go_simp
               refine Rlw.yld_val ?_
               exact hp _ _ (Rlw.left_knd (World.ownsRow_lit wx #[.int .i64 h.nx,.int .i64 (m:Int),.string mc,.int .i64 ip,.int .i64 now,.int .i64 now,.int .i64 0,.int .i64 (min r.q u.bl),.int .i64 (now+r.m),.int .i64 r.i] 1 (Nat.le_refl _) (by unfold maxLen;omega) rfl) hB5 ((Below.refl _ _).alloc (Nat.le_refl _) _))
              refine Rlw.wk rfl ?_ ?_
              ·intro σ wx hK hF post hp
               have f1:=Rlw.fv hF 1 rfl rfl
               have f24:OwnS svG 10 80 wx w5.heap.size (σ 24) [(lgS h r u m mc ip now)]:=Rlw.fact_of hF (j:=24) rfl rfl
               have f29:OwnS svG 10 80 wx w5.heap.size (.slice rs h.ss.length rsc) h.ss:=Rlw.fact_of hF (j:=29) rfl rfl
               have hB5:w5.heap.size≤wx.heap.size:=Nat.le_trans HB5.out hK.size
               have hLL:=LL.out
               obtain ⟨gz,cz,hzz,hnz,-⟩:=f24.slice
               cases gz with
               | none=>exact absurd (f24.2) (by rw [hzz];simp)
               | some pz =>
                obtain ⟨q,o,pt⟩:=pz
                have hq0:(⟨q,o,pt⟩:Addr)=⟨q,0,none⟩:=by
                 obtain ⟨g,hg,-⟩:=(show OwnS svG 10 80 wx w5.heap.size (.slice (some ⟨q,o,pt⟩) _ cz) _ from hzz ▸ f24).form (by simp)
                 exact (Option.some.inj hg).trans (by have:=Option.some.inj hg;cases this;rfl)
                cases hq0
                have hcl:∀ j u9,(flatS svG [(lgS h r u m mc ip now)])[j]?=some u9→wx.cell? ⟨q,0+j,none⟩=some u9:=fun j u9 hu9=>by
                 have:=World.ownsRow.cells f24 (g:=q) (by rw [hzz];rfl) j u9 hu9
                 rw [addn] at this
                 exact this
                obtain ⟨i0,hi,hz0,hz1,hz2⟩:=info_parts infoSession
                refine Rlw.yld_append (.tmp 167) (.tmp 190) 37 rfl w5.heap.size 80 i0 (.agg #[.int .i64 0,.int .i64 0,.string ⟨#[]⟩,.int .i64 0,.int .i64 0,.int .i64 0,.int .i64 0,.int .i64 0,.int .i64 0,.int .i64 0]) 10 88 Tryz.underlying37 hi hz0 hz1 hz2 rfl (by decide) (.slice rs h.ss.length rsc) h.ss.length (flatS svG h.ss) (by go_simp;try exact f1) f29 ⟨q,0,none⟩ 1 cz (flatS svG [(lgS h r u m mc ip now)]) (by go_simp;try (rw [hzz];rfl)) (flatS_len svG_len _) (fun j u9 hu9=>by rw [addn];exact hcl j u9 hu9) (oneSession _) (by unfold maxLen;omega) (by omega) hB5 ?_
                intro v' w' h2 h3 h4
                rw [← flatS_append] at h2
                have h5:OwnS svG 10 80 w' w5.heap.size v' (h.ss ++ [(lgS h r u m mc ip now)]):=by unfold OwnS;rw [List.length_append];exact h2
                exact hp _ _ (Rlw.left_app (v:=.slice rs h.ss.length rsc) (rj:=Rlw.iniK (.slice rs h.ss.length rsc) (Knd.row svG 10 80 h.ss) w5.heap.size) rfl (fun b hb=>hb) h5 h3 h4)
              refine Rlw.wk rfl ?_ ?_
              ·intro σ wx hK hF post hp
               go_simp
               exact Rlw.yv hp
              refine Rlw.wk rfl ?_ ?_
              ·intro σ wx hK hF post hp
               have f26:=Rlw.fv hF 26 rfl rfl
               have f25:OwnS svG 10 80 wx w5.heap.size (σ 25) (h.ss ++ [(lgS h r u m mc ip now)]):=Rlw.fact_of hF (j:=25) rfl rfl
               have f28:Bx wx (w.heap.size+1) [.slice (some ⟨gu,0,none⟩) h.us.length ruc,.slice rs h.ss.length rsc,.slice rf h.fs.length rfc,.slice rr h.es.length rrc,.int .i64 (h.nx+1)]:=Rlw.fact_of hF (j:=28) rfl rfl
               obtain ⟨az,cz,hzz,-,-⟩:=f25.slice
               refine Rlw.yld_put1 37 _ _ rfl (q:=w.heap.size+1) (j:=1) (v:=σ 25) (by go_simp) (by go_simp) f28 (by rfl) rfl (by rw [hzz];rfl) ?_
               exact hp _ _ (Rlw.left_fill (t:=25) rfl (by decide) f28 [σ 25] rfl)
              exact Rlw.walk_nil
             ·intro σ W13 hK hF hA
              have f25:OwnS svG 10 80 W13 w5.heap.size (σ 25) (h.ss ++ [(lgS h r u m mc ip now)]):=Rlw.fact_of hF (j:=25) rfl rfl
              have f27:Bx W13 (w.heap.size+1) [.slice (some ⟨gu,0,none⟩) h.us.length ruc,σ 25,.slice rf h.fs.length rfc,.slice rr h.es.length rrc,.int .i64 (h.nx+1)]:=Rlw.fact_of hF (j:=27) rfl rfl
              have f2:σ 2=.int .i64 h.nx:=Rlw.fact_of hF (j:=2) rfl rfl
              have kq:Rel.Keep (fun b=>b<W12.heap.size∧(b ≠ w.heap.size+1∧¬ (.slice rs h.ss.length rsc:Value).ownBlock=some b)) W12 W13:=⟨hK.os,hK.tape,hK.output,hK.size,hK.block⟩
              have hw5:∀ k,(σ 25).ownBlock=some k→(.slice rs h.ss.length rsc:Value).ownBlock=some k ∨ W12.heap.size≤k:=fun k hk=>by
               have h1:=(Rlw.owns_of hF (j:=25) rfl rfl k hk).2
               have h2:=(f25.lt k hk).1
               by_cases h3:(.slice rs h.ss.length rsc:Value).ownBlock=some k
               ·exact .inl h3
               ·refine .inr (Nat.le_of_not_lt fun h4=>h1 ⟨h4,by have:=Z5.out;omega,h3⟩)
              have hst:∀ (v:Value) (k:Nat),Ap v (.slice rs h.ss.length rsc)→v.ownBlock=some k→w5.heap.size≤k→k<W12.heap.size→W13.heap[k]?=W12.heap[k]?:=fun v k hap e h1 h2=>kq.block k ⟨h2,by have:=Z5.out;omega,fun e2=>hap k e e2⟩
              rw [← HSL9.out] at f25
              obtain ⟨sx,sxc,hsx,-⟩:=OwnS.slice f25
              rw [hsx] at f25 f27 hw5
              have o13:=O12.out
              have O13:Hid (Own4 W13 w5.heap.size (.slice (some ⟨gu,0,none⟩) h.us.length ruc) (.slice sx SL9.length sxc) (.slice rf h.fs.length rfc) (.slice rr h.es.length rrc) (h.us.set m { u with lg:=u.lg - 1 }) SL9 h.fs h.es):=⟨Rlw.own_loc o13.u (fun k e=>hst _ k o13.us_ e (o13.u.lt k e).1 (o13.u.lt k e).2),f25,Rlw.own_loc o13.f (fun k e=>hst _ k o13.sf.symm e (o13.f.lt k e).1 (o13.f.lt k e).2),Rlw.own_loc o13.r (fun k e=>hst _ k o13.sr.symm e (o13.r.lt k e).1 (o13.r.lt k e).2),ap_new o13.us_ (fun k e=>(o13.u.lt k e).2) hw5,o13.uf,o13.ur,(ap_new o13.sf.symm (fun k e=>(o13.f.lt k e).2) hw5).symm,(ap_new o13.sr.symm (fun k e=>(o13.r.lt k e).2) hw5).symm,o13.fr⟩
              have N13:Hid (Bx W13 (w.heap.size+1) [.slice (some ⟨gu,0,none⟩) h.us.length ruc,.slice sx SL9.length sxc,.slice rf h.fs.length rfc,.slice rr h.es.length rrc,.int .i64 (h.nx+1)]):=f27
              have Q13:Hid (Bx W13 (w.heap.size+1+1) [.slice none 0 0,.slice none 0 0,.slice none 0 0,.slice none 0 0,.int .i64 0]∧Bx W13 q9 [.string r.nm,.slice ra r.rs.length rc9,.int .i64 r.q,.int .i64 r.m,.int .i64 r.i]∧Below w.heap.size w W13):=⟨Rlw.bx_keepW Q12.out.1 kq ⟨bx_lt Q12.out.1,by omega,fun e9=>by have:=(o13.s.lt _ e9).1;have:=Z5.out;omega⟩,Rlw.bx_keepW Q12.out.2.1 kq ⟨bx_lt Q12.out.2.1,by have:=Z5.out;omega,fun e9=>by have:=(o13.s.lt _ e9).1;have:=Z5.out;omega⟩,Q12.out.2.2.trans ⟨kq.os,kq.tape,kq.output,kq.size,fun k hk=>kq.block k ⟨Nat.lt_of_lt_of_le hk Q12.out.2.2.size,by omega,fun e9=>by have:=(o13.s.lt _ e9).1;have:=Z5.out;omega⟩⟩⟩
              have HB6:Hid (w5.heap.size≤W13.heap.size):=Nat.le_trans HB5.out kq.size
              simp only [Rlw.putAll,Nat.zero_add,Nat.reduceAdd]
              clear hF hA hK f25 f27 f2 kq hst hw5 hsx o13 O12 N12 Q12
              have n3:=N13.out.cell 3 rfl
              go_simp
              go_wp2_with (first | (at_builtin;refine wpl_RecordW _ rfl _ _ rfl w5.heap.size _ h.es [⟨h.nx,now,0,0,false⟩] rfl (O13.out.r.now ((Below.refl _ _).alloc (Nat.le_refl _) _)) (W13.heap.size) 0 1 1 rfl rfl (fun j9 u9 hu9=>by rw [Nat.zero_add];exact (Bx.new W13 #[.int .i64 h.nx,.int .i64 now,.int .i64 0,.int .i64 0,.bool false] 86).cell j9 (by rw [flatS_one] at hu9;exact hu9)) (by have:=LL.out;simp;omega) (by have:=HB6.out;simp;omega) ?_;intro v9 W14 o9 hg9 hw9;rw [← HEL9.out] at o9;have BA9:Below W13.heap.size W13 (W13.alloc (.cells #[.int .i64 h.nx,.int .i64 now,.int .i64 0,.int .i64 0,.bool false] 86)):=((Below.refl _ _).alloc (Nat.le_refl _) _);have OA9:=Own4.now O13.out BA9;have q19:=bx_lt N13.out;have q29:=bx_lt Q13.out.1;have q39:=bx_lt Q13.out.2.1;have sz9:(W13.alloc (.cells #[.int .i64 h.nx,.int .i64 now,.int .i64 0,.int .i64 0,.bool false] 86)).heap.size=W13.heap.size+1:=(by simp);have O14:Hid (Own4 W14 w5.heap.size (.slice (some ⟨gu,0,none⟩) h.us.length ruc) (.slice sx SL9.length sxc) (.slice rf h.fs.length rfc) v9 (h.us.set m { u with lg:=u.lg - 1 }) SL9 h.fs EL9):=OA9.appR o9 hg9 hw9;have Q14:Hid (Bx W14 (w.heap.size+1+1) [.slice none 0 0,.slice none 0 0,.slice none 0 0,.slice none 0 0,.int .i64 0]∧Bx W14 q9 [.string r.nm,.slice ra r.rs.length rc9,.int .i64 r.q,.int .i64 r.m,.int .i64 r.i]∧Below w.heap.size w W14):=⟨bx_grown (Q13.out.1.below BA9) hg9 (by omega) (fun e9=>by have:=(OA9.r.lt _ e9).1;have:=Z5.out;omega),bx_grown (Q13.out.2.1.below BA9) hg9 (by omega) (fun e9=>by have:=(OA9.r.lt _ e9).1;have:=Z5.out;omega),(Q13.out.2.2.trans (BA9.mono Q13.out.2.2.size)).grown hg9 (Nat.le_trans Q13.out.2.2.size BA9.size) (fun z hz=>by have:=(OA9.r.lt _ hz).1;have:=Z5.out;omega)⟩;have N14:Hid (Bx W14 (w.heap.size+1) [.slice (some ⟨gu,0,none⟩) h.us.length ruc,.slice sx SL9.length sxc,.slice rf h.fs.length rfc,.slice rr h.es.length rrc,.int .i64 (h.nx+1)]):=bx_grown (N13.out.below BA9) hg9 (by omega) (fun e9=>by have:=(OA9.r.lt _ e9).1;have:=Z5.out;omega);obtain ⟨ex,exc,rfl,-⟩:=OwnS.slice o9;clear BA9 OA9 q19 q29 q39 sz9 hw9 hg9 o9 O13 Q13 N13 n3) | (refine wpl_put1 39 rfl _ _ rfl (w.heap.size+1) 3 _ rfl rfl N14.out rfl rfl rfl ?_;intro W15 hw15;have N15:Hid (Bx W15 (w.heap.size+1) [.slice (some ⟨gu,0,none⟩) h.us.length ruc,.slice sx SL9.length sxc,.slice rf h.fs.length rfc,.slice ex EL9.length exc,.int .i64 (h.nx+1)]):=(by rw [hw15];exact N14.out.sets _ _ _ _);have Q15:Hid (Bx W15 (w.heap.size+1+1) [.slice none 0 0,.slice none 0 0,.slice none 0 0,.slice none 0 0,.int .i64 0]∧Bx W15 q9 [.string r.nm,.slice ra r.rs.length rc9,.int .i64 r.q,.int .i64 r.m,.int .i64 r.i]∧Below w.heap.size w W15):=(by rw [hw15];exact ⟨Q14.out.1.apartO _ (by have:=Z5.out;omega),Q14.out.2.1.apartO _ (by have:=Z5.out;omega),below_cells (by have:=Z5.out;omega) _ _ _ Q14.out.2.2⟩);have O15:Hid (Own4 W15 w5.heap.size (.slice (some ⟨gu,0,none⟩) h.us.length ruc) (.slice sx SL9.length sxc) (.slice rf h.fs.length rfc) (.slice ex EL9.length exc) (h.us.set m { u with lg:=u.lg - 1 }) SL9 h.fs EL9):=(by rw [hw15];exact O14.out.put (O14.out.offLow (by have:=Z5.out;omega)) _ _);clear hw15 N14 Q14 O14 ) | (refine wpl_getT 41 rfl _ rfl (w.heap.size+1) rfl N15.out _ Tryz.underlying41 rfl rfl ?_) | (refine wpl_putT 41 rfl _ _ rfl (w.heap.size+1+1) _ rfl rfl Q15.out.1 rfl rfl rfl ?_;intro WR hwR RR;have BR:Hid (Below w.heap.size w WR):=(by rw [hwR];exact below_cells (by omega) _ _ _ Q15.out.2.2);have OR:Hid (Own4 WR w5.heap.size (.slice (some ⟨gu,0,none⟩) h.us.length ruc) (.slice sx SL9.length sxc) (.slice rf h.fs.length rfc) (.slice ex EL9.length exc) (h.us.set m { u with lg:=u.lg - 1 }) SL9 h.fs EL9):=(by rw [hwR];exact O15.out.put (O15.out.offLow (by have:=Z5.out;omega)) _ _);clear hwR) | fail)
              refine bodyPost_ret (v:=.tuple #[.agg #[.slice (some ⟨gu,0,none⟩) h.us.length ruc,.slice sx SL9.length sxc,.slice rf h.fs.length rfc,.slice ex EL9.length exc,.int .i64 (h.nx+1)],.int .i64 h.nx,.int .i64 0]) (results_cell3 Tryz.results25 (w.heap.size+1+1) rfl rfl rfl RR _ Tryz.underlying41 rfl rfl) rfl ?_
              have OWN:OwnHu WR w5.heap.size ⟨some ⟨gu,0,none⟩,sx,rf,ex,ruc,sxc,rfc,exc⟩ (lgG h r u m mc ip now):=by
               show Own4 WR w5.heap.size (.slice _ (lgG h r u m mc ip now).us.length _) (.slice _ (lgG h r u m mc ip now).ss.length _) (.slice _ (lgG h r u m mc ip now).fs.length _) (.slice _ (lgG h r u m mc ip now).es.length _) _ _ _ _
               unfold lgG
               dsimp only
               rw [List.length_set,← HSL9.out,← HEL9.out]
               exact OR.out
              refine ⟨⟨some ⟨gu,0,none⟩,sx,rf,ex,ruc,sxc,rfc,exc⟩,?_,OWN.srcs XOK.out.1 XOK.out.2,BR.out⟩
              unfold lgG
              dsimp only
              rw [List.length_set,← HSL9.out,← HEL9.out]
end Go.Proofs.YtojcakkkakmniaaGreatDoor
