/- l08Fail, l08Clash, l08Failed of the model, packed. -/
import Derived.Deep.CutRange
import Derived.Test.YtojcakkkakmniaaGreatDoorJ26
import Derived.Test.YtojcakkkakmniaaGreatDoorJ24
namespace Go.Proofs.YtojcakkkakmniaaGreatDoor
open Go.RowKit Go.PlainAid Go.Proofs.YtojcakkkakmniaaGreatDoor.Bt Go.Sort
set_option linter.unusedVariables false
set_option maxRecDepth 20000
theorem rw_blk {α:Type} {R:World→α→List Value→Prop} {K:Nat} {w:World} {bb oo:Nat} {xs:List α} (h:Rw R K w (some ⟨bb,oo,none⟩) xs) (hne:xs ≠ []):bb<w.heap.size:=by
 obtain ⟨b,o,e,hb,_⟩:=h (List.length_pos_iff.2 hne)
 cases e
 exact hb
set_option maxHeartbeats 2000000 in
theorem l08Fail_any (A:HuA) (h:HuV) (mc:ByteArray) (w:World) (hr:Rw FaR 3 w A.f h.fs) (hn:h.fs.length≤1048576) :
  Calls Tryz.prog 66 #[.agg #[.slice A.u h.us.length A.uc,.slice A.s h.ss.length A.sc,.slice A.f h.fs.length A.fc,.slice A.r h.es.length A.rc,.int .i64 h.nx],.string mc] w fun e w'=>e=.returned (.int .i64 (fkN mc h.fs:Nat))∧Grw w w':=by
 obtain ⟨a,ha⟩:∃ a,A.f=a:=⟨_,rfl⟩
 rw [ha] at hr ⊢
 have RY:Hid (Rw FaR 3 w a h.fs):=hr
 clear hr
 obtain ⟨n,hl⟩:∃ n,h.fs.length=n:=⟨_,rfl⟩
 rw [hl] at hn ⊢
 generalize h.fs=xs at *
 obtain ⟨K,hK⟩:∃ K,K=fkN mc xs:=⟨_,rfl⟩
 have EK:Hid (K=fkN mc xs):=hK
 rw [← hK]
 clear hK
 go_enter Tryz.func66,Tryz.ntmps66
 go_wp2
 go_loopw [5] (fun u wr=>∃ k:Nat,k≤n∧u=.int .i64 k∧Hid (∀ t x,t<k→xs[t]?=some x→ltS x.mc mc=true)∧Hid (Grw w wr)∧Hid (wr.cell? ⟨w.heap.size,2,none⟩=some (.slice a n A.fc))) (fun u _=>n - (intOf u).toNat)
 case atStart=>exact ⟨0,Nat.zero_le _,rfl,(fun t x ht=>absurd ht (Nat.not_lt_zero _):∀ t x,t<0→xs[t]?=some x→ltS x.mc mc=true),(Grw.refl _).alloc _,by show _=_;simp [go_sem]⟩
 case round =>
  obtain ⟨k,hk,rfl,HO,HG,HC⟩:=hrel
  have hc2:=HC.out
  by_cases hlt:k<n
  ·obtain ⟨z,hx⟩:=at_of hl hlt
   obtain ⟨bk,off,vs,rfl,hb,hvl,hR,hc⟩:=RY.out.at FaR.kp HG.out.below hx
   obtain ⟨rfl,-⟩:=hR
   have q0:wr.cell? ⟨bk,off+k * 3,none⟩=some (.string z.mc):=hc 0 _ rfl
   have hltz:(k:Int)<(n:Int):=by omega
   have HX:Hid (xs[k]?=some z):=hx
   obtain ⟨u,hu⟩:∃ u,Op.bytesLess z.mc.toList mc.toList=u:=⟨_,rfl⟩
   have HU9:Hid (ltS z.mc mc=u):=hu
   clear hc hvl hx
   cases u with
   | true =>
    have HO':Hid (∀ t x,t<k+1→xs[t]?=some x→ltS x.mc mc=true):=fun t x ht hx=>by
     by_cases he:t=k
     ·subst he
      rw [HX.out] at hx
      cases hx
      exact HU9.out
     ·exact HO.out t x (by omega) hx
    go_wp2
    go_roundw
    case rel=>exact ⟨k+1,by omega,by go_num,HO',HG,HC⟩
    case measure=>simp [intOf];omega
   | false =>
    have hd:Hid (K=k):=by
     show K=k
     rw [EK.out]
     exact fk_of (by omega) HO.out (fun x hx=>by rw [HX.out] at hx;cases hx;exact HU9.out)
    go_wp2
    go_ret
    exact ⟨by rw [hd.out];rfl,HG.out⟩
  ·obtain rfl:k=n:=by omega
   have hd:Hid (K=k):=by
    show K=k
    rw [EK.out]
    exact fk_of (by omega) HO.out (fun x hx=>by have:=(List.getElem?_eq_some_iff.1 hx).1;omega)
   go_wp2
   go_ret
   exact ⟨by rw [hd.out];rfl,HG.out⟩
set_option maxHeartbeats 2000000 in
theorem l08Clash_any (A:HuA) (h:HuV) (m:Nat) (mc:ByteArray) (ip:Int) (w:World) (hr:Rw SeR 10 w A.s h.ss) (hn:h.ss.length≤1048576) :
    Calls Tryz.prog 69 #[.agg #[.slice A.u h.us.length A.uc,.slice A.s h.ss.length A.sc,.slice A.f h.fs.length A.fc,.slice A.r h.es.length A.rc,.int .i64 h.nx],.int .i64 (m:Int),.string mc,.int .i64 ip] w fun e w'=>e=.returned (.bool (h.ss.any (clB m mc ip)))∧Grw w w':=by
  obtain ⟨a,ha⟩:∃ a,A.s=a:=⟨_,rfl⟩
  rw [ha] at hr ⊢
  have RY:Hid (Rw SeR 10 w a h.ss):=hr
  clear hr
  obtain ⟨n,hl⟩:∃ n,h.ss.length=n:=⟨_,rfl⟩
  rw [hl] at hn ⊢
  generalize h.ss=xs at *
  obtain ⟨K,hK⟩:∃ K,K=xs.any (clB m mc ip):=⟨_,rfl⟩
  have EK:Hid (K=xs.any (clB m mc ip)):=hK
  rw [← hK]
  clear hK
  go_enter Tryz.func69,Tryz.ntmps69
  go_wp2
  go_loopw [9] (fun u wr=>∃ k:Nat,k≤n∧u=.int .i64 k∧Hid ((xs.take k).any (clB m mc ip)=false)∧Hid (Grw w wr)∧Hid (wr.cell? ⟨w.heap.size,1,none⟩=some (.slice a n A.sc))) (fun u _=>n - (intOf u).toNat)
  case atStart=>exact ⟨0,Nat.zero_le _,rfl,rfl,(Grw.refl _).alloc _,by show _=_;simp [go_sem]⟩
  case round =>
    obtain ⟨k,hk,rfl,HO,HG,HC⟩:=hrel
    have hc1:=HC.out
    by_cases hlt:k<n
    · obtain ⟨z,hx⟩:=at_of hl hlt
      obtain ⟨bk,off,vs,rfl,hb,hvl,hR,hc⟩:=RY.out.at SeR.kp HG.out.below hx
      obtain ⟨rfl,-⟩:=hR
      have hltz:(k:Int)<(n:Int):=by omega
      have HX:Hid (xs[k]?=some z):=hx
      have hcs:∀ j v,([.int .i64 z.id,.int .i64 z.us,.string z.mc,.int .i64 z.ip,.int .i64 z.be,.int .i64 z.la,.int .i64 z.ud,.int .i64 z.qu,.int .i64 z.un,.int .i64 z.il]:List Value)[j]?=some v→wr.cell? ⟨bk,off+k * 10+j,none⟩=some v:=hc
      have HY:Hid (clB m mc ip z=true→K=true):=fun hq=>by
        rw [EK.out]
        exact List.any_eq_true.2 ⟨z,List.mem_of_getElem? hx,hq⟩
      have HN:Hid (clB m mc ip z=false→(xs.take (k+1)).any (clB m mc ip)=false):=fun hq=>by rw [any_take_step hx,HO.out,hq];rfl
      unfold clB at HY HN
      obtain ⟨p,hp⟩:∃ p,(z.us == (m:Int))=p:=⟨_,rfl⟩
      obtain ⟨q,hq⟩:∃ q,(z.mc.toList == mc.toList)=q:=⟨_,rfl⟩
      obtain ⟨r,hr⟩:∃ r,(z.ip == ip)=r:=⟨_,rfl⟩
      rw [hp,hq,hr] at HY HN
      clear hc hvl hx
      have HG1:Hid (Grw w (wr.alloc (.cells #[.int .i64 z.id,.int .i64 z.us,.string z.mc,.int .i64 z.ip,.int .i64 z.be,.int .i64 z.la,.int .i64 z.ud,.int .i64 z.qu,.int .i64 z.un,.int .i64 z.il] 80))):=HG.out.alloc _
      have HC1:Hid ((wr.alloc (.cells #[.int .i64 z.id,.int .i64 z.us,.string z.mc,.int .i64 z.ip,.int .i64 z.be,.int .i64 z.la,.int .i64 z.ud,.int .i64 z.qu,.int .i64 z.un,.int .i64 z.il] 80)).cell? ⟨w.heap.size,1,none⟩=some (.slice (some ⟨bk,off,none⟩) n A.sc)):=acell hc1 _
      cases p <;> cases q <;> cases r <;> first
        | (have HN':Hid ((xs.take (k+1)).any (clB m mc ip)=false):=HN.out (by rfl)
           clear HY HN
           go_wp2_with (first | (refine wpList_load_mid rfl 80 _ rfl bk (off+k * 10) rfl [.int .i64 z.id,.int .i64 z.us,.string z.mc,.int .i64 z.ip,.int .i64 z.be,.int .i64 z.la,.int .i64 z.ud,.int .i64 z.qu,.int .i64 z.un,.int .i64 z.il] _ (fun j u hu=>hcs j u hu) Tryz.underlying80 rfl rfl ?_) | fail)
           go_roundw
           case rel=>exact ⟨k+1,by omega,by go_num,HN',HG1,HC1⟩
           case measure=>simp [intOf];omega)
        | (have HY':Hid (K=true):=HY.out (by rfl)
           clear HY HN
           go_wp2_with (first | (refine wpList_load_mid rfl 80 _ rfl bk (off+k * 10) rfl [.int .i64 z.id,.int .i64 z.us,.string z.mc,.int .i64 z.ip,.int .i64 z.be,.int .i64 z.la,.int .i64 z.ud,.int .i64 z.qu,.int .i64 z.un,.int .i64 z.il] _ (fun j u hu=>hcs j u hu) Tryz.underlying80 rfl rfl ?_) | fail)
           go_ret
           exact ⟨by rw [HY'.out];rfl,HG1.out⟩)
    · obtain rfl:k=n:=by omega
      have hd:Hid (K=false):=by
        show K=false
        have h9:=HO.out
        rw [any_take_all (xs:=xs) (k:=k) (by omega)] at h9
        rw [EK.out]
        exact h9
      go_wp2
      go_ret
      exact ⟨by rw [hd.out];rfl,HG.out⟩
structure FaT (A:HuA) (h:HuV) (mc:ByteArray) (now:Int) (xs:List FailV) (K:Nat) (w W:World) (sx:Option Addr) (m sy:Nat) (ys:List FailV) (x:FailV):Prop where
 lm:ys.length=m
 km:K<m
 m20:m≤21
 hx:ys[K]?=some x
 cb:0≤x.ct∧x.ct≤2
 ex:failX mc now xs=ys.set K (bumpF now x)
 st:Src FaR 3 W sx m sy ys
 gt:Bx W w.heap.size [.slice A.u h.us.length A.uc,.slice A.s h.ss.length A.sc,.slice sx m sy,.slice A.r h.es.length A.rc,.int .i64 h.nx]
 rt:Bx W (w.heap.size+1) [.slice none 0 0,.slice none 0 0,.slice none 0 0,.slice none 0 0,.int .i64 0]
 bt:Below w.heap.size w W
def faG (h:HuV) (fs:List FailV):HuV:={ h with fs:=fs }
set_option maxHeartbeats 16000000 in
theorem l08Failed_keep (P:Nat→Prop) (A:HuA) (h:HuV) (mc:ByteArray) (now:Int) (w:World) (hp:HuP P w A h) (h20:h.fs.length≤20) (hb:∀ z,z ∈ h.fs→0≤z.ct∧z.ct≤2) (ho:∀ z,z ∈ h.fs→FaRok z) (hm:mc.size≤maxLen) (hn:0≤now∧now≤100000) :
  Calls Tryz.prog 68 #[.agg #[.slice A.u h.us.length A.uc,.slice A.s h.ss.length A.sc,.slice A.f h.fs.length A.fc,.slice A.r h.es.length A.rc,.int .i64 h.nx],.string mc,.int .i64 now] w fun e w'=>∃ A':HuA,e=.returned (.agg #[.slice A'.u (faG h (failX mc now h.fs)).us.length A'.uc,.slice A'.s (faG h (failX mc now h.fs)).ss.length A'.sc,.slice A'.f (faG h (failX mc now h.fs)).fs.length A'.fc,.slice A'.r (faG h (failX mc now h.fs)).es.length A'.rc,.int .i64 (faG h (failX mc now h.fs)).nx])∧HuP (fun b=>P b ∨ w.heap.size≤b) w' A' (faG h (failX mc now h.fs))∧Below w.heap.size w w':=by
 have hs:=hp.now
 have HP:Hid (HuP P w A h):=hp
 clear hp
 have OKX:Hid (∀ z,z ∈ failX mc now h.fs→FaRok z):=failX_ok ho hb hm hn
 have HF:Hid (∀ wx,Below w.heap.size w wx→Calls Tryz.prog 66 #[.agg #[.slice A.u h.us.length A.uc,.slice A.s h.ss.length A.sc,.slice A.f h.fs.length A.fc,.slice A.r h.es.length A.rc,.int .i64 h.nx],.string mc] wx fun e w'=>e=.returned (.int .i64 (fkN mc h.fs:Nat))∧Below wx.heap.size wx w'):=fun wx hbx=>(l08Fail_any A h mc wx (hs.below hbx).fs.hrw (by omega)).mono fun e w' h=>⟨h.1,h.2.below⟩
 have FS:=hs.fs
 obtain ⟨xs,hxs⟩:∃ xs,h.fs=xs:=⟨_,rfl⟩
 obtain ⟨fa,hfa⟩:∃ fa,A.f=fa:=⟨_,rfl⟩
 obtain ⟨c,hc⟩:∃ c,A.fc=c:=⟨_,rfl⟩
 rw [hxs] at FS h20 hb ho OKX HF ⊢
 rw [hfa,hc] at FS HF ⊢
 obtain ⟨n,hl⟩:∃ n,xs.length=n:=⟨_,rfl⟩
 rw [hl] at FS h20 HF ⊢
 have NL:Hid (fa=none→n=0∧c=0):=FS.hnil
 have SP:Hid (∀ q,fa=some q→q.spot=none):=FS.hspot
 have RW:Hid (Rw FaR 3 w fa xs):=FS.hrw
 have FSH:Hid (Src FaR 3 w fa n c xs):=FS
 have hcap:n≤c:=FS.hcap
 have HO:Hid (∀ z,z ∈ xs→FaRok z):=ho
 have HBB:Hid (∀ z,z ∈ xs→0≤z.ct∧z.ct≤2):=hb
 obtain ⟨K,hK⟩:∃ K,K=fkN mc xs:=⟨_,rfl⟩
 have hKn:K≤n:=by rw [hK,← hl];exact fk_le
 have hc3:∃ b,(b=true∧failX mc now xs=failI mc xs∧(K=n ∨ ∃ x,xs[K]?=some x∧(x.mc.toList == mc.toList)=false)) ∨ (b=false∧∃ x,xs[K]?=some x∧(x.mc.toList == mc.toList)=true∧failX mc now xs=xs.set K (bumpF now x)):=by
  rcases Nat.lt_or_ge K n with hlt | hge
  ·obtain ⟨x,hx⟩:=at_of hl hlt
   cases hq:(x.mc.toList == mc.toList) with
   | true=>exact ⟨false,.inr ⟨rfl,x,hx,hq,by rw [hK] at hx ⊢;exact failX_at hx hq⟩⟩
   | false=>exact ⟨true,.inl ⟨rfl,by rw [hK] at hx;exact failX_ne hx hq,.inr ⟨x,hx,hq⟩⟩⟩
  ·exact ⟨true,.inl ⟨rfl,failX_no (by rw [← hK];exact List.getElem?_eq_none (by omega)),.inl (by omega)⟩⟩
 obtain ⟨INS,hc3⟩:=hc3
 have HC3:Hid ((INS=true∧failX mc now xs=failI mc xs∧(K=n ∨ ∃ x,xs[K]?=some x∧(x.mc.toList == mc.toList)=false)) ∨ (INS=false∧∃ x,xs[K]?=some x∧(x.mc.toList == mc.toList)=true∧failX mc now xs=xs.set K (bumpF now x))):=hc3
 have HK9:Hid (K=fkN mc xs):=hK
 have HL9:Hid (xs.length=n):=hl
 have HXS:Hid (h.fs=xs):=hxs
 have HFA:Hid (A.f=fa):=hfa
 have HFC:Hid (A.fc=c):=hc
 rw [← hK] at HF
 have B0:Hid (Below w.heap.size w ((w.alloc (.cells #[.slice A.u h.us.length A.uc,.slice A.s h.ss.length A.sc,.slice fa n c,.slice A.r h.es.length A.rc,.int .i64 h.nx] 41)).alloc (.cells #[.slice none 0 0,.slice none 0 0,.slice none 0 0,.slice none 0 0,.int .i64 0] 41))):=((Below.refl _ _).alloc (Nat.le_refl _) _).alloc (by simp) _
 have G0:Hid (Bx ((w.alloc (.cells #[.slice A.u h.us.length A.uc,.slice A.s h.ss.length A.sc,.slice fa n c,.slice A.r h.es.length A.rc,.int .i64 h.nx] 41)).alloc (.cells #[.slice none 0 0,.slice none 0 0,.slice none 0 0,.slice none 0 0,.int .i64 0] 41)) w.heap.size [.slice A.u h.us.length A.uc,.slice A.s h.ss.length A.sc,.slice fa n c,.slice A.r h.es.length A.rc,.int .i64 h.nx]):=(Bx.new w #[.slice A.u h.us.length A.uc,.slice A.s h.ss.length A.sc,.slice fa n c,.slice A.r h.es.length A.rc,.int .i64 h.nx] 41).below ((Below.refl _ _).alloc (Nat.le_refl _) _)
 have R0:Hid (Bx ((w.alloc (.cells #[.slice A.u h.us.length A.uc,.slice A.s h.ss.length A.sc,.slice fa n c,.slice A.r h.es.length A.rc,.int .i64 h.nx] 41)).alloc (.cells #[.slice none 0 0,.slice none 0 0,.slice none 0 0,.slice none 0 0,.int .i64 0] 41)) (w.heap.size+1) [.slice none 0 0,.slice none 0 0,.slice none 0 0,.slice none 0 0,.int .i64 0]):=by
  have h:=Bx.new (w.alloc (.cells #[.slice A.u h.us.length A.uc,.slice A.s h.ss.length A.sc,.slice fa n c,.slice A.r h.es.length A.rc,.int .i64 h.nx] 41)) #[.slice none 0 0,.slice none 0 0,.slice none 0 0,.slice none 0 0,.int .i64 0] 41
  rw [World.size_alloc] at h
  exact h
 clear FS hs hb ho hc3 hK hxs hfa hc hl
 go_enter Tryz.func68,Tryz.ntmps68
 go_wp2_with (first | (refine wpl_getT 41 rfl _ rfl (w.heap.size) rfl G0.out _ Tryz.underlying41 rfl rfl ?_) | fail)
 refine (HF.out _ B0.out).mono ?_
 rintro e w1 ⟨rfl,bx⟩
 have G1:Hid (Bx w1 w.heap.size [.slice A.u h.us.length A.uc,.slice A.s h.ss.length A.sc,.slice fa n c,.slice A.r h.es.length A.rc,.int .i64 h.nx]):=G0.out.below bx
 have R1:Hid (Bx w1 (w.heap.size+1) [.slice none 0 0,.slice none 0 0,.slice none 0 0,.slice none 0 0,.int .i64 0]):=R0.out.below bx
 have B1:Hid (Below w.heap.size w w1):=B0.out.trans (bx.mono B0.out.size)
 clear bx G0 R0 B0 HF
 have hat:∀ x,xs[K]?=some x→((K:Int) == (n:Int))=false∧(K:Int)<(n:Int)∧∃ bk off,w1.cell? ⟨w.heap.size,2,none⟩=some (.slice (some ⟨bk,off,none⟩) n c)∧w1.cell? ⟨bk,off+K * 3,none⟩=some (.string x.mc):=by
  intro x hx
  have hlt:K<n:=by rw [← HL9.out];exact (List.getElem?_eq_some_iff.1 hx).1
  obtain ⟨bk,off,eu,-,hcx⟩:=rw_hold (c:=fvG) (ok:=FaRok) RW.out hx
  refine ⟨by simp;omega,by omega,bk,off,?_,hcx _ B1.out 0 _ rfl⟩
  have:=G1.out.cell 2 rfl
  rw [eu] at this
  exact this
 go_upto_region 2 with fail
 go_cut [25] from 11 to 25 (fun s wx=>s=.bool INS∧w1=wx)
 case first =>
  rcases HC3.out with ⟨hI,-,hE | ⟨x,hx,hq⟩⟩ | ⟨hI,x,hx,hq,-⟩
  all_goals subst hI
  ·have z1:((K:Int) == (n:Int))=true:=by simp;omega
   have g2:=G1.out.cell 2 rfl
   clear hE hat
   go_wp2
   go_meet
   exact ⟨rfl,rfl⟩
  all_goals
   obtain ⟨z1,z2,bk,off,g2,q0⟩:=hat x hx
   clear hx hat
   go_wp2
   go_meet
   exact ⟨rfl,rfl⟩
 obtain ⟨hc1,hwc⟩:=hcut
 subst hc1
 subst hwc
 clear hat
 go_upto_if 25 with fail
 go_cut [] from 26 to 46 (fun wx=>∃ (sx:Option Addr) (m sy:Nat) (ys:List FailV) (x:FailV),FaT A h mc now xs K w wx sx m sy ys x)
 case rest =>
  obtain ⟨sx,m,sy,ys,x,F⟩:=hcut
  clear HC3 FSH NL SP RW HBB HO G1 R1 B1
  have LM:Hid (ys.length=m):=F.lm
  have KM:Hid (K<m):=F.km
  have M20:Hid (m≤21):=F.m20
  have HXX:Hid (ys[K]?=some x):=F.hx
  have CB:Hid (0≤x.ct∧x.ct≤2):=F.cb
  have EX:Hid (failX mc now xs=ys.set K (bumpF now x)):=F.ex
  have ST:Hid (Src FaR 3 wc sx m sy ys):=F.st
  have GT:Hid (Bx wc w.heap.size [.slice A.u h.us.length A.uc,.slice A.s h.ss.length A.sc,.slice sx m sy,.slice A.r h.es.length A.rc,.int .i64 h.nx]):=F.gt
  have RT:Hid (Bx wc (w.heap.size+1) [.slice none 0 0,.slice none 0 0,.slice none 0 0,.slice none 0 0,.int .i64 0]):=F.rt
  have BT:Hid (Below w.heap.size w wc):=F.bt
  clear F
  have hS:=ST.out.below FaR.kp ((Below.refl _ _).alloc (Nat.le_refl _) (.cells #[] 115))
  have lt9:OwnS fvG 3 115 (wc.alloc (.cells #[] 115)) wc.heap.size (.slice (some ⟨wc.heap.size,0,none⟩) 0 0) []:=OwnS.lit wc _ (Nat.le_refl _)
  have ca9:=acell (GT.out.cell 2 rfl) (.cells #[] 115)
  go_wp2_with (at_builtin;go_loud (refine wpl_FailS _ rfl _ _ rfl wc.heap.size _ [] ys rfl lt9 _ _ _ hS.hrw hS.hlen hS.hspot hS.hnil rfl (by have:=hS.hmost;simp;omega) (by simp) ?_))
  intro v9 W3 Y9 _
  have o9:OwnS fvG 3 115 W3 wc.heap.size v9 ys:=Y9.out.1
  have b9:Below wc.heap.size wc W3:=((Below.refl _ _).alloc (Nat.le_refl _) _).trans Y9.out.2
  clear Y9 hS ca9 lt9
  obtain ⟨fx,fy,rfl,-⟩:=o9.slice
  obtain ⟨g9,rfl,hg8,hg7,-⟩:=o9.form (by have:=LM.out;have:=KM.out;omega)
  rw [LM.out] at o9 ⊢
  have G3:Hid (Bx W3 w.heap.size [.slice A.u h.us.length A.uc,.slice A.s h.ss.length A.sc,.slice sx m sy,.slice A.r h.es.length A.rc,.int .i64 h.nx]):=GT.out.below b9
  have R3:Hid (Bx W3 (w.heap.size+1) [.slice none 0 0,.slice none 0 0,.slice none 0 0,.slice none 0 0,.int .i64 0]):=RT.out.below b9
  have B3:Hid (Below w.heap.size w W3):=BT.out.trans (b9.mono BT.out.size)
  have hlt9:=bx_lt RT.out
  have O3:Hid (OwnS fvG 3 115 W3 wc.heap.size (.slice (some ⟨g9,0,none⟩) m fy) ys):=o9
  clear o9 b9 GT RT BT ST
  have hKm:K<ys.length:=by have:=LM.out;have:=KM.out;omega
  have hKmz:(K:Int)<(m:Int):=by have:=KM.out;omega
  have CBz:=CB.out
  have hw1:IntKind.i64.wrap (x.ct+1)=x.ct+1:=by rw [IntKind.wrap_i64];omega
  have hw2:IntKind.i64.wrap (now+10)=now+10:=by rw [IntKind.wrap_i64];omega
  by_cases h3:x.ct+1=3
  ·have z3:(x.ct+1 == 3)=true:=by simpa using h3
   have H3:Hid (x.ct+1=3):=h3
   clear h3
   go_wp2_with (first | (refine wpl_put1 38 rfl _ _ rfl w.heap.size 2 (.slice (some ⟨g9,0,none⟩) m fy) rfl rfl G3.out rfl rfl rfl ?_;intro W4 hw4;have G4:Hid (Bx W4 w.heap.size [.slice A.u h.us.length A.uc,.slice A.s h.ss.length A.sc,.slice (some ⟨g9,0,none⟩) m fy,.slice A.r h.es.length A.rc,.int .i64 h.nx]):=(by rw [hw4];exact G3.out.sets _ _ _ _);have R4:Hid (Bx W4 (w.heap.size+1) [.slice none 0 0,.slice none 0 0,.slice none 0 0,.slice none 0 0,.int .i64 0]):=(by rw [hw4];exact R3.out.apartO _ (by omega));have B4:Hid (Below w.heap.size w W4):=(by rw [hw4];exact below_cells (by omega) _ _ _ B3.out);have O4:Hid (OwnS fvG 3 115 W4 wc.heap.size (.slice (some ⟨g9,0,none⟩) m fy) ys):=(by rw [hw4];exact own_cellsB (by omega) _ _ _ O3.out);clear hw4 G3 R3 B3 O3;have n4:=G4.out.cell 2 rfl;obtain ⟨c4,z4⟩:=O4.out.cell fvG_len (j:=1) HXX.out rfl) | (refine wpl_putC 3 rfl _ _ rfl g9 (K * 3+1) (.int .i64 (x.ct+1)) rfl rfl (O4.out.there1 fvG_len HXX.out 1 (by omega)) rfl rfl ?_;intro W5 hw5;have T5:=O4.out.set1 fvG_len (j:=1) (y:=⟨x.mc,x.ct+1,x.un⟩) HXX.out (by omega) rfl;rw [← hw5] at T5;have G5:Hid (Bx W5 w.heap.size [.slice A.u h.us.length A.uc,.slice A.s h.ss.length A.sc,.slice (some ⟨g9,0,none⟩) m fy,.slice A.r h.es.length A.rc,.int .i64 h.nx]):=(by rw [hw5];exact G4.out.far _ _ (by show g9 ≠ _;omega));have R5:Hid (Bx W5 (w.heap.size+1) [.slice none 0 0,.slice none 0 0,.slice none 0 0,.slice none 0 0,.int .i64 0]):=(by rw [hw5];exact R4.out.far _ _ (by show g9 ≠ _;omega));have B5:Hid (Below w.heap.size w W5):=(B4.out.grown T5.2 B4.out.size (fun z hz=>by cases hz;omega));have O5:Hid (OwnS fvG 3 115 W5 wc.heap.size (.slice (some ⟨g9,0,none⟩) m fy) (ys.set K ⟨x.mc,x.ct+1,x.un⟩)):=T5.1;clear hw5 T5 G4 R4 B4 O4 n4 c4 z4;have HX5:Hid ((ys.set K ⟨x.mc,x.ct+1,x.un⟩)[K]?=some ⟨x.mc,x.ct+1,x.un⟩):=List.getElem?_set_self hKm;have n5:=G5.out.cell 2 rfl;obtain ⟨c5,z5⟩:=O5.out.cell fvG_len (j:=1) HX5.out rfl) | (refine wpl_putC 3 rfl _ _ rfl g9 (K * 3+1) (.int .i64 0) rfl rfl (O5.out.there1 fvG_len HX5.out 1 (by omega)) rfl rfl ?_;intro W6 hw6;have T6:=O5.out.set1 fvG_len (j:=1) (y:=⟨x.mc,0,x.un⟩) HX5.out (by omega) rfl;rw [List.set_set] at T6;rw [← hw6] at T6;have G6:Hid (Bx W6 w.heap.size [.slice A.u h.us.length A.uc,.slice A.s h.ss.length A.sc,.slice (some ⟨g9,0,none⟩) m fy,.slice A.r h.es.length A.rc,.int .i64 h.nx]):=(by rw [hw6];exact G5.out.far _ _ (by show g9 ≠ _;omega));have R6:Hid (Bx W6 (w.heap.size+1) [.slice none 0 0,.slice none 0 0,.slice none 0 0,.slice none 0 0,.int .i64 0]):=(by rw [hw6];exact R5.out.far _ _ (by show g9 ≠ _;omega));have B6:Hid (Below w.heap.size w W6):=(B5.out.grown T6.2 B5.out.size (fun z hz=>by cases hz;omega));have O6:Hid (OwnS fvG 3 115 W6 wc.heap.size (.slice (some ⟨g9,0,none⟩) m fy) (ys.set K ⟨x.mc,0,x.un⟩)):=T6.1;clear hw6 T6 G5 R5 B5 O5 n5 c5 z5;have HX6:Hid ((ys.set K ⟨x.mc,0,x.un⟩)[K]?=some ⟨x.mc,0,x.un⟩):=List.getElem?_set_self hKm;have n6:=G6.out.cell 2 rfl;obtain ⟨c6,z6⟩:=O6.out.cell fvG_len (j:=2) HX6.out rfl) | (refine wpl_putC 3 rfl _ _ rfl g9 (K * 3+2) (.int .i64 (now+10)) rfl rfl (O6.out.there1 fvG_len HX6.out 2 (by omega)) rfl rfl ?_;intro W7 hw7;have T7:=O6.out.set1 fvG_len (j:=2) (y:=⟨x.mc,0,now+10⟩) HX6.out (by omega) rfl;rw [List.set_set] at T7;rw [← hw7] at T7;have G7:Hid (Bx W7 w.heap.size [.slice A.u h.us.length A.uc,.slice A.s h.ss.length A.sc,.slice (some ⟨g9,0,none⟩) m fy,.slice A.r h.es.length A.rc,.int .i64 h.nx]):=(by rw [hw7];exact G6.out.far _ _ (by show g9 ≠ _;omega));have R7:Hid (Bx W7 (w.heap.size+1) [.slice none 0 0,.slice none 0 0,.slice none 0 0,.slice none 0 0,.int .i64 0]):=(by rw [hw7];exact R6.out.far _ _ (by show g9 ≠ _;omega));have B7:Hid (Below w.heap.size w W7):=(B6.out.grown T7.2 B6.out.size (fun z hz=>by cases hz;omega));have O7:Hid (OwnS fvG 3 115 W7 wc.heap.size (.slice (some ⟨g9,0,none⟩) m fy) (ys.set K ⟨x.mc,0,now+10⟩)):=T7.1;clear hw7 T7 G6 R6 B6 O6 n6 c6 z6) | (refine wpl_getT 41 rfl _ rfl (w.heap.size) rfl G7.out _ Tryz.underlying41 rfl rfl ?_) | (refine wpl_putT 41 rfl _ _ rfl (w.heap.size+1) _ rfl rfl R7.out rfl rfl rfl ?_;intro W9 hw9 R9;have B9:Hid (Below w.heap.size w W9):=(by rw [hw9];exact below_cells (by omega) _ _ _ B7.out);have O9:Hid (OwnS fvG 3 115 W9 wc.heap.size (.slice (some ⟨g9,0,none⟩) m fy) (ys.set K ⟨x.mc,0,now+10⟩)):=(by rw [hw9];exact own_cellsB (by omega) _ _ _ O7.out);clear hw9) | fail)
   have EY:failX mc now xs=(ys.set K ⟨x.mc,0,now+10⟩):=EX.out.trans (by unfold bumpF;rw [if_pos H3.out])
   refine bodyPost_ret (v:=.agg #[.slice A.u h.us.length A.uc,.slice A.s h.ss.length A.sc,.slice (some ⟨g9,0,none⟩) m fy,.slice A.r h.es.length A.rc,.int .i64 h.nx]) (results_cell Tryz.results68 (w.heap.size+1) rfl R9 _ Tryz.underlying41 rfl rfl) rfl ?_
   have LN:(ys.set K ⟨x.mc,0,now+10⟩).length=m:=by rw [List.length_set];exact LM.out
   have OKY:=OKX.out
   rw [EY] at OKY
   refine ⟨⟨A.u,A.s,some ⟨g9,0,none⟩,A.r,A.uc,A.sc,fy,A.rc⟩,?_,fun WZ hs9 hk9=>?_,B9.out⟩
   ·show _=Ending.returned (.agg #[_,_,.slice _ (failX mc now xs).length _,_,_])
    rw [EY,LN]
    rfl
   ·have H9:=HP.out WZ (Nat.le_trans B9.out.size hs9) (fun b hb hl=>(hk9 b (.inl hb) (Nat.lt_of_lt_of_le hl B9.out.size)).trans (B9.out.block b hl))
    have o9:=Rlw.own_loc O9.out (fun kk e=>hk9 kk (.inr (by have:=(O9.out.lt kk e).1;omega)) (O9.out.lt kk e).2)
    refine ⟨H9.us,H9.ss,?_,H9.es⟩
    show Src FaR 3 WZ _ (failX mc now xs).length _ (failX mc now xs)
    rw [EY,LN]
    exact OwnS.src (ok:=FaRok) o9 fvG_len OKY (by have:=M20.out;omega)
  ·have z3:(x.ct+1 == 3)=false:=by simpa using h3
   go_wp2_with (first | (refine wpl_put1 38 rfl _ _ rfl w.heap.size 2 (.slice (some ⟨g9,0,none⟩) m fy) rfl rfl G3.out rfl rfl rfl ?_;intro W4 hw4;have G4:Hid (Bx W4 w.heap.size [.slice A.u h.us.length A.uc,.slice A.s h.ss.length A.sc,.slice (some ⟨g9,0,none⟩) m fy,.slice A.r h.es.length A.rc,.int .i64 h.nx]):=(by rw [hw4];exact G3.out.sets _ _ _ _);have R4:Hid (Bx W4 (w.heap.size+1) [.slice none 0 0,.slice none 0 0,.slice none 0 0,.slice none 0 0,.int .i64 0]):=(by rw [hw4];exact R3.out.apartO _ (by omega));have B4:Hid (Below w.heap.size w W4):=(by rw [hw4];exact below_cells (by omega) _ _ _ B3.out);have O4:Hid (OwnS fvG 3 115 W4 wc.heap.size (.slice (some ⟨g9,0,none⟩) m fy) ys):=(by rw [hw4];exact own_cellsB (by omega) _ _ _ O3.out);clear hw4 G3 R3 B3 O3;have n4:=G4.out.cell 2 rfl;obtain ⟨c4,z4⟩:=O4.out.cell fvG_len (j:=1) HXX.out rfl) | (refine wpl_putC 3 rfl _ _ rfl g9 (K * 3+1) (.int .i64 (x.ct+1)) rfl rfl (O4.out.there1 fvG_len HXX.out 1 (by omega)) rfl rfl ?_;intro W5 hw5;have T5:=O4.out.set1 fvG_len (j:=1) (y:=⟨x.mc,x.ct+1,x.un⟩) HXX.out (by omega) rfl;rw [← hw5] at T5;have G5:Hid (Bx W5 w.heap.size [.slice A.u h.us.length A.uc,.slice A.s h.ss.length A.sc,.slice (some ⟨g9,0,none⟩) m fy,.slice A.r h.es.length A.rc,.int .i64 h.nx]):=(by rw [hw5];exact G4.out.far _ _ (by show g9 ≠ _;omega));have R5:Hid (Bx W5 (w.heap.size+1) [.slice none 0 0,.slice none 0 0,.slice none 0 0,.slice none 0 0,.int .i64 0]):=(by rw [hw5];exact R4.out.far _ _ (by show g9 ≠ _;omega));have B5:Hid (Below w.heap.size w W5):=(B4.out.grown T5.2 B4.out.size (fun z hz=>by cases hz;omega));have O5:Hid (OwnS fvG 3 115 W5 wc.heap.size (.slice (some ⟨g9,0,none⟩) m fy) (ys.set K ⟨x.mc,x.ct+1,x.un⟩)):=T5.1;clear hw5 T5 G4 R4 B4 O4 n4 c4 z4;have HX5:Hid ((ys.set K ⟨x.mc,x.ct+1,x.un⟩)[K]?=some ⟨x.mc,x.ct+1,x.un⟩):=List.getElem?_set_self hKm;have n5:=G5.out.cell 2 rfl;obtain ⟨c5,z5⟩:=O5.out.cell fvG_len (j:=1) HX5.out rfl) | (refine wpl_getT 41 rfl _ rfl (w.heap.size) rfl G5.out _ Tryz.underlying41 rfl rfl ?_) | (refine wpl_putT 41 rfl _ _ rfl (w.heap.size+1) _ rfl rfl R5.out rfl rfl rfl ?_;intro W9 hw9 R9;have B9:Hid (Below w.heap.size w W9):=(by rw [hw9];exact below_cells (by omega) _ _ _ B5.out);have O9:Hid (OwnS fvG 3 115 W9 wc.heap.size (.slice (some ⟨g9,0,none⟩) m fy) (ys.set K ⟨x.mc,x.ct+1,x.un⟩)):=(by rw [hw9];exact own_cellsB (by omega) _ _ _ O5.out);clear hw9) | fail)
   have EY:failX mc now xs=(ys.set K ⟨x.mc,x.ct+1,x.un⟩):=EX.out.trans (by unfold bumpF;rw [if_neg h3])
   refine bodyPost_ret (v:=.agg #[.slice A.u h.us.length A.uc,.slice A.s h.ss.length A.sc,.slice (some ⟨g9,0,none⟩) m fy,.slice A.r h.es.length A.rc,.int .i64 h.nx]) (results_cell Tryz.results68 (w.heap.size+1) rfl R9 _ Tryz.underlying41 rfl rfl) rfl ?_
   have LN:(ys.set K ⟨x.mc,x.ct+1,x.un⟩).length=m:=by rw [List.length_set];exact LM.out
   have OKY:=OKX.out
   rw [EY] at OKY
   refine ⟨⟨A.u,A.s,some ⟨g9,0,none⟩,A.r,A.uc,A.sc,fy,A.rc⟩,?_,fun WZ hs9 hk9=>?_,B9.out⟩
   ·show _=Ending.returned (.agg #[_,_,.slice _ (failX mc now xs).length _,_,_])
    rw [EY,LN]
    rfl
   ·have H9:=HP.out WZ (Nat.le_trans B9.out.size hs9) (fun b hb hl=>(hk9 b (.inl hb) (Nat.lt_of_lt_of_le hl B9.out.size)).trans (B9.out.block b hl))
    have o9:=Rlw.own_loc O9.out (fun kk e=>hk9 kk (.inr (by have:=(O9.out.lt kk e).1;omega)) (O9.out.lt kk e).2)
    refine ⟨H9.us,H9.ss,?_,H9.es⟩
    show Src FaR 3 WZ _ (failX mc now xs).length _ (failX mc now xs)
    rw [EY,LN]
    exact OwnS.src (ok:=FaRok) o9 fvG_len OKY (by have:=M20.out;omega)
 rcases HC3.out with ⟨hI,hEI,-⟩ | ⟨hI,x,hx,hq,hEX⟩
 ·subst hI
  have EI:Hid (failX mc now xs=failI mc xs):=hEI
  have g2:=G1.out.cell 2 rfl
  clear hEI HC3
  by_cases h2:n=20
  ·have z20:((n:Int) == 20)=true:=by simp [h2]
   have H2:Hid (n=20):=h2
   clear h2
   have hlt1:=bx_lt R1.out
   go_wp2_with (first | (refine wpl_getT 41 rfl _ rfl (w.heap.size) rfl G1.out _ Tryz.underlying41 rfl rfl ?_) | (refine wpl_putT 41 rfl _ _ rfl (w.heap.size+1) _ rfl rfl R1.out rfl rfl rfl ?_;intro W9 hw9 R9;have B9:Hid (Below w.heap.size w W9):=(by rw [hw9];exact below_cells (by omega) _ _ _ B1.out);clear hw9) | fail)
   refine bodyPost_ret (v:=.agg #[.slice A.u h.us.length A.uc,.slice A.s h.ss.length A.sc,.slice fa n c,.slice A.r h.es.length A.rc,.int .i64 h.nx]) (results_cell Tryz.results68 (w.heap.size+1) rfl R9 _ Tryz.underlying41 rfl rfl) rfl ?_
   have EY:failX mc now xs=xs:=EI.out.trans (by unfold failI;rw [if_pos (HL9.out.trans H2.out)])
   refine ⟨⟨A.u,A.s,fa,A.r,A.uc,A.sc,c,A.rc⟩,?_,fun WZ hs9 hk9=>?_,B9.out⟩
   ·show _=Ending.returned (.agg #[_,_,.slice _ (failX mc now xs).length _,_,_])
    rw [EY,HL9.out]
    rfl
   ·have H9:=HP.out WZ (Nat.le_trans B9.out.size hs9) (fun b hb hl=>(hk9 b (.inl hb) (Nat.lt_of_lt_of_le hl B9.out.size)).trans (B9.out.block b hl))
    refine ⟨H9.us,H9.ss,?_,H9.es⟩
    show Src FaR 3 WZ _ (failX mc now xs).length _ (failX mc now xs)
    have h8:=H9.fs
    rw [HXS.out,HFA.out,HFC.out,HL9.out] at h8
    rw [EY,HL9.out]
    exact h8
  have z20:((n:Int) == 20)=false:=by simp;omega
  obtain ⟨pre,hpr⟩:∃ pre,pre=xs.take K:=⟨_,rfl⟩
  obtain ⟨pst,hps⟩:∃ pst,pst=xs.drop K:=⟨_,rfl⟩
  have hpre:pre.length=K:=by rw [hpr,List.length_take,HL9.out];omega
  have hpst:pst.length=n - K:=by rw [hps,List.length_drop,HL9.out]
  have hap:xs=pre ++ pst:=by rw [hpr,hps,List.take_append_drop]
  have EJ:Hid (failI mc xs=pre ++ (bumpF now ⟨mc,0,0⟩ :: pst)):=by
   show _=_
   unfold failI insX
   rw [if_neg (by rw [HL9.out];exact h2),← HK9.out,← hpr,← hps]
   rfl
  have OKP:Hid (∀ z,z ∈ pre ∨ z ∈ pst→FaRok z):=fun z hz=>HO.out z (by rw [hap];exact List.mem_append.2 hz)
  have KP:Hid (∀ wx,Rel.Keep (fun b=>b<w1.heap.size∧b ≠ w.heap.size) w1 wx→∀ bb oo,fa=some ⟨bb,oo,none⟩→∀ j u,(flatS fvG pre)[j]?=some u→wx.cell? ⟨bb,oo+j,none⟩=some u):=by
   intro wx hk2 bb oo hf j u hu
   have RZ:=RW.out
   rw [hf] at RZ
   have hbl:bb<w.heap.size:=rw_blk RZ (by rw [hap];intro e;rw [(List.append_eq_nil_iff.1 e).1] at hu;simp [flatS] at hu)
   have h1:=flat_rw (c:=fvG) (ok:=FaRok) RZ fvG_len (by omega) j u (by rw [hap,flatS_append,List.getElem?_append_left (List.getElem?_eq_some_iff.1 hu).1];exact hu)
   exact (Rlw.cell_of (a:=⟨bb,oo+j,none⟩) ((hk2.block bb ⟨by have:=B1.out.size;omega,by omega⟩).trans (B1.out.block bb hbl))).trans h1
  have KQ:Hid (∀ wx,Rel.Keep (fun b=>b<w1.heap.size∧b ≠ w.heap.size) w1 wx→∀ bb oo o2,fa=some ⟨bb,oo,none⟩→(K<c→o2=oo+K * 3)→∀ j u,(flatS fvG pst)[j]?=some u→wx.cell? ⟨bb,o2+j,none⟩=some u):=by
   intro wx hk2 bb oo o2 hf ho2 j u hu
   have RZ:=RW.out
   rw [hf] at RZ
   have hne:pst ≠ []:=by intro e;rw [e] at hu;simp [flatS] at hu
   have hlt:K<n:=by
    rcases Nat.lt_or_ge K n with h | h
    ·exact h
    ·exact absurd (List.length_eq_zero_iff.1 (by omega)) hne
   have hbl:bb<w.heap.size:=rw_blk RZ (by rw [hap];intro e;exact hne (List.append_eq_nil_iff.1 e).2)
   have h1:=flat_rw (c:=fvG) (ok:=FaRok) RZ fvG_len (by omega) (K * 3+j) u (by
    rw [hap,flatS_append,List.getElem?_append_right (by rw [flatS_len fvG_len,hpre];omega),flatS_len fvG_len,hpre,Nat.add_sub_cancel_left]
    exact hu)
   rw [ho2 (by omega),Nat.add_assoc]
   exact (Rlw.cell_of (a:=⟨bb,oo+(K * 3+j),none⟩) ((hk2.block bb ⟨by have:=B1.out.size;omega,by omega⟩).trans (B1.out.block bb hbl))).trans h1
  have hfb:∃ fb:Option Addr,(fa=none→fb=none)∧∀ bb oo,fa=some ⟨bb,oo,none⟩→∃ o2,fb=some ⟨bb,o2,none⟩∧(if c=K then (some ⟨bb,oo,none⟩:Option Addr) else some ⟨bb,oo+K * 3,none⟩)=some ⟨bb,o2,none⟩∧(K<c→o2=oo+K * 3):=by
   by_cases hcK:c=K
   ·exact ⟨fa,fun h=>h,fun bb oo h=>⟨oo,h,by rw [if_pos hcK],fun h=>by omega⟩⟩
   ·cases fa with
    | none=>exact ⟨none,fun _=>rfl,fun bb oo h=>by cases h⟩
    | some p =>
     obtain ⟨b1,o1,s1⟩:=p
     exact ⟨some ⟨b1,o1+K * 3,none⟩,(fun h=>by cases h),fun bb oo h=>(by cases h;exact ⟨_,rfl,by rw [if_neg hcK],fun _=>rfl⟩)⟩
  obtain ⟨fb,hfb⟩:=hfb
  have FB:Hid ((fa=none→fb=none)∧∀ bb oo,fa=some ⟨bb,oo,none⟩→∃ o2,fb=some ⟨bb,o2,none⟩∧(if c=K then (some ⟨bb,oo,none⟩:Option Addr) else some ⟨bb,oo+K * 3,none⟩)=some ⟨bb,o2,none⟩∧(K<c→o2=oo+K * 3)):=hfb
  clear hfb hpr hps hap
  have hq1:(K:Int)≤(n:Int):=by omega
  have hq2:(n:Int)≤(c:Int):=by omega
  have hq3:(K:Int)≤(c:Int):=by omega
  go_wp2_with fail
  clear g2
  refine Rlw.wp_region_rel (w:=w1) [Rlw.kndR 0 [] (Knd.row fvG 3 115 ([]:List FailV)) w1.heap.size,Rlw.valR 1 [] (.pointer (some ⟨w.heap.size,2,none⟩)),Rlw.valR 2 [1,17] (.slice fa n c),Rlw.valR 3 [] (.int .i64 (K:Int)),Rlw.valR 4 [2,3] (.slice fa K c),Rlw.kndT 5 0 [4] (Knd.row fvG 3 115 (([]:List FailV) ++ pre)) w1.heap.size,Rlw.valR 6 [] (.string mc),Rlw.valR 7 [6] (.agg #[.string mc,.int .i64 0,.int .i64 0]),Rlw.kndR 8 [7] (Knd.row fvG 3 115 ([⟨mc,0,0⟩]:List FailV)) w1.heap.size,Rlw.kndT 9 5 [8] (Knd.row fvG 3 115 ((([]:List FailV) ++ pre) ++ ([⟨mc,0,0⟩]:List FailV))) w1.heap.size,Rlw.valR 10 [] (.pointer (some ⟨w.heap.size,2,none⟩)),Rlw.valR 11 [10,17] (.slice fa n c),Rlw.valR 12 [] (.int .i64 (K:Int)),Rlw.valR 13 [11,12] (.slice fb (n - K) (c - K)),Rlw.kndT 14 9 [13] (Knd.row fvG 3 115 (((([]:List FailV) ++ pre) ++ ([⟨mc,0,0⟩]:List FailV)) ++ pst)) w1.heap.size,Rlw.valR 15 [] (.pointer (some ⟨w.heap.size,2,none⟩)),Rlw.fillR w.heap.size 17 14 [14,15] (fun v=>[.slice A.u h.us.length A.uc,.slice A.s h.ss.length A.sc,v,.slice A.r h.es.length A.rc,.int .i64 h.nx]),Rlw.iniR w.heap.size [.slice A.u h.us.length A.uc,.slice A.s h.ss.length A.sc,.slice fa n c,.slice A.r h.es.length A.rc,.int .i64 h.nx]] [17] [1,2,3,4,6,7,10,11,12,13,14,15,16] (fun b=>b<w1.heap.size∧b ≠ w.heap.size) (by kernel_rfl) (by kernel_rfl) (by kernel_rfl) ?_ (fun b h=>h.1) ?ini ?ap ?_ ?_
  ·exact Rlw.oc (Rlw.kndR_ok _ _ _ _) (Rlw.ov (Rlw.ov (Rlw.ov (Rlw.ov (Rlw.oc (Rlw.kndT_ok _ _ _ _ _) (Rlw.ov (Rlw.ov (Rlw.oc (Rlw.kndR_ok _ _ _ _) (Rlw.oc (Rlw.kndT_ok _ _ _ _ _) (Rlw.ov (Rlw.ov (Rlw.ov (Rlw.ov (Rlw.oc (Rlw.kndT_ok _ _ _ _ _) (Rlw.ov (Rlw.oc (Rlw.fillR_ok _ _ _ _ _) (Rlw.oc (Rlw.iniR_ok _ _) (List.forall_mem_nil _))))))))))))))))))
  case ini =>
   intro q r hq hr
   rw [List.mem_singleton] at hq
   subst hq
   cases hr
   exact ⟨Rlw.bx_loc G1.out rfl,fun b hb=>⟨by have hb2:b=w.heap.size:=hb;have:=bx_lt G1.out;show b<w1.heap.size;omega,fun e=>e.2 hb⟩⟩
  case ap =>
   intro q1 q2 r1 r2 h1 h2 hne
   rw [List.mem_singleton] at h1 h2
   exact absurd (h1.trans h2.symm) hne
  ·refine Rlw.wk rfl ?_ ?_
   ·intro σ wx hK hF post hp
    go_simp
    refine Rlw.yld_val ?_
    exact hp _ _ (Rlw.left_knd (OwnS.lit wx _ (Nat.le_refl _)) hK.size ((Below.refl _ _).alloc (Nat.le_refl _) _))
   refine Rlw.wk rfl ?_ ?_
   ·intro σ wx hK hF post hp
    go_simp
    exact Rlw.yv hp
   refine Rlw.wk rfl ?_ ?_
   ·intro σ wx hK hF post hp
    have f1:=Rlw.fv hF 1 rfl rfl
    have f17:Bx wx w.heap.size [.slice A.u h.us.length A.uc,.slice A.s h.ss.length A.sc,.slice fa n c,.slice A.r h.es.length A.rc,.int .i64 h.nx]:=Rlw.fact_of hF (j:=17) rfl rfl
    have q1:=f17.cell 2 rfl
    go_simp
    exact Rlw.yv hp
   refine Rlw.wk rfl ?_ ?_
   ·intro σ wx hK hF post hp
    go_simp
    exact Rlw.yv hp
   refine Rlw.wk rfl ?_ ?_
   ·intro σ wx hK hF post hp
    have f2:=Rlw.fv hF 2 rfl rfl
    have f3:=Rlw.fv hF 3 rfl rfl
    cases fa with
    | none =>
     obtain ⟨hn0,hc0⟩:=NL.out rfl
     subst hn0 hc0
     obtain rfl:K=0:=by omega
     go_simp
     refine Rlw.yld_val ?_
     exact hp _ _ Rlw.left_val
    | some pa =>
     obtain ⟨bb,oo,pt⟩:=pa
     obtain rfl:pt=none:=SP.out _ rfl
     go_simp
     refine Rlw.yld_val ?_
     exact hp _ _ Rlw.left_val
   refine Rlw.wk rfl ?_ ?_
   ·intro σ wx hK hF post hp
    have f0:OwnS fvG 3 115 wx w1.heap.size (σ 0) ([]:List FailV):=Rlw.fact_of hF (j:=0) rfl rfl
    have f4:=Rlw.fv hF 4 rfl rfl
    cases fa with
    | none =>
     obtain ⟨hn0,hc0⟩:=NL.out rfl
     subst hn0 hc0
     obtain rfl:K=0:=by omega
     have hp0:pre=[]:=List.length_eq_zero_iff.1 hpre
     obtain ⟨i0,hi,hz0,hz1,hz2⟩:=info_parts infoFail
     refine Rlw.yld_append_none (.tmp 31) (.tmp 35) 38 rfl w1.heap.size 115 i0 3 Tryz.underlying38 hi (σ 0) _ _ (by go_simp) f0 (by go_simp;try exact f4) ?_
     exact hp _ _ (Rlw.left_app (v:=σ 0) (rj:=Rlw.kndR 0 [] (Knd.row fvG 3 115 ([]:List FailV)) w1.heap.size) rfl (fun b hb=>hb) (by rw [hp0];exact f0) (grown_refl _ _) (fun k hk=>.inl hk))
    | some pa =>
     obtain ⟨bb,oo,pt⟩:=pa
     obtain rfl:pt=none:=SP.out _ rfl
     obtain ⟨i0,hi,hz0,hz1,hz2⟩:=info_parts infoFail
     have hm9:(pre).length=K:=hpre
     refine Rlw.yld_append (.tmp 31) (.tmp 35) 38 rfl w1.heap.size 115 i0 (.agg #[.string ⟨#[]⟩,.int .i64 0,.int .i64 0]) 3 32 Tryz.underlying38 hi hz0 hz1 hz2 rfl (by decide) (σ 0) ([]:List FailV).length (flatS fvG ([]:List FailV)) (by go_simp) f0 ⟨bb,oo,none⟩ K c (flatS fvG pre) (by go_simp;try exact f4) ((flatS_len fvG_len _).trans (congrArg (fun z=>z * 3) hm9)) (fun j u hu=>by rw [addn];exact KP.out wx (Rlw.keep_drew hK) bb oo rfl j u hu) (oneFail _) (by unfold maxLen;simp;omega) (by simp;omega) hK.size ?_
     intro v' w' h2 h3 h4
     rw [← flatS_append] at h2
     have h5:OwnS fvG 3 115 w' w1.heap.size v' (([]:List FailV) ++ pre):=by unfold OwnS;rw [(List.length_append.trans (congrArg (fun z=>([]:List FailV).length+z) hm9):(([]:List FailV) ++ pre).length=([]:List FailV).length+K)];exact h2
     exact hp _ _ (Rlw.left_app (v:=σ 0) (rj:=Rlw.kndR 0 [] (Knd.row fvG 3 115 ([]:List FailV)) w1.heap.size) rfl (fun b hb=>hb) h5 h3 h4)
   refine Rlw.wk rfl ?_ ?_
   ·intro σ wx hK hF post hp
    go_simp
    exact Rlw.yv hp
   refine Rlw.wk rfl ?_ ?_
   ·intro σ wx hK hF post hp
    have f6:=Rlw.fv hF 6 rfl rfl
    go_simp
    exact Rlw.yv hp
   refine Rlw.wk rfl ?_ ?_
   ·intro σ wx hK hF post hp
    have f7:=Rlw.fv hF 7 rfl rfl
    go_simp
    refine Rlw.yld_val ?_
    exact hp _ _ (Rlw.left_knd (World.ownsRow_lit wx #[.string mc,.int .i64 0,.int .i64 0] 1 (Nat.le_refl _) (by unfold maxLen;omega) rfl) hK.size ((Below.refl _ _).alloc (Nat.le_refl _) _))
   refine Rlw.wk rfl ?_ ?_
   ·intro σ wx hK hF post hp
    have f5:OwnS fvG 3 115 wx w1.heap.size (σ 5) (([]:List FailV) ++ pre):=Rlw.fact_of hF (j:=5) rfl rfl
    have f8:OwnS fvG 3 115 wx w1.heap.size (σ 8) ([⟨mc,0,0⟩]:List FailV):=Rlw.fact_of hF (j:=8) rfl rfl
    obtain ⟨gz,cz,hzz,hnz,-⟩:=f8.slice
    cases gz with
    | none=>exact absurd (f8.2) (by rw [hzz];simp)
    | some pz =>
     obtain ⟨q,o,pt⟩:=pz
     have hq0:(⟨q,o,pt⟩:Addr)=⟨q,0,none⟩:=by
      obtain ⟨g,hg,-⟩:=(show OwnS fvG 3 115 wx w1.heap.size (.slice (some ⟨q,o,pt⟩) _ cz) _ from hzz ▸ f8).form (by simp)
      exact (Option.some.inj hg).trans (by have:=Option.some.inj hg;cases this;rfl)
     cases hq0
     have hcl:∀ j u,(flatS fvG ([⟨mc,0,0⟩]:List FailV))[j]?=some u→wx.cell? ⟨q,0+j,none⟩=some u:=fun j u hu=>by
      have:=World.ownsRow.cells f8 (g:=q) (by rw [hzz];rfl) j u hu
      rw [addn] at this
      exact this
     obtain ⟨i0,hi,hz0,hz1,hz2⟩:=info_parts infoFail
     have hm9:(([⟨mc,0,0⟩]:List FailV)).length=1:=rfl
     refine Rlw.yld_append (.tmp 36) (.tmp 39) 38 rfl w1.heap.size 115 i0 (.agg #[.string ⟨#[]⟩,.int .i64 0,.int .i64 0]) 3 32 Tryz.underlying38 hi hz0 hz1 hz2 rfl (by decide) (σ 5) (([]:List FailV) ++ pre).length (flatS fvG (([]:List FailV) ++ pre)) (by go_simp) f5 ⟨q,0,none⟩ 1 cz (flatS fvG ([⟨mc,0,0⟩]:List FailV)) (by go_simp;try (rw [hzz];rfl)) ((flatS_len fvG_len _).trans (congrArg (fun z=>z * 3) hm9)) (fun j u hu=>by rw [addn];exact hcl j u hu) (oneFail _) (by unfold maxLen;rw [List.nil_append];omega) (by rw [List.nil_append];omega) hK.size ?_
     intro v' w' h2 h3 h4
     rw [← flatS_append] at h2
     have h5:OwnS fvG 3 115 w' w1.heap.size v' ((([]:List FailV) ++ pre) ++ ([⟨mc,0,0⟩]:List FailV)):=by unfold OwnS;rw [(List.length_append.trans (congrArg (fun z=>(([]:List FailV) ++ pre).length+z) hm9):((([]:List FailV) ++ pre) ++ ([⟨mc,0,0⟩]:List FailV)).length=(([]:List FailV) ++ pre).length+1)];exact h2
     exact hp _ _ (Rlw.left_app (v:=σ 5) (rj:=Rlw.kndT 5 0 [4] (Knd.row fvG 3 115 (([]:List FailV) ++ pre)) w1.heap.size) rfl (fun b hb=>hb) h5 h3 h4)
   refine Rlw.wk rfl ?_ ?_
   ·intro σ wx hK hF post hp
    go_simp
    exact Rlw.yv hp
   refine Rlw.wk rfl ?_ ?_
   ·intro σ wx hK hF post hp
    have f10:=Rlw.fv hF 10 rfl rfl
    have f17:Bx wx w.heap.size [.slice A.u h.us.length A.uc,.slice A.s h.ss.length A.sc,.slice fa n c,.slice A.r h.es.length A.rc,.int .i64 h.nx]:=Rlw.fact_of hF (j:=17) rfl rfl
    have q1:=f17.cell 2 rfl
    go_simp
    exact Rlw.yv hp
   refine Rlw.wk rfl ?_ ?_
   ·intro σ wx hK hF post hp
    go_simp
    exact Rlw.yv hp
   refine Rlw.wk rfl ?_ ?_
   ·intro σ wx hK hF post hp
    have f11:=Rlw.fv hF 11 rfl rfl
    have f12:=Rlw.fv hF 12 rfl rfl
    cases fa with
    | none =>
     obtain ⟨hn0,hc0⟩:=NL.out rfl
     subst hn0 hc0
     obtain rfl:K=0:=by omega
     obtain rfl:fb=none:=FB.out.1 rfl
     go_simp
     refine Rlw.yld_val ?_
     exact hp _ _ Rlw.left_val
    | some pa =>
     obtain ⟨bb,oo,pt⟩:=pa
     obtain rfl:pt=none:=SP.out _ rfl
     obtain ⟨o2,rfl,hif,-⟩:=FB.out.2 bb oo rfl
     go_simp
     try rw [hif]
     refine Rlw.yld_val ?_
     exact hp _ _ Rlw.left_val
   refine Rlw.wk rfl ?_ ?_
   ·intro σ wx hK hF post hp
    have f9:OwnS fvG 3 115 wx w1.heap.size (σ 9) ((([]:List FailV) ++ pre) ++ ([⟨mc,0,0⟩]:List FailV)):=Rlw.fact_of hF (j:=9) rfl rfl
    have f13:=Rlw.fv hF 13 rfl rfl
    cases fa with
    | none =>
     obtain ⟨hn0,hc0⟩:=NL.out rfl
     subst hn0 hc0
     obtain rfl:K=0:=by omega
     obtain rfl:fb=none:=FB.out.1 rfl
     have hp1:pst=[]:=List.length_eq_zero_iff.1 (by omega)
     obtain ⟨i0,hi,hz0,hz1,hz2⟩:=info_parts infoFail
     refine Rlw.yld_append_none (.tmp 40) (.tmp 44) 38 rfl w1.heap.size 115 i0 3 Tryz.underlying38 hi (σ 9) _ _ (by go_simp) f9 (by go_simp;try (rw [f13])) ?_
     exact hp _ _ (Rlw.left_app (v:=σ 9) (rj:=Rlw.kndT 9 5 [8] (Knd.row fvG 3 115 ((([]:List FailV) ++ pre) ++ ([⟨mc,0,0⟩]:List FailV))) w1.heap.size) rfl (fun b hb=>hb) (by rw [hp1,List.append_nil];exact f9) (grown_refl _ _) (fun k hk=>.inl hk))
    | some pa =>
     obtain ⟨bb,oo,pt⟩:=pa
     obtain rfl:pt=none:=SP.out _ rfl
     obtain ⟨o2,rfl,hif,ho2⟩:=FB.out.2 bb oo rfl
     obtain ⟨i0,hi,hz0,hz1,hz2⟩:=info_parts infoFail
     have hm9:(pst).length=(n - K):=hpst
     refine Rlw.yld_append (.tmp 40) (.tmp 44) 38 rfl w1.heap.size 115 i0 (.agg #[.string ⟨#[]⟩,.int .i64 0,.int .i64 0]) 3 32 Tryz.underlying38 hi hz0 hz1 hz2 rfl (by decide) (σ 9) ((([]:List FailV) ++ pre) ++ ([⟨mc,0,0⟩]:List FailV)).length (flatS fvG ((([]:List FailV) ++ pre) ++ ([⟨mc,0,0⟩]:List FailV))) (by go_simp) f9 ⟨bb,o2,none⟩ (n - K) (c - K) (flatS fvG pst) (by go_simp;try exact f13) ((flatS_len fvG_len _).trans (congrArg (fun z=>z * 3) hm9)) (fun j u hu=>by rw [addn];exact KQ.out wx (Rlw.keep_drew hK) bb oo o2 rfl ho2 j u hu) (oneFail _) (by unfold maxLen;simp;omega) (by simp;omega) hK.size ?_
     intro v' w' h2 h3 h4
     rw [← flatS_append] at h2
     have h5:OwnS fvG 3 115 w' w1.heap.size v' (((([]:List FailV) ++ pre) ++ ([⟨mc,0,0⟩]:List FailV)) ++ pst):=by unfold OwnS;rw [(List.length_append.trans (congrArg (fun z=>((([]:List FailV) ++ pre) ++ ([⟨mc,0,0⟩]:List FailV)).length+z) hm9):(((([]:List FailV) ++ pre) ++ ([⟨mc,0,0⟩]:List FailV)) ++ pst).length=((([]:List FailV) ++ pre) ++ ([⟨mc,0,0⟩]:List FailV)).length+(n - K))];exact h2
     exact hp _ _ (Rlw.left_app (v:=σ 9) (rj:=Rlw.kndT 9 5 [8] (Knd.row fvG 3 115 ((([]:List FailV) ++ pre) ++ ([⟨mc,0,0⟩]:List FailV))) w1.heap.size) rfl (fun b hb=>hb) h5 h3 h4)
   refine Rlw.wk rfl ?_ ?_
   ·intro σ wx hK hF post hp
    go_simp
    exact Rlw.yv hp
   refine Rlw.wk rfl ?_ ?_
   ·intro σ wx hK hF post hp
    have f15:=Rlw.fv hF 15 rfl rfl
    have f14:OwnS fvG 3 115 wx w1.heap.size (σ 14) (((([]:List FailV) ++ pre) ++ ([⟨mc,0,0⟩]:List FailV)) ++ pst):=Rlw.fact_of hF (j:=14) rfl rfl
    have f17:Bx wx w.heap.size [.slice A.u h.us.length A.uc,.slice A.s h.ss.length A.sc,.slice fa n c,.slice A.r h.es.length A.rc,.int .i64 h.nx]:=Rlw.fact_of hF (j:=17) rfl rfl
    obtain ⟨az,cz,hzz,-,-⟩:=f14.slice
    refine Rlw.yld_put1 38 _ _ rfl (q:=w.heap.size) (j:=2) (v:=σ 14) (by go_simp) (by go_simp) f17 (by rfl) rfl (by rw [hzz];rfl) ?_
    exact hp _ _ (Rlw.left_fill (t:=14) rfl (by decide) f17 [σ 14] rfl)
   exact Rlw.walk_nil
  ·intro σ W2 hK hF hA
   have f14:OwnS fvG 3 115 W2 w1.heap.size (σ 14) (((([]:List FailV) ++ pre) ++ [⟨mc,0,0⟩]) ++ pst):=Rlw.fact_of hF (j:=14) rfl rfl
   have f16:Bx W2 w.heap.size [.slice A.u h.us.length A.uc,.slice A.s h.ss.length A.sc,σ 14,.slice A.r h.es.length A.rc,.int .i64 h.nx]:=Rlw.fact_of hF (j:=16) rfl rfl
   have KW:=Rlw.keep_drew hK
   obtain ⟨ys,hys⟩:∃ ys,ys=pre ++ (⟨mc,0,0⟩:FailV) :: pst:=⟨_,rfl⟩
   rw [show (((([]:List FailV) ++ pre) ++ [⟨mc,0,0⟩]) ++ pst)=ys by rw [hys];simp] at f14
   obtain ⟨sx,sy,hsx,-⟩:=f14.slice
   obtain ⟨m,hm9⟩:∃ m,ys.length=m:=⟨_,rfl⟩
   rw [hm9] at hsx
   rw [hsx] at f14 f16
   have hmn:m=n+1:=by rw [← hm9,hys];simp;omega
   have LM:Hid (ys.length=m):=hm9
   have KM:Hid (K<m):=by show _<_;omega
   have M20:Hid (m≤21):=by show _≤_;omega
   obtain ⟨x,hxd⟩:∃ x:FailV,x=⟨mc,0,0⟩:=⟨_,rfl⟩
   have HXX:Hid (ys[K]?=some x):=by
    show _=_
    rw [hys,hxd,List.getElem?_append_right (by omega),hpre,Nat.sub_self]
    rfl
   have CB:Hid (0≤x.ct∧x.ct≤2):=by rw [hxd];exact ⟨Int.le_refl _,by show (0:Int)≤2;omega⟩
   have EX:Hid (failX mc now xs=ys.set K (bumpF now x)):=by
    show _=_
    rw [EI.out,hxd,hys,List.set_append_right _ _ (by omega),hpre,Nat.sub_self]
    exact EJ.out
   have ST:Hid (Src FaR 3 W2 sx m sy ys):=OwnS.src (ok:=FaRok) f14 fvG_len (fun z hz=>by
    rw [hys] at hz
    rcases List.mem_append.1 hz with hz | hz
    ·exact OKP.out z (.inl hz)
    ·rcases List.mem_cons.1 hz with rfl | hz
     ·exact ⟨hm,by show (Lit.int .i64 0).wf=true;decide,by show (Lit.int .i64 0).wf=true;decide⟩
     ·exact OKP.out z (.inr hz)) (by omega)
   have GT:Hid (Bx W2 w.heap.size [.slice A.u h.us.length A.uc,.slice A.s h.ss.length A.sc,.slice sx m sy,.slice A.r h.es.length A.rc,.int .i64 h.nx]):=f16
   have RT:Hid (Bx W2 (w.heap.size+1) [.slice none 0 0,.slice none 0 0,.slice none 0 0,.slice none 0 0,.int .i64 0]):=Rlw.bx_keepW R1.out KW ⟨bx_lt R1.out,by omega⟩
   have BT:Hid (Below w.heap.size w W2):=⟨KW.os.trans B1.out.os,KW.tape.trans B1.out.tape,KW.output.trans B1.out.output,Nat.le_trans B1.out.size KW.size,fun b hb=>(KW.block b ⟨by have:=B1.out.size;omega,by omega⟩).trans (B1.out.block b hb)⟩
   simp only [Rlw.putAll,Nat.zero_add,Nat.reduceAdd]
   clear f14 f16 KW R1 B1 G1 KP KQ FB hys hxd hsx hm9 hmn EJ EI OKP hF hA hK
   go_simp
   go_wp2
   go_meet
   exact ⟨sx,m,sy,ys,x,⟨LM,KM,M20,HXX,CB,EX,ST,GT,RT,BT⟩⟩
 ·subst hI
  have LM:Hid (xs.length=n):=HL9.out
  have EX:Hid (failX mc now xs=xs.set K (bumpF now x)):=hEX
  have HXX:Hid (xs[K]?=some x):=hx
  have hkl:K<n:=by
   have:=(List.getElem?_eq_some_iff.1 hx).1
   have:=HL9.out
   omega
  clear hx hEX HC3
  go_wp2
  go_meet
  exact ⟨fa,n,c,xs,x,⟨LM.out,hkl,by omega,HXX.out,HBB.out x (List.mem_of_getElem? HXX.out),EX.out,FSH.out.below FaR.kp B1.out,G1.out,R1.out,B1.out⟩⟩
end Go.Proofs.YtojcakkkakmniaaGreatDoor
