/- sessionPlace of the program. The program's small functions of flows. The program's flows by their ends: placeOfEnds, flowPlaces, flowsApart, FlowsOK, flowsFault, FlowFind. ConnOK of both sides, right segments of both sides. sessionPlace, ownersOK, connPlace, connsOK and GatewayOK of the program. What the sizes of users say. GatewayOK of the program. The model's l08Role, l08Users. -/
import Derived.Test.YtbeehlhcckndcaaGreatJ17
import Derived.Test.YtbeehlhcckndcaaGreatJ18
import Derived.Test.YtbeehlhcckndcaaGreatJ12
import Derived.Deep.RegionHeld3
import Derived.Test.YtbeehlhcckndcaaGreatJ0
import Derived.Test.YtbeehlhcckndcaaGreatJ3
import Derived.Laws.Cover1
namespace Go.Proofs.YtbeehlhcckndcaaGreat
open Go.RowKit Go.PlainAid Go.Proofs.YtbeehlhcckndcaaGreat.Bt Go.Sort
set_option linter.unusedVariables false
set_option maxRecDepth 20000
set_option maxHeartbeats 2000000 in
theorem idxSess_any (y:Option Addr) (n c:Nat) (xs:List SessV) (p:SessV→Bool) (B0:Nat) (w:World) (h:Rw SeR 10 w y xs) (hl:xs.length=n) (hn:n≤9223372036854775807)
  (hp:∀ z,z ∈ xs→∀ W,Below w.heap.size w W→Calls Tryz.prog 205 #[.agg #[.int .i64 z.id,.int .i64 z.us,.string z.mc,.int .i64 z.ip,.int .i64 z.be,.int .i64 z.la,.int .i64 z.ud,.int .i64 z.qu,.int .i64 z.un,.int .i64 z.il],.pointer (some ⟨B0,0,none⟩)] W fun e w'=>e=.returned (.bool (p z))∧Grw W w') :
  Calls Tryz.prog 204 #[.slice y n c,.func (.func 205) #[] #[.pointer (some ⟨B0,0,none⟩)]] w fun e w'=>e=.returned (.int .i64 (ixI p xs))∧Grw w w':=by
 have RY:Hid (Rw SeR 10 w y xs):=h
 have HP0:Hid (∀ z,z ∈ xs→∀ W,Below w.heap.size w W→Calls Tryz.prog 205 #[.agg #[.int .i64 z.id,.int .i64 z.us,.string z.mc,.int .i64 z.ip,.int .i64 z.be,.int .i64 z.la,.int .i64 z.ud,.int .i64 z.qu,.int .i64 z.un,.int .i64 z.il],.pointer (some ⟨B0,0,none⟩)] W fun e w'=>e=.returned (.bool (p z))∧Grw W w'):=hp
 clear h hp
 have eg:∀ args w,(callFunc 205 args).run Tryz.prog w=.ok (.enter 205 args) w:=enters_of Tryz.func205 (by kernel_rfl) rfl
 go_enter Tryz.func204,Tryz.ntmps204
 go_wp2
 go_loopw [8] (fun u wr=>∃ k:Nat,k≤n∧u=.int .i64 k∧Hid ((xs.take k).find? p=none)∧Hid (Grw w wr)) (fun u _=>n - (intOf u).toNat)
 case atStart=>exact ⟨0,Nat.zero_le _,rfl,rfl,Grw.refl _⟩
 case round =>
  obtain ⟨k,hk,rfl,HO,HG⟩:=hrel
  by_cases hlt:k<n
  ·obtain ⟨z,hx⟩:=at_of hl hlt
   obtain ⟨bk,off,vs,rfl,hb,hvl,hR,hc⟩:=RY.out.at SeR.kp HG.out.below hx
   have HY:Hid (p z=true→ixI p xs=k):=fun h=>ixI_at hx HO.out h
   have HN:Hid (p z=false→(xs.take (k+1)).find? p=none):=fun h=>ixI_no hx HO.out h
   obtain ⟨rfl,-⟩:=hR
   have q0:wr.cell? ⟨bk,off+k * 10,none⟩=some (.int .i64 z.id):=hc 0 _ rfl
   have q1:wr.cell? ⟨bk,off+k * 10+1,none⟩=some (.int .i64 z.us):=hc 1 _ rfl
   have q2:wr.cell? ⟨bk,off+k * 10+2,none⟩=some (.string z.mc):=hc 2 _ rfl
   have q3:wr.cell? ⟨bk,off+k * 10+3,none⟩=some (.int .i64 z.ip):=hc 3 _ rfl
   have q4:wr.cell? ⟨bk,off+k * 10+4,none⟩=some (.int .i64 z.be):=hc 4 _ rfl
   have q5:wr.cell? ⟨bk,off+k * 10+5,none⟩=some (.int .i64 z.la):=hc 5 _ rfl
   have q6:wr.cell? ⟨bk,off+k * 10+6,none⟩=some (.int .i64 z.ud):=hc 6 _ rfl
   have q7:wr.cell? ⟨bk,off+k * 10+7,none⟩=some (.int .i64 z.qu):=hc 7 _ rfl
   have q8:wr.cell? ⟨bk,off+k * 10+8,none⟩=some (.int .i64 z.un):=hc 8 _ rfl
   have q9:wr.cell? ⟨bk,off+k * 10+9,none⟩=some (.int .i64 z.il):=hc 9 _ rfl
   have hltz:(k:Int)<(n:Int):=by omega
   have HP:Hid (∀ W,Grw w W→Calls Tryz.prog 205 #[.agg #[.int .i64 z.id,.int .i64 z.us,.string z.mc,.int .i64 z.ip,.int .i64 z.be,.int .i64 z.la,.int .i64 z.ud,.int .i64 z.qu,.int .i64 z.un,.int .i64 z.il],.pointer (some ⟨B0,0,none⟩)] W fun e w'=>e=.returned (.bool (p z))∧Grw W w'):=fun W g=>HP0.out z (List.mem_of_getElem? hx) W g.below
   generalize p z=u at HY HN HP
   clear hc hvl hx
   cases u with
   | false =>
    have HN':Hid ((xs.take (k+1)).find? p=none):=HN.out rfl
    clear HY HN
    go_wp2_with (go_at_fn 205;refine (HP.out _ HG.out).mono ?_;rintro e w' ⟨rfl,g1⟩)
    have HG1:Hid (Grw w _):=HG.out.trans g1
    clear g1 HG
    go_roundw
    case rel=>exact ⟨k+1,by omega,by go_num,HN',HG1⟩
    case measure=>simp [intOf];omega
   | true =>
    have HY':Hid (ixI p xs=k):=HY.out rfl
    clear HY HN
    go_wp2_with (go_at_fn 205;refine (HP.out _ HG.out).mono ?_;rintro e w' ⟨rfl,g1⟩)
    go_ret
    exact ⟨by rw [HY'.out];rfl,HG.out.trans g1⟩
  ·obtain rfl:k=n:=by omega
   have hd:Hid (ixI p xs=-1):=ixI_end hl HO.out
   go_wp2
   go_ret
   exact ⟨by rw [hd.out];rfl,HG.out⟩
theorem sessPlace1_any (z:SessV) (q:Int) (B:Nat) (w:World) (hc:w.cell? ⟨B,0,none⟩=some (.int .i64 q)) :
  Calls Tryz.prog 205 #[.agg #[.int .i64 z.id,.int .i64 z.us,.string z.mc,.int .i64 z.ip,.int .i64 z.be,.int .i64 z.la,.int .i64 z.ud,.int .i64 z.qu,.int .i64 z.un,.int .i64 z.il],.pointer (some ⟨B,0,none⟩)] w fun e w'=>e=.returned (.bool (siP q z))∧Grw w w':=by
 have hc2:=acell hc (.cells #[.int .i64 z.id,.int .i64 z.us,.string z.mc,.int .i64 z.ip,.int .i64 z.be,.int .i64 z.la,.int .i64 z.ud,.int .i64 z.qu,.int .i64 z.un,.int .i64 z.il] 124)
 unfold siP
 obtain ⟨u,hu⟩:∃ u,(z.id == q)=u:=⟨_,rfl⟩
 rw [hu]
 go_enter Tryz.func205,Tryz.ntmps205
 go_wp2
 go_ret
 exact ⟨by first | rfl | (rw [hu];rfl),(Grw.refl _).alloc _⟩
set_option maxHeartbeats 1000000 in
theorem sessPlace_any (a:Option Addr) (n c:Nat) (ss:List SessV) (q:Int) (w:World) (h:Rw SeR 10 w a ss) (hl:ss.length=n) (hn:n≤9223372036854775807) :
  Calls Tryz.prog 187 #[.slice a n c,.int .i64 q] w fun e w'=>e=.returned (.int .i64 (ixI (siP q) ss))∧Grw w w':=by
 have HX:Hid (∀ W B,Grw w W→W.cell? ⟨B,0,none⟩=some (.int .i64 q)→Calls Tryz.prog 204 #[.slice a n c,.func (.func 205) #[] #[.pointer (some ⟨B,0,none⟩)]] W fun e w'=>e=.returned (.int .i64 (ixI (siP q) ss))∧Grw W w'):=fun W B g hc=>idxSess_any a n c ss (siP q) B W (h.keep SeR.kp g.below) hl hn (fun z _ W2 b2=>sessPlace1_any z q B W2 (bkeep b2 hc))
 clear h
 generalize ixI (siP q) ss=r at HX ⊢
 go_enter Tryz.func187,Tryz.ntmps187
 go_wp2_with (go_at_call 204;refine (HX.out _ _ ((Grw.refl w).alloc _) (by simp [go_sem])).mono ?_;rintro e w' ⟨rfl,g1⟩)
 go_ret
 exact ⟨rfl,((Grw.refl w).alloc _).trans g1⟩
theorem mac9_impl (s:ByteArray) (w:World):Calls Tryz.prog 133 #[.string s] w fun e w'=>e=.returned (.bool (dec (s.size=6)))∧w'=w:=by
 by_cases h:s.size=6
 ·rw [dec_y h]
  have hz:((s.size:Int) == 6)=true:=by simp;omega
  go_enter Tryz.func133,Tryz.ntmps133
  go_wp2
  go_ret
  exact ⟨rfl,rfl⟩
 ·rw [dec_n h]
  have hz:((s.size:Int) == 6)=false:=by simp;omega
  go_enter Tryz.func133,Tryz.ntmps133
  go_wp2
  go_ret
  exact ⟨rfl,rfl⟩
theorem proto9_any (n:Int) (w:World) (hx:n≤9223372036854775807):Calls Tryz.prog 201 #[.int .i64 n] w fun e w'=>e=.returned (.bool (dec (0≤n∧n≤255)))∧w'=w:=by
 have HB:Hid (∀ w,Calls Tryz.prog 208 #[.int .i64 n,.int .i64 1] w fun e w'=>e=.returned (.bool (dec (0≤n∧n≤255)))∧w'=w):=fun w=>hasRoom1 n w hx
 generalize dec (0≤n∧n≤255)=z at HB ⊢
 go_enter Tryz.func201,Tryz.ntmps201
 go_wp2_with fail
 refine (HB.out _).mono ?_
 rintro e w1 ⟨rfl,hw⟩
 subst hw
 go_wp2
 go_ret
 exact ⟨rfl,rfl⟩
theorem state9_any (n:Int) (w:World):Calls Tryz.prog 183 #[.int .i64 n] w fun e w'=>e=.returned (.bool (dec (1≤n∧n≤3)))∧w'=w:=by
 have HB:Hid (∀ w,Calls Tryz.prog 86 #[.int .i64 n,.int .i64 1,.int .i64 3] w fun e w'=>e=.returned (.bool (dec (1≤n∧n≤3)))∧w'=w):=fun w=>between_any n 1 3 w
 generalize dec (1≤n∧n≤3)=z at HB ⊢
 go_enter Tryz.func183,Tryz.ntmps183
 go_wp2_with fail
 refine (HB.out _).mono ?_
 rintro e w1 ⟨rfl,hw⟩
 subst hw
 go_wp2
 go_ret
 exact ⟨rfl,rfl⟩
theorem owner9_any (n:Int) (w:World):Calls Tryz.prog 184 #[.int .i64 n] w fun e w'=>e=.returned (.bool (dec (0≤n∧n≤10000)))∧w'=w:=by
 have HB:Hid (∀ w,Calls Tryz.prog 86 #[.int .i64 n,.int .i64 0,.int .i64 10000] w fun e w'=>e=.returned (.bool (dec (0≤n∧n≤10000)))∧w'=w):=fun w=>between_any n 0 10000 w
 generalize dec (0≤n∧n≤10000)=z at HB ⊢
 go_enter Tryz.func184,Tryz.ntmps184
 go_wp2_with fail
 refine (HB.out _).mono ?_
 rintro e w1 ⟨rfl,hw⟩
 subst hw
 go_wp2
 go_ret
 exact ⟨rfl,rfl⟩
set_option maxHeartbeats 2000000 in
theorem endOK_any (si sp:Int) (w:World) (hsp:sp≤9223372036854775807) :
  Calls Tryz.prog 202 #[.agg #[.int .i64 si,.int .i64 sp]] w fun e w'=>e=.returned (.bool (dec (0≤si∧si≤4294967295) && dec (0≤sp∧sp≤65535)))∧Grw w w':=by
 have T0:Hid (∀ w,Calls Tryz.prog 161 #[.int .i64 si] w fun e w'=>e=.returned (.bool (dec (0≤si∧si≤4294967295)))∧w'=w):=fun w=>addressOK_any si w
 have T1:Hid (∀ w,Calls Tryz.prog 195 #[.int .i64 sp] w fun e w'=>e=.returned (.bool (dec (0≤sp∧sp≤65535)))∧w'=w):=fun w=>portOK_any sp w hsp
 obtain ⟨z,hz⟩:∃ z,z=(dec (0≤si∧si≤4294967295) && dec (0≤sp∧sp≤65535)):=⟨_,rfl⟩
 have E:Hid (z=(dec (0≤si∧si≤4294967295) && (dec (0≤sp∧sp≤65535)))):=by
  rw [hz]
  rfl
 rw [← hz]
 clear hz
 generalize (dec (0≤si∧si≤4294967295))=t0 at T0 E
 generalize (dec (0≤sp∧sp≤65535))=t1 at T1 E
 go_enter Tryz.func202,Tryz.ntmps202
 go_wp2_with fail
 refine (T0.out _).mono ?_
 rintro e wx1 ⟨rfl,rfl⟩
 cases t0 with
 | false =>
  go_wp2
  go_ret
  exact ⟨by rw [E.out];rfl,((Grw.refl _).alloc _)⟩
 | true =>
  go_wp2_with fail
  refine (T1.out _).mono ?_
  rintro e wx2 ⟨rfl,rfl⟩
  cases t1 with
  | false =>
   go_wp2
   go_ret
   exact ⟨by rw [E.out];rfl,((Grw.refl _).alloc _)⟩
  | true =>
   go_wp2
   go_ret
   exact ⟨by rw [E.out];rfl,((Grw.refl _).alloc _)⟩
set_option maxHeartbeats 2000000 in
theorem endsOK_any (pr si sp di dp:Int) (w:World) (hpr:pr≤9223372036854775807) (hsp:sp≤9223372036854775807) (hdp:dp≤9223372036854775807) :
  Calls Tryz.prog 181 #[.agg #[.int .i64 pr,.int .i64 si,.int .i64 sp,.int .i64 di,.int .i64 dp]] w fun e w'=>e=.returned (.bool (enR ⟨pr,si,sp,di,dp⟩))∧Grw w w':=by
 have T0:Hid (∀ w,Calls Tryz.prog 201 #[.int .i64 pr] w fun e w'=>e=.returned (.bool (dec (0≤pr∧pr≤255)))∧w'=w):=fun w=>proto9_any pr w hpr
 have T1:Hid (∀ w,Calls Tryz.prog 202 #[.agg #[.int .i64 si,.int .i64 sp]] w fun e w'=>e=.returned (.bool (dec (0≤si∧si≤4294967295) && dec (0≤sp∧sp≤65535)))∧Grw w w'):=fun w=>endOK_any si sp w hsp
 have T2:Hid (∀ w,Calls Tryz.prog 202 #[.agg #[.int .i64 di,.int .i64 dp]] w fun e w'=>e=.returned (.bool (dec (0≤di∧di≤4294967295) && dec (0≤dp∧dp≤65535)))∧Grw w w'):=fun w=>endOK_any di dp w hdp
 obtain ⟨z,hz⟩:∃ z,z=(enR ⟨pr,si,sp,di,dp⟩):=⟨_,rfl⟩
 have E:Hid (z=(dec (0≤pr∧pr≤255) && (dec (0≤si∧si≤4294967295) && dec (0≤sp∧sp≤65535) && (dec (0≤di∧di≤4294967295) && dec (0≤dp∧dp≤65535))))):=by
  rw [hz]
  rfl
 rw [← hz]
 clear hz
 generalize (dec (0≤pr∧pr≤255))=t0 at T0 E
 generalize (dec (0≤si∧si≤4294967295) && dec (0≤sp∧sp≤65535))=t1 at T1 E
 generalize (dec (0≤di∧di≤4294967295) && dec (0≤dp∧dp≤65535))=t2 at T2 E
 go_enter Tryz.func181,Tryz.ntmps181
 go_wp2_with fail
 refine (T0.out _).mono ?_
 rintro e wx1 ⟨rfl,rfl⟩
 cases t0 with
 | false =>
  go_wp2
  go_ret
  exact ⟨by rw [E.out];rfl,((Grw.refl _).alloc _)⟩
 | true =>
  go_wp2_with fail
  refine (T1.out _).mono ?_
  rintro e wx2 ⟨rfl,bx⟩
  have k0_0:World.cell? _ ⟨w.heap.size,0,none⟩=some (.int .i64 pr):=bx.keep (a:=⟨w.heap.size,0,none⟩) (v:=.int .i64 pr) (by simp [go_sem])
  have k0_1:World.cell? _ ⟨w.heap.size,1,none⟩=some (.int .i64 si):=bx.keep (a:=⟨w.heap.size,1,none⟩) (v:=.int .i64 si) (by simp [go_sem])
  have k0_2:World.cell? _ ⟨w.heap.size,2,none⟩=some (.int .i64 sp):=bx.keep (a:=⟨w.heap.size,2,none⟩) (v:=.int .i64 sp) (by simp [go_sem])
  have k0_3:World.cell? _ ⟨w.heap.size,3,none⟩=some (.int .i64 di):=bx.keep (a:=⟨w.heap.size,3,none⟩) (v:=.int .i64 di) (by simp [go_sem])
  have k0_4:World.cell? _ ⟨w.heap.size,4,none⟩=some (.int .i64 dp):=bx.keep (a:=⟨w.heap.size,4,none⟩) (v:=.int .i64 dp) (by simp [go_sem])
  have BX:Hid (Grw w _):=((Grw.refl _).alloc _).trans bx
  clear bx
  cases t1 with
  | false =>
   go_wp2
   go_ret
   exact ⟨by rw [E.out];rfl,BX.out⟩
  | true =>
   go_wp2_with fail
   refine (T2.out _).mono ?_
   rintro e wx3 ⟨rfl,bx⟩
   replace k0_0:=bx.keep k0_0
   replace k0_1:=bx.keep k0_1
   replace k0_2:=bx.keep k0_2
   replace k0_3:=bx.keep k0_3
   replace k0_4:=bx.keep k0_4
   replace BX:Hid (Grw w _):=BX.out.trans bx
   clear bx
   cases t2 with
   | false =>
    go_wp2
    go_ret
    exact ⟨by rw [E.out];rfl,BX.out⟩
   | true =>
    go_wp2
    go_ret
    exact ⟨by rw [E.out];rfl,BX.out⟩
set_option maxHeartbeats 1000000 in
theorem endsOf_any (pr:Int) (mc:ByteArray) (si sp di dp st un ow:Int) (w:World) :
  Calls Tryz.prog 182 #[.agg #[.int .i64 pr,.string mc,.int .i64 si,.int .i64 sp,.int .i64 di,.int .i64 dp,.int .i64 st,.int .i64 un,.int .i64 ow]] w fun e w'=>e=.returned (.agg #[.int .i64 pr,.int .i64 si,.int .i64 sp,.int .i64 di,.int .i64 dp])∧Grw w w':=by
 go_enter Tryz.func182,Tryz.ntmps182
 go_wp2
 (try simp only [Exit.inBlock,Exit.then])
 refine bodyPost_ret (v:=.agg #[.int .i64 pr,.int .i64 si,.int .i64 sp,.int .i64 di,.int .i64 dp]) (by simp [results,Tryz.results182,go_sem];try rfl) rfl ?_
 exact ⟨rfl,((Grw.refl _).alloc _).alloc _⟩
set_option maxHeartbeats 1000000 in
theorem turned_any (pr si sp di dp:Int) (w:World) :
  Calls Tryz.prog 203 #[.agg #[.int .i64 pr,.int .i64 si,.int .i64 sp,.int .i64 di,.int .i64 dp]] w fun e w'=>e=.returned (.agg #[.int .i64 pr,.int .i64 di,.int .i64 dp,.int .i64 si,.int .i64 sp])∧Grw w w':=by
 go_enter Tryz.func203,Tryz.ntmps203
 go_wp2
 (try simp only [Exit.inBlock,Exit.then])
 refine bodyPost_ret (v:=.agg #[.int .i64 pr,.int .i64 di,.int .i64 dp,.int .i64 si,.int .i64 sp]) (by simp [results,Tryz.results203,go_sem];try rfl) rfl ?_
 exact ⟨rfl,((Grw.refl _).alloc _).alloc _⟩
set_option maxHeartbeats 2000000 in
theorem flowOK_any (pr:Int) (mc:ByteArray) (si sp di dp st un ow:Int) (w:World) (hpr:pr≤9223372036854775807) (hsp:sp≤9223372036854775807) (hdp:dp≤9223372036854775807) :
  Calls Tryz.prog 150 #[.agg #[.int .i64 pr,.string mc,.int .i64 si,.int .i64 sp,.int .i64 di,.int .i64 dp,.int .i64 st,.int .i64 un,.int .i64 ow]] w fun e w'=>e=.returned (.bool (flB ⟨pr,mc,si,sp,di,dp,st,un,ow⟩))∧Grw w w':=by
 have T0:Hid (∀ w,Calls Tryz.prog 181 #[.agg #[.int .i64 pr,.int .i64 si,.int .i64 sp,.int .i64 di,.int .i64 dp]] w fun e w'=>e=.returned (.bool (enR ⟨pr,si,sp,di,dp⟩))∧Grw w w'):=fun w=>endsOK_any pr si sp di dp w hpr hsp hdp
 have T1:Hid (∀ w,Calls Tryz.prog 133 #[.string mc] w fun e w'=>e=.returned (.bool (dec (mc.size=6)))∧w'=w):=fun w=>mac9_impl mc w
 have T2:Hid (∀ w,Calls Tryz.prog 183 #[.int .i64 st] w fun e w'=>e=.returned (.bool (dec (1≤st∧st≤3)))∧w'=w):=fun w=>state9_any st w
 have T3:Hid (∀ w,Calls Tryz.prog 86 #[.int .i64 un,.int .i64 0,.int .i64 100100] w fun e w'=>e=.returned (.bool (dec (0≤un∧un≤100100)))∧w'=w):=fun w=>between_any un 0 100100 w
 have T4:Hid (∀ w,Calls Tryz.prog 184 #[.int .i64 ow] w fun e w'=>e=.returned (.bool (dec (0≤ow∧ow≤10000)))∧w'=w):=fun w=>owner9_any ow w
 have TE:Hid (∀ w,Calls Tryz.prog 182 #[.agg #[.int .i64 pr,.string mc,.int .i64 si,.int .i64 sp,.int .i64 di,.int .i64 dp,.int .i64 st,.int .i64 un,.int .i64 ow]] w fun e w'=>e=.returned (.agg #[.int .i64 pr,.int .i64 si,.int .i64 sp,.int .i64 di,.int .i64 dp])∧Grw w w'):=fun w=>endsOf_any pr mc si sp di dp st un ow w
 obtain ⟨z,hz⟩:∃ z,z=(flB ⟨pr,mc,si,sp,di,dp,st,un,ow⟩):=⟨_,rfl⟩
 have E:Hid (z=(enR ⟨pr,si,sp,di,dp⟩ && (dec (mc.size=6) && (dec (1≤st∧st≤3) && (dec (0≤un∧un≤100100) && (dec (0≤ow∧ow≤10000))))))):=by
  rw [hz]
  unfold flB enR;dsimp only;ac_rfl
 rw [← hz]
 clear hz
 generalize (enR ⟨pr,si,sp,di,dp⟩)=t0 at T0 E
 generalize (dec (mc.size=6))=t1 at T1 E
 generalize (dec (1≤st∧st≤3))=t2 at T2 E
 generalize (dec (0≤un∧un≤100100))=t3 at T3 E
 generalize (dec (0≤ow∧ow≤10000))=t4 at T4 E
 go_enter Tryz.func150,Tryz.ntmps150
 go_wp2_with fail
 refine (TE.out _).mono ?_
 rintro e wx1 ⟨rfl,bx⟩
 have k0_0:World.cell? _ ⟨w.heap.size,0,none⟩=some (.int .i64 pr):=bx.keep (a:=⟨w.heap.size,0,none⟩) (v:=.int .i64 pr) (by simp [go_sem])
 have k0_1:World.cell? _ ⟨w.heap.size,1,none⟩=some (.string mc):=bx.keep (a:=⟨w.heap.size,1,none⟩) (v:=.string mc) (by simp [go_sem])
 have k0_2:World.cell? _ ⟨w.heap.size,2,none⟩=some (.int .i64 si):=bx.keep (a:=⟨w.heap.size,2,none⟩) (v:=.int .i64 si) (by simp [go_sem])
 have k0_3:World.cell? _ ⟨w.heap.size,3,none⟩=some (.int .i64 sp):=bx.keep (a:=⟨w.heap.size,3,none⟩) (v:=.int .i64 sp) (by simp [go_sem])
 have k0_4:World.cell? _ ⟨w.heap.size,4,none⟩=some (.int .i64 di):=bx.keep (a:=⟨w.heap.size,4,none⟩) (v:=.int .i64 di) (by simp [go_sem])
 have k0_5:World.cell? _ ⟨w.heap.size,5,none⟩=some (.int .i64 dp):=bx.keep (a:=⟨w.heap.size,5,none⟩) (v:=.int .i64 dp) (by simp [go_sem])
 have k0_6:World.cell? _ ⟨w.heap.size,6,none⟩=some (.int .i64 st):=bx.keep (a:=⟨w.heap.size,6,none⟩) (v:=.int .i64 st) (by simp [go_sem])
 have k0_7:World.cell? _ ⟨w.heap.size,7,none⟩=some (.int .i64 un):=bx.keep (a:=⟨w.heap.size,7,none⟩) (v:=.int .i64 un) (by simp [go_sem])
 have k0_8:World.cell? _ ⟨w.heap.size,8,none⟩=some (.int .i64 ow):=bx.keep (a:=⟨w.heap.size,8,none⟩) (v:=.int .i64 ow) (by simp [go_sem])
 have BX:Hid (Grw w _):=((Grw.refl _).alloc _).trans bx
 clear bx
 go_wp2_with fail
 refine (T0.out _).mono ?_
 rintro e wx2 ⟨rfl,bx⟩
 replace k0_0:=bx.keep k0_0
 replace k0_1:=bx.keep k0_1
 replace k0_2:=bx.keep k0_2
 replace k0_3:=bx.keep k0_3
 replace k0_4:=bx.keep k0_4
 replace k0_5:=bx.keep k0_5
 replace k0_6:=bx.keep k0_6
 replace k0_7:=bx.keep k0_7
 replace k0_8:=bx.keep k0_8
 replace BX:Hid (Grw w _):=BX.out.trans bx
 clear bx
 cases t0 with
 | false =>
  go_wp2
  go_ret
  exact ⟨by rw [E.out];rfl,BX.out⟩
 | true =>
  go_wp2_with fail
  refine (T1.out _).mono ?_
  rintro e wx3 ⟨rfl,rfl⟩
  cases t1 with
  | false =>
   go_wp2
   go_ret
   exact ⟨by rw [E.out];rfl,BX.out⟩
  | true =>
   go_wp2_with fail
   refine (T2.out _).mono ?_
   rintro e wx4 ⟨rfl,rfl⟩
   cases t2 with
   | false =>
    go_wp2
    go_ret
    exact ⟨by rw [E.out];rfl,BX.out⟩
   | true =>
    go_wp2_with fail
    refine (T3.out _).mono ?_
    rintro e wx5 ⟨rfl,rfl⟩
    cases t3 with
    | false =>
     go_wp2
     go_ret
     exact ⟨by rw [E.out];rfl,BX.out⟩
    | true =>
     go_wp2_with fail
     refine (T4.out _).mono ?_
     rintro e wx6 ⟨rfl,rfl⟩
     cases t4 with
     | false =>
      go_wp2
      go_ret
      exact ⟨by rw [E.out];rfl,BX.out⟩
     | true =>
      go_wp2
      go_ret
      exact ⟨by rw [E.out];rfl,BX.out⟩
theorem wf_leF {n:Int} (h:(Lit.int .i64 n).wf=true):n≤9223372036854775807:=by
 have:IntKind.i64.min=-9223372036854775808:=by decide
 have:IntKind.i64.max=9223372036854775807:=by decide
 simp [Lit.wf] at h
 omega
theorem nat_wf {k:Nat} (h:k≤4096):(Lit.int .i64 (k:Int)).wf=true:=by
 have:IntKind.i64.min=-9223372036854775808:=by decide
 have:IntKind.i64.max=9223372036854775807:=by decide
 simp [Lit.wf]
 omega
set_option maxHeartbeats 1000000 in
theorem placeOfEnds_any (b n:Nat) (M:EnV→Option Int) (pr si sp di dp:Int) (w:World) (h:OwnM w b n M) (he:EnOk ⟨pr,si,sp,di,dp⟩) :
  Calls Tryz.prog 185 #[.map (some b),.agg #[.int .i64 pr,.int .i64 si,.int .i64 sp,.int .i64 di,.int .i64 dp]] w fun e w'=>e=.returned (.tuple #[.int .i64 (fkK M ⟨pr,si,sp,di,dp⟩),.bool (fkB M ⟨pr,si,sp,di,dp⟩),.bool (fkT M ⟨pr,si,sp,di,dp⟩)])∧Grw w w':=by
 have HO:Hid (OwnM w b n M):=h
 have HT:Hid (∀ w,Calls Tryz.prog 203 #[.agg #[.int .i64 pr,.int .i64 si,.int .i64 sp,.int .i64 di,.int .i64 dp]] w fun e w'=>e=.returned (.agg #[.int .i64 pr,.int .i64 di,.int .i64 dp,.int .i64 si,.int .i64 sp])∧Grw w w'):=fun w=>turned_any pr si sp di dp w
 have L1:(Instr.lookup 233 (.map (some b)) (.agg #[.int .i64 pr,.int .i64 si,.int .i64 sp,.int .i64 di,.int .i64 dp]) true).run Tryz.prog (w.alloc (.cells #[.int .i64 pr,.int .i64 si,.int .i64 sp,.int .i64 di,.int .i64 dp] 231))=.ok (.tuple #[.int .i64 ((M ⟨pr,si,sp,di,dp⟩).getD 0),.bool (M ⟨pr,si,sp,di,dp⟩).isSome]) (w.alloc (.cells #[.int .i64 pr,.int .i64 si,.int .i64 sp,.int .i64 di,.int .i64 dp] 231)):=(h.alloc _).look he
 have L2:Hid (∀ w2,OwnM w2 b n M→(Instr.lookup 233 (.map (some b)) (.agg #[.int .i64 pr,.int .i64 di,.int .i64 dp,.int .i64 si,.int .i64 sp]) true).run Tryz.prog w2=.ok (.tuple #[.int .i64 ((M (enT ⟨pr,si,sp,di,dp⟩)).getD 0),.bool (M (enT ⟨pr,si,sp,di,dp⟩)).isSome]) w2):=fun w2 h2=>h2.look (e:=enT ⟨pr,si,sp,di,dp⟩) (enT_ok he)
 have E1:fkK M ⟨pr,si,sp,di,dp⟩=if (M ⟨pr,si,sp,di,dp⟩).isSome then (M ⟨pr,si,sp,di,dp⟩).getD 0 else (M (enT ⟨pr,si,sp,di,dp⟩)).getD 0:=rfl
 have E2:fkB M ⟨pr,si,sp,di,dp⟩=if (M ⟨pr,si,sp,di,dp⟩).isSome then false else (M (enT ⟨pr,si,sp,di,dp⟩)).isSome:=rfl
 have E3:fkT M ⟨pr,si,sp,di,dp⟩=((M ⟨pr,si,sp,di,dp⟩).isSome || (M (enT ⟨pr,si,sp,di,dp⟩)).isSome):=rfl
 clear h he
 generalize hx:M ⟨pr,si,sp,di,dp⟩=x at *
 generalize hy:M (enT ⟨pr,si,sp,di,dp⟩)=y at *
 clear hx hy
 cases x with
 | some v =>
  have F1:Hid (fkK M ⟨pr,si,sp,di,dp⟩=v):=E1
  have F2:Hid (fkB M ⟨pr,si,sp,di,dp⟩=false):=E2
  have F3:Hid (fkT M ⟨pr,si,sp,di,dp⟩=true):=E3
  clear E1 E2 E3
  have L1':(Instr.lookup 233 (.map (some b)) (.agg #[.int .i64 pr,.int .i64 si,.int .i64 sp,.int .i64 di,.int .i64 dp]) true).run Tryz.prog (w.alloc (.cells #[.int .i64 pr,.int .i64 si,.int .i64 sp,.int .i64 di,.int .i64 dp] 231))=.ok (.tuple #[.int .i64 v,.bool true]) (w.alloc (.cells #[.int .i64 pr,.int .i64 si,.int .i64 sp,.int .i64 di,.int .i64 dp] 231)):=L1
  clear L1
  go_enter Tryz.func185,Tryz.ntmps185
  go_wp2
  go_ret3
  exact ⟨by rw [F1.out,F2.out,F3.out];rfl,(Grw.refl _).alloc _⟩
 | none =>
  have F1:Hid (fkK M ⟨pr,si,sp,di,dp⟩=y.getD 0):=E1
  have F2:Hid (fkB M ⟨pr,si,sp,di,dp⟩=y.isSome):=E2
  have F3:Hid (fkT M ⟨pr,si,sp,di,dp⟩=y.isSome):=by
   show _=_
   have:=E3
   simpa using this
  clear E1 E2 E3
  have L1':(Instr.lookup 233 (.map (some b)) (.agg #[.int .i64 pr,.int .i64 si,.int .i64 sp,.int .i64 di,.int .i64 dp]) true).run Tryz.prog (w.alloc (.cells #[.int .i64 pr,.int .i64 si,.int .i64 sp,.int .i64 di,.int .i64 dp] 231))=.ok (.tuple #[.int .i64 0,.bool false]) (w.alloc (.cells #[.int .i64 pr,.int .i64 si,.int .i64 sp,.int .i64 di,.int .i64 dp] 231)):=L1
  clear L1
  generalize y.getD 0=v at *
  generalize y.isSome=q at *
  go_enter Tryz.func185,Tryz.ntmps185
  go_wp2_with fail
  refine (HT.out _).mono ?_
  rintro e w2 ⟨rfl,g2⟩
  have L3:=L2.out w2 ((HO.out.alloc _).now g2.below)
  have HG:Hid (Grw w w2):=((Grw.refl _).alloc _).trans g2
  clear g2 L2 HO
  go_wp2
  go_ret3
  exact ⟨by rw [F1.out,F2.out,F3.out];rfl,HG.out⟩
set_option maxHeartbeats 4000000 in
theorem flowsApart_any (a:Option Addr) (len cap:Nat) (fs:List FlowV) (w:World) (h:Rw FlR 9 w a fs) (hok:∀ x,x ∈ fs→FlRok x) (hl:fs.length=len) (hm:len≤4096) :
  Calls Tryz.prog 151 #[.slice a len cap] w fun e w'=>e=.returned (.bool (apB fs))∧Below w.heap.size w w':=by
 have RW:Hid (Rw FlR 9 w a fs):=h
 have HK:Hid (∀ x,x ∈ fs→FlRok x):=hok
 clear h hok
 have hmm:=@run_makeMap Tryz.prog
 go_enter Tryz.func151,Tryz.ntmps151
 go_wp2
 go_loopw [12] (fun x wr=>∃ k:Nat,k≤len∧x=.int .i64 k∧Hid (apOk fs k)∧Hid (OwnM wr w.heap.size k (plM fs k)∧Below w.heap.size w wr)) (fun x _=>len - (intOf x).toNat)
 case atStart=>exact ⟨0,Nat.zero_le _,rfl,apOk_zero fs,OwnM.made w,(Below.refl _ _).alloc (Nat.le_refl _) _⟩
 case round =>
  obtain ⟨k,hk,rfl,HA,HG⟩:=hrel
  by_cases hlt:k<len
  ·obtain ⟨x,hx⟩:=at_of hl hlt
   have hltz:(k:Int)<(len:Int):=by omega
   have HS:Hid (plM fs (k+1)=upM (plM fs k) (enOf x) (some (k:Int))):=plM_step hx
   obtain ⟨b,off,vs,rfl,hb,hvl,hR,hc⟩:=RW.out.at FR.kp HG.out.2 hx
   have HKx:=HK.out _ (List.mem_of_getElem? hx)
   obtain ⟨pr,mc,si,sp,di,dp,st,un,ow⟩:=x
   obtain ⟨rfl,-⟩:=hR
   have q0:wr.cell? ⟨b,off+k * 9,none⟩=some (.int .i64 pr):=hc 0 _ rfl
   have q1:wr.cell? ⟨b,off+k * 9+1,none⟩=some (.string mc):=hc 1 _ rfl
   have q2:wr.cell? ⟨b,off+k * 9+2,none⟩=some (.int .i64 si):=hc 2 _ rfl
   have q3:wr.cell? ⟨b,off+k * 9+3,none⟩=some (.int .i64 sp):=hc 3 _ rfl
   have q4:wr.cell? ⟨b,off+k * 9+4,none⟩=some (.int .i64 di):=hc 4 _ rfl
   have q5:wr.cell? ⟨b,off+k * 9+5,none⟩=some (.int .i64 dp):=hc 5 _ rfl
   have q6:wr.cell? ⟨b,off+k * 9+6,none⟩=some (.int .i64 st):=hc 6 _ rfl
   have q7:wr.cell? ⟨b,off+k * 9+7,none⟩=some (.int .i64 un):=hc 7 _ rfl
   have q8:wr.cell? ⟨b,off+k * 9+8,none⟩=some (.int .i64 ow):=hc 8 _ rfl
   clear hc hvl
   have HE:Hid (∀ w,Calls Tryz.prog 182 #[.agg #[.int .i64 pr,.string mc,.int .i64 si,.int .i64 sp,.int .i64 di,.int .i64 dp,.int .i64 st,.int .i64 un,.int .i64 ow]] w fun e w'=>e=.returned (.agg #[.int .i64 pr,.int .i64 si,.int .i64 sp,.int .i64 di,.int .i64 dp])∧Grw w w'):=fun w=>endsOf_any pr mc si sp di dp st un ow w
   have HP:Hid (∀ w2,OwnM w2 w.heap.size k (plM fs k)→Calls Tryz.prog 185 #[.map (some w.heap.size),.agg #[.int .i64 pr,.int .i64 si,.int .i64 sp,.int .i64 di,.int .i64 dp]] w2 fun e w'=>e=.returned (.tuple #[.int .i64 (fkK (plM fs k) ⟨pr,si,sp,di,dp⟩),.bool (fkB (plM fs k) ⟨pr,si,sp,di,dp⟩),.bool (fkT (plM fs k) ⟨pr,si,sp,di,dp⟩)])∧Grw w2 w'):=fun w2 h2=>placeOfEnds_any w.heap.size k (plM fs k) pr si sp di dp w2 h2 (enOf_ok HKx)
   have HQ:Hid (fkT (plM fs k) ⟨pr,si,sp,di,dp⟩=false→apOk fs (k+1)):=fun h=>apOk_step HA.out hx (fk_there h)
   have HN:Hid (fkT (plM fs k) ⟨pr,si,sp,di,dp⟩=true→apB fs=false):=fun h=>apB_no (fun h2=>by
    have:=fk_none (h2 k _ (by omega) hx)
    rw [show enOf ⟨pr,mc,si,sp,di,dp,st,un,ow⟩=⟨pr,si,sp,di,dp⟩ from rfl,h] at this
    cases this)
   generalize fkK (plM fs k) ⟨pr,si,sp,di,dp⟩=z0 at HP
   generalize fkB (plM fs k) ⟨pr,si,sp,di,dp⟩=z1 at HP
   generalize fkT (plM fs k) ⟨pr,si,sp,di,dp⟩=z2 at HP HQ HN
   clear hx HA
   go_wp2_with fail
   refine (HE.out _).mono ?_
   rintro e w2 ⟨rfl,g2⟩
   have b2:Below w.heap.size w w2:=(HG.out.2.alloc HG.out.2.size _).trans (g2.below.mono (by have:=HG.out.2.size;simp;omega))
   have o2:OwnM w2 w.heap.size k (plM fs k):=(HG.out.1.alloc _).now g2.below
   have k0:w2.cell? ⟨wr.heap.size,0,none⟩=some (.int .i64 pr):=g2.keep (by simp)
   have k1:w2.cell? ⟨wr.heap.size,1,none⟩=some (.string mc):=g2.keep (by simp)
   have k2:w2.cell? ⟨wr.heap.size,2,none⟩=some (.int .i64 si):=g2.keep (by simp)
   have k3:w2.cell? ⟨wr.heap.size,3,none⟩=some (.int .i64 sp):=g2.keep (by simp)
   have k4:w2.cell? ⟨wr.heap.size,4,none⟩=some (.int .i64 di):=g2.keep (by simp)
   have k5:w2.cell? ⟨wr.heap.size,5,none⟩=some (.int .i64 dp):=g2.keep (by simp)
   have k6:w2.cell? ⟨wr.heap.size,6,none⟩=some (.int .i64 st):=g2.keep (by simp)
   have k7:w2.cell? ⟨wr.heap.size,7,none⟩=some (.int .i64 un):=g2.keep (by simp)
   have k8:w2.cell? ⟨wr.heap.size,8,none⟩=some (.int .i64 ow):=g2.keep (by simp)
   have H2:Hid (OwnM w2 w.heap.size k (plM fs k)∧Below w.heap.size w w2):=⟨o2,b2⟩
   clear g2 b2 o2 HG q0 q1 q2 q3 q4 q5 q6 q7 q8
   go_wp2_with fail
   refine (HP.out _ H2.out.1).mono ?_
   rintro e w3 ⟨rfl,g3⟩
   replace k0:=g3.keep k0
   replace k1:=g3.keep k1
   replace k2:=g3.keep k2
   replace k3:=g3.keep k3
   replace k4:=g3.keep k4
   replace k5:=g3.keep k5
   replace k6:=g3.keep k6
   replace k7:=g3.keep k7
   replace k8:=g3.keep k8
   have H3:Hid (OwnM w3 w.heap.size k (plM fs k)∧Below w.heap.size w w3):=⟨H2.out.1.now g3.below,H2.out.2.trans (g3.below.mono H2.out.2.size)⟩
   clear g3 H2 HP
   cases z2 with
   | true =>
    have hd:Hid (apB fs=false):=HN.out rfl
    clear HN HQ
    go_wp2
    go_ret
    exact ⟨by rw [hd.out];rfl,H3.out.2⟩
   | false =>
    have HA2:Hid (apOk fs (k+1)):=HQ.out rfl
    clear HN HQ
    go_wp2_with fail
    refine (HE.out _).mono ?_
    rintro e w4 ⟨rfl,g4⟩
    have b4:Below w.heap.size w w4:=H3.out.2.trans (g4.below.mono H3.out.2.size)
    have o4:OwnM w4 w.heap.size k (plM fs k):=H3.out.1.now g4.below
    obtain ⟨w7,hupd,o7,g7⟩:=o4.update (e:=enOf ⟨pr,mc,si,sp,di,dp,st,un,ow⟩) (enOf_ok HKx) (k:Int) (nat_wf (by omega)) (by unfold maxLen;omega)
    have hupd':(Instr.mapUpdate 233 (.map (some w.heap.size)) (.agg #[.int .i64 pr,.int .i64 si,.int .i64 sp,.int .i64 di,.int .i64 dp]) (.int .i64 (k:Int))).run Tryz.prog w4=.ok () w7:=hupd
    have HG7:Hid (OwnM w7 w.heap.size (k+1) (plM fs (k+1))∧Below w.heap.size w w7):=⟨by rw [HS.out];exact o7,b4.grown g7 b4.size (fun k hk=>by cases hk;exact Nat.le_refl _)⟩
    clear o7 g7 hupd g4 b4 o4 H3 HE HS HKx k0 k1 k2 k3 k4 k5 k6 k7 k8
    go_wp2
    go_roundw
    case rel=>exact ⟨k+1,by omega,by go_num,HA2,HG7⟩
    case measure=>simp [intOf];omega
  ·obtain rfl:k=len:=by omega
   have hd:Hid (apB fs=true):=apB_yes (by rw [hl];exact HA.out)
   go_wp2
   go_ret
   exact ⟨by rw [hd.out];rfl,HG.out.2⟩
set_option maxHeartbeats 4000000 in
theorem implFlowsOK_any (a:Option Addr) (len cap:Nat) (fs:List FlowV) (w:World) (h:Rw FlR 9 w a fs) (hok:∀ x,x ∈ fs→FlRok x) (hl:fs.length=len) (hm:len≤1048576) :
  Calls Tryz.prog 120 #[.slice a len cap] w fun e w'=>e=.returned (.bool (foB fs))∧Below w.heap.size w w':=by
 have RW:Hid (Rw FlR 9 w a fs):=h
 have HK:Hid (∀ x,x ∈ fs→FlRok x):=hok
 by_cases h8:8<len
 ·have hz:(8:Int)<(len:Int):=by omega
  have hd:Hid (foB fs=false):=foB_long (by omega)
  clear h hok
  go_enter Tryz.func120,Tryz.ntmps120
  go_wp2
  go_ret
  exact ⟨by rw [hd.out];rfl,Below.refl _ _⟩
 have h8z:decide ((8:Int)<(len:Int))=false:=by simp;omega
 have HA:Hid (∀ w,Rw FlR 9 w a fs→Calls Tryz.prog 151 #[.slice a len cap] w fun e w'=>e=.returned (.bool (apB fs))∧Below w.heap.size w w'):=fun w h=>flowsApart_any a len cap fs w h HK.out hl (by omega)
 clear h hok
 go_enter Tryz.func120,Tryz.ntmps120
 go_wp2
 go_loopw [10] (fun x wr=>∃ k:Nat,k≤len∧x=.int .i64 k∧Hid (alOk fs k)∧Hid (Grw w wr)) (fun x _=>len - (intOf x).toNat)
 case atStart=>exact ⟨0,Nat.zero_le _,rfl,alOk_zero fs,Grw.refl _⟩
 case round =>
  obtain ⟨k,hk,rfl,HO,HG⟩:=hrel
  by_cases hlt:k<len
  ·obtain ⟨x,hx⟩:=at_of hl hlt
   have hltz:(k:Int)<(len:Int):=by omega
   obtain ⟨b,off,vs,rfl,hb,hvl,hR,hc⟩:=RW.out.at FR.kp HG.out.below hx
   have HKx:=HK.out _ (List.mem_of_getElem? hx)
   obtain ⟨pr,mc,si,sp,di,dp,st,un,ow⟩:=x
   obtain ⟨rfl,-⟩:=hR
   have q0:wr.cell? ⟨b,off+k * 9,none⟩=some (.int .i64 pr):=hc 0 _ rfl
   have q1:wr.cell? ⟨b,off+k * 9+1,none⟩=some (.string mc):=hc 1 _ rfl
   have q2:wr.cell? ⟨b,off+k * 9+2,none⟩=some (.int .i64 si):=hc 2 _ rfl
   have q3:wr.cell? ⟨b,off+k * 9+3,none⟩=some (.int .i64 sp):=hc 3 _ rfl
   have q4:wr.cell? ⟨b,off+k * 9+4,none⟩=some (.int .i64 di):=hc 4 _ rfl
   have q5:wr.cell? ⟨b,off+k * 9+5,none⟩=some (.int .i64 dp):=hc 5 _ rfl
   have q6:wr.cell? ⟨b,off+k * 9+6,none⟩=some (.int .i64 st):=hc 6 _ rfl
   have q7:wr.cell? ⟨b,off+k * 9+7,none⟩=some (.int .i64 un):=hc 7 _ rfl
   have q8:wr.cell? ⟨b,off+k * 9+8,none⟩=some (.int .i64 ow):=hc 8 _ rfl
   clear hc hvl
   have HF:Hid (∀ w,Calls Tryz.prog 150 #[.agg #[.int .i64 pr,.string mc,.int .i64 si,.int .i64 sp,.int .i64 di,.int .i64 dp,.int .i64 st,.int .i64 un,.int .i64 ow]] w fun e w'=>e=.returned (.bool (flB ⟨pr,mc,si,sp,di,dp,st,un,ow⟩))∧Grw w w'):=fun w=>flowOK_any pr mc si sp di dp st un ow w (wf_leF HKx.1) (wf_leF HKx.2.2.2.1) (wf_leF HKx.2.2.2.2.2.1)
   clear HKx
   cases hq:flB ⟨pr,mc,si,sp,di,dp,st,un,ow⟩ with
   | false =>
    rw [hq] at HF
    have hd:Hid (foB fs=false):=foB_al hx hq
    clear hq hx HO
    go_wp2_with fail
    refine (HF.out _).mono ?_
    rintro e w2 ⟨rfl,g2⟩
    have HG2:Hid (Grw w w2):=(HG.out.alloc _).trans g2
    clear g2 HG
    go_wp2
    go_ret
    exact ⟨by rw [hd.out];rfl,HG2.out.below⟩
   | true =>
    rw [hq] at HF
    have HO2:Hid (alOk fs (k+1)):=alOk_step HO.out hx hq
    clear hq hx HO
    go_wp2_with fail
    refine (HF.out _).mono ?_
    rintro e w2 ⟨rfl,g2⟩
    have HG2:Hid (Grw w w2):=(HG.out.alloc _).trans g2
    clear g2 HG HF q0 q1 q2 q3 q4 q5 q6 q7 q8
    go_wp2
    go_roundw
    case rel=>exact ⟨k+1,by omega,by go_num,HO2,HG2⟩
    case measure=>simp [intOf];omega
  ·obtain rfl:k=len:=by omega
   have hd:Hid (foB fs=apB fs):=foB_ap (by omega) (by rw [hl];exact HO.out)
   clear HO
   go_wp2_with fail
   refine (HA.out _ (RW.out.keep FR.kp HG.out.below)).mono ?_
   rintro e w2 ⟨rfl,g2⟩
   have HG2:Hid (Below w.heap.size w w2):=HG.out.below.trans (g2.mono HG.out.below.size)
   clear g2 HG
   go_wp2
   go_ret
   exact ⟨by rw [hd.out];rfl,HG2.out⟩
structure KeptE (w wx:World):Prop where
 out:Below w.heap.size w wx
def SE (q:Nat) (pr si sp di dp:Int) (W wx:World):Prop:=wx.cell? ⟨q,0,none⟩=some (.int .i64 pr)∧wx.cell? ⟨q,1,none⟩=some (.int .i64 si)∧wx.cell? ⟨q,2,none⟩=some (.int .i64 sp)∧wx.cell? ⟨q,3,none⟩=some (.int .i64 di)∧wx.cell? ⟨q,4,none⟩=some (.int .i64 dp)∧KeptE W wx
theorem SE.below {q:Nat} {pr si sp di dp:Int} {W wx wy:World} (h:SE q pr si sp di dp W wx) (hb:Below wx.heap.size wx wy):SE q pr si sp di dp W wy :=
 ⟨bkeep hb h.1,bkeep hb h.2.1,bkeep hb h.2.2.1,bkeep hb h.2.2.2.1,bkeep hb h.2.2.2.2.1,⟨h.2.2.2.2.2.out.trans (hb.mono h.2.2.2.2.2.out.size)⟩⟩
theorem nuB_bd {c:ConnV} (h:nuB c=true):(0≤c.ip∧c.ip≤4294967295)∧(0≤c.po∧c.po≤65535)∧(0≤c.di∧c.di≤4294967295)∧(1≤c.st∧c.st≤4)∧(0≤c.un∧c.un≤4294967295)∧(0≤c.nx∧c.nx≤4294967295)∧(0≤c.wa∧c.wa≤4294967295):=by
 unfold nuB dec at h
 simp only [Bool.and_eq_true,decide_eq_true_eq] at h
 obtain ⟨⟨⟨⟨⟨⟨a,b⟩,c⟩,d⟩,e⟩,f⟩,g⟩:=h
 exact ⟨a,b,c,d,e,f,g⟩
theorem txB_bd {c:ConnV} (h:txB c=true):c.mc.size=6∧c.inn.size≤300∧c.out.size≤300∧(c.st=1→c.inn.size=0)∧(c.fin=true ↔ c.st=3)∧(c.fin=false→c.out.size=0):=by
 unfold txB at h
 simp only [Bool.and_eq_true,Bool.not_eq_true',decide_eq_false_iff_not,beq_iff_eq] at h
 obtain ⟨⟨⟨⟨⟨a,b⟩,d⟩,e⟩,f⟩,g⟩:=h
 have z:∀ x:ByteArray,(x.toList == [])=true→x.size=0:=by
  intro x hx
  have h:=congrArg List.length (beq_iff_eq.1 hx)
  rw [List.length_nil] at h
  rw [← h]
  simp [ByteArray.toList_eq]
 refine ⟨by omega,by omega,by omega,fun h1=>?_,?_,fun h1=>?_⟩
 ·rw [h1] at e
  simp at e
  exact z _ (by rw [e];rfl)
 ·rw [f]
  simp
 ·rw [h1] at g
  simp at g
  exact z _ (by rw [g];rfl)
set_option maxHeartbeats 2000000 in
theorem implConOK_any (mc:ByteArray) (ip po di st un nx wa:Int) (inn out:ByteArray) (fin:Bool) (w:World) (hp:po≤9223372036854775807) (hmc:mc.size≤1048576) (hi:inn.size≤1048576) (ho:out.size≤1048576) :
  Calls Tryz.prog 155 #[.agg #[.string mc,.int .i64 ip,.int .i64 po,.int .i64 di,.int .i64 st,.int .i64 un,.int .i64 nx,.int .i64 wa,.string inn,.string out,.bool fin]] w fun e w'=>e=.returned (.bool (okB ⟨mc,ip,po,di,st,un,nx,wa,inn,out,fin⟩))∧Grw w w':=by
 have T0:Hid (∀ w,Calls Tryz.prog 188 #[.agg #[.string mc,.int .i64 ip,.int .i64 po,.int .i64 di,.int .i64 st,.int .i64 un,.int .i64 nx,.int .i64 wa,.string inn,.string out,.bool fin]] w fun e w'=>e=.returned (.bool (nuB ⟨mc,ip,po,di,st,un,nx,wa,inn,out,fin⟩))∧Grw w w'):=fun w=>conNums_any mc ip po di st un nx wa inn out fin w hp
 have T1:Hid (∀ w,Calls Tryz.prog 189 #[.agg #[.string mc,.int .i64 ip,.int .i64 po,.int .i64 di,.int .i64 st,.int .i64 un,.int .i64 nx,.int .i64 wa,.string inn,.string out,.bool fin]] w fun e w'=>e=.returned (.bool (txB ⟨mc,ip,po,di,st,un,nx,wa,inn,out,fin⟩))∧Grw w w'):=fun w=>conTexts_any mc ip po di st un nx wa inn out fin w (by omega) (by omega) (by omega)
 have T2:Hid (∀ w,Calls Tryz.prog 191 #[.agg #[.string mc,.int .i64 ip,.int .i64 po,.int .i64 di,.int .i64 st,.int .i64 un,.int .i64 nx,.int .i64 wa,.string inn,.string out,.bool fin]] w fun e w'=>e=.returned (.int .i64 (sentN ⟨mc,ip,po,di,st,un,nx,wa,inn,out,fin⟩))∧Grw w w'):=fun w=>unack_any mc ip po di st un nx wa inn out fin w ho
 have E:Hid (okB ⟨mc,ip,po,di,st,un,nx,wa,inn,out,fin⟩=(nuB ⟨mc,ip,po,di,st,un,nx,wa,inn,out,fin⟩ && txB ⟨mc,ip,po,di,st,un,nx,wa,inn,out,fin⟩ && (sqN (nx - un) == sentN ⟨mc,ip,po,di,st,un,nx,wa,inn,out,fin⟩))):=rfl
 have T3:Hid (nuB ⟨mc,ip,po,di,st,un,nx,wa,inn,out,fin⟩=true→∀ w,Calls Tryz.prog 190 #[.int .i64 un,.int .i64 (sentN ⟨mc,ip,po,di,st,un,nx,wa,inn,out,fin⟩)] w fun e w'=>e=.returned (.int .i64 (sqN (un+sentN ⟨mc,ip,po,di,st,un,nx,wa,inn,out,fin⟩)))∧Grw w w'):=fun h w=>by
  have h1:=nuB_bd h
  have h2:=sentN_bd ⟨mc,ip,po,di,st,un,nx,wa,inn,out,fin⟩
  dsimp only at h1 h2
  exact toG (seqAfter_any un _ w (by omega) (by omega) (by omega) (by omega))
 have F:Hid (nuB ⟨mc,ip,po,di,st,un,nx,wa,inn,out,fin⟩=true→txB ⟨mc,ip,po,di,st,un,nx,wa,inn,out,fin⟩=true→(sqN (nx - un) == sentN ⟨mc,ip,po,di,st,un,nx,wa,inn,out,fin⟩)=(nx == sqN (un+sentN ⟨mc,ip,po,di,st,un,nx,wa,inn,out,fin⟩))):=fun h h'=>by
  have h1:=nuB_bd h
  have h3:=txB_bd h'
  have h2:=sentN_bd ⟨mc,ip,po,di,st,un,nx,wa,inn,out,fin⟩
  dsimp only at h1 h2 h3
  generalize sentN ⟨mc,ip,po,di,st,un,nx,wa,inn,out,fin⟩=z at h2
  rw [Bool.eq_iff_iff,beq_iff_eq,beq_iff_eq]
  unfold sqN
  omega
 generalize nuB ⟨mc,ip,po,di,st,un,nx,wa,inn,out,fin⟩=t0 at T0 T3 E F
 generalize txB ⟨mc,ip,po,di,st,un,nx,wa,inn,out,fin⟩=t1 at T1 E F
 generalize sentN ⟨mc,ip,po,di,st,un,nx,wa,inn,out,fin⟩=z at T2 T3 E F
 generalize sqN (un+z)=z2 at T3 F
 generalize (sqN (nx - un) == z)=t3 at E F
 have B0:Hid (Grw w (w.alloc (.cells #[.string mc,.int .i64 ip,.int .i64 po,.int .i64 di,.int .i64 st,.int .i64 un,.int .i64 nx,.int .i64 wa,.string inn,.string out,.bool fin] 162))):=(Grw.refl _).alloc _
 have q0:(w.alloc (.cells #[.string mc,.int .i64 ip,.int .i64 po,.int .i64 di,.int .i64 st,.int .i64 un,.int .i64 nx,.int .i64 wa,.string inn,.string out,.bool fin] 162)).cell? ⟨w.heap.size,0,none⟩=some (.string mc):=by simp [go_sem]
 have q1:(w.alloc (.cells #[.string mc,.int .i64 ip,.int .i64 po,.int .i64 di,.int .i64 st,.int .i64 un,.int .i64 nx,.int .i64 wa,.string inn,.string out,.bool fin] 162)).cell? ⟨w.heap.size,1,none⟩=some (.int .i64 ip):=by simp [go_sem]
 have q2:(w.alloc (.cells #[.string mc,.int .i64 ip,.int .i64 po,.int .i64 di,.int .i64 st,.int .i64 un,.int .i64 nx,.int .i64 wa,.string inn,.string out,.bool fin] 162)).cell? ⟨w.heap.size,2,none⟩=some (.int .i64 po):=by simp [go_sem]
 have q3:(w.alloc (.cells #[.string mc,.int .i64 ip,.int .i64 po,.int .i64 di,.int .i64 st,.int .i64 un,.int .i64 nx,.int .i64 wa,.string inn,.string out,.bool fin] 162)).cell? ⟨w.heap.size,3,none⟩=some (.int .i64 di):=by simp [go_sem]
 have q4:(w.alloc (.cells #[.string mc,.int .i64 ip,.int .i64 po,.int .i64 di,.int .i64 st,.int .i64 un,.int .i64 nx,.int .i64 wa,.string inn,.string out,.bool fin] 162)).cell? ⟨w.heap.size,4,none⟩=some (.int .i64 st):=by simp [go_sem]
 have q5:(w.alloc (.cells #[.string mc,.int .i64 ip,.int .i64 po,.int .i64 di,.int .i64 st,.int .i64 un,.int .i64 nx,.int .i64 wa,.string inn,.string out,.bool fin] 162)).cell? ⟨w.heap.size,5,none⟩=some (.int .i64 un):=by simp [go_sem]
 have q6:(w.alloc (.cells #[.string mc,.int .i64 ip,.int .i64 po,.int .i64 di,.int .i64 st,.int .i64 un,.int .i64 nx,.int .i64 wa,.string inn,.string out,.bool fin] 162)).cell? ⟨w.heap.size,6,none⟩=some (.int .i64 nx):=by simp [go_sem]
 have q7:(w.alloc (.cells #[.string mc,.int .i64 ip,.int .i64 po,.int .i64 di,.int .i64 st,.int .i64 un,.int .i64 nx,.int .i64 wa,.string inn,.string out,.bool fin] 162)).cell? ⟨w.heap.size,7,none⟩=some (.int .i64 wa):=by simp [go_sem]
 have q8:(w.alloc (.cells #[.string mc,.int .i64 ip,.int .i64 po,.int .i64 di,.int .i64 st,.int .i64 un,.int .i64 nx,.int .i64 wa,.string inn,.string out,.bool fin] 162)).cell? ⟨w.heap.size,8,none⟩=some (.string inn):=by simp [go_sem]
 have q9:(w.alloc (.cells #[.string mc,.int .i64 ip,.int .i64 po,.int .i64 di,.int .i64 st,.int .i64 un,.int .i64 nx,.int .i64 wa,.string inn,.string out,.bool fin] 162)).cell? ⟨w.heap.size,9,none⟩=some (.string out):=by simp [go_sem]
 have q10:(w.alloc (.cells #[.string mc,.int .i64 ip,.int .i64 po,.int .i64 di,.int .i64 st,.int .i64 un,.int .i64 nx,.int .i64 wa,.string inn,.string out,.bool fin] 162)).cell? ⟨w.heap.size,10,none⟩=some (.bool fin):=by simp [go_sem]
 have hmix:Tryz.prog.follows .mixedOrders=true:=by kernel_rfl
 cases t0 with
 | false =>
  clear T3 F
  go_enter Tryz.func155,Tryz.ntmps155
  go_wp2_with fail
  generalize w.alloc (.cells #[.string mc,.int .i64 ip,.int .i64 po,.int .i64 di,.int .i64 st,.int .i64 un,.int .i64 nx,.int .i64 wa,.string inn,.string out,.bool fin] 162)=W at *
  have y0:∀ n os,(grow (W.drewN n) os).cell? ⟨w.heap.size,0,none⟩=some (.string mc):=fun n os=>bkeep (Grw.below ⟨n,os,rfl⟩) q0
  have y1:∀ n os,(grow (W.drewN n) os).cell? ⟨w.heap.size,1,none⟩=some (.int .i64 ip):=fun n os=>bkeep (Grw.below ⟨n,os,rfl⟩) q1
  have y2:∀ n os,(grow (W.drewN n) os).cell? ⟨w.heap.size,2,none⟩=some (.int .i64 po):=fun n os=>bkeep (Grw.below ⟨n,os,rfl⟩) q2
  have y3:∀ n os,(grow (W.drewN n) os).cell? ⟨w.heap.size,3,none⟩=some (.int .i64 di):=fun n os=>bkeep (Grw.below ⟨n,os,rfl⟩) q3
  have y4:∀ n os,(grow (W.drewN n) os).cell? ⟨w.heap.size,4,none⟩=some (.int .i64 st):=fun n os=>bkeep (Grw.below ⟨n,os,rfl⟩) q4
  have y5:∀ n os,(grow (W.drewN n) os).cell? ⟨w.heap.size,5,none⟩=some (.int .i64 un):=fun n os=>bkeep (Grw.below ⟨n,os,rfl⟩) q5
  have y6:∀ n os,(grow (W.drewN n) os).cell? ⟨w.heap.size,6,none⟩=some (.int .i64 nx):=fun n os=>bkeep (Grw.below ⟨n,os,rfl⟩) q6
  have y7:∀ n os,(grow (W.drewN n) os).cell? ⟨w.heap.size,7,none⟩=some (.int .i64 wa):=fun n os=>bkeep (Grw.below ⟨n,os,rfl⟩) q7
  have y8:∀ n os,(grow (W.drewN n) os).cell? ⟨w.heap.size,8,none⟩=some (.string inn):=fun n os=>bkeep (Grw.below ⟨n,os,rfl⟩) q8
  have y9:∀ n os,(grow (W.drewN n) os).cell? ⟨w.heap.size,9,none⟩=some (.string out):=fun n os=>bkeep (Grw.below ⟨n,os,rfl⟩) q9
  have y10:∀ n os,(grow (W.drewN n) os).cell? ⟨w.heap.size,10,none⟩=some (.bool fin):=fun n os=>bkeep (Grw.below ⟨n,os,rfl⟩) q10
  refine wp_region_quiet_grown (by assumption) (by kernel_rfl) ?_
  repeat (go_big_quiet_step (first | fail | (first | (go_at_call 188;exact Calls.grown_of (T0.out _)))))
  refine wpQuiet_nil ?_
  intro _ hw'
  obtain ⟨⟨nq,osq⟩,hw''⟩:=hw'
  subst hw''
  have HG2:Hid (Grw w (grow (W.drewN nq) osq)):=B0.out.trans ⟨nq,osq,rfl⟩
  clear y0 y1 y2 y3 y4 y5 y6 y7 y8 y9 y10 q0 q1 q2 q3 q4 q5 q6 q7 q8 q9 q10 B0
  generalize (grow (W.drewN nq) osq)=w5 at *
  go_wp2
  go_ret
  exact ⟨by rw [E.out];rfl,HG2.out⟩
 | true =>
  have T4:Hid (∀ w,Calls Tryz.prog 190 #[.int .i64 un,.int .i64 z] w fun e w'=>e=.returned (.int .i64 z2)∧Grw w w'):=T3.out rfl
  have F2:Hid (t1=true→t3=(nx == z2)):=F.out rfl
  clear T3 F
  cases t1 with
  | false =>
   clear F2 T4
   go_enter Tryz.func155,Tryz.ntmps155
   go_wp2_with fail
   generalize w.alloc (.cells #[.string mc,.int .i64 ip,.int .i64 po,.int .i64 di,.int .i64 st,.int .i64 un,.int .i64 nx,.int .i64 wa,.string inn,.string out,.bool fin] 162)=W at *
   have y0:∀ n os,(grow (W.drewN n) os).cell? ⟨w.heap.size,0,none⟩=some (.string mc):=fun n os=>bkeep (Grw.below ⟨n,os,rfl⟩) q0
   have y1:∀ n os,(grow (W.drewN n) os).cell? ⟨w.heap.size,1,none⟩=some (.int .i64 ip):=fun n os=>bkeep (Grw.below ⟨n,os,rfl⟩) q1
   have y2:∀ n os,(grow (W.drewN n) os).cell? ⟨w.heap.size,2,none⟩=some (.int .i64 po):=fun n os=>bkeep (Grw.below ⟨n,os,rfl⟩) q2
   have y3:∀ n os,(grow (W.drewN n) os).cell? ⟨w.heap.size,3,none⟩=some (.int .i64 di):=fun n os=>bkeep (Grw.below ⟨n,os,rfl⟩) q3
   have y4:∀ n os,(grow (W.drewN n) os).cell? ⟨w.heap.size,4,none⟩=some (.int .i64 st):=fun n os=>bkeep (Grw.below ⟨n,os,rfl⟩) q4
   have y5:∀ n os,(grow (W.drewN n) os).cell? ⟨w.heap.size,5,none⟩=some (.int .i64 un):=fun n os=>bkeep (Grw.below ⟨n,os,rfl⟩) q5
   have y6:∀ n os,(grow (W.drewN n) os).cell? ⟨w.heap.size,6,none⟩=some (.int .i64 nx):=fun n os=>bkeep (Grw.below ⟨n,os,rfl⟩) q6
   have y7:∀ n os,(grow (W.drewN n) os).cell? ⟨w.heap.size,7,none⟩=some (.int .i64 wa):=fun n os=>bkeep (Grw.below ⟨n,os,rfl⟩) q7
   have y8:∀ n os,(grow (W.drewN n) os).cell? ⟨w.heap.size,8,none⟩=some (.string inn):=fun n os=>bkeep (Grw.below ⟨n,os,rfl⟩) q8
   have y9:∀ n os,(grow (W.drewN n) os).cell? ⟨w.heap.size,9,none⟩=some (.string out):=fun n os=>bkeep (Grw.below ⟨n,os,rfl⟩) q9
   have y10:∀ n os,(grow (W.drewN n) os).cell? ⟨w.heap.size,10,none⟩=some (.bool fin):=fun n os=>bkeep (Grw.below ⟨n,os,rfl⟩) q10
   refine wp_region_quiet_grown (by assumption) (by kernel_rfl) ?_
   repeat (go_big_quiet_step (first | fail | (first | (go_at_call 188;exact Calls.grown_of (T0.out _)) | (go_at_call 189;exact Calls.grown_of (T1.out _)))))
   refine wpQuiet_nil ?_
   intro _ hw'
   obtain ⟨⟨nq,osq⟩,hw''⟩:=hw'
   subst hw''
   have HG2:Hid (Grw w (grow (W.drewN nq) osq)):=B0.out.trans ⟨nq,osq,rfl⟩
   clear y0 y1 y2 y3 y4 y5 y6 y7 y8 y9 y10 q0 q1 q2 q3 q4 q5 q6 q7 q8 q9 q10 B0
   generalize (grow (W.drewN nq) osq)=w5 at *
   go_wp2
   go_ret
   exact ⟨by rw [E.out];rfl,HG2.out⟩
  | true =>
   have F3:Hid (t3=(nx == z2)):=F2.out rfl
   rw [F3.out] at E
   clear F2 F3
   go_enter Tryz.func155,Tryz.ntmps155
   go_wp2_with fail
   generalize w.alloc (.cells #[.string mc,.int .i64 ip,.int .i64 po,.int .i64 di,.int .i64 st,.int .i64 un,.int .i64 nx,.int .i64 wa,.string inn,.string out,.bool fin] 162)=W at *
   have y0:∀ n os,(grow (W.drewN n) os).cell? ⟨w.heap.size,0,none⟩=some (.string mc):=fun n os=>bkeep (Grw.below ⟨n,os,rfl⟩) q0
   have y1:∀ n os,(grow (W.drewN n) os).cell? ⟨w.heap.size,1,none⟩=some (.int .i64 ip):=fun n os=>bkeep (Grw.below ⟨n,os,rfl⟩) q1
   have y2:∀ n os,(grow (W.drewN n) os).cell? ⟨w.heap.size,2,none⟩=some (.int .i64 po):=fun n os=>bkeep (Grw.below ⟨n,os,rfl⟩) q2
   have y3:∀ n os,(grow (W.drewN n) os).cell? ⟨w.heap.size,3,none⟩=some (.int .i64 di):=fun n os=>bkeep (Grw.below ⟨n,os,rfl⟩) q3
   have y4:∀ n os,(grow (W.drewN n) os).cell? ⟨w.heap.size,4,none⟩=some (.int .i64 st):=fun n os=>bkeep (Grw.below ⟨n,os,rfl⟩) q4
   have y5:∀ n os,(grow (W.drewN n) os).cell? ⟨w.heap.size,5,none⟩=some (.int .i64 un):=fun n os=>bkeep (Grw.below ⟨n,os,rfl⟩) q5
   have y6:∀ n os,(grow (W.drewN n) os).cell? ⟨w.heap.size,6,none⟩=some (.int .i64 nx):=fun n os=>bkeep (Grw.below ⟨n,os,rfl⟩) q6
   have y7:∀ n os,(grow (W.drewN n) os).cell? ⟨w.heap.size,7,none⟩=some (.int .i64 wa):=fun n os=>bkeep (Grw.below ⟨n,os,rfl⟩) q7
   have y8:∀ n os,(grow (W.drewN n) os).cell? ⟨w.heap.size,8,none⟩=some (.string inn):=fun n os=>bkeep (Grw.below ⟨n,os,rfl⟩) q8
   have y9:∀ n os,(grow (W.drewN n) os).cell? ⟨w.heap.size,9,none⟩=some (.string out):=fun n os=>bkeep (Grw.below ⟨n,os,rfl⟩) q9
   have y10:∀ n os,(grow (W.drewN n) os).cell? ⟨w.heap.size,10,none⟩=some (.bool fin):=fun n os=>bkeep (Grw.below ⟨n,os,rfl⟩) q10
   refine wp_region_quiet_grown (by assumption) (by kernel_rfl) ?_
   repeat (go_big_quiet_step (first | fail | (first | (go_at_call 188;exact Calls.grown_of (T0.out _)) | (go_at_call 189;exact Calls.grown_of (T1.out _)) | (go_at_call 191;exact Calls.grown_of (T2.out _)) | (go_at_call 190;exact Calls.grown_of (T4.out _)))))
   refine wpQuiet_nil ?_
   intro _ hw'
   obtain ⟨⟨nq,osq⟩,hw''⟩:=hw'
   subst hw''
   have HG2:Hid (Grw w (grow (W.drewN nq) osq)):=B0.out.trans ⟨nq,osq,rfl⟩
   clear y0 y1 y2 y3 y4 y5 y6 y7 y8 y9 y10 q0 q1 q2 q3 q4 q5 q6 q7 q8 q9 q10 B0
   generalize (grow (W.drewN nq) osq)=w5 at *
   go_wp2
   go_ret
   exact ⟨by rw [E.out];rfl,HG2.out⟩
set_option maxHeartbeats 1000000 in
theorem ownerGone_any (A:GtA) (g:GtV) (f:FlowV) (w:World) (h:Rw SeR 10 w A.sa g.ss) (hn:g.ss.length≤1048576) :
  Calls Tryz.prog 154 #[.agg #[.slice A.ua g.us.length A.uc,.slice A.sa g.ss.length A.sc,.slice A.fa g.fs.length A.fc,.slice A.ra g.es.length A.rc,.int .i64 g.nx],.agg #[.int .i64 f.pr,.string f.mc,.int .i64 f.si,.int .i64 f.sp,.int .i64 f.di,.int .i64 f.dp,.int .i64 f.st,.int .i64 f.un,.int .i64 f.ow]] w fun e w'=>e=.returned (.bool (owP g.ss f))∧Grw w w':=by
 have HX:Hid (∀ W,Grw w W→Calls Tryz.prog 187 #[.slice A.sa g.ss.length A.sc,.int .i64 f.ow] W fun e w'=>e=.returned (.int .i64 (ixI (siP f.ow) g.ss))∧Grw W w'):=fun W gw=>sessPlace_any A.sa g.ss.length A.sc g.ss f.ow W (h.keep SeR.kp gw.below) rfl (by omega)
 clear h
 have hi:=ixI_neg (p:=siP f.ow) (xs:=g.ss)
 have EQ:Hid (owP g.ss f=((f.ow != 0) && !(g.ss.any (siP f.ow)))):=rfl
 rw [EQ.out]
 rw [← hi]
 clear hi EQ
 generalize ixI (siP f.ow) g.ss=r at HX ⊢
 by_cases h0:f.ow=0
 ·have e0:(f.ow != 0)=false:=by simp [h0]
  rw [e0]
  go_enter Tryz.func154,Tryz.ntmps154
  go_wp2
  go_ret
  exact ⟨rfl,((Grw.refl w).alloc _).alloc _⟩
 ·have e0:(f.ow != 0)=true:=by simp [h0]
  rw [e0]
  clear h0
  go_enter Tryz.func154,Tryz.ntmps154
  go_wp2_with (go_at_call 187;refine (HX.out _ (((Grw.refl w).alloc _).alloc _)).mono ?_;rintro e w' ⟨rfl,g1⟩)
  go_ret
  exact ⟨by simp,(((Grw.refl w).alloc _).alloc _).trans g1⟩
set_option maxHeartbeats 2000000 in
theorem idxFlow_any (y:Option Addr) (n c:Nat) (xs:List FlowV) (p:FlowV→Bool) (B0:Nat) (w:World) (h:Rw FlR 9 w y xs) (hl:xs.length=n) (hn:n≤9223372036854775807)
  (hp:∀ z,z ∈ xs→∀ W,Below w.heap.size w W→Calls Tryz.prog 153 #[.agg #[.int .i64 z.pr,.string z.mc,.int .i64 z.si,.int .i64 z.sp,.int .i64 z.di,.int .i64 z.dp,.int .i64 z.st,.int .i64 z.un,.int .i64 z.ow],.pointer (some ⟨B0,0,none⟩)] W fun e w'=>e=.returned (.bool (p z))∧Grw W w') :
  Calls Tryz.prog 186 #[.slice y n c,.func (.func 153) #[] #[.pointer (some ⟨B0,0,none⟩)]] w fun e w'=>e=.returned (.int .i64 (ixI p xs))∧Grw w w':=by
 have RY:Hid (Rw FlR 9 w y xs):=h
 have HP0:Hid (∀ z,z ∈ xs→∀ W,Below w.heap.size w W→Calls Tryz.prog 153 #[.agg #[.int .i64 z.pr,.string z.mc,.int .i64 z.si,.int .i64 z.sp,.int .i64 z.di,.int .i64 z.dp,.int .i64 z.st,.int .i64 z.un,.int .i64 z.ow],.pointer (some ⟨B0,0,none⟩)] W fun e w'=>e=.returned (.bool (p z))∧Grw W w'):=hp
 clear h hp
 have eg:∀ args w,(callFunc 153 args).run Tryz.prog w=.ok (.enter 153 args) w:=enters_of Tryz.func153 (by kernel_rfl) rfl
 go_enter Tryz.func186,Tryz.ntmps186
 go_wp2
 go_loopw [8] (fun u wr=>∃ k:Nat,k≤n∧u=.int .i64 k∧Hid ((xs.take k).find? p=none)∧Hid (Grw w wr)) (fun u _=>n - (intOf u).toNat)
 case atStart=>exact ⟨0,Nat.zero_le _,rfl,rfl,Grw.refl _⟩
 case round =>
  obtain ⟨k,hk,rfl,HO,HG⟩:=hrel
  by_cases hlt:k<n
  ·obtain ⟨z,hx⟩:=at_of hl hlt
   obtain ⟨bk,off,vs,rfl,hb,hvl,hR,hc⟩:=RY.out.at FR.kp HG.out.below hx
   have HY:Hid (p z=true→ixI p xs=k):=fun h=>ixI_at hx HO.out h
   have HN:Hid (p z=false→(xs.take (k+1)).find? p=none):=fun h=>ixI_no hx HO.out h
   obtain ⟨rfl,-⟩:=hR
   have q0:wr.cell? ⟨bk,off+k * 9,none⟩=some (.int .i64 z.pr):=hc 0 _ rfl
   have q1:wr.cell? ⟨bk,off+k * 9+1,none⟩=some (.string z.mc):=hc 1 _ rfl
   have q2:wr.cell? ⟨bk,off+k * 9+2,none⟩=some (.int .i64 z.si):=hc 2 _ rfl
   have q3:wr.cell? ⟨bk,off+k * 9+3,none⟩=some (.int .i64 z.sp):=hc 3 _ rfl
   have q4:wr.cell? ⟨bk,off+k * 9+4,none⟩=some (.int .i64 z.di):=hc 4 _ rfl
   have q5:wr.cell? ⟨bk,off+k * 9+5,none⟩=some (.int .i64 z.dp):=hc 5 _ rfl
   have q6:wr.cell? ⟨bk,off+k * 9+6,none⟩=some (.int .i64 z.st):=hc 6 _ rfl
   have q7:wr.cell? ⟨bk,off+k * 9+7,none⟩=some (.int .i64 z.un):=hc 7 _ rfl
   have q8:wr.cell? ⟨bk,off+k * 9+8,none⟩=some (.int .i64 z.ow):=hc 8 _ rfl
   have hltz:(k:Int)<(n:Int):=by omega
   have HP:Hid (∀ W,Grw w W→Calls Tryz.prog 153 #[.agg #[.int .i64 z.pr,.string z.mc,.int .i64 z.si,.int .i64 z.sp,.int .i64 z.di,.int .i64 z.dp,.int .i64 z.st,.int .i64 z.un,.int .i64 z.ow],.pointer (some ⟨B0,0,none⟩)] W fun e w'=>e=.returned (.bool (p z))∧Grw W w'):=fun W g=>HP0.out z (List.mem_of_getElem? hx) W g.below
   generalize p z=u at HY HN HP
   clear hc hvl hx
   cases u with
   | false =>
    have HN':Hid ((xs.take (k+1)).find? p=none):=HN.out rfl
    clear HY HN
    go_wp2_with (go_at_fn 153;refine (HP.out _ HG.out).mono ?_;rintro e w' ⟨rfl,g1⟩)
    have HG1:Hid (Grw w _):=HG.out.trans g1
    clear g1 HG
    go_roundw
    case rel=>exact ⟨k+1,by omega,by go_num,HN',HG1⟩
    case measure=>simp [intOf];omega
   | true =>
    have HY':Hid (ixI p xs=k):=HY.out rfl
    clear HY HN
    go_wp2_with (go_at_fn 153;refine (HP.out _ HG.out).mono ?_;rintro e w' ⟨rfl,g1⟩)
    go_ret
    exact ⟨by rw [HY'.out];rfl,HG.out.trans g1⟩
  ·obtain rfl:k=n:=by omega
   have hd:Hid (ixI p xs=-1):=ixI_end hl HO.out
   go_wp2
   go_ret
   exact ⟨by rw [hd.out];rfl,HG.out⟩
set_option maxHeartbeats 2000000 in
theorem owners1_any (A:GtA) (g:GtV) (f:FlowV) (B:Nat) (w:World) (h:Rw SeR 10 w A.sa g.ss) (hn:g.ss.length≤1048576) (hb:Bx w B [.int .i64 g.ip,.int .i64 g.b,.int .i64 g.gt,.string g.gm,.string g.wm,.int .i64 g.rs,.slice A.x g.ps.length A.xc,.slice A.y g.ros.length A.yc,.slice A.ua g.us.length A.uc,.slice A.sa g.ss.length A.sc,.slice A.fa g.fs.length A.fc,.slice A.ra g.es.length A.rc,.int .i64 g.nx,.slice A.la g.fl.length A.lc,.slice A.ca g.co.length A.cc,.int .i64 g.nw,.int .i64 g.dr,.int .i64 g.sn]) :
  Calls Tryz.prog 153 #[.agg #[.int .i64 f.pr,.string f.mc,.int .i64 f.si,.int .i64 f.sp,.int .i64 f.di,.int .i64 f.dp,.int .i64 f.st,.int .i64 f.un,.int .i64 f.ow],.pointer (some ⟨B,0,none⟩)] w fun e w'=>e=.returned (.bool (owP g.ss f))∧Grw w w':=by
 have HX:Hid (∀ W,Grw w W→Calls Tryz.prog 154 #[.agg #[.slice A.ua g.us.length A.uc,.slice A.sa g.ss.length A.sc,.slice A.fa g.fs.length A.fc,.slice A.ra g.es.length A.rc,.int .i64 g.nx],.agg #[.int .i64 f.pr,.string f.mc,.int .i64 f.si,.int .i64 f.sp,.int .i64 f.di,.int .i64 f.dp,.int .i64 f.st,.int .i64 f.un,.int .i64 f.ow]] W fun e w'=>e=.returned (.bool (owP g.ss f))∧Grw W w'):=fun W gw=>ownerGone_any A g f W (h.keep SeR.kp gw.below) hn
 have HB:Hid (Bx (w.alloc (.cells #[.int .i64 f.pr,.string f.mc,.int .i64 f.si,.int .i64 f.sp,.int .i64 f.di,.int .i64 f.dp,.int .i64 f.st,.int .i64 f.un,.int .i64 f.ow] 159)) B [.int .i64 g.ip,.int .i64 g.b,.int .i64 g.gt,.string g.gm,.string g.wm,.int .i64 g.rs,.slice A.x g.ps.length A.xc,.slice A.y g.ros.length A.yc,.slice A.ua g.us.length A.uc,.slice A.sa g.ss.length A.sc,.slice A.fa g.fs.length A.fc,.slice A.ra g.es.length A.rc,.int .i64 g.nx,.slice A.la g.fl.length A.lc,.slice A.ca g.co.length A.cc,.int .i64 g.nw,.int .i64 g.dr,.int .i64 g.sn]):=hb.below ((Below.refl _ _).alloc (Nat.le_refl _) _)
 clear h hb
 generalize owP g.ss f=r at HX ⊢
 go_enter Tryz.func153,Tryz.ntmps153
 go_wp2_with (first | (refine wpl_getO 46 rfl _ rfl B 8 [.slice A.ua g.us.length A.uc,.slice A.sa g.ss.length A.sc,.slice A.fa g.fs.length A.fc,.slice A.ra g.es.length A.rc,.int .i64 g.nx] rfl HB.out rfl _ Tryz.underlying46 rfl rfl ?_) | (go_at_call 154;refine (HX.out _ ((Grw.refl w).alloc _)).mono ?_;rintro e w' ⟨rfl,g1⟩) | fail)
 go_ret
 exact ⟨rfl,((Grw.refl w).alloc _).trans g1⟩
set_option maxHeartbeats 2000000 in
theorem ownersOK_any (A:GtA) (g:GtV) (w:World) (h:Rw SeR 10 w A.sa g.ss) (h2:Rw FlR 9 w A.la g.fl) (hn:g.ss.length≤1048576) (hf:g.fl.length≤1048576) :
  Calls Tryz.prog 121 #[.agg #[.int .i64 g.ip,.int .i64 g.b,.int .i64 g.gt,.string g.gm,.string g.wm,.int .i64 g.rs,.slice A.x g.ps.length A.xc,.slice A.y g.ros.length A.yc,.slice A.ua g.us.length A.uc,.slice A.sa g.ss.length A.sc,.slice A.fa g.fs.length A.fc,.slice A.ra g.es.length A.rc,.int .i64 g.nx,.slice A.la g.fl.length A.lc,.slice A.ca g.co.length A.cc,.int .i64 g.nw,.int .i64 g.dr,.int .i64 g.sn]] w fun e w'=>e=.returned (.bool (owB g.ss g.fl))∧Grw w w':=by
 have HX:Hid (∀ W B,Grw w W→Bx W B [.int .i64 g.ip,.int .i64 g.b,.int .i64 g.gt,.string g.gm,.string g.wm,.int .i64 g.rs,.slice A.x g.ps.length A.xc,.slice A.y g.ros.length A.yc,.slice A.ua g.us.length A.uc,.slice A.sa g.ss.length A.sc,.slice A.fa g.fs.length A.fc,.slice A.ra g.es.length A.rc,.int .i64 g.nx,.slice A.la g.fl.length A.lc,.slice A.ca g.co.length A.cc,.int .i64 g.nw,.int .i64 g.dr,.int .i64 g.sn]→Calls Tryz.prog 186 #[.slice A.la g.fl.length A.lc,.func (.func 153) #[] #[.pointer (some ⟨B,0,none⟩)]] W fun e w'=>e=.returned (.int .i64 (ixI (owP g.ss) g.fl))∧Grw W w'):=fun W B gw hc=>idxFlow_any A.la g.fl.length A.lc g.fl (owP g.ss) B W (h2.keep FR.kp gw.below) rfl (by omega) (fun z _ W2 b2=>owners1_any A g z B W2 (h.keep SeR.kp (gw.below.trans (b2.mono gw.below.size))) hn (hc.below b2))
 clear h h2
 have hi:=ixI_pos (p:=owP g.ss) (xs:=g.fl)
 unfold owB
 rw [← hi]
 clear hi
 generalize ixI (owP g.ss) g.fl=r at HX ⊢
 have HQ:Hid (∀ W B,Grw w W→Bx W B [.int .i64 g.ip,.int .i64 g.b,.int .i64 g.gt,.string g.gm,.string g.wm,.int .i64 g.rs,.slice A.x g.ps.length A.xc,.slice A.y g.ros.length A.yc,.slice A.ua g.us.length A.uc,.slice A.sa g.ss.length A.sc,.slice A.fa g.fs.length A.fc,.slice A.ra g.es.length A.rc,.int .i64 g.nx,.slice A.la g.fl.length A.lc,.slice A.ca g.co.length A.cc,.int .i64 g.nw,.int .i64 g.dr,.int .i64 g.sn]→Calls Tryz.prog 152 #[.slice A.la g.fl.length A.lc,.func (.func 153) #[] #[.pointer (some ⟨B,0,none⟩)]] W fun e w'=>e=.returned (.bool (decide (0≤r)))∧Grw W w'):=by
  intro W B gw hb
  have HX2:=HX.out W B gw hb
  clear HX hb
  go_enter Tryz.func152,Tryz.ntmps152
  go_wp2_with (go_at_call 186;refine HX2.mono ?_;rintro e w' ⟨rfl,g1⟩)
  go_ret
  exact ⟨rfl,g1⟩
 clear HX
 have HB:Hid (Bx (w.alloc (.cells #[.int .i64 g.ip,.int .i64 g.b,.int .i64 g.gt,.string g.gm,.string g.wm,.int .i64 g.rs,.slice A.x g.ps.length A.xc,.slice A.y g.ros.length A.yc,.slice A.ua g.us.length A.uc,.slice A.sa g.ss.length A.sc,.slice A.fa g.fs.length A.fc,.slice A.ra g.es.length A.rc,.int .i64 g.nx,.slice A.la g.fl.length A.lc,.slice A.ca g.co.length A.cc,.int .i64 g.nw,.int .i64 g.dr,.int .i64 g.sn] 50)) w.heap.size [.int .i64 g.ip,.int .i64 g.b,.int .i64 g.gt,.string g.gm,.string g.wm,.int .i64 g.rs,.slice A.x g.ps.length A.xc,.slice A.y g.ros.length A.yc,.slice A.ua g.us.length A.uc,.slice A.sa g.ss.length A.sc,.slice A.fa g.fs.length A.fc,.slice A.ra g.es.length A.rc,.int .i64 g.nx,.slice A.la g.fl.length A.lc,.slice A.ca g.co.length A.cc,.int .i64 g.nw,.int .i64 g.dr,.int .i64 g.sn]):=Bx.new w #[.int .i64 g.ip,.int .i64 g.b,.int .i64 g.gt,.string g.gm,.string g.wm,.int .i64 g.rs,.slice A.x g.ps.length A.xc,.slice A.y g.ros.length A.yc,.slice A.ua g.us.length A.uc,.slice A.sa g.ss.length A.sc,.slice A.fa g.fs.length A.fc,.slice A.ra g.es.length A.rc,.int .i64 g.nx,.slice A.la g.fl.length A.lc,.slice A.ca g.co.length A.cc,.int .i64 g.nw,.int .i64 g.dr,.int .i64 g.sn] 50
 go_enter Tryz.func121,Tryz.ntmps121
 go_wp2_with (go_at_call 152;refine (HQ.out _ _ ((Grw.refl w).alloc _) HB.out).mono ?_;rintro e w' ⟨rfl,g1⟩)
 go_ret
 exact ⟨rfl,((Grw.refl w).alloc _).trans g1⟩
theorem rw_take {α:Type} {R:World→α→List Value→Prop} {K:Nat} {w:World} {a:Option Addr} {xs:List α} (h:Rw R K w a xs) (k:Nat):Rw R K w a (xs.take k):=by
 intro h0
 obtain ⟨b,off,rfl,hlt,hc⟩:=h (by simp at h0;omega)
 refine ⟨b,off,rfl,hlt,fun i x hx=>?_⟩
 have hi:i<k:=by
  have:=(List.getElem?_eq_some_iff.1 hx).1
  simp at this;omega
 rw [List.getElem?_take_of_lt hi] at hx
 exact hc i x hx
set_option maxHeartbeats 2000000 in
theorem idxConn_any (y:Option Addr) (n c:Nat) (xs:List ConnV) (p:ConnV→Bool) (B0:Nat) (B1:Nat) (B2:Nat) (w:World) (h:Rw CnR 11 w y xs) (hl:xs.length=n) (hn:n≤9223372036854775807)
  (hp:∀ z,z ∈ xs→∀ W,Below w.heap.size w W→Calls Tryz.prog 193 #[.agg #[.string z.mc,.int .i64 z.ip,.int .i64 z.po,.int .i64 z.di,.int .i64 z.st,.int .i64 z.un,.int .i64 z.nx,.int .i64 z.wa,.string z.inn,.string z.out,.bool z.fin],.pointer (some ⟨B0,0,none⟩),.pointer (some ⟨B1,0,none⟩),.pointer (some ⟨B2,0,none⟩)] W fun e w'=>e=.returned (.bool (p z))∧Grw W w') :
  Calls Tryz.prog 192 #[.slice y n c,.func (.func 193) #[] #[.pointer (some ⟨B0,0,none⟩),.pointer (some ⟨B1,0,none⟩),.pointer (some ⟨B2,0,none⟩)]] w fun e w'=>e=.returned (.int .i64 (ixI p xs))∧Grw w w':=by
 have RY:Hid (Rw CnR 11 w y xs):=h
 have HP0:Hid (∀ z,z ∈ xs→∀ W,Below w.heap.size w W→Calls Tryz.prog 193 #[.agg #[.string z.mc,.int .i64 z.ip,.int .i64 z.po,.int .i64 z.di,.int .i64 z.st,.int .i64 z.un,.int .i64 z.nx,.int .i64 z.wa,.string z.inn,.string z.out,.bool z.fin],.pointer (some ⟨B0,0,none⟩),.pointer (some ⟨B1,0,none⟩),.pointer (some ⟨B2,0,none⟩)] W fun e w'=>e=.returned (.bool (p z))∧Grw W w'):=hp
 clear h hp
 have eg:∀ args w,(callFunc 193 args).run Tryz.prog w=.ok (.enter 193 args) w:=enters_of Tryz.func193 (by kernel_rfl) rfl
 go_enter Tryz.func192,Tryz.ntmps192
 go_wp2
 go_loopw [8] (fun u wr=>∃ k:Nat,k≤n∧u=.int .i64 k∧Hid ((xs.take k).find? p=none)∧Hid (Grw w wr)) (fun u _=>n - (intOf u).toNat)
 case atStart=>exact ⟨0,Nat.zero_le _,rfl,rfl,Grw.refl _⟩
 case round =>
  obtain ⟨k,hk,rfl,HO,HG⟩:=hrel
  by_cases hlt:k<n
  ·obtain ⟨z,hx⟩:=at_of hl hlt
   obtain ⟨bk,off,vs,rfl,hb,hvl,hR,hc⟩:=RY.out.at FR.kp HG.out.below hx
   have HY:Hid (p z=true→ixI p xs=k):=fun h=>ixI_at hx HO.out h
   have HN:Hid (p z=false→(xs.take (k+1)).find? p=none):=fun h=>ixI_no hx HO.out h
   obtain ⟨rfl,-⟩:=hR
   have q0:wr.cell? ⟨bk,off+k * 11,none⟩=some (.string z.mc):=hc 0 _ rfl
   have q1:wr.cell? ⟨bk,off+k * 11+1,none⟩=some (.int .i64 z.ip):=hc 1 _ rfl
   have q2:wr.cell? ⟨bk,off+k * 11+2,none⟩=some (.int .i64 z.po):=hc 2 _ rfl
   have q3:wr.cell? ⟨bk,off+k * 11+3,none⟩=some (.int .i64 z.di):=hc 3 _ rfl
   have q4:wr.cell? ⟨bk,off+k * 11+4,none⟩=some (.int .i64 z.st):=hc 4 _ rfl
   have q5:wr.cell? ⟨bk,off+k * 11+5,none⟩=some (.int .i64 z.un):=hc 5 _ rfl
   have q6:wr.cell? ⟨bk,off+k * 11+6,none⟩=some (.int .i64 z.nx):=hc 6 _ rfl
   have q7:wr.cell? ⟨bk,off+k * 11+7,none⟩=some (.int .i64 z.wa):=hc 7 _ rfl
   have q8:wr.cell? ⟨bk,off+k * 11+8,none⟩=some (.string z.inn):=hc 8 _ rfl
   have q9:wr.cell? ⟨bk,off+k * 11+9,none⟩=some (.string z.out):=hc 9 _ rfl
   have q10:wr.cell? ⟨bk,off+k * 11+10,none⟩=some (.bool z.fin):=hc 10 _ rfl
   have hltz:(k:Int)<(n:Int):=by omega
   have HP:Hid (∀ W,Grw w W→Calls Tryz.prog 193 #[.agg #[.string z.mc,.int .i64 z.ip,.int .i64 z.po,.int .i64 z.di,.int .i64 z.st,.int .i64 z.un,.int .i64 z.nx,.int .i64 z.wa,.string z.inn,.string z.out,.bool z.fin],.pointer (some ⟨B0,0,none⟩),.pointer (some ⟨B1,0,none⟩),.pointer (some ⟨B2,0,none⟩)] W fun e w'=>e=.returned (.bool (p z))∧Grw W w'):=fun W g=>HP0.out z (List.mem_of_getElem? hx) W g.below
   generalize p z=u at HY HN HP
   clear hc hvl hx
   cases u with
   | false =>
    have HN':Hid ((xs.take (k+1)).find? p=none):=HN.out rfl
    clear HY HN
    go_wp2_with (go_at_fn 193;refine (HP.out _ HG.out).mono ?_;rintro e w' ⟨rfl,g1⟩)
    have HG1:Hid (Grw w _):=HG.out.trans g1
    clear g1 HG
    go_roundw
    case rel=>exact ⟨k+1,by omega,by go_num,HN',HG1⟩
    case measure=>simp [intOf];omega
   | true =>
    have HY':Hid (ixI p xs=k):=HY.out rfl
    clear HY HN
    go_wp2_with (go_at_fn 193;refine (HP.out _ HG.out).mono ?_;rintro e w' ⟨rfl,g1⟩)
    go_ret
    exact ⟨by rw [HY'.out];rfl,HG.out.trans g1⟩
  ·obtain rfl:k=n:=by omega
   have hd:Hid (ixI p xs=-1):=ixI_end hl HO.out
   go_wp2
   go_ret
   exact ⟨by rw [hd.out];rfl,HG.out⟩
set_option maxHeartbeats 1000000 in
theorem connPlace1_any (z:ConnV) (ip po di:Int) (B0 B1 B2:Nat) (w:World) (h0:w.cell? ⟨B0,0,none⟩=some (.int .i64 ip)) (h1:w.cell? ⟨B1,0,none⟩=some (.int .i64 po)) (h2:w.cell? ⟨B2,0,none⟩=some (.int .i64 di)) :
  Calls Tryz.prog 193 #[.agg #[.string z.mc,.int .i64 z.ip,.int .i64 z.po,.int .i64 z.di,.int .i64 z.st,.int .i64 z.un,.int .i64 z.nx,.int .i64 z.wa,.string z.inn,.string z.out,.bool z.fin],.pointer (some ⟨B0,0,none⟩),.pointer (some ⟨B1,0,none⟩),.pointer (some ⟨B2,0,none⟩)] w fun e w'=>e=.returned (.bool (cnP ip po di z))∧Grw w w':=by
 have c0:=acell h0 (.cells #[.string z.mc,.int .i64 z.ip,.int .i64 z.po,.int .i64 z.di,.int .i64 z.st,.int .i64 z.un,.int .i64 z.nx,.int .i64 z.wa,.string z.inn,.string z.out,.bool z.fin] 162)
 have c1:=acell h1 (.cells #[.string z.mc,.int .i64 z.ip,.int .i64 z.po,.int .i64 z.di,.int .i64 z.st,.int .i64 z.un,.int .i64 z.nx,.int .i64 z.wa,.string z.inn,.string z.out,.bool z.fin] 162)
 have c2:=acell h2 (.cells #[.string z.mc,.int .i64 z.ip,.int .i64 z.po,.int .i64 z.di,.int .i64 z.st,.int .i64 z.un,.int .i64 z.nx,.int .i64 z.wa,.string z.inn,.string z.out,.bool z.fin] 162)
 have EQ:Hid (cnP ip po di z=((z.ip == ip) && ((z.po == po) && (z.di == di)))):=rfl
 rw [EQ.out]
 clear h0 h1 h2 EQ
 obtain ⟨u0,hu0⟩:∃ u,(z.ip == ip)=u:=⟨_,rfl⟩
 obtain ⟨u1,hu1⟩:∃ u,(z.po == po)=u:=⟨_,rfl⟩
 obtain ⟨u2,hu2⟩:∃ u,(z.di == di)=u:=⟨_,rfl⟩
 rw [hu0,hu1,hu2]
 cases u0 <;> cases u1 <;> cases u2 <;>
 ·go_enter Tryz.func193,Tryz.ntmps193
  go_wp2
  go_ret
  exact ⟨by first | rfl | (simp [*];done),(Grw.refl _).alloc _⟩
set_option maxHeartbeats 1000000 in
theorem connPlace_any (a:Option Addr) (n c:Nat) (co:List ConnV) (ip po di:Int) (w:World) (h:Rw CnR 11 w a co) (hl:co.length=n) (hn:n≤9223372036854775807) :
  Calls Tryz.prog 156 #[.slice a n c,.int .i64 ip,.int .i64 po,.int .i64 di] w fun e w'=>e=.returned (.int .i64 (ixI (cnP ip po di) co))∧Grw w w':=by
 have HX:Hid (∀ W B0 B1 B2,Grw w W→W.cell? ⟨B0,0,none⟩=some (.int .i64 ip)→W.cell? ⟨B1,0,none⟩=some (.int .i64 po)→W.cell? ⟨B2,0,none⟩=some (.int .i64 di)→Calls Tryz.prog 192 #[.slice a n c,.func (.func 193) #[] #[.pointer (some ⟨B0,0,none⟩),.pointer (some ⟨B1,0,none⟩),.pointer (some ⟨B2,0,none⟩)]] W fun e w'=>e=.returned (.int .i64 (ixI (cnP ip po di) co))∧Grw W w'):=fun W B0 B1 B2 g h0 h1 h2=>idxConn_any a n c co (cnP ip po di) B0 B1 B2 W (h.keep FR.kp g.below) hl hn (fun z _ W2 b2=>connPlace1_any z ip po di B0 B1 B2 W2 (bkeep b2 h0) (bkeep b2 h1) (bkeep b2 h2))
 clear h
 generalize ixI (cnP ip po di) co=r at HX ⊢
 go_enter Tryz.func156,Tryz.ntmps156
 go_wp2_with (go_at_call 192;refine (HX.out _ _ _ _ ((((Grw.refl w).alloc _).alloc _).alloc _) (by simp [go_sem]) (by simp [go_sem]) (by simp [go_sem])).mono ?_;rintro e w' ⟨rfl,g1⟩)
 go_ret
 exact ⟨rfl,((((Grw.refl w).alloc _).alloc _).alloc _).trans g1⟩
set_option maxHeartbeats 4000000 in
theorem connsOK_any (a:Option Addr) (n c:Nat) (co:List ConnV) (w:World) (h:Rw CnR 11 w a co) (hl:co.length=n) (hn:n≤1048576) (hcap:n≤c) (hsz:∀ x,x ∈ co→(x.mc.size:Int)≤1048576∧(x.inn.size:Int)≤1048576∧(x.out.size:Int)≤1048576) :
  Calls Tryz.prog 122 #[.slice a n c] w fun e w'=>e=.returned (.bool (cnB co))∧Grw w w':=by
 have RW:Hid (Rw CnR 11 w a co):=h
 have SZ:Hid (∀ x,x ∈ co→(x.mc.size:Int)≤1048576∧(x.inn.size:Int)≤1048576∧(x.out.size:Int)≤1048576):=hsz
 have hmix:Tryz.prog.follows .mixedOrders=true:=by kernel_rfl
 clear h hsz
 by_cases h3:3<n
 ·have hz:(3:Int)<(n:Int):=by omega
  have hd:Hid (cnB co=false):=cnB_long (by omega)
  go_enter Tryz.func122,Tryz.ntmps122
  go_wp2
  go_ret
  exact ⟨by rw [hd.out];rfl,Grw.refl _⟩
 have h3z:decide ((3:Int)<(n:Int))=false:=by simp;omega
 have hle:decide ((n:Int)≤3)=true:=by simp;omega
 go_enter Tryz.func122,Tryz.ntmps122
 go_wp2
 go_loopw [10] (fun x wr=>∃ k:Nat,k≤n∧x=.int .i64 k∧Hid (cnOk co k)∧Hid (Grw w wr)) (fun x _=>n - (intOf x).toNat)
 case atStart=>exact ⟨0,Nat.zero_le _,rfl,cnOk_zero co,Grw.refl _⟩
 case round =>
  obtain ⟨k,hk,rfl,HO,HG⟩:=hrel
  by_cases hlt:k<n
  ·obtain ⟨x,hx⟩:=at_of hl hlt
   have hltz:(k:Int)<(n:Int):=by omega
   have hkc:(k:Int)≤(c:Int):=by omega
   have hk0:(0:Int)≤(k:Int):=by omega
   obtain ⟨b,off,vs,rfl,hb,hvl,hR,hc⟩:=RW.out.at FR.kp HG.out.below hx
   have SX:=SZ.out _ (List.mem_of_getElem? hx)
   have HN:Hid (cnAt co k x=false→cnB co=false):=fun h=>cnB_no hx h
   have HY:Hid (cnAt co k x=true→cnOk co (k+1)):=fun h=>cnOk_step HO.out hx h
   have RT:Hid (Rw CnR 11 w (some ⟨b,off,none⟩) (co.take k)):=rw_take RW.out k
   have LT:(co.take k).length=k:=by rw [List.length_take];omega
   obtain ⟨mc,ip,po,di,st,un,nx,wa,inn,out,fin⟩:=x
   obtain ⟨rfl,hok⟩:=hR
   have E:Hid (cnAt co k ⟨mc,ip,po,di,st,un,nx,wa,inn,out,fin⟩=(okB ⟨mc,ip,po,di,st,un,nx,wa,inn,out,fin⟩ && (!(st == 4) && !((co.take k).any (cnP ip po di))))):=rfl
   rw [E.out] at HN HY
   clear E
   have q0:wr.cell? ⟨b,off+k * 11,none⟩=some (.string mc):=hc 0 _ rfl
   have q1:wr.cell? ⟨b,off+k * 11+1,none⟩=some (.int .i64 ip):=hc 1 _ rfl
   have q2:wr.cell? ⟨b,off+k * 11+2,none⟩=some (.int .i64 po):=hc 2 _ rfl
   have q3:wr.cell? ⟨b,off+k * 11+3,none⟩=some (.int .i64 di):=hc 3 _ rfl
   have q4:wr.cell? ⟨b,off+k * 11+4,none⟩=some (.int .i64 st):=hc 4 _ rfl
   have q5:wr.cell? ⟨b,off+k * 11+5,none⟩=some (.int .i64 un):=hc 5 _ rfl
   have q6:wr.cell? ⟨b,off+k * 11+6,none⟩=some (.int .i64 nx):=hc 6 _ rfl
   have q7:wr.cell? ⟨b,off+k * 11+7,none⟩=some (.int .i64 wa):=hc 7 _ rfl
   have q8:wr.cell? ⟨b,off+k * 11+8,none⟩=some (.string inn):=hc 8 _ rfl
   have q9:wr.cell? ⟨b,off+k * 11+9,none⟩=some (.string out):=hc 9 _ rfl
   have q10:wr.cell? ⟨b,off+k * 11+10,none⟩=some (.bool fin):=hc 10 _ rfl
   have wpo:po≤9223372036854775807:=(bounds_i64 hok.2.2.1).2
   clear hc hvl hok
   have HF:Hid (∀ w,Calls Tryz.prog 155 #[.agg #[.string mc,.int .i64 ip,.int .i64 po,.int .i64 di,.int .i64 st,.int .i64 un,.int .i64 nx,.int .i64 wa,.string inn,.string out,.bool fin]] w fun e w'=>e=.returned (.bool (okB ⟨mc,ip,po,di,st,un,nx,wa,inn,out,fin⟩))∧Grw w w'):=fun w=>implConOK_any mc ip po di st un nx wa inn out fin w wpo (by have:=SX.1;dsimp only at this;omega) (by have:=SX.2.1;dsimp only at this;omega) (by have:=SX.2.2;dsimp only at this;omega)
   have HP:Hid (∀ W,Grw w W→Calls Tryz.prog 156 #[.slice (some ⟨b,off,none⟩) k c,.int .i64 ip,.int .i64 po,.int .i64 di] W fun e w'=>e=.returned (.int .i64 (ixI (cnP ip po di) (co.take k)))∧Grw W w'):=fun W g=>connPlace_any _ k c (co.take k) ip po di W (RT.out.keep FR.kp g.below) LT (by omega)
   have hip:=ixI_pos (p:=cnP ip po di) (xs:=co.take k)
   rw [← hip] at HN HY
   clear hip RT LT SX
   generalize okB ⟨mc,ip,po,di,st,un,nx,wa,inn,out,fin⟩=z1 at HF HN HY
   generalize ixI (cnP ip po di) (co.take k)=r at HP HN HY
   clear hx HO
   have m0:∀ n os,(grow ((wr.alloc (.cells #[.string mc,.int .i64 ip,.int .i64 po,.int .i64 di,.int .i64 st,.int .i64 un,.int .i64 nx,.int .i64 wa,.string inn,.string out,.bool fin] 162)).drewN n) os).cell? ⟨wr.heap.size,0,none⟩=some (.string mc):=fun n os=>cell_grown (by simp) (by simp [go_sem]) n os
   have m1:∀ n os,(grow ((wr.alloc (.cells #[.string mc,.int .i64 ip,.int .i64 po,.int .i64 di,.int .i64 st,.int .i64 un,.int .i64 nx,.int .i64 wa,.string inn,.string out,.bool fin] 162)).drewN n) os).cell? ⟨wr.heap.size,1,none⟩=some (.int .i64 ip):=fun n os=>cell_grown (by simp) (by simp [go_sem]) n os
   have m2:∀ n os,(grow ((wr.alloc (.cells #[.string mc,.int .i64 ip,.int .i64 po,.int .i64 di,.int .i64 st,.int .i64 un,.int .i64 nx,.int .i64 wa,.string inn,.string out,.bool fin] 162)).drewN n) os).cell? ⟨wr.heap.size,2,none⟩=some (.int .i64 po):=fun n os=>cell_grown (by simp) (by simp [go_sem]) n os
   have m3:∀ n os,(grow ((wr.alloc (.cells #[.string mc,.int .i64 ip,.int .i64 po,.int .i64 di,.int .i64 st,.int .i64 un,.int .i64 nx,.int .i64 wa,.string inn,.string out,.bool fin] 162)).drewN n) os).cell? ⟨wr.heap.size,3,none⟩=some (.int .i64 di):=fun n os=>cell_grown (by simp) (by simp [go_sem]) n os
   have m4:∀ n os,(grow ((wr.alloc (.cells #[.string mc,.int .i64 ip,.int .i64 po,.int .i64 di,.int .i64 st,.int .i64 un,.int .i64 nx,.int .i64 wa,.string inn,.string out,.bool fin] 162)).drewN n) os).cell? ⟨wr.heap.size,4,none⟩=some (.int .i64 st):=fun n os=>cell_grown (by simp) (by simp [go_sem]) n os
   have m5:∀ n os,(grow ((wr.alloc (.cells #[.string mc,.int .i64 ip,.int .i64 po,.int .i64 di,.int .i64 st,.int .i64 un,.int .i64 nx,.int .i64 wa,.string inn,.string out,.bool fin] 162)).drewN n) os).cell? ⟨wr.heap.size,5,none⟩=some (.int .i64 un):=fun n os=>cell_grown (by simp) (by simp [go_sem]) n os
   have m6:∀ n os,(grow ((wr.alloc (.cells #[.string mc,.int .i64 ip,.int .i64 po,.int .i64 di,.int .i64 st,.int .i64 un,.int .i64 nx,.int .i64 wa,.string inn,.string out,.bool fin] 162)).drewN n) os).cell? ⟨wr.heap.size,6,none⟩=some (.int .i64 nx):=fun n os=>cell_grown (by simp) (by simp [go_sem]) n os
   have m7:∀ n os,(grow ((wr.alloc (.cells #[.string mc,.int .i64 ip,.int .i64 po,.int .i64 di,.int .i64 st,.int .i64 un,.int .i64 nx,.int .i64 wa,.string inn,.string out,.bool fin] 162)).drewN n) os).cell? ⟨wr.heap.size,7,none⟩=some (.int .i64 wa):=fun n os=>cell_grown (by simp) (by simp [go_sem]) n os
   have m8:∀ n os,(grow ((wr.alloc (.cells #[.string mc,.int .i64 ip,.int .i64 po,.int .i64 di,.int .i64 st,.int .i64 un,.int .i64 nx,.int .i64 wa,.string inn,.string out,.bool fin] 162)).drewN n) os).cell? ⟨wr.heap.size,8,none⟩=some (.string inn):=fun n os=>cell_grown (by simp) (by simp [go_sem]) n os
   have m9:∀ n os,(grow ((wr.alloc (.cells #[.string mc,.int .i64 ip,.int .i64 po,.int .i64 di,.int .i64 st,.int .i64 un,.int .i64 nx,.int .i64 wa,.string inn,.string out,.bool fin] 162)).drewN n) os).cell? ⟨wr.heap.size,9,none⟩=some (.string out):=fun n os=>cell_grown (by simp) (by simp [go_sem]) n os
   have m10:∀ n os,(grow ((wr.alloc (.cells #[.string mc,.int .i64 ip,.int .i64 po,.int .i64 di,.int .i64 st,.int .i64 un,.int .i64 nx,.int .i64 wa,.string inn,.string out,.bool fin] 162)).drewN n) os).cell? ⟨wr.heap.size,10,none⟩=some (.bool fin):=fun n os=>cell_grown (by simp) (by simp [go_sem]) n os
   have HGA:Hid (Grw w (wr.alloc (.cells #[.string mc,.int .i64 ip,.int .i64 po,.int .i64 di,.int .i64 st,.int .i64 un,.int .i64 nx,.int .i64 wa,.string inn,.string out,.bool fin] 162))):=HG.out.alloc _
   cases z1 with
   | false =>
    have hd:Hid (cnB co=false):=HN.out rfl
    clear HN HY HG
    go_wp2_with fail
    refine wp_region_quiet_grown (by assumption) (by kernel_rfl) ?_
    repeat (go_big_quiet_step (first | fail | (first | (go_at_call 155;exact Calls.grown_of (HF.out _)) | (go_at_call 156;exact Calls.grown_of (HP.out _ (HGA.out.trans ⟨_,_,rfl⟩))))))
    refine wpQuiet_nil ?_
    intro _ hw'
    obtain ⟨⟨nq,osq⟩,hw''⟩:=hw'
    subst hw''
    go_wp2
    go_ret
    exact ⟨by rw [hd.out];rfl,HGA.out.trans ⟨nq,osq,rfl⟩⟩
   | true =>
    by_cases h4:st=4
    ·have h4z:(st == 4)=true:=by simp [h4]
     rw [h4z] at HN
     have hd:Hid (cnB co=false):=HN.out rfl
     clear HN HY h4 HG
     go_wp2_with fail
     refine wp_region_quiet_grown (by assumption) (by kernel_rfl) ?_
     repeat (go_big_quiet_step (first | fail | (first | (go_at_call 155;exact Calls.grown_of (HF.out _)) | (go_at_call 156;exact Calls.grown_of (HP.out _ (HGA.out.trans ⟨_,_,rfl⟩))))))
     refine wpQuiet_nil ?_
     intro _ hw'
     obtain ⟨⟨nq,osq⟩,hw''⟩:=hw'
     subst hw''
     go_wp2
     go_ret
     exact ⟨by rw [hd.out];rfl,HGA.out.trans ⟨nq,osq,rfl⟩⟩
    have h4z:(st == 4)=false:=by simp [h4]
    rw [h4z] at HN HY
    clear h4
    by_cases hr:0≤r
    ·have hd:Hid (cnB co=false):=HN.out (by simp [hr])
     have hrz:decide (0≤r)=true:=by simp [hr]
     clear HN HY HG
     go_wp2_with fail
     refine wp_region_quiet_grown (by assumption) (by kernel_rfl) ?_
     repeat (go_big_quiet_step (first | fail | (first | (go_at_call 155;exact Calls.grown_of (HF.out _)) | (go_at_call 156;exact Calls.grown_of (HP.out _ (HGA.out.trans ⟨_,_,rfl⟩))))))
     refine wpQuiet_nil ?_
     intro _ hw'
     obtain ⟨⟨nq,osq⟩,hw''⟩:=hw'
     subst hw''
     go_wp2
     go_ret
     exact ⟨by rw [hd.out];rfl,HGA.out.trans ⟨nq,osq,rfl⟩⟩
    have HO2:Hid (cnOk co (k+1)):=HY.out (by simp;omega)
    have hrz:decide (0≤r)=false:=by simp;omega
    clear HN HY HG
    go_wp2_with fail
    refine wp_region_quiet_grown (by assumption) (by kernel_rfl) ?_
    repeat (go_big_quiet_step (first | fail | (first | (go_at_call 155;exact Calls.grown_of (HF.out _)) | (go_at_call 156;exact Calls.grown_of (HP.out _ (HGA.out.trans ⟨_,_,rfl⟩))))))
    refine wpQuiet_nil ?_
    intro _ hw'
    obtain ⟨⟨nq,osq⟩,hw''⟩:=hw'
    subst hw''
    have HG2:Hid (Grw w (grow ((wr.alloc (.cells #[.string mc,.int .i64 ip,.int .i64 po,.int .i64 di,.int .i64 st,.int .i64 un,.int .i64 nx,.int .i64 wa,.string inn,.string out,.bool fin] 162)).drewN nq) osq)):=HGA.out.trans ⟨nq,osq,rfl⟩
    clear HGA HP HF
    go_wp2
    go_roundw
    case rel=>exact ⟨k+1,by omega,by go_num,HO2,HG2⟩
    case measure=>simp [intOf];omega
  ·obtain rfl:k=n:=by omega
   have hd:Hid (cnB co=true):=by show _=_;rw [cnB_of hl HO.out,hle]
   clear HO
   go_wp2
   go_ret
   exact ⟨by rw [hd.out];rfl,HG.out⟩
theorem flok_of {w:World} {a:Option Addr} {fl:List FlowV} (h:Rw FlR 9 w a fl):∀ x,x ∈ fl→FlRok x:=by
 intro x hx
 obtain ⟨i,hi⟩:=List.getElem?_of_mem hx
 obtain ⟨b,off,vs,_,_,_,h2,_⟩:=h.at FR.kp (Below.refl _ _) hi
 exact h2.2
theorem szU_of {us:List UserV} {n:Int} (h:szL wtUser us≤n) (hn:n≤1048576):SzU us:=by
 intro u hu
 have:=szL_mem wtUser_nn us u hu
 have e:wtUser u=(u.nm.size:Int)+u.sa.size+u.ha.size+u.ro.size:=rfl
 rw [e] at this
 omega
set_option maxHeartbeats 4000000 in
theorem implGate_any (A:GtA) (g:GtV) (w:World) (h:GtR w A g) (hs:GtS g) :
  Calls Tryz.prog 66 #[.agg #[.int .i64 g.ip,.int .i64 g.b,.int .i64 g.gt,.string g.gm,.string g.wm,.int .i64 g.rs,.slice A.x g.ps.length A.xc,.slice A.y g.ros.length A.yc,.slice A.ua g.us.length A.uc,.slice A.sa g.ss.length A.sc,.slice A.fa g.fs.length A.fc,.slice A.ra g.es.length A.rc,.int .i64 g.nx,.slice A.la g.fl.length A.lc,.slice A.ca g.co.length A.cc,.int .i64 g.nw,.int .i64 g.dr,.int .i64 g.sn]] w fun e w'=>e=.returned (.bool (gtB g))∧Below w.heap.size w w':=by
 have GR:Hid (GtR w A g):=h
 have hok:Hid (∀ x,x ∈ g.fl→FlRok x):=flok_of h.fl
 have H1:Hid (∀ w,GtR w A g→Calls Tryz.prog 37 #[.agg #[.int .i64 g.ip,.int .i64 g.b,.int .i64 g.gt,.string g.gm,.string g.wm,.int .i64 g.rs,.slice A.x g.ps.length A.xc,.slice A.y g.ros.length A.yc],.agg #[.slice A.ua g.us.length A.uc,.slice A.sa g.ss.length A.sc,.slice A.fa g.fs.length A.fc,.slice A.ra g.es.length A.rc,.int .i64 g.nx]] w fun e w'=>e=.returned (.bool (gokB g.ip g.b g.gt g.gm g.wm g.rs g.ps g.ros g.us g.ss g.fs g.es g.nx))∧Below w.heap.size w w'):=fun w h=>implGuests_any _ _ _ _ _ _ _ _ _ _ _ _ g.ps g.ros _ _ _ _ _ _ _ _ _ _ _ _ g.us g.ss g.fs g.es g.nx w h.ps rfl h.ros rfl hs.szr hs.ros h.us rfl h.ss rfl h.fs rfl h.es rfl (szU_of hs.szu (Int.le_refl _)) hs.us
 have H2:Hid (∀ w,GtR w A g→Calls Tryz.prog 120 #[.slice A.la g.fl.length A.lc] w fun e w'=>e=.returned (.bool (foB g.fl))∧Below w.heap.size w w'):=fun w h=>implFlowsOK_any _ _ _ g.fl w h.fl hok.out rfl hs.fl
 have H3:Hid (∀ w,GtR w A g→Calls Tryz.prog 121 #[.agg #[.int .i64 g.ip,.int .i64 g.b,.int .i64 g.gt,.string g.gm,.string g.wm,.int .i64 g.rs,.slice A.x g.ps.length A.xc,.slice A.y g.ros.length A.yc,.slice A.ua g.us.length A.uc,.slice A.sa g.ss.length A.sc,.slice A.fa g.fs.length A.fc,.slice A.ra g.es.length A.rc,.int .i64 g.nx,.slice A.la g.fl.length A.lc,.slice A.ca g.co.length A.cc,.int .i64 g.nw,.int .i64 g.dr,.int .i64 g.sn]] w fun e w'=>e=.returned (.bool (owB g.ss g.fl))∧Below w.heap.size w w'):=fun w h=>(ownersOK_any A g w h.ss h.fl hs.ss hs.fl).mono fun e w' h=>⟨h.1,h.2.below⟩
 have H4:Hid (∀ w,GtR w A g→Calls Tryz.prog 122 #[.slice A.ca g.co.length A.cc] w fun e w'=>e=.returned (.bool (cnB g.co))∧Below w.heap.size w w'):=fun w h=>(connsOK_any _ _ _ g.co w h.co rfl hs.co h.kc hs.szc).mono fun e w' h=>⟨h.1,h.2.below⟩
 have H5:Hid (∀ w,GtR w A g→Calls Tryz.prog 123 #[.int .i64 g.nw] w fun e w'=>e=.returned (.bool (dec (0≤g.nw∧g.nw≤100000)))∧Below w.heap.size w w'):=fun w h=>(timeOK_any g.nw w).mono fun e w' h=>⟨h.1,by rw [h.2];exact Below.refl _ _⟩
 have H6:Hid (∀ w,GtR w A g→Calls Tryz.prog 86 #[.int .i64 g.dr,.int .i64 0,.int .i64 1000000] w fun e w'=>e=.returned (.bool (dec (0≤g.dr∧g.dr≤1000000)))∧Below w.heap.size w w'):=fun w h=>(between_any g.dr 0 1000000 w).mono fun e w' h=>⟨h.1,by rw [h.2];exact Below.refl _ _⟩
 have H7:Hid (∀ w,GtR w A g→Calls Tryz.prog 67 #[.int .i64 g.sn] w fun e w'=>e=.returned (.bool (dec (0≤g.sn∧g.sn≤4294967295)))∧Below w.heap.size w w'):=fun w h=>(seqOK_any g.sn w).mono fun e w' h=>⟨h.1,by rw [h.2];exact Below.refl _ _⟩
 have E:Hid (gtB g=(gokB g.ip g.b g.gt g.gm g.wm g.rs g.ps g.ros g.us g.ss g.fs g.es g.nx && (foB g.fl && (owB g.ss g.fl && (cnB g.co && (dec (0≤g.nw∧g.nw≤100000) && (dec (0≤g.dr∧g.dr≤1000000) && dec (0≤g.sn∧g.sn≤4294967295)))))))):=rfl
 rw [E.out]
 clear E h hs hok
 generalize gokB g.ip g.b g.gt g.gm g.wm g.rs g.ps g.ros g.us g.ss g.fs g.es g.nx=q1 at H1 ⊢
 generalize foB g.fl=q2 at H2 ⊢
 generalize owB g.ss g.fl=q3 at H3 ⊢
 generalize cnB g.co=q4 at H4 ⊢
 generalize dec (0≤g.nw∧g.nw≤100000)=q5 at H5 ⊢
 generalize dec (0≤g.dr∧g.dr≤1000000)=q6 at H6 ⊢
 generalize dec (0≤g.sn∧g.sn≤4294967295)=q7 at H7 ⊢
 have G0:Hid (Bx (w.alloc (.cells #[.int .i64 g.ip,.int .i64 g.b,.int .i64 g.gt,.string g.gm,.string g.wm,.int .i64 g.rs,.slice A.x g.ps.length A.xc,.slice A.y g.ros.length A.yc,.slice A.ua g.us.length A.uc,.slice A.sa g.ss.length A.sc,.slice A.fa g.fs.length A.fc,.slice A.ra g.es.length A.rc,.int .i64 g.nx,.slice A.la g.fl.length A.lc,.slice A.ca g.co.length A.cc,.int .i64 g.nw,.int .i64 g.dr,.int .i64 g.sn] 50)) w.heap.size [.int .i64 g.ip,.int .i64 g.b,.int .i64 g.gt,.string g.gm,.string g.wm,.int .i64 g.rs,.slice A.x g.ps.length A.xc,.slice A.y g.ros.length A.yc,.slice A.ua g.us.length A.uc,.slice A.sa g.ss.length A.sc,.slice A.fa g.fs.length A.fc,.slice A.ra g.es.length A.rc,.int .i64 g.nx,.slice A.la g.fl.length A.lc,.slice A.ca g.co.length A.cc,.int .i64 g.nw,.int .i64 g.dr,.int .i64 g.sn]):=Bx.new w #[.int .i64 g.ip,.int .i64 g.b,.int .i64 g.gt,.string g.gm,.string g.wm,.int .i64 g.rs,.slice A.x g.ps.length A.xc,.slice A.y g.ros.length A.yc,.slice A.ua g.us.length A.uc,.slice A.sa g.ss.length A.sc,.slice A.fa g.fs.length A.fc,.slice A.ra g.es.length A.rc,.int .i64 g.nx,.slice A.la g.fl.length A.lc,.slice A.ca g.co.length A.cc,.int .i64 g.nw,.int .i64 g.dr,.int .i64 g.sn] 50
 have X0:Hid (Below w.heap.size w (w.alloc (.cells #[.int .i64 g.ip,.int .i64 g.b,.int .i64 g.gt,.string g.gm,.string g.wm,.int .i64 g.rs,.slice A.x g.ps.length A.xc,.slice A.y g.ros.length A.yc,.slice A.ua g.us.length A.uc,.slice A.sa g.ss.length A.sc,.slice A.fa g.fs.length A.fc,.slice A.ra g.es.length A.rc,.int .i64 g.nx,.slice A.la g.fl.length A.lc,.slice A.ca g.co.length A.cc,.int .i64 g.nw,.int .i64 g.dr,.int .i64 g.sn] 50))):=(Below.refl _ _).alloc (Nat.le_refl _) _
 go_enter Tryz.func66,Tryz.ntmps66
 go_wp2_with fail
 refine (H1.out _ (GR.out.below X0.out)).mono ?_
 rintro e w1 ⟨rfl,bx⟩
 have G1:Hid (Bx w1 w.heap.size [.int .i64 g.ip,.int .i64 g.b,.int .i64 g.gt,.string g.gm,.string g.wm,.int .i64 g.rs,.slice A.x g.ps.length A.xc,.slice A.y g.ros.length A.yc,.slice A.ua g.us.length A.uc,.slice A.sa g.ss.length A.sc,.slice A.fa g.fs.length A.fc,.slice A.ra g.es.length A.rc,.int .i64 g.nx,.slice A.la g.fl.length A.lc,.slice A.ca g.co.length A.cc,.int .i64 g.nw,.int .i64 g.dr,.int .i64 g.sn]):=G0.out.below bx
 have X1:Hid (Below w.heap.size w w1):=X0.out.trans (bx.mono X0.out.size)
 clear bx G0 X0
 cases q1 with
 | false =>
  go_wp2
  go_ret
  exact ⟨rfl,X1.out⟩
 | true =>
  have u13:=G1.out.cell 13 rfl
  go_wp2_with fail
  refine (H2.out _ (GR.out.below X1.out)).mono ?_
  rintro e w2 ⟨rfl,bx⟩
  clear u13
  have G2:Hid (Bx w2 w.heap.size [.int .i64 g.ip,.int .i64 g.b,.int .i64 g.gt,.string g.gm,.string g.wm,.int .i64 g.rs,.slice A.x g.ps.length A.xc,.slice A.y g.ros.length A.yc,.slice A.ua g.us.length A.uc,.slice A.sa g.ss.length A.sc,.slice A.fa g.fs.length A.fc,.slice A.ra g.es.length A.rc,.int .i64 g.nx,.slice A.la g.fl.length A.lc,.slice A.ca g.co.length A.cc,.int .i64 g.nw,.int .i64 g.dr,.int .i64 g.sn]):=G1.out.below bx
  have X2:Hid (Below w.heap.size w w2):=X1.out.trans (bx.mono X1.out.size)
  clear bx G1 X1
  cases q2 with
  | false =>
   go_wp2
   go_ret
   exact ⟨rfl,X2.out⟩
  | true =>
   have u0:=G2.out.cell 0 rfl
   have u1:=G2.out.cell 1 rfl
   have u2:=G2.out.cell 2 rfl
   have u3:=G2.out.cell 3 rfl
   have u4:=G2.out.cell 4 rfl
   have u5:=G2.out.cell 5 rfl
   have u6:=G2.out.cell 6 rfl
   have u7:=G2.out.cell 7 rfl
   have u8:=G2.out.cell 8 rfl
   have u9:=G2.out.cell 9 rfl
   have u10:=G2.out.cell 10 rfl
   have u11:=G2.out.cell 11 rfl
   have u12:=G2.out.cell 12 rfl
   have u13:=G2.out.cell 13 rfl
   have u14:=G2.out.cell 14 rfl
   have u15:=G2.out.cell 15 rfl
   have u16:=G2.out.cell 16 rfl
   have u17:=G2.out.cell 17 rfl
   go_wp2_with fail
   refine (H3.out _ (GR.out.below X2.out)).mono ?_
   rintro e w3 ⟨rfl,bx⟩
   clear u0
   clear u1
   clear u2
   clear u3
   clear u4
   clear u5
   clear u6
   clear u7
   clear u8
   clear u9
   clear u10
   clear u11
   clear u12
   clear u13
   clear u14
   clear u15
   clear u16
   clear u17
   have G3:Hid (Bx w3 w.heap.size [.int .i64 g.ip,.int .i64 g.b,.int .i64 g.gt,.string g.gm,.string g.wm,.int .i64 g.rs,.slice A.x g.ps.length A.xc,.slice A.y g.ros.length A.yc,.slice A.ua g.us.length A.uc,.slice A.sa g.ss.length A.sc,.slice A.fa g.fs.length A.fc,.slice A.ra g.es.length A.rc,.int .i64 g.nx,.slice A.la g.fl.length A.lc,.slice A.ca g.co.length A.cc,.int .i64 g.nw,.int .i64 g.dr,.int .i64 g.sn]):=G2.out.below bx
   have X3:Hid (Below w.heap.size w w3):=X2.out.trans (bx.mono X2.out.size)
   clear bx G2 X2
   cases q3 with
   | false =>
    go_wp2
    go_ret
    exact ⟨rfl,X3.out⟩
   | true =>
    have u14:=G3.out.cell 14 rfl
    go_wp2_with fail
    refine (H4.out _ (GR.out.below X3.out)).mono ?_
    rintro e w4 ⟨rfl,bx⟩
    clear u14
    have G4:Hid (Bx w4 w.heap.size [.int .i64 g.ip,.int .i64 g.b,.int .i64 g.gt,.string g.gm,.string g.wm,.int .i64 g.rs,.slice A.x g.ps.length A.xc,.slice A.y g.ros.length A.yc,.slice A.ua g.us.length A.uc,.slice A.sa g.ss.length A.sc,.slice A.fa g.fs.length A.fc,.slice A.ra g.es.length A.rc,.int .i64 g.nx,.slice A.la g.fl.length A.lc,.slice A.ca g.co.length A.cc,.int .i64 g.nw,.int .i64 g.dr,.int .i64 g.sn]):=G3.out.below bx
    have X4:Hid (Below w.heap.size w w4):=X3.out.trans (bx.mono X3.out.size)
    clear bx G3 X3
    cases q4 with
    | false =>
     go_wp2
     go_ret
     exact ⟨rfl,X4.out⟩
    | true =>
     have u15:=G4.out.cell 15 rfl
     go_wp2_with fail
     refine (H5.out _ (GR.out.below X4.out)).mono ?_
     rintro e w5 ⟨rfl,bx⟩
     clear u15
     have G5:Hid (Bx w5 w.heap.size [.int .i64 g.ip,.int .i64 g.b,.int .i64 g.gt,.string g.gm,.string g.wm,.int .i64 g.rs,.slice A.x g.ps.length A.xc,.slice A.y g.ros.length A.yc,.slice A.ua g.us.length A.uc,.slice A.sa g.ss.length A.sc,.slice A.fa g.fs.length A.fc,.slice A.ra g.es.length A.rc,.int .i64 g.nx,.slice A.la g.fl.length A.lc,.slice A.ca g.co.length A.cc,.int .i64 g.nw,.int .i64 g.dr,.int .i64 g.sn]):=G4.out.below bx
     have X5:Hid (Below w.heap.size w w5):=X4.out.trans (bx.mono X4.out.size)
     clear bx G4 X4
     cases q5 with
     | false =>
      go_wp2
      go_ret
      exact ⟨rfl,X5.out⟩
     | true =>
      have u16:=G5.out.cell 16 rfl
      go_wp2_with fail
      refine (H6.out _ (GR.out.below X5.out)).mono ?_
      rintro e w6 ⟨rfl,bx⟩
      clear u16
      have G6:Hid (Bx w6 w.heap.size [.int .i64 g.ip,.int .i64 g.b,.int .i64 g.gt,.string g.gm,.string g.wm,.int .i64 g.rs,.slice A.x g.ps.length A.xc,.slice A.y g.ros.length A.yc,.slice A.ua g.us.length A.uc,.slice A.sa g.ss.length A.sc,.slice A.fa g.fs.length A.fc,.slice A.ra g.es.length A.rc,.int .i64 g.nx,.slice A.la g.fl.length A.lc,.slice A.ca g.co.length A.cc,.int .i64 g.nw,.int .i64 g.dr,.int .i64 g.sn]):=G5.out.below bx
      have X6:Hid (Below w.heap.size w w6):=X5.out.trans (bx.mono X5.out.size)
      clear bx G5 X5
      cases q6 with
      | false =>
       go_wp2
       go_ret
       exact ⟨rfl,X6.out⟩
      | true =>
       have u17:=G6.out.cell 17 rfl
       go_wp2_with fail
       refine (H7.out _ (GR.out.below X6.out)).mono ?_
       rintro e w7 ⟨rfl,bx⟩
       clear u17
       have G7:Hid (Bx w7 w.heap.size [.int .i64 g.ip,.int .i64 g.b,.int .i64 g.gt,.string g.gm,.string g.wm,.int .i64 g.rs,.slice A.x g.ps.length A.xc,.slice A.y g.ros.length A.yc,.slice A.ua g.us.length A.uc,.slice A.sa g.ss.length A.sc,.slice A.fa g.fs.length A.fc,.slice A.ra g.es.length A.rc,.int .i64 g.nx,.slice A.la g.fl.length A.lc,.slice A.ca g.co.length A.cc,.int .i64 g.nw,.int .i64 g.dr,.int .i64 g.sn]):=G6.out.below bx
       have X7:Hid (Below w.heap.size w w7):=X6.out.trans (bx.mono X6.out.size)
       clear bx G6 X6
       cases q7 with
       | false =>
        go_wp2
        go_ret
        exact ⟨rfl,X7.out⟩
       | true =>
        go_wp2
        go_ret
        exact ⟨rfl,X7.out⟩
set_option maxHeartbeats 2000000 in
theorem l08Role_any (ip b gt:Int) (gm wm:ByteArray) (rs:Int) (x y:Option Addr) (lenx capx leny capy:Nat) (ros:List RoleV) (nm2:ByteArray) (w:World) (h:Rw (RoR 0) 5 w y ros) (hl:ros.length=leny) (hl9:leny≤1048576) :
  Calls Tryz.prog 129 #[.agg #[.int .i64 ip,.int .i64 b,.int .i64 gt,.string gm,.string wm,.int .i64 rs,.slice x lenx capx,.slice y leny capy],.string nm2] w fun e w'=>e=.returned (.int .i64 (roI ros nm2))∧Grw w w':=by
 have RY:Hid (Rw (RoR 0) 5 w y ros):=h
 clear h
 go_enter Tryz.func129,Tryz.ntmps129
 go_wp2
 go_loopw [5] (fun u wr=>∃ k:Nat,k≤leny∧u=.int .i64 k∧Hid ((ros.take k).find? (rfP nm2)=none)∧Hid (Grw w wr∧wr.cell? ⟨w.heap.size,7,none⟩=some (.slice y leny capy))) (fun u _=>leny - (intOf u).toNat)
 case atStart=>exact ⟨0,Nat.zero_le _,rfl,rfl,(Grw.refl _).alloc _,by simp [go_sem]⟩
 case round =>
  obtain ⟨k,hk,rfl,HO,HG⟩:=hrel
  have gs:=HG.out.2
  by_cases hlt:k<leny
  ·obtain ⟨z,hx⟩:=at_of hl hlt
   obtain ⟨bk,off,vs,rfl,hb,hvl,hR,hc⟩:=RY.out.at (RoR.kp 0) HG.out.1.below hx
   have HY:Hid (rfP nm2 z=true→roI ros nm2=k):=fun h=>by unfold roI;rw [bfind_yes hx HO.out h,bfind_at hx HO.out h]
   have HN:Hid (rfP nm2 z=false→(ros.take (k+1)).find? (rfP nm2)=none):=fun h=>bfind_no hx HO.out h
   have HX:Hid (ros[k]?=some z):=hx
   clear hx
   obtain ⟨nm,rrs,rq,rm,ri⟩:=z
   obtain ⟨ra,rc,rfl,-⟩:=hR
   have q0:wr.cell? ⟨bk,off+k * 5,none⟩=some (.string nm):=hc 0 _ rfl
   have hltz:(k:Int)<(leny:Int):=by omega
   have he:rfP nm2 ⟨nm,rrs,rq,rm,ri⟩=(nm.toList == nm2.toList):=rfl
   rw [he] at HY HN
   obtain ⟨u,hu⟩:∃ u,(nm.toList == nm2.toList)=u:=⟨_,rfl⟩
   rw [hu] at HY HN
   clear hc hvl he
   cases u with
   | false =>
    have HN':Hid ((ros.take (k+1)).find? (rfP nm2)=none):=HN.out rfl
    clear HY HN
    go_wp2
    go_roundw
    case rel=>exact ⟨k+1,by omega,by go_num,HN',HG⟩
    case measure=>simp [intOf];omega
   | true =>
    have HY':Hid (roI ros nm2=k):=HY.out rfl
    clear HY HN
    go_wp2
    go_ret
    exact ⟨by rw [HY'.out];rfl,HG.out.1⟩
  ·obtain rfl:k=leny:=by omega
   have hd:Hid (roI ros nm2=-1):=by show roI ros nm2=-1;unfold roI;rw [bfind_end hl HO.out]
   go_wp2
   go_ret
   exact ⟨by rw [hd.out];rfl,HG.out.1⟩
set_option maxHeartbeats 8000000 in
theorem l08Users_any (ip b gt:Int) (gm wm:ByteArray) (rs:Int) (x y:Option Addr) (lenx capx leny capy:Nat) (ros:List RoleV) (a:Option Addr) (len cap:Nat) (us:List UserV) (w:World) (h:Rw (RoR 0) 5 w y ros) (hl2:ros.length=leny) (hu:Rw UsR 6 w a us) (hl:us.length=len) (hsz:SzU us) (hl9:leny≤1048576) (hl8:len≤1048576) :
  Calls Tryz.prog 73 #[.agg #[.int .i64 ip,.int .i64 b,.int .i64 gt,.string gm,.string wm,.int .i64 rs,.slice x lenx capx,.slice y leny capy],.slice a len cap] w fun e w'=>e=.returned (.bool (usB ros us))∧Grw w w':=by
 have RY:Hid (Rw (RoR 0) 5 w y ros):=h
 have RW:Hid (Rw UsR 6 w a us):=hu
 have SZ:Hid (SzU us):=hsz
 clear h hu hsz
 go_enter Tryz.func73,Tryz.ntmps73
 go_wp2
 go_loopw [5] (fun u wr=>∃ k:Nat,k≤len∧u=.int .i64 k∧Hid ((List.range k).all (risAt (uB ros) ltU us)=true)∧Hid (Grw w wr∧wr.cell? ⟨w.heap.size,0,none⟩=some (.int .i64 ip)∧wr.cell? ⟨w.heap.size,1,none⟩=some (.int .i64 b)∧wr.cell? ⟨w.heap.size,2,none⟩=some (.int .i64 gt)∧wr.cell? ⟨w.heap.size,3,none⟩=some (.string gm)∧wr.cell? ⟨w.heap.size,4,none⟩=some (.string wm)∧wr.cell? ⟨w.heap.size,5,none⟩=some (.int .i64 rs)∧wr.cell? ⟨w.heap.size,6,none⟩=some (.slice x lenx capx)∧wr.cell? ⟨w.heap.size,7,none⟩=some (.slice y leny capy))) (fun u _=>len - (intOf u).toNat)
 case atStart=>exact ⟨0,Nat.zero_le _,rfl,rfl,(Grw.refl _).alloc _,by simp [go_sem],by simp [go_sem],by simp [go_sem],by simp [go_sem],by simp [go_sem],by simp [go_sem],by simp [go_sem],by simp [go_sem]⟩
 case round =>
  obtain ⟨k,hk,rfl,HO,HG⟩:=hrel
  obtain ⟨G0,d0,d1,d2,d3,d4,d5,d6,d7⟩:=HG.out
  have GG:=G0.below
  by_cases hlt:k<len
  ·obtain ⟨z,hx⟩:=at_of hl hlt
   obtain ⟨bk,off,vs,rfl,hb,hvl,hR,hc⟩:=RW.out.at UsR.kp GG hx
   have hsz:=SZ.out _ (List.mem_of_getElem? hx)
   have HS:Hid (risAt (uB ros) ltU us k=true→(List.range (k+1)).all (risAt (uB ros) ltU us)=true):=fun h=>ris_step HO.out h
   have HF:Hid (risAt (uB ros) ltU us k=false→risB (uB ros) ltU us=false):=fun h=>ris_no (by omega) h
   obtain ⟨nm,sa,ha,ro,bl,lg⟩:=z
   obtain ⟨rfl,-⟩:=hR
   have q0:wr.cell? ⟨bk,off+k * 6,none⟩=some (.string nm):=hc 0 _ rfl
   have q1:wr.cell? ⟨bk,off+k * 6+1,none⟩=some (.string sa):=hc 1 _ rfl
   have q2:wr.cell? ⟨bk,off+k * 6+2,none⟩=some (.string ha):=hc 2 _ rfl
   have q3:wr.cell? ⟨bk,off+k * 6+3,none⟩=some (.string ro):=hc 3 _ rfl
   have q4:wr.cell? ⟨bk,off+k * 6+4,none⟩=some (.int .i64 bl):=hc 4 _ rfl
   have q5:wr.cell? ⟨bk,off+k * 6+5,none⟩=some (.int .i64 lg):=hc 5 _ rfl
   have HN:Hid (∀ w,Calls Tryz.prog 128 #[.string nm] w fun e w'=>e=.returned (.bool (snB nm))∧Grw w w'):=fun w=>(l08Name_any nm w hsz.1).mono fun e w' h=>⟨h.1,h.2 ▸ Grw.refl _⟩
   have HR:Hid (∀ w,Rw (RoR 0) 5 w y ros→Calls Tryz.prog 129 #[.agg #[.int .i64 ip,.int .i64 b,.int .i64 gt,.string gm,.string wm,.int .i64 rs,.slice x lenx capx,.slice y leny capy],.string ro] w fun e w'=>e=.returned (.int .i64 (roI ros ro))∧Grw w w'):=fun w h=>l08Role_any ip b gt gm wm rs x y lenx capx leny capy ros ro w h hl2 hl9
   have HB:Hid (∀ w,Calls Tryz.prog 74 #[.int .i64 bl,.int .i64 0,.int .i64 1000000] w fun e w'=>e=.returned (.bool (dec (0≤bl∧bl≤1000000)))∧Grw w w'):=fun w=>(specIn_any bl 0 1000000 w).mono fun e w' h=>⟨h.1,h.2 ▸ Grw.refl _⟩
   have HL:Hid (∀ w,Calls Tryz.prog 74 #[.int .i64 lg,.int .i64 0,.int .i64 1000] w fun e w'=>e=.returned (.bool (dec (0≤lg∧lg≤1000)))∧Grw w w'):=fun w=>(specIn_any lg 0 1000 w).mono fun e w' h=>⟨h.1,h.2 ▸ Grw.refl _⟩
   have hltz:(k:Int)<(len:Int):=by omega
   have hss:(sa.size:Int)≤1048576:=by have:=hsz.2.1;dsimp only at this;omega
   have hhs:(ha.size:Int)≤1048576:=by have:=hsz.2.2.1;dsimp only at this;omega
   have eu:uB ros ⟨nm,sa,ha,ro,bl,lg⟩=(snB nm && (dec (sa.size≤40) && (dec (ha.size=32) && (roH ros ro && (dec (0≤bl∧bl≤1000000) && dec (0≤lg∧lg≤1000)))))):=rfl
   by_cases hk0:k=0
   ·have eo:risAt (uB ros) ltU us k=uB ros ⟨nm,sa,ha,ro,bl,lg⟩:=by subst hk0;exact risAt_zero hx
    have hkd:decide (0<k)=false:=decide_eq_false (by omega)
    clear hk0
    rw [eo,eu] at HS HF
    generalize snB nm=q1 at HN HS HF
    obtain ⟨q4,hq4⟩:∃ q,roH ros ro=q:=⟨_,rfl⟩
    obtain ⟨r,hr⟩:∃ r,roI ros ro=r:=⟨_,rfl⟩
    have hrr:(q4=false∧decide (r<0)=true) ∨ (q4=true∧decide (r<0)=false):=by
     rw [← hq4,← hr]
     unfold roH roI
     cases ros.find? (rfP ro) with
     | none=>left;exact ⟨rfl,by simp⟩
     | some v=>right;exact ⟨rfl,by first | (simp;done) | (simp;omega)⟩
    rw [hq4] at HS HF
    rw [hr] at HR
    clear hq4 hr
    generalize dec (0≤bl∧bl≤1000000)=q5 at HB HS HF
    generalize dec (0≤lg∧lg≤1000)=q6 at HL HS HF
    clear hc hvl hx eo eu
    have HA:Hid (Grw w (wr.alloc (.cells #[.string nm,.string sa,.string ha,.string ro,.int .i64 bl,.int .i64 lg] 144))):=G0.alloc _
    have hmix:Tryz.prog.follows .mixedOrders=true:=by kernel_rfl
    have y0:∀ n os,(grow (World.drewN (wr.alloc (.cells #[.string nm,.string sa,.string ha,.string ro,.int .i64 bl,.int .i64 lg] 144)) n) os).cell? ⟨wr.heap.size,0,none⟩=some (.string nm):=fun n os=>cell_grown (by simp) (by simp) n os
    have y1:∀ n os,(grow (World.drewN (wr.alloc (.cells #[.string nm,.string sa,.string ha,.string ro,.int .i64 bl,.int .i64 lg] 144)) n) os).cell? ⟨wr.heap.size,1,none⟩=some (.string sa):=fun n os=>cell_grown (by simp) (by simp) n os
    have y2:∀ n os,(grow (World.drewN (wr.alloc (.cells #[.string nm,.string sa,.string ha,.string ro,.int .i64 bl,.int .i64 lg] 144)) n) os).cell? ⟨wr.heap.size,2,none⟩=some (.string ha):=fun n os=>cell_grown (by simp) (by simp) n os
    have y3:∀ n os,(grow (World.drewN (wr.alloc (.cells #[.string nm,.string sa,.string ha,.string ro,.int .i64 bl,.int .i64 lg] 144)) n) os).cell? ⟨wr.heap.size,3,none⟩=some (.string ro):=fun n os=>cell_grown (by simp) (by simp) n os
    have y4:∀ n os,(grow (World.drewN (wr.alloc (.cells #[.string nm,.string sa,.string ha,.string ro,.int .i64 bl,.int .i64 lg] 144)) n) os).cell? ⟨wr.heap.size,4,none⟩=some (.int .i64 bl):=fun n os=>cell_grown (by simp) (by simp) n os
    have y5:∀ n os,(grow (World.drewN (wr.alloc (.cells #[.string nm,.string sa,.string ha,.string ro,.int .i64 bl,.int .i64 lg] 144)) n) os).cell? ⟨wr.heap.size,5,none⟩=some (.int .i64 lg):=fun n os=>cell_grown (by simp) (by simp) n os
    have e0:∀ n os,(grow (World.drewN (wr.alloc (.cells #[.string nm,.string sa,.string ha,.string ro,.int .i64 bl,.int .i64 lg] 144)) n) os).cell? ⟨w.heap.size,0,none⟩=some (.int .i64 ip):=fun n os=>(((Grw.refl wr).alloc _).trans ⟨n,os,rfl⟩).keep d0
    have e1:∀ n os,(grow (World.drewN (wr.alloc (.cells #[.string nm,.string sa,.string ha,.string ro,.int .i64 bl,.int .i64 lg] 144)) n) os).cell? ⟨w.heap.size,1,none⟩=some (.int .i64 b):=fun n os=>(((Grw.refl wr).alloc _).trans ⟨n,os,rfl⟩).keep d1
    have e2:∀ n os,(grow (World.drewN (wr.alloc (.cells #[.string nm,.string sa,.string ha,.string ro,.int .i64 bl,.int .i64 lg] 144)) n) os).cell? ⟨w.heap.size,2,none⟩=some (.int .i64 gt):=fun n os=>(((Grw.refl wr).alloc _).trans ⟨n,os,rfl⟩).keep d2
    have e3:∀ n os,(grow (World.drewN (wr.alloc (.cells #[.string nm,.string sa,.string ha,.string ro,.int .i64 bl,.int .i64 lg] 144)) n) os).cell? ⟨w.heap.size,3,none⟩=some (.string gm):=fun n os=>(((Grw.refl wr).alloc _).trans ⟨n,os,rfl⟩).keep d3
    have e4:∀ n os,(grow (World.drewN (wr.alloc (.cells #[.string nm,.string sa,.string ha,.string ro,.int .i64 bl,.int .i64 lg] 144)) n) os).cell? ⟨w.heap.size,4,none⟩=some (.string wm):=fun n os=>(((Grw.refl wr).alloc _).trans ⟨n,os,rfl⟩).keep d4
    have e5:∀ n os,(grow (World.drewN (wr.alloc (.cells #[.string nm,.string sa,.string ha,.string ro,.int .i64 bl,.int .i64 lg] 144)) n) os).cell? ⟨w.heap.size,5,none⟩=some (.int .i64 rs):=fun n os=>(((Grw.refl wr).alloc _).trans ⟨n,os,rfl⟩).keep d5
    have e6:∀ n os,(grow (World.drewN (wr.alloc (.cells #[.string nm,.string sa,.string ha,.string ro,.int .i64 bl,.int .i64 lg] 144)) n) os).cell? ⟨w.heap.size,6,none⟩=some (.slice x lenx capx):=fun n os=>(((Grw.refl wr).alloc _).trans ⟨n,os,rfl⟩).keep d6
    have e7:∀ n os,(grow (World.drewN (wr.alloc (.cells #[.string nm,.string sa,.string ha,.string ro,.int .i64 bl,.int .i64 lg] 144)) n) os).cell? ⟨w.heap.size,7,none⟩=some (.slice y leny capy):=fun n os=>(((Grw.refl wr).alloc _).trans ⟨n,os,rfl⟩).keep d7
    have YR:Hid (∀ n os,Rw (RoR 0) 5 (grow (World.drewN (wr.alloc (.cells #[.string nm,.string sa,.string ha,.string ro,.int .i64 bl,.int .i64 lg] 144)) n) os) y ros):=fun n os=>RY.out.keep (RoR.kp 0) (HA.out.trans ⟨n,os,rfl⟩).below
    cases q1 with
    | false =>
     have hd:Hid (risB (uB ros) ltU us=false):=HF.out (by simp)
     have hv:Hid (usB ros us=false):=by show usB ros us=false;unfold usB;rw [hd.out,Bool.and_false]
     go_wp2_with fail
     refine wp_region_quiet_grown (by assumption) (by kernel_rfl) ?_
     repeat (go_big_quiet_step (first | fail | (first | (go_at_call 128;exact Calls.grown_of (HN.out _)) | (go_at_call 129;exact Calls.grown_of (HR.out _ (YR.out _ _))) | (go_at_call 74;with_reducible exact Calls.grown_of (HB.out _)) | (go_at_call 74;with_reducible exact Calls.grown_of (HL.out _)))))
     refine wpQuiet_nil ?_
     intro _ hw'
     obtain ⟨⟨nq,osq⟩,hw''⟩:=hw'
     subst hw''
     have HG1:Hid (Grw w _):=HA.out.trans ⟨nq,osq,rfl⟩
     clear y0 y1 y2 y3 y4 y5 e0 e1 e2 e3 e4 e5 e6 e7
     go_wp2
     go_ret
     exact ⟨by rw [hv.out];rfl,HG1.out⟩
    | true =>
     by_cases hsa:sa.size≤40
     rotate_left
     ·rw [dec_n hsa] at HS HF
      have hsz1:decide ((40:Int)<(sa.size:Int))=true:=decide_eq_true (by omega)
      have hd:Hid (risB (uB ros) ltU us=false):=HF.out (by simp)
      have hv:Hid (usB ros us=false):=by show usB ros us=false;unfold usB;rw [hd.out,Bool.and_false]
      go_wp2_with fail
      refine wp_region_quiet_grown (by assumption) (by kernel_rfl) ?_
      repeat (go_big_quiet_step (first | fail | (first | (go_at_call 128;exact Calls.grown_of (HN.out _)) | (go_at_call 129;exact Calls.grown_of (HR.out _ (YR.out _ _))) | (go_at_call 74;with_reducible exact Calls.grown_of (HB.out _)) | (go_at_call 74;with_reducible exact Calls.grown_of (HL.out _)))))
      refine wpQuiet_nil ?_
      intro _ hw'
      obtain ⟨⟨nq,osq⟩,hw''⟩:=hw'
      subst hw''
      have HG1:Hid (Grw w _):=HA.out.trans ⟨nq,osq,rfl⟩
      clear y0 y1 y2 y3 y4 y5 e0 e1 e2 e3 e4 e5 e6 e7
      go_wp2
      go_ret
      exact ⟨by rw [hv.out];rfl,HG1.out⟩
     have hsz1:decide ((40:Int)<(sa.size:Int))=false:=decide_eq_false (by omega)
     rw [dec_y hsa] at HS HF
     by_cases hha:ha.size=32
     rotate_left
     ·rw [dec_n hha] at HS HF
      have hsz2:((ha.size:Int) != 32)=true:=by simp;omega
      have hd:Hid (risB (uB ros) ltU us=false):=HF.out (by simp)
      have hv:Hid (usB ros us=false):=by show usB ros us=false;unfold usB;rw [hd.out,Bool.and_false]
      go_wp2_with fail
      refine wp_region_quiet_grown (by assumption) (by kernel_rfl) ?_
      repeat (go_big_quiet_step (first | fail | (first | (go_at_call 128;exact Calls.grown_of (HN.out _)) | (go_at_call 129;exact Calls.grown_of (HR.out _ (YR.out _ _))) | (go_at_call 74;with_reducible exact Calls.grown_of (HB.out _)) | (go_at_call 74;with_reducible exact Calls.grown_of (HL.out _)))))
      refine wpQuiet_nil ?_
      intro _ hw'
      obtain ⟨⟨nq,osq⟩,hw''⟩:=hw'
      subst hw''
      have HG1:Hid (Grw w _):=HA.out.trans ⟨nq,osq,rfl⟩
      clear y0 y1 y2 y3 y4 y5 e0 e1 e2 e3 e4 e5 e6 e7
      go_wp2
      go_ret
      exact ⟨by rw [hv.out];rfl,HG1.out⟩
     have hsz2:((ha.size:Int) != 32)=false:=by simp;omega
     rw [dec_y hha] at HS HF
     rcases hrr with ⟨rfl,hr0⟩ | ⟨rfl,hr0⟩
     ·have hd:Hid (risB (uB ros) ltU us=false):=HF.out (by simp)
      have hv:Hid (usB ros us=false):=by show usB ros us=false;unfold usB;rw [hd.out,Bool.and_false]
      go_wp2_with fail
      refine wp_region_quiet_grown (by assumption) (by kernel_rfl) ?_
      repeat (go_big_quiet_step (first | fail | (first | (go_at_call 128;exact Calls.grown_of (HN.out _)) | (go_at_call 129;exact Calls.grown_of (HR.out _ (YR.out _ _))) | (go_at_call 74;with_reducible exact Calls.grown_of (HB.out _)) | (go_at_call 74;with_reducible exact Calls.grown_of (HL.out _)))))
      refine wpQuiet_nil ?_
      intro _ hw'
      obtain ⟨⟨nq,osq⟩,hw''⟩:=hw'
      subst hw''
      have HG1:Hid (Grw w _):=HA.out.trans ⟨nq,osq,rfl⟩
      clear y0 y1 y2 y3 y4 y5 e0 e1 e2 e3 e4 e5 e6 e7
      go_wp2
      go_ret
      exact ⟨by rw [hv.out];rfl,HG1.out⟩
     ·cases q5 with
      | false =>
       have hd:Hid (risB (uB ros) ltU us=false):=HF.out (by simp)
       have hv:Hid (usB ros us=false):=by show usB ros us=false;unfold usB;rw [hd.out,Bool.and_false]
       go_wp2_with fail
       refine wp_region_quiet_grown (by assumption) (by kernel_rfl) ?_
       repeat (go_big_quiet_step (first | fail | (first | (go_at_call 128;exact Calls.grown_of (HN.out _)) | (go_at_call 129;exact Calls.grown_of (HR.out _ (YR.out _ _))) | (go_at_call 74;with_reducible exact Calls.grown_of (HB.out _)) | (go_at_call 74;with_reducible exact Calls.grown_of (HL.out _)))))
       refine wpQuiet_nil ?_
       intro _ hw'
       obtain ⟨⟨nq,osq⟩,hw''⟩:=hw'
       subst hw''
       have HG1:Hid (Grw w _):=HA.out.trans ⟨nq,osq,rfl⟩
       clear y0 y1 y2 y3 y4 y5 e0 e1 e2 e3 e4 e5 e6 e7
       go_wp2
       go_ret
       exact ⟨by rw [hv.out];rfl,HG1.out⟩
      | true =>
       cases q6 with
       | false =>
        have hd:Hid (risB (uB ros) ltU us=false):=HF.out (by simp)
        have hv:Hid (usB ros us=false):=by show usB ros us=false;unfold usB;rw [hd.out,Bool.and_false]
        go_wp2_with fail
        refine wp_region_quiet_grown (by assumption) (by kernel_rfl) ?_
        repeat (go_big_quiet_step (first | fail | (first | (go_at_call 128;exact Calls.grown_of (HN.out _)) | (go_at_call 129;exact Calls.grown_of (HR.out _ (YR.out _ _))) | (go_at_call 74;with_reducible exact Calls.grown_of (HB.out _)) | (go_at_call 74;with_reducible exact Calls.grown_of (HL.out _)))))
        refine wpQuiet_nil ?_
        intro _ hw'
        obtain ⟨⟨nq,osq⟩,hw''⟩:=hw'
        subst hw''
        have HG1:Hid (Grw w _):=HA.out.trans ⟨nq,osq,rfl⟩
        clear y0 y1 y2 y3 y4 y5 e0 e1 e2 e3 e4 e5 e6 e7
        go_wp2
        go_ret
        exact ⟨by rw [hv.out];rfl,HG1.out⟩
       | true =>
        have HS':Hid ((List.range (k+1)).all (risAt (uB ros) ltU us)=true):=HS.out (by simp)
        clear HS HF
        go_wp2_with fail
        refine wp_region_quiet_grown (by assumption) (by kernel_rfl) ?_
        repeat (go_big_quiet_step (first | fail | (first | (go_at_call 128;exact Calls.grown_of (HN.out _)) | (go_at_call 129;exact Calls.grown_of (HR.out _ (YR.out _ _))) | (go_at_call 74;with_reducible exact Calls.grown_of (HB.out _)) | (go_at_call 74;with_reducible exact Calls.grown_of (HL.out _)))))
        refine wpQuiet_nil ?_
        intro _ hw'
        obtain ⟨⟨nq,osq⟩,hw''⟩:=hw'
        subst hw''
        have HG1:Hid (Grw w (grow (World.drewN (wr.alloc (.cells #[.string nm,.string sa,.string ha,.string ro,.int .i64 bl,.int .i64 lg] 144)) nq) osq)∧(grow (World.drewN (wr.alloc (.cells #[.string nm,.string sa,.string ha,.string ro,.int .i64 bl,.int .i64 lg] 144)) nq) osq).cell? ⟨w.heap.size,0,none⟩=some (.int .i64 ip)∧(grow (World.drewN (wr.alloc (.cells #[.string nm,.string sa,.string ha,.string ro,.int .i64 bl,.int .i64 lg] 144)) nq) osq).cell? ⟨w.heap.size,1,none⟩=some (.int .i64 b)∧(grow (World.drewN (wr.alloc (.cells #[.string nm,.string sa,.string ha,.string ro,.int .i64 bl,.int .i64 lg] 144)) nq) osq).cell? ⟨w.heap.size,2,none⟩=some (.int .i64 gt)∧(grow (World.drewN (wr.alloc (.cells #[.string nm,.string sa,.string ha,.string ro,.int .i64 bl,.int .i64 lg] 144)) nq) osq).cell? ⟨w.heap.size,3,none⟩=some (.string gm)∧(grow (World.drewN (wr.alloc (.cells #[.string nm,.string sa,.string ha,.string ro,.int .i64 bl,.int .i64 lg] 144)) nq) osq).cell? ⟨w.heap.size,4,none⟩=some (.string wm)∧(grow (World.drewN (wr.alloc (.cells #[.string nm,.string sa,.string ha,.string ro,.int .i64 bl,.int .i64 lg] 144)) nq) osq).cell? ⟨w.heap.size,5,none⟩=some (.int .i64 rs)∧(grow (World.drewN (wr.alloc (.cells #[.string nm,.string sa,.string ha,.string ro,.int .i64 bl,.int .i64 lg] 144)) nq) osq).cell? ⟨w.heap.size,6,none⟩=some (.slice x lenx capx)∧(grow (World.drewN (wr.alloc (.cells #[.string nm,.string sa,.string ha,.string ro,.int .i64 bl,.int .i64 lg] 144)) nq) osq).cell? ⟨w.heap.size,7,none⟩=some (.slice y leny capy)):=⟨HA.out.trans ⟨nq,osq,rfl⟩,e0 nq osq,e1 nq osq,e2 nq osq,e3 nq osq,e4 nq osq,e5 nq osq,e6 nq osq,e7 nq osq⟩
        clear y0 y1 y2 y3 y4 y5 e0 e1 e2 e3 e4 e5 e6 e7
        go_wp2
        go_roundw
        case rel=>exact ⟨k+1,by omega,by go_num,HS',HG1⟩
        case measure=>simp [intOf];omega
   ·obtain ⟨j,hkj⟩:∃ j,k=j+1:=⟨k - 1,by omega⟩
    obtain ⟨z',hx'⟩:=at_of (k:=j) hl (by omega)
    obtain ⟨b',off',vs',e',hb',hvl',hR',hc'⟩:=RW.out.at UsR.kp GG hx'
    cases e'
    obtain ⟨nm',sa',ha',ro',bl',lg'⟩:=z'
    obtain ⟨rfl,-⟩:=hR'
    have p0:wr.cell? ⟨bk,off+j * 6,none⟩=some (.string nm'):=hc' 0 _ rfl
    obtain ⟨lt,hlt2⟩:∃ lt,Op.bytesLess nm'.toList nm.toList=lt:=⟨_,rfl⟩
    have eo:risAt (uB ros) ltU us k=(uB ros ⟨nm,sa,ha,ro,bl,lg⟩ && lt):=by subst hkj;rw [← hlt2];exact risAt_succ hx hx'
    have hkd:decide (0<k)=true:=decide_eq_true (by omega)
    have hj:(k:Int) - 1=(j:Int):=by omega
    have hjl:(j:Int)<(len:Int):=by omega
    clear hk0 hkj
    rw [eo,eu] at HS HF
    generalize snB nm=q1 at HN HS HF
    obtain ⟨q4,hq4⟩:∃ q,roH ros ro=q:=⟨_,rfl⟩
    obtain ⟨r,hr⟩:∃ r,roI ros ro=r:=⟨_,rfl⟩
    have hrr:(q4=false∧decide (r<0)=true) ∨ (q4=true∧decide (r<0)=false):=by
     rw [← hq4,← hr]
     unfold roH roI
     cases ros.find? (rfP ro) with
     | none=>left;exact ⟨rfl,by simp⟩
     | some v=>right;exact ⟨rfl,by first | (simp;done) | (simp;omega)⟩
    rw [hq4] at HS HF
    rw [hr] at HR
    clear hq4 hr
    generalize dec (0≤bl∧bl≤1000000)=q5 at HB HS HF
    generalize dec (0≤lg∧lg≤1000)=q6 at HL HS HF
    clear hc hvl hx eo eu hc' hvl' hx'
    have HA:Hid (Grw w (wr.alloc (.cells #[.string nm,.string sa,.string ha,.string ro,.int .i64 bl,.int .i64 lg] 144))):=G0.alloc _
    have hmix:Tryz.prog.follows .mixedOrders=true:=by kernel_rfl
    have y0:∀ n os,(grow (World.drewN (wr.alloc (.cells #[.string nm,.string sa,.string ha,.string ro,.int .i64 bl,.int .i64 lg] 144)) n) os).cell? ⟨wr.heap.size,0,none⟩=some (.string nm):=fun n os=>cell_grown (by simp) (by simp) n os
    have y1:∀ n os,(grow (World.drewN (wr.alloc (.cells #[.string nm,.string sa,.string ha,.string ro,.int .i64 bl,.int .i64 lg] 144)) n) os).cell? ⟨wr.heap.size,1,none⟩=some (.string sa):=fun n os=>cell_grown (by simp) (by simp) n os
    have y2:∀ n os,(grow (World.drewN (wr.alloc (.cells #[.string nm,.string sa,.string ha,.string ro,.int .i64 bl,.int .i64 lg] 144)) n) os).cell? ⟨wr.heap.size,2,none⟩=some (.string ha):=fun n os=>cell_grown (by simp) (by simp) n os
    have y3:∀ n os,(grow (World.drewN (wr.alloc (.cells #[.string nm,.string sa,.string ha,.string ro,.int .i64 bl,.int .i64 lg] 144)) n) os).cell? ⟨wr.heap.size,3,none⟩=some (.string ro):=fun n os=>cell_grown (by simp) (by simp) n os
    have y4:∀ n os,(grow (World.drewN (wr.alloc (.cells #[.string nm,.string sa,.string ha,.string ro,.int .i64 bl,.int .i64 lg] 144)) n) os).cell? ⟨wr.heap.size,4,none⟩=some (.int .i64 bl):=fun n os=>cell_grown (by simp) (by simp) n os
    have y5:∀ n os,(grow (World.drewN (wr.alloc (.cells #[.string nm,.string sa,.string ha,.string ro,.int .i64 bl,.int .i64 lg] 144)) n) os).cell? ⟨wr.heap.size,5,none⟩=some (.int .i64 lg):=fun n os=>cell_grown (by simp) (by simp) n os
    have e0:∀ n os,(grow (World.drewN (wr.alloc (.cells #[.string nm,.string sa,.string ha,.string ro,.int .i64 bl,.int .i64 lg] 144)) n) os).cell? ⟨w.heap.size,0,none⟩=some (.int .i64 ip):=fun n os=>(((Grw.refl wr).alloc _).trans ⟨n,os,rfl⟩).keep d0
    have e1:∀ n os,(grow (World.drewN (wr.alloc (.cells #[.string nm,.string sa,.string ha,.string ro,.int .i64 bl,.int .i64 lg] 144)) n) os).cell? ⟨w.heap.size,1,none⟩=some (.int .i64 b):=fun n os=>(((Grw.refl wr).alloc _).trans ⟨n,os,rfl⟩).keep d1
    have e2:∀ n os,(grow (World.drewN (wr.alloc (.cells #[.string nm,.string sa,.string ha,.string ro,.int .i64 bl,.int .i64 lg] 144)) n) os).cell? ⟨w.heap.size,2,none⟩=some (.int .i64 gt):=fun n os=>(((Grw.refl wr).alloc _).trans ⟨n,os,rfl⟩).keep d2
    have e3:∀ n os,(grow (World.drewN (wr.alloc (.cells #[.string nm,.string sa,.string ha,.string ro,.int .i64 bl,.int .i64 lg] 144)) n) os).cell? ⟨w.heap.size,3,none⟩=some (.string gm):=fun n os=>(((Grw.refl wr).alloc _).trans ⟨n,os,rfl⟩).keep d3
    have e4:∀ n os,(grow (World.drewN (wr.alloc (.cells #[.string nm,.string sa,.string ha,.string ro,.int .i64 bl,.int .i64 lg] 144)) n) os).cell? ⟨w.heap.size,4,none⟩=some (.string wm):=fun n os=>(((Grw.refl wr).alloc _).trans ⟨n,os,rfl⟩).keep d4
    have e5:∀ n os,(grow (World.drewN (wr.alloc (.cells #[.string nm,.string sa,.string ha,.string ro,.int .i64 bl,.int .i64 lg] 144)) n) os).cell? ⟨w.heap.size,5,none⟩=some (.int .i64 rs):=fun n os=>(((Grw.refl wr).alloc _).trans ⟨n,os,rfl⟩).keep d5
    have e6:∀ n os,(grow (World.drewN (wr.alloc (.cells #[.string nm,.string sa,.string ha,.string ro,.int .i64 bl,.int .i64 lg] 144)) n) os).cell? ⟨w.heap.size,6,none⟩=some (.slice x lenx capx):=fun n os=>(((Grw.refl wr).alloc _).trans ⟨n,os,rfl⟩).keep d6
    have e7:∀ n os,(grow (World.drewN (wr.alloc (.cells #[.string nm,.string sa,.string ha,.string ro,.int .i64 bl,.int .i64 lg] 144)) n) os).cell? ⟨w.heap.size,7,none⟩=some (.slice y leny capy):=fun n os=>(((Grw.refl wr).alloc _).trans ⟨n,os,rfl⟩).keep d7
    have p1:∀ n os,(grow (World.drewN (wr.alloc (.cells #[.string nm,.string sa,.string ha,.string ro,.int .i64 bl,.int .i64 lg] 144)) n) os).cell? ⟨bk,off+j * 6,none⟩=some (.string nm'):=fun n os=>(((Grw.refl wr).alloc _).trans ⟨n,os,rfl⟩).keep p0
    have YR:Hid (∀ n os,Rw (RoR 0) 5 (grow (World.drewN (wr.alloc (.cells #[.string nm,.string sa,.string ha,.string ro,.int .i64 bl,.int .i64 lg] 144)) n) os) y ros):=fun n os=>RY.out.keep (RoR.kp 0) (HA.out.trans ⟨n,os,rfl⟩).below
    cases q1 with
    | false =>
     have hd:Hid (risB (uB ros) ltU us=false):=HF.out (by simp)
     have hv:Hid (usB ros us=false):=by show usB ros us=false;unfold usB;rw [hd.out,Bool.and_false]
     go_wp2_with fail
     refine wp_region_quiet_grown (by assumption) (by kernel_rfl) ?_
     repeat (go_big_quiet_step (first | fail | (first | (go_at_call 128;exact Calls.grown_of (HN.out _)) | (go_at_call 129;exact Calls.grown_of (HR.out _ (YR.out _ _))) | (go_at_call 74;with_reducible exact Calls.grown_of (HB.out _)) | (go_at_call 74;with_reducible exact Calls.grown_of (HL.out _)))))
     refine wpQuiet_nil ?_
     intro _ hw'
     obtain ⟨⟨nq,osq⟩,hw''⟩:=hw'
     subst hw''
     have HG1:Hid (Grw w _):=HA.out.trans ⟨nq,osq,rfl⟩
     clear y0 y1 y2 y3 y4 y5 e0 e1 e2 e3 e4 e5 e6 e7 p1
     go_wp2
     go_ret
     exact ⟨by rw [hv.out];rfl,HG1.out⟩
    | true =>
     by_cases hsa:sa.size≤40
     rotate_left
     ·rw [dec_n hsa] at HS HF
      have hsz1:decide ((40:Int)<(sa.size:Int))=true:=decide_eq_true (by omega)
      have hd:Hid (risB (uB ros) ltU us=false):=HF.out (by simp)
      have hv:Hid (usB ros us=false):=by show usB ros us=false;unfold usB;rw [hd.out,Bool.and_false]
      go_wp2_with fail
      refine wp_region_quiet_grown (by assumption) (by kernel_rfl) ?_
      repeat (go_big_quiet_step (first | fail | (first | (go_at_call 128;exact Calls.grown_of (HN.out _)) | (go_at_call 129;exact Calls.grown_of (HR.out _ (YR.out _ _))) | (go_at_call 74;with_reducible exact Calls.grown_of (HB.out _)) | (go_at_call 74;with_reducible exact Calls.grown_of (HL.out _)))))
      refine wpQuiet_nil ?_
      intro _ hw'
      obtain ⟨⟨nq,osq⟩,hw''⟩:=hw'
      subst hw''
      have HG1:Hid (Grw w _):=HA.out.trans ⟨nq,osq,rfl⟩
      clear y0 y1 y2 y3 y4 y5 e0 e1 e2 e3 e4 e5 e6 e7 p1
      go_wp2
      go_ret
      exact ⟨by rw [hv.out];rfl,HG1.out⟩
     have hsz1:decide ((40:Int)<(sa.size:Int))=false:=decide_eq_false (by omega)
     rw [dec_y hsa] at HS HF
     by_cases hha:ha.size=32
     rotate_left
     ·rw [dec_n hha] at HS HF
      have hsz2:((ha.size:Int) != 32)=true:=by simp;omega
      have hd:Hid (risB (uB ros) ltU us=false):=HF.out (by simp)
      have hv:Hid (usB ros us=false):=by show usB ros us=false;unfold usB;rw [hd.out,Bool.and_false]
      go_wp2_with fail
      refine wp_region_quiet_grown (by assumption) (by kernel_rfl) ?_
      repeat (go_big_quiet_step (first | fail | (first | (go_at_call 128;exact Calls.grown_of (HN.out _)) | (go_at_call 129;exact Calls.grown_of (HR.out _ (YR.out _ _))) | (go_at_call 74;with_reducible exact Calls.grown_of (HB.out _)) | (go_at_call 74;with_reducible exact Calls.grown_of (HL.out _)))))
      refine wpQuiet_nil ?_
      intro _ hw'
      obtain ⟨⟨nq,osq⟩,hw''⟩:=hw'
      subst hw''
      have HG1:Hid (Grw w _):=HA.out.trans ⟨nq,osq,rfl⟩
      clear y0 y1 y2 y3 y4 y5 e0 e1 e2 e3 e4 e5 e6 e7 p1
      go_wp2
      go_ret
      exact ⟨by rw [hv.out];rfl,HG1.out⟩
     have hsz2:((ha.size:Int) != 32)=false:=by simp;omega
     rw [dec_y hha] at HS HF
     rcases hrr with ⟨rfl,hr0⟩ | ⟨rfl,hr0⟩
     ·have hd:Hid (risB (uB ros) ltU us=false):=HF.out (by simp)
      have hv:Hid (usB ros us=false):=by show usB ros us=false;unfold usB;rw [hd.out,Bool.and_false]
      go_wp2_with fail
      refine wp_region_quiet_grown (by assumption) (by kernel_rfl) ?_
      repeat (go_big_quiet_step (first | fail | (first | (go_at_call 128;exact Calls.grown_of (HN.out _)) | (go_at_call 129;exact Calls.grown_of (HR.out _ (YR.out _ _))) | (go_at_call 74;with_reducible exact Calls.grown_of (HB.out _)) | (go_at_call 74;with_reducible exact Calls.grown_of (HL.out _)))))
      refine wpQuiet_nil ?_
      intro _ hw'
      obtain ⟨⟨nq,osq⟩,hw''⟩:=hw'
      subst hw''
      have HG1:Hid (Grw w _):=HA.out.trans ⟨nq,osq,rfl⟩
      clear y0 y1 y2 y3 y4 y5 e0 e1 e2 e3 e4 e5 e6 e7 p1
      go_wp2
      go_ret
      exact ⟨by rw [hv.out];rfl,HG1.out⟩
     ·cases q5 with
      | false =>
       have hd:Hid (risB (uB ros) ltU us=false):=HF.out (by simp)
       have hv:Hid (usB ros us=false):=by show usB ros us=false;unfold usB;rw [hd.out,Bool.and_false]
       go_wp2_with fail
       refine wp_region_quiet_grown (by assumption) (by kernel_rfl) ?_
       repeat (go_big_quiet_step (first | fail | (first | (go_at_call 128;exact Calls.grown_of (HN.out _)) | (go_at_call 129;exact Calls.grown_of (HR.out _ (YR.out _ _))) | (go_at_call 74;with_reducible exact Calls.grown_of (HB.out _)) | (go_at_call 74;with_reducible exact Calls.grown_of (HL.out _)))))
       refine wpQuiet_nil ?_
       intro _ hw'
       obtain ⟨⟨nq,osq⟩,hw''⟩:=hw'
       subst hw''
       have HG1:Hid (Grw w _):=HA.out.trans ⟨nq,osq,rfl⟩
       clear y0 y1 y2 y3 y4 y5 e0 e1 e2 e3 e4 e5 e6 e7 p1
       go_wp2
       go_ret
       exact ⟨by rw [hv.out];rfl,HG1.out⟩
      | true =>
       cases q6 with
       | false =>
        have hd:Hid (risB (uB ros) ltU us=false):=HF.out (by simp)
        have hv:Hid (usB ros us=false):=by show usB ros us=false;unfold usB;rw [hd.out,Bool.and_false]
        go_wp2_with fail
        refine wp_region_quiet_grown (by assumption) (by kernel_rfl) ?_
        repeat (go_big_quiet_step (first | fail | (first | (go_at_call 128;exact Calls.grown_of (HN.out _)) | (go_at_call 129;exact Calls.grown_of (HR.out _ (YR.out _ _))) | (go_at_call 74;with_reducible exact Calls.grown_of (HB.out _)) | (go_at_call 74;with_reducible exact Calls.grown_of (HL.out _)))))
        refine wpQuiet_nil ?_
        intro _ hw'
        obtain ⟨⟨nq,osq⟩,hw''⟩:=hw'
        subst hw''
        have HG1:Hid (Grw w _):=HA.out.trans ⟨nq,osq,rfl⟩
        clear y0 y1 y2 y3 y4 y5 e0 e1 e2 e3 e4 e5 e6 e7 p1
        go_wp2
        go_ret
        exact ⟨by rw [hv.out];rfl,HG1.out⟩
       | true =>
        cases lt with
        | true =>
         have HS':Hid ((List.range (k+1)).all (risAt (uB ros) ltU us)=true):=HS.out (by simp)
         clear HS HF
         go_wp2_with fail
         refine wp_region_quiet_grown (by assumption) (by kernel_rfl) ?_
         repeat (go_big_quiet_step (first | fail | (first | (go_at_call 128;exact Calls.grown_of (HN.out _)) | (go_at_call 129;exact Calls.grown_of (HR.out _ (YR.out _ _))) | (go_at_call 74;with_reducible exact Calls.grown_of (HB.out _)) | (go_at_call 74;with_reducible exact Calls.grown_of (HL.out _)))))
         refine wpQuiet_nil ?_
         intro _ hw'
         obtain ⟨⟨nq,osq⟩,hw''⟩:=hw'
         subst hw''
         have HG1:Hid (Grw w (grow (World.drewN (wr.alloc (.cells #[.string nm,.string sa,.string ha,.string ro,.int .i64 bl,.int .i64 lg] 144)) nq) osq)∧(grow (World.drewN (wr.alloc (.cells #[.string nm,.string sa,.string ha,.string ro,.int .i64 bl,.int .i64 lg] 144)) nq) osq).cell? ⟨w.heap.size,0,none⟩=some (.int .i64 ip)∧(grow (World.drewN (wr.alloc (.cells #[.string nm,.string sa,.string ha,.string ro,.int .i64 bl,.int .i64 lg] 144)) nq) osq).cell? ⟨w.heap.size,1,none⟩=some (.int .i64 b)∧(grow (World.drewN (wr.alloc (.cells #[.string nm,.string sa,.string ha,.string ro,.int .i64 bl,.int .i64 lg] 144)) nq) osq).cell? ⟨w.heap.size,2,none⟩=some (.int .i64 gt)∧(grow (World.drewN (wr.alloc (.cells #[.string nm,.string sa,.string ha,.string ro,.int .i64 bl,.int .i64 lg] 144)) nq) osq).cell? ⟨w.heap.size,3,none⟩=some (.string gm)∧(grow (World.drewN (wr.alloc (.cells #[.string nm,.string sa,.string ha,.string ro,.int .i64 bl,.int .i64 lg] 144)) nq) osq).cell? ⟨w.heap.size,4,none⟩=some (.string wm)∧(grow (World.drewN (wr.alloc (.cells #[.string nm,.string sa,.string ha,.string ro,.int .i64 bl,.int .i64 lg] 144)) nq) osq).cell? ⟨w.heap.size,5,none⟩=some (.int .i64 rs)∧(grow (World.drewN (wr.alloc (.cells #[.string nm,.string sa,.string ha,.string ro,.int .i64 bl,.int .i64 lg] 144)) nq) osq).cell? ⟨w.heap.size,6,none⟩=some (.slice x lenx capx)∧(grow (World.drewN (wr.alloc (.cells #[.string nm,.string sa,.string ha,.string ro,.int .i64 bl,.int .i64 lg] 144)) nq) osq).cell? ⟨w.heap.size,7,none⟩=some (.slice y leny capy)):=⟨HA.out.trans ⟨nq,osq,rfl⟩,e0 nq osq,e1 nq osq,e2 nq osq,e3 nq osq,e4 nq osq,e5 nq osq,e6 nq osq,e7 nq osq⟩
         clear y0 y1 y2 y3 y4 y5 e0 e1 e2 e3 e4 e5 e6 e7 p1
         go_wp2
         go_roundw
         case rel=>exact ⟨k+1,by omega,by go_num,HS',HG1⟩
         case measure=>simp [intOf];omega
        | false =>
         have hd:Hid (risB (uB ros) ltU us=false):=HF.out (by simp)
         have hv:Hid (usB ros us=false):=by show usB ros us=false;unfold usB;rw [hd.out,Bool.and_false]
         go_wp2_with fail
         refine wp_region_quiet_grown (by assumption) (by kernel_rfl) ?_
         repeat (go_big_quiet_step (first | fail | (first | (go_at_call 128;exact Calls.grown_of (HN.out _)) | (go_at_call 129;exact Calls.grown_of (HR.out _ (YR.out _ _))) | (go_at_call 74;with_reducible exact Calls.grown_of (HB.out _)) | (go_at_call 74;with_reducible exact Calls.grown_of (HL.out _)))))
         refine wpQuiet_nil ?_
         intro _ hw'
         obtain ⟨⟨nq,osq⟩,hw''⟩:=hw'
         subst hw''
         have HG1:Hid (Grw w _):=HA.out.trans ⟨nq,osq,rfl⟩
         clear y0 y1 y2 y3 y4 y5 e0 e1 e2 e3 e4 e5 e6 e7 p1
         go_wp2
         go_ret
         exact ⟨by rw [hv.out];rfl,HG1.out⟩
  ·obtain rfl:k=len:=by omega
   have hd:Hid (risB (uB ros) ltU us=true):=ris_end hl HO.out
   by_cases h6:k≤6
   ·have h6z:(k:Int)≤6:=by omega
    have hv:Hid (usB ros us=true):=by show usB ros us=true;unfold usB;rw [hd.out,dec_y (by omega)];rfl
    go_wp2
    go_ret
    exact ⟨by rw [hv.out];rfl,G0⟩
   ·have h6z:¬ (k:Int)≤6:=by omega
    have hv:Hid (usB ros us=false):=by show usB ros us=false;unfold usB;rw [dec_n (by omega)];rfl
    go_wp2
    go_ret
    exact ⟨by rw [hv.out];rfl,G0⟩
end Go.Proofs.YtbeehlhcckndcaaGreat
