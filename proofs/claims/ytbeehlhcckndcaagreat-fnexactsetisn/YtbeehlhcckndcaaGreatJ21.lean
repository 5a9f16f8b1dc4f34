/- The model's flows: l09Same, l09Flow, FlowsOK, l09Find, FlowFind. The model's ConnOK. l08Session, l13Conns and GatewayOK of the model. GatewayOK of the model. l13Own of the model, by l13Config. l13Config of the model. l13Own of the model, whole. Results whose first part is a struct in a box. Nothing of the program is used. -/
import Derived.Test.YtbeehlhcckndcaaGreatJ17
import Derived.Test.YtbeehlhcckndcaaGreatJ12
import Derived.Test.YtbeehlhcckndcaaGreatJ19
import Derived.Test.YtbeehlhcckndcaaGreatJ20
import Derived.Test.YtbeehlhcckndcaaGreatJ0
import Derived.Test.YtbeehlhcckndcaaGreatJ13
namespace Go.Proofs.YtbeehlhcckndcaaGreat
open Go.RowKit Go.PlainAid Go.Proofs.YtbeehlhcckndcaaGreat.Bt Go.Sort
set_option linter.unusedVariables false
set_option maxRecDepth 20000
theorem mac9_spec (s:ByteArray) (w:World):Calls Tryz.prog 75 #[.string s] w fun e w'=>e=.returned (.bool (dec (s.size=6)))∧w'=w:=by
 by_cases h:s.size=6
 ·rw [dec_y h]
  have hz:((s.size:Int) == 6)=true:=by simp;omega
  go_enter Tryz.func75,Tryz.ntmps75
  go_wp2
  go_ret
  exact ⟨rfl,rfl⟩
 ·rw [dec_n h]
  have hz:((s.size:Int) == 6)=false:=by simp;omega
  go_enter Tryz.func75,Tryz.ntmps75
  go_wp2
  go_ret
  exact ⟨rfl,rfl⟩
set_option maxHeartbeats 1000000 in
theorem l09Same_any (pr:Int) (mc:ByteArray) (si sp di dp st un ow:Int) (p a ap b bp:Int) (w:World) :
  Calls Tryz.prog 148 #[.agg #[.int .i64 pr,.string mc,.int .i64 si,.int .i64 sp,.int .i64 di,.int .i64 dp,.int .i64 st,.int .i64 un,.int .i64 ow],.int .i64 p,.int .i64 a,.int .i64 ap,.int .i64 b,.int .i64 bp] w fun e w'=>e=.returned (.bool (enB (enOf ⟨pr,mc,si,sp,di,dp,st,un,ow⟩) ⟨p,a,ap,b,bp⟩))∧Grw w w':=by
 have E:enB (enOf ⟨pr,mc,si,sp,di,dp,st,un,ow⟩) ⟨p,a,ap,b,bp⟩=((pr == p) && ((si == a) && ((sp == ap) && ((di == b) && (dp == bp))))):=rfl
 rw [E]
 clear E
 generalize hb0:(pr == p)=t0
 generalize hb1:(si == a)=t1
 generalize hb2:(sp == ap)=t2
 generalize hb3:(di == b)=t3
 generalize hb4:(dp == bp)=t4
 cases t0 with
 | false =>
  go_enter Tryz.func148,Tryz.ntmps148
  go_wp2
  go_ret
  exact ⟨rfl,(Grw.refl _).alloc _⟩
 | true =>
  cases t1 with
  | false =>
   go_enter Tryz.func148,Tryz.ntmps148
   go_wp2
   go_ret
   exact ⟨rfl,(Grw.refl _).alloc _⟩
  | true =>
   cases t2 with
   | false =>
    go_enter Tryz.func148,Tryz.ntmps148
    go_wp2
    go_ret
    exact ⟨rfl,(Grw.refl _).alloc _⟩
   | true =>
    cases t3 with
    | false =>
     go_enter Tryz.func148,Tryz.ntmps148
     go_wp2
     go_ret
     exact ⟨rfl,(Grw.refl _).alloc _⟩
    | true =>
     cases t4 with
     | false =>
      go_enter Tryz.func148,Tryz.ntmps148
      go_wp2
      go_ret
      exact ⟨rfl,(Grw.refl _).alloc _⟩
     | true =>
      go_enter Tryz.func148,Tryz.ntmps148
      go_wp2
      go_ret
      exact ⟨rfl,(Grw.refl _).alloc _⟩
set_option maxHeartbeats 2000000 in
theorem l09Flow_any (pr:Int) (mc:ByteArray) (si sp di dp st un ow:Int) (w:World) :
  Calls Tryz.prog 147 #[.agg #[.int .i64 pr,.string mc,.int .i64 si,.int .i64 sp,.int .i64 di,.int .i64 dp,.int .i64 st,.int .i64 un,.int .i64 ow]] w fun e w'=>e=.returned (.bool (flB ⟨pr,mc,si,sp,di,dp,st,un,ow⟩))∧Grw w w':=by
 have T0:Hid (∀ w,Calls Tryz.prog 74 #[.int .i64 pr,.int .i64 0,.int .i64 255] w fun e w'=>e=.returned (.bool (dec (0≤pr∧pr≤255)))∧w'=w):=fun w=>specIn_any pr 0 255 w
 have T1:Hid (∀ w,Calls Tryz.prog 75 #[.string mc] w fun e w'=>e=.returned (.bool (dec (mc.size=6)))∧w'=w):=fun w=>mac9_spec mc w
 have T2:Hid (∀ w,Calls Tryz.prog 63 #[.int .i64 si] w fun e w'=>e=.returned (.bool (dec (0≤si∧si≤4294967295)))∧w'=w):=fun w=>specIp_any si w
 have T3:Hid (∀ w,Calls Tryz.prog 63 #[.int .i64 di] w fun e w'=>e=.returned (.bool (dec (0≤di∧di≤4294967295)))∧w'=w):=fun w=>specIp_any di w
 have T4:Hid (∀ w,Calls Tryz.prog 177 #[.int .i64 sp] w fun e w'=>e=.returned (.bool (dec (0≤sp∧sp≤65535)))∧w'=w):=fun w=>specPort_any sp w
 have T5:Hid (∀ w,Calls Tryz.prog 177 #[.int .i64 dp] w fun e w'=>e=.returned (.bool (dec (0≤dp∧dp≤65535)))∧w'=w):=fun w=>specPort_any dp w
 have T6:Hid (∀ w,Calls Tryz.prog 74 #[.int .i64 st,.int .i64 1,.int .i64 3] w fun e w'=>e=.returned (.bool (dec (1≤st∧st≤3)))∧w'=w):=fun w=>specIn_any st 1 3 w
 have T7:Hid (∀ w,Calls Tryz.prog 74 #[.int .i64 un,.int .i64 0,.int .i64 100100] w fun e w'=>e=.returned (.bool (dec (0≤un∧un≤100100)))∧w'=w):=fun w=>specIn_any un 0 100100 w
 have T8:Hid (∀ w,Calls Tryz.prog 74 #[.int .i64 ow,.int .i64 0,.int .i64 10000] w fun e w'=>e=.returned (.bool (dec (0≤ow∧ow≤10000)))∧w'=w):=fun w=>specIn_any ow 0 10000 w
 obtain ⟨z,hz⟩:∃ z,z=flB ⟨pr,mc,si,sp,di,dp,st,un,ow⟩:=⟨_,rfl⟩
 have E:Hid (z=(dec (0≤pr∧pr≤255) && (dec (mc.size=6) && (dec (0≤si∧si≤4294967295) && (dec (0≤di∧di≤4294967295) && (dec (0≤sp∧sp≤65535) && (dec (0≤dp∧dp≤65535) && (dec (1≤st∧st≤3) && (dec (0≤un∧un≤100100) && (dec (0≤ow∧ow≤10000))))))))))):=by
  rw [hz]
  rfl
 rw [← hz]
 clear hz
 generalize dec (0≤pr∧pr≤255)=t0 at T0 E
 generalize dec (mc.size=6)=t1 at T1 E
 generalize dec (0≤si∧si≤4294967295)=t2 at T2 E
 generalize dec (0≤di∧di≤4294967295)=t3 at T3 E
 generalize dec (0≤sp∧sp≤65535)=t4 at T4 E
 generalize dec (0≤dp∧dp≤65535)=t5 at T5 E
 generalize dec (1≤st∧st≤3)=t6 at T6 E
 generalize dec (0≤un∧un≤100100)=t7 at T7 E
 generalize dec (0≤ow∧ow≤10000)=t8 at T8 E
 go_enter Tryz.func147,Tryz.ntmps147
 go_wp2_with fail
 refine (T0.out _).mono ?_
 rintro e w9 ⟨rfl,rfl⟩
 cases t0 with
 | false =>
  have hv:Hid (z=false):=by show z=false;rw [E.out];simp
  go_wp2
  go_ret
  exact ⟨by rw [hv.out];rfl,(Grw.refl _).alloc _⟩
 | true =>
  go_wp2_with fail
  refine (T1.out _).mono ?_
  rintro e w9 ⟨rfl,rfl⟩
  cases t1 with
  | false =>
   have hv:Hid (z=false):=by show z=false;rw [E.out];simp
   go_wp2
   go_ret
   exact ⟨by rw [hv.out];rfl,(Grw.refl _).alloc _⟩
  | true =>
   go_wp2_with fail
   refine (T2.out _).mono ?_
   rintro e w9 ⟨rfl,rfl⟩
   cases t2 with
   | false =>
    have hv:Hid (z=false):=by show z=false;rw [E.out];simp
    go_wp2
    go_ret
    exact ⟨by rw [hv.out];rfl,(Grw.refl _).alloc _⟩
   | true =>
    go_wp2_with fail
    refine (T3.out _).mono ?_
    rintro e w9 ⟨rfl,rfl⟩
    cases t3 with
    | false =>
     have hv:Hid (z=false):=by show z=false;rw [E.out];simp
     go_wp2
     go_ret
     exact ⟨by rw [hv.out];rfl,(Grw.refl _).alloc _⟩
    | true =>
     go_wp2_with fail
     refine (T4.out _).mono ?_
     rintro e w9 ⟨rfl,rfl⟩
     cases t4 with
     | false =>
      have hv:Hid (z=false):=by show z=false;rw [E.out];simp
      go_wp2
      go_ret
      exact ⟨by rw [hv.out];rfl,(Grw.refl _).alloc _⟩
     | true =>
      go_wp2_with fail
      refine (T5.out _).mono ?_
      rintro e w9 ⟨rfl,rfl⟩
      cases t5 with
      | false =>
       have hv:Hid (z=false):=by show z=false;rw [E.out];simp
       go_wp2
       go_ret
       exact ⟨by rw [hv.out];rfl,(Grw.refl _).alloc _⟩
      | true =>
       go_wp2_with fail
       refine (T6.out _).mono ?_
       rintro e w9 ⟨rfl,rfl⟩
       cases t6 with
       | false =>
        have hv:Hid (z=false):=by show z=false;rw [E.out];simp
        go_wp2
        go_ret
        exact ⟨by rw [hv.out];rfl,(Grw.refl _).alloc _⟩
       | true =>
        go_wp2_with fail
        refine (T7.out _).mono ?_
        rintro e w9 ⟨rfl,rfl⟩
        cases t7 with
        | false =>
         have hv:Hid (z=false):=by show z=false;rw [E.out];simp
         go_wp2
         go_ret
         exact ⟨by rw [hv.out];rfl,(Grw.refl _).alloc _⟩
        | true =>
         go_wp2_with fail
         refine (T8.out _).mono ?_
         rintro e w9 ⟨rfl,rfl⟩
         have hv:Hid (z=t8):=by show z=t8;rw [E.out];simp
         go_wp2
         go_ret
         exact ⟨by rw [hv.out];rfl,(Grw.refl _).alloc _⟩
set_option maxHeartbeats 4000000 in
theorem specFlowsOK_any (a:Option Addr) (len cap:Nat) (fs:List FlowV) (w:World) (h:Rw FlR 9 w a fs) (hl:fs.length=len) (hm:len≤1048576) :
  Calls Tryz.prog 115 #[.slice a len cap] w fun e w'=>e=.returned (.bool (foB fs))∧Grw w w':=by
 have RW:Hid (Rw FlR 9 w a fs):=h
 clear h
 by_cases h4:4096<len
 ·have hz:(4096:Int)<(len:Int):=by omega
  have hd:Hid (foB fs=false):=foB_long (by omega)
  go_enter Tryz.func115,Tryz.ntmps115
  go_wp2
  go_ret
  exact ⟨by rw [hd.out];rfl,Grw.refl _⟩
 have h4z:decide ((4096:Int)<(len:Int))=false:=by simp;omega
 by_cases h8:8<len
 ·have hz:(8:Int)<(len:Int):=by omega
  have hd:Hid (foB fs=false):=foB_long (by omega)
  go_enter Tryz.func115,Tryz.ntmps115
  go_wp2
  go_ret
  exact ⟨by rw [hd.out];rfl,Grw.refl _⟩
 have h8z:decide ((8:Int)<(len:Int))=false:=by simp;omega
 go_enter Tryz.func115,Tryz.ntmps115
 go_wp2
 go_loopw [3] (fun x wr=>∃ i:Nat,i≤len∧x=.int .i64 i∧Hid (alOk fs i∧apOk fs i)∧Hid (Grw w wr)) (fun x _=>len - (intOf x).toNat)
 case atStart=>exact ⟨0,Nat.zero_le _,rfl,⟨alOk_zero fs,apOk_zero fs⟩,Grw.refl _⟩
 case round =>
  obtain ⟨i,hi,rfl,HO,HG⟩:=hrel
  by_cases hlt:i<len
  ·obtain ⟨x,hx⟩:=at_of hl hlt
   have hiz:(i:Int)<(len:Int):=by omega
   obtain ⟨b,off,vs,rfl,hb,hvl,hR,hc⟩:=RW.out.at FR.kp HG.out.below hx
   obtain ⟨pr,mc,si,sp,di,dp,st,un,ow⟩:=x
   obtain ⟨rfl,-⟩:=hR
   have q0:wr.cell? ⟨b,off+i * 9,none⟩=some (.int .i64 pr):=hc 0 _ rfl
   have q1:wr.cell? ⟨b,off+i * 9+1,none⟩=some (.string mc):=hc 1 _ rfl
   have q2:wr.cell? ⟨b,off+i * 9+2,none⟩=some (.int .i64 si):=hc 2 _ rfl
   have q3:wr.cell? ⟨b,off+i * 9+3,none⟩=some (.int .i64 sp):=hc 3 _ rfl
   have q4:wr.cell? ⟨b,off+i * 9+4,none⟩=some (.int .i64 di):=hc 4 _ rfl
   have q5:wr.cell? ⟨b,off+i * 9+5,none⟩=some (.int .i64 dp):=hc 5 _ rfl
   have q6:wr.cell? ⟨b,off+i * 9+6,none⟩=some (.int .i64 st):=hc 6 _ rfl
   have q7:wr.cell? ⟨b,off+i * 9+7,none⟩=some (.int .i64 un):=hc 7 _ rfl
   have q8:wr.cell? ⟨b,off+i * 9+8,none⟩=some (.int .i64 ow):=hc 8 _ rfl
   have HF:Hid (∀ w,Calls Tryz.prog 147 #[.agg #[.int .i64 pr,.string mc,.int .i64 si,.int .i64 sp,.int .i64 di,.int .i64 dp,.int .i64 st,.int .i64 un,.int .i64 ow]] w fun e w'=>e=.returned (.bool (flB ⟨pr,mc,si,sp,di,dp,st,un,ow⟩))∧Grw w w'):=fun w=>l09Flow_any pr mc si sp di dp st un ow w
   clear hc hvl
   cases hq:flB ⟨pr,mc,si,sp,di,dp,st,un,ow⟩ with
   | false =>
    rw [hq] at HF
    have hd:Hid (foB fs=false):=foB_al hx hq
    clear hq hx HO
    go_wp2_with fail
    refine (HF.out _).mono ?_
    rintro e w2 ⟨rfl,g2⟩
    have HG2:Hid (Grw w w2):=(HG.out.alloc _).trans g2
    clear g2 HG
    go_wp2
    go_ret
    exact ⟨by rw [hd.out];rfl,HG2.out⟩
   | true =>
    rw [hq] at HF
    have HA:Hid (alOk fs (i+1)):=alOk_step HO.out.1 hx hq
    have HP:Hid (apOk fs i):=HO.out.2
    clear hq HO
    go_wp2_with fail
    refine (HF.out _).mono ?_
    rintro e w2 ⟨rfl,g2⟩
    have HG2:Hid (Grw w w2):=(HG.out.alloc _).trans g2
    have k0:w2.cell? ⟨wr.heap.size,0,none⟩=some (.int .i64 pr):=g2.keep (by simp)
    have k1:w2.cell? ⟨wr.heap.size,1,none⟩=some (.string mc):=g2.keep (by simp)
    have k2:w2.cell? ⟨wr.heap.size,2,none⟩=some (.int .i64 si):=g2.keep (by simp)
    have k3:w2.cell? ⟨wr.heap.size,3,none⟩=some (.int .i64 sp):=g2.keep (by simp)
    have k4:w2.cell? ⟨wr.heap.size,4,none⟩=some (.int .i64 di):=g2.keep (by simp)
    have k5:w2.cell? ⟨wr.heap.size,5,none⟩=some (.int .i64 dp):=g2.keep (by simp)
    have k6:w2.cell? ⟨wr.heap.size,6,none⟩=some (.int .i64 st):=g2.keep (by simp)
    have k7:w2.cell? ⟨wr.heap.size,7,none⟩=some (.int .i64 un):=g2.keep (by simp)
    have k8:w2.cell? ⟨wr.heap.size,8,none⟩=some (.int .i64 ow):=g2.keep (by simp)
    clear g2 HG HF q0 q1 q2 q3 q4 q5 q6 q7 q8
    go_wp2
    generalize wr.heap.size=B0 at k0 k1 k2 k3 k4 k5 k6 k7 k8 ⊢
    clear wr
    go_loopw [5] (fun y wr2=>∃ k:Nat,k≤i∧y=.int .i64 k∧Hid (apAt fs k (enOf ⟨pr,mc,si,sp,di,dp,st,un,ow⟩))∧Hid (Grw w2 wr2)) (fun y _=>i - (intOf y).toNat)
    case atStart=>exact ⟨0,Nat.zero_le _,rfl,apAt_zero _ _,Grw.refl _⟩
    case round =>
     obtain ⟨k,hk,rfl,HB,HG3⟩:=hrel
     by_cases hki:k<i
     ·obtain ⟨y,hy⟩:=at_of (k:=k) hl (by omega)
      have hkz:(k:Int)<(i:Int):=by omega
      have hkl:(k:Int)<(len:Int):=by omega
      obtain ⟨b',off',vs',e',hb',hvl',hR',hc'⟩:=RW.out.at FR.kp (HG2.out.trans HG3.out).below hy
      cases e'
      obtain ⟨pr2,mc2,si2,sp2,di2,dp2,st2,un2,ow2⟩:=y
      obtain ⟨rfl,-⟩:=hR'
      have p0:wr.cell? ⟨b,off+k * 9,none⟩=some (.int .i64 pr2):=hc' 0 _ rfl
      have p1:wr.cell? ⟨b,off+k * 9+1,none⟩=some (.string mc2):=hc' 1 _ rfl
      have p2:wr.cell? ⟨b,off+k * 9+2,none⟩=some (.int .i64 si2):=hc' 2 _ rfl
      have p3:wr.cell? ⟨b,off+k * 9+3,none⟩=some (.int .i64 sp2):=hc' 3 _ rfl
      have p4:wr.cell? ⟨b,off+k * 9+4,none⟩=some (.int .i64 di2):=hc' 4 _ rfl
      have p5:wr.cell? ⟨b,off+k * 9+5,none⟩=some (.int .i64 dp2):=hc' 5 _ rfl
      have p6:wr.cell? ⟨b,off+k * 9+6,none⟩=some (.int .i64 st2):=hc' 6 _ rfl
      have p7:wr.cell? ⟨b,off+k * 9+7,none⟩=some (.int .i64 un2):=hc' 7 _ rfl
      have p8:wr.cell? ⟨b,off+k * 9+8,none⟩=some (.int .i64 ow2):=hc' 8 _ rfl
      have m0:∀ o,(wr.alloc o).cell? ⟨B0,0,none⟩=some (.int .i64 pr):=fun o=>acell (HG3.out.keep k0) o
      have m1:∀ o,(wr.alloc o).cell? ⟨B0,1,none⟩=some (.string mc):=fun o=>acell (HG3.out.keep k1) o
      have m2:∀ o,(wr.alloc o).cell? ⟨B0,2,none⟩=some (.int .i64 si):=fun o=>acell (HG3.out.keep k2) o
      have m3:∀ o,(wr.alloc o).cell? ⟨B0,3,none⟩=some (.int .i64 sp):=fun o=>acell (HG3.out.keep k3) o
      have m4:∀ o,(wr.alloc o).cell? ⟨B0,4,none⟩=some (.int .i64 di):=fun o=>acell (HG3.out.keep k4) o
      have m5:∀ o,(wr.alloc o).cell? ⟨B0,5,none⟩=some (.int .i64 dp):=fun o=>acell (HG3.out.keep k5) o
      have m6:∀ o,(wr.alloc o).cell? ⟨B0,6,none⟩=some (.int .i64 st):=fun o=>acell (HG3.out.keep k6) o
      have m7:∀ o,(wr.alloc o).cell? ⟨B0,7,none⟩=some (.int .i64 un):=fun o=>acell (HG3.out.keep k7) o
      have m8:∀ o,(wr.alloc o).cell? ⟨B0,8,none⟩=some (.int .i64 ow):=fun o=>acell (HG3.out.keep k8) o
      clear hc' hvl' hb'
      have HS1:Hid (∀ w,Calls Tryz.prog 148 #[.agg #[.int .i64 pr2,.string mc2,.int .i64 si2,.int .i64 sp2,.int .i64 di2,.int .i64 dp2,.int .i64 st2,.int .i64 un2,.int .i64 ow2],.int .i64 pr,.int .i64 si,.int .i64 sp,.int .i64 di,.int .i64 dp] w fun e w'=>e=.returned (.bool (enB (enOf ⟨pr2,mc2,si2,sp2,di2,dp2,st2,un2,ow2⟩) (enOf ⟨pr,mc,si,sp,di,dp,st,un,ow⟩)))∧Grw w w'):=fun w=>l09Same_any pr2 mc2 si2 sp2 di2 dp2 st2 un2 ow2 pr si sp di dp w
      have HS2:Hid (∀ w,Calls Tryz.prog 148 #[.agg #[.int .i64 pr2,.string mc2,.int .i64 si2,.int .i64 sp2,.int .i64 di2,.int .i64 dp2,.int .i64 st2,.int .i64 un2,.int .i64 ow2],.int .i64 pr,.int .i64 di,.int .i64 dp,.int .i64 si,.int .i64 sp] w fun e w'=>e=.returned (.bool (enB (enOf ⟨pr2,mc2,si2,sp2,di2,dp2,st2,un2,ow2⟩) (enT (enOf ⟨pr,mc,si,sp,di,dp,st,un,ow⟩))))∧Grw w w'):=fun w=>l09Same_any pr2 mc2 si2 sp2 di2 dp2 st2 un2 ow2 pr di dp si sp w
      by_cases he1:enOf ⟨pr2,mc2,si2,sp2,di2,dp2,st2,un2,ow2⟩=enOf ⟨pr,mc,si,sp,di,dp,st,un,ow⟩
      ·rw [enB_yes he1] at HS1
       have hd:Hid (foB fs=false):=foB_at hx hki hy (.inl he1)
       clear he1 HB HA HP hx hy HS2
       go_wp2_with fail
       refine (HS1.out _).mono ?_
       rintro e w4 ⟨rfl,g4⟩
       have HG4:Hid (Grw w w4):=((HG2.out.trans HG3.out).alloc _).trans g4
       clear g4 HG2 HG3 m0 m1 m2 m3 m4 m5 m6 m7 m8 p0 p1 p2 p3 p4 p5 p6 p7 p8 k0 k1 k2 k3 k4 k5 k6 k7 k8
       go_wp2
       go_ret
       exact ⟨by rw [hd.out];rfl,HG4.out⟩
      ·rw [enB_no he1] at HS1
       by_cases he2:enOf ⟨pr2,mc2,si2,sp2,di2,dp2,st2,un2,ow2⟩=enT (enOf ⟨pr,mc,si,sp,di,dp,st,un,ow⟩)
       ·rw [enB_yes he2] at HS2
        have hd:Hid (foB fs=false):=foB_at hx hki hy (.inr he2)
        clear he1 he2 HB HA HP hx hy
        go_wp2_with fail
        refine (HS1.out _).mono ?_
        rintro e w4 ⟨rfl,g4⟩
        have n0:w4.cell? ⟨B0,0,none⟩=some (.int .i64 pr):=g4.keep (m0 _)
        have r0:w4.cell? ⟨wr.heap.size,0,none⟩=some (.int .i64 pr2):=g4.keep (by simp)
        have n1:w4.cell? ⟨B0,1,none⟩=some (.string mc):=g4.keep (m1 _)
        have r1:w4.cell? ⟨wr.heap.size,1,none⟩=some (.string mc2):=g4.keep (by simp)
        have n2:w4.cell? ⟨B0,2,none⟩=some (.int .i64 si):=g4.keep (m2 _)
        have r2:w4.cell? ⟨wr.heap.size,2,none⟩=some (.int .i64 si2):=g4.keep (by simp)
        have n3:w4.cell? ⟨B0,3,none⟩=some (.int .i64 sp):=g4.keep (m3 _)
        have r3:w4.cell? ⟨wr.heap.size,3,none⟩=some (.int .i64 sp2):=g4.keep (by simp)
        have n4:w4.cell? ⟨B0,4,none⟩=some (.int .i64 di):=g4.keep (m4 _)
        have r4:w4.cell? ⟨wr.heap.size,4,none⟩=some (.int .i64 di2):=g4.keep (by simp)
        have n5:w4.cell? ⟨B0,5,none⟩=some (.int .i64 dp):=g4.keep (m5 _)
        have r5:w4.cell? ⟨wr.heap.size,5,none⟩=some (.int .i64 dp2):=g4.keep (by simp)
        have n6:w4.cell? ⟨B0,6,none⟩=some (.int .i64 st):=g4.keep (m6 _)
        have r6:w4.cell? ⟨wr.heap.size,6,none⟩=some (.int .i64 st2):=g4.keep (by simp)
        have n7:w4.cell? ⟨B0,7,none⟩=some (.int .i64 un):=g4.keep (m7 _)
        have r7:w4.cell? ⟨wr.heap.size,7,none⟩=some (.int .i64 un2):=g4.keep (by simp)
        have n8:w4.cell? ⟨B0,8,none⟩=some (.int .i64 ow):=g4.keep (m8 _)
        have r8:w4.cell? ⟨wr.heap.size,8,none⟩=some (.int .i64 ow2):=g4.keep (by simp)
        have HG4:Hid (Grw w w4):=((HG2.out.trans HG3.out).alloc _).trans g4
        clear g4 HG2 HG3 m0 m1 m2 m3 m4 m5 m6 m7 m8 p0 p1 p2 p3 p4 p5 p6 p7 p8 k0 k1 k2 k3 k4 k5 k6 k7 k8
        go_wp2_with fail
        refine (HS2.out _).mono ?_
        rintro e w5 ⟨rfl,g5⟩
        have HG5:Hid (Grw w w5):=HG4.out.trans g5
        clear g5 HG4
        go_wp2
        go_ret
        exact ⟨by rw [hd.out];rfl,HG5.out⟩
       ·rw [enB_no he2] at HS2
        have HB2:Hid (apAt fs (k+1) (enOf ⟨pr,mc,si,sp,di,dp,st,un,ow⟩)):=apAt_step HB.out hy he1 he2
        clear he1 he2 HB
        go_wp2_with fail
        refine (HS1.out _).mono ?_
        rintro e w4 ⟨rfl,g4⟩
        have n0:w4.cell? ⟨B0,0,none⟩=some (.int .i64 pr):=g4.keep (m0 _)
        have r0:w4.cell? ⟨wr.heap.size,0,none⟩=some (.int .i64 pr2):=g4.keep (by simp)
        have n1:w4.cell? ⟨B0,1,none⟩=some (.string mc):=g4.keep (m1 _)
        have r1:w4.cell? ⟨wr.heap.size,1,none⟩=some (.string mc2):=g4.keep (by simp)
        have n2:w4.cell? ⟨B0,2,none⟩=some (.int .i64 si):=g4.keep (m2 _)
        have r2:w4.cell? ⟨wr.heap.size,2,none⟩=some (.int .i64 si2):=g4.keep (by simp)
        have n3:w4.cell? ⟨B0,3,none⟩=some (.int .i64 sp):=g4.keep (m3 _)
        have r3:w4.cell? ⟨wr.heap.size,3,none⟩=some (.int .i64 sp2):=g4.keep (by simp)
        have n4:w4.cell? ⟨B0,4,none⟩=some (.int .i64 di):=g4.keep (m4 _)
        have r4:w4.cell? ⟨wr.heap.size,4,none⟩=some (.int .i64 di2):=g4.keep (by simp)
        have n5:w4.cell? ⟨B0,5,none⟩=some (.int .i64 dp):=g4.keep (m5 _)
        have r5:w4.cell? ⟨wr.heap.size,5,none⟩=some (.int .i64 dp2):=g4.keep (by simp)
        have n6:w4.cell? ⟨B0,6,none⟩=some (.int .i64 st):=g4.keep (m6 _)
        have r6:w4.cell? ⟨wr.heap.size,6,none⟩=some (.int .i64 st2):=g4.keep (by simp)
        have n7:w4.cell? ⟨B0,7,none⟩=some (.int .i64 un):=g4.keep (m7 _)
        have r7:w4.cell? ⟨wr.heap.size,7,none⟩=some (.int .i64 un2):=g4.keep (by simp)
        have n8:w4.cell? ⟨B0,8,none⟩=some (.int .i64 ow):=g4.keep (m8 _)
        have r8:w4.cell? ⟨wr.heap.size,8,none⟩=some (.int .i64 ow2):=g4.keep (by simp)
        have HG4:Hid (Grw w2 w4):=(HG3.out.alloc _).trans g4
        clear g4 HG3 m0 m1 m2 m3 m4 m5 m6 m7 m8 p0 p1 p2 p3 p4 p5 p6 p7 p8
        go_wp2_with fail
        refine (HS2.out _).mono ?_
        rintro e w5 ⟨rfl,g5⟩
        have HG5:Hid (Grw w2 w5):=HG4.out.trans g5
        clear g5 HG4 n0 r0 n1 r1 n2 r2 n3 r3 n4 r4 n5 r5 n6 r6 n7 r7 n8 r8
        go_wp2
        go_roundw
        case rel=>exact ⟨k+1,by omega,by go_num,HB2,HG5⟩
        case measure=>simp [intOf];omega
     ·obtain rfl:k=i:=by omega
      have hkz:¬ (k:Int)<(k:Int):=by omega
      have HP2:Hid (apOk fs (k+1)):=apOk_step HP.out hx HB.out
      clear HP HB hx
      go_wp2
      exact ⟨⟨k+1,by omega,by go_num,⟨HA.out,HP2.out⟩,HG2.out.trans HG3.out⟩,by simp [intOf];omega⟩
  ·obtain rfl:i=len:=by omega
   have hd:Hid (foB fs=true):=foB_yes (by omega) (by rw [hl];exact HO.out.1) (by rw [hl];exact HO.out.2)
   clear HO
   go_wp2
   go_ret
   exact ⟨by rw [hd.out];rfl,HG.out⟩
theorem l07Ask9_any (ip po:Int) (w:World):Calls Tryz.prog 178 #[.int .i64 ip,.int .i64 po] w fun e w'=>e=.returned (.bool (dec (0≤ip∧ip≤4294967295) && dec (0≤po∧po≤65535)))∧w'=w:=by
 have T0:Hid (∀ w,Calls Tryz.prog 63 #[.int .i64 ip] w fun e w'=>e=.returned (.bool (dec (0≤ip∧ip≤4294967295)))∧w'=w):=fun w=>specIp_any ip w
 have T1:Hid (∀ w,Calls Tryz.prog 177 #[.int .i64 po] w fun e w'=>e=.returned (.bool (dec (0≤po∧po≤65535)))∧w'=w):=fun w=>specPort_any po w
 generalize dec (0≤ip∧ip≤4294967295)=t0 at T0 ⊢
 generalize dec (0≤po∧po≤65535)=t1 at T1 ⊢
 cases t0 with
 | false =>
  go_enter Tryz.func178,Tryz.ntmps178
  go_wp2_with fail
  refine (T0.out _).mono ?_
  rintro e w1 ⟨rfl,hw⟩
  subst hw
  go_wp2
  go_ret
  exact ⟨rfl,rfl⟩
 | true =>
  go_enter Tryz.func178,Tryz.ntmps178
  go_wp2_with fail
  refine (T0.out _).mono ?_
  rintro e w1 ⟨rfl,hw⟩
  subst hw
  go_wp2_with fail
  refine (T1.out _).mono ?_
  rintro e w1 ⟨rfl,hw⟩
  subst hw
  go_wp2
  go_ret
  exact ⟨by simp,rfl⟩
set_option maxHeartbeats 4000000 in
theorem specConOK_any (mc:ByteArray) (ip po di st un nx wa:Int) (inn out:ByteArray) (fin:Bool) (w:World) (hmc:mc.size≤1048576) (hi:inn.size≤1048576) (ho:out.size≤1048576) :
  Calls Tryz.prog 149 #[.agg #[.string mc,.int .i64 ip,.int .i64 po,.int .i64 di,.int .i64 st,.int .i64 un,.int .i64 nx,.int .i64 wa,.string inn,.string out,.bool fin]] w fun e w'=>e=.returned (.bool (okB ⟨mc,ip,po,di,st,un,nx,wa,inn,out,fin⟩))∧Grw w w':=by
 have T0:Hid (∀ w,Calls Tryz.prog 75 #[.string mc] w fun e w'=>e=.returned (.bool ((mc.size:Int) == 6))∧w'=w):=fun w=>l01Mac_any mc w
 have T1:Hid (∀ w,Calls Tryz.prog 178 #[.int .i64 ip,.int .i64 po] w fun e w'=>e=.returned (.bool (dec (0≤ip∧ip≤4294967295) && dec (0≤po∧po≤65535)))∧w'=w):=fun w=>l07Ask9_any ip po w
 have T2:Hid (∀ w,Calls Tryz.prog 63 #[.int .i64 di] w fun e w'=>e=.returned (.bool (dec (0≤di∧di≤4294967295)))∧w'=w):=fun w=>specIp_any di w
 have T3:Hid (∀ w,Calls Tryz.prog 74 #[.int .i64 st,.int .i64 1,.int .i64 4] w fun e w'=>e=.returned (.bool (dec (1≤st∧st≤4)))∧w'=w):=fun w=>specIn_any st 1 4 w
 have T4:Hid (∀ w,Calls Tryz.prog 63 #[.int .i64 un] w fun e w'=>e=.returned (.bool (dec (0≤un∧un≤4294967295)))∧w'=w):=fun w=>specIp_any un w
 have T5:Hid (∀ w,Calls Tryz.prog 63 #[.int .i64 nx] w fun e w'=>e=.returned (.bool (dec (0≤nx∧nx≤4294967295)))∧w'=w):=fun w=>specIp_any nx w
 have T6:Hid (∀ w,Calls Tryz.prog 63 #[.int .i64 wa] w fun e w'=>e=.returned (.bool (dec (0≤wa∧wa≤4294967295)))∧w'=w):=fun w=>specIp_any wa w
 have T10:Hid (∀ w,Calls Tryz.prog 180 #[.agg #[.string mc,.int .i64 ip,.int .i64 po,.int .i64 di,.int .i64 st,.int .i64 un,.int .i64 nx,.int .i64 wa,.string inn,.string out,.bool fin]] w fun e w'=>e=.returned (.int .i64 (sentN ⟨mc,ip,po,di,st,un,nx,wa,inn,out,fin⟩))∧Grw w w'):=fun w=>l10Sent_any mc ip po di st un nx wa inn out fin w ho
 have T9:Hid (dec (0≤un∧un≤4294967295)=true→dec (0≤nx∧nx≤4294967295)=true→IntKind.i64.wrap (nx - un)=nx - un∧∀ w,Calls Tryz.prog 179 #[.int .i64 (nx - un)] w fun e w'=>e=.returned (.int .i64 (sqN (nx - un)))∧Grw w w'):=fun h1 h2=>by
  simp [dec] at h1 h2
  exact ⟨by rw [IntKind.wrap_i64];omega,fun w=>toG (l10Seq_any (nx - un) w (by omega) (by omega))⟩
 have E:Hid (okB ⟨mc,ip,po,di,st,un,nx,wa,inn,out,fin⟩=((dec (0≤ip∧ip≤4294967295) && dec (0≤po∧po≤65535) && dec (0≤di∧di≤4294967295) && dec (1≤st∧st≤4) && dec (0≤un∧un≤4294967295) && dec (0≤nx∧nx≤4294967295) && dec (0≤wa∧wa≤4294967295)) && (((mc.size:Int) == 6) && !decide ((300:Int)<(inn.size:Int)) && !decide ((300:Int)<(out.size:Int)) && !((st == 1) && !(inn.toList == [])) && (fin == (st == 3)) && (fin || (out.toList == []))) && (sqN (nx - un) == sentN ⟨mc,ip,po,di,st,un,nx,wa,inn,out,fin⟩))):=rfl
 generalize ((mc.size:Int) == 6)=t0 at T0 E
 generalize (dec (0≤ip∧ip≤4294967295) && dec (0≤po∧po≤65535))=t1 at T1 E
 generalize dec (0≤di∧di≤4294967295)=t2 at T2 E
 generalize dec (1≤st∧st≤4)=t3c at T3 E
 generalize dec (0≤un∧un≤4294967295)=u4 at T4 T9 E
 generalize dec (0≤nx∧nx≤4294967295)=u5 at T5 T9 E
 generalize dec (0≤wa∧wa≤4294967295)=u6 at T6 E
 generalize h1:decide ((300:Int)<(inn.size:Int))=b1 at E
 generalize h2:decide ((300:Int)<(out.size:Int))=b2 at E
 generalize h3:(st == 1)=t3 at E
 generalize h4:(inn.toList == [])=t4 at E
 generalize h5:(st == 3)=t5 at E
 generalize h6:(out.toList == [])=t6 at E
 generalize sentN ⟨mc,ip,po,di,st,un,nx,wa,inn,out,fin⟩=z at T10 E
 generalize sqN (nx - un)=zz at T9 E
 have B0:Hid (Grw w (w.alloc (.cells #[.string mc,.int .i64 ip,.int .i64 po,.int .i64 di,.int .i64 st,.int .i64 un,.int .i64 nx,.int .i64 wa,.string inn,.string out,.bool fin] 162))):=(Grw.refl _).alloc _
 have q0:(w.alloc (.cells #[.string mc,.int .i64 ip,.int .i64 po,.int .i64 di,.int .i64 st,.int .i64 un,.int .i64 nx,.int .i64 wa,.string inn,.string out,.bool fin] 162)).cell? ⟨w.heap.size,0,none⟩=some (.string mc):=by simp [go_sem]
 have q1:(w.alloc (.cells #[.string mc,.int .i64 ip,.int .i64 po,.int .i64 di,.int .i64 st,.int .i64 un,.int .i64 nx,.int .i64 wa,.string inn,.string out,.bool fin] 162)).cell? ⟨w.heap.size,1,none⟩=some (.int .i64 ip):=by simp [go_sem]
 have q2:(w.alloc (.cells #[.string mc,.int .i64 ip,.int .i64 po,.int .i64 di,.int .i64 st,.int .i64 un,.int .i64 nx,.int .i64 wa,.string inn,.string out,.bool fin] 162)).cell? ⟨w.heap.size,2,none⟩=some (.int .i64 po):=by simp [go_sem]
 have q3:(w.alloc (.cells #[.string mc,.int .i64 ip,.int .i64 po,.int .i64 di,.int .i64 st,.int .i64 un,.int .i64 nx,.int .i64 wa,.string inn,.string out,.bool fin] 162)).cell? ⟨w.heap.size,3,none⟩=some (.int .i64 di):=by simp [go_sem]
 have q4:(w.alloc (.cells #[.string mc,.int .i64 ip,.int .i64 po,.int .i64 di,.int .i64 st,.int .i64 un,.int .i64 nx,.int .i64 wa,.string inn,.string out,.bool fin] 162)).cell? ⟨w.heap.size,4,none⟩=some (.int .i64 st):=by simp [go_sem]
 have q5:(w.alloc (.cells #[.string mc,.int .i64 ip,.int .i64 po,.int .i64 di,.int .i64 st,.int .i64 un,.int .i64 nx,.int .i64 wa,.string inn,.string out,.bool fin] 162)).cell? ⟨w.heap.size,5,none⟩=some (.int .i64 un):=by simp [go_sem]
 have q6:(w.alloc (.cells #[.string mc,.int .i64 ip,.int .i64 po,.int .i64 di,.int .i64 st,.int .i64 un,.int .i64 nx,.int .i64 wa,.string inn,.string out,.bool fin] 162)).cell? ⟨w.heap.size,6,none⟩=some (.int .i64 nx):=by simp [go_sem]
 have q7:(w.alloc (.cells #[.string mc,.int .i64 ip,.int .i64 po,.int .i64 di,.int .i64 st,.int .i64 un,.int .i64 nx,.int .i64 wa,.string inn,.string out,.bool fin] 162)).cell? ⟨w.heap.size,7,none⟩=some (.int .i64 wa):=by simp [go_sem]
 have q8:(w.alloc (.cells #[.string mc,.int .i64 ip,.int .i64 po,.int .i64 di,.int .i64 st,.int .i64 un,.int .i64 nx,.int .i64 wa,.string inn,.string out,.bool fin] 162)).cell? ⟨w.heap.size,8,none⟩=some (.string inn):=by simp [go_sem]
 have q9:(w.alloc (.cells #[.string mc,.int .i64 ip,.int .i64 po,.int .i64 di,.int .i64 st,.int .i64 un,.int .i64 nx,.int .i64 wa,.string inn,.string out,.bool fin] 162)).cell? ⟨w.heap.size,9,none⟩=some (.string out):=by simp [go_sem]
 have q10:(w.alloc (.cells #[.string mc,.int .i64 ip,.int .i64 po,.int .i64 di,.int .i64 st,.int .i64 un,.int .i64 nx,.int .i64 wa,.string inn,.string out,.bool fin] 162)).cell? ⟨w.heap.size,10,none⟩=some (.bool fin):=by simp [go_sem]
 have hmix:Tryz.prog.follows .mixedOrders=true:=by kernel_rfl
 go_enter Tryz.func149,Tryz.ntmps149
 go_wp2_with fail
 refine (T0.out _).mono ?_
 rintro e w1 ⟨rfl,rfl⟩
 cases t0 with
 | false =>
  go_wp2
  go_ret
  exact ⟨by rw [E.out];first | rfl | (show Ending.returned (.bool false)=_;simp),(Grw.refl _).alloc _⟩
 | true =>
  go_wp2_with fail
  refine (T1.out _).mono ?_
  rintro e w1 ⟨rfl,rfl⟩
  cases t1 with
  | false =>
   go_wp2
   go_ret
   exact ⟨by rw [E.out];first | rfl | (show Ending.returned (.bool false)=_;simp),(Grw.refl _).alloc _⟩
  | true =>
   go_wp2_with fail
   refine (T2.out _).mono ?_
   rintro e w1 ⟨rfl,rfl⟩
   cases t2 with
   | false =>
    go_wp2
    go_ret
    exact ⟨by rw [E.out];first | rfl | (show Ending.returned (.bool false)=_;simp),(Grw.refl _).alloc _⟩
   | true =>
    go_wp2_with fail
    refine (T3.out _).mono ?_
    rintro e w1 ⟨rfl,rfl⟩
    cases t3c with
    | false =>
     go_wp2
     go_ret
     exact ⟨by rw [E.out];first | rfl | (show Ending.returned (.bool false)=_;simp),(Grw.refl _).alloc _⟩
    | true =>
     go_wp2_with fail
     refine (T4.out _).mono ?_
     rintro e w1 ⟨rfl,rfl⟩
     cases u4 with
     | false =>
      go_wp2
      go_ret
      exact ⟨by rw [E.out];first | rfl | (show Ending.returned (.bool false)=_;simp),(Grw.refl _).alloc _⟩
     | true =>
      go_wp2_with fail
      refine (T5.out _).mono ?_
      rintro e w1 ⟨rfl,rfl⟩
      cases u5 with
      | false =>
       go_wp2
       go_ret
       exact ⟨by rw [E.out];first | rfl | (show Ending.returned (.bool false)=_;simp),(Grw.refl _).alloc _⟩
      | true =>
       go_wp2_with fail
       refine (T6.out _).mono ?_
       rintro e w1 ⟨rfl,rfl⟩
       cases u6 with
       | false =>
        go_wp2
        go_ret
        exact ⟨by rw [E.out];first | rfl | (show Ending.returned (.bool false)=_;simp),(Grw.refl _).alloc _⟩
       | true =>
        cases b1 with
        | false =>
         cases b2 with
         | false =>
          cases t3 with
          | false =>
           cases fin with
           | false =>
            cases t5 with
            | false =>
             cases t6 with
             | false =>
              go_wp2
              go_ret
              exact ⟨by rw [E.out];first | rfl | (show Ending.returned (.bool false)=_;simp),(Grw.refl _).alloc _⟩
             | true =>
              have X:=T9.out (by first | rfl | trivial) (by first | rfl | trivial)
              have X1:=X.1
              have X2:Hid (∀ w,Calls Tryz.prog 179 #[.int .i64 (nx - un)] w fun e w'=>e=.returned (.int .i64 zz)∧Grw w w'):=X.2
              clear X T9
              go_wp2_with fail
              generalize w.alloc (.cells #[.string mc,.int .i64 ip,.int .i64 po,.int .i64 di,.int .i64 st,.int .i64 un,.int .i64 nx,.int .i64 wa,.string inn,.string out,.bool false] 162)=W at *
              have y0:∀ n os,(grow (W.drewN n) os).cell? ⟨w.heap.size,0,none⟩=some (.string mc):=fun n os=>bkeep (Grw.below ⟨n,os,rfl⟩) q0
              have y1:∀ n os,(grow (W.drewN n) os).cell? ⟨w.heap.size,1,none⟩=some (.int .i64 ip):=fun n os=>bkeep (Grw.below ⟨n,os,rfl⟩) q1
              have y2:∀ n os,(grow (W.drewN n) os).cell? ⟨w.heap.size,2,none⟩=some (.int .i64 po):=fun n os=>bkeep (Grw.below ⟨n,os,rfl⟩) q2
              have y3:∀ n os,(grow (W.drewN n) os).cell? ⟨w.heap.size,3,none⟩=some (.int .i64 di):=fun n os=>bkeep (Grw.below ⟨n,os,rfl⟩) q3
              have y4:∀ n os,(grow (W.drewN n) os).cell? ⟨w.heap.size,4,none⟩=some (.int .i64 st):=fun n os=>bkeep (Grw.below ⟨n,os,rfl⟩) q4
              have y5:∀ n os,(grow (W.drewN n) os).cell? ⟨w.heap.size,5,none⟩=some (.int .i64 un):=fun n os=>bkeep (Grw.below ⟨n,os,rfl⟩) q5
              have y6:∀ n os,(grow (W.drewN n) os).cell? ⟨w.heap.size,6,none⟩=some (.int .i64 nx):=fun n os=>bkeep (Grw.below ⟨n,os,rfl⟩) q6
              have y7:∀ n os,(grow (W.drewN n) os).cell? ⟨w.heap.size,7,none⟩=some (.int .i64 wa):=fun n os=>bkeep (Grw.below ⟨n,os,rfl⟩) q7
              have y8:∀ n os,(grow (W.drewN n) os).cell? ⟨w.heap.size,8,none⟩=some (.string inn):=fun n os=>bkeep (Grw.below ⟨n,os,rfl⟩) q8
              have y9:∀ n os,(grow (W.drewN n) os).cell? ⟨w.heap.size,9,none⟩=some (.string out):=fun n os=>bkeep (Grw.below ⟨n,os,rfl⟩) q9
              have y10:∀ n os,(grow (W.drewN n) os).cell? ⟨w.heap.size,10,none⟩=some (.bool false):=fun n os=>bkeep (Grw.below ⟨n,os,rfl⟩) q10
              refine wp_region_quiet_grown (by assumption) (by kernel_rfl) ?_
              repeat (go_big_quiet_step (first | fail | (first | (go_at_call 179;exact Calls.grown_of (X2.out _)) | (go_at_call 180;exact Calls.grown_of (T10.out _)))))
              refine wpQuiet_nil ?_
              intro _ hw'
              obtain ⟨⟨nq,osq⟩,hw''⟩:=hw'
              subst hw''
              have HG2:Hid (Grw w (grow (W.drewN nq) osq)):=B0.out.trans ⟨nq,osq,rfl⟩
              clear y0 y1 y2 y3 y4 y5 y6 y7 y8 y9 y10 q0 q1 q2 q3 q4 q5 q6 q7 q8 q9 q10 B0
              generalize (grow (W.drewN nq) osq)=w5 at *
              go_wp2
              go_ret
              exact ⟨by rw [E.out];rfl,HG2.out⟩
            | true =>
             go_wp2
             go_ret
             exact ⟨by rw [E.out];first | rfl | (show Ending.returned (.bool false)=_;simp),(Grw.refl _).alloc _⟩
           | true =>
            cases t5 with
            | false =>
             go_wp2
             go_ret
             exact ⟨by rw [E.out];first | rfl | (show Ending.returned (.bool false)=_;simp),(Grw.refl _).alloc _⟩
            | true =>
             have X:=T9.out (by first | rfl | trivial) (by first | rfl | trivial)
             have X1:=X.1
             have X2:Hid (∀ w,Calls Tryz.prog 179 #[.int .i64 (nx - un)] w fun e w'=>e=.returned (.int .i64 zz)∧Grw w w'):=X.2
             clear X T9
             go_wp2_with fail
             generalize w.alloc (.cells #[.string mc,.int .i64 ip,.int .i64 po,.int .i64 di,.int .i64 st,.int .i64 un,.int .i64 nx,.int .i64 wa,.string inn,.string out,.bool true] 162)=W at *
             have y0:∀ n os,(grow (W.drewN n) os).cell? ⟨w.heap.size,0,none⟩=some (.string mc):=fun n os=>bkeep (Grw.below ⟨n,os,rfl⟩) q0
             have y1:∀ n os,(grow (W.drewN n) os).cell? ⟨w.heap.size,1,none⟩=some (.int .i64 ip):=fun n os=>bkeep (Grw.below ⟨n,os,rfl⟩) q1
             have y2:∀ n os,(grow (W.drewN n) os).cell? ⟨w.heap.size,2,none⟩=some (.int .i64 po):=fun n os=>bkeep (Grw.below ⟨n,os,rfl⟩) q2
             have y3:∀ n os,(grow (W.drewN n) os).cell? ⟨w.heap.size,3,none⟩=some (.int .i64 di):=fun n os=>bkeep (Grw.below ⟨n,os,rfl⟩) q3
             have y4:∀ n os,(grow (W.drewN n) os).cell? ⟨w.heap.size,4,none⟩=some (.int .i64 st):=fun n os=>bkeep (Grw.below ⟨n,os,rfl⟩) q4
             have y5:∀ n os,(grow (W.drewN n) os).cell? ⟨w.heap.size,5,none⟩=some (.int .i64 un):=fun n os=>bkeep (Grw.below ⟨n,os,rfl⟩) q5
             have y6:∀ n os,(grow (W.drewN n) os).cell? ⟨w.heap.size,6,none⟩=some (.int .i64 nx):=fun n os=>bkeep (Grw.below ⟨n,os,rfl⟩) q6
             have y7:∀ n os,(grow (W.drewN n) os).cell? ⟨w.heap.size,7,none⟩=some (.int .i64 wa):=fun n os=>bkeep (Grw.below ⟨n,os,rfl⟩) q7
             have y8:∀ n os,(grow (W.drewN n) os).cell? ⟨w.heap.size,8,none⟩=some (.string inn):=fun n os=>bkeep (Grw.below ⟨n,os,rfl⟩) q8
             have y9:∀ n os,(grow (W.drewN n) os).cell? ⟨w.heap.size,9,none⟩=some (.string out):=fun n os=>bkeep (Grw.below ⟨n,os,rfl⟩) q9
             have y10:∀ n os,(grow (W.drewN n) os).cell? ⟨w.heap.size,10,none⟩=some (.bool true):=fun n os=>bkeep (Grw.below ⟨n,os,rfl⟩) q10
             refine wp_region_quiet_grown (by assumption) (by kernel_rfl) ?_
             repeat (go_big_quiet_step (first | fail | (first | (go_at_call 179;exact Calls.grown_of (X2.out _)) | (go_at_call 180;exact Calls.grown_of (T10.out _)))))
             refine wpQuiet_nil ?_
             intro _ hw'
             obtain ⟨⟨nq,osq⟩,hw''⟩:=hw'
             subst hw''
             have HG2:Hid (Grw w (grow (W.drewN nq) osq)):=B0.out.trans ⟨nq,osq,rfl⟩
             clear y0 y1 y2 y3 y4 y5 y6 y7 y8 y9 y10 q0 q1 q2 q3 q4 q5 q6 q7 q8 q9 q10 B0
             generalize (grow (W.drewN nq) osq)=w5 at *
             go_wp2
             go_ret
             exact ⟨by rw [E.out];rfl,HG2.out⟩
          | true =>
           cases t4 with
           | false =>
            go_wp2
            go_ret
            exact ⟨by rw [E.out];first | rfl | (show Ending.returned (.bool false)=_;simp),(Grw.refl _).alloc _⟩
           | true =>
            cases fin with
            | false =>
             cases t5 with
             | false =>
              cases t6 with
              | false =>
               go_wp2
               go_ret
               exact ⟨by rw [E.out];first | rfl | (show Ending.returned (.bool false)=_;simp),(Grw.refl _).alloc _⟩
              | true =>
               have X:=T9.out (by first | rfl | trivial) (by first | rfl | trivial)
               have X1:=X.1
               have X2:Hid (∀ w,Calls Tryz.prog 179 #[.int .i64 (nx - un)] w fun e w'=>e=.returned (.int .i64 zz)∧Grw w w'):=X.2
               clear X T9
               go_wp2_with fail
               generalize w.alloc (.cells #[.string mc,.int .i64 ip,.int .i64 po,.int .i64 di,.int .i64 st,.int .i64 un,.int .i64 nx,.int .i64 wa,.string inn,.string out,.bool false] 162)=W at *
               have y0:∀ n os,(grow (W.drewN n) os).cell? ⟨w.heap.size,0,none⟩=some (.string mc):=fun n os=>bkeep (Grw.below ⟨n,os,rfl⟩) q0
               have y1:∀ n os,(grow (W.drewN n) os).cell? ⟨w.heap.size,1,none⟩=some (.int .i64 ip):=fun n os=>bkeep (Grw.below ⟨n,os,rfl⟩) q1
               have y2:∀ n os,(grow (W.drewN n) os).cell? ⟨w.heap.size,2,none⟩=some (.int .i64 po):=fun n os=>bkeep (Grw.below ⟨n,os,rfl⟩) q2
               have y3:∀ n os,(grow (W.drewN n) os).cell? ⟨w.heap.size,3,none⟩=some (.int .i64 di):=fun n os=>bkeep (Grw.below ⟨n,os,rfl⟩) q3
               have y4:∀ n os,(grow (W.drewN n) os).cell? ⟨w.heap.size,4,none⟩=some (.int .i64 st):=fun n os=>bkeep (Grw.below ⟨n,os,rfl⟩) q4
               have y5:∀ n os,(grow (W.drewN n) os).cell? ⟨w.heap.size,5,none⟩=some (.int .i64 un):=fun n os=>bkeep (Grw.below ⟨n,os,rfl⟩) q5
               have y6:∀ n os,(grow (W.drewN n) os).cell? ⟨w.heap.size,6,none⟩=some (.int .i64 nx):=fun n os=>bkeep (Grw.below ⟨n,os,rfl⟩) q6
               have y7:∀ n os,(grow (W.drewN n) os).cell? ⟨w.heap.size,7,none⟩=some (.int .i64 wa):=fun n os=>bkeep (Grw.below ⟨n,os,rfl⟩) q7
               have y8:∀ n os,(grow (W.drewN n) os).cell? ⟨w.heap.size,8,none⟩=some (.string inn):=fun n os=>bkeep (Grw.below ⟨n,os,rfl⟩) q8
               have y9:∀ n os,(grow (W.drewN n) os).cell? ⟨w.heap.size,9,none⟩=some (.string out):=fun n os=>bkeep (Grw.below ⟨n,os,rfl⟩) q9
               have y10:∀ n os,(grow (W.drewN n) os).cell? ⟨w.heap.size,10,none⟩=some (.bool false):=fun n os=>bkeep (Grw.below ⟨n,os,rfl⟩) q10
               refine wp_region_quiet_grown (by assumption) (by kernel_rfl) ?_
               repeat (go_big_quiet_step (first | fail | (first | (go_at_call 179;exact Calls.grown_of (X2.out _)) | (go_at_call 180;exact Calls.grown_of (T10.out _)))))
               refine wpQuiet_nil ?_
               intro _ hw'
               obtain ⟨⟨nq,osq⟩,hw''⟩:=hw'
               subst hw''
               have HG2:Hid (Grw w (grow (W.drewN nq) osq)):=B0.out.trans ⟨nq,osq,rfl⟩
               clear y0 y1 y2 y3 y4 y5 y6 y7 y8 y9 y10 q0 q1 q2 q3 q4 q5 q6 q7 q8 q9 q10 B0
               generalize (grow (W.drewN nq) osq)=w5 at *
               go_wp2
               go_ret
               exact ⟨by rw [E.out];rfl,HG2.out⟩
             | true =>
              go_wp2
              go_ret
              exact ⟨by rw [E.out];first | rfl | (show Ending.returned (.bool false)=_;simp),(Grw.refl _).alloc _⟩
            | true =>
             cases t5 with
             | false =>
              go_wp2
              go_ret
              exact ⟨by rw [E.out];first | rfl | (show Ending.returned (.bool false)=_;simp),(Grw.refl _).alloc _⟩
             | true =>
              have X:=T9.out (by first | rfl | trivial) (by first | rfl | trivial)
              have X1:=X.1
              have X2:Hid (∀ w,Calls Tryz.prog 179 #[.int .i64 (nx - un)] w fun e w'=>e=.returned (.int .i64 zz)∧Grw w w'):=X.2
              clear X T9
              go_wp2_with fail
              generalize w.alloc (.cells #[.string mc,.int .i64 ip,.int .i64 po,.int .i64 di,.int .i64 st,.int .i64 un,.int .i64 nx,.int .i64 wa,.string inn,.string out,.bool true] 162)=W at *
              have y0:∀ n os,(grow (W.drewN n) os).cell? ⟨w.heap.size,0,none⟩=some (.string mc):=fun n os=>bkeep (Grw.below ⟨n,os,rfl⟩) q0
              have y1:∀ n os,(grow (W.drewN n) os).cell? ⟨w.heap.size,1,none⟩=some (.int .i64 ip):=fun n os=>bkeep (Grw.below ⟨n,os,rfl⟩) q1
              have y2:∀ n os,(grow (W.drewN n) os).cell? ⟨w.heap.size,2,none⟩=some (.int .i64 po):=fun n os=>bkeep (Grw.below ⟨n,os,rfl⟩) q2
              have y3:∀ n os,(grow (W.drewN n) os).cell? ⟨w.heap.size,3,none⟩=some (.int .i64 di):=fun n os=>bkeep (Grw.below ⟨n,os,rfl⟩) q3
              have y4:∀ n os,(grow (W.drewN n) os).cell? ⟨w.heap.size,4,none⟩=some (.int .i64 st):=fun n os=>bkeep (Grw.below ⟨n,os,rfl⟩) q4
              have y5:∀ n os,(grow (W.drewN n) os).cell? ⟨w.heap.size,5,none⟩=some (.int .i64 un):=fun n os=>bkeep (Grw.below ⟨n,os,rfl⟩) q5
              have y6:∀ n os,(grow (W.drewN n) os).cell? ⟨w.heap.size,6,none⟩=some (.int .i64 nx):=fun n os=>bkeep (Grw.below ⟨n,os,rfl⟩) q6
              have y7:∀ n os,(grow (W.drewN n) os).cell? ⟨w.heap.size,7,none⟩=some (.int .i64 wa):=fun n os=>bkeep (Grw.below ⟨n,os,rfl⟩) q7
              have y8:∀ n os,(grow (W.drewN n) os).cell? ⟨w.heap.size,8,none⟩=some (.string inn):=fun n os=>bkeep (Grw.below ⟨n,os,rfl⟩) q8
              have y9:∀ n os,(grow (W.drewN n) os).cell? ⟨w.heap.size,9,none⟩=some (.string out):=fun n os=>bkeep (Grw.below ⟨n,os,rfl⟩) q9
              have y10:∀ n os,(grow (W.drewN n) os).cell? ⟨w.heap.size,10,none⟩=some (.bool true):=fun n os=>bkeep (Grw.below ⟨n,os,rfl⟩) q10
              refine wp_region_quiet_grown (by assumption) (by kernel_rfl) ?_
              repeat (go_big_quiet_step (first | fail | (first | (go_at_call 179;exact Calls.grown_of (X2.out _)) | (go_at_call 180;exact Calls.grown_of (T10.out _)))))
              refine wpQuiet_nil ?_
              intro _ hw'
              obtain ⟨⟨nq,osq⟩,hw''⟩:=hw'
              subst hw''
              have HG2:Hid (Grw w (grow (W.drewN nq) osq)):=B0.out.trans ⟨nq,osq,rfl⟩
              clear y0 y1 y2 y3 y4 y5 y6 y7 y8 y9 y10 q0 q1 q2 q3 q4 q5 q6 q7 q8 q9 q10 B0
              generalize (grow (W.drewN nq) osq)=w5 at *
              go_wp2
              go_ret
              exact ⟨by rw [E.out];rfl,HG2.out⟩
         | true =>
          go_wp2
          go_ret
          exact ⟨by rw [E.out];first | rfl | (show Ending.returned (.bool false)=_;simp),(Grw.refl _).alloc _⟩
        | true =>
         go_wp2
         go_ret
         exact ⟨by rw [E.out];first | rfl | (show Ending.returned (.bool false)=_;simp),(Grw.refl _).alloc _⟩
set_option maxHeartbeats 2000000 in
theorem l08Session_any (A:GtA) (g:GtV) (q:Int) (w:World) (h:Rw SeR 10 w A.sa g.ss) (hn:g.ss.length≤1048576) :
  Calls Tryz.prog 117 #[.agg #[.slice A.ua g.us.length A.uc,.slice A.sa g.ss.length A.sc,.slice A.fa g.fs.length A.fc,.slice A.ra g.es.length A.rc,.int .i64 g.nx],.int .i64 q] w fun e w'=>e=.returned (.int .i64 (ixI (siP q) g.ss))∧Grw w w':=by
 obtain ⟨a,ha⟩:∃ a,A.sa=a:=⟨_,rfl⟩
 rw [ha] at h ⊢
 have RY:Hid (Rw SeR 10 w a g.ss):=h
 clear h
 obtain ⟨n,hl⟩:∃ n,g.ss.length=n:=⟨_,rfl⟩
 rw [hl] at hn ⊢
 generalize g.ss=xs at *
 go_enter Tryz.func117,Tryz.ntmps117
 go_wp2
 go_loopw [5] (fun u wr=>∃ k:Nat,k≤n∧u=.int .i64 k∧Hid ((xs.take k).find? (siP q)=none)∧Hid (Grw w wr)∧Hid (wr.cell? ⟨w.heap.size,1,none⟩=some (.slice a n A.sc))) (fun u _=>n - (intOf u).toNat)
 case atStart=>exact ⟨0,Nat.zero_le _,rfl,rfl,(Grw.refl _).alloc _,by show _=_;simp [go_sem]⟩
 case round =>
  obtain ⟨k,hk,rfl,HO,HG,HC⟩:=hrel
  have hc1:=HC.out
  by_cases hlt:k<n
  ·obtain ⟨z,hx⟩:=at_of hl hlt
   obtain ⟨bk,off,vs,rfl,hb,hvl,hR,hc⟩:=RY.out.at SeR.kp HG.out.below hx
   have HY:Hid (siP q z=true→ixI (siP q) xs=k):=fun h=>ixI_at hx HO.out h
   have HN:Hid (siP q z=false→(xs.take (k+1)).find? (siP q)=none):=fun h=>ixI_no hx HO.out h
   obtain ⟨rfl,-⟩:=hR
   have q0:wr.cell? ⟨bk,off+k * 10,none⟩=some (.int .i64 z.id):=hc 0 _ rfl
   have hltz:(k:Int)<(n:Int):=by omega
   unfold siP at HY HN
   obtain ⟨u,hu⟩:∃ u,(z.id == q)=u:=⟨_,rfl⟩
   rw [hu] at HY HN
   clear hc hvl hx
   cases u with
   | false =>
    have HN':Hid ((xs.take (k+1)).find? (fun s=>s.id == q)=none):=HN.out rfl
    clear HY HN
    go_wp2
    go_roundw
    case rel=>exact ⟨k+1,by omega,by go_num,HN',HG,HC⟩
    case measure=>simp [intOf];omega
   | true =>
    have HY':Hid (ixI (fun s=>s.id == q) xs=k):=HY.out rfl
    clear HY HN
    go_wp2
    go_ret
    exact ⟨by rw [show ixI (siP q) xs=k from HY'.out];rfl,HG.out⟩
  ·obtain rfl:k=n:=by omega
   have hd:Hid (ixI (siP q) xs=-1):=ixI_end hl HO.out
   go_wp2
   go_ret
   exact ⟨by rw [hd.out];rfl,HG.out⟩
set_option maxHeartbeats 8000000 in
theorem l13Conns_any (a:Option Addr) (n c:Nat) (co:List ConnV) (w:World) (h:Rw CnR 11 w a co) (hl:co.length=n) (hn:n≤1048576) (hsz:∀ x,x ∈ co→(x.mc.size:Int)≤1048576∧(x.inn.size:Int)≤1048576∧(x.out.size:Int)≤1048576) :
  Calls Tryz.prog 116 #[.slice a n c] w fun e w'=>e=.returned (.bool (cnB co))∧Grw w w':=by
 have RW:Hid (Rw CnR 11 w a co):=h
 have SZ:Hid (∀ x,x ∈ co→(x.mc.size:Int)≤1048576∧(x.inn.size:Int)≤1048576∧(x.out.size:Int)≤1048576):=hsz
 have hmix:Tryz.prog.follows .mixedOrders=true:=by kernel_rfl
 clear h hsz
 go_enter Tryz.func116,Tryz.ntmps116
 go_wp2
 go_loopw [3] (fun x wr=>∃ i:Nat,i≤n∧x=.int .i64 i∧Hid (cnOk co i)∧Hid (Grw w wr)) (fun x _=>n - (intOf x).toNat)
 case atStart=>exact ⟨0,Nat.zero_le _,rfl,cnOk_zero co,Grw.refl _⟩
 case round =>
  obtain ⟨i,hi,rfl,HO,HG⟩:=hrel
  by_cases hlt:i<n
  ·obtain ⟨x,hx⟩:=at_of hl hlt
   have hiz:(i:Int)<(n:Int):=by omega
   obtain ⟨b,off,vs,rfl,hb,hvl,hR,hc⟩:=RW.out.at FR.kp HG.out.below hx
   have SX:=SZ.out _ (List.mem_of_getElem? hx)
   have HN:Hid (cnAt co i x=false→cnB co=false):=fun h=>cnB_no hx h
   have HY:Hid (cnAt co i x=true→cnOk co (i+1)):=fun h=>cnOk_step HO.out hx h
   obtain ⟨mc,ip,po,di,st,un,nx,wa,inn,out,fin⟩:=x
   obtain ⟨rfl,hok⟩:=hR
   have E:Hid (cnAt co i ⟨mc,ip,po,di,st,un,nx,wa,inn,out,fin⟩=(okB ⟨mc,ip,po,di,st,un,nx,wa,inn,out,fin⟩ && (!(st == 4) && !((co.take i).any (cnP ip po di))))):=rfl
   rw [E.out] at HN HY
   clear E
   have q0:wr.cell? ⟨b,off+i * 11,none⟩=some (.string mc):=hc 0 _ rfl
   have q1:wr.cell? ⟨b,off+i * 11+1,none⟩=some (.int .i64 ip):=hc 1 _ rfl
   have q2:wr.cell? ⟨b,off+i * 11+2,none⟩=some (.int .i64 po):=hc 2 _ rfl
   have q3:wr.cell? ⟨b,off+i * 11+3,none⟩=some (.int .i64 di):=hc 3 _ rfl
   have q4:wr.cell? ⟨b,off+i * 11+4,none⟩=some (.int .i64 st):=hc 4 _ rfl
   have q5:wr.cell? ⟨b,off+i * 11+5,none⟩=some (.int .i64 un):=hc 5 _ rfl
   have q6:wr.cell? ⟨b,off+i * 11+6,none⟩=some (.int .i64 nx):=hc 6 _ rfl
   have q7:wr.cell? ⟨b,off+i * 11+7,none⟩=some (.int .i64 wa):=hc 7 _ rfl
   have q8:wr.cell? ⟨b,off+i * 11+8,none⟩=some (.string inn):=hc 8 _ rfl
   have q9:wr.cell? ⟨b,off+i * 11+9,none⟩=some (.string out):=hc 9 _ rfl
   have q10:wr.cell? ⟨b,off+i * 11+10,none⟩=some (.bool fin):=hc 10 _ rfl
   clear hc hvl hok
   have HF:Hid (∀ w,Calls Tryz.prog 149 #[.agg #[.string mc,.int .i64 ip,.int .i64 po,.int .i64 di,.int .i64 st,.int .i64 un,.int .i64 nx,.int .i64 wa,.string inn,.string out,.bool fin]] w fun e w'=>e=.returned (.bool (okB ⟨mc,ip,po,di,st,un,nx,wa,inn,out,fin⟩))∧Grw w w'):=fun w=>specConOK_any mc ip po di st un nx wa inn out fin w (by have:=SX.1;dsimp only at this;omega) (by have:=SX.2.1;dsimp only at this;omega) (by have:=SX.2.2;dsimp only at this;omega)
   clear SX hx HO
   generalize okB ⟨mc,ip,po,di,st,un,nx,wa,inn,out,fin⟩=z1 at HF HN HY
   cases z1 with
   | false =>
    have hd:Hid (cnB co=false):=HN.out rfl
    clear HN HY
    go_wp2_with fail
    refine (HF.out _).mono ?_
    rintro e w2 ⟨rfl,g2⟩
    have HG2:Hid (Grw w w2):=(HG.out.alloc _).trans g2
    clear g2 HG
    go_wp2
    go_ret
    exact ⟨by rw [hd.out];rfl,HG2.out⟩
   | true =>
    go_wp2_with fail
    refine (HF.out _).mono ?_
    rintro e w2 ⟨rfl,g2⟩
    have HG2:Hid (Grw w w2):=(HG.out.alloc _).trans g2
    have k0:w2.cell? ⟨wr.heap.size,0,none⟩=some (.string mc):=g2.keep (by simp)
    have k1:w2.cell? ⟨wr.heap.size,1,none⟩=some (.int .i64 ip):=g2.keep (by simp)
    have k2:w2.cell? ⟨wr.heap.size,2,none⟩=some (.int .i64 po):=g2.keep (by simp)
    have k3:w2.cell? ⟨wr.heap.size,3,none⟩=some (.int .i64 di):=g2.keep (by simp)
    have k4:w2.cell? ⟨wr.heap.size,4,none⟩=some (.int .i64 st):=g2.keep (by simp)
    have k5:w2.cell? ⟨wr.heap.size,5,none⟩=some (.int .i64 un):=g2.keep (by simp)
    have k6:w2.cell? ⟨wr.heap.size,6,none⟩=some (.int .i64 nx):=g2.keep (by simp)
    have k7:w2.cell? ⟨wr.heap.size,7,none⟩=some (.int .i64 wa):=g2.keep (by simp)
    have k8:w2.cell? ⟨wr.heap.size,8,none⟩=some (.string inn):=g2.keep (by simp)
    have k9:w2.cell? ⟨wr.heap.size,9,none⟩=some (.string out):=g2.keep (by simp)
    have k10:w2.cell? ⟨wr.heap.size,10,none⟩=some (.bool fin):=g2.keep (by simp)
    have hB0:wr.heap.size<w2.heap.size:=World.block_lt_of_cell? w2 _ k0
    clear g2 HG HF q0 q1 q2 q3 q4 q5 q6 q7 q8 q9 q10
    by_cases h4:st=4
    ·have h4z:(st == 4)=true:=by simp [h4]
     rw [h4z] at HN
     have hd:Hid (cnB co=false):=HN.out rfl
     clear HN HY h4
     go_wp2
     go_ret
     exact ⟨by rw [hd.out];rfl,HG2.out⟩
    have h4z:(st == 4)=false:=by simp [h4]
    rw [h4z] at HN HY
    clear h4
    go_wp2
    generalize wr.heap.size=B0 at k0 k1 k2 k3 k4 k5 k6 k7 k8 k9 k10 hB0 ⊢
    clear wr
    go_loopw [5] (fun y wr2=>∃ k:Nat,k≤i∧y=.int .i64 k∧Hid ((co.take k).any (cnP ip po di)=false)∧Hid (Grw w2 wr2)) (fun y _=>i - (intOf y).toNat)
    case atStart=>exact ⟨0,Nat.zero_le _,rfl,by show _=_;simp,Grw.refl _⟩
    case round =>
     obtain ⟨k,hk,rfl,HB,HG3⟩:=hrel
     by_cases hki:k<i
     ·obtain ⟨y,hy⟩:=at_of (k:=k) hl (by omega)
      have hkz:(k:Int)<(i:Int):=by omega
      have hkl:(k:Int)<(n:Int):=by omega
      obtain ⟨b',off',vs',e',hb',hvl',hR',hc'⟩:=RW.out.at FR.kp (HG2.out.trans HG3.out).below hy
      cases e'
      have hbz:b<wr.heap.size:=Nat.lt_of_lt_of_le hb' (HG2.out.trans HG3.out).below.size
      have hBz:B0<wr.heap.size:=Nat.lt_of_lt_of_le hB0 HG3.out.below.size
      have hstep:=any_take_step (p:=cnP ip po di) hy
      rw [HB.out,Bool.false_or] at hstep
      have HYS:Hid ((co.take i).any (cnP ip po di)=false→cnP ip po di y=false):=fun h=>by
       rw [List.any_eq_false] at h
       have:=h y (by rw [List.mem_iff_getElem?];exact ⟨k,by rw [List.getElem?_take,if_pos hki];exact hy⟩)
       simpa using this
      have HST:Hid ((co.take (k+1)).any (cnP ip po di)=cnP ip po di y):=hstep
      clear hstep hy hvl' hb'
      obtain ⟨rfl,-⟩:=hR'
      have p1:∀ n os,(grow (wr.drewN n) os).cell? ⟨b,off+k * 11+1,none⟩=some (.int .i64 y.ip):=fun n os=>cell_grown hbz (hc' 1 _ rfl) n os
      have p2:∀ n os,(grow (wr.drewN n) os).cell? ⟨b,off+k * 11+2,none⟩=some (.int .i64 y.po):=fun n os=>cell_grown hbz (hc' 2 _ rfl) n os
      have p3:∀ n os,(grow (wr.drewN n) os).cell? ⟨b,off+k * 11+3,none⟩=some (.int .i64 y.di):=fun n os=>cell_grown hbz (hc' 3 _ rfl) n os
      have m1:∀ n os,(grow (wr.drewN n) os).cell? ⟨B0,1,none⟩=some (.int .i64 ip):=fun n os=>cell_grown hBz (HG3.out.keep k1) n os
      have m2:∀ n os,(grow (wr.drewN n) os).cell? ⟨B0,2,none⟩=some (.int .i64 po):=fun n os=>cell_grown hBz (HG3.out.keep k2) n os
      have m3:∀ n os,(grow (wr.drewN n) os).cell? ⟨B0,3,none⟩=some (.int .i64 di):=fun n os=>cell_grown hBz (HG3.out.keep k3) n os
      have E:Hid (cnP ip po di y=((y.ip == ip) && ((y.po == po) && (y.di == di)))):=rfl
      rw [E.out] at HYS HST
      clear hc' E
      obtain ⟨u0,hu0⟩:∃ u,(y.ip == ip)=u:=⟨_,rfl⟩
      obtain ⟨u1,hu1⟩:∃ u,(y.po == po)=u:=⟨_,rfl⟩
      obtain ⟨u2,hu2⟩:∃ u,(y.di == di)=u:=⟨_,rfl⟩
      rw [hu0,hu1,hu2] at HYS HST
      by_cases hall:(u0 && (u1 && u2))=true
      ·obtain rfl:u0=true:=by revert hall;cases u0 <;> simp
       obtain rfl:u1=true:=by revert hall;cases u1 <;> simp
       obtain rfl:u2=true:=by revert hall;cases u2 <;> simp
       have hd:Hid (cnB co=false):=HN.out (by
        cases hq:(co.take i).any (cnP ip po di) with
        | true=>rfl
        | false=>have:=HYS.out hq;simp at this)
       clear HN HY HYS HST HB hall
       go_wp2_with fail
       refine wp_region_quiet_grown (by assumption) (by kernel_rfl) ?_
       repeat (go_big_quiet_step (first | fail | fail))
       refine wpQuiet_nil ?_
       intro _ hw'
       obtain ⟨⟨nq,osq⟩,hw''⟩:=hw'
       subst hw''
       go_wp2
       go_ret
       exact ⟨by rw [hd.out];rfl,(HG2.out.trans HG3.out).trans ⟨nq,osq,rfl⟩⟩
      ·have HB2:Hid ((co.take (k+1)).any (cnP ip po di)=false):=by show _=_;rw [HST.out];simpa using hall
       clear HYS HST HB
       cases u0 with
       | false =>
        go_wp2_with fail
        refine wp_region_quiet_grown (by assumption) (by kernel_rfl) ?_
        repeat (go_big_quiet_step (first | fail | fail))
        refine wpQuiet_nil ?_
        intro _ hw'
        obtain ⟨⟨nq,osq⟩,hw''⟩:=hw'
        subst hw''
        have HG4:Hid (Grw w2 (grow (wr.drewN nq) osq)):=HG3.out.trans ⟨nq,osq,rfl⟩
        clear HG3 p1 p2 p3 m1 m2 m3
        go_wp2
        go_roundw
        case rel=>exact ⟨k+1,by omega,by go_num,HB2,HG4⟩
        case measure=>simp [intOf];omega
       | true =>
        cases u1 with
        | false =>
         go_wp2_with fail
         refine wp_region_quiet_grown (by assumption) (by kernel_rfl) ?_
         repeat (go_big_quiet_step (first | fail | fail))
         refine wpQuiet_nil ?_
         intro _ hw'
         obtain ⟨⟨nq,osq⟩,hw''⟩:=hw'
         subst hw''
         have HG4:Hid (Grw w2 (grow (wr.drewN nq) osq)):=HG3.out.trans ⟨nq,osq,rfl⟩
         clear HG3 p1 p2 p3 m1 m2 m3
         go_wp2
         go_roundw
         case rel=>exact ⟨k+1,by omega,by go_num,HB2,HG4⟩
         case measure=>simp [intOf];omega
        | true =>
         obtain rfl:u2=false:=by revert hall;cases u2 <;> simp
         go_wp2_with fail
         refine wp_region_quiet_grown (by assumption) (by kernel_rfl) ?_
         repeat (go_big_quiet_step (first | fail | fail))
         refine wpQuiet_nil ?_
         intro _ hw'
         obtain ⟨⟨nq,osq⟩,hw''⟩:=hw'
         subst hw''
         have HG4:Hid (Grw w2 (grow (wr.drewN nq) osq)):=HG3.out.trans ⟨nq,osq,rfl⟩
         clear HG3 p1 p2 p3 m1 m2 m3
         go_wp2
         go_roundw
         case rel=>exact ⟨k+1,by omega,by go_num,HB2,HG4⟩
         case measure=>simp [intOf];omega
     ·obtain rfl:k=i:=by omega
      have HO2:Hid (cnOk co (k+1)):=HY.out (by rw [HB.out];rfl)
      have HG4:Hid (Grw w wr):=HG2.out.trans HG3.out
      clear HN HY HG2 HG3 k0 k1 k2 k3 k4 k5 k6 k7 k8 k9 k10
      go_wp2
      go_roundw
      case rel=>exact ⟨k+1,by omega,by go_num,HO2,HG4⟩
      case measure=>simp [intOf];omega
  ·obtain rfl:i=n:=by omega
   have hd:Hid (cnB co=decide ((i:Int)≤3)):=cnB_of hl HO.out
   clear HO
   go_wp2
   go_ret
   exact ⟨by rw [hd.out];rfl,HG.out⟩
set_option maxHeartbeats 4000000 in
theorem specGate_any (A:GtA) (g:GtV) (w:World) (h:GtR w A g) (hs:GtS g) :
  Calls Tryz.prog 62 #[.agg #[.int .i64 g.ip,.int .i64 g.b,.int .i64 g.gt,.string g.gm,.string g.wm,.int .i64 g.rs,.slice A.x g.ps.length A.xc,.slice A.y g.ros.length A.yc,.slice A.ua g.us.length A.uc,.slice A.sa g.ss.length A.sc,.slice A.fa g.fs.length A.fc,.slice A.ra g.es.length A.rc,.int .i64 g.nx,.slice A.la g.fl.length A.lc,.slice A.ca g.co.length A.cc,.int .i64 g.nw,.int .i64 g.dr,.int .i64 g.sn]] w fun e w'=>e=.returned (.bool (gtB g))∧Grw w w':=by
 have GR:Hid (GtR w A g):=h
 have H1:Hid (∀ w,GtR w A g→Calls Tryz.prog 28 #[.agg #[.int .i64 g.ip,.int .i64 g.b,.int .i64 g.gt,.string g.gm,.string g.wm,.int .i64 g.rs,.slice A.x g.ps.length A.xc,.slice A.y g.ros.length A.yc],.agg #[.slice A.ua g.us.length A.uc,.slice A.sa g.ss.length A.sc,.slice A.fa g.fs.length A.fc,.slice A.ra g.es.length A.rc,.int .i64 g.nx]] w fun e w'=>e=.returned (.bool (gokB g.ip g.b g.gt g.gm g.wm g.rs g.ps g.ros g.us g.ss g.fs g.es g.nx))∧Grw w w'):=fun w h=>specGuests_any _ _ _ _ _ _ _ _ _ _ _ _ g.ps g.ros _ _ _ _ _ _ _ _ _ _ _ _ g.us g.ss g.fs g.es g.nx w h.ps rfl h.ros rfl hs.szr hs.ros h.us rfl h.ss rfl h.fs rfl h.es rfl (szU_of hs.szu (Int.le_refl _)) hs.us
 have H2:Hid (∀ w,GtR w A g→Calls Tryz.prog 115 #[.slice A.la g.fl.length A.lc] w fun e w'=>e=.returned (.bool (foB g.fl))∧Grw w w'):=fun w h=>specFlowsOK_any _ _ _ g.fl w h.fl rfl hs.fl
 have H3:Hid (∀ w,GtR w A g→Calls Tryz.prog 116 #[.slice A.ca g.co.length A.cc] w fun e w'=>e=.returned (.bool (cnB g.co))∧Grw w w'):=fun w h=>l13Conns_any _ _ _ g.co w h.co rfl hs.co hs.szc
 have H4:Hid (∀ w,GtR w A g→Calls Tryz.prog 74 #[.int .i64 g.nw,.int .i64 0,.int .i64 100000] w fun e w'=>e=.returned (.bool (dec (0≤g.nw∧g.nw≤100000)))∧Grw w w'):=fun w h=>(l01In_any g.nw 0 100000 w).mono fun e w' h=>⟨h.1,by rw [h.2];exact Grw.refl _⟩
 have H5:Hid (∀ w,GtR w A g→Calls Tryz.prog 74 #[.int .i64 g.dr,.int .i64 0,.int .i64 1000000] w fun e w'=>e=.returned (.bool (dec (0≤g.dr∧g.dr≤1000000)))∧Grw w w'):=fun w h=>(l01In_any g.dr 0 1000000 w).mono fun e w' h=>⟨h.1,by rw [h.2];exact Grw.refl _⟩
 have H6:Hid (∀ w,GtR w A g→Calls Tryz.prog 63 #[.int .i64 g.sn] w fun e w'=>e=.returned (.bool (dec (0≤g.sn∧g.sn≤4294967295)))∧Grw w w'):=fun w h=>(specIp_any g.sn w).mono fun e w' h=>⟨h.1,by rw [h.2];exact Grw.refl _⟩
 have H7:Hid (∀ (q:Int) w,GtR w A g→Calls Tryz.prog 117 #[.agg #[.slice A.ua g.us.length A.uc,.slice A.sa g.ss.length A.sc,.slice A.fa g.fs.length A.fc,.slice A.ra g.es.length A.rc,.int .i64 g.nx],.int .i64 q] w fun e w'=>e=.returned (.int .i64 (ixI (siP q) g.ss))∧Grw w w'):=fun q w h=>l08Session_any A g q w h.ss hs.ss
 have hfl:=hs.fl
 have OWN:Hid (foB g.fl=true→∀ f,f ∈ g.fl→0≤f.ow):=fun h f hf=>ow_nonneg h hf
 have E:Hid (gtB g=(gokB g.ip g.b g.gt g.gm g.wm g.rs g.ps g.ros g.us g.ss g.fs g.es g.nx && (foB g.fl && (owB g.ss g.fl && (cnB g.co && (dec (0≤g.nw∧g.nw≤100000) && (dec (0≤g.dr∧g.dr≤1000000) && dec (0≤g.sn∧g.sn≤4294967295)))))))):=rfl
 rw [E.out]
 clear E h hs
 generalize gokB g.ip g.b g.gt g.gm g.wm g.rs g.ps g.ros g.us g.ss g.fs g.es g.nx=q1 at H1 ⊢
 generalize foB g.fl=q2 at H2 OWN ⊢
 generalize cnB g.co=q3 at H3 ⊢
 generalize dec (0≤g.nw∧g.nw≤100000)=q4 at H4 ⊢
 generalize dec (0≤g.dr∧g.dr≤1000000)=q5 at H5 ⊢
 generalize dec (0≤g.sn∧g.sn≤4294967295)=q6 at H6 ⊢
 have G0:Hid (Bx (w.alloc (.cells #[.int .i64 g.ip,.int .i64 g.b,.int .i64 g.gt,.string g.gm,.string g.wm,.int .i64 g.rs,.slice A.x g.ps.length A.xc,.slice A.y g.ros.length A.yc,.slice A.ua g.us.length A.uc,.slice A.sa g.ss.length A.sc,.slice A.fa g.fs.length A.fc,.slice A.ra g.es.length A.rc,.int .i64 g.nx,.slice A.la g.fl.length A.lc,.slice A.ca g.co.length A.cc,.int .i64 g.nw,.int .i64 g.dr,.int .i64 g.sn] 50)) w.heap.size [.int .i64 g.ip,.int .i64 g.b,.int .i64 g.gt,.string g.gm,.string g.wm,.int .i64 g.rs,.slice A.x g.ps.length A.xc,.slice A.y g.ros.length A.yc,.slice A.ua g.us.length A.uc,.slice A.sa g.ss.length A.sc,.slice A.fa g.fs.length A.fc,.slice A.ra g.es.length A.rc,.int .i64 g.nx,.slice A.la g.fl.length A.lc,.slice A.ca g.co.length A.cc,.int .i64 g.nw,.int .i64 g.dr,.int .i64 g.sn]):=Bx.new w #[.int .i64 g.ip,.int .i64 g.b,.int .i64 g.gt,.string g.gm,.string g.wm,.int .i64 g.rs,.slice A.x g.ps.length A.xc,.slice A.y g.ros.length A.yc,.slice A.ua g.us.length A.uc,.slice A.sa g.ss.length A.sc,.slice A.fa g.fs.length A.fc,.slice A.ra g.es.length A.rc,.int .i64 g.nx,.slice A.la g.fl.length A.lc,.slice A.ca g.co.length A.cc,.int .i64 g.nw,.int .i64 g.dr,.int .i64 g.sn] 50
 have X0:Hid (Grw w (w.alloc (.cells #[.int .i64 g.ip,.int .i64 g.b,.int .i64 g.gt,.string g.gm,.string g.wm,.int .i64 g.rs,.slice A.x g.ps.length A.xc,.slice A.y g.ros.length A.yc,.slice A.ua g.us.length A.uc,.slice A.sa g.ss.length A.sc,.slice A.fa g.fs.length A.fc,.slice A.ra g.es.length A.rc,.int .i64 g.nx,.slice A.la g.fl.length A.lc,.slice A.ca g.co.length A.cc,.int .i64 g.nw,.int .i64 g.dr,.int .i64 g.sn] 50))):=(Grw.refl _).alloc _
 go_enter Tryz.func62,Tryz.ntmps62
 go_wp2_with fail
 refine (H1.out _ (GR.out.below X0.out.below)).mono ?_
 rintro e w1 ⟨rfl,gx⟩
 have G1:Hid (Bx w1 w.heap.size [.int .i64 g.ip,.int .i64 g.b,.int .i64 g.gt,.string g.gm,.string g.wm,.int .i64 g.rs,.slice A.x g.ps.length A.xc,.slice A.y g.ros.length A.yc,.slice A.ua g.us.length A.uc,.slice A.sa g.ss.length A.sc,.slice A.fa g.fs.length A.fc,.slice A.ra g.es.length A.rc,.int .i64 g.nx,.slice A.la g.fl.length A.lc,.slice A.ca g.co.length A.cc,.int .i64 g.nw,.int .i64 g.dr,.int .i64 g.sn]):=G0.out.below gx.below
 have X1:Hid (Grw w w1):=X0.out.trans gx
 clear gx G0 X0
 cases q1 with
 | false =>
  go_wp2
  go_ret
  exact ⟨by first | rfl | simp,X1.out⟩
 | true =>
  have u13:=G1.out.cell 13 rfl
  go_wp2_with fail
  refine (H2.out _ (GR.out.below X1.out.below)).mono ?_
  rintro e w2 ⟨rfl,gx⟩
  clear u13
  have G2:Hid (Bx w2 w.heap.size [.int .i64 g.ip,.int .i64 g.b,.int .i64 g.gt,.string g.gm,.string g.wm,.int .i64 g.rs,.slice A.x g.ps.length A.xc,.slice A.y g.ros.length A.yc,.slice A.ua g.us.length A.uc,.slice A.sa g.ss.length A.sc,.slice A.fa g.fs.length A.fc,.slice A.ra g.es.length A.rc,.int .i64 g.nx,.slice A.la g.fl.length A.lc,.slice A.ca g.co.length A.cc,.int .i64 g.nw,.int .i64 g.dr,.int .i64 g.sn]):=G1.out.below gx.below
  have X2:Hid (Grw w w2):=X1.out.trans gx
  clear gx G1 X1
  cases q2 with
  | false =>
   go_wp2
   go_ret
   exact ⟨by first | rfl | simp,X2.out⟩
  | true =>
   have u14:=G2.out.cell 14 rfl
   go_wp2_with fail
   refine (H3.out _ (GR.out.below X2.out.below)).mono ?_
   rintro e w3 ⟨rfl,gx⟩
   clear u14
   have G3:Hid (Bx w3 w.heap.size [.int .i64 g.ip,.int .i64 g.b,.int .i64 g.gt,.string g.gm,.string g.wm,.int .i64 g.rs,.slice A.x g.ps.length A.xc,.slice A.y g.ros.length A.yc,.slice A.ua g.us.length A.uc,.slice A.sa g.ss.length A.sc,.slice A.fa g.fs.length A.fc,.slice A.ra g.es.length A.rc,.int .i64 g.nx,.slice A.la g.fl.length A.lc,.slice A.ca g.co.length A.cc,.int .i64 g.nw,.int .i64 g.dr,.int .i64 g.sn]):=G2.out.below gx.below
   have X3:Hid (Grw w w3):=X2.out.trans gx
   clear gx G2 X2
   cases q3 with
   | false =>
    go_wp2
    go_ret
    exact ⟨by first | rfl | simp,X3.out⟩
   | true =>
    have u15:=G3.out.cell 15 rfl
    go_wp2_with fail
    refine (H4.out _ (GR.out.below X3.out.below)).mono ?_
    rintro e w4 ⟨rfl,gx⟩
    clear u15
    have G4:Hid (Bx w4 w.heap.size [.int .i64 g.ip,.int .i64 g.b,.int .i64 g.gt,.string g.gm,.string g.wm,.int .i64 g.rs,.slice A.x g.ps.length A.xc,.slice A.y g.ros.length A.yc,.slice A.ua g.us.length A.uc,.slice A.sa g.ss.length A.sc,.slice A.fa g.fs.length A.fc,.slice A.ra g.es.length A.rc,.int .i64 g.nx,.slice A.la g.fl.length A.lc,.slice A.ca g.co.length A.cc,.int .i64 g.nw,.int .i64 g.dr,.int .i64 g.sn]):=G3.out.below gx.below
    have X4:Hid (Grw w w4):=X3.out.trans gx
    clear gx G3 X3
    cases q4 with
    | false =>
     go_wp2
     go_ret
     exact ⟨by first | rfl | simp,X4.out⟩
    | true =>
     have u16:=G4.out.cell 16 rfl
     go_wp2_with fail
     refine (H5.out _ (GR.out.below X4.out.below)).mono ?_
     rintro e w5 ⟨rfl,gx⟩
     clear u16
     have G5:Hid (Bx w5 w.heap.size [.int .i64 g.ip,.int .i64 g.b,.int .i64 g.gt,.string g.gm,.string g.wm,.int .i64 g.rs,.slice A.x g.ps.length A.xc,.slice A.y g.ros.length A.yc,.slice A.ua g.us.length A.uc,.slice A.sa g.ss.length A.sc,.slice A.fa g.fs.length A.fc,.slice A.ra g.es.length A.rc,.int .i64 g.nx,.slice A.la g.fl.length A.lc,.slice A.ca g.co.length A.cc,.int .i64 g.nw,.int .i64 g.dr,.int .i64 g.sn]):=G4.out.below gx.below
     have X5:Hid (Grw w w5):=X4.out.trans gx
     clear gx G4 X4
     cases q5 with
     | false =>
      go_wp2
      go_ret
      exact ⟨by first | rfl | simp,X5.out⟩
     | true =>
      have u17:=G5.out.cell 17 rfl
      go_wp2_with fail
      refine (H6.out _ (GR.out.below X5.out.below)).mono ?_
      rintro e w6 ⟨rfl,gx⟩
      clear u17
      have G6:Hid (Bx w6 w.heap.size [.int .i64 g.ip,.int .i64 g.b,.int .i64 g.gt,.string g.gm,.string g.wm,.int .i64 g.rs,.slice A.x g.ps.length A.xc,.slice A.y g.ros.length A.yc,.slice A.ua g.us.length A.uc,.slice A.sa g.ss.length A.sc,.slice A.fa g.fs.length A.fc,.slice A.ra g.es.length A.rc,.int .i64 g.nx,.slice A.la g.fl.length A.lc,.slice A.ca g.co.length A.cc,.int .i64 g.nw,.int .i64 g.dr,.int .i64 g.sn]):=G5.out.below gx.below
      have X6:Hid (Grw w w6):=X5.out.trans gx
      clear gx G5 X5
      cases q6 with
      | false =>
       go_wp2
       go_ret
       exact ⟨by first | rfl | simp,X6.out⟩
      | true =>
       have OW:=OWN.out (by simp)
       replace OW:Hid (∀ f,f ∈ g.fl→0≤f.ow):=OW
       clear OWN H1 H2 H3 H4 H5 H6
       have u13:=G6.out.cell 13 rfl
       go_wp2
       clear u13
       have E:Hid (∀ z,owB g.ss g.fl=z→(true && (true && (owB g.ss g.fl && (true && (true && (true && true))))))=z):=fun z h=>by rw [h];simp
       go_loopw [3] (fun x wr=>∃ k:Nat,k≤g.fl.length∧x=.int .i64 k∧Hid ((g.fl.take k).any (owP g.ss)=false)∧Hid (Bx wr w.heap.size [.int .i64 g.ip,.int .i64 g.b,.int .i64 g.gt,.string g.gm,.string g.wm,.int .i64 g.rs,.slice A.x g.ps.length A.xc,.slice A.y g.ros.length A.yc,.slice A.ua g.us.length A.uc,.slice A.sa g.ss.length A.sc,.slice A.fa g.fs.length A.fc,.slice A.ra g.es.length A.rc,.int .i64 g.nx,.slice A.la g.fl.length A.lc,.slice A.ca g.co.length A.cc,.int .i64 g.nw,.int .i64 g.dr,.int .i64 g.sn])∧Hid (Grw w wr)) (fun x _=>g.fl.length - (intOf x).toNat)
       case atStart=>exact ⟨0,Nat.zero_le _,rfl,by show _=_;simp,G6,X6⟩
       case round =>
        obtain ⟨k,hk,rfl,HO,HB,HG⟩:=hrel
        have u13:=HB.out.cell 13 rfl
        by_cases hlt:k<g.fl.length
        ·obtain ⟨x,hx⟩:=at_of rfl hlt
         have hltz:(k:Int)<(g.fl.length:Int):=by omega
         obtain ⟨b,off,vs,ea,hb,hvl,hR,hc⟩:=GR.out.fl.at FR.kp HG.out.below hx
         rw [ea] at u13
         clear ea
         have hst:=any_take_step (p:=owP g.ss) hx
         rw [HO.out,Bool.false_or] at hst
         have HST:Hid ((g.fl.take (k+1)).any (owP g.ss)=owP g.ss x):=hst
         have HNO:Hid (owP g.ss x=true→owB g.ss g.fl=false):=fun h=>by
          unfold owB
          have:g.fl.any (owP g.ss)=true:=List.any_eq_true.2 ⟨x,List.mem_of_getElem? hx,h⟩
          rw [this];rfl
         have hox:=OW.out x (List.mem_of_getElem? hx)
         obtain ⟨rfl,-⟩:=hR
         have q8:wr.cell? ⟨b,off+k * 9+8,none⟩=some (.int .i64 x.ow):=hc 8 _ rfl
         have EO:Hid (owP g.ss x=((x.ow != 0) && decide (ixI (siP x.ow) g.ss<0))):=by show _=_;rw [ixI_neg];rfl
         rw [EO.out] at HST HNO
         have HC:=H7.out x.ow
         generalize ixI (siP x.ow) g.ss=r at HC HST HNO
         replace HC:Hid (∀ w,GtR w A g→Calls Tryz.prog 117 #[.agg #[.slice A.ua g.us.length A.uc,.slice A.sa g.ss.length A.sc,.slice A.fa g.fs.length A.fc,.slice A.ra g.es.length A.rc,.int .i64 g.nx],.int .i64 x.ow] w fun e w'=>e=.returned (.int .i64 r)∧Grw w w'):=HC
         clear EO hst hx hc hvl HO
         by_cases h0:x.ow=0
         ·have h0z:(x.ow != 0)=false:=by simp [h0]
          have h0p:decide ((0:Int)<x.ow)=false:=by simp [h0]
          have h0q:¬ (0:Int)<x.ow:=by omega
          rw [h0z] at HST
          have HO2:Hid ((g.fl.take (k+1)).any (owP g.ss)=false):=HST.out
          clear HST HNO h0 hox
          go_wp2
          go_roundw
          case rel=>exact ⟨k+1,by omega,by go_num,HO2,HB,HG⟩
          case measure=>simp [intOf];omega
         ·have h0z:(x.ow != 0)=true:=by simp [h0]
          have h0p:decide ((0:Int)<x.ow)=true:=by simp;omega
          have h0q:(0:Int)<x.ow:=by omega
          rw [h0z] at HST HNO
          clear h0 hox
          have u8:=HB.out.cell 8 rfl
          have u9:=HB.out.cell 9 rfl
          have u10:=HB.out.cell 10 rfl
          have u11:=HB.out.cell 11 rfl
          have u12:=HB.out.cell 12 rfl
          go_wp2_with fail
          refine (HC.out _ (GR.out.below HG.out.below)).mono ?_
          rintro e w7 ⟨rfl,g7⟩
          have HB7:Hid (Bx w7 w.heap.size [.int .i64 g.ip,.int .i64 g.b,.int .i64 g.gt,.string g.gm,.string g.wm,.int .i64 g.rs,.slice A.x g.ps.length A.xc,.slice A.y g.ros.length A.yc,.slice A.ua g.us.length A.uc,.slice A.sa g.ss.length A.sc,.slice A.fa g.fs.length A.fc,.slice A.ra g.es.length A.rc,.int .i64 g.nx,.slice A.la g.fl.length A.lc,.slice A.ca g.co.length A.cc,.int .i64 g.nw,.int .i64 g.dr,.int .i64 g.sn]):=HB.out.below g7.below
          have HG7:Hid (Grw w w7):=HG.out.trans g7
          clear g7 HB HG u13 q8 u8 u9 u10 u11 u12
          by_cases hr:r<0
          ·have hrz:decide (r<0)=true:=by simp [hr]
           have hd:Hid (owB g.ss g.fl=false):=HNO.out (by simp [hr])
           clear HST HNO
           go_wp2
           go_ret
           exact ⟨by first | (rw [E.out false hd.out];rfl) | (rw [hd.out];rfl),HG7.out⟩
          ·have hrz:decide (r<0)=false:=by simp;omega
           have HO2:Hid ((g.fl.take (k+1)).any (owP g.ss)=false):=by show _=_;rw [HST.out];simp;omega
           clear HST HNO
           go_wp2
           go_roundw
           case rel=>exact ⟨k+1,by omega,by go_num,HO2,HB7,HG7⟩
           case measure=>simp [intOf];omega
        ·have hkn:k=g.fl.length:=by omega
         have hd:Hid (owB g.ss g.fl=true):=by
          show _=_
          have:=HO.out
          rw [any_take_all (by omega)] at this
          unfold owB;rw [this];rfl
         have hltz:¬ ((k:Int)<(g.fl.length:Int)):=by omega
         clear HO
         go_wp2
         go_ret
         exact ⟨by first | (rw [E.out true hd.out];rfl) | (rw [hd.out];rfl),HG.out⟩
set_option maxHeartbeats 8000000 in
theorem l13Own_of (A:GtA) (g:GtV) (L:List RoX) (B:Nat) (w:World) (h:OwnGt w B A g L) (hr:GtR w A g) (hs:GtS g)
  (HG0:∀ W,Below w.heap.size w W→Calls Tryz.prog 77 #[.agg #[.int .i64 g.ip,.int .i64 g.b,.int .i64 g.gt,.string g.gm,.string g.wm,.int .i64 g.rs,.slice A.x g.ps.length A.xc,.slice A.y g.ros.length A.yc]] W fun e w'=>∃ (px ry:Option Addr) (pc rc:Nat) (X:List RoX),X.map (fun x=>x.r)=g.ros∧e=.returned (.agg #[.int .i64 g.ip,.int .i64 g.b,.int .i64 g.gt,.string g.gm,.string g.wm,.int .i64 g.rs,.slice px g.ps.length pc,.slice ry g.ros.length rc])∧(OwnS pv 4 135 w' W.heap.size (.slice px g.ps.length pc) g.ps∧OwnRo w' W.heap.size (.slice ry g.ros.length rc) X)∧Below W.heap.size W w') :
  Calls Tryz.prog 29 #[.agg #[.int .i64 g.ip,.int .i64 g.b,.int .i64 g.gt,.string g.gm,.string g.wm,.int .i64 g.rs,.slice A.x g.ps.length A.xc,.slice A.y g.ros.length A.yc,.slice A.ua g.us.length A.uc,.slice A.sa g.ss.length A.sc,.slice A.fa g.fs.length A.fc,.slice A.ra g.es.length A.rc,.int .i64 g.nx,.slice A.la g.fl.length A.lc,.slice A.ca g.co.length A.cc,.int .i64 g.nw,.int .i64 g.dr,.int .i64 g.sn]] w fun e w'=>∃ (px ry ux sx fx ex lx cx:Option Addr) (pc rc uc sc fc ec lc cc:Nat) (X:List RoX),e=.returned (.agg #[.int .i64 g.ip,.int .i64 g.b,.int .i64 g.gt,.string g.gm,.string g.wm,.int .i64 g.rs,.slice px g.ps.length pc,.slice ry g.ros.length rc,.slice ux g.us.length uc,.slice sx g.ss.length sc,.slice fx g.fs.length fc,.slice ex g.es.length ec,.int .i64 g.nx,.slice lx g.fl.length lc,.slice cx g.co.length cc,.int .i64 g.nw,.int .i64 g.dr,.int .i64 g.sn])∧OwnGt w' w.heap.size ⟨px,ry,ux,sx,fx,ex,lx,cx,pc,rc,uc,sc,fc,ec,lc,cc⟩ g X∧Below w.heap.size w w':=by
 have T0:Hid (CB w [.int .i64 g.ip,.int .i64 g.b,.int .i64 g.gt,.string g.gm,.string g.wm,.int .i64 g.rs,.slice A.x g.ps.length A.xc,.slice A.y g.ros.length A.yc,.slice A.ua g.us.length A.uc,.slice A.sa g.ss.length A.sc,.slice A.fa g.fs.length A.fc,.slice A.ra g.es.length A.rc,.int .i64 g.nx,.slice A.la g.fl.length A.lc,.slice A.ca g.co.length A.cc,.int .i64 g.nw,.int .i64 g.dr,.int .i64 g.sn] ((w.alloc (.cells #[.int .i64 g.ip,.int .i64 g.b,.int .i64 g.gt,.string g.gm,.string g.wm,.int .i64 g.rs,.slice A.x g.ps.length A.xc,.slice A.y g.ros.length A.yc,.slice A.ua g.us.length A.uc,.slice A.sa g.ss.length A.sc,.slice A.fa g.fs.length A.fc,.slice A.ra g.es.length A.rc,.int .i64 g.nx,.slice A.la g.fl.length A.lc,.slice A.ca g.co.length A.cc,.int .i64 g.nw,.int .i64 g.dr,.int .i64 g.sn] 50)).alloc (.cells #[.int .i64 0,.int .i64 0,.int .i64 0,.string ⟨#[]⟩,.string ⟨#[]⟩,.int .i64 0,.slice none 0 0,.slice none 0 0,.slice none 0 0,.slice none 0 0,.slice none 0 0,.slice none 0 0,.int .i64 0,.slice none 0 0,.slice none 0 0,.int .i64 0,.int .i64 0,.int .i64 0] 50))):=by
  refine ⟨?_,?_,?_,?_⟩
  ·exact (Bx.new w #[.int .i64 g.ip,.int .i64 g.b,.int .i64 g.gt,.string g.gm,.string g.wm,.int .i64 g.rs,.slice A.x g.ps.length A.xc,.slice A.y g.ros.length A.yc,.slice A.ua g.us.length A.uc,.slice A.sa g.ss.length A.sc,.slice A.fa g.fs.length A.fc,.slice A.ra g.es.length A.rc,.int .i64 g.nx,.slice A.la g.fl.length A.lc,.slice A.ca g.co.length A.cc,.int .i64 g.nw,.int .i64 g.dr,.int .i64 g.sn] 50).below ((Below.refl _ _).alloc (Nat.le_refl _) _)
  ·have:=Bx.new (w.alloc (.cells #[.int .i64 g.ip,.int .i64 g.b,.int .i64 g.gt,.string g.gm,.string g.wm,.int .i64 g.rs,.slice A.x g.ps.length A.xc,.slice A.y g.ros.length A.yc,.slice A.ua g.us.length A.uc,.slice A.sa g.ss.length A.sc,.slice A.fa g.fs.length A.fc,.slice A.ra g.es.length A.rc,.int .i64 g.nx,.slice A.la g.fl.length A.lc,.slice A.ca g.co.length A.cc,.int .i64 g.nw,.int .i64 g.dr,.int .i64 g.sn] 50)) #[.int .i64 0,.int .i64 0,.int .i64 0,.string ⟨#[]⟩,.string ⟨#[]⟩,.int .i64 0,.slice none 0 0,.slice none 0 0,.slice none 0 0,.slice none 0 0,.slice none 0 0,.slice none 0 0,.int .i64 0,.slice none 0 0,.slice none 0 0,.int .i64 0,.int .i64 0,.int .i64 0] 50
   rw [World.size_alloc] at this
   exact this
  ·exact ((Below.refl _ _).alloc (Nat.le_refl _) _).alloc (by simp) _
  ·simp
 have HG:Hid (∀ W,Below w.heap.size w W→Calls Tryz.prog 77 #[.agg #[.int .i64 g.ip,.int .i64 g.b,.int .i64 g.gt,.string g.gm,.string g.wm,.int .i64 g.rs,.slice A.x g.ps.length A.xc,.slice A.y g.ros.length A.yc]] W fun e w'=>∃ (px ry:Option Addr) (pc rc:Nat) (X:List RoX),X.map (fun x=>x.r)=g.ros∧e=.returned (.agg #[.int .i64 g.ip,.int .i64 g.b,.int .i64 g.gt,.string g.gm,.string g.wm,.int .i64 g.rs,.slice px g.ps.length pc,.slice ry g.ros.length rc])∧(OwnS pv 4 135 w' W.heap.size (.slice px g.ps.length pc) g.ps∧OwnRo w' W.heap.size (.slice ry g.ros.length rc) X)∧Below W.heap.size W w'):=HG0
 have HU:Hid (∀ W,Below w.heap.size w W→Calls Tryz.prog 78 #[.agg #[.slice A.ua g.us.length A.uc,.slice A.sa g.ss.length A.sc,.slice A.fa g.fs.length A.fc,.slice A.ra g.es.length A.rc,.int .i64 g.nx]] W fun e w'=>∃ (ux sx fx ex:Option Addr) (uc sc fc ec:Nat),e=.returned (.agg #[.slice ux g.us.length uc,.slice sx g.ss.length sc,.slice fx g.fs.length fc,.slice ex g.es.length ec,.int .i64 g.nx])∧Own4 w' W.heap.size (.slice ux g.us.length uc) (.slice sx g.ss.length sc) (.slice fx g.fs.length fc) (.slice ex g.es.length ec) g.us g.ss g.fs g.es∧Below W.heap.size W w'):=fun W hb=>by
  have s1:=own_spot h.gu.u
  have s2:=own_spot h.gu.s
  have s3:=own_spot h.gu.f
  have s4:=own_spot h.gu.r
  refine (l08Own_any A.ua A.sa A.fa A.ra g.us.length A.uc g.ss.length A.sc g.fs.length A.fc g.es.length A.rc g.us g.ss g.fs g.es g.nx W ⟨hr.us.keep UsR.kp hb,rfl,hs.us,s1.2.1,s1.2.2.1,s1.2.2.2⟩ ⟨hr.ss.keep SeR.kp hb,rfl,hs.ss,s2.2.1,s2.2.2.1,s2.2.2.2⟩ ⟨hr.fs.keep FaR.kp hb,rfl,hs.fs,s3.2.1,s3.2.2.1,s3.2.2.2⟩ ⟨hr.es.keep ReR.kp hb,rfl,hs.es,s4.2.1,s4.2.2.1,s4.2.2.2⟩).mono ?_
  rintro e w' ⟨vu,vs,vf,vr,rfl,o,b⟩
  obtain ⟨ux,uc,rfl,-⟩:=o.u.slice
  obtain ⟨sx,sc,rfl,-⟩:=o.s.slice
  obtain ⟨fx,fc,rfl,-⟩:=o.f.slice
  obtain ⟨ex,ec,rfl,-⟩:=o.r.slice
  exact ⟨ux,sx,fx,ex,uc,sc,fc,ec,rfl,o,b⟩
 have SF:Hid (∀ W,Below w.heap.size w W→Src FlR 9 W A.la g.fl.length A.lc g.fl):=fun W hb=>by
  have sp:=own_spot h.fl
  exact ⟨hr.fl.keep FR.kp hb,rfl,hs.fl,sp.2.1,sp.2.2.1,sp.2.2.2⟩
 have SC:Hid (∀ W,Below w.heap.size w W→Src CnR 11 W A.ca g.co.length A.cc g.co):=fun W hb=>by
  have sp:=own_spot h.co
  exact ⟨hr.co.keep FR.kp hb,rfl,hs.co,sp.2.1,sp.2.2.1,sp.2.2.2⟩
 clear h hr hs HG0
 go_enter Tryz.func29,Tryz.ntmps29
 go_wp2_with (first | (refine wpl_getO 40 rfl _ rfl w.heap.size 0 [.int .i64 g.ip,.int .i64 g.b,.int .i64 g.gt,.string g.gm,.string g.wm,.int .i64 g.rs,.slice A.x g.ps.length A.xc,.slice A.y g.ros.length A.yc] rfl T0.out.g rfl _ Tryz.underlying40 rfl rfl ?_) | fail)
 refine (HG.out _ T0.out.b).mono ?_
 rintro e w1 ⟨px,ry,pc,rc,X,hX,rfl,hp,bx⟩
 have T1:Hid (CB w [.int .i64 g.ip,.int .i64 g.b,.int .i64 g.gt,.string g.gm,.string g.wm,.int .i64 g.rs,.slice A.x g.ps.length A.xc,.slice A.y g.ros.length A.yc,.slice A.ua g.us.length A.uc,.slice A.sa g.ss.length A.sc,.slice A.fa g.fs.length A.fc,.slice A.ra g.es.length A.rc,.int .i64 g.nx,.slice A.la g.fl.length A.lc,.slice A.ca g.co.length A.cc,.int .i64 g.nw,.int .i64 g.dr,.int .i64 g.sn] w1):=T0.out.call bx
 have EX:Hid (X.map (fun x=>x.r)=g.ros):=hX
 have PA1:Hid (OwnS pv 4 135 w1 (w.heap.size+2) (.slice px g.ps.length pc) g.ps∧OwnRo w1 (w.heap.size+2) (.slice ry g.ros.length rc) X):=⟨hp.1.lower T0.out.z,hp.2.lower T0.out.z⟩
 clear bx hp T0 HG hX
 go_wp2_with (first | (refine wpl_putO 40 rfl _ _ rfl w.heap.size 0 _ rfl rfl T1.out.g rfl rfl rfl ?_;intro w2 hw2 _;have T2:Hid (CB w [.int .i64 g.ip,.int .i64 g.b,.int .i64 g.gt,.string g.gm,.string g.wm,.int .i64 g.rs,.slice px g.ps.length pc,.slice ry g.ros.length rc,.slice A.ua g.us.length A.uc,.slice A.sa g.ss.length A.sc,.slice A.fa g.fs.length A.fc,.slice A.ra g.es.length A.rc,.int .i64 g.nx,.slice A.la g.fl.length A.lc,.slice A.ca g.co.length A.cc,.int .i64 g.nw,.int .i64 g.dr,.int .i64 g.sn] w2):=(by rw [hw2];exact T1.out.put 0 [.int .i64 g.ip,.int .i64 g.b,.int .i64 g.gt,.string g.gm,.string g.wm,.int .i64 g.rs,.slice px g.ps.length pc,.slice ry g.ros.length rc]);have PA2:Hid (OwnS pv 4 135 w2 (w.heap.size+2) (.slice px g.ps.length pc) g.ps∧OwnRo w2 (w.heap.size+2) (.slice ry g.ros.length rc) X):=(by rw [hw2];exact ⟨own_putG PA1.out.1 (by omega) _ _,ro_putG PA1.out.2 (by omega) _ _⟩);clear hw2 T1 PA1) | (refine wpl_getO 46 rfl _ rfl w.heap.size 8 [.slice A.ua g.us.length A.uc,.slice A.sa g.ss.length A.sc,.slice A.fa g.fs.length A.fc,.slice A.ra g.es.length A.rc,.int .i64 g.nx] rfl T2.out.g rfl _ Tryz.underlying46 rfl rfl ?_) | fail)
 refine (HU.out _ T2.out.b).mono ?_
 rintro e w3 ⟨ux,sx,fx,ex,uc,sc,fc,ec,rfl,o4,bx⟩
 have T3:Hid (CB w [.int .i64 g.ip,.int .i64 g.b,.int .i64 g.gt,.string g.gm,.string g.wm,.int .i64 g.rs,.slice px g.ps.length pc,.slice ry g.ros.length rc,.slice A.ua g.us.length A.uc,.slice A.sa g.ss.length A.sc,.slice A.fa g.fs.length A.fc,.slice A.ra g.es.length A.rc,.int .i64 g.nx,.slice A.la g.fl.length A.lc,.slice A.ca g.co.length A.cc,.int .i64 g.nw,.int .i64 g.dr,.int .i64 g.sn] w3):=T2.out.call bx
 have PA3:Hid (OwnS pv 4 135 w3 (w.heap.size+2) (.slice px g.ps.length pc) g.ps∧OwnRo w3 (w.heap.size+2) (.slice ry g.ros.length rc) X):=⟨PA2.out.1.now bx,PA2.out.2.now bx⟩
 have PB3:Hid (Own4 w3 (w.heap.size+2) (.slice ux g.us.length uc) (.slice sx g.ss.length sc) (.slice fx g.fs.length fc) (.slice ex g.es.length ec) g.us g.ss g.fs g.es):=o4.lower T2.out.z
 clear HU T2 PA2 o4 bx
 go_wp2_with (first | (refine wpl_putO 46 rfl _ _ rfl w.heap.size 8 _ rfl rfl T3.out.g rfl rfl rfl ?_;intro w4 hw4 _;have T4:Hid (CB w [.int .i64 g.ip,.int .i64 g.b,.int .i64 g.gt,.string g.gm,.string g.wm,.int .i64 g.rs,.slice px g.ps.length pc,.slice ry g.ros.length rc,.slice ux g.us.length uc,.slice sx g.ss.length sc,.slice fx g.fs.length fc,.slice ex g.es.length ec,.int .i64 g.nx,.slice A.la g.fl.length A.lc,.slice A.ca g.co.length A.cc,.int .i64 g.nw,.int .i64 g.dr,.int .i64 g.sn] w4):=(by rw [hw4];exact T3.out.put 8 [.slice ux g.us.length uc,.slice sx g.ss.length sc,.slice fx g.fs.length fc,.slice ex g.es.length ec,.int .i64 g.nx]);have PA4:Hid (OwnS pv 4 135 w4 (w.heap.size+2) (.slice px g.ps.length pc) g.ps∧OwnRo w4 (w.heap.size+2) (.slice ry g.ros.length rc) X):=(by rw [hw4];exact ⟨own_putG PA3.out.1 (by omega) _ _,ro_putG PA3.out.2 (by omega) _ _⟩);have PB4:Hid (Own4 w4 (w.heap.size+2) (.slice ux g.us.length uc) (.slice sx g.ss.length sc) (.slice fx g.fs.length fc) (.slice ex g.es.length ec) g.us g.ss g.fs g.es):=(by rw [hw4];exact own4_putG PB3.out (by omega) _ _);clear hw4 T3 PA3 PB3;have al4:Below w4.heap.size w4 (w4.alloc (.cells #[] 159)):=(Below.refl _ _).alloc (Nat.le_refl _) _;have hS4:=SF.out _ (T4.out.call al4).b;have lt4:=OwnS.lit (c:=wvG) (K:=9) (e:=159) w4 w4.heap.size (Nat.le_refl _);have ca4:=acell (T4.out.g.cell 13 rfl) (.cells #[] 159)) | (at_builtin;refine wpl_FlowCS _ rfl (.tmp 11) (.tmp 13) rfl w4.heap.size _ [] g.fl rfl lt4 _ _ _ hS4.hrw hS4.hlen hS4.hspot hS4.hnil rfl (by have:=hS4.hmost;simp;omega) al4.size ?_))
 intro vl w5 Y5 _
 have ol:OwnS wvG 9 159 w5 w4.heap.size vl g.fl:=Y5.out.1
 have b5:Below w4.heap.size w4 w5:=al4.trans Y5.out.2
 obtain ⟨lx,lc,rfl,-⟩:=ol.slice
 have T5:Hid (CB w [.int .i64 g.ip,.int .i64 g.b,.int .i64 g.gt,.string g.gm,.string g.wm,.int .i64 g.rs,.slice px g.ps.length pc,.slice ry g.ros.length rc,.slice ux g.us.length uc,.slice sx g.ss.length sc,.slice fx g.fs.length fc,.slice ex g.es.length ec,.int .i64 g.nx,.slice A.la g.fl.length A.lc,.slice A.ca g.co.length A.cc,.int .i64 g.nw,.int .i64 g.dr,.int .i64 g.sn] w5):=T4.out.call b5
 have PA5:Hid (OwnS pv 4 135 w5 (w.heap.size+2) (.slice px g.ps.length pc) g.ps∧OwnRo w5 (w.heap.size+2) (.slice ry g.ros.length rc) X):=⟨PA4.out.1.now b5,PA4.out.2.now b5⟩
 have PB5:Hid (Own4 w5 (w.heap.size+2) (.slice ux g.us.length uc) (.slice sx g.ss.length sc) (.slice fx g.fs.length fc) (.slice ex g.es.length ec) g.us g.ss g.fs g.es):=PB4.out.now b5
 have PC5:Hid (OwnS wvG 9 159 w5 (w.heap.size+2) (.slice lx g.fl.length lc) g.fl):=ol.lower T4.out.z
 clear Y5 ol b5 T4 PA4 PB4 al4 hS4 lt4 ca4 SF
 go_wp2_with (first | (refine wpl_put1 47 rfl _ _ rfl w.heap.size 13 _ rfl rfl T5.out.g rfl rfl rfl ?_;intro w6 hw6;have T6:Hid (CB w [.int .i64 g.ip,.int .i64 g.b,.int .i64 g.gt,.string g.gm,.string g.wm,.int .i64 g.rs,.slice px g.ps.length pc,.slice ry g.ros.length rc,.slice ux g.us.length uc,.slice sx g.ss.length sc,.slice fx g.fs.length fc,.slice ex g.es.length ec,.int .i64 g.nx,.slice lx g.fl.length lc,.slice A.ca g.co.length A.cc,.int .i64 g.nw,.int .i64 g.dr,.int .i64 g.sn] w6):=(by rw [hw6];exact T5.out.put 13 [.slice lx g.fl.length lc]);have PA6:Hid (OwnS pv 4 135 w6 (w.heap.size+2) (.slice px g.ps.length pc) g.ps∧OwnRo w6 (w.heap.size+2) (.slice ry g.ros.length rc) X):=(by rw [hw6];exact ⟨own_putG PA5.out.1 (by omega) _ _,ro_putG PA5.out.2 (by omega) _ _⟩);have PB6:Hid (Own4 w6 (w.heap.size+2) (.slice ux g.us.length uc) (.slice sx g.ss.length sc) (.slice fx g.fs.length fc) (.slice ex g.es.length ec) g.us g.ss g.fs g.es):=(by rw [hw6];exact own4_putG PB5.out (by omega) _ _);have PC6:Hid (OwnS wvG 9 159 w6 (w.heap.size+2) (.slice lx g.fl.length lc) g.fl):=(by rw [hw6];exact own_putG PC5.out (by omega) _ _);clear hw6 T5 PA5 PB5 PC5;have al6:Below w6.heap.size w6 (w6.alloc (.cells #[] 162)):=(Below.refl _ _).alloc (Nat.le_refl _) _;have hS6:=SC.out _ (T6.out.call al6).b;have lt6:=OwnS.lit (c:=cnG) (K:=11) (e:=162) w6 w6.heap.size (Nat.le_refl _);have ca6:=acell (T6.out.g.cell 14 rfl) (.cells #[] 162)) | (at_builtin;refine wpl_ConnCS _ rfl (.tmp 16) (.tmp 18) rfl w6.heap.size _ [] g.co rfl lt6 _ _ _ hS6.hrw hS6.hlen hS6.hspot hS6.hnil rfl (by have:=hS6.hmost;simp;omega) al6.size ?_))
 intro vc w7 Y7 _
 have oc:OwnS cnG 11 162 w7 w6.heap.size vc g.co:=Y7.out.1
 have b7:Below w6.heap.size w6 w7:=al6.trans Y7.out.2
 obtain ⟨cx,cc,rfl,-⟩:=oc.slice
 have T7:Hid (CB w [.int .i64 g.ip,.int .i64 g.b,.int .i64 g.gt,.string g.gm,.string g.wm,.int .i64 g.rs,.slice px g.ps.length pc,.slice ry g.ros.length rc,.slice ux g.us.length uc,.slice sx g.ss.length sc,.slice fx g.fs.length fc,.slice ex g.es.length ec,.int .i64 g.nx,.slice lx g.fl.length lc,.slice A.ca g.co.length A.cc,.int .i64 g.nw,.int .i64 g.dr,.int .i64 g.sn] w7):=T6.out.call b7
 have PA7:Hid (OwnS pv 4 135 w7 (w.heap.size+2) (.slice px g.ps.length pc) g.ps∧OwnRo w7 (w.heap.size+2) (.slice ry g.ros.length rc) X):=⟨PA6.out.1.now b7,PA6.out.2.now b7⟩
 have PB7:Hid (Own4 w7 (w.heap.size+2) (.slice ux g.us.length uc) (.slice sx g.ss.length sc) (.slice fx g.fs.length fc) (.slice ex g.es.length ec) g.us g.ss g.fs g.es):=PB6.out.now b7
 have PC7:Hid (OwnS wvG 9 159 w7 (w.heap.size+2) (.slice lx g.fl.length lc) g.fl):=PC6.out.now b7
 have PD7:Hid (OwnS cnG 11 162 w7 (w.heap.size+2) (.slice cx g.co.length cc) g.co):=oc.lower T6.out.z
 clear Y7 oc b7 T6 PA6 PB6 PC6 al6 hS6 lt6 ca6 SC
 go_wp2_with (first | (refine wpl_put1 48 rfl _ _ rfl w.heap.size 14 _ rfl rfl T7.out.g rfl rfl rfl ?_;intro wA hwA;have T11:Hid (CB w [.int .i64 g.ip,.int .i64 g.b,.int .i64 g.gt,.string g.gm,.string g.wm,.int .i64 g.rs,.slice px g.ps.length pc,.slice ry g.ros.length rc,.slice ux g.us.length uc,.slice sx g.ss.length sc,.slice fx g.fs.length fc,.slice ex g.es.length ec,.int .i64 g.nx,.slice lx g.fl.length lc,.slice cx g.co.length cc,.int .i64 g.nw,.int .i64 g.dr,.int .i64 g.sn] wA):=(by rw [hwA];exact T7.out.put 14 [.slice cx g.co.length cc]);have FIN:Hid (OwnGt wA (w.heap.size+2) ⟨px,ry,ux,sx,fx,ex,lx,cx,pc,rc,uc,sc,fc,ec,lc,cc⟩ g X):=(by rw [hwA];exact ⟨EX.out,own_putG PA7.out.1 (by omega) _ _,ro_putG PA7.out.2 (by omega) _ _,own4_putG PB7.out (by omega) _ _,own_putG PC7.out (by omega) _ _,own_putG PD7.out (by omega) _ _⟩);clear hwA T7 PA7 PB7 PC7 PD7) | (refine wpl_getO 50 rfl _ rfl w.heap.size 0 [.int .i64 g.ip,.int .i64 g.b,.int .i64 g.gt,.string g.gm,.string g.wm,.int .i64 g.rs,.slice px g.ps.length pc,.slice ry g.ros.length rc,.slice ux g.us.length uc,.slice sx g.ss.length sc,.slice fx g.fs.length fc,.slice ex g.es.length ec,.int .i64 g.nx,.slice lx g.fl.length lc,.slice cx g.co.length cc,.int .i64 g.nw,.int .i64 g.dr,.int .i64 g.sn] rfl T11.out.g rfl _ Tryz.underlying50 rfl rfl ?_) | (refine wpl_putO 50 rfl _ _ rfl (w.heap.size+1) 0 _ rfl rfl T11.out.r rfl rfl rfl ?_;intro wB hwB RB;have BB:Hid (Below w.heap.size w wB):=(by rw [hwB];exact below_cells (by omega) _ _ _ T11.out.b);have FIN2:Hid (OwnGt wB (w.heap.size+2) ⟨px,ry,ux,sx,fx,ex,lx,cx,pc,rc,uc,sc,fc,ec,lc,cc⟩ g X):=(by rw [hwB];exact ⟨EX.out,own_putG FIN.out.ps (by omega) _ _,ro_putG FIN.out.rs (by omega) _ _,own4_putG FIN.out.gu (by omega) _ _,own_putG FIN.out.fl (by omega) _ _,own_putG FIN.out.co (by omega) _ _⟩);clear hwB T11 FIN) | fail)
 (try simp only [Exit.inBlock,Exit.then])
 refine bodyPost_ret (v:=.agg #[.int .i64 g.ip,.int .i64 g.b,.int .i64 g.gt,.string g.gm,.string g.wm,.int .i64 g.rs,.slice px g.ps.length pc,.slice ry g.ros.length rc,.slice ux g.us.length uc,.slice sx g.ss.length sc,.slice fx g.fs.length fc,.slice ex g.es.length ec,.int .i64 g.nx,.slice lx g.fl.length lc,.slice cx g.co.length cc,.int .i64 g.nw,.int .i64 g.dr,.int .i64 g.sn]) (results_cell Tryz.results29 (w.heap.size+1) rfl RB _ Tryz.underlying50 rfl rfl) rfl ?_
 exact ⟨px,ry,ux,sx,fx,ex,lx,cx,pc,rc,uc,sc,fc,ec,lc,cc,rfl,⟨X,FIN2.out.lower (by omega)⟩,BB.out⟩
structure CC (w:World) (cs:List Value) (W:World):Prop where
 g:Bx W w.heap.size cs
 r:Bx W (w.heap.size+1) [.int .i64 0,.int .i64 0,.int .i64 0,.string ⟨#[]⟩,.string ⟨#[]⟩,.int .i64 0,.slice none 0 0,.slice none 0 0]
 b:Below w.heap.size w W
 z:w.heap.size+2≤W.heap.size
theorem CC.call {w:World} {cs:List Value} {W W':World} (h:CC w cs W) (hb:Below W.heap.size W W'):CC w cs W':=⟨h.g.below hb,h.r.below hb,h.b.trans (hb.mono h.b.size),Nat.le_trans h.z hb.size⟩
theorem CC.put {w:World} {cs:List Value} {W:World} (h:CC w cs W) (o:Nat) (vs:List Value):CC w (sets cs o vs) (W.setCells w.heap.size o vs) :=
 ⟨h.g.sets vs o _ _,h.r.apartO vs (by omega),below_cells (Nat.le_refl _) vs o _ h.b,by rw [(heap_cellsA vs o W).1];exact h.z⟩
structure RA (w:World) (L:List RoX) (k:Nat) (v:Value) (X:List RoX) (W:World):Prop where
 row:OwnRo W (w.heap.size+2) v X
 map:X.map (fun x=>x.r)=(L.take k).map (fun x=>x.r)
set_option maxHeartbeats 8000000 in
theorem l13Config_any (A:GtA) (g:GtV) (L:List RoX) (B:Nat) (w:World) (op:OwnS pv 4 135 w B (.slice A.x g.ps.length A.xc) g.ps) (orr:OwnRo w B (.slice A.y g.ros.length A.yc) L) (hL:L.map (fun x=>x.r)=g.ros) (hp:Rw PlR 4 w A.x g.ps) (hro:Rw (RoR 0) 5 w A.y g.ros) (mp:g.ps.length≤1048576) (mr:g.ros.length≤1048576) (hru:∀ x,x ∈ L→x.r.rs.length≤1048576) :
  Calls Tryz.prog 77 #[.agg #[.int .i64 g.ip,.int .i64 g.b,.int .i64 g.gt,.string g.gm,.string g.wm,.int .i64 g.rs,.slice A.x g.ps.length A.xc,.slice A.y g.ros.length A.yc]] w fun e w'=>∃ (px ry:Option Addr) (pc rc:Nat) (X:List RoX),X.map (fun x=>x.r)=g.ros∧e=.returned (.agg #[.int .i64 g.ip,.int .i64 g.b,.int .i64 g.gt,.string g.gm,.string g.wm,.int .i64 g.rs,.slice px g.ps.length pc,.slice ry g.ros.length rc])∧(OwnS pv 4 135 w' w.heap.size (.slice px g.ps.length pc) g.ps∧OwnRo w' w.heap.size (.slice ry g.ros.length rc) X)∧Below w.heap.size w w':=by
 have T0:Hid (CC w [.int .i64 g.ip,.int .i64 g.b,.int .i64 g.gt,.string g.gm,.string g.wm,.int .i64 g.rs,.slice A.x g.ps.length A.xc,.slice A.y g.ros.length A.yc] ((w.alloc (.cells #[.int .i64 g.ip,.int .i64 g.b,.int .i64 g.gt,.string g.gm,.string g.wm,.int .i64 g.rs,.slice A.x g.ps.length A.xc,.slice A.y g.ros.length A.yc] 40)).alloc (.cells #[.int .i64 0,.int .i64 0,.int .i64 0,.string ⟨#[]⟩,.string ⟨#[]⟩,.int .i64 0,.slice none 0 0,.slice none 0 0] 40))):=by
  refine ⟨?_,?_,?_,?_⟩
  ·exact (Bx.new w #[.int .i64 g.ip,.int .i64 g.b,.int .i64 g.gt,.string g.gm,.string g.wm,.int .i64 g.rs,.slice A.x g.ps.length A.xc,.slice A.y g.ros.length A.yc] 40).below ((Below.refl _ _).alloc (Nat.le_refl _) _)
  ·have:=Bx.new (w.alloc (.cells #[.int .i64 g.ip,.int .i64 g.b,.int .i64 g.gt,.string g.gm,.string g.wm,.int .i64 g.rs,.slice A.x g.ps.length A.xc,.slice A.y g.ros.length A.yc] 40)) #[.int .i64 0,.int .i64 0,.int .i64 0,.string ⟨#[]⟩,.string ⟨#[]⟩,.int .i64 0,.slice none 0 0,.slice none 0 0] 40
   rw [World.size_alloc] at this
   exact this
  ·exact ((Below.refl _ _).alloc (Nat.le_refl _) _).alloc (by simp) _
  ·simp
 have hn:L.length=g.ros.length:=by rw [← hL,List.length_map]
 have SP:Hid (∀ W,Below w.heap.size w W→Src PlR 4 W A.x g.ps.length A.xc g.ps):=fun W hb=>by
  have sp:=own_spot op
  exact ⟨hp.keep PlR.kp hb,rfl,mp,sp.2.1,sp.2.2.1,sp.2.2.2⟩
 have SR:Hid (∀ x,x ∈ L→∀ W,Below w.heap.size w W→Src RuR 6 W x.ra x.r.rs.length x.rc x.r.rs):=fun x hx W hb=>by
  have lie:=roles_lie orr hL hro x hx
  exact ⟨lie.2.2.2.1.keep RuR.kp hb,rfl,hru x hx,lie.2.1,lie.2.2.2.2.1,lie.2.2.2.2.2⟩
 have RW:Hid (∀ W,Below w.heap.size w W→OwnS roG 5 142 W B (.slice A.y g.ros.length A.yc) L):=fun W hb=>own_keep (P:=fun k=>k<w.heap.size) orr.row ⟨hb.os,hb.tape,hb.output,hb.size,hb.block⟩ (fun k e=>(orr.row.lt k e).2)
 have HL:Hid (L.map (fun x=>x.r)=g.ros):=hL
 have al0:Below ((w.alloc (.cells #[.int .i64 g.ip,.int .i64 g.b,.int .i64 g.gt,.string g.gm,.string g.wm,.int .i64 g.rs,.slice A.x g.ps.length A.xc,.slice A.y g.ros.length A.yc] 40)).alloc (.cells #[.int .i64 0,.int .i64 0,.int .i64 0,.string ⟨#[]⟩,.string ⟨#[]⟩,.int .i64 0,.slice none 0 0,.slice none 0 0] 40)).heap.size ((w.alloc (.cells #[.int .i64 g.ip,.int .i64 g.b,.int .i64 g.gt,.string g.gm,.string g.wm,.int .i64 g.rs,.slice A.x g.ps.length A.xc,.slice A.y g.ros.length A.yc] 40)).alloc (.cells #[.int .i64 0,.int .i64 0,.int .i64 0,.string ⟨#[]⟩,.string ⟨#[]⟩,.int .i64 0,.slice none 0 0,.slice none 0 0] 40)) (((w.alloc (.cells #[.int .i64 g.ip,.int .i64 g.b,.int .i64 g.gt,.string g.gm,.string g.wm,.int .i64 g.rs,.slice A.x g.ps.length A.xc,.slice A.y g.ros.length A.yc] 40)).alloc (.cells #[.int .i64 0,.int .i64 0,.int .i64 0,.string ⟨#[]⟩,.string ⟨#[]⟩,.int .i64 0,.slice none 0 0,.slice none 0 0] 40)).alloc (.cells #[] 135)):=(Below.refl _ _).alloc (Nat.le_refl _) _
 have hS0:=SP.out _ (T0.out.call al0).b
 have lt0:=OwnS.lit (c:=pv) (K:=4) (e:=135) ((w.alloc (.cells #[.int .i64 g.ip,.int .i64 g.b,.int .i64 g.gt,.string g.gm,.string g.wm,.int .i64 g.rs,.slice A.x g.ps.length A.xc,.slice A.y g.ros.length A.yc] 40)).alloc (.cells #[.int .i64 0,.int .i64 0,.int .i64 0,.string ⟨#[]⟩,.string ⟨#[]⟩,.int .i64 0,.slice none 0 0,.slice none 0 0] 40)) ((w.alloc (.cells #[.int .i64 g.ip,.int .i64 g.b,.int .i64 g.gt,.string g.gm,.string g.wm,.int .i64 g.rs,.slice A.x g.ps.length A.xc,.slice A.y g.ros.length A.yc] 40)).alloc (.cells #[.int .i64 0,.int .i64 0,.int .i64 0,.string ⟨#[]⟩,.string ⟨#[]⟩,.int .i64 0,.slice none 0 0,.slice none 0 0] 40)).heap.size (Nat.le_refl _)
 have ca0:=acell (T0.out.g.cell 6 rfl) (.cells #[] 135)
 clear op orr hL hp hro mp hru
 have hk0:=al0.size
 have hsz0:((w.alloc (.cells #[.int .i64 g.ip,.int .i64 g.b,.int .i64 g.gt,.string g.gm,.string g.wm,.int .i64 g.rs,.slice A.x g.ps.length A.xc,.slice A.y g.ros.length A.yc] 40)).alloc (.cells #[.int .i64 0,.int .i64 0,.int .i64 0,.string ⟨#[]⟩,.string ⟨#[]⟩,.int .i64 0,.slice none 0 0,.slice none 0 0] 40)).heap.size=w.heap.size+1+1:=by simp
 rw [hsz0] at lt0 hk0
 go_enter Tryz.func77,Tryz.ntmps77
 go_wp2_with (at_builtin;go_loud (refine wpl_PlaceCS _ rfl (.tmp 6) (.tmp 8) rfl (w.heap.size+1+1) _ [] g.ps rfl lt0 _ _ _ hS0.hrw hS0.hlen hS0.hspot hS0.hnil rfl (by have:=hS0.hmost;simp;omega) hk0 ?_))
 intro vp w1 Y1 _
 have op1:OwnS pv 4 135 w1 (w.heap.size+1+1) vp g.ps:=Y1.out.1
 have b1:Below ((w.alloc (.cells #[.int .i64 g.ip,.int .i64 g.b,.int .i64 g.gt,.string g.gm,.string g.wm,.int .i64 g.rs,.slice A.x g.ps.length A.xc,.slice A.y g.ros.length A.yc] 40)).alloc (.cells #[.int .i64 0,.int .i64 0,.int .i64 0,.string ⟨#[]⟩,.string ⟨#[]⟩,.int .i64 0,.slice none 0 0,.slice none 0 0] 40)).heap.size ((w.alloc (.cells #[.int .i64 g.ip,.int .i64 g.b,.int .i64 g.gt,.string g.gm,.string g.wm,.int .i64 g.rs,.slice A.x g.ps.length A.xc,.slice A.y g.ros.length A.yc] 40)).alloc (.cells #[.int .i64 0,.int .i64 0,.int .i64 0,.string ⟨#[]⟩,.string ⟨#[]⟩,.int .i64 0,.slice none 0 0,.slice none 0 0] 40)) w1:=al0.trans (by rw [hsz0];exact Y1.out.2)
 obtain ⟨px,pc,rfl,-⟩:=op1.slice
 have T1:Hid (CC w [.int .i64 g.ip,.int .i64 g.b,.int .i64 g.gt,.string g.gm,.string g.wm,.int .i64 g.rs,.slice A.x g.ps.length A.xc,.slice A.y g.ros.length A.yc] w1):=T0.out.call b1
 have PA1:Hid (OwnS pv 4 135 w1 (w.heap.size+2) (.slice px g.ps.length pc) g.ps):=op1
 clear Y1 op1 b1 T0 al0 hS0 lt0 ca0 SP hk0 hsz0
 go_wp2_with (first | (refine wpl_put1 37 rfl _ _ rfl w.heap.size 6 _ rfl rfl T1.out.g rfl rfl rfl ?_;intro w2 hw2;have T2:Hid (CC w [.int .i64 g.ip,.int .i64 g.b,.int .i64 g.gt,.string g.gm,.string g.wm,.int .i64 g.rs,.slice px g.ps.length pc,.slice A.y g.ros.length A.yc] w2):=(by rw [hw2];exact T1.out.put 6 [.slice px g.ps.length pc]);have PA2:Hid (OwnS pv 4 135 w2 (w.heap.size+2) (.slice px g.ps.length pc) g.ps):=(by rw [hw2];exact own_putG PA1.out (by omega) _ _);clear hw2 T1 PA1) | fail)
 have al2:Below w2.heap.size w2 (w2.alloc (.cells #[] 142)):=(Below.refl _ _).alloc (Nat.le_refl _) _
 have T3:Hid (CC w [.int .i64 g.ip,.int .i64 g.b,.int .i64 g.gt,.string g.gm,.string g.wm,.int .i64 g.rs,.slice px g.ps.length pc,.slice A.y g.ros.length A.yc] (w2.alloc (.cells #[] 142))):=T2.out.call al2
 have PA3:Hid (OwnS pv 4 135 (w2.alloc (.cells #[] 142)) (w.heap.size+2) (.slice px g.ps.length pc) g.ps):=PA2.out.now al2
 have RA3:Hid (RA w L 0 (.slice (some ⟨w2.heap.size,0,none⟩) 0 0) [] (w2.alloc (.cells #[] 142))):=⟨⟨(OwnS.lit (c:=roG) (K:=5) (e:=142) w2 w2.heap.size (Nat.le_refl _)).lower T2.out.z,fun x hx=>(by cases hx),List.Pairwise.nil⟩,rfl⟩
 go_loopw [3,4] (fun v i wr=>∃ (k:Nat) (X:List RoX),k≤g.ros.length∧i=.int .i64 k∧Hid (RA w L k v X wr)∧Hid (CC w [.int .i64 g.ip,.int .i64 g.b,.int .i64 g.gt,.string g.gm,.string g.wm,.int .i64 g.rs,.slice px g.ps.length pc,.slice A.y g.ros.length A.yc] wr)∧Hid (OwnS pv 4 135 wr (w.heap.size+2) (.slice px g.ps.length pc) g.ps)) (fun _ i _=>g.ros.length - (intOf i).toNat)
 case atStart=>exact ⟨0,[],Nat.zero_le _,rfl,RA3,T3,PA3⟩
 case round =>
  clear RA3 T3 PA3 al2 T2 PA2
  obtain ⟨k,X,hk,rfl,HI,T5,op5⟩:=hrel
  have c7:=T5.out.g.cell 7 rfl
  by_cases hlt:k<g.ros.length
  ·have hxl:k<L.length:=by omega
   obtain ⟨x,hxL⟩:=at_of (xs:=L) rfl hxl
   have row:=RW.out wr T5.out.b
   obtain ⟨gR,hgR,hBg,hg,-⟩:=row.form (by omega)
   rw [hgR] at row c7
   have hltz:(k:Int)<(g.ros.length:Int):=by omega
   have q0:wr.cell? ⟨gR,k * 5,none⟩=some (.string x.r.nm):=(row.cell roG_len (j:=0) hxL rfl).1
   have q1:wr.cell? ⟨gR,k * 5+1,none⟩=some (.slice x.ra x.r.rs.length x.rc):=(row.cell roG_len (j:=1) hxL rfl).1
   have q2:wr.cell? ⟨gR,k * 5+2,none⟩=some (.int .i64 x.r.q):=(row.cell roG_len (j:=2) hxL rfl).1
   have q3:wr.cell? ⟨gR,k * 5+3,none⟩=some (.int .i64 x.r.m):=(row.cell roG_len (j:=3) hxL rfl).1
   have q4:wr.cell? ⟨gR,k * 5+4,none⟩=some (.int .i64 x.r.i):=(row.cell roG_len (j:=4) hxL rfl).1
   have hSx:=SR.out x (List.mem_of_getElem? hxL)
   clear row hgR
   have hx:Hid (x ∈ L):=List.mem_of_getElem? hxL
   have BR5:Hid (Bx (wr.alloc (.cells #[.string x.r.nm,.slice x.ra x.r.rs.length x.rc,.int .i64 x.r.q,.int .i64 x.r.m,.int .i64 x.r.i] 142)) wr.heap.size [.string x.r.nm,.slice x.ra x.r.rs.length x.rc,.int .i64 x.r.q,.int .i64 x.r.m,.int .i64 x.r.i]):=Bx.new wr #[.string x.r.nm,.slice x.ra x.r.rs.length x.rc,.int .i64 x.r.q,.int .i64 x.r.m,.int .i64 x.r.i] 142
   have al5:Below wr.heap.size wr (wr.alloc (.cells #[.string x.r.nm,.slice x.ra x.r.rs.length x.rc,.int .i64 x.r.q,.int .i64 x.r.m,.int .i64 x.r.i] 142)):=(Below.refl _ _).alloc (Nat.le_refl _) _
   have al6:Below (wr.alloc (.cells #[.string x.r.nm,.slice x.ra x.r.rs.length x.rc,.int .i64 x.r.q,.int .i64 x.r.m,.int .i64 x.r.i] 142)).heap.size (wr.alloc (.cells #[.string x.r.nm,.slice x.ra x.r.rs.length x.rc,.int .i64 x.r.q,.int .i64 x.r.m,.int .i64 x.r.i] 142)) ((wr.alloc (.cells #[.string x.r.nm,.slice x.ra x.r.rs.length x.rc,.int .i64 x.r.q,.int .i64 x.r.m,.int .i64 x.r.i] 142)).alloc (.cells #[] 156)):=(Below.refl _ _).alloc (Nat.le_refl _) _
   have hS6:=SR.out x hx.out _ ((T5.out.call al5).call al6).b
   have lt6:=OwnS.lit (c:=rv) (K:=6) (e:=156) (wr.alloc (.cells #[.string x.r.nm,.slice x.ra x.r.rs.length x.rc,.int .i64 x.r.q,.int .i64 x.r.m,.int .i64 x.r.i] 142)) (wr.alloc (.cells #[.string x.r.nm,.slice x.ra x.r.rs.length x.rc,.int .i64 x.r.q,.int .i64 x.r.m,.int .i64 x.r.i] 142)).heap.size (Nat.le_refl _)
   have hk6:=al6.size
   have hs5:(wr.alloc (.cells #[.string x.r.nm,.slice x.ra x.r.rs.length x.rc,.int .i64 x.r.q,.int .i64 x.r.m,.int .i64 x.r.i] 142)).heap.size=wr.heap.size+1:=by simp
   rw [hs5] at lt6 hk6
   have ca6:=(BR5.out.below al6).cell 1 rfl
   have hlen9:X.length+1≤2000000:=by
    have:=congrArg List.length HI.out.map
    simp only [List.length_map,List.length_take] at this
    omega
   replace hxL:Hid (L[k]?=some x):=hxL
   clear hSx
   go_wp2_with (at_builtin;go_loud (refine wpl_RuleCS _ rfl (.tmp 24) (.tmp 26) rfl (wr.heap.size+1) _ [] x.r.rs rfl lt6 _ _ _ hS6.hrw hS6.hlen hS6.hspot hS6.hnil rfl (by have:=hS6.hmost;simp;omega) hk6 ?_))
   intro v7 w7 Y7 _
   have o7:OwnS rv 6 156 w7 (wr.heap.size+1) v7 x.r.rs:=Y7.out.1
   have b7:Below (wr.alloc (.cells #[.string x.r.nm,.slice x.ra x.r.rs.length x.rc,.int .i64 x.r.q,.int .i64 x.r.m,.int .i64 x.r.i] 142)).heap.size (wr.alloc (.cells #[.string x.r.nm,.slice x.ra x.r.rs.length x.rc,.int .i64 x.r.q,.int .i64 x.r.m,.int .i64 x.r.i] 142)) w7:=al6.trans (by rw [hs5];exact Y7.out.2)
   obtain ⟨a,c,rfl,-⟩:=o7.slice
   have BR7:Hid (Bx w7 wr.heap.size [.string x.r.nm,.slice x.ra x.r.rs.length x.rc,.int .i64 x.r.q,.int .i64 x.r.m,.int .i64 x.r.i]):=BR5.out.below b7
   have B7:Hid (Below wr.heap.size wr w7):=al5.trans (b7.mono al5.size)
   have O7:Hid (OwnS rv 6 156 w7 (wr.heap.size+1) (.slice a x.r.rs.length c) x.r.rs):=o7
   clear Y7 o7 b7 al5 al6 hS6 lt6 hk6 hs5 ca6 BR5 q0 q1 q2 q3 q4 c7
   go_wp2_with (first | (refine wpl_put1 140 rfl _ _ rfl wr.heap.size 1 _ rfl rfl BR7.out rfl rfl rfl ?_;intro w8 hw8;have BR8:Hid (Bx w8 wr.heap.size [.string x.r.nm,.slice a x.r.rs.length c,.int .i64 x.r.q,.int .i64 x.r.m,.int .i64 x.r.i]):=(by rw [hw8];exact BR7.out.sets [.slice a x.r.rs.length c] 1 _ _);have B8:Hid (Below wr.heap.size wr w8):=(by rw [hw8];exact below_cells (Nat.le_refl _) _ _ _ B7.out);have O8:Hid (OwnS rv 6 156 w8 (wr.heap.size+1) (.slice a x.r.rs.length c) x.r.rs):=(by rw [hw8];exact own_putG O7.out (by omega) _ _);clear hw8 BR7 B7 O7;have al9:Below w8.heap.size w8 (w8.alloc (.cells #[.string x.r.nm,.slice a x.r.rs.length c,.int .i64 x.r.q,.int .i64 x.r.m,.int .i64 x.r.i] 142)):=(Below.refl _ _).alloc (Nat.le_refl _) _;have row9:OwnS roG 5 142 (w8.alloc (.cells #[.string x.r.nm,.slice a x.r.rs.length c,.int .i64 x.r.q,.int .i64 x.r.m,.int .i64 x.r.i] 142)) (w.heap.size+2) u3 X:=(HI.out.row.row.now (B8.out.mono (Nat.le_refl _))).now al9;have hc9:∀ j u,(flatS roG [{ x with ra:=a,rc:=c }])[j]?=some u→(w8.alloc (.cells #[.string x.r.nm,.slice a x.r.rs.length c,.int .i64 x.r.q,.int .i64 x.r.m,.int .i64 x.r.i] 142)).cell? ⟨w8.heap.size,0+j,none⟩=some u:=(fun j u hu=>by rw [Nat.zero_add];exact (Bx.new w8 #[.string x.r.nm,.slice a x.r.rs.length c,.int .i64 x.r.q,.int .i64 x.r.m,.int .i64 x.r.i] 142).cell j hu);have hB9:w.heap.size+2≤(w8.alloc (.cells #[.string x.r.nm,.slice a x.r.rs.length c,.int .i64 x.r.q,.int .i64 x.r.m,.int .i64 x.r.i] 142)).heap.size:=Nat.le_trans T5.out.z (Nat.le_trans B8.out.size al9.size)) | (refine wpl_getO 142 rfl _ rfl wr.heap.size 0 [.string x.r.nm,.slice a x.r.rs.length c,.int .i64 x.r.q,.int .i64 x.r.m,.int .i64 x.r.i] rfl BR8.out rfl _ Tryz.underlying142 rfl rfl ?_) | (at_builtin;go_loud (refine wpl_RoleC _ rfl (.tmp 29) (.tmp 31) rfl (w.heap.size+2) _ X [{ x with ra:=a,rc:=c }] rfl row9 w8.heap.size 0 1 1 rfl rfl hc9 hlen9 hB9 ?_)))
   intro v9 w9 Y9 g9
   have T9:Hid (CC w [.int .i64 g.ip,.int .i64 g.b,.int .i64 g.gt,.string g.gm,.string g.wm,.int .i64 g.rs,.slice px g.ps.length pc,.slice A.y g.ros.length A.yc] w9):=by
    have t:=(T5.out.call B8.out).call al9
    have kp:Rel.Keep (fun b=>b<w.heap.size+2) (w8.alloc (.cells #[.string x.r.nm,.slice a x.r.rs.length c,.int .i64 x.r.q,.int .i64 x.r.m,.int .i64 x.r.i] 142)) w9:=⟨Y9.out.2.os,Y9.out.2.tape,Y9.out.2.output,Y9.out.2.size,Y9.out.2.block⟩
    exact ⟨bx_keep t.g kp (by omega),bx_keep t.r kp (by omega),t.b.trans (Y9.out.2.mono (by omega)),Nat.le_trans t.z kp.size⟩
   have op9:Hid (OwnS pv 4 135 w9 (w.heap.size+2) (.slice px g.ps.length pc) g.ps):=by
    have o:=(op5.out.now B8.out).now al9
    exact o.kept g9 ((apB_of o row9 (by decide)).kept)
   have nw:OwnS rv 6 156 (w8.alloc (.cells #[.string x.r.nm,.slice a x.r.rs.length c,.int .i64 x.r.q,.int .i64 x.r.m,.int .i64 x.r.i] 142)) (w.heap.size+2) (.slice a x.r.rs.length c) x.r.rs:=(O8.out.now al9).lower (by have:=T5.out.z;omega)
   have RA9:Hid (RA w L (k+1) v9 (X ++ [{ x with ra:=a,rc:=c }]) w9):=by
    refine ⟨⟨Y9.out.1,?_,?_⟩,?_⟩
    ·intro z hz
     rcases List.mem_append.1 hz with hz | hz
     ·have o:=((HI.out.row.rules z hz).now B8.out).now al9
      exact o.kept g9 ((apB_of o row9 (by decide)).kept)
     ·rw [List.mem_singleton] at hz
      subst hz
      exact nw.kept g9 ((apB_of nw row9 (by decide)).kept)
    ·rw [List.pairwise_append]
     refine ⟨HI.out.row.apart,List.pairwise_singleton _ _,?_⟩
     intro y hy z hz
     rw [List.mem_singleton] at hz
     subst hz
     intro b hb1 hb2
     have l1:=((HI.out.row.rules y hy).lt b hb1).2
     have l2:=(O8.out.lt b hb2).1
     omega
    ·rw [List.map_append,HI.out.map,List.take_add_one,hxL.out,List.map_append];rfl
   clear T5 op5 nw HI B8 O8 BR8 al9 row9 hc9 hB9 Y9 g9 hlen9 hx hxL hBg hg
   go_wp2
   go_roundw
   case rel=>exact ⟨k+1,X ++ [{ x with ra:=a,rc:=c }],by omega,by go_num,RA9,T9,op9⟩
   case measure=>simp [intOf];omega
  ·obtain rfl:k=g.ros.length:=by omega
   have hXg:Hid (X.map (fun x=>x.r)=g.ros):=by show _=_;rw [HI.out.map,← hn,List.take_length];exact HL.out
   have hXl:X.length=g.ros.length:=by rw [← hXg.out,List.length_map]
   have ow:=HI.out.row
   obtain ⟨ry,rc,hv,-⟩:=ow.row.slice
   rw [hXl] at hv
   subst hv
   have OW:Hid (OwnRo wr (w.heap.size+2) (.slice ry g.ros.length rc) X):=ow
   clear HI ow SR RW HL
   go_wp2_with (first | (refine wpl_put1 38 rfl _ _ rfl w.heap.size 7 _ rfl rfl T5.out.g rfl rfl rfl ?_;intro wA hwA;have TA_:Hid (CC w [.int .i64 g.ip,.int .i64 g.b,.int .i64 g.gt,.string g.gm,.string g.wm,.int .i64 g.rs,.slice px g.ps.length pc,.slice ry g.ros.length rc] wA):=(by rw [hwA];exact T5.out.put 7 [.slice ry g.ros.length rc]);have PAA:Hid (OwnS pv 4 135 wA (w.heap.size+2) (.slice px g.ps.length pc) g.ps∧OwnRo wA (w.heap.size+2) (.slice ry g.ros.length rc) X):=(by rw [hwA];exact ⟨own_putG op5.out (by omega) _ _,ro_putG OW.out (by omega) _ _⟩);clear hwA T5 op5 OW) | (refine wpl_getO 40 rfl _ rfl w.heap.size 0 [.int .i64 g.ip,.int .i64 g.b,.int .i64 g.gt,.string g.gm,.string g.wm,.int .i64 g.rs,.slice px g.ps.length pc,.slice ry g.ros.length rc] rfl TA_.out.g rfl _ Tryz.underlying40 rfl rfl ?_) | (refine wpl_putO 40 rfl _ _ rfl (w.heap.size+1) 0 _ rfl rfl TA_.out.r rfl rfl rfl ?_;intro wB hwB RB;have BB:Hid (Below w.heap.size w wB):=(by rw [hwB];exact below_cells (by omega) _ _ _ TA_.out.b);have PBB:Hid (OwnS pv 4 135 wB (w.heap.size+2) (.slice px g.ps.length pc) g.ps∧OwnRo wB (w.heap.size+2) (.slice ry g.ros.length rc) X):=(by rw [hwB];exact ⟨own_putG PAA.out.1 (by omega) _ _,ro_putG PAA.out.2 (by omega) _ _⟩);clear hwB TA_ PAA) | fail)
   (try simp only [Exit.inBlock,Exit.then])
   refine bodyPost_ret (v:=.agg #[.int .i64 g.ip,.int .i64 g.b,.int .i64 g.gt,.string g.gm,.string g.wm,.int .i64 g.rs,.slice px g.ps.length pc,.slice ry g.ros.length rc]) (results_cell Tryz.results77 (w.heap.size+1) rfl RB _ Tryz.underlying40 rfl rfl) rfl ?_
   exact ⟨px,ry,pc,rc,X,hXg.out,rfl,⟨PBB.out.1.lower (by omega),PBB.out.2.lower (by omega)⟩,BB.out⟩
theorem l13Own_any (A:GtA) (g:GtV) (L:List RoX) (B:Nat) (w:World) (h:OwnGt w B A g L) (hr:GtR w A g) (hs:GtS g) (hru:∀ x,x ∈ L→x.r.rs.length≤1048576) :
  Calls Tryz.prog 29 #[.agg #[.int .i64 g.ip,.int .i64 g.b,.int .i64 g.gt,.string g.gm,.string g.wm,.int .i64 g.rs,.slice A.x g.ps.length A.xc,.slice A.y g.ros.length A.yc,.slice A.ua g.us.length A.uc,.slice A.sa g.ss.length A.sc,.slice A.fa g.fs.length A.fc,.slice A.ra g.es.length A.rc,.int .i64 g.nx,.slice A.la g.fl.length A.lc,.slice A.ca g.co.length A.cc,.int .i64 g.nw,.int .i64 g.dr,.int .i64 g.sn]] w fun e w'=>∃ (px ry ux sx fx ex lx cx:Option Addr) (pc rc uc sc fc ec lc cc:Nat) (X:List RoX),e=.returned (.agg #[.int .i64 g.ip,.int .i64 g.b,.int .i64 g.gt,.string g.gm,.string g.wm,.int .i64 g.rs,.slice px g.ps.length pc,.slice ry g.ros.length rc,.slice ux g.us.length uc,.slice sx g.ss.length sc,.slice fx g.fs.length fc,.slice ex g.es.length ec,.int .i64 g.nx,.slice lx g.fl.length lc,.slice cx g.co.length cc,.int .i64 g.nw,.int .i64 g.dr,.int .i64 g.sn])∧OwnGt w' w.heap.size ⟨px,ry,ux,sx,fx,ex,lx,cx,pc,rc,uc,sc,fc,ec,lc,cc⟩ g X∧Below w.heap.size w w' :=
 l13Own_of A g L B w h hr hs (fun W hb=>l13Config_any A g L B W (h.ps.now hb) (h.rs.now hb) h.ro (hr.ps.keep PlR.kp hb) (hr.ros.keep (RoR.kp 0) hb) hs.ps hs.ros hru)
open Go.RowKit Go.PlainAid Go.Sort
theorem results_cell2 {P:Program} {fn:Func} {tmps:Array Value} {w:World} {a b:Tmp} {t:TypeId} (hr:fn.results=#[.cell a t,.tmp b]) (q:Nat) (hp:tmps.getD a undef=.pointer (some ⟨q,0,none⟩)) {v:Value} (hv:tmps.getD b undef=v) {cs:List Value} (hb:Bx w q cs)
  (d:TypeDesc) (hu:P.underlying t=some d) (hd:d.isRow=true) (hi:(P.info? t).map (·.size)=some cs.length):(results fn tmps).run P w=.ok (.tuple #[.agg cs.toArray,v]) w:=by
 have h:=run_loadVar_mid w q 0 t cs d hb.cl hu hd hi
 unfold results
 rw [hr]
 have hp':tmps[a]?.getD undef=.pointer (some ⟨q,0,none⟩):=by rw [← Array.getD_eq_getD_getElem?];exact hp
 have hv':tmps[b]?.getD undef=v:=by rw [← Array.getD_eq_getD_getElem?];exact hv
 simp [hp',hv',asAddr,h]
end Go.Proofs.YtbeehlhcckndcaaGreat
