/- The model's GuestsOK. -/
import Derived.Test.YtojcakkkakmniaaGreatDoorJ22
namespace Go.Proofs.YtojcakkkakmniaaGreatDoor
open Go.RowKit Go.PlainAid Go.Proofs.YtojcakkkakmniaaGreatDoor.Bt Go.Sort
set_option linter.unusedVariables false
set_option maxRecDepth 20000
structure GkW (w W:World) (ip b:Int) (ua sa fa ra:Option Addr) (ul uc sl sc fl fc rl rc:Nat) (nx:Int):Prop where
 grw:Grw w W
 c0:W.cell? ⟨w.heap.size,0,none⟩=some (.int .i64 ip)
 c1:W.cell? ⟨w.heap.size,1,none⟩=some (.int .i64 b)
 g0:W.cell? ⟨w.heap.size+1,0,none⟩=some (.slice ua ul uc)
 g1:W.cell? ⟨w.heap.size+1,1,none⟩=some (.slice sa sl sc)
 g2:W.cell? ⟨w.heap.size+1,2,none⟩=some (.slice fa fl fc)
 g3:W.cell? ⟨w.heap.size+1,3,none⟩=some (.slice ra rl rc)
 g4:W.cell? ⟨w.heap.size+1,4,none⟩=some (.int .i64 nx)
theorem GkW.keep {w W W':World} {ip b:Int} {ua sa fa ra:Option Addr} {ul uc sl sc fl fc rl rc:Nat} {nx:Int} (h:GkW w W ip b ua sa fa ra ul uc sl sc fl fc rl rc nx) (g:Grw W W'):GkW w W' ip b ua sa fa ra ul uc sl sc fl fc rl rc nx :=
 ⟨h.grw.trans g,g.keep h.c0,g.keep h.c1,g.keep h.g0,g.keep h.g1,g.keep h.g2,g.keep h.g3,g.keep h.g4⟩
set_option maxHeartbeats 16000000 in
theorem specGuests_any (ip b gt:Int) (gm wm:ByteArray) (rs:Int) (x y:Option Addr) (lenx capx leny capy:Nat) (ps:List PlaceV) (ros:List RoleV) (ua sa fa ra:Option Addr) (ul uc sl sc fl fc rl rc:Nat) (us:List UserV) (ss:List SessV) (fs:List FailV) (es:List RecV) (nx:Int) (w:World) (h:Rw PlR 4 w x ps) (hl:ps.length=lenx) (h2:Rw (RoR 0) 5 w y ros) (hl2:ros.length=leny) (hsz:SzR ros) (hl9:leny≤1048576)
  (hu:Rw UsR 6 w ua us) (lu:us.length=ul) (hs:Rw SeR 10 w sa ss) (ls:ss.length=sl) (hf:Rw FaR 3 w fa fs) (lf:fs.length=fl) (hr:Rw ReR 5 w ra es) (lr:es.length=rl) (hszu:SzU us) (mu:ul≤1048576) :
  Calls Tryz.prog 64 #[.agg #[.int .i64 ip,.int .i64 b,.int .i64 gt,.string gm,.string wm,.int .i64 rs,.slice x lenx capx,.slice y leny capy],.agg #[.slice ua ul uc,.slice sa sl sc,.slice fa fl fc,.slice ra rl rc,.int .i64 nx]] w fun e w'=>e=.returned (.bool (gokB ip b gt gm wm rs ps ros us ss fs es nx))∧Grw w w':=by
 have RX:Hid (Rw PlR 4 w x ps):=h
 have RY:Hid (Rw (RoR 0) 5 w y ros):=h2
 have RU:Hid (Rw UsR 6 w ua us):=hu
 have RS:Hid (Rw SeR 10 w sa ss):=hs
 have RF:Hid (Rw FaR 3 w fa fs):=hf
 have RR:Hid (Rw ReR 5 w ra es):=hr
 have HC:Hid (∀ w,Rw PlR 4 w x ps→Rw (RoR 0) 5 w y ros→Calls Tryz.prog 101 #[.agg #[.int .i64 ip,.int .i64 b,.int .i64 gt,.string gm,.string wm,.int .i64 rs,.slice x lenx capx,.slice y leny capy]] w fun e w'=>e=.returned (.bool (confB ip b gt gm wm rs ps ros))∧Grw w w'):=fun w h h2=>specConfig_any ip b gt gm wm rs x y lenx capx leny capy ps ros w h hl h2 hl2 hsz
 have HU:Hid (∀ w,Rw (RoR 0) 5 w y ros→Rw UsR 6 w ua us→Calls Tryz.prog 102 #[.agg #[.int .i64 ip,.int .i64 b,.int .i64 gt,.string gm,.string wm,.int .i64 rs,.slice x lenx capx,.slice y leny capy],.slice ua ul uc] w fun e w'=>e=.returned (.bool (usB ros us))∧Grw w w'):=fun w h h2=>l08Users_any ip b gt gm wm rs x y lenx capx leny capy ros ua ul uc us w h hl2 h2 lu hszu hl9 mu
 have HN:Hid (∀ w,Calls Tryz.prog 65 #[.int .i64 nx,.int .i64 1,.int .i64 10000] w fun e w'=>e=.returned (.bool (dec (1≤nx∧nx≤10000)))∧w'=w):=fun w=>specIn_any nx 1 10000 w
 obtain ⟨z,hz⟩:∃ z,z=gokB ip b gt gm wm rs ps ros us ss fs es nx:=⟨_,rfl⟩
 have hbb:confB ip b gt gm wm rs ps ros=true→0≤b∧b≤32:=fun h=>by
  unfold confB at h
  simp only [Bool.and_eq_true] at h
  have:=nB_yes h.1
  exact ⟨this.2.2.1,this.2.2.2.1⟩
 have E:Hid (z=(confB ip b gt gm wm rs ps ros && (dec (1≤nx∧nx≤10000) && (usB ros us && ((dec (ss.length≤3) && seB (sB nx us.length ip b) ss) && ((dec (fs.length≤20) && risB faB ltF fs) && (dec (es.length≤60) && es.all (reB nx)))))))):=by rw [hz];rfl
 rw [← hz]
 clear hz h h2 hu hs hf hr hszu hsz
 obtain ⟨q0,hq0⟩:∃ q,q=confB ip b gt gm wm rs ps ros:=⟨_,rfl⟩
 rw [← hq0] at HC E hbb
 clear hq0
 generalize usB ros us=q1 at HU E
 obtain ⟨q5,hq5⟩:∃ q,q=dec (1≤nx∧nx≤10000):=⟨_,rfl⟩
 rw [← hq5] at HN E
 have HQ5:Hid (q5=dec (1≤nx∧nx≤10000)):=hq5
 clear hq5
 go_enter Tryz.func64,Tryz.ntmps64
 go_wp2_with fail
 refine (HC.out _ (RX.out.keep PlR.kp (((Grw.refl w).alloc _).alloc _).below) (RY.out.keep (RoR.kp 0) (((Grw.refl w).alloc _).alloc _).below)).mono ?_
 rintro e w1 ⟨rfl,g1⟩
 have a0:w1.cell? ⟨w.heap.size,0,none⟩=some (.int .i64 ip):=g1.keep (a:=⟨w.heap.size,0,none⟩) (v:=.int .i64 ip) (by simp [go_sem])
 have a1:w1.cell? ⟨w.heap.size,1,none⟩=some (.int .i64 b):=g1.keep (a:=⟨w.heap.size,1,none⟩) (v:=.int .i64 b) (by simp [go_sem])
 have a2:w1.cell? ⟨w.heap.size,2,none⟩=some (.int .i64 gt):=g1.keep (a:=⟨w.heap.size,2,none⟩) (v:=.int .i64 gt) (by simp [go_sem])
 have a3:w1.cell? ⟨w.heap.size,3,none⟩=some (.string gm):=g1.keep (a:=⟨w.heap.size,3,none⟩) (v:=.string gm) (by simp [go_sem])
 have a4:w1.cell? ⟨w.heap.size,4,none⟩=some (.string wm):=g1.keep (a:=⟨w.heap.size,4,none⟩) (v:=.string wm) (by simp [go_sem])
 have a5:w1.cell? ⟨w.heap.size,5,none⟩=some (.int .i64 rs):=g1.keep (a:=⟨w.heap.size,5,none⟩) (v:=.int .i64 rs) (by simp [go_sem])
 have a6:w1.cell? ⟨w.heap.size,6,none⟩=some (.slice x lenx capx):=g1.keep (a:=⟨w.heap.size,6,none⟩) (v:=.slice x lenx capx) (by simp [go_sem])
 have a7:w1.cell? ⟨w.heap.size,7,none⟩=some (.slice y leny capy):=g1.keep (a:=⟨w.heap.size,7,none⟩) (v:=.slice y leny capy) (by simp [go_sem])
 have e0:w1.cell? ⟨w.heap.size+1,0,none⟩=some (.slice ua ul uc):=g1.keep (a:=⟨w.heap.size+1,0,none⟩) (v:=.slice ua ul uc) (by simp [go_sem])
 have e1:w1.cell? ⟨w.heap.size+1,1,none⟩=some (.slice sa sl sc):=g1.keep (a:=⟨w.heap.size+1,1,none⟩) (v:=.slice sa sl sc) (by simp [go_sem])
 have e2:w1.cell? ⟨w.heap.size+1,2,none⟩=some (.slice fa fl fc):=g1.keep (a:=⟨w.heap.size+1,2,none⟩) (v:=.slice fa fl fc) (by simp [go_sem])
 have e3:w1.cell? ⟨w.heap.size+1,3,none⟩=some (.slice ra rl rc):=g1.keep (a:=⟨w.heap.size+1,3,none⟩) (v:=.slice ra rl rc) (by simp [go_sem])
 have e4:w1.cell? ⟨w.heap.size+1,4,none⟩=some (.int .i64 nx):=g1.keep (a:=⟨w.heap.size+1,4,none⟩) (v:=.int .i64 nx) (by simp [go_sem])
 have X0:Hid (Grw w w1):=(((Grw.refl w).alloc _).alloc _).trans g1
 clear g1 HC
 cases q0 with
 | false =>
  as_aux_lemma =>
   have hv:Hid (z=false):=by show z=false;rw [E.out];simp
   go_wp2
   go_ret
   exact ⟨by rw [hv.out];rfl,X0.out⟩
 | true =>
  obtain ⟨hb0,hb1⟩:=hbb rfl
  clear hbb
  go_wp2_with fail
  refine (HU.out _ (RY.out.keep (RoR.kp 0) X0.out.below) (RU.out.keep UsR.kp X0.out.below)).mono ?_
  rintro e w2 ⟨rfl,g2⟩
  have X:Hid (GkW w w2 ip b ua sa fa ra ul uc sl sc fl fc rl rc nx):=⟨X0.out.trans g2,g2.keep a0,g2.keep a1,g2.keep e0,g2.keep e1,g2.keep e2,g2.keep e3,g2.keep e4⟩
  clear g2 HU X0 a0 a1 a2 a3 a4 a5 a6 a7 e0 e1 e2 e3 e4
  have d0:=X.out.c0
  have d1:=X.out.c1
  have e0:=X.out.g0
  have e1:=X.out.g1
  have e2:=X.out.g2
  have e3:=X.out.g3
  have e4:=X.out.g4
  cases q1 with
  | false =>
   as_aux_lemma =>
    have hv:Hid (z=false):=by show z=false;rw [E.out];simp
    go_wp2
    go_ret
    exact ⟨by rw [hv.out];rfl,X.out.grw⟩
  | true =>
   by_cases h3:sl≤3
   rotate_left
   ·have hz3:decide ((3:Int)<(sl:Int))=true:=decide_eq_true (by omega)
    have hv:Hid (z=false):=by show z=false;rw [E.out,dec_n (by omega:¬ ss.length≤3)];simp
    go_wp2
    go_ret
    exact ⟨by rw [hv.out];rfl,X.out.grw⟩
   have hz3:decide ((3:Int)<(sl:Int))=false:=decide_eq_false (by omega)
   by_cases h20:fl≤20
   rotate_left
   ·have hz20:decide ((20:Int)<(fl:Int))=true:=decide_eq_true (by omega)
    have hv:Hid (z=false):=by show z=false;rw [E.out,dec_n (by omega:¬ fs.length≤20)];simp
    go_wp2
    go_ret
    exact ⟨by rw [hv.out];rfl,X.out.grw⟩
   have hz20:decide ((20:Int)<(fl:Int))=false:=decide_eq_false (by omega)
   by_cases h60:rl≤60
   rotate_left
   ·have hz60:decide ((60:Int)<(rl:Int))=true:=decide_eq_true (by omega)
    have hv:Hid (z=false):=by show z=false;rw [E.out,dec_n (by omega:¬ es.length≤60)];simp
    go_wp2
    go_ret
    exact ⟨by rw [hv.out];rfl,X.out.grw⟩
   have hz60:decide ((60:Int)<(rl:Int))=false:=decide_eq_false (by omega)
   go_wp2_with fail
   refine (HN.out _).mono ?_
   rintro e w9 ⟨rfl,rfl⟩
   cases q5 with
   | false =>
    as_aux_lemma =>
     have hv:Hid (z=false):=by show z=false;rw [E.out];simp
     go_wp2
     go_ret
     exact ⟨by rw [hv.out];rfl,X.out.grw⟩
   | true =>
    have hnx:1≤nx∧nx≤10000:=by have h:=HQ5.out;unfold dec at h;simpa using h.symm
    obtain ⟨hn1,hn2⟩:=hnx
    replace E:Hid (z=(seB (sB nx us.length ip b) ss && (risB faB ltF fs && es.all (reB nx)))):=by
     show z=_
     rw [E.out,dec_y (by omega:ss.length≤3),dec_y (by omega:fs.length≤20),dec_y (by omega:es.length≤60)]
     rfl
    clear HN HQ5 hz3 hz20 hz60
    go_wp2
    clear d0 d1 e0 e1 e2 e3 e4
    go_loopw [5] (fun u wr=>∃ i:Nat,i≤sl∧u=.int .i64 i∧Hid ((List.range i).all (seAt (sB nx us.length ip b) ss)=true)∧Hid (GkW w wr ip b ua sa fa ra ul uc sl sc fl fc rl rc nx)) (fun u _=>sl - (intOf u).toNat)
    case atStart=>exact ⟨0,Nat.zero_le _,rfl,rfl,X.out⟩
    case round =>
     clear X
     obtain ⟨i,hi,rfl,HO,X⟩:=hrel
     by_cases hlt:i<sl
     ·obtain ⟨x9,hx⟩:=at_of ls hlt
      obtain ⟨bk,off,vs,ea,hbk,hvl,hR,hc⟩:=RS.out.at SeR.kp X.out.grw.below hx
      have EA:Hid (sa=some ⟨bk,off,none⟩):=ea
      clear ea
      have HS:Hid (seAt (sB nx us.length ip b) ss i=true→(List.range (i+1)).all (seAt (sB nx us.length ip b) ss)=true):=fun h=>ris_step HO.out h
      have HF:Hid (seAt (sB nx us.length ip b) ss i=false→seB (sB nx us.length ip b) ss=false):=fun h=>ris_no (by omega) h
      have eo:seAt (sB nx us.length ip b) ss i=(sB nx us.length ip b x9 && (ss.take i).all (fun y=>prS y x9)):=by unfold seAt;rw [hx]
      rw [eo] at HS HF
      clear eo
      obtain ⟨id,us1,mc,sip,be,la,ud,qu,un,il⟩:=x9
      obtain ⟨rfl,-⟩:=hR
      have q0:wr.cell? ⟨bk,off+i * 10,none⟩=some (.int .i64 id):=hc 0 _ rfl
      have q1:wr.cell? ⟨bk,off+i * 10+1,none⟩=some (.int .i64 us1):=hc 1 _ rfl
      have q2:wr.cell? ⟨bk,off+i * 10+2,none⟩=some (.string mc):=hc 2 _ rfl
      have q3:wr.cell? ⟨bk,off+i * 10+3,none⟩=some (.int .i64 sip):=hc 3 _ rfl
      have q4:wr.cell? ⟨bk,off+i * 10+4,none⟩=some (.int .i64 be):=hc 4 _ rfl
      have q5:wr.cell? ⟨bk,off+i * 10+5,none⟩=some (.int .i64 la):=hc 5 _ rfl
      have q6:wr.cell? ⟨bk,off+i * 10+6,none⟩=some (.int .i64 ud):=hc 6 _ rfl
      have q7:wr.cell? ⟨bk,off+i * 10+7,none⟩=some (.int .i64 qu):=hc 7 _ rfl
      have q8:wr.cell? ⟨bk,off+i * 10+8,none⟩=some (.int .i64 un):=hc 8 _ rfl
      have q9:wr.cell? ⟨bk,off+i * 10+9,none⟩=some (.int .i64 il):=hc 9 _ rfl
      have hltz:(i:Int)<(sl:Int):=by omega
      have T0:Hid (∀ w,Calls Tryz.prog 65 #[.int .i64 id,.int .i64 1,.int .i64 (nx - 1)] w fun e w'=>e=.returned (.bool (dec (1≤id∧id≤nx - 1)))∧w'=w):=fun w=>specIn_any id 1 (nx - 1) w
      have T1:Hid (∀ w,Calls Tryz.prog 65 #[.int .i64 us1,.int .i64 0,.int .i64 ((ul:Int) - 1)] w fun e w'=>e=.returned (.bool (dec (0≤us1∧us1≤(ul:Int) - 1)))∧w'=w):=fun w=>specIn_any us1 0 ((ul:Int) - 1) w
      have T2:Hid (∀ w,Calls Tryz.prog 22 #[.string mc] w fun e w'=>e=.returned (.bool (dec (mc.size=6)))∧w'=w):=fun w=>l01MacC_any mc w
      have T3:Hid (∀ w,Calls Tryz.prog 24 #[.agg #[.int .i64 ip,.int .i64 b],.int .i64 sip] w fun e w'=>e=.returned (.bool (hB ip b sip))∧Grw w w'):=fun w=>l05Has_any ip b sip w hb0 hb1
      have T4:Hid (∀ w,Calls Tryz.prog 23 #[.int .i64 sip] w fun e w'=>e=.returned (.bool (dec (0≤sip∧sip≤4294967295)))∧w'=w):=fun w=>specIp_any sip w
      have T5:Hid (∀ w,Calls Tryz.prog 65 #[.int .i64 be,.int .i64 0,.int .i64 100000] w fun e w'=>e=.returned (.bool (dec (0≤be∧be≤100000)))∧w'=w):=fun w=>specIn_any be 0 100000 w
      have T6:Hid (∀ w,Calls Tryz.prog 65 #[.int .i64 la,.int .i64 be,.int .i64 100000] w fun e w'=>e=.returned (.bool (dec (be≤la∧la≤100000)))∧w'=w):=fun w=>specIn_any la be 100000 w
      have T7:Hid (∀ w,Calls Tryz.prog 65 #[.int .i64 qu,.int .i64 1,.int .i64 1000000] w fun e w'=>e=.returned (.bool (dec (1≤qu∧qu≤1000000)))∧w'=w):=fun w=>specIn_any qu 1 1000000 w
      have T8:Hid (∀ w,Calls Tryz.prog 65 #[.int .i64 ud,.int .i64 0,.int .i64 qu] w fun e w'=>e=.returned (.bool (dec (0≤ud∧ud≤qu)))∧w'=w):=fun w=>specIn_any ud 0 qu w
      have T9:Hid (∀ w,Calls Tryz.prog 65 #[.int .i64 un,.int .i64 be,.int .i64 101000] w fun e w'=>e=.returned (.bool (dec (be≤un∧un≤101000)))∧w'=w):=fun w=>specIn_any un be 101000 w
      have T10:Hid (∀ w,Calls Tryz.prog 65 #[.int .i64 il,.int .i64 1,.int .i64 1000] w fun e w'=>e=.returned (.bool (dec (1≤il∧il≤1000)))∧w'=w):=fun w=>specIn_any il 1 1000 w
      have eu:sB nx us.length ip b ⟨id,us1,mc,sip,be,la,ud,qu,un,il⟩=(dec (1≤id∧id≤nx - 1) && (dec (0≤us1∧us1≤(ul:Int) - 1) && (dec (mc.size=6) && (hB ip b sip && (dec (0≤sip∧sip≤4294967295) && (dec (0≤be∧be≤100000) && (dec (be≤la∧la≤100000) && (dec (1≤qu∧qu≤1000000) && (dec (0≤ud∧ud≤qu) && (dec (be≤un∧un≤101000) && (dec (1≤il∧il≤1000)))))))))))):=by rw [lu];rfl
      rw [eu] at HS HF
      clear eu
      generalize dec (1≤id∧id≤nx - 1)=t0 at T0 HS HF
      generalize dec (0≤us1∧us1≤(ul:Int) - 1)=t1 at T1 HS HF
      generalize dec (mc.size=6)=t2 at T2 HS HF
      generalize hB ip b sip=t3 at T3 HS HF
      generalize dec (0≤sip∧sip≤4294967295)=t4 at T4 HS HF
      generalize dec (0≤be∧be≤100000)=t5 at T5 HS HF
      generalize dec (be≤la∧la≤100000)=t6 at T6 HS HF
      generalize dec (1≤qu∧qu≤1000000)=t7 at T7 HS HF
      generalize dec (0≤ud∧ud≤qu)=t8 at T8 HS HF
      generalize dec (be≤un∧un≤101000)=t9 at T9 HS HF
      generalize dec (1≤il∧il≤1000)=t10 at T10 HS HF
      clear hc hvl
      have d0:=X.out.c0
      have d1:=X.out.c1
      have e0:=X.out.g0
      have e1:=X.out.g1
      have e2:=X.out.g2
      have e3:=X.out.g3
      have e4:=X.out.g4
      rw [EA.out] at e1
      have f0:=acell e0 (.cells #[.int .i64 id,.int .i64 us1,.string mc,.int .i64 sip,.int .i64 be,.int .i64 la,.int .i64 ud,.int .i64 qu,.int .i64 un,.int .i64 il] 80)
      have f1:=acell e1 (.cells #[.int .i64 id,.int .i64 us1,.string mc,.int .i64 sip,.int .i64 be,.int .i64 la,.int .i64 ud,.int .i64 qu,.int .i64 un,.int .i64 il] 80)
      have f2:=acell e2 (.cells #[.int .i64 id,.int .i64 us1,.string mc,.int .i64 sip,.int .i64 be,.int .i64 la,.int .i64 ud,.int .i64 qu,.int .i64 un,.int .i64 il] 80)
      have f3:=acell e3 (.cells #[.int .i64 id,.int .i64 us1,.string mc,.int .i64 sip,.int .i64 be,.int .i64 la,.int .i64 ud,.int .i64 qu,.int .i64 un,.int .i64 il] 80)
      have f4:=acell e4 (.cells #[.int .i64 id,.int .i64 us1,.string mc,.int .i64 sip,.int .i64 be,.int .i64 la,.int .i64 ud,.int .i64 qu,.int .i64 un,.int .i64 il] 80)
      go_wp2_with fail
      have x0:(wr.alloc (.cells #[.int .i64 id,.int .i64 us1,.string mc,.int .i64 sip,.int .i64 be,.int .i64 la,.int .i64 ud,.int .i64 qu,.int .i64 un,.int .i64 il] 80)).cell? ⟨wr.heap.size,0,none⟩=some (.int .i64 id):=by simp [go_sem]
      have x1:(wr.alloc (.cells #[.int .i64 id,.int .i64 us1,.string mc,.int .i64 sip,.int .i64 be,.int .i64 la,.int .i64 ud,.int .i64 qu,.int .i64 un,.int .i64 il] 80)).cell? ⟨wr.heap.size,1,none⟩=some (.int .i64 us1):=by simp [go_sem]
      have x2:(wr.alloc (.cells #[.int .i64 id,.int .i64 us1,.string mc,.int .i64 sip,.int .i64 be,.int .i64 la,.int .i64 ud,.int .i64 qu,.int .i64 un,.int .i64 il] 80)).cell? ⟨wr.heap.size,2,none⟩=some (.string mc):=by simp [go_sem]
      have x3:(wr.alloc (.cells #[.int .i64 id,.int .i64 us1,.string mc,.int .i64 sip,.int .i64 be,.int .i64 la,.int .i64 ud,.int .i64 qu,.int .i64 un,.int .i64 il] 80)).cell? ⟨wr.heap.size,3,none⟩=some (.int .i64 sip):=by simp [go_sem]
      have x4:(wr.alloc (.cells #[.int .i64 id,.int .i64 us1,.string mc,.int .i64 sip,.int .i64 be,.int .i64 la,.int .i64 ud,.int .i64 qu,.int .i64 un,.int .i64 il] 80)).cell? ⟨wr.heap.size,4,none⟩=some (.int .i64 be):=by simp [go_sem]
      have x5:(wr.alloc (.cells #[.int .i64 id,.int .i64 us1,.string mc,.int .i64 sip,.int .i64 be,.int .i64 la,.int .i64 ud,.int .i64 qu,.int .i64 un,.int .i64 il] 80)).cell? ⟨wr.heap.size,5,none⟩=some (.int .i64 la):=by simp [go_sem]
      have x6:(wr.alloc (.cells #[.int .i64 id,.int .i64 us1,.string mc,.int .i64 sip,.int .i64 be,.int .i64 la,.int .i64 ud,.int .i64 qu,.int .i64 un,.int .i64 il] 80)).cell? ⟨wr.heap.size,6,none⟩=some (.int .i64 ud):=by simp [go_sem]
      have x7:(wr.alloc (.cells #[.int .i64 id,.int .i64 us1,.string mc,.int .i64 sip,.int .i64 be,.int .i64 la,.int .i64 ud,.int .i64 qu,.int .i64 un,.int .i64 il] 80)).cell? ⟨wr.heap.size,7,none⟩=some (.int .i64 qu):=by simp [go_sem]
      have x8:(wr.alloc (.cells #[.int .i64 id,.int .i64 us1,.string mc,.int .i64 sip,.int .i64 be,.int .i64 la,.int .i64 ud,.int .i64 qu,.int .i64 un,.int .i64 il] 80)).cell? ⟨wr.heap.size,8,none⟩=some (.int .i64 un):=by simp [go_sem]
      have x9:(wr.alloc (.cells #[.int .i64 id,.int .i64 us1,.string mc,.int .i64 sip,.int .i64 be,.int .i64 la,.int .i64 ud,.int .i64 qu,.int .i64 un,.int .i64 il] 80)).cell? ⟨wr.heap.size,9,none⟩=some (.int .i64 il):=by simp [go_sem]
      replace X:Hid (GkW w (wr.alloc (.cells #[.int .i64 id,.int .i64 us1,.string mc,.int .i64 sip,.int .i64 be,.int .i64 la,.int .i64 ud,.int .i64 qu,.int .i64 un,.int .i64 il] 80)) ip b ua sa fa ra ul uc sl sc fl fc rl rc nx):=X.out.keep ((Grw.refl _).alloc _)
      have hbx:wr.heap.size<(wr.alloc (.cells #[.int .i64 id,.int .i64 us1,.string mc,.int .i64 sip,.int .i64 be,.int .i64 la,.int .i64 ud,.int .i64 qu,.int .i64 un,.int .i64 il] 80)).heap.size:=by simp
      clear f0 f1 f2 f3 f4
      generalize (wr.alloc (.cells #[.int .i64 id,.int .i64 us1,.string mc,.int .i64 sip,.int .i64 be,.int .i64 la,.int .i64 ud,.int .i64 qu,.int .i64 un,.int .i64 il] 80))=W1 at X hbx x0 x1 x2 x3 x4 x5 x6 x7 x8 x9 ⊢
      clear d0 d1 e0 e1 e2 e3 e4 q0 q1 q2 q3 q4 q5 q6 q7 q8 q9
      have d0:=X.out.c0
      have d1:=X.out.c1
      have e0:=X.out.g0
      have e1:=X.out.g1
      have e2:=X.out.g2
      have e3:=X.out.g3
      have e4:=X.out.g4
      rw [EA.out] at e1
      refine (T0.out _).mono ?_
      rintro e w9 ⟨rfl,rfl⟩
      cases t0 with
      | false =>
       as_aux_lemma =>
        have hv:Hid (z=false):=by show z=false;rw [E.out];rw [HF.out (by simp)];simp
        have HGX:Hid (Grw w _):=X.out.grw
        (try clear HS)
        (try clear HF)
        (try clear HO)
        (try clear E)
        (try clear RX)
        (try clear RY)
        (try clear RU)
        (try clear RS)
        (try clear RF)
        (try clear RR)
        (try clear EA)
        (try clear X)
        (try clear hbx)
        (try clear hk)
        (try clear hi)
        (try clear hl)
        (try clear hl2)
        (try clear hl9)
        (try clear lu)
        (try clear ls)
        (try clear lf)
        (try clear lr)
        (try clear mu)
        (try clear hb0)
        (try clear hb1)
        (try clear h3)
        (try clear h20)
        (try clear h60)
        (try clear hn1)
        (try clear hn2)
        (try clear hlt)
        (try clear hltz)
        (try clear hbk)
        (try clear d0)
        (try clear d1)
        (try clear T0)
        (try clear T1)
        (try clear T2)
        (try clear T3)
        (try clear T4)
        (try clear T5)
        (try clear T6)
        (try clear T7)
        (try clear T8)
        (try clear T9)
        (try clear T10)
        (try clear e0)
        (try clear e1)
        (try clear e2)
        (try clear e3)
        (try clear e4)
        (try clear x0)
        (try clear x1)
        (try clear x2)
        (try clear x3)
        (try clear x4)
        (try clear x5)
        (try clear x6)
        (try clear x7)
        (try clear x8)
        (try clear x9)
        go_wp2
        go_ret
        exact ⟨by rw [hv.out];rfl,HGX.out⟩
      | true =>
       go_wp2_with fail
       refine (T1.out _).mono ?_
       rintro e w9 ⟨rfl,rfl⟩
       cases t1 with
       | false =>
        as_aux_lemma =>
         have hv:Hid (z=false):=by show z=false;rw [E.out];rw [HF.out (by simp)];simp
         have HGX:Hid (Grw w _):=X.out.grw
         (try clear HS)
         (try clear HF)
         (try clear HO)
         (try clear E)
         (try clear RX)
         (try clear RY)
         (try clear RU)
         (try clear RS)
         (try clear RF)
         (try clear RR)
         (try clear EA)
         (try clear X)
         (try clear hbx)
         (try clear hk)
         (try clear hi)
         (try clear hl)
         (try clear hl2)
         (try clear hl9)
         (try clear lu)
         (try clear ls)
         (try clear lf)
         (try clear lr)
         (try clear mu)
         (try clear hb0)
         (try clear hb1)
         (try clear h3)
         (try clear h20)
         (try clear h60)
         (try clear hn1)
         (try clear hn2)
         (try clear hlt)
         (try clear hltz)
         (try clear hbk)
         (try clear d0)
         (try clear d1)
         (try clear T0)
         (try clear T1)
         (try clear T2)
         (try clear T3)
         (try clear T4)
         (try clear T5)
         (try clear T6)
         (try clear T7)
         (try clear T8)
         (try clear T9)
         (try clear T10)
         (try clear e0)
         (try clear e1)
         (try clear e2)
         (try clear e3)
         (try clear e4)
         (try clear x0)
         (try clear x1)
         (try clear x2)
         (try clear x3)
         (try clear x4)
         (try clear x5)
         (try clear x6)
         (try clear x7)
         (try clear x8)
         (try clear x9)
         go_wp2
         go_ret
         exact ⟨by rw [hv.out];rfl,HGX.out⟩
       | true =>
        go_wp2_with fail
        refine (T2.out _).mono ?_
        rintro e w9 ⟨rfl,rfl⟩
        cases t2 with
        | false =>
         as_aux_lemma =>
          have hv:Hid (z=false):=by show z=false;rw [E.out];rw [HF.out (by simp)];simp
          have HGX:Hid (Grw w _):=X.out.grw
          (try clear HS)
          (try clear HF)
          (try clear HO)
          (try clear E)
          (try clear RX)
          (try clear RY)
          (try clear RU)
          (try clear RS)
          (try clear RF)
          (try clear RR)
          (try clear EA)
          (try clear X)
          (try clear hbx)
          (try clear hk)
          (try clear hi)
          (try clear hl)
          (try clear hl2)
          (try clear hl9)
          (try clear lu)
          (try clear ls)
          (try clear lf)
          (try clear lr)
          (try clear mu)
          (try clear hb0)
          (try clear hb1)
          (try clear h3)
          (try clear h20)
          (try clear h60)
          (try clear hn1)
          (try clear hn2)
          (try clear hlt)
          (try clear hltz)
          (try clear hbk)
          (try clear d0)
          (try clear d1)
          (try clear T0)
          (try clear T1)
          (try clear T2)
          (try clear T3)
          (try clear T4)
          (try clear T5)
          (try clear T6)
          (try clear T7)
          (try clear T8)
          (try clear T9)
          (try clear T10)
          (try clear e0)
          (try clear e1)
          (try clear e2)
          (try clear e3)
          (try clear e4)
          (try clear x0)
          (try clear x1)
          (try clear x2)
          (try clear x3)
          (try clear x4)
          (try clear x5)
          (try clear x6)
          (try clear x7)
          (try clear x8)
          (try clear x9)
          go_wp2
          go_ret
          exact ⟨by rw [hv.out];rfl,HGX.out⟩
        | true =>
         go_wp2_with fail
         refine (T3.out _).mono ?_
         rintro e W2 ⟨rfl,g2⟩
         replace X:Hid (GkW w W2 ip b ua sa fa ra ul uc sl sc fl fc rl rc nx):=X.out.keep g2
         replace x0:=g2.keep x0
         replace x1:=g2.keep x1
         replace x2:=g2.keep x2
         replace x3:=g2.keep x3
         replace x4:=g2.keep x4
         replace x5:=g2.keep x5
         replace x6:=g2.keep x6
         replace x7:=g2.keep x7
         replace x8:=g2.keep x8
         replace x9:=g2.keep x9
         replace hbx:=Nat.lt_of_lt_of_le hbx g2.below.size
         clear g2 d0 d1 e0 e1 e2 e3 e4
         have d0:=X.out.c0
         have d1:=X.out.c1
         have e0:=X.out.g0
         have e1:=X.out.g1
         have e2:=X.out.g2
         have e3:=X.out.g3
         have e4:=X.out.g4
         rw [EA.out] at e1
         cases t3 with
         | false =>
          as_aux_lemma =>
           have hv:Hid (z=false):=by show z=false;rw [E.out];rw [HF.out (by simp)];simp
           have HGX:Hid (Grw w _):=X.out.grw
           (try clear HS)
           (try clear HF)
           (try clear HO)
           (try clear E)
           (try clear RX)
           (try clear RY)
           (try clear RU)
           (try clear RS)
           (try clear RF)
           (try clear RR)
           (try clear EA)
           (try clear X)
           (try clear hbx)
           (try clear hk)
           (try clear hi)
           (try clear hl)
           (try clear hl2)
           (try clear hl9)
           (try clear lu)
           (try clear ls)
           (try clear lf)
           (try clear lr)
           (try clear mu)
           (try clear hb0)
           (try clear hb1)
           (try clear h3)
           (try clear h20)
           (try clear h60)
           (try clear hn1)
           (try clear hn2)
           (try clear hlt)
           (try clear hltz)
           (try clear hbk)
           (try clear d0)
           (try clear d1)
           (try clear T0)
           (try clear T1)
           (try clear T2)
           (try clear T3)
           (try clear T4)
           (try clear T5)
           (try clear T6)
           (try clear T7)
           (try clear T8)
           (try clear T9)
           (try clear T10)
           (try clear e0)
           (try clear e1)
           (try clear e2)
           (try clear e3)
           (try clear e4)
           (try clear x0)
           (try clear x1)
           (try clear x2)
           (try clear x3)
           (try clear x4)
           (try clear x5)
           (try clear x6)
           (try clear x7)
           (try clear x8)
           (try clear x9)
           go_wp2
           go_ret
           exact ⟨by rw [hv.out];rfl,HGX.out⟩
         | true =>
          go_wp2_with fail
          refine (T4.out _).mono ?_
          rintro e w9 ⟨rfl,rfl⟩
          cases t4 with
          | false =>
           as_aux_lemma =>
            have hv:Hid (z=false):=by show z=false;rw [E.out];rw [HF.out (by simp)];simp
            have HGX:Hid (Grw w _):=X.out.grw
            (try clear HS)
            (try clear HF)
            (try clear HO)
            (try clear E)
            (try clear RX)
            (try clear RY)
            (try clear RU)
            (try clear RS)
            (try clear RF)
            (try clear RR)
            (try clear EA)
            (try clear X)
            (try clear hbx)
            (try clear hk)
            (try clear hi)
            (try clear hl)
            (try clear hl2)
            (try clear hl9)
            (try clear lu)
            (try clear ls)
            (try clear lf)
            (try clear lr)
            (try clear mu)
            (try clear hb0)
            (try clear hb1)
            (try clear h3)
            (try clear h20)
            (try clear h60)
            (try clear hn1)
            (try clear hn2)
            (try clear hlt)
            (try clear hltz)
            (try clear hbk)
            (try clear d0)
            (try clear d1)
            (try clear T0)
            (try clear T1)
            (try clear T2)
            (try clear T3)
            (try clear T4)
            (try clear T5)
            (try clear T6)
            (try clear T7)
            (try clear T8)
            (try clear T9)
            (try clear T10)
            (try clear e0)
            (try clear e1)
            (try clear e2)
            (try clear e3)
            (try clear e4)
            (try clear x0)
            (try clear x1)
            (try clear x2)
            (try clear x3)
            (try clear x4)
            (try clear x5)
            (try clear x6)
            (try clear x7)
            (try clear x8)
            (try clear x9)
            go_wp2
            go_ret
            exact ⟨by rw [hv.out];rfl,HGX.out⟩
          | true =>
           go_wp2_with fail
           refine (T5.out _).mono ?_
           rintro e w9 ⟨rfl,rfl⟩
           cases t5 with
           | false =>
            as_aux_lemma =>
             have hv:Hid (z=false):=by show z=false;rw [E.out];rw [HF.out (by simp)];simp
             have HGX:Hid (Grw w _):=X.out.grw
             (try clear HS)
             (try clear HF)
             (try clear HO)
             (try clear E)
             (try clear RX)
             (try clear RY)
             (try clear RU)
             (try clear RS)
             (try clear RF)
             (try clear RR)
             (try clear EA)
             (try clear X)
             (try clear hbx)
             (try clear hk)
             (try clear hi)
             (try clear hl)
             (try clear hl2)
             (try clear hl9)
             (try clear lu)
             (try clear ls)
             (try clear lf)
             (try clear lr)
             (try clear mu)
             (try clear hb0)
             (try clear hb1)
             (try clear h3)
             (try clear h20)
             (try clear h60)
             (try clear hn1)
             (try clear hn2)
             (try clear hlt)
             (try clear hltz)
             (try clear hbk)
             (try clear d0)
             (try clear d1)
             (try clear T0)
             (try clear T1)
             (try clear T2)
             (try clear T3)
             (try clear T4)
             (try clear T5)
             (try clear T6)
             (try clear T7)
             (try clear T8)
             (try clear T9)
             (try clear T10)
             (try clear e0)
             (try clear e1)
             (try clear e2)
             (try clear e3)
             (try clear e4)
             (try clear x0)
             (try clear x1)
             (try clear x2)
             (try clear x3)
             (try clear x4)
             (try clear x5)
             (try clear x6)
             (try clear x7)
             (try clear x8)
             (try clear x9)
             go_wp2
             go_ret
             exact ⟨by rw [hv.out];rfl,HGX.out⟩
           | true =>
            go_wp2_with fail
            refine (T6.out _).mono ?_
            rintro e w9 ⟨rfl,rfl⟩
            cases t6 with
            | false =>
             as_aux_lemma =>
              have hv:Hid (z=false):=by show z=false;rw [E.out];rw [HF.out (by simp)];simp
              have HGX:Hid (Grw w _):=X.out.grw
              (try clear HS)
              (try clear HF)
              (try clear HO)
              (try clear E)
              (try clear RX)
              (try clear RY)
              (try clear RU)
              (try clear RS)
              (try clear RF)
              (try clear RR)
              (try clear EA)
              (try clear X)
              (try clear hbx)
              (try clear hk)
              (try clear hi)
              (try clear hl)
              (try clear hl2)
              (try clear hl9)
              (try clear lu)
              (try clear ls)
              (try clear lf)
              (try clear lr)
              (try clear mu)
              (try clear hb0)
              (try clear hb1)
              (try clear h3)
              (try clear h20)
              (try clear h60)
              (try clear hn1)
              (try clear hn2)
              (try clear hlt)
              (try clear hltz)
              (try clear hbk)
              (try clear d0)
              (try clear d1)
              (try clear T0)
              (try clear T1)
              (try clear T2)
              (try clear T3)
              (try clear T4)
              (try clear T5)
              (try clear T6)
              (try clear T7)
              (try clear T8)
              (try clear T9)
              (try clear T10)
              (try clear e0)
              (try clear e1)
              (try clear e2)
              (try clear e3)
              (try clear e4)
              (try clear x0)
              (try clear x1)
              (try clear x2)
              (try clear x3)
              (try clear x4)
              (try clear x5)
              (try clear x6)
              (try clear x7)
              (try clear x8)
              (try clear x9)
              go_wp2
              go_ret
              exact ⟨by rw [hv.out];rfl,HGX.out⟩
            | true =>
             go_wp2_with fail
             refine (T7.out _).mono ?_
             rintro e w9 ⟨rfl,rfl⟩
             cases t7 with
             | false =>
              as_aux_lemma =>
               have hv:Hid (z=false):=by show z=false;rw [E.out];rw [HF.out (by simp)];simp
               have HGX:Hid (Grw w _):=X.out.grw
               (try clear HS)
               (try clear HF)
               (try clear HO)
               (try clear E)
               (try clear RX)
               (try clear RY)
               (try clear RU)
               (try clear RS)
               (try clear RF)
               (try clear RR)
               (try clear EA)
               (try clear X)
               (try clear hbx)
               (try clear hk)
               (try clear hi)
               (try clear hl)
               (try clear hl2)
               (try clear hl9)
               (try clear lu)
               (try clear ls)
               (try clear lf)
               (try clear lr)
               (try clear mu)
               (try clear hb0)
               (try clear hb1)
               (try clear h3)
               (try clear h20)
               (try clear h60)
               (try clear hn1)
               (try clear hn2)
               (try clear hlt)
               (try clear hltz)
               (try clear hbk)
               (try clear d0)
               (try clear d1)
               (try clear T0)
               (try clear T1)
               (try clear T2)
               (try clear T3)
               (try clear T4)
               (try clear T5)
               (try clear T6)
               (try clear T7)
               (try clear T8)
               (try clear T9)
               (try clear T10)
               (try clear e0)
               (try clear e1)
               (try clear e2)
               (try clear e3)
               (try clear e4)
               (try clear x0)
               (try clear x1)
               (try clear x2)
               (try clear x3)
               (try clear x4)
               (try clear x5)
               (try clear x6)
               (try clear x7)
               (try clear x8)
               (try clear x9)
               go_wp2
               go_ret
               exact ⟨by rw [hv.out];rfl,HGX.out⟩
             | true =>
              go_wp2_with fail
              refine (T8.out _).mono ?_
              rintro e w9 ⟨rfl,rfl⟩
              cases t8 with
              | false =>
               as_aux_lemma =>
                have hv:Hid (z=false):=by show z=false;rw [E.out];rw [HF.out (by simp)];simp
                have HGX:Hid (Grw w _):=X.out.grw
                (try clear HS)
                (try clear HF)
                (try clear HO)
                (try clear E)
                (try clear RX)
                (try clear RY)
                (try clear RU)
                (try clear RS)
                (try clear RF)
                (try clear RR)
                (try clear EA)
                (try clear X)
                (try clear hbx)
                (try clear hk)
                (try clear hi)
                (try clear hl)
                (try clear hl2)
                (try clear hl9)
                (try clear lu)
                (try clear ls)
                (try clear lf)
                (try clear lr)
                (try clear mu)
                (try clear hb0)
                (try clear hb1)
                (try clear h3)
                (try clear h20)
                (try clear h60)
                (try clear hn1)
                (try clear hn2)
                (try clear hlt)
                (try clear hltz)
                (try clear hbk)
                (try clear d0)
                (try clear d1)
                (try clear T0)
                (try clear T1)
                (try clear T2)
                (try clear T3)
                (try clear T4)
                (try clear T5)
                (try clear T6)
                (try clear T7)
                (try clear T8)
                (try clear T9)
                (try clear T10)
                (try clear e0)
                (try clear e1)
                (try clear e2)
                (try clear e3)
                (try clear e4)
                (try clear x0)
                (try clear x1)
                (try clear x2)
                (try clear x3)
                (try clear x4)
                (try clear x5)
                (try clear x6)
                (try clear x7)
                (try clear x8)
                (try clear x9)
                go_wp2
                go_ret
                exact ⟨by rw [hv.out];rfl,HGX.out⟩
              | true =>
               go_wp2_with fail
               refine (T9.out _).mono ?_
               rintro e w9 ⟨rfl,rfl⟩
               cases t9 with
               | false =>
                as_aux_lemma =>
                 have hv:Hid (z=false):=by show z=false;rw [E.out];rw [HF.out (by simp)];simp
                 have HGX:Hid (Grw w _):=X.out.grw
                 (try clear HS)
                 (try clear HF)
                 (try clear HO)
                 (try clear E)
                 (try clear RX)
                 (try clear RY)
                 (try clear RU)
                 (try clear RS)
                 (try clear RF)
                 (try clear RR)
                 (try clear EA)
                 (try clear X)
                 (try clear hbx)
                 (try clear hk)
                 (try clear hi)
                 (try clear hl)
                 (try clear hl2)
                 (try clear hl9)
                 (try clear lu)
                 (try clear ls)
                 (try clear lf)
                 (try clear lr)
                 (try clear mu)
                 (try clear hb0)
                 (try clear hb1)
                 (try clear h3)
                 (try clear h20)
                 (try clear h60)
                 (try clear hn1)
                 (try clear hn2)
                 (try clear hlt)
                 (try clear hltz)
                 (try clear hbk)
                 (try clear d0)
                 (try clear d1)
                 (try clear T0)
                 (try clear T1)
                 (try clear T2)
                 (try clear T3)
                 (try clear T4)
                 (try clear T5)
                 (try clear T6)
                 (try clear T7)
                 (try clear T8)
                 (try clear T9)
                 (try clear T10)
                 (try clear e0)
                 (try clear e1)
                 (try clear e2)
                 (try clear e3)
                 (try clear e4)
                 (try clear x0)
                 (try clear x1)
                 (try clear x2)
                 (try clear x3)
                 (try clear x4)
                 (try clear x5)
                 (try clear x6)
                 (try clear x7)
                 (try clear x8)
                 (try clear x9)
                 go_wp2
                 go_ret
                 exact ⟨by rw [hv.out];rfl,HGX.out⟩
               | true =>
                go_wp2_with fail
                refine (T10.out _).mono ?_
                rintro e w9 ⟨rfl,rfl⟩
                cases t10 with
                | false =>
                 as_aux_lemma =>
                  have hv:Hid (z=false):=by show z=false;rw [E.out];rw [HF.out (by simp)];simp
                  have HGX:Hid (Grw w _):=X.out.grw
                  (try clear HS)
                  (try clear HF)
                  (try clear HO)
                  (try clear E)
                  (try clear RX)
                  (try clear RY)
                  (try clear RU)
                  (try clear RS)
                  (try clear RF)
                  (try clear RR)
                  (try clear EA)
                  (try clear X)
                  (try clear hbx)
                  (try clear hk)
                  (try clear hi)
                  (try clear hl)
                  (try clear hl2)
                  (try clear hl9)
                  (try clear lu)
                  (try clear ls)
                  (try clear lf)
                  (try clear lr)
                  (try clear mu)
                  (try clear hb0)
                  (try clear hb1)
                  (try clear h3)
                  (try clear h20)
                  (try clear h60)
                  (try clear hn1)
                  (try clear hn2)
                  (try clear hlt)
                  (try clear hltz)
                  (try clear hbk)
                  (try clear d0)
                  (try clear d1)
                  (try clear T0)
                  (try clear T1)
                  (try clear T2)
                  (try clear T3)
                  (try clear T4)
                  (try clear T5)
                  (try clear T6)
                  (try clear T7)
                  (try clear T8)
                  (try clear T9)
                  (try clear T10)
                  (try clear e0)
                  (try clear e1)
                  (try clear e2)
                  (try clear e3)
                  (try clear e4)
                  (try clear x0)
                  (try clear x1)
                  (try clear x2)
                  (try clear x3)
                  (try clear x4)
                  (try clear x5)
                  (try clear x6)
                  (try clear x7)
                  (try clear x8)
                  (try clear x9)
                  go_wp2
                  go_ret
                  exact ⟨by rw [hv.out];rfl,HGX.out⟩
                | true =>
                 clear T0 T1 T2 T3 T4 T5 T6 T7 T8 T9 T10
                 go_wp2
                 generalize w9=w4 at X hbx x0 x1 x2 x3 x4 x5 x6 x7 x8 x9 d0 d1 e0 e1 e2 e3 e4 ⊢
                 obtain ⟨Bx,hBx⟩:∃ B,B=wr.heap.size:=⟨_,rfl⟩
                 rw [← hBx] at hbx x0 x1 x2 x3 x4 x5 x6 x7 x8 x9 ⊢
                 clear hBx
                 have X4:Hid (GkW w w4 ip b ua sa fa ra ul uc sl sc fl fc rl rc nx∧w4.cell? ⟨Bx,0,none⟩=some (.int .i64 id)∧w4.cell? ⟨Bx,1,none⟩=some (.int .i64 us1)∧w4.cell? ⟨Bx,2,none⟩=some (.string mc)∧w4.cell? ⟨Bx,3,none⟩=some (.int .i64 sip)):=⟨X.out,x0,x1,x2,x3⟩
                 clear d0 d1 e0 e1 e2 e3 e4 X x0 x1 x2 x3 x4 x5 x6 x7 x8 x9
                 go_loopw [7] (fun u wr=>∃ k:Nat,k≤i∧u=.int .i64 k∧Hid ((ss.take k).all (fun y=>prS y ⟨id,us1,mc,sip,be,la,ud,qu,un,il⟩)=true)∧Hid (GkW w wr ip b ua sa fa ra ul uc sl sc fl fc rl rc nx∧wr.cell? ⟨Bx,0,none⟩=some (.int .i64 id)∧wr.cell? ⟨Bx,1,none⟩=some (.int .i64 us1)∧wr.cell? ⟨Bx,2,none⟩=some (.string mc)∧wr.cell? ⟨Bx,3,none⟩=some (.int .i64 sip))) (fun u _=>i - (intOf u).toNat)
                 case atStart=>exact ⟨0,Nat.zero_le _,rfl,rfl,X4.out⟩
                 case round =>
                  obtain ⟨k,hk,rfl,HO2,X5⟩:=hrel
                  clear X4
                  obtain ⟨X6,x0,x1,x2,x3⟩:=X5.out
                  have X:Hid (GkW w wr ip b ua sa fa ra ul uc sl sc fl fc rl rc nx):=X6
                  clear X6
                  have d0:=X.out.c0
                  have d1:=X.out.c1
                  have e0:=X.out.g0
                  have e1:=X.out.g1
                  have e2:=X.out.g2
                  have e3:=X.out.g3
                  have e4:=X.out.g4
                  rw [EA.out] at e1
                  by_cases hki:k<i
                  ·obtain ⟨y9,hy⟩:=at_of (k:=k) ls (by omega)
                   obtain ⟨bk2,off2,vs2,e9,hbk2,hvl2,hR2,hc2⟩:=RS.out.at SeR.kp X.out.grw.below hy
                   rw [EA.out] at e9
                   cases e9
                   have HT2:Hid (prS y9 ⟨id,us1,mc,sip,be,la,ud,qu,un,il⟩=true→(ss.take (k+1)).all (fun y=>prS y ⟨id,us1,mc,sip,be,la,ud,qu,un,il⟩)=true):=fun h=>all_step2 hy HO2.out h
                   have HF2:Hid (prS y9 ⟨id,us1,mc,sip,be,la,ud,qu,un,il⟩=false→(ss.take i).all (fun y=>prS y ⟨id,us1,mc,sip,be,la,ud,qu,un,il⟩)=false):=fun h=>all_no (k:=k) (by rw [List.getElem?_take,if_pos hki];exact hy) h
                   obtain ⟨id2,us2,mc2,sip2,be2,la2,ud2,qu2,un2,il2⟩:=y9
                   obtain ⟨rfl,-⟩:=hR2
                   have p0:wr.cell? ⟨bk,off+k * 10,none⟩=some (.int .i64 id2):=hc2 0 _ rfl
                   have p1:wr.cell? ⟨bk,off+k * 10+1,none⟩=some (.int .i64 us2):=hc2 1 _ rfl
                   have p2:wr.cell? ⟨bk,off+k * 10+2,none⟩=some (.string mc2):=hc2 2 _ rfl
                   have p3:wr.cell? ⟨bk,off+k * 10+3,none⟩=some (.int .i64 sip2):=hc2 3 _ rfl
                   have p4:wr.cell? ⟨bk,off+k * 10+4,none⟩=some (.int .i64 be2):=hc2 4 _ rfl
                   have p5:wr.cell? ⟨bk,off+k * 10+5,none⟩=some (.int .i64 la2):=hc2 5 _ rfl
                   have p6:wr.cell? ⟨bk,off+k * 10+6,none⟩=some (.int .i64 ud2):=hc2 6 _ rfl
                   have p7:wr.cell? ⟨bk,off+k * 10+7,none⟩=some (.int .i64 qu2):=hc2 7 _ rfl
                   have p8:wr.cell? ⟨bk,off+k * 10+8,none⟩=some (.int .i64 un2):=hc2 8 _ rfl
                   have p9:wr.cell? ⟨bk,off+k * 10+9,none⟩=some (.int .i64 il2):=hc2 9 _ rfl
                   have hkl:(k:Int)<(sl:Int):=by omega
                   have hkz:(k:Int)<(i:Int):=by omega
                   have ep:prS ⟨id2,us2,mc2,sip2,be2,la2,ud2,qu2,un2,il2⟩ ⟨id,us1,mc,sip,be,la,ud,qu,un,il⟩=(decide (id2<id) && (!decide (us2=us1) && (!(mc2.toList == mc.toList) && !decide (sip2=sip)))):=rfl
                   rw [ep] at HT2 HF2
                   clear hc2 hvl2 ep
                   have A0:(wr.alloc (.cells #[.int .i64 id2,.int .i64 us2,.string mc2,.int .i64 sip2,.int .i64 be2,.int .i64 la2,.int .i64 ud2,.int .i64 qu2,.int .i64 un2,.int .i64 il2] 80)).cell? ⟨Bx,0,none⟩=some (.int .i64 id):=acell x0 _
                   have A1:(wr.alloc (.cells #[.int .i64 id2,.int .i64 us2,.string mc2,.int .i64 sip2,.int .i64 be2,.int .i64 la2,.int .i64 ud2,.int .i64 qu2,.int .i64 un2,.int .i64 il2] 80)).cell? ⟨Bx,1,none⟩=some (.int .i64 us1):=acell x1 _
                   have A2:(wr.alloc (.cells #[.int .i64 id2,.int .i64 us2,.string mc2,.int .i64 sip2,.int .i64 be2,.int .i64 la2,.int .i64 ud2,.int .i64 qu2,.int .i64 un2,.int .i64 il2] 80)).cell? ⟨Bx,2,none⟩=some (.string mc):=acell x2 _
                   have A3:(wr.alloc (.cells #[.int .i64 id2,.int .i64 us2,.string mc2,.int .i64 sip2,.int .i64 be2,.int .i64 la2,.int .i64 ud2,.int .i64 qu2,.int .i64 un2,.int .i64 il2] 80)).cell? ⟨Bx,3,none⟩=some (.int .i64 sip):=acell x3 _
                   have X7:Hid (GkW w (wr.alloc (.cells #[.int .i64 id2,.int .i64 us2,.string mc2,.int .i64 sip2,.int .i64 be2,.int .i64 la2,.int .i64 ud2,.int .i64 qu2,.int .i64 un2,.int .i64 il2] 80)) ip b ua sa fa ra ul uc sl sc fl fc rl rc nx∧(wr.alloc (.cells #[.int .i64 id2,.int .i64 us2,.string mc2,.int .i64 sip2,.int .i64 be2,.int .i64 la2,.int .i64 ud2,.int .i64 qu2,.int .i64 un2,.int .i64 il2] 80)).cell? ⟨Bx,0,none⟩=some (.int .i64 id)∧(wr.alloc (.cells #[.int .i64 id2,.int .i64 us2,.string mc2,.int .i64 sip2,.int .i64 be2,.int .i64 la2,.int .i64 ud2,.int .i64 qu2,.int .i64 un2,.int .i64 il2] 80)).cell? ⟨Bx,1,none⟩=some (.int .i64 us1)∧(wr.alloc (.cells #[.int .i64 id2,.int .i64 us2,.string mc2,.int .i64 sip2,.int .i64 be2,.int .i64 la2,.int .i64 ud2,.int .i64 qu2,.int .i64 un2,.int .i64 il2] 80)).cell? ⟨Bx,2,none⟩=some (.string mc)∧(wr.alloc (.cells #[.int .i64 id2,.int .i64 us2,.string mc2,.int .i64 sip2,.int .i64 be2,.int .i64 la2,.int .i64 ud2,.int .i64 qu2,.int .i64 un2,.int .i64 il2] 80)).cell? ⟨Bx,3,none⟩=some (.int .i64 sip)):=⟨X.out.keep ((Grw.refl _).alloc _),A0,A1,A2,A3⟩
                   by_cases h1:id2<id
                   rotate_left
                   ·have hz1:decide (id≤id2)=true:=decide_eq_true (by omega)
                    as_aux_lemma =>
                     have hf2:Hid ((ss.take i).all (fun y=>prS y ⟨id,us1,mc,sip,be,la,ud,qu,un,il⟩)=false):=HF2.out (by simp [h1])
                     have hv:Hid (z=false):=by show z=false;rw [E.out,HF.out (by rw [hf2.out];simp)];simp
                     have HGX:Hid (Grw w _):=X7.out.1.grw
                     (try clear HS)
                     (try clear HF)
                     (try clear HT2)
                     (try clear HF2)
                     (try clear HO)
                     (try clear HO2)
                     (try clear E)
                     (try clear X)
                     (try clear X5)
                     (try clear X7)
                     (try clear RX)
                     (try clear RY)
                     (try clear RU)
                     (try clear RS)
                     (try clear RF)
                     (try clear RR)
                     (try clear EA)
                     go_wp2
                     go_ret
                     exact ⟨by rw [hv.out];rfl,HGX.out⟩
                   have hz1:decide (id≤id2)=false:=decide_eq_false (by omega)
                   by_cases h2:us2=us1
                   ·have hz2:(us2 == us1)=true:=by simp [h2]
                    as_aux_lemma =>
                     have hf2:Hid ((ss.take i).all (fun y=>prS y ⟨id,us1,mc,sip,be,la,ud,qu,un,il⟩)=false):=HF2.out (by simp [h2])
                     clear h2
                     have hv:Hid (z=false):=by show z=false;rw [E.out,HF.out (by rw [hf2.out];simp)];simp
                     have HGX:Hid (Grw w _):=X7.out.1.grw
                     (try clear HS)
                     (try clear HF)
                     (try clear HT2)
                     (try clear HF2)
                     (try clear HO)
                     (try clear HO2)
                     (try clear E)
                     (try clear X)
                     (try clear X5)
                     (try clear X7)
                     (try clear RX)
                     (try clear RY)
                     (try clear RU)
                     (try clear RS)
                     (try clear RF)
                     (try clear RR)
                     (try clear EA)
                     go_wp2
                     go_ret
                     exact ⟨by rw [hv.out];rfl,HGX.out⟩
                   have hz2:(us2 == us1)=false:=by simp [h2]
                   cases h3:(mc2.toList == mc.toList) with
                   | true =>
                    as_aux_lemma =>
                     have hf2:Hid ((ss.take i).all (fun y=>prS y ⟨id,us1,mc,sip,be,la,ud,qu,un,il⟩)=false):=HF2.out (by simp [h3])
                     have hv:Hid (z=false):=by show z=false;rw [E.out,HF.out (by rw [hf2.out];simp)];simp
                     have HGX:Hid (Grw w _):=X7.out.1.grw
                     (try clear HS)
                     (try clear HF)
                     (try clear HT2)
                     (try clear HF2)
                     (try clear HO)
                     (try clear HO2)
                     (try clear E)
                     (try clear X)
                     (try clear X5)
                     (try clear X7)
                     (try clear RX)
                     (try clear RY)
                     (try clear RU)
                     (try clear RS)
                     (try clear RF)
                     (try clear RR)
                     (try clear EA)
                     go_wp2
                     go_ret
                     exact ⟨by rw [hv.out];rfl,HGX.out⟩
                   | false =>
                    by_cases h4:sip2=sip
                    ·have hz4:(sip2 == sip)=true:=by simp [h4]
                     as_aux_lemma =>
                      have hf2:Hid ((ss.take i).all (fun y=>prS y ⟨id,us1,mc,sip,be,la,ud,qu,un,il⟩)=false):=HF2.out (by simp [h4])
                      clear h4
                      have hv:Hid (z=false):=by show z=false;rw [E.out,HF.out (by rw [hf2.out];simp)];simp
                      have HGX:Hid (Grw w _):=X7.out.1.grw
                      (try clear HS)
                      (try clear HF)
                      (try clear HT2)
                      (try clear HF2)
                      (try clear HO)
                      (try clear HO2)
                      (try clear E)
                      (try clear X)
                      (try clear X5)
                      (try clear X7)
                      (try clear RX)
                      (try clear RY)
                      (try clear RU)
                      (try clear RS)
                      (try clear RF)
                      (try clear RR)
                      (try clear EA)
                      go_wp2
                      go_ret
                      exact ⟨by rw [hv.out];rfl,HGX.out⟩
                    have hz4:(sip2 == sip)=false:=by simp [h4]
                    have HT3:Hid ((ss.take (k+1)).all (fun y=>prS y ⟨id,us1,mc,sip,be,la,ud,qu,un,il⟩)=true):=HT2.out (by simp [h1,h2,h3,h4])
                    clear HT2 HF2 h1 h2 h4
                    go_wp2
                    go_roundw
                    case rel=>exact ⟨k+1,by omega,by go_num,HT3,X7⟩
                    case measure=>simp [intOf];omega
                  ·obtain rfl:k=i:=by omega
                   have hkz:¬ (k:Int)<(k:Int):=by omega
                   have HO3:Hid ((List.range (k+1)).all (seAt (sB nx us.length ip b) ss)=true):=HS.out (by rw [HO2.out];rfl)
                   clear HS HF HO HO2
                   go_wp2
                   exact ⟨⟨k+1,by omega,by go_num,HO3,X⟩,by simp [intOf];omega⟩
     ·obtain rfl:sl=i:=by omega
      have E2:Hid (z=(risB faB ltF fs && es.all (reB nx))):=by show z=_;rw [E.out];have:seB (sB nx us.length ip b) ss=true:=(by unfold seB;rw [ls];exact HO.out);rw [this];rfl
      clear E HO hlt
      have d0:=X.out.c0
      have d1:=X.out.c1
      have e0:=X.out.g0
      have e1:=X.out.g1
      have e2:=X.out.g2
      have e3:=X.out.g3
      have e4:=X.out.g4
      go_wp2
      generalize wr=w3 at X d0 d1 e0 e1 e2 e3 e4 ⊢
      clear d0 d1 e0 e1 e2 e3 e4
      go_loopw [9] (fun u wr=>∃ k:Nat,k≤fl∧u=.int .i64 k∧Hid ((List.range k).all (risAt faB ltF fs)=true)∧Hid (GkW w wr ip b ua sa fa ra ul uc sl sc fl fc rl rc nx)) (fun u _=>fl - (intOf u).toNat)
      case atStart=>exact ⟨0,Nat.zero_le _,rfl,rfl,X.out⟩
      case round =>
       clear X
       obtain ⟨k,hk,rfl,HO,X⟩:=hrel
       by_cases hlt:k<fl
       ·obtain ⟨x9,hx⟩:=at_of lf hlt
        obtain ⟨bk,off,vs,ea,hbk,hvl,hR,hc⟩:=RF.out.at FaR.kp X.out.grw.below hx
        have EA:Hid (fa=some ⟨bk,off,none⟩):=ea
        clear ea
        have HS:Hid (risAt faB ltF fs k=true→(List.range (k+1)).all (risAt faB ltF fs)=true):=fun h=>ris_step HO.out h
        have HF:Hid (risAt faB ltF fs k=false→risB faB ltF fs=false):=fun h=>ris_no (by omega) h
        have d0:=X.out.c0
        have d1:=X.out.c1
        have e0:=X.out.g0
        have e1:=X.out.g1
        have e2:=X.out.g2
        have e3:=X.out.g3
        have e4:=X.out.g4
        rw [EA.out] at e2
        obtain ⟨mc,ct,un⟩:=x9
        obtain ⟨rfl,-⟩:=hR
        have q0:wr.cell? ⟨bk,off+k * 3,none⟩=some (.string mc):=hc 0 _ rfl
        have q1:wr.cell? ⟨bk,off+k * 3+1,none⟩=some (.int .i64 ct):=hc 1 _ rfl
        have q2:wr.cell? ⟨bk,off+k * 3+2,none⟩=some (.int .i64 un):=hc 2 _ rfl
        have hltz:(k:Int)<(fl:Int):=by omega
        have T0:Hid (∀ w,Calls Tryz.prog 22 #[.string mc] w fun e w'=>e=.returned (.bool (dec (mc.size=6)))∧Grw w w'):=fun w=>(l01MacC_any mc w).mono fun e w' h=>⟨h.1,h.2 ▸ Grw.refl _⟩
        have T1:Hid (∀ w,Calls Tryz.prog 65 #[.int .i64 ct,.int .i64 0,.int .i64 2] w fun e w'=>e=.returned (.bool (dec (0≤ct∧ct≤2)))∧Grw w w'):=fun w=>(specIn_any ct 0 2 w).mono fun e w' h=>⟨h.1,h.2 ▸ Grw.refl _⟩
        have T2:Hid (∀ w,Calls Tryz.prog 65 #[.int .i64 un,.int .i64 0,.int .i64 100010] w fun e w'=>e=.returned (.bool (dec (0≤un∧un≤100010)))∧Grw w w'):=fun w=>(specIn_any un 0 100010 w).mono fun e w' h=>⟨h.1,h.2 ▸ Grw.refl _⟩
        by_cases hk0:k=0
        ·have eo:risAt faB ltF fs k=faB ⟨mc,ct,un⟩:=by subst hk0;exact risAt_zero hx
         have hkd:decide (0<k)=false:=decide_eq_false (by omega)
         clear hk0
         have eu:faB ⟨mc,ct,un⟩=(dec (mc.size=6) && (dec (0≤ct∧ct≤2) && dec (0≤un∧un≤100010))):=rfl
         rw [eo,eu] at HS HF
         generalize dec (mc.size=6)=q1 at T0 HS HF
         generalize dec (0≤ct∧ct≤2)=q2 at T1 HS HF
         generalize dec (0≤un∧un≤100010)=q3 at T2 HS HF
         clear hc hvl hx eo eu
         have X1:Hid (GkW w (wr.alloc (.cells #[.string mc,.int .i64 ct,.int .i64 un] 115)) ip b ua sa fa ra ul uc sl sc fl fc rl rc nx):=X.out.keep ((Grw.refl _).alloc _)
         have hmix:Tryz.prog.follows .mixedOrders=true:=by kernel_rfl
         have y0:∀ n os,(grow (World.drewN (wr.alloc (.cells #[.string mc,.int .i64 ct,.int .i64 un] 115)) n) os).cell? ⟨wr.heap.size,0,none⟩=some (.string mc):=fun n os=>cell_grown (by simp) (by simp) n os
         have y1:∀ n os,(grow (World.drewN (wr.alloc (.cells #[.string mc,.int .i64 ct,.int .i64 un] 115)) n) os).cell? ⟨wr.heap.size,1,none⟩=some (.int .i64 ct):=fun n os=>cell_grown (by simp) (by simp) n os
         have y2:∀ n os,(grow (World.drewN (wr.alloc (.cells #[.string mc,.int .i64 ct,.int .i64 un] 115)) n) os).cell? ⟨wr.heap.size,2,none⟩=some (.int .i64 un):=fun n os=>cell_grown (by simp) (by simp) n os
         have v2:∀ n os,(grow (World.drewN (wr.alloc (.cells #[.string mc,.int .i64 ct,.int .i64 un] 115)) n) os).cell? ⟨w.heap.size+1,2,none⟩=some (.slice (some ⟨bk,off,none⟩) fl fc):=fun n os=>(((Grw.refl wr).alloc _).trans ⟨n,os,rfl⟩).keep e2
         cases q1 with
         | false =>
          as_aux_lemma =>
           have hv:Hid (z=false):=by show z=false;rw [E2.out,HF.out (by simp)];rfl
           go_wp2_with fail
           refine wp_region_quiet_grown (by assumption) (by kernel_rfl) ?_
           repeat (go_big_quiet_step (first | fail | (first | (go_at_call 22;exact Calls.grown_of (T0.out _)) | (go_at_call 65;with_reducible exact Calls.grown_of (T1.out _)) | (go_at_call 65;with_reducible exact Calls.grown_of (T2.out _)))))
           refine wpQuiet_nil ?_
           intro _ hw'
           obtain ⟨⟨nq,osq⟩,hw''⟩:=hw'
           subst hw''
           have HG1:Hid (Grw w _):=X1.out.grw.trans ⟨nq,osq,rfl⟩
           clear y0 y1 y2 v2
           go_wp2
           go_ret
           exact ⟨by rw [hv.out];rfl,HG1.out⟩
         | true =>
          cases q2 with
          | false =>
           as_aux_lemma =>
            have hv:Hid (z=false):=by show z=false;rw [E2.out,HF.out (by simp)];rfl
            go_wp2_with fail
            refine wp_region_quiet_grown (by assumption) (by kernel_rfl) ?_
            repeat (go_big_quiet_step (first | fail | (first | (go_at_call 22;exact Calls.grown_of (T0.out _)) | (go_at_call 65;with_reducible exact Calls.grown_of (T1.out _)) | (go_at_call 65;with_reducible exact Calls.grown_of (T2.out _)))))
            refine wpQuiet_nil ?_
            intro _ hw'
            obtain ⟨⟨nq,osq⟩,hw''⟩:=hw'
            subst hw''
            have HG1:Hid (Grw w _):=X1.out.grw.trans ⟨nq,osq,rfl⟩
            clear y0 y1 y2 v2
            go_wp2
            go_ret
            exact ⟨by rw [hv.out];rfl,HG1.out⟩
          | true =>
           cases q3 with
           | false =>
            as_aux_lemma =>
             have hv:Hid (z=false):=by show z=false;rw [E2.out,HF.out (by simp)];rfl
             go_wp2_with fail
             refine wp_region_quiet_grown (by assumption) (by kernel_rfl) ?_
             repeat (go_big_quiet_step (first | fail | (first | (go_at_call 22;exact Calls.grown_of (T0.out _)) | (go_at_call 65;with_reducible exact Calls.grown_of (T1.out _)) | (go_at_call 65;with_reducible exact Calls.grown_of (T2.out _)))))
             refine wpQuiet_nil ?_
             intro _ hw'
             obtain ⟨⟨nq,osq⟩,hw''⟩:=hw'
             subst hw''
             have HG1:Hid (Grw w _):=X1.out.grw.trans ⟨nq,osq,rfl⟩
             clear y0 y1 y2 v2
             go_wp2
             go_ret
             exact ⟨by rw [hv.out];rfl,HG1.out⟩
           | true =>
            have HS':Hid ((List.range (k+1)).all (risAt faB ltF fs)=true):=HS.out (by simp)
            clear HS HF
            go_wp2_with fail
            refine wp_region_quiet_grown (by assumption) (by kernel_rfl) ?_
            repeat (go_big_quiet_step (first | fail | (first | (go_at_call 22;exact Calls.grown_of (T0.out _)) | (go_at_call 65;with_reducible exact Calls.grown_of (T1.out _)) | (go_at_call 65;with_reducible exact Calls.grown_of (T2.out _)))))
            refine wpQuiet_nil ?_
            intro _ hw'
            obtain ⟨⟨nq,osq⟩,hw''⟩:=hw'
            subst hw''
            have X2:Hid (GkW w (grow (World.drewN (wr.alloc (.cells #[.string mc,.int .i64 ct,.int .i64 un] 115)) nq) osq) ip b ua sa fa ra ul uc sl sc fl fc rl rc nx):=X1.out.keep ⟨nq,osq,rfl⟩
            clear y0 y1 y2 v2 X1
            go_wp2
            go_roundw
            case rel=>exact ⟨k+1,by omega,by go_num,HS',X2⟩
            case measure=>simp [intOf];omega
        ·obtain ⟨j,hkj⟩:∃ j,k=j+1:=⟨k - 1,by omega⟩
         obtain ⟨z',hx'⟩:=at_of (k:=j) lf (by omega)
         obtain ⟨b',off',vs',e',hb',hvl',hR',hc'⟩:=RF.out.at FaR.kp X.out.grw.below hx'
         rw [EA.out] at e'
         cases e'
         obtain ⟨mc',ct',un'⟩:=z'
         obtain ⟨rfl,-⟩:=hR'
         have p0:wr.cell? ⟨bk,off+j * 3,none⟩=some (.string mc'):=hc' 0 _ rfl
         obtain ⟨lt,hlt2⟩:∃ lt,Op.bytesLess mc'.toList mc.toList=lt:=⟨_,rfl⟩
         have eo:risAt faB ltF fs k=(faB ⟨mc,ct,un⟩ && lt):=by subst hkj;rw [← hlt2];exact risAt_succ hx hx'
         have hkd:decide (0<k)=true:=decide_eq_true (by omega)
         have hj:(k:Int) - 1=(j:Int):=by omega
         have hjl:(j:Int)<(fl:Int):=by omega
         clear hk0 hkj
         have eu:faB ⟨mc,ct,un⟩=(dec (mc.size=6) && (dec (0≤ct∧ct≤2) && dec (0≤un∧un≤100010))):=rfl
         rw [eo,eu] at HS HF
         generalize dec (mc.size=6)=q1 at T0 HS HF
         generalize dec (0≤ct∧ct≤2)=q2 at T1 HS HF
         generalize dec (0≤un∧un≤100010)=q3 at T2 HS HF
         clear hc hvl hx eo eu hc' hvl' hx'
         have X1:Hid (GkW w (wr.alloc (.cells #[.string mc,.int .i64 ct,.int .i64 un] 115)) ip b ua sa fa ra ul uc sl sc fl fc rl rc nx):=X.out.keep ((Grw.refl _).alloc _)
         have hmix:Tryz.prog.follows .mixedOrders=true:=by kernel_rfl
         have y0:∀ n os,(grow (World.drewN (wr.alloc (.cells #[.string mc,.int .i64 ct,.int .i64 un] 115)) n) os).cell? ⟨wr.heap.size,0,none⟩=some (.string mc):=fun n os=>cell_grown (by simp) (by simp) n os
         have y1:∀ n os,(grow (World.drewN (wr.alloc (.cells #[.string mc,.int .i64 ct,.int .i64 un] 115)) n) os).cell? ⟨wr.heap.size,1,none⟩=some (.int .i64 ct):=fun n os=>cell_grown (by simp) (by simp) n os
         have y2:∀ n os,(grow (World.drewN (wr.alloc (.cells #[.string mc,.int .i64 ct,.int .i64 un] 115)) n) os).cell? ⟨wr.heap.size,2,none⟩=some (.int .i64 un):=fun n os=>cell_grown (by simp) (by simp) n os
         have v2:∀ n os,(grow (World.drewN (wr.alloc (.cells #[.string mc,.int .i64 ct,.int .i64 un] 115)) n) os).cell? ⟨w.heap.size+1,2,none⟩=some (.slice (some ⟨bk,off,none⟩) fl fc):=fun n os=>(((Grw.refl wr).alloc _).trans ⟨n,os,rfl⟩).keep e2
         have p1:∀ n os,(grow (World.drewN (wr.alloc (.cells #[.string mc,.int .i64 ct,.int .i64 un] 115)) n) os).cell? ⟨bk,off+j * 3,none⟩=some (.string mc'):=fun n os=>(((Grw.refl wr).alloc _).trans ⟨n,os,rfl⟩).keep p0
         cases q1 with
         | false =>
          as_aux_lemma =>
           have hv:Hid (z=false):=by show z=false;rw [E2.out,HF.out (by simp)];rfl
           go_wp2_with fail
           refine wp_region_quiet_grown (by assumption) (by kernel_rfl) ?_
           repeat (go_big_quiet_step (first | fail | (first | (go_at_call 22;exact Calls.grown_of (T0.out _)) | (go_at_call 65;with_reducible exact Calls.grown_of (T1.out _)) | (go_at_call 65;with_reducible exact Calls.grown_of (T2.out _)))))
           refine wpQuiet_nil ?_
           intro _ hw'
           obtain ⟨⟨nq,osq⟩,hw''⟩:=hw'
           subst hw''
           have HG1:Hid (Grw w _):=X1.out.grw.trans ⟨nq,osq,rfl⟩
           clear y0 y1 y2 v2 p1
           go_wp2
           go_ret
           exact ⟨by rw [hv.out];rfl,HG1.out⟩
         | true =>
          cases q2 with
          | false =>
           as_aux_lemma =>
            have hv:Hid (z=false):=by show z=false;rw [E2.out,HF.out (by simp)];rfl
            go_wp2_with fail
            refine wp_region_quiet_grown (by assumption) (by kernel_rfl) ?_
            repeat (go_big_quiet_step (first | fail | (first | (go_at_call 22;exact Calls.grown_of (T0.out _)) | (go_at_call 65;with_reducible exact Calls.grown_of (T1.out _)) | (go_at_call 65;with_reducible exact Calls.grown_of (T2.out _)))))
            refine wpQuiet_nil ?_
            intro _ hw'
            obtain ⟨⟨nq,osq⟩,hw''⟩:=hw'
            subst hw''
            have HG1:Hid (Grw w _):=X1.out.grw.trans ⟨nq,osq,rfl⟩
            clear y0 y1 y2 v2 p1
            go_wp2
            go_ret
            exact ⟨by rw [hv.out];rfl,HG1.out⟩
          | true =>
           cases q3 with
           | false =>
            as_aux_lemma =>
             have hv:Hid (z=false):=by show z=false;rw [E2.out,HF.out (by simp)];rfl
             go_wp2_with fail
             refine wp_region_quiet_grown (by assumption) (by kernel_rfl) ?_
             repeat (go_big_quiet_step (first | fail | (first | (go_at_call 22;exact Calls.grown_of (T0.out _)) | (go_at_call 65;with_reducible exact Calls.grown_of (T1.out _)) | (go_at_call 65;with_reducible exact Calls.grown_of (T2.out _)))))
             refine wpQuiet_nil ?_
             intro _ hw'
             obtain ⟨⟨nq,osq⟩,hw''⟩:=hw'
             subst hw''
             have HG1:Hid (Grw w _):=X1.out.grw.trans ⟨nq,osq,rfl⟩
             clear y0 y1 y2 v2 p1
             go_wp2
             go_ret
             exact ⟨by rw [hv.out];rfl,HG1.out⟩
           | true =>
            cases lt with
            | true =>
             have HS':Hid ((List.range (k+1)).all (risAt faB ltF fs)=true):=HS.out (by simp)
             clear HS HF
             go_wp2_with fail
             refine wp_region_quiet_grown (by assumption) (by kernel_rfl) ?_
             repeat (go_big_quiet_step (first | fail | (first | (go_at_call 22;exact Calls.grown_of (T0.out _)) | (go_at_call 65;with_reducible exact Calls.grown_of (T1.out _)) | (go_at_call 65;with_reducible exact Calls.grown_of (T2.out _)))))
             refine wpQuiet_nil ?_
             intro _ hw'
             obtain ⟨⟨nq,osq⟩,hw''⟩:=hw'
             subst hw''
             have X2:Hid (GkW w (grow (World.drewN (wr.alloc (.cells #[.string mc,.int .i64 ct,.int .i64 un] 115)) nq) osq) ip b ua sa fa ra ul uc sl sc fl fc rl rc nx):=X1.out.keep ⟨nq,osq,rfl⟩
             clear y0 y1 y2 v2 p1 X1
             go_wp2
             go_roundw
             case rel=>exact ⟨k+1,by omega,by go_num,HS',X2⟩
             case measure=>simp [intOf];omega
            | false =>
             as_aux_lemma =>
              have hv:Hid (z=false):=by show z=false;rw [E2.out,HF.out (by simp)];rfl
              go_wp2_with fail
              refine wp_region_quiet_grown (by assumption) (by kernel_rfl) ?_
              repeat (go_big_quiet_step (first | fail | (first | (go_at_call 22;exact Calls.grown_of (T0.out _)) | (go_at_call 65;with_reducible exact Calls.grown_of (T1.out _)) | (go_at_call 65;with_reducible exact Calls.grown_of (T2.out _)))))
              refine wpQuiet_nil ?_
              intro _ hw'
              obtain ⟨⟨nq,osq⟩,hw''⟩:=hw'
              subst hw''
              have HG1:Hid (Grw w _):=X1.out.grw.trans ⟨nq,osq,rfl⟩
              clear y0 y1 y2 v2 p1
              go_wp2
              go_ret
              exact ⟨by rw [hv.out];rfl,HG1.out⟩
       ·obtain rfl:fl=k:=by omega
        have d0:=X.out.c0
        have d1:=X.out.c1
        have e0:=X.out.g0
        have e1:=X.out.g1
        have e2:=X.out.g2
        have e3:=X.out.g3
        have e4:=X.out.g4
        have E3:Hid (z=es.all (reB nx)):=by show z=_;rw [E2.out,ris_end lf HO.out];rfl
        clear E2 HO hlt
        go_wp2
        generalize wr=w3 at X d0 d1 e0 e1 e2 e3 e4 ⊢
        clear d0 d1 e0 e1 e2 e3 e4
        go_loopw [11] (fun u wr=>∃ k:Nat,k≤rl∧u=.int .i64 k∧Hid ((es.take k).all (reB nx)=true)∧Hid (GkW w wr ip b ua sa fa ra ul uc sl sc fl fc rl rc nx)) (fun u _=>rl - (intOf u).toNat)
        case atStart=>exact ⟨0,Nat.zero_le _,rfl,rfl,X.out⟩
        case round =>
         clear X
         obtain ⟨k,hk,rfl,HO,X⟩:=hrel
         by_cases hlt:k<rl
         ·obtain ⟨x9,hx⟩:=at_of lr hlt
          obtain ⟨bk,off,vs,ea,hbk,hvl,hR,hc⟩:=RR.out.at ReR.kp X.out.grw.below hx
          have EA:Hid (ra=some ⟨bk,off,none⟩):=ea
          clear ea
          have HS:Hid (reB nx x9=true→(es.take (k+1)).all (reB nx)=true):=fun h=>all_step2 hx HO.out h
          have HF:Hid (reB nx x9=false→es.all (reB nx)=false):=fun h=>all_no hx h
          have d0:=X.out.c0
          have d1:=X.out.c1
          have e0:=X.out.g0
          have e1:=X.out.g1
          have e2:=X.out.g2
          have e3:=X.out.g3
          have e4:=X.out.g4
          rw [EA.out] at e3
          obtain ⟨rid,rtm,rca,rbt,rst⟩:=x9
          obtain ⟨rfl,-⟩:=hR
          have q0:wr.cell? ⟨bk,off+k * 5,none⟩=some (.int .i64 rid):=hc 0 _ rfl
          have q1:wr.cell? ⟨bk,off+k * 5+1,none⟩=some (.int .i64 rtm):=hc 1 _ rfl
          have q2:wr.cell? ⟨bk,off+k * 5+2,none⟩=some (.int .i64 rca):=hc 2 _ rfl
          have q3:wr.cell? ⟨bk,off+k * 5+3,none⟩=some (.int .i64 rbt):=hc 3 _ rfl
          have q4:wr.cell? ⟨bk,off+k * 5+4,none⟩=some (.bool rst):=hc 4 _ rfl
          have hltz:(k:Int)<(rl:Int):=by omega
          have T0:Hid (∀ w,Calls Tryz.prog 65 #[.int .i64 rid,.int .i64 1,.int .i64 (nx - 1)] w fun e w'=>e=.returned (.bool (dec (1≤rid∧rid≤nx - 1)))∧w'=w):=fun w=>specIn_any rid 1 (nx - 1) w
          have T1:Hid (∀ w,Calls Tryz.prog 65 #[.int .i64 rtm,.int .i64 0,.int .i64 100000] w fun e w'=>e=.returned (.bool (dec (0≤rtm∧rtm≤100000)))∧w'=w):=fun w=>specIn_any rtm 0 100000 w
          have T2:Hid (∀ w,Calls Tryz.prog 65 #[.int .i64 rbt,.int .i64 0,.int .i64 1000000] w fun e w'=>e=.returned (.bool (dec (0≤rbt∧rbt≤1000000)))∧w'=w):=fun w=>specIn_any rbt 0 1000000 w
          have T3:Hid (∀ w,Calls Tryz.prog 65 #[.int .i64 rca,.int .i64 0,.int .i64 6] w fun e w'=>e=.returned (.bool (dec (0≤rca∧rca≤6)))∧w'=w):=fun w=>specIn_any rca 0 6 w
          have eu:reB nx ⟨rid,rtm,rca,rbt,rst⟩=(dec (1≤rid∧rid≤nx - 1) && (dec (0≤rtm∧rtm≤100000) && (dec (0≤rbt∧rbt≤1000000) && ((rst == dec (0<rca)) && (dec (0≤rca∧rca≤6) && (rst || dec (rbt=0))))))):=rfl
          rw [eu] at HS HF
          generalize dec (1≤rid∧rid≤nx - 1)=t0 at T0 HS HF
          generalize dec (0≤rtm∧rtm≤100000)=t1 at T1 HS HF
          generalize dec (0≤rbt∧rbt≤1000000)=t2 at T2 HS HF
          generalize dec (0≤rca∧rca≤6)=t3 at T3 HS HF
          clear hc hvl hx eu
          have f0:=acell e0 (.cells #[.int .i64 rid,.int .i64 rtm,.int .i64 rca,.int .i64 rbt,.bool rst] 86)
          have f1:=acell e1 (.cells #[.int .i64 rid,.int .i64 rtm,.int .i64 rca,.int .i64 rbt,.bool rst] 86)
          have f2:=acell e2 (.cells #[.int .i64 rid,.int .i64 rtm,.int .i64 rca,.int .i64 rbt,.bool rst] 86)
          have f3:=acell e3 (.cells #[.int .i64 rid,.int .i64 rtm,.int .i64 rca,.int .i64 rbt,.bool rst] 86)
          have f4:=acell e4 (.cells #[.int .i64 rid,.int .i64 rtm,.int .i64 rca,.int .i64 rbt,.bool rst] 86)
          go_wp2_with fail
          clear f0 f1 f2 f3 f4
          have x0:(wr.alloc (.cells #[.int .i64 rid,.int .i64 rtm,.int .i64 rca,.int .i64 rbt,.bool rst] 86)).cell? ⟨wr.heap.size,0,none⟩=some (.int .i64 rid):=by simp [go_sem]
          have x1:(wr.alloc (.cells #[.int .i64 rid,.int .i64 rtm,.int .i64 rca,.int .i64 rbt,.bool rst] 86)).cell? ⟨wr.heap.size,1,none⟩=some (.int .i64 rtm):=by simp [go_sem]
          have x2:(wr.alloc (.cells #[.int .i64 rid,.int .i64 rtm,.int .i64 rca,.int .i64 rbt,.bool rst] 86)).cell? ⟨wr.heap.size,2,none⟩=some (.int .i64 rca):=by simp [go_sem]
          have x3:(wr.alloc (.cells #[.int .i64 rid,.int .i64 rtm,.int .i64 rca,.int .i64 rbt,.bool rst] 86)).cell? ⟨wr.heap.size,3,none⟩=some (.int .i64 rbt):=by simp [go_sem]
          have x4:(wr.alloc (.cells #[.int .i64 rid,.int .i64 rtm,.int .i64 rca,.int .i64 rbt,.bool rst] 86)).cell? ⟨wr.heap.size,4,none⟩=some (.bool rst):=by simp [go_sem]
          replace X:Hid (GkW w (wr.alloc (.cells #[.int .i64 rid,.int .i64 rtm,.int .i64 rca,.int .i64 rbt,.bool rst] 86)) ip b ua sa fa ra ul uc sl sc fl fc rl rc nx):=X.out.keep ((Grw.refl _).alloc _)
          generalize (wr.alloc (.cells #[.int .i64 rid,.int .i64 rtm,.int .i64 rca,.int .i64 rbt,.bool rst] 86))=W1 at X x0 x1 x2 x3 x4 ⊢
          clear d0 d1 e0 e1 e2 e3 e4 q0 q1 q2 q3 q4
          have d0:=X.out.c0
          have d1:=X.out.c1
          have e0:=X.out.g0
          have e1:=X.out.g1
          have e2:=X.out.g2
          have e3:=X.out.g3
          have e4:=X.out.g4
          rw [EA.out] at e3
          refine (T0.out _).mono ?_
          rintro e w9 ⟨rfl,rfl⟩
          cases t0 with
          | false =>
           as_aux_lemma =>
            have hv:Hid (z=false):=by show z=false;rw [E3.out,HF.out (by simp)]
            go_wp2
            go_ret
            exact ⟨by rw [hv.out];rfl,X.out.grw⟩
          | true =>
           go_wp2_with fail
           refine (T1.out _).mono ?_
           rintro e w9 ⟨rfl,rfl⟩
           cases t1 with
           | false =>
            as_aux_lemma =>
             have hv:Hid (z=false):=by show z=false;rw [E3.out,HF.out (by simp)]
             go_wp2
             go_ret
             exact ⟨by rw [hv.out];rfl,X.out.grw⟩
           | true =>
            go_wp2_with fail
            refine (T2.out _).mono ?_
            rintro e w9 ⟨rfl,rfl⟩
            cases t2 with
            | false =>
             as_aux_lemma =>
              have hv:Hid (z=false):=by show z=false;rw [E3.out,HF.out (by simp)]
              go_wp2
              go_ret
              exact ⟨by rw [hv.out];rfl,X.out.grw⟩
            | true =>
             by_cases hca:0<rca
             ·rw [dec_y hca] at HS HF
              have hcz:decide (0<rca)=true:=decide_eq_true hca
              cases rst with
              | false =>
               as_aux_lemma =>
                have hv:Hid (z=false):=by show z=false;rw [E3.out,HF.out (by simp)]
                go_wp2
                go_ret
                exact ⟨by rw [hv.out];rfl,X.out.grw⟩
              | true =>
               go_wp2_with fail
               refine (T3.out _).mono ?_
               rintro e w9 ⟨rfl,rfl⟩
               cases t3 with
               | false =>
                as_aux_lemma =>
                 have hv:Hid (z=false):=by show z=false;rw [E3.out,HF.out (by simp)]
                 go_wp2
                 go_ret
                 exact ⟨by rw [hv.out];rfl,X.out.grw⟩
               | true =>
                have HS':Hid ((es.take (k+1)).all (reB nx)=true):=HS.out (by simp)
                clear HS HF
                go_wp2
                go_roundw
                case rel=>exact ⟨k+1,by omega,by go_num,HS',X⟩
                case measure=>simp [intOf];omega
             ·rw [dec_n hca] at HS HF
              have hcz:decide (0<rca)=false:=decide_eq_false hca
              cases rst with
              | true =>
               as_aux_lemma =>
                have hv:Hid (z=false):=by show z=false;rw [E3.out,HF.out (by simp)]
                go_wp2
                go_ret
                exact ⟨by rw [hv.out];rfl,X.out.grw⟩
              | false =>
               go_wp2_with fail
               refine (T3.out _).mono ?_
               rintro e w9 ⟨rfl,rfl⟩
               cases t3 with
               | false =>
                as_aux_lemma =>
                 have hv:Hid (z=false):=by show z=false;rw [E3.out,HF.out (by simp)]
                 go_wp2
                 go_ret
                 exact ⟨by rw [hv.out];rfl,X.out.grw⟩
               | true =>
                by_cases hb0':rbt=0
                ·rw [dec_y hb0'] at HS HF
                 have hbz:(rbt != 0)=false:=by simp [hb0']
                 have HS':Hid ((es.take (k+1)).all (reB nx)=true):=HS.out (by simp)
                 clear HS HF hb0'
                 go_wp2
                 go_roundw
                 case rel=>exact ⟨k+1,by omega,by go_num,HS',X⟩
                 case measure=>simp [intOf];omega
                ·rw [dec_n hb0'] at HS HF
                 have hbz:(rbt != 0)=true:=by simp [hb0']
                 as_aux_lemma =>
                  have hv:Hid (z=false):=by show z=false;rw [E3.out,HF.out (by simp)]
                  go_wp2
                  go_ret
                  exact ⟨by rw [hv.out];rfl,X.out.grw⟩
         ·obtain rfl:rl=k:=by omega
          have d0:=X.out.c0
          have d1:=X.out.c1
          have e0:=X.out.g0
          have e1:=X.out.g1
          have e2:=X.out.g2
          have e3:=X.out.g3
          have e4:=X.out.g4
          have hv:Hid (z=true):=by show z=true;rw [E3.out,all_end lr HO.out]
          clear HO
          go_wp2
          go_ret
          exact ⟨by rw [hv.out];rfl,X.out.grw⟩
end Go.Proofs.YtojcakkkakmniaaGreatDoor
