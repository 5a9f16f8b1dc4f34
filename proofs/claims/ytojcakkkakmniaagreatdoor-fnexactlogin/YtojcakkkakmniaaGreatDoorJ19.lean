/- The program's inLan, sessionOK, sessionsApart. -/
import Derived.Test.YtojcakkkakmniaaGreatDoorJ18
namespace Go.Proofs.YtojcakkkakmniaaGreatDoor
open Go.Shelf Go.Lib Go.Proofs Go.Maps Go.WideAt Go.WideMaps Go.RowKit Go.PlainAid Go.Proofs.YtojcakkkakmniaaGreatDoor.Bt Go.Sort
set_option linter.unusedVariables false
set_option maxRecDepth 20000
set_option maxHeartbeats 1000000 in
theorem inLan_any (ip b gt:Int) (gm wm:ByteArray) (rs:Int) (x y:Option Addr) (lenx capx leny capy:Nat) (q:Int) (w:World) :
  Calls Tryz.prog 36 #[.agg #[.int .i64 ip,.int .i64 b,.int .i64 gt,.string gm,.string wm,.int .i64 rs,.slice x lenx capx,.slice y leny capy],.int .i64 q] w fun e w'=>e=.returned (.bool (nhB ip b q))∧Grw w w':=by
 have HA:Hid (∀ w,Calls Tryz.prog 79 #[.agg #[.int .i64 ip,.int .i64 b],.int .i64 q] w fun e w'=>e=.returned (.tuple #[.bool (nhB ip b q),.int .i64 (nhC ip b q)])∧Grw w w'):=fun w=>implNetHas_any ip b q w
 have hcase:(nhC ip b q=0) ∨ (nhC ip b q ≠ 0∧nhB ip b q=false):=by
  unfold nhC nhB
  cases nB ip b <;> cases dec (0≤q∧q≤4294967295) <;> simp
 generalize nhB ip b q=r at HA hcase ⊢
 generalize nhC ip b q=c at HA hcase
 rcases hcase with rfl | ⟨hc,rfl⟩
 ·go_enter Tryz.func36,Tryz.ntmps36
  go_wp2_with fail
  refine (HA.out _).mono ?_
  rintro e w2 ⟨rfl,g2⟩
  go_wp2
  go_ret
  exact ⟨by first | rfl | simp,((Grw.refl w).alloc _).trans g2⟩
 ·have hcz:(c == 0)=false:=by simp [hc]
  clear hc
  go_enter Tryz.func36,Tryz.ntmps36
  go_wp2_with fail
  refine (HA.out _).mono ?_
  rintro e w2 ⟨rfl,g2⟩
  go_wp2
  go_ret
  exact ⟨by first | rfl | simp,((Grw.refl w).alloc _).trans g2⟩
set_option maxHeartbeats 4000000 in
theorem sessionOK_any (ip b gt:Int) (gm wm:ByteArray) (rs:Int) (x y:Option Addr) (lenx capx leny capy:Nat) (ua sa fa ra:Option Addr) (ul uc sl sc fl fc rl rc:Nat) (nx:Int) (id us1:Int) (mc:ByteArray) (sip be la ud qu un il:Int) (w:World) (hn:nB ip b=true) (hn1:1≤nx) (hn2:nx≤10000) (mu:ul≤1048576) :
  Calls Tryz.prog 138 #[.agg #[.int .i64 ip,.int .i64 b,.int .i64 gt,.string gm,.string wm,.int .i64 rs,.slice x lenx capx,.slice y leny capy],.agg #[.slice ua ul uc,.slice sa sl sc,.slice fa fl fc,.slice ra rl rc,.int .i64 nx],.agg #[.int .i64 id,.int .i64 us1,.string mc,.int .i64 sip,.int .i64 be,.int .i64 la,.int .i64 ud,.int .i64 qu,.int .i64 un,.int .i64 il]] w fun e w'=>e=.returned (.bool (sB nx ul ip b ⟨id,us1,mc,sip,be,la,ud,qu,un,il⟩))∧Grw w w':=by
 have T0:Hid (∀ w,Calls Tryz.prog 107 #[.int .i64 id,.int .i64 1,.int .i64 (nx - 1)] w fun e w'=>e=.returned (.bool (dec (1≤id∧id≤nx - 1)))∧w'=w):=fun w=>between_any id 1 (nx - 1) w
 have T1:Hid (∀ w,Calls Tryz.prog 107 #[.int .i64 us1,.int .i64 0,.int .i64 ((ul:Int) - 1)] w fun e w'=>e=.returned (.bool (dec (0≤us1∧us1≤(ul:Int) - 1)))∧w'=w):=fun w=>between_any us1 0 ((ul:Int) - 1) w
 have T2:Hid (∀ w,Calls Tryz.prog 35 #[.string mc] w fun e w'=>e=.returned (.bool (dec (mc.size=6)))∧w'=w):=fun w=>isMac_any mc w
 have T3:Hid (∀ w,Calls Tryz.prog 36 #[.agg #[.int .i64 ip,.int .i64 b,.int .i64 gt,.string gm,.string wm,.int .i64 rs,.slice x lenx capx,.slice y leny capy],.int .i64 sip] w fun e w'=>e=.returned (.bool (nhB ip b sip))∧Grw w w'):=fun w=>inLan_any ip b gt gm wm rs x y lenx capx leny capy sip w
 have T4:Hid (∀ w,Calls Tryz.prog 78 #[.int .i64 be] w fun e w'=>e=.returned (.bool (dec (0≤be∧be≤100000)))∧w'=w):=fun w=>timeOK_any be w
 have T5:Hid (∀ w,Calls Tryz.prog 107 #[.int .i64 la,.int .i64 be,.int .i64 100000] w fun e w'=>e=.returned (.bool (dec (be≤la∧la≤100000)))∧w'=w):=fun w=>between_any la be 100000 w
 have T6:Hid (∀ w,Calls Tryz.prog 107 #[.int .i64 un,.int .i64 be,.int .i64 101000] w fun e w'=>e=.returned (.bool (dec (be≤un∧un≤101000)))∧w'=w):=fun w=>between_any un be 101000 w
 have T7:Hid (∀ w,Calls Tryz.prog 107 #[.int .i64 qu,.int .i64 1,.int .i64 1000000] w fun e w'=>e=.returned (.bool (dec (1≤qu∧qu≤1000000)))∧w'=w):=fun w=>between_any qu 1 1000000 w
 have T8:Hid (∀ w,Calls Tryz.prog 107 #[.int .i64 ud,.int .i64 0,.int .i64 qu] w fun e w'=>e=.returned (.bool (dec (0≤ud∧ud≤qu)))∧w'=w):=fun w=>between_any ud 0 qu w
 have T9:Hid (∀ w,Calls Tryz.prog 154 #[.int .i64 il] w fun e w'=>e=.returned (.bool (dec (1≤il∧il≤1000)))∧w'=w):=fun w=>minutesOK_any il w
 have hnh:nhB ip b sip=(hB ip b sip && dec (0≤sip∧sip≤4294967295)):=by unfold nhB;rw [hn,Bool.true_and,Bool.and_comm]
 obtain ⟨z,hz⟩:∃ z,z=sB nx ul ip b ⟨id,us1,mc,sip,be,la,ud,qu,un,il⟩:=⟨_,rfl⟩
 have E:Hid (z=(dec (1≤id∧id≤nx - 1) && (dec (0≤us1∧us1≤(ul:Int) - 1) && (dec (mc.size=6) && (nhB ip b sip && (dec (0≤be∧be≤100000) && (dec (be≤la∧la≤100000) && (dec (be≤un∧un≤101000) && (dec (1≤qu∧qu≤1000000) && (dec (0≤ud∧ud≤qu) && dec (1≤il∧il≤1000))))))))))):=by
  rw [hz,hnh]
  unfold sB
  dsimp only
  ac_rfl
 rw [← hz]
 clear hz hnh
 generalize dec (1≤id∧id≤nx - 1)=t0 at T0 E
 generalize dec (0≤us1∧us1≤(ul:Int) - 1)=t1 at T1 E
 generalize dec (mc.size=6)=t2 at T2 E
 generalize nhB ip b sip=t3 at T3 E
 generalize dec (0≤be∧be≤100000)=t4 at T4 E
 generalize dec (be≤la∧la≤100000)=t5 at T5 E
 generalize dec (be≤un∧un≤101000)=t6 at T6 E
 generalize dec (1≤qu∧qu≤1000000)=t7 at T7 E
 generalize dec (0≤ud∧ud≤qu)=t8 at T8 E
 generalize dec (1≤il∧il≤1000)=t9 at T9 E
 go_enter Tryz.func138,Tryz.ntmps138
 go_wp2_with fail
 refine (T0.out _).mono ?_
 rintro e w9 ⟨rfl,rfl⟩
 cases t0 with
 | false =>
  have hv:Hid (z=false):=by show z=false;rw [E.out];simp
  go_wp2
  go_ret
  exact ⟨by rw [hv.out];rfl,((((Grw.refl w).alloc _).alloc _).alloc _)⟩
 | true =>
  go_wp2_with fail
  refine (T1.out _).mono ?_
  rintro e w9 ⟨rfl,rfl⟩
  cases t1 with
  | false =>
   have hv:Hid (z=false):=by show z=false;rw [E.out];simp
   go_wp2
   go_ret
   exact ⟨by rw [hv.out];rfl,((((Grw.refl w).alloc _).alloc _).alloc _)⟩
  | true =>
   go_wp2_with fail
   refine (T2.out _).mono ?_
   rintro e w9 ⟨rfl,rfl⟩
   cases t2 with
   | false =>
    have hv:Hid (z=false):=by show z=false;rw [E.out];simp
    go_wp2
    go_ret
    exact ⟨by rw [hv.out];rfl,((((Grw.refl w).alloc _).alloc _).alloc _)⟩
   | true =>
    go_wp2_with fail
    refine (T3.out _).mono ?_
    rintro e w2 ⟨rfl,g2⟩
    have x0:w2.cell? ⟨w.heap.size+1+1,0,none⟩=some (.int .i64 id):=g2.keep (a:=⟨w.heap.size+1+1,0,none⟩) (v:=.int .i64 id) (by simp [go_sem])
    have x1:w2.cell? ⟨w.heap.size+1+1,1,none⟩=some (.int .i64 us1):=g2.keep (a:=⟨w.heap.size+1+1,1,none⟩) (v:=.int .i64 us1) (by simp [go_sem])
    have x2:w2.cell? ⟨w.heap.size+1+1,2,none⟩=some (.string mc):=g2.keep (a:=⟨w.heap.size+1+1,2,none⟩) (v:=.string mc) (by simp [go_sem])
    have x3:w2.cell? ⟨w.heap.size+1+1,3,none⟩=some (.int .i64 sip):=g2.keep (a:=⟨w.heap.size+1+1,3,none⟩) (v:=.int .i64 sip) (by simp [go_sem])
    have x4:w2.cell? ⟨w.heap.size+1+1,4,none⟩=some (.int .i64 be):=g2.keep (a:=⟨w.heap.size+1+1,4,none⟩) (v:=.int .i64 be) (by simp [go_sem])
    have x5:w2.cell? ⟨w.heap.size+1+1,5,none⟩=some (.int .i64 la):=g2.keep (a:=⟨w.heap.size+1+1,5,none⟩) (v:=.int .i64 la) (by simp [go_sem])
    have x6:w2.cell? ⟨w.heap.size+1+1,6,none⟩=some (.int .i64 ud):=g2.keep (a:=⟨w.heap.size+1+1,6,none⟩) (v:=.int .i64 ud) (by simp [go_sem])
    have x7:w2.cell? ⟨w.heap.size+1+1,7,none⟩=some (.int .i64 qu):=g2.keep (a:=⟨w.heap.size+1+1,7,none⟩) (v:=.int .i64 qu) (by simp [go_sem])
    have x8:w2.cell? ⟨w.heap.size+1+1,8,none⟩=some (.int .i64 un):=g2.keep (a:=⟨w.heap.size+1+1,8,none⟩) (v:=.int .i64 un) (by simp [go_sem])
    have x9:w2.cell? ⟨w.heap.size+1+1,9,none⟩=some (.int .i64 il):=g2.keep (a:=⟨w.heap.size+1+1,9,none⟩) (v:=.int .i64 il) (by simp [go_sem])
    have BX:Hid (Grw w w2):=((((Grw.refl w).alloc _).alloc _).alloc _).trans g2
    clear g2
    cases t3 with
    | false =>
     have hv:Hid (z=false):=by show z=false;rw [E.out];simp
     go_wp2
     go_ret
     exact ⟨by rw [hv.out];rfl,BX.out⟩
    | true =>
     go_wp2_with fail
     refine (T4.out _).mono ?_
     rintro e w9 ⟨rfl,rfl⟩
     cases t4 with
     | false =>
      have hv:Hid (z=false):=by show z=false;rw [E.out];simp
      go_wp2
      go_ret
      exact ⟨by rw [hv.out];rfl,BX.out⟩
     | true =>
      go_wp2_with fail
      refine (T5.out _).mono ?_
      rintro e w9 ⟨rfl,rfl⟩
      cases t5 with
      | false =>
       have hv:Hid (z=false):=by show z=false;rw [E.out];simp
       go_wp2
       go_ret
       exact ⟨by rw [hv.out];rfl,BX.out⟩
      | true =>
       go_wp2_with fail
       refine (T6.out _).mono ?_
       rintro e w9 ⟨rfl,rfl⟩
       cases t6 with
       | false =>
        have hv:Hid (z=false):=by show z=false;rw [E.out];simp
        go_wp2
        go_ret
        exact ⟨by rw [hv.out];rfl,BX.out⟩
       | true =>
        go_wp2_with fail
        refine (T7.out _).mono ?_
        rintro e w9 ⟨rfl,rfl⟩
        cases t7 with
        | false =>
         have hv:Hid (z=false):=by show z=false;rw [E.out];simp
         go_wp2
         go_ret
         exact ⟨by rw [hv.out];rfl,BX.out⟩
        | true =>
         go_wp2_with fail
         refine (T8.out _).mono ?_
         rintro e w9 ⟨rfl,rfl⟩
         cases t8 with
         | false =>
          have hv:Hid (z=false):=by show z=false;rw [E.out];simp
          go_wp2
          go_ret
          exact ⟨by rw [hv.out];rfl,BX.out⟩
         | true =>
          go_wp2_with fail
          refine (T9.out _).mono ?_
          rintro e w9 ⟨rfl,rfl⟩
          have hv:Hid (z=t9):=by show z=t9;rw [E.out];simp
          go_wp2
          go_ret
          exact ⟨by rw [hv.out];rfl,BX.out⟩
theorem numOf_inj {f g:Nat→Int} (hf:∀ k,0≤f k∧f k≤255) (hg:∀ k,0≤g k∧g k≤255):∀ k,numOf f k=numOf g k→∀ j,j<k→f j=g j
 | 0,_,j,hj=>absurd hj (by omega)
 | k+1,h,j,hj=>by
  rw [numOf,numOf] at h
  have a:=hf k
  have b:=hg k
  have e1:numOf f k=numOf g k:=by omega
  by_cases hjk:j<k
  ·exact numOf_inj hf hg k e1 j hjk
  ·obtain rfl:j=k:=by omega
   omega
theorem bt_list9 (s:ByteArray) (j:Nat) (h:j<s.size):bt s j=((s.data.toList[j]'(by simpa using h)).toNat:Int):=by
 unfold bt;rw [dif_pos h];rfl
def macN (s:SessV):Int:=numOf (bt s.mc) 6
theorem macN_iff (x y:SessV) (hx:x.mc.size=6) (hy:y.mc.size=6):macN x=macN y ↔ x.mc.toList=y.mc.toList:=by
 constructor
 ·intro h
  have h1:=numOf_inj (fun k=>⟨bt_nonneg _ k,bt_le _ k⟩) (fun k=>⟨bt_nonneg _ k,bt_le _ k⟩) 6 h
  rw [ByteArray.toList_eq,ByteArray.toList_eq]
  apply List.ext_getElem (by simp;omega)
  intro j hj1 hj2
  have hj:j<6:=by simp at hj1;omega
  have e:=h1 j hj
  rw [bt_list9 x.mc j (by omega),bt_list9 y.mc j (by omega)] at e
  exact UInt8.toNat_inj.1 (by exact_mod_cast e)
 ·intro h
  have e:x.mc=y.mc:=by
   rw [ByteArray.toList_eq,ByteArray.toList_eq] at h
   apply ByteArray.ext
   exact Array.toList_inj.1 h
  unfold macN
  rw [e]
set_option maxHeartbeats 1000000 in
theorem apart1_any (id us1:Int) (mc:ByteArray) (sip be la ud qu un il:Int) (w:World) :
  Calls Tryz.prog 155 #[.agg #[.int .i64 id,.int .i64 us1,.string mc,.int .i64 sip,.int .i64 be,.int .i64 la,.int .i64 ud,.int .i64 qu,.int .i64 un,.int .i64 il]] w fun e w'=>e=.returned (.int .i64 us1)∧Below w.heap.size w w':=by
 go_enter Tryz.func155,Tryz.ntmps155
 go_wp2
 go_ret
 exact ⟨rfl,(Below.refl _ _).alloc (Nat.le_refl _) _⟩
set_option maxHeartbeats 1000000 in
theorem apart3_any (id us1:Int) (mc:ByteArray) (sip be la ud qu un il:Int) (w:World) :
  Calls Tryz.prog 158 #[.agg #[.int .i64 id,.int .i64 us1,.string mc,.int .i64 sip,.int .i64 be,.int .i64 la,.int .i64 ud,.int .i64 qu,.int .i64 un,.int .i64 il]] w fun e w'=>e=.returned (.int .i64 sip)∧Below w.heap.size w w':=by
 go_enter Tryz.func158,Tryz.ntmps158
 go_wp2
 go_ret
 exact ⟨rfl,(Below.refl _ _).alloc (Nat.le_refl _) _⟩
set_option maxHeartbeats 1000000 in
theorem apart2_any (id us1:Int) (mc:ByteArray) (sip be la ud qu un il:Int) (w:World) (h6:mc.size=6) :
  Calls Tryz.prog 156 #[.agg #[.int .i64 id,.int .i64 us1,.string mc,.int .i64 sip,.int .i64 be,.int .i64 la,.int .i64 ud,.int .i64 qu,.int .i64 un,.int .i64 il]] w fun e w'=>e=.returned (.int .i64 (numOf (bt mc) 6))∧Below w.heap.size w w':=by
 obtain ⟨W0,hW0⟩:∃ W,W=w.alloc (.cells #[.int .i64 id,.int .i64 us1,.string mc,.int .i64 sip,.int .i64 be,.int .i64 la,.int .i64 ud,.int .i64 qu,.int .i64 un,.int .i64 il] 80):=⟨_,rfl⟩
 have hsz:W0.heap.size=w.heap.size+1:=by rw [hW0];simp
 have bw:Below w.heap.size w W0:=by rw [hW0];exact (Below.refl _ _).alloc (Nat.le_refl _) _
 obtain ⟨cap,w1,hcv,b1,z1,-,h5⟩:=conv_bytes (P:=Tryz.prog) W0 9 163 5 mc Tryz.underlying9 Tryz.underlying163 Tryz.underlying5
 have e6:numOf (bt mc) mc.size=numOf (bt mc) 6:=by rw [h6]
 have HN:Hid (Calls Tryz.prog 157 #[.slice (some ⟨W0.heap.size,0,none⟩) mc.size cap] w1 fun e w'=>e=.returned (.tuple #[.int .i64 (numOf (bt mc) 6),.int .i64 0])∧w'=w1):=by
  rw [← e6]
  exact numberOf_yes _ mc.size cap (bt mc) w1 ⟨fun k=>⟨bt_nonneg mc k,bt_le mc k⟩,fun _=>⟨_,0,rfl,fun i hi=>by rw [Nat.zero_add];exact h5 i hi⟩⟩ (by omega) (by omega)
 have B1:Hid (Below w.heap.size w w1):=bw.trans (b1.mono bw.size)
 rw [hsz] at hcv HN
 rw [hW0] at hcv
 clear b1 z1 h5 e6 h6 bw hsz hW0
 generalize numOf (bt mc) 6=r at HN ⊢
 go_enter Tryz.func156,Tryz.ntmps156
 go_wp2_with fail
 refine HN.out.mono ?_
 rintro e w2 ⟨rfl,rfl⟩
 go_wp2
 go_ret
 exact ⟨rfl,B1.out⟩
def mkN (i:Nat):Nat:=if i=0 then 155 else if i=1 then 156 else 158
def mkF (i:Nat):SessV→Int:=if i=0 then (fun s=>s.us) else if i=1 then macN else fun s=>s.ip
theorem mk_enter (i:Nat):∀ args w,(callFunc (mkN i) args).run Tryz.prog w=.ok (.enter (mkN i) args) w:=by
 unfold mkN
 split
 ·exact enters_of Tryz.func155 (by kernel_rfl) rfl
 split
 ·exact enters_of Tryz.func156 (by kernel_rfl) rfl
 ·exact enters_of Tryz.func158 (by kernel_rfl) rfl
theorem mk_any (i:Nat) (id us1:Int) (mc:ByteArray) (sip be la ud qu un il:Int) (w:World) (h6:mc.size=6) :
  Calls Tryz.prog (mkN i) #[.agg #[.int .i64 id,.int .i64 us1,.string mc,.int .i64 sip,.int .i64 be,.int .i64 la,.int .i64 ud,.int .i64 qu,.int .i64 un,.int .i64 il]] w fun e w'=>e=.returned (.int .i64 (mkF i ⟨id,us1,mc,sip,be,la,ud,qu,un,il⟩))∧Below w.heap.size w w':=by
 unfold mkN mkF
 split
 ·exact apart1_any id us1 mc sip be la ud qu un il w
 split
 ·exact apart2_any id us1 mc sip be la ud qu un il w h6
 ·exact apart3_any id us1 mc sip be la ud qu un il w
theorem keyI9:Keyed Tryz.prog 3:=int_keyed Tryz.underlying3
theorem map_below {H:Type} {P:Program} {k:TypeId} {R:Value→Option (DataW H × List MemPlace)} {w w':World} {b n m:Nat} {D:DataW H} (h:w.ownsMap P k R b n D) (hb:Below m w w') (hm:b<m):w'.ownsMap P k R b n D:=by
 obtain ⟨es,clock,h1,h2⟩:=h
 exact ⟨es,clock,(hb.block b hm).trans h1,h2⟩
theorem mk_wf (i:Nat) (s:SessV) (h:SeRok s):(Lit.int .i64 (mkF i s)).wf=true:=by
 unfold mkF
 split
 ·exact h.2.1
 split
 ·have:=numOf_bd (bt s.mc) (fun k=>⟨bt_nonneg _ k,bt_le _ k⟩) 6
  unfold macN
  have hb:(0:Int)≤numOf (bt s.mc) 6∧numOf (bt s.mc) 6≤281474976710655:=by simpa using ⟨this.1,by omega⟩
  simp [Lit.wf,IntKind.min,IntKind.max,IntKind.bits,IntKind.signed]
  omega
 ·exact h.2.2.2.1
def ApW (w W:World) (n:Nat) (D:DataW Unit):Prop:=W.ownsMap Tryz.prog 3 unitElem (w.heap.size+1) n D∧(∀ j,j<3→W.cell? ⟨w.heap.size,j,none⟩=some (.func (.func (mkN j)) #[] #[]))∧Below w.heap.size w W
theorem ApW.keep {w W W':World} {n:Nat} {D:DataW Unit} (h:ApW w W n D) (hb:Below W.heap.size W W'):ApW w W' n D :=
 ⟨map_below h.1 hb h.1.lt,fun j hj=>bkeep hb (h.2.1 j hj),h.2.2.trans (hb.mono h.2.2.size)⟩
theorem ApW.turn {w W W':World} {n n':Nat} {D D':DataW Unit} (h:ApW w W n D) (o:W'.ownsMap Tryz.prog 3 unitElem (w.heap.size+1) n' D') (g:W.grownBy W' (some (w.heap.size+1))):ApW w W' n' D':=by
 refine ⟨o,fun j hj=>?_,h.2.2.grown g h.2.2.size (fun k hk=>by injection hk with e;omega)⟩
 have hc:=h.2.1 j hj
 have hlt:w.heap.size<W.heap.size:=World.block_lt_of_cell? W _ hc
 rw [World.cell?_of_block (w:=W) (g.block w.heap.size hlt (by intro e;injection e with e;omega))]
 exact hc
set_option maxHeartbeats 4000000 in
theorem sessionsApart_any (a:Option Addr) (len cap:Nat) (ss:List SessV) (w:World) (h:Rw SeR 10 w a ss) (hl:ss.length=len) (h3:len≤3) (h6:∀ s ∈ ss,s.mc.size=6) :
  Calls Tryz.prog 139 #[.slice a len cap] w fun e w'=>e=.returned (.bool (dstB (ss.map (mkF 0)) && (dstB (ss.map (mkF 1)) && dstB (ss.map (mkF 2)))))∧Below w.heap.size w w':=by
 have RW:Hid (Rw SeR 10 w a ss):=h
 have H6:Hid (∀ s ∈ ss,s.mc.size=6):=h6
 clear h h6
 have hmm:=@run_makeMap Tryz.prog
 have h3z:(len:Int)≤3:=by omega
 have hz0:(zeroValue 212).run Tryz.prog w=.ok (.agg #[]) w:=by kernel_rfl
 clear hz0
 obtain ⟨z,hz⟩:∃ z,z=(dstB (ss.map (mkF 0)) && (dstB (ss.map (mkF 1)) && dstB (ss.map (mkF 2)))):=⟨_,rfl⟩
 have E:Hid (z=(dstB (ss.map (mkF 0)) && (dstB (ss.map (mkF 1)) && dstB (ss.map (mkF 2))))):=hz
 rw [← hz]
 clear hz
 have A0:Hid (ApW w ((w.alloc (.cells #[.func (.func 155) #[] #[],.func (.func 156) #[] #[],.func (.func 158) #[] #[]] 207)).alloc (.map #[] 0)) 0 (.map [])):=by
  refine ⟨by have:=World.ownsMap_made (H:=Unit) (w.alloc (.cells #[.func (.func 155) #[] #[],.func (.func 156) #[] #[],.func (.func 158) #[] #[]] 207)) Tryz.prog 3 unitElem;simpa using this,fun j hj=>?_,((Below.refl _ _).alloc (Nat.le_refl _) _).alloc (by simp) _⟩
  have:j=0 ∨ j=1 ∨ j=2:=by omega
  rcases this with rfl | rfl | rfl <;> simp [go_sem,mkN]
 go_enter Tryz.func139,Tryz.ntmps139
 go_wp2
 go_loopw [13] (fun u wr=>∃ i:Nat,i≤3∧u=.int .i64 i∧Hid (∀ j,j<i→dstB (ss.map (mkF j))=true)∧Hid (∃ n D,ApW w wr n D)) (fun u _=>3 - (intOf u).toNat)
 case atStart=>exact ⟨0,Nat.zero_le _,rfl,fun j hj=>absurd hj (by omega),_,_,A0.out⟩
 case round =>
  clear A0
  obtain ⟨i,hi,rfl,HO,X⟩:=hrel
  by_cases hi3:i<3
  ·obtain ⟨n0,D0,X0⟩:=X.out
   obtain ⟨w4,hclr,o4,g4⟩:=own_clear X0.1 Tryz.underlying211 0
   have mi:=X0.2.1 i hi3
   have X4:Hid (ApW w w4 0 (setI ((ss.take 0).map (mkF i)))):=X0.turn o4 g4
   have hiz:(i:Int)<3:=by omega
   obtain ⟨g,hg⟩:∃ g,g=mkN i:=⟨_,rfl⟩
   have eg:∀ args w,(callFunc g args).run Tryz.prog w=.ok (.enter g args) w:=by rw [hg];exact mk_enter i
   have HM:Hid (∀ (id us1:Int) (mc:ByteArray) (sip be la ud qu un il:Int) (w:World),mc.size=6→Calls Tryz.prog g #[.agg #[.int .i64 id,.int .i64 us1,.string mc,.int .i64 sip,.int .i64 be,.int .i64 la,.int .i64 ud,.int .i64 qu,.int .i64 un,.int .i64 il]] w fun e w'=>e=.returned (.int .i64 (mkF i ⟨id,us1,mc,sip,be,la,ud,qu,un,il⟩))∧Below w.heap.size w w'):=by rw [hg];exact mk_any i
   rw [← hg] at mi
   clear X X0 o4 g4 hg
   go_wp2
   go_loopw [20] (fun u wr=>∃ k:Nat,k≤len∧u=.int .i64 k∧Hid (ApW w wr k (setI ((ss.take k).map (mkF i))))) (fun u _=>len - (intOf u).toNat)
   case atStart=>exact ⟨0,Nat.zero_le _,rfl,X4.out⟩
   case round =>
    clear X4
    obtain ⟨k,hk,rfl,X⟩:=hrel
    by_cases hlt:k<len
    ·obtain ⟨x9,hx⟩:=at_of hl hlt
     obtain ⟨bk,off,vs,rfl,hbk,hvl,hR,hc⟩:=RW.out.at SeR.kp X.out.2.2 hx
     have hs6:=H6.out x9 (List.mem_of_getElem? hx)
     obtain ⟨id,us1,mc,sip,be,la,ud,qu,un,il⟩:=x9
     obtain ⟨rfl,hok⟩:=hR
     have q0:wr.cell? ⟨bk,off+k * 10,none⟩=some (.int .i64 id):=hc 0 _ rfl
     have q1:wr.cell? ⟨bk,off+k * 10+1,none⟩=some (.int .i64 us1):=hc 1 _ rfl
     have q2:wr.cell? ⟨bk,off+k * 10+2,none⟩=some (.string mc):=hc 2 _ rfl
     have q3:wr.cell? ⟨bk,off+k * 10+3,none⟩=some (.int .i64 sip):=hc 3 _ rfl
     have q4:wr.cell? ⟨bk,off+k * 10+4,none⟩=some (.int .i64 be):=hc 4 _ rfl
     have q5:wr.cell? ⟨bk,off+k * 10+5,none⟩=some (.int .i64 la):=hc 5 _ rfl
     have q6:wr.cell? ⟨bk,off+k * 10+6,none⟩=some (.int .i64 ud):=hc 6 _ rfl
     have q7:wr.cell? ⟨bk,off+k * 10+7,none⟩=some (.int .i64 qu):=hc 7 _ rfl
     have q8:wr.cell? ⟨bk,off+k * 10+8,none⟩=some (.int .i64 un):=hc 8 _ rfl
     have q9:wr.cell? ⟨bk,off+k * 10+9,none⟩=some (.int .i64 il):=hc 9 _ rfl
     have hltz:(k:Int)<(len:Int):=by omega
     have X5:Hid (ApW w (wr.alloc (.cells #[.int .i64 id,.int .i64 us1,.string mc,.int .i64 sip,.int .i64 be,.int .i64 la,.int .i64 ud,.int .i64 qu,.int .i64 un,.int .i64 il] 80)) k (setI ((ss.take k).map (mkF i)))):=X.out.keep ((Below.refl _ _).alloc (Nat.le_refl _) _)
     have hwf:=mk_wf i ⟨id,us1,mc,sip,be,la,ud,qu,un,il⟩ hok
     have HT:Hid (∀ D:DataW Unit,D=setI ((ss.take k).map (mkF i))→D.put (.int .i64 (mkF i ⟨id,us1,mc,sip,be,la,ud,qu,un,il⟩)) (.agg [])=setI ((ss.take (k+1)).map (mkF i))):=fun D hD=>by
      rw [hD,← setI_snoc,List.take_add_one,hx]
      simp
     have HM1:Hid (∀ w,Calls Tryz.prog g #[.agg #[.int .i64 id,.int .i64 us1,.string mc,.int .i64 sip,.int .i64 be,.int .i64 la,.int .i64 ud,.int .i64 qu,.int .i64 un,.int .i64 il]] w fun e w'=>e=.returned (.int .i64 (mkF i ⟨id,us1,mc,sip,be,la,ud,qu,un,il⟩))∧Below w.heap.size w w'):=fun w=>HM.out id us1 mc sip be la ud qu un il w hs6
     generalize mkF i ⟨id,us1,mc,sip,be,la,ud,qu,un,il⟩=r at HT HM1 hwf
     clear hc hvl hx hok hs6 X
     go_wp2_with (go_at_fn g;refine (HM1.out _).mono ?_;rintro e w6 ⟨rfl,b6⟩;have X6:=X5.out.keep b6;obtain ⟨w7,hupd,o7,g7⟩:=X6.1.update keyI9 Tryz.underlying211 (by unfold maxLen;omega) (key:=.int .i64 r) (val:=.agg #[]) (keyOf_int_mk Tryz.underlying3 hwf) (unitElem_mk (H:=Unit));have X7:Hid (ApW w w7 (k+1) (setI ((ss.take (k+1)).map (mkF i)))):=HT.out _ rfl ▸ X6.turn o7 g7;clear X6 o7 g7 b6)
     go_roundw
     case rel=>exact ⟨k+1,by omega,by go_num,X7⟩
     case measure=>simp [intOf];omega
    ·obtain rfl:len=k:=by omega
     have hlen:=fun ty=>X.out.1.len Tryz.underlying211 ty
     have hsl:=setI_lt (H:=Unit) ((ss.take len).map (mkF i))
     rw [List.take_of_length_le (by omega)] at hlen hsl
     have hsl2:decide ((Maps.size (setI (H:=Unit) (ss.map (mkF i))):Int)<(len:Int))=!dstB (ss.map (mkF i)):=by
      rw [← hsl]
      simp [hl]
     generalize Maps.size (setI (H:=Unit) (ss.map (mkF i)))=n9 at hlen hsl2
     have HX:Hid (ApW w wr len (setI ((ss.take len).map (mkF i)))):=X.out
     clear hsl X
     cases hd:dstB (ss.map (mkF i)) with
     | false =>
      rw [hd] at hsl2
      have hsl3:decide (n9<len)=true:=by have:=of_decide_eq_true hsl2;exact decide_eq_true (by omega)
      have hv:Hid (z=false):=by
       show z=false
       rw [E.out]
       have:i=0 ∨ i=1 ∨ i=2:=by omega
       rcases this with rfl | rfl | rfl <;> simp [hd]
      clear hd
      go_wp2
      go_ret
      exact ⟨by rw [hv.out];rfl,HX.out.2.2⟩
     | true =>
      rw [hd] at hsl2
      have hsl3:decide (n9<len)=false:=by have:=of_decide_eq_false hsl2;exact decide_eq_false (by omega)
      have HO':Hid (∀ j,j<i+1→dstB (ss.map (mkF j))=true):=fun j hj=>by
       by_cases hji:j<i
       ·exact HO.out j hji
       ·obtain rfl:j=i:=by omega
        exact hd
      clear hd
      go_wp2
      exact ⟨⟨i+1,by omega,by go_num,HO',_,_,HX.out⟩,by simp [intOf];omega⟩
  ·obtain rfl:i=3:=by omega
   have hv:Hid (z=true):=by
    show z=true
    rw [E.out,HO.out 0 (by omega),HO.out 1 (by omega),HO.out 2 (by omega)]
    rfl
   go_wp2
   go_ret
   obtain ⟨n0,D0,X0⟩:=X.out
   exact ⟨by rw [hv.out];rfl,X0.2.2⟩
end Go.Proofs.YtojcakkkakmniaaGreatDoor
