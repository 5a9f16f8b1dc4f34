/- Guests in the laws: measured, copied, compared. Lists of users, sessions, fails and records marked and held. Lists of users, sessions, fails and records copied by the laws into rows of one's own. -/
import Derived.Test.YtojcakkkakmniaaGreatDoorJ3
namespace Go.Proofs.YtojcakkkakmniaaGreatDoor
open Go.RowKit Go.PlainAid Go.Proofs.YtojcakkkakmniaaGreatDoor.Bt Go.Sort
set_option linter.unusedVariables false
set_option maxRecDepth 20000
def szL {α:Type} (wt:α→Int) (xs:List α):Int:=xs.foldr (fun r n=>wt r+n) 0
section Sz
variable {α:Type} {wt:α→Int}
theorem szL_cons (r:α) (xs:List α):szL wt (r :: xs)=wt r+szL wt xs:=rfl
theorem szL_nonneg (h0:∀ x,0≤wt x):∀ xs:List α,0≤szL wt xs
 | []=>Int.le_refl _
 | r :: xs=>by have:=szL_nonneg h0 xs;have:=h0 r;rw [szL_cons];omega
theorem szL_mem (h0:∀ x,0≤wt x):∀ (xs:List α) (r:α),r ∈ xs→wt r≤szL wt xs
 | [],r,h=>by simp at h
 | x :: xs,r,h=>by
  rw [szL_cons]
  rcases List.mem_cons.1 h with rfl | h
  ·have:=szL_nonneg h0 xs;omega
  ·have:=szL_mem h0 xs r h;have:=h0 x;omega
theorem szL_step:∀ (xs:List α) (k:Nat) (r:α),xs[k]?=some r→szL wt (xs.take (k+1))=szL wt (xs.take k)+wt r
 | [],k,r,h=>by simp at h
 | x :: xs,0,r,h=>by
  simp at h
  subst h
  simp [szL]
 | x :: xs,k+1,r,h=>by
  have:=szL_step xs k r (by simpa using h)
  rw [List.take_succ_cons,List.take_succ_cons,szL_cons,szL_cons,this]
  omega
end Sz
def wtUser (u:UserV):Int:=(u.nm.size:Int)+(u.sa.size:Int)+(u.ha.size:Int)+(u.ro.size:Int)
theorem wtUser_nn (u:UserV):0≤wtUser u:=by unfold wtUser;omega
set_option maxHeartbeats 1000000 in
theorem szUser_any (nm:ByteArray) (sa:ByteArray) (ha:ByteArray) (ro:ByteArray) (bl:Int) (lg:Int) (l:Int) (w:World) (hnm:nm.size≤9223372036854775807) (hsa:sa.size≤9223372036854775807) (hha:ha.size≤9223372036854775807) (hro:ro.size≤9223372036854775807) (h0:0≤l) (h1:l≤1048576) :
  Calls Tryz.prog 61 #[.agg #[.string nm,.string sa,.string ha,.string ro,.int .i64 bl,.int .i64 lg],.int .i64 l] w fun e w'=>∃ r:Int,e=.returned (.int .i64 r)∧(0≤r→r=l - ((nm.size:Int)+(sa.size:Int)+(ha.size:Int)+(ro.size:Int)))∧-1≤r∧r≤1048576∧Grw w w':=by
 by_cases hx0:(nm.size:Int)≤l
 rotate_left
 ·go_enter Tryz.func61,Tryz.ntmps61
  go_wp2
  go_ret
  exact ⟨-1,rfl,fun h=>absurd h (by omega),by omega,by omega,(Grw.refl _).alloc _⟩
 by_cases hx1:(sa.size:Int)≤l - nm.size
 rotate_left
 ·go_enter Tryz.func61,Tryz.ntmps61
  go_wp2
  go_ret
  exact ⟨-1,rfl,fun h=>absurd h (by omega),by omega,by omega,(Grw.refl _).alloc _⟩
 by_cases hx2:(ha.size:Int)≤l - nm.size - sa.size
 rotate_left
 ·go_enter Tryz.func61,Tryz.ntmps61
  go_wp2
  go_ret
  exact ⟨-1,rfl,fun h=>absurd h (by omega),by omega,by omega,(Grw.refl _).alloc _⟩
 by_cases hx3:(ro.size:Int)≤l - nm.size - sa.size - ha.size
 rotate_left
 ·go_enter Tryz.func61,Tryz.ntmps61
  go_wp2
  go_ret
  exact ⟨-1,rfl,fun h=>absurd h (by omega),by omega,by omega,(Grw.refl _).alloc _⟩
 go_enter Tryz.func61,Tryz.ntmps61
 go_wp2
 go_ret
 exact ⟨_,rfl,fun _=>by omega,by omega,by omega,(Grw.refl _).alloc _⟩
set_option maxHeartbeats 2000000 in
theorem szUserS_any (a:Option Addr) (len cap:Nat) (xs:List UserV) (l:Int) (w:World) (h:Rw UsR 6 w a xs) (hl:xs.length=len) (hlm:len≤9223372036854775807) (h0:0≤l) (h1:l≤1048576) :
  Calls Tryz.prog 17 #[.slice a len cap,.int .i64 l] w fun e w'=>∃ r:Int,e=.returned (.int .i64 r)∧(0≤r→r=l - len - szL wtUser xs)∧-1≤r∧r≤1048576∧Grw w w':=by
 have RW:Hid (Rw UsR 6 w a xs):=h
 clear h
 by_cases hle:(len:Int)≤l
 rotate_left
 ·go_enter Tryz.func17,Tryz.ntmps17
  go_wp2
  go_ret
  exact ⟨-1,rfl,fun h=>absurd h (by omega),by omega,by omega,Grw.refl _⟩
 go_enter Tryz.func17,Tryz.ntmps17
 go_wp2
 go_loopw [1,5] (fun p x wr=>∃ (k:Nat) (r:Int),k≤len∧x=.int .i64 k∧p=.int .i64 r∧0≤r∧r≤1048576∧Hid (r=l - len - szL wtUser (xs.take k))∧Hid (Grw w wr)) (fun _ x _=>len - (intOf x).toNat)
 case atStart=>exact ⟨0,l - len,Nat.zero_le _,rfl,rfl,by omega,by omega,by show l - len=l - len - 0;omega,Grw.refl _⟩
 case round =>
  obtain ⟨k,r,hk,rfl,rfl,hr0,hr1,HR,HG⟩:=hrel
  by_cases hlt:k<len
  ·obtain ⟨x,hx⟩:=at_of hl hlt
   obtain ⟨b,off,vs,rfl,hb,hvl,hR,hc⟩:=RW.out.at UsR.kp HG.out.below hx
   have HS:Hid (szL wtUser (xs.take (k+1))=szL wtUser (xs.take k)+wtUser x):=szL_step xs k x hx
   obtain ⟨nm,sa,ha,ro,bl,lg⟩:=x
   obtain ⟨rfl,hok⟩:=hR
   have q0:wr.cell? ⟨b,off+k * 6,none⟩=some (.string nm):=hc 0 _ rfl
   have q1:wr.cell? ⟨b,off+k * 6+1,none⟩=some (.string sa):=hc 1 _ rfl
   have q2:wr.cell? ⟨b,off+k * 6+2,none⟩=some (.string ha):=hc 2 _ rfl
   have q3:wr.cell? ⟨b,off+k * 6+3,none⟩=some (.string ro):=hc 3 _ rfl
   have q4:wr.cell? ⟨b,off+k * 6+4,none⟩=some (.int .i64 bl):=hc 4 _ rfl
   have q5:wr.cell? ⟨b,off+k * 6+5,none⟩=some (.int .i64 lg):=hc 5 _ rfl
   have HN:Hid (∀ w,Calls Tryz.prog 61 #[.agg #[.string nm,.string sa,.string ha,.string ro,.int .i64 bl,.int .i64 lg],.int .i64 r] w fun e w'=>∃ r':Int,e=.returned (.int .i64 r')∧(0≤r'→r'=r - ((nm.size:Int)+(sa.size:Int)+(ha.size:Int)+(ro.size:Int)))∧-1≤r'∧r'≤1048576∧Grw w w'):=fun w=>by
    unfold UsRok maxLen at hok;dsimp only at hok
    exact szUser_any nm sa ha ro bl lg r w (by omega) (by omega) (by omega) (by omega) hr0 hr1
   have hltz:(k:Int)<(len:Int):=by omega
   clear hc hvl hx hok
   go_wp2_with fail
   refine (HN.out _).mono ?_
   rintro e w1 ⟨r',rfl,hr',hr2,hr3,g1⟩
   have HG1:Hid (Grw w w1):=HG.out.trans g1
   clear q0 q1 q2 q3 q4 q5 HN g1 HG
   by_cases hneg:r'<0
   ·go_wp2
    go_ret
    exact ⟨-1,rfl,fun h=>absurd h (by omega),by omega,by omega,HG1.out⟩
   ·have HR':Hid (r'=l - len - szL wtUser (xs.take (k+1))):=by
     have e1:=HR.out
     have e2:szL wtUser (xs.take (k+1))=szL wtUser (xs.take k)+((nm.size:Int)+(sa.size:Int)+(ha.size:Int)+(ro.size:Int)):=HS.out
     have e3:=hr' (by omega)
     show r'=_
     rw [e2]
     omega
    clear HR HS hr'
    go_wp2
    go_roundw
    case rel=>exact ⟨k+1,r',by omega,by go_num,rfl,by omega,hr3,HR',HG1⟩
    case measure=>simp [intOf];omega
  ·obtain rfl:k=len:=by omega
   have hfin:Hid (r=l - k - szL wtUser xs):=by
    have e1:=HR.out
    rw [List.take_of_length_le (by omega)] at e1
    exact e1
   go_wp2
   go_ret
   exact ⟨r,rfl,fun _=>hfin.out,by omega,hr1,HG.out⟩
def wtSession (u:SessV):Int:=(u.mc.size:Int)
theorem wtSession_nn (u:SessV):0≤wtSession u:=by unfold wtSession;omega
set_option maxHeartbeats 1000000 in
theorem szSession_any (id:Int) (us:Int) (mc:ByteArray) (ip:Int) (be:Int) (la:Int) (ud:Int) (qu:Int) (un:Int) (il:Int) (l:Int) (w:World) (hmc:mc.size≤9223372036854775807) (h0:0≤l) (h1:l≤1048576) :
  Calls Tryz.prog 62 #[.agg #[.int .i64 id,.int .i64 us,.string mc,.int .i64 ip,.int .i64 be,.int .i64 la,.int .i64 ud,.int .i64 qu,.int .i64 un,.int .i64 il],.int .i64 l] w fun e w'=>∃ r:Int,e=.returned (.int .i64 r)∧(0≤r→r=l - ((mc.size:Int)))∧-1≤r∧r≤1048576∧Grw w w':=by
 by_cases hx0:(mc.size:Int)≤l
 rotate_left
 ·go_enter Tryz.func62,Tryz.ntmps62
  go_wp2
  go_ret
  exact ⟨-1,rfl,fun h=>absurd h (by omega),by omega,by omega,(Grw.refl _).alloc _⟩
 go_enter Tryz.func62,Tryz.ntmps62
 go_wp2
 go_ret
 exact ⟨_,rfl,fun _=>by omega,by omega,by omega,(Grw.refl _).alloc _⟩
set_option maxHeartbeats 2000000 in
theorem szSessionS_any (a:Option Addr) (len cap:Nat) (xs:List SessV) (l:Int) (w:World) (h:Rw SeR 10 w a xs) (hl:xs.length=len) (hlm:len≤9223372036854775807) (h0:0≤l) (h1:l≤1048576) :
  Calls Tryz.prog 18 #[.slice a len cap,.int .i64 l] w fun e w'=>∃ r:Int,e=.returned (.int .i64 r)∧(0≤r→r=l - len - szL wtSession xs)∧-1≤r∧r≤1048576∧Grw w w':=by
 have RW:Hid (Rw SeR 10 w a xs):=h
 clear h
 by_cases hle:(len:Int)≤l
 rotate_left
 ·go_enter Tryz.func18,Tryz.ntmps18
  go_wp2
  go_ret
  exact ⟨-1,rfl,fun h=>absurd h (by omega),by omega,by omega,Grw.refl _⟩
 go_enter Tryz.func18,Tryz.ntmps18
 go_wp2
 go_loopw [1,5] (fun p x wr=>∃ (k:Nat) (r:Int),k≤len∧x=.int .i64 k∧p=.int .i64 r∧0≤r∧r≤1048576∧Hid (r=l - len - szL wtSession (xs.take k))∧Hid (Grw w wr)) (fun _ x _=>len - (intOf x).toNat)
 case atStart=>exact ⟨0,l - len,Nat.zero_le _,rfl,rfl,by omega,by omega,by show l - len=l - len - 0;omega,Grw.refl _⟩
 case round =>
  obtain ⟨k,r,hk,rfl,rfl,hr0,hr1,HR,HG⟩:=hrel
  by_cases hlt:k<len
  ·obtain ⟨x,hx⟩:=at_of hl hlt
   obtain ⟨b,off,vs,rfl,hb,hvl,hR,hc⟩:=RW.out.at SeR.kp HG.out.below hx
   have HS:Hid (szL wtSession (xs.take (k+1))=szL wtSession (xs.take k)+wtSession x):=szL_step xs k x hx
   obtain ⟨id,us,mc,ip,be,la,ud,qu,un,il⟩:=x
   obtain ⟨rfl,hok⟩:=hR
   have q0:wr.cell? ⟨b,off+k * 10,none⟩=some (.int .i64 id):=hc 0 _ rfl
   have q1:wr.cell? ⟨b,off+k * 10+1,none⟩=some (.int .i64 us):=hc 1 _ rfl
   have q2:wr.cell? ⟨b,off+k * 10+2,none⟩=some (.string mc):=hc 2 _ rfl
   have q3:wr.cell? ⟨b,off+k * 10+3,none⟩=some (.int .i64 ip):=hc 3 _ rfl
   have q4:wr.cell? ⟨b,off+k * 10+4,none⟩=some (.int .i64 be):=hc 4 _ rfl
   have q5:wr.cell? ⟨b,off+k * 10+5,none⟩=some (.int .i64 la):=hc 5 _ rfl
   have q6:wr.cell? ⟨b,off+k * 10+6,none⟩=some (.int .i64 ud):=hc 6 _ rfl
   have q7:wr.cell? ⟨b,off+k * 10+7,none⟩=some (.int .i64 qu):=hc 7 _ rfl
   have q8:wr.cell? ⟨b,off+k * 10+8,none⟩=some (.int .i64 un):=hc 8 _ rfl
   have q9:wr.cell? ⟨b,off+k * 10+9,none⟩=some (.int .i64 il):=hc 9 _ rfl
   have HN:Hid (∀ w,Calls Tryz.prog 62 #[.agg #[.int .i64 id,.int .i64 us,.string mc,.int .i64 ip,.int .i64 be,.int .i64 la,.int .i64 ud,.int .i64 qu,.int .i64 un,.int .i64 il],.int .i64 r] w fun e w'=>∃ r':Int,e=.returned (.int .i64 r')∧(0≤r'→r'=r - ((mc.size:Int)))∧-1≤r'∧r'≤1048576∧Grw w w'):=fun w=>by
    unfold SeRok maxLen at hok;dsimp only at hok
    exact szSession_any id us mc ip be la ud qu un il r w (by omega) hr0 hr1
   have hltz:(k:Int)<(len:Int):=by omega
   clear hc hvl hx hok
   go_wp2_with fail
   refine (HN.out _).mono ?_
   rintro e w1 ⟨r',rfl,hr',hr2,hr3,g1⟩
   have HG1:Hid (Grw w w1):=HG.out.trans g1
   clear q0 q1 q2 q3 q4 q5 q6 q7 q8 q9 HN g1 HG
   by_cases hneg:r'<0
   ·go_wp2
    go_ret
    exact ⟨-1,rfl,fun h=>absurd h (by omega),by omega,by omega,HG1.out⟩
   ·have HR':Hid (r'=l - len - szL wtSession (xs.take (k+1))):=by
     have e1:=HR.out
     have e2:szL wtSession (xs.take (k+1))=szL wtSession (xs.take k)+((mc.size:Int)):=HS.out
     have e3:=hr' (by omega)
     show r'=_
     rw [e2]
     omega
    clear HR HS hr'
    go_wp2
    go_roundw
    case rel=>exact ⟨k+1,r',by omega,by go_num,rfl,by omega,hr3,HR',HG1⟩
    case measure=>simp [intOf];omega
  ·obtain rfl:k=len:=by omega
   have hfin:Hid (r=l - k - szL wtSession xs):=by
    have e1:=HR.out
    rw [List.take_of_length_le (by omega)] at e1
    exact e1
   go_wp2
   go_ret
   exact ⟨r,rfl,fun _=>hfin.out,by omega,hr1,HG.out⟩
def wtFail (u:FailV):Int:=(u.mc.size:Int)
theorem wtFail_nn (u:FailV):0≤wtFail u:=by unfold wtFail;omega
set_option maxHeartbeats 1000000 in
theorem szFail_any (mc:ByteArray) (ct:Int) (un:Int) (l:Int) (w:World) (hmc:mc.size≤9223372036854775807) (h0:0≤l) (h1:l≤1048576) :
  Calls Tryz.prog 63 #[.agg #[.string mc,.int .i64 ct,.int .i64 un],.int .i64 l] w fun e w'=>∃ r:Int,e=.returned (.int .i64 r)∧(0≤r→r=l - ((mc.size:Int)))∧-1≤r∧r≤1048576∧Grw w w':=by
 by_cases hx0:(mc.size:Int)≤l
 rotate_left
 ·go_enter Tryz.func63,Tryz.ntmps63
  go_wp2
  go_ret
  exact ⟨-1,rfl,fun h=>absurd h (by omega),by omega,by omega,(Grw.refl _).alloc _⟩
 go_enter Tryz.func63,Tryz.ntmps63
 go_wp2
 go_ret
 exact ⟨_,rfl,fun _=>by omega,by omega,by omega,(Grw.refl _).alloc _⟩
set_option maxHeartbeats 2000000 in
theorem szFailS_any (a:Option Addr) (len cap:Nat) (xs:List FailV) (l:Int) (w:World) (h:Rw FaR 3 w a xs) (hl:xs.length=len) (hlm:len≤9223372036854775807) (h0:0≤l) (h1:l≤1048576) :
  Calls Tryz.prog 19 #[.slice a len cap,.int .i64 l] w fun e w'=>∃ r:Int,e=.returned (.int .i64 r)∧(0≤r→r=l - len - szL wtFail xs)∧-1≤r∧r≤1048576∧Grw w w':=by
 have RW:Hid (Rw FaR 3 w a xs):=h
 clear h
 by_cases hle:(len:Int)≤l
 rotate_left
 ·go_enter Tryz.func19,Tryz.ntmps19
  go_wp2
  go_ret
  exact ⟨-1,rfl,fun h=>absurd h (by omega),by omega,by omega,Grw.refl _⟩
 go_enter Tryz.func19,Tryz.ntmps19
 go_wp2
 go_loopw [1,5] (fun p x wr=>∃ (k:Nat) (r:Int),k≤len∧x=.int .i64 k∧p=.int .i64 r∧0≤r∧r≤1048576∧Hid (r=l - len - szL wtFail (xs.take k))∧Hid (Grw w wr)) (fun _ x _=>len - (intOf x).toNat)
 case atStart=>exact ⟨0,l - len,Nat.zero_le _,rfl,rfl,by omega,by omega,by show l - len=l - len - 0;omega,Grw.refl _⟩
 case round =>
  obtain ⟨k,r,hk,rfl,rfl,hr0,hr1,HR,HG⟩:=hrel
  by_cases hlt:k<len
  ·obtain ⟨x,hx⟩:=at_of hl hlt
   obtain ⟨b,off,vs,rfl,hb,hvl,hR,hc⟩:=RW.out.at FaR.kp HG.out.below hx
   have HS:Hid (szL wtFail (xs.take (k+1))=szL wtFail (xs.take k)+wtFail x):=szL_step xs k x hx
   obtain ⟨mc,ct,un⟩:=x
   obtain ⟨rfl,hok⟩:=hR
   have q0:wr.cell? ⟨b,off+k * 3,none⟩=some (.string mc):=hc 0 _ rfl
   have q1:wr.cell? ⟨b,off+k * 3+1,none⟩=some (.int .i64 ct):=hc 1 _ rfl
   have q2:wr.cell? ⟨b,off+k * 3+2,none⟩=some (.int .i64 un):=hc 2 _ rfl
   have HN:Hid (∀ w,Calls Tryz.prog 63 #[.agg #[.string mc,.int .i64 ct,.int .i64 un],.int .i64 r] w fun e w'=>∃ r':Int,e=.returned (.int .i64 r')∧(0≤r'→r'=r - ((mc.size:Int)))∧-1≤r'∧r'≤1048576∧Grw w w'):=fun w=>by
    unfold FaRok maxLen at hok;dsimp only at hok
    exact szFail_any mc ct un r w (by omega) hr0 hr1
   have hltz:(k:Int)<(len:Int):=by omega
   clear hc hvl hx hok
   go_wp2_with fail
   refine (HN.out _).mono ?_
   rintro e w1 ⟨r',rfl,hr',hr2,hr3,g1⟩
   have HG1:Hid (Grw w w1):=HG.out.trans g1
   clear q0 q1 q2 HN g1 HG
   by_cases hneg:r'<0
   ·go_wp2
    go_ret
    exact ⟨-1,rfl,fun h=>absurd h (by omega),by omega,by omega,HG1.out⟩
   ·have HR':Hid (r'=l - len - szL wtFail (xs.take (k+1))):=by
     have e1:=HR.out
     have e2:szL wtFail (xs.take (k+1))=szL wtFail (xs.take k)+((mc.size:Int)):=HS.out
     have e3:=hr' (by omega)
     show r'=_
     rw [e2]
     omega
    clear HR HS hr'
    go_wp2
    go_roundw
    case rel=>exact ⟨k+1,r',by omega,by go_num,rfl,by omega,hr3,HR',HG1⟩
    case measure=>simp [intOf];omega
  ·obtain rfl:k=len:=by omega
   have hfin:Hid (r=l - k - szL wtFail xs):=by
    have e1:=HR.out
    rw [List.take_of_length_le (by omega)] at e1
    exact e1
   go_wp2
   go_ret
   exact ⟨r,rfl,fun _=>hfin.out,by omega,hr1,HG.out⟩
set_option maxHeartbeats 4000000 in
theorem szGuests_any (ua sa fa ra:Option Addr) (ul uc sl sc fl fc rl rc:Nat) (us:List UserV) (ss:List SessV) (fs:List FailV) (rs:List RecV) (nx:Int) (l:Int) (w:World) (hu:Rw UsR 6 w ua us) (lu:us.length=ul) (hs:Rw SeR 10 w sa ss) (ls:ss.length=sl) (hf:Rw FaR 3 w fa fs) (lf:fs.length=fl) (hr:Rw ReR 5 w ra rs) (lr:rs.length=rl) (bu:ul≤9223372036854775807) (bs:sl≤9223372036854775807) (bf:fl≤9223372036854775807) (br:rl≤9223372036854775807) (h0:0≤l) (h1:l≤1048576) :
  Calls Tryz.prog 5 #[.agg #[.slice ua ul uc,.slice sa sl sc,.slice fa fl fc,.slice ra rl rc,.int .i64 nx],.int .i64 l] w fun e w'=>∃ r:Int,e=.returned (.int .i64 r)∧(0≤r→((ul:Int)+szL wtUser us+sl+szL wtSession ss+fl+szL wtFail fs+rl)≤l)∧-1≤r∧r≤1048576∧Grw w w':=by
 have Ru:Hid (Rw UsR 6 w ua us):=hu
 have Rs:Hid (Rw SeR 10 w sa ss):=hs
 have Rf:Hid (Rw FaR 3 w fa fs):=hf
 have Rr:Hid (Rw ReR 5 w ra rs):=hr
 clear hu hs hf hr
 have Hu:Hid (∀ (l:Int) w,Rw UsR 6 w ua us→0≤l→l≤1048576→Calls Tryz.prog 17 #[.slice ua ul uc,.int .i64 l] w fun e w'=>∃ r:Int,e=.returned (.int .i64 r)∧(0≤r→r=l - ul - szL wtUser us)∧-1≤r∧r≤1048576∧Grw w w'):=fun l w h h0 h1=>szUserS_any ua ul uc us l w h lu bu h0 h1
 have Hs:Hid (∀ (l:Int) w,Rw SeR 10 w sa ss→0≤l→l≤1048576→Calls Tryz.prog 18 #[.slice sa sl sc,.int .i64 l] w fun e w'=>∃ r:Int,e=.returned (.int .i64 r)∧(0≤r→r=l - sl - szL wtSession ss)∧-1≤r∧r≤1048576∧Grw w w'):=fun l w h h0 h1=>szSessionS_any sa sl sc ss l w h ls bs h0 h1
 have Hf:Hid (∀ (l:Int) w,Rw FaR 3 w fa fs→0≤l→l≤1048576→Calls Tryz.prog 19 #[.slice fa fl fc,.int .i64 l] w fun e w'=>∃ r:Int,e=.returned (.int .i64 r)∧(0≤r→r=l - fl - szL wtFail fs)∧-1≤r∧r≤1048576∧Grw w w'):=fun l w h h0 h1=>szFailS_any fa fl fc fs l w h lf bf h0 h1
 have Hr:Hid (∀ (l:Int) w,0≤l→l≤1048576→Calls Tryz.prog 20 #[.slice ra rl rc,.int .i64 l] w fun e w'=>∃ r:Int,e=.returned (.int .i64 r)∧(0≤r→(rl:Int)≤l)∧-1≤r∧r≤1048576∧w'=w):=fun l w h0 h1=>szRecordS_any ra rl rc l w br h0 h1
 go_enter Tryz.func5,Tryz.ntmps5
 go_wp2_with fail
 refine (Hu.out l _ (Ru.out.keep UsR.kp ((Grw.refl w).alloc _).below) (by omega) (by omega)).mono ?_
 rintro e w0 ⟨r0,rfl,hr0,hn0,hm0,g0⟩
 have BX0:Hid (Grw w w0):=((Grw.refl w).alloc _).trans g0
 have c0_0:w0.cell? ⟨w.heap.size,0,none⟩=some (.slice ua ul uc):=g0.keep (a:=⟨w.heap.size,0,none⟩) (v:=.slice ua ul uc) (by simp [go_sem])
 have c0_1:w0.cell? ⟨w.heap.size,1,none⟩=some (.slice sa sl sc):=g0.keep (a:=⟨w.heap.size,1,none⟩) (v:=.slice sa sl sc) (by simp [go_sem])
 have c0_2:w0.cell? ⟨w.heap.size,2,none⟩=some (.slice fa fl fc):=g0.keep (a:=⟨w.heap.size,2,none⟩) (v:=.slice fa fl fc) (by simp [go_sem])
 have c0_3:w0.cell? ⟨w.heap.size,3,none⟩=some (.slice ra rl rc):=g0.keep (a:=⟨w.heap.size,3,none⟩) (v:=.slice ra rl rc) (by simp [go_sem])
 have c0_4:w0.cell? ⟨w.heap.size,4,none⟩=some (.int .i64 nx):=g0.keep (a:=⟨w.heap.size,4,none⟩) (v:=.int .i64 nx) (by simp [go_sem])
 clear g0
 by_cases hz0:r0<0
 ·go_wp2
  go_ret
  exact ⟨-1,rfl,fun h=>absurd h (by omega),by omega,by omega,BX0.out⟩
 have E0:Hid (r0=l - ul - szL wtUser us):=hr0 (by omega)
 clear hr0
 go_wp2_with fail
 refine (Hs.out r0 _ (Rs.out.keep SeR.kp BX0.out.below) (by omega) (by omega)).mono ?_
 rintro e w1 ⟨r1,rfl,hr1,hn1,hm1,g1⟩
 have BX1:Hid (Grw w w1):=BX0.out.trans g1
 have c1_0:=g1.keep c0_0
 have c1_1:=g1.keep c0_1
 have c1_2:=g1.keep c0_2
 have c1_3:=g1.keep c0_3
 have c1_4:=g1.keep c0_4
 clear g1 c0_0 c0_1 c0_2 c0_3 c0_4 BX0
 by_cases hz1:r1<0
 ·go_wp2
  go_ret
  exact ⟨-1,rfl,fun h=>absurd h (by omega),by omega,by omega,BX1.out⟩
 have E1:Hid (r1=r0 - sl - szL wtSession ss):=hr1 (by omega)
 clear hr1
 go_wp2_with fail
 refine (Hf.out r1 _ (Rf.out.keep FaR.kp BX1.out.below) (by omega) (by omega)).mono ?_
 rintro e w2 ⟨r2,rfl,hr2,hn2,hm2,g2⟩
 have BX2:Hid (Grw w w2):=BX1.out.trans g2
 have c2_0:=g2.keep c1_0
 have c2_1:=g2.keep c1_1
 have c2_2:=g2.keep c1_2
 have c2_3:=g2.keep c1_3
 have c2_4:=g2.keep c1_4
 clear g2 c1_0 c1_1 c1_2 c1_3 c1_4 BX1
 by_cases hz2:r2<0
 ·go_wp2
  go_ret
  exact ⟨-1,rfl,fun h=>absurd h (by omega),by omega,by omega,BX2.out⟩
 have E2:Hid (r2=r1 - fl - szL wtFail fs):=hr2 (by omega)
 clear hr2
 go_wp2_with fail
 refine (Hr.out r2 _ (by omega) (by omega)).mono ?_
 rintro e w3 ⟨r3,rfl,hr3,hn3,hm3,rfl⟩
 by_cases hz3:r3<0
 ·go_wp2
  go_ret
  exact ⟨-1,rfl,fun h=>absurd h (by omega),by omega,by omega,BX2.out⟩
 have E3:Hid (((ul:Int)+szL wtUser us+sl+szL wtSession ss+fl+szL wtFail fs+rl)≤l):=by
  have a:=hr3 (by omega)
  have b:=E0.out
  have c:=E1.out
  have d:=E2.out
  show ((ul:Int)+szL wtUser us+sl+szL wtSession ss+fl+szL wtFail fs+rl)≤l
  omega
 clear hr3
 go_wp2
 go_ret
 exact ⟨r3,rfl,fun _=>E3.out,by omega,hm3,BX2.out⟩
set_option maxHeartbeats 2000000 in
theorem eqGuests_yes (ua sa fa ra ub sb fb rb:Option Addr) (ul uc ud sl sc sd fl fc fd rl rc rd:Nat) (us:List UserV) (ss:List SessV) (fs:List FailV) (rs:List RecV) (nx:Int) (w:World) (hu:Rw UsR 6 w ua us) (ku:Rw UsR 6 w ub us) (lu:us.length=ul) (hs:Rw SeR 10 w sa ss) (ks:Rw SeR 10 w sb ss) (ls:ss.length=sl) (hf:Rw FaR 3 w fa fs) (kf:Rw FaR 3 w fb fs) (lf:fs.length=fl) (hr:Rw ReR 5 w ra rs) (kr:Rw ReR 5 w rb rs) (lr:rs.length=rl) (bu:ul≤9223372036854775807) (bs:sl≤9223372036854775807) (bf:fl≤9223372036854775807) (br:rl≤9223372036854775807) :
  Calls Tryz.prog 10 #[.agg #[.slice ua ul uc,.slice sa sl sc,.slice fa fl fc,.slice ra rl rc,.int .i64 nx],.agg #[.slice ub ul ud,.slice sb sl sd,.slice fb fl fd,.slice rb rl rd,.int .i64 nx]] w fun e w'=>e=.returned (.bool true)∧Grw w w':=by
 have Ru:Hid (Rw UsR 6 w ua us∧Rw UsR 6 w ub us):=⟨hu,ku⟩
 have Rs:Hid (Rw SeR 10 w sa ss∧Rw SeR 10 w sb ss):=⟨hs,ks⟩
 have Rf:Hid (Rw FaR 3 w fa fs∧Rw FaR 3 w fb fs):=⟨hf,kf⟩
 have Rr:Hid (Rw ReR 5 w ra rs∧Rw ReR 5 w rb rs):=⟨hr,kr⟩
 have Hu:Hid (∀ w,Rw UsR 6 w ua us→Rw UsR 6 w ub us→Calls Tryz.prog 43 #[.slice ua ul uc,.slice ub ul ud] w fun e w'=>e=.returned (.bool true)∧Grw w w'):=fun w h h'=>eqUserS_yes ua ub ul uc ud us w h h' lu bu
 have Hs:Hid (∀ w,Rw SeR 10 w sa ss→Rw SeR 10 w sb ss→Calls Tryz.prog 44 #[.slice sa sl sc,.slice sb sl sd] w fun e w'=>e=.returned (.bool true)∧Grw w w'):=fun w h h'=>eqSessionS_yes sa sb sl sc sd ss w h h' ls bs
 have Hf:Hid (∀ w,Rw FaR 3 w fa fs→Rw FaR 3 w fb fs→Calls Tryz.prog 45 #[.slice fa fl fc,.slice fb fl fd] w fun e w'=>e=.returned (.bool true)∧Grw w w'):=fun w h h'=>eqFailS_yes fa fb fl fc fd fs w h h' lf bf
 have Hr:Hid (∀ w,Rw ReR 5 w ra rs→Rw ReR 5 w rb rs→Calls Tryz.prog 46 #[.slice ra rl rc,.slice rb rl rd] w fun e w'=>e=.returned (.bool true)∧Grw w w'):=fun w h h'=>eqRecordS_yes ra rb rl rc rd rs w h h' lr br
 clear hu hs hf hr ku ks kf kr
 have n0:(nx != nx)=false:=by simp
 go_enter Tryz.func10,Tryz.ntmps10
 go_wp2_with fail
 refine (Hu.out _ (Ru.out.1.keep UsR.kp (((Grw.refl w).alloc _).alloc _).below) (Ru.out.2.keep UsR.kp (((Grw.refl w).alloc _).alloc _).below)).mono ?_
 rintro e wx1 ⟨rfl,bx⟩
 have k0_0:World.cell? _ ⟨w.heap.size,0,none⟩=some (.slice ua ul uc):=bx.keep (a:=⟨w.heap.size,0,none⟩) (v:=.slice ua ul uc) (by simp [go_sem])
 have k0_1:World.cell? _ ⟨w.heap.size,1,none⟩=some (.slice sa sl sc):=bx.keep (a:=⟨w.heap.size,1,none⟩) (v:=.slice sa sl sc) (by simp [go_sem])
 have k0_2:World.cell? _ ⟨w.heap.size,2,none⟩=some (.slice fa fl fc):=bx.keep (a:=⟨w.heap.size,2,none⟩) (v:=.slice fa fl fc) (by simp [go_sem])
 have k0_3:World.cell? _ ⟨w.heap.size,3,none⟩=some (.slice ra rl rc):=bx.keep (a:=⟨w.heap.size,3,none⟩) (v:=.slice ra rl rc) (by simp [go_sem])
 have k0_4:World.cell? _ ⟨w.heap.size,4,none⟩=some (.int .i64 nx):=bx.keep (a:=⟨w.heap.size,4,none⟩) (v:=.int .i64 nx) (by simp [go_sem])
 have k1_0:World.cell? _ ⟨w.heap.size+1,0,none⟩=some (.slice ub ul ud):=bx.keep (a:=⟨w.heap.size+1,0,none⟩) (v:=.slice ub ul ud) (by simp [go_sem])
 have k1_1:World.cell? _ ⟨w.heap.size+1,1,none⟩=some (.slice sb sl sd):=bx.keep (a:=⟨w.heap.size+1,1,none⟩) (v:=.slice sb sl sd) (by simp [go_sem])
 have k1_2:World.cell? _ ⟨w.heap.size+1,2,none⟩=some (.slice fb fl fd):=bx.keep (a:=⟨w.heap.size+1,2,none⟩) (v:=.slice fb fl fd) (by simp [go_sem])
 have k1_3:World.cell? _ ⟨w.heap.size+1,3,none⟩=some (.slice rb rl rd):=bx.keep (a:=⟨w.heap.size+1,3,none⟩) (v:=.slice rb rl rd) (by simp [go_sem])
 have k1_4:World.cell? _ ⟨w.heap.size+1,4,none⟩=some (.int .i64 nx):=bx.keep (a:=⟨w.heap.size+1,4,none⟩) (v:=.int .i64 nx) (by simp [go_sem])
 have BX:Hid (Grw w _):=(((Grw.refl _).alloc _).alloc _).trans bx
 clear bx
 go_wp2_with fail
 refine (Hs.out _ (Rs.out.1.keep SeR.kp BX.out.below) (Rs.out.2.keep SeR.kp BX.out.below)).mono ?_
 rintro e wx2 ⟨rfl,bx⟩
 replace k0_0:=bx.keep k0_0
 replace k0_1:=bx.keep k0_1
 replace k0_2:=bx.keep k0_2
 replace k0_3:=bx.keep k0_3
 replace k0_4:=bx.keep k0_4
 replace k1_0:=bx.keep k1_0
 replace k1_1:=bx.keep k1_1
 replace k1_2:=bx.keep k1_2
 replace k1_3:=bx.keep k1_3
 replace k1_4:=bx.keep k1_4
 replace BX:Hid (Grw w _):=BX.out.trans bx
 clear bx
 go_wp2_with fail
 refine (Hf.out _ (Rf.out.1.keep FaR.kp BX.out.below) (Rf.out.2.keep FaR.kp BX.out.below)).mono ?_
 rintro e wx3 ⟨rfl,bx⟩
 replace k0_0:=bx.keep k0_0
 replace k0_1:=bx.keep k0_1
 replace k0_2:=bx.keep k0_2
 replace k0_3:=bx.keep k0_3
 replace k0_4:=bx.keep k0_4
 replace k1_0:=bx.keep k1_0
 replace k1_1:=bx.keep k1_1
 replace k1_2:=bx.keep k1_2
 replace k1_3:=bx.keep k1_3
 replace k1_4:=bx.keep k1_4
 replace BX:Hid (Grw w _):=BX.out.trans bx
 clear bx
 go_wp2_with fail
 refine (Hr.out _ (Rr.out.1.keep ReR.kp BX.out.below) (Rr.out.2.keep ReR.kp BX.out.below)).mono ?_
 rintro e wx4 ⟨rfl,bx⟩
 replace k0_0:=bx.keep k0_0
 replace k0_1:=bx.keep k0_1
 replace k0_2:=bx.keep k0_2
 replace k0_3:=bx.keep k0_3
 replace k0_4:=bx.keep k0_4
 replace k1_0:=bx.keep k1_0
 replace k1_1:=bx.keep k1_1
 replace k1_2:=bx.keep k1_2
 replace k1_3:=bx.keep k1_3
 replace k1_4:=bx.keep k1_4
 replace BX:Hid (Grw w _):=BX.out.trans bx
 clear bx
 go_wp2
 go_ret
 exact ⟨rfl,BX.out⟩
theorem uvG_len (u:UserV):(uvG u).length=6:=rfl
theorem svG_len (u:SessV):(svG u).length=10:=rfl
theorem fvG_len (u:FailV):(fvG u).length=3:=rfl
theorem evG_len (u:RecV):(evG u).length=5:=rfl
def mkUser (M:Nat):UserV:=⟨mtS M,mtS (M+1),mtS (M+2),mtS (M+3),(M:Int)+1+1+1+1,(M:Int)+1+1+1+1+1⟩
def mkUserL (m0 n:Nat):List UserV:=(List.range n).map (fun k=>mkUser (m0+6 * k))
theorem mkUserL_len (m0 n:Nat):(mkUserL m0 n).length=n:=by simp [mkUserL]
theorem mkUserL_at (m0 n i:Nat) (h:i<n):(mkUserL m0 n)[i]?=some (mkUser (m0+6 * i)):=by rw [mkUserL,List.getElem?_map,List.getElem?_range h];rfl
theorem mkUser_ok (M:Nat) (h:M+6≤1000000000000):UsRok (mkUser M):=by
 unfold UsRok mkUser
 dsimp only
 exact ⟨Nat.le_trans (mtS_len _ (by omega)) (by unfold maxLen;omega),Nat.le_trans (mtS_len _ (by omega)) (by unfold maxLen;omega),Nat.le_trans (mtS_len _ (by omega)) (by unfold maxLen;omega),Nat.le_trans (mtS_len _ (by omega)) (by unfold maxLen;omega),int_wf9 (by omega) (by omega),int_wf9 (by omega) (by omega)⟩
theorem mkUserL_ok (m0 n:Nat) (h:m0+6 * n≤1000000000000):∀ x,x ∈ mkUserL m0 n→UsRok x:=by
 intro x hx
 unfold mkUserL at hx
 simp at hx
 obtain ⟨i,hi,rfl⟩:=hx
 exact mkUser_ok _ (by omega)
def mkUser_0 (x:UserV) (M:Nat):UserV:={ x with nm:=mtS M }
def mkUser_1 (x:UserV) (M:Nat):UserV:={ mkUser_0 x M with sa:=mtS (M+1) }
def mkUser_2 (x:UserV) (M:Nat):UserV:={ mkUser_1 x M with ha:=mtS (M+2) }
def mkUser_3 (x:UserV) (M:Nat):UserV:={ mkUser_2 x M with ro:=mtS (M+3) }
def mkUser_4 (x:UserV) (M:Nat):UserV:={ mkUser_3 x M with bl:=(M:Int)+1+1+1+1 }
def mkUser_5 (x:UserV) (M:Nat):UserV:={ mkUser_4 x M with lg:=(M:Int)+1+1+1+1+1 }
set_option maxHeartbeats 4000000 in
theorem markUserS_any (a:Option Addr) (n cap B m0:Nat) (L:List UserV) (w:World) (h:OwnS uvG 6 84 w B (.slice a n cap) L) (h0:0<m0) (hm:m0+6 * n≤100000000000) :
  Calls Tryz.prog 52 #[.slice a n cap,.int .i64 (m0:Int)] w fun e w'=>e=.returned (.int .i64 ((m0+6 * n:Nat):Int))∧OwnS uvG 6 84 w' B (.slice a n cap) (mkUserL m0 n)∧w.grownBy w' (Value.slice a n cap).ownBlock:=by
 have H:Hid (OwnS uvG 6 84 w B (.slice a n cap) L):=h
 have hn:=h.len
 have hlen:n≤100000000000:=by omega
 clear h
 go_enter Tryz.func52,Tryz.ntmps52
 go_wp2
 go_loopw [1,5] (fun m i wr=>∃ (k M:Nat) (L':List UserV),k≤n∧i=.int .i64 k∧m=.int .i64 (M:Int)∧Hid (M=m0+6 * k)∧Hid (OwnS uvG 6 84 wr B (.slice a n cap) L'∧L'.length=n∧L'.take k=(mkUserL m0 n).take k∧w.grownBy wr (Value.slice a n cap).ownBlock)) (fun _ i _=>n - (intOf i).toNat)
 case atStart=>exact ⟨0,m0,L,Nat.zero_le _,rfl,rfl,by show m0=_;omega,H.out,hn,rfl,grown_refl w _⟩
 case round =>
  obtain ⟨k,M,L',hk,rfl,rfl,hM,X⟩:=hrel
  by_cases hlt:k<n
  ·obtain ⟨g,rfl,hBg,hg,-⟩:=X.out.1.form (by rw [X.out.2.1];omega)
   obtain ⟨x,hx⟩:=at_of (k:=k) X.out.2.1 hlt
   have hltz:(k:Int)<(n:Int):=by omega
   have hMz:(M:Int)≤200000000000:=by have:=hM.out;omega
   have hM0:0<M:=by have:=hM.out;omega
   have G0:Hid (w.grownBy wr (some g)):=X.out.2.2.2
   have o0:=X.out.1
   have hT:Hid (L'.length=n∧L'.take k=(mkUserL m0 n).take k):=⟨X.out.2.1,X.out.2.2.1⟩
   clear X
   have HM0:Hid (∀ w,Calls Tryz.prog 98 #[.int .i64 ((M:Int))] w fun e w'=>e=.returned (.string (mtS (M)))∧Grw w w'):=fun w=>by
    have:=markText_any (M) w (by omega) (by omega)
    exact this
   go_wp2_with fail
   refine (HM0.out _).mono ?_
   rintro e wt0 ⟨rfl,gt0⟩
   have ot0:=o0.now gt0.below
   have Gt0:Hid (w.grownBy wt0 (some g)):=grown_tr G0.out (gt0.grown _)
   clear HM0 gt0 o0 G0
   obtain ⟨c0,z0⟩:=ot0.cell uvG_len (j:=0) hx rfl
   replace c0:wt0.cell? ⟨g,k * 6,none⟩=some (.string x.nm):=c0
   replace z0:wt0.frozen? ⟨g,k * 6,none⟩=false:=z0
   have s0:=ot0.set1 uvG_len (j:=0) (y:=(mkUser_0 x M)) (u:=.string (mtS M)) hx (by omega) rfl
   have hx0:(L'.set k (mkUser_0 x M))[k]?=some (mkUser_0 x M):=List.getElem?_set_self (by rw [hT.out.1];exact hlt)
   have Z0:Hid (OwnS uvG 6 84 (wt0.setCell ⟨g,k * 6,none⟩ (.string (mtS M))) B (.slice (some ⟨g,0,none⟩) n cap) (L'.set k (mkUser_0 x M))∧w.grownBy (wt0.setCell ⟨g,k * 6,none⟩ (.string (mtS M))) (some g)):=⟨s0.1,(grown_tr Gt0.out s0.2)⟩
   have hy0:Hid ((L'.set k (mkUser_0 x M))[k]?=some (mkUser_0 x M)):=hx0
   clear ot0 Gt0 s0 hx0 hx
   have HM1:Hid (∀ w,Calls Tryz.prog 98 #[.int .i64 ((M:Int)+1)] w fun e w'=>e=.returned (.string (mtS (M+1)))∧Grw w w'):=fun w=>by
    have:=markText_any (M+1) w (by omega) (by omega)
    rw [show ((M+1:Nat):Int)=(M:Int)+1 by omega] at this
    exact this
   go_wp2_with fail
   refine (HM1.out _).mono ?_
   rintro e wt1 ⟨rfl,gt1⟩
   clear c0 z0
   have ot1:=Z0.out.1.now gt1.below
   have Gt1:Hid (w.grownBy wt1 (some g)):=grown_tr Z0.out.2 (gt1.grown _)
   clear HM1 gt1 Z0
   obtain ⟨c1,z1⟩:=ot1.cell uvG_len (j:=1) hy0.out rfl
   have s1:=ot1.set1 uvG_len (j:=1) (y:=(mkUser_1 x M)) (u:=.string (mtS (M+1))) hy0.out (by omega) rfl
   rw [List.set_set] at s1
   have hx1:(L'.set k (mkUser_1 x M))[k]?=some (mkUser_1 x M):=List.getElem?_set_self (by rw [hT.out.1];exact hlt)
   have Z1:Hid (OwnS uvG 6 84 (wt1.setCell ⟨g,k * 6+1,none⟩ (.string (mtS (M+1)))) B (.slice (some ⟨g,0,none⟩) n cap) (L'.set k (mkUser_1 x M))∧w.grownBy (wt1.setCell ⟨g,k * 6+1,none⟩ (.string (mtS (M+1)))) (some g)):=⟨s1.1,(grown_tr Gt1.out s1.2)⟩
   have hy1:Hid ((L'.set k (mkUser_1 x M))[k]?=some (mkUser_1 x M)):=hx1
   clear ot1 Gt1 s1 hx1 
   have HM2:Hid (∀ w,Calls Tryz.prog 98 #[.int .i64 ((M:Int)+1+1)] w fun e w'=>e=.returned (.string (mtS (M+2)))∧Grw w w'):=fun w=>by
    have:=markText_any (M+2) w (by omega) (by omega)
    rw [show ((M+2:Nat):Int)=(M:Int)+1+1 by omega] at this
    exact this
   go_wp2_with fail
   refine (HM2.out _).mono ?_
   rintro e wt2 ⟨rfl,gt2⟩
   clear c1 z1
   have ot2:=Z1.out.1.now gt2.below
   have Gt2:Hid (w.grownBy wt2 (some g)):=grown_tr Z1.out.2 (gt2.grown _)
   clear HM2 gt2 Z1
   obtain ⟨c2,z2⟩:=ot2.cell uvG_len (j:=2) hy1.out rfl
   have s2:=ot2.set1 uvG_len (j:=2) (y:=(mkUser_2 x M)) (u:=.string (mtS (M+2))) hy1.out (by omega) rfl
   rw [List.set_set] at s2
   have hx2:(L'.set k (mkUser_2 x M))[k]?=some (mkUser_2 x M):=List.getElem?_set_self (by rw [hT.out.1];exact hlt)
   have Z2:Hid (OwnS uvG 6 84 (wt2.setCell ⟨g,k * 6+2,none⟩ (.string (mtS (M+2)))) B (.slice (some ⟨g,0,none⟩) n cap) (L'.set k (mkUser_2 x M))∧w.grownBy (wt2.setCell ⟨g,k * 6+2,none⟩ (.string (mtS (M+2)))) (some g)):=⟨s2.1,(grown_tr Gt2.out s2.2)⟩
   have hy2:Hid ((L'.set k (mkUser_2 x M))[k]?=some (mkUser_2 x M)):=hx2
   clear ot2 Gt2 s2 hx2 
   have HM3:Hid (∀ w,Calls Tryz.prog 98 #[.int .i64 ((M:Int)+1+1+1)] w fun e w'=>e=.returned (.string (mtS (M+3)))∧Grw w w'):=fun w=>by
    have:=markText_any (M+3) w (by omega) (by omega)
    rw [show ((M+3:Nat):Int)=(M:Int)+1+1+1 by omega] at this
    exact this
   go_wp2_with fail
   refine (HM3.out _).mono ?_
   rintro e wt3 ⟨rfl,gt3⟩
   clear c2 z2
   have ot3:=Z2.out.1.now gt3.below
   have Gt3:Hid (w.grownBy wt3 (some g)):=grown_tr Z2.out.2 (gt3.grown _)
   clear HM3 gt3 Z2
   obtain ⟨c3,z3⟩:=ot3.cell uvG_len (j:=3) hy2.out rfl
   obtain ⟨c4,z4⟩:=ot3.cell uvG_len (j:=4) hy2.out rfl
   obtain ⟨c5,z5⟩:=ot3.cell uvG_len (j:=5) hy2.out rfl
   have s3:=ot3.set1 uvG_len (j:=3) (y:=(mkUser_3 x M)) (u:=.string (mtS (M+3))) hy2.out (by omega) rfl
   rw [List.set_set] at s3
   have hx3:(L'.set k (mkUser_3 x M))[k]?=some (mkUser_3 x M):=List.getElem?_set_self (by rw [hT.out.1];exact hlt)
   have s4:=s3.1.set1 uvG_len (j:=4) (y:=(mkUser_4 x M)) (u:=.int .i64 ((M:Int)+1+1+1+1)) hx3 (by omega) rfl
   rw [List.set_set] at s4
   have hx4:(L'.set k (mkUser_4 x M))[k]?=some (mkUser_4 x M):=List.getElem?_set_self (by rw [hT.out.1];exact hlt)
   have s5:=s4.1.set1 uvG_len (j:=5) (y:=(mkUser_5 x M)) (u:=.int .i64 ((M:Int)+1+1+1+1+1)) hx4 (by omega) rfl
   rw [List.set_set] at s5
   have hx5:(L'.set k (mkUser_5 x M))[k]?=some (mkUser_5 x M):=List.getElem?_set_self (by rw [hT.out.1];exact hlt)
   have Z3:Hid (OwnS uvG 6 84 (((wt3.setCell ⟨g,k * 6+3,none⟩ (.string (mtS (M+3)))).setCell ⟨g,k * 6+4,none⟩ (.int .i64 ((M:Int)+1+1+1+1))).setCell ⟨g,k * 6+5,none⟩ (.int .i64 ((M:Int)+1+1+1+1+1))) B (.slice (some ⟨g,0,none⟩) n cap) (L'.set k (mkUser_5 x M))∧w.grownBy (((wt3.setCell ⟨g,k * 6+3,none⟩ (.string (mtS (M+3)))).setCell ⟨g,k * 6+4,none⟩ (.int .i64 ((M:Int)+1+1+1+1))).setCell ⟨g,k * 6+5,none⟩ (.int .i64 ((M:Int)+1+1+1+1+1))) (some g)):=⟨s5.1,(grown_tr (grown_tr (grown_tr Gt3.out s3.2) s4.2) s5.2)⟩
   have hy3:Hid ((L'.set k (mkUser_5 x M))[k]?=some (mkUser_5 x M)):=hx5
   clear ot3 Gt3 s3 hx3 s4 hx4 s5 hx5 
   have eUser:(mkUser_5 x M)=mkUser M:=rfl
   rw [eUser] at Z3
   have YY:Hid (OwnS uvG 6 84 (((wt3.setCell ⟨g,k * 6+3,none⟩ (.string (mtS (M+3)))).setCell ⟨g,k * 6+4,none⟩ (.int .i64 ((M:Int)+1+1+1+1))).setCell ⟨g,k * 6+5,none⟩ (.int .i64 ((M:Int)+1+1+1+1+1))) B (.slice (some ⟨g,0,none⟩) n cap) (L'.set k (mkUser M))∧(L'.set k (mkUser M)).length=n∧(L'.set k (mkUser M)).take (k+1)=(mkUserL m0 n).take (k+1)∧w.grownBy (((wt3.setCell ⟨g,k * 6+3,none⟩ (.string (mtS (M+3)))).setCell ⟨g,k * 6+4,none⟩ (.int .i64 ((M:Int)+1+1+1+1))).setCell ⟨g,k * 6+5,none⟩ (.int .i64 ((M:Int)+1+1+1+1+1))) (some g)):=⟨Z3.out.1,by rw [List.length_set];exact hT.out.1,takeS_set (by rw [hT.out.1,mkUserL_len]) (by rw [mkUserL_at m0 n k hlt,hM.out]) hT.out.2,Z3.out.2⟩
   clear Z3 hT hy0 hy1 hy2 hy3
   go_wp2
   go_roundw
   case rel=>exact ⟨k+1,M+6,_,by omega,by go_num,by go_num,(show M+6=m0+6 * (k+1) by have:=hM.out;omega),YY⟩
   case measure=>simp [intOf];omega
  ·obtain rfl:k=n:=by omega
   have e1:L'=mkUserL m0 k:=by
    have:=X.out.2.2.1
    rwa [List.take_of_length_le (by rw [X.out.2.1];exact Nat.le_refl _),List.take_of_length_le (by rw [mkUserL_len];exact Nat.le_refl _)] at this
   subst e1
   have hM2:=hM.out
   subst hM2
   go_wp2
   go_ret
   exact ⟨rfl,X.out.1,X.out.2.2.2⟩
set_option maxHeartbeats 4000000 in
theorem heldUserS_any (a:Option Addr) (n cap m0:Nat) (w:World) (h:Rw UsR 6 w a (mkUserL m0 n)) (h0:0<m0) (hm:m0+6 * n≤100000000000) :
  Calls Tryz.prog 56 #[.slice a n cap,.int .i64 (m0:Int)] w fun e w'=>e=.returned (.int .i64 ((m0+6 * n:Nat):Int))∧Grw w w':=by
 have H:Hid (Rw UsR 6 w a (mkUserL m0 n)):=h
 have hlen:n≤100000000000:=by omega
 clear h
 have hmix:Tryz.prog.follows .mixedOrders=true:=by kernel_rfl
 go_enter Tryz.func56,Tryz.ntmps56
 go_wp2
 go_loopw [1,5] (fun m i wr=>∃ k M:Nat,k≤n∧i=.int .i64 k∧m=.int .i64 (M:Int)∧Hid (M=m0+6 * k)∧Hid (Grw w wr)) (fun _ i _=>n - (intOf i).toNat)
 case atStart=>exact ⟨0,m0,Nat.zero_le _,rfl,rfl,by show m0=_;omega,Grw.refl w⟩
 case round =>
  obtain ⟨k,M,hk,rfl,rfl,hM,HG⟩:=hrel
  by_cases hlt:k<n
  ·obtain ⟨b,off,vs,rfl,hb,hvl,hR,hc⟩:=H.out.at UsR.kp HG.out.below (mkUserL_at m0 n k hlt)
   rw [← hM.out] at hR
   obtain ⟨rfl,-⟩:=hR
   have hltz:(k:Int)<(n:Int):=by omega
   have hMz:(M:Int)≤200000000000:=by have:=hM.out;omega
   have hM0:0<M:=by have:=hM.out;omega
   have q0:wr.cell? ⟨b,off+k * 6,none⟩=some (.string (mtS M)):=hc 0 _ rfl
   have q1:wr.cell? ⟨b,off+k * 6+1,none⟩=some (.string (mtS (M+1))):=hc 1 _ rfl
   have q2:wr.cell? ⟨b,off+k * 6+2,none⟩=some (.string (mtS (M+2))):=hc 2 _ rfl
   have q3:wr.cell? ⟨b,off+k * 6+3,none⟩=some (.string (mtS (M+3))):=hc 3 _ rfl
   have q4:wr.cell? ⟨b,off+k * 6+4,none⟩=some (.int .i64 ((M:Int)+1+1+1+1)):=hc 4 _ rfl
   have q5:wr.cell? ⟨b,off+k * 6+5,none⟩=some (.int .i64 ((M:Int)+1+1+1+1+1)):=hc 5 _ rfl
   clear hc hvl
   have e4:(((M:Int)+1+1+1+1) != ((M:Int)+1+1+1+1))=false:=by simp
   have e5:(((M:Int)+1+1+1+1+1) != ((M:Int)+1+1+1+1+1))=false:=by simp
   have HM0:Hid (∀ w,Calls Tryz.prog 98 #[.int .i64 ((M:Int))] w fun e w'=>e=.returned (.string (mtS (M)))∧Grw w w'):=fun w=>by
    have:=markText_any (M) w (by omega) (by omega)
    exact this
   generalize mtS (M)=T0 at *
   have t0:(T0.toList == T0.toList)=true:=by simp
   have HM1:Hid (∀ w,Calls Tryz.prog 98 #[.int .i64 ((M:Int)+1)] w fun e w'=>e=.returned (.string (mtS (M+1)))∧Grw w w'):=fun w=>by
    have:=markText_any (M+1) w (by omega) (by omega)
    rw [show ((M+1:Nat):Int)=(M:Int)+1 by omega] at this
    exact this
   generalize mtS (M+1)=T1 at *
   have t1:(T1.toList == T1.toList)=true:=by simp
   have HM2:Hid (∀ w,Calls Tryz.prog 98 #[.int .i64 ((M:Int)+1+1)] w fun e w'=>e=.returned (.string (mtS (M+2)))∧Grw w w'):=fun w=>by
    have:=markText_any (M+2) w (by omega) (by omega)
    rw [show ((M+2:Nat):Int)=(M:Int)+1+1 by omega] at this
    exact this
   generalize mtS (M+2)=T2 at *
   have t2:(T2.toList == T2.toList)=true:=by simp
   have HM3:Hid (∀ w,Calls Tryz.prog 98 #[.int .i64 ((M:Int)+1+1+1)] w fun e w'=>e=.returned (.string (mtS (M+3)))∧Grw w w'):=fun w=>by
    have:=markText_any (M+3) w (by omega) (by omega)
    rw [show ((M+3:Nat):Int)=(M:Int)+1+1+1 by omega] at this
    exact this
   generalize mtS (M+3)=T3 at *
   have t3:(T3.toList == T3.toList)=true:=by simp
   have y0:∀ n os,(grow (wr.drewN n) os).cell? ⟨b,off+k * 6,none⟩=some (.string T0):=fun n os=>bkeep (Grw.below ⟨n,os,rfl⟩) q0
   go_wp2_with fail
   refine wp_region_quiet_grown (by assumption) (by kernel_rfl) ?_
   repeat (go_big_quiet_step (first | fail | (go_at_call 98;exact Calls.grown_of (HM0.out _))))
   refine wpQuiet_nil ?_
   intro _ hw'
   obtain ⟨⟨nq,osq⟩,hw''⟩:=hw'
   subst hw''
   have HG0:Hid (Grw w (grow (wr.drewN nq) osq)):=HG.out.trans ⟨nq,osq,rfl⟩
   replace q1:(grow (wr.drewN nq) osq).cell? ⟨b,off+k * 6+1,none⟩=some (.string T1):=bkeep (Grw.below ⟨nq,osq,rfl⟩) q1
   replace q2:(grow (wr.drewN nq) osq).cell? ⟨b,off+k * 6+2,none⟩=some (.string T2):=bkeep (Grw.below ⟨nq,osq,rfl⟩) q2
   replace q3:(grow (wr.drewN nq) osq).cell? ⟨b,off+k * 6+3,none⟩=some (.string T3):=bkeep (Grw.below ⟨nq,osq,rfl⟩) q3
   replace q4:(grow (wr.drewN nq) osq).cell? ⟨b,off+k * 6+4,none⟩=some (.int .i64 ((M:Int)+1+1+1+1)):=bkeep (Grw.below ⟨nq,osq,rfl⟩) q4
   replace q5:(grow (wr.drewN nq) osq).cell? ⟨b,off+k * 6+5,none⟩=some (.int .i64 ((M:Int)+1+1+1+1+1)):=bkeep (Grw.below ⟨nq,osq,rfl⟩) q5
   clear y0 q0 HM0
   generalize (grow (wr.drewN nq) osq)=wv0 at *
   have y1:∀ n os,(grow (wv0.drewN n) os).cell? ⟨b,off+k * 6+1,none⟩=some (.string T1):=fun n os=>bkeep (Grw.below ⟨n,os,rfl⟩) q1
   go_wp2_with fail
   refine wp_region_quiet_grown (by assumption) (by kernel_rfl) ?_
   repeat (go_big_quiet_step (first | fail | (go_at_call 98;exact Calls.grown_of (HM1.out _))))
   refine wpQuiet_nil ?_
   intro _ hw'
   obtain ⟨⟨nq,osq⟩,hw''⟩:=hw'
   subst hw''
   have HG1:Hid (Grw w (grow (wv0.drewN nq) osq)):=HG0.out.trans ⟨nq,osq,rfl⟩
   replace q2:(grow (wv0.drewN nq) osq).cell? ⟨b,off+k * 6+2,none⟩=some (.string T2):=bkeep (Grw.below ⟨nq,osq,rfl⟩) q2
   replace q3:(grow (wv0.drewN nq) osq).cell? ⟨b,off+k * 6+3,none⟩=some (.string T3):=bkeep (Grw.below ⟨nq,osq,rfl⟩) q3
   replace q4:(grow (wv0.drewN nq) osq).cell? ⟨b,off+k * 6+4,none⟩=some (.int .i64 ((M:Int)+1+1+1+1)):=bkeep (Grw.below ⟨nq,osq,rfl⟩) q4
   replace q5:(grow (wv0.drewN nq) osq).cell? ⟨b,off+k * 6+5,none⟩=some (.int .i64 ((M:Int)+1+1+1+1+1)):=bkeep (Grw.below ⟨nq,osq,rfl⟩) q5
   clear y1 q1 HM1
   generalize (grow (wv0.drewN nq) osq)=wv1 at *
   have y2:∀ n os,(grow (wv1.drewN n) os).cell? ⟨b,off+k * 6+2,none⟩=some (.string T2):=fun n os=>bkeep (Grw.below ⟨n,os,rfl⟩) q2
   go_wp2_with fail
   refine wp_region_quiet_grown (by assumption) (by kernel_rfl) ?_
   repeat (go_big_quiet_step (first | fail | (go_at_call 98;exact Calls.grown_of (HM2.out _))))
   refine wpQuiet_nil ?_
   intro _ hw'
   obtain ⟨⟨nq,osq⟩,hw''⟩:=hw'
   subst hw''
   have HG2:Hid (Grw w (grow (wv1.drewN nq) osq)):=HG1.out.trans ⟨nq,osq,rfl⟩
   replace q3:(grow (wv1.drewN nq) osq).cell? ⟨b,off+k * 6+3,none⟩=some (.string T3):=bkeep (Grw.below ⟨nq,osq,rfl⟩) q3
   replace q4:(grow (wv1.drewN nq) osq).cell? ⟨b,off+k * 6+4,none⟩=some (.int .i64 ((M:Int)+1+1+1+1)):=bkeep (Grw.below ⟨nq,osq,rfl⟩) q4
   replace q5:(grow (wv1.drewN nq) osq).cell? ⟨b,off+k * 6+5,none⟩=some (.int .i64 ((M:Int)+1+1+1+1+1)):=bkeep (Grw.below ⟨nq,osq,rfl⟩) q5
   clear y2 q2 HM2
   generalize (grow (wv1.drewN nq) osq)=wv2 at *
   have y3:∀ n os,(grow (wv2.drewN n) os).cell? ⟨b,off+k * 6+3,none⟩=some (.string T3):=fun n os=>bkeep (Grw.below ⟨n,os,rfl⟩) q3
   go_wp2_with fail
   refine wp_region_quiet_grown (by assumption) (by kernel_rfl) ?_
   repeat (go_big_quiet_step (first | fail | (go_at_call 98;exact Calls.grown_of (HM3.out _))))
   refine wpQuiet_nil ?_
   intro _ hw'
   obtain ⟨⟨nq,osq⟩,hw''⟩:=hw'
   subst hw''
   have HG3:Hid (Grw w (grow (wv2.drewN nq) osq)):=HG2.out.trans ⟨nq,osq,rfl⟩
   replace q4:(grow (wv2.drewN nq) osq).cell? ⟨b,off+k * 6+4,none⟩=some (.int .i64 ((M:Int)+1+1+1+1)):=bkeep (Grw.below ⟨nq,osq,rfl⟩) q4
   replace q5:(grow (wv2.drewN nq) osq).cell? ⟨b,off+k * 6+5,none⟩=some (.int .i64 ((M:Int)+1+1+1+1+1)):=bkeep (Grw.below ⟨nq,osq,rfl⟩) q5
   clear y3 q3 HM3
   generalize (grow (wv2.drewN nq) osq)=wv3 at *
   go_wp2
   go_roundw
   case rel=>exact ⟨k+1,M+6,by omega,by go_num,by go_num,(show M+6=m0+6 * (k+1) by have:=hM.out;omega),HG3⟩
   case measure=>simp [intOf];omega
  ·obtain rfl:k=n:=by omega
   have hM2:=hM.out
   subst hM2
   go_wp2
   go_ret
   exact ⟨rfl,HG.out⟩
def mkSession (M:Nat):SessV:=⟨(M:Int),(M:Int)+1,mtS (M+2),(M:Int)+1+1+1,(M:Int)+1+1+1+1,(M:Int)+1+1+1+1+1,(M:Int)+1+1+1+1+1+1,(M:Int)+1+1+1+1+1+1+1,(M:Int)+1+1+1+1+1+1+1+1,(M:Int)+1+1+1+1+1+1+1+1+1⟩
def mkSessionL (m0 n:Nat):List SessV:=(List.range n).map (fun k=>mkSession (m0+10 * k))
theorem mkSessionL_len (m0 n:Nat):(mkSessionL m0 n).length=n:=by simp [mkSessionL]
theorem mkSessionL_at (m0 n i:Nat) (h:i<n):(mkSessionL m0 n)[i]?=some (mkSession (m0+10 * i)):=by rw [mkSessionL,List.getElem?_map,List.getElem?_range h];rfl
theorem mkSession_ok (M:Nat) (h:M+10≤1000000000000):SeRok (mkSession M):=by
 unfold SeRok mkSession
 dsimp only
 exact ⟨int_wf9 (by omega) (by omega),int_wf9 (by omega) (by omega),Nat.le_trans (mtS_len _ (by omega)) (by unfold maxLen;omega),int_wf9 (by omega) (by omega),int_wf9 (by omega) (by omega),int_wf9 (by omega) (by omega),int_wf9 (by omega) (by omega),int_wf9 (by omega) (by omega),int_wf9 (by omega) (by omega),int_wf9 (by omega) (by omega)⟩
theorem mkSessionL_ok (m0 n:Nat) (h:m0+10 * n≤1000000000000):∀ x,x ∈ mkSessionL m0 n→SeRok x:=by
 intro x hx
 unfold mkSessionL at hx
 simp at hx
 obtain ⟨i,hi,rfl⟩:=hx
 exact mkSession_ok _ (by omega)
def mkSession_0 (x:SessV) (M:Nat):SessV:={ x with id:=(M:Int) }
def mkSession_1 (x:SessV) (M:Nat):SessV:={ mkSession_0 x M with us:=(M:Int)+1 }
def mkSession_2 (x:SessV) (M:Nat):SessV:={ mkSession_1 x M with mc:=mtS (M+2) }
def mkSession_3 (x:SessV) (M:Nat):SessV:={ mkSession_2 x M with ip:=(M:Int)+1+1+1 }
def mkSession_4 (x:SessV) (M:Nat):SessV:={ mkSession_3 x M with be:=(M:Int)+1+1+1+1 }
def mkSession_5 (x:SessV) (M:Nat):SessV:={ mkSession_4 x M with la:=(M:Int)+1+1+1+1+1 }
def mkSession_6 (x:SessV) (M:Nat):SessV:={ mkSession_5 x M with ud:=(M:Int)+1+1+1+1+1+1 }
def mkSession_7 (x:SessV) (M:Nat):SessV:={ mkSession_6 x M with qu:=(M:Int)+1+1+1+1+1+1+1 }
def mkSession_8 (x:SessV) (M:Nat):SessV:={ mkSession_7 x M with un:=(M:Int)+1+1+1+1+1+1+1+1 }
def mkSession_9 (x:SessV) (M:Nat):SessV:={ mkSession_8 x M with il:=(M:Int)+1+1+1+1+1+1+1+1+1 }
set_option maxHeartbeats 4000000 in
theorem markSessionS_any (a:Option Addr) (n cap B m0:Nat) (L:List SessV) (w:World) (h:OwnS svG 10 80 w B (.slice a n cap) L) (h0:0<m0) (hm:m0+10 * n≤100000000000) :
  Calls Tryz.prog 53 #[.slice a n cap,.int .i64 (m0:Int)] w fun e w'=>e=.returned (.int .i64 ((m0+10 * n:Nat):Int))∧OwnS svG 10 80 w' B (.slice a n cap) (mkSessionL m0 n)∧w.grownBy w' (Value.slice a n cap).ownBlock:=by
 have H:Hid (OwnS svG 10 80 w B (.slice a n cap) L):=h
 have hn:=h.len
 have hlen:n≤100000000000:=by omega
 clear h
 go_enter Tryz.func53,Tryz.ntmps53
 go_wp2
 go_loopw [1,5] (fun m i wr=>∃ (k M:Nat) (L':List SessV),k≤n∧i=.int .i64 k∧m=.int .i64 (M:Int)∧Hid (M=m0+10 * k)∧Hid (OwnS svG 10 80 wr B (.slice a n cap) L'∧L'.length=n∧L'.take k=(mkSessionL m0 n).take k∧w.grownBy wr (Value.slice a n cap).ownBlock)) (fun _ i _=>n - (intOf i).toNat)
 case atStart=>exact ⟨0,m0,L,Nat.zero_le _,rfl,rfl,by show m0=_;omega,H.out,hn,rfl,grown_refl w _⟩
 case round =>
  obtain ⟨k,M,L',hk,rfl,rfl,hM,X⟩:=hrel
  by_cases hlt:k<n
  ·obtain ⟨g,rfl,hBg,hg,-⟩:=X.out.1.form (by rw [X.out.2.1];omega)
   obtain ⟨x,hx⟩:=at_of (k:=k) X.out.2.1 hlt
   have hltz:(k:Int)<(n:Int):=by omega
   have hMz:(M:Int)≤200000000000:=by have:=hM.out;omega
   have hM0:0<M:=by have:=hM.out;omega
   have G0:Hid (w.grownBy wr (some g)):=X.out.2.2.2
   have o0:=X.out.1
   have hT:Hid (L'.length=n∧L'.take k=(mkSessionL m0 n).take k):=⟨X.out.2.1,X.out.2.2.1⟩
   clear X
   obtain ⟨c0,z0⟩:=o0.cell svG_len (j:=0) hx rfl
   replace c0:wr.cell? ⟨g,k * 10,none⟩=some (.int .i64 x.id):=c0
   replace z0:wr.frozen? ⟨g,k * 10,none⟩=false:=z0
   obtain ⟨c1,z1⟩:=o0.cell svG_len (j:=1) hx rfl
   have s0:=o0.set1 svG_len (j:=0) (y:=(mkSession_0 x M)) (u:=.int .i64 ((M:Int))) hx (by omega) rfl
   have hx0:(L'.set k (mkSession_0 x M))[k]?=some (mkSession_0 x M):=List.getElem?_set_self (by rw [hT.out.1];exact hlt)
   have s1:=s0.1.set1 svG_len (j:=1) (y:=(mkSession_1 x M)) (u:=.int .i64 ((M:Int)+1)) hx0 (by omega) rfl
   rw [List.set_set] at s1
   have hx1:(L'.set k (mkSession_1 x M))[k]?=some (mkSession_1 x M):=List.getElem?_set_self (by rw [hT.out.1];exact hlt)
   have Z0:Hid (OwnS svG 10 80 ((wr.setCell ⟨g,k * 10,none⟩ (.int .i64 ((M:Int)))).setCell ⟨g,k * 10+1,none⟩ (.int .i64 ((M:Int)+1))) B (.slice (some ⟨g,0,none⟩) n cap) (L'.set k (mkSession_1 x M))∧w.grownBy ((wr.setCell ⟨g,k * 10,none⟩ (.int .i64 ((M:Int)))).setCell ⟨g,k * 10+1,none⟩ (.int .i64 ((M:Int)+1))) (some g)):=⟨s1.1,(grown_tr (grown_tr G0.out s0.2) s1.2)⟩
   have hy0:Hid ((L'.set k (mkSession_1 x M))[k]?=some (mkSession_1 x M)):=hx1
   clear o0 G0 s0 hx0 s1 hx1 hx
   have HM1:Hid (∀ w,Calls Tryz.prog 98 #[.int .i64 ((M:Int)+1+1)] w fun e w'=>e=.returned (.string (mtS (M+2)))∧Grw w w'):=fun w=>by
    have:=markText_any (M+2) w (by omega) (by omega)
    rw [show ((M+2:Nat):Int)=(M:Int)+1+1 by omega] at this
    exact this
   go_wp2_with fail
   refine (HM1.out _).mono ?_
   rintro e wt1 ⟨rfl,gt1⟩
   clear c0 z0 c1 z1
   have ot1:=Z0.out.1.now gt1.below
   have Gt1:Hid (w.grownBy wt1 (some g)):=grown_tr Z0.out.2 (gt1.grown _)
   clear HM1 gt1 Z0
   obtain ⟨c2,z2⟩:=ot1.cell svG_len (j:=2) hy0.out rfl
   obtain ⟨c3,z3⟩:=ot1.cell svG_len (j:=3) hy0.out rfl
   obtain ⟨c4,z4⟩:=ot1.cell svG_len (j:=4) hy0.out rfl
   obtain ⟨c5,z5⟩:=ot1.cell svG_len (j:=5) hy0.out rfl
   obtain ⟨c6,z6⟩:=ot1.cell svG_len (j:=6) hy0.out rfl
   obtain ⟨c7,z7⟩:=ot1.cell svG_len (j:=7) hy0.out rfl
   obtain ⟨c8,z8⟩:=ot1.cell svG_len (j:=8) hy0.out rfl
   obtain ⟨c9,z9⟩:=ot1.cell svG_len (j:=9) hy0.out rfl
   have s2:=ot1.set1 svG_len (j:=2) (y:=(mkSession_2 x M)) (u:=.string (mtS (M+2))) hy0.out (by omega) rfl
   rw [List.set_set] at s2
   have hx2:(L'.set k (mkSession_2 x M))[k]?=some (mkSession_2 x M):=List.getElem?_set_self (by rw [hT.out.1];exact hlt)
   have s3:=s2.1.set1 svG_len (j:=3) (y:=(mkSession_3 x M)) (u:=.int .i64 ((M:Int)+1+1+1)) hx2 (by omega) rfl
   rw [List.set_set] at s3
   have hx3:(L'.set k (mkSession_3 x M))[k]?=some (mkSession_3 x M):=List.getElem?_set_self (by rw [hT.out.1];exact hlt)
   have s4:=s3.1.set1 svG_len (j:=4) (y:=(mkSession_4 x M)) (u:=.int .i64 ((M:Int)+1+1+1+1)) hx3 (by omega) rfl
   rw [List.set_set] at s4
   have hx4:(L'.set k (mkSession_4 x M))[k]?=some (mkSession_4 x M):=List.getElem?_set_self (by rw [hT.out.1];exact hlt)
   have s5:=s4.1.set1 svG_len (j:=5) (y:=(mkSession_5 x M)) (u:=.int .i64 ((M:Int)+1+1+1+1+1)) hx4 (by omega) rfl
   rw [List.set_set] at s5
   have hx5:(L'.set k (mkSession_5 x M))[k]?=some (mkSession_5 x M):=List.getElem?_set_self (by rw [hT.out.1];exact hlt)
   have s6:=s5.1.set1 svG_len (j:=6) (y:=(mkSession_6 x M)) (u:=.int .i64 ((M:Int)+1+1+1+1+1+1)) hx5 (by omega) rfl
   rw [List.set_set] at s6
   have hx6:(L'.set k (mkSession_6 x M))[k]?=some (mkSession_6 x M):=List.getElem?_set_self (by rw [hT.out.1];exact hlt)
   have s7:=s6.1.set1 svG_len (j:=7) (y:=(mkSession_7 x M)) (u:=.int .i64 ((M:Int)+1+1+1+1+1+1+1)) hx6 (by omega) rfl
   rw [List.set_set] at s7
   have hx7:(L'.set k (mkSession_7 x M))[k]?=some (mkSession_7 x M):=List.getElem?_set_self (by rw [hT.out.1];exact hlt)
   have s8:=s7.1.set1 svG_len (j:=8) (y:=(mkSession_8 x M)) (u:=.int .i64 ((M:Int)+1+1+1+1+1+1+1+1)) hx7 (by omega) rfl
   rw [List.set_set] at s8
   have hx8:(L'.set k (mkSession_8 x M))[k]?=some (mkSession_8 x M):=List.getElem?_set_self (by rw [hT.out.1];exact hlt)
   have s9:=s8.1.set1 svG_len (j:=9) (y:=(mkSession_9 x M)) (u:=.int .i64 ((M:Int)+1+1+1+1+1+1+1+1+1)) hx8 (by omega) rfl
   rw [List.set_set] at s9
   have hx9:(L'.set k (mkSession_9 x M))[k]?=some (mkSession_9 x M):=List.getElem?_set_self (by rw [hT.out.1];exact hlt)
   have Z1:Hid (OwnS svG 10 80 ((((((((wt1.setCell ⟨g,k * 10+2,none⟩ (.string (mtS (M+2)))).setCell ⟨g,k * 10+3,none⟩ (.int .i64 ((M:Int)+1+1+1))).setCell ⟨g,k * 10+4,none⟩ (.int .i64 ((M:Int)+1+1+1+1))).setCell ⟨g,k * 10+5,none⟩ (.int .i64 ((M:Int)+1+1+1+1+1))).setCell ⟨g,k * 10+6,none⟩ (.int .i64 ((M:Int)+1+1+1+1+1+1))).setCell ⟨g,k * 10+7,none⟩ (.int .i64 ((M:Int)+1+1+1+1+1+1+1))).setCell ⟨g,k * 10+8,none⟩ (.int .i64 ((M:Int)+1+1+1+1+1+1+1+1))).setCell ⟨g,k * 10+9,none⟩ (.int .i64 ((M:Int)+1+1+1+1+1+1+1+1+1))) B (.slice (some ⟨g,0,none⟩) n cap) (L'.set k (mkSession_9 x M))∧w.grownBy ((((((((wt1.setCell ⟨g,k * 10+2,none⟩ (.string (mtS (M+2)))).setCell ⟨g,k * 10+3,none⟩ (.int .i64 ((M:Int)+1+1+1))).setCell ⟨g,k * 10+4,none⟩ (.int .i64 ((M:Int)+1+1+1+1))).setCell ⟨g,k * 10+5,none⟩ (.int .i64 ((M:Int)+1+1+1+1+1))).setCell ⟨g,k * 10+6,none⟩ (.int .i64 ((M:Int)+1+1+1+1+1+1))).setCell ⟨g,k * 10+7,none⟩ (.int .i64 ((M:Int)+1+1+1+1+1+1+1))).setCell ⟨g,k * 10+8,none⟩ (.int .i64 ((M:Int)+1+1+1+1+1+1+1+1))).setCell ⟨g,k * 10+9,none⟩ (.int .i64 ((M:Int)+1+1+1+1+1+1+1+1+1))) (some g)):=⟨s9.1,(grown_tr (grown_tr (grown_tr (grown_tr (grown_tr (grown_tr (grown_tr (grown_tr Gt1.out s2.2) s3.2) s4.2) s5.2) s6.2) s7.2) s8.2) s9.2)⟩
   have hy1:Hid ((L'.set k (mkSession_9 x M))[k]?=some (mkSession_9 x M)):=hx9
   clear ot1 Gt1 s2 hx2 s3 hx3 s4 hx4 s5 hx5 s6 hx6 s7 hx7 s8 hx8 s9 hx9 
   have eSession:(mkSession_9 x M)=mkSession M:=rfl
   rw [eSession] at Z1
   have YY:Hid (OwnS svG 10 80 ((((((((wt1.setCell ⟨g,k * 10+2,none⟩ (.string (mtS (M+2)))).setCell ⟨g,k * 10+3,none⟩ (.int .i64 ((M:Int)+1+1+1))).setCell ⟨g,k * 10+4,none⟩ (.int .i64 ((M:Int)+1+1+1+1))).setCell ⟨g,k * 10+5,none⟩ (.int .i64 ((M:Int)+1+1+1+1+1))).setCell ⟨g,k * 10+6,none⟩ (.int .i64 ((M:Int)+1+1+1+1+1+1))).setCell ⟨g,k * 10+7,none⟩ (.int .i64 ((M:Int)+1+1+1+1+1+1+1))).setCell ⟨g,k * 10+8,none⟩ (.int .i64 ((M:Int)+1+1+1+1+1+1+1+1))).setCell ⟨g,k * 10+9,none⟩ (.int .i64 ((M:Int)+1+1+1+1+1+1+1+1+1))) B (.slice (some ⟨g,0,none⟩) n cap) (L'.set k (mkSession M))∧(L'.set k (mkSession M)).length=n∧(L'.set k (mkSession M)).take (k+1)=(mkSessionL m0 n).take (k+1)∧w.grownBy ((((((((wt1.setCell ⟨g,k * 10+2,none⟩ (.string (mtS (M+2)))).setCell ⟨g,k * 10+3,none⟩ (.int .i64 ((M:Int)+1+1+1))).setCell ⟨g,k * 10+4,none⟩ (.int .i64 ((M:Int)+1+1+1+1))).setCell ⟨g,k * 10+5,none⟩ (.int .i64 ((M:Int)+1+1+1+1+1))).setCell ⟨g,k * 10+6,none⟩ (.int .i64 ((M:Int)+1+1+1+1+1+1))).setCell ⟨g,k * 10+7,none⟩ (.int .i64 ((M:Int)+1+1+1+1+1+1+1))).setCell ⟨g,k * 10+8,none⟩ (.int .i64 ((M:Int)+1+1+1+1+1+1+1+1))).setCell ⟨g,k * 10+9,none⟩ (.int .i64 ((M:Int)+1+1+1+1+1+1+1+1+1))) (some g)):=⟨Z1.out.1,by rw [List.length_set];exact hT.out.1,takeS_set (by rw [hT.out.1,mkSessionL_len]) (by rw [mkSessionL_at m0 n k hlt,hM.out]) hT.out.2,Z1.out.2⟩
   clear Z1 hT hy0 hy1
   go_wp2
   go_roundw
   case rel=>exact ⟨k+1,M+10,_,by omega,by go_num,by go_num,(show M+10=m0+10 * (k+1) by have:=hM.out;omega),YY⟩
   case measure=>simp [intOf];omega
  ·obtain rfl:k=n:=by omega
   have e1:L'=mkSessionL m0 k:=by
    have:=X.out.2.2.1
    rwa [List.take_of_length_le (by rw [X.out.2.1];exact Nat.le_refl _),List.take_of_length_le (by rw [mkSessionL_len];exact Nat.le_refl _)] at this
   subst e1
   have hM2:=hM.out
   subst hM2
   go_wp2
   go_ret
   exact ⟨rfl,X.out.1,X.out.2.2.2⟩
set_option maxHeartbeats 4000000 in
theorem heldSessionS_any (a:Option Addr) (n cap m0:Nat) (w:World) (h:Rw SeR 10 w a (mkSessionL m0 n)) (h0:0<m0) (hm:m0+10 * n≤100000000000) :
  Calls Tryz.prog 57 #[.slice a n cap,.int .i64 (m0:Int)] w fun e w'=>e=.returned (.int .i64 ((m0+10 * n:Nat):Int))∧Grw w w':=by
 have H:Hid (Rw SeR 10 w a (mkSessionL m0 n)):=h
 have hlen:n≤100000000000:=by omega
 clear h
 have hmix:Tryz.prog.follows .mixedOrders=true:=by kernel_rfl
 go_enter Tryz.func57,Tryz.ntmps57
 go_wp2
 go_loopw [1,5] (fun m i wr=>∃ k M:Nat,k≤n∧i=.int .i64 k∧m=.int .i64 (M:Int)∧Hid (M=m0+10 * k)∧Hid (Grw w wr)) (fun _ i _=>n - (intOf i).toNat)
 case atStart=>exact ⟨0,m0,Nat.zero_le _,rfl,rfl,by show m0=_;omega,Grw.refl w⟩
 case round =>
  obtain ⟨k,M,hk,rfl,rfl,hM,HG⟩:=hrel
  by_cases hlt:k<n
  ·obtain ⟨b,off,vs,rfl,hb,hvl,hR,hc⟩:=H.out.at SeR.kp HG.out.below (mkSessionL_at m0 n k hlt)
   rw [← hM.out] at hR
   obtain ⟨rfl,-⟩:=hR
   have hltz:(k:Int)<(n:Int):=by omega
   have hMz:(M:Int)≤200000000000:=by have:=hM.out;omega
   have hM0:0<M:=by have:=hM.out;omega
   have q0:wr.cell? ⟨b,off+k * 10,none⟩=some (.int .i64 ((M:Int))):=hc 0 _ rfl
   have q1:wr.cell? ⟨b,off+k * 10+1,none⟩=some (.int .i64 ((M:Int)+1)):=hc 1 _ rfl
   have q2:wr.cell? ⟨b,off+k * 10+2,none⟩=some (.string (mtS (M+2))):=hc 2 _ rfl
   have q3:wr.cell? ⟨b,off+k * 10+3,none⟩=some (.int .i64 ((M:Int)+1+1+1)):=hc 3 _ rfl
   have q4:wr.cell? ⟨b,off+k * 10+4,none⟩=some (.int .i64 ((M:Int)+1+1+1+1)):=hc 4 _ rfl
   have q5:wr.cell? ⟨b,off+k * 10+5,none⟩=some (.int .i64 ((M:Int)+1+1+1+1+1)):=hc 5 _ rfl
   have q6:wr.cell? ⟨b,off+k * 10+6,none⟩=some (.int .i64 ((M:Int)+1+1+1+1+1+1)):=hc 6 _ rfl
   have q7:wr.cell? ⟨b,off+k * 10+7,none⟩=some (.int .i64 ((M:Int)+1+1+1+1+1+1+1)):=hc 7 _ rfl
   have q8:wr.cell? ⟨b,off+k * 10+8,none⟩=some (.int .i64 ((M:Int)+1+1+1+1+1+1+1+1)):=hc 8 _ rfl
   have q9:wr.cell? ⟨b,off+k * 10+9,none⟩=some (.int .i64 ((M:Int)+1+1+1+1+1+1+1+1+1)):=hc 9 _ rfl
   clear hc hvl
   have e0:(((M:Int)) != ((M:Int)))=false:=by simp
   have e1:(((M:Int)+1) != ((M:Int)+1))=false:=by simp
   have e3:(((M:Int)+1+1+1) != ((M:Int)+1+1+1))=false:=by simp
   have e4:(((M:Int)+1+1+1+1) != ((M:Int)+1+1+1+1))=false:=by simp
   have e5:(((M:Int)+1+1+1+1+1) != ((M:Int)+1+1+1+1+1))=false:=by simp
   have e6:(((M:Int)+1+1+1+1+1+1) != ((M:Int)+1+1+1+1+1+1))=false:=by simp
   have e7:(((M:Int)+1+1+1+1+1+1+1) != ((M:Int)+1+1+1+1+1+1+1))=false:=by simp
   have e8:(((M:Int)+1+1+1+1+1+1+1+1) != ((M:Int)+1+1+1+1+1+1+1+1))=false:=by simp
   have e9:(((M:Int)+1+1+1+1+1+1+1+1+1) != ((M:Int)+1+1+1+1+1+1+1+1+1))=false:=by simp
   have HM2:Hid (∀ w,Calls Tryz.prog 98 #[.int .i64 ((M:Int)+1+1)] w fun e w'=>e=.returned (.string (mtS (M+2)))∧Grw w w'):=fun w=>by
    have:=markText_any (M+2) w (by omega) (by omega)
    rw [show ((M+2:Nat):Int)=(M:Int)+1+1 by omega] at this
    exact this
   generalize mtS (M+2)=T2 at *
   have t2:(T2.toList == T2.toList)=true:=by simp
   have y2:∀ n os,(grow (wr.drewN n) os).cell? ⟨b,off+k * 10+2,none⟩=some (.string T2):=fun n os=>bkeep (Grw.below ⟨n,os,rfl⟩) q2
   go_wp2_with fail
   refine wp_region_quiet_grown (by assumption) (by kernel_rfl) ?_
   repeat (go_big_quiet_step (first | fail | (go_at_call 98;exact Calls.grown_of (HM2.out _))))
   refine wpQuiet_nil ?_
   intro _ hw'
   obtain ⟨⟨nq,osq⟩,hw''⟩:=hw'
   subst hw''
   have HG2:Hid (Grw w (grow (wr.drewN nq) osq)):=HG.out.trans ⟨nq,osq,rfl⟩
   replace q3:(grow (wr.drewN nq) osq).cell? ⟨b,off+k * 10+3,none⟩=some (.int .i64 ((M:Int)+1+1+1)):=bkeep (Grw.below ⟨nq,osq,rfl⟩) q3
   replace q4:(grow (wr.drewN nq) osq).cell? ⟨b,off+k * 10+4,none⟩=some (.int .i64 ((M:Int)+1+1+1+1)):=bkeep (Grw.below ⟨nq,osq,rfl⟩) q4
   replace q5:(grow (wr.drewN nq) osq).cell? ⟨b,off+k * 10+5,none⟩=some (.int .i64 ((M:Int)+1+1+1+1+1)):=bkeep (Grw.below ⟨nq,osq,rfl⟩) q5
   replace q6:(grow (wr.drewN nq) osq).cell? ⟨b,off+k * 10+6,none⟩=some (.int .i64 ((M:Int)+1+1+1+1+1+1)):=bkeep (Grw.below ⟨nq,osq,rfl⟩) q6
   replace q7:(grow (wr.drewN nq) osq).cell? ⟨b,off+k * 10+7,none⟩=some (.int .i64 ((M:Int)+1+1+1+1+1+1+1)):=bkeep (Grw.below ⟨nq,osq,rfl⟩) q7
   replace q8:(grow (wr.drewN nq) osq).cell? ⟨b,off+k * 10+8,none⟩=some (.int .i64 ((M:Int)+1+1+1+1+1+1+1+1)):=bkeep (Grw.below ⟨nq,osq,rfl⟩) q8
   replace q9:(grow (wr.drewN nq) osq).cell? ⟨b,off+k * 10+9,none⟩=some (.int .i64 ((M:Int)+1+1+1+1+1+1+1+1+1)):=bkeep (Grw.below ⟨nq,osq,rfl⟩) q9
   clear y2 q0 q1 q2 HM2
   generalize (grow (wr.drewN nq) osq)=wv2 at *
   go_wp2
   go_roundw
   case rel=>exact ⟨k+1,M+10,by omega,by go_num,by go_num,(show M+10=m0+10 * (k+1) by have:=hM.out;omega),HG2⟩
   case measure=>simp [intOf];omega
  ·obtain rfl:k=n:=by omega
   have hM2:=hM.out
   subst hM2
   go_wp2
   go_ret
   exact ⟨rfl,HG.out⟩
def mkFail (M:Nat):FailV:=⟨mtS M,(M:Int)+1,(M:Int)+1+1⟩
def mkFailL (m0 n:Nat):List FailV:=(List.range n).map (fun k=>mkFail (m0+3 * k))
theorem mkFailL_len (m0 n:Nat):(mkFailL m0 n).length=n:=by simp [mkFailL]
theorem mkFailL_at (m0 n i:Nat) (h:i<n):(mkFailL m0 n)[i]?=some (mkFail (m0+3 * i)):=by rw [mkFailL,List.getElem?_map,List.getElem?_range h];rfl
theorem mkFail_ok (M:Nat) (h:M+3≤1000000000000):FaRok (mkFail M):=by
 unfold FaRok mkFail
 dsimp only
 exact ⟨Nat.le_trans (mtS_len _ (by omega)) (by unfold maxLen;omega),int_wf9 (by omega) (by omega),int_wf9 (by omega) (by omega)⟩
theorem mkFailL_ok (m0 n:Nat) (h:m0+3 * n≤1000000000000):∀ x,x ∈ mkFailL m0 n→FaRok x:=by
 intro x hx
 unfold mkFailL at hx
 simp at hx
 obtain ⟨i,hi,rfl⟩:=hx
 exact mkFail_ok _ (by omega)
def mkFail_0 (x:FailV) (M:Nat):FailV:={ x with mc:=mtS M }
def mkFail_1 (x:FailV) (M:Nat):FailV:={ mkFail_0 x M with ct:=(M:Int)+1 }
def mkFail_2 (x:FailV) (M:Nat):FailV:={ mkFail_1 x M with un:=(M:Int)+1+1 }
set_option maxHeartbeats 4000000 in
theorem markFailS_any (a:Option Addr) (n cap B m0:Nat) (L:List FailV) (w:World) (h:OwnS fvG 3 115 w B (.slice a n cap) L) (h0:0<m0) (hm:m0+3 * n≤100000000000) :
  Calls Tryz.prog 54 #[.slice a n cap,.int .i64 (m0:Int)] w fun e w'=>e=.returned (.int .i64 ((m0+3 * n:Nat):Int))∧OwnS fvG 3 115 w' B (.slice a n cap) (mkFailL m0 n)∧w.grownBy w' (Value.slice a n cap).ownBlock:=by
 have H:Hid (OwnS fvG 3 115 w B (.slice a n cap) L):=h
 have hn:=h.len
 have hlen:n≤100000000000:=by omega
 clear h
 go_enter Tryz.func54,Tryz.ntmps54
 go_wp2
 go_loopw [1,5] (fun m i wr=>∃ (k M:Nat) (L':List FailV),k≤n∧i=.int .i64 k∧m=.int .i64 (M:Int)∧Hid (M=m0+3 * k)∧Hid (OwnS fvG 3 115 wr B (.slice a n cap) L'∧L'.length=n∧L'.take k=(mkFailL m0 n).take k∧w.grownBy wr (Value.slice a n cap).ownBlock)) (fun _ i _=>n - (intOf i).toNat)
 case atStart=>exact ⟨0,m0,L,Nat.zero_le _,rfl,rfl,by show m0=_;omega,H.out,hn,rfl,grown_refl w _⟩
 case round =>
  obtain ⟨k,M,L',hk,rfl,rfl,hM,X⟩:=hrel
  by_cases hlt:k<n
  ·obtain ⟨g,rfl,hBg,hg,-⟩:=X.out.1.form (by rw [X.out.2.1];omega)
   obtain ⟨x,hx⟩:=at_of (k:=k) X.out.2.1 hlt
   have hltz:(k:Int)<(n:Int):=by omega
   have hMz:(M:Int)≤200000000000:=by have:=hM.out;omega
   have hM0:0<M:=by have:=hM.out;omega
   have G0:Hid (w.grownBy wr (some g)):=X.out.2.2.2
   have o0:=X.out.1
   have hT:Hid (L'.length=n∧L'.take k=(mkFailL m0 n).take k):=⟨X.out.2.1,X.out.2.2.1⟩
   clear X
   have HM0:Hid (∀ w,Calls Tryz.prog 98 #[.int .i64 ((M:Int))] w fun e w'=>e=.returned (.string (mtS (M)))∧Grw w w'):=fun w=>by
    have:=markText_any (M) w (by omega) (by omega)
    exact this
   go_wp2_with fail
   refine (HM0.out _).mono ?_
   rintro e wt0 ⟨rfl,gt0⟩
   have ot0:=o0.now gt0.below
   have Gt0:Hid (w.grownBy wt0 (some g)):=grown_tr G0.out (gt0.grown _)
   clear HM0 gt0 o0 G0
   obtain ⟨c0,z0⟩:=ot0.cell fvG_len (j:=0) hx rfl
   replace c0:wt0.cell? ⟨g,k * 3,none⟩=some (.string x.mc):=c0
   replace z0:wt0.frozen? ⟨g,k * 3,none⟩=false:=z0
   obtain ⟨c1,z1⟩:=ot0.cell fvG_len (j:=1) hx rfl
   obtain ⟨c2,z2⟩:=ot0.cell fvG_len (j:=2) hx rfl
   have s0:=ot0.set1 fvG_len (j:=0) (y:=(mkFail_0 x M)) (u:=.string (mtS M)) hx (by omega) rfl
   have hx0:(L'.set k (mkFail_0 x M))[k]?=some (mkFail_0 x M):=List.getElem?_set_self (by rw [hT.out.1];exact hlt)
   have s1:=s0.1.set1 fvG_len (j:=1) (y:=(mkFail_1 x M)) (u:=.int .i64 ((M:Int)+1)) hx0 (by omega) rfl
   rw [List.set_set] at s1
   have hx1:(L'.set k (mkFail_1 x M))[k]?=some (mkFail_1 x M):=List.getElem?_set_self (by rw [hT.out.1];exact hlt)
   have s2:=s1.1.set1 fvG_len (j:=2) (y:=(mkFail_2 x M)) (u:=.int .i64 ((M:Int)+1+1)) hx1 (by omega) rfl
   rw [List.set_set] at s2
   have hx2:(L'.set k (mkFail_2 x M))[k]?=some (mkFail_2 x M):=List.getElem?_set_self (by rw [hT.out.1];exact hlt)
   have Z0:Hid (OwnS fvG 3 115 (((wt0.setCell ⟨g,k * 3,none⟩ (.string (mtS M))).setCell ⟨g,k * 3+1,none⟩ (.int .i64 ((M:Int)+1))).setCell ⟨g,k * 3+2,none⟩ (.int .i64 ((M:Int)+1+1))) B (.slice (some ⟨g,0,none⟩) n cap) (L'.set k (mkFail_2 x M))∧w.grownBy (((wt0.setCell ⟨g,k * 3,none⟩ (.string (mtS M))).setCell ⟨g,k * 3+1,none⟩ (.int .i64 ((M:Int)+1))).setCell ⟨g,k * 3+2,none⟩ (.int .i64 ((M:Int)+1+1))) (some g)):=⟨s2.1,(grown_tr (grown_tr (grown_tr Gt0.out s0.2) s1.2) s2.2)⟩
   have hy0:Hid ((L'.set k (mkFail_2 x M))[k]?=some (mkFail_2 x M)):=hx2
   clear ot0 Gt0 s0 hx0 s1 hx1 s2 hx2 hx
   have eFail:(mkFail_2 x M)=mkFail M:=rfl
   rw [eFail] at Z0
   have YY:Hid (OwnS fvG 3 115 (((wt0.setCell ⟨g,k * 3,none⟩ (.string (mtS M))).setCell ⟨g,k * 3+1,none⟩ (.int .i64 ((M:Int)+1))).setCell ⟨g,k * 3+2,none⟩ (.int .i64 ((M:Int)+1+1))) B (.slice (some ⟨g,0,none⟩) n cap) (L'.set k (mkFail M))∧(L'.set k (mkFail M)).length=n∧(L'.set k (mkFail M)).take (k+1)=(mkFailL m0 n).take (k+1)∧w.grownBy (((wt0.setCell ⟨g,k * 3,none⟩ (.string (mtS M))).setCell ⟨g,k * 3+1,none⟩ (.int .i64 ((M:Int)+1))).setCell ⟨g,k * 3+2,none⟩ (.int .i64 ((M:Int)+1+1))) (some g)):=⟨Z0.out.1,by rw [List.length_set];exact hT.out.1,takeS_set (by rw [hT.out.1,mkFailL_len]) (by rw [mkFailL_at m0 n k hlt,hM.out]) hT.out.2,Z0.out.2⟩
   clear Z0 hT hy0
   go_wp2
   go_roundw
   case rel=>exact ⟨k+1,M+3,_,by omega,by go_num,by go_num,(show M+3=m0+3 * (k+1) by have:=hM.out;omega),YY⟩
   case measure=>simp [intOf];omega
  ·obtain rfl:k=n:=by omega
   have e1:L'=mkFailL m0 k:=by
    have:=X.out.2.2.1
    rwa [List.take_of_length_le (by rw [X.out.2.1];exact Nat.le_refl _),List.take_of_length_le (by rw [mkFailL_len];exact Nat.le_refl _)] at this
   subst e1
   have hM2:=hM.out
   subst hM2
   go_wp2
   go_ret
   exact ⟨rfl,X.out.1,X.out.2.2.2⟩
set_option maxHeartbeats 4000000 in
theorem heldFailS_any (a:Option Addr) (n cap m0:Nat) (w:World) (h:Rw FaR 3 w a (mkFailL m0 n)) (h0:0<m0) (hm:m0+3 * n≤100000000000) :
  Calls Tryz.prog 58 #[.slice a n cap,.int .i64 (m0:Int)] w fun e w'=>e=.returned (.int .i64 ((m0+3 * n:Nat):Int))∧Grw w w':=by
 have H:Hid (Rw FaR 3 w a (mkFailL m0 n)):=h
 have hlen:n≤100000000000:=by omega
 clear h
 have hmix:Tryz.prog.follows .mixedOrders=true:=by kernel_rfl
 go_enter Tryz.func58,Tryz.ntmps58
 go_wp2
 go_loopw [1,5] (fun m i wr=>∃ k M:Nat,k≤n∧i=.int .i64 k∧m=.int .i64 (M:Int)∧Hid (M=m0+3 * k)∧Hid (Grw w wr)) (fun _ i _=>n - (intOf i).toNat)
 case atStart=>exact ⟨0,m0,Nat.zero_le _,rfl,rfl,by show m0=_;omega,Grw.refl w⟩
 case round =>
  obtain ⟨k,M,hk,rfl,rfl,hM,HG⟩:=hrel
  by_cases hlt:k<n
  ·obtain ⟨b,off,vs,rfl,hb,hvl,hR,hc⟩:=H.out.at FaR.kp HG.out.below (mkFailL_at m0 n k hlt)
   rw [← hM.out] at hR
   obtain ⟨rfl,-⟩:=hR
   have hltz:(k:Int)<(n:Int):=by omega
   have hMz:(M:Int)≤200000000000:=by have:=hM.out;omega
   have hM0:0<M:=by have:=hM.out;omega
   have q0:wr.cell? ⟨b,off+k * 3,none⟩=some (.string (mtS M)):=hc 0 _ rfl
   have q1:wr.cell? ⟨b,off+k * 3+1,none⟩=some (.int .i64 ((M:Int)+1)):=hc 1 _ rfl
   have q2:wr.cell? ⟨b,off+k * 3+2,none⟩=some (.int .i64 ((M:Int)+1+1)):=hc 2 _ rfl
   clear hc hvl
   have e1:(((M:Int)+1) != ((M:Int)+1))=false:=by simp
   have e2:(((M:Int)+1+1) != ((M:Int)+1+1))=false:=by simp
   have HM0:Hid (∀ w,Calls Tryz.prog 98 #[.int .i64 ((M:Int))] w fun e w'=>e=.returned (.string (mtS (M)))∧Grw w w'):=fun w=>by
    have:=markText_any (M) w (by omega) (by omega)
    exact this
   generalize mtS (M)=T0 at *
   have t0:(T0.toList == T0.toList)=true:=by simp
   have y0:∀ n os,(grow (wr.drewN n) os).cell? ⟨b,off+k * 3,none⟩=some (.string T0):=fun n os=>bkeep (Grw.below ⟨n,os,rfl⟩) q0
   go_wp2_with fail
   refine wp_region_quiet_grown (by assumption) (by kernel_rfl) ?_
   repeat (go_big_quiet_step (first | fail | (go_at_call 98;exact Calls.grown_of (HM0.out _))))
   refine wpQuiet_nil ?_
   intro _ hw'
   obtain ⟨⟨nq,osq⟩,hw''⟩:=hw'
   subst hw''
   have HG0:Hid (Grw w (grow (wr.drewN nq) osq)):=HG.out.trans ⟨nq,osq,rfl⟩
   replace q1:(grow (wr.drewN nq) osq).cell? ⟨b,off+k * 3+1,none⟩=some (.int .i64 ((M:Int)+1)):=bkeep (Grw.below ⟨nq,osq,rfl⟩) q1
   replace q2:(grow (wr.drewN nq) osq).cell? ⟨b,off+k * 3+2,none⟩=some (.int .i64 ((M:Int)+1+1)):=bkeep (Grw.below ⟨nq,osq,rfl⟩) q2
   clear y0 q0 HM0
   generalize (grow (wr.drewN nq) osq)=wv0 at *
   go_wp2
   go_roundw
   case rel=>exact ⟨k+1,M+3,by omega,by go_num,by go_num,(show M+3=m0+3 * (k+1) by have:=hM.out;omega),HG0⟩
   case measure=>simp [intOf];omega
  ·obtain rfl:k=n:=by omega
   have hM2:=hM.out
   subst hM2
   go_wp2
   go_ret
   exact ⟨rfl,HG.out⟩
def mkRecord (M:Nat):RecV:=⟨(M:Int),(M:Int)+1,(M:Int)+1+1,(M:Int)+1+1+1,(((M:Int)+1+1+1+1) % 3 == 0)⟩
def mkRecordL (m0 n:Nat):List RecV:=(List.range n).map (fun k=>mkRecord (m0+5 * k))
theorem mkRecordL_len (m0 n:Nat):(mkRecordL m0 n).length=n:=by simp [mkRecordL]
theorem mkRecordL_at (m0 n i:Nat) (h:i<n):(mkRecordL m0 n)[i]?=some (mkRecord (m0+5 * i)):=by rw [mkRecordL,List.getElem?_map,List.getElem?_range h];rfl
theorem mkRecord_ok (M:Nat) (h:M+5≤1000000000000):ReRok (mkRecord M):=by
 unfold ReRok mkRecord
 dsimp only
 exact ⟨int_wf9 (by omega) (by omega),int_wf9 (by omega) (by omega),int_wf9 (by omega) (by omega),int_wf9 (by omega) (by omega)⟩
theorem mkRecordL_ok (m0 n:Nat) (h:m0+5 * n≤1000000000000):∀ x,x ∈ mkRecordL m0 n→ReRok x:=by
 intro x hx
 unfold mkRecordL at hx
 simp at hx
 obtain ⟨i,hi,rfl⟩:=hx
 exact mkRecord_ok _ (by omega)
def mkRecord_0 (x:RecV) (M:Nat):RecV:={ x with id:=(M:Int) }
def mkRecord_1 (x:RecV) (M:Nat):RecV:={ mkRecord_0 x M with tm:=(M:Int)+1 }
def mkRecord_2 (x:RecV) (M:Nat):RecV:={ mkRecord_1 x M with ca:=(M:Int)+1+1 }
def mkRecord_3 (x:RecV) (M:Nat):RecV:={ mkRecord_2 x M with bt:=(M:Int)+1+1+1 }
def mkRecord_4 (x:RecV) (M:Nat):RecV:={ mkRecord_3 x M with st:=(((M:Int)+1+1+1+1) % 3 == 0) }
set_option maxHeartbeats 4000000 in
theorem markRecordS_any (a:Option Addr) (n cap B m0:Nat) (L:List RecV) (w:World) (h:OwnS evG 5 86 w B (.slice a n cap) L) (h0:0<m0) (hm:m0+5 * n≤100000000000) :
  Calls Tryz.prog 55 #[.slice a n cap,.int .i64 (m0:Int)] w fun e w'=>e=.returned (.int .i64 ((m0+5 * n:Nat):Int))∧OwnS evG 5 86 w' B (.slice a n cap) (mkRecordL m0 n)∧w.grownBy w' (Value.slice a n cap).ownBlock:=by
 have H:Hid (OwnS evG 5 86 w B (.slice a n cap) L):=h
 have hn:=h.len
 have hlen:n≤100000000000:=by omega
 clear h
 go_enter Tryz.func55,Tryz.ntmps55
 go_wp2
 go_loopw [1,5] (fun m i wr=>∃ (k M:Nat) (L':List RecV),k≤n∧i=.int .i64 k∧m=.int .i64 (M:Int)∧Hid (M=m0+5 * k)∧Hid (OwnS evG 5 86 wr B (.slice a n cap) L'∧L'.length=n∧L'.take k=(mkRecordL m0 n).take k∧w.grownBy wr (Value.slice a n cap).ownBlock)) (fun _ i _=>n - (intOf i).toNat)
 case atStart=>exact ⟨0,m0,L,Nat.zero_le _,rfl,rfl,by show m0=_;omega,H.out,hn,rfl,grown_refl w _⟩
 case round =>
  obtain ⟨k,M,L',hk,rfl,rfl,hM,X⟩:=hrel
  by_cases hlt:k<n
  ·obtain ⟨g,rfl,hBg,hg,-⟩:=X.out.1.form (by rw [X.out.2.1];omega)
   obtain ⟨x,hx⟩:=at_of (k:=k) X.out.2.1 hlt
   have hltz:(k:Int)<(n:Int):=by omega
   have hMz:(M:Int)≤200000000000:=by have:=hM.out;omega
   have hM0:0<M:=by have:=hM.out;omega
   have G0:Hid (w.grownBy wr (some g)):=X.out.2.2.2
   have o0:=X.out.1
   have hT:Hid (L'.length=n∧L'.take k=(mkRecordL m0 n).take k):=⟨X.out.2.1,X.out.2.2.1⟩
   clear X
   obtain ⟨c0,z0⟩:=o0.cell evG_len (j:=0) hx rfl
   replace c0:wr.cell? ⟨g,k * 5,none⟩=some (.int .i64 x.id):=c0
   replace z0:wr.frozen? ⟨g,k * 5,none⟩=false:=z0
   obtain ⟨c1,z1⟩:=o0.cell evG_len (j:=1) hx rfl
   obtain ⟨c2,z2⟩:=o0.cell evG_len (j:=2) hx rfl
   obtain ⟨c3,z3⟩:=o0.cell evG_len (j:=3) hx rfl
   obtain ⟨c4,z4⟩:=o0.cell evG_len (j:=4) hx rfl
   have s0:=o0.set1 evG_len (j:=0) (y:=(mkRecord_0 x M)) (u:=.int .i64 ((M:Int))) hx (by omega) rfl
   have hx0:(L'.set k (mkRecord_0 x M))[k]?=some (mkRecord_0 x M):=List.getElem?_set_self (by rw [hT.out.1];exact hlt)
   have s1:=s0.1.set1 evG_len (j:=1) (y:=(mkRecord_1 x M)) (u:=.int .i64 ((M:Int)+1)) hx0 (by omega) rfl
   rw [List.set_set] at s1
   have hx1:(L'.set k (mkRecord_1 x M))[k]?=some (mkRecord_1 x M):=List.getElem?_set_self (by rw [hT.out.1];exact hlt)
   have s2:=s1.1.set1 evG_len (j:=2) (y:=(mkRecord_2 x M)) (u:=.int .i64 ((M:Int)+1+1)) hx1 (by omega) rfl
   rw [List.set_set] at s2
   have hx2:(L'.set k (mkRecord_2 x M))[k]?=some (mkRecord_2 x M):=List.getElem?_set_self (by rw [hT.out.1];exact hlt)
   have s3:=s2.1.set1 evG_len (j:=3) (y:=(mkRecord_3 x M)) (u:=.int .i64 ((M:Int)+1+1+1)) hx2 (by omega) rfl
   rw [List.set_set] at s3
   have hx3:(L'.set k (mkRecord_3 x M))[k]?=some (mkRecord_3 x M):=List.getElem?_set_self (by rw [hT.out.1];exact hlt)
   have s4:=s3.1.set1 evG_len (j:=4) (y:=(mkRecord_4 x M)) (u:=.bool (((M:Int)+1+1+1+1) % 3 == 0)) hx3 (by omega) rfl
   rw [List.set_set] at s4
   have hx4:(L'.set k (mkRecord_4 x M))[k]?=some (mkRecord_4 x M):=List.getElem?_set_self (by rw [hT.out.1];exact hlt)
   have Z0:Hid (OwnS evG 5 86 (((((wr.setCell ⟨g,k * 5,none⟩ (.int .i64 ((M:Int)))).setCell ⟨g,k * 5+1,none⟩ (.int .i64 ((M:Int)+1))).setCell ⟨g,k * 5+2,none⟩ (.int .i64 ((M:Int)+1+1))).setCell ⟨g,k * 5+3,none⟩ (.int .i64 ((M:Int)+1+1+1))).setCell ⟨g,k * 5+4,none⟩ (.bool (((M:Int)+1+1+1+1) % 3 == 0))) B (.slice (some ⟨g,0,none⟩) n cap) (L'.set k (mkRecord_4 x M))∧w.grownBy (((((wr.setCell ⟨g,k * 5,none⟩ (.int .i64 ((M:Int)))).setCell ⟨g,k * 5+1,none⟩ (.int .i64 ((M:Int)+1))).setCell ⟨g,k * 5+2,none⟩ (.int .i64 ((M:Int)+1+1))).setCell ⟨g,k * 5+3,none⟩ (.int .i64 ((M:Int)+1+1+1))).setCell ⟨g,k * 5+4,none⟩ (.bool (((M:Int)+1+1+1+1) % 3 == 0))) (some g)):=⟨s4.1,(grown_tr (grown_tr (grown_tr (grown_tr (grown_tr G0.out s0.2) s1.2) s2.2) s3.2) s4.2)⟩
   have hy0:Hid ((L'.set k (mkRecord_4 x M))[k]?=some (mkRecord_4 x M)):=hx4
   clear o0 G0 s0 hx0 s1 hx1 s2 hx2 s3 hx3 s4 hx4 hx
   have eRecord:(mkRecord_4 x M)=mkRecord M:=rfl
   rw [eRecord] at Z0
   have YY:Hid (OwnS evG 5 86 (((((wr.setCell ⟨g,k * 5,none⟩ (.int .i64 ((M:Int)))).setCell ⟨g,k * 5+1,none⟩ (.int .i64 ((M:Int)+1))).setCell ⟨g,k * 5+2,none⟩ (.int .i64 ((M:Int)+1+1))).setCell ⟨g,k * 5+3,none⟩ (.int .i64 ((M:Int)+1+1+1))).setCell ⟨g,k * 5+4,none⟩ (.bool (((M:Int)+1+1+1+1) % 3 == 0))) B (.slice (some ⟨g,0,none⟩) n cap) (L'.set k (mkRecord M))∧(L'.set k (mkRecord M)).length=n∧(L'.set k (mkRecord M)).take (k+1)=(mkRecordL m0 n).take (k+1)∧w.grownBy (((((wr.setCell ⟨g,k * 5,none⟩ (.int .i64 ((M:Int)))).setCell ⟨g,k * 5+1,none⟩ (.int .i64 ((M:Int)+1))).setCell ⟨g,k * 5+2,none⟩ (.int .i64 ((M:Int)+1+1))).setCell ⟨g,k * 5+3,none⟩ (.int .i64 ((M:Int)+1+1+1))).setCell ⟨g,k * 5+4,none⟩ (.bool (((M:Int)+1+1+1+1) % 3 == 0))) (some g)):=⟨Z0.out.1,by rw [List.length_set];exact hT.out.1,takeS_set (by rw [hT.out.1,mkRecordL_len]) (by rw [mkRecordL_at m0 n k hlt,hM.out]) hT.out.2,Z0.out.2⟩
   clear Z0 hT hy0
   go_wp2
   go_roundw
   case rel=>exact ⟨k+1,M+5,_,by omega,by go_num,by go_num,(show M+5=m0+5 * (k+1) by have:=hM.out;omega),YY⟩
   case measure=>simp [intOf];omega
  ·obtain rfl:k=n:=by omega
   have e1:L'=mkRecordL m0 k:=by
    have:=X.out.2.2.1
    rwa [List.take_of_length_le (by rw [X.out.2.1];exact Nat.le_refl _),List.take_of_length_le (by rw [mkRecordL_len];exact Nat.le_refl _)] at this
   subst e1
   have hM2:=hM.out
   subst hM2
   go_wp2
   go_ret
   exact ⟨rfl,X.out.1,X.out.2.2.2⟩
set_option maxHeartbeats 4000000 in
theorem heldRecordS_any (a:Option Addr) (n cap m0:Nat) (w:World) (h:Rw ReR 5 w a (mkRecordL m0 n)) (h0:0<m0) (hm:m0+5 * n≤100000000000) :
  Calls Tryz.prog 59 #[.slice a n cap,.int .i64 (m0:Int)] w fun e w'=>e=.returned (.int .i64 ((m0+5 * n:Nat):Int))∧Grw w w':=by
 have H:Hid (Rw ReR 5 w a (mkRecordL m0 n)):=h
 have hlen:n≤100000000000:=by omega
 clear h
 have hmix:Tryz.prog.follows .mixedOrders=true:=by kernel_rfl
 go_enter Tryz.func59,Tryz.ntmps59
 go_wp2
 go_loopw [1,5] (fun m i wr=>∃ k M:Nat,k≤n∧i=.int .i64 k∧m=.int .i64 (M:Int)∧Hid (M=m0+5 * k)∧Hid (Grw w wr)) (fun _ i _=>n - (intOf i).toNat)
 case atStart=>exact ⟨0,m0,Nat.zero_le _,rfl,rfl,by show m0=_;omega,Grw.refl w⟩
 case round =>
  obtain ⟨k,M,hk,rfl,rfl,hM,HG⟩:=hrel
  by_cases hlt:k<n
  ·obtain ⟨b,off,vs,rfl,hb,hvl,hR,hc⟩:=H.out.at ReR.kp HG.out.below (mkRecordL_at m0 n k hlt)
   rw [← hM.out] at hR
   obtain ⟨rfl,-⟩:=hR
   have hltz:(k:Int)<(n:Int):=by omega
   have hMz:(M:Int)≤200000000000:=by have:=hM.out;omega
   have hM0:0<M:=by have:=hM.out;omega
   have q0:wr.cell? ⟨b,off+k * 5,none⟩=some (.int .i64 ((M:Int))):=hc 0 _ rfl
   have q1:wr.cell? ⟨b,off+k * 5+1,none⟩=some (.int .i64 ((M:Int)+1)):=hc 1 _ rfl
   have q2:wr.cell? ⟨b,off+k * 5+2,none⟩=some (.int .i64 ((M:Int)+1+1)):=hc 2 _ rfl
   have q3:wr.cell? ⟨b,off+k * 5+3,none⟩=some (.int .i64 ((M:Int)+1+1+1)):=hc 3 _ rfl
   have q4:wr.cell? ⟨b,off+k * 5+4,none⟩=some (.bool (((M:Int)+1+1+1+1) % 3 == 0)):=hc 4 _ rfl
   clear hc hvl
   have e0:(((M:Int)) != ((M:Int)))=false:=by simp
   have e1:(((M:Int)+1) != ((M:Int)+1))=false:=by simp
   have e2:(((M:Int)+1+1) != ((M:Int)+1+1))=false:=by simp
   have e3:(((M:Int)+1+1+1) != ((M:Int)+1+1+1))=false:=by simp
   have e4:((((M:Int)+1+1+1+1) % 3 == 0) != (((M:Int)+1+1+1+1) % 3 == 0))=false:=by simp
   go_wp2
   go_roundw
   case rel=>exact ⟨k+1,M+5,by omega,by go_num,by go_num,(show M+5=m0+5 * (k+1) by have:=hM.out;omega),HG⟩
   case measure=>simp [intOf];omega
  ·obtain rfl:k=n:=by omega
   have hM2:=hM.out
   subst hM2
   go_wp2
   go_ret
   exact ⟨rfl,HG.out⟩
theorem zUser:#[.string ⟨#[]⟩,.string ⟨#[]⟩,.string ⟨#[]⟩,.string ⟨#[]⟩,.int .i64 0,.int .i64 0].toList=uvG default:=rfl
set_option maxHeartbeats 4000000 in
theorem toUserS_own (a:Option Addr) (len cap:Nat) (xs:List UserV) (w:World) (h:Rw UsR 6 w a xs) (hl:xs.length=len) (hc:len≤1048576) :
  Calls Tryz.prog 30 #[.slice a len cap] w fun e w'=>e=.returned (.slice (some ⟨w.heap.size,0,none⟩) len len)∧OwnS uvG 6 84 w' w.heap.size (.slice (some ⟨w.heap.size,0,none⟩) len len) xs∧(∀ x,x ∈ xs→UsRok x)∧Below w.heap.size w w':=by
 have RW:Hid (Rw UsR 6 w a xs):=h
 have HK:Hid (∀ x,x ∈ xs→UsRok x):=by
  intro x hx
  obtain ⟨i,hi⟩:=List.getElem?_of_mem hx
  obtain ⟨b,off,vs,_,_,_,h2,_⟩:=h.at UsR.kp (Below.refl _ _) hi
  exact h2.2
 clear h
 obtain ⟨i0,hi,hz0,hz1,hz2⟩:=info_parts infoUser
 have hmk:=run_make (P:=Tryz.prog) w 36 84 i0 (.agg #[.string ⟨#[]⟩,.string ⟨#[]⟩,.string ⟨#[]⟩,.string ⟨#[]⟩,.int .i64 0,.int .i64 0]) Tryz.underlying36 hi hz0 .i64 .i64 len len (by omega) (Int.le_refl _) (by rw [hz2];omega) (by omega)
 rw [hz1,Int.toNat_natCast] at hmk
 have HM:Hid (OwnS uvG 6 84 (w.alloc (.cells (madeCells #[.string ⟨#[]⟩,.string ⟨#[]⟩,.string ⟨#[]⟩,.string ⟨#[]⟩,.int .i64 0,.int .i64 0] (len * 6)) 84)) w.heap.size (.slice (some ⟨w.heap.size,0,none⟩) len len) (List.replicate len default)∧Below w.heap.size w (w.alloc (.cells (madeCells #[.string ⟨#[]⟩,.string ⟨#[]⟩,.string ⟨#[]⟩,.string ⟨#[]⟩,.int .i64 0,.int .i64 0] (len * 6)) 84))):=⟨OwnS.made w _ _ len default _ zUser rfl (by omega) (Nat.le_refl _) (by unfold maxLen;omega),(Below.refl _ _).alloc (Nat.le_refl _) _⟩
 have hmk2:(Instr.makeSlice 36 (.int .i64 (len:Int)) (.int .i64 (len:Int))).run Tryz.prog w=.ok (.slice (some ⟨w.heap.size,0,none⟩) len len) (w.alloc (.cells (madeCells #[.string ⟨#[]⟩,.string ⟨#[]⟩,.string ⟨#[]⟩,.string ⟨#[]⟩,.int .i64 0,.int .i64 0] (len * 6)) 84)):=hmk
 clear hmk hi hz0 hz1 hz2
 obtain ⟨W,hW⟩:∃ W,W=(w.alloc (.cells (madeCells #[.string ⟨#[]⟩,.string ⟨#[]⟩,.string ⟨#[]⟩,.string ⟨#[]⟩,.int .i64 0,.int .i64 0] (len * 6)) 84)):=⟨_,rfl⟩
 rw [← hW] at HM hmk2
 clear hW
 go_enter Tryz.func30,Tryz.ntmps30
 go_wp2
 go_loopw [4] (fun i wr=>∃ (k:Nat) (L:List UserV),k≤len∧i=.int .i64 k∧Hid (OwnS uvG 6 84 wr w.heap.size (.slice (some ⟨w.heap.size,0,none⟩) len len) L∧L.length=len∧L.take k=xs.take k∧Below w.heap.size w wr)) (fun i _=>len - (intOf i).toNat)
 case atStart=>exact ⟨0,_,Nat.zero_le _,rfl,HM.out.1,List.length_replicate ..,rfl,HM.out.2⟩
 case round =>
  obtain ⟨k,L,hk,rfl,X⟩:=hrel
  by_cases hlt:k<len
  ·obtain ⟨x,hx⟩:=at_of hl hlt
   obtain ⟨b,off,vs,rfl,hb,hvl,hR,hc⟩:=RW.out.at UsR.kp X.out.2.2.2 hx
   have TS:Hid ((L.set k x).take (k+1)=xs.take (k+1)):=takeS_set (by rw [X.out.2.1,hl]) hx X.out.2.2.1
   obtain ⟨nm,sa,ha,ro,bl,lg⟩:=x
   obtain ⟨rfl,hok⟩:=hR
   clear hok
   have q0:wr.cell? ⟨b,off+k * 6,none⟩=some (.string nm):=hc 0 _ rfl
   have q1:wr.cell? ⟨b,off+k * 6+1,none⟩=some (.string sa):=hc 1 _ rfl
   have q2:wr.cell? ⟨b,off+k * 6+2,none⟩=some (.string ha):=hc 2 _ rfl
   have q3:wr.cell? ⟨b,off+k * 6+3,none⟩=some (.string ro):=hc 3 _ rfl
   have q4:wr.cell? ⟨b,off+k * 6+4,none⟩=some (.int .i64 bl):=hc 4 _ rfl
   have q5:wr.cell? ⟨b,off+k * 6+5,none⟩=some (.int .i64 lg):=hc 5 _ rfl
   have HT:Hid (∀ w,Calls Tryz.prog 73 #[.agg #[.string nm,.string sa,.string ha,.string ro,.int .i64 bl,.int .i64 lg]] w fun e w'=>e=.returned (.agg #[.string nm,.string sa,.string ha,.string ro,.int .i64 bl,.int .i64 lg])∧Below w.heap.size w w'):=fun w=>toUser_any nm sa ha ro bl lg w
   have hltz:(k:Int)<(len:Int):=by omega
   clear hc
   go_wp2_with fail
   refine (HT.out _).mono ?_
   rintro e w1 ⟨rfl,b1⟩
   have o1:=X.out.1.now b1
   obtain ⟨y,hy⟩:=at_of (k:=k) X.out.2.1 hlt
   obtain ⟨c0,z0⟩:=o1.cell uvG_len (j:=0) hy rfl
   obtain ⟨c1,z1⟩:=o1.cell uvG_len (j:=1) hy rfl
   obtain ⟨c2,z2⟩:=o1.cell uvG_len (j:=2) hy rfl
   obtain ⟨c3,z3⟩:=o1.cell uvG_len (j:=3) hy rfl
   obtain ⟨c4,z4⟩:=o1.cell uvG_len (j:=4) hy rfl
   obtain ⟨c5,z5⟩:=o1.cell uvG_len (j:=5) hy rfl
   replace c0:w1.cell? ⟨w.heap.size,k * 6,none⟩=some (.string y.nm):=c0
   replace z0:w1.frozen? ⟨w.heap.size,k * 6,none⟩=false:=z0
   have Y0:∀ W1,W1=((((((w1.setCell ⟨w.heap.size,k * 6,none⟩ (.string nm)).setCell ⟨w.heap.size,k * 6+1,none⟩ (.string sa)).setCell ⟨w.heap.size,k * 6+2,none⟩ (.string ha)).setCell ⟨w.heap.size,k * 6+3,none⟩ (.string ro)).setCell ⟨w.heap.size,k * 6+4,none⟩ (.int .i64 bl)).setCell ⟨w.heap.size,k * 6+5,none⟩ (.int .i64 lg))→OwnS uvG 6 84 W1 w.heap.size (.slice (some ⟨w.heap.size,0,none⟩) len len) (L.set k ⟨nm,sa,ha,ro,bl,lg⟩)∧(L.set k ⟨nm,sa,ha,ro,bl,lg⟩).length=len∧(L.set k ⟨nm,sa,ha,ro,bl,lg⟩).take (k+1)=xs.take (k+1)∧Below w.heap.size w W1:=by
    intro W1 hW1
    have h2:=o1.store uvG_len hlt ⟨nm,sa,ha,ro,bl,lg⟩
    have e3:W1=wsets w1 w.heap.size (k * 6) (uvG ⟨nm,sa,ha,ro,bl,lg⟩):=hW1
    rw [← e3] at h2
    exact ⟨h2.1,by rw [List.length_set];exact X.out.2.1,TS.out,(X.out.2.2.2.trans (b1.mono X.out.2.2.2.size)).trans (below_row h2.2 (Nat.le_refl _) (Nat.le_trans X.out.2.2.2.size b1.size))⟩
   have Y:Hid (OwnS uvG 6 84 ((((((w1.setCell ⟨w.heap.size,k * 6,none⟩ (.string nm)).setCell ⟨w.heap.size,k * 6+1,none⟩ (.string sa)).setCell ⟨w.heap.size,k * 6+2,none⟩ (.string ha)).setCell ⟨w.heap.size,k * 6+3,none⟩ (.string ro)).setCell ⟨w.heap.size,k * 6+4,none⟩ (.int .i64 bl)).setCell ⟨w.heap.size,k * 6+5,none⟩ (.int .i64 lg)) w.heap.size (.slice (some ⟨w.heap.size,0,none⟩) len len) (L.set k ⟨nm,sa,ha,ro,bl,lg⟩)∧(L.set k ⟨nm,sa,ha,ro,bl,lg⟩).length=len∧(L.set k ⟨nm,sa,ha,ro,bl,lg⟩).take (k+1)=xs.take (k+1)∧Below w.heap.size w ((((((w1.setCell ⟨w.heap.size,k * 6,none⟩ (.string nm)).setCell ⟨w.heap.size,k * 6+1,none⟩ (.string sa)).setCell ⟨w.heap.size,k * 6+2,none⟩ (.string ha)).setCell ⟨w.heap.size,k * 6+3,none⟩ (.string ro)).setCell ⟨w.heap.size,k * 6+4,none⟩ (.int .i64 bl)).setCell ⟨w.heap.size,k * 6+5,none⟩ (.int .i64 lg))):=Y0 _ rfl
   clear Y0
   clear o1 b1 q0 q1 q2 q3 q4 q5 HT X HM hmk2 hx hy TS
   go_wp2
   go_roundw
   case rel=>exact ⟨k+1,_,by omega,by go_num,Y⟩
   case measure=>simp [intOf];omega
  ·obtain rfl:k=len:=by omega
   have e1:L=xs:=by
    have:=X.out.2.2.1
    rw [List.take_of_length_le (by rw [X.out.2.1];exact Nat.le_refl _),List.take_of_length_le (by omega)] at this
    exact this
   subst e1
   go_wp2
   go_ret
   exact ⟨rfl,X.out.1,HK.out,X.out.2.2.2⟩
theorem zSession:#[.int .i64 0,.int .i64 0,.string ⟨#[]⟩,.int .i64 0,.int .i64 0,.int .i64 0,.int .i64 0,.int .i64 0,.int .i64 0,.int .i64 0].toList=svG default:=rfl
set_option maxHeartbeats 4000000 in
theorem toSessionS_own (a:Option Addr) (len cap:Nat) (xs:List SessV) (w:World) (h:Rw SeR 10 w a xs) (hl:xs.length=len) (hc:len≤1048576) :
  Calls Tryz.prog 31 #[.slice a len cap] w fun e w'=>e=.returned (.slice (some ⟨w.heap.size,0,none⟩) len len)∧OwnS svG 10 80 w' w.heap.size (.slice (some ⟨w.heap.size,0,none⟩) len len) xs∧(∀ x,x ∈ xs→SeRok x)∧Below w.heap.size w w':=by
 have RW:Hid (Rw SeR 10 w a xs):=h
 have HK:Hid (∀ x,x ∈ xs→SeRok x):=by
  intro x hx
  obtain ⟨i,hi⟩:=List.getElem?_of_mem hx
  obtain ⟨b,off,vs,_,_,_,h2,_⟩:=h.at SeR.kp (Below.refl _ _) hi
  exact h2.2
 clear h
 obtain ⟨i0,hi,hz0,hz1,hz2⟩:=info_parts infoSession
 have hmk:=run_make (P:=Tryz.prog) w 37 80 i0 (.agg #[.int .i64 0,.int .i64 0,.string ⟨#[]⟩,.int .i64 0,.int .i64 0,.int .i64 0,.int .i64 0,.int .i64 0,.int .i64 0,.int .i64 0]) Tryz.underlying37 hi hz0 .i64 .i64 len len (by omega) (Int.le_refl _) (by rw [hz2];omega) (by omega)
 rw [hz1,Int.toNat_natCast] at hmk
 have HM:Hid (OwnS svG 10 80 (w.alloc (.cells (madeCells #[.int .i64 0,.int .i64 0,.string ⟨#[]⟩,.int .i64 0,.int .i64 0,.int .i64 0,.int .i64 0,.int .i64 0,.int .i64 0,.int .i64 0] (len * 10)) 80)) w.heap.size (.slice (some ⟨w.heap.size,0,none⟩) len len) (List.replicate len default)∧Below w.heap.size w (w.alloc (.cells (madeCells #[.int .i64 0,.int .i64 0,.string ⟨#[]⟩,.int .i64 0,.int .i64 0,.int .i64 0,.int .i64 0,.int .i64 0,.int .i64 0,.int .i64 0] (len * 10)) 80))):=⟨OwnS.made w _ _ len default _ zSession rfl (by omega) (Nat.le_refl _) (by unfold maxLen;omega),(Below.refl _ _).alloc (Nat.le_refl _) _⟩
 have hmk2:(Instr.makeSlice 37 (.int .i64 (len:Int)) (.int .i64 (len:Int))).run Tryz.prog w=.ok (.slice (some ⟨w.heap.size,0,none⟩) len len) (w.alloc (.cells (madeCells #[.int .i64 0,.int .i64 0,.string ⟨#[]⟩,.int .i64 0,.int .i64 0,.int .i64 0,.int .i64 0,.int .i64 0,.int .i64 0,.int .i64 0] (len * 10)) 80)):=hmk
 clear hmk hi hz0 hz1 hz2
 obtain ⟨W,hW⟩:∃ W,W=(w.alloc (.cells (madeCells #[.int .i64 0,.int .i64 0,.string ⟨#[]⟩,.int .i64 0,.int .i64 0,.int .i64 0,.int .i64 0,.int .i64 0,.int .i64 0,.int .i64 0] (len * 10)) 80)):=⟨_,rfl⟩
 rw [← hW] at HM hmk2
 clear hW
 go_enter Tryz.func31,Tryz.ntmps31
 go_wp2
 go_loopw [4] (fun i wr=>∃ (k:Nat) (L:List SessV),k≤len∧i=.int .i64 k∧Hid (OwnS svG 10 80 wr w.heap.size (.slice (some ⟨w.heap.size,0,none⟩) len len) L∧L.length=len∧L.take k=xs.take k∧Below w.heap.size w wr)) (fun i _=>len - (intOf i).toNat)
 case atStart=>exact ⟨0,_,Nat.zero_le _,rfl,HM.out.1,List.length_replicate ..,rfl,HM.out.2⟩
 case round =>
  obtain ⟨k,L,hk,rfl,X⟩:=hrel
  by_cases hlt:k<len
  ·obtain ⟨x,hx⟩:=at_of hl hlt
   obtain ⟨b,off,vs,rfl,hb,hvl,hR,hc⟩:=RW.out.at SeR.kp X.out.2.2.2 hx
   have TS:Hid ((L.set k x).take (k+1)=xs.take (k+1)):=takeS_set (by rw [X.out.2.1,hl]) hx X.out.2.2.1
   obtain ⟨id,us,mc,ip,be,la,ud,qu,un,il⟩:=x
   obtain ⟨rfl,hok⟩:=hR
   clear hok
   have q0:wr.cell? ⟨b,off+k * 10,none⟩=some (.int .i64 id):=hc 0 _ rfl
   have q1:wr.cell? ⟨b,off+k * 10+1,none⟩=some (.int .i64 us):=hc 1 _ rfl
   have q2:wr.cell? ⟨b,off+k * 10+2,none⟩=some (.string mc):=hc 2 _ rfl
   have q3:wr.cell? ⟨b,off+k * 10+3,none⟩=some (.int .i64 ip):=hc 3 _ rfl
   have q4:wr.cell? ⟨b,off+k * 10+4,none⟩=some (.int .i64 be):=hc 4 _ rfl
   have q5:wr.cell? ⟨b,off+k * 10+5,none⟩=some (.int .i64 la):=hc 5 _ rfl
   have q6:wr.cell? ⟨b,off+k * 10+6,none⟩=some (.int .i64 ud):=hc 6 _ rfl
   have q7:wr.cell? ⟨b,off+k * 10+7,none⟩=some (.int .i64 qu):=hc 7 _ rfl
   have q8:wr.cell? ⟨b,off+k * 10+8,none⟩=some (.int .i64 un):=hc 8 _ rfl
   have q9:wr.cell? ⟨b,off+k * 10+9,none⟩=some (.int .i64 il):=hc 9 _ rfl
   have HT:Hid (∀ w,Calls Tryz.prog 74 #[.agg #[.int .i64 id,.int .i64 us,.string mc,.int .i64 ip,.int .i64 be,.int .i64 la,.int .i64 ud,.int .i64 qu,.int .i64 un,.int .i64 il]] w fun e w'=>e=.returned (.agg #[.int .i64 id,.int .i64 us,.string mc,.int .i64 ip,.int .i64 be,.int .i64 la,.int .i64 ud,.int .i64 qu,.int .i64 un,.int .i64 il])∧Below w.heap.size w w'):=fun w=>toSession_any id us mc ip be la ud qu un il w
   have hltz:(k:Int)<(len:Int):=by omega
   clear hc
   go_wp2_with fail
   refine (HT.out _).mono ?_
   rintro e w1 ⟨rfl,b1⟩
   have o1:=X.out.1.now b1
   obtain ⟨y,hy⟩:=at_of (k:=k) X.out.2.1 hlt
   obtain ⟨c0,z0⟩:=o1.cell svG_len (j:=0) hy rfl
   obtain ⟨c1,z1⟩:=o1.cell svG_len (j:=1) hy rfl
   obtain ⟨c2,z2⟩:=o1.cell svG_len (j:=2) hy rfl
   obtain ⟨c3,z3⟩:=o1.cell svG_len (j:=3) hy rfl
   obtain ⟨c4,z4⟩:=o1.cell svG_len (j:=4) hy rfl
   obtain ⟨c5,z5⟩:=o1.cell svG_len (j:=5) hy rfl
   obtain ⟨c6,z6⟩:=o1.cell svG_len (j:=6) hy rfl
   obtain ⟨c7,z7⟩:=o1.cell svG_len (j:=7) hy rfl
   obtain ⟨c8,z8⟩:=o1.cell svG_len (j:=8) hy rfl
   obtain ⟨c9,z9⟩:=o1.cell svG_len (j:=9) hy rfl
   replace c0:w1.cell? ⟨w.heap.size,k * 10,none⟩=some (.int .i64 y.id):=c0
   replace z0:w1.frozen? ⟨w.heap.size,k * 10,none⟩=false:=z0
   have Y0:∀ W1,W1=((((((((((w1.setCell ⟨w.heap.size,k * 10,none⟩ (.int .i64 id)).setCell ⟨w.heap.size,k * 10+1,none⟩ (.int .i64 us)).setCell ⟨w.heap.size,k * 10+2,none⟩ (.string mc)).setCell ⟨w.heap.size,k * 10+3,none⟩ (.int .i64 ip)).setCell ⟨w.heap.size,k * 10+4,none⟩ (.int .i64 be)).setCell ⟨w.heap.size,k * 10+5,none⟩ (.int .i64 la)).setCell ⟨w.heap.size,k * 10+6,none⟩ (.int .i64 ud)).setCell ⟨w.heap.size,k * 10+7,none⟩ (.int .i64 qu)).setCell ⟨w.heap.size,k * 10+8,none⟩ (.int .i64 un)).setCell ⟨w.heap.size,k * 10+9,none⟩ (.int .i64 il))→OwnS svG 10 80 W1 w.heap.size (.slice (some ⟨w.heap.size,0,none⟩) len len) (L.set k ⟨id,us,mc,ip,be,la,ud,qu,un,il⟩)∧(L.set k ⟨id,us,mc,ip,be,la,ud,qu,un,il⟩).length=len∧(L.set k ⟨id,us,mc,ip,be,la,ud,qu,un,il⟩).take (k+1)=xs.take (k+1)∧Below w.heap.size w W1:=by
    intro W1 hW1
    have h2:=o1.store svG_len hlt ⟨id,us,mc,ip,be,la,ud,qu,un,il⟩
    have e3:W1=wsets w1 w.heap.size (k * 10) (svG ⟨id,us,mc,ip,be,la,ud,qu,un,il⟩):=hW1
    rw [← e3] at h2
    exact ⟨h2.1,by rw [List.length_set];exact X.out.2.1,TS.out,(X.out.2.2.2.trans (b1.mono X.out.2.2.2.size)).trans (below_row h2.2 (Nat.le_refl _) (Nat.le_trans X.out.2.2.2.size b1.size))⟩
   have Y:Hid (OwnS svG 10 80 ((((((((((w1.setCell ⟨w.heap.size,k * 10,none⟩ (.int .i64 id)).setCell ⟨w.heap.size,k * 10+1,none⟩ (.int .i64 us)).setCell ⟨w.heap.size,k * 10+2,none⟩ (.string mc)).setCell ⟨w.heap.size,k * 10+3,none⟩ (.int .i64 ip)).setCell ⟨w.heap.size,k * 10+4,none⟩ (.int .i64 be)).setCell ⟨w.heap.size,k * 10+5,none⟩ (.int .i64 la)).setCell ⟨w.heap.size,k * 10+6,none⟩ (.int .i64 ud)).setCell ⟨w.heap.size,k * 10+7,none⟩ (.int .i64 qu)).setCell ⟨w.heap.size,k * 10+8,none⟩ (.int .i64 un)).setCell ⟨w.heap.size,k * 10+9,none⟩ (.int .i64 il)) w.heap.size (.slice (some ⟨w.heap.size,0,none⟩) len len) (L.set k ⟨id,us,mc,ip,be,la,ud,qu,un,il⟩)∧(L.set k ⟨id,us,mc,ip,be,la,ud,qu,un,il⟩).length=len∧(L.set k ⟨id,us,mc,ip,be,la,ud,qu,un,il⟩).take (k+1)=xs.take (k+1)∧Below w.heap.size w ((((((((((w1.setCell ⟨w.heap.size,k * 10,none⟩ (.int .i64 id)).setCell ⟨w.heap.size,k * 10+1,none⟩ (.int .i64 us)).setCell ⟨w.heap.size,k * 10+2,none⟩ (.string mc)).setCell ⟨w.heap.size,k * 10+3,none⟩ (.int .i64 ip)).setCell ⟨w.heap.size,k * 10+4,none⟩ (.int .i64 be)).setCell ⟨w.heap.size,k * 10+5,none⟩ (.int .i64 la)).setCell ⟨w.heap.size,k * 10+6,none⟩ (.int .i64 ud)).setCell ⟨w.heap.size,k * 10+7,none⟩ (.int .i64 qu)).setCell ⟨w.heap.size,k * 10+8,none⟩ (.int .i64 un)).setCell ⟨w.heap.size,k * 10+9,none⟩ (.int .i64 il))):=Y0 _ rfl
   clear Y0
   clear o1 b1 q0 q1 q2 q3 q4 q5 q6 q7 q8 q9 HT X HM hmk2 hx hy TS
   go_wp2
   go_roundw
   case rel=>exact ⟨k+1,_,by omega,by go_num,Y⟩
   case measure=>simp [intOf];omega
  ·obtain rfl:k=len:=by omega
   have e1:L=xs:=by
    have:=X.out.2.2.1
    rw [List.take_of_length_le (by rw [X.out.2.1];exact Nat.le_refl _),List.take_of_length_le (by omega)] at this
    exact this
   subst e1
   go_wp2
   go_ret
   exact ⟨rfl,X.out.1,HK.out,X.out.2.2.2⟩
theorem zFail:#[.string ⟨#[]⟩,.int .i64 0,.int .i64 0].toList=fvG default:=rfl
set_option maxHeartbeats 4000000 in
theorem toFailS_own (a:Option Addr) (len cap:Nat) (xs:List FailV) (w:World) (h:Rw FaR 3 w a xs) (hl:xs.length=len) (hc:len≤1048576) :
  Calls Tryz.prog 32 #[.slice a len cap] w fun e w'=>e=.returned (.slice (some ⟨w.heap.size,0,none⟩) len len)∧OwnS fvG 3 115 w' w.heap.size (.slice (some ⟨w.heap.size,0,none⟩) len len) xs∧(∀ x,x ∈ xs→FaRok x)∧Below w.heap.size w w':=by
 have RW:Hid (Rw FaR 3 w a xs):=h
 have HK:Hid (∀ x,x ∈ xs→FaRok x):=by
  intro x hx
  obtain ⟨i,hi⟩:=List.getElem?_of_mem hx
  obtain ⟨b,off,vs,_,_,_,h2,_⟩:=h.at FaR.kp (Below.refl _ _) hi
  exact h2.2
 clear h
 obtain ⟨i0,hi,hz0,hz1,hz2⟩:=info_parts infoFail
 have hmk:=run_make (P:=Tryz.prog) w 38 115 i0 (.agg #[.string ⟨#[]⟩,.int .i64 0,.int .i64 0]) Tryz.underlying38 hi hz0 .i64 .i64 len len (by omega) (Int.le_refl _) (by rw [hz2];omega) (by omega)
 rw [hz1,Int.toNat_natCast] at hmk
 have HM:Hid (OwnS fvG 3 115 (w.alloc (.cells (madeCells #[.string ⟨#[]⟩,.int .i64 0,.int .i64 0] (len * 3)) 115)) w.heap.size (.slice (some ⟨w.heap.size,0,none⟩) len len) (List.replicate len default)∧Below w.heap.size w (w.alloc (.cells (madeCells #[.string ⟨#[]⟩,.int .i64 0,.int .i64 0] (len * 3)) 115))):=⟨OwnS.made w _ _ len default _ zFail rfl (by omega) (Nat.le_refl _) (by unfold maxLen;omega),(Below.refl _ _).alloc (Nat.le_refl _) _⟩
 have hmk2:(Instr.makeSlice 38 (.int .i64 (len:Int)) (.int .i64 (len:Int))).run Tryz.prog w=.ok (.slice (some ⟨w.heap.size,0,none⟩) len len) (w.alloc (.cells (madeCells #[.string ⟨#[]⟩,.int .i64 0,.int .i64 0] (len * 3)) 115)):=hmk
 clear hmk hi hz0 hz1 hz2
 obtain ⟨W,hW⟩:∃ W,W=(w.alloc (.cells (madeCells #[.string ⟨#[]⟩,.int .i64 0,.int .i64 0] (len * 3)) 115)):=⟨_,rfl⟩
 rw [← hW] at HM hmk2
 clear hW
 go_enter Tryz.func32,Tryz.ntmps32
 go_wp2
 go_loopw [4] (fun i wr=>∃ (k:Nat) (L:List FailV),k≤len∧i=.int .i64 k∧Hid (OwnS fvG 3 115 wr w.heap.size (.slice (some ⟨w.heap.size,0,none⟩) len len) L∧L.length=len∧L.take k=xs.take k∧Below w.heap.size w wr)) (fun i _=>len - (intOf i).toNat)
 case atStart=>exact ⟨0,_,Nat.zero_le _,rfl,HM.out.1,List.length_replicate ..,rfl,HM.out.2⟩
 case round =>
  obtain ⟨k,L,hk,rfl,X⟩:=hrel
  by_cases hlt:k<len
  ·obtain ⟨x,hx⟩:=at_of hl hlt
   obtain ⟨b,off,vs,rfl,hb,hvl,hR,hc⟩:=RW.out.at FaR.kp X.out.2.2.2 hx
   have TS:Hid ((L.set k x).take (k+1)=xs.take (k+1)):=takeS_set (by rw [X.out.2.1,hl]) hx X.out.2.2.1
   obtain ⟨mc,ct,un⟩:=x
   obtain ⟨rfl,hok⟩:=hR
   clear hok
   have q0:wr.cell? ⟨b,off+k * 3,none⟩=some (.string mc):=hc 0 _ rfl
   have q1:wr.cell? ⟨b,off+k * 3+1,none⟩=some (.int .i64 ct):=hc 1 _ rfl
   have q2:wr.cell? ⟨b,off+k * 3+2,none⟩=some (.int .i64 un):=hc 2 _ rfl
   have HT:Hid (∀ w,Calls Tryz.prog 75 #[.agg #[.string mc,.int .i64 ct,.int .i64 un]] w fun e w'=>e=.returned (.agg #[.string mc,.int .i64 ct,.int .i64 un])∧Below w.heap.size w w'):=fun w=>toFail_any mc ct un w
   have hltz:(k:Int)<(len:Int):=by omega
   clear hc
   go_wp2_with fail
   refine (HT.out _).mono ?_
   rintro e w1 ⟨rfl,b1⟩
   have o1:=X.out.1.now b1
   obtain ⟨y,hy⟩:=at_of (k:=k) X.out.2.1 hlt
   obtain ⟨c0,z0⟩:=o1.cell fvG_len (j:=0) hy rfl
   obtain ⟨c1,z1⟩:=o1.cell fvG_len (j:=1) hy rfl
   obtain ⟨c2,z2⟩:=o1.cell fvG_len (j:=2) hy rfl
   replace c0:w1.cell? ⟨w.heap.size,k * 3,none⟩=some (.string y.mc):=c0
   replace z0:w1.frozen? ⟨w.heap.size,k * 3,none⟩=false:=z0
   have Y0:∀ W1,W1=(((w1.setCell ⟨w.heap.size,k * 3,none⟩ (.string mc)).setCell ⟨w.heap.size,k * 3+1,none⟩ (.int .i64 ct)).setCell ⟨w.heap.size,k * 3+2,none⟩ (.int .i64 un))→OwnS fvG 3 115 W1 w.heap.size (.slice (some ⟨w.heap.size,0,none⟩) len len) (L.set k ⟨mc,ct,un⟩)∧(L.set k ⟨mc,ct,un⟩).length=len∧(L.set k ⟨mc,ct,un⟩).take (k+1)=xs.take (k+1)∧Below w.heap.size w W1:=by
    intro W1 hW1
    have h2:=o1.store fvG_len hlt ⟨mc,ct,un⟩
    have e3:W1=wsets w1 w.heap.size (k * 3) (fvG ⟨mc,ct,un⟩):=hW1
    rw [← e3] at h2
    exact ⟨h2.1,by rw [List.length_set];exact X.out.2.1,TS.out,(X.out.2.2.2.trans (b1.mono X.out.2.2.2.size)).trans (below_row h2.2 (Nat.le_refl _) (Nat.le_trans X.out.2.2.2.size b1.size))⟩
   have Y:Hid (OwnS fvG 3 115 (((w1.setCell ⟨w.heap.size,k * 3,none⟩ (.string mc)).setCell ⟨w.heap.size,k * 3+1,none⟩ (.int .i64 ct)).setCell ⟨w.heap.size,k * 3+2,none⟩ (.int .i64 un)) w.heap.size (.slice (some ⟨w.heap.size,0,none⟩) len len) (L.set k ⟨mc,ct,un⟩)∧(L.set k ⟨mc,ct,un⟩).length=len∧(L.set k ⟨mc,ct,un⟩).take (k+1)=xs.take (k+1)∧Below w.heap.size w (((w1.setCell ⟨w.heap.size,k * 3,none⟩ (.string mc)).setCell ⟨w.heap.size,k * 3+1,none⟩ (.int .i64 ct)).setCell ⟨w.heap.size,k * 3+2,none⟩ (.int .i64 un))):=Y0 _ rfl
   clear Y0
   clear o1 b1 q0 q1 q2 HT X HM hmk2 hx hy TS
   go_wp2
   go_roundw
   case rel=>exact ⟨k+1,_,by omega,by go_num,Y⟩
   case measure=>simp [intOf];omega
  ·obtain rfl:k=len:=by omega
   have e1:L=xs:=by
    have:=X.out.2.2.1
    rw [List.take_of_length_le (by rw [X.out.2.1];exact Nat.le_refl _),List.take_of_length_le (by omega)] at this
    exact this
   subst e1
   go_wp2
   go_ret
   exact ⟨rfl,X.out.1,HK.out,X.out.2.2.2⟩
theorem zRecord:#[.int .i64 0,.int .i64 0,.int .i64 0,.int .i64 0,.bool false].toList=evG default:=rfl
set_option maxHeartbeats 4000000 in
theorem toRecordS_own (a:Option Addr) (len cap:Nat) (xs:List RecV) (w:World) (h:Rw ReR 5 w a xs) (hl:xs.length=len) (hc:len≤1048576) :
  Calls Tryz.prog 33 #[.slice a len cap] w fun e w'=>e=.returned (.slice (some ⟨w.heap.size,0,none⟩) len len)∧OwnS evG 5 86 w' w.heap.size (.slice (some ⟨w.heap.size,0,none⟩) len len) xs∧(∀ x,x ∈ xs→ReRok x)∧Below w.heap.size w w':=by
 have RW:Hid (Rw ReR 5 w a xs):=h
 have HK:Hid (∀ x,x ∈ xs→ReRok x):=by
  intro x hx
  obtain ⟨i,hi⟩:=List.getElem?_of_mem hx
  obtain ⟨b,off,vs,_,_,_,h2,_⟩:=h.at ReR.kp (Below.refl _ _) hi
  exact h2.2
 clear h
 obtain ⟨i0,hi,hz0,hz1,hz2⟩:=info_parts infoRecord
 have hmk:=run_make (P:=Tryz.prog) w 39 86 i0 (.agg #[.int .i64 0,.int .i64 0,.int .i64 0,.int .i64 0,.bool false]) Tryz.underlying39 hi hz0 .i64 .i64 len len (by omega) (Int.le_refl _) (by rw [hz2];omega) (by omega)
 rw [hz1,Int.toNat_natCast] at hmk
 have HM:Hid (OwnS evG 5 86 (w.alloc (.cells (madeCells #[.int .i64 0,.int .i64 0,.int .i64 0,.int .i64 0,.bool false] (len * 5)) 86)) w.heap.size (.slice (some ⟨w.heap.size,0,none⟩) len len) (List.replicate len default)∧Below w.heap.size w (w.alloc (.cells (madeCells #[.int .i64 0,.int .i64 0,.int .i64 0,.int .i64 0,.bool false] (len * 5)) 86))):=⟨OwnS.made w _ _ len default _ zRecord rfl (by omega) (Nat.le_refl _) (by unfold maxLen;omega),(Below.refl _ _).alloc (Nat.le_refl _) _⟩
 have hmk2:(Instr.makeSlice 39 (.int .i64 (len:Int)) (.int .i64 (len:Int))).run Tryz.prog w=.ok (.slice (some ⟨w.heap.size,0,none⟩) len len) (w.alloc (.cells (madeCells #[.int .i64 0,.int .i64 0,.int .i64 0,.int .i64 0,.bool false] (len * 5)) 86)):=hmk
 clear hmk hi hz0 hz1 hz2
 obtain ⟨W,hW⟩:∃ W,W=(w.alloc (.cells (madeCells #[.int .i64 0,.int .i64 0,.int .i64 0,.int .i64 0,.bool false] (len * 5)) 86)):=⟨_,rfl⟩
 rw [← hW] at HM hmk2
 clear hW
 go_enter Tryz.func33,Tryz.ntmps33
 go_wp2
 go_loopw [4] (fun i wr=>∃ (k:Nat) (L:List RecV),k≤len∧i=.int .i64 k∧Hid (OwnS evG 5 86 wr w.heap.size (.slice (some ⟨w.heap.size,0,none⟩) len len) L∧L.length=len∧L.take k=xs.take k∧Below w.heap.size w wr)) (fun i _=>len - (intOf i).toNat)
 case atStart=>exact ⟨0,_,Nat.zero_le _,rfl,HM.out.1,List.length_replicate ..,rfl,HM.out.2⟩
 case round =>
  obtain ⟨k,L,hk,rfl,X⟩:=hrel
  by_cases hlt:k<len
  ·obtain ⟨x,hx⟩:=at_of hl hlt
   obtain ⟨b,off,vs,rfl,hb,hvl,hR,hc⟩:=RW.out.at ReR.kp X.out.2.2.2 hx
   have TS:Hid ((L.set k x).take (k+1)=xs.take (k+1)):=takeS_set (by rw [X.out.2.1,hl]) hx X.out.2.2.1
   obtain ⟨id,tm,ca,bt,st⟩:=x
   obtain ⟨rfl,hok⟩:=hR
   clear hok
   have q0:wr.cell? ⟨b,off+k * 5,none⟩=some (.int .i64 id):=hc 0 _ rfl
   have q1:wr.cell? ⟨b,off+k * 5+1,none⟩=some (.int .i64 tm):=hc 1 _ rfl
   have q2:wr.cell? ⟨b,off+k * 5+2,none⟩=some (.int .i64 ca):=hc 2 _ rfl
   have q3:wr.cell? ⟨b,off+k * 5+3,none⟩=some (.int .i64 bt):=hc 3 _ rfl
   have q4:wr.cell? ⟨b,off+k * 5+4,none⟩=some (.bool st):=hc 4 _ rfl
   have HT:Hid (∀ w,Calls Tryz.prog 76 #[.agg #[.int .i64 id,.int .i64 tm,.int .i64 ca,.int .i64 bt,.bool st]] w fun e w'=>e=.returned (.agg #[.int .i64 id,.int .i64 tm,.int .i64 ca,.int .i64 bt,.bool st])∧Below w.heap.size w w'):=fun w=>toRecord_any id tm ca bt st w
   have hltz:(k:Int)<(len:Int):=by omega
   clear hc
   go_wp2_with fail
   refine (HT.out _).mono ?_
   rintro e w1 ⟨rfl,b1⟩
   have o1:=X.out.1.now b1
   obtain ⟨y,hy⟩:=at_of (k:=k) X.out.2.1 hlt
   obtain ⟨c0,z0⟩:=o1.cell evG_len (j:=0) hy rfl
   obtain ⟨c1,z1⟩:=o1.cell evG_len (j:=1) hy rfl
   obtain ⟨c2,z2⟩:=o1.cell evG_len (j:=2) hy rfl
   obtain ⟨c3,z3⟩:=o1.cell evG_len (j:=3) hy rfl
   obtain ⟨c4,z4⟩:=o1.cell evG_len (j:=4) hy rfl
   replace c0:w1.cell? ⟨w.heap.size,k * 5,none⟩=some (.int .i64 y.id):=c0
   replace z0:w1.frozen? ⟨w.heap.size,k * 5,none⟩=false:=z0
   have Y0:∀ W1,W1=(((((w1.setCell ⟨w.heap.size,k * 5,none⟩ (.int .i64 id)).setCell ⟨w.heap.size,k * 5+1,none⟩ (.int .i64 tm)).setCell ⟨w.heap.size,k * 5+2,none⟩ (.int .i64 ca)).setCell ⟨w.heap.size,k * 5+3,none⟩ (.int .i64 bt)).setCell ⟨w.heap.size,k * 5+4,none⟩ (.bool st))→OwnS evG 5 86 W1 w.heap.size (.slice (some ⟨w.heap.size,0,none⟩) len len) (L.set k ⟨id,tm,ca,bt,st⟩)∧(L.set k ⟨id,tm,ca,bt,st⟩).length=len∧(L.set k ⟨id,tm,ca,bt,st⟩).take (k+1)=xs.take (k+1)∧Below w.heap.size w W1:=by
    intro W1 hW1
    have h2:=o1.store evG_len hlt ⟨id,tm,ca,bt,st⟩
    have e3:W1=wsets w1 w.heap.size (k * 5) (evG ⟨id,tm,ca,bt,st⟩):=hW1
    rw [← e3] at h2
    exact ⟨h2.1,by rw [List.length_set];exact X.out.2.1,TS.out,(X.out.2.2.2.trans (b1.mono X.out.2.2.2.size)).trans (below_row h2.2 (Nat.le_refl _) (Nat.le_trans X.out.2.2.2.size b1.size))⟩
   have Y:Hid (OwnS evG 5 86 (((((w1.setCell ⟨w.heap.size,k * 5,none⟩ (.int .i64 id)).setCell ⟨w.heap.size,k * 5+1,none⟩ (.int .i64 tm)).setCell ⟨w.heap.size,k * 5+2,none⟩ (.int .i64 ca)).setCell ⟨w.heap.size,k * 5+3,none⟩ (.int .i64 bt)).setCell ⟨w.heap.size,k * 5+4,none⟩ (.bool st)) w.heap.size (.slice (some ⟨w.heap.size,0,none⟩) len len) (L.set k ⟨id,tm,ca,bt,st⟩)∧(L.set k ⟨id,tm,ca,bt,st⟩).length=len∧(L.set k ⟨id,tm,ca,bt,st⟩).take (k+1)=xs.take (k+1)∧Below w.heap.size w (((((w1.setCell ⟨w.heap.size,k * 5,none⟩ (.int .i64 id)).setCell ⟨w.heap.size,k * 5+1,none⟩ (.int .i64 tm)).setCell ⟨w.heap.size,k * 5+2,none⟩ (.int .i64 ca)).setCell ⟨w.heap.size,k * 5+3,none⟩ (.int .i64 bt)).setCell ⟨w.heap.size,k * 5+4,none⟩ (.bool st))):=Y0 _ rfl
   clear Y0
   clear o1 b1 q0 q1 q2 q3 q4 HT X HM hmk2 hx hy TS
   go_wp2
   go_roundw
   case rel=>exact ⟨k+1,_,by omega,by go_num,Y⟩
   case measure=>simp [intOf];omega
  ·obtain rfl:k=len:=by omega
   have e1:L=xs:=by
    have:=X.out.2.2.1
    rw [List.take_of_length_le (by rw [X.out.2.1];exact Nat.le_refl _),List.take_of_length_le (by omega)] at this
    exact this
   subst e1
   go_wp2
   go_ret
   exact ⟨rfl,X.out.1,HK.out,X.out.2.2.2⟩
end Go.Proofs.YtojcakkkakmniaaGreatDoor
