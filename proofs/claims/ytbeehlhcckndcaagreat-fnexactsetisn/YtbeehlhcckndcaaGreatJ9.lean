/- Roles: RoleOK, the program's and the model's. Lists of rules and roles in the laws: szRuleS, toRuleS, eqRuleS, szRole, toRole, eqRole; the walk of laws.FnExactRoleOK. The first rule that fits: l07First, ruleFits; FirstRule, RoleAllows, the program's and the model's. -/
import Derived.Test.YtbeehlhcckndcaaGreatJ8
import Derived.Deep.RegionHeld3
namespace Go.Proofs.YtbeehlhcckndcaaGreat
open Go.RowKit Go.PlainAid Go.Proofs.YtbeehlhcckndcaaGreat.Bt Go.Sort
set_option linter.unusedVariables false
set_option maxRecDepth 20000
def roB (r:RoleV):Bool:=nameB (bt r.nm) r.nm.size && (dec (r.nm.size≤8) && (dec (r.rs.length≤8) && (dec (1≤r.q∧r.q≤1000000) && (dec (1≤r.m∧r.m≤1000) && (dec (1≤r.i∧r.i≤1000) && r.rs.all ruB)))))
theorem all_step2 {α:Type} {f:α→Bool} {xs:List α} {k:Nat} {x:α} (hx:xs[k]?=some x) (h:(xs.take k).all f=true) (hf:f x=true):(xs.take (k+1)).all f=true:=by
 rw [List.take_add_one,List.all_append,h,hx]
 simp [hf]
theorem all_no {α:Type} {f:α→Bool} {xs:List α} {k:Nat} {x:α} (hx:xs[k]?=some x) (hf:f x=false):xs.all f=false:=by
 rw [List.all_eq_false]
 exact ⟨x,List.mem_of_getElem? hx,by simp [hf]⟩
theorem all_end {α:Type} {f:α→Bool} {xs:List α} {k:Nat} (hk:xs.length=k) (h:(xs.take k).all f=true):xs.all f=true:=by
 rwa [List.take_of_length_le (by omega)] at h
theorem minutesOK_any (n:Int) (w:World):Calls Tryz.prog 169 #[.int .i64 n] w fun e w'=>e=.returned (.bool (dec (1≤n∧n≤1000)))∧w'=w:=by
 by_cases h:1≤n
 ·by_cases h':n≤1000
  ·rw [dec_y ⟨h,h'⟩]
   go_enter Tryz.func169,Tryz.ntmps169
   go_wp2
   go_ret
   exact ⟨rfl,rfl⟩
  ·rw [dec_n (fun x=>h' x.2)]
   go_enter Tryz.func169,Tryz.ntmps169
   go_wp2
   go_ret
   exact ⟨rfl,rfl⟩
 ·rw [dec_n (fun x=>h x.1)]
  go_enter Tryz.func169,Tryz.ntmps169
  go_wp2
  go_ret
  exact ⟨rfl,rfl⟩
theorem shortNameOK_any (s:ByteArray) (w:World) (hs:s.size≤1048576):Calls Tryz.prog 165 #[.string s] w fun e w'=>e=.returned (.bool (nameB (bt s) s.size && dec (s.size≤8)))∧w'=w:=by
 obtain ⟨n,hn⟩:∃ n,n=nameB (bt s) s.size:=⟨_,rfl⟩
 have HN:Hid (∀ w,Calls Tryz.prog 197 #[.string s] w fun e w'=>e=.returned (.bool n)∧w'=w):=fun w=>hn ▸ nameOK_any s w hs
 rw [← hn]
 clear hn
 by_cases h8:s.size≤8
 ·rw [dec_y h8,Bool.and_true]
  have h8z:(s.size:Int)≤8:=by omega
  go_enter Tryz.func165,Tryz.ntmps165
  go_wp2_with fail
  refine (HN.out _).mono ?_
  rintro e w1 ⟨rfl,rfl⟩
  go_wp2
  go_ret
  exact ⟨rfl,rfl⟩
 ·rw [dec_n h8,Bool.and_false]
  have h8z:¬ (s.size:Int)≤8:=by omega
  go_enter Tryz.func165,Tryz.ntmps165
  go_wp2
  go_ret
  exact ⟨rfl,rfl⟩
set_option maxHeartbeats 2000000 in
theorem specRoleOK_any (nm:ByteArray) (rs:List RuleV) (q m i:Int) (a:Option Addr) (len cap:Nat) (w:World) (hs:nm.size≤1048576) (h:Rw RuR 6 w a rs) (hl:rs.length=len) (hl2:len≤1048576) :
  Calls Tryz.prog 127 #[.agg #[.string nm,.slice a len cap,.int .i64 q,.int .i64 m,.int .i64 i]] w fun e w'=>e=.returned (.bool (roB ⟨nm,rs,q,m,i⟩))∧Grw w w':=by
 obtain ⟨bn,hbn⟩:∃ n,n=nameB (bt nm) nm.size:=⟨_,rfl⟩
 obtain ⟨bq,hbq⟩:∃ n,n=dec (1≤q∧q≤1000000):=⟨_,rfl⟩
 obtain ⟨bm,hbm⟩:∃ n,n=dec (1≤m∧m≤1000):=⟨_,rfl⟩
 obtain ⟨bi,hbi⟩:∃ n,n=dec (1≤i∧i≤1000):=⟨_,rfl⟩
 have E:Hid (roB ⟨nm,rs,q,m,i⟩=(bn && (dec (nm.size≤8) && (dec (rs.length≤8) && (bq && (bm && (bi && rs.all ruB))))))):=by rw [hbn,hbq,hbm,hbi];rfl
 generalize roB ⟨nm,rs,q,m,i⟩=z at E ⊢
 have RW:Hid (Rw RuR 6 w a rs):=h
 clear h
 have HN:Hid (∀ w,Calls Tryz.prog 157 #[.string nm] w fun e w'=>e=.returned (.bool bn)∧w'=w):=fun w=>hbn ▸ specNameOK_any nm w hs
 have HQ:Hid (∀ w,Calls Tryz.prog 74 #[.int .i64 q,.int .i64 1,.int .i64 1000000] w fun e w'=>e=.returned (.bool bq)∧w'=w):=fun w=>hbq ▸ specIn_any q 1 1000000 w
 have HM:Hid (∀ w,Calls Tryz.prog 74 #[.int .i64 m,.int .i64 1,.int .i64 1000] w fun e w'=>e=.returned (.bool bm)∧w'=w):=fun w=>hbm ▸ specIn_any m 1 1000 w
 have HI:Hid (∀ w,Calls Tryz.prog 74 #[.int .i64 i,.int .i64 1,.int .i64 1000] w fun e w'=>e=.returned (.bool bi)∧w'=w):=fun w=>hbi ▸ specIn_any i 1 1000 w
 clear hbn hbq hbm hbi
 cases bn with
 | false =>
  go_enter Tryz.func127,Tryz.ntmps127
  go_wp2_with fail
  refine (HN.out _).mono ?_
  rintro e w1 ⟨rfl,rfl⟩
  go_wp2
  go_ret
  exact ⟨by rw [E.out];simp,(Grw.refl _).alloc _⟩
 | true =>
  by_cases h8:nm.size≤8
  rotate_left
  ·rw [dec_n h8] at E
   have h8z:(8:Int)<(nm.size:Int):=by omega
   go_enter Tryz.func127,Tryz.ntmps127
   go_wp2_with fail
   refine (HN.out _).mono ?_
   rintro e w1 ⟨rfl,rfl⟩
   go_wp2
   go_ret
   exact ⟨by rw [E.out];simp,(Grw.refl _).alloc _⟩
  rw [dec_y h8] at E
  have h8z:(nm.size:Int)≤8:=by omega
  by_cases hc:rs.length≤8
  rotate_left
  ·rw [dec_n hc] at E
   have hcz:(8:Int)<(len:Int):=by omega
   go_enter Tryz.func127,Tryz.ntmps127
   go_wp2_with fail
   refine (HN.out _).mono ?_
   rintro e w1 ⟨rfl,rfl⟩
   go_wp2
   go_ret
   exact ⟨by rw [E.out];simp,(Grw.refl _).alloc _⟩
  rw [dec_y hc] at E
  have hcz:(len:Int)≤8:=by omega
  go_enter Tryz.func127,Tryz.ntmps127
  go_wp2_with fail
  refine (HN.out _).mono ?_
  rintro e w1 ⟨rfl,rfl⟩
  go_wp2_with fail
  refine (HQ.out _).mono ?_
  rintro e w1 ⟨rfl,rfl⟩
  cases bq with
  | false =>
   go_wp2
   go_ret
   exact ⟨by rw [E.out];simp,(Grw.refl _).alloc _⟩
  | true =>
   go_wp2_with fail
   refine (HM.out _).mono ?_
   rintro e w1 ⟨rfl,rfl⟩
   cases bm with
   | false =>
    go_wp2
    go_ret
    exact ⟨by rw [E.out];simp,(Grw.refl _).alloc _⟩
   | true =>
    go_wp2_with fail
    refine (HI.out _).mono ?_
    rintro e w1 ⟨rfl,rfl⟩
    cases bi with
    | false =>
     go_wp2
     go_ret
     exact ⟨by rw [E.out];simp,(Grw.refl _).alloc _⟩
    | true =>
     go_wp2
     go_loopw [3] (fun x wr=>∃ k:Nat,k≤len∧x=.int .i64 k∧Hid ((rs.take k).all ruB=true)∧Hid (Grw (w.alloc (.cells #[.string nm,.slice a len cap,.int .i64 q,.int .i64 m,.int .i64 i] 142)) wr)) (fun x _=>len - (intOf x).toNat)
     case atStart=>exact ⟨0,Nat.zero_le _,rfl,rfl,Grw.refl _⟩
     case round =>
      obtain ⟨k,hk,rfl,HO,HG⟩:=hrel
      have b1:wr.cell? ⟨w.heap.size,1,none⟩=some (.slice a len cap):=HG.out.keep (by simp)
      by_cases hlt:k<len
      ·obtain ⟨x,hx⟩:=at_of hl hlt
       obtain ⟨b,off,vs,rfl,hb,hvl,hR,hc⟩:=RW.out.at RuR.kp (((Grw.refl w).alloc _).trans HG.out).below hx
       obtain ⟨p,ip,bb,lo,hi,al⟩:=x
       obtain ⟨rfl,hlo,hhi⟩:=hR
       have q0:wr.cell? ⟨b,off+k * 6,none⟩=some (.int .i64 p):=hc 0 _ rfl
       have q1:wr.cell? ⟨b,off+k * 6+1,none⟩=some (.int .i64 ip):=hc 1 _ rfl
       have q2:wr.cell? ⟨b,off+k * 6+2,none⟩=some (.int .i64 bb):=hc 2 _ rfl
       have q3:wr.cell? ⟨b,off+k * 6+3,none⟩=some (.int .i64 lo):=hc 3 _ rfl
       have q4:wr.cell? ⟨b,off+k * 6+4,none⟩=some (.int .i64 hi):=hc 4 _ rfl
       have q5:wr.cell? ⟨b,off+k * 6+5,none⟩=some (.bool al):=hc 5 _ rfl
       have HN:Hid (∀ w,Calls Tryz.prog 158 #[.agg #[.int .i64 p,.int .i64 ip,.int .i64 bb,.int .i64 lo,.int .i64 hi,.bool al]] w fun e w'=>e=.returned (.bool (ruB ⟨p,ip,bb,lo,hi,al⟩))∧Grw w w'):=fun w=>specRuleOK_any _ _ _ _ _ _ w
       have HS:Hid (ruB ⟨p,ip,bb,lo,hi,al⟩=true→(rs.take (k+1)).all ruB=true):=fun h=>all_step2 hx HO.out h
       have HF:Hid (ruB ⟨p,ip,bb,lo,hi,al⟩=false→rs.all ruB=false):=fun h=>all_no hx h
       generalize ruB ⟨p,ip,bb,lo,hi,al⟩=r at HN HS HF
       have hltz:(k:Int)<(len:Int):=by omega
       clear hc hvl hx
       go_wp2_with fail
       refine (HN.out _).mono ?_
       rintro e w1 ⟨rfl,g1⟩
       have HG1:Hid (Grw _ w1):=HG.out.trans g1
       clear q0 q1 q2 q3 q4 q5 HN
       cases r with
       | true =>
        have HS':Hid ((rs.take (k+1)).all ruB=true):=HS.out rfl
        clear HS HF g1 HG
        go_wp2
        go_roundw
        case rel=>exact ⟨k+1,by omega,by go_num,HS',HG1⟩
        case measure=>simp [intOf];omega
       | false =>
        have hd:Hid (rs.all ruB=false):=HF.out rfl
        go_wp2
        go_ret
        exact ⟨by rw [E.out,hd.out];rfl,((Grw.refl _).alloc _).trans HG1.out⟩
      ·obtain rfl:k=len:=by omega
       have hd:Hid (rs.all ruB=true):=all_end hl HO.out
       go_wp2
       go_ret
       exact ⟨by rw [E.out,hd.out];rfl,((Grw.refl _).alloc _).trans HG.out⟩
set_option maxHeartbeats 2000000 in
theorem implRoleOK_any (nm:ByteArray) (rs:List RuleV) (q m i:Int) (a:Option Addr) (len cap:Nat) (w:World) (hs:nm.size≤1048576) (h:Rw RuR 6 w a rs) (hl:rs.length=len) (hl2:len≤1048576) :
  Calls Tryz.prog 164 #[.agg #[.string nm,.slice a len cap,.int .i64 q,.int .i64 m,.int .i64 i]] w fun e w'=>e=.returned (.bool (roB ⟨nm,rs,q,m,i⟩))∧Grw w w':=by
 obtain ⟨bn,hbn⟩:∃ n,n=nameB (bt nm) nm.size:=⟨_,rfl⟩
 obtain ⟨bq,hbq⟩:∃ n,n=dec (1≤q∧q≤1000000):=⟨_,rfl⟩
 obtain ⟨bm,hbm⟩:∃ n,n=dec (1≤m∧m≤1000):=⟨_,rfl⟩
 obtain ⟨bi,hbi⟩:∃ n,n=dec (1≤i∧i≤1000):=⟨_,rfl⟩
 have E:Hid (roB ⟨nm,rs,q,m,i⟩=(bn && (dec (nm.size≤8) && (dec (rs.length≤8) && (bq && (bm && (bi && rs.all ruB))))))):=by rw [hbn,hbq,hbm,hbi];rfl
 generalize roB ⟨nm,rs,q,m,i⟩=z at E ⊢
 have RW:Hid (Rw RuR 6 w a rs):=h
 clear h
 have HN:Hid (∀ w,Calls Tryz.prog 165 #[.string nm] w fun e w'=>e=.returned (.bool (bn && dec (nm.size≤8)))∧w'=w):=fun w=>hbn ▸ shortNameOK_any nm w hs
 have HM:Hid (∀ w,Calls Tryz.prog 169 #[.int .i64 m] w fun e w'=>e=.returned (.bool bm)∧w'=w):=fun w=>hbm ▸ minutesOK_any m w
 have HI:Hid (∀ w,Calls Tryz.prog 169 #[.int .i64 i] w fun e w'=>e=.returned (.bool bi)∧w'=w):=fun w=>hbi ▸ minutesOK_any i w
 have E2:Hid (z=((bn && dec (nm.size≤8)) && (dec (rs.length≤8) && (bq && (bm && (bi && rs.all ruB)))))):=by rw [E.out];cases bn <;> rfl
 clear E hbn hbm hbi
 have E:=E2
 clear E2
 generalize (bn && dec (nm.size≤8))=bs at E HN
 cases bs with
 | false =>
  go_enter Tryz.func164,Tryz.ntmps164
  go_wp2_with fail
  refine (HN.out _).mono ?_
  rintro e w1 ⟨rfl,rfl⟩
  go_wp2
  go_ret
  exact ⟨by rw [E.out];simp,(Grw.refl _).alloc _⟩
 | true =>
  by_cases hc:rs.length≤8
  rotate_left
  ·rw [dec_n hc] at E
   have hcz:(8:Int)<(len:Int):=by omega
   go_enter Tryz.func164,Tryz.ntmps164
   go_wp2_with fail
   refine (HN.out _).mono ?_
   rintro e w1 ⟨rfl,rfl⟩
   go_wp2
   go_ret
   exact ⟨by rw [E.out];simp,(Grw.refl _).alloc _⟩
  rw [dec_y hc] at E
  have hcz:(len:Int)≤8:=by omega
  by_cases hq1:1≤q
  rotate_left
  ·rw [dec_n (fun x=>hq1 x.1)] at hbq
   subst hbq
   go_enter Tryz.func164,Tryz.ntmps164
   go_wp2_with fail
   refine (HN.out _).mono ?_
   rintro e w1 ⟨rfl,rfl⟩
   go_wp2
   go_ret
   exact ⟨by rw [E.out];simp,(Grw.refl _).alloc _⟩
  by_cases hq2:q≤1000000
  rotate_left
  ·rw [dec_n (fun x=>hq2 x.2)] at hbq
   subst hbq
   go_enter Tryz.func164,Tryz.ntmps164
   go_wp2_with fail
   refine (HN.out _).mono ?_
   rintro e w1 ⟨rfl,rfl⟩
   go_wp2
   go_ret
   exact ⟨by rw [E.out];simp,(Grw.refl _).alloc _⟩
  rw [dec_y ⟨hq1,hq2⟩] at hbq
  subst hbq
  go_enter Tryz.func164,Tryz.ntmps164
  go_wp2_with fail
  refine (HN.out _).mono ?_
  rintro e w1 ⟨rfl,rfl⟩
  go_wp2_with fail
  refine (HM.out _).mono ?_
  rintro e w1 ⟨rfl,rfl⟩
  cases bm with
  | false =>
   go_wp2
   go_ret
   exact ⟨by rw [E.out];simp,(Grw.refl _).alloc _⟩
  | true =>
   go_wp2_with fail
   refine (HI.out _).mono ?_
   rintro e w1 ⟨rfl,rfl⟩
   cases bi with
   | false =>
    go_wp2
    go_ret
    exact ⟨by rw [E.out];simp,(Grw.refl _).alloc _⟩
   | true =>
    go_wp2
    go_loopw [38] (fun x wr=>∃ k:Nat,k≤len∧x=.int .i64 k∧Hid ((rs.take k).all ruB=true)∧Hid (Grw (w.alloc (.cells #[.string nm,.slice a len cap,.int .i64 q,.int .i64 m,.int .i64 i] 142)) wr)) (fun x _=>len - (intOf x).toNat)
    case atStart=>exact ⟨0,Nat.zero_le _,rfl,rfl,Grw.refl _⟩
    case round =>
     obtain ⟨k,hk,rfl,HO,HG⟩:=hrel
     have b1:wr.cell? ⟨w.heap.size,1,none⟩=some (.slice a len cap):=HG.out.keep (by simp)
     by_cases hlt:k<len
     ·obtain ⟨x,hx⟩:=at_of hl hlt
      obtain ⟨b,off,vs,rfl,hb,hvl,hR,hc⟩:=RW.out.at RuR.kp (((Grw.refl w).alloc _).trans HG.out).below hx
      obtain ⟨p,ip,bb,lo,hi,al⟩:=x
      obtain ⟨rfl,hlo,hhi⟩:=hR
      have q0:wr.cell? ⟨b,off+k * 6,none⟩=some (.int .i64 p):=hc 0 _ rfl
      have q1:wr.cell? ⟨b,off+k * 6+1,none⟩=some (.int .i64 ip):=hc 1 _ rfl
      have q2:wr.cell? ⟨b,off+k * 6+2,none⟩=some (.int .i64 bb):=hc 2 _ rfl
      have q3:wr.cell? ⟨b,off+k * 6+3,none⟩=some (.int .i64 lo):=hc 3 _ rfl
      have q4:wr.cell? ⟨b,off+k * 6+4,none⟩=some (.int .i64 hi):=hc 4 _ rfl
      have q5:wr.cell? ⟨b,off+k * 6+5,none⟩=some (.bool al):=hc 5 _ rfl
      have HN:Hid (∀ w,Calls Tryz.prog 196 #[.agg #[.int .i64 p,.int .i64 ip,.int .i64 bb,.int .i64 lo,.int .i64 hi,.bool al]] w fun e w'=>e=.returned (.bool (ruB ⟨p,ip,bb,lo,hi,al⟩))∧Grw w w'):=fun w=>implRuleOK_any _ _ _ _ _ _ w hlo hhi
      have HS:Hid (ruB ⟨p,ip,bb,lo,hi,al⟩=true→(rs.take (k+1)).all ruB=true):=fun h=>all_step2 hx HO.out h
      have HF:Hid (ruB ⟨p,ip,bb,lo,hi,al⟩=false→rs.all ruB=false):=fun h=>all_no hx h
      generalize ruB ⟨p,ip,bb,lo,hi,al⟩=r at HN HS HF
      have hltz:(k:Int)<(len:Int):=by omega
      clear hc hvl hx
      go_wp2_with fail
      refine (HN.out _).mono ?_
      rintro e w1 ⟨rfl,g1⟩
      have HG1:Hid (Grw _ w1):=(HG.out.alloc _).trans g1
      clear q0 q1 q2 q3 q4 q5 HN
      cases r with
      | true =>
       have HS':Hid ((rs.take (k+1)).all ruB=true):=HS.out rfl
       clear HS HF g1 HG
       go_wp2
       go_roundw
       case rel=>exact ⟨k+1,by omega,by go_num,HS',HG1⟩
       case measure=>simp [intOf];omega
      | false =>
       have hd:Hid (rs.all ruB=false):=HF.out rfl
       go_wp2
       go_ret
       exact ⟨by rw [E.out,hd.out];rfl,((Grw.refl _).alloc _).trans HG1.out⟩
     ·obtain rfl:k=len:=by omega
      have hd:Hid (rs.all ruB=true):=all_end hl HO.out
      go_wp2
      go_ret
      exact ⟨by rw [E.out,hd.out];rfl,((Grw.refl _).alloc _).trans HG.out⟩
theorem szRuleS_any (a:Option Addr) (len cap:Nat) (l:Int) (w:World) (hl:len≤9223372036854775807) (h0:0≤l) (h1:l≤1048576) :
  Calls Tryz.prog 124 #[.slice a len cap,.int .i64 l] w fun e w'=>∃ r:Int,e=.returned (.int .i64 r)∧(0≤r→r=l - len)∧-1≤r∧r≤1048576∧w'=w:=by
 by_cases h:(len:Int)≤l
 ·go_enter Tryz.func124,Tryz.ntmps124
  go_wp2
  go_ret
  exact ⟨_,rfl,fun _=>by omega,by omega,by omega,rfl⟩
 ·go_enter Tryz.func124,Tryz.ntmps124
  go_wp2
  go_ret
  exact ⟨-1,rfl,fun h=>absurd h (by omega),by omega,by omega,rfl⟩
theorem infoRule:(Tryz.prog.info? 156).map (fun i=>(i.zero,i.size,i.bytes))=some (some (.agg #[.int .i64 0,.int .i64 0,.int .i64 0,.int .i64 0,.int .i64 0,.bool false]),6,48):=by kernel_rfl
set_option maxHeartbeats 2000000 in
theorem eqRuleS_yes (a a':Option Addr) (len cap cap':Nat) (xs:List RuleV) (w:World) (h:Rw RuR 6 w a xs) (h':Rw RuR 6 w a' xs) (hl:xs.length=len) (hlen:len≤1048576) :
  Calls Tryz.prog 145 #[.slice a len cap,.slice a' len cap'] w fun e w'=>e=.returned (.bool true)∧Grw w w':=by
 have hne:((len:Int) != (len:Int))=false:=by simp
 have hmix:Tryz.prog.follows .mixedOrders=true:=by kernel_rfl
 have RW:Hid (Rw RuR 6 w a xs):=h
 have RW':Hid (Rw RuR 6 w a' xs):=h'
 clear h h'
 go_enter Tryz.func145,Tryz.ntmps145
 go_wp2
 go_loopw [5] (fun i wr=>∃ k:Nat,k≤len∧i=.int .i64 k∧Hid (Grw w wr)) (fun i _=>len - (intOf i).toNat)
 case atStart=>exact ⟨0,Nat.zero_le _,rfl,Grw.refl w⟩
 case round =>
  obtain ⟨k,hk,rfl,HG⟩:=hrel
  by_cases hlt:k<len
  ·obtain ⟨x,hx⟩:=at_of hl hlt
   obtain ⟨b,off,vs,rfl,hb,hvl,hR,hc⟩:=RW.out.at RuR.kp HG.out.below hx
   obtain ⟨b',off',vs',rfl,hb',hvl',hR',hc'⟩:=RW'.out.at RuR.kp HG.out.below hx
   obtain ⟨p,ip,bb,lo,hi,al⟩:=x
   obtain ⟨rfl,hlo,hhi⟩:=hR
   obtain ⟨rfl,-,-⟩:=hR'
   have q0:∀ n os,(grow (wr.drewN n) os).cell? ⟨b,off+k * 6,none⟩=some (.int .i64 p):=fun n os=>grown_cell hb HG.out (hc 0 _ rfl) n os
   have q1:∀ n os,(grow (wr.drewN n) os).cell? ⟨b,off+k * 6+1,none⟩=some (.int .i64 ip):=fun n os=>grown_cell hb HG.out (hc 1 _ rfl) n os
   have q2:∀ n os,(grow (wr.drewN n) os).cell? ⟨b,off+k * 6+2,none⟩=some (.int .i64 bb):=fun n os=>grown_cell hb HG.out (hc 2 _ rfl) n os
   have q3:∀ n os,(grow (wr.drewN n) os).cell? ⟨b,off+k * 6+3,none⟩=some (.int .i64 lo):=fun n os=>grown_cell hb HG.out (hc 3 _ rfl) n os
   have q4:∀ n os,(grow (wr.drewN n) os).cell? ⟨b,off+k * 6+4,none⟩=some (.int .i64 hi):=fun n os=>grown_cell hb HG.out (hc 4 _ rfl) n os
   have q5:∀ n os,(grow (wr.drewN n) os).cell? ⟨b,off+k * 6+5,none⟩=some (.bool al):=fun n os=>grown_cell hb HG.out (hc 5 _ rfl) n os
   have r0:∀ n os,(grow (wr.drewN n) os).cell? ⟨b',off'+k * 6,none⟩=some (.int .i64 p):=fun n os=>grown_cell hb' HG.out (hc' 0 _ rfl) n os
   have r1:∀ n os,(grow (wr.drewN n) os).cell? ⟨b',off'+k * 6+1,none⟩=some (.int .i64 ip):=fun n os=>grown_cell hb' HG.out (hc' 1 _ rfl) n os
   have r2:∀ n os,(grow (wr.drewN n) os).cell? ⟨b',off'+k * 6+2,none⟩=some (.int .i64 bb):=fun n os=>grown_cell hb' HG.out (hc' 2 _ rfl) n os
   have r3:∀ n os,(grow (wr.drewN n) os).cell? ⟨b',off'+k * 6+3,none⟩=some (.int .i64 lo):=fun n os=>grown_cell hb' HG.out (hc' 3 _ rfl) n os
   have r4:∀ n os,(grow (wr.drewN n) os).cell? ⟨b',off'+k * 6+4,none⟩=some (.int .i64 hi):=fun n os=>grown_cell hb' HG.out (hc' 4 _ rfl) n os
   have r5:∀ n os,(grow (wr.drewN n) os).cell? ⟨b',off'+k * 6+5,none⟩=some (.bool al):=fun n os=>grown_cell hb' HG.out (hc' 5 _ rfl) n os
   have HE:Hid (∀ w,Calls Tryz.prog 176 #[.agg #[.int .i64 p,.int .i64 ip,.int .i64 bb,.int .i64 lo,.int .i64 hi,.bool al],.agg #[.int .i64 p,.int .i64 ip,.int .i64 bb,.int .i64 lo,.int .i64 hi,.bool al]] w fun e w'=>e=.returned (.bool true)∧Grw w w'):=fun w=>eqRule_any _ _ _ _ _ _ w
   have hltz:(k:Int)<(len:Int):=by omega
   clear hc hc'
   go_wp2_with fail
   refine wp_region_quiet_grown (by assumption) (by kernel_rfl) ?_
   repeat (go_big_quiet_step (first | fail | (go_at_call 176;exact Calls.grown_of (HE.out _))))
   refine wpQuiet_nil ?_
   intro _ hw'
   obtain ⟨⟨nq,osq⟩,hw''⟩:=hw'
   subst hw''
   have HG2:Hid (Grw w (grow (wr.drewN nq) osq)):=HG.out.trans ⟨nq,osq,rfl⟩
   clear q0 q1 q2 q3 q4 q5 r0 r1 r2 r3 r4 r5 HG HE
   go_wp2
   go_roundw
   case rel=>exact ⟨k+1,by omega,by go_num,HG2⟩
   case measure=>simp [intOf];omega
  ·obtain rfl:k=len:=by omega
   go_wp2
   go_ret
   exact ⟨rfl,HG.out⟩
set_option maxHeartbeats 1000000 in
theorem szRole_any (nm:ByteArray) (q m i:Int) (a:Option Addr) (len cap:Nat) (l:Int) (w:World) (hs:nm.size≤9223372036854775807) (hl:len≤9223372036854775807) (h0:0≤l) (h1:l≤1048576) :
  Calls Tryz.prog 68 #[.agg #[.string nm,.slice a len cap,.int .i64 q,.int .i64 m,.int .i64 i],.int .i64 l] w fun e w'=>∃ r:Int,e=.returned (.int .i64 r)∧(0≤r→r=l - nm.size - len)∧-1≤r∧r≤1048576∧Grw w w':=by
 by_cases h:(nm.size:Int)≤l
 ·have HC:Hid (∀ w,Calls Tryz.prog 124 #[.slice a len cap,.int .i64 (l - nm.size)] w fun e w'=>∃ r:Int,e=.returned (.int .i64 r)∧(0≤r→r=l - nm.size - len)∧-1≤r∧r≤1048576∧w'=w):=fun w=>szRuleS_any a len cap _ w hl (by omega) (by omega)
  go_enter Tryz.func68,Tryz.ntmps68
  go_wp2_with fail
  refine (HC.out _).mono ?_
  rintro e w1 ⟨r,rfl,hr,hr1,hr2,rfl⟩
  by_cases hr0:r<0
  ·go_wp2
   go_ret
   exact ⟨-1,rfl,fun h=>absurd h (by omega),by omega,by omega,(Grw.refl _).alloc _⟩
  ·go_wp2
   go_ret
   exact ⟨r,rfl,hr,by omega,by omega,(Grw.refl _).alloc _⟩
 ·go_enter Tryz.func68,Tryz.ntmps68
  go_wp2
  go_ret
  exact ⟨-1,rfl,fun h=>absurd h (by omega),by omega,by omega,(Grw.refl _).alloc _⟩
set_option maxHeartbeats 1000000 in
theorem eqRole_yes (nm:ByteArray) (rs:List RuleV) (q m i:Int) (a a':Option Addr) (len cap cap':Nat) (w:World) (h:Rw RuR 6 w a rs) (h':Rw RuR 6 w a' rs) (hl:rs.length=len) (hc:len≤1048576) :
  Calls Tryz.prog 100 #[.agg #[.string nm,.slice a len cap,.int .i64 q,.int .i64 m,.int .i64 i],.agg #[.string nm,.slice a' len cap',.int .i64 q,.int .i64 m,.int .i64 i]] w fun e w'=>e=.returned (.bool true)∧Grw w w':=by
 have RW:Hid (Rw RuR 6 w a rs):=h
 have RW':Hid (Rw RuR 6 w a' rs):=h'
 have HA:Hid (∀ w,Rw RuR 6 w a rs→Rw RuR 6 w a' rs→Calls Tryz.prog 145 #[.slice a len cap,.slice a' len cap'] w fun e w'=>e=.returned (.bool true)∧Grw w w'):=fun w h h'=>eqRuleS_yes a a' len cap cap' rs w h h' hl hc
 clear h h'
 have h0:(nm.toList == nm.toList)=true:=by simp
 have h1:(q != q)=false:=by simp
 have h2:(m != m)=false:=by simp
 have h3:(i != i)=false:=by simp
 go_enter Tryz.func100,Tryz.ntmps100
 go_wp2_with fail
 refine (HA.out _ (RW.out.keep RuR.kp (((Grw.refl w).alloc _).alloc _).below) (RW'.out.keep RuR.kp (((Grw.refl w).alloc _).alloc _).below)).mono ?_
 rintro e wx1 ⟨rfl,bx⟩
 have k0_0:World.cell? _ ⟨w.heap.size,0,none⟩=some (.string nm):=bx.keep (a:=⟨w.heap.size,0,none⟩) (v:=.string nm) (by simp [go_sem])
 have k0_1:World.cell? _ ⟨w.heap.size,1,none⟩=some (.slice a len cap):=bx.keep (a:=⟨w.heap.size,1,none⟩) (v:=.slice a len cap) (by simp [go_sem])
 have k0_2:World.cell? _ ⟨w.heap.size,2,none⟩=some (.int .i64 q):=bx.keep (a:=⟨w.heap.size,2,none⟩) (v:=.int .i64 q) (by simp [go_sem])
 have k0_3:World.cell? _ ⟨w.heap.size,3,none⟩=some (.int .i64 m):=bx.keep (a:=⟨w.heap.size,3,none⟩) (v:=.int .i64 m) (by simp [go_sem])
 have k0_4:World.cell? _ ⟨w.heap.size,4,none⟩=some (.int .i64 i):=bx.keep (a:=⟨w.heap.size,4,none⟩) (v:=.int .i64 i) (by simp [go_sem])
 have k1_0:World.cell? _ ⟨w.heap.size+1,0,none⟩=some (.string nm):=bx.keep (a:=⟨w.heap.size+1,0,none⟩) (v:=.string nm) (by simp [go_sem])
 have k1_1:World.cell? _ ⟨w.heap.size+1,1,none⟩=some (.slice a' len cap'):=bx.keep (a:=⟨w.heap.size+1,1,none⟩) (v:=.slice a' len cap') (by simp [go_sem])
 have k1_2:World.cell? _ ⟨w.heap.size+1,2,none⟩=some (.int .i64 q):=bx.keep (a:=⟨w.heap.size+1,2,none⟩) (v:=.int .i64 q) (by simp [go_sem])
 have k1_3:World.cell? _ ⟨w.heap.size+1,3,none⟩=some (.int .i64 m):=bx.keep (a:=⟨w.heap.size+1,3,none⟩) (v:=.int .i64 m) (by simp [go_sem])
 have k1_4:World.cell? _ ⟨w.heap.size+1,4,none⟩=some (.int .i64 i):=bx.keep (a:=⟨w.heap.size+1,4,none⟩) (v:=.int .i64 i) (by simp [go_sem])
 have BX:Hid (Grw w _):=(((Grw.refl _).alloc _).alloc _).trans bx
 clear bx
 go_wp2
 go_ret
 exact ⟨rfl,BX.out⟩
end Go.Proofs.YtbeehlhcckndcaaGreat
