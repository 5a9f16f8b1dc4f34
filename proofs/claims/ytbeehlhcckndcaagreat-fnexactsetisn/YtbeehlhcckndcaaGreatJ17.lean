/- Lists that rise, sets by a map, sessions apart: pure facts. Nothing of the program is imported. Small tests of the program's chapter of guests: between, causes, bytes, credit, times; short names of the model. Right guests, as pure words. The place of the first one that fits, as pure words. Maps from ends (a struct of a number and two structs of two numbers) to places. Flows that are right, found by their ends: pure. Numbers that go round, of both sides. MacText, the program's and the model's: two hexadecimal digits a byte, colons between; the walk of its law. The program's macOf and macAt: a mac as an array of six, and back. Right connections and right segments, of both sides. Right gateways, as pure words. Nothing of the program is used. The program's rolePlace, userOK, usersOK. A map of one's own, emptied. Nothing of the program is imported. The program's inLan, sessionOK, sessionsApart. -/
import Derived.Test.YtbeehlhcckndcaaGreatJ0
import Derived.Maps.Own
import Derived.Maps.OwnSet
import Derived.Maps.Views
import Derived.Test.YtbeehlhcckndcaaGreatJ8
import Derived.Test.YtbeehlhcckndcaaGreatJ10
import Derived.Test.YtbeehlhcckndcaaGreatProg
import Derived.DeepKeys4
import Derived.Deep.RegionHeld3
import Derived.Deep.AppendLies
import Derived.Laws.BitsAllLaws
import Derived.Handy
import Derived.Laws.Cover3
import Derived.Laws.Cover1
import Derived.Shelf.SlicesQ.IndexFunc
namespace Go.Proofs.YtbeehlhcckndcaaGreat
open Go.RowKit Go.PlainAid Go.Maps
set_option linter.unusedVariables false
def risAt {α:Type} (f:α→Bool) (lt:α→α→Bool) (xs:List α) (k:Nat):Bool:=match xs[k]? with
 | some x=>f x && (decide (k=0) || (match xs[k - 1]? with | some y=>lt y x | none=>false))
 | none=>true
def risB {α:Type} (f:α→Bool) (lt:α→α→Bool) (xs:List α):Bool:=(List.range xs.length).all (risAt f lt xs)
section Ris
variable {α:Type} {f:α→Bool} {lt:α→α→Bool} {xs:List α}
theorem risAt_zero {x:α} (h:xs[0]?=some x):risAt f lt xs 0=f x:=by
 unfold risAt
 rw [h]
 simp
theorem risAt_succ {j:Nat} {x y:α} (h:xs[j+1]?=some x) (h':xs[j]?=some y):risAt f lt xs (j+1)=(f x && lt y x):=by
 unfold risAt
 rw [h]
 simp [h']
theorem ris_step {g:Nat→Bool} {k:Nat} (h:(List.range k).all g=true) (hf:g k=true):(List.range (k+1)).all g=true:=by
 rw [List.range_succ,List.all_append,h]
 simp [hf]
theorem ris_no {g:Nat→Bool} {n k:Nat} (hk:k<n) (hf:g k=false):(List.range n).all g=false:=by
 rw [List.all_eq_false]
 exact ⟨k,by simpa using hk,by simp [hf]⟩
theorem ris_end {k:Nat} (hk:xs.length=k) (h:(List.range k).all (risAt f lt xs)=true):risB f lt xs=true:=by
 unfold risB
 rw [hk]
 exact h
theorem risB_iff:risB f lt xs=true ↔ (∀ (i:Nat) (x:α),xs[i]?=some x→f x=true)∧∀ (j:Nat) (x y:α),xs[j+1]?=some x→xs[j]?=some y→lt y x=true:=by
 unfold risB
 rw [List.all_eq_true]
 constructor
 ·intro h
  refine ⟨fun i x hx=>?_,fun j x y hx hy=>?_⟩
  ·have hi:=(List.getElem?_eq_some_iff.1 hx).1
   have:=h i (by simpa using hi)
   unfold risAt at this
   rw [hx] at this
   simp at this
   exact this.1
  ·have hi:=(List.getElem?_eq_some_iff.1 hx).1
   have:=h (j+1) (by simpa using hi)
   rw [risAt_succ hx hy] at this
   simp at this
   exact this.2
 ·rintro ⟨h1,h2⟩ i hi
  have hi:i<xs.length:=by simpa using hi
  obtain ⟨x,hx⟩:∃ x,xs[i]?=some x:=⟨_,List.getElem?_eq_getElem hi⟩
  match i,hx with
  | 0,hx=>rw [risAt_zero hx];exact h1 0 x hx
  | j+1,hx =>
   obtain ⟨y,hy⟩:∃ y,xs[j]?=some y:=⟨_,List.getElem?_eq_getElem (by omega)⟩
   rw [risAt_succ hx hy,h1 _ x hx,h2 j x y hx hy]
   rfl
end Ris
def dstB (l:List Int):Bool:=decide l.Nodup
section Mp
variable {H:Type}
def setI (l:List Int):DataW H:=l.foldl (fun m n=>m.put (.int .i64 n) (.agg [])) (.map [])
theorem setI_snoc (l:List Int) (n:Int):setI (H:=H) (l ++ [n])=(setI l).put (.int .i64 n) (.agg []):=by simp [setI,List.foldl_append]
theorem litI_ne {a b:Int} (h:a ≠ b):(Lit.int .i64 a:Lit) ≠ .int .i64 b:=fun e=>h (by injection e)
theorem snoc_ind {α:Type} {P:List α→Prop} (h0:P []) (h1:∀ l x,P l→P (l ++ [x])):∀ l:List α,P l:=by
 have:∀ n,∀ l:List α,l.length=n→P l:=by
  intro n
  induction n with
  | zero=>intro l hl;rw [List.eq_nil_of_length_eq_zero hl];exact h0
  | succ n ih =>
   intro l hl
   have hne:l ≠ []:=by intro e;rw [e] at hl;simp at hl
   rw [← List.dropLast_concat_getLast hne]
   exact h1 _ _ (ih _ (by simp [hl]))
 exact fun l=>this _ l rfl
theorem setI_tidy (l:List Int):Tidy (setI (H:=H) l):=by
 refine snoc_ind (P:=fun l=>Tidy (setI (H:=H) l)) tidy_empty (fun l n ih=>?_) l
 rw [setI_snoc]
 exact ih.put (k:=.int .i64 n) trivial _
theorem setI_has (l:List Int):∀ n,has (setI (H:=H) l) (.int .i64 n)=decide (n ∈ l):=by
 refine snoc_ind (P:=fun l=>∀ n,has (setI (H:=H) l) (.int .i64 n)=decide (n ∈ l)) (fun n=>?_) (fun l m ih n=>?_) l
 ·simp [setI,has_eq]
 ·rw [setI_snoc]
  by_cases h:n=m
  ·subst h
   rw [has_put_same (k:=.int .i64 n) (setI_tidy l).isMap trivial]
   simp
  ·rw [has_put_other (litI_ne h),ih n]
   simp [h]
theorem setI_size (l:List Int):size (setI (H:=H) l)≤l.length∧(l.Nodup→size (setI (H:=H) l)=l.length)∧(¬ l.Nodup→size (setI (H:=H) l)<l.length):=by
 refine snoc_ind (P:=fun l=>size (setI (H:=H) l)≤l.length∧(l.Nodup→size (setI (H:=H) l)=l.length)∧(¬ l.Nodup→size (setI (H:=H) l)<l.length)) ?_ (fun l n ih=>?_) l
 ·simp [setI,size_eq]
 ·rw [setI_snoc,size_put (setI_tidy l),setI_has]
  obtain ⟨h1,h2,h3⟩:=ih
  have hnd:(l ++ [n]).Nodup ↔ l.Nodup∧n ∉ l:=by
   rw [List.nodup_append]
   simp
   intro _
   constructor
   ·intro h hn;exact h n hn rfl
   ·intro h a ha e;subst e;exact h ha
  by_cases hn:n ∈ l
  ·simp only [hn,decide_true,if_true,List.length_append,List.length_singleton]
   refine ⟨by omega,fun h=>absurd hn (hnd.1 h).2,fun _=>by omega⟩
  ·simp only [hn,decide_false,Bool.false_eq_true,if_false,List.length_append,List.length_singleton]
   refine ⟨by omega,fun h=>?_,fun h=>?_⟩
   ·have:=h2 (hnd.1 h).1;omega
   ·have:=h3 (fun h'=>h (hnd.2 ⟨h',hn⟩));omega
theorem setI_lt (l:List Int):decide (size (setI (H:=H) l)<l.length)=!dstB l:=by
 obtain ⟨h1,h2,h3⟩:=setI_size (H:=H) l
 unfold dstB
 by_cases h:l.Nodup
 ·have:=h2 h
  simp [h,this]
 ·have:=h3 h
  simp [h,this]
end Mp
def prS (y x:SessV):Bool:=decide (y.id<x.id) && (!decide (y.us=x.us) && (!(y.mc.toList == x.mc.toList) && !decide (y.ip=x.ip)))
def seAt (f:SessV→Bool) (ss:List SessV) (k:Nat):Bool:=match ss[k]? with
 | some x=>f x && (ss.take k).all (fun y=>prS y x)
 | none=>true
def seB (f:SessV→Bool) (ss:List SessV):Bool:=(List.range ss.length).all (seAt f ss)
def ltId (y x:SessV):Bool:=decide (y.id<x.id)
theorem seB_iff {f:SessV→Bool} {ss:List SessV}:seB f ss=true ↔ (∀ (i:Nat) (x:SessV),ss[i]?=some x→f x=true)∧∀ (i k:Nat) (x y:SessV),ss[i]?=some x→ss[k]?=some y→k<i→prS y x=true:=by
 unfold seB
 rw [List.all_eq_true]
 constructor
 ·intro h
  refine ⟨fun i x hx=>?_,fun i k x y hx hy hki=>?_⟩
  ·have hi:=(List.getElem?_eq_some_iff.1 hx).1
   have:=h i (by simpa using hi)
   unfold seAt at this
   rw [hx] at this
   simp only [Bool.and_eq_true] at this
   exact this.1
  ·have hi:=(List.getElem?_eq_some_iff.1 hx).1
   have:=h i (by simpa using hi)
   unfold seAt at this
   rw [hx] at this
   simp only [Bool.and_eq_true,List.all_eq_true] at this
   refine this.2 y ?_
   rw [List.mem_iff_getElem?]
   exact ⟨k,by rw [List.getElem?_take,if_pos hki];exact hy⟩
 ·rintro ⟨h1,h2⟩ i hi
  have hi:i<ss.length:=by simpa using hi
  obtain ⟨x,hx⟩:∃ x,ss[i]?=some x:=⟨_,List.getElem?_eq_getElem hi⟩
  unfold seAt
  rw [hx]
  simp only [Bool.and_eq_true,List.all_eq_true]
  refine ⟨h1 i x hx,fun y hy=>?_⟩
  rw [List.mem_iff_getElem?] at hy
  obtain ⟨k,hk⟩:=hy
  rw [List.getElem?_take] at hk
  split at hk
  ·exact h2 i k x y hx hk (by assumption)
  ·cases hk
theorem nodup_at {l:List Int}:l.Nodup ↔ ∀ (i k:Nat) (x y:Int),l[i]?=some x→l[k]?=some y→k<i→y ≠ x:=by
 rw [List.nodup_iff_pairwise_ne,List.pairwise_iff_getElem]
 constructor
 ·intro h i k x y hx hy hki
  obtain ⟨hi,rfl⟩:=List.getElem?_eq_some_iff.1 hx
  obtain ⟨hk,rfl⟩:=List.getElem?_eq_some_iff.1 hy
  exact h k i hk hi hki
 ·intro h i j hi hj hij
  exact h j i _ _ (List.getElem?_eq_getElem hj) (List.getElem?_eq_getElem hi) hij
theorem se_apart (f:SessV→Bool) (mn:SessV→Int) (ss:List SessV) (hm:∀ x y,f x=true→f y=true→(mn x=mn y ↔ x.mc.toList=y.mc.toList)) :
  (risB f ltId ss && (dstB (ss.map (·.us)) && (dstB (ss.map mn) && dstB (ss.map (·.ip)))))=seB f ss:=by
 rw [Bool.eq_iff_iff]
 simp only [Bool.and_eq_true]
 rw [risB_iff,seB_iff]
 unfold dstB
 simp only [decide_eq_true_eq]
 rw [nodup_at,nodup_at,nodup_at]
 constructor
 ·rintro ⟨⟨h1,h2⟩,h3,h4,h5⟩
  have up:∀ (d k:Nat) (x y:SessV),ss[k+d+1]?=some x→ss[k]?=some y→y.id<x.id:=by
   intro d
   induction d with
   | zero =>
    intro k x y hx hy
    have:=h2 k x y hx hy
    unfold ltId at this
    simpa using this
   | succ d ih =>
    intro k x y hx hy
    obtain ⟨z,hz⟩:∃ z,ss[k+d+1]?=some z:=⟨_,List.getElem?_eq_getElem (by have:=(List.getElem?_eq_some_iff.1 hx).1;omega)⟩
    have a:=ih k z y hz hy
    have b:=h2 (k+d+1) x z (by rw [← hx];congr 1) hz
    unfold ltId at b
    simp at b
    omega
  refine ⟨h1,fun i k x y hx hy hki=>?_⟩
  have e1:=up (i - k - 1) k x y (by rw [← hx];congr 1;omega) hy
  have e2:=h3 i k x.us y.us (by rw [List.getElem?_map,hx];rfl) (by rw [List.getElem?_map,hy];rfl) hki
  have e3:=h4 i k (mn x) (mn y) (by rw [List.getElem?_map,hx];rfl) (by rw [List.getElem?_map,hy];rfl) hki
  have e4:=h5 i k x.ip y.ip (by rw [List.getElem?_map,hx];rfl) (by rw [List.getElem?_map,hy];rfl) hki
  have e5:y.mc.toList ≠ x.mc.toList:=fun e=>e3 ((hm y x (h1 k y hy) (h1 i x hx)).2 e)
  unfold prS
  simp [e1,e2,e4,e5]
 ·rintro ⟨h1,h2⟩
  have pr:∀ (i k:Nat) (x y:SessV),ss[i]?=some x→ss[k]?=some y→k<i→y.id<x.id∧y.us ≠ x.us∧y.mc.toList ≠ x.mc.toList∧y.ip ≠ x.ip:=by
   intro i k x y hx hy hki
   have:=h2 i k x y hx hy hki
   unfold prS at this
   simp at this
   exact this
  have mp:∀ (g:SessV→Int) (i:Nat) (a:Int),(ss.map g)[i]?=some a→∃ x,ss[i]?=some x∧g x=a:=by
   intro g i a h
   rw [List.getElem?_map] at h
   cases hx:ss[i]? with
   | none=>rw [hx] at h;cases h
   | some x=>rw [hx] at h;exact ⟨x,rfl,by simpa using h⟩
  refine ⟨⟨h1,fun j x y hx hy=>?_⟩,fun i k a b ha hb hki=>?_,fun i k a b ha hb hki=>?_,fun i k a b ha hb hki=>?_⟩
  ·have:=(pr (j+1) j x y hx hy (by omega)).1
   unfold ltId
   simpa using this
  ·obtain ⟨x,hx,rfl⟩:=mp _ i a ha
   obtain ⟨y,hy,rfl⟩:=mp _ k b hb
   exact (pr i k x y hx hy hki).2.1
  ·obtain ⟨x,hx,rfl⟩:=mp _ i a ha
   obtain ⟨y,hy,rfl⟩:=mp _ k b hb
   exact fun e=>(pr i k x y hx hy hki).2.2.1 ((hm y x (h1 k y hy) (h1 i x hx)).1 e)
  ·obtain ⟨x,hx,rfl⟩:=mp _ i a ha
   obtain ⟨y,hy,rfl⟩:=mp _ k b hb
   exact (pr i k x y hx hy hki).2.2.2
open Go.RowKit Go.PlainAid
set_option maxRecDepth 20000
theorem between_any (n lo hi:Int) (w:World):Calls Tryz.prog 86 #[.int .i64 n,.int .i64 lo,.int .i64 hi] w fun e w'=>e=.returned (.bool (decide (lo≤n∧n≤hi)))∧w'=w:=by
 by_cases h1:lo≤n
 ·by_cases h2:n≤hi
  ·go_enter Tryz.func86,Tryz.ntmps86
   go_wp2
   go_ret
   exact ⟨congrArg (fun b=>Ending.returned (.bool b)) (by simp [h1,h2]),rfl⟩
  ·go_enter Tryz.func86,Tryz.ntmps86
   go_wp2
   go_ret
   exact ⟨congrArg (fun b=>Ending.returned (.bool b)) (by simp [h2]),rfl⟩
 ·have h1':decide (lo≤n)=false:=by simp;omega
  go_enter Tryz.func86,Tryz.ntmps86
  go_wp2
  go_ret
  exact ⟨congrArg (fun b=>Ending.returned (.bool b)) (by simp),rfl⟩
theorem causeOK_any (c:Int) (w:World):Calls Tryz.prog 174 #[.int .i64 c] w fun e w'=>e=.returned (.bool (decide (1≤c∧c≤6)))∧w'=w:=by
 have HB:Hid (∀ w,Calls Tryz.prog 86 #[.int .i64 c,.int .i64 1,.int .i64 6] w fun e w'=>e=.returned (.bool (decide (1≤c∧c≤6)))∧w'=w):=fun w=>between_any c 1 6 w
 generalize decide (1≤c∧c≤6)=z at HB ⊢
 go_enter Tryz.func174,Tryz.ntmps174
 go_wp2_with fail
 refine (HB.out _).mono ?_
 rintro e w1 ⟨rfl,hw⟩
 subst hw
 go_wp2
 go_ret
 exact ⟨rfl,rfl⟩
theorem bytesOK_any (n:Int) (w:World):Calls Tryz.prog 175 #[.int .i64 n] w fun e w'=>e=.returned (.bool (dec (0≤n∧n≤1000000)))∧w'=w:=by
 have HB:Hid (∀ w,Calls Tryz.prog 86 #[.int .i64 n,.int .i64 0,.int .i64 1000000] w fun e w'=>e=.returned (.bool (dec (0≤n∧n≤1000000)))∧w'=w):=fun w=>between_any n 0 1000000 w
 generalize dec (0≤n∧n≤1000000)=z at HB ⊢
 go_enter Tryz.func175,Tryz.ntmps175
 go_wp2_with fail
 refine (HB.out _).mono ?_
 rintro e w1 ⟨rfl,hw⟩
 subst hw
 go_wp2
 go_ret
 exact ⟨rfl,rfl⟩
theorem creditOK_any (b l:Int) (w:World):Calls Tryz.prog 167 #[.int .i64 b,.int .i64 l] w fun e w'=>e=.returned (.bool (dec (0≤b∧b≤1000000) && dec (0≤l∧l≤1000)))∧w'=w:=by
 have HA:Hid (∀ w,Calls Tryz.prog 175 #[.int .i64 b] w fun e w'=>e=.returned (.bool (dec (0≤b∧b≤1000000)))∧w'=w):=fun w=>bytesOK_any b w
 have HB:Hid (∀ w,Calls Tryz.prog 86 #[.int .i64 l,.int .i64 0,.int .i64 1000] w fun e w'=>e=.returned (.bool (dec (0≤l∧l≤1000)))∧w'=w):=fun w=>between_any l 0 1000 w
 generalize dec (0≤b∧b≤1000000)=y at HA ⊢
 generalize dec (0≤l∧l≤1000)=z at HB ⊢
 cases y with
 | false =>
  go_enter Tryz.func167,Tryz.ntmps167
  go_wp2_with fail
  refine (HA.out _).mono ?_
  rintro e w1 ⟨rfl,hw⟩
  subst hw
  go_wp2
  go_ret
  exact ⟨rfl,rfl⟩
 | true =>
  go_enter Tryz.func167,Tryz.ntmps167
  go_wp2_with fail
  refine (HA.out _).mono ?_
  rintro e w1 ⟨rfl,hw⟩
  subst hw
  go_wp2_with fail
  refine (HB.out _).mono ?_
  rintro e w1 ⟨rfl,hw⟩
  subst hw
  go_wp2
  go_ret
  exact ⟨by simp,rfl⟩
theorem timeOK_any (n:Int) (w:World):Calls Tryz.prog 123 #[.int .i64 n] w fun e w'=>e=.returned (.bool (dec (0≤n∧n≤100000)))∧w'=w:=by
 have HB:Hid (∀ w,Calls Tryz.prog 86 #[.int .i64 n,.int .i64 0,.int .i64 100000] w fun e w'=>e=.returned (.bool (dec (0≤n∧n≤100000)))∧w'=w):=fun w=>between_any n 0 100000 w
 generalize dec (0≤n∧n≤100000)=z at HB ⊢
 go_enter Tryz.func123,Tryz.ntmps123
 go_wp2_with fail
 refine (HB.out _).mono ?_
 rintro e w1 ⟨rfl,hw⟩
 subst hw
 go_wp2
 go_ret
 exact ⟨rfl,rfl⟩
def snB (s:ByteArray):Bool:=nameB (bt s) s.size && dec (s.size≤8)
theorem l08Name_any (s:ByteArray) (w:World) (hs:s.size≤1048576):Calls Tryz.prog 128 #[.string s] w fun e w'=>e=.returned (.bool (snB s))∧w'=w:=by
 have HA:Hid (∀ w,Calls Tryz.prog 157 #[.string s] w fun e w'=>e=.returned (.bool (nameB (bt s) s.size))∧w'=w):=fun w=>specNameOK_any s w hs
 unfold snB
 generalize nameB (bt s) s.size=q at HA ⊢
 by_cases h8:s.size≤8
 ·rw [dec_y h8]
  have hz:(s.size:Int)≤8:=by omega
  cases q <;>
  ·go_enter Tryz.func128,Tryz.ntmps128
   go_wp2_with fail
   refine (HA.out _).mono ?_
   rintro e w1 ⟨rfl,hw⟩
   subst hw
   go_wp2
   go_ret
   exact ⟨rfl,rfl⟩
 ·rw [dec_n h8]
  have hz:decide ((s.size:Int)≤8)=false:=by simp;omega
  cases q <;>
  ·go_enter Tryz.func128,Tryz.ntmps128
   go_wp2_with fail
   refine (HA.out _).mono ?_
   rintro e w1 ⟨rfl,hw⟩
   subst hw
   go_wp2
   go_ret
   exact ⟨rfl,rfl⟩
open Go.RowKit Go.PlainAid Go.Proofs.YtbeehlhcckndcaaGreat.Bt Go.Sort
def rfP (s:ByteArray) (r:RoleV):Bool:=r.nm.toList == s.toList
def roI (ros:List RoleV) (s:ByteArray):Int:=match ros.find? (rfP s) with | some _=>(ros.findIdx (rfP s):Int) | none=>-1
def roH (ros:List RoleV) (s:ByteArray):Bool:=(ros.find? (rfP s)).isSome
def uB (ros:List RoleV) (u:UserV):Bool:=snB u.nm && (dec (u.sa.size≤40) && (dec (u.ha.size=32) && (roH ros u.ro && (dec (0≤u.bl∧u.bl≤1000000) && dec (0≤u.lg∧u.lg≤1000)))))
def ltU (y x:UserV):Bool:=ltS y.nm x.nm
def usB (ros:List RoleV) (us:List UserV):Bool:=dec (us.length≤6) && risB (uB ros) ltU us
def sB (nx:Int) (ul:Nat) (ip b:Int) (s:SessV):Bool :=
 dec (1≤s.id∧s.id≤nx - 1) && (dec (0≤s.us∧s.us≤(ul:Int) - 1) && (dec (s.mc.size=6) && (hB ip b s.ip && (dec (0≤s.ip∧s.ip≤4294967295) && (dec (0≤s.be∧s.be≤100000) && (dec (s.be≤s.la∧s.la≤100000) && (dec (1≤s.qu∧s.qu≤1000000) && (dec (0≤s.ud∧s.ud≤s.qu) && (dec (s.be≤s.un∧s.un≤101000) && dec (1≤s.il∧s.il≤1000))))))))))
def faB (f:FailV):Bool:=dec (f.mc.size=6) && (dec (0≤f.ct∧f.ct≤2) && dec (0≤f.un∧f.un≤100010))
def ltF (y x:FailV):Bool:=ltS y.mc x.mc
def reB (nx:Int) (r:RecV):Bool:=dec (1≤r.id∧r.id≤nx - 1) && (dec (0≤r.tm∧r.tm≤100000) && (dec (0≤r.bt∧r.bt≤1000000) && ((r.st == dec (0<r.ca)) && (dec (0≤r.ca∧r.ca≤6) && (r.st || dec (r.bt=0))))))
def gokB (ip b gt:Int) (gm wm:ByteArray) (rs:Int) (ps:List PlaceV) (ros:List RoleV) (us:List UserV) (ss:List SessV) (fs:List FailV) (es:List RecV) (nx:Int):Bool :=
 confB ip b gt gm wm rs ps ros && (dec (1≤nx∧nx≤10000) && (usB ros us && ((dec (ss.length≤3) && seB (sB nx us.length ip b) ss) && ((dec (fs.length≤20) && risB faB ltF fs) && (dec (es.length≤60) && es.all (reB nx))))))
def SzU (us:List UserV):Prop:=∀ u ∈ us,u.nm.size≤1048576∧u.sa.size≤1048576∧u.ha.size≤1048576∧u.ro.size≤1048576
theorem bfind_no {α:Type} {p:α→Bool} {xs:List α} {k:Nat} {x:α} (hx:xs[k]?=some x) (h:(xs.take k).find? p=none) (hp:p x=false):(xs.take (k+1)).find? p=none:=by
 rw [List.take_add_one,hx,List.find?_append,h]
 simp [hp]
theorem bfind_yes {α:Type} {p:α→Bool} {xs:List α} {k:Nat} {x:α} (hx:xs[k]?=some x) (h:(xs.take k).find? p=none) (hp:p x=true):xs.find? p=some x:=by
 have e:xs=xs.take (k+1) ++ xs.drop (k+1):=(List.take_append_drop _ _).symm
 rw [e,List.find?_append,List.take_add_one,hx,List.find?_append,h]
 simp [hp]
theorem bfind_at {α:Type} {p:α→Bool} {xs:List α} {k:Nat} {x:α} (hx:xs[k]?=some x) (h:(xs.take k).find? p=none) (hp:p x=true):xs.findIdx p=k:=by
 obtain ⟨hk,rfl⟩:=List.getElem?_eq_some_iff.1 hx
 rw [List.findIdx_eq hk]
 refine ⟨hp,fun j hj=>?_⟩
 rw [List.find?_eq_none] at h
 have:=h (xs[j]'(by omega)) (by rw [List.mem_iff_getElem?];exact ⟨j,by rw [List.getElem?_take,if_pos hj];exact List.getElem?_eq_getElem _⟩)
 simpa using this
theorem bfind_end {α:Type} {p:α→Bool} {xs:List α} {k:Nat} (hk:xs.length=k) (h:(xs.take k).find? p=none):xs.find? p=none:=by
 rw [List.take_of_length_le (by omega)] at h
 exact h
def ixI {V:Type} (p:V→Bool) (xs:List V):Int:=match xs.find? p with | some _=>(xs.findIdx p:Int) | none=>-1
section
variable {V:Type} {p:V→Bool} {xs:List V} {k:Nat} {x:V}
theorem ixI_no (hx:xs[k]?=some x) (h:(xs.take k).find? p=none) (hp:p x=false):(xs.take (k+1)).find? p=none:=bfind_no hx h hp
theorem ixI_at (hx:xs[k]?=some x) (h:(xs.take k).find? p=none) (hp:p x=true):ixI p xs=k:=by unfold ixI;rw [bfind_yes hx h hp,bfind_at hx h hp]
theorem ixI_end (hk:xs.length=k) (h:(xs.take k).find? p=none):ixI p xs=-1:=by unfold ixI;rw [bfind_end hk h]
theorem ixI_neg:decide (ixI p xs<0)=!(xs.any p):=by
 unfold ixI
 cases h:xs.find? p with
 | none =>
  have:xs.any p=false:=by
   rw [List.find?_eq_none] at h
   rw [List.any_eq_false]
   intro y hy
   simpa using h y hy
  simp [this]
 | some y =>
  have:xs.any p=true:=List.any_eq_true.2 ⟨y,List.mem_of_find?_eq_some h,List.find?_some h⟩
  simp [this]
theorem ixI_pos:decide (0≤ixI p xs)=xs.any p:=by
 have h:decide (0≤ixI p xs)=!(decide (ixI p xs<0)):=by
  by_cases h0:ixI p xs<0
  ·rw [decide_eq_true h0,decide_eq_false (by omega)];rfl
  ·rw [decide_eq_false h0,decide_eq_true (by omega)];rfl
 rw [h,ixI_neg];simp
theorem any_take_step (hx:xs[k]?=some x):(xs.take (k+1)).any p=((xs.take k).any p || p x):=by
 rw [List.take_add_one,hx,List.any_append];simp
theorem any_take_all (h:xs.length≤k):xs.take k=xs:=List.take_of_length_le h
end
def siP (id:Int) (s:SessV):Bool:=s.id == id
open Go.RowKit Go.PlainAid Go.Maps Go.WideMaps
structure EnV where
 pr:Int
 ai:Int
 ap:Int
 bi:Int
 bp:Int
deriving DecidableEq
def enG (e:EnV):Value:=.agg #[.int .i64 e.pr,.int .i64 e.ai,.int .i64 e.ap,.int .i64 e.bi,.int .i64 e.bp]
def EnOk (e:EnV):Prop:=(Lit.int .i64 e.pr).wf=true∧(Lit.int .i64 e.ai).wf=true∧(Lit.int .i64 e.ap).wf=true∧(Lit.int .i64 e.bi).wf=true∧(Lit.int .i64 e.bp).wf=true
def enT (e:EnV):EnV:=⟨e.pr,e.bi,e.bp,e.ai,e.ap⟩
theorem enT_ok {e:EnV} (h:EnOk e):EnOk (enT e):=⟨h.1,h.2.2.2.1,h.2.2.2.2,h.2.1,h.2.2.1⟩
def enL (e:EnV):Lit:=.string (keyBytes [.int .i64 e.pr,.int .i64 e.ai,.int .i64 e.ap,.int .i64 e.bi,.int .i64 e.bp])
theorem enLaid:laidOutB Tryz.prog=true:=by kernel_rfl
theorem enRow:(231:TypeId)<Tryz.prog.types.size:=of_decide_eq_true (by kernel_rfl)
theorem enWide:(match Tryz.prog.underlying 231 with | some (.array _ _) | some (.struct _)=>true | _=>false)=true:=by kernel_rfl
theorem keyE:Keyed Tryz.prog 231:=Keyed.of_law (deep_law_laid enLaid (m:=3) (by omega) enRow (by kernel_rfl) enWide)
theorem enType:Tryz.prog.keyType 231=true:=by kernel_rfl
theorem enC0:Tryz.prog.cellsOf 231=5:=by kernel_rfl
theorem enC1:Tryz.prog.cellsOf 229=2:=by kernel_rfl
theorem enC2:Tryz.prog.cellsOf 3=1:=by kernel_rfl
theorem enFuel:∃ m,Tryz.prog.types.size+1=m+3:=⟨Tryz.prog.types.size - 2,by have h:(231:Nat)<Tryz.prog.types.size:=enRow;omega⟩
theorem enKey (e:EnV) (h:EnOk e):keyOf Tryz.prog 231 (enG e)=some (enL e):=by
 obtain ⟨m,hm⟩:=enFuel
 obtain ⟨p,a,b,c,d⟩:=e
 obtain ⟨h1,h2,h3,h4,h5⟩:=h
 dsimp only at h1 h2 h3 h4 h5
 unfold keyOf enG enL
 rw [hm]
 simp [Tryz.underlying231,enType,Value.formed,Value.cells,enC0,Program.keyLits,Tryz.underlying229,enC1,Tryz.underlying3,enC2,h1,h2,h3,h4,h5]
 rw [if_pos,if_pos]
 ·rfl
 all_goals (intro i hi;match i,hi with | 0,_=>simp | 1,_=>simp)
theorem enL_inj {e f:EnV} (he:EnOk e) (hf:EnOk f) (h:enL e=enL f):e=f:=by
 have:=keyE.inj (enKey e he) (by rw [h];exact enKey f hf)
 obtain ⟨p,a,b,c,d⟩:=e
 obtain ⟨p',a',b',c',d'⟩:=f
 simpa [enG] using this
def OwnM (w:World) (b n:Nat) (M:EnV→Option Int):Prop :=
 ∃ D:DataW Unit,w.ownsMap Tryz.prog 231 (plainElem Tryz.prog 3) b n D∧∀ e,EnOk e→has D (enL e)=(M e).isSome∧∀ v,M e=some v→(Lit.int .i64 v).wf=true∧∀ z,D.atKey (enL e) z=.lit (.int .i64 v)
def upM (M:EnV→Option Int) (e:EnV) (v:Option Int):EnV→Option Int:=fun f=>if f=e then v else M f
theorem OwnM.made (w:World):OwnM (w.alloc (.map #[] 0)) w.heap.size 0 (fun _=>none) :=
 ⟨.map [],World.ownsMap_made w _ _ _,fun e _=>⟨by simp [has_eq],fun v h=>by cases h⟩⟩
theorem OwnM.lt {w:World} {b n:Nat} {M:EnV→Option Int} (h:OwnM w b n M):b<w.heap.size:=by
 obtain ⟨D,h1,_⟩:=h
 exact h1.lt
theorem OwnM.alloc {w:World} {b n:Nat} {M:EnV→Option Int} (h:OwnM w b n M) (o:Obj):OwnM (w.alloc o) b n M:=by
 obtain ⟨D,h1,h2⟩:=h
 exact ⟨D,h1.alloc o,h2⟩
theorem OwnM.kept {w w':World} {b n:Nat} {M:EnV→Option Int} {r:Option Nat} (h:OwnM w b n M) (hg:w.grownBy w' r) (hne:some b ≠ r):OwnM w' b n M:=by
 obtain ⟨D,h1,h2⟩:=h
 exact ⟨D,h1.kept hg hne,h2⟩
theorem OwnM.below {w w':World} {b n m:Nat} {M:EnV→Option Int} (h:OwnM w b n M) (hb:Below m w w') (hm:b<m):OwnM w' b n M:=by
 obtain ⟨D,⟨es,clock,h1,h3⟩,h2⟩:=h
 exact ⟨D,⟨es,clock,by rw [hb.block b hm];exact h1,h3⟩,h2⟩
theorem OwnM.now {w w':World} {b n:Nat} {M:EnV→Option Int} (h:OwnM w b n M) (hb:Below w.heap.size w w'):OwnM w' b n M:=h.below hb h.lt
theorem zeroInt9 (w:World):(zeroValue 3).run Tryz.prog w=.ok (.int .i64 0) w:=by kernel_rfl
theorem OwnM.look {w:World} {b n:Nat} {M:EnV→Option Int} (h:OwnM w b n M) {e:EnV} (he:EnOk e) :
  (Instr.lookup 233 (.map (some b)) (enG e) true).run Tryz.prog w=.ok (.tuple #[.int .i64 ((M e).getD 0),.bool (M e).isSome]) w:=by
 obtain ⟨D,h1,h2⟩:=h
 have hw0:(Lit.int .i64 0).wf=true:=by decide
 obtain ⟨v,ps,hrun,hv⟩:=h1.look_ok keyE Tryz.underlying233 (zeroInt9 w) (plainElem_int Tryz.underlying3 hw0) (enKey e he)
 obtain ⟨c,rfl,hc,hwc⟩:=plainElem_int_inv Tryz.underlying3 hv
 simp only [Prod.mk.injEq] at hc
 have hk:=h2 e he
 rw [hrun,hk.1]
 cases hM:M e with
 | none =>
  rw [hM] at hk
  rw [atKey_of_not_has hk.1] at hc
  have:=hc.1
  simp at this
  subst this
  rfl
 | some x =>
  have:=(hk.2 x hM).2 (.lit (.int .i64 0))
  rw [this] at hc
  have:=hc.1
  simp at this
  subst this
  rfl
theorem OwnM.update {w:World} {b n:Nat} {M:EnV→Option Int} (h:OwnM w b n M) {e:EnV} (he:EnOk e) (v:Int) (hv:(Lit.int .i64 v).wf=true) (hn:n<maxLen) :
  ∃ w',(Instr.mapUpdate 233 (.map (some b)) (enG e) (.int .i64 v)).run Tryz.prog w=.ok () w'∧OwnM w' b (n+1) (upM M e (some v))∧w.grownBy w' (some b):=by
 obtain ⟨D,h1,h2⟩:=h
 obtain ⟨w',hrun,o1,g1⟩:=h1.update keyE Tryz.underlying233 hn (enKey e he) (plainElem_int Tryz.underlying3 hv)
 refine ⟨w',hrun,⟨_,o1,fun f hf=>?_⟩,g1⟩
 unfold upM
 by_cases hfe:f=e
 ·subst hfe
  rw [if_pos rfl]
  refine ⟨has_put_same h1.isMap (keyE.key (enKey f hf)) _,fun x hx=>?_⟩
  cases hx
  exact ⟨hv,fun z=>atKey_put_same h1.isMap (keyE.key (enKey f hf)) _ _⟩
 ·rw [if_neg hfe]
  have hne:enL f ≠ enL e:=fun h=>hfe (enL_inj hf he h)
  refine ⟨(has_put_other hne _).trans (h2 f hf).1,fun x hx=>⟨((h2 f hf).2 x hx).1,fun z=>(atKey_put_other hne _ _).trans (((h2 f hf).2 x hx).2 z)⟩⟩
theorem OwnM.drop {w:World} {b n:Nat} {M:EnV→Option Int} (h:OwnM w b n M) {e:EnV} (he:EnOk e) (ty:TypeId) :
  ∃ w',(Builtin.delete_ #[233,231] ty #[.map (some b),enG e]).run Tryz.prog w=.ok (.tuple #[]) w'∧OwnM w' b n (upM M e none)∧w.grownBy w' (some b):=by
 obtain ⟨D,h1,h2⟩:=h
 obtain ⟨w',hrun,o1,g1⟩:=h1.drop keyE Tryz.underlying233 (enKey e he) ty
 refine ⟨w',hrun,⟨_,o1,fun f hf=>?_⟩,g1.grown⟩
 unfold upM
 by_cases hfe:f=e
 ·subst hfe
  rw [if_pos rfl]
  exact ⟨has_del_same,fun x hx=>by cases hx⟩
 ·rw [if_neg hfe]
  have hne:enL f ≠ enL e:=fun h=>hfe (enL_inj hf he h)
  refine ⟨(has_del_other hne).trans (h2 f hf).1,fun x hx=>⟨((h2 f hf).2 x hx).1,fun z=>(atKey_del_other hne _).trans (((h2 f hf).2 x hx).2 z)⟩⟩
def enOf (f:FlowV):EnV:=⟨f.pr,f.si,f.sp,f.di,f.dp⟩
theorem enOf_ok {f:FlowV} (h:FlRok f):EnOk (enOf f):=⟨h.1,h.2.2.1,h.2.2.2.1,h.2.2.2.2.1,h.2.2.2.2.2.1⟩
def enB (e f:EnV):Bool:=e.pr == f.pr && (e.ai == f.ai && (e.ap == f.ap && (e.bi == f.bi && e.bp == f.bp)))
theorem enB_iff (e f:EnV):enB e f=true ↔ e=f:=by
 obtain ⟨a,b,c,d,x⟩:=e
 obtain ⟨a',b',c',d',x'⟩:=f
 simp [enB]
theorem enB_no {e f:EnV} (h:e ≠ f):enB e f=false:=by
 cases hb:enB e f with
 | false=>rfl
 | true=>exact absurd ((enB_iff e f).1 hb) h
theorem enB_yes {e f:EnV} (h:e=f):enB e f=true:=(enB_iff e f).2 h
def flB (f:FlowV):Bool:=dec (0≤f.pr∧f.pr≤255) && (dec (f.mc.size=6) && (dec (0≤f.si∧f.si≤4294967295) && (dec (0≤f.di∧f.di≤4294967295) && (dec (0≤f.sp∧f.sp≤65535) && (dec (0≤f.dp∧f.dp≤65535) && (dec (1≤f.st∧f.st≤3) && (dec (0≤f.un∧f.un≤100100) && dec (0≤f.ow∧f.ow≤10000))))))))
def enR (e:EnV):Bool:=dec (0≤e.pr∧e.pr≤255) && ((dec (0≤e.ai∧e.ai≤4294967295) && dec (0≤e.ap∧e.ap≤65535)) && (dec (0≤e.bi∧e.bi≤4294967295) && dec (0≤e.bp∧e.bp≤65535)))
def apAt (fs:List FlowV) (k:Nat) (e:EnV):Prop:=∀ j g,j<k→fs[j]?=some g→enOf g ≠ e∧enOf g ≠ enT e
def apOk (fs:List FlowV) (k:Nat):Prop:=∀ i f,i<k→fs[i]?=some f→apAt fs i (enOf f)
def alOk (fs:List FlowV) (k:Nat):Prop:=∀ i f,i<k→fs[i]?=some f→flB f=true
theorem apAt_zero (fs:List FlowV) (e:EnV):apAt fs 0 e:=fun j g hj=>absurd hj (by omega)
theorem apAt_step {fs:List FlowV} {k:Nat} {e:EnV} {g:FlowV} (h:apAt fs k e) (hg:fs[k]?=some g) (h1:enOf g ≠ e) (h2:enOf g ≠ enT e):apAt fs (k+1) e:=by
 intro j x hj hx
 by_cases hjk:j<k
 ·exact h j x hjk hx
 ·obtain rfl:j=k:=by omega
  rw [hg] at hx
  cases hx
  exact ⟨h1,h2⟩
theorem apOk_zero (fs:List FlowV):apOk fs 0:=fun i f hi=>absurd hi (by omega)
theorem alOk_zero (fs:List FlowV):alOk fs 0:=fun i f hi=>absurd hi (by omega)
theorem apOk_step {fs:List FlowV} {k:Nat} {f:FlowV} (h:apOk fs k) (hf:fs[k]?=some f) (h1:apAt fs k (enOf f)):apOk fs (k+1):=by
 intro j x hj hx
 by_cases hjk:j<k
 ·exact h j x hjk hx
 ·obtain rfl:j=k:=by omega
  rw [hf] at hx
  cases hx
  exact h1
theorem alOk_step {fs:List FlowV} {k:Nat} {f:FlowV} (h:alOk fs k) (hf:fs[k]?=some f) (h1:flB f=true):alOk fs (k+1):=by
 intro j x hj hx
 by_cases hjk:j<k
 ·exact h j x hjk hx
 ·obtain rfl:j=k:=by omega
  rw [hf] at hx
  cases hx
  exact h1
noncomputable def apB (fs:List FlowV):Bool:=@decide (apOk fs fs.length) (Classical.propDecidable _)
noncomputable def foB (fs:List FlowV):Bool:=@decide (fs.length≤8∧alOk fs fs.length∧apOk fs fs.length) (Classical.propDecidable _)
theorem apB_yes {fs:List FlowV} (h:apOk fs fs.length):apB fs=true:=@decide_eq_true _ (Classical.propDecidable _) h
theorem apB_no {fs:List FlowV} (h:¬ apOk fs fs.length):apB fs=false:=@decide_eq_false _ (Classical.propDecidable _) h
theorem foB_yes {fs:List FlowV} (h:fs.length≤8) (h1:alOk fs fs.length) (h2:apOk fs fs.length):foB fs=true:=@decide_eq_true _ (Classical.propDecidable _) ⟨h,h1,h2⟩
theorem foB_no {fs:List FlowV} (h:¬ (fs.length≤8∧alOk fs fs.length∧apOk fs fs.length)):foB fs=false:=@decide_eq_false _ (Classical.propDecidable _) h
theorem foB_ap {fs:List FlowV} (h:fs.length≤8) (h1:alOk fs fs.length):foB fs=apB fs:=by
 by_cases h2:apOk fs fs.length
 ·rw [foB_yes h h1 h2,apB_yes h2]
 ·rw [foB_no (fun x=>h2 x.2.2),apB_no h2]
theorem lt_at {fs:List FlowV} {k:Nat} {f:FlowV} (h:fs[k]?=some f):k<fs.length:=(List.getElem?_eq_some_iff.1 h).1
theorem foB_al {fs:List FlowV} {k:Nat} {f:FlowV} (hf:fs[k]?=some f) (h:flB f=false):foB fs=false:=foB_no (fun x=>by have:=x.2.1 k f (lt_at hf) hf;rw [h] at this;cases this)
theorem foB_at {fs:List FlowV} {k j:Nat} {f g:FlowV} (hf:fs[k]?=some f) (hj:j<k) (hg:fs[j]?=some g) (h:enOf g=enOf f ∨ enOf g=enT (enOf f)):foB fs=false :=
 foB_no (fun x=>by
  have:=x.2.2 k f (lt_at hf) hf j g hj hg
  rcases h with h | h
  ·exact this.1 h
  ·exact this.2 h)
theorem foB_long {fs:List FlowV} (h:8<fs.length):foB fs=false:=foB_no (fun x=>by omega)
def plM (fs:List FlowV):Nat→EnV→Option Int
 | 0=>fun _=>none
 | k+1=>match fs[k]? with
  | some f=>upM (plM fs k) (enOf f) (some (k:Int))
  | none=>plM fs k
theorem plM_step {fs:List FlowV} {k:Nat} {f:FlowV} (hf:fs[k]?=some f):plM fs (k+1)=upM (plM fs k) (enOf f) (some (k:Int)):=by
 rw [plM,hf]
theorem plM_none {fs:List FlowV} {e:EnV}:∀ {k:Nat},plM fs k e=none→∀ j g,j<k→fs[j]?=some g→enOf g ≠ e
 | 0,_,j,g,hj,_=>absurd hj (by omega)
 | k+1,h,j,g,hj,hg=>by
  rw [plM] at h
  cases hk:fs[k]? with
  | none =>
   rw [hk] at h
   by_cases hjk:j<k
   ·exact plM_none h j g hjk hg
   ·obtain rfl:j=k:=by omega
    rw [hk] at hg;cases hg
  | some f =>
   rw [hk] at h
   simp only [upM] at h
   split at h
   ·cases h
   ·rename_i hne
    by_cases hjk:j<k
    ·exact plM_none h j g hjk hg
    ·obtain rfl:j=k:=by omega
     rw [hk] at hg;cases hg
     exact fun e=>hne e.symm
theorem plM_some {fs:List FlowV} {e:EnV} {v:Int}:∀ {k:Nat},plM fs k e=some v→∃ j g,j<k∧fs[j]?=some g∧enOf g=e∧v=(j:Int)
 | 0,h=>by cases h
 | k+1,h=>by
  rw [plM] at h
  cases hk:fs[k]? with
  | none =>
   rw [hk] at h
   obtain ⟨j,g,h1,h2⟩:=plM_some h
   exact ⟨j,g,by omega,h2⟩
  | some f =>
   rw [hk] at h
   simp only [upM] at h
   split at h
   ·rename_i he
    cases h
    exact ⟨k,f,by omega,hk,he.symm,rfl⟩
   ·obtain ⟨j,g,h1,h2⟩:=plM_some h
    exact ⟨j,g,by omega,h2⟩
def fkK (M:EnV→Option Int) (e:EnV):Int:=if (M e).isSome then (M e).getD 0 else (M (enT e)).getD 0
def fkB (M:EnV→Option Int) (e:EnV):Bool:=if (M e).isSome then false else (M (enT e)).isSome
def fkT (M:EnV→Option Int) (e:EnV):Bool:=(M e).isSome || (M (enT e)).isSome
theorem fk_none {fs:List FlowV} {e:EnV} {k:Nat} (h:apAt fs k e):fkT (plM fs k) e=false:=by
 unfold fkT
 cases h1:plM fs k e with
 | some v =>
  obtain ⟨j,g,hj,hg,he,_⟩:=plM_some h1
  exact absurd he (h j g hj hg).1
 | none =>
  cases h2:plM fs k (enT e) with
  | some v =>
   obtain ⟨j,g,hj,hg,he,_⟩:=plM_some h2
   exact absurd he (h j g hj hg).2
  | none=>rfl
theorem fk_there {fs:List FlowV} {e:EnV} {k:Nat} (h:fkT (plM fs k) e=false):apAt fs k e:=by
 unfold fkT at h
 simp at h
 intro j g hj hg
 exact ⟨plM_none h.1 j g hj hg,plM_none h.2 j g hj hg⟩
def sqN (n:Int):Int:=n % 4294967296
theorem mask32 (n:Int) (h0:-9223372036854775808≤n) (h1:n≤9223372036854775807):bits BinOp.and IntKind.i64 n 4294967295=sqN n:=by
 by_cases hn:0≤n
 ·exact mask 32 (by omega) n hn h1
 ·have e:bits BinOp.and IntKind.i64 n 4294967295=bits BinOp.and IntKind.i64 ((n+18446744073709551616) % 4294967296) 4294967295:=by
   show IntKind.i64.wrap ((BitVec.ofInt 64 n &&& BitVec.ofInt 64 4294967295).toNat:Int)=IntKind.i64.wrap ((BitVec.ofInt 64 ((n+18446744073709551616) % 4294967296) &&& BitVec.ofInt 64 4294967295).toNat:Int)
   congr 2
   rw [BitVec.toNat_and,BitVec.toNat_and]
   have e1:(BitVec.ofInt 64 (4294967295:Int)).toNat=2 ^ 32 - 1:=by decide
   rw [e1,Nat.and_two_pow_sub_one_eq_mod,Nat.and_two_pow_sub_one_eq_mod,BitVec.toNat_ofInt,BitVec.toNat_ofInt]
   omega
  rw [e]
  have:=mask 32 (by omega) ((n+18446744073709551616) % 4294967296) (by omega) (by omega)
  rw [show bits BinOp.and IntKind.i64 ((n+18446744073709551616) % 4294967296) 4294967295=(n+18446744073709551616) % 4294967296 % ((2 ^ 32:Nat):Int) from this]
  unfold sqN
  omega
theorem l10Seq_any (n:Int) (w:World) (h0:-9223372036854775808≤n) (h1:n≤9223372036854775807):Calls Tryz.prog 179 #[.int .i64 n] w fun e w'=>e=.returned (.int .i64 (sqN n))∧w'=w:=by
 have hm:=mask32 n h0 h1
 generalize sqN n=z at hm ⊢
 go_enter Tryz.func179,Tryz.ntmps179
 go_wp2
 go_ret
 exact ⟨by first | rfl | (rw [hm];rfl),rfl⟩
theorem seqOK_any (n:Int) (w:World):Calls Tryz.prog 67 #[.int .i64 n] w fun e w'=>e=.returned (.bool (dec (0≤n∧n≤4294967295)))∧w'=w:=by
 have HB:Hid (∀ w,Calls Tryz.prog 86 #[.int .i64 n,.int .i64 0,.int .i64 4294967295] w fun e w'=>e=.returned (.bool (dec (0≤n∧n≤4294967295)))∧w'=w):=fun w=>between_any n 0 4294967295 w
 generalize dec (0≤n∧n≤4294967295)=z at HB ⊢
 go_enter Tryz.func67,Tryz.ntmps67
 go_wp2_with fail
 refine (HB.out _).mono ?_
 rintro e w1 ⟨rfl,hw⟩
 subst hw
 go_wp2
 go_ret
 exact ⟨rfl,rfl⟩
theorem seqAfter_any (n b:Int) (w:World) (h0:0≤n) (h1:n≤4294967296) (h2:0≤b) (h3:b≤4294967296):Calls Tryz.prog 190 #[.int .i64 n,.int .i64 b] w fun e w'=>e=.returned (.int .i64 (sqN (n+b)))∧w'=w:=by
 have ht:(n+b).tmod 4294967296=(n+b) % 4294967296:=Int.tmod_eq_emod_of_nonneg (by omega)
 go_enter Tryz.func190,Tryz.ntmps190
 go_wp2
 go_ret
 exact ⟨by first | rfl | (unfold sqN;rw [ht]),rfl⟩
def hexs:ByteArray:=⟨#[48,49,50,51,52,53,54,55,56,57,97,98,99,100,101,102]⟩
def hx (n:Int):Int:=bt hexs n.toNat
theorem l01Mac_any (s:ByteArray) (w:World):Calls Tryz.prog 75 #[.string s] w fun e w'=>e=.returned (.bool ((s.size:Int) == 6))∧w'=w:=by
 go_enter Tryz.func75,Tryz.ntmps75
 go_wp2
 go_ret
 exact ⟨rfl,rfl⟩
theorem isMac_b (s:ByteArray) (q:Bool) (hq:((s.size:Int) == 6)=q) (w:World):Calls Tryz.prog 133 #[.string s] w fun e w'=>e=.returned (.bool q)∧w'=w:=by
 go_enter Tryz.func133,Tryz.ntmps133
 go_wp2
 go_ret
 exact ⟨rfl,rfl⟩
theorem toG {f:Nat} {args:Array Value} {w:World} {r:Ending} (h:Calls Tryz.prog f args w fun e w'=>e=r∧w'=w):Calls Tryz.prog f args w fun e w'=>e=r∧Grw w w' :=
 h.mono fun e w' hh=>⟨hh.1,by rw [hh.2];exact Grw.refl _⟩
def bitN (b:Bool):Int:=if b then 1 else 0
theorem bitN_bd (b:Bool):0≤bitN b∧bitN b≤1:=by unfold bitN;split <;> omega
def sentN (c:ConnV):Int:=(c.out.size:Int)+bitN c.fin+bitN (c.st == 1)
theorem sentN_bd (c:ConnV):(c.out.size:Int)≤sentN c∧sentN c≤(c.out.size:Int)+2:=by
 have:=bitN_bd c.fin
 have:=bitN_bd (c.st == 1)
 unfold sentN
 omega
def nuB (c:ConnV):Bool:=dec (0≤c.ip∧c.ip≤4294967295) && dec (0≤c.po∧c.po≤65535) && dec (0≤c.di∧c.di≤4294967295) && dec (1≤c.st∧c.st≤4) && dec (0≤c.un∧c.un≤4294967295) && dec (0≤c.nx∧c.nx≤4294967295) && dec (0≤c.wa∧c.wa≤4294967295)
def txB (c:ConnV):Bool:=((c.mc.size:Int) == 6) && !decide ((300:Int)<(c.inn.size:Int)) && !decide ((300:Int)<(c.out.size:Int)) && !((c.st == 1) && !(c.inn.toList == [])) && (c.fin == (c.st == 3)) && (c.fin || (c.out.toList == []))
def okB (c:ConnV):Bool:=nuB c && txB c && (sqN (c.nx - c.un) == sentN c)
theorem l01Bit_any (b:Bool) (w:World):Calls Tryz.prog 200 #[.bool b] w fun e w'=>e=.returned (.int .i64 (bitN b))∧w'=w:=by
 cases b <;>
 ·go_enter Tryz.func200,Tryz.ntmps200
  go_wp2
  go_ret
  exact ⟨rfl,rfl⟩
set_option maxHeartbeats 1000000 in
theorem l10Sent_any (mc:ByteArray) (ip po di st un nx wa:Int) (inn out:ByteArray) (fin:Bool) (w:World) (ho:out.size≤1048576) :
  Calls Tryz.prog 180 #[.agg #[.string mc,.int .i64 ip,.int .i64 po,.int .i64 di,.int .i64 st,.int .i64 un,.int .i64 nx,.int .i64 wa,.string inn,.string out,.bool fin]] w fun e w'=>e=.returned (.int .i64 (sentN ⟨mc,ip,po,di,st,un,nx,wa,inn,out,fin⟩))∧Grw w w':=by
 have T1:Hid (∀ w,Calls Tryz.prog 200 #[.bool fin] w fun e w'=>e=.returned (.int .i64 (bitN fin))∧Grw w w'):=fun w=>toG (l01Bit_any fin w)
 have T2:Hid (∀ w,Calls Tryz.prog 200 #[.bool (st == 1)] w fun e w'=>e=.returned (.int .i64 (bitN (st == 1)))∧Grw w w'):=fun w=>toG (l01Bit_any (st == 1) w)
 have E:Hid (sentN ⟨mc,ip,po,di,st,un,nx,wa,inn,out,fin⟩=(out.size:Int)+bitN fin+bitN (st == 1)):=rfl
 rw [E.out]
 have hb1:=bitN_bd fin
 have hb2:=bitN_bd (st == 1)
 generalize bitN fin=x1 at T1 hb1 ⊢
 generalize bitN (st == 1)=x2 at T2 hb2 ⊢
 clear E
 have B0:Hid (Grw w (w.alloc (.cells #[.string mc,.int .i64 ip,.int .i64 po,.int .i64 di,.int .i64 st,.int .i64 un,.int .i64 nx,.int .i64 wa,.string inn,.string out,.bool fin] 162))):=(Grw.refl _).alloc _
 have q4:(w.alloc (.cells #[.string mc,.int .i64 ip,.int .i64 po,.int .i64 di,.int .i64 st,.int .i64 un,.int .i64 nx,.int .i64 wa,.string inn,.string out,.bool fin] 162)).cell? ⟨w.heap.size,4,none⟩=some (.int .i64 st):=by simp [go_sem]
 have q9:(w.alloc (.cells #[.string mc,.int .i64 ip,.int .i64 po,.int .i64 di,.int .i64 st,.int .i64 un,.int .i64 nx,.int .i64 wa,.string inn,.string out,.bool fin] 162)).cell? ⟨w.heap.size,9,none⟩=some (.string out):=by simp [go_sem]
 have q10:(w.alloc (.cells #[.string mc,.int .i64 ip,.int .i64 po,.int .i64 di,.int .i64 st,.int .i64 un,.int .i64 nx,.int .i64 wa,.string inn,.string out,.bool fin] 162)).cell? ⟨w.heap.size,10,none⟩=some (.bool fin):=by simp [go_sem]
 have hmix:Tryz.prog.follows .mixedOrders=true:=by kernel_rfl
 have hw1:IntKind.i64.wrap ((out.size:Int)+x1)=(out.size:Int)+x1:=by rw [IntKind.wrap_i64];omega
 have hw2:IntKind.i64.wrap ((out.size:Int)+x1+x2)=(out.size:Int)+x1+x2:=by rw [IntKind.wrap_i64];omega
 go_enter Tryz.func180,Tryz.ntmps180
 go_wp2_with fail
 generalize w.alloc (.cells #[.string mc,.int .i64 ip,.int .i64 po,.int .i64 di,.int .i64 st,.int .i64 un,.int .i64 nx,.int .i64 wa,.string inn,.string out,.bool fin] 162)=W at *
 have y4:∀ n os,(grow (W.drewN n) os).cell? ⟨w.heap.size,4,none⟩=some (.int .i64 st):=fun n os=>bkeep (Grw.below ⟨n,os,rfl⟩) q4
 have y9:∀ n os,(grow (W.drewN n) os).cell? ⟨w.heap.size,9,none⟩=some (.string out):=fun n os=>bkeep (Grw.below ⟨n,os,rfl⟩) q9
 have y10:∀ n os,(grow (W.drewN n) os).cell? ⟨w.heap.size,10,none⟩=some (.bool fin):=fun n os=>bkeep (Grw.below ⟨n,os,rfl⟩) q10
 refine wp_region_quiet_grown (by assumption) (by kernel_rfl) ?_
 repeat (go_big_quiet_step (first | fail | (go_at_call 200;first | (with_reducible exact Calls.grown_of (T1.out _)) | (with_reducible exact Calls.grown_of (T2.out _)))))
 refine wpQuiet_nil ?_
 intro _ hw'
 obtain ⟨⟨nq,osq⟩,hw''⟩:=hw'
 subst hw''
 have HG2:Hid (Grw w (grow (W.drewN nq) osq)):=B0.out.trans ⟨nq,osq,rfl⟩
 clear y4 y9 y10 q4 q9 q10 B0
 generalize (grow (W.drewN nq) osq)=w5 at *
 go_wp2
 go_ret
 exact ⟨rfl,HG2.out⟩
set_option maxHeartbeats 1000000 in
theorem unack_any (mc:ByteArray) (ip po di st un nx wa:Int) (inn out:ByteArray) (fin:Bool) (w:World) (ho:out.size≤1048576) :
  Calls Tryz.prog 191 #[.agg #[.string mc,.int .i64 ip,.int .i64 po,.int .i64 di,.int .i64 st,.int .i64 un,.int .i64 nx,.int .i64 wa,.string inn,.string out,.bool fin]] w fun e w'=>e=.returned (.int .i64 (sentN ⟨mc,ip,po,di,st,un,nx,wa,inn,out,fin⟩))∧Grw w w':=by
 have E:Hid (sentN ⟨mc,ip,po,di,st,un,nx,wa,inn,out,fin⟩=(out.size:Int)+bitN fin+bitN (st == 1)):=rfl
 rw [E.out]
 clear E
 cases fin with
 | false =>
  generalize hb:(st == 1)=b
  cases b with
  | false =>
   go_enter Tryz.func191,Tryz.ntmps191
   go_wp2
   go_ret
   exact ⟨by simp [bitN],(Grw.refl _).alloc _⟩
  | true =>
   go_enter Tryz.func191,Tryz.ntmps191
   go_wp2
   go_ret
   exact ⟨by simp [bitN],(Grw.refl _).alloc _⟩
 | true =>
  generalize hb:(st == 1)=b
  cases b with
  | false =>
   go_enter Tryz.func191,Tryz.ntmps191
   go_wp2
   go_ret
   exact ⟨by simp [bitN],(Grw.refl _).alloc _⟩
  | true =>
   go_enter Tryz.func191,Tryz.ntmps191
   go_wp2
   go_ret
   exact ⟨by simp [bitN],(Grw.refl _).alloc _⟩
set_option maxHeartbeats 2000000 in
theorem conNums_any (mc:ByteArray) (ip po di st un nx wa:Int) (inn out:ByteArray) (fin:Bool) (w:World) (hp:po≤9223372036854775807) :
  Calls Tryz.prog 188 #[.agg #[.string mc,.int .i64 ip,.int .i64 po,.int .i64 di,.int .i64 st,.int .i64 un,.int .i64 nx,.int .i64 wa,.string inn,.string out,.bool fin]] w fun e w'=>e=.returned (.bool (nuB ⟨mc,ip,po,di,st,un,nx,wa,inn,out,fin⟩))∧Grw w w':=by
 have T0:Hid (∀ w,Calls Tryz.prog 161 #[.int .i64 ip] w fun e w'=>e=.returned (.bool (dec (0≤ip∧ip≤4294967295)))∧w'=w):=fun w=>addressOK_any ip w
 have T1:Hid (∀ w,Calls Tryz.prog 195 #[.int .i64 po] w fun e w'=>e=.returned (.bool (dec (0≤po∧po≤65535)))∧w'=w):=fun w=>portOK_any po w hp
 have T2:Hid (∀ w,Calls Tryz.prog 161 #[.int .i64 di] w fun e w'=>e=.returned (.bool (dec (0≤di∧di≤4294967295)))∧w'=w):=fun w=>addressOK_any di w
 have T3:Hid (∀ w,Calls Tryz.prog 86 #[.int .i64 st,.int .i64 1,.int .i64 4] w fun e w'=>e=.returned (.bool (dec (1≤st∧st≤4)))∧w'=w):=fun w=>between_any st 1 4 w
 have T4:Hid (∀ w,Calls Tryz.prog 67 #[.int .i64 un] w fun e w'=>e=.returned (.bool (dec (0≤un∧un≤4294967295)))∧w'=w):=fun w=>seqOK_any un w
 have T5:Hid (∀ w,Calls Tryz.prog 67 #[.int .i64 nx] w fun e w'=>e=.returned (.bool (dec (0≤nx∧nx≤4294967295)))∧w'=w):=fun w=>seqOK_any nx w
 have T6:Hid (∀ w,Calls Tryz.prog 67 #[.int .i64 wa] w fun e w'=>e=.returned (.bool (dec (0≤wa∧wa≤4294967295)))∧w'=w):=fun w=>seqOK_any wa w
 have E:Hid (nuB ⟨mc,ip,po,di,st,un,nx,wa,inn,out,fin⟩=((dec (0≤ip∧ip≤4294967295)) && (dec (0≤po∧po≤65535)) && (dec (0≤di∧di≤4294967295)) && (dec (1≤st∧st≤4)) && (dec (0≤un∧un≤4294967295)) && (dec (0≤nx∧nx≤4294967295)) && (dec (0≤wa∧wa≤4294967295)))):=rfl
 generalize dec (0≤ip∧ip≤4294967295)=t0 at T0 E
 generalize dec (0≤po∧po≤65535)=t1 at T1 E
 generalize dec (0≤di∧di≤4294967295)=t2 at T2 E
 generalize dec (1≤st∧st≤4)=t3 at T3 E
 generalize dec (0≤un∧un≤4294967295)=t4 at T4 E
 generalize dec (0≤nx∧nx≤4294967295)=t5 at T5 E
 generalize dec (0≤wa∧wa≤4294967295)=t6 at T6 E
 go_enter Tryz.func188,Tryz.ntmps188
 go_wp2_with fail
 refine (T0.out _).mono ?_
 rintro e wx1 ⟨rfl,rfl⟩
 cases t0 with
 | false =>
  go_wp2
  go_ret
  exact ⟨by rw [E.out];rfl,((Grw.refl _).alloc _)⟩
 | true =>
  go_wp2_with fail
  refine (T1.out _).mono ?_
  rintro e wx2 ⟨rfl,rfl⟩
  cases t1 with
  | false =>
   go_wp2
   go_ret
   exact ⟨by rw [E.out];rfl,((Grw.refl _).alloc _)⟩
  | true =>
   go_wp2_with fail
   refine (T2.out _).mono ?_
   rintro e wx3 ⟨rfl,rfl⟩
   cases t2 with
   | false =>
    go_wp2
    go_ret
    exact ⟨by rw [E.out];rfl,((Grw.refl _).alloc _)⟩
   | true =>
    go_wp2_with fail
    refine (T3.out _).mono ?_
    rintro e wx4 ⟨rfl,rfl⟩
    cases t3 with
    | false =>
     go_wp2
     go_ret
     exact ⟨by rw [E.out];rfl,((Grw.refl _).alloc _)⟩
    | true =>
     go_wp2_with fail
     refine (T4.out _).mono ?_
     rintro e wx5 ⟨rfl,rfl⟩
     cases t4 with
     | false =>
      go_wp2
      go_ret
      exact ⟨by rw [E.out];rfl,((Grw.refl _).alloc _)⟩
     | true =>
      go_wp2_with fail
      refine (T5.out _).mono ?_
      rintro e wx6 ⟨rfl,rfl⟩
      cases t5 with
      | false =>
       go_wp2
       go_ret
       exact ⟨by rw [E.out];rfl,((Grw.refl _).alloc _)⟩
      | true =>
       go_wp2_with fail
       refine (T6.out _).mono ?_
       rintro e wx7 ⟨rfl,rfl⟩
       cases t6 with
       | false =>
        go_wp2
        go_ret
        exact ⟨by rw [E.out];rfl,((Grw.refl _).alloc _)⟩
       | true =>
        go_wp2
        go_ret
        exact ⟨by rw [E.out];rfl,((Grw.refl _).alloc _)⟩
set_option maxHeartbeats 1000000 in
theorem conTexts_any (mc:ByteArray) (ip po di st un nx wa:Int) (inn out:ByteArray) (fin:Bool) (w:World) (hmc:mc.size≤9223372036854775807) (hi:inn.size≤9223372036854775807) (ho:out.size≤9223372036854775807) :
  Calls Tryz.prog 189 #[.agg #[.string mc,.int .i64 ip,.int .i64 po,.int .i64 di,.int .i64 st,.int .i64 un,.int .i64 nx,.int .i64 wa,.string inn,.string out,.bool fin]] w fun e w'=>e=.returned (.bool (txB ⟨mc,ip,po,di,st,un,nx,wa,inn,out,fin⟩))∧Grw w w':=by
 have E:Hid (txB ⟨mc,ip,po,di,st,un,nx,wa,inn,out,fin⟩=(((mc.size:Int) == 6) && !decide ((300:Int)<(inn.size:Int)) && !decide ((300:Int)<(out.size:Int)) && !((st == 1) && !(inn.toList == [])) && (fin == (st == 3)) && (fin || (out.toList == [])))):=rfl
 have T0:Hid (∀ w,Calls Tryz.prog 133 #[.string mc] w fun e w'=>e=.returned (.bool ((mc.size:Int) == 6))∧w'=w):=fun w=>isMac_b mc _ rfl w
 generalize ((mc.size:Int) == 6)=t0 at T0 E
 generalize h1:decide ((300:Int)<(inn.size:Int))=t1 at E
 generalize h2:decide ((300:Int)<(out.size:Int))=t2 at E
 generalize h3:(st == 1)=t3 at E
 generalize h4:(inn.toList == [])=t4 at E
 generalize h5:(st == 3)=t5 at E
 generalize h6:(out.toList == [])=t6 at E
 go_enter Tryz.func189,Tryz.ntmps189
 go_wp2_with fail
 refine (T0.out _).mono ?_
 rintro e w1 ⟨rfl,rfl⟩
 cases t0 with
 | false =>
  go_wp2
  go_ret
  exact ⟨by rw [E.out];rfl,(Grw.refl _).alloc _⟩
 | true =>
  cases t1 with
  | false =>
   cases t2 with
   | false =>
    cases t3 with
    | false =>
     cases fin with
     | false =>
      cases t5 with
      | false =>
       cases t6 with
       | false =>
        go_wp2
        go_ret
        exact ⟨by rw [E.out];rfl,(Grw.refl _).alloc _⟩
       | true =>
        go_wp2
        go_ret
        exact ⟨by rw [E.out];rfl,(Grw.refl _).alloc _⟩
      | true =>
       go_wp2
       go_ret
       exact ⟨by rw [E.out];rfl,(Grw.refl _).alloc _⟩
     | true =>
      cases t5 with
      | false =>
       go_wp2
       go_ret
       exact ⟨by rw [E.out];rfl,(Grw.refl _).alloc _⟩
      | true =>
       go_wp2
       go_ret
       exact ⟨by rw [E.out];rfl,(Grw.refl _).alloc _⟩
    | true =>
     cases t4 with
     | false =>
      go_wp2
      go_ret
      exact ⟨by rw [E.out];rfl,(Grw.refl _).alloc _⟩
     | true =>
      cases fin with
      | false =>
       cases t5 with
       | false =>
        cases t6 with
        | false =>
         go_wp2
         go_ret
         exact ⟨by rw [E.out];rfl,(Grw.refl _).alloc _⟩
        | true =>
         go_wp2
         go_ret
         exact ⟨by rw [E.out];rfl,(Grw.refl _).alloc _⟩
       | true =>
        go_wp2
        go_ret
        exact ⟨by rw [E.out];rfl,(Grw.refl _).alloc _⟩
      | true =>
       cases t5 with
       | false =>
        go_wp2
        go_ret
        exact ⟨by rw [E.out];rfl,(Grw.refl _).alloc _⟩
       | true =>
        go_wp2
        go_ret
        exact ⟨by rw [E.out];rfl,(Grw.refl _).alloc _⟩
   | true =>
    go_wp2
    go_ret
    exact ⟨by rw [E.out];rfl,(Grw.refl _).alloc _⟩
  | true =>
   go_wp2
   go_ret
   exact ⟨by rw [E.out];rfl,(Grw.refl _).alloc _⟩
def owP (ss:List SessV) (f:FlowV):Bool:=(f.ow != 0) && !(ss.any (siP f.ow))
def owB (ss:List SessV) (fl:List FlowV):Bool:=!(fl.any (owP ss))
def cnP (ip po di:Int) (d:ConnV):Bool:=(d.ip == ip) && ((d.po == po) && (d.di == di))
def cnAt (co:List ConnV) (i:Nat) (c:ConnV):Bool:=okB c && (!(c.st == 4) && !((co.take i).any (cnP c.ip c.po c.di)))
def cnOk (co:List ConnV) (k:Nat):Prop:=∀ i c,i<k→co[i]?=some c→cnAt co i c=true
noncomputable def cnB (co:List ConnV):Bool:=@decide (co.length≤3∧cnOk co co.length) (Classical.propDecidable _)
theorem cnOk_zero (co:List ConnV):cnOk co 0:=fun i c h=>absurd h (by omega)
theorem cnOk_step {co:List ConnV} {k:Nat} {c:ConnV} (h:cnOk co k) (hc:co[k]?=some c) (ht:cnAt co k c=true):cnOk co (k+1):=by
 intro i d hi hd
 by_cases hik:i<k
 ·exact h i d hik hd
 ·obtain rfl:i=k:=by omega
  rw [hc] at hd;cases hd;exact ht
theorem cnB_long {co:List ConnV} (h:3<co.length):cnB co=false:=by
 unfold cnB;rw [decide_eq_false_iff_not];intro h2;omega
theorem cnB_no {co:List ConnV} {k:Nat} {c:ConnV} (hc:co[k]?=some c) (ht:cnAt co k c=false):cnB co=false:=by
 unfold cnB;rw [decide_eq_false_iff_not]
 intro h2
 have:=h2.2 k c (List.getElem?_eq_some_iff.1 hc).1 hc
 rw [ht] at this;cases this
theorem cnB_of {co:List ConnV} {k:Nat} (hk:co.length=k) (h:cnOk co k):cnB co=decide ((k:Int)≤3):=by
 subst hk
 unfold cnB
 by_cases h3:co.length≤3
 ·rw [decide_eq_true (show (co.length:Int)≤3 by omega)];exact @decide_eq_true _ (Classical.propDecidable _) ⟨h3,h⟩
 ·rw [decide_eq_false (show ¬ (co.length:Int)≤3 by omega)];exact @decide_eq_false _ (Classical.propDecidable _) (fun h2=>h3 h2.1)
noncomputable def gtB (g:GtV):Bool:=gokB g.ip g.b g.gt g.gm g.wm g.rs g.ps g.ros g.us g.ss g.fs g.es g.nx && (foB g.fl && (owB g.ss g.fl && (cnB g.co && (dec (0≤g.nw∧g.nw≤100000) && (dec (0≤g.dr∧g.dr≤1000000) && dec (0≤g.sn∧g.sn≤4294967295))))))
theorem ow_nonneg {fl:List FlowV} (h:foB fl=true) {f:FlowV} (hf:f ∈ fl):0≤f.ow:=by
 unfold foB at h
 replace h:=@of_decide_eq_true _ (Classical.propDecidable _) h
 obtain ⟨i,hi⟩:=List.getElem?_of_mem hf
 have:=h.2.1 i f (List.getElem?_eq_some_iff.1 hi).1 hi
 unfold flB at this
 simp [dec] at this
 omega
open Go.Shelf Go.Lib Go.Proofs Go.RowKit Go.PlainAid Go.Proofs.YtbeehlhcckndcaaGreat.Bt Go.Sort
theorem rolePlace1_any (nm nm2:ByteArray) (ra:Option Addr) (rl2 rc2:Nat) (rq rm ri:Int) (B:Nat) (w:World) (hc:w.cell? ⟨B,0,none⟩=some (.string nm2)) :
  Calls Tryz.prog 199 #[.agg #[.string nm,.slice ra rl2 rc2,.int .i64 rq,.int .i64 rm,.int .i64 ri],.pointer (some ⟨B,0,none⟩)] w fun e w'=>e=.returned (.bool (nm.toList == nm2.toList))∧Grw w w':=by
 have hB:B<w.heap.size:=World.block_lt_of_cell? w _ hc
 have hc2:=acell hc (.cells #[.string nm,.slice ra rl2 rc2,.int .i64 rq,.int .i64 rm,.int .i64 ri] 142)
 obtain ⟨u,hu⟩:∃ u,(nm.toList == nm2.toList)=u:=⟨_,rfl⟩
 rw [hu]
 go_enter Tryz.func199,Tryz.ntmps199
 go_wp2
 go_ret
 exact ⟨by first | rfl | (rw [hu];rfl),(Grw.refl _).alloc _⟩
set_option maxHeartbeats 2000000 in
theorem idxRole_any (y:Option Addr) (n c:Nat) (ros:List RoleV) (nm2:ByteArray) (B:Nat) (w:World) (h:Rw (RoR 0) 5 w y ros) (hl:ros.length=n) (hn:n≤1048576) (hcl:w.cell? ⟨B,0,none⟩=some (.string nm2)) :
  Calls Tryz.prog 198 #[.slice y n c,.func (.func 199) #[] #[.pointer (some ⟨B,0,none⟩)]] w fun e w'=>e=.returned (.int .i64 (roI ros nm2))∧Grw w w':=by
 have RY:Hid (Rw (RoR 0) 5 w y ros):=h
 clear h
 have HCL:Hid (w.cell? ⟨B,0,none⟩=some (.string nm2)):=hcl
 clear hcl
 have eg:∀ args w,(callFunc 199 args).run Tryz.prog w=.ok (.enter 199 args) w:=enters_of Tryz.func199 (by kernel_rfl) rfl
 go_enter Tryz.func198,Tryz.ntmps198
 go_wp2
 go_loopw [8] (fun u wr=>∃ k:Nat,k≤n∧u=.int .i64 k∧Hid ((ros.take k).find? (rfP nm2)=none)∧Hid (Grw w wr)) (fun u _=>n - (intOf u).toNat)
 case atStart=>exact ⟨0,Nat.zero_le _,rfl,rfl,Grw.refl _⟩
 case round =>
  obtain ⟨k,hk,rfl,HO,HG⟩:=hrel
  by_cases hlt:k<n
  ·obtain ⟨z,hx⟩:=at_of hl hlt
   obtain ⟨bk,off,vs,rfl,hb,hvl,hR,hc⟩:=RY.out.at (RoR.kp 0) HG.out.below hx
   have HY:Hid (rfP nm2 z=true→roI ros nm2=k):=fun h=>by unfold roI;rw [bfind_yes hx HO.out h,bfind_at hx HO.out h]
   have HN:Hid (rfP nm2 z=false→(ros.take (k+1)).find? (rfP nm2)=none):=fun h=>bfind_no hx HO.out h
   obtain ⟨nm,rrs,rq,rm,ri⟩:=z
   obtain ⟨ra,rc2,rfl,-⟩:=hR
   have q0:wr.cell? ⟨bk,off+k * 5,none⟩=some (.string nm):=hc 0 _ rfl
   have q1:wr.cell? ⟨bk,off+k * 5+1,none⟩=some (.slice ra rrs.length rc2):=hc 1 _ rfl
   have q2:wr.cell? ⟨bk,off+k * 5+2,none⟩=some (.int .i64 rq):=hc 2 _ rfl
   have q3:wr.cell? ⟨bk,off+k * 5+3,none⟩=some (.int .i64 rm):=hc 3 _ rfl
   have q4:wr.cell? ⟨bk,off+k * 5+4,none⟩=some (.int .i64 ri):=hc 4 _ rfl
   have hltz:(k:Int)<(n:Int):=by omega
   have he:rfP nm2 ⟨nm,rrs,rq,rm,ri⟩=(nm.toList == nm2.toList):=rfl
   rw [he] at HY HN
   have HP:Hid (∀ W,Grw w W→Calls Tryz.prog 199 #[.agg #[.string nm,.slice ra rrs.length rc2,.int .i64 rq,.int .i64 rm,.int .i64 ri],.pointer (some ⟨B,0,none⟩)] W fun e w'=>e=.returned (.bool (nm.toList == nm2.toList))∧Grw W w'):=fun W g=>rolePlace1_any nm nm2 ra rrs.length rc2 rq rm ri B W (g.keep HCL.out)
   generalize (nm.toList == nm2.toList)=u at HY HN HP
   clear hc hvl he hx
   cases u with
   | false =>
    have HN':Hid ((ros.take (k+1)).find? (rfP nm2)=none):=HN.out rfl
    clear HY HN
    go_wp2_with (go_at_fn 199;refine (HP.out _ HG.out).mono ?_;rintro e w' ⟨rfl,g1⟩)
    have HG1:Hid (Grw w _):=HG.out.trans g1
    clear g1 HG
    go_roundw
    case rel=>exact ⟨k+1,by omega,by go_num,HN',HG1⟩
    case measure=>simp [intOf];omega
   | true =>
    have HY':Hid (roI ros nm2=k):=HY.out rfl
    clear HY HN
    go_wp2_with (go_at_fn 199;refine (HP.out _ HG.out).mono ?_;rintro e w' ⟨rfl,g1⟩)
    go_ret
    exact ⟨by rw [HY'.out];rfl,HG.out.trans g1⟩
  ·obtain rfl:k=n:=by omega
   have hd:Hid (roI ros nm2=-1):=by show roI ros nm2=-1;unfold roI;rw [bfind_end hl HO.out]
   go_wp2
   go_ret
   exact ⟨by rw [hd.out];rfl,HG.out⟩
set_option maxHeartbeats 1000000 in
theorem rolePlace_any (ip b gt:Int) (gm wm:ByteArray) (rs:Int) (x y:Option Addr) (lenx capx leny capy:Nat) (ros:List RoleV) (nm2:ByteArray) (w:World) (h:Rw (RoR 0) 5 w y ros) (hl:ros.length=leny) (hl9:leny≤1048576) :
  Calls Tryz.prog 166 #[.agg #[.int .i64 ip,.int .i64 b,.int .i64 gt,.string gm,.string wm,.int .i64 rs,.slice x lenx capx,.slice y leny capy],.string nm2] w fun e w'=>e=.returned (.int .i64 (roI ros nm2))∧Grw w w':=by
 have RY:Hid (Rw (RoR 0) 5 w y ros):=h
 have HX:Hid (∀ W B,Grw w W→W.cell? ⟨B,0,none⟩=some (.string nm2)→Calls Tryz.prog 198 #[.slice y leny capy,.func (.func 199) #[] #[.pointer (some ⟨B,0,none⟩)]] W fun e w'=>e=.returned (.int .i64 (roI ros nm2))∧Grw W w'):=fun W B g hc=>idxRole_any y leny capy ros nm2 B W (RY.out.keep (RoR.kp 0) g.below) hl hl9 hc
 clear h
 generalize roI ros nm2=r at HX ⊢
 go_enter Tryz.func166,Tryz.ntmps166
 go_wp2_with (go_at_call 198;refine (HX.out _ _ (((Grw.refl w).alloc _).alloc _) (by simp [go_sem])).mono ?_;rintro e w' ⟨rfl,g1⟩)
 go_ret
 exact ⟨rfl,(((Grw.refl w).alloc _).alloc _).trans g1⟩
set_option maxHeartbeats 2000000 in
theorem userOK_any (ip b gt:Int) (gm wm:ByteArray) (rs:Int) (x y:Option Addr) (lenx capx leny capy:Nat) (ros:List RoleV) (nm:ByteArray) (sa:ByteArray) (ha:ByteArray) (ro:ByteArray) (bl:Int) (lg:Int) (w:World) (h:Rw (RoR 0) 5 w y ros) (hl:ros.length=leny) (hl9:leny≤1048576) (hsz:nm.size≤1048576∧sa.size≤1048576∧ha.size≤1048576∧ro.size≤1048576) :
  Calls Tryz.prog 136 #[.agg #[.int .i64 ip,.int .i64 b,.int .i64 gt,.string gm,.string wm,.int .i64 rs,.slice x lenx capx,.slice y leny capy],.agg #[.string nm,.string sa,.string ha,.string ro,.int .i64 bl,.int .i64 lg]] w fun e w'=>e=.returned (.bool (uB ros ⟨nm,sa,ha,ro,bl,lg⟩))∧Grw w w':=by
 have RY:Hid (Rw (RoR 0) 5 w y ros):=h
 have HN:Hid (∀ w,Calls Tryz.prog 165 #[.string nm] w fun e w'=>e=.returned (.bool (snB nm))∧w'=w):=fun w=>shortNameOK_any nm w hsz.1
 have HR:Hid (∀ w,Rw (RoR 0) 5 w y ros→Calls Tryz.prog 166 #[.agg #[.int .i64 ip,.int .i64 b,.int .i64 gt,.string gm,.string wm,.int .i64 rs,.slice x lenx capx,.slice y leny capy],.string ro] w fun e w'=>e=.returned (.int .i64 (roI ros ro))∧Grw w w'):=fun w h=>rolePlace_any ip b gt gm wm rs x y lenx capx leny capy ros ro w h hl hl9
 have HK:Hid (∀ w,Calls Tryz.prog 167 #[.int .i64 bl,.int .i64 lg] w fun e w'=>e=.returned (.bool (dec (0≤bl∧bl≤1000000) && dec (0≤lg∧lg≤1000)))∧w'=w):=fun w=>creditOK_any bl lg w
 have eu:uB ros ⟨nm,sa,ha,ro,bl,lg⟩=(snB nm && (dec (sa.size≤40) && (dec (ha.size=32) && (roH ros ro && (dec (0≤bl∧bl≤1000000) && dec (0≤lg∧lg≤1000)))))):=rfl
 rw [eu]
 have hss:(sa.size:Int)≤1048576:=by omega
 have hhs:(ha.size:Int)≤1048576:=by omega
 clear h eu
 obtain ⟨q4,hq4⟩:∃ q,roH ros ro=q:=⟨_,rfl⟩
 obtain ⟨r,hr⟩:∃ r,roI ros ro=r:=⟨_,rfl⟩
 have hrr:(q4=false∧decide (0≤r)=false) ∨ (q4=true∧decide (0≤r)=true):=by
  rw [← hq4,← hr]
  unfold roH roI
  cases ros.find? (rfP ro) with
  | none=>left;exact ⟨rfl,by simp⟩
  | some v=>right;exact ⟨rfl,by first | (simp;done) | (simp;omega)⟩
 rw [hq4]
 rw [hr] at HR
 clear hq4 hr
 generalize snB nm=q1 at HN ⊢
 generalize (dec (0≤bl∧bl≤1000000) && dec (0≤lg∧lg≤1000))=q5 at HK ⊢
 have b1:Hid (Grw w ((w.alloc (.cells #[.int .i64 ip,.int .i64 b,.int .i64 gt,.string gm,.string wm,.int .i64 rs,.slice x lenx capx,.slice y leny capy] 40)).alloc (.cells #[.string nm,.string sa,.string ha,.string ro,.int .i64 bl,.int .i64 lg] 144))):=((Grw.refl w).alloc _).alloc _
 cases q1 with
 | false =>
  go_enter Tryz.func136,Tryz.ntmps136
  go_wp2_with fail
  refine (HN.out _).mono ?_
  rintro e w1 ⟨rfl,hw⟩
  subst hw
  go_wp2
  go_ret
  exact ⟨by first | rfl | simp,b1.out⟩
 | true =>
  by_cases hsa:sa.size≤40
  rotate_left
  ·rw [dec_n hsa]
   have hsz1:decide ((sa.size:Int)≤40)=false:=decide_eq_false (by omega)
   go_enter Tryz.func136,Tryz.ntmps136
   go_wp2_with fail
   refine (HN.out _).mono ?_
   rintro e w1 ⟨rfl,hw⟩
   subst hw
   go_wp2
   go_ret
   exact ⟨by first | rfl | simp,b1.out⟩
  rw [dec_y hsa]
  have hsz1:decide ((sa.size:Int)≤40)=true:=decide_eq_true (by omega)
  by_cases hha:ha.size=32
  rotate_left
  ·rw [dec_n hha]
   have hsz2:((ha.size:Int) == 32)=false:=by simp;omega
   go_enter Tryz.func136,Tryz.ntmps136
   go_wp2_with fail
   refine (HN.out _).mono ?_
   rintro e w1 ⟨rfl,hw⟩
   subst hw
   go_wp2
   go_ret
   exact ⟨by first | rfl | simp,b1.out⟩
  rw [dec_y hha]
  have hsz2:((ha.size:Int) == 32)=true:=by simp;omega
  rcases hrr with ⟨rfl,hr0⟩ | ⟨rfl,hr0⟩
  ·go_enter Tryz.func136,Tryz.ntmps136
   go_wp2_with fail
   refine (HN.out _).mono ?_
   rintro e w1 ⟨rfl,hw⟩
   subst hw
   go_wp2_with fail
   refine (HR.out _ (RY.out.keep (RoR.kp 0) b1.out.below)).mono ?_
   rintro e w2 ⟨rfl,g2⟩
   go_wp2
   go_ret
   exact ⟨by first | rfl | simp,b1.out.trans g2⟩
  ·go_enter Tryz.func136,Tryz.ntmps136
   go_wp2_with fail
   refine (HN.out _).mono ?_
   rintro e w1 ⟨rfl,hw⟩
   subst hw
   go_wp2_with fail
   refine (HR.out _ (RY.out.keep (RoR.kp 0) b1.out.below)).mono ?_
   rintro e w2 ⟨rfl,g2⟩
   have k4:w2.cell? ⟨w.heap.size+1,4,none⟩=some (.int .i64 bl):=g2.keep (a:=⟨w.heap.size+1,4,none⟩) (v:=.int .i64 bl) (by simp [go_sem])
   have k5:w2.cell? ⟨w.heap.size+1,5,none⟩=some (.int .i64 lg):=g2.keep (a:=⟨w.heap.size+1,5,none⟩) (v:=.int .i64 lg) (by simp [go_sem])
   have B2:Hid (Grw w w2):=b1.out.trans g2
   clear g2
   go_wp2_with fail
   refine (HK.out _).mono ?_
   rintro e w1 ⟨rfl,hw⟩
   subst hw
   go_wp2
   go_ret
   exact ⟨by first | rfl | simp,B2.out⟩
set_option maxHeartbeats 8000000 in
theorem usersOK_any (ip b gt:Int) (gm wm:ByteArray) (rs:Int) (x y:Option Addr) (lenx capx leny capy:Nat) (ros:List RoleV) (a:Option Addr) (len cap:Nat) (us:List UserV) (w:World) (h:Rw (RoR 0) 5 w y ros) (hl2:ros.length=leny) (hu:Rw UsR 6 w a us) (hl:us.length=len) (hsz:SzU us) (hl9:leny≤1048576) (hl8:len≤1048576) :
  Calls Tryz.prog 87 #[.agg #[.int .i64 ip,.int .i64 b,.int .i64 gt,.string gm,.string wm,.int .i64 rs,.slice x lenx capx,.slice y leny capy],.slice a len cap] w fun e w'=>e=.returned (.bool (usB ros us))∧Grw w w':=by
 have RY:Hid (Rw (RoR 0) 5 w y ros):=h
 have RW:Hid (Rw UsR 6 w a us):=hu
 have SZ:Hid (SzU us):=hsz
 clear h hu hsz
 by_cases h6:len≤6
 rotate_left
 ·have hv:Hid (usB ros us=false):=by show usB ros us=false;unfold usB;rw [dec_n (by omega)];rfl
  have h6z:(6:Int)<(len:Int):=by omega
  go_enter Tryz.func87,Tryz.ntmps87
  go_wp2
  go_ret
  exact ⟨by rw [hv.out];rfl,(Grw.refl _).alloc _⟩
 have h6z:(len:Int)≤6:=by omega
 go_enter Tryz.func87,Tryz.ntmps87
 go_wp2
 go_loopw [12] (fun u wr=>∃ k:Nat,k≤len∧u=.int .i64 k∧Hid ((List.range k).all (risAt (uB ros) ltU us)=true)∧Hid (Grw w wr∧wr.cell? ⟨w.heap.size,0,none⟩=some (.int .i64 ip)∧wr.cell? ⟨w.heap.size,1,none⟩=some (.int .i64 b)∧wr.cell? ⟨w.heap.size,2,none⟩=some (.int .i64 gt)∧wr.cell? ⟨w.heap.size,3,none⟩=some (.string gm)∧wr.cell? ⟨w.heap.size,4,none⟩=some (.string wm)∧wr.cell? ⟨w.heap.size,5,none⟩=some (.int .i64 rs)∧wr.cell? ⟨w.heap.size,6,none⟩=some (.slice x lenx capx)∧wr.cell? ⟨w.heap.size,7,none⟩=some (.slice y leny capy))) (fun u _=>len - (intOf u).toNat)
 case atStart=>exact ⟨0,Nat.zero_le _,rfl,rfl,(Grw.refl _).alloc _,by simp [go_sem],by simp [go_sem],by simp [go_sem],by simp [go_sem],by simp [go_sem],by simp [go_sem],by simp [go_sem],by simp [go_sem]⟩
 case round =>
  obtain ⟨k,hk,rfl,HO,HG⟩:=hrel
  obtain ⟨G0,d0,d1,d2,d3,d4,d5,d6,d7⟩:=HG.out
  have GG:=G0.below
  by_cases hlt:k<len
  ·obtain ⟨z,hx⟩:=at_of hl hlt
   obtain ⟨bk,off,vs,rfl,hb,hvl,hR,hc⟩:=RW.out.at UsR.kp GG hx
   have hsz:=SZ.out _ (List.mem_of_getElem? hx)
   have HS:Hid (risAt (uB ros) ltU us k=true→(List.range (k+1)).all (risAt (uB ros) ltU us)=true):=fun h=>ris_step HO.out h
   have HF:Hid (risAt (uB ros) ltU us k=false→risB (uB ros) ltU us=false):=fun h=>ris_no (by omega) h
   obtain ⟨nm,sa,ha,ro,bl,lg⟩:=z
   obtain ⟨rfl,-⟩:=hR
   have q0:wr.cell? ⟨bk,off+k * 6,none⟩=some (.string nm):=hc 0 _ rfl
   have q1:wr.cell? ⟨bk,off+k * 6+1,none⟩=some (.string sa):=hc 1 _ rfl
   have q2:wr.cell? ⟨bk,off+k * 6+2,none⟩=some (.string ha):=hc 2 _ rfl
   have q3:wr.cell? ⟨bk,off+k * 6+3,none⟩=some (.string ro):=hc 3 _ rfl
   have q4:wr.cell? ⟨bk,off+k * 6+4,none⟩=some (.int .i64 bl):=hc 4 _ rfl
   have q5:wr.cell? ⟨bk,off+k * 6+5,none⟩=some (.int .i64 lg):=hc 5 _ rfl
   have HK:Hid (∀ w,Rw (RoR 0) 5 w y ros→Calls Tryz.prog 136 #[.agg #[.int .i64 ip,.int .i64 b,.int .i64 gt,.string gm,.string wm,.int .i64 rs,.slice x lenx capx,.slice y leny capy],.agg #[.string nm,.string sa,.string ha,.string ro,.int .i64 bl,.int .i64 lg]] w fun e w'=>e=.returned (.bool (uB ros ⟨nm,sa,ha,ro,bl,lg⟩))∧Grw w w'):=fun w h=>userOK_any ip b gt gm wm rs x y lenx capx leny capy ros nm sa ha ro bl lg w h hl2 hl9 hsz
   have hltz:(k:Int)<(len:Int):=by omega
   by_cases hk0:k=0
   ·have eo:risAt (uB ros) ltU us k=uB ros ⟨nm,sa,ha,ro,bl,lg⟩:=by subst hk0;exact risAt_zero hx
    have hkd:decide (0<k)=false:=decide_eq_false (by omega)
    clear hk0
    rw [eo] at HS HF
    generalize uB ros ⟨nm,sa,ha,ro,bl,lg⟩=q at HK HS HF
    clear hc hvl hx eo
    have HA:Hid (Grw w (wr.alloc (.cells #[.string nm,.string sa,.string ha,.string ro,.int .i64 bl,.int .i64 lg] 144))):=G0.alloc _
    have hmix:Tryz.prog.follows .mixedOrders=true:=by kernel_rfl
    have y0:∀ n os,(grow (World.drewN (wr.alloc (.cells #[.string nm,.string sa,.string ha,.string ro,.int .i64 bl,.int .i64 lg] 144)) n) os).cell? ⟨wr.heap.size,0,none⟩=some (.string nm):=fun n os=>cell_grown (by simp) (by simp) n os
    have y1:∀ n os,(grow (World.drewN (wr.alloc (.cells #[.string nm,.string sa,.string ha,.string ro,.int .i64 bl,.int .i64 lg] 144)) n) os).cell? ⟨wr.heap.size,1,none⟩=some (.string sa):=fun n os=>cell_grown (by simp) (by simp) n os
    have y2:∀ n os,(grow (World.drewN (wr.alloc (.cells #[.string nm,.string sa,.string ha,.string ro,.int .i64 bl,.int .i64 lg] 144)) n) os).cell? ⟨wr.heap.size,2,none⟩=some (.string ha):=fun n os=>cell_grown (by simp) (by simp) n os
    have y3:∀ n os,(grow (World.drewN (wr.alloc (.cells #[.string nm,.string sa,.string ha,.string ro,.int .i64 bl,.int .i64 lg] 144)) n) os).cell? ⟨wr.heap.size,3,none⟩=some (.string ro):=fun n os=>cell_grown (by simp) (by simp) n os
    have y4:∀ n os,(grow (World.drewN (wr.alloc (.cells #[.string nm,.string sa,.string ha,.string ro,.int .i64 bl,.int .i64 lg] 144)) n) os).cell? ⟨wr.heap.size,4,none⟩=some (.int .i64 bl):=fun n os=>cell_grown (by simp) (by simp) n os
    have y5:∀ n os,(grow (World.drewN (wr.alloc (.cells #[.string nm,.string sa,.string ha,.string ro,.int .i64 bl,.int .i64 lg] 144)) n) os).cell? ⟨wr.heap.size,5,none⟩=some (.int .i64 lg):=fun n os=>cell_grown (by simp) (by simp) n os
    have e0:∀ n os,(grow (World.drewN (wr.alloc (.cells #[.string nm,.string sa,.string ha,.string ro,.int .i64 bl,.int .i64 lg] 144)) n) os).cell? ⟨w.heap.size,0,none⟩=some (.int .i64 ip):=fun n os=>(((Grw.refl wr).alloc _).trans ⟨n,os,rfl⟩).keep d0
    have e1:∀ n os,(grow (World.drewN (wr.alloc (.cells #[.string nm,.string sa,.string ha,.string ro,.int .i64 bl,.int .i64 lg] 144)) n) os).cell? ⟨w.heap.size,1,none⟩=some (.int .i64 b):=fun n os=>(((Grw.refl wr).alloc _).trans ⟨n,os,rfl⟩).keep d1
    have e2:∀ n os,(grow (World.drewN (wr.alloc (.cells #[.string nm,.string sa,.string ha,.string ro,.int .i64 bl,.int .i64 lg] 144)) n) os).cell? ⟨w.heap.size,2,none⟩=some (.int .i64 gt):=fun n os=>(((Grw.refl wr).alloc _).trans ⟨n,os,rfl⟩).keep d2
    have e3:∀ n os,(grow (World.drewN (wr.alloc (.cells #[.string nm,.string sa,.string ha,.string ro,.int .i64 bl,.int .i64 lg] 144)) n) os).cell? ⟨w.heap.size,3,none⟩=some (.string gm):=fun n os=>(((Grw.refl wr).alloc _).trans ⟨n,os,rfl⟩).keep d3
    have e4:∀ n os,(grow (World.drewN (wr.alloc (.cells #[.string nm,.string sa,.string ha,.string ro,.int .i64 bl,.int .i64 lg] 144)) n) os).cell? ⟨w.heap.size,4,none⟩=some (.string wm):=fun n os=>(((Grw.refl wr).alloc _).trans ⟨n,os,rfl⟩).keep d4
    have e5:∀ n os,(grow (World.drewN (wr.alloc (.cells #[.string nm,.string sa,.string ha,.string ro,.int .i64 bl,.int .i64 lg] 144)) n) os).cell? ⟨w.heap.size,5,none⟩=some (.int .i64 rs):=fun n os=>(((Grw.refl wr).alloc _).trans ⟨n,os,rfl⟩).keep d5
    have e6:∀ n os,(grow (World.drewN (wr.alloc (.cells #[.string nm,.string sa,.string ha,.string ro,.int .i64 bl,.int .i64 lg] 144)) n) os).cell? ⟨w.heap.size,6,none⟩=some (.slice x lenx capx):=fun n os=>(((Grw.refl wr).alloc _).trans ⟨n,os,rfl⟩).keep d6
    have e7:∀ n os,(grow (World.drewN (wr.alloc (.cells #[.string nm,.string sa,.string ha,.string ro,.int .i64 bl,.int .i64 lg] 144)) n) os).cell? ⟨w.heap.size,7,none⟩=some (.slice y leny capy):=fun n os=>(((Grw.refl wr).alloc _).trans ⟨n,os,rfl⟩).keep d7
    have YR:Hid (∀ n os,Rw (RoR 0) 5 (grow (World.drewN (wr.alloc (.cells #[.string nm,.string sa,.string ha,.string ro,.int .i64 bl,.int .i64 lg] 144)) n) os) y ros):=fun n os=>RY.out.keep (RoR.kp 0) (HA.out.trans ⟨n,os,rfl⟩).below
    cases q with
    | false =>
     have hd:Hid (risB (uB ros) ltU us=false):=HF.out (by simp)
     have hv:Hid (usB ros us=false):=by show usB ros us=false;unfold usB;rw [hd.out,Bool.and_false]
     go_wp2_with fail
     refine wp_region_quiet_grown (by assumption) (by kernel_rfl) ?_
     repeat (go_big_quiet_step (first | fail | (go_at_call 136;exact Calls.grown_of (HK.out _ (YR.out _ _)))))
     refine wpQuiet_nil ?_
     intro _ hw'
     obtain ⟨⟨nq,osq⟩,hw''⟩:=hw'
     subst hw''
     have HG1:Hid (Grw w _):=HA.out.trans ⟨nq,osq,rfl⟩
     clear y0 y1 y2 y3 y4 y5 e0 e1 e2 e3 e4 e5 e6 e7
     go_wp2
     go_ret
     exact ⟨by rw [hv.out];rfl,HG1.out⟩
    | true =>
     have HS':Hid ((List.range (k+1)).all (risAt (uB ros) ltU us)=true):=HS.out (by simp)
     clear HS HF
     go_wp2_with fail
     refine wp_region_quiet_grown (by assumption) (by kernel_rfl) ?_
     repeat (go_big_quiet_step (first | fail | (go_at_call 136;exact Calls.grown_of (HK.out _ (YR.out _ _)))))
     refine wpQuiet_nil ?_
     intro _ hw'
     obtain ⟨⟨nq,osq⟩,hw''⟩:=hw'
     subst hw''
     have HG1:Hid (Grw w (grow (World.drewN (wr.alloc (.cells #[.string nm,.string sa,.string ha,.string ro,.int .i64 bl,.int .i64 lg] 144)) nq) osq)∧(grow (World.drewN (wr.alloc (.cells #[.string nm,.string sa,.string ha,.string ro,.int .i64 bl,.int .i64 lg] 144)) nq) osq).cell? ⟨w.heap.size,0,none⟩=some (.int .i64 ip)∧(grow (World.drewN (wr.alloc (.cells #[.string nm,.string sa,.string ha,.string ro,.int .i64 bl,.int .i64 lg] 144)) nq) osq).cell? ⟨w.heap.size,1,none⟩=some (.int .i64 b)∧(grow (World.drewN (wr.alloc (.cells #[.string nm,.string sa,.string ha,.string ro,.int .i64 bl,.int .i64 lg] 144)) nq) osq).cell? ⟨w.heap.size,2,none⟩=some (.int .i64 gt)∧(grow (World.drewN (wr.alloc (.cells #[.string nm,.string sa,.string ha,.string ro,.int .i64 bl,.int .i64 lg] 144)) nq) osq).cell? ⟨w.heap.size,3,none⟩=some (.string gm)∧(grow (World.drewN (wr.alloc (.cells #[.string nm,.string sa,.string ha,.string ro,.int .i64 bl,.int .i64 lg] 144)) nq) osq).cell? ⟨w.heap.size,4,none⟩=some (.string wm)∧(grow (World.drewN (wr.alloc (.cells #[.string nm,.string sa,.string ha,.string ro,.int .i64 bl,.int .i64 lg] 144)) nq) osq).cell? ⟨w.heap.size,5,none⟩=some (.int .i64 rs)∧(grow (World.drewN (wr.alloc (.cells #[.string nm,.string sa,.string ha,.string ro,.int .i64 bl,.int .i64 lg] 144)) nq) osq).cell? ⟨w.heap.size,6,none⟩=some (.slice x lenx capx)∧(grow (World.drewN (wr.alloc (.cells #[.string nm,.string sa,.string ha,.string ro,.int .i64 bl,.int .i64 lg] 144)) nq) osq).cell? ⟨w.heap.size,7,none⟩=some (.slice y leny capy)):=⟨HA.out.trans ⟨nq,osq,rfl⟩,e0 nq osq,e1 nq osq,e2 nq osq,e3 nq osq,e4 nq osq,e5 nq osq,e6 nq osq,e7 nq osq⟩
     clear y0 y1 y2 y3 y4 y5 e0 e1 e2 e3 e4 e5 e6 e7
     go_wp2
     go_roundw
     case rel=>exact ⟨k+1,by omega,by go_num,HS',HG1⟩
     case measure=>simp [intOf];omega
   ·obtain ⟨j,hkj⟩:∃ j,k=j+1:=⟨k - 1,by omega⟩
    obtain ⟨z',hx'⟩:=at_of (k:=j) hl (by omega)
    obtain ⟨b',off',vs',e',hb',hvl',hR',hc'⟩:=RW.out.at UsR.kp GG hx'
    cases e'
    obtain ⟨nm',sa',ha',ro',bl',lg'⟩:=z'
    obtain ⟨rfl,-⟩:=hR'
    have p0:wr.cell? ⟨bk,off+j * 6,none⟩=some (.string nm'):=hc' 0 _ rfl
    obtain ⟨lt,hlt2⟩:∃ lt,Op.bytesLess nm'.toList nm.toList=lt:=⟨_,rfl⟩
    have eo:risAt (uB ros) ltU us k=(uB ros ⟨nm,sa,ha,ro,bl,lg⟩ && lt):=by subst hkj;rw [← hlt2];exact risAt_succ hx hx'
    have hkd:decide (0<k)=true:=decide_eq_true (by omega)
    have hj:(k:Int) - 1=(j:Int):=by omega
    have hjl:(j:Int)<(len:Int):=by omega
    clear hk0 hkj
    rw [eo] at HS HF
    generalize uB ros ⟨nm,sa,ha,ro,bl,lg⟩=q at HK HS HF
    clear hc hvl hx eo hc' hvl' hx'
    have HA:Hid (Grw w (wr.alloc (.cells #[.string nm,.string sa,.string ha,.string ro,.int .i64 bl,.int .i64 lg] 144))):=G0.alloc _
    have hmix:Tryz.prog.follows .mixedOrders=true:=by kernel_rfl
    have y0:∀ n os,(grow (World.drewN (wr.alloc (.cells #[.string nm,.string sa,.string ha,.string ro,.int .i64 bl,.int .i64 lg] 144)) n) os).cell? ⟨wr.heap.size,0,none⟩=some (.string nm):=fun n os=>cell_grown (by simp) (by simp) n os
    have y1:∀ n os,(grow (World.drewN (wr.alloc (.cells #[.string nm,.string sa,.string ha,.string ro,.int .i64 bl,.int .i64 lg] 144)) n) os).cell? ⟨wr.heap.size,1,none⟩=some (.string sa):=fun n os=>cell_grown (by simp) (by simp) n os
    have y2:∀ n os,(grow (World.drewN (wr.alloc (.cells #[.string nm,.string sa,.string ha,.string ro,.int .i64 bl,.int .i64 lg] 144)) n) os).cell? ⟨wr.heap.size,2,none⟩=some (.string ha):=fun n os=>cell_grown (by simp) (by simp) n os
    have y3:∀ n os,(grow (World.drewN (wr.alloc (.cells #[.string nm,.string sa,.string ha,.string ro,.int .i64 bl,.int .i64 lg] 144)) n) os).cell? ⟨wr.heap.size,3,none⟩=some (.string ro):=fun n os=>cell_grown (by simp) (by simp) n os
    have y4:∀ n os,(grow (World.drewN (wr.alloc (.cells #[.string nm,.string sa,.string ha,.string ro,.int .i64 bl,.int .i64 lg] 144)) n) os).cell? ⟨wr.heap.size,4,none⟩=some (.int .i64 bl):=fun n os=>cell_grown (by simp) (by simp) n os
    have y5:∀ n os,(grow (World.drewN (wr.alloc (.cells #[.string nm,.string sa,.string ha,.string ro,.int .i64 bl,.int .i64 lg] 144)) n) os).cell? ⟨wr.heap.size,5,none⟩=some (.int .i64 lg):=fun n os=>cell_grown (by simp) (by simp) n os
    have e0:∀ n os,(grow (World.drewN (wr.alloc (.cells #[.string nm,.string sa,.string ha,.string ro,.int .i64 bl,.int .i64 lg] 144)) n) os).cell? ⟨w.heap.size,0,none⟩=some (.int .i64 ip):=fun n os=>(((Grw.refl wr).alloc _).trans ⟨n,os,rfl⟩).keep d0
    have e1:∀ n os,(grow (World.drewN (wr.alloc (.cells #[.string nm,.string sa,.string ha,.string ro,.int .i64 bl,.int .i64 lg] 144)) n) os).cell? ⟨w.heap.size,1,none⟩=some (.int .i64 b):=fun n os=>(((Grw.refl wr).alloc _).trans ⟨n,os,rfl⟩).keep d1
    have e2:∀ n os,(grow (World.drewN (wr.alloc (.cells #[.string nm,.string sa,.string ha,.string ro,.int .i64 bl,.int .i64 lg] 144)) n) os).cell? ⟨w.heap.size,2,none⟩=some (.int .i64 gt):=fun n os=>(((Grw.refl wr).alloc _).trans ⟨n,os,rfl⟩).keep d2
    have e3:∀ n os,(grow (World.drewN (wr.alloc (.cells #[.string nm,.string sa,.string ha,.string ro,.int .i64 bl,.int .i64 lg] 144)) n) os).cell? ⟨w.heap.size,3,none⟩=some (.string gm):=fun n os=>(((Grw.refl wr).alloc _).trans ⟨n,os,rfl⟩).keep d3
    have e4:∀ n os,(grow (World.drewN (wr.alloc (.cells #[.string nm,.string sa,.string ha,.string ro,.int .i64 bl,.int .i64 lg] 144)) n) os).cell? ⟨w.heap.size,4,none⟩=some (.string wm):=fun n os=>(((Grw.refl wr).alloc _).trans ⟨n,os,rfl⟩).keep d4
    have e5:∀ n os,(grow (World.drewN (wr.alloc (.cells #[.string nm,.string sa,.string ha,.string ro,.int .i64 bl,.int .i64 lg] 144)) n) os).cell? ⟨w.heap.size,5,none⟩=some (.int .i64 rs):=fun n os=>(((Grw.refl wr).alloc _).trans ⟨n,os,rfl⟩).keep d5
    have e6:∀ n os,(grow (World.drewN (wr.alloc (.cells #[.string nm,.string sa,.string ha,.string ro,.int .i64 bl,.int .i64 lg] 144)) n) os).cell? ⟨w.heap.size,6,none⟩=some (.slice x lenx capx):=fun n os=>(((Grw.refl wr).alloc _).trans ⟨n,os,rfl⟩).keep d6
    have e7:∀ n os,(grow (World.drewN (wr.alloc (.cells #[.string nm,.string sa,.string ha,.string ro,.int .i64 bl,.int .i64 lg] 144)) n) os).cell? ⟨w.heap.size,7,none⟩=some (.slice y leny capy):=fun n os=>(((Grw.refl wr).alloc _).trans ⟨n,os,rfl⟩).keep d7
    have p1:∀ n os,(grow (World.drewN (wr.alloc (.cells #[.string nm,.string sa,.string ha,.string ro,.int .i64 bl,.int .i64 lg] 144)) n) os).cell? ⟨bk,off+j * 6,none⟩=some (.string nm'):=fun n os=>(((Grw.refl wr).alloc _).trans ⟨n,os,rfl⟩).keep p0
    have YR:Hid (∀ n os,Rw (RoR 0) 5 (grow (World.drewN (wr.alloc (.cells #[.string nm,.string sa,.string ha,.string ro,.int .i64 bl,.int .i64 lg] 144)) n) os) y ros):=fun n os=>RY.out.keep (RoR.kp 0) (HA.out.trans ⟨n,os,rfl⟩).below
    cases q with
    | false =>
     have hd:Hid (risB (uB ros) ltU us=false):=HF.out (by simp)
     have hv:Hid (usB ros us=false):=by show usB ros us=false;unfold usB;rw [hd.out,Bool.and_false]
     go_wp2_with fail
     refine wp_region_quiet_grown (by assumption) (by kernel_rfl) ?_
     repeat (go_big_quiet_step (first | fail | (go_at_call 136;exact Calls.grown_of (HK.out _ (YR.out _ _)))))
     refine wpQuiet_nil ?_
     intro _ hw'
     obtain ⟨⟨nq,osq⟩,hw''⟩:=hw'
     subst hw''
     have HG1:Hid (Grw w _):=HA.out.trans ⟨nq,osq,rfl⟩
     clear y0 y1 y2 y3 y4 y5 e0 e1 e2 e3 e4 e5 e6 e7 p1
     go_wp2
     go_ret
     exact ⟨by rw [hv.out];rfl,HG1.out⟩
    | true =>
     cases lt with
     | true =>
      have HS':Hid ((List.range (k+1)).all (risAt (uB ros) ltU us)=true):=HS.out (by simp)
      clear HS HF
      go_wp2_with fail
      refine wp_region_quiet_grown (by assumption) (by kernel_rfl) ?_
      repeat (go_big_quiet_step (first | fail | (go_at_call 136;exact Calls.grown_of (HK.out _ (YR.out _ _)))))
      refine wpQuiet_nil ?_
      intro _ hw'
      obtain ⟨⟨nq,osq⟩,hw''⟩:=hw'
      subst hw''
      have HG1:Hid (Grw w (grow (World.drewN (wr.alloc (.cells #[.string nm,.string sa,.string ha,.string ro,.int .i64 bl,.int .i64 lg] 144)) nq) osq)∧(grow (World.drewN (wr.alloc (.cells #[.string nm,.string sa,.string ha,.string ro,.int .i64 bl,.int .i64 lg] 144)) nq) osq).cell? ⟨w.heap.size,0,none⟩=some (.int .i64 ip)∧(grow (World.drewN (wr.alloc (.cells #[.string nm,.string sa,.string ha,.string ro,.int .i64 bl,.int .i64 lg] 144)) nq) osq).cell? ⟨w.heap.size,1,none⟩=some (.int .i64 b)∧(grow (World.drewN (wr.alloc (.cells #[.string nm,.string sa,.string ha,.string ro,.int .i64 bl,.int .i64 lg] 144)) nq) osq).cell? ⟨w.heap.size,2,none⟩=some (.int .i64 gt)∧(grow (World.drewN (wr.alloc (.cells #[.string nm,.string sa,.string ha,.string ro,.int .i64 bl,.int .i64 lg] 144)) nq) osq).cell? ⟨w.heap.size,3,none⟩=some (.string gm)∧(grow (World.drewN (wr.alloc (.cells #[.string nm,.string sa,.string ha,.string ro,.int .i64 bl,.int .i64 lg] 144)) nq) osq).cell? ⟨w.heap.size,4,none⟩=some (.string wm)∧(grow (World.drewN (wr.alloc (.cells #[.string nm,.string sa,.string ha,.string ro,.int .i64 bl,.int .i64 lg] 144)) nq) osq).cell? ⟨w.heap.size,5,none⟩=some (.int .i64 rs)∧(grow (World.drewN (wr.alloc (.cells #[.string nm,.string sa,.string ha,.string ro,.int .i64 bl,.int .i64 lg] 144)) nq) osq).cell? ⟨w.heap.size,6,none⟩=some (.slice x lenx capx)∧(grow (World.drewN (wr.alloc (.cells #[.string nm,.string sa,.string ha,.string ro,.int .i64 bl,.int .i64 lg] 144)) nq) osq).cell? ⟨w.heap.size,7,none⟩=some (.slice y leny capy)):=⟨HA.out.trans ⟨nq,osq,rfl⟩,e0 nq osq,e1 nq osq,e2 nq osq,e3 nq osq,e4 nq osq,e5 nq osq,e6 nq osq,e7 nq osq⟩
      clear y0 y1 y2 y3 y4 y5 e0 e1 e2 e3 e4 e5 e6 e7 p1
      go_wp2
      go_roundw
      case rel=>exact ⟨k+1,by omega,by go_num,HS',HG1⟩
      case measure=>simp [intOf];omega
     | false =>
      have hd:Hid (risB (uB ros) ltU us=false):=HF.out (by simp)
      have hv:Hid (usB ros us=false):=by show usB ros us=false;unfold usB;rw [hd.out,Bool.and_false]
      go_wp2_with fail
      refine wp_region_quiet_grown (by assumption) (by kernel_rfl) ?_
      repeat (go_big_quiet_step (first | fail | (go_at_call 136;exact Calls.grown_of (HK.out _ (YR.out _ _)))))
      refine wpQuiet_nil ?_
      intro _ hw'
      obtain ⟨⟨nq,osq⟩,hw''⟩:=hw'
      subst hw''
      have HG1:Hid (Grw w _):=HA.out.trans ⟨nq,osq,rfl⟩
      clear y0 y1 y2 y3 y4 y5 e0 e1 e2 e3 e4 e5 e6 e7 p1
      go_wp2
      go_ret
      exact ⟨by rw [hv.out];rfl,HG1.out⟩
  ·obtain rfl:k=len:=by omega
   have hv:Hid (usB ros us=true):=by show usB ros us=true;unfold usB;rw [ris_end hl HO.out,dec_y (by omega)];rfl
   go_wp2
   go_ret
   exact ⟨by rw [hv.out];rfl,G0⟩
open Go.RowKit Go.Maps Go.ChangeMaps Go.MapKept
open Go.WideElems (Fit rd rg pl rd_val elemAt)
theorem own_clear {H:Type} {P:Program} {k t e:TypeId} {R:Value→Option (DataW H × List MemPlace)} {w:World} {b n:Nat} {D:DataW H} (h:w.ownsMap P k R b n D) (ht:P.underlying t=some (.map k e)) (ty:TypeId) :
  ∃ w',(Builtin.clear_ #[t] ty #[.map (some b)]).run P w=.ok (.tuple #[]) w'∧w'.ownsMap P k R b 0 (.map [])∧w.grownBy w' (some b):=by
 obtain ⟨es,clock,hb,F,hs,hD⟩:=h
 have hlt:b<w.heap.size:=(Array.getElem?_eq_some_iff.1 hb).1
 refine ⟨setBlock w b (.map #[] clock),?_,⟨#[],clock,heap_setBlock_same hb _,⟨by simp,stamped_empty clock,by simp⟩,Nat.le_refl _,rfl⟩,⟨rfl,rfl,rfl,by simp [setBlock],fun i _ hi=>heap_setBlock_other hb _ (fun e=>hi (by rw [e]))⟩⟩
 unfold Builtin.clear_
 have e1:(underlying t).run P w=.ok (.map k e) w:=by simp [underlying,ht]
 have e2:=MapKept.run_getObj_map (P:=P) hb
 have e3:=MapKept.run_setObj_map (P:=P) (.map #[] clock) hb
 simp [go_sem,e1,e2,e3,setBlock]
open Go.Shelf Go.Lib Go.Proofs Go.Maps Go.WideAt Go.WideMaps Go.RowKit Go.PlainAid Go.Proofs.YtbeehlhcckndcaaGreat.Bt Go.Sort
set_option maxHeartbeats 1000000 in
theorem inLan_any (ip b gt:Int) (gm wm:ByteArray) (rs:Int) (x y:Option Addr) (lenx capx leny capy:Nat) (q:Int) (w:World) :
  Calls Tryz.prog 168 #[.agg #[.int .i64 ip,.int .i64 b,.int .i64 gt,.string gm,.string wm,.int .i64 rs,.slice x lenx capx,.slice y leny capy],.int .i64 q] w fun e w'=>e=.returned (.bool (nhB ip b q))∧Grw w w':=by
 have HA:Hid (∀ w,Calls Tryz.prog 132 #[.agg #[.int .i64 ip,.int .i64 b],.int .i64 q] w fun e w'=>e=.returned (.tuple #[.bool (nhB ip b q),.int .i64 (nhC ip b q)])∧Grw w w'):=fun w=>implNetHas_any ip b q w
 have hcase:(nhC ip b q=0) ∨ (nhC ip b q ≠ 0∧nhB ip b q=false):=by
  unfold nhC nhB
  cases nB ip b <;> cases dec (0≤q∧q≤4294967295) <;> simp
 generalize nhB ip b q=r at HA hcase ⊢
 generalize nhC ip b q=c at HA hcase
 rcases hcase with rfl | ⟨hc,rfl⟩
 ·go_enter Tryz.func168,Tryz.ntmps168
  go_wp2_with fail
  refine (HA.out _).mono ?_
  rintro e w2 ⟨rfl,g2⟩
  go_wp2
  go_ret
  exact ⟨by first | rfl | simp,((Grw.refl w).alloc _).trans g2⟩
 ·have hcz:(c == 0)=false:=by simp [hc]
  clear hc
  go_enter Tryz.func168,Tryz.ntmps168
  go_wp2_with fail
  refine (HA.out _).mono ?_
  rintro e w2 ⟨rfl,g2⟩
  go_wp2
  go_ret
  exact ⟨by first | rfl | simp,((Grw.refl w).alloc _).trans g2⟩
set_option maxHeartbeats 4000000 in
theorem sessionOK_any (ip b gt:Int) (gm wm:ByteArray) (rs:Int) (x y:Option Addr) (lenx capx leny capy:Nat) (ua sa fa ra:Option Addr) (ul uc sl sc fl fc rl rc:Nat) (nx:Int) (id us1:Int) (mc:ByteArray) (sip be la ud qu un il:Int) (w:World) (hn:nB ip b=true) (hn1:1≤nx) (hn2:nx≤10000) (mu:ul≤1048576) :
  Calls Tryz.prog 137 #[.agg #[.int .i64 ip,.int .i64 b,.int .i64 gt,.string gm,.string wm,.int .i64 rs,.slice x lenx capx,.slice y leny capy],.agg #[.slice ua ul uc,.slice sa sl sc,.slice fa fl fc,.slice ra rl rc,.int .i64 nx],.agg #[.int .i64 id,.int .i64 us1,.string mc,.int .i64 sip,.int .i64 be,.int .i64 la,.int .i64 ud,.int .i64 qu,.int .i64 un,.int .i64 il]] w fun e w'=>e=.returned (.bool (sB nx ul ip b ⟨id,us1,mc,sip,be,la,ud,qu,un,il⟩))∧Grw w w':=by
 have T0:Hid (∀ w,Calls Tryz.prog 86 #[.int .i64 id,.int .i64 1,.int .i64 (nx - 1)] w fun e w'=>e=.returned (.bool (dec (1≤id∧id≤nx - 1)))∧w'=w):=fun w=>between_any id 1 (nx - 1) w
 have T1:Hid (∀ w,Calls Tryz.prog 86 #[.int .i64 us1,.int .i64 0,.int .i64 ((ul:Int) - 1)] w fun e w'=>e=.returned (.bool (dec (0≤us1∧us1≤(ul:Int) - 1)))∧w'=w):=fun w=>between_any us1 0 ((ul:Int) - 1) w
 have T2:Hid (∀ w,Calls Tryz.prog 133 #[.string mc] w fun e w'=>e=.returned (.bool (dec (mc.size=6)))∧w'=w):=fun w=>isMac_any mc w
 have T3:Hid (∀ w,Calls Tryz.prog 168 #[.agg #[.int .i64 ip,.int .i64 b,.int .i64 gt,.string gm,.string wm,.int .i64 rs,.slice x lenx capx,.slice y leny capy],.int .i64 sip] w fun e w'=>e=.returned (.bool (nhB ip b sip))∧Grw w w'):=fun w=>inLan_any ip b gt gm wm rs x y lenx capx leny capy sip w
 have T4:Hid (∀ w,Calls Tryz.prog 123 #[.int .i64 be] w fun e w'=>e=.returned (.bool (dec (0≤be∧be≤100000)))∧w'=w):=fun w=>timeOK_any be w
 have T5:Hid (∀ w,Calls Tryz.prog 86 #[.int .i64 la,.int .i64 be,.int .i64 100000] w fun e w'=>e=.returned (.bool (dec (be≤la∧la≤100000)))∧w'=w):=fun w=>between_any la be 100000 w
 have T6:Hid (∀ w,Calls Tryz.prog 86 #[.int .i64 un,.int .i64 be,.int .i64 101000] w fun e w'=>e=.returned (.bool (dec (be≤un∧un≤101000)))∧w'=w):=fun w=>between_any un be 101000 w
 have T7:Hid (∀ w,Calls Tryz.prog 86 #[.int .i64 qu,.int .i64 1,.int .i64 1000000] w fun e w'=>e=.returned (.bool (dec (1≤qu∧qu≤1000000)))∧w'=w):=fun w=>between_any qu 1 1000000 w
 have T8:Hid (∀ w,Calls Tryz.prog 86 #[.int .i64 ud,.int .i64 0,.int .i64 qu] w fun e w'=>e=.returned (.bool (dec (0≤ud∧ud≤qu)))∧w'=w):=fun w=>between_any ud 0 qu w
 have T9:Hid (∀ w,Calls Tryz.prog 169 #[.int .i64 il] w fun e w'=>e=.returned (.bool (dec (1≤il∧il≤1000)))∧w'=w):=fun w=>minutesOK_any il w
 have hnh:nhB ip b sip=(hB ip b sip && dec (0≤sip∧sip≤4294967295)):=by unfold nhB;rw [hn,Bool.true_and,Bool.and_comm]
 obtain ⟨z,hz⟩:∃ z,z=sB nx ul ip b ⟨id,us1,mc,sip,be,la,ud,qu,un,il⟩:=⟨_,rfl⟩
 have E:Hid (z=(dec (1≤id∧id≤nx - 1) && (dec (0≤us1∧us1≤(ul:Int) - 1) && (dec (mc.size=6) && (nhB ip b sip && (dec (0≤be∧be≤100000) && (dec (be≤la∧la≤100000) && (dec (be≤un∧un≤101000) && (dec (1≤qu∧qu≤1000000) && (dec (0≤ud∧ud≤qu) && dec (1≤il∧il≤1000))))))))))):=by
  rw [hz,hnh]
  unfold sB
  dsimp only
  ac_rfl
 rw [← hz]
 clear hz hnh
 generalize dec (1≤id∧id≤nx - 1)=t0 at T0 E
 generalize dec (0≤us1∧us1≤(ul:Int) - 1)=t1 at T1 E
 generalize dec (mc.size=6)=t2 at T2 E
 generalize nhB ip b sip=t3 at T3 E
 generalize dec (0≤be∧be≤100000)=t4 at T4 E
 generalize dec (be≤la∧la≤100000)=t5 at T5 E
 generalize dec (be≤un∧un≤101000)=t6 at T6 E
 generalize dec (1≤qu∧qu≤1000000)=t7 at T7 E
 generalize dec (0≤ud∧ud≤qu)=t8 at T8 E
 generalize dec (1≤il∧il≤1000)=t9 at T9 E
 go_enter Tryz.func137,Tryz.ntmps137
 go_wp2_with fail
 refine (T0.out _).mono ?_
 rintro e w9 ⟨rfl,rfl⟩
 cases t0 with
 | false =>
  have hv:Hid (z=false):=by show z=false;rw [E.out];simp
  go_wp2
  go_ret
  exact ⟨by rw [hv.out];rfl,((((Grw.refl w).alloc _).alloc _).alloc _)⟩
 | true =>
  go_wp2_with fail
  refine (T1.out _).mono ?_
  rintro e w9 ⟨rfl,rfl⟩
  cases t1 with
  | false =>
   have hv:Hid (z=false):=by show z=false;rw [E.out];simp
   go_wp2
   go_ret
   exact ⟨by rw [hv.out];rfl,((((Grw.refl w).alloc _).alloc _).alloc _)⟩
  | true =>
   go_wp2_with fail
   refine (T2.out _).mono ?_
   rintro e w9 ⟨rfl,rfl⟩
   cases t2 with
   | false =>
    have hv:Hid (z=false):=by show z=false;rw [E.out];simp
    go_wp2
    go_ret
    exact ⟨by rw [hv.out];rfl,((((Grw.refl w).alloc _).alloc _).alloc _)⟩
   | true =>
    go_wp2_with fail
    refine (T3.out _).mono ?_
    rintro e w2 ⟨rfl,g2⟩
    have x0:w2.cell? ⟨w.heap.size+1+1,0,none⟩=some (.int .i64 id):=g2.keep (a:=⟨w.heap.size+1+1,0,none⟩) (v:=.int .i64 id) (by simp [go_sem])
    have x1:w2.cell? ⟨w.heap.size+1+1,1,none⟩=some (.int .i64 us1):=g2.keep (a:=⟨w.heap.size+1+1,1,none⟩) (v:=.int .i64 us1) (by simp [go_sem])
    have x2:w2.cell? ⟨w.heap.size+1+1,2,none⟩=some (.string mc):=g2.keep (a:=⟨w.heap.size+1+1,2,none⟩) (v:=.string mc) (by simp [go_sem])
    have x3:w2.cell? ⟨w.heap.size+1+1,3,none⟩=some (.int .i64 sip):=g2.keep (a:=⟨w.heap.size+1+1,3,none⟩) (v:=.int .i64 sip) (by simp [go_sem])
    have x4:w2.cell? ⟨w.heap.size+1+1,4,none⟩=some (.int .i64 be):=g2.keep (a:=⟨w.heap.size+1+1,4,none⟩) (v:=.int .i64 be) (by simp [go_sem])
    have x5:w2.cell? ⟨w.heap.size+1+1,5,none⟩=some (.int .i64 la):=g2.keep (a:=⟨w.heap.size+1+1,5,none⟩) (v:=.int .i64 la) (by simp [go_sem])
    have x6:w2.cell? ⟨w.heap.size+1+1,6,none⟩=some (.int .i64 ud):=g2.keep (a:=⟨w.heap.size+1+1,6,none⟩) (v:=.int .i64 ud) (by simp [go_sem])
    have x7:w2.cell? ⟨w.heap.size+1+1,7,none⟩=some (.int .i64 qu):=g2.keep (a:=⟨w.heap.size+1+1,7,none⟩) (v:=.int .i64 qu) (by simp [go_sem])
    have x8:w2.cell? ⟨w.heap.size+1+1,8,none⟩=some (.int .i64 un):=g2.keep (a:=⟨w.heap.size+1+1,8,none⟩) (v:=.int .i64 un) (by simp [go_sem])
    have x9:w2.cell? ⟨w.heap.size+1+1,9,none⟩=some (.int .i64 il):=g2.keep (a:=⟨w.heap.size+1+1,9,none⟩) (v:=.int .i64 il) (by simp [go_sem])
    have BX:Hid (Grw w w2):=((((Grw.refl w).alloc _).alloc _).alloc _).trans g2
    clear g2
    cases t3 with
    | false =>
     have hv:Hid (z=false):=by show z=false;rw [E.out];simp
     go_wp2
     go_ret
     exact ⟨by rw [hv.out];rfl,BX.out⟩
    | true =>
     go_wp2_with fail
     refine (T4.out _).mono ?_
     rintro e w9 ⟨rfl,rfl⟩
     cases t4 with
     | false =>
      have hv:Hid (z=false):=by show z=false;rw [E.out];simp
      go_wp2
      go_ret
      exact ⟨by rw [hv.out];rfl,BX.out⟩
     | true =>
      go_wp2_with fail
      refine (T5.out _).mono ?_
      rintro e w9 ⟨rfl,rfl⟩
      cases t5 with
      | false =>
       have hv:Hid (z=false):=by show z=false;rw [E.out];simp
       go_wp2
       go_ret
       exact ⟨by rw [hv.out];rfl,BX.out⟩
      | true =>
       go_wp2_with fail
       refine (T6.out _).mono ?_
       rintro e w9 ⟨rfl,rfl⟩
       cases t6 with
       | false =>
        have hv:Hid (z=false):=by show z=false;rw [E.out];simp
        go_wp2
        go_ret
        exact ⟨by rw [hv.out];rfl,BX.out⟩
       | true =>
        go_wp2_with fail
        refine (T7.out _).mono ?_
        rintro e w9 ⟨rfl,rfl⟩
        cases t7 with
        | false =>
         have hv:Hid (z=false):=by show z=false;rw [E.out];simp
         go_wp2
         go_ret
         exact ⟨by rw [hv.out];rfl,BX.out⟩
        | true =>
         go_wp2_with fail
         refine (T8.out _).mono ?_
         rintro e w9 ⟨rfl,rfl⟩
         cases t8 with
         | false =>
          have hv:Hid (z=false):=by show z=false;rw [E.out];simp
          go_wp2
          go_ret
          exact ⟨by rw [hv.out];rfl,BX.out⟩
         | true =>
          go_wp2_with fail
          refine (T9.out _).mono ?_
          rintro e w9 ⟨rfl,rfl⟩
          have hv:Hid (z=t9):=by show z=t9;rw [E.out];simp
          go_wp2
          go_ret
          exact ⟨by rw [hv.out];rfl,BX.out⟩
theorem numOf_inj {f g:Nat→Int} (hf:∀ k,0≤f k∧f k≤255) (hg:∀ k,0≤g k∧g k≤255):∀ k,numOf f k=numOf g k→∀ j,j<k→f j=g j
 | 0,_,j,hj=>absurd hj (by omega)
 | k+1,h,j,hj=>by
  rw [numOf,numOf] at h
  have a:=hf k
  have b:=hg k
  have e1:numOf f k=numOf g k:=by omega
  by_cases hjk:j<k
  ·exact numOf_inj hf hg k e1 j hjk
  ·obtain rfl:j=k:=by omega
   omega
theorem bt_list9 (s:ByteArray) (j:Nat) (h:j<s.size):bt s j=((s.data.toList[j]'(by simpa using h)).toNat:Int):=by
 unfold bt;rw [dif_pos h];rfl
def macN (s:SessV):Int:=numOf (bt s.mc) 6
theorem macN_iff (x y:SessV) (hx:x.mc.size=6) (hy:y.mc.size=6):macN x=macN y ↔ x.mc.toList=y.mc.toList:=by
 constructor
 ·intro h
  have h1:=numOf_inj (fun k=>⟨bt_nonneg _ k,bt_le _ k⟩) (fun k=>⟨bt_nonneg _ k,bt_le _ k⟩) 6 h
  rw [ByteArray.toList_eq,ByteArray.toList_eq]
  apply List.ext_getElem (by simp;omega)
  intro j hj1 hj2
  have hj:j<6:=by simp at hj1;omega
  have e:=h1 j hj
  rw [bt_list9 x.mc j (by omega),bt_list9 y.mc j (by omega)] at e
  exact UInt8.toNat_inj.1 (by exact_mod_cast e)
 ·intro h
  have e:x.mc=y.mc:=by
   rw [ByteArray.toList_eq,ByteArray.toList_eq] at h
   apply ByteArray.ext
   exact Array.toList_inj.1 h
  unfold macN
  rw [e]
set_option maxHeartbeats 1000000 in
theorem apart1_any (id us1:Int) (mc:ByteArray) (sip be la ud qu un il:Int) (w:World) :
  Calls Tryz.prog 170 #[.agg #[.int .i64 id,.int .i64 us1,.string mc,.int .i64 sip,.int .i64 be,.int .i64 la,.int .i64 ud,.int .i64 qu,.int .i64 un,.int .i64 il]] w fun e w'=>e=.returned (.int .i64 us1)∧Below w.heap.size w w':=by
 go_enter Tryz.func170,Tryz.ntmps170
 go_wp2
 go_ret
 exact ⟨rfl,(Below.refl _ _).alloc (Nat.le_refl _) _⟩
set_option maxHeartbeats 1000000 in
theorem apart3_any (id us1:Int) (mc:ByteArray) (sip be la ud qu un il:Int) (w:World) :
  Calls Tryz.prog 173 #[.agg #[.int .i64 id,.int .i64 us1,.string mc,.int .i64 sip,.int .i64 be,.int .i64 la,.int .i64 ud,.int .i64 qu,.int .i64 un,.int .i64 il]] w fun e w'=>e=.returned (.int .i64 sip)∧Below w.heap.size w w':=by
 go_enter Tryz.func173,Tryz.ntmps173
 go_wp2
 go_ret
 exact ⟨rfl,(Below.refl _ _).alloc (Nat.le_refl _) _⟩
set_option maxHeartbeats 1000000 in
theorem apart2_any (id us1:Int) (mc:ByteArray) (sip be la ud qu un il:Int) (w:World) (h6:mc.size=6) :
  Calls Tryz.prog 171 #[.agg #[.int .i64 id,.int .i64 us1,.string mc,.int .i64 sip,.int .i64 be,.int .i64 la,.int .i64 ud,.int .i64 qu,.int .i64 un,.int .i64 il]] w fun e w'=>e=.returned (.int .i64 (numOf (bt mc) 6))∧Below w.heap.size w w':=by
 obtain ⟨W0,hW0⟩:∃ W,W=w.alloc (.cells #[.int .i64 id,.int .i64 us1,.string mc,.int .i64 sip,.int .i64 be,.int .i64 la,.int .i64 ud,.int .i64 qu,.int .i64 un,.int .i64 il] 124):=⟨_,rfl⟩
 have hsz:W0.heap.size=w.heap.size+1:=by rw [hW0];simp
 have bw:Below w.heap.size w W0:=by rw [hW0];exact (Below.refl _ _).alloc (Nat.le_refl _) _
 obtain ⟨cap,w1,hcv,b1,z1,-,h5⟩:=conv_bytes (P:=Tryz.prog) W0 9 203 5 mc Tryz.underlying9 Tryz.underlying203 Tryz.underlying5
 have e6:numOf (bt mc) mc.size=numOf (bt mc) 6:=by rw [h6]
 have HN:Hid (Calls Tryz.prog 172 #[.slice (some ⟨W0.heap.size,0,none⟩) mc.size cap] w1 fun e w'=>e=.returned (.tuple #[.int .i64 (numOf (bt mc) 6),.int .i64 0])∧w'=w1):=by
  rw [← e6]
  exact numberOf_yes _ mc.size cap (bt mc) w1 ⟨fun k=>⟨bt_nonneg mc k,bt_le mc k⟩,fun _=>⟨_,0,rfl,fun i hi=>by rw [Nat.zero_add];exact h5 i hi⟩⟩ (by omega) (by omega)
 have B1:Hid (Below w.heap.size w w1):=bw.trans (b1.mono bw.size)
 rw [hsz] at hcv HN
 rw [hW0] at hcv
 clear b1 z1 h5 e6 h6 bw hsz hW0
 generalize numOf (bt mc) 6=r at HN ⊢
 go_enter Tryz.func171,Tryz.ntmps171
 go_wp2_with fail
 refine HN.out.mono ?_
 rintro e w2 ⟨rfl,rfl⟩
 go_wp2
 go_ret
 exact ⟨rfl,B1.out⟩
def mkN (i:Nat):Nat:=if i=0 then 170 else if i=1 then 171 else 173
def mkF (i:Nat):SessV→Int:=if i=0 then (fun s=>s.us) else if i=1 then macN else fun s=>s.ip
theorem mk_enter (i:Nat):∀ args w,(callFunc (mkN i) args).run Tryz.prog w=.ok (.enter (mkN i) args) w:=by
 unfold mkN
 split
 ·exact enters_of Tryz.func170 (by kernel_rfl) rfl
 split
 ·exact enters_of Tryz.func171 (by kernel_rfl) rfl
 ·exact enters_of Tryz.func173 (by kernel_rfl) rfl
theorem mk_any (i:Nat) (id us1:Int) (mc:ByteArray) (sip be la ud qu un il:Int) (w:World) (h6:mc.size=6) :
  Calls Tryz.prog (mkN i) #[.agg #[.int .i64 id,.int .i64 us1,.string mc,.int .i64 sip,.int .i64 be,.int .i64 la,.int .i64 ud,.int .i64 qu,.int .i64 un,.int .i64 il]] w fun e w'=>e=.returned (.int .i64 (mkF i ⟨id,us1,mc,sip,be,la,ud,qu,un,il⟩))∧Below w.heap.size w w':=by
 unfold mkN mkF
 split
 ·exact apart1_any id us1 mc sip be la ud qu un il w
 split
 ·exact apart2_any id us1 mc sip be la ud qu un il w h6
 ·exact apart3_any id us1 mc sip be la ud qu un il w
theorem keyI9:Keyed Tryz.prog 3:=int_keyed Tryz.underlying3
theorem map_below {H:Type} {P:Program} {k:TypeId} {R:Value→Option (DataW H × List MemPlace)} {w w':World} {b n m:Nat} {D:DataW H} (h:w.ownsMap P k R b n D) (hb:Below m w w') (hm:b<m):w'.ownsMap P k R b n D:=by
 obtain ⟨es,clock,h1,h2⟩:=h
 exact ⟨es,clock,(hb.block b hm).trans h1,h2⟩
theorem mk_wf (i:Nat) (s:SessV) (h:SeRok s):(Lit.int .i64 (mkF i s)).wf=true:=by
 unfold mkF
 split
 ·exact h.2.1
 split
 ·have:=numOf_bd (bt s.mc) (fun k=>⟨bt_nonneg _ k,bt_le _ k⟩) 6
  unfold macN
  have hb:(0:Int)≤numOf (bt s.mc) 6∧numOf (bt s.mc) 6≤281474976710655:=by simpa using ⟨this.1,by omega⟩
  simp [Lit.wf,IntKind.min,IntKind.max,IntKind.bits,IntKind.signed]
  omega
 ·exact h.2.2.2.1
def ApW (w W:World) (n:Nat) (D:DataW Unit):Prop:=W.ownsMap Tryz.prog 3 unitElem (w.heap.size+1) n D∧(∀ j,j<3→W.cell? ⟨w.heap.size,j,none⟩=some (.func (.func (mkN j)) #[] #[]))∧Below w.heap.size w W
theorem ApW.keep {w W W':World} {n:Nat} {D:DataW Unit} (h:ApW w W n D) (hb:Below W.heap.size W W'):ApW w W' n D :=
 ⟨map_below h.1 hb h.1.lt,fun j hj=>bkeep hb (h.2.1 j hj),h.2.2.trans (hb.mono h.2.2.size)⟩
theorem ApW.turn {w W W':World} {n n':Nat} {D D':DataW Unit} (h:ApW w W n D) (o:W'.ownsMap Tryz.prog 3 unitElem (w.heap.size+1) n' D') (g:W.grownBy W' (some (w.heap.size+1))):ApW w W' n' D':=by
 refine ⟨o,fun j hj=>?_,h.2.2.grown g h.2.2.size (fun k hk=>by injection hk with e;omega)⟩
 have hc:=h.2.1 j hj
 have hlt:w.heap.size<W.heap.size:=World.block_lt_of_cell? W _ hc
 rw [World.cell?_of_block (w:=W) (g.block w.heap.size hlt (by intro e;injection e with e;omega))]
 exact hc
set_option maxHeartbeats 4000000 in
theorem sessionsApart_any (a:Option Addr) (len cap:Nat) (ss:List SessV) (w:World) (h:Rw SeR 10 w a ss) (hl:ss.length=len) (h3:len≤3) (h6:∀ s ∈ ss,s.mc.size=6) :
  Calls Tryz.prog 138 #[.slice a len cap] w fun e w'=>e=.returned (.bool (dstB (ss.map (mkF 0)) && (dstB (ss.map (mkF 1)) && dstB (ss.map (mkF 2)))))∧Below w.heap.size w w':=by
 have RW:Hid (Rw SeR 10 w a ss):=h
 have H6:Hid (∀ s ∈ ss,s.mc.size=6):=h6
 clear h h6
 have hmm:=@run_makeMap Tryz.prog
 have h3z:(len:Int)≤3:=by omega
 have hz0:(zeroValue 223).run Tryz.prog w=.ok (.agg #[]) w:=by kernel_rfl
 clear hz0
 obtain ⟨z,hz⟩:∃ z,z=(dstB (ss.map (mkF 0)) && (dstB (ss.map (mkF 1)) && dstB (ss.map (mkF 2)))):=⟨_,rfl⟩
 have E:Hid (z=(dstB (ss.map (mkF 0)) && (dstB (ss.map (mkF 1)) && dstB (ss.map (mkF 2))))):=hz
 rw [← hz]
 clear hz
 have A0:Hid (ApW w ((w.alloc (.cells #[.func (.func 170) #[] #[],.func (.func 171) #[] #[],.func (.func 173) #[] #[]] 218)).alloc (.map #[] 0)) 0 (.map [])):=by
  refine ⟨by have:=World.ownsMap_made (H:=Unit) (w.alloc (.cells #[.func (.func 170) #[] #[],.func (.func 171) #[] #[],.func (.func 173) #[] #[]] 218)) Tryz.prog 3 unitElem;simpa using this,fun j hj=>?_,((Below.refl _ _).alloc (Nat.le_refl _) _).alloc (by simp) _⟩
  have:j=0 ∨ j=1 ∨ j=2:=by omega
  rcases this with rfl | rfl | rfl <;> simp [go_sem,mkN]
 go_enter Tryz.func138,Tryz.ntmps138
 go_wp2
 go_loopw [13] (fun u wr=>∃ i:Nat,i≤3∧u=.int .i64 i∧Hid (∀ j,j<i→dstB (ss.map (mkF j))=true)∧Hid (∃ n D,ApW w wr n D)) (fun u _=>3 - (intOf u).toNat)
 case atStart=>exact ⟨0,Nat.zero_le _,rfl,fun j hj=>absurd hj (by omega),_,_,A0.out⟩
 case round =>
  clear A0
  obtain ⟨i,hi,rfl,HO,X⟩:=hrel
  by_cases hi3:i<3
  ·obtain ⟨n0,D0,X0⟩:=X.out
   obtain ⟨w4,hclr,o4,g4⟩:=own_clear X0.1 Tryz.underlying222 0
   have mi:=X0.2.1 i hi3
   have X4:Hid (ApW w w4 0 (setI ((ss.take 0).map (mkF i)))):=X0.turn o4 g4
   have hiz:(i:Int)<3:=by omega
   obtain ⟨g,hg⟩:∃ g,g=mkN i:=⟨_,rfl⟩
   have eg:∀ args w,(callFunc g args).run Tryz.prog w=.ok (.enter g args) w:=by rw [hg];exact mk_enter i
   have HM:Hid (∀ (id us1:Int) (mc:ByteArray) (sip be la ud qu un il:Int) (w:World),mc.size=6→Calls Tryz.prog g #[.agg #[.int .i64 id,.int .i64 us1,.string mc,.int .i64 sip,.int .i64 be,.int .i64 la,.int .i64 ud,.int .i64 qu,.int .i64 un,.int .i64 il]] w fun e w'=>e=.returned (.int .i64 (mkF i ⟨id,us1,mc,sip,be,la,ud,qu,un,il⟩))∧Below w.heap.size w w'):=by rw [hg];exact mk_any i
   rw [← hg] at mi
   clear X X0 o4 g4 hg
   go_wp2
   go_loopw [20] (fun u wr=>∃ k:Nat,k≤len∧u=.int .i64 k∧Hid (ApW w wr k (setI ((ss.take k).map (mkF i))))) (fun u _=>len - (intOf u).toNat)
   case atStart=>exact ⟨0,Nat.zero_le _,rfl,X4.out⟩
   case round =>
    clear X4
    obtain ⟨k,hk,rfl,X⟩:=hrel
    by_cases hlt:k<len
    ·obtain ⟨x9,hx⟩:=at_of hl hlt
     obtain ⟨bk,off,vs,rfl,hbk,hvl,hR,hc⟩:=RW.out.at SeR.kp X.out.2.2 hx
     have hs6:=H6.out x9 (List.mem_of_getElem? hx)
     obtain ⟨id,us1,mc,sip,be,la,ud,qu,un,il⟩:=x9
     obtain ⟨rfl,hok⟩:=hR
     have q0:wr.cell? ⟨bk,off+k * 10,none⟩=some (.int .i64 id):=hc 0 _ rfl
     have q1:wr.cell? ⟨bk,off+k * 10+1,none⟩=some (.int .i64 us1):=hc 1 _ rfl
     have q2:wr.cell? ⟨bk,off+k * 10+2,none⟩=some (.string mc):=hc 2 _ rfl
     have q3:wr.cell? ⟨bk,off+k * 10+3,none⟩=some (.int .i64 sip):=hc 3 _ rfl
     have q4:wr.cell? ⟨bk,off+k * 10+4,none⟩=some (.int .i64 be):=hc 4 _ rfl
     have q5:wr.cell? ⟨bk,off+k * 10+5,none⟩=some (.int .i64 la):=hc 5 _ rfl
     have q6:wr.cell? ⟨bk,off+k * 10+6,none⟩=some (.int .i64 ud):=hc 6 _ rfl
     have q7:wr.cell? ⟨bk,off+k * 10+7,none⟩=some (.int .i64 qu):=hc 7 _ rfl
     have q8:wr.cell? ⟨bk,off+k * 10+8,none⟩=some (.int .i64 un):=hc 8 _ rfl
     have q9:wr.cell? ⟨bk,off+k * 10+9,none⟩=some (.int .i64 il):=hc 9 _ rfl
     have hltz:(k:Int)<(len:Int):=by omega
     have X5:Hid (ApW w (wr.alloc (.cells #[.int .i64 id,.int .i64 us1,.string mc,.int .i64 sip,.int .i64 be,.int .i64 la,.int .i64 ud,.int .i64 qu,.int .i64 un,.int .i64 il] 124)) k (setI ((ss.take k).map (mkF i)))):=X.out.keep ((Below.refl _ _).alloc (Nat.le_refl _) _)
     have hwf:=mk_wf i ⟨id,us1,mc,sip,be,la,ud,qu,un,il⟩ hok
     have HT:Hid (∀ D:DataW Unit,D=setI ((ss.take k).map (mkF i))→D.put (.int .i64 (mkF i ⟨id,us1,mc,sip,be,la,ud,qu,un,il⟩)) (.agg [])=setI ((ss.take (k+1)).map (mkF i))):=fun D hD=>by
      rw [hD,← setI_snoc,List.take_add_one,hx]
      simp
     have HM1:Hid (∀ w,Calls Tryz.prog g #[.agg #[.int .i64 id,.int .i64 us1,.string mc,.int .i64 sip,.int .i64 be,.int .i64 la,.int .i64 ud,.int .i64 qu,.int .i64 un,.int .i64 il]] w fun e w'=>e=.returned (.int .i64 (mkF i ⟨id,us1,mc,sip,be,la,ud,qu,un,il⟩))∧Below w.heap.size w w'):=fun w=>HM.out id us1 mc sip be la ud qu un il w hs6
     generalize mkF i ⟨id,us1,mc,sip,be,la,ud,qu,un,il⟩=r at HT HM1 hwf
     clear hc hvl hx hok hs6 X
     go_wp2_with (go_at_fn g;refine (HM1.out _).mono ?_;rintro e w6 ⟨rfl,b6⟩;have X6:=X5.out.keep b6;obtain ⟨w7,hupd,o7,g7⟩:=X6.1.update keyI9 Tryz.underlying222 (by unfold maxLen;omega) (key:=.int .i64 r) (val:=.agg #[]) (keyOf_int_mk Tryz.underlying3 hwf) (unitElem_mk (H:=Unit));have X7:Hid (ApW w w7 (k+1) (setI ((ss.take (k+1)).map (mkF i)))):=HT.out _ rfl ▸ X6.turn o7 g7;clear X6 o7 g7 b6)
     go_roundw
     case rel=>exact ⟨k+1,by omega,by go_num,X7⟩
     case measure=>simp [intOf];omega
    ·obtain rfl:len=k:=by omega
     have hlen:=fun ty=>X.out.1.len Tryz.underlying222 ty
     have hsl:=setI_lt (H:=Unit) ((ss.take len).map (mkF i))
     rw [List.take_of_length_le (by omega)] at hlen hsl
     have hsl2:decide ((Maps.size (setI (H:=Unit) (ss.map (mkF i))):Int)<(len:Int))=!dstB (ss.map (mkF i)):=by
      rw [← hsl]
      simp [hl]
     generalize Maps.size (setI (H:=Unit) (ss.map (mkF i)))=n9 at hlen hsl2
     have HX:Hid (ApW w wr len (setI ((ss.take len).map (mkF i)))):=X.out
     clear hsl X
     cases hd:dstB (ss.map (mkF i)) with
     | false =>
      rw [hd] at hsl2
      have hsl3:decide (n9<len)=true:=by have:=of_decide_eq_true hsl2;exact decide_eq_true (by omega)
      have hv:Hid (z=false):=by
       show z=false
       rw [E.out]
       have:i=0 ∨ i=1 ∨ i=2:=by omega
       rcases this with rfl | rfl | rfl <;> simp [hd]
      clear hd
      go_wp2
      go_ret
      exact ⟨by rw [hv.out];rfl,HX.out.2.2⟩
     | true =>
      rw [hd] at hsl2
      have hsl3:decide (n9<len)=false:=by have:=of_decide_eq_false hsl2;exact decide_eq_false (by omega)
      have HO':Hid (∀ j,j<i+1→dstB (ss.map (mkF j))=true):=fun j hj=>by
       by_cases hji:j<i
       ·exact HO.out j hji
       ·obtain rfl:j=i:=by omega
        exact hd
      clear hd
      go_wp2
      exact ⟨⟨i+1,by omega,by go_num,HO',_,_,HX.out⟩,by simp [intOf];omega⟩
  ·obtain rfl:i=3:=by omega
   have hv:Hid (z=true):=by
    show z=true
    rw [E.out,HO.out 0 (by omega),HO.out 1 (by omega),HO.out 2 (by omega)]
    rfl
   go_wp2
   go_ret
   obtain ⟨n0,D0,X0⟩:=X.out
   exact ⟨by rw [hv.out];rfl,X0.2.2⟩
end Go.Proofs.YtbeehlhcckndcaaGreat
