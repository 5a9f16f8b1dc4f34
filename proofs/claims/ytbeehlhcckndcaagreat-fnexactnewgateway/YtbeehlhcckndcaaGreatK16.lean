/- Lists that rise, sets by a map, sessions apart: pure facts. Nothing of the program is imported. Small tests of the program's chapter of guests: between, causes, bytes, credit, times; short names of the model. Right guests, as pure words. Right guests with a configuration, packed. l13Own of the model, by l13Config. l13Config of the model. l13Own of the model, whole. Results whose first part is a struct in a box. Nothing of the program is used. The model's l08Role, l08Users. -/
import Derived.Test.YtbeehlhcckndcaaGreatK1
import Derived.Maps.Own
import Derived.Maps.OwnSet
import Derived.Maps.Views
import Derived.Test.YtbeehlhcckndcaaGreatK8
import Derived.Test.YtbeehlhcckndcaaGreatK9
import Derived.Test.YtbeehlhcckndcaaGreatK11
import Derived.Test.YtbeehlhcckndcaaGreatK13
import Derived.Laws.Cover1
namespace Go.Proofs.YtbeehlhcckndcaaGreat
open Go.RowKit Go.PlainAid Go.Maps
set_option linter.unusedVariables false
def risAt {α:Type} (f:α→Bool) (lt:α→α→Bool) (xs:List α) (k:Nat):Bool:=match xs[k]? with
 | some x=>f x && (decide (k=0) || (match xs[k - 1]? with | some y=>lt y x | none=>false))
 | none=>true
def risB {α:Type} (f:α→Bool) (lt:α→α→Bool) (xs:List α):Bool:=(List.range xs.length).all (risAt f lt xs)
section Ris
variable {α:Type} {f:α→Bool} {lt:α→α→Bool} {xs:List α}
theorem risAt_zero {x:α} (h:xs[0]?=some x):risAt f lt xs 0=f x:=by
 unfold risAt
 rw [h]
 simp
theorem risAt_succ {j:Nat} {x y:α} (h:xs[j+1]?=some x) (h':xs[j]?=some y):risAt f lt xs (j+1)=(f x && lt y x):=by
 unfold risAt
 rw [h]
 simp [h']
theorem ris_step {g:Nat→Bool} {k:Nat} (h:(List.range k).all g=true) (hf:g k=true):(List.range (k+1)).all g=true:=by
 rw [List.range_succ,List.all_append,h]
 simp [hf]
theorem ris_no {g:Nat→Bool} {n k:Nat} (hk:k<n) (hf:g k=false):(List.range n).all g=false:=by
 rw [List.all_eq_false]
 exact ⟨k,by simpa using hk,by simp [hf]⟩
theorem ris_end {k:Nat} (hk:xs.length=k) (h:(List.range k).all (risAt f lt xs)=true):risB f lt xs=true:=by
 unfold risB
 rw [hk]
 exact h
theorem risB_iff:risB f lt xs=true ↔ (∀ (i:Nat) (x:α),xs[i]?=some x→f x=true)∧∀ (j:Nat) (x y:α),xs[j+1]?=some x→xs[j]?=some y→lt y x=true:=by
 unfold risB
 rw [List.all_eq_true]
 constructor
 ·intro h
  refine ⟨fun i x hx=>?_,fun j x y hx hy=>?_⟩
  ·have hi:=(List.getElem?_eq_some_iff.1 hx).1
   have:=h i (by simpa using hi)
   unfold risAt at this
   rw [hx] at this
   simp at this
   exact this.1
  ·have hi:=(List.getElem?_eq_some_iff.1 hx).1
   have:=h (j+1) (by simpa using hi)
   rw [risAt_succ hx hy] at this
   simp at this
   exact this.2
 ·rintro ⟨h1,h2⟩ i hi
  have hi:i<xs.length:=by simpa using hi
  obtain ⟨x,hx⟩:∃ x,xs[i]?=some x:=⟨_,List.getElem?_eq_getElem hi⟩
  match i,hx with
  | 0,hx=>rw [risAt_zero hx];exact h1 0 x hx
  | j+1,hx =>
   obtain ⟨y,hy⟩:∃ y,xs[j]?=some y:=⟨_,List.getElem?_eq_getElem (by omega)⟩
   rw [risAt_succ hx hy,h1 _ x hx,h2 j x y hx hy]
   rfl
end Ris
def dstB (l:List Int):Bool:=decide l.Nodup
section Mp
variable {H:Type}
def setI (l:List Int):DataW H:=l.foldl (fun m n=>m.put (.int .i64 n) (.agg [])) (.map [])
theorem setI_snoc (l:List Int) (n:Int):setI (H:=H) (l ++ [n])=(setI l).put (.int .i64 n) (.agg []):=by simp [setI,List.foldl_append]
theorem litI_ne {a b:Int} (h:a ≠ b):(Lit.int .i64 a:Lit) ≠ .int .i64 b:=fun e=>h (by injection e)
theorem snoc_ind {α:Type} {P:List α→Prop} (h0:P []) (h1:∀ l x,P l→P (l ++ [x])):∀ l:List α,P l:=by
 have:∀ n,∀ l:List α,l.length=n→P l:=by
  intro n
  induction n with
  | zero=>intro l hl;rw [List.eq_nil_of_length_eq_zero hl];exact h0
  | succ n ih =>
   intro l hl
   have hne:l ≠ []:=by intro e;rw [e] at hl;simp at hl
   rw [← List.dropLast_concat_getLast hne]
   exact h1 _ _ (ih _ (by simp [hl]))
 exact fun l=>this _ l rfl
theorem setI_tidy (l:List Int):Tidy (setI (H:=H) l):=by
 refine snoc_ind (P:=fun l=>Tidy (setI (H:=H) l)) tidy_empty (fun l n ih=>?_) l
 rw [setI_snoc]
 exact ih.put (k:=.int .i64 n) trivial _
theorem setI_has (l:List Int):∀ n,has (setI (H:=H) l) (.int .i64 n)=decide (n ∈ l):=by
 refine snoc_ind (P:=fun l=>∀ n,has (setI (H:=H) l) (.int .i64 n)=decide (n ∈ l)) (fun n=>?_) (fun l m ih n=>?_) l
 ·simp [setI,has_eq]
 ·rw [setI_snoc]
  by_cases h:n=m
  ·subst h
   rw [has_put_same (k:=.int .i64 n) (setI_tidy l).isMap trivial]
   simp
  ·rw [has_put_other (litI_ne h),ih n]
   simp [h]
theorem setI_size (l:List Int):size (setI (H:=H) l)≤l.length∧(l.Nodup→size (setI (H:=H) l)=l.length)∧(¬ l.Nodup→size (setI (H:=H) l)<l.length):=by
 refine snoc_ind (P:=fun l=>size (setI (H:=H) l)≤l.length∧(l.Nodup→size (setI (H:=H) l)=l.length)∧(¬ l.Nodup→size (setI (H:=H) l)<l.length)) ?_ (fun l n ih=>?_) l
 ·simp [setI,size_eq]
 ·rw [setI_snoc,size_put (setI_tidy l),setI_has]
  obtain ⟨h1,h2,h3⟩:=ih
  have hnd:(l ++ [n]).Nodup ↔ l.Nodup∧n ∉ l:=by
   rw [List.nodup_append]
   simp
   intro _
   constructor
   ·intro h hn;exact h n hn rfl
   ·intro h a ha e;subst e;exact h ha
  by_cases hn:n ∈ l
  ·simp only [hn,decide_true,if_true,List.length_append,List.length_singleton]
   refine ⟨by omega,fun h=>absurd hn (hnd.1 h).2,fun _=>by omega⟩
  ·simp only [hn,decide_false,Bool.false_eq_true,if_false,List.length_append,List.length_singleton]
   refine ⟨by omega,fun h=>?_,fun h=>?_⟩
   ·have:=h2 (hnd.1 h).1;omega
   ·have:=h3 (fun h'=>h (hnd.2 ⟨h',hn⟩));omega
theorem setI_lt (l:List Int):decide (size (setI (H:=H) l)<l.length)=!dstB l:=by
 obtain ⟨h1,h2,h3⟩:=setI_size (H:=H) l
 unfold dstB
 by_cases h:l.Nodup
 ·have:=h2 h
  simp [h,this]
 ·have:=h3 h
  simp [h,this]
end Mp
def prS (y x:SessV):Bool:=decide (y.id<x.id) && (!decide (y.us=x.us) && (!(y.mc.toList == x.mc.toList) && !decide (y.ip=x.ip)))
def seAt (f:SessV→Bool) (ss:List SessV) (k:Nat):Bool:=match ss[k]? with
 | some x=>f x && (ss.take k).all (fun y=>prS y x)
 | none=>true
def seB (f:SessV→Bool) (ss:List SessV):Bool:=(List.range ss.length).all (seAt f ss)
def ltId (y x:SessV):Bool:=decide (y.id<x.id)
theorem seB_iff {f:SessV→Bool} {ss:List SessV}:seB f ss=true ↔ (∀ (i:Nat) (x:SessV),ss[i]?=some x→f x=true)∧∀ (i k:Nat) (x y:SessV),ss[i]?=some x→ss[k]?=some y→k<i→prS y x=true:=by
 unfold seB
 rw [List.all_eq_true]
 constructor
 ·intro h
  refine ⟨fun i x hx=>?_,fun i k x y hx hy hki=>?_⟩
  ·have hi:=(List.getElem?_eq_some_iff.1 hx).1
   have:=h i (by simpa using hi)
   unfold seAt at this
   rw [hx] at this
   simp only [Bool.and_eq_true] at this
   exact this.1
  ·have hi:=(List.getElem?_eq_some_iff.1 hx).1
   have:=h i (by simpa using hi)
   unfold seAt at this
   rw [hx] at this
   simp only [Bool.and_eq_true,List.all_eq_true] at this
   refine this.2 y ?_
   rw [List.mem_iff_getElem?]
   exact ⟨k,by rw [List.getElem?_take,if_pos hki];exact hy⟩
 ·rintro ⟨h1,h2⟩ i hi
  have hi:i<ss.length:=by simpa using hi
  obtain ⟨x,hx⟩:∃ x,ss[i]?=some x:=⟨_,List.getElem?_eq_getElem hi⟩
  unfold seAt
  rw [hx]
  simp only [Bool.and_eq_true,List.all_eq_true]
  refine ⟨h1 i x hx,fun y hy=>?_⟩
  rw [List.mem_iff_getElem?] at hy
  obtain ⟨k,hk⟩:=hy
  rw [List.getElem?_take] at hk
  split at hk
  ·exact h2 i k x y hx hk (by assumption)
  ·cases hk
theorem nodup_at {l:List Int}:l.Nodup ↔ ∀ (i k:Nat) (x y:Int),l[i]?=some x→l[k]?=some y→k<i→y ≠ x:=by
 rw [List.nodup_iff_pairwise_ne,List.pairwise_iff_getElem]
 constructor
 ·intro h i k x y hx hy hki
  obtain ⟨hi,rfl⟩:=List.getElem?_eq_some_iff.1 hx
  obtain ⟨hk,rfl⟩:=List.getElem?_eq_some_iff.1 hy
  exact h k i hk hi hki
 ·intro h i j hi hj hij
  exact h j i _ _ (List.getElem?_eq_getElem hj) (List.getElem?_eq_getElem hi) hij
theorem se_apart (f:SessV→Bool) (mn:SessV→Int) (ss:List SessV) (hm:∀ x y,f x=true→f y=true→(mn x=mn y ↔ x.mc.toList=y.mc.toList)) :
  (risB f ltId ss && (dstB (ss.map (·.us)) && (dstB (ss.map mn) && dstB (ss.map (·.ip)))))=seB f ss:=by
 rw [Bool.eq_iff_iff]
 simp only [Bool.and_eq_true]
 rw [risB_iff,seB_iff]
 unfold dstB
 simp only [decide_eq_true_eq]
 rw [nodup_at,nodup_at,nodup_at]
 constructor
 ·rintro ⟨⟨h1,h2⟩,h3,h4,h5⟩
  have up:∀ (d k:Nat) (x y:SessV),ss[k+d+1]?=some x→ss[k]?=some y→y.id<x.id:=by
   intro d
   induction d with
   | zero =>
    intro k x y hx hy
    have:=h2 k x y hx hy
    unfold ltId at this
    simpa using this
   | succ d ih =>
    intro k x y hx hy
    obtain ⟨z,hz⟩:∃ z,ss[k+d+1]?=some z:=⟨_,List.getElem?_eq_getElem (by have:=(List.getElem?_eq_some_iff.1 hx).1;omega)⟩
    have a:=ih k z y hz hy
    have b:=h2 (k+d+1) x z (by rw [← hx];congr 1) hz
    unfold ltId at b
    simp at b
    omega
  refine ⟨h1,fun i k x y hx hy hki=>?_⟩
  have e1:=up (i - k - 1) k x y (by rw [← hx];congr 1;omega) hy
  have e2:=h3 i k x.us y.us (by rw [List.getElem?_map,hx];rfl) (by rw [List.getElem?_map,hy];rfl) hki
  have e3:=h4 i k (mn x) (mn y) (by rw [List.getElem?_map,hx];rfl) (by rw [List.getElem?_map,hy];rfl) hki
  have e4:=h5 i k x.ip y.ip (by rw [List.getElem?_map,hx];rfl) (by rw [List.getElem?_map,hy];rfl) hki
  have e5:y.mc.toList ≠ x.mc.toList:=fun e=>e3 ((hm y x (h1 k y hy) (h1 i x hx)).2 e)
  unfold prS
  simp [e1,e2,e4,e5]
 ·rintro ⟨h1,h2⟩
  have pr:∀ (i k:Nat) (x y:SessV),ss[i]?=some x→ss[k]?=some y→k<i→y.id<x.id∧y.us ≠ x.us∧y.mc.toList ≠ x.mc.toList∧y.ip ≠ x.ip:=by
   intro i k x y hx hy hki
   have:=h2 i k x y hx hy hki
   unfold prS at this
   simp at this
   exact this
  have mp:∀ (g:SessV→Int) (i:Nat) (a:Int),(ss.map g)[i]?=some a→∃ x,ss[i]?=some x∧g x=a:=by
   intro g i a h
   rw [List.getElem?_map] at h
   cases hx:ss[i]? with
   | none=>rw [hx] at h;cases h
   | some x=>rw [hx] at h;exact ⟨x,rfl,by simpa using h⟩
  refine ⟨⟨h1,fun j x y hx hy=>?_⟩,fun i k a b ha hb hki=>?_,fun i k a b ha hb hki=>?_,fun i k a b ha hb hki=>?_⟩
  ·have:=(pr (j+1) j x y hx hy (by omega)).1
   unfold ltId
   simpa using this
  ·obtain ⟨x,hx,rfl⟩:=mp _ i a ha
   obtain ⟨y,hy,rfl⟩:=mp _ k b hb
   exact (pr i k x y hx hy hki).2.1
  ·obtain ⟨x,hx,rfl⟩:=mp _ i a ha
   obtain ⟨y,hy,rfl⟩:=mp _ k b hb
   exact fun e=>(pr i k x y hx hy hki).2.2.1 ((hm y x (h1 k y hy) (h1 i x hx)).1 e)
  ·obtain ⟨x,hx,rfl⟩:=mp _ i a ha
   obtain ⟨y,hy,rfl⟩:=mp _ k b hb
   exact (pr i k x y hx hy hki).2.2.2
open Go.RowKit Go.PlainAid
set_option maxRecDepth 20000
theorem between_any (n lo hi:Int) (w:World):Calls Tryz.prog 86 #[.int .i64 n,.int .i64 lo,.int .i64 hi] w fun e w'=>e=.returned (.bool (decide (lo≤n∧n≤hi)))∧w'=w:=by
 by_cases h1:lo≤n
 ·by_cases h2:n≤hi
  ·go_enter Tryz.func86,Tryz.ntmps86
   go_wp2
   go_ret
   exact ⟨congrArg (fun b=>Ending.returned (.bool b)) (by simp [h1,h2]),rfl⟩
  ·go_enter Tryz.func86,Tryz.ntmps86
   go_wp2
   go_ret
   exact ⟨congrArg (fun b=>Ending.returned (.bool b)) (by simp [h2]),rfl⟩
 ·have h1':decide (lo≤n)=false:=by simp;omega
  go_enter Tryz.func86,Tryz.ntmps86
  go_wp2
  go_ret
  exact ⟨congrArg (fun b=>Ending.returned (.bool b)) (by simp),rfl⟩
theorem causeOK_any (c:Int) (w:World):Calls Tryz.prog 174 #[.int .i64 c] w fun e w'=>e=.returned (.bool (decide (1≤c∧c≤6)))∧w'=w:=by
 have HB:Hid (∀ w,Calls Tryz.prog 86 #[.int .i64 c,.int .i64 1,.int .i64 6] w fun e w'=>e=.returned (.bool (decide (1≤c∧c≤6)))∧w'=w):=fun w=>between_any c 1 6 w
 generalize decide (1≤c∧c≤6)=z at HB ⊢
 go_enter Tryz.func174,Tryz.ntmps174
 go_wp2_with fail
 refine (HB.out _).mono ?_
 rintro e w1 ⟨rfl,hw⟩
 subst hw
 go_wp2
 go_ret
 exact ⟨rfl,rfl⟩
theorem bytesOK_any (n:Int) (w:World):Calls Tryz.prog 175 #[.int .i64 n] w fun e w'=>e=.returned (.bool (dec (0≤n∧n≤1000000)))∧w'=w:=by
 have HB:Hid (∀ w,Calls Tryz.prog 86 #[.int .i64 n,.int .i64 0,.int .i64 1000000] w fun e w'=>e=.returned (.bool (dec (0≤n∧n≤1000000)))∧w'=w):=fun w=>between_any n 0 1000000 w
 generalize dec (0≤n∧n≤1000000)=z at HB ⊢
 go_enter Tryz.func175,Tryz.ntmps175
 go_wp2_with fail
 refine (HB.out _).mono ?_
 rintro e w1 ⟨rfl,hw⟩
 subst hw
 go_wp2
 go_ret
 exact ⟨rfl,rfl⟩
theorem creditOK_any (b l:Int) (w:World):Calls Tryz.prog 167 #[.int .i64 b,.int .i64 l] w fun e w'=>e=.returned (.bool (dec (0≤b∧b≤1000000) && dec (0≤l∧l≤1000)))∧w'=w:=by
 have HA:Hid (∀ w,Calls Tryz.prog 175 #[.int .i64 b] w fun e w'=>e=.returned (.bool (dec (0≤b∧b≤1000000)))∧w'=w):=fun w=>bytesOK_any b w
 have HB:Hid (∀ w,Calls Tryz.prog 86 #[.int .i64 l,.int .i64 0,.int .i64 1000] w fun e w'=>e=.returned (.bool (dec (0≤l∧l≤1000)))∧w'=w):=fun w=>between_any l 0 1000 w
 generalize dec (0≤b∧b≤1000000)=y at HA ⊢
 generalize dec (0≤l∧l≤1000)=z at HB ⊢
 cases y with
 | false =>
  go_enter Tryz.func167,Tryz.ntmps167
  go_wp2_with fail
  refine (HA.out _).mono ?_
  rintro e w1 ⟨rfl,hw⟩
  subst hw
  go_wp2
  go_ret
  exact ⟨rfl,rfl⟩
 | true =>
  go_enter Tryz.func167,Tryz.ntmps167
  go_wp2_with fail
  refine (HA.out _).mono ?_
  rintro e w1 ⟨rfl,hw⟩
  subst hw
  go_wp2_with fail
  refine (HB.out _).mono ?_
  rintro e w1 ⟨rfl,hw⟩
  subst hw
  go_wp2
  go_ret
  exact ⟨by simp,rfl⟩
theorem timeOK_any (n:Int) (w:World):Calls Tryz.prog 123 #[.int .i64 n] w fun e w'=>e=.returned (.bool (dec (0≤n∧n≤100000)))∧w'=w:=by
 have HB:Hid (∀ w,Calls Tryz.prog 86 #[.int .i64 n,.int .i64 0,.int .i64 100000] w fun e w'=>e=.returned (.bool (dec (0≤n∧n≤100000)))∧w'=w):=fun w=>between_any n 0 100000 w
 generalize dec (0≤n∧n≤100000)=z at HB ⊢
 go_enter Tryz.func123,Tryz.ntmps123
 go_wp2_with fail
 refine (HB.out _).mono ?_
 rintro e w1 ⟨rfl,hw⟩
 subst hw
 go_wp2
 go_ret
 exact ⟨rfl,rfl⟩
def snB (s:ByteArray):Bool:=nameB (bt s) s.size && dec (s.size≤8)
theorem l08Name_any (s:ByteArray) (w:World) (hs:s.size≤1048576):Calls Tryz.prog 128 #[.string s] w fun e w'=>e=.returned (.bool (snB s))∧w'=w:=by
 have HA:Hid (∀ w,Calls Tryz.prog 157 #[.string s] w fun e w'=>e=.returned (.bool (nameB (bt s) s.size))∧w'=w):=fun w=>specNameOK_any s w hs
 unfold snB
 generalize nameB (bt s) s.size=q at HA ⊢
 by_cases h8:s.size≤8
 ·rw [dec_y h8]
  have hz:(s.size:Int)≤8:=by omega
  cases q <;>
  ·go_enter Tryz.func128,Tryz.ntmps128
   go_wp2_with fail
   refine (HA.out _).mono ?_
   rintro e w1 ⟨rfl,hw⟩
   subst hw
   go_wp2
   go_ret
   exact ⟨rfl,rfl⟩
 ·rw [dec_n h8]
  have hz:decide ((s.size:Int)≤8)=false:=by simp;omega
  cases q <;>
  ·go_enter Tryz.func128,Tryz.ntmps128
   go_wp2_with fail
   refine (HA.out _).mono ?_
   rintro e w1 ⟨rfl,hw⟩
   subst hw
   go_wp2
   go_ret
   exact ⟨rfl,rfl⟩
open Go.RowKit Go.PlainAid Go.Proofs.YtbeehlhcckndcaaGreat.Bt Go.Sort
def rfP (s:ByteArray) (r:RoleV):Bool:=r.nm.toList == s.toList
def roI (ros:List RoleV) (s:ByteArray):Int:=match ros.find? (rfP s) with | some _=>(ros.findIdx (rfP s):Int) | none=>-1
def roH (ros:List RoleV) (s:ByteArray):Bool:=(ros.find? (rfP s)).isSome
def uB (ros:List RoleV) (u:UserV):Bool:=snB u.nm && (dec (u.sa.size≤40) && (dec (u.ha.size=32) && (roH ros u.ro && (dec (0≤u.bl∧u.bl≤1000000) && dec (0≤u.lg∧u.lg≤1000)))))
def ltU (y x:UserV):Bool:=ltS y.nm x.nm
def usB (ros:List RoleV) (us:List UserV):Bool:=dec (us.length≤6) && risB (uB ros) ltU us
def sB (nx:Int) (ul:Nat) (ip b:Int) (s:SessV):Bool :=
 dec (1≤s.id∧s.id≤nx - 1) && (dec (0≤s.us∧s.us≤(ul:Int) - 1) && (dec (s.mc.size=6) && (hB ip b s.ip && (dec (0≤s.ip∧s.ip≤4294967295) && (dec (0≤s.be∧s.be≤100000) && (dec (s.be≤s.la∧s.la≤100000) && (dec (1≤s.qu∧s.qu≤1000000) && (dec (0≤s.ud∧s.ud≤s.qu) && (dec (s.be≤s.un∧s.un≤101000) && dec (1≤s.il∧s.il≤1000))))))))))
def faB (f:FailV):Bool:=dec (f.mc.size=6) && (dec (0≤f.ct∧f.ct≤2) && dec (0≤f.un∧f.un≤100010))
def ltF (y x:FailV):Bool:=ltS y.mc x.mc
def reB (nx:Int) (r:RecV):Bool:=dec (1≤r.id∧r.id≤nx - 1) && (dec (0≤r.tm∧r.tm≤100000) && (dec (0≤r.bt∧r.bt≤1000000) && ((r.st == dec (0<r.ca)) && (dec (0≤r.ca∧r.ca≤6) && (r.st || dec (r.bt=0))))))
def gokB (ip b gt:Int) (gm wm:ByteArray) (rs:Int) (ps:List PlaceV) (ros:List RoleV) (us:List UserV) (ss:List SessV) (fs:List FailV) (es:List RecV) (nx:Int):Bool :=
 confB ip b gt gm wm rs ps ros && (dec (1≤nx∧nx≤10000) && (usB ros us && ((dec (ss.length≤3) && seB (sB nx us.length ip b) ss) && ((dec (fs.length≤20) && risB faB ltF fs) && (dec (es.length≤60) && es.all (reB nx))))))
def SzU (us:List UserV):Prop:=∀ u ∈ us,u.nm.size≤1048576∧u.sa.size≤1048576∧u.ha.size≤1048576∧u.ro.size≤1048576
theorem bfind_no {α:Type} {p:α→Bool} {xs:List α} {k:Nat} {x:α} (hx:xs[k]?=some x) (h:(xs.take k).find? p=none) (hp:p x=false):(xs.take (k+1)).find? p=none:=by
 rw [List.take_add_one,hx,List.find?_append,h]
 simp [hp]
theorem bfind_yes {α:Type} {p:α→Bool} {xs:List α} {k:Nat} {x:α} (hx:xs[k]?=some x) (h:(xs.take k).find? p=none) (hp:p x=true):xs.find? p=some x:=by
 have e:xs=xs.take (k+1) ++ xs.drop (k+1):=(List.take_append_drop _ _).symm
 rw [e,List.find?_append,List.take_add_one,hx,List.find?_append,h]
 simp [hp]
theorem bfind_at {α:Type} {p:α→Bool} {xs:List α} {k:Nat} {x:α} (hx:xs[k]?=some x) (h:(xs.take k).find? p=none) (hp:p x=true):xs.findIdx p=k:=by
 obtain ⟨hk,rfl⟩:=List.getElem?_eq_some_iff.1 hx
 rw [List.findIdx_eq hk]
 refine ⟨hp,fun j hj=>?_⟩
 rw [List.find?_eq_none] at h
 have:=h (xs[j]'(by omega)) (by rw [List.mem_iff_getElem?];exact ⟨j,by rw [List.getElem?_take,if_pos hj];exact List.getElem?_eq_getElem _⟩)
 simpa using this
theorem bfind_end {α:Type} {p:α→Bool} {xs:List α} {k:Nat} (hk:xs.length=k) (h:(xs.take k).find? p=none):xs.find? p=none:=by
 rw [List.take_of_length_le (by omega)] at h
 exact h
theorem szu_of {us:List UserV} {n:Int} (h:szL wtUser us≤n) (hn:n≤1048576):SzU us:=by
 intro u hu
 have:=szL_mem wtUser_nn us u hu
 have e:wtUser u=(u.nm.size:Int)+u.sa.size+u.ha.size+u.ro.size:=rfl
 rw [e] at this
 omega
def okG (c:CfV) (h:HuV):Bool:=gokB c.ip c.b c.gt c.gm c.wm c.rs c.ps c.ros h.us h.ss h.fs h.es h.nx
set_option maxHeartbeats 8000000 in
theorem l13Own_of (A:GtA) (g:GtV) (L:List RoX) (B:Nat) (w:World) (h:OwnGt w B A g L) (hr:GtR w A g) (hs:GtS g)
  (HG0:∀ W,Below w.heap.size w W→Calls Tryz.prog 77 #[.agg #[.int .i64 g.ip,.int .i64 g.b,.int .i64 g.gt,.string g.gm,.string g.wm,.int .i64 g.rs,.slice A.x g.ps.length A.xc,.slice A.y g.ros.length A.yc]] W fun e w'=>∃ (px ry:Option Addr) (pc rc:Nat) (X:List RoX),X.map (fun x=>x.r)=g.ros∧e=.returned (.agg #[.int .i64 g.ip,.int .i64 g.b,.int .i64 g.gt,.string g.gm,.string g.wm,.int .i64 g.rs,.slice px g.ps.length pc,.slice ry g.ros.length rc])∧(OwnS pv 4 135 w' W.heap.size (.slice px g.ps.length pc) g.ps∧OwnRo w' W.heap.size (.slice ry g.ros.length rc) X)∧Below W.heap.size W w') :
  Calls Tryz.prog 29 #[.agg #[.int .i64 g.ip,.int .i64 g.b,.int .i64 g.gt,.string g.gm,.string g.wm,.int .i64 g.rs,.slice A.x g.ps.length A.xc,.slice A.y g.ros.length A.yc,.slice A.ua g.us.length A.uc,.slice A.sa g.ss.length A.sc,.slice A.fa g.fs.length A.fc,.slice A.ra g.es.length A.rc,.int .i64 g.nx,.slice A.la g.fl.length A.lc,.slice A.ca g.co.length A.cc,.int .i64 g.nw,.int .i64 g.dr,.int .i64 g.sn]] w fun e w'=>∃ (px ry ux sx fx ex lx cx:Option Addr) (pc rc uc sc fc ec lc cc:Nat) (X:List RoX),e=.returned (.agg #[.int .i64 g.ip,.int .i64 g.b,.int .i64 g.gt,.string g.gm,.string g.wm,.int .i64 g.rs,.slice px g.ps.length pc,.slice ry g.ros.length rc,.slice ux g.us.length uc,.slice sx g.ss.length sc,.slice fx g.fs.length fc,.slice ex g.es.length ec,.int .i64 g.nx,.slice lx g.fl.length lc,.slice cx g.co.length cc,.int .i64 g.nw,.int .i64 g.dr,.int .i64 g.sn])∧OwnGt w' w.heap.size ⟨px,ry,ux,sx,fx,ex,lx,cx,pc,rc,uc,sc,fc,ec,lc,cc⟩ g X∧Below w.heap.size w w':=by
 have T0:Hid (CB w [.int .i64 g.ip,.int .i64 g.b,.int .i64 g.gt,.string g.gm,.string g.wm,.int .i64 g.rs,.slice A.x g.ps.length A.xc,.slice A.y g.ros.length A.yc,.slice A.ua g.us.length A.uc,.slice A.sa g.ss.length A.sc,.slice A.fa g.fs.length A.fc,.slice A.ra g.es.length A.rc,.int .i64 g.nx,.slice A.la g.fl.length A.lc,.slice A.ca g.co.length A.cc,.int .i64 g.nw,.int .i64 g.dr,.int .i64 g.sn] ((w.alloc (.cells #[.int .i64 g.ip,.int .i64 g.b,.int .i64 g.gt,.string g.gm,.string g.wm,.int .i64 g.rs,.slice A.x g.ps.length A.xc,.slice A.y g.ros.length A.yc,.slice A.ua g.us.length A.uc,.slice A.sa g.ss.length A.sc,.slice A.fa g.fs.length A.fc,.slice A.ra g.es.length A.rc,.int .i64 g.nx,.slice A.la g.fl.length A.lc,.slice A.ca g.co.length A.cc,.int .i64 g.nw,.int .i64 g.dr,.int .i64 g.sn] 50)).alloc (.cells #[.int .i64 0,.int .i64 0,.int .i64 0,.string ⟨#[]⟩,.string ⟨#[]⟩,.int .i64 0,.slice none 0 0,.slice none 0 0,.slice none 0 0,.slice none 0 0,.slice none 0 0,.slice none 0 0,.int .i64 0,.slice none 0 0,.slice none 0 0,.int .i64 0,.int .i64 0,.int .i64 0] 50))):=by
  refine ⟨?_,?_,?_,?_⟩
  ·exact (Bx.new w #[.int .i64 g.ip,.int .i64 g.b,.int .i64 g.gt,.string g.gm,.string g.wm,.int .i64 g.rs,.slice A.x g.ps.length A.xc,.slice A.y g.ros.length A.yc,.slice A.ua g.us.length A.uc,.slice A.sa g.ss.length A.sc,.slice A.fa g.fs.length A.fc,.slice A.ra g.es.length A.rc,.int .i64 g.nx,.slice A.la g.fl.length A.lc,.slice A.ca g.co.length A.cc,.int .i64 g.nw,.int .i64 g.dr,.int .i64 g.sn] 50).below ((Below.refl _ _).alloc (Nat.le_refl _) _)
  ·have:=Bx.new (w.alloc (.cells #[.int .i64 g.ip,.int .i64 g.b,.int .i64 g.gt,.string g.gm,.string g.wm,.int .i64 g.rs,.slice A.x g.ps.length A.xc,.slice A.y g.ros.length A.yc,.slice A.ua g.us.length A.uc,.slice A.sa g.ss.length A.sc,.slice A.fa g.fs.length A.fc,.slice A.ra g.es.length A.rc,.int .i64 g.nx,.slice A.la g.fl.length A.lc,.slice A.ca g.co.length A.cc,.int .i64 g.nw,.int .i64 g.dr,.int .i64 g.sn] 50)) #[.int .i64 0,.int .i64 0,.int .i64 0,.string ⟨#[]⟩,.string ⟨#[]⟩,.int .i64 0,.slice none 0 0,.slice none 0 0,.slice none 0 0,.slice none 0 0,.slice none 0 0,.slice none 0 0,.int .i64 0,.slice none 0 0,.slice none 0 0,.int .i64 0,.int .i64 0,.int .i64 0] 50
   rw [World.size_alloc] at this
   exact this
  ·exact ((Below.refl _ _).alloc (Nat.le_refl _) _).alloc (by simp) _
  ·simp
 have HG:Hid (∀ W,Below w.heap.size w W→Calls Tryz.prog 77 #[.agg #[.int .i64 g.ip,.int .i64 g.b,.int .i64 g.gt,.string g.gm,.string g.wm,.int .i64 g.rs,.slice A.x g.ps.length A.xc,.slice A.y g.ros.length A.yc]] W fun e w'=>∃ (px ry:Option Addr) (pc rc:Nat) (X:List RoX),X.map (fun x=>x.r)=g.ros∧e=.returned (.agg #[.int .i64 g.ip,.int .i64 g.b,.int .i64 g.gt,.string g.gm,.string g.wm,.int .i64 g.rs,.slice px g.ps.length pc,.slice ry g.ros.length rc])∧(OwnS pv 4 135 w' W.heap.size (.slice px g.ps.length pc) g.ps∧OwnRo w' W.heap.size (.slice ry g.ros.length rc) X)∧Below W.heap.size W w'):=HG0
 have HU:Hid (∀ W,Below w.heap.size w W→Calls Tryz.prog 78 #[.agg #[.slice A.ua g.us.length A.uc,.slice A.sa g.ss.length A.sc,.slice A.fa g.fs.length A.fc,.slice A.ra g.es.length A.rc,.int .i64 g.nx]] W fun e w'=>∃ (ux sx fx ex:Option Addr) (uc sc fc ec:Nat),e=.returned (.agg #[.slice ux g.us.length uc,.slice sx g.ss.length sc,.slice fx g.fs.length fc,.slice ex g.es.length ec,.int .i64 g.nx])∧Own4 w' W.heap.size (.slice ux g.us.length uc) (.slice sx g.ss.length sc) (.slice fx g.fs.length fc) (.slice ex g.es.length ec) g.us g.ss g.fs g.es∧Below W.heap.size W w'):=fun W hb=>by
  have s1:=own_spot h.gu.u
  have s2:=own_spot h.gu.s
  have s3:=own_spot h.gu.f
  have s4:=own_spot h.gu.r
  refine (l08Own_any A.ua A.sa A.fa A.ra g.us.length A.uc g.ss.length A.sc g.fs.length A.fc g.es.length A.rc g.us g.ss g.fs g.es g.nx W ⟨hr.us.keep UsR.kp hb,rfl,hs.us,s1.2.1,s1.2.2.1,s1.2.2.2⟩ ⟨hr.ss.keep SeR.kp hb,rfl,hs.ss,s2.2.1,s2.2.2.1,s2.2.2.2⟩ ⟨hr.fs.keep FaR.kp hb,rfl,hs.fs,s3.2.1,s3.2.2.1,s3.2.2.2⟩ ⟨hr.es.keep ReR.kp hb,rfl,hs.es,s4.2.1,s4.2.2.1,s4.2.2.2⟩).mono ?_
  rintro e w' ⟨vu,vs,vf,vr,rfl,o,b⟩
  obtain ⟨ux,uc,rfl,-⟩:=o.u.slice
  obtain ⟨sx,sc,rfl,-⟩:=o.s.slice
  obtain ⟨fx,fc,rfl,-⟩:=o.f.slice
  obtain ⟨ex,ec,rfl,-⟩:=o.r.slice
  exact ⟨ux,sx,fx,ex,uc,sc,fc,ec,rfl,o,b⟩
 have SF:Hid (∀ W,Below w.heap.size w W→Src FlR 9 W A.la g.fl.length A.lc g.fl):=fun W hb=>by
  have sp:=own_spot h.fl
  exact ⟨hr.fl.keep FR.kp hb,rfl,hs.fl,sp.2.1,sp.2.2.1,sp.2.2.2⟩
 have SC:Hid (∀ W,Below w.heap.size w W→Src CnR 11 W A.ca g.co.length A.cc g.co):=fun W hb=>by
  have sp:=own_spot h.co
  exact ⟨hr.co.keep FR.kp hb,rfl,hs.co,sp.2.1,sp.2.2.1,sp.2.2.2⟩
 clear h hr hs HG0
 go_enter Tryz.func29,Tryz.ntmps29
 go_wp2_with (first | (refine wpl_getO 40 rfl _ rfl w.heap.size 0 [.int .i64 g.ip,.int .i64 g.b,.int .i64 g.gt,.string g.gm,.string g.wm,.int .i64 g.rs,.slice A.x g.ps.length A.xc,.slice A.y g.ros.length A.yc] rfl T0.out.g rfl _ Tryz.underlying40 rfl rfl ?_) | fail)
 refine (HG.out _ T0.out.b).mono ?_
 rintro e w1 ⟨px,ry,pc,rc,X,hX,rfl,hp,bx⟩
 have T1:Hid (CB w [.int .i64 g.ip,.int .i64 g.b,.int .i64 g.gt,.string g.gm,.string g.wm,.int .i64 g.rs,.slice A.x g.ps.length A.xc,.slice A.y g.ros.length A.yc,.slice A.ua g.us.length A.uc,.slice A.sa g.ss.length A.sc,.slice A.fa g.fs.length A.fc,.slice A.ra g.es.length A.rc,.int .i64 g.nx,.slice A.la g.fl.length A.lc,.slice A.ca g.co.length A.cc,.int .i64 g.nw,.int .i64 g.dr,.int .i64 g.sn] w1):=T0.out.call bx
 have EX:Hid (X.map (fun x=>x.r)=g.ros):=hX
 have PA1:Hid (OwnS pv 4 135 w1 (w.heap.size+2) (.slice px g.ps.length pc) g.ps∧OwnRo w1 (w.heap.size+2) (.slice ry g.ros.length rc) X):=⟨hp.1.lower T0.out.z,hp.2.lower T0.out.z⟩
 clear bx hp T0 HG hX
 go_wp2_with (first | (refine wpl_putO 40 rfl _ _ rfl w.heap.size 0 _ rfl rfl T1.out.g rfl rfl rfl ?_;intro w2 hw2 _;have T2:Hid (CB w [.int .i64 g.ip,.int .i64 g.b,.int .i64 g.gt,.string g.gm,.string g.wm,.int .i64 g.rs,.slice px g.ps.length pc,.slice ry g.ros.length rc,.slice A.ua g.us.length A.uc,.slice A.sa g.ss.length A.sc,.slice A.fa g.fs.length A.fc,.slice A.ra g.es.length A.rc,.int .i64 g.nx,.slice A.la g.fl.length A.lc,.slice A.ca g.co.length A.cc,.int .i64 g.nw,.int .i64 g.dr,.int .i64 g.sn] w2):=(by rw [hw2];exact T1.out.put 0 [.int .i64 g.ip,.int .i64 g.b,.int .i64 g.gt,.string g.gm,.string g.wm,.int .i64 g.rs,.slice px g.ps.length pc,.slice ry g.ros.length rc]);have PA2:Hid (OwnS pv 4 135 w2 (w.heap.size+2) (.slice px g.ps.length pc) g.ps∧OwnRo w2 (w.heap.size+2) (.slice ry g.ros.length rc) X):=(by rw [hw2];exact ⟨own_putG PA1.out.1 (by omega) _ _,ro_putG PA1.out.2 (by omega) _ _⟩);clear hw2 T1 PA1) | (refine wpl_getO 46 rfl _ rfl w.heap.size 8 [.slice A.ua g.us.length A.uc,.slice A.sa g.ss.length A.sc,.slice A.fa g.fs.length A.fc,.slice A.ra g.es.length A.rc,.int .i64 g.nx] rfl T2.out.g rfl _ Tryz.underlying46 rfl rfl ?_) | fail)
 refine (HU.out _ T2.out.b).mono ?_
 rintro e w3 ⟨ux,sx,fx,ex,uc,sc,fc,ec,rfl,o4,bx⟩
 have T3:Hid (CB w [.int .i64 g.ip,.int .i64 g.b,.int .i64 g.gt,.string g.gm,.string g.wm,.int .i64 g.rs,.slice px g.ps.length pc,.slice ry g.ros.length rc,.slice A.ua g.us.length A.uc,.slice A.sa g.ss.length A.sc,.slice A.fa g.fs.length A.fc,.slice A.ra g.es.length A.rc,.int .i64 g.nx,.slice A.la g.fl.length A.lc,.slice A.ca g.co.length A.cc,.int .i64 g.nw,.int .i64 g.dr,.int .i64 g.sn] w3):=T2.out.call bx
 have PA3:Hid (OwnS pv 4 135 w3 (w.heap.size+2) (.slice px g.ps.length pc) g.ps∧OwnRo w3 (w.heap.size+2) (.slice ry g.ros.length rc) X):=⟨PA2.out.1.now bx,PA2.out.2.now bx⟩
 have PB3:Hid (Own4 w3 (w.heap.size+2) (.slice ux g.us.length uc) (.slice sx g.ss.length sc) (.slice fx g.fs.length fc) (.slice ex g.es.length ec) g.us g.ss g.fs g.es):=o4.lower T2.out.z
 clear HU T2 PA2 o4 bx
 go_wp2_with (first | (refine wpl_putO 46 rfl _ _ rfl w.heap.size 8 _ rfl rfl T3.out.g rfl rfl rfl ?_;intro w4 hw4 _;have T4:Hid (CB w [.int .i64 g.ip,.int .i64 g.b,.int .i64 g.gt,.string g.gm,.string g.wm,.int .i64 g.rs,.slice px g.ps.length pc,.slice ry g.ros.length rc,.slice ux g.us.length uc,.slice sx g.ss.length sc,.slice fx g.fs.length fc,.slice ex g.es.length ec,.int .i64 g.nx,.slice A.la g.fl.length A.lc,.slice A.ca g.co.length A.cc,.int .i64 g.nw,.int .i64 g.dr,.int .i64 g.sn] w4):=(by rw [hw4];exact T3.out.put 8 [.slice ux g.us.length uc,.slice sx g.ss.length sc,.slice fx g.fs.length fc,.slice ex g.es.length ec,.int .i64 g.nx]);have PA4:Hid (OwnS pv 4 135 w4 (w.heap.size+2) (.slice px g.ps.length pc) g.ps∧OwnRo w4 (w.heap.size+2) (.slice ry g.ros.length rc) X):=(by rw [hw4];exact ⟨own_putG PA3.out.1 (by omega) _ _,ro_putG PA3.out.2 (by omega) _ _⟩);have PB4:Hid (Own4 w4 (w.heap.size+2) (.slice ux g.us.length uc) (.slice sx g.ss.length sc) (.slice fx g.fs.length fc) (.slice ex g.es.length ec) g.us g.ss g.fs g.es):=(by rw [hw4];exact own4_putG PB3.out (by omega) _ _);clear hw4 T3 PA3 PB3;have al4:Below w4.heap.size w4 (w4.alloc (.cells #[] 159)):=(Below.refl _ _).alloc (Nat.le_refl _) _;have hS4:=SF.out _ (T4.out.call al4).b;have lt4:=OwnS.lit (c:=wvG) (K:=9) (e:=159) w4 w4.heap.size (Nat.le_refl _);have ca4:=acell (T4.out.g.cell 13 rfl) (.cells #[] 159)) | (at_builtin;refine wpl_FlowCS _ rfl (.tmp 11) (.tmp 13) rfl w4.heap.size _ [] g.fl rfl lt4 _ _ _ hS4.hrw hS4.hlen hS4.hspot hS4.hnil rfl (by have:=hS4.hmost;simp;omega) al4.size ?_))
 intro vl w5 Y5 _
 have ol:OwnS wvG 9 159 w5 w4.heap.size vl g.fl:=Y5.out.1
 have b5:Below w4.heap.size w4 w5:=al4.trans Y5.out.2
 obtain ⟨lx,lc,rfl,-⟩:=ol.slice
 have T5:Hid (CB w [.int .i64 g.ip,.int .i64 g.b,.int .i64 g.gt,.string g.gm,.string g.wm,.int .i64 g.rs,.slice px g.ps.length pc,.slice ry g.ros.length rc,.slice ux g.us.length uc,.slice sx g.ss.length sc,.slice fx g.fs.length fc,.slice ex g.es.length ec,.int .i64 g.nx,.slice A.la g.fl.length A.lc,.slice A.ca g.co.length A.cc,.int .i64 g.nw,.int .i64 g.dr,.int .i64 g.sn] w5):=T4.out.call b5
 have PA5:Hid (OwnS pv 4 135 w5 (w.heap.size+2) (.slice px g.ps.length pc) g.ps∧OwnRo w5 (w.heap.size+2) (.slice ry g.ros.length rc) X):=⟨PA4.out.1.now b5,PA4.out.2.now b5⟩
 have PB5:Hid (Own4 w5 (w.heap.size+2) (.slice ux g.us.length uc) (.slice sx g.ss.length sc) (.slice fx g.fs.length fc) (.slice ex g.es.length ec) g.us g.ss g.fs g.es):=PB4.out.now b5
 have PC5:Hid (OwnS wvG 9 159 w5 (w.heap.size+2) (.slice lx g.fl.length lc) g.fl):=ol.lower T4.out.z
 clear Y5 ol b5 T4 PA4 PB4 al4 hS4 lt4 ca4 SF
 go_wp2_with (first | (refine wpl_put1 47 rfl _ _ rfl w.heap.size 13 _ rfl rfl T5.out.g rfl rfl rfl ?_;intro w6 hw6;have T6:Hid (CB w [.int .i64 g.ip,.int .i64 g.b,.int .i64 g.gt,.string g.gm,.string g.wm,.int .i64 g.rs,.slice px g.ps.length pc,.slice ry g.ros.length rc,.slice ux g.us.length uc,.slice sx g.ss.length sc,.slice fx g.fs.length fc,.slice ex g.es.length ec,.int .i64 g.nx,.slice lx g.fl.length lc,.slice A.ca g.co.length A.cc,.int .i64 g.nw,.int .i64 g.dr,.int .i64 g.sn] w6):=(by rw [hw6];exact T5.out.put 13 [.slice lx g.fl.length lc]);have PA6:Hid (OwnS pv 4 135 w6 (w.heap.size+2) (.slice px g.ps.length pc) g.ps∧OwnRo w6 (w.heap.size+2) (.slice ry g.ros.length rc) X):=(by rw [hw6];exact ⟨own_putG PA5.out.1 (by omega) _ _,ro_putG PA5.out.2 (by omega) _ _⟩);have PB6:Hid (Own4 w6 (w.heap.size+2) (.slice ux g.us.length uc) (.slice sx g.ss.length sc) (.slice fx g.fs.length fc) (.slice ex g.es.length ec) g.us g.ss g.fs g.es):=(by rw [hw6];exact own4_putG PB5.out (by omega) _ _);have PC6:Hid (OwnS wvG 9 159 w6 (w.heap.size+2) (.slice lx g.fl.length lc) g.fl):=(by rw [hw6];exact own_putG PC5.out (by omega) _ _);clear hw6 T5 PA5 PB5 PC5;have al6:Below w6.heap.size w6 (w6.alloc (.cells #[] 162)):=(Below.refl _ _).alloc (Nat.le_refl _) _;have hS6:=SC.out _ (T6.out.call al6).b;have lt6:=OwnS.lit (c:=cnG) (K:=11) (e:=162) w6 w6.heap.size (Nat.le_refl _);have ca6:=acell (T6.out.g.cell 14 rfl) (.cells #[] 162)) | (at_builtin;refine wpl_ConnCS _ rfl (.tmp 16) (.tmp 18) rfl w6.heap.size _ [] g.co rfl lt6 _ _ _ hS6.hrw hS6.hlen hS6.hspot hS6.hnil rfl (by have:=hS6.hmost;simp;omega) al6.size ?_))
 intro vc w7 Y7 _
 have oc:OwnS cnG 11 162 w7 w6.heap.size vc g.co:=Y7.out.1
 have b7:Below w6.heap.size w6 w7:=al6.trans Y7.out.2
 obtain ⟨cx,cc,rfl,-⟩:=oc.slice
 have T7:Hid (CB w [.int .i64 g.ip,.int .i64 g.b,.int .i64 g.gt,.string g.gm,.string g.wm,.int .i64 g.rs,.slice px g.ps.length pc,.slice ry g.ros.length rc,.slice ux g.us.length uc,.slice sx g.ss.length sc,.slice fx g.fs.length fc,.slice ex g.es.length ec,.int .i64 g.nx,.slice lx g.fl.length lc,.slice A.ca g.co.length A.cc,.int .i64 g.nw,.int .i64 g.dr,.int .i64 g.sn] w7):=T6.out.call b7
 have PA7:Hid (OwnS pv 4 135 w7 (w.heap.size+2) (.slice px g.ps.length pc) g.ps∧OwnRo w7 (w.heap.size+2) (.slice ry g.ros.length rc) X):=⟨PA6.out.1.now b7,PA6.out.2.now b7⟩
 have PB7:Hid (Own4 w7 (w.heap.size+2) (.slice ux g.us.length uc) (.slice sx g.ss.length sc) (.slice fx g.fs.length fc) (.slice ex g.es.length ec) g.us g.ss g.fs g.es):=PB6.out.now b7
 have PC7:Hid (OwnS wvG 9 159 w7 (w.heap.size+2) (.slice lx g.fl.length lc) g.fl):=PC6.out.now b7
 have PD7:Hid (OwnS cnG 11 162 w7 (w.heap.size+2) (.slice cx g.co.length cc) g.co):=oc.lower T6.out.z
 clear Y7 oc b7 T6 PA6 PB6 PC6 al6 hS6 lt6 ca6 SC
 go_wp2_with (first | (refine wpl_put1 48 rfl _ _ rfl w.heap.size 14 _ rfl rfl T7.out.g rfl rfl rfl ?_;intro wA hwA;have T11:Hid (CB w [.int .i64 g.ip,.int .i64 g.b,.int .i64 g.gt,.string g.gm,.string g.wm,.int .i64 g.rs,.slice px g.ps.length pc,.slice ry g.ros.length rc,.slice ux g.us.length uc,.slice sx g.ss.length sc,.slice fx g.fs.length fc,.slice ex g.es.length ec,.int .i64 g.nx,.slice lx g.fl.length lc,.slice cx g.co.length cc,.int .i64 g.nw,.int .i64 g.dr,.int .i64 g.sn] wA):=(by rw [hwA];exact T7.out.put 14 [.slice cx g.co.length cc]);have FIN:Hid (OwnGt wA (w.heap.size+2) ⟨px,ry,ux,sx,fx,ex,lx,cx,pc,rc,uc,sc,fc,ec,lc,cc⟩ g X):=(by rw [hwA];exact ⟨EX.out,own_putG PA7.out.1 (by omega) _ _,ro_putG PA7.out.2 (by omega) _ _,own4_putG PB7.out (by omega) _ _,own_putG PC7.out (by omega) _ _,own_putG PD7.out (by omega) _ _⟩);clear hwA T7 PA7 PB7 PC7 PD7) | (refine wpl_getO 50 rfl _ rfl w.heap.size 0 [.int .i64 g.ip,.int .i64 g.b,.int .i64 g.gt,.string g.gm,.string g.wm,.int .i64 g.rs,.slice px g.ps.length pc,.slice ry g.ros.length rc,.slice ux g.us.length uc,.slice sx g.ss.length sc,.slice fx g.fs.length fc,.slice ex g.es.length ec,.int .i64 g.nx,.slice lx g.fl.length lc,.slice cx g.co.length cc,.int .i64 g.nw,.int .i64 g.dr,.int .i64 g.sn] rfl T11.out.g rfl _ Tryz.underlying50 rfl rfl ?_) | (refine wpl_putO 50 rfl _ _ rfl (w.heap.size+1) 0 _ rfl rfl T11.out.r rfl rfl rfl ?_;intro wB hwB RB;have BB:Hid (Below w.heap.size w wB):=(by rw [hwB];exact below_cells (by omega) _ _ _ T11.out.b);have FIN2:Hid (OwnGt wB (w.heap.size+2) ⟨px,ry,ux,sx,fx,ex,lx,cx,pc,rc,uc,sc,fc,ec,lc,cc⟩ g X):=(by rw [hwB];exact ⟨EX.out,own_putG FIN.out.ps (by omega) _ _,ro_putG FIN.out.rs (by omega) _ _,own4_putG FIN.out.gu (by omega) _ _,own_putG FIN.out.fl (by omega) _ _,own_putG FIN.out.co (by omega) _ _⟩);clear hwB T11 FIN) | fail)
 (try simp only [Exit.inBlock,Exit.then])
 refine bodyPost_ret (v:=.agg #[.int .i64 g.ip,.int .i64 g.b,.int .i64 g.gt,.string g.gm,.string g.wm,.int .i64 g.rs,.slice px g.ps.length pc,.slice ry g.ros.length rc,.slice ux g.us.length uc,.slice sx g.ss.length sc,.slice fx g.fs.length fc,.slice ex g.es.length ec,.int .i64 g.nx,.slice lx g.fl.length lc,.slice cx g.co.length cc,.int .i64 g.nw,.int .i64 g.dr,.int .i64 g.sn]) (results_cell Tryz.results29 (w.heap.size+1) rfl RB _ Tryz.underlying50 rfl rfl) rfl ?_
 exact ⟨px,ry,ux,sx,fx,ex,lx,cx,pc,rc,uc,sc,fc,ec,lc,cc,rfl,⟨X,FIN2.out.lower (by omega)⟩,BB.out⟩
structure CC (w:World) (cs:List Value) (W:World):Prop where
 g:Bx W w.heap.size cs
 r:Bx W (w.heap.size+1) [.int .i64 0,.int .i64 0,.int .i64 0,.string ⟨#[]⟩,.string ⟨#[]⟩,.int .i64 0,.slice none 0 0,.slice none 0 0]
 b:Below w.heap.size w W
 z:w.heap.size+2≤W.heap.size
theorem CC.call {w:World} {cs:List Value} {W W':World} (h:CC w cs W) (hb:Below W.heap.size W W'):CC w cs W':=⟨h.g.below hb,h.r.below hb,h.b.trans (hb.mono h.b.size),Nat.le_trans h.z hb.size⟩
theorem CC.put {w:World} {cs:List Value} {W:World} (h:CC w cs W) (o:Nat) (vs:List Value):CC w (sets cs o vs) (W.setCells w.heap.size o vs) :=
 ⟨h.g.sets vs o _ _,h.r.apartO vs (by omega),below_cells (Nat.le_refl _) vs o _ h.b,by rw [(heap_cellsA vs o W).1];exact h.z⟩
structure RA (w:World) (L:List RoX) (k:Nat) (v:Value) (X:List RoX) (W:World):Prop where
 row:OwnRo W (w.heap.size+2) v X
 map:X.map (fun x=>x.r)=(L.take k).map (fun x=>x.r)
set_option maxHeartbeats 8000000 in
theorem l13Config_any (A:GtA) (g:GtV) (L:List RoX) (B:Nat) (w:World) (op:OwnS pv 4 135 w B (.slice A.x g.ps.length A.xc) g.ps) (orr:OwnRo w B (.slice A.y g.ros.length A.yc) L) (hL:L.map (fun x=>x.r)=g.ros) (hp:Rw PlR 4 w A.x g.ps) (hro:Rw (RoR 0) 5 w A.y g.ros) (mp:g.ps.length≤1048576) (mr:g.ros.length≤1048576) (hru:∀ x,x ∈ L→x.r.rs.length≤1048576) :
  Calls Tryz.prog 77 #[.agg #[.int .i64 g.ip,.int .i64 g.b,.int .i64 g.gt,.string g.gm,.string g.wm,.int .i64 g.rs,.slice A.x g.ps.length A.xc,.slice A.y g.ros.length A.yc]] w fun e w'=>∃ (px ry:Option Addr) (pc rc:Nat) (X:List RoX),X.map (fun x=>x.r)=g.ros∧e=.returned (.agg #[.int .i64 g.ip,.int .i64 g.b,.int .i64 g.gt,.string g.gm,.string g.wm,.int .i64 g.rs,.slice px g.ps.length pc,.slice ry g.ros.length rc])∧(OwnS pv 4 135 w' w.heap.size (.slice px g.ps.length pc) g.ps∧OwnRo w' w.heap.size (.slice ry g.ros.length rc) X)∧Below w.heap.size w w':=by
 have T0:Hid (CC w [.int .i64 g.ip,.int .i64 g.b,.int .i64 g.gt,.string g.gm,.string g.wm,.int .i64 g.rs,.slice A.x g.ps.length A.xc,.slice A.y g.ros.length A.yc] ((w.alloc (.cells #[.int .i64 g.ip,.int .i64 g.b,.int .i64 g.gt,.string g.gm,.string g.wm,.int .i64 g.rs,.slice A.x g.ps.length A.xc,.slice A.y g.ros.length A.yc] 40)).alloc (.cells #[.int .i64 0,.int .i64 0,.int .i64 0,.string ⟨#[]⟩,.string ⟨#[]⟩,.int .i64 0,.slice none 0 0,.slice none 0 0] 40))):=by
  refine ⟨?_,?_,?_,?_⟩
  ·exact (Bx.new w #[.int .i64 g.ip,.int .i64 g.b,.int .i64 g.gt,.string g.gm,.string g.wm,.int .i64 g.rs,.slice A.x g.ps.length A.xc,.slice A.y g.ros.length A.yc] 40).below ((Below.refl _ _).alloc (Nat.le_refl _) _)
  ·have:=Bx.new (w.alloc (.cells #[.int .i64 g.ip,.int .i64 g.b,.int .i64 g.gt,.string g.gm,.string g.wm,.int .i64 g.rs,.slice A.x g.ps.length A.xc,.slice A.y g.ros.length A.yc] 40)) #[.int .i64 0,.int .i64 0,.int .i64 0,.string ⟨#[]⟩,.string ⟨#[]⟩,.int .i64 0,.slice none 0 0,.slice none 0 0] 40
   rw [World.size_alloc] at this
   exact this
  ·exact ((Below.refl _ _).alloc (Nat.le_refl _) _).alloc (by simp) _
  ·simp
 have hn:L.length=g.ros.length:=by rw [← hL,List.length_map]
 have SP:Hid (∀ W,Below w.heap.size w W→Src PlR 4 W A.x g.ps.length A.xc g.ps):=fun W hb=>by
  have sp:=own_spot op
  exact ⟨hp.keep PlR.kp hb,rfl,mp,sp.2.1,sp.2.2.1,sp.2.2.2⟩
 have SR:Hid (∀ x,x ∈ L→∀ W,Below w.heap.size w W→Src RuR 6 W x.ra x.r.rs.length x.rc x.r.rs):=fun x hx W hb=>by
  have lie:=roles_lie orr hL hro x hx
  exact ⟨lie.2.2.2.1.keep RuR.kp hb,rfl,hru x hx,lie.2.1,lie.2.2.2.2.1,lie.2.2.2.2.2⟩
 have RW:Hid (∀ W,Below w.heap.size w W→OwnS roG 5 142 W B (.slice A.y g.ros.length A.yc) L):=fun W hb=>own_keep (P:=fun k=>k<w.heap.size) orr.row ⟨hb.os,hb.tape,hb.output,hb.size,hb.block⟩ (fun k e=>(orr.row.lt k e).2)
 have HL:Hid (L.map (fun x=>x.r)=g.ros):=hL
 have al0:Below ((w.alloc (.cells #[.int .i64 g.ip,.int .i64 g.b,.int .i64 g.gt,.string g.gm,.string g.wm,.int .i64 g.rs,.slice A.x g.ps.length A.xc,.slice A.y g.ros.length A.yc] 40)).alloc (.cells #[.int .i64 0,.int .i64 0,.int .i64 0,.string ⟨#[]⟩,.string ⟨#[]⟩,.int .i64 0,.slice none 0 0,.slice none 0 0] 40)).heap.size ((w.alloc (.cells #[.int .i64 g.ip,.int .i64 g.b,.int .i64 g.gt,.string g.gm,.string g.wm,.int .i64 g.rs,.slice A.x g.ps.length A.xc,.slice A.y g.ros.length A.yc] 40)).alloc (.cells #[.int .i64 0,.int .i64 0,.int .i64 0,.string ⟨#[]⟩,.string ⟨#[]⟩,.int .i64 0,.slice none 0 0,.slice none 0 0] 40)) (((w.alloc (.cells #[.int .i64 g.ip,.int .i64 g.b,.int .i64 g.gt,.string g.gm,.string g.wm,.int .i64 g.rs,.slice A.x g.ps.length A.xc,.slice A.y g.ros.length A.yc] 40)).alloc (.cells #[.int .i64 0,.int .i64 0,.int .i64 0,.string ⟨#[]⟩,.string ⟨#[]⟩,.int .i64 0,.slice none 0 0,.slice none 0 0] 40)).alloc (.cells #[] 135)):=(Below.refl _ _).alloc (Nat.le_refl _) _
 have hS0:=SP.out _ (T0.out.call al0).b
 have lt0:=OwnS.lit (c:=pv) (K:=4) (e:=135) ((w.alloc (.cells #[.int .i64 g.ip,.int .i64 g.b,.int .i64 g.gt,.string g.gm,.string g.wm,.int .i64 g.rs,.slice A.x g.ps.length A.xc,.slice A.y g.ros.length A.yc] 40)).alloc (.cells #[.int .i64 0,.int .i64 0,.int .i64 0,.string ⟨#[]⟩,.string ⟨#[]⟩,.int .i64 0,.slice none 0 0,.slice none 0 0] 40)) ((w.alloc (.cells #[.int .i64 g.ip,.int .i64 g.b,.int .i64 g.gt,.string g.gm,.string g.wm,.int .i64 g.rs,.slice A.x g.ps.length A.xc,.slice A.y g.ros.length A.yc] 40)).alloc (.cells #[.int .i64 0,.int .i64 0,.int .i64 0,.string ⟨#[]⟩,.string ⟨#[]⟩,.int .i64 0,.slice none 0 0,.slice none 0 0] 40)).heap.size (Nat.le_refl _)
 have ca0:=acell (T0.out.g.cell 6 rfl) (.cells #[] 135)
 clear op orr hL hp hro mp hru
 have hk0:=al0.size
 have hsz0:((w.alloc (.cells #[.int .i64 g.ip,.int .i64 g.b,.int .i64 g.gt,.string g.gm,.string g.wm,.int .i64 g.rs,.slice A.x g.ps.length A.xc,.slice A.y g.ros.length A.yc] 40)).alloc (.cells #[.int .i64 0,.int .i64 0,.int .i64 0,.string ⟨#[]⟩,.string ⟨#[]⟩,.int .i64 0,.slice none 0 0,.slice none 0 0] 40)).heap.size=w.heap.size+1+1:=by simp
 rw [hsz0] at lt0 hk0
 go_enter Tryz.func77,Tryz.ntmps77
 go_wp2_with (at_builtin;go_loud (refine wpl_PlaceCS _ rfl (.tmp 6) (.tmp 8) rfl (w.heap.size+1+1) _ [] g.ps rfl lt0 _ _ _ hS0.hrw hS0.hlen hS0.hspot hS0.hnil rfl (by have:=hS0.hmost;simp;omega) hk0 ?_))
 intro vp w1 Y1 _
 have op1:OwnS pv 4 135 w1 (w.heap.size+1+1) vp g.ps:=Y1.out.1
 have b1:Below ((w.alloc (.cells #[.int .i64 g.ip,.int .i64 g.b,.int .i64 g.gt,.string g.gm,.string g.wm,.int .i64 g.rs,.slice A.x g.ps.length A.xc,.slice A.y g.ros.length A.yc] 40)).alloc (.cells #[.int .i64 0,.int .i64 0,.int .i64 0,.string ⟨#[]⟩,.string ⟨#[]⟩,.int .i64 0,.slice none 0 0,.slice none 0 0] 40)).heap.size ((w.alloc (.cells #[.int .i64 g.ip,.int .i64 g.b,.int .i64 g.gt,.string g.gm,.string g.wm,.int .i64 g.rs,.slice A.x g.ps.length A.xc,.slice A.y g.ros.length A.yc] 40)).alloc (.cells #[.int .i64 0,.int .i64 0,.int .i64 0,.string ⟨#[]⟩,.string ⟨#[]⟩,.int .i64 0,.slice none 0 0,.slice none 0 0] 40)) w1:=al0.trans (by rw [hsz0];exact Y1.out.2)
 obtain ⟨px,pc,rfl,-⟩:=op1.slice
 have T1:Hid (CC w [.int .i64 g.ip,.int .i64 g.b,.int .i64 g.gt,.string g.gm,.string g.wm,.int .i64 g.rs,.slice A.x g.ps.length A.xc,.slice A.y g.ros.length A.yc] w1):=T0.out.call b1
 have PA1:Hid (OwnS pv 4 135 w1 (w.heap.size+2) (.slice px g.ps.length pc) g.ps):=op1
 clear Y1 op1 b1 T0 al0 hS0 lt0 ca0 SP hk0 hsz0
 go_wp2_with (first | (refine wpl_put1 37 rfl _ _ rfl w.heap.size 6 _ rfl rfl T1.out.g rfl rfl rfl ?_;intro w2 hw2;have T2:Hid (CC w [.int .i64 g.ip,.int .i64 g.b,.int .i64 g.gt,.string g.gm,.string g.wm,.int .i64 g.rs,.slice px g.ps.length pc,.slice A.y g.ros.length A.yc] w2):=(by rw [hw2];exact T1.out.put 6 [.slice px g.ps.length pc]);have PA2:Hid (OwnS pv 4 135 w2 (w.heap.size+2) (.slice px g.ps.length pc) g.ps):=(by rw [hw2];exact own_putG PA1.out (by omega) _ _);clear hw2 T1 PA1) | fail)
 have al2:Below w2.heap.size w2 (w2.alloc (.cells #[] 142)):=(Below.refl _ _).alloc (Nat.le_refl _) _
 have T3:Hid (CC w [.int .i64 g.ip,.int .i64 g.b,.int .i64 g.gt,.string g.gm,.string g.wm,.int .i64 g.rs,.slice px g.ps.length pc,.slice A.y g.ros.length A.yc] (w2.alloc (.cells #[] 142))):=T2.out.call al2
 have PA3:Hid (OwnS pv 4 135 (w2.alloc (.cells #[] 142)) (w.heap.size+2) (.slice px g.ps.length pc) g.ps):=PA2.out.now al2
 have RA3:Hid (RA w L 0 (.slice (some ⟨w2.heap.size,0,none⟩) 0 0) [] (w2.alloc (.cells #[] 142))):=⟨⟨(OwnS.lit (c:=roG) (K:=5) (e:=142) w2 w2.heap.size (Nat.le_refl _)).lower T2.out.z,fun x hx=>(by cases hx),List.Pairwise.nil⟩,rfl⟩
 go_loopw [3,4] (fun v i wr=>∃ (k:Nat) (X:List RoX),k≤g.ros.length∧i=.int .i64 k∧Hid (RA w L k v X wr)∧Hid (CC w [.int .i64 g.ip,.int .i64 g.b,.int .i64 g.gt,.string g.gm,.string g.wm,.int .i64 g.rs,.slice px g.ps.length pc,.slice A.y g.ros.length A.yc] wr)∧Hid (OwnS pv 4 135 wr (w.heap.size+2) (.slice px g.ps.length pc) g.ps)) (fun _ i _=>g.ros.length - (intOf i).toNat)
 case atStart=>exact ⟨0,[],Nat.zero_le _,rfl,RA3,T3,PA3⟩
 case round =>
  clear RA3 T3 PA3 al2 T2 PA2
  obtain ⟨k,X,hk,rfl,HI,T5,op5⟩:=hrel
  have c7:=T5.out.g.cell 7 rfl
  by_cases hlt:k<g.ros.length
  ·have hxl:k<L.length:=by omega
   obtain ⟨x,hxL⟩:=at_of (xs:=L) rfl hxl
   have row:=RW.out wr T5.out.b
   obtain ⟨gR,hgR,hBg,hg,-⟩:=row.form (by omega)
   rw [hgR] at row c7
   have hltz:(k:Int)<(g.ros.length:Int):=by omega
   have q0:wr.cell? ⟨gR,k * 5,none⟩=some (.string x.r.nm):=(row.cell roG_len (j:=0) hxL rfl).1
   have q1:wr.cell? ⟨gR,k * 5+1,none⟩=some (.slice x.ra x.r.rs.length x.rc):=(row.cell roG_len (j:=1) hxL rfl).1
   have q2:wr.cell? ⟨gR,k * 5+2,none⟩=some (.int .i64 x.r.q):=(row.cell roG_len (j:=2) hxL rfl).1
   have q3:wr.cell? ⟨gR,k * 5+3,none⟩=some (.int .i64 x.r.m):=(row.cell roG_len (j:=3) hxL rfl).1
   have q4:wr.cell? ⟨gR,k * 5+4,none⟩=some (.int .i64 x.r.i):=(row.cell roG_len (j:=4) hxL rfl).1
   have hSx:=SR.out x (List.mem_of_getElem? hxL)
   clear row hgR
   have hx:Hid (x ∈ L):=List.mem_of_getElem? hxL
   have BR5:Hid (Bx (wr.alloc (.cells #[.string x.r.nm,.slice x.ra x.r.rs.length x.rc,.int .i64 x.r.q,.int .i64 x.r.m,.int .i64 x.r.i] 142)) wr.heap.size [.string x.r.nm,.slice x.ra x.r.rs.length x.rc,.int .i64 x.r.q,.int .i64 x.r.m,.int .i64 x.r.i]):=Bx.new wr #[.string x.r.nm,.slice x.ra x.r.rs.length x.rc,.int .i64 x.r.q,.int .i64 x.r.m,.int .i64 x.r.i] 142
   have al5:Below wr.heap.size wr (wr.alloc (.cells #[.string x.r.nm,.slice x.ra x.r.rs.length x.rc,.int .i64 x.r.q,.int .i64 x.r.m,.int .i64 x.r.i] 142)):=(Below.refl _ _).alloc (Nat.le_refl _) _
   have al6:Below (wr.alloc (.cells #[.string x.r.nm,.slice x.ra x.r.rs.length x.rc,.int .i64 x.r.q,.int .i64 x.r.m,.int .i64 x.r.i] 142)).heap.size (wr.alloc (.cells #[.string x.r.nm,.slice x.ra x.r.rs.length x.rc,.int .i64 x.r.q,.int .i64 x.r.m,.int .i64 x.r.i] 142)) ((wr.alloc (.cells #[.string x.r.nm,.slice x.ra x.r.rs.length x.rc,.int .i64 x.r.q,.int .i64 x.r.m,.int .i64 x.r.i] 142)).alloc (.cells #[] 156)):=(Below.refl _ _).alloc (Nat.le_refl _) _
   have hS6:=SR.out x hx.out _ ((T5.out.call al5).call al6).b
   have lt6:=OwnS.lit (c:=rv) (K:=6) (e:=156) (wr.alloc (.cells #[.string x.r.nm,.slice x.ra x.r.rs.length x.rc,.int .i64 x.r.q,.int .i64 x.r.m,.int .i64 x.r.i] 142)) (wr.alloc (.cells #[.string x.r.nm,.slice x.ra x.r.rs.length x.rc,.int .i64 x.r.q,.int .i64 x.r.m,.int .i64 x.r.i] 142)).heap.size (Nat.le_refl _)
   have hk6:=al6.size
   have hs5:(wr.alloc (.cells #[.string x.r.nm,.slice x.ra x.r.rs.length x.rc,.int .i64 x.r.q,.int .i64 x.r.m,.int .i64 x.r.i] 142)).heap.size=wr.heap.size+1:=by simp
   rw [hs5] at lt6 hk6
   have ca6:=(BR5.out.below al6).cell 1 rfl
   have hlen9:X.length+1≤2000000:=by
    have:=congrArg List.length HI.out.map
    simp only [List.length_map,List.length_take] at this
    omega
   replace hxL:Hid (L[k]?=some x):=hxL
   clear hSx
   go_wp2_with (at_builtin;go_loud (refine wpl_RuleCS _ rfl (.tmp 24) (.tmp 26) rfl (wr.heap.size+1) _ [] x.r.rs rfl lt6 _ _ _ hS6.hrw hS6.hlen hS6.hspot hS6.hnil rfl (by have:=hS6.hmost;simp;omega) hk6 ?_))
   intro v7 w7 Y7 _
   have o7:OwnS rv 6 156 w7 (wr.heap.size+1) v7 x.r.rs:=Y7.out.1
   have b7:Below (wr.alloc (.cells #[.string x.r.nm,.slice x.ra x.r.rs.length x.rc,.int .i64 x.r.q,.int .i64 x.r.m,.int .i64 x.r.i] 142)).heap.size (wr.alloc (.cells #[.string x.r.nm,.slice x.ra x.r.rs.length x.rc,.int .i64 x.r.q,.int .i64 x.r.m,.int .i64 x.r.i] 142)) w7:=al6.trans (by rw [hs5];exact Y7.out.2)
   obtain ⟨a,c,rfl,-⟩:=o7.slice
   have BR7:Hid (Bx w7 wr.heap.size [.string x.r.nm,.slice x.ra x.r.rs.length x.rc,.int .i64 x.r.q,.int .i64 x.r.m,.int .i64 x.r.i]):=BR5.out.below b7
   have B7:Hid (Below wr.heap.size wr w7):=al5.trans (b7.mono al5.size)
   have O7:Hid (OwnS rv 6 156 w7 (wr.heap.size+1) (.slice a x.r.rs.length c) x.r.rs):=o7
   clear Y7 o7 b7 al5 al6 hS6 lt6 hk6 hs5 ca6 BR5 q0 q1 q2 q3 q4 c7
   go_wp2_with (first | (refine wpl_put1 140 rfl _ _ rfl wr.heap.size 1 _ rfl rfl BR7.out rfl rfl rfl ?_;intro w8 hw8;have BR8:Hid (Bx w8 wr.heap.size [.string x.r.nm,.slice a x.r.rs.length c,.int .i64 x.r.q,.int .i64 x.r.m,.int .i64 x.r.i]):=(by rw [hw8];exact BR7.out.sets [.slice a x.r.rs.length c] 1 _ _);have B8:Hid (Below wr.heap.size wr w8):=(by rw [hw8];exact below_cells (Nat.le_refl _) _ _ _ B7.out);have O8:Hid (OwnS rv 6 156 w8 (wr.heap.size+1) (.slice a x.r.rs.length c) x.r.rs):=(by rw [hw8];exact own_putG O7.out (by omega) _ _);clear hw8 BR7 B7 O7;have al9:Below w8.heap.size w8 (w8.alloc (.cells #[.string x.r.nm,.slice a x.r.rs.length c,.int .i64 x.r.q,.int .i64 x.r.m,.int .i64 x.r.i] 142)):=(Below.refl _ _).alloc (Nat.le_refl _) _;have row9:OwnS roG 5 142 (w8.alloc (.cells #[.string x.r.nm,.slice a x.r.rs.length c,.int .i64 x.r.q,.int .i64 x.r.m,.int .i64 x.r.i] 142)) (w.heap.size+2) u3 X:=(HI.out.row.row.now (B8.out.mono (Nat.le_refl _))).now al9;have hc9:∀ j u,(flatS roG [{ x with ra:=a,rc:=c }])[j]?=some u→(w8.alloc (.cells #[.string x.r.nm,.slice a x.r.rs.length c,.int .i64 x.r.q,.int .i64 x.r.m,.int .i64 x.r.i] 142)).cell? ⟨w8.heap.size,0+j,none⟩=some u:=(fun j u hu=>by rw [Nat.zero_add];exact (Bx.new w8 #[.string x.r.nm,.slice a x.r.rs.length c,.int .i64 x.r.q,.int .i64 x.r.m,.int .i64 x.r.i] 142).cell j hu);have hB9:w.heap.size+2≤(w8.alloc (.cells #[.string x.r.nm,.slice a x.r.rs.length c,.int .i64 x.r.q,.int .i64 x.r.m,.int .i64 x.r.i] 142)).heap.size:=Nat.le_trans T5.out.z (Nat.le_trans B8.out.size al9.size)) | (refine wpl_getO 142 rfl _ rfl wr.heap.size 0 [.string x.r.nm,.slice a x.r.rs.length c,.int .i64 x.r.q,.int .i64 x.r.m,.int .i64 x.r.i] rfl BR8.out rfl _ Tryz.underlying142 rfl rfl ?_) | (at_builtin;go_loud (refine wpl_RoleC _ rfl (.tmp 29) (.tmp 31) rfl (w.heap.size+2) _ X [{ x with ra:=a,rc:=c }] rfl row9 w8.heap.size 0 1 1 rfl rfl hc9 hlen9 hB9 ?_)))
   intro v9 w9 Y9 g9
   have T9:Hid (CC w [.int .i64 g.ip,.int .i64 g.b,.int .i64 g.gt,.string g.gm,.string g.wm,.int .i64 g.rs,.slice px g.ps.length pc,.slice A.y g.ros.length A.yc] w9):=by
    have t:=(T5.out.call B8.out).call al9
    have kp:Rel.Keep (fun b=>b<w.heap.size+2) (w8.alloc (.cells #[.string x.r.nm,.slice a x.r.rs.length c,.int .i64 x.r.q,.int .i64 x.r.m,.int .i64 x.r.i] 142)) w9:=⟨Y9.out.2.os,Y9.out.2.tape,Y9.out.2.output,Y9.out.2.size,Y9.out.2.block⟩
    exact ⟨bx_keep t.g kp (by omega),bx_keep t.r kp (by omega),t.b.trans (Y9.out.2.mono (by omega)),Nat.le_trans t.z kp.size⟩
   have op9:Hid (OwnS pv 4 135 w9 (w.heap.size+2) (.slice px g.ps.length pc) g.ps):=by
    have o:=(op5.out.now B8.out).now al9
    exact o.kept g9 ((apB_of o row9 (by decide)).kept)
   have nw:OwnS rv 6 156 (w8.alloc (.cells #[.string x.r.nm,.slice a x.r.rs.length c,.int .i64 x.r.q,.int .i64 x.r.m,.int .i64 x.r.i] 142)) (w.heap.size+2) (.slice a x.r.rs.length c) x.r.rs:=(O8.out.now al9).lower (by have:=T5.out.z;omega)
   have RA9:Hid (RA w L (k+1) v9 (X ++ [{ x with ra:=a,rc:=c }]) w9):=by
    refine ⟨⟨Y9.out.1,?_,?_⟩,?_⟩
    ·intro z hz
     rcases List.mem_append.1 hz with hz | hz
     ·have o:=((HI.out.row.rules z hz).now B8.out).now al9
      exact o.kept g9 ((apB_of o row9 (by decide)).kept)
     ·rw [List.mem_singleton] at hz
      subst hz
      exact nw.kept g9 ((apB_of nw row9 (by decide)).kept)
    ·rw [List.pairwise_append]
     refine ⟨HI.out.row.apart,List.pairwise_singleton _ _,?_⟩
     intro y hy z hz
     rw [List.mem_singleton] at hz
     subst hz
     intro b hb1 hb2
     have l1:=((HI.out.row.rules y hy).lt b hb1).2
     have l2:=(O8.out.lt b hb2).1
     omega
    ·rw [List.map_append,HI.out.map,List.take_add_one,hxL.out,List.map_append];rfl
   clear T5 op5 nw HI B8 O8 BR8 al9 row9 hc9 hB9 Y9 g9 hlen9 hx hxL hBg hg
   go_wp2
   go_roundw
   case rel=>exact ⟨k+1,X ++ [{ x with ra:=a,rc:=c }],by omega,by go_num,RA9,T9,op9⟩
   case measure=>simp [intOf];omega
  ·obtain rfl:k=g.ros.length:=by omega
   have hXg:Hid (X.map (fun x=>x.r)=g.ros):=by show _=_;rw [HI.out.map,← hn,List.take_length];exact HL.out
   have hXl:X.length=g.ros.length:=by rw [← hXg.out,List.length_map]
   have ow:=HI.out.row
   obtain ⟨ry,rc,hv,-⟩:=ow.row.slice
   rw [hXl] at hv
   subst hv
   have OW:Hid (OwnRo wr (w.heap.size+2) (.slice ry g.ros.length rc) X):=ow
   clear HI ow SR RW HL
   go_wp2_with (first | (refine wpl_put1 38 rfl _ _ rfl w.heap.size 7 _ rfl rfl T5.out.g rfl rfl rfl ?_;intro wA hwA;have TA_:Hid (CC w [.int .i64 g.ip,.int .i64 g.b,.int .i64 g.gt,.string g.gm,.string g.wm,.int .i64 g.rs,.slice px g.ps.length pc,.slice ry g.ros.length rc] wA):=(by rw [hwA];exact T5.out.put 7 [.slice ry g.ros.length rc]);have PAA:Hid (OwnS pv 4 135 wA (w.heap.size+2) (.slice px g.ps.length pc) g.ps∧OwnRo wA (w.heap.size+2) (.slice ry g.ros.length rc) X):=(by rw [hwA];exact ⟨own_putG op5.out (by omega) _ _,ro_putG OW.out (by omega) _ _⟩);clear hwA T5 op5 OW) | (refine wpl_getO 40 rfl _ rfl w.heap.size 0 [.int .i64 g.ip,.int .i64 g.b,.int .i64 g.gt,.string g.gm,.string g.wm,.int .i64 g.rs,.slice px g.ps.length pc,.slice ry g.ros.length rc] rfl TA_.out.g rfl _ Tryz.underlying40 rfl rfl ?_) | (refine wpl_putO 40 rfl _ _ rfl (w.heap.size+1) 0 _ rfl rfl TA_.out.r rfl rfl rfl ?_;intro wB hwB RB;have BB:Hid (Below w.heap.size w wB):=(by rw [hwB];exact below_cells (by omega) _ _ _ TA_.out.b);have PBB:Hid (OwnS pv 4 135 wB (w.heap.size+2) (.slice px g.ps.length pc) g.ps∧OwnRo wB (w.heap.size+2) (.slice ry g.ros.length rc) X):=(by rw [hwB];exact ⟨own_putG PAA.out.1 (by omega) _ _,ro_putG PAA.out.2 (by omega) _ _⟩);clear hwB TA_ PAA) | fail)
   (try simp only [Exit.inBlock,Exit.then])
   refine bodyPost_ret (v:=.agg #[.int .i64 g.ip,.int .i64 g.b,.int .i64 g.gt,.string g.gm,.string g.wm,.int .i64 g.rs,.slice px g.ps.length pc,.slice ry g.ros.length rc]) (results_cell Tryz.results77 (w.heap.size+1) rfl RB _ Tryz.underlying40 rfl rfl) rfl ?_
   exact ⟨px,ry,pc,rc,X,hXg.out,rfl,⟨PBB.out.1.lower (by omega),PBB.out.2.lower (by omega)⟩,BB.out⟩
theorem l13Own_any (A:GtA) (g:GtV) (L:List RoX) (B:Nat) (w:World) (h:OwnGt w B A g L) (hr:GtR w A g) (hs:GtS g) (hru:∀ x,x ∈ L→x.r.rs.length≤1048576) :
  Calls Tryz.prog 29 #[.agg #[.int .i64 g.ip,.int .i64 g.b,.int .i64 g.gt,.string g.gm,.string g.wm,.int .i64 g.rs,.slice A.x g.ps.length A.xc,.slice A.y g.ros.length A.yc,.slice A.ua g.us.length A.uc,.slice A.sa g.ss.length A.sc,.slice A.fa g.fs.length A.fc,.slice A.ra g.es.length A.rc,.int .i64 g.nx,.slice A.la g.fl.length A.lc,.slice A.ca g.co.length A.cc,.int .i64 g.nw,.int .i64 g.dr,.int .i64 g.sn]] w fun e w'=>∃ (px ry ux sx fx ex lx cx:Option Addr) (pc rc uc sc fc ec lc cc:Nat) (X:List RoX),e=.returned (.agg #[.int .i64 g.ip,.int .i64 g.b,.int .i64 g.gt,.string g.gm,.string g.wm,.int .i64 g.rs,.slice px g.ps.length pc,.slice ry g.ros.length rc,.slice ux g.us.length uc,.slice sx g.ss.length sc,.slice fx g.fs.length fc,.slice ex g.es.length ec,.int .i64 g.nx,.slice lx g.fl.length lc,.slice cx g.co.length cc,.int .i64 g.nw,.int .i64 g.dr,.int .i64 g.sn])∧OwnGt w' w.heap.size ⟨px,ry,ux,sx,fx,ex,lx,cx,pc,rc,uc,sc,fc,ec,lc,cc⟩ g X∧Below w.heap.size w w' :=
 l13Own_of A g L B w h hr hs (fun W hb=>l13Config_any A g L B W (h.ps.now hb) (h.rs.now hb) h.ro (hr.ps.keep PlR.kp hb) (hr.ros.keep (RoR.kp 0) hb) hs.ps hs.ros hru)
open Go.RowKit Go.PlainAid Go.Sort
theorem results_cell2 {P:Program} {fn:Func} {tmps:Array Value} {w:World} {a b:Tmp} {t:TypeId} (hr:fn.results=#[.cell a t,.tmp b]) (q:Nat) (hp:tmps.getD a undef=.pointer (some ⟨q,0,none⟩)) {v:Value} (hv:tmps.getD b undef=v) {cs:List Value} (hb:Bx w q cs)
  (d:TypeDesc) (hu:P.underlying t=some d) (hd:d.isRow=true) (hi:(P.info? t).map (·.size)=some cs.length):(results fn tmps).run P w=.ok (.tuple #[.agg cs.toArray,v]) w:=by
 have h:=run_loadVar_mid w q 0 t cs d hb.cl hu hd hi
 unfold results
 rw [hr]
 have hp':tmps[a]?.getD undef=.pointer (some ⟨q,0,none⟩):=by rw [← Array.getD_eq_getD_getElem?];exact hp
 have hv':tmps[b]?.getD undef=v:=by rw [← Array.getD_eq_getD_getElem?];exact hv
 simp [hp',hv',asAddr,h]
set_option maxHeartbeats 2000000 in
theorem l08Role_any (ip b gt:Int) (gm wm:ByteArray) (rs:Int) (x y:Option Addr) (lenx capx leny capy:Nat) (ros:List RoleV) (nm2:ByteArray) (w:World) (h:Rw (RoR 0) 5 w y ros) (hl:ros.length=leny) (hl9:leny≤1048576) :
  Calls Tryz.prog 129 #[.agg #[.int .i64 ip,.int .i64 b,.int .i64 gt,.string gm,.string wm,.int .i64 rs,.slice x lenx capx,.slice y leny capy],.string nm2] w fun e w'=>e=.returned (.int .i64 (roI ros nm2))∧Grw w w':=by
 have RY:Hid (Rw (RoR 0) 5 w y ros):=h
 clear h
 go_enter Tryz.func129,Tryz.ntmps129
 go_wp2
 go_loopw [5] (fun u wr=>∃ k:Nat,k≤leny∧u=.int .i64 k∧Hid ((ros.take k).find? (rfP nm2)=none)∧Hid (Grw w wr∧wr.cell? ⟨w.heap.size,7,none⟩=some (.slice y leny capy))) (fun u _=>leny - (intOf u).toNat)
 case atStart=>exact ⟨0,Nat.zero_le _,rfl,rfl,(Grw.refl _).alloc _,by simp [go_sem]⟩
 case round =>
  obtain ⟨k,hk,rfl,HO,HG⟩:=hrel
  have gs:=HG.out.2
  by_cases hlt:k<leny
  ·obtain ⟨z,hx⟩:=at_of hl hlt
   obtain ⟨bk,off,vs,rfl,hb,hvl,hR,hc⟩:=RY.out.at (RoR.kp 0) HG.out.1.below hx
   have HY:Hid (rfP nm2 z=true→roI ros nm2=k):=fun h=>by unfold roI;rw [bfind_yes hx HO.out h,bfind_at hx HO.out h]
   have HN:Hid (rfP nm2 z=false→(ros.take (k+1)).find? (rfP nm2)=none):=fun h=>bfind_no hx HO.out h
   have HX:Hid (ros[k]?=some z):=hx
   clear hx
   obtain ⟨nm,rrs,rq,rm,ri⟩:=z
   obtain ⟨ra,rc,rfl,-⟩:=hR
   have q0:wr.cell? ⟨bk,off+k * 5,none⟩=some (.string nm):=hc 0 _ rfl
   have hltz:(k:Int)<(leny:Int):=by omega
   have he:rfP nm2 ⟨nm,rrs,rq,rm,ri⟩=(nm.toList == nm2.toList):=rfl
   rw [he] at HY HN
   obtain ⟨u,hu⟩:∃ u,(nm.toList == nm2.toList)=u:=⟨_,rfl⟩
   rw [hu] at HY HN
   clear hc hvl he
   cases u with
   | false =>
    have HN':Hid ((ros.take (k+1)).find? (rfP nm2)=none):=HN.out rfl
    clear HY HN
    go_wp2
    go_roundw
    case rel=>exact ⟨k+1,by omega,by go_num,HN',HG⟩
    case measure=>simp [intOf];omega
   | true =>
    have HY':Hid (roI ros nm2=k):=HY.out rfl
    clear HY HN
    go_wp2
    go_ret
    exact ⟨by rw [HY'.out];rfl,HG.out.1⟩
  ·obtain rfl:k=leny:=by omega
   have hd:Hid (roI ros nm2=-1):=by show roI ros nm2=-1;unfold roI;rw [bfind_end hl HO.out]
   go_wp2
   go_ret
   exact ⟨by rw [hd.out];rfl,HG.out.1⟩
set_option maxHeartbeats 8000000 in
theorem l08Users_any (ip b gt:Int) (gm wm:ByteArray) (rs:Int) (x y:Option Addr) (lenx capx leny capy:Nat) (ros:List RoleV) (a:Option Addr) (len cap:Nat) (us:List UserV) (w:World) (h:Rw (RoR 0) 5 w y ros) (hl2:ros.length=leny) (hu:Rw UsR 6 w a us) (hl:us.length=len) (hsz:SzU us) (hl9:leny≤1048576) (hl8:len≤1048576) :
  Calls Tryz.prog 73 #[.agg #[.int .i64 ip,.int .i64 b,.int .i64 gt,.string gm,.string wm,.int .i64 rs,.slice x lenx capx,.slice y leny capy],.slice a len cap] w fun e w'=>e=.returned (.bool (usB ros us))∧Grw w w':=by
 have RY:Hid (Rw (RoR 0) 5 w y ros):=h
 have RW:Hid (Rw UsR 6 w a us):=hu
 have SZ:Hid (SzU us):=hsz
 clear h hu hsz
 go_enter Tryz.func73,Tryz.ntmps73
 go_wp2
 go_loopw [5] (fun u wr=>∃ k:Nat,k≤len∧u=.int .i64 k∧Hid ((List.range k).all (risAt (uB ros) ltU us)=true)∧Hid (Grw w wr∧wr.cell? ⟨w.heap.size,0,none⟩=some (.int .i64 ip)∧wr.cell? ⟨w.heap.size,1,none⟩=some (.int .i64 b)∧wr.cell? ⟨w.heap.size,2,none⟩=some (.int .i64 gt)∧wr.cell? ⟨w.heap.size,3,none⟩=some (.string gm)∧wr.cell? ⟨w.heap.size,4,none⟩=some (.string wm)∧wr.cell? ⟨w.heap.size,5,none⟩=some (.int .i64 rs)∧wr.cell? ⟨w.heap.size,6,none⟩=some (.slice x lenx capx)∧wr.cell? ⟨w.heap.size,7,none⟩=some (.slice y leny capy))) (fun u _=>len - (intOf u).toNat)
 case atStart=>exact ⟨0,Nat.zero_le _,rfl,rfl,(Grw.refl _).alloc _,by simp [go_sem],by simp [go_sem],by simp [go_sem],by simp [go_sem],by simp [go_sem],by simp [go_sem],by simp [go_sem],by simp [go_sem]⟩
 case round =>
  obtain ⟨k,hk,rfl,HO,HG⟩:=hrel
  obtain ⟨G0,d0,d1,d2,d3,d4,d5,d6,d7⟩:=HG.out
  have GG:=G0.below
  by_cases hlt:k<len
  ·obtain ⟨z,hx⟩:=at_of hl hlt
   obtain ⟨bk,off,vs,rfl,hb,hvl,hR,hc⟩:=RW.out.at UsR.kp GG hx
   have hsz:=SZ.out _ (List.mem_of_getElem? hx)
   have HS:Hid (risAt (uB ros) ltU us k=true→(List.range (k+1)).all (risAt (uB ros) ltU us)=true):=fun h=>ris_step HO.out h
   have HF:Hid (risAt (uB ros) ltU us k=false→risB (uB ros) ltU us=false):=fun h=>ris_no (by omega) h
   obtain ⟨nm,sa,ha,ro,bl,lg⟩:=z
   obtain ⟨rfl,-⟩:=hR
   have q0:wr.cell? ⟨bk,off+k * 6,none⟩=some (.string nm):=hc 0 _ rfl
   have q1:wr.cell? ⟨bk,off+k * 6+1,none⟩=some (.string sa):=hc 1 _ rfl
   have q2:wr.cell? ⟨bk,off+k * 6+2,none⟩=some (.string ha):=hc 2 _ rfl
   have q3:wr.cell? ⟨bk,off+k * 6+3,none⟩=some (.string ro):=hc 3 _ rfl
   have q4:wr.cell? ⟨bk,off+k * 6+4,none⟩=some (.int .i64 bl):=hc 4 _ rfl
   have q5:wr.cell? ⟨bk,off+k * 6+5,none⟩=some (.int .i64 lg):=hc 5 _ rfl
   have HN:Hid (∀ w,Calls Tryz.prog 128 #[.string nm] w fun e w'=>e=.returned (.bool (snB nm))∧Grw w w'):=fun w=>(l08Name_any nm w hsz.1).mono fun e w' h=>⟨h.1,h.2 ▸ Grw.refl _⟩
   have HR:Hid (∀ w,Rw (RoR 0) 5 w y ros→Calls Tryz.prog 129 #[.agg #[.int .i64 ip,.int .i64 b,.int .i64 gt,.string gm,.string wm,.int .i64 rs,.slice x lenx capx,.slice y leny capy],.string ro] w fun e w'=>e=.returned (.int .i64 (roI ros ro))∧Grw w w'):=fun w h=>l08Role_any ip b gt gm wm rs x y lenx capx leny capy ros ro w h hl2 hl9
   have HB:Hid (∀ w,Calls Tryz.prog 74 #[.int .i64 bl,.int .i64 0,.int .i64 1000000] w fun e w'=>e=.returned (.bool (dec (0≤bl∧bl≤1000000)))∧Grw w w'):=fun w=>(specIn_any bl 0 1000000 w).mono fun e w' h=>⟨h.1,h.2 ▸ Grw.refl _⟩
   have HL:Hid (∀ w,Calls Tryz.prog 74 #[.int .i64 lg,.int .i64 0,.int .i64 1000] w fun e w'=>e=.returned (.bool (dec (0≤lg∧lg≤1000)))∧Grw w w'):=fun w=>(specIn_any lg 0 1000 w).mono fun e w' h=>⟨h.1,h.2 ▸ Grw.refl _⟩
   have hltz:(k:Int)<(len:Int):=by omega
   have hss:(sa.size:Int)≤1048576:=by have:=hsz.2.1;dsimp only at this;omega
   have hhs:(ha.size:Int)≤1048576:=by have:=hsz.2.2.1;dsimp only at this;omega
   have eu:uB ros ⟨nm,sa,ha,ro,bl,lg⟩=(snB nm && (dec (sa.size≤40) && (dec (ha.size=32) && (roH ros ro && (dec (0≤bl∧bl≤1000000) && dec (0≤lg∧lg≤1000)))))):=rfl
   by_cases hk0:k=0
   ·have eo:risAt (uB ros) ltU us k=uB ros ⟨nm,sa,ha,ro,bl,lg⟩:=by subst hk0;exact risAt_zero hx
    have hkd:decide (0<k)=false:=decide_eq_false (by omega)
    clear hk0
    rw [eo,eu] at HS HF
    generalize snB nm=q1 at HN HS HF
    obtain ⟨q4,hq4⟩:∃ q,roH ros ro=q:=⟨_,rfl⟩
    obtain ⟨r,hr⟩:∃ r,roI ros ro=r:=⟨_,rfl⟩
    have hrr:(q4=false∧decide (r<0)=true) ∨ (q4=true∧decide (r<0)=false):=by
     rw [← hq4,← hr]
     unfold roH roI
     cases ros.find? (rfP ro) with
     | none=>left;exact ⟨rfl,by simp⟩
     | some v=>right;exact ⟨rfl,by first | (simp;done) | (simp;omega)⟩
    rw [hq4] at HS HF
    rw [hr] at HR
    clear hq4 hr
    generalize dec (0≤bl∧bl≤1000000)=q5 at HB HS HF
    generalize dec (0≤lg∧lg≤1000)=q6 at HL HS HF
    clear hc hvl hx eo eu
    have HA:Hid (Grw w (wr.alloc (.cells #[.string nm,.string sa,.string ha,.string ro,.int .i64 bl,.int .i64 lg] 144))):=G0.alloc _
    have hmix:Tryz.prog.follows .mixedOrders=true:=by kernel_rfl
    have y0:∀ n os,(grow (World.drewN (wr.alloc (.cells #[.string nm,.string sa,.string ha,.string ro,.int .i64 bl,.int .i64 lg] 144)) n) os).cell? ⟨wr.heap.size,0,none⟩=some (.string nm):=fun n os=>cell_grown (by simp) (by simp) n os
    have y1:∀ n os,(grow (World.drewN (wr.alloc (.cells #[.string nm,.string sa,.string ha,.string ro,.int .i64 bl,.int .i64 lg] 144)) n) os).cell? ⟨wr.heap.size,1,none⟩=some (.string sa):=fun n os=>cell_grown (by simp) (by simp) n os
    have y2:∀ n os,(grow (World.drewN (wr.alloc (.cells #[.string nm,.string sa,.string ha,.string ro,.int .i64 bl,.int .i64 lg] 144)) n) os).cell? ⟨wr.heap.size,2,none⟩=some (.string ha):=fun n os=>cell_grown (by simp) (by simp) n os
    have y3:∀ n os,(grow (World.drewN (wr.alloc (.cells #[.string nm,.string sa,.string ha,.string ro,.int .i64 bl,.int .i64 lg] 144)) n) os).cell? ⟨wr.heap.size,3,none⟩=some (.string ro):=fun n os=>cell_grown (by simp) (by simp) n os
    have y4:∀ n os,(grow (World.drewN (wr.alloc (.cells #[.string nm,.string sa,.string ha,.string ro,.int .i64 bl,.int .i64 lg] 144)) n) os).cell? ⟨wr.heap.size,4,none⟩=some (.int .i64 bl):=fun n os=>cell_grown (by simp) (by simp) n os
    have y5:∀ n os,(grow (World.drewN (wr.alloc (.cells #[.string nm,.string sa,.string ha,.string ro,.int .i64 bl,.int .i64 lg] 144)) n) os).cell? ⟨wr.heap.size,5,none⟩=some (.int .i64 lg):=fun n os=>cell_grown (by simp) (by simp) n os
    have e0:∀ n os,(grow (World.drewN (wr.alloc (.cells #[.string nm,.string sa,.string ha,.string ro,.int .i64 bl,.int .i64 lg] 144)) n) os).cell? ⟨w.heap.size,0,none⟩=some (.int .i64 ip):=fun n os=>(((Grw.refl wr).alloc _).trans ⟨n,os,rfl⟩).keep d0
    have e1:∀ n os,(grow (World.drewN (wr.alloc (.cells #[.string nm,.string sa,.string ha,.string ro,.int .i64 bl,.int .i64 lg] 144)) n) os).cell? ⟨w.heap.size,1,none⟩=some (.int .i64 b):=fun n os=>(((Grw.refl wr).alloc _).trans ⟨n,os,rfl⟩).keep d1
    have e2:∀ n os,(grow (World.drewN (wr.alloc (.cells #[.string nm,.string sa,.string ha,.string ro,.int .i64 bl,.int .i64 lg] 144)) n) os).cell? ⟨w.heap.size,2,none⟩=some (.int .i64 gt):=fun n os=>(((Grw.refl wr).alloc _).trans ⟨n,os,rfl⟩).keep d2
    have e3:∀ n os,(grow (World.drewN (wr.alloc (.cells #[.string nm,.string sa,.string ha,.string ro,.int .i64 bl,.int .i64 lg] 144)) n) os).cell? ⟨w.heap.size,3,none⟩=some (.string gm):=fun n os=>(((Grw.refl wr).alloc _).trans ⟨n,os,rfl⟩).keep d3
    have e4:∀ n os,(grow (World.drewN (wr.alloc (.cells #[.string nm,.string sa,.string ha,.string ro,.int .i64 bl,.int .i64 lg] 144)) n) os).cell? ⟨w.heap.size,4,none⟩=some (.string wm):=fun n os=>(((Grw.refl wr).alloc _).trans ⟨n,os,rfl⟩).keep d4
    have e5:∀ n os,(grow (World.drewN (wr.alloc (.cells #[.string nm,.string sa,.string ha,.string ro,.int .i64 bl,.int .i64 lg] 144)) n) os).cell? ⟨w.heap.size,5,none⟩=some (.int .i64 rs):=fun n os=>(((Grw.refl wr).alloc _).trans ⟨n,os,rfl⟩).keep d5
    have e6:∀ n os,(grow (World.drewN (wr.alloc (.cells #[.string nm,.string sa,.string ha,.string ro,.int .i64 bl,.int .i64 lg] 144)) n) os).cell? ⟨w.heap.size,6,none⟩=some (.slice x lenx capx):=fun n os=>(((Grw.refl wr).alloc _).trans ⟨n,os,rfl⟩).keep d6
    have e7:∀ n os,(grow (World.drewN (wr.alloc (.cells #[.string nm,.string sa,.string ha,.string ro,.int .i64 bl,.int .i64 lg] 144)) n) os).cell? ⟨w.heap.size,7,none⟩=some (.slice y leny capy):=fun n os=>(((Grw.refl wr).alloc _).trans ⟨n,os,rfl⟩).keep d7
    have YR:Hid (∀ n os,Rw (RoR 0) 5 (grow (World.drewN (wr.alloc (.cells #[.string nm,.string sa,.string ha,.string ro,.int .i64 bl,.int .i64 lg] 144)) n) os) y ros):=fun n os=>RY.out.keep (RoR.kp 0) (HA.out.trans ⟨n,os,rfl⟩).below
    cases q1 with
    | false =>
     have hd:Hid (risB (uB ros) ltU us=false):=HF.out (by simp)
     have hv:Hid (usB ros us=false):=by show usB ros us=false;unfold usB;rw [hd.out,Bool.and_false]
     go_wp2_with fail
     refine wp_region_quiet_grown (by assumption) (by kernel_rfl) ?_
     repeat (go_big_quiet_step (first | fail | (first | (go_at_call 128;exact Calls.grown_of (HN.out _)) | (go_at_call 129;exact Calls.grown_of (HR.out _ (YR.out _ _))) | (go_at_call 74;with_reducible exact Calls.grown_of (HB.out _)) | (go_at_call 74;with_reducible exact Calls.grown_of (HL.out _)))))
     refine wpQuiet_nil ?_
     intro _ hw'
     obtain ⟨⟨nq,osq⟩,hw''⟩:=hw'
     subst hw''
     have HG1:Hid (Grw w _):=HA.out.trans ⟨nq,osq,rfl⟩
     clear y0 y1 y2 y3 y4 y5 e0 e1 e2 e3 e4 e5 e6 e7
     go_wp2
     go_ret
     exact ⟨by rw [hv.out];rfl,HG1.out⟩
    | true =>
     by_cases hsa:sa.size≤40
     rotate_left
     ·rw [dec_n hsa] at HS HF
      have hsz1:decide ((40:Int)<(sa.size:Int))=true:=decide_eq_true (by omega)
      have hd:Hid (risB (uB ros) ltU us=false):=HF.out (by simp)
      have hv:Hid (usB ros us=false):=by show usB ros us=false;unfold usB;rw [hd.out,Bool.and_false]
      go_wp2_with fail
      refine wp_region_quiet_grown (by assumption) (by kernel_rfl) ?_
      repeat (go_big_quiet_step (first | fail | (first | (go_at_call 128;exact Calls.grown_of (HN.out _)) | (go_at_call 129;exact Calls.grown_of (HR.out _ (YR.out _ _))) | (go_at_call 74;with_reducible exact Calls.grown_of (HB.out _)) | (go_at_call 74;with_reducible exact Calls.grown_of (HL.out _)))))
      refine wpQuiet_nil ?_
      intro _ hw'
      obtain ⟨⟨nq,osq⟩,hw''⟩:=hw'
      subst hw''
      have HG1:Hid (Grw w _):=HA.out.trans ⟨nq,osq,rfl⟩
      clear y0 y1 y2 y3 y4 y5 e0 e1 e2 e3 e4 e5 e6 e7
      go_wp2
      go_ret
      exact ⟨by rw [hv.out];rfl,HG1.out⟩
     have hsz1:decide ((40:Int)<(sa.size:Int))=false:=decide_eq_false (by omega)
     rw [dec_y hsa] at HS HF
     by_cases hha:ha.size=32
     rotate_left
     ·rw [dec_n hha] at HS HF
      have hsz2:((ha.size:Int) != 32)=true:=by simp;omega
      have hd:Hid (risB (uB ros) ltU us=false):=HF.out (by simp)
      have hv:Hid (usB ros us=false):=by show usB ros us=false;unfold usB;rw [hd.out,Bool.and_false]
      go_wp2_with fail
      refine wp_region_quiet_grown (by assumption) (by kernel_rfl) ?_
      repeat (go_big_quiet_step (first | fail | (first | (go_at_call 128;exact Calls.grown_of (HN.out _)) | (go_at_call 129;exact Calls.grown_of (HR.out _ (YR.out _ _))) | (go_at_call 74;with_reducible exact Calls.grown_of (HB.out _)) | (go_at_call 74;with_reducible exact Calls.grown_of (HL.out _)))))
      refine wpQuiet_nil ?_
      intro _ hw'
      obtain ⟨⟨nq,osq⟩,hw''⟩:=hw'
      subst hw''
      have HG1:Hid (Grw w _):=HA.out.trans ⟨nq,osq,rfl⟩
      clear y0 y1 y2 y3 y4 y5 e0 e1 e2 e3 e4 e5 e6 e7
      go_wp2
      go_ret
      exact ⟨by rw [hv.out];rfl,HG1.out⟩
     have hsz2:((ha.size:Int) != 32)=false:=by simp;omega
     rw [dec_y hha] at HS HF
     rcases hrr with ⟨rfl,hr0⟩ | ⟨rfl,hr0⟩
     ·have hd:Hid (risB (uB ros) ltU us=false):=HF.out (by simp)
      have hv:Hid (usB ros us=false):=by show usB ros us=false;unfold usB;rw [hd.out,Bool.and_false]
      go_wp2_with fail
      refine wp_region_quiet_grown (by assumption) (by kernel_rfl) ?_
      repeat (go_big_quiet_step (first | fail | (first | (go_at_call 128;exact Calls.grown_of (HN.out _)) | (go_at_call 129;exact Calls.grown_of (HR.out _ (YR.out _ _))) | (go_at_call 74;with_reducible exact Calls.grown_of (HB.out _)) | (go_at_call 74;with_reducible exact Calls.grown_of (HL.out _)))))
      refine wpQuiet_nil ?_
      intro _ hw'
      obtain ⟨⟨nq,osq⟩,hw''⟩:=hw'
      subst hw''
      have HG1:Hid (Grw w _):=HA.out.trans ⟨nq,osq,rfl⟩
      clear y0 y1 y2 y3 y4 y5 e0 e1 e2 e3 e4 e5 e6 e7
      go_wp2
      go_ret
      exact ⟨by rw [hv.out];rfl,HG1.out⟩
     ·cases q5 with
      | false =>
       have hd:Hid (risB (uB ros) ltU us=false):=HF.out (by simp)
       have hv:Hid (usB ros us=false):=by show usB ros us=false;unfold usB;rw [hd.out,Bool.and_false]
       go_wp2_with fail
       refine wp_region_quiet_grown (by assumption) (by kernel_rfl) ?_
       repeat (go_big_quiet_step (first | fail | (first | (go_at_call 128;exact Calls.grown_of (HN.out _)) | (go_at_call 129;exact Calls.grown_of (HR.out _ (YR.out _ _))) | (go_at_call 74;with_reducible exact Calls.grown_of (HB.out _)) | (go_at_call 74;with_reducible exact Calls.grown_of (HL.out _)))))
       refine wpQuiet_nil ?_
       intro _ hw'
       obtain ⟨⟨nq,osq⟩,hw''⟩:=hw'
       subst hw''
       have HG1:Hid (Grw w _):=HA.out.trans ⟨nq,osq,rfl⟩
       clear y0 y1 y2 y3 y4 y5 e0 e1 e2 e3 e4 e5 e6 e7
       go_wp2
       go_ret
       exact ⟨by rw [hv.out];rfl,HG1.out⟩
      | true =>
       cases q6 with
       | false =>
        have hd:Hid (risB (uB ros) ltU us=false):=HF.out (by simp)
        have hv:Hid (usB ros us=false):=by show usB ros us=false;unfold usB;rw [hd.out,Bool.and_false]
        go_wp2_with fail
        refine wp_region_quiet_grown (by assumption) (by kernel_rfl) ?_
        repeat (go_big_quiet_step (first | fail | (first | (go_at_call 128;exact Calls.grown_of (HN.out _)) | (go_at_call 129;exact Calls.grown_of (HR.out _ (YR.out _ _))) | (go_at_call 74;with_reducible exact Calls.grown_of (HB.out _)) | (go_at_call 74;with_reducible exact Calls.grown_of (HL.out _)))))
        refine wpQuiet_nil ?_
        intro _ hw'
        obtain ⟨⟨nq,osq⟩,hw''⟩:=hw'
        subst hw''
        have HG1:Hid (Grw w _):=HA.out.trans ⟨nq,osq,rfl⟩
        clear y0 y1 y2 y3 y4 y5 e0 e1 e2 e3 e4 e5 e6 e7
        go_wp2
        go_ret
        exact ⟨by rw [hv.out];rfl,HG1.out⟩
       | true =>
        have HS':Hid ((List.range (k+1)).all (risAt (uB ros) ltU us)=true):=HS.out (by simp)
        clear HS HF
        go_wp2_with fail
        refine wp_region_quiet_grown (by assumption) (by kernel_rfl) ?_
        repeat (go_big_quiet_step (first | fail | (first | (go_at_call 128;exact Calls.grown_of (HN.out _)) | (go_at_call 129;exact Calls.grown_of (HR.out _ (YR.out _ _))) | (go_at_call 74;with_reducible exact Calls.grown_of (HB.out _)) | (go_at_call 74;with_reducible exact Calls.grown_of (HL.out _)))))
        refine wpQuiet_nil ?_
        intro _ hw'
        obtain ⟨⟨nq,osq⟩,hw''⟩:=hw'
        subst hw''
        have HG1:Hid (Grw w (grow (World.drewN (wr.alloc (.cells #[.string nm,.string sa,.string ha,.string ro,.int .i64 bl,.int .i64 lg] 144)) nq) osq)∧(grow (World.drewN (wr.alloc (.cells #[.string nm,.string sa,.string ha,.string ro,.int .i64 bl,.int .i64 lg] 144)) nq) osq).cell? ⟨w.heap.size,0,none⟩=some (.int .i64 ip)∧(grow (World.drewN (wr.alloc (.cells #[.string nm,.string sa,.string ha,.string ro,.int .i64 bl,.int .i64 lg] 144)) nq) osq).cell? ⟨w.heap.size,1,none⟩=some (.int .i64 b)∧(grow (World.drewN (wr.alloc (.cells #[.string nm,.string sa,.string ha,.string ro,.int .i64 bl,.int .i64 lg] 144)) nq) osq).cell? ⟨w.heap.size,2,none⟩=some (.int .i64 gt)∧(grow (World.drewN (wr.alloc (.cells #[.string nm,.string sa,.string ha,.string ro,.int .i64 bl,.int .i64 lg] 144)) nq) osq).cell? ⟨w.heap.size,3,none⟩=some (.string gm)∧(grow (World.drewN (wr.alloc (.cells #[.string nm,.string sa,.string ha,.string ro,.int .i64 bl,.int .i64 lg] 144)) nq) osq).cell? ⟨w.heap.size,4,none⟩=some (.string wm)∧(grow (World.drewN (wr.alloc (.cells #[.string nm,.string sa,.string ha,.string ro,.int .i64 bl,.int .i64 lg] 144)) nq) osq).cell? ⟨w.heap.size,5,none⟩=some (.int .i64 rs)∧(grow (World.drewN (wr.alloc (.cells #[.string nm,.string sa,.string ha,.string ro,.int .i64 bl,.int .i64 lg] 144)) nq) osq).cell? ⟨w.heap.size,6,none⟩=some (.slice x lenx capx)∧(grow (World.drewN (wr.alloc (.cells #[.string nm,.string sa,.string ha,.string ro,.int .i64 bl,.int .i64 lg] 144)) nq) osq).cell? ⟨w.heap.size,7,none⟩=some (.slice y leny capy)):=⟨HA.out.trans ⟨nq,osq,rfl⟩,e0 nq osq,e1 nq osq,e2 nq osq,e3 nq osq,e4 nq osq,e5 nq osq,e6 nq osq,e7 nq osq⟩
        clear y0 y1 y2 y3 y4 y5 e0 e1 e2 e3 e4 e5 e6 e7
        go_wp2
        go_roundw
        case rel=>exact ⟨k+1,by omega,by go_num,HS',HG1⟩
        case measure=>simp [intOf];omega
   ·obtain ⟨j,hkj⟩:∃ j,k=j+1:=⟨k - 1,by omega⟩
    obtain ⟨z',hx'⟩:=at_of (k:=j) hl (by omega)
    obtain ⟨b',off',vs',e',hb',hvl',hR',hc'⟩:=RW.out.at UsR.kp GG hx'
    cases e'
    obtain ⟨nm',sa',ha',ro',bl',lg'⟩:=z'
    obtain ⟨rfl,-⟩:=hR'
    have p0:wr.cell? ⟨bk,off+j * 6,none⟩=some (.string nm'):=hc' 0 _ rfl
    obtain ⟨lt,hlt2⟩:∃ lt,Op.bytesLess nm'.toList nm.toList=lt:=⟨_,rfl⟩
    have eo:risAt (uB ros) ltU us k=(uB ros ⟨nm,sa,ha,ro,bl,lg⟩ && lt):=by subst hkj;rw [← hlt2];exact risAt_succ hx hx'
    have hkd:decide (0<k)=true:=decide_eq_true (by omega)
    have hj:(k:Int) - 1=(j:Int):=by omega
    have hjl:(j:Int)<(len:Int):=by omega
    clear hk0 hkj
    rw [eo,eu] at HS HF
    generalize snB nm=q1 at HN HS HF
    obtain ⟨q4,hq4⟩:∃ q,roH ros ro=q:=⟨_,rfl⟩
    obtain ⟨r,hr⟩:∃ r,roI ros ro=r:=⟨_,rfl⟩
    have hrr:(q4=false∧decide (r<0)=true) ∨ (q4=true∧decide (r<0)=false):=by
     rw [← hq4,← hr]
     unfold roH roI
     cases ros.find? (rfP ro) with
     | none=>left;exact ⟨rfl,by simp⟩
     | some v=>right;exact ⟨rfl,by first | (simp;done) | (simp;omega)⟩
    rw [hq4] at HS HF
    rw [hr] at HR
    clear hq4 hr
    generalize dec (0≤bl∧bl≤1000000)=q5 at HB HS HF
    generalize dec (0≤lg∧lg≤1000)=q6 at HL HS HF
    clear hc hvl hx eo eu hc' hvl' hx'
    have HA:Hid (Grw w (wr.alloc (.cells #[.string nm,.string sa,.string ha,.string ro,.int .i64 bl,.int .i64 lg] 144))):=G0.alloc _
    have hmix:Tryz.prog.follows .mixedOrders=true:=by kernel_rfl
    have y0:∀ n os,(grow (World.drewN (wr.alloc (.cells #[.string nm,.string sa,.string ha,.string ro,.int .i64 bl,.int .i64 lg] 144)) n) os).cell? ⟨wr.heap.size,0,none⟩=some (.string nm):=fun n os=>cell_grown (by simp) (by simp) n os
    have y1:∀ n os,(grow (World.drewN (wr.alloc (.cells #[.string nm,.string sa,.string ha,.string ro,.int .i64 bl,.int .i64 lg] 144)) n) os).cell? ⟨wr.heap.size,1,none⟩=some (.string sa):=fun n os=>cell_grown (by simp) (by simp) n os
    have y2:∀ n os,(grow (World.drewN (wr.alloc (.cells #[.string nm,.string sa,.string ha,.string ro,.int .i64 bl,.int .i64 lg] 144)) n) os).cell? ⟨wr.heap.size,2,none⟩=some (.string ha):=fun n os=>cell_grown (by simp) (by simp) n os
    have y3:∀ n os,(grow (World.drewN (wr.alloc (.cells #[.string nm,.string sa,.string ha,.string ro,.int .i64 bl,.int .i64 lg] 144)) n) os).cell? ⟨wr.heap.size,3,none⟩=some (.string ro):=fun n os=>cell_grown (by simp) (by simp) n os
    have y4:∀ n os,(grow (World.drewN (wr.alloc (.cells #[.string nm,.string sa,.string ha,.string ro,.int .i64 bl,.int .i64 lg] 144)) n) os).cell? ⟨wr.heap.size,4,none⟩=some (.int .i64 bl):=fun n os=>cell_grown (by simp) (by simp) n os
    have y5:∀ n os,(grow (World.drewN (wr.alloc (.cells #[.string nm,.string sa,.string ha,.string ro,.int .i64 bl,.int .i64 lg] 144)) n) os).cell? ⟨wr.heap.size,5,none⟩=some (.int .i64 lg):=fun n os=>cell_grown (by simp) (by simp) n os
    have e0:∀ n os,(grow (World.drewN (wr.alloc (.cells #[.string nm,.string sa,.string ha,.string ro,.int .i64 bl,.int .i64 lg] 144)) n) os).cell? ⟨w.heap.size,0,none⟩=some (.int .i64 ip):=fun n os=>(((Grw.refl wr).alloc _).trans ⟨n,os,rfl⟩).keep d0
    have e1:∀ n os,(grow (World.drewN (wr.alloc (.cells #[.string nm,.string sa,.string ha,.string ro,.int .i64 bl,.int .i64 lg] 144)) n) os).cell? ⟨w.heap.size,1,none⟩=some (.int .i64 b):=fun n os=>(((Grw.refl wr).alloc _).trans ⟨n,os,rfl⟩).keep d1
    have e2:∀ n os,(grow (World.drewN (wr.alloc (.cells #[.string nm,.string sa,.string ha,.string ro,.int .i64 bl,.int .i64 lg] 144)) n) os).cell? ⟨w.heap.size,2,none⟩=some (.int .i64 gt):=fun n os=>(((Grw.refl wr).alloc _).trans ⟨n,os,rfl⟩).keep d2
    have e3:∀ n os,(grow (World.drewN (wr.alloc (.cells #[.string nm,.string sa,.string ha,.string ro,.int .i64 bl,.int .i64 lg] 144)) n) os).cell? ⟨w.heap.size,3,none⟩=some (.string gm):=fun n os=>(((Grw.refl wr).alloc _).trans ⟨n,os,rfl⟩).keep d3
    have e4:∀ n os,(grow (World.drewN (wr.alloc (.cells #[.string nm,.string sa,.string ha,.string ro,.int .i64 bl,.int .i64 lg] 144)) n) os).cell? ⟨w.heap.size,4,none⟩=some (.string wm):=fun n os=>(((Grw.refl wr).alloc _).trans ⟨n,os,rfl⟩).keep d4
    have e5:∀ n os,(grow (World.drewN (wr.alloc (.cells #[.string nm,.string sa,.string ha,.string ro,.int .i64 bl,.int .i64 lg] 144)) n) os).cell? ⟨w.heap.size,5,none⟩=some (.int .i64 rs):=fun n os=>(((Grw.refl wr).alloc _).trans ⟨n,os,rfl⟩).keep d5
    have e6:∀ n os,(grow (World.drewN (wr.alloc (.cells #[.string nm,.string sa,.string ha,.string ro,.int .i64 bl,.int .i64 lg] 144)) n) os).cell? ⟨w.heap.size,6,none⟩=some (.slice x lenx capx):=fun n os=>(((Grw.refl wr).alloc _).trans ⟨n,os,rfl⟩).keep d6
    have e7:∀ n os,(grow (World.drewN (wr.alloc (.cells #[.string nm,.string sa,.string ha,.string ro,.int .i64 bl,.int .i64 lg] 144)) n) os).cell? ⟨w.heap.size,7,none⟩=some (.slice y leny capy):=fun n os=>(((Grw.refl wr).alloc _).trans ⟨n,os,rfl⟩).keep d7
    have p1:∀ n os,(grow (World.drewN (wr.alloc (.cells #[.string nm,.string sa,.string ha,.string ro,.int .i64 bl,.int .i64 lg] 144)) n) os).cell? ⟨bk,off+j * 6,none⟩=some (.string nm'):=fun n os=>(((Grw.refl wr).alloc _).trans ⟨n,os,rfl⟩).keep p0
    have YR:Hid (∀ n os,Rw (RoR 0) 5 (grow (World.drewN (wr.alloc (.cells #[.string nm,.string sa,.string ha,.string ro,.int .i64 bl,.int .i64 lg] 144)) n) os) y ros):=fun n os=>RY.out.keep (RoR.kp 0) (HA.out.trans ⟨n,os,rfl⟩).below
    cases q1 with
    | false =>
     have hd:Hid (risB (uB ros) ltU us=false):=HF.out (by simp)
     have hv:Hid (usB ros us=false):=by show usB ros us=false;unfold usB;rw [hd.out,Bool.and_false]
     go_wp2_with fail
     refine wp_region_quiet_grown (by assumption) (by kernel_rfl) ?_
     repeat (go_big_quiet_step (first | fail | (first | (go_at_call 128;exact Calls.grown_of (HN.out _)) | (go_at_call 129;exact Calls.grown_of (HR.out _ (YR.out _ _))) | (go_at_call 74;with_reducible exact Calls.grown_of (HB.out _)) | (go_at_call 74;with_reducible exact Calls.grown_of (HL.out _)))))
     refine wpQuiet_nil ?_
     intro _ hw'
     obtain ⟨⟨nq,osq⟩,hw''⟩:=hw'
     subst hw''
     have HG1:Hid (Grw w _):=HA.out.trans ⟨nq,osq,rfl⟩
     clear y0 y1 y2 y3 y4 y5 e0 e1 e2 e3 e4 e5 e6 e7 p1
     go_wp2
     go_ret
     exact ⟨by rw [hv.out];rfl,HG1.out⟩
    | true =>
     by_cases hsa:sa.size≤40
     rotate_left
     ·rw [dec_n hsa] at HS HF
      have hsz1:decide ((40:Int)<(sa.size:Int))=true:=decide_eq_true (by omega)
      have hd:Hid (risB (uB ros) ltU us=false):=HF.out (by simp)
      have hv:Hid (usB ros us=false):=by show usB ros us=false;unfold usB;rw [hd.out,Bool.and_false]
      go_wp2_with fail
      refine wp_region_quiet_grown (by assumption) (by kernel_rfl) ?_
      repeat (go_big_quiet_step (first | fail | (first | (go_at_call 128;exact Calls.grown_of (HN.out _)) | (go_at_call 129;exact Calls.grown_of (HR.out _ (YR.out _ _))) | (go_at_call 74;with_reducible exact Calls.grown_of (HB.out _)) | (go_at_call 74;with_reducible exact Calls.grown_of (HL.out _)))))
      refine wpQuiet_nil ?_
      intro _ hw'
      obtain ⟨⟨nq,osq⟩,hw''⟩:=hw'
      subst hw''
      have HG1:Hid (Grw w _):=HA.out.trans ⟨nq,osq,rfl⟩
      clear y0 y1 y2 y3 y4 y5 e0 e1 e2 e3 e4 e5 e6 e7 p1
      go_wp2
      go_ret
      exact ⟨by rw [hv.out];rfl,HG1.out⟩
     have hsz1:decide ((40:Int)<(sa.size:Int))=false:=decide_eq_false (by omega)
     rw [dec_y hsa] at HS HF
     by_cases hha:ha.size=32
     rotate_left
     ·rw [dec_n hha] at HS HF
      have hsz2:((ha.size:Int) != 32)=true:=by simp;omega
      have hd:Hid (risB (uB ros) ltU us=false):=HF.out (by simp)
      have hv:Hid (usB ros us=false):=by show usB ros us=false;unfold usB;rw [hd.out,Bool.and_false]
      go_wp2_with fail
      refine wp_region_quiet_grown (by assumption) (by kernel_rfl) ?_
      repeat (go_big_quiet_step (first | fail | (first | (go_at_call 128;exact Calls.grown_of (HN.out _)) | (go_at_call 129;exact Calls.grown_of (HR.out _ (YR.out _ _))) | (go_at_call 74;with_reducible exact Calls.grown_of (HB.out _)) | (go_at_call 74;with_reducible exact Calls.grown_of (HL.out _)))))
      refine wpQuiet_nil ?_
      intro _ hw'
      obtain ⟨⟨nq,osq⟩,hw''⟩:=hw'
      subst hw''
      have HG1:Hid (Grw w _):=HA.out.trans ⟨nq,osq,rfl⟩
      clear y0 y1 y2 y3 y4 y5 e0 e1 e2 e3 e4 e5 e6 e7 p1
      go_wp2
      go_ret
      exact ⟨by rw [hv.out];rfl,HG1.out⟩
     have hsz2:((ha.size:Int) != 32)=false:=by simp;omega
     rw [dec_y hha] at HS HF
     rcases hrr with ⟨rfl,hr0⟩ | ⟨rfl,hr0⟩
     ·have hd:Hid (risB (uB ros) ltU us=false):=HF.out (by simp)
      have hv:Hid (usB ros us=false):=by show usB ros us=false;unfold usB;rw [hd.out,Bool.and_false]
      go_wp2_with fail
      refine wp_region_quiet_grown (by assumption) (by kernel_rfl) ?_
      repeat (go_big_quiet_step (first | fail | (first | (go_at_call 128;exact Calls.grown_of (HN.out _)) | (go_at_call 129;exact Calls.grown_of (HR.out _ (YR.out _ _))) | (go_at_call 74;with_reducible exact Calls.grown_of (HB.out _)) | (go_at_call 74;with_reducible exact Calls.grown_of (HL.out _)))))
      refine wpQuiet_nil ?_
      intro _ hw'
      obtain ⟨⟨nq,osq⟩,hw''⟩:=hw'
      subst hw''
      have HG1:Hid (Grw w _):=HA.out.trans ⟨nq,osq,rfl⟩
      clear y0 y1 y2 y3 y4 y5 e0 e1 e2 e3 e4 e5 e6 e7 p1
      go_wp2
      go_ret
      exact ⟨by rw [hv.out];rfl,HG1.out⟩
     ·cases q5 with
      | false =>
       have hd:Hid (risB (uB ros) ltU us=false):=HF.out (by simp)
       have hv:Hid (usB ros us=false):=by show usB ros us=false;unfold usB;rw [hd.out,Bool.and_false]
       go_wp2_with fail
       refine wp_region_quiet_grown (by assumption) (by kernel_rfl) ?_
       repeat (go_big_quiet_step (first | fail | (first | (go_at_call 128;exact Calls.grown_of (HN.out _)) | (go_at_call 129;exact Calls.grown_of (HR.out _ (YR.out _ _))) | (go_at_call 74;with_reducible exact Calls.grown_of (HB.out _)) | (go_at_call 74;with_reducible exact Calls.grown_of (HL.out _)))))
       refine wpQuiet_nil ?_
       intro _ hw'
       obtain ⟨⟨nq,osq⟩,hw''⟩:=hw'
       subst hw''
       have HG1:Hid (Grw w _):=HA.out.trans ⟨nq,osq,rfl⟩
       clear y0 y1 y2 y3 y4 y5 e0 e1 e2 e3 e4 e5 e6 e7 p1
       go_wp2
       go_ret
       exact ⟨by rw [hv.out];rfl,HG1.out⟩
      | true =>
       cases q6 with
       | false =>
        have hd:Hid (risB (uB ros) ltU us=false):=HF.out (by simp)
        have hv:Hid (usB ros us=false):=by show usB ros us=false;unfold usB;rw [hd.out,Bool.and_false]
        go_wp2_with fail
        refine wp_region_quiet_grown (by assumption) (by kernel_rfl) ?_
        repeat (go_big_quiet_step (first | fail | (first | (go_at_call 128;exact Calls.grown_of (HN.out _)) | (go_at_call 129;exact Calls.grown_of (HR.out _ (YR.out _ _))) | (go_at_call 74;with_reducible exact Calls.grown_of (HB.out _)) | (go_at_call 74;with_reducible exact Calls.grown_of (HL.out _)))))
        refine wpQuiet_nil ?_
        intro _ hw'
        obtain ⟨⟨nq,osq⟩,hw''⟩:=hw'
        subst hw''
        have HG1:Hid (Grw w _):=HA.out.trans ⟨nq,osq,rfl⟩
        clear y0 y1 y2 y3 y4 y5 e0 e1 e2 e3 e4 e5 e6 e7 p1
        go_wp2
        go_ret
        exact ⟨by rw [hv.out];rfl,HG1.out⟩
       | true =>
        cases lt with
        | true =>
         have HS':Hid ((List.range (k+1)).all (risAt (uB ros) ltU us)=true):=HS.out (by simp)
         clear HS HF
         go_wp2_with fail
         refine wp_region_quiet_grown (by assumption) (by kernel_rfl) ?_
         repeat (go_big_quiet_step (first | fail | (first | (go_at_call 128;exact Calls.grown_of (HN.out _)) | (go_at_call 129;exact Calls.grown_of (HR.out _ (YR.out _ _))) | (go_at_call 74;with_reducible exact Calls.grown_of (HB.out _)) | (go_at_call 74;with_reducible exact Calls.grown_of (HL.out _)))))
         refine wpQuiet_nil ?_
         intro _ hw'
         obtain ⟨⟨nq,osq⟩,hw''⟩:=hw'
         subst hw''
         have HG1:Hid (Grw w (grow (World.drewN (wr.alloc (.cells #[.string nm,.string sa,.string ha,.string ro,.int .i64 bl,.int .i64 lg] 144)) nq) osq)∧(grow (World.drewN (wr.alloc (.cells #[.string nm,.string sa,.string ha,.string ro,.int .i64 bl,.int .i64 lg] 144)) nq) osq).cell? ⟨w.heap.size,0,none⟩=some (.int .i64 ip)∧(grow (World.drewN (wr.alloc (.cells #[.string nm,.string sa,.string ha,.string ro,.int .i64 bl,.int .i64 lg] 144)) nq) osq).cell? ⟨w.heap.size,1,none⟩=some (.int .i64 b)∧(grow (World.drewN (wr.alloc (.cells #[.string nm,.string sa,.string ha,.string ro,.int .i64 bl,.int .i64 lg] 144)) nq) osq).cell? ⟨w.heap.size,2,none⟩=some (.int .i64 gt)∧(grow (World.drewN (wr.alloc (.cells #[.string nm,.string sa,.string ha,.string ro,.int .i64 bl,.int .i64 lg] 144)) nq) osq).cell? ⟨w.heap.size,3,none⟩=some (.string gm)∧(grow (World.drewN (wr.alloc (.cells #[.string nm,.string sa,.string ha,.string ro,.int .i64 bl,.int .i64 lg] 144)) nq) osq).cell? ⟨w.heap.size,4,none⟩=some (.string wm)∧(grow (World.drewN (wr.alloc (.cells #[.string nm,.string sa,.string ha,.string ro,.int .i64 bl,.int .i64 lg] 144)) nq) osq).cell? ⟨w.heap.size,5,none⟩=some (.int .i64 rs)∧(grow (World.drewN (wr.alloc (.cells #[.string nm,.string sa,.string ha,.string ro,.int .i64 bl,.int .i64 lg] 144)) nq) osq).cell? ⟨w.heap.size,6,none⟩=some (.slice x lenx capx)∧(grow (World.drewN (wr.alloc (.cells #[.string nm,.string sa,.string ha,.string ro,.int .i64 bl,.int .i64 lg] 144)) nq) osq).cell? ⟨w.heap.size,7,none⟩=some (.slice y leny capy)):=⟨HA.out.trans ⟨nq,osq,rfl⟩,e0 nq osq,e1 nq osq,e2 nq osq,e3 nq osq,e4 nq osq,e5 nq osq,e6 nq osq,e7 nq osq⟩
         clear y0 y1 y2 y3 y4 y5 e0 e1 e2 e3 e4 e5 e6 e7 p1
         go_wp2
         go_roundw
         case rel=>exact ⟨k+1,by omega,by go_num,HS',HG1⟩
         case measure=>simp [intOf];omega
        | false =>
         have hd:Hid (risB (uB ros) ltU us=false):=HF.out (by simp)
         have hv:Hid (usB ros us=false):=by show usB ros us=false;unfold usB;rw [hd.out,Bool.and_false]
         go_wp2_with fail
         refine wp_region_quiet_grown (by assumption) (by kernel_rfl) ?_
         repeat (go_big_quiet_step (first | fail | (first | (go_at_call 128;exact Calls.grown_of (HN.out _)) | (go_at_call 129;exact Calls.grown_of (HR.out _ (YR.out _ _))) | (go_at_call 74;with_reducible exact Calls.grown_of (HB.out _)) | (go_at_call 74;with_reducible exact Calls.grown_of (HL.out _)))))
         refine wpQuiet_nil ?_
         intro _ hw'
         obtain ⟨⟨nq,osq⟩,hw''⟩:=hw'
         subst hw''
         have HG1:Hid (Grw w _):=HA.out.trans ⟨nq,osq,rfl⟩
         clear y0 y1 y2 y3 y4 y5 e0 e1 e2 e3 e4 e5 e6 e7 p1
         go_wp2
         go_ret
         exact ⟨by rw [hv.out];rfl,HG1.out⟩
  ·obtain rfl:k=len:=by omega
   have hd:Hid (risB (uB ros) ltU us=true):=ris_end hl HO.out
   by_cases h6:k≤6
   ·have h6z:(k:Int)≤6:=by omega
    have hv:Hid (usB ros us=true):=by show usB ros us=true;unfold usB;rw [hd.out,dec_y (by omega)];rfl
    go_wp2
    go_ret
    exact ⟨by rw [hv.out];rfl,G0⟩
   ·have h6z:¬ (k:Int)≤6:=by omega
    have hv:Hid (usB ros us=false):=by show usB ros us=false;unfold usB;rw [dec_n (by omega)];rfl
    go_wp2
    go_ret
    exact ⟨by rw [hv.out];rfl,G0⟩
end Go.Proofs.YtbeehlhcckndcaaGreat
