/- Plain numbers: the words' sum of a row of bytes, and its folding into sixteen bits, as closed forms; nothing of the program is imported. A row of bytes in memory, told as a function of the place; what it is as a string; nothing of the program is imported. A new row of bytes that a loop fills: what its rounds keep. Nothing of the program is imported. A row of bytes of the call's own that is appended to, told as a list of numbers; as a string; a string's bytes in new memory. Nothing of the program is imported. A number's digits: the model's l00Digits at every number from 0 on. The bitwise operators on int where no operand is negative: and, or, exclusive or, and with masks, or of parts that do not meet. Nothing of the program is imported. The program's small tests: hasRoom, addressOK. The contracts of laws.toByteS (a copy in new memory) and laws.eqByteS (whether two rows are one). NumberOf, the program's and the model's: both answer the number of 1 to 6 bytes, the higher ones first; the walk of its law. The small tests of both sides, each answering whether a condition holds. markText of the laws. Lists of places and rules marked and held. Rows of roles of one's own, each with rules of its own. Roles marked. Configurations marked. Users, sessions, fails, records, guests, as values. Users, sessions, fails, records, guests: what comes in as an argument, opened. The byte's row of the program's table of types. -/
import Derived.WalkSpells
import Derived.Laws.BytesArg
import Derived.Deep.OwnRows
import Derived.Lib.ConvBytes
import Derived.Lib.ItoaNum
import Derived.Deep.RegionHeld3
import Derived.Laws.BitsAllLaws
import Derived.Deep.QuietTactic
import Derived.Test.YtojcakkkakmniaaGreatDoorJ1
namespace Go.Proofs.YtojcakkkakmniaaGreatDoor.Pl
open Go.RowKit Go.PlainAid
set_option linter.unusedVariables false
end Go.Proofs.YtojcakkkakmniaaGreatDoor.Pl
namespace Go.Proofs.YtojcakkkakmniaaGreatDoor
open Go.RowKit Go.PlainAid Go.Proofs.YtojcakkkakmniaaGreatDoor.Pl
set_option linter.unusedVariables false
def Bytes (w:World) (a:Option Addr) (len:Nat) (f:Nat→Int):Prop :=
 (∀ k,0≤f k∧f k≤255)∧(0<len→∃ b off,a=some ⟨b,off,none⟩∧∀ i,i<len→w.cell? ⟨b,off+i,none⟩=some (.int .u8 (f i)))
def strOf (f:Nat→Int) (n:Nat):ByteArray:=strOfNums ((List.range n).map f)
theorem conv_row {P:Program} (w:World) (src dst e:TypeId) (hs:P.underlying src=some (.slice e)) (he:P.underlying e=some (.int .u8)) (hd:P.underlying dst=some .string)
  (a:Option Addr) (len cap:Nat) (f:Nat→Int) (h:Bytes w a len f) :
  (convert src dst (.slice a len cap)).run P w=.ok (.string (strOf f len)) w:=by
 rcases Nat.eq_zero_or_pos len with h0 | h0
 ·subst h0
  have e0:strOf f 0=ByteArray.empty:=by simp [strOf,strOfNums,ByteArray.empty,ByteArray.emptyWithCapacity];rfl
  rw [e0]
  cases a with
  | none=>exact run_convert_bytes_nil w src e hs he 0 cap dst hd
  | some x =>
   rw [run_convert_bytes_string w src dst e _ 0 cap hs he hd]
   exact run_bytesToString w x 0 cap [] (by simpa using run_loadCells_list (P:=P) w x [] (fun j v hj=>by simp at hj))
 ·obtain ⟨b,off,rfl,hc⟩:=h.2 h0
  exact run_convert_bytes_arg w src e hs he b off len cap ((List.range len).map f) (by simp) (fun i hi=>by rw [hc i hi];simp [hi]) dst hd
theorem Bytes.below {B:Nat} {w w':World} {a:Option Addr} {len:Nat} {f:Nat→Int} (h:Bytes w a len f) (hb:Below B w w') (hlt:∀ b off,0<len→a=some ⟨b,off,none⟩→b<B):Bytes w' a len f:=by
 refine ⟨h.1,fun h0=>?_⟩
 obtain ⟨b,off,rfl,hc⟩:=h.2 h0
 exact ⟨b,off,rfl,fun i hi=>by rw [hb.cell (p:=⟨b,off+i,none⟩) (hlt b off h0 rfl)];exact hc i hi⟩
open Go.RowKit Go.PlainAid
def Fill (w wr:World) (len k:Nat) (f:Nat→Int):Prop :=
 Below w.heap.size w wr∧w.heap.size<wr.heap.size∧(∀ i,wr.frozen? ⟨w.heap.size,i,none⟩=false)∧(∀ i,i<len→∃ v,wr.cell? ⟨w.heap.size,i,none⟩=some v)∧∀ i,i<k→wr.cell? ⟨w.heap.size,i,none⟩=some (.int .u8 (f i))
theorem fill_start (w:World) (len:Nat) (f:Nat→Int) (e:TypeId):Fill w (w.alloc (.cells (madeCells #[.int .u8 0] len) e)) len 0 f:=by
 refine ⟨(Below.refl _ _).alloc (Nat.le_refl _) _,by simp,fun i=>by simp,fun i hi=>?_,fun i hi=>absurd hi (by omega)⟩
 rw [World.cell?_alloc_new]
 exact ⟨_,by simp [madeCells,hi];rfl⟩
theorem fill_step {w wr:World} {len k:Nat} {f:Nat→Int} (h:Fill w wr len k f) (hk:k<len):Fill w (wr.setCell ⟨w.heap.size,k,none⟩ (.int .u8 (f k))) len (k+1) f:=by
 obtain ⟨hb,hz,hf,hs,hc⟩:=h
 refine ⟨hb.setCell (Nat.le_refl _) _,by simpa using hz,fun i=>by simpa using hf i,fun i hi=>cell?_setCell_some (hs i hi).choose_spec,fun i hi=>?_⟩
 by_cases e:i=k
 ·subst e
  exact World.cell?_setCell_same _ _ _ (hs i hk).choose_spec
 ·rw [World.cell?_setCell_other _ _ _ _ (fun hh=>e (Addr.mk.inj hh).2.1.symm)]
  exact hc i (by omega)
def OwnL (e:TypeId) (w:World) (B:Nat) (v:Value) (L:List Int):Prop:=w.ownsRow B e 1 v L.length (L.map (Value.int .u8))
theorem OwnL.more {e:TypeId} {w:World} {B:Nat} {v:Value} {L M:List Int} (h:w.ownsRow B e 1 v (L.length+M.length) (L.map (Value.int .u8) ++ M.map (.int .u8))):OwnL e w B v (L ++ M):=by
 unfold OwnL;simpa using h
theorem OwnL.slice {e:TypeId} {w:World} {B:Nat} {v:Value} {L:List Int} (h:OwnL e w B v L) (hL:∀ x ∈ L,0≤x∧x≤255) :
  ∃ a cap,v=.slice a L.length cap∧Bytes w a L.length (fun j=>L.getD j 0)∧∀ b off,a=some ⟨b,off,none⟩→B≤b:=by
 have hf:∀ k,0≤L.getD k 0∧L.getD k 0≤255:=by
  intro k
  by_cases hk:k<L.length
  ·rw [List.getD_eq_getElem?_getD,List.getElem?_eq_getElem hk];exact hL _ (List.getElem_mem hk)
  ·rw [List.getD_eq_getElem?_getD,List.getElem?_eq_none (by omega)];simp
 rcases h.2 with ⟨h1,h2⟩ | ⟨g,cap,cur,h1,hB,hg,hle,hm,hs,ht⟩
 ·have e0:L=[]:=by simpa using h2
  subst e0
  exact ⟨none,0,by simpa using h1,⟨hf,fun h0=>absurd h0 (by simp)⟩,fun b off h=>by cases h⟩
 ·refine ⟨some ⟨g,0,none⟩,cap,by simpa using h1,⟨hf,fun h0=>⟨g,0,rfl,fun i hi=>?_⟩⟩,fun b off h=>by cases h;exact hB⟩
  have hc:=World.ownsRow.cells h (g:=g) (by rw [h1];rfl) i (.int .u8 (L.getD i 0)) (by simp [hi])
  have ea:(⟨g,0,none⟩:Addr).add i=⟨g,0+i,none⟩:=by unfold Addr.add;split <;> simp_all
  rw [ea] at hc
  exact hc
theorem strOf_list (L:List Int):strOf (fun j=>L.getD j 0) L.length=strOfNums L:=by
 unfold strOf
 congr 1
 apply List.ext_getElem?
 intro i
 by_cases hi:i<L.length
 ·simp [hi]
 ·simp [hi]
theorem conv_own {P:Program} (w:World) (src dst e:TypeId) (hs:P.underlying src=some (.slice e)) (he:P.underlying e=some (.int .u8)) (hd:P.underlying dst=some .string)
  (a:Option Addr) (cap:Nat) (L:List Int) (h:Bytes w a L.length (fun j=>L.getD j 0)) :
  (convert src dst (.slice a L.length cap)).run P w=.ok (.string (strOfNums L)) w:=by
 rw [conv_row w src dst e hs he hd a L.length cap _ h,strOf_list]
theorem conv_bytes {P:Program} (w:World) (src dst e:TypeId) (s:ByteArray) (hs:P.underlying src=some .string) (hd:P.underlying dst=some (.slice e)) (he:P.underlying e=some (.int .u8)) :
  ∃ cap w',(convert src dst (.string s)).run P w=.ok (.slice (some ⟨w.heap.size,0,none⟩) s.size cap) w'∧Below w.heap.size w w'∧w'.heap.size=w.heap.size+1 ∧
   (∀ i,i<s.size→w'.frozen? ⟨w.heap.size,i,none⟩=false)∧∀ i,i<s.size→w'.cell? ⟨w.heap.size,i,none⟩=some (.int .u8 (bt s i)):=by
 refine ⟨_,_,Go.Lib.run_convert_string_bytes w src dst e s hs hd he,⟨rfl,rfl,rfl,?_,?_⟩,Go.Lib.bytesWorld_size w e s,?_,?_⟩
 ·rw [Go.Lib.bytesWorld_size];omega
 ·intro k hk;exact Go.Lib.bytesWorld_at_old w e s k hk
 ·intro i hi
  have hb:=Go.Lib.bytesWorld_at_new w e s
  have hz:s.size≤(Go.Lib.bytesCells w e s).size:=by simp [Go.Lib.bytesCells]
  simp [World.frozen?,hb]
  omega
 ·intro i hi
  rw [Go.Lib.bytesWorld_cell w e s i hi]
  have:(s.data.toList.getD i 0)=s[i]:=by
   have hi':i<s.data.size:=hi
   rw [List.getD_eq_getElem?_getD,List.getElem?_eq_getElem (by simpa using hi')];rfl
  rw [this,get_bt s i hi]
set_option maxRecDepth 20000
theorem strOfNums_append (L M:List Int):strOfNums L ++ strOfNums M=strOfNums (L ++ M):=by
 apply ByteArray.ext
 simp [strOfNums,ByteArray.data_append]
theorem conv_one (wx:World) (b:Nat) (x:Int) (h0:0≤x) (h1:x≤255) (hb:wx.cell? ⟨b,0,none⟩=some (.int .u8 x)):(convert 163 9 (.slice (some ⟨b,0,none⟩) 1 1)).run Tryz.prog wx=.ok (.string (strOfNums [x])) wx:=by
 have hB:Bytes wx (some ⟨b,0,none⟩) [x].length (fun j=>[x].getD j 0):=by
  refine ⟨fun k=>?_,fun _=>⟨b,0,rfl,fun i hi=>?_⟩⟩
  ·rcases k with _ | k <;> simp <;> omega
  ·obtain rfl:i=0:=by simpa using hi
   simpa using hb
 exact conv_own (P:=Tryz.prog) wx 163 9 5 Tryz.underlying163 Tryz.underlying5 Tryz.underlying9 (some ⟨b,0,none⟩) 1 [x] hB
end Go.Proofs.YtojcakkkakmniaaGreatDoor
namespace Go.Proofs.YtojcakkkakmniaaGreatDoor.Bt
open Go.RowKit
set_option linter.unusedVariables false
theorem ofInt_i64 (a:Nat) (ha:a<9223372036854775808):(BitVec.ofInt 64 (a:Int)).toNat=a:=by
 rw [BitVec.ofInt_natCast,BitVec.toNat_ofNat];exact Nat.mod_eq_of_lt (by omega)
theorem and_nat (a b:Nat) (ha:a<9223372036854775808) (hb:b<9223372036854775808):bits .and .i64 (a:Int) (b:Int)=((a &&& b:Nat):Int):=by
 have hx:a &&& b<2 ^ 63:=Nat.and_lt_two_pow _ (by omega)
 show IntKind.i64.wrap ((BitVec.ofInt 64 (a:Int) &&& BitVec.ofInt 64 (b:Int)).toNat:Int)=_
 rw [BitVec.toNat_and,ofInt_i64 a ha,ofInt_i64 b hb,IntKind.wrap_i64]
 omega
theorem or_nat (a b:Nat) (ha:a<9223372036854775808) (hb:b<9223372036854775808):bits .or .i64 (a:Int) (b:Int)=((a ||| b:Nat):Int):=by
 have hx:a ||| b<2 ^ 63:=Nat.or_lt_two_pow (by omega) (by omega)
 show IntKind.i64.wrap ((BitVec.ofInt 64 (a:Int) ||| BitVec.ofInt 64 (b:Int)).toNat:Int)=_
 rw [BitVec.toNat_or,ofInt_i64 a ha,ofInt_i64 b hb,IntKind.wrap_i64]
 omega
theorem mask (i:Nat) (hi:i<63) (n:Int) (h0:0≤n) (h1:n≤9223372036854775807):bits BinOp.and IntKind.i64 n ((2 ^ i - 1:Nat):Int)=n % ((2 ^ i:Nat):Int):=by
 obtain ⟨m,rfl⟩:=Int.eq_ofNat_of_zero_le h0
 have hp:2 ^ i≤2 ^ 62:=Nat.pow_le_pow_right (by omega) (by omega)
 rw [and_nat m (2 ^ i - 1) (by omega) (by omega),Nat.and_two_pow_sub_one_eq_mod]
 omega
theorem join8 (x y:Int) (h0:0≤x) (h1:x≤36028797018963967) (h2:0≤y) (h3:y≤255):bits BinOp.or IntKind.i64 (x * 256) y=x * 256+y:=by
 obtain ⟨a,rfl⟩:=Int.eq_ofNat_of_zero_le h0
 obtain ⟨b,rfl⟩:=Int.eq_ofNat_of_zero_le h2
 have e:((a:Int) * 256)=((a * 256:Nat):Int):=by omega
 rw [e,or_nat (a * 256) b (by omega) (by omega),nat_join 8 (a * 256) b (by omega) (by omega)]
 omega
end Go.Proofs.YtojcakkkakmniaaGreatDoor.Bt
namespace Go.Proofs.YtojcakkkakmniaaGreatDoor
open Go.RowKit Go.PlainAid
set_option linter.unusedVariables false
theorem hasRoom_y (n:Int) (m:Nat) (w:World) (h1:1≤m) (h6:m≤6) (hn:0≤n) (hr:n<2 ^ (8 * m)) (hx:n≤9223372036854775807) :
  Calls Tryz.prog 175 #[.int .i64 n,.int .i64 m] w fun e w'=>e=.returned (.bool true)∧w'=w:=by
 have b3:decide (0≤n)=true:=by simp;omega
 have b4:(n / 2 ^ (8 * m) == 0)=true:=by simp;exact Int.ediv_eq_zero_of_lt hn hr
 clear hr
 go_enter Tryz.func175,Tryz.ntmps175
 go_wp2
 go_ret
 exact ⟨rfl,rfl⟩
theorem hasRoom_n (n:Int) (m:Nat) (w:World) (h1:1≤m) (h6:m≤6) (h:n<0 ∨ 2 ^ (8 * m)≤n) (hx:n≤9223372036854775807) :
  Calls Tryz.prog 175 #[.int .i64 n,.int .i64 m] w fun e w'=>e=.returned (.bool false)∧w'=w:=by
 by_cases h0:n<0
 ·have b3:decide (0≤n)=false:=by simp;omega
  clear h
  go_enter Tryz.func175,Tryz.ntmps175
  go_wp2
  go_ret
  exact ⟨rfl,rfl⟩
 ·have b3:decide (0≤n)=true:=by simp;omega
  have hp:(0:Int)<2 ^ (8 * m):=Int.pow_pos (by omega)
  have hq:1≤n / 2 ^ (8 * m):=by rw [Int.le_ediv_iff_mul_le hp];omega
  have b4:(n / 2 ^ (8 * m) == 0)=false:=by rw [beq_eq_false_iff_ne];omega
  clear h hp hq
  go_enter Tryz.func175,Tryz.ntmps175
  go_wp2
  go_ret
  exact ⟨rfl,rfl⟩
theorem addressOK_y (n:Int) (w:World) (h0:0≤n) (h1:n≤4294967295) :
  Calls Tryz.prog 113 #[.int .i64 n] w fun e w'=>e=.returned (.bool true)∧w'=w:=by
 go_enter Tryz.func113,Tryz.ntmps113
 go_wp2
 go_ret
 exact ⟨congrArg (fun b=>Ending.returned (.bool b)) (by simp),rfl⟩
theorem addressOK_n (n:Int) (w:World) (h:¬ (0≤n∧n≤4294967295)) :
  Calls Tryz.prog 113 #[.int .i64 n] w fun e w'=>e=.returned (.bool false)∧w'=w:=by
 by_cases h0:0≤n
 ·have h2:¬ n≤4294967295:=fun hh=>h ⟨h0,hh⟩
  clear h
  go_enter Tryz.func113,Tryz.ntmps113
  go_wp2
  go_ret
  exact ⟨congrArg (fun b=>Ending.returned (.bool b)) (by simp),rfl⟩
 ·clear h
  have b:decide (0≤n)=false:=by simp;omega
  go_enter Tryz.func113,Tryz.ntmps113
  go_wp2
  go_ret
  exact ⟨rfl,rfl⟩
set_option maxRecDepth 20000
def numOf (f:Nat→Int):Nat→Int
 | 0=>0
 | k+1=>numOf f k * 256+f k
theorem numOf_bd (f:Nat→Int) (h:∀ k,0≤f k∧f k≤255):∀ k:Nat,0≤numOf f k∧numOf f k≤256 ^ k - 1
 | 0=>by simp [numOf]
 | k+1=>by
  have:=numOf_bd f h k
  have:=h k
  have e:(256:Int) ^ (k+1)=256 ^ k * 256:=Int.pow_succ ..
  rw [e]
  unfold numOf
  omega
theorem numOf_le5 (f:Nat→Int) (h:∀ k,0≤f k∧f k≤255) (k:Nat) (hk:k≤5):0≤numOf f k∧numOf f k≤1099511627775:=by
 have:=numOf_bd f h k
 match k,hk with
 | 0,_ | 1,_ | 2,_ | 3,_ | 4,_ | 5,_=>simp at this;omega
theorem numOf_congr (f g:Nat→Int):∀ k:Nat,(∀ j,j<k→f j=g j)→numOf f k=numOf g k
 | 0,_=>rfl
 | k+1,h=>by rw [numOf,numOf,numOf_congr f g k (fun j hj=>h j (by omega)),h k (by omega)]
theorem l01In_any (n lo hi:Int) (w:World):Calls Tryz.prog 65 #[.int .i64 n,.int .i64 lo,.int .i64 hi] w fun e w'=>e=.returned (.bool (decide (lo≤n∧n≤hi)))∧w'=w:=by
 by_cases h1:lo≤n
 ·by_cases h2:n≤hi
  ·go_enter Tryz.func65,Tryz.ntmps65
   go_wp2
   go_ret
   exact ⟨congrArg (fun b=>Ending.returned (.bool b)) (by simp [h1,h2]),rfl⟩
  ·go_enter Tryz.func65,Tryz.ntmps65
   go_wp2
   go_ret
   exact ⟨congrArg (fun b=>Ending.returned (.bool b)) (by simp [h2]),rfl⟩
 ·have h1':decide (lo≤n)=false:=by simp;omega
  go_enter Tryz.func65,Tryz.ntmps65
  go_wp2
  go_ret
  exact ⟨congrArg (fun b=>Ending.returned (.bool b)) (by simp),rfl⟩
set_option maxHeartbeats 400000 in
theorem numberOf_yes (a:Option Addr) (len cap:Nat) (f:Nat→Int) (w:World) (h:Bytes w a len f) (h1:1≤len) (h6:len≤6) :
  Calls Tryz.prog 157 #[.slice a len cap] w fun e w'=>e=.returned (.tuple #[.int .i64 (numOf f len),.int .i64 0])∧w'=w:=by
 have b1:decide ((len:Int)<1)=false:=by simp;omega
 have b2:decide (6<(len:Int))=false:=by simp;omega
 go_enter Tryz.func157,Tryz.ntmps157
 go_wp2
 go_loop [4,19] (fun n i=>∃ k:Nat,k≤len∧i=.int .i64 k∧n=.int .i64 (numOf f k)) (fun _ i=>len - (intOf i).toNat)
 case atStart=>exact ⟨0,Nat.zero_le _,rfl,rfl⟩
 case round =>
  obtain ⟨k,hk,rfl,rfl⟩:=hrel
  have h0:=(h.1 k).1
  have hx:=(h.1 k).2
  by_cases hlt:k<len
  ·have hbd:=numOf_le5 f h.1 k (by omega)
   obtain ⟨b,off,rfl,hc⟩:=h.2 (by omega)
   have hck:=hc k hlt
   have hj:=Bt.join8 (numOf f k) (f k) hbd.1 (by omega) h0 hx
   clear hc
   go_wp2
   go_round
   case rel=>exact ⟨k+1,by omega,by go_num,rfl⟩
   case measure=>simp [intOf];omega
  ·obtain rfl:k=len:=by omega
   go_wp2
   go_ret2
   exact ⟨rfl,rfl⟩
def dec (p:Prop) [Decidable p]:Bool:=decide p
theorem dec_y {p:Prop} [Decidable p] (h:p):dec p=true:=decide_eq_true h
theorem dec_n {p:Prop} [Decidable p] (h:¬ p):dec p=false:=decide_eq_false h
theorem hasRoom_any (n:Int) (m:Nat) (M:Int) (w:World) (h1:1≤m) (h6:m≤6) (hM:(2:Int) ^ (8 * m)=M+1) (hx:n≤9223372036854775807) :
  Calls Tryz.prog 175 #[.int .i64 n,.int .i64 m] w fun e w'=>e=.returned (.bool (dec (0≤n∧n≤M)))∧w'=w:=by
 by_cases h:0≤n∧n≤M
 ·exact (hasRoom_y n m w h1 h6 h.1 (by rw [hM];omega) hx).mono fun e w' hh=>⟨by rw [dec_y h];exact hh.1,hh.2⟩
 ·exact (hasRoom_n n m w h1 h6 (by rw [hM];omega) hx).mono fun e w' hh=>⟨by rw [dec_n h];exact hh.1,hh.2⟩
theorem hasRoom2 (n:Int) (w:World) (hx:n≤9223372036854775807):Calls Tryz.prog 175 #[.int .i64 n,.int .i64 2] w fun e w'=>e=.returned (.bool (dec (0≤n∧n≤65535)))∧w'=w :=
 hasRoom_any n 2 65535 w (by omega) (by omega) rfl hx
theorem addressOK_any (n:Int) (w:World):Calls Tryz.prog 113 #[.int .i64 n] w fun e w'=>e=.returned (.bool (dec (0≤n∧n≤4294967295)))∧w'=w:=by
 by_cases h:0≤n∧n≤4294967295
 ·exact (addressOK_y n w h.1 h.2).mono fun e w' hh=>⟨by rw [dec_y h];exact hh.1,hh.2⟩
 ·exact (addressOK_n n w h).mono fun e w' hh=>⟨by rw [dec_n h];exact hh.1,hh.2⟩
theorem portOK_any (n:Int) (w:World) (hx:n≤9223372036854775807):Calls Tryz.prog 167 #[.int .i64 n] w fun e w'=>e=.returned (.bool (dec (0≤n∧n≤65535)))∧w'=w:=by
 go_enter Tryz.func167,Tryz.ntmps167
 go_wp2_with fail
 refine (hasRoom2 _ _ hx).mono ?_
 rintro e w1 ⟨rfl,hw1⟩
 obtain rfl:=hw1.symm
 clear hw1
 go_wp2
 go_ret
 exact ⟨rfl,rfl⟩
theorem specIn_any (n lo hi:Int) (w:World):Calls Tryz.prog 65 #[.int .i64 n,.int .i64 lo,.int .i64 hi] w fun e w'=>e=.returned (.bool (dec (lo≤n∧n≤hi)))∧w'=w:=l01In_any n lo hi w
theorem specIp_any (n:Int) (w:World):Calls Tryz.prog 23 #[.int .i64 n] w fun e w'=>e=.returned (.bool (dec (0≤n∧n≤4294967295)))∧w'=w:=by
 go_enter Tryz.func23,Tryz.ntmps23
 go_wp2_with fail
 refine (specIn_any _ _ _ _).mono ?_
 rintro e w1 ⟨rfl,hw1⟩
 obtain rfl:=hw1.symm
 clear hw1
 go_wp2
 go_ret
 exact ⟨rfl,rfl⟩
open Go.RowKit Go.PlainAid Go.Proofs.YtojcakkkakmniaaGreatDoor.Bt Go.Sort
def mtF (k:Nat) (L:List Int):List Int:=if h:k=0 then L else mtF (k / 10) ((48+((k % 10:Nat):Int)) :: L)
termination_by k
decreasing_by omega
theorem mtF_zero (L:List Int):mtF 0 L=L:=by rw [mtF,dif_pos rfl]
theorem mtF_step {k:Nat} (h:0<k) (L:List Int):mtF k L=mtF (k / 10) ((48+((k % 10:Nat):Int)) :: L):=by rw [mtF,dif_neg (by omega)]
def mtS (k:Nat):ByteArray:=strOfNums [109] ++ strOfNums (mtF k [])
theorem m_lit:(⟨#[109]⟩:ByteArray)=strOfNums [109]:=by
 apply ByteArray.ext
 simp [strOfNums]
set_option maxHeartbeats 1000000 in
theorem markText_any (n:Nat) (w:World) (h0:0<n) (hn:n≤1000000000000) :
  Calls Tryz.prog 98 #[.int .i64 n] w fun e w'=>e=.returned (.string (mtS n))∧Grw w w':=by
 have hpos:decide ((n:Int)≤0)=false:=by simp;omega
 go_enter Tryz.func98,Tryz.ntmps98
 go_wp2
 go_loopw [0,3] (fun p q wr=>∃ (k:Nat) (L:List Int),k≤n∧p=.int .i64 k∧q=.string (strOfNums L)∧Hid (mtF k L=mtF n []∧k<10 ^ (20 - L.length)∧L.length≤20)∧Hid (Grw w wr)) (fun p _ _=>(intOf p).toNat)
 case atStart=>exact ⟨n,[],Nat.le_refl _,rfl,rfl,⟨rfl,by simp;omega,by simp⟩,Grw.refl _⟩
 case round =>
  obtain ⟨k,L,hk,rfl,rfl,HM,HG⟩:=hrel
  by_cases hlt:0<k
  ·have hltz:(0:Int)<(k:Int):=by omega
   have hL:L.length+1≤20:=by
    have h1:=HM.out.2.1
    have h2:=HM.out.2.2
    by_cases h3:L.length=20
    ·rw [h3] at h1
     simp at h1
     omega
    ·omega
   have HM2:Hid (mtF (k / 10) ((48+(k:Int) % 10) :: L)=mtF n []∧k / 10<10 ^ (20 - (((48+(k:Int) % 10) :: L)).length)∧(((48+(k:Int) % 10) :: L)).length≤20):=by
    have e:((k % 10:Nat):Int)=(k:Int) % 10:=by omega
    refine ⟨by rw [← e,← mtF_step hlt];exact HM.out.1,?_,by simpa using hL⟩
    rw [Nat.div_lt_iff_lt_mul (by omega),List.length_cons]
    have:=HM.out.2.1
    rw [show 20 - L.length=(20 - (L.length+1))+1 by omega,Nat.pow_succ] at this
    exact this
   have hcv:∀ (wx:World) (b:Nat),wx.cell? ⟨b,0,none⟩=some (.int .u8 (48+(k:Int) % 10))→(convert 163 9 (.slice (some ⟨b,0,none⟩) 1 1)).run Tryz.prog wx=.ok (.string (strOfNums [48+(k:Int) % 10])) wx:=fun wx b hb=>conv_one wx b _ (by omega) (by omega) hb
   have hcv1:=hcv (wr.alloc (.cells #[.int .u8 (48+(k:Int) % 10)] 5)) wr.heap.size (by simp)
   have hadd:∀ wx:World,(Op.stringOp .add (strOfNums [48+(k:Int) % 10]) (strOfNums L)).run Tryz.prog wx=.ok (.string (strOfNums [48+(k:Int) % 10] ++ strOfNums L)) wx:=fun wx=>run_string_add_sum (P:=Tryz.prog) (w:=wx) _ _ (by
    rw [strOfNums_size,strOfNums_size]
    simp;omega)
   rw [strOfNums_append] at hadd
   have hadd':∀ wx:World,(Op.stringOp .add (strOfNums [48+(k:Int) % 10]) (strOfNums L)).run Tryz.prog wx=.ok (.string (strOfNums ((48+(k:Int) % 10) :: L))) wx:=hadd
   have hw1:IntKind.i64.wrap ((k:Int) / 10)=(k:Int) / 10:=by rw [IntKind.wrap_i64];omega
   have htm:(k:Int).tmod 10=(k:Int) % 10:=Int.tmod_eq_emod_of_nonneg (by omega)
   have htd:(k:Int).tdiv 10=(k:Int) / 10:=Int.tdiv_eq_ediv_of_nonneg (by omega)
   have hw2:IntKind.i64.wrap ((k:Int) % 10)=(k:Int) % 10:=by rw [IntKind.wrap_i64];omega
   have hw3:IntKind.i64.wrap (48+(k:Int) % 10)=48+(k:Int) % 10:=by rw [IntKind.wrap_i64];omega
   have hw4:IntKind.u8.wrap (48+(k:Int) % 10)=48+(k:Int) % 10:=by rw [IntKind.wrap_u8];omega
   have HG2:Hid (Grw w (wr.alloc (.cells #[.int .u8 (48+(k:Int) % 10)] 5))):=HG.out.alloc _
   have hdv:Hid ((k:Int) / 10=((k / 10:Nat):Int)):=by show _=_;omega
   have hk2:Hid (k / 10<k):=Nat.div_lt_self hlt (by omega)
   generalize ((48+(k:Int) % 10) :: L)=L2 at HM2 hadd'
   clear hadd HM HG
   go_wp2
   go_roundw
   case rel=>exact ⟨k / 10,L2,by omega,by rw [hdv.out],rfl,HM2,HG2⟩
   case measure=>simp [intOf];omega
  ·obtain rfl:k=0:=by omega
   have e0:=HM.out.1
   rw [mtF_zero] at e0
   have E:Hid (mtS n=strOfNums [109] ++ strOfNums L):=by
    show mtS n=_
    unfold mtS
    rw [e0]
   have hadd:∀ wx:World,(Op.stringOp .add (⟨#[109]⟩:ByteArray) (strOfNums L)).run Tryz.prog wx=.ok (.string (strOfNums [109] ++ strOfNums L)) wx:=fun wx=>by
    rw [m_lit]
    exact run_string_add_sum (P:=Tryz.prog) (w:=wx) _ _ (by
     have:=HM.out.2.2
     rw [strOfNums_size,strOfNums_size]
     simp;omega)
   generalize strOfNums [109] ++ strOfNums L=R at E hadd
   clear e0 HM
   go_wp2
   go_ret
   exact ⟨by rw [E.out];rfl,HG.out⟩
theorem mtS_len (k:Nat) (h:k≤1000000000000):(mtS k).size≤1000:=by
 have:∀ (m k:Nat) (L:List Int),k<10 ^ m→(mtF k L).length≤L.length+m:=by
  intro m
  induction m with
  | zero=>intro k L h;simp at h;subst h;rw [mtF_zero];omega
  | succ m ih =>
   intro k L h
   by_cases h0:k=0
   ·subst h0;rw [mtF_zero];omega
   ·rw [mtF_step (by omega)]
    have:=ih (k / 10) ((48+((k % 10:Nat):Int)) :: L) (by rw [Nat.div_lt_iff_lt_mul (by omega)];rw [Nat.pow_succ] at h;exact h)
    rw [List.length_cons] at this
    omega
 have h1:=this 13 k [] (by omega)
 unfold mtS
 simp [ByteArray.size_append,strOfNums_size] at h1 ⊢
 omega
theorem int_wf9 {n:Int} (h0:0≤n) (h1:n≤1000000000000):(Lit.int .i64 n).wf=true:=by
 have:IntKind.i64.min=-9223372036854775808:=by decide
 have:IntKind.i64.max=9223372036854775807:=by decide
 simp [Lit.wf]
 omega
def PlRok (r:PlaceV):Prop:=r.lo≤9223372036854775807∧r.hi≤9223372036854775807
def RuRok (r:RuleV):Prop:=r.lo≤9223372036854775807∧r.hi≤9223372036854775807
theorem pv_len (u:PlaceV):(pv u).length=4:=rfl
theorem rv_len (u:RuleV):(rv u).length=6:=rfl
def mkPlace (M:Nat):PlaceV:=⟨(M:Int),(M:Int)+1,(M:Int)+1+1,(M:Int)+1+1+1⟩
def mkPlaceL (m0 n:Nat):List PlaceV:=(List.range n).map (fun k=>mkPlace (m0+4 * k))
theorem mkPlaceL_len (m0 n:Nat):(mkPlaceL m0 n).length=n:=by simp [mkPlaceL]
theorem mkPlaceL_at (m0 n i:Nat) (h:i<n):(mkPlaceL m0 n)[i]?=some (mkPlace (m0+4 * i)):=by rw [mkPlaceL,List.getElem?_map,List.getElem?_range h];rfl
def mkPlace_0 (x:PlaceV) (M:Nat):PlaceV:={ x with ip:=(M:Int) }
def mkPlace_1 (x:PlaceV) (M:Nat):PlaceV:={ mkPlace_0 x M with b:=(M:Int)+1 }
def mkPlace_2 (x:PlaceV) (M:Nat):PlaceV:={ mkPlace_1 x M with lo:=(M:Int)+1+1 }
def mkPlace_3 (x:PlaceV) (M:Nat):PlaceV:={ mkPlace_2 x M with hi:=(M:Int)+1+1+1 }
set_option maxHeartbeats 4000000 in
theorem markPlaceS_any (a:Option Addr) (n cap B m0:Nat) (L:List PlaceV) (w:World) (h:OwnS pv 4 126 w B (.slice a n cap) L) (h0:0<m0) (hm:m0+4 * n≤100000000000) :
  Calls Tryz.prog 50 #[.slice a n cap,.int .i64 (m0:Int)] w fun e w'=>e=.returned (.int .i64 ((m0+4 * n:Nat):Int))∧OwnS pv 4 126 w' B (.slice a n cap) (mkPlaceL m0 n)∧w.grownBy w' (Value.slice a n cap).ownBlock:=by
 have H:Hid (OwnS pv 4 126 w B (.slice a n cap) L):=h
 have hn:=h.len
 have hlen:n≤100000000000:=by omega
 clear h
 go_enter Tryz.func50,Tryz.ntmps50
 go_wp2
 go_loopw [1,5] (fun m i wr=>∃ (k M:Nat) (L':List PlaceV),k≤n∧i=.int .i64 k∧m=.int .i64 (M:Int)∧Hid (M=m0+4 * k)∧Hid (OwnS pv 4 126 wr B (.slice a n cap) L'∧L'.length=n∧L'.take k=(mkPlaceL m0 n).take k∧w.grownBy wr (Value.slice a n cap).ownBlock)) (fun _ i _=>n - (intOf i).toNat)
 case atStart=>exact ⟨0,m0,L,Nat.zero_le _,rfl,rfl,by show m0=_;omega,H.out,hn,rfl,grown_refl w _⟩
 case round =>
  obtain ⟨k,M,L',hk,rfl,rfl,hM,X⟩:=hrel
  by_cases hlt:k<n
  ·obtain ⟨g,rfl,hBg,hg,-⟩:=X.out.1.form (by rw [X.out.2.1];omega)
   obtain ⟨x,hx⟩:=at_of (k:=k) X.out.2.1 hlt
   have hltz:(k:Int)<(n:Int):=by omega
   have hMz:(M:Int)≤200000000000:=by have:=hM.out;omega
   have hM0:0<M:=by have:=hM.out;omega
   have G0:Hid (w.grownBy wr (some g)):=X.out.2.2.2
   have o0:=X.out.1
   have hT:Hid (L'.length=n∧L'.take k=(mkPlaceL m0 n).take k):=⟨X.out.2.1,X.out.2.2.1⟩
   clear X
   obtain ⟨c0,z0⟩:=o0.cell pv_len (j:=0) hx rfl
   replace c0:wr.cell? ⟨g,k * 4,none⟩=some (.int .i64 x.ip):=c0
   replace z0:wr.frozen? ⟨g,k * 4,none⟩=false:=z0
   obtain ⟨c1,z1⟩:=o0.cell pv_len (j:=1) hx rfl
   obtain ⟨c2,z2⟩:=o0.cell pv_len (j:=2) hx rfl
   obtain ⟨c3,z3⟩:=o0.cell pv_len (j:=3) hx rfl
   have s0:=o0.set1 pv_len (j:=0) (y:=(mkPlace_0 x M)) (u:=.int .i64 ((M:Int))) hx (by omega) rfl
   have hx0:(L'.set k (mkPlace_0 x M))[k]?=some (mkPlace_0 x M):=List.getElem?_set_self (by rw [hT.out.1];exact hlt)
   have s1:=s0.1.set1 pv_len (j:=1) (y:=(mkPlace_1 x M)) (u:=.int .i64 ((M:Int)+1)) hx0 (by omega) rfl
   rw [List.set_set] at s1
   have hx1:(L'.set k (mkPlace_1 x M))[k]?=some (mkPlace_1 x M):=List.getElem?_set_self (by rw [hT.out.1];exact hlt)
   have s2:=s1.1.set1 pv_len (j:=2) (y:=(mkPlace_2 x M)) (u:=.int .i64 ((M:Int)+1+1)) hx1 (by omega) rfl
   rw [List.set_set] at s2
   have hx2:(L'.set k (mkPlace_2 x M))[k]?=some (mkPlace_2 x M):=List.getElem?_set_self (by rw [hT.out.1];exact hlt)
   have s3:=s2.1.set1 pv_len (j:=3) (y:=(mkPlace_3 x M)) (u:=.int .i64 ((M:Int)+1+1+1)) hx2 (by omega) rfl
   rw [List.set_set] at s3
   have hx3:(L'.set k (mkPlace_3 x M))[k]?=some (mkPlace_3 x M):=List.getElem?_set_self (by rw [hT.out.1];exact hlt)
   have Z0:Hid (OwnS pv 4 126 ((((wr.setCell ⟨g,k * 4,none⟩ (.int .i64 ((M:Int)))).setCell ⟨g,k * 4+1,none⟩ (.int .i64 ((M:Int)+1))).setCell ⟨g,k * 4+2,none⟩ (.int .i64 ((M:Int)+1+1))).setCell ⟨g,k * 4+3,none⟩ (.int .i64 ((M:Int)+1+1+1))) B (.slice (some ⟨g,0,none⟩) n cap) (L'.set k (mkPlace_3 x M))∧w.grownBy ((((wr.setCell ⟨g,k * 4,none⟩ (.int .i64 ((M:Int)))).setCell ⟨g,k * 4+1,none⟩ (.int .i64 ((M:Int)+1))).setCell ⟨g,k * 4+2,none⟩ (.int .i64 ((M:Int)+1+1))).setCell ⟨g,k * 4+3,none⟩ (.int .i64 ((M:Int)+1+1+1))) (some g)):=⟨s3.1,(grown_tr (grown_tr (grown_tr (grown_tr G0.out s0.2) s1.2) s2.2) s3.2)⟩
   have hy0:Hid ((L'.set k (mkPlace_3 x M))[k]?=some (mkPlace_3 x M)):=hx3
   clear o0 G0 s0 hx0 s1 hx1 s2 hx2 s3 hx3 hx
   have ePlace:(mkPlace_3 x M)=mkPlace M:=rfl
   rw [ePlace] at Z0
   have YY:Hid (OwnS pv 4 126 ((((wr.setCell ⟨g,k * 4,none⟩ (.int .i64 ((M:Int)))).setCell ⟨g,k * 4+1,none⟩ (.int .i64 ((M:Int)+1))).setCell ⟨g,k * 4+2,none⟩ (.int .i64 ((M:Int)+1+1))).setCell ⟨g,k * 4+3,none⟩ (.int .i64 ((M:Int)+1+1+1))) B (.slice (some ⟨g,0,none⟩) n cap) (L'.set k (mkPlace M))∧(L'.set k (mkPlace M)).length=n∧(L'.set k (mkPlace M)).take (k+1)=(mkPlaceL m0 n).take (k+1)∧w.grownBy ((((wr.setCell ⟨g,k * 4,none⟩ (.int .i64 ((M:Int)))).setCell ⟨g,k * 4+1,none⟩ (.int .i64 ((M:Int)+1))).setCell ⟨g,k * 4+2,none⟩ (.int .i64 ((M:Int)+1+1))).setCell ⟨g,k * 4+3,none⟩ (.int .i64 ((M:Int)+1+1+1))) (some g)):=⟨Z0.out.1,by rw [List.length_set];exact hT.out.1,takeS_set (by rw [hT.out.1,mkPlaceL_len]) (by rw [mkPlaceL_at m0 n k hlt,hM.out]) hT.out.2,Z0.out.2⟩
   clear Z0 hT hy0
   go_wp2
   go_roundw
   case rel=>exact ⟨k+1,M+4,_,by omega,by go_num,by go_num,(show M+4=m0+4 * (k+1) by have:=hM.out;omega),YY⟩
   case measure=>simp [intOf];omega
  ·obtain rfl:k=n:=by omega
   have e1:L'=mkPlaceL m0 k:=by
    have:=X.out.2.2.1
    rwa [List.take_of_length_le (by rw [X.out.2.1];exact Nat.le_refl _),List.take_of_length_le (by rw [mkPlaceL_len];exact Nat.le_refl _)] at this
   subst e1
   have hM2:=hM.out
   subst hM2
   go_wp2
   go_ret
   exact ⟨rfl,X.out.1,X.out.2.2.2⟩
def mkRule (M:Nat):RuleV:=⟨(M:Int),(M:Int)+1,(M:Int)+1+1,(M:Int)+1+1+1,(M:Int)+1+1+1+1,(((M:Int)+1+1+1+1+1) % 3 == 0)⟩
def mkRuleL (m0 n:Nat):List RuleV:=(List.range n).map (fun k=>mkRule (m0+6 * k))
theorem mkRuleL_len (m0 n:Nat):(mkRuleL m0 n).length=n:=by simp [mkRuleL]
theorem mkRuleL_at (m0 n i:Nat) (h:i<n):(mkRuleL m0 n)[i]?=some (mkRule (m0+6 * i)):=by rw [mkRuleL,List.getElem?_map,List.getElem?_range h];rfl
def mkRule_0 (x:RuleV) (M:Nat):RuleV:={ x with p:=(M:Int) }
def mkRule_1 (x:RuleV) (M:Nat):RuleV:={ mkRule_0 x M with ip:=(M:Int)+1 }
def mkRule_2 (x:RuleV) (M:Nat):RuleV:={ mkRule_1 x M with b:=(M:Int)+1+1 }
def mkRule_3 (x:RuleV) (M:Nat):RuleV:={ mkRule_2 x M with lo:=(M:Int)+1+1+1 }
def mkRule_4 (x:RuleV) (M:Nat):RuleV:={ mkRule_3 x M with hi:=(M:Int)+1+1+1+1 }
def mkRule_5 (x:RuleV) (M:Nat):RuleV:={ mkRule_4 x M with al:=(((M:Int)+1+1+1+1+1) % 3 == 0) }
set_option maxHeartbeats 4000000 in
theorem markRuleS_any (a:Option Addr) (n cap B m0:Nat) (L:List RuleV) (w:World) (h:OwnS rv 6 182 w B (.slice a n cap) L) (h0:0<m0) (hm:m0+6 * n≤100000000000) :
  Calls Tryz.prog 99 #[.slice a n cap,.int .i64 (m0:Int)] w fun e w'=>e=.returned (.int .i64 ((m0+6 * n:Nat):Int))∧OwnS rv 6 182 w' B (.slice a n cap) (mkRuleL m0 n)∧w.grownBy w' (Value.slice a n cap).ownBlock:=by
 have H:Hid (OwnS rv 6 182 w B (.slice a n cap) L):=h
 have hn:=h.len
 have hlen:n≤100000000000:=by omega
 clear h
 go_enter Tryz.func99,Tryz.ntmps99
 go_wp2
 go_loopw [1,5] (fun m i wr=>∃ (k M:Nat) (L':List RuleV),k≤n∧i=.int .i64 k∧m=.int .i64 (M:Int)∧Hid (M=m0+6 * k)∧Hid (OwnS rv 6 182 wr B (.slice a n cap) L'∧L'.length=n∧L'.take k=(mkRuleL m0 n).take k∧w.grownBy wr (Value.slice a n cap).ownBlock)) (fun _ i _=>n - (intOf i).toNat)
 case atStart=>exact ⟨0,m0,L,Nat.zero_le _,rfl,rfl,by show m0=_;omega,H.out,hn,rfl,grown_refl w _⟩
 case round =>
  obtain ⟨k,M,L',hk,rfl,rfl,hM,X⟩:=hrel
  by_cases hlt:k<n
  ·obtain ⟨g,rfl,hBg,hg,-⟩:=X.out.1.form (by rw [X.out.2.1];omega)
   obtain ⟨x,hx⟩:=at_of (k:=k) X.out.2.1 hlt
   have hltz:(k:Int)<(n:Int):=by omega
   have hMz:(M:Int)≤200000000000:=by have:=hM.out;omega
   have hM0:0<M:=by have:=hM.out;omega
   have G0:Hid (w.grownBy wr (some g)):=X.out.2.2.2
   have o0:=X.out.1
   have hT:Hid (L'.length=n∧L'.take k=(mkRuleL m0 n).take k):=⟨X.out.2.1,X.out.2.2.1⟩
   clear X
   obtain ⟨c0,z0⟩:=o0.cell rv_len (j:=0) hx rfl
   replace c0:wr.cell? ⟨g,k * 6,none⟩=some (.int .i64 x.p):=c0
   replace z0:wr.frozen? ⟨g,k * 6,none⟩=false:=z0
   obtain ⟨c1,z1⟩:=o0.cell rv_len (j:=1) hx rfl
   obtain ⟨c2,z2⟩:=o0.cell rv_len (j:=2) hx rfl
   obtain ⟨c3,z3⟩:=o0.cell rv_len (j:=3) hx rfl
   obtain ⟨c4,z4⟩:=o0.cell rv_len (j:=4) hx rfl
   obtain ⟨c5,z5⟩:=o0.cell rv_len (j:=5) hx rfl
   have s0:=o0.set1 rv_len (j:=0) (y:=(mkRule_0 x M)) (u:=.int .i64 ((M:Int))) hx (by omega) rfl
   have hx0:(L'.set k (mkRule_0 x M))[k]?=some (mkRule_0 x M):=List.getElem?_set_self (by rw [hT.out.1];exact hlt)
   have s1:=s0.1.set1 rv_len (j:=1) (y:=(mkRule_1 x M)) (u:=.int .i64 ((M:Int)+1)) hx0 (by omega) rfl
   rw [List.set_set] at s1
   have hx1:(L'.set k (mkRule_1 x M))[k]?=some (mkRule_1 x M):=List.getElem?_set_self (by rw [hT.out.1];exact hlt)
   have s2:=s1.1.set1 rv_len (j:=2) (y:=(mkRule_2 x M)) (u:=.int .i64 ((M:Int)+1+1)) hx1 (by omega) rfl
   rw [List.set_set] at s2
   have hx2:(L'.set k (mkRule_2 x M))[k]?=some (mkRule_2 x M):=List.getElem?_set_self (by rw [hT.out.1];exact hlt)
   have s3:=s2.1.set1 rv_len (j:=3) (y:=(mkRule_3 x M)) (u:=.int .i64 ((M:Int)+1+1+1)) hx2 (by omega) rfl
   rw [List.set_set] at s3
   have hx3:(L'.set k (mkRule_3 x M))[k]?=some (mkRule_3 x M):=List.getElem?_set_self (by rw [hT.out.1];exact hlt)
   have s4:=s3.1.set1 rv_len (j:=4) (y:=(mkRule_4 x M)) (u:=.int .i64 ((M:Int)+1+1+1+1)) hx3 (by omega) rfl
   rw [List.set_set] at s4
   have hx4:(L'.set k (mkRule_4 x M))[k]?=some (mkRule_4 x M):=List.getElem?_set_self (by rw [hT.out.1];exact hlt)
   have s5:=s4.1.set1 rv_len (j:=5) (y:=(mkRule_5 x M)) (u:=.bool (((M:Int)+1+1+1+1+1) % 3 == 0)) hx4 (by omega) rfl
   rw [List.set_set] at s5
   have hx5:(L'.set k (mkRule_5 x M))[k]?=some (mkRule_5 x M):=List.getElem?_set_self (by rw [hT.out.1];exact hlt)
   have Z0:Hid (OwnS rv 6 182 ((((((wr.setCell ⟨g,k * 6,none⟩ (.int .i64 ((M:Int)))).setCell ⟨g,k * 6+1,none⟩ (.int .i64 ((M:Int)+1))).setCell ⟨g,k * 6+2,none⟩ (.int .i64 ((M:Int)+1+1))).setCell ⟨g,k * 6+3,none⟩ (.int .i64 ((M:Int)+1+1+1))).setCell ⟨g,k * 6+4,none⟩ (.int .i64 ((M:Int)+1+1+1+1))).setCell ⟨g,k * 6+5,none⟩ (.bool (((M:Int)+1+1+1+1+1) % 3 == 0))) B (.slice (some ⟨g,0,none⟩) n cap) (L'.set k (mkRule_5 x M))∧w.grownBy ((((((wr.setCell ⟨g,k * 6,none⟩ (.int .i64 ((M:Int)))).setCell ⟨g,k * 6+1,none⟩ (.int .i64 ((M:Int)+1))).setCell ⟨g,k * 6+2,none⟩ (.int .i64 ((M:Int)+1+1))).setCell ⟨g,k * 6+3,none⟩ (.int .i64 ((M:Int)+1+1+1))).setCell ⟨g,k * 6+4,none⟩ (.int .i64 ((M:Int)+1+1+1+1))).setCell ⟨g,k * 6+5,none⟩ (.bool (((M:Int)+1+1+1+1+1) % 3 == 0))) (some g)):=⟨s5.1,(grown_tr (grown_tr (grown_tr (grown_tr (grown_tr (grown_tr G0.out s0.2) s1.2) s2.2) s3.2) s4.2) s5.2)⟩
   have hy0:Hid ((L'.set k (mkRule_5 x M))[k]?=some (mkRule_5 x M)):=hx5
   clear o0 G0 s0 hx0 s1 hx1 s2 hx2 s3 hx3 s4 hx4 s5 hx5 hx
   have eRule:(mkRule_5 x M)=mkRule M:=rfl
   rw [eRule] at Z0
   have YY:Hid (OwnS rv 6 182 ((((((wr.setCell ⟨g,k * 6,none⟩ (.int .i64 ((M:Int)))).setCell ⟨g,k * 6+1,none⟩ (.int .i64 ((M:Int)+1))).setCell ⟨g,k * 6+2,none⟩ (.int .i64 ((M:Int)+1+1))).setCell ⟨g,k * 6+3,none⟩ (.int .i64 ((M:Int)+1+1+1))).setCell ⟨g,k * 6+4,none⟩ (.int .i64 ((M:Int)+1+1+1+1))).setCell ⟨g,k * 6+5,none⟩ (.bool (((M:Int)+1+1+1+1+1) % 3 == 0))) B (.slice (some ⟨g,0,none⟩) n cap) (L'.set k (mkRule M))∧(L'.set k (mkRule M)).length=n∧(L'.set k (mkRule M)).take (k+1)=(mkRuleL m0 n).take (k+1)∧w.grownBy ((((((wr.setCell ⟨g,k * 6,none⟩ (.int .i64 ((M:Int)))).setCell ⟨g,k * 6+1,none⟩ (.int .i64 ((M:Int)+1))).setCell ⟨g,k * 6+2,none⟩ (.int .i64 ((M:Int)+1+1))).setCell ⟨g,k * 6+3,none⟩ (.int .i64 ((M:Int)+1+1+1))).setCell ⟨g,k * 6+4,none⟩ (.int .i64 ((M:Int)+1+1+1+1))).setCell ⟨g,k * 6+5,none⟩ (.bool (((M:Int)+1+1+1+1+1) % 3 == 0))) (some g)):=⟨Z0.out.1,by rw [List.length_set];exact hT.out.1,takeS_set (by rw [hT.out.1,mkRuleL_len]) (by rw [mkRuleL_at m0 n k hlt,hM.out]) hT.out.2,Z0.out.2⟩
   clear Z0 hT hy0
   go_wp2
   go_roundw
   case rel=>exact ⟨k+1,M+6,_,by omega,by go_num,by go_num,(show M+6=m0+6 * (k+1) by have:=hM.out;omega),YY⟩
   case measure=>simp [intOf];omega
  ·obtain rfl:k=n:=by omega
   have e1:L'=mkRuleL m0 k:=by
    have:=X.out.2.2.1
    rwa [List.take_of_length_le (by rw [X.out.2.1];exact Nat.le_refl _),List.take_of_length_le (by rw [mkRuleL_len];exact Nat.le_refl _)] at this
   subst e1
   have hM2:=hM.out
   subst hM2
   go_wp2
   go_ret
   exact ⟨rfl,X.out.1,X.out.2.2.2⟩
structure RoX where
 r:RoleV
 ra:Option Addr
 rc:Nat
def RoX.sl (x:RoX):Value:=.slice x.ra x.r.rs.length x.rc
def roG (x:RoX):List Value:=[.string x.r.nm,.slice x.ra x.r.rs.length x.rc,.int .i64 x.r.q,.int .i64 x.r.m,.int .i64 x.r.i]
theorem roG_len (x:RoX):(roG x).length=5:=rfl
def ApB (v v':Value):Prop:=∀ k,v.ownBlock=some k→v'.ownBlock ≠ some k
theorem ApB.symm {v v':Value} (h:ApB v v'):ApB v' v:=fun k h1 h2=>h k h2 h1
theorem apB_of {α β:Type} {c:α→List Value} {c':β→List Value} {K K':Nat} {e e':TypeId} {w:World} {B B':Nat} {v u:Value} {xs:List α} {ys:List β} (o:OwnS c K e w B v xs) (o':OwnS c' K' e' w B' u ys) (hne:e ≠ e'):ApB v u:=by
 intro k hk hk'
 rcases o.2 with ⟨h1,_⟩ | ⟨g,cap,cur,h1,_,hg1,_⟩
 ·rw [h1] at hk;cases hk
 rcases o'.2 with ⟨h2,_⟩ | ⟨g',cap',cur',h2,_,hg2,_⟩
 ·rw [h2] at hk';cases hk'
 rw [h1] at hk
 rw [h2] at hk'
 have e1:g=k:=by simpa [Value.ownBlock] using hk
 have e2:g'=k:=by simpa [Value.ownBlock] using hk'
 subst e1;subst e2
 rw [hg1] at hg2
 cases hg2
 exact hne rfl
structure OwnRo (w:World) (B:Nat) (v:Value) (L:List RoX):Prop where
 row:OwnS roG 5 121 w B v L
 rules:∀ x,x ∈ L→OwnS rv 6 182 w B x.sl x.r.rs
 apart:L.Pairwise (fun x y=>ApB x.sl y.sl)
theorem ApB.kept {v v':Value} (h:ApB v v'):v.ownBlock=none ∨ v.ownBlock ≠ v'.ownBlock:=by
 cases hv:v.ownBlock with
 | none=>exact .inl rfl
 | some k=>exact .inr (fun e=>h k hv e.symm)
theorem OwnRo.now {w w':World} {B:Nat} {v:Value} {L:List RoX} (h:OwnRo w B v L) (hb:Below w.heap.size w w'):OwnRo w' B v L:=⟨h.row.now hb,fun x hx=>(h.rules x hx).now hb,h.apart⟩
theorem OwnRo.lower {w:World} {B B':Nat} {v:Value} {L:List RoX} (h:OwnRo w B v L) (hb:B'≤B):OwnRo w B' v L:=⟨h.row.lower hb,fun x hx=>(h.rules x hx).lower hb,h.apart⟩
def roBk (v:Value) (L:List RoX) (b:Nat):Prop:=v.ownBlock=some b ∨ ∃ x,x ∈ L∧x.sl.ownBlock=some b
theorem OwnRo.lt {w:World} {B:Nat} {v:Value} {L:List RoX} (h:OwnRo w B v L):∀ b,roBk v L b→B≤b∧b<w.heap.size:=by
 rintro b (hb | ⟨x,hx,hb⟩)
 ·exact h.row.lt b hb
 ·exact (h.rules x hx).lt b hb
theorem OwnRo.keepB {w w':World} {B:Nat} {v:Value} {L:List RoX} (h:OwnRo w B v L) (hk:∀ b,roBk v L b→w'.heap[b]?=w.heap[b]?):OwnRo w' B v L:=by
 have loc:∀ {e:TypeId} {K n:Nat} {v:Value} {F:List Value},w.ownsRow B e K v n F→(∀ k,v.ownBlock=some k→w'.heap[k]?=w.heap[k]?)→w'.ownsRow B e K v n F:=by
  intro e K n v F h hq
  refine ⟨h.1,?_⟩
  rcases h.2 with h' | ⟨g,cap,cur,h1,hB,hg,h4⟩
  ·exact .inl h'
  ·exact .inr ⟨g,cap,cur,h1,hB,by rw [hq g (by rw [h1];rfl)];exact hg,h4⟩
 exact ⟨loc h.row (fun k hk'=>hk k (.inl hk')),fun x hx=>loc (h.rules x hx) (fun k hk'=>hk k (.inr ⟨x,hx,hk'⟩)),h.apart⟩
theorem pair_set {L:List RoX} {k:Nat} {x y:RoX} (h:L.Pairwise (fun x y=>ApB x.sl y.sl)) (hx:L[k]?=some x) (hs:y.sl=x.sl):(L.set k y).Pairwise (fun x y=>ApB x.sl y.sl):=by
 have e:(L.set k y).map RoX.sl=L.map RoX.sl:=by
  rw [List.map_set,hs]
  have hk:=(List.getElem?_eq_some_iff.1 hx)
  refine List.ext_getElem? (fun i=>?_)
  by_cases hi:i=k
  ·subst hi
   rw [List.getElem?_set_self (by rw [List.length_map];exact hk.1),List.getElem?_map,hx];rfl
  ·rw [List.getElem?_set_ne (fun e=>hi e.symm)]
 have a:=List.pairwise_map.2 h
 rw [← e] at a
 exact List.pairwise_map.1 a
theorem roBk_set {v:Value} {L:List RoX} {k:Nat} {x y:RoX} (hx:L[k]?=some x) (hs:y.sl=x.sl) (b:Nat):roBk v (L.set k y) b ↔ roBk v L b:=by
 have hk:=(List.getElem?_eq_some_iff.1 hx)
 unfold roBk
 constructor
 ·rintro (h | ⟨z,hz,h⟩)
  ·exact .inl h
  ·rcases List.mem_or_eq_of_mem_set hz with h1 | h1
   ·exact .inr ⟨z,h1,h⟩
   ·subst h1;exact .inr ⟨x,List.mem_of_getElem? hx,by rw [← hs];exact h⟩
 ·rintro (h | ⟨z,hz,h⟩)
  ·exact .inl h
  ·obtain ⟨i,hi⟩:=List.getElem?_of_mem hz
   by_cases hik:i=k
   ·subst hik
    rw [hx] at hi;cases hi
    exact .inr ⟨y,List.mem_of_getElem? (List.getElem?_set_self hk.1),by rw [hs];exact h⟩
   ·exact .inr ⟨z,List.mem_of_getElem? (by rw [List.getElem?_set_ne (fun e=>hik e.symm)];exact hi),h⟩
theorem OwnRo.set1 {w:World} {B g n cap:Nat} {L:List RoX} (h:OwnRo w B (.slice (some ⟨g,0,none⟩) n cap) L) {k j:Nat} {x:RoX} (y:RoX) {u:Value} (hx:L[k]?=some x) (hj:j<5) (hy:roG y=(roG x).set j u) (hs:y.sl=x.sl) (hr:y.r.rs=x.r.rs) :
  OwnRo (w.setCell ⟨g,k * 5+j,none⟩ u) B (.slice (some ⟨g,0,none⟩) n cap) (L.set k y)∧w.grownBy (w.setCell ⟨g,k * 5+j,none⟩ u) (some g):=by
 have s:=h.row.set1 roG_len (j:=j) (y:=y) (u:=u) hx hj hy
 refine ⟨⟨s.1,fun z hz=>?_,pair_set h.apart hx hs⟩,s.2⟩
 have hz2:OwnS rv 6 182 w B z.sl z.r.rs:=by
  rcases List.mem_or_eq_of_mem_set hz with h1 | h1
  ·exact h.rules z h1
  ·subst h1;rw [hs,hr];exact h.rules x (List.mem_of_getElem? hx)
 exact hz2.kept s.2 ((apB_of hz2 h.row (by decide)).kept)
theorem OwnRo.setR {w w':World} {B:Nat} {v:Value} {L:List RoX} (h:OwnRo w B v L) {k:Nat} {x:RoX} (rs:List RuleV) (hx:L[k]?=some x) (hl:rs.length=x.r.rs.length) (hg:w.grownBy w' x.sl.ownBlock) (ho:OwnS rv 6 182 w' B x.sl rs) :
  OwnRo w' B v (L.set k { x with r:={ x.r with rs:=rs } }):=by
 have hs:({ x with r:={ x.r with rs:=rs } }:RoX).sl=x.sl:=by unfold RoX.sl;dsimp only;rw [hl]
 have hg1:roG { x with r:={ x.r with rs:=rs } }=roG x:=by unfold roG;dsimp only;rw [hl]
 have hfl:flatS roG (L.set k { x with r:={ x.r with rs:=rs } })=flatS roG L:=by
  have hk:=List.getElem?_eq_some_iff.1 hx
  obtain ⟨A,x',C,rfl,rfl⟩:∃ A x' C,L=A ++ x' :: C∧A.length=k:=⟨L.take k,L[k]'hk.1,L.drop (k+1),by simp,by have:=hk.1;simp;omega⟩
  have ex:x'=x:=by simpa using hx
  subst ex
  have e:(A ++ x' :: C).set A.length { x' with r:={ x'.r with rs:=rs } }=A ++ { x' with r:={ x'.r with rs:=rs } } :: C:=by simp
  rw [e,flatS_append,flatS_append,flatS_cons,flatS_cons,hg1]
 have hrow:OwnS roG 5 121 w' B v (L.set k { x with r:={ x.r with rs:=rs } }):=by
  have h1:=h.row.kept hg ((apB_of h.row (h.rules x (List.mem_of_getElem? hx)) (by decide)).kept)
  unfold OwnS at h1 ⊢
  rw [hfl,List.length_set]
  exact h1
 refine ⟨hrow,fun z hz=>?_,pair_set h.apart hx hs⟩
 obtain ⟨i,hi⟩:=List.getElem?_of_mem hz
 have hk:=(List.getElem?_eq_some_iff.1 hx)
 by_cases hik:i=k
 ·subst hik
  rw [List.getElem?_set_self hk.1] at hi
  cases hi
  rw [hs];exact ho
 ·rw [List.getElem?_set_ne (fun e=>hik e.symm)] at hi
  have hap:ApB z.sl x.sl:=by
   have hii:=(List.getElem?_eq_some_iff.1 hi)
   rcases Nat.lt_or_ge i k with hlt | hge
   ·have:=List.pairwise_iff_getElem.1 h.apart i k hii.1 hk.1 hlt
    rw [hii.2,hk.2] at this;exact this
   ·have:=List.pairwise_iff_getElem.1 h.apart k i hk.1 hii.1 (by omega)
    rw [hii.2,hk.2] at this;exact this.symm
  exact (h.rules z (List.mem_of_getElem? hi)).kept hg hap.kept
def roN:List RoX→Nat
 | []=>0
 | x :: L=>4+6 * x.r.rs.length+roN L
def mkRo (M:Nat) (x:RoX):RoX:={ x with r:=⟨mtS M,mkRuleL (M+1) x.r.rs.length,(M:Int)+1+6 * (x.r.rs.length:Int),(M:Int)+1+6 * (x.r.rs.length:Int)+1,(M:Int)+1+6 * (x.r.rs.length:Int)+1+1⟩ }
theorem mkRo_sl (M:Nat) (x:RoX):(mkRo M x).sl=x.sl:=by unfold mkRo RoX.sl;dsimp only;rw [mkRuleL_len]
def mkRoL (M:Nat):List RoX→List RoX
 | []=>[]
 | x :: L=>mkRo M x :: mkRoL (M+(4+6 * x.r.rs.length)) L
theorem roN_step:∀ {L:List RoX} {k:Nat} {x:RoX},L[k]?=some x→roN (L.take (k+1))=roN (L.take k)+(4+6 * x.r.rs.length)
 | [],k,x,h=>by simp at h
 | y :: L,0,x,h=>by simp at h;subst h;simp [roN]
 | y :: L,k+1,x,h=>by
  have:=roN_step (L:=L) (k:=k) (x:=x) (by simpa using h)
  simp only [List.take_succ_cons,roN]
  omega
theorem roN_le:∀ (L:List RoX) (k:Nat),roN (L.take k)≤roN L
 | [],k=>by simp [roN]
 | y :: L,0=>by simp [roN]
 | y :: L,k+1=>by
  have:=roN_le L k
  simp only [List.take_succ_cons,roN]
  omega
theorem mkRoL_len:∀ (L:List RoX) (M:Nat),(mkRoL M L).length=L.length
 | [],_=>rfl
 | x :: L,M=>by simp [mkRoL,mkRoL_len L]
theorem mkRoL_at:∀ {L:List RoX} {k M:Nat} {x:RoX},L[k]?=some x→(mkRoL M L)[k]?=some (mkRo (M+roN (L.take k)) x)
 | [],k,M,x,h=>by simp at h
 | y :: L,0,M,x,h=>by simp at h;subst h;simp [mkRoL,roN]
 | y :: L,k+1,M,x,h=>by
  have:=mkRoL_at (L:=L) (k:=k) (M:=M+(4+6 * y.r.rs.length)) (x:=x) (by simpa using h)
  simp only [mkRoL,List.getElem?_cons_succ,List.take_succ_cons,roN]
  rw [this]
  congr 2
  omega
def mixRo (M:Nat) (L:List RoX) (k:Nat):List RoX:=(mkRoL M L).take k ++ L.drop k
theorem mix_zero (M:Nat) (L:List RoX):mixRo M L 0=L:=by simp [mixRo]
theorem mix_all (M:Nat) (L:List RoX):mixRo M L L.length=mkRoL M L:=by
 unfold mixRo
 rw [List.drop_length,List.append_nil,List.take_of_length_le (by rw [mkRoL_len];exact Nat.le_refl _)]
theorem mix_at {M:Nat} {L:List RoX} {k:Nat} {x:RoX} (h:L[k]?=some x):(mixRo M L k)[k]?=some x:=by
 have hk:=(List.getElem?_eq_some_iff.1 h).1
 unfold mixRo
 rw [List.getElem?_append_right (by simp;omega)]
 have:k - ((mkRoL M L).take k).length=0:=by rw [List.length_take,mkRoL_len];omega
 rw [this,List.getElem?_drop,Nat.add_zero]
 exact h
theorem mix_step {M:Nat} {L:List RoX} {k:Nat} {x:RoX} (h:L[k]?=some x):(mixRo M L k).set k (mkRo (M+roN (L.take k)) x)=mixRo M L (k+1):=by
 have hk:=List.getElem?_eq_some_iff.1 h
 unfold mixRo
 rw [List.set_append_right _ _ (by have:=hk.1;simp;omega)]
 have:k - ((mkRoL M L).take k).length=0:=by have:=hk.1;rw [List.length_take,mkRoL_len];omega
 rw [this]
 have hd:L.drop k=x :: L.drop (k+1):=by rw [← hk.2];exact List.drop_eq_getElem_cons hk.1
 rw [hd,List.set_cons_zero,List.take_add_one,mkRoL_at h]
 simp
theorem mix_len (M:Nat) (L:List RoX) (k:Nat) (hk:k≤L.length):(mixRo M L k).length=L.length:=by
 unfold mixRo
 rw [List.length_append,List.length_take,mkRoL_len,List.length_drop];omega
theorem keep_grown {B:Nat→Prop} {w w1 w2:World} {r:Option Nat} (h:Rel.Keep B w w1) (hg:w1.grownBy w2 r) (hB:∀ b,B b→b<w1.heap.size∧some b ≠ r):Rel.Keep B w w2 :=
 ⟨hg.os.trans h.os,hg.tape.trans h.tape,hg.output.trans h.output,Nat.le_trans h.size hg.size,fun b hb=>(hg.block b (hB b hb).1 (hB b hb).2).trans (h.block b hb)⟩
set_option maxHeartbeats 4000000 in
theorem markRoleS_any (a:Option Addr) (n cap B m0:Nat) (L:List RoX) (w:World) (h:OwnRo w B (.slice a n cap) L) (h0:0<m0) (hm:m0+roN L≤100000000000) (hn9:n≤1048576) :
  Calls Tryz.prog 51 #[.slice a n cap,.int .i64 (m0:Int)] w fun e w'=>e=.returned (.int .i64 ((m0+roN L:Nat):Int))∧OwnRo w' B (.slice a n cap) (mkRoL m0 L)∧Rel.Keep (fun b=>b<w.heap.size∧¬ roBk (.slice a n cap) L b) w w':=by
 have H:Hid (OwnRo w B (.slice a n cap) (mixRo m0 L 0)):=by show OwnRo _ _ _ _;rw [mix_zero];exact h
 have hn:=h.row.len
 clear h
 go_enter Tryz.func51,Tryz.ntmps51
 go_wp2
 go_loopw [1,5] (fun m i wr=>∃ (k M:Nat),k≤n∧i=.int .i64 k∧m=.int .i64 (M:Int)∧Hid (M=m0+roN (L.take k))∧Hid (OwnRo wr B (.slice a n cap) (mixRo m0 L k)∧(∀ b,roBk (.slice a n cap) (mixRo m0 L k) b ↔ roBk (.slice a n cap) L b)∧Rel.Keep (fun b=>b<w.heap.size∧¬ roBk (.slice a n cap) L b) w wr)) (fun _ i _=>n - (intOf i).toNat)
 case atStart=>exact ⟨0,m0,Nat.zero_le _,rfl,rfl,by show m0=_;simp [roN],H.out,fun b=>by rw [mix_zero],Rel.Keep.refl _ _⟩
 case round =>
  clear H
  obtain ⟨k,M,hk,rfl,rfl,hM,X⟩:=hrel
  by_cases hlt:k<n
  ·have hkl:k<L.length:=by omega
   obtain ⟨x,hxL⟩:=at_of (xs:=L) rfl hkl
   have hx:(mixRo m0 L k)[k]?=some x:=mix_at hxL
   obtain ⟨g,rfl,hBg,hg,-⟩:=X.out.1.row.form (by rw [mix_len m0 L k (by omega)];omega)
   have hltz:(k:Int)<(n:Int):=by omega
   have hle:=roN_le L (k+1)
   have hst:=roN_step hxL
   have hMz:(M:Int)+6 * (x.r.rs.length:Int)+4≤200000000000:=by have:=hM.out;omega
   have hMn:M+1+6 * x.r.rs.length≤100000000000:=by have:=hM.out;omega
   have hM0:0<M:=by have:=hM.out;omega
   have HST:Hid ((mixRo m0 L k).set k (mkRo M x)=mixRo m0 L (k+1)):=by show _=_;rw [hM.out];exact mix_step hxL
   have HMN:Hid (M+(4+6 * x.r.rs.length)=m0+roN (L.take (k+1))):=by show _=_;rw [hst,hM.out];omega
   clear hle hst hxL
   generalize hLk:mixRo m0 L k=Lk at X hx HST
   clear hLk
   have HT:Hid (∀ w,Calls Tryz.prog 98 #[.int .i64 (M:Int)] w fun e w'=>e=.returned (.string (mtS M))∧Grw w w'):=fun w=>markText_any M w (by omega) (by omega)
   go_wp2_with fail
   refine (HT.out _).mono ?_
   rintro e wt ⟨rfl,gt⟩
   have ot:=X.out.1.now gt.below
   have RB:=X.out.2.1
   have KT:Hid (Rel.Keep (fun b=>b<w.heap.size∧¬ roBk (.slice (some ⟨g,0,none⟩) n cap) L b) w wt):=keep_grown X.out.2.2 (gt.grown none) (fun b hb=>⟨Nat.lt_of_lt_of_le hb.1 X.out.2.2.size,by simp⟩)
   clear HT gt X
   obtain ⟨c0,z0⟩:=ot.row.cell roG_len (j:=0) hx rfl
   replace c0:wt.cell? ⟨g,k * 5,none⟩=some (.string x.r.nm):=c0
   replace z0:wt.frozen? ⟨g,k * 5,none⟩=false:=z0
   have s0:=ot.set1 (j:=0) { x with r:={ x.r with nm:=mtS M } } (u:=.string (mtS M)) hx (by omega) rfl rfl rfl
   have hx0:(Lk.set k { x with r:={ x.r with nm:=mtS M } })[k]?=some { x with r:={ x.r with nm:=mtS M } }:=List.getElem?_set_self (List.getElem?_eq_some_iff.1 hx).1
   have RB0:∀ b,roBk (.slice (some ⟨g,0,none⟩) n cap) (Lk.set k { x with r:={ x.r with nm:=mtS M } }) b ↔ roBk (.slice (some ⟨g,0,none⟩) n cap) L b:=fun b=>(roBk_set (y:={ x with r:={ x.r with nm:=mtS M } }) hx rfl b).trans (RB b)
   have Y0:∀ W1,W1=wt.setCell ⟨g,k * 5,none⟩ (.string (mtS M))→OwnRo W1 B (.slice (some ⟨g,0,none⟩) n cap) (Lk.set k { x with r:={ x.r with nm:=mtS M } })∧Rel.Keep (fun b=>b<w.heap.size∧¬ roBk (.slice (some ⟨g,0,none⟩) n cap) L b) w W1:=by
    intro W1 hW1
    subst hW1
    exact ⟨s0.1,keep_grown KT.out s0.2 (fun b hb=>⟨Nat.lt_of_lt_of_le hb.1 KT.out.size,fun e=>hb.2 (.inl e.symm)⟩)⟩
   have Z0:Hid (OwnRo (wt.setCell ⟨g,k * 5,none⟩ (.string (mtS M))) B (.slice (some ⟨g,0,none⟩) n cap) (Lk.set k { x with r:={ x.r with nm:=mtS M } })∧Rel.Keep (fun b=>b<w.heap.size∧¬ roBk (.slice (some ⟨g,0,none⟩) n cap) L b) w (wt.setCell ⟨g,k * 5,none⟩ (.string (mtS M)))):=Y0 _ rfl
   obtain ⟨c1,z1⟩:=ot.row.cell roG_len (j:=1) hx rfl
   have HR:Hid (∀ W,OwnRo W B (.slice (some ⟨g,0,none⟩) n cap) (Lk.set k { x with r:={ x.r with nm:=mtS M } })→Calls Tryz.prog 99 #[.slice x.ra x.r.rs.length x.rc,.int .i64 ((M:Int)+1)] W fun e w'=>e=.returned (.int .i64 ((M:Int)+1+6 * (x.r.rs.length:Int)))∧OwnS rv 6 182 w' B x.sl (mkRuleL (M+1) x.r.rs.length)∧W.grownBy w' x.sl.ownBlock):=fun W hW=>by
    have hr0:=hW.rules _ (List.mem_of_getElem? hx0)
    have:=markRuleS_any x.ra x.r.rs.length x.rc B (M+1) x.r.rs W hr0 (by omega) hMn
    rw [show ((M+1:Nat):Int)=(M:Int)+1 by omega,show ((M+1+6 * x.r.rs.length:Nat):Int)=(M:Int)+1+6 * (x.r.rs.length:Int) by omega] at this
    exact this
   clear Y0 s0 ot KT
   go_wp2_with fail
   refine (HR.out _ Z0.out.1).mono ?_
   rintro e w2 ⟨rfl,o2,g2⟩
   have o3:=Z0.out.1.setR (mkRuleL (M+1) x.r.rs.length) hx0 (mkRuleL_len _ _) g2 o2
   rw [List.set_set] at o3
   have K2:Hid (Rel.Keep (fun b=>b<w.heap.size∧¬ roBk (.slice (some ⟨g,0,none⟩) n cap) L b) w w2):=keep_grown Z0.out.2 g2 (fun b hb=>⟨Nat.lt_of_lt_of_le hb.1 Z0.out.2.size,fun e=>hb.2 ((RB0 b).1 (.inr ⟨_,List.mem_of_getElem? hx0,e.symm⟩))⟩)
   have hx1:(Lk.set k { x with r:={ x.r with nm:=mtS M,rs:=mkRuleL (M+1) x.r.rs.length } })[k]?=some { x with r:={ x.r with nm:=mtS M,rs:=mkRuleL (M+1) x.r.rs.length } }:=List.getElem?_set_self (List.getElem?_eq_some_iff.1 hx).1
   have HXX:Hid (Lk[k]?=some x):=hx
   clear HR Z0 g2 o2 c0 z0 c1 z1 hx0 RB0 hx
   obtain ⟨K1,hK1⟩:∃ K1,(M:Int)+1+6 * (x.r.rs.length:Int)=K1:=⟨_,rfl⟩
   have hK1z:K1≤300000000000:=by omega
   have hK10:0≤K1:=by omega
   have HK1:Hid ((M:Int)+1+6 * (x.r.rs.length:Int)=K1):=hK1
   rw [hK1]
   clear hK1
   obtain ⟨c2,z2⟩:=o3.row.cell roG_len (j:=2) hx1 rfl
   obtain ⟨c3,z3⟩:=o3.row.cell roG_len (j:=3) hx1 rfl
   obtain ⟨c4,z4⟩:=o3.row.cell roG_len (j:=4) hx1 rfl
   have s2:=o3.set1 (j:=2) { x with r:=⟨mtS M,mkRuleL (M+1) x.r.rs.length,K1,x.r.m,x.r.i⟩ } (u:=.int .i64 K1) hx1 (by omega) rfl rfl rfl
   rw [List.set_set] at s2
   have hx2:(Lk.set k { x with r:=⟨mtS M,mkRuleL (M+1) x.r.rs.length,K1,x.r.m,x.r.i⟩ })[k]?=some { x with r:=⟨mtS M,mkRuleL (M+1) x.r.rs.length,K1,x.r.m,x.r.i⟩ }:=List.getElem?_set_self (List.getElem?_eq_some_iff.1 HXX.out).1
   have s3:=s2.1.set1 (j:=3) { x with r:=⟨mtS M,mkRuleL (M+1) x.r.rs.length,K1,K1+1,x.r.i⟩ } (u:=.int .i64 (K1+1)) hx2 (by omega) rfl rfl rfl
   rw [List.set_set] at s3
   have hx3:(Lk.set k { x with r:=⟨mtS M,mkRuleL (M+1) x.r.rs.length,K1,K1+1,x.r.i⟩ })[k]?=some { x with r:=⟨mtS M,mkRuleL (M+1) x.r.rs.length,K1,K1+1,x.r.i⟩ }:=List.getElem?_set_self (List.getElem?_eq_some_iff.1 HXX.out).1
   have s4:=s3.1.set1 (j:=4) { x with r:=⟨mtS M,mkRuleL (M+1) x.r.rs.length,K1,K1+1,K1+1+1⟩ } (u:=.int .i64 (K1+1+1)) hx3 (by omega) rfl rfl rfl
   rw [List.set_set] at s4
   have e4:({ x with r:=⟨mtS M,mkRuleL (M+1) x.r.rs.length,K1,K1+1,K1+1+1⟩ }:RoX)=mkRo M x:=by unfold mkRo;rw [HK1.out]
   rw [e4] at s4
   have Y4:∀ W1,W1=((w2.setCell ⟨g,k * 5+2,none⟩ (.int .i64 K1)).setCell ⟨g,k * 5+3,none⟩ (.int .i64 (K1+1))).setCell ⟨g,k * 5+4,none⟩ (.int .i64 (K1+1+1))→OwnRo W1 B (.slice (some ⟨g,0,none⟩) n cap) (mixRo m0 L (k+1))∧(∀ b,roBk (.slice (some ⟨g,0,none⟩) n cap) (mixRo m0 L (k+1)) b ↔ roBk (.slice (some ⟨g,0,none⟩) n cap) L b)∧Rel.Keep (fun b=>b<w.heap.size∧¬ roBk (.slice (some ⟨g,0,none⟩) n cap) L b) w W1:=by
    intro W1 hW1
    subst hW1
    rw [HST.out] at s4
    refine ⟨s4.1,fun b=>?_,keep_grown K2.out (grown_tr (grown_tr s2.2 s3.2) s4.2) (fun b hb=>⟨Nat.lt_of_lt_of_le hb.1 K2.out.size,fun e=>hb.2 (.inl e.symm)⟩)⟩
    rw [← HST.out]
    exact (roBk_set HXX.out (mkRo_sl M x) b).trans (RB b)
   have Z4:Hid (OwnRo (((w2.setCell ⟨g,k * 5+2,none⟩ (.int .i64 K1)).setCell ⟨g,k * 5+3,none⟩ (.int .i64 (K1+1))).setCell ⟨g,k * 5+4,none⟩ (.int .i64 (K1+1+1))) B (.slice (some ⟨g,0,none⟩) n cap) (mixRo m0 L (k+1))∧(∀ b,roBk (.slice (some ⟨g,0,none⟩) n cap) (mixRo m0 L (k+1)) b ↔ roBk (.slice (some ⟨g,0,none⟩) n cap) L b)∧Rel.Keep (fun b=>b<w.heap.size∧¬ roBk (.slice (some ⟨g,0,none⟩) n cap) L b) w (((w2.setCell ⟨g,k * 5+2,none⟩ (.int .i64 K1)).setCell ⟨g,k * 5+3,none⟩ (.int .i64 (K1+1))).setCell ⟨g,k * 5+4,none⟩ (.int .i64 (K1+1+1)))):=Y4 _ rfl
   clear Y4 s2 s3 s4 e4 hx1 hx2 hx3 o3 K2 RB HXX HST
   go_wp2
   go_roundw
   case rel=>exact ⟨k+1,M+(4+6 * x.r.rs.length),by omega,by go_num,by rw [show ((M+(4+6 * x.r.rs.length):Nat):Int)=K1+1+1+1 by have:=HK1.out;omega],HMN,Z4⟩
   case measure=>simp [intOf];omega
  ·obtain rfl:k=n:=by omega
   have hM2:=hM.out
   rw [← hn,List.take_length] at hM2
   subst hM2
   have Z:=X.out
   rw [← hn,mix_all] at Z
   go_wp2
   go_ret
   exact ⟨rfl,by rw [← hn];exact Z.1,by rw [← hn];exact Z.2.2⟩
def cfBk (vp vr:Value) (L:List RoX) (k:Nat):Prop:=vp.ownBlock=some k ∨ roBk vr L k
set_option maxHeartbeats 4000000 in
theorem markConfig_any (ip b gt:Int) (gm wm:ByteArray) (rs:Int) (x y:Option Addr) (lenx capx leny capy:Nat) (ps:List PlaceV) (L:List RoX) (B m0:Nat) (w:World) (h:OwnS pv 4 126 w B (.slice x lenx capx) ps) (h2:OwnRo w B (.slice y leny capy) L) (h0:0<m0) (hm:m0+4 * lenx+roN L≤100000000000) (hy:leny≤1048576) :
  Calls Tryz.prog 12 #[.agg #[.int .i64 ip,.int .i64 b,.int .i64 gt,.string gm,.string wm,.int .i64 rs,.slice x lenx capx,.slice y leny capy],.int .i64 (m0:Int)] w fun e w'=>e=.returned (.int .i64 ((m0+4 * lenx+roN L:Nat):Int))∧OwnS pv 4 126 w' B (.slice x lenx capx) (mkPlaceL m0 lenx)∧OwnRo w' B (.slice y leny capy) (mkRoL (m0+4 * lenx) L)∧Rel.Keep (fun k=>k<w.heap.size∧¬ cfBk (.slice x lenx capx) (.slice y leny capy) L k) w w':=by
 have al:Below w.heap.size w (w.alloc (.cells #[.int .i64 ip,.int .i64 b,.int .i64 gt,.string gm,.string wm,.int .i64 rs,.slice x lenx capx,.slice y leny capy] 48)):=(Below.refl _ _).alloc (Nat.le_refl _) _
 have G0:Hid (Bx (w.alloc (.cells #[.int .i64 ip,.int .i64 b,.int .i64 gt,.string gm,.string wm,.int .i64 rs,.slice x lenx capx,.slice y leny capy] 48)) w.heap.size [.int .i64 ip,.int .i64 b,.int .i64 gt,.string gm,.string wm,.int .i64 rs,.slice x lenx capx,.slice y leny capy]):=Bx.new w #[.int .i64 ip,.int .i64 b,.int .i64 gt,.string gm,.string wm,.int .i64 rs,.slice x lenx capx,.slice y leny capy] 48
 have hp:=h.now al
 have hr:=h2.now al
 have ap:∀ k,(Value.slice x lenx capx).ownBlock=some k→¬ roBk (.slice y leny capy) L k:=by
  rintro k hk (hb | ⟨z,hz,hb⟩)
  ·exact apB_of h h2.row (by decide) k hk hb
  ·exact apB_of h (h2.rules z hz) (by decide) k hk hb
 have HP:Hid (Calls Tryz.prog 50 #[.slice x lenx capx,.int .i64 (m0:Int)] (w.alloc (.cells #[.int .i64 ip,.int .i64 b,.int .i64 gt,.string gm,.string wm,.int .i64 rs,.slice x lenx capx,.slice y leny capy] 48)) fun e w'=>e=.returned (.int .i64 ((m0+4 * lenx:Nat):Int))∧OwnS pv 4 126 w' B (.slice x lenx capx) (mkPlaceL m0 lenx)∧(w.alloc (.cells #[.int .i64 ip,.int .i64 b,.int .i64 gt,.string gm,.string wm,.int .i64 rs,.slice x lenx capx,.slice y leny capy] 48)).grownBy w' (Value.slice x lenx capx).ownBlock):=markPlaceS_any x lenx capx B m0 ps _ hp h0 (by omega)
 have HR:Hid (∀ W,OwnRo W B (.slice y leny capy) L→Calls Tryz.prog 51 #[.slice y leny capy,.int .i64 ((m0+4 * lenx:Nat):Int)] W fun e w'=>e=.returned (.int .i64 ((m0+4 * lenx+roN L:Nat):Int))∧OwnRo w' B (.slice y leny capy) (mkRoL (m0+4 * lenx) L)∧Rel.Keep (fun b=>b<W.heap.size∧¬ roBk (.slice y leny capy) L b) W w'):=fun W hW=>markRoleS_any y leny capy B (m0+4 * lenx) L W hW (by omega) (by omega) hy
 obtain ⟨pb,hpb⟩:∃ pb,(Value.slice x lenx capx).ownBlock=pb:=⟨_,rfl⟩
 have hlt:∀ k,pb=some k→k<w.heap.size:=fun k hk=>(h.lt k (by rw [hpb];exact hk)).2
 generalize hn1:((m0+4 * lenx:Nat):Int)=n1 at HP HR
 generalize hn2:((m0+4 * lenx+roN L:Nat):Int)=n2 at HR ⊢
 clear hn1 hn2 h h2 h0 hm
 go_enter Tryz.func12,Tryz.ntmps12
 go_wp2_with fail
 refine HP.out.mono ?_
 rintro e w1 ⟨rfl,o1,g1⟩
 have r1:OwnRo w1 B (.slice y leny capy) L:=hr.keepB (fun k hk=>g1.block k (hr.lt k hk).2 (fun e=>ap k e.symm hk))
 have c7:w1.cell? ⟨w.heap.size,7,none⟩=some (.slice y leny capy):=by
  have h7:=G0.out.cell 7 rfl
  have e:w1.heap[w.heap.size]?=(w.alloc (.cells #[.int .i64 ip,.int .i64 b,.int .i64 gt,.string gm,.string wm,.int .i64 rs,.slice x lenx capx,.slice y leny capy] 48)).heap[w.heap.size]?:=g1.block _ (by simp) (fun e=>by rw [hpb] at e;have:=hlt _ e.symm;omega)
  unfold World.cell? at h7 ⊢
  rw [show w1.heap[(⟨w.heap.size,7,none⟩:Addr).block]?=(w.alloc (.cells #[.int .i64 ip,.int .i64 b,.int .i64 gt,.string gm,.string wm,.int .i64 rs,.slice x lenx capx,.slice y leny capy] 48)).heap[(⟨w.heap.size,7,none⟩:Addr).block]? from e]
  exact h7
 have K1:Hid (Rel.Keep (fun k=>k<w.heap.size∧¬ cfBk (.slice x lenx capx) (.slice y leny capy) L k) w w1):=keep_grown (Rel.Keep.mono ⟨al.os,al.tape,al.output,al.size,al.block⟩ (fun k hk=>hk.1)) g1 (fun k hk=>⟨by have:=al.size;exact Nat.lt_of_lt_of_le hk.1 this,fun e=>hk.2 (.inl e.symm)⟩)
 have O1:Hid (OwnS pv 4 126 w1 B (.slice x lenx capx) (mkPlaceL m0 lenx)):=o1
 have A1:Hid (w.heap.size≤w1.heap.size):=Nat.le_trans al.size g1.size
 have AP:Hid (∀ k,(Value.slice x lenx capx).ownBlock=some k→¬ roBk (.slice y leny capy) L k):=ap
 clear HP hp hr g1 o1 G0 al ap hlt
 go_wp2_with fail
 refine (HR.out _ r1).mono ?_
 rintro e w2 ⟨rfl,r2,k2⟩
 have FIN:Hid (OwnS pv 4 126 w2 B (.slice x lenx capx) (mkPlaceL m0 lenx)∧OwnRo w2 B (.slice y leny capy) (mkRoL (m0+4 * lenx) L)∧Rel.Keep (fun k=>k<w.heap.size∧¬ cfBk (.slice x lenx capx) (.slice y leny capy) L k) w w2):=by
  refine ⟨?_,r2,K1.out.trans (Rel.Keep.mono k2 (fun k hk=>⟨Nat.lt_of_lt_of_le hk.1 A1.out,fun h=>hk.2 (.inr h)⟩))⟩
  have o:=O1.out
  refine ⟨o.1,?_⟩
  rcases o.2 with h' | ⟨g,cap,cur,h1,hB,hg,h4⟩
  ·exact .inl h'
  ·refine .inr ⟨g,cap,cur,h1,hB,?_,h4⟩
   rw [k2.block g ⟨(Array.getElem?_eq_some_iff.1 hg).1,AP.out g (by rw [h1];rfl)⟩]
   exact hg
 clear r1 r2 k2 K1 O1 AP A1 HR c7 hpb
 go_wp2
 go_ret
 exact ⟨rfl,FIN.out⟩
structure UserV where
 nm:ByteArray
 sa:ByteArray
 ha:ByteArray
 ro:ByteArray
 bl:Int
 lg:Int
instance:Inhabited UserV:=⟨⟨⟨#[]⟩,⟨#[]⟩,⟨#[]⟩,⟨#[]⟩,0,0⟩⟩
def uvG (u:UserV):List Value:=[.string u.nm,.string u.sa,.string u.ha,.string u.ro,.int .i64 u.bl,.int .i64 u.lg]
def UsRok (u:UserV):Prop:=u.nm.size≤maxLen∧u.sa.size≤maxLen∧u.ha.size≤maxLen∧u.ro.size≤maxLen∧(Lit.int .i64 u.bl).wf=true∧(Lit.int .i64 u.lg).wf=true
def UsR (w:World) (u:UserV) (vs:List Value):Prop:=vs=uvG u∧UsRok u
theorem UsR.kp:Kp UsR:=fun _ _ _ _ h _=>h
structure SessV where
 id:Int
 us:Int
 mc:ByteArray
 ip:Int
 be:Int
 la:Int
 ud:Int
 qu:Int
 un:Int
 il:Int
instance:Inhabited SessV:=⟨⟨0,0,⟨#[]⟩,0,0,0,0,0,0,0⟩⟩
def svG (u:SessV):List Value:=[.int .i64 u.id,.int .i64 u.us,.string u.mc,.int .i64 u.ip,.int .i64 u.be,.int .i64 u.la,.int .i64 u.ud,.int .i64 u.qu,.int .i64 u.un,.int .i64 u.il]
def SeRok (u:SessV):Prop:=(Lit.int .i64 u.id).wf=true∧(Lit.int .i64 u.us).wf=true∧u.mc.size≤maxLen∧(Lit.int .i64 u.ip).wf=true∧(Lit.int .i64 u.be).wf=true∧(Lit.int .i64 u.la).wf=true∧(Lit.int .i64 u.ud).wf=true∧(Lit.int .i64 u.qu).wf=true∧(Lit.int .i64 u.un).wf=true∧(Lit.int .i64 u.il).wf=true
def SeR (w:World) (u:SessV) (vs:List Value):Prop:=vs=svG u∧SeRok u
theorem SeR.kp:Kp SeR:=fun _ _ _ _ h _=>h
structure FailV where
 mc:ByteArray
 ct:Int
 un:Int
instance:Inhabited FailV:=⟨⟨⟨#[]⟩,0,0⟩⟩
def fvG (u:FailV):List Value:=[.string u.mc,.int .i64 u.ct,.int .i64 u.un]
def FaRok (u:FailV):Prop:=u.mc.size≤maxLen∧(Lit.int .i64 u.ct).wf=true∧(Lit.int .i64 u.un).wf=true
def FaR (w:World) (u:FailV) (vs:List Value):Prop:=vs=fvG u∧FaRok u
theorem FaR.kp:Kp FaR:=fun _ _ _ _ h _=>h
structure RecV where
 id:Int
 tm:Int
 ca:Int
 bt:Int
 st:Bool
instance:Inhabited RecV:=⟨⟨0,0,0,0,false⟩⟩
def evG (u:RecV):List Value:=[.int .i64 u.id,.int .i64 u.tm,.int .i64 u.ca,.int .i64 u.bt,.bool u.st]
def ReRok (u:RecV):Prop:=(Lit.int .i64 u.id).wf=true∧(Lit.int .i64 u.tm).wf=true∧(Lit.int .i64 u.ca).wf=true∧(Lit.int .i64 u.bt).wf=true
def ReR (w:World) (u:RecV) (vs:List Value):Prop:=vs=evG u∧ReRok u
theorem ReR.kp:Kp ReR:=fun _ _ _ _ h _=>h
section OpnG
variable {H:Type} {enc:TypeId × Value→H} {w:World} {base:Nat} {spare:Nat→Bool} {held:Bool} {fuel:Nat} {cs:List Value} {x:DataW H × List MemPlace}
theorem gis3 {α:Type} {cs:List α} (h:cs.length=3):∃ c0 c1 c2,cs=[c0,c1,c2]:=by
 match cs,h with
 | [c0,c1,c2],_=>exact ⟨c0,c1,c2,rfl⟩
theorem gis5 {α:Type} {cs:List α} (h:cs.length=5):∃ c0 c1 c2 c3 c4,cs=[c0,c1,c2,c3,c4]:=by
 match cs,h with
 | [c0,c1,c2,c3,c4],_=>exact ⟨c0,c1,c2,c3,c4,rfl⟩
theorem gis6 {α:Type} {cs:List α} (h:cs.length=6):∃ c0 c1 c2 c3 c4 c5,cs=[c0,c1,c2,c3,c4,c5]:=by
 match cs,h with
 | [c0,c1,c2,c3,c4,c5],_=>exact ⟨c0,c1,c2,c3,c4,c5,rfl⟩
theorem gis10 {α:Type} {cs:List α} (h:cs.length=10):∃ c0 c1 c2 c3 c4 c5 c6 c7 c8 c9,cs=[c0,c1,c2,c3,c4,c5,c6,c7,c8,c9]:=by
 match cs,h with
 | [c0,c1,c2,c3,c4,c5,c6,c7,c8,c9],_=>exact ⟨c0,c1,c2,c3,c4,c5,c6,c7,c8,c9,rfl⟩
theorem gl_User:Tryz.prog.cellsOf 105=6:=by kernel_rfl
theorem gl_sUser:Tryz.prog.cellsOf 28=1:=by kernel_rfl
theorem gl_Session:Tryz.prog.cellsOf 107=10:=by kernel_rfl
theorem gl_sSession:Tryz.prog.cellsOf 29=1:=by kernel_rfl
theorem gl_Fail:Tryz.prog.cellsOf 110=3:=by kernel_rfl
theorem gl_sFail:Tryz.prog.cellsOf 30=1:=by kernel_rfl
theorem gl_Record:Tryz.prog.cellsOf 136=5:=by kernel_rfl
theorem gl_sRecord:Tryz.prog.cellsOf 31=1:=by kernel_rfl
theorem gl_Guests:Tryz.prog.cellsOf 33=5:=by kernel_rfl
theorem gl_int:Tryz.prog.cellsOf 3=1:=by kernel_rfl
theorem gl_string:Tryz.prog.cellsOf 9=1:=by kernel_rfl
theorem gl_bool:Tryz.prog.cellsOf 4=1:=by kernel_rfl
theorem open_user (h:DataW.trod enc Tryz.prog w base spare held fuel 105 cs=some x):∃ d,UsR w d cs:=by
 obtain ⟨xs,m,_,_,hcl,hlen,hfld⟩:=DataW.trod_struct Tryz.underlying105 h
 rw [gl_User] at hcl
 obtain ⟨c0,c1,c2,c3,c4,c5,rfl⟩:=gis6 hcl
 replace hlen:xs.length=6:=hlen
 have e0:=hfld 0 _ rfl
 rw [List.getElem?_eq_getElem (by omega)] at e0
 obtain ⟨a0,q0,_,w0⟩:=DataW.trod_string Tryz.underlying9 e0
 simp [gl_string] at q0
 subst q0
 have e1:=hfld 1 _ rfl
 rw [List.getElem?_eq_getElem (by omega)] at e1
 obtain ⟨a1,q1,_,w1⟩:=DataW.trod_string Tryz.underlying9 e1
 simp [gl_string] at q1
 subst q1
 have e2:=hfld 2 _ rfl
 rw [List.getElem?_eq_getElem (by omega)] at e2
 obtain ⟨a2,q2,_,w2⟩:=DataW.trod_string Tryz.underlying9 e2
 simp [gl_string] at q2
 subst q2
 have e3:=hfld 3 _ rfl
 rw [List.getElem?_eq_getElem (by omega)] at e3
 obtain ⟨a3,q3,_,w3⟩:=DataW.trod_string Tryz.underlying9 e3
 simp [gl_string] at q3
 subst q3
 have e4:=hfld 4 _ rfl
 rw [List.getElem?_eq_getElem (by omega)] at e4
 obtain ⟨a4,q4,_,w4⟩:=DataW.trod_int Tryz.underlying3 e4
 simp [gl_int] at q4
 subst q4
 have e5:=hfld 5 _ rfl
 rw [List.getElem?_eq_getElem (by omega)] at e5
 obtain ⟨a5,q5,_,w5⟩:=DataW.trod_int Tryz.underlying3 e5
 simp [gl_int] at q5
 subst q5
 exact ⟨⟨a0,a1,a2,a3,a4,a5⟩,rfl,w0,w1,w2,w3,w4,w5⟩
theorem open_users (h:DataW.trod enc Tryz.prog w base spare held fuel 28 cs=some x):∃ (a:Option Addr) (len cap:Nat) (xs:List UserV),cs=[.slice a len cap]∧xs.length=len∧len≤cap∧cap≤maxLen∧(a=none→cap=0)∧Rw UsR 6 w a xs :=
 rows_of UsR 6 Tryz.underlying28 gl_User (by omega) (fun _ _ _ h=>open_user h) h
theorem open_session (h:DataW.trod enc Tryz.prog w base spare held fuel 107 cs=some x):∃ d,SeR w d cs:=by
 obtain ⟨xs,m,_,_,hcl,hlen,hfld⟩:=DataW.trod_struct Tryz.underlying107 h
 rw [gl_Session] at hcl
 obtain ⟨c0,c1,c2,c3,c4,c5,c6,c7,c8,c9,rfl⟩:=gis10 hcl
 replace hlen:xs.length=10:=hlen
 have e0:=hfld 0 _ rfl
 rw [List.getElem?_eq_getElem (by omega)] at e0
 obtain ⟨a0,q0,_,w0⟩:=DataW.trod_int Tryz.underlying3 e0
 simp [gl_int] at q0
 subst q0
 have e1:=hfld 1 _ rfl
 rw [List.getElem?_eq_getElem (by omega)] at e1
 obtain ⟨a1,q1,_,w1⟩:=DataW.trod_int Tryz.underlying3 e1
 simp [gl_int] at q1
 subst q1
 have e2:=hfld 2 _ rfl
 rw [List.getElem?_eq_getElem (by omega)] at e2
 obtain ⟨a2,q2,_,w2⟩:=DataW.trod_string Tryz.underlying9 e2
 simp [gl_string] at q2
 subst q2
 have e3:=hfld 3 _ rfl
 rw [List.getElem?_eq_getElem (by omega)] at e3
 obtain ⟨a3,q3,_,w3⟩:=DataW.trod_int Tryz.underlying3 e3
 simp [gl_int] at q3
 subst q3
 have e4:=hfld 4 _ rfl
 rw [List.getElem?_eq_getElem (by omega)] at e4
 obtain ⟨a4,q4,_,w4⟩:=DataW.trod_int Tryz.underlying3 e4
 simp [gl_int] at q4
 subst q4
 have e5:=hfld 5 _ rfl
 rw [List.getElem?_eq_getElem (by omega)] at e5
 obtain ⟨a5,q5,_,w5⟩:=DataW.trod_int Tryz.underlying3 e5
 simp [gl_int] at q5
 subst q5
 have e6:=hfld 6 _ rfl
 rw [List.getElem?_eq_getElem (by omega)] at e6
 obtain ⟨a6,q6,_,w6⟩:=DataW.trod_int Tryz.underlying3 e6
 simp [gl_int] at q6
 subst q6
 have e7:=hfld 7 _ rfl
 rw [List.getElem?_eq_getElem (by omega)] at e7
 obtain ⟨a7,q7,_,w7⟩:=DataW.trod_int Tryz.underlying3 e7
 simp [gl_int] at q7
 subst q7
 have e8:=hfld 8 _ rfl
 rw [List.getElem?_eq_getElem (by omega)] at e8
 obtain ⟨a8,q8,_,w8⟩:=DataW.trod_int Tryz.underlying3 e8
 simp [gl_int] at q8
 subst q8
 have e9:=hfld 9 _ rfl
 rw [List.getElem?_eq_getElem (by omega)] at e9
 obtain ⟨a9,q9,_,w9⟩:=DataW.trod_int Tryz.underlying3 e9
 simp [gl_int] at q9
 subst q9
 exact ⟨⟨a0,a1,a2,a3,a4,a5,a6,a7,a8,a9⟩,rfl,w0,w1,w2,w3,w4,w5,w6,w7,w8,w9⟩
theorem open_sessions (h:DataW.trod enc Tryz.prog w base spare held fuel 29 cs=some x):∃ (a:Option Addr) (len cap:Nat) (xs:List SessV),cs=[.slice a len cap]∧xs.length=len∧len≤cap∧cap≤maxLen∧(a=none→cap=0)∧Rw SeR 10 w a xs :=
 rows_of SeR 10 Tryz.underlying29 gl_Session (by omega) (fun _ _ _ h=>open_session h) h
theorem open_fail (h:DataW.trod enc Tryz.prog w base spare held fuel 110 cs=some x):∃ d,FaR w d cs:=by
 obtain ⟨xs,m,_,_,hcl,hlen,hfld⟩:=DataW.trod_struct Tryz.underlying110 h
 rw [gl_Fail] at hcl
 obtain ⟨c0,c1,c2,rfl⟩:=gis3 hcl
 replace hlen:xs.length=3:=hlen
 have e0:=hfld 0 _ rfl
 rw [List.getElem?_eq_getElem (by omega)] at e0
 obtain ⟨a0,q0,_,w0⟩:=DataW.trod_string Tryz.underlying9 e0
 simp [gl_string] at q0
 subst q0
 have e1:=hfld 1 _ rfl
 rw [List.getElem?_eq_getElem (by omega)] at e1
 obtain ⟨a1,q1,_,w1⟩:=DataW.trod_int Tryz.underlying3 e1
 simp [gl_int] at q1
 subst q1
 have e2:=hfld 2 _ rfl
 rw [List.getElem?_eq_getElem (by omega)] at e2
 obtain ⟨a2,q2,_,w2⟩:=DataW.trod_int Tryz.underlying3 e2
 simp [gl_int] at q2
 subst q2
 exact ⟨⟨a0,a1,a2⟩,rfl,w0,w1,w2⟩
theorem open_fails (h:DataW.trod enc Tryz.prog w base spare held fuel 30 cs=some x):∃ (a:Option Addr) (len cap:Nat) (xs:List FailV),cs=[.slice a len cap]∧xs.length=len∧len≤cap∧cap≤maxLen∧(a=none→cap=0)∧Rw FaR 3 w a xs :=
 rows_of FaR 3 Tryz.underlying30 gl_Fail (by omega) (fun _ _ _ h=>open_fail h) h
theorem open_record (h:DataW.trod enc Tryz.prog w base spare held fuel 136 cs=some x):∃ d,ReR w d cs:=by
 obtain ⟨xs,m,_,_,hcl,hlen,hfld⟩:=DataW.trod_struct Tryz.underlying136 h
 rw [gl_Record] at hcl
 obtain ⟨c0,c1,c2,c3,c4,rfl⟩:=gis5 hcl
 replace hlen:xs.length=5:=hlen
 have e0:=hfld 0 _ rfl
 rw [List.getElem?_eq_getElem (by omega)] at e0
 obtain ⟨a0,q0,_,w0⟩:=DataW.trod_int Tryz.underlying3 e0
 simp [gl_int] at q0
 subst q0
 have e1:=hfld 1 _ rfl
 rw [List.getElem?_eq_getElem (by omega)] at e1
 obtain ⟨a1,q1,_,w1⟩:=DataW.trod_int Tryz.underlying3 e1
 simp [gl_int] at q1
 subst q1
 have e2:=hfld 2 _ rfl
 rw [List.getElem?_eq_getElem (by omega)] at e2
 obtain ⟨a2,q2,_,w2⟩:=DataW.trod_int Tryz.underlying3 e2
 simp [gl_int] at q2
 subst q2
 have e3:=hfld 3 _ rfl
 rw [List.getElem?_eq_getElem (by omega)] at e3
 obtain ⟨a3,q3,_,w3⟩:=DataW.trod_int Tryz.underlying3 e3
 simp [gl_int] at q3
 subst q3
 have e4:=hfld 4 _ rfl
 rw [List.getElem?_eq_getElem (by omega)] at e4
 obtain ⟨a4,q4,_⟩:=DataW.trod_bool Tryz.underlying4 e4
 simp [gl_bool] at q4
 subst q4
 exact ⟨⟨a0,a1,a2,a3,a4⟩,rfl,w0,w1,w2,w3⟩
theorem open_records (h:DataW.trod enc Tryz.prog w base spare held fuel 31 cs=some x):∃ (a:Option Addr) (len cap:Nat) (xs:List RecV),cs=[.slice a len cap]∧xs.length=len∧len≤cap∧cap≤maxLen∧(a=none→cap=0)∧Rw ReR 5 w a xs :=
 rows_of ReR 5 Tryz.underlying31 gl_Record (by omega) (fun _ _ _ h=>open_record h) h
theorem open_guests (h:DataW.trod enc Tryz.prog w base spare held fuel 33 cs=some x):∃ (ua sa fa ra:Option Addr) (ul uc sl sc fl fc rl rc:Nat) (us:List UserV) (ss:List SessV) (fs:List FailV) (rs:List RecV) (nx:Int),cs=[.slice ua ul uc,.slice sa sl sc,.slice fa fl fc,.slice ra rl rc,.int .i64 nx]∧(us.length=ul∧ul≤uc∧uc≤maxLen∧Rw UsR 6 w ua us)∧(ss.length=sl∧sl≤sc∧sc≤maxLen∧Rw SeR 10 w sa ss)∧(fs.length=fl∧fl≤fc∧fc≤maxLen∧Rw FaR 3 w fa fs)∧(rs.length=rl∧rl≤rc∧rc≤maxLen∧Rw ReR 5 w ra rs)∧(Lit.int .i64 nx).wf=true:=by
 obtain ⟨xs,m,_,_,hcl,hlen,hfld⟩:=DataW.trod_struct Tryz.underlying33 h
 rw [gl_Guests] at hcl
 obtain ⟨c0,c1,c2,c3,c4,rfl⟩:=gis5 hcl
 replace hlen:xs.length=5:=hlen
 have e0:=hfld 0 _ rfl
 rw [List.getElem?_eq_getElem (by omega)] at e0
 obtain ⟨a0,len0,cap0,xs0,q0,l0,lc0,cm0,_,r0⟩:=open_users e0
 simp [gl_sUser] at q0
 subst q0
 have e1:=hfld 1 _ rfl
 rw [List.getElem?_eq_getElem (by omega)] at e1
 obtain ⟨a1,len1,cap1,xs1,q1,l1,lc1,cm1,_,r1⟩:=open_sessions e1
 simp [gl_sSession] at q1
 subst q1
 have e2:=hfld 2 _ rfl
 rw [List.getElem?_eq_getElem (by omega)] at e2
 obtain ⟨a2,len2,cap2,xs2,q2,l2,lc2,cm2,_,r2⟩:=open_fails e2
 simp [gl_sFail] at q2
 subst q2
 have e3:=hfld 3 _ rfl
 rw [List.getElem?_eq_getElem (by omega)] at e3
 obtain ⟨a3,len3,cap3,xs3,q3,l3,lc3,cm3,_,r3⟩:=open_records e3
 simp [gl_sRecord] at q3
 subst q3
 have e4:=hfld 4 _ rfl
 rw [List.getElem?_eq_getElem (by omega)] at e4
 obtain ⟨a4,q4,_,w4⟩:=DataW.trod_int Tryz.underlying3 e4
 simp [gl_int] at q4
 subst q4
 exact ⟨_,_,_,_,_,_,_,_,_,_,_,_,_,_,_,_,_,rfl,⟨l0,lc0,cm0,r0⟩,⟨l1,lc1,cm1,r1⟩,⟨l2,lc2,cm2,r2⟩,⟨l3,lc3,cm3,r3⟩,w4⟩
end OpnG
theorem Tryz.infoB:(Tryz.prog.info? 5).map (fun i=>(i.zero,i.size,i.bytes))=some (some (.int .u8 0),1,1):=by kernel_rfl
end Go.Proofs.YtojcakkkakmniaaGreatDoor
