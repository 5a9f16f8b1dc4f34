/- Places and rules copied by the laws into rows of one's own. Boxes: stores of one cell. Nothing of the program is used. Roles copied by the laws into rows of one's own. Configurations copied by the laws into rows of one's own, and marked. What the laws do with a config, in packed words. Guests copied by the laws into rows of one's own. What the laws do with guests, in packed words. Flows as values. Flows that come in as an argument, opened. Connections and segments as values. Connections that come in as an argument, opened. Gateways as values; one that comes in as an argument, opened. Lists of flows and connections marked and held. Gateways of one's own: where their rows lie, and what is marked. -/
import Derived.Test.YtbeehlhcckndcaaGreatK1
import Derived.Test.YtbeehlhcckndcaaGreatK10
import Derived.Test.YtbeehlhcckndcaaGreatK0
import Derived.Test.YtbeehlhcckndcaaGreatK8
import Derived.Test.YtbeehlhcckndcaaGreatK3
import Derived.Test.YtbeehlhcckndcaaGreatProg
namespace Go.Proofs.YtbeehlhcckndcaaGreat
open Go.RowKit Go.PlainAid Go.Proofs.YtbeehlhcckndcaaGreat.Bt Go.Sort
set_option linter.unusedVariables false
set_option maxRecDepth 20000
theorem zPlace:#[.int .i64 0,.int .i64 0,.int .i64 0,.int .i64 0].toList=pv default:=rfl
set_option maxHeartbeats 4000000 in
theorem toPlaceS_own (a:Option Addr) (len cap:Nat) (xs:List PlaceV) (w:World) (h:Rw PlR 4 w a xs) (hl:xs.length=len) (hc:len≤1048576) :
  Calls Tryz.prog 31 #[.slice a len cap] w fun e w'=>e=.returned (.slice (some ⟨w.heap.size,0,none⟩) len len)∧OwnS pv 4 135 w' w.heap.size (.slice (some ⟨w.heap.size,0,none⟩) len len) xs∧(∀ x,x ∈ xs→PlRok x)∧Below w.heap.size w w':=by
 have RW:Hid (Rw PlR 4 w a xs):=h
 have HK:Hid (∀ x,x ∈ xs→PlRok x):=by
  intro x hx
  obtain ⟨i,hi⟩:=List.getElem?_of_mem hx
  obtain ⟨b,off,vs,_,_,_,h2,_⟩:=h.at PlR.kp (Below.refl _ _) hi
  exact h2.2
 clear h
 obtain ⟨i0,hi,hz0,hz1,hz2⟩:=info_parts infoPlace
 have hmk:=run_make (P:=Tryz.prog) w 37 135 i0 (.agg #[.int .i64 0,.int .i64 0,.int .i64 0,.int .i64 0]) Tryz.underlying37 hi hz0 .i64 .i64 len len (by omega) (Int.le_refl _) (by rw [hz2];omega) (by omega)
 rw [hz1,Int.toNat_natCast] at hmk
 have HM:Hid (OwnS pv 4 135 (w.alloc (.cells (madeCells #[.int .i64 0,.int .i64 0,.int .i64 0,.int .i64 0] (len * 4)) 135)) w.heap.size (.slice (some ⟨w.heap.size,0,none⟩) len len) (List.replicate len default)∧Below w.heap.size w (w.alloc (.cells (madeCells #[.int .i64 0,.int .i64 0,.int .i64 0,.int .i64 0] (len * 4)) 135))):=⟨OwnS.made w _ _ len default _ zPlace rfl (by omega) (Nat.le_refl _) (by unfold maxLen;omega),(Below.refl _ _).alloc (Nat.le_refl _) _⟩
 have hmk2:(Instr.makeSlice 37 (.int .i64 (len:Int)) (.int .i64 (len:Int))).run Tryz.prog w=.ok (.slice (some ⟨w.heap.size,0,none⟩) len len) (w.alloc (.cells (madeCells #[.int .i64 0,.int .i64 0,.int .i64 0,.int .i64 0] (len * 4)) 135)):=hmk
 clear hmk hi hz0 hz1 hz2
 obtain ⟨W,hW⟩:∃ W,W=(w.alloc (.cells (madeCells #[.int .i64 0,.int .i64 0,.int .i64 0,.int .i64 0] (len * 4)) 135)):=⟨_,rfl⟩
 rw [← hW] at HM hmk2
 clear hW
 go_enter Tryz.func31,Tryz.ntmps31
 go_wp2
 go_loopw [4] (fun i wr=>∃ (k:Nat) (L:List PlaceV),k≤len∧i=.int .i64 k∧Hid (OwnS pv 4 135 wr w.heap.size (.slice (some ⟨w.heap.size,0,none⟩) len len) L∧L.length=len∧L.take k=xs.take k∧Below w.heap.size w wr)) (fun i _=>len - (intOf i).toNat)
 case atStart=>exact ⟨0,_,Nat.zero_le _,rfl,HM.out.1,List.length_replicate ..,rfl,HM.out.2⟩
 case round =>
  obtain ⟨k,L,hk,rfl,X⟩:=hrel
  by_cases hlt:k<len
  ·obtain ⟨x,hx⟩:=at_of hl hlt
   obtain ⟨b,off,vs,rfl,hb,hvl,hR,hc⟩:=RW.out.at PlR.kp X.out.2.2.2 hx
   have TS:Hid ((L.set k x).take (k+1)=xs.take (k+1)):=takeS_set (by rw [X.out.2.1,hl]) hx X.out.2.2.1
   obtain ⟨ip,bt,lo,hi⟩:=x
   obtain ⟨rfl,hok⟩:=hR
   clear hok
   have q0:wr.cell? ⟨b,off+k * 4,none⟩=some (.int .i64 ip):=hc 0 _ rfl
   have q1:wr.cell? ⟨b,off+k * 4+1,none⟩=some (.int .i64 bt):=hc 1 _ rfl
   have q2:wr.cell? ⟨b,off+k * 4+2,none⟩=some (.int .i64 lo):=hc 2 _ rfl
   have q3:wr.cell? ⟨b,off+k * 4+3,none⟩=some (.int .i64 hi):=hc 3 _ rfl
   have HT:Hid (∀ w,Calls Tryz.prog 79 #[.agg #[.int .i64 ip,.int .i64 bt,.int .i64 lo,.int .i64 hi]] w fun e w'=>e=.returned (.agg #[.int .i64 ip,.int .i64 bt,.int .i64 lo,.int .i64 hi])∧Below w.heap.size w w'):=fun w=>toPlace_any ip bt lo hi w
   have hltz:(k:Int)<(len:Int):=by omega
   clear hc
   go_wp2_with fail
   refine (HT.out _).mono ?_
   rintro e w1 ⟨rfl,b1⟩
   have o1:=X.out.1.now b1
   obtain ⟨y,hy⟩:=at_of (k:=k) X.out.2.1 hlt
   obtain ⟨c0,z0⟩:=o1.cell pv_len (j:=0) hy rfl
   obtain ⟨c1,z1⟩:=o1.cell pv_len (j:=1) hy rfl
   obtain ⟨c2,z2⟩:=o1.cell pv_len (j:=2) hy rfl
   obtain ⟨c3,z3⟩:=o1.cell pv_len (j:=3) hy rfl
   replace c0:w1.cell? ⟨w.heap.size,k * 4,none⟩=some (.int .i64 y.ip):=c0
   replace z0:w1.frozen? ⟨w.heap.size,k * 4,none⟩=false:=z0
   have Y0:∀ W1,W1=((((w1.setCell ⟨w.heap.size,k * 4,none⟩ (.int .i64 ip)).setCell ⟨w.heap.size,k * 4+1,none⟩ (.int .i64 bt)).setCell ⟨w.heap.size,k * 4+2,none⟩ (.int .i64 lo)).setCell ⟨w.heap.size,k * 4+3,none⟩ (.int .i64 hi))→OwnS pv 4 135 W1 w.heap.size (.slice (some ⟨w.heap.size,0,none⟩) len len) (L.set k ⟨ip,bt,lo,hi⟩)∧(L.set k ⟨ip,bt,lo,hi⟩).length=len∧(L.set k ⟨ip,bt,lo,hi⟩).take (k+1)=xs.take (k+1)∧Below w.heap.size w W1:=by
    intro W1 hW1
    have h2:=o1.store pv_len hlt ⟨ip,bt,lo,hi⟩
    have e3:W1=wsets w1 w.heap.size (k * 4) (pv ⟨ip,bt,lo,hi⟩):=hW1
    rw [← e3] at h2
    exact ⟨h2.1,by rw [List.length_set];exact X.out.2.1,TS.out,(X.out.2.2.2.trans (b1.mono X.out.2.2.2.size)).trans (below_row h2.2 (Nat.le_refl _) (Nat.le_trans X.out.2.2.2.size b1.size))⟩
   have Y:Hid (OwnS pv 4 135 ((((w1.setCell ⟨w.heap.size,k * 4,none⟩ (.int .i64 ip)).setCell ⟨w.heap.size,k * 4+1,none⟩ (.int .i64 bt)).setCell ⟨w.heap.size,k * 4+2,none⟩ (.int .i64 lo)).setCell ⟨w.heap.size,k * 4+3,none⟩ (.int .i64 hi)) w.heap.size (.slice (some ⟨w.heap.size,0,none⟩) len len) (L.set k ⟨ip,bt,lo,hi⟩)∧(L.set k ⟨ip,bt,lo,hi⟩).length=len∧(L.set k ⟨ip,bt,lo,hi⟩).take (k+1)=xs.take (k+1)∧Below w.heap.size w ((((w1.setCell ⟨w.heap.size,k * 4,none⟩ (.int .i64 ip)).setCell ⟨w.heap.size,k * 4+1,none⟩ (.int .i64 bt)).setCell ⟨w.heap.size,k * 4+2,none⟩ (.int .i64 lo)).setCell ⟨w.heap.size,k * 4+3,none⟩ (.int .i64 hi))):=Y0 _ rfl
   clear Y0
   clear o1 b1 q0 q1 q2 q3 HT X HM hmk2 hx hy TS
   go_wp2
   go_roundw
   case rel=>exact ⟨k+1,_,by omega,by go_num,Y⟩
   case measure=>simp [intOf];omega
  ·obtain rfl:k=len:=by omega
   have e1:L=xs:=by
    have:=X.out.2.2.1
    rw [List.take_of_length_le (by rw [X.out.2.1];exact Nat.le_refl _),List.take_of_length_le (by omega)] at this
    exact this
   subst e1
   go_wp2
   go_ret
   exact ⟨rfl,X.out.1,HK.out,X.out.2.2.2⟩
theorem zRule:#[.int .i64 0,.int .i64 0,.int .i64 0,.int .i64 0,.int .i64 0,.bool false].toList=rv default:=rfl
set_option maxHeartbeats 4000000 in
theorem toRuleS_own (a:Option Addr) (len cap:Nat) (xs:List RuleV) (w:World) (h:Rw RuR 6 w a xs) (hl:xs.length=len) (hc:len≤1048576) :
  Calls Tryz.prog 131 #[.slice a len cap] w fun e w'=>e=.returned (.slice (some ⟨w.heap.size,0,none⟩) len len)∧OwnS rv 6 156 w' w.heap.size (.slice (some ⟨w.heap.size,0,none⟩) len len) xs∧(∀ x,x ∈ xs→RuRok x)∧Below w.heap.size w w':=by
 have RW:Hid (Rw RuR 6 w a xs):=h
 have HK:Hid (∀ x,x ∈ xs→RuRok x):=by
  intro x hx
  obtain ⟨i,hi⟩:=List.getElem?_of_mem hx
  obtain ⟨b,off,vs,_,_,_,h2,_⟩:=h.at RuR.kp (Below.refl _ _) hi
  exact h2.2
 clear h
 obtain ⟨i0,hi,hz0,hz1,hz2⟩:=info_parts infoRule
 have hmk:=run_make (P:=Tryz.prog) w 140 156 i0 (.agg #[.int .i64 0,.int .i64 0,.int .i64 0,.int .i64 0,.int .i64 0,.bool false]) Tryz.underlying140 hi hz0 .i64 .i64 len len (by omega) (Int.le_refl _) (by rw [hz2];omega) (by omega)
 rw [hz1,Int.toNat_natCast] at hmk
 have HM:Hid (OwnS rv 6 156 (w.alloc (.cells (madeCells #[.int .i64 0,.int .i64 0,.int .i64 0,.int .i64 0,.int .i64 0,.bool false] (len * 6)) 156)) w.heap.size (.slice (some ⟨w.heap.size,0,none⟩) len len) (List.replicate len default)∧Below w.heap.size w (w.alloc (.cells (madeCells #[.int .i64 0,.int .i64 0,.int .i64 0,.int .i64 0,.int .i64 0,.bool false] (len * 6)) 156))):=⟨OwnS.made w _ _ len default _ zRule rfl (by omega) (Nat.le_refl _) (by unfold maxLen;omega),(Below.refl _ _).alloc (Nat.le_refl _) _⟩
 have hmk2:(Instr.makeSlice 140 (.int .i64 (len:Int)) (.int .i64 (len:Int))).run Tryz.prog w=.ok (.slice (some ⟨w.heap.size,0,none⟩) len len) (w.alloc (.cells (madeCells #[.int .i64 0,.int .i64 0,.int .i64 0,.int .i64 0,.int .i64 0,.bool false] (len * 6)) 156)):=hmk
 clear hmk hi hz0 hz1 hz2
 obtain ⟨W,hW⟩:∃ W,W=(w.alloc (.cells (madeCells #[.int .i64 0,.int .i64 0,.int .i64 0,.int .i64 0,.int .i64 0,.bool false] (len * 6)) 156)):=⟨_,rfl⟩
 rw [← hW] at HM hmk2
 clear hW
 go_enter Tryz.func131,Tryz.ntmps131
 go_wp2
 go_loopw [4] (fun i wr=>∃ (k:Nat) (L:List RuleV),k≤len∧i=.int .i64 k∧Hid (OwnS rv 6 156 wr w.heap.size (.slice (some ⟨w.heap.size,0,none⟩) len len) L∧L.length=len∧L.take k=xs.take k∧Below w.heap.size w wr)) (fun i _=>len - (intOf i).toNat)
 case atStart=>exact ⟨0,_,Nat.zero_le _,rfl,HM.out.1,List.length_replicate ..,rfl,HM.out.2⟩
 case round =>
  obtain ⟨k,L,hk,rfl,X⟩:=hrel
  by_cases hlt:k<len
  ·obtain ⟨x,hx⟩:=at_of hl hlt
   obtain ⟨b,off,vs,rfl,hb,hvl,hR,hc⟩:=RW.out.at RuR.kp X.out.2.2.2 hx
   have TS:Hid ((L.set k x).take (k+1)=xs.take (k+1)):=takeS_set (by rw [X.out.2.1,hl]) hx X.out.2.2.1
   obtain ⟨p,ip,bt,lo,hi,al⟩:=x
   obtain ⟨rfl,hok⟩:=hR
   clear hok
   have q0:wr.cell? ⟨b,off+k * 6,none⟩=some (.int .i64 p):=hc 0 _ rfl
   have q1:wr.cell? ⟨b,off+k * 6+1,none⟩=some (.int .i64 ip):=hc 1 _ rfl
   have q2:wr.cell? ⟨b,off+k * 6+2,none⟩=some (.int .i64 bt):=hc 2 _ rfl
   have q3:wr.cell? ⟨b,off+k * 6+3,none⟩=some (.int .i64 lo):=hc 3 _ rfl
   have q4:wr.cell? ⟨b,off+k * 6+4,none⟩=some (.int .i64 hi):=hc 4 _ rfl
   have q5:wr.cell? ⟨b,off+k * 6+5,none⟩=some (.bool al):=hc 5 _ rfl
   have HT:Hid (∀ w,Calls Tryz.prog 159 #[.agg #[.int .i64 p,.int .i64 ip,.int .i64 bt,.int .i64 lo,.int .i64 hi,.bool al]] w fun e w'=>e=.returned (.agg #[.int .i64 p,.int .i64 ip,.int .i64 bt,.int .i64 lo,.int .i64 hi,.bool al])∧Below w.heap.size w w'):=fun w=>toRule_any p ip bt lo hi al w
   have hltz:(k:Int)<(len:Int):=by omega
   clear hc
   go_wp2_with fail
   refine (HT.out _).mono ?_
   rintro e w1 ⟨rfl,b1⟩
   have o1:=X.out.1.now b1
   obtain ⟨y,hy⟩:=at_of (k:=k) X.out.2.1 hlt
   obtain ⟨c0,z0⟩:=o1.cell rv_len (j:=0) hy rfl
   obtain ⟨c1,z1⟩:=o1.cell rv_len (j:=1) hy rfl
   obtain ⟨c2,z2⟩:=o1.cell rv_len (j:=2) hy rfl
   obtain ⟨c3,z3⟩:=o1.cell rv_len (j:=3) hy rfl
   obtain ⟨c4,z4⟩:=o1.cell rv_len (j:=4) hy rfl
   obtain ⟨c5,z5⟩:=o1.cell rv_len (j:=5) hy rfl
   replace c0:w1.cell? ⟨w.heap.size,k * 6,none⟩=some (.int .i64 y.p):=c0
   replace z0:w1.frozen? ⟨w.heap.size,k * 6,none⟩=false:=z0
   have Y0:∀ W1,W1=((((((w1.setCell ⟨w.heap.size,k * 6,none⟩ (.int .i64 p)).setCell ⟨w.heap.size,k * 6+1,none⟩ (.int .i64 ip)).setCell ⟨w.heap.size,k * 6+2,none⟩ (.int .i64 bt)).setCell ⟨w.heap.size,k * 6+3,none⟩ (.int .i64 lo)).setCell ⟨w.heap.size,k * 6+4,none⟩ (.int .i64 hi)).setCell ⟨w.heap.size,k * 6+5,none⟩ (.bool al))→OwnS rv 6 156 W1 w.heap.size (.slice (some ⟨w.heap.size,0,none⟩) len len) (L.set k ⟨p,ip,bt,lo,hi,al⟩)∧(L.set k ⟨p,ip,bt,lo,hi,al⟩).length=len∧(L.set k ⟨p,ip,bt,lo,hi,al⟩).take (k+1)=xs.take (k+1)∧Below w.heap.size w W1:=by
    intro W1 hW1
    have h2:=o1.store rv_len hlt ⟨p,ip,bt,lo,hi,al⟩
    have e3:W1=wsets w1 w.heap.size (k * 6) (rv ⟨p,ip,bt,lo,hi,al⟩):=hW1
    rw [← e3] at h2
    exact ⟨h2.1,by rw [List.length_set];exact X.out.2.1,TS.out,(X.out.2.2.2.trans (b1.mono X.out.2.2.2.size)).trans (below_row h2.2 (Nat.le_refl _) (Nat.le_trans X.out.2.2.2.size b1.size))⟩
   have Y:Hid (OwnS rv 6 156 ((((((w1.setCell ⟨w.heap.size,k * 6,none⟩ (.int .i64 p)).setCell ⟨w.heap.size,k * 6+1,none⟩ (.int .i64 ip)).setCell ⟨w.heap.size,k * 6+2,none⟩ (.int .i64 bt)).setCell ⟨w.heap.size,k * 6+3,none⟩ (.int .i64 lo)).setCell ⟨w.heap.size,k * 6+4,none⟩ (.int .i64 hi)).setCell ⟨w.heap.size,k * 6+5,none⟩ (.bool al)) w.heap.size (.slice (some ⟨w.heap.size,0,none⟩) len len) (L.set k ⟨p,ip,bt,lo,hi,al⟩)∧(L.set k ⟨p,ip,bt,lo,hi,al⟩).length=len∧(L.set k ⟨p,ip,bt,lo,hi,al⟩).take (k+1)=xs.take (k+1)∧Below w.heap.size w ((((((w1.setCell ⟨w.heap.size,k * 6,none⟩ (.int .i64 p)).setCell ⟨w.heap.size,k * 6+1,none⟩ (.int .i64 ip)).setCell ⟨w.heap.size,k * 6+2,none⟩ (.int .i64 bt)).setCell ⟨w.heap.size,k * 6+3,none⟩ (.int .i64 lo)).setCell ⟨w.heap.size,k * 6+4,none⟩ (.int .i64 hi)).setCell ⟨w.heap.size,k * 6+5,none⟩ (.bool al))):=Y0 _ rfl
   clear Y0
   clear o1 b1 q0 q1 q2 q3 q4 q5 HT X HM hmk2 hx hy TS
   go_wp2
   go_roundw
   case rel=>exact ⟨k+1,_,by omega,by go_num,Y⟩
   case measure=>simp [intOf];omega
  ·obtain rfl:k=len:=by omega
   have e1:L=xs:=by
    have:=X.out.2.2.1
    rw [List.take_of_length_le (by rw [X.out.2.1];exact Nat.le_refl _),List.take_of_length_le (by omega)] at this
    exact this
   subst e1
   go_wp2
   go_ret
   exact ⟨rfl,X.out.1,HK.out,X.out.2.2.2⟩
open Go.RowKit Go.PlainAid Go.Sort
theorem run_storeVar_at {P:Program} (w:World) (b o:Nat) (ty:TypeId) (v:Value) (ht:w.there b o 1) (hi:(P.info? ty).map (·.size)=some 1) (h1:v.oneCell'=true) :
  (storeVar ty ⟨b,o,none⟩ v).run P w=.ok () (w.setCells b o [v]):=by
 have hc:v.cells=#[v]:=by cases v <;> first | rfl | cases h1
 have:=run_storeCells_cells (P:=P) b o [v] 0 w (fun j hj=>by simpa using (ht j (by simpa using hj)).1) (fun j hj=>by simpa using (ht j (by simpa using hj)).2)
  (fun u hu=>by simp at hu;subst hu;exact h1)
 cases hq:P.info? ty with
 | none=>simp [hq] at hi
 | some i =>
  have hs:i.size=1:=by simpa [hq] using hi
  simp only [Nat.add_zero] at this
  simp [storeVar,sizeOf,typeInfo,hq,hc,hs,this]
theorem wpl_put1 {P:Program} {ops:Array Oper} {rest:List Oper} {op:Oper} {a:Act} {w:World} {Q:Exit→Act→World→Prop} (t:TypeId) (hgd:op.guard=none) (x y:Operand) (ho:op.op=.store t x y)
  (q o:Nat) (v:Value) (hx:a.eval x=.pointer (some ⟨q,o,none⟩)) (hy:a.eval y=v) {cs:List Value} (h0:Bx w q cs) (hn:(decide (o+1≤cs.length))=true) (hi:(P.info? t).map (·.size)=some 1) (h1:v.oneCell'=true)
  (h:∀ w',w'=w.setCells q o [v]→wpList P ops Q rest (a.put op.dst undef) w'):wpList P ops Q (op :: rest) a w :=
 wpList_plain hgd fun _ hK=>by
  unfold Oper.wp execOp
  simp only [ho,hx,hy,Instr.storeAt,Instr.sureAddr,Sem.run_bind,Sem.run_pure,Result.andThen_ok,run_storeVar_at w q o t v (h0.thereAt o 1 (of_decide_eq_true hn)) hi h1]
  exact hK _ _ (h _ rfl)
theorem results_cell {P:Program} {fn:Func} {tmps:Array Value} {w:World} {a:Tmp} {t:TypeId} (hr:fn.results=#[.cell a t]) (q:Nat) (hp:tmps.getD a undef=.pointer (some ⟨q,0,none⟩)) {cs:List Value} (hb:Bx w q cs)
  (d:TypeDesc) (hu:P.underlying t=some d) (hd:d.isRow=true) (hi:(P.info? t).map (·.size)=some cs.length):(results fn tmps).run P w=.ok (.agg cs.toArray) w:=by
 have h:=run_loadVar_mid w q 0 t cs d hb.cl hu hd hi
 unfold results
 rw [hr]
 have hp':tmps[a]?.getD undef=.pointer (some ⟨q,0,none⟩):=by rw [← Array.getD_eq_getD_getElem?];exact hp
 simp [hp',asAddr,h]
theorem own_cellsC {α : Type} {c : α → List Value} {K : Nat} {e : TypeId} {B q : Nat} {v : Value} {xs : List α} (hq : q < B) : ∀ (vs : List Value) (o : Nat) (W : World), OwnS c K e W B v xs → OwnS c K e (W.setCells q o vs) B v xs
  | [], _, _, h => h
  | x :: r, o, W, h => by
    rw [World.setCells]
    refine own_cellsC hq r (o + 1) _ (h.kept (grown_set W ⟨q, o, none⟩ x) ?_)
    cases hb : v.ownBlock with
    | none => exact Or.inl rfl
    | some k => exact Or.inr (fun he => by have := (h.lt k hb).1; have : k = q := by simpa using he
                                           omega)
structure TR (w:World) (nm:ByteArray) (a:Option Addr) (len cap:Nat) (q m i:Int) (cs:List Value) (W:World):Prop where
 a:Bx W w.heap.size [.string nm,.slice a len cap,.int .i64 q,.int .i64 m,.int .i64 i]
 r:Bx W (w.heap.size+1) [.string ⟨#[]⟩,.slice none 0 0,.int .i64 0,.int .i64 0,.int .i64 0]
 n:Bx W (w.heap.size+1+1) cs
 b:Below w.heap.size w W
theorem TR.call {w:World} {nm:ByteArray} {a:Option Addr} {len cap:Nat} {q m i:Int} {cs:List Value} {W W':World} (h:TR w nm a len cap q m i cs W) (hb:Below W.heap.size W W'):TR w nm a len cap q m i cs W':=⟨h.a.below hb,h.r.below hb,h.n.below hb,h.b.trans (hb.mono h.b.size)⟩
theorem TR.put {w:World} {nm:ByteArray} {a:Option Addr} {len cap:Nat} {q m i:Int} {cs:List Value} {W:World} (h:TR w nm a len cap q m i cs W) (o:Nat) (vs:List Value):TR w nm a len cap q m i (sets cs o vs) (W.setCells (w.heap.size+1+1) o vs) :=
 ⟨h.a.apartO vs (by omega),h.r.apartO vs (by omega),h.n.sets vs o _ _,below_cells (by omega) vs o _ h.b⟩
set_option maxHeartbeats 4000000 in
theorem toRole_own (nm:ByteArray) (rs:List RuleV) (q m i:Int) (a:Option Addr) (len cap:Nat) (w:World) (h:Rw RuR 6 w a rs) (hl:rs.length=len) (hc:len≤1048576) :
  Calls Tryz.prog 80 #[.agg #[.string nm,.slice a len cap,.int .i64 q,.int .i64 m,.int .i64 i]] w fun e w'=>∃ b:Nat,e=.returned (.agg #[.string nm,.slice (some ⟨b,0,none⟩) len len,.int .i64 q,.int .i64 m,.int .i64 i])∧OwnS rv 6 156 w' w.heap.size (.slice (some ⟨b,0,none⟩) len len) rs∧Below w.heap.size w w':=by
 have HA:Hid (∀ W,Below w.heap.size w W→Calls Tryz.prog 131 #[.slice a len cap] W fun e w'=>e=.returned (.slice (some ⟨W.heap.size,0,none⟩) len len)∧OwnS rv 6 156 w' W.heap.size (.slice (some ⟨W.heap.size,0,none⟩) len len) rs∧(∀ x,x ∈ rs→RuRok x)∧Below W.heap.size W w'):=fun W b=>toRuleS_own a len cap rs W (h.keep RuR.kp b) hl hc
 clear h
 obtain ⟨W0,hW0⟩:∃ W0,W0=(((w.alloc (.cells #[.string nm,.slice a len cap,.int .i64 q,.int .i64 m,.int .i64 i] 111)).alloc (.cells #[.string ⟨#[]⟩,.slice none 0 0,.int .i64 0,.int .i64 0,.int .i64 0] 142)).alloc (.cells #[.string nm,.slice none 0 0,.int .i64 0,.int .i64 0,.int .i64 0] 142)):=⟨_,rfl⟩
 have hz0:W0.heap.size=w.heap.size+1+1+1:=by rw [hW0];simp
 have T0:Hid (TR w nm a len cap q m i [.string nm,.slice none 0 0,.int .i64 0,.int .i64 0,.int .i64 0] W0):=by
  rw [hW0]
  refine ⟨?_,?_,?_,?_⟩
  ·exact ((Bx.new w #[.string nm,.slice a len cap,.int .i64 q,.int .i64 m,.int .i64 i] 111).below ((Below.refl _ _).alloc (Nat.le_refl _) _)).below ((Below.refl _ _).alloc (Nat.le_refl _) _)
  ·have h:=Bx.new (w.alloc (.cells #[.string nm,.slice a len cap,.int .i64 q,.int .i64 m,.int .i64 i] 111)) #[.string ⟨#[]⟩,.slice none 0 0,.int .i64 0,.int .i64 0,.int .i64 0] 142
   rw [World.size_alloc] at h
   exact h.below ((Below.refl _ _).alloc (Nat.le_refl _) _)
  ·have h:=Bx.new ((w.alloc (.cells #[.string nm,.slice a len cap,.int .i64 q,.int .i64 m,.int .i64 i] 111)).alloc (.cells #[.string ⟨#[]⟩,.slice none 0 0,.int .i64 0,.int .i64 0,.int .i64 0] 142)) #[.string nm,.slice none 0 0,.int .i64 0,.int .i64 0,.int .i64 0] 142
   rw [World.size_alloc,World.size_alloc] at h
   exact h
  ·exact (((Below.refl _ _).alloc (Nat.le_refl _) _).alloc (by simp) _).alloc (by simp;omega) _
 go_enter Tryz.func80,Tryz.ntmps80
 go_wp2_with fail
 rw [← hW0]
 refine (HA.out _ T0.out.b).mono ?_
 rintro e w1 ⟨rfl,o1,-,bx⟩
 rw [hz0] at o1
 have T1:Hid (TR w nm a len cap q m i [.string nm,.slice none 0 0,.int .i64 0,.int .i64 0,.int .i64 0] w1):=T0.out.call bx
 have Y1:Hid (OwnS rv 6 156 w1 (w.heap.size+1+1+1) (.slice (some ⟨w.heap.size+1+1+1,0,none⟩) len len) rs):=o1
 rw [hz0]
 clear o1 bx T0 hW0 hz0 HA
 go_wp2_with (first | (refine wpl_put1 140 rfl _ _ rfl (w.heap.size+1+1) 1 (.slice (some ⟨w.heap.size+1+1+1,0,none⟩) len len) rfl rfl T1.out.n rfl rfl rfl ?_;intro w2 hw2;have T2:Hid (TR w nm a len cap q m i [.string nm,.slice (some ⟨w.heap.size+1+1+1,0,none⟩) len len,.int .i64 0,.int .i64 0,.int .i64 0] w2):=(by rw [hw2];exact T1.out.put 1 [.slice (some ⟨w.heap.size+1+1+1,0,none⟩) len len]);have Y2:Hid (OwnS rv 6 156 w2 (w.heap.size+1+1+1) (.slice (some ⟨w.heap.size+1+1+1,0,none⟩) len len) rs):=(by rw [hw2];exact own_cellsC (by omega) _ _ _ Y1.out);clear hw2 T1 Y1;have k2:=T2.out.a.cell 2 rfl) | (refine wpl_put1 3 rfl _ _ rfl (w.heap.size+1+1) 2 (.int .i64 q) rfl rfl T2.out.n rfl rfl rfl ?_;intro w3 hw3;have T3:Hid (TR w nm a len cap q m i [.string nm,.slice (some ⟨w.heap.size+1+1+1,0,none⟩) len len,.int .i64 q,.int .i64 0,.int .i64 0] w3):=(by rw [hw3];exact T2.out.put 2 [.int .i64 q]);have Y3:Hid (OwnS rv 6 156 w3 (w.heap.size+1+1+1) (.slice (some ⟨w.heap.size+1+1+1,0,none⟩) len len) rs):=(by rw [hw3];exact own_cellsC (by omega) _ _ _ Y2.out);clear hw3 T2 Y2 k2;have k3:=T3.out.a.cell 3 rfl) | (refine wpl_put1 3 rfl _ _ rfl (w.heap.size+1+1) 3 (.int .i64 m) rfl rfl T3.out.n rfl rfl rfl ?_;intro w4 hw4;have T4:Hid (TR w nm a len cap q m i [.string nm,.slice (some ⟨w.heap.size+1+1+1,0,none⟩) len len,.int .i64 q,.int .i64 m,.int .i64 0] w4):=(by rw [hw4];exact T3.out.put 3 [.int .i64 m]);have Y4:Hid (OwnS rv 6 156 w4 (w.heap.size+1+1+1) (.slice (some ⟨w.heap.size+1+1+1,0,none⟩) len len) rs):=(by rw [hw4];exact own_cellsC (by omega) _ _ _ Y3.out);clear hw4 T3 Y3 k3;have k4:=T4.out.a.cell 4 rfl) | (refine wpl_put1 3 rfl _ _ rfl (w.heap.size+1+1) 4 (.int .i64 i) rfl rfl T4.out.n rfl rfl rfl ?_;intro w5 hw5;have T5:Hid (TR w nm a len cap q m i [.string nm,.slice (some ⟨w.heap.size+1+1+1,0,none⟩) len len,.int .i64 q,.int .i64 m,.int .i64 i] w5):=(by rw [hw5];exact T4.out.put 4 [.int .i64 i]);have Y5:Hid (OwnS rv 6 156 w5 (w.heap.size+1+1+1) (.slice (some ⟨w.heap.size+1+1+1,0,none⟩) len len) rs):=(by rw [hw5];exact own_cellsC (by omega) _ _ _ Y4.out);clear hw5 T4 Y4 k4) | (refine wpl_getO 142 rfl _ rfl (w.heap.size+1+1) 0 [.string nm,.slice (some ⟨w.heap.size+1+1+1,0,none⟩) len len,.int .i64 q,.int .i64 m,.int .i64 i] rfl T5.out.n rfl _ Tryz.underlying142 rfl rfl ?_) | (refine wpl_putO 142 rfl _ _ rfl (w.heap.size+1) 0 _ rfl rfl T5.out.r rfl rfl rfl ?_;intro w6 hw6 R6;have B6:Hid (Below w.heap.size w w6):=(by rw [hw6];exact below_cells (by omega) _ _ _ T5.out.b);have Y6:Hid (OwnS rv 6 156 w6 (w.heap.size+1+1+1) (.slice (some ⟨w.heap.size+1+1+1,0,none⟩) len len) rs):=(by rw [hw6];exact own_cellsC (by omega) _ _ _ Y5.out);clear hw6) | fail)
 refine bodyPost_ret (v:=.agg #[.string nm,.slice (some ⟨w.heap.size+1+1+1,0,none⟩) len len,.int .i64 q,.int .i64 m,.int .i64 i]) (results_cell Tryz.results80 (w.heap.size+1) rfl R6 _ Tryz.underlying142 rfl rfl) rfl ?_
 exact ⟨_,rfl,Y6.out.lower (by omega),B6.out⟩
def zRo:RoX:=⟨⟨⟨#[]⟩,[],0,0,0⟩,none,0⟩
instance:Inhabited RoX:=⟨zRo⟩
theorem infoRo:(Tryz.prog.info? 142).map (fun i=>(i.zero,i.size,i.bytes))=some (some (.agg #[.string ⟨#[]⟩,.slice none 0 0,.int .i64 0,.int .i64 0,.int .i64 0]),5,64):=by kernel_rfl
theorem zRole:#[.string ⟨#[]⟩,.slice none 0 0,.int .i64 0,.int .i64 0,.int .i64 0].toList=roG default:=rfl
theorem pair_new {L:List RoX} {k:Nat} {y:RoX} (h:L.Pairwise (fun x y=>ApB x.sl y.sl)) (hy:∀ z,z ∈ L→ApB z.sl y.sl):(L.set k y).Pairwise (fun x y=>ApB x.sl y.sl):=by
 rw [List.pairwise_iff_getElem]
 intro i j hi hj hij
 rw [List.length_set] at hi hj
 have hp:=List.pairwise_iff_getElem.1 h i j hi hj hij
 rw [List.getElem_set,List.getElem_set]
 by_cases h1:k=i
 ·rw [if_pos h1,if_neg (by omega)]
  exact (hy _ (List.getElem_mem hj)).symm
 ·rw [if_neg h1]
  by_cases h2:k=j
  ·rw [if_pos h2];exact hy _ (List.getElem_mem hi)
  ·rw [if_neg h2];exact hp
theorem rep_own {w:World} {B len:Nat} {v:Value} (h:OwnS roG 5 142 w B v (List.replicate len default)):OwnRo w B v (List.replicate len default):=by
 refine ⟨h,fun x hx=>?_,?_⟩
 ·obtain rfl:=(List.mem_replicate.1 hx).2
  exact OwnS.nil w B
 ·rw [List.pairwise_iff_getElem]
  intro i j hi hj hij
  rw [List.getElem_replicate,List.getElem_replicate]
  intro k hk
  exact absurd hk (by simp [RoX.sl,default,zRo,Value.ownBlock])
theorem rep_set {D:List RoX} {k len:Nat} (y:RoX) (hD:D.length=k) (hk:k<len):(D ++ List.replicate (len - k) default).set k y=(D ++ [y]) ++ List.replicate (len - (k+1)) default:=by
 rw [List.set_append_right _ _ (by omega),show k - D.length=0 by omega,show len - k=(len - (k+1))+1 by omega,List.replicate_succ,List.set_cons_zero]
 simp
set_option maxHeartbeats 8000000 in
theorem toRoleS_own (a:Option Addr) (len cap:Nat) (xs:List RoleV) (w:World) (h:Rw (RoR 0) 5 w a xs) (hl:xs.length=len) (hc:len≤1048576) (hsz:∀ x,x ∈ xs→x.rs.length≤1048576) :
  Calls Tryz.prog 32 #[.slice a len cap] w fun e w'=>∃ L:List RoX,L.map (fun x=>x.r)=xs∧e=.returned (.slice (some ⟨w.heap.size,0,none⟩) len len)∧OwnRo w' w.heap.size (.slice (some ⟨w.heap.size,0,none⟩) len len) L∧Below w.heap.size w w':=by
 have RW:Hid (Rw (RoR 0) 5 w a xs):=h
 have SZ:Hid (∀ x,x ∈ xs→x.rs.length≤1048576):=hsz
 clear h hsz
 obtain ⟨i0,hi,hz0,hz1,hz2⟩:=info_parts infoRo
 have hmk:=run_make (P:=Tryz.prog) w 38 142 i0 (.agg #[.string ⟨#[]⟩,.slice none 0 0,.int .i64 0,.int .i64 0,.int .i64 0]) Tryz.underlying38 hi hz0 .i64 .i64 len len (by omega) (Int.le_refl _) (by rw [hz2];omega) (by omega)
 rw [hz1,Int.toNat_natCast] at hmk
 obtain ⟨W,hW⟩:∃ W,W=(w.alloc (.cells (madeCells #[.string ⟨#[]⟩,.slice none 0 0,.int .i64 0,.int .i64 0,.int .i64 0] (len * 5)) 142)):=⟨_,rfl⟩
 have HM:Hid (OwnRo W w.heap.size (.slice (some ⟨w.heap.size,0,none⟩) len len) (List.replicate len default)∧Below w.heap.size w W):=by
  rw [hW]
  exact ⟨rep_own (OwnS.made w _ _ len default _ zRole rfl (by omega) (Nat.le_refl _) (by unfold maxLen;omega)),(Below.refl _ _).alloc (Nat.le_refl _) _⟩
 have hmk2:(Instr.makeSlice 38 (.int .i64 (len:Int)) (.int .i64 (len:Int))).run Tryz.prog w=.ok (.slice (some ⟨w.heap.size,0,none⟩) len len) W:=by rw [hW];exact hmk
 clear hmk hi hz0 hz1 hz2 hW
 go_enter Tryz.func32,Tryz.ntmps32
 go_wp2
 go_loopw [4] (fun i wr=>∃ (k:Nat) (D:List RoX),k≤len∧i=.int .i64 k∧Hid (D.length=k∧D.map (fun x=>x.r)=xs.take k)∧Hid (OwnRo wr w.heap.size (.slice (some ⟨w.heap.size,0,none⟩) len len) (D ++ List.replicate (len - k) default)∧Below w.heap.size w wr)) (fun i _=>len - (intOf i).toNat)
 case atStart=>exact ⟨0,[],Nat.zero_le _,rfl,⟨rfl,rfl⟩,HM.out⟩
 case round =>
  clear HM hmk2
  obtain ⟨k,D,hk,rfl,hD,X⟩:=hrel
  by_cases hlt:k<len
  ·obtain ⟨x,hx⟩:=at_of hl hlt
   obtain ⟨b,off,vs,rfl,hb,hvl,hR,hc2⟩:=RW.out.at (RoR.kp 0) X.out.2 hx
   have hsz:=SZ.out _ (List.mem_of_getElem? hx)
   have HX:Hid (xs[k]?=some x):=hx
   obtain ⟨nm,rrs,rq,rm,ri⟩:=x
   obtain ⟨ra,rc,rfl,hnm,hrc,hrm,hRR,-⟩:=hR
   have q0:wr.cell? ⟨b,off+k * 5,none⟩=some (.string nm):=hc2 0 _ rfl
   have q1:wr.cell? ⟨b,off+k * 5+1,none⟩=some (.slice ra rrs.length rc):=hc2 1 _ rfl
   have q2:wr.cell? ⟨b,off+k * 5+2,none⟩=some (.int .i64 rq):=hc2 2 _ rfl
   have q3:wr.cell? ⟨b,off+k * 5+3,none⟩=some (.int .i64 rm):=hc2 3 _ rfl
   have q4:wr.cell? ⟨b,off+k * 5+4,none⟩=some (.int .i64 ri):=hc2 4 _ rfl
   have HT:Hid (∀ w,Rw RuR 6 w ra rrs→Calls Tryz.prog 80 #[.agg #[.string nm,.slice ra rrs.length rc,.int .i64 rq,.int .i64 rm,.int .i64 ri]] w fun e w'=>∃ b:Nat,e=.returned (.agg #[.string nm,.slice (some ⟨b,0,none⟩) rrs.length rrs.length,.int .i64 rq,.int .i64 rm,.int .i64 ri])∧OwnS rv 6 156 w' w.heap.size (.slice (some ⟨b,0,none⟩) rrs.length rrs.length) rrs∧Below w.heap.size w w'):=fun w h=>toRole_own nm rrs rq rm ri ra rrs.length rc w h rfl hsz
   have hltz:(k:Int)<(len:Int):=by omega
   clear hc2 hvl hx
   go_wp2_with fail
   refine (HT.out _ hRR).mono ?_
   rintro e w1 ⟨rb,rfl,or1,b1⟩
   have o1:=X.out.1.now b1
   have hzD:(D ++ List.replicate (len - k) default)[k]?=some (default:RoX):=by
    rw [List.getElem?_append_right (by have:=hD.out.1;omega),show k - D.length=0 by have:=hD.out.1;omega,List.getElem?_replicate,if_pos (by omega)]
   obtain ⟨c0,z0⟩:=o1.row.cell roG_len (j:=0) hzD rfl
   obtain ⟨c1,z1⟩:=o1.row.cell roG_len (j:=1) hzD rfl
   obtain ⟨c2,z2⟩:=o1.row.cell roG_len (j:=2) hzD rfl
   obtain ⟨c3,z3⟩:=o1.row.cell roG_len (j:=3) hzD rfl
   obtain ⟨c4,z4⟩:=o1.row.cell roG_len (j:=4) hzD rfl
   replace c0:w1.cell? ⟨w.heap.size,k * 5,none⟩=some (.string ⟨#[]⟩):=c0
   replace z0:w1.frozen? ⟨w.heap.size,k * 5,none⟩=false:=z0
   have Y0:∀ W1,W1=((((w1.setCell ⟨w.heap.size,k * 5,none⟩ (.string nm)).setCell ⟨w.heap.size,k * 5+1,none⟩ (.slice (some ⟨rb,0,none⟩) rrs.length rrs.length)).setCell ⟨w.heap.size,k * 5+2,none⟩ (.int .i64 rq)).setCell ⟨w.heap.size,k * 5+3,none⟩ (.int .i64 rm)).setCell ⟨w.heap.size,k * 5+4,none⟩ (.int .i64 ri)→OwnRo W1 w.heap.size (.slice (some ⟨w.heap.size,0,none⟩) len len) ((D ++ [⟨⟨nm,rrs,rq,rm,ri⟩,some ⟨rb,0,none⟩,rrs.length⟩]) ++ List.replicate (len - (k+1)) default)∧Below w.heap.size w W1:=by
    intro W1 hW1
    have s:=o1.row.store roG_len hlt ⟨⟨nm,rrs,rq,rm,ri⟩,some ⟨rb,0,none⟩,rrs.length⟩
    have e3:W1=wsets w1 w.heap.size (k * 5) (roG ⟨⟨nm,rrs,rq,rm,ri⟩,some ⟨rb,0,none⟩,rrs.length⟩):=hW1
    rw [← e3] at s
    have or2:OwnS rv 6 156 w1 w.heap.size (.slice (some ⟨rb,0,none⟩) rrs.length rrs.length) rrs:=or1.lower X.out.2.size
    refine ⟨?_,(X.out.2.trans (b1.mono X.out.2.size)).trans (below_row s.2 (Nat.le_refl _) (Nat.le_trans X.out.2.size b1.size))⟩
    rw [← rep_set _ hD.out.1 hlt]
    refine ⟨s.1,fun z hz=>?_,pair_new o1.apart (fun z hz=>?_)⟩
    ·have hz2:OwnS rv 6 156 w1 w.heap.size z.sl z.r.rs:=by
      rcases List.mem_or_eq_of_mem_set hz with h1 | h1
      ·exact o1.rules z h1
      ·subst h1;exact or2
     exact hz2.kept s.2 ((apB_of hz2 o1.row (by decide)).kept)
    ·intro kk hk1 hk2
     have h1:=((X.out.1.rules z hz).lt kk hk1).2
     have h2:=(or1.lt kk hk2).1
     omega
   have Y:Hid (OwnRo (((((w1.setCell ⟨w.heap.size,k * 5,none⟩ (.string nm)).setCell ⟨w.heap.size,k * 5+1,none⟩ (.slice (some ⟨rb,0,none⟩) rrs.length rrs.length)).setCell ⟨w.heap.size,k * 5+2,none⟩ (.int .i64 rq)).setCell ⟨w.heap.size,k * 5+3,none⟩ (.int .i64 rm)).setCell ⟨w.heap.size,k * 5+4,none⟩ (.int .i64 ri)) w.heap.size (.slice (some ⟨w.heap.size,0,none⟩) len len) ((D ++ [⟨⟨nm,rrs,rq,rm,ri⟩,some ⟨rb,0,none⟩,rrs.length⟩]) ++ List.replicate (len - (k+1)) default)∧Below w.heap.size w (((((w1.setCell ⟨w.heap.size,k * 5,none⟩ (.string nm)).setCell ⟨w.heap.size,k * 5+1,none⟩ (.slice (some ⟨rb,0,none⟩) rrs.length rrs.length)).setCell ⟨w.heap.size,k * 5+2,none⟩ (.int .i64 rq)).setCell ⟨w.heap.size,k * 5+3,none⟩ (.int .i64 rm)).setCell ⟨w.heap.size,k * 5+4,none⟩ (.int .i64 ri))):=Y0 _ rfl
   have HD2:Hid ((D ++ [(⟨⟨nm,rrs,rq,rm,ri⟩,some ⟨rb,0,none⟩,rrs.length⟩:RoX)]).length=k+1∧(D ++ [(⟨⟨nm,rrs,rq,rm,ri⟩,some ⟨rb,0,none⟩,rrs.length⟩:RoX)]).map (fun x=>x.r)=xs.take (k+1)):=⟨by rw [List.length_append,hD.out.1];rfl,by rw [List.map_append,hD.out.2,List.take_add_one,HX.out];rfl⟩
   clear Y0 o1 or1 b1 q0 q1 q2 q3 q4 HT X HX hD hRR hzD
   go_wp2
   go_roundw
   case rel=>exact ⟨k+1,_,by omega,by go_num,HD2,Y⟩
   case measure=>simp [intOf];omega
  ·obtain rfl:k=len:=by omega
   have Z:=X.out.1
   rw [Nat.sub_self,List.replicate_zero,List.append_nil] at Z
   have hm:=hD.out.2
   rw [List.take_of_length_le (by omega)] at hm
   have HF:Hid (D.map (fun x=>x.r)=xs∧OwnRo wr w.heap.size (.slice (some ⟨w.heap.size,0,none⟩) k k) D∧Below w.heap.size w wr):=⟨hm,Z,X.out.2⟩
   clear hm Z X hD
   go_wp2
   go_ret
   exact ⟨D,HF.out.1,rfl,HF.out.2.1,HF.out.2.2⟩
theorem OwnRo.put {w:World} {B q:Nat} {v:Value} {L:List RoX} (h:OwnRo w B v L) (hq:q<B) (o:Nat) (vs:List Value):OwnRo (w.setCells q o vs) B v L :=
 h.keepB (fun b hb=>(heap_cellsA vs o w).2 b (by have:=(h.lt b hb).1;omega))
structure TC (w:World) (ip b gt:Int) (gm wm:ByteArray) (rs:Int) (x y:Option Addr) (lenx capx leny capy:Nat) (cs:List Value) (W:World):Prop where
 a:Bx W w.heap.size [.int .i64 ip,.int .i64 b,.int .i64 gt,.string gm,.string wm,.int .i64 rs,.slice x lenx capx,.slice y leny capy]
 r:Bx W (w.heap.size+1) [.int .i64 0,.int .i64 0,.int .i64 0,.string ⟨#[]⟩,.string ⟨#[]⟩,.int .i64 0,.slice none 0 0,.slice none 0 0]
 n:Bx W (w.heap.size+1+1) cs
 b:Below w.heap.size w W
 z:w.heap.size+1+1+1≤W.heap.size
theorem TC.call {w:World} {ip b gt:Int} {gm wm:ByteArray} {rs:Int} {x y:Option Addr} {lenx capx leny capy:Nat} {cs:List Value} {W W':World} (h:TC w ip b gt gm wm rs x y lenx capx leny capy cs W) (hb:Below W.heap.size W W'):TC w ip b gt gm wm rs x y lenx capx leny capy cs W':=⟨h.a.below hb,h.r.below hb,h.n.below hb,h.b.trans (hb.mono h.b.size),Nat.le_trans h.z hb.size⟩
theorem TC.put {w:World} {ip b gt:Int} {gm wm:ByteArray} {rs:Int} {x y:Option Addr} {lenx capx leny capy:Nat} {cs:List Value} {W:World} (h:TC w ip b gt gm wm rs x y lenx capx leny capy cs W) (o:Nat) (vs:List Value):TC w ip b gt gm wm rs x y lenx capx leny capy (sets cs o vs) (W.setCells (w.heap.size+1+1) o vs) :=
 ⟨h.a.apartO vs (by omega),h.r.apartO vs (by omega),h.n.sets vs o _ _,below_cells (by omega) vs o _ h.b,by rw [(heap_cellsA vs o W).1];exact h.z⟩
set_option maxHeartbeats 8000000 in
theorem toConfig_own (ip b gt:Int) (gm wm:ByteArray) (rs:Int) (x y:Option Addr) (lenx capx leny capy:Nat) (ps:List PlaceV) (ros:List RoleV) (w:World) (h:Rw PlR 4 w x ps) (hl:ps.length=lenx) (h2:Rw (RoR 0) 5 w y ros) (hl2:ros.length=leny) (hx:lenx≤1048576) (hy:leny≤1048576) (hsz:∀ x,x ∈ ros→x.rs.length≤1048576) :
  Calls Tryz.prog 8 #[.agg #[.int .i64 ip,.int .i64 b,.int .i64 gt,.string gm,.string wm,.int .i64 rs,.slice x lenx capx,.slice y leny capy]] w fun e w'=>∃ (b1 b2:Nat) (L:List RoX),L.map (fun x=>x.r)=ros∧e=.returned (.agg #[.int .i64 ip,.int .i64 b,.int .i64 gt,.string gm,.string wm,.int .i64 rs,.slice (some ⟨b1,0,none⟩) lenx lenx,.slice (some ⟨b2,0,none⟩) leny leny])∧OwnS pv 4 135 w' w.heap.size (.slice (some ⟨b1,0,none⟩) lenx lenx) ps∧OwnRo w' w.heap.size (.slice (some ⟨b2,0,none⟩) leny leny) L∧Below w.heap.size w w':=by
 have HA:Hid (∀ w,Calls Tryz.prog 30 #[.agg #[.int .i64 ip,.int .i64 b]] w fun e w'=>e=.returned (.agg #[.int .i64 ip,.int .i64 b])∧Below w.heap.size w w'):=fun w=>toNet2 ip b w
 have HB:Hid (∀ W,Below w.heap.size w W→Calls Tryz.prog 31 #[.slice x lenx capx] W fun e w'=>∃ b1:Nat,e=.returned (.slice (some ⟨b1,0,none⟩) lenx lenx)∧OwnS pv 4 135 w' W.heap.size (.slice (some ⟨b1,0,none⟩) lenx lenx) ps∧Below W.heap.size W w'):=fun W bb=>(toPlaceS_own x lenx capx ps W (h.keep PlR.kp bb) hl hx).mono fun e w' ⟨h1,h2,_,h4⟩=>⟨_,h1,h2,h4⟩
 have HC:Hid (∀ W,Below w.heap.size w W→Calls Tryz.prog 32 #[.slice y leny capy] W fun e w'=>∃ (b2:Nat) (L:List RoX),L.map (fun x=>x.r)=ros∧e=.returned (.slice (some ⟨b2,0,none⟩) leny leny)∧OwnRo w' W.heap.size (.slice (some ⟨b2,0,none⟩) leny leny) L∧Below W.heap.size W w'):=fun W bb=>(toRoleS_own y leny capy ros W (h2.keep (RoR.kp 0) bb) hl2 hy hsz).mono fun e w' ⟨L,h1,h2,h3,h4⟩=>⟨_,L,h1,h2,h3,h4⟩
 clear h h2 hsz
 obtain ⟨W0,hW0⟩:∃ W0,W0=(((w.alloc (.cells #[.int .i64 ip,.int .i64 b,.int .i64 gt,.string gm,.string wm,.int .i64 rs,.slice x lenx capx,.slice y leny capy] 27)).alloc (.cells #[.int .i64 0,.int .i64 0,.int .i64 0,.string ⟨#[]⟩,.string ⟨#[]⟩,.int .i64 0,.slice none 0 0,.slice none 0 0] 40)).alloc (.cells #[.int .i64 0,.int .i64 0,.int .i64 0,.string ⟨#[]⟩,.string ⟨#[]⟩,.int .i64 0,.slice none 0 0,.slice none 0 0] 40)):=⟨_,rfl⟩
 have T0:Hid (TC w ip b gt gm wm rs x y lenx capx leny capy [.int .i64 0,.int .i64 0,.int .i64 0,.string ⟨#[]⟩,.string ⟨#[]⟩,.int .i64 0,.slice none 0 0,.slice none 0 0] W0):=by
  rw [hW0]
  refine ⟨?_,?_,?_,?_,?_⟩
  ·exact ((Bx.new w #[.int .i64 ip,.int .i64 b,.int .i64 gt,.string gm,.string wm,.int .i64 rs,.slice x lenx capx,.slice y leny capy] 27).below ((Below.refl _ _).alloc (Nat.le_refl _) _)).below ((Below.refl _ _).alloc (Nat.le_refl _) _)
  ·have h:=Bx.new (w.alloc (.cells #[.int .i64 ip,.int .i64 b,.int .i64 gt,.string gm,.string wm,.int .i64 rs,.slice x lenx capx,.slice y leny capy] 27)) #[.int .i64 0,.int .i64 0,.int .i64 0,.string ⟨#[]⟩,.string ⟨#[]⟩,.int .i64 0,.slice none 0 0,.slice none 0 0] 40
   rw [World.size_alloc] at h
   exact h.below ((Below.refl _ _).alloc (Nat.le_refl _) _)
  ·have h:=Bx.new ((w.alloc (.cells #[.int .i64 ip,.int .i64 b,.int .i64 gt,.string gm,.string wm,.int .i64 rs,.slice x lenx capx,.slice y leny capy] 27)).alloc (.cells #[.int .i64 0,.int .i64 0,.int .i64 0,.string ⟨#[]⟩,.string ⟨#[]⟩,.int .i64 0,.slice none 0 0,.slice none 0 0] 40)) #[.int .i64 0,.int .i64 0,.int .i64 0,.string ⟨#[]⟩,.string ⟨#[]⟩,.int .i64 0,.slice none 0 0,.slice none 0 0] 40
   rw [World.size_alloc,World.size_alloc] at h
   exact h
  ·exact (((Below.refl _ _).alloc (Nat.le_refl _) _).alloc (by simp) _).alloc (by simp;omega) _
  ·simp
 go_enter Tryz.func8,Tryz.ntmps8
 go_wp2_with fail
 rw [← hW0]
 refine (HA.out _).mono ?_
 rintro e w1 ⟨rfl,bx⟩
 have T1:Hid (TC w ip b gt gm wm rs x y lenx capx leny capy [.int .i64 0,.int .i64 0,.int .i64 0,.string ⟨#[]⟩,.string ⟨#[]⟩,.int .i64 0,.slice none 0 0,.slice none 0 0] w1):=T0.out.call bx
 clear bx T0 hW0 HA
 go_wp2_with (first | (refine wpl_putO 36 rfl _ _ rfl (w.heap.size+1+1) 0 _ rfl rfl T1.out.n rfl rfl rfl ?_;intro w2 hw2 _;have T2:Hid (TC w ip b gt gm wm rs x y lenx capx leny capy [.int .i64 ip,.int .i64 b,.int .i64 0,.string ⟨#[]⟩,.string ⟨#[]⟩,.int .i64 0,.slice none 0 0,.slice none 0 0] w2):=(by rw [hw2];exact T1.out.put 0 [.int .i64 ip,.int .i64 b]);clear hw2 T1 ;have k2:=T2.out.a.cell 2 rfl) | (refine wpl_put1 3 rfl _ _ rfl (w.heap.size+1+1) 2 (.int .i64 gt) rfl rfl T2.out.n rfl rfl rfl ?_;intro w3 hw3;have T3:Hid (TC w ip b gt gm wm rs x y lenx capx leny capy [.int .i64 ip,.int .i64 b,.int .i64 gt,.string ⟨#[]⟩,.string ⟨#[]⟩,.int .i64 0,.slice none 0 0,.slice none 0 0] w3):=(by rw [hw3];exact T2.out.put 2 [.int .i64 gt]);clear hw3 T2  k2;have k3:=T3.out.a.cell 3 rfl) | (refine wpl_put1 9 rfl _ _ rfl (w.heap.size+1+1) 3 (.string gm) rfl rfl T3.out.n rfl rfl rfl ?_;intro w4 hw4;have T4:Hid (TC w ip b gt gm wm rs x y lenx capx leny capy [.int .i64 ip,.int .i64 b,.int .i64 gt,.string gm,.string ⟨#[]⟩,.int .i64 0,.slice none 0 0,.slice none 0 0] w4):=(by rw [hw4];exact T3.out.put 3 [.string gm]);clear hw4 T3  k3;have k4:=T4.out.a.cell 4 rfl) | (refine wpl_put1 9 rfl _ _ rfl (w.heap.size+1+1) 4 (.string wm) rfl rfl T4.out.n rfl rfl rfl ?_;intro w5 hw5;have T5:Hid (TC w ip b gt gm wm rs x y lenx capx leny capy [.int .i64 ip,.int .i64 b,.int .i64 gt,.string gm,.string wm,.int .i64 0,.slice none 0 0,.slice none 0 0] w5):=(by rw [hw5];exact T4.out.put 4 [.string wm]);clear hw5 T4  k4;have k5:=T5.out.a.cell 5 rfl) | (refine wpl_put1 3 rfl _ _ rfl (w.heap.size+1+1) 5 (.int .i64 rs) rfl rfl T5.out.n rfl rfl rfl ?_;intro w6 hw6;have T6:Hid (TC w ip b gt gm wm rs x y lenx capx leny capy [.int .i64 ip,.int .i64 b,.int .i64 gt,.string gm,.string wm,.int .i64 rs,.slice none 0 0,.slice none 0 0] w6):=(by rw [hw6];exact T5.out.put 5 [.int .i64 rs]);clear hw6 T5  k5;have k6:=T6.out.a.cell 6 rfl) | fail)
 refine (HB.out _ T6.out.b).mono ?_
 rintro e w7 ⟨b1,rfl,op,bx⟩
 have T7:Hid (TC w ip b gt gm wm rs x y lenx capx leny capy [.int .i64 ip,.int .i64 b,.int .i64 gt,.string gm,.string wm,.int .i64 rs,.slice none 0 0,.slice none 0 0] w7):=T6.out.call bx
 have P7:Hid (OwnS pv 4 135 w7 (w.heap.size+1+1+1) (.slice (some ⟨b1,0,none⟩) lenx lenx) ps):=op.lower T6.out.z
 clear op bx T6 k6
 go_wp2_with (first | (refine wpl_put1 37 rfl _ _ rfl (w.heap.size+1+1) 6 (.slice (some ⟨b1,0,none⟩) lenx lenx) rfl rfl T7.out.n rfl rfl rfl ?_;intro w8 hw8;have T8:Hid (TC w ip b gt gm wm rs x y lenx capx leny capy [.int .i64 ip,.int .i64 b,.int .i64 gt,.string gm,.string wm,.int .i64 rs,.slice (some ⟨b1,0,none⟩) lenx lenx,.slice none 0 0] w8):=(by rw [hw8];exact T7.out.put 6 [.slice (some ⟨b1,0,none⟩) lenx lenx]);have P8:Hid (OwnS pv 4 135 w8 (w.heap.size+1+1+1) (.slice (some ⟨b1,0,none⟩) lenx lenx) ps):=(by rw [hw8];exact own_cellsC (by omega) _ _ _ P7.out);clear hw8 T7 P7;have k7:=T8.out.a.cell 7 rfl) | fail)
 refine (HC.out _ T8.out.b).mono ?_
 rintro e w9 ⟨b2,L,hL,rfl,orr,bx⟩
 have T9:Hid (TC w ip b gt gm wm rs x y lenx capx leny capy [.int .i64 ip,.int .i64 b,.int .i64 gt,.string gm,.string wm,.int .i64 rs,.slice (some ⟨b1,0,none⟩) lenx lenx,.slice none 0 0] w9):=T8.out.call bx
 have P9:Hid (OwnS pv 4 135 w9 (w.heap.size+1+1+1) (.slice (some ⟨b1,0,none⟩) lenx lenx) ps):=P8.out.now bx
 have R9:Hid (OwnRo w9 (w.heap.size+1+1+1) (.slice (some ⟨b2,0,none⟩) leny leny) L):=orr.lower T8.out.z
 clear orr bx T8 P8 k7
 go_wp2_with (first | (refine wpl_put1 38 rfl _ _ rfl (w.heap.size+1+1) 7 (.slice (some ⟨b2,0,none⟩) leny leny) rfl rfl T9.out.n rfl rfl rfl ?_;intro w10 hw10;have T10:Hid (TC w ip b gt gm wm rs x y lenx capx leny capy [.int .i64 ip,.int .i64 b,.int .i64 gt,.string gm,.string wm,.int .i64 rs,.slice (some ⟨b1,0,none⟩) lenx lenx,.slice (some ⟨b2,0,none⟩) leny leny] w10):=(by rw [hw10];exact T9.out.put 7 [.slice (some ⟨b2,0,none⟩) leny leny]);have P10:Hid (OwnS pv 4 135 w10 (w.heap.size+1+1+1) (.slice (some ⟨b1,0,none⟩) lenx lenx) ps):=(by rw [hw10];exact own_cellsC (by omega) _ _ _ P9.out);have R10:Hid (OwnRo w10 (w.heap.size+1+1+1) (.slice (some ⟨b2,0,none⟩) leny leny) L):=(by rw [hw10];exact R9.out.put (by omega) _ _);clear hw10 T9 P9 R9) | (refine wpl_getO 40 rfl _ rfl (w.heap.size+1+1) 0 [.int .i64 ip,.int .i64 b,.int .i64 gt,.string gm,.string wm,.int .i64 rs,.slice (some ⟨b1,0,none⟩) lenx lenx,.slice (some ⟨b2,0,none⟩) leny leny] rfl T10.out.n rfl _ Tryz.underlying40 rfl rfl ?_) | (refine wpl_putO 40 rfl _ _ rfl (w.heap.size+1) 0 _ rfl rfl T10.out.r rfl rfl rfl ?_;intro w11 hw11 R11;have B11:Hid (Below w.heap.size w w11):=(by rw [hw11];exact below_cells (by omega) _ _ _ T10.out.b);have P11:Hid (OwnS pv 4 135 w11 (w.heap.size+1+1+1) (.slice (some ⟨b1,0,none⟩) lenx lenx) ps):=(by rw [hw11];exact own_cellsC (by omega) _ _ _ P10.out);have Q11:Hid (OwnRo w11 (w.heap.size+1+1+1) (.slice (some ⟨b2,0,none⟩) leny leny) L):=(by rw [hw11];exact R10.out.put (by omega) _ _);clear hw11) | fail)
 refine bodyPost_ret (v:=.agg #[.int .i64 ip,.int .i64 b,.int .i64 gt,.string gm,.string wm,.int .i64 rs,.slice (some ⟨b1,0,none⟩) lenx lenx,.slice (some ⟨b2,0,none⟩) leny leny]) (results_cell Tryz.results8 (w.heap.size+1) rfl R11 _ Tryz.underlying40 rfl rfl) rfl ?_
 exact ⟨b1,b2,L,hL,rfl,P11.out.lower (by omega),Q11.out.lower (by omega),B11.out⟩
structure CfSz (c:CfV):Prop where
 gm:c.gm.size≤1048576
 wm:c.wm.size≤1048576
 ps:c.ps.length≤1048576
 ros:c.ros.length≤1048576
 szr:SzR c.ros
 szt:szR c.ros≤1048576
structure CfBd (C:CfA) (c:CfV):Prop where
 gm:c.gm.size≤maxLen
 wm:c.wm.size≤maxLen
 ps:c.ps.length≤maxLen
 ros:c.ros.length≤maxLen
theorem cf_sz (C:CfA) (c:CfV) (w:World) (h:CfR w C c) (hb:CfBd C c) :
  Calls Tryz.prog 5 #[.agg #[.int .i64 c.ip,.int .i64 c.b,.int .i64 c.gt,.string c.gm,.string c.wm,.int .i64 c.rs,.slice C.x c.ps.length C.xc,.slice C.y c.ros.length C.yc],.int .i64 1048576] w fun e w'=>∃ r:Int,e=.returned (.int .i64 r)∧(0≤r→CfSz c)∧(r≤1048576)∧Below w.heap.size w w':=by
 have h1:=hb.gm;have h2:=hb.wm;have h3:=hb.ps;have h4:=hb.ros
 unfold maxLen at h1 h2 h3 h4
 refine (szConfig_any c.ip c.b c.gt c.gm c.wm c.rs C.x C.y c.ps.length C.xc c.ros.length C.yc c.ps c.ros w h.ps rfl h.ros rfl (by omega) (by omega) (by omega) (by omega)).mono ?_
 rintro e w' ⟨r,h1,h2,h3,h4,h5⟩
 refine ⟨r,h1,fun h0=>?_,h4,h5.below⟩
 have a:=h2 h0
 have n:=szR_nonneg c.ros
 exact ⟨by omega,by omega,by omega,by omega,SzR_of (n:=1048576) (by omega) (by omega),by omega⟩
theorem cf_to (C:CfA) (c:CfV) (w:World) (h:CfR w C c) (hs:CfSz c) :
  Calls Tryz.prog 8 #[.agg #[.int .i64 c.ip,.int .i64 c.b,.int .i64 c.gt,.string c.gm,.string c.wm,.int .i64 c.rs,.slice C.x c.ps.length C.xc,.slice C.y c.ros.length C.yc]] w fun e w'=>∃ C' L,e=.returned (.agg #[.int .i64 c.ip,.int .i64 c.b,.int .i64 c.gt,.string c.gm,.string c.wm,.int .i64 c.rs,.slice C'.x c.ps.length C'.xc,.slice C'.y c.ros.length C'.yc])∧OwnCf w' w.heap.size C' c L∧Below w.heap.size w w':=by
 refine (toConfig_own c.ip c.b c.gt c.gm c.wm c.rs C.x C.y c.ps.length C.xc c.ros.length C.yc c.ps c.ros w h.ps rfl h.ros rfl hs.ps hs.ros (fun x hx=>(hs.szr x hx).2)).mono ?_
 rintro e w' ⟨b1,b2,L,h1,h2,h3,h4,h5⟩
 exact ⟨⟨some ⟨b1,0,none⟩,some ⟨b2,0,none⟩,c.ps.length,c.ros.length⟩,L,h2,⟨h1,h3,h4⟩,h5⟩
theorem cf_eq (C C':CfA) (c:CfV) (w:World) (h:CfR w C c) (h':CfR w C' c) (hs:CfSz c) :
  Calls Tryz.prog 12 #[.agg #[.int .i64 c.ip,.int .i64 c.b,.int .i64 c.gt,.string c.gm,.string c.wm,.int .i64 c.rs,.slice C.x c.ps.length C.xc,.slice C.y c.ros.length C.yc],.agg #[.int .i64 c.ip,.int .i64 c.b,.int .i64 c.gt,.string c.gm,.string c.wm,.int .i64 c.rs,.slice C'.x c.ps.length C'.xc,.slice C'.y c.ros.length C'.yc]] w fun e w'=>e=.returned (.bool true)∧Below w.heap.size w w' :=
 (eqConfig_caps c.ip c.b c.gt c.gm c.wm c.rs C.x C.y C'.x C'.y c.ps.length c.ros.length C.xc C.yc C'.xc C'.yc c.ps c.ros w h.ps h'.ps rfl h.ros h'.ros rfl hs.ps hs.ros hs.szr).mono fun e w' h=>⟨h.1,h.2.below⟩
theorem roN_bd:∀ (L:List RoX),(roN L:Int)≤4 * L.length+6 * szR (L.map (fun x=>x.r))
 | []=>by simp [roN,szR]
 | x :: L=>by
  have:=roN_bd L
  have n:=szR_nonneg (L.map (fun x=>x.r))
  rw [List.map_cons,szR_cons]
  simp only [roN,List.length_cons]
  omega
def cfN (c:CfV) (L:List RoX):Nat:=4 * c.ps.length+roN L
theorem cfN_bd {c:CfV} {L:List RoX} (hl:L.map (fun x=>x.r)=c.ros) (hs:CfSz c):cfN c L≤20000000:=by
 have h1:=roN_bd L
 have h2:=hs.szt
 have h3:=hs.ps
 have h4:=hs.ros
 rw [hl] at h1
 have h5:L.length=c.ros.length:=by rw [← hl];simp
 unfold cfN
 omega
theorem cf_mark (C:CfA) (c:CfV) (L:List RoX) (B m0:Nat) (w:World) (h:OwnCf w B C c L) (hs:CfSz c) (h0:0<m0) (h1:m0≤1000000000) :
  Calls Tryz.prog 14 #[.agg #[.int .i64 c.ip,.int .i64 c.b,.int .i64 c.gt,.string c.gm,.string c.wm,.int .i64 c.rs,.slice C.x c.ps.length C.xc,.slice C.y c.ros.length C.yc],.int .i64 (m0:Int)] w fun e w'=>e=.returned (.int .i64 ((m0+cfN c L:Nat):Int))∧Rel.Keep (fun k=>k<w.heap.size∧¬ cfB C c L k) w w':=by
 have hb:=cfN_bd h.ro hs
 unfold cfN at hb ⊢
 refine (markConfig_any c.ip c.b c.gt c.gm c.wm c.rs C.x C.y c.ps.length C.xc c.ros.length C.yc c.ps L B m0 w h.ps h.rs h0 (by omega) hs.ros).mono ?_
 rintro e w' ⟨h1,h2,h3,h4⟩
 exact ⟨by rw [h1];congr 2;omega,h4⟩
set_option maxHeartbeats 8000000 in
theorem toGuests_own (ua sa fa ra:Option Addr) (ul uc sl sc fl fc rl rc:Nat) (us:List UserV) (ss:List SessV) (fs:List FailV) (rs:List RecV) (nx:Int) (w:World) (hu:Rw UsR 6 w ua us) (lu:us.length=ul) (mu:ul≤1048576) (hs:Rw SeR 10 w sa ss) (ls:ss.length=sl) (ms:sl≤1048576) (hf:Rw FaR 3 w fa fs) (lf:fs.length=fl) (mf:fl≤1048576) (hr:Rw ReR 5 w ra rs) (lr:rs.length=rl) (mr:rl≤1048576) :
  Calls Tryz.prog 9 #[.agg #[.slice ua ul uc,.slice sa sl sc,.slice fa fl fc,.slice ra rl rc,.int .i64 nx]] w fun e w'=>∃ bu bs bf br:Nat,e=.returned (.agg #[(.slice (some ⟨bu,0,none⟩) ul ul),(.slice (some ⟨bs,0,none⟩) sl sl),(.slice (some ⟨bf,0,none⟩) fl fl),(.slice (some ⟨br,0,none⟩) rl rl),.int .i64 nx])∧Own4 w' w.heap.size (.slice (some ⟨bu,0,none⟩) ul ul) (.slice (some ⟨bs,0,none⟩) sl sl) (.slice (some ⟨bf,0,none⟩) fl fl) (.slice (some ⟨br,0,none⟩) rl rl) us ss fs rs∧((∀ x,x ∈ us→UsRok x)∧(∀ x,x ∈ ss→SeRok x)∧(∀ x,x ∈ fs→FaRok x)∧(∀ x,x ∈ rs→ReRok x))∧Below w.heap.size w w':=by
 have Hu:Hid (∀ wx,Below w.heap.size w wx→Calls Tryz.prog 33 #[.slice ua ul uc] wx fun e w'=>e=.returned (.slice (some ⟨wx.heap.size,0,none⟩) ul ul)∧OwnS uvG 6 144 w' wx.heap.size (.slice (some ⟨wx.heap.size,0,none⟩) ul ul) us∧(∀ x,x ∈ us→UsRok x)∧Below wx.heap.size wx w'):=fun wx hb=>toUserS_own ua ul uc us wx (hu.keep UsR.kp hb) lu mu
 have Hs:Hid (∀ wx,Below w.heap.size w wx→Calls Tryz.prog 34 #[.slice sa sl sc] wx fun e w'=>e=.returned (.slice (some ⟨wx.heap.size,0,none⟩) sl sl)∧OwnS svG 10 124 w' wx.heap.size (.slice (some ⟨wx.heap.size,0,none⟩) sl sl) ss∧(∀ x,x ∈ ss→SeRok x)∧Below wx.heap.size wx w'):=fun wx hb=>toSessionS_own sa sl sc ss wx (hs.keep SeR.kp hb) ls ms
 have Hf:Hid (∀ wx,Below w.heap.size w wx→Calls Tryz.prog 35 #[.slice fa fl fc] wx fun e w'=>e=.returned (.slice (some ⟨wx.heap.size,0,none⟩) fl fl)∧OwnS fvG 3 127 w' wx.heap.size (.slice (some ⟨wx.heap.size,0,none⟩) fl fl) fs∧(∀ x,x ∈ fs→FaRok x)∧Below wx.heap.size wx w'):=fun wx hb=>toFailS_own fa fl fc fs wx (hf.keep FaR.kp hb) lf mf
 have Hr:Hid (∀ wx,Below w.heap.size w wx→Calls Tryz.prog 36 #[.slice ra rl rc] wx fun e w'=>e=.returned (.slice (some ⟨wx.heap.size,0,none⟩) rl rl)∧OwnS evG 5 129 w' wx.heap.size (.slice (some ⟨wx.heap.size,0,none⟩) rl rl) rs∧(∀ x,x ∈ rs→ReRok x)∧Below wx.heap.size wx w'):=fun wx hb=>toRecordS_own ra rl rc rs wx (hr.keep ReR.kp hb) lr mr
 clear hu hs hf hr
 have G0:Bo (((w.alloc (.cells #[.slice ua ul uc,.slice sa sl sc,.slice fa fl fc,.slice ra rl rc,.int .i64 nx] 33)).alloc (.cells #[.slice none 0 0,.slice none 0 0,.slice none 0 0,.slice none 0 0,.int .i64 0] 46)).alloc (.cells #[.slice none 0 0,.slice none 0 0,.slice none 0 0,.slice none 0 0,.int .i64 0] 46)) w.heap.size 33 [.slice ua ul uc,.slice sa sl sc,.slice fa fl fc,.slice ra rl rc,.int .i64 nx]:=((Bo.new w #[.slice ua ul uc,.slice sa sl sc,.slice fa fl fc,.slice ra rl rc,.int .i64 nx] _).below ((Below.refl _ _).alloc (Nat.le_refl _) _)).below ((Below.refl _ _).alloc (Nat.le_refl _) _)
 have R0:Bo (((w.alloc (.cells #[.slice ua ul uc,.slice sa sl sc,.slice fa fl fc,.slice ra rl rc,.int .i64 nx] 33)).alloc (.cells #[.slice none 0 0,.slice none 0 0,.slice none 0 0,.slice none 0 0,.int .i64 0] 46)).alloc (.cells #[.slice none 0 0,.slice none 0 0,.slice none 0 0,.slice none 0 0,.int .i64 0] 46)) (w.heap.size+1) 46 [.slice none 0 0,.slice none 0 0,.slice none 0 0,.slice none 0 0,.int .i64 0]:=by
  have h:=(Bo.new (w.alloc (.cells #[.slice ua ul uc,.slice sa sl sc,.slice fa fl fc,.slice ra rl rc,.int .i64 nx] 33)) #[.slice none 0 0,.slice none 0 0,.slice none 0 0,.slice none 0 0,.int .i64 0] 46).below ((Below.refl _ ((w.alloc (.cells #[.slice ua ul uc,.slice sa sl sc,.slice fa fl fc,.slice ra rl rc,.int .i64 nx] 33)).alloc (.cells #[.slice none 0 0,.slice none 0 0,.slice none 0 0,.slice none 0 0,.int .i64 0] 46))).alloc (Nat.le_refl _) (.cells #[.slice none 0 0,.slice none 0 0,.slice none 0 0,.slice none 0 0,.int .i64 0] 46))
  rw [World.size_alloc] at h
  exact h
 have N0:Bo (((w.alloc (.cells #[.slice ua ul uc,.slice sa sl sc,.slice fa fl fc,.slice ra rl rc,.int .i64 nx] 33)).alloc (.cells #[.slice none 0 0,.slice none 0 0,.slice none 0 0,.slice none 0 0,.int .i64 0] 46)).alloc (.cells #[.slice none 0 0,.slice none 0 0,.slice none 0 0,.slice none 0 0,.int .i64 0] 46)) (w.heap.size+1+1) 46 [.slice none 0 0,.slice none 0 0,.slice none 0 0,.slice none 0 0,.int .i64 0]:=by
  have h:=Bo.new ((w.alloc (.cells #[.slice ua ul uc,.slice sa sl sc,.slice fa fl fc,.slice ra rl rc,.int .i64 nx] 33)).alloc (.cells #[.slice none 0 0,.slice none 0 0,.slice none 0 0,.slice none 0 0,.int .i64 0] 46)) #[.slice none 0 0,.slice none 0 0,.slice none 0 0,.slice none 0 0,.int .i64 0] 46
  rw [World.size_alloc,World.size_alloc] at h
  exact h
 have B0:Hid (Below w.heap.size w (((w.alloc (.cells #[.slice ua ul uc,.slice sa sl sc,.slice fa fl fc,.slice ra rl rc,.int .i64 nx] 33)).alloc (.cells #[.slice none 0 0,.slice none 0 0,.slice none 0 0,.slice none 0 0,.int .i64 0] 46)).alloc (.cells #[.slice none 0 0,.slice none 0 0,.slice none 0 0,.slice none 0 0,.int .i64 0] 46))):=(((Below.refl _ _).alloc (Nat.le_refl _) _).alloc (by simp) _).alloc (by simp;omega) _
 have c0:=G0.cell 0 rfl
 go_enter Tryz.func9,Tryz.ntmps9
 go_wp2_with fail
 refine (Hu.out _ B0.out).mono ?_
 rintro e w1 ⟨rfl,Ou_,ku,b1⟩
 have G1a:=G0.below b1
 have R1a:=R0.below b1
 have N1a:=N0.below b1
 have B1a:Hid (Below w.heap.size w w1):=B0.out.trans (b1.mono B0.out.size)
 replace ku:Hid _:=ku
 replace Ou_:=Ou_.lower B0.out.size
 clear b1 G0 R0 N0 B0 c0
 obtain ⟨bu,hbu⟩:∃ b,b=(((w.alloc (.cells #[.slice ua ul uc,.slice sa sl sc,.slice fa fl fc,.slice ra rl rc,.int .i64 nx] 33)).alloc (.cells #[.slice none 0 0,.slice none 0 0,.slice none 0 0,.slice none 0 0,.int .i64 0] 46)).alloc (.cells #[.slice none 0 0,.slice none 0 0,.slice none 0 0,.slice none 0 0,.int .i64 0] 46)).heap.size:=⟨_,rfl⟩
 rw [← hbu] at Ou_
 have hsu:w.heap.size+1+1+1=bu:=by rw [hbu];simp
 (first | rw [← hbu] | rw [hsu])
 clear hbu hsu
 have ca:=N1a.cell 0 rfl
 have za:=N1a.thaw 0 (by simp)
 have cg:=G1a.cell 1 rfl
 have G1:=G1a.far ⟨w.heap.size+1+1,0,none⟩ (.slice (some ⟨bu,0,none⟩) ul ul) (by show w.heap.size+1+1 ≠ w.heap.size;omega)
 have R1:=R1a.far ⟨w.heap.size+1+1,0,none⟩ (.slice (some ⟨bu,0,none⟩) ul ul) (by show w.heap.size+1+1 ≠ w.heap.size+1;omega)
 have N1:Bo (w1.setCell ⟨w.heap.size+1+1,0,none⟩ (.slice (some ⟨bu,0,none⟩) ul ul)) (w.heap.size+1+1) 46 [(.slice (some ⟨bu,0,none⟩) ul ul),.slice none 0 0,.slice none 0 0,.slice none 0 0,.int .i64 0]:=N1a.field 0 (.slice (some ⟨bu,0,none⟩) ul ul)
 have B1:Hid (Below w.heap.size w (w1.setCell ⟨w.heap.size+1+1,0,none⟩ (.slice (some ⟨bu,0,none⟩) ul ul))):=B1a.out.setCell (by show w.heap.size≤w.heap.size+1+1;omega) _
 replace Ou_:=Ou_.box N1a (by decide) 0 (.slice (some ⟨bu,0,none⟩) ul ul)
 have c1:=G1.cell 1 rfl
 clear G1a R1a N1a B1a
 go_wp2_with fail
 refine (Hs.out _ B1.out).mono ?_
 rintro e w2 ⟨rfl,Os_,ks,b2⟩
 have G2a:=G1.below b2
 have R2a:=R1.below b2
 have N2a:=N1.below b2
 have B2a:Hid (Below w.heap.size w w2):=B1.out.trans (b2.mono B1.out.size)
 replace ks:Hid _:=ks
 replace Ou_:=Ou_.now b2
 replace Os_:=Os_.lower B1.out.size
 clear b2 G1 R1 N1 B1 c1
 obtain ⟨bs,hbs⟩:∃ b,b=(w1.setCell ⟨w.heap.size+1+1,0,none⟩ (.slice (some ⟨bu,0,none⟩) ul ul)).heap.size:=⟨_,rfl⟩
 rw [← hbs] at Os_
 have hss:w1.heap.size=bs:=by rw [hbs];simp
 (first | rw [← hbs] | rw [hss])
 clear hbs hss
 have ca:=N2a.cell 1 rfl
 have za:=N2a.thaw 1 (by simp)
 have cg:=G2a.cell 2 rfl
 have G2:=G2a.far ⟨w.heap.size+1+1,1,none⟩ (.slice (some ⟨bs,0,none⟩) sl sl) (by show w.heap.size+1+1 ≠ w.heap.size;omega)
 have R2:=R2a.far ⟨w.heap.size+1+1,1,none⟩ (.slice (some ⟨bs,0,none⟩) sl sl) (by show w.heap.size+1+1 ≠ w.heap.size+1;omega)
 have N2:Bo (w2.setCell ⟨w.heap.size+1+1,1,none⟩ (.slice (some ⟨bs,0,none⟩) sl sl)) (w.heap.size+1+1) 46 [(.slice (some ⟨bu,0,none⟩) ul ul),(.slice (some ⟨bs,0,none⟩) sl sl),.slice none 0 0,.slice none 0 0,.int .i64 0]:=N2a.field 1 (.slice (some ⟨bs,0,none⟩) sl sl)
 have B2:Hid (Below w.heap.size w (w2.setCell ⟨w.heap.size+1+1,1,none⟩ (.slice (some ⟨bs,0,none⟩) sl sl))):=B2a.out.setCell (by show w.heap.size≤w.heap.size+1+1;omega) _
 replace Ou_:=Ou_.box N2a (by decide) 1 (.slice (some ⟨bs,0,none⟩) sl sl)
 replace Os_:=Os_.box N2a (by decide) 1 (.slice (some ⟨bs,0,none⟩) sl sl)
 have c2:=G2.cell 2 rfl
 clear G2a R2a N2a B2a
 go_wp2_with fail
 refine (Hf.out _ B2.out).mono ?_
 rintro e w3 ⟨rfl,Of_,kf,b3⟩
 have G3a:=G2.below b3
 have R3a:=R2.below b3
 have N3a:=N2.below b3
 have B3a:Hid (Below w.heap.size w w3):=B2.out.trans (b3.mono B2.out.size)
 replace kf:Hid _:=kf
 replace Ou_:=Ou_.now b3
 replace Os_:=Os_.now b3
 replace Of_:=Of_.lower B2.out.size
 clear b3 G2 R2 N2 B2 c2
 obtain ⟨bf,hbf⟩:∃ b,b=(w2.setCell ⟨w.heap.size+1+1,1,none⟩ (.slice (some ⟨bs,0,none⟩) sl sl)).heap.size:=⟨_,rfl⟩
 rw [← hbf] at Of_
 have hsf:w2.heap.size=bf:=by rw [hbf];simp
 (first | rw [← hbf] | rw [hsf])
 clear hbf hsf
 have ca:=N3a.cell 2 rfl
 have za:=N3a.thaw 2 (by simp)
 have cg:=G3a.cell 3 rfl
 have G3:=G3a.far ⟨w.heap.size+1+1,2,none⟩ (.slice (some ⟨bf,0,none⟩) fl fl) (by show w.heap.size+1+1 ≠ w.heap.size;omega)
 have R3:=R3a.far ⟨w.heap.size+1+1,2,none⟩ (.slice (some ⟨bf,0,none⟩) fl fl) (by show w.heap.size+1+1 ≠ w.heap.size+1;omega)
 have N3:Bo (w3.setCell ⟨w.heap.size+1+1,2,none⟩ (.slice (some ⟨bf,0,none⟩) fl fl)) (w.heap.size+1+1) 46 [(.slice (some ⟨bu,0,none⟩) ul ul),(.slice (some ⟨bs,0,none⟩) sl sl),(.slice (some ⟨bf,0,none⟩) fl fl),.slice none 0 0,.int .i64 0]:=N3a.field 2 (.slice (some ⟨bf,0,none⟩) fl fl)
 have B3:Hid (Below w.heap.size w (w3.setCell ⟨w.heap.size+1+1,2,none⟩ (.slice (some ⟨bf,0,none⟩) fl fl))):=B3a.out.setCell (by show w.heap.size≤w.heap.size+1+1;omega) _
 replace Ou_:=Ou_.box N3a (by decide) 2 (.slice (some ⟨bf,0,none⟩) fl fl)
 replace Os_:=Os_.box N3a (by decide) 2 (.slice (some ⟨bf,0,none⟩) fl fl)
 replace Of_:=Of_.box N3a (by decide) 2 (.slice (some ⟨bf,0,none⟩) fl fl)
 have c3:=G3.cell 3 rfl
 clear G3a R3a N3a B3a
 go_wp2_with fail
 refine (Hr.out _ B3.out).mono ?_
 rintro e w4 ⟨rfl,Or_,kr,b4⟩
 have G4a:=G3.below b4
 have R4a:=R3.below b4
 have N4a:=N3.below b4
 have B4a:Hid (Below w.heap.size w w4):=B3.out.trans (b4.mono B3.out.size)
 replace kr:Hid _:=kr
 replace Ou_:=Ou_.now b4
 replace Os_:=Os_.now b4
 replace Of_:=Of_.now b4
 replace Or_:=Or_.lower B3.out.size
 clear b4 G3 R3 N3 B3 c3
 obtain ⟨br,hbr⟩:∃ b,b=(w3.setCell ⟨w.heap.size+1+1,2,none⟩ (.slice (some ⟨bf,0,none⟩) fl fl)).heap.size:=⟨_,rfl⟩
 rw [← hbr] at Or_
 have hsr:w3.heap.size=br:=by rw [hbr];simp
 (first | rw [← hbr] | rw [hsr])
 clear hbr hsr
 have ca:=N4a.cell 3 rfl
 have za:=N4a.thaw 3 (by simp)
 have cg:=G4a.cell 4 rfl
 have G4:=G4a.far ⟨w.heap.size+1+1,3,none⟩ (.slice (some ⟨br,0,none⟩) rl rl) (by show w.heap.size+1+1 ≠ w.heap.size;omega)
 have R4:=R4a.far ⟨w.heap.size+1+1,3,none⟩ (.slice (some ⟨br,0,none⟩) rl rl) (by show w.heap.size+1+1 ≠ w.heap.size+1;omega)
 have N4:Bo (w4.setCell ⟨w.heap.size+1+1,3,none⟩ (.slice (some ⟨br,0,none⟩) rl rl)) (w.heap.size+1+1) 46 [(.slice (some ⟨bu,0,none⟩) ul ul),(.slice (some ⟨bs,0,none⟩) sl sl),(.slice (some ⟨bf,0,none⟩) fl fl),(.slice (some ⟨br,0,none⟩) rl rl),.int .i64 0]:=N4a.field 3 (.slice (some ⟨br,0,none⟩) rl rl)
 have B4:Hid (Below w.heap.size w (w4.setCell ⟨w.heap.size+1+1,3,none⟩ (.slice (some ⟨br,0,none⟩) rl rl))):=B4a.out.setCell (by show w.heap.size≤w.heap.size+1+1;omega) _
 replace Ou_:=Ou_.box N4a (by decide) 3 (.slice (some ⟨br,0,none⟩) rl rl)
 replace Os_:=Os_.box N4a (by decide) 3 (.slice (some ⟨br,0,none⟩) rl rl)
 replace Of_:=Of_.box N4a (by decide) 3 (.slice (some ⟨br,0,none⟩) rl rl)
 replace Or_:=Or_.box N4a (by decide) 3 (.slice (some ⟨br,0,none⟩) rl rl)
 have c4:=G4.cell 4 rfl
 clear G4a R4a N4a B4a
 have cn:=N4.cell 4 rfl
 have zn:=N4.thaw 4 (by simp)
 have N5:=N4.field 4 (.int .i64 nx)
 have R5:=R4.far ⟨w.heap.size+1+1,4,none⟩ (.int .i64 nx) (by show w.heap.size+1+1 ≠ w.heap.size+1;omega)
 have B5:Hid (Below w.heap.size w ((w4.setCell ⟨w.heap.size+1+1,3,none⟩ (.slice (some ⟨br,0,none⟩) rl rl)).setCell ⟨w.heap.size+1+1,4,none⟩ (.int .i64 nx))):=B4.out.setCell (by show w.heap.size≤w.heap.size+1+1;omega) _
 replace Ou_:=Ou_.box N4 (by decide) 4 (.int .i64 nx)
 replace Os_:=Os_.box N4 (by decide) 4 (.int .i64 nx)
 replace Of_:=Of_.box N4 (by decide) 4 (.int .i64 nx)
 replace Or_:=Or_.box N4 (by decide) 4 (.int .i64 nx)
 have N5x:=N5.bx
 have R5x:=R5.bx
 go_wp2_with (first | (refine wpl_getT 46 rfl _ rfl _ rfl N5x _ Tryz.underlying46 rfl rfl ?_) | (refine wpl_putT 46 rfl _ _ rfl (w.heap.size+1) _ rfl rfl R5x rfl rfl rfl ?_;intro w6 hw6 R6;have B6:Hid (Below w.heap.size w w6):=(by rw [hw6];exact below_cells (by omega) _ _ _ B5.out);have O6:Hid (Own4 w6 w.heap.size (.slice (some ⟨bu,0,none⟩) ul ul) (.slice (some ⟨bs,0,none⟩) sl sl) (.slice (some ⟨bf,0,none⟩) fl fl) (.slice (some ⟨br,0,none⟩) rl rl) us ss fs rs):=(by rw [hw6];exact own4_of (OwnS.boxes _ _ _ _ Ou_ R5 (by decide)) (OwnS.boxes _ _ _ _ Os_ R5 (by decide)) (OwnS.boxes _ _ _ _ Of_ R5 (by decide)) (OwnS.boxes _ _ _ _ Or_ R5 (by decide)) (Nat.le_refl _));clear hw6) | fail)
 have xx0:w6.cell? ⟨w.heap.size+1,0,none⟩=some ((.slice (some ⟨bu,0,none⟩) ul ul)):=R6.cell 0 rfl
 have xx1:w6.cell? ⟨w.heap.size+1,1,none⟩=some ((.slice (some ⟨bs,0,none⟩) sl sl)):=R6.cell 1 rfl
 have xx2:w6.cell? ⟨w.heap.size+1,2,none⟩=some ((.slice (some ⟨bf,0,none⟩) fl fl)):=R6.cell 2 rfl
 have xx3:w6.cell? ⟨w.heap.size+1,3,none⟩=some ((.slice (some ⟨br,0,none⟩) rl rl)):=R6.cell 3 rfl
 have xx4:w6.cell? ⟨w.heap.size+1,4,none⟩=some (.int .i64 nx):=R6.cell 4 rfl
 (try simp only [Exit.inBlock,Exit.then])
 refine bodyPost_ret (v:=.agg #[(.slice (some ⟨bu,0,none⟩) ul ul),(.slice (some ⟨bs,0,none⟩) sl sl),(.slice (some ⟨bf,0,none⟩) fl fl),(.slice (some ⟨br,0,none⟩) rl rl),.int .i64 nx]) (by simp [results,Tryz.results9,go_sem,xx0,xx1,xx2,xx3,xx4];try rfl) rfl ?_
 exact ⟨_,_,_,_,rfl,O6.out,⟨ku.out,ks.out,kf.out,kr.out⟩,B6.out⟩
structure HuSz (h:HuV):Prop where
 us:h.us.length≤1048576
 ss:h.ss.length≤1048576
 fs:h.fs.length≤1048576
 es:h.es.length≤1048576
 szu:szL wtUser h.us≤1048576
 szs:szL wtSession h.ss≤1048576
 szf:szL wtFail h.fs≤1048576
structure HuBd (A:HuA) (h:HuV):Prop where
 us:h.us.length≤maxLen
 ss:h.ss.length≤maxLen
 fs:h.fs.length≤maxLen
 es:h.es.length≤maxLen
structure HuLn (h:HuV):Prop where
 us:h.us.length≤1048576
 ss:h.ss.length≤1048576
 fs:h.fs.length≤1048576
 es:h.es.length≤1048576
theorem HuSz.ln {h:HuV} (o:HuSz h):HuLn h:=⟨o.us,o.ss,o.fs,o.es⟩
theorem hu_sz (A:HuA) (h:HuV) (l:Int) (w:World) (o:HuR w A h) (hb:HuBd A h) (h0:0≤l) (h1:l≤1048576) :
  Calls Tryz.prog 6 #[.agg #[.slice A.u h.us.length A.uc,.slice A.s h.ss.length A.sc,.slice A.f h.fs.length A.fc,.slice A.r h.es.length A.rc,.int .i64 h.nx],.int .i64 l] w fun e w'=>∃ r:Int,e=.returned (.int .i64 r)∧(0≤r→HuSz h)∧(r≤1048576)∧Below w.heap.size w w':=by
 have k1:=hb.us;have k2:=hb.ss;have k3:=hb.fs;have k4:=hb.es
 unfold maxLen at k1 k2 k3 k4
 refine (szGuests_any A.u A.s A.f A.r h.us.length A.uc h.ss.length A.sc h.fs.length A.fc h.es.length A.rc h.us h.ss h.fs h.es h.nx l w o.us rfl o.ss rfl o.fs rfl o.es rfl (by omega) (by omega) (by omega) (by omega) h0 h1).mono ?_
 rintro e w' ⟨r,h1,h2,h3,h4,h5⟩
 refine ⟨r,h1,fun h0=>?_,h4,h5.below⟩
 have a:=h2 h0
 have nu:=szL_nonneg wtUser_nn h.us
 have ns:=szL_nonneg wtSession_nn h.ss
 have nf:=szL_nonneg wtFail_nn h.fs
 exact ⟨by omega,by omega,by omega,by omega,by omega,by omega,by omega⟩
theorem hu_to (A:HuA) (h:HuV) (w:World) (o:HuR w A h) (hs:HuLn h) :
  Calls Tryz.prog 9 #[.agg #[.slice A.u h.us.length A.uc,.slice A.s h.ss.length A.sc,.slice A.f h.fs.length A.fc,.slice A.r h.es.length A.rc,.int .i64 h.nx]] w fun e w'=>∃ A',e=.returned (.agg #[.slice A'.u h.us.length A'.uc,.slice A'.s h.ss.length A'.sc,.slice A'.f h.fs.length A'.fc,.slice A'.r h.es.length A'.rc,.int .i64 h.nx])∧OwnHu w' w.heap.size A' h∧Below w.heap.size w w':=by
 refine (toGuests_own A.u A.s A.f A.r h.us.length A.uc h.ss.length A.sc h.fs.length A.fc h.es.length A.rc h.us h.ss h.fs h.es h.nx w o.us rfl hs.us o.ss rfl hs.ss o.fs rfl hs.fs o.es rfl hs.es).mono ?_
 rintro e w' ⟨b1,b2,b3,b4,h1,h2,-,h3⟩
 exact ⟨⟨some ⟨b1,0,none⟩,some ⟨b2,0,none⟩,some ⟨b3,0,none⟩,some ⟨b4,0,none⟩,h.us.length,h.ss.length,h.fs.length,h.es.length⟩,h1,h2,h3⟩
theorem hu_eq (A A':HuA) (h:HuV) (w:World) (o:HuR w A h) (o':HuR w A' h) (hs:HuLn h) :
  Calls Tryz.prog 13 #[.agg #[.slice A.u h.us.length A.uc,.slice A.s h.ss.length A.sc,.slice A.f h.fs.length A.fc,.slice A.r h.es.length A.rc,.int .i64 h.nx],.agg #[.slice A'.u h.us.length A'.uc,.slice A'.s h.ss.length A'.sc,.slice A'.f h.fs.length A'.fc,.slice A'.r h.es.length A'.rc,.int .i64 h.nx]] w fun e w'=>e=.returned (.bool true)∧Below w.heap.size w w':=by
 have k1:=hs.us;have k2:=hs.ss;have k3:=hs.fs;have k4:=hs.es
 exact (eqGuests_yes A.u A.s A.f A.r A'.u A'.s A'.f A'.r h.us.length A.uc A'.uc h.ss.length A.sc A'.sc h.fs.length A.fc A'.fc h.es.length A.rc A'.rc h.us h.ss h.fs h.es h.nx w o.us o'.us rfl o.ss o'.ss rfl o.fs o'.fs rfl o.es o'.es rfl (by omega) (by omega) (by omega) (by omega)).mono fun e w' h=>⟨h.1,h.2.below⟩
def huN (h:HuV):Nat:=6 * h.us.length+10 * h.ss.length+3 * h.fs.length+5 * h.es.length
theorem huN_bd {h:HuV} (hs:HuLn h):huN h≤30000000:=by
 have k1:=hs.us;have k2:=hs.ss;have k3:=hs.fs;have k4:=hs.es
 unfold huN
 omega
def MkdHu (w:World) (B:Nat) (A:HuA) (h:HuV) (m0:Nat):Prop:=Own4 w B (.slice A.u h.us.length A.uc) (.slice A.s h.ss.length A.sc) (.slice A.f h.fs.length A.fc) (.slice A.r h.es.length A.rc) (mkUserL m0 h.us.length) (mkSessionL (m0+6 * h.us.length) h.ss.length) (mkFailL (m0+6 * h.us.length+10 * h.ss.length) h.fs.length) (mkRecordL (m0+6 * h.us.length+10 * h.ss.length+3 * h.fs.length) h.es.length)
theorem MkdHu.now {w w':World} {B:Nat} {A:HuA} {h:HuV} {m0:Nat} (o:MkdHu w B A h m0) (hb:Below w.heap.size w w'):MkdHu w' B A h m0:=Own4.now o hb
theorem hu_mark (A:HuA) (h:HuV) (B m0:Nat) (w:World) (o:OwnHu w B A h) (hs:HuLn h) (h0:0<m0) (h1:m0≤1000000000) :
  Calls Tryz.prog 15 #[.agg #[.slice A.u h.us.length A.uc,.slice A.s h.ss.length A.sc,.slice A.f h.fs.length A.fc,.slice A.r h.es.length A.rc,.int .i64 h.nx],.int .i64 (m0:Int)] w fun e w'=>e=.returned (.int .i64 ((m0+huN h:Nat):Int))∧MkdHu w' B A h m0∧Rel.Keep (fun k=>k<w.heap.size∧¬ huB A h k) w w':=by
 have hb:=huN_bd hs
 unfold huN at hb ⊢
 refine (markGuests_any A.u A.s A.f A.r h.us.length A.uc h.ss.length A.sc h.fs.length A.fc h.es.length A.rc h.us h.ss h.fs h.es h.nx m0 B w o h0 (by omega)).mono ?_
 rintro e w' ⟨h1,h2,h3⟩
 refine ⟨by rw [h1];congr 2;omega,h2,h3.mono (fun k hk=>⟨hk.1,fun e=>hk.2 (.inl e),fun e=>hk.2 (.inr (.inl e)),fun e=>hk.2 (.inr (.inr (.inl e))),fun e=>hk.2 (.inr (.inr (.inr e)))⟩)⟩
open Go.RowKit Go.PlainAid
structure FlowV where
 pr:Int
 mc:ByteArray
 si:Int
 sp:Int
 di:Int
 dp:Int
 st:Int
 un:Int
 ow:Int
instance:Inhabited FlowV:=⟨⟨0,⟨#[]⟩,0,0,0,0,0,0,0⟩⟩
def wvG (u:FlowV):List Value:=[.int .i64 u.pr,.string u.mc,.int .i64 u.si,.int .i64 u.sp,.int .i64 u.di,.int .i64 u.dp,.int .i64 u.st,.int .i64 u.un,.int .i64 u.ow]
def FlRok (u:FlowV):Prop:=(Lit.int .i64 u.pr).wf=true∧u.mc.size≤maxLen∧(Lit.int .i64 u.si).wf=true∧(Lit.int .i64 u.sp).wf=true∧(Lit.int .i64 u.di).wf=true∧(Lit.int .i64 u.dp).wf=true∧(Lit.int .i64 u.st).wf=true∧(Lit.int .i64 u.un).wf=true∧(Lit.int .i64 u.ow).wf=true
abbrev FlR:=FR wvG FlRok
theorem wvG_len (u:FlowV):(wvG u).length=9:=rfl
section OpnF
variable {H:Type} {enc:TypeId × Value→H} {w:World} {base:Nat} {spare:Nat→Bool} {held:Bool} {fuel:Nat} {cs:List Value} {x:DataW H × List MemPlace}
end OpnF
structure ConnV where
 mc:ByteArray
 ip:Int
 po:Int
 di:Int
 st:Int
 un:Int
 nx:Int
 wa:Int
 inn:ByteArray
 out:ByteArray
 fin:Bool
instance:Inhabited ConnV:=⟨⟨⟨#[]⟩,0,0,0,0,0,0,0,⟨#[]⟩,⟨#[]⟩,false⟩⟩
def cnG (u:ConnV):List Value:=[.string u.mc,.int .i64 u.ip,.int .i64 u.po,.int .i64 u.di,.int .i64 u.st,.int .i64 u.un,.int .i64 u.nx,.int .i64 u.wa,.string u.inn,.string u.out,.bool u.fin]
def CnRok (u:ConnV):Prop:=u.mc.size≤maxLen∧(Lit.int .i64 u.ip).wf=true∧(Lit.int .i64 u.po).wf=true∧(Lit.int .i64 u.di).wf=true∧(Lit.int .i64 u.st).wf=true∧(Lit.int .i64 u.un).wf=true∧(Lit.int .i64 u.nx).wf=true∧(Lit.int .i64 u.wa).wf=true∧u.inn.size≤maxLen∧u.out.size≤maxLen
abbrev CnR:=FR cnG CnRok
theorem cnG_len (u:ConnV):(cnG u).length=11:=rfl
structure SegV where
 sp:Int
 dp:Int
 sq:Int
 ac:Int
 fl:Int
 wi:Int
 da:ByteArray
instance:Inhabited SegV:=⟨⟨0,0,0,0,0,0,⟨#[]⟩⟩⟩
section OpnC
variable {H:Type} {enc:TypeId × Value→H} {w:World} {base:Nat} {spare:Nat→Bool} {held:Bool} {fuel:Nat} {cs:List Value} {x:DataW H × List MemPlace}
end OpnC
structure GtV where
 ip:Int
 b:Int
 gt:Int
 gm:ByteArray
 wm:ByteArray
 rs:Int
 ps:List PlaceV
 ros:List RoleV
 us:List UserV
 ss:List SessV
 fs:List FailV
 es:List RecV
 nx:Int
 fl:List FlowV
 co:List ConnV
 nw:Int
 dr:Int
 sn:Int
structure GtA where
 (x y ua sa fa ra la ca:Option Addr)
 (xc yc uc sc fc rc lc cc:Nat)
def gtC (A:GtA) (g:GtV):List Value:=[.int .i64 g.ip,.int .i64 g.b,.int .i64 g.gt,.string g.gm,.string g.wm,.int .i64 g.rs,.slice A.x g.ps.length A.xc,.slice A.y g.ros.length A.yc,.slice A.ua g.us.length A.uc,.slice A.sa g.ss.length A.sc,.slice A.fa g.fs.length A.fc,.slice A.ra g.es.length A.rc,.int .i64 g.nx,.slice A.la g.fl.length A.lc,.slice A.ca g.co.length A.cc,.int .i64 g.nw,.int .i64 g.dr,.int .i64 g.sn]
structure GtR (w:World) (A:GtA) (g:GtV):Prop where
 ps:Rw PlR 4 w A.x g.ps
 ros:Rw (RoR 0) 5 w A.y g.ros
 us:Rw UsR 6 w A.ua g.us
 ss:Rw SeR 10 w A.sa g.ss
 fs:Rw FaR 3 w A.fa g.fs
 es:Rw ReR 5 w A.ra g.es
 fl:Rw FlR 9 w A.la g.fl
 co:Rw CnR 11 w A.ca g.co
 kl:g.fl.length≤A.lc
 kc:g.co.length≤A.cc
theorem GtR.below {w w':World} {A:GtA} {g:GtV} (h:GtR w A g) (hb:Below w.heap.size w w'):GtR w' A g:=⟨h.ps.keep PlR.kp hb,h.ros.keep (RoR.kp 0) hb,h.us.keep UsR.kp hb,h.ss.keep SeR.kp hb,h.fs.keep FaR.kp hb,h.es.keep ReR.kp hb,h.fl.keep FR.kp hb,h.co.keep FR.kp hb,h.kl,h.kc⟩
section OpnT
variable {H:Type} {enc:TypeId × Value→H} {w:World} {base:Nat} {spare:Nat→Bool} {held:Bool} {fuel:Nat} {cs:List Value} {x:DataW H × List MemPlace}
end OpnT
theorem FlR.kp:Kp FlR:=FR.kp
theorem CnR.kp:Kp CnR:=FR.kp
def mkFlow (M:Nat):FlowV:=⟨(M:Int),mtS (M+1),(M:Int)+1+1,(M:Int)+1+1+1,(M:Int)+1+1+1+1,(M:Int)+1+1+1+1+1,(M:Int)+1+1+1+1+1+1,(M:Int)+1+1+1+1+1+1+1,(M:Int)+1+1+1+1+1+1+1+1⟩
def mkFlowL (m0 n:Nat):List FlowV:=(List.range n).map (fun k=>mkFlow (m0+9 * k))
theorem mkFlowL_len (m0 n:Nat):(mkFlowL m0 n).length=n:=by simp [mkFlowL]
theorem mkFlowL_at (m0 n i:Nat) (h:i<n):(mkFlowL m0 n)[i]?=some (mkFlow (m0+9 * i)):=by rw [mkFlowL,List.getElem?_map,List.getElem?_range h];rfl
theorem mkFlow_ok (M:Nat) (h:M+9≤1000000000000):FlRok (mkFlow M):=by
 unfold FlRok mkFlow
 dsimp only
 exact ⟨int_wf9 (by omega) (by omega),Nat.le_trans (mtS_len _ (by omega)) (by unfold maxLen;omega),int_wf9 (by omega) (by omega),int_wf9 (by omega) (by omega),int_wf9 (by omega) (by omega),int_wf9 (by omega) (by omega),int_wf9 (by omega) (by omega),int_wf9 (by omega) (by omega),int_wf9 (by omega) (by omega)⟩
theorem mkFlowL_ok (m0 n:Nat) (h:m0+9 * n≤1000000000000):∀ x,x ∈ mkFlowL m0 n→FlRok x:=by
 intro x hx
 unfold mkFlowL at hx
 simp at hx
 obtain ⟨i,hi,rfl⟩:=hx
 exact mkFlow_ok _ (by omega)
def mkFlow_0 (x:FlowV) (M:Nat):FlowV:={ x with pr:=(M:Int) }
def mkFlow_1 (x:FlowV) (M:Nat):FlowV:={ mkFlow_0 x M with mc:=mtS (M+1) }
def mkFlow_2 (x:FlowV) (M:Nat):FlowV:={ mkFlow_1 x M with si:=(M:Int)+1+1 }
def mkFlow_3 (x:FlowV) (M:Nat):FlowV:={ mkFlow_2 x M with sp:=(M:Int)+1+1+1 }
def mkFlow_4 (x:FlowV) (M:Nat):FlowV:={ mkFlow_3 x M with di:=(M:Int)+1+1+1+1 }
def mkFlow_5 (x:FlowV) (M:Nat):FlowV:={ mkFlow_4 x M with dp:=(M:Int)+1+1+1+1+1 }
def mkFlow_6 (x:FlowV) (M:Nat):FlowV:={ mkFlow_5 x M with st:=(M:Int)+1+1+1+1+1+1 }
def mkFlow_7 (x:FlowV) (M:Nat):FlowV:={ mkFlow_6 x M with un:=(M:Int)+1+1+1+1+1+1+1 }
def mkFlow_8 (x:FlowV) (M:Nat):FlowV:={ mkFlow_7 x M with ow:=(M:Int)+1+1+1+1+1+1+1+1 }
set_option maxHeartbeats 4000000 in
theorem markFlowS_any (a:Option Addr) (n cap B m0:Nat) (L:List FlowV) (w:World) (h:OwnS wvG 9 159 w B (.slice a n cap) L) (h0:0<m0) (hm:m0+9 * n≤100000000000) :
  Calls Tryz.prog 54 #[.slice a n cap,.int .i64 (m0:Int)] w fun e w'=>e=.returned (.int .i64 ((m0+9 * n:Nat):Int))∧OwnS wvG 9 159 w' B (.slice a n cap) (mkFlowL m0 n)∧w.grownBy w' (Value.slice a n cap).ownBlock:=by
 have H:Hid (OwnS wvG 9 159 w B (.slice a n cap) L):=h
 have hn:=h.len
 have hlen:n≤100000000000:=by omega
 clear h
 go_enter Tryz.func54,Tryz.ntmps54
 go_wp2
 go_loopw [1,5] (fun m i wr=>∃ (k M:Nat) (L':List FlowV),k≤n∧i=.int .i64 k∧m=.int .i64 (M:Int)∧Hid (M=m0+9 * k)∧Hid (OwnS wvG 9 159 wr B (.slice a n cap) L'∧L'.length=n∧L'.take k=(mkFlowL m0 n).take k∧w.grownBy wr (Value.slice a n cap).ownBlock)) (fun _ i _=>n - (intOf i).toNat)
 case atStart=>exact ⟨0,m0,L,Nat.zero_le _,rfl,rfl,by show m0=_;omega,H.out,hn,rfl,grown_refl w _⟩
 case round =>
  obtain ⟨k,M,L',hk,rfl,rfl,hM,X⟩:=hrel
  by_cases hlt:k<n
  ·obtain ⟨g,rfl,hBg,hg,-⟩:=X.out.1.form (by rw [X.out.2.1];omega)
   obtain ⟨x,hx⟩:=at_of (k:=k) X.out.2.1 hlt
   have hltz:(k:Int)<(n:Int):=by omega
   have hMz:(M:Int)≤200000000000:=by have:=hM.out;omega
   have hM0:0<M:=by have:=hM.out;omega
   have G0:Hid (w.grownBy wr (some g)):=X.out.2.2.2
   have o0:=X.out.1
   have hT:Hid (L'.length=n∧L'.take k=(mkFlowL m0 n).take k):=⟨X.out.2.1,X.out.2.2.1⟩
   clear X
   obtain ⟨c0,z0⟩:=o0.cell wvG_len (j:=0) hx rfl
   replace c0:wr.cell? ⟨g,k * 9,none⟩=some (.int .i64 x.pr):=c0
   replace z0:wr.frozen? ⟨g,k * 9,none⟩=false:=z0
   have s0:=o0.set1 wvG_len (j:=0) (y:=(mkFlow_0 x M)) (u:=.int .i64 ((M:Int))) hx (by omega) rfl
   have hx0:(L'.set k (mkFlow_0 x M))[k]?=some (mkFlow_0 x M):=List.getElem?_set_self (by rw [hT.out.1];exact hlt)
   have Z0:Hid (OwnS wvG 9 159 (wr.setCell ⟨g,k * 9,none⟩ (.int .i64 ((M:Int)))) B (.slice (some ⟨g,0,none⟩) n cap) (L'.set k (mkFlow_0 x M))∧w.grownBy (wr.setCell ⟨g,k * 9,none⟩ (.int .i64 ((M:Int)))) (some g)):=⟨s0.1,(grown_tr G0.out s0.2)⟩
   have hy0:Hid ((L'.set k (mkFlow_0 x M))[k]?=some (mkFlow_0 x M)):=hx0
   clear o0 G0 s0 hx0 hx
   have HM1:Hid (∀ w,Calls Tryz.prog 105 #[.int .i64 ((M:Int)+1)] w fun e w'=>e=.returned (.string (mtS (M+1)))∧Grw w w'):=fun w=>by
    have:=markText_any (M+1) w (by omega) (by omega)
    rw [show ((M+1:Nat):Int)=(M:Int)+1 by omega] at this
    exact this
   go_wp2_with fail
   refine (HM1.out _).mono ?_
   rintro e wt1 ⟨rfl,gt1⟩
   clear c0 z0
   have ot1:=Z0.out.1.now gt1.below
   have Gt1:Hid (w.grownBy wt1 (some g)):=grown_tr Z0.out.2 (gt1.grown _)
   clear HM1 gt1 Z0
   obtain ⟨c1,z1⟩:=ot1.cell wvG_len (j:=1) hy0.out rfl
   obtain ⟨c2,z2⟩:=ot1.cell wvG_len (j:=2) hy0.out rfl
   obtain ⟨c3,z3⟩:=ot1.cell wvG_len (j:=3) hy0.out rfl
   obtain ⟨c4,z4⟩:=ot1.cell wvG_len (j:=4) hy0.out rfl
   obtain ⟨c5,z5⟩:=ot1.cell wvG_len (j:=5) hy0.out rfl
   obtain ⟨c6,z6⟩:=ot1.cell wvG_len (j:=6) hy0.out rfl
   obtain ⟨c7,z7⟩:=ot1.cell wvG_len (j:=7) hy0.out rfl
   obtain ⟨c8,z8⟩:=ot1.cell wvG_len (j:=8) hy0.out rfl
   have s1:=ot1.set1 wvG_len (j:=1) (y:=(mkFlow_1 x M)) (u:=.string (mtS (M+1))) hy0.out (by omega) rfl
   rw [List.set_set] at s1
   have hx1:(L'.set k (mkFlow_1 x M))[k]?=some (mkFlow_1 x M):=List.getElem?_set_self (by rw [hT.out.1];exact hlt)
   have s2:=s1.1.set1 wvG_len (j:=2) (y:=(mkFlow_2 x M)) (u:=.int .i64 ((M:Int)+1+1)) hx1 (by omega) rfl
   rw [List.set_set] at s2
   have hx2:(L'.set k (mkFlow_2 x M))[k]?=some (mkFlow_2 x M):=List.getElem?_set_self (by rw [hT.out.1];exact hlt)
   have s3:=s2.1.set1 wvG_len (j:=3) (y:=(mkFlow_3 x M)) (u:=.int .i64 ((M:Int)+1+1+1)) hx2 (by omega) rfl
   rw [List.set_set] at s3
   have hx3:(L'.set k (mkFlow_3 x M))[k]?=some (mkFlow_3 x M):=List.getElem?_set_self (by rw [hT.out.1];exact hlt)
   have s4:=s3.1.set1 wvG_len (j:=4) (y:=(mkFlow_4 x M)) (u:=.int .i64 ((M:Int)+1+1+1+1)) hx3 (by omega) rfl
   rw [List.set_set] at s4
   have hx4:(L'.set k (mkFlow_4 x M))[k]?=some (mkFlow_4 x M):=List.getElem?_set_self (by rw [hT.out.1];exact hlt)
   have s5:=s4.1.set1 wvG_len (j:=5) (y:=(mkFlow_5 x M)) (u:=.int .i64 ((M:Int)+1+1+1+1+1)) hx4 (by omega) rfl
   rw [List.set_set] at s5
   have hx5:(L'.set k (mkFlow_5 x M))[k]?=some (mkFlow_5 x M):=List.getElem?_set_self (by rw [hT.out.1];exact hlt)
   have s6:=s5.1.set1 wvG_len (j:=6) (y:=(mkFlow_6 x M)) (u:=.int .i64 ((M:Int)+1+1+1+1+1+1)) hx5 (by omega) rfl
   rw [List.set_set] at s6
   have hx6:(L'.set k (mkFlow_6 x M))[k]?=some (mkFlow_6 x M):=List.getElem?_set_self (by rw [hT.out.1];exact hlt)
   have s7:=s6.1.set1 wvG_len (j:=7) (y:=(mkFlow_7 x M)) (u:=.int .i64 ((M:Int)+1+1+1+1+1+1+1)) hx6 (by omega) rfl
   rw [List.set_set] at s7
   have hx7:(L'.set k (mkFlow_7 x M))[k]?=some (mkFlow_7 x M):=List.getElem?_set_self (by rw [hT.out.1];exact hlt)
   have s8:=s7.1.set1 wvG_len (j:=8) (y:=(mkFlow_8 x M)) (u:=.int .i64 ((M:Int)+1+1+1+1+1+1+1+1)) hx7 (by omega) rfl
   rw [List.set_set] at s8
   have hx8:(L'.set k (mkFlow_8 x M))[k]?=some (mkFlow_8 x M):=List.getElem?_set_self (by rw [hT.out.1];exact hlt)
   have Z1:Hid (OwnS wvG 9 159 ((((((((wt1.setCell ⟨g,k * 9+1,none⟩ (.string (mtS (M+1)))).setCell ⟨g,k * 9+2,none⟩ (.int .i64 ((M:Int)+1+1))).setCell ⟨g,k * 9+3,none⟩ (.int .i64 ((M:Int)+1+1+1))).setCell ⟨g,k * 9+4,none⟩ (.int .i64 ((M:Int)+1+1+1+1))).setCell ⟨g,k * 9+5,none⟩ (.int .i64 ((M:Int)+1+1+1+1+1))).setCell ⟨g,k * 9+6,none⟩ (.int .i64 ((M:Int)+1+1+1+1+1+1))).setCell ⟨g,k * 9+7,none⟩ (.int .i64 ((M:Int)+1+1+1+1+1+1+1))).setCell ⟨g,k * 9+8,none⟩ (.int .i64 ((M:Int)+1+1+1+1+1+1+1+1))) B (.slice (some ⟨g,0,none⟩) n cap) (L'.set k (mkFlow_8 x M))∧w.grownBy ((((((((wt1.setCell ⟨g,k * 9+1,none⟩ (.string (mtS (M+1)))).setCell ⟨g,k * 9+2,none⟩ (.int .i64 ((M:Int)+1+1))).setCell ⟨g,k * 9+3,none⟩ (.int .i64 ((M:Int)+1+1+1))).setCell ⟨g,k * 9+4,none⟩ (.int .i64 ((M:Int)+1+1+1+1))).setCell ⟨g,k * 9+5,none⟩ (.int .i64 ((M:Int)+1+1+1+1+1))).setCell ⟨g,k * 9+6,none⟩ (.int .i64 ((M:Int)+1+1+1+1+1+1))).setCell ⟨g,k * 9+7,none⟩ (.int .i64 ((M:Int)+1+1+1+1+1+1+1))).setCell ⟨g,k * 9+8,none⟩ (.int .i64 ((M:Int)+1+1+1+1+1+1+1+1))) (some g)):=⟨s8.1,(grown_tr (grown_tr (grown_tr (grown_tr (grown_tr (grown_tr (grown_tr (grown_tr Gt1.out s1.2) s2.2) s3.2) s4.2) s5.2) s6.2) s7.2) s8.2)⟩
   have hy1:Hid ((L'.set k (mkFlow_8 x M))[k]?=some (mkFlow_8 x M)):=hx8
   clear ot1 Gt1 s1 hx1 s2 hx2 s3 hx3 s4 hx4 s5 hx5 s6 hx6 s7 hx7 s8 hx8 
   have eFlow:(mkFlow_8 x M)=mkFlow M:=rfl
   rw [eFlow] at Z1
   have YY:Hid (OwnS wvG 9 159 ((((((((wt1.setCell ⟨g,k * 9+1,none⟩ (.string (mtS (M+1)))).setCell ⟨g,k * 9+2,none⟩ (.int .i64 ((M:Int)+1+1))).setCell ⟨g,k * 9+3,none⟩ (.int .i64 ((M:Int)+1+1+1))).setCell ⟨g,k * 9+4,none⟩ (.int .i64 ((M:Int)+1+1+1+1))).setCell ⟨g,k * 9+5,none⟩ (.int .i64 ((M:Int)+1+1+1+1+1))).setCell ⟨g,k * 9+6,none⟩ (.int .i64 ((M:Int)+1+1+1+1+1+1))).setCell ⟨g,k * 9+7,none⟩ (.int .i64 ((M:Int)+1+1+1+1+1+1+1))).setCell ⟨g,k * 9+8,none⟩ (.int .i64 ((M:Int)+1+1+1+1+1+1+1+1))) B (.slice (some ⟨g,0,none⟩) n cap) (L'.set k (mkFlow M))∧(L'.set k (mkFlow M)).length=n∧(L'.set k (mkFlow M)).take (k+1)=(mkFlowL m0 n).take (k+1)∧w.grownBy ((((((((wt1.setCell ⟨g,k * 9+1,none⟩ (.string (mtS (M+1)))).setCell ⟨g,k * 9+2,none⟩ (.int .i64 ((M:Int)+1+1))).setCell ⟨g,k * 9+3,none⟩ (.int .i64 ((M:Int)+1+1+1))).setCell ⟨g,k * 9+4,none⟩ (.int .i64 ((M:Int)+1+1+1+1))).setCell ⟨g,k * 9+5,none⟩ (.int .i64 ((M:Int)+1+1+1+1+1))).setCell ⟨g,k * 9+6,none⟩ (.int .i64 ((M:Int)+1+1+1+1+1+1))).setCell ⟨g,k * 9+7,none⟩ (.int .i64 ((M:Int)+1+1+1+1+1+1+1))).setCell ⟨g,k * 9+8,none⟩ (.int .i64 ((M:Int)+1+1+1+1+1+1+1+1))) (some g)):=⟨Z1.out.1,by rw [List.length_set];exact hT.out.1,takeS_set (by rw [hT.out.1,mkFlowL_len]) (by rw [mkFlowL_at m0 n k hlt,hM.out]) hT.out.2,Z1.out.2⟩
   clear Z1 hT hy0 hy1
   go_wp2
   go_roundw
   case rel=>exact ⟨k+1,M+9,_,by omega,by go_num,by go_num,(show M+9=m0+9 * (k+1) by have:=hM.out;omega),YY⟩
   case measure=>simp [intOf];omega
  ·obtain rfl:k=n:=by omega
   have e1:L'=mkFlowL m0 k:=by
    have:=X.out.2.2.1
    rwa [List.take_of_length_le (by rw [X.out.2.1];exact Nat.le_refl _),List.take_of_length_le (by rw [mkFlowL_len];exact Nat.le_refl _)] at this
   subst e1
   have hM2:=hM.out
   subst hM2
   go_wp2
   go_ret
   exact ⟨rfl,X.out.1,X.out.2.2.2⟩
set_option maxHeartbeats 4000000 in
theorem heldFlowS_any (a:Option Addr) (n cap m0:Nat) (w:World) (h:Rw FlR 9 w a (mkFlowL m0 n)) (h0:0<m0) (hm:m0+9 * n≤100000000000) :
  Calls Tryz.prog 58 #[.slice a n cap,.int .i64 (m0:Int)] w fun e w'=>e=.returned (.int .i64 ((m0+9 * n:Nat):Int))∧Grw w w':=by
 have H:Hid (Rw FlR 9 w a (mkFlowL m0 n)):=h
 have hlen:n≤100000000000:=by omega
 clear h
 have hmix:Tryz.prog.follows .mixedOrders=true:=by kernel_rfl
 go_enter Tryz.func58,Tryz.ntmps58
 go_wp2
 go_loopw [1,5] (fun m i wr=>∃ k M:Nat,k≤n∧i=.int .i64 k∧m=.int .i64 (M:Int)∧Hid (M=m0+9 * k)∧Hid (Grw w wr)) (fun _ i _=>n - (intOf i).toNat)
 case atStart=>exact ⟨0,m0,Nat.zero_le _,rfl,rfl,by show m0=_;omega,Grw.refl w⟩
 case round =>
  obtain ⟨k,M,hk,rfl,rfl,hM,HG⟩:=hrel
  by_cases hlt:k<n
  ·obtain ⟨b,off,vs,rfl,hb,hvl,hR,hc⟩:=H.out.at FlR.kp HG.out.below (mkFlowL_at m0 n k hlt)
   rw [← hM.out] at hR
   obtain ⟨rfl,-⟩:=hR
   have hltz:(k:Int)<(n:Int):=by omega
   have hMz:(M:Int)≤200000000000:=by have:=hM.out;omega
   have hM0:0<M:=by have:=hM.out;omega
   have q0:wr.cell? ⟨b,off+k * 9,none⟩=some (.int .i64 ((M:Int))):=hc 0 _ rfl
   have q1:wr.cell? ⟨b,off+k * 9+1,none⟩=some (.string (mtS (M+1))):=hc 1 _ rfl
   have q2:wr.cell? ⟨b,off+k * 9+2,none⟩=some (.int .i64 ((M:Int)+1+1)):=hc 2 _ rfl
   have q3:wr.cell? ⟨b,off+k * 9+3,none⟩=some (.int .i64 ((M:Int)+1+1+1)):=hc 3 _ rfl
   have q4:wr.cell? ⟨b,off+k * 9+4,none⟩=some (.int .i64 ((M:Int)+1+1+1+1)):=hc 4 _ rfl
   have q5:wr.cell? ⟨b,off+k * 9+5,none⟩=some (.int .i64 ((M:Int)+1+1+1+1+1)):=hc 5 _ rfl
   have q6:wr.cell? ⟨b,off+k * 9+6,none⟩=some (.int .i64 ((M:Int)+1+1+1+1+1+1)):=hc 6 _ rfl
   have q7:wr.cell? ⟨b,off+k * 9+7,none⟩=some (.int .i64 ((M:Int)+1+1+1+1+1+1+1)):=hc 7 _ rfl
   have q8:wr.cell? ⟨b,off+k * 9+8,none⟩=some (.int .i64 ((M:Int)+1+1+1+1+1+1+1+1)):=hc 8 _ rfl
   clear hc hvl
   have e0:(((M:Int)) != ((M:Int)))=false:=by simp
   have e2:(((M:Int)+1+1) != ((M:Int)+1+1))=false:=by simp
   have e3:(((M:Int)+1+1+1) != ((M:Int)+1+1+1))=false:=by simp
   have e4:(((M:Int)+1+1+1+1) != ((M:Int)+1+1+1+1))=false:=by simp
   have e5:(((M:Int)+1+1+1+1+1) != ((M:Int)+1+1+1+1+1))=false:=by simp
   have e6:(((M:Int)+1+1+1+1+1+1) != ((M:Int)+1+1+1+1+1+1))=false:=by simp
   have e7:(((M:Int)+1+1+1+1+1+1+1) != ((M:Int)+1+1+1+1+1+1+1))=false:=by simp
   have e8:(((M:Int)+1+1+1+1+1+1+1+1) != ((M:Int)+1+1+1+1+1+1+1+1))=false:=by simp
   have HM1:Hid (∀ w,Calls Tryz.prog 105 #[.int .i64 ((M:Int)+1)] w fun e w'=>e=.returned (.string (mtS (M+1)))∧Grw w w'):=fun w=>by
    have:=markText_any (M+1) w (by omega) (by omega)
    rw [show ((M+1:Nat):Int)=(M:Int)+1 by omega] at this
    exact this
   generalize mtS (M+1)=T1 at *
   have t1:(T1.toList == T1.toList)=true:=by simp
   have y1:∀ n os,(grow (wr.drewN n) os).cell? ⟨b,off+k * 9+1,none⟩=some (.string T1):=fun n os=>bkeep (Grw.below ⟨n,os,rfl⟩) q1
   go_wp2_with fail
   refine wp_region_quiet_grown (by assumption) (by kernel_rfl) ?_
   repeat (go_big_quiet_step (first | fail | (go_at_call 105;exact Calls.grown_of (HM1.out _))))
   refine wpQuiet_nil ?_
   intro _ hw'
   obtain ⟨⟨nq,osq⟩,hw''⟩:=hw'
   subst hw''
   have HG1:Hid (Grw w (grow (wr.drewN nq) osq)):=HG.out.trans ⟨nq,osq,rfl⟩
   replace q2:(grow (wr.drewN nq) osq).cell? ⟨b,off+k * 9+2,none⟩=some (.int .i64 ((M:Int)+1+1)):=bkeep (Grw.below ⟨nq,osq,rfl⟩) q2
   replace q3:(grow (wr.drewN nq) osq).cell? ⟨b,off+k * 9+3,none⟩=some (.int .i64 ((M:Int)+1+1+1)):=bkeep (Grw.below ⟨nq,osq,rfl⟩) q3
   replace q4:(grow (wr.drewN nq) osq).cell? ⟨b,off+k * 9+4,none⟩=some (.int .i64 ((M:Int)+1+1+1+1)):=bkeep (Grw.below ⟨nq,osq,rfl⟩) q4
   replace q5:(grow (wr.drewN nq) osq).cell? ⟨b,off+k * 9+5,none⟩=some (.int .i64 ((M:Int)+1+1+1+1+1)):=bkeep (Grw.below ⟨nq,osq,rfl⟩) q5
   replace q6:(grow (wr.drewN nq) osq).cell? ⟨b,off+k * 9+6,none⟩=some (.int .i64 ((M:Int)+1+1+1+1+1+1)):=bkeep (Grw.below ⟨nq,osq,rfl⟩) q6
   replace q7:(grow (wr.drewN nq) osq).cell? ⟨b,off+k * 9+7,none⟩=some (.int .i64 ((M:Int)+1+1+1+1+1+1+1)):=bkeep (Grw.below ⟨nq,osq,rfl⟩) q7
   replace q8:(grow (wr.drewN nq) osq).cell? ⟨b,off+k * 9+8,none⟩=some (.int .i64 ((M:Int)+1+1+1+1+1+1+1+1)):=bkeep (Grw.below ⟨nq,osq,rfl⟩) q8
   clear y1 q0 q1 HM1
   generalize (grow (wr.drewN nq) osq)=wv1 at *
   go_wp2
   go_roundw
   case rel=>exact ⟨k+1,M+9,by omega,by go_num,by go_num,(show M+9=m0+9 * (k+1) by have:=hM.out;omega),HG1⟩
   case measure=>simp [intOf];omega
  ·obtain rfl:k=n:=by omega
   have hM2:=hM.out
   subst hM2
   go_wp2
   go_ret
   exact ⟨rfl,HG.out⟩
def mkConn (M:Nat):ConnV:=⟨mtS M,(M:Int)+1,(M:Int)+1+1,(M:Int)+1+1+1,(M:Int)+1+1+1+1,(M:Int)+1+1+1+1+1,(M:Int)+1+1+1+1+1+1,(M:Int)+1+1+1+1+1+1+1,mtS (M+8),mtS (M+9),(((M:Int)+1+1+1+1+1+1+1+1+1+1) % 3 == 0)⟩
def mkConnL (m0 n:Nat):List ConnV:=(List.range n).map (fun k=>mkConn (m0+11 * k))
theorem mkConnL_len (m0 n:Nat):(mkConnL m0 n).length=n:=by simp [mkConnL]
theorem mkConnL_at (m0 n i:Nat) (h:i<n):(mkConnL m0 n)[i]?=some (mkConn (m0+11 * i)):=by rw [mkConnL,List.getElem?_map,List.getElem?_range h];rfl
theorem mkConn_ok (M:Nat) (h:M+11≤1000000000000):CnRok (mkConn M):=by
 unfold CnRok mkConn
 dsimp only
 exact ⟨Nat.le_trans (mtS_len _ (by omega)) (by unfold maxLen;omega),int_wf9 (by omega) (by omega),int_wf9 (by omega) (by omega),int_wf9 (by omega) (by omega),int_wf9 (by omega) (by omega),int_wf9 (by omega) (by omega),int_wf9 (by omega) (by omega),int_wf9 (by omega) (by omega),Nat.le_trans (mtS_len _ (by omega)) (by unfold maxLen;omega),Nat.le_trans (mtS_len _ (by omega)) (by unfold maxLen;omega)⟩
theorem mkConnL_ok (m0 n:Nat) (h:m0+11 * n≤1000000000000):∀ x,x ∈ mkConnL m0 n→CnRok x:=by
 intro x hx
 unfold mkConnL at hx
 simp at hx
 obtain ⟨i,hi,rfl⟩:=hx
 exact mkConn_ok _ (by omega)
def mkConn_0 (x:ConnV) (M:Nat):ConnV:={ x with mc:=mtS M }
def mkConn_1 (x:ConnV) (M:Nat):ConnV:={ mkConn_0 x M with ip:=(M:Int)+1 }
def mkConn_2 (x:ConnV) (M:Nat):ConnV:={ mkConn_1 x M with po:=(M:Int)+1+1 }
def mkConn_3 (x:ConnV) (M:Nat):ConnV:={ mkConn_2 x M with di:=(M:Int)+1+1+1 }
def mkConn_4 (x:ConnV) (M:Nat):ConnV:={ mkConn_3 x M with st:=(M:Int)+1+1+1+1 }
def mkConn_5 (x:ConnV) (M:Nat):ConnV:={ mkConn_4 x M with un:=(M:Int)+1+1+1+1+1 }
def mkConn_6 (x:ConnV) (M:Nat):ConnV:={ mkConn_5 x M with nx:=(M:Int)+1+1+1+1+1+1 }
def mkConn_7 (x:ConnV) (M:Nat):ConnV:={ mkConn_6 x M with wa:=(M:Int)+1+1+1+1+1+1+1 }
def mkConn_8 (x:ConnV) (M:Nat):ConnV:={ mkConn_7 x M with inn:=mtS (M+8) }
def mkConn_9 (x:ConnV) (M:Nat):ConnV:={ mkConn_8 x M with out:=mtS (M+9) }
def mkConn_10 (x:ConnV) (M:Nat):ConnV:={ mkConn_9 x M with fin:=(((M:Int)+1+1+1+1+1+1+1+1+1+1) % 3 == 0) }
set_option maxHeartbeats 4000000 in
theorem markConnS_any (a:Option Addr) (n cap B m0:Nat) (L:List ConnV) (w:World) (h:OwnS cnG 11 162 w B (.slice a n cap) L) (h0:0<m0) (hm:m0+11 * n≤100000000000) :
  Calls Tryz.prog 55 #[.slice a n cap,.int .i64 (m0:Int)] w fun e w'=>e=.returned (.int .i64 ((m0+11 * n:Nat):Int))∧OwnS cnG 11 162 w' B (.slice a n cap) (mkConnL m0 n)∧w.grownBy w' (Value.slice a n cap).ownBlock:=by
 have H:Hid (OwnS cnG 11 162 w B (.slice a n cap) L):=h
 have hn:=h.len
 have hlen:n≤100000000000:=by omega
 clear h
 go_enter Tryz.func55,Tryz.ntmps55
 go_wp2
 go_loopw [1,5] (fun m i wr=>∃ (k M:Nat) (L':List ConnV),k≤n∧i=.int .i64 k∧m=.int .i64 (M:Int)∧Hid (M=m0+11 * k)∧Hid (OwnS cnG 11 162 wr B (.slice a n cap) L'∧L'.length=n∧L'.take k=(mkConnL m0 n).take k∧w.grownBy wr (Value.slice a n cap).ownBlock)) (fun _ i _=>n - (intOf i).toNat)
 case atStart=>exact ⟨0,m0,L,Nat.zero_le _,rfl,rfl,by show m0=_;omega,H.out,hn,rfl,grown_refl w _⟩
 case round =>
  obtain ⟨k,M,L',hk,rfl,rfl,hM,X⟩:=hrel
  by_cases hlt:k<n
  ·obtain ⟨g,rfl,hBg,hg,-⟩:=X.out.1.form (by rw [X.out.2.1];omega)
   obtain ⟨x,hx⟩:=at_of (k:=k) X.out.2.1 hlt
   have hltz:(k:Int)<(n:Int):=by omega
   have hMz:(M:Int)≤200000000000:=by have:=hM.out;omega
   have hM0:0<M:=by have:=hM.out;omega
   have G0:Hid (w.grownBy wr (some g)):=X.out.2.2.2
   have o0:=X.out.1
   have hT:Hid (L'.length=n∧L'.take k=(mkConnL m0 n).take k):=⟨X.out.2.1,X.out.2.2.1⟩
   clear X
   have HM0:Hid (∀ w,Calls Tryz.prog 105 #[.int .i64 ((M:Int))] w fun e w'=>e=.returned (.string (mtS (M)))∧Grw w w'):=fun w=>by
    have:=markText_any (M) w (by omega) (by omega)
    exact this
   go_wp2_with fail
   refine (HM0.out _).mono ?_
   rintro e wt0 ⟨rfl,gt0⟩
   have ot0:=o0.now gt0.below
   have Gt0:Hid (w.grownBy wt0 (some g)):=grown_tr G0.out (gt0.grown _)
   clear HM0 gt0 o0 G0
   obtain ⟨c0,z0⟩:=ot0.cell cnG_len (j:=0) hx rfl
   replace c0:wt0.cell? ⟨g,k * 11,none⟩=some (.string x.mc):=c0
   replace z0:wt0.frozen? ⟨g,k * 11,none⟩=false:=z0
   obtain ⟨c1,z1⟩:=ot0.cell cnG_len (j:=1) hx rfl
   obtain ⟨c2,z2⟩:=ot0.cell cnG_len (j:=2) hx rfl
   obtain ⟨c3,z3⟩:=ot0.cell cnG_len (j:=3) hx rfl
   obtain ⟨c4,z4⟩:=ot0.cell cnG_len (j:=4) hx rfl
   obtain ⟨c5,z5⟩:=ot0.cell cnG_len (j:=5) hx rfl
   obtain ⟨c6,z6⟩:=ot0.cell cnG_len (j:=6) hx rfl
   obtain ⟨c7,z7⟩:=ot0.cell cnG_len (j:=7) hx rfl
   have s0:=ot0.set1 cnG_len (j:=0) (y:=(mkConn_0 x M)) (u:=.string (mtS M)) hx (by omega) rfl
   have hx0:(L'.set k (mkConn_0 x M))[k]?=some (mkConn_0 x M):=List.getElem?_set_self (by rw [hT.out.1];exact hlt)
   have s1:=s0.1.set1 cnG_len (j:=1) (y:=(mkConn_1 x M)) (u:=.int .i64 ((M:Int)+1)) hx0 (by omega) rfl
   rw [List.set_set] at s1
   have hx1:(L'.set k (mkConn_1 x M))[k]?=some (mkConn_1 x M):=List.getElem?_set_self (by rw [hT.out.1];exact hlt)
   have s2:=s1.1.set1 cnG_len (j:=2) (y:=(mkConn_2 x M)) (u:=.int .i64 ((M:Int)+1+1)) hx1 (by omega) rfl
   rw [List.set_set] at s2
   have hx2:(L'.set k (mkConn_2 x M))[k]?=some (mkConn_2 x M):=List.getElem?_set_self (by rw [hT.out.1];exact hlt)
   have s3:=s2.1.set1 cnG_len (j:=3) (y:=(mkConn_3 x M)) (u:=.int .i64 ((M:Int)+1+1+1)) hx2 (by omega) rfl
   rw [List.set_set] at s3
   have hx3:(L'.set k (mkConn_3 x M))[k]?=some (mkConn_3 x M):=List.getElem?_set_self (by rw [hT.out.1];exact hlt)
   have s4:=s3.1.set1 cnG_len (j:=4) (y:=(mkConn_4 x M)) (u:=.int .i64 ((M:Int)+1+1+1+1)) hx3 (by omega) rfl
   rw [List.set_set] at s4
   have hx4:(L'.set k (mkConn_4 x M))[k]?=some (mkConn_4 x M):=List.getElem?_set_self (by rw [hT.out.1];exact hlt)
   have s5:=s4.1.set1 cnG_len (j:=5) (y:=(mkConn_5 x M)) (u:=.int .i64 ((M:Int)+1+1+1+1+1)) hx4 (by omega) rfl
   rw [List.set_set] at s5
   have hx5:(L'.set k (mkConn_5 x M))[k]?=some (mkConn_5 x M):=List.getElem?_set_self (by rw [hT.out.1];exact hlt)
   have s6:=s5.1.set1 cnG_len (j:=6) (y:=(mkConn_6 x M)) (u:=.int .i64 ((M:Int)+1+1+1+1+1+1)) hx5 (by omega) rfl
   rw [List.set_set] at s6
   have hx6:(L'.set k (mkConn_6 x M))[k]?=some (mkConn_6 x M):=List.getElem?_set_self (by rw [hT.out.1];exact hlt)
   have s7:=s6.1.set1 cnG_len (j:=7) (y:=(mkConn_7 x M)) (u:=.int .i64 ((M:Int)+1+1+1+1+1+1+1)) hx6 (by omega) rfl
   rw [List.set_set] at s7
   have hx7:(L'.set k (mkConn_7 x M))[k]?=some (mkConn_7 x M):=List.getElem?_set_self (by rw [hT.out.1];exact hlt)
   have Z0:Hid (OwnS cnG 11 162 ((((((((wt0.setCell ⟨g,k * 11,none⟩ (.string (mtS M))).setCell ⟨g,k * 11+1,none⟩ (.int .i64 ((M:Int)+1))).setCell ⟨g,k * 11+2,none⟩ (.int .i64 ((M:Int)+1+1))).setCell ⟨g,k * 11+3,none⟩ (.int .i64 ((M:Int)+1+1+1))).setCell ⟨g,k * 11+4,none⟩ (.int .i64 ((M:Int)+1+1+1+1))).setCell ⟨g,k * 11+5,none⟩ (.int .i64 ((M:Int)+1+1+1+1+1))).setCell ⟨g,k * 11+6,none⟩ (.int .i64 ((M:Int)+1+1+1+1+1+1))).setCell ⟨g,k * 11+7,none⟩ (.int .i64 ((M:Int)+1+1+1+1+1+1+1))) B (.slice (some ⟨g,0,none⟩) n cap) (L'.set k (mkConn_7 x M))∧w.grownBy ((((((((wt0.setCell ⟨g,k * 11,none⟩ (.string (mtS M))).setCell ⟨g,k * 11+1,none⟩ (.int .i64 ((M:Int)+1))).setCell ⟨g,k * 11+2,none⟩ (.int .i64 ((M:Int)+1+1))).setCell ⟨g,k * 11+3,none⟩ (.int .i64 ((M:Int)+1+1+1))).setCell ⟨g,k * 11+4,none⟩ (.int .i64 ((M:Int)+1+1+1+1))).setCell ⟨g,k * 11+5,none⟩ (.int .i64 ((M:Int)+1+1+1+1+1))).setCell ⟨g,k * 11+6,none⟩ (.int .i64 ((M:Int)+1+1+1+1+1+1))).setCell ⟨g,k * 11+7,none⟩ (.int .i64 ((M:Int)+1+1+1+1+1+1+1))) (some g)):=⟨s7.1,(grown_tr (grown_tr (grown_tr (grown_tr (grown_tr (grown_tr (grown_tr (grown_tr Gt0.out s0.2) s1.2) s2.2) s3.2) s4.2) s5.2) s6.2) s7.2)⟩
   have hy0:Hid ((L'.set k (mkConn_7 x M))[k]?=some (mkConn_7 x M)):=hx7
   clear ot0 Gt0 s0 hx0 s1 hx1 s2 hx2 s3 hx3 s4 hx4 s5 hx5 s6 hx6 s7 hx7 hx
   have HM1:Hid (∀ w,Calls Tryz.prog 105 #[.int .i64 ((M:Int)+1+1+1+1+1+1+1+1)] w fun e w'=>e=.returned (.string (mtS (M+8)))∧Grw w w'):=fun w=>by
    have:=markText_any (M+8) w (by omega) (by omega)
    rw [show ((M+8:Nat):Int)=(M:Int)+1+1+1+1+1+1+1+1 by omega] at this
    exact this
   go_wp2_with fail
   refine (HM1.out _).mono ?_
   rintro e wt1 ⟨rfl,gt1⟩
   clear c0 z0 c1 z1 c2 z2 c3 z3 c4 z4 c5 z5 c6 z6 c7 z7
   have ot1:=Z0.out.1.now gt1.below
   have Gt1:Hid (w.grownBy wt1 (some g)):=grown_tr Z0.out.2 (gt1.grown _)
   clear HM1 gt1 Z0
   obtain ⟨c8,z8⟩:=ot1.cell cnG_len (j:=8) hy0.out rfl
   have s8:=ot1.set1 cnG_len (j:=8) (y:=(mkConn_8 x M)) (u:=.string (mtS (M+8))) hy0.out (by omega) rfl
   rw [List.set_set] at s8
   have hx8:(L'.set k (mkConn_8 x M))[k]?=some (mkConn_8 x M):=List.getElem?_set_self (by rw [hT.out.1];exact hlt)
   have Z1:Hid (OwnS cnG 11 162 (wt1.setCell ⟨g,k * 11+8,none⟩ (.string (mtS (M+8)))) B (.slice (some ⟨g,0,none⟩) n cap) (L'.set k (mkConn_8 x M))∧w.grownBy (wt1.setCell ⟨g,k * 11+8,none⟩ (.string (mtS (M+8)))) (some g)):=⟨s8.1,(grown_tr Gt1.out s8.2)⟩
   have hy1:Hid ((L'.set k (mkConn_8 x M))[k]?=some (mkConn_8 x M)):=hx8
   clear ot1 Gt1 s8 hx8 
   have HM2:Hid (∀ w,Calls Tryz.prog 105 #[.int .i64 ((M:Int)+1+1+1+1+1+1+1+1+1)] w fun e w'=>e=.returned (.string (mtS (M+9)))∧Grw w w'):=fun w=>by
    have:=markText_any (M+9) w (by omega) (by omega)
    rw [show ((M+9:Nat):Int)=(M:Int)+1+1+1+1+1+1+1+1+1 by omega] at this
    exact this
   go_wp2_with fail
   refine (HM2.out _).mono ?_
   rintro e wt2 ⟨rfl,gt2⟩
   clear c8 z8
   have ot2:=Z1.out.1.now gt2.below
   have Gt2:Hid (w.grownBy wt2 (some g)):=grown_tr Z1.out.2 (gt2.grown _)
   clear HM2 gt2 Z1
   obtain ⟨c9,z9⟩:=ot2.cell cnG_len (j:=9) hy1.out rfl
   obtain ⟨c10,z10⟩:=ot2.cell cnG_len (j:=10) hy1.out rfl
   have s9:=ot2.set1 cnG_len (j:=9) (y:=(mkConn_9 x M)) (u:=.string (mtS (M+9))) hy1.out (by omega) rfl
   rw [List.set_set] at s9
   have hx9:(L'.set k (mkConn_9 x M))[k]?=some (mkConn_9 x M):=List.getElem?_set_self (by rw [hT.out.1];exact hlt)
   have s10:=s9.1.set1 cnG_len (j:=10) (y:=(mkConn_10 x M)) (u:=.bool (((M:Int)+1+1+1+1+1+1+1+1+1+1) % 3 == 0)) hx9 (by omega) rfl
   rw [List.set_set] at s10
   have hx10:(L'.set k (mkConn_10 x M))[k]?=some (mkConn_10 x M):=List.getElem?_set_self (by rw [hT.out.1];exact hlt)
   have Z2:Hid (OwnS cnG 11 162 ((wt2.setCell ⟨g,k * 11+9,none⟩ (.string (mtS (M+9)))).setCell ⟨g,k * 11+10,none⟩ (.bool (((M:Int)+1+1+1+1+1+1+1+1+1+1) % 3 == 0))) B (.slice (some ⟨g,0,none⟩) n cap) (L'.set k (mkConn_10 x M))∧w.grownBy ((wt2.setCell ⟨g,k * 11+9,none⟩ (.string (mtS (M+9)))).setCell ⟨g,k * 11+10,none⟩ (.bool (((M:Int)+1+1+1+1+1+1+1+1+1+1) % 3 == 0))) (some g)):=⟨s10.1,(grown_tr (grown_tr Gt2.out s9.2) s10.2)⟩
   have hy2:Hid ((L'.set k (mkConn_10 x M))[k]?=some (mkConn_10 x M)):=hx10
   clear ot2 Gt2 s9 hx9 s10 hx10 
   have eConn:(mkConn_10 x M)=mkConn M:=rfl
   rw [eConn] at Z2
   have YY:Hid (OwnS cnG 11 162 ((wt2.setCell ⟨g,k * 11+9,none⟩ (.string (mtS (M+9)))).setCell ⟨g,k * 11+10,none⟩ (.bool (((M:Int)+1+1+1+1+1+1+1+1+1+1) % 3 == 0))) B (.slice (some ⟨g,0,none⟩) n cap) (L'.set k (mkConn M))∧(L'.set k (mkConn M)).length=n∧(L'.set k (mkConn M)).take (k+1)=(mkConnL m0 n).take (k+1)∧w.grownBy ((wt2.setCell ⟨g,k * 11+9,none⟩ (.string (mtS (M+9)))).setCell ⟨g,k * 11+10,none⟩ (.bool (((M:Int)+1+1+1+1+1+1+1+1+1+1) % 3 == 0))) (some g)):=⟨Z2.out.1,by rw [List.length_set];exact hT.out.1,takeS_set (by rw [hT.out.1,mkConnL_len]) (by rw [mkConnL_at m0 n k hlt,hM.out]) hT.out.2,Z2.out.2⟩
   clear Z2 hT hy0 hy1 hy2
   go_wp2
   go_roundw
   case rel=>exact ⟨k+1,M+11,_,by omega,by go_num,by go_num,(show M+11=m0+11 * (k+1) by have:=hM.out;omega),YY⟩
   case measure=>simp [intOf];omega
  ·obtain rfl:k=n:=by omega
   have e1:L'=mkConnL m0 k:=by
    have:=X.out.2.2.1
    rwa [List.take_of_length_le (by rw [X.out.2.1];exact Nat.le_refl _),List.take_of_length_le (by rw [mkConnL_len];exact Nat.le_refl _)] at this
   subst e1
   have hM2:=hM.out
   subst hM2
   go_wp2
   go_ret
   exact ⟨rfl,X.out.1,X.out.2.2.2⟩
set_option maxHeartbeats 4000000 in
theorem heldConnS_any (a:Option Addr) (n cap m0:Nat) (w:World) (h:Rw CnR 11 w a (mkConnL m0 n)) (h0:0<m0) (hm:m0+11 * n≤100000000000) :
  Calls Tryz.prog 59 #[.slice a n cap,.int .i64 (m0:Int)] w fun e w'=>e=.returned (.int .i64 ((m0+11 * n:Nat):Int))∧Grw w w':=by
 have H:Hid (Rw CnR 11 w a (mkConnL m0 n)):=h
 have hlen:n≤100000000000:=by omega
 clear h
 have hmix:Tryz.prog.follows .mixedOrders=true:=by kernel_rfl
 go_enter Tryz.func59,Tryz.ntmps59
 go_wp2
 go_loopw [1,5] (fun m i wr=>∃ k M:Nat,k≤n∧i=.int .i64 k∧m=.int .i64 (M:Int)∧Hid (M=m0+11 * k)∧Hid (Grw w wr)) (fun _ i _=>n - (intOf i).toNat)
 case atStart=>exact ⟨0,m0,Nat.zero_le _,rfl,rfl,by show m0=_;omega,Grw.refl w⟩
 case round =>
  obtain ⟨k,M,hk,rfl,rfl,hM,HG⟩:=hrel
  by_cases hlt:k<n
  ·obtain ⟨b,off,vs,rfl,hb,hvl,hR,hc⟩:=H.out.at CnR.kp HG.out.below (mkConnL_at m0 n k hlt)
   rw [← hM.out] at hR
   obtain ⟨rfl,-⟩:=hR
   have hltz:(k:Int)<(n:Int):=by omega
   have hMz:(M:Int)≤200000000000:=by have:=hM.out;omega
   have hM0:0<M:=by have:=hM.out;omega
   have q0:wr.cell? ⟨b,off+k * 11,none⟩=some (.string (mtS M)):=hc 0 _ rfl
   have q1:wr.cell? ⟨b,off+k * 11+1,none⟩=some (.int .i64 ((M:Int)+1)):=hc 1 _ rfl
   have q2:wr.cell? ⟨b,off+k * 11+2,none⟩=some (.int .i64 ((M:Int)+1+1)):=hc 2 _ rfl
   have q3:wr.cell? ⟨b,off+k * 11+3,none⟩=some (.int .i64 ((M:Int)+1+1+1)):=hc 3 _ rfl
   have q4:wr.cell? ⟨b,off+k * 11+4,none⟩=some (.int .i64 ((M:Int)+1+1+1+1)):=hc 4 _ rfl
   have q5:wr.cell? ⟨b,off+k * 11+5,none⟩=some (.int .i64 ((M:Int)+1+1+1+1+1)):=hc 5 _ rfl
   have q6:wr.cell? ⟨b,off+k * 11+6,none⟩=some (.int .i64 ((M:Int)+1+1+1+1+1+1)):=hc 6 _ rfl
   have q7:wr.cell? ⟨b,off+k * 11+7,none⟩=some (.int .i64 ((M:Int)+1+1+1+1+1+1+1)):=hc 7 _ rfl
   have q8:wr.cell? ⟨b,off+k * 11+8,none⟩=some (.string (mtS (M+8))):=hc 8 _ rfl
   have q9:wr.cell? ⟨b,off+k * 11+9,none⟩=some (.string (mtS (M+9))):=hc 9 _ rfl
   have q10:wr.cell? ⟨b,off+k * 11+10,none⟩=some (.bool (((M:Int)+1+1+1+1+1+1+1+1+1+1) % 3 == 0)):=hc 10 _ rfl
   clear hc hvl
   have e1:(((M:Int)+1) != ((M:Int)+1))=false:=by simp
   have e2:(((M:Int)+1+1) != ((M:Int)+1+1))=false:=by simp
   have e3:(((M:Int)+1+1+1) != ((M:Int)+1+1+1))=false:=by simp
   have e4:(((M:Int)+1+1+1+1) != ((M:Int)+1+1+1+1))=false:=by simp
   have e5:(((M:Int)+1+1+1+1+1) != ((M:Int)+1+1+1+1+1))=false:=by simp
   have e6:(((M:Int)+1+1+1+1+1+1) != ((M:Int)+1+1+1+1+1+1))=false:=by simp
   have e7:(((M:Int)+1+1+1+1+1+1+1) != ((M:Int)+1+1+1+1+1+1+1))=false:=by simp
   have e10:((((M:Int)+1+1+1+1+1+1+1+1+1+1) % 3 == 0) != (((M:Int)+1+1+1+1+1+1+1+1+1+1) % 3 == 0))=false:=by simp
   have HM0:Hid (∀ w,Calls Tryz.prog 105 #[.int .i64 ((M:Int))] w fun e w'=>e=.returned (.string (mtS (M)))∧Grw w w'):=fun w=>by
    have:=markText_any (M) w (by omega) (by omega)
    exact this
   generalize mtS (M)=T0 at *
   have t0:(T0.toList == T0.toList)=true:=by simp
   have HM8:Hid (∀ w,Calls Tryz.prog 105 #[.int .i64 ((M:Int)+1+1+1+1+1+1+1+1)] w fun e w'=>e=.returned (.string (mtS (M+8)))∧Grw w w'):=fun w=>by
    have:=markText_any (M+8) w (by omega) (by omega)
    rw [show ((M+8:Nat):Int)=(M:Int)+1+1+1+1+1+1+1+1 by omega] at this
    exact this
   generalize mtS (M+8)=T8 at *
   have t8:(T8.toList == T8.toList)=true:=by simp
   have HM9:Hid (∀ w,Calls Tryz.prog 105 #[.int .i64 ((M:Int)+1+1+1+1+1+1+1+1+1)] w fun e w'=>e=.returned (.string (mtS (M+9)))∧Grw w w'):=fun w=>by
    have:=markText_any (M+9) w (by omega) (by omega)
    rw [show ((M+9:Nat):Int)=(M:Int)+1+1+1+1+1+1+1+1+1 by omega] at this
    exact this
   generalize mtS (M+9)=T9 at *
   have t9:(T9.toList == T9.toList)=true:=by simp
   have y0:∀ n os,(grow (wr.drewN n) os).cell? ⟨b,off+k * 11,none⟩=some (.string T0):=fun n os=>bkeep (Grw.below ⟨n,os,rfl⟩) q0
   go_wp2_with fail
   refine wp_region_quiet_grown (by assumption) (by kernel_rfl) ?_
   repeat (go_big_quiet_step (first | fail | (go_at_call 105;exact Calls.grown_of (HM0.out _))))
   refine wpQuiet_nil ?_
   intro _ hw'
   obtain ⟨⟨nq,osq⟩,hw''⟩:=hw'
   subst hw''
   have HG0:Hid (Grw w (grow (wr.drewN nq) osq)):=HG.out.trans ⟨nq,osq,rfl⟩
   replace q1:(grow (wr.drewN nq) osq).cell? ⟨b,off+k * 11+1,none⟩=some (.int .i64 ((M:Int)+1)):=bkeep (Grw.below ⟨nq,osq,rfl⟩) q1
   replace q2:(grow (wr.drewN nq) osq).cell? ⟨b,off+k * 11+2,none⟩=some (.int .i64 ((M:Int)+1+1)):=bkeep (Grw.below ⟨nq,osq,rfl⟩) q2
   replace q3:(grow (wr.drewN nq) osq).cell? ⟨b,off+k * 11+3,none⟩=some (.int .i64 ((M:Int)+1+1+1)):=bkeep (Grw.below ⟨nq,osq,rfl⟩) q3
   replace q4:(grow (wr.drewN nq) osq).cell? ⟨b,off+k * 11+4,none⟩=some (.int .i64 ((M:Int)+1+1+1+1)):=bkeep (Grw.below ⟨nq,osq,rfl⟩) q4
   replace q5:(grow (wr.drewN nq) osq).cell? ⟨b,off+k * 11+5,none⟩=some (.int .i64 ((M:Int)+1+1+1+1+1)):=bkeep (Grw.below ⟨nq,osq,rfl⟩) q5
   replace q6:(grow (wr.drewN nq) osq).cell? ⟨b,off+k * 11+6,none⟩=some (.int .i64 ((M:Int)+1+1+1+1+1+1)):=bkeep (Grw.below ⟨nq,osq,rfl⟩) q6
   replace q7:(grow (wr.drewN nq) osq).cell? ⟨b,off+k * 11+7,none⟩=some (.int .i64 ((M:Int)+1+1+1+1+1+1+1)):=bkeep (Grw.below ⟨nq,osq,rfl⟩) q7
   replace q8:(grow (wr.drewN nq) osq).cell? ⟨b,off+k * 11+8,none⟩=some (.string T8):=bkeep (Grw.below ⟨nq,osq,rfl⟩) q8
   replace q9:(grow (wr.drewN nq) osq).cell? ⟨b,off+k * 11+9,none⟩=some (.string T9):=bkeep (Grw.below ⟨nq,osq,rfl⟩) q9
   replace q10:(grow (wr.drewN nq) osq).cell? ⟨b,off+k * 11+10,none⟩=some (.bool (((M:Int)+1+1+1+1+1+1+1+1+1+1) % 3 == 0)):=bkeep (Grw.below ⟨nq,osq,rfl⟩) q10
   clear y0 q0 HM0
   generalize (grow (wr.drewN nq) osq)=wv0 at *
   have y8:∀ n os,(grow (wv0.drewN n) os).cell? ⟨b,off+k * 11+8,none⟩=some (.string T8):=fun n os=>bkeep (Grw.below ⟨n,os,rfl⟩) q8
   go_wp2_with fail
   refine wp_region_quiet_grown (by assumption) (by kernel_rfl) ?_
   repeat (go_big_quiet_step (first | fail | (go_at_call 105;exact Calls.grown_of (HM8.out _))))
   refine wpQuiet_nil ?_
   intro _ hw'
   obtain ⟨⟨nq,osq⟩,hw''⟩:=hw'
   subst hw''
   have HG8:Hid (Grw w (grow (wv0.drewN nq) osq)):=HG0.out.trans ⟨nq,osq,rfl⟩
   replace q9:(grow (wv0.drewN nq) osq).cell? ⟨b,off+k * 11+9,none⟩=some (.string T9):=bkeep (Grw.below ⟨nq,osq,rfl⟩) q9
   replace q10:(grow (wv0.drewN nq) osq).cell? ⟨b,off+k * 11+10,none⟩=some (.bool (((M:Int)+1+1+1+1+1+1+1+1+1+1) % 3 == 0)):=bkeep (Grw.below ⟨nq,osq,rfl⟩) q10
   clear y8 q1 q2 q3 q4 q5 q6 q7 q8 HM8
   generalize (grow (wv0.drewN nq) osq)=wv8 at *
   have y9:∀ n os,(grow (wv8.drewN n) os).cell? ⟨b,off+k * 11+9,none⟩=some (.string T9):=fun n os=>bkeep (Grw.below ⟨n,os,rfl⟩) q9
   go_wp2_with fail
   refine wp_region_quiet_grown (by assumption) (by kernel_rfl) ?_
   repeat (go_big_quiet_step (first | fail | (go_at_call 105;exact Calls.grown_of (HM9.out _))))
   refine wpQuiet_nil ?_
   intro _ hw'
   obtain ⟨⟨nq,osq⟩,hw''⟩:=hw'
   subst hw''
   have HG9:Hid (Grw w (grow (wv8.drewN nq) osq)):=HG8.out.trans ⟨nq,osq,rfl⟩
   replace q10:(grow (wv8.drewN nq) osq).cell? ⟨b,off+k * 11+10,none⟩=some (.bool (((M:Int)+1+1+1+1+1+1+1+1+1+1) % 3 == 0)):=bkeep (Grw.below ⟨nq,osq,rfl⟩) q10
   clear y9 q9 HM9
   generalize (grow (wv8.drewN nq) osq)=wv9 at *
   go_wp2
   go_roundw
   case rel=>exact ⟨k+1,M+11,by omega,by go_num,by go_num,(show M+11=m0+11 * (k+1) by have:=hM.out;omega),HG9⟩
   case measure=>simp [intOf];omega
  ·obtain rfl:k=n:=by omega
   have hM2:=hM.out
   subst hM2
   go_wp2
   go_ret
   exact ⟨rfl,HG.out⟩
theorem own_loc {e:TypeId} {K n B:Nat} {w w':World} {v:Value} {F:List Value} (h:w.ownsRow B e K v n F) (hq:∀ k,v.ownBlock=some k→w'.heap[k]?=w.heap[k]?):w'.ownsRow B e K v n F:=by
 refine ⟨h.1,?_⟩
 rcases h.2 with h' | ⟨g,cap,cur,h1,hB,hg,h4⟩
 ·exact .inl h'
 ·exact .inr ⟨g,cap,cur,h1,hB,by rw [hq g (by rw [h1];rfl)];exact hg,h4⟩
theorem own_keep {α:Type} {c:α→List Value} {K:Nat} {e:TypeId} {w w':World} {B:Nat} {v:Value} {xs:List α} {P:Nat→Prop} (h:OwnS c K e w B v xs) (hk:Rel.Keep P w w') (hP:∀ k,v.ownBlock=some k→P k):OwnS c K e w' B v xs :=
 own_loc h (fun k e=>hk.block k (hP k e))
structure OwnGt (w:World) (B:Nat) (A:GtA) (g:GtV) (L:List RoX):Prop where
 ro:L.map (fun x=>x.r)=g.ros
 ps:OwnS pv 4 135 w B (.slice A.x g.ps.length A.xc) g.ps
 rs:OwnRo w B (.slice A.y g.ros.length A.yc) L
 gu:Own4 w B (.slice A.ua g.us.length A.uc) (.slice A.sa g.ss.length A.sc) (.slice A.fa g.fs.length A.fc) (.slice A.ra g.es.length A.rc) g.us g.ss g.fs g.es
 fl:OwnS wvG 9 159 w B (.slice A.la g.fl.length A.lc) g.fl
 co:OwnS cnG 11 162 w B (.slice A.ca g.co.length A.cc) g.co
theorem OwnGt.now {w w':World} {B:Nat} {A:GtA} {g:GtV} {L:List RoX} (h:OwnGt w B A g L) (hb:Below w.heap.size w w'):OwnGt w' B A g L:=⟨h.ro,h.ps.now hb,h.rs.now hb,h.gu.now hb,h.fl.now hb,h.co.now hb⟩
theorem OwnGt.lower {w:World} {B B':Nat} {A:GtA} {g:GtV} {L:List RoX} (h:OwnGt w B A g L) (hb:B'≤B):OwnGt w B' A g L:=⟨h.ro,h.ps.lower hb,h.rs.lower hb,h.gu.lower hb,h.fl.lower hb,h.co.lower hb⟩
def gtN1 (m0:Nat) (g:GtV) (L:List RoX):Nat:=m0+4 * g.ps.length+roN L
def gtN2 (m0:Nat) (g:GtV) (L:List RoX):Nat:=gtN1 m0 g L+6 * g.us.length+10 * g.ss.length+3 * g.fs.length+5 * g.es.length
def gtN3 (m0:Nat) (g:GtV) (L:List RoX):Nat:=gtN2 m0 g L+9 * g.fl.length
def gtN4 (m0:Nat) (g:GtV) (L:List RoX):Nat:=gtN3 m0 g L+11 * g.co.length
structure MkdGt (w:World) (B:Nat) (A:GtA) (g:GtV) (L:List RoX) (m0:Nat):Prop where
 ps:OwnS pv 4 135 w B (.slice A.x g.ps.length A.xc) (mkPlaceL m0 g.ps.length)
 rs:OwnRo w B (.slice A.y g.ros.length A.yc) (mkRoL (m0+4 * g.ps.length) L)
 gu:Own4 w B (.slice A.ua g.us.length A.uc) (.slice A.sa g.ss.length A.sc) (.slice A.fa g.fs.length A.fc) (.slice A.ra g.es.length A.rc) (mkUserL (gtN1 m0 g L) g.us.length) (mkSessionL (gtN1 m0 g L+6 * g.us.length) g.ss.length) (mkFailL (gtN1 m0 g L+6 * g.us.length+10 * g.ss.length) g.fs.length) (mkRecordL (gtN1 m0 g L+6 * g.us.length+10 * g.ss.length+3 * g.fs.length) g.es.length)
 fl:OwnS wvG 9 159 w B (.slice A.la g.fl.length A.lc) (mkFlowL (gtN2 m0 g L) g.fl.length)
 co:OwnS cnG 11 162 w B (.slice A.ca g.co.length A.cc) (mkConnL (gtN3 m0 g L) g.co.length)
theorem MkdGt.now {w w':World} {B:Nat} {A:GtA} {g:GtV} {L:List RoX} {m0:Nat} (h:MkdGt w B A g L m0) (hb:Below w.heap.size w w'):MkdGt w' B A g L m0:=⟨h.ps.now hb,h.rs.now hb,h.gu.now hb,h.fl.now hb,h.co.now hb⟩
def guBk (A:GtA) (g:GtV) (k:Nat):Prop:=Value.ownBlock (.slice A.ua g.us.length A.uc)=some k ∨ Value.ownBlock (.slice A.sa g.ss.length A.sc)=some k ∨ Value.ownBlock (.slice A.fa g.fs.length A.fc)=some k ∨ Value.ownBlock (.slice A.ra g.es.length A.rc)=some k
def gtBk (A:GtA) (g:GtV) (L:List RoX) (k:Nat):Prop:=cfBk (.slice A.x g.ps.length A.xc) (.slice A.y g.ros.length A.yc) L k ∨ guBk A g k ∨ Value.ownBlock (.slice A.la g.fl.length A.lc)=some k ∨ Value.ownBlock (.slice A.ca g.co.length A.cc)=some k
theorem cf_apart {α:Type} {c:α→List Value} {K:Nat} {e:TypeId} {w:World} {B:Nat} {v vp vr:Value} {xs:List α} {ps:List PlaceV} {L:List RoX} (o:OwnS c K e w B v xs) (op:OwnS pv 4 135 w B vp ps) (or_:OwnRo w B vr L) (h1:e ≠ 135) (h2:e ≠ 142) (h3:e ≠ 156):∀ k,v.ownBlock=some k→¬ cfBk vp vr L k:=by
 rintro k hk (hb | hb | ⟨z,hz,hb⟩)
 ·exact apB_of o op h1 k hk hb
 ·exact apB_of o or_.row h2 k hk hb
 ·exact apB_of o (or_.rules z hz) h3 k hk hb
theorem gu_apart {α:Type} {c:α→List Value} {K:Nat} {e:TypeId} {w:World} {B:Nat} {v:Value} {xs:List α} {A:GtA} {g:GtV} {us:List UserV} {ss:List SessV} {fs:List FailV} {es:List RecV} (o:OwnS c K e w B v xs) (h:Own4 w B (.slice A.ua g.us.length A.uc) (.slice A.sa g.ss.length A.sc) (.slice A.fa g.fs.length A.fc) (.slice A.ra g.es.length A.rc) us ss fs es) (h1:e ≠ 144) (h2:e ≠ 124) (h3:e ≠ 127) (h4:e ≠ 129):∀ k,v.ownBlock=some k→¬ guBk A g k:=by
 rintro k hk (hb | hb | hb | hb)
 ·exact apB_of o h.u h1 k hk hb
 ·exact apB_of o h.s h2 k hk hb
 ·exact apB_of o h.f h3 k hk hb
 ·exact apB_of o h.r h4 k hk hb
theorem own4_keep {w w':World} {B:Nat} {vu vs vf vr:Value} {us:List UserV} {ss:List SessV} {fs:List FailV} {rs:List RecV} {P:Nat→Prop} (h:Own4 w B vu vs vf vr us ss fs rs) (hk:Rel.Keep P w w') (h1:∀ k,vu.ownBlock=some k→P k) (h2:∀ k,vs.ownBlock=some k→P k) (h3:∀ k,vf.ownBlock=some k→P k) (h4:∀ k,vr.ownBlock=some k→P k):Own4 w' B vu vs vf vr us ss fs rs :=
 ⟨own_keep h.u hk h1,own_keep h.s hk h2,own_keep h.f hk h3,own_keep h.r hk h4,h.us_,h.uf,h.ur,h.sf,h.sr,h.fr⟩
theorem bx_keep {w w':World} {q:Nat} {cs:List Value} {P:Nat→Prop} (h:Bx w q cs) (hk:Rel.Keep P w w') (hq:P q):Bx w' q cs:=by
 refine Bx.of (fun j v hj=>?_) (fun j hj=>?_)
 ·have:=h.cell j hj
  unfold World.cell? at this ⊢
  rw [show w'.heap[(⟨q,j,none⟩:Addr).block]?=w.heap[(⟨q,j,none⟩:Addr).block]? from hk.block q hq]
  exact this
 ·have:=h.thaw j hj
  unfold World.frozen? at this ⊢
  rw [show w'.heap[(⟨q,j,none⟩:Addr).block]?=w.heap[(⟨q,j,none⟩:Addr).block]? from hk.block q hq]
  exact this
theorem mkRoL_sl:∀ (L:List RoX) (M:Nat),(mkRoL M L).map RoX.sl=L.map RoX.sl
 | [],_=>rfl
 | x :: L,M=>by simp only [mkRoL,List.map_cons,mkRoL_sl L,mkRo_sl]
theorem roBk_sl {v:Value} {L L':List RoX} (h:L.map RoX.sl=L'.map RoX.sl) {k:Nat} (hk:roBk v L k):roBk v L' k:=by
 rcases hk with hk | ⟨x,hx,hk⟩
 ·exact .inl hk
 ·have hm:x.sl ∈ L'.map RoX.sl:=by rw [← h];exact List.mem_map_of_mem hx
  obtain ⟨y,hy,e⟩:=List.mem_map.1 hm
  exact .inr ⟨y,hy,by rw [e];exact hk⟩
theorem roBk_mk (v:Value) (L:List RoX) (M k:Nat):roBk v (mkRoL M L) k ↔ roBk v L k:=⟨roBk_sl (mkRoL_sl L M),roBk_sl (mkRoL_sl L M).symm⟩
end Go.Proofs.YtbeehlhcckndcaaGreat
