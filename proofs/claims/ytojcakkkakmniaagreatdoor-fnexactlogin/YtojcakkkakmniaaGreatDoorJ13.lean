/- Places and rules copied by the laws into rows of one's own. Boxes: stores of one cell. Nothing of the program is used. Roles copied by the laws into rows of one's own. Configurations copied by the laws into rows of one's own, and marked. What the laws do with a config, in packed words. Guests copied by the laws into rows of one's own. What the laws do with guests, in packed words. What the laws' regions leave: a struct and a code. Regions by resources: the kinds of resources. Append within a region walked by resources: the row that comes lies where the elder one lay, or in a new block. Nothing of the program is used. Append within a region walked by resources (RelW): the row that comes takes the elder one over, or lies in a new block. Nothing of the program is used. Regions by resources: the same in fewer words. Nothing of the program is used. -/
import Derived.Test.YtojcakkkakmniaaGreatDoorJ12
namespace Go.Proofs.YtojcakkkakmniaaGreatDoor
open Go.RowKit Go.PlainAid Go.Proofs.YtojcakkkakmniaaGreatDoor.Bt Go.Sort
set_option linter.unusedVariables false
set_option maxRecDepth 20000
theorem zPlace:#[.int .i64 0,.int .i64 0,.int .i64 0,.int .i64 0].toList=pv default:=rfl
set_option maxHeartbeats 4000000 in
theorem toPlaceS_own (a:Option Addr) (len cap:Nat) (xs:List PlaceV) (w:World) (h:Rw PlR 4 w a xs) (hl:xs.length=len) (hc:len≤1048576) :
  Calls Tryz.prog 28 #[.slice a len cap] w fun e w'=>e=.returned (.slice (some ⟨w.heap.size,0,none⟩) len len)∧OwnS pv 4 126 w' w.heap.size (.slice (some ⟨w.heap.size,0,none⟩) len len) xs∧(∀ x,x ∈ xs→PlRok x)∧Below w.heap.size w w':=by
 have RW:Hid (Rw PlR 4 w a xs):=h
 have HK:Hid (∀ x,x ∈ xs→PlRok x):=by
  intro x hx
  obtain ⟨i,hi⟩:=List.getElem?_of_mem hx
  obtain ⟨b,off,vs,_,_,_,h2,_⟩:=h.at PlR.kp (Below.refl _ _) hi
  exact h2.2
 clear h
 obtain ⟨i0,hi,hz0,hz1,hz2⟩:=info_parts infoPlace
 have hmk:=run_make (P:=Tryz.prog) w 45 126 i0 (.agg #[.int .i64 0,.int .i64 0,.int .i64 0,.int .i64 0]) Tryz.underlying45 hi hz0 .i64 .i64 len len (by omega) (Int.le_refl _) (by rw [hz2];omega) (by omega)
 rw [hz1,Int.toNat_natCast] at hmk
 have HM:Hid (OwnS pv 4 126 (w.alloc (.cells (madeCells #[.int .i64 0,.int .i64 0,.int .i64 0,.int .i64 0] (len * 4)) 126)) w.heap.size (.slice (some ⟨w.heap.size,0,none⟩) len len) (List.replicate len default)∧Below w.heap.size w (w.alloc (.cells (madeCells #[.int .i64 0,.int .i64 0,.int .i64 0,.int .i64 0] (len * 4)) 126))):=⟨OwnS.made w _ _ len default _ zPlace rfl (by omega) (Nat.le_refl _) (by unfold maxLen;omega),(Below.refl _ _).alloc (Nat.le_refl _) _⟩
 have hmk2:(Instr.makeSlice 45 (.int .i64 (len:Int)) (.int .i64 (len:Int))).run Tryz.prog w=.ok (.slice (some ⟨w.heap.size,0,none⟩) len len) (w.alloc (.cells (madeCells #[.int .i64 0,.int .i64 0,.int .i64 0,.int .i64 0] (len * 4)) 126)):=hmk
 clear hmk hi hz0 hz1 hz2
 obtain ⟨W,hW⟩:∃ W,W=(w.alloc (.cells (madeCells #[.int .i64 0,.int .i64 0,.int .i64 0,.int .i64 0] (len * 4)) 126)):=⟨_,rfl⟩
 rw [← hW] at HM hmk2
 clear hW
 go_enter Tryz.func28,Tryz.ntmps28
 go_wp2
 go_loopw [4] (fun i wr=>∃ (k:Nat) (L:List PlaceV),k≤len∧i=.int .i64 k∧Hid (OwnS pv 4 126 wr w.heap.size (.slice (some ⟨w.heap.size,0,none⟩) len len) L∧L.length=len∧L.take k=xs.take k∧Below w.heap.size w wr)) (fun i _=>len - (intOf i).toNat)
 case atStart=>exact ⟨0,_,Nat.zero_le _,rfl,HM.out.1,List.length_replicate ..,rfl,HM.out.2⟩
 case round =>
  obtain ⟨k,L,hk,rfl,X⟩:=hrel
  by_cases hlt:k<len
  ·obtain ⟨x,hx⟩:=at_of hl hlt
   obtain ⟨b,off,vs,rfl,hb,hvl,hR,hc⟩:=RW.out.at PlR.kp X.out.2.2.2 hx
   have TS:Hid ((L.set k x).take (k+1)=xs.take (k+1)):=takeS_set (by rw [X.out.2.1,hl]) hx X.out.2.2.1
   obtain ⟨ip,bt,lo,hi⟩:=x
   obtain ⟨rfl,hok⟩:=hR
   clear hok
   have q0:wr.cell? ⟨b,off+k * 4,none⟩=some (.int .i64 ip):=hc 0 _ rfl
   have q1:wr.cell? ⟨b,off+k * 4+1,none⟩=some (.int .i64 bt):=hc 1 _ rfl
   have q2:wr.cell? ⟨b,off+k * 4+2,none⟩=some (.int .i64 lo):=hc 2 _ rfl
   have q3:wr.cell? ⟨b,off+k * 4+3,none⟩=some (.int .i64 hi):=hc 3 _ rfl
   have HT:Hid (∀ w,Calls Tryz.prog 71 #[.agg #[.int .i64 ip,.int .i64 bt,.int .i64 lo,.int .i64 hi]] w fun e w'=>e=.returned (.agg #[.int .i64 ip,.int .i64 bt,.int .i64 lo,.int .i64 hi])∧Below w.heap.size w w'):=fun w=>toPlace_any ip bt lo hi w
   have hltz:(k:Int)<(len:Int):=by omega
   clear hc
   go_wp2_with fail
   refine (HT.out _).mono ?_
   rintro e w1 ⟨rfl,b1⟩
   have o1:=X.out.1.now b1
   obtain ⟨y,hy⟩:=at_of (k:=k) X.out.2.1 hlt
   obtain ⟨c0,z0⟩:=o1.cell pv_len (j:=0) hy rfl
   obtain ⟨c1,z1⟩:=o1.cell pv_len (j:=1) hy rfl
   obtain ⟨c2,z2⟩:=o1.cell pv_len (j:=2) hy rfl
   obtain ⟨c3,z3⟩:=o1.cell pv_len (j:=3) hy rfl
   replace c0:w1.cell? ⟨w.heap.size,k * 4,none⟩=some (.int .i64 y.ip):=c0
   replace z0:w1.frozen? ⟨w.heap.size,k * 4,none⟩=false:=z0
   have Y0:∀ W1,W1=((((w1.setCell ⟨w.heap.size,k * 4,none⟩ (.int .i64 ip)).setCell ⟨w.heap.size,k * 4+1,none⟩ (.int .i64 bt)).setCell ⟨w.heap.size,k * 4+2,none⟩ (.int .i64 lo)).setCell ⟨w.heap.size,k * 4+3,none⟩ (.int .i64 hi))→OwnS pv 4 126 W1 w.heap.size (.slice (some ⟨w.heap.size,0,none⟩) len len) (L.set k ⟨ip,bt,lo,hi⟩)∧(L.set k ⟨ip,bt,lo,hi⟩).length=len∧(L.set k ⟨ip,bt,lo,hi⟩).take (k+1)=xs.take (k+1)∧Below w.heap.size w W1:=by
    intro W1 hW1
    have h2:=o1.store pv_len hlt ⟨ip,bt,lo,hi⟩
    have e3:W1=wsets w1 w.heap.size (k * 4) (pv ⟨ip,bt,lo,hi⟩):=hW1
    rw [← e3] at h2
    exact ⟨h2.1,by rw [List.length_set];exact X.out.2.1,TS.out,(X.out.2.2.2.trans (b1.mono X.out.2.2.2.size)).trans (below_row h2.2 (Nat.le_refl _) (Nat.le_trans X.out.2.2.2.size b1.size))⟩
   have Y:Hid (OwnS pv 4 126 ((((w1.setCell ⟨w.heap.size,k * 4,none⟩ (.int .i64 ip)).setCell ⟨w.heap.size,k * 4+1,none⟩ (.int .i64 bt)).setCell ⟨w.heap.size,k * 4+2,none⟩ (.int .i64 lo)).setCell ⟨w.heap.size,k * 4+3,none⟩ (.int .i64 hi)) w.heap.size (.slice (some ⟨w.heap.size,0,none⟩) len len) (L.set k ⟨ip,bt,lo,hi⟩)∧(L.set k ⟨ip,bt,lo,hi⟩).length=len∧(L.set k ⟨ip,bt,lo,hi⟩).take (k+1)=xs.take (k+1)∧Below w.heap.size w ((((w1.setCell ⟨w.heap.size,k * 4,none⟩ (.int .i64 ip)).setCell ⟨w.heap.size,k * 4+1,none⟩ (.int .i64 bt)).setCell ⟨w.heap.size,k * 4+2,none⟩ (.int .i64 lo)).setCell ⟨w.heap.size,k * 4+3,none⟩ (.int .i64 hi))):=Y0 _ rfl
   clear Y0
   clear o1 b1 q0 q1 q2 q3 HT X HM hmk2 hx hy TS
   go_wp2
   go_roundw
   case rel=>exact ⟨k+1,_,by omega,by go_num,Y⟩
   case measure=>simp [intOf];omega
  ·obtain rfl:k=len:=by omega
   have e1:L=xs:=by
    have:=X.out.2.2.1
    rw [List.take_of_length_le (by rw [X.out.2.1];exact Nat.le_refl _),List.take_of_length_le (by omega)] at this
    exact this
   subst e1
   go_wp2
   go_ret
   exact ⟨rfl,X.out.1,HK.out,X.out.2.2.2⟩
theorem zRule:#[.int .i64 0,.int .i64 0,.int .i64 0,.int .i64 0,.int .i64 0,.bool false].toList=rv default:=rfl
set_option maxHeartbeats 4000000 in
theorem toRuleS_own (a:Option Addr) (len cap:Nat) (xs:List RuleV) (w:World) (h:Rw RuR 6 w a xs) (hl:xs.length=len) (hc:len≤1048576) :
  Calls Tryz.prog 105 #[.slice a len cap] w fun e w'=>e=.returned (.slice (some ⟨w.heap.size,0,none⟩) len len)∧OwnS rv 6 182 w' w.heap.size (.slice (some ⟨w.heap.size,0,none⟩) len len) xs∧(∀ x,x ∈ xs→RuRok x)∧Below w.heap.size w w':=by
 have RW:Hid (Rw RuR 6 w a xs):=h
 have HK:Hid (∀ x,x ∈ xs→RuRok x):=by
  intro x hx
  obtain ⟨i,hi⟩:=List.getElem?_of_mem hx
  obtain ⟨b,off,vs,_,_,_,h2,_⟩:=h.at RuR.kp (Below.refl _ _) hi
  exact h2.2
 clear h
 obtain ⟨i0,hi,hz0,hz1,hz2⟩:=info_parts infoRule
 have hmk:=run_make (P:=Tryz.prog) w 119 182 i0 (.agg #[.int .i64 0,.int .i64 0,.int .i64 0,.int .i64 0,.int .i64 0,.bool false]) Tryz.underlying119 hi hz0 .i64 .i64 len len (by omega) (Int.le_refl _) (by rw [hz2];omega) (by omega)
 rw [hz1,Int.toNat_natCast] at hmk
 have HM:Hid (OwnS rv 6 182 (w.alloc (.cells (madeCells #[.int .i64 0,.int .i64 0,.int .i64 0,.int .i64 0,.int .i64 0,.bool false] (len * 6)) 182)) w.heap.size (.slice (some ⟨w.heap.size,0,none⟩) len len) (List.replicate len default)∧Below w.heap.size w (w.alloc (.cells (madeCells #[.int .i64 0,.int .i64 0,.int .i64 0,.int .i64 0,.int .i64 0,.bool false] (len * 6)) 182))):=⟨OwnS.made w _ _ len default _ zRule rfl (by omega) (Nat.le_refl _) (by unfold maxLen;omega),(Below.refl _ _).alloc (Nat.le_refl _) _⟩
 have hmk2:(Instr.makeSlice 119 (.int .i64 (len:Int)) (.int .i64 (len:Int))).run Tryz.prog w=.ok (.slice (some ⟨w.heap.size,0,none⟩) len len) (w.alloc (.cells (madeCells #[.int .i64 0,.int .i64 0,.int .i64 0,.int .i64 0,.int .i64 0,.bool false] (len * 6)) 182)):=hmk
 clear hmk hi hz0 hz1 hz2
 obtain ⟨W,hW⟩:∃ W,W=(w.alloc (.cells (madeCells #[.int .i64 0,.int .i64 0,.int .i64 0,.int .i64 0,.int .i64 0,.bool false] (len * 6)) 182)):=⟨_,rfl⟩
 rw [← hW] at HM hmk2
 clear hW
 go_enter Tryz.func105,Tryz.ntmps105
 go_wp2
 go_loopw [4] (fun i wr=>∃ (k:Nat) (L:List RuleV),k≤len∧i=.int .i64 k∧Hid (OwnS rv 6 182 wr w.heap.size (.slice (some ⟨w.heap.size,0,none⟩) len len) L∧L.length=len∧L.take k=xs.take k∧Below w.heap.size w wr)) (fun i _=>len - (intOf i).toNat)
 case atStart=>exact ⟨0,_,Nat.zero_le _,rfl,HM.out.1,List.length_replicate ..,rfl,HM.out.2⟩
 case round =>
  obtain ⟨k,L,hk,rfl,X⟩:=hrel
  by_cases hlt:k<len
  ·obtain ⟨x,hx⟩:=at_of hl hlt
   obtain ⟨b,off,vs,rfl,hb,hvl,hR,hc⟩:=RW.out.at RuR.kp X.out.2.2.2 hx
   have TS:Hid ((L.set k x).take (k+1)=xs.take (k+1)):=takeS_set (by rw [X.out.2.1,hl]) hx X.out.2.2.1
   obtain ⟨p,ip,bt,lo,hi,al⟩:=x
   obtain ⟨rfl,hok⟩:=hR
   clear hok
   have q0:wr.cell? ⟨b,off+k * 6,none⟩=some (.int .i64 p):=hc 0 _ rfl
   have q1:wr.cell? ⟨b,off+k * 6+1,none⟩=some (.int .i64 ip):=hc 1 _ rfl
   have q2:wr.cell? ⟨b,off+k * 6+2,none⟩=some (.int .i64 bt):=hc 2 _ rfl
   have q3:wr.cell? ⟨b,off+k * 6+3,none⟩=some (.int .i64 lo):=hc 3 _ rfl
   have q4:wr.cell? ⟨b,off+k * 6+4,none⟩=some (.int .i64 hi):=hc 4 _ rfl
   have q5:wr.cell? ⟨b,off+k * 6+5,none⟩=some (.bool al):=hc 5 _ rfl
   have HT:Hid (∀ w,Calls Tryz.prog 134 #[.agg #[.int .i64 p,.int .i64 ip,.int .i64 bt,.int .i64 lo,.int .i64 hi,.bool al]] w fun e w'=>e=.returned (.agg #[.int .i64 p,.int .i64 ip,.int .i64 bt,.int .i64 lo,.int .i64 hi,.bool al])∧Below w.heap.size w w'):=fun w=>toRule_any p ip bt lo hi al w
   have hltz:(k:Int)<(len:Int):=by omega
   clear hc
   go_wp2_with fail
   refine (HT.out _).mono ?_
   rintro e w1 ⟨rfl,b1⟩
   have o1:=X.out.1.now b1
   obtain ⟨y,hy⟩:=at_of (k:=k) X.out.2.1 hlt
   obtain ⟨c0,z0⟩:=o1.cell rv_len (j:=0) hy rfl
   obtain ⟨c1,z1⟩:=o1.cell rv_len (j:=1) hy rfl
   obtain ⟨c2,z2⟩:=o1.cell rv_len (j:=2) hy rfl
   obtain ⟨c3,z3⟩:=o1.cell rv_len (j:=3) hy rfl
   obtain ⟨c4,z4⟩:=o1.cell rv_len (j:=4) hy rfl
   obtain ⟨c5,z5⟩:=o1.cell rv_len (j:=5) hy rfl
   replace c0:w1.cell? ⟨w.heap.size,k * 6,none⟩=some (.int .i64 y.p):=c0
   replace z0:w1.frozen? ⟨w.heap.size,k * 6,none⟩=false:=z0
   have Y0:∀ W1,W1=((((((w1.setCell ⟨w.heap.size,k * 6,none⟩ (.int .i64 p)).setCell ⟨w.heap.size,k * 6+1,none⟩ (.int .i64 ip)).setCell ⟨w.heap.size,k * 6+2,none⟩ (.int .i64 bt)).setCell ⟨w.heap.size,k * 6+3,none⟩ (.int .i64 lo)).setCell ⟨w.heap.size,k * 6+4,none⟩ (.int .i64 hi)).setCell ⟨w.heap.size,k * 6+5,none⟩ (.bool al))→OwnS rv 6 182 W1 w.heap.size (.slice (some ⟨w.heap.size,0,none⟩) len len) (L.set k ⟨p,ip,bt,lo,hi,al⟩)∧(L.set k ⟨p,ip,bt,lo,hi,al⟩).length=len∧(L.set k ⟨p,ip,bt,lo,hi,al⟩).take (k+1)=xs.take (k+1)∧Below w.heap.size w W1:=by
    intro W1 hW1
    have h2:=o1.store rv_len hlt ⟨p,ip,bt,lo,hi,al⟩
    have e3:W1=wsets w1 w.heap.size (k * 6) (rv ⟨p,ip,bt,lo,hi,al⟩):=hW1
    rw [← e3] at h2
    exact ⟨h2.1,by rw [List.length_set];exact X.out.2.1,TS.out,(X.out.2.2.2.trans (b1.mono X.out.2.2.2.size)).trans (below_row h2.2 (Nat.le_refl _) (Nat.le_trans X.out.2.2.2.size b1.size))⟩
   have Y:Hid (OwnS rv 6 182 ((((((w1.setCell ⟨w.heap.size,k * 6,none⟩ (.int .i64 p)).setCell ⟨w.heap.size,k * 6+1,none⟩ (.int .i64 ip)).setCell ⟨w.heap.size,k * 6+2,none⟩ (.int .i64 bt)).setCell ⟨w.heap.size,k * 6+3,none⟩ (.int .i64 lo)).setCell ⟨w.heap.size,k * 6+4,none⟩ (.int .i64 hi)).setCell ⟨w.heap.size,k * 6+5,none⟩ (.bool al)) w.heap.size (.slice (some ⟨w.heap.size,0,none⟩) len len) (L.set k ⟨p,ip,bt,lo,hi,al⟩)∧(L.set k ⟨p,ip,bt,lo,hi,al⟩).length=len∧(L.set k ⟨p,ip,bt,lo,hi,al⟩).take (k+1)=xs.take (k+1)∧Below w.heap.size w ((((((w1.setCell ⟨w.heap.size,k * 6,none⟩ (.int .i64 p)).setCell ⟨w.heap.size,k * 6+1,none⟩ (.int .i64 ip)).setCell ⟨w.heap.size,k * 6+2,none⟩ (.int .i64 bt)).setCell ⟨w.heap.size,k * 6+3,none⟩ (.int .i64 lo)).setCell ⟨w.heap.size,k * 6+4,none⟩ (.int .i64 hi)).setCell ⟨w.heap.size,k * 6+5,none⟩ (.bool al))):=Y0 _ rfl
   clear Y0
   clear o1 b1 q0 q1 q2 q3 q4 q5 HT X HM hmk2 hx hy TS
   go_wp2
   go_roundw
   case rel=>exact ⟨k+1,_,by omega,by go_num,Y⟩
   case measure=>simp [intOf];omega
  ·obtain rfl:k=len:=by omega
   have e1:L=xs:=by
    have:=X.out.2.2.1
    rw [List.take_of_length_le (by rw [X.out.2.1];exact Nat.le_refl _),List.take_of_length_le (by omega)] at this
    exact this
   subst e1
   go_wp2
   go_ret
   exact ⟨rfl,X.out.1,HK.out,X.out.2.2.2⟩
open Go.RowKit Go.PlainAid Go.Sort
theorem run_storeVar_at {P:Program} (w:World) (b o:Nat) (ty:TypeId) (v:Value) (ht:w.there b o 1) (hi:(P.info? ty).map (·.size)=some 1) (h1:v.oneCell'=true) :
  (storeVar ty ⟨b,o,none⟩ v).run P w=.ok () (w.setCells b o [v]):=by
 have hc:v.cells=#[v]:=by cases v <;> first | rfl | cases h1
 have:=run_storeCells_cells (P:=P) b o [v] 0 w (fun j hj=>by simpa using (ht j (by simpa using hj)).1) (fun j hj=>by simpa using (ht j (by simpa using hj)).2)
  (fun u hu=>by simp at hu;subst hu;exact h1)
 cases hq:P.info? ty with
 | none=>simp [hq] at hi
 | some i =>
  have hs:i.size=1:=by simpa [hq] using hi
  simp only [Nat.add_zero] at this
  simp [storeVar,sizeOf,typeInfo,hq,hc,hs,this]
theorem wpl_put1 {P:Program} {ops:Array Oper} {rest:List Oper} {op:Oper} {a:Act} {w:World} {Q:Exit→Act→World→Prop} (t:TypeId) (hgd:op.guard=none) (x y:Operand) (ho:op.op=.store t x y)
  (q o:Nat) (v:Value) (hx:a.eval x=.pointer (some ⟨q,o,none⟩)) (hy:a.eval y=v) {cs:List Value} (h0:Bx w q cs) (hn:(decide (o+1≤cs.length))=true) (hi:(P.info? t).map (·.size)=some 1) (h1:v.oneCell'=true)
  (h:∀ w',w'=w.setCells q o [v]→wpList P ops Q rest (a.put op.dst undef) w'):wpList P ops Q (op :: rest) a w :=
 wpList_plain hgd fun _ hK=>by
  unfold Oper.wp execOp
  simp only [ho,hx,hy,Instr.storeAt,Instr.sureAddr,Sem.run_bind,Sem.run_pure,Result.andThen_ok,run_storeVar_at w q o t v (h0.thereAt o 1 (of_decide_eq_true hn)) hi h1]
  exact hK _ _ (h _ rfl)
theorem results_cell {P:Program} {fn:Func} {tmps:Array Value} {w:World} {a:Tmp} {t:TypeId} (hr:fn.results=#[.cell a t]) (q:Nat) (hp:tmps.getD a undef=.pointer (some ⟨q,0,none⟩)) {cs:List Value} (hb:Bx w q cs)
  (d:TypeDesc) (hu:P.underlying t=some d) (hd:d.isRow=true) (hi:(P.info? t).map (·.size)=some cs.length):(results fn tmps).run P w=.ok (.agg cs.toArray) w:=by
 have h:=run_loadVar_mid w q 0 t cs d hb.cl hu hd hi
 unfold results
 rw [hr]
 have hp':tmps[a]?.getD undef=.pointer (some ⟨q,0,none⟩):=by rw [← Array.getD_eq_getD_getElem?];exact hp
 simp [hp',asAddr,h]
theorem own_cellsC {α : Type} {c : α → List Value} {K : Nat} {e : TypeId} {B q : Nat} {v : Value} {xs : List α} (hq : q < B) : ∀ (vs : List Value) (o : Nat) (W : World), OwnS c K e W B v xs → OwnS c K e (W.setCells q o vs) B v xs
  | [], _, _, h => h
  | x :: r, o, W, h => by
    rw [World.setCells]
    refine own_cellsC hq r (o + 1) _ (h.kept (grown_set W ⟨q, o, none⟩ x) ?_)
    cases hb : v.ownBlock with
    | none => exact Or.inl rfl
    | some k => exact Or.inr (fun he => by have := (h.lt k hb).1; have : k = q := by simpa using he
                                           omega)
structure TR (w:World) (nm:ByteArray) (a:Option Addr) (len cap:Nat) (q m i:Int) (cs:List Value) (W:World):Prop where
 a:Bx W w.heap.size [.string nm,.slice a len cap,.int .i64 q,.int .i64 m,.int .i64 i]
 r:Bx W (w.heap.size+1) [.string ⟨#[]⟩,.slice none 0 0,.int .i64 0,.int .i64 0,.int .i64 0]
 n:Bx W (w.heap.size+1+1) cs
 b:Below w.heap.size w W
theorem TR.call {w:World} {nm:ByteArray} {a:Option Addr} {len cap:Nat} {q m i:Int} {cs:List Value} {W W':World} (h:TR w nm a len cap q m i cs W) (hb:Below W.heap.size W W'):TR w nm a len cap q m i cs W':=⟨h.a.below hb,h.r.below hb,h.n.below hb,h.b.trans (hb.mono h.b.size)⟩
theorem TR.put {w:World} {nm:ByteArray} {a:Option Addr} {len cap:Nat} {q m i:Int} {cs:List Value} {W:World} (h:TR w nm a len cap q m i cs W) (o:Nat) (vs:List Value):TR w nm a len cap q m i (sets cs o vs) (W.setCells (w.heap.size+1+1) o vs) :=
 ⟨h.a.apartO vs (by omega),h.r.apartO vs (by omega),h.n.sets vs o _ _,below_cells (by omega) vs o _ h.b⟩
set_option maxHeartbeats 4000000 in
theorem toRole_own (nm:ByteArray) (rs:List RuleV) (q m i:Int) (a:Option Addr) (len cap:Nat) (w:World) (h:Rw RuR 6 w a rs) (hl:rs.length=len) (hc:len≤1048576) :
  Calls Tryz.prog 72 #[.agg #[.string nm,.slice a len cap,.int .i64 q,.int .i64 m,.int .i64 i]] w fun e w'=>∃ b:Nat,e=.returned (.agg #[.string nm,.slice (some ⟨b,0,none⟩) len len,.int .i64 q,.int .i64 m,.int .i64 i])∧OwnS rv 6 182 w' w.heap.size (.slice (some ⟨b,0,none⟩) len len) rs∧Below w.heap.size w w':=by
 have HA:Hid (∀ W,Below w.heap.size w W→Calls Tryz.prog 105 #[.slice a len cap] W fun e w'=>e=.returned (.slice (some ⟨W.heap.size,0,none⟩) len len)∧OwnS rv 6 182 w' W.heap.size (.slice (some ⟨W.heap.size,0,none⟩) len len) rs∧(∀ x,x ∈ rs→RuRok x)∧Below W.heap.size W w'):=fun W b=>toRuleS_own a len cap rs W (h.keep RuR.kp b) hl hc
 clear h
 obtain ⟨W0,hW0⟩:∃ W0,W0=(((w.alloc (.cells #[.string nm,.slice a len cap,.int .i64 q,.int .i64 m,.int .i64 i] 103)).alloc (.cells #[.string ⟨#[]⟩,.slice none 0 0,.int .i64 0,.int .i64 0,.int .i64 0] 121)).alloc (.cells #[.string nm,.slice none 0 0,.int .i64 0,.int .i64 0,.int .i64 0] 121)):=⟨_,rfl⟩
 have hz0:W0.heap.size=w.heap.size+1+1+1:=by rw [hW0];simp
 have T0:Hid (TR w nm a len cap q m i [.string nm,.slice none 0 0,.int .i64 0,.int .i64 0,.int .i64 0] W0):=by
  rw [hW0]
  refine ⟨?_,?_,?_,?_⟩
  ·exact ((Bx.new w #[.string nm,.slice a len cap,.int .i64 q,.int .i64 m,.int .i64 i] 103).below ((Below.refl _ _).alloc (Nat.le_refl _) _)).below ((Below.refl _ _).alloc (Nat.le_refl _) _)
  ·have h:=Bx.new (w.alloc (.cells #[.string nm,.slice a len cap,.int .i64 q,.int .i64 m,.int .i64 i] 103)) #[.string ⟨#[]⟩,.slice none 0 0,.int .i64 0,.int .i64 0,.int .i64 0] 121
   rw [World.size_alloc] at h
   exact h.below ((Below.refl _ _).alloc (Nat.le_refl _) _)
  ·have h:=Bx.new ((w.alloc (.cells #[.string nm,.slice a len cap,.int .i64 q,.int .i64 m,.int .i64 i] 103)).alloc (.cells #[.string ⟨#[]⟩,.slice none 0 0,.int .i64 0,.int .i64 0,.int .i64 0] 121)) #[.string nm,.slice none 0 0,.int .i64 0,.int .i64 0,.int .i64 0] 121
   rw [World.size_alloc,World.size_alloc] at h
   exact h
  ·exact (((Below.refl _ _).alloc (Nat.le_refl _) _).alloc (by simp) _).alloc (by simp;omega) _
 go_enter Tryz.func72,Tryz.ntmps72
 go_wp2_with fail
 rw [← hW0]
 refine (HA.out _ T0.out.b).mono ?_
 rintro e w1 ⟨rfl,o1,-,bx⟩
 rw [hz0] at o1
 have T1:Hid (TR w nm a len cap q m i [.string nm,.slice none 0 0,.int .i64 0,.int .i64 0,.int .i64 0] w1):=T0.out.call bx
 have Y1:Hid (OwnS rv 6 182 w1 (w.heap.size+1+1+1) (.slice (some ⟨w.heap.size+1+1+1,0,none⟩) len len) rs):=o1
 rw [hz0]
 clear o1 bx T0 hW0 hz0 HA
 go_wp2_with (first | (refine wpl_put1 119 rfl _ _ rfl (w.heap.size+1+1) 1 (.slice (some ⟨w.heap.size+1+1+1,0,none⟩) len len) rfl rfl T1.out.n rfl rfl rfl ?_;intro w2 hw2;have T2:Hid (TR w nm a len cap q m i [.string nm,.slice (some ⟨w.heap.size+1+1+1,0,none⟩) len len,.int .i64 0,.int .i64 0,.int .i64 0] w2):=(by rw [hw2];exact T1.out.put 1 [.slice (some ⟨w.heap.size+1+1+1,0,none⟩) len len]);have Y2:Hid (OwnS rv 6 182 w2 (w.heap.size+1+1+1) (.slice (some ⟨w.heap.size+1+1+1,0,none⟩) len len) rs):=(by rw [hw2];exact own_cellsC (by omega) _ _ _ Y1.out);clear hw2 T1 Y1;have k2:=T2.out.a.cell 2 rfl) | (refine wpl_put1 3 rfl _ _ rfl (w.heap.size+1+1) 2 (.int .i64 q) rfl rfl T2.out.n rfl rfl rfl ?_;intro w3 hw3;have T3:Hid (TR w nm a len cap q m i [.string nm,.slice (some ⟨w.heap.size+1+1+1,0,none⟩) len len,.int .i64 q,.int .i64 0,.int .i64 0] w3):=(by rw [hw3];exact T2.out.put 2 [.int .i64 q]);have Y3:Hid (OwnS rv 6 182 w3 (w.heap.size+1+1+1) (.slice (some ⟨w.heap.size+1+1+1,0,none⟩) len len) rs):=(by rw [hw3];exact own_cellsC (by omega) _ _ _ Y2.out);clear hw3 T2 Y2 k2;have k3:=T3.out.a.cell 3 rfl) | (refine wpl_put1 3 rfl _ _ rfl (w.heap.size+1+1) 3 (.int .i64 m) rfl rfl T3.out.n rfl rfl rfl ?_;intro w4 hw4;have T4:Hid (TR w nm a len cap q m i [.string nm,.slice (some ⟨w.heap.size+1+1+1,0,none⟩) len len,.int .i64 q,.int .i64 m,.int .i64 0] w4):=(by rw [hw4];exact T3.out.put 3 [.int .i64 m]);have Y4:Hid (OwnS rv 6 182 w4 (w.heap.size+1+1+1) (.slice (some ⟨w.heap.size+1+1+1,0,none⟩) len len) rs):=(by rw [hw4];exact own_cellsC (by omega) _ _ _ Y3.out);clear hw4 T3 Y3 k3;have k4:=T4.out.a.cell 4 rfl) | (refine wpl_put1 3 rfl _ _ rfl (w.heap.size+1+1) 4 (.int .i64 i) rfl rfl T4.out.n rfl rfl rfl ?_;intro w5 hw5;have T5:Hid (TR w nm a len cap q m i [.string nm,.slice (some ⟨w.heap.size+1+1+1,0,none⟩) len len,.int .i64 q,.int .i64 m,.int .i64 i] w5):=(by rw [hw5];exact T4.out.put 4 [.int .i64 i]);have Y5:Hid (OwnS rv 6 182 w5 (w.heap.size+1+1+1) (.slice (some ⟨w.heap.size+1+1+1,0,none⟩) len len) rs):=(by rw [hw5];exact own_cellsC (by omega) _ _ _ Y4.out);clear hw5 T4 Y4 k4) | (refine wpl_getO 121 rfl _ rfl (w.heap.size+1+1) 0 [.string nm,.slice (some ⟨w.heap.size+1+1+1,0,none⟩) len len,.int .i64 q,.int .i64 m,.int .i64 i] rfl T5.out.n rfl _ Tryz.underlying121 rfl rfl ?_) | (refine wpl_putO 121 rfl _ _ rfl (w.heap.size+1) 0 _ rfl rfl T5.out.r rfl rfl rfl ?_;intro w6 hw6 R6;have B6:Hid (Below w.heap.size w w6):=(by rw [hw6];exact below_cells (by omega) _ _ _ T5.out.b);have Y6:Hid (OwnS rv 6 182 w6 (w.heap.size+1+1+1) (.slice (some ⟨w.heap.size+1+1+1,0,none⟩) len len) rs):=(by rw [hw6];exact own_cellsC (by omega) _ _ _ Y5.out);clear hw6) | fail)
 refine bodyPost_ret (v:=.agg #[.string nm,.slice (some ⟨w.heap.size+1+1+1,0,none⟩) len len,.int .i64 q,.int .i64 m,.int .i64 i]) (results_cell Tryz.results72 (w.heap.size+1) rfl R6 _ Tryz.underlying121 rfl rfl) rfl ?_
 exact ⟨_,rfl,Y6.out.lower (by omega),B6.out⟩
def zRo:RoX:=⟨⟨⟨#[]⟩,[],0,0,0⟩,none,0⟩
instance:Inhabited RoX:=⟨zRo⟩
theorem infoRo:(Tryz.prog.info? 121).map (fun i=>(i.zero,i.size,i.bytes))=some (some (.agg #[.string ⟨#[]⟩,.slice none 0 0,.int .i64 0,.int .i64 0,.int .i64 0]),5,64):=by kernel_rfl
theorem zRole:#[.string ⟨#[]⟩,.slice none 0 0,.int .i64 0,.int .i64 0,.int .i64 0].toList=roG default:=rfl
theorem pair_new {L:List RoX} {k:Nat} {y:RoX} (h:L.Pairwise (fun x y=>ApB x.sl y.sl)) (hy:∀ z,z ∈ L→ApB z.sl y.sl):(L.set k y).Pairwise (fun x y=>ApB x.sl y.sl):=by
 rw [List.pairwise_iff_getElem]
 intro i j hi hj hij
 rw [List.length_set] at hi hj
 have hp:=List.pairwise_iff_getElem.1 h i j hi hj hij
 rw [List.getElem_set,List.getElem_set]
 by_cases h1:k=i
 ·rw [if_pos h1,if_neg (by omega)]
  exact (hy _ (List.getElem_mem hj)).symm
 ·rw [if_neg h1]
  by_cases h2:k=j
  ·rw [if_pos h2];exact hy _ (List.getElem_mem hi)
  ·rw [if_neg h2];exact hp
theorem rep_own {w:World} {B len:Nat} {v:Value} (h:OwnS roG 5 121 w B v (List.replicate len default)):OwnRo w B v (List.replicate len default):=by
 refine ⟨h,fun x hx=>?_,?_⟩
 ·obtain rfl:=(List.mem_replicate.1 hx).2
  exact OwnS.nil w B
 ·rw [List.pairwise_iff_getElem]
  intro i j hi hj hij
  rw [List.getElem_replicate,List.getElem_replicate]
  intro k hk
  exact absurd hk (by simp [RoX.sl,default,zRo,Value.ownBlock])
theorem rep_set {D:List RoX} {k len:Nat} (y:RoX) (hD:D.length=k) (hk:k<len):(D ++ List.replicate (len - k) default).set k y=(D ++ [y]) ++ List.replicate (len - (k+1)) default:=by
 rw [List.set_append_right _ _ (by omega),show k - D.length=0 by omega,show len - k=(len - (k+1))+1 by omega,List.replicate_succ,List.set_cons_zero]
 simp
set_option maxHeartbeats 8000000 in
theorem toRoleS_own (a:Option Addr) (len cap:Nat) (xs:List RoleV) (w:World) (h:Rw (RoR 0) 5 w a xs) (hl:xs.length=len) (hc:len≤1048576) (hsz:∀ x,x ∈ xs→x.rs.length≤1048576) :
  Calls Tryz.prog 29 #[.slice a len cap] w fun e w'=>∃ L:List RoX,L.map (fun x=>x.r)=xs∧e=.returned (.slice (some ⟨w.heap.size,0,none⟩) len len)∧OwnRo w' w.heap.size (.slice (some ⟨w.heap.size,0,none⟩) len len) L∧Below w.heap.size w w':=by
 have RW:Hid (Rw (RoR 0) 5 w a xs):=h
 have SZ:Hid (∀ x,x ∈ xs→x.rs.length≤1048576):=hsz
 clear h hsz
 obtain ⟨i0,hi,hz0,hz1,hz2⟩:=info_parts infoRo
 have hmk:=run_make (P:=Tryz.prog) w 46 121 i0 (.agg #[.string ⟨#[]⟩,.slice none 0 0,.int .i64 0,.int .i64 0,.int .i64 0]) Tryz.underlying46 hi hz0 .i64 .i64 len len (by omega) (Int.le_refl _) (by rw [hz2];omega) (by omega)
 rw [hz1,Int.toNat_natCast] at hmk
 obtain ⟨W,hW⟩:∃ W,W=(w.alloc (.cells (madeCells #[.string ⟨#[]⟩,.slice none 0 0,.int .i64 0,.int .i64 0,.int .i64 0] (len * 5)) 121)):=⟨_,rfl⟩
 have HM:Hid (OwnRo W w.heap.size (.slice (some ⟨w.heap.size,0,none⟩) len len) (List.replicate len default)∧Below w.heap.size w W):=by
  rw [hW]
  exact ⟨rep_own (OwnS.made w _ _ len default _ zRole rfl (by omega) (Nat.le_refl _) (by unfold maxLen;omega)),(Below.refl _ _).alloc (Nat.le_refl _) _⟩
 have hmk2:(Instr.makeSlice 46 (.int .i64 (len:Int)) (.int .i64 (len:Int))).run Tryz.prog w=.ok (.slice (some ⟨w.heap.size,0,none⟩) len len) W:=by rw [hW];exact hmk
 clear hmk hi hz0 hz1 hz2 hW
 go_enter Tryz.func29,Tryz.ntmps29
 go_wp2
 go_loopw [4] (fun i wr=>∃ (k:Nat) (D:List RoX),k≤len∧i=.int .i64 k∧Hid (D.length=k∧D.map (fun x=>x.r)=xs.take k)∧Hid (OwnRo wr w.heap.size (.slice (some ⟨w.heap.size,0,none⟩) len len) (D ++ List.replicate (len - k) default)∧Below w.heap.size w wr)) (fun i _=>len - (intOf i).toNat)
 case atStart=>exact ⟨0,[],Nat.zero_le _,rfl,⟨rfl,rfl⟩,HM.out⟩
 case round =>
  clear HM hmk2
  obtain ⟨k,D,hk,rfl,hD,X⟩:=hrel
  by_cases hlt:k<len
  ·obtain ⟨x,hx⟩:=at_of hl hlt
   obtain ⟨b,off,vs,rfl,hb,hvl,hR,hc2⟩:=RW.out.at (RoR.kp 0) X.out.2 hx
   have hsz:=SZ.out _ (List.mem_of_getElem? hx)
   have HX:Hid (xs[k]?=some x):=hx
   obtain ⟨nm,rrs,rq,rm,ri⟩:=x
   obtain ⟨ra,rc,rfl,hnm,hrc,hrm,hRR,-⟩:=hR
   have q0:wr.cell? ⟨b,off+k * 5,none⟩=some (.string nm):=hc2 0 _ rfl
   have q1:wr.cell? ⟨b,off+k * 5+1,none⟩=some (.slice ra rrs.length rc):=hc2 1 _ rfl
   have q2:wr.cell? ⟨b,off+k * 5+2,none⟩=some (.int .i64 rq):=hc2 2 _ rfl
   have q3:wr.cell? ⟨b,off+k * 5+3,none⟩=some (.int .i64 rm):=hc2 3 _ rfl
   have q4:wr.cell? ⟨b,off+k * 5+4,none⟩=some (.int .i64 ri):=hc2 4 _ rfl
   have HT:Hid (∀ w,Rw RuR 6 w ra rrs→Calls Tryz.prog 72 #[.agg #[.string nm,.slice ra rrs.length rc,.int .i64 rq,.int .i64 rm,.int .i64 ri]] w fun e w'=>∃ b:Nat,e=.returned (.agg #[.string nm,.slice (some ⟨b,0,none⟩) rrs.length rrs.length,.int .i64 rq,.int .i64 rm,.int .i64 ri])∧OwnS rv 6 182 w' w.heap.size (.slice (some ⟨b,0,none⟩) rrs.length rrs.length) rrs∧Below w.heap.size w w'):=fun w h=>toRole_own nm rrs rq rm ri ra rrs.length rc w h rfl hsz
   have hltz:(k:Int)<(len:Int):=by omega
   clear hc2 hvl hx
   go_wp2_with fail
   refine (HT.out _ hRR).mono ?_
   rintro e w1 ⟨rb,rfl,or1,b1⟩
   have o1:=X.out.1.now b1
   have hzD:(D ++ List.replicate (len - k) default)[k]?=some (default:RoX):=by
    rw [List.getElem?_append_right (by have:=hD.out.1;omega),show k - D.length=0 by have:=hD.out.1;omega,List.getElem?_replicate,if_pos (by omega)]
   obtain ⟨c0,z0⟩:=o1.row.cell roG_len (j:=0) hzD rfl
   obtain ⟨c1,z1⟩:=o1.row.cell roG_len (j:=1) hzD rfl
   obtain ⟨c2,z2⟩:=o1.row.cell roG_len (j:=2) hzD rfl
   obtain ⟨c3,z3⟩:=o1.row.cell roG_len (j:=3) hzD rfl
   obtain ⟨c4,z4⟩:=o1.row.cell roG_len (j:=4) hzD rfl
   replace c0:w1.cell? ⟨w.heap.size,k * 5,none⟩=some (.string ⟨#[]⟩):=c0
   replace z0:w1.frozen? ⟨w.heap.size,k * 5,none⟩=false:=z0
   have Y0:∀ W1,W1=((((w1.setCell ⟨w.heap.size,k * 5,none⟩ (.string nm)).setCell ⟨w.heap.size,k * 5+1,none⟩ (.slice (some ⟨rb,0,none⟩) rrs.length rrs.length)).setCell ⟨w.heap.size,k * 5+2,none⟩ (.int .i64 rq)).setCell ⟨w.heap.size,k * 5+3,none⟩ (.int .i64 rm)).setCell ⟨w.heap.size,k * 5+4,none⟩ (.int .i64 ri)→OwnRo W1 w.heap.size (.slice (some ⟨w.heap.size,0,none⟩) len len) ((D ++ [⟨⟨nm,rrs,rq,rm,ri⟩,some ⟨rb,0,none⟩,rrs.length⟩]) ++ List.replicate (len - (k+1)) default)∧Below w.heap.size w W1:=by
    intro W1 hW1
    have s:=o1.row.store roG_len hlt ⟨⟨nm,rrs,rq,rm,ri⟩,some ⟨rb,0,none⟩,rrs.length⟩
    have e3:W1=wsets w1 w.heap.size (k * 5) (roG ⟨⟨nm,rrs,rq,rm,ri⟩,some ⟨rb,0,none⟩,rrs.length⟩):=hW1
    rw [← e3] at s
    have or2:OwnS rv 6 182 w1 w.heap.size (.slice (some ⟨rb,0,none⟩) rrs.length rrs.length) rrs:=or1.lower X.out.2.size
    refine ⟨?_,(X.out.2.trans (b1.mono X.out.2.size)).trans (below_row s.2 (Nat.le_refl _) (Nat.le_trans X.out.2.size b1.size))⟩
    rw [← rep_set _ hD.out.1 hlt]
    refine ⟨s.1,fun z hz=>?_,pair_new o1.apart (fun z hz=>?_)⟩
    ·have hz2:OwnS rv 6 182 w1 w.heap.size z.sl z.r.rs:=by
      rcases List.mem_or_eq_of_mem_set hz with h1 | h1
      ·exact o1.rules z h1
      ·subst h1;exact or2
     exact hz2.kept s.2 ((apB_of hz2 o1.row (by decide)).kept)
    ·intro kk hk1 hk2
     have h1:=((X.out.1.rules z hz).lt kk hk1).2
     have h2:=(or1.lt kk hk2).1
     omega
   have Y:Hid (OwnRo (((((w1.setCell ⟨w.heap.size,k * 5,none⟩ (.string nm)).setCell ⟨w.heap.size,k * 5+1,none⟩ (.slice (some ⟨rb,0,none⟩) rrs.length rrs.length)).setCell ⟨w.heap.size,k * 5+2,none⟩ (.int .i64 rq)).setCell ⟨w.heap.size,k * 5+3,none⟩ (.int .i64 rm)).setCell ⟨w.heap.size,k * 5+4,none⟩ (.int .i64 ri)) w.heap.size (.slice (some ⟨w.heap.size,0,none⟩) len len) ((D ++ [⟨⟨nm,rrs,rq,rm,ri⟩,some ⟨rb,0,none⟩,rrs.length⟩]) ++ List.replicate (len - (k+1)) default)∧Below w.heap.size w (((((w1.setCell ⟨w.heap.size,k * 5,none⟩ (.string nm)).setCell ⟨w.heap.size,k * 5+1,none⟩ (.slice (some ⟨rb,0,none⟩) rrs.length rrs.length)).setCell ⟨w.heap.size,k * 5+2,none⟩ (.int .i64 rq)).setCell ⟨w.heap.size,k * 5+3,none⟩ (.int .i64 rm)).setCell ⟨w.heap.size,k * 5+4,none⟩ (.int .i64 ri))):=Y0 _ rfl
   have HD2:Hid ((D ++ [(⟨⟨nm,rrs,rq,rm,ri⟩,some ⟨rb,0,none⟩,rrs.length⟩:RoX)]).length=k+1∧(D ++ [(⟨⟨nm,rrs,rq,rm,ri⟩,some ⟨rb,0,none⟩,rrs.length⟩:RoX)]).map (fun x=>x.r)=xs.take (k+1)):=⟨by rw [List.length_append,hD.out.1];rfl,by rw [List.map_append,hD.out.2,List.take_add_one,HX.out];rfl⟩
   clear Y0 o1 or1 b1 q0 q1 q2 q3 q4 HT X HX hD hRR hzD
   go_wp2
   go_roundw
   case rel=>exact ⟨k+1,_,by omega,by go_num,HD2,Y⟩
   case measure=>simp [intOf];omega
  ·obtain rfl:k=len:=by omega
   have Z:=X.out.1
   rw [Nat.sub_self,List.replicate_zero,List.append_nil] at Z
   have hm:=hD.out.2
   rw [List.take_of_length_le (by omega)] at hm
   have HF:Hid (D.map (fun x=>x.r)=xs∧OwnRo wr w.heap.size (.slice (some ⟨w.heap.size,0,none⟩) k k) D∧Below w.heap.size w wr):=⟨hm,Z,X.out.2⟩
   clear hm Z X hD
   go_wp2
   go_ret
   exact ⟨D,HF.out.1,rfl,HF.out.2.1,HF.out.2.2⟩
theorem OwnRo.put {w:World} {B q:Nat} {v:Value} {L:List RoX} (h:OwnRo w B v L) (hq:q<B) (o:Nat) (vs:List Value):OwnRo (w.setCells q o vs) B v L :=
 h.keepB (fun b hb=>(heap_cellsA vs o w).2 b (by have:=(h.lt b hb).1;omega))
structure TC (w:World) (ip b gt:Int) (gm wm:ByteArray) (rs:Int) (x y:Option Addr) (lenx capx leny capy:Nat) (cs:List Value) (W:World):Prop where
 a:Bx W w.heap.size [.int .i64 ip,.int .i64 b,.int .i64 gt,.string gm,.string wm,.int .i64 rs,.slice x lenx capx,.slice y leny capy]
 r:Bx W (w.heap.size+1) [.int .i64 0,.int .i64 0,.int .i64 0,.string ⟨#[]⟩,.string ⟨#[]⟩,.int .i64 0,.slice none 0 0,.slice none 0 0]
 n:Bx W (w.heap.size+1+1) cs
 b:Below w.heap.size w W
 z:w.heap.size+1+1+1≤W.heap.size
theorem TC.call {w:World} {ip b gt:Int} {gm wm:ByteArray} {rs:Int} {x y:Option Addr} {lenx capx leny capy:Nat} {cs:List Value} {W W':World} (h:TC w ip b gt gm wm rs x y lenx capx leny capy cs W) (hb:Below W.heap.size W W'):TC w ip b gt gm wm rs x y lenx capx leny capy cs W':=⟨h.a.below hb,h.r.below hb,h.n.below hb,h.b.trans (hb.mono h.b.size),Nat.le_trans h.z hb.size⟩
theorem TC.put {w:World} {ip b gt:Int} {gm wm:ByteArray} {rs:Int} {x y:Option Addr} {lenx capx leny capy:Nat} {cs:List Value} {W:World} (h:TC w ip b gt gm wm rs x y lenx capx leny capy cs W) (o:Nat) (vs:List Value):TC w ip b gt gm wm rs x y lenx capx leny capy (sets cs o vs) (W.setCells (w.heap.size+1+1) o vs) :=
 ⟨h.a.apartO vs (by omega),h.r.apartO vs (by omega),h.n.sets vs o _ _,below_cells (by omega) vs o _ h.b,by rw [(heap_cellsA vs o W).1];exact h.z⟩
set_option maxHeartbeats 8000000 in
theorem toConfig_own (ip b gt:Int) (gm wm:ByteArray) (rs:Int) (x y:Option Addr) (lenx capx leny capy:Nat) (ps:List PlaceV) (ros:List RoleV) (w:World) (h:Rw PlR 4 w x ps) (hl:ps.length=lenx) (h2:Rw (RoR 0) 5 w y ros) (hl2:ros.length=leny) (hx:lenx≤1048576) (hy:leny≤1048576) (hsz:∀ x,x ∈ ros→x.rs.length≤1048576) :
  Calls Tryz.prog 7 #[.agg #[.int .i64 ip,.int .i64 b,.int .i64 gt,.string gm,.string wm,.int .i64 rs,.slice x lenx capx,.slice y leny capy]] w fun e w'=>∃ (b1 b2:Nat) (L:List RoX),L.map (fun x=>x.r)=ros∧e=.returned (.agg #[.int .i64 ip,.int .i64 b,.int .i64 gt,.string gm,.string wm,.int .i64 rs,.slice (some ⟨b1,0,none⟩) lenx lenx,.slice (some ⟨b2,0,none⟩) leny leny])∧OwnS pv 4 126 w' w.heap.size (.slice (some ⟨b1,0,none⟩) lenx lenx) ps∧OwnRo w' w.heap.size (.slice (some ⟨b2,0,none⟩) leny leny) L∧Below w.heap.size w w':=by
 have HA:Hid (∀ w,Calls Tryz.prog 27 #[.agg #[.int .i64 ip,.int .i64 b]] w fun e w'=>e=.returned (.agg #[.int .i64 ip,.int .i64 b])∧Below w.heap.size w w'):=fun w=>toNet2 ip b w
 have HB:Hid (∀ W,Below w.heap.size w W→Calls Tryz.prog 28 #[.slice x lenx capx] W fun e w'=>∃ b1:Nat,e=.returned (.slice (some ⟨b1,0,none⟩) lenx lenx)∧OwnS pv 4 126 w' W.heap.size (.slice (some ⟨b1,0,none⟩) lenx lenx) ps∧Below W.heap.size W w'):=fun W bb=>(toPlaceS_own x lenx capx ps W (h.keep PlR.kp bb) hl hx).mono fun e w' ⟨h1,h2,_,h4⟩=>⟨_,h1,h2,h4⟩
 have HC:Hid (∀ W,Below w.heap.size w W→Calls Tryz.prog 29 #[.slice y leny capy] W fun e w'=>∃ (b2:Nat) (L:List RoX),L.map (fun x=>x.r)=ros∧e=.returned (.slice (some ⟨b2,0,none⟩) leny leny)∧OwnRo w' W.heap.size (.slice (some ⟨b2,0,none⟩) leny leny) L∧Below W.heap.size W w'):=fun W bb=>(toRoleS_own y leny capy ros W (h2.keep (RoR.kp 0) bb) hl2 hy hsz).mono fun e w' ⟨L,h1,h2,h3,h4⟩=>⟨_,L,h1,h2,h3,h4⟩
 clear h h2 hsz
 obtain ⟨W0,hW0⟩:∃ W0,W0=(((w.alloc (.cells #[.int .i64 ip,.int .i64 b,.int .i64 gt,.string gm,.string wm,.int .i64 rs,.slice x lenx capx,.slice y leny capy] 27)).alloc (.cells #[.int .i64 0,.int .i64 0,.int .i64 0,.string ⟨#[]⟩,.string ⟨#[]⟩,.int .i64 0,.slice none 0 0,.slice none 0 0] 48)).alloc (.cells #[.int .i64 0,.int .i64 0,.int .i64 0,.string ⟨#[]⟩,.string ⟨#[]⟩,.int .i64 0,.slice none 0 0,.slice none 0 0] 48)):=⟨_,rfl⟩
 have T0:Hid (TC w ip b gt gm wm rs x y lenx capx leny capy [.int .i64 0,.int .i64 0,.int .i64 0,.string ⟨#[]⟩,.string ⟨#[]⟩,.int .i64 0,.slice none 0 0,.slice none 0 0] W0):=by
  rw [hW0]
  refine ⟨?_,?_,?_,?_,?_⟩
  ·exact ((Bx.new w #[.int .i64 ip,.int .i64 b,.int .i64 gt,.string gm,.string wm,.int .i64 rs,.slice x lenx capx,.slice y leny capy] 27).below ((Below.refl _ _).alloc (Nat.le_refl _) _)).below ((Below.refl _ _).alloc (Nat.le_refl _) _)
  ·have h:=Bx.new (w.alloc (.cells #[.int .i64 ip,.int .i64 b,.int .i64 gt,.string gm,.string wm,.int .i64 rs,.slice x lenx capx,.slice y leny capy] 27)) #[.int .i64 0,.int .i64 0,.int .i64 0,.string ⟨#[]⟩,.string ⟨#[]⟩,.int .i64 0,.slice none 0 0,.slice none 0 0] 48
   rw [World.size_alloc] at h
   exact h.below ((Below.refl _ _).alloc (Nat.le_refl _) _)
  ·have h:=Bx.new ((w.alloc (.cells #[.int .i64 ip,.int .i64 b,.int .i64 gt,.string gm,.string wm,.int .i64 rs,.slice x lenx capx,.slice y leny capy] 27)).alloc (.cells #[.int .i64 0,.int .i64 0,.int .i64 0,.string ⟨#[]⟩,.string ⟨#[]⟩,.int .i64 0,.slice none 0 0,.slice none 0 0] 48)) #[.int .i64 0,.int .i64 0,.int .i64 0,.string ⟨#[]⟩,.string ⟨#[]⟩,.int .i64 0,.slice none 0 0,.slice none 0 0] 48
   rw [World.size_alloc,World.size_alloc] at h
   exact h
  ·exact (((Below.refl _ _).alloc (Nat.le_refl _) _).alloc (by simp) _).alloc (by simp;omega) _
  ·simp
 go_enter Tryz.func7,Tryz.ntmps7
 go_wp2_with fail
 rw [← hW0]
 refine (HA.out _).mono ?_
 rintro e w1 ⟨rfl,bx⟩
 have T1:Hid (TC w ip b gt gm wm rs x y lenx capx leny capy [.int .i64 0,.int .i64 0,.int .i64 0,.string ⟨#[]⟩,.string ⟨#[]⟩,.int .i64 0,.slice none 0 0,.slice none 0 0] w1):=T0.out.call bx
 clear bx T0 hW0 HA
 go_wp2_with (first | (refine wpl_putO 44 rfl _ _ rfl (w.heap.size+1+1) 0 _ rfl rfl T1.out.n rfl rfl rfl ?_;intro w2 hw2 _;have T2:Hid (TC w ip b gt gm wm rs x y lenx capx leny capy [.int .i64 ip,.int .i64 b,.int .i64 0,.string ⟨#[]⟩,.string ⟨#[]⟩,.int .i64 0,.slice none 0 0,.slice none 0 0] w2):=(by rw [hw2];exact T1.out.put 0 [.int .i64 ip,.int .i64 b]);clear hw2 T1 ;have k2:=T2.out.a.cell 2 rfl) | (refine wpl_put1 3 rfl _ _ rfl (w.heap.size+1+1) 2 (.int .i64 gt) rfl rfl T2.out.n rfl rfl rfl ?_;intro w3 hw3;have T3:Hid (TC w ip b gt gm wm rs x y lenx capx leny capy [.int .i64 ip,.int .i64 b,.int .i64 gt,.string ⟨#[]⟩,.string ⟨#[]⟩,.int .i64 0,.slice none 0 0,.slice none 0 0] w3):=(by rw [hw3];exact T2.out.put 2 [.int .i64 gt]);clear hw3 T2  k2;have k3:=T3.out.a.cell 3 rfl) | (refine wpl_put1 9 rfl _ _ rfl (w.heap.size+1+1) 3 (.string gm) rfl rfl T3.out.n rfl rfl rfl ?_;intro w4 hw4;have T4:Hid (TC w ip b gt gm wm rs x y lenx capx leny capy [.int .i64 ip,.int .i64 b,.int .i64 gt,.string gm,.string ⟨#[]⟩,.int .i64 0,.slice none 0 0,.slice none 0 0] w4):=(by rw [hw4];exact T3.out.put 3 [.string gm]);clear hw4 T3  k3;have k4:=T4.out.a.cell 4 rfl) | (refine wpl_put1 9 rfl _ _ rfl (w.heap.size+1+1) 4 (.string wm) rfl rfl T4.out.n rfl rfl rfl ?_;intro w5 hw5;have T5:Hid (TC w ip b gt gm wm rs x y lenx capx leny capy [.int .i64 ip,.int .i64 b,.int .i64 gt,.string gm,.string wm,.int .i64 0,.slice none 0 0,.slice none 0 0] w5):=(by rw [hw5];exact T4.out.put 4 [.string wm]);clear hw5 T4  k4;have k5:=T5.out.a.cell 5 rfl) | (refine wpl_put1 3 rfl _ _ rfl (w.heap.size+1+1) 5 (.int .i64 rs) rfl rfl T5.out.n rfl rfl rfl ?_;intro w6 hw6;have T6:Hid (TC w ip b gt gm wm rs x y lenx capx leny capy [.int .i64 ip,.int .i64 b,.int .i64 gt,.string gm,.string wm,.int .i64 rs,.slice none 0 0,.slice none 0 0] w6):=(by rw [hw6];exact T5.out.put 5 [.int .i64 rs]);clear hw6 T5  k5;have k6:=T6.out.a.cell 6 rfl) | fail)
 refine (HB.out _ T6.out.b).mono ?_
 rintro e w7 ⟨b1,rfl,op,bx⟩
 have T7:Hid (TC w ip b gt gm wm rs x y lenx capx leny capy [.int .i64 ip,.int .i64 b,.int .i64 gt,.string gm,.string wm,.int .i64 rs,.slice none 0 0,.slice none 0 0] w7):=T6.out.call bx
 have P7:Hid (OwnS pv 4 126 w7 (w.heap.size+1+1+1) (.slice (some ⟨b1,0,none⟩) lenx lenx) ps):=op.lower T6.out.z
 clear op bx T6 k6
 go_wp2_with (first | (refine wpl_put1 45 rfl _ _ rfl (w.heap.size+1+1) 6 (.slice (some ⟨b1,0,none⟩) lenx lenx) rfl rfl T7.out.n rfl rfl rfl ?_;intro w8 hw8;have T8:Hid (TC w ip b gt gm wm rs x y lenx capx leny capy [.int .i64 ip,.int .i64 b,.int .i64 gt,.string gm,.string wm,.int .i64 rs,.slice (some ⟨b1,0,none⟩) lenx lenx,.slice none 0 0] w8):=(by rw [hw8];exact T7.out.put 6 [.slice (some ⟨b1,0,none⟩) lenx lenx]);have P8:Hid (OwnS pv 4 126 w8 (w.heap.size+1+1+1) (.slice (some ⟨b1,0,none⟩) lenx lenx) ps):=(by rw [hw8];exact own_cellsC (by omega) _ _ _ P7.out);clear hw8 T7 P7;have k7:=T8.out.a.cell 7 rfl) | fail)
 refine (HC.out _ T8.out.b).mono ?_
 rintro e w9 ⟨b2,L,hL,rfl,orr,bx⟩
 have T9:Hid (TC w ip b gt gm wm rs x y lenx capx leny capy [.int .i64 ip,.int .i64 b,.int .i64 gt,.string gm,.string wm,.int .i64 rs,.slice (some ⟨b1,0,none⟩) lenx lenx,.slice none 0 0] w9):=T8.out.call bx
 have P9:Hid (OwnS pv 4 126 w9 (w.heap.size+1+1+1) (.slice (some ⟨b1,0,none⟩) lenx lenx) ps):=P8.out.now bx
 have R9:Hid (OwnRo w9 (w.heap.size+1+1+1) (.slice (some ⟨b2,0,none⟩) leny leny) L):=orr.lower T8.out.z
 clear orr bx T8 P8 k7
 go_wp2_with (first | (refine wpl_put1 46 rfl _ _ rfl (w.heap.size+1+1) 7 (.slice (some ⟨b2,0,none⟩) leny leny) rfl rfl T9.out.n rfl rfl rfl ?_;intro w10 hw10;have T10:Hid (TC w ip b gt gm wm rs x y lenx capx leny capy [.int .i64 ip,.int .i64 b,.int .i64 gt,.string gm,.string wm,.int .i64 rs,.slice (some ⟨b1,0,none⟩) lenx lenx,.slice (some ⟨b2,0,none⟩) leny leny] w10):=(by rw [hw10];exact T9.out.put 7 [.slice (some ⟨b2,0,none⟩) leny leny]);have P10:Hid (OwnS pv 4 126 w10 (w.heap.size+1+1+1) (.slice (some ⟨b1,0,none⟩) lenx lenx) ps):=(by rw [hw10];exact own_cellsC (by omega) _ _ _ P9.out);have R10:Hid (OwnRo w10 (w.heap.size+1+1+1) (.slice (some ⟨b2,0,none⟩) leny leny) L):=(by rw [hw10];exact R9.out.put (by omega) _ _);clear hw10 T9 P9 R9) | (refine wpl_getO 48 rfl _ rfl (w.heap.size+1+1) 0 [.int .i64 ip,.int .i64 b,.int .i64 gt,.string gm,.string wm,.int .i64 rs,.slice (some ⟨b1,0,none⟩) lenx lenx,.slice (some ⟨b2,0,none⟩) leny leny] rfl T10.out.n rfl _ Tryz.underlying48 rfl rfl ?_) | (refine wpl_putO 48 rfl _ _ rfl (w.heap.size+1) 0 _ rfl rfl T10.out.r rfl rfl rfl ?_;intro w11 hw11 R11;have B11:Hid (Below w.heap.size w w11):=(by rw [hw11];exact below_cells (by omega) _ _ _ T10.out.b);have P11:Hid (OwnS pv 4 126 w11 (w.heap.size+1+1+1) (.slice (some ⟨b1,0,none⟩) lenx lenx) ps):=(by rw [hw11];exact own_cellsC (by omega) _ _ _ P10.out);have Q11:Hid (OwnRo w11 (w.heap.size+1+1+1) (.slice (some ⟨b2,0,none⟩) leny leny) L):=(by rw [hw11];exact R10.out.put (by omega) _ _);clear hw11) | fail)
 refine bodyPost_ret (v:=.agg #[.int .i64 ip,.int .i64 b,.int .i64 gt,.string gm,.string wm,.int .i64 rs,.slice (some ⟨b1,0,none⟩) lenx lenx,.slice (some ⟨b2,0,none⟩) leny leny]) (results_cell Tryz.results7 (w.heap.size+1) rfl R11 _ Tryz.underlying48 rfl rfl) rfl ?_
 exact ⟨b1,b2,L,hL,rfl,P11.out.lower (by omega),Q11.out.lower (by omega),B11.out⟩
structure CfSz (c:CfV):Prop where
 gm:c.gm.size≤1048576
 wm:c.wm.size≤1048576
 ps:c.ps.length≤1048576
 ros:c.ros.length≤1048576
 szr:SzR c.ros
 szt:szR c.ros≤1048576
structure CfBd (C:CfA) (c:CfV):Prop where
 gm:c.gm.size≤maxLen
 wm:c.wm.size≤maxLen
 ps:c.ps.length≤maxLen
 ros:c.ros.length≤maxLen
theorem cf_sz (C:CfA) (c:CfV) (w:World) (h:CfR w C c) (hb:CfBd C c) :
  Calls Tryz.prog 4 #[.agg #[.int .i64 c.ip,.int .i64 c.b,.int .i64 c.gt,.string c.gm,.string c.wm,.int .i64 c.rs,.slice C.x c.ps.length C.xc,.slice C.y c.ros.length C.yc],.int .i64 1048576] w fun e w'=>∃ r:Int,e=.returned (.int .i64 r)∧(0≤r→CfSz c)∧(r≤1048576)∧Below w.heap.size w w':=by
 have h1:=hb.gm;have h2:=hb.wm;have h3:=hb.ps;have h4:=hb.ros
 unfold maxLen at h1 h2 h3 h4
 refine (szConfig_any c.ip c.b c.gt c.gm c.wm c.rs C.x C.y c.ps.length C.xc c.ros.length C.yc c.ps c.ros w h.ps rfl h.ros rfl (by omega) (by omega) (by omega) (by omega)).mono ?_
 rintro e w' ⟨r,h1,h2,h3,h4,h5⟩
 refine ⟨r,h1,fun h0=>?_,h4,h5.below⟩
 have a:=h2 h0
 have n:=szR_nonneg c.ros
 exact ⟨by omega,by omega,by omega,by omega,SzR_of (n:=1048576) (by omega) (by omega),by omega⟩
theorem cf_to (C:CfA) (c:CfV) (w:World) (h:CfR w C c) (hs:CfSz c) :
  Calls Tryz.prog 7 #[.agg #[.int .i64 c.ip,.int .i64 c.b,.int .i64 c.gt,.string c.gm,.string c.wm,.int .i64 c.rs,.slice C.x c.ps.length C.xc,.slice C.y c.ros.length C.yc]] w fun e w'=>∃ C' L,e=.returned (.agg #[.int .i64 c.ip,.int .i64 c.b,.int .i64 c.gt,.string c.gm,.string c.wm,.int .i64 c.rs,.slice C'.x c.ps.length C'.xc,.slice C'.y c.ros.length C'.yc])∧OwnCf w' w.heap.size C' c L∧Below w.heap.size w w':=by
 refine (toConfig_own c.ip c.b c.gt c.gm c.wm c.rs C.x C.y c.ps.length C.xc c.ros.length C.yc c.ps c.ros w h.ps rfl h.ros rfl hs.ps hs.ros (fun x hx=>(hs.szr x hx).2)).mono ?_
 rintro e w' ⟨b1,b2,L,h1,h2,h3,h4,h5⟩
 exact ⟨⟨some ⟨b1,0,none⟩,some ⟨b2,0,none⟩,c.ps.length,c.ros.length⟩,L,h2,⟨h1,h3,h4⟩,h5⟩
theorem cf_eq (C C':CfA) (c:CfV) (w:World) (h:CfR w C c) (h':CfR w C' c) (hs:CfSz c) :
  Calls Tryz.prog 11 #[.agg #[.int .i64 c.ip,.int .i64 c.b,.int .i64 c.gt,.string c.gm,.string c.wm,.int .i64 c.rs,.slice C.x c.ps.length C.xc,.slice C.y c.ros.length C.yc],.agg #[.int .i64 c.ip,.int .i64 c.b,.int .i64 c.gt,.string c.gm,.string c.wm,.int .i64 c.rs,.slice C'.x c.ps.length C'.xc,.slice C'.y c.ros.length C'.yc]] w fun e w'=>e=.returned (.bool true)∧Below w.heap.size w w' :=
 (eqConfig_caps c.ip c.b c.gt c.gm c.wm c.rs C.x C.y C'.x C'.y c.ps.length c.ros.length C.xc C.yc C'.xc C'.yc c.ps c.ros w h.ps h'.ps rfl h.ros h'.ros rfl hs.ps hs.ros hs.szr).mono fun e w' h=>⟨h.1,h.2.below⟩
theorem roN_bd:∀ (L:List RoX),(roN L:Int)≤4 * L.length+6 * szR (L.map (fun x=>x.r))
 | []=>by simp [roN,szR]
 | x :: L=>by
  have:=roN_bd L
  have n:=szR_nonneg (L.map (fun x=>x.r))
  rw [List.map_cons,szR_cons]
  simp only [roN,List.length_cons]
  omega
def cfN (c:CfV) (L:List RoX):Nat:=4 * c.ps.length+roN L
theorem cfN_bd {c:CfV} {L:List RoX} (hl:L.map (fun x=>x.r)=c.ros) (hs:CfSz c):cfN c L≤20000000:=by
 have h1:=roN_bd L
 have h2:=hs.szt
 have h3:=hs.ps
 have h4:=hs.ros
 rw [hl] at h1
 have h5:L.length=c.ros.length:=by rw [← hl];simp
 unfold cfN
 omega
theorem cf_mark (C:CfA) (c:CfV) (L:List RoX) (B m0:Nat) (w:World) (h:OwnCf w B C c L) (hs:CfSz c) (h0:0<m0) (h1:m0≤1000000000) :
  Calls Tryz.prog 12 #[.agg #[.int .i64 c.ip,.int .i64 c.b,.int .i64 c.gt,.string c.gm,.string c.wm,.int .i64 c.rs,.slice C.x c.ps.length C.xc,.slice C.y c.ros.length C.yc],.int .i64 (m0:Int)] w fun e w'=>e=.returned (.int .i64 ((m0+cfN c L:Nat):Int))∧Rel.Keep (fun k=>k<w.heap.size∧¬ cfB C c L k) w w':=by
 have hb:=cfN_bd h.ro hs
 unfold cfN at hb ⊢
 refine (markConfig_any c.ip c.b c.gt c.gm c.wm c.rs C.x C.y c.ps.length C.xc c.ros.length C.yc c.ps L B m0 w h.ps h.rs h0 (by omega) hs.ros).mono ?_
 rintro e w' ⟨h1,h2,h3,h4⟩
 exact ⟨by rw [h1];congr 2;omega,h4⟩
set_option maxHeartbeats 8000000 in
theorem toGuests_own (ua sa fa ra:Option Addr) (ul uc sl sc fl fc rl rc:Nat) (us:List UserV) (ss:List SessV) (fs:List FailV) (rs:List RecV) (nx:Int) (w:World) (hu:Rw UsR 6 w ua us) (lu:us.length=ul) (mu:ul≤1048576) (hs:Rw SeR 10 w sa ss) (ls:ss.length=sl) (ms:sl≤1048576) (hf:Rw FaR 3 w fa fs) (lf:fs.length=fl) (mf:fl≤1048576) (hr:Rw ReR 5 w ra rs) (lr:rs.length=rl) (mr:rl≤1048576) :
  Calls Tryz.prog 8 #[.agg #[.slice ua ul uc,.slice sa sl sc,.slice fa fl fc,.slice ra rl rc,.int .i64 nx]] w fun e w'=>∃ bu bs bf br:Nat,e=.returned (.agg #[(.slice (some ⟨bu,0,none⟩) ul ul),(.slice (some ⟨bs,0,none⟩) sl sl),(.slice (some ⟨bf,0,none⟩) fl fl),(.slice (some ⟨br,0,none⟩) rl rl),.int .i64 nx])∧Own4 w' w.heap.size (.slice (some ⟨bu,0,none⟩) ul ul) (.slice (some ⟨bs,0,none⟩) sl sl) (.slice (some ⟨bf,0,none⟩) fl fl) (.slice (some ⟨br,0,none⟩) rl rl) us ss fs rs∧((∀ x,x ∈ us→UsRok x)∧(∀ x,x ∈ ss→SeRok x)∧(∀ x,x ∈ fs→FaRok x)∧(∀ x,x ∈ rs→ReRok x))∧Below w.heap.size w w':=by
 have Hu:Hid (∀ wx,Below w.heap.size w wx→Calls Tryz.prog 30 #[.slice ua ul uc] wx fun e w'=>e=.returned (.slice (some ⟨wx.heap.size,0,none⟩) ul ul)∧OwnS uvG 6 84 w' wx.heap.size (.slice (some ⟨wx.heap.size,0,none⟩) ul ul) us∧(∀ x,x ∈ us→UsRok x)∧Below wx.heap.size wx w'):=fun wx hb=>toUserS_own ua ul uc us wx (hu.keep UsR.kp hb) lu mu
 have Hs:Hid (∀ wx,Below w.heap.size w wx→Calls Tryz.prog 31 #[.slice sa sl sc] wx fun e w'=>e=.returned (.slice (some ⟨wx.heap.size,0,none⟩) sl sl)∧OwnS svG 10 80 w' wx.heap.size (.slice (some ⟨wx.heap.size,0,none⟩) sl sl) ss∧(∀ x,x ∈ ss→SeRok x)∧Below wx.heap.size wx w'):=fun wx hb=>toSessionS_own sa sl sc ss wx (hs.keep SeR.kp hb) ls ms
 have Hf:Hid (∀ wx,Below w.heap.size w wx→Calls Tryz.prog 32 #[.slice fa fl fc] wx fun e w'=>e=.returned (.slice (some ⟨wx.heap.size,0,none⟩) fl fl)∧OwnS fvG 3 115 w' wx.heap.size (.slice (some ⟨wx.heap.size,0,none⟩) fl fl) fs∧(∀ x,x ∈ fs→FaRok x)∧Below wx.heap.size wx w'):=fun wx hb=>toFailS_own fa fl fc fs wx (hf.keep FaR.kp hb) lf mf
 have Hr:Hid (∀ wx,Below w.heap.size w wx→Calls Tryz.prog 33 #[.slice ra rl rc] wx fun e w'=>e=.returned (.slice (some ⟨wx.heap.size,0,none⟩) rl rl)∧OwnS evG 5 86 w' wx.heap.size (.slice (some ⟨wx.heap.size,0,none⟩) rl rl) rs∧(∀ x,x ∈ rs→ReRok x)∧Below wx.heap.size wx w'):=fun wx hb=>toRecordS_own ra rl rc rs wx (hr.keep ReR.kp hb) lr mr
 clear hu hs hf hr
 have G0:Bo (((w.alloc (.cells #[.slice ua ul uc,.slice sa sl sc,.slice fa fl fc,.slice ra rl rc,.int .i64 nx] 33)).alloc (.cells #[.slice none 0 0,.slice none 0 0,.slice none 0 0,.slice none 0 0,.int .i64 0] 41)).alloc (.cells #[.slice none 0 0,.slice none 0 0,.slice none 0 0,.slice none 0 0,.int .i64 0] 41)) w.heap.size 33 [.slice ua ul uc,.slice sa sl sc,.slice fa fl fc,.slice ra rl rc,.int .i64 nx]:=((Bo.new w #[.slice ua ul uc,.slice sa sl sc,.slice fa fl fc,.slice ra rl rc,.int .i64 nx] _).below ((Below.refl _ _).alloc (Nat.le_refl _) _)).below ((Below.refl _ _).alloc (Nat.le_refl _) _)
 have R0:Bo (((w.alloc (.cells #[.slice ua ul uc,.slice sa sl sc,.slice fa fl fc,.slice ra rl rc,.int .i64 nx] 33)).alloc (.cells #[.slice none 0 0,.slice none 0 0,.slice none 0 0,.slice none 0 0,.int .i64 0] 41)).alloc (.cells #[.slice none 0 0,.slice none 0 0,.slice none 0 0,.slice none 0 0,.int .i64 0] 41)) (w.heap.size+1) 41 [.slice none 0 0,.slice none 0 0,.slice none 0 0,.slice none 0 0,.int .i64 0]:=by
  have h:=(Bo.new (w.alloc (.cells #[.slice ua ul uc,.slice sa sl sc,.slice fa fl fc,.slice ra rl rc,.int .i64 nx] 33)) #[.slice none 0 0,.slice none 0 0,.slice none 0 0,.slice none 0 0,.int .i64 0] 41).below ((Below.refl _ ((w.alloc (.cells #[.slice ua ul uc,.slice sa sl sc,.slice fa fl fc,.slice ra rl rc,.int .i64 nx] 33)).alloc (.cells #[.slice none 0 0,.slice none 0 0,.slice none 0 0,.slice none 0 0,.int .i64 0] 41))).alloc (Nat.le_refl _) (.cells #[.slice none 0 0,.slice none 0 0,.slice none 0 0,.slice none 0 0,.int .i64 0] 41))
  rw [World.size_alloc] at h
  exact h
 have N0:Bo (((w.alloc (.cells #[.slice ua ul uc,.slice sa sl sc,.slice fa fl fc,.slice ra rl rc,.int .i64 nx] 33)).alloc (.cells #[.slice none 0 0,.slice none 0 0,.slice none 0 0,.slice none 0 0,.int .i64 0] 41)).alloc (.cells #[.slice none 0 0,.slice none 0 0,.slice none 0 0,.slice none 0 0,.int .i64 0] 41)) (w.heap.size+1+1) 41 [.slice none 0 0,.slice none 0 0,.slice none 0 0,.slice none 0 0,.int .i64 0]:=by
  have h:=Bo.new ((w.alloc (.cells #[.slice ua ul uc,.slice sa sl sc,.slice fa fl fc,.slice ra rl rc,.int .i64 nx] 33)).alloc (.cells #[.slice none 0 0,.slice none 0 0,.slice none 0 0,.slice none 0 0,.int .i64 0] 41)) #[.slice none 0 0,.slice none 0 0,.slice none 0 0,.slice none 0 0,.int .i64 0] 41
  rw [World.size_alloc,World.size_alloc] at h
  exact h
 have B0:Hid (Below w.heap.size w (((w.alloc (.cells #[.slice ua ul uc,.slice sa sl sc,.slice fa fl fc,.slice ra rl rc,.int .i64 nx] 33)).alloc (.cells #[.slice none 0 0,.slice none 0 0,.slice none 0 0,.slice none 0 0,.int .i64 0] 41)).alloc (.cells #[.slice none 0 0,.slice none 0 0,.slice none 0 0,.slice none 0 0,.int .i64 0] 41))):=(((Below.refl _ _).alloc (Nat.le_refl _) _).alloc (by simp) _).alloc (by simp;omega) _
 have c0:=G0.cell 0 rfl
 go_enter Tryz.func8,Tryz.ntmps8
 go_wp2_with fail
 refine (Hu.out _ B0.out).mono ?_
 rintro e w1 ⟨rfl,Ou_,ku,b1⟩
 have G1a:=G0.below b1
 have R1a:=R0.below b1
 have N1a:=N0.below b1
 have B1a:Hid (Below w.heap.size w w1):=B0.out.trans (b1.mono B0.out.size)
 replace ku:Hid _:=ku
 replace Ou_:=Ou_.lower B0.out.size
 clear b1 G0 R0 N0 B0 c0
 obtain ⟨bu,hbu⟩:∃ b,b=(((w.alloc (.cells #[.slice ua ul uc,.slice sa sl sc,.slice fa fl fc,.slice ra rl rc,.int .i64 nx] 33)).alloc (.cells #[.slice none 0 0,.slice none 0 0,.slice none 0 0,.slice none 0 0,.int .i64 0] 41)).alloc (.cells #[.slice none 0 0,.slice none 0 0,.slice none 0 0,.slice none 0 0,.int .i64 0] 41)).heap.size:=⟨_,rfl⟩
 rw [← hbu] at Ou_
 have hsu:w.heap.size+1+1+1=bu:=by rw [hbu];simp
 (first | rw [← hbu] | rw [hsu])
 clear hbu hsu
 have ca:=N1a.cell 0 rfl
 have za:=N1a.thaw 0 (by simp)
 have cg:=G1a.cell 1 rfl
 have G1:=G1a.far ⟨w.heap.size+1+1,0,none⟩ (.slice (some ⟨bu,0,none⟩) ul ul) (by show w.heap.size+1+1 ≠ w.heap.size;omega)
 have R1:=R1a.far ⟨w.heap.size+1+1,0,none⟩ (.slice (some ⟨bu,0,none⟩) ul ul) (by show w.heap.size+1+1 ≠ w.heap.size+1;omega)
 have N1:Bo (w1.setCell ⟨w.heap.size+1+1,0,none⟩ (.slice (some ⟨bu,0,none⟩) ul ul)) (w.heap.size+1+1) 41 [(.slice (some ⟨bu,0,none⟩) ul ul),.slice none 0 0,.slice none 0 0,.slice none 0 0,.int .i64 0]:=N1a.field 0 (.slice (some ⟨bu,0,none⟩) ul ul)
 have B1:Hid (Below w.heap.size w (w1.setCell ⟨w.heap.size+1+1,0,none⟩ (.slice (some ⟨bu,0,none⟩) ul ul))):=B1a.out.setCell (by show w.heap.size≤w.heap.size+1+1;omega) _
 replace Ou_:=Ou_.box N1a (by decide) 0 (.slice (some ⟨bu,0,none⟩) ul ul)
 have c1:=G1.cell 1 rfl
 clear G1a R1a N1a B1a
 go_wp2_with fail
 refine (Hs.out _ B1.out).mono ?_
 rintro e w2 ⟨rfl,Os_,ks,b2⟩
 have G2a:=G1.below b2
 have R2a:=R1.below b2
 have N2a:=N1.below b2
 have B2a:Hid (Below w.heap.size w w2):=B1.out.trans (b2.mono B1.out.size)
 replace ks:Hid _:=ks
 replace Ou_:=Ou_.now b2
 replace Os_:=Os_.lower B1.out.size
 clear b2 G1 R1 N1 B1 c1
 obtain ⟨bs,hbs⟩:∃ b,b=(w1.setCell ⟨w.heap.size+1+1,0,none⟩ (.slice (some ⟨bu,0,none⟩) ul ul)).heap.size:=⟨_,rfl⟩
 rw [← hbs] at Os_
 have hss:w1.heap.size=bs:=by rw [hbs];simp
 (first | rw [← hbs] | rw [hss])
 clear hbs hss
 have ca:=N2a.cell 1 rfl
 have za:=N2a.thaw 1 (by simp)
 have cg:=G2a.cell 2 rfl
 have G2:=G2a.far ⟨w.heap.size+1+1,1,none⟩ (.slice (some ⟨bs,0,none⟩) sl sl) (by show w.heap.size+1+1 ≠ w.heap.size;omega)
 have R2:=R2a.far ⟨w.heap.size+1+1,1,none⟩ (.slice (some ⟨bs,0,none⟩) sl sl) (by show w.heap.size+1+1 ≠ w.heap.size+1;omega)
 have N2:Bo (w2.setCell ⟨w.heap.size+1+1,1,none⟩ (.slice (some ⟨bs,0,none⟩) sl sl)) (w.heap.size+1+1) 41 [(.slice (some ⟨bu,0,none⟩) ul ul),(.slice (some ⟨bs,0,none⟩) sl sl),.slice none 0 0,.slice none 0 0,.int .i64 0]:=N2a.field 1 (.slice (some ⟨bs,0,none⟩) sl sl)
 have B2:Hid (Below w.heap.size w (w2.setCell ⟨w.heap.size+1+1,1,none⟩ (.slice (some ⟨bs,0,none⟩) sl sl))):=B2a.out.setCell (by show w.heap.size≤w.heap.size+1+1;omega) _
 replace Ou_:=Ou_.box N2a (by decide) 1 (.slice (some ⟨bs,0,none⟩) sl sl)
 replace Os_:=Os_.box N2a (by decide) 1 (.slice (some ⟨bs,0,none⟩) sl sl)
 have c2:=G2.cell 2 rfl
 clear G2a R2a N2a B2a
 go_wp2_with fail
 refine (Hf.out _ B2.out).mono ?_
 rintro e w3 ⟨rfl,Of_,kf,b3⟩
 have G3a:=G2.below b3
 have R3a:=R2.below b3
 have N3a:=N2.below b3
 have B3a:Hid (Below w.heap.size w w3):=B2.out.trans (b3.mono B2.out.size)
 replace kf:Hid _:=kf
 replace Ou_:=Ou_.now b3
 replace Os_:=Os_.now b3
 replace Of_:=Of_.lower B2.out.size
 clear b3 G2 R2 N2 B2 c2
 obtain ⟨bf,hbf⟩:∃ b,b=(w2.setCell ⟨w.heap.size+1+1,1,none⟩ (.slice (some ⟨bs,0,none⟩) sl sl)).heap.size:=⟨_,rfl⟩
 rw [← hbf] at Of_
 have hsf:w2.heap.size=bf:=by rw [hbf];simp
 (first | rw [← hbf] | rw [hsf])
 clear hbf hsf
 have ca:=N3a.cell 2 rfl
 have za:=N3a.thaw 2 (by simp)
 have cg:=G3a.cell 3 rfl
 have G3:=G3a.far ⟨w.heap.size+1+1,2,none⟩ (.slice (some ⟨bf,0,none⟩) fl fl) (by show w.heap.size+1+1 ≠ w.heap.size;omega)
 have R3:=R3a.far ⟨w.heap.size+1+1,2,none⟩ (.slice (some ⟨bf,0,none⟩) fl fl) (by show w.heap.size+1+1 ≠ w.heap.size+1;omega)
 have N3:Bo (w3.setCell ⟨w.heap.size+1+1,2,none⟩ (.slice (some ⟨bf,0,none⟩) fl fl)) (w.heap.size+1+1) 41 [(.slice (some ⟨bu,0,none⟩) ul ul),(.slice (some ⟨bs,0,none⟩) sl sl),(.slice (some ⟨bf,0,none⟩) fl fl),.slice none 0 0,.int .i64 0]:=N3a.field 2 (.slice (some ⟨bf,0,none⟩) fl fl)
 have B3:Hid (Below w.heap.size w (w3.setCell ⟨w.heap.size+1+1,2,none⟩ (.slice (some ⟨bf,0,none⟩) fl fl))):=B3a.out.setCell (by show w.heap.size≤w.heap.size+1+1;omega) _
 replace Ou_:=Ou_.box N3a (by decide) 2 (.slice (some ⟨bf,0,none⟩) fl fl)
 replace Os_:=Os_.box N3a (by decide) 2 (.slice (some ⟨bf,0,none⟩) fl fl)
 replace Of_:=Of_.box N3a (by decide) 2 (.slice (some ⟨bf,0,none⟩) fl fl)
 have c3:=G3.cell 3 rfl
 clear G3a R3a N3a B3a
 go_wp2_with fail
 refine (Hr.out _ B3.out).mono ?_
 rintro e w4 ⟨rfl,Or_,kr,b4⟩
 have G4a:=G3.below b4
 have R4a:=R3.below b4
 have N4a:=N3.below b4
 have B4a:Hid (Below w.heap.size w w4):=B3.out.trans (b4.mono B3.out.size)
 replace kr:Hid _:=kr
 replace Ou_:=Ou_.now b4
 replace Os_:=Os_.now b4
 replace Of_:=Of_.now b4
 replace Or_:=Or_.lower B3.out.size
 clear b4 G3 R3 N3 B3 c3
 obtain ⟨br,hbr⟩:∃ b,b=(w3.setCell ⟨w.heap.size+1+1,2,none⟩ (.slice (some ⟨bf,0,none⟩) fl fl)).heap.size:=⟨_,rfl⟩
 rw [← hbr] at Or_
 have hsr:w3.heap.size=br:=by rw [hbr];simp
 (first | rw [← hbr] | rw [hsr])
 clear hbr hsr
 have ca:=N4a.cell 3 rfl
 have za:=N4a.thaw 3 (by simp)
 have cg:=G4a.cell 4 rfl
 have G4:=G4a.far ⟨w.heap.size+1+1,3,none⟩ (.slice (some ⟨br,0,none⟩) rl rl) (by show w.heap.size+1+1 ≠ w.heap.size;omega)
 have R4:=R4a.far ⟨w.heap.size+1+1,3,none⟩ (.slice (some ⟨br,0,none⟩) rl rl) (by show w.heap.size+1+1 ≠ w.heap.size+1;omega)
 have N4:Bo (w4.setCell ⟨w.heap.size+1+1,3,none⟩ (.slice (some ⟨br,0,none⟩) rl rl)) (w.heap.size+1+1) 41 [(.slice (some ⟨bu,0,none⟩) ul ul),(.slice (some ⟨bs,0,none⟩) sl sl),(.slice (some ⟨bf,0,none⟩) fl fl),(.slice (some ⟨br,0,none⟩) rl rl),.int .i64 0]:=N4a.field 3 (.slice (some ⟨br,0,none⟩) rl rl)
 have B4:Hid (Below w.heap.size w (w4.setCell ⟨w.heap.size+1+1,3,none⟩ (.slice (some ⟨br,0,none⟩) rl rl))):=B4a.out.setCell (by show w.heap.size≤w.heap.size+1+1;omega) _
 replace Ou_:=Ou_.box N4a (by decide) 3 (.slice (some ⟨br,0,none⟩) rl rl)
 replace Os_:=Os_.box N4a (by decide) 3 (.slice (some ⟨br,0,none⟩) rl rl)
 replace Of_:=Of_.box N4a (by decide) 3 (.slice (some ⟨br,0,none⟩) rl rl)
 replace Or_:=Or_.box N4a (by decide) 3 (.slice (some ⟨br,0,none⟩) rl rl)
 have c4:=G4.cell 4 rfl
 clear G4a R4a N4a B4a
 have cn:=N4.cell 4 rfl
 have zn:=N4.thaw 4 (by simp)
 have N5:=N4.field 4 (.int .i64 nx)
 have R5:=R4.far ⟨w.heap.size+1+1,4,none⟩ (.int .i64 nx) (by show w.heap.size+1+1 ≠ w.heap.size+1;omega)
 have B5:Hid (Below w.heap.size w ((w4.setCell ⟨w.heap.size+1+1,3,none⟩ (.slice (some ⟨br,0,none⟩) rl rl)).setCell ⟨w.heap.size+1+1,4,none⟩ (.int .i64 nx))):=B4.out.setCell (by show w.heap.size≤w.heap.size+1+1;omega) _
 replace Ou_:=Ou_.box N4 (by decide) 4 (.int .i64 nx)
 replace Os_:=Os_.box N4 (by decide) 4 (.int .i64 nx)
 replace Of_:=Of_.box N4 (by decide) 4 (.int .i64 nx)
 replace Or_:=Or_.box N4 (by decide) 4 (.int .i64 nx)
 have N5x:=N5.bx
 have R5x:=R5.bx
 go_wp2_with (first | (refine wpl_getT 41 rfl _ rfl _ rfl N5x _ Tryz.underlying41 rfl rfl ?_) | (refine wpl_putT 41 rfl _ _ rfl (w.heap.size+1) _ rfl rfl R5x rfl rfl rfl ?_;intro w6 hw6 R6;have B6:Hid (Below w.heap.size w w6):=(by rw [hw6];exact below_cells (by omega) _ _ _ B5.out);have O6:Hid (Own4 w6 w.heap.size (.slice (some ⟨bu,0,none⟩) ul ul) (.slice (some ⟨bs,0,none⟩) sl sl) (.slice (some ⟨bf,0,none⟩) fl fl) (.slice (some ⟨br,0,none⟩) rl rl) us ss fs rs):=(by rw [hw6];exact own4_of (OwnS.boxes _ _ _ _ Ou_ R5 (by decide)) (OwnS.boxes _ _ _ _ Os_ R5 (by decide)) (OwnS.boxes _ _ _ _ Of_ R5 (by decide)) (OwnS.boxes _ _ _ _ Or_ R5 (by decide)) (Nat.le_refl _));clear hw6) | fail)
 have xx0:w6.cell? ⟨w.heap.size+1,0,none⟩=some ((.slice (some ⟨bu,0,none⟩) ul ul)):=R6.cell 0 rfl
 have xx1:w6.cell? ⟨w.heap.size+1,1,none⟩=some ((.slice (some ⟨bs,0,none⟩) sl sl)):=R6.cell 1 rfl
 have xx2:w6.cell? ⟨w.heap.size+1,2,none⟩=some ((.slice (some ⟨bf,0,none⟩) fl fl)):=R6.cell 2 rfl
 have xx3:w6.cell? ⟨w.heap.size+1,3,none⟩=some ((.slice (some ⟨br,0,none⟩) rl rl)):=R6.cell 3 rfl
 have xx4:w6.cell? ⟨w.heap.size+1,4,none⟩=some (.int .i64 nx):=R6.cell 4 rfl
 (try simp only [Exit.inBlock,Exit.then])
 refine bodyPost_ret (v:=.agg #[(.slice (some ⟨bu,0,none⟩) ul ul),(.slice (some ⟨bs,0,none⟩) sl sl),(.slice (some ⟨bf,0,none⟩) fl fl),(.slice (some ⟨br,0,none⟩) rl rl),.int .i64 nx]) (by simp [results,Tryz.results8,go_sem,xx0,xx1,xx2,xx3,xx4];try rfl) rfl ?_
 exact ⟨_,_,_,_,rfl,O6.out,⟨ku.out,ks.out,kf.out,kr.out⟩,B6.out⟩
structure HuSz (h:HuV):Prop where
 us:h.us.length≤1048576
 ss:h.ss.length≤1048576
 fs:h.fs.length≤1048576
 es:h.es.length≤1048576
 szu:szL wtUser h.us≤1048576
 szs:szL wtSession h.ss≤1048576
 szf:szL wtFail h.fs≤1048576
structure HuBd (A:HuA) (h:HuV):Prop where
 us:h.us.length≤maxLen
 ss:h.ss.length≤maxLen
 fs:h.fs.length≤maxLen
 es:h.es.length≤maxLen
structure HuLn (h:HuV):Prop where
 us:h.us.length≤1048576
 ss:h.ss.length≤1048576
 fs:h.fs.length≤1048576
 es:h.es.length≤1048576
theorem HuSz.ln {h:HuV} (o:HuSz h):HuLn h:=⟨o.us,o.ss,o.fs,o.es⟩
theorem hu_sz (A:HuA) (h:HuV) (l:Int) (w:World) (o:HuR w A h) (hb:HuBd A h) (h0:0≤l) (h1:l≤1048576) :
  Calls Tryz.prog 5 #[.agg #[.slice A.u h.us.length A.uc,.slice A.s h.ss.length A.sc,.slice A.f h.fs.length A.fc,.slice A.r h.es.length A.rc,.int .i64 h.nx],.int .i64 l] w fun e w'=>∃ r:Int,e=.returned (.int .i64 r)∧(0≤r→HuSz h)∧(r≤1048576)∧Below w.heap.size w w':=by
 have k1:=hb.us;have k2:=hb.ss;have k3:=hb.fs;have k4:=hb.es
 unfold maxLen at k1 k2 k3 k4
 refine (szGuests_any A.u A.s A.f A.r h.us.length A.uc h.ss.length A.sc h.fs.length A.fc h.es.length A.rc h.us h.ss h.fs h.es h.nx l w o.us rfl o.ss rfl o.fs rfl o.es rfl (by omega) (by omega) (by omega) (by omega) h0 h1).mono ?_
 rintro e w' ⟨r,h1,h2,h3,h4,h5⟩
 refine ⟨r,h1,fun h0=>?_,h4,h5.below⟩
 have a:=h2 h0
 have nu:=szL_nonneg wtUser_nn h.us
 have ns:=szL_nonneg wtSession_nn h.ss
 have nf:=szL_nonneg wtFail_nn h.fs
 exact ⟨by omega,by omega,by omega,by omega,by omega,by omega,by omega⟩
theorem hu_to (A:HuA) (h:HuV) (w:World) (o:HuR w A h) (hs:HuLn h) :
  Calls Tryz.prog 8 #[.agg #[.slice A.u h.us.length A.uc,.slice A.s h.ss.length A.sc,.slice A.f h.fs.length A.fc,.slice A.r h.es.length A.rc,.int .i64 h.nx]] w fun e w'=>∃ A',e=.returned (.agg #[.slice A'.u h.us.length A'.uc,.slice A'.s h.ss.length A'.sc,.slice A'.f h.fs.length A'.fc,.slice A'.r h.es.length A'.rc,.int .i64 h.nx])∧OwnHu w' w.heap.size A' h∧Below w.heap.size w w':=by
 refine (toGuests_own A.u A.s A.f A.r h.us.length A.uc h.ss.length A.sc h.fs.length A.fc h.es.length A.rc h.us h.ss h.fs h.es h.nx w o.us rfl hs.us o.ss rfl hs.ss o.fs rfl hs.fs o.es rfl hs.es).mono ?_
 rintro e w' ⟨b1,b2,b3,b4,h1,h2,-,h3⟩
 exact ⟨⟨some ⟨b1,0,none⟩,some ⟨b2,0,none⟩,some ⟨b3,0,none⟩,some ⟨b4,0,none⟩,h.us.length,h.ss.length,h.fs.length,h.es.length⟩,h1,h2,h3⟩
theorem hu_eq (A A':HuA) (h:HuV) (w:World) (o:HuR w A h) (o':HuR w A' h) (hs:HuLn h) :
  Calls Tryz.prog 10 #[.agg #[.slice A.u h.us.length A.uc,.slice A.s h.ss.length A.sc,.slice A.f h.fs.length A.fc,.slice A.r h.es.length A.rc,.int .i64 h.nx],.agg #[.slice A'.u h.us.length A'.uc,.slice A'.s h.ss.length A'.sc,.slice A'.f h.fs.length A'.fc,.slice A'.r h.es.length A'.rc,.int .i64 h.nx]] w fun e w'=>e=.returned (.bool true)∧Below w.heap.size w w':=by
 have k1:=hs.us;have k2:=hs.ss;have k3:=hs.fs;have k4:=hs.es
 exact (eqGuests_yes A.u A.s A.f A.r A'.u A'.s A'.f A'.r h.us.length A.uc A'.uc h.ss.length A.sc A'.sc h.fs.length A.fc A'.fc h.es.length A.rc A'.rc h.us h.ss h.fs h.es h.nx w o.us o'.us rfl o.ss o'.ss rfl o.fs o'.fs rfl o.es o'.es rfl (by omega) (by omega) (by omega) (by omega)).mono fun e w' h=>⟨h.1,h.2.below⟩
def huN (h:HuV):Nat:=6 * h.us.length+10 * h.ss.length+3 * h.fs.length+5 * h.es.length
theorem huN_bd {h:HuV} (hs:HuLn h):huN h≤30000000:=by
 have k1:=hs.us;have k2:=hs.ss;have k3:=hs.fs;have k4:=hs.es
 unfold huN
 omega
def MkdHu (w:World) (B:Nat) (A:HuA) (h:HuV) (m0:Nat):Prop:=Own4 w B (.slice A.u h.us.length A.uc) (.slice A.s h.ss.length A.sc) (.slice A.f h.fs.length A.fc) (.slice A.r h.es.length A.rc) (mkUserL m0 h.us.length) (mkSessionL (m0+6 * h.us.length) h.ss.length) (mkFailL (m0+6 * h.us.length+10 * h.ss.length) h.fs.length) (mkRecordL (m0+6 * h.us.length+10 * h.ss.length+3 * h.fs.length) h.es.length)
theorem MkdHu.now {w w':World} {B:Nat} {A:HuA} {h:HuV} {m0:Nat} (o:MkdHu w B A h m0) (hb:Below w.heap.size w w'):MkdHu w' B A h m0:=Own4.now o hb
theorem hu_mark (A:HuA) (h:HuV) (B m0:Nat) (w:World) (o:OwnHu w B A h) (hs:HuLn h) (h0:0<m0) (h1:m0≤1000000000) :
  Calls Tryz.prog 13 #[.agg #[.slice A.u h.us.length A.uc,.slice A.s h.ss.length A.sc,.slice A.f h.fs.length A.fc,.slice A.r h.es.length A.rc,.int .i64 h.nx],.int .i64 (m0:Int)] w fun e w'=>e=.returned (.int .i64 ((m0+huN h:Nat):Int))∧MkdHu w' B A h m0∧Rel.Keep (fun k=>k<w.heap.size∧¬ huB A h k) w w':=by
 have hb:=huN_bd hs
 unfold huN at hb ⊢
 refine (markGuests_any A.u A.s A.f A.r h.us.length A.uc h.ss.length A.sc h.fs.length A.fc h.es.length A.rc h.us h.ss h.fs h.es h.nx m0 B w o h0 (by omega)).mono ?_
 rintro e w' ⟨h1,h2,h3⟩
 refine ⟨by rw [h1];congr 2;omega,h2,h3.mono (fun k hk=>⟨hk.1,fun e=>hk.2 (.inl e),fun e=>hk.2 (.inr (.inl e)),fun e=>hk.2 (.inr (.inr (.inl e))),fun e=>hk.2 (.inr (.inr (.inr e)))⟩)⟩
theorem hu_held (A:HuA) (h:HuV) (B m0:Nat) (w:World) (o:MkdHu w B A h m0) (hs:HuLn h) (h0:0<m0) (h1:m0≤1000000000) :
  Calls Tryz.prog 14 #[.agg #[.slice A.u h.us.length A.uc,.slice A.s h.ss.length A.sc,.slice A.f h.fs.length A.fc,.slice A.r h.es.length A.rc,.int .i64 h.nx],.int .i64 (m0:Int)] w fun e w'=>e=.returned (.int .i64 ((m0+huN h:Nat):Int))∧Below w.heap.size w w':=by
 have hb:=huN_bd hs
 unfold huN at hb ⊢
 have k1:=hs.us;have k2:=hs.ss;have k3:=hs.fs;have k4:=hs.es
 refine (heldGuests_any A.u A.s A.f A.r h.us.length A.uc h.ss.length A.sc h.fs.length A.fc h.es.length A.rc h.nx m0 w (o.u.rw (ok:=UsRok) uvG_len (mkUserL_ok _ _ (by omega))) (o.s.rw (ok:=SeRok) svG_len (mkSessionL_ok _ _ (by omega))) (o.f.rw (ok:=FaRok) fvG_len (mkFailL_ok _ _ (by omega))) (o.r.rw (ok:=ReRok) evG_len (mkRecordL_ok _ _ (by omega))) h0 (by omega)).mono ?_
 rintro e w' ⟨h1,h2⟩
 exact ⟨by rw [h1];congr 2;omega,h2.below⟩
open Go.RowKit
namespace Rel
theorem cell_of {w w':World} {a:Addr} (h:w'.heap[a.block]?=w.heap[a.block]?):w'.cell? a=w.cell? a:=by
 unfold World.cell?;rw [h]
theorem froz_of {w w':World} {a:Addr} (h:w'.heap[a.block]?=w.heap[a.block]?):w'.frozen? a=w.frozen? a:=by
 unfold World.frozen?;rw [h]
theorem bx_loc {w w':World} {q:Nat} {cs:List Value} (h:Bx w q cs) (hq:w'.heap[q]?=w.heap[q]?):Bx w' q cs :=
 Bx.of (fun j v hv=>(cell_of (a:=⟨q,j,none⟩) hq).trans (h.cell j hv)) (fun j hj=>(froz_of (a:=⟨q,j,none⟩) hq).trans (h.thaw j hj))
theorem own_loc {e:TypeId} {w w':World} {B K n:Nat} {v:Value} {F:List Value} (h:w.ownsRow B e K v n F) (hq:∀ k,v.ownBlock=some k→w'.heap[k]?=w.heap[k]?):w'.ownsRow B e K v n F:=by
 refine ⟨h.1,?_⟩
 rcases h.2 with h' | ⟨g,cap,cur,h1,hB,hg,h4⟩
 ·exact .inl h'
 ·exact .inr ⟨g,cap,cur,h1,hB,by rw [hq g (by rw [h1];rfl)];exact hg,h4⟩
def valR (i:Nat) (nd:List Nat) (v:Value):Rsc:=⟨fun σ _=>σ i=v,fun _ _=>False,[i],[],nd⟩
theorem valR_ok {Bs:Nat→Prop} (i:Nat) (nd:List Nat) (v:Value):(valR i nd v).Ok Bs :=
 ⟨fun σ w w' h _=>h,fun σ σ' h=>⟨fun w hf=>(h i (by simp [valR])).trans hf,fun b hb=>hb⟩⟩
def twoR (i j:Nat) (nd:List Nat) (p:Value→Value→Prop):Rsc:=⟨fun σ _=>p (σ i) (σ j),fun _ _=>False,[i,j],[],nd⟩
theorem twoR_ok {Bs:Nat→Prop} (i j:Nat) (nd:List Nat) (p:Value→Value→Prop):(twoR i j nd p).Ok Bs :=
 ⟨fun σ w w' h _=>h,fun σ σ' h=>⟨fun w hf=>by
  have h1:=h i (by simp [twoR]);have h2:=h j (by simp [twoR])
  show p (σ' i) (σ' j)
  rw [h1,h2];exact hf,fun b hb=>hb⟩⟩
def retR (i:Nat) (nd:List Nat) (F:Value→World→Prop) (ow:Value→Nat→Prop):Rsc:=⟨fun σ w=>F (σ i) w,fun σ b=>ow (σ i) b,[i],[],nd⟩
theorem retR_ok {Bs:Nat→Prop} (i:Nat) (nd:List Nat) (F:Value→World→Prop) (ow:Value→Nat→Prop) (h:∀ v w w',F v w→Keep (fun b=>Bs b ∨ ow v b) w w'→F v w'):(retR i nd F ow).Ok Bs :=
 ⟨fun σ w w' hf hk=>h (σ i) w w' hf hk,fun σ σ' hh=>by
  have h1:=hh i (by simp [retR])
  exact ⟨fun w hf=>by show F (σ' i) w;rw [h1];exact hf,fun b hb=>by show ow (σ i) b;rw [← h1];exact hb⟩⟩
def boxF (cs:List Value) (v:Value) (w:World):Prop:=∃ q,v=.pointer (some ⟨q,0,none⟩)∧Bx w q cs
def boxO (v:Value) (b:Nat):Prop:=v=.pointer (some ⟨b,0,none⟩)
theorem box_loc {Bs:Nat→Prop} {cs:List Value} (v:Value) (w w':World) (h:boxF cs v w) (hk:Keep (fun b=>Bs b ∨ boxO v b) w w'):boxF cs v w':=by
 obtain ⟨q,hv,hb⟩:=h
 exact ⟨q,hv,bx_loc hb (hk.block q (.inr hv))⟩
def boxR (i:Nat) (nd:List Nat) (cs:List Value):Rsc:=retR i nd (boxF cs) boxO
theorem boxR_ok {Bs:Nat→Prop} (i:Nat) (nd:List Nat) (cs:List Value):(boxR i nd cs).Ok Bs:=retR_ok i nd _ _ box_loc
def putR (j:Nat) (nd:List Nat) (cs:List Value):Rsc:=⟨fun σ w=>boxF cs (σ j) w,fun σ b=>boxO (σ j) b,[j],[j],nd⟩
theorem putR_ok {Bs:Nat→Prop} (j:Nat) (nd:List Nat) (cs:List Value):(putR j nd cs).Ok Bs :=
 ⟨fun σ w w' hf hk=>box_loc (σ j) w w' hf hk,fun σ σ' hh=>by
  have h1:=hh j (by simp [putR])
  exact ⟨fun w hf=>by show boxF cs (σ' j) w;rw [h1];exact hf,fun b hb=>by show boxO (σ j) b;rw [← h1];exact hb⟩⟩
theorem left_below {R:List Rsc} {r:Rsc} {i:Nat} {σ:Nat→Value} {w:World} {v:Value} {w':World} (hf:r.fact (upd σ i v) w') (ho:∀ b,r.own (upd σ i v) b→w.heap.size≤b∧b<w'.heap.size) (hb:Below w.heap.size w w'):Left R r i σ w v w' :=
 ⟨hf,fun b h=>.inr (ho b h),⟨hb.os,hb.tape,hb.output,hb.size,fun k hk=>hb.block k hk.1⟩⟩
theorem left_val {R:List Rsc} {i:Nat} {nd:List Nat} {σ:Nat→Value} {w:World} {v:Value}:Left R (valR i nd v) i σ w v w :=
 left_below (upd_self σ i v) (fun b h=>h.elim) (Below.refl _ _)
theorem left_valB {R:List Rsc} {i:Nat} {nd:List Nat} {σ:Nat→Value} {w w':World} {v:Value} (hb:Below w.heap.size w w'):Left R (valR i nd v) i σ w v w' :=
 left_below (upd_self σ i v) (fun b h=>h.elim) hb
theorem left_ret {R:List Rsc} {i:Nat} {nd:List Nat} {σ:Nat→Value} {w w':World} {v:Value} {F:Value→World→Prop} {ow:Value→Nat→Prop} (hf:F v w') (ho:∀ b,ow v b→w.heap.size≤b∧b<w'.heap.size) (hb:Below w.heap.size w w'):Left R (retR i nd F ow) i σ w v w' :=
 left_below (by show F (upd σ i v i) w';rw [upd_self];exact hf) (fun b h=>ho b (by have h2:ow (upd σ i v i) b:=h;rwa [upd_self] at h2)) hb
theorem left_box {R:List Rsc} {i:Nat} {nd:List Nat} {σ:Nat→Value} {w:World} (cs:Array Value) (t:TypeId):Left R (boxR i nd cs.toList) i σ w (.pointer (some ⟨w.heap.size,0,none⟩)) (w.alloc (.cells cs t)) :=
 left_ret ⟨_,rfl,Bx.new w cs t⟩ (fun b h=>by
  have:w.heap.size=b:=by cases h;rfl
  subst this
  simp) ((Below.refl _ _).alloc (Nat.le_refl _) _)
theorem heap_cells {q:Nat}:∀ (vs:List Value) (o:Nat) (w:World),(w.setCells q o vs).heap.size=w.heap.size∧(w.setCells q o vs).os=w.os∧(w.setCells q o vs).tape=w.tape∧(w.setCells q o vs).output=w.output∧∀ k,k ≠ q→(w.setCells q o vs).heap[k]?=w.heap[k]?
 | [],_,_=>⟨rfl,rfl,rfl,rfl,fun _ _=>rfl⟩
 | v :: r,o,w=>by
  rw [World.setCells]
  obtain ⟨h1,h2,h3,h4,h5⟩:=heap_cells r (o+1) (w.setCell ⟨q,o,none⟩ v)
  exact ⟨h1.trans (by simp [World.setCell]),h2,h3,h4,fun k hk=>(h5 k hk).trans (Below.heap_setCell _ _ _ _ hk)⟩
theorem left_put {R:List Rsc} {i j q:Nat} {nd nd':List Nat} {σ:Nat→Value} {w:World} {u:Value} {cs vs:List Value} (hR:R[j]?=some (boxR j nd' cs)) (hij:j ≠ i) (hq:σ j=.pointer (some ⟨q,0,none⟩)) (hb:Bx w q cs) (hl:vs.length=cs.length):Left R (putR j nd vs) i σ w u (w.setCells q 0 vs):=by
 have hu:upd σ i u j=.pointer (some ⟨q,0,none⟩):=by rw [upd_ne σ u hij];exact hq
 obtain ⟨h1,h2,h3,h4,h5⟩:=heap_cells (q:=q) vs 0 w
 refine ⟨⟨q,hu,hb.put vs hl⟩,fun b h=>.inl ⟨j,_,by simp [putR],hR,?_⟩,⟨h2,h3,h4,by omega,fun k hk=>h5 k ?_⟩⟩
 ·show boxO (σ j) b
  have h6:boxO (upd σ i u j) b:=h
  rwa [upd_ne σ u hij] at h6
 ·intro e
  subst e
  exact hk.2 j _ (by simp [putR]) hR hq
theorem keep_below {w w':World} (h:Keep (fun b=>b<w.heap.size) { w with drawn:=w.drawn+1 } w'):Below w.heap.size w w':=⟨h.os,h.tape,h.output,h.size,h.block⟩
theorem fact_of {Bs:Nat→Prop} {R:List Rsc} {σ:Nat→Value} {w:World}:∀ {l:List Nat} {j:Nat} {r:Rsc},factsOf Bs R σ w l→l.contains j=true→R[j]?=some r→r.fact σ w
 | x :: l,j,r,h,hm,hr=>by
  rcases List.mem_cons.1 (List.contains_iff_mem.1 hm) with e | e
  ·subst e
   obtain ⟨r',hr',hf,_⟩:=h.1
   rw [hr] at hr';cases hr'
   exact hf
  ·exact fact_of h.2 (List.contains_iff_mem.2 e) hr
theorem owns_of {Bs:Nat→Prop} {R:List Rsc} {σ:Nat→Value} {w:World}:∀ {l:List Nat} {j:Nat} {r:Rsc},factsOf Bs R σ w l→l.contains j=true→R[j]?=some r→∀ b,r.own σ b→b<w.heap.size∧¬ Bs b
 | x :: l,j,r,h,hm,hr=>by
  rcases List.mem_cons.1 (List.contains_iff_mem.1 hm) with e | e
  ·subst e
   obtain ⟨r',hr',_,hf⟩:=h.1
   rw [hr] at hr';cases hr'
   exact hf
  ·exact owns_of h.2 (List.contains_iff_mem.2 e) hr
theorem walk_cons {P:Program} {ops:Array Oper} {Bs:Nat→Prop} {wS:World} {R:List Rsc} {o:Oper} {l:List Oper} {r:Rsc} {rs:List Rsc} {i:Nat} {Fr:(Nat→Value)→Act}
  (h:StepAt P ops Bs wS R i o r Fr) (hr:Walk P ops Bs wS R l rs (i+1) (fun σ=>(Fr σ).put o.dst (σ i))):Walk P ops Bs wS R (o :: l) (r :: rs) i Fr:=⟨h,hr⟩
theorem walk_nil {P:Program} {ops:Array Oper} {Bs:Nat→Prop} {wS:World} {R:List Rsc} {rs:List Rsc} {i:Nat} {Fr:(Nat→Value)→Act}:Walk P ops Bs wS R [] rs i Fr:=trivial
structure Yld (P:Program) (post:Value→World→Prop) (res:Result Next):Prop where
 out:relUpon P post res
theorem yld_val {P:Program} {post:Value→World→Prop} {u:Value} {w:World} (h:post u w):Yld P post (.ok (.value u) w):=⟨h⟩
theorem yld_call {P:Program} {post:Value→World→Prop} {w:World} {f:FuncId} {args:Array Value} (h:Calls P f args w fun e w''=>∃ v,e=.returned v∧post v w''):Yld P post (.ok (.enter f args) w):=⟨h⟩
theorem yld_get {P:Program} {post:Value→World→Prop} {o:Oper} {a:Act} {w:World} (t:TypeId) (x:Operand) (ho:o.op=.load t x) {q:Nat} (hx:a.eval x=.pointer (some ⟨q,0,none⟩)) {cs:List Value} (hb:Bx w q cs) (d:TypeDesc) (hu:P.underlying t=some d) (hd:d.isRow=true)
  (hi:(P.info? t).map (·.size)=some cs.length) (h:post (.agg cs.toArray) w):Yld P post ((execOp a.eval o).run P w):=by
 refine ⟨?_⟩
 unfold execOp
 simp only [ho,hx,Instr.loadAt,Instr.sureAddr,Sem.run_bind,Sem.run_pure,Result.andThen_ok,run_loadVar_mid w q 0 t cs d hb.cl hu hd hi]
 exact h
theorem yld_put {P:Program} {post:Value→World→Prop} {o:Oper} {a:Act} {w:World} (t:TypeId) (x y:Operand) (ho:o.op=.store t x y) {q:Nat} {cells:Array Value} (hx:a.eval x=.pointer (some ⟨q,0,none⟩)) (hy:a.eval y=.agg cells) {cs:List Value} (hb:Bx w q cs)
  (hl:cells.size=cs.length) (hi:(P.info? t).map (·.size)=some cells.size) (h1:cells.toList.all (·.oneCell')=true) (h:post undef (w.setCells q 0 cells.toList)):Yld P post ((execOp a.eval o).run P w):=by
 refine ⟨?_⟩
 have hr:=run_storeAt_mid w q 0 t cells (by rw [hl];exact hb.th) hi (by rw [← Array.all_toList];exact h1)
 unfold execOp
 simp only [ho,hx,hy,Sem.run_bind,Sem.run_pure,Result.andThen_ok,hr]
 exact h
theorem step_want {P:Program} {ops:Array Oper} {Bs:Nat→Prop} {wS:World} {R:List Rsc} {o:Oper} {r:Rsc} {i:Nat} {Fr:(Nat→Value)→Act} (hg:o.guard=none)
  (h:∀ σ w,Keep Bs wS w→factsOf Bs R σ w (r.tk ++ r.nd)→∀ post:Value→World→Prop,(∀ v w',Left R r i σ w v w'→post v w')→Yld P post ((execOp (Fr σ).eval o).run P w)):StepAt P ops Bs wS R i o r Fr:=by
 intro σ w hK hF
 rw [if_pos (by unfold Region.wanted;rw [hg])]
 exact (h σ w hK hF _ (fun _ _ h=>h)).out
end Rel
namespace Rel
theorem append_where {P:Program} (w:World) (base:Nat) (t ty e:TypeId) (i:TypeInfo) (z:Value) (bytes:Nat) (ht:P.underlying t=some (.slice e)) (hi:P.info? e=some i) (hz:i.zero=some z)
  (hby:i.bytes=bytes) (hsz:0<i.size) (v:Value) (n:Nat) (xs:List Value) (hown:w.ownsRow base e i.size v n xs)
  (a:Addr) (m c:Nat) (news:List Value) (hl:news.length=m * i.size) (hnews:∀ j u,news[j]?=some u→w.cell? (a.add j)=some u) (h1:∀ u ∈ news,u.oneCell'=true)
  (h63:n+m≤maxLen) (hbytes:(n+m) * bytes≤140737488355328) {v':Value} {w':World} (hr:(Builtin.append_ #[t,t] ty #[v,.slice (some a) m c]).run P w=.ok v' w') (hm:0<m) :
  v'.ownBlock=v.ownBlock ∨ v'.ownBlock=some w.heap.size:=by
 subst hby
 have hs63:n+m≤9223372036854775807:=by simp only [maxLen] at h63;omega
 rcases hown.2 with ⟨rfl,rfl⟩ | ⟨g,cap,cur,rfl,hbg,hg,hnc,hcm,hcs,htake⟩
 ·have h2:=run_append_nil (P:=P) w t ty e i z ht hi hz a m c news hl hnews hm (by omega) (by have hb:=hbytes;simp only [Nat.zero_add] at hb;omega)
  rw [h2] at hr
  injection hr with hv _
  rw [← hv]
  exact .inr rfl
 ·by_cases hroom:n+m≤cap
  ·have h2:=run_append_room (P:=P) w t ty e i ht hi g n cap cur hg a m c news hl hnews h1 hroom (by rw [hl,hcs,← Nat.add_mul];exact Nat.mul_le_mul_right _ hroom)
   rw [h2] at hr
   injection hr with hv _
   rw [← hv]
   exact .inl rfl
  ·have h2:=run_append_grow (P:=P) w t ty e i z ht hi hz ⟨g,0,none⟩ n cap xs hown.1 (hown.cells (g:=g) rfl) a m c news hl hnews (by omega) (by omega) (growslice_fits (by omega) hbytes)
   rw [h2] at hr
   injection hr with hv _
   rw [← hv]
   exact .inr rfl
end Rel
namespace Rlw
open Rel (Keep)
theorem run_append_w {P:Program} (w:World) (base:Nat) (t ty e:TypeId) (i:TypeInfo) (z:Value) (size bytes:Nat) (ht:P.underlying t=some (.slice e)) (hi:P.info? e=some i) (hz:i.zero=some z)
  (hsize:i.size=size) (hby:i.bytes=bytes) (hzs:z.cells.size=size) (hsz:0<size)
  (v:Value) (n:Nat) (xs:List Value) (hown:w.ownsRow base e size v n xs)
  (a:Addr) (m c:Nat) (news:List Value) (hl:news.length=m * size) (hnews:∀ j u,news[j]?=some u→w.cell? (a.add j)=some u) (h1:∀ u ∈ news,u.oneCell'=true)
  (h63:n+m≤maxLen) (hbytes:(n+m) * bytes≤140737488355328) (hbase:base≤w.heap.size) :
  ∃ v' w',(Builtin.append_ #[t,t] ty #[v,.slice (some a) m c]).run P w=.ok v' w'∧w'.ownsRow base e size v' (n+m) (xs ++ news)∧w.grownBy w' v.ownBlock ∧
   (∀ k,v'.ownBlock=some k→v.ownBlock=some k ∨ (w.heap.size≤k∧k<w'.heap.size)):=by
 obtain ⟨v',w',hr,h2,h3,h4⟩:=run_append_own (P:=P) w base t ty e i z size bytes ht hi hz hsize hby hzs hsz v n xs hown a m c news hl hnews h1 h63 hbytes hbase
 refine ⟨v',w',hr,h2,h3,fun k hk=>?_⟩
 have hlt:=(World.ownsRow.lt h2 k hk).2
 subst hsize
 have hw:v'.ownBlock=v.ownBlock ∨ v'.ownBlock=some w.heap.size:=by
  by_cases hm:0<m
  ·exact Rel.append_where w base t ty e i z bytes ht hi hz hby hsz v n xs hown a m c news hl hnews h1 h63 hbytes hr hm
  ·obtain rfl:m=0:=by omega
   rcases hown.2 with ⟨hv,_⟩ | ⟨g,cap,cur,rfl,hbg,hg,hnc,hcm,hcs,htake⟩
   ·rw [h4.2 ⟨hv,rfl⟩,hv];exact .inl rfl
   ·have h5:=run_append_room (P:=P) w t ty e i ht hi g n cap cur hg a 0 c news hl hnews h1 (by omega) (by rw [hl,hcs];simp;exact Nat.mul_le_mul_right _ hnc)
    rw [h5] at hr
    injection hr with hv _
    rw [← hv]
    exact .inl rfl
 rcases hw with e1 | e1
 ·exact .inl (e1 ▸ hk)
 ·rw [e1] at hk
  cases hk
  exact .inr ⟨Nat.le_refl _,hlt⟩
theorem yld_append {P:Program} {post:Value→World→Prop} {o:Oper} {a:Act} {w:World} (s x:Operand) (t:TypeId)
  (ho:o.op=.call { callee:=.builtin .append,args:=#[s,x],argTypes:=#[t,t] })
  (base:Nat) (e:TypeId) (i:TypeInfo) (z:Value) (size bytes:Nat) (ht:P.underlying t=some (.slice e)) (hi:P.info? e=some i) (hz:i.zero=some z)
  (hsize:i.size=size) (hby:i.bytes=bytes) (hzs:z.cells.size=size) (hsz:0<size)
  (v:Value) (n:Nat) (xs:List Value) (hs:a.eval s=v) (hown:w.ownsRow base e size v n xs)
  (ad:Addr) (m c:Nat) (news:List Value) (hx:a.eval x=.slice (some ad) m c) (hl:news.length=m * size) (hnews:∀ j u,news[j]?=some u→w.cell? (ad.add j)=some u) (h1:∀ u ∈ news,u.oneCell'=true)
  (h63:n+m≤maxLen) (hbytes:(n+m) * bytes≤140737488355328) (hbase:base≤w.heap.size)
  (h:∀ v' w',w'.ownsRow base e size v' (n+m) (xs ++ news)→w.grownBy w' v.ownBlock→(∀ k,v'.ownBlock=some k→v.ownBlock=some k ∨ (w.heap.size≤k∧k<w'.heap.size))→post v' w'):Yld P post ((execOp a.eval o).run P w):=by
 refine ⟨?_⟩
 obtain ⟨v',w',hr,h2,h3,h4⟩:=run_append_w (P:=P) w base t o.type e i z size bytes ht hi hz hsize hby hzs hsz v n xs hown ad m c news hl hnews h1 h63 hbytes hbase
 unfold execOp
 simp only [ho,resolve,invoke,builtin,Sem.run_bind,Sem.run_pure,Result.andThen_ok,List.map_toArray,List.map_cons,List.map_nil,hs,hx,hr]
 exact h v' w' h2 h3 h4
theorem yld_append_none {P:Program} {post:Value→World→Prop} {o:Oper} {a:Act} {w:World} (s x:Operand) (t:TypeId)
  (ho:o.op=.call { callee:=.builtin .append,args:=#[s,x],argTypes:=#[t,t] })
  (base:Nat) (e:TypeId) (i:TypeInfo) (size:Nat) (ht:P.underlying t=some (.slice e)) (hi:P.info? e=some i)
  (v:Value) (n:Nat) (xs:List Value) (hs:a.eval s=v) (hown:w.ownsRow base e size v n xs) (hx:a.eval x=.slice none 0 0)
  (h:post v w):Yld P post ((execOp a.eval o).run P w):=by
 refine ⟨?_⟩
 have hrun:=run_append_owned_none (P:=P) (w:=w) base t o.type e i size ht hi v n xs hown
 unfold execOp
 simp only [ho,resolve,invoke,builtin,Sem.run_bind,Sem.run_pure,Result.andThen_ok,List.map_toArray,List.map_cons,List.map_nil,hs,hx,hrun]
 exact h
def kndT (i j:Nat) (nd:List Nat) (k:Knd) (B:Nat):Rsc:=⟨fun σ w=>k.own w B (σ i),fun σ w b=>k.bk w (σ i) b,[i],[j],nd⟩
theorem kndT_ok {Bs:Nat→Prop} (i j:Nat) (nd:List Nat) (k:Knd) (B:Nat):(kndT i j nd k B).Ok Bs :=
 ⟨fun σ w w' hf hk=>k.keep w w' B (σ i) hf (fun b hb=>hk.block b (.inr hb)),fun σ σ' hh w=>by
  have h1:=hh i (by simp [kndT])
  exact ⟨fun hf=>by show k.own w B (σ' i);rw [h1];exact hf,fun b hb=>by show k.bk w (σ i) b;rw [← h1];exact hb⟩⟩
theorem left_app {R:List Rsc} {i j:Nat} {nd:List Nat} {σ:Nat→Value} {w w':World} {v v':Value} {α:Type} {c:α→List Value} {K:Nat} {e:TypeId} {xs:List α} {B:Nat} {rj:Rsc}
  (hR:R[j]?=some rj) (hj:∀ b,v.ownBlock=some b→rj.own σ w b) (hf:OwnS c K e w' B v' xs) (hg:w.grownBy w' v.ownBlock) (hw:∀ k,v'.ownBlock=some k→v.ownBlock=some k ∨ (w.heap.size≤k∧k<w'.heap.size)) :
  Left R (kndT i j nd (Knd.row c K e xs) B) i σ w v' w':=by
 refine ⟨by show OwnS c K e w' B (upd σ i v' i) xs;rw [upd_self];exact hf,fun b hb=>?_,⟨hg.os,hg.tape,hg.output,hg.size,fun k hk=>hg.block k hk.1 (fun e=>?_)⟩⟩
 ·have hb':(upd σ i v' i).ownBlock=some b:=hb
  rw [upd_self] at hb'
  rcases hw b hb' with h | h
  ·exact .inl ⟨j,rj,by simp [kndT],hR,hj b h⟩
  ·exact .inr h
 ·exact hk.2 j rj (by simp [kndT]) hR (hj k e.symm)
def fillR (q j t:Nat) (nd:List Nat) (cs:Value→List Value):Rsc:=⟨fun σ w=>Bx w q (cs (σ t)),fun _ _ b=>b=q,[t],[j],nd⟩
theorem fillR_ok {Bs:Nat→Prop} (q j t:Nat) (nd:List Nat) (cs:Value→List Value):(fillR q j t nd cs).Ok Bs :=
 ⟨fun σ w w' h hk=>⟨bx_loc h (hk.block _ (.inr rfl)),fun b hb=>hb⟩,fun σ σ' hs w=>⟨fun h=>by have e:=hs t (by simp [fillR]);show Bx w q (cs (σ' t));rw [e];exact h,fun b hb=>hb⟩⟩
def iniR (q:Nat) (cs:List Value):Rsc:=⟨fun _ w=>Bx w q cs,fun _ _ b=>b=q,[],[],[]⟩
theorem iniR_ok {Bs:Nat→Prop} (q:Nat) (cs:List Value):(iniR q cs).Ok Bs :=
 ⟨fun σ w w' h hk=>⟨bx_loc h (hk.block _ (.inr rfl)),fun b hb=>hb⟩,fun σ σ' hs w=>⟨fun h=>h,fun b hb=>hb⟩⟩
theorem left_fill {R:List Rsc} {i j q t o:Nat} {nd:List Nat} {σ:Nat→Value} {w:World} {u:Value} {cs:List Value} {cf:Value→List Value} (hR:R[j]?=some (iniR q cs)) (hti:t ≠ i) (hb:Bx w q cs) (vs:List Value) (hcf:cf (σ t)=sets cs o vs):Left R (fillR q j t nd cf) i σ w u (w.setCells q o vs):=by
 obtain ⟨h1,h2,h3,h4,h5⟩:=heap_cells (q:=q) vs o w
 refine ⟨?_,fun b h=>.inl ⟨j,_,by simp [fillR],hR,h⟩,⟨h2,h3,h4,by omega,fun k hk=>h5 k ?_⟩⟩
 ·show Bx _ q (cf (upd σ i u t))
  rw [upd_ne σ u hti,hcf]
  exact Bx.sets vs o w cs hb
 ·intro e
  exact hk.2 j _ (by simp [fillR]) hR e
theorem yld_put1 {P:Program} {post:Value→World→Prop} {o:Oper} {a:Act} {w:World} (t:TypeId) (x y:Operand) (ho:o.op=.store t x y) {q j:Nat} {v:Value} (hx:a.eval x=.pointer (some ⟨q,j,none⟩)) (hy:a.eval y=v) {cs:List Value} (hb:Bx w q cs)
  (hn:(decide (j+1≤cs.length))=true) (hi:(P.info? t).map (·.size)=some 1) (h1:v.oneCell'=true) (h:post undef (w.setCells q j [v])):Yld P post ((execOp a.eval o).run P w):=by
 refine ⟨?_⟩
 unfold execOp
 simp only [ho,hx,hy,Instr.storeAt,Instr.sureAddr,Sem.run_bind,Sem.run_pure,Result.andThen_ok,run_storeVar_at w q j t v (hb.thereAt j 1 (of_decide_eq_true hn)) hi h1]
 exact h
theorem keep_drew {B:Nat→Prop} {w w':World} (h:Keep B { w with drawn:=w.drawn+1 } w'):Keep B w w':=⟨h.os,h.tape,h.output,h.size,h.block⟩
theorem bx_keepW {w w':World} {q:Nat} {cs:List Value} {P:Nat→Prop} (h:Bx w q cs) (hk:Keep P w w') (hq:P q):Bx w' q cs:=bx_loc h (hk.block q hq)
end Rlw
namespace Rlw
theorem wk {P:Program} {ops:Array Oper} {Bs:Nat→Prop} {wS:World} {R:List Rsc} {o:Oper} {l:List Oper} {r:Rsc} {rs:List Rsc} {i:Nat} {Fr:(Nat→Value)→Act} (hg:o.guard=none)
  (h:∀ σ w,Rel.Keep Bs wS w→factsOf Bs R σ w (r.tk ++ r.nd)→∀ post:Value→World→Prop,(∀ v w',Left R r i σ w v w'→post v w')→Yld P post ((execOp (Fr σ).eval o).run P w))
  (hr:Walk P ops Bs wS R l rs (i+1) (fun σ=>(Fr σ).put o.dst (σ i))):Walk P ops Bs wS R (o :: l) (r :: rs) i Fr:=walk_cons (step_want hg h) hr
theorem yv {P:Program} {post:Value→World→Prop} {R:List Rsc} {i:Nat} {nd:List Nat} {σ:Nat→Value} {w:World} {v:Value} (hp:∀ u w',Left R (valR i nd v) i σ w u w'→post u w'):Yld P post (.ok (.value v) w):=yld_val (hp _ _ left_val)
theorem fv {Bs:Nat→Prop} {R:List Rsc} {σ:Nat→Value} {w:World} {l:List Nat} (hF:factsOf Bs R σ w l) (j:Nat) {nd:List Nat} {v:Value} (hm:l.contains j=true) (hr:R[j]?=some (valR j nd v)):σ j=v:=fact_of hF hm hr
theorem ov {Bs:Nat→Prop} {l:List Rsc} {i:Nat} {nd:List Nat} {v:Value} (h:∀ r,r ∈ l→r.Ok Bs):∀ r,r ∈ valR i nd v :: l→r.Ok Bs:=List.forall_mem_cons.2 ⟨valR_ok _ _ _,h⟩
theorem oc {Bs:Nat→Prop} {l:List Rsc} {r:Rsc} (h0:r.Ok Bs) (h:∀ r,r ∈ l→r.Ok Bs):∀ x,x ∈ r :: l→x.Ok Bs:=List.forall_mem_cons.2 ⟨h0,h⟩
end Rlw
end Go.Proofs.YtojcakkkakmniaaGreatDoor
