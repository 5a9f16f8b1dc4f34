/- Append and slices.Clone of users, sessions, fails and records. -/
import Derived.Test.YtojcakkkakmniaaGreatDoorJ4
namespace Go.Proofs.YtojcakkkakmniaaGreatDoor
open Go.RowKit Go.PlainAid Go.Proofs.YtojcakkkakmniaaGreatDoor.Bt Go.Sort
set_option linter.unusedVariables false
set_option maxRecDepth 20000
theorem oneUser (ys:List UserV):∀ u ∈ flatS uvG ys,u.oneCell'=true:=by
 intro u hu
 unfold flatS at hu
 rw [List.mem_flatMap] at hu
 obtain ⟨f,_,hf⟩:=hu
 simp [uvG] at hf
 rcases hf with rfl | rfl | rfl | rfl | rfl | rfl <;> rfl
theorem wpl_User (w:World) {ops:Array Oper} {rest:List Oper} {o:Oper} {a:Act} {Q:Exit→Act→World→Prop} (hgd:o.guard=none) (s x:Operand)
  (ho:o.op=.call { callee:=.builtin .append,args:=#[s,x],argTypes:=#[36,36] })
  (B:Nat) (v:Value) (L ys:List UserV) (hs:a.eval s=v) (hown:OwnS uvG 6 84 w B v L)
  (g off m c:Nat) (hm:ys.length=m) (hx:a.eval x=.slice (some ⟨g,off,none⟩) m c) (hc:∀ j u,(flatS uvG ys)[j]?=some u→w.cell? ⟨g,off+j,none⟩=some u)
  (hlen:L.length+m≤2000000) (hB:B≤w.heap.size)
  (h:∀ v' w',Hid (OwnS uvG 6 84 w' B v' (L ++ ys)∧Below B w w')→w.grownBy w' v.ownBlock→wpList Tryz.prog ops Q rest (a.put o.dst v') w'):wpList Tryz.prog ops Q (o :: rest) a w:=by
 obtain ⟨i0,hi,hz0,hz1,hz2⟩:=info_parts infoUser
 refine wpList_append_own w hgd s x 36 ho B 84 i0 (.agg #[.string ⟨#[]⟩,.string ⟨#[]⟩,.string ⟨#[]⟩,.string ⟨#[]⟩,.int .i64 0,.int .i64 0]) 6 80 Tryz.underlying36 hi hz0 hz1 hz2 rfl (by decide) v L.length (flatS uvG L) hs hown ⟨g,off,none⟩ m c (flatS uvG ys) hx (by rw [flatS_len uvG_len,hm]) ?_
  (oneUser ys) (by unfold maxLen;omega) (by omega) hB ?_
 ·intro j u hu
  rw [addn]
  exact hc j u hu
 ·intro v' w' h2 h3 _
  subst hm
  exact h v' w' (hown.join hB h2 h3) h3
theorem wpl_UserS (w:World) {ops:Array Oper} {rest:List Oper} {o:Oper} {a:Act} {Q:Exit→Act→World→Prop} (hgd:o.guard=none) (s x:Operand)
  (ho:o.op=.call { callee:=.builtin .append,args:=#[s,x],argTypes:=#[36,36] })
  (B:Nat) (v:Value) (L ys:List UserV) (hs:a.eval s=v) (hown:OwnS uvG 6 84 w B v L)
  (p:Option Addr) (m c:Nat) (hrw:Rw UsR 6 w p ys) (hm:ys.length=m) (hsp:∀ q,p=some q→q.spot=none) (hnil:p=none→m=0∧c=0) (hx:a.eval x=.slice p m c)
  (hlen:L.length+m≤2000000) (hB:B≤w.heap.size)
  (h:∀ v' w',Hid (OwnS uvG 6 84 w' B v' (L ++ ys)∧Below B w w')→w.grownBy w' v.ownBlock→wpList Tryz.prog ops Q rest (a.put o.dst v') w'):wpList Tryz.prog ops Q (o :: rest) a w:=by
 cases p with
 | some q =>
  obtain ⟨b,off,pt⟩:=q
  obtain rfl:pt=none:=hsp _ rfl
  have h':Rw (FR uvG UsRok) 6 w (some ⟨b,off,none⟩) ys:=hrw
  exact wpl_User w hgd s x ho B v L ys hs hown b off m c hm hx (flat_rw h' uvG_len (by omega)) hlen hB h
 | none =>
  obtain ⟨rfl,rfl⟩:=hnil rfl
  obtain rfl:ys=[]:=List.length_eq_zero_iff.1 hm
  obtain ⟨i0,hi,hz0,hz1,hz2⟩:=info_parts infoUser
  refine wpList_append_own_none hgd s x 36 ho B 84 i0 6 Tryz.underlying36 hi v L.length (flatS uvG L) hs hown hx (h v w ?_ (grown_refl w _))
  rw [List.append_nil]
  exact ⟨hown,Below.refl _ _⟩
theorem cloneUser_some (b off len cap:Nat) (xs:List UserV) (w:World) (h:Rw UsR 6 w (some ⟨b,off,none⟩) xs) (hl:xs.length=len) (hm:len≤1048576) (hc:len≤cap) :
  Calls Tryz.prog 80 #[.slice (some ⟨b,off,none⟩) len cap] w fun e w'=>∃ v,e=.returned v∧OwnS uvG 6 84 w' w.heap.size v xs∧Below w.heap.size w w':=by
 have h':Rw (FR uvG UsRok) 6 w (some ⟨b,off,none⟩) xs:=h
 have RC:Hid (∀ j u,(flatS uvG xs)[j]?=some u→w.cell? ⟨b,off+j,none⟩=some u):=flat_rw h' uvG_len (by omega)
 have q22:(binOp .eql 36 (.slice (some ⟨b,off,none⟩) len cap) (.slice none 0 0)).run Tryz.prog w=.ok (.bool false) w:=Lib.run_eql_slice_nil w _ _ (some ⟨b,off,none⟩) len cap 0 0 Tryz.underlying36
 clear h h'
 go_enter Tryz.func80,Tryz.ntmps80
 go_wp2_with (at_builtin;refine wpl_User _ rfl (.tmp 5) (.tmp 6) rfl w.heap.size _ [] xs rfl (OwnS.lit w _ (Nat.le_refl _)) b off len cap hl rfl (fun j u hu=>acell (RC.out j u hu) _) (by simp;omega) (by simp) ?_;intro v' w3 Y _)
 have Y2:Hid (OwnS uvG 6 84 w3 w.heap.size v' xs∧Below w.heap.size w w3):=⟨Y.out.1,((Below.refl _ _).alloc (Nat.le_refl _) _).trans Y.out.2⟩
 clear Y
 go_wp2
 go_ret
 exact ⟨_,rfl,Y2.out.1,Y2.out.2⟩
theorem cloneUser_any (a:Option Addr) (len cap:Nat) (xs:List UserV) (w:World) (h:Rw UsR 6 w a xs) (hl:xs.length=len) (hm:len≤1048576) (hc:len≤cap) (ha:∀ p,a=some p→p.spot=none) (hn:a=none→len=0∧cap=0) :
  Calls Tryz.prog 80 #[.slice a len cap] w fun e w'=>∃ v,e=.returned v∧OwnS uvG 6 84 w' w.heap.size v xs∧Below w.heap.size w w':=by
 cases a with
 | some p =>
  obtain ⟨b,off,pt⟩:=p
  obtain rfl:pt=none:=ha _ rfl
  exact cloneUser_some b off len cap xs w h hl hm hc
 | none =>
  obtain ⟨rfl,rfl⟩:=hn rfl
  obtain rfl:xs=[]:=List.length_eq_zero_iff.1 hl
  have q22:(binOp .eql 36 (.slice none 0 0) (.slice none 0 0)).run Tryz.prog w=.ok (.bool true) w:=Lib.run_eql_slice_nil w _ _ none 0 0 0 0 Tryz.underlying36
  go_enter Tryz.func80,Tryz.ntmps80
  go_wp2
  go_ret
  exact ⟨_,rfl,OwnS.nil _ _,Below.refl _ _⟩
theorem oneSession (ys:List SessV):∀ u ∈ flatS svG ys,u.oneCell'=true:=by
 intro u hu
 unfold flatS at hu
 rw [List.mem_flatMap] at hu
 obtain ⟨f,_,hf⟩:=hu
 simp [svG] at hf
 rcases hf with rfl | rfl | rfl | rfl | rfl | rfl | rfl | rfl | rfl | rfl <;> rfl
theorem wpl_Session (w:World) {ops:Array Oper} {rest:List Oper} {o:Oper} {a:Act} {Q:Exit→Act→World→Prop} (hgd:o.guard=none) (s x:Operand)
  (ho:o.op=.call { callee:=.builtin .append,args:=#[s,x],argTypes:=#[37,37] })
  (B:Nat) (v:Value) (L ys:List SessV) (hs:a.eval s=v) (hown:OwnS svG 10 80 w B v L)
  (g off m c:Nat) (hm:ys.length=m) (hx:a.eval x=.slice (some ⟨g,off,none⟩) m c) (hc:∀ j u,(flatS svG ys)[j]?=some u→w.cell? ⟨g,off+j,none⟩=some u)
  (hlen:L.length+m≤2000000) (hB:B≤w.heap.size)
  (h:∀ v' w',Hid (OwnS svG 10 80 w' B v' (L ++ ys)∧Below B w w')→w.grownBy w' v.ownBlock→wpList Tryz.prog ops Q rest (a.put o.dst v') w'):wpList Tryz.prog ops Q (o :: rest) a w:=by
 obtain ⟨i0,hi,hz0,hz1,hz2⟩:=info_parts infoSession
 refine wpList_append_own w hgd s x 37 ho B 80 i0 (.agg #[.int .i64 0,.int .i64 0,.string ⟨#[]⟩,.int .i64 0,.int .i64 0,.int .i64 0,.int .i64 0,.int .i64 0,.int .i64 0,.int .i64 0]) 10 88 Tryz.underlying37 hi hz0 hz1 hz2 rfl (by decide) v L.length (flatS svG L) hs hown ⟨g,off,none⟩ m c (flatS svG ys) hx (by rw [flatS_len svG_len,hm]) ?_
  (oneSession ys) (by unfold maxLen;omega) (by omega) hB ?_
 ·intro j u hu
  rw [addn]
  exact hc j u hu
 ·intro v' w' h2 h3 _
  subst hm
  exact h v' w' (hown.join hB h2 h3) h3
theorem wpl_SessionS (w:World) {ops:Array Oper} {rest:List Oper} {o:Oper} {a:Act} {Q:Exit→Act→World→Prop} (hgd:o.guard=none) (s x:Operand)
  (ho:o.op=.call { callee:=.builtin .append,args:=#[s,x],argTypes:=#[37,37] })
  (B:Nat) (v:Value) (L ys:List SessV) (hs:a.eval s=v) (hown:OwnS svG 10 80 w B v L)
  (p:Option Addr) (m c:Nat) (hrw:Rw SeR 10 w p ys) (hm:ys.length=m) (hsp:∀ q,p=some q→q.spot=none) (hnil:p=none→m=0∧c=0) (hx:a.eval x=.slice p m c)
  (hlen:L.length+m≤2000000) (hB:B≤w.heap.size)
  (h:∀ v' w',Hid (OwnS svG 10 80 w' B v' (L ++ ys)∧Below B w w')→w.grownBy w' v.ownBlock→wpList Tryz.prog ops Q rest (a.put o.dst v') w'):wpList Tryz.prog ops Q (o :: rest) a w:=by
 cases p with
 | some q =>
  obtain ⟨b,off,pt⟩:=q
  obtain rfl:pt=none:=hsp _ rfl
  have h':Rw (FR svG SeRok) 10 w (some ⟨b,off,none⟩) ys:=hrw
  exact wpl_Session w hgd s x ho B v L ys hs hown b off m c hm hx (flat_rw h' svG_len (by omega)) hlen hB h
 | none =>
  obtain ⟨rfl,rfl⟩:=hnil rfl
  obtain rfl:ys=[]:=List.length_eq_zero_iff.1 hm
  obtain ⟨i0,hi,hz0,hz1,hz2⟩:=info_parts infoSession
  refine wpList_append_own_none hgd s x 37 ho B 80 i0 10 Tryz.underlying37 hi v L.length (flatS svG L) hs hown hx (h v w ?_ (grown_refl w _))
  rw [List.append_nil]
  exact ⟨hown,Below.refl _ _⟩
theorem cloneSession_some (b off len cap:Nat) (xs:List SessV) (w:World) (h:Rw SeR 10 w (some ⟨b,off,none⟩) xs) (hl:xs.length=len) (hm:len≤1048576) (hc:len≤cap) :
  Calls Tryz.prog 81 #[.slice (some ⟨b,off,none⟩) len cap] w fun e w'=>∃ v,e=.returned v∧OwnS svG 10 80 w' w.heap.size v xs∧Below w.heap.size w w':=by
 have h':Rw (FR svG SeRok) 10 w (some ⟨b,off,none⟩) xs:=h
 have RC:Hid (∀ j u,(flatS svG xs)[j]?=some u→w.cell? ⟨b,off+j,none⟩=some u):=flat_rw h' svG_len (by omega)
 have q22:(binOp .eql 37 (.slice (some ⟨b,off,none⟩) len cap) (.slice none 0 0)).run Tryz.prog w=.ok (.bool false) w:=Lib.run_eql_slice_nil w _ _ (some ⟨b,off,none⟩) len cap 0 0 Tryz.underlying37
 clear h h'
 go_enter Tryz.func81,Tryz.ntmps81
 go_wp2_with (at_builtin;refine wpl_Session _ rfl (.tmp 5) (.tmp 6) rfl w.heap.size _ [] xs rfl (OwnS.lit w _ (Nat.le_refl _)) b off len cap hl rfl (fun j u hu=>acell (RC.out j u hu) _) (by simp;omega) (by simp) ?_;intro v' w3 Y _)
 have Y2:Hid (OwnS svG 10 80 w3 w.heap.size v' xs∧Below w.heap.size w w3):=⟨Y.out.1,((Below.refl _ _).alloc (Nat.le_refl _) _).trans Y.out.2⟩
 clear Y
 go_wp2
 go_ret
 exact ⟨_,rfl,Y2.out.1,Y2.out.2⟩
theorem cloneSession_any (a:Option Addr) (len cap:Nat) (xs:List SessV) (w:World) (h:Rw SeR 10 w a xs) (hl:xs.length=len) (hm:len≤1048576) (hc:len≤cap) (ha:∀ p,a=some p→p.spot=none) (hn:a=none→len=0∧cap=0) :
  Calls Tryz.prog 81 #[.slice a len cap] w fun e w'=>∃ v,e=.returned v∧OwnS svG 10 80 w' w.heap.size v xs∧Below w.heap.size w w':=by
 cases a with
 | some p =>
  obtain ⟨b,off,pt⟩:=p
  obtain rfl:pt=none:=ha _ rfl
  exact cloneSession_some b off len cap xs w h hl hm hc
 | none =>
  obtain ⟨rfl,rfl⟩:=hn rfl
  obtain rfl:xs=[]:=List.length_eq_zero_iff.1 hl
  have q22:(binOp .eql 37 (.slice none 0 0) (.slice none 0 0)).run Tryz.prog w=.ok (.bool true) w:=Lib.run_eql_slice_nil w _ _ none 0 0 0 0 Tryz.underlying37
  go_enter Tryz.func81,Tryz.ntmps81
  go_wp2
  go_ret
  exact ⟨_,rfl,OwnS.nil _ _,Below.refl _ _⟩
theorem oneFail (ys:List FailV):∀ u ∈ flatS fvG ys,u.oneCell'=true:=by
 intro u hu
 unfold flatS at hu
 rw [List.mem_flatMap] at hu
 obtain ⟨f,_,hf⟩:=hu
 simp [fvG] at hf
 rcases hf with rfl | rfl | rfl <;> rfl
theorem wpl_Fail (w:World) {ops:Array Oper} {rest:List Oper} {o:Oper} {a:Act} {Q:Exit→Act→World→Prop} (hgd:o.guard=none) (s x:Operand)
  (ho:o.op=.call { callee:=.builtin .append,args:=#[s,x],argTypes:=#[38,38] })
  (B:Nat) (v:Value) (L ys:List FailV) (hs:a.eval s=v) (hown:OwnS fvG 3 115 w B v L)
  (g off m c:Nat) (hm:ys.length=m) (hx:a.eval x=.slice (some ⟨g,off,none⟩) m c) (hc:∀ j u,(flatS fvG ys)[j]?=some u→w.cell? ⟨g,off+j,none⟩=some u)
  (hlen:L.length+m≤2000000) (hB:B≤w.heap.size)
  (h:∀ v' w',Hid (OwnS fvG 3 115 w' B v' (L ++ ys)∧Below B w w')→w.grownBy w' v.ownBlock→wpList Tryz.prog ops Q rest (a.put o.dst v') w'):wpList Tryz.prog ops Q (o :: rest) a w:=by
 obtain ⟨i0,hi,hz0,hz1,hz2⟩:=info_parts infoFail
 refine wpList_append_own w hgd s x 38 ho B 115 i0 (.agg #[.string ⟨#[]⟩,.int .i64 0,.int .i64 0]) 3 32 Tryz.underlying38 hi hz0 hz1 hz2 rfl (by decide) v L.length (flatS fvG L) hs hown ⟨g,off,none⟩ m c (flatS fvG ys) hx (by rw [flatS_len fvG_len,hm]) ?_
  (oneFail ys) (by unfold maxLen;omega) (by omega) hB ?_
 ·intro j u hu
  rw [addn]
  exact hc j u hu
 ·intro v' w' h2 h3 _
  subst hm
  exact h v' w' (hown.join hB h2 h3) h3
theorem wpl_FailS (w:World) {ops:Array Oper} {rest:List Oper} {o:Oper} {a:Act} {Q:Exit→Act→World→Prop} (hgd:o.guard=none) (s x:Operand)
  (ho:o.op=.call { callee:=.builtin .append,args:=#[s,x],argTypes:=#[38,38] })
  (B:Nat) (v:Value) (L ys:List FailV) (hs:a.eval s=v) (hown:OwnS fvG 3 115 w B v L)
  (p:Option Addr) (m c:Nat) (hrw:Rw FaR 3 w p ys) (hm:ys.length=m) (hsp:∀ q,p=some q→q.spot=none) (hnil:p=none→m=0∧c=0) (hx:a.eval x=.slice p m c)
  (hlen:L.length+m≤2000000) (hB:B≤w.heap.size)
  (h:∀ v' w',Hid (OwnS fvG 3 115 w' B v' (L ++ ys)∧Below B w w')→w.grownBy w' v.ownBlock→wpList Tryz.prog ops Q rest (a.put o.dst v') w'):wpList Tryz.prog ops Q (o :: rest) a w:=by
 cases p with
 | some q =>
  obtain ⟨b,off,pt⟩:=q
  obtain rfl:pt=none:=hsp _ rfl
  have h':Rw (FR fvG FaRok) 3 w (some ⟨b,off,none⟩) ys:=hrw
  exact wpl_Fail w hgd s x ho B v L ys hs hown b off m c hm hx (flat_rw h' fvG_len (by omega)) hlen hB h
 | none =>
  obtain ⟨rfl,rfl⟩:=hnil rfl
  obtain rfl:ys=[]:=List.length_eq_zero_iff.1 hm
  obtain ⟨i0,hi,hz0,hz1,hz2⟩:=info_parts infoFail
  refine wpList_append_own_none hgd s x 38 ho B 115 i0 3 Tryz.underlying38 hi v L.length (flatS fvG L) hs hown hx (h v w ?_ (grown_refl w _))
  rw [List.append_nil]
  exact ⟨hown,Below.refl _ _⟩
theorem cloneFail_some (b off len cap:Nat) (xs:List FailV) (w:World) (h:Rw FaR 3 w (some ⟨b,off,none⟩) xs) (hl:xs.length=len) (hm:len≤1048576) (hc:len≤cap) :
  Calls Tryz.prog 82 #[.slice (some ⟨b,off,none⟩) len cap] w fun e w'=>∃ v,e=.returned v∧OwnS fvG 3 115 w' w.heap.size v xs∧Below w.heap.size w w':=by
 have h':Rw (FR fvG FaRok) 3 w (some ⟨b,off,none⟩) xs:=h
 have RC:Hid (∀ j u,(flatS fvG xs)[j]?=some u→w.cell? ⟨b,off+j,none⟩=some u):=flat_rw h' fvG_len (by omega)
 have q22:(binOp .eql 38 (.slice (some ⟨b,off,none⟩) len cap) (.slice none 0 0)).run Tryz.prog w=.ok (.bool false) w:=Lib.run_eql_slice_nil w _ _ (some ⟨b,off,none⟩) len cap 0 0 Tryz.underlying38
 clear h h'
 go_enter Tryz.func82,Tryz.ntmps82
 go_wp2_with (at_builtin;refine wpl_Fail _ rfl (.tmp 5) (.tmp 6) rfl w.heap.size _ [] xs rfl (OwnS.lit w _ (Nat.le_refl _)) b off len cap hl rfl (fun j u hu=>acell (RC.out j u hu) _) (by simp;omega) (by simp) ?_;intro v' w3 Y _)
 have Y2:Hid (OwnS fvG 3 115 w3 w.heap.size v' xs∧Below w.heap.size w w3):=⟨Y.out.1,((Below.refl _ _).alloc (Nat.le_refl _) _).trans Y.out.2⟩
 clear Y
 go_wp2
 go_ret
 exact ⟨_,rfl,Y2.out.1,Y2.out.2⟩
theorem cloneFail_any (a:Option Addr) (len cap:Nat) (xs:List FailV) (w:World) (h:Rw FaR 3 w a xs) (hl:xs.length=len) (hm:len≤1048576) (hc:len≤cap) (ha:∀ p,a=some p→p.spot=none) (hn:a=none→len=0∧cap=0) :
  Calls Tryz.prog 82 #[.slice a len cap] w fun e w'=>∃ v,e=.returned v∧OwnS fvG 3 115 w' w.heap.size v xs∧Below w.heap.size w w':=by
 cases a with
 | some p =>
  obtain ⟨b,off,pt⟩:=p
  obtain rfl:pt=none:=ha _ rfl
  exact cloneFail_some b off len cap xs w h hl hm hc
 | none =>
  obtain ⟨rfl,rfl⟩:=hn rfl
  obtain rfl:xs=[]:=List.length_eq_zero_iff.1 hl
  have q22:(binOp .eql 38 (.slice none 0 0) (.slice none 0 0)).run Tryz.prog w=.ok (.bool true) w:=Lib.run_eql_slice_nil w _ _ none 0 0 0 0 Tryz.underlying38
  go_enter Tryz.func82,Tryz.ntmps82
  go_wp2
  go_ret
  exact ⟨_,rfl,OwnS.nil _ _,Below.refl _ _⟩
theorem oneRecord (ys:List RecV):∀ u ∈ flatS evG ys,u.oneCell'=true:=by
 intro u hu
 unfold flatS at hu
 rw [List.mem_flatMap] at hu
 obtain ⟨f,_,hf⟩:=hu
 simp [evG] at hf
 rcases hf with rfl | rfl | rfl | rfl | rfl <;> rfl
theorem wpl_Record (w:World) {ops:Array Oper} {rest:List Oper} {o:Oper} {a:Act} {Q:Exit→Act→World→Prop} (hgd:o.guard=none) (s x:Operand)
  (ho:o.op=.call { callee:=.builtin .append,args:=#[s,x],argTypes:=#[39,39] })
  (B:Nat) (v:Value) (L ys:List RecV) (hs:a.eval s=v) (hown:OwnS evG 5 86 w B v L)
  (g off m c:Nat) (hm:ys.length=m) (hx:a.eval x=.slice (some ⟨g,off,none⟩) m c) (hc:∀ j u,(flatS evG ys)[j]?=some u→w.cell? ⟨g,off+j,none⟩=some u)
  (hlen:L.length+m≤2000000) (hB:B≤w.heap.size)
  (h:∀ v' w',Hid (OwnS evG 5 86 w' B v' (L ++ ys)∧Below B w w')→w.grownBy w' v.ownBlock→wpList Tryz.prog ops Q rest (a.put o.dst v') w'):wpList Tryz.prog ops Q (o :: rest) a w:=by
 obtain ⟨i0,hi,hz0,hz1,hz2⟩:=info_parts infoRecord
 refine wpList_append_own w hgd s x 39 ho B 86 i0 (.agg #[.int .i64 0,.int .i64 0,.int .i64 0,.int .i64 0,.bool false]) 5 40 Tryz.underlying39 hi hz0 hz1 hz2 rfl (by decide) v L.length (flatS evG L) hs hown ⟨g,off,none⟩ m c (flatS evG ys) hx (by rw [flatS_len evG_len,hm]) ?_
  (oneRecord ys) (by unfold maxLen;omega) (by omega) hB ?_
 ·intro j u hu
  rw [addn]
  exact hc j u hu
 ·intro v' w' h2 h3 _
  subst hm
  exact h v' w' (hown.join hB h2 h3) h3
theorem wpl_RecordS (w:World) {ops:Array Oper} {rest:List Oper} {o:Oper} {a:Act} {Q:Exit→Act→World→Prop} (hgd:o.guard=none) (s x:Operand)
  (ho:o.op=.call { callee:=.builtin .append,args:=#[s,x],argTypes:=#[39,39] })
  (B:Nat) (v:Value) (L ys:List RecV) (hs:a.eval s=v) (hown:OwnS evG 5 86 w B v L)
  (p:Option Addr) (m c:Nat) (hrw:Rw ReR 5 w p ys) (hm:ys.length=m) (hsp:∀ q,p=some q→q.spot=none) (hnil:p=none→m=0∧c=0) (hx:a.eval x=.slice p m c)
  (hlen:L.length+m≤2000000) (hB:B≤w.heap.size)
  (h:∀ v' w',Hid (OwnS evG 5 86 w' B v' (L ++ ys)∧Below B w w')→w.grownBy w' v.ownBlock→wpList Tryz.prog ops Q rest (a.put o.dst v') w'):wpList Tryz.prog ops Q (o :: rest) a w:=by
 cases p with
 | some q =>
  obtain ⟨b,off,pt⟩:=q
  obtain rfl:pt=none:=hsp _ rfl
  have h':Rw (FR evG ReRok) 5 w (some ⟨b,off,none⟩) ys:=hrw
  exact wpl_Record w hgd s x ho B v L ys hs hown b off m c hm hx (flat_rw h' evG_len (by omega)) hlen hB h
 | none =>
  obtain ⟨rfl,rfl⟩:=hnil rfl
  obtain rfl:ys=[]:=List.length_eq_zero_iff.1 hm
  obtain ⟨i0,hi,hz0,hz1,hz2⟩:=info_parts infoRecord
  refine wpList_append_own_none hgd s x 39 ho B 86 i0 5 Tryz.underlying39 hi v L.length (flatS evG L) hs hown hx (h v w ?_ (grown_refl w _))
  rw [List.append_nil]
  exact ⟨hown,Below.refl _ _⟩
theorem cloneRecord_some (b off len cap:Nat) (xs:List RecV) (w:World) (h:Rw ReR 5 w (some ⟨b,off,none⟩) xs) (hl:xs.length=len) (hm:len≤1048576) (hc:len≤cap) :
  Calls Tryz.prog 83 #[.slice (some ⟨b,off,none⟩) len cap] w fun e w'=>∃ v,e=.returned v∧OwnS evG 5 86 w' w.heap.size v xs∧Below w.heap.size w w':=by
 have h':Rw (FR evG ReRok) 5 w (some ⟨b,off,none⟩) xs:=h
 have RC:Hid (∀ j u,(flatS evG xs)[j]?=some u→w.cell? ⟨b,off+j,none⟩=some u):=flat_rw h' evG_len (by omega)
 have q22:(binOp .eql 39 (.slice (some ⟨b,off,none⟩) len cap) (.slice none 0 0)).run Tryz.prog w=.ok (.bool false) w:=Lib.run_eql_slice_nil w _ _ (some ⟨b,off,none⟩) len cap 0 0 Tryz.underlying39
 clear h h'
 go_enter Tryz.func83,Tryz.ntmps83
 go_wp2_with (at_builtin;refine wpl_Record _ rfl (.tmp 5) (.tmp 6) rfl w.heap.size _ [] xs rfl (OwnS.lit w _ (Nat.le_refl _)) b off len cap hl rfl (fun j u hu=>acell (RC.out j u hu) _) (by simp;omega) (by simp) ?_;intro v' w3 Y _)
 have Y2:Hid (OwnS evG 5 86 w3 w.heap.size v' xs∧Below w.heap.size w w3):=⟨Y.out.1,((Below.refl _ _).alloc (Nat.le_refl _) _).trans Y.out.2⟩
 clear Y
 go_wp2
 go_ret
 exact ⟨_,rfl,Y2.out.1,Y2.out.2⟩
theorem cloneRecord_any (a:Option Addr) (len cap:Nat) (xs:List RecV) (w:World) (h:Rw ReR 5 w a xs) (hl:xs.length=len) (hm:len≤1048576) (hc:len≤cap) (ha:∀ p,a=some p→p.spot=none) (hn:a=none→len=0∧cap=0) :
  Calls Tryz.prog 83 #[.slice a len cap] w fun e w'=>∃ v,e=.returned v∧OwnS evG 5 86 w' w.heap.size v xs∧Below w.heap.size w w':=by
 cases a with
 | some p =>
  obtain ⟨b,off,pt⟩:=p
  obtain rfl:pt=none:=ha _ rfl
  exact cloneRecord_some b off len cap xs w h hl hm hc
 | none =>
  obtain ⟨rfl,rfl⟩:=hn rfl
  obtain rfl:xs=[]:=List.length_eq_zero_iff.1 hl
  have q22:(binOp .eql 39 (.slice none 0 0) (.slice none 0 0)).run Tryz.prog w=.ok (.bool true) w:=Lib.run_eql_slice_nil w _ _ none 0 0 0 0 Tryz.underlying39
  go_enter Tryz.func83,Tryz.ntmps83
  go_wp2
  go_ret
  exact ⟨_,rfl,OwnS.nil _ _,Below.refl _ _⟩
end Go.Proofs.YtojcakkkakmniaaGreatDoor
