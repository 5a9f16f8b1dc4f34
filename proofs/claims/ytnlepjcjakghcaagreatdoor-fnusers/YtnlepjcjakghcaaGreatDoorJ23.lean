/- Appends that tell where the row lies; guests of one's own, changed in a part; the boxes of a login. Boxes: a struct read whole by an operation with a guard that lets it run. Nothing of the program is used. -/
import Derived.Test.YtnlepjcjakghcaaGreatDoorJ17
namespace Go.Proofs.YtnlepjcjakghcaaGreatDoor
open Go.RowKit Go.PlainAid Go.Proofs.YtnlepjcjakghcaaGreatDoor.Bt Go.Sort
set_option linter.unusedVariables false
set_option maxRecDepth 20000
theorem wpl_SessionW (w : World) {ops : Array Oper} {rest : List Oper} {o : Oper} {a : Act} {Q : Exit → Act → World → Prop} (hgd : o.guard = none) (s x : Operand)
    (ho : o.op = .call { callee := .builtin .append, args := #[s, x], argTypes := #[38, 38] })
    (B : Nat) (v : Value) (L ys : List SessV) (hs : a.eval s = v) (hown : OwnS svG 10 48 w B v L)
    (g off m c : Nat) (hm : ys.length = m) (hx : a.eval x = .slice (some ⟨g, off, none⟩) m c) (hc : ∀ j u, (flatS svG ys)[j]? = some u → w.cell? ⟨g, off + j, none⟩ = some u)
    (hlen : L.length + m ≤ 2000000) (hB : B ≤ w.heap.size)
    (h : ∀ v' w', OwnS svG 10 48 w' B v' (L ++ ys) → w.grownBy w' v.ownBlock → (∀ k, v'.ownBlock = some k → v.ownBlock = some k ∨ w.heap.size ≤ k) → wpList Tryz.prog ops Q rest (a.put o.dst v') w') : wpList Tryz.prog ops Q (o :: rest) a w := by
  obtain ⟨i0, hi, hz0, hz1, hz2⟩ := info_parts infoSession
  obtain ⟨v', w', hr, h2, h3, h4⟩ := Rlw.run_append_w (P := Tryz.prog) w B 38 o.type 48 i0 (.agg #[.int .i64 0, .int .i64 0, .string ⟨#[]⟩, .int .i64 0, .int .i64 0, .int .i64 0, .int .i64 0, .int .i64 0, .int .i64 0, .int .i64 0]) 10 88 Tryz.underlying38 hi hz0 hz1 hz2 rfl (by decide) v L.length (flatS svG L) hown ⟨g, off, none⟩ m c (flatS svG ys) (by rw [flatS_len svG_len, hm]) (fun j u hu => by rw [addn]; exact hc j u hu) (oneSession ys) (by unfold maxLen; omega) (by omega) hB
  refine wpList_plain hgd fun _ hK => ?_
  unfold Oper.wp execOp
  simp only [ho, resolve, invoke, builtin, Sem.run_bind, Sem.run_pure, Result.andThen_ok, List.map_toArray, List.map_cons, List.map_nil, hs, hx, hr]
  subst hm
  exact hK _ _ (h v' w' (hown.join hB h2 h3).1 h3 (fun k hk => (h4 k hk).imp id (fun h => h.1)))
theorem wpl_RecordW (w : World) {ops : Array Oper} {rest : List Oper} {o : Oper} {a : Act} {Q : Exit → Act → World → Prop} (hgd : o.guard = none) (s x : Operand)
    (ho : o.op = .call { callee := .builtin .append, args := #[s, x], argTypes := #[40, 40] })
    (B : Nat) (v : Value) (L ys : List RecV) (hs : a.eval s = v) (hown : OwnS evG 5 67 w B v L)
    (g off m c : Nat) (hm : ys.length = m) (hx : a.eval x = .slice (some ⟨g, off, none⟩) m c) (hc : ∀ j u, (flatS evG ys)[j]? = some u → w.cell? ⟨g, off + j, none⟩ = some u)
    (hlen : L.length + m ≤ 2000000) (hB : B ≤ w.heap.size)
    (h : ∀ v' w', OwnS evG 5 67 w' B v' (L ++ ys) → w.grownBy w' v.ownBlock → (∀ k, v'.ownBlock = some k → v.ownBlock = some k ∨ w.heap.size ≤ k) → wpList Tryz.prog ops Q rest (a.put o.dst v') w') : wpList Tryz.prog ops Q (o :: rest) a w := by
  obtain ⟨i0, hi, hz0, hz1, hz2⟩ := info_parts infoRecord
  obtain ⟨v', w', hr, h2, h3, h4⟩ := Rlw.run_append_w (P := Tryz.prog) w B 40 o.type 67 i0 (.agg #[.int .i64 0, .int .i64 0, .int .i64 0, .int .i64 0, .bool false]) 5 40 Tryz.underlying40 hi hz0 hz1 hz2 rfl (by decide) v L.length (flatS evG L) hown ⟨g, off, none⟩ m c (flatS evG ys) (by rw [flatS_len evG_len, hm]) (fun j u hu => by rw [addn]; exact hc j u hu) (oneRecord ys) (by unfold maxLen; omega) (by omega) hB
  refine wpList_plain hgd fun _ hK => ?_
  unfold Oper.wp execOp
  simp only [ho, resolve, invoke, builtin, Sem.run_bind, Sem.run_pure, Result.andThen_ok, List.map_toArray, List.map_cons, List.map_nil, hs, hx, hr]
  subst hm
  exact hK _ _ (h v' w' (hown.join hB h2 h3).1 h3 (fun k hk => (h4 k hk).imp id (fun h => h.1)))
section
variable {w w' : World} {B : Nat} {vu vs vf vr v' : Value} {us us' : List UserV} {ss ss' : List SessV} {fs fs' : List FailV} {rs rs' : List RecV}
theorem ap_row {v v' : Value} (h : Ap v v') : v.ownBlock = none ∨ v.ownBlock ≠ v'.ownBlock := by
  cases hq : v.ownBlock with
  | none => exact .inl rfl
  | some k => exact .inr (fun e => h k hq e.symm)
theorem ap_new {v vo vn : Value} {n : Nat} (h : Ap v vo) (hv : ∀ k, v.ownBlock = some k → k < n) (hw : ∀ k, vn.ownBlock = some k → vo.ownBlock = some k ∨ n ≤ k) : Ap v vn := by
  intro k h1 h2
  rcases hw k h2 with h3 | h3
  · exact h k h1 h3
  · have := hv k h1
    omega
theorem Own4.appS (h : Own4 w B vu vs vf vr us ss fs rs) (o : OwnS svG 10 48 w' B v' ss') (hg : w.grownBy w' vs.ownBlock) (hw : ∀ k, v'.ownBlock = some k → vs.ownBlock = some k ∨ w.heap.size ≤ k) : Own4 w' B vu v' vf vr us ss' fs rs :=
  ⟨h.u.kept hg (ap_row h.us_), o, h.f.kept hg (ap_row h.sf.symm), h.r.kept hg (ap_row h.sr.symm), ap_new h.us_ (fun k e => (h.u.lt k e).2) hw, h.uf, h.ur, (ap_new h.sf.symm (fun k e => (h.f.lt k e).2) hw).symm, (ap_new h.sr.symm (fun k e => (h.r.lt k e).2) hw).symm, h.fr⟩
theorem Own4.appR (h : Own4 w B vu vs vf vr us ss fs rs) (o : OwnS evG 5 67 w' B v' rs') (hg : w.grownBy w' vr.ownBlock) (hw : ∀ k, v'.ownBlock = some k → vr.ownBlock = some k ∨ w.heap.size ≤ k) : Own4 w' B vu vs vf v' us ss fs rs' :=
  ⟨h.u.kept hg (ap_row h.ur), h.s.kept hg (ap_row h.sr), h.f.kept hg (ap_row h.fr), o, h.us_, h.uf, ap_new h.ur (fun k e => (h.u.lt k e).2) hw, h.sf, ap_new h.sr (fun k e => (h.s.lt k e).2) hw, ap_new h.fr (fun k e => (h.f.lt k e).2) hw⟩
theorem Own4.newF (h : Own4 w B vu vs vf vr us ss fs rs) (hb : Below w.heap.size w w') (o : OwnS fvG 3 95 w' w.heap.size v' fs') (hB : B ≤ w.heap.size) : Own4 w' B vu vs v' vr us ss fs' rs :=
  ⟨h.u.now hb, h.s.now hb, o.lower hB, h.r.now hb, h.us_, ap_new h.uf (fun k e => (h.u.lt k e).2) (fun k e => .inr (o.lt k e).1), h.ur, ap_new h.sf (fun k e => (h.s.lt k e).2) (fun k e => .inr (o.lt k e).1), h.sr, (ap_new h.fr.symm (fun k e => (h.r.lt k e).2) (fun k e => .inr (o.lt k e).1)).symm⟩
theorem Own4.same (h : Own4 w B vu vs vf vr us ss fs rs) (hk : ∀ b, (vu.ownBlock = some b ∨ vs.ownBlock = some b ∨ vf.ownBlock = some b ∨ vr.ownBlock = some b) → w'.heap[b]? = w.heap[b]?) : Own4 w' B vu vs vf vr us ss fs rs :=
  ⟨Rlw.own_loc h.u (fun k e => hk k (.inl e)), Rlw.own_loc h.s (fun k e => hk k (.inr (.inl e))), Rlw.own_loc h.f (fun k e => hk k (.inr (.inr (.inl e)))), Rlw.own_loc h.r (fun k e => hk k (.inr (.inr (.inr e)))), h.us_, h.uf, h.ur, h.sf, h.sr, h.fr⟩
theorem Own4.bl (h : Own4 w B vu vs vf vr us ss fs rs) : ∀ b, (vu.ownBlock = some b ∨ vs.ownBlock = some b ∨ vf.ownBlock = some b ∨ vr.ownBlock = some b) → B ≤ b ∧ b < w.heap.size := by
  rintro b (e | e | e | e)
  · exact h.u.lt b e
  · exact h.s.lt b e
  · exact h.f.lt b e
  · exact h.r.lt b e
/-- A box of block q is none of the rows' blocks, when those come from B on, or lie below another one. -/
def Off (q : Nat) (vu vs vf vr : Value) : Prop := ∀ b, (vu.ownBlock = some b ∨ vs.ownBlock = some b ∨ vf.ownBlock = some b ∨ vr.ownBlock = some b) → b ≠ q
theorem Own4.put (h : Own4 w B vu vs vf vr us ss fs rs) {q : Nat} (hq : Off q vu vs vf vr) (o : Nat) (l : List Value) : Own4 (w.setCells q o l) B vu vs vf vr us ss fs rs :=
  h.same (fun b hb => (heap_cellsA _ _ _).2 b (hq b hb))
theorem Own4.offLow (h : Own4 w B vu vs vf vr us ss fs rs) {q : Nat} (hq : q < B) : Off q vu vs vf vr := fun b hb => by have := h.bl b hb; omega
theorem Own4.offHigh (h : Own4 w B vu vs vf vr us ss fs rs) {q : Nat} (hq : w.heap.size ≤ q) : Off q vu vs vf vr := fun b hb => by have := h.bl b hb; omega
theorem Off.appS {q n : Nat} (h : Off q vu vs vf vr) (hw : ∀ k, v'.ownBlock = some k → vs.ownBlock = some k ∨ n ≤ k) (hq : q < n) : Off q vu v' vf vr := by
  rintro b (e | e | e | e)
  · exact h b (.inl e)
  · rcases hw b e with e | e
    · exact h b (.inr (.inl e))
    · omega
  · exact h b (.inr (.inr (.inl e)))
  · exact h b (.inr (.inr (.inr e)))
theorem Off.appR {q n : Nat} (h : Off q vu vs vf vr) (hw : ∀ k, v'.ownBlock = some k → vr.ownBlock = some k ∨ n ≤ k) (hq : q < n) : Off q vu vs vf v' := by
  rintro b (e | e | e | e)
  · exact h b (.inl e)
  · exact h b (.inr (.inl e))
  · exact h b (.inr (.inr (.inl e)))
  · rcases hw b e with e | e
    · exact h b (.inr (.inr (.inr e)))
    · omega
theorem Off.newF {q n : Nat} (h : Off q vu vs vf vr) (hw : ∀ k, v'.ownBlock = some k → n ≤ k) (hq : q < n) : Off q vu vs v' vr := by
  rintro b (e | e | e | e)
  · exact h b (.inl e)
  · exact h b (.inr (.inl e))
  · have := hw b e
    omega
  · exact h b (.inr (.inr (.inr e)))
theorem Own4.putU {g n cap : Nat} (h : Own4 w B (.slice (some ⟨g, 0, none⟩) n cap) vs vf vr us ss fs rs) (o : OwnS uvG 6 25 w' B (.slice (some ⟨g, 0, none⟩) n cap) us') (hg : w.grownBy w' (some g)) : Own4 w' B (.slice (some ⟨g, 0, none⟩) n cap) vs vf vr us' ss fs rs :=
  ⟨o, h.s.kept hg (ap_row h.us_.symm), h.f.kept hg (ap_row h.uf.symm), h.r.kept hg (ap_row h.ur.symm), h.us_, h.uf, h.ur, h.sf, h.sr, h.fr⟩
theorem bx_grown {q : Nat} {cs : List Value} {r : Option Nat} (h : Bx w q cs) (hg : w.grownBy w' r) (hq : q < w.heap.size) (hr : r ≠ some q) : Bx w' q cs := Rlw.bx_loc h (hg.block q hq (fun e => hr e.symm))
theorem bx_lt {q : Nat} {v : Value} {cs : List Value} (h : Bx w q (v :: cs)) : q < w.heap.size := World.block_lt_of_cell? w ⟨q, 0, none⟩ (h.cell 0 rfl)
end
end Go.Proofs.YtnlepjcjakghcaaGreatDoor

namespace Go.Proofs.YtnlepjcjakghcaaGreatDoor
open Go.RowKit Go.PlainAid Go.Sort
set_option linter.unusedVariables false
theorem wpl_getW {P : Program} {ops : Array Oper} {rest : List Oper} {op : Oper} {a : Act} {w : World} {Q : Exit → Act → World → Prop} (t : TypeId) (hw : Region.wanted op (yielded ops a.tmps) = true) (x : Operand) (ho : op.op = .load t x)
    (q : Nat) (hx : a.eval x = .pointer (some ⟨q, 0, none⟩)) {cs : List Value} (h0 : Bx w q cs) (d : TypeDesc) (hu : P.underlying t = some d) (hd : d.isRow = true) (hi : (P.info? t).map (·.size) = some cs.length)
    (h : wpList P ops Q rest (a.put op.dst (.agg cs.toArray)) w) : wpList P ops Q (op :: rest) a w := by
  unfold wpList
  rw [if_pos hw]
  left
  unfold Oper.wp execOp
  simp only [ho, hx, Instr.loadAt, Instr.sureAddr, Sem.run_bind, Sem.run_pure, Result.andThen_ok, run_loadVar_mid w q 0 t cs d h0.cl hu hd hi]
  exact h
end Go.Proofs.YtnlepjcjakghcaaGreatDoor
