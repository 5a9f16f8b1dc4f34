/- The model's GuestsOK. What both sides ask of guests with a time, in packed words. Results whose first part is a struct in a box. Nothing of the program is used. EndSession of the model, packed. A row that is read, held for all later worlds; a load from a row within a region. Nothing of the program is used. -/
import Derived.Test.YtnlepjcjakghcaaGreatDoorJ20
import Derived.Test.YtnlepjcjakghcaaGreatDoorJ15
import Derived.Test.YtnlepjcjakghcaaGreatDoorJ18
namespace Go.Proofs.YtnlepjcjakghcaaGreatDoor
open Go.RowKit Go.PlainAid Go.Proofs.YtnlepjcjakghcaaGreatDoor.Bt Go.Sort
set_option linter.unusedVariables false
set_option maxRecDepth 20000

end Go.Proofs.YtnlepjcjakghcaaGreatDoor

namespace Go.Proofs.YtnlepjcjakghcaaGreatDoor
open Go.RowKit Go.PlainAid Go.Proofs.YtnlepjcjakghcaaGreatDoor.Bt Go.Sort
set_option linter.unusedVariables false
set_option maxRecDepth 20000

theorem szu_of {us : List UserV} {n : Int} (h : szL wtUser us ≤ n) (hn : n ≤ 1048576) : SzU us := by
  intro u hu
  have := szL_mem wtUser_nn us u hu
  have e : wtUser u = (u.nm.size : Int) + u.sa.size + u.ha.size + u.ro.size := rfl
  rw [e] at this
  omega
theorem impl_fault (C : CfA) (c : CfV) (A : HuA) (h : HuV) (now : Int) (w : World) (rc : CfR w C c) (rh : HuR w A h) (sc : CfSz c) (sh : HuSz h) :
    Calls Tryz.prog 21 #[.agg #[.int .i64 c.ip, .int .i64 c.b, .int .i64 c.gt, .string c.gm, .string c.wm, .int .i64 c.rs, .slice C.x c.ps.length C.xc, .slice C.y c.ros.length C.yc], .agg #[.slice A.u h.us.length A.uc, .slice A.s h.ss.length A.sc, .slice A.f h.fs.length A.fc, .slice A.r h.es.length A.rc, .int .i64 h.nx], .int .i64 now] w fun e w' => e = .returned (.int .i64 (fauC (okG c h) now)) ∧ Below w.heap.size w w' := by
  refine guestsFault_any c.ip c.b c.gt c.gm c.wm c.rs C.x C.y c.ps.length C.xc c.ros.length C.yc A.u A.s A.f A.r h.us.length A.uc h.ss.length A.sc h.fs.length A.fc h.es.length A.rc h.nx now (okG c h) w (fun wx hb => ?_)
  have rc' := rc.below hb; have rh' := rh.below hb
  exact implGuests_any _ _ _ _ _ _ _ _ _ _ _ _ c.ps c.ros _ _ _ _ _ _ _ _ _ _ _ _ h.us h.ss h.fs h.es h.nx wx rc'.ps rfl rc'.ros rfl sc.szr sc.ros rh'.us rfl rh'.ss rfl rh'.fs rfl rh'.es rfl (szu_of sh.szu (Int.le_refl _)) sh.us
theorem hu_of4 {w : World} {B : Nat} {vu vs vf vr : Value} {h : HuV} (o : Own4 w B vu vs vf vr h.us h.ss h.fs h.es) : ∃ R : HuA, vu = .slice R.u h.us.length R.uc ∧ vs = .slice R.s h.ss.length R.sc ∧ vf = .slice R.f h.fs.length R.fc ∧ vr = .slice R.r h.es.length R.rc ∧ OwnHu w B R h := by
  obtain ⟨a1, c1, rfl, -⟩ := o.u.slice
  obtain ⟨a2, c2, rfl, -⟩ := o.s.slice
  obtain ⟨a3, c3, rfl, -⟩ := o.f.slice
  obtain ⟨a4, c4, rfl, -⟩ := o.r.slice
  exact ⟨⟨a1, a2, a3, a4, c1, c2, c3, c4⟩, rfl, rfl, rfl, rfl, o⟩
theorem impl_copy (A : HuA) (h : HuV) (w : World) (o : HuS w A h) :
    Calls Tryz.prog 24 #[.agg #[.slice A.u h.us.length A.uc, .slice A.s h.ss.length A.sc, .slice A.f h.fs.length A.fc, .slice A.r h.es.length A.rc, .int .i64 h.nx]] w fun e w' => ∃ R : HuA, e = .returned (.agg #[.slice R.u h.us.length R.uc, .slice R.s h.ss.length R.sc, .slice R.f h.fs.length R.fc, .slice R.r h.es.length R.rc, .int .i64 h.nx]) ∧ OwnHu w' w.heap.size R h ∧ Below w.heap.size w w' := by
  refine (copyGuests_any A.u A.s A.f A.r h.us.length A.uc h.ss.length A.sc h.fs.length A.fc h.es.length A.rc h.us h.ss h.fs h.es h.nx w o.us o.ss o.fs o.es).mono ?_
  rintro e w' ⟨vu, vs, vf, vr, h1, h2, h3⟩
  obtain ⟨R, rfl, rfl, rfl, rfl, h4⟩ := hu_of4 h2
  exact ⟨R, h1, h4, h3⟩
end Go.Proofs.YtnlepjcjakghcaaGreatDoor

namespace Go.Proofs.YtnlepjcjakghcaaGreatDoor
open Go.RowKit Go.PlainAid Go.Sort
set_option linter.unusedVariables false
theorem results_cell3 {P : Program} {fn : Func} {tmps : Array Value} {w : World} {a b c : Tmp} {t : TypeId} (hr : fn.results = #[.cell a t, .tmp b, .tmp c]) (q : Nat) (hp : tmps.getD a undef = .pointer (some ⟨q, 0, none⟩)) {v u : Value} (hv : tmps.getD b undef = v) (hu9 : tmps.getD c undef = u) {cs : List Value} (hb : Bx w q cs)
    (d : TypeDesc) (hu : P.underlying t = some d) (hd : d.isRow = true) (hi : (P.info? t).map (·.size) = some cs.length) : (results fn tmps).run P w = .ok (.tuple #[.agg cs.toArray, v, u]) w := by
  have h := run_loadVar_mid w q 0 t cs d hb.cl hu hd hi
  unfold results
  rw [hr]
  have hp' : tmps[a]?.getD undef = .pointer (some ⟨q, 0, none⟩) := by rw [← Array.getD_eq_getD_getElem?]; exact hp
  have hv' : tmps[b]?.getD undef = v := by rw [← Array.getD_eq_getD_getElem?]; exact hv
  have hu' : tmps[c]?.getD undef = u := by rw [← Array.getD_eq_getD_getElem?]; exact hu9
  simp [hp', hv', hu', asAddr, h]
end Go.Proofs.YtnlepjcjakghcaaGreatDoor

namespace Go.Proofs.YtnlepjcjakghcaaGreatDoor
open Go.RowKit Go.PlainAid Go.Proofs.YtnlepjcjakghcaaGreatDoor.Bt Go.Sort
set_option linter.unusedVariables false
set_option maxRecDepth 20000

end Go.Proofs.YtnlepjcjakghcaaGreatDoor

namespace Go.Proofs.YtnlepjcjakghcaaGreatDoor
open Go.RowKit Go.PlainAid Go.Sort
set_option linter.unusedVariables false
theorem rw_hold {α : Type} {c : α → List Value} {ok : α → Prop} {K k : Nat} {w : World} {a : Option Addr} {xs : List α} {x : α} (h : Rw (FR c ok) K w a xs) (hx : xs[k]? = some x) :
    ∃ b off, a = some ⟨b, off, none⟩ ∧ b < w.heap.size ∧ ∀ wx, Below w.heap.size w wx → ∀ j v, (c x)[j]? = some v → wx.cell? ⟨b, off + k * K + j, none⟩ = some v := by
  obtain ⟨b, off, vs, e, hb, -, -, -⟩ := h.at FR.kp (Below.refl _ _) hx
  refine ⟨b, off, e, hb, fun wx hbx j v hv => ?_⟩
  obtain ⟨b', off', vs', e', -, -, hR, hc⟩ := h.at FR.kp hbx hx
  rw [e] at e'
  cases e'
  obtain ⟨rfl, -⟩ := hR
  exact hc j v hv
theorem rw_holdR {k : Nat} {w : World} {a : Option Addr} {xs : List RoleV} {x : RoleV} (h : Rw (RoR 0) 5 w a xs) (hx : xs[k]? = some x) :
    ∃ b off ra rc, a = some ⟨b, off, none⟩ ∧ b < w.heap.size ∧ ∀ wx, Below w.heap.size w wx → ∀ j v, ([.string x.nm, .slice ra x.rs.length rc, .int .i64 x.q, .int .i64 x.m, .int .i64 x.i] : List Value)[j]? = some v → wx.cell? ⟨b, off + k * 5 + j, none⟩ = some v := by
  obtain ⟨b, off, vs, e, hb, -, ⟨ra, rc, hv0, -⟩, hc0⟩ := h.at (RoR.kp 0) (Below.refl _ _) hx
  refine ⟨b, off, ra, rc, e, hb, fun wx hbx j v hv => ?_⟩
  subst hv0
  have := hc0 j v hv
  exact (hbx.cell (p := ⟨b, off + k * 5 + j, none⟩) hb).trans this
/-- The boxes of a config, of guests and of an answer, as they were handed in. -/
abbrev LgPB (C : CfA) (c : CfV) (A : HuA) (h : HuV) (w W : World) : Prop := Bx W w.heap.size [.int .i64 c.ip, .int .i64 c.b, .int .i64 c.gt, .string c.gm, .string c.wm, .int .i64 c.rs, .slice C.x c.ps.length C.xc, .slice C.y c.ros.length C.yc] ∧ Bx W (w.heap.size + 1) [.slice A.u h.us.length A.uc, .slice A.s h.ss.length A.sc, .slice A.f h.fs.length A.fc, .slice A.r h.es.length A.rc, .int .i64 h.nx] ∧ Bx W (w.heap.size + 1 + 1) [.slice none 0 0, .slice none 0 0, .slice none 0 0, .slice none 0 0, .int .i64 0] ∧ Below w.heap.size w W
namespace Rlw
theorem yld_getR {P : Program} {post : Value → World → Prop} {o : Oper} {a : Act} {w : World} (t : TypeId) (x : Operand) (ho : o.op = .load t x) {q off : Nat} (hx : a.eval x = .pointer (some ⟨q, off, none⟩)) {cs : List Value} (hb : w.rangeAt q off cs) (d : TypeDesc) (hu : P.underlying t = some d) (hd : d.isRow = true)
    (hi : (P.info? t).map (·.size) = some cs.length) (h : post (.agg cs.toArray) w) : Yld P post ((execOp a.eval o).run P w) := by
  refine ⟨?_⟩
  unfold execOp
  simp only [ho, hx, Instr.loadAt, Instr.sureAddr, Sem.run_bind, Sem.run_pure, Result.andThen_ok, run_loadVar_mid w q off t cs d hb hu hd hi]
  exact h
end Rlw
end Go.Proofs.YtnlepjcjakghcaaGreatDoor
