/- Maps from ends (a struct of a number and two structs of two numbers) to places. -/
import Derived.Test.YtlebblmlbhnppaaGreatProg
import Derived.Test.YtlebblmlbhnppaaGreatRws
import Derived.Maps.Own
import Derived.Maps.OwnSet
import Derived.Maps.Views
import Derived.DeepKeys4
namespace Go.Proofs.YtlebblmlbhnppaaGreat
open Go.RowKit Go.PlainAid Go.Maps Go.WideMaps
set_option linter.unusedVariables false
set_option maxRecDepth 20000

structure EnV where
  pr : Int
  ai : Int
  ap : Int
  bi : Int
  bp : Int
deriving DecidableEq
def enG (e : EnV) : Value := .agg #[.int .i64 e.pr, .int .i64 e.ai, .int .i64 e.ap, .int .i64 e.bi, .int .i64 e.bp]
def EnOk (e : EnV) : Prop := (Lit.int .i64 e.pr).wf = true ∧ (Lit.int .i64 e.ai).wf = true ∧ (Lit.int .i64 e.ap).wf = true ∧ (Lit.int .i64 e.bi).wf = true ∧ (Lit.int .i64 e.bp).wf = true
def enT (e : EnV) : EnV := ⟨e.pr, e.bi, e.bp, e.ai, e.ap⟩
theorem enT_ok {e : EnV} (h : EnOk e) : EnOk (enT e) := ⟨h.1, h.2.2.2.1, h.2.2.2.2, h.2.1, h.2.2.1⟩
def enL (e : EnV) : Lit := .string (keyBytes [.int .i64 e.pr, .int .i64 e.ai, .int .i64 e.ap, .int .i64 e.bi, .int .i64 e.bp])
theorem enLaid : laidOutB Tryz.prog = true := by kernel_rfl
theorem enRow : (274 : TypeId) < Tryz.prog.types.size := of_decide_eq_true (by kernel_rfl)
theorem enWide : (match Tryz.prog.underlying 274 with | some (.array _ _) | some (.struct _) => true | _ => false) = true := by kernel_rfl
theorem keyE : Keyed Tryz.prog 274 := Keyed.of_law (deep_law_laid enLaid (m := 3) (by omega) enRow (by kernel_rfl) enWide)
theorem enType : Tryz.prog.keyType 274 = true := by kernel_rfl
theorem enC0 : Tryz.prog.cellsOf 274 = 5 := by kernel_rfl
theorem enC1 : Tryz.prog.cellsOf 272 = 2 := by kernel_rfl
theorem enC2 : Tryz.prog.cellsOf 3 = 1 := by kernel_rfl
theorem enFuel : ∃ m, Tryz.prog.types.size + 1 = m + 3 := ⟨Tryz.prog.types.size - 2, by have h : (274 : Nat) < Tryz.prog.types.size := enRow; omega⟩
theorem enKey (e : EnV) (h : EnOk e) : keyOf Tryz.prog 274 (enG e) = some (enL e) := by
  obtain ⟨m, hm⟩ := enFuel
  obtain ⟨p, a, b, c, d⟩ := e
  obtain ⟨h1, h2, h3, h4, h5⟩ := h
  dsimp only at h1 h2 h3 h4 h5
  unfold keyOf enG enL
  rw [hm]
  simp [Tryz.underlying274, enType, Value.formed, Value.cells, enC0, Program.keyLits, Tryz.underlying272, enC1, Tryz.underlying3, enC2, h1, h2, h3, h4, h5]
  rw [if_pos, if_pos]
  · rfl
  all_goals (intro i hi; match i, hi with | 0, _ => simp | 1, _ => simp)
theorem enL_inj {e f : EnV} (he : EnOk e) (hf : EnOk f) (h : enL e = enL f) : e = f := by
  have := keyE.inj (enKey e he) (by rw [h]; exact enKey f hf)
  obtain ⟨p, a, b, c, d⟩ := e
  obtain ⟨p', a', b', c', d'⟩ := f
  simpa [enG] using this

/-- Block b is a map of at most n entries that says M. -/
def OwnM (w : World) (b n : Nat) (M : EnV → Option Int) : Prop :=
  ∃ D : DataW Unit, w.ownsMap Tryz.prog 274 (plainElem Tryz.prog 3) b n D ∧ ∀ e, EnOk e → has D (enL e) = (M e).isSome ∧ ∀ v, M e = some v → (Lit.int .i64 v).wf = true ∧ ∀ z, D.atKey (enL e) z = .lit (.int .i64 v)
def upM (M : EnV → Option Int) (e : EnV) (v : Option Int) : EnV → Option Int := fun f => if f = e then v else M f
theorem OwnM.made (w : World) : OwnM (w.alloc (.map #[] 0)) w.heap.size 0 (fun _ => none) :=
  ⟨.map [], World.ownsMap_made w _ _ _, fun e _ => ⟨by simp [has_eq], fun v h => by cases h⟩⟩
theorem OwnM.lt {w : World} {b n : Nat} {M : EnV → Option Int} (h : OwnM w b n M) : b < w.heap.size := by
  obtain ⟨D, h1, _⟩ := h
  exact h1.lt
theorem OwnM.alloc {w : World} {b n : Nat} {M : EnV → Option Int} (h : OwnM w b n M) (o : Obj) : OwnM (w.alloc o) b n M := by
  obtain ⟨D, h1, h2⟩ := h
  exact ⟨D, h1.alloc o, h2⟩
theorem OwnM.kept {w w' : World} {b n : Nat} {M : EnV → Option Int} {r : Option Nat} (h : OwnM w b n M) (hg : w.grownBy w' r) (hne : some b ≠ r) : OwnM w' b n M := by
  obtain ⟨D, h1, h2⟩ := h
  exact ⟨D, h1.kept hg hne, h2⟩
theorem OwnM.below {w w' : World} {b n m : Nat} {M : EnV → Option Int} (h : OwnM w b n M) (hb : Below m w w') (hm : b < m) : OwnM w' b n M := by
  obtain ⟨D, ⟨es, clock, h1, h3⟩, h2⟩ := h
  exact ⟨D, ⟨es, clock, by rw [hb.block b hm]; exact h1, h3⟩, h2⟩
theorem OwnM.now {w w' : World} {b n : Nat} {M : EnV → Option Int} (h : OwnM w b n M) (hb : Below w.heap.size w w') : OwnM w' b n M := h.below hb h.lt
theorem zeroInt9 (w : World) : (zeroValue 3).run Tryz.prog w = .ok (.int .i64 0) w := by kernel_rfl
/-- 'v, ok := m[e]'. -/
theorem OwnM.look {w : World} {b n : Nat} {M : EnV → Option Int} (h : OwnM w b n M) {e : EnV} (he : EnOk e) :
    (Instr.lookup 276 (.map (some b)) (enG e) true).run Tryz.prog w = .ok (.tuple #[.int .i64 ((M e).getD 0), .bool (M e).isSome]) w := by
  obtain ⟨D, h1, h2⟩ := h
  have hw0 : (Lit.int .i64 0).wf = true := by decide
  obtain ⟨v, ps, hrun, hv⟩ := h1.look_ok keyE Tryz.underlying276 (zeroInt9 w) (plainElem_int Tryz.underlying3 hw0) (enKey e he)
  obtain ⟨c, rfl, hc, hwc⟩ := plainElem_int_inv Tryz.underlying3 hv
  simp only [Prod.mk.injEq] at hc
  have hk := h2 e he
  rw [hrun, hk.1]
  cases hM : M e with
  | none =>
    rw [hM] at hk
    rw [atKey_of_not_has hk.1] at hc
    have := hc.1
    simp at this
    subst this
    rfl
  | some x =>
    have := (hk.2 x hM).2 (.lit (.int .i64 0))
    rw [this] at hc
    have := hc.1
    simp at this
    subst this
    rfl
/-- 'm[e] = v'. -/
theorem OwnM.update {w : World} {b n : Nat} {M : EnV → Option Int} (h : OwnM w b n M) {e : EnV} (he : EnOk e) (v : Int) (hv : (Lit.int .i64 v).wf = true) (hn : n < maxLen) :
    ∃ w', (Instr.mapUpdate 276 (.map (some b)) (enG e) (.int .i64 v)).run Tryz.prog w = .ok () w' ∧ OwnM w' b (n + 1) (upM M e (some v)) ∧ w.grownBy w' (some b) := by
  obtain ⟨D, h1, h2⟩ := h
  obtain ⟨w', hrun, o1, g1⟩ := h1.update keyE Tryz.underlying276 hn (enKey e he) (plainElem_int Tryz.underlying3 hv)
  refine ⟨w', hrun, ⟨_, o1, fun f hf => ?_⟩, g1⟩
  unfold upM
  by_cases hfe : f = e
  · subst hfe
    rw [if_pos rfl]
    refine ⟨has_put_same h1.isMap (keyE.key (enKey f hf)) _, fun x hx => ?_⟩
    cases hx
    exact ⟨hv, fun z => atKey_put_same h1.isMap (keyE.key (enKey f hf)) _ _⟩
  · rw [if_neg hfe]
    have hne : enL f ≠ enL e := fun h => hfe (enL_inj hf he h)
    refine ⟨(has_put_other hne _).trans (h2 f hf).1, fun x hx => ⟨((h2 f hf).2 x hx).1, fun z => (atKey_put_other hne _ _).trans (((h2 f hf).2 x hx).2 z)⟩⟩
/-- 'delete(m, e)'. -/
theorem OwnM.drop {w : World} {b n : Nat} {M : EnV → Option Int} (h : OwnM w b n M) {e : EnV} (he : EnOk e) (ty : TypeId) :
    ∃ w', (Builtin.delete_ #[276, 274] ty #[.map (some b), enG e]).run Tryz.prog w = .ok (.tuple #[]) w' ∧ OwnM w' b n (upM M e none) ∧ w.grownBy w' (some b) := by
  obtain ⟨D, h1, h2⟩ := h
  obtain ⟨w', hrun, o1, g1⟩ := h1.drop keyE Tryz.underlying276 (enKey e he) ty
  refine ⟨w', hrun, ⟨_, o1, fun f hf => ?_⟩, g1.grown⟩
  unfold upM
  by_cases hfe : f = e
  · subst hfe
    rw [if_pos rfl]
    exact ⟨has_del_same, fun x hx => by cases hx⟩
  · rw [if_neg hfe]
    have hne : enL f ≠ enL e := fun h => hfe (enL_inj hf he h)
    refine ⟨(has_del_other hne).trans (h2 f hf).1, fun x hx => ⟨((h2 f hf).2 x hx).1, fun z => (atKey_del_other hne _).trans (((h2 f hf).2 x hx).2 z)⟩⟩
end Go.Proofs.YtlebblmlbhnppaaGreat
