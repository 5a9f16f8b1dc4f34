/- Maps from ends (a struct of a number and two structs of two numbers) to places. Flows that are right, found by their ends: pure. Numbers that go round, of both sides. MacText, the program's and the model's: two hexadecimal digits a byte, colons between; the walk of its law. The program's macOf and macAt: a mac as an array of six, and back. Right connections and right segments, of both sides. Right gateways, as pure words. Nothing of the program is used. Records that hold: by all pairs, and by a map from an Id to the last record of it. Nothing of the program is imported. Marks of what records tell, as pure words. Nothing of the program is used. Rows of one's own of flat structs: the last fields of an element stored; a row joined. Nothing of the program is imported. Filters, as pure words. Nothing of the program is used. A number's digits: the model's l00Digits at every number from 0 on. markText of the laws. Lists of users, sessions, fails and records marked and held. -/
import Derived.Test.YtlebblmlbhnppaaGreatProg
import Derived.Test.YtlebblmlbhnppaaGreatRws
import Derived.Maps.Own
import Derived.Maps.OwnSet
import Derived.Maps.Views
import Derived.DeepKeys4
import Derived.Test.YtlebblmlbhnppaaGreatJ31
import Derived.Test.YtlebblmlbhnppaaGreatTests
import Derived.Test.YtlebblmlbhnppaaGreatSmallA
import Derived.Test.YtlebblmlbhnppaaGreatBits
import Derived.Test.YtlebblmlbhnppaaGreatGrw
import Derived.Test.YtlebblmlbhnppaaGreatCopy
import Derived.Test.YtlebblmlbhnppaaGreatOwn
import Derived.Deep.RegionHeld3
import Derived.Deep.AppendLies
import Derived.Laws.BitsAllLaws
import Derived.Test.YtlebblmlbhnppaaGreatPart
import Derived.Handy
import Derived.Laws.Cover3
import Derived.Test.YtlebblmlbhnppaaGreatKeeps
import Derived.Test.YtlebblmlbhnppaaGreatGokF
import Derived.Test.YtlebblmlbhnppaaGreatGuV
import Derived.Test.YtlebblmlbhnppaaGreatJ34
import Derived.Lib.ItoaNum
namespace Go.Proofs.YtlebblmlbhnppaaGreat
open Go.RowKit Go.PlainAid Go.Maps Go.WideMaps
set_option linter.unusedVariables false
set_option maxRecDepth 20000

structure EnV where
  pr : Int
  ai : Int
  ap : Int
  bi : Int
  bp : Int
deriving DecidableEq
def enG (e : EnV) : Value := .agg #[.int .i64 e.pr, .int .i64 e.ai, .int .i64 e.ap, .int .i64 e.bi, .int .i64 e.bp]
def EnOk (e : EnV) : Prop := (Lit.int .i64 e.pr).wf = true ∧ (Lit.int .i64 e.ai).wf = true ∧ (Lit.int .i64 e.ap).wf = true ∧ (Lit.int .i64 e.bi).wf = true ∧ (Lit.int .i64 e.bp).wf = true
def enT (e : EnV) : EnV := ⟨e.pr, e.bi, e.bp, e.ai, e.ap⟩
theorem enT_ok {e : EnV} (h : EnOk e) : EnOk (enT e) := ⟨h.1, h.2.2.2.1, h.2.2.2.2, h.2.1, h.2.2.1⟩
def enL (e : EnV) : Lit := .string (keyBytes [.int .i64 e.pr, .int .i64 e.ai, .int .i64 e.ap, .int .i64 e.bi, .int .i64 e.bp])
theorem enLaid : laidOutB Tryz.prog = true := by kernel_rfl
theorem enRow : (274 : TypeId) < Tryz.prog.types.size := of_decide_eq_true (by kernel_rfl)
theorem enWide : (match Tryz.prog.underlying 274 with | some (.array _ _) | some (.struct _) => true | _ => false) = true := by kernel_rfl
theorem keyE : Keyed Tryz.prog 274 := Keyed.of_law (deep_law_laid enLaid (m := 3) (by omega) enRow (by kernel_rfl) enWide)
theorem enType : Tryz.prog.keyType 274 = true := by kernel_rfl
theorem enC0 : Tryz.prog.cellsOf 274 = 5 := by kernel_rfl
theorem enC1 : Tryz.prog.cellsOf 272 = 2 := by kernel_rfl
theorem enC2 : Tryz.prog.cellsOf 3 = 1 := by kernel_rfl
theorem enFuel : ∃ m, Tryz.prog.types.size + 1 = m + 3 := ⟨Tryz.prog.types.size - 2, by have h : (274 : Nat) < Tryz.prog.types.size := enRow; omega⟩
theorem enKey (e : EnV) (h : EnOk e) : keyOf Tryz.prog 274 (enG e) = some (enL e) := by
  obtain ⟨m, hm⟩ := enFuel
  obtain ⟨p, a, b, c, d⟩ := e
  obtain ⟨h1, h2, h3, h4, h5⟩ := h
  dsimp only at h1 h2 h3 h4 h5
  unfold keyOf enG enL
  rw [hm]
  simp [Tryz.underlying274, enType, Value.formed, Value.cells, enC0, Program.keyLits, Tryz.underlying272, enC1, Tryz.underlying3, enC2, h1, h2, h3, h4, h5]
  rw [if_pos, if_pos]
  · rfl
  all_goals (intro i hi; match i, hi with | 0, _ => simp | 1, _ => simp)
theorem enL_inj {e f : EnV} (he : EnOk e) (hf : EnOk f) (h : enL e = enL f) : e = f := by
  have := keyE.inj (enKey e he) (by rw [h]; exact enKey f hf)
  obtain ⟨p, a, b, c, d⟩ := e
  obtain ⟨p', a', b', c', d'⟩ := f
  simpa [enG] using this

/-- Block b is a map of at most n entries that says M. -/
def OwnM (w : World) (b n : Nat) (M : EnV → Option Int) : Prop :=
  ∃ D : DataW Unit, w.ownsMap Tryz.prog 274 (plainElem Tryz.prog 3) b n D ∧ ∀ e, EnOk e → has D (enL e) = (M e).isSome ∧ ∀ v, M e = some v → (Lit.int .i64 v).wf = true ∧ ∀ z, D.atKey (enL e) z = .lit (.int .i64 v)
def upM (M : EnV → Option Int) (e : EnV) (v : Option Int) : EnV → Option Int := fun f => if f = e then v else M f
theorem OwnM.made (w : World) : OwnM (w.alloc (.map #[] 0)) w.heap.size 0 (fun _ => none) :=
  ⟨.map [], World.ownsMap_made w _ _ _, fun e _ => ⟨by simp [has_eq], fun v h => by cases h⟩⟩
theorem OwnM.lt {w : World} {b n : Nat} {M : EnV → Option Int} (h : OwnM w b n M) : b < w.heap.size := by
  obtain ⟨D, h1, _⟩ := h
  exact h1.lt
theorem OwnM.alloc {w : World} {b n : Nat} {M : EnV → Option Int} (h : OwnM w b n M) (o : Obj) : OwnM (w.alloc o) b n M := by
  obtain ⟨D, h1, h2⟩ := h
  exact ⟨D, h1.alloc o, h2⟩
theorem OwnM.kept {w w' : World} {b n : Nat} {M : EnV → Option Int} {r : Option Nat} (h : OwnM w b n M) (hg : w.grownBy w' r) (hne : some b ≠ r) : OwnM w' b n M := by
  obtain ⟨D, h1, h2⟩ := h
  exact ⟨D, h1.kept hg hne, h2⟩
theorem OwnM.below {w w' : World} {b n m : Nat} {M : EnV → Option Int} (h : OwnM w b n M) (hb : Below m w w') (hm : b < m) : OwnM w' b n M := by
  obtain ⟨D, ⟨es, clock, h1, h3⟩, h2⟩ := h
  exact ⟨D, ⟨es, clock, by rw [hb.block b hm]; exact h1, h3⟩, h2⟩
theorem OwnM.now {w w' : World} {b n : Nat} {M : EnV → Option Int} (h : OwnM w b n M) (hb : Below w.heap.size w w') : OwnM w' b n M := h.below hb h.lt
theorem zeroInt9 (w : World) : (zeroValue 3).run Tryz.prog w = .ok (.int .i64 0) w := by kernel_rfl
/-- 'v, ok := m[e]'. -/
theorem OwnM.look {w : World} {b n : Nat} {M : EnV → Option Int} (h : OwnM w b n M) {e : EnV} (he : EnOk e) :
    (Instr.lookup 276 (.map (some b)) (enG e) true).run Tryz.prog w = .ok (.tuple #[.int .i64 ((M e).getD 0), .bool (M e).isSome]) w := by
  obtain ⟨D, h1, h2⟩ := h
  have hw0 : (Lit.int .i64 0).wf = true := by decide
  obtain ⟨v, ps, hrun, hv⟩ := h1.look_ok keyE Tryz.underlying276 (zeroInt9 w) (plainElem_int Tryz.underlying3 hw0) (enKey e he)
  obtain ⟨c, rfl, hc, hwc⟩ := plainElem_int_inv Tryz.underlying3 hv
  simp only [Prod.mk.injEq] at hc
  have hk := h2 e he
  rw [hrun, hk.1]
  cases hM : M e with
  | none =>
    rw [hM] at hk
    rw [atKey_of_not_has hk.1] at hc
    have := hc.1
    simp at this
    subst this
    rfl
  | some x =>
    have := (hk.2 x hM).2 (.lit (.int .i64 0))
    rw [this] at hc
    have := hc.1
    simp at this
    subst this
    rfl
/-- 'm[e] = v'. -/
theorem OwnM.update {w : World} {b n : Nat} {M : EnV → Option Int} (h : OwnM w b n M) {e : EnV} (he : EnOk e) (v : Int) (hv : (Lit.int .i64 v).wf = true) (hn : n < maxLen) :
    ∃ w', (Instr.mapUpdate 276 (.map (some b)) (enG e) (.int .i64 v)).run Tryz.prog w = .ok () w' ∧ OwnM w' b (n + 1) (upM M e (some v)) ∧ w.grownBy w' (some b) := by
  obtain ⟨D, h1, h2⟩ := h
  obtain ⟨w', hrun, o1, g1⟩ := h1.update keyE Tryz.underlying276 hn (enKey e he) (plainElem_int Tryz.underlying3 hv)
  refine ⟨w', hrun, ⟨_, o1, fun f hf => ?_⟩, g1⟩
  unfold upM
  by_cases hfe : f = e
  · subst hfe
    rw [if_pos rfl]
    refine ⟨has_put_same h1.isMap (keyE.key (enKey f hf)) _, fun x hx => ?_⟩
    cases hx
    exact ⟨hv, fun z => atKey_put_same h1.isMap (keyE.key (enKey f hf)) _ _⟩
  · rw [if_neg hfe]
    have hne : enL f ≠ enL e := fun h => hfe (enL_inj hf he h)
    refine ⟨(has_put_other hne _).trans (h2 f hf).1, fun x hx => ⟨((h2 f hf).2 x hx).1, fun z => (atKey_put_other hne _ _).trans (((h2 f hf).2 x hx).2 z)⟩⟩
/-- 'delete(m, e)'. -/
theorem OwnM.drop {w : World} {b n : Nat} {M : EnV → Option Int} (h : OwnM w b n M) {e : EnV} (he : EnOk e) (ty : TypeId) :
    ∃ w', (Builtin.delete_ #[276, 274] ty #[.map (some b), enG e]).run Tryz.prog w = .ok (.tuple #[]) w' ∧ OwnM w' b n (upM M e none) ∧ w.grownBy w' (some b) := by
  obtain ⟨D, h1, h2⟩ := h
  obtain ⟨w', hrun, o1, g1⟩ := h1.drop keyE Tryz.underlying276 (enKey e he) ty
  refine ⟨w', hrun, ⟨_, o1, fun f hf => ?_⟩, g1.grown⟩
  unfold upM
  by_cases hfe : f = e
  · subst hfe
    rw [if_pos rfl]
    exact ⟨has_del_same, fun x hx => by cases hx⟩
  · rw [if_neg hfe]
    have hne : enL f ≠ enL e := fun h => hfe (enL_inj hf he h)
    refine ⟨(has_del_other hne).trans (h2 f hf).1, fun x hx => ⟨((h2 f hf).2 x hx).1, fun z => (atKey_del_other hne _).trans (((h2 f hf).2 x hx).2 z)⟩⟩
end Go.Proofs.YtlebblmlbhnppaaGreat

namespace Go.Proofs.YtlebblmlbhnppaaGreat
open Go.RowKit Go.PlainAid
set_option linter.unusedVariables false

def enOf (f : FlowV) : EnV := ⟨f.pr, f.si, f.sp, f.di, f.dp⟩
theorem enOf_ok {f : FlowV} (h : FlRok f) : EnOk (enOf f) := ⟨h.1, h.2.2.1, h.2.2.2.1, h.2.2.2.2.1, h.2.2.2.2.2.1⟩
theorem enT_enT (e : EnV) : enT (enT e) = e := rfl
def enB (e f : EnV) : Bool := e.pr == f.pr && (e.ai == f.ai && (e.ap == f.ap && (e.bi == f.bi && e.bp == f.bp)))
theorem enB_iff (e f : EnV) : enB e f = true ↔ e = f := by
  obtain ⟨a, b, c, d, x⟩ := e
  obtain ⟨a', b', c', d', x'⟩ := f
  simp [enB]
theorem enB_no {e f : EnV} (h : e ≠ f) : enB e f = false := by
  cases hb : enB e f with
  | false => rfl
  | true => exact absurd ((enB_iff e f).1 hb) h
theorem enB_yes {e f : EnV} (h : e = f) : enB e f = true := (enB_iff e f).2 h
/-- A right flow. -/
def flB (f : FlowV) : Bool := dec (0 ≤ f.pr ∧ f.pr ≤ 255) && (dec (f.mc.size = 6) && (dec (0 ≤ f.si ∧ f.si ≤ 4294967295) && (dec (0 ≤ f.di ∧ f.di ≤ 4294967295) && (dec (0 ≤ f.sp ∧ f.sp ≤ 65535) && (dec (0 ≤ f.dp ∧ f.dp ≤ 65535) && (dec (1 ≤ f.st ∧ f.st ≤ 3) && (dec (0 ≤ f.un ∧ f.un ≤ 100100) && dec (0 ≤ f.ow ∧ f.ow ≤ 10000))))))))
/-- Ends that may be asked for. -/
def enR (e : EnV) : Bool := dec (0 ≤ e.pr ∧ e.pr ≤ 255) && ((dec (0 ≤ e.ai ∧ e.ai ≤ 4294967295) && dec (0 ≤ e.ap ∧ e.ap ≤ 65535)) && (dec (0 ≤ e.bi ∧ e.bi ≤ 4294967295) && dec (0 ≤ e.bp ∧ e.bp ≤ 65535)))
/-- None of those ahead of k has these ends. -/
def apAt (fs : List FlowV) (k : Nat) (e : EnV) : Prop := ∀ j g, j < k → fs[j]? = some g → enOf g ≠ e ∧ enOf g ≠ enT e
def apOk (fs : List FlowV) (k : Nat) : Prop := ∀ i f, i < k → fs[i]? = some f → apAt fs i (enOf f)
def alOk (fs : List FlowV) (k : Nat) : Prop := ∀ i f, i < k → fs[i]? = some f → flB f = true
theorem apAt_zero (fs : List FlowV) (e : EnV) : apAt fs 0 e := fun j g hj => absurd hj (by omega)
theorem apAt_step {fs : List FlowV} {k : Nat} {e : EnV} {g : FlowV} (h : apAt fs k e) (hg : fs[k]? = some g) (h1 : enOf g ≠ e) (h2 : enOf g ≠ enT e) : apAt fs (k + 1) e := by
  intro j x hj hx
  by_cases hjk : j < k
  · exact h j x hjk hx
  · obtain rfl : j = k := by omega
    rw [hg] at hx
    cases hx
    exact ⟨h1, h2⟩
theorem apOk_zero (fs : List FlowV) : apOk fs 0 := fun i f hi => absurd hi (by omega)
theorem alOk_zero (fs : List FlowV) : alOk fs 0 := fun i f hi => absurd hi (by omega)
theorem apOk_step {fs : List FlowV} {k : Nat} {f : FlowV} (h : apOk fs k) (hf : fs[k]? = some f) (h1 : apAt fs k (enOf f)) : apOk fs (k + 1) := by
  intro j x hj hx
  by_cases hjk : j < k
  · exact h j x hjk hx
  · obtain rfl : j = k := by omega
    rw [hf] at hx
    cases hx
    exact h1
theorem alOk_step {fs : List FlowV} {k : Nat} {f : FlowV} (h : alOk fs k) (hf : fs[k]? = some f) (h1 : flB f = true) : alOk fs (k + 1) := by
  intro j x hj hx
  by_cases hjk : j < k
  · exact h j x hjk hx
  · obtain rfl : j = k := by omega
    rw [hf] at hx
    cases hx
    exact h1
noncomputable def apB (fs : List FlowV) : Bool := @decide (apOk fs fs.length) (Classical.propDecidable _)
noncomputable def foB (fs : List FlowV) : Bool := @decide (fs.length ≤ 8 ∧ alOk fs fs.length ∧ apOk fs fs.length) (Classical.propDecidable _)
theorem apB_yes {fs : List FlowV} (h : apOk fs fs.length) : apB fs = true := @decide_eq_true _ (Classical.propDecidable _) h
theorem apB_no {fs : List FlowV} (h : ¬ apOk fs fs.length) : apB fs = false := @decide_eq_false _ (Classical.propDecidable _) h
theorem foB_yes {fs : List FlowV} (h : fs.length ≤ 8) (h1 : alOk fs fs.length) (h2 : apOk fs fs.length) : foB fs = true := @decide_eq_true _ (Classical.propDecidable _) ⟨h, h1, h2⟩
theorem foB_no {fs : List FlowV} (h : ¬ (fs.length ≤ 8 ∧ alOk fs fs.length ∧ apOk fs fs.length)) : foB fs = false := @decide_eq_false _ (Classical.propDecidable _) h
theorem foB_says {fs : List FlowV} (h : foB fs = true) : fs.length ≤ 8 ∧ alOk fs fs.length ∧ apOk fs fs.length := @of_decide_eq_true _ (Classical.propDecidable _) h
theorem foB_ap {fs : List FlowV} (h : fs.length ≤ 8) (h1 : alOk fs fs.length) : foB fs = apB fs := by
  by_cases h2 : apOk fs fs.length
  · rw [foB_yes h h1 h2, apB_yes h2]
  · rw [foB_no (fun x => h2 x.2.2), apB_no h2]
theorem lt_at {fs : List FlowV} {k : Nat} {f : FlowV} (h : fs[k]? = some f) : k < fs.length := (List.getElem?_eq_some_iff.1 h).1
theorem foB_al {fs : List FlowV} {k : Nat} {f : FlowV} (hf : fs[k]? = some f) (h : flB f = false) : foB fs = false := foB_no (fun x => by have := x.2.1 k f (lt_at hf) hf; rw [h] at this; cases this)
theorem foB_at {fs : List FlowV} {k j : Nat} {f g : FlowV} (hf : fs[k]? = some f) (hj : j < k) (hg : fs[j]? = some g) (h : enOf g = enOf f ∨ enOf g = enT (enOf f)) : foB fs = false :=
  foB_no (fun x => by
    have := x.2.2 k f (lt_at hf) hf j g hj hg
    rcases h with h | h
    · exact this.1 h
    · exact this.2 h)
theorem foB_long {fs : List FlowV} (h : 8 < fs.length) : foB fs = false := foB_no (fun x => by omega)

/-- The places of the first k by their ends. -/
def plM (fs : List FlowV) : Nat → EnV → Option Int
  | 0 => fun _ => none
  | k + 1 => match fs[k]? with
    | some f => upM (plM fs k) (enOf f) (some (k : Int))
    | none => plM fs k
theorem plM_step {fs : List FlowV} {k : Nat} {f : FlowV} (hf : fs[k]? = some f) : plM fs (k + 1) = upM (plM fs k) (enOf f) (some (k : Int)) := by
  rw [plM, hf]
theorem plM_none {fs : List FlowV} {e : EnV} : ∀ {k : Nat}, plM fs k e = none → ∀ j g, j < k → fs[j]? = some g → enOf g ≠ e
  | 0, _, j, g, hj, _ => absurd hj (by omega)
  | k + 1, h, j, g, hj, hg => by
    rw [plM] at h
    cases hk : fs[k]? with
    | none =>
      rw [hk] at h
      by_cases hjk : j < k
      · exact plM_none h j g hjk hg
      · obtain rfl : j = k := by omega
        rw [hk] at hg; cases hg
    | some f =>
      rw [hk] at h
      simp only [upM] at h
      split at h
      · cases h
      · rename_i hne
        by_cases hjk : j < k
        · exact plM_none h j g hjk hg
        · obtain rfl : j = k := by omega
          rw [hk] at hg; cases hg
          exact fun e => hne e.symm
theorem plM_some {fs : List FlowV} {e : EnV} {v : Int} : ∀ {k : Nat}, plM fs k e = some v → ∃ j g, j < k ∧ fs[j]? = some g ∧ enOf g = e ∧ v = (j : Int)
  | 0, h => by cases h
  | k + 1, h => by
    rw [plM] at h
    cases hk : fs[k]? with
    | none =>
      rw [hk] at h
      obtain ⟨j, g, h1, h2⟩ := plM_some h
      exact ⟨j, g, by omega, h2⟩
    | some f =>
      rw [hk] at h
      simp only [upM] at h
      split at h
      · rename_i he
        cases h
        exact ⟨k, f, by omega, hk, he.symm, rfl⟩
      · obtain ⟨j, g, h1, h2⟩ := plM_some h
        exact ⟨j, g, by omega, h2⟩
theorem plM_is {fs : List FlowV} (hap : apOk fs fs.length) {j : Nat} {g : FlowV} (hg : fs[j]? = some g) {k : Nat} (hk : k ≤ fs.length) (hj : j < k) : plM fs k (enOf g) = some (j : Int) := by
  cases h : plM fs k (enOf g) with
  | none => exact absurd rfl (plM_none h j g hj hg)
  | some v =>
    obtain ⟨i, f, hi, hf, he, rfl⟩ := plM_some h
    by_cases h1 : i < j
    · exact absurd he (hap j g (lt_at hg) hg i f h1 hf).1
    · by_cases h2 : j < i
      · exact absurd he.symm (hap i f (lt_at hf) hf j g h2 hg).1
      · obtain rfl : i = j := by omega
        rfl
theorem plM_wf {fs : List FlowV} {e : EnV} {v : Int} {k : Nat} (h : plM fs k e = some v) (hk : k ≤ 4096) : 0 ≤ v ∧ v < 4096 := by
  obtain ⟨j, g, h1, h2, h3, rfl⟩ := plM_some h
  omega
/-- What a map says of ends: the place, whether turned round, whether there. -/
def fkK (M : EnV → Option Int) (e : EnV) : Int := if (M e).isSome then (M e).getD 0 else (M (enT e)).getD 0
def fkB (M : EnV → Option Int) (e : EnV) : Bool := if (M e).isSome then false else (M (enT e)).isSome
def fkT (M : EnV → Option Int) (e : EnV) : Bool := (M e).isSome || (M (enT e)).isSome
theorem fk_none {fs : List FlowV} {e : EnV} {k : Nat} (h : apAt fs k e) : fkT (plM fs k) e = false := by
  unfold fkT
  cases h1 : plM fs k e with
  | some v =>
    obtain ⟨j, g, hj, hg, he, _⟩ := plM_some h1
    exact absurd he (h j g hj hg).1
  | none =>
    cases h2 : plM fs k (enT e) with
    | some v =>
      obtain ⟨j, g, hj, hg, he, _⟩ := plM_some h2
      exact absurd he (h j g hj hg).2
    | none => rfl
theorem fk_there {fs : List FlowV} {e : EnV} {k : Nat} (h : fkT (plM fs k) e = false) : apAt fs k e := by
  unfold fkT at h
  simp at h
  intro j g hj hg
  exact ⟨plM_none h.1 j g hj hg, plM_none h.2 j g hj hg⟩
/-- The first that has these ends this way. -/
theorem fk_this {fs : List FlowV} (hap : apOk fs fs.length) {e : EnV} {i : Nat} {f : FlowV} (hf : fs[i]? = some f) (he : enOf f = e) : fkT (plM fs fs.length) e = true ∧ fkB (plM fs fs.length) e = false ∧ fkK (plM fs fs.length) e = (i : Int) := by
  have := plM_is hap hf (Nat.le_refl _) (lt_at hf)
  rw [he] at this
  unfold fkT fkB fkK
  rw [this]
  simp
theorem fk_back {fs : List FlowV} (hap : apOk fs fs.length) {e : EnV} {i : Nat} {f : FlowV} (hf : fs[i]? = some f) (he : enOf f = enT e) (hne : enOf f ≠ e) (hno : ∀ j g, j < i → fs[j]? = some g → enOf g ≠ e) : fkT (plM fs fs.length) e = true ∧ fkB (plM fs fs.length) e = true ∧ fkK (plM fs fs.length) e = (i : Int) := by
  have h1 := plM_is hap hf (Nat.le_refl _) (lt_at hf)
  rw [he] at h1
  have h2 : plM fs fs.length e = none := by
    cases h : plM fs fs.length e with
    | none => rfl
    | some v =>
      obtain ⟨j, g, hj, hg, hge, _⟩ := plM_some h
      by_cases hji : j < i
      · exact absurd hge (hno j g hji hg)
      · by_cases hij : i < j
        · exact absurd (by rw [hge]; exact he) (hap j g hj hg i f hij hf).2
        · obtain rfl : i = j := by omega
          rw [hf] at hg; cases hg
          exact absurd hge hne
  unfold fkT fkB fkK
  rw [h1, h2]
  simp
end Go.Proofs.YtlebblmlbhnppaaGreat

namespace Go.Proofs.YtlebblmlbhnppaaGreat
open Go.RowKit Go.PlainAid Go.Proofs.YtlebblmlbhnppaaGreat.Bt Go.Sort
set_option linter.unusedVariables false
set_option maxRecDepth 20000

/-- The number's place in the round. -/
def sqN (n : Int) : Int := n % 4294967296
theorem sqN_bd (n : Int) : 0 ≤ sqN n ∧ sqN n ≤ 4294967295 := by unfold sqN; omega
theorem sqN_id {n : Int} (h0 : 0 ≤ n) (h1 : n ≤ 4294967295) : sqN n = n := by unfold sqN; omega
/-- 'n & MaxAddress', also below 0. -/
theorem mask32 (n : Int) (h0 : -9223372036854775808 ≤ n) (h1 : n ≤ 9223372036854775807) : bits BinOp.and IntKind.i64 n 4294967295 = sqN n := by
  by_cases hn : 0 ≤ n
  · exact mask 32 (by omega) n hn h1
  · have e : bits BinOp.and IntKind.i64 n 4294967295 = bits BinOp.and IntKind.i64 ((n + 18446744073709551616) % 4294967296) 4294967295 := by
      show IntKind.i64.wrap ((BitVec.ofInt 64 n &&& BitVec.ofInt 64 4294967295).toNat : Int) = IntKind.i64.wrap ((BitVec.ofInt 64 ((n + 18446744073709551616) % 4294967296) &&& BitVec.ofInt 64 4294967295).toNat : Int)
      congr 2
      rw [BitVec.toNat_and, BitVec.toNat_and]
      have e1 : (BitVec.ofInt 64 (4294967295 : Int)).toNat = 2 ^ 32 - 1 := by decide
      rw [e1, Nat.and_two_pow_sub_one_eq_mod, Nat.and_two_pow_sub_one_eq_mod, BitVec.toNat_ofInt, BitVec.toNat_ofInt]
      omega
    rw [e]
    have := mask 32 (by omega) ((n + 18446744073709551616) % 4294967296) (by omega) (by omega)
    rw [show bits BinOp.and IntKind.i64 ((n + 18446744073709551616) % 4294967296) 4294967295 = (n + 18446744073709551616) % 4294967296 % ((2 ^ 32 : Nat) : Int) from this]
    unfold sqN
    omega
theorem l10Seq_any (n : Int) (w : World) (h0 : -9223372036854775808 ≤ n) (h1 : n ≤ 9223372036854775807) : Calls Tryz.prog 201 #[.int .i64 n] w fun e w' => e = .returned (.int .i64 (sqN n)) ∧ w' = w := by
  have hm := mask32 n h0 h1
  generalize sqN n = z at hm ⊢
  go_enter Tryz.func201, Tryz.ntmps201
  go_wp2
  go_ret
  exact ⟨by first | rfl | (rw [hm]; rfl), rfl⟩
theorem seqOK_any (n : Int) (w : World) : Calls Tryz.prog 86 #[.int .i64 n] w fun e w' => e = .returned (.bool (dec (0 ≤ n ∧ n ≤ 4294967295))) ∧ w' = w := by
  have HB : Hid (∀ w, Calls Tryz.prog 85 #[.int .i64 n, .int .i64 0, .int .i64 4294967295] w fun e w' => e = .returned (.bool (dec (0 ≤ n ∧ n ≤ 4294967295))) ∧ w' = w) := fun w => between_any n 0 4294967295 w
  generalize dec (0 ≤ n ∧ n ≤ 4294967295) = z at HB ⊢
  go_enter Tryz.func86, Tryz.ntmps86
  go_wp2_with fail
  refine (HB.out _).mono ?_
  rintro e w1 ⟨rfl, hw⟩
  subst hw
  go_wp2
  go_ret
  exact ⟨rfl, rfl⟩
theorem seqAfter_any (n b : Int) (w : World) (h0 : 0 ≤ n) (h1 : n ≤ 4294967296) (h2 : 0 ≤ b) (h3 : b ≤ 4294967296) : Calls Tryz.prog 212 #[.int .i64 n, .int .i64 b] w fun e w' => e = .returned (.int .i64 (sqN (n + b))) ∧ w' = w := by
  have ht : (n + b).tmod 4294967296 = (n + b) % 4294967296 := Int.tmod_eq_emod_of_nonneg (by omega)
  go_enter Tryz.func212, Tryz.ntmps212
  go_wp2
  go_ret
  exact ⟨by first | rfl | (unfold sqN; rw [ht]), rfl⟩
/-- What SeqLess answers. -/
def slB (a b : Int) : Bool := dec (0 ≤ a ∧ a ≤ 4294967295) && dec (0 ≤ b ∧ b ≤ 4294967295) && decide (1 ≤ sqN (b - a) ∧ sqN (b - a) ≤ 2147483647)
def slC (a b : Int) : Int := if (dec (0 ≤ a ∧ a ≤ 4294967295) && dec (0 ≤ b ∧ b ≤ 4294967295)) = true then 0 else 4
end Go.Proofs.YtlebblmlbhnppaaGreat

namespace Go.Proofs.YtlebblmlbhnppaaGreat
open Go.RowKit Go.PlainAid
set_option linter.unusedVariables false

/-- The sixteen digits. -/
def hexs : ByteArray := ⟨#[48, 49, 50, 51, 52, 53, 54, 55, 56, 57, 97, 98, 99, 100, 101, 102]⟩
theorem hexs_size : hexs.size = 16 := rfl
def hx (n : Int) : Int := bt hexs n.toNat
theorem hx_bd (n : Int) : 0 ≤ hx n ∧ hx n ≤ 255 := ⟨bt_nonneg _ _, bt_le _ _⟩

/-- The digits of the first k bytes, with colons between. -/
def macl (f : Nat → Int) : Nat → List Int
  | 0 => []
  | k + 1 => macl f k ++ ((if k = 0 then [] else [58]) ++ [hx (f k / 16), hx (f k % 16)])

theorem macl_len (f : Nat → Int) : ∀ k : Nat, (macl f k).length ≤ 3 * k
  | 0 => by simp [macl]
  | k + 1 => by
    have := macl_len f k
    unfold macl
    split <;> simp <;> omega
theorem macl_bd (f : Nat → Int) : ∀ k : Nat, ∀ x ∈ macl f k, 0 ≤ x ∧ x ≤ 255
  | 0 => by simp [macl]
  | k + 1 => by
    have := macl_bd f k
    intro x hx'
    unfold macl at hx'
    split at hx' <;> simp at hx' <;> rcases hx' with h | h | h <;> first | exact this x h | (subst h; exact hx_bd _) | skip
    all_goals (first | (subst h; omega) | (rcases h with h | h <;> (subst h; exact hx_bd _)))
theorem macl_first (f : Nat → Int) : macl f 1 = [hx (f 0 / 16), hx (f 0 % 16)] := rfl
theorem macl_next (f : Nat → Int) (k : Nat) (h : 0 < k) : macl f (k + 1) = macl f k ++ [58] ++ [hx (f k / 16), hx (f k % 16)] := by
  rw [macl, if_neg (by omega), List.append_assoc]

theorem u8_and15 (n : Int) (h0 : 0 ≤ n) (h1 : n ≤ 255) : bits BinOp.and IntKind.u8 n 15 = n % 16 := by
  rw [u8_and n 15 h0 (by omega) (by omega) (by omega)]
  show ((n.toNat &&& 15 : Nat) : Int) = _
  rw [nat_mask4]
  omega

theorem isMac_a (s : ByteArray) (q : Bool) (hq : ((s.size : Int) == 6) = q) (w : World) : Calls Tryz.prog 185 #[.string s] w fun e w' => e = .returned (.bool q) ∧ w' = w := by
  go_enter Tryz.func185, Tryz.ntmps185
  go_wp2
  go_ret
  exact ⟨rfl, rfl⟩
theorem l01Mac_any (s : ByteArray) (w : World) : Calls Tryz.prog 110 #[.string s] w fun e w' => e = .returned (.bool ((s.size : Int) == 6)) ∧ w' = w := by
  go_enter Tryz.func110, Tryz.ntmps110
  go_wp2
  go_ret
  exact ⟨rfl, rfl⟩

end Go.Proofs.YtlebblmlbhnppaaGreat

namespace Go.Proofs.YtlebblmlbhnppaaGreat
open Go.RowKit Go.PlainAid
set_option linter.unusedVariables false
set_option maxRecDepth 20000

theorem isMac_b (s : ByteArray) (q : Bool) (hq : ((s.size : Int) == 6) = q) (w : World) : Calls Tryz.prog 185 #[.string s] w fun e w' => e = .returned (.bool q) ∧ w' = w := by
  go_enter Tryz.func185, Tryz.ntmps185
  go_wp2
  go_ret
  exact ⟨rfl, rfl⟩
theorem nums6 (s : ByteArray) (h : s.size = 6) : nums s = [bt s 0, bt s 1, bt s 2, bt s 3, bt s 4, bt s 5] := by
  have e := range_getD (nums s)
  rw [nums_len, h] at e
  rw [← e]
  simp only [nums_getD]
  rfl

set_option maxHeartbeats 1000000 in
theorem macAt_any (a : Option Addr) (len cap : Nat) (f : Nat → Int) (at_ : Nat) (w : World) (h : Bytes w a len f) (hs : at_ + 6 ≤ len) (hc : len ≤ cap) (hx : cap ≤ 9223372036854775807) :
    Calls Tryz.prog 219 #[.slice a len cap, .int .i64 at_] w fun e w' => e = .returned (.string (strOf (fun j => f (at_ + j)) 6)) ∧ Below w.heap.size w w' := by
  obtain ⟨b, off, rfl, -⟩ := h.2 (by omega)
  have HF : Hid (∀ k, 0 ≤ f k ∧ f k ≤ 255) := h.1
  have hlt : b < w.heap.size := by
    obtain ⟨b', off', e, hcc⟩ := h.2 (by omega)
    cases e
    simpa using World.block_lt_of_cell? w _ (hcc 0 (by omega))
  have hp := h.part at_ 6 hs (some ⟨b, off + at_, none⟩) (fun _ => rfl)
  have hat := run_arrayAt (P := Tryz.prog) w 313 5 6 (some ⟨b, off + at_, none⟩) 6 6 Tryz.underlying313 (by omega)
  obtain ⟨b', off', e, hcc⟩ := hp.2 (by omega)
  cases e
  have c0 := hcc 0 (by omega)
  have c1 := hcc 1 (by omega)
  have c2 := hcc 2 (by omega)
  have c3 := hcc 3 (by omega)
  have c4 := hcc 4 (by omega)
  have c5 := hcc 5 (by omega)
  simp only [Nat.add_zero] at c0
  have hconv := conv_row (P := Tryz.prog) (w.alloc (.cells #[.int .u8 (f at_), .int .u8 (f (at_ + 1)), .int .u8 (f (at_ + 2)), .int .u8 (f (at_ + 3)), .int .u8 (f (at_ + 4)), .int .u8 (f (at_ + 5))] 313)) 72 9 5 Tryz.underlying72 Tryz.underlying5 Tryz.underlying9 (some ⟨w.heap.size, 0, none⟩) 6 6 (fun j => f (at_ + j)) (by
    refine ⟨fun k => HF.out _, fun _ => ⟨w.heap.size, 0, rfl, fun i hi => ?_⟩⟩
    have hh : i = 0 ∨ i = 1 ∨ i = 2 ∨ i = 3 ∨ i = 4 ∨ i = 5 := by omega
    rcases hh with rfl | rfl | rfl | rfl | rfl | rfl <;> simp)
  clear h hp hcc
  go_enter Tryz.func219, Tryz.ntmps219
  go_wp2_with fail
  refine (part_any b off len cap at_ 6 w (by omega) hx).mono ?_
  rintro e w0 ⟨a', rfl, ha, hw⟩
  obtain rfl := hw.symm
  obtain rfl := ha (by omega)
  clear ha hw
  go_wp2
  go_ret
  exact ⟨rfl, (Below.refl _ _).alloc (Nat.le_refl _) _⟩
end Go.Proofs.YtlebblmlbhnppaaGreat

namespace Go.Proofs.YtlebblmlbhnppaaGreat
open Go.RowKit Go.PlainAid Go.Proofs.YtlebblmlbhnppaaGreat.Bt Go.Sort
set_option linter.unusedVariables false
set_option maxRecDepth 20000

theorem toG {f : Nat} {args : Array Value} {w : World} {r : Ending} (h : Calls Tryz.prog f args w fun e w' => e = r ∧ w' = w) : Calls Tryz.prog f args w fun e w' => e = r ∧ Grw w w' :=
  h.mono fun e w' hh => ⟨hh.1, by rw [hh.2]; exact Grw.refl _⟩
def bitN (b : Bool) : Int := if b then 1 else 0
theorem bitN_bd (b : Bool) : 0 ≤ bitN b ∧ bitN b ≤ 1 := by unfold bitN; split <;> omega
/-- How many numbers were sent and not acknowledged. -/
def sentN (c : ConnV) : Int := (c.out.size : Int) + bitN c.fin + bitN (c.st == 1)
theorem sentN_bd (c : ConnV) : (c.out.size : Int) ≤ sentN c ∧ sentN c ≤ (c.out.size : Int) + 2 := by
  have := bitN_bd c.fin
  have := bitN_bd (c.st == 1)
  unfold sentN
  omega
def nuB (c : ConnV) : Bool := dec (0 ≤ c.ip ∧ c.ip ≤ 4294967295) && dec (0 ≤ c.po ∧ c.po ≤ 65535) && dec (0 ≤ c.di ∧ c.di ≤ 4294967295) && dec (1 ≤ c.st ∧ c.st ≤ 4) && dec (0 ≤ c.un ∧ c.un ≤ 4294967295) && dec (0 ≤ c.nx ∧ c.nx ≤ 4294967295) && dec (0 ≤ c.wa ∧ c.wa ≤ 4294967295)
def txB (c : ConnV) : Bool := ((c.mc.size : Int) == 6) && !decide ((300 : Int) < (c.inn.size : Int)) && !decide ((300 : Int) < (c.out.size : Int)) && !((c.st == 1) && !(c.inn.toList == [])) && (c.fin == (c.st == 3)) && (c.fin || (c.out.toList == []))
/-- Whether a connection is right. -/
def okB (c : ConnV) : Bool := nuB c && txB c && (sqN (c.nx - c.un) == sentN c)
/-- Whether a segment is right. -/
def sgB (g : SegV) : Bool := dec (0 ≤ g.sp ∧ g.sp ≤ 65535) && dec (0 ≤ g.dp ∧ g.dp ≤ 65535) && dec (0 ≤ g.sq ∧ g.sq ≤ 4294967295) && dec (0 ≤ g.ac ∧ g.ac ≤ 4294967295) && dec (0 ≤ g.fl ∧ g.fl ≤ 31) && dec (0 ≤ g.wi ∧ g.wi ≤ 65535) && decide ((g.da.size : Int) ≤ 360)
theorem l01Bit_any (b : Bool) (w : World) : Calls Tryz.prog 247 #[.bool b] w fun e w' => e = .returned (.int .i64 (bitN b)) ∧ w' = w := by
  cases b <;>
  · go_enter Tryz.func247, Tryz.ntmps247
    go_wp2
    go_ret
    exact ⟨rfl, rfl⟩
set_option maxHeartbeats 1000000 in
theorem l10Sent_any (mc : ByteArray) (ip po di st un nx wa : Int) (inn out : ByteArray) (fin : Bool) (w : World) (ho : out.size ≤ 1048576) :
    Calls Tryz.prog 202 #[.agg #[.string mc, .int .i64 ip, .int .i64 po, .int .i64 di, .int .i64 st, .int .i64 un, .int .i64 nx, .int .i64 wa, .string inn, .string out, .bool fin]] w fun e w' => e = .returned (.int .i64 (sentN ⟨mc, ip, po, di, st, un, nx, wa, inn, out, fin⟩)) ∧ Grw w w' := by
  have T1 : Hid (∀ w, Calls Tryz.prog 247 #[.bool fin] w fun e w' => e = .returned (.int .i64 (bitN fin)) ∧ Grw w w') := fun w => toG (l01Bit_any fin w)
  have T2 : Hid (∀ w, Calls Tryz.prog 247 #[.bool (st == 1)] w fun e w' => e = .returned (.int .i64 (bitN (st == 1))) ∧ Grw w w') := fun w => toG (l01Bit_any (st == 1) w)
  have E : Hid (sentN ⟨mc, ip, po, di, st, un, nx, wa, inn, out, fin⟩ = (out.size : Int) + bitN fin + bitN (st == 1)) := rfl
  rw [E.out]
  have hb1 := bitN_bd fin
  have hb2 := bitN_bd (st == 1)
  generalize bitN fin = x1 at T1 hb1 ⊢
  generalize bitN (st == 1) = x2 at T2 hb2 ⊢
  clear E
  have B0 : Hid (Grw w (w.alloc (.cells #[.string mc, .int .i64 ip, .int .i64 po, .int .i64 di, .int .i64 st, .int .i64 un, .int .i64 nx, .int .i64 wa, .string inn, .string out, .bool fin] 206))) := (Grw.refl _).alloc _
  have q4 : (w.alloc (.cells #[.string mc, .int .i64 ip, .int .i64 po, .int .i64 di, .int .i64 st, .int .i64 un, .int .i64 nx, .int .i64 wa, .string inn, .string out, .bool fin] 206)).cell? ⟨w.heap.size, 4, none⟩ = some (.int .i64 st) := by simp [go_sem]
  have q9 : (w.alloc (.cells #[.string mc, .int .i64 ip, .int .i64 po, .int .i64 di, .int .i64 st, .int .i64 un, .int .i64 nx, .int .i64 wa, .string inn, .string out, .bool fin] 206)).cell? ⟨w.heap.size, 9, none⟩ = some (.string out) := by simp [go_sem]
  have q10 : (w.alloc (.cells #[.string mc, .int .i64 ip, .int .i64 po, .int .i64 di, .int .i64 st, .int .i64 un, .int .i64 nx, .int .i64 wa, .string inn, .string out, .bool fin] 206)).cell? ⟨w.heap.size, 10, none⟩ = some (.bool fin) := by simp [go_sem]
  have hmix : Tryz.prog.follows .mixedOrders = true := by kernel_rfl
  have hw1 : IntKind.i64.wrap ((out.size : Int) + x1) = (out.size : Int) + x1 := by rw [IntKind.wrap_i64]; omega
  have hw2 : IntKind.i64.wrap ((out.size : Int) + x1 + x2) = (out.size : Int) + x1 + x2 := by rw [IntKind.wrap_i64]; omega
  go_enter Tryz.func202, Tryz.ntmps202
  go_wp2_with fail
  generalize w.alloc (.cells #[.string mc, .int .i64 ip, .int .i64 po, .int .i64 di, .int .i64 st, .int .i64 un, .int .i64 nx, .int .i64 wa, .string inn, .string out, .bool fin] 206) = W at *
  have y4 : ∀ n os, (grow (W.drewN n) os).cell? ⟨w.heap.size, 4, none⟩ = some (.int .i64 st) := fun n os => bkeep (Grw.below ⟨n, os, rfl⟩) q4
  have y9 : ∀ n os, (grow (W.drewN n) os).cell? ⟨w.heap.size, 9, none⟩ = some (.string out) := fun n os => bkeep (Grw.below ⟨n, os, rfl⟩) q9
  have y10 : ∀ n os, (grow (W.drewN n) os).cell? ⟨w.heap.size, 10, none⟩ = some (.bool fin) := fun n os => bkeep (Grw.below ⟨n, os, rfl⟩) q10
  refine wp_region_quiet_grown (by assumption) (by kernel_rfl) ?_
  repeat (go_big_quiet_step (first | fail | (go_at_call 247; first | (with_reducible exact Calls.grown_of (T1.out _)) | (with_reducible exact Calls.grown_of (T2.out _)))))
  refine wpQuiet_nil ?_
  intro _ hw'
  obtain ⟨⟨nq, osq⟩, hw''⟩ := hw'
  subst hw''
  have HG2 : Hid (Grw w (grow (W.drewN nq) osq)) := B0.out.trans ⟨nq, osq, rfl⟩
  clear y4 y9 y10 q4 q9 q10 B0
  generalize (grow (W.drewN nq) osq) = w5 at *
  go_wp2
  go_ret
  exact ⟨rfl, HG2.out⟩
set_option maxHeartbeats 1000000 in
theorem unack_any (mc : ByteArray) (ip po di st un nx wa : Int) (inn out : ByteArray) (fin : Bool) (w : World) (ho : out.size ≤ 1048576) :
    Calls Tryz.prog 213 #[.agg #[.string mc, .int .i64 ip, .int .i64 po, .int .i64 di, .int .i64 st, .int .i64 un, .int .i64 nx, .int .i64 wa, .string inn, .string out, .bool fin]] w fun e w' => e = .returned (.int .i64 (sentN ⟨mc, ip, po, di, st, un, nx, wa, inn, out, fin⟩)) ∧ Grw w w' := by
  have E : Hid (sentN ⟨mc, ip, po, di, st, un, nx, wa, inn, out, fin⟩ = (out.size : Int) + bitN fin + bitN (st == 1)) := rfl
  rw [E.out]
  clear E
  cases fin with
  | false =>
    generalize hb : (st == 1) = b
    cases b with
    | false =>
      go_enter Tryz.func213, Tryz.ntmps213
      go_wp2
      go_ret
      exact ⟨by simp [bitN], (Grw.refl _).alloc _⟩
    | true =>
      go_enter Tryz.func213, Tryz.ntmps213
      go_wp2
      go_ret
      exact ⟨by simp [bitN], (Grw.refl _).alloc _⟩
  | true =>
    generalize hb : (st == 1) = b
    cases b with
    | false =>
      go_enter Tryz.func213, Tryz.ntmps213
      go_wp2
      go_ret
      exact ⟨by simp [bitN], (Grw.refl _).alloc _⟩
    | true =>
      go_enter Tryz.func213, Tryz.ntmps213
      go_wp2
      go_ret
      exact ⟨by simp [bitN], (Grw.refl _).alloc _⟩
set_option maxHeartbeats 2000000 in
theorem conNums_any (mc : ByteArray) (ip po di st un nx wa : Int) (inn out : ByteArray) (fin : Bool) (w : World) (hp : po ≤ 9223372036854775807) :
    Calls Tryz.prog 210 #[.agg #[.string mc, .int .i64 ip, .int .i64 po, .int .i64 di, .int .i64 st, .int .i64 un, .int .i64 nx, .int .i64 wa, .string inn, .string out, .bool fin]] w fun e w' => e = .returned (.bool (nuB ⟨mc, ip, po, di, st, un, nx, wa, inn, out, fin⟩)) ∧ Grw w w' := by
  have T0 : Hid (∀ w, Calls Tryz.prog 170 #[.int .i64 ip] w fun e w' => e = .returned (.bool (dec (0 ≤ ip ∧ ip ≤ 4294967295))) ∧ w' = w) := fun w => addressOK_any ip w
  have T1 : Hid (∀ w, Calls Tryz.prog 171 #[.int .i64 po] w fun e w' => e = .returned (.bool (dec (0 ≤ po ∧ po ≤ 65535))) ∧ w' = w) := fun w => portOK_any po w hp
  have T2 : Hid (∀ w, Calls Tryz.prog 170 #[.int .i64 di] w fun e w' => e = .returned (.bool (dec (0 ≤ di ∧ di ≤ 4294967295))) ∧ w' = w) := fun w => addressOK_any di w
  have T3 : Hid (∀ w, Calls Tryz.prog 85 #[.int .i64 st, .int .i64 1, .int .i64 4] w fun e w' => e = .returned (.bool (dec (1 ≤ st ∧ st ≤ 4))) ∧ w' = w) := fun w => between_any st 1 4 w
  have T4 : Hid (∀ w, Calls Tryz.prog 86 #[.int .i64 un] w fun e w' => e = .returned (.bool (dec (0 ≤ un ∧ un ≤ 4294967295))) ∧ w' = w) := fun w => seqOK_any un w
  have T5 : Hid (∀ w, Calls Tryz.prog 86 #[.int .i64 nx] w fun e w' => e = .returned (.bool (dec (0 ≤ nx ∧ nx ≤ 4294967295))) ∧ w' = w) := fun w => seqOK_any nx w
  have T6 : Hid (∀ w, Calls Tryz.prog 86 #[.int .i64 wa] w fun e w' => e = .returned (.bool (dec (0 ≤ wa ∧ wa ≤ 4294967295))) ∧ w' = w) := fun w => seqOK_any wa w
  have E : Hid (nuB ⟨mc, ip, po, di, st, un, nx, wa, inn, out, fin⟩ = ((dec (0 ≤ ip ∧ ip ≤ 4294967295)) && (dec (0 ≤ po ∧ po ≤ 65535)) && (dec (0 ≤ di ∧ di ≤ 4294967295)) && (dec (1 ≤ st ∧ st ≤ 4)) && (dec (0 ≤ un ∧ un ≤ 4294967295)) && (dec (0 ≤ nx ∧ nx ≤ 4294967295)) && (dec (0 ≤ wa ∧ wa ≤ 4294967295)))) := rfl
  generalize dec (0 ≤ ip ∧ ip ≤ 4294967295) = t0 at T0 E
  generalize dec (0 ≤ po ∧ po ≤ 65535) = t1 at T1 E
  generalize dec (0 ≤ di ∧ di ≤ 4294967295) = t2 at T2 E
  generalize dec (1 ≤ st ∧ st ≤ 4) = t3 at T3 E
  generalize dec (0 ≤ un ∧ un ≤ 4294967295) = t4 at T4 E
  generalize dec (0 ≤ nx ∧ nx ≤ 4294967295) = t5 at T5 E
  generalize dec (0 ≤ wa ∧ wa ≤ 4294967295) = t6 at T6 E
  go_enter Tryz.func210, Tryz.ntmps210
  go_wp2_with fail
  refine (T0.out _).mono ?_
  rintro e wx1 ⟨rfl, rfl⟩
  cases t0 with
  | false =>
    go_wp2
    go_ret
    exact ⟨by rw [E.out]; rfl, ((Grw.refl _).alloc _)⟩
  | true =>
    go_wp2_with fail
    refine (T1.out _).mono ?_
    rintro e wx2 ⟨rfl, rfl⟩
    cases t1 with
    | false =>
      go_wp2
      go_ret
      exact ⟨by rw [E.out]; rfl, ((Grw.refl _).alloc _)⟩
    | true =>
      go_wp2_with fail
      refine (T2.out _).mono ?_
      rintro e wx3 ⟨rfl, rfl⟩
      cases t2 with
      | false =>
        go_wp2
        go_ret
        exact ⟨by rw [E.out]; rfl, ((Grw.refl _).alloc _)⟩
      | true =>
        go_wp2_with fail
        refine (T3.out _).mono ?_
        rintro e wx4 ⟨rfl, rfl⟩
        cases t3 with
        | false =>
          go_wp2
          go_ret
          exact ⟨by rw [E.out]; rfl, ((Grw.refl _).alloc _)⟩
        | true =>
          go_wp2_with fail
          refine (T4.out _).mono ?_
          rintro e wx5 ⟨rfl, rfl⟩
          cases t4 with
          | false =>
            go_wp2
            go_ret
            exact ⟨by rw [E.out]; rfl, ((Grw.refl _).alloc _)⟩
          | true =>
            go_wp2_with fail
            refine (T5.out _).mono ?_
            rintro e wx6 ⟨rfl, rfl⟩
            cases t5 with
            | false =>
              go_wp2
              go_ret
              exact ⟨by rw [E.out]; rfl, ((Grw.refl _).alloc _)⟩
            | true =>
              go_wp2_with fail
              refine (T6.out _).mono ?_
              rintro e wx7 ⟨rfl, rfl⟩
              cases t6 with
              | false =>
                go_wp2
                go_ret
                exact ⟨by rw [E.out]; rfl, ((Grw.refl _).alloc _)⟩
              | true =>
                go_wp2
                go_ret
                exact ⟨by rw [E.out]; rfl, ((Grw.refl _).alloc _)⟩
set_option maxHeartbeats 1000000 in
theorem conTexts_any (mc : ByteArray) (ip po di st un nx wa : Int) (inn out : ByteArray) (fin : Bool) (w : World) (hmc : mc.size ≤ 9223372036854775807) (hi : inn.size ≤ 9223372036854775807) (ho : out.size ≤ 9223372036854775807) :
    Calls Tryz.prog 211 #[.agg #[.string mc, .int .i64 ip, .int .i64 po, .int .i64 di, .int .i64 st, .int .i64 un, .int .i64 nx, .int .i64 wa, .string inn, .string out, .bool fin]] w fun e w' => e = .returned (.bool (txB ⟨mc, ip, po, di, st, un, nx, wa, inn, out, fin⟩)) ∧ Grw w w' := by
  have E : Hid (txB ⟨mc, ip, po, di, st, un, nx, wa, inn, out, fin⟩ = (((mc.size : Int) == 6) && !decide ((300 : Int) < (inn.size : Int)) && !decide ((300 : Int) < (out.size : Int)) && !((st == 1) && !(inn.toList == [])) && (fin == (st == 3)) && (fin || (out.toList == [])))) := rfl
  have T0 : Hid (∀ w, Calls Tryz.prog 185 #[.string mc] w fun e w' => e = .returned (.bool ((mc.size : Int) == 6)) ∧ w' = w) := fun w => isMac_b mc _ rfl w
  generalize ((mc.size : Int) == 6) = t0 at T0 E
  generalize h1 : decide ((300 : Int) < (inn.size : Int)) = t1 at E
  generalize h2 : decide ((300 : Int) < (out.size : Int)) = t2 at E
  generalize h3 : (st == 1) = t3 at E
  generalize h4 : (inn.toList == []) = t4 at E
  generalize h5 : (st == 3) = t5 at E
  generalize h6 : (out.toList == []) = t6 at E
  go_enter Tryz.func211, Tryz.ntmps211
  go_wp2_with fail
  refine (T0.out _).mono ?_
  rintro e w1 ⟨rfl, rfl⟩
  cases t0 with
  | false =>
    go_wp2
    go_ret
    exact ⟨by rw [E.out]; rfl, (Grw.refl _).alloc _⟩
  | true =>
    cases t1 with
    | false =>
      cases t2 with
      | false =>
        cases t3 with
        | false =>
          cases fin with
          | false =>
            cases t5 with
            | false =>
              cases t6 with
              | false =>
                go_wp2
                go_ret
                exact ⟨by rw [E.out]; rfl, (Grw.refl _).alloc _⟩
              | true =>
                go_wp2
                go_ret
                exact ⟨by rw [E.out]; rfl, (Grw.refl _).alloc _⟩
            | true =>
              go_wp2
              go_ret
              exact ⟨by rw [E.out]; rfl, (Grw.refl _).alloc _⟩
          | true =>
            cases t5 with
            | false =>
              go_wp2
              go_ret
              exact ⟨by rw [E.out]; rfl, (Grw.refl _).alloc _⟩
            | true =>
              go_wp2
              go_ret
              exact ⟨by rw [E.out]; rfl, (Grw.refl _).alloc _⟩
        | true =>
          cases t4 with
          | false =>
            go_wp2
            go_ret
            exact ⟨by rw [E.out]; rfl, (Grw.refl _).alloc _⟩
          | true =>
            cases fin with
            | false =>
              cases t5 with
              | false =>
                cases t6 with
                | false =>
                  go_wp2
                  go_ret
                  exact ⟨by rw [E.out]; rfl, (Grw.refl _).alloc _⟩
                | true =>
                  go_wp2
                  go_ret
                  exact ⟨by rw [E.out]; rfl, (Grw.refl _).alloc _⟩
              | true =>
                go_wp2
                go_ret
                exact ⟨by rw [E.out]; rfl, (Grw.refl _).alloc _⟩
            | true =>
              cases t5 with
              | false =>
                go_wp2
                go_ret
                exact ⟨by rw [E.out]; rfl, (Grw.refl _).alloc _⟩
              | true =>
                go_wp2
                go_ret
                exact ⟨by rw [E.out]; rfl, (Grw.refl _).alloc _⟩
      | true =>
        go_wp2
        go_ret
        exact ⟨by rw [E.out]; rfl, (Grw.refl _).alloc _⟩
    | true =>
      go_wp2
      go_ret
      exact ⟨by rw [E.out]; rfl, (Grw.refl _).alloc _⟩
end Go.Proofs.YtlebblmlbhnppaaGreat

namespace Go.Proofs.YtlebblmlbhnppaaGreat
open Go.RowKit Go.PlainAid Go.Proofs.YtlebblmlbhnppaaGreat.Bt Go.Sort
set_option linter.unusedVariables false
set_option maxRecDepth 20000
/-- The place of the first one, or -1. -/
def ixI {V : Type} (p : V → Bool) (xs : List V) : Int := match xs.find? p with | some _ => (xs.findIdx p : Int) | none => -1
section
variable {V : Type} {p : V → Bool} {xs : List V} {k : Nat} {x : V}
theorem ixI_no (hx : xs[k]? = some x) (h : (xs.take k).find? p = none) (hp : p x = false) : (xs.take (k + 1)).find? p = none := bfind_no hx h hp
theorem ixI_at (hx : xs[k]? = some x) (h : (xs.take k).find? p = none) (hp : p x = true) : ixI p xs = k := by unfold ixI; rw [bfind_yes hx h hp, bfind_at hx h hp]
theorem ixI_end (hk : xs.length = k) (h : (xs.take k).find? p = none) : ixI p xs = -1 := by unfold ixI; rw [bfind_end hk h]
theorem ixI_neg : decide (ixI p xs < 0) = !(xs.any p) := by
  unfold ixI
  cases h : xs.find? p with
  | none =>
    have : xs.any p = false := by
      rw [List.find?_eq_none] at h
      rw [List.any_eq_false]
      intro y hy
      simpa using h y hy
    simp [this]
  | some y =>
    have : xs.any p = true := List.any_eq_true.2 ⟨y, List.mem_of_find?_eq_some h, List.find?_some h⟩
    simp [this]
theorem ixI_pos : decide (0 ≤ ixI p xs) = xs.any p := by
  have h : decide (0 ≤ ixI p xs) = !(decide (ixI p xs < 0)) := by
    by_cases h0 : ixI p xs < 0
    · rw [decide_eq_true h0, decide_eq_false (by omega)]; rfl
    · rw [decide_eq_false h0, decide_eq_true (by omega)]; rfl
  rw [h, ixI_neg]; simp
theorem ixI_lt : ixI p xs < xs.length ∨ xs.length = 0 := by
  unfold ixI
  cases h : xs.find? p with
  | none => simp; omega
  | some y => left; have := List.findIdx_lt_length_of_exists (p := p) (xs := xs) ⟨y, List.mem_of_find?_eq_some h, List.find?_some h⟩; simpa using this
theorem any_take_step (hx : xs[k]? = some x) : (xs.take (k + 1)).any p = ((xs.take k).any p || p x) := by
  rw [List.take_add_one, hx, List.any_append]; simp
theorem any_take_all (h : xs.length ≤ k) : xs.take k = xs := List.take_of_length_le h
theorem find_any (h : (xs.take k).find? p = none) : (xs.take k).any p = false := by
  rw [List.find?_eq_none] at h
  rw [List.any_eq_false]
  intro y hy
  simpa using h y hy
end
/-- A session of this Id. -/
def siP (id : Int) (s : SessV) : Bool := s.id == id
/-- A flow whose owner is gone. -/
def owP (ss : List SessV) (f : FlowV) : Bool := (f.ow != 0) && !(ss.any (siP f.ow))
def owB (ss : List SessV) (fl : List FlowV) : Bool := !(fl.any (owP ss))
/-- A connection of these ends. -/
def cnP (ip po di : Int) (d : ConnV) : Bool := (d.ip == ip) && ((d.po == po) && (d.di == di))
def cnAt (co : List ConnV) (i : Nat) (c : ConnV) : Bool := okB c && (!(c.st == 4) && !((co.take i).any (cnP c.ip c.po c.di)))
def cnOk (co : List ConnV) (k : Nat) : Prop := ∀ i c, i < k → co[i]? = some c → cnAt co i c = true
noncomputable def cnB (co : List ConnV) : Bool := @decide (co.length ≤ 3 ∧ cnOk co co.length) (Classical.propDecidable _)
theorem cnOk_zero (co : List ConnV) : cnOk co 0 := fun i c h => absurd h (by omega)
theorem cnOk_step {co : List ConnV} {k : Nat} {c : ConnV} (h : cnOk co k) (hc : co[k]? = some c) (ht : cnAt co k c = true) : cnOk co (k + 1) := by
  intro i d hi hd
  by_cases hik : i < k
  · exact h i d hik hd
  · obtain rfl : i = k := by omega
    rw [hc] at hd; cases hd; exact ht
theorem cnB_long {co : List ConnV} (h : 3 < co.length) : cnB co = false := by
  unfold cnB; rw [decide_eq_false_iff_not]; intro h2; omega
theorem cnB_no {co : List ConnV} {k : Nat} {c : ConnV} (hc : co[k]? = some c) (ht : cnAt co k c = false) : cnB co = false := by
  unfold cnB; rw [decide_eq_false_iff_not]
  intro h2
  have := h2.2 k c (List.getElem?_eq_some_iff.1 hc).1 hc
  rw [ht] at this; cases this
theorem cnB_of {co : List ConnV} {k : Nat} (hk : co.length = k) (h : cnOk co k) : cnB co = decide ((k : Int) ≤ 3) := by
  subst hk
  unfold cnB
  by_cases h3 : co.length ≤ 3
  · rw [decide_eq_true (show (co.length : Int) ≤ 3 by omega)]; exact @decide_eq_true _ (Classical.propDecidable _) ⟨h3, h⟩
  · rw [decide_eq_false (show ¬ (co.length : Int) ≤ 3 by omega)]; exact @decide_eq_false _ (Classical.propDecidable _) (fun h2 => h3 h2.1)
noncomputable def gtB (g : GtV) : Bool := gokB g.ip g.b g.gt g.gm g.wm g.rs g.ps g.ros g.us g.ss g.fs g.es g.nx && (foB g.fl && (owB g.ss g.fl && (cnB g.co && (dec (0 ≤ g.nw ∧ g.nw ≤ 100000) && (dec (0 ≤ g.dr ∧ g.dr ≤ 1000000) && dec (0 ≤ g.sn ∧ g.sn ≤ 4294967295))))))
theorem ow_nonneg {fl : List FlowV} (h : foB fl = true) {f : FlowV} (hf : f ∈ fl) : 0 ≤ f.ow := by
  unfold foB at h
  replace h := @of_decide_eq_true _ (Classical.propDecidable _) h
  obtain ⟨i, hi⟩ := List.getElem?_of_mem hf
  have := h.2.1 i f (List.getElem?_eq_some_iff.1 hi).1 hi
  unfold flB at this
  simp [dec] at this
  omega
end Go.Proofs.YtlebblmlbhnppaaGreat

namespace Go.Proofs.YtlebblmlbhnppaaGreat
open Go.RowKit Go.PlainAid Go.Maps
set_option linter.unusedVariables false

/-- What the records ahead of k say of the record at k. -/
def recAt (rs : List RecV) (k : Nat) (r : RecV) : Prop :=
  (∀ j e, j < k → rs[j]? = some e → e.id = r.id → e.st = false ∧ r.st = true ∧ e.tm ≤ r.tm) ∧ (r.st = true ↔ ∃ j e, j < k ∧ rs[j]? = some e ∧ e.id = r.id)
def recOk (rs : List RecV) (k : Nat) : Prop := ∀ i r, i < k → rs[i]? = some r → recAt rs i r
noncomputable def recB (rs : List RecV) : Bool := @decide (recOk rs rs.length) (Classical.propDecidable _)
theorem recB_yes {rs : List RecV} (h : recOk rs rs.length) : recB rs = true := by
  unfold recB
  exact @decide_eq_true _ (Classical.propDecidable _) h
theorem recB_no {rs : List RecV} {k : Nat} {r : RecV} (hr : rs[k]? = some r) (h : ¬ recAt rs k r) : recB rs = false := by
  unfold recB
  exact @decide_eq_false _ (Classical.propDecidable _) (fun h' => h (h' k r (List.getElem?_eq_some_iff.1 hr).1 hr))
theorem recOk_zero (rs : List RecV) : recOk rs 0 := fun i r hi => absurd hi (by omega)
theorem recOk_step {rs : List RecV} {k : Nat} {r : RecV} (h : recOk rs k) (hr : rs[k]? = some r) (hk : recAt rs k r) : recOk rs (k + 1) := by
  intro i e hi he
  by_cases h1 : i < k
  · exact h i e h1 he
  · obtain rfl : i = k := by omega
    rw [hr] at he
    cases he
    exact hk
/-- The last record of an Id ahead of k. -/
def lastAt (rs : List RecV) (k : Nat) (n : Int) (e : RecV) : Prop := ∃ j, j < k ∧ rs[j]? = some e ∧ e.id = n ∧ ∀ i f, j < i → i < k → rs[i]? = some f → f.id ≠ n
theorem last_says {rs : List RecV} {k : Nat} {r e : RecV} (h : recOk rs k) (hr : rs[k]? = some r) (hl : lastAt rs k r.id e) : recAt rs k r ↔ (e.st = false ∧ r.st = true ∧ e.tm ≤ r.tm) := by
  obtain ⟨j, hj, he, hid, hn⟩ := hl
  constructor
  · intro h1
    exact h1.1 j e hj he hid
  · rintro ⟨h1, h2, h3⟩
    refine ⟨fun i f hi hf hfi => ?_, ⟨fun _ => ⟨j, e, hj, he, hid⟩, fun _ => h2⟩⟩
    have hij : ¬ j < i := fun hlt => hn i f hlt hi hf hfi
    by_cases hie : i = j
    · subst hie
      rw [he] at hf
      cases hf
      exact ⟨h1, h2, h3⟩
    · have := (h j e hj he).2.2 ⟨i, f, by omega, hf, by rw [hfi, hid]⟩
      rw [h1] at this
      cases this
theorem none_says {rs : List RecV} {k : Nat} {r : RecV} (hn : ∀ i f, i < k → rs[i]? = some f → f.id ≠ r.id) : recAt rs k r ↔ r.st = false := by
  constructor
  · intro h1
    cases hs : r.st with
    | false => rfl
    | true =>
      obtain ⟨j, e, hj, he, hid⟩ := h1.2.1 hs
      exact absurd hid (hn j e hj he)
  · intro h1
    refine ⟨fun j e hj he hid => absurd hid (hn j e hj he), ⟨(fun h => by rw [h1] at h; cases h), (fun ⟨j, e, hj, he, hid⟩ => absurd hid (hn j e hj he))⟩⟩

section Mp
variable {H : Type}
/-- How the value of a span reads. -/
def spanElem (v : Value) : Option (DataW H × List MemPlace) :=
  match v with
  | .agg cs => (match cs.toList with
    | [.int .i64 a, .bool b] => some (.agg [.lit (.int .i64 a), .lit (.bool b)], [])
    | _ => none)
  | _ => none
theorem spanElem_mk (a : Int) (b : Bool) : spanElem (H := H) (.agg #[.int .i64 a, .bool b]) = some (.agg [.lit (.int .i64 a), .lit (.bool b)], []) := rfl
theorem spanElem_inv {v : Value} {a : Int} {b : Bool} {ps : List MemPlace} (h : spanElem (H := H) v = some (.agg [.lit (.int .i64 a), .lit (.bool b)], ps)) : v = .agg #[.int .i64 a, .bool b] := by
  unfold spanElem at h
  split at h
  · rename_i cs
    obtain ⟨l⟩ := cs
    dsimp only at h
    split at h
    · simp only [Option.some.injEq, Prod.mk.injEq, DataW.agg.injEq, List.cons.injEq, DataW.lit.injEq, Lit.int.injEq, Lit.bool.injEq, true_and, and_true] at h
      obtain ⟨⟨rfl, rfl⟩, -⟩ := h
      rfl
    · cases h
  · cases h
def spanD (e : RecV) : DataW H := .agg [.lit (.int .i64 e.tm), .lit (.bool e.st)]
def recD (rs : List RecV) : DataW H := rs.foldl (fun m e => m.put (.int .i64 e.id) (spanD e)) (.map [])
theorem recD_snoc (rs : List RecV) (e : RecV) : recD (H := H) (rs ++ [e]) = (recD rs).put (.int .i64 e.id) (spanD e) := by simp [recD, List.foldl_append]
theorem recD_take {rs : List RecV} {k : Nat} {e : RecV} (h : rs[k]? = some e) : recD (H := H) (rs.take (k + 1)) = (recD (rs.take k)).put (.int .i64 e.id) (spanD e) := by
  rw [← recD_snoc]
  congr 1
  rw [List.take_add_one, h]
  rfl
theorem recD_isMap (rs : List RecV) : ∀ k, IsMap (recD (H := H) (rs.take k))
  | 0 => by simp [recD]; exact isMap_empty
  | k + 1 => by
    cases h : rs[k]? with
    | none =>
      have hl : rs.length ≤ k := by simpa using h
      have := recD_isMap rs k
      rw [List.take_of_length_le hl] at this
      rw [List.take_of_length_le (by omega)]
      exact this
    | some e =>
      rw [recD_take h]
      exact (recD_isMap rs k).put _ _
theorem lit_ne {a b : Int} (h : a ≠ b) : (Lit.int .i64 a : Lit) ≠ .int .i64 b := fun e => h (by injection e)
/-- What the map says of an Id. -/
theorem recD_says (rs : List RecV) (n : Int) : ∀ k, k ≤ rs.length →
    (has (recD (H := H) (rs.take k)) (.int .i64 n) = false ∧ (∀ i f, i < k → rs[i]? = some f → f.id ≠ n)) ∨ (has (recD (H := H) (rs.take k)) (.int .i64 n) = true ∧ ∃ e, lastAt rs k n e ∧ ∀ z, (recD (H := H) (rs.take k)).atKey (.int .i64 n) z = spanD e)
  | 0, _ => .inl ⟨by simp [recD, has_eq], fun i f hi => absurd hi (by omega)⟩
  | k + 1, hk => by
    obtain ⟨e, he⟩ : ∃ e, rs[k]? = some e := ⟨_, List.getElem?_eq_getElem (by omega)⟩
    rw [recD_take he]
    by_cases hn : e.id = n
    · subst hn
      refine .inr ⟨has_put_same (k := .int .i64 e.id) (recD_isMap rs k) trivial _, e, ⟨k, by omega, he, rfl, fun i f h1 h2 => absurd h1 (by omega)⟩, fun z => atKey_put_same (k := .int .i64 e.id) (recD_isMap rs k) trivial _ _⟩
    · have hne : (Lit.int .i64 n : Lit) ≠ .int .i64 e.id := lit_ne (fun h => hn h.symm)
      rcases recD_says rs n k (by omega) with ⟨h1, h2⟩ | ⟨h1, f, ⟨j, hj, hf, hid, hl⟩, h3⟩
      · refine .inl ⟨(has_put_other hne _).trans h1, fun i f hi hf => ?_⟩
        by_cases hik : i < k
        · exact h2 i f hik hf
        · obtain rfl : i = k := by omega
          rw [he] at hf
          cases hf
          exact hn
      · refine .inr ⟨(has_put_other hne _).trans h1, f, ⟨j, by omega, hf, hid, fun i g h4 h5 hg => ?_⟩, fun z => (atKey_put_other hne _ _).trans (h3 z)⟩
        by_cases hik : i < k
        · exact hl i g h4 hik hg
        · obtain rfl : i = k := by omega
          rw [he] at hg
          cases hg
          exact hn
end Mp
end Go.Proofs.YtlebblmlbhnppaaGreat

namespace Go.Proofs.YtlebblmlbhnppaaGreat
open Go.RowKit Go.PlainAid Go.Proofs.YtlebblmlbhnppaaGreat.Bt Go.Sort
set_option linter.unusedVariables false
set_option maxRecDepth 20000
def mrN (b e : Bool) : Int := (if b then 1 else 0) + (if e then 2 else 0)
def begB (es : List RecV) (q : Int) : Bool := es.any (fun r => (r.id == q) && !r.st)
def endB (es : List RecV) (q : Int) : Bool := es.any (fun r => (r.id == q) && r.st)
def opF (q : Int) (b : Bool) (r : RecV) : Bool := if r.id = q then !r.st else b
def opnB (es : List RecV) (q : Int) : Bool := es.foldl (opF q) false
theorem opn_step {es : List RecV} {q : Int} {k : Nat} {r : RecV} (h : es[k]? = some r) : opnB (es.take (k + 1)) q = opF q (opnB (es.take k) q) r := by
  unfold opnB
  rw [List.take_add_one, h, List.foldl_append]; rfl
theorem opn_marks {es : List RecV} (h : recB es = true) (q : Int) : opnB es q = (begB es q && !endB es q) := by
  have hr : recOk es es.length := by
    unfold recB at h
    exact @of_decide_eq_true _ (Classical.propDecidable _) h
  have hk : ∀ k, k ≤ es.length → opnB (es.take k) q = (begB (es.take k) q && !endB (es.take k) q) := by
    intro k
    induction k with
    | zero => intro _; simp [opnB, begB, endB]
    | succ k ih =>
      intro hk
      obtain ⟨r, hx⟩ := at_of (xs := es) (k := k) rfl (by omega)
      have ih := ih (by omega)
      have hR := hr k r (by omega) hx
      have eb : begB (es.take (k + 1)) q = (begB (es.take k) q || ((r.id == q) && !r.st)) := any_take_step hx
      have ee : endB (es.take (k + 1)) q = (endB (es.take k) q || ((r.id == q) && r.st)) := any_take_step hx
      rw [opn_step hx, eb, ee, ih]
      unfold opF
      by_cases hid : r.id = q
      · rw [if_pos hid]
        have e1 : (r.id == q) = true := by simp [hid]
        rw [e1]
        cases hs : r.st with
        | true => simp
        | false =>
          have none_ : ∀ p : RecV → Bool, (es.take k).any (fun e => (e.id == q) && p e) = false := by
            intro p
            rw [List.any_eq_false]
            intro e he
            obtain ⟨j, hj⟩ := List.getElem?_of_mem he
            have hjk : j < k := by
              have := (List.getElem?_eq_some_iff.1 hj).1
              simp at this; omega
            rw [List.getElem?_take_of_lt hjk] at hj
            intro hp
            simp at hp
            have := (hR.1 j e hjk hj (by rw [hp.1, hid])).2.1
            rw [hs] at this; cases this
          have n2 : endB (es.take k) q = false := none_ (fun e => e.st)
          rw [n2]; simp
      · rw [if_neg hid]
        have e1 : (r.id == q) = false := by simp [hid]
        rw [e1]; simp
  have := hk es.length (Nat.le_refl _)
  rwa [List.take_length] at this
theorem mk_one (b e : Bool) : (mrN b e != 1) = !(b && !e) := by cases b <;> cases e <;> rfl
theorem mk_or1 (b e : Bool) : bits BinOp.or IntKind.i64 (mrN b e) 1 = mrN true e := by cases b <;> cases e <;> rfl
theorem mk_or2 (b e : Bool) : bits BinOp.or IntKind.i64 (mrN b e) 2 = mrN b true := by cases b <;> cases e <;> rfl
noncomputable def bhB (g : GtV) : Bool := gtB g && (recB g.es && g.ss.all (fun s => opnB g.es s.id))
noncomputable def bhC (g : GtV) : Int := if gtB g = true then 0 else 1
theorem gt_lens {g : GtV} (h : gtB g = true) : g.us.length ≤ 6 ∧ g.ss.length ≤ 3 ∧ g.es.length ≤ 60 := by
  unfold gtB at h
  rw [Bool.and_eq_true] at h
  have h1 := h.1
  unfold gokB usB at h1
  simp [dec] at h1
  omega
theorem flt_astray {ss : List SessV} {p : SessV → Bool} {q : SessV → Bool} (h : ∀ s, s ∈ ss → p s = !q s) : (((ss.filter p).length : Int) == 0) = ss.all q := by
  have e : ss.all q = !(ss.any p) := by
    rw [List.all_eq_not_any_not]
    congr 1
    apply Bool.eq_iff_iff.2
    rw [List.any_eq_true, List.any_eq_true]
    constructor
    · rintro ⟨x, hx, hp⟩; exact ⟨x, hx, by rw [h x hx]; exact hp⟩
    · rintro ⟨x, hx, hp⟩; exact ⟨x, hx, by rw [h x hx] at hp; exact hp⟩
  rw [e]
  cases hq : ss.any p with
  | true =>
    have : ¬ (ss.filter p).length = 0 := by
      rw [List.length_eq_zero_iff, List.filter_eq_nil_iff]
      intro hn
      rw [List.any_eq_true] at hq
      obtain ⟨x, hx, hp⟩ := hq
      exact hn x hx hp
    rw [Bool.not_true, beq_eq_false_iff_ne]
    omega
  | false =>
    have : (ss.filter p).length = 0 := by
      rw [List.length_eq_zero_iff, List.filter_eq_nil_iff]
      rw [List.any_eq_false] at hq
      exact hq
    simp [this]
end Go.Proofs.YtlebblmlbhnppaaGreat

namespace Go.Proofs.YtlebblmlbhnppaaGreat
open Go.RowKit Go.PlainAid
set_option linter.unusedVariables false

theorem flatS_tail {α : Type} {c : α → List Value} {K : Nat} (hK : ∀ x, (c x).length = K) (xs : List α) (i : Nat) (x y : α) (j : Nat) (hx : xs[i]? = some x) (hj : j ≤ K) (hy : (c y).take j = (c x).take j) : flatS c (xs.set i y) = sets (flatS c xs) (i * K + j) ((c y).drop j) := by
  have hi := (List.getElem?_eq_some_iff.1 hx).1
  obtain ⟨A, x', C, rfl, rfl⟩ : ∃ A x C, xs = A ++ x :: C ∧ A.length = i := ⟨xs.take i, xs[i], xs.drop (i + 1), by simp, by simp; omega⟩
  have ex : x' = x := by simpa using hx
  subst ex
  have e : (A ++ x' :: C).set A.length y = A ++ y :: C := by simp
  have h1 : flatS c (A ++ x' :: C) = (flatS c A ++ (c x').take j) ++ ((c x').drop j ++ flatS c C) := by
    rw [flatS_append, flatS_cons, List.append_assoc, ← List.append_assoc (List.take j (c x')), List.take_append_drop]
  have h2 : A.length * K + j = (flatS c A ++ (c x').take j).length := by
    rw [List.length_append, flatS_len hK, List.length_take, hK]
    omega
  rw [e, h1, h2, sets_mid _ _ _ _ (by rw [List.length_drop, List.length_drop, hK, hK]), flatS_append, flatS_cons, ← hy]
  rw [List.append_assoc, ← List.append_assoc (List.take j (c y)), List.take_append_drop]
/-- The fields of an element from j on, stored. -/
theorem OwnS.tail {α : Type} {c : α → List Value} {K : Nat} {e : TypeId} {w : World} {B : Nat} {xs : List α} {g n cap : Nat} (h : OwnS c K e w B (.slice (some ⟨g, 0, none⟩) n cap) xs) (hK : ∀ x, (c x).length = K) {i j : Nat} {x : α} (y : α) (hx : xs[i]? = some x) (hj : j ≤ K) (hy : (c y).take j = (c x).take j) :
    OwnS c K e (wsets w g (i * K + j) ((c y).drop j)) B (.slice (some ⟨g, 0, none⟩) n cap) (xs.set i y) ∧ w.grownBy (wsets w g (i * K + j) ((c y).drop j)) (some g) := by
  obtain rfl := h.len
  have := owns_sets ((c y).drop j) w _ (i * K + j) h
  refine ⟨?_, this.2⟩
  unfold OwnS
  rw [flatS_tail hK xs i x y j hx hj hy, List.length_set]
  exact this.1
theorem Grw.grown {w w' : World} (h : Grw w w') (r : Option Nat) : w.grownBy w' r := by
  have b := h.below
  obtain ⟨q, os, rfl⟩ := h
  exact ⟨rfl, rfl, rfl, b.size, fun k hk _ => b.block k hk⟩
/-- What is appended. -/
theorem OwnS.join {α : Type} {c : α → List Value} {K : Nat} {e : TypeId} {w w' : World} {B : Nat} {v v' : Value} {xs ys : List α} (h : OwnS c K e w B v xs) (hB : B ≤ w.heap.size) (h1 : w'.ownsRow B e K v' (xs.length + ys.length) (flatS c xs ++ flatS c ys)) (h2 : w.grownBy w' v.ownBlock) :
    OwnS c K e w' B v' (xs ++ ys) ∧ Below B w w' := by
  refine ⟨?_, (Below.refl B w).grown h2 hB (fun k hk => (h.lt k hk).1)⟩
  unfold OwnS
  rw [flatS_append, List.length_append]
  exact h1
end Go.Proofs.YtlebblmlbhnppaaGreat

namespace Go.Proofs.YtlebblmlbhnppaaGreat
open Go.RowKit Go.PlainAid Go.Sort
set_option linter.unusedVariables false
set_option maxRecDepth 20000
theorem one_newB {α : Type} (c : α → List Value) (w : World) (vals : Array Value) (t : TypeId) (x : α) (h : vals.toList = c x) : ∀ j u, (flatS c [x])[j]? = some u → (w.alloc (.cells vals t)).cell? ⟨w.heap.size, 0 + j, none⟩ = some u := by
  intro j u hu
  rw [Nat.zero_add]
  refine (Bx.new w vals t).cell j ?_
  rw [h]
  simpa [flatS] using hu
theorem flt_yes {V : Type} {p : V → Bool} {xs : List V} {k : Nat} {x : V} (hx : xs[k]? = some x) (h : p x = true) : (xs.take (k + 1)).filter p = (xs.take k).filter p ++ [x] := by
  rw [List.take_add_one, hx, List.filter_append]; simp [h]
theorem flt_no {V : Type} {p : V → Bool} {xs : List V} {k : Nat} {x : V} (hx : xs[k]? = some x) (h : p x = false) : (xs.take (k + 1)).filter p = (xs.take k).filter p := by
  rw [List.take_add_one, hx, List.filter_append]; simp [h]
theorem flt_len {V : Type} (p : V → Bool) (xs : List V) (k : Nat) : ((xs.take k).filter p).length ≤ k := Nat.le_trans (List.length_filter_le _ _) (by rw [List.length_take]; omega)
theorem flt_all {V : Type} {p : V → Bool} {xs : List V} {k : Nat} (h : xs.length = k) : (xs.take k).filter p = xs.filter p := by rw [List.take_of_length_le (by omega)]
theorem flt_none {V : Type} (p : V → Bool) (xs : List V) : ((xs.filter p).length = 0) ↔ (xs.any p = false) := by
  rw [List.length_eq_zero_iff, List.filter_eq_nil_iff, List.any_eq_false]
end Go.Proofs.YtlebblmlbhnppaaGreat

namespace Go.Proofs.YtlebblmlbhnppaaGreat
open Go.RowKit Go.PlainAid
set_option linter.unusedVariables false
set_option maxRecDepth 20000

/-- The decimal digits, as numbers of bytes. -/
def dgs (n : Nat) : List Int := if n < 10 then [48 + (n : Int)] else dgs (n / 10) ++ [48 + ((n % 10 : Nat) : Int)]
termination_by n
decreasing_by omega
theorem dgs_small {n : Nat} (h : n < 10) : dgs n = [48 + (n : Int)] := by rw [dgs, if_pos h]
theorem dgs_more {n : Nat} (h : 10 ≤ n) : dgs n = dgs (n / 10) ++ [48 + ((n % 10 : Nat) : Int)] := by rw [dgs, if_neg (by omega)]
theorem dgs_bd : ∀ n : Nat, ∀ x ∈ dgs n, 48 ≤ x ∧ x ≤ 57 := by
  intro n
  induction n using Nat.strongRecOn with
  | _ n ih =>
    intro x hx
    by_cases h : n < 10
    · rw [dgs_small h] at hx; simp at hx; omega
    · rw [dgs_more (by omega)] at hx
      rcases List.mem_append.1 hx with h1 | h1
      · exact ih (n / 10) (by omega) x h1
      · simp at h1; omega
theorem dgs_len : ∀ (k n : Nat), n < 10 ^ (k + 1) → 1 ≤ (dgs n).length ∧ (dgs n).length ≤ k + 1
  | 0, n, h => by rw [dgs_small (by simpa using h)]; simp
  | k + 1, n, h => by
    by_cases h1 : n < 10
    · rw [dgs_small h1]; simp
    · have := dgs_len k (n / 10) (by rw [Nat.div_lt_iff_lt_mul (by omega)]; rw [Nat.pow_succ] at h; exact h)
      rw [dgs_more (by omega)]
      simp; omega
theorem strOfNums_append (L M : List Int) : strOfNums L ++ strOfNums M = strOfNums (L ++ M) := by
  apply ByteArray.ext
  simp [strOfNums, ByteArray.data_append]

/-- 'string([]byte{x})'. -/
theorem conv_one (wx : World) (b : Nat) (x : Int) (h0 : 0 ≤ x) (h1 : x ≤ 255) (hb : wx.cell? ⟨b, 0, none⟩ = some (.int .u8 x)) : (convert 72 9 (.slice (some ⟨b, 0, none⟩) 1 1)).run Tryz.prog wx = .ok (.string (strOfNums [x])) wx := by
  have hB : Bytes wx (some ⟨b, 0, none⟩) [x].length (fun j => [x].getD j 0) := by
    refine ⟨fun k => ?_, fun _ => ⟨b, 0, rfl, fun i hi => ?_⟩⟩
    · rcases k with _ | k <;> simp <;> omega
    · obtain rfl : i = 0 := by simpa using hi
      simpa using hb
  exact conv_own (P := Tryz.prog) wx 72 9 5 Tryz.underlying72 Tryz.underlying5 Tryz.underlying9 (some ⟨b, 0, none⟩) 1 [x] hB

end Go.Proofs.YtlebblmlbhnppaaGreat

namespace Go.Proofs.YtlebblmlbhnppaaGreat
open Go.RowKit Go.PlainAid Go.Proofs.YtlebblmlbhnppaaGreat.Bt Go.Sort
set_option linter.unusedVariables false
set_option maxRecDepth 20000
/-- The digits of a number, laid ahead of others. -/
def mtF (k : Nat) (L : List Int) : List Int := if h : k = 0 then L else mtF (k / 10) ((48 + ((k % 10 : Nat) : Int)) :: L)
termination_by k
decreasing_by omega
theorem mtF_zero (L : List Int) : mtF 0 L = L := by rw [mtF, dif_pos rfl]
theorem mtF_step {k : Nat} (h : 0 < k) (L : List Int) : mtF k L = mtF (k / 10) ((48 + ((k % 10 : Nat) : Int)) :: L) := by rw [mtF, dif_neg (by omega)]
/-- What markText answers. -/
def mtS (k : Nat) : ByteArray := strOfNums [109] ++ strOfNums (mtF k [])
theorem m_lit : (⟨#[109]⟩ : ByteArray) = strOfNums [109] := by
  apply ByteArray.ext
  simp [strOfNums]
set_option maxHeartbeats 1000000 in
theorem markText_any (n : Nat) (w : World) (h0 : 0 < n) (hn : n ≤ 1000000000000) :
    Calls Tryz.prog 139 #[.int .i64 n] w fun e w' => e = .returned (.string (mtS n)) ∧ Grw w w' := by
  have hpos : decide ((n : Int) ≤ 0) = false := by simp; omega
  go_enter Tryz.func139, Tryz.ntmps139
  go_wp2
  go_loopw [0, 3] (fun p q wr => ∃ (k : Nat) (L : List Int), k ≤ n ∧ p = .int .i64 k ∧ q = .string (strOfNums L) ∧ Hid (mtF k L = mtF n [] ∧ k < 10 ^ (20 - L.length) ∧ L.length ≤ 20) ∧ Hid (Grw w wr)) (fun p _ _ => (intOf p).toNat)
  case atStart => exact ⟨n, [], Nat.le_refl _, rfl, rfl, ⟨rfl, by simp; omega, by simp⟩, Grw.refl _⟩
  case round =>
    obtain ⟨k, L, hk, rfl, rfl, HM, HG⟩ := hrel
    by_cases hlt : 0 < k
    · have hltz : (0 : Int) < (k : Int) := by omega
      have hL : L.length + 1 ≤ 20 := by
        have h1 := HM.out.2.1
        have h2 := HM.out.2.2
        by_cases h3 : L.length = 20
        · rw [h3] at h1
          simp at h1
          omega
        · omega
      have HM2 : Hid (mtF (k / 10) ((48 + (k : Int) % 10) :: L) = mtF n [] ∧ k / 10 < 10 ^ (20 - (((48 + (k : Int) % 10) :: L)).length) ∧ (((48 + (k : Int) % 10) :: L)).length ≤ 20) := by
        have e : ((k % 10 : Nat) : Int) = (k : Int) % 10 := by omega
        refine ⟨by rw [← e, ← mtF_step hlt]; exact HM.out.1, ?_, by simpa using hL⟩
        rw [Nat.div_lt_iff_lt_mul (by omega), List.length_cons]
        have := HM.out.2.1
        rw [show 20 - L.length = (20 - (L.length + 1)) + 1 by omega, Nat.pow_succ] at this
        exact this
      have hcv : ∀ (wx : World) (b : Nat), wx.cell? ⟨b, 0, none⟩ = some (.int .u8 (48 + (k : Int) % 10)) → (convert 72 9 (.slice (some ⟨b, 0, none⟩) 1 1)).run Tryz.prog wx = .ok (.string (strOfNums [48 + (k : Int) % 10])) wx := fun wx b hb => conv_one wx b _ (by omega) (by omega) hb
      have hcv1 := hcv (wr.alloc (.cells #[.int .u8 (48 + (k : Int) % 10)] 5)) wr.heap.size (by simp)
      have hadd : ∀ wx : World, (Op.stringOp .add (strOfNums [48 + (k : Int) % 10]) (strOfNums L)).run Tryz.prog wx = .ok (.string (strOfNums [48 + (k : Int) % 10] ++ strOfNums L)) wx := fun wx => run_string_add_sum (P := Tryz.prog) (w := wx) _ _ (by
        rw [strOfNums_size, strOfNums_size]
        simp; omega)
      rw [strOfNums_append] at hadd
      have hadd' : ∀ wx : World, (Op.stringOp .add (strOfNums [48 + (k : Int) % 10]) (strOfNums L)).run Tryz.prog wx = .ok (.string (strOfNums ((48 + (k : Int) % 10) :: L))) wx := hadd
      have hw1 : IntKind.i64.wrap ((k : Int) / 10) = (k : Int) / 10 := by rw [IntKind.wrap_i64]; omega
      have htm : (k : Int).tmod 10 = (k : Int) % 10 := Int.tmod_eq_emod_of_nonneg (by omega)
      have htd : (k : Int).tdiv 10 = (k : Int) / 10 := Int.tdiv_eq_ediv_of_nonneg (by omega)
      have hw2 : IntKind.i64.wrap ((k : Int) % 10) = (k : Int) % 10 := by rw [IntKind.wrap_i64]; omega
      have hw3 : IntKind.i64.wrap (48 + (k : Int) % 10) = 48 + (k : Int) % 10 := by rw [IntKind.wrap_i64]; omega
      have hw4 : IntKind.u8.wrap (48 + (k : Int) % 10) = 48 + (k : Int) % 10 := by rw [IntKind.wrap_u8]; omega
      have HG2 : Hid (Grw w (wr.alloc (.cells #[.int .u8 (48 + (k : Int) % 10)] 5))) := HG.out.alloc _
      have hdv : Hid ((k : Int) / 10 = ((k / 10 : Nat) : Int)) := by show _ = _; omega
      have hk2 : Hid (k / 10 < k) := Nat.div_lt_self hlt (by omega)
      generalize ((48 + (k : Int) % 10) :: L) = L2 at HM2 hadd'
      clear hadd HM HG
      go_wp2
      go_roundw
      case rel => exact ⟨k / 10, L2, by omega, by rw [hdv.out], rfl, HM2, HG2⟩
      case measure => simp [intOf]; omega
    · obtain rfl : k = 0 := by omega
      have e0 := HM.out.1
      rw [mtF_zero] at e0
      have E : Hid (mtS n = strOfNums [109] ++ strOfNums L) := by
        show mtS n = _
        unfold mtS
        rw [e0]
      have hadd : ∀ wx : World, (Op.stringOp .add (⟨#[109]⟩ : ByteArray) (strOfNums L)).run Tryz.prog wx = .ok (.string (strOfNums [109] ++ strOfNums L)) wx := fun wx => by
        rw [m_lit]
        exact run_string_add_sum (P := Tryz.prog) (w := wx) _ _ (by
          have := HM.out.2.2
          rw [strOfNums_size, strOfNums_size]
          simp; omega)
      generalize strOfNums [109] ++ strOfNums L = R at E hadd
      clear e0 HM
      go_wp2
      go_ret
      exact ⟨by rw [E.out]; rfl, HG.out⟩
theorem mtS_len (k : Nat) (h : k ≤ 1000000000000) : (mtS k).size ≤ 1000 := by
  have : ∀ (m k : Nat) (L : List Int), k < 10 ^ m → (mtF k L).length ≤ L.length + m := by
    intro m
    induction m with
    | zero => intro k L h; simp at h; subst h; rw [mtF_zero]; omega
    | succ m ih =>
      intro k L h
      by_cases h0 : k = 0
      · subst h0; rw [mtF_zero]; omega
      · rw [mtF_step (by omega)]
        have := ih (k / 10) ((48 + ((k % 10 : Nat) : Int)) :: L) (by rw [Nat.div_lt_iff_lt_mul (by omega)]; rw [Nat.pow_succ] at h; exact h)
        rw [List.length_cons] at this
        omega
  have h1 := this 13 k [] (by omega)
  unfold mtS
  simp [ByteArray.size_append, strOfNums_size] at h1 ⊢
  omega
theorem int_wf9 {n : Int} (h0 : 0 ≤ n) (h1 : n ≤ 1000000000000) : (Lit.int .i64 n).wf = true := by
  have : IntKind.i64.min = -9223372036854775808 := by decide
  have : IntKind.i64.max = 9223372036854775807 := by decide
  simp [Lit.wf]
  omega
end Go.Proofs.YtlebblmlbhnppaaGreat

namespace Go.Proofs.YtlebblmlbhnppaaGreat
open Go.RowKit Go.PlainAid Go.Proofs.YtlebblmlbhnppaaGreat.Bt Go.Sort
set_option linter.unusedVariables false
set_option maxRecDepth 20000
theorem uvG_len (u : UserV) : (uvG u).length = 6 := rfl
theorem svG_len (u : SessV) : (svG u).length = 10 := rfl
theorem fvG_len (u : FailV) : (fvG u).length = 3 := rfl
theorem evG_len (u : RecV) : (evG u).length = 5 := rfl
/-- What is marked. -/
def mkUser (M : Nat) : UserV := ⟨mtS M, mtS (M + 1), mtS (M + 2), mtS (M + 3), (M : Int) + 1 + 1 + 1 + 1, (M : Int) + 1 + 1 + 1 + 1 + 1⟩
def mkUserL (m0 n : Nat) : List UserV := (List.range n).map (fun k => mkUser (m0 + 6 * k))
theorem mkUserL_len (m0 n : Nat) : (mkUserL m0 n).length = n := by simp [mkUserL]
theorem mkUserL_at (m0 n i : Nat) (h : i < n) : (mkUserL m0 n)[i]? = some (mkUser (m0 + 6 * i)) := by rw [mkUserL, List.getElem?_map, List.getElem?_range h]; rfl
theorem mkUser_ok (M : Nat) (h : M + 6 ≤ 1000000000000) : UsRok (mkUser M) := by
  unfold UsRok mkUser
  dsimp only
  exact ⟨Nat.le_trans (mtS_len _ (by omega)) (by unfold maxLen; omega), Nat.le_trans (mtS_len _ (by omega)) (by unfold maxLen; omega), Nat.le_trans (mtS_len _ (by omega)) (by unfold maxLen; omega), Nat.le_trans (mtS_len _ (by omega)) (by unfold maxLen; omega), int_wf9 (by omega) (by omega), int_wf9 (by omega) (by omega)⟩
theorem mkUserL_ok (m0 n : Nat) (h : m0 + 6 * n ≤ 1000000000000) : ∀ x, x ∈ mkUserL m0 n → UsRok x := by
  intro x hx
  unfold mkUserL at hx
  simp at hx
  obtain ⟨i, hi, rfl⟩ := hx
  exact mkUser_ok _ (by omega)
set_option maxHeartbeats 4000000 in
theorem markUserS_any (a : Option Addr) (n cap B m0 : Nat) (L : List UserV) (w : World) (h : OwnS uvG 6 144 w B (.slice a n cap) L) (h0 : 0 < m0) (hm : m0 + 6 * n ≤ 100000000000) :
    Calls Tryz.prog 62 #[.slice a n cap, .int .i64 (m0 : Int)] w fun e w' => e = .returned (.int .i64 ((m0 + 6 * n : Nat) : Int)) ∧ OwnS uvG 6 144 w' B (.slice a n cap) (mkUserL m0 n) ∧ w.grownBy w' (Value.slice a n cap).ownBlock := by
  have H : Hid (OwnS uvG 6 144 w B (.slice a n cap) L) := h
  have hn := h.len
  have hlen : n ≤ 100000000000 := by omega
  clear h
  go_enter Tryz.func62, Tryz.ntmps62
  go_wp2
  go_loopw [1, 5] (fun m i wr => ∃ (k M : Nat) (L' : List UserV), k ≤ n ∧ i = .int .i64 k ∧ m = .int .i64 (M : Int) ∧ Hid (M = m0 + 6 * k) ∧ Hid (OwnS uvG 6 144 wr B (.slice a n cap) L' ∧ L'.length = n ∧ L'.take k = (mkUserL m0 n).take k ∧ w.grownBy wr (Value.slice a n cap).ownBlock)) (fun _ i _ => n - (intOf i).toNat)
  case atStart => exact ⟨0, m0, L, Nat.zero_le _, rfl, rfl, by show m0 = _; omega, H.out, hn, rfl, grown_refl w _⟩
  case round =>
    obtain ⟨k, M, L', hk, rfl, rfl, hM, X⟩ := hrel
    by_cases hlt : k < n
    · obtain ⟨g, rfl, hBg, hg, -⟩ := X.out.1.form (by rw [X.out.2.1]; omega)
      obtain ⟨x, hx⟩ := at_of (k := k) X.out.2.1 hlt
      have hltz : (k : Int) < (n : Int) := by omega
      have hMz : (M : Int) ≤ 200000000000 := by have := hM.out; omega
      have hM0 : 0 < M := by have := hM.out; omega
      have G0 : Hid (w.grownBy wr (some g)) := X.out.2.2.2
      have o0 := X.out.1
      have hT : Hid (L'.length = n ∧ L'.take k = (mkUserL m0 n).take k) := ⟨X.out.2.1, X.out.2.2.1⟩
      clear X
      have HM0 : Hid (∀ w, Calls Tryz.prog 139 #[.int .i64 ((M : Int))] w fun e w' => e = .returned (.string (mtS (M))) ∧ Grw w w') := fun w => by
        have := markText_any (M) w (by omega) (by omega)
        exact this
      go_wp2_with fail
      refine (HM0.out _).mono ?_
      rintro e wt0 ⟨rfl, gt0⟩
      have ot0 := o0.now gt0.below
      have Gt0 : Hid (w.grownBy wt0 (some g)) := grown_tr G0.out (gt0.grown _)
      clear HM0 gt0 o0 G0
      obtain ⟨c0, z0⟩ := ot0.cell uvG_len (j := 0) hx rfl
      replace c0 : wt0.cell? ⟨g, k * 6, none⟩ = some (.string x.nm) := c0
      replace z0 : wt0.frozen? ⟨g, k * 6, none⟩ = false := z0
      have s0 := ot0.set1 uvG_len (j := 0) (y := { x with nm := mtS M }) (u := .string (mtS M)) hx (by omega) rfl
      have hx0 : (L'.set k { x with nm := mtS M })[k]? = some { x with nm := mtS M } := List.getElem?_set_self (by rw [hT.out.1]; exact hlt)
      have Y0 : ∀ W1, W1 = (wt0.setCell ⟨g, k * 6, none⟩ (.string (mtS M))) → OwnS uvG 6 144 W1 B (.slice (some ⟨g, 0, none⟩) n cap) (L'.set k { x with nm := mtS M }) ∧ w.grownBy W1 (some g) := by
        intro W1 hW1
        subst hW1
        exact ⟨s0.1, (grown_tr Gt0.out s0.2)⟩
      have Z0 : Hid (OwnS uvG 6 144 (wt0.setCell ⟨g, k * 6, none⟩ (.string (mtS M))) B (.slice (some ⟨g, 0, none⟩) n cap) (L'.set k { x with nm := mtS M }) ∧ w.grownBy (wt0.setCell ⟨g, k * 6, none⟩ (.string (mtS M))) (some g)) := Y0 _ rfl
      have hy0 : Hid ((L'.set k { x with nm := mtS M })[k]? = some { x with nm := mtS M }) := hx0
      clear Y0 ot0 Gt0 s0 hx0 hx
      have HM1 : Hid (∀ w, Calls Tryz.prog 139 #[.int .i64 ((M : Int) + 1)] w fun e w' => e = .returned (.string (mtS (M + 1))) ∧ Grw w w') := fun w => by
        have := markText_any (M + 1) w (by omega) (by omega)
        rw [show ((M + 1 : Nat) : Int) = (M : Int) + 1 by omega] at this
        exact this
      go_wp2_with fail
      refine (HM1.out _).mono ?_
      rintro e wt1 ⟨rfl, gt1⟩
      clear c0 z0
      have ot1 := Z0.out.1.now gt1.below
      have Gt1 : Hid (w.grownBy wt1 (some g)) := grown_tr Z0.out.2 (gt1.grown _)
      clear HM1 gt1 Z0
      obtain ⟨c1, z1⟩ := ot1.cell uvG_len (j := 1) hy0.out rfl
      have s1 := ot1.set1 uvG_len (j := 1) (y := { x with nm := mtS M, sa := mtS (M + 1) }) (u := .string (mtS (M + 1))) hy0.out (by omega) rfl
      rw [List.set_set] at s1
      have hx1 : (L'.set k { x with nm := mtS M, sa := mtS (M + 1) })[k]? = some { x with nm := mtS M, sa := mtS (M + 1) } := List.getElem?_set_self (by rw [hT.out.1]; exact hlt)
      have Y1 : ∀ W1, W1 = (wt1.setCell ⟨g, k * 6 + 1, none⟩ (.string (mtS (M + 1)))) → OwnS uvG 6 144 W1 B (.slice (some ⟨g, 0, none⟩) n cap) (L'.set k { x with nm := mtS M, sa := mtS (M + 1) }) ∧ w.grownBy W1 (some g) := by
        intro W1 hW1
        subst hW1
        exact ⟨s1.1, (grown_tr Gt1.out s1.2)⟩
      have Z1 : Hid (OwnS uvG 6 144 (wt1.setCell ⟨g, k * 6 + 1, none⟩ (.string (mtS (M + 1)))) B (.slice (some ⟨g, 0, none⟩) n cap) (L'.set k { x with nm := mtS M, sa := mtS (M + 1) }) ∧ w.grownBy (wt1.setCell ⟨g, k * 6 + 1, none⟩ (.string (mtS (M + 1)))) (some g)) := Y1 _ rfl
      have hy1 : Hid ((L'.set k { x with nm := mtS M, sa := mtS (M + 1) })[k]? = some { x with nm := mtS M, sa := mtS (M + 1) }) := hx1
      clear Y1 ot1 Gt1 s1 hx1 
      have HM2 : Hid (∀ w, Calls Tryz.prog 139 #[.int .i64 ((M : Int) + 1 + 1)] w fun e w' => e = .returned (.string (mtS (M + 2))) ∧ Grw w w') := fun w => by
        have := markText_any (M + 2) w (by omega) (by omega)
        rw [show ((M + 2 : Nat) : Int) = (M : Int) + 1 + 1 by omega] at this
        exact this
      go_wp2_with fail
      refine (HM2.out _).mono ?_
      rintro e wt2 ⟨rfl, gt2⟩
      clear c1 z1
      have ot2 := Z1.out.1.now gt2.below
      have Gt2 : Hid (w.grownBy wt2 (some g)) := grown_tr Z1.out.2 (gt2.grown _)
      clear HM2 gt2 Z1
      obtain ⟨c2, z2⟩ := ot2.cell uvG_len (j := 2) hy1.out rfl
      have s2 := ot2.set1 uvG_len (j := 2) (y := { x with nm := mtS M, sa := mtS (M + 1), ha := mtS (M + 2) }) (u := .string (mtS (M + 2))) hy1.out (by omega) rfl
      rw [List.set_set] at s2
      have hx2 : (L'.set k { x with nm := mtS M, sa := mtS (M + 1), ha := mtS (M + 2) })[k]? = some { x with nm := mtS M, sa := mtS (M + 1), ha := mtS (M + 2) } := List.getElem?_set_self (by rw [hT.out.1]; exact hlt)
      have Y2 : ∀ W1, W1 = (wt2.setCell ⟨g, k * 6 + 2, none⟩ (.string (mtS (M + 2)))) → OwnS uvG 6 144 W1 B (.slice (some ⟨g, 0, none⟩) n cap) (L'.set k { x with nm := mtS M, sa := mtS (M + 1), ha := mtS (M + 2) }) ∧ w.grownBy W1 (some g) := by
        intro W1 hW1
        subst hW1
        exact ⟨s2.1, (grown_tr Gt2.out s2.2)⟩
      have Z2 : Hid (OwnS uvG 6 144 (wt2.setCell ⟨g, k * 6 + 2, none⟩ (.string (mtS (M + 2)))) B (.slice (some ⟨g, 0, none⟩) n cap) (L'.set k { x with nm := mtS M, sa := mtS (M + 1), ha := mtS (M + 2) }) ∧ w.grownBy (wt2.setCell ⟨g, k * 6 + 2, none⟩ (.string (mtS (M + 2)))) (some g)) := Y2 _ rfl
      have hy2 : Hid ((L'.set k { x with nm := mtS M, sa := mtS (M + 1), ha := mtS (M + 2) })[k]? = some { x with nm := mtS M, sa := mtS (M + 1), ha := mtS (M + 2) }) := hx2
      clear Y2 ot2 Gt2 s2 hx2 
      have HM3 : Hid (∀ w, Calls Tryz.prog 139 #[.int .i64 ((M : Int) + 1 + 1 + 1)] w fun e w' => e = .returned (.string (mtS (M + 3))) ∧ Grw w w') := fun w => by
        have := markText_any (M + 3) w (by omega) (by omega)
        rw [show ((M + 3 : Nat) : Int) = (M : Int) + 1 + 1 + 1 by omega] at this
        exact this
      go_wp2_with fail
      refine (HM3.out _).mono ?_
      rintro e wt3 ⟨rfl, gt3⟩
      clear c2 z2
      have ot3 := Z2.out.1.now gt3.below
      have Gt3 : Hid (w.grownBy wt3 (some g)) := grown_tr Z2.out.2 (gt3.grown _)
      clear HM3 gt3 Z2
      obtain ⟨c3, z3⟩ := ot3.cell uvG_len (j := 3) hy2.out rfl
      obtain ⟨c4, z4⟩ := ot3.cell uvG_len (j := 4) hy2.out rfl
      obtain ⟨c5, z5⟩ := ot3.cell uvG_len (j := 5) hy2.out rfl
      have s3 := ot3.set1 uvG_len (j := 3) (y := { x with nm := mtS M, sa := mtS (M + 1), ha := mtS (M + 2), ro := mtS (M + 3) }) (u := .string (mtS (M + 3))) hy2.out (by omega) rfl
      rw [List.set_set] at s3
      have hx3 : (L'.set k { x with nm := mtS M, sa := mtS (M + 1), ha := mtS (M + 2), ro := mtS (M + 3) })[k]? = some { x with nm := mtS M, sa := mtS (M + 1), ha := mtS (M + 2), ro := mtS (M + 3) } := List.getElem?_set_self (by rw [hT.out.1]; exact hlt)
      have s4 := s3.1.set1 uvG_len (j := 4) (y := { x with nm := mtS M, sa := mtS (M + 1), ha := mtS (M + 2), ro := mtS (M + 3), bl := (M : Int) + 1 + 1 + 1 + 1 }) (u := .int .i64 ((M : Int) + 1 + 1 + 1 + 1)) hx3 (by omega) rfl
      rw [List.set_set] at s4
      have hx4 : (L'.set k { x with nm := mtS M, sa := mtS (M + 1), ha := mtS (M + 2), ro := mtS (M + 3), bl := (M : Int) + 1 + 1 + 1 + 1 })[k]? = some { x with nm := mtS M, sa := mtS (M + 1), ha := mtS (M + 2), ro := mtS (M + 3), bl := (M : Int) + 1 + 1 + 1 + 1 } := List.getElem?_set_self (by rw [hT.out.1]; exact hlt)
      have s5 := s4.1.set1 uvG_len (j := 5) (y := { x with nm := mtS M, sa := mtS (M + 1), ha := mtS (M + 2), ro := mtS (M + 3), bl := (M : Int) + 1 + 1 + 1 + 1, lg := (M : Int) + 1 + 1 + 1 + 1 + 1 }) (u := .int .i64 ((M : Int) + 1 + 1 + 1 + 1 + 1)) hx4 (by omega) rfl
      rw [List.set_set] at s5
      have hx5 : (L'.set k { x with nm := mtS M, sa := mtS (M + 1), ha := mtS (M + 2), ro := mtS (M + 3), bl := (M : Int) + 1 + 1 + 1 + 1, lg := (M : Int) + 1 + 1 + 1 + 1 + 1 })[k]? = some { x with nm := mtS M, sa := mtS (M + 1), ha := mtS (M + 2), ro := mtS (M + 3), bl := (M : Int) + 1 + 1 + 1 + 1, lg := (M : Int) + 1 + 1 + 1 + 1 + 1 } := List.getElem?_set_self (by rw [hT.out.1]; exact hlt)
      have Y3 : ∀ W1, W1 = (((wt3.setCell ⟨g, k * 6 + 3, none⟩ (.string (mtS (M + 3)))).setCell ⟨g, k * 6 + 4, none⟩ (.int .i64 ((M : Int) + 1 + 1 + 1 + 1))).setCell ⟨g, k * 6 + 5, none⟩ (.int .i64 ((M : Int) + 1 + 1 + 1 + 1 + 1))) → OwnS uvG 6 144 W1 B (.slice (some ⟨g, 0, none⟩) n cap) (L'.set k { x with nm := mtS M, sa := mtS (M + 1), ha := mtS (M + 2), ro := mtS (M + 3), bl := (M : Int) + 1 + 1 + 1 + 1, lg := (M : Int) + 1 + 1 + 1 + 1 + 1 }) ∧ w.grownBy W1 (some g) := by
        intro W1 hW1
        subst hW1
        exact ⟨s5.1, (grown_tr (grown_tr (grown_tr Gt3.out s3.2) s4.2) s5.2)⟩
      have Z3 : Hid (OwnS uvG 6 144 (((wt3.setCell ⟨g, k * 6 + 3, none⟩ (.string (mtS (M + 3)))).setCell ⟨g, k * 6 + 4, none⟩ (.int .i64 ((M : Int) + 1 + 1 + 1 + 1))).setCell ⟨g, k * 6 + 5, none⟩ (.int .i64 ((M : Int) + 1 + 1 + 1 + 1 + 1))) B (.slice (some ⟨g, 0, none⟩) n cap) (L'.set k { x with nm := mtS M, sa := mtS (M + 1), ha := mtS (M + 2), ro := mtS (M + 3), bl := (M : Int) + 1 + 1 + 1 + 1, lg := (M : Int) + 1 + 1 + 1 + 1 + 1 }) ∧ w.grownBy (((wt3.setCell ⟨g, k * 6 + 3, none⟩ (.string (mtS (M + 3)))).setCell ⟨g, k * 6 + 4, none⟩ (.int .i64 ((M : Int) + 1 + 1 + 1 + 1))).setCell ⟨g, k * 6 + 5, none⟩ (.int .i64 ((M : Int) + 1 + 1 + 1 + 1 + 1))) (some g)) := Y3 _ rfl
      have hy3 : Hid ((L'.set k { x with nm := mtS M, sa := mtS (M + 1), ha := mtS (M + 2), ro := mtS (M + 3), bl := (M : Int) + 1 + 1 + 1 + 1, lg := (M : Int) + 1 + 1 + 1 + 1 + 1 })[k]? = some { x with nm := mtS M, sa := mtS (M + 1), ha := mtS (M + 2), ro := mtS (M + 3), bl := (M : Int) + 1 + 1 + 1 + 1, lg := (M : Int) + 1 + 1 + 1 + 1 + 1 }) := hx5
      clear Y3 ot3 Gt3 s3 hx3 s4 hx4 s5 hx5 
      have eUser : { x with nm := mtS M, sa := mtS (M + 1), ha := mtS (M + 2), ro := mtS (M + 3), bl := (M : Int) + 1 + 1 + 1 + 1, lg := (M : Int) + 1 + 1 + 1 + 1 + 1 } = mkUser M := rfl
      rw [eUser] at Z3
      have YY : Hid (OwnS uvG 6 144 (((wt3.setCell ⟨g, k * 6 + 3, none⟩ (.string (mtS (M + 3)))).setCell ⟨g, k * 6 + 4, none⟩ (.int .i64 ((M : Int) + 1 + 1 + 1 + 1))).setCell ⟨g, k * 6 + 5, none⟩ (.int .i64 ((M : Int) + 1 + 1 + 1 + 1 + 1))) B (.slice (some ⟨g, 0, none⟩) n cap) (L'.set k (mkUser M)) ∧ (L'.set k (mkUser M)).length = n ∧ (L'.set k (mkUser M)).take (k + 1) = (mkUserL m0 n).take (k + 1) ∧ w.grownBy (((wt3.setCell ⟨g, k * 6 + 3, none⟩ (.string (mtS (M + 3)))).setCell ⟨g, k * 6 + 4, none⟩ (.int .i64 ((M : Int) + 1 + 1 + 1 + 1))).setCell ⟨g, k * 6 + 5, none⟩ (.int .i64 ((M : Int) + 1 + 1 + 1 + 1 + 1))) (some g)) := ⟨Z3.out.1, by rw [List.length_set]; exact hT.out.1, takeS_set (by rw [hT.out.1, mkUserL_len]) (by rw [mkUserL_at m0 n k hlt, hM.out]) hT.out.2, Z3.out.2⟩
      clear Z3 hT hy0 hy1 hy2 hy3
      go_wp2
      go_roundw
      case rel => exact ⟨k + 1, M + 6, _, by omega, by go_num, by go_num, (show M + 6 = m0 + 6 * (k + 1) by have := hM.out; omega), YY⟩
      case measure => simp [intOf]; omega
    · obtain rfl : k = n := by omega
      have e1 : L' = mkUserL m0 k := by
        have := X.out.2.2.1
        rwa [List.take_of_length_le (by rw [X.out.2.1]; exact Nat.le_refl _), List.take_of_length_le (by rw [mkUserL_len]; exact Nat.le_refl _)] at this
      subst e1
      have hM2 := hM.out
      subst hM2
      go_wp2
      go_ret
      exact ⟨rfl, X.out.1, X.out.2.2.2⟩
set_option maxHeartbeats 4000000 in
theorem heldUserS_any (a : Option Addr) (n cap m0 : Nat) (w : World) (h : Rw UsR 6 w a (mkUserL m0 n)) (h0 : 0 < m0) (hm : m0 + 6 * n ≤ 100000000000) :
    Calls Tryz.prog 143 #[.slice a n cap, .int .i64 (m0 : Int)] w fun e w' => e = .returned (.int .i64 ((m0 + 6 * n : Nat) : Int)) ∧ Grw w w' := by
  have H : Hid (Rw UsR 6 w a (mkUserL m0 n)) := h
  have hlen : n ≤ 100000000000 := by omega
  clear h
  have hmix : Tryz.prog.follows .mixedOrders = true := by kernel_rfl
  go_enter Tryz.func143, Tryz.ntmps143
  go_wp2
  go_loopw [1, 5] (fun m i wr => ∃ k M : Nat, k ≤ n ∧ i = .int .i64 k ∧ m = .int .i64 (M : Int) ∧ Hid (M = m0 + 6 * k) ∧ Hid (Grw w wr)) (fun _ i _ => n - (intOf i).toNat)
  case atStart => exact ⟨0, m0, Nat.zero_le _, rfl, rfl, by show m0 = _; omega, Grw.refl w⟩
  case round =>
    obtain ⟨k, M, hk, rfl, rfl, hM, HG⟩ := hrel
    by_cases hlt : k < n
    · obtain ⟨b, off, vs, rfl, hb, hvl, hR, hc⟩ := H.out.at UsR.kp HG.out.below (mkUserL_at m0 n k hlt)
      rw [← hM.out] at hR
      obtain ⟨rfl, -⟩ := hR
      have hltz : (k : Int) < (n : Int) := by omega
      have hMz : (M : Int) ≤ 200000000000 := by have := hM.out; omega
      have hM0 : 0 < M := by have := hM.out; omega
      have q0 : wr.cell? ⟨b, off + k * 6, none⟩ = some (.string (mtS M)) := hc 0 _ rfl
      have q1 : wr.cell? ⟨b, off + k * 6 + 1, none⟩ = some (.string (mtS (M + 1))) := hc 1 _ rfl
      have q2 : wr.cell? ⟨b, off + k * 6 + 2, none⟩ = some (.string (mtS (M + 2))) := hc 2 _ rfl
      have q3 : wr.cell? ⟨b, off + k * 6 + 3, none⟩ = some (.string (mtS (M + 3))) := hc 3 _ rfl
      have q4 : wr.cell? ⟨b, off + k * 6 + 4, none⟩ = some (.int .i64 ((M : Int) + 1 + 1 + 1 + 1)) := hc 4 _ rfl
      have q5 : wr.cell? ⟨b, off + k * 6 + 5, none⟩ = some (.int .i64 ((M : Int) + 1 + 1 + 1 + 1 + 1)) := hc 5 _ rfl
      clear hc hvl
      have e4 : (((M : Int) + 1 + 1 + 1 + 1) != ((M : Int) + 1 + 1 + 1 + 1)) = false := by simp
      have e5 : (((M : Int) + 1 + 1 + 1 + 1 + 1) != ((M : Int) + 1 + 1 + 1 + 1 + 1)) = false := by simp
      have HM0 : Hid (∀ w, Calls Tryz.prog 139 #[.int .i64 ((M : Int))] w fun e w' => e = .returned (.string (mtS (M))) ∧ Grw w w') := fun w => by
        have := markText_any (M) w (by omega) (by omega)
        exact this
      generalize mtS (M) = T0 at *
      have t0 : (T0.toList == T0.toList) = true := by simp
      have HM1 : Hid (∀ w, Calls Tryz.prog 139 #[.int .i64 ((M : Int) + 1)] w fun e w' => e = .returned (.string (mtS (M + 1))) ∧ Grw w w') := fun w => by
        have := markText_any (M + 1) w (by omega) (by omega)
        rw [show ((M + 1 : Nat) : Int) = (M : Int) + 1 by omega] at this
        exact this
      generalize mtS (M + 1) = T1 at *
      have t1 : (T1.toList == T1.toList) = true := by simp
      have HM2 : Hid (∀ w, Calls Tryz.prog 139 #[.int .i64 ((M : Int) + 1 + 1)] w fun e w' => e = .returned (.string (mtS (M + 2))) ∧ Grw w w') := fun w => by
        have := markText_any (M + 2) w (by omega) (by omega)
        rw [show ((M + 2 : Nat) : Int) = (M : Int) + 1 + 1 by omega] at this
        exact this
      generalize mtS (M + 2) = T2 at *
      have t2 : (T2.toList == T2.toList) = true := by simp
      have HM3 : Hid (∀ w, Calls Tryz.prog 139 #[.int .i64 ((M : Int) + 1 + 1 + 1)] w fun e w' => e = .returned (.string (mtS (M + 3))) ∧ Grw w w') := fun w => by
        have := markText_any (M + 3) w (by omega) (by omega)
        rw [show ((M + 3 : Nat) : Int) = (M : Int) + 1 + 1 + 1 by omega] at this
        exact this
      generalize mtS (M + 3) = T3 at *
      have t3 : (T3.toList == T3.toList) = true := by simp
      have y0 : ∀ n os, (grow (wr.drewN n) os).cell? ⟨b, off + k * 6, none⟩ = some (.string T0) := fun n os => bkeep (Grw.below ⟨n, os, rfl⟩) q0
      go_wp2_with fail
      refine wp_region_quiet_grown (by assumption) (by kernel_rfl) ?_
      repeat (go_big_quiet_step (first | fail | (go_at_call 139; exact Calls.grown_of (HM0.out _))))
      refine wpQuiet_nil ?_
      intro _ hw'
      obtain ⟨⟨nq, osq⟩, hw''⟩ := hw'
      subst hw''
      have HG0 : Hid (Grw w (grow (wr.drewN nq) osq)) := HG.out.trans ⟨nq, osq, rfl⟩
      replace q1 : (grow (wr.drewN nq) osq).cell? ⟨b, off + k * 6 + 1, none⟩ = some (.string T1) := bkeep (Grw.below ⟨nq, osq, rfl⟩) q1
      replace q2 : (grow (wr.drewN nq) osq).cell? ⟨b, off + k * 6 + 2, none⟩ = some (.string T2) := bkeep (Grw.below ⟨nq, osq, rfl⟩) q2
      replace q3 : (grow (wr.drewN nq) osq).cell? ⟨b, off + k * 6 + 3, none⟩ = some (.string T3) := bkeep (Grw.below ⟨nq, osq, rfl⟩) q3
      replace q4 : (grow (wr.drewN nq) osq).cell? ⟨b, off + k * 6 + 4, none⟩ = some (.int .i64 ((M : Int) + 1 + 1 + 1 + 1)) := bkeep (Grw.below ⟨nq, osq, rfl⟩) q4
      replace q5 : (grow (wr.drewN nq) osq).cell? ⟨b, off + k * 6 + 5, none⟩ = some (.int .i64 ((M : Int) + 1 + 1 + 1 + 1 + 1)) := bkeep (Grw.below ⟨nq, osq, rfl⟩) q5
      clear y0 q0 HM0
      generalize (grow (wr.drewN nq) osq) = wv0 at *
      have y1 : ∀ n os, (grow (wv0.drewN n) os).cell? ⟨b, off + k * 6 + 1, none⟩ = some (.string T1) := fun n os => bkeep (Grw.below ⟨n, os, rfl⟩) q1
      go_wp2_with fail
      refine wp_region_quiet_grown (by assumption) (by kernel_rfl) ?_
      repeat (go_big_quiet_step (first | fail | (go_at_call 139; exact Calls.grown_of (HM1.out _))))
      refine wpQuiet_nil ?_
      intro _ hw'
      obtain ⟨⟨nq, osq⟩, hw''⟩ := hw'
      subst hw''
      have HG1 : Hid (Grw w (grow (wv0.drewN nq) osq)) := HG0.out.trans ⟨nq, osq, rfl⟩
      replace q2 : (grow (wv0.drewN nq) osq).cell? ⟨b, off + k * 6 + 2, none⟩ = some (.string T2) := bkeep (Grw.below ⟨nq, osq, rfl⟩) q2
      replace q3 : (grow (wv0.drewN nq) osq).cell? ⟨b, off + k * 6 + 3, none⟩ = some (.string T3) := bkeep (Grw.below ⟨nq, osq, rfl⟩) q3
      replace q4 : (grow (wv0.drewN nq) osq).cell? ⟨b, off + k * 6 + 4, none⟩ = some (.int .i64 ((M : Int) + 1 + 1 + 1 + 1)) := bkeep (Grw.below ⟨nq, osq, rfl⟩) q4
      replace q5 : (grow (wv0.drewN nq) osq).cell? ⟨b, off + k * 6 + 5, none⟩ = some (.int .i64 ((M : Int) + 1 + 1 + 1 + 1 + 1)) := bkeep (Grw.below ⟨nq, osq, rfl⟩) q5
      clear y1 q1 HM1
      generalize (grow (wv0.drewN nq) osq) = wv1 at *
      have y2 : ∀ n os, (grow (wv1.drewN n) os).cell? ⟨b, off + k * 6 + 2, none⟩ = some (.string T2) := fun n os => bkeep (Grw.below ⟨n, os, rfl⟩) q2
      go_wp2_with fail
      refine wp_region_quiet_grown (by assumption) (by kernel_rfl) ?_
      repeat (go_big_quiet_step (first | fail | (go_at_call 139; exact Calls.grown_of (HM2.out _))))
      refine wpQuiet_nil ?_
      intro _ hw'
      obtain ⟨⟨nq, osq⟩, hw''⟩ := hw'
      subst hw''
      have HG2 : Hid (Grw w (grow (wv1.drewN nq) osq)) := HG1.out.trans ⟨nq, osq, rfl⟩
      replace q3 : (grow (wv1.drewN nq) osq).cell? ⟨b, off + k * 6 + 3, none⟩ = some (.string T3) := bkeep (Grw.below ⟨nq, osq, rfl⟩) q3
      replace q4 : (grow (wv1.drewN nq) osq).cell? ⟨b, off + k * 6 + 4, none⟩ = some (.int .i64 ((M : Int) + 1 + 1 + 1 + 1)) := bkeep (Grw.below ⟨nq, osq, rfl⟩) q4
      replace q5 : (grow (wv1.drewN nq) osq).cell? ⟨b, off + k * 6 + 5, none⟩ = some (.int .i64 ((M : Int) + 1 + 1 + 1 + 1 + 1)) := bkeep (Grw.below ⟨nq, osq, rfl⟩) q5
      clear y2 q2 HM2
      generalize (grow (wv1.drewN nq) osq) = wv2 at *
      have y3 : ∀ n os, (grow (wv2.drewN n) os).cell? ⟨b, off + k * 6 + 3, none⟩ = some (.string T3) := fun n os => bkeep (Grw.below ⟨n, os, rfl⟩) q3
      go_wp2_with fail
      refine wp_region_quiet_grown (by assumption) (by kernel_rfl) ?_
      repeat (go_big_quiet_step (first | fail | (go_at_call 139; exact Calls.grown_of (HM3.out _))))
      refine wpQuiet_nil ?_
      intro _ hw'
      obtain ⟨⟨nq, osq⟩, hw''⟩ := hw'
      subst hw''
      have HG3 : Hid (Grw w (grow (wv2.drewN nq) osq)) := HG2.out.trans ⟨nq, osq, rfl⟩
      replace q4 : (grow (wv2.drewN nq) osq).cell? ⟨b, off + k * 6 + 4, none⟩ = some (.int .i64 ((M : Int) + 1 + 1 + 1 + 1)) := bkeep (Grw.below ⟨nq, osq, rfl⟩) q4
      replace q5 : (grow (wv2.drewN nq) osq).cell? ⟨b, off + k * 6 + 5, none⟩ = some (.int .i64 ((M : Int) + 1 + 1 + 1 + 1 + 1)) := bkeep (Grw.below ⟨nq, osq, rfl⟩) q5
      clear y3 q3 HM3
      generalize (grow (wv2.drewN nq) osq) = wv3 at *
      go_wp2
      go_roundw
      case rel => exact ⟨k + 1, M + 6, by omega, by go_num, by go_num, (show M + 6 = m0 + 6 * (k + 1) by have := hM.out; omega), HG3⟩
      case measure => simp [intOf]; omega
    · obtain rfl : k = n := by omega
      have hM2 := hM.out
      subst hM2
      go_wp2
      go_ret
      exact ⟨rfl, HG.out⟩
/-- What is marked. -/
def mkSession (M : Nat) : SessV := ⟨(M : Int), (M : Int) + 1, mtS (M + 2), (M : Int) + 1 + 1 + 1, (M : Int) + 1 + 1 + 1 + 1, (M : Int) + 1 + 1 + 1 + 1 + 1, (M : Int) + 1 + 1 + 1 + 1 + 1 + 1, (M : Int) + 1 + 1 + 1 + 1 + 1 + 1 + 1, (M : Int) + 1 + 1 + 1 + 1 + 1 + 1 + 1 + 1, (M : Int) + 1 + 1 + 1 + 1 + 1 + 1 + 1 + 1 + 1⟩
def mkSessionL (m0 n : Nat) : List SessV := (List.range n).map (fun k => mkSession (m0 + 10 * k))
theorem mkSessionL_len (m0 n : Nat) : (mkSessionL m0 n).length = n := by simp [mkSessionL]
theorem mkSessionL_at (m0 n i : Nat) (h : i < n) : (mkSessionL m0 n)[i]? = some (mkSession (m0 + 10 * i)) := by rw [mkSessionL, List.getElem?_map, List.getElem?_range h]; rfl
theorem mkSession_ok (M : Nat) (h : M + 10 ≤ 1000000000000) : SeRok (mkSession M) := by
  unfold SeRok mkSession
  dsimp only
  exact ⟨int_wf9 (by omega) (by omega), int_wf9 (by omega) (by omega), Nat.le_trans (mtS_len _ (by omega)) (by unfold maxLen; omega), int_wf9 (by omega) (by omega), int_wf9 (by omega) (by omega), int_wf9 (by omega) (by omega), int_wf9 (by omega) (by omega), int_wf9 (by omega) (by omega), int_wf9 (by omega) (by omega), int_wf9 (by omega) (by omega)⟩
theorem mkSessionL_ok (m0 n : Nat) (h : m0 + 10 * n ≤ 1000000000000) : ∀ x, x ∈ mkSessionL m0 n → SeRok x := by
  intro x hx
  unfold mkSessionL at hx
  simp at hx
  obtain ⟨i, hi, rfl⟩ := hx
  exact mkSession_ok _ (by omega)
set_option maxHeartbeats 4000000 in
theorem markSessionS_any (a : Option Addr) (n cap B m0 : Nat) (L : List SessV) (w : World) (h : OwnS svG 10 137 w B (.slice a n cap) L) (h0 : 0 < m0) (hm : m0 + 10 * n ≤ 100000000000) :
    Calls Tryz.prog 63 #[.slice a n cap, .int .i64 (m0 : Int)] w fun e w' => e = .returned (.int .i64 ((m0 + 10 * n : Nat) : Int)) ∧ OwnS svG 10 137 w' B (.slice a n cap) (mkSessionL m0 n) ∧ w.grownBy w' (Value.slice a n cap).ownBlock := by
  have H : Hid (OwnS svG 10 137 w B (.slice a n cap) L) := h
  have hn := h.len
  have hlen : n ≤ 100000000000 := by omega
  clear h
  go_enter Tryz.func63, Tryz.ntmps63
  go_wp2
  go_loopw [1, 5] (fun m i wr => ∃ (k M : Nat) (L' : List SessV), k ≤ n ∧ i = .int .i64 k ∧ m = .int .i64 (M : Int) ∧ Hid (M = m0 + 10 * k) ∧ Hid (OwnS svG 10 137 wr B (.slice a n cap) L' ∧ L'.length = n ∧ L'.take k = (mkSessionL m0 n).take k ∧ w.grownBy wr (Value.slice a n cap).ownBlock)) (fun _ i _ => n - (intOf i).toNat)
  case atStart => exact ⟨0, m0, L, Nat.zero_le _, rfl, rfl, by show m0 = _; omega, H.out, hn, rfl, grown_refl w _⟩
  case round =>
    obtain ⟨k, M, L', hk, rfl, rfl, hM, X⟩ := hrel
    by_cases hlt : k < n
    · obtain ⟨g, rfl, hBg, hg, -⟩ := X.out.1.form (by rw [X.out.2.1]; omega)
      obtain ⟨x, hx⟩ := at_of (k := k) X.out.2.1 hlt
      have hltz : (k : Int) < (n : Int) := by omega
      have hMz : (M : Int) ≤ 200000000000 := by have := hM.out; omega
      have hM0 : 0 < M := by have := hM.out; omega
      have G0 : Hid (w.grownBy wr (some g)) := X.out.2.2.2
      have o0 := X.out.1
      have hT : Hid (L'.length = n ∧ L'.take k = (mkSessionL m0 n).take k) := ⟨X.out.2.1, X.out.2.2.1⟩
      clear X
      obtain ⟨c0, z0⟩ := o0.cell svG_len (j := 0) hx rfl
      replace c0 : wr.cell? ⟨g, k * 10, none⟩ = some (.int .i64 x.id) := c0
      replace z0 : wr.frozen? ⟨g, k * 10, none⟩ = false := z0
      obtain ⟨c1, z1⟩ := o0.cell svG_len (j := 1) hx rfl
      have s0 := o0.set1 svG_len (j := 0) (y := { x with id := (M : Int) }) (u := .int .i64 ((M : Int))) hx (by omega) rfl
      have hx0 : (L'.set k { x with id := (M : Int) })[k]? = some { x with id := (M : Int) } := List.getElem?_set_self (by rw [hT.out.1]; exact hlt)
      have s1 := s0.1.set1 svG_len (j := 1) (y := { x with id := (M : Int), us := (M : Int) + 1 }) (u := .int .i64 ((M : Int) + 1)) hx0 (by omega) rfl
      rw [List.set_set] at s1
      have hx1 : (L'.set k { x with id := (M : Int), us := (M : Int) + 1 })[k]? = some { x with id := (M : Int), us := (M : Int) + 1 } := List.getElem?_set_self (by rw [hT.out.1]; exact hlt)
      have Y0 : ∀ W1, W1 = ((wr.setCell ⟨g, k * 10, none⟩ (.int .i64 ((M : Int)))).setCell ⟨g, k * 10 + 1, none⟩ (.int .i64 ((M : Int) + 1))) → OwnS svG 10 137 W1 B (.slice (some ⟨g, 0, none⟩) n cap) (L'.set k { x with id := (M : Int), us := (M : Int) + 1 }) ∧ w.grownBy W1 (some g) := by
        intro W1 hW1
        subst hW1
        exact ⟨s1.1, (grown_tr (grown_tr G0.out s0.2) s1.2)⟩
      have Z0 : Hid (OwnS svG 10 137 ((wr.setCell ⟨g, k * 10, none⟩ (.int .i64 ((M : Int)))).setCell ⟨g, k * 10 + 1, none⟩ (.int .i64 ((M : Int) + 1))) B (.slice (some ⟨g, 0, none⟩) n cap) (L'.set k { x with id := (M : Int), us := (M : Int) + 1 }) ∧ w.grownBy ((wr.setCell ⟨g, k * 10, none⟩ (.int .i64 ((M : Int)))).setCell ⟨g, k * 10 + 1, none⟩ (.int .i64 ((M : Int) + 1))) (some g)) := Y0 _ rfl
      have hy0 : Hid ((L'.set k { x with id := (M : Int), us := (M : Int) + 1 })[k]? = some { x with id := (M : Int), us := (M : Int) + 1 }) := hx1
      clear Y0 o0 G0 s0 hx0 s1 hx1 hx
      have HM1 : Hid (∀ w, Calls Tryz.prog 139 #[.int .i64 ((M : Int) + 1 + 1)] w fun e w' => e = .returned (.string (mtS (M + 2))) ∧ Grw w w') := fun w => by
        have := markText_any (M + 2) w (by omega) (by omega)
        rw [show ((M + 2 : Nat) : Int) = (M : Int) + 1 + 1 by omega] at this
        exact this
      go_wp2_with fail
      refine (HM1.out _).mono ?_
      rintro e wt1 ⟨rfl, gt1⟩
      clear c0 z0 c1 z1
      have ot1 := Z0.out.1.now gt1.below
      have Gt1 : Hid (w.grownBy wt1 (some g)) := grown_tr Z0.out.2 (gt1.grown _)
      clear HM1 gt1 Z0
      obtain ⟨c2, z2⟩ := ot1.cell svG_len (j := 2) hy0.out rfl
      obtain ⟨c3, z3⟩ := ot1.cell svG_len (j := 3) hy0.out rfl
      obtain ⟨c4, z4⟩ := ot1.cell svG_len (j := 4) hy0.out rfl
      obtain ⟨c5, z5⟩ := ot1.cell svG_len (j := 5) hy0.out rfl
      obtain ⟨c6, z6⟩ := ot1.cell svG_len (j := 6) hy0.out rfl
      obtain ⟨c7, z7⟩ := ot1.cell svG_len (j := 7) hy0.out rfl
      obtain ⟨c8, z8⟩ := ot1.cell svG_len (j := 8) hy0.out rfl
      obtain ⟨c9, z9⟩ := ot1.cell svG_len (j := 9) hy0.out rfl
      have s2 := ot1.set1 svG_len (j := 2) (y := { x with id := (M : Int), us := (M : Int) + 1, mc := mtS (M + 2) }) (u := .string (mtS (M + 2))) hy0.out (by omega) rfl
      rw [List.set_set] at s2
      have hx2 : (L'.set k { x with id := (M : Int), us := (M : Int) + 1, mc := mtS (M + 2) })[k]? = some { x with id := (M : Int), us := (M : Int) + 1, mc := mtS (M + 2) } := List.getElem?_set_self (by rw [hT.out.1]; exact hlt)
      have s3 := s2.1.set1 svG_len (j := 3) (y := { x with id := (M : Int), us := (M : Int) + 1, mc := mtS (M + 2), ip := (M : Int) + 1 + 1 + 1 }) (u := .int .i64 ((M : Int) + 1 + 1 + 1)) hx2 (by omega) rfl
      rw [List.set_set] at s3
      have hx3 : (L'.set k { x with id := (M : Int), us := (M : Int) + 1, mc := mtS (M + 2), ip := (M : Int) + 1 + 1 + 1 })[k]? = some { x with id := (M : Int), us := (M : Int) + 1, mc := mtS (M + 2), ip := (M : Int) + 1 + 1 + 1 } := List.getElem?_set_self (by rw [hT.out.1]; exact hlt)
      have s4 := s3.1.set1 svG_len (j := 4) (y := { x with id := (M : Int), us := (M : Int) + 1, mc := mtS (M + 2), ip := (M : Int) + 1 + 1 + 1, be := (M : Int) + 1 + 1 + 1 + 1 }) (u := .int .i64 ((M : Int) + 1 + 1 + 1 + 1)) hx3 (by omega) rfl
      rw [List.set_set] at s4
      have hx4 : (L'.set k { x with id := (M : Int), us := (M : Int) + 1, mc := mtS (M + 2), ip := (M : Int) + 1 + 1 + 1, be := (M : Int) + 1 + 1 + 1 + 1 })[k]? = some { x with id := (M : Int), us := (M : Int) + 1, mc := mtS (M + 2), ip := (M : Int) + 1 + 1 + 1, be := (M : Int) + 1 + 1 + 1 + 1 } := List.getElem?_set_self (by rw [hT.out.1]; exact hlt)
      have s5 := s4.1.set1 svG_len (j := 5) (y := { x with id := (M : Int), us := (M : Int) + 1, mc := mtS (M + 2), ip := (M : Int) + 1 + 1 + 1, be := (M : Int) + 1 + 1 + 1 + 1, la := (M : Int) + 1 + 1 + 1 + 1 + 1 }) (u := .int .i64 ((M : Int) + 1 + 1 + 1 + 1 + 1)) hx4 (by omega) rfl
      rw [List.set_set] at s5
      have hx5 : (L'.set k { x with id := (M : Int), us := (M : Int) + 1, mc := mtS (M + 2), ip := (M : Int) + 1 + 1 + 1, be := (M : Int) + 1 + 1 + 1 + 1, la := (M : Int) + 1 + 1 + 1 + 1 + 1 })[k]? = some { x with id := (M : Int), us := (M : Int) + 1, mc := mtS (M + 2), ip := (M : Int) + 1 + 1 + 1, be := (M : Int) + 1 + 1 + 1 + 1, la := (M : Int) + 1 + 1 + 1 + 1 + 1 } := List.getElem?_set_self (by rw [hT.out.1]; exact hlt)
      have s6 := s5.1.set1 svG_len (j := 6) (y := { x with id := (M : Int), us := (M : Int) + 1, mc := mtS (M + 2), ip := (M : Int) + 1 + 1 + 1, be := (M : Int) + 1 + 1 + 1 + 1, la := (M : Int) + 1 + 1 + 1 + 1 + 1, ud := (M : Int) + 1 + 1 + 1 + 1 + 1 + 1 }) (u := .int .i64 ((M : Int) + 1 + 1 + 1 + 1 + 1 + 1)) hx5 (by omega) rfl
      rw [List.set_set] at s6
      have hx6 : (L'.set k { x with id := (M : Int), us := (M : Int) + 1, mc := mtS (M + 2), ip := (M : Int) + 1 + 1 + 1, be := (M : Int) + 1 + 1 + 1 + 1, la := (M : Int) + 1 + 1 + 1 + 1 + 1, ud := (M : Int) + 1 + 1 + 1 + 1 + 1 + 1 })[k]? = some { x with id := (M : Int), us := (M : Int) + 1, mc := mtS (M + 2), ip := (M : Int) + 1 + 1 + 1, be := (M : Int) + 1 + 1 + 1 + 1, la := (M : Int) + 1 + 1 + 1 + 1 + 1, ud := (M : Int) + 1 + 1 + 1 + 1 + 1 + 1 } := List.getElem?_set_self (by rw [hT.out.1]; exact hlt)
      have s7 := s6.1.set1 svG_len (j := 7) (y := { x with id := (M : Int), us := (M : Int) + 1, mc := mtS (M + 2), ip := (M : Int) + 1 + 1 + 1, be := (M : Int) + 1 + 1 + 1 + 1, la := (M : Int) + 1 + 1 + 1 + 1 + 1, ud := (M : Int) + 1 + 1 + 1 + 1 + 1 + 1, qu := (M : Int) + 1 + 1 + 1 + 1 + 1 + 1 + 1 }) (u := .int .i64 ((M : Int) + 1 + 1 + 1 + 1 + 1 + 1 + 1)) hx6 (by omega) rfl
      rw [List.set_set] at s7
      have hx7 : (L'.set k { x with id := (M : Int), us := (M : Int) + 1, mc := mtS (M + 2), ip := (M : Int) + 1 + 1 + 1, be := (M : Int) + 1 + 1 + 1 + 1, la := (M : Int) + 1 + 1 + 1 + 1 + 1, ud := (M : Int) + 1 + 1 + 1 + 1 + 1 + 1, qu := (M : Int) + 1 + 1 + 1 + 1 + 1 + 1 + 1 })[k]? = some { x with id := (M : Int), us := (M : Int) + 1, mc := mtS (M + 2), ip := (M : Int) + 1 + 1 + 1, be := (M : Int) + 1 + 1 + 1 + 1, la := (M : Int) + 1 + 1 + 1 + 1 + 1, ud := (M : Int) + 1 + 1 + 1 + 1 + 1 + 1, qu := (M : Int) + 1 + 1 + 1 + 1 + 1 + 1 + 1 } := List.getElem?_set_self (by rw [hT.out.1]; exact hlt)
      have s8 := s7.1.set1 svG_len (j := 8) (y := { x with id := (M : Int), us := (M : Int) + 1, mc := mtS (M + 2), ip := (M : Int) + 1 + 1 + 1, be := (M : Int) + 1 + 1 + 1 + 1, la := (M : Int) + 1 + 1 + 1 + 1 + 1, ud := (M : Int) + 1 + 1 + 1 + 1 + 1 + 1, qu := (M : Int) + 1 + 1 + 1 + 1 + 1 + 1 + 1, un := (M : Int) + 1 + 1 + 1 + 1 + 1 + 1 + 1 + 1 }) (u := .int .i64 ((M : Int) + 1 + 1 + 1 + 1 + 1 + 1 + 1 + 1)) hx7 (by omega) rfl
      rw [List.set_set] at s8
      have hx8 : (L'.set k { x with id := (M : Int), us := (M : Int) + 1, mc := mtS (M + 2), ip := (M : Int) + 1 + 1 + 1, be := (M : Int) + 1 + 1 + 1 + 1, la := (M : Int) + 1 + 1 + 1 + 1 + 1, ud := (M : Int) + 1 + 1 + 1 + 1 + 1 + 1, qu := (M : Int) + 1 + 1 + 1 + 1 + 1 + 1 + 1, un := (M : Int) + 1 + 1 + 1 + 1 + 1 + 1 + 1 + 1 })[k]? = some { x with id := (M : Int), us := (M : Int) + 1, mc := mtS (M + 2), ip := (M : Int) + 1 + 1 + 1, be := (M : Int) + 1 + 1 + 1 + 1, la := (M : Int) + 1 + 1 + 1 + 1 + 1, ud := (M : Int) + 1 + 1 + 1 + 1 + 1 + 1, qu := (M : Int) + 1 + 1 + 1 + 1 + 1 + 1 + 1, un := (M : Int) + 1 + 1 + 1 + 1 + 1 + 1 + 1 + 1 } := List.getElem?_set_self (by rw [hT.out.1]; exact hlt)
      have s9 := s8.1.set1 svG_len (j := 9) (y := { x with id := (M : Int), us := (M : Int) + 1, mc := mtS (M + 2), ip := (M : Int) + 1 + 1 + 1, be := (M : Int) + 1 + 1 + 1 + 1, la := (M : Int) + 1 + 1 + 1 + 1 + 1, ud := (M : Int) + 1 + 1 + 1 + 1 + 1 + 1, qu := (M : Int) + 1 + 1 + 1 + 1 + 1 + 1 + 1, un := (M : Int) + 1 + 1 + 1 + 1 + 1 + 1 + 1 + 1, il := (M : Int) + 1 + 1 + 1 + 1 + 1 + 1 + 1 + 1 + 1 }) (u := .int .i64 ((M : Int) + 1 + 1 + 1 + 1 + 1 + 1 + 1 + 1 + 1)) hx8 (by omega) rfl
      rw [List.set_set] at s9
      have hx9 : (L'.set k { x with id := (M : Int), us := (M : Int) + 1, mc := mtS (M + 2), ip := (M : Int) + 1 + 1 + 1, be := (M : Int) + 1 + 1 + 1 + 1, la := (M : Int) + 1 + 1 + 1 + 1 + 1, ud := (M : Int) + 1 + 1 + 1 + 1 + 1 + 1, qu := (M : Int) + 1 + 1 + 1 + 1 + 1 + 1 + 1, un := (M : Int) + 1 + 1 + 1 + 1 + 1 + 1 + 1 + 1, il := (M : Int) + 1 + 1 + 1 + 1 + 1 + 1 + 1 + 1 + 1 })[k]? = some { x with id := (M : Int), us := (M : Int) + 1, mc := mtS (M + 2), ip := (M : Int) + 1 + 1 + 1, be := (M : Int) + 1 + 1 + 1 + 1, la := (M : Int) + 1 + 1 + 1 + 1 + 1, ud := (M : Int) + 1 + 1 + 1 + 1 + 1 + 1, qu := (M : Int) + 1 + 1 + 1 + 1 + 1 + 1 + 1, un := (M : Int) + 1 + 1 + 1 + 1 + 1 + 1 + 1 + 1, il := (M : Int) + 1 + 1 + 1 + 1 + 1 + 1 + 1 + 1 + 1 } := List.getElem?_set_self (by rw [hT.out.1]; exact hlt)
      have Y1 : ∀ W1, W1 = ((((((((wt1.setCell ⟨g, k * 10 + 2, none⟩ (.string (mtS (M + 2)))).setCell ⟨g, k * 10 + 3, none⟩ (.int .i64 ((M : Int) + 1 + 1 + 1))).setCell ⟨g, k * 10 + 4, none⟩ (.int .i64 ((M : Int) + 1 + 1 + 1 + 1))).setCell ⟨g, k * 10 + 5, none⟩ (.int .i64 ((M : Int) + 1 + 1 + 1 + 1 + 1))).setCell ⟨g, k * 10 + 6, none⟩ (.int .i64 ((M : Int) + 1 + 1 + 1 + 1 + 1 + 1))).setCell ⟨g, k * 10 + 7, none⟩ (.int .i64 ((M : Int) + 1 + 1 + 1 + 1 + 1 + 1 + 1))).setCell ⟨g, k * 10 + 8, none⟩ (.int .i64 ((M : Int) + 1 + 1 + 1 + 1 + 1 + 1 + 1 + 1))).setCell ⟨g, k * 10 + 9, none⟩ (.int .i64 ((M : Int) + 1 + 1 + 1 + 1 + 1 + 1 + 1 + 1 + 1))) → OwnS svG 10 137 W1 B (.slice (some ⟨g, 0, none⟩) n cap) (L'.set k { x with id := (M : Int), us := (M : Int) + 1, mc := mtS (M + 2), ip := (M : Int) + 1 + 1 + 1, be := (M : Int) + 1 + 1 + 1 + 1, la := (M : Int) + 1 + 1 + 1 + 1 + 1, ud := (M : Int) + 1 + 1 + 1 + 1 + 1 + 1, qu := (M : Int) + 1 + 1 + 1 + 1 + 1 + 1 + 1, un := (M : Int) + 1 + 1 + 1 + 1 + 1 + 1 + 1 + 1, il := (M : Int) + 1 + 1 + 1 + 1 + 1 + 1 + 1 + 1 + 1 }) ∧ w.grownBy W1 (some g) := by
        intro W1 hW1
        subst hW1
        exact ⟨s9.1, (grown_tr (grown_tr (grown_tr (grown_tr (grown_tr (grown_tr (grown_tr (grown_tr Gt1.out s2.2) s3.2) s4.2) s5.2) s6.2) s7.2) s8.2) s9.2)⟩
      have Z1 : Hid (OwnS svG 10 137 ((((((((wt1.setCell ⟨g, k * 10 + 2, none⟩ (.string (mtS (M + 2)))).setCell ⟨g, k * 10 + 3, none⟩ (.int .i64 ((M : Int) + 1 + 1 + 1))).setCell ⟨g, k * 10 + 4, none⟩ (.int .i64 ((M : Int) + 1 + 1 + 1 + 1))).setCell ⟨g, k * 10 + 5, none⟩ (.int .i64 ((M : Int) + 1 + 1 + 1 + 1 + 1))).setCell ⟨g, k * 10 + 6, none⟩ (.int .i64 ((M : Int) + 1 + 1 + 1 + 1 + 1 + 1))).setCell ⟨g, k * 10 + 7, none⟩ (.int .i64 ((M : Int) + 1 + 1 + 1 + 1 + 1 + 1 + 1))).setCell ⟨g, k * 10 + 8, none⟩ (.int .i64 ((M : Int) + 1 + 1 + 1 + 1 + 1 + 1 + 1 + 1))).setCell ⟨g, k * 10 + 9, none⟩ (.int .i64 ((M : Int) + 1 + 1 + 1 + 1 + 1 + 1 + 1 + 1 + 1))) B (.slice (some ⟨g, 0, none⟩) n cap) (L'.set k { x with id := (M : Int), us := (M : Int) + 1, mc := mtS (M + 2), ip := (M : Int) + 1 + 1 + 1, be := (M : Int) + 1 + 1 + 1 + 1, la := (M : Int) + 1 + 1 + 1 + 1 + 1, ud := (M : Int) + 1 + 1 + 1 + 1 + 1 + 1, qu := (M : Int) + 1 + 1 + 1 + 1 + 1 + 1 + 1, un := (M : Int) + 1 + 1 + 1 + 1 + 1 + 1 + 1 + 1, il := (M : Int) + 1 + 1 + 1 + 1 + 1 + 1 + 1 + 1 + 1 }) ∧ w.grownBy ((((((((wt1.setCell ⟨g, k * 10 + 2, none⟩ (.string (mtS (M + 2)))).setCell ⟨g, k * 10 + 3, none⟩ (.int .i64 ((M : Int) + 1 + 1 + 1))).setCell ⟨g, k * 10 + 4, none⟩ (.int .i64 ((M : Int) + 1 + 1 + 1 + 1))).setCell ⟨g, k * 10 + 5, none⟩ (.int .i64 ((M : Int) + 1 + 1 + 1 + 1 + 1))).setCell ⟨g, k * 10 + 6, none⟩ (.int .i64 ((M : Int) + 1 + 1 + 1 + 1 + 1 + 1))).setCell ⟨g, k * 10 + 7, none⟩ (.int .i64 ((M : Int) + 1 + 1 + 1 + 1 + 1 + 1 + 1))).setCell ⟨g, k * 10 + 8, none⟩ (.int .i64 ((M : Int) + 1 + 1 + 1 + 1 + 1 + 1 + 1 + 1))).setCell ⟨g, k * 10 + 9, none⟩ (.int .i64 ((M : Int) + 1 + 1 + 1 + 1 + 1 + 1 + 1 + 1 + 1))) (some g)) := Y1 _ rfl
      have hy1 : Hid ((L'.set k { x with id := (M : Int), us := (M : Int) + 1, mc := mtS (M + 2), ip := (M : Int) + 1 + 1 + 1, be := (M : Int) + 1 + 1 + 1 + 1, la := (M : Int) + 1 + 1 + 1 + 1 + 1, ud := (M : Int) + 1 + 1 + 1 + 1 + 1 + 1, qu := (M : Int) + 1 + 1 + 1 + 1 + 1 + 1 + 1, un := (M : Int) + 1 + 1 + 1 + 1 + 1 + 1 + 1 + 1, il := (M : Int) + 1 + 1 + 1 + 1 + 1 + 1 + 1 + 1 + 1 })[k]? = some { x with id := (M : Int), us := (M : Int) + 1, mc := mtS (M + 2), ip := (M : Int) + 1 + 1 + 1, be := (M : Int) + 1 + 1 + 1 + 1, la := (M : Int) + 1 + 1 + 1 + 1 + 1, ud := (M : Int) + 1 + 1 + 1 + 1 + 1 + 1, qu := (M : Int) + 1 + 1 + 1 + 1 + 1 + 1 + 1, un := (M : Int) + 1 + 1 + 1 + 1 + 1 + 1 + 1 + 1, il := (M : Int) + 1 + 1 + 1 + 1 + 1 + 1 + 1 + 1 + 1 }) := hx9
      clear Y1 ot1 Gt1 s2 hx2 s3 hx3 s4 hx4 s5 hx5 s6 hx6 s7 hx7 s8 hx8 s9 hx9 
      have eSession : { x with id := (M : Int), us := (M : Int) + 1, mc := mtS (M + 2), ip := (M : Int) + 1 + 1 + 1, be := (M : Int) + 1 + 1 + 1 + 1, la := (M : Int) + 1 + 1 + 1 + 1 + 1, ud := (M : Int) + 1 + 1 + 1 + 1 + 1 + 1, qu := (M : Int) + 1 + 1 + 1 + 1 + 1 + 1 + 1, un := (M : Int) + 1 + 1 + 1 + 1 + 1 + 1 + 1 + 1, il := (M : Int) + 1 + 1 + 1 + 1 + 1 + 1 + 1 + 1 + 1 } = mkSession M := rfl
      rw [eSession] at Z1
      have YY : Hid (OwnS svG 10 137 ((((((((wt1.setCell ⟨g, k * 10 + 2, none⟩ (.string (mtS (M + 2)))).setCell ⟨g, k * 10 + 3, none⟩ (.int .i64 ((M : Int) + 1 + 1 + 1))).setCell ⟨g, k * 10 + 4, none⟩ (.int .i64 ((M : Int) + 1 + 1 + 1 + 1))).setCell ⟨g, k * 10 + 5, none⟩ (.int .i64 ((M : Int) + 1 + 1 + 1 + 1 + 1))).setCell ⟨g, k * 10 + 6, none⟩ (.int .i64 ((M : Int) + 1 + 1 + 1 + 1 + 1 + 1))).setCell ⟨g, k * 10 + 7, none⟩ (.int .i64 ((M : Int) + 1 + 1 + 1 + 1 + 1 + 1 + 1))).setCell ⟨g, k * 10 + 8, none⟩ (.int .i64 ((M : Int) + 1 + 1 + 1 + 1 + 1 + 1 + 1 + 1))).setCell ⟨g, k * 10 + 9, none⟩ (.int .i64 ((M : Int) + 1 + 1 + 1 + 1 + 1 + 1 + 1 + 1 + 1))) B (.slice (some ⟨g, 0, none⟩) n cap) (L'.set k (mkSession M)) ∧ (L'.set k (mkSession M)).length = n ∧ (L'.set k (mkSession M)).take (k + 1) = (mkSessionL m0 n).take (k + 1) ∧ w.grownBy ((((((((wt1.setCell ⟨g, k * 10 + 2, none⟩ (.string (mtS (M + 2)))).setCell ⟨g, k * 10 + 3, none⟩ (.int .i64 ((M : Int) + 1 + 1 + 1))).setCell ⟨g, k * 10 + 4, none⟩ (.int .i64 ((M : Int) + 1 + 1 + 1 + 1))).setCell ⟨g, k * 10 + 5, none⟩ (.int .i64 ((M : Int) + 1 + 1 + 1 + 1 + 1))).setCell ⟨g, k * 10 + 6, none⟩ (.int .i64 ((M : Int) + 1 + 1 + 1 + 1 + 1 + 1))).setCell ⟨g, k * 10 + 7, none⟩ (.int .i64 ((M : Int) + 1 + 1 + 1 + 1 + 1 + 1 + 1))).setCell ⟨g, k * 10 + 8, none⟩ (.int .i64 ((M : Int) + 1 + 1 + 1 + 1 + 1 + 1 + 1 + 1))).setCell ⟨g, k * 10 + 9, none⟩ (.int .i64 ((M : Int) + 1 + 1 + 1 + 1 + 1 + 1 + 1 + 1 + 1))) (some g)) := ⟨Z1.out.1, by rw [List.length_set]; exact hT.out.1, takeS_set (by rw [hT.out.1, mkSessionL_len]) (by rw [mkSessionL_at m0 n k hlt, hM.out]) hT.out.2, Z1.out.2⟩
      clear Z1 hT hy0 hy1
      go_wp2
      go_roundw
      case rel => exact ⟨k + 1, M + 10, _, by omega, by go_num, by go_num, (show M + 10 = m0 + 10 * (k + 1) by have := hM.out; omega), YY⟩
      case measure => simp [intOf]; omega
    · obtain rfl : k = n := by omega
      have e1 : L' = mkSessionL m0 k := by
        have := X.out.2.2.1
        rwa [List.take_of_length_le (by rw [X.out.2.1]; exact Nat.le_refl _), List.take_of_length_le (by rw [mkSessionL_len]; exact Nat.le_refl _)] at this
      subst e1
      have hM2 := hM.out
      subst hM2
      go_wp2
      go_ret
      exact ⟨rfl, X.out.1, X.out.2.2.2⟩
set_option maxHeartbeats 4000000 in
theorem heldSessionS_any (a : Option Addr) (n cap m0 : Nat) (w : World) (h : Rw SeR 10 w a (mkSessionL m0 n)) (h0 : 0 < m0) (hm : m0 + 10 * n ≤ 100000000000) :
    Calls Tryz.prog 144 #[.slice a n cap, .int .i64 (m0 : Int)] w fun e w' => e = .returned (.int .i64 ((m0 + 10 * n : Nat) : Int)) ∧ Grw w w' := by
  have H : Hid (Rw SeR 10 w a (mkSessionL m0 n)) := h
  have hlen : n ≤ 100000000000 := by omega
  clear h
  have hmix : Tryz.prog.follows .mixedOrders = true := by kernel_rfl
  go_enter Tryz.func144, Tryz.ntmps144
  go_wp2
  go_loopw [1, 5] (fun m i wr => ∃ k M : Nat, k ≤ n ∧ i = .int .i64 k ∧ m = .int .i64 (M : Int) ∧ Hid (M = m0 + 10 * k) ∧ Hid (Grw w wr)) (fun _ i _ => n - (intOf i).toNat)
  case atStart => exact ⟨0, m0, Nat.zero_le _, rfl, rfl, by show m0 = _; omega, Grw.refl w⟩
  case round =>
    obtain ⟨k, M, hk, rfl, rfl, hM, HG⟩ := hrel
    by_cases hlt : k < n
    · obtain ⟨b, off, vs, rfl, hb, hvl, hR, hc⟩ := H.out.at SeR.kp HG.out.below (mkSessionL_at m0 n k hlt)
      rw [← hM.out] at hR
      obtain ⟨rfl, -⟩ := hR
      have hltz : (k : Int) < (n : Int) := by omega
      have hMz : (M : Int) ≤ 200000000000 := by have := hM.out; omega
      have hM0 : 0 < M := by have := hM.out; omega
      have q0 : wr.cell? ⟨b, off + k * 10, none⟩ = some (.int .i64 ((M : Int))) := hc 0 _ rfl
      have q1 : wr.cell? ⟨b, off + k * 10 + 1, none⟩ = some (.int .i64 ((M : Int) + 1)) := hc 1 _ rfl
      have q2 : wr.cell? ⟨b, off + k * 10 + 2, none⟩ = some (.string (mtS (M + 2))) := hc 2 _ rfl
      have q3 : wr.cell? ⟨b, off + k * 10 + 3, none⟩ = some (.int .i64 ((M : Int) + 1 + 1 + 1)) := hc 3 _ rfl
      have q4 : wr.cell? ⟨b, off + k * 10 + 4, none⟩ = some (.int .i64 ((M : Int) + 1 + 1 + 1 + 1)) := hc 4 _ rfl
      have q5 : wr.cell? ⟨b, off + k * 10 + 5, none⟩ = some (.int .i64 ((M : Int) + 1 + 1 + 1 + 1 + 1)) := hc 5 _ rfl
      have q6 : wr.cell? ⟨b, off + k * 10 + 6, none⟩ = some (.int .i64 ((M : Int) + 1 + 1 + 1 + 1 + 1 + 1)) := hc 6 _ rfl
      have q7 : wr.cell? ⟨b, off + k * 10 + 7, none⟩ = some (.int .i64 ((M : Int) + 1 + 1 + 1 + 1 + 1 + 1 + 1)) := hc 7 _ rfl
      have q8 : wr.cell? ⟨b, off + k * 10 + 8, none⟩ = some (.int .i64 ((M : Int) + 1 + 1 + 1 + 1 + 1 + 1 + 1 + 1)) := hc 8 _ rfl
      have q9 : wr.cell? ⟨b, off + k * 10 + 9, none⟩ = some (.int .i64 ((M : Int) + 1 + 1 + 1 + 1 + 1 + 1 + 1 + 1 + 1)) := hc 9 _ rfl
      clear hc hvl
      have e0 : (((M : Int)) != ((M : Int))) = false := by simp
      have e1 : (((M : Int) + 1) != ((M : Int) + 1)) = false := by simp
      have e3 : (((M : Int) + 1 + 1 + 1) != ((M : Int) + 1 + 1 + 1)) = false := by simp
      have e4 : (((M : Int) + 1 + 1 + 1 + 1) != ((M : Int) + 1 + 1 + 1 + 1)) = false := by simp
      have e5 : (((M : Int) + 1 + 1 + 1 + 1 + 1) != ((M : Int) + 1 + 1 + 1 + 1 + 1)) = false := by simp
      have e6 : (((M : Int) + 1 + 1 + 1 + 1 + 1 + 1) != ((M : Int) + 1 + 1 + 1 + 1 + 1 + 1)) = false := by simp
      have e7 : (((M : Int) + 1 + 1 + 1 + 1 + 1 + 1 + 1) != ((M : Int) + 1 + 1 + 1 + 1 + 1 + 1 + 1)) = false := by simp
      have e8 : (((M : Int) + 1 + 1 + 1 + 1 + 1 + 1 + 1 + 1) != ((M : Int) + 1 + 1 + 1 + 1 + 1 + 1 + 1 + 1)) = false := by simp
      have e9 : (((M : Int) + 1 + 1 + 1 + 1 + 1 + 1 + 1 + 1 + 1) != ((M : Int) + 1 + 1 + 1 + 1 + 1 + 1 + 1 + 1 + 1)) = false := by simp
      have HM2 : Hid (∀ w, Calls Tryz.prog 139 #[.int .i64 ((M : Int) + 1 + 1)] w fun e w' => e = .returned (.string (mtS (M + 2))) ∧ Grw w w') := fun w => by
        have := markText_any (M + 2) w (by omega) (by omega)
        rw [show ((M + 2 : Nat) : Int) = (M : Int) + 1 + 1 by omega] at this
        exact this
      generalize mtS (M + 2) = T2 at *
      have t2 : (T2.toList == T2.toList) = true := by simp
      have y2 : ∀ n os, (grow (wr.drewN n) os).cell? ⟨b, off + k * 10 + 2, none⟩ = some (.string T2) := fun n os => bkeep (Grw.below ⟨n, os, rfl⟩) q2
      go_wp2_with fail
      refine wp_region_quiet_grown (by assumption) (by kernel_rfl) ?_
      repeat (go_big_quiet_step (first | fail | (go_at_call 139; exact Calls.grown_of (HM2.out _))))
      refine wpQuiet_nil ?_
      intro _ hw'
      obtain ⟨⟨nq, osq⟩, hw''⟩ := hw'
      subst hw''
      have HG2 : Hid (Grw w (grow (wr.drewN nq) osq)) := HG.out.trans ⟨nq, osq, rfl⟩
      replace q3 : (grow (wr.drewN nq) osq).cell? ⟨b, off + k * 10 + 3, none⟩ = some (.int .i64 ((M : Int) + 1 + 1 + 1)) := bkeep (Grw.below ⟨nq, osq, rfl⟩) q3
      replace q4 : (grow (wr.drewN nq) osq).cell? ⟨b, off + k * 10 + 4, none⟩ = some (.int .i64 ((M : Int) + 1 + 1 + 1 + 1)) := bkeep (Grw.below ⟨nq, osq, rfl⟩) q4
      replace q5 : (grow (wr.drewN nq) osq).cell? ⟨b, off + k * 10 + 5, none⟩ = some (.int .i64 ((M : Int) + 1 + 1 + 1 + 1 + 1)) := bkeep (Grw.below ⟨nq, osq, rfl⟩) q5
      replace q6 : (grow (wr.drewN nq) osq).cell? ⟨b, off + k * 10 + 6, none⟩ = some (.int .i64 ((M : Int) + 1 + 1 + 1 + 1 + 1 + 1)) := bkeep (Grw.below ⟨nq, osq, rfl⟩) q6
      replace q7 : (grow (wr.drewN nq) osq).cell? ⟨b, off + k * 10 + 7, none⟩ = some (.int .i64 ((M : Int) + 1 + 1 + 1 + 1 + 1 + 1 + 1)) := bkeep (Grw.below ⟨nq, osq, rfl⟩) q7
      replace q8 : (grow (wr.drewN nq) osq).cell? ⟨b, off + k * 10 + 8, none⟩ = some (.int .i64 ((M : Int) + 1 + 1 + 1 + 1 + 1 + 1 + 1 + 1)) := bkeep (Grw.below ⟨nq, osq, rfl⟩) q8
      replace q9 : (grow (wr.drewN nq) osq).cell? ⟨b, off + k * 10 + 9, none⟩ = some (.int .i64 ((M : Int) + 1 + 1 + 1 + 1 + 1 + 1 + 1 + 1 + 1)) := bkeep (Grw.below ⟨nq, osq, rfl⟩) q9
      clear y2 q0 q1 q2 HM2
      generalize (grow (wr.drewN nq) osq) = wv2 at *
      go_wp2
      go_roundw
      case rel => exact ⟨k + 1, M + 10, by omega, by go_num, by go_num, (show M + 10 = m0 + 10 * (k + 1) by have := hM.out; omega), HG2⟩
      case measure => simp [intOf]; omega
    · obtain rfl : k = n := by omega
      have hM2 := hM.out
      subst hM2
      go_wp2
      go_ret
      exact ⟨rfl, HG.out⟩
/-- What is marked. -/
def mkFail (M : Nat) : FailV := ⟨mtS M, (M : Int) + 1, (M : Int) + 1 + 1⟩
def mkFailL (m0 n : Nat) : List FailV := (List.range n).map (fun k => mkFail (m0 + 3 * k))
theorem mkFailL_len (m0 n : Nat) : (mkFailL m0 n).length = n := by simp [mkFailL]
theorem mkFailL_at (m0 n i : Nat) (h : i < n) : (mkFailL m0 n)[i]? = some (mkFail (m0 + 3 * i)) := by rw [mkFailL, List.getElem?_map, List.getElem?_range h]; rfl
theorem mkFail_ok (M : Nat) (h : M + 3 ≤ 1000000000000) : FaRok (mkFail M) := by
  unfold FaRok mkFail
  dsimp only
  exact ⟨Nat.le_trans (mtS_len _ (by omega)) (by unfold maxLen; omega), int_wf9 (by omega) (by omega), int_wf9 (by omega) (by omega)⟩
theorem mkFailL_ok (m0 n : Nat) (h : m0 + 3 * n ≤ 1000000000000) : ∀ x, x ∈ mkFailL m0 n → FaRok x := by
  intro x hx
  unfold mkFailL at hx
  simp at hx
  obtain ⟨i, hi, rfl⟩ := hx
  exact mkFail_ok _ (by omega)
set_option maxHeartbeats 4000000 in
theorem markFailS_any (a : Option Addr) (n cap B m0 : Nat) (L : List FailV) (w : World) (h : OwnS fvG 3 179 w B (.slice a n cap) L) (h0 : 0 < m0) (hm : m0 + 3 * n ≤ 100000000000) :
    Calls Tryz.prog 64 #[.slice a n cap, .int .i64 (m0 : Int)] w fun e w' => e = .returned (.int .i64 ((m0 + 3 * n : Nat) : Int)) ∧ OwnS fvG 3 179 w' B (.slice a n cap) (mkFailL m0 n) ∧ w.grownBy w' (Value.slice a n cap).ownBlock := by
  have H : Hid (OwnS fvG 3 179 w B (.slice a n cap) L) := h
  have hn := h.len
  have hlen : n ≤ 100000000000 := by omega
  clear h
  go_enter Tryz.func64, Tryz.ntmps64
  go_wp2
  go_loopw [1, 5] (fun m i wr => ∃ (k M : Nat) (L' : List FailV), k ≤ n ∧ i = .int .i64 k ∧ m = .int .i64 (M : Int) ∧ Hid (M = m0 + 3 * k) ∧ Hid (OwnS fvG 3 179 wr B (.slice a n cap) L' ∧ L'.length = n ∧ L'.take k = (mkFailL m0 n).take k ∧ w.grownBy wr (Value.slice a n cap).ownBlock)) (fun _ i _ => n - (intOf i).toNat)
  case atStart => exact ⟨0, m0, L, Nat.zero_le _, rfl, rfl, by show m0 = _; omega, H.out, hn, rfl, grown_refl w _⟩
  case round =>
    obtain ⟨k, M, L', hk, rfl, rfl, hM, X⟩ := hrel
    by_cases hlt : k < n
    · obtain ⟨g, rfl, hBg, hg, -⟩ := X.out.1.form (by rw [X.out.2.1]; omega)
      obtain ⟨x, hx⟩ := at_of (k := k) X.out.2.1 hlt
      have hltz : (k : Int) < (n : Int) := by omega
      have hMz : (M : Int) ≤ 200000000000 := by have := hM.out; omega
      have hM0 : 0 < M := by have := hM.out; omega
      have G0 : Hid (w.grownBy wr (some g)) := X.out.2.2.2
      have o0 := X.out.1
      have hT : Hid (L'.length = n ∧ L'.take k = (mkFailL m0 n).take k) := ⟨X.out.2.1, X.out.2.2.1⟩
      clear X
      have HM0 : Hid (∀ w, Calls Tryz.prog 139 #[.int .i64 ((M : Int))] w fun e w' => e = .returned (.string (mtS (M))) ∧ Grw w w') := fun w => by
        have := markText_any (M) w (by omega) (by omega)
        exact this
      go_wp2_with fail
      refine (HM0.out _).mono ?_
      rintro e wt0 ⟨rfl, gt0⟩
      have ot0 := o0.now gt0.below
      have Gt0 : Hid (w.grownBy wt0 (some g)) := grown_tr G0.out (gt0.grown _)
      clear HM0 gt0 o0 G0
      obtain ⟨c0, z0⟩ := ot0.cell fvG_len (j := 0) hx rfl
      replace c0 : wt0.cell? ⟨g, k * 3, none⟩ = some (.string x.mc) := c0
      replace z0 : wt0.frozen? ⟨g, k * 3, none⟩ = false := z0
      obtain ⟨c1, z1⟩ := ot0.cell fvG_len (j := 1) hx rfl
      obtain ⟨c2, z2⟩ := ot0.cell fvG_len (j := 2) hx rfl
      have s0 := ot0.set1 fvG_len (j := 0) (y := { x with mc := mtS M }) (u := .string (mtS M)) hx (by omega) rfl
      have hx0 : (L'.set k { x with mc := mtS M })[k]? = some { x with mc := mtS M } := List.getElem?_set_self (by rw [hT.out.1]; exact hlt)
      have s1 := s0.1.set1 fvG_len (j := 1) (y := { x with mc := mtS M, ct := (M : Int) + 1 }) (u := .int .i64 ((M : Int) + 1)) hx0 (by omega) rfl
      rw [List.set_set] at s1
      have hx1 : (L'.set k { x with mc := mtS M, ct := (M : Int) + 1 })[k]? = some { x with mc := mtS M, ct := (M : Int) + 1 } := List.getElem?_set_self (by rw [hT.out.1]; exact hlt)
      have s2 := s1.1.set1 fvG_len (j := 2) (y := { x with mc := mtS M, ct := (M : Int) + 1, un := (M : Int) + 1 + 1 }) (u := .int .i64 ((M : Int) + 1 + 1)) hx1 (by omega) rfl
      rw [List.set_set] at s2
      have hx2 : (L'.set k { x with mc := mtS M, ct := (M : Int) + 1, un := (M : Int) + 1 + 1 })[k]? = some { x with mc := mtS M, ct := (M : Int) + 1, un := (M : Int) + 1 + 1 } := List.getElem?_set_self (by rw [hT.out.1]; exact hlt)
      have Y0 : ∀ W1, W1 = (((wt0.setCell ⟨g, k * 3, none⟩ (.string (mtS M))).setCell ⟨g, k * 3 + 1, none⟩ (.int .i64 ((M : Int) + 1))).setCell ⟨g, k * 3 + 2, none⟩ (.int .i64 ((M : Int) + 1 + 1))) → OwnS fvG 3 179 W1 B (.slice (some ⟨g, 0, none⟩) n cap) (L'.set k { x with mc := mtS M, ct := (M : Int) + 1, un := (M : Int) + 1 + 1 }) ∧ w.grownBy W1 (some g) := by
        intro W1 hW1
        subst hW1
        exact ⟨s2.1, (grown_tr (grown_tr (grown_tr Gt0.out s0.2) s1.2) s2.2)⟩
      have Z0 : Hid (OwnS fvG 3 179 (((wt0.setCell ⟨g, k * 3, none⟩ (.string (mtS M))).setCell ⟨g, k * 3 + 1, none⟩ (.int .i64 ((M : Int) + 1))).setCell ⟨g, k * 3 + 2, none⟩ (.int .i64 ((M : Int) + 1 + 1))) B (.slice (some ⟨g, 0, none⟩) n cap) (L'.set k { x with mc := mtS M, ct := (M : Int) + 1, un := (M : Int) + 1 + 1 }) ∧ w.grownBy (((wt0.setCell ⟨g, k * 3, none⟩ (.string (mtS M))).setCell ⟨g, k * 3 + 1, none⟩ (.int .i64 ((M : Int) + 1))).setCell ⟨g, k * 3 + 2, none⟩ (.int .i64 ((M : Int) + 1 + 1))) (some g)) := Y0 _ rfl
      have hy0 : Hid ((L'.set k { x with mc := mtS M, ct := (M : Int) + 1, un := (M : Int) + 1 + 1 })[k]? = some { x with mc := mtS M, ct := (M : Int) + 1, un := (M : Int) + 1 + 1 }) := hx2
      clear Y0 ot0 Gt0 s0 hx0 s1 hx1 s2 hx2 hx
      have eFail : { x with mc := mtS M, ct := (M : Int) + 1, un := (M : Int) + 1 + 1 } = mkFail M := rfl
      rw [eFail] at Z0
      have YY : Hid (OwnS fvG 3 179 (((wt0.setCell ⟨g, k * 3, none⟩ (.string (mtS M))).setCell ⟨g, k * 3 + 1, none⟩ (.int .i64 ((M : Int) + 1))).setCell ⟨g, k * 3 + 2, none⟩ (.int .i64 ((M : Int) + 1 + 1))) B (.slice (some ⟨g, 0, none⟩) n cap) (L'.set k (mkFail M)) ∧ (L'.set k (mkFail M)).length = n ∧ (L'.set k (mkFail M)).take (k + 1) = (mkFailL m0 n).take (k + 1) ∧ w.grownBy (((wt0.setCell ⟨g, k * 3, none⟩ (.string (mtS M))).setCell ⟨g, k * 3 + 1, none⟩ (.int .i64 ((M : Int) + 1))).setCell ⟨g, k * 3 + 2, none⟩ (.int .i64 ((M : Int) + 1 + 1))) (some g)) := ⟨Z0.out.1, by rw [List.length_set]; exact hT.out.1, takeS_set (by rw [hT.out.1, mkFailL_len]) (by rw [mkFailL_at m0 n k hlt, hM.out]) hT.out.2, Z0.out.2⟩
      clear Z0 hT hy0
      go_wp2
      go_roundw
      case rel => exact ⟨k + 1, M + 3, _, by omega, by go_num, by go_num, (show M + 3 = m0 + 3 * (k + 1) by have := hM.out; omega), YY⟩
      case measure => simp [intOf]; omega
    · obtain rfl : k = n := by omega
      have e1 : L' = mkFailL m0 k := by
        have := X.out.2.2.1
        rwa [List.take_of_length_le (by rw [X.out.2.1]; exact Nat.le_refl _), List.take_of_length_le (by rw [mkFailL_len]; exact Nat.le_refl _)] at this
      subst e1
      have hM2 := hM.out
      subst hM2
      go_wp2
      go_ret
      exact ⟨rfl, X.out.1, X.out.2.2.2⟩
set_option maxHeartbeats 4000000 in
theorem heldFailS_any (a : Option Addr) (n cap m0 : Nat) (w : World) (h : Rw FaR 3 w a (mkFailL m0 n)) (h0 : 0 < m0) (hm : m0 + 3 * n ≤ 100000000000) :
    Calls Tryz.prog 145 #[.slice a n cap, .int .i64 (m0 : Int)] w fun e w' => e = .returned (.int .i64 ((m0 + 3 * n : Nat) : Int)) ∧ Grw w w' := by
  have H : Hid (Rw FaR 3 w a (mkFailL m0 n)) := h
  have hlen : n ≤ 100000000000 := by omega
  clear h
  have hmix : Tryz.prog.follows .mixedOrders = true := by kernel_rfl
  go_enter Tryz.func145, Tryz.ntmps145
  go_wp2
  go_loopw [1, 5] (fun m i wr => ∃ k M : Nat, k ≤ n ∧ i = .int .i64 k ∧ m = .int .i64 (M : Int) ∧ Hid (M = m0 + 3 * k) ∧ Hid (Grw w wr)) (fun _ i _ => n - (intOf i).toNat)
  case atStart => exact ⟨0, m0, Nat.zero_le _, rfl, rfl, by show m0 = _; omega, Grw.refl w⟩
  case round =>
    obtain ⟨k, M, hk, rfl, rfl, hM, HG⟩ := hrel
    by_cases hlt : k < n
    · obtain ⟨b, off, vs, rfl, hb, hvl, hR, hc⟩ := H.out.at FaR.kp HG.out.below (mkFailL_at m0 n k hlt)
      rw [← hM.out] at hR
      obtain ⟨rfl, -⟩ := hR
      have hltz : (k : Int) < (n : Int) := by omega
      have hMz : (M : Int) ≤ 200000000000 := by have := hM.out; omega
      have hM0 : 0 < M := by have := hM.out; omega
      have q0 : wr.cell? ⟨b, off + k * 3, none⟩ = some (.string (mtS M)) := hc 0 _ rfl
      have q1 : wr.cell? ⟨b, off + k * 3 + 1, none⟩ = some (.int .i64 ((M : Int) + 1)) := hc 1 _ rfl
      have q2 : wr.cell? ⟨b, off + k * 3 + 2, none⟩ = some (.int .i64 ((M : Int) + 1 + 1)) := hc 2 _ rfl
      clear hc hvl
      have e1 : (((M : Int) + 1) != ((M : Int) + 1)) = false := by simp
      have e2 : (((M : Int) + 1 + 1) != ((M : Int) + 1 + 1)) = false := by simp
      have HM0 : Hid (∀ w, Calls Tryz.prog 139 #[.int .i64 ((M : Int))] w fun e w' => e = .returned (.string (mtS (M))) ∧ Grw w w') := fun w => by
        have := markText_any (M) w (by omega) (by omega)
        exact this
      generalize mtS (M) = T0 at *
      have t0 : (T0.toList == T0.toList) = true := by simp
      have y0 : ∀ n os, (grow (wr.drewN n) os).cell? ⟨b, off + k * 3, none⟩ = some (.string T0) := fun n os => bkeep (Grw.below ⟨n, os, rfl⟩) q0
      go_wp2_with fail
      refine wp_region_quiet_grown (by assumption) (by kernel_rfl) ?_
      repeat (go_big_quiet_step (first | fail | (go_at_call 139; exact Calls.grown_of (HM0.out _))))
      refine wpQuiet_nil ?_
      intro _ hw'
      obtain ⟨⟨nq, osq⟩, hw''⟩ := hw'
      subst hw''
      have HG0 : Hid (Grw w (grow (wr.drewN nq) osq)) := HG.out.trans ⟨nq, osq, rfl⟩
      replace q1 : (grow (wr.drewN nq) osq).cell? ⟨b, off + k * 3 + 1, none⟩ = some (.int .i64 ((M : Int) + 1)) := bkeep (Grw.below ⟨nq, osq, rfl⟩) q1
      replace q2 : (grow (wr.drewN nq) osq).cell? ⟨b, off + k * 3 + 2, none⟩ = some (.int .i64 ((M : Int) + 1 + 1)) := bkeep (Grw.below ⟨nq, osq, rfl⟩) q2
      clear y0 q0 HM0
      generalize (grow (wr.drewN nq) osq) = wv0 at *
      go_wp2
      go_roundw
      case rel => exact ⟨k + 1, M + 3, by omega, by go_num, by go_num, (show M + 3 = m0 + 3 * (k + 1) by have := hM.out; omega), HG0⟩
      case measure => simp [intOf]; omega
    · obtain rfl : k = n := by omega
      have hM2 := hM.out
      subst hM2
      go_wp2
      go_ret
      exact ⟨rfl, HG.out⟩
/-- What is marked. -/
def mkRecord (M : Nat) : RecV := ⟨(M : Int), (M : Int) + 1, (M : Int) + 1 + 1, (M : Int) + 1 + 1 + 1, (((M : Int) + 1 + 1 + 1 + 1) % 3 == 0)⟩
def mkRecordL (m0 n : Nat) : List RecV := (List.range n).map (fun k => mkRecord (m0 + 5 * k))
theorem mkRecordL_len (m0 n : Nat) : (mkRecordL m0 n).length = n := by simp [mkRecordL]
theorem mkRecordL_at (m0 n i : Nat) (h : i < n) : (mkRecordL m0 n)[i]? = some (mkRecord (m0 + 5 * i)) := by rw [mkRecordL, List.getElem?_map, List.getElem?_range h]; rfl
theorem mkRecord_ok (M : Nat) (h : M + 5 ≤ 1000000000000) : ReRok (mkRecord M) := by
  unfold ReRok mkRecord
  dsimp only
  exact ⟨int_wf9 (by omega) (by omega), int_wf9 (by omega) (by omega), int_wf9 (by omega) (by omega), int_wf9 (by omega) (by omega)⟩
theorem mkRecordL_ok (m0 n : Nat) (h : m0 + 5 * n ≤ 1000000000000) : ∀ x, x ∈ mkRecordL m0 n → ReRok x := by
  intro x hx
  unfold mkRecordL at hx
  simp at hx
  obtain ⟨i, hi, rfl⟩ := hx
  exact mkRecord_ok _ (by omega)
set_option maxHeartbeats 4000000 in
theorem markRecordS_any (a : Option Addr) (n cap B m0 : Nat) (L : List RecV) (w : World) (h : OwnS evG 5 163 w B (.slice a n cap) L) (h0 : 0 < m0) (hm : m0 + 5 * n ≤ 100000000000) :
    Calls Tryz.prog 65 #[.slice a n cap, .int .i64 (m0 : Int)] w fun e w' => e = .returned (.int .i64 ((m0 + 5 * n : Nat) : Int)) ∧ OwnS evG 5 163 w' B (.slice a n cap) (mkRecordL m0 n) ∧ w.grownBy w' (Value.slice a n cap).ownBlock := by
  have H : Hid (OwnS evG 5 163 w B (.slice a n cap) L) := h
  have hn := h.len
  have hlen : n ≤ 100000000000 := by omega
  clear h
  go_enter Tryz.func65, Tryz.ntmps65
  go_wp2
  go_loopw [1, 5] (fun m i wr => ∃ (k M : Nat) (L' : List RecV), k ≤ n ∧ i = .int .i64 k ∧ m = .int .i64 (M : Int) ∧ Hid (M = m0 + 5 * k) ∧ Hid (OwnS evG 5 163 wr B (.slice a n cap) L' ∧ L'.length = n ∧ L'.take k = (mkRecordL m0 n).take k ∧ w.grownBy wr (Value.slice a n cap).ownBlock)) (fun _ i _ => n - (intOf i).toNat)
  case atStart => exact ⟨0, m0, L, Nat.zero_le _, rfl, rfl, by show m0 = _; omega, H.out, hn, rfl, grown_refl w _⟩
  case round =>
    obtain ⟨k, M, L', hk, rfl, rfl, hM, X⟩ := hrel
    by_cases hlt : k < n
    · obtain ⟨g, rfl, hBg, hg, -⟩ := X.out.1.form (by rw [X.out.2.1]; omega)
      obtain ⟨x, hx⟩ := at_of (k := k) X.out.2.1 hlt
      have hltz : (k : Int) < (n : Int) := by omega
      have hMz : (M : Int) ≤ 200000000000 := by have := hM.out; omega
      have hM0 : 0 < M := by have := hM.out; omega
      have G0 : Hid (w.grownBy wr (some g)) := X.out.2.2.2
      have o0 := X.out.1
      have hT : Hid (L'.length = n ∧ L'.take k = (mkRecordL m0 n).take k) := ⟨X.out.2.1, X.out.2.2.1⟩
      clear X
      obtain ⟨c0, z0⟩ := o0.cell evG_len (j := 0) hx rfl
      replace c0 : wr.cell? ⟨g, k * 5, none⟩ = some (.int .i64 x.id) := c0
      replace z0 : wr.frozen? ⟨g, k * 5, none⟩ = false := z0
      obtain ⟨c1, z1⟩ := o0.cell evG_len (j := 1) hx rfl
      obtain ⟨c2, z2⟩ := o0.cell evG_len (j := 2) hx rfl
      obtain ⟨c3, z3⟩ := o0.cell evG_len (j := 3) hx rfl
      obtain ⟨c4, z4⟩ := o0.cell evG_len (j := 4) hx rfl
      have s0 := o0.set1 evG_len (j := 0) (y := { x with id := (M : Int) }) (u := .int .i64 ((M : Int))) hx (by omega) rfl
      have hx0 : (L'.set k { x with id := (M : Int) })[k]? = some { x with id := (M : Int) } := List.getElem?_set_self (by rw [hT.out.1]; exact hlt)
      have s1 := s0.1.set1 evG_len (j := 1) (y := { x with id := (M : Int), tm := (M : Int) + 1 }) (u := .int .i64 ((M : Int) + 1)) hx0 (by omega) rfl
      rw [List.set_set] at s1
      have hx1 : (L'.set k { x with id := (M : Int), tm := (M : Int) + 1 })[k]? = some { x with id := (M : Int), tm := (M : Int) + 1 } := List.getElem?_set_self (by rw [hT.out.1]; exact hlt)
      have s2 := s1.1.set1 evG_len (j := 2) (y := { x with id := (M : Int), tm := (M : Int) + 1, ca := (M : Int) + 1 + 1 }) (u := .int .i64 ((M : Int) + 1 + 1)) hx1 (by omega) rfl
      rw [List.set_set] at s2
      have hx2 : (L'.set k { x with id := (M : Int), tm := (M : Int) + 1, ca := (M : Int) + 1 + 1 })[k]? = some { x with id := (M : Int), tm := (M : Int) + 1, ca := (M : Int) + 1 + 1 } := List.getElem?_set_self (by rw [hT.out.1]; exact hlt)
      have s3 := s2.1.set1 evG_len (j := 3) (y := { x with id := (M : Int), tm := (M : Int) + 1, ca := (M : Int) + 1 + 1, bt := (M : Int) + 1 + 1 + 1 }) (u := .int .i64 ((M : Int) + 1 + 1 + 1)) hx2 (by omega) rfl
      rw [List.set_set] at s3
      have hx3 : (L'.set k { x with id := (M : Int), tm := (M : Int) + 1, ca := (M : Int) + 1 + 1, bt := (M : Int) + 1 + 1 + 1 })[k]? = some { x with id := (M : Int), tm := (M : Int) + 1, ca := (M : Int) + 1 + 1, bt := (M : Int) + 1 + 1 + 1 } := List.getElem?_set_self (by rw [hT.out.1]; exact hlt)
      have s4 := s3.1.set1 evG_len (j := 4) (y := { x with id := (M : Int), tm := (M : Int) + 1, ca := (M : Int) + 1 + 1, bt := (M : Int) + 1 + 1 + 1, st := (((M : Int) + 1 + 1 + 1 + 1) % 3 == 0) }) (u := .bool (((M : Int) + 1 + 1 + 1 + 1) % 3 == 0)) hx3 (by omega) rfl
      rw [List.set_set] at s4
      have hx4 : (L'.set k { x with id := (M : Int), tm := (M : Int) + 1, ca := (M : Int) + 1 + 1, bt := (M : Int) + 1 + 1 + 1, st := (((M : Int) + 1 + 1 + 1 + 1) % 3 == 0) })[k]? = some { x with id := (M : Int), tm := (M : Int) + 1, ca := (M : Int) + 1 + 1, bt := (M : Int) + 1 + 1 + 1, st := (((M : Int) + 1 + 1 + 1 + 1) % 3 == 0) } := List.getElem?_set_self (by rw [hT.out.1]; exact hlt)
      have Y0 : ∀ W1, W1 = (((((wr.setCell ⟨g, k * 5, none⟩ (.int .i64 ((M : Int)))).setCell ⟨g, k * 5 + 1, none⟩ (.int .i64 ((M : Int) + 1))).setCell ⟨g, k * 5 + 2, none⟩ (.int .i64 ((M : Int) + 1 + 1))).setCell ⟨g, k * 5 + 3, none⟩ (.int .i64 ((M : Int) + 1 + 1 + 1))).setCell ⟨g, k * 5 + 4, none⟩ (.bool (((M : Int) + 1 + 1 + 1 + 1) % 3 == 0))) → OwnS evG 5 163 W1 B (.slice (some ⟨g, 0, none⟩) n cap) (L'.set k { x with id := (M : Int), tm := (M : Int) + 1, ca := (M : Int) + 1 + 1, bt := (M : Int) + 1 + 1 + 1, st := (((M : Int) + 1 + 1 + 1 + 1) % 3 == 0) }) ∧ w.grownBy W1 (some g) := by
        intro W1 hW1
        subst hW1
        exact ⟨s4.1, (grown_tr (grown_tr (grown_tr (grown_tr (grown_tr G0.out s0.2) s1.2) s2.2) s3.2) s4.2)⟩
      have Z0 : Hid (OwnS evG 5 163 (((((wr.setCell ⟨g, k * 5, none⟩ (.int .i64 ((M : Int)))).setCell ⟨g, k * 5 + 1, none⟩ (.int .i64 ((M : Int) + 1))).setCell ⟨g, k * 5 + 2, none⟩ (.int .i64 ((M : Int) + 1 + 1))).setCell ⟨g, k * 5 + 3, none⟩ (.int .i64 ((M : Int) + 1 + 1 + 1))).setCell ⟨g, k * 5 + 4, none⟩ (.bool (((M : Int) + 1 + 1 + 1 + 1) % 3 == 0))) B (.slice (some ⟨g, 0, none⟩) n cap) (L'.set k { x with id := (M : Int), tm := (M : Int) + 1, ca := (M : Int) + 1 + 1, bt := (M : Int) + 1 + 1 + 1, st := (((M : Int) + 1 + 1 + 1 + 1) % 3 == 0) }) ∧ w.grownBy (((((wr.setCell ⟨g, k * 5, none⟩ (.int .i64 ((M : Int)))).setCell ⟨g, k * 5 + 1, none⟩ (.int .i64 ((M : Int) + 1))).setCell ⟨g, k * 5 + 2, none⟩ (.int .i64 ((M : Int) + 1 + 1))).setCell ⟨g, k * 5 + 3, none⟩ (.int .i64 ((M : Int) + 1 + 1 + 1))).setCell ⟨g, k * 5 + 4, none⟩ (.bool (((M : Int) + 1 + 1 + 1 + 1) % 3 == 0))) (some g)) := Y0 _ rfl
      have hy0 : Hid ((L'.set k { x with id := (M : Int), tm := (M : Int) + 1, ca := (M : Int) + 1 + 1, bt := (M : Int) + 1 + 1 + 1, st := (((M : Int) + 1 + 1 + 1 + 1) % 3 == 0) })[k]? = some { x with id := (M : Int), tm := (M : Int) + 1, ca := (M : Int) + 1 + 1, bt := (M : Int) + 1 + 1 + 1, st := (((M : Int) + 1 + 1 + 1 + 1) % 3 == 0) }) := hx4
      clear Y0 o0 G0 s0 hx0 s1 hx1 s2 hx2 s3 hx3 s4 hx4 hx
      have eRecord : { x with id := (M : Int), tm := (M : Int) + 1, ca := (M : Int) + 1 + 1, bt := (M : Int) + 1 + 1 + 1, st := (((M : Int) + 1 + 1 + 1 + 1) % 3 == 0) } = mkRecord M := rfl
      rw [eRecord] at Z0
      have YY : Hid (OwnS evG 5 163 (((((wr.setCell ⟨g, k * 5, none⟩ (.int .i64 ((M : Int)))).setCell ⟨g, k * 5 + 1, none⟩ (.int .i64 ((M : Int) + 1))).setCell ⟨g, k * 5 + 2, none⟩ (.int .i64 ((M : Int) + 1 + 1))).setCell ⟨g, k * 5 + 3, none⟩ (.int .i64 ((M : Int) + 1 + 1 + 1))).setCell ⟨g, k * 5 + 4, none⟩ (.bool (((M : Int) + 1 + 1 + 1 + 1) % 3 == 0))) B (.slice (some ⟨g, 0, none⟩) n cap) (L'.set k (mkRecord M)) ∧ (L'.set k (mkRecord M)).length = n ∧ (L'.set k (mkRecord M)).take (k + 1) = (mkRecordL m0 n).take (k + 1) ∧ w.grownBy (((((wr.setCell ⟨g, k * 5, none⟩ (.int .i64 ((M : Int)))).setCell ⟨g, k * 5 + 1, none⟩ (.int .i64 ((M : Int) + 1))).setCell ⟨g, k * 5 + 2, none⟩ (.int .i64 ((M : Int) + 1 + 1))).setCell ⟨g, k * 5 + 3, none⟩ (.int .i64 ((M : Int) + 1 + 1 + 1))).setCell ⟨g, k * 5 + 4, none⟩ (.bool (((M : Int) + 1 + 1 + 1 + 1) % 3 == 0))) (some g)) := ⟨Z0.out.1, by rw [List.length_set]; exact hT.out.1, takeS_set (by rw [hT.out.1, mkRecordL_len]) (by rw [mkRecordL_at m0 n k hlt, hM.out]) hT.out.2, Z0.out.2⟩
      clear Z0 hT hy0
      go_wp2
      go_roundw
      case rel => exact ⟨k + 1, M + 5, _, by omega, by go_num, by go_num, (show M + 5 = m0 + 5 * (k + 1) by have := hM.out; omega), YY⟩
      case measure => simp [intOf]; omega
    · obtain rfl : k = n := by omega
      have e1 : L' = mkRecordL m0 k := by
        have := X.out.2.2.1
        rwa [List.take_of_length_le (by rw [X.out.2.1]; exact Nat.le_refl _), List.take_of_length_le (by rw [mkRecordL_len]; exact Nat.le_refl _)] at this
      subst e1
      have hM2 := hM.out
      subst hM2
      go_wp2
      go_ret
      exact ⟨rfl, X.out.1, X.out.2.2.2⟩
set_option maxHeartbeats 4000000 in
theorem heldRecordS_any (a : Option Addr) (n cap m0 : Nat) (w : World) (h : Rw ReR 5 w a (mkRecordL m0 n)) (h0 : 0 < m0) (hm : m0 + 5 * n ≤ 100000000000) :
    Calls Tryz.prog 146 #[.slice a n cap, .int .i64 (m0 : Int)] w fun e w' => e = .returned (.int .i64 ((m0 + 5 * n : Nat) : Int)) ∧ Grw w w' := by
  have H : Hid (Rw ReR 5 w a (mkRecordL m0 n)) := h
  have hlen : n ≤ 100000000000 := by omega
  clear h
  have hmix : Tryz.prog.follows .mixedOrders = true := by kernel_rfl
  go_enter Tryz.func146, Tryz.ntmps146
  go_wp2
  go_loopw [1, 5] (fun m i wr => ∃ k M : Nat, k ≤ n ∧ i = .int .i64 k ∧ m = .int .i64 (M : Int) ∧ Hid (M = m0 + 5 * k) ∧ Hid (Grw w wr)) (fun _ i _ => n - (intOf i).toNat)
  case atStart => exact ⟨0, m0, Nat.zero_le _, rfl, rfl, by show m0 = _; omega, Grw.refl w⟩
  case round =>
    obtain ⟨k, M, hk, rfl, rfl, hM, HG⟩ := hrel
    by_cases hlt : k < n
    · obtain ⟨b, off, vs, rfl, hb, hvl, hR, hc⟩ := H.out.at ReR.kp HG.out.below (mkRecordL_at m0 n k hlt)
      rw [← hM.out] at hR
      obtain ⟨rfl, -⟩ := hR
      have hltz : (k : Int) < (n : Int) := by omega
      have hMz : (M : Int) ≤ 200000000000 := by have := hM.out; omega
      have hM0 : 0 < M := by have := hM.out; omega
      have q0 : wr.cell? ⟨b, off + k * 5, none⟩ = some (.int .i64 ((M : Int))) := hc 0 _ rfl
      have q1 : wr.cell? ⟨b, off + k * 5 + 1, none⟩ = some (.int .i64 ((M : Int) + 1)) := hc 1 _ rfl
      have q2 : wr.cell? ⟨b, off + k * 5 + 2, none⟩ = some (.int .i64 ((M : Int) + 1 + 1)) := hc 2 _ rfl
      have q3 : wr.cell? ⟨b, off + k * 5 + 3, none⟩ = some (.int .i64 ((M : Int) + 1 + 1 + 1)) := hc 3 _ rfl
      have q4 : wr.cell? ⟨b, off + k * 5 + 4, none⟩ = some (.bool (((M : Int) + 1 + 1 + 1 + 1) % 3 == 0)) := hc 4 _ rfl
      clear hc hvl
      have e0 : (((M : Int)) != ((M : Int))) = false := by simp
      have e1 : (((M : Int) + 1) != ((M : Int) + 1)) = false := by simp
      have e2 : (((M : Int) + 1 + 1) != ((M : Int) + 1 + 1)) = false := by simp
      have e3 : (((M : Int) + 1 + 1 + 1) != ((M : Int) + 1 + 1 + 1)) = false := by simp
      have e4 : ((((M : Int) + 1 + 1 + 1 + 1) % 3 == 0) != (((M : Int) + 1 + 1 + 1 + 1) % 3 == 0)) = false := by simp
      go_wp2
      go_roundw
      case rel => exact ⟨k + 1, M + 5, by omega, by go_num, by go_num, (show M + 5 = m0 + 5 * (k + 1) by have := hM.out; omega), HG⟩
      case measure => simp [intOf]; omega
    · obtain rfl : k = n := by omega
      have hM2 := hM.out
      subst hM2
      go_wp2
      go_ret
      exact ⟨rfl, HG.out⟩
end Go.Proofs.YtlebblmlbhnppaaGreat
