/- Maps from ends (a struct of a number and two structs of two numbers) to places. Flows that are right, found by their ends: pure. Numbers that go round, of both sides. MacText, the program's and the model's: two hexadecimal digits a byte, colons between; the walk of its law. The program's macOf and macAt: a mac as an array of six, and back. Right connections and right segments, of both sides. Right gateways, as pure words. Nothing of the program is used. Rows of one's own of flat structs: the last fields of an element stored; a row joined. Nothing of the program is imported. Filters, as pure words. Nothing of the program is used. Flows and the sessions that own them, and what users have spent, as pure words. Nothing of the program is used. A number's digits: the model's l00Digits at every number from 0 on. markText of the laws. Lists of users, sessions, fails and records marked and held. Lists of users, sessions, fails and records copied by the laws into rows of one's own. Append and slices.Clone of users, sessions, fails and records. The generic filter at sessions. -/
import Derived.Test.YtlebblmlbhnppabGreatProg
import Derived.Test.YtlebblmlbhnppabGreatRws
import Derived.Maps.Own
import Derived.Maps.OwnSet
import Derived.Maps.Views
import Derived.DeepKeys4
import Derived.Test.YtlebblmlbhnppabGreatJ31
import Derived.Test.YtlebblmlbhnppabGreatTests
import Derived.Test.YtlebblmlbhnppabGreatSmallA
import Derived.Test.YtlebblmlbhnppabGreatBits
import Derived.Test.YtlebblmlbhnppabGreatGrw
import Derived.Test.YtlebblmlbhnppabGreatCopy
import Derived.Test.YtlebblmlbhnppabGreatOwn
import Derived.Deep.RegionHeld3
import Derived.Deep.AppendLies
import Derived.Laws.BitsAllLaws
import Derived.Test.YtlebblmlbhnppabGreatPart
import Derived.Handy
import Derived.Laws.Cover3
import Derived.Test.YtlebblmlbhnppabGreatKeeps
import Derived.Test.YtlebblmlbhnppabGreatGokF
import Derived.Test.YtlebblmlbhnppabGreatJ34
import Derived.Lib.ItoaNum
namespace Go.Proofs.YtlebblmlbhnppabGreat
open Go.RowKit Go.PlainAid Go.Maps Go.WideMaps
set_option linter.unusedVariables false
set_option maxRecDepth 20000

structure EnV where
  pr : Int
  ai : Int
  ap : Int
  bi : Int
  bp : Int
deriving DecidableEq
def enG (e : EnV) : Value := .agg #[.int .i64 e.pr, .int .i64 e.ai, .int .i64 e.ap, .int .i64 e.bi, .int .i64 e.bp]
def EnOk (e : EnV) : Prop := (Lit.int .i64 e.pr).wf = true ∧ (Lit.int .i64 e.ai).wf = true ∧ (Lit.int .i64 e.ap).wf = true ∧ (Lit.int .i64 e.bi).wf = true ∧ (Lit.int .i64 e.bp).wf = true
def enT (e : EnV) : EnV := ⟨e.pr, e.bi, e.bp, e.ai, e.ap⟩
theorem enT_ok {e : EnV} (h : EnOk e) : EnOk (enT e) := ⟨h.1, h.2.2.2.1, h.2.2.2.2, h.2.1, h.2.2.1⟩
def enL (e : EnV) : Lit := .string (keyBytes [.int .i64 e.pr, .int .i64 e.ai, .int .i64 e.ap, .int .i64 e.bi, .int .i64 e.bp])
theorem enLaid : laidOutB Tryz.prog = true := by kernel_rfl
theorem enRow : (195 : TypeId) < Tryz.prog.types.size := of_decide_eq_true (by kernel_rfl)
theorem enWide : (match Tryz.prog.underlying 195 with | some (.array _ _) | some (.struct _) => true | _ => false) = true := by kernel_rfl
theorem keyE : Keyed Tryz.prog 195 := Keyed.of_law (deep_law_laid enLaid (m := 3) (by omega) enRow (by kernel_rfl) enWide)
theorem enType : Tryz.prog.keyType 195 = true := by kernel_rfl
theorem enC0 : Tryz.prog.cellsOf 195 = 5 := by kernel_rfl
theorem enC1 : Tryz.prog.cellsOf 193 = 2 := by kernel_rfl
theorem enC2 : Tryz.prog.cellsOf 3 = 1 := by kernel_rfl
theorem enFuel : ∃ m, Tryz.prog.types.size + 1 = m + 3 := ⟨Tryz.prog.types.size - 2, by have h : (195 : Nat) < Tryz.prog.types.size := enRow; omega⟩
theorem enKey (e : EnV) (h : EnOk e) : keyOf Tryz.prog 195 (enG e) = some (enL e) := by
  obtain ⟨m, hm⟩ := enFuel
  obtain ⟨p, a, b, c, d⟩ := e
  obtain ⟨h1, h2, h3, h4, h5⟩ := h
  dsimp only at h1 h2 h3 h4 h5
  unfold keyOf enG enL
  rw [hm]
  simp [Tryz.underlying195, enType, Value.formed, Value.cells, enC0, Program.keyLits, Tryz.underlying193, enC1, Tryz.underlying3, enC2, h1, h2, h3, h4, h5]
  rw [if_pos, if_pos]
  · rfl
  all_goals (intro i hi; match i, hi with | 0, _ => simp | 1, _ => simp)
theorem enL_inj {e f : EnV} (he : EnOk e) (hf : EnOk f) (h : enL e = enL f) : e = f := by
  have := keyE.inj (enKey e he) (by rw [h]; exact enKey f hf)
  obtain ⟨p, a, b, c, d⟩ := e
  obtain ⟨p', a', b', c', d'⟩ := f
  simpa [enG] using this

/-- Block b is a map of at most n entries that says M. -/
def OwnM (w : World) (b n : Nat) (M : EnV → Option Int) : Prop :=
  ∃ D : DataW Unit, w.ownsMap Tryz.prog 195 (plainElem Tryz.prog 3) b n D ∧ ∀ e, EnOk e → has D (enL e) = (M e).isSome ∧ ∀ v, M e = some v → (Lit.int .i64 v).wf = true ∧ ∀ z, D.atKey (enL e) z = .lit (.int .i64 v)
def upM (M : EnV → Option Int) (e : EnV) (v : Option Int) : EnV → Option Int := fun f => if f = e then v else M f
theorem OwnM.made (w : World) : OwnM (w.alloc (.map #[] 0)) w.heap.size 0 (fun _ => none) :=
  ⟨.map [], World.ownsMap_made w _ _ _, fun e _ => ⟨by simp [has_eq], fun v h => by cases h⟩⟩
theorem OwnM.lt {w : World} {b n : Nat} {M : EnV → Option Int} (h : OwnM w b n M) : b < w.heap.size := by
  obtain ⟨D, h1, _⟩ := h
  exact h1.lt
theorem OwnM.alloc {w : World} {b n : Nat} {M : EnV → Option Int} (h : OwnM w b n M) (o : Obj) : OwnM (w.alloc o) b n M := by
  obtain ⟨D, h1, h2⟩ := h
  exact ⟨D, h1.alloc o, h2⟩
theorem OwnM.kept {w w' : World} {b n : Nat} {M : EnV → Option Int} {r : Option Nat} (h : OwnM w b n M) (hg : w.grownBy w' r) (hne : some b ≠ r) : OwnM w' b n M := by
  obtain ⟨D, h1, h2⟩ := h
  exact ⟨D, h1.kept hg hne, h2⟩
theorem OwnM.below {w w' : World} {b n m : Nat} {M : EnV → Option Int} (h : OwnM w b n M) (hb : Below m w w') (hm : b < m) : OwnM w' b n M := by
  obtain ⟨D, ⟨es, clock, h1, h3⟩, h2⟩ := h
  exact ⟨D, ⟨es, clock, by rw [hb.block b hm]; exact h1, h3⟩, h2⟩
theorem OwnM.now {w w' : World} {b n : Nat} {M : EnV → Option Int} (h : OwnM w b n M) (hb : Below w.heap.size w w') : OwnM w' b n M := h.below hb h.lt
theorem zeroInt9 (w : World) : (zeroValue 3).run Tryz.prog w = .ok (.int .i64 0) w := by kernel_rfl
/-- 'v, ok := m[e]'. -/
theorem OwnM.look {w : World} {b n : Nat} {M : EnV → Option Int} (h : OwnM w b n M) {e : EnV} (he : EnOk e) :
    (Instr.lookup 197 (.map (some b)) (enG e) true).run Tryz.prog w = .ok (.tuple #[.int .i64 ((M e).getD 0), .bool (M e).isSome]) w := by
  obtain ⟨D, h1, h2⟩ := h
  have hw0 : (Lit.int .i64 0).wf = true := by decide
  obtain ⟨v, ps, hrun, hv⟩ := h1.look_ok keyE Tryz.underlying197 (zeroInt9 w) (plainElem_int Tryz.underlying3 hw0) (enKey e he)
  obtain ⟨c, rfl, hc, hwc⟩ := plainElem_int_inv Tryz.underlying3 hv
  simp only [Prod.mk.injEq] at hc
  have hk := h2 e he
  rw [hrun, hk.1]
  cases hM : M e with
  | none =>
    rw [hM] at hk
    rw [atKey_of_not_has hk.1] at hc
    have := hc.1
    simp at this
    subst this
    rfl
  | some x =>
    have := (hk.2 x hM).2 (.lit (.int .i64 0))
    rw [this] at hc
    have := hc.1
    simp at this
    subst this
    rfl
/-- 'm[e] = v'. -/
theorem OwnM.update {w : World} {b n : Nat} {M : EnV → Option Int} (h : OwnM w b n M) {e : EnV} (he : EnOk e) (v : Int) (hv : (Lit.int .i64 v).wf = true) (hn : n < maxLen) :
    ∃ w', (Instr.mapUpdate 197 (.map (some b)) (enG e) (.int .i64 v)).run Tryz.prog w = .ok () w' ∧ OwnM w' b (n + 1) (upM M e (some v)) ∧ w.grownBy w' (some b) := by
  obtain ⟨D, h1, h2⟩ := h
  obtain ⟨w', hrun, o1, g1⟩ := h1.update keyE Tryz.underlying197 hn (enKey e he) (plainElem_int Tryz.underlying3 hv)
  refine ⟨w', hrun, ⟨_, o1, fun f hf => ?_⟩, g1⟩
  unfold upM
  by_cases hfe : f = e
  · subst hfe
    rw [if_pos rfl]
    refine ⟨has_put_same h1.isMap (keyE.key (enKey f hf)) _, fun x hx => ?_⟩
    cases hx
    exact ⟨hv, fun z => atKey_put_same h1.isMap (keyE.key (enKey f hf)) _ _⟩
  · rw [if_neg hfe]
    have hne : enL f ≠ enL e := fun h => hfe (enL_inj hf he h)
    refine ⟨(has_put_other hne _).trans (h2 f hf).1, fun x hx => ⟨((h2 f hf).2 x hx).1, fun z => (atKey_put_other hne _ _).trans (((h2 f hf).2 x hx).2 z)⟩⟩
/-- 'delete(m, e)'. -/
theorem OwnM.drop {w : World} {b n : Nat} {M : EnV → Option Int} (h : OwnM w b n M) {e : EnV} (he : EnOk e) (ty : TypeId) :
    ∃ w', (Builtin.delete_ #[197, 195] ty #[.map (some b), enG e]).run Tryz.prog w = .ok (.tuple #[]) w' ∧ OwnM w' b n (upM M e none) ∧ w.grownBy w' (some b) := by
  obtain ⟨D, h1, h2⟩ := h
  obtain ⟨w', hrun, o1, g1⟩ := h1.drop keyE Tryz.underlying197 (enKey e he) ty
  refine ⟨w', hrun, ⟨_, o1, fun f hf => ?_⟩, g1.grown⟩
  unfold upM
  by_cases hfe : f = e
  · subst hfe
    rw [if_pos rfl]
    exact ⟨has_del_same, fun x hx => by cases hx⟩
  · rw [if_neg hfe]
    have hne : enL f ≠ enL e := fun h => hfe (enL_inj hf he h)
    refine ⟨(has_del_other hne).trans (h2 f hf).1, fun x hx => ⟨((h2 f hf).2 x hx).1, fun z => (atKey_del_other hne _).trans (((h2 f hf).2 x hx).2 z)⟩⟩
end Go.Proofs.YtlebblmlbhnppabGreat

namespace Go.Proofs.YtlebblmlbhnppabGreat
open Go.RowKit Go.PlainAid
set_option linter.unusedVariables false

def enOf (f : FlowV) : EnV := ⟨f.pr, f.si, f.sp, f.di, f.dp⟩
theorem enOf_ok {f : FlowV} (h : FlRok f) : EnOk (enOf f) := ⟨h.1, h.2.2.1, h.2.2.2.1, h.2.2.2.2.1, h.2.2.2.2.2.1⟩
theorem enT_enT (e : EnV) : enT (enT e) = e := rfl
def enB (e f : EnV) : Bool := e.pr == f.pr && (e.ai == f.ai && (e.ap == f.ap && (e.bi == f.bi && e.bp == f.bp)))
theorem enB_iff (e f : EnV) : enB e f = true ↔ e = f := by
  obtain ⟨a, b, c, d, x⟩ := e
  obtain ⟨a', b', c', d', x'⟩ := f
  simp [enB]
theorem enB_no {e f : EnV} (h : e ≠ f) : enB e f = false := by
  cases hb : enB e f with
  | false => rfl
  | true => exact absurd ((enB_iff e f).1 hb) h
theorem enB_yes {e f : EnV} (h : e = f) : enB e f = true := (enB_iff e f).2 h
/-- A right flow. -/
def flB (f : FlowV) : Bool := dec (0 ≤ f.pr ∧ f.pr ≤ 255) && (dec (f.mc.size = 6) && (dec (0 ≤ f.si ∧ f.si ≤ 4294967295) && (dec (0 ≤ f.di ∧ f.di ≤ 4294967295) && (dec (0 ≤ f.sp ∧ f.sp ≤ 65535) && (dec (0 ≤ f.dp ∧ f.dp ≤ 65535) && (dec (1 ≤ f.st ∧ f.st ≤ 3) && (dec (0 ≤ f.un ∧ f.un ≤ 100100) && dec (0 ≤ f.ow ∧ f.ow ≤ 10000))))))))
/-- Ends that may be asked for. -/
def enR (e : EnV) : Bool := dec (0 ≤ e.pr ∧ e.pr ≤ 255) && ((dec (0 ≤ e.ai ∧ e.ai ≤ 4294967295) && dec (0 ≤ e.ap ∧ e.ap ≤ 65535)) && (dec (0 ≤ e.bi ∧ e.bi ≤ 4294967295) && dec (0 ≤ e.bp ∧ e.bp ≤ 65535)))
/-- None of those ahead of k has these ends. -/
def apAt (fs : List FlowV) (k : Nat) (e : EnV) : Prop := ∀ j g, j < k → fs[j]? = some g → enOf g ≠ e ∧ enOf g ≠ enT e
def apOk (fs : List FlowV) (k : Nat) : Prop := ∀ i f, i < k → fs[i]? = some f → apAt fs i (enOf f)
def alOk (fs : List FlowV) (k : Nat) : Prop := ∀ i f, i < k → fs[i]? = some f → flB f = true
theorem apAt_zero (fs : List FlowV) (e : EnV) : apAt fs 0 e := fun j g hj => absurd hj (by omega)
theorem apAt_step {fs : List FlowV} {k : Nat} {e : EnV} {g : FlowV} (h : apAt fs k e) (hg : fs[k]? = some g) (h1 : enOf g ≠ e) (h2 : enOf g ≠ enT e) : apAt fs (k + 1) e := by
  intro j x hj hx
  by_cases hjk : j < k
  · exact h j x hjk hx
  · obtain rfl : j = k := by omega
    rw [hg] at hx
    cases hx
    exact ⟨h1, h2⟩
theorem apOk_zero (fs : List FlowV) : apOk fs 0 := fun i f hi => absurd hi (by omega)
theorem alOk_zero (fs : List FlowV) : alOk fs 0 := fun i f hi => absurd hi (by omega)
theorem apOk_step {fs : List FlowV} {k : Nat} {f : FlowV} (h : apOk fs k) (hf : fs[k]? = some f) (h1 : apAt fs k (enOf f)) : apOk fs (k + 1) := by
  intro j x hj hx
  by_cases hjk : j < k
  · exact h j x hjk hx
  · obtain rfl : j = k := by omega
    rw [hf] at hx
    cases hx
    exact h1
theorem alOk_step {fs : List FlowV} {k : Nat} {f : FlowV} (h : alOk fs k) (hf : fs[k]? = some f) (h1 : flB f = true) : alOk fs (k + 1) := by
  intro j x hj hx
  by_cases hjk : j < k
  · exact h j x hjk hx
  · obtain rfl : j = k := by omega
    rw [hf] at hx
    cases hx
    exact h1
noncomputable def apB (fs : List FlowV) : Bool := @decide (apOk fs fs.length) (Classical.propDecidable _)
noncomputable def foB (fs : List FlowV) : Bool := @decide (fs.length ≤ 8 ∧ alOk fs fs.length ∧ apOk fs fs.length) (Classical.propDecidable _)
theorem apB_yes {fs : List FlowV} (h : apOk fs fs.length) : apB fs = true := @decide_eq_true _ (Classical.propDecidable _) h
theorem apB_no {fs : List FlowV} (h : ¬ apOk fs fs.length) : apB fs = false := @decide_eq_false _ (Classical.propDecidable _) h
theorem foB_yes {fs : List FlowV} (h : fs.length ≤ 8) (h1 : alOk fs fs.length) (h2 : apOk fs fs.length) : foB fs = true := @decide_eq_true _ (Classical.propDecidable _) ⟨h, h1, h2⟩
theorem foB_no {fs : List FlowV} (h : ¬ (fs.length ≤ 8 ∧ alOk fs fs.length ∧ apOk fs fs.length)) : foB fs = false := @decide_eq_false _ (Classical.propDecidable _) h
theorem foB_says {fs : List FlowV} (h : foB fs = true) : fs.length ≤ 8 ∧ alOk fs fs.length ∧ apOk fs fs.length := @of_decide_eq_true _ (Classical.propDecidable _) h
theorem foB_ap {fs : List FlowV} (h : fs.length ≤ 8) (h1 : alOk fs fs.length) : foB fs = apB fs := by
  by_cases h2 : apOk fs fs.length
  · rw [foB_yes h h1 h2, apB_yes h2]
  · rw [foB_no (fun x => h2 x.2.2), apB_no h2]
theorem lt_at {fs : List FlowV} {k : Nat} {f : FlowV} (h : fs[k]? = some f) : k < fs.length := (List.getElem?_eq_some_iff.1 h).1
theorem foB_al {fs : List FlowV} {k : Nat} {f : FlowV} (hf : fs[k]? = some f) (h : flB f = false) : foB fs = false := foB_no (fun x => by have := x.2.1 k f (lt_at hf) hf; rw [h] at this; cases this)
theorem foB_at {fs : List FlowV} {k j : Nat} {f g : FlowV} (hf : fs[k]? = some f) (hj : j < k) (hg : fs[j]? = some g) (h : enOf g = enOf f ∨ enOf g = enT (enOf f)) : foB fs = false :=
  foB_no (fun x => by
    have := x.2.2 k f (lt_at hf) hf j g hj hg
    rcases h with h | h
    · exact this.1 h
    · exact this.2 h)
theorem foB_long {fs : List FlowV} (h : 8 < fs.length) : foB fs = false := foB_no (fun x => by omega)

/-- The places of the first k by their ends. -/
def plM (fs : List FlowV) : Nat → EnV → Option Int
  | 0 => fun _ => none
  | k + 1 => match fs[k]? with
    | some f => upM (plM fs k) (enOf f) (some (k : Int))
    | none => plM fs k
theorem plM_step {fs : List FlowV} {k : Nat} {f : FlowV} (hf : fs[k]? = some f) : plM fs (k + 1) = upM (plM fs k) (enOf f) (some (k : Int)) := by
  rw [plM, hf]
theorem plM_none {fs : List FlowV} {e : EnV} : ∀ {k : Nat}, plM fs k e = none → ∀ j g, j < k → fs[j]? = some g → enOf g ≠ e
  | 0, _, j, g, hj, _ => absurd hj (by omega)
  | k + 1, h, j, g, hj, hg => by
    rw [plM] at h
    cases hk : fs[k]? with
    | none =>
      rw [hk] at h
      by_cases hjk : j < k
      · exact plM_none h j g hjk hg
      · obtain rfl : j = k := by omega
        rw [hk] at hg; cases hg
    | some f =>
      rw [hk] at h
      simp only [upM] at h
      split at h
      · cases h
      · rename_i hne
        by_cases hjk : j < k
        · exact plM_none h j g hjk hg
        · obtain rfl : j = k := by omega
          rw [hk] at hg; cases hg
          exact fun e => hne e.symm
theorem plM_some {fs : List FlowV} {e : EnV} {v : Int} : ∀ {k : Nat}, plM fs k e = some v → ∃ j g, j < k ∧ fs[j]? = some g ∧ enOf g = e ∧ v = (j : Int)
  | 0, h => by cases h
  | k + 1, h => by
    rw [plM] at h
    cases hk : fs[k]? with
    | none =>
      rw [hk] at h
      obtain ⟨j, g, h1, h2⟩ := plM_some h
      exact ⟨j, g, by omega, h2⟩
    | some f =>
      rw [hk] at h
      simp only [upM] at h
      split at h
      · rename_i he
        cases h
        exact ⟨k, f, by omega, hk, he.symm, rfl⟩
      · obtain ⟨j, g, h1, h2⟩ := plM_some h
        exact ⟨j, g, by omega, h2⟩
theorem plM_is {fs : List FlowV} (hap : apOk fs fs.length) {j : Nat} {g : FlowV} (hg : fs[j]? = some g) {k : Nat} (hk : k ≤ fs.length) (hj : j < k) : plM fs k (enOf g) = some (j : Int) := by
  cases h : plM fs k (enOf g) with
  | none => exact absurd rfl (plM_none h j g hj hg)
  | some v =>
    obtain ⟨i, f, hi, hf, he, rfl⟩ := plM_some h
    by_cases h1 : i < j
    · exact absurd he (hap j g (lt_at hg) hg i f h1 hf).1
    · by_cases h2 : j < i
      · exact absurd he.symm (hap i f (lt_at hf) hf j g h2 hg).1
      · obtain rfl : i = j := by omega
        rfl
theorem plM_wf {fs : List FlowV} {e : EnV} {v : Int} {k : Nat} (h : plM fs k e = some v) (hk : k ≤ 4096) : 0 ≤ v ∧ v < 4096 := by
  obtain ⟨j, g, h1, h2, h3, rfl⟩ := plM_some h
  omega
/-- What a map says of ends: the place, whether turned round, whether there. -/
def fkK (M : EnV → Option Int) (e : EnV) : Int := if (M e).isSome then (M e).getD 0 else (M (enT e)).getD 0
def fkB (M : EnV → Option Int) (e : EnV) : Bool := if (M e).isSome then false else (M (enT e)).isSome
def fkT (M : EnV → Option Int) (e : EnV) : Bool := (M e).isSome || (M (enT e)).isSome
theorem fk_none {fs : List FlowV} {e : EnV} {k : Nat} (h : apAt fs k e) : fkT (plM fs k) e = false := by
  unfold fkT
  cases h1 : plM fs k e with
  | some v =>
    obtain ⟨j, g, hj, hg, he, _⟩ := plM_some h1
    exact absurd he (h j g hj hg).1
  | none =>
    cases h2 : plM fs k (enT e) with
    | some v =>
      obtain ⟨j, g, hj, hg, he, _⟩ := plM_some h2
      exact absurd he (h j g hj hg).2
    | none => rfl
theorem fk_there {fs : List FlowV} {e : EnV} {k : Nat} (h : fkT (plM fs k) e = false) : apAt fs k e := by
  unfold fkT at h
  simp at h
  intro j g hj hg
  exact ⟨plM_none h.1 j g hj hg, plM_none h.2 j g hj hg⟩
/-- The first that has these ends this way. -/
theorem fk_this {fs : List FlowV} (hap : apOk fs fs.length) {e : EnV} {i : Nat} {f : FlowV} (hf : fs[i]? = some f) (he : enOf f = e) : fkT (plM fs fs.length) e = true ∧ fkB (plM fs fs.length) e = false ∧ fkK (plM fs fs.length) e = (i : Int) := by
  have := plM_is hap hf (Nat.le_refl _) (lt_at hf)
  rw [he] at this
  unfold fkT fkB fkK
  rw [this]
  simp
theorem fk_back {fs : List FlowV} (hap : apOk fs fs.length) {e : EnV} {i : Nat} {f : FlowV} (hf : fs[i]? = some f) (he : enOf f = enT e) (hne : enOf f ≠ e) (hno : ∀ j g, j < i → fs[j]? = some g → enOf g ≠ e) : fkT (plM fs fs.length) e = true ∧ fkB (plM fs fs.length) e = true ∧ fkK (plM fs fs.length) e = (i : Int) := by
  have h1 := plM_is hap hf (Nat.le_refl _) (lt_at hf)
  rw [he] at h1
  have h2 : plM fs fs.length e = none := by
    cases h : plM fs fs.length e with
    | none => rfl
    | some v =>
      obtain ⟨j, g, hj, hg, hge, _⟩ := plM_some h
      by_cases hji : j < i
      · exact absurd hge (hno j g hji hg)
      · by_cases hij : i < j
        · exact absurd (by rw [hge]; exact he) (hap j g hj hg i f hij hf).2
        · obtain rfl : i = j := by omega
          rw [hf] at hg; cases hg
          exact absurd hge hne
  unfold fkT fkB fkK
  rw [h1, h2]
  simp
end Go.Proofs.YtlebblmlbhnppabGreat

namespace Go.Proofs.YtlebblmlbhnppabGreat
open Go.RowKit Go.PlainAid Go.Proofs.YtlebblmlbhnppabGreat.Bt Go.Sort
set_option linter.unusedVariables false
set_option maxRecDepth 20000

/-- The number's place in the round. -/
def sqN (n : Int) : Int := n % 4294967296
theorem sqN_bd (n : Int) : 0 ≤ sqN n ∧ sqN n ≤ 4294967295 := by unfold sqN; omega
theorem sqN_id {n : Int} (h0 : 0 ≤ n) (h1 : n ≤ 4294967295) : sqN n = n := by unfold sqN; omega
/-- 'n & MaxAddress', also below 0. -/
theorem mask32 (n : Int) (h0 : -9223372036854775808 ≤ n) (h1 : n ≤ 9223372036854775807) : bits BinOp.and IntKind.i64 n 4294967295 = sqN n := by
  by_cases hn : 0 ≤ n
  · exact mask 32 (by omega) n hn h1
  · have e : bits BinOp.and IntKind.i64 n 4294967295 = bits BinOp.and IntKind.i64 ((n + 18446744073709551616) % 4294967296) 4294967295 := by
      show IntKind.i64.wrap ((BitVec.ofInt 64 n &&& BitVec.ofInt 64 4294967295).toNat : Int) = IntKind.i64.wrap ((BitVec.ofInt 64 ((n + 18446744073709551616) % 4294967296) &&& BitVec.ofInt 64 4294967295).toNat : Int)
      congr 2
      rw [BitVec.toNat_and, BitVec.toNat_and]
      have e1 : (BitVec.ofInt 64 (4294967295 : Int)).toNat = 2 ^ 32 - 1 := by decide
      rw [e1, Nat.and_two_pow_sub_one_eq_mod, Nat.and_two_pow_sub_one_eq_mod, BitVec.toNat_ofInt, BitVec.toNat_ofInt]
      omega
    rw [e]
    have := mask 32 (by omega) ((n + 18446744073709551616) % 4294967296) (by omega) (by omega)
    rw [show bits BinOp.and IntKind.i64 ((n + 18446744073709551616) % 4294967296) 4294967295 = (n + 18446744073709551616) % 4294967296 % ((2 ^ 32 : Nat) : Int) from this]
    unfold sqN
    omega
theorem l10Seq_any (n : Int) (w : World) (h0 : -9223372036854775808 ≤ n) (h1 : n ≤ 9223372036854775807) : Calls Tryz.prog 117 #[.int .i64 n] w fun e w' => e = .returned (.int .i64 (sqN n)) ∧ w' = w := by
  have hm := mask32 n h0 h1
  generalize sqN n = z at hm ⊢
  go_enter Tryz.func117, Tryz.ntmps117
  go_wp2
  go_ret
  exact ⟨by first | rfl | (rw [hm]; rfl), rfl⟩
theorem seqOK_any (n : Int) (w : World) : Calls Tryz.prog 61 #[.int .i64 n] w fun e w' => e = .returned (.bool (dec (0 ≤ n ∧ n ≤ 4294967295))) ∧ w' = w := by
  have HB : Hid (∀ w, Calls Tryz.prog 60 #[.int .i64 n, .int .i64 0, .int .i64 4294967295] w fun e w' => e = .returned (.bool (dec (0 ≤ n ∧ n ≤ 4294967295))) ∧ w' = w) := fun w => between_any n 0 4294967295 w
  generalize dec (0 ≤ n ∧ n ≤ 4294967295) = z at HB ⊢
  go_enter Tryz.func61, Tryz.ntmps61
  go_wp2_with fail
  refine (HB.out _).mono ?_
  rintro e w1 ⟨rfl, hw⟩
  subst hw
  go_wp2
  go_ret
  exact ⟨rfl, rfl⟩
theorem seqAfter_any (n b : Int) (w : World) (h0 : 0 ≤ n) (h1 : n ≤ 4294967296) (h2 : 0 ≤ b) (h3 : b ≤ 4294967296) : Calls Tryz.prog 138 #[.int .i64 n, .int .i64 b] w fun e w' => e = .returned (.int .i64 (sqN (n + b))) ∧ w' = w := by
  have ht : (n + b).tmod 4294967296 = (n + b) % 4294967296 := Int.tmod_eq_emod_of_nonneg (by omega)
  go_enter Tryz.func138, Tryz.ntmps138
  go_wp2
  go_ret
  exact ⟨by first | rfl | (unfold sqN; rw [ht]), rfl⟩
/-- What SeqLess answers. -/
def slB (a b : Int) : Bool := dec (0 ≤ a ∧ a ≤ 4294967295) && dec (0 ≤ b ∧ b ≤ 4294967295) && decide (1 ≤ sqN (b - a) ∧ sqN (b - a) ≤ 2147483647)
def slC (a b : Int) : Int := if (dec (0 ≤ a ∧ a ≤ 4294967295) && dec (0 ≤ b ∧ b ≤ 4294967295)) = true then 0 else 4
end Go.Proofs.YtlebblmlbhnppabGreat

namespace Go.Proofs.YtlebblmlbhnppabGreat
open Go.RowKit Go.PlainAid
set_option linter.unusedVariables false

/-- The sixteen digits. -/
def hexs : ByteArray := ⟨#[48, 49, 50, 51, 52, 53, 54, 55, 56, 57, 97, 98, 99, 100, 101, 102]⟩
theorem hexs_size : hexs.size = 16 := rfl
def hx (n : Int) : Int := bt hexs n.toNat
theorem hx_bd (n : Int) : 0 ≤ hx n ∧ hx n ≤ 255 := ⟨bt_nonneg _ _, bt_le _ _⟩

/-- The digits of the first k bytes, with colons between. -/
def macl (f : Nat → Int) : Nat → List Int
  | 0 => []
  | k + 1 => macl f k ++ ((if k = 0 then [] else [58]) ++ [hx (f k / 16), hx (f k % 16)])

theorem macl_len (f : Nat → Int) : ∀ k : Nat, (macl f k).length ≤ 3 * k
  | 0 => by simp [macl]
  | k + 1 => by
    have := macl_len f k
    unfold macl
    split <;> simp <;> omega
theorem macl_bd (f : Nat → Int) : ∀ k : Nat, ∀ x ∈ macl f k, 0 ≤ x ∧ x ≤ 255
  | 0 => by simp [macl]
  | k + 1 => by
    have := macl_bd f k
    intro x hx'
    unfold macl at hx'
    split at hx' <;> simp at hx' <;> rcases hx' with h | h | h <;> first | exact this x h | (subst h; exact hx_bd _) | skip
    all_goals (first | (subst h; omega) | (rcases h with h | h <;> (subst h; exact hx_bd _)))
theorem macl_first (f : Nat → Int) : macl f 1 = [hx (f 0 / 16), hx (f 0 % 16)] := rfl
theorem macl_next (f : Nat → Int) (k : Nat) (h : 0 < k) : macl f (k + 1) = macl f k ++ [58] ++ [hx (f k / 16), hx (f k % 16)] := by
  rw [macl, if_neg (by omega), List.append_assoc]

theorem u8_and15 (n : Int) (h0 : 0 ≤ n) (h1 : n ≤ 255) : bits BinOp.and IntKind.u8 n 15 = n % 16 := by
  rw [u8_and n 15 h0 (by omega) (by omega) (by omega)]
  show ((n.toNat &&& 15 : Nat) : Int) = _
  rw [nat_mask4]
  omega

theorem isMac_a (s : ByteArray) (q : Bool) (hq : ((s.size : Int) == 6) = q) (w : World) : Calls Tryz.prog 122 #[.string s] w fun e w' => e = .returned (.bool q) ∧ w' = w := by
  go_enter Tryz.func122, Tryz.ntmps122
  go_wp2
  go_ret
  exact ⟨rfl, rfl⟩
theorem l01Mac_any (s : ByteArray) (w : World) : Calls Tryz.prog 80 #[.string s] w fun e w' => e = .returned (.bool ((s.size : Int) == 6)) ∧ w' = w := by
  go_enter Tryz.func80, Tryz.ntmps80
  go_wp2
  go_ret
  exact ⟨rfl, rfl⟩

end Go.Proofs.YtlebblmlbhnppabGreat

namespace Go.Proofs.YtlebblmlbhnppabGreat
open Go.RowKit Go.PlainAid
set_option linter.unusedVariables false
set_option maxRecDepth 20000

theorem isMac_b (s : ByteArray) (q : Bool) (hq : ((s.size : Int) == 6) = q) (w : World) : Calls Tryz.prog 122 #[.string s] w fun e w' => e = .returned (.bool q) ∧ w' = w := by
  go_enter Tryz.func122, Tryz.ntmps122
  go_wp2
  go_ret
  exact ⟨rfl, rfl⟩
theorem nums6 (s : ByteArray) (h : s.size = 6) : nums s = [bt s 0, bt s 1, bt s 2, bt s 3, bt s 4, bt s 5] := by
  have e := range_getD (nums s)
  rw [nums_len, h] at e
  rw [← e]
  simp only [nums_getD]
  rfl

end Go.Proofs.YtlebblmlbhnppabGreat

namespace Go.Proofs.YtlebblmlbhnppabGreat
open Go.RowKit Go.PlainAid Go.Proofs.YtlebblmlbhnppabGreat.Bt Go.Sort
set_option linter.unusedVariables false
set_option maxRecDepth 20000

theorem toG {f : Nat} {args : Array Value} {w : World} {r : Ending} (h : Calls Tryz.prog f args w fun e w' => e = r ∧ w' = w) : Calls Tryz.prog f args w fun e w' => e = r ∧ Grw w w' :=
  h.mono fun e w' hh => ⟨hh.1, by rw [hh.2]; exact Grw.refl _⟩
def bitN (b : Bool) : Int := if b then 1 else 0
theorem bitN_bd (b : Bool) : 0 ≤ bitN b ∧ bitN b ≤ 1 := by unfold bitN; split <;> omega
/-- How many numbers were sent and not acknowledged. -/
def sentN (c : ConnV) : Int := (c.out.size : Int) + bitN c.fin + bitN (c.st == 1)
theorem sentN_bd (c : ConnV) : (c.out.size : Int) ≤ sentN c ∧ sentN c ≤ (c.out.size : Int) + 2 := by
  have := bitN_bd c.fin
  have := bitN_bd (c.st == 1)
  unfold sentN
  omega
def nuB (c : ConnV) : Bool := dec (0 ≤ c.ip ∧ c.ip ≤ 4294967295) && dec (0 ≤ c.po ∧ c.po ≤ 65535) && dec (0 ≤ c.di ∧ c.di ≤ 4294967295) && dec (1 ≤ c.st ∧ c.st ≤ 4) && dec (0 ≤ c.un ∧ c.un ≤ 4294967295) && dec (0 ≤ c.nx ∧ c.nx ≤ 4294967295) && dec (0 ≤ c.wa ∧ c.wa ≤ 4294967295)
def txB (c : ConnV) : Bool := ((c.mc.size : Int) == 6) && !decide ((300 : Int) < (c.inn.size : Int)) && !decide ((300 : Int) < (c.out.size : Int)) && !((c.st == 1) && !(c.inn.toList == [])) && (c.fin == (c.st == 3)) && (c.fin || (c.out.toList == []))
/-- Whether a connection is right. -/
def okB (c : ConnV) : Bool := nuB c && txB c && (sqN (c.nx - c.un) == sentN c)
/-- Whether a segment is right. -/
def sgB (g : SegV) : Bool := dec (0 ≤ g.sp ∧ g.sp ≤ 65535) && dec (0 ≤ g.dp ∧ g.dp ≤ 65535) && dec (0 ≤ g.sq ∧ g.sq ≤ 4294967295) && dec (0 ≤ g.ac ∧ g.ac ≤ 4294967295) && dec (0 ≤ g.fl ∧ g.fl ≤ 31) && dec (0 ≤ g.wi ∧ g.wi ≤ 65535) && decide ((g.da.size : Int) ≤ 360)
theorem l01Bit_any (b : Bool) (w : World) : Calls Tryz.prog 146 #[.bool b] w fun e w' => e = .returned (.int .i64 (bitN b)) ∧ w' = w := by
  cases b <;>
  · go_enter Tryz.func146, Tryz.ntmps146
    go_wp2
    go_ret
    exact ⟨rfl, rfl⟩
set_option maxHeartbeats 1000000 in
theorem l10Sent_any (mc : ByteArray) (ip po di st un nx wa : Int) (inn out : ByteArray) (fin : Bool) (w : World) (ho : out.size ≤ 1048576) :
    Calls Tryz.prog 118 #[.agg #[.string mc, .int .i64 ip, .int .i64 po, .int .i64 di, .int .i64 st, .int .i64 un, .int .i64 nx, .int .i64 wa, .string inn, .string out, .bool fin]] w fun e w' => e = .returned (.int .i64 (sentN ⟨mc, ip, po, di, st, un, nx, wa, inn, out, fin⟩)) ∧ Grw w w' := by
  have T1 : Hid (∀ w, Calls Tryz.prog 146 #[.bool fin] w fun e w' => e = .returned (.int .i64 (bitN fin)) ∧ Grw w w') := fun w => toG (l01Bit_any fin w)
  have T2 : Hid (∀ w, Calls Tryz.prog 146 #[.bool (st == 1)] w fun e w' => e = .returned (.int .i64 (bitN (st == 1))) ∧ Grw w w') := fun w => toG (l01Bit_any (st == 1) w)
  have E : Hid (sentN ⟨mc, ip, po, di, st, un, nx, wa, inn, out, fin⟩ = (out.size : Int) + bitN fin + bitN (st == 1)) := rfl
  rw [E.out]
  have hb1 := bitN_bd fin
  have hb2 := bitN_bd (st == 1)
  generalize bitN fin = x1 at T1 hb1 ⊢
  generalize bitN (st == 1) = x2 at T2 hb2 ⊢
  clear E
  have B0 : Hid (Grw w (w.alloc (.cells #[.string mc, .int .i64 ip, .int .i64 po, .int .i64 di, .int .i64 st, .int .i64 un, .int .i64 nx, .int .i64 wa, .string inn, .string out, .bool fin] 112))) := (Grw.refl _).alloc _
  have q4 : (w.alloc (.cells #[.string mc, .int .i64 ip, .int .i64 po, .int .i64 di, .int .i64 st, .int .i64 un, .int .i64 nx, .int .i64 wa, .string inn, .string out, .bool fin] 112)).cell? ⟨w.heap.size, 4, none⟩ = some (.int .i64 st) := by simp [go_sem]
  have q9 : (w.alloc (.cells #[.string mc, .int .i64 ip, .int .i64 po, .int .i64 di, .int .i64 st, .int .i64 un, .int .i64 nx, .int .i64 wa, .string inn, .string out, .bool fin] 112)).cell? ⟨w.heap.size, 9, none⟩ = some (.string out) := by simp [go_sem]
  have q10 : (w.alloc (.cells #[.string mc, .int .i64 ip, .int .i64 po, .int .i64 di, .int .i64 st, .int .i64 un, .int .i64 nx, .int .i64 wa, .string inn, .string out, .bool fin] 112)).cell? ⟨w.heap.size, 10, none⟩ = some (.bool fin) := by simp [go_sem]
  have hmix : Tryz.prog.follows .mixedOrders = true := by kernel_rfl
  have hw1 : IntKind.i64.wrap ((out.size : Int) + x1) = (out.size : Int) + x1 := by rw [IntKind.wrap_i64]; omega
  have hw2 : IntKind.i64.wrap ((out.size : Int) + x1 + x2) = (out.size : Int) + x1 + x2 := by rw [IntKind.wrap_i64]; omega
  go_enter Tryz.func118, Tryz.ntmps118
  go_wp2_with fail
  generalize w.alloc (.cells #[.string mc, .int .i64 ip, .int .i64 po, .int .i64 di, .int .i64 st, .int .i64 un, .int .i64 nx, .int .i64 wa, .string inn, .string out, .bool fin] 112) = W at *
  have y4 : ∀ n os, (grow (W.drewN n) os).cell? ⟨w.heap.size, 4, none⟩ = some (.int .i64 st) := fun n os => bkeep (Grw.below ⟨n, os, rfl⟩) q4
  have y9 : ∀ n os, (grow (W.drewN n) os).cell? ⟨w.heap.size, 9, none⟩ = some (.string out) := fun n os => bkeep (Grw.below ⟨n, os, rfl⟩) q9
  have y10 : ∀ n os, (grow (W.drewN n) os).cell? ⟨w.heap.size, 10, none⟩ = some (.bool fin) := fun n os => bkeep (Grw.below ⟨n, os, rfl⟩) q10
  refine wp_region_quiet_grown (by assumption) (by kernel_rfl) ?_
  repeat (go_big_quiet_step (first | fail | (go_at_call 146; first | (with_reducible exact Calls.grown_of (T1.out _)) | (with_reducible exact Calls.grown_of (T2.out _)))))
  refine wpQuiet_nil ?_
  intro _ hw'
  obtain ⟨⟨nq, osq⟩, hw''⟩ := hw'
  subst hw''
  have HG2 : Hid (Grw w (grow (W.drewN nq) osq)) := B0.out.trans ⟨nq, osq, rfl⟩
  clear y4 y9 y10 q4 q9 q10 B0
  generalize (grow (W.drewN nq) osq) = w5 at *
  go_wp2
  go_ret
  exact ⟨rfl, HG2.out⟩
set_option maxHeartbeats 1000000 in
theorem unack_any (mc : ByteArray) (ip po di st un nx wa : Int) (inn out : ByteArray) (fin : Bool) (w : World) (ho : out.size ≤ 1048576) :
    Calls Tryz.prog 139 #[.agg #[.string mc, .int .i64 ip, .int .i64 po, .int .i64 di, .int .i64 st, .int .i64 un, .int .i64 nx, .int .i64 wa, .string inn, .string out, .bool fin]] w fun e w' => e = .returned (.int .i64 (sentN ⟨mc, ip, po, di, st, un, nx, wa, inn, out, fin⟩)) ∧ Grw w w' := by
  have E : Hid (sentN ⟨mc, ip, po, di, st, un, nx, wa, inn, out, fin⟩ = (out.size : Int) + bitN fin + bitN (st == 1)) := rfl
  rw [E.out]
  clear E
  cases fin with
  | false =>
    generalize hb : (st == 1) = b
    cases b with
    | false =>
      go_enter Tryz.func139, Tryz.ntmps139
      go_wp2
      go_ret
      exact ⟨by simp [bitN], (Grw.refl _).alloc _⟩
    | true =>
      go_enter Tryz.func139, Tryz.ntmps139
      go_wp2
      go_ret
      exact ⟨by simp [bitN], (Grw.refl _).alloc _⟩
  | true =>
    generalize hb : (st == 1) = b
    cases b with
    | false =>
      go_enter Tryz.func139, Tryz.ntmps139
      go_wp2
      go_ret
      exact ⟨by simp [bitN], (Grw.refl _).alloc _⟩
    | true =>
      go_enter Tryz.func139, Tryz.ntmps139
      go_wp2
      go_ret
      exact ⟨by simp [bitN], (Grw.refl _).alloc _⟩
set_option maxHeartbeats 2000000 in
theorem conNums_any (mc : ByteArray) (ip po di st un nx wa : Int) (inn out : ByteArray) (fin : Bool) (w : World) (hp : po ≤ 9223372036854775807) :
    Calls Tryz.prog 136 #[.agg #[.string mc, .int .i64 ip, .int .i64 po, .int .i64 di, .int .i64 st, .int .i64 un, .int .i64 nx, .int .i64 wa, .string inn, .string out, .bool fin]] w fun e w' => e = .returned (.bool (nuB ⟨mc, ip, po, di, st, un, nx, wa, inn, out, fin⟩)) ∧ Grw w w' := by
  have T0 : Hid (∀ w, Calls Tryz.prog 149 #[.int .i64 ip] w fun e w' => e = .returned (.bool (dec (0 ≤ ip ∧ ip ≤ 4294967295))) ∧ w' = w) := fun w => addressOK_any ip w
  have T1 : Hid (∀ w, Calls Tryz.prog 169 #[.int .i64 po] w fun e w' => e = .returned (.bool (dec (0 ≤ po ∧ po ≤ 65535))) ∧ w' = w) := fun w => portOK_any po w hp
  have T2 : Hid (∀ w, Calls Tryz.prog 149 #[.int .i64 di] w fun e w' => e = .returned (.bool (dec (0 ≤ di ∧ di ≤ 4294967295))) ∧ w' = w) := fun w => addressOK_any di w
  have T3 : Hid (∀ w, Calls Tryz.prog 60 #[.int .i64 st, .int .i64 1, .int .i64 4] w fun e w' => e = .returned (.bool (dec (1 ≤ st ∧ st ≤ 4))) ∧ w' = w) := fun w => between_any st 1 4 w
  have T4 : Hid (∀ w, Calls Tryz.prog 61 #[.int .i64 un] w fun e w' => e = .returned (.bool (dec (0 ≤ un ∧ un ≤ 4294967295))) ∧ w' = w) := fun w => seqOK_any un w
  have T5 : Hid (∀ w, Calls Tryz.prog 61 #[.int .i64 nx] w fun e w' => e = .returned (.bool (dec (0 ≤ nx ∧ nx ≤ 4294967295))) ∧ w' = w) := fun w => seqOK_any nx w
  have T6 : Hid (∀ w, Calls Tryz.prog 61 #[.int .i64 wa] w fun e w' => e = .returned (.bool (dec (0 ≤ wa ∧ wa ≤ 4294967295))) ∧ w' = w) := fun w => seqOK_any wa w
  have E : Hid (nuB ⟨mc, ip, po, di, st, un, nx, wa, inn, out, fin⟩ = ((dec (0 ≤ ip ∧ ip ≤ 4294967295)) && (dec (0 ≤ po ∧ po ≤ 65535)) && (dec (0 ≤ di ∧ di ≤ 4294967295)) && (dec (1 ≤ st ∧ st ≤ 4)) && (dec (0 ≤ un ∧ un ≤ 4294967295)) && (dec (0 ≤ nx ∧ nx ≤ 4294967295)) && (dec (0 ≤ wa ∧ wa ≤ 4294967295)))) := rfl
  generalize dec (0 ≤ ip ∧ ip ≤ 4294967295) = t0 at T0 E
  generalize dec (0 ≤ po ∧ po ≤ 65535) = t1 at T1 E
  generalize dec (0 ≤ di ∧ di ≤ 4294967295) = t2 at T2 E
  generalize dec (1 ≤ st ∧ st ≤ 4) = t3 at T3 E
  generalize dec (0 ≤ un ∧ un ≤ 4294967295) = t4 at T4 E
  generalize dec (0 ≤ nx ∧ nx ≤ 4294967295) = t5 at T5 E
  generalize dec (0 ≤ wa ∧ wa ≤ 4294967295) = t6 at T6 E
  go_enter Tryz.func136, Tryz.ntmps136
  go_wp2_with fail
  refine (T0.out _).mono ?_
  rintro e wx1 ⟨rfl, rfl⟩
  cases t0 with
  | false =>
    go_wp2
    go_ret
    exact ⟨by rw [E.out]; rfl, ((Grw.refl _).alloc _)⟩
  | true =>
    go_wp2_with fail
    refine (T1.out _).mono ?_
    rintro e wx2 ⟨rfl, rfl⟩
    cases t1 with
    | false =>
      go_wp2
      go_ret
      exact ⟨by rw [E.out]; rfl, ((Grw.refl _).alloc _)⟩
    | true =>
      go_wp2_with fail
      refine (T2.out _).mono ?_
      rintro e wx3 ⟨rfl, rfl⟩
      cases t2 with
      | false =>
        go_wp2
        go_ret
        exact ⟨by rw [E.out]; rfl, ((Grw.refl _).alloc _)⟩
      | true =>
        go_wp2_with fail
        refine (T3.out _).mono ?_
        rintro e wx4 ⟨rfl, rfl⟩
        cases t3 with
        | false =>
          go_wp2
          go_ret
          exact ⟨by rw [E.out]; rfl, ((Grw.refl _).alloc _)⟩
        | true =>
          go_wp2_with fail
          refine (T4.out _).mono ?_
          rintro e wx5 ⟨rfl, rfl⟩
          cases t4 with
          | false =>
            go_wp2
            go_ret
            exact ⟨by rw [E.out]; rfl, ((Grw.refl _).alloc _)⟩
          | true =>
            go_wp2_with fail
            refine (T5.out _).mono ?_
            rintro e wx6 ⟨rfl, rfl⟩
            cases t5 with
            | false =>
              go_wp2
              go_ret
              exact ⟨by rw [E.out]; rfl, ((Grw.refl _).alloc _)⟩
            | true =>
              go_wp2_with fail
              refine (T6.out _).mono ?_
              rintro e wx7 ⟨rfl, rfl⟩
              cases t6 with
              | false =>
                go_wp2
                go_ret
                exact ⟨by rw [E.out]; rfl, ((Grw.refl _).alloc _)⟩
              | true =>
                go_wp2
                go_ret
                exact ⟨by rw [E.out]; rfl, ((Grw.refl _).alloc _)⟩
set_option maxHeartbeats 1000000 in
theorem conTexts_any (mc : ByteArray) (ip po di st un nx wa : Int) (inn out : ByteArray) (fin : Bool) (w : World) (hmc : mc.size ≤ 9223372036854775807) (hi : inn.size ≤ 9223372036854775807) (ho : out.size ≤ 9223372036854775807) :
    Calls Tryz.prog 137 #[.agg #[.string mc, .int .i64 ip, .int .i64 po, .int .i64 di, .int .i64 st, .int .i64 un, .int .i64 nx, .int .i64 wa, .string inn, .string out, .bool fin]] w fun e w' => e = .returned (.bool (txB ⟨mc, ip, po, di, st, un, nx, wa, inn, out, fin⟩)) ∧ Grw w w' := by
  have E : Hid (txB ⟨mc, ip, po, di, st, un, nx, wa, inn, out, fin⟩ = (((mc.size : Int) == 6) && !decide ((300 : Int) < (inn.size : Int)) && !decide ((300 : Int) < (out.size : Int)) && !((st == 1) && !(inn.toList == [])) && (fin == (st == 3)) && (fin || (out.toList == [])))) := rfl
  have T0 : Hid (∀ w, Calls Tryz.prog 122 #[.string mc] w fun e w' => e = .returned (.bool ((mc.size : Int) == 6)) ∧ w' = w) := fun w => isMac_b mc _ rfl w
  generalize ((mc.size : Int) == 6) = t0 at T0 E
  generalize h1 : decide ((300 : Int) < (inn.size : Int)) = t1 at E
  generalize h2 : decide ((300 : Int) < (out.size : Int)) = t2 at E
  generalize h3 : (st == 1) = t3 at E
  generalize h4 : (inn.toList == []) = t4 at E
  generalize h5 : (st == 3) = t5 at E
  generalize h6 : (out.toList == []) = t6 at E
  go_enter Tryz.func137, Tryz.ntmps137
  go_wp2_with fail
  refine (T0.out _).mono ?_
  rintro e w1 ⟨rfl, rfl⟩
  cases t0 with
  | false =>
    go_wp2
    go_ret
    exact ⟨by rw [E.out]; rfl, (Grw.refl _).alloc _⟩
  | true =>
    cases t1 with
    | false =>
      cases t2 with
      | false =>
        cases t3 with
        | false =>
          cases fin with
          | false =>
            cases t5 with
            | false =>
              cases t6 with
              | false =>
                go_wp2
                go_ret
                exact ⟨by rw [E.out]; rfl, (Grw.refl _).alloc _⟩
              | true =>
                go_wp2
                go_ret
                exact ⟨by rw [E.out]; rfl, (Grw.refl _).alloc _⟩
            | true =>
              go_wp2
              go_ret
              exact ⟨by rw [E.out]; rfl, (Grw.refl _).alloc _⟩
          | true =>
            cases t5 with
            | false =>
              go_wp2
              go_ret
              exact ⟨by rw [E.out]; rfl, (Grw.refl _).alloc _⟩
            | true =>
              go_wp2
              go_ret
              exact ⟨by rw [E.out]; rfl, (Grw.refl _).alloc _⟩
        | true =>
          cases t4 with
          | false =>
            go_wp2
            go_ret
            exact ⟨by rw [E.out]; rfl, (Grw.refl _).alloc _⟩
          | true =>
            cases fin with
            | false =>
              cases t5 with
              | false =>
                cases t6 with
                | false =>
                  go_wp2
                  go_ret
                  exact ⟨by rw [E.out]; rfl, (Grw.refl _).alloc _⟩
                | true =>
                  go_wp2
                  go_ret
                  exact ⟨by rw [E.out]; rfl, (Grw.refl _).alloc _⟩
              | true =>
                go_wp2
                go_ret
                exact ⟨by rw [E.out]; rfl, (Grw.refl _).alloc _⟩
            | true =>
              cases t5 with
              | false =>
                go_wp2
                go_ret
                exact ⟨by rw [E.out]; rfl, (Grw.refl _).alloc _⟩
              | true =>
                go_wp2
                go_ret
                exact ⟨by rw [E.out]; rfl, (Grw.refl _).alloc _⟩
      | true =>
        go_wp2
        go_ret
        exact ⟨by rw [E.out]; rfl, (Grw.refl _).alloc _⟩
    | true =>
      go_wp2
      go_ret
      exact ⟨by rw [E.out]; rfl, (Grw.refl _).alloc _⟩
end Go.Proofs.YtlebblmlbhnppabGreat

namespace Go.Proofs.YtlebblmlbhnppabGreat
open Go.RowKit Go.PlainAid Go.Proofs.YtlebblmlbhnppabGreat.Bt Go.Sort
set_option linter.unusedVariables false
set_option maxRecDepth 20000
/-- The place of the first one, or -1. -/
def ixI {V : Type} (p : V → Bool) (xs : List V) : Int := match xs.find? p with | some _ => (xs.findIdx p : Int) | none => -1
section
variable {V : Type} {p : V → Bool} {xs : List V} {k : Nat} {x : V}
theorem ixI_no (hx : xs[k]? = some x) (h : (xs.take k).find? p = none) (hp : p x = false) : (xs.take (k + 1)).find? p = none := bfind_no hx h hp
theorem ixI_at (hx : xs[k]? = some x) (h : (xs.take k).find? p = none) (hp : p x = true) : ixI p xs = k := by unfold ixI; rw [bfind_yes hx h hp, bfind_at hx h hp]
theorem ixI_end (hk : xs.length = k) (h : (xs.take k).find? p = none) : ixI p xs = -1 := by unfold ixI; rw [bfind_end hk h]
theorem ixI_neg : decide (ixI p xs < 0) = !(xs.any p) := by
  unfold ixI
  cases h : xs.find? p with
  | none =>
    have : xs.any p = false := by
      rw [List.find?_eq_none] at h
      rw [List.any_eq_false]
      intro y hy
      simpa using h y hy
    simp [this]
  | some y =>
    have : xs.any p = true := List.any_eq_true.2 ⟨y, List.mem_of_find?_eq_some h, List.find?_some h⟩
    simp [this]
theorem ixI_pos : decide (0 ≤ ixI p xs) = xs.any p := by
  have h : decide (0 ≤ ixI p xs) = !(decide (ixI p xs < 0)) := by
    by_cases h0 : ixI p xs < 0
    · rw [decide_eq_true h0, decide_eq_false (by omega)]; rfl
    · rw [decide_eq_false h0, decide_eq_true (by omega)]; rfl
  rw [h, ixI_neg]; simp
theorem ixI_lt : ixI p xs < xs.length ∨ xs.length = 0 := by
  unfold ixI
  cases h : xs.find? p with
  | none => simp; omega
  | some y => left; have := List.findIdx_lt_length_of_exists (p := p) (xs := xs) ⟨y, List.mem_of_find?_eq_some h, List.find?_some h⟩; simpa using this
theorem any_take_step (hx : xs[k]? = some x) : (xs.take (k + 1)).any p = ((xs.take k).any p || p x) := by
  rw [List.take_add_one, hx, List.any_append]; simp
theorem any_take_all (h : xs.length ≤ k) : xs.take k = xs := List.take_of_length_le h
theorem find_any (h : (xs.take k).find? p = none) : (xs.take k).any p = false := by
  rw [List.find?_eq_none] at h
  rw [List.any_eq_false]
  intro y hy
  simpa using h y hy
end
/-- A session of this Id. -/
def siP (id : Int) (s : SessV) : Bool := s.id == id
/-- A flow whose owner is gone. -/
def owP (ss : List SessV) (f : FlowV) : Bool := (f.ow != 0) && !(ss.any (siP f.ow))
def owB (ss : List SessV) (fl : List FlowV) : Bool := !(fl.any (owP ss))
/-- A connection of these ends. -/
def cnP (ip po di : Int) (d : ConnV) : Bool := (d.ip == ip) && ((d.po == po) && (d.di == di))
def cnAt (co : List ConnV) (i : Nat) (c : ConnV) : Bool := okB c && (!(c.st == 4) && !((co.take i).any (cnP c.ip c.po c.di)))
def cnOk (co : List ConnV) (k : Nat) : Prop := ∀ i c, i < k → co[i]? = some c → cnAt co i c = true
noncomputable def cnB (co : List ConnV) : Bool := @decide (co.length ≤ 3 ∧ cnOk co co.length) (Classical.propDecidable _)
theorem cnOk_zero (co : List ConnV) : cnOk co 0 := fun i c h => absurd h (by omega)
theorem cnOk_step {co : List ConnV} {k : Nat} {c : ConnV} (h : cnOk co k) (hc : co[k]? = some c) (ht : cnAt co k c = true) : cnOk co (k + 1) := by
  intro i d hi hd
  by_cases hik : i < k
  · exact h i d hik hd
  · obtain rfl : i = k := by omega
    rw [hc] at hd; cases hd; exact ht
theorem cnB_long {co : List ConnV} (h : 3 < co.length) : cnB co = false := by
  unfold cnB; rw [decide_eq_false_iff_not]; intro h2; omega
theorem cnB_no {co : List ConnV} {k : Nat} {c : ConnV} (hc : co[k]? = some c) (ht : cnAt co k c = false) : cnB co = false := by
  unfold cnB; rw [decide_eq_false_iff_not]
  intro h2
  have := h2.2 k c (List.getElem?_eq_some_iff.1 hc).1 hc
  rw [ht] at this; cases this
theorem cnB_of {co : List ConnV} {k : Nat} (hk : co.length = k) (h : cnOk co k) : cnB co = decide ((k : Int) ≤ 3) := by
  subst hk
  unfold cnB
  by_cases h3 : co.length ≤ 3
  · rw [decide_eq_true (show (co.length : Int) ≤ 3 by omega)]; exact @decide_eq_true _ (Classical.propDecidable _) ⟨h3, h⟩
  · rw [decide_eq_false (show ¬ (co.length : Int) ≤ 3 by omega)]; exact @decide_eq_false _ (Classical.propDecidable _) (fun h2 => h3 h2.1)
noncomputable def gtB (g : GtV) : Bool := gokB g.ip g.b g.gt g.gm g.wm g.rs g.ps g.ros g.us g.ss g.fs g.es g.nx && (foB g.fl && (owB g.ss g.fl && (cnB g.co && (dec (0 ≤ g.nw ∧ g.nw ≤ 100000) && (dec (0 ≤ g.dr ∧ g.dr ≤ 1000000) && dec (0 ≤ g.sn ∧ g.sn ≤ 4294967295))))))
theorem ow_nonneg {fl : List FlowV} (h : foB fl = true) {f : FlowV} (hf : f ∈ fl) : 0 ≤ f.ow := by
  unfold foB at h
  replace h := @of_decide_eq_true _ (Classical.propDecidable _) h
  obtain ⟨i, hi⟩ := List.getElem?_of_mem hf
  have := h.2.1 i f (List.getElem?_eq_some_iff.1 hi).1 hi
  unfold flB at this
  simp [dec] at this
  omega
end Go.Proofs.YtlebblmlbhnppabGreat

namespace Go.Proofs.YtlebblmlbhnppabGreat
open Go.RowKit Go.PlainAid
set_option linter.unusedVariables false

theorem flatS_tail {α : Type} {c : α → List Value} {K : Nat} (hK : ∀ x, (c x).length = K) (xs : List α) (i : Nat) (x y : α) (j : Nat) (hx : xs[i]? = some x) (hj : j ≤ K) (hy : (c y).take j = (c x).take j) : flatS c (xs.set i y) = sets (flatS c xs) (i * K + j) ((c y).drop j) := by
  have hi := (List.getElem?_eq_some_iff.1 hx).1
  obtain ⟨A, x', C, rfl, rfl⟩ : ∃ A x C, xs = A ++ x :: C ∧ A.length = i := ⟨xs.take i, xs[i], xs.drop (i + 1), by simp, by simp; omega⟩
  have ex : x' = x := by simpa using hx
  subst ex
  have e : (A ++ x' :: C).set A.length y = A ++ y :: C := by simp
  have h1 : flatS c (A ++ x' :: C) = (flatS c A ++ (c x').take j) ++ ((c x').drop j ++ flatS c C) := by
    rw [flatS_append, flatS_cons, List.append_assoc, ← List.append_assoc (List.take j (c x')), List.take_append_drop]
  have h2 : A.length * K + j = (flatS c A ++ (c x').take j).length := by
    rw [List.length_append, flatS_len hK, List.length_take, hK]
    omega
  rw [e, h1, h2, sets_mid _ _ _ _ (by rw [List.length_drop, List.length_drop, hK, hK]), flatS_append, flatS_cons, ← hy]
  rw [List.append_assoc, ← List.append_assoc (List.take j (c y)), List.take_append_drop]
/-- The fields of an element from j on, stored. -/
theorem OwnS.tail {α : Type} {c : α → List Value} {K : Nat} {e : TypeId} {w : World} {B : Nat} {xs : List α} {g n cap : Nat} (h : OwnS c K e w B (.slice (some ⟨g, 0, none⟩) n cap) xs) (hK : ∀ x, (c x).length = K) {i j : Nat} {x : α} (y : α) (hx : xs[i]? = some x) (hj : j ≤ K) (hy : (c y).take j = (c x).take j) :
    OwnS c K e (wsets w g (i * K + j) ((c y).drop j)) B (.slice (some ⟨g, 0, none⟩) n cap) (xs.set i y) ∧ w.grownBy (wsets w g (i * K + j) ((c y).drop j)) (some g) := by
  obtain rfl := h.len
  have := owns_sets ((c y).drop j) w _ (i * K + j) h
  refine ⟨?_, this.2⟩
  unfold OwnS
  rw [flatS_tail hK xs i x y j hx hj hy, List.length_set]
  exact this.1
theorem Grw.grown {w w' : World} (h : Grw w w') (r : Option Nat) : w.grownBy w' r := by
  have b := h.below
  obtain ⟨q, os, rfl⟩ := h
  exact ⟨rfl, rfl, rfl, b.size, fun k hk _ => b.block k hk⟩
/-- What is appended. -/
theorem OwnS.join {α : Type} {c : α → List Value} {K : Nat} {e : TypeId} {w w' : World} {B : Nat} {v v' : Value} {xs ys : List α} (h : OwnS c K e w B v xs) (hB : B ≤ w.heap.size) (h1 : w'.ownsRow B e K v' (xs.length + ys.length) (flatS c xs ++ flatS c ys)) (h2 : w.grownBy w' v.ownBlock) :
    OwnS c K e w' B v' (xs ++ ys) ∧ Below B w w' := by
  refine ⟨?_, (Below.refl B w).grown h2 hB (fun k hk => (h.lt k hk).1)⟩
  unfold OwnS
  rw [flatS_append, List.length_append]
  exact h1
end Go.Proofs.YtlebblmlbhnppabGreat

namespace Go.Proofs.YtlebblmlbhnppabGreat
open Go.RowKit Go.PlainAid Go.Sort
set_option linter.unusedVariables false
set_option maxRecDepth 20000
theorem one_newB {α : Type} (c : α → List Value) (w : World) (vals : Array Value) (t : TypeId) (x : α) (h : vals.toList = c x) : ∀ j u, (flatS c [x])[j]? = some u → (w.alloc (.cells vals t)).cell? ⟨w.heap.size, 0 + j, none⟩ = some u := by
  intro j u hu
  rw [Nat.zero_add]
  refine (Bx.new w vals t).cell j ?_
  rw [h]
  simpa [flatS] using hu
theorem flt_yes {V : Type} {p : V → Bool} {xs : List V} {k : Nat} {x : V} (hx : xs[k]? = some x) (h : p x = true) : (xs.take (k + 1)).filter p = (xs.take k).filter p ++ [x] := by
  rw [List.take_add_one, hx, List.filter_append]; simp [h]
theorem flt_no {V : Type} {p : V → Bool} {xs : List V} {k : Nat} {x : V} (hx : xs[k]? = some x) (h : p x = false) : (xs.take (k + 1)).filter p = (xs.take k).filter p := by
  rw [List.take_add_one, hx, List.filter_append]; simp [h]
theorem flt_len {V : Type} (p : V → Bool) (xs : List V) (k : Nat) : ((xs.take k).filter p).length ≤ k := Nat.le_trans (List.length_filter_le _ _) (by rw [List.length_take]; omega)
theorem flt_all {V : Type} {p : V → Bool} {xs : List V} {k : Nat} (h : xs.length = k) : (xs.take k).filter p = xs.filter p := by rw [List.take_of_length_le (by omega)]
theorem flt_none {V : Type} (p : V → Bool) (xs : List V) : ((xs.filter p).length = 0) ↔ (xs.any p = false) := by
  rw [List.length_eq_zero_iff, List.filter_eq_nil_iff, List.any_eq_false]
end Go.Proofs.YtlebblmlbhnppabGreat

namespace Go.Proofs.YtlebblmlbhnppabGreat
open Go.RowKit Go.PlainAid Go.Proofs.YtlebblmlbhnppabGreat.Bt Go.Sort
set_option linter.unusedVariables false
set_option maxRecDepth 20000
def rtP (f : FlowV) (s : SessV) : Bool := (s.id == f.ow) && ((s.mc.toList == f.mc.toList) && (s.ip == f.si))
def fhP (ss : List SessV) (f : FlowV) : Bool := (f.ow == 0) || ss.any (rtP f)
noncomputable def fhB (g : GtV) : Bool := gtB g && g.fl.all (fhP g.ss)
noncomputable def fhC (g : GtV) : Int := if gtB g = true then 0 else 1
theorem gt_lensF {g : GtV} (h : gtB g = true) : g.us.length ≤ 6 ∧ g.ss.length ≤ 3 := by
  unfold gtB at h
  rw [Bool.and_eq_true] at h
  have h1 := h.1
  unfold gokB usB at h1
  simp [dec] at h1
  omega
theorem gt_seB {g : GtV} (h : gtB g = true) : seB (sB g.nx g.us.length g.ip g.b) g.ss = true := by
  unfold gtB at h
  rw [Bool.and_eq_true] at h
  have h1 := h.1
  unfold gokB at h1
  simp only [Bool.and_eq_true] at h1
  exact h1.2.2.2.1.2
theorem gt_foB {g : GtV} (h : gtB g = true) : foB g.fl = true := by
  unfold gtB at h
  simp only [Bool.and_eq_true] at h
  exact h.2.1
theorem gt_owB {g : GtV} (h : gtB g = true) : owB g.ss g.fl = true := by
  unfold gtB at h
  simp only [Bool.and_eq_true] at h
  exact h.2.2.1
theorem gt_fl {g : GtV} (h : gtB g = true) : g.fl.length ≤ 8 := by
  have h := gt_foB h
  unfold foB at h
  exact (@of_decide_eq_true _ (Classical.propDecidable _) h).1
theorem ow_any {ss : List SessV} {fl : List FlowV} (h : owB ss fl = true) {f : FlowV} (hf : f ∈ fl) (h0 : f.ow ≠ 0) : ss.any (siP f.ow) = true := by
  unfold owB at h
  cases hq : ss.any (siP f.ow) with
  | true => rfl
  | false =>
    have : fl.any (owP ss) = true := List.any_eq_true.2 ⟨f, hf, by unfold owP; simp [h0, hq]⟩
    rw [this] at h; cases h
theorem ixI_found {V : Type} {p : V → Bool} {xs : List V} (h : xs.any p = true) : ∃ (k : Nat) (x : V), xs[k]? = some x ∧ p x = true ∧ ixI p xs = (k : Int) := by
  obtain ⟨y, hy, hp⟩ := List.any_eq_true.1 h
  have hlt := List.findIdx_lt_length_of_exists (p := p) (xs := xs) ⟨y, hy, hp⟩
  refine ⟨xs.findIdx p, xs[xs.findIdx p], List.getElem?_eq_getElem hlt, List.findIdx_getElem (w := hlt), ?_⟩
  unfold ixI
  cases hf : xs.find? p with
  | none => rw [List.find?_eq_none] at hf; exact absurd hp (hf y hy)
  | some z => rfl
theorem rt_any {ss : List SessV} {q : SessV → Bool} (hd : seB q ss = true) {k : Nat} {x : SessV} {f : FlowV} (hx : ss[k]? = some x) (hid : x.id = f.ow) : ss.any (rtP f) = ((x.mc.toList == f.mc.toList) && (x.ip == f.si)) := by
  have hs := (seB_iff.1 hd).2
  have uni : ∀ y, y ∈ ss → y.id = f.ow → y = x := by
    intro y hy hyi
    obtain ⟨j, hj⟩ := List.getElem?_of_mem hy
    have nid : ∀ (i k : Nat) (a b : SessV), ss[i]? = some a → ss[k]? = some b → k < i → b.id ≠ a.id := by
      intro i k a b ha hb hlt he
      have := hs i k a b ha hb hlt
      unfold prS at this
      simp at this
      omega
    rcases Nat.lt_trichotomy j k with h | h | h
    · exact absurd (hyi.trans hid.symm) (nid k j x y hx hj h)
    · subst h; rw [hx] at hj; exact (Option.some.inj hj).symm
    · exact absurd (hid.trans hyi.symm) (nid j k y x hj hx h)
  cases hq : ((x.mc.toList == f.mc.toList) && (x.ip == f.si)) with
  | true => exact List.any_eq_true.2 ⟨x, List.mem_of_getElem? hx, by unfold rtP; rw [hq, Bool.and_true]; simp [hid]⟩
  | false =>
    rw [List.any_eq_false]
    intro y hy hr
    unfold rtP at hr
    rw [Bool.and_eq_true] at hr
    have hyi : y.id = f.ow := by simpa using hr.1
    have := uni y hy hyi
    subst this
    rw [hq] at hr
    exact absurd hr.2 (by simp)
theorem flt_pos {V : Type} (p : V → Bool) (xs : List V) : decide ((0 : Int) < ((xs.filter p).length : Int)) = xs.any p := by
  cases hq : xs.any p with
  | true =>
    have : ¬ (xs.filter p).length = 0 := fun h => by rw [(flt_none p xs).1 h] at hq; cases hq
    rw [decide_eq_true]; omega
  | false =>
    have := (flt_none p xs).2 hq
    rw [decide_eq_false]; omega
theorem flt_all0 {V : Type} {p q : V → Bool} {xs : List V} (h : ∀ s, s ∈ xs → p s = !q s) : (((xs.filter p).length : Int) == 0) = xs.all q := by
  have e : xs.all q = !(xs.any p) := by
    rw [List.all_eq_not_any_not]
    congr 1
    apply Bool.eq_iff_iff.2
    rw [List.any_eq_true, List.any_eq_true]
    constructor
    · rintro ⟨x, hx, hp⟩; exact ⟨x, hx, by rw [h x hx]; exact hp⟩
    · rintro ⟨x, hx, hp⟩; exact ⟨x, hx, by rw [h x hx] at hp; exact hp⟩
  rw [e]
  cases hq : xs.any p with
  | true =>
    have : ¬ (xs.filter p).length = 0 := fun h => by rw [(flt_none p xs).1 h] at hq; cases hq
    rw [Bool.not_true, beq_eq_false_iff_ne]
    omega
  | false =>
    have := (flt_none p xs).2 hq
    simp [this]
/-- What sessions have used. -/
def sumF (L : List SessV) : Int := L.foldl (fun n s => n + s.ud) 0
theorem sumF_snoc (L : List SessV) (s : SessV) : sumF (L ++ [s]) = sumF L + s.ud := by unfold sumF; rw [List.foldl_append]; rfl
theorem sumF_bd {L : List SessV} (h : ∀ s, s ∈ L → 0 ≤ s.ud ∧ s.ud ≤ 1000000) : 0 ≤ sumF L ∧ sumF L ≤ 1000000 * (L.length : Int) := by
  have hk : ∀ k, k ≤ L.length → 0 ≤ sumF (L.take k) ∧ sumF (L.take k) ≤ 1000000 * (k : Int) := by
    intro k
    induction k with
    | zero => intro _; simp [sumF]
    | succ k ih =>
      intro hk
      have ih := ih (by omega)
      obtain ⟨s, hx⟩ := at_of (xs := L) (k := k) rfl (by omega)
      have hs := h s (List.mem_of_getElem? hx)
      rw [List.take_add_one, hx]
      show 0 ≤ sumF (L.take k ++ [s]) ∧ sumF (L.take k ++ [s]) ≤ _
      rw [sumF_snoc]
      constructor
      · omega
      · push_cast; omega
  have := hk L.length (Nat.le_refl _)
  rwa [List.take_length] at this
def usP (i : Int) (s : SessV) : Bool := s.us == i
def nmP (u : ByteArray) (x : UserV) : Bool := x.nm.toList == u.toList
noncomputable def spC (g : GtV) (u : ByteArray) : Int := if 65536 < u.size then 2 else if gtB g = true then (if g.us.any (nmP u) = true then 0 else 13) else 1
noncomputable def spN (g : GtV) (u : ByteArray) : Int := if 65536 < u.size then 0 else if gtB g = true then (if g.us.any (nmP u) = true then sumF (g.ss.filter (usP (ixI (nmP u) g.us))) else 0) else 0
theorem gt_uds {g : GtV} (h : gtB g = true) : ∀ s, s ∈ g.ss → 0 ≤ s.ud ∧ s.ud ≤ 1000000 := by
  intro s hs
  obtain ⟨i, hi⟩ := List.getElem?_of_mem hs
  have := (seB_iff.1 (gt_seB h)).1 i s hi
  unfold sB at this
  simp [dec] at this
  omega
end Go.Proofs.YtlebblmlbhnppabGreat

namespace Go.Proofs.YtlebblmlbhnppabGreat
open Go.RowKit Go.PlainAid
set_option linter.unusedVariables false
set_option maxRecDepth 20000

/-- The decimal digits, as numbers of bytes. -/
def dgs (n : Nat) : List Int := if n < 10 then [48 + (n : Int)] else dgs (n / 10) ++ [48 + ((n % 10 : Nat) : Int)]
termination_by n
decreasing_by omega
theorem dgs_small {n : Nat} (h : n < 10) : dgs n = [48 + (n : Int)] := by rw [dgs, if_pos h]
theorem dgs_more {n : Nat} (h : 10 ≤ n) : dgs n = dgs (n / 10) ++ [48 + ((n % 10 : Nat) : Int)] := by rw [dgs, if_neg (by omega)]
theorem dgs_bd : ∀ n : Nat, ∀ x ∈ dgs n, 48 ≤ x ∧ x ≤ 57 := by
  intro n
  induction n using Nat.strongRecOn with
  | _ n ih =>
    intro x hx
    by_cases h : n < 10
    · rw [dgs_small h] at hx; simp at hx; omega
    · rw [dgs_more (by omega)] at hx
      rcases List.mem_append.1 hx with h1 | h1
      · exact ih (n / 10) (by omega) x h1
      · simp at h1; omega
theorem dgs_len : ∀ (k n : Nat), n < 10 ^ (k + 1) → 1 ≤ (dgs n).length ∧ (dgs n).length ≤ k + 1
  | 0, n, h => by rw [dgs_small (by simpa using h)]; simp
  | k + 1, n, h => by
    by_cases h1 : n < 10
    · rw [dgs_small h1]; simp
    · have := dgs_len k (n / 10) (by rw [Nat.div_lt_iff_lt_mul (by omega)]; rw [Nat.pow_succ] at h; exact h)
      rw [dgs_more (by omega)]
      simp; omega
theorem strOfNums_append (L M : List Int) : strOfNums L ++ strOfNums M = strOfNums (L ++ M) := by
  apply ByteArray.ext
  simp [strOfNums, ByteArray.data_append]

/-- 'string([]byte{x})'. -/
theorem conv_one (wx : World) (b : Nat) (x : Int) (h0 : 0 ≤ x) (h1 : x ≤ 255) (hb : wx.cell? ⟨b, 0, none⟩ = some (.int .u8 x)) : (convert 218 9 (.slice (some ⟨b, 0, none⟩) 1 1)).run Tryz.prog wx = .ok (.string (strOfNums [x])) wx := by
  have hB : Bytes wx (some ⟨b, 0, none⟩) [x].length (fun j => [x].getD j 0) := by
    refine ⟨fun k => ?_, fun _ => ⟨b, 0, rfl, fun i hi => ?_⟩⟩
    · rcases k with _ | k <;> simp <;> omega
    · obtain rfl : i = 0 := by simpa using hi
      simpa using hb
  exact conv_own (P := Tryz.prog) wx 218 9 5 Tryz.underlying218 Tryz.underlying5 Tryz.underlying9 (some ⟨b, 0, none⟩) 1 [x] hB

end Go.Proofs.YtlebblmlbhnppabGreat

namespace Go.Proofs.YtlebblmlbhnppabGreat
open Go.RowKit Go.PlainAid Go.Proofs.YtlebblmlbhnppabGreat.Bt Go.Sort
set_option linter.unusedVariables false
set_option maxRecDepth 20000
/-- The digits of a number, laid ahead of others. -/
def mtF (k : Nat) (L : List Int) : List Int := if h : k = 0 then L else mtF (k / 10) ((48 + ((k % 10 : Nat) : Int)) :: L)
termination_by k
decreasing_by omega
theorem mtF_zero (L : List Int) : mtF 0 L = L := by rw [mtF, dif_pos rfl]
theorem mtF_step {k : Nat} (h : 0 < k) (L : List Int) : mtF k L = mtF (k / 10) ((48 + ((k % 10 : Nat) : Int)) :: L) := by rw [mtF, dif_neg (by omega)]
/-- What markText answers. -/
def mtS (k : Nat) : ByteArray := strOfNums [109] ++ strOfNums (mtF k [])
theorem m_lit : (⟨#[109]⟩ : ByteArray) = strOfNums [109] := by
  apply ByteArray.ext
  simp [strOfNums]
theorem mtS_len (k : Nat) (h : k ≤ 1000000000000) : (mtS k).size ≤ 1000 := by
  have : ∀ (m k : Nat) (L : List Int), k < 10 ^ m → (mtF k L).length ≤ L.length + m := by
    intro m
    induction m with
    | zero => intro k L h; simp at h; subst h; rw [mtF_zero]; omega
    | succ m ih =>
      intro k L h
      by_cases h0 : k = 0
      · subst h0; rw [mtF_zero]; omega
      · rw [mtF_step (by omega)]
        have := ih (k / 10) ((48 + ((k % 10 : Nat) : Int)) :: L) (by rw [Nat.div_lt_iff_lt_mul (by omega)]; rw [Nat.pow_succ] at h; exact h)
        rw [List.length_cons] at this
        omega
  have h1 := this 13 k [] (by omega)
  unfold mtS
  simp [ByteArray.size_append, strOfNums_size] at h1 ⊢
  omega
theorem int_wf9 {n : Int} (h0 : 0 ≤ n) (h1 : n ≤ 1000000000000) : (Lit.int .i64 n).wf = true := by
  have : IntKind.i64.min = -9223372036854775808 := by decide
  have : IntKind.i64.max = 9223372036854775807 := by decide
  simp [Lit.wf]
  omega
end Go.Proofs.YtlebblmlbhnppabGreat

namespace Go.Proofs.YtlebblmlbhnppabGreat
open Go.RowKit Go.PlainAid Go.Proofs.YtlebblmlbhnppabGreat.Bt Go.Sort
set_option linter.unusedVariables false
set_option maxRecDepth 20000
theorem uvG_len (u : UserV) : (uvG u).length = 6 := rfl
theorem svG_len (u : SessV) : (svG u).length = 10 := rfl
theorem fvG_len (u : FailV) : (fvG u).length = 3 := rfl
theorem evG_len (u : RecV) : (evG u).length = 5 := rfl
/-- What is marked. -/
def mkUser (M : Nat) : UserV := ⟨mtS M, mtS (M + 1), mtS (M + 2), mtS (M + 3), (M : Int) + 1 + 1 + 1 + 1, (M : Int) + 1 + 1 + 1 + 1 + 1⟩
def mkUserL (m0 n : Nat) : List UserV := (List.range n).map (fun k => mkUser (m0 + 6 * k))
theorem mkUserL_len (m0 n : Nat) : (mkUserL m0 n).length = n := by simp [mkUserL]
theorem mkUserL_at (m0 n i : Nat) (h : i < n) : (mkUserL m0 n)[i]? = some (mkUser (m0 + 6 * i)) := by rw [mkUserL, List.getElem?_map, List.getElem?_range h]; rfl
theorem mkUser_ok (M : Nat) (h : M + 6 ≤ 1000000000000) : UsRok (mkUser M) := by
  unfold UsRok mkUser
  dsimp only
  exact ⟨Nat.le_trans (mtS_len _ (by omega)) (by unfold maxLen; omega), Nat.le_trans (mtS_len _ (by omega)) (by unfold maxLen; omega), Nat.le_trans (mtS_len _ (by omega)) (by unfold maxLen; omega), Nat.le_trans (mtS_len _ (by omega)) (by unfold maxLen; omega), int_wf9 (by omega) (by omega), int_wf9 (by omega) (by omega)⟩
theorem mkUserL_ok (m0 n : Nat) (h : m0 + 6 * n ≤ 1000000000000) : ∀ x, x ∈ mkUserL m0 n → UsRok x := by
  intro x hx
  unfold mkUserL at hx
  simp at hx
  obtain ⟨i, hi, rfl⟩ := hx
  exact mkUser_ok _ (by omega)
/-- What is marked. -/
def mkSession (M : Nat) : SessV := ⟨(M : Int), (M : Int) + 1, mtS (M + 2), (M : Int) + 1 + 1 + 1, (M : Int) + 1 + 1 + 1 + 1, (M : Int) + 1 + 1 + 1 + 1 + 1, (M : Int) + 1 + 1 + 1 + 1 + 1 + 1, (M : Int) + 1 + 1 + 1 + 1 + 1 + 1 + 1, (M : Int) + 1 + 1 + 1 + 1 + 1 + 1 + 1 + 1, (M : Int) + 1 + 1 + 1 + 1 + 1 + 1 + 1 + 1 + 1⟩
def mkSessionL (m0 n : Nat) : List SessV := (List.range n).map (fun k => mkSession (m0 + 10 * k))
theorem mkSessionL_len (m0 n : Nat) : (mkSessionL m0 n).length = n := by simp [mkSessionL]
theorem mkSessionL_at (m0 n i : Nat) (h : i < n) : (mkSessionL m0 n)[i]? = some (mkSession (m0 + 10 * i)) := by rw [mkSessionL, List.getElem?_map, List.getElem?_range h]; rfl
theorem mkSession_ok (M : Nat) (h : M + 10 ≤ 1000000000000) : SeRok (mkSession M) := by
  unfold SeRok mkSession
  dsimp only
  exact ⟨int_wf9 (by omega) (by omega), int_wf9 (by omega) (by omega), Nat.le_trans (mtS_len _ (by omega)) (by unfold maxLen; omega), int_wf9 (by omega) (by omega), int_wf9 (by omega) (by omega), int_wf9 (by omega) (by omega), int_wf9 (by omega) (by omega), int_wf9 (by omega) (by omega), int_wf9 (by omega) (by omega), int_wf9 (by omega) (by omega)⟩
theorem mkSessionL_ok (m0 n : Nat) (h : m0 + 10 * n ≤ 1000000000000) : ∀ x, x ∈ mkSessionL m0 n → SeRok x := by
  intro x hx
  unfold mkSessionL at hx
  simp at hx
  obtain ⟨i, hi, rfl⟩ := hx
  exact mkSession_ok _ (by omega)
/-- What is marked. -/
def mkFail (M : Nat) : FailV := ⟨mtS M, (M : Int) + 1, (M : Int) + 1 + 1⟩
def mkFailL (m0 n : Nat) : List FailV := (List.range n).map (fun k => mkFail (m0 + 3 * k))
theorem mkFailL_len (m0 n : Nat) : (mkFailL m0 n).length = n := by simp [mkFailL]
theorem mkFailL_at (m0 n i : Nat) (h : i < n) : (mkFailL m0 n)[i]? = some (mkFail (m0 + 3 * i)) := by rw [mkFailL, List.getElem?_map, List.getElem?_range h]; rfl
theorem mkFail_ok (M : Nat) (h : M + 3 ≤ 1000000000000) : FaRok (mkFail M) := by
  unfold FaRok mkFail
  dsimp only
  exact ⟨Nat.le_trans (mtS_len _ (by omega)) (by unfold maxLen; omega), int_wf9 (by omega) (by omega), int_wf9 (by omega) (by omega)⟩
theorem mkFailL_ok (m0 n : Nat) (h : m0 + 3 * n ≤ 1000000000000) : ∀ x, x ∈ mkFailL m0 n → FaRok x := by
  intro x hx
  unfold mkFailL at hx
  simp at hx
  obtain ⟨i, hi, rfl⟩ := hx
  exact mkFail_ok _ (by omega)
/-- What is marked. -/
def mkRecord (M : Nat) : RecV := ⟨(M : Int), (M : Int) + 1, (M : Int) + 1 + 1, (M : Int) + 1 + 1 + 1, (((M : Int) + 1 + 1 + 1 + 1) % 3 == 0)⟩
def mkRecordL (m0 n : Nat) : List RecV := (List.range n).map (fun k => mkRecord (m0 + 5 * k))
theorem mkRecordL_len (m0 n : Nat) : (mkRecordL m0 n).length = n := by simp [mkRecordL]
theorem mkRecordL_at (m0 n i : Nat) (h : i < n) : (mkRecordL m0 n)[i]? = some (mkRecord (m0 + 5 * i)) := by rw [mkRecordL, List.getElem?_map, List.getElem?_range h]; rfl
theorem mkRecord_ok (M : Nat) (h : M + 5 ≤ 1000000000000) : ReRok (mkRecord M) := by
  unfold ReRok mkRecord
  dsimp only
  exact ⟨int_wf9 (by omega) (by omega), int_wf9 (by omega) (by omega), int_wf9 (by omega) (by omega), int_wf9 (by omega) (by omega)⟩
theorem mkRecordL_ok (m0 n : Nat) (h : m0 + 5 * n ≤ 1000000000000) : ∀ x, x ∈ mkRecordL m0 n → ReRok x := by
  intro x hx
  unfold mkRecordL at hx
  simp at hx
  obtain ⟨i, hi, rfl⟩ := hx
  exact mkRecord_ok _ (by omega)
end Go.Proofs.YtlebblmlbhnppabGreat

namespace Go.Proofs.YtlebblmlbhnppabGreat
open Go.RowKit Go.PlainAid Go.Proofs.YtlebblmlbhnppabGreat.Bt Go.Sort
set_option linter.unusedVariables false
set_option maxRecDepth 20000
theorem zUser : #[.string ⟨#[]⟩, .string ⟨#[]⟩, .string ⟨#[]⟩, .string ⟨#[]⟩, .int .i64 0, .int .i64 0].toList = uvG default := rfl
set_option maxHeartbeats 4000000 in
theorem toUserS_own (a : Option Addr) (len cap : Nat) (xs : List UserV) (w : World) (h : Rw UsR 6 w a xs) (hl : xs.length = len) (hc : len ≤ 1048576) :
    Calls Tryz.prog 49 #[.slice a len cap] w fun e w' => e = .returned (.slice (some ⟨w.heap.size, 0, none⟩) len len) ∧ OwnS uvG 6 84 w' w.heap.size (.slice (some ⟨w.heap.size, 0, none⟩) len len) xs ∧ (∀ x, x ∈ xs → UsRok x) ∧ Below w.heap.size w w' := by
  have RW : Hid (Rw UsR 6 w a xs) := h
  have HK : Hid (∀ x, x ∈ xs → UsRok x) := by
    intro x hx
    obtain ⟨i, hi⟩ := List.getElem?_of_mem hx
    obtain ⟨b, off, vs, _, _, _, h2, _⟩ := h.at UsR.kp (Below.refl _ _) hi
    exact h2.2
  clear h
  obtain ⟨i0, hi, hz0, hz1, hz2⟩ := info_parts infoUser
  have hmk := run_make (P := Tryz.prog) w 46 84 i0 (.agg #[.string ⟨#[]⟩, .string ⟨#[]⟩, .string ⟨#[]⟩, .string ⟨#[]⟩, .int .i64 0, .int .i64 0]) Tryz.underlying46 hi hz0 .i64 .i64 len len (by omega) (Int.le_refl _) (by rw [hz2]; omega) (by omega)
  rw [hz1, Int.toNat_natCast] at hmk
  have HM : Hid (OwnS uvG 6 84 (w.alloc (.cells (madeCells #[.string ⟨#[]⟩, .string ⟨#[]⟩, .string ⟨#[]⟩, .string ⟨#[]⟩, .int .i64 0, .int .i64 0] (len * 6)) 84)) w.heap.size (.slice (some ⟨w.heap.size, 0, none⟩) len len) (List.replicate len default) ∧ Below w.heap.size w (w.alloc (.cells (madeCells #[.string ⟨#[]⟩, .string ⟨#[]⟩, .string ⟨#[]⟩, .string ⟨#[]⟩, .int .i64 0, .int .i64 0] (len * 6)) 84))) := ⟨OwnS.made w _ _ len default _ zUser rfl (by omega) (Nat.le_refl _) (by unfold maxLen; omega), (Below.refl _ _).alloc (Nat.le_refl _) _⟩
  have hmk2 : (Instr.makeSlice 46 (.int .i64 (len : Int)) (.int .i64 (len : Int))).run Tryz.prog w = .ok (.slice (some ⟨w.heap.size, 0, none⟩) len len) (w.alloc (.cells (madeCells #[.string ⟨#[]⟩, .string ⟨#[]⟩, .string ⟨#[]⟩, .string ⟨#[]⟩, .int .i64 0, .int .i64 0] (len * 6)) 84)) := hmk
  clear hmk hi hz0 hz1 hz2
  obtain ⟨W, hW⟩ : ∃ W, W = (w.alloc (.cells (madeCells #[.string ⟨#[]⟩, .string ⟨#[]⟩, .string ⟨#[]⟩, .string ⟨#[]⟩, .int .i64 0, .int .i64 0] (len * 6)) 84)) := ⟨_, rfl⟩
  rw [← hW] at HM hmk2
  clear hW
  go_enter Tryz.func49, Tryz.ntmps49
  go_wp2
  go_loopw [4] (fun i wr => ∃ (k : Nat) (L : List UserV), k ≤ len ∧ i = .int .i64 k ∧ Hid (OwnS uvG 6 84 wr w.heap.size (.slice (some ⟨w.heap.size, 0, none⟩) len len) L ∧ L.length = len ∧ L.take k = xs.take k ∧ Below w.heap.size w wr)) (fun i _ => len - (intOf i).toNat)
  case atStart => exact ⟨0, _, Nat.zero_le _, rfl, HM.out.1, List.length_replicate .., rfl, HM.out.2⟩
  case round =>
    obtain ⟨k, L, hk, rfl, X⟩ := hrel
    by_cases hlt : k < len
    · obtain ⟨x, hx⟩ := at_of hl hlt
      obtain ⟨b, off, vs, rfl, hb, hvl, hR, hc⟩ := RW.out.at UsR.kp X.out.2.2.2 hx
      have TS : Hid ((L.set k x).take (k + 1) = xs.take (k + 1)) := takeS_set (by rw [X.out.2.1, hl]) hx X.out.2.2.1
      obtain ⟨nm, sa, ha, ro, bl, lg⟩ := x
      obtain ⟨rfl, hok⟩ := hR
      clear hok
      have q0 : wr.cell? ⟨b, off + k * 6, none⟩ = some (.string nm) := hc 0 _ rfl
      have q1 : wr.cell? ⟨b, off + k * 6 + 1, none⟩ = some (.string sa) := hc 1 _ rfl
      have q2 : wr.cell? ⟨b, off + k * 6 + 2, none⟩ = some (.string ha) := hc 2 _ rfl
      have q3 : wr.cell? ⟨b, off + k * 6 + 3, none⟩ = some (.string ro) := hc 3 _ rfl
      have q4 : wr.cell? ⟨b, off + k * 6 + 4, none⟩ = some (.int .i64 bl) := hc 4 _ rfl
      have q5 : wr.cell? ⟨b, off + k * 6 + 5, none⟩ = some (.int .i64 lg) := hc 5 _ rfl
      have HT : Hid (∀ w, Calls Tryz.prog 87 #[.agg #[.string nm, .string sa, .string ha, .string ro, .int .i64 bl, .int .i64 lg]] w fun e w' => e = .returned (.agg #[.string nm, .string sa, .string ha, .string ro, .int .i64 bl, .int .i64 lg]) ∧ Below w.heap.size w w') := fun w => toUser_any nm sa ha ro bl lg w
      have hltz : (k : Int) < (len : Int) := by omega
      clear hc
      go_wp2_with fail
      refine (HT.out _).mono ?_
      rintro e w1 ⟨rfl, b1⟩
      have o1 := X.out.1.now b1
      obtain ⟨y, hy⟩ := at_of (k := k) X.out.2.1 hlt
      obtain ⟨c0, z0⟩ := o1.cell uvG_len (j := 0) hy rfl
      obtain ⟨c1, z1⟩ := o1.cell uvG_len (j := 1) hy rfl
      obtain ⟨c2, z2⟩ := o1.cell uvG_len (j := 2) hy rfl
      obtain ⟨c3, z3⟩ := o1.cell uvG_len (j := 3) hy rfl
      obtain ⟨c4, z4⟩ := o1.cell uvG_len (j := 4) hy rfl
      obtain ⟨c5, z5⟩ := o1.cell uvG_len (j := 5) hy rfl
      replace c0 : w1.cell? ⟨w.heap.size, k * 6, none⟩ = some (.string y.nm) := c0
      replace z0 : w1.frozen? ⟨w.heap.size, k * 6, none⟩ = false := z0
      have Y0 : ∀ W1, W1 = ((((((w1.setCell ⟨w.heap.size, k * 6, none⟩ (.string nm)).setCell ⟨w.heap.size, k * 6 + 1, none⟩ (.string sa)).setCell ⟨w.heap.size, k * 6 + 2, none⟩ (.string ha)).setCell ⟨w.heap.size, k * 6 + 3, none⟩ (.string ro)).setCell ⟨w.heap.size, k * 6 + 4, none⟩ (.int .i64 bl)).setCell ⟨w.heap.size, k * 6 + 5, none⟩ (.int .i64 lg)) → OwnS uvG 6 84 W1 w.heap.size (.slice (some ⟨w.heap.size, 0, none⟩) len len) (L.set k ⟨nm, sa, ha, ro, bl, lg⟩) ∧ (L.set k ⟨nm, sa, ha, ro, bl, lg⟩).length = len ∧ (L.set k ⟨nm, sa, ha, ro, bl, lg⟩).take (k + 1) = xs.take (k + 1) ∧ Below w.heap.size w W1 := by
        intro W1 hW1
        have h2 := o1.store uvG_len hlt ⟨nm, sa, ha, ro, bl, lg⟩
        have e3 : W1 = wsets w1 w.heap.size (k * 6) (uvG ⟨nm, sa, ha, ro, bl, lg⟩) := hW1
        rw [← e3] at h2
        exact ⟨h2.1, by rw [List.length_set]; exact X.out.2.1, TS.out, (X.out.2.2.2.trans (b1.mono X.out.2.2.2.size)).trans (below_row h2.2 (Nat.le_refl _) (Nat.le_trans X.out.2.2.2.size b1.size))⟩
      have Y : Hid (OwnS uvG 6 84 ((((((w1.setCell ⟨w.heap.size, k * 6, none⟩ (.string nm)).setCell ⟨w.heap.size, k * 6 + 1, none⟩ (.string sa)).setCell ⟨w.heap.size, k * 6 + 2, none⟩ (.string ha)).setCell ⟨w.heap.size, k * 6 + 3, none⟩ (.string ro)).setCell ⟨w.heap.size, k * 6 + 4, none⟩ (.int .i64 bl)).setCell ⟨w.heap.size, k * 6 + 5, none⟩ (.int .i64 lg)) w.heap.size (.slice (some ⟨w.heap.size, 0, none⟩) len len) (L.set k ⟨nm, sa, ha, ro, bl, lg⟩) ∧ (L.set k ⟨nm, sa, ha, ro, bl, lg⟩).length = len ∧ (L.set k ⟨nm, sa, ha, ro, bl, lg⟩).take (k + 1) = xs.take (k + 1) ∧ Below w.heap.size w ((((((w1.setCell ⟨w.heap.size, k * 6, none⟩ (.string nm)).setCell ⟨w.heap.size, k * 6 + 1, none⟩ (.string sa)).setCell ⟨w.heap.size, k * 6 + 2, none⟩ (.string ha)).setCell ⟨w.heap.size, k * 6 + 3, none⟩ (.string ro)).setCell ⟨w.heap.size, k * 6 + 4, none⟩ (.int .i64 bl)).setCell ⟨w.heap.size, k * 6 + 5, none⟩ (.int .i64 lg))) := Y0 _ rfl
      clear Y0
      clear o1 b1 q0 q1 q2 q3 q4 q5 HT X HM hmk2 hx hy TS
      go_wp2
      go_roundw
      case rel => exact ⟨k + 1, _, by omega, by go_num, Y⟩
      case measure => simp [intOf]; omega
    · obtain rfl : k = len := by omega
      have e1 : L = xs := by
        have := X.out.2.2.1
        rw [List.take_of_length_le (by rw [X.out.2.1]; exact Nat.le_refl _), List.take_of_length_le (by omega)] at this
        exact this
      subst e1
      go_wp2
      go_ret
      exact ⟨rfl, X.out.1, HK.out, X.out.2.2.2⟩
theorem zSession : #[.int .i64 0, .int .i64 0, .string ⟨#[]⟩, .int .i64 0, .int .i64 0, .int .i64 0, .int .i64 0, .int .i64 0, .int .i64 0, .int .i64 0].toList = svG default := rfl
set_option maxHeartbeats 4000000 in
theorem toSessionS_own (a : Option Addr) (len cap : Nat) (xs : List SessV) (w : World) (h : Rw SeR 10 w a xs) (hl : xs.length = len) (hc : len ≤ 1048576) :
    Calls Tryz.prog 50 #[.slice a len cap] w fun e w' => e = .returned (.slice (some ⟨w.heap.size, 0, none⟩) len len) ∧ OwnS svG 10 70 w' w.heap.size (.slice (some ⟨w.heap.size, 0, none⟩) len len) xs ∧ (∀ x, x ∈ xs → SeRok x) ∧ Below w.heap.size w w' := by
  have RW : Hid (Rw SeR 10 w a xs) := h
  have HK : Hid (∀ x, x ∈ xs → SeRok x) := by
    intro x hx
    obtain ⟨i, hi⟩ := List.getElem?_of_mem hx
    obtain ⟨b, off, vs, _, _, _, h2, _⟩ := h.at SeR.kp (Below.refl _ _) hi
    exact h2.2
  clear h
  obtain ⟨i0, hi, hz0, hz1, hz2⟩ := info_parts infoSession
  have hmk := run_make (P := Tryz.prog) w 47 70 i0 (.agg #[.int .i64 0, .int .i64 0, .string ⟨#[]⟩, .int .i64 0, .int .i64 0, .int .i64 0, .int .i64 0, .int .i64 0, .int .i64 0, .int .i64 0]) Tryz.underlying47 hi hz0 .i64 .i64 len len (by omega) (Int.le_refl _) (by rw [hz2]; omega) (by omega)
  rw [hz1, Int.toNat_natCast] at hmk
  have HM : Hid (OwnS svG 10 70 (w.alloc (.cells (madeCells #[.int .i64 0, .int .i64 0, .string ⟨#[]⟩, .int .i64 0, .int .i64 0, .int .i64 0, .int .i64 0, .int .i64 0, .int .i64 0, .int .i64 0] (len * 10)) 70)) w.heap.size (.slice (some ⟨w.heap.size, 0, none⟩) len len) (List.replicate len default) ∧ Below w.heap.size w (w.alloc (.cells (madeCells #[.int .i64 0, .int .i64 0, .string ⟨#[]⟩, .int .i64 0, .int .i64 0, .int .i64 0, .int .i64 0, .int .i64 0, .int .i64 0, .int .i64 0] (len * 10)) 70))) := ⟨OwnS.made w _ _ len default _ zSession rfl (by omega) (Nat.le_refl _) (by unfold maxLen; omega), (Below.refl _ _).alloc (Nat.le_refl _) _⟩
  have hmk2 : (Instr.makeSlice 47 (.int .i64 (len : Int)) (.int .i64 (len : Int))).run Tryz.prog w = .ok (.slice (some ⟨w.heap.size, 0, none⟩) len len) (w.alloc (.cells (madeCells #[.int .i64 0, .int .i64 0, .string ⟨#[]⟩, .int .i64 0, .int .i64 0, .int .i64 0, .int .i64 0, .int .i64 0, .int .i64 0, .int .i64 0] (len * 10)) 70)) := hmk
  clear hmk hi hz0 hz1 hz2
  obtain ⟨W, hW⟩ : ∃ W, W = (w.alloc (.cells (madeCells #[.int .i64 0, .int .i64 0, .string ⟨#[]⟩, .int .i64 0, .int .i64 0, .int .i64 0, .int .i64 0, .int .i64 0, .int .i64 0, .int .i64 0] (len * 10)) 70)) := ⟨_, rfl⟩
  rw [← hW] at HM hmk2
  clear hW
  go_enter Tryz.func50, Tryz.ntmps50
  go_wp2
  go_loopw [4] (fun i wr => ∃ (k : Nat) (L : List SessV), k ≤ len ∧ i = .int .i64 k ∧ Hid (OwnS svG 10 70 wr w.heap.size (.slice (some ⟨w.heap.size, 0, none⟩) len len) L ∧ L.length = len ∧ L.take k = xs.take k ∧ Below w.heap.size w wr)) (fun i _ => len - (intOf i).toNat)
  case atStart => exact ⟨0, _, Nat.zero_le _, rfl, HM.out.1, List.length_replicate .., rfl, HM.out.2⟩
  case round =>
    obtain ⟨k, L, hk, rfl, X⟩ := hrel
    by_cases hlt : k < len
    · obtain ⟨x, hx⟩ := at_of hl hlt
      obtain ⟨b, off, vs, rfl, hb, hvl, hR, hc⟩ := RW.out.at SeR.kp X.out.2.2.2 hx
      have TS : Hid ((L.set k x).take (k + 1) = xs.take (k + 1)) := takeS_set (by rw [X.out.2.1, hl]) hx X.out.2.2.1
      obtain ⟨id, us, mc, ip, be, la, ud, qu, un, il⟩ := x
      obtain ⟨rfl, hok⟩ := hR
      clear hok
      have q0 : wr.cell? ⟨b, off + k * 10, none⟩ = some (.int .i64 id) := hc 0 _ rfl
      have q1 : wr.cell? ⟨b, off + k * 10 + 1, none⟩ = some (.int .i64 us) := hc 1 _ rfl
      have q2 : wr.cell? ⟨b, off + k * 10 + 2, none⟩ = some (.string mc) := hc 2 _ rfl
      have q3 : wr.cell? ⟨b, off + k * 10 + 3, none⟩ = some (.int .i64 ip) := hc 3 _ rfl
      have q4 : wr.cell? ⟨b, off + k * 10 + 4, none⟩ = some (.int .i64 be) := hc 4 _ rfl
      have q5 : wr.cell? ⟨b, off + k * 10 + 5, none⟩ = some (.int .i64 la) := hc 5 _ rfl
      have q6 : wr.cell? ⟨b, off + k * 10 + 6, none⟩ = some (.int .i64 ud) := hc 6 _ rfl
      have q7 : wr.cell? ⟨b, off + k * 10 + 7, none⟩ = some (.int .i64 qu) := hc 7 _ rfl
      have q8 : wr.cell? ⟨b, off + k * 10 + 8, none⟩ = some (.int .i64 un) := hc 8 _ rfl
      have q9 : wr.cell? ⟨b, off + k * 10 + 9, none⟩ = some (.int .i64 il) := hc 9 _ rfl
      have HT : Hid (∀ w, Calls Tryz.prog 88 #[.agg #[.int .i64 id, .int .i64 us, .string mc, .int .i64 ip, .int .i64 be, .int .i64 la, .int .i64 ud, .int .i64 qu, .int .i64 un, .int .i64 il]] w fun e w' => e = .returned (.agg #[.int .i64 id, .int .i64 us, .string mc, .int .i64 ip, .int .i64 be, .int .i64 la, .int .i64 ud, .int .i64 qu, .int .i64 un, .int .i64 il]) ∧ Below w.heap.size w w') := fun w => toSession_any id us mc ip be la ud qu un il w
      have hltz : (k : Int) < (len : Int) := by omega
      clear hc
      go_wp2_with fail
      refine (HT.out _).mono ?_
      rintro e w1 ⟨rfl, b1⟩
      have o1 := X.out.1.now b1
      obtain ⟨y, hy⟩ := at_of (k := k) X.out.2.1 hlt
      obtain ⟨c0, z0⟩ := o1.cell svG_len (j := 0) hy rfl
      obtain ⟨c1, z1⟩ := o1.cell svG_len (j := 1) hy rfl
      obtain ⟨c2, z2⟩ := o1.cell svG_len (j := 2) hy rfl
      obtain ⟨c3, z3⟩ := o1.cell svG_len (j := 3) hy rfl
      obtain ⟨c4, z4⟩ := o1.cell svG_len (j := 4) hy rfl
      obtain ⟨c5, z5⟩ := o1.cell svG_len (j := 5) hy rfl
      obtain ⟨c6, z6⟩ := o1.cell svG_len (j := 6) hy rfl
      obtain ⟨c7, z7⟩ := o1.cell svG_len (j := 7) hy rfl
      obtain ⟨c8, z8⟩ := o1.cell svG_len (j := 8) hy rfl
      obtain ⟨c9, z9⟩ := o1.cell svG_len (j := 9) hy rfl
      replace c0 : w1.cell? ⟨w.heap.size, k * 10, none⟩ = some (.int .i64 y.id) := c0
      replace z0 : w1.frozen? ⟨w.heap.size, k * 10, none⟩ = false := z0
      have Y0 : ∀ W1, W1 = ((((((((((w1.setCell ⟨w.heap.size, k * 10, none⟩ (.int .i64 id)).setCell ⟨w.heap.size, k * 10 + 1, none⟩ (.int .i64 us)).setCell ⟨w.heap.size, k * 10 + 2, none⟩ (.string mc)).setCell ⟨w.heap.size, k * 10 + 3, none⟩ (.int .i64 ip)).setCell ⟨w.heap.size, k * 10 + 4, none⟩ (.int .i64 be)).setCell ⟨w.heap.size, k * 10 + 5, none⟩ (.int .i64 la)).setCell ⟨w.heap.size, k * 10 + 6, none⟩ (.int .i64 ud)).setCell ⟨w.heap.size, k * 10 + 7, none⟩ (.int .i64 qu)).setCell ⟨w.heap.size, k * 10 + 8, none⟩ (.int .i64 un)).setCell ⟨w.heap.size, k * 10 + 9, none⟩ (.int .i64 il)) → OwnS svG 10 70 W1 w.heap.size (.slice (some ⟨w.heap.size, 0, none⟩) len len) (L.set k ⟨id, us, mc, ip, be, la, ud, qu, un, il⟩) ∧ (L.set k ⟨id, us, mc, ip, be, la, ud, qu, un, il⟩).length = len ∧ (L.set k ⟨id, us, mc, ip, be, la, ud, qu, un, il⟩).take (k + 1) = xs.take (k + 1) ∧ Below w.heap.size w W1 := by
        intro W1 hW1
        have h2 := o1.store svG_len hlt ⟨id, us, mc, ip, be, la, ud, qu, un, il⟩
        have e3 : W1 = wsets w1 w.heap.size (k * 10) (svG ⟨id, us, mc, ip, be, la, ud, qu, un, il⟩) := hW1
        rw [← e3] at h2
        exact ⟨h2.1, by rw [List.length_set]; exact X.out.2.1, TS.out, (X.out.2.2.2.trans (b1.mono X.out.2.2.2.size)).trans (below_row h2.2 (Nat.le_refl _) (Nat.le_trans X.out.2.2.2.size b1.size))⟩
      have Y : Hid (OwnS svG 10 70 ((((((((((w1.setCell ⟨w.heap.size, k * 10, none⟩ (.int .i64 id)).setCell ⟨w.heap.size, k * 10 + 1, none⟩ (.int .i64 us)).setCell ⟨w.heap.size, k * 10 + 2, none⟩ (.string mc)).setCell ⟨w.heap.size, k * 10 + 3, none⟩ (.int .i64 ip)).setCell ⟨w.heap.size, k * 10 + 4, none⟩ (.int .i64 be)).setCell ⟨w.heap.size, k * 10 + 5, none⟩ (.int .i64 la)).setCell ⟨w.heap.size, k * 10 + 6, none⟩ (.int .i64 ud)).setCell ⟨w.heap.size, k * 10 + 7, none⟩ (.int .i64 qu)).setCell ⟨w.heap.size, k * 10 + 8, none⟩ (.int .i64 un)).setCell ⟨w.heap.size, k * 10 + 9, none⟩ (.int .i64 il)) w.heap.size (.slice (some ⟨w.heap.size, 0, none⟩) len len) (L.set k ⟨id, us, mc, ip, be, la, ud, qu, un, il⟩) ∧ (L.set k ⟨id, us, mc, ip, be, la, ud, qu, un, il⟩).length = len ∧ (L.set k ⟨id, us, mc, ip, be, la, ud, qu, un, il⟩).take (k + 1) = xs.take (k + 1) ∧ Below w.heap.size w ((((((((((w1.setCell ⟨w.heap.size, k * 10, none⟩ (.int .i64 id)).setCell ⟨w.heap.size, k * 10 + 1, none⟩ (.int .i64 us)).setCell ⟨w.heap.size, k * 10 + 2, none⟩ (.string mc)).setCell ⟨w.heap.size, k * 10 + 3, none⟩ (.int .i64 ip)).setCell ⟨w.heap.size, k * 10 + 4, none⟩ (.int .i64 be)).setCell ⟨w.heap.size, k * 10 + 5, none⟩ (.int .i64 la)).setCell ⟨w.heap.size, k * 10 + 6, none⟩ (.int .i64 ud)).setCell ⟨w.heap.size, k * 10 + 7, none⟩ (.int .i64 qu)).setCell ⟨w.heap.size, k * 10 + 8, none⟩ (.int .i64 un)).setCell ⟨w.heap.size, k * 10 + 9, none⟩ (.int .i64 il))) := Y0 _ rfl
      clear Y0
      clear o1 b1 q0 q1 q2 q3 q4 q5 q6 q7 q8 q9 HT X HM hmk2 hx hy TS
      go_wp2
      go_roundw
      case rel => exact ⟨k + 1, _, by omega, by go_num, Y⟩
      case measure => simp [intOf]; omega
    · obtain rfl : k = len := by omega
      have e1 : L = xs := by
        have := X.out.2.2.1
        rw [List.take_of_length_le (by rw [X.out.2.1]; exact Nat.le_refl _), List.take_of_length_le (by omega)] at this
        exact this
      subst e1
      go_wp2
      go_ret
      exact ⟨rfl, X.out.1, HK.out, X.out.2.2.2⟩
theorem zFail : #[.string ⟨#[]⟩, .int .i64 0, .int .i64 0].toList = fvG default := rfl
set_option maxHeartbeats 4000000 in
theorem toFailS_own (a : Option Addr) (len cap : Nat) (xs : List FailV) (w : World) (h : Rw FaR 3 w a xs) (hl : xs.length = len) (hc : len ≤ 1048576) :
    Calls Tryz.prog 51 #[.slice a len cap] w fun e w' => e = .returned (.slice (some ⟨w.heap.size, 0, none⟩) len len) ∧ OwnS fvG 3 140 w' w.heap.size (.slice (some ⟨w.heap.size, 0, none⟩) len len) xs ∧ (∀ x, x ∈ xs → FaRok x) ∧ Below w.heap.size w w' := by
  have RW : Hid (Rw FaR 3 w a xs) := h
  have HK : Hid (∀ x, x ∈ xs → FaRok x) := by
    intro x hx
    obtain ⟨i, hi⟩ := List.getElem?_of_mem hx
    obtain ⟨b, off, vs, _, _, _, h2, _⟩ := h.at FaR.kp (Below.refl _ _) hi
    exact h2.2
  clear h
  obtain ⟨i0, hi, hz0, hz1, hz2⟩ := info_parts infoFail
  have hmk := run_make (P := Tryz.prog) w 48 140 i0 (.agg #[.string ⟨#[]⟩, .int .i64 0, .int .i64 0]) Tryz.underlying48 hi hz0 .i64 .i64 len len (by omega) (Int.le_refl _) (by rw [hz2]; omega) (by omega)
  rw [hz1, Int.toNat_natCast] at hmk
  have HM : Hid (OwnS fvG 3 140 (w.alloc (.cells (madeCells #[.string ⟨#[]⟩, .int .i64 0, .int .i64 0] (len * 3)) 140)) w.heap.size (.slice (some ⟨w.heap.size, 0, none⟩) len len) (List.replicate len default) ∧ Below w.heap.size w (w.alloc (.cells (madeCells #[.string ⟨#[]⟩, .int .i64 0, .int .i64 0] (len * 3)) 140))) := ⟨OwnS.made w _ _ len default _ zFail rfl (by omega) (Nat.le_refl _) (by unfold maxLen; omega), (Below.refl _ _).alloc (Nat.le_refl _) _⟩
  have hmk2 : (Instr.makeSlice 48 (.int .i64 (len : Int)) (.int .i64 (len : Int))).run Tryz.prog w = .ok (.slice (some ⟨w.heap.size, 0, none⟩) len len) (w.alloc (.cells (madeCells #[.string ⟨#[]⟩, .int .i64 0, .int .i64 0] (len * 3)) 140)) := hmk
  clear hmk hi hz0 hz1 hz2
  obtain ⟨W, hW⟩ : ∃ W, W = (w.alloc (.cells (madeCells #[.string ⟨#[]⟩, .int .i64 0, .int .i64 0] (len * 3)) 140)) := ⟨_, rfl⟩
  rw [← hW] at HM hmk2
  clear hW
  go_enter Tryz.func51, Tryz.ntmps51
  go_wp2
  go_loopw [4] (fun i wr => ∃ (k : Nat) (L : List FailV), k ≤ len ∧ i = .int .i64 k ∧ Hid (OwnS fvG 3 140 wr w.heap.size (.slice (some ⟨w.heap.size, 0, none⟩) len len) L ∧ L.length = len ∧ L.take k = xs.take k ∧ Below w.heap.size w wr)) (fun i _ => len - (intOf i).toNat)
  case atStart => exact ⟨0, _, Nat.zero_le _, rfl, HM.out.1, List.length_replicate .., rfl, HM.out.2⟩
  case round =>
    obtain ⟨k, L, hk, rfl, X⟩ := hrel
    by_cases hlt : k < len
    · obtain ⟨x, hx⟩ := at_of hl hlt
      obtain ⟨b, off, vs, rfl, hb, hvl, hR, hc⟩ := RW.out.at FaR.kp X.out.2.2.2 hx
      have TS : Hid ((L.set k x).take (k + 1) = xs.take (k + 1)) := takeS_set (by rw [X.out.2.1, hl]) hx X.out.2.2.1
      obtain ⟨mc, ct, un⟩ := x
      obtain ⟨rfl, hok⟩ := hR
      clear hok
      have q0 : wr.cell? ⟨b, off + k * 3, none⟩ = some (.string mc) := hc 0 _ rfl
      have q1 : wr.cell? ⟨b, off + k * 3 + 1, none⟩ = some (.int .i64 ct) := hc 1 _ rfl
      have q2 : wr.cell? ⟨b, off + k * 3 + 2, none⟩ = some (.int .i64 un) := hc 2 _ rfl
      have HT : Hid (∀ w, Calls Tryz.prog 89 #[.agg #[.string mc, .int .i64 ct, .int .i64 un]] w fun e w' => e = .returned (.agg #[.string mc, .int .i64 ct, .int .i64 un]) ∧ Below w.heap.size w w') := fun w => toFail_any mc ct un w
      have hltz : (k : Int) < (len : Int) := by omega
      clear hc
      go_wp2_with fail
      refine (HT.out _).mono ?_
      rintro e w1 ⟨rfl, b1⟩
      have o1 := X.out.1.now b1
      obtain ⟨y, hy⟩ := at_of (k := k) X.out.2.1 hlt
      obtain ⟨c0, z0⟩ := o1.cell fvG_len (j := 0) hy rfl
      obtain ⟨c1, z1⟩ := o1.cell fvG_len (j := 1) hy rfl
      obtain ⟨c2, z2⟩ := o1.cell fvG_len (j := 2) hy rfl
      replace c0 : w1.cell? ⟨w.heap.size, k * 3, none⟩ = some (.string y.mc) := c0
      replace z0 : w1.frozen? ⟨w.heap.size, k * 3, none⟩ = false := z0
      have Y0 : ∀ W1, W1 = (((w1.setCell ⟨w.heap.size, k * 3, none⟩ (.string mc)).setCell ⟨w.heap.size, k * 3 + 1, none⟩ (.int .i64 ct)).setCell ⟨w.heap.size, k * 3 + 2, none⟩ (.int .i64 un)) → OwnS fvG 3 140 W1 w.heap.size (.slice (some ⟨w.heap.size, 0, none⟩) len len) (L.set k ⟨mc, ct, un⟩) ∧ (L.set k ⟨mc, ct, un⟩).length = len ∧ (L.set k ⟨mc, ct, un⟩).take (k + 1) = xs.take (k + 1) ∧ Below w.heap.size w W1 := by
        intro W1 hW1
        have h2 := o1.store fvG_len hlt ⟨mc, ct, un⟩
        have e3 : W1 = wsets w1 w.heap.size (k * 3) (fvG ⟨mc, ct, un⟩) := hW1
        rw [← e3] at h2
        exact ⟨h2.1, by rw [List.length_set]; exact X.out.2.1, TS.out, (X.out.2.2.2.trans (b1.mono X.out.2.2.2.size)).trans (below_row h2.2 (Nat.le_refl _) (Nat.le_trans X.out.2.2.2.size b1.size))⟩
      have Y : Hid (OwnS fvG 3 140 (((w1.setCell ⟨w.heap.size, k * 3, none⟩ (.string mc)).setCell ⟨w.heap.size, k * 3 + 1, none⟩ (.int .i64 ct)).setCell ⟨w.heap.size, k * 3 + 2, none⟩ (.int .i64 un)) w.heap.size (.slice (some ⟨w.heap.size, 0, none⟩) len len) (L.set k ⟨mc, ct, un⟩) ∧ (L.set k ⟨mc, ct, un⟩).length = len ∧ (L.set k ⟨mc, ct, un⟩).take (k + 1) = xs.take (k + 1) ∧ Below w.heap.size w (((w1.setCell ⟨w.heap.size, k * 3, none⟩ (.string mc)).setCell ⟨w.heap.size, k * 3 + 1, none⟩ (.int .i64 ct)).setCell ⟨w.heap.size, k * 3 + 2, none⟩ (.int .i64 un))) := Y0 _ rfl
      clear Y0
      clear o1 b1 q0 q1 q2 HT X HM hmk2 hx hy TS
      go_wp2
      go_roundw
      case rel => exact ⟨k + 1, _, by omega, by go_num, Y⟩
      case measure => simp [intOf]; omega
    · obtain rfl : k = len := by omega
      have e1 : L = xs := by
        have := X.out.2.2.1
        rw [List.take_of_length_le (by rw [X.out.2.1]; exact Nat.le_refl _), List.take_of_length_le (by omega)] at this
        exact this
      subst e1
      go_wp2
      go_ret
      exact ⟨rfl, X.out.1, HK.out, X.out.2.2.2⟩
theorem zRecord : #[.int .i64 0, .int .i64 0, .int .i64 0, .int .i64 0, .bool false].toList = evG default := rfl
set_option maxHeartbeats 4000000 in
theorem toRecordS_own (a : Option Addr) (len cap : Nat) (xs : List RecV) (w : World) (h : Rw ReR 5 w a xs) (hl : xs.length = len) (hc : len ≤ 1048576) :
    Calls Tryz.prog 52 #[.slice a len cap] w fun e w' => e = .returned (.slice (some ⟨w.heap.size, 0, none⟩) len len) ∧ OwnS evG 5 142 w' w.heap.size (.slice (some ⟨w.heap.size, 0, none⟩) len len) xs ∧ (∀ x, x ∈ xs → ReRok x) ∧ Below w.heap.size w w' := by
  have RW : Hid (Rw ReR 5 w a xs) := h
  have HK : Hid (∀ x, x ∈ xs → ReRok x) := by
    intro x hx
    obtain ⟨i, hi⟩ := List.getElem?_of_mem hx
    obtain ⟨b, off, vs, _, _, _, h2, _⟩ := h.at ReR.kp (Below.refl _ _) hi
    exact h2.2
  clear h
  obtain ⟨i0, hi, hz0, hz1, hz2⟩ := info_parts infoRecord
  have hmk := run_make (P := Tryz.prog) w 49 142 i0 (.agg #[.int .i64 0, .int .i64 0, .int .i64 0, .int .i64 0, .bool false]) Tryz.underlying49 hi hz0 .i64 .i64 len len (by omega) (Int.le_refl _) (by rw [hz2]; omega) (by omega)
  rw [hz1, Int.toNat_natCast] at hmk
  have HM : Hid (OwnS evG 5 142 (w.alloc (.cells (madeCells #[.int .i64 0, .int .i64 0, .int .i64 0, .int .i64 0, .bool false] (len * 5)) 142)) w.heap.size (.slice (some ⟨w.heap.size, 0, none⟩) len len) (List.replicate len default) ∧ Below w.heap.size w (w.alloc (.cells (madeCells #[.int .i64 0, .int .i64 0, .int .i64 0, .int .i64 0, .bool false] (len * 5)) 142))) := ⟨OwnS.made w _ _ len default _ zRecord rfl (by omega) (Nat.le_refl _) (by unfold maxLen; omega), (Below.refl _ _).alloc (Nat.le_refl _) _⟩
  have hmk2 : (Instr.makeSlice 49 (.int .i64 (len : Int)) (.int .i64 (len : Int))).run Tryz.prog w = .ok (.slice (some ⟨w.heap.size, 0, none⟩) len len) (w.alloc (.cells (madeCells #[.int .i64 0, .int .i64 0, .int .i64 0, .int .i64 0, .bool false] (len * 5)) 142)) := hmk
  clear hmk hi hz0 hz1 hz2
  obtain ⟨W, hW⟩ : ∃ W, W = (w.alloc (.cells (madeCells #[.int .i64 0, .int .i64 0, .int .i64 0, .int .i64 0, .bool false] (len * 5)) 142)) := ⟨_, rfl⟩
  rw [← hW] at HM hmk2
  clear hW
  go_enter Tryz.func52, Tryz.ntmps52
  go_wp2
  go_loopw [4] (fun i wr => ∃ (k : Nat) (L : List RecV), k ≤ len ∧ i = .int .i64 k ∧ Hid (OwnS evG 5 142 wr w.heap.size (.slice (some ⟨w.heap.size, 0, none⟩) len len) L ∧ L.length = len ∧ L.take k = xs.take k ∧ Below w.heap.size w wr)) (fun i _ => len - (intOf i).toNat)
  case atStart => exact ⟨0, _, Nat.zero_le _, rfl, HM.out.1, List.length_replicate .., rfl, HM.out.2⟩
  case round =>
    obtain ⟨k, L, hk, rfl, X⟩ := hrel
    by_cases hlt : k < len
    · obtain ⟨x, hx⟩ := at_of hl hlt
      obtain ⟨b, off, vs, rfl, hb, hvl, hR, hc⟩ := RW.out.at ReR.kp X.out.2.2.2 hx
      have TS : Hid ((L.set k x).take (k + 1) = xs.take (k + 1)) := takeS_set (by rw [X.out.2.1, hl]) hx X.out.2.2.1
      obtain ⟨id, tm, ca, bt, st⟩ := x
      obtain ⟨rfl, hok⟩ := hR
      clear hok
      have q0 : wr.cell? ⟨b, off + k * 5, none⟩ = some (.int .i64 id) := hc 0 _ rfl
      have q1 : wr.cell? ⟨b, off + k * 5 + 1, none⟩ = some (.int .i64 tm) := hc 1 _ rfl
      have q2 : wr.cell? ⟨b, off + k * 5 + 2, none⟩ = some (.int .i64 ca) := hc 2 _ rfl
      have q3 : wr.cell? ⟨b, off + k * 5 + 3, none⟩ = some (.int .i64 bt) := hc 3 _ rfl
      have q4 : wr.cell? ⟨b, off + k * 5 + 4, none⟩ = some (.bool st) := hc 4 _ rfl
      have HT : Hid (∀ w, Calls Tryz.prog 90 #[.agg #[.int .i64 id, .int .i64 tm, .int .i64 ca, .int .i64 bt, .bool st]] w fun e w' => e = .returned (.agg #[.int .i64 id, .int .i64 tm, .int .i64 ca, .int .i64 bt, .bool st]) ∧ Below w.heap.size w w') := fun w => toRecord_any id tm ca bt st w
      have hltz : (k : Int) < (len : Int) := by omega
      clear hc
      go_wp2_with fail
      refine (HT.out _).mono ?_
      rintro e w1 ⟨rfl, b1⟩
      have o1 := X.out.1.now b1
      obtain ⟨y, hy⟩ := at_of (k := k) X.out.2.1 hlt
      obtain ⟨c0, z0⟩ := o1.cell evG_len (j := 0) hy rfl
      obtain ⟨c1, z1⟩ := o1.cell evG_len (j := 1) hy rfl
      obtain ⟨c2, z2⟩ := o1.cell evG_len (j := 2) hy rfl
      obtain ⟨c3, z3⟩ := o1.cell evG_len (j := 3) hy rfl
      obtain ⟨c4, z4⟩ := o1.cell evG_len (j := 4) hy rfl
      replace c0 : w1.cell? ⟨w.heap.size, k * 5, none⟩ = some (.int .i64 y.id) := c0
      replace z0 : w1.frozen? ⟨w.heap.size, k * 5, none⟩ = false := z0
      have Y0 : ∀ W1, W1 = (((((w1.setCell ⟨w.heap.size, k * 5, none⟩ (.int .i64 id)).setCell ⟨w.heap.size, k * 5 + 1, none⟩ (.int .i64 tm)).setCell ⟨w.heap.size, k * 5 + 2, none⟩ (.int .i64 ca)).setCell ⟨w.heap.size, k * 5 + 3, none⟩ (.int .i64 bt)).setCell ⟨w.heap.size, k * 5 + 4, none⟩ (.bool st)) → OwnS evG 5 142 W1 w.heap.size (.slice (some ⟨w.heap.size, 0, none⟩) len len) (L.set k ⟨id, tm, ca, bt, st⟩) ∧ (L.set k ⟨id, tm, ca, bt, st⟩).length = len ∧ (L.set k ⟨id, tm, ca, bt, st⟩).take (k + 1) = xs.take (k + 1) ∧ Below w.heap.size w W1 := by
        intro W1 hW1
        have h2 := o1.store evG_len hlt ⟨id, tm, ca, bt, st⟩
        have e3 : W1 = wsets w1 w.heap.size (k * 5) (evG ⟨id, tm, ca, bt, st⟩) := hW1
        rw [← e3] at h2
        exact ⟨h2.1, by rw [List.length_set]; exact X.out.2.1, TS.out, (X.out.2.2.2.trans (b1.mono X.out.2.2.2.size)).trans (below_row h2.2 (Nat.le_refl _) (Nat.le_trans X.out.2.2.2.size b1.size))⟩
      have Y : Hid (OwnS evG 5 142 (((((w1.setCell ⟨w.heap.size, k * 5, none⟩ (.int .i64 id)).setCell ⟨w.heap.size, k * 5 + 1, none⟩ (.int .i64 tm)).setCell ⟨w.heap.size, k * 5 + 2, none⟩ (.int .i64 ca)).setCell ⟨w.heap.size, k * 5 + 3, none⟩ (.int .i64 bt)).setCell ⟨w.heap.size, k * 5 + 4, none⟩ (.bool st)) w.heap.size (.slice (some ⟨w.heap.size, 0, none⟩) len len) (L.set k ⟨id, tm, ca, bt, st⟩) ∧ (L.set k ⟨id, tm, ca, bt, st⟩).length = len ∧ (L.set k ⟨id, tm, ca, bt, st⟩).take (k + 1) = xs.take (k + 1) ∧ Below w.heap.size w (((((w1.setCell ⟨w.heap.size, k * 5, none⟩ (.int .i64 id)).setCell ⟨w.heap.size, k * 5 + 1, none⟩ (.int .i64 tm)).setCell ⟨w.heap.size, k * 5 + 2, none⟩ (.int .i64 ca)).setCell ⟨w.heap.size, k * 5 + 3, none⟩ (.int .i64 bt)).setCell ⟨w.heap.size, k * 5 + 4, none⟩ (.bool st))) := Y0 _ rfl
      clear Y0
      clear o1 b1 q0 q1 q2 q3 q4 HT X HM hmk2 hx hy TS
      go_wp2
      go_roundw
      case rel => exact ⟨k + 1, _, by omega, by go_num, Y⟩
      case measure => simp [intOf]; omega
    · obtain rfl : k = len := by omega
      have e1 : L = xs := by
        have := X.out.2.2.1
        rw [List.take_of_length_le (by rw [X.out.2.1]; exact Nat.le_refl _), List.take_of_length_le (by omega)] at this
        exact this
      subst e1
      go_wp2
      go_ret
      exact ⟨rfl, X.out.1, HK.out, X.out.2.2.2⟩
end Go.Proofs.YtlebblmlbhnppabGreat

namespace Go.Proofs.YtlebblmlbhnppabGreat
open Go.RowKit Go.PlainAid Go.Proofs.YtlebblmlbhnppabGreat.Bt Go.Sort
set_option linter.unusedVariables false
set_option maxRecDepth 20000
theorem oneUser (ys : List UserV) : ∀ u ∈ flatS uvG ys, u.oneCell' = true := by
  intro u hu
  unfold flatS at hu
  rw [List.mem_flatMap] at hu
  obtain ⟨f, _, hf⟩ := hu
  simp [uvG] at hf
  rcases hf with rfl | rfl | rfl | rfl | rfl | rfl <;> rfl
/-- 'append(row, ys...)'. -/
theorem wpl_User (w : World) {ops : Array Oper} {rest : List Oper} {o : Oper} {a : Act} {Q : Exit → Act → World → Prop} (hgd : o.guard = none) (s x : Operand)
    (ho : o.op = .call { callee := .builtin .append, args := #[s, x], argTypes := #[46, 46] })
    (B : Nat) (v : Value) (L ys : List UserV) (hs : a.eval s = v) (hown : OwnS uvG 6 84 w B v L)
    (g off m c : Nat) (hm : ys.length = m) (hx : a.eval x = .slice (some ⟨g, off, none⟩) m c) (hc : ∀ j u, (flatS uvG ys)[j]? = some u → w.cell? ⟨g, off + j, none⟩ = some u)
    (hlen : L.length + m ≤ 2000000) (hB : B ≤ w.heap.size)
    (h : ∀ v' w', Hid (OwnS uvG 6 84 w' B v' (L ++ ys) ∧ Below B w w') → w.grownBy w' v.ownBlock → wpList Tryz.prog ops Q rest (a.put o.dst v') w') : wpList Tryz.prog ops Q (o :: rest) a w := by
  obtain ⟨i0, hi, hz0, hz1, hz2⟩ := info_parts infoUser
  refine wpList_append_own w hgd s x 46 ho B 84 i0 (.agg #[.string ⟨#[]⟩, .string ⟨#[]⟩, .string ⟨#[]⟩, .string ⟨#[]⟩, .int .i64 0, .int .i64 0]) 6 80 Tryz.underlying46 hi hz0 hz1 hz2 rfl (by decide) v L.length (flatS uvG L) hs hown ⟨g, off, none⟩ m c (flatS uvG ys) hx (by rw [flatS_len uvG_len, hm]) ?_
    (oneUser ys) (by unfold maxLen; omega) (by omega) hB ?_
  · intro j u hu
    rw [addn]
    exact hc j u hu
  · intro v' w' h2 h3 _
    subst hm
    exact h v' w' (hown.join hB h2 h3) h3
/-- The same, of what may be nil. -/
theorem wpl_UserS (w : World) {ops : Array Oper} {rest : List Oper} {o : Oper} {a : Act} {Q : Exit → Act → World → Prop} (hgd : o.guard = none) (s x : Operand)
    (ho : o.op = .call { callee := .builtin .append, args := #[s, x], argTypes := #[46, 46] })
    (B : Nat) (v : Value) (L ys : List UserV) (hs : a.eval s = v) (hown : OwnS uvG 6 84 w B v L)
    (p : Option Addr) (m c : Nat) (hrw : Rw UsR 6 w p ys) (hm : ys.length = m) (hsp : ∀ q, p = some q → q.spot = none) (hnil : p = none → m = 0 ∧ c = 0) (hx : a.eval x = .slice p m c)
    (hlen : L.length + m ≤ 2000000) (hB : B ≤ w.heap.size)
    (h : ∀ v' w', Hid (OwnS uvG 6 84 w' B v' (L ++ ys) ∧ Below B w w') → w.grownBy w' v.ownBlock → wpList Tryz.prog ops Q rest (a.put o.dst v') w') : wpList Tryz.prog ops Q (o :: rest) a w := by
  cases p with
  | some q =>
    obtain ⟨b, off, pt⟩ := q
    obtain rfl : pt = none := hsp _ rfl
    have h' : Rw (FR uvG UsRok) 6 w (some ⟨b, off, none⟩) ys := hrw
    exact wpl_User w hgd s x ho B v L ys hs hown b off m c hm hx (flat_rw h' uvG_len (by omega)) hlen hB h
  | none =>
    obtain ⟨rfl, rfl⟩ := hnil rfl
    obtain rfl : ys = [] := List.length_eq_zero_iff.1 hm
    obtain ⟨i0, hi, hz0, hz1, hz2⟩ := info_parts infoUser
    refine wpList_append_own_none hgd s x 46 ho B 84 i0 6 Tryz.underlying46 hi v L.length (flatS uvG L) hs hown hx (h v w ?_ (grown_refl w _))
    rw [List.append_nil]
    exact ⟨hown, Below.refl _ _⟩
theorem oneSession (ys : List SessV) : ∀ u ∈ flatS svG ys, u.oneCell' = true := by
  intro u hu
  unfold flatS at hu
  rw [List.mem_flatMap] at hu
  obtain ⟨f, _, hf⟩ := hu
  simp [svG] at hf
  rcases hf with rfl | rfl | rfl | rfl | rfl | rfl | rfl | rfl | rfl | rfl <;> rfl
/-- 'append(row, ys...)'. -/
theorem wpl_Session (w : World) {ops : Array Oper} {rest : List Oper} {o : Oper} {a : Act} {Q : Exit → Act → World → Prop} (hgd : o.guard = none) (s x : Operand)
    (ho : o.op = .call { callee := .builtin .append, args := #[s, x], argTypes := #[47, 47] })
    (B : Nat) (v : Value) (L ys : List SessV) (hs : a.eval s = v) (hown : OwnS svG 10 70 w B v L)
    (g off m c : Nat) (hm : ys.length = m) (hx : a.eval x = .slice (some ⟨g, off, none⟩) m c) (hc : ∀ j u, (flatS svG ys)[j]? = some u → w.cell? ⟨g, off + j, none⟩ = some u)
    (hlen : L.length + m ≤ 2000000) (hB : B ≤ w.heap.size)
    (h : ∀ v' w', Hid (OwnS svG 10 70 w' B v' (L ++ ys) ∧ Below B w w') → w.grownBy w' v.ownBlock → wpList Tryz.prog ops Q rest (a.put o.dst v') w') : wpList Tryz.prog ops Q (o :: rest) a w := by
  obtain ⟨i0, hi, hz0, hz1, hz2⟩ := info_parts infoSession
  refine wpList_append_own w hgd s x 47 ho B 70 i0 (.agg #[.int .i64 0, .int .i64 0, .string ⟨#[]⟩, .int .i64 0, .int .i64 0, .int .i64 0, .int .i64 0, .int .i64 0, .int .i64 0, .int .i64 0]) 10 88 Tryz.underlying47 hi hz0 hz1 hz2 rfl (by decide) v L.length (flatS svG L) hs hown ⟨g, off, none⟩ m c (flatS svG ys) hx (by rw [flatS_len svG_len, hm]) ?_
    (oneSession ys) (by unfold maxLen; omega) (by omega) hB ?_
  · intro j u hu
    rw [addn]
    exact hc j u hu
  · intro v' w' h2 h3 _
    subst hm
    exact h v' w' (hown.join hB h2 h3) h3
/-- The same, of what may be nil. -/
theorem wpl_SessionS (w : World) {ops : Array Oper} {rest : List Oper} {o : Oper} {a : Act} {Q : Exit → Act → World → Prop} (hgd : o.guard = none) (s x : Operand)
    (ho : o.op = .call { callee := .builtin .append, args := #[s, x], argTypes := #[47, 47] })
    (B : Nat) (v : Value) (L ys : List SessV) (hs : a.eval s = v) (hown : OwnS svG 10 70 w B v L)
    (p : Option Addr) (m c : Nat) (hrw : Rw SeR 10 w p ys) (hm : ys.length = m) (hsp : ∀ q, p = some q → q.spot = none) (hnil : p = none → m = 0 ∧ c = 0) (hx : a.eval x = .slice p m c)
    (hlen : L.length + m ≤ 2000000) (hB : B ≤ w.heap.size)
    (h : ∀ v' w', Hid (OwnS svG 10 70 w' B v' (L ++ ys) ∧ Below B w w') → w.grownBy w' v.ownBlock → wpList Tryz.prog ops Q rest (a.put o.dst v') w') : wpList Tryz.prog ops Q (o :: rest) a w := by
  cases p with
  | some q =>
    obtain ⟨b, off, pt⟩ := q
    obtain rfl : pt = none := hsp _ rfl
    have h' : Rw (FR svG SeRok) 10 w (some ⟨b, off, none⟩) ys := hrw
    exact wpl_Session w hgd s x ho B v L ys hs hown b off m c hm hx (flat_rw h' svG_len (by omega)) hlen hB h
  | none =>
    obtain ⟨rfl, rfl⟩ := hnil rfl
    obtain rfl : ys = [] := List.length_eq_zero_iff.1 hm
    obtain ⟨i0, hi, hz0, hz1, hz2⟩ := info_parts infoSession
    refine wpList_append_own_none hgd s x 47 ho B 70 i0 10 Tryz.underlying47 hi v L.length (flatS svG L) hs hown hx (h v w ?_ (grown_refl w _))
    rw [List.append_nil]
    exact ⟨hown, Below.refl _ _⟩
theorem oneFail (ys : List FailV) : ∀ u ∈ flatS fvG ys, u.oneCell' = true := by
  intro u hu
  unfold flatS at hu
  rw [List.mem_flatMap] at hu
  obtain ⟨f, _, hf⟩ := hu
  simp [fvG] at hf
  rcases hf with rfl | rfl | rfl <;> rfl
/-- 'append(row, ys...)'. -/
theorem wpl_Fail (w : World) {ops : Array Oper} {rest : List Oper} {o : Oper} {a : Act} {Q : Exit → Act → World → Prop} (hgd : o.guard = none) (s x : Operand)
    (ho : o.op = .call { callee := .builtin .append, args := #[s, x], argTypes := #[48, 48] })
    (B : Nat) (v : Value) (L ys : List FailV) (hs : a.eval s = v) (hown : OwnS fvG 3 140 w B v L)
    (g off m c : Nat) (hm : ys.length = m) (hx : a.eval x = .slice (some ⟨g, off, none⟩) m c) (hc : ∀ j u, (flatS fvG ys)[j]? = some u → w.cell? ⟨g, off + j, none⟩ = some u)
    (hlen : L.length + m ≤ 2000000) (hB : B ≤ w.heap.size)
    (h : ∀ v' w', Hid (OwnS fvG 3 140 w' B v' (L ++ ys) ∧ Below B w w') → w.grownBy w' v.ownBlock → wpList Tryz.prog ops Q rest (a.put o.dst v') w') : wpList Tryz.prog ops Q (o :: rest) a w := by
  obtain ⟨i0, hi, hz0, hz1, hz2⟩ := info_parts infoFail
  refine wpList_append_own w hgd s x 48 ho B 140 i0 (.agg #[.string ⟨#[]⟩, .int .i64 0, .int .i64 0]) 3 32 Tryz.underlying48 hi hz0 hz1 hz2 rfl (by decide) v L.length (flatS fvG L) hs hown ⟨g, off, none⟩ m c (flatS fvG ys) hx (by rw [flatS_len fvG_len, hm]) ?_
    (oneFail ys) (by unfold maxLen; omega) (by omega) hB ?_
  · intro j u hu
    rw [addn]
    exact hc j u hu
  · intro v' w' h2 h3 _
    subst hm
    exact h v' w' (hown.join hB h2 h3) h3
/-- The same, of what may be nil. -/
theorem wpl_FailS (w : World) {ops : Array Oper} {rest : List Oper} {o : Oper} {a : Act} {Q : Exit → Act → World → Prop} (hgd : o.guard = none) (s x : Operand)
    (ho : o.op = .call { callee := .builtin .append, args := #[s, x], argTypes := #[48, 48] })
    (B : Nat) (v : Value) (L ys : List FailV) (hs : a.eval s = v) (hown : OwnS fvG 3 140 w B v L)
    (p : Option Addr) (m c : Nat) (hrw : Rw FaR 3 w p ys) (hm : ys.length = m) (hsp : ∀ q, p = some q → q.spot = none) (hnil : p = none → m = 0 ∧ c = 0) (hx : a.eval x = .slice p m c)
    (hlen : L.length + m ≤ 2000000) (hB : B ≤ w.heap.size)
    (h : ∀ v' w', Hid (OwnS fvG 3 140 w' B v' (L ++ ys) ∧ Below B w w') → w.grownBy w' v.ownBlock → wpList Tryz.prog ops Q rest (a.put o.dst v') w') : wpList Tryz.prog ops Q (o :: rest) a w := by
  cases p with
  | some q =>
    obtain ⟨b, off, pt⟩ := q
    obtain rfl : pt = none := hsp _ rfl
    have h' : Rw (FR fvG FaRok) 3 w (some ⟨b, off, none⟩) ys := hrw
    exact wpl_Fail w hgd s x ho B v L ys hs hown b off m c hm hx (flat_rw h' fvG_len (by omega)) hlen hB h
  | none =>
    obtain ⟨rfl, rfl⟩ := hnil rfl
    obtain rfl : ys = [] := List.length_eq_zero_iff.1 hm
    obtain ⟨i0, hi, hz0, hz1, hz2⟩ := info_parts infoFail
    refine wpList_append_own_none hgd s x 48 ho B 140 i0 3 Tryz.underlying48 hi v L.length (flatS fvG L) hs hown hx (h v w ?_ (grown_refl w _))
    rw [List.append_nil]
    exact ⟨hown, Below.refl _ _⟩
theorem oneRecord (ys : List RecV) : ∀ u ∈ flatS evG ys, u.oneCell' = true := by
  intro u hu
  unfold flatS at hu
  rw [List.mem_flatMap] at hu
  obtain ⟨f, _, hf⟩ := hu
  simp [evG] at hf
  rcases hf with rfl | rfl | rfl | rfl | rfl <;> rfl
/-- 'append(row, ys...)'. -/
theorem wpl_Record (w : World) {ops : Array Oper} {rest : List Oper} {o : Oper} {a : Act} {Q : Exit → Act → World → Prop} (hgd : o.guard = none) (s x : Operand)
    (ho : o.op = .call { callee := .builtin .append, args := #[s, x], argTypes := #[49, 49] })
    (B : Nat) (v : Value) (L ys : List RecV) (hs : a.eval s = v) (hown : OwnS evG 5 142 w B v L)
    (g off m c : Nat) (hm : ys.length = m) (hx : a.eval x = .slice (some ⟨g, off, none⟩) m c) (hc : ∀ j u, (flatS evG ys)[j]? = some u → w.cell? ⟨g, off + j, none⟩ = some u)
    (hlen : L.length + m ≤ 2000000) (hB : B ≤ w.heap.size)
    (h : ∀ v' w', Hid (OwnS evG 5 142 w' B v' (L ++ ys) ∧ Below B w w') → w.grownBy w' v.ownBlock → wpList Tryz.prog ops Q rest (a.put o.dst v') w') : wpList Tryz.prog ops Q (o :: rest) a w := by
  obtain ⟨i0, hi, hz0, hz1, hz2⟩ := info_parts infoRecord
  refine wpList_append_own w hgd s x 49 ho B 142 i0 (.agg #[.int .i64 0, .int .i64 0, .int .i64 0, .int .i64 0, .bool false]) 5 40 Tryz.underlying49 hi hz0 hz1 hz2 rfl (by decide) v L.length (flatS evG L) hs hown ⟨g, off, none⟩ m c (flatS evG ys) hx (by rw [flatS_len evG_len, hm]) ?_
    (oneRecord ys) (by unfold maxLen; omega) (by omega) hB ?_
  · intro j u hu
    rw [addn]
    exact hc j u hu
  · intro v' w' h2 h3 _
    subst hm
    exact h v' w' (hown.join hB h2 h3) h3
/-- The same, of what may be nil. -/
theorem wpl_RecordS (w : World) {ops : Array Oper} {rest : List Oper} {o : Oper} {a : Act} {Q : Exit → Act → World → Prop} (hgd : o.guard = none) (s x : Operand)
    (ho : o.op = .call { callee := .builtin .append, args := #[s, x], argTypes := #[49, 49] })
    (B : Nat) (v : Value) (L ys : List RecV) (hs : a.eval s = v) (hown : OwnS evG 5 142 w B v L)
    (p : Option Addr) (m c : Nat) (hrw : Rw ReR 5 w p ys) (hm : ys.length = m) (hsp : ∀ q, p = some q → q.spot = none) (hnil : p = none → m = 0 ∧ c = 0) (hx : a.eval x = .slice p m c)
    (hlen : L.length + m ≤ 2000000) (hB : B ≤ w.heap.size)
    (h : ∀ v' w', Hid (OwnS evG 5 142 w' B v' (L ++ ys) ∧ Below B w w') → w.grownBy w' v.ownBlock → wpList Tryz.prog ops Q rest (a.put o.dst v') w') : wpList Tryz.prog ops Q (o :: rest) a w := by
  cases p with
  | some q =>
    obtain ⟨b, off, pt⟩ := q
    obtain rfl : pt = none := hsp _ rfl
    have h' : Rw (FR evG ReRok) 5 w (some ⟨b, off, none⟩) ys := hrw
    exact wpl_Record w hgd s x ho B v L ys hs hown b off m c hm hx (flat_rw h' evG_len (by omega)) hlen hB h
  | none =>
    obtain ⟨rfl, rfl⟩ := hnil rfl
    obtain rfl : ys = [] := List.length_eq_zero_iff.1 hm
    obtain ⟨i0, hi, hz0, hz1, hz2⟩ := info_parts infoRecord
    refine wpList_append_own_none hgd s x 49 ho B 142 i0 5 Tryz.underlying49 hi v L.length (flatS evG L) hs hown hx (h v w ?_ (grown_refl w _))
    rw [List.append_nil]
    exact ⟨hown, Below.refl _ _⟩
end Go.Proofs.YtlebblmlbhnppabGreat

namespace Go.Proofs.YtlebblmlbhnppabGreat
open Go.RowKit Go.PlainAid Go.Proofs.YtlebblmlbhnppabGreat.Bt Go.Sort
set_option linter.unusedVariables false
set_option maxRecDepth 20000
set_option maxHeartbeats 4000000 in
theorem filtSess_any (a : Option Addr) (n c : Nat) (xs : List SessV) (gf : Nat) (p0 : Value) (p : SessV → Bool) (w : World) (h : Rw SeR 10 w a xs) (hl : xs.length = n) (hn : n ≤ 1048576)
    (eg : ∀ args w, (callFunc gf args).run Tryz.prog w = .ok (.enter gf args) w)
    (hg : ∀ z, z ∈ xs → ∀ W, Below w.heap.size w W → Calls Tryz.prog gf #[.agg #[.int .i64 z.id, .int .i64 z.us, .string z.mc, .int .i64 z.ip, .int .i64 z.be, .int .i64 z.la, .int .i64 z.ud, .int .i64 z.qu, .int .i64 z.un, .int .i64 z.il], p0] W fun e w' => e = .returned (.bool (p z)) ∧ Below W.heap.size W w') :
    Calls Tryz.prog 31 #[.slice a n c, .func (.func gf) #[] #[p0]] w fun e w' => ∃ v, e = .returned v ∧ OwnS svG 10 70 w' w.heap.size v (xs.filter p) ∧ Below w.heap.size w w' := by
  have RW : Hid (Rw SeR 10 w a xs) := h
  have HC : Hid (∀ z, z ∈ xs → ∀ W, Below w.heap.size w W → Calls Tryz.prog gf #[.agg #[.int .i64 z.id, .int .i64 z.us, .string z.mc, .int .i64 z.ip, .int .i64 z.be, .int .i64 z.la, .int .i64 z.ud, .int .i64 z.qu, .int .i64 z.un, .int .i64 z.il], p0] W fun e w' => e = .returned (.bool (p z)) ∧ Below W.heap.size W w') := hg
  clear h hg
  have O0 : Hid (OwnS svG 10 70 w w.heap.size (.slice none 0 0) ([] : List SessV) ∧ Below w.heap.size w w) := ⟨OwnS.nil w _, Below.refl _ _⟩
  go_enter Tryz.func31, Tryz.ntmps31
  go_wp2
  go_loopw [5, 10] (fun v u wr => ∃ k : Nat, k ≤ n ∧ u = .int .i64 k ∧ Hid (OwnS svG 10 70 wr w.heap.size v ((xs.take k).filter p) ∧ Below w.heap.size w wr)) (fun _ u _ => n - (intOf u).toNat)
  case atStart => exact ⟨0, Nat.zero_le _, rfl, O0⟩
  case round =>
    obtain ⟨k, hk, rfl, X⟩ := hrel
    clear O0
    by_cases hlt : k < n
    · obtain ⟨z, hx⟩ := at_of hl hlt
      have hltz : (k : Int) < (n : Int) := by omega
      obtain ⟨b, off, vs, rfl, hb, hvl, hR, hc⟩ := RW.out.at SeR.kp X.out.2 hx
      have HY : Hid (p z = true → (xs.take (k + 1)).filter p = (xs.take k).filter p ++ [z]) := fun h => flt_yes hx h
      have HN : Hid (p z = false → (xs.take (k + 1)).filter p = (xs.take k).filter p) := fun h => flt_no hx h
      have hwl : Hid (((xs.take k).filter p).length ≤ 1048576) := Nat.le_trans (flt_len p xs k) (by omega)
      have HCx : Hid (∀ (W : World), Below w.heap.size w W → Calls Tryz.prog gf #[.agg #[.int .i64 z.id, .int .i64 z.us, .string z.mc, .int .i64 z.ip, .int .i64 z.be, .int .i64 z.la, .int .i64 z.ud, .int .i64 z.qu, .int .i64 z.un, .int .i64 z.il], p0] W fun e w' => e = .returned (.bool (p z)) ∧ Below W.heap.size W w') := fun W hW => HC.out z (List.mem_of_getElem? hx) W hW
      obtain ⟨rfl, -⟩ := hR
      have q0 : wr.cell? ⟨b, off + k * 10, none⟩ = some (.int .i64 z.id) := hc 0 _ rfl
      have q1 : wr.cell? ⟨b, off + k * 10 + 1, none⟩ = some (.int .i64 z.us) := hc 1 _ rfl
      have q2 : wr.cell? ⟨b, off + k * 10 + 2, none⟩ = some (.string z.mc) := hc 2 _ rfl
      have q3 : wr.cell? ⟨b, off + k * 10 + 3, none⟩ = some (.int .i64 z.ip) := hc 3 _ rfl
      have q4 : wr.cell? ⟨b, off + k * 10 + 4, none⟩ = some (.int .i64 z.be) := hc 4 _ rfl
      have q5 : wr.cell? ⟨b, off + k * 10 + 5, none⟩ = some (.int .i64 z.la) := hc 5 _ rfl
      have q6 : wr.cell? ⟨b, off + k * 10 + 6, none⟩ = some (.int .i64 z.ud) := hc 6 _ rfl
      have q7 : wr.cell? ⟨b, off + k * 10 + 7, none⟩ = some (.int .i64 z.qu) := hc 7 _ rfl
      have q8 : wr.cell? ⟨b, off + k * 10 + 8, none⟩ = some (.int .i64 z.un) := hc 8 _ rfl
      have q9 : wr.cell? ⟨b, off + k * 10 + 9, none⟩ = some (.int .i64 z.il) := hc 9 _ rfl
      generalize (xs.take k).filter p = Lk at X HY HN hwl
      generalize p z = t at HY HN HCx
      clear hc hvl hx
      have hwsz : w.heap.size ≤ wr.heap.size := X.out.2.size
      have B1 : Hid (Below w.heap.size w (wr.alloc (.cells #[.int .i64 z.id, .int .i64 z.us, .string z.mc, .int .i64 z.ip, .int .i64 z.be, .int .i64 z.la, .int .i64 z.ud, .int .i64 z.qu, .int .i64 z.un, .int .i64 z.il] 70))) := X.out.2.alloc X.out.2.size _
      cases t with
      | false =>
        have HN' : Hid ((xs.take (k + 1)).filter p = Lk) := HN.out rfl
        clear HY HN
        go_wp2_with (go_at_fn gf; refine (HCx.out _ B1.out).mono ?_; rintro e w2 ⟨rfl, g2⟩)
        have X2 : Hid (OwnS svG 10 70 w2 w.heap.size u5 ((xs.take (k + 1)).filter p) ∧ Below w.heap.size w w2) := ⟨by rw [HN'.out]; exact (X.out.1.now ((Below.refl _ _).alloc (Nat.le_refl _) _)).now g2, B1.out.trans (g2.mono B1.out.size)⟩
        clear X g2 B1 HCx HN' q0 q1 q2 q3 q4 q5 q6 q7 q8 q9 hwsz
        go_roundw
        case rel => exact ⟨k + 1, by omega, by go_num, X2⟩
        case measure => simp [intOf]; omega
      | true =>
        have HY' : Hid ((xs.take (k + 1)).filter p = Lk ++ [z]) := HY.out rfl
        clear HY HN
        go_wp2_with (first | (go_at_fn gf; refine (HCx.out _ B1.out).mono ?_; rintro e w2 ⟨rfl, g2⟩; have t0 : w2.cell? ⟨wr.heap.size, 0, none⟩ = some (.int .i64 z.id) := bkeep g2 (by simp); have t1 : w2.cell? ⟨wr.heap.size, 1, none⟩ = some (.int .i64 z.us) := bkeep g2 (by simp); have t2 : w2.cell? ⟨wr.heap.size, 2, none⟩ = some (.string z.mc) := bkeep g2 (by simp); have t3 : w2.cell? ⟨wr.heap.size, 3, none⟩ = some (.int .i64 z.ip) := bkeep g2 (by simp); have t4 : w2.cell? ⟨wr.heap.size, 4, none⟩ = some (.int .i64 z.be) := bkeep g2 (by simp); have t5 : w2.cell? ⟨wr.heap.size, 5, none⟩ = some (.int .i64 z.la) := bkeep g2 (by simp); have t6 : w2.cell? ⟨wr.heap.size, 6, none⟩ = some (.int .i64 z.ud) := bkeep g2 (by simp); have t7 : w2.cell? ⟨wr.heap.size, 7, none⟩ = some (.int .i64 z.qu) := bkeep g2 (by simp); have t8 : w2.cell? ⟨wr.heap.size, 8, none⟩ = some (.int .i64 z.un) := bkeep g2 (by simp); have t9 : w2.cell? ⟨wr.heap.size, 9, none⟩ = some (.int .i64 z.il) := bkeep g2 (by simp)) | (at_builtin; refine wpl_Session _ rfl (.tmp 17) (.tmp 19) rfl w.heap.size u5 Lk [z] rfl (((X.out.1.now ((Below.refl _ _).alloc (Nat.le_refl _) (.cells #[.int .i64 z.id, .int .i64 z.us, .string z.mc, .int .i64 z.ip, .int .i64 z.be, .int .i64 z.la, .int .i64 z.ud, .int .i64 z.qu, .int .i64 z.un, .int .i64 z.il] 70))).now g2).now ((Below.refl _ _).alloc (Nat.le_refl _) (.cells #[.int .i64 z.id, .int .i64 z.us, .string z.mc, .int .i64 z.ip, .int .i64 z.be, .int .i64 z.la, .int .i64 z.ud, .int .i64 z.qu, .int .i64 z.un, .int .i64 z.il] 70))) w2.heap.size 0 1 1 rfl rfl (one_newB svG w2 #[.int .i64 z.id, .int .i64 z.us, .string z.mc, .int .i64 z.ip, .int .i64 z.be, .int .i64 z.la, .int .i64 z.ud, .int .i64 z.qu, .int .i64 z.un, .int .i64 z.il] 70 z rfl) (by have := hwl.out; simp; omega) (by have := g2.size; simp at *; omega) ?_; intro v' w8 Y gY))
        have b3 : Below w.heap.size w (w2.alloc (.cells #[.int .i64 z.id, .int .i64 z.us, .string z.mc, .int .i64 z.ip, .int .i64 z.be, .int .i64 z.la, .int .i64 z.ud, .int .i64 z.qu, .int .i64 z.un, .int .i64 z.il] 70)) := (B1.out.trans (g2.mono B1.out.size)).alloc (by have := g2.size; simp at *; omega) _
        have hlt8 : ∀ q, u5.ownBlock = some q → w.heap.size ≤ q := fun q hq => (X.out.1.lt q hq).1
        have X2 : Hid (OwnS svG 10 70 w8 w.heap.size v' ((xs.take (k + 1)).filter p) ∧ Below w.heap.size w w8) := ⟨by rw [HY'.out]; exact Y.out.1, b3.grown gY b3.size (fun q hq => by have := hlt8 q hq; omega)⟩
        clear X g2 HY' Y gY b3 hlt8 B1 HCx q0 q1 q2 q3 q4 q5 q6 q7 q8 q9 t0 t1 t2 t3 t4 t5 t6 t7 t8 t9 hwsz
        go_roundw
        case rel => exact ⟨k + 1, by omega, by go_num, X2⟩
        case measure => simp [intOf]; omega
    · obtain rfl : k = n := by omega
      have E : Hid ((xs.take k).filter p = xs.filter p) := flt_all hl
      go_wp2
      go_ret
      exact ⟨_, rfl, by rw [← E.out]; exact X.out.1, X.out.2⟩
end Go.Proofs.YtlebblmlbhnppabGreat
