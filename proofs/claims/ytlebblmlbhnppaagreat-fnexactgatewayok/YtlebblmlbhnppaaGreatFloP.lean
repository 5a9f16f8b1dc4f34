/- Flows that are right, found by their ends: pure. -/
import Derived.Test.YtlebblmlbhnppaaGreatFlV
import Derived.Test.YtlebblmlbhnppaaGreatMapK
import Derived.Test.YtlebblmlbhnppaaGreatTests
namespace Go.Proofs.YtlebblmlbhnppaaGreat
open Go.RowKit Go.PlainAid
set_option linter.unusedVariables false

def enOf (f : FlowV) : EnV := ⟨f.pr, f.si, f.sp, f.di, f.dp⟩
theorem enOf_ok {f : FlowV} (h : FlRok f) : EnOk (enOf f) := ⟨h.1, h.2.2.1, h.2.2.2.1, h.2.2.2.2.1, h.2.2.2.2.2.1⟩
theorem enT_enT (e : EnV) : enT (enT e) = e := rfl
def enB (e f : EnV) : Bool := e.pr == f.pr && (e.ai == f.ai && (e.ap == f.ap && (e.bi == f.bi && e.bp == f.bp)))
theorem enB_iff (e f : EnV) : enB e f = true ↔ e = f := by
  obtain ⟨a, b, c, d, x⟩ := e
  obtain ⟨a', b', c', d', x'⟩ := f
  simp [enB]
theorem enB_no {e f : EnV} (h : e ≠ f) : enB e f = false := by
  cases hb : enB e f with
  | false => rfl
  | true => exact absurd ((enB_iff e f).1 hb) h
theorem enB_yes {e f : EnV} (h : e = f) : enB e f = true := (enB_iff e f).2 h
/-- A right flow. -/
def flB (f : FlowV) : Bool := dec (0 ≤ f.pr ∧ f.pr ≤ 255) && (dec (f.mc.size = 6) && (dec (0 ≤ f.si ∧ f.si ≤ 4294967295) && (dec (0 ≤ f.di ∧ f.di ≤ 4294967295) && (dec (0 ≤ f.sp ∧ f.sp ≤ 65535) && (dec (0 ≤ f.dp ∧ f.dp ≤ 65535) && (dec (1 ≤ f.st ∧ f.st ≤ 3) && (dec (0 ≤ f.un ∧ f.un ≤ 100100) && dec (0 ≤ f.ow ∧ f.ow ≤ 10000))))))))
/-- Ends that may be asked for. -/
def enR (e : EnV) : Bool := dec (0 ≤ e.pr ∧ e.pr ≤ 255) && ((dec (0 ≤ e.ai ∧ e.ai ≤ 4294967295) && dec (0 ≤ e.ap ∧ e.ap ≤ 65535)) && (dec (0 ≤ e.bi ∧ e.bi ≤ 4294967295) && dec (0 ≤ e.bp ∧ e.bp ≤ 65535)))
/-- None of those ahead of k has these ends. -/
def apAt (fs : List FlowV) (k : Nat) (e : EnV) : Prop := ∀ j g, j < k → fs[j]? = some g → enOf g ≠ e ∧ enOf g ≠ enT e
def apOk (fs : List FlowV) (k : Nat) : Prop := ∀ i f, i < k → fs[i]? = some f → apAt fs i (enOf f)
def alOk (fs : List FlowV) (k : Nat) : Prop := ∀ i f, i < k → fs[i]? = some f → flB f = true
theorem apAt_zero (fs : List FlowV) (e : EnV) : apAt fs 0 e := fun j g hj => absurd hj (by omega)
theorem apAt_step {fs : List FlowV} {k : Nat} {e : EnV} {g : FlowV} (h : apAt fs k e) (hg : fs[k]? = some g) (h1 : enOf g ≠ e) (h2 : enOf g ≠ enT e) : apAt fs (k + 1) e := by
  intro j x hj hx
  by_cases hjk : j < k
  · exact h j x hjk hx
  · obtain rfl : j = k := by omega
    rw [hg] at hx
    cases hx
    exact ⟨h1, h2⟩
theorem apOk_zero (fs : List FlowV) : apOk fs 0 := fun i f hi => absurd hi (by omega)
theorem alOk_zero (fs : List FlowV) : alOk fs 0 := fun i f hi => absurd hi (by omega)
theorem apOk_step {fs : List FlowV} {k : Nat} {f : FlowV} (h : apOk fs k) (hf : fs[k]? = some f) (h1 : apAt fs k (enOf f)) : apOk fs (k + 1) := by
  intro j x hj hx
  by_cases hjk : j < k
  · exact h j x hjk hx
  · obtain rfl : j = k := by omega
    rw [hf] at hx
    cases hx
    exact h1
theorem alOk_step {fs : List FlowV} {k : Nat} {f : FlowV} (h : alOk fs k) (hf : fs[k]? = some f) (h1 : flB f = true) : alOk fs (k + 1) := by
  intro j x hj hx
  by_cases hjk : j < k
  · exact h j x hjk hx
  · obtain rfl : j = k := by omega
    rw [hf] at hx
    cases hx
    exact h1
noncomputable def apB (fs : List FlowV) : Bool := @decide (apOk fs fs.length) (Classical.propDecidable _)
noncomputable def foB (fs : List FlowV) : Bool := @decide (fs.length ≤ 8 ∧ alOk fs fs.length ∧ apOk fs fs.length) (Classical.propDecidable _)
theorem apB_yes {fs : List FlowV} (h : apOk fs fs.length) : apB fs = true := @decide_eq_true _ (Classical.propDecidable _) h
theorem apB_no {fs : List FlowV} (h : ¬ apOk fs fs.length) : apB fs = false := @decide_eq_false _ (Classical.propDecidable _) h
theorem foB_yes {fs : List FlowV} (h : fs.length ≤ 8) (h1 : alOk fs fs.length) (h2 : apOk fs fs.length) : foB fs = true := @decide_eq_true _ (Classical.propDecidable _) ⟨h, h1, h2⟩
theorem foB_no {fs : List FlowV} (h : ¬ (fs.length ≤ 8 ∧ alOk fs fs.length ∧ apOk fs fs.length)) : foB fs = false := @decide_eq_false _ (Classical.propDecidable _) h
theorem foB_says {fs : List FlowV} (h : foB fs = true) : fs.length ≤ 8 ∧ alOk fs fs.length ∧ apOk fs fs.length := @of_decide_eq_true _ (Classical.propDecidable _) h
theorem foB_ap {fs : List FlowV} (h : fs.length ≤ 8) (h1 : alOk fs fs.length) : foB fs = apB fs := by
  by_cases h2 : apOk fs fs.length
  · rw [foB_yes h h1 h2, apB_yes h2]
  · rw [foB_no (fun x => h2 x.2.2), apB_no h2]
theorem lt_at {fs : List FlowV} {k : Nat} {f : FlowV} (h : fs[k]? = some f) : k < fs.length := (List.getElem?_eq_some_iff.1 h).1
theorem foB_al {fs : List FlowV} {k : Nat} {f : FlowV} (hf : fs[k]? = some f) (h : flB f = false) : foB fs = false := foB_no (fun x => by have := x.2.1 k f (lt_at hf) hf; rw [h] at this; cases this)
theorem foB_at {fs : List FlowV} {k j : Nat} {f g : FlowV} (hf : fs[k]? = some f) (hj : j < k) (hg : fs[j]? = some g) (h : enOf g = enOf f ∨ enOf g = enT (enOf f)) : foB fs = false :=
  foB_no (fun x => by
    have := x.2.2 k f (lt_at hf) hf j g hj hg
    rcases h with h | h
    · exact this.1 h
    · exact this.2 h)
theorem foB_long {fs : List FlowV} (h : 8 < fs.length) : foB fs = false := foB_no (fun x => by omega)

/-- The places of the first k by their ends. -/
def plM (fs : List FlowV) : Nat → EnV → Option Int
  | 0 => fun _ => none
  | k + 1 => match fs[k]? with
    | some f => upM (plM fs k) (enOf f) (some (k : Int))
    | none => plM fs k
theorem plM_step {fs : List FlowV} {k : Nat} {f : FlowV} (hf : fs[k]? = some f) : plM fs (k + 1) = upM (plM fs k) (enOf f) (some (k : Int)) := by
  rw [plM, hf]
theorem plM_none {fs : List FlowV} {e : EnV} : ∀ {k : Nat}, plM fs k e = none → ∀ j g, j < k → fs[j]? = some g → enOf g ≠ e
  | 0, _, j, g, hj, _ => absurd hj (by omega)
  | k + 1, h, j, g, hj, hg => by
    rw [plM] at h
    cases hk : fs[k]? with
    | none =>
      rw [hk] at h
      by_cases hjk : j < k
      · exact plM_none h j g hjk hg
      · obtain rfl : j = k := by omega
        rw [hk] at hg; cases hg
    | some f =>
      rw [hk] at h
      simp only [upM] at h
      split at h
      · cases h
      · rename_i hne
        by_cases hjk : j < k
        · exact plM_none h j g hjk hg
        · obtain rfl : j = k := by omega
          rw [hk] at hg; cases hg
          exact fun e => hne e.symm
theorem plM_some {fs : List FlowV} {e : EnV} {v : Int} : ∀ {k : Nat}, plM fs k e = some v → ∃ j g, j < k ∧ fs[j]? = some g ∧ enOf g = e ∧ v = (j : Int)
  | 0, h => by cases h
  | k + 1, h => by
    rw [plM] at h
    cases hk : fs[k]? with
    | none =>
      rw [hk] at h
      obtain ⟨j, g, h1, h2⟩ := plM_some h
      exact ⟨j, g, by omega, h2⟩
    | some f =>
      rw [hk] at h
      simp only [upM] at h
      split at h
      · rename_i he
        cases h
        exact ⟨k, f, by omega, hk, he.symm, rfl⟩
      · obtain ⟨j, g, h1, h2⟩ := plM_some h
        exact ⟨j, g, by omega, h2⟩
theorem plM_is {fs : List FlowV} (hap : apOk fs fs.length) {j : Nat} {g : FlowV} (hg : fs[j]? = some g) {k : Nat} (hk : k ≤ fs.length) (hj : j < k) : plM fs k (enOf g) = some (j : Int) := by
  cases h : plM fs k (enOf g) with
  | none => exact absurd rfl (plM_none h j g hj hg)
  | some v =>
    obtain ⟨i, f, hi, hf, he, rfl⟩ := plM_some h
    by_cases h1 : i < j
    · exact absurd he (hap j g (lt_at hg) hg i f h1 hf).1
    · by_cases h2 : j < i
      · exact absurd he.symm (hap i f (lt_at hf) hf j g h2 hg).1
      · obtain rfl : i = j := by omega
        rfl
theorem plM_wf {fs : List FlowV} {e : EnV} {v : Int} {k : Nat} (h : plM fs k e = some v) (hk : k ≤ 4096) : 0 ≤ v ∧ v < 4096 := by
  obtain ⟨j, g, h1, h2, h3, rfl⟩ := plM_some h
  omega
/-- What a map says of ends: the place, whether turned round, whether there. -/
def fkK (M : EnV → Option Int) (e : EnV) : Int := if (M e).isSome then (M e).getD 0 else (M (enT e)).getD 0
def fkB (M : EnV → Option Int) (e : EnV) : Bool := if (M e).isSome then false else (M (enT e)).isSome
def fkT (M : EnV → Option Int) (e : EnV) : Bool := (M e).isSome || (M (enT e)).isSome
theorem fk_none {fs : List FlowV} {e : EnV} {k : Nat} (h : apAt fs k e) : fkT (plM fs k) e = false := by
  unfold fkT
  cases h1 : plM fs k e with
  | some v =>
    obtain ⟨j, g, hj, hg, he, _⟩ := plM_some h1
    exact absurd he (h j g hj hg).1
  | none =>
    cases h2 : plM fs k (enT e) with
    | some v =>
      obtain ⟨j, g, hj, hg, he, _⟩ := plM_some h2
      exact absurd he (h j g hj hg).2
    | none => rfl
theorem fk_there {fs : List FlowV} {e : EnV} {k : Nat} (h : fkT (plM fs k) e = false) : apAt fs k e := by
  unfold fkT at h
  simp at h
  intro j g hj hg
  exact ⟨plM_none h.1 j g hj hg, plM_none h.2 j g hj hg⟩
/-- The first that has these ends this way. -/
theorem fk_this {fs : List FlowV} (hap : apOk fs fs.length) {e : EnV} {i : Nat} {f : FlowV} (hf : fs[i]? = some f) (he : enOf f = e) : fkT (plM fs fs.length) e = true ∧ fkB (plM fs fs.length) e = false ∧ fkK (plM fs fs.length) e = (i : Int) := by
  have := plM_is hap hf (Nat.le_refl _) (lt_at hf)
  rw [he] at this
  unfold fkT fkB fkK
  rw [this]
  simp
theorem fk_back {fs : List FlowV} (hap : apOk fs fs.length) {e : EnV} {i : Nat} {f : FlowV} (hf : fs[i]? = some f) (he : enOf f = enT e) (hne : enOf f ≠ e) (hno : ∀ j g, j < i → fs[j]? = some g → enOf g ≠ e) : fkT (plM fs fs.length) e = true ∧ fkB (plM fs fs.length) e = true ∧ fkK (plM fs fs.length) e = (i : Int) := by
  have h1 := plM_is hap hf (Nat.le_refl _) (lt_at hf)
  rw [he] at h1
  have h2 : plM fs fs.length e = none := by
    cases h : plM fs fs.length e with
    | none => rfl
    | some v =>
      obtain ⟨j, g, hj, hg, hge, _⟩ := plM_some h
      by_cases hji : j < i
      · exact absurd hge (hno j g hji hg)
      · by_cases hij : i < j
        · exact absurd (by rw [hge]; exact he) (hap j g hj hg i f hij hf).2
        · obtain rfl : i = j := by omega
          rw [hf] at hg; cases hg
          exact absurd hge hne
  unfold fkT fkB fkK
  rw [h1, h2]
  simp
end Go.Proofs.YtlebblmlbhnppaaGreat
