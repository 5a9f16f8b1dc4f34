/- The model's flows by their ends: l09Find, FlowFind. -/
import Derived.Test.YthokaemeadhkjabFloS
import Derived.Test.YthokaemeadhkjabFloJ
namespace Go.Proofs.Ythokaemeadhkjab
open Go.RowKit Go.PlainAid Go.Proofs.Ythokaemeadhkjab.Bt Go.Sort
set_option linter.unusedVariables false
set_option maxRecDepth 20000

/-- What l09Find answers. -/
def lfK (M : EnV → Option Int) (e : EnV) : Int := if fkT M e = true then fkK M e else -1
theorem lf_this {fs : List FlowV} (hap : apOk fs fs.length) {e : EnV} {i : Nat} {f : FlowV} (hf : fs[i]? = some f) (he : enOf f = e) : lfK (plM fs fs.length) e = (i : Int) ∧ fkB (plM fs fs.length) e = false := by
  obtain ⟨h1, h2, h3⟩ := fk_this hap hf he
  exact ⟨by unfold lfK; rw [if_pos h1, h3], h2⟩
theorem lf_back {fs : List FlowV} (hap : apOk fs fs.length) {e : EnV} {i : Nat} {f : FlowV} (hf : fs[i]? = some f) (he : enOf f = enT e) (hne : enOf f ≠ e) (hno : apAt fs i e) : lfK (plM fs fs.length) e = (i : Int) ∧ fkB (plM fs fs.length) e = true := by
  obtain ⟨h1, h2, h3⟩ := fk_back hap hf he hne (fun j g hj hg => (hno j g hj hg).1)
  exact ⟨by unfold lfK; rw [if_pos h1, h3], h2⟩
theorem lf_none {fs : List FlowV} {e : EnV} (h : apAt fs fs.length e) : lfK (plM fs fs.length) e = -1 ∧ fkB (plM fs fs.length) e = false := by
  have h1 := fk_none h
  refine ⟨by unfold lfK; rw [if_neg (by rw [h1]; simp)], ?_⟩
  unfold fkT at h1
  simp at h1
  unfold fkB
  rw [h1.1, h1.2]
  rfl
theorem fkK_nn (fs : List FlowV) (e : EnV) : 0 ≤ fkK (plM fs fs.length) e := by
  have hn : ∀ e, 0 ≤ (plM fs fs.length e).getD 0 := by
    intro e
    cases h : plM fs fs.length e with
    | none => exact Int.le_refl _
    | some v =>
      obtain ⟨j, g, _, _, _, rfl⟩ := plM_some h
      exact Int.natCast_nonneg j
  unfold fkK
  split
  · exact hn _
  · exact hn _
end Go.Proofs.Ythokaemeadhkjab
