/- RateWord, both sides. -/
import Derived.Test.YtfcdobicilediabWordT
namespace Go.Proofs.Ytfcdobicilediab
open Go.RowKit Go.PlainAid Go.Proofs.Ytfcdobicilediab.Bt Go.Proofs.Ytfcdobicilediab.Fo Go.Sort
set_option linter.unusedVariables false
set_option maxRecDepth 20000

/-- The text of a rate. -/
def rateS (h l : Int) : ByteArray := if okW h l then (if clW h l = 0 then ⟨#[117, 110, 107, 110, 111, 119, 110]⟩ else if clW h l < 3 then ⟨#[119, 114, 111, 110, 103]⟩ else if clW h l ≤ 4 then ⟨#[105, 100, 108, 101]⟩ else if clW h l = 6 then ⟨#[101, 110, 100, 108, 101, 115, 115]⟩ else if rW h l < 4652007308841189376 then ⟨#[115, 108, 111, 119]⟩ else ⟨#[102, 97, 115, 116]⟩) else ⟨#[]⟩
theorem clW_cases (h l : Int) (hw : okW h l) : (clW h l = 0 ∨ clW h l = 1 ∨ clW h l = 2 ∨ clW h l = 3 ∨ clW h l = 4 ∨ clW h l = 6) ∨ (clW h l = 5 ∧ mW h = false ∧ rW h l < topI) := by
  have := rW_nn hw
  unfold clW clx
  cases mW h <;> simp only [Bool.false_eq_true, if_true, if_false, true_and, false_and, Bool.true_eq_false, and_false] <;> omega

end Go.Proofs.Ytfcdobicilediab
