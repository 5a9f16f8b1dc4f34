/- The walks of the laws of ClassOf, OrderOf, RateWord: true at every word. -/
import Derived.Test.YtfcdobicilediacWordR
namespace Go.Proofs.Ytfcdobicilediac
open Go.RowKit Go.PlainAid Go.Proofs.Ytfcdobicilediac.Bt Go.Proofs.Ytfcdobicilediac.Fo Go.Sort
set_option linter.unusedVariables false
set_option maxRecDepth 20000

theorem toWord_any (f0 f1 : Int) (w : World) :
    Calls Try.prog 5 #[.agg #[.int .i64 f0, .int .i64 f1]] w fun e w' => e = .returned (.agg #[.int .i64 f0, .int .i64 f1]) ∧ Below w.heap.size w w' := by
  have h : Calls Try.prog 5 #[.agg #[.int .i64 f0, .int .i64 f1]] w fun e w' => e = .returned (.agg #[.int .i64 f0, .int .i64 f1]) ∧ Grw w w' := by
    go_enter Try.func5, Try.ntmps5
    go_wp2
    (try simp only [Exit.inBlock, Exit.then])
    refine bodyPost_ret (v := .agg #[.int .i64 f0, .int .i64 f1]) (by simp [results, Try.results5, go_sem]; try rfl) rfl ?_
    exact ⟨rfl, (((Grw.refl _).alloc _).alloc _).alloc _⟩
  exact h.mono fun e w' h => ⟨h.1, h.2.below⟩

end Go.Proofs.Ytfcdobicilediac
