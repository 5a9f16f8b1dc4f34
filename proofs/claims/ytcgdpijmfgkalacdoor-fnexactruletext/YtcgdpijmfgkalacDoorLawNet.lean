/- The walks of laws.FnExactNetOK, FnExactNetHas: true at every net and address. -/
import Derived.Test.YtcgdpijmfgkalacDoorNetW
namespace Go.Proofs.YtcgdpijmfgkalacDoor
open Go.RowKit Go.PlainAid Go.Proofs.YtcgdpijmfgkalacDoor.Bt Go.Sort
set_option linter.unusedVariables false
set_option maxRecDepth 20000

theorem toNet_grw (f0 f1 : Int) (w : World) :
    Calls Tryd.prog 24 #[.agg #[.int .i64 f0, .int .i64 f1]] w fun e w' => e = .returned (.agg #[.int .i64 f0, .int .i64 f1]) ∧ Grw w w' := by
  go_enter Tryd.func24, Tryd.ntmps24
  go_wp2
  (try simp only [Exit.inBlock, Exit.then])
  refine bodyPost_ret (v := .agg #[.int .i64 f0, .int .i64 f1]) (by simp [results, Tryd.results24, go_sem]; try rfl) rfl ?_
  exact ⟨rfl, (((Grw.refl _).alloc _).alloc _).alloc _⟩
theorem toNet_any (f0 f1 : Int) (w : World) :
    Calls Tryd.prog 24 #[.agg #[.int .i64 f0, .int .i64 f1]] w fun e w' => e = .returned (.agg #[.int .i64 f0, .int .i64 f1]) ∧ Below w.heap.size w w' :=
  (toNet_grw f0 f1 w).mono fun e w' h => ⟨h.1, h.2.below⟩
end Go.Proofs.YtcgdpijmfgkalacDoor
