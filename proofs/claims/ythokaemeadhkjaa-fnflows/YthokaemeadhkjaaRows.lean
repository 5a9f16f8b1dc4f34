/-
  No cell of these rows narrows 'for every input' (looked for: loops, veiled, ifaces, maps, wideKeys, modest, calm, conditions, laid).
  DERIVED. THE GIVEN ROWS OF THIS SEAT. 6 by the template 'for every input the law returns true; each argument reads behind the call as it read before'; 0 by the template 'total and deterministic' (their statements: YthokaemeadhkjaaTotals.lean).
  GIVEN WITH THE SEED: the statements are not yours to turn. If you find one false, say at which input.
  Laid BY PROGRAM, IN A SANDBOX (cutbox-rows.mjs): the forced cells as the released guide's own fill.sh prints them over the translation 5a392be6569350a2… (all of the seat's roots in one cut). By AI agents, Wed Nov 11 2026. No macro, syntax, notation, axiom, sorry.
-/
import Derived.Test.YthokaemeadhkjaaChecked
import GoSem.Claim
import GoSem.ClaimJoined
import GoSem.ClaimMapViews
import Derived.JoinedTies
import Derived.KernelRfl
namespace Go.Proofs.Ythokaemeadhkjaa
/- THE CELL 'sum', in the pinned program and in every row, IS THE sha256 OF THE DUMP (.gsa) THAT YthokaemeadhkjaaProg.lean LOADS. Nothing in Lean hashes anything: it is a label: what it is worth is what the hold of that sum in a sandbox is worth. -/
noncomputable def Try.pinned : Pinned := { name := "ythokaemeadhkjaa", sum := "5a392be6569350a2e364f6384aaf924274343a8d297d0740048702dc8172ca02", checked := Try.checked }
namespace Rows
def none {H : Type} : Left H := { results := [], args := [] }

/-- 'laws.FnFlows': WHATEVER THE INPUT: true; the input reads as it did. -/
def fnFlowsSpec : ChangeSpec := { name := "fnFlows", fn := fun _ => fun
  | [d1, d2] => { results := [.lit (.bool true)], args := [d1, d2] }
  | _ => none }
def fnFlowsRow : OpenClaim := { program := "ythokaemeadhkjaa", sum := "5a392be6569350a2e364f6384aaf924274343a8d297d0740048702dc8172ca02", func := "loop.example/g00356/laws.FnFlows", spec := "fnFlows", unfollowed := true, recurses := true, plainKeys := false, apart := false }
def FnFlowsSaid : Prop := fnFlowsRow.holds Try.pinned (OpenSpec.ofChange fnFlowsSpec)

/-- ITS FALSE NEIGHBOUR: 'it returns false'. Refute it at one input. -/
def fnFlowsWrong : ChangeSpec := { name := "fnFlows", fn := fun _ => fun
  | [d1, d2] => { results := [.lit (.bool false)], args := [d1, d2] }
  | _ => none }
def FnFlowsWrongFalsely : Prop := fnFlowsRow.holds Try.pinned (OpenSpec.ofChange fnFlowsWrong)

/-- 'laws.FnPasses': WHATEVER THE INPUT: true; the input reads as it did. -/
def fnPassesSpec : ChangeSpec := { name := "fnPasses", fn := fun _ => fun
  | [d1, d2] => { results := [.lit (.bool true)], args := [d1, d2] }
  | _ => none }
def fnPassesRow : OpenClaim := { program := "ythokaemeadhkjaa", sum := "5a392be6569350a2e364f6384aaf924274343a8d297d0740048702dc8172ca02", func := "loop.example/g00356/laws.FnPasses", spec := "fnPasses", unfollowed := true, recurses := true, plainKeys := false, apart := false }
def FnPassesSaid : Prop := fnPassesRow.holds Try.pinned (OpenSpec.ofChange fnPassesSpec)

/-- ITS FALSE NEIGHBOUR: 'it returns false'. Refute it at one input. -/
def fnPassesWrong : ChangeSpec := { name := "fnPasses", fn := fun _ => fun
  | [d1, d2] => { results := [.lit (.bool false)], args := [d1, d2] }
  | _ => none }
def FnPassesWrongFalsely : Prop := fnPassesRow.holds Try.pinned (OpenSpec.ofChange fnPassesWrong)

/-- 'laws.FnExactFlowsOK': WHATEVER THE INPUT: true; the input reads as it did. -/
def fnExactFlowsOKSpec : ChangeSpec := { name := "fnExactFlowsOK", fn := fun _ => fun
  | [d] => { results := [.lit (.bool true)], args := [d] }
  | _ => none }
def fnExactFlowsOKRow : OpenClaim := { program := "ythokaemeadhkjaa", sum := "5a392be6569350a2e364f6384aaf924274343a8d297d0740048702dc8172ca02", func := "loop.example/g00356/laws.FnExactFlowsOK", spec := "fnExactFlowsOK", plainKeys := false, apart := false }
def FnExactFlowsOKSaid : Prop := fnExactFlowsOKRow.holds Try.pinned (OpenSpec.ofChange fnExactFlowsOKSpec)

/-- ITS FALSE NEIGHBOUR: 'it returns false'. Refute it at one input. -/
def fnExactFlowsOKWrong : ChangeSpec := { name := "fnExactFlowsOK", fn := fun _ => fun
  | [d] => { results := [.lit (.bool false)], args := [d] }
  | _ => none }
def FnExactFlowsOKWrongFalsely : Prop := fnExactFlowsOKRow.holds Try.pinned (OpenSpec.ofChange fnExactFlowsOKWrong)

/-- 'laws.FnExactFlowFind': WHATEVER THE INPUT: true; the input reads as it did. -/
def fnExactFlowFindSpec : ChangeSpec := { name := "fnExactFlowFind", fn := fun _ => fun
  | [d1, d2, d3, d4, d5, d6] => { results := [.lit (.bool true)], args := [d1, d2, d3, d4, d5, d6] }
  | _ => none }
def fnExactFlowFindRow : OpenClaim := { program := "ythokaemeadhkjaa", sum := "5a392be6569350a2e364f6384aaf924274343a8d297d0740048702dc8172ca02", func := "loop.example/g00356/laws.FnExactFlowFind", spec := "fnExactFlowFind", plainKeys := false, apart := false }
def FnExactFlowFindSaid : Prop := fnExactFlowFindRow.holds Try.pinned (OpenSpec.ofChange fnExactFlowFindSpec)

/-- ITS FALSE NEIGHBOUR: 'it returns false'. Refute it at one input. -/
def fnExactFlowFindWrong : ChangeSpec := { name := "fnExactFlowFind", fn := fun _ => fun
  | [d1, d2, d3, d4, d5, d6] => { results := [.lit (.bool false)], args := [d1, d2, d3, d4, d5, d6] }
  | _ => none }
def FnExactFlowFindWrongFalsely : Prop := fnExactFlowFindRow.holds Try.pinned (OpenSpec.ofChange fnExactFlowFindWrong)

/-- 'laws.FnExactFlowOpen': WHATEVER THE INPUT: true; the input reads as it did. -/
def fnExactFlowOpenSpec : ChangeSpec := { name := "fnExactFlowOpen", fn := fun _ => fun
  | [d1, d2, d3] => { results := [.lit (.bool true)], args := [d1, d2, d3] }
  | _ => none }
def fnExactFlowOpenRow : OpenClaim := { program := "ythokaemeadhkjaa", sum := "5a392be6569350a2e364f6384aaf924274343a8d297d0740048702dc8172ca02", func := "loop.example/g00356/laws.FnExactFlowOpen", spec := "fnExactFlowOpen", plainKeys := false, apart := false }
def FnExactFlowOpenSaid : Prop := fnExactFlowOpenRow.holds Try.pinned (OpenSpec.ofChange fnExactFlowOpenSpec)

/-- ITS FALSE NEIGHBOUR: 'it returns false'. Refute it at one input. -/
def fnExactFlowOpenWrong : ChangeSpec := { name := "fnExactFlowOpen", fn := fun _ => fun
  | [d1, d2, d3] => { results := [.lit (.bool false)], args := [d1, d2, d3] }
  | _ => none }
def FnExactFlowOpenWrongFalsely : Prop := fnExactFlowOpenRow.holds Try.pinned (OpenSpec.ofChange fnExactFlowOpenWrong)

/-- 'laws.FnExactFlowPass': WHATEVER THE INPUT: true; the input reads as it did. -/
def fnExactFlowPassSpec : ChangeSpec := { name := "fnExactFlowPass", fn := fun _ => fun
  | [d1, d2, d3, d4, d5] => { results := [.lit (.bool true)], args := [d1, d2, d3, d4, d5] }
  | _ => none }
def fnExactFlowPassRow : OpenClaim := { program := "ythokaemeadhkjaa", sum := "5a392be6569350a2e364f6384aaf924274343a8d297d0740048702dc8172ca02", func := "loop.example/g00356/laws.FnExactFlowPass", spec := "fnExactFlowPass", unfollowed := true, recurses := true, plainKeys := false, apart := false }
def FnExactFlowPassSaid : Prop := fnExactFlowPassRow.holds Try.pinned (OpenSpec.ofChange fnExactFlowPassSpec)

/-- ITS FALSE NEIGHBOUR: 'it returns false'. Refute it at one input. -/
def fnExactFlowPassWrong : ChangeSpec := { name := "fnExactFlowPass", fn := fun _ => fun
  | [d1, d2, d3, d4, d5] => { results := [.lit (.bool false)], args := [d1, d2, d3, d4, d5] }
  | _ => none }
def FnExactFlowPassWrongFalsely : Prop := fnExactFlowPassRow.holds Try.pinned (OpenSpec.ofChange fnExactFlowPassWrong)

/- THE SECOND FORM. 'bulk': how many values and letters a reading holds, each counted each time it is reached (what is shared counts as often as it is met; a slice's spare places count too). A statement '..UptoSaid' is the law's where the arguments, and the package variables that the reading takes, are together of bulk at most 1048576: NARROWER than '..Said'. Prove '..Said' where nothing that the law and all that it calls make is longer than what came in: it says more and counts as full. Else prove '..UptoSaid'. A law counts once. -/
mutual
def uptoBulk {H : Type} : DataW H → Nat
  | .lit (.string bytes) => bytes.length + 1
  | .lit _ => 1
  | .nil => 1
  | .ptr d => uptoBulk d + 1
  | .slice elems spare => uptoBulkAll elems + uptoBulkAll spare + 1
  | .agg parts => uptoBulkAll parts + 1
  | .iface _ d => uptoBulk d + 1
  | .map entries => uptoBulkEntries entries + 1
  | .held _ => 1
def uptoBulkAll {H : Type} : List (DataW H) → Nat
  | [] => 0
  | d :: r => uptoBulk d + uptoBulkAll r
def uptoBulkEntries {H : Type} : List (Lit × DataW H) → Nat
  | [] => 0
  | x :: r => uptoBulkEntry x + uptoBulkEntries r
def uptoBulkEntry {H : Type} : Lit × DataW H → Nat
  | (.string bytes, d) => bytes.length + uptoBulk d + 1
  | (_, d) => uptoBulk d + 1
 end
def uptoSmall : (H : Type) → List (DataW H) → Bool := fun _ ds => decide (uptoBulkAll ds ≤ 1048576)
def OpenSpec.upto (s : _root_.Go.ChangeSpec) : _root_.Go.OpenSpec := { _root_.Go.OpenSpec.ofChange s with cond := some uptoSmall }

/-- 'laws.FnFlows', WHERE WHAT IT READS IS OF BULK AT MOST 1048576: true; the input reads as it did. -/
def fnFlowsUptoRow : OpenClaim := { program := "ythokaemeadhkjaa", sum := "5a392be6569350a2e364f6384aaf924274343a8d297d0740048702dc8172ca02", func := "loop.example/g00356/laws.FnFlows", spec := "fnFlows", unfollowed := true, recurses := true, plainKeys := false, apart := false, narrowed := true }
def FnFlowsUptoSaid : Prop := fnFlowsUptoRow.holds Try.pinned (OpenSpec.upto fnFlowsSpec)

/-- 'laws.FnPasses', WHERE WHAT IT READS IS OF BULK AT MOST 1048576: true; the input reads as it did. -/
def fnPassesUptoRow : OpenClaim := { program := "ythokaemeadhkjaa", sum := "5a392be6569350a2e364f6384aaf924274343a8d297d0740048702dc8172ca02", func := "loop.example/g00356/laws.FnPasses", spec := "fnPasses", unfollowed := true, recurses := true, plainKeys := false, apart := false, narrowed := true }
def FnPassesUptoSaid : Prop := fnPassesUptoRow.holds Try.pinned (OpenSpec.upto fnPassesSpec)

/-- 'laws.FnExactFlowsOK', WHERE WHAT IT READS IS OF BULK AT MOST 1048576: true; the input reads as it did. -/
def fnExactFlowsOKUptoRow : OpenClaim := { program := "ythokaemeadhkjaa", sum := "5a392be6569350a2e364f6384aaf924274343a8d297d0740048702dc8172ca02", func := "loop.example/g00356/laws.FnExactFlowsOK", spec := "fnExactFlowsOK", plainKeys := false, apart := false, narrowed := true }
def FnExactFlowsOKUptoSaid : Prop := fnExactFlowsOKUptoRow.holds Try.pinned (OpenSpec.upto fnExactFlowsOKSpec)

/-- 'laws.FnExactFlowFind', WHERE WHAT IT READS IS OF BULK AT MOST 1048576: true; the input reads as it did. -/
def fnExactFlowFindUptoRow : OpenClaim := { program := "ythokaemeadhkjaa", sum := "5a392be6569350a2e364f6384aaf924274343a8d297d0740048702dc8172ca02", func := "loop.example/g00356/laws.FnExactFlowFind", spec := "fnExactFlowFind", plainKeys := false, apart := false, narrowed := true }
def FnExactFlowFindUptoSaid : Prop := fnExactFlowFindUptoRow.holds Try.pinned (OpenSpec.upto fnExactFlowFindSpec)

/-- 'laws.FnExactFlowOpen', WHERE WHAT IT READS IS OF BULK AT MOST 1048576: true; the input reads as it did. -/
def fnExactFlowOpenUptoRow : OpenClaim := { program := "ythokaemeadhkjaa", sum := "5a392be6569350a2e364f6384aaf924274343a8d297d0740048702dc8172ca02", func := "loop.example/g00356/laws.FnExactFlowOpen", spec := "fnExactFlowOpen", plainKeys := false, apart := false, narrowed := true }
def FnExactFlowOpenUptoSaid : Prop := fnExactFlowOpenUptoRow.holds Try.pinned (OpenSpec.upto fnExactFlowOpenSpec)

/-- 'laws.FnExactFlowPass', WHERE WHAT IT READS IS OF BULK AT MOST 1048576: true; the input reads as it did. -/
def fnExactFlowPassUptoRow : OpenClaim := { program := "ythokaemeadhkjaa", sum := "5a392be6569350a2e364f6384aaf924274343a8d297d0740048702dc8172ca02", func := "loop.example/g00356/laws.FnExactFlowPass", spec := "fnExactFlowPass", unfollowed := true, recurses := true, plainKeys := false, apart := false, narrowed := true }
def FnExactFlowPassUptoSaid : Prop := fnExactFlowPassUptoRow.holds Try.pinned (OpenSpec.upto fnExactFlowPassSpec)

end Rows
end Go.Proofs.Ythokaemeadhkjaa
