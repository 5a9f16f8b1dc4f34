/-
  No cell of these rows narrows 'for every input' (looked for: loops, veiled, ifaces, maps, wideKeys, modest, calm, conditions, laid).
  DERIVED. THE GIVEN ROWS OF THIS SEAT. 6 by the template 'for every input the law returns true; each argument reads behind the call as it read before'; 0 by the template 'total and deterministic' (their statements: YtcgdpijmfgkalabTotals.lean).
  GIVEN WITH THE SEED: the statements are not yours to turn. If you find one false, say at which input.
  Laid BY PROGRAM, IN A SANDBOX (cutbox-rows.mjs): the forced cells as the released guide's own fill.sh prints them over the translation 3cedf5f785201ad7… (all of the seat's roots in one cut). By AI agents, Wed Nov 11 2026. No macro, syntax, notation, axiom, sorry.
-/
import Derived.Test.YtcgdpijmfgkalabChecked
import GoSem.Claim
import GoSem.ClaimJoined
import GoSem.ClaimMapViews
import Derived.JoinedTies
import Derived.KernelRfl
namespace Go.Proofs.Ytcgdpijmfgkalab
/- THE CELL 'sum', in the pinned program and in every row, IS THE sha256 OF THE DUMP (.gsa) THAT YtcgdpijmfgkalabProg.lean LOADS. Nothing in Lean hashes anything: it is a label: what it is worth is what the hold of that sum in a sandbox is worth. -/
noncomputable def Try.pinned : Pinned := { name := "ytcgdpijmfgkalab", sum := "3cedf5f785201ad74b2af10b72207a5dd56c8a33871fb8cd560fb0f3078da2af", checked := Try.checked }
namespace Rows
def none {H : Type} : Left H := { results := [], args := [] }

/-- 'laws.FnExactDhcpBytes': WHATEVER THE INPUT: true; the input reads as it did. -/
def fnExactDhcpBytesSpec : ChangeSpec := { name := "fnExactDhcpBytes", fn := fun _ => fun
  | [d] => { results := [.lit (.bool true)], args := [d] }
  | _ => none }
def fnExactDhcpBytesRow : OpenClaim := { program := "ytcgdpijmfgkalab", sum := "3cedf5f785201ad74b2af10b72207a5dd56c8a33871fb8cd560fb0f3078da2af", func := "loop.example/g00356/laws.FnExactDhcpBytes", spec := "fnExactDhcpBytes", apart := false }
def FnExactDhcpBytesSaid : Prop := fnExactDhcpBytesRow.holds Try.pinned (OpenSpec.ofChange fnExactDhcpBytesSpec)

/-- ITS FALSE NEIGHBOUR: 'it returns false'. Refute it at one input. -/
def fnExactDhcpBytesWrong : ChangeSpec := { name := "fnExactDhcpBytes", fn := fun _ => fun
  | [d] => { results := [.lit (.bool false)], args := [d] }
  | _ => none }
def FnExactDhcpBytesWrongFalsely : Prop := fnExactDhcpBytesRow.holds Try.pinned (OpenSpec.ofChange fnExactDhcpBytesWrong)

/-- 'laws.FnExactSortWords': WHATEVER THE INPUT: true; the input reads as it did. -/
def fnExactSortWordsSpec : ChangeSpec := { name := "fnExactSortWords", fn := fun _ => fun
  | [d] => { results := [.lit (.bool true)], args := [d] }
  | _ => none }
def fnExactSortWordsRow : OpenClaim := { program := "ytcgdpijmfgkalab", sum := "3cedf5f785201ad74b2af10b72207a5dd56c8a33871fb8cd560fb0f3078da2af", func := "loop.example/g00356/laws.FnExactSortWords", spec := "fnExactSortWords", inPlace := ["math.Float64frombits", "math.Float64bits"], unfollowed := true, recurses := true, apart := false }
def FnExactSortWordsSaid : Prop := fnExactSortWordsRow.holds Try.pinned (OpenSpec.ofChange fnExactSortWordsSpec)

/-- ITS FALSE NEIGHBOUR: 'it returns false'. Refute it at one input. -/
def fnExactSortWordsWrong : ChangeSpec := { name := "fnExactSortWords", fn := fun _ => fun
  | [d] => { results := [.lit (.bool false)], args := [d] }
  | _ => none }
def FnExactSortWordsWrongFalsely : Prop := fnExactSortWordsRow.holds Try.pinned (OpenSpec.ofChange fnExactSortWordsWrong)

/-- 'laws.FnExactRuleOK': WHATEVER THE INPUT: true; the input reads as it did. -/
def fnExactRuleOKSpec : ChangeSpec := { name := "fnExactRuleOK", fn := fun _ => fun
  | [d] => { results := [.lit (.bool true)], args := [d] }
  | _ => none }
def fnExactRuleOKRow : OpenClaim := { program := "ytcgdpijmfgkalab", sum := "3cedf5f785201ad74b2af10b72207a5dd56c8a33871fb8cd560fb0f3078da2af", func := "loop.example/g00356/laws.FnExactRuleOK", spec := "fnExactRuleOK", apart := false }
def FnExactRuleOKSaid : Prop := fnExactRuleOKRow.holds Try.pinned (OpenSpec.ofChange fnExactRuleOKSpec)

/-- ITS FALSE NEIGHBOUR: 'it returns false'. Refute it at one input. -/
def fnExactRuleOKWrong : ChangeSpec := { name := "fnExactRuleOK", fn := fun _ => fun
  | [d] => { results := [.lit (.bool false)], args := [d] }
  | _ => none }
def FnExactRuleOKWrongFalsely : Prop := fnExactRuleOKRow.holds Try.pinned (OpenSpec.ofChange fnExactRuleOKWrong)

/-- 'laws.FnExactRoleOK': WHATEVER THE INPUT: true; the input reads as it did. -/
def fnExactRoleOKSpec : ChangeSpec := { name := "fnExactRoleOK", fn := fun _ => fun
  | [d] => { results := [.lit (.bool true)], args := [d] }
  | _ => none }
def fnExactRoleOKRow : OpenClaim := { program := "ytcgdpijmfgkalab", sum := "3cedf5f785201ad74b2af10b72207a5dd56c8a33871fb8cd560fb0f3078da2af", func := "loop.example/g00356/laws.FnExactRoleOK", spec := "fnExactRoleOK", apart := false }
def FnExactRoleOKSaid : Prop := fnExactRoleOKRow.holds Try.pinned (OpenSpec.ofChange fnExactRoleOKSpec)

/-- ITS FALSE NEIGHBOUR: 'it returns false'. Refute it at one input. -/
def fnExactRoleOKWrong : ChangeSpec := { name := "fnExactRoleOK", fn := fun _ => fun
  | [d] => { results := [.lit (.bool false)], args := [d] }
  | _ => none }
def FnExactRoleOKWrongFalsely : Prop := fnExactRoleOKRow.holds Try.pinned (OpenSpec.ofChange fnExactRoleOKWrong)

/-- 'laws.FnExactConfigOK': WHATEVER THE INPUT: true; the input reads as it did. -/
def fnExactConfigOKSpec : ChangeSpec := { name := "fnExactConfigOK", fn := fun _ => fun
  | [d] => { results := [.lit (.bool true)], args := [d] }
  | _ => none }
def fnExactConfigOKRow : OpenClaim := { program := "ytcgdpijmfgkalab", sum := "3cedf5f785201ad74b2af10b72207a5dd56c8a33871fb8cd560fb0f3078da2af", func := "loop.example/g00356/laws.FnExactConfigOK", spec := "fnExactConfigOK", apart := false }
def FnExactConfigOKSaid : Prop := fnExactConfigOKRow.holds Try.pinned (OpenSpec.ofChange fnExactConfigOKSpec)

/-- ITS FALSE NEIGHBOUR: 'it returns false'. Refute it at one input. -/
def fnExactConfigOKWrong : ChangeSpec := { name := "fnExactConfigOK", fn := fun _ => fun
  | [d] => { results := [.lit (.bool false)], args := [d] }
  | _ => none }
def FnExactConfigOKWrongFalsely : Prop := fnExactConfigOKRow.holds Try.pinned (OpenSpec.ofChange fnExactConfigOKWrong)

/-- 'laws.FnExactFirstRule': WHATEVER THE INPUT: true; the input reads as it did. -/
def fnExactFirstRuleSpec : ChangeSpec := { name := "fnExactFirstRule", fn := fun _ => fun
  | [d1, d2, d3, d4] => { results := [.lit (.bool true)], args := [d1, d2, d3, d4] }
  | _ => none }
def fnExactFirstRuleRow : OpenClaim := { program := "ytcgdpijmfgkalab", sum := "3cedf5f785201ad74b2af10b72207a5dd56c8a33871fb8cd560fb0f3078da2af", func := "loop.example/g00356/laws.FnExactFirstRule", spec := "fnExactFirstRule", apart := false }
def FnExactFirstRuleSaid : Prop := fnExactFirstRuleRow.holds Try.pinned (OpenSpec.ofChange fnExactFirstRuleSpec)

/-- ITS FALSE NEIGHBOUR: 'it returns false'. Refute it at one input. -/
def fnExactFirstRuleWrong : ChangeSpec := { name := "fnExactFirstRule", fn := fun _ => fun
  | [d1, d2, d3, d4] => { results := [.lit (.bool false)], args := [d1, d2, d3, d4] }
  | _ => none }
def FnExactFirstRuleWrongFalsely : Prop := fnExactFirstRuleRow.holds Try.pinned (OpenSpec.ofChange fnExactFirstRuleWrong)

/- THE SECOND FORM. 'bulk': how many values and letters a reading holds, each counted each time it is reached (what is shared counts as often as it is met; a slice's spare places count too). A statement '..UptoSaid' is the law's where the arguments, and the package variables that the reading takes, are together of bulk at most 1048576: NARROWER than '..Said'. Prove '..Said' where nothing that the law and all that it calls make is longer than what came in: it says more and counts as full. Else prove '..UptoSaid'. A law counts once. -/
mutual
def uptoBulk {H : Type} : DataW H → Nat
  | .lit (.string bytes) => bytes.length + 1
  | .lit _ => 1
  | .nil => 1
  | .ptr d => uptoBulk d + 1
  | .slice elems spare => uptoBulkAll elems + uptoBulkAll spare + 1
  | .agg parts => uptoBulkAll parts + 1
  | .iface _ d => uptoBulk d + 1
  | .map entries => uptoBulkEntries entries + 1
  | .held _ => 1
def uptoBulkAll {H : Type} : List (DataW H) → Nat
  | [] => 0
  | d :: r => uptoBulk d + uptoBulkAll r
def uptoBulkEntries {H : Type} : List (Lit × DataW H) → Nat
  | [] => 0
  | x :: r => uptoBulkEntry x + uptoBulkEntries r
def uptoBulkEntry {H : Type} : Lit × DataW H → Nat
  | (.string bytes, d) => bytes.length + uptoBulk d + 1
  | (_, d) => uptoBulk d + 1
 end
def uptoSmall : (H : Type) → List (DataW H) → Bool := fun _ ds => decide (uptoBulkAll ds ≤ 1048576)
def OpenSpec.upto (s : _root_.Go.ChangeSpec) : _root_.Go.OpenSpec := { _root_.Go.OpenSpec.ofChange s with cond := some uptoSmall }

/-- 'laws.FnExactDhcpBytes', WHERE WHAT IT READS IS OF BULK AT MOST 1048576: true; the input reads as it did. -/
def fnExactDhcpBytesUptoRow : OpenClaim := { program := "ytcgdpijmfgkalab", sum := "3cedf5f785201ad74b2af10b72207a5dd56c8a33871fb8cd560fb0f3078da2af", func := "loop.example/g00356/laws.FnExactDhcpBytes", spec := "fnExactDhcpBytes", apart := false, narrowed := true }
def FnExactDhcpBytesUptoSaid : Prop := fnExactDhcpBytesUptoRow.holds Try.pinned (OpenSpec.upto fnExactDhcpBytesSpec)

/-- 'laws.FnExactSortWords', WHERE WHAT IT READS IS OF BULK AT MOST 1048576: true; the input reads as it did. -/
def fnExactSortWordsUptoRow : OpenClaim := { program := "ytcgdpijmfgkalab", sum := "3cedf5f785201ad74b2af10b72207a5dd56c8a33871fb8cd560fb0f3078da2af", func := "loop.example/g00356/laws.FnExactSortWords", spec := "fnExactSortWords", inPlace := ["math.Float64frombits", "math.Float64bits"], unfollowed := true, recurses := true, apart := false, narrowed := true }
def FnExactSortWordsUptoSaid : Prop := fnExactSortWordsUptoRow.holds Try.pinned (OpenSpec.upto fnExactSortWordsSpec)

/-- 'laws.FnExactRuleOK', WHERE WHAT IT READS IS OF BULK AT MOST 1048576: true; the input reads as it did. -/
def fnExactRuleOKUptoRow : OpenClaim := { program := "ytcgdpijmfgkalab", sum := "3cedf5f785201ad74b2af10b72207a5dd56c8a33871fb8cd560fb0f3078da2af", func := "loop.example/g00356/laws.FnExactRuleOK", spec := "fnExactRuleOK", apart := false, narrowed := true }
def FnExactRuleOKUptoSaid : Prop := fnExactRuleOKUptoRow.holds Try.pinned (OpenSpec.upto fnExactRuleOKSpec)

/-- 'laws.FnExactRoleOK', WHERE WHAT IT READS IS OF BULK AT MOST 1048576: true; the input reads as it did. -/
def fnExactRoleOKUptoRow : OpenClaim := { program := "ytcgdpijmfgkalab", sum := "3cedf5f785201ad74b2af10b72207a5dd56c8a33871fb8cd560fb0f3078da2af", func := "loop.example/g00356/laws.FnExactRoleOK", spec := "fnExactRoleOK", apart := false, narrowed := true }
def FnExactRoleOKUptoSaid : Prop := fnExactRoleOKUptoRow.holds Try.pinned (OpenSpec.upto fnExactRoleOKSpec)

/-- 'laws.FnExactConfigOK', WHERE WHAT IT READS IS OF BULK AT MOST 1048576: true; the input reads as it did. -/
def fnExactConfigOKUptoRow : OpenClaim := { program := "ytcgdpijmfgkalab", sum := "3cedf5f785201ad74b2af10b72207a5dd56c8a33871fb8cd560fb0f3078da2af", func := "loop.example/g00356/laws.FnExactConfigOK", spec := "fnExactConfigOK", apart := false, narrowed := true }
def FnExactConfigOKUptoSaid : Prop := fnExactConfigOKUptoRow.holds Try.pinned (OpenSpec.upto fnExactConfigOKSpec)

/-- 'laws.FnExactFirstRule', WHERE WHAT IT READS IS OF BULK AT MOST 1048576: true; the input reads as it did. -/
def fnExactFirstRuleUptoRow : OpenClaim := { program := "ytcgdpijmfgkalab", sum := "3cedf5f785201ad74b2af10b72207a5dd56c8a33871fb8cd560fb0f3078da2af", func := "loop.example/g00356/laws.FnExactFirstRule", spec := "fnExactFirstRule", apart := false, narrowed := true }
def FnExactFirstRuleUptoSaid : Prop := fnExactFirstRuleUptoRow.holds Try.pinned (OpenSpec.upto fnExactFirstRuleSpec)

end Rows
end Go.Proofs.Ytcgdpijmfgkalab
