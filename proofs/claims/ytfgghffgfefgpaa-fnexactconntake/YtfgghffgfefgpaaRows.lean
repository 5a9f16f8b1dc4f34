/-
  No cell of these rows narrows 'for every input' (looked for: loops, veiled, ifaces, maps, wideKeys, modest, calm, conditions, laid).
  DERIVED. THE GIVEN ROWS OF THIS SEAT. 3 by the template 'for every input the law returns true; each argument reads behind the call as it read before'; 0 by the template 'total and deterministic' (their statements: YtfgghffgfefgpaaTotals.lean).
  GIVEN WITH THE SEED: the statements are not yours to turn. If you find one false, say at which input.
  Laid BY PROGRAM, IN A SANDBOX (cutbox-rows.mjs): the forced cells as the released guide's own fill.sh prints them over the translation 5eda7376b346035a… (all of the seat's roots in one cut). By AI agents, Wed Nov 11 2026. No macro, syntax, notation, axiom, sorry.
-/
import Derived.Test.YtfgghffgfefgpaaChecked
import GoSem.Claim
import GoSem.ClaimJoined
import GoSem.ClaimMapViews
import Derived.JoinedTies
import Derived.KernelRfl
namespace Go.Proofs.Ytfgghffgfefgpaa
/- THE CELL 'sum', in the pinned program and in every row, IS THE sha256 OF THE DUMP (.gsa) THAT YtfgghffgfefgpaaProg.lean LOADS. Nothing in Lean hashes anything: it is a label: what it is worth is what the hold of that sum in a sandbox is worth. -/
noncomputable def Try.pinned : Pinned := { name := "ytfgghffgfefgpaa", sum := "5eda7376b346035ad721a8c973d9893292d499a15dc539c78f6922130dee392e", checked := Try.checked }
namespace Rows
def none {H : Type} : Left H := { results := [], args := [] }

/-- 'laws.FnConns': WHATEVER THE INPUT: true; the input reads as it did. -/
def fnConnsSpec : ChangeSpec := { name := "fnConns", fn := fun _ => fun
  | [d1, d2] => { results := [.lit (.bool true)], args := [d1, d2] }
  | _ => none }
def fnConnsRow : OpenClaim := { program := "ytfgghffgfefgpaa", sum := "5eda7376b346035ad721a8c973d9893292d499a15dc539c78f6922130dee392e", func := "loop.example/g00356/laws.FnConns", spec := "fnConns", unfollowed := true, recurses := true, apart := false }
def FnConnsSaid : Prop := fnConnsRow.holds Try.pinned (OpenSpec.ofChange fnConnsSpec)

/-- ITS FALSE NEIGHBOUR: 'it returns false'. Refute it at one input. -/
def fnConnsWrong : ChangeSpec := { name := "fnConns", fn := fun _ => fun
  | [d1, d2] => { results := [.lit (.bool false)], args := [d1, d2] }
  | _ => none }
def FnConnsWrongFalsely : Prop := fnConnsRow.holds Try.pinned (OpenSpec.ofChange fnConnsWrong)

/-- 'laws.FnTalk': WHATEVER THE INPUT: true; the input reads as it did. -/
def fnTalkSpec : ChangeSpec := { name := "fnTalk", fn := fun _ => fun
  | [d1, d2] => { results := [.lit (.bool true)], args := [d1, d2] }
  | _ => none }
def fnTalkRow : OpenClaim := { program := "ytfgghffgfefgpaa", sum := "5eda7376b346035ad721a8c973d9893292d499a15dc539c78f6922130dee392e", func := "loop.example/g00356/laws.FnTalk", spec := "fnTalk", unfollowed := true, recurses := true, apart := false }
def FnTalkSaid : Prop := fnTalkRow.holds Try.pinned (OpenSpec.ofChange fnTalkSpec)

/-- ITS FALSE NEIGHBOUR: 'it returns false'. Refute it at one input. -/
def fnTalkWrong : ChangeSpec := { name := "fnTalk", fn := fun _ => fun
  | [d1, d2] => { results := [.lit (.bool false)], args := [d1, d2] }
  | _ => none }
def FnTalkWrongFalsely : Prop := fnTalkRow.holds Try.pinned (OpenSpec.ofChange fnTalkWrong)

/-- 'laws.FnExactConnTake': WHATEVER THE INPUT: true; the input reads as it did. -/
def fnExactConnTakeSpec : ChangeSpec := { name := "fnExactConnTake", fn := fun _ => fun
  | [d1, d2] => { results := [.lit (.bool true)], args := [d1, d2] }
  | _ => none }
def fnExactConnTakeRow : OpenClaim := { program := "ytfgghffgfefgpaa", sum := "5eda7376b346035ad721a8c973d9893292d499a15dc539c78f6922130dee392e", func := "loop.example/g00356/laws.FnExactConnTake", spec := "fnExactConnTake", unfollowed := true, recurses := true, apart := false }
def FnExactConnTakeSaid : Prop := fnExactConnTakeRow.holds Try.pinned (OpenSpec.ofChange fnExactConnTakeSpec)

/-- ITS FALSE NEIGHBOUR: 'it returns false'. Refute it at one input. -/
def fnExactConnTakeWrong : ChangeSpec := { name := "fnExactConnTake", fn := fun _ => fun
  | [d1, d2] => { results := [.lit (.bool false)], args := [d1, d2] }
  | _ => none }
def FnExactConnTakeWrongFalsely : Prop := fnExactConnTakeRow.holds Try.pinned (OpenSpec.ofChange fnExactConnTakeWrong)

/- THE SECOND FORM. 'bulk': how many values and letters a reading holds, each counted each time it is reached (what is shared counts as often as it is met; a slice's spare places count too). A statement '..UptoSaid' is the law's where the arguments, and the package variables that the reading takes, are together of bulk at most 1048576: NARROWER than '..Said'. Prove '..Said' where nothing that the law and all that it calls make is longer than what came in: it says more and counts as full. Else prove '..UptoSaid'. A law counts once. -/
mutual
def uptoBulk {H : Type} : DataW H → Nat
  | .lit (.string bytes) => bytes.length + 1
  | .lit _ => 1
  | .nil => 1
  | .ptr d => uptoBulk d + 1
  | .slice elems spare => uptoBulkAll elems + uptoBulkAll spare + 1
  | .agg parts => uptoBulkAll parts + 1
  | .iface _ d => uptoBulk d + 1
  | .map entries => uptoBulkEntries entries + 1
  | .held _ => 1
def uptoBulkAll {H : Type} : List (DataW H) → Nat
  | [] => 0
  | d :: r => uptoBulk d + uptoBulkAll r
def uptoBulkEntries {H : Type} : List (Lit × DataW H) → Nat
  | [] => 0
  | x :: r => uptoBulkEntry x + uptoBulkEntries r
def uptoBulkEntry {H : Type} : Lit × DataW H → Nat
  | (.string bytes, d) => bytes.length + uptoBulk d + 1
  | (_, d) => uptoBulk d + 1
 end
def uptoSmall : (H : Type) → List (DataW H) → Bool := fun _ ds => decide (uptoBulkAll ds ≤ 1048576)
def OpenSpec.upto (s : _root_.Go.ChangeSpec) : _root_.Go.OpenSpec := { _root_.Go.OpenSpec.ofChange s with cond := some uptoSmall }

/-- 'laws.FnConns', WHERE WHAT IT READS IS OF BULK AT MOST 1048576: true; the input reads as it did. -/
def fnConnsUptoRow : OpenClaim := { program := "ytfgghffgfefgpaa", sum := "5eda7376b346035ad721a8c973d9893292d499a15dc539c78f6922130dee392e", func := "loop.example/g00356/laws.FnConns", spec := "fnConns", unfollowed := true, recurses := true, apart := false, narrowed := true }
def FnConnsUptoSaid : Prop := fnConnsUptoRow.holds Try.pinned (OpenSpec.upto fnConnsSpec)

/-- 'laws.FnTalk', WHERE WHAT IT READS IS OF BULK AT MOST 1048576: true; the input reads as it did. -/
def fnTalkUptoRow : OpenClaim := { program := "ytfgghffgfefgpaa", sum := "5eda7376b346035ad721a8c973d9893292d499a15dc539c78f6922130dee392e", func := "loop.example/g00356/laws.FnTalk", spec := "fnTalk", unfollowed := true, recurses := true, apart := false, narrowed := true }
def FnTalkUptoSaid : Prop := fnTalkUptoRow.holds Try.pinned (OpenSpec.upto fnTalkSpec)

/-- 'laws.FnExactConnTake', WHERE WHAT IT READS IS OF BULK AT MOST 1048576: true; the input reads as it did. -/
def fnExactConnTakeUptoRow : OpenClaim := { program := "ytfgghffgfefgpaa", sum := "5eda7376b346035ad721a8c973d9893292d499a15dc539c78f6922130dee392e", func := "loop.example/g00356/laws.FnExactConnTake", spec := "fnExactConnTake", unfollowed := true, recurses := true, apart := false, narrowed := true }
def FnExactConnTakeUptoSaid : Prop := fnExactConnTakeUptoRow.holds Try.pinned (OpenSpec.upto fnExactConnTakeSpec)

end Rows
end Go.Proofs.Ytfgghffgfefgpaa
