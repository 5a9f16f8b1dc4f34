/-
  No cell of these rows narrows 'for every input' (looked for: loops, veiled, ifaces, maps, wideKeys, modest, calm, conditions, laid).
  DERIVED. THE GIVEN ROWS OF THIS SEAT. 3 by the template 'for every input the law returns true; each argument reads behind the call as it read before'; 0 by the template 'total and deterministic' (their statements: YtfpebmlbkfnnhabTotals.lean).
  GIVEN WITH THE SEED: the statements are not yours to turn. If you find one false, say at which input.
  Laid BY PROGRAM, IN A SANDBOX (cutbox-rows.mjs): the forced cells as the released guide's own fill.sh prints them over the translation a386ad97593ab677… (all of the seat's roots in one cut). By AI agents, Wed Nov 11 2026. No macro, syntax, notation, axiom, sorry.
-/
import Derived.Test.YtfpebmlbkfnnhabChecked
import GoSem.Claim
import GoSem.ClaimJoined
import GoSem.ClaimMapViews
import Derived.JoinedTies
import Derived.KernelRfl
namespace Go.Proofs.Ytfpebmlbkfnnhab
/- THE CELL 'sum', in the pinned program and in every row, IS THE sha256 OF THE DUMP (.gsa) THAT YtfpebmlbkfnnhabProg.lean LOADS. Nothing in Lean hashes anything: it is a label: what it is worth is what the hold of that sum in a sandbox is worth. -/
noncomputable def Try.pinned : Pinned := { name := "ytfpebmlbkfnnhab", sum := "a386ad97593ab6776288341d22a9360e6e5d234b9755ec787fd852278241617d", checked := Try.checked }
namespace Rows
def none {H : Type} : Left H := { results := [], args := [] }

/-- 'laws.FnExactConnSay': WHATEVER THE INPUT: true; the input reads as it did. -/
def fnExactConnSaySpec : ChangeSpec := { name := "fnExactConnSay", fn := fun _ => fun
  | [d1, d2] => { results := [.lit (.bool true)], args := [d1, d2] }
  | _ => none }
def fnExactConnSayRow : OpenClaim := { program := "ytfpebmlbkfnnhab", sum := "a386ad97593ab6776288341d22a9360e6e5d234b9755ec787fd852278241617d", func := "loop.example/g00356/laws.FnExactConnSay", spec := "fnExactConnSay", apart := false }
def FnExactConnSaySaid : Prop := fnExactConnSayRow.holds Try.pinned (OpenSpec.ofChange fnExactConnSaySpec)

/-- ITS FALSE NEIGHBOUR: 'it returns false'. Refute it at one input. -/
def fnExactConnSayWrong : ChangeSpec := { name := "fnExactConnSay", fn := fun _ => fun
  | [d1, d2] => { results := [.lit (.bool false)], args := [d1, d2] }
  | _ => none }
def FnExactConnSayWrongFalsely : Prop := fnExactConnSayRow.holds Try.pinned (OpenSpec.ofChange fnExactConnSayWrong)

/-- 'laws.FnExactConnAgain': WHATEVER THE INPUT: true; the input reads as it did. -/
def fnExactConnAgainSpec : ChangeSpec := { name := "fnExactConnAgain", fn := fun _ => fun
  | [d] => { results := [.lit (.bool true)], args := [d] }
  | _ => none }
def fnExactConnAgainRow : OpenClaim := { program := "ytfpebmlbkfnnhab", sum := "a386ad97593ab6776288341d22a9360e6e5d234b9755ec787fd852278241617d", func := "loop.example/g00356/laws.FnExactConnAgain", spec := "fnExactConnAgain", apart := false }
def FnExactConnAgainSaid : Prop := fnExactConnAgainRow.holds Try.pinned (OpenSpec.ofChange fnExactConnAgainSpec)

/-- ITS FALSE NEIGHBOUR: 'it returns false'. Refute it at one input. -/
def fnExactConnAgainWrong : ChangeSpec := { name := "fnExactConnAgain", fn := fun _ => fun
  | [d] => { results := [.lit (.bool false)], args := [d] }
  | _ => none }
def FnExactConnAgainWrongFalsely : Prop := fnExactConnAgainRow.holds Try.pinned (OpenSpec.ofChange fnExactConnAgainWrong)

/-- 'laws.FnExactSeqLess': WHATEVER THE INPUT: true; the input reads as it did. -/
def fnExactSeqLessSpec : ChangeSpec := { name := "fnExactSeqLess", fn := fun _ => fun
  | [d1, d2] => { results := [.lit (.bool true)], args := [d1, d2] }
  | _ => none }
def fnExactSeqLessRow : OpenClaim := { program := "ytfpebmlbkfnnhab", sum := "a386ad97593ab6776288341d22a9360e6e5d234b9755ec787fd852278241617d", func := "loop.example/g00356/laws.FnExactSeqLess", spec := "fnExactSeqLess", apart := false }
def FnExactSeqLessSaid : Prop := fnExactSeqLessRow.holds Try.pinned (OpenSpec.ofChange fnExactSeqLessSpec)

/-- ITS FALSE NEIGHBOUR: 'it returns false'. Refute it at one input. -/
def fnExactSeqLessWrong : ChangeSpec := { name := "fnExactSeqLess", fn := fun _ => fun
  | [d1, d2] => { results := [.lit (.bool false)], args := [d1, d2] }
  | _ => none }
def FnExactSeqLessWrongFalsely : Prop := fnExactSeqLessRow.holds Try.pinned (OpenSpec.ofChange fnExactSeqLessWrong)

/- THE SECOND FORM. 'bulk': how many values and letters a reading holds, each counted each time it is reached (what is shared counts as often as it is met; a slice's spare places count too). A statement '..UptoSaid' is the law's where the arguments, and the package variables that the reading takes, are together of bulk at most 1048576: NARROWER than '..Said'. Prove '..Said' where nothing that the law and all that it calls make is longer than what came in: it says more and counts as full. Else prove '..UptoSaid'. A law counts once. -/
mutual
def uptoBulk {H : Type} : DataW H → Nat
  | .lit (.string bytes) => bytes.length + 1
  | .lit _ => 1
  | .nil => 1
  | .ptr d => uptoBulk d + 1
  | .slice elems spare => uptoBulkAll elems + uptoBulkAll spare + 1
  | .agg parts => uptoBulkAll parts + 1
  | .iface _ d => uptoBulk d + 1
  | .map entries => uptoBulkEntries entries + 1
  | .held _ => 1
def uptoBulkAll {H : Type} : List (DataW H) → Nat
  | [] => 0
  | d :: r => uptoBulk d + uptoBulkAll r
def uptoBulkEntries {H : Type} : List (Lit × DataW H) → Nat
  | [] => 0
  | x :: r => uptoBulkEntry x + uptoBulkEntries r
def uptoBulkEntry {H : Type} : Lit × DataW H → Nat
  | (.string bytes, d) => bytes.length + uptoBulk d + 1
  | (_, d) => uptoBulk d + 1
 end
def uptoSmall : (H : Type) → List (DataW H) → Bool := fun _ ds => decide (uptoBulkAll ds ≤ 1048576)
def OpenSpec.upto (s : _root_.Go.ChangeSpec) : _root_.Go.OpenSpec := { _root_.Go.OpenSpec.ofChange s with cond := some uptoSmall }

/-- 'laws.FnExactConnSay', WHERE WHAT IT READS IS OF BULK AT MOST 1048576: true; the input reads as it did. -/
def fnExactConnSayUptoRow : OpenClaim := { program := "ytfpebmlbkfnnhab", sum := "a386ad97593ab6776288341d22a9360e6e5d234b9755ec787fd852278241617d", func := "loop.example/g00356/laws.FnExactConnSay", spec := "fnExactConnSay", apart := false, narrowed := true }
def FnExactConnSayUptoSaid : Prop := fnExactConnSayUptoRow.holds Try.pinned (OpenSpec.upto fnExactConnSaySpec)

/-- 'laws.FnExactConnAgain', WHERE WHAT IT READS IS OF BULK AT MOST 1048576: true; the input reads as it did. -/
def fnExactConnAgainUptoRow : OpenClaim := { program := "ytfpebmlbkfnnhab", sum := "a386ad97593ab6776288341d22a9360e6e5d234b9755ec787fd852278241617d", func := "loop.example/g00356/laws.FnExactConnAgain", spec := "fnExactConnAgain", apart := false, narrowed := true }
def FnExactConnAgainUptoSaid : Prop := fnExactConnAgainUptoRow.holds Try.pinned (OpenSpec.upto fnExactConnAgainSpec)

/-- 'laws.FnExactSeqLess', WHERE WHAT IT READS IS OF BULK AT MOST 1048576: true; the input reads as it did. -/
def fnExactSeqLessUptoRow : OpenClaim := { program := "ytfpebmlbkfnnhab", sum := "a386ad97593ab6776288341d22a9360e6e5d234b9755ec787fd852278241617d", func := "loop.example/g00356/laws.FnExactSeqLess", spec := "fnExactSeqLess", apart := false, narrowed := true }
def FnExactSeqLessUptoSaid : Prop := fnExactSeqLessUptoRow.holds Try.pinned (OpenSpec.upto fnExactSeqLessSpec)

end Rows
end Go.Proofs.Ytfpebmlbkfnnhab
