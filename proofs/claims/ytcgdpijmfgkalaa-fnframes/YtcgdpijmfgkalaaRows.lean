/-
  No cell of these rows narrows 'for every input' (looked for: loops, veiled, ifaces, maps, wideKeys, modest, calm, conditions, laid).
  DERIVED. THE GIVEN ROWS OF THIS SEAT. 4 by the template 'for every input the law returns true; each argument reads behind the call as it read before'; 0 by the template 'total and deterministic' (their statements: YtcgdpijmfgkalaaTotals.lean).
  GIVEN WITH THE SEED: the statements are not yours to turn. If you find one false, say at which input.
  Laid BY PROGRAM, IN A SANDBOX (cutbox-rows.mjs): the forced cells as the released guide's own fill.sh prints them over the translation 9d7b3160b0cf7d97… (all of the seat's roots in one cut). By AI agents, Wed Nov 11 2026. No macro, syntax, notation, axiom, sorry.
-/
import Derived.Test.YtcgdpijmfgkalaaChecked
import GoSem.Claim
import GoSem.ClaimJoined
import GoSem.ClaimMapViews
import Derived.JoinedTies
import Derived.KernelRfl
namespace Go.Proofs.Ytcgdpijmfgkalaa
/- THE CELL 'sum', in the pinned program and in every row, IS THE sha256 OF THE DUMP (.gsa) THAT YtcgdpijmfgkalaaProg.lean LOADS. Nothing in Lean hashes anything: it is a label: what it is worth is what the hold of that sum in a sandbox is worth. -/
noncomputable def Try.pinned : Pinned := { name := "ytcgdpijmfgkalaa", sum := "9d7b3160b0cf7d971403d35c8eee5e20ebd3a93a25b46d78d6ff4b7ed8b8474d", checked := Try.checked }
namespace Rows
def none {H : Type} : Left H := { results := [], args := [] }

/-- 'laws.FnFrames': WHATEVER THE INPUT: true; the input reads as it did. -/
def fnFramesSpec : ChangeSpec := { name := "fnFrames", fn := fun _ => fun
  | [d1, d2] => { results := [.lit (.bool true)], args := [d1, d2] }
  | _ => none }
def fnFramesRow : OpenClaim := { program := "ytcgdpijmfgkalaa", sum := "9d7b3160b0cf7d971403d35c8eee5e20ebd3a93a25b46d78d6ff4b7ed8b8474d", func := "loop.example/g00356/laws.FnFrames", spec := "fnFrames", apart := false }
def FnFramesSaid : Prop := fnFramesRow.holds Try.pinned (OpenSpec.ofChange fnFramesSpec)

/-- ITS FALSE NEIGHBOUR: 'it returns false'. Refute it at one input. -/
def fnFramesWrong : ChangeSpec := { name := "fnFrames", fn := fun _ => fun
  | [d1, d2] => { results := [.lit (.bool false)], args := [d1, d2] }
  | _ => none }
def FnFramesWrongFalsely : Prop := fnFramesRow.holds Try.pinned (OpenSpec.ofChange fnFramesWrong)

/-- 'laws.FnExactMacText': WHATEVER THE INPUT: true; the input reads as it did. -/
def fnExactMacTextSpec : ChangeSpec := { name := "fnExactMacText", fn := fun _ => fun
  | [d] => { results := [.lit (.bool true)], args := [d] }
  | _ => none }
def fnExactMacTextRow : OpenClaim := { program := "ytcgdpijmfgkalaa", sum := "9d7b3160b0cf7d971403d35c8eee5e20ebd3a93a25b46d78d6ff4b7ed8b8474d", func := "loop.example/g00356/laws.FnExactMacText", spec := "fnExactMacText", apart := false }
def FnExactMacTextSaid : Prop := fnExactMacTextRow.holds Try.pinned (OpenSpec.ofChange fnExactMacTextSpec)

/-- ITS FALSE NEIGHBOUR: 'it returns false'. Refute it at one input. -/
def fnExactMacTextWrong : ChangeSpec := { name := "fnExactMacText", fn := fun _ => fun
  | [d] => { results := [.lit (.bool false)], args := [d] }
  | _ => none }
def FnExactMacTextWrongFalsely : Prop := fnExactMacTextRow.holds Try.pinned (OpenSpec.ofChange fnExactMacTextWrong)

/-- 'laws.FnExactFrameBytes': WHATEVER THE INPUT: true; the input reads as it did. -/
def fnExactFrameBytesSpec : ChangeSpec := { name := "fnExactFrameBytes", fn := fun _ => fun
  | [d] => { results := [.lit (.bool true)], args := [d] }
  | _ => none }
def fnExactFrameBytesRow : OpenClaim := { program := "ytcgdpijmfgkalaa", sum := "9d7b3160b0cf7d971403d35c8eee5e20ebd3a93a25b46d78d6ff4b7ed8b8474d", func := "loop.example/g00356/laws.FnExactFrameBytes", spec := "fnExactFrameBytes", apart := false }
def FnExactFrameBytesSaid : Prop := fnExactFrameBytesRow.holds Try.pinned (OpenSpec.ofChange fnExactFrameBytesSpec)

/-- ITS FALSE NEIGHBOUR: 'it returns false'. Refute it at one input. -/
def fnExactFrameBytesWrong : ChangeSpec := { name := "fnExactFrameBytes", fn := fun _ => fun
  | [d] => { results := [.lit (.bool false)], args := [d] }
  | _ => none }
def FnExactFrameBytesWrongFalsely : Prop := fnExactFrameBytesRow.holds Try.pinned (OpenSpec.ofChange fnExactFrameBytesWrong)

/-- 'laws.FnExactArpBytes': WHATEVER THE INPUT: true; the input reads as it did. -/
def fnExactArpBytesSpec : ChangeSpec := { name := "fnExactArpBytes", fn := fun _ => fun
  | [d] => { results := [.lit (.bool true)], args := [d] }
  | _ => none }
def fnExactArpBytesRow : OpenClaim := { program := "ytcgdpijmfgkalaa", sum := "9d7b3160b0cf7d971403d35c8eee5e20ebd3a93a25b46d78d6ff4b7ed8b8474d", func := "loop.example/g00356/laws.FnExactArpBytes", spec := "fnExactArpBytes", apart := false }
def FnExactArpBytesSaid : Prop := fnExactArpBytesRow.holds Try.pinned (OpenSpec.ofChange fnExactArpBytesSpec)

/-- ITS FALSE NEIGHBOUR: 'it returns false'. Refute it at one input. -/
def fnExactArpBytesWrong : ChangeSpec := { name := "fnExactArpBytes", fn := fun _ => fun
  | [d] => { results := [.lit (.bool false)], args := [d] }
  | _ => none }
def FnExactArpBytesWrongFalsely : Prop := fnExactArpBytesRow.holds Try.pinned (OpenSpec.ofChange fnExactArpBytesWrong)

/- THE SECOND FORM. 'bulk': how many values and letters a reading holds, each counted each time it is reached (what is shared counts as often as it is met; a slice's spare places count too). A statement '..UptoSaid' is the law's where the arguments, and the package variables that the reading takes, are together of bulk at most 1048576: NARROWER than '..Said'. Prove '..Said' where nothing that the law and all that it calls make is longer than what came in: it says more and counts as full. Else prove '..UptoSaid'. A law counts once. -/
mutual
def uptoBulk {H : Type} : DataW H → Nat
  | .lit (.string bytes) => bytes.length + 1
  | .lit _ => 1
  | .nil => 1
  | .ptr d => uptoBulk d + 1
  | .slice elems spare => uptoBulkAll elems + uptoBulkAll spare + 1
  | .agg parts => uptoBulkAll parts + 1
  | .iface _ d => uptoBulk d + 1
  | .map entries => uptoBulkEntries entries + 1
  | .held _ => 1
def uptoBulkAll {H : Type} : List (DataW H) → Nat
  | [] => 0
  | d :: r => uptoBulk d + uptoBulkAll r
def uptoBulkEntries {H : Type} : List (Lit × DataW H) → Nat
  | [] => 0
  | x :: r => uptoBulkEntry x + uptoBulkEntries r
def uptoBulkEntry {H : Type} : Lit × DataW H → Nat
  | (.string bytes, d) => bytes.length + uptoBulk d + 1
  | (_, d) => uptoBulk d + 1
 end
def uptoSmall : (H : Type) → List (DataW H) → Bool := fun _ ds => decide (uptoBulkAll ds ≤ 1048576)
def OpenSpec.upto (s : _root_.Go.ChangeSpec) : _root_.Go.OpenSpec := { _root_.Go.OpenSpec.ofChange s with cond := some uptoSmall }

/-- 'laws.FnFrames', WHERE WHAT IT READS IS OF BULK AT MOST 1048576: true; the input reads as it did. -/
def fnFramesUptoRow : OpenClaim := { program := "ytcgdpijmfgkalaa", sum := "9d7b3160b0cf7d971403d35c8eee5e20ebd3a93a25b46d78d6ff4b7ed8b8474d", func := "loop.example/g00356/laws.FnFrames", spec := "fnFrames", apart := false, narrowed := true }
def FnFramesUptoSaid : Prop := fnFramesUptoRow.holds Try.pinned (OpenSpec.upto fnFramesSpec)

/-- 'laws.FnExactMacText', WHERE WHAT IT READS IS OF BULK AT MOST 1048576: true; the input reads as it did. -/
def fnExactMacTextUptoRow : OpenClaim := { program := "ytcgdpijmfgkalaa", sum := "9d7b3160b0cf7d971403d35c8eee5e20ebd3a93a25b46d78d6ff4b7ed8b8474d", func := "loop.example/g00356/laws.FnExactMacText", spec := "fnExactMacText", apart := false, narrowed := true }
def FnExactMacTextUptoSaid : Prop := fnExactMacTextUptoRow.holds Try.pinned (OpenSpec.upto fnExactMacTextSpec)

/-- 'laws.FnExactFrameBytes', WHERE WHAT IT READS IS OF BULK AT MOST 1048576: true; the input reads as it did. -/
def fnExactFrameBytesUptoRow : OpenClaim := { program := "ytcgdpijmfgkalaa", sum := "9d7b3160b0cf7d971403d35c8eee5e20ebd3a93a25b46d78d6ff4b7ed8b8474d", func := "loop.example/g00356/laws.FnExactFrameBytes", spec := "fnExactFrameBytes", apart := false, narrowed := true }
def FnExactFrameBytesUptoSaid : Prop := fnExactFrameBytesUptoRow.holds Try.pinned (OpenSpec.upto fnExactFrameBytesSpec)

/-- 'laws.FnExactArpBytes', WHERE WHAT IT READS IS OF BULK AT MOST 1048576: true; the input reads as it did. -/
def fnExactArpBytesUptoRow : OpenClaim := { program := "ytcgdpijmfgkalaa", sum := "9d7b3160b0cf7d971403d35c8eee5e20ebd3a93a25b46d78d6ff4b7ed8b8474d", func := "loop.example/g00356/laws.FnExactArpBytes", spec := "fnExactArpBytes", apart := false, narrowed := true }
def FnExactArpBytesUptoSaid : Prop := fnExactArpBytesUptoRow.holds Try.pinned (OpenSpec.upto fnExactArpBytesSpec)

end Rows
end Go.Proofs.Ytcgdpijmfgkalaa
