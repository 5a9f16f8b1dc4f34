/-
  No cell of these rows narrows 'for every input' (looked for: loops, veiled, ifaces, maps, wideKeys, modest, calm, conditions, laid).
  DERIVED. THE GIVEN ROWS OF THIS SEAT. 4 by the template 'for every input the law returns true; each argument reads behind the call as it read before'; 0 by the template 'total and deterministic' (their statements: YtdhjbbnggeamhabTotals.lean).
  GIVEN WITH THE SEED: the statements are not yours to turn. If you find one false, say at which input.
  Laid BY PROGRAM, IN A SANDBOX (cutbox-rows.mjs): the forced cells as the released guide's own fill.sh prints them over the translation 37fad69a7b235f7e… (all of the seat's roots in one cut). By AI agents, Wed Nov 11 2026. No macro, syntax, notation, axiom, sorry.
-/
import Derived.Test.YtdhjbbnggeamhabChecked
import GoSem.Claim
import GoSem.ClaimJoined
import GoSem.ClaimMapViews
import Derived.JoinedTies
import Derived.KernelRfl
namespace Go.Proofs.Ytdhjbbnggeamhab
/- THE CELL 'sum', in the pinned program and in every row, IS THE sha256 OF THE DUMP (.gsa) THAT YtdhjbbnggeamhabProg.lean LOADS. Nothing in Lean hashes anything: it is a label: what it is worth is what the hold of that sum in a sandbox is worth. -/
noncomputable def Try.pinned : Pinned := { name := "ytdhjbbnggeamhab", sum := "37fad69a7b235f7e62da139de63d80a54c2b1a52c43ccc1930c4d6a15807be7c", checked := Try.checked }
namespace Rows
def none {H : Type} : Left H := { results := [], args := [] }

/-- 'laws.FnExactReadPacket': WHATEVER THE INPUT: true; the input reads as it did. -/
def fnExactReadPacketSpec : ChangeSpec := { name := "fnExactReadPacket", fn := fun _ => fun
  | [d] => { results := [.lit (.bool true)], args := [d] }
  | _ => none }
def fnExactReadPacketRow : OpenClaim := { program := "ytdhjbbnggeamhab", sum := "37fad69a7b235f7e62da139de63d80a54c2b1a52c43ccc1930c4d6a15807be7c", func := "loop.example/g00356/laws.FnExactReadPacket", spec := "fnExactReadPacket", apart := false }
def FnExactReadPacketSaid : Prop := fnExactReadPacketRow.holds Try.pinned (OpenSpec.ofChange fnExactReadPacketSpec)

/-- ITS FALSE NEIGHBOUR: 'it returns false'. Refute it at one input. -/
def fnExactReadPacketWrong : ChangeSpec := { name := "fnExactReadPacket", fn := fun _ => fun
  | [d] => { results := [.lit (.bool false)], args := [d] }
  | _ => none }
def FnExactReadPacketWrongFalsely : Prop := fnExactReadPacketRow.holds Try.pinned (OpenSpec.ofChange fnExactReadPacketWrong)

/-- 'laws.FnExactReadSegment': WHATEVER THE INPUT: true; the input reads as it did. -/
def fnExactReadSegmentSpec : ChangeSpec := { name := "fnExactReadSegment", fn := fun _ => fun
  | [d1, d2, d3] => { results := [.lit (.bool true)], args := [d1, d2, d3] }
  | _ => none }
def fnExactReadSegmentRow : OpenClaim := { program := "ytdhjbbnggeamhab", sum := "37fad69a7b235f7e62da139de63d80a54c2b1a52c43ccc1930c4d6a15807be7c", func := "loop.example/g00356/laws.FnExactReadSegment", spec := "fnExactReadSegment", apart := false }
def FnExactReadSegmentSaid : Prop := fnExactReadSegmentRow.holds Try.pinned (OpenSpec.ofChange fnExactReadSegmentSpec)

/-- ITS FALSE NEIGHBOUR: 'it returns false'. Refute it at one input. -/
def fnExactReadSegmentWrong : ChangeSpec := { name := "fnExactReadSegment", fn := fun _ => fun
  | [d1, d2, d3] => { results := [.lit (.bool false)], args := [d1, d2, d3] }
  | _ => none }
def FnExactReadSegmentWrongFalsely : Prop := fnExactReadSegmentRow.holds Try.pinned (OpenSpec.ofChange fnExactReadSegmentWrong)

/-- 'laws.FnExactReadDns': WHATEVER THE INPUT: true; the input reads as it did. -/
def fnExactReadDnsSpec : ChangeSpec := { name := "fnExactReadDns", fn := fun _ => fun
  | [d] => { results := [.lit (.bool true)], args := [d] }
  | _ => none }
def fnExactReadDnsRow : OpenClaim := { program := "ytdhjbbnggeamhab", sum := "37fad69a7b235f7e62da139de63d80a54c2b1a52c43ccc1930c4d6a15807be7c", func := "loop.example/g00356/laws.FnExactReadDns", spec := "fnExactReadDns", inPlace := ["internal/abi.NoEscape", "internal/bytealg.MakeNoZero"], apart := false }
def FnExactReadDnsSaid : Prop := fnExactReadDnsRow.holds Try.pinned (OpenSpec.ofChange fnExactReadDnsSpec)

/-- ITS FALSE NEIGHBOUR: 'it returns false'. Refute it at one input. -/
def fnExactReadDnsWrong : ChangeSpec := { name := "fnExactReadDns", fn := fun _ => fun
  | [d] => { results := [.lit (.bool false)], args := [d] }
  | _ => none }
def FnExactReadDnsWrongFalsely : Prop := fnExactReadDnsRow.holds Try.pinned (OpenSpec.ofChange fnExactReadDnsWrong)

/-- 'laws.FnExactDhcpBytes': WHATEVER THE INPUT: true; the input reads as it did. -/
def fnExactDhcpBytesSpec : ChangeSpec := { name := "fnExactDhcpBytes", fn := fun _ => fun
  | [d] => { results := [.lit (.bool true)], args := [d] }
  | _ => none }
def fnExactDhcpBytesRow : OpenClaim := { program := "ytdhjbbnggeamhab", sum := "37fad69a7b235f7e62da139de63d80a54c2b1a52c43ccc1930c4d6a15807be7c", func := "loop.example/g00356/laws.FnExactDhcpBytes", spec := "fnExactDhcpBytes", apart := false }
def FnExactDhcpBytesSaid : Prop := fnExactDhcpBytesRow.holds Try.pinned (OpenSpec.ofChange fnExactDhcpBytesSpec)

/-- ITS FALSE NEIGHBOUR: 'it returns false'. Refute it at one input. -/
def fnExactDhcpBytesWrong : ChangeSpec := { name := "fnExactDhcpBytes", fn := fun _ => fun
  | [d] => { results := [.lit (.bool false)], args := [d] }
  | _ => none }
def FnExactDhcpBytesWrongFalsely : Prop := fnExactDhcpBytesRow.holds Try.pinned (OpenSpec.ofChange fnExactDhcpBytesWrong)

/- THE SECOND FORM. 'bulk': how many values and letters a reading holds, each counted each time it is reached (what is shared counts as often as it is met; a slice's spare places count too). A statement '..UptoSaid' is the law's where the arguments, and the package variables that the reading takes, are together of bulk at most 1048576: NARROWER than '..Said'. Prove '..Said' where nothing that the law and all that it calls make is longer than what came in: it says more and counts as full. Else prove '..UptoSaid'. A law counts once. -/
mutual
def uptoBulk {H : Type} : DataW H → Nat
  | .lit (.string bytes) => bytes.length + 1
  | .lit _ => 1
  | .nil => 1
  | .ptr d => uptoBulk d + 1
  | .slice elems spare => uptoBulkAll elems + uptoBulkAll spare + 1
  | .agg parts => uptoBulkAll parts + 1
  | .iface _ d => uptoBulk d + 1
  | .map entries => uptoBulkEntries entries + 1
  | .held _ => 1
def uptoBulkAll {H : Type} : List (DataW H) → Nat
  | [] => 0
  | d :: r => uptoBulk d + uptoBulkAll r
def uptoBulkEntries {H : Type} : List (Lit × DataW H) → Nat
  | [] => 0
  | x :: r => uptoBulkEntry x + uptoBulkEntries r
def uptoBulkEntry {H : Type} : Lit × DataW H → Nat
  | (.string bytes, d) => bytes.length + uptoBulk d + 1
  | (_, d) => uptoBulk d + 1
 end
def uptoSmall : (H : Type) → List (DataW H) → Bool := fun _ ds => decide (uptoBulkAll ds ≤ 1048576)
def OpenSpec.upto (s : _root_.Go.ChangeSpec) : _root_.Go.OpenSpec := { _root_.Go.OpenSpec.ofChange s with cond := some uptoSmall }

/-- 'laws.FnExactReadPacket', WHERE WHAT IT READS IS OF BULK AT MOST 1048576: true; the input reads as it did. -/
def fnExactReadPacketUptoRow : OpenClaim := { program := "ytdhjbbnggeamhab", sum := "37fad69a7b235f7e62da139de63d80a54c2b1a52c43ccc1930c4d6a15807be7c", func := "loop.example/g00356/laws.FnExactReadPacket", spec := "fnExactReadPacket", apart := false, narrowed := true }
def FnExactReadPacketUptoSaid : Prop := fnExactReadPacketUptoRow.holds Try.pinned (OpenSpec.upto fnExactReadPacketSpec)

/-- 'laws.FnExactReadSegment', WHERE WHAT IT READS IS OF BULK AT MOST 1048576: true; the input reads as it did. -/
def fnExactReadSegmentUptoRow : OpenClaim := { program := "ytdhjbbnggeamhab", sum := "37fad69a7b235f7e62da139de63d80a54c2b1a52c43ccc1930c4d6a15807be7c", func := "loop.example/g00356/laws.FnExactReadSegment", spec := "fnExactReadSegment", apart := false, narrowed := true }
def FnExactReadSegmentUptoSaid : Prop := fnExactReadSegmentUptoRow.holds Try.pinned (OpenSpec.upto fnExactReadSegmentSpec)

/-- 'laws.FnExactReadDns', WHERE WHAT IT READS IS OF BULK AT MOST 1048576: true; the input reads as it did. -/
def fnExactReadDnsUptoRow : OpenClaim := { program := "ytdhjbbnggeamhab", sum := "37fad69a7b235f7e62da139de63d80a54c2b1a52c43ccc1930c4d6a15807be7c", func := "loop.example/g00356/laws.FnExactReadDns", spec := "fnExactReadDns", inPlace := ["internal/abi.NoEscape", "internal/bytealg.MakeNoZero"], apart := false, narrowed := true }
def FnExactReadDnsUptoSaid : Prop := fnExactReadDnsUptoRow.holds Try.pinned (OpenSpec.upto fnExactReadDnsSpec)

/-- 'laws.FnExactDhcpBytes', WHERE WHAT IT READS IS OF BULK AT MOST 1048576: true; the input reads as it did. -/
def fnExactDhcpBytesUptoRow : OpenClaim := { program := "ytdhjbbnggeamhab", sum := "37fad69a7b235f7e62da139de63d80a54c2b1a52c43ccc1930c4d6a15807be7c", func := "loop.example/g00356/laws.FnExactDhcpBytes", spec := "fnExactDhcpBytes", apart := false, narrowed := true }
def FnExactDhcpBytesUptoSaid : Prop := fnExactDhcpBytesUptoRow.holds Try.pinned (OpenSpec.upto fnExactDhcpBytesSpec)

end Rows
end Go.Proofs.Ytdhjbbnggeamhab
