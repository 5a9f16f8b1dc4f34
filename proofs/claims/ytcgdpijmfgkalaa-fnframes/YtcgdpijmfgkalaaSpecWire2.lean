/- The model: the bytes of packets, and what a sum has ahead, as strings. -/
import Derived.Test.YtcgdpijmfgkalaaSpecWire
namespace Go.Proofs.Ytcgdpijmfgkalaa
open Go.RowKit Go.PlainAid
set_option linter.unusedVariables false
set_option maxRecDepth 20000

theorem nbl_one (n : Int) (h0 : 0 ≤ n) (h1 : n ≤ 255) : nbl n 1 = [n] := by
  have : nb n 1 0 = n := by unfold nb; simp; omega
  simp [nbl, List.range_succ, this]

def pseudoS (src dst pro n : Int) : ByteArray := strOf (nb src 4) 4 ++ strOf (nb dst 4) 4 ++ (⟨#[0]⟩ : ByteArray) ++ strOf (nb pro 1) 1 ++ strOf (nb n 2) 2
theorem pseudoS_nums (src dst pro n : Int) (p0 : 0 ≤ pro) (p1 : pro ≤ 255) : nums (pseudoS src dst pro n) = pseudoL src dst pro n := by
  have e : nums (⟨#[0]⟩ : ByteArray) = [0] := rfl
  unfold pseudoS pseudoL
  simp only [nums_append, nums_nb]
  rw [e, nbl_one pro p0 p1]
  simp
theorem pseudoS_size (src dst pro n : Int) : (pseudoS src dst pro n).size = 12 := by
  have e : (⟨#[0]⟩ : ByteArray).size = 1 := rfl
  unfold pseudoS
  simp only [ByteArray.size_append, strOf_size, e]
end Go.Proofs.Ytcgdpijmfgkalaa
