/- DnsBytes, the program: the loop over the parts. -/
import Derived.Test.YtfcdobicilediaaDoorDnsN2
import Derived.Test.YtfcdobicilediaaDoorApp
import Derived.Test.YtfcdobicilediaaDoorRoom
namespace Go.Proofs.YtfcdobicilediaaDoor
open Go.RowKit Go.PlainAid
set_option linter.unusedVariables false
set_option maxRecDepth 20000

/-- The first k parts, each behind its length. -/
def labsL (s : ByteArray) : Nat → List Int
  | 0 => []
  | k + 1 => labsL s k ++ [((piece s k).size : Int)] ++ nums (piece s k)
theorem labsL_len (s : ByteArray) : ∀ k, (labsL s k).length = szs s k + k
  | 0 => rfl
  | k + 1 => by
    have := labsL_len s k
    simp [labsL, szs, nums_len, this]
    omega
/-- A question for a name. -/
def dnsL (idn ty : Int) (ans : Bool) (s : ByteArray) : List Int := nbl idn 2 ++ nbl (if ans then 33152 else 256) 2 ++ nbl 1 2 ++ List.replicate 6 0 ++ labsL s (pcs s).length ++ [0] ++ nbl ty 2 ++ nbl 1 2
theorem dnsL_len (idn ty : Int) (ans : Bool) (s : ByteArray) : (dnsL idn ty ans s).length = 18 + s.size := by
  have h1 := labsL_len s (pcs s).length
  have h2 := szs_all s
  simp [dnsL, nbl_len, h1]
  omega
end Go.Proofs.YtfcdobicilediaaDoor
