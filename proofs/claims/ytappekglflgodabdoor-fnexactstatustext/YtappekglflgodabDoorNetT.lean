/- NetText, the program's and the model's; the walk of its law. -/
import Derived.Test.YtappekglflgodabDoorNetW
import Derived.Test.YtappekglflgodabDoorLawNet
import Derived.Test.YtappekglflgodabDoorAddressImpl
import Derived.Deep.RegionHeld3
namespace Go.Proofs.YtappekglflgodabDoor
open Go.RowKit Go.PlainAid Go.Proofs.YtappekglflgodabDoor.Bt Go.Sort
set_option linter.unusedVariables false
set_option maxRecDepth 20000

theorem dec_str (n : Nat) : (⟨(Lib.decDigits n).toArray⟩ : ByteArray) = strOfNums (dgs n) := by
  have h := decDigits_is n
  have e : Lib.decDigits n = (dgs n).map fun x : Int => UInt8.ofNat x.toNat := by
    have h2 := congrArg (List.map fun v : Value => match v with | .int _ x => UInt8.ofNat x.toNat | _ => 0) h
    simp only [Lib.byteCells, List.map_map] at h2
    have l : (Lib.decDigits n).map ((fun v : Value => match v with | .int _ x => UInt8.ofNat x.toNat | _ => 0) ∘ fun b : UInt8 => Value.int .u8 (b.toNat : Int)) = Lib.decDigits n := by
      conv => rhs; rw [← List.map_id (Lib.decDigits n)]
      apply List.map_congr_left
      intro b _
      simp
    rw [l] at h2
    exact h2
  unfold strOfNums
  rw [e]

def slash : ByteArray := ⟨#[47]⟩
/-- A net's text. -/
def ntT (ip b : Int) : ByteArray := strOfNums (adl ip 4) ++ slash ++ strOfNums (dgs b.toNat)
theorem strs_size (L : List Int) : (strOfNums L).size = L.length := by simp [strOfNums, ByteArray.size]

end Go.Proofs.YtappekglflgodabDoor
