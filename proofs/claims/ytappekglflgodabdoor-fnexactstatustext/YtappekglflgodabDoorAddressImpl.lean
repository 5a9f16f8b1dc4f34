/- The program's AddressText, and the walk of the law FnExactAddressText. -/
import Derived.Test.YtappekglflgodabDoorRoom
import Derived.Test.YtappekglflgodabDoorAddress
import Derived.Test.YtappekglflgodabDoorInfo
import Derived.Test.YtappekglflgodabDoorShelf
import Derived.Deep.AppendLies
import Derived.Lib.AppendIntMem
namespace Go.Proofs.YtappekglflgodabDoor
open Go.RowKit Go.PlainAid
set_option linter.unusedVariables false
set_option maxRecDepth 20000

theorem decDigits_is : ∀ n : Nat, Lib.byteCells (Lib.decDigits n) = (dgs n).map (Value.int .u8) := by
  intro n
  induction n using Nat.strongRecOn with
  | _ n ih =>
    by_cases h : n < 10
    · rw [Lib.decDigits, dif_pos h, dgs_small h]
      simp [Lib.byteCells]
      omega
    · rw [Lib.decDigits, dif_neg h, dgs_more (by omega), List.map_append, ← ih (n / 10) (by omega)]
      simp [Lib.byteCells]
      omega
theorem itoa_is (i : Int) (h : 0 ≤ i) : Lib.byteCells (Lib.itoa i) = (dgs i.toNat).map (Value.int .u8) := by
  unfold Lib.itoa
  rw [if_neg (by omega), decDigits_is]
theorem itoa_len (i : Int) (h : 0 ≤ i) : (Lib.itoa i).length = (dgs i.toNat).length := by
  have := congrArg List.length (itoa_is i h)
  simpa [Lib.byteCells] using this

/-- The table of powers of ten lies in its variable, whatever is done from block B on. -/
def Tens (B : Nat) (w : World) : Prop := Lib.TabBelow Tryd.prog B w "internal/strconv.uint64pow10" .u64 Lib.pow10Tab

theorem adl_first (n : Int) : adl n 1 = da n 0 := by simp [adl]
theorem adl_next (n : Int) (k : Nat) (h : 0 < k) : adl n (k + 1) = adl n k ++ [46] ++ da n k := by
  rw [adl, if_neg (by omega), List.append_assoc]

theorem Tens.now {w w1 : World} (h : Tens w.heap.size w) (hb : Below w.heap.size w w1) : Tens w1.heap.size w1 := Lib.tabBelow_of_tabIs (h w1 hb)

end Go.Proofs.YtappekglflgodabDoor
