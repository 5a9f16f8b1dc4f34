/- strings.IndexByte. -/
import Derived.Test.YtappekglflgodaaDoorProg
import Derived.Test.YtappekglflgodaaDoorShelf
import Derived.WalkKit
import Derived.PlainAid
import Derived.Below
namespace Go.Proofs.YtappekglflgodaaDoor
open Go.RowKit Go.PlainAid
set_option linter.unusedVariables false
theorem idxB_any (s : ByteArray) (c : Int) (w : World) : Calls Tryd.prog 101 #[.string s, .int .u8 c] w fun e w' => e = .returned (.int .i64 (Lib.indexByte s.data.toList c.toNat.toUInt8)) ∧ w' = w := by
  have T : Hid (∀ w, Calls Tryd.prog 126 #[.string s, .int .u8 c] w fun e w' => e = .returned (.int .i64 (Lib.indexByte s.data.toList c.toNat.toUInt8)) ∧ w' = w) := fun w => Tryd.stringslite_IndexByte s c w
  generalize Lib.indexByte s.data.toList c.toNat.toUInt8 = z at T ⊢
  go_enter Tryd.func101, Tryd.ntmps101
  go_wp2_with fail
  refine (T.out _).mono ?_
  rintro e w1 ⟨rfl, hw⟩
  subst hw
  go_wp2
  go_ret
  exact ⟨rfl, rfl⟩
end Go.Proofs.YtappekglflgodaaDoor
