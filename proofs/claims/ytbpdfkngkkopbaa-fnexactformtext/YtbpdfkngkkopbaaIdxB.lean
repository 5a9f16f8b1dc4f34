/- strings.IndexByte. -/
import Derived.Test.YtbpdfkngkkopbaaProg
import Derived.Test.YtbpdfkngkkopbaaShelf
import Derived.WalkKit
import Derived.PlainAid
import Derived.Below
namespace Go.Proofs.Ytbpdfkngkkopbaa
open Go.RowKit Go.PlainAid
set_option linter.unusedVariables false
theorem idxB_any (s : ByteArray) (c : Int) (w : World) : Calls Try.prog 24 #[.string s, .int .u8 c] w fun e w' => e = .returned (.int .i64 (Lib.indexByte s.data.toList c.toNat.toUInt8)) ∧ w' = w := by
  have T : Hid (∀ w, Calls Try.prog 27 #[.string s, .int .u8 c] w fun e w' => e = .returned (.int .i64 (Lib.indexByte s.data.toList c.toNat.toUInt8)) ∧ w' = w) := fun w => Try.stringslite_IndexByte s c w
  generalize Lib.indexByte s.data.toList c.toNat.toUInt8 = z at T ⊢
  go_enter Try.func24, Try.ntmps24
  go_wp2_with fail
  refine (T.out _).mono ?_
  rintro e w1 ⟨rfl, hw⟩
  subst hw
  go_wp2
  go_ret
  exact ⟨rfl, rfl⟩
end Go.Proofs.Ytbpdfkngkkopbaa
