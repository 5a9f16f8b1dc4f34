/- The walk of the exact law of PageText. -/
import Derived.Test.YtappekglflgodaaDoorPagT
import Derived.Test.YtappekglflgodaaDoorPagI
namespace Go.Proofs.YtappekglflgodaaDoor
open Go.RowKit Go.PlainAid Go.Sort
set_option linter.unusedVariables false
set_option maxRecDepth 20000

set_option maxHeartbeats 1000000 in
theorem lawPg_any (st : Int) (wh bo : ByteArray) (w : World) (hw : wh.size ≤ maxLen) (hb : bo.size ≤ maxLen) (ht : Tens w.heap.size w) :
    Calls Tryd.prog 7 #[.int .i64 st, .string wh, .string bo] w fun e w' => e = .returned (.bool true) ∧ Below w.heap.size w w' := by
  unfold maxLen at hw hb
  by_cases h1 : 1048576 < wh.size
  · have t1 : decide ((1048576 : Int) < (wh.size : Int)) = true := decide_eq_true (by omega)
    go_enter Tryd.func7, Tryd.ntmps7
    go_wp2
    go_ret
    exact ⟨rfl, Below.refl _ _⟩
  have t1 : decide ((1048576 : Int) < (wh.size : Int)) = false := decide_eq_false (by omega)
  by_cases h2 : 1048576 < bo.size
  · have t2 : decide ((1048576 : Int) < (bo.size : Int)) = true := decide_eq_true (by omega)
    go_enter Tryd.func7, Tryd.ntmps7
    go_wp2
    go_ret
    exact ⟨rfl, Below.refl _ _⟩
  have t2 : decide ((1048576 : Int) < (bo.size : Int)) = false := decide_eq_false (by omega)
  have HT : Hid (Tens w.heap.size w) := ht
  have HS : Hid (∀ w, Calls Tryd.prog 17 #[.int .i64 st, .string wh, .string bo] w fun e w' => e = .returned (.tuple #[.string (pgS st wh bo), .int .i64 (pgC st wh bo)]) ∧ Below w.heap.size w w') := fun w => specPg_any st wh bo w (by omega) (by omega)
  have HI : Hid (∀ w, Tens w.heap.size w → Calls Tryd.prog 16 #[.int .i64 st, .string wh, .string bo] w fun e w' => e = .returned (.tuple #[.string (pgS st wh bo), .int .i64 (pgC st wh bo)]) ∧ Below w.heap.size w w') := fun w h => implPg_any st wh bo w (by omega) (by omega) h
  clear ht
  generalize pgS st wh bo = t at HS HI
  generalize pgC st wh bo = c at HS HI
  have hnc : (c != c) = false := by simp
  have hnt : (t.toList == t.toList) = true := by simp
  go_enter Tryd.func7, Tryd.ntmps7
  go_wp2_with fail
  refine (HS.out _).mono ?_
  rintro e w1 ⟨rfl, b1⟩
  have B1 : Hid (Below w.heap.size w w1) := b1
  clear b1
  go_wp2_with fail
  refine (HI.out _ (HT.out.now B1.out)).mono ?_
  rintro e w2 ⟨rfl, b2⟩
  have B2 : Hid (Below w.heap.size w w2) := B1.out.trans (b2.mono B1.out.size)
  clear b2
  go_wp2
  go_ret
  exact ⟨rfl, B2.out⟩
end Go.Proofs.YtappekglflgodaaDoor
