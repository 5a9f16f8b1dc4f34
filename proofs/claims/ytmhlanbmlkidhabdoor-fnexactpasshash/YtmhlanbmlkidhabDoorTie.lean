/-
  DERIVED. GIVEN WITH THE SEED: THE PROGRAM's TIES (one call each: nine closed facts by the kernel) AND EACH ROW's TIE, after the 31st guide's Derived/Test/Toyas{Tie, Card}.lean. No idea stands in it: it is a product of the set-up. Laid BY PROGRAM, IN A SANDBOX (cutbox-door.mjs). By AI agents, Wed Nov 11 2026. No macro, syntax, notation, axiom, sorry.
-/
import Derived.Test.YtmhlanbmlkidhabDoorRows
import Derived.LaidByTextLater
import Derived.SevenTiedAt
import Derived.LaidSub
import Derived.LaidOnce
namespace Go.Proofs.YtmhlanbmlkidhabDoor
open Go
set_option maxRecDepth 100000
theorem seatTie1 : Tryd.prog.laidByTextLater [("loop.example/g00356/impl.hashBegin", Rows.laid_loop_example_g00356_impl_hashBegin), ("loop.example/g00356/impl.roundWords", Rows.laid_loop_example_g00356_impl_roundWords), ("loop.example/g00356/impl.checkSteps", Rows.laid_loop_example_g00356_impl_checkSteps)] [.data, .data, .data] true :=
  Program.laidByTextLater_by_one 24 8 65 (by kernel_rfl) (by kernel_rfl) (by kernel_rfl) (by kernel_rfl) (by kernel_rfl) (by kernel_rfl) (fun _ _ => by kernel_rfl)
theorem noOwnUnsafe : Tryd.pinned.checked.prog.headLifts.contains "ownunsafe" = false := by kernel_rfl
theorem tie : Tryd.prog.laidByTextLater [("loop.example/g00356/impl.hashBegin", Rows.laid_loop_example_g00356_impl_hashBegin), ("loop.example/g00356/impl.roundWords", Rows.laid_loop_example_g00356_impl_roundWords)] [.data, .data] true :=
  Program.laidByTextLater.sub seatTie1 ["loop.example/g00356/impl.hashBegin", "loop.example/g00356/impl.roundWords"] (by kernel_rfl) (by kernel_rfl)
theorem fnExactHash_row_tie : Rows.fnExactHashRow.laidByTextAt .later Tryd.pinned [.data, .data] true :=
  OpenClaim.laidByTextAt_later rfl rfl tie noOwnUnsafe
theorem fnExactPassHash_row_tie : Rows.fnExactPassHashRow.laidByTextAt .later Tryd.pinned [.data, .data] true :=
  OpenClaim.laidByTextAt_later rfl rfl tie noOwnUnsafe
theorem tie2 : Tryd.prog.laidByTextLater [("loop.example/g00356/impl.checkSteps", Rows.laid_loop_example_g00356_impl_checkSteps)] [.data] true :=
  Program.laidByTextLater.sub seatTie1 ["loop.example/g00356/impl.checkSteps"] (by kernel_rfl) (by kernel_rfl)
theorem fnExactCheck32_row_tie : Rows.fnExactCheck32Row.laidByTextAt .later Tryd.pinned [.data] true :=
  OpenClaim.laidByTextAt_later rfl rfl tie2 noOwnUnsafe
theorem fnExactHashUpto_row_tie : Rows.fnExactHashUptoRow.laidByTextAt .later Tryd.pinned [.data, .data] true :=
  OpenClaim.laidByTextAt_later rfl rfl tie noOwnUnsafe
theorem fnExactCheck32Upto_row_tie : Rows.fnExactCheck32UptoRow.laidByTextAt .later Tryd.pinned [.data] true :=
  OpenClaim.laidByTextAt_later rfl rfl tie2 noOwnUnsafe
theorem fnExactPassHashUpto_row_tie : Rows.fnExactPassHashUptoRow.laidByTextAt .later Tryd.pinned [.data, .data] true :=
  OpenClaim.laidByTextAt_later rfl rfl tie noOwnUnsafe
end Go.Proofs.YtmhlanbmlkidhabDoor
