/- The program's table of the sum of zip files, as its row lists it, lies cell for cell in its variable. -/
import Derived.Test.YtmhlanbmlkidhabDoorRows
import Derived.Test.YtmhlanbmlkidhabDoorCrc
import Derived.ProofKit
import Derived.LaidMore
import Derived.Stop.Joined
import Derived.Lib.LaidTab
namespace Go.Proofs.YtmhlanbmlkidhabDoor
open Go.RowKit
set_option linter.unusedVariables false
set_option maxRecDepth 20000
theorem gCrc : Tryd.prog.globalNamed "loop.example/g00356/impl.checkSteps" = some 1 := by kernel_rfl
theorem tCrc : (Tryd.prog.globals[1]?).map (·.type) = some 38 := by kernel_rfl
theorem cU32 : Tryd.prog.cellsOf 31 = 1 := by kernel_rfl
theorem cCrc : Tryd.prog.cellsOf 38 = 16 := by kernel_rfl
theorem crc_is : (Rows.laid_loop_example_g00356_impl_checkSteps : DataW Unit) = Lib.tabData .u32 (ctab.map Int.ofNat) := by kernel_rfl
theorem crc_of_laid {W : World} (h : laidMetH Tryd.prog [("loop.example/g00356/impl.checkSteps", Rows.laid_loop_example_g00356_impl_checkSteps)] W) : CTab W := by
  rw [MakeChecks.laidMetH_plain _ _ _ (by kernel_rfl)] at h
  obtain ⟨ps, ⟨g0, t0, cs0, f0, p0, q0, hg0, ht0, hv0, hd0, _⟩, _⟩ := h
  obtain rfl := Option.some.inj (gCrc.symm.trans hg0)
  obtain rfl := Option.some.inj (tCrc.symm.trans ht0)
  rw [crc_is] at hd0
  have hcs := Lib.cells_of_tab Tryd.underlying38 Tryd.underlying31 cU32 cCrc hd0
  intro i hi
  rw [World.var?_cell hg0 hv0 i, ← Array.getElem?_toList, hcs]
  have : ∀ j : Fin 16, ((ctab.map Int.ofNat).map fun z => Value.int .u32 z)[j.val]? = some (.int .u32 ((ctab.getD j.val 0 : Nat) : Int)) := by
    intro j
    rw [List.getElem?_map, List.getElem?_map, List.getElem?_eq_getElem (show j.val < ctab.length from j.isLt), List.getD_eq_getElem?_getD, List.getElem?_eq_getElem (show j.val < ctab.length from j.isLt)]
    rfl
  exact this ⟨i, hi⟩
end Go.Proofs.YtmhlanbmlkidhabDoor
