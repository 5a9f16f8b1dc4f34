/- The program's two tables of hashes, as the rows list them, lie cell for cell in their variables. -/
import Derived.Test.YtimhkeebgogfoabDoorRows
import Derived.Test.YtimhkeebgogfoabDoorHashI
import Derived.ProofKit
import Derived.LaidMore
import Derived.Stop.Joined
import Derived.Lib.LaidTab
namespace Go.Proofs.YtimhkeebgogfoabDoor
open Go.RowKit
set_option linter.unusedVariables false
set_option maxRecDepth 20000
theorem gHB : Tryd.prog.globalNamed "loop.example/g00356/impl.hashBegin" = some 0 := by kernel_rfl
theorem tHB : (Tryd.prog.globals[0]?).map (·.type) = some 41 := by kernel_rfl
theorem gKW : Tryd.prog.globalNamed "loop.example/g00356/impl.roundWords" = some 1 := by kernel_rfl
theorem tKW : (Tryd.prog.globals[1]?).map (·.type) = some 51 := by kernel_rfl
theorem cWd : Tryd.prog.cellsOf 39 = 1 := by kernel_rfl
theorem cHB : Tryd.prog.cellsOf 41 = 8 := by kernel_rfl
theorem cKW : Tryd.prog.cellsOf 51 = 64 := by kernel_rfl
theorem hb_is : (Rows.laid_loop_example_g00356_impl_hashBegin : DataW Unit) = Lib.tabData .u32 hbs := by kernel_rfl
theorem kw_is : (Rows.laid_loop_example_g00356_impl_roundWords : DataW Unit) = Lib.tabData .u32 kks := by kernel_rfl
theorem tab_at (L : List Int) (n i : Nat) (hL : L.length = n) (hi : i < n) : (L.map fun z => Value.int .u32 z)[i]? = some (.int .u32 (L.getD i 0)) := by
  rw [List.getElem?_map, List.getElem?_eq_getElem (by omega), List.getD_eq_getElem?_getD, List.getElem?_eq_getElem (by omega)]
  rfl
theorem hash_of_laid {W : World} (h : laidMetH Tryd.prog [("loop.example/g00356/impl.hashBegin", Rows.laid_loop_example_g00356_impl_hashBegin), ("loop.example/g00356/impl.roundWords", Rows.laid_loop_example_g00356_impl_roundWords)] W) : KTab W ∧ HTab W := by
  rw [MakeChecks.laidMetH_plain _ _ _ (by kernel_rfl)] at h
  obtain ⟨ps, ⟨g0, t0, cs0, f0, p0, q0, hg0, ht0, hv0, hd0, ⟨g1, t1, cs1, f1, p1, q1, hg1, ht1, hv1, hd1, _⟩, _⟩, _⟩ := h
  obtain rfl := Option.some.inj (gHB.symm.trans hg0)
  obtain rfl := Option.some.inj (tHB.symm.trans ht0)
  obtain rfl := Option.some.inj (gKW.symm.trans hg1)
  obtain rfl := Option.some.inj (tKW.symm.trans ht1)
  rw [hb_is] at hd0
  rw [kw_is] at hd1
  have e0 := Lib.cells_of_tab Tryd.underlying41 Tryd.underlying39 cWd cHB hd0
  have e1 := Lib.cells_of_tab Tryd.underlying51 Tryd.underlying39 cWd cKW hd1
  refine ⟨fun i hi => ?_, fun i hi => ?_⟩
  · rw [World.var?_cell hg1 hv1 i, ← Array.getElem?_toList, e1]
    exact tab_at kks 64 i rfl hi
  · rw [World.var?_cell hg0 hv0 i, ← Array.getElem?_toList, e0]
    exact tab_at hbs 8 i rfl hi
end Go.Proofs.YtimhkeebgogfoabDoor
