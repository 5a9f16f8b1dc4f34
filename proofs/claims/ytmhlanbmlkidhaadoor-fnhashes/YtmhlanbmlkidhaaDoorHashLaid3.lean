/- The program's three tables of hashes and sums, as the rows list them, lie cell for cell in their variables. -/
import Derived.Test.YtmhlanbmlkidhaaDoorRows
import Derived.Test.YtmhlanbmlkidhaaDoorHashI
import Derived.Test.YtmhlanbmlkidhaaDoorCrc
import Derived.OpenShut
import Derived.ProofKit
import Derived.LaidMore
import Derived.Stop.Joined
import Derived.Lib.LaidTab
namespace Go.Proofs.YtmhlanbmlkidhaaDoor
open Go.RowKit
set_option linter.unusedVariables false
set_option maxRecDepth 20000
theorem gHB : Tryd.prog.globalNamed "loop.example/g00356/impl.hashBegin" = some 0 := by kernel_rfl
theorem tHB : (Tryd.prog.globals[0]?).map (·.type) = some 81 := by kernel_rfl
theorem gKW : Tryd.prog.globalNamed "loop.example/g00356/impl.roundWords" = some 2 := by kernel_rfl
theorem tKW : (Tryd.prog.globals[2]?).map (·.type) = some 117 := by kernel_rfl
theorem cWd : Tryd.prog.cellsOf 79 = 1 := by kernel_rfl
theorem cHB : Tryd.prog.cellsOf 81 = 8 := by kernel_rfl
theorem cKW : Tryd.prog.cellsOf 117 = 64 := by kernel_rfl
theorem hb_is : (Rows.laid_loop_example_g00356_impl_hashBegin : DataW Unit) = Lib.tabData .u32 hbs := by kernel_rfl
theorem kw_is : (Rows.laid_loop_example_g00356_impl_roundWords : DataW Unit) = Lib.tabData .u32 kks := by kernel_rfl
theorem tab_at (L : List Int) (n i : Nat) (hL : L.length = n) (hi : i < n) : (L.map fun z => Value.int .u32 z)[i]? = some (.int .u32 (L.getD i 0)) := by
  rw [List.getElem?_map, List.getElem?_eq_getElem (by omega), List.getD_eq_getElem?_getD, List.getElem?_eq_getElem (by omega)]
  rfl
theorem gCrc : Tryd.prog.globalNamed "loop.example/g00356/impl.checkSteps" = some 1 := by kernel_rfl
theorem tCrc : (Tryd.prog.globals[1]?).map (·.type) = some 85 := by kernel_rfl
theorem cCrc : Tryd.prog.cellsOf 85 = 16 := by kernel_rfl
theorem crc_is : (Rows.laid_loop_example_g00356_impl_checkSteps : DataW Unit) = Lib.tabData .u32 (ctab.map Int.ofNat) := by kernel_rfl
theorem trodVars_three {H : Type} {enc : TypeId × Value → H} {P : Program} {w : World} {spare : Nat → Bool} {n0 n1 n2 : String} {gs : List (DataW H)} {ps : List MemPlace} (h : DataW.TrodVars enc P w spare [n0, n1, n2] gs ps) : ∃ d0 d1 d2, gs = [d0, d1, d2] := by
  cases gs with
  | nil => simp [DataW.TrodVars] at h
  | cons d ds =>
    obtain ⟨g0, t0, cs0, f0, p0, q0, h1, h2, h3, h4, hs, e⟩ := h
    obtain ⟨_, _, _, _, d1, _, _, _, _, _, d2, _, rfl, _⟩ := trodVars_two hs
    exact ⟨d, d1, d2, rfl⟩
theorem hashes_of_laid {W : World} (h : laidMetH Tryd.prog [("loop.example/g00356/impl.hashBegin", Rows.laid_loop_example_g00356_impl_hashBegin), ("loop.example/g00356/impl.roundWords", Rows.laid_loop_example_g00356_impl_roundWords), ("loop.example/g00356/impl.checkSteps", Rows.laid_loop_example_g00356_impl_checkSteps)] W) : KTab W ∧ HTab W ∧ CTab W := by
  rw [MakeChecks.laidMetH_plain _ _ _ (by kernel_rfl)] at h
  obtain ⟨ps, ⟨g0, t0, cs0, f0, p0, q0, hg0, ht0, hv0, hd0, ⟨g1, t1, cs1, f1, p1, q1, hg1, ht1, hv1, hd1, ⟨g2, t2, cs2, f2, p2, q2, hg2, ht2, hv2, hd2, _⟩, _⟩, _⟩, _⟩ := h
  obtain rfl := Option.some.inj (gHB.symm.trans hg0)
  obtain rfl := Option.some.inj (tHB.symm.trans ht0)
  obtain rfl := Option.some.inj (gKW.symm.trans hg1)
  obtain rfl := Option.some.inj (tKW.symm.trans ht1)
  obtain rfl := Option.some.inj (gCrc.symm.trans hg2)
  obtain rfl := Option.some.inj (tCrc.symm.trans ht2)
  rw [hb_is] at hd0
  rw [kw_is] at hd1
  rw [crc_is] at hd2
  have e0 := Lib.cells_of_tab Tryd.underlying81 Tryd.underlying79 cWd cHB hd0
  have e1 := Lib.cells_of_tab Tryd.underlying117 Tryd.underlying79 cWd cKW hd1
  have e2 := Lib.cells_of_tab Tryd.underlying85 Tryd.underlying79 cWd cCrc hd2
  refine ⟨fun i hi => ?_, fun i hi => ?_, fun i hi => ?_⟩
  · rw [World.var?_cell hg1 hv1 i, ← Array.getElem?_toList, e1]
    exact tab_at kks 64 i rfl hi
  · rw [World.var?_cell hg0 hv0 i, ← Array.getElem?_toList, e0]
    exact tab_at hbs 8 i rfl hi
  · rw [World.var?_cell hg2 hv2 i, ← Array.getElem?_toList, e2]
    have := tab_at (ctab.map Int.ofNat) 16 i rfl hi
    rw [this]
    congr 2
    rw [List.getD_eq_getElem?_getD, List.getD_eq_getElem?_getD, List.getElem?_map]
    cases ctab[i]? <;> rfl
end Go.Proofs.YtmhlanbmlkidhaaDoor
