/- The program's two tables of hashes, as the rows list them, lie cell for cell in their variables. A slice of bytes that came in, as a row of bytes; a world with new blocks alone is one that keeps what was there. Nothing of the program is imported. -/
import Derived.Test.YtnlepjcjakghcaaGreatDoorRows
import Derived.Test.YtnlepjcjakghcaaGreatDoorJ11
import Derived.ProofKit
import Derived.LaidMore
import Derived.Stop.Joined
import Derived.Lib.LaidTab
namespace Go.Proofs.YtnlepjcjakghcaaGreatDoor
open Go.RowKit
set_option linter.unusedVariables false
set_option maxRecDepth 20000
theorem gHB : Tryz.prog.globalNamed "loop.example/g00356/impl.hashBegin" = some 0 := by kernel_rfl
theorem tHB : (Tryz.prog.globals[0]?).map (·.type) = some 77 := by kernel_rfl
theorem gKW : Tryz.prog.globalNamed "loop.example/g00356/impl.roundWords" = some 1 := by kernel_rfl
theorem tKW : (Tryz.prog.globals[1]?).map (·.type) = some 126 := by kernel_rfl
theorem cWd : Tryz.prog.cellsOf 75 = 1 := by kernel_rfl
theorem cHB : Tryz.prog.cellsOf 77 = 8 := by kernel_rfl
theorem cKW : Tryz.prog.cellsOf 126 = 64 := by kernel_rfl
theorem hb_is : (Rows.laid_loop_example_g00356_impl_hashBegin : DataW Unit) = Lib.tabData .u32 hbs := by kernel_rfl
theorem kw_is : (Rows.laid_loop_example_g00356_impl_roundWords : DataW Unit) = Lib.tabData .u32 kks := by kernel_rfl
theorem tab_at (L : List Int) (n i : Nat) (hL : L.length = n) (hi : i < n) : (L.map fun z => Value.int .u32 z)[i]? = some (.int .u32 (L.getD i 0)) := by
  rw [List.getElem?_map, List.getElem?_eq_getElem (by omega), List.getD_eq_getElem?_getD, List.getElem?_eq_getElem (by omega)]
  rfl
theorem hash_of_laid {W : World} (h : laidMetH Tryz.prog [("loop.example/g00356/impl.hashBegin", Rows.laid_loop_example_g00356_impl_hashBegin), ("loop.example/g00356/impl.roundWords", Rows.laid_loop_example_g00356_impl_roundWords)] W) : KTab W ∧ HTab W := by
  rw [MakeChecks.laidMetH_plain _ _ _ (by kernel_rfl)] at h
  obtain ⟨ps, ⟨g0, t0, cs0, f0, p0, q0, hg0, ht0, hv0, hd0, ⟨g1, t1, cs1, f1, p1, q1, hg1, ht1, hv1, hd1, _⟩, _⟩, _⟩ := h
  obtain rfl := Option.some.inj (gHB.symm.trans hg0)
  obtain rfl := Option.some.inj (tHB.symm.trans ht0)
  obtain rfl := Option.some.inj (gKW.symm.trans hg1)
  obtain rfl := Option.some.inj (tKW.symm.trans ht1)
  rw [hb_is] at hd0
  rw [kw_is] at hd1
  have e0 := Lib.cells_of_tab Tryz.underlying77 Tryz.underlying75 cWd cHB hd0
  have e1 := Lib.cells_of_tab Tryz.underlying126 Tryz.underlying75 cWd cKW hd1
  refine ⟨fun i hi => ?_, fun i hi => ?_⟩
  · rw [World.var?_cell hg1 hv1 i, ← Array.getElem?_toList, e1]
    exact tab_at kks 64 i rfl hi
  · rw [World.var?_cell hg0 hv0 i, ← Array.getElem?_toList, e0]
    exact tab_at hbs 8 i rfl hi
end Go.Proofs.YtnlepjcjakghcaaGreatDoor

namespace Go.Proofs.YtnlepjcjakghcaaGreatDoor
open Go.RowKit Go.PlainAid
set_option linter.unusedVariables false

theorem bytes_of_row {w : World} {a : Option Addr} {len cap : Nat} {zs : List Int}
    (h : (a = none ∧ len = 0 ∧ cap = 0 ∧ zs = []) ∨ ∃ x, a = some x ∧ len ≤ cap ∧ cap ≤ maxLen ∧ zs.length = cap ∧ (∀ i, i < zs.length → w.cell? (x.add i) = some (.int .u8 (zs.getD i 0))) ∧ ∀ n ∈ zs, (Lit.int .u8 n).wf = true) :
    ∃ f, Bytes w a len f ∧ (∀ b off, 0 < len → a = some ⟨b, off, none⟩ → b < w.heap.size) ∧ len ≤ maxLen := by
  rcases h with ⟨rfl, rfl, rfl, rfl⟩ | ⟨x, rfl, hl, hm, hz, hcell, hwz⟩
  · exact ⟨fun _ => 0, ⟨fun _ => ⟨Int.le_refl _, by simp⟩, fun h => absurd h (by omega)⟩, fun b off h => absurd h (by omega), Nat.zero_le _⟩
  · refine ⟨fun j => zs.getD j 0, ⟨fun k => ?_, fun h0 => ?_⟩, ?_, by omega⟩
    · by_cases hk : k < zs.length
      · show 0 ≤ zs.getD k 0 ∧ zs.getD k 0 ≤ 255
        rw [List.getD_eq_getElem?_getD, List.getElem?_eq_getElem hk]
        exact bounds_u8 (hwz _ (List.getElem_mem hk))
      · show 0 ≤ zs.getD k 0 ∧ zs.getD k 0 ≤ 255
        rw [List.getD_eq_getElem?_getD, List.getElem?_eq_none (by omega)]; simp
    · obtain ⟨b, off, spot⟩ := x
      have hc := hcell 0 (by omega)
      have hspot : spot = none := by simpa [Addr.add] using World.cell?_spot hc
      subst hspot
      refine ⟨b, off, rfl, fun i hi => ?_⟩
      have ea : (⟨b, off, none⟩ : Addr).add i = ⟨b, off + i, none⟩ := by unfold Addr.add; split <;> simp_all
      have := hcell i (by omega)
      rwa [ea] at this
    · intro b off h0 hx
      cases hx
      have hc := hcell 0 (by omega)
      simpa [Addr.add] using World.block_lt_of_cell? w _ hc
end Go.Proofs.YtnlepjcjakghcaaGreatDoor
