/- Flows that come in as an argument, opened. -/
import Derived.Test.YtlebblmlbhnppaaGreatFlV
import Derived.Test.YtlebblmlbhnppaaGreatProg
namespace Go.Proofs.YtlebblmlbhnppaaGreat
open Go.RowKit Go.PlainAid
set_option linter.unusedVariables false

section OpnF
variable {H : Type} {enc : TypeId × Value → H} {w : World} {base : Nat} {spare : Nat → Bool} {held : Bool} {fuel : Nat} {cs : List Value} {x : DataW H × List MemPlace}

theorem gis9 {α : Type} {cs : List α} (h : cs.length = 9) : ∃ c0 c1 c2 c3 c4 c5 c6 c7 c8, cs = [c0, c1, c2, c3, c4, c5, c6, c7, c8] := by
  match cs, h with
  | [c0, c1, c2, c3, c4, c5, c6, c7, c8], _ => exact ⟨c0, c1, c2, c3, c4, c5, c6, c7, c8, rfl⟩

theorem f9_Flow : Tryz.prog.cellsOf 218 = 9 := by kernel_rfl
theorem f9_int : Tryz.prog.cellsOf 3 = 1 := by kernel_rfl
theorem f9_string : Tryz.prog.cellsOf 9 = 1 := by kernel_rfl
theorem open_flow (h : DataW.trod enc Tryz.prog w base spare held fuel 218 cs = some x) : ∃ d, FlR w d cs := by
  obtain ⟨xs, m, _, _, hcl, hlen, hfld⟩ := DataW.trod_struct Tryz.underlying218 h
  rw [f9_Flow] at hcl
  obtain ⟨c0, c1, c2, c3, c4, c5, c6, c7, c8, rfl⟩ := gis9 hcl
  replace hlen : xs.length = 9 := hlen
  have e0 := hfld 0 _ rfl
  rw [List.getElem?_eq_getElem (by omega)] at e0
  obtain ⟨a0, q0, _, w0⟩ := DataW.trod_int Tryz.underlying3 e0
  simp [f9_int] at q0
  subst q0
  have e1 := hfld 1 _ rfl
  rw [List.getElem?_eq_getElem (by omega)] at e1
  obtain ⟨a1, q1, _, w1⟩ := DataW.trod_string Tryz.underlying9 e1
  simp [f9_string] at q1
  subst q1
  have e2 := hfld 2 _ rfl
  rw [List.getElem?_eq_getElem (by omega)] at e2
  obtain ⟨a2, q2, _, w2⟩ := DataW.trod_int Tryz.underlying3 e2
  simp [f9_int] at q2
  subst q2
  have e3 := hfld 3 _ rfl
  rw [List.getElem?_eq_getElem (by omega)] at e3
  obtain ⟨a3, q3, _, w3⟩ := DataW.trod_int Tryz.underlying3 e3
  simp [f9_int] at q3
  subst q3
  have e4 := hfld 4 _ rfl
  rw [List.getElem?_eq_getElem (by omega)] at e4
  obtain ⟨a4, q4, _, w4⟩ := DataW.trod_int Tryz.underlying3 e4
  simp [f9_int] at q4
  subst q4
  have e5 := hfld 5 _ rfl
  rw [List.getElem?_eq_getElem (by omega)] at e5
  obtain ⟨a5, q5, _, w5⟩ := DataW.trod_int Tryz.underlying3 e5
  simp [f9_int] at q5
  subst q5
  have e6 := hfld 6 _ rfl
  rw [List.getElem?_eq_getElem (by omega)] at e6
  obtain ⟨a6, q6, _, w6⟩ := DataW.trod_int Tryz.underlying3 e6
  simp [f9_int] at q6
  subst q6
  have e7 := hfld 7 _ rfl
  rw [List.getElem?_eq_getElem (by omega)] at e7
  obtain ⟨a7, q7, _, w7⟩ := DataW.trod_int Tryz.underlying3 e7
  simp [f9_int] at q7
  subst q7
  have e8 := hfld 8 _ rfl
  rw [List.getElem?_eq_getElem (by omega)] at e8
  obtain ⟨a8, q8, _, w8⟩ := DataW.trod_int Tryz.underlying3 e8
  simp [f9_int] at q8
  subst q8
  exact ⟨⟨a0, a1, a2, a3, a4, a5, a6, a7, a8⟩, rfl, w0, w1, w2, w3, w4, w5, w6, w7, w8⟩

theorem open_flows (h : DataW.trod enc Tryz.prog w base spare held fuel 62 cs = some x) : ∃ (a : Option Addr) (len cap : Nat) (xs : List FlowV), cs = [.slice a len cap] ∧ xs.length = len ∧ len ≤ cap ∧ cap ≤ maxLen ∧ (a = none → cap = 0) ∧ Rw FlR 9 w a xs :=
  rows_of FlR 9 Tryz.underlying62 f9_Flow (by omega) (fun _ _ _ h => open_flow h) h

end OpnF
end Go.Proofs.YtlebblmlbhnppaaGreat
