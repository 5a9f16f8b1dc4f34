/- Connections that come in as an argument, opened. -/
import Derived.Test.YtlebblmlbhnppaaGreatCoV
import Derived.Test.YtlebblmlbhnppaaGreatProg
namespace Go.Proofs.YtlebblmlbhnppaaGreat
open Go.RowKit Go.PlainAid
set_option linter.unusedVariables false

theorem wsets11 (w : World) (g i : Nat) (v0 v1 v2 v3 v4 v5 v6 v7 v8 v9 v10 : Value) : wsets w g i [v0, v1, v2, v3, v4, v5, v6, v7, v8, v9, v10] = ((((((((((w.setCell ⟨g, i, Option.none⟩ v0).setCell ⟨g, i + 1, Option.none⟩ v1).setCell ⟨g, i + 2, Option.none⟩ v2).setCell ⟨g, i + 3, Option.none⟩ v3).setCell ⟨g, i + 4, Option.none⟩ v4).setCell ⟨g, i + 5, Option.none⟩ v5).setCell ⟨g, i + 6, Option.none⟩ v6).setCell ⟨g, i + 7, Option.none⟩ v7).setCell ⟨g, i + 8, Option.none⟩ v8).setCell ⟨g, i + 9, Option.none⟩ v9).setCell ⟨g, i + 10, Option.none⟩ v10 := rfl
section OpnC
variable {H : Type} {enc : TypeId × Value → H} {w : World} {base : Nat} {spare : Nat → Bool} {held : Bool} {fuel : Nat} {cs : List Value} {x : DataW H × List MemPlace}

theorem gis11 {α : Type} {cs : List α} (h : cs.length = 11) : ∃ c0 c1 c2 c3 c4 c5 c6 c7 c8 c9 c10, cs = [c0, c1, c2, c3, c4, c5, c6, c7, c8, c9, c10] := by
  match cs, h with
  | [c0, c1, c2, c3, c4, c5, c6, c7, c8, c9, c10], _ => exact ⟨c0, c1, c2, c3, c4, c5, c6, c7, c8, c9, c10, rfl⟩

theorem c11_Conn : Tryz.prog.cellsOf 220 = 11 := by kernel_rfl
theorem c11_int : Tryz.prog.cellsOf 3 = 1 := by kernel_rfl
theorem c11_string : Tryz.prog.cellsOf 9 = 1 := by kernel_rfl
theorem c11_bool : Tryz.prog.cellsOf 4 = 1 := by kernel_rfl
theorem open_conn (h : DataW.trod enc Tryz.prog w base spare held fuel 220 cs = some x) : ∃ d, CnR w d cs := by
  obtain ⟨xs, m, _, _, hcl, hlen, hfld⟩ := DataW.trod_struct Tryz.underlying220 h
  rw [c11_Conn] at hcl
  obtain ⟨c0, c1, c2, c3, c4, c5, c6, c7, c8, c9, c10, rfl⟩ := gis11 hcl
  replace hlen : xs.length = 11 := hlen
  have e0 := hfld 0 _ rfl
  rw [List.getElem?_eq_getElem (by omega)] at e0
  obtain ⟨a0, q0, _, w0⟩ := DataW.trod_string Tryz.underlying9 e0
  simp [c11_string] at q0
  subst q0
  have e1 := hfld 1 _ rfl
  rw [List.getElem?_eq_getElem (by omega)] at e1
  obtain ⟨a1, q1, _, w1⟩ := DataW.trod_int Tryz.underlying3 e1
  simp [c11_int] at q1
  subst q1
  have e2 := hfld 2 _ rfl
  rw [List.getElem?_eq_getElem (by omega)] at e2
  obtain ⟨a2, q2, _, w2⟩ := DataW.trod_int Tryz.underlying3 e2
  simp [c11_int] at q2
  subst q2
  have e3 := hfld 3 _ rfl
  rw [List.getElem?_eq_getElem (by omega)] at e3
  obtain ⟨a3, q3, _, w3⟩ := DataW.trod_int Tryz.underlying3 e3
  simp [c11_int] at q3
  subst q3
  have e4 := hfld 4 _ rfl
  rw [List.getElem?_eq_getElem (by omega)] at e4
  obtain ⟨a4, q4, _, w4⟩ := DataW.trod_int Tryz.underlying3 e4
  simp [c11_int] at q4
  subst q4
  have e5 := hfld 5 _ rfl
  rw [List.getElem?_eq_getElem (by omega)] at e5
  obtain ⟨a5, q5, _, w5⟩ := DataW.trod_int Tryz.underlying3 e5
  simp [c11_int] at q5
  subst q5
  have e6 := hfld 6 _ rfl
  rw [List.getElem?_eq_getElem (by omega)] at e6
  obtain ⟨a6, q6, _, w6⟩ := DataW.trod_int Tryz.underlying3 e6
  simp [c11_int] at q6
  subst q6
  have e7 := hfld 7 _ rfl
  rw [List.getElem?_eq_getElem (by omega)] at e7
  obtain ⟨a7, q7, _, w7⟩ := DataW.trod_int Tryz.underlying3 e7
  simp [c11_int] at q7
  subst q7
  have e8 := hfld 8 _ rfl
  rw [List.getElem?_eq_getElem (by omega)] at e8
  obtain ⟨a8, q8, _, w8⟩ := DataW.trod_string Tryz.underlying9 e8
  simp [c11_string] at q8
  subst q8
  have e9 := hfld 9 _ rfl
  rw [List.getElem?_eq_getElem (by omega)] at e9
  obtain ⟨a9, q9, _, w9⟩ := DataW.trod_string Tryz.underlying9 e9
  simp [c11_string] at q9
  subst q9
  have e10 := hfld 10 _ rfl
  rw [List.getElem?_eq_getElem (by omega)] at e10
  obtain ⟨a10, q10, _⟩ := DataW.trod_bool Tryz.underlying4 e10
  simp [c11_bool] at q10
  subst q10
  exact ⟨⟨a0, a1, a2, a3, a4, a5, a6, a7, a8, a9, a10⟩, rfl, w0, w1, w2, w3, w4, w5, w6, w7, w8, w9⟩

theorem open_conns (h : DataW.trod enc Tryz.prog w base spare held fuel 63 cs = some x) : ∃ (a : Option Addr) (len cap : Nat) (xs : List ConnV), cs = [.slice a len cap] ∧ xs.length = len ∧ len ≤ cap ∧ cap ≤ maxLen ∧ (a = none → cap = 0) ∧ Rw CnR 11 w a xs :=
  rows_of CnR 11 Tryz.underlying63 c11_Conn (by omega) (fun _ _ _ h => open_conn h) h

end OpnC
end Go.Proofs.YtlebblmlbhnppaaGreat
