/- Pairs that come in as an argument, opened. -/
import Derived.Test.YtbpdfkngkkopbaaPrV
import Derived.Test.YtbpdfkngkkopbaaProg
namespace Go.Proofs.Ytbpdfkngkkopbaa
open Go.RowKit Go.PlainAid
set_option linter.unusedVariables false

section OpnP
variable {H : Type} {enc : TypeId × Value → H} {w : World} {base : Nat} {spare : Nat → Bool} {held : Bool} {fuel : Nat} {cs : List Value} {x : DataW H × List MemPlace}

theorem gisP {α : Type} {cs : List α} (h : cs.length = 2) : ∃ c0 c1, cs = [c0, c1] := by
  match cs, h with
  | [c0, c1], _ => exact ⟨c0, c1, rfl⟩

theorem fP_Pair : Try.prog.cellsOf 32 = 2 := by kernel_rfl
theorem fP_int : Try.prog.cellsOf 3 = 1 := by kernel_rfl
theorem fP_string : Try.prog.cellsOf 9 = 1 := by kernel_rfl
theorem open_pair (h : DataW.trod enc Try.prog w base spare held fuel 32 cs = some x) : ∃ d, PrR w d cs := by
  obtain ⟨xs, m, _, _, hcl, hlen, hfld⟩ := DataW.trod_struct Try.underlying32 h
  rw [fP_Pair] at hcl
  obtain ⟨c0, c1, rfl⟩ := gisP hcl
  replace hlen : xs.length = 2 := hlen
  have e0 := hfld 0 _ rfl
  rw [List.getElem?_eq_getElem (by omega)] at e0
  obtain ⟨a0, q0, _, w0⟩ := DataW.trod_string Try.underlying9 e0
  simp [fP_string] at q0
  subst q0
  have e1 := hfld 1 _ rfl
  rw [List.getElem?_eq_getElem (by omega)] at e1
  obtain ⟨a1, q1, _, w1⟩ := DataW.trod_string Try.underlying9 e1
  simp [fP_string] at q1
  subst q1
  exact ⟨⟨a0, a1⟩, rfl, w0, w1⟩

theorem open_pairs (h : DataW.trod enc Try.prog w base spare held fuel 22 cs = some x) : ∃ (a : Option Addr) (len cap : Nat) (xs : List PairV), cs = [.slice a len cap] ∧ xs.length = len ∧ len ≤ cap ∧ cap ≤ maxLen ∧ (a = none → cap = 0) ∧ Rw PrR 2 w a xs :=
  rows_of PrR 2 Try.underlying22 fP_Pair (by omega) (fun _ _ _ h => open_pair h) h

end OpnP
end Go.Proofs.Ytbpdfkngkkopbaa
