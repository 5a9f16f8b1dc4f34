/- Parts of a list of numbers as texts and numbers. -/
import Derived.Test.YtcgdpijmfgkalaaCutting
namespace Go.Proofs.Ytcgdpijmfgkalaa
open Go.RowKit Go.PlainAid
set_option linter.unusedVariables false
set_option maxRecDepth 20000

theorem part_list (L : List Int) (a m : Nat) (h : a + m ≤ L.length) : (List.range m).map (fun j => L.getD (a + j) 0) = (L.drop a).take m := by
  apply List.ext_getElem?
  intro i
  by_cases hi : i < m
  · rw [List.getElem?_map, List.getElem?_range hi, List.getElem?_take_of_lt hi, List.getElem?_drop, List.getElem?_eq_getElem (show a + i < L.length by omega)]
    simp only [Option.map_some, List.getD_eq_getElem?_getD]
    rw [List.getElem?_eq_getElem (show a + i < L.length by omega)]
    rfl
  · rw [List.getElem?_eq_none (by simp; omega), List.getElem?_eq_none (by simp; omega)]
theorem ps_list (L : List Int) (hL : ∀ x ∈ L, 0 ≤ x ∧ x ≤ 255) (a m : Nat) (h : a + m ≤ L.length) (s : ByteArray) (hs : (L.drop a).take m = nums s) : ps (fun j => L.getD j 0) a m = s := by
  apply nums_inj
  rw [ps, nums_strOf _ _ (fun k => getD_bd hL _), part_list L a m h, hs]
theorem pn_list (L : List Int) (a m : Nat) (h : a + m ≤ L.length) (n : Int) (hs : (L.drop a).take m = nbl n m) : pn (fun j => L.getD j 0) a m = numOf (nb n m) m := by
  unfold pn
  apply numOf_congr
  intro j hj
  have e := part_list L a m h
  rw [hs] at e
  have := congrArg (fun l => l[j]?) e
  simp only [nbl, List.getElem?_map, List.getElem?_range hj, Option.map_some, Option.some.injEq] at this
  exact this
theorem num2 (n : Int) (h0 : 0 ≤ n) (h1 : n ≤ 65535) : numOf (nb n 2) 2 = n := by simp only [numOf, nb]; omega
theorem num4 (n : Int) (h0 : 0 ≤ n) (h1 : n ≤ 4294967295) : numOf (nb n 4) 4 = n := by simp only [numOf, nb]; omega

end Go.Proofs.Ytcgdpijmfgkalaa
