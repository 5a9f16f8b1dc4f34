/- SortWords of a few right words: both sides answer the same row. -/
import Derived.Test.YtfcdobicilediaaSortB
namespace Go.Proofs.Ytfcdobicilediaa
open Go.Shelf Go.RowKit Go.PlainAid Go.Lib Go.Sort Go.Proofs Go.Proofs.Ytfcdobicilediaa.Fo
set_option linter.unusedVariables false

theorem st_key {α : Type} {K K' : α → Int} {R l : List α} (h : St K R l) (he : ∀ x ∈ l, K x = K' x) : St K' R l := by
  intro k
  have e1 : R.filter (fun x => K' x == k) = R.filter (fun x => K x == k) := List.filter_congr fun x hx => by rw [he x ((St.mem h x).1 hx)]
  have e2 : l.filter (fun x => K' x == k) = l.filter (fun x => K x == k) := List.filter_congr fun x hx => by rw [he x hx]
  rw [e1, e2]
  exact h k
/-- The sorted row of a few words. -/
def sortW (zs : List (Int × Int)) : List (Int × Int) := (Sort.insertionSort (ltOf cmpA) zs.toArray 0 zs.length).toList
theorem ok_mem {zs : List (Int × Int)} (hok : okTo zs zs.length) : ∀ x ∈ zs, okW x.1 x.2 := by
  intro x hx
  obtain ⟨i, hi, rfl⟩ := List.getElem_of_mem hx
  have := hok i hi
  rw [List.getD_eq_getElem?_getD, List.getElem?_eq_getElem hi] at this
  exact this
theorem ltA_iff (x y : Int × Int) : ltOf cmpA x y = true ↔ kA x < kA y := by
  constructor
  · exact ltA
  · intro h
    unfold ltOf
    rw [decide_eq_true_eq]
    unfold cmpA ord3
    rw [if_pos h]
    decide
theorem sortW_key (zs : List (Int × Int)) (hok : okTo zs zs.length) : St kW (sortW zs) zs ∧ (sortW zs).Pairwise (fun x y => kW x ≤ kW y) ∧ (sortW zs).length = zs.length := by
  have hk := insertion_key (K := kA) ltA_iff zs.toArray
  have e : (Sort.insertionSort (ltOf cmpA) zs.toArray 0 zs.toArray.size).toList = sortW zs := rfl
  have hst := hk.1
  have hri := hk.2.1
  rw [e] at hst hri
  have hkA : ∀ x ∈ zs, kA x = kW x := fun x hx => kA_ok (ok_mem hok x hx)
  have hl : (sortW zs).length = zs.length := by have := hk.2.2; unfold sortW; simpa using this
  refine ⟨st_key hst hkA, ?_, hl⟩
  exact hri.imp_of_mem fun {x y} hx hy hxy => by rw [← hkA x ((St.mem hst x).1 hx), ← hkA y ((St.mem hst y).1 hy)]; exact hxy
theorem sortW_only {zs R : List (Int × Int)} (hok : okTo zs zs.length) (h : St kW R zs) (hp : R.Pairwise (fun x y => kW x ≤ kW y)) : R = sortW zs :=
  st_unique R (sortW zs) hp (sortW_key zs hok).2.1 (h.trans (sortW_key zs hok).1.symm)
theorem iSort_few (a : Option Addr) (cap : Nat) (zs : List (Int × Int)) (w : World) (h : Prs w a zs) (h20 : zs.length < 20) (hok : okTo zs zs.length) :
    Calls Try.prog 19 #[.slice a zs.length cap] w fun e w' => ∃ v, e = .returned (.tuple #[v, .int .i64 0]) ∧ OwnP 48 w' w.heap.size v (sortW zs) ∧ Below w.heap.size w w' := by
  by_cases h0 : 0 < zs.length
  · refine (iSort_some a cap zs w h h0 h20 hok).mono ?_
    rintro e w' ⟨g, c, he, ho, hb⟩
    exact ⟨_, he, ho, hb⟩
  · obtain rfl : zs = [] := List.eq_nil_of_length_eq_zero (by omega)
    refine (iSort_none a cap w).mono ?_
    rintro e w' ⟨he, hw⟩
    subst hw
    have e0 : sortW [] = [] := List.eq_nil_of_length_eq_zero (sortW_key [] hok).2.2
    rw [e0]
    exact ⟨_, he, World.ownsRow_nil _ _ _ _, Below.refl _ _⟩
theorem sSort_few (a : Option Addr) (cap : Nat) (zs : List (Int × Int)) (w : World) (h : Prs w a zs) (h20 : zs.length ≤ 100) (hok : okTo zs zs.length) :
    Calls Try.prog 20 #[.slice a zs.length cap] w fun e w' => ∃ v, e = .returned (.tuple #[v, .int .i64 0]) ∧ OwnP 48 w' w.heap.size v (sortW zs) ∧ Below w.heap.size w w' := by
  refine (sSort_some a cap zs w h h20 hok).mono ?_
  rintro e w' ⟨v, R, he, ho, hb, hs, hp⟩
  rw [sortW_only hok hs hp] at ho
  exact ⟨v, he, ho, hb⟩
theorem sortW_ok {zs : List (Int × Int)} (hok : okTo zs zs.length) (i : Nat) (hi : i < zs.length) : okW ((sortW zs).getD i (0, 0)).1 ((sortW zs).getD i (0, 0)).2 := by
  have hk := sortW_key zs hok
  have hi2 : i < (sortW zs).length := by rw [hk.2.2]; exact hi
  rw [List.getD_eq_getElem?_getD, List.getElem?_eq_getElem hi2]
  exact ok_mem hok _ ((St.mem hk.1 _).1 (List.getElem_mem hi2))
theorem sortW_rises {zs : List (Int × Int)} (hok : okTo zs zs.length) (i : Nat) (hi : i + 1 < zs.length) : kW ((sortW zs).getD i (0, 0)) ≤ kW ((sortW zs).getD (i + 1) (0, 0)) := by
  have hk := sortW_key zs hok
  have hi2 : i + 1 < (sortW zs).length := by rw [hk.2.2]; exact hi
  rw [List.getD_eq_getElem?_getD, List.getD_eq_getElem?_getD, List.getElem?_eq_getElem hi2, List.getElem?_eq_getElem (show i < (sortW zs).length by omega)]
  exact (List.pairwise_iff_getElem.1 hk.2.1) i (i + 1) (by omega) hi2 (by omega)
end Go.Proofs.Ytfcdobicilediaa
