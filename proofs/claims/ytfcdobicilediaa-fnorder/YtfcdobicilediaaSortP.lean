/- The insertion sort by a key: it rises, and alike ones keep their order. Nothing of the program is imported. -/
import Derived.Test.YtfcdobicilediaaStableO
import Derived.Sort.LotA
namespace Go.Proofs.Ytfcdobicilediaa.Fo
open Go.Sort
set_option linter.unusedVariables false

theorem seg_arr {α : Type} [Inhabited α] (d : Array α) : seg (fun x => d[x]!) 0 d.size = d.toList := by
  apply List.ext_getElem?
  intro i
  by_cases hi : i < d.size
  · unfold seg
    rw [List.getElem?_map, List.getElem?_eq_getElem (by simpa using hi), Array.getElem?_toList, Array.getElem?_eq_getElem hi]
    simp [getElem!_pos, hi]
  · rw [List.getElem?_eq_none (by rw [seg_len]; omega), List.getElem?_eq_none (by simpa using hi)]
theorem swp_size {α : Type} [Inhabited α] (d : Array α) (i j : Nat) : (swp d i j).size = d.size := by unfold swp; simp
theorem swp_at {α : Type} [Inhabited α] (d : Array α) (j x : Nat) (h : j + 1 < d.size) (hx : x < d.size) : (swp d (j + 1) j)[x]! = rotF (fun x => d[x]!) j (j + 1) (j + 2) x := by
  have hx' : x < (swp d (j + 1) j).size := by rw [swp_size]; exact hx
  have e : (swp d (j + 1) j)[x]? = some (rotF (fun x => d[x]!) j (j + 1) (j + 2) x) := by
    unfold swp rotF
    rw [Array.getElem?_setIfInBounds, Array.getElem?_setIfInBounds]
    by_cases h1 : j = x
    · subst h1
      rw [if_pos rfl, if_pos (by simpa using hx), if_pos (by omega)]
      show some d[j + 1]! = some d[j + (j + 1 - j)]!
      rw [show j + (j + 1 - j) = j + 1 by omega]
    by_cases h2 : j + 1 = x
    · subst h2
      rw [if_neg h1, if_pos rfl, if_pos h, if_neg (by omega), if_pos (by omega)]
      show some d[j]! = some d[j + 1 - (j + 2 - (j + 1))]!
      rw [show j + 1 - (j + 2 - (j + 1)) = j by omega]
    · rw [if_neg h1, if_neg h2, if_neg (by omega), if_neg (by omega)]
      show d[x]? = some d[x]!
      rw [getElem!_pos d x hx, Array.getElem?_eq_getElem hx]
  rw [getElem!_pos (swp d (j + 1) j) x hx']
  apply Option.some.inj
  rw [← Array.getElem?_eq_getElem hx', e]
theorem swp_st {α : Type} [Inhabited α] {K : α → Int} (d : Array α) (j : Nat) (h : j + 1 < d.size) (hk : K d[j + 1]! < K d[j]!) : St K (swp d (j + 1) j).toList d.toList := by
  rw [← seg_arr, ← seg_arr, swp_size, seg_congr (g := rotF (fun x => d[x]!) j (j + 1) (j + 2)) (fun x h1 h2 => swp_at d j x h h2)]
  refine rot_st _ (Nat.zero_le _) (by omega) (by omega) (by omega) (fun u v h1 h2 h3 h4 => ?_)
  obtain rfl : u = j := by omega
  obtain rfl : v = u + 1 := by omega
  exact hk
theorem insInner_st {α : Type} [Inhabited α] {K : α → Int} {lt : α → α → Bool} (hlt : ∀ x y, lt x y = true → K x < K y) (a : Nat) : ∀ (j : Nat) (d : Array α), j < d.size → St K (insInner lt a j d).toList d.toList ∧ (insInner lt a j d).size = d.size
  | 0, d, _ => ⟨St.rfl' K _, rfl⟩
  | j + 1, d, h => by
    unfold insInner
    split
    · rename_i hc
      rw [Bool.and_eq_true] at hc
      have ih := insInner_st hlt a j (swp d (j + 1) j) (by rw [swp_size]; omega)
      exact ⟨ih.1.trans (swp_st d j h (hlt _ _ hc.2)), by rw [ih.2, swp_size]⟩
    · exact ⟨St.rfl' K _, rfl⟩
theorem insOuter_st {α : Type} [Inhabited α] {K : α → Int} {lt : α → α → Bool} (hlt : ∀ x y, lt x y = true → K x < K y) (a b : Nat) : ∀ (m i : Nat) (d : Array α), b - i ≤ m → b ≤ d.size → St K (insOuter lt a b i d).toList d.toList ∧ (insOuter lt a b i d).size = d.size := by
  intro m
  induction m with
  | zero =>
    intro i d h1 h2
    unfold insOuter
    rw [if_neg (by omega)]
    exact ⟨St.rfl' K _, rfl⟩
  | succ m ih =>
    intro i d h1 h2
    unfold insOuter
    by_cases hi : i < b
    · rw [if_pos hi]
      have h3 := insInner_st hlt a i d (by omega)
      have h4 := ih (i + 1) (insInner lt a i d) (by omega) (by rw [h3.2]; exact h2)
      exact ⟨h4.1.trans h3.1, by rw [h4.2, h3.2]⟩
    · rw [if_neg hi]
      exact ⟨St.rfl' K _, rfl⟩
theorem insertion_st {α : Type} [Inhabited α] {K : α → Int} {lt : α → α → Bool} (hlt : ∀ x y, lt x y = true → K x < K y) (d : Array α) : St K (insertionSort lt d 0 d.size).toList d.toList ∧ (insertionSort lt d 0 d.size).size = d.size :=
  insOuter_st hlt 0 d.size _ _ d (Nat.le_refl _) (Nat.le_refl _)
/-- The insertion sort by a key's order. -/
theorem insertion_key {α : Type} [Inhabited α] {K : α → Int} {lt : α → α → Bool} (hlt : ∀ x y, lt x y = true ↔ K x < K y) (d : Array α) :
    St K (insertionSort lt d 0 d.size).toList d.toList ∧ (insertionSort lt d 0 d.size).toList.Pairwise (fun x y => K x ≤ K y) ∧ (insertionSort lt d 0 d.size).size = d.size := by
  have hf : ∀ x y, lt x y = false ↔ K y ≤ K x := fun x y => by
    have := hlt x y
    cases h : lt x y
    · rw [h] at this
      simp at this ⊢
      exact this
    · rw [h] at this
      simp at this ⊢
      exact this
  have hswo : SWO lt := ⟨fun x => (hf x x).2 (Int.le_refl _), fun x y z h1 h2 => (hlt x z).2 (Int.lt_trans ((hlt x y).1 h1) ((hlt y z).1 h2)), fun x y z h1 h2 => (hf x z).2 (Int.le_trans ((hf y z).1 h2) ((hf x y).1 h1))⟩
  have hs := insertionSort_holds (lt := lt) hswo d 0 d.size (Nat.zero_le _) (Nat.le_refl _)
  have hst := insertion_st (K := K) (lt := lt) (fun x y h => (hlt x y).1 h) d
  refine ⟨hst.1, ?_, hst.2⟩
  rw [← seg_arr, ← rises_iff]
  intro x y hx hxy hy
  exact (hf _ _).1 (hs.2 x y hx hxy (by rw [hst.2] at hy; exact hy))
end Go.Proofs.Ytfcdobicilediaa.Fo
