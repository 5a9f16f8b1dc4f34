/- Texts as lists of numbers: of a string, of a number's bytes, of a part; the number and the sum of a list. Nothing of the program is imported. -/
import Derived.Test.YtmeejholckelgaaGreatOwn
import Derived.Lib.AppendStr
import Derived.Laws.Concat
namespace Go.Proofs.YtmeejholckelgaaGreat
open Go.RowKit Go.PlainAid Go.Proofs.YtmeejholckelgaaGreat.Pl
set_option linter.unusedVariables false

/-- A string's bytes. -/
def nums (s : ByteArray) : List Int := s.data.toList.map fun b => (b.toNat : Int)

theorem nums_len (s : ByteArray) : (nums s).length = s.size := by unfold nums; rw [List.length_map, Array.length_toList]; rfl
theorem nums_bd (s : ByteArray) : ∀ x ∈ nums s, 0 ≤ x ∧ x ≤ 255 := by
  intro x hx
  obtain ⟨b, -, rfl⟩ := List.mem_map.1 hx
  have := b.toNat_lt
  omega
theorem strOfNums_nums (s : ByteArray) : strOfNums (nums s) = s := by
  unfold strOfNums nums
  rw [List.map_map]
  cases s with | mk d =>
  congr 1
  have : (d.toList.map ((fun n : Int => UInt8.ofNat n.toNat) ∘ fun b : UInt8 => (b.toNat : Int))) = d.toList := by
    conv => rhs; rw [← List.map_id d.toList]
    apply List.map_congr_left
    intro b _
    simp
  rw [this]
theorem nums_strOfNums (L : List Int) (h : ∀ x ∈ L, 0 ≤ x ∧ x ≤ 255) : nums (strOfNums L) = L := by
  unfold strOfNums nums
  simp only [List.map_map]
  conv => rhs; rw [← List.map_id L]
  apply List.map_congr_left
  intro x hx
  have := h x hx
  simp
  omega
theorem nums_append (s t : ByteArray) : nums (s ++ t) = nums s ++ nums t := by
  cases s with | mk a => cases t with | mk b =>
  have := Go.ByteArray.mk_append_mk a.toList b.toList
  simp only [Array.toArray_toList] at this
  rw [this]
  simp [nums]
theorem nums_getD (s : ByteArray) (i : Nat) : (nums s).getD i 0 = bt s i := by
  by_cases hi : i < s.size
  · have h2 : i < (nums s).length := by rw [nums_len]; exact hi
    rw [List.getD_eq_getElem?_getD, List.getElem?_eq_getElem h2, ← get_bt s i hi]
    simp [nums]
    rfl
  · rw [bt_end s (by omega), List.getD_eq_getElem?_getD, List.getElem?_eq_none (by rw [nums_len]; omega)]
    rfl
theorem nums_extract (s : ByteArray) (a b : Nat) : nums (s.extract a b) = ((nums s).drop a).take (b - a) := by
  cases s with | mk d =>
  simp [nums, ByteArray.extract, ByteArray.copySlice, List.map_take, List.map_drop]
theorem nums_inj {s t : ByteArray} (h : nums s = nums t) : s = t := by rw [← strOfNums_nums s, ← strOfNums_nums t, h]
theorem strCells_nums (s : ByteArray) : Lib.strCells s = (nums s).map (Value.int .u8) := by simp [Lib.strCells, nums, Function.comp_def]
theorem nums_strOf (f : Nat → Int) (n : Nat) (h : ∀ k, 0 ≤ f k ∧ f k ≤ 255) : nums (strOf f n) = (List.range n).map f :=
  nums_strOfNums _ (by intro x hx; obtain ⟨j, -, rfl⟩ := List.mem_map.1 hx; exact h j)

/-- A list told by places is the list. -/
theorem getD_bd {L : List Int} (h : ∀ x ∈ L, 0 ≤ x ∧ x ≤ 255) (k : Nat) : 0 ≤ L.getD k 0 ∧ L.getD k 0 ≤ 255 := by
  by_cases hk : k < L.length
  · rw [List.getD_eq_getElem?_getD, List.getElem?_eq_getElem hk]; exact h _ (List.getElem_mem hk)
  · rw [List.getD_eq_getElem?_getD, List.getElem?_eq_none (by omega)]; simp
theorem range_getD (L : List Int) : (List.range L.length).map (fun j => L.getD j 0) = L := by
  apply List.ext_getElem?
  intro i
  by_cases hi : i < L.length
  · simp [hi]
  · simp [hi]

/-- The folded sum of a list of bytes. -/
def chkL (L : List Int) : Int := chk (fun j => L.getD j 0) L.length
theorem chkL_bd (L : List Int) (h : ∀ x ∈ L, 0 ≤ x ∧ x ≤ 255) : 0 ≤ chkL L ∧ chkL L ≤ 65535 := chk_bd _ _ (getD_bd h)
theorem chk_nums (s : ByteArray) : chk (bt s) s.size = chkL (nums s) := by
  unfold chkL
  rw [nums_len]
  exact chk_congr _ _ _ (fun j _ => (nums_getD s j).symm)
end Go.Proofs.YtmeejholckelgaaGreat
