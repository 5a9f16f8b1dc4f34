/- A text cut at its points, as lists of bytes; strings.Split at a point gives just these pieces. Nothing of the program is imported. -/
import Derived.Test.YtimhkeebgogfoaaDoorPlain
import Derived.Lib.Split
import Derived.Lib.SplitLaws
import Derived.Lib.IndexBytes
import Derived.Lib.IndexLaws
namespace Go.Proofs.YtimhkeebgogfoaaDoor.Bl
open Go.RowKit Go.PlainAid Go.Proofs.YtimhkeebgogfoaaDoor
set_option linter.unusedVariables false

def pc : List UInt8 → List (List UInt8)
  | [] => [[]]
  | c :: l => if c = 32 then [] :: pc l else match pc l with
    | p :: ps => (c :: p) :: ps
    | [] => [[c]]

theorem pc_hit : ∀ (a b : List UInt8), (∀ x ∈ a, x ≠ 32) → pc (a ++ 32 :: b) = a :: pc b
  | [], b, _ => by simp [pc]
  | c :: a, b, h => by
    have := pc_hit a b (fun x hx => h x (by simp [hx]))
    rw [List.cons_append, pc, if_neg (h c (by simp)), this]
theorem pc_miss : ∀ (a : List UInt8), (∀ x ∈ a, x ≠ 32) → pc a = [a]
  | [], _ => rfl
  | c :: a, h => by
    have := pc_miss a (fun x hx => h x (by simp [hx]))
    rw [pc, if_neg (h c (by simp)), this]

def dot : ByteArray := ⟨#[32]⟩

theorem splitB_pc : ∀ (k : Nat) (s : ByteArray), Lib.countB s dot = k → (Lib.splitB dot 0 k s).map (·.data.toList) = pc s.data.toList := by
  intro k
  induction k with
  | zero =>
    intro s hk
    rcases Lib.indexB_cases s dot with h | ⟨i, h, hi⟩
    · rw [Lib.splitB_miss dot 0 0 s h]
      have hn := Lib.indexByte_none (l := s.data.toList) (c := 32) (by rw [← Lib.index_one]; exact h)
      rw [pc_miss s.data.toList (fun x hx e => by obtain ⟨j, hj⟩ := List.getElem?_of_mem hx; exact hn j (by rw [hj, e]))]
      rfl
    · rw [Lib.countB_hit s dot i (by decide) h] at hk; omega
  | succ k ih =>
    intro s hk
    rcases Lib.indexB_cases s dot with h | ⟨i, h, hi⟩
    · rw [Lib.countB_miss s dot h] at hk; omega
    · rw [Lib.countB_hit s dot i (by decide) h] at hk
      have hs := Lib.indexByte_some (l := s.data.toList) (c := 32) (o := i) (by rw [← Lib.index_one]; exact h)
      rw [Lib.splitB_hit dot 0 k s i h, List.map_cons, ih _ (by omega)]
      have hil : i < s.data.toList.length := by
        rcases Nat.lt_or_ge i s.data.toList.length with h' | h'
        · exact h'
        · rw [List.getElem?_eq_none h'] at hs; simp at hs
      have e1 : s.data.toList = s.data.toList.take i ++ 32 :: s.data.toList.drop (i + 1) := by
        have hg : s.data.toList[i] = 32 := by have := hs.1; rw [List.getElem?_eq_getElem hil] at this; exact Option.some.inj this
        rw [← hg, ← List.drop_eq_getElem_cons hil, List.take_append_drop]
      have e2 : (s.extract 0 (i + 0)).data.toList = s.data.toList.take i := by rw [Lib.extract_data]; simp
      have e3 : (s.extract (i + dot.size) s.size).data.toList = s.data.toList.drop (i + 1) := by
        rw [Lib.extract_data]
        have : dot.size = 1 := rfl
        rw [this]
        apply List.take_of_length_le
        simp
      rw [e2, e3]
      conv => rhs; rw [e1]
      rw [pc_hit]
      intro x hx e
      obtain ⟨j, hj⟩ := List.getElem?_of_mem hx
      have hj' : j < i := by
        rcases Nat.lt_or_ge j i with h' | h'
        · exact h'
        · rw [List.getElem?_eq_none (by simp; omega)] at hj; cases hj
      rw [List.getElem?_take, if_pos hj'] at hj
      exact hs.2 j hj' (by rw [hj, e])

theorem bt_list (s : ByteArray) (j : Nat) (h : j < s.size) : bt s j = ((s.data.toList[j]'(by simpa using h)).toNat : Int) := by
  unfold bt; rw [dif_pos h]; rfl
theorem bt_32 (s : ByteArray) (j : Nat) (h : j < s.size) : bt s j = 32 ↔ s.data.toList[j]'(by simpa using h) = 32 := by
  rw [bt_list s j h]
  constructor
  · intro e
    exact UInt8.toNat_inj.1 (by simpa using Int.ofNat.inj e)
  · intro e; rw [e]; rfl

/-- A point at place i, none from f to it. -/
theorem cut_hit (s : ByteArray) (f i : Nat) (hfi : f ≤ i) (hi : i < s.size) (h32 : bt s i = 32) (hno : ∀ j, f ≤ j → j < i → bt s j ≠ 32) :
    pc (s.data.toList.drop f) = (s.extract f i).data.toList :: pc (s.data.toList.drop (i + 1)) := by
  have hl : i < s.data.toList.length := by simpa using hi
  have hg : s.data.toList[i] = 32 := (bt_32 s i hi).1 h32
  have e1 : s.data.toList.drop f = (s.data.toList.drop f).take (i - f) ++ 32 :: s.data.toList.drop (i + 1) := by
    have := (List.take_append_drop (i - f) (s.data.toList.drop f)).symm
    rw [List.drop_drop, show f + (i - f) = i by omega, List.drop_eq_getElem_cons hl, hg] at this
    exact this
  rw [Lib.extract_data]
  conv => lhs; rw [e1]
  rw [pc_hit]
  intro x hx e
  obtain ⟨j, hj⟩ := List.getElem?_of_mem hx
  have hj' : j < i - f := by
    rcases Nat.lt_or_ge j (i - f) with h' | h'
    · exact h'
    · rw [List.getElem?_eq_none (by simp; omega)] at hj; cases hj
  rw [List.getElem?_take, if_pos hj', List.getElem?_drop, List.getElem?_eq_getElem (by omega)] at hj
  exact hno (f + j) (by omega) (by omega) ((bt_32 s (f + j) (by omega)).2 (by rw [Option.some.inj hj, e]))
/-- No point from f on. -/
theorem cut_miss (s : ByteArray) (f : Nat) (hno : ∀ j, f ≤ j → j < s.size → bt s j ≠ 32) : pc (s.data.toList.drop f) = [(s.extract f s.size).data.toList] := by
  have e : (s.extract f s.size).data.toList = s.data.toList.drop f := by
    rw [Lib.extract_data]
    apply List.take_of_length_le
    simp
  rw [e, pc_miss]
  intro x hx ee
  obtain ⟨j, hj⟩ := List.getElem?_of_mem hx
  rw [List.getElem?_drop] at hj
  have hjl : f + j < s.data.toList.length := by
    rcases Nat.lt_or_ge (f + j) s.data.toList.length with h' | h'
    · exact h'
    · rw [List.getElem?_eq_none h'] at hj; cases hj
  rw [List.getElem?_eq_getElem hjl] at hj
  exact hno (f + j) (by omega) (by simpa using hjl) ((bt_32 s (f + j) (by simpa using hjl)).2 (by rw [Option.some.inj hj, ee]))
theorem no_step {s : ByteArray} {f i : Nat} (h : ∀ j, f ≤ j → j < i → bt s j ≠ 32) (hi : bt s i ≠ 32) : ∀ j, f ≤ j → j < i + 1 → bt s j ≠ 32 := by
  intro j h1 h2
  by_cases e : j = i
  · subst e; exact hi
  · exact h j h1 (by omega)
/-- The words of a text: its pieces at blanks that are not empty. -/
def nz (l : List (List UInt8)) : List (List UInt8) := l.filter (fun x => !x.isEmpty)
def wb (l : List UInt8) : List (List UInt8) := nz (pc l)
theorem nz_cons_some {x : List UInt8} {l : List (List UInt8)} (h : x ≠ []) : nz (x :: l) = x :: nz l := by
  unfold nz
  rw [List.filter_cons, if_pos (by simpa using h)]
theorem nz_cons_none {l : List (List UInt8)} : nz ([] :: l) = nz l := by
  unfold nz
  rw [List.filter_cons, if_neg (by simp)]
theorem ext_ne {s : ByteArray} {f k : Nat} (h : f < k) (hk : k ≤ s.size) : (s.extract f k).data.toList ≠ [] := by
  intro e
  have : (s.extract f k).data.toList.length = 0 := by rw [e]; rfl
  rw [Lib.extract_data] at this
  simp at this
  have hs : s.data.size = s.size := rfl
  omega
theorem ext_same (s : ByteArray) (f : Nat) : (s.extract f f).data.toList = [] := by
  rw [Lib.extract_data]
  simp
theorem wb_hit (s : ByteArray) (f i : Nat) (hfi : f ≤ i) (hi : i < s.size) (h : bt s i = 32) (hno : ∀ j, f ≤ j → j < i → bt s j ≠ 32) :
    wb (s.data.toList.drop f) = (if f < i then [(s.extract f i).data.toList] else []) ++ wb (s.data.toList.drop (i + 1)) := by
  unfold wb
  rw [cut_hit s f i hfi hi h hno]
  by_cases hlt : f < i
  · rw [if_pos hlt, nz_cons_some (ext_ne hlt (by omega))]; rfl
  · obtain rfl : f = i := by omega
    rw [if_neg hlt, ext_same, nz_cons_none]; rfl
theorem wb_miss (s : ByteArray) (f : Nat) (hf : f ≤ s.size) (hno : ∀ j, f ≤ j → j < s.size → bt s j ≠ 32) : wb (s.data.toList.drop f) = if f < s.size then [(s.extract f s.size).data.toList] else [] := by
  unfold wb
  rw [cut_miss s f hno]
  by_cases hlt : f < s.size
  · rw [if_pos hlt, nz_cons_some (ext_ne hlt (Nat.le_refl _))]; rfl
  · obtain rfl : f = s.size := by omega
    rw [if_neg hlt, ext_same, nz_cons_none]; rfl
end Go.Proofs.YtimhkeebgogfoaaDoor.Bl
