/- The model's l00Cut at a slash. -/
import Derived.Test.YtimhkeebgogfoaaDoorCut
namespace Go.Proofs.YtimhkeebgogfoaaDoor.Sl
open Go.RowKit Go.PlainAid Go.Proofs.YtimhkeebgogfoaaDoor
set_option linter.unusedVariables false
set_option maxRecDepth 20000

def pq : List UInt8 → List (List UInt8)
  | [] => [[]]
  | c :: l => if c = 47 then [] :: pq l else match pq l with
    | p :: ps => (c :: p) :: ps
    | [] => [[c]]

theorem pq_hit : ∀ (a b : List UInt8), (∀ x ∈ a, x ≠ 47) → pq (a ++ 47 :: b) = a :: pq b
  | [], b, _ => by simp [pq]
  | c :: a, b, h => by
    have := pq_hit a b (fun x hx => h x (by simp [hx]))
    rw [List.cons_append, pq, if_neg (h c (by simp)), this]
theorem pq_miss : ∀ (a : List UInt8), (∀ x ∈ a, x ≠ 47) → pq a = [a]
  | [], _ => rfl
  | c :: a, h => by
    have := pq_miss a (fun x hx => h x (by simp [hx]))
    rw [pq, if_neg (h c (by simp)), this]

theorem bt_47 (s : ByteArray) (j : Nat) (h : j < s.size) : bt s j = 47 ↔ s.data.toList[j]'(by simpa using h) = 47 := by
  rw [Go.Proofs.YtimhkeebgogfoaaDoor.bt_list s j h]
  constructor
  · intro e
    exact UInt8.toNat_inj.1 (by simpa using Int.ofNat.inj e)
  · intro e; rw [e]; rfl

/-- A point at place i, none from f to it. -/
theorem cut_hit (s : ByteArray) (f i : Nat) (hfi : f ≤ i) (hi : i < s.size) (h47 : bt s i = 47) (hno : ∀ j, f ≤ j → j < i → bt s j ≠ 47) :
    pq (s.data.toList.drop f) = (s.extract f i).data.toList :: pq (s.data.toList.drop (i + 1)) := by
  have hl : i < s.data.toList.length := by simpa using hi
  have hg : s.data.toList[i] = 47 := (bt_47 s i hi).1 h47
  have e1 : s.data.toList.drop f = (s.data.toList.drop f).take (i - f) ++ 47 :: s.data.toList.drop (i + 1) := by
    have := (List.take_append_drop (i - f) (s.data.toList.drop f)).symm
    rw [List.drop_drop, show f + (i - f) = i by omega, List.drop_eq_getElem_cons hl, hg] at this
    exact this
  rw [Lib.extract_data]
  conv => lhs; rw [e1]
  rw [pq_hit]
  intro x hx e
  obtain ⟨j, hj⟩ := List.getElem?_of_mem hx
  have hj' : j < i - f := by
    rcases Nat.lt_or_ge j (i - f) with h' | h'
    · exact h'
    · rw [List.getElem?_eq_none (by simp; omega)] at hj; cases hj
  rw [List.getElem?_take, if_pos hj', List.getElem?_drop, List.getElem?_eq_getElem (by omega)] at hj
  exact hno (f + j) (by omega) (by omega) ((bt_47 s (f + j) (by omega)).2 (by rw [Option.some.inj hj, e]))
/-- No point from f on. -/
theorem cut_miss (s : ByteArray) (f : Nat) (hno : ∀ j, f ≤ j → j < s.size → bt s j ≠ 47) : pq (s.data.toList.drop f) = [(s.extract f s.size).data.toList] := by
  have e : (s.extract f s.size).data.toList = s.data.toList.drop f := by
    rw [Lib.extract_data]
    apply List.take_of_length_le
    simp
  rw [e, pq_miss]
  intro x hx ee
  obtain ⟨j, hj⟩ := List.getElem?_of_mem hx
  rw [List.getElem?_drop] at hj
  have hjl : f + j < s.data.toList.length := by
    rcases Nat.lt_or_ge (f + j) s.data.toList.length with h' | h'
    · exact h'
    · rw [List.getElem?_eq_none h'] at hj; cases hj
  rw [List.getElem?_eq_getElem hjl] at hj
  exact hno (f + j) (by omega) (by simpa using hjl) ((bt_47 s (f + j) (by simpa using hjl)).2 (by rw [Option.some.inj hj, ee]))
theorem no_step {s : ByteArray} {f i : Nat} (h : ∀ j, f ≤ j → j < i → bt s j ≠ 47) (hi : bt s i ≠ 47) : ∀ j, f ≤ j → j < i + 1 → bt s j ≠ 47 := by
  intro j h1 h2
  by_cases e : j = i
  · subst e; exact hi
  · exact h j h1 (by omega)
set_option maxHeartbeats 1000000 in
theorem l00Cut_any (s : ByteArray) (w : World) (hs : s.size ≤ 1048576) :
    Calls Tryd.prog 57 #[.string s, .int .u8 47] w fun e w' => ∃ (g c : Nat) (ps : List ByteArray), e = .returned (.slice (some ⟨g, 0, none⟩) ps.length c) ∧ OwnS w' w.heap.size (.slice (some ⟨g, 0, none⟩) ps.length c) ps ∧ ps.map (·.data.toList) = pq s.data.toList ∧ Below w.heap.size w w' := by
  obtain ⟨i0, hi, hz0, hz1, hz2⟩ := info_parts Tryd.infoS
  have hb := get_bt s
  go_enter Tryd.func57, Tryd.ntmps57
  go_wp2
  go_loopw [5, 6, 7] (fun v fr i wr => ∃ (g c : Nat) (ps : List ByteArray) (f k : Nat), v = .slice (some ⟨g, 0, none⟩) ps.length c ∧ fr = .int .i64 f ∧ i = .int .i64 k ∧ f ≤ k ∧ k ≤ s.size ∧ ps.length ≤ f ∧ OwnS wr w.heap.size (.slice (some ⟨g, 0, none⟩) ps.length c) ps ∧ ps.map (·.data.toList) ++ pq (s.data.toList.drop f) = pq s.data.toList ∧ (∀ j, f ≤ j → j < k → bt s j ≠ 47) ∧ Below w.heap.size w wr) (fun _ _ i _ => s.size - (intOf i).toNat)
  case atStart => exact ⟨w.heap.size, 0, [], 0, 0, rfl, rfl, rfl, Nat.le_refl _, Nat.zero_le _, Nat.le_refl _, World.ownsRow_made w #[] 0 (Nat.le_refl _) (Nat.zero_le _) rfl, by simp, fun j _ h => absurd h (by omega), (Below.refl _ _).alloc (Nat.le_refl _) _⟩
  case round =>
    obtain ⟨g, c, ps, f, k, rfl, rfl, rfl, hfk, hkn, hpl, hown, hpq, hno, hnx⟩ := hrel
    have X : Hid (OwnS wr w.heap.size (.slice (some ⟨g, 0, none⟩) ps.length c) ps ∧ ps.map (·.data.toList) ++ pq (s.data.toList.drop f) = pq s.data.toList ∧ (∀ j, f ≤ j → j < k → bt s j ≠ 47) ∧ Below w.heap.size w wr) := ⟨hown, hpq, hno, hnx⟩
    clear hown hpq hno hnx
    have hzz := X.out.2.2.2.size
    by_cases hlt : k < s.size
    · by_cases h47 : bt s k = 47
      · have t47 : (bt s k == 47) = true := by simp [h47]
        have H47 : Hid (bt s k = 47) := h47
        clear h47
        go_wp2_with (at_builtin; refine wpList_append_lies _ rfl _ _ 53 rfl w.heap.size 9 i0 (.string ⟨#[]⟩) 1 16 Tryd.underlying53 hi hz0 hz1 hz2 rfl (by decide) (.slice (some ⟨g, 0, none⟩) ps.length c) ps.length (ps.map Value.string) rfl (World.ownsRow.alloc X.out.1 _) ⟨_, 0, none⟩ 1 1 [.string (s.extract f k)] rfl rfl (cell_one_new _ _ _) (by simp [Value.oneCell']) (by omega) (by unfold maxLen; omega) (by omega) (by simp; omega) _ rfl ?_; intro g1 c1 w1 hown1 hgrow1 hat1 hlt1)
        have Y : Hid (OwnS w1 w.heap.size (.slice (some ⟨g1, 0, none⟩) (ps ++ [s.extract f k]).length c1) (ps ++ [s.extract f k]) ∧ (ps ++ [s.extract f k]).map (·.data.toList) ++ pq (s.data.toList.drop (k + 1)) = pq s.data.toList ∧ Below w.heap.size w w1) := by
          refine ⟨by unfold OwnS; simpa using hown1, ?_, (X.out.2.2.2.alloc hzz _).grown hgrow1 (by simp; omega) (fun q hq => (World.ownsRow.lt X.out.1 q hq).1)⟩
          rw [← X.out.2.1, cut_hit s f k hfk hlt H47.out X.out.2.2.1]
          simp
        clear hown1 hgrow1 hat1 hlt1
        go_wp2
        go_roundw
        case rel => exact ⟨g1, c1, ps ++ [s.extract f k], k + 1, k + 1, by simp, by go_num, by go_num, Nat.le_refl _, by omega, by simp; omega, Y.out.1, Y.out.2.1, fun j h1 h2 => absurd h2 (by omega), Y.out.2.2⟩
        case measure => simp [intOf]; omega
      · have t47 : (bt s k == 47) = false := beq_eq_false_iff_ne.2 h47
        have H47 : Hid (bt s k ≠ 47) := h47
        clear h47
        go_wp2
        go_roundw
        case rel => exact ⟨g, c, ps, f, k + 1, rfl, rfl, by go_num, by omega, by omega, hpl, X.out.1, X.out.2.1, no_step X.out.2.2.1 H47.out, X.out.2.2.2⟩
        case measure => simp [intOf]; omega
    · go_wp2_with (at_builtin; refine wpList_append_lies _ rfl _ _ 53 rfl w.heap.size 9 i0 (.string ⟨#[]⟩) 1 16 Tryd.underlying53 hi hz0 hz1 hz2 rfl (by decide) (.slice (some ⟨g, 0, none⟩) ps.length c) ps.length (ps.map Value.string) rfl (World.ownsRow.alloc X.out.1 _) ⟨_, 0, none⟩ 1 1 [.string (s.extract f s.size)] rfl rfl (cell_one_new _ _ _) (by simp [Value.oneCell']) (by omega) (by unfold maxLen; omega) (by omega) (by simp; omega) _ rfl ?_; intro g1 c1 w1 hown1 hgrow1 hat1 hlt1)
      have Y : Hid (OwnS w1 w.heap.size (.slice (some ⟨g1, 0, none⟩) (ps ++ [s.extract f s.size]).length c1) (ps ++ [s.extract f s.size]) ∧ (ps ++ [s.extract f s.size]).map (·.data.toList) = pq s.data.toList ∧ Below w.heap.size w w1) := by
        refine ⟨by unfold OwnS; simpa using hown1, ?_, (X.out.2.2.2.alloc hzz _).grown hgrow1 (by simp; omega) (fun q hq => (World.ownsRow.lt X.out.1 q hq).1)⟩
        rw [← X.out.2.1, cut_miss s f (fun j h1 h2 => X.out.2.2.1 j h1 (by omega))]
        simp
      clear hown1 hgrow1 hat1 hlt1
      go_wp2
      go_ret
      exact ⟨g1, c1, _, by simp, Y.out⟩
end Go.Proofs.YtimhkeebgogfoaaDoor.Sl
