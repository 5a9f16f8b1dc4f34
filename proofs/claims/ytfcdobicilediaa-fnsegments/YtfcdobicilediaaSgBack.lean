/- A segment is read back from its bytes; the sum over it is 0: lists of numbers. -/
import Derived.Test.YtfcdobicilediaaLists2
import Derived.Test.YtfcdobicilediaaEndsB
import Derived.Test.YtfcdobicilediaaCheckMath
namespace Go.Proofs.Ytfcdobicilediaa
open Go.RowKit Go.PlainAid Go.Proofs.Ytfcdobicilediaa.Pl
set_option linter.unusedVariables false
set_option maxRecDepth 20000

/-- A row with its sum in the places p and p + 1. -/
theorem chk_put (F f : Nat → Int) (p n : Nat) (hp : p % 2 = 0) (hn : p + 1 < n) (hf : ∀ k, 0 ≤ f k ∧ f k ≤ 255) (h : ∀ j, j < n → j ≠ p → j ≠ p + 1 → F j = f j) (z0 : f p = 0) (z1 : f (p + 1) = 0) (h0 : F p = chk f n / 256 % 256) (h1 : F (p + 1) = chk f n % 256) : chk F n = 0 := by
  have hc := chk_bd f n hf
  have hs := (wsum_bd f hf n).1
  have e1 := wsum_change f (fun j => if j = p then F p else f j) p (fun j hj => by simp [hj]) n
  have e2 := wsum_change (fun j => if j = p then F p else f j) (fun j => if j = p + 1 then F (p + 1) else if j = p then F p else f j) (p + 1) (fun j hj => by simp [hj]) n
  have e3 : wsum F n = wsum (fun j => if j = p + 1 then F (p + 1) else if j = p then F p else f j) n := wsum_congr _ _ n (fun j hj => by
    by_cases a : j = p + 1
    · subst a; simp
    · by_cases b : j = p
      · subst b; simp
      · simp only [if_neg a, if_neg b]; exact h j hj b a)
  rw [if_pos (by omega), if_pos hp] at e1
  rw [if_pos hn, if_neg (by omega)] at e2
  simp only [if_pos] at e1 e2
  rw [if_neg (by omega : ¬ p + 1 = p)] at e2
  have e : wsum F n = wsum f n + (65535 - foldc (wsum f n)) := by
    have : 256 * (chk f n / 256 % 256) + chk f n % 256 = chk f n := by omega
    rw [e3, e2, e1, h0, h1, z0, z1]
    unfold chk at this ⊢
    omega
  unfold chk
  rw [e]
  exact total_zero _ hs
theorem chkL_put (A B : List Int) (hA : A.length % 2 = 0) (bA : ∀ x ∈ A, 0 ≤ x ∧ x ≤ 255) (bB : ∀ x ∈ B, 0 ≤ x ∧ x ≤ 255) : chkL (A ++ nbl (chkL (A ++ [0, 0] ++ B)) 2 ++ B) = 0 := by
  obtain ⟨S, hS⟩ : ∃ S, S = chkL (A ++ [0, 0] ++ B) := ⟨_, rfl⟩
  rw [← hS]
  have bd : ∀ x ∈ A ++ [0, 0] ++ B, 0 ≤ x ∧ x ≤ 255 := by
    intro x hx
    simp only [List.mem_append, List.mem_cons, List.not_mem_nil, or_false] at hx
    rcases hx with (h | (h | h)) | h
    · exact bA x h
    · subst h; omega
    · subst h; omega
    · exact bB x h
  have ln : (A ++ nbl S 2 ++ B).length = (A ++ [0, 0] ++ B).length := by simp only [List.length_append, nbl_len]; rfl
  have lz : A.length + 1 < (A ++ [0, 0] ++ B).length := by simp only [List.length_append, List.length_cons, List.length_nil]; omega
  have g0 : ∀ (p q : Int) (j : Nat), j ≠ A.length → j ≠ A.length + 1 → (A ++ [p, q] ++ B).getD j 0 = (A ++ [0, 0] ++ B).getD j 0 := by
    intro p q j h1 h2
    simp only [List.getD_eq_getElem?_getD]
    congr 1
    rw [List.append_assoc, List.append_assoc]
    by_cases hj : j < A.length
    · rw [List.getElem?_append_left hj, List.getElem?_append_left hj]
    · have r1 : (A ++ ([p, q] ++ B))[j]? = ([p, q] ++ B)[j - A.length]? := List.getElem?_append_right (by omega)
      have r2 : (A ++ ([0, 0] ++ B))[j]? = ([0, 0] ++ B)[j - A.length]? := List.getElem?_append_right (by omega)
      rw [r1, r2]
      obtain ⟨i, hi⟩ : ∃ i, j - A.length = i + 2 := ⟨j - A.length - 2, by omega⟩
      rw [hi]
      rfl
  have ga : ∀ (p q : Int), (A ++ [p, q] ++ B).getD A.length 0 = p := by
    intro p q
    rw [List.getD_eq_getElem?_getD, List.append_assoc, List.getElem?_append_right (Nat.le_refl _), Nat.sub_self]; rfl
  have gb : ∀ (p q : Int), (A ++ [p, q] ++ B).getD (A.length + 1) 0 = q := by
    intro p q
    rw [List.getD_eq_getElem?_getD, List.append_assoc, List.getElem?_append_right (by omega), show A.length + 1 - A.length = 1 by omega]; rfl
  have en : nbl S 2 = [S / 256 % 256, S % 256] := by
    show [nb S 2 0, nb S 2 1] = _
    unfold nb
    simp
  have hc : S = chk (fun j => (A ++ [0, 0] ++ B).getD j 0) (A ++ [0, 0] ++ B).length := hS
  unfold chkL
  rw [ln, en]
  refine chk_put _ (fun j => (A ++ [0, 0] ++ B).getD j 0) A.length _ hA lz (fun k => getD_bd bd k) (fun j hj h1 h2 => g0 _ _ j h1 h2) (ga 0 0) (gb 0 0) ?_ ?_
  · rw [← hc]; exact ga _ _
  · rw [← hc]; exact gb _ _
theorem segL_len (src dst sp dp sq ak fl wn : Int) (data : ByteArray) : (segL src dst sp dp sq ak fl wn data).length = 18 + (segB data).length := by
  simp [segL, segA_len, nbl_len]; omega
/-- The sum over a segment is 0. -/
theorem seg_zero (src dst sp dp sq ak fl wn : Int) (data : ByteArray) (hf : 0 ≤ fl ∧ fl ≤ 255) : endsL src dst 6 (segL src dst sp dp sq ak fl wn data) = 0 := by
  have hl := segL_len src dst sp dp sq ak fl wn data
  have l0 : (segA sp dp sq ak fl wn ++ [0, 0] ++ segB data).length = 18 + (segB data).length := by simp [segA_len]; omega
  have hb : ∀ x ∈ pseudoL src dst 6 ((18 + (segB data).length : Nat) : Int) ++ segA sp dp sq ak fl wn, 0 ≤ x ∧ x ≤ 255 := bdA (pseudoL_bd src dst 6 _ (by omega)) (segA_bd sp dp sq ak fl wn hf)
  have := chkL_put (pseudoL src dst 6 ((18 + (segB data).length : Nat) : Int) ++ segA sp dp sq ak fl wn) (segB data) (by rw [List.length_append, pseudoL_len, segA_len]) hb (segB_bd data)
  unfold endsL
  rw [hl]
  unfold segL segSum endsL
  rw [l0]
  simpa [List.append_assoc] using this
theorem segL_bd (src dst sp dp sq ak fl wn : Int) (data : ByteArray) (hf : 0 ≤ fl ∧ fl ≤ 255) : ∀ x ∈ segL src dst sp dp sq ak fl wn data, 0 ≤ x ∧ x ≤ 255 :=
  bdA (bdA (segA_bd sp dp sq ak fl wn hf) (nbl_bd _ _)) (segB_bd data)
/-- The parts of a segment's bytes. -/
theorem seg_parts (src dst sp dp sq ak fl wn : Int) (data : ByteArray) (h1 : 0 ≤ sp ∧ sp ≤ 65535) (h2 : 0 ≤ dp ∧ dp ≤ 65535) (h3 : 0 ≤ sq ∧ sq ≤ 4294967295) (h4 : 0 ≤ ak ∧ ak ≤ 4294967295) (hf : 0 ≤ fl ∧ fl ≤ 255) (h6 : 0 ≤ wn ∧ wn ≤ 65535) :
    pn (fun j => (segL src dst sp dp sq ak fl wn data).getD j 0) 0 2 = sp ∧ pn (fun j => (segL src dst sp dp sq ak fl wn data).getD j 0) 2 2 = dp ∧ pn (fun j => (segL src dst sp dp sq ak fl wn data).getD j 0) 4 4 = sq ∧ pn (fun j => (segL src dst sp dp sq ak fl wn data).getD j 0) 8 4 = ak ∧
    (segL src dst sp dp sq ak fl wn data).getD 12 0 = 80 ∧ (segL src dst sp dp sq ak fl wn data).getD 13 0 = fl ∧ pn (fun j => (segL src dst sp dp sq ak fl wn data).getD j 0) 14 2 = wn ∧ ps (fun j => (segL src dst sp dp sq ak fl wn data).getD j 0) 20 data.size = data := by
  have hbd := segL_bd src dst sp dp sq ak fl wn data hf
  have hl := segL_len src dst sp dp sq ak fl wn data
  have hB : (segB data).length = 2 + data.size := by simp [segB, nums_len]; omega
  obtain ⟨S, hS⟩ : ∃ S, S = segSum src dst sp dp sq ak fl wn data := ⟨_, rfl⟩
  have e : segL src dst sp dp sq ak fl wn data = nbl sp 2 ++ (nbl dp 2 ++ (nbl sq 4 ++ (nbl ak 4 ++ ([80, fl] ++ (nbl wn 2 ++ (nbl S 2 ++ ([0, 0] ++ nums data))))))) := by
    rw [hS]; simp [segL, segA, segB]
  have e12 : (segL src dst sp dp sq ak fl wn data).drop 12 = [80, fl] ++ (nbl wn 2 ++ (nbl S 2 ++ ([0, 0] ++ nums data))) := by
    rw [e, ← List.append_assoc, ← List.append_assoc, ← List.append_assoc, List.drop_left' (by simp [nbl_len])]
  refine ⟨?_, ?_, ?_, ?_, ?_, ?_, ?_, ?_⟩
  · rw [pn_list _ 0 2 (by omega) sp ?_, num2 _ h1.1 h1.2]
    rw [e, List.drop_zero, List.take_left' (nbl_len _ _)]
  · rw [pn_list _ 2 2 (by omega) dp ?_, num2 _ h2.1 h2.2]
    rw [e, List.drop_left' (nbl_len _ _), List.take_left' (nbl_len _ _)]
  · rw [pn_list _ 4 4 (by omega) sq ?_, num4 _ h3.1 h3.2]
    rw [e, ← List.append_assoc, List.drop_left' (by simp [nbl_len]), List.take_left' (nbl_len _ _)]
  · rw [pn_list _ 8 4 (by omega) ak ?_, num4 _ h4.1 h4.2]
    rw [e, ← List.append_assoc, ← List.append_assoc, List.drop_left' (by simp [nbl_len]), List.take_left' (nbl_len _ _)]
  · have := congrArg (fun l => l[0]?) e12
    simp only [List.getElem?_drop] at this
    rw [List.getD_eq_getElem?_getD, this]
    rfl
  · have := congrArg (fun l => l[1]?) e12
    simp only [List.getElem?_drop] at this
    rw [List.getD_eq_getElem?_getD, this]
    rfl
  · rw [pn_list _ 14 2 (by omega) wn ?_, num2 _ h6.1 h6.2]
    rw [e, ← List.append_assoc, ← List.append_assoc, ← List.append_assoc, ← List.append_assoc, List.drop_left' (by simp [nbl_len]), List.take_left' (nbl_len _ _)]
  · refine ps_list _ hbd 20 data.size (by omega) data ?_
    rw [e, ← List.append_assoc, ← List.append_assoc, ← List.append_assoc, ← List.append_assoc, ← List.append_assoc, ← List.append_assoc, ← List.append_assoc, List.drop_left' (by simp [nbl_len]), List.take_of_length_le (by rw [nums_len]; exact Nat.le_refl _)]
theorem app_left (P L : List Int) (j : Nat) (h : j < P.length) : (P ++ L).getD j 0 = P.getD j 0 := by
  rw [List.getD_eq_getElem?_getD, List.getD_eq_getElem?_getD, List.getElem?_append_left h]
theorem app_right (P L : List Int) (j : Nat) (h : P.length ≤ j) : (P ++ L).getD j 0 = L.getD (j - P.length) 0 := by
  rw [List.getD_eq_getElem?_getD, List.getD_eq_getElem?_getD, List.getElem?_append_right h]
theorem map_getD (f : Nat → Int) (n j : Nat) (h : j < n) : ((List.range n).map f).getD j 0 = f j := by
  rw [List.getD_eq_getElem?_getD, List.getElem?_map, List.getElem?_range h]; rfl
/-- With one byte turned the sum is not 0. -/
theorem ends_turned (src dst pro : Int) (hp : 0 ≤ pro ∧ pro ≤ 255) (L : List Int) (bL : ∀ x ∈ L, 0 ≤ x ∧ x ≤ 255) (h0 : endsL src dst pro L = 0) (k : Nat) (hk : k < L.length) (y : Int) (y0 : 0 ≤ y ∧ y ≤ 255) (hne : y - L.getD k 0 ≠ 0) (h1 : -128 ≤ y - L.getD k 0) (h2 : y - L.getD k 0 ≤ 128) :
    endsL src dst pro ((List.range L.length).map (fun j => if j = k then y else L.getD j 0)) ≠ 0 := by
  obtain ⟨M, hM⟩ : ∃ M, M = (List.range L.length).map (fun j => if j = k then y else L.getD j 0) := ⟨_, rfl⟩
  have lM : M.length = L.length := by rw [hM]; simp
  have gM : ∀ j, j < L.length → M.getD j 0 = if j = k then y else L.getD j 0 := fun j hj => by rw [hM]; exact map_getD _ _ j hj
  have bM : ∀ x ∈ M, 0 ≤ x ∧ x ≤ 255 := fun x hx => by
    rw [hM] at hx
    obtain ⟨j, -, rfl⟩ := List.mem_map.1 hx
    split
    · exact y0
    · exact getD_bd bL j
  rw [← hM]
  have lP := pseudoL_len src dst pro (L.length : Int)
  have bP := pseudoL_bd src dst pro (L.length : Int) hp
  unfold endsL at h0 ⊢
  rw [lM]
  generalize pseudoL src dst pro (L.length : Int) = P at lP bP h0 ⊢
  unfold chkL at h0 ⊢
  have e1 : (P ++ L).length = 12 + L.length := by rw [List.length_append, lP]
  have e2 : (P ++ M).length = 12 + L.length := by rw [List.length_append, lP, lM]
  rw [e1] at h0
  rw [e2]
  have out : ∀ j, 12 + L.length ≤ j → (P ++ M).getD j 0 = (P ++ L).getD j 0 := fun j hj => by
    rw [List.getD_eq_getElem?_getD, List.getD_eq_getElem?_getD, List.getElem?_eq_none (by omega), List.getElem?_eq_none (by omega)]
  refine chk_turned (fun j => (P ++ L).getD j 0) _ (12 + k) (12 + L.length) (by omega) (fun j => getD_bd (bdA bP bL) j) (fun j => getD_bd (bdA bP bM) j) (fun j hj => ?_) h0 ?_ ?_ ?_
  · by_cases ha : j < 12
    · show (P ++ M).getD j 0 = (P ++ L).getD j 0
      rw [app_left P M j (by omega), app_left P L j (by omega)]
    · by_cases hb : j < 12 + L.length
      · show (P ++ M).getD j 0 = (P ++ L).getD j 0
        rw [app_right P M j (by omega), app_right P L j (by omega), gM _ (by omega), if_neg (by omega)]
      · exact out j (by omega)
  all_goals
    show _
    try dsimp only
    rw [app_right P M _ (by omega), app_right P L _ (by omega), lP, show 12 + k - 12 = k by omega, gM k hk, if_pos rfl]
    assumption
theorem chk_set (M : List Int) (bM : ∀ x ∈ M, 0 ≤ x ∧ x ≤ 255) (k : Nat) (hk : k < M.length) (y : Int) (hy : 0 ≤ y ∧ y ≤ 255) (h0 : chkL M = 0) (hne : y - M.getD k 0 ≠ 0) (h1 : -128 ≤ y - M.getD k 0) (h2 : y - M.getD k 0 ≤ 128) : chkL (M.set k y) ≠ 0 := by
  have gk : (M.set k y).getD k 0 = y := by rw [List.getD_eq_getElem?_getD, List.getElem?_set_self hk]; rfl
  have bS : ∀ x ∈ M.set k y, 0 ≤ x ∧ x ≤ 255 := fun x hx => by
    rcases List.mem_or_eq_of_mem_set hx with h | h
    · exact bM x h
    · rw [h]; exact hy
  unfold chkL at h0 ⊢
  rw [List.length_set]
  refine chk_turned (fun j => M.getD j 0) _ k M.length hk (fun j => getD_bd bM j) (fun j => getD_bd bS j) (fun j hj => ?_) h0 ?_ ?_ ?_
  · show (M.set k y).getD j 0 = M.getD j 0
    rw [List.getD_eq_getElem?_getD, List.getD_eq_getElem?_getD, List.getElem?_set_ne (fun e => hj e.symm)]
  all_goals
    show _
    rw [gk]
    assumption
/-- Other ends, another sum. -/
theorem ends_dst (L : List Int) (bL : ∀ x ∈ L, 0 ≤ x ∧ x ≤ 255) (h0 : endsL 10 20 6 L = 0) : endsL 10 21 6 L ≠ 0 := by
  have e0 : pseudoL 10 20 6 (L.length : Int) = [0, 0, 0, 10, 0, 0, 0, 20, 0, 6] ++ nbl (L.length : Int) 2 := by
    unfold pseudoL; rw [show nbl 10 4 = [0, 0, 0, 10] by decide, show nbl 20 4 = [0, 0, 0, 20] by decide]; rfl
  have e1 : pseudoL 10 21 6 (L.length : Int) = [0, 0, 0, 10, 0, 0, 0, 21, 0, 6] ++ nbl (L.length : Int) 2 := by
    unfold pseudoL; rw [show nbl 10 4 = [0, 0, 0, 10] by decide, show nbl 21 4 = [0, 0, 0, 21] by decide]; rfl
  have b0 := pseudoL_bd 10 20 6 (L.length : Int) (by omega)
  unfold endsL at h0 ⊢
  rw [e0] at h0 b0
  rw [e1]
  exact chk_set _ (bdA b0 bL) 7 (by simp) 21 (by omega) h0 (by show (21 : Int) - 20 ≠ 0; decide) (by show (-128 : Int) ≤ 21 - 20; decide) (by show (21 : Int) - 20 ≤ 128; decide)
theorem ends_src (L : List Int) (bL : ∀ x ∈ L, 0 ≤ x ∧ x ≤ 255) (h0 : endsL 10 20 17 L = 0) : endsL 11 20 17 L ≠ 0 := by
  have e0 : pseudoL 10 20 17 (L.length : Int) = [0, 0, 0, 10, 0, 0, 0, 20, 0, 17] ++ nbl (L.length : Int) 2 := by
    unfold pseudoL; rw [show nbl 10 4 = [0, 0, 0, 10] by decide, show nbl 20 4 = [0, 0, 0, 20] by decide]; rfl
  have e1 : pseudoL 11 20 17 (L.length : Int) = [0, 0, 0, 11, 0, 0, 0, 20, 0, 17] ++ nbl (L.length : Int) 2 := by
    unfold pseudoL; rw [show nbl 11 4 = [0, 0, 0, 11] by decide, show nbl 20 4 = [0, 0, 0, 20] by decide]; rfl
  have b0 := pseudoL_bd 10 20 17 (L.length : Int) (by omega)
  unfold endsL at h0 ⊢
  rw [e0] at h0 b0
  rw [e1]
  exact chk_set _ (bdA b0 bL) 3 (by simp) 11 (by omega) h0 (by show (11 : Int) - 10 ≠ 0; decide) (by show (-128 : Int) ≤ 11 - 10; decide) (by show (11 : Int) - 10 ≤ 128; decide)
end Go.Proofs.Ytfcdobicilediaa
