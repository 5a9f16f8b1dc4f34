/- A datagram is read back from its bytes; the sum over it is 0, a sum of 0 told as 65535 too: lists of numbers. -/
import Derived.Test.YtfcdobicilediaaSgBack
namespace Go.Proofs.Ytfcdobicilediaa
open Go.RowKit Go.PlainAid Go.Proofs.Ytfcdobicilediaa.Pl
set_option linter.unusedVariables false
set_option maxRecDepth 20000

theorem chk_putf (F f : Nat → Int) (p n : Nat) (s : Int) (hp : p % 2 = 0) (hn : p + 1 < n) (hf : ∀ k, 0 ≤ f k ∧ f k ≤ 255) (h : ∀ j, j < n → j ≠ p → j ≠ p + 1 → F j = f j) (z0 : f p = 0) (z1 : f (p + 1) = 0) (hS : s = fix0 (chk f n)) (h0 : F p = s / 256 % 256) (h1 : F (p + 1) = s % 256) : chk F n = 0 := by
  have hc := chk_bd f n hf
  have hs := (wsum_bd f hf n).1
  have e1 := wsum_change f (fun j => if j = p then F p else f j) p (fun j hj => by simp [hj]) n
  have e2 := wsum_change (fun j => if j = p then F p else f j) (fun j => if j = p + 1 then F (p + 1) else if j = p then F p else f j) (p + 1) (fun j hj => by simp [hj]) n
  have e3 : wsum F n = wsum (fun j => if j = p + 1 then F (p + 1) else if j = p then F p else f j) n := wsum_congr _ _ n (fun j hj => by
    by_cases a : j = p + 1
    · subst a; simp
    · by_cases b : j = p
      · subst b; simp
      · simp only [if_neg a, if_neg b]; exact h j hj b a)
  rw [if_pos (by omega), if_pos hp] at e1
  rw [if_pos hn, if_neg (by omega)] at e2
  simp only [if_pos] at e1 e2
  rw [if_neg (by omega : ¬ p + 1 = p)] at e2
  have b0 : 0 ≤ s ∧ s ≤ 65535 := by rw [hS]; unfold fix0; split <;> omega
  have e : wsum F n = wsum f n + s := by
    rw [e3, e2, e1, h0, h1, z0, z1]
    omega
  unfold chk
  rw [e, hS]
  unfold fix0
  split
  · rename_i hz
    unfold chk foldc at hz
    unfold foldc
    split at hz <;> split <;> omega
  · exact total_zero _ hs
theorem chkL_putf (A B : List Int) (hA : A.length % 2 = 0) (bA : ∀ x ∈ A, 0 ≤ x ∧ x ≤ 255) (bB : ∀ x ∈ B, 0 ≤ x ∧ x ≤ 255) : chkL (A ++ nbl (fix0 (chkL (A ++ [0, 0] ++ B))) 2 ++ B) = 0 := by
  obtain ⟨S, hS⟩ : ∃ S, S = fix0 (chkL (A ++ [0, 0] ++ B)) := ⟨_, rfl⟩
  rw [← hS]
  have bd : ∀ x ∈ A ++ [0, 0] ++ B, 0 ≤ x ∧ x ≤ 255 := by
    intro x hx
    simp only [List.mem_append, List.mem_cons, List.not_mem_nil, or_false] at hx
    rcases hx with (h | (h | h)) | h
    · exact bA x h
    · subst h; omega
    · subst h; omega
    · exact bB x h
  have ln : (A ++ nbl S 2 ++ B).length = (A ++ [0, 0] ++ B).length := by simp only [List.length_append, nbl_len]; rfl
  have lz : A.length + 1 < (A ++ [0, 0] ++ B).length := by simp only [List.length_append, List.length_cons, List.length_nil]; omega
  have g0 : ∀ (p q : Int) (j : Nat), j ≠ A.length → j ≠ A.length + 1 → (A ++ [p, q] ++ B).getD j 0 = (A ++ [0, 0] ++ B).getD j 0 := by
    intro p q j h1 h2
    simp only [List.getD_eq_getElem?_getD]
    congr 1
    rw [List.append_assoc, List.append_assoc]
    by_cases hj : j < A.length
    · rw [List.getElem?_append_left hj, List.getElem?_append_left hj]
    · have r1 : (A ++ ([p, q] ++ B))[j]? = ([p, q] ++ B)[j - A.length]? := List.getElem?_append_right (by omega)
      have r2 : (A ++ ([0, 0] ++ B))[j]? = ([0, 0] ++ B)[j - A.length]? := List.getElem?_append_right (by omega)
      rw [r1, r2]
      obtain ⟨i, hi⟩ : ∃ i, j - A.length = i + 2 := ⟨j - A.length - 2, by omega⟩
      rw [hi]
      rfl
  have ga : ∀ (p q : Int), (A ++ [p, q] ++ B).getD A.length 0 = p := by
    intro p q
    rw [List.getD_eq_getElem?_getD, List.append_assoc, List.getElem?_append_right (Nat.le_refl _), Nat.sub_self]; rfl
  have gb : ∀ (p q : Int), (A ++ [p, q] ++ B).getD (A.length + 1) 0 = q := by
    intro p q
    rw [List.getD_eq_getElem?_getD, List.append_assoc, List.getElem?_append_right (by omega), show A.length + 1 - A.length = 1 by omega]; rfl
  have en : nbl S 2 = [S / 256 % 256, S % 256] := by
    show [nb S 2 0, nb S 2 1] = _
    unfold nb
    simp
  have hc : S = fix0 (chk (fun j => (A ++ [0, 0] ++ B).getD j 0) (A ++ [0, 0] ++ B).length) := hS
  unfold chkL
  rw [ln, en]
  exact chk_putf _ (fun j => (A ++ [0, 0] ++ B).getD j 0) A.length _ S hA lz (fun k => getD_bd bd k) (fun j hj h1 h2 => g0 _ _ j h1 h2) (ga 0 0) (gb 0 0) hc (ga _ _) (gb _ _)
theorem dgL_len (src dst sp dp : Int) (data : ByteArray) : (dgL src dst sp dp data).length = 8 + data.size := by
  simp [dgL, dgA_len, nbl_len, nums_len]; omega
theorem dgL_bd (src dst sp dp : Int) (data : ByteArray) : ∀ x ∈ dgL src dst sp dp data, 0 ≤ x ∧ x ≤ 255 :=
  bdA (bdA (dgA_bd sp dp data) (nbl_bd _ _)) (nums_bd data)
theorem dg_zero (src dst sp dp : Int) (data : ByteArray) : endsL src dst 17 (dgL src dst sp dp data) = 0 := by
  have hl := dgL_len src dst sp dp data
  have l0 : (dgA sp dp data ++ [0, 0] ++ nums data).length = 8 + data.size := by simp [dgA_len, nums_len]; omega
  have hb : ∀ x ∈ pseudoL src dst 17 ((8 + data.size : Nat) : Int) ++ dgA sp dp data, 0 ≤ x ∧ x ≤ 255 := bdA (pseudoL_bd src dst 17 _ (by omega)) (dgA_bd sp dp data)
  have := chkL_putf (pseudoL src dst 17 ((8 + data.size : Nat) : Int) ++ dgA sp dp data) (nums data) (by rw [List.length_append, pseudoL_len, dgA_len]) hb (nums_bd data)
  unfold endsL
  rw [hl]
  unfold dgL dgSum endsL
  rw [l0]
  simpa [List.append_assoc] using this
theorem dgSum_bd (src dst sp dp : Int) (data : ByteArray) : 1 ≤ dgSum src dst sp dp data ∧ dgSum src dst sp dp data ≤ 65535 := by
  have := endsL_bd src dst 17 (dgA sp dp data ++ [0, 0] ++ nums data) (by omega) (bdA (bdA (dgA_bd sp dp data) (fun x hx => by simp at hx; omega)) (nums_bd data))
  unfold dgSum fix0
  split <;> omega
/-- The parts of a datagram's bytes. -/
theorem dg_parts (src dst sp dp : Int) (data : ByteArray) (h1 : 0 ≤ sp ∧ sp ≤ 65535) (h2 : 0 ≤ dp ∧ dp ≤ 65535) (hd : data.size ≤ 60000) :
    pn (fun j => (dgL src dst sp dp data).getD j 0) 0 2 = sp ∧ pn (fun j => (dgL src dst sp dp data).getD j 0) 2 2 = dp ∧ pn (fun j => (dgL src dst sp dp data).getD j 0) 4 2 = 8 + (data.size : Int) ∧ pn (fun j => (dgL src dst sp dp data).getD j 0) 6 2 ≠ 0 ∧ ps (fun j => (dgL src dst sp dp data).getD j 0) 8 data.size = data := by
  have hbd := dgL_bd src dst sp dp data
  have hl := dgL_len src dst sp dp data
  have hsb := dgSum_bd src dst sp dp data
  have e : dgL src dst sp dp data = nbl sp 2 ++ (nbl dp 2 ++ (nbl (8 + (data.size : Int)) 2 ++ (nbl (dgSum src dst sp dp data) 2 ++ nums data))) := by simp [dgL, dgA]
  refine ⟨?_, ?_, ?_, ?_, ?_⟩
  · rw [pn_list _ 0 2 (by omega) sp ?_, num2 _ h1.1 h1.2]
    rw [e, List.drop_zero, List.take_left' (nbl_len _ _)]
  · rw [pn_list _ 2 2 (by omega) dp ?_, num2 _ h2.1 h2.2]
    rw [e, List.drop_left' (nbl_len _ _), List.take_left' (nbl_len _ _)]
  · rw [pn_list _ 4 2 (by omega) (8 + (data.size : Int)) ?_, num2 _ (by omega) (by omega)]
    rw [e, ← List.append_assoc, List.drop_left' (by simp [nbl_len]), List.take_left' (nbl_len _ _)]
  · rw [pn_list _ 6 2 (by omega) (dgSum src dst sp dp data) ?_, num2 _ (by omega) (by omega)]
    · omega
    · rw [e, ← List.append_assoc, ← List.append_assoc, List.drop_left' (by simp [nbl_len]), List.take_left' (nbl_len _ _)]
  · refine ps_list _ hbd 8 data.size (by omega) data ?_
    rw [e, ← List.append_assoc, ← List.append_assoc, ← List.append_assoc, List.drop_left' (by simp [nbl_len]), List.take_of_length_le (by rw [nums_len]; exact Nat.le_refl _)]
end Go.Proofs.Ytfcdobicilediaa
