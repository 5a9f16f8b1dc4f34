/- A packet is read back from its bytes, whatever stands behind them; the sum of its head is 0, and with a byte of the head turned it is not: lists of numbers. -/
import Derived.Test.YtfcdobicilediaaLists2
import Derived.Test.YtfcdobicilediaaPacketB
import Derived.Test.YtfcdobicilediaaCheckMath
namespace Go.Proofs.Ytfcdobicilediaa
open Go.RowKit Go.PlainAid Go.Proofs.Ytfcdobicilediaa.Pl
set_option linter.unusedVariables false
set_option maxRecDepth 20000

theorem packetL_len (src dst pro ttl idn : Int) (body : ByteArray) : (packetL src dst pro ttl idn body).length = 20 + body.size := by
  simp [packetL, packetA_len, packetB_len, nbl_len, nums_len]; omega
theorem packetL_bd (src dst pro ttl idn : Int) (body : ByteArray) (hp : 0 ≤ pro ∧ pro ≤ 255) (ht : 0 ≤ ttl ∧ ttl ≤ 255) : ∀ x ∈ packetL src dst pro ttl idn body, 0 ≤ x ∧ x ≤ 255 := by
  intro x hx
  simp only [packetL, packetA, packetB, List.mem_append, List.mem_cons, List.not_mem_nil, or_false] at hx
  rcases hx with ((((((h | h) | h) | h) | (h | h | h | h)) | h) | h | h) | h
  all_goals first | (subst h; omega) | exact nbl_bd _ _ x h | exact nums_bd _ x h
/-- The list ahead of the body. -/
def headL (src dst pro ttl idn : Int) (body : ByteArray) : List Int := packetA pro ttl idn body ++ nbl (packetSum src dst pro ttl idn body) 2 ++ packetB src dst
theorem headL_len (src dst pro ttl idn : Int) (body : ByteArray) : (headL src dst pro ttl idn body).length = 20 := by simp [headL, packetA_len, packetB_len, nbl_len]
theorem packet_parts (src dst pro ttl idn : Int) (body : ByteArray) (Z : List Int) (hZ : ∀ x ∈ Z, 0 ≤ x ∧ x ≤ 255) (hs : 0 ≤ src ∧ src ≤ 4294967295) (hd : 0 ≤ dst ∧ dst ≤ 4294967295) (hp : 0 ≤ pro ∧ pro ≤ 255) (ht : 0 ≤ ttl ∧ ttl ≤ 255) (hi : 0 ≤ idn ∧ idn ≤ 65535) (hb : body.size ≤ 380) :
    (fun j => (packetL src dst pro ttl idn body ++ Z).getD j 0) 0 = 69 ∧ pn (fun j => (packetL src dst pro ttl idn body ++ Z).getD j 0) 2 2 = 20 + (body.size : Int) ∧ pn (fun j => (packetL src dst pro ttl idn body ++ Z).getD j 0) 4 2 = idn ∧ pn (fun j => (packetL src dst pro ttl idn body ++ Z).getD j 0) 6 2 = 0 ∧
    (fun j => (packetL src dst pro ttl idn body ++ Z).getD j 0) 8 = ttl ∧ (fun j => (packetL src dst pro ttl idn body ++ Z).getD j 0) 9 = pro ∧ pn (fun j => (packetL src dst pro ttl idn body ++ Z).getD j 0) 12 4 = src ∧ pn (fun j => (packetL src dst pro ttl idn body ++ Z).getD j 0) 16 4 = dst ∧ ps (fun j => (packetL src dst pro ttl idn body ++ Z).getD j 0) 20 body.size = body := by
  have hl := packetL_len src dst pro ttl idn body
  have hbd : ∀ x ∈ packetL src dst pro ttl idn body ++ Z, 0 ≤ x ∧ x ≤ 255 := fun x hx => by
    rcases List.mem_append.1 hx with h | h
    · exact packetL_bd src dst pro ttl idn body hp ht x h
    · exact hZ x h
  have hlz : (packetL src dst pro ttl idn body ++ Z).length = 20 + body.size + Z.length := by rw [List.length_append, hl]
  have lA : (packetA pro ttl idn body).length = 10 := packetA_len _ _ _ _
  have e : packetL src dst pro ttl idn body ++ Z = [69, 0] ++ (nbl (20 + (body.size : Int)) 2 ++ (nbl idn 2 ++ ([0, 0] ++ ([ttl, pro] ++ (nbl (packetSum src dst pro ttl idn body) 2 ++ (nbl src 4 ++ (nbl dst 4 ++ (nums body ++ Z)))))))) := by
    simp [packetL, packetA, packetB]
  refine ⟨by rw [e]; rfl, ?_, ?_, ?_, ?_, ?_, ?_, ?_, ?_⟩
  · rw [pn_list _ 2 2 (by omega) (20 + (body.size : Int)) ?_, num2 _ (by omega) (by omega)]
    rw [e, List.drop_left' (show ([69, 0] : List Int).length = 2 from rfl), List.take_left' (nbl_len _ _)]
  · rw [pn_list _ 4 2 (by omega) idn ?_, num2 _ hi.1 hi.2]
    rw [e, ← List.append_assoc, List.drop_left' (by simp [nbl_len]), List.take_left' (nbl_len _ _)]
  · have e0 : (packetL src dst pro ttl idn body ++ Z).drop 6 = [0, 0] ++ ([ttl, pro] ++ (nbl (packetSum src dst pro ttl idn body) 2 ++ (nbl src 4 ++ (nbl dst 4 ++ (nums body ++ Z))))) := by
      rw [e, ← List.append_assoc, ← List.append_assoc, List.drop_left' (by simp [nbl_len])]
    rw [pn_list _ 6 2 (by omega) 0 ?_]
    · decide
    · rw [e0, List.take_left' (show ([0, 0] : List Int).length = 2 from rfl)]; decide
  · have e0 : (packetL src dst pro ttl idn body ++ Z).drop 8 = [ttl, pro] ++ (nbl (packetSum src dst pro ttl idn body) 2 ++ (nbl src 4 ++ (nbl dst 4 ++ (nums body ++ Z)))) := by
      rw [e, ← List.append_assoc, ← List.append_assoc, ← List.append_assoc, List.drop_left' (by simp [nbl_len])]
    show (packetL src dst pro ttl idn body ++ Z).getD 8 0 = ttl
    have := congrArg (fun l => l[0]?) e0
    simp only [List.getElem?_drop] at this
    rw [List.getD_eq_getElem?_getD, this]
    rfl
  · have e0 : (packetL src dst pro ttl idn body ++ Z).drop 8 = [ttl, pro] ++ (nbl (packetSum src dst pro ttl idn body) 2 ++ (nbl src 4 ++ (nbl dst 4 ++ (nums body ++ Z)))) := by
      rw [e, ← List.append_assoc, ← List.append_assoc, ← List.append_assoc, List.drop_left' (by simp [nbl_len])]
    show (packetL src dst pro ttl idn body ++ Z).getD 9 0 = pro
    have := congrArg (fun l => l[1]?) e0
    simp only [List.getElem?_drop] at this
    rw [List.getD_eq_getElem?_getD, this]
    rfl
  · rw [pn_list _ 12 4 (by omega) src ?_, num4 _ hs.1 hs.2]
    rw [e, ← List.append_assoc, ← List.append_assoc, ← List.append_assoc, ← List.append_assoc, ← List.append_assoc, List.drop_left' (by simp [nbl_len]), List.take_left' (nbl_len _ _)]
  · rw [pn_list _ 16 4 (by omega) dst ?_, num4 _ hd.1 hd.2]
    rw [e, ← List.append_assoc, ← List.append_assoc, ← List.append_assoc, ← List.append_assoc, ← List.append_assoc, ← List.append_assoc, List.drop_left' (by simp [nbl_len]), List.take_left' (nbl_len _ _)]
  · refine ps_list _ hbd 20 body.size (by omega) body ?_
    rw [e, ← List.append_assoc, ← List.append_assoc, ← List.append_assoc, ← List.append_assoc, ← List.append_assoc, ← List.append_assoc, ← List.append_assoc, List.drop_left' (by simp [nbl_len]), List.take_left' (nums_len _)]
/-- A head of 20 bytes with its sum in places 10 and 11. -/
theorem chk_mid (F f : Nat → Int) (hf : ∀ k, 0 ≤ f k ∧ f k ≤ 255) (h : ∀ j, j < 20 → j ≠ 10 → j ≠ 11 → F j = f j) (z0 : f 10 = 0) (z1 : f 11 = 0) (h0 : F 10 = chk f 20 / 256 % 256) (h1 : F 11 = chk f 20 % 256) : chk F 20 = 0 := by
  have hc := chk_bd f 20 hf
  have hs := (wsum_bd f hf 20).1
  have e1 := wsum_change f (fun j => if j = 10 then F 10 else f j) 10 (fun j hj => by simp [hj]) 20
  have e2 := wsum_change (fun j => if j = 10 then F 10 else f j) (fun j => if j = 11 then F 11 else if j = 10 then F 10 else f j) 11 (fun j hj => by simp [hj]) 20
  have e3 : wsum F 20 = wsum (fun j => if j = 11 then F 11 else if j = 10 then F 10 else f j) 20 := wsum_congr _ _ 20 (fun j hj => by
    by_cases a : j = 11
    · subst a; simp
    · by_cases b : j = 10
      · subst b; simp
      · simp only [if_neg a, if_neg b]; exact h j hj b a)
  simp at e1 e2
  have e : wsum F 20 = wsum f 20 + (65535 - foldc (wsum f 20)) := by
    have : 256 * (chk f 20 / 256 % 256) + chk f 20 % 256 = chk f 20 := by omega
    rw [e3, e2, e1, h0, h1, z0, z1]
    unfold chk at this ⊢
    omega
  unfold chk
  rw [e]
  exact total_zero _ hs
theorem packet_chk (src dst pro ttl idn : Int) (body : ByteArray) (Z : List Int) (hp : 0 ≤ pro ∧ pro ≤ 255) (ht : 0 ≤ ttl ∧ ttl ≤ 255) : chk (fun j => (packetL src dst pro ttl idn body ++ Z).getD j 0) 20 = 0 := by
  obtain ⟨L0, hL0⟩ : ∃ L, L = packetA pro ttl idn body ++ [0, 0] ++ packetB src dst := ⟨_, rfl⟩
  have l0 : L0.length = 20 := by rw [hL0]; simp [packetA_len, packetB_len]
  have hS : packetSum src dst pro ttl idn body = chk (fun j => L0.getD j 0) 20 := by rw [packetSum, ← hL0, chkL, l0]
  have bd : ∀ x ∈ L0, 0 ≤ x ∧ x ≤ 255 := by
    intro x hx
    rw [hL0] at hx
    simp only [packetA, packetB, List.mem_append, List.mem_cons, List.not_mem_nil, or_false] at hx
    rcases hx with (((((h | h) | h) | h) | (h | h | h | h)) | (h | h)) | h | h
    all_goals first | (subst h; omega) | exact nbl_bd _ _ x h
  have lA : (packetA pro ttl idn body).length = 10 := packetA_len _ _ _ _
  have lB : (packetB src dst).length = 8 := packetB_len _ _
  obtain ⟨S, hSS⟩ : ∃ S, S = packetSum src dst pro ttl idn body := ⟨_, rfl⟩
  have eP : packetL src dst pro ttl idn body ++ Z = packetA pro ttl idn body ++ (nbl S 2 ++ (packetB src dst ++ (nums body ++ Z))) := by rw [hSS]; simp [packetL]
  have e0 : L0 = packetA pro ttl idn body ++ ([0, 0] ++ packetB src dst) := by rw [hL0, List.append_assoc]
  have lS : (nbl S 2).length = 2 := nbl_len _ _
  refine chk_mid _ (fun j => L0.getD j 0) (fun k => getD_bd bd k) (fun j hj h10 h11 => ?_) ?_ ?_ ?_ ?_
  · simp only [List.getD_eq_getElem?_getD]
    rw [eP, e0]
    by_cases hj1 : j < 10
    · rw [List.getElem?_append_left (by omega), List.getElem?_append_left (by omega)]
    · have a1 : (packetA pro ttl idn body ++ (nbl S 2 ++ (packetB src dst ++ (nums body ++ Z))))[j]? = (packetB src dst)[j - 12]? := by
        rw [List.getElem?_append_right (by omega), lA, List.getElem?_append_right (by omega), lS, List.getElem?_append_left (by omega), show j - 10 - 2 = j - 12 by omega]
      have a2 : (packetA pro ttl idn body ++ ([0, 0] ++ packetB src dst))[j]? = (packetB src dst)[j - 12]? := by
        have l2 : ([0, 0] : List Int).length = 2 := rfl
        rw [List.getElem?_append_right (by omega), lA, List.getElem?_append_right (by omega), l2, show j - 10 - 2 = j - 12 by omega]
      rw [a1, a2]
  · show L0.getD 10 0 = 0
    rw [List.getD_eq_getElem?_getD, e0, List.getElem?_append_right (by omega), lA]; rfl
  · show L0.getD 11 0 = 0
    rw [List.getD_eq_getElem?_getD, e0, List.getElem?_append_right (by omega), lA]; rfl
  · show (packetL src dst pro ttl idn body ++ Z).getD 10 0 = _
    rw [List.getD_eq_getElem?_getD, eP, List.getElem?_append_right (by omega), lA, List.getElem?_append_left (by omega), ← hS, ← hSS]
    show nb S 2 0 = _
    unfold nb; omega
  · show (packetL src dst pro ttl idn body ++ Z).getD 11 0 = _
    rw [List.getD_eq_getElem?_getD, eP, List.getElem?_append_right (by omega), lA, List.getElem?_append_left (by omega), ← hS, ← hSS]
    show nb S 2 1 = _
    unfold nb; simp
end Go.Proofs.Ytfcdobicilediaa
