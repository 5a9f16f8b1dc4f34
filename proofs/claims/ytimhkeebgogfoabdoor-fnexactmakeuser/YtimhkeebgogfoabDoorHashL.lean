/- The text that is hashed, with what stands behind it; the hash's text: lists of numbers. -/
import Derived.Test.YtimhkeebgogfoabDoorHashM
import Derived.Test.YtimhkeebgogfoabDoorPart
namespace Go.Proofs.YtimhkeebgogfoabDoor
open Go.RowKit Go.PlainAid
set_option linter.unusedVariables false

/-- How many noughts stand behind m bytes. -/
def padN (m : Nat) : Nat := (120 - m % 64) % 64
theorem padN_is (m : Nat) : (m + padN m) % 64 = 56 := by unfold padN; omega
theorem padN_min (m k : Nat) (hk : k < padN m) : (m + k) % 64 ≠ 56 := by unfold padN at hk; omega
theorem padN_lt (m : Nat) : padN m < 64 := by unfold padN; omega
theorem padN_mod (m : Nat) : padN (m % 64 + 1) = padN (m + 1) := by unfold padN; omega
/-- The mark, noughts, the length in bits. -/
def tailL (m n : Nat) : List Int := [128] ++ List.replicate (padN (m + 1)) 0 ++ nbl 0 4 ++ nbl (8 * (n : Int)) 4
theorem tailL_len (m n : Nat) : (tailL m n).length = 9 + padN (m + 1) := by simp [tailL, nbl_len]; omega
theorem tailL_bd (m n : Nat) : ∀ x ∈ tailL m n, 0 ≤ x ∧ x ≤ 255 := by
  intro x hx
  simp only [tailL, List.mem_append, List.mem_singleton] at hx
  rcases hx with ((h | h) | h) | h
  · subst h; omega
  · rw [List.eq_of_mem_replicate h]; omega
  · exact nbl_bd _ _ x h
  · exact nbl_bd _ _ x h
/-- All of it. -/
def allL (f : Nat → Int) (n : Nat) : List Int := (List.range n).map f ++ tailL n n
theorem allL_len (f : Nat → Int) (n : Nat) : (allL f n).length = n + 9 + padN (n + 1) := by simp [allL, tailL_len]; omega
theorem allL_mod (f : Nat → Int) (n : Nat) : (allL f n).length % 64 = 0 := by rw [allL_len]; have := padN_is (n + 1); omega
theorem allL_bd (f : Nat → Int) (n : Nat) (h : ∀ k, 0 ≤ f k ∧ f k ≤ 255) : ∀ x ∈ allL f n, 0 ≤ x ∧ x ≤ 255 := by
  intro x hx
  rcases List.mem_append.1 hx with h' | h'
  · obtain ⟨j, _, rfl⟩ := List.mem_map.1 h'; exact h j
  · exact tailL_bd _ _ x h'
/-- What is hashed, by its place. -/
def allF (f : Nat → Int) (n : Nat) (j : Nat) : Int := (allL f n).getD j 0
theorem allF_low (f : Nat → Int) (n j : Nat) (h : j < n) : allF f n j = f j := by
  unfold allF allL
  rw [List.getD_eq_getElem?_getD, List.getElem?_append_left (by simpa using h)]
  simp [h]
/-- The rest of the text behind its whole blocks, and what stands behind it. -/
def lastL (f : Nat → Int) (n : Nat) : List Int := (List.range (n % 64)).map (fun j => f (64 * (n / 64) + j)) ++ tailL (n % 64) n
theorem tailL_mod (m n : Nat) : tailL (m % 64) n = tailL m n := by unfold tailL; rw [padN_mod]
theorem allL_split (f : Nat → Int) (n : Nat) : allL f n = (List.range (64 * (n / 64))).map f ++ lastL f n := by
  unfold allL lastL
  rw [tailL_mod, ← List.append_assoc]
  congr 1
  have e : n = 64 * (n / 64) + n % 64 := by omega
  have : List.range n = List.range (64 * (n / 64)) ++ (List.range (n % 64)).map (fun j => 64 * (n / 64) + j) := by
    conv => lhs; rw [e]
    rw [List.range_add]
  conv => lhs; rw [this]
  simp
theorem lastL_at (f : Nat → Int) (n j : Nat) : (lastL f n).getD j 0 = allF f n (64 * (n / 64) + j) := by
  unfold allF
  rw [allL_split, List.getD_eq_getElem?_getD, List.getD_eq_getElem?_getD, List.getElem?_append_right (by simp)]
  simp
theorem lastL_len (f : Nat → Int) (n : Nat) : (lastL f n).length = n % 64 + 9 + padN (n + 1) := by simp [lastL, tailL_len, padN_mod]; omega
theorem lastL_bd (f : Nat → Int) (n : Nat) (h : ∀ k, 0 ≤ f k ∧ f k ≤ 255) : ∀ x ∈ lastL f n, 0 ≤ x ∧ x ≤ 255 := by
  intro x hx
  rcases List.mem_append.1 hx with h' | h'
  · obtain ⟨j, _, rfl⟩ := List.mem_map.1 h'; exact h _
  · exact tailL_bd _ _ x h'
/-- How many blocks the last ones are. -/
def lastN (n : Nat) : Nat := (n % 64 + 9 + padN (n + 1)) / 64
theorem lastL_blocks (f : Nat → Int) (n : Nat) : (lastL f n).length = 64 * lastN n := by rw [lastL_len]; unfold lastN; have := padN_is (n + 1); omega
theorem allL_blocks (f : Nat → Int) (n : Nat) : (allL f n).length = 64 * (n / 64 + lastN n) := by rw [allL_len]; unfold lastN; have := padN_is (n + 1); omega
theorem lastN_le (n : Nat) : lastN n ≤ 2 := by unfold lastN; have := padN_lt (n + 1); omega

theorem or_add32 (x y : Nat) (i : Nat) (hy : y < 2 ^ i) (hx : x * 2 ^ i < 4294967296) (hy' : y < 4294967296) : bits .or .u32 ((x * 2 ^ i : Nat) : Int) (y : Int) = ((x * 2 ^ i + y : Nat) : Int) := by
  rw [or_u32 _ _ hx hy', Nat.mul_comm, ← Nat.two_pow_add_eq_or_of_lt hy]
theorem word_or (f : Nat → Int) (h : ∀ k, 0 ≤ f k ∧ f k ≤ 255) (k : Nat) : wordB f k = bits .or .u32 (bits .or .u32 (bits .or .u32 (IntKind.u32.wrap (f (4 * k + 0) * 16777216)) (IntKind.u32.wrap (f (4 * k + 1) * 65536))) (IntKind.u32.wrap (f (4 * k + 2) * 256))) (f (4 * k + 3)) := by
  have h0 := h (4 * k + 0)
  have h1 := h (4 * k + 1)
  have h2 := h (4 * k + 2)
  have h3 := h (4 * k + 3)
  unfold wordB
  simp only [numOf]
  generalize f (4 * k + 0) = a at *
  generalize f (4 * k + 1) = b at *
  generalize f (4 * k + 2) = c at *
  generalize f (4 * k + 3) = d at *
  obtain ⟨a, rfl⟩ := Int.eq_ofNat_of_zero_le h0.1
  obtain ⟨b, rfl⟩ := Int.eq_ofNat_of_zero_le h1.1
  obtain ⟨c, rfl⟩ := Int.eq_ofNat_of_zero_le h2.1
  obtain ⟨d, rfl⟩ := Int.eq_ofNat_of_zero_le h3.1
  have e1 : IntKind.u32.wrap ((a : Int) * 16777216) = ((a * 2 ^ 8 * 2 ^ 16 : Nat) : Int) := by rw [IntKind.wrap_u32]; omega
  have e2 : IntKind.u32.wrap ((b : Int) * 65536) = ((b * 2 ^ 16 : Nat) : Int) := by rw [IntKind.wrap_u32]; omega
  have e3 : IntKind.u32.wrap ((c : Int) * 256) = ((c * 2 ^ 8 : Nat) : Int) := by rw [IntKind.wrap_u32]; omega
  have r1 : bits .or .u32 ((a * 2 ^ 8 * 2 ^ 16 : Nat) : Int) ((b * 2 ^ 16 : Nat) : Int) = (((a * 2 ^ 8 + b) * 2 ^ 8 * 2 ^ 8 : Nat) : Int) := by
    have := or_add32 a (b * 2 ^ 16) 24 (by omega) (by omega) (by omega)
    rw [show a * 2 ^ 8 * 2 ^ 16 = a * 2 ^ 24 by omega, this]; omega
  have r2 : bits .or .u32 (((a * 2 ^ 8 + b) * 2 ^ 8 * 2 ^ 8 : Nat) : Int) ((c * 2 ^ 8 : Nat) : Int) = ((((a * 2 ^ 8 + b) * 2 ^ 8 + c) * 2 ^ 8 : Nat) : Int) := by
    have := or_add32 (a * 2 ^ 8 + b) (c * 2 ^ 8) 16 (by omega) (by omega) (by omega)
    rw [show (a * 2 ^ 8 + b) * 2 ^ 8 * 2 ^ 8 = (a * 2 ^ 8 + b) * 2 ^ 16 by omega, this]; omega
  have r3 : bits .or .u32 ((((a * 2 ^ 8 + b) * 2 ^ 8 + c) * 2 ^ 8 : Nat) : Int) (d : Int) = ((((a * 2 ^ 8 + b) * 2 ^ 8 + c) * 2 ^ 8 + d : Nat) : Int) := or_add32 _ d 8 (by omega) (by omega) (by omega)
  rw [e1, e2, e3, r1, r2, r3]
  omega
theorem nbl8 (n : Nat) (h : n ≤ 65536) : nbl (8 * (n : Int)) 8 = nbl 0 4 ++ nbl (8 * (n : Int)) 4 := by
  have z : ∀ j, 4 ≤ j → (8 * (n : Int)) / 2 ^ (8 * j) = 0 := fun j hj => by
    apply Int.ediv_eq_zero_of_lt (by omega)
    have : (2 : Int) ^ 32 ≤ 2 ^ (8 * j) := by
      have := Nat.pow_le_pow_right (n := 2) (by omega) (show 32 ≤ 8 * j by omega)
      exact_mod_cast this
    omega
  unfold nbl
  show [nb _ 8 0, nb _ 8 1, nb _ 8 2, nb _ 8 3, nb _ 8 4, nb _ 8 5, nb _ 8 6, nb _ 8 7] = [nb 0 4 0, nb 0 4 1, nb 0 4 2, nb 0 4 3, nb _ 4 0, nb _ 4 1, nb _ 4 2, nb _ 4 3]
  unfold nb
  have z4 := z 4 (by omega)
  have z5 := z 5 (by omega)
  have z6 := z 6 (by omega)
  have z7 := z 7 (by omega)
  simp only [Nat.reduceSub, z4, z5, z6, z7]
  rfl
theorem wordB_congr (f g : Nat → Int) (i : Nat) (h : ∀ j, j < 4 → f (4 * i + j) = g (4 * i + j)) : wordB f i = wordB g i := numOf_congr _ _ 4 h
theorem sch_congr (f g : Nat → Int) (h : ∀ j, j < 64 → f j = g j) : ∀ i : Nat, sch f i = sch g i := by
  intro i
  induction i using Nat.strongRecOn with
  | _ i ih =>
    by_cases hi : i < 16
    · rw [sch_low f i hi, sch_low g i hi]; exact wordB_congr f g i (fun j hj => h _ (by omega))
    · rw [sch_high f i (by omega), sch_high g i (by omega), ih (i - 16) (by omega), ih (i - 7) (by omega), ih (i - 15) (by omega), ih (i - 2) (by omega)]
theorem stR_congr (f g s : Nat → Int) (h : ∀ j, j < 64 → f j = g j) : ∀ k : Nat, stR f s k = stR g s k
  | 0 => rfl
  | k + 1 => by rw [stR, stR, stR_congr f g s h k, sch_congr f g h k]
theorem blk_congr (f g s : Nat → Int) (h : ∀ j, j < 64 → f j = g j) : blk f s = blk g s := by
  funext i; unfold blk; rw [stR_congr f g s h]
theorem stB_congr (f g s : Nat → Int) : ∀ k : Nat, (∀ j, j < 64 * k → f j = g j) → stB f s k = stB g s k
  | 0, _ => rfl
  | k + 1, h => by
    rw [stB, stB, stB_congr f g s k (fun j hj => h j (by omega))]
    exact blk_congr _ _ _ (fun j hj => h _ (by omega))
theorem stB_add (f s : Nat → Int) (k : Nat) : ∀ m : Nat, stB f s (k + m) = stB (fun j => f (64 * k + j)) (stB f s k) m
  | 0 => rfl
  | m + 1 => by
    rw [← Nat.add_assoc, stB, stB, stB_add f s k m]
    congr 1
    funext j
    rw [show 64 * (k + m) + j = 64 * k + (64 * m + j) by omega]
theorem blk_bd (f s : Nat → Int) (i : Nat) : 0 ≤ blk f s i ∧ blk f s i ≤ 4294967295 := by unfold blk; omega
theorem HB_bd : ∀ i : Nat, 0 ≤ HB i ∧ HB i ≤ 4294967295 := by
  intro i
  by_cases h : i < 8
  · have : ∀ j : Fin 8, 0 ≤ HB j.val ∧ HB j.val ≤ 4294967295 := by decide +kernel
    exact this ⟨i, h⟩
  · unfold HB
    rw [List.getD_eq_getElem?_getD, List.getElem?_eq_none (by show 8 ≤ i; omega)]
    decide
theorem stB_bd (f s : Nat → Int) (hs : ∀ i, 0 ≤ s i ∧ s i ≤ 4294967295) : ∀ (k i : Nat), 0 ≤ stB f s k i ∧ stB f s k i ≤ 4294967295
  | 0, i => hs i
  | k + 1, i => blk_bd _ _ i
/-- The bytes of the first k words. -/
def txt (s : Nat → Int) : Nat → List Int
  | 0 => []
  | k + 1 => txt s k ++ nbl (s k) 4
theorem txt_len (s : Nat → Int) : ∀ k : Nat, (txt s k).length = 4 * k
  | 0 => rfl
  | k + 1 => by rw [txt, List.length_append, txt_len s k, nbl_len]; omega
theorem txt_bd (s : Nat → Int) : ∀ k : Nat, ∀ x ∈ txt s k, 0 ≤ x ∧ x ≤ 255
  | 0 => fun x hx => by cases hx
  | k + 1 => fun x hx => by
    rw [txt, List.mem_append] at hx
    rcases hx with h | h
    · exact txt_bd s k x h
    · exact nbl_bd _ _ x h
/-- The state behind a text of n bytes. -/
def hst (f : Nat → Int) (n : Nat) : Nat → Int := stB (allF f n) HB (n / 64 + lastN n)
theorem hst_bd (f : Nat → Int) (n i : Nat) : 0 ≤ hst f n i ∧ hst f n i ≤ 4294967295 := stB_bd _ _ HB_bd _ i
/-- The hash. -/
def hashF (f : Nat → Int) (n : Nat) : ByteArray := strOfNums (txt (hst f n) 8)
theorem hst_split (f : Nat → Int) (n : Nat) : stB (fun j => (lastL f n).getD j 0) (stB f HB (n / 64)) (lastN n) = hst f n := by
  unfold hst
  rw [stB_add, stB_congr f (allF f n) HB (n / 64) (fun j hj => (allF_low f n j (by omega)).symm)]
  congr 1
  funext j
  exact lastL_at f n j
theorem hashF_size (f : Nat → Int) (n : Nat) : (hashF f n).size = 32 := by
  unfold hashF
  have := nums_len (strOfNums (txt (hst f n) 8))
  rw [nums_strOfNums _ (txt_bd _ 8), txt_len] at this
  omega
end Go.Proofs.YtimhkeebgogfoabDoor
