/- The sum of zip files as plain numbers: eight single steps a byte are two steps of four bits by the table. Nothing of the program is imported. -/
import Derived.WalkKit
import Derived.Laws.BitsAllLaws
namespace Go.Proofs.YtimhkeebgogfoabDoor
open Go.RowKit
set_option linter.unusedVariables false

/-- One bit. -/
def cb (x : Nat) : Nat := if x % 2 = 1 then x / 2 ^^^ 3988292384 else x / 2
def cbs : Nat → Nat → Nat
  | 0, x => x
  | k + 1, x => cb (cbs k x)
theorem xor_half (a b : Nat) : (a ^^^ b) / 2 = a / 2 ^^^ b / 2 := by
  have := Nat.shiftRight_xor_distrib (a := a) (b := b) (i := 1)
  simpa [Nat.shiftRight_succ] using this
theorem xor_par (a b : Nat) : (a ^^^ b) % 2 = (a + b) % 2 := by
  have h := Nat.xor_mod_two_eq_one (a := a) (b := b)
  omega
theorem cb_xor (a b : Nat) : cb (a ^^^ b) = cb a ^^^ cb b := by
  unfold cb
  rw [xor_half]
  have hp := xor_par a b
  by_cases ha : a % 2 = 1 <;> by_cases hb : b % 2 = 1
  · rw [if_pos ha, if_pos hb, if_neg (by omega)]
    rw [show a / 2 ^^^ 3988292384 ^^^ (b / 2 ^^^ 3988292384) = a / 2 ^^^ b / 2 ^^^ (3988292384 ^^^ 3988292384) by ac_rfl, Nat.xor_self, Nat.xor_zero]
  · rw [if_pos ha, if_neg hb, if_pos (by omega)]; ac_rfl
  · rw [if_neg ha, if_pos hb, if_pos (by omega)]; ac_rfl
  · rw [if_neg ha, if_neg hb, if_neg (by omega)]
theorem cb_even (h : Nat) : cb (2 * h) = h := by unfold cb; rw [if_neg (by omega)]; omega
theorem cbs_xor (a b : Nat) : ∀ k, cbs k (a ^^^ b) = cbs k a ^^^ cbs k b
  | 0 => rfl
  | k + 1 => by rw [cbs, cbs_xor a b k, cb_xor]; rfl
theorem cbs4 (h : Nat) : cbs 4 (16 * h) = h := by
  show cb (cb (cb (cb (16 * h)))) = h
  rw [show 16 * h = 2 * (2 * (2 * (2 * h))) by omega, cb_even, cb_even, cb_even, cb_even]
theorem cbs_add (x : Nat) : ∀ k m : Nat, cbs (k + m) x = cbs k (cbs m x)
  | 0, m => by rw [Nat.zero_add]; rfl
  | k + 1, m => by rw [Nat.add_right_comm, cbs, cbs_add x k m]; rfl
/-- The table. -/
def ctab : List Nat := [0, 498536548, 997073096, 651767980, 1994146192, 1802195444, 1303535960, 1342533948, 3988292384, 4027552580, 3604390888, 3412177804, 2607071920, 2262029012, 2685067896, 3183342108]
theorem ctab_is : ∀ l : Fin 16, cbs 4 l.val = ctab.getD l.val 0 := by decide +kernel
theorem split16 (x : Nat) : x = 16 * (x / 16) ^^^ x % 16 := by
  have h : 16 * (x / 16) ^^^ x % 16 = 16 * (x / 16) + x % 16 := by
    have := Nat.two_pow_add_eq_or_of_lt (i := 4) (b := x % 16) (by omega) (x / 16)
    rw [show (2 : Nat) ^ 4 = 16 by rfl] at this
    rw [this]
    apply Nat.eq_of_testBit_eq
    intro i
    rw [Nat.testBit_xor, Nat.testBit_or]
    by_cases hi : i < 4
    · have : (16 * (x / 16)).testBit i = false := by
        rw [show (16 : Nat) = 2 ^ 4 by rfl, Nat.testBit_two_pow_mul]
        simp; omega
      rw [this]; simp
    · have : (x % 16).testBit i = false := Nat.testBit_lt_two_pow (Nat.lt_of_lt_of_le (Nat.mod_lt _ (by omega)) (by
        rw [show (16 : Nat) = 2 ^ 4 by rfl]; exact Nat.pow_le_pow_right (by omega) (by omega)))
      rw [this]; simp
  omega
/-- Four bits at once. -/
theorem cbs4_tab (x : Nat) : cbs 4 x = x / 16 ^^^ ctab.getD (x % 16) 0 := by
  have e : cbs 4 x = cbs 4 (16 * (x / 16) ^^^ x % 16) := by rw [← split16]
  rw [e, cbs_xor, cbs4, ← ctab_is ⟨x % 16, Nat.mod_lt _ (by omega)⟩]
theorem xor_lt32 {a b : Nat} (ha : a < 4294967296) (hb : b < 4294967296) : a ^^^ b < 4294967296 := Nat.xor_lt_two_pow (n := 32) ha hb
theorem cb_lt {x : Nat} (h : x < 4294967296) : cb x < 4294967296 := by
  unfold cb; split
  · exact xor_lt32 (by omega) (by omega)
  · omega
theorem cbs_lt {x : Nat} (h : x < 4294967296) : ∀ k, cbs k x < 4294967296
  | 0 => h
  | k + 1 => cb_lt (cbs_lt h k)
/-- Behind k bytes. -/
def crc (f : Nat → Int) : Nat → Nat
  | 0 => 4294967295
  | k + 1 => cbs 8 (crc f k ^^^ (f k).toNat)
theorem crc_lt (f : Nat → Int) (h : ∀ k, 0 ≤ f k ∧ f k ≤ 255) : ∀ k, crc f k < 4294967296
  | 0 => by show 4294967295 < 4294967296; omega
  | k + 1 => cbs_lt (xor_lt32 (crc_lt f h k) (by have := h k; omega)) 8
def crcOf (f : Nat → Int) (n : Nat) : Int := ((crc f n ^^^ 4294967295 : Nat) : Int)

theorem ofInt_u32 (a : Nat) (ha : a < 4294967296) : (BitVec.ofInt 32 (a : Int)).toNat = a := by
  rw [BitVec.ofInt_natCast, BitVec.toNat_ofNat]; exact Nat.mod_eq_of_lt (by omega)
theorem xor_u32 (a b : Nat) (ha : a < 4294967296) (hb : b < 4294967296) : bits .xor .u32 (a : Int) (b : Int) = ((a ^^^ b : Nat) : Int) := by
  have hx := xor_lt32 ha hb
  show IntKind.u32.wrap ((BitVec.ofInt 32 (a : Int) ^^^ BitVec.ofInt 32 (b : Int)).toNat : Int) = _
  rw [BitVec.toNat_xor, ofInt_u32 a ha, ofInt_u32 b hb, IntKind.wrap_u32]
  omega
theorem and_u32 (a b : Nat) (ha : a < 4294967296) (hb : b < 4294967296) : bits .and .u32 (a : Int) (b : Int) = ((a &&& b : Nat) : Int) := by
  have hx : a &&& b < 2 ^ 32 := Nat.and_lt_two_pow _ (by omega)
  show IntKind.u32.wrap ((BitVec.ofInt 32 (a : Int) &&& BitVec.ofInt 32 (b : Int)).toNat : Int) = _
  rw [BitVec.toNat_and, ofInt_u32 a ha, ofInt_u32 b hb, IntKind.wrap_u32]
  omega
theorem or_u32 (a b : Nat) (ha : a < 4294967296) (hb : b < 4294967296) : bits .or .u32 (a : Int) (b : Int) = ((a ||| b : Nat) : Int) := by
  have hx : a ||| b < 2 ^ 32 := Nat.or_lt_two_pow (by omega) (by omega)
  show IntKind.u32.wrap ((BitVec.ofInt 32 (a : Int) ||| BitVec.ofInt 32 (b : Int)).toNat : Int) = _
  rw [BitVec.toNat_or, ofInt_u32 a ha, ofInt_u32 b hb, IntKind.wrap_u32]
  omega
theorem and15_u32 (a : Nat) (ha : a < 4294967296) : bits .and .u32 (a : Int) 15 = ((a % 16 : Nat) : Int) := by
  have := and_u32 a 15 ha (by omega)
  rw [show (((15 : Nat) : Int)) = 15 by rfl, Nat.and_two_pow_sub_one_eq_mod a 4] at this
  exact this
end Go.Proofs.YtimhkeebgogfoabDoor
