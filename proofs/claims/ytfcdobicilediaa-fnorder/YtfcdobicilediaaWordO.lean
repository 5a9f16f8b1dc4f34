/- Words: their class and their order as one key, and what the language's comparisons of floating numbers tell of it. Nothing of the program is imported. -/
import Derived.Test.YtfcdobicilediaaFloatO
import Derived.Laws.Cover2
namespace Go.Proofs.Ytfcdobicilediaa.Fo
set_option linter.unusedVariables false

def topI : Int := 9218868437227405312
def ord3 (a b : Int) : Int := if a < b then -1 else if a = b then 0 else 1
def clx (r : Int) (s : Bool) : Int := if topI < r then 0 else if r = topI then (if s then 1 else 6) else if r = 0 then (if s then 3 else 4) else if s then 2 else 5
theorem clx_t (r : Int) : clx r true = if topI < r then 0 else if r = topI then 1 else if r = 0 then 3 else 2 := rfl
theorem clx_f (r : Int) : clx r false = if topI < r then 0 else if r = topI then 6 else if r = 0 then 4 else 5 := rfl
def kx (r : Int) (s : Bool) : Int := if topI < r then -36893488147419103232 else if s then -r - 1 else r
def sx (r : Int) (s : Bool) : Int := if s then -r else r
/-- How two floating numbers are compared by the library. -/
def fcmp (r : Int) (s : Bool) (q : Int) (t : Bool) : Int := if topI < r then (if topI < q then 0 else -1) else if topI < q then 1 else ord3 (sx r s) (sx q t)
theorem or_eq (r q : Int) (s t : Bool) (hr : 0 ≤ r) (hq : 0 ≤ q) (hr2 : r < 9223372036854775808) (hq2 : q < 9223372036854775808) :
    (if ord3 (clx r s) (clx q t) = 0 then fcmp r s q t else ord3 (clx r s) (clx q t)) = ord3 (kx r s) (kx q t) := by
  simp only [ord3, clx, kx, sx, fcmp, topI]
  cases s <;> cases t <;> simp only [Bool.false_eq_true, if_true, if_false] <;> omega
/-- The model's order. -/
theorem spec_eq (r q : Int) (s t : Bool) (hr : 0 ≤ r) (hq : 0 ≤ q) (hr2 : r < 9223372036854775808) (hq2 : q < 9223372036854775808) :
    (if clx r s ≠ clx q t then (if clx q t < clx r s then 1 else -1) else if clx r s = 0 then 0 else if r = q then 0 else if (decide (q < r) != s) = true then 1 else -1) = ord3 (kx r s) (kx q t) := by
  simp only [ord3, clx, kx, topI]
  by_cases hlt : q < r
  · rw [decide_eq_true hlt]
    cases s <;> cases t <;> simp only [Bool.false_eq_true, if_true, if_false, bne_self_eq_false, Bool.true_bne, Bool.not_false] <;> omega
  · rw [decide_eq_false hlt]
    cases s <;> cases t <;> simp only [Bool.false_eq_true, if_true, if_false, bne_self_eq_false, Bool.false_bne] <;> omega

/-- The bits below the sign, the number that they are held as. -/
def rI (b : Nat) : Int := (rg b : Int)
def sI (b : Nat) : Int := sx (rI b) (sg b)
theorem rI_nn (b : Nat) : 0 ≤ rI b := by unfold rI; omega
theorem rI_lt (b : Nat) : rI b < 9223372036854775808 := by unfold rI rg; omega
theorem key_sI (b : Nat) : key b = sI b := rfl
theorem ord_I (a b : Nat) : FloatKind.f64.format.order a b = if topI < rI a ∨ topI < rI b then none else some (compare (sI a) (sI b)) := by
  show Ieee.double.order a b = _
  rw [ord_eq]
  have e : (top < rg a ∨ top < rg b) ↔ (topI < rI a ∨ topI < rI b) := by unfold top topI rI; omega
  simp only [e, key_sI]
theorem cmp_lt (x y : Int) : (compare x y == Ordering.lt) = decide (x < y) := by
  show (compareOfLessAndEq x y == Ordering.lt) = _
  unfold compareOfLessAndEq
  by_cases h : x < y
  · rw [if_pos h, decide_eq_true h]; rfl
  · rw [if_neg h, decide_eq_false h]
    by_cases h2 : x = y
    · rw [if_pos h2]; rfl
    · rw [if_neg h2]; rfl
theorem cmp_gt (x y : Int) : (compare x y == Ordering.gt) = decide (y < x) := by
  show (compareOfLessAndEq x y == Ordering.gt) = _
  unfold compareOfLessAndEq
  by_cases h : x < y
  · rw [if_pos h, decide_eq_false (by omega)]; rfl
  · rw [if_neg h]
    by_cases h2 : x = y
    · rw [if_pos h2, decide_eq_false (by omega)]; rfl
    · rw [if_neg h2, decide_eq_true (by omega)]; rfl
theorem cmp_eq (x y : Int) : (compare x y == Ordering.eq) = decide (x = y) := by
  show (compareOfLessAndEq x y == Ordering.eq) = _
  unfold compareOfLessAndEq
  by_cases h : x < y
  · rw [if_pos h, decide_eq_false (by omega)]; rfl
  · rw [if_neg h]
    by_cases h2 : x = y
    · rw [if_pos h2, decide_eq_true h2]; rfl
    · rw [if_neg h2, decide_eq_false h2]; rfl
theorem f_lt (a b : Nat) : (FloatKind.f64.format.order a b == some Ordering.lt) = decide (rI a ≤ topI ∧ rI b ≤ topI ∧ sI a < sI b) := by
  rw [ord_I]
  by_cases h : topI < rI a ∨ topI < rI b
  · rw [if_pos h, decide_eq_false (by omega)]; rfl
  · rw [if_neg h]
    show (compare (sI a) (sI b) == Ordering.lt) = _
    rw [cmp_lt]
    apply decide_eq_decide.2
    omega
theorem f_gt (a b : Nat) : (FloatKind.f64.format.order a b == some Ordering.gt) = decide (rI a ≤ topI ∧ rI b ≤ topI ∧ sI b < sI a) := by
  rw [ord_I]
  by_cases h : topI < rI a ∨ topI < rI b
  · rw [if_pos h, decide_eq_false (by omega)]; rfl
  · rw [if_neg h]
    show (compare (sI a) (sI b) == Ordering.gt) = _
    rw [cmp_gt]
    apply decide_eq_decide.2
    omega
theorem f_eq (a b : Nat) : (FloatKind.f64.format.order a b == some Ordering.eq) = decide (rI a ≤ topI ∧ rI b ≤ topI ∧ sI a = sI b) := by
  rw [ord_I]
  by_cases h : topI < rI a ∨ topI < rI b
  · rw [if_pos h, decide_eq_false (by omega)]; rfl
  · rw [if_neg h]
    show (compare (sI a) (sI b) == Ordering.eq) = _
    rw [cmp_eq]
    apply decide_eq_decide.2
    omega
theorem f_ne (a b : Nat) : (FloatKind.f64.format.order a b != some Ordering.eq) = !decide (rI a ≤ topI ∧ rI b ≤ topI ∧ sI a = sI b) := by
  rw [← f_eq]; rfl

theorem f_nan (b : Nat) : (FloatKind.f64.format.order b b != some Ordering.eq) = decide (topI < rI b) := by
  rw [f_ne]
  by_cases h : topI < rI b
  · rw [decide_eq_true h, decide_eq_false (by omega)]; rfl
  · rw [decide_eq_false h, decide_eq_true ⟨by omega, by omega, rfl⟩]; rfl
theorem k0 : rI 0 = 0 ∧ sI 0 = 0 := by decide
theorem f_eq0 (b : Nat) : (FloatKind.f64.format.order b 0 == some Ordering.eq) = decide (rI b = 0) := by
  rw [f_eq, k0.1, k0.2]
  apply decide_eq_decide.2
  have := rI_nn b
  unfold sI sx topI
  cases sg b <;> simp only [Bool.false_eq_true, if_true, if_false] <;> omega
theorem f_lt0 (b : Nat) : (FloatKind.f64.format.order b 0 == some Ordering.lt) = decide (rI b ≤ topI ∧ rI b ≠ 0 ∧ sg b = true) := by
  rw [f_lt, k0.1, k0.2]
  apply decide_eq_decide.2
  have := rI_nn b
  unfold sI sx topI
  cases sg b <;> simp only [Bool.false_eq_true, if_true, if_false, and_true, and_false, iff_false] <;> omega
theorem kmax : rI 9218868437227405311 = 9218868437227405311 ∧ sI 9218868437227405311 = 9218868437227405311 := by decide
theorem f_max (b : Nat) : (FloatKind.f64.format.order b 9218868437227405311 == some Ordering.gt) = decide (rI b = topI ∧ sg b = false) := by
  rw [f_gt, kmax.1, kmax.2]
  apply decide_eq_decide.2
  have := rI_nn b
  unfold sI sx topI
  cases sg b <;> simp only [Bool.false_eq_true, Bool.true_eq_false, if_true, if_false, and_true, and_false, iff_false] <;> omega
theorem kth : rI 4652007308841189376 = 4652007308841189376 ∧ sI 4652007308841189376 = 4652007308841189376 := by decide
theorem f_lth (b : Nat) (h : sg b = false) (h2 : rI b ≤ topI) : (FloatKind.f64.format.order b 4652007308841189376 == some Ordering.lt) = decide (rI b < 4652007308841189376) := by
  rw [f_lt, kth.1, kth.2]
  apply decide_eq_decide.2
  have := rI_nn b
  unfold sI sx topI
  unfold topI at h2
  rw [h]
  simp only [Bool.false_eq_true, if_false]
  omega

/-- The sign turned. -/
theorem xor_low (c : Nat) (h : c < 2 ^ 63) : c ^^^ 2 ^ 63 = c + 2 ^ 63 := by
  have e := Nat.two_pow_add_eq_or_of_lt h 1
  rw [Nat.mul_one] at e
  rw [Nat.add_comm, e]
  apply Nat.eq_of_testBit_eq
  intro i
  rw [Nat.testBit_xor, Nat.testBit_or, Nat.testBit_two_pow]
  by_cases hi : 63 = i
  · subst hi
    rw [Nat.testBit_lt_two_pow h]
    simp
  · simp [hi]
theorem xor_high (c : Nat) (h : c < 2 ^ 63) : (c + 2 ^ 63) ^^^ 2 ^ 63 = c := by
  rw [← xor_low c h, Nat.xor_assoc, Nat.xor_self, Nat.xor_zero]
theorem neg_of (b : Nat) (h : b < 2 ^ 64) : sg (Op.negFloat .f64 b) = !sg b ∧ rI (Op.negFloat .f64 b) = rI b := by
  have e : Op.negFloat .f64 b = b ^^^ 2 ^ 63 := rfl
  rw [e]
  by_cases hb : b < 2 ^ 63
  · rw [xor_low b hb]
    have h1 : sg b = false := by unfold sg; rw [show b / 2 ^ 63 = 0 by omega]; rfl
    have h2 : sg (b + 2 ^ 63) = true := by unfold sg; rw [show (b + 2 ^ 63) / 2 ^ 63 = 1 by omega]; rfl
    refine ⟨by rw [h1, h2]; rfl, ?_⟩
    unfold rI rg; omega
  · obtain ⟨c, rfl⟩ : ∃ c, b = c + 2 ^ 63 := ⟨b - 2 ^ 63, by omega⟩
    have hc : c < 2 ^ 63 := by omega
    rw [xor_high c hc]
    have h1 : sg c = false := by unfold sg; rw [show c / 2 ^ 63 = 0 by omega]; rfl
    have h2 : sg (c + 2 ^ 63) = true := by unfold sg; rw [show (c + 2 ^ 63) / 2 ^ 63 = 1 by omega]; rfl
    refine ⟨by rw [h1, h2]; rfl, ?_⟩
    unfold rI rg; omega

/-- A word's bits, as one number. -/
def bW (h l : Int) : Nat := (h * 4294967296 + l).toNat
def rW (h l : Int) : Int := h % 2147483648 * 4294967296 + l
def mW (h : Int) : Bool := decide (2147483648 ≤ h)
def okW (h l : Int) : Prop := 0 ≤ h ∧ h ≤ 4294967295 ∧ 0 ≤ l ∧ l ≤ 4294967295
instance (h l : Int) : Decidable (okW h l) := by unfold okW; infer_instance
def clW (h l : Int) : Int := clx (rW h l) (mW h)
def kW (x : Int × Int) : Int := kx (rW x.1 x.2) (mW x.1)
theorem bW_lt {h l : Int} (hw : okW h l) : bW h l < 2 ^ 64 := by unfold okW at hw; unfold bW; omega
theorem rI_bW {h l : Int} (hw : okW h l) : rI (bW h l) = rW h l := by unfold okW at hw; unfold rI rg bW rW; omega
theorem sg_bW {h l : Int} (hw : okW h l) : sg (bW h l) = mW h := by
  unfold okW at hw
  unfold sg mW bW
  by_cases hh : 2147483648 ≤ h
  · rw [decide_eq_true hh, show (h * 4294967296 + l).toNat / 2 ^ 63 = 1 by omega]; rfl
  · rw [decide_eq_false hh, show (h * 4294967296 + l).toNat / 2 ^ 63 = 0 by omega]; rfl
theorem rW_nn {h l : Int} (hw : okW h l) : 0 ≤ rW h l := by unfold okW at hw; unfold rW; omega
theorem rW_lt {h l : Int} (hw : okW h l) : rW h l < 9223372036854775808 := by unfold okW at hw; unfold rW; omega
end Go.Proofs.Ytfcdobicilediaa.Fo
