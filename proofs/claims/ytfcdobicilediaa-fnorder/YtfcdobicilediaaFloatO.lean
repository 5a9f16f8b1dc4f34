/- Floating numbers of 64 bits, by their bits: how two stand to each other is told by their sign and the bits below it, read as a number. Nothing of the program is imported. -/
import Derived.WalkKit
import Ieee.Arith
namespace Go.Proofs.Ytfcdobicilediaa.Fo
set_option linter.unusedVariables false
open Ieee

def fval (r : Nat) : Nat := if r < 2 ^ 52 then r else (2 ^ 52 + r % 2 ^ 52) * 2 ^ (r / 2 ^ 52 - 1)

theorem fval_step (r : Nat) : fval r < fval (r + 1) := by
  unfold fval
  by_cases h : r + 1 < 2 ^ 52
  · rw [if_pos (by omega), if_pos h]; omega
  by_cases h2 : r < 2 ^ 52
  · have e : r + 1 = 2 ^ 52 := by omega
    rw [if_pos h2, if_neg h, e]
    simp
    omega
  rw [if_neg h2, if_neg h]
  by_cases h3 : r % 2 ^ 52 + 1 < 2 ^ 52
  · have e1 : (r + 1) / 2 ^ 52 = r / 2 ^ 52 := by omega
    have e2 : (r + 1) % 2 ^ 52 = r % 2 ^ 52 + 1 := by omega
    rw [e1, e2]
    exact Nat.mul_lt_mul_of_pos_right (by omega) (Nat.two_pow_pos _)
  · have e1 : (r + 1) / 2 ^ 52 - 1 = (r / 2 ^ 52 - 1) + 1 := by omega
    have e2 : (r + 1) % 2 ^ 52 = 0 := by omega
    have e3 : r % 2 ^ 52 = 2 ^ 52 - 1 := by omega
    rw [e1, e2, e3]
    generalize r / 2 ^ 52 - 1 = k
    rw [Nat.pow_succ 2 k]
    have hp : 0 < 2 ^ k := Nat.two_pow_pos _
    generalize 2 ^ k = c at *
    omega

theorem fval_lt {r s : Nat} (h : r < s) : fval r < fval s := by
  induction s with
  | zero => omega
  | succ s ih =>
    have := fval_step s
    by_cases h2 : r = s
    · subst h2; exact this
    · exact Nat.lt_trans (ih (by omega)) this

theorem fval_lt_iff (r s : Nat) : fval r < fval s ↔ r < s := by
  refine ⟨fun h => ?_, fval_lt⟩
  rcases Nat.lt_trichotomy r s with h2 | h2 | h2
  · exact h2
  · subst h2; omega
  · have := fval_lt h2; omega

theorem fval_eq_iff (r s : Nat) : fval r = fval s ↔ r = s := by
  refine ⟨fun h => ?_, fun h => by rw [h]⟩
  rcases Nat.lt_trichotomy r s with h2 | h2 | h2
  · have := fval_lt h2; omega
  · exact h2
  · have := fval_lt h2; omega

theorem fval_zero : fval 0 = 0 := by unfold fval; simp

def sgn (s : Bool) (v : Nat) : Int := if s then -(v : Int) else (v : Int)

theorem compare_of (a b c d : Int) (h1 : a < b ↔ c < d) (h2 : a = b ↔ c = d) : compare a b = compare c d := by
  show compareOfLessAndEq a b = compareOfLessAndEq c d
  unfold compareOfLessAndEq
  simp only [h1, h2]

theorem fval_pos {r : Nat} (h : 0 < r) : 0 < fval r := by have := fval_lt h; rw [fval_zero] at this; exact this

theorem sgn_cmp (s t : Bool) (r q : Nat) : compare (sgn s (fval r)) (sgn t (fval q)) = compare (sgn s r) (sgn t q) := by
  have h1 := fval_lt_iff r q
  have h2 := fval_lt_iff q r
  have h3 := fval_eq_iff r q
  have h4 := fval_eq_iff r 0
  have h5 := fval_eq_iff q 0
  rw [fval_zero] at h4 h5
  apply compare_of <;> cases s <;> cases t <;> simp only [sgn, if_true, if_false, Bool.false_eq_true] <;> omega

theorem compare_mul (a b : Int) (c : Nat) (hc : 0 < c) : compare (a * (c : Int)) (b * (c : Int)) = compare a b := by
  have hc' : (0 : Int) < (c : Int) := by omega
  apply compare_of
  · exact ⟨fun h => Int.lt_of_mul_lt_mul_right h (by omega), fun h => Int.mul_lt_mul_of_pos_right h hc'⟩
  · exact ⟨fun h => Int.eq_of_mul_eq_mul_right (by omega) h, fun h => by rw [h]⟩

theorem signed_mul (s : Bool) (m u k : Nat) : signed s m u * ((2 ^ k : Nat) : Int) = sgn s (m * 2 ^ (u + k)) := by
  unfold signed sgn
  have : ((m <<< u : Nat) : Int) * ((2 ^ k : Nat) : Int) = ((m * 2 ^ (u + k) : Nat) : Int) := by
    rw [← Int.natCast_mul, Nat.shiftLeft_eq, Nat.mul_assoc, ← Nat.pow_add]
  cases s
  · simp only [Bool.false_eq_true, if_false]; exact this
  · simp only [if_true]; rw [Int.neg_mul, this]

theorem order_num (s t : Bool) (m n i j : Nat) (L : Int) :
    Datum.order (.number s m (L + (i : Int))) (.number t n (L + (j : Int))) = some (compare (sgn s (m * 2 ^ i)) (sgn t (n * 2 ^ j))) := by
  unfold Datum.order
  show some (compare (signed s m ((L + (i : Int)) - min (L + (i : Int)) (L + (j : Int))).toNat) (signed t n ((L + (j : Int)) - min (L + (i : Int)) (L + (j : Int))).toNat)) = _
  have e1 : ((L + (i : Int)) - min (L + (i : Int)) (L + (j : Int))).toNat = i - min i j := by omega
  have e2 : ((L + (j : Int)) - min (L + (i : Int)) (L + (j : Int))).toNat = j - min i j := by omega
  rw [e1, e2, ← compare_mul _ _ (2 ^ min i j) (Nat.two_pow_pos _), signed_mul, signed_mul]
  have e3 : i - min i j + min i j = i := by omega
  have e4 : j - min i j + min i j = j := by omega
  rw [e3, e4]

def sg (x : Nat) : Bool := x / 2 ^ 63 % 2 == 1
def rg (x : Nat) : Nat := x % 2 ^ 63

/-- infinity's rung. -/
def top : Nat := 2047 * 2 ^ 52

theorem read_eq (x : Nat) : double.read x = if rg x < top then .number (sg x) (if rg x < 2 ^ 52 then rg x else 2 ^ 52 + rg x % 2 ^ 52) (double.leastPlace + ((rg x / 2 ^ 52 - 1 : Nat) : Int)) else if rg x = top then .infinity (sg x) else .nan (sg x) (rg x - top) := by
  have e1 : double.signWeight = 2 ^ 63 := rfl
  have e2 : double.binade = 2 ^ 52 := rfl
  have e3 : double.infRung = top := by rfl
  unfold Format.read
  rw [e1, e2, e3]
  show (if rg x < 2 ^ 52 then _ else if rg x < top then _ else if rg x = top then _ else _) = _
  by_cases h : rg x < 2 ^ 52
  · have h2 : rg x < top := by unfold top; omega
    have h3 : rg x / 2 ^ 52 - 1 = 0 := by omega
    rw [if_pos h, if_pos h2, if_pos h, h3]
    simp [sg, rg]
  · rw [if_neg h]
    by_cases h2 : rg x < top
    · rw [if_pos h2, if_pos h2, if_neg h]; rfl
    · rw [if_neg h2, if_neg h2]; rfl

theorem mag_eq (r : Nat) : (if r < 2 ^ 52 then r else 2 ^ 52 + r % 2 ^ 52) * 2 ^ (r / 2 ^ 52 - 1) = fval r := by
  unfold fval
  by_cases h : r < 2 ^ 52
  · rw [if_pos h, if_pos h]
    have h3 : r / 2 ^ 52 - 1 = 0 := by omega
    rw [h3]; simp
  · rw [if_neg h, if_neg h]

def key (x : Nat) : Int := sgn (sg x) (rg x)

theorem ord_eq (x y : Nat) : double.order x y = if top < rg x ∨ top < rg y then none else some (compare (key x) (key y)) := by
  unfold Format.order
  rw [read_eq x, read_eq y]
  unfold key
  generalize rg x = r
  generalize rg y = q
  generalize sg x = s
  generalize sg y = t
  by_cases a1 : top < r
  · rw [if_neg (by omega), if_neg (by omega), if_pos (Or.inl a1)]; rfl
  by_cases a2 : top < q
  · rw [if_pos (Or.inr a2), if_neg (c := q < top) (by omega), if_neg (c := q = top) (by omega)]
    split <;> rename_i h
    · rfl
    · split <;> rfl
  rw [if_neg (c := top < r ∨ top < q) (by omega)]
  by_cases b1 : r < top
  · rw [if_pos b1]
    by_cases b2 : q < top
    · rw [if_pos b2, order_num, mag_eq, mag_eq, sgn_cmp]
    · have e : q = top := by omega
      rw [if_neg b2, if_pos e]
      show some (if t then Ordering.gt else Ordering.lt) = _
      congr 1
      show _ = compareOfLessAndEq _ _
      unfold compareOfLessAndEq sgn
      cases t <;> cases s <;> simp only [Bool.false_eq_true, if_true, if_false]
      · rw [if_pos (by omega)]
      · rw [if_pos (by unfold top at e; omega)]
      · rw [if_neg (by omega), if_neg (by unfold top at e; omega)]
      · rw [if_neg (by omega), if_neg (by omega)]
  · have e : r = top := by omega
    rw [if_neg b1, if_pos e]
    by_cases b2 : q < top
    · rw [if_pos b2]
      show some (if s then Ordering.lt else Ordering.gt) = _
      congr 1
      show _ = compareOfLessAndEq _ _
      unfold compareOfLessAndEq sgn
      cases t <;> cases s <;> simp only [Bool.false_eq_true, if_true, if_false]
      · rw [if_neg (by omega), if_neg (by omega)]
      · rw [if_pos (by unfold top at e; omega)]
      · rw [if_neg (by omega), if_neg (by unfold top at e; omega)]
      · rw [if_pos (by omega)]
    · have e2 : q = top := by omega
      rw [if_neg b2, if_pos e2]
      subst e e2
      show some (compare t.toNat s.toNat) = _
      cases t <;> cases s <;> rfl
end Go.Proofs.Ytfcdobicilediaa.Fo
