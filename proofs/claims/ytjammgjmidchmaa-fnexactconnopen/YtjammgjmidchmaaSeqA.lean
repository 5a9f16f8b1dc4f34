/- Numbers that go round, of both sides. -/
import Derived.Test.YtjammgjmidchmaaSmallA
import Derived.Test.YtjammgjmidchmaaBits
import Derived.Test.YtjammgjmidchmaaGrw
namespace Go.Proofs.Ytjammgjmidchmaa
open Go.RowKit Go.PlainAid Go.Proofs.Ytjammgjmidchmaa.Bt Go.Sort
set_option linter.unusedVariables false
set_option maxRecDepth 20000

/-- The number's place in the round. -/
def sqN (n : Int) : Int := n % 4294967296
theorem sqN_bd (n : Int) : 0 ≤ sqN n ∧ sqN n ≤ 4294967295 := by unfold sqN; omega
theorem sqN_id {n : Int} (h0 : 0 ≤ n) (h1 : n ≤ 4294967295) : sqN n = n := by unfold sqN; omega
/-- 'n & MaxAddress', also below 0. -/
theorem mask32 (n : Int) (h0 : -9223372036854775808 ≤ n) (h1 : n ≤ 9223372036854775807) : bits BinOp.and IntKind.i64 n 4294967295 = sqN n := by
  by_cases hn : 0 ≤ n
  · exact mask 32 (by omega) n hn h1
  · have e : bits BinOp.and IntKind.i64 n 4294967295 = bits BinOp.and IntKind.i64 ((n + 18446744073709551616) % 4294967296) 4294967295 := by
      show IntKind.i64.wrap ((BitVec.ofInt 64 n &&& BitVec.ofInt 64 4294967295).toNat : Int) = IntKind.i64.wrap ((BitVec.ofInt 64 ((n + 18446744073709551616) % 4294967296) &&& BitVec.ofInt 64 4294967295).toNat : Int)
      congr 2
      rw [BitVec.toNat_and, BitVec.toNat_and]
      have e1 : (BitVec.ofInt 64 (4294967295 : Int)).toNat = 2 ^ 32 - 1 := by decide
      rw [e1, Nat.and_two_pow_sub_one_eq_mod, Nat.and_two_pow_sub_one_eq_mod, BitVec.toNat_ofInt, BitVec.toNat_ofInt]
      omega
    rw [e]
    have := mask 32 (by omega) ((n + 18446744073709551616) % 4294967296) (by omega) (by omega)
    rw [show bits BinOp.and IntKind.i64 ((n + 18446744073709551616) % 4294967296) 4294967295 = (n + 18446744073709551616) % 4294967296 % ((2 ^ 32 : Nat) : Int) from this]
    unfold sqN
    omega
theorem l10Seq_any (n : Int) (w : World) (h0 : -9223372036854775808 ≤ n) (h1 : n ≤ 9223372036854775807) : Calls Try.prog 65 #[.int .i64 n] w fun e w' => e = .returned (.int .i64 (sqN n)) ∧ w' = w := by
  have hm := mask32 n h0 h1
  generalize sqN n = z at hm ⊢
  go_enter Try.func65, Try.ntmps65
  go_wp2
  go_ret
  exact ⟨by first | rfl | (rw [hm]; rfl), rfl⟩
theorem seqOK_any (n : Int) (w : World) : Calls Try.prog 50 #[.int .i64 n] w fun e w' => e = .returned (.bool (dec (0 ≤ n ∧ n ≤ 4294967295))) ∧ w' = w := by
  have HB : Hid (∀ w, Calls Try.prog 54 #[.int .i64 n, .int .i64 0, .int .i64 4294967295] w fun e w' => e = .returned (.bool (dec (0 ≤ n ∧ n ≤ 4294967295))) ∧ w' = w) := fun w => between_any n 0 4294967295 w
  generalize dec (0 ≤ n ∧ n ≤ 4294967295) = z at HB ⊢
  go_enter Try.func50, Try.ntmps50
  go_wp2_with fail
  refine (HB.out _).mono ?_
  rintro e w1 ⟨rfl, hw⟩
  subst hw
  go_wp2
  go_ret
  exact ⟨rfl, rfl⟩
theorem seqAfter_any (n b : Int) (w : World) (h0 : 0 ≤ n) (h1 : n ≤ 4294967296) (h2 : 0 ≤ b) (h3 : b ≤ 4294967296) : Calls Try.prog 42 #[.int .i64 n, .int .i64 b] w fun e w' => e = .returned (.int .i64 (sqN (n + b))) ∧ w' = w := by
  have ht : (n + b).tmod 4294967296 = (n + b) % 4294967296 := Int.tmod_eq_emod_of_nonneg (by omega)
  go_enter Try.func42, Try.ntmps42
  go_wp2
  go_ret
  exact ⟨by first | rfl | (unfold sqN; rw [ht]), rfl⟩
theorem seqWay_any (a b : Int) (w : World) (h0 : 0 ≤ a) (h1 : a ≤ 4294967295) (h2 : 0 ≤ b) (h3 : b ≤ 4294967295) : Calls Try.prog 55 #[.int .i64 a, .int .i64 b] w fun e w' => e = .returned (.int .i64 (sqN (b - a))) ∧ w' = w := by
  have ht : (b - a + 4294967296).tmod 4294967296 = (b - a + 4294967296) % 4294967296 := Int.tmod_eq_emod_of_nonneg (by omega)
  have he : (b - a + 4294967296) % 4294967296 = (b - a) % 4294967296 := by omega
  go_enter Try.func55, Try.ntmps55
  go_wp2
  go_ret
  exact ⟨by unfold sqN; first | rfl | (rw [ht, he]; rfl), rfl⟩
/-- What SeqLess answers. -/
def slB (a b : Int) : Bool := dec (0 ≤ a ∧ a ≤ 4294967295) && dec (0 ≤ b ∧ b ≤ 4294967295) && decide (1 ≤ sqN (b - a) ∧ sqN (b - a) ≤ 2147483647)
def slC (a b : Int) : Int := if (dec (0 ≤ a ∧ a ≤ 4294967295) && dec (0 ≤ b ∧ b ≤ 4294967295)) = true then 0 else 4
theorem implLess_any (a b : Int) (w : World) : Calls Try.prog 22 #[.int .i64 a, .int .i64 b] w fun e w' => e = .returned (.tuple #[.bool (slB a b), .int .i64 (slC a b)]) ∧ w' = w := by
  have T1 : Hid (∀ w, Calls Try.prog 50 #[.int .i64 a] w fun e w' => e = .returned (.bool (dec (0 ≤ a ∧ a ≤ 4294967295))) ∧ w' = w) := fun w => seqOK_any a w
  have T2 : Hid (∀ w, Calls Try.prog 50 #[.int .i64 b] w fun e w' => e = .returned (.bool (dec (0 ≤ b ∧ b ≤ 4294967295))) ∧ w' = w) := fun w => seqOK_any b w
  have T3 : Hid (dec (0 ≤ a ∧ a ≤ 4294967295) = true → dec (0 ≤ b ∧ b ≤ 4294967295) = true → ∀ w, Calls Try.prog 55 #[.int .i64 a, .int .i64 b] w fun e w' => e = .returned (.int .i64 (sqN (b - a))) ∧ w' = w) := fun h1 h2 w => by
    simp [dec] at h1 h2
    exact seqWay_any a b w h1.1 h1.2 h2.1 h2.2
  have T5 : Hid (∀ w, Calls Try.prog 54 #[.int .i64 (sqN (b - a)), .int .i64 1, .int .i64 2147483647] w fun e w' => e = .returned (.bool (decide (1 ≤ sqN (b - a) ∧ sqN (b - a) ≤ 2147483647))) ∧ w' = w) := fun w => between_any _ 1 2147483647 w
  unfold slB slC
  generalize dec (0 ≤ a ∧ a ≤ 4294967295) = t1 at T1 T3 ⊢
  generalize dec (0 ≤ b ∧ b ≤ 4294967295) = t2 at T2 T3 ⊢
  generalize decide (1 ≤ sqN (b - a) ∧ sqN (b - a) ≤ 2147483647) = t3 at T5 ⊢
  generalize sqN (b - a) = z at T3 T5
  cases t1 with
  | false =>
    rw [if_neg (by simp)]
    clear T3
    go_enter Try.func22, Try.ntmps22
    go_wp2_with fail
    refine (T1.out _).mono ?_
    rintro e w1 ⟨rfl, hw⟩
    subst hw
    go_wp2
    go_ret2
    exact ⟨rfl, rfl⟩
  | true =>
    cases t2 with
    | false =>
      rw [if_neg (by simp)]
      clear T3
      go_enter Try.func22, Try.ntmps22
      go_wp2_with fail
      refine (T1.out _).mono ?_
      rintro e w1 ⟨rfl, hw⟩
      subst hw
      go_wp2_with fail
      refine (T2.out _).mono ?_
      rintro e w1 ⟨rfl, hw⟩
      subst hw
      go_wp2
      go_ret2
      exact ⟨rfl, rfl⟩
    | true =>
      have T4 : Hid (∀ w, Calls Try.prog 55 #[.int .i64 a, .int .i64 b] w fun e w' => e = .returned (.int .i64 z) ∧ w' = w) := T3.out rfl rfl
      clear T3
      rw [if_pos (by simp)]
      go_enter Try.func22, Try.ntmps22
      go_wp2_with fail
      refine (T1.out _).mono ?_
      rintro e w1 ⟨rfl, hw⟩
      subst hw
      go_wp2_with fail
      refine (T2.out _).mono ?_
      rintro e w1 ⟨rfl, hw⟩
      subst hw
      go_wp2_with fail
      refine (T4.out _).mono ?_
      rintro e w1 ⟨rfl, hw⟩
      subst hw
      go_wp2_with fail
      refine (T5.out _).mono ?_
      rintro e w1 ⟨rfl, hw⟩
      subst hw
      go_wp2
      go_ret2
      exact ⟨rfl, rfl⟩
end Go.Proofs.Ytjammgjmidchmaa
