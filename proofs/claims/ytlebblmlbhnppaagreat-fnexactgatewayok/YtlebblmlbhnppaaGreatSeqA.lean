/- Numbers that go round, of both sides. -/
import Derived.Test.YtlebblmlbhnppaaGreatSmallA
import Derived.Test.YtlebblmlbhnppaaGreatBits
import Derived.Test.YtlebblmlbhnppaaGreatGrw
namespace Go.Proofs.YtlebblmlbhnppaaGreat
open Go.RowKit Go.PlainAid Go.Proofs.YtlebblmlbhnppaaGreat.Bt Go.Sort
set_option linter.unusedVariables false
set_option maxRecDepth 20000

/-- The number's place in the round. -/
def sqN (n : Int) : Int := n % 4294967296
theorem sqN_bd (n : Int) : 0 ≤ sqN n ∧ sqN n ≤ 4294967295 := by unfold sqN; omega
theorem sqN_id {n : Int} (h0 : 0 ≤ n) (h1 : n ≤ 4294967295) : sqN n = n := by unfold sqN; omega
/-- 'n & MaxAddress', also below 0. -/
theorem mask32 (n : Int) (h0 : -9223372036854775808 ≤ n) (h1 : n ≤ 9223372036854775807) : bits BinOp.and IntKind.i64 n 4294967295 = sqN n := by
  by_cases hn : 0 ≤ n
  · exact mask 32 (by omega) n hn h1
  · have e : bits BinOp.and IntKind.i64 n 4294967295 = bits BinOp.and IntKind.i64 ((n + 18446744073709551616) % 4294967296) 4294967295 := by
      show IntKind.i64.wrap ((BitVec.ofInt 64 n &&& BitVec.ofInt 64 4294967295).toNat : Int) = IntKind.i64.wrap ((BitVec.ofInt 64 ((n + 18446744073709551616) % 4294967296) &&& BitVec.ofInt 64 4294967295).toNat : Int)
      congr 2
      rw [BitVec.toNat_and, BitVec.toNat_and]
      have e1 : (BitVec.ofInt 64 (4294967295 : Int)).toNat = 2 ^ 32 - 1 := by decide
      rw [e1, Nat.and_two_pow_sub_one_eq_mod, Nat.and_two_pow_sub_one_eq_mod, BitVec.toNat_ofInt, BitVec.toNat_ofInt]
      omega
    rw [e]
    have := mask 32 (by omega) ((n + 18446744073709551616) % 4294967296) (by omega) (by omega)
    rw [show bits BinOp.and IntKind.i64 ((n + 18446744073709551616) % 4294967296) 4294967295 = (n + 18446744073709551616) % 4294967296 % ((2 ^ 32 : Nat) : Int) from this]
    unfold sqN
    omega
theorem l10Seq_any (n : Int) (w : World) (h0 : -9223372036854775808 ≤ n) (h1 : n ≤ 9223372036854775807) : Calls Tryz.prog 201 #[.int .i64 n] w fun e w' => e = .returned (.int .i64 (sqN n)) ∧ w' = w := by
  have hm := mask32 n h0 h1
  generalize sqN n = z at hm ⊢
  go_enter Tryz.func201, Tryz.ntmps201
  go_wp2
  go_ret
  exact ⟨by first | rfl | (rw [hm]; rfl), rfl⟩
theorem seqOK_any (n : Int) (w : World) : Calls Tryz.prog 86 #[.int .i64 n] w fun e w' => e = .returned (.bool (dec (0 ≤ n ∧ n ≤ 4294967295))) ∧ w' = w := by
  have HB : Hid (∀ w, Calls Tryz.prog 85 #[.int .i64 n, .int .i64 0, .int .i64 4294967295] w fun e w' => e = .returned (.bool (dec (0 ≤ n ∧ n ≤ 4294967295))) ∧ w' = w) := fun w => between_any n 0 4294967295 w
  generalize dec (0 ≤ n ∧ n ≤ 4294967295) = z at HB ⊢
  go_enter Tryz.func86, Tryz.ntmps86
  go_wp2_with fail
  refine (HB.out _).mono ?_
  rintro e w1 ⟨rfl, hw⟩
  subst hw
  go_wp2
  go_ret
  exact ⟨rfl, rfl⟩
theorem seqAfter_any (n b : Int) (w : World) (h0 : 0 ≤ n) (h1 : n ≤ 4294967296) (h2 : 0 ≤ b) (h3 : b ≤ 4294967296) : Calls Tryz.prog 212 #[.int .i64 n, .int .i64 b] w fun e w' => e = .returned (.int .i64 (sqN (n + b))) ∧ w' = w := by
  have ht : (n + b).tmod 4294967296 = (n + b) % 4294967296 := Int.tmod_eq_emod_of_nonneg (by omega)
  go_enter Tryz.func212, Tryz.ntmps212
  go_wp2
  go_ret
  exact ⟨by first | rfl | (unfold sqN; rw [ht]), rfl⟩
/-- What SeqLess answers. -/
def slB (a b : Int) : Bool := dec (0 ≤ a ∧ a ≤ 4294967295) && dec (0 ≤ b ∧ b ≤ 4294967295) && decide (1 ≤ sqN (b - a) ∧ sqN (b - a) ≤ 2147483647)
def slC (a b : Int) : Int := if (dec (0 ≤ a ∧ a ≤ 4294967295) && dec (0 ≤ b ∧ b ≤ 4294967295)) = true then 0 else 4
end Go.Proofs.YtlebblmlbhnppaaGreat
