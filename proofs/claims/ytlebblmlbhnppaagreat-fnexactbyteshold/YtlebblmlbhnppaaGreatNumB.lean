/- The program's NumberBytes at a size from 1 to 6 and a number that has room: its bytes, the higher ones first, in new memory. -/
import Derived.Test.YtlebblmlbhnppaaGreatProg
import Derived.Test.YtlebblmlbhnppaaGreatFill
import Derived.Test.YtlebblmlbhnppaaGreatInfo
import Derived.Test.YtlebblmlbhnppaaGreatRoom
namespace Go.Proofs.YtlebblmlbhnppaaGreat
open Go.RowKit Go.PlainAid
set_option linter.unusedVariables false
set_option maxRecDepth 20000

/-- Byte j of n in m bytes, the higher ones first. -/
def nb (n : Int) (m j : Nat) : Int := n / 2 ^ (8 * (m - 1 - j)) % 256
theorem nb_bd (n : Int) (m j : Nat) : 0 ≤ nb n m j ∧ nb n m j ≤ 255 := by unfold nb; omega

set_option maxHeartbeats 400000 in
theorem numberBytes_yes (n : Int) (m : Nat) (w : World) (h1 : 1 ≤ m) (h6 : m ≤ 6) (hn : 0 ≤ n) (hr : n < 2 ^ (8 * m)) (hx : n ≤ 9223372036854775807) :
    Calls Tryz.prog 266 #[.int .i64 n, .int .i64 m] w fun e w' => e = .returned (.tuple #[.slice (some ⟨w.heap.size, 0, none⟩) m m, .int .i64 0]) ∧ Fill w w' m m (nb n m) := by
  have hmk := run_make_row' (P := Tryz.prog) 72 5 (.int .u8 0) 1 Tryz.underlying72 Tryz.infoB rfl .i64 .i64 m (by omega) (by omega)
  have hst := fill_start w m (nb n m) 5
  have b1 : decide ((m : Int) < 1) = false := by simp; omega
  have b2 : decide (6 < (m : Int)) = false := by simp; omega
  have HR : Hid (n < 2 ^ (8 * m)) := hr
  clear hr
  go_enter Tryz.func266, Tryz.ntmps266
  go_wp2_with fail
  refine (hasRoom_y n m w h1 h6 hn HR.out hx).mono ?_
  rintro e w0 ⟨rfl, hw⟩
  have hw' := hw.symm
  subst hw'
  go_wp2
  go_loopw [23] (fun i wr => ∃ k : Nat, k ≤ m ∧ i = .int .i64 k ∧ Fill w wr m k (nb n m)) (fun i _ => m - (intOf i).toNat)
  case atStart => exact ⟨0, Nat.zero_le _, rfl, hst⟩
  case round =>
    obtain ⟨k, hk, rfl, hfill⟩ := hrel
    have hfill' : Hid (Fill w wr m k (nb n m)) := hfill
    by_cases hlt2 : k < m
    · have hfz := hfill.2.2.1 k
      obtain ⟨v, hv⟩ := hfill.2.2.2.1 k hlt2
      clear hfill hst hmk
      have hp : (0 : Int) < 2 ^ (8 * (m - 1 - k)) := Int.pow_pos (by omega)
      have hq0 : 0 ≤ n / 2 ^ (8 * (m - 1 - k)) := Int.ediv_nonneg hn (by omega)
      go_wp2
      go_roundw
      case rel => exact ⟨k + 1, by omega, by go_num, fill_step hfill'.out hlt2⟩
      case measure => simp [intOf]; omega
    · obtain rfl : k = m := by omega
      clear hst hmk hfill
      go_wp2
      go_ret2
      exact ⟨rfl, hfill'.out⟩

end Go.Proofs.YtlebblmlbhnppaaGreat
