/- The contracts of impl.Check16, spec.l01Sum16 and spec.Check16: each answers the folded sum of the bytes, 0 above 65536 of them, and turns nothing. -/
import Derived.Test.YtfcdobicilediaaProg
import Derived.Test.YtfcdobicilediaaPlain
import Derived.Test.YtfcdobicilediaaBytes
import Derived.Test.YtfcdobicilediaaBits
namespace Go.Proofs.Ytfcdobicilediaa
open Go.RowKit Go.PlainAid Go.Proofs.Ytfcdobicilediaa.Pl
set_option linter.unusedVariables false
set_option maxRecDepth 20000

theorem ret_int {k : IntKind} {a b : Int} (h : a = b) : Ending.returned (.int k a) = .returned (.int k b) := by rw [h]

set_option maxHeartbeats 400000 in
theorem sum16_any (s : ByteArray) (w : World) (hs : s.size ≤ 65536) :
    Calls Try.prog 76 #[.string s] w fun e w' => e = .returned (.int .i64 (chk (bt s) s.size)) ∧ w' = w := by
  have hb := get_bt s
  go_enter Try.func76, Try.ntmps76
  go_wp2
  go_loop [3, 4] (fun n i => ∃ k : Nat, k ≤ s.size ∧ i = .int .i64 k ∧ n = .int .i64 (wsum (bt s) k)) (fun _ i => s.size - (intOf i).toNat)
  case atStart => exact ⟨0, Nat.zero_le _, rfl, rfl⟩
  case round =>
    obtain ⟨k, hk, rfl, rfl⟩ := hrel
    have hbd := wsum_bd (bt s) (fun k => ⟨bt_nonneg s k, bt_le s k⟩) k
    have h0 := bt_nonneg s k
    have h1 := bt_le s k
    by_cases hlt : k < s.size
    · by_cases hev : k % 2 = 0
      · have hE : Hid (wsum (bt s) (k + 1) = wsum (bt s) k + 256 * bt s k) := wsum_even _ _ hev
        have ht : ((k : Int) % 2 == 0) = true := by simp; omega
        go_wp2
        go_round
        case rel => exact ⟨k + 1, by omega, by go_num, by rw [hE.out]⟩
        case measure => simp [intOf]; omega
      · have hE : Hid (wsum (bt s) (k + 1) = wsum (bt s) k + bt s k) := wsum_odd _ _ (by omega)
        have ht : ((k : Int) % 2 == 0) = false := by simp; omega
        go_wp2
        go_round
        case rel => exact ⟨k + 1, by omega, by go_num, by rw [hE.out]⟩
        case measure => simp [intOf]; omega
    · obtain rfl : k = s.size := by omega
      go_wp2
      go_loop [3] (fun n => ∃ m : Int, 0 ≤ m ∧ m ≤ 65280 * s.size ∧ foldc m = foldc (wsum (bt s) s.size) ∧ n = .int .i64 m) (fun n => (intOf n).toNat)
      case atStart => exact ⟨_, hbd.1, hbd.2, rfl, rfl⟩
      case round =>
        obtain ⟨m, hm0, hm1, hm2, rfl⟩ := hrel
        have HM : Hid (foldc m = foldc (wsum (bt s) s.size)) := hm2
        clear hm2
        by_cases hgt : 65535 < m
        · have hf : Hid (foldc (m % 65536 + m / 65536) = foldc m) := foldc_step m hgt
          have hst := step_lt m hgt
          go_wp2
          go_round
          case rel => exact ⟨_, hst.1, by omega, by rw [hf.out, HM.out], rfl⟩
          case measure => simp [intOf]; omega
        · go_wp2
          go_ret
          exact ⟨ret_int (by unfold chk; rw [← HM.out, foldc_small m hm0 (by omega)]), rfl⟩

theorem check16_long (a : Option Addr) (len cap : Nat) (w : World) (hlen : 65536 < len) :
    Calls Try.prog 74 #[.slice a len cap] w fun e w' => e = .returned (.int .i64 0) ∧ w' = w := by
  go_enter Try.func74, Try.ntmps74
  go_wp2
  go_ret
  exact ⟨rfl, rfl⟩

set_option maxHeartbeats 400000 in
theorem check16_any (a : Option Addr) (len cap : Nat) (f : Nat → Int) (w : World) (h : Bytes w a len f) (hlen : len ≤ 65536) :
    Calls Try.prog 74 #[.slice a len cap] w fun e w' => e = .returned (.int .i64 (chk f len)) ∧ w' = w := by
  go_enter Try.func74, Try.ntmps74
  go_wp2
  go_loop [3, 10] (fun n i => ∃ k : Nat, k ≤ len ∧ i = .int .i64 k ∧ n = .int .i64 (wsum f k)) (fun _ i => len - (intOf i).toNat)
  case atStart => exact ⟨0, Nat.zero_le _, rfl, rfl⟩
  case round =>
    obtain ⟨k, hk, rfl, rfl⟩ := hrel
    have hbd := wsum_bd f h.1 k
    have h0 := (h.1 k).1
    have h1 := (h.1 k).2
    by_cases hlt : k < len
    · obtain ⟨b, off, rfl, hc⟩ := h.2 (by omega)
      have hck := hc k hlt
      clear hc
      by_cases hev : k % 2 = 0
      · have hE : Hid (wsum f (k + 1) = wsum f k + 256 * f k) := wsum_even _ _ hev
        have ht : ((k : Int) % 2 == 0) = true := by simp; omega
        go_wp2
        go_round
        case rel => exact ⟨k + 1, by omega, by go_num, by rw [hE.out, Int.mul_comm 256]⟩
        case measure => simp [intOf]; omega
      · have hE : Hid (wsum f (k + 1) = wsum f k + f k) := wsum_odd _ _ (by omega)
        have ht : ((k : Int) % 2 == 0) = false := by simp; omega
        go_wp2
        go_round
        case rel => exact ⟨k + 1, by omega, by go_num, by rw [hE.out]⟩
        case measure => simp [intOf]; omega
    · obtain rfl : k = len := by omega
      go_wp2
      go_loop [3] (fun n => ∃ m : Int, 0 ≤ m ∧ m ≤ 65280 * k ∧ foldc m = foldc (wsum f k) ∧ n = .int .i64 m) (fun n => (intOf n).toNat)
      case atStart => exact ⟨_, hbd.1, hbd.2, rfl, rfl⟩
      case round =>
        obtain ⟨m, hm0, hm1, hm2, rfl⟩ := hrel
        have HM : Hid (foldc m = foldc (wsum f k)) := hm2
        clear hm2
        by_cases hgt : 65535 < m
        · have hf : Hid (foldc (m % 65536 + m / 65536) = foldc m) := foldc_step m hgt
          have hst := step_lt m hgt
          have hand := Bt.mask16 m hm0 (by omega)
          go_wp2
          go_round
          case rel => exact ⟨m % 65536 + m / 65536, hst.1, by omega, by rw [hf.out, HM.out], rfl⟩
          case measure => simp [intOf]; omega
        · go_wp2
          go_ret
          exact ⟨ret_int (by unfold chk; rw [← HM.out, foldc_small m hm0 (by omega)]), rfl⟩
end Go.Proofs.Ytfcdobicilediaa
