/- The contracts of laws.toByteS (a copy in new memory) and laws.eqByteS (whether two rows are one). -/
import Derived.Test.YtcgdpijmfgkalaaProg
import Derived.Test.YtcgdpijmfgkalaaFill
import Derived.BigQuiet
import Derived.Deep.QuietTactic
namespace Go.Proofs.Ytcgdpijmfgkalaa
open Go.RowKit Go.PlainAid
set_option linter.unusedVariables false
set_option maxRecDepth 20000

theorem Try.infoByte : (Try.prog.info? 5).map (fun i => (i.zero, i.size, i.bytes)) = some (some (.int .u8 0), 1, 1) := by kernel_rfl

set_option maxHeartbeats 400000 in
theorem eqByteS_yes (a a' : Option Addr) (len cap cap' : Nat) (f : Nat → Int) (w : World) (h : Bytes w a len f) (h' : Bytes w a' len f) (hlen : len ≤ 1048576) :
    Calls Try.prog 20 #[.slice a len cap, .slice a' len cap'] w fun e w' => e = .returned (.bool true) ∧ Below w.heap.size w w' := by
  have hne : ((len : Int) != (len : Int)) = false := by simp
  go_enter Try.func20, Try.ntmps20
  go_wp2
  go_loopw [5] (fun i wr => ∃ k : Nat, k ≤ len ∧ i = .int .i64 k ∧ ∃ n, wr = w.drewN n) (fun i _ => len - (intOf i).toNat)
  case atStart => exact ⟨0, Nat.zero_le _, rfl, 0, rfl⟩
  case round =>
    obtain ⟨k, hk, rfl, n, rfl⟩ := hrel
    by_cases hlt2 : k < len
    · obtain ⟨b, off, rfl, hc⟩ := h.2 (by omega)
      obtain ⟨b', off', rfl, hc'⟩ := h'.2 (by omega)
      have hck := hc k hlt2
      have hck' := hc' k hlt2
      have hff : ((f k) != (f k)) = false := by simp
      clear hc hc'
      go_wp2
      go_quiet (fail)
      go_wp2
      go_roundw
      case rel => exact ⟨k + 1, by omega, by go_num, _, rfl⟩
      case measure => simp [intOf]; omega
    · obtain rfl : k = len := by omega
      go_wp2
      go_ret
      exact ⟨rfl, ⟨rfl, rfl, rfl, Nat.le_refl _, fun _ _ => rfl⟩⟩
end Go.Proofs.Ytcgdpijmfgkalaa
