/- The contracts of laws.toByteS (a copy in new memory) and laws.eqByteS (whether two rows are one). -/
import Derived.Test.YtlebblmlbhnppaaGreatProg
import Derived.Test.YtlebblmlbhnppaaGreatFill
import Derived.BigQuiet
import Derived.Deep.QuietTactic
namespace Go.Proofs.YtlebblmlbhnppaaGreat
open Go.RowKit Go.PlainAid
set_option linter.unusedVariables false
set_option maxRecDepth 20000

theorem Tryz.infoByte : (Tryz.prog.info? 5).map (fun i => (i.zero, i.size, i.bytes)) = some (some (.int .u8 0), 1, 1) := by kernel_rfl

set_option maxHeartbeats 400000 in
theorem toByteS_any (a : Option Addr) (len cap : Nat) (f : Nat → Int) (w : World) (h : Bytes w a len f) (hlen : len ≤ 1048576) (hlt : ∀ b off, 0 < len → a = some ⟨b, off, none⟩ → b < w.heap.size) :
    Calls Tryz.prog 28 #[.slice a len cap] w fun e w' => e = .returned (.slice (some ⟨w.heap.size, 0, none⟩) len len) ∧ Fill w w' len len f := by
  have hmk := Go.run_make_row' (P := Tryz.prog) 72 5 (.int .u8 0) 1 Tryz.underlying72 Tryz.infoByte rfl .i64 .i64 len (by omega) (by omega)
  have hst := fill_start w len f 5
  go_enter Tryz.func28, Tryz.ntmps28
  go_wp2
  go_loopw [4] (fun i wr => ∃ k : Nat, k ≤ len ∧ i = .int .i64 k ∧ Fill w wr len k f) (fun i _ => len - (intOf i).toNat)
  case atStart => exact ⟨0, Nat.zero_le _, rfl, hst⟩
  case round =>
    obtain ⟨k, hk, rfl, hfill⟩ := hrel
    have hfill' : Hid (Fill w wr len k f) := hfill
    by_cases hlt2 : k < len
    · obtain ⟨b, off, rfl, hc⟩ := h.2 (by omega)
      have hbl := hlt b off (by omega) rfl
      have hck : wr.cell? ⟨b, off + k, none⟩ = some (.int .u8 (f k)) := (hfill.1.cell (by exact hbl)).trans (hc k hlt2)
      have hfz := hfill.2.2.1 k
      obtain ⟨v, hv⟩ := hfill.2.2.2.1 k hlt2
      clear hc hfill hst hmk
      go_wp2
      go_roundw
      case rel => exact ⟨k + 1, by omega, by go_num, fill_step hfill'.out hlt2⟩
      case measure => simp [intOf]; omega
    · obtain rfl : k = len := by omega
      clear hst hmk hfill
      go_wp2
      go_ret
      exact ⟨rfl, hfill'.out⟩

set_option maxHeartbeats 400000 in
theorem eqByteS_yes (a a' : Option Addr) (len cap cap' : Nat) (f : Nat → Int) (w : World) (h : Bytes w a len f) (h' : Bytes w a' len f) (hlen : len ≤ 1048576) :
    Calls Tryz.prog 31 #[.slice a len cap, .slice a' len cap'] w fun e w' => e = .returned (.bool true) ∧ Below w.heap.size w w' := by
  have hne : ((len : Int) != (len : Int)) = false := by simp
  go_enter Tryz.func31, Tryz.ntmps31
  go_wp2
  go_loopw [5] (fun i wr => ∃ k : Nat, k ≤ len ∧ i = .int .i64 k ∧ ∃ n, wr = w.drewN n) (fun i _ => len - (intOf i).toNat)
  case atStart => exact ⟨0, Nat.zero_le _, rfl, 0, rfl⟩
  case round =>
    obtain ⟨k, hk, rfl, n, rfl⟩ := hrel
    by_cases hlt2 : k < len
    · obtain ⟨b, off, rfl, hc⟩ := h.2 (by omega)
      obtain ⟨b', off', rfl, hc'⟩ := h'.2 (by omega)
      have hck := hc k hlt2
      have hck' := hc' k hlt2
      have hff : ((f k) != (f k)) = false := by simp
      clear hc hc'
      go_wp2
      go_quiet (fail)
      go_wp2
      go_roundw
      case rel => exact ⟨k + 1, by omega, by go_num, _, rfl⟩
      case measure => simp [intOf]; omega
    · obtain rfl : k = len := by omega
      go_wp2
      go_ret
      exact ⟨rfl, ⟨rfl, rfl, rfl, Nat.le_refl _, fun _ _ => rfl⟩⟩
end Go.Proofs.YtlebblmlbhnppaaGreat
