/- ReadPacket, the program. -/
import Derived.Test.YtfcdobicilediaaCut2
import Derived.Test.YtfcdobicilediaaSum
import Derived.Test.YtfcdobicilediaaBits
import Derived.Deep.RegionHeld3
namespace Go.Proofs.Ytfcdobicilediaa
open Go.RowKit Go.PlainAid Go.Proofs.Ytfcdobicilediaa.Pl
set_option linter.unusedVariables false
set_option maxRecDepth 20000

/-- Where a part lies: an empty one where the whole does. -/
def pOff (off at_ size : Nat) : Nat := if size = 0 then off else off + at_
theorem part_ex (b off len cap at_ size : Nat) (w : World) (h : at_ + size ≤ cap) (hc : cap ≤ 9223372036854775807) :
    Calls Try.prog 73 #[.slice (some ⟨b, off, none⟩) len cap, .int .i64 at_, .int .i64 size] w fun e w' => e = .returned (.slice (some ⟨b, pOff off at_ size, none⟩) size size) ∧ w' = w := by
  go_enter Try.func73, Try.ntmps73
  go_wp2
  · go_ret
    obtain rfl : size = 0 := by omega
    exact ⟨by simp [pOff], rfl⟩
  · go_ret
    exact ⟨by rw [pOff, if_neg (by omega)]; rfl, rfl⟩
theorem pOff_pos {off at_ size : Nat} (h : 0 < size) : pOff off at_ size = off + at_ := by rw [pOff, if_neg (by omega)]
theorem conv_pOff {wx : World} {b off len : Nat} {f : Nat → Int} (h : Bytes wx (some ⟨b, off, none⟩) len f) (a m c : Nat) (hm : a + m ≤ len) : (convert 22 9 (.slice (some ⟨b, pOff off a m, none⟩) m c)).run Try.prog wx = .ok (.string (ps f a m)) wx := by
  rcases Nat.eq_zero_or_pos m with h0 | h0
  · subst h0; exact conv_none f h.1 a wx _ c
  · rw [pOff_pos h0]; exact conv_ps h a m c hm
theorem Bytes.pre {w : World} {a : Option Addr} {len : Nat} {f : Nat → Int} (h : Bytes w a len f) (n : Nat) (hn : n ≤ len) : Bytes w a n f :=
  ⟨h.1, fun h0 => by obtain ⟨b, off, e, hc⟩ := h.2 (by omega); exact ⟨b, off, e, fun i hi => hc i (by omega)⟩⟩
theorem Bytes.cellAt {w : World} {b off len : Nat} {f : Nat → Int} (h : Bytes w (some ⟨b, off, none⟩) len f) (i : Nat) (hi : i < len) : w.cell? ⟨b, off + i, none⟩ = some (.int .u8 (f i)) := by
  obtain ⟨b', off', e, hc⟩ := h.2 (by omega)
  cases e
  exact hc i hi

end Go.Proofs.Ytfcdobicilediaa
