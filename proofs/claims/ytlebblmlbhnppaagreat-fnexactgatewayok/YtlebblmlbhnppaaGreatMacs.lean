/- The program's macOf and macAt: a mac as an array of six, and back. -/
import Derived.Test.YtlebblmlbhnppaaGreatPart
import Derived.Handy
import Derived.Laws.Cover3
namespace Go.Proofs.YtlebblmlbhnppaaGreat
open Go.RowKit Go.PlainAid
set_option linter.unusedVariables false
set_option maxRecDepth 20000

theorem isMac_b (s : ByteArray) (q : Bool) (hq : ((s.size : Int) == 6) = q) (w : World) : Calls Tryz.prog 185 #[.string s] w fun e w' => e = .returned (.bool q) ∧ w' = w := by
  go_enter Tryz.func185, Tryz.ntmps185
  go_wp2
  go_ret
  exact ⟨rfl, rfl⟩
theorem nums6 (s : ByteArray) (h : s.size = 6) : nums s = [bt s 0, bt s 1, bt s 2, bt s 3, bt s 4, bt s 5] := by
  have e := range_getD (nums s)
  rw [nums_len, h] at e
  rw [← e]
  simp only [nums_getD]
  rfl

set_option maxHeartbeats 1000000 in
theorem macAt_any (a : Option Addr) (len cap : Nat) (f : Nat → Int) (at_ : Nat) (w : World) (h : Bytes w a len f) (hs : at_ + 6 ≤ len) (hc : len ≤ cap) (hx : cap ≤ 9223372036854775807) :
    Calls Tryz.prog 219 #[.slice a len cap, .int .i64 at_] w fun e w' => e = .returned (.string (strOf (fun j => f (at_ + j)) 6)) ∧ Below w.heap.size w w' := by
  obtain ⟨b, off, rfl, -⟩ := h.2 (by omega)
  have HF : Hid (∀ k, 0 ≤ f k ∧ f k ≤ 255) := h.1
  have hlt : b < w.heap.size := by
    obtain ⟨b', off', e, hcc⟩ := h.2 (by omega)
    cases e
    simpa using World.block_lt_of_cell? w _ (hcc 0 (by omega))
  have hp := h.part at_ 6 hs (some ⟨b, off + at_, none⟩) (fun _ => rfl)
  have hat := run_arrayAt (P := Tryz.prog) w 313 5 6 (some ⟨b, off + at_, none⟩) 6 6 Tryz.underlying313 (by omega)
  obtain ⟨b', off', e, hcc⟩ := hp.2 (by omega)
  cases e
  have c0 := hcc 0 (by omega)
  have c1 := hcc 1 (by omega)
  have c2 := hcc 2 (by omega)
  have c3 := hcc 3 (by omega)
  have c4 := hcc 4 (by omega)
  have c5 := hcc 5 (by omega)
  simp only [Nat.add_zero] at c0
  have hconv := conv_row (P := Tryz.prog) (w.alloc (.cells #[.int .u8 (f at_), .int .u8 (f (at_ + 1)), .int .u8 (f (at_ + 2)), .int .u8 (f (at_ + 3)), .int .u8 (f (at_ + 4)), .int .u8 (f (at_ + 5))] 313)) 72 9 5 Tryz.underlying72 Tryz.underlying5 Tryz.underlying9 (some ⟨w.heap.size, 0, none⟩) 6 6 (fun j => f (at_ + j)) (by
    refine ⟨fun k => HF.out _, fun _ => ⟨w.heap.size, 0, rfl, fun i hi => ?_⟩⟩
    have hh : i = 0 ∨ i = 1 ∨ i = 2 ∨ i = 3 ∨ i = 4 ∨ i = 5 := by omega
    rcases hh with rfl | rfl | rfl | rfl | rfl | rfl <;> simp)
  clear h hp hcc
  go_enter Tryz.func219, Tryz.ntmps219
  go_wp2_with fail
  refine (part_any b off len cap at_ 6 w (by omega) hx).mono ?_
  rintro e w0 ⟨a', rfl, ha, hw⟩
  obtain rfl := hw.symm
  obtain rfl := ha (by omega)
  clear ha hw
  go_wp2
  go_ret
  exact ⟨rfl, (Below.refl _ _).alloc (Nat.le_refl _) _⟩
end Go.Proofs.YtlebblmlbhnppaaGreat
