/- The program's macOf and macAt: a mac as an array of six, and back. -/
import Derived.Test.YtcgdpijmfgkalaaPart
import Derived.Handy
import Derived.Laws.Cover3
namespace Go.Proofs.Ytcgdpijmfgkalaa
open Go.RowKit Go.PlainAid
set_option linter.unusedVariables false
set_option maxRecDepth 20000

theorem isMac_b (s : ByteArray) (q : Bool) (hq : ((s.size : Int) == 6) = q) (w : World) : Calls Try.prog 42 #[.string s] w fun e w' => e = .returned (.bool q) ∧ w' = w := by
  go_enter Try.func42, Try.ntmps42
  go_wp2
  go_ret
  exact ⟨rfl, rfl⟩
set_option maxHeartbeats 1000000 in
theorem macOf_yes (s : ByteArray) (w : World) (hs : s.size = 6) :
    Calls Try.prog 27 #[.string s] w fun e w' => e = .returned (.tuple #[.agg #[.int .u8 (bt s 0), .int .u8 (bt s 1), .int .u8 (bt s 2), .int .u8 (bt s 3), .int .u8 (bt s 4), .int .u8 (bt s 5)], .bool true]) ∧ Below w.heap.size w w' := by
  obtain ⟨W1, hW1⟩ : ∃ W1, W1 = w.alloc (.cells #[.int .u8 0, .int .u8 0, .int .u8 0, .int .u8 0, .int .u8 0, .int .u8 0] 54) := ⟨_, rfl⟩
  obtain ⟨cap, w2, hconv, bel, hz, hfr, hcell⟩ := conv_bytes (P := Try.prog) W1 9 22 5 s Try.underlying9 Try.underlying22 Try.underlying5
  rw [hs] at hconv
  have hat := run_arrayAt (P := Try.prog) w2 54 5 6 (some ⟨W1.heap.size, 0, none⟩) 6 cap Try.underlying54 (by omega)
  have c0 := hcell 0 (by omega)
  have c1 := hcell 1 (by omega)
  have c2 := hcell 2 (by omega)
  have c3 := hcell 3 (by omega)
  have c4 := hcell 4 (by omega)
  have c5 := hcell 5 (by omega)
  have hW1s : W1.heap.size = w.heap.size + 1 := by rw [hW1]; simp
  have z : ∀ i, i < 6 → w2.cell? ⟨w.heap.size, i, none⟩ = some (.int .u8 0) ∧ w2.frozen? ⟨w.heap.size, i, none⟩ = false := by
    intro i hi
    rw [bel.cell (p := ⟨w.heap.size, i, none⟩) (by show w.heap.size < _; omega), bel.frozen (p := ⟨w.heap.size, i, none⟩) (by show w.heap.size < _; omega), hW1]
    have hh : i = 0 ∨ i = 1 ∨ i = 2 ∨ i = 3 ∨ i = 4 ∨ i = 5 := by omega
    rcases hh with rfl | rfl | rfl | rfl | rfl | rfl <;> simp
  obtain ⟨z0, y0⟩ := z 0 (by omega)
  obtain ⟨z1, y1⟩ := z 1 (by omega)
  obtain ⟨z2, y2⟩ := z 2 (by omega)
  obtain ⟨z3, y3⟩ := z 3 (by omega)
  obtain ⟨z4, y4⟩ := z 4 (by omega)
  obtain ⟨z5, y5⟩ := z 5 (by omega)
  have BB : Hid (Below w.heap.size w w2) := by
    refine Below.trans (b := W1) ?_ (bel.mono (by omega))
    rw [hW1]
    exact (Below.refl _ _).alloc (Nat.le_refl _) _
  clear z hcell hfr bel
  rw [hW1s] at hat c0 c1 c2 c3 c4 c5 hz
  rw [hW1s] at hconv
  rw [hW1] at hconv
  clear hW1 hW1s
  have HM : Hid (∀ w, Calls Try.prog 42 #[.string s] w fun e w' => e = .returned (.bool true) ∧ w' = w) := fun w => isMac_b s true (by simp; omega) w
  go_enter Try.func27, Try.ntmps27
  go_wp2_with fail
  refine (HM.out _).mono ?_
  rintro e w1m ⟨rfl, hw1m⟩
  rw [hw1m]
  clear hw1m w1m
  go_wp2
  (try simp only [Exit.inBlock, Exit.then])
  refine bodyPost_ret (v := .tuple #[.agg #[.int .u8 (bt s 0), .int .u8 (bt s 1), .int .u8 (bt s 2), .int .u8 (bt s 3), .int .u8 (bt s 4), .int .u8 (bt s 5)], .bool true]) (by simp [results, Try.results27, go_sem, *]; try rfl) rfl ?_
  exact ⟨rfl, (((((BB.out.setCell (by simp) _).setCell (by simp) _).setCell (by simp) _).setCell (by simp) _).setCell (by simp) _).setCell (by simp) _⟩

theorem macOf_no (s : ByteArray) (w : World) (hs : s.size ≠ 6) (hx : s.size ≤ 9223372036854775807) :
    Calls Try.prog 27 #[.string s] w fun e w' => e = .returned (.tuple #[.agg #[.int .u8 0, .int .u8 0, .int .u8 0, .int .u8 0, .int .u8 0, .int .u8 0], .bool false]) ∧ Below w.heap.size w w' := by
  have hb : ((s.size : Int) != 6) = true := by simp; omega
  have HM : Hid (∀ w, Calls Try.prog 42 #[.string s] w fun e w' => e = .returned (.bool false) ∧ w' = w) := fun w => isMac_b s false (by simp; omega) w
  go_enter Try.func27, Try.ntmps27
  go_wp2_with fail
  refine (HM.out _).mono ?_
  rintro e w1m ⟨rfl, hw1m⟩
  rw [hw1m]
  clear hw1m w1m
  go_wp2
  go_returns
  exact ⟨rfl, (Below.refl _ _).alloc (Nat.le_refl _) _⟩

theorem macOf_any (s : ByteArray) (w : World) (hx : s.size ≤ 9223372036854775807) :
    Calls Try.prog 27 #[.string s] w fun e w' => (∃ m0 m1 m2 m3 m4 m5 : Int, e = .returned (.tuple #[.agg #[.int .u8 m0, .int .u8 m1, .int .u8 m2, .int .u8 m3, .int .u8 m4, .int .u8 m5], .bool (decide (s.size = 6))])) ∧ Below w.heap.size w w' := by
  by_cases h : s.size = 6
  · exact (macOf_yes s w h).mono fun e w' hh => ⟨⟨_, _, _, _, _, _, by rw [decide_eq_true h]; exact hh.1⟩, hh.2⟩
  · exact (macOf_no s w h hx).mono fun e w' hh => ⟨⟨_, _, _, _, _, _, by rw [decide_eq_false h]; exact hh.1⟩, hh.2⟩

theorem nums6 (s : ByteArray) (h : s.size = 6) : nums s = [bt s 0, bt s 1, bt s 2, bt s 3, bt s 4, bt s 5] := by
  have e := range_getD (nums s)
  rw [nums_len, h] at e
  rw [← e]
  simp only [nums_getD]
  rfl

set_option maxHeartbeats 1000000 in
theorem macAt_any (a : Option Addr) (len cap : Nat) (f : Nat → Int) (at_ : Nat) (w : World) (h : Bytes w a len f) (hs : at_ + 6 ≤ len) (hc : len ≤ cap) (hx : cap ≤ 9223372036854775807) :
    Calls Try.prog 33 #[.slice a len cap, .int .i64 at_] w fun e w' => e = .returned (.string (strOf (fun j => f (at_ + j)) 6)) ∧ Below w.heap.size w w' := by
  obtain ⟨b, off, rfl, -⟩ := h.2 (by omega)
  have HF : Hid (∀ k, 0 ≤ f k ∧ f k ≤ 255) := h.1
  have hlt : b < w.heap.size := by
    obtain ⟨b', off', e, hcc⟩ := h.2 (by omega)
    cases e
    simpa using World.block_lt_of_cell? w _ (hcc 0 (by omega))
  have hp := h.part at_ 6 hs (some ⟨b, off + at_, none⟩) (fun _ => rfl)
  have hat := run_arrayAt (P := Try.prog) w 54 5 6 (some ⟨b, off + at_, none⟩) 6 6 Try.underlying54 (by omega)
  obtain ⟨b', off', e, hcc⟩ := hp.2 (by omega)
  cases e
  have c0 := hcc 0 (by omega)
  have c1 := hcc 1 (by omega)
  have c2 := hcc 2 (by omega)
  have c3 := hcc 3 (by omega)
  have c4 := hcc 4 (by omega)
  have c5 := hcc 5 (by omega)
  simp only [Nat.add_zero] at c0
  have hconv := conv_row (P := Try.prog) (w.alloc (.cells #[.int .u8 (f at_), .int .u8 (f (at_ + 1)), .int .u8 (f (at_ + 2)), .int .u8 (f (at_ + 3)), .int .u8 (f (at_ + 4)), .int .u8 (f (at_ + 5))] 54)) 22 9 5 Try.underlying22 Try.underlying5 Try.underlying9 (some ⟨w.heap.size, 0, none⟩) 6 6 (fun j => f (at_ + j)) (by
    refine ⟨fun k => HF.out _, fun _ => ⟨w.heap.size, 0, rfl, fun i hi => ?_⟩⟩
    have hh : i = 0 ∨ i = 1 ∨ i = 2 ∨ i = 3 ∨ i = 4 ∨ i = 5 := by omega
    rcases hh with rfl | rfl | rfl | rfl | rfl | rfl <;> simp)
  clear h hp hcc
  go_enter Try.func33, Try.ntmps33
  go_wp2_with fail
  refine (part_any b off len cap at_ 6 w (by omega) hx).mono ?_
  rintro e w0 ⟨a', rfl, ha, hw⟩
  obtain rfl := hw.symm
  obtain rfl := ha (by omega)
  clear ha hw
  go_wp2
  go_ret
  exact ⟨rfl, (Below.refl _ _).alloc (Nat.le_refl _) _⟩
end Go.Proofs.Ytcgdpijmfgkalaa
