/- The program's macOf and macAt: a mac as an array of six, and back. -/
import Derived.Test.YtcgdpijmfgkalabPart
import Derived.Handy
import Derived.Laws.Cover3
namespace Go.Proofs.Ytcgdpijmfgkalab
open Go.RowKit Go.PlainAid
set_option linter.unusedVariables false
set_option maxRecDepth 20000

theorem isMac_b (s : ByteArray) (q : Bool) (hq : ((s.size : Int) == 6) = q) (w : World) : Calls Try.prog 74 #[.string s] w fun e w' => e = .returned (.bool q) ∧ w' = w := by
  go_enter Try.func74, Try.ntmps74
  go_wp2
  go_ret
  exact ⟨rfl, rfl⟩
set_option maxHeartbeats 1000000 in
theorem macOf_yes (s : ByteArray) (w : World) (hs : s.size = 6) :
    Calls Try.prog 40 #[.string s] w fun e w' => e = .returned (.tuple #[.agg #[.int .u8 (bt s 0), .int .u8 (bt s 1), .int .u8 (bt s 2), .int .u8 (bt s 3), .int .u8 (bt s 4), .int .u8 (bt s 5)], .bool true]) ∧ Below w.heap.size w w' := by
  obtain ⟨W1, hW1⟩ : ∃ W1, W1 = w.alloc (.cells #[.int .u8 0, .int .u8 0, .int .u8 0, .int .u8 0, .int .u8 0, .int .u8 0] 85) := ⟨_, rfl⟩
  obtain ⟨cap, w2, hconv, bel, hz, hfr, hcell⟩ := conv_bytes (P := Try.prog) W1 9 25 5 s Try.underlying9 Try.underlying25 Try.underlying5
  rw [hs] at hconv
  have hat := run_arrayAt (P := Try.prog) w2 85 5 6 (some ⟨W1.heap.size, 0, none⟩) 6 cap Try.underlying85 (by omega)
  have c0 := hcell 0 (by omega)
  have c1 := hcell 1 (by omega)
  have c2 := hcell 2 (by omega)
  have c3 := hcell 3 (by omega)
  have c4 := hcell 4 (by omega)
  have c5 := hcell 5 (by omega)
  have hW1s : W1.heap.size = w.heap.size + 1 := by rw [hW1]; simp
  have z : ∀ i, i < 6 → w2.cell? ⟨w.heap.size, i, none⟩ = some (.int .u8 0) ∧ w2.frozen? ⟨w.heap.size, i, none⟩ = false := by
    intro i hi
    rw [bel.cell (p := ⟨w.heap.size, i, none⟩) (by show w.heap.size < _; omega), bel.frozen (p := ⟨w.heap.size, i, none⟩) (by show w.heap.size < _; omega), hW1]
    have hh : i = 0 ∨ i = 1 ∨ i = 2 ∨ i = 3 ∨ i = 4 ∨ i = 5 := by omega
    rcases hh with rfl | rfl | rfl | rfl | rfl | rfl <;> simp
  obtain ⟨z0, y0⟩ := z 0 (by omega)
  obtain ⟨z1, y1⟩ := z 1 (by omega)
  obtain ⟨z2, y2⟩ := z 2 (by omega)
  obtain ⟨z3, y3⟩ := z 3 (by omega)
  obtain ⟨z4, y4⟩ := z 4 (by omega)
  obtain ⟨z5, y5⟩ := z 5 (by omega)
  have BB : Hid (Below w.heap.size w w2) := by
    refine Below.trans (b := W1) ?_ (bel.mono (by omega))
    rw [hW1]
    exact (Below.refl _ _).alloc (Nat.le_refl _) _
  clear z hcell hfr bel
  rw [hW1s] at hat c0 c1 c2 c3 c4 c5 hz
  rw [hW1s] at hconv
  rw [hW1] at hconv
  clear hW1 hW1s
  have HM : Hid (∀ w, Calls Try.prog 74 #[.string s] w fun e w' => e = .returned (.bool true) ∧ w' = w) := fun w => isMac_b s true (by simp; omega) w
  go_enter Try.func40, Try.ntmps40
  go_wp2_with fail
  refine (HM.out _).mono ?_
  rintro e w1m ⟨rfl, hw1m⟩
  rw [hw1m]
  clear hw1m w1m
  go_wp2
  (try simp only [Exit.inBlock, Exit.then])
  refine bodyPost_ret (v := .tuple #[.agg #[.int .u8 (bt s 0), .int .u8 (bt s 1), .int .u8 (bt s 2), .int .u8 (bt s 3), .int .u8 (bt s 4), .int .u8 (bt s 5)], .bool true]) (by simp [results, Try.results40, go_sem, *]; try rfl) rfl ?_
  exact ⟨rfl, (((((BB.out.setCell (by simp) _).setCell (by simp) _).setCell (by simp) _).setCell (by simp) _).setCell (by simp) _).setCell (by simp) _⟩

theorem macOf_no (s : ByteArray) (w : World) (hs : s.size ≠ 6) (hx : s.size ≤ 9223372036854775807) :
    Calls Try.prog 40 #[.string s] w fun e w' => e = .returned (.tuple #[.agg #[.int .u8 0, .int .u8 0, .int .u8 0, .int .u8 0, .int .u8 0, .int .u8 0], .bool false]) ∧ Below w.heap.size w w' := by
  have hb : ((s.size : Int) != 6) = true := by simp; omega
  have HM : Hid (∀ w, Calls Try.prog 74 #[.string s] w fun e w' => e = .returned (.bool false) ∧ w' = w) := fun w => isMac_b s false (by simp; omega) w
  go_enter Try.func40, Try.ntmps40
  go_wp2_with fail
  refine (HM.out _).mono ?_
  rintro e w1m ⟨rfl, hw1m⟩
  rw [hw1m]
  clear hw1m w1m
  go_wp2
  go_returns
  exact ⟨rfl, (Below.refl _ _).alloc (Nat.le_refl _) _⟩

theorem macOf_any (s : ByteArray) (w : World) (hx : s.size ≤ 9223372036854775807) :
    Calls Try.prog 40 #[.string s] w fun e w' => (∃ m0 m1 m2 m3 m4 m5 : Int, e = .returned (.tuple #[.agg #[.int .u8 m0, .int .u8 m1, .int .u8 m2, .int .u8 m3, .int .u8 m4, .int .u8 m5], .bool (decide (s.size = 6))])) ∧ Below w.heap.size w w' := by
  by_cases h : s.size = 6
  · exact (macOf_yes s w h).mono fun e w' hh => ⟨⟨_, _, _, _, _, _, by rw [decide_eq_true h]; exact hh.1⟩, hh.2⟩
  · exact (macOf_no s w h hx).mono fun e w' hh => ⟨⟨_, _, _, _, _, _, by rw [decide_eq_false h]; exact hh.1⟩, hh.2⟩

theorem nums6 (s : ByteArray) (h : s.size = 6) : nums s = [bt s 0, bt s 1, bt s 2, bt s 3, bt s 4, bt s 5] := by
  have e := range_getD (nums s)
  rw [nums_len, h] at e
  rw [← e]
  simp only [nums_getD]
  rfl

end Go.Proofs.Ytcgdpijmfgkalab
