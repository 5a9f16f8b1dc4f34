/- The walk of laws.FnExactNumberBytes: it answers true at every pair of numbers, and turns nothing that was there. -/
import Derived.Test.YtpcjdfponkopaacCopy
import Derived.Test.YtpcjdfponkopaacNumBytes2
namespace Go.Proofs.Ytpcjdfponkopaac
open Go.RowKit Go.PlainAid
set_option linter.unusedVariables false

/-- Marking a row that may be written, an empty one too. -/
theorem mark_any (a : Option Addr) (n cap : Nat) (f : Nat → Int) (w : World) (B : Nat) (h : Writ w a n f) (hlen : n ≤ 1048576) (hB : ∀ b, 0 < n → a = some ⟨b, 0, none⟩ → B ≤ b) :
    Calls Try.prog 14 #[.slice a n cap, .int .i64 1] w fun e w' => e = .returned (.int .i64 (1 + (n : Int))) ∧ Writ w' a n mk ∧ Below B w w' ∧ w'.heap.size = w.heap.size := by
  by_cases h0 : 0 < n
  · obtain ⟨b, rfl, hl, hf, hc⟩ := h.2 h0
    refine (markByteS_any b n cap f w h h0 hlen).mono fun e w' hh => ⟨hh.1, hh.2.writ hl, hh.2.below.mono (hB b h0 rfl), hh.2.2.1⟩
  · obtain rfl : n = 0 := by omega
    refine (markByteS_nil a cap w).mono fun e w' hh => ⟨by rw [hh.1]; rfl, ⟨mk_bd, fun h => absurd h h0⟩, hh.2 ▸ Below.refl _ _, by rw [hh.2]⟩

set_option maxHeartbeats 1000000 in
theorem lawNumberBytes_any (n m : Int) (w : World) (hn : n ≤ 9223372036854775807) :
    Calls Try.prog 4 #[.int .i64 n, .int .i64 m] w fun e w' => e = .returned (.bool true) ∧ Below w.heap.size w w' := by
  obtain ⟨k, f, c, hk, hS, hI⟩ := numberBytes_both n m hn
  have HS : Hid (∀ w, SpecRow 11 #[.int .i64 n, .int .i64 m] w k f c) := hS
  have HI : Hid (∀ w, ImplRow 12 #[.int .i64 n, .int .i64 m] w k f c) := hI
  clear hS hI
  have hne : (c != c) = false := by simp
  have hnk : ((1 + (k : Int)) != (1 + (k : Int))) = false := by simp
  go_enter Try.func4, Try.ntmps4
  go_wp2_with fail
  refine (HS.out w).mono ?_
  rintro e w1 ⟨a, ca, rfl, hb1, hlt1, bel1⟩
  have X1 : Hid (Bytes w1 a k f ∧ (∀ b off, a = some ⟨b, off, none⟩ → b < w1.heap.size) ∧ Below w.heap.size w w1) := ⟨hb1, hlt1, bel1⟩
  clear hb1 hlt1 bel1
  go_wp2_with fail
  refine (HI.out w1).mono ?_
  rintro e w2 ⟨g, cg, rfl, hb2, hlt2, bel2⟩
  have X2 : Hid (Writ w2 g k f ∧ (∀ b, 0 < k → g = some ⟨b, 0, none⟩ → w1.heap.size ≤ b) ∧ Below w1.heap.size w1 w2) := ⟨hb2, hlt2, bel2⟩
  clear hb2 hlt2 bel2
  go_wp2_with fail
  refine (eqByteS_yes g a k cg ca f w2 X2.out.1.bytes (X1.out.1.below X2.out.2.2 (fun b off _ hh => X1.out.2.1 b off hh)) (by omega)).mono ?_
  rintro e w3 ⟨rfl, bel3⟩
  have X3 : Hid (Below w2.heap.size w2 w3) := bel3
  clear bel3
  go_wp2_with fail
  refine (mark_any g k cg f w3 w1.heap.size (X2.out.1.below X3.out (Nat.le_refl _)) (by omega) X2.out.2.1).mono ?_
  rintro e w4 ⟨rfl, hw4, bel4, hz4⟩
  have X4 : Hid (Writ w4 g k mk ∧ Below w1.heap.size w3 w4 ∧ w4.heap.size = w3.heap.size) := ⟨hw4, bel4, hz4⟩
  clear hw4 bel4 hz4
  go_wp2_with fail
  refine (heldByteS_any g k cg w4 X4.out.1.bytes (by omega)).mono ?_
  rintro e w5 ⟨rfl, hw5⟩
  subst hw5
  go_wp2_with fail
  refine (HI.out w5).mono ?_
  rintro e w6 ⟨h, ch, rfl, hb6, hlt6, bel6⟩
  have X6 : Hid (Writ w6 h k f ∧ Below w5.heap.size w5 w6) := ⟨hb6, bel6⟩
  clear hb6 hlt6 bel6
  have z1 := X1.out.2.2.size
  have z2 := X2.out.2.2.size
  have z3 := X3.out.size
  have z4 := X4.out.2.2
  have Z4 : Hid (w5.heap.size = w3.heap.size) := z4
  have z6 := X6.out.2.size
  have z5 : w3.heap.size ≤ w5.heap.size := by omega
  clear z4
  have B16 : Hid (Below w1.heap.size w1 w6) := (((X2.out.2.2).trans (X3.out.mono z2)).trans X4.out.2.1).trans (X6.out.2.mono (by omega))
  go_wp2_with fail
  refine (eqByteS_yes h a k ch ca f w6 X6.out.1.bytes (X1.out.1.below B16.out (fun b off _ hh => X1.out.2.1 b off hh)) (by omega)).mono ?_
  rintro e w7 ⟨rfl, bel7⟩
  have X7 : Hid (Below w6.heap.size w6 w7) := bel7
  clear bel7
  go_wp2_with fail
  refine (heldByteS_any g k cg w7 ((X4.out.1.below X6.out.2 (Nat.le_refl _)).below X7.out (Nat.le_refl _)).bytes (by omega)).mono ?_
  rintro e w8 ⟨rfl, hw8⟩
  subst hw8
  go_wp2
  go_ret
  exact ⟨rfl, (X1.out.2.2.trans (B16.out.mono z1)).trans (X7.out.mono (by omega))⟩
end Go.Proofs.Ytpcjdfponkopaac
