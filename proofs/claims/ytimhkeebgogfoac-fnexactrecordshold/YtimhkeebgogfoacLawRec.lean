/- The walk of laws.FnExactRecordsHold. -/
import Derived.Test.YtimhkeebgogfoacRecW
namespace Go.Proofs.Ytimhkeebgogfoac
open Go.RowKit Go.PlainAid Go.Proofs.Ytimhkeebgogfoac.Bt Go.Sort
set_option linter.unusedVariables false
set_option maxRecDepth 20000
theorem records_both (rs : List RecV) : ∃ (r : Bool) (c : Int), (∀ a cap w, Rw ReR 5 w a rs → Calls Try.prog 11 #[.slice a rs.length cap] w fun e w' => e = .returned (.tuple #[.bool r, .int .i64 c]) ∧ Below w.heap.size w w') ∧
    ∀ a cap w, Rw ReR 5 w a rs → Calls Try.prog 13 #[.slice a rs.length cap] w fun e w' => e = .returned (.tuple #[.bool r, .int .i64 c]) ∧ Below w.heap.size w w' := by
  by_cases h : 4096 < rs.length
  · exact ⟨false, 2, fun a cap w _ => (specRecordsHold_long a _ cap w h).mono fun e w' h => ⟨h.1, h.2.below⟩, fun a cap w _ => implRecordsHold_long a _ cap w h⟩
  · exact ⟨recB rs, 0, fun a cap w hr => (specRecordsHold_any a _ cap rs w hr rfl (by omega)).mono fun e w' h => ⟨h.1, h.2.below⟩, fun a cap w hr => implRecordsHold_any a _ cap rs w hr rfl (by omega)⟩
set_option maxHeartbeats 2000000 in
theorem lawRecordsHold_any (a : Option Addr) (len cap : Nat) (rs : List RecV) (w : World) (h : Rw ReR 5 w a rs) (hl : rs.length = len) (hm : len ≤ maxLen) :
    Calls Try.prog 4 #[.slice a len cap] w fun e w' => e = .returned (.bool true) ∧ Below w.heap.size w w' := by
  unfold maxLen at hm
  subst hl
  have RW : Hid (Rw ReR 5 w a rs) := h
  have HZ : Hid (∀ w, Calls Try.prog 10 #[.slice a rs.length cap, .int .i64 1048576] w fun e w' => ∃ r : Int, e = .returned (.int .i64 r) ∧ (0 ≤ r → (rs.length : Int) ≤ 1048576) ∧ -1 ≤ r ∧ r ≤ 1048576 ∧ w' = w) := fun w => szRecordS_any a rs.length cap 1048576 w (by omega) (by omega) (by omega)
  clear h
  obtain ⟨z, c, hS, hI⟩ := records_both rs
  have HS : Hid (∀ a cap w, Rw ReR 5 w a rs → Calls Try.prog 11 #[.slice a rs.length cap] w fun e w' => e = .returned (.tuple #[.bool z, .int .i64 c]) ∧ Below w.heap.size w w') := hS
  have HI : Hid (∀ a cap w, Rw ReR 5 w a rs → Calls Try.prog 13 #[.slice a rs.length cap] w fun e w' => e = .returned (.tuple #[.bool z, .int .i64 c]) ∧ Below w.heap.size w w') := hI
  clear hS hI
  have hzz : (z == z) = true := by simp
  have hcc : (c != c) = false := by simp
  go_enter Try.func4, Try.ntmps4
  go_wp2_with fail
  refine (HZ.out _).mono ?_
  rintro e w1 ⟨r, rfl, hr, hr1, hr2, rfl⟩
  by_cases hr0 : r < 0
  · go_wp2
    go_ret
    exact ⟨rfl, Below.refl _ _⟩
  have hlen := hr (by omega)
  have HT : Hid (∀ w, Rw ReR 5 w a rs → Calls Try.prog 12 #[.slice a rs.length cap] w fun e w' => ∃ b, e = .returned (.slice (some ⟨b, 0, none⟩) rs.length rs.length) ∧ Rw ReR 5 w' (some ⟨b, 0, none⟩) rs ∧ Below w.heap.size w w') := fun w h => (toRecordS_any a rs.length cap rs w h rfl (by omega)).mono fun e w' h => ⟨_, h.1, h.2.1, h.2.2.2⟩
  have HE : Hid (∀ w x y, Rw ReR 5 w x rs → Rw ReR 5 w y rs → Calls Try.prog 14 #[.slice x rs.length rs.length, .slice y rs.length rs.length] w fun e w' => e = .returned (.bool true) ∧ Below w.heap.size w w') := fun w x y h h' => (eqRecordS_yes x y rs.length rs.length rs.length rs w h h' rfl (by omega)).mono fun e w' h => ⟨h.1, h.2.below⟩
  clear hr hr1 hr2 HZ
  go_wp2_with fail
  refine (HT.out _ RW.out).mono ?_
  rintro e w2 ⟨b2, rfl, h2, g2⟩
  have B2 : Hid (Below w1.heap.size w1 w2) := g2
  have R2 : Hid (Rw ReR 5 w2 (some ⟨b2, 0, none⟩) rs) := h2
  clear g2 h2
  go_wp2_with fail
  refine (HS.out _ _ _ R2.out).mono ?_
  rintro e w3 ⟨rfl, g3⟩
  have B3 : Hid (Below w1.heap.size w1 w3) := B2.out.trans (g3.mono B2.out.size)
  clear g3 B2 R2
  go_wp2_with fail
  refine (HT.out _ (RW.out.keep ReR.kp B3.out)).mono ?_
  rintro e w4 ⟨b4, rfl, h4, g4⟩
  have B4 : Hid (Below w1.heap.size w1 w4) := B3.out.trans (g4.mono B3.out.size)
  have R4 : Hid (Rw ReR 5 w4 (some ⟨b4, 0, none⟩) rs) := h4
  clear g4 h4 B3
  go_wp2_with fail
  refine (HI.out _ _ _ R4.out).mono ?_
  rintro e w5 ⟨rfl, g5⟩
  have B5 : Hid (Below w1.heap.size w1 w5) := B4.out.trans (g5.mono B4.out.size)
  have R5 : Hid (Rw ReR 5 w5 (some ⟨b4, 0, none⟩) rs) := R4.out.keep ReR.kp g5
  clear g5 B4 R4
  go_wp2_with fail
  refine (HT.out _ (RW.out.keep ReR.kp B5.out)).mono ?_
  rintro e w6 ⟨b6, rfl, h6, g6⟩
  have B6 : Hid (Below w1.heap.size w1 w6) := B5.out.trans (g6.mono B5.out.size)
  have R6 : Hid (Rw ReR 5 w6 (some ⟨b4, 0, none⟩) rs ∧ Rw ReR 5 w6 (some ⟨b6, 0, none⟩) rs) := ⟨R5.out.keep ReR.kp g6, h6⟩
  clear g6 h6 B5 R5
  go_wp2_with fail
  refine (HE.out _ _ _ R6.out.1 R6.out.2).mono ?_
  rintro e w7 ⟨rfl, g7⟩
  have B7 : Hid (Below w1.heap.size w1 w7) := B6.out.trans (g7.mono B6.out.size)
  clear g7
  go_wp2
  go_ret
  exact ⟨rfl, B7.out⟩
end Go.Proofs.Ytimhkeebgogfoac
