/- The walk of the exact law of EscapeText. -/
import Derived.Test.YtbpdfkngkkopbabEscW
namespace Go.Proofs.Ytbpdfkngkkopbab
open Go.RowKit Go.PlainAid
set_option linter.unusedVariables false

theorem esc_both (s : ByteArray) : ∃ (t : ByteArray) (c : Int), (∀ w, Calls Try.prog 8 #[.string s] w fun e w' => e = .returned (.tuple #[.string t, .int .i64 c]) ∧ Below w.heap.size w w') ∧
    ∀ w, Calls Try.prog 9 #[.string s] w fun e w' => e = .returned (.tuple #[.string t, .int .i64 c]) ∧ Below w.heap.size w w' := by
  by_cases hl : 65536 < s.size
  · exact ⟨⟨#[]⟩, 2, fun w => (specEsc_long s w hl).mono fun e w' h => ⟨h.1, h.2 ▸ Below.refl _ _⟩, fun w => (implEsc_long s w hl).mono fun e w' h => ⟨h.1, h.2 ▸ Below.refl _ _⟩⟩
  by_cases h6 : s.size ≤ 1000
  · exact ⟨_, 0, fun w => specEsc_yes s w h6, fun w => implEsc_yes s w h6⟩
  · exact ⟨⟨#[]⟩, 4, fun w => (specEsc_no s w (by omega) (by omega)).mono fun e w' h => ⟨h.1, h.2 ▸ Below.refl _ _⟩, fun w => (implEsc_no s w (by omega) (by omega)).mono fun e w' h => ⟨h.1, h.2 ▸ Below.refl _ _⟩⟩
set_option maxHeartbeats 400000 in
theorem lawEsc_any (s : ByteArray) (w : World) (hs : s.size ≤ maxLen) :
    Calls Try.prog 4 #[.string s] w fun e w' => e = .returned (.bool true) ∧ Below w.heap.size w w' := by
  unfold maxLen at hs
  by_cases hl : 1048576 < s.size
  · go_enter Try.func4, Try.ntmps4
    go_wp2
    go_ret
    exact ⟨rfl, Below.refl _ _⟩
  obtain ⟨t, c, hS, hI⟩ := esc_both s
  have HS : Hid (∀ w, Calls Try.prog 8 #[.string s] w fun e w' => e = .returned (.tuple #[.string t, .int .i64 c]) ∧ Below w.heap.size w w') := hS
  have HI : Hid (∀ w, Calls Try.prog 9 #[.string s] w fun e w' => e = .returned (.tuple #[.string t, .int .i64 c]) ∧ Below w.heap.size w w') := hI
  clear hS hI
  have hne : (c != c) = false := by simp
  go_enter Try.func4, Try.ntmps4
  go_wp2_with fail
  refine (HS.out _).mono ?_
  rintro e w1 ⟨rfl, b1⟩
  have B1 : Hid (Below w.heap.size w w1) := b1
  clear b1
  go_wp2_with fail
  refine (HI.out _).mono ?_
  rintro e w2 ⟨rfl, b2⟩
  have B2 : Hid (Below w1.heap.size w1 w2) := b2
  clear b2
  go_wp2
  go_ret
  exact ⟨rfl, B1.out.trans (B2.out.mono B1.out.size)⟩
end Go.Proofs.Ytbpdfkngkkopbab
