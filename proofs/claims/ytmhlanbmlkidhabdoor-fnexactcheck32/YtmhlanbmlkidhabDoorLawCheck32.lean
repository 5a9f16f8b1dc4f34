/- The walk of laws.FnExactCheck32: it answers true at every row of bytes where the table lies in its variable, and turns nothing that was there. -/
import Derived.Test.YtmhlanbmlkidhabDoorCrc
namespace Go.Proofs.YtmhlanbmlkidhabDoor
open Go.RowKit Go.PlainAid
set_option linter.unusedVariables false

theorem CTab.below {w w' : World} (h : CTab w) (b : Below w.heap.size w w') : CTab w' := fun i hi => by
  rw [b.cell (World.block_lt_of_cell? w _ (h i hi))]
  exact h i hi

set_option maxHeartbeats 400000 in
theorem lawCheck32_long (a : Option Addr) (len cap : Nat) (w : World) (hlen : 1048576 < len) :
    Calls Tryd.prog 4 #[.slice a len cap] w fun e w' => e = .returned (.bool true) ∧ Below w.heap.size w w' := by
  go_enter Tryd.func4, Tryd.ntmps4
  go_wp2
  go_ret
  exact ⟨rfl, Below.refl _ _⟩

set_option maxHeartbeats 400000 in
theorem lawCheck32_any (a : Option Addr) (len cap : Nat) (f : Nat → Int) (w : World) (hT : CTab w) (h : Bytes w a len f) (hlen : len ≤ 1048576) (hlt : ∀ b off, 0 < len → a = some ⟨b, off, none⟩ → b < w.heap.size) :
    Calls Tryd.prog 4 #[.slice a len cap] w fun e w' => e = .returned (.bool true) ∧ Below w.heap.size w w' := by
  have hB : Hid (Bytes w a len f) := h
  have hL : Hid (∀ b off, 0 < len → a = some ⟨b, off, none⟩ → b < w.heap.size) := hlt
  have HT : Hid (CTab w) := hT
  clear h hlt hT
  obtain ⟨r, hr1, hr2⟩ : ∃ r : Int, (∀ (x : Option Addr) (c : Nat) (w0 : World), Bytes w0 x len f → Calls Tryd.prog 10 #[.slice x len c] w0 fun e w' => e = .returned (.int .i64 r) ∧ w' = w0) ∧
      (∀ (x : Option Addr) (c : Nat) (w0 : World), Bytes w0 x len f → CTab w0 → Calls Tryd.prog 11 #[.slice x len c] w0 fun e w' => e = .returned (.int .i64 r) ∧ w' = w0) := by
    by_cases hs : len ≤ 65536
    · exact ⟨crcOf f len, fun x c w0 hb => specCheck32_any x len c f w0 hb hs, fun x c w0 hb ht => check32_any x len c f w0 hb hs ht⟩
    · exact ⟨0, fun x c w0 hb => specCheck32_long x len c w0 (by omega), fun x c w0 hb _ => check32_long x len c w0 (by omega)⟩
  have H1 : Hid (∀ (x : Option Addr) (c : Nat) (w0 : World), Bytes w0 x len f → Calls Tryd.prog 10 #[.slice x len c] w0 fun e w' => e = .returned (.int .i64 r) ∧ w' = w0) := hr1
  have H2 : Hid (∀ (x : Option Addr) (c : Nat) (w0 : World), Bytes w0 x len f → CTab w0 → Calls Tryd.prog 11 #[.slice x len c] w0 fun e w' => e = .returned (.int .i64 r) ∧ w' = w0) := hr2
  clear hr1 hr2
  have hne : (r != r) = false := by simp
  go_enter Tryd.func4, Tryd.ntmps4
  go_wp2_with fail
  refine (toByteS_any a len cap f w hB.out hlen hL.out).mono ?_
  rintro e w1 ⟨rfl, hf1⟩
  have F1 : Hid (Fill w w1 len len f) := hf1
  clear hf1
  go_wp2_with fail
  refine (H1.out _ _ _ (F1.out.bytes hB.out.1)).mono ?_
  rintro e w1' ⟨rfl, hw⟩
  subst hw
  go_wp2_with fail
  refine (toByteS_any a len cap f w1' (F1.out.old hB.out hL.out) hlen (fun b off h1 h2 => Nat.lt_of_lt_of_le (hL.out b off h1 h2) F1.out.1.size)).mono ?_
  rintro e w2 ⟨rfl, hf2⟩
  have F2 : Hid (Fill w1' w2 len len f) := hf2
  clear hf2
  go_wp2_with fail
  refine (H2.out _ _ _ (F2.out.bytes hB.out.1) ((HT.out.below F1.out.1).below F2.out.1)).mono ?_
  rintro e w2' ⟨rfl, hw⟩
  subst hw
  go_wp2_with fail
  refine (toByteS_any a len cap f w2' (F2.out.old (F1.out.old hB.out hL.out) (fun b off h1 h2 => Nat.lt_of_lt_of_le (hL.out b off h1 h2) F1.out.1.size)) hlen (fun b off h1 h2 => Nat.lt_of_lt_of_le (hL.out b off h1 h2) (Nat.le_trans F1.out.1.size F2.out.1.size))).mono ?_
  rintro e w3 ⟨rfl, hf3⟩
  have F3 : Hid (Fill w2' w3 len len f) := hf3
  clear hf3
  go_wp2_with fail
  refine (eqByteS_yes _ _ len _ _ f w3 ?_ (F3.out.bytes hB.out.1) hlen).mono ?_
  · exact F3.out.old (F2.out.bytes hB.out.1) (fun b off _ h2 => by cases h2; exact F2.out.2.1)
  rintro e w4 ⟨rfl, hb4⟩
  have B4 : Hid (Below w3.heap.size w3 w4) := hb4
  clear hb4
  go_wp2
  go_ret
  refine ⟨rfl, ?_⟩
  have z1 := F1.out.1.size
  have z2 := F2.out.1.size
  have z3 := F3.out.1.size
  exact ((F1.out.1.trans (F2.out.1.mono (by omega))).trans (F3.out.1.mono (by omega))).trans (B4.out.mono (by omega))
end Go.Proofs.YtmhlanbmlkidhabDoor
