/- The walk of laws.FnExactHash: it answers true at every row of bytes where the two tables lie in their variables, and turns nothing that was there. -/
import Derived.Test.YtmhlanbmlkidhabDoorHashI
import Derived.Test.YtmhlanbmlkidhabDoorHashS
import Derived.Test.YtmhlanbmlkidhabDoorLawCheck16
namespace Go.Proofs.YtmhlanbmlkidhabDoor
open Go.RowKit Go.PlainAid
set_option linter.unusedVariables false

/-- One text for both. -/
theorem hash_both (len : Nat) (f : Nat → Int) : ∃ r : ByteArray,
    (∀ (b off cap : Nat) (w : World), Bytes w (some ⟨b, off, none⟩) len f → b < w.heap.size → Calls Tryd.prog 6 #[.slice (some ⟨b, off, none⟩) len cap] w fun e w' => e = .returned (.string r) ∧ Below w.heap.size w w') ∧
    (∀ (b off cap : Nat) (w : World), Bytes w (some ⟨b, off, none⟩) len f → b < w.heap.size → len ≤ cap → cap ≤ 9223372036854775807 → KTab w → HTab w → Calls Tryd.prog 8 #[.slice (some ⟨b, off, none⟩) len cap] w fun e w' => e = .returned (.string r) ∧ Below w.heap.size w w') := by
  by_cases hs : len ≤ 65536
  · exact ⟨hashF f len, fun b off cap w hb hl => specHash_any _ len cap f w hb hs (fun h => by cases h) (fun y hy => ⟨b, off, by cases hy; rfl, hl⟩), fun b off cap w hb hl h1 h2 hk hh => hash_some b off len cap f w hk hh hb hl hs h1 h2⟩
  · exact ⟨⟨#[]⟩, fun b off cap w hb hl => (specHash_long _ len cap w (by omega)).mono fun e w' h => ⟨h.1, h.2 ▸ Below.refl _ _⟩, fun b off cap w hb hl h1 h2 hk hh => (hash_long _ len cap w (by omega)).mono fun e w' h => ⟨h.1, h.2 ▸ Below.refl _ _⟩⟩

theorem lawHash_long (a : Option Addr) (len cap : Nat) (w : World) (hlen : 1048576 < len) :
    Calls Tryd.prog 3 #[.slice a len cap] w fun e w' => e = .returned (.bool true) ∧ Below w.heap.size w w' := by
  go_enter Tryd.func3, Tryd.ntmps3
  go_wp2
  go_ret
  exact ⟨rfl, Below.refl _ _⟩

set_option maxHeartbeats 400000 in
theorem lawHash_any (a : Option Addr) (len cap : Nat) (f : Nat → Int) (w : World) (hK : KTab w) (hH : HTab w) (h : Bytes w a len f) (hlen : len ≤ 1048576) (hlt : ∀ b off, 0 < len → a = some ⟨b, off, none⟩ → b < w.heap.size) :
    Calls Tryd.prog 3 #[.slice a len cap] w fun e w' => e = .returned (.bool true) ∧ Below w.heap.size w w' := by
  have hB : Hid (Bytes w a len f) := h
  have hL : Hid (∀ b off, 0 < len → a = some ⟨b, off, none⟩ → b < w.heap.size) := hlt
  have HK : Hid (KTab w) := hK
  have HH : Hid (HTab w) := hH
  clear h hlt hK hH
  obtain ⟨r, hr1, hr2⟩ := hash_both len f
  have H1 : Hid (∀ (b off cap : Nat) (w : World), Bytes w (some ⟨b, off, none⟩) len f → b < w.heap.size → Calls Tryd.prog 6 #[.slice (some ⟨b, off, none⟩) len cap] w fun e w' => e = .returned (.string r) ∧ Below w.heap.size w w') := hr1
  have H2 : Hid (∀ (b off cap : Nat) (w : World), Bytes w (some ⟨b, off, none⟩) len f → b < w.heap.size → len ≤ cap → cap ≤ 9223372036854775807 → KTab w → HTab w → Calls Tryd.prog 8 #[.slice (some ⟨b, off, none⟩) len cap] w fun e w' => e = .returned (.string r) ∧ Below w.heap.size w w') := hr2
  clear hr1 hr2
  go_enter Tryd.func3, Tryd.ntmps3
  go_wp2_with fail
  refine (toByteS_any a len cap f w hB.out hlen hL.out).mono ?_
  rintro e w1 ⟨rfl, hf1⟩
  have F1 : Hid (Fill w w1 len len f) := hf1
  have z1 := hf1.1.size
  clear hf1
  go_wp2_with fail
  refine (H1.out _ _ _ _ (F1.out.bytes hB.out.1) F1.out.2.1).mono ?_
  rintro e w2 ⟨rfl, hb2⟩
  have B2 : Hid (Below w.heap.size w w2) := F1.out.1.trans (hb2.mono z1)
  have hl2 : Hid (Bytes w2 a len f) := hB.out.below B2.out hL.out
  have z2 := B2.out.size
  clear hb2 F1
  go_wp2_with fail
  refine (toByteS_any a len cap f w2 hl2.out hlen (fun b off h1 h2 => Nat.lt_of_lt_of_le (hL.out b off h1 h2) z2)).mono ?_
  rintro e w3 ⟨rfl, hf3⟩
  have F3 : Hid (Fill w2 w3 len len f) := hf3
  have z3 := hf3.1.size
  have B3 : Hid (Below w.heap.size w w3) := B2.out.trans (hf3.1.mono z2)
  clear hf3
  go_wp2_with fail
  refine (H2.out _ _ _ _ (F3.out.bytes hB.out.1) F3.out.2.1 (Nat.le_refl _) (by omega) (HK.out.below B3.out) (HH.out.below B3.out)).mono ?_
  rintro e w4 ⟨rfl, hb4⟩
  have B4 : Hid (Below w.heap.size w w4) := B3.out.trans (hb4.mono (by omega))
  have X4 : Hid (Bytes w4 (some ⟨w2.heap.size, 0, none⟩) len f) := (F3.out.bytes hB.out.1).below hb4 (fun b off _ h2 => by cases h2; exact F3.out.2.1)
  have l4 : w2.heap.size < w4.heap.size := Nat.lt_of_lt_of_le F3.out.2.1 hb4.size
  have hl4 : Hid (Bytes w4 a len f) := hB.out.below B4.out hL.out
  have z4 := B4.out.size
  clear hb4 F3
  go_wp2_with fail
  refine (toByteS_any a len cap f w4 hl4.out hlen (fun b off h1 h2 => Nat.lt_of_lt_of_le (hL.out b off h1 h2) z4)).mono ?_
  rintro e w5 ⟨rfl, hf5⟩
  have F5 : Hid (Fill w4 w5 len len f) := hf5
  clear hf5
  go_wp2_with fail
  refine (eqByteS_yes _ _ len _ _ f w5 (X4.out.below F5.out.1 (fun b off _ h2 => by cases h2; exact l4)) (F5.out.bytes hB.out.1) hlen).mono ?_
  rintro e w6 ⟨rfl, hb6⟩
  have B6 : Hid (Below w.heap.size w w6) := (B4.out.trans (F5.out.1.mono z4)).trans (hb6.mono (by have := F5.out.1.size; omega))
  clear hb6
  go_wp2
  go_ret
  exact ⟨rfl, B6.out⟩
end Go.Proofs.YtmhlanbmlkidhabDoor
