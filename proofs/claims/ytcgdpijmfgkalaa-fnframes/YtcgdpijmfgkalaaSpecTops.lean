/- The model: ArpBytes, PacketBytes, SegmentBytes, DatagramBytes. -/
import Derived.Test.YtcgdpijmfgkalaaSpecWire3
namespace Go.Proofs.Ytcgdpijmfgkalaa
open Go.RowKit Go.PlainAid
set_option linter.unusedVariables false
set_option maxRecDepth 20000

set_option maxHeartbeats 4000000 in
theorem specArpBytes_yes  (op : Int) (sm : ByteArray) (dm : ByteArray) (si : Int) (di : Int) (w : World) (xop : op ≤ 9223372036854775807) (xsm : sm.size ≤ 1048576) (xdm : dm.size ≤ 1048576) (xsi : si ≤ 9223372036854775807) (xdi : di ≤ 9223372036854775807) (h : ((1 ≤ op ∧ op ≤ 2) ∧ (sm.size = 6) ∧ (dm.size = 6) ∧ (0 ≤ si ∧ si ≤ 4294967295) ∧ (0 ≤ di ∧ di ≤ 4294967295))) :
    SpecL 13 #[.agg #[.int .i64 op, .string sm, .string dm, .int .i64 si, .int .i64 di]] w (arpL op sm dm si di) 0 := by
  have K0 : Hid (Boxed (w.alloc (.cells #[.int .i64 op, .string sm, .string dm, .int .i64 si, .int .i64 di] 31)) w.heap.size [.int .i64 op, .string sm, .string dm, .int .i64 si, .int .i64 di]) := Boxed.new w _ _
  have B0 : Hid (Below w.heap.size w (w.alloc (.cells #[.int .i64 op, .string sm, .string dm, .int .i64 si, .int .i64 di] 31))) := (Below.refl _ _).alloc (Nat.le_refl _) _
  have H : Hid (((1 ≤ op ∧ op ≤ 2) ∧ (sm.size = 6) ∧ (dm.size = 6) ∧ (0 ≤ si ∧ si ≤ 4294967295) ∧ (0 ≤ di ∧ di ≤ 4294967295))) := h
  clear h
  unfold SpecL
  go_enter Try.func13, Try.ntmps13
  have q0 := dec_y (show (1 ≤ op ∧ op ≤ 2) ∧ (sm.size = 6) ∧ (dm.size = 6) ∧ (0 ≤ si ∧ si ≤ 4294967295) ∧ (0 ≤ di ∧ di ≤ 4294967295) from ⟨H.out.1, H.out.2.1, H.out.2.2.1, H.out.2.2.2.1, H.out.2.2.2.2⟩)
  go_wp2_with fail
  refine (l02Arp_any op sm dm si di _ xop xsm xdm xsi xdi).mono ?_
  rintro e w1 ⟨rfl, b1, z1⟩
  simp only [World.size_alloc] at z1
  have X1 : Hid (Boxed w1 w.heap.size [.int .i64 op, .string sm, .string dm, .int .i64 si, .int .i64 di] ∧ Below w.heap.size w w1) := ⟨K0.out.below b1 (by simp), B0.out.trans (b1.mono (by simp))⟩
  clear b1
  have k0 := X1.out.1.at 0 _ rfl
  have k1 := X1.out.1.at 1 _ rfl
  have k2 := X1.out.1.at 2 _ rfl
  have k3 := X1.out.1.at 3 _ rfl
  have k4 := X1.out.1.at 4 _ rfl
  go_wp2_with fail
  refine (l02ArpBytes_any op sm dm si di _ H.out.2.1 H.out.2.2.1 (by have := H.out.1; omega) H.out.1.2 H.out.2.2.2.1.1 H.out.2.2.2.1.2 H.out.2.2.2.2.1 H.out.2.2.2.2.2).mono ?_
  rintro e w2 ⟨⟨t, rfl, ht⟩, b2⟩
  obtain ⟨cap, w3, hconv, c1, c2, c3⟩ := conv_spec t w2
  rw [ht] at hconv c3
  have z2 := b2.size
  have X3 : Hid (Below w.heap.size w w3 ∧ w2.heap.size < w3.heap.size ∧ Bytes w3 (some ⟨w2.heap.size, 0, none⟩) (arpL op sm dm si di).length (fun j => (arpL op sm dm si di).getD j 0)) :=
    ⟨(X1.out.2.trans (b2.mono (by first | omega | simp))).trans (c1.mono (by omega)), c2, c3⟩
  clear b2 c1 c2 c3 ht k0 k1 k2 k3 k4
  go_wp2
  go_ret2
  exact ⟨_, cap, rfl, X3.out.2.2, fun b off hh => by cases hh; exact X3.out.2.1, X3.out.1⟩

set_option maxHeartbeats 4000000 in
theorem specArpBytes_no  (op : Int) (sm : ByteArray) (dm : ByteArray) (si : Int) (di : Int) (w : World) (xop : op ≤ 9223372036854775807) (xsm : sm.size ≤ 1048576) (xdm : dm.size ≤ 1048576) (xsi : si ≤ 9223372036854775807) (xdi : di ≤ 9223372036854775807) (h : ¬ ((1 ≤ op ∧ op ≤ 2) ∧ (sm.size = 6) ∧ (dm.size = 6) ∧ (0 ≤ si ∧ si ≤ 4294967295) ∧ (0 ≤ di ∧ di ≤ 4294967295))) :
    SpecL 13 #[.agg #[.int .i64 op, .string sm, .string dm, .int .i64 si, .int .i64 di]] w [] 1 := by
  have K0 : Hid (Boxed (w.alloc (.cells #[.int .i64 op, .string sm, .string dm, .int .i64 si, .int .i64 di] 31)) w.heap.size [.int .i64 op, .string sm, .string dm, .int .i64 si, .int .i64 di]) := Boxed.new w _ _
  have B0 : Hid (Below w.heap.size w (w.alloc (.cells #[.int .i64 op, .string sm, .string dm, .int .i64 si, .int .i64 di] 31))) := (Below.refl _ _).alloc (Nat.le_refl _) _
  have H : Hid (¬ ((1 ≤ op ∧ op ≤ 2) ∧ (sm.size = 6) ∧ (dm.size = 6) ∧ (0 ≤ si ∧ si ≤ 4294967295) ∧ (0 ≤ di ∧ di ≤ 4294967295))) := h
  clear h
  unfold SpecL
  go_enter Try.func13, Try.ntmps13
  have hl : ¬ ((1 ≤ op ∧ op ≤ 2) ∧ (sm.size = 6) ∧ (dm.size = 6) ∧ (0 ≤ si ∧ si ≤ 4294967295) ∧ (0 ≤ di ∧ di ≤ 4294967295)) := fun hh => H.out hh
  have ql := dec_n hl
  clear hl
  go_wp2_with fail
  refine (l02Arp_any op sm dm si di _ xop xsm xdm xsi xdi).mono ?_
  rintro e w1 ⟨rfl, b1, z1⟩
  simp only [World.size_alloc] at z1
  have X1 : Hid (Below w.heap.size w w1) := B0.out.trans (b1.mono (by simp))
  clear b1
  go_wp2
  go_ret2
  exact ⟨_, _, rfl, ⟨fun _ => ⟨Int.le_refl _, by simp⟩, fun h0 => absurd h0 (by simp)⟩, fun b off hh => by cases hh; simp, X1.out.alloc (by omega) _⟩

end Go.Proofs.Ytcgdpijmfgkalaa
