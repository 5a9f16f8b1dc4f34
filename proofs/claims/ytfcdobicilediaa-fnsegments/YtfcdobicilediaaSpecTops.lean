/- The model: ArpBytes, PacketBytes, SegmentBytes, DatagramBytes. -/
import Derived.Test.YtfcdobicilediaaSpecWire3
namespace Go.Proofs.Ytfcdobicilediaa
open Go.RowKit Go.PlainAid
set_option linter.unusedVariables false
set_option maxRecDepth 20000

set_option maxHeartbeats 4000000 in
theorem specSegmentBytes_yes (src : Int) (dst : Int) (sp : Int) (dp : Int) (sq : Int) (ak : Int) (fl : Int) (wn : Int) (data : ByteArray) (w : World) (xsp : sp ≤ 9223372036854775807) (xdp : dp ≤ 9223372036854775807) (xsq : sq ≤ 9223372036854775807) (xak : ak ≤ 9223372036854775807) (xfl : fl ≤ 9223372036854775807) (xwn : wn ≤ 9223372036854775807) (xdata : data.size ≤ 1048576) (h : ((0 ≤ src ∧ src ≤ 4294967295) ∧ (0 ≤ dst ∧ dst ≤ 4294967295) ∧ (0 ≤ sp ∧ sp ≤ 65535) ∧ (0 ≤ dp ∧ dp ≤ 65535) ∧ (0 ≤ sq ∧ sq ≤ 4294967295) ∧ (0 ≤ ak ∧ ak ≤ 4294967295) ∧ (0 ≤ fl ∧ fl ≤ 31) ∧ (0 ≤ wn ∧ wn ≤ 65535) ∧ (data.size ≤ 360))) :
    SpecL 9 #[.int .i64 src, .int .i64 dst, .agg #[.int .i64 sp, .int .i64 dp, .int .i64 sq, .int .i64 ak, .int .i64 fl, .int .i64 wn, .string data]] w (segL src dst sp dp sq ak fl wn data) 0 := by
  have K0 : Hid (Boxed (w.alloc (.cells #[.int .i64 sp, .int .i64 dp, .int .i64 sq, .int .i64 ak, .int .i64 fl, .int .i64 wn, .string data] 24)) w.heap.size [.int .i64 sp, .int .i64 dp, .int .i64 sq, .int .i64 ak, .int .i64 fl, .int .i64 wn, .string data]) := Boxed.new w _ _
  have B0 : Hid (Below w.heap.size w (w.alloc (.cells #[.int .i64 sp, .int .i64 dp, .int .i64 sq, .int .i64 ak, .int .i64 fl, .int .i64 wn, .string data] 24))) := (Below.refl _ _).alloc (Nat.le_refl _) _
  have H : Hid (((0 ≤ src ∧ src ≤ 4294967295) ∧ (0 ≤ dst ∧ dst ≤ 4294967295) ∧ (0 ≤ sp ∧ sp ≤ 65535) ∧ (0 ≤ dp ∧ dp ≤ 65535) ∧ (0 ≤ sq ∧ sq ≤ 4294967295) ∧ (0 ≤ ak ∧ ak ≤ 4294967295) ∧ (0 ≤ fl ∧ fl ≤ 31) ∧ (0 ≤ wn ∧ wn ≤ 65535) ∧ (data.size ≤ 360))) := h
  clear h
  unfold SpecL
  go_enter Try.func9, Try.ntmps9
  have q0 := dec_y (H.out.1)
  go_wp2_with fail
  refine (specIp_any _ _).mono ?_
  rintro e w1 ⟨rfl, hw1⟩
  obtain rfl := hw1.symm
  clear hw1
  have q1 := dec_y (H.out.2.1)
  go_wp2_with fail
  refine (specIp_any _ _).mono ?_
  rintro e w1 ⟨rfl, hw1⟩
  obtain rfl := hw1.symm
  clear hw1
  have q2 := dec_y (show (0 ≤ sp ∧ sp ≤ 65535) ∧ (0 ≤ dp ∧ dp ≤ 65535) ∧ (0 ≤ sq ∧ sq ≤ 4294967295) ∧ (0 ≤ ak ∧ ak ≤ 4294967295) ∧ (0 ≤ fl ∧ fl ≤ 31) ∧ (0 ≤ wn ∧ wn ≤ 65535) ∧ (data.size ≤ 360) from ⟨H.out.2.2.1, H.out.2.2.2.1, H.out.2.2.2.2.1, H.out.2.2.2.2.2.1, H.out.2.2.2.2.2.2.1, H.out.2.2.2.2.2.2.2.1, H.out.2.2.2.2.2.2.2.2⟩)
  go_wp2_with fail
  refine (l02Segment_any sp dp sq ak fl wn data _ xsp xdp xsq xak xfl xwn xdata).mono ?_
  rintro e w1 ⟨rfl, b1, z1⟩
  simp only [World.size_alloc] at z1
  have X1 : Hid (Boxed w1 w.heap.size [.int .i64 sp, .int .i64 dp, .int .i64 sq, .int .i64 ak, .int .i64 fl, .int .i64 wn, .string data] ∧ Below w.heap.size w w1) := ⟨K0.out.below b1 (by simp), B0.out.trans (b1.mono (by simp))⟩
  clear b1
  have k0 := X1.out.1.at 0 _ rfl
  have k1 := X1.out.1.at 1 _ rfl
  have k2 := X1.out.1.at 2 _ rfl
  have k3 := X1.out.1.at 3 _ rfl
  have k4 := X1.out.1.at 4 _ rfl
  have k5 := X1.out.1.at 5 _ rfl
  have k6 := X1.out.1.at 6 _ rfl
  go_wp2_with fail
  refine (l02SegmentBytes_any src dst sp dp sq ak fl wn data _ H.out.1.1 H.out.1.2 H.out.2.1.1 H.out.2.1.2 H.out.2.2.1.1 H.out.2.2.1.2 H.out.2.2.2.1.1 H.out.2.2.2.1.2 H.out.2.2.2.2.1.1 H.out.2.2.2.2.1.2 H.out.2.2.2.2.2.1.1 H.out.2.2.2.2.2.1.2 H.out.2.2.2.2.2.2.1.1 H.out.2.2.2.2.2.2.1.2 H.out.2.2.2.2.2.2.2.1.1 H.out.2.2.2.2.2.2.2.1.2 H.out.2.2.2.2.2.2.2.2).mono ?_
  rintro e w2 ⟨⟨t, rfl, ht⟩, b2⟩
  obtain ⟨cap, w3, hconv, c1, c2, c3⟩ := conv_spec t w2
  rw [ht] at hconv c3
  have z2 := b2.size
  have X3 : Hid (Below w.heap.size w w3 ∧ w2.heap.size < w3.heap.size ∧ Bytes w3 (some ⟨w2.heap.size, 0, none⟩) (segL src dst sp dp sq ak fl wn data).length (fun j => (segL src dst sp dp sq ak fl wn data).getD j 0)) :=
    ⟨(X1.out.2.trans (b2.mono (by first | omega | simp))).trans (c1.mono (by omega)), c2, c3⟩
  clear b2 c1 c2 c3 ht k0 k1 k2 k3 k4 k5 k6
  go_wp2
  go_ret2
  exact ⟨_, cap, rfl, X3.out.2.2, fun b off hh => by cases hh; exact X3.out.2.1, X3.out.1⟩

set_option maxHeartbeats 4000000 in
theorem specSegmentBytes_no (src : Int) (dst : Int) (sp : Int) (dp : Int) (sq : Int) (ak : Int) (fl : Int) (wn : Int) (data : ByteArray) (w : World) (xsp : sp ≤ 9223372036854775807) (xdp : dp ≤ 9223372036854775807) (xsq : sq ≤ 9223372036854775807) (xak : ak ≤ 9223372036854775807) (xfl : fl ≤ 9223372036854775807) (xwn : wn ≤ 9223372036854775807) (xdata : data.size ≤ 1048576) (h : ¬ ((0 ≤ src ∧ src ≤ 4294967295) ∧ (0 ≤ dst ∧ dst ≤ 4294967295) ∧ (0 ≤ sp ∧ sp ≤ 65535) ∧ (0 ≤ dp ∧ dp ≤ 65535) ∧ (0 ≤ sq ∧ sq ≤ 4294967295) ∧ (0 ≤ ak ∧ ak ≤ 4294967295) ∧ (0 ≤ fl ∧ fl ≤ 31) ∧ (0 ≤ wn ∧ wn ≤ 65535) ∧ (data.size ≤ 360))) :
    SpecL 9 #[.int .i64 src, .int .i64 dst, .agg #[.int .i64 sp, .int .i64 dp, .int .i64 sq, .int .i64 ak, .int .i64 fl, .int .i64 wn, .string data]] w [] 1 := by
  have K0 : Hid (Boxed (w.alloc (.cells #[.int .i64 sp, .int .i64 dp, .int .i64 sq, .int .i64 ak, .int .i64 fl, .int .i64 wn, .string data] 24)) w.heap.size [.int .i64 sp, .int .i64 dp, .int .i64 sq, .int .i64 ak, .int .i64 fl, .int .i64 wn, .string data]) := Boxed.new w _ _
  have B0 : Hid (Below w.heap.size w (w.alloc (.cells #[.int .i64 sp, .int .i64 dp, .int .i64 sq, .int .i64 ak, .int .i64 fl, .int .i64 wn, .string data] 24))) := (Below.refl _ _).alloc (Nat.le_refl _) _
  have H : Hid (¬ ((0 ≤ src ∧ src ≤ 4294967295) ∧ (0 ≤ dst ∧ dst ≤ 4294967295) ∧ (0 ≤ sp ∧ sp ≤ 65535) ∧ (0 ≤ dp ∧ dp ≤ 65535) ∧ (0 ≤ sq ∧ sq ≤ 4294967295) ∧ (0 ≤ ak ∧ ak ≤ 4294967295) ∧ (0 ≤ fl ∧ fl ≤ 31) ∧ (0 ≤ wn ∧ wn ≤ 65535) ∧ (data.size ≤ 360))) := h
  clear h
  unfold SpecL
  go_enter Try.func9, Try.ntmps9
  go_wp2_with fail
  refine (specIp_any _ _).mono ?_
  rintro e w1 ⟨rfl, hw1⟩
  obtain rfl := hw1.symm
  clear hw1
  by_cases h0 : 0 ≤ src ∧ src ≤ 4294967295
  rotate_left
  · have q := dec_n h0
    clear h0
    go_wp2
    go_ret2
    exact ⟨_, _, rfl, ⟨fun _ => ⟨Int.le_refl _, by simp⟩, fun h0 => absurd h0 (by simp)⟩, fun b off hh => by cases hh; simp, B0.out.alloc (by simp) _⟩
  have q0 := dec_y h0
  have K1 : Hid (0 ≤ src ∧ src ≤ 4294967295) := h0
  clear h0
  go_wp2_with fail
  refine (specIp_any _ _).mono ?_
  rintro e w1 ⟨rfl, hw1⟩
  obtain rfl := hw1.symm
  clear hw1
  by_cases h1 : 0 ≤ dst ∧ dst ≤ 4294967295
  rotate_left
  · have q := dec_n h1
    clear h1
    go_wp2
    go_ret2
    exact ⟨_, _, rfl, ⟨fun _ => ⟨Int.le_refl _, by simp⟩, fun h0 => absurd h0 (by simp)⟩, fun b off hh => by cases hh; simp, B0.out.alloc (by simp) _⟩
  have q1 := dec_y h1
  have K2 : Hid (0 ≤ dst ∧ dst ≤ 4294967295) := h1
  clear h1
  have hl : ¬ ((0 ≤ sp ∧ sp ≤ 65535) ∧ (0 ≤ dp ∧ dp ≤ 65535) ∧ (0 ≤ sq ∧ sq ≤ 4294967295) ∧ (0 ≤ ak ∧ ak ≤ 4294967295) ∧ (0 ≤ fl ∧ fl ≤ 31) ∧ (0 ≤ wn ∧ wn ≤ 65535) ∧ (data.size ≤ 360)) := fun hh => H.out ⟨K1.out, K2.out, hh⟩
  have ql := dec_n hl
  clear hl
  go_wp2_with fail
  refine (l02Segment_any sp dp sq ak fl wn data _ xsp xdp xsq xak xfl xwn xdata).mono ?_
  rintro e w1 ⟨rfl, b1, z1⟩
  simp only [World.size_alloc] at z1
  have X1 : Hid (Below w.heap.size w w1) := B0.out.trans (b1.mono (by simp))
  clear b1
  go_wp2
  go_ret2
  exact ⟨_, _, rfl, ⟨fun _ => ⟨Int.le_refl _, by simp⟩, fun h0 => absurd h0 (by simp)⟩, fun b off hh => by cases hh; simp, X1.out.alloc (by omega) _⟩

set_option maxHeartbeats 4000000 in
theorem specDatagramBytes_yes (src : Int) (dst : Int) (sp : Int) (dp : Int) (data : ByteArray) (w : World) (xsp : sp ≤ 9223372036854775807) (xdp : dp ≤ 9223372036854775807) (xdata : data.size ≤ 1048576) (h : ((0 ≤ src ∧ src ≤ 4294967295) ∧ (0 ≤ dst ∧ dst ≤ 4294967295) ∧ (0 ≤ sp ∧ sp ≤ 65535) ∧ (0 ≤ dp ∧ dp ≤ 65535) ∧ (data.size ≤ 372))) :
    SpecL 14 #[.int .i64 src, .int .i64 dst, .agg #[.int .i64 sp, .int .i64 dp, .string data]] w (dgL src dst sp dp data) 0 := by
  have K0 : Hid (Boxed (w.alloc (.cells #[.int .i64 sp, .int .i64 dp, .string data] 33)) w.heap.size [.int .i64 sp, .int .i64 dp, .string data]) := Boxed.new w _ _
  have B0 : Hid (Below w.heap.size w (w.alloc (.cells #[.int .i64 sp, .int .i64 dp, .string data] 33))) := (Below.refl _ _).alloc (Nat.le_refl _) _
  have H : Hid (((0 ≤ src ∧ src ≤ 4294967295) ∧ (0 ≤ dst ∧ dst ≤ 4294967295) ∧ (0 ≤ sp ∧ sp ≤ 65535) ∧ (0 ≤ dp ∧ dp ≤ 65535) ∧ (data.size ≤ 372))) := h
  clear h
  unfold SpecL
  go_enter Try.func14, Try.ntmps14
  have q0 := dec_y (H.out.1)
  go_wp2_with fail
  refine (specIp_any _ _).mono ?_
  rintro e w1 ⟨rfl, hw1⟩
  obtain rfl := hw1.symm
  clear hw1
  have q1 := dec_y (H.out.2.1)
  go_wp2_with fail
  refine (specIp_any _ _).mono ?_
  rintro e w1 ⟨rfl, hw1⟩
  obtain rfl := hw1.symm
  clear hw1
  have q2 := dec_y (H.out.2.2.1)
  go_wp2_with fail
  refine (specPort_any _ _).mono ?_
  rintro e w1 ⟨rfl, hw1⟩
  obtain rfl := hw1.symm
  clear hw1
  have q3 := dec_y (H.out.2.2.2.1)
  go_wp2_with fail
  refine (specPort_any _ _).mono ?_
  rintro e w1 ⟨rfl, hw1⟩
  obtain rfl := hw1.symm
  clear hw1
  have q4 := dec_y (H.out.2.2.2.2)
  have q4_ := H.out.2.2.2.2
  have X1 : Hid (Boxed (w.alloc (.cells #[.int .i64 sp, .int .i64 dp, .string data] 33)) w.heap.size [.int .i64 sp, .int .i64 dp, .string data] ∧ Below w.heap.size w (w.alloc (.cells #[.int .i64 sp, .int .i64 dp, .string data] 33))) := ⟨K0.out, B0.out⟩
  have k0 := X1.out.1.at 0 _ rfl
  have k1 := X1.out.1.at 1 _ rfl
  have k2 := X1.out.1.at 2 _ rfl
  go_wp2_with fail
  refine (l02DatagramBytes_any src dst sp dp data _ H.out.1.1 H.out.1.2 H.out.2.1.1 H.out.2.1.2 H.out.2.2.1.1 H.out.2.2.1.2 H.out.2.2.2.1.1 H.out.2.2.2.1.2 H.out.2.2.2.2).mono ?_
  rintro e w2 ⟨⟨t, rfl, ht⟩, b2⟩
  obtain ⟨cap, w3, hconv, c1, c2, c3⟩ := conv_spec t w2
  rw [ht] at hconv c3
  have z2 := b2.size
  simp only [World.size_alloc] at z2
  have X3 : Hid (Below w.heap.size w w3 ∧ w2.heap.size < w3.heap.size ∧ Bytes w3 (some ⟨w2.heap.size, 0, none⟩) (dgL src dst sp dp data).length (fun j => (dgL src dst sp dp data).getD j 0)) :=
    ⟨(X1.out.2.trans (b2.mono (by first | omega | simp))).trans (c1.mono (by omega)), c2, c3⟩
  clear b2 c1 c2 c3 ht k0 k1 k2
  go_wp2
  go_ret2
  exact ⟨_, cap, rfl, X3.out.2.2, fun b off hh => by cases hh; exact X3.out.2.1, X3.out.1⟩

set_option maxHeartbeats 4000000 in
theorem specDatagramBytes_no (src : Int) (dst : Int) (sp : Int) (dp : Int) (data : ByteArray) (w : World) (xsp : sp ≤ 9223372036854775807) (xdp : dp ≤ 9223372036854775807) (xdata : data.size ≤ 1048576) (h : ¬ ((0 ≤ src ∧ src ≤ 4294967295) ∧ (0 ≤ dst ∧ dst ≤ 4294967295) ∧ (0 ≤ sp ∧ sp ≤ 65535) ∧ (0 ≤ dp ∧ dp ≤ 65535) ∧ (data.size ≤ 372))) :
    SpecL 14 #[.int .i64 src, .int .i64 dst, .agg #[.int .i64 sp, .int .i64 dp, .string data]] w [] 1 := by
  have K0 : Hid (Boxed (w.alloc (.cells #[.int .i64 sp, .int .i64 dp, .string data] 33)) w.heap.size [.int .i64 sp, .int .i64 dp, .string data]) := Boxed.new w _ _
  have B0 : Hid (Below w.heap.size w (w.alloc (.cells #[.int .i64 sp, .int .i64 dp, .string data] 33))) := (Below.refl _ _).alloc (Nat.le_refl _) _
  have H : Hid (¬ ((0 ≤ src ∧ src ≤ 4294967295) ∧ (0 ≤ dst ∧ dst ≤ 4294967295) ∧ (0 ≤ sp ∧ sp ≤ 65535) ∧ (0 ≤ dp ∧ dp ≤ 65535) ∧ (data.size ≤ 372))) := h
  clear h
  unfold SpecL
  go_enter Try.func14, Try.ntmps14
  go_wp2_with fail
  refine (specIp_any _ _).mono ?_
  rintro e w1 ⟨rfl, hw1⟩
  obtain rfl := hw1.symm
  clear hw1
  by_cases h0 : 0 ≤ src ∧ src ≤ 4294967295
  rotate_left
  · have q := dec_n h0
    clear h0
    go_wp2
    go_ret2
    exact ⟨_, _, rfl, ⟨fun _ => ⟨Int.le_refl _, by simp⟩, fun h0 => absurd h0 (by simp)⟩, fun b off hh => by cases hh; simp, B0.out.alloc (by simp) _⟩
  have q0 := dec_y h0
  have K1 : Hid (0 ≤ src ∧ src ≤ 4294967295) := h0
  clear h0
  go_wp2_with fail
  refine (specIp_any _ _).mono ?_
  rintro e w1 ⟨rfl, hw1⟩
  obtain rfl := hw1.symm
  clear hw1
  by_cases h1 : 0 ≤ dst ∧ dst ≤ 4294967295
  rotate_left
  · have q := dec_n h1
    clear h1
    go_wp2
    go_ret2
    exact ⟨_, _, rfl, ⟨fun _ => ⟨Int.le_refl _, by simp⟩, fun h0 => absurd h0 (by simp)⟩, fun b off hh => by cases hh; simp, B0.out.alloc (by simp) _⟩
  have q1 := dec_y h1
  have K2 : Hid (0 ≤ dst ∧ dst ≤ 4294967295) := h1
  clear h1
  go_wp2_with fail
  refine (specPort_any _ _).mono ?_
  rintro e w1 ⟨rfl, hw1⟩
  obtain rfl := hw1.symm
  clear hw1
  by_cases h2 : 0 ≤ sp ∧ sp ≤ 65535
  rotate_left
  · have q := dec_n h2
    clear h2
    go_wp2
    go_ret2
    exact ⟨_, _, rfl, ⟨fun _ => ⟨Int.le_refl _, by simp⟩, fun h0 => absurd h0 (by simp)⟩, fun b off hh => by cases hh; simp, B0.out.alloc (by simp) _⟩
  have q2 := dec_y h2
  have K3 : Hid (0 ≤ sp ∧ sp ≤ 65535) := h2
  clear h2
  go_wp2_with fail
  refine (specPort_any _ _).mono ?_
  rintro e w1 ⟨rfl, hw1⟩
  obtain rfl := hw1.symm
  clear hw1
  by_cases h3 : 0 ≤ dp ∧ dp ≤ 65535
  rotate_left
  · have q := dec_n h3
    clear h3
    go_wp2
    go_ret2
    exact ⟨_, _, rfl, ⟨fun _ => ⟨Int.le_refl _, by simp⟩, fun h0 => absurd h0 (by simp)⟩, fun b off hh => by cases hh; simp, B0.out.alloc (by simp) _⟩
  have q3 := dec_y h3
  have K4 : Hid (0 ≤ dp ∧ dp ≤ 65535) := h3
  clear h3
  have hl : ¬ (data.size ≤ 372) := fun hh => H.out ⟨K1.out, K2.out, K3.out, K4.out, hh⟩
  have hl2 : 372 < data.size := by omega
  clear hl
  go_wp2
  go_ret2
  exact ⟨_, _, rfl, ⟨fun _ => ⟨Int.le_refl _, by simp⟩, fun h0 => absurd h0 (by simp)⟩, fun b off hh => by cases hh; simp, B0.out.alloc (by simp) _⟩
end Go.Proofs.Ytfcdobicilediaa
