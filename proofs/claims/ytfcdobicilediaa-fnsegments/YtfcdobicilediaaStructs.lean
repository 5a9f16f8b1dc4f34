/- The tests of structs, of both sides. -/
import Derived.Test.YtfcdobicilediaaTests
import Derived.Test.YtfcdobicilediaaApp
import Derived.Test.YtfcdobicilediaaFrameB
import Derived.Test.YtfcdobicilediaaSpecFrame
namespace Go.Proofs.Ytfcdobicilediaa
open Go.RowKit Go.PlainAid
set_option linter.unusedVariables false
set_option maxRecDepth 20000
set_option maxHeartbeats 2000000 in
theorem segmentOK_any (sp : Int) (dp : Int) (sq : Int) (ak : Int) (fl : Int) (wn : Int) (data : ByteArray) (w : World) (xsp : sp ≤ 9223372036854775807) (xdp : dp ≤ 9223372036854775807) (xsq : sq ≤ 9223372036854775807) (xak : ak ≤ 9223372036854775807) (xfl : fl ≤ 9223372036854775807) (xwn : wn ≤ 9223372036854775807) (xdata : data.size ≤ 1048576) :
    Calls Try.prog 38 #[.agg #[.int .i64 sp, .int .i64 dp, .int .i64 sq, .int .i64 ak, .int .i64 fl, .int .i64 wn, .string data]] w fun e w' => e = .returned (.bool (dec ((0 ≤ sp ∧ sp ≤ 65535) ∧ (0 ≤ dp ∧ dp ≤ 65535) ∧ (0 ≤ sq ∧ sq ≤ 4294967295) ∧ (0 ≤ ak ∧ ak ≤ 4294967295) ∧ (0 ≤ fl ∧ fl ≤ 31) ∧ (0 ≤ wn ∧ wn ≤ 65535) ∧ (data.size ≤ 360)))) ∧ Below w.heap.size w w' ∧ w.heap.size < w'.heap.size := by
  have B0 : Hid (Below w.heap.size w (w.alloc (.cells #[.int .i64 sp, .int .i64 dp, .int .i64 sq, .int .i64 ak, .int .i64 fl, .int .i64 wn, .string data] 24))) := (Below.refl _ _).alloc (Nat.le_refl _) _
  go_enter Try.func38, Try.ntmps38
  go_wp2_with fail
  refine (portOK_any _ _ xsp).mono ?_
  rintro e w1 ⟨rfl, hw1⟩
  obtain rfl := hw1.symm
  clear hw1
  by_cases h0 : 0 ≤ sp ∧ sp ≤ 65535
  rotate_left
  · have b0 := dec_n h0
    have H0 : Hid (¬ (0 ≤ sp ∧ sp ≤ 65535)) := h0
    clear h0
    go_wp2
    go_ret
    exact ⟨by rw [dec_n (fun h => H0.out h.1)]; rfl, B0.out, by simp⟩
  have b0 := dec_y h0
  have H0 : Hid (0 ≤ sp ∧ sp ≤ 65535) := h0
  clear h0
  go_wp2_with fail
  refine (portOK_any _ _ xdp).mono ?_
  rintro e w1 ⟨rfl, hw1⟩
  obtain rfl := hw1.symm
  clear hw1
  by_cases h1 : 0 ≤ dp ∧ dp ≤ 65535
  rotate_left
  · have b1 := dec_n h1
    have H1 : Hid (¬ (0 ≤ dp ∧ dp ≤ 65535)) := h1
    clear h1
    go_wp2
    go_ret
    exact ⟨by rw [dec_n (fun h => H1.out h.2.1)]; rfl, B0.out, by simp⟩
  have b1 := dec_y h1
  have H1 : Hid (0 ≤ dp ∧ dp ≤ 65535) := h1
  clear h1
  go_wp2_with fail
  refine (hasRoom4 _ _ xsq).mono ?_
  rintro e w1 ⟨rfl, hw1⟩
  obtain rfl := hw1.symm
  clear hw1
  by_cases h2 : 0 ≤ sq ∧ sq ≤ 4294967295
  rotate_left
  · have b2 := dec_n h2
    have H2 : Hid (¬ (0 ≤ sq ∧ sq ≤ 4294967295)) := h2
    clear h2
    go_wp2
    go_ret
    exact ⟨by rw [dec_n (fun h => H2.out h.2.2.1)]; rfl, B0.out, by simp⟩
  have b2 := dec_y h2
  have H2 : Hid (0 ≤ sq ∧ sq ≤ 4294967295) := h2
  clear h2
  go_wp2_with fail
  refine (hasRoom4 _ _ xak).mono ?_
  rintro e w1 ⟨rfl, hw1⟩
  obtain rfl := hw1.symm
  clear hw1
  by_cases h3 : 0 ≤ ak ∧ ak ≤ 4294967295
  rotate_left
  · have b3 := dec_n h3
    have H3 : Hid (¬ (0 ≤ ak ∧ ak ≤ 4294967295)) := h3
    clear h3
    go_wp2
    go_ret
    exact ⟨by rw [dec_n (fun h => H3.out h.2.2.2.1)]; rfl, B0.out, by simp⟩
  have b3 := dec_y h3
  have H3 : Hid (0 ≤ ak ∧ ak ≤ 4294967295) := h3
  clear h3
  go_wp2_with fail
  refine (flagsOK_any _ _).mono ?_
  rintro e w1 ⟨rfl, hw1⟩
  obtain rfl := hw1.symm
  clear hw1
  by_cases h4 : 0 ≤ fl ∧ fl ≤ 31
  rotate_left
  · have b4 := dec_n h4
    have H4 : Hid (¬ (0 ≤ fl ∧ fl ≤ 31)) := h4
    clear h4
    go_wp2
    go_ret
    exact ⟨by rw [dec_n (fun h => H4.out h.2.2.2.2.1)]; rfl, B0.out, by simp⟩
  have b4 := dec_y h4
  have H4 : Hid (0 ≤ fl ∧ fl ≤ 31) := h4
  clear h4
  go_wp2_with fail
  refine (hasRoom2 _ _ xwn).mono ?_
  rintro e w1 ⟨rfl, hw1⟩
  obtain rfl := hw1.symm
  clear hw1
  by_cases h5 : 0 ≤ wn ∧ wn ≤ 65535
  rotate_left
  · have b5 := dec_n h5
    have H5 : Hid (¬ (0 ≤ wn ∧ wn ≤ 65535)) := h5
    clear h5
    go_wp2
    go_ret
    exact ⟨by rw [dec_n (fun h => H5.out h.2.2.2.2.2.1)]; rfl, B0.out, by simp⟩
  have b5 := dec_y h5
  have H5 : Hid (0 ≤ wn ∧ wn ≤ 65535) := h5
  clear h5
  by_cases h6 : data.size ≤ 360
  rotate_left
  · go_wp2
    go_ret
    exact ⟨congrArg (fun b => Ending.returned (.bool b)) (by rw [dec_n (fun h => h6 h.2.2.2.2.2.2)]; simp; omega), B0.out, by simp⟩
  go_wp2
  go_ret
  exact ⟨congrArg (fun b => Ending.returned (.bool b)) (by rw [dec_y ⟨H0.out, H1.out, H2.out, H3.out, H4.out, H5.out, h6⟩]; simp; omega), B0.out, by simp⟩

set_option maxHeartbeats 2000000 in
theorem l02Segment_any (sp : Int) (dp : Int) (sq : Int) (ak : Int) (fl : Int) (wn : Int) (data : ByteArray) (w : World) (xsp : sp ≤ 9223372036854775807) (xdp : dp ≤ 9223372036854775807) (xsq : sq ≤ 9223372036854775807) (xak : ak ≤ 9223372036854775807) (xfl : fl ≤ 9223372036854775807) (xwn : wn ≤ 9223372036854775807) (xdata : data.size ≤ 1048576) :
    Calls Try.prog 43 #[.agg #[.int .i64 sp, .int .i64 dp, .int .i64 sq, .int .i64 ak, .int .i64 fl, .int .i64 wn, .string data]] w fun e w' => e = .returned (.bool (dec ((0 ≤ sp ∧ sp ≤ 65535) ∧ (0 ≤ dp ∧ dp ≤ 65535) ∧ (0 ≤ sq ∧ sq ≤ 4294967295) ∧ (0 ≤ ak ∧ ak ≤ 4294967295) ∧ (0 ≤ fl ∧ fl ≤ 31) ∧ (0 ≤ wn ∧ wn ≤ 65535) ∧ (data.size ≤ 360)))) ∧ Below w.heap.size w w' ∧ w.heap.size < w'.heap.size := by
  have B0 : Hid (Below w.heap.size w (w.alloc (.cells #[.int .i64 sp, .int .i64 dp, .int .i64 sq, .int .i64 ak, .int .i64 fl, .int .i64 wn, .string data] 24))) := (Below.refl _ _).alloc (Nat.le_refl _) _
  go_enter Try.func43, Try.ntmps43
  go_wp2_with fail
  refine (specPort_any _ _).mono ?_
  rintro e w1 ⟨rfl, hw1⟩
  obtain rfl := hw1.symm
  clear hw1
  by_cases h0 : 0 ≤ sp ∧ sp ≤ 65535
  rotate_left
  · have b0 := dec_n h0
    have H0 : Hid (¬ (0 ≤ sp ∧ sp ≤ 65535)) := h0
    clear h0
    go_wp2
    go_ret
    exact ⟨by rw [dec_n (fun h => H0.out h.1)]; rfl, B0.out, by simp⟩
  have b0 := dec_y h0
  have H0 : Hid (0 ≤ sp ∧ sp ≤ 65535) := h0
  clear h0
  go_wp2_with fail
  refine (specPort_any _ _).mono ?_
  rintro e w1 ⟨rfl, hw1⟩
  obtain rfl := hw1.symm
  clear hw1
  by_cases h1 : 0 ≤ dp ∧ dp ≤ 65535
  rotate_left
  · have b1 := dec_n h1
    have H1 : Hid (¬ (0 ≤ dp ∧ dp ≤ 65535)) := h1
    clear h1
    go_wp2
    go_ret
    exact ⟨by rw [dec_n (fun h => H1.out h.2.1)]; rfl, B0.out, by simp⟩
  have b1 := dec_y h1
  have H1 : Hid (0 ≤ dp ∧ dp ≤ 65535) := h1
  clear h1
  go_wp2_with fail
  refine (specIp_any _ _).mono ?_
  rintro e w1 ⟨rfl, hw1⟩
  obtain rfl := hw1.symm
  clear hw1
  by_cases h2 : 0 ≤ sq ∧ sq ≤ 4294967295
  rotate_left
  · have b2 := dec_n h2
    have H2 : Hid (¬ (0 ≤ sq ∧ sq ≤ 4294967295)) := h2
    clear h2
    go_wp2
    go_ret
    exact ⟨by rw [dec_n (fun h => H2.out h.2.2.1)]; rfl, B0.out, by simp⟩
  have b2 := dec_y h2
  have H2 : Hid (0 ≤ sq ∧ sq ≤ 4294967295) := h2
  clear h2
  go_wp2_with fail
  refine (specIp_any _ _).mono ?_
  rintro e w1 ⟨rfl, hw1⟩
  obtain rfl := hw1.symm
  clear hw1
  by_cases h3 : 0 ≤ ak ∧ ak ≤ 4294967295
  rotate_left
  · have b3 := dec_n h3
    have H3 : Hid (¬ (0 ≤ ak ∧ ak ≤ 4294967295)) := h3
    clear h3
    go_wp2
    go_ret
    exact ⟨by rw [dec_n (fun h => H3.out h.2.2.2.1)]; rfl, B0.out, by simp⟩
  have b3 := dec_y h3
  have H3 : Hid (0 ≤ ak ∧ ak ≤ 4294967295) := h3
  clear h3
  go_wp2_with fail
  refine (specIn_any _ _ _ _).mono ?_
  rintro e w1 ⟨rfl, hw1⟩
  obtain rfl := hw1.symm
  clear hw1
  by_cases h4 : 0 ≤ fl ∧ fl ≤ 31
  rotate_left
  · have b4 := dec_n h4
    have H4 : Hid (¬ (0 ≤ fl ∧ fl ≤ 31)) := h4
    clear h4
    go_wp2
    go_ret
    exact ⟨by rw [dec_n (fun h => H4.out h.2.2.2.2.1)]; rfl, B0.out, by simp⟩
  have b4 := dec_y h4
  have H4 : Hid (0 ≤ fl ∧ fl ≤ 31) := h4
  clear h4
  go_wp2_with fail
  refine (specPort_any _ _).mono ?_
  rintro e w1 ⟨rfl, hw1⟩
  obtain rfl := hw1.symm
  clear hw1
  by_cases h5 : 0 ≤ wn ∧ wn ≤ 65535
  rotate_left
  · have b5 := dec_n h5
    have H5 : Hid (¬ (0 ≤ wn ∧ wn ≤ 65535)) := h5
    clear h5
    go_wp2
    go_ret
    exact ⟨by rw [dec_n (fun h => H5.out h.2.2.2.2.2.1)]; rfl, B0.out, by simp⟩
  have b5 := dec_y h5
  have H5 : Hid (0 ≤ wn ∧ wn ≤ 65535) := h5
  clear h5
  by_cases h6 : data.size ≤ 360
  rotate_left
  · go_wp2
    go_ret
    exact ⟨congrArg (fun b => Ending.returned (.bool b)) (by rw [dec_n (fun h => h6 h.2.2.2.2.2.2)]; simp; omega), B0.out, by simp⟩
  go_wp2
  go_ret
  exact ⟨congrArg (fun b => Ending.returned (.bool b)) (by rw [dec_y ⟨H0.out, H1.out, H2.out, H3.out, H4.out, H5.out, h6⟩]; simp; omega), B0.out, by simp⟩

set_option maxHeartbeats 2000000 in
theorem datagramOK_any (sp : Int) (dp : Int) (data : ByteArray) (w : World) (xsp : sp ≤ 9223372036854775807) (xdp : dp ≤ 9223372036854775807) (xdata : data.size ≤ 1048576) :
    Calls Try.prog 47 #[.agg #[.int .i64 sp, .int .i64 dp, .string data]] w fun e w' => e = .returned (.bool (dec ((0 ≤ sp ∧ sp ≤ 65535) ∧ (0 ≤ dp ∧ dp ≤ 65535) ∧ (data.size ≤ 372)))) ∧ Below w.heap.size w w' ∧ w.heap.size < w'.heap.size := by
  have B0 : Hid (Below w.heap.size w (w.alloc (.cells #[.int .i64 sp, .int .i64 dp, .string data] 33))) := (Below.refl _ _).alloc (Nat.le_refl _) _
  go_enter Try.func47, Try.ntmps47
  go_wp2_with fail
  refine (portOK_any _ _ xsp).mono ?_
  rintro e w1 ⟨rfl, hw1⟩
  obtain rfl := hw1.symm
  clear hw1
  by_cases h0 : 0 ≤ sp ∧ sp ≤ 65535
  rotate_left
  · have b0 := dec_n h0
    have H0 : Hid (¬ (0 ≤ sp ∧ sp ≤ 65535)) := h0
    clear h0
    go_wp2
    go_ret
    exact ⟨by rw [dec_n (fun h => H0.out h.1)]; rfl, B0.out, by simp⟩
  have b0 := dec_y h0
  have H0 : Hid (0 ≤ sp ∧ sp ≤ 65535) := h0
  clear h0
  go_wp2_with fail
  refine (portOK_any _ _ xdp).mono ?_
  rintro e w1 ⟨rfl, hw1⟩
  obtain rfl := hw1.symm
  clear hw1
  by_cases h1 : 0 ≤ dp ∧ dp ≤ 65535
  rotate_left
  · have b1 := dec_n h1
    have H1 : Hid (¬ (0 ≤ dp ∧ dp ≤ 65535)) := h1
    clear h1
    go_wp2
    go_ret
    exact ⟨by rw [dec_n (fun h => H1.out h.2.1)]; rfl, B0.out, by simp⟩
  have b1 := dec_y h1
  have H1 : Hid (0 ≤ dp ∧ dp ≤ 65535) := h1
  clear h1
  by_cases h2 : data.size ≤ 372
  rotate_left
  · go_wp2
    go_ret
    exact ⟨congrArg (fun b => Ending.returned (.bool b)) (by rw [dec_n (fun h => h2 h.2.2)]; simp; omega), B0.out, by simp⟩
  go_wp2
  go_ret
  exact ⟨congrArg (fun b => Ending.returned (.bool b)) (by rw [dec_y ⟨H0.out, H1.out, h2⟩]; simp; omega), B0.out, by simp⟩

end Go.Proofs.Ytfcdobicilediaa
