/- The model: DhcpBytes; both sides. -/
import Derived.Test.YtdhjbbnggeamhacSpecFrame
import Derived.Test.YtdhjbbnggeamhacDhcpB
import Derived.Test.YtdhjbbnggeamhacWriterAid
import Derived.Deep.RegionHeld3
namespace Go.Proofs.Ytdhjbbnggeamhac
open Go.RowKit Go.PlainAid
set_option linter.unusedVariables false
set_option maxRecDepth 20000

theorem nblOne (n : Int) (h0 : 0 ≤ n) (h1 : n ≤ 255) : nbl n 1 = [n] := by
  have : nb n 1 0 = n := by unfold nb; simp; omega
  simp [nbl, List.range_succ, this]
theorem dspecIn (n lo hi : Int) (w : World) : Calls Try.prog 16 #[.int .i64 n, .int .i64 lo, .int .i64 hi] w fun e w' => e = .returned (.bool (dec (lo ≤ n ∧ n ≤ hi))) ∧ w' = w := l01In_any n lo hi w
theorem dmac_any (s : ByteArray) (w : World) (hx : s.size ≤ 9223372036854775807) : Calls Try.prog 23 #[.string s] w fun e w' => e = .returned (.bool (dec (s.size = 6))) ∧ w' = w := l01Mac_any s w hx
set_option maxHeartbeats 2000000 in
theorem l03Dhcp_any (xid : Int) (yours : Int) (kind : Int) (rep : Bool) (mac : ByteArray) (w : World) (xxid : xid ≤ 9223372036854775807) (xyours : yours ≤ 9223372036854775807) (xkind : kind ≤ 9223372036854775807) (xmac : mac.size ≤ 1048576) :
    Calls Try.prog 18 #[.agg #[.int .i64 xid, .int .i64 yours, .int .i64 kind, .bool rep, .string mac]] w fun e w' => e = .returned (.bool (dec ((0 ≤ xid ∧ xid ≤ 4294967295) ∧ (0 ≤ yours ∧ yours ≤ 4294967295) ∧ (1 ≤ kind ∧ kind ≤ 8) ∧ (mac.size = 6)))) ∧ Below w.heap.size w w' ∧ w.heap.size < w'.heap.size := by
  have B0 : Hid (Below w.heap.size w (w.alloc (.cells #[.int .i64 xid, .int .i64 yours, .int .i64 kind, .bool rep, .string mac] 24))) := (Below.refl _ _).alloc (Nat.le_refl _) _
  go_enter Try.func18, Try.ntmps18
  go_wp2_with fail
  refine (specIp_any _ _).mono ?_
  rintro e w1 ⟨rfl, hw1⟩
  obtain rfl := hw1.symm
  clear hw1
  by_cases h0 : 0 ≤ xid ∧ xid ≤ 4294967295
  rotate_left
  · have b0 := dec_n h0
    have H0 : Hid (¬ (0 ≤ xid ∧ xid ≤ 4294967295)) := h0
    clear h0
    go_wp2
    go_ret
    exact ⟨by rw [dec_n (fun h => H0.out h.1)]; rfl, B0.out, by simp⟩
  have b0 := dec_y h0
  have H0 : Hid (0 ≤ xid ∧ xid ≤ 4294967295) := h0
  clear h0
  go_wp2_with fail
  refine (specIp_any _ _).mono ?_
  rintro e w1 ⟨rfl, hw1⟩
  obtain rfl := hw1.symm
  clear hw1
  by_cases h1 : 0 ≤ yours ∧ yours ≤ 4294967295
  rotate_left
  · have b1 := dec_n h1
    have H1 : Hid (¬ (0 ≤ yours ∧ yours ≤ 4294967295)) := h1
    clear h1
    go_wp2
    go_ret
    exact ⟨by rw [dec_n (fun h => H1.out h.2.1)]; rfl, B0.out, by simp⟩
  have b1 := dec_y h1
  have H1 : Hid (0 ≤ yours ∧ yours ≤ 4294967295) := h1
  clear h1
  go_wp2_with fail
  refine (dspecIn _ _ _ _).mono ?_
  rintro e w1 ⟨rfl, hw1⟩
  obtain rfl := hw1.symm
  clear hw1
  by_cases h2 : 1 ≤ kind ∧ kind ≤ 8
  rotate_left
  · have b2 := dec_n h2
    have H2 : Hid (¬ (1 ≤ kind ∧ kind ≤ 8)) := h2
    clear h2
    go_wp2
    go_ret
    exact ⟨by rw [dec_n (fun h => H2.out h.2.2.1)]; rfl, B0.out, by simp⟩
  have b2 := dec_y h2
  have H2 : Hid (1 ≤ kind ∧ kind ≤ 8) := h2
  clear h2
  go_wp2_with fail
  refine (dmac_any _ _ (by omega)).mono ?_
  rintro e w1 ⟨rfl, hw1⟩
  obtain rfl := hw1.symm
  clear hw1
  by_cases h3 : mac.size = 6
  rotate_left
  · have b3 := dec_n h3
    have H3 : Hid (¬ (mac.size = 6)) := h3
    clear h3
    go_wp2
    go_ret
    exact ⟨by rw [dec_n (fun h => H3.out h.2.2.2)]; rfl, B0.out, by simp⟩
  have b3 := dec_y h3
  have H3 : Hid (mac.size = 6) := h3
  clear h3
  go_wp2
  go_ret
  exact ⟨by rw [dec_y ⟨H0.out, H1.out, H2.out, H3.out⟩]; rfl, B0.out, by simp⟩


end Go.Proofs.Ytdhjbbnggeamhac
