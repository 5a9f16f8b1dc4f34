/- The model: DhcpBytes; both sides. -/
import Derived.Test.YtcgdpijmfgkalabSpecFrame
import Derived.Test.YtcgdpijmfgkalabDhcpB
import Derived.Test.YtcgdpijmfgkalabWriterAid
import Derived.Deep.RegionHeld3
namespace Go.Proofs.Ytcgdpijmfgkalab
open Go.RowKit Go.PlainAid
set_option linter.unusedVariables false
set_option maxRecDepth 20000

theorem l01Bit_any (b : Bool) (w : World) : Calls Try.prog 84 #[.bool b] w fun e w' => e = .returned (.int .i64 (if b then 1 else 0)) ∧ w' = w := by
  cases b
  all_goals
    go_enter Try.func84, Try.ntmps84
    go_wp2
    go_ret
    exact ⟨rfl, rfl⟩
theorem nblOne (n : Int) (h0 : 0 ≤ n) (h1 : n ≤ 255) : nbl n 1 = [n] := by
  have : nb n 1 0 = n := by unfold nb; simp; omega
  simp [nbl, List.range_succ, this]
theorem dspecIn (n lo hi : Int) (w : World) : Calls Try.prog 61 #[.int .i64 n, .int .i64 lo, .int .i64 hi] w fun e w' => e = .returned (.bool (dec (lo ≤ n ∧ n ≤ hi))) ∧ w' = w := l01In_any n lo hi w
theorem dmac_any (s : ByteArray) (w : World) (hx : s.size ≤ 9223372036854775807) : Calls Try.prog 70 #[.string s] w fun e w' => e = .returned (.bool (dec (s.size = 6))) ∧ w' = w := l01Mac_any s w hx
set_option maxHeartbeats 2000000 in
theorem l03Dhcp_any (xid : Int) (yours : Int) (kind : Int) (rep : Bool) (mac : ByteArray) (w : World) (xxid : xid ≤ 9223372036854775807) (xyours : yours ≤ 9223372036854775807) (xkind : kind ≤ 9223372036854775807) (xmac : mac.size ≤ 1048576) :
    Calls Try.prog 38 #[.agg #[.int .i64 xid, .int .i64 yours, .int .i64 kind, .bool rep, .string mac]] w fun e w' => e = .returned (.bool (dec ((0 ≤ xid ∧ xid ≤ 4294967295) ∧ (0 ≤ yours ∧ yours ≤ 4294967295) ∧ (1 ≤ kind ∧ kind ≤ 8) ∧ (mac.size = 6)))) ∧ Below w.heap.size w w' ∧ w.heap.size < w'.heap.size := by
  have B0 : Hid (Below w.heap.size w (w.alloc (.cells #[.int .i64 xid, .int .i64 yours, .int .i64 kind, .bool rep, .string mac] 28))) := (Below.refl _ _).alloc (Nat.le_refl _) _
  go_enter Try.func38, Try.ntmps38
  go_wp2_with fail
  refine (specIp_any _ _).mono ?_
  rintro e w1 ⟨rfl, hw1⟩
  obtain rfl := hw1.symm
  clear hw1
  by_cases h0 : 0 ≤ xid ∧ xid ≤ 4294967295
  rotate_left
  · have b0 := dec_n h0
    have H0 : Hid (¬ (0 ≤ xid ∧ xid ≤ 4294967295)) := h0
    clear h0
    go_wp2
    go_ret
    exact ⟨by rw [dec_n (fun h => H0.out h.1)]; rfl, B0.out, by simp⟩
  have b0 := dec_y h0
  have H0 : Hid (0 ≤ xid ∧ xid ≤ 4294967295) := h0
  clear h0
  go_wp2_with fail
  refine (specIp_any _ _).mono ?_
  rintro e w1 ⟨rfl, hw1⟩
  obtain rfl := hw1.symm
  clear hw1
  by_cases h1 : 0 ≤ yours ∧ yours ≤ 4294967295
  rotate_left
  · have b1 := dec_n h1
    have H1 : Hid (¬ (0 ≤ yours ∧ yours ≤ 4294967295)) := h1
    clear h1
    go_wp2
    go_ret
    exact ⟨by rw [dec_n (fun h => H1.out h.2.1)]; rfl, B0.out, by simp⟩
  have b1 := dec_y h1
  have H1 : Hid (0 ≤ yours ∧ yours ≤ 4294967295) := h1
  clear h1
  go_wp2_with fail
  refine (dspecIn _ _ _ _).mono ?_
  rintro e w1 ⟨rfl, hw1⟩
  obtain rfl := hw1.symm
  clear hw1
  by_cases h2 : 1 ≤ kind ∧ kind ≤ 8
  rotate_left
  · have b2 := dec_n h2
    have H2 : Hid (¬ (1 ≤ kind ∧ kind ≤ 8)) := h2
    clear h2
    go_wp2
    go_ret
    exact ⟨by rw [dec_n (fun h => H2.out h.2.2.1)]; rfl, B0.out, by simp⟩
  have b2 := dec_y h2
  have H2 : Hid (1 ≤ kind ∧ kind ≤ 8) := h2
  clear h2
  go_wp2_with fail
  refine (dmac_any _ _ (by omega)).mono ?_
  rintro e w1 ⟨rfl, hw1⟩
  obtain rfl := hw1.symm
  clear hw1
  by_cases h3 : mac.size = 6
  rotate_left
  · have b3 := dec_n h3
    have H3 : Hid (¬ (mac.size = 6)) := h3
    clear h3
    go_wp2
    go_ret
    exact ⟨by rw [dec_n (fun h => H3.out h.2.2.2)]; rfl, B0.out, by simp⟩
  have b3 := dec_y h3
  have H3 : Hid (mac.size = 6) := h3
  clear h3
  go_wp2
  go_ret
  exact ⟨by rw [dec_y ⟨H0.out, H1.out, H2.out, H3.out⟩]; rfl, B0.out, by simp⟩


set_option maxHeartbeats 8000000 in
theorem l03DhcpBytes_any (xid : Int) (yours : Int) (kind : Int) (rep : Bool) (mac : ByteArray) (w : World) (h1 : 0 ≤ xid) (h2 : xid ≤ 4294967295) (h3 : 0 ≤ yours) (h4 : yours ≤ 4294967295) (h5 : 1 ≤ kind) (h6 : kind ≤ 8) (hm : mac.size = 6) :
    Calls Try.prog 39 #[.agg #[.int .i64 xid, .int .i64 yours, .int .i64 kind, .bool rep, .string mac]] w fun e w' => (∃ t, e = .returned (.string t) ∧ nums t = dhcpL xid yours kind rep mac) ∧ Below w.heap.size w w' := by
  obtain ⟨op, hop⟩ : ∃ op : Int, op = if rep then 2 else 1 := ⟨_, rfl⟩
  have op0 : 1 ≤ op := by rw [hop]; split <;> omega
  have op1 : op ≤ 2 := by rw [hop]; split <;> omega
  have hob : (1 : Int) + (if rep then 1 else 0) = op := by rw [hop]; cases rep <;> rfl
  obtain ⟨bt_, hbt⟩ : ∃ b : Int, b = if rep then 1 else 0 := ⟨_, rfl⟩
  have HBIT : Hid (∀ wx : World, Calls Try.prog 84 #[.bool rep] wx fun e w' => e = .returned (.int .i64 bt_) ∧ w' = wx) := fun wx => by rw [hbt]; exact l01Bit_any rep wx
  have hbb : (1 : Int) + bt_ = op := by rw [hbt]; exact hob
  have bt0 : 0 ≤ bt_ := by omega
  have bt1 : bt_ ≤ 1 := by omega
  have HOP : Hid (op = if rep then 2 else 1) := hop
  clear hop hob hbt
  obtain ⟨N1, hN1⟩ : ∃ s, s = strOf (nb op 1) 1 := ⟨_, rfl⟩
  have zN1 : N1.size = 1 := by rw [hN1]; exact strOf_size _ _
  have HN1 : Hid (∀ wx : World, Calls Try.prog 85 #[.int .i64 op, .int .i64 1] wx fun e w' => e = .returned (.string N1) ∧ Below wx.heap.size wx w') := fun wx => by rw [hN1]; exact l01Number_any op 1 wx (by omega) (by omega) (by omega)
  have EN1 : Hid (nums N1 = nbl op 1) := by show _ = _; rw [hN1]; exact nums_nb _ _
  clear hN1
  obtain ⟨N2, hN2⟩ : ∃ s, s = strOf (nb xid 4) 4 := ⟨_, rfl⟩
  have zN2 : N2.size = 4 := by rw [hN2]; exact strOf_size _ _
  have HN2 : Hid (∀ wx : World, Calls Try.prog 85 #[.int .i64 xid, .int .i64 4] wx fun e w' => e = .returned (.string N2) ∧ Below wx.heap.size wx w') := fun wx => by rw [hN2]; exact l01Number_any xid 4 wx (by omega) (by omega) (by omega)
  have EN2 : Hid (nums N2 = nbl xid 4) := by show _ = _; rw [hN2]; exact nums_nb _ _
  clear hN2
  obtain ⟨N3, hN3⟩ : ∃ s, s = strOf (nb yours 4) 4 := ⟨_, rfl⟩
  have zN3 : N3.size = 4 := by rw [hN3]; exact strOf_size _ _
  have HN3 : Hid (∀ wx : World, Calls Try.prog 85 #[.int .i64 yours, .int .i64 4] wx fun e w' => e = .returned (.string N3) ∧ Below wx.heap.size wx w') := fun wx => by rw [hN3]; exact l01Number_any yours 4 wx (by omega) (by omega) (by omega)
  have EN3 : Hid (nums N3 = nbl yours 4) := by show _ = _; rw [hN3]; exact nums_nb _ _
  clear hN3
  obtain ⟨N4, hN4⟩ : ∃ s, s = strOf (nb kind 1) 1 := ⟨_, rfl⟩
  have zN4 : N4.size = 1 := by rw [hN4]; exact strOf_size _ _
  have HN4 : Hid (∀ wx : World, Calls Try.prog 85 #[.int .i64 kind, .int .i64 1] wx fun e w' => e = .returned (.string N4) ∧ Below wx.heap.size wx w') := fun wx => by rw [hN4]; exact l01Number_any kind 1 wx (by omega) (by omega) (by omega)
  have EN4 : Hid (nums N4 = nbl kind 1) := by show _ = _; rw [hN4]; exact nums_nb _ _
  clear hN4
  have zC1 : (⟨#[1, 6, 0]⟩ : ByteArray).size = 3 := rfl
  have eC1 : nums (⟨#[1, 6, 0]⟩ : ByteArray) = [1, 6, 0] := rfl
  have zC2 : (⟨#[0, 0, 0, 0]⟩ : ByteArray).size = 4 := rfl
  have eC2 : nums (⟨#[0, 0, 0, 0]⟩ : ByteArray) = [0, 0, 0, 0] := rfl
  have zC3 : (⟨#[99, 130, 83, 99]⟩ : ByteArray).size = 4 := rfl
  have eC3 : nums (⟨#[99, 130, 83, 99]⟩ : ByteArray) = [99, 130, 83, 99] := rfl
  have zC4 : (⟨#[53, 1]⟩ : ByteArray).size = 2 := rfl
  have eC4 : nums (⟨#[53, 1]⟩ : ByteArray) = [53, 1] := rfl
  have zC5 : (⟨#[255]⟩ : ByteArray).size = 1 := rfl
  have eC5 : nums (⟨#[255]⟩ : ByteArray) = [255] := rfl
  have ha0 : ∀ wx : World, (Op.stringOp .add (N1) (⟨#[1, 6, 0]⟩ : ByteArray)).run Try.prog wx = .ok (.string (N1 ++ (⟨#[1, 6, 0]⟩ : ByteArray))) wx := fun wx => run_string_add_sum (P := Try.prog) (w := wx) _ _ (by (try simp only [ByteArray.size_append]); omega)
  have ha1 : ∀ wx : World, (Op.stringOp .add (N1 ++ (⟨#[1, 6, 0]⟩ : ByteArray)) N2).run Try.prog wx = .ok (.string (N1 ++ (⟨#[1, 6, 0]⟩ : ByteArray) ++ N2)) wx := fun wx => run_string_add_sum (P := Try.prog) (w := wx) _ _ (by (try simp only [ByteArray.size_append]); omega)
  have ha2 : ∀ wx : World, (Op.stringOp .add (N1 ++ (⟨#[1, 6, 0]⟩ : ByteArray) ++ N2) (⟨#[0, 0, 0, 0]⟩ : ByteArray)).run Try.prog wx = .ok (.string (N1 ++ (⟨#[1, 6, 0]⟩ : ByteArray) ++ N2 ++ (⟨#[0, 0, 0, 0]⟩ : ByteArray))) wx := fun wx => run_string_add_sum (P := Try.prog) (w := wx) _ _ (by (try simp only [ByteArray.size_append]); omega)
  have ha3 : ∀ wx : World, (Op.stringOp .add (N1 ++ (⟨#[1, 6, 0]⟩ : ByteArray) ++ N2 ++ (⟨#[0, 0, 0, 0]⟩ : ByteArray)) (⟨#[0, 0, 0, 0]⟩ : ByteArray)).run Try.prog wx = .ok (.string (N1 ++ (⟨#[1, 6, 0]⟩ : ByteArray) ++ N2 ++ (⟨#[0, 0, 0, 0]⟩ : ByteArray) ++ (⟨#[0, 0, 0, 0]⟩ : ByteArray))) wx := fun wx => run_string_add_sum (P := Try.prog) (w := wx) _ _ (by (try simp only [ByteArray.size_append]); omega)
  have ha4 : ∀ wx : World, (Op.stringOp .add (N1 ++ (⟨#[1, 6, 0]⟩ : ByteArray) ++ N2 ++ (⟨#[0, 0, 0, 0]⟩ : ByteArray) ++ (⟨#[0, 0, 0, 0]⟩ : ByteArray)) N3).run Try.prog wx = .ok (.string (N1 ++ (⟨#[1, 6, 0]⟩ : ByteArray) ++ N2 ++ (⟨#[0, 0, 0, 0]⟩ : ByteArray) ++ (⟨#[0, 0, 0, 0]⟩ : ByteArray) ++ N3)) wx := fun wx => run_string_add_sum (P := Try.prog) (w := wx) _ _ (by (try simp only [ByteArray.size_append]); omega)
  have ha5 : ∀ wx : World, (Op.stringOp .add (N1 ++ (⟨#[1, 6, 0]⟩ : ByteArray) ++ N2 ++ (⟨#[0, 0, 0, 0]⟩ : ByteArray) ++ (⟨#[0, 0, 0, 0]⟩ : ByteArray) ++ N3) (⟨#[0, 0, 0, 0]⟩ : ByteArray)).run Try.prog wx = .ok (.string (N1 ++ (⟨#[1, 6, 0]⟩ : ByteArray) ++ N2 ++ (⟨#[0, 0, 0, 0]⟩ : ByteArray) ++ (⟨#[0, 0, 0, 0]⟩ : ByteArray) ++ N3 ++ (⟨#[0, 0, 0, 0]⟩ : ByteArray))) wx := fun wx => run_string_add_sum (P := Try.prog) (w := wx) _ _ (by (try simp only [ByteArray.size_append]); omega)
  have ha6 : ∀ wx : World, (Op.stringOp .add (N1 ++ (⟨#[1, 6, 0]⟩ : ByteArray) ++ N2 ++ (⟨#[0, 0, 0, 0]⟩ : ByteArray) ++ (⟨#[0, 0, 0, 0]⟩ : ByteArray) ++ N3 ++ (⟨#[0, 0, 0, 0]⟩ : ByteArray)) (⟨#[0, 0, 0, 0]⟩ : ByteArray)).run Try.prog wx = .ok (.string (N1 ++ (⟨#[1, 6, 0]⟩ : ByteArray) ++ N2 ++ (⟨#[0, 0, 0, 0]⟩ : ByteArray) ++ (⟨#[0, 0, 0, 0]⟩ : ByteArray) ++ N3 ++ (⟨#[0, 0, 0, 0]⟩ : ByteArray) ++ (⟨#[0, 0, 0, 0]⟩ : ByteArray))) wx := fun wx => run_string_add_sum (P := Try.prog) (w := wx) _ _ (by (try simp only [ByteArray.size_append]); omega)
  obtain ⟨hd, hhd⟩ : ∃ hd, hd = N1 ++ (⟨#[1, 6, 0]⟩ : ByteArray) ++ N2 ++ (⟨#[0, 0, 0, 0]⟩ : ByteArray) ++ (⟨#[0, 0, 0, 0]⟩ : ByteArray) ++ N3 ++ (⟨#[0, 0, 0, 0]⟩ : ByteArray) ++ (⟨#[0, 0, 0, 0]⟩ : ByteArray) := ⟨_, rfl⟩
  have zhd : hd.size = 28 := by rw [hhd]; simp only [ByteArray.size_append]; omega
  have Ehd : Hid (nums hd = [if rep then 2 else 1, 1, 6, 0] ++ nbl xid 4 ++ List.replicate 8 0 ++ nbl yours 4 ++ List.replicate 8 0) := by
    show _ = _
    rw [hhd]
    simp only [nums_append]
    rw [EN1.out, EN2.out, EN3.out, eC1, eC2, nblOne op (by omega) (by omega), HOP.out]
    simp [List.replicate]
  have HHD : Hid (hd = N1 ++ (⟨#[1, 6, 0]⟩ : ByteArray) ++ N2 ++ (⟨#[0, 0, 0, 0]⟩ : ByteArray) ++ (⟨#[0, 0, 0, 0]⟩ : ByteArray) ++ N3 ++ (⟨#[0, 0, 0, 0]⟩ : ByteArray) ++ (⟨#[0, 0, 0, 0]⟩ : ByteArray)) := hhd
  clear hhd
  obtain ⟨Zs, hZs⟩ : ∃ Z, Z = strOf (fun _ => 0) 202 := ⟨_, rfl⟩
  have zZs : Zs.size = 202 := by rw [hZs]; exact strOf_size _ _
  have EZs : Hid (nums Zs = List.replicate 202 0) := by show _ = _; rw [hZs, nums_strOf _ _ (fun _ => ⟨Int.le_refl _, by show (0 : Int) ≤ 255; omega⟩)]; rfl
  have hb0 : ∀ wx : World, (Op.stringOp .add (hd) mac).run Try.prog wx = .ok (.string (hd ++ mac)) wx := fun wx => run_string_add_sum (P := Try.prog) (w := wx) _ _ (by (try simp only [ByteArray.size_append]); omega)
  have hb1 : ∀ wx : World, (Op.stringOp .add (hd ++ mac) Zs).run Try.prog wx = .ok (.string (hd ++ mac ++ Zs)) wx := fun wx => run_string_add_sum (P := Try.prog) (w := wx) _ _ (by (try simp only [ByteArray.size_append]); omega)
  have hb2 : ∀ wx : World, (Op.stringOp .add (hd ++ mac ++ Zs) (⟨#[99, 130, 83, 99]⟩ : ByteArray)).run Try.prog wx = .ok (.string (hd ++ mac ++ Zs ++ (⟨#[99, 130, 83, 99]⟩ : ByteArray))) wx := fun wx => run_string_add_sum (P := Try.prog) (w := wx) _ _ (by (try simp only [ByteArray.size_append]); omega)
  have hb3 : ∀ wx : World, (Op.stringOp .add (hd ++ mac ++ Zs ++ (⟨#[99, 130, 83, 99]⟩ : ByteArray)) (⟨#[53, 1]⟩ : ByteArray)).run Try.prog wx = .ok (.string (hd ++ mac ++ Zs ++ (⟨#[99, 130, 83, 99]⟩ : ByteArray) ++ (⟨#[53, 1]⟩ : ByteArray))) wx := fun wx => run_string_add_sum (P := Try.prog) (w := wx) _ _ (by (try simp only [ByteArray.size_append]); omega)
  have hb4 : ∀ wx : World, (Op.stringOp .add (hd ++ mac ++ Zs ++ (⟨#[99, 130, 83, 99]⟩ : ByteArray) ++ (⟨#[53, 1]⟩ : ByteArray)) N4).run Try.prog wx = .ok (.string (hd ++ mac ++ Zs ++ (⟨#[99, 130, 83, 99]⟩ : ByteArray) ++ (⟨#[53, 1]⟩ : ByteArray) ++ N4)) wx := fun wx => run_string_add_sum (P := Try.prog) (w := wx) _ _ (by (try simp only [ByteArray.size_append]); omega)
  have hb5 : ∀ wx : World, (Op.stringOp .add (hd ++ mac ++ Zs ++ (⟨#[99, 130, 83, 99]⟩ : ByteArray) ++ (⟨#[53, 1]⟩ : ByteArray) ++ N4) (⟨#[255]⟩ : ByteArray)).run Try.prog wx = .ok (.string (hd ++ mac ++ Zs ++ (⟨#[99, 130, 83, 99]⟩ : ByteArray) ++ (⟨#[53, 1]⟩ : ByteArray) ++ N4 ++ (⟨#[255]⟩ : ByteArray))) wx := fun wx => run_string_add_sum (P := Try.prog) (w := wx) _ _ (by (try simp only [ByteArray.size_append]); omega)
  obtain ⟨MC, hMC⟩ := make_zeros 202 202 (by omega) (by omega)
  have hmk : ∀ wx : World, (Instr.makeSlice 25 (.int .i64 202) (.int .i64 202)).run Try.prog wx = .ok (.slice (some ⟨wx.heap.size, 0, none⟩) 202 202) (wx.alloc (.cells MC 5)) := fun wx => (hMC wx).1
  have HZ : Hid (∀ wx w9 : World, Below (wx.alloc (.cells MC 5)).drew.heap.size (wx.alloc (.cells MC 5)).drew w9 → (convert 25 9 (.slice (some ⟨wx.heap.size, 0, none⟩) 202 202)).run Try.prog w9 = .ok (.string Zs) w9) := by
    intro wx w9 hb
    have ho := (hMC wx).2
    rw [hZs]
    refine conv_row (P := Try.prog) w9 25 9 5 Try.underlying25 Try.underlying5 Try.underlying9 _ 202 202 (fun _ => 0) ⟨fun _ => ⟨Int.le_refl _, by show (0 : Int) ≤ 255; omega⟩, fun _ => ⟨_, 0, rfl, fun i hi => ?_⟩⟩
    rw [Nat.zero_add]
    refine keep_cell (wx := (wx.alloc (.cells MC 5)).drew) ?_ hb
    show (wx.alloc (.cells MC 5)).cell? _ = _
    rw [World.ownsRow.cellAt ho i (by omega), List.getElem?_map, List.getElem?_replicate, if_pos hi]
    rfl
  have hcy : ∀ wx : World, (convert 25 9 (.slice (some ⟨wx.heap.size, 0, none⟩) 202 202)).run Try.prog (wx.alloc (.cells MC 5)) = .ok (.string Zs) (wx.alloc (.cells MC 5)) := by
    intro wx
    have ho := (hMC wx).2
    rw [hZs]
    refine conv_row (P := Try.prog) _ 25 9 5 Try.underlying25 Try.underlying5 Try.underlying9 _ 202 202 (fun _ => 0) ⟨fun _ => ⟨Int.le_refl _, by show (0 : Int) ≤ 255; omega⟩, fun _ => ⟨_, 0, rfl, fun i hi => ?_⟩⟩
    rw [Nat.zero_add, World.ownsRow.cellAt ho i (by omega), List.getElem?_map, List.getElem?_replicate, if_pos hi]
    rfl
  have hcz : ∀ wx : World, (convert 25 9 (.slice (some ⟨wx.heap.size, 0, none⟩) 202 202)).run Try.prog (wx.alloc (.cells MC 5)).drew = .ok (.string Zs) (wx.alloc (.cells MC 5)).drew := fun wx => HZ.out wx _ (Below.refl _ _)
  clear hMC hZs
  have K0 : Hid (Boxed (w.alloc (.cells #[.int .i64 xid, .int .i64 yours, .int .i64 kind, .bool rep, .string mac] 28)) w.heap.size [.int .i64 xid, .int .i64 yours, .int .i64 kind, .bool rep, .string mac]) := Boxed.new w _ _
  go_enter Try.func39, Try.ntmps39
  go_wp2_with fail
  refine (HBIT.out _).mono ?_
  rintro e w1 ⟨rfl, hw1⟩
  obtain rfl := hw1.symm
  clear hw1
  go_wp2
  go_region_held3 (fun wx => wx.cell? ⟨w.heap.size, 0, none⟩ = some (.int .i64 xid) ∧ wx.cell? ⟨w.heap.size, 1, none⟩ = some (.int .i64 yours) ∧ wx.cell? ⟨w.heap.size, 2, none⟩ = some (.int .i64 kind) ∧ wx.cell? ⟨w.heap.size, 4, none⟩ = some (.string mac) ∧ Below w.heap.size w wx ∧ w.heap.size < wx.heap.size)
    (first | exact ⟨K0.out.at 0 _ rfl, K0.out.at 1 _ rfl, K0.out.at 2 _ rfl, K0.out.at 4 _ rfl, ((Below.refl _ _).alloc (Nat.le_refl _) _).drew, by simp⟩ | assumption | exact (And.imp (keep_c hb1) (And.imp (keep_c hb1) (And.imp (keep_c hb1) (And.imp (keep_c hb1) (keep_bs hb1))))) (by assumption))
    (first | (go_at_call 85; (with_reducible refine (HN1.out _).mono ?_); rintro e w' ⟨rfl, hb1⟩) | (go_at_call 85; (with_reducible refine (HN2.out _).mono ?_); rintro e w' ⟨rfl, hb1⟩) | (go_at_call 85; (with_reducible refine (HN3.out _).mono ?_); rintro e w' ⟨rfl, hb1⟩))
  rename_i hH
  have X : Hid (w'.cell? ⟨w.heap.size, 2, none⟩ = some (.int .i64 kind) ∧ w'.cell? ⟨w.heap.size, 4, none⟩ = some (.string mac) ∧ Below w.heap.size w w' ∧ w.heap.size < w'.heap.size) := hH.2.2
  clear hH hb1
  have k2 : w'.drew.cell? ⟨w.heap.size, 2, none⟩ = some (.int .i64 kind) := X.out.1
  have k4 : w'.drew.cell? ⟨w.heap.size, 4, none⟩ = some (.string mac) := X.out.2.1
  have kk2 : ∀ o, (w'.alloc o).drew.cell? ⟨w.heap.size, 2, none⟩ = some (.int .i64 kind) := fun o => keep_cell (wx := w') X.out.1 ((Below.refl _ _).alloc (Nat.le_refl _) o).drew
  have kk4 : ∀ o, (w'.alloc o).drew.cell? ⟨w.heap.size, 4, none⟩ = some (.string mac) := fun o => keep_cell (wx := w') X.out.2.1 ((Below.refl _ _).alloc (Nat.le_refl _) o).drew
  clear ha0 ha1 ha2 ha3 ha4 ha5 ha6 HN1 HN2 HN3 EN1 EN2 EN3 K0 zC1 zC2 zC3 zC4 zC5 eC1 eC2 eC3 eC4 eC5 zN1 zN2 zN3 zN4 zhd zZs HBIT HOP hbb bt0 bt1 op0 op1 h1 h2 h3 h4 hm
  have B9a : Hid (∀ w9, Below w'.drew.heap.size w'.drew w9 → Below w.heap.size w w9) := fun w9 hb => X.out.2.2.1.drew.trans (hb.mono (Nat.le_of_lt X.out.2.2.2))
  have B9b : Hid (∀ o w9, Below (w'.alloc o).drew.heap.size (w'.alloc o).drew w9 → Below w.heap.size w w9) := fun o w9 hb => (X.out.2.2.1.alloc (Nat.le_of_lt X.out.2.2.2) o).drew.trans (hb.mono (by have := X.out.2.2.2; show _ ≤ (w'.alloc o).heap.size; simp; exact Nat.le_succ_of_le (Nat.le_of_lt this)))
  go_wp2
  rw [← HHD.out]
  refine wp_region_held_drew (S := (fun wx => wx.cell? ⟨w.heap.size, 2, none⟩ = some (.int .i64 kind) ∧ wx.cell? ⟨w.heap.size, 4, none⟩ = some (.string mac) ∧ Below w.heap.size w wx ∧ w.heap.size < wx.heap.size)) (by kernel_rfl) ?_ (fun hH0 => ?_)
  · exact ⟨k2, k4, X.out.2.2.1.drew, X.out.2.2.2⟩
  refine wpAnyH_take (i := 0) (v := ?v1) rfl (by kernel_rfl) (by kernel_rfl) (by kernel_rfl) (fun _ _ _ h => h) (Or.inl ⟨by rfl, ?hy1⟩) (by assumption) ?rest1
  case hy1 => (intro w hSw; (try dsimp only at hSw); go_simp; (try with_reducible rfl))
  refine wpAnyH_take (i := 1) (v := ?v2) rfl (by kernel_rfl) (by kernel_rfl) (by kernel_rfl) (fun _ _ _ h => h) (Or.inl ⟨by rfl, ?hy2⟩) (by assumption) ?rest2
  case hy2 => (intro w hSw; (try dsimp only at hSw); go_simp; (try with_reducible rfl))
  refine wpAnyH_take (i := 2) (v := ?v3) rfl (by kernel_rfl) (by kernel_rfl) (by kernel_rfl) (fun _ _ _ h => h) (Or.inl ⟨by rfl, ?hy3⟩) (by assumption) ?rest3
  case hy3 => (intro w hSw; (try dsimp only at hSw); go_simp; (try with_reducible rfl))
  refine wpAnyH_take (i := 3) (v := ?v4) rfl (by kernel_rfl) (by kernel_rfl) (by kernel_rfl) (fun _ _ _ h => h) (Or.inl ⟨by rfl, ?hy4⟩) (by assumption) ?rest4
  case hy4 => (intro w hSw; (try dsimp only at hSw); go_simp; (try with_reducible rfl))
  refine wpAnyH_take (i := 9) (v := ?v5) rfl (by kernel_rfl) (by kernel_rfl) (by kernel_rfl) (fun _ _ _ h => h) (Or.inl ⟨by rfl, ?hy5⟩) (by assumption) ?rest5
  case hy5 => (intro w hSw; (try dsimp only at hSw); go_simp; (try with_reducible rfl))
  refine wpAnyH_take (i := 10) (v := ?v6) rfl (by kernel_rfl) (by kernel_rfl) (by kernel_rfl) (fun _ _ _ h => h) (Or.inl ⟨by rfl, ?hy6⟩) (by assumption) ?rest6
  case hy6 => (intro w hSw; (try dsimp only at hSw); go_simp; (try with_reducible rfl))
  refine wpAnyH_ready (rs := [4, 11]) (by kernel_rfl) (by simp) ?_
  refine AllReadyH.cons rfl (fun K hK => ?_) ?_
  · go_simp
    refine hK.out _ _ ?_ (fun hH7 => ?_)
    · (try dsimp only)
      first | assumption | exact (And.imp (keep_c hb9) (And.imp (keep_c hb9) (keep_bs hb9))) (by assumption) | exact (And.imp (keep_c ((Below.refl _ _).alloc (Nat.le_refl _) _)) (And.imp (keep_c ((Below.refl _ _).alloc (Nat.le_refl _) _)) (keep_bs ((Below.refl _ _).alloc (Nat.le_refl _) _)))) (by assumption) | exact ⟨kk2 _, kk4 _, B9b.out _ _ (Below.refl _ _), by show _ < (w'.alloc _).heap.size; simp; exact Nat.lt_succ_of_lt X.out.2.2.2⟩
    clear hK K hH0
    refine wpAnyH_ready (rs := [5, 11]) (by kernel_rfl) (by simp) ?_
    refine AllReadyH.cons rfl (fun K hK => ?_) ?_
    · go_simp
      refine hK.out _ _ ?_ (fun hH8 => ?_)
      · (try dsimp only)
        first | assumption | exact (And.imp (keep_c hb9) (And.imp (keep_c hb9) (keep_bs hb9))) (by assumption) | exact (And.imp (keep_c ((Below.refl _ _).alloc (Nat.le_refl _) _)) (And.imp (keep_c ((Below.refl _ _).alloc (Nat.le_refl _) _)) (keep_bs ((Below.refl _ _).alloc (Nat.le_refl _) _)))) (by assumption) | exact ⟨kk2 _, kk4 _, B9b.out _ _ (Below.refl _ _), by show _ < (w'.alloc _).heap.size; simp; exact Nat.lt_succ_of_lt X.out.2.2.2⟩
      clear hK K hH7
      refine wpAnyH_take (i := 6) (v := ?v9) rfl (by kernel_rfl) (by kernel_rfl) (by kernel_rfl) (fun _ _ _ h => h) (Or.inl ⟨by rfl, ?hy9⟩) (by assumption) ?rest9
      case hy9 => (intro w hSw; (try dsimp only at hSw); go_simp; (try with_reducible rfl))
      refine wpAnyH_take (i := 7) (v := ?v10) rfl (by kernel_rfl) (by kernel_rfl) (by kernel_rfl) (fun _ _ _ h => h) (Or.inl ⟨by rfl, ?hy10⟩) (by assumption) ?rest10
      case hy10 => (intro w hSw; (try dsimp only at hSw); go_simp; (try with_reducible rfl))
      refine wpAnyH_take (i := 8) (v := ?v11) rfl (by kernel_rfl) (by kernel_rfl) (by kernel_rfl) (fun _ _ _ h => h) (Or.inl ⟨by rfl, ?hy11⟩) (by assumption) ?rest11
      case hy11 => (intro w hSw; (try dsimp only at hSw); go_simp; (try with_reducible rfl))
      refine wpAnyH_ready (rs := [11]) (by kernel_rfl) (by simp) ?_
      refine AllReadyH.cons rfl (fun K hK => ?_) ?_
      · go_simp
        (with_reducible refine (HN4.out _).mono ?_)
        rintro e w9 ⟨rfl, hb9⟩
        (try have cz := HZ.out _ _ hb9)
        go_wp2_with fail
        refine hK.out _ _ ?_ (fun hH12 => ?_)
        · (try dsimp only)
          first | assumption | exact (And.imp (keep_c hb9) (And.imp (keep_c hb9) (keep_bs hb9))) (by assumption) | exact (And.imp (keep_c ((Below.refl _ _).alloc (Nat.le_refl _) _)) (And.imp (keep_c ((Below.refl _ _).alloc (Nat.le_refl _) _)) (keep_bs ((Below.refl _ _).alloc (Nat.le_refl _) _)))) (by assumption) | exact ⟨kk2 _, kk4 _, B9b.out _ _ (Below.refl _ _), by show _ < (w'.alloc _).heap.size; simp; exact Nat.lt_succ_of_lt X.out.2.2.2⟩
        clear hK K hH8
        refine wpAnyH_take (i := 12) (v := ?v13) rfl (by kernel_rfl) (by kernel_rfl) (by kernel_rfl) (fun _ _ _ h => h) (Or.inl ⟨by rfl, ?hy13⟩) (by assumption) ?rest13
        case hy13 => (intro w hSw; (try dsimp only at hSw); go_simp; (try with_reducible rfl))
        refine wpAnyH_take (i := 13) (v := ?v14) rfl (by kernel_rfl) (by kernel_rfl) (by kernel_rfl) (fun _ _ _ h => h) (Or.inl ⟨by rfl, ?hy14⟩) (by assumption) ?rest14
        case hy14 => (intro w hSw; (try dsimp only at hSw); go_simp; (try with_reducible rfl))
        refine wpAnyH_take (i := 14) (v := ?v15) rfl (by kernel_rfl) (by kernel_rfl) (by kernel_rfl) (fun _ _ _ h => h) (Or.inl ⟨by rfl, ?hy15⟩) (by assumption) ?rest15
        case hy15 => (intro w hSw; (try dsimp only at hSw); go_simp; (try with_reducible rfl))
        refine wpAnyH_done (by kernel_rfl) ?_ _
        have D9 : Hid (Below w.heap.size w _) := hH12.2.2.1
        clear hH12
        go_wp2
        go_ret
        refine ⟨⟨_, rfl, ?_⟩, D9.out⟩
        simp only [nums_append]
        rw [Ehd.out, EZs.out, EN4.out, show nums (⟨#[99, 130, 83, 99]⟩ : ByteArray) = [99, 130, 83, 99] from rfl, show nums (⟨#[53, 1]⟩ : ByteArray) = [53, 1] from rfl, show nums (⟨#[255]⟩ : ByteArray) = [255] from rfl, nblOne kind (by omega) (by omega), dhcpL]
        simp [List.append_assoc]
      exact AllReadyH.nil
    refine AllReadyH.cons rfl (fun K hK => ?_) ?_
    · go_simp
      (with_reducible refine (HN4.out _).mono ?_)
      rintro e w9 ⟨rfl, hb9⟩
      (try have cz := HZ.out _ _ hb9)
      go_wp2_with fail
      refine hK.out _ _ ?_ (fun hH16 => ?_)
      · (try dsimp only)
        first | assumption | exact (And.imp (keep_c hb9) (And.imp (keep_c hb9) (keep_bs hb9))) (by assumption) | exact (And.imp (keep_c ((Below.refl _ _).alloc (Nat.le_refl _) _)) (And.imp (keep_c ((Below.refl _ _).alloc (Nat.le_refl _) _)) (keep_bs ((Below.refl _ _).alloc (Nat.le_refl _) _)))) (by assumption) | exact ⟨kk2 _, kk4 _, B9b.out _ _ (Below.refl _ _), by show _ < (w'.alloc _).heap.size; simp; exact Nat.lt_succ_of_lt X.out.2.2.2⟩
      clear hK K hH7
      refine wpAnyH_ready (rs := [5]) (by kernel_rfl) (by simp) ?_
      refine AllReadyH.cons rfl (fun K hK => ?_) ?_
      · go_simp
        refine hK.out _ _ ?_ (fun hH17 => ?_)
        · (try dsimp only)
          first | assumption | exact (And.imp (keep_c hb9) (And.imp (keep_c hb9) (keep_bs hb9))) (by assumption) | exact (And.imp (keep_c ((Below.refl _ _).alloc (Nat.le_refl _) _)) (And.imp (keep_c ((Below.refl _ _).alloc (Nat.le_refl _) _)) (keep_bs ((Below.refl _ _).alloc (Nat.le_refl _) _)))) (by assumption) | exact ⟨kk2 _, kk4 _, B9b.out _ _ (Below.refl _ _), by show _ < (w'.alloc _).heap.size; simp; exact Nat.lt_succ_of_lt X.out.2.2.2⟩
        clear hK K hH16
        refine wpAnyH_take (i := 6) (v := ?v18) rfl (by kernel_rfl) (by kernel_rfl) (by kernel_rfl) (fun _ _ _ h => h) (Or.inl ⟨by rfl, ?hy18⟩) (by assumption) ?rest18
        case hy18 => (intro w hSw; (try dsimp only at hSw); go_simp; (try with_reducible rfl))
        refine wpAnyH_take (i := 7) (v := ?v19) rfl (by kernel_rfl) (by kernel_rfl) (by kernel_rfl) (fun _ _ _ h => h) (Or.inl ⟨by rfl, ?hy19⟩) (by assumption) ?rest19
        case hy19 => (intro w hSw; (try dsimp only at hSw); go_simp; (try with_reducible rfl))
        refine wpAnyH_take (i := 8) (v := ?v20) rfl (by kernel_rfl) (by kernel_rfl) (by kernel_rfl) (fun _ _ _ h => h) (Or.inl ⟨by rfl, ?hy20⟩) (by assumption) ?rest20
        case hy20 => (intro w hSw; (try dsimp only at hSw); go_simp; (try with_reducible rfl))
        refine wpAnyH_take (i := 12) (v := ?v21) rfl (by kernel_rfl) (by kernel_rfl) (by kernel_rfl) (fun _ _ _ h => h) (Or.inl ⟨by rfl, ?hy21⟩) (by assumption) ?rest21
        case hy21 => (intro w hSw; (try dsimp only at hSw); go_simp; (try with_reducible rfl))
        refine wpAnyH_take (i := 13) (v := ?v22) rfl (by kernel_rfl) (by kernel_rfl) (by kernel_rfl) (fun _ _ _ h => h) (Or.inl ⟨by rfl, ?hy22⟩) (by assumption) ?rest22
        case hy22 => (intro w hSw; (try dsimp only at hSw); go_simp; (try with_reducible rfl))
        refine wpAnyH_take (i := 14) (v := ?v23) rfl (by kernel_rfl) (by kernel_rfl) (by kernel_rfl) (fun _ _ _ h => h) (Or.inl ⟨by rfl, ?hy23⟩) (by assumption) ?rest23
        case hy23 => (intro w hSw; (try dsimp only at hSw); go_simp; (try with_reducible rfl))
        refine wpAnyH_done (by kernel_rfl) ?_ _
        have D9 : Hid (Below w.heap.size w _) := hH17.2.2.1
        clear hH17
        go_wp2
        go_ret
        refine ⟨⟨_, rfl, ?_⟩, D9.out⟩
        simp only [nums_append]
        rw [Ehd.out, EZs.out, EN4.out, show nums (⟨#[99, 130, 83, 99]⟩ : ByteArray) = [99, 130, 83, 99] from rfl, show nums (⟨#[53, 1]⟩ : ByteArray) = [53, 1] from rfl, show nums (⟨#[255]⟩ : ByteArray) = [255] from rfl, nblOne kind (by omega) (by omega), dhcpL]
        simp [List.append_assoc]
      exact AllReadyH.nil
    exact AllReadyH.nil
  refine AllReadyH.cons rfl (fun K hK => ?_) ?_
  · go_simp
    (with_reducible refine (HN4.out _).mono ?_)
    rintro e w9 ⟨rfl, hb9⟩
    (try have cz := HZ.out _ _ hb9)
    go_wp2_with fail
    refine hK.out _ _ ?_ (fun hH24 => ?_)
    · (try dsimp only)
      first | assumption | exact (And.imp (keep_c hb9) (And.imp (keep_c hb9) (keep_bs hb9))) (by assumption) | exact (And.imp (keep_c ((Below.refl _ _).alloc (Nat.le_refl _) _)) (And.imp (keep_c ((Below.refl _ _).alloc (Nat.le_refl _) _)) (keep_bs ((Below.refl _ _).alloc (Nat.le_refl _) _)))) (by assumption) | exact ⟨kk2 _, kk4 _, B9b.out _ _ (Below.refl _ _), by show _ < (w'.alloc _).heap.size; simp; exact Nat.lt_succ_of_lt X.out.2.2.2⟩
    clear hK K hH0
    refine wpAnyH_ready (rs := [4]) (by kernel_rfl) (by simp) ?_
    refine AllReadyH.cons rfl (fun K hK => ?_) ?_
    · go_simp
      refine hK.out _ _ ?_ (fun hH25 => ?_)
      · (try dsimp only)
        first | assumption | exact (And.imp (keep_c hb9) (And.imp (keep_c hb9) (keep_bs hb9))) (by assumption) | exact (And.imp (keep_c ((Below.refl _ _).alloc (Nat.le_refl _) _)) (And.imp (keep_c ((Below.refl _ _).alloc (Nat.le_refl _) _)) (keep_bs ((Below.refl _ _).alloc (Nat.le_refl _) _)))) (by assumption) | exact ⟨kk2 _, kk4 _, B9b.out _ _ (Below.refl _ _), by show _ < (w'.alloc _).heap.size; simp; exact Nat.lt_succ_of_lt X.out.2.2.2⟩
      clear hK K hH24
      refine wpAnyH_ready (rs := [5]) (by kernel_rfl) (by simp) ?_
      refine AllReadyH.cons rfl (fun K hK => ?_) ?_
      · go_simp
        refine hK.out _ _ ?_ (fun hH26 => ?_)
        · (try dsimp only)
          first | assumption | exact (And.imp (keep_c hb9) (And.imp (keep_c hb9) (keep_bs hb9))) (by assumption) | exact (And.imp (keep_c ((Below.refl _ _).alloc (Nat.le_refl _) _)) (And.imp (keep_c ((Below.refl _ _).alloc (Nat.le_refl _) _)) (keep_bs ((Below.refl _ _).alloc (Nat.le_refl _) _)))) (by assumption) | exact ⟨kk2 _, kk4 _, B9b.out _ _ (Below.refl _ _), by show _ < (w'.alloc _).heap.size; simp; exact Nat.lt_succ_of_lt X.out.2.2.2⟩
        clear hK K hH25
        refine wpAnyH_take (i := 6) (v := ?v27) rfl (by kernel_rfl) (by kernel_rfl) (by kernel_rfl) (fun _ _ _ h => h) (Or.inl ⟨by rfl, ?hy27⟩) (by assumption) ?rest27
        case hy27 => (intro w hSw; (try dsimp only at hSw); go_simp; (try with_reducible rfl))
        refine wpAnyH_take (i := 7) (v := ?v28) rfl (by kernel_rfl) (by kernel_rfl) (by kernel_rfl) (fun _ _ _ h => h) (Or.inl ⟨by rfl, ?hy28⟩) (by assumption) ?rest28
        case hy28 => (intro w hSw; (try dsimp only at hSw); go_simp; (try with_reducible rfl))
        refine wpAnyH_take (i := 8) (v := ?v29) rfl (by kernel_rfl) (by kernel_rfl) (by kernel_rfl) (fun _ _ _ h => h) (Or.inl ⟨by rfl, ?hy29⟩) (by assumption) ?rest29
        case hy29 => (intro w hSw; (try dsimp only at hSw); go_simp; (try with_reducible rfl))
        refine wpAnyH_take (i := 12) (v := ?v30) rfl (by kernel_rfl) (by kernel_rfl) (by kernel_rfl) (fun _ _ _ h => h) (Or.inl ⟨by rfl, ?hy30⟩) (by assumption) ?rest30
        case hy30 => (intro w hSw; (try dsimp only at hSw); go_simp; (try with_reducible rfl))
        refine wpAnyH_take (i := 13) (v := ?v31) rfl (by kernel_rfl) (by kernel_rfl) (by kernel_rfl) (fun _ _ _ h => h) (Or.inl ⟨by rfl, ?hy31⟩) (by assumption) ?rest31
        case hy31 => (intro w hSw; (try dsimp only at hSw); go_simp; (try with_reducible rfl))
        refine wpAnyH_take (i := 14) (v := ?v32) rfl (by kernel_rfl) (by kernel_rfl) (by kernel_rfl) (fun _ _ _ h => h) (Or.inl ⟨by rfl, ?hy32⟩) (by assumption) ?rest32
        case hy32 => (intro w hSw; (try dsimp only at hSw); go_simp; (try with_reducible rfl))
        refine wpAnyH_done (by kernel_rfl) ?_ _
        have D9 : Hid (Below w.heap.size w _) := hH26.2.2.1
        clear hH26
        go_wp2
        go_ret
        refine ⟨⟨_, rfl, ?_⟩, D9.out⟩
        simp only [nums_append]
        rw [Ehd.out, EZs.out, EN4.out, show nums (⟨#[99, 130, 83, 99]⟩ : ByteArray) = [99, 130, 83, 99] from rfl, show nums (⟨#[53, 1]⟩ : ByteArray) = [53, 1] from rfl, show nums (⟨#[255]⟩ : ByteArray) = [255] from rfl, nblOne kind (by omega) (by omega), dhcpL]
        simp [List.append_assoc]
      exact AllReadyH.nil
    exact AllReadyH.nil
  exact AllReadyH.nil
end Go.Proofs.Ytcgdpijmfgkalab
