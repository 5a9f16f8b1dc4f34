/- The model: DhcpBytes as a whole; both sides in one form. -/
import Derived.Test.YtcgdpijmfgkalabDhcpS
namespace Go.Proofs.Ytcgdpijmfgkalab
open Go.RowKit Go.PlainAid
set_option linter.unusedVariables false
set_option maxRecDepth 20000

theorem dhcpL_len (xid yours kind : Int) (rep : Bool) (mac : ByteArray) (h : mac.size = 6) : (dhcpL xid yours kind rep mac).length = 244 := by simp [dhcpL, nbl_len, nums_len, h]
theorem bdR (n : Nat) : ∀ x ∈ List.replicate n (0 : Int), 0 ≤ x ∧ x ≤ 255 := fun x hx => by rw [List.eq_of_mem_replicate hx]; omega
theorem bdC {a b c d : Int} (ha : 0 ≤ a ∧ a ≤ 255) (hb : 0 ≤ b ∧ b ≤ 255) (hc : 0 ≤ c ∧ c ≤ 255) (hd : 0 ≤ d ∧ d ≤ 255) : ∀ x ∈ [a, b, c, d], 0 ≤ x ∧ x ≤ 255 := by
  intro x hx; simp at hx; rcases hx with rfl | rfl | rfl | rfl <;> assumption
theorem bdP {L M : List Int} (h : ∀ x ∈ L, 0 ≤ x ∧ x ≤ 255) (k : ∀ x ∈ M, 0 ≤ x ∧ x ≤ 255) : ∀ x ∈ L ++ M, 0 ≤ x ∧ x ≤ 255 := fun x hx => (List.mem_append.1 hx).elim (h x) (k x)
theorem dhcpL_bd (xid yours kind : Int) (rep : Bool) (mac : ByteArray) (h : 1 ≤ kind ∧ kind ≤ 8) : ∀ x ∈ dhcpL xid yours kind rep mac, 0 ≤ x ∧ x ≤ 255 :=
  bdP (bdP (bdP (bdP (bdP (bdP (bdP (bdP (bdC (by split <;> omega) (by omega) (by omega) (by omega)) (nbl_bd _ _)) (bdR _)) (nbl_bd _ _)) (bdR _)) (nums_bd _)) (bdR _)) (bdC (by omega) (by omega) (by omega) (by omega))) (bdC (by omega) (by omega) (by omega) (by omega))

set_option maxHeartbeats 4000000 in
theorem specDhcpBytes_yes (xid : Int) (yours : Int) (kind : Int) (rep : Bool) (mac : ByteArray) (w : World) (xxid : xid ≤ 9223372036854775807) (xyours : yours ≤ 9223372036854775807) (xkind : kind ≤ 9223372036854775807) (xmac : mac.size ≤ 1048576) (h : ((0 ≤ xid ∧ xid ≤ 4294967295) ∧ (0 ≤ yours ∧ yours ≤ 4294967295) ∧ (1 ≤ kind ∧ kind ≤ 8) ∧ (mac.size = 6))) :
    SpecL 10 #[.agg #[.int .i64 xid, .int .i64 yours, .int .i64 kind, .bool rep, .string mac]] w (dhcpL xid yours kind rep mac) 0 := by
  have K0 : Hid (Boxed (w.alloc (.cells #[.int .i64 xid, .int .i64 yours, .int .i64 kind, .bool rep, .string mac] 28)) w.heap.size [.int .i64 xid, .int .i64 yours, .int .i64 kind, .bool rep, .string mac]) := Boxed.new w _ _
  have B0 : Hid (Below w.heap.size w (w.alloc (.cells #[.int .i64 xid, .int .i64 yours, .int .i64 kind, .bool rep, .string mac] 28))) := (Below.refl _ _).alloc (Nat.le_refl _) _
  have H : Hid ((0 ≤ xid ∧ xid ≤ 4294967295) ∧ (0 ≤ yours ∧ yours ≤ 4294967295) ∧ (1 ≤ kind ∧ kind ≤ 8) ∧ (mac.size = 6)) := h
  have q0 := dec_y h
  clear h
  unfold SpecL
  go_enter Try.func10, Try.ntmps10
  go_wp2_with fail
  refine (l03Dhcp_any xid yours kind rep mac _ xxid xyours xkind xmac).mono ?_
  rintro e w1 ⟨rfl, b1, z1⟩
  simp only [World.size_alloc] at z1
  have X1 : Hid (Boxed w1 w.heap.size [.int .i64 xid, .int .i64 yours, .int .i64 kind, .bool rep, .string mac] ∧ Below w.heap.size w w1) := ⟨K0.out.below b1 (by simp), B0.out.trans (b1.mono (by simp))⟩
  clear b1
  have k0 := X1.out.1.at 0 _ rfl
  have k1 := X1.out.1.at 1 _ rfl
  have k2 := X1.out.1.at 2 _ rfl
  have k3 := X1.out.1.at 3 _ rfl
  have k4 := X1.out.1.at 4 _ rfl
  go_wp2_with fail
  refine (l03DhcpBytes_any xid yours kind rep mac _ H.out.1.1 H.out.1.2 H.out.2.1.1 H.out.2.1.2 H.out.2.2.1.1 H.out.2.2.1.2 H.out.2.2.2).mono ?_
  rintro e w2 ⟨⟨t, rfl, ht⟩, b2⟩
  obtain ⟨cap, w3, hconv, c1, c2, c3⟩ := conv_spec t w2
  rw [ht] at hconv c3
  have z2 := b2.size
  have X3 : Hid (Below w.heap.size w w3 ∧ w2.heap.size < w3.heap.size ∧ Bytes w3 (some ⟨w2.heap.size, 0, none⟩) (dhcpL xid yours kind rep mac).length (fun j => (dhcpL xid yours kind rep mac).getD j 0)) :=
    ⟨(X1.out.2.trans (b2.mono (by first | omega | simp))).trans (c1.mono (by omega)), c2, c3⟩
  clear b2 c1 c2 c3 ht k0 k1 k2 k3 k4
  go_wp2
  go_ret2
  exact ⟨_, cap, rfl, X3.out.2.2, fun b off hh => by cases hh; exact X3.out.2.1, X3.out.1⟩

set_option maxHeartbeats 4000000 in
theorem specDhcpBytes_no (xid : Int) (yours : Int) (kind : Int) (rep : Bool) (mac : ByteArray) (w : World) (xxid : xid ≤ 9223372036854775807) (xyours : yours ≤ 9223372036854775807) (xkind : kind ≤ 9223372036854775807) (xmac : mac.size ≤ 1048576) (h : ¬ ((0 ≤ xid ∧ xid ≤ 4294967295) ∧ (0 ≤ yours ∧ yours ≤ 4294967295) ∧ (1 ≤ kind ∧ kind ≤ 8) ∧ (mac.size = 6))) :
    SpecL 10 #[.agg #[.int .i64 xid, .int .i64 yours, .int .i64 kind, .bool rep, .string mac]] w [] 1 := by
  have B0 : Hid (Below w.heap.size w (w.alloc (.cells #[.int .i64 xid, .int .i64 yours, .int .i64 kind, .bool rep, .string mac] 28))) := (Below.refl _ _).alloc (Nat.le_refl _) _
  have ql := dec_n h
  clear h
  unfold SpecL
  go_enter Try.func10, Try.ntmps10
  go_wp2_with fail
  refine (l03Dhcp_any xid yours kind rep mac _ xxid xyours xkind xmac).mono ?_
  rintro e w1 ⟨rfl, b1, z1⟩
  simp only [World.size_alloc] at z1
  have X1 : Hid (Below w.heap.size w w1) := B0.out.trans (b1.mono (by simp))
  clear b1
  go_wp2
  go_ret2
  exact ⟨_, _, rfl, ⟨fun _ => ⟨Int.le_refl _, by simp⟩, fun h0 => absurd h0 (by simp)⟩, fun b off hh => by cases hh; simp, X1.out.alloc (by omega) _⟩

theorem dhcpBytes_both (xid : Int) (yours : Int) (kind : Int) (rep : Bool) (mac : ByteArray) (xx : xid ≤ 9223372036854775807) (xy : yours ≤ 9223372036854775807) (xk : kind ≤ 9223372036854775807) (h : mac.size ≤ 1048576) :
    ∃ (L : List Int) (c : Int), L.length ≤ 1000000 ∧ (∀ w, SpecL 10 #[.agg #[.int .i64 xid, .int .i64 yours, .int .i64 kind, .bool rep, .string mac]] w L c) ∧ (∀ w, ImplL 12 #[.agg #[.int .i64 xid, .int .i64 yours, .int .i64 kind, .bool rep, .string mac]] w L c) := by
  by_cases hh : ((0 ≤ xid ∧ xid ≤ 4294967295) ∧ (0 ≤ yours ∧ yours ≤ 4294967295) ∧ (1 ≤ kind ∧ kind ≤ 8) ∧ (mac.size = 6))
  · have hl := dhcpL_len xid yours kind rep mac hh.2.2.2
    exact ⟨dhcpL xid yours kind rep mac, 0, by omega, fun w => specDhcpBytes_yes xid yours kind rep mac w xx xy xk h hh, fun w => implL_own (dhcpL_bd _ _ _ _ _ hh.2.2.1) (by omega) (dhcpBytes_yes xid yours kind rep mac w hh.2.2.2 hh.1 hh.2.1 hh.2.2.1)⟩
  · exact ⟨[], 1, by simp, fun w => specDhcpBytes_no xid yours kind rep mac w xx xy xk h hh, fun w => implL_nil (dhcpBytes_no xid yours kind rep mac w xx h (fun h2 => hh ⟨h2.2.1, h2.2.2.1, h2.2.2.2, h2.1⟩))⟩
end Go.Proofs.Ytcgdpijmfgkalab
