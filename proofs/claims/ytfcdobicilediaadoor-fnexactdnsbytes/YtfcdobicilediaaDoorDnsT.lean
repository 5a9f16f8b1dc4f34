/- DnsBytes, both sides: what is no question; both answer the same bytes. -/
import Derived.Test.YtfcdobicilediaaDoorDnsS
namespace Go.Proofs.YtfcdobicilediaaDoor
open Go.RowKit Go.PlainAid
set_option linter.unusedVariables false
set_option maxRecDepth 20000

theorem dnsBytes_no (idn ty : Int) (ans : Bool) (s : ByteArray) (m : Int) (w : World) (xi : idn ≤ 9223372036854775807) (xt : ty ≤ 9223372036854775807) (xs : s.size ≤ 1048576) (hm : w.cell? ⟨0, 0, none⟩ = some (.int .i64 m)) (h : ¬ ((0 ≤ idn ∧ idn ≤ 65535) ∧ (0 ≤ ty ∧ ty ≤ 65535) ∧ dnB s = true)) :
    Calls Tryd.prog 6 #[.agg #[.int .i64 idn, .int .i64 ty, .bool ans, .string s]] w fun e w' => e = .returned (.tuple #[.slice none 0 0, .int .i64 1]) ∧ Below w.heap.size w w' := by
  have H1 : Hid (∀ wx, Calls Tryd.prog 22 #[.int .i64 idn, .int .i64 2] wx fun e w' => e = .returned (.bool (dec (0 ≤ idn ∧ idn ≤ 65535))) ∧ w' = wx) := fun wx => hasRoom2 idn wx (by omega)
  have H2 : Hid (∀ wx, Calls Tryd.prog 22 #[.int .i64 ty, .int .i64 2] wx fun e w' => e = .returned (.bool (dec (0 ≤ ty ∧ ty ≤ 65535))) ∧ w' = wx) := fun wx => hasRoom2 ty wx (by omega)
  have H3 : Hid (∀ wx, Below w.heap.size w wx → Calls Tryd.prog 14 #[.string s] wx fun e w' => e = .returned (.bool (dnB s)) ∧ Below wx.heap.size wx w') := fun wx hb => dnsNameOK_any s m wx (by omega) (by rw [hb.cell (World.block_lt_of_cell? w _ hm)]; exact hm)
  clear hm
  by_cases h1 : 0 ≤ idn ∧ idn ≤ 65535
  rotate_left
  · rw [dec_n h1] at H1
    clear h h1 H2 H3
    go_enter Tryd.func6, Tryd.ntmps6
    go_wp2_with fail
    refine (H1.out _).mono ?_
    rintro e w1 ⟨rfl, hw⟩
    subst hw
    go_wp2
    go_ret2
    exact ⟨rfl, (Below.refl _ _).alloc (Nat.le_refl _) _⟩
  rw [dec_y h1] at H1
  by_cases h2 : 0 ≤ ty ∧ ty ≤ 65535
  rotate_left
  · rw [dec_n h2] at H2
    clear h h1 h2 H3
    go_enter Tryd.func6, Tryd.ntmps6
    go_wp2_with fail
    refine (H1.out _).mono ?_
    rintro e w1 ⟨rfl, hw⟩
    subst hw
    go_wp2_with fail
    refine (H2.out _).mono ?_
    rintro e w1 ⟨rfl, hw⟩
    subst hw
    go_wp2
    go_ret2
    exact ⟨rfl, (Below.refl _ _).alloc (Nat.le_refl _) _⟩
  rw [dec_y h2] at H2
  have hd : dnB s = false := by
    cases hd : dnB s
    · rfl
    · exact absurd ⟨h1, h2, hd⟩ h
  rw [hd] at H3
  clear h h1 h2 hd
  go_enter Tryd.func6, Tryd.ntmps6
  go_wp2_with fail
  refine (H1.out _).mono ?_
  rintro e w1 ⟨rfl, hw⟩
  subst hw
  go_wp2_with fail
  refine (H2.out _).mono ?_
  rintro e w1 ⟨rfl, hw⟩
  subst hw
  go_wp2_with fail
  refine (H3.out _ ((Below.refl _ _).alloc (Nat.le_refl _) _)).mono ?_
  rintro e w1 ⟨rfl, b1⟩
  have B1 : Hid (Below w.heap.size w w1) := ((Below.refl _ _).alloc (Nat.le_refl _) _).trans (b1.mono (by simp))
  clear b1
  go_wp2
  go_ret2
  exact ⟨rfl, B1.out⟩

theorem specDnsBytes_yes (idn ty : Int) (ans : Bool) (s : ByteArray) (w : World) (xs : s.size ≤ 1048576) (h : (0 ≤ idn ∧ idn ≤ 65535) ∧ (0 ≤ ty ∧ ty ≤ 65535) ∧ dnB s = true) :
    SpecL 7 #[.agg #[.int .i64 idn, .int .i64 ty, .bool ans, .string s]] w (dnsL idn ty ans s) 0 := by
  have K0 : Hid (Boxed (w.alloc (.cells #[.int .i64 idn, .int .i64 ty, .bool ans, .string s] 24)) w.heap.size [.int .i64 idn, .int .i64 ty, .bool ans, .string s]) := Boxed.new w _ _
  have H1 : Hid (∀ wx, Calls Tryd.prog 25 #[.agg #[.int .i64 idn, .int .i64 ty, .bool ans, .string s]] wx fun e w' => e = .returned (.bool true) ∧ Below wx.heap.size wx w') := fun wx => by
    have := l03Dns_any idn ty ans s wx xs
    rw [dec_y h] at this
    exact this
  have H2 : Hid (∀ wx, Calls Tryd.prog 26 #[.agg #[.int .i64 idn, .int .i64 ty, .bool ans, .string s]] wx fun e w' => (∃ t, e = .returned (.string t) ∧ nums t = dnsL idn ty ans s) ∧ Below wx.heap.size wx w') := fun wx => l03DnsBytes_any idn ty ans s wx h.1 h.2.1 h.2.2
  clear h xs
  unfold SpecL
  go_enter Tryd.func7, Tryd.ntmps7
  go_wp2_with fail
  refine (H1.out _).mono ?_
  rintro e w1 ⟨rfl, b1⟩
  have X1 : Hid (Boxed w1 w.heap.size [.int .i64 idn, .int .i64 ty, .bool ans, .string s] ∧ Below w.heap.size w w1 ∧ w.heap.size ≤ w1.heap.size) := ⟨K0.out.below b1 (by simp), ((Below.refl _ _).alloc (Nat.le_refl _) _).trans (b1.mono (by simp)), by have := b1.size; simp at this; omega⟩
  clear b1
  have k0 := X1.out.1.at 0 _ rfl
  have k1 := X1.out.1.at 1 _ rfl
  have k2 := X1.out.1.at 2 _ rfl
  have k3 := X1.out.1.at 3 _ rfl
  go_wp2_with fail
  refine (H2.out _).mono ?_
  rintro e w2 ⟨⟨t, rfl, ht⟩, b2⟩
  obtain ⟨cap, w3, hconv, c1, c2, c3⟩ := conv_spec t w2
  rw [ht] at hconv c3
  have z2 := b2.size
  have z1 := X1.out.2.2
  have X3 : Hid (Below w.heap.size w w3 ∧ w2.heap.size < w3.heap.size ∧ Bytes w3 (some ⟨w2.heap.size, 0, none⟩) (dnsL idn ty ans s).length (fun j => (dnsL idn ty ans s).getD j 0)) :=
    ⟨(X1.out.2.1.trans (b2.mono (by omega))).trans (c1.mono (by omega)), c2, c3⟩
  clear b2 c1 c2 c3 ht k0 k1 k2 k3
  go_wp2
  go_ret2
  exact ⟨_, cap, rfl, X3.out.2.2, fun b off hh => by cases hh; exact X3.out.2.1, X3.out.1⟩
theorem specDnsBytes_no (idn ty : Int) (ans : Bool) (s : ByteArray) (w : World) (xs : s.size ≤ 1048576) (h : ¬ ((0 ≤ idn ∧ idn ≤ 65535) ∧ (0 ≤ ty ∧ ty ≤ 65535) ∧ dnB s = true)) :
    SpecL 7 #[.agg #[.int .i64 idn, .int .i64 ty, .bool ans, .string s]] w [] 1 := by
  have H1 : Hid (∀ wx, Calls Tryd.prog 25 #[.agg #[.int .i64 idn, .int .i64 ty, .bool ans, .string s]] wx fun e w' => e = .returned (.bool false) ∧ Below wx.heap.size wx w') := fun wx => by
    have := l03Dns_any idn ty ans s wx xs
    rw [dec_n h] at this
    exact this
  clear h xs
  unfold SpecL
  go_enter Tryd.func7, Tryd.ntmps7
  go_wp2_with fail
  refine (H1.out _).mono ?_
  rintro e w1 ⟨rfl, b1⟩
  have X1 : Hid (Below w.heap.size w w1) := ((Below.refl _ _).alloc (Nat.le_refl _) _).trans (b1.mono (by simp))
  clear b1
  go_wp2
  go_ret2
  exact ⟨_, _, rfl, ⟨fun _ => ⟨Int.le_refl _, by simp⟩, fun h0 => absurd h0 (by simp)⟩, fun b off hh => by cases hh; simp, X1.out.alloc X1.out.size _⟩
theorem labsL_bd (s : ByteArray) (h : ∀ j, (piece s j).size ≤ 255) : ∀ k, ∀ x ∈ labsL s k, 0 ≤ x ∧ x ≤ 255
  | 0 => fun x hx => by cases hx
  | k + 1 => fun x hx => by
    simp only [labsL, List.mem_append, List.mem_singleton] at hx
    rcases hx with (hx | hx) | hx
    · exact labsL_bd s h k x hx
    · have := h k; omega
    · exact nums_bd _ x hx
theorem dnsL_bd (idn ty : Int) (ans : Bool) (s : ByteArray) (hs : s.size ≤ 80) : ∀ x ∈ dnsL idn ty ans s, 0 ≤ x ∧ x ≤ 255 := fun x hx => by
  simp only [dnsL, List.mem_append, List.mem_singleton] at hx
  rcases hx with ((((((hx | hx) | hx) | hx) | hx) | hx) | hx) | hx
  · exact nbl_bd _ _ x hx
  · exact nbl_bd _ _ x hx
  · exact nbl_bd _ _ x hx
  · rw [List.eq_of_mem_replicate hx]; omega
  · exact labsL_bd s (fun j => by have := piece_size s j; omega) _ x hx
  · omega
  · exact nbl_bd _ _ x hx
  · exact nbl_bd _ _ x hx
theorem dnsBytes_both (idn ty : Int) (ans : Bool) (s : ByteArray) (m : Int) (w : World) (xi : idn ≤ 9223372036854775807) (xt : ty ≤ 9223372036854775807) (xs : s.size ≤ 1048576) (hm : w.cell? ⟨0, 0, none⟩ = some (.int .i64 m)) :
    ∃ (L : List Int) (c : Int), L.length ≤ 1000000 ∧ (∀ w, SpecL 7 #[.agg #[.int .i64 idn, .int .i64 ty, .bool ans, .string s]] w L c) ∧ (∀ wx, Below w.heap.size w wx → ImplL 6 #[.agg #[.int .i64 idn, .int .i64 ty, .bool ans, .string s]] wx L c) := by
  have hmx : ∀ wx, Below w.heap.size w wx → wx.cell? ⟨0, 0, none⟩ = some (.int .i64 m) := fun wx hb => by rw [hb.cell (World.block_lt_of_cell? w _ hm)]; exact hm
  by_cases hh : (0 ≤ idn ∧ idn ≤ 65535) ∧ (0 ≤ ty ∧ ty ≤ 65535) ∧ dnB s = true
  · have hl := dnsL_len idn ty ans s
    have hs80 : s.size ≤ 80 := by
      rcases Nat.lt_or_ge 80 s.size with h | h
      · have := hh.2.2; rw [dn_no_len h] at this; cases this
      · exact h
    exact ⟨dnsL idn ty ans s, 0, by omega, fun w => specDnsBytes_yes idn ty ans s w xs hh, fun wx hb => implL_own (dnsL_bd _ _ _ _ hs80) (by omega) (dnsBytes_yes idn ty ans s m wx hh.1 hh.2.1 hh.2.2 (hmx wx hb))⟩
  · exact ⟨[], 1, by simp, fun w => specDnsBytes_no idn ty ans s w xs hh, fun wx hb => implL_nil (dnsBytes_no idn ty ans s m wx xi xt xs (hmx wx hb) hh)⟩
end Go.Proofs.YtfcdobicilediaaDoor
