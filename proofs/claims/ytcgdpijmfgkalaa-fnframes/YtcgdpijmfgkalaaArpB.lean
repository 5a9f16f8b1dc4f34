/- The program ArpBytes. -/
import Derived.Test.YtcgdpijmfgkalaaPacketB
namespace Go.Proofs.Ytcgdpijmfgkalaa
open Go.RowKit Go.PlainAid
set_option linter.unusedVariables false
set_option maxRecDepth 20000

def arpH : List Int := [0, 1, 8, 0, 6, 4]
theorem arpH_nums : nums ⟨#[0, 1, 8, 0, 6, 4]⟩ = arpH := rfl
def arpL (op : Int) (sm dm : ByteArray) (si di : Int) : List Int := arpH ++ nbl op 2 ++ nums sm ++ nbl si 4 ++ nums dm ++ nbl di 4
theorem arpL_len (op : Int) (sm dm : ByteArray) (si di : Int) (h : sm.size = 6) (h' : dm.size = 6) : (arpL op sm dm si di).length = 28 := by simp [arpL, arpH, nbl_len, nums_len, h, h']
theorem arpH_bd : ∀ x ∈ arpH, 0 ≤ x ∧ x ≤ 255 := by rw [← arpH_nums]; exact nums_bd _
theorem arpL_bd (op : Int) (sm dm : ByteArray) (si di : Int) : ∀ x ∈ arpL op sm dm si di, 0 ≤ x ∧ x ≤ 255 :=
  bdA (bdA (bdA (bdA (bdA arpH_bd (nbl_bd _ _)) (nums_bd _)) (nbl_bd _ _)) (nums_bd _)) (nbl_bd _ _)

set_option maxHeartbeats 4000000 in
theorem arpBytes_yes (op : Int) (sm : ByteArray) (dm : ByteArray) (si : Int) (di : Int) (w : World) (h : (1 ≤ op ∧ op ≤ 2) ∧ (sm.size = 6) ∧ (dm.size = 6) ∧ (0 ≤ si ∧ si ≤ 4294967295) ∧ (0 ≤ di ∧ di ≤ 4294967295)) :
    Calls Try.prog 12 #[.agg #[.int .i64 op, .string sm, .string dm, .int .i64 si, .int .i64 di]] w fun e w' => ∃ v B, e = .returned (.tuple #[v, .int .i64 0]) ∧ OwnL 5 w' B v (arpL op sm dm si di) ∧ w.heap.size ≤ B ∧ Below w.heap.size w w' := by
  have bo := dec_y h.1
  have bs := dec_y h.2.2.2.1
  have bd := dec_y h.2.2.2.2
  have g0 := h.1.1
  have g1 := h.1.2
  have hs := h.2.1
  have hd := h.2.2.1
  have g4 := h.2.2.2.1.1
  have g5 := h.2.2.2.1.2
  have g6 := h.2.2.2.2.1
  have g7 := h.2.2.2.2.2
  clear h
  go_enter Try.func12, Try.ntmps12
  go_wp2_with fail
  refine (macOf_yes sm _ hs).mono ?_
  rintro e w1 ⟨rfl, b1⟩
  have z1 := b1.size
  simp only [World.size_alloc] at z1
  have X1 : Hid (Boxed w1 w.heap.size [.int .i64 op, .string sm, .string dm, .int .i64 si, .int .i64 di] ∧ Below w.heap.size w w1) :=
    ⟨(Boxed.new w _ _).below b1 (by simp), ((Below.refl _ _).alloc (Nat.le_refl _) _).trans (b1.mono (by simp))⟩
  clear b1
  have k1 := (X1.out.1.alloc (by omega) (.cells #[.int .u8 (bt sm 0), .int .u8 (bt sm 1), .int .u8 (bt sm 2), .int .u8 (bt sm 3), .int .u8 (bt sm 4), .int .u8 (bt sm 5)] 54)).at 2 _ rfl
  have A1 : Hid (Boxed (w1.alloc (.cells #[.int .u8 (bt sm 0), .int .u8 (bt sm 1), .int .u8 (bt sm 2), .int .u8 (bt sm 3), .int .u8 (bt sm 4), .int .u8 (bt sm 5)] 54)) w1.heap.size ([bt sm 0, bt sm 1, bt sm 2, bt sm 3, bt sm 4, bt sm 5].map (Value.int .u8))) := Boxed.new w1 _ _
  go_wp2_with fail
  refine (macOf_yes dm _ hd).mono ?_
  rintro e w2 ⟨rfl, b2⟩
  have z2 := b2.size
  simp only [World.size_alloc] at z2
  have X2 : Hid (Boxed w2 w.heap.size [.int .i64 op, .string sm, .string dm, .int .i64 si, .int .i64 di] ∧ Below w.heap.size w w2 ∧ Boxed w2 w1.heap.size ([bt sm 0, bt sm 1, bt sm 2, bt sm 3, bt sm 4, bt sm 5].map (Value.int .u8))) :=
    ⟨(X1.out.1.alloc (by omega) _).below b2 (by simp; omega), (X1.out.2.alloc (by omega) _).trans (b2.mono (by simp; omega)), A1.out.below b2 (by simp)⟩
  clear b2 k1 A1
  have A2 : Hid (Boxed (w2.alloc (.cells #[.int .u8 (bt dm 0), .int .u8 (bt dm 1), .int .u8 (bt dm 2), .int .u8 (bt dm 3), .int .u8 (bt dm 4), .int .u8 (bt dm 5)] 54)) w2.heap.size ([bt dm 0, bt dm 1, bt dm 2, bt dm 3, bt dm 4, bt dm 5].map (Value.int .u8))) := Boxed.new w2 _ _
  obtain ⟨w3, hw3⟩ : ∃ w3, w3 = w2.alloc (.cells #[.int .u8 (bt dm 0), .int .u8 (bt dm 1), .int .u8 (bt dm 2), .int .u8 (bt dm 3), .int .u8 (bt dm 4), .int .u8 (bt dm 5)] 54) := ⟨_, rfl⟩
  have z3 : w2.heap.size + 1 ≤ w3.heap.size := by rw [hw3]; simp
  have X3 : Hid (Boxed w3 w.heap.size [.int .i64 op, .string sm, .string dm, .int .i64 si, .int .i64 di] ∧ Below w.heap.size w w3 ∧ Boxed w3 w1.heap.size ([bt sm 0, bt sm 1, bt sm 2, bt sm 3, bt sm 4, bt sm 5].map (Value.int .u8)) ∧ Boxed w3 w2.heap.size ([bt dm 0, bt dm 1, bt dm 2, bt dm 3, bt dm 4, bt dm 5].map (Value.int .u8))) := by
    rw [hw3]
    exact ⟨X2.out.1.alloc (by omega) _, X2.out.2.1.alloc (by omega) _, X2.out.2.2.alloc (by omega) _, A2.out⟩
  clear A2
  have k0 := X3.out.1.at 0 _ rfl
  have k3 := X3.out.1.at 3 _ rfl
  have k4 := X3.out.1.at 4 _ rfl
  rw [hw3] at k0 k3 k4
  go_wp2_with fail
  refine (opOK_any _ _).mono ?_
  rintro e w4 ⟨rfl, hw4⟩
  rw [← hw3] at hw4
  rw [← hw3] at k0 k3 k4
  clear hw3
  obtain rfl := hw4.symm
  clear hw4
  go_wp2_with fail
  refine (addressOK_any _ _).mono ?_
  rintro e w4 ⟨rfl, hw4⟩
  obtain rfl := hw4.symm
  clear hw4
  go_wp2_with fail
  refine (addressOK_any _ _).mono ?_
  rintro e w4 ⟨rfl, hw4⟩
  obtain rfl := hw4.symm
  clear hw4
  obtain ⟨MC, hMC⟩ := make_room (28) (by omega)
  have O0 : Hid (OwnL 5 (w3.alloc (.cells MC 5)) w3.heap.size (.slice (some ⟨w3.heap.size, 0, none⟩) 0 (28)) []) := (hMC w3).2
  have hmk : (Instr.makeSlice 22 (.int .i64 0) (.int .i64 (28))).run Try.prog w3 = .ok (.slice (some ⟨w3.heap.size, 0, none⟩) 0 (28)) (w3.alloc (.cells MC 5)) := by
    have := (hMC w3).1
    simpa using this
  clear hMC
  have B0 : Hid (Below w3.heap.size w3 (w3.alloc (.cells MC 5))) := (Below.refl _ _).alloc (Nat.le_refl _) _
  go_wp2_with (at_builtin; refine wpl_str _ rfl _ _ rfl w3.heap.size _ [] rfl O0.out ⟨#[0, 1, 8, 0, 6, 4]⟩ rfl (by decide) (by simp) ?_)
  intro v1_ w1_ Y1
  have B1 : Hid (Below w3.heap.size w3 w1_) := B0.out.trans Y1.out.below
  have z1_ := B1.out.size
  have j1_0 := (X3.out.1.below B1.out (by omega)).at 0 _ rfl
  go_wp2_with fail
  refine (addNum v1_ _ op 2 _ w3.heap.size Y1.out.own (by omega) (by omega) (by omega) (by omega) (by simp; omega) (by omega) (by simp [arpH_nums, arpH])).mono ?_
  rintro e w2_ ⟨v2_, rfl, Y2⟩
  have B2 : Hid (Below w3.heap.size w3 w2_) := B1.out.trans Y2.out.below
  have z2_ := B2.out.size
  clear j1_0
  go_wp2_with (at_builtin; refine wpl_app _ rfl _ _ rfl w3.heap.size _ _ rfl Y2.out.own ⟨w1.heap.size, 0, none⟩ 6 6 [bt sm 0, bt sm 1, bt sm 2, bt sm 3, bt sm 4, bt sm 5] rfl rfl (news_row (X3.out.2.2.1.below B2.out (by omega))) (by simp [arpH_nums, arpH, nbl_len]) (by omega) ?_)
  intro v3_ w3_ Y3
  have B3 : Hid (Below w3.heap.size w3 w3_) := B2.out.trans Y3.out.below
  have z3_ := B3.out.size
  have j3_3 := (X3.out.1.below B3.out (by omega)).at 3 _ rfl
  go_wp2_with fail
  refine (addNum v3_ _ si 4 _ w3.heap.size Y3.out.own (by omega) (by omega) (by omega) (by omega) (by simp; omega) (by omega) (by simp [arpH_nums, arpH, nbl_len])).mono ?_
  rintro e w4_ ⟨v4_, rfl, Y4⟩
  have B4 : Hid (Below w3.heap.size w3 w4_) := B3.out.trans Y4.out.below
  have z4_ := B4.out.size
  clear j3_3
  go_wp2_with (at_builtin; refine wpl_app _ rfl _ _ rfl w3.heap.size _ _ rfl Y4.out.own ⟨w2.heap.size, 0, none⟩ 6 6 [bt dm 0, bt dm 1, bt dm 2, bt dm 3, bt dm 4, bt dm 5] rfl rfl (news_row (X3.out.2.2.2.below B4.out (by omega))) (by simp [arpH_nums, arpH, nbl_len]) (by omega) ?_)
  intro v5_ w5_ Y5
  have B5 : Hid (Below w3.heap.size w3 w5_) := B4.out.trans Y5.out.below
  have z5_ := B5.out.size
  have j5_4 := (X3.out.1.below B5.out (by omega)).at 4 _ rfl
  go_wp2_with fail
  refine (addNum v5_ _ di 4 _ w3.heap.size Y5.out.own (by omega) (by omega) (by omega) (by omega) (by simp; omega) (by omega) (by simp [arpH_nums, arpH, nbl_len])).mono ?_
  rintro e w6_ ⟨v6_, rfl, Y6⟩
  have B6 : Hid (Below w3.heap.size w3 w6_) := B5.out.trans Y6.out.below
  have z6_ := B6.out.size
  clear j5_4
  go_wp2
  go_ret2
  refine ⟨v6_, w3.heap.size, rfl, ?_, by omega, X3.out.2.1.trans (B6.out.mono (by omega))⟩
  have := Y6.out.own
  rw [arpL, nums6 sm hs, nums6 dm hd]
  simpa [arpH_nums] using this

set_option maxHeartbeats 4000000 in
theorem arpBytes_no (op : Int) (sm : ByteArray) (dm : ByteArray) (si : Int) (di : Int) (w : World) (xs : sm.size ≤ 1048576) (xd : dm.size ≤ 1048576) (h : ¬ ((1 ≤ op ∧ op ≤ 2) ∧ (sm.size = 6) ∧ (dm.size = 6) ∧ (0 ≤ si ∧ si ≤ 4294967295) ∧ (0 ≤ di ∧ di ≤ 4294967295))) :
    Calls Try.prog 12 #[.agg #[.int .i64 op, .string sm, .string dm, .int .i64 si, .int .i64 di]] w fun e w' => e = .returned (.tuple #[.slice none 0 0, .int .i64 1]) ∧ Below w.heap.size w w' := by
  have H : Hid (¬ ((1 ≤ op ∧ op ≤ 2) ∧ (sm.size = 6) ∧ (dm.size = 6) ∧ (0 ≤ si ∧ si ≤ 4294967295) ∧ (0 ≤ di ∧ di ≤ 4294967295))) := h
  clear h
  go_enter Try.func12, Try.ntmps12
  go_wp2_with fail
  refine (macOf_any sm _ (by omega)).mono ?_
  rintro e w1 ⟨⟨m0, m1, m2, m3, m4, m5, rfl⟩, b1⟩
  have z1 := b1.size
  simp only [World.size_alloc] at z1
  have X1 : Hid (Boxed w1 w.heap.size [.int .i64 op, .string sm, .string dm, .int .i64 si, .int .i64 di] ∧ Below w.heap.size w w1) :=
    ⟨(Boxed.new w _ _).below b1 (by simp), ((Below.refl _ _).alloc (Nat.le_refl _) _).trans (b1.mono (by simp))⟩
  clear b1
  have k1 := (X1.out.1.alloc (by omega) (.cells #[.int .u8 m0, .int .u8 m1, .int .u8 m2, .int .u8 m3, .int .u8 m4, .int .u8 m5] 54)).at 2 _ rfl
  go_wp2_with fail
  refine (macOf_any dm _ (by omega)).mono ?_
  rintro e w2 ⟨⟨n0, n1, n2, n3, n4, n5, rfl⟩, b2⟩
  have z2 := b2.size
  simp only [World.size_alloc] at z2
  have X2 : Hid (Boxed w2 w.heap.size [.int .i64 op, .string sm, .string dm, .int .i64 si, .int .i64 di] ∧ Below w.heap.size w w2) :=
    ⟨(X1.out.1.alloc (by omega) _).below b2 (by simp; omega), (X1.out.2.alloc (by omega) _).trans (b2.mono (by simp; omega))⟩
  clear b2 k1
  have X3 : Hid (Boxed (w2.alloc (.cells #[.int .u8 n0, .int .u8 n1, .int .u8 n2, .int .u8 n3, .int .u8 n4, .int .u8 n5] 54)) w.heap.size [.int .i64 op, .string sm, .string dm, .int .i64 si, .int .i64 di] ∧ Below w.heap.size w (w2.alloc (.cells #[.int .u8 n0, .int .u8 n1, .int .u8 n2, .int .u8 n3, .int .u8 n4, .int .u8 n5] 54))) :=
    ⟨X2.out.1.alloc (by omega) _, X2.out.2.alloc (by omega) _⟩
  have k0 := X3.out.1.at 0 _ rfl
  have k3 := X3.out.1.at 3 _ rfl
  have k4 := X3.out.1.at 4 _ rfl
  by_cases h2 : sm.size = 6
  rotate_left
  · have bh2 : decide (sm.size = 6) = false := decide_eq_false h2
    go_wp2
    go_ret2
    exact ⟨rfl, X3.out.2⟩
  have bh2 : decide (sm.size = 6) = true := decide_eq_true h2
  have Kh2 : Hid (sm.size = 6) := h2
  by_cases h3 : dm.size = 6
  rotate_left
  · have bh3 : decide (dm.size = 6) = false := decide_eq_false h3
    go_wp2
    go_ret2
    exact ⟨rfl, X3.out.2⟩
  have bh3 : decide (dm.size = 6) = true := decide_eq_true h3
  have Kh3 : Hid (dm.size = 6) := h3
  go_wp2_with fail
  refine (opOK_any _ _).mono ?_
  rintro e w4 ⟨rfl, hw4⟩
  obtain rfl := hw4.symm
  clear hw4
  by_cases h1 : 1 ≤ op ∧ op ≤ 2
  rotate_left
  · have bh1 : dec (1 ≤ op ∧ op ≤ 2) = false := dec_n h1
    go_wp2
    go_ret2
    exact ⟨rfl, X3.out.2⟩
  have bh1 : dec (1 ≤ op ∧ op ≤ 2) = true := dec_y h1
  have Kh1 : Hid (1 ≤ op ∧ op ≤ 2) := h1
  clear h1
  go_wp2_with fail
  refine (addressOK_any _ _).mono ?_
  rintro e w4 ⟨rfl, hw4⟩
  obtain rfl := hw4.symm
  clear hw4
  by_cases h4 : 0 ≤ si ∧ si ≤ 4294967295
  rotate_left
  · have bh4 : dec (0 ≤ si ∧ si ≤ 4294967295) = false := dec_n h4
    go_wp2
    go_ret2
    exact ⟨rfl, X3.out.2⟩
  have bh4 : dec (0 ≤ si ∧ si ≤ 4294967295) = true := dec_y h4
  have Kh4 : Hid (0 ≤ si ∧ si ≤ 4294967295) := h4
  clear h4
  have bh5 : dec (0 ≤ di ∧ di ≤ 4294967295) = false := dec_n (fun hh => H.out ⟨Kh1.out, Kh2.out, Kh3.out, Kh4.out, hh⟩)
  go_wp2_with fail
  refine (addressOK_any _ _).mono ?_
  rintro e w4 ⟨rfl, hw4⟩
  obtain rfl := hw4.symm
  clear hw4
  go_wp2
  go_ret2
  exact ⟨rfl, X3.out.2⟩
end Go.Proofs.Ytcgdpijmfgkalaa
