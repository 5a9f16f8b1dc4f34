/- The walk of laws.FnFrames: frames and questions for macs are read back from their bytes. -/
import Derived.Test.YtcgdpijmfgkalaaBack
namespace Go.Proofs.Ytcgdpijmfgkalaa
open Go.RowKit Go.PlainAid
set_option linter.unusedVariables false
set_option maxRecDepth 20000

theorem lawFrames_skip (a b : Option Addr) (la ca lb cb : Nat) (w : World) (h : 1048576 < la ∨ 1048576 < lb) :
    Calls Try.prog 3 #[.slice a la ca, .slice b lb cb] w fun e w' => e = .returned (.bool true) ∧ Below w.heap.size w w' := by
  by_cases h1 : 1048576 < la
  · go_enter Try.func3, Try.ntmps3
    go_wp2
    go_ret
    exact ⟨rfl, Below.refl _ _⟩
  · have h2 : 1048576 < lb := by omega
    go_enter Try.func3, Try.ntmps3
    go_wp2
    go_ret
    exact ⟨rfl, Below.refl _ _⟩
/-- A row of one's own as a row of bytes. -/
def RowD (w : World) (g cp n : Nat) (F : Nat → Int) : Prop := Bytes w (some ⟨g, 0, none⟩) n F ∧ g < w.heap.size ∧ n ≤ cp ∧ cp ≤ 9223372036854775807
theorem RowD.below {w w' : World} {g cp n : Nat} {F : Nat → Int} (h : RowD w g cp n F) (b : Below w.heap.size w w') : RowD w' g cp n F :=
  ⟨h.1.below b (fun b' o' _ e => by cases e; exact h.2.1), Nat.lt_of_lt_of_le h.2.1 b.size, h.2.2⟩
theorem rowD_of {w : World} {B : Nat} {v : Value} {L : List Int} (O : OwnL 5 w B v L) (hL : ∀ x ∈ L, 0 ≤ x ∧ x ≤ 255) (h0 : 0 < L.length) : ∃ g cp, v = .slice (some ⟨g, 0, none⟩) L.length cp ∧ RowD w g cp L.length (fun j => L.getD j 0) := by
  obtain ⟨g, cp, hv, h1, h2, h3, h4, h5, h6⟩ := Laid.writ (w' := w) O hL h0
  exact ⟨g, cp, hv, ⟨fun k => getD_bd hL k, fun _ => ⟨g, 0, rfl, fun i hi => by rw [Nat.zero_add]; exact h6 i hi⟩⟩, h4, h1, by unfold maxLen at h2; omega⟩
/-- A row of bytes somewhere. -/
def RowS (w : World) (a : Option Addr) (n : Nat) (F : Nat → Int) : Prop := Bytes w a n F ∧ ∀ b off, a = some ⟨b, off, none⟩ → b < w.heap.size
theorem RowS.below {w w' : World} {a : Option Addr} {n : Nat} {F : Nat → Int} (h : RowS w a n F) (b : Below w.heap.size w w') : RowS w' a n F :=
  ⟨h.1.below b (fun b' o' _ e => h.2 b' o' e), fun b' o' e => Nat.lt_of_lt_of_le (h.2 b' o' e) b.size⟩
theorem cut_to (g len cap v : Nat) (h : v ≤ cap) (w : World) : (Instr.slice 22 (.slice (some ⟨g, 0, none⟩) len cap) none (some (.int .i64 (v : Int))) none).run Try.prog w = .ok (.slice (some ⟨g, 0, none⟩) v cap) w := by
  obtain ⟨i0, hi, hz0, hz1, hz2⟩ := info_parts Try.infoB
  have ht : Try.prog.underlying 22 = some (.slice (Try.prog.elem 22)) := by kernel_rfl
  have he : Try.prog.elem 22 = 5 := by kernel_rfl
  rw [run_slice_h w 22 _ len cap ht .i64 _ (by omega) (by omega)]
  have : (⟨g, 0, none⟩ : Addr).add 0 = ⟨g, 0, none⟩ := by unfold Addr.add; simp
  simp [sliced, sizeOf, typeInfo, he, hi, hz1, this]

set_option maxHeartbeats 2000000 in
theorem lawFrames_any (a b : Option Addr) (la ca lb cb : Nat) (f g : Nat → Int) (w : World) (ha : Bytes w a la f) (hb : Bytes w b lb g)
    (pa : ∀ b off, 0 < la → a = some ⟨b, off, none⟩ → b < w.heap.size) (pb : ∀ b' off, 0 < lb → b = some ⟨b', off, none⟩ → b' < w.heap.size) (h1 : la ≤ 1048576) (h2 : lb ≤ 1048576) :
    Calls Try.prog 3 #[.slice a la ca, .slice b lb cb] w fun e w' => e = .returned (.bool true) ∧ Below w.heap.size w w' := by
  have D1 : Hid (Calls Try.prog 7 #[.slice a la ca] w fun e w' => ∃ (d s : ByteArray) (k : Int) (b : ByteArray), e = .returned (.agg #[.string d, .string s, .int .i64 k, .string b]) ∧ Hid (d.size = 6 ∧ s.size = 6 ∧ (k = 2048 ∨ k = 2054) ∧ b.size ≤ 4) ∧ Hid (Below w.heap.size w w')) := FrameOf_any w a la ca f ha h1 pa
  have D2 : Hid (∀ wx, Below w.heap.size w wx → Calls Try.prog 11 #[.slice b lb cb] wx fun e w' => ∃ (op : Int) (sm dm : ByteArray) (si di : Int), e = .returned (.agg #[.int .i64 op, .string sm, .string dm, .int .i64 si, .int .i64 di]) ∧ Hid ((1 ≤ op ∧ op ≤ 2) ∧ sm.size = 6 ∧ dm.size = 6 ∧ (0 ≤ si ∧ si ≤ 4294967295) ∧ (0 ≤ di ∧ di ≤ 4294967295)) ∧ Hid (Below wx.heap.size wx w')) := fun wx bx => ArpOf_any wx b lb cb g (hb.below bx pb) h2 (fun b' o' h0 e => Nat.lt_of_lt_of_le (pb b' o' h0 e) bx.size)
  have D3 : Hid (∀ wx (n : Nat), 1 ≤ n → n ≤ 28 → Below w.heap.size w wx → Calls Try.prog 15 #[.slice b lb cb, .int .i64 0, .int .i64 (n : Int)] wx fun e w' => ∃ v : Nat, e = .returned (.int .i64 (v : Int)) ∧ v < n ∧ ∃ k, w' = wx.drewN k) := fun wx n n1 n2 bx =>
    (at_any wx b lb cb g 0 n (hb.below bx pb) h2 (by omega) (by omega) (by omega)).mono fun e w' ⟨v, h1, h2, h3, h4⟩ => by
      obtain ⟨m, rfl⟩ := Int.eq_ofNat_of_zero_le h2
      exact ⟨m, h1, by omega, h4⟩
  clear ha hb pa pb
  go_enter Try.func3, Try.ntmps3
  go_wp2_with fail
  refine D1.out.mono ?_
  rintro e w1 ⟨d, s, k, bo, rfl, HF, B1⟩
  -- the frame's bytes
  obtain ⟨ln, hln⟩ : ∃ l, l = (frameL d s k bo).length := ⟨_, rfl⟩
  obtain ⟨F, hFF⟩ : ∃ F : Nat → Int, F = fun j => (frameL d s k bo).getD j 0 := ⟨_, rfl⟩
  have l14 : 14 ≤ ln := by rw [hln, frameL_len d s bo k HF.out.1 HF.out.2.1]; omega
  have l18 : ln ≤ 18 := by rw [hln, frameL_len d s bo k HF.out.1 HF.out.2.1]; have := HF.out.2.2.2; omega
  have fb : Hid (∀ j, 0 ≤ F j ∧ F j ≤ 255) := by rw [hFF]; exact fun j => getD_bd (frameL_bd d s bo k) j
  have I1 : Hid (∀ wx, Calls Try.prog 8 #[.agg #[.string d, .string s, .int .i64 k, .string bo]] wx fun e w' => ∃ g cp, e = .returned (.tuple #[.slice (some ⟨g, 0, none⟩) ln cp, .int .i64 0]) ∧ Hid (RowD w' g cp ln F) ∧ Hid (Below wx.heap.size wx w')) := fun wx =>
    (frameBytes_yes d s bo k wx HF.out.1 HF.out.2.1 HF.out.2.2.1 (by have := HF.out.2.2.2; omega)).mono fun e w' ⟨v, B, e1, e2, e3, e4⟩ => by
      obtain ⟨g, cp, hv, hr⟩ := rowD_of e2 (frameL_bd d s bo k) (by omega)
      rw [← hln] at hv hr
      rw [← hFF] at hr
      exact ⟨g, cp, by rw [e1, hv], hr, e4⟩
  have S1 : Hid (∀ wx, Calls Try.prog 9 #[.agg #[.string d, .string s, .int .i64 k, .string bo]] wx fun e w' => ∃ a cp, e = .returned (.tuple #[.slice a ln cp, .int .i64 0]) ∧ Hid (RowS w' a ln F) ∧ Hid (Below wx.heap.size wx w')) := fun wx => by
    have e := specFrameBytes_any d s bo k wx (by have := HF.out.1; omega) (by have := HF.out.2.1; omega) (by have := HF.out.2.2.2; omega)
    rw [if_pos ⟨HF.out.1, HF.out.2.1, HF.out.2.2.1, by have := HF.out.2.2.2; omega⟩] at e
    refine Calls.mono e fun e w' ⟨a, cp, e1, e2, e3, e4⟩ => ⟨a, cp, by rw [e1, hln], ?_, e4⟩
    rw [hln, hFF]; exact ⟨e2, e3⟩
  have R1 : Hid (∀ wx g cp, RowD wx g cp ln F → Calls Try.prog 10 #[.slice (some ⟨g, 0, none⟩) ln cp] wx fun e w' => e = .returned (.tuple #[.agg #[.string d, .string s, .int .i64 k, .string bo], .int .i64 0]) ∧ Hid (Below wx.heap.size wx w')) := fun wx g cp hr => by
    have pp := frame_parts d s bo k HF.out.1 HF.out.2.1 HF.out.2.2.1
    have hlb : ln - 14 = bo.size := by rw [hln, frameL_len d s bo k HF.out.1 HF.out.2.1]; omega
    have e := readFrame_yes (some ⟨g, 0, none⟩) ln cp F wx hr.1 hr.2.2.1 hr.2.2.2 l14 (by omega) (by rw [hFF, pp.2.2.1]; exact HF.out.2.2.1)
    rw [hlb, hFF, pp.1, pp.2.1, pp.2.2.1, pp.2.2.2] at e
    exact e
  clear hln hFF
  have K1 : Hid (Boxed (w1.alloc (.cells #[.string d, .string s, .int .i64 k, .string bo] 24)) w1.heap.size [.string d, .string s, .int .i64 k, .string bo]) := Boxed.new w1 _ _
  have C1 : Hid (Below w.heap.size w (w1.alloc (.cells #[.string d, .string s, .int .i64 k, .string bo] 24))) := B1.out.alloc B1.out.size _
  have L1 : Hid (w1.heap.size < (w1.alloc (.cells #[.string d, .string s, .int .i64 k, .string bo] 24)).heap.size) := by show _ < _; simp
  clear B1 D1
  go_wp2_with fail
  refine (I1.out _).mono ?_
  rintro e w2 ⟨gb, cpb, rfl, Rb, b2⟩
  have K2 : Hid (Boxed w2 w1.heap.size [.string d, .string s, .int .i64 k, .string bo]) := K1.out.below b2.out L1.out
  have C2 : Hid (Below w.heap.size w w2) := C1.out.trans (b2.out.mono C1.out.size)
  have L2 : Hid (w1.heap.size < w2.heap.size) := Nat.lt_of_lt_of_le L1.out b2.out.size
  clear b2 K1 C1 L1 I1
  obtain ⟨q5, hq5⟩ : ∃ q, q = w1.heap.size := ⟨_, rfl⟩
  rw [← hq5] at K2 L2
  rw [← hq5]
  clear hq5
  have c0 := K2.out.at 0 _ rfl
  have c1 := K2.out.at 1 _ rfl
  have c2 := K2.out.at 2 _ rfl
  have c3 := K2.out.at 3 _ rfl
  go_wp2_with fail
  refine (S1.out _).mono ?_
  rintro e w3 ⟨aw, cpw, rfl, Rw, b3⟩
  have K3 : Hid (Boxed w3 q5 [.string d, .string s, .int .i64 k, .string bo]) := K2.out.below b3.out L2.out
  have C3 : Hid (Below w.heap.size w w3) := C2.out.trans (b3.out.mono C2.out.size)
  have L3 : Hid (q5 < w3.heap.size) := Nat.lt_of_lt_of_le L2.out b3.out.size
  have Rb3 : Hid (RowD w3 gb cpb ln F) := Rb.out.below b3.out
  clear b3 K2 C2 L2 Rb S1 c0 c1 c2 c3
  go_wp2_with fail
  refine (R1.out _ _ _ Rb3.out).mono ?_
  rintro e w4 ⟨rfl, b4⟩
  have K4 : Hid (Boxed w4 q5 [.string d, .string s, .int .i64 k, .string bo]) := K3.out.below b4.out L3.out
  have C4 : Hid (Below w.heap.size w w4) := C3.out.trans (b4.out.mono C3.out.size)
  have L4 : Hid (q5 < w4.heap.size) := Nat.lt_of_lt_of_le L3.out b4.out.size
  have Rb4 : Hid (RowD w4 gb cpb ln F) := Rb3.out.below b4.out
  have Rw4 : Hid (RowS w4 aw ln F) := Rw.out.below b4.out
  clear b4 K3 C3 L3 Rb3 Rw R1
  -- the frame that was read is laid
  obtain ⟨W5, hW5⟩ : ∃ W, W = w4.alloc (.cells #[.string d, .string s, .int .i64 k, .string bo] 24) := ⟨_, rfl⟩
  have b5 : Below w4.heap.size w4 W5 := by rw [hW5]; exact (Below.refl _ _).alloc (Nat.le_refl _) _
  have K5 : Hid (Boxed W5 q5 [.string d, .string s, .int .i64 k, .string bo]) := K4.out.below b5 L4.out
  have X5 : Hid (Boxed W5 w4.heap.size [.string d, .string s, .int .i64 k, .string bo]) := by rw [hW5]; exact Boxed.new w4 _ _
  have C5 : Hid (Below w.heap.size w W5) := C4.out.trans (b5.mono C4.out.size)
  have L5 : Hid (q5 < W5.heap.size ∧ w4.heap.size < W5.heap.size) := ⟨Nat.lt_of_lt_of_le L4.out b5.size, by rw [hW5]; simp⟩
  have Rb5 : Hid (RowD W5 gb cpb ln F) := Rb4.out.below b5
  have Rw5 : Hid (RowS W5 aw ln F) := Rw4.out.below b5
  clear b5 K4 C4 L4 Rb4 Rw4
  obtain ⟨q10, hq10⟩ : ∃ q, q = w4.heap.size := ⟨_, rfl⟩
  go_wp2_with fail
  rw [← hW5]
  rw [← hq10] at X5 L5
  rw [← hq10]
  clear hW5 hq10
  refine (D2.out _ C5.out).mono ?_
  rintro e w6 ⟨op, sm, dm, si, di, rfl, HA, b6⟩
  have hAL : (arpL op sm dm si di).length = 28 := arpL_len op sm dm si di HA.out.2.1 HA.out.2.2.1
  obtain ⟨G, hG⟩ : ∃ G : Nat → Int, G = fun j => (arpL op sm dm si di).getD j 0 := ⟨_, rfl⟩
  have I2 : Hid (∀ wx, Calls Try.prog 12 #[.agg #[.int .i64 op, .string sm, .string dm, .int .i64 si, .int .i64 di]] wx fun e w' => ∃ g cp, e = .returned (.tuple #[.slice (some ⟨g, 0, none⟩) 28 cp, .int .i64 0]) ∧ Hid (RowD w' g cp 28 G) ∧ Hid (Below wx.heap.size wx w')) := fun wx =>
    (arpBytes_yes op sm dm si di wx HA.out).mono fun e w' ⟨v, B, e1, e2, e3, e4⟩ => by
      obtain ⟨g, cp, hv, hr⟩ := rowD_of e2 (arpL_bd op sm dm si di) (by omega)
      rw [hAL] at hv hr
      rw [← hG] at hr
      exact ⟨g, cp, by rw [e1, hv], hr, e4⟩
  have S2 : Hid (∀ wx, Calls Try.prog 13 #[.agg #[.int .i64 op, .string sm, .string dm, .int .i64 si, .int .i64 di]] wx fun e w' => ∃ a cp, e = .returned (.tuple #[.slice a 28 cp, .int .i64 0]) ∧ Hid (RowS w' a 28 G) ∧ Hid (Below wx.heap.size wx w')) := fun wx => by
    have ho := HA.out
    have e := specArpBytes_yes op sm dm si di wx (by omega) (by omega) (by omega) (by omega) (by omega) HA.out
    refine Calls.mono e fun e w' ⟨a, cp, e1, e2, e3, e4⟩ => ⟨a, cp, by rw [e1, hAL], ?_, e4⟩
    rw [hAL] at e2
    rw [hG]; exact ⟨e2, e3⟩
  have R2 : Hid (∀ wx g cp, RowD wx g cp 28 G → Calls Try.prog 14 #[.slice (some ⟨g, 0, none⟩) 28 cp] wx fun e w' => e = .returned (.tuple #[.agg #[.int .i64 op, .string sm, .string dm, .int .i64 si, .int .i64 di], .int .i64 0]) ∧ Hid (Below wx.heap.size wx w')) := fun wx g cp hr => by
    have pp := arp_parts op sm dm si di HA.out.1 HA.out.2.1 HA.out.2.2.1 HA.out.2.2.2.1 HA.out.2.2.2.2
    have e := readArp_yes (some ⟨g, 0, none⟩) cp G wx hr.1 hr.2.2.1 hr.2.2.2 (by rw [hG]; exact arp_begins op sm dm si di HA.out.2.1 HA.out.2.2.1) (by rw [hG, pp.1]; exact HA.out.1)
    rw [hG, pp.1, pp.2.1, pp.2.2.1, pp.2.2.2.1, pp.2.2.2.2] at e
    exact e
  have gb' : Hid (∀ j, 0 ≤ G j ∧ G j ≤ 255) := by rw [hG]; exact fun j => getD_bd (arpL_bd op sm dm si di) j
  clear hG hAL D2
  obtain ⟨W6, hW6⟩ : ∃ W, W = w6.alloc (.cells #[.int .i64 op, .string sm, .string dm, .int .i64 si, .int .i64 di] 31) := ⟨_, rfl⟩
  have b6' : Below W5.heap.size W5 W6 := by rw [hW6]; exact b6.out.alloc b6.out.size _
  have K6 : Hid (Boxed W6 q5 [.string d, .string s, .int .i64 k, .string bo]) := K5.out.below b6' L5.out.1
  have X6 : Hid (Boxed W6 q10 [.string d, .string s, .int .i64 k, .string bo]) := X5.out.below b6' L5.out.2
  have A6 : Hid (Boxed W6 w6.heap.size [.int .i64 op, .string sm, .string dm, .int .i64 si, .int .i64 di]) := by rw [hW6]; exact Boxed.new w6 _ _
  have C6 : Hid (Below w.heap.size w W6) := C5.out.trans (b6'.mono C5.out.size)
  have L6 : Hid (q5 < W6.heap.size ∧ q10 < W6.heap.size ∧ w6.heap.size < W6.heap.size) := ⟨Nat.lt_of_lt_of_le L5.out.1 b6'.size, Nat.lt_of_lt_of_le L5.out.2 b6'.size, by rw [hW6]; simp⟩
  have Rb6 : Hid (RowD W6 gb cpb ln F) := Rb5.out.below b6'
  have Rw6 : Hid (RowS W6 aw ln F) := Rw5.out.below b6'
  clear b6 b6' K5 X5 C5 L5 Rb5 Rw5
  obtain ⟨q12, hq12⟩ : ∃ q, q = w6.heap.size := ⟨_, rfl⟩
  go_wp2_with fail
  rw [← hW6]
  rw [← hq12] at A6 L6
  rw [← hq12]
  clear hW6 hq12
  refine (I2.out _).mono ?_
  rintro e w7 ⟨gt, cpt, rfl, Rt, b7⟩
  have K7 : Hid (Boxed w7 q5 [.string d, .string s, .int .i64 k, .string bo]) := K6.out.below b7.out L6.out.1
  have X7 : Hid (Boxed w7 q10 [.string d, .string s, .int .i64 k, .string bo]) := X6.out.below b7.out L6.out.2.1
  have A7 : Hid (Boxed w7 q12 [.int .i64 op, .string sm, .string dm, .int .i64 si, .int .i64 di]) := A6.out.below b7.out L6.out.2.2
  have C7 : Hid (Below w.heap.size w w7) := C6.out.trans (b7.out.mono C6.out.size)
  have L7 : Hid (q5 < w7.heap.size ∧ q10 < w7.heap.size ∧ q12 < w7.heap.size) := ⟨Nat.lt_of_lt_of_le L6.out.1 b7.out.size, Nat.lt_of_lt_of_le L6.out.2.1 b7.out.size, Nat.lt_of_lt_of_le L6.out.2.2 b7.out.size⟩
  have Rb7 : Hid (RowD w7 gb cpb ln F) := Rb6.out.below b7.out
  have Rw7 : Hid (RowS w7 aw ln F) := Rw6.out.below b7.out
  clear b7 K6 X6 A6 C6 L6 Rb6 Rw6 I2
  have c0 := A7.out.at 0 _ rfl
  have c1 := A7.out.at 1 _ rfl
  have c2 := A7.out.at 2 _ rfl
  have c3 := A7.out.at 3 _ rfl
  have c4 := A7.out.at 4 _ rfl
  go_wp2_with fail
  refine (S2.out _).mono ?_
  rintro e w8 ⟨au, cpu, rfl, Ru, b8⟩
  have K8 : Hid (Boxed w8 q5 [.string d, .string s, .int .i64 k, .string bo]) := K7.out.below b8.out L7.out.1
  have X8 : Hid (Boxed w8 q10 [.string d, .string s, .int .i64 k, .string bo]) := X7.out.below b8.out L7.out.2.1
  have A8 : Hid (Boxed w8 q12 [.int .i64 op, .string sm, .string dm, .int .i64 si, .int .i64 di]) := A7.out.below b8.out L7.out.2.2
  have C8 : Hid (Below w.heap.size w w8) := C7.out.trans (b8.out.mono C7.out.size)
  have L8 : Hid (q5 < w8.heap.size ∧ q10 < w8.heap.size ∧ q12 < w8.heap.size) := ⟨Nat.lt_of_lt_of_le L7.out.1 b8.out.size, Nat.lt_of_lt_of_le L7.out.2.1 b8.out.size, Nat.lt_of_lt_of_le L7.out.2.2 b8.out.size⟩
  have Rb8 : Hid (RowD w8 gb cpb ln F) := Rb7.out.below b8.out
  have Rw8 : Hid (RowS w8 aw ln F) := Rw7.out.below b8.out
  have Rt8 : Hid (RowD w8 gt cpt 28 G) := Rt.out.below b8.out
  clear b8 K7 X7 A7 C7 L7 Rb7 Rw7 Rt S2 c0 c1 c2 c3 c4
  go_wp2_with fail
  refine (R2.out _ _ _ Rt8.out).mono ?_
  rintro e w9 ⟨rfl, b9⟩
  obtain ⟨W9, hW9⟩ : ∃ W, W = w9.alloc (.cells #[.int .i64 op, .string sm, .string dm, .int .i64 si, .int .i64 di] 31) := ⟨_, rfl⟩
  have b9' : Below w8.heap.size w8 W9 := by rw [hW9]; exact b9.out.alloc b9.out.size _
  have K9 : Hid (Boxed W9 q5 [.string d, .string s, .int .i64 k, .string bo]) := K8.out.below b9' L8.out.1
  have X9 : Hid (Boxed W9 q10 [.string d, .string s, .int .i64 k, .string bo]) := X8.out.below b9' L8.out.2.1
  have A9 : Hid (Boxed W9 q12 [.int .i64 op, .string sm, .string dm, .int .i64 si, .int .i64 di]) := A8.out.below b9' L8.out.2.2
  have Y9 : Hid (Boxed W9 w9.heap.size [.int .i64 op, .string sm, .string dm, .int .i64 si, .int .i64 di]) := by rw [hW9]; exact Boxed.new w9 _ _
  have C9 : Hid (Below w.heap.size w W9) := C8.out.trans (b9'.mono C8.out.size)
  have L9 : Hid (q5 < W9.heap.size ∧ q10 < W9.heap.size ∧ q12 < W9.heap.size ∧ w9.heap.size < W9.heap.size) := ⟨Nat.lt_of_lt_of_le L8.out.1 b9'.size, Nat.lt_of_lt_of_le L8.out.2.1 b9'.size, Nat.lt_of_lt_of_le L8.out.2.2 b9'.size, by rw [hW9]; simp⟩
  have Rb9 : Hid (RowD W9 gb cpb ln F) := Rb8.out.below b9'
  have Rw9 : Hid (RowS W9 aw ln F) := Rw8.out.below b9'
  have Rt9 : Hid (RowD W9 gt cpt 28 G) := Rt8.out.below b9'
  have Ru9 : Hid (RowS W9 au 28 G) := Ru.out.below b9'
  clear b9 b9' K8 X8 A8 C8 L8 Rb8 Rw8 Rt8 Ru R2
  obtain ⟨q17, hq17⟩ : ∃ q, q = w9.heap.size := ⟨_, rfl⟩
  have mn : min (28 : Int) (ln : Int) = (ln : Int) := by omega
  have ml : ¬ (28 : Int) < (ln : Int) := by omega
  go_wp2_with fail
  rw [← hW9]
  rw [← hq17] at Y9 L9
  rw [← hq17]
  clear hW9 hq17
  refine (D3.out _ ln (by omega) (by omega) C9.out).mono ?_
  rintro e w10 ⟨v, rfl, hv, kq, hw10⟩
  have b10 : Below W9.heap.size W9 w10 := by rw [hw10]; exact ⟨rfl, rfl, rfl, Nat.le_refl _, fun _ _ => rfl⟩
  have RF : Hid (Calls Try.prog 14 #[.slice (some ⟨gb, 0, none⟩) v cpb] w10 fun e w' => e = .returned (.tuple #[.agg #[.int .i64 0, .string ⟨#[]⟩, .string ⟨#[]⟩, .int .i64 0, .int .i64 0], .int .i64 3]) ∧ Below w10.heap.size w10 w') := readArp_form _ v cpb w10 (by omega) (by omega)
  have hsl := cut_to gb ln cpb v (by have := Rb9.out.2.2.1; omega)
  clear hw10 mn ml
  have z10 := b10.size
  have B10 : Hid (Below W9.heap.size W9 w10) := b10
  clear b10
  go_wp2_with fail
  refine RF.out.mono ?_
  rintro e w11 ⟨rfl, b11⟩
  obtain ⟨Wf, hWf⟩ : ∃ W, W = w11.alloc (.cells #[.int .i64 0, .string ⟨#[]⟩, .string ⟨#[]⟩, .int .i64 0, .int .i64 0] 31) := ⟨_, rfl⟩
  have bf : Below W9.heap.size W9 Wf := by rw [hWf]; exact (B10.out.trans (b11.mono z10)).alloc (by have := b11.size; omega) _
  have Kf := K9.out.below bf L9.out.1
  have Xf := X9.out.below bf L9.out.2.1
  have Af := A9.out.below bf L9.out.2.2.1
  have Yf := Y9.out.below bf L9.out.2.2.2
  have Cf : Hid (Below w.heap.size w Wf) := C9.out.trans (bf.mono C9.out.size)
  have hc1 := conv_row (P := Try.prog) Wf 22 9 5 Try.underlying22 Try.underlying5 Try.underlying9 _ ln cpb F (Rb9.out.below bf).1
  have hc2 := conv_row (P := Try.prog) Wf 22 9 5 Try.underlying22 Try.underlying5 Try.underlying9 aw ln cpw F (Rw9.out.below bf).1
  have hc3 := conv_row (P := Try.prog) Wf 22 9 5 Try.underlying22 Try.underlying5 Try.underlying9 _ 28 cpt G (Rt9.out.below bf).1
  have hc4 := conv_row (P := Try.prog) Wf 22 9 5 Try.underlying22 Try.underlying5 Try.underlying9 au 28 cpu G (Ru9.out.below bf).1
  obtain ⟨T1, hT1⟩ : ∃ T, T = strOf F ln := ⟨_, rfl⟩
  obtain ⟨T2, hT2⟩ : ∃ T, T = strOf G 28 := ⟨_, rfl⟩
  rw [← hT1] at hc1 hc2
  rw [← hT2] at hc3 hc4
  have k0 := Kf.at 0 _ rfl
  have k1 := Kf.at 1 _ rfl
  have k2 := Kf.at 2 _ rfl
  have k3 := Kf.at 3 _ rfl
  have x0 := Xf.at 0 _ rfl
  have x1 := Xf.at 1 _ rfl
  have x2 := Xf.at 2 _ rfl
  have x3 := Xf.at 3 _ rfl
  have a0 := Af.at 0 _ rfl
  have a1 := Af.at 1 _ rfl
  have a2 := Af.at 2 _ rfl
  have a3 := Af.at 3 _ rfl
  have a4 := Af.at 4 _ rfl
  have y0 := Yf.at 0 _ rfl
  have y1 := Yf.at 1 _ rfl
  have y2 := Yf.at 2 _ rfl
  have y3 := Yf.at 3 _ rfl
  have y4 := Yf.at 4 _ rfl
  clear hT1 hT2 Kf Xf Af Yf K9 X9 A9 Y9 C9 L9 Rb9 Rw9 Rt9 Ru9 bf b11 B10 RF hsl z10 D3 HF HA fb gb'
  subst hWf
  go_wp2
  go_ret
  exact ⟨rfl, Cf.out⟩
end Go.Proofs.Ytcgdpijmfgkalaa
