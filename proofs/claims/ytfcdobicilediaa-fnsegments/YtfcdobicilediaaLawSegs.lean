/- The walk of laws.FnSegments: segments and datagrams are read back from their bytes; with a bit turned, or between other ends, they are none. -/
import Derived.Test.YtfcdobicilediaaOfSegment
import Derived.Test.YtfcdobicilediaaOfDatagram
import Derived.Test.YtfcdobicilediaaDgBack
import Derived.Test.YtfcdobicilediaaReadS
import Derived.Test.YtfcdobicilediaaReadDx
import Derived.Test.YtfcdobicilediaaSpecTops
import Derived.Test.YtfcdobicilediaaAppB
import Derived.Test.YtfcdobicilediaaFlags
import Derived.Test.YtfcdobicilediaaLawPackets
namespace Go.Proofs.Ytfcdobicilediaa.Sg
open Go.RowKit Go.PlainAid Go.Proofs.Ytfcdobicilediaa Go.Proofs.Ytfcdobicilediaa.Pl Go.Proofs.Ytfcdobicilediaa.Pk
set_option linter.unusedVariables false
set_option maxRecDepth 20000

theorem lawSegments_skip (a b : Option Addr) (la ca lb cb : Nat) (w : World) (h : 1048576 < la ∨ 1048576 < lb) :
    Calls Try.prog 3 #[.slice a la ca, .slice b lb cb] w fun e w' => e = .returned (.bool true) ∧ Below w.heap.size w w' := by
  by_cases h1 : 1048576 < la
  · go_enter Try.func3, Try.ntmps3
    go_wp2
    go_ret
    exact ⟨rfl, Below.refl _ _⟩
  · have h2 : 1048576 < lb := by omega
    go_enter Try.func3, Try.ntmps3
    go_wp2
    go_ret
    exact ⟨rfl, Below.refl _ _⟩
/-- A segment that was turned is none. -/
theorem readSg_bad (a : Option Addr) (len cap : Nat) (f : Nat → Int) (w : World) (h : Bytes w a len f) (hc : len ≤ cap) (hx : cap ≤ 9223372036854775807) (h20 : 20 ≤ len) (h380 : len ≤ 380) (hs : endsL 10 20 6 ((List.range len).map f) ≠ 0) :
    ∃ c : Int, c ≠ 0 ∧ Calls Try.prog 10 #[.int .i64 10, .int .i64 20, .slice a len cap] w fun e w' => e = .returned (.tuple #[.agg #[.int .i64 0, .int .i64 0, .int .i64 0, .int .i64 0, .int .i64 0, .int .i64 0, .string ⟨#[]⟩], .int .i64 c]) ∧ Below w.heap.size w w' := by
  have f0 := h.1 12
  by_cases hn : 4 * (f 12 / 16) < 20 ∨ (len : Int) < 4 * (f 12 / 16)
  · exact ⟨3, by omega, readSg_head 10 20 a len cap f w h hc hx (by omega) (by omega) (by omega) (by omega) h20 h380 hn⟩
  · obtain ⟨H, hH⟩ : ∃ H : Nat, (H : Int) = 4 * (f 12 / 16) := ⟨(4 * (f 12 / 16)).toNat, by omega⟩
    exact ⟨8, by omega, readSg_sum 10 20 a len cap f w h hc hx (by omega) (by omega) (by omega) (by omega) h20 h380 H hH (by omega) (by omega) hs⟩

set_option maxHeartbeats 4000000 in
theorem lawSegments_any (a b : Option Addr) (la ca lb cb : Nat) (f g : Nat → Int) (w : World) (ha : Bytes w a la f) (hb : Bytes w b lb g)
    (pa : ∀ b off, 0 < la → a = some ⟨b, off, none⟩ → b < w.heap.size) (pb : ∀ b' off, 0 < lb → b = some ⟨b', off, none⟩ → b' < w.heap.size) (h1 : la ≤ 1048576) (h2 : lb ≤ 1048576) :
    Calls Try.prog 3 #[.slice a la ca, .slice b lb cb] w fun e w' => e = .returned (.bool true) ∧ Below w.heap.size w w' := by
  have D1 : Hid (Calls Try.prog 7 #[.slice a la ca] w fun e w' => ∃ (v1 k v9 v11 v13 : Int) (b : ByteArray), e = .returned (.agg #[.int .i64 (1000 + v1), .int .i64 k, .int .i64 v9, .int .i64 v11, .int .i64 v13, .int .i64 1000, .string b]) ∧ Hid ((0 ≤ v1 ∧ v1 < 3) ∧ (0 ≤ k ∧ k ≤ 65535) ∧ (0 ≤ v9 ∧ v9 < 300) ∧ (0 ≤ v11 ∧ v11 < 300) ∧ (0 ≤ v13 ∧ v13 < 32) ∧ b.size ≤ 4) ∧ Hid (Below w.heap.size w w')) := SegmentOf_any w a la ca f ha h1 pa
  have D2 : Hid (∀ wx, Below w.heap.size w wx → Calls Try.prog 12 #[.slice b lb cb] wx fun e w' => ∃ (v1 k : Int) (b : ByteArray), e = .returned (.agg #[.int .i64 (1000 + v1), .int .i64 k, .string b]) ∧ Hid ((0 ≤ v1 ∧ v1 < 3) ∧ (0 ≤ k ∧ k ≤ 65535) ∧ b.size ≤ 4) ∧ Hid (Below wx.heap.size wx w')) := fun wx bx => DatagramOf_any wx b lb cb g (hb.below bx pb) h2 (fun b' off h0 e => Nat.lt_of_lt_of_le (pb b' off h0 e) bx.size)
  have D3 : Hid (∀ wx (i : Nat) (n : Nat), i ≤ 2 → 1 ≤ n → n ≤ 28 → Below w.heap.size w wx → Calls Try.prog 11 #[.slice b lb cb, .int .i64 (i : Int), .int .i64 (n : Int)] wx fun e w' => ∃ v : Nat, e = .returned (.int .i64 (v : Int)) ∧ v < n ∧ ∃ k, w' = wx.drewN k) := fun wx i n hi hn hn2 bx =>
    (at_any wx b lb cb g i n (hb.below bx pb) h2 (by omega) (by omega) (by omega)).mono fun e w' ⟨v, h1, h2, h3, h4⟩ => by
      obtain ⟨m, rfl⟩ := Int.eq_ofNat_of_zero_le h2
      exact ⟨m, h1, by omega, h4⟩
  clear ha hb pa pb
  go_enter Try.func3, Try.ntmps3
  go_wp2_with fail
  refine D1.out.mono ?_
  rintro e w1 ⟨v1, dp, sq, ak, fl, bo, rfl, HF, B1⟩
  obtain ⟨sp, hsp⟩ : ∃ s, s = 1000 + v1 := ⟨_, rfl⟩
  rw [← hsp]
  have HG : Hid ((0 ≤ sp ∧ sp ≤ 65535) ∧ (0 ≤ dp ∧ dp ≤ 65535) ∧ (0 ≤ sq ∧ sq ≤ 4294967295) ∧ (0 ≤ ak ∧ ak ≤ 4294967295) ∧ (0 ≤ fl ∧ fl ≤ 31) ∧ bo.size ≤ 4) := by
    have := HF.out
    show _ ∧ _ ∧ _ ∧ _ ∧ _ ∧ _
    omega
  clear HF hsp D1
  obtain ⟨PL, hPL⟩ : ∃ L, L = segL 10 20 sp dp sq ak fl 1000 bo := ⟨_, rfl⟩
  have lP : PL.length = 20 + bo.size := by rw [hPL, segL_len]; unfold segB; simp [nums_len]; omega
  have bP : Hid (∀ x ∈ PL, 0 ≤ x ∧ x ≤ 255) := by rw [hPL]; exact segL_bd _ _ _ _ _ _ _ _ _ (by have := HG.out; omega)
  obtain ⟨ln, hln⟩ : ∃ l, l = PL.length := ⟨_, rfl⟩
  have l20 : 20 ≤ ln := by omega
  have l24 : ln ≤ 24 := by have := HG.out.2.2.2.2.2; omega
  have QZ : Hid (endsL 10 20 6 PL = 0) := by rw [hPL]; exact seg_zero _ _ _ _ _ _ _ _ _ (by have := HG.out; omega)
  have I1 : Hid (∀ wx, Calls Try.prog 8 #[.int .i64 10, .int .i64 20, .agg #[.int .i64 sp, .int .i64 dp, .int .i64 sq, .int .i64 ak, .int .i64 fl, .int .i64 1000, .string bo]] wx fun e w' => ∃ g cp, e = .returned (.tuple #[.slice (some ⟨g, 0, none⟩) ln cp, .int .i64 0]) ∧ Hid (RowD w' g cp ln (fun j => PL.getD j 0)) ∧ Hid (Below wx.heap.size wx w')) := fun wx => by
    have hf := HG.out
    refine (segmentBytes_yes 10 20 sp dp sq ak fl 1000 bo wx (by omega) (by omega) (by omega) (by omega) (by omega) (by omega) (by omega) (by omega) (by omega) (by omega) (by omega) ⟨hf.1, hf.2.1, hf.2.2.1, hf.2.2.2.1, hf.2.2.2.2.1, by omega, by omega⟩).mono fun e w' ⟨v, B, e1, e2, e3, e4⟩ => ?_
    rw [← hPL] at e2
    obtain ⟨g, cp, hv, hr⟩ := rowD_of e2 bP.out (by omega)
    rw [← hln] at hv hr
    exact ⟨g, cp, by rw [e1, hv], hr, e4⟩
  have S1 : Hid (∀ wx, Calls Try.prog 9 #[.int .i64 10, .int .i64 20, .agg #[.int .i64 sp, .int .i64 dp, .int .i64 sq, .int .i64 ak, .int .i64 fl, .int .i64 1000, .string bo]] wx fun e w' => ∃ a cp, e = .returned (.tuple #[.slice a ln cp, .int .i64 0]) ∧ Hid (RowS w' a ln (fun j => PL.getD j 0)) ∧ Hid (Below wx.heap.size wx w')) := fun wx => by
    have hf := HG.out
    have e := specSegmentBytes_yes 10 20 sp dp sq ak fl 1000 bo wx (by omega) (by omega) (by omega) (by omega) (by omega) (by omega) (by omega) ⟨by omega, by omega, hf.1, hf.2.1, hf.2.2.1, hf.2.2.2.1, hf.2.2.2.2.1, by omega, by omega⟩
    rw [← hPL] at e
    refine Calls.mono e fun e w' ⟨a, cp, e1, e2, e3, e4⟩ => ⟨a, cp, by rw [e1, hln], ?_, e4⟩
    rw [hln]; exact ⟨e2, e3⟩
  have R1 : Hid (∀ wx g cp, RowD wx g cp ln (fun j => PL.getD j 0) → Calls Try.prog 10 #[.int .i64 10, .int .i64 20, .slice (some ⟨g, 0, none⟩) ln cp] wx fun e w' => e = .returned (.tuple #[.agg #[.int .i64 sp, .int .i64 dp, .int .i64 sq, .int .i64 ak, .int .i64 fl, .int .i64 1000, .string bo], .int .i64 0]) ∧ Hid (Below wx.heap.size wx w')) := fun wx g cp hr => by
    have hf := HG.out
    have pp := seg_parts 10 20 sp dp sq ak fl 1000 bo hf.1 hf.2.1 hf.2.2.1 hf.2.2.2.1 (by omega) (by omega)
    rw [← hPL] at pp
    have hz : endsL 10 20 6 ((List.range ln).map (fun j => PL.getD j 0)) = 0 := by
      rw [hln]
      have e : (List.range PL.length).map (fun j => PL.getD j 0) = PL := range_getD PL
      rw [e]; exact QZ.out
    have e := readSg_yes 10 20 (some ⟨g, 0, none⟩) ln cp _ wx hr.1 hr.2.2.1 hr.2.2.2 (by omega) (by omega) (by omega) (by omega) (by omega) (by omega) 20 (by show ((20 : Nat) : Int) = 4 * (PL.getD 12 0 / 16); rw [pp.2.2.2.2.1]; rfl) (by omega) (by omega) hz
    obtain ⟨p1, p2, p3, p4, p5, p6, p7, p8⟩ := pp
    rw [p1, p2, p3, p4, p7] at e
    have e13 : (fun j => PL.getD j 0) 13 % 32 = fl := by show PL.getD 13 0 % 32 = fl; rw [p6]; omega
    rw [e13, show ln - 20 = bo.size by omega, p8] at e
    exact e
  have RF : Hid (∀ wx g cp, RowD wx g cp ln (fun j => PL.getD j 0) → Calls Try.prog 10 #[.int .i64 10, .int .i64 21, .slice (some ⟨g, 0, none⟩) ln cp] wx fun e w' => e = .returned (.tuple #[.agg #[.int .i64 0, .int .i64 0, .int .i64 0, .int .i64 0, .int .i64 0, .int .i64 0, .string ⟨#[]⟩], .int .i64 8]) ∧ Below wx.heap.size wx w') := fun wx g cp hr => by
    have hf := HG.out
    have pp := seg_parts 10 20 sp dp sq ak fl 1000 bo hf.1 hf.2.1 hf.2.2.1 hf.2.2.2.1 (by omega) (by omega)
    rw [← hPL] at pp
    refine readSg_sum 10 21 (some ⟨g, 0, none⟩) ln cp _ wx hr.1 hr.2.2.1 hr.2.2.2 (by omega) (by omega) (by omega) (by omega) (by omega) (by omega) 20 (by show ((20 : Nat) : Int) = 4 * (PL.getD 12 0 / 16); rw [pp.2.2.2.2.1]; rfl) (by omega) (by omega) ?_
    rw [hln]
    have e : (List.range PL.length).map (fun j => PL.getD j 0) = PL := range_getD PL
    rw [e]
    exact ends_dst PL bP.out QZ.out
  have FT : Hid (∀ wx, Calls Try.prog 16 #[.int .i64 fl] wx fun e w' => e = .returned (.tuple #[.string (strOfNums (flg fl 5)), .int .i64 0]) ∧ Below wx.heap.size wx w') := fun wx => flagsText_yes fl wx (by have := HG.out; omega) (by have := HG.out; omega)
  have FS : Hid (∀ wx, Calls Try.prog 17 #[.int .i64 fl] wx fun e w' => e = .returned (.tuple #[.string (strOfNums (flg fl 5)), .int .i64 0]) ∧ Below wx.heap.size wx w') := fun wx => specFlagsText_yes fl wx (by have := HG.out; omega) (by have := HG.out; omega)
  have hPn : Hid (PL.length = ln) := hln.symm
  clear hPL hln lP
  generalize strOfNums (flg fl 5) = FL at FT FS
  -- the segment is laid
  obtain ⟨W1, hW1⟩ : ∃ W, W = w1.alloc (.cells #[.int .i64 sp, .int .i64 dp, .int .i64 sq, .int .i64 ak, .int .i64 fl, .int .i64 1000, .string bo] 24) := ⟨_, rfl⟩
  have b1 : Below w1.heap.size w1 W1 := by rw [hW1]; exact (Below.refl _ _).alloc (Nat.le_refl _) _
  have K1 : Hid (Boxed W1 w1.heap.size [.int .i64 sp, .int .i64 dp, .int .i64 sq, .int .i64 ak, .int .i64 fl, .int .i64 1000, .string bo]) := by rw [hW1]; exact Boxed.new w1 _ _
  have C1 : Hid (Below w.heap.size w W1) := B1.out.trans (b1.mono B1.out.size)
  have L1 : Hid (w1.heap.size < W1.heap.size) := by rw [hW1]; show _ < _; simp
  clear b1 B1
  go_wp2_with fail
  rw [← hW1]
  clear hW1
  refine (I1.out _).mono ?_
  rintro e w2 ⟨gb, cpb, rfl, Rb, b2⟩
  have K2 : Hid (Boxed w2 w1.heap.size [.int .i64 sp, .int .i64 dp, .int .i64 sq, .int .i64 ak, .int .i64 fl, .int .i64 1000, .string bo]) := K1.out.below b2.out L1.out
  have C2 : Hid (Below w.heap.size w w2) := C1.out.trans (b2.out.mono C1.out.size)
  have L2 : Hid (w1.heap.size < w2.heap.size) := Nat.lt_of_lt_of_le L1.out b2.out.size
  clear b2 K1 C1 L1 I1
  obtain ⟨q5, hq5⟩ : ∃ q, q = w1.heap.size := ⟨_, rfl⟩
  rw [← hq5] at K2 L2
  rw [← hq5]
  clear hq5
  have c0 := K2.out.at 0 _ rfl
  have c1 := K2.out.at 1 _ rfl
  have c2 := K2.out.at 2 _ rfl
  have c3 := K2.out.at 3 _ rfl
  have c4 := K2.out.at 4 _ rfl
  have c5 := K2.out.at 5 _ rfl
  have c6 := K2.out.at 6 _ rfl
  go_wp2_with fail
  refine (S1.out _).mono ?_
  rintro e w3 ⟨aw, cpw, rfl, Rw, b3⟩
  have K3 : Hid (Boxed w3 q5 [.int .i64 sp, .int .i64 dp, .int .i64 sq, .int .i64 ak, .int .i64 fl, .int .i64 1000, .string bo]) := K2.out.below b3.out L2.out
  have C3 : Hid (Below w.heap.size w w3) := C2.out.trans (b3.out.mono C2.out.size)
  have L3 : Hid (q5 < w3.heap.size) := Nat.lt_of_lt_of_le L2.out b3.out.size
  have Rb3 : Hid (RowD w3 gb cpb ln (fun j => PL.getD j 0)) := Rb.out.below b3.out
  clear b3 K2 C2 L2 Rb S1 c0 c1 c2 c3 c4 c5 c6
  go_wp2_with fail
  refine (R1.out _ _ _ Rb3.out).mono ?_
  rintro e w4 ⟨rfl, b4⟩
  obtain ⟨W8, hW8⟩ : ∃ W, W = w4.alloc (.cells #[.int .i64 sp, .int .i64 dp, .int .i64 sq, .int .i64 ak, .int .i64 fl, .int .i64 1000, .string bo] 24) := ⟨_, rfl⟩
  have z8 : W8.heap.size = w4.heap.size + 1 := by rw [hW8]; simp
  have bx : Below w3.heap.size w3 W8 := by rw [hW8]; exact b4.out.alloc b4.out.size _
  have K8 : Hid (Boxed W8 q5 [.int .i64 sp, .int .i64 dp, .int .i64 sq, .int .i64 ak, .int .i64 fl, .int .i64 1000, .string bo]) := K3.out.below bx L3.out
  have X8 : Hid (Boxed W8 w4.heap.size [.int .i64 sp, .int .i64 dp, .int .i64 sq, .int .i64 ak, .int .i64 fl, .int .i64 1000, .string bo]) := by rw [hW8]; exact Boxed.new w4 _ _
  have C8 : Hid (Below w.heap.size w W8) := C3.out.trans (bx.mono C3.out.size)
  have L8 : Hid (q5 < W8.heap.size) := Nat.lt_of_lt_of_le L3.out bx.size
  have Rb8 : Hid (RowD W8 gb cpb ln (fun j => PL.getD j 0)) := Rb3.out.below bx
  have Rw8 : Hid (RowS W8 aw ln (fun j => PL.getD j 0)) := Rw.out.below bx
  have HO : Hid (OwnL 5 (W8.alloc (.cells #[] 5)) (w4.heap.size + 1) (.slice (some ⟨w4.heap.size + 1, 0, none⟩) 0 0) []) := by
    show OwnL _ _ _ _ _
    rw [← z8]
    exact World.ownsRow_made W8 #[] 0 (Nat.le_refl _) (Nat.zero_le _) rfl
  have bm : Below W8.heap.size W8 (W8.alloc (.cells #[] 5)) := (Below.refl _ _).alloc (Nat.le_refl _) _
  have RA : Hid (Bytes (W8.alloc (.cells #[] 5)) (some ⟨gb, 0, none⟩) ln (fun j => PL.getD j 0)) := (Rb8.out.below bm).1
  have hc1 := conv_row (P := Try.prog) W8 22 9 5 Try.underlying22 Try.underlying5 Try.underlying9 _ ln cpb _ Rb8.out.1
  have hc2 := conv_row (P := Try.prog) W8 22 9 5 Try.underlying22 Try.underlying5 Try.underlying9 aw ln cpw _ Rw8.out.1
  obtain ⟨T1, hT1⟩ : ∃ T, T = strOf (fun j => PL.getD j 0) ln := ⟨_, rfl⟩
  rw [← hT1] at hc1 hc2
  have k0 := K8.out.at 0 _ rfl
  have x0 := X8.out.at 0 _ rfl
  have k1 := K8.out.at 1 _ rfl
  have x1 := X8.out.at 1 _ rfl
  have k2 := K8.out.at 2 _ rfl
  have x2 := X8.out.at 2 _ rfl
  have k3 := K8.out.at 3 _ rfl
  have x3 := X8.out.at 3 _ rfl
  have k4 := K8.out.at 4 _ rfl
  have x4 := X8.out.at 4 _ rfl
  have k5 := K8.out.at 5 _ rfl
  have x5 := X8.out.at 5 _ rfl
  have k6 := K8.out.at 6 _ rfl
  have x6 := X8.out.at 6 _ rfl
  have Z8 : Hid (W8.heap.size = w4.heap.size + 1) := z8
  clear hT1 z8 bm bx b4 K3 C3 L3 Rb3 Rw X8 R1
  subst hW8
  go_wp2_with (at_builtin; refine wpl_byt _ rfl _ _ rfl (w4.heap.size + 1) _ [] rfl HO.out (some ⟨gb, 0, none⟩) ln cpb (fun j => PL.getD j 0) rfl RA.out (fun e => by cases e) (by simp; omega) (by simp) ?_)
  intro v9 w9 Y9
  have Y9' : Hid (OwnL 5 w9 (w4.heap.size + 1) v9 PL) := by
    have := Y9.out.own
    have e : (List.range PL.length).map (fun j => PL[j]?.getD 0) = PL := range_getD PL
    rw [← hPn.out] at this
    exact e ▸ this
  have bq : Below (w4.alloc (.cells #[.int .i64 sp, .int .i64 dp, .int .i64 sq, .int .i64 ak, .int .i64 fl, .int .i64 1000, .string bo] 24)).heap.size (w4.alloc (.cells #[.int .i64 sp, .int .i64 dp, .int .i64 sq, .int .i64 ak, .int .i64 fl, .int .i64 1000, .string bo] 24)) w9 := by
    have := Y9.out.below
    rw [← Z8.out] at this
    exact ((Below.refl _ _).alloc (Nat.le_refl _) _).trans this
  have C9 : Hid (Below w.heap.size w w9) := C8.out.trans (bq.mono C8.out.size)
  have Rb9 : Hid (RowD w9 gb cpb ln (fun j => PL.getD j 0)) := Rb8.out.below bq
  have K9 : Hid (Boxed w9 q5 [.int .i64 sp, .int .i64 dp, .int .i64 sq, .int .i64 ak, .int .i64 fl, .int .i64 1000, .string bo] ∧ q5 < w9.heap.size) := ⟨K8.out.below bq L8.out, Nat.lt_of_lt_of_le L8.out bq.size⟩
  obtain ⟨g9, c9, rfl, j1, j2, j3, j4, j5, j6⟩ := Laid.writ (w' := w9) Y9'.out bP.out (by have := hPn.out; omega)
  rw [hPn.out]
  have X9 : Hid (ln ≤ c9 ∧ c9 ≤ 9223372036854775807 ∧ w.heap.size ≤ g9 ∧ gb < g9 ∧ g9 < w9.heap.size ∧ (∀ i, w9.frozen? ⟨g9, i, none⟩ = false) ∧ ∀ i, i < ln → w9.cell? ⟨g9, i, none⟩ = some (.int .u8 (PL.getD i 0))) := by
    have z8 := Z8.out
    have z9 := C8.out.size
    have z0 := Rb8.out.2.1
    unfold maxLen at j2
    rw [hPn.out] at j1 j6
    exact ⟨j1, by omega, by omega, by omega, j4, j5, j6⟩
  have Q9 : Hid (q5 < g9) := by
    have z8 := Z8.out
    have := L8.out
    show _ < _
    omega
  clear j1 j2 j3 j4 j5 j6 bq Y9 Y9' C8 Rb8 Rw8 Z8 HO RA hc1 hc2 K8 L8 k0 x0 k1 x1 k2 x2 k3 x3 k4 x4 k5 x5 k6 x6
  have Da : Hid (∀ wx, Below w.heap.size w wx → Calls Try.prog 11 #[.slice b lb cb, .int .i64 0, .int .i64 (ln : Int)] wx fun e w' => ∃ v : Nat, e = .returned (.int .i64 (v : Int)) ∧ v < ln ∧ ∃ k, w' = wx.drewN k) := fun wx bx => D3.out wx 0 ln (by omega) (by omega) (by omega) bx
  have Db : Hid (∀ wx, Below w.heap.size w wx → Calls Try.prog 11 #[.slice b lb cb, .int .i64 1, .int .i64 8] wx fun e w' => ∃ v : Nat, e = .returned (.int .i64 (v : Int)) ∧ v < 8 ∧ ∃ k, w' = wx.drewN k) := fun wx bx => D3.out wx 1 8 (by omega) (by omega) (by omega) bx
  clear D3
  go_wp2_with fail
  -- REGION
  refine wp_region_held_drew (S := (fun _ => True)) (by kernel_rfl) ?_ (fun hH0 => ?_)
  · trivial
  refine wpAnyH_take (i := 0) (v := ?v1) rfl (by kernel_rfl) (by kernel_rfl) (by kernel_rfl) (fun _ _ _ h => h) (Or.inl ⟨by rfl, ?hy1⟩) (by assumption) ?rest1
  case hy1 => (intro w hSw; (try dsimp only at hSw); go_simp; (try with_reducible rfl))
  refine wpAnyH_take (i := 1) (v := ?v2) rfl (by kernel_rfl) (by kernel_rfl) (by kernel_rfl) (fun _ _ _ h => h) (Or.inl ⟨by rfl, ?hy2⟩) (by assumption) ?rest2
  case hy2 => (intro w hSw; (try dsimp only at hSw); go_simp; (try with_reducible rfl))
  refine wpAnyH_take (i := 2) (v := ?v3) rfl (by kernel_rfl) (by kernel_rfl) (by kernel_rfl) (fun _ _ _ h => h) (Or.inl ⟨by rfl, ?hy3⟩) (by assumption) ?rest3
  case hy3 => (intro w hSw; (try dsimp only at hSw); go_simp; (try with_reducible rfl))
  refine wpAnyH_take (i := 3) (v := ?v4) rfl (by kernel_rfl) (by kernel_rfl) (by kernel_rfl) (fun _ _ _ h => h) (Or.inl ⟨by rfl, ?hy4⟩) (by assumption) ?rest4
  case hy4 => (intro w hSw; (try dsimp only at hSw); go_simp; (try with_reducible rfl))
  refine wpAnyH_take (i := 7) (v := ?v5) rfl (by kernel_rfl) (by kernel_rfl) (by kernel_rfl) (fun _ _ _ h => h) (Or.inl ⟨by rfl, ?hy5⟩) (by assumption) ?rest5
  case hy5 => (intro w hSw; (try dsimp only at hSw); go_simp; (try with_reducible rfl))
  refine wpAnyH_ready (rs := [4]) (by kernel_rfl) (by simp) ?_
  refine AllReadyH.cons rfl (fun K hK => ?_) ?_
  · go_simp
    refine (Da.out _ ?_).mono ?_
    · exact ⟨C9.out.os, C9.out.tape, C9.out.output, C9.out.size, C9.out.block⟩
    rintro e wA ⟨n9, rfl, hn9, kk, rfl⟩
    have hcK := X9.out.2.2.2.2.2.2 n9 (by omega)
    have hfK := X9.out.2.2.2.2.2.1 n9
    have kI0 : (0 : Int) ≤ (n9 : Int) := by omega
    have kI1 : (n9 : Int) < (ln : Int) := by omega
    obtain ⟨x, hx⟩ : ∃ x, x = PL.getD n9 0 := ⟨_, rfl⟩
    rw [← hx] at hcK
    have HX : Hid (x = PL.getD n9 0) := hx
    clear hx
    go_wp2_with fail
    refine hK.out _ _ ?_ (fun hH6 => ?_)
    · (try dsimp only)
      (try trivial)
    clear hK K hH0
    refine wpAnyH_take (i := 5) (v := ?v7) rfl (by kernel_rfl) (by kernel_rfl) (by kernel_rfl) (fun _ _ _ h => h) (Or.inl ⟨by rfl, ?hy7⟩) (by assumption) ?rest7
    case hy7 => (intro w hSw; (try dsimp only at hSw); go_simp; (try with_reducible rfl))
    refine wpAnyH_ready (rs := [6, 8]) (by kernel_rfl) (by simp) ?_
    refine AllReadyH.cons rfl (fun K hK => ?_) ?_
    · go_simp
      refine hK.out _ _ ?_ (fun hH8 => ?_)
      · (try dsimp only)
        (try trivial)
      clear hK K hH6
      refine wpAnyH_ready (rs := [8]) (by kernel_rfl) (by simp) ?_
      refine AllReadyH.cons rfl (fun K hK => ?_) ?_
      · go_simp
        refine (Db.out _ ?_).mono ?_
        · exact ⟨C9.out.os, C9.out.tape, C9.out.output, C9.out.size, C9.out.block⟩
        rintro e wB ⟨v, rfl, hv, kv, rfl⟩
        have v0 : (0 : Int) ≤ (v : Int) := by omega
        have v1 : (v : Int) < 8 := by omega
        go_wp2_with fail
        refine hK.out _ _ ?_ (fun hH9 => ?_)
        · (try dsimp only)
          (try trivial)
        clear hK K hH8
        refine wpAnyH_take (i := 9) (v := ?v10) rfl (by kernel_rfl) (by kernel_rfl) (by kernel_rfl) (fun _ _ _ h => h) (Or.inl ⟨by rfl, ?hy10⟩) (by assumption) ?rest10
        case hy10 => (intro w hSw; (try dsimp only at hSw); go_simp; (try with_reducible rfl))
        refine wpAnyH_take (i := 10) (v := ?v11) rfl (by kernel_rfl) (by kernel_rfl) (by kernel_rfl) (fun _ _ _ h => h) (Or.inl ⟨by rfl, ?hy11⟩) (by assumption) ?rest11
        case hy11 => (intro w hSw; (try dsimp only at hSw); go_simp; (try with_reducible rfl))
        refine wpAnyH_take (i := 11) (v := ?v12) rfl (by kernel_rfl) (by kernel_rfl) (by kernel_rfl) (fun _ _ _ h => h) (Or.inl ⟨by rfl, ?hy12⟩) (by assumption) ?rest12
        case hy12 => (intro w hSw; (try dsimp only at hSw); go_simp; (try with_reducible rfl))
        refine wpAnyH_take (i := 12) (v := ?v13) rfl (by kernel_rfl) (by kernel_rfl) (by kernel_rfl) (fun _ _ _ h => h) (Or.inl ⟨by rfl, ?hy13⟩) (by assumption) ?rest13
        case hy13 => (intro w hSw; (try dsimp only at hSw); go_simp; (try with_reducible rfl))
        refine wpAnyH_ready (rs := [13]) (by kernel_rfl) (by simp) ?_
        refine AllReadyH.cons rfl (fun K hK => ?_) ?_
        · go_simp
          refine hK.out _ _ ?_ (fun hH14 => ?_)
          · (try dsimp only)
            (try trivial)
          clear hK K hH9
          refine wpAnyH_done (by kernel_rfl) ?_ _
          obtain ⟨y0, y1, y2, y3, y4⟩ := xor_bit_mod x v (by rw [HX.out]; exact (getD_bd bP.out n9).1) (by rw [HX.out]; exact (getD_bd bP.out n9).2) hv
          obtain ⟨y, hy⟩ : ∃ y, y = bits BinOp.xor IntKind.u8 x (2 ^ min v 8 % 256) := ⟨_, rfl⟩
          rw [← hy] at y0 y1 y2 y3 y4
          obtain ⟨t1, t2, t3⟩ := turned_facts (k := 1 + kk + kv) (n9 := n9) (ln := ln) bP.out y3 y4 (by omega) X9.out C9.out Rb9.out
          have hs : endsL 10 20 6 ((List.range ln).map (fun j => if j = n9 then y else PL.getD j 0)) ≠ 0 := by
            rw [← hPn.out]
            refine ends_turned 10 20 6 (by omega) PL bP.out QZ.out n9 (by rw [hPn.out]; exact hn9) y ⟨y3, y4⟩ ?_ ?_ ?_
            · rw [← HX.out]; exact y0
            · rw [← HX.out]; exact y1
            · rw [← HX.out]; exact y2
          obtain ⟨WZ, hWZ⟩ : ∃ W, W = (w9.drewN (1 + kk + kv)).setCell ⟨g9, n9, none⟩ (.int .u8 y) := ⟨_, rfl⟩
          have bz : Below g9 w9 WZ := by
            rw [hWZ]
            exact Below.setCell (w := w9.drewN (1 + kk + kv)) (below_drewN (Below.refl g9 w9) (1 + kk + kv)) (p := ⟨g9, n9, none⟩) (Nat.le_refl g9) _
          have KZ : Hid (Boxed WZ q5 [.int .i64 sp, .int .i64 dp, .int .i64 sq, .int .i64 ak, .int .i64 fl, .int .i64 1000, .string bo] ∧ q5 < WZ.heap.size) := ⟨K9.out.1.below bz Q9.out, Nat.lt_of_lt_of_le K9.out.2 bz.size⟩
          clear bz
          rw [← hWZ] at t1 t2 t3
          obtain ⟨c, hc0, hcall⟩ := readSg_bad (some ⟨g9, 0, none⟩) ln c9 _ WZ t1 X9.out.1 X9.out.2.1 l20 (by omega) hs
          have HC : Hid (Calls Try.prog 10 #[.int .i64 10, .int .i64 20, .slice (some ⟨g9, 0, none⟩) ln c9] WZ fun e w' => e = .returned (.tuple #[.agg #[.int .i64 0, .int .i64 0, .int .i64 0, .int .i64 0, .int .i64 0, .int .i64 0, .string ⟨#[]⟩], .int .i64 c]) ∧ Below WZ.heap.size WZ w') := hcall
          have T2 : Hid (RowD WZ gb cpb ln (fun j => PL.getD j 0)) := t2
          have T3 : Hid (Below w.heap.size w WZ) := t3
          have HY : Hid (y = bits BinOp.xor IntKind.u8 x (2 ^ min v 8 % 256)) := hy
          have HZ : Hid (WZ = (w9.drewN (1 + kk + kv)).setCell ⟨g9, n9, none⟩ (.int .u8 y)) := hWZ
          clear hcall t1 t2 t3 hs hy hWZ y0 y1 y2 y3 y4
          go_wp2_with fail
          rw [← HY.out, ← HZ.out]
          refine HC.out.mono ?_
          rintro e w11 ⟨rfl, b11⟩
          obtain ⟨W11, hW11⟩ : ∃ W, W = w11.alloc (.cells #[.int .i64 0, .int .i64 0, .int .i64 0, .int .i64 0, .int .i64 0, .int .i64 0, .string ⟨#[]⟩] 24) := ⟨_, rfl⟩
          have b12 : Below WZ.heap.size WZ W11 := by rw [hW11]; exact b11.alloc b11.size _
          have C11 : Hid (Below w.heap.size w W11) := T3.out.trans (b12.mono T3.out.size)
          have R11 : Hid (RowD W11 gb cpb ln (fun j => PL.getD j 0)) := T2.out.below b12
          have K11 : Hid (Boxed W11 q5 [.int .i64 sp, .int .i64 dp, .int .i64 sq, .int .i64 ak, .int .i64 fl, .int .i64 1000, .string bo] ∧ q5 < W11.heap.size) := ⟨KZ.out.1.below b12 KZ.out.2, Nat.lt_of_lt_of_le KZ.out.2 b12.size⟩
          clear b11 b12 HC T2 T3 HY HZ KZ K9 hcK hfK HX
          go_wp2_with fail
          rw [← hW11]
          clear hW11
          refine (RF.out _ _ _ R11.out).mono ?_
          rintro e w12 ⟨rfl, b12⟩
          obtain ⟨W12, hW12⟩ : ∃ W, W = w12.alloc (.cells #[.int .i64 0, .int .i64 0, .int .i64 0, .int .i64 0, .int .i64 0, .int .i64 0, .string ⟨#[]⟩] 24) := ⟨_, rfl⟩
          have b13 : Below W11.heap.size W11 W12 := by rw [hW12]; exact b12.alloc b12.size _
          have C12 : Hid (Below w.heap.size w W12) := C11.out.trans (b13.mono C11.out.size)
          have K12 : Hid (Boxed W12 q5 [.int .i64 sp, .int .i64 dp, .int .i64 sq, .int .i64 ak, .int .i64 fl, .int .i64 1000, .string bo] ∧ q5 < W12.heap.size) := ⟨K11.out.1.below b13 K11.out.2, Nat.lt_of_lt_of_le K11.out.2 b13.size⟩
          clear b12 b13 C11 R11 K11
          go_wp2_with fail
          rw [← hW12]
          clear hW12
          refine (D2.out _ C12.out).mono ?_
          rintro e w13 ⟨u1, ud, ub, rfl, HU, b13⟩
          obtain ⟨us, hus⟩ : ∃ s, s = 1000 + u1 := ⟨_, rfl⟩
          rw [← hus]
          have HV : Hid ((0 ≤ us ∧ us ≤ 65535) ∧ (0 ≤ ud ∧ ud ≤ 65535) ∧ ub.size ≤ 4) := by
            have := HU.out
            show _ ∧ _ ∧ _
            omega
          clear HU hus
          obtain ⟨DL, hDL⟩ : ∃ L, L = dgL 10 20 us ud ub := ⟨_, rfl⟩
          have lD : DL.length = 8 + ub.size := by rw [hDL, dgL_len]
          have bD : Hid (∀ x ∈ DL, 0 ≤ x ∧ x ≤ 255) := by rw [hDL]; exact dgL_bd _ _ _ _ _
          obtain ⟨dn, hdn⟩ : ∃ l, l = DL.length := ⟨_, rfl⟩
          have QD : Hid (endsL 10 20 17 DL = 0) := by rw [hDL]; exact dg_zero _ _ _ _ _
          have rDL : Hid ((List.range dn).map (fun j => DL.getD j 0) = DL) := by show _ = _; rw [hdn]; exact range_getD DL
          have J1 : Hid (∀ wx, Calls Try.prog 13 #[.int .i64 10, .int .i64 20, .agg #[.int .i64 us, .int .i64 ud, .string ub]] wx fun e w' => ∃ g cp, e = .returned (.tuple #[.slice (some ⟨g, 0, none⟩) dn cp, .int .i64 0]) ∧ Hid (RowD w' g cp dn (fun j => DL.getD j 0)) ∧ Hid (Below wx.heap.size wx w')) := fun wx => by
            have hf := HV.out
            refine (datagramBytes_yes 10 20 us ud ub wx (by omega) (by omega) (by omega) (by omega) (by omega) (by omega) (by omega) ⟨hf.1, hf.2.1, by omega⟩).mono fun e w' ⟨v, B, e1, e2, e3, e4⟩ => ?_
            rw [← hDL] at e2
            obtain ⟨g, cp, hv, hr⟩ := rowD_of e2 bD.out (by omega)
            rw [← hdn] at hv hr
            exact ⟨g, cp, by rw [e1, hv], hr, e4⟩
          have J2 : Hid (∀ wx, Calls Try.prog 14 #[.int .i64 10, .int .i64 20, .agg #[.int .i64 us, .int .i64 ud, .string ub]] wx fun e w' => ∃ a cp, e = .returned (.tuple #[.slice a dn cp, .int .i64 0]) ∧ Hid (RowS w' a dn (fun j => DL.getD j 0)) ∧ Hid (Below wx.heap.size wx w')) := fun wx => by
            have hf := HV.out
            have e := specDatagramBytes_yes 10 20 us ud ub wx (by omega) (by omega) (by omega) ⟨by omega, by omega, hf.1, hf.2.1, by omega⟩
            rw [← hDL] at e
            refine Calls.mono e fun e w' ⟨a, cp, e1, e2, e3, e4⟩ => ⟨a, cp, by rw [e1, hdn], ?_, e4⟩
            rw [hdn]; exact ⟨e2, e3⟩
          have J3 : Hid (∀ wx g cp, RowD wx g cp dn (fun j => DL.getD j 0) → Calls Try.prog 15 #[.int .i64 10, .int .i64 20, .slice (some ⟨g, 0, none⟩) dn cp] wx fun e w' => e = .returned (.tuple #[.agg #[.int .i64 us, .int .i64 ud, .string ub], .int .i64 0]) ∧ Below wx.heap.size wx w') := fun wx g cp hr => by
            have hf := HV.out
            have pp := dg_parts 10 20 us ud ub hf.1 hf.2.1 (by omega)
            rw [← hDL] at pp
            obtain ⟨p1, p2, p3, p4, p5⟩ := pp
            have e := readDg_yes 10 20 (some ⟨g, 0, none⟩) dn cp _ wx hr.1 hr.2.2.1 hr.2.2.2 (by omega) (by omega) (by omega) (by omega) (by omega) (by omega) (by rw [p3]; omega) p4 (by rw [rDL.out]; exact QD.out)
            rw [p1, p2, show dn - 8 = ub.size by omega, p5] at e
            exact e
          have J4 : Hid (∀ wx g cp, RowD wx g cp dn (fun j => DL.getD j 0) → Calls Try.prog 15 #[.int .i64 11, .int .i64 20, .slice (some ⟨g, 0, none⟩) dn cp] wx fun e w' => e = .returned (.tuple #[.agg #[.int .i64 0, .int .i64 0, .string ⟨#[]⟩], .int .i64 8]) ∧ Below wx.heap.size wx w') := fun wx g cp hr => by
            have hf := HV.out
            have pp := dg_parts 10 20 us ud ub hf.1 hf.2.1 (by omega)
            rw [← hDL] at pp
            obtain ⟨p1, p2, p3, p4, p5⟩ := pp
            exact readDg_sum 11 20 (some ⟨g, 0, none⟩) dn cp _ wx hr.1 hr.2.2.1 hr.2.2.2 (by omega) (by omega) (by omega) (by omega) (by omega) (by omega) (by rw [p3]; omega) p4 (by rw [rDL.out]; exact ends_src DL bD.out QD.out)
          have d8 : 8 ≤ dn := by omega
          clear hDL hdn lD
          obtain ⟨W13, hW13⟩ : ∃ W, W = w13.alloc (.cells #[.int .i64 us, .int .i64 ud, .string ub] 33) := ⟨_, rfl⟩
          have b14 : Below W12.heap.size W12 W13 := by rw [hW13]; exact b13.out.alloc b13.out.size _
          have C13 : Hid (Below w.heap.size w W13) := C12.out.trans (b14.mono C12.out.size)
          have K13 : Hid (Boxed W13 q5 [.int .i64 sp, .int .i64 dp, .int .i64 sq, .int .i64 ak, .int .i64 fl, .int .i64 1000, .string bo] ∧ q5 < W13.heap.size) := ⟨K12.out.1.below b14 K12.out.2, Nat.lt_of_lt_of_le K12.out.2 b14.size⟩
          have U13 : Hid (Boxed W13 w13.heap.size [.int .i64 us, .int .i64 ud, .string ub] ∧ w13.heap.size < W13.heap.size) := by rw [hW13]; exact ⟨Boxed.new w13 _ _, by simp⟩
          clear b13 b14 C12 K12
          go_wp2_with fail
          rw [← hW13]
          clear hW13
          refine (J1.out _).mono ?_
          rintro e w14 ⟨gt, cpt, rfl, Rt, b14⟩
          obtain ⟨q13, hq13⟩ : ∃ q, q = w13.heap.size := ⟨_, rfl⟩
          rw [← hq13] at U13
          rw [← hq13]
          clear hq13
          have C14 : Hid (Below w.heap.size w w14) := C13.out.trans (b14.out.mono C13.out.size)
          have K14 : Hid (Boxed w14 q5 [.int .i64 sp, .int .i64 dp, .int .i64 sq, .int .i64 ak, .int .i64 fl, .int .i64 1000, .string bo] ∧ q5 < w14.heap.size) := ⟨K13.out.1.below b14.out K13.out.2, Nat.lt_of_lt_of_le K13.out.2 b14.out.size⟩
          have U14 : Hid (Boxed w14 q13 [.int .i64 us, .int .i64 ud, .string ub] ∧ q13 < w14.heap.size) := ⟨U13.out.1.below b14.out U13.out.2, Nat.lt_of_lt_of_le U13.out.2 b14.out.size⟩
          clear b14 C13 K13 U13 J1
          have m0 := U14.out.1.at 0 _ rfl
          have m1 := U14.out.1.at 1 _ rfl
          have m2 := U14.out.1.at 2 _ rfl
          go_wp2_with fail
          refine (J2.out _).mono ?_
          rintro e w15 ⟨at1, cpu, rfl, Ru, b15⟩
          have C15 : Hid (Below w.heap.size w w15) := C14.out.trans (b15.out.mono C14.out.size)
          have K15 : Hid (Boxed w15 q5 [.int .i64 sp, .int .i64 dp, .int .i64 sq, .int .i64 ak, .int .i64 fl, .int .i64 1000, .string bo] ∧ q5 < w15.heap.size) := ⟨K14.out.1.below b15.out K14.out.2, Nat.lt_of_lt_of_le K14.out.2 b15.out.size⟩
          have U15 : Hid (Boxed w15 q13 [.int .i64 us, .int .i64 ud, .string ub] ∧ q13 < w15.heap.size) := ⟨U14.out.1.below b15.out U14.out.2, Nat.lt_of_lt_of_le U14.out.2 b15.out.size⟩
          have R15 : Hid (RowD w15 gt cpt dn (fun j => DL.getD j 0)) := Rt.out.below b15.out
          clear b15 C14 K14 U14 J2 Rt m0 m1 m2
          go_wp2_with fail
          refine (J3.out _ _ _ R15.out).mono ?_
          rintro e w16 ⟨rfl, b16⟩
          obtain ⟨W16, hW16⟩ : ∃ W, W = w16.alloc (.cells #[.int .i64 us, .int .i64 ud, .string ub] 33) := ⟨_, rfl⟩
          have b17 : Below w15.heap.size w15 W16 := by rw [hW16]; exact b16.alloc b16.size _
          have C16 : Hid (Below w.heap.size w W16) := C15.out.trans (b17.mono C15.out.size)
          have K16 : Hid (Boxed W16 q5 [.int .i64 sp, .int .i64 dp, .int .i64 sq, .int .i64 ak, .int .i64 fl, .int .i64 1000, .string bo] ∧ q5 < W16.heap.size) := ⟨K15.out.1.below b17 K15.out.2, Nat.lt_of_lt_of_le K15.out.2 b17.size⟩
          have U16 : Hid (Boxed W16 q13 [.int .i64 us, .int .i64 ud, .string ub] ∧ q13 < W16.heap.size) := ⟨U15.out.1.below b17 U15.out.2, Nat.lt_of_lt_of_le U15.out.2 b17.size⟩
          have Y16 : Hid (Boxed W16 w16.heap.size [.int .i64 us, .int .i64 ud, .string ub] ∧ w16.heap.size < W16.heap.size) := by rw [hW16]; exact ⟨Boxed.new w16 _ _, by simp⟩
          have R16 : Hid (RowD W16 gt cpt dn (fun j => DL.getD j 0)) := R15.out.below b17
          have S16 : Hid (RowS W16 at1 dn (fun j => DL.getD j 0)) := Ru.out.below b17
          clear b16 b17 C15 K15 U15 R15 Ru J3
          go_wp2_with fail
          rw [← hW16]
          clear hW16
          refine (J4.out _ _ _ R16.out).mono ?_
          rintro e w17 ⟨rfl, b17⟩
          obtain ⟨q16, hq16⟩ : ∃ q, q = w16.heap.size := ⟨_, rfl⟩
          rw [← hq16] at Y16
          rw [← hq16]
          clear hq16
          obtain ⟨W17, hW17⟩ : ∃ W, W = w17.alloc (.cells #[.int .i64 0, .int .i64 0, .string ⟨#[]⟩] 33) := ⟨_, rfl⟩
          have b18 : Below W16.heap.size W16 W17 := by rw [hW17]; exact b17.alloc b17.size _
          have C17 : Hid (Below w.heap.size w W17) := C16.out.trans (b18.mono C16.out.size)
          have K17 : Hid (Boxed W17 q5 [.int .i64 sp, .int .i64 dp, .int .i64 sq, .int .i64 ak, .int .i64 fl, .int .i64 1000, .string bo] ∧ q5 < W17.heap.size) := ⟨K16.out.1.below b18 K16.out.2, Nat.lt_of_lt_of_le K16.out.2 b18.size⟩
          have U17 : Hid (Boxed W17 q13 [.int .i64 us, .int .i64 ud, .string ub] ∧ q13 < W17.heap.size) := ⟨U16.out.1.below b18 U16.out.2, Nat.lt_of_lt_of_le U16.out.2 b18.size⟩
          have Y17 : Hid (Boxed W17 q16 [.int .i64 us, .int .i64 ud, .string ub] ∧ q16 < W17.heap.size) := ⟨Y16.out.1.below b18 Y16.out.2, Nat.lt_of_lt_of_le Y16.out.2 b18.size⟩
          have R17 : Hid (RowD W17 gt cpt dn (fun j => DL.getD j 0)) := R16.out.below b18
          have S17 : Hid (RowS W17 at1 dn (fun j => DL.getD j 0)) := S16.out.below b18
          clear b17 b18 C16 K16 U16 Y16 R16 S16 J4
          have n4 := K17.out.1.at 4 _ rfl
          subst hW17
          go_wp2_with fail
          refine (FT.out _).mono ?_
          rintro e w18 ⟨rfl, b18⟩
          obtain ⟨q17, hq17⟩ : ∃ q, q = w17.heap.size := ⟨_, rfl⟩
          have C18 : Hid (Below w.heap.size w w18) := C17.out.trans (b18.mono C17.out.size)
          have K18 : Hid (Boxed w18 q5 [.int .i64 sp, .int .i64 dp, .int .i64 sq, .int .i64 ak, .int .i64 fl, .int .i64 1000, .string bo] ∧ q5 < w18.heap.size) := ⟨K17.out.1.below b18 K17.out.2, Nat.lt_of_lt_of_le K17.out.2 b18.size⟩
          have U18 : Hid (Boxed w18 q13 [.int .i64 us, .int .i64 ud, .string ub] ∧ q13 < w18.heap.size) := ⟨U17.out.1.below b18 U17.out.2, Nat.lt_of_lt_of_le U17.out.2 b18.size⟩
          have Y18 : Hid (Boxed w18 q16 [.int .i64 us, .int .i64 ud, .string ub] ∧ q16 < w18.heap.size) := ⟨Y17.out.1.below b18 Y17.out.2, Nat.lt_of_lt_of_le Y17.out.2 b18.size⟩
          have R18 : Hid (RowD w18 gt cpt dn (fun j => DL.getD j 0)) := R17.out.below b18
          have S18 : Hid (RowS w18 at1 dn (fun j => DL.getD j 0)) := S17.out.below b18
          clear b18 C17 K17 U17 Y17 R17 S17 n4 hq17
          have n4 := K18.out.1.at 4 _ rfl
          go_wp2_with fail
          refine (FS.out _).mono ?_
          rintro e w19 ⟨rfl, b19⟩
          have C19 : Hid (Below w.heap.size w w19) := C18.out.trans (b19.mono C18.out.size)
          have U19 := U18.out.1.below b19 U18.out.2
          have Y19 := Y18.out.1.below b19 Y18.out.2
          have R19 := R18.out.below b19
          have S19 := S18.out.below b19
          have m0 := U19.at 0 _ rfl
          have m1 := U19.at 1 _ rfl
          have m2 := U19.at 2 _ rfl
          have o0 := Y19.at 0 _ rfl
          have o1 := Y19.at 1 _ rfl
          have o2 := Y19.at 2 _ rfl
          have hc1 := conv_row (P := Try.prog) w19 22 9 5 Try.underlying22 Try.underlying5 Try.underlying9 _ dn cpt _ R19.1
          have hc2 := conv_row (P := Try.prog) w19 22 9 5 Try.underlying22 Try.underlying5 Try.underlying9 at1 dn cpu _ S19.1
          obtain ⟨T2, hT2⟩ : ∃ T, T = strOf (fun j => DL.getD j 0) dn := ⟨_, rfl⟩
          rw [← hT2] at hc1 hc2
          have hcb : (c != 0) = true := by simp; exact hc0
          clear hT2 b19 C18 K18 U18 Y18 R18 S18 n4 U19 Y19 R19 S19
          go_wp2
          go_ret
          exact ⟨rfl, C19.out⟩
        exact AllReadyH.nil
      exact AllReadyH.nil
    refine AllReadyH.cons rfl (fun K hK => ?_) ?_
    · go_simp
      refine (Db.out _ ?_).mono ?_
      · exact ⟨C9.out.os, C9.out.tape, C9.out.output, C9.out.size, C9.out.block⟩
      rintro e wB ⟨v, rfl, hv, kv, rfl⟩
      have v0 : (0 : Int) ≤ (v : Int) := by omega
      have v1 : (v : Int) < 8 := by omega
      go_wp2_with fail
      refine hK.out _ _ ?_ (fun hH15 => ?_)
      · (try dsimp only)
        (try trivial)
      clear hK K hH6
      refine wpAnyH_take (i := 9) (v := ?v16) rfl (by kernel_rfl) (by kernel_rfl) (by kernel_rfl) (fun _ _ _ h => h) (Or.inl ⟨by rfl, ?hy16⟩) (by assumption) ?rest16
      case hy16 => (intro w hSw; (try dsimp only at hSw); go_simp; (try with_reducible rfl))
      refine wpAnyH_take (i := 10) (v := ?v17) rfl (by kernel_rfl) (by kernel_rfl) (by kernel_rfl) (fun _ _ _ h => h) (Or.inl ⟨by rfl, ?hy17⟩) (by assumption) ?rest17
      case hy17 => (intro w hSw; (try dsimp only at hSw); go_simp; (try with_reducible rfl))
      refine wpAnyH_ready (rs := [6]) (by kernel_rfl) (by simp) ?_
      refine AllReadyH.cons rfl (fun K hK => ?_) ?_
      · go_simp
        refine hK.out _ _ ?_ (fun hH18 => ?_)
        · (try dsimp only)
          (try trivial)
        clear hK K hH15
        refine wpAnyH_take (i := 11) (v := ?v19) rfl (by kernel_rfl) (by kernel_rfl) (by kernel_rfl) (fun _ _ _ h => h) (Or.inl ⟨by rfl, ?hy19⟩) (by assumption) ?rest19
        case hy19 => (intro w hSw; (try dsimp only at hSw); go_simp; (try with_reducible rfl))
        refine wpAnyH_take (i := 12) (v := ?v20) rfl (by kernel_rfl) (by kernel_rfl) (by kernel_rfl) (fun _ _ _ h => h) (Or.inl ⟨by rfl, ?hy20⟩) (by assumption) ?rest20
        case hy20 => (intro w hSw; (try dsimp only at hSw); go_simp; (try with_reducible rfl))
        refine wpAnyH_ready (rs := [13]) (by kernel_rfl) (by simp) ?_
        refine AllReadyH.cons rfl (fun K hK => ?_) ?_
        · go_simp
          refine hK.out _ _ ?_ (fun hH21 => ?_)
          · (try dsimp only)
            (try trivial)
          clear hK K hH18
          refine wpAnyH_done (by kernel_rfl) ?_ _
          obtain ⟨y0, y1, y2, y3, y4⟩ := xor_bit_mod x v (by rw [HX.out]; exact (getD_bd bP.out n9).1) (by rw [HX.out]; exact (getD_bd bP.out n9).2) hv
          obtain ⟨y, hy⟩ : ∃ y, y = bits BinOp.xor IntKind.u8 x (2 ^ min v 8 % 256) := ⟨_, rfl⟩
          rw [← hy] at y0 y1 y2 y3 y4
          obtain ⟨t1, t2, t3⟩ := turned_facts (k := 1 + kk + kv) (n9 := n9) (ln := ln) bP.out y3 y4 (by omega) X9.out C9.out Rb9.out
          have hs : endsL 10 20 6 ((List.range ln).map (fun j => if j = n9 then y else PL.getD j 0)) ≠ 0 := by
            rw [← hPn.out]
            refine ends_turned 10 20 6 (by omega) PL bP.out QZ.out n9 (by rw [hPn.out]; exact hn9) y ⟨y3, y4⟩ ?_ ?_ ?_
            · rw [← HX.out]; exact y0
            · rw [← HX.out]; exact y1
            · rw [← HX.out]; exact y2
          obtain ⟨WZ, hWZ⟩ : ∃ W, W = (w9.drewN (1 + kk + kv)).setCell ⟨g9, n9, none⟩ (.int .u8 y) := ⟨_, rfl⟩
          have bz : Below g9 w9 WZ := by
            rw [hWZ]
            exact Below.setCell (w := w9.drewN (1 + kk + kv)) (below_drewN (Below.refl g9 w9) (1 + kk + kv)) (p := ⟨g9, n9, none⟩) (Nat.le_refl g9) _
          have KZ : Hid (Boxed WZ q5 [.int .i64 sp, .int .i64 dp, .int .i64 sq, .int .i64 ak, .int .i64 fl, .int .i64 1000, .string bo] ∧ q5 < WZ.heap.size) := ⟨K9.out.1.below bz Q9.out, Nat.lt_of_lt_of_le K9.out.2 bz.size⟩
          clear bz
          rw [← hWZ] at t1 t2 t3
          obtain ⟨c, hc0, hcall⟩ := readSg_bad (some ⟨g9, 0, none⟩) ln c9 _ WZ t1 X9.out.1 X9.out.2.1 l20 (by omega) hs
          have HC : Hid (Calls Try.prog 10 #[.int .i64 10, .int .i64 20, .slice (some ⟨g9, 0, none⟩) ln c9] WZ fun e w' => e = .returned (.tuple #[.agg #[.int .i64 0, .int .i64 0, .int .i64 0, .int .i64 0, .int .i64 0, .int .i64 0, .string ⟨#[]⟩], .int .i64 c]) ∧ Below WZ.heap.size WZ w') := hcall
          have T2 : Hid (RowD WZ gb cpb ln (fun j => PL.getD j 0)) := t2
          have T3 : Hid (Below w.heap.size w WZ) := t3
          have HY : Hid (y = bits BinOp.xor IntKind.u8 x (2 ^ min v 8 % 256)) := hy
          have HZ : Hid (WZ = (w9.drewN (1 + kk + kv)).setCell ⟨g9, n9, none⟩ (.int .u8 y)) := hWZ
          clear hcall t1 t2 t3 hs hy hWZ y0 y1 y2 y3 y4
          go_wp2_with fail
          rw [← HY.out, ← HZ.out]
          refine HC.out.mono ?_
          rintro e w11 ⟨rfl, b11⟩
          obtain ⟨W11, hW11⟩ : ∃ W, W = w11.alloc (.cells #[.int .i64 0, .int .i64 0, .int .i64 0, .int .i64 0, .int .i64 0, .int .i64 0, .string ⟨#[]⟩] 24) := ⟨_, rfl⟩
          have b12 : Below WZ.heap.size WZ W11 := by rw [hW11]; exact b11.alloc b11.size _
          have C11 : Hid (Below w.heap.size w W11) := T3.out.trans (b12.mono T3.out.size)
          have R11 : Hid (RowD W11 gb cpb ln (fun j => PL.getD j 0)) := T2.out.below b12
          have K11 : Hid (Boxed W11 q5 [.int .i64 sp, .int .i64 dp, .int .i64 sq, .int .i64 ak, .int .i64 fl, .int .i64 1000, .string bo] ∧ q5 < W11.heap.size) := ⟨KZ.out.1.below b12 KZ.out.2, Nat.lt_of_lt_of_le KZ.out.2 b12.size⟩
          clear b11 b12 HC T2 T3 HY HZ KZ K9 hcK hfK HX
          go_wp2_with fail
          rw [← hW11]
          clear hW11
          refine (RF.out _ _ _ R11.out).mono ?_
          rintro e w12 ⟨rfl, b12⟩
          obtain ⟨W12, hW12⟩ : ∃ W, W = w12.alloc (.cells #[.int .i64 0, .int .i64 0, .int .i64 0, .int .i64 0, .int .i64 0, .int .i64 0, .string ⟨#[]⟩] 24) := ⟨_, rfl⟩
          have b13 : Below W11.heap.size W11 W12 := by rw [hW12]; exact b12.alloc b12.size _
          have C12 : Hid (Below w.heap.size w W12) := C11.out.trans (b13.mono C11.out.size)
          have K12 : Hid (Boxed W12 q5 [.int .i64 sp, .int .i64 dp, .int .i64 sq, .int .i64 ak, .int .i64 fl, .int .i64 1000, .string bo] ∧ q5 < W12.heap.size) := ⟨K11.out.1.below b13 K11.out.2, Nat.lt_of_lt_of_le K11.out.2 b13.size⟩
          clear b12 b13 C11 R11 K11
          go_wp2_with fail
          rw [← hW12]
          clear hW12
          refine (D2.out _ C12.out).mono ?_
          rintro e w13 ⟨u1, ud, ub, rfl, HU, b13⟩
          obtain ⟨us, hus⟩ : ∃ s, s = 1000 + u1 := ⟨_, rfl⟩
          rw [← hus]
          have HV : Hid ((0 ≤ us ∧ us ≤ 65535) ∧ (0 ≤ ud ∧ ud ≤ 65535) ∧ ub.size ≤ 4) := by
            have := HU.out
            show _ ∧ _ ∧ _
            omega
          clear HU hus
          obtain ⟨DL, hDL⟩ : ∃ L, L = dgL 10 20 us ud ub := ⟨_, rfl⟩
          have lD : DL.length = 8 + ub.size := by rw [hDL, dgL_len]
          have bD : Hid (∀ x ∈ DL, 0 ≤ x ∧ x ≤ 255) := by rw [hDL]; exact dgL_bd _ _ _ _ _
          obtain ⟨dn, hdn⟩ : ∃ l, l = DL.length := ⟨_, rfl⟩
          have QD : Hid (endsL 10 20 17 DL = 0) := by rw [hDL]; exact dg_zero _ _ _ _ _
          have rDL : Hid ((List.range dn).map (fun j => DL.getD j 0) = DL) := by show _ = _; rw [hdn]; exact range_getD DL
          have J1 : Hid (∀ wx, Calls Try.prog 13 #[.int .i64 10, .int .i64 20, .agg #[.int .i64 us, .int .i64 ud, .string ub]] wx fun e w' => ∃ g cp, e = .returned (.tuple #[.slice (some ⟨g, 0, none⟩) dn cp, .int .i64 0]) ∧ Hid (RowD w' g cp dn (fun j => DL.getD j 0)) ∧ Hid (Below wx.heap.size wx w')) := fun wx => by
            have hf := HV.out
            refine (datagramBytes_yes 10 20 us ud ub wx (by omega) (by omega) (by omega) (by omega) (by omega) (by omega) (by omega) ⟨hf.1, hf.2.1, by omega⟩).mono fun e w' ⟨v, B, e1, e2, e3, e4⟩ => ?_
            rw [← hDL] at e2
            obtain ⟨g, cp, hv, hr⟩ := rowD_of e2 bD.out (by omega)
            rw [← hdn] at hv hr
            exact ⟨g, cp, by rw [e1, hv], hr, e4⟩
          have J2 : Hid (∀ wx, Calls Try.prog 14 #[.int .i64 10, .int .i64 20, .agg #[.int .i64 us, .int .i64 ud, .string ub]] wx fun e w' => ∃ a cp, e = .returned (.tuple #[.slice a dn cp, .int .i64 0]) ∧ Hid (RowS w' a dn (fun j => DL.getD j 0)) ∧ Hid (Below wx.heap.size wx w')) := fun wx => by
            have hf := HV.out
            have e := specDatagramBytes_yes 10 20 us ud ub wx (by omega) (by omega) (by omega) ⟨by omega, by omega, hf.1, hf.2.1, by omega⟩
            rw [← hDL] at e
            refine Calls.mono e fun e w' ⟨a, cp, e1, e2, e3, e4⟩ => ⟨a, cp, by rw [e1, hdn], ?_, e4⟩
            rw [hdn]; exact ⟨e2, e3⟩
          have J3 : Hid (∀ wx g cp, RowD wx g cp dn (fun j => DL.getD j 0) → Calls Try.prog 15 #[.int .i64 10, .int .i64 20, .slice (some ⟨g, 0, none⟩) dn cp] wx fun e w' => e = .returned (.tuple #[.agg #[.int .i64 us, .int .i64 ud, .string ub], .int .i64 0]) ∧ Below wx.heap.size wx w') := fun wx g cp hr => by
            have hf := HV.out
            have pp := dg_parts 10 20 us ud ub hf.1 hf.2.1 (by omega)
            rw [← hDL] at pp
            obtain ⟨p1, p2, p3, p4, p5⟩ := pp
            have e := readDg_yes 10 20 (some ⟨g, 0, none⟩) dn cp _ wx hr.1 hr.2.2.1 hr.2.2.2 (by omega) (by omega) (by omega) (by omega) (by omega) (by omega) (by rw [p3]; omega) p4 (by rw [rDL.out]; exact QD.out)
            rw [p1, p2, show dn - 8 = ub.size by omega, p5] at e
            exact e
          have J4 : Hid (∀ wx g cp, RowD wx g cp dn (fun j => DL.getD j 0) → Calls Try.prog 15 #[.int .i64 11, .int .i64 20, .slice (some ⟨g, 0, none⟩) dn cp] wx fun e w' => e = .returned (.tuple #[.agg #[.int .i64 0, .int .i64 0, .string ⟨#[]⟩], .int .i64 8]) ∧ Below wx.heap.size wx w') := fun wx g cp hr => by
            have hf := HV.out
            have pp := dg_parts 10 20 us ud ub hf.1 hf.2.1 (by omega)
            rw [← hDL] at pp
            obtain ⟨p1, p2, p3, p4, p5⟩ := pp
            exact readDg_sum 11 20 (some ⟨g, 0, none⟩) dn cp _ wx hr.1 hr.2.2.1 hr.2.2.2 (by omega) (by omega) (by omega) (by omega) (by omega) (by omega) (by rw [p3]; omega) p4 (by rw [rDL.out]; exact ends_src DL bD.out QD.out)
          have d8 : 8 ≤ dn := by omega
          clear hDL hdn lD
          obtain ⟨W13, hW13⟩ : ∃ W, W = w13.alloc (.cells #[.int .i64 us, .int .i64 ud, .string ub] 33) := ⟨_, rfl⟩
          have b14 : Below W12.heap.size W12 W13 := by rw [hW13]; exact b13.out.alloc b13.out.size _
          have C13 : Hid (Below w.heap.size w W13) := C12.out.trans (b14.mono C12.out.size)
          have K13 : Hid (Boxed W13 q5 [.int .i64 sp, .int .i64 dp, .int .i64 sq, .int .i64 ak, .int .i64 fl, .int .i64 1000, .string bo] ∧ q5 < W13.heap.size) := ⟨K12.out.1.below b14 K12.out.2, Nat.lt_of_lt_of_le K12.out.2 b14.size⟩
          have U13 : Hid (Boxed W13 w13.heap.size [.int .i64 us, .int .i64 ud, .string ub] ∧ w13.heap.size < W13.heap.size) := by rw [hW13]; exact ⟨Boxed.new w13 _ _, by simp⟩
          clear b13 b14 C12 K12
          go_wp2_with fail
          rw [← hW13]
          clear hW13
          refine (J1.out _).mono ?_
          rintro e w14 ⟨gt, cpt, rfl, Rt, b14⟩
          obtain ⟨q13, hq13⟩ : ∃ q, q = w13.heap.size := ⟨_, rfl⟩
          rw [← hq13] at U13
          rw [← hq13]
          clear hq13
          have C14 : Hid (Below w.heap.size w w14) := C13.out.trans (b14.out.mono C13.out.size)
          have K14 : Hid (Boxed w14 q5 [.int .i64 sp, .int .i64 dp, .int .i64 sq, .int .i64 ak, .int .i64 fl, .int .i64 1000, .string bo] ∧ q5 < w14.heap.size) := ⟨K13.out.1.below b14.out K13.out.2, Nat.lt_of_lt_of_le K13.out.2 b14.out.size⟩
          have U14 : Hid (Boxed w14 q13 [.int .i64 us, .int .i64 ud, .string ub] ∧ q13 < w14.heap.size) := ⟨U13.out.1.below b14.out U13.out.2, Nat.lt_of_lt_of_le U13.out.2 b14.out.size⟩
          clear b14 C13 K13 U13 J1
          have m0 := U14.out.1.at 0 _ rfl
          have m1 := U14.out.1.at 1 _ rfl
          have m2 := U14.out.1.at 2 _ rfl
          go_wp2_with fail
          refine (J2.out _).mono ?_
          rintro e w15 ⟨at1, cpu, rfl, Ru, b15⟩
          have C15 : Hid (Below w.heap.size w w15) := C14.out.trans (b15.out.mono C14.out.size)
          have K15 : Hid (Boxed w15 q5 [.int .i64 sp, .int .i64 dp, .int .i64 sq, .int .i64 ak, .int .i64 fl, .int .i64 1000, .string bo] ∧ q5 < w15.heap.size) := ⟨K14.out.1.below b15.out K14.out.2, Nat.lt_of_lt_of_le K14.out.2 b15.out.size⟩
          have U15 : Hid (Boxed w15 q13 [.int .i64 us, .int .i64 ud, .string ub] ∧ q13 < w15.heap.size) := ⟨U14.out.1.below b15.out U14.out.2, Nat.lt_of_lt_of_le U14.out.2 b15.out.size⟩
          have R15 : Hid (RowD w15 gt cpt dn (fun j => DL.getD j 0)) := Rt.out.below b15.out
          clear b15 C14 K14 U14 J2 Rt m0 m1 m2
          go_wp2_with fail
          refine (J3.out _ _ _ R15.out).mono ?_
          rintro e w16 ⟨rfl, b16⟩
          obtain ⟨W16, hW16⟩ : ∃ W, W = w16.alloc (.cells #[.int .i64 us, .int .i64 ud, .string ub] 33) := ⟨_, rfl⟩
          have b17 : Below w15.heap.size w15 W16 := by rw [hW16]; exact b16.alloc b16.size _
          have C16 : Hid (Below w.heap.size w W16) := C15.out.trans (b17.mono C15.out.size)
          have K16 : Hid (Boxed W16 q5 [.int .i64 sp, .int .i64 dp, .int .i64 sq, .int .i64 ak, .int .i64 fl, .int .i64 1000, .string bo] ∧ q5 < W16.heap.size) := ⟨K15.out.1.below b17 K15.out.2, Nat.lt_of_lt_of_le K15.out.2 b17.size⟩
          have U16 : Hid (Boxed W16 q13 [.int .i64 us, .int .i64 ud, .string ub] ∧ q13 < W16.heap.size) := ⟨U15.out.1.below b17 U15.out.2, Nat.lt_of_lt_of_le U15.out.2 b17.size⟩
          have Y16 : Hid (Boxed W16 w16.heap.size [.int .i64 us, .int .i64 ud, .string ub] ∧ w16.heap.size < W16.heap.size) := by rw [hW16]; exact ⟨Boxed.new w16 _ _, by simp⟩
          have R16 : Hid (RowD W16 gt cpt dn (fun j => DL.getD j 0)) := R15.out.below b17
          have S16 : Hid (RowS W16 at1 dn (fun j => DL.getD j 0)) := Ru.out.below b17
          clear b16 b17 C15 K15 U15 R15 Ru J3
          go_wp2_with fail
          rw [← hW16]
          clear hW16
          refine (J4.out _ _ _ R16.out).mono ?_
          rintro e w17 ⟨rfl, b17⟩
          obtain ⟨q16, hq16⟩ : ∃ q, q = w16.heap.size := ⟨_, rfl⟩
          rw [← hq16] at Y16
          rw [← hq16]
          clear hq16
          obtain ⟨W17, hW17⟩ : ∃ W, W = w17.alloc (.cells #[.int .i64 0, .int .i64 0, .string ⟨#[]⟩] 33) := ⟨_, rfl⟩
          have b18 : Below W16.heap.size W16 W17 := by rw [hW17]; exact b17.alloc b17.size _
          have C17 : Hid (Below w.heap.size w W17) := C16.out.trans (b18.mono C16.out.size)
          have K17 : Hid (Boxed W17 q5 [.int .i64 sp, .int .i64 dp, .int .i64 sq, .int .i64 ak, .int .i64 fl, .int .i64 1000, .string bo] ∧ q5 < W17.heap.size) := ⟨K16.out.1.below b18 K16.out.2, Nat.lt_of_lt_of_le K16.out.2 b18.size⟩
          have U17 : Hid (Boxed W17 q13 [.int .i64 us, .int .i64 ud, .string ub] ∧ q13 < W17.heap.size) := ⟨U16.out.1.below b18 U16.out.2, Nat.lt_of_lt_of_le U16.out.2 b18.size⟩
          have Y17 : Hid (Boxed W17 q16 [.int .i64 us, .int .i64 ud, .string ub] ∧ q16 < W17.heap.size) := ⟨Y16.out.1.below b18 Y16.out.2, Nat.lt_of_lt_of_le Y16.out.2 b18.size⟩
          have R17 : Hid (RowD W17 gt cpt dn (fun j => DL.getD j 0)) := R16.out.below b18
          have S17 : Hid (RowS W17 at1 dn (fun j => DL.getD j 0)) := S16.out.below b18
          clear b17 b18 C16 K16 U16 Y16 R16 S16 J4
          have n4 := K17.out.1.at 4 _ rfl
          subst hW17
          go_wp2_with fail
          refine (FT.out _).mono ?_
          rintro e w18 ⟨rfl, b18⟩
          obtain ⟨q17, hq17⟩ : ∃ q, q = w17.heap.size := ⟨_, rfl⟩
          have C18 : Hid (Below w.heap.size w w18) := C17.out.trans (b18.mono C17.out.size)
          have K18 : Hid (Boxed w18 q5 [.int .i64 sp, .int .i64 dp, .int .i64 sq, .int .i64 ak, .int .i64 fl, .int .i64 1000, .string bo] ∧ q5 < w18.heap.size) := ⟨K17.out.1.below b18 K17.out.2, Nat.lt_of_lt_of_le K17.out.2 b18.size⟩
          have U18 : Hid (Boxed w18 q13 [.int .i64 us, .int .i64 ud, .string ub] ∧ q13 < w18.heap.size) := ⟨U17.out.1.below b18 U17.out.2, Nat.lt_of_lt_of_le U17.out.2 b18.size⟩
          have Y18 : Hid (Boxed w18 q16 [.int .i64 us, .int .i64 ud, .string ub] ∧ q16 < w18.heap.size) := ⟨Y17.out.1.below b18 Y17.out.2, Nat.lt_of_lt_of_le Y17.out.2 b18.size⟩
          have R18 : Hid (RowD w18 gt cpt dn (fun j => DL.getD j 0)) := R17.out.below b18
          have S18 : Hid (RowS w18 at1 dn (fun j => DL.getD j 0)) := S17.out.below b18
          clear b18 C17 K17 U17 Y17 R17 S17 n4 hq17
          have n4 := K18.out.1.at 4 _ rfl
          go_wp2_with fail
          refine (FS.out _).mono ?_
          rintro e w19 ⟨rfl, b19⟩
          have C19 : Hid (Below w.heap.size w w19) := C18.out.trans (b19.mono C18.out.size)
          have U19 := U18.out.1.below b19 U18.out.2
          have Y19 := Y18.out.1.below b19 Y18.out.2
          have R19 := R18.out.below b19
          have S19 := S18.out.below b19
          have m0 := U19.at 0 _ rfl
          have m1 := U19.at 1 _ rfl
          have m2 := U19.at 2 _ rfl
          have o0 := Y19.at 0 _ rfl
          have o1 := Y19.at 1 _ rfl
          have o2 := Y19.at 2 _ rfl
          have hc1 := conv_row (P := Try.prog) w19 22 9 5 Try.underlying22 Try.underlying5 Try.underlying9 _ dn cpt _ R19.1
          have hc2 := conv_row (P := Try.prog) w19 22 9 5 Try.underlying22 Try.underlying5 Try.underlying9 at1 dn cpu _ S19.1
          obtain ⟨T2, hT2⟩ : ∃ T, T = strOf (fun j => DL.getD j 0) dn := ⟨_, rfl⟩
          rw [← hT2] at hc1 hc2
          have hcb : (c != 0) = true := by simp; exact hc0
          clear hT2 b19 C18 K18 U18 Y18 R18 S18 n4 U19 Y19 R19 S19
          go_wp2
          go_ret
          exact ⟨rfl, C19.out⟩
        exact AllReadyH.nil
      exact AllReadyH.nil
    exact AllReadyH.nil
  exact AllReadyH.nil
end Go.Proofs.Ytfcdobicilediaa.Sg
