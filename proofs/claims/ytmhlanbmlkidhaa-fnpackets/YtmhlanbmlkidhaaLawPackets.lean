/- The walk of laws.FnPackets: a packet is read back from its bytes, whatever stands behind it; with a bit of its head turned, or cut, it is none. -/
import Derived.Test.YtmhlanbmlkidhaaOfPacket
import Derived.Test.YtmhlanbmlkidhaaPkBack
import Derived.Test.YtmhlanbmlkidhaaReadP
import Derived.Test.YtmhlanbmlkidhaaSpecTops
import Derived.Test.YtmhlanbmlkidhaaAppB
namespace Go.Proofs.Ytmhlanbmlkidhaa.Pk
open Go.RowKit Go.PlainAid Go.Proofs.Ytmhlanbmlkidhaa Go.Proofs.Ytmhlanbmlkidhaa.Pl
set_option linter.unusedVariables false
set_option maxRecDepth 20000

theorem lawPackets_skip (a b : Option Addr) (la ca lb cb : Nat) (w : World) (h : 1048576 < la ∨ 1048576 < lb) :
    Calls Try.prog 4 #[.slice a la ca, .slice b lb cb] w fun e w' => e = .returned (.bool true) ∧ Below w.heap.size w w' := by
  by_cases h1 : 1048576 < la
  · go_enter Try.func4, Try.ntmps4
    go_wp2
    go_ret
    exact ⟨rfl, Below.refl _ _⟩
  · have h2 : 1048576 < lb := by omega
    go_enter Try.func4, Try.ntmps4
    go_wp2
    go_ret
    exact ⟨rfl, Below.refl _ _⟩
/-- A row of one's own as a row of bytes. -/
def RowD (w : World) (g cp n : Nat) (F : Nat → Int) : Prop := Bytes w (some ⟨g, 0, none⟩) n F ∧ g < w.heap.size ∧ n ≤ cp ∧ cp ≤ 9223372036854775807
theorem RowD.below {w w' : World} {g cp n : Nat} {F : Nat → Int} (h : RowD w g cp n F) (b : Below w.heap.size w w') : RowD w' g cp n F :=
  ⟨h.1.below b (fun b' o' _ e => by cases e; exact h.2.1), Nat.lt_of_lt_of_le h.2.1 b.size, h.2.2⟩
theorem rowD_of {w : World} {B : Nat} {v : Value} {L : List Int} (O : OwnL 5 w B v L) (hL : ∀ x ∈ L, 0 ≤ x ∧ x ≤ 255) (h0 : 0 < L.length) : ∃ g cp, v = .slice (some ⟨g, 0, none⟩) L.length cp ∧ RowD w g cp L.length (fun j => L.getD j 0) := by
  obtain ⟨g, cp, hv, h1, h2, h3, h4, h5, h6⟩ := Laid.writ (w' := w) O hL h0
  exact ⟨g, cp, hv, ⟨fun k => getD_bd hL k, fun _ => ⟨g, 0, rfl, fun i hi => by rw [Nat.zero_add]; exact h6 i hi⟩⟩, h4, h1, by unfold maxLen at h2; omega⟩
/-- A row of bytes somewhere. -/
def RowS (w : World) (a : Option Addr) (n : Nat) (F : Nat → Int) : Prop := Bytes w a n F ∧ ∀ b off, a = some ⟨b, off, none⟩ → b < w.heap.size
theorem RowS.below {w w' : World} {a : Option Addr} {n : Nat} {F : Nat → Int} (h : RowS w a n F) (b : Below w.heap.size w w') : RowS w' a n F :=
  ⟨h.1.below b (fun b' o' _ e => h.2 b' o' e), fun b' o' e => Nat.lt_of_lt_of_le (h.2 b' o' e) b.size⟩
theorem cut_to (g len cap v : Nat) (h : v ≤ cap) (w : World) : (Instr.slice 22 (.slice (some ⟨g, 0, none⟩) len cap) none (some (.int .i64 (v : Int))) none).run Try.prog w = .ok (.slice (some ⟨g, 0, none⟩) v cap) w := by
  obtain ⟨i0, hi, hz0, hz1, hz2⟩ := info_parts Try.infoB
  have ht : Try.prog.underlying 22 = some (.slice (Try.prog.elem 22)) := by kernel_rfl
  have he : Try.prog.elem 22 = 5 := by kernel_rfl
  rw [run_slice_h w 22 _ len cap ht .i64 _ (by omega) (by omega)]
  have : (⟨g, 0, none⟩ : Addr).add 0 = ⟨g, 0, none⟩ := by unfold Addr.add; simp
  simp [sliced, sizeOf, typeInfo, he, hi, hz1, this]

/-- 'x ^ byte(1 << v)'. -/
theorem xor_bit (x v : Int) (h0 : 0 ≤ x) (h1 : x ≤ 255) (v0 : 0 ≤ v) (v1 : v < 8) :
    bits BinOp.xor IntKind.u8 x (IntKind.u8.wrap (2 ^ min (IntKind.u64.wrap v).toNat 8)) - x ≠ 0 ∧ -128 ≤ bits BinOp.xor IntKind.u8 x (IntKind.u8.wrap (2 ^ min (IntKind.u64.wrap v).toNat 8)) - x ∧
      bits BinOp.xor IntKind.u8 x (IntKind.u8.wrap (2 ^ min (IntKind.u64.wrap v).toNat 8)) - x ≤ 128 ∧ 0 ≤ bits BinOp.xor IntKind.u8 x (IntKind.u8.wrap (2 ^ min (IntKind.u64.wrap v).toNat 8)) ∧ bits BinOp.xor IntKind.u8 x (IntKind.u8.wrap (2 ^ min (IntKind.u64.wrap v).toNat 8)) ≤ 255 := by
  obtain ⟨X, rfl⟩ := Int.eq_ofNat_of_zero_le h0
  obtain ⟨V, rfl⟩ := Int.eq_ofNat_of_zero_le v0
  have e1 : IntKind.u64.wrap (V : Int) = V := by rw [IntKind.wrap_u64]; omega
  have e2 : min (V : Int).toNat 8 = V := by omega
  have hp : 2 ^ V ≤ 2 ^ 7 := Nat.pow_le_pow_right (by omega) (by omega)
  have hc : (2 : Int) ^ V = ((2 ^ V : Nat) : Int) := by rw [Int.natCast_pow]; rfl
  have hb := bit_turned ⟨X, by omega⟩ ⟨V, by omega⟩
  simp only at hb
  rw [e1, e2, hc]
  generalize 2 ^ V = P at *
  have e3 : IntKind.u8.wrap (P : Int) = P := by rw [IntKind.wrap_u8]; omega
  rw [e3, u8_xor_nat X P (by omega) (by omega)]
  omega


/-- What is read of bytes whose head's sum is not 0 is a code. -/
theorem readPk_bad (a : Option Addr) (len cap : Nat) (f : Nat → Int) (w : World) (h : Bytes w a len f) (hc : len ≤ cap) (hx : cap ≤ 9223372036854775807) (h20 : 20 ≤ len) (h400 : len ≤ 400) (hs : chk f 20 ≠ 0) :
    ∃ c : Int, c ≠ 0 ∧ Calls Try.prog 18 #[.slice a len cap] w fun e w' => e = .returned (.tuple #[.agg #[.int .i64 0, .int .i64 0, .int .i64 0, .int .i64 0, .int .i64 0, .string ⟨#[]⟩], .int .i64 c]) ∧ Below w.heap.size w w' := by
  by_cases h0 : f 0 = 69
  · have hp := pn2 f h.1 2
    by_cases hL : pn f 2 2 < 20 ∨ (len : Int) < pn f 2 2
    · exact ⟨3, by omega, readPk_length a len cap f w h hc hx h20 h400 h0 _ rfl hL⟩
    · obtain ⟨K, hK⟩ := Int.eq_ofNat_of_zero_le hp.1
      exact ⟨8, by omega, readPk_sum a len cap f w h hc hx h20 h400 h0 K hK.symm (by omega) (by omega) hs⟩
  · exact ⟨3, by omega, readPk_first a len cap f w h hc hx h20 h400 h0⟩

theorem below_drewN {n : Nat} {w w' : World} (b : Below n w w') (k : Nat) : Below n w (w'.drewN k) := ⟨b.os, b.tape, b.output, b.size, b.block⟩

theorem xor_bit_mod (x : Int) (v : Nat) (h0 : 0 ≤ x) (h1 : x ≤ 255) (v1 : v < 8) :
    bits BinOp.xor IntKind.u8 x (2 ^ min v 8 % 256) - x ≠ 0 ∧ -128 ≤ bits BinOp.xor IntKind.u8 x (2 ^ min v 8 % 256) - x ∧ bits BinOp.xor IntKind.u8 x (2 ^ min v 8 % 256) - x ≤ 128 ∧ 0 ≤ bits BinOp.xor IntKind.u8 x (2 ^ min v 8 % 256) ∧ bits BinOp.xor IntKind.u8 x (2 ^ min v 8 % 256) ≤ 255 := by
  have h := xor_bit x (v : Int) h0 h1 (by omega) (by omega)
  have e1 : (IntKind.u64.wrap (v : Int)).toNat = v := by rw [IntKind.wrap_u64]; omega
  rw [e1, IntKind.wrap_u8] at h
  exact h

/-- A row in which one byte was turned; another row and all that lay ahead stand. -/
theorem turned_facts {w w9 : World} {PL : List Int} {ln g9 c9 gb cpb n9 k : Nat} {y : Int} (bP : ∀ x ∈ PL, 0 ≤ x ∧ x ≤ 255) (y3 : 0 ≤ y) (y4 : y ≤ 255) (hn : n9 < ln)
    (X : ln ≤ c9 ∧ c9 ≤ 9223372036854775807 ∧ w.heap.size ≤ g9 ∧ gb < g9 ∧ g9 < w9.heap.size ∧ (∀ i, w9.frozen? ⟨g9, i, none⟩ = false) ∧ ∀ i, i < ln → w9.cell? ⟨g9, i, none⟩ = some (.int .u8 (PL.getD i 0)))
    (C : Below w.heap.size w w9) (R : RowD w9 gb cpb ln (fun j => PL.getD j 0)) :
    Bytes ((w9.drewN k).setCell ⟨g9, n9, none⟩ (.int .u8 y)) (some ⟨g9, 0, none⟩) ln (fun j => if j = n9 then y else PL.getD j 0) ∧
    RowD ((w9.drewN k).setCell ⟨g9, n9, none⟩ (.int .u8 y)) gb cpb ln (fun j => PL.getD j 0) ∧ Below w.heap.size w ((w9.drewN k).setCell ⟨g9, n9, none⟩ (.int .u8 y)) := by
  have b9 : Below g9 w9 ((w9.drewN k).setCell ⟨g9, n9, none⟩ (.int .u8 y)) := Below.setCell (w := w9.drewN k) (below_drewN (Below.refl g9 w9) k) (p := ⟨g9, n9, none⟩) (Nat.le_refl g9) _
  refine ⟨⟨fun j => ?_, fun _ => ⟨g9, 0, rfl, fun i hi => ?_⟩⟩, ⟨R.1.below b9 (fun b' o' _ e => by cases e; exact X.2.2.2.1), Nat.lt_of_lt_of_le R.2.1 b9.size, R.2.2⟩, Below.setCell (w := w9.drewN k) (below_drewN C k) (p := ⟨g9, n9, none⟩) X.2.2.1 _⟩
  · show 0 ≤ (if j = n9 then y else PL.getD j 0) ∧ (if j = n9 then y else PL.getD j 0) ≤ 255
    by_cases e : j = n9
    · rw [if_pos e]; exact ⟨y3, y4⟩
    · rw [if_neg e]; exact getD_bd bP j
  · rw [Nat.zero_add]
    show ((w9.drewN k).setCell ⟨g9, n9, none⟩ (.int .u8 y)).cell? ⟨g9, i, none⟩ = some (Value.int .u8 (if i = n9 then y else PL.getD i 0))
    have hcK : (w9.drewN k).cell? ⟨g9, n9, none⟩ = some (.int .u8 (PL.getD n9 0)) := X.2.2.2.2.2.2 n9 hn
    by_cases e : i = n9
    · rw [if_pos e, e]; exact World.cell?_setCell_same _ _ _ hcK
    · rw [if_neg e, World.cell?_setCell_other _ _ _ _ (fun hh => e (Addr.mk.inj hh).2.1.symm)]
      exact X.2.2.2.2.2.2 i hi

set_option maxHeartbeats 4000000 in
theorem lawPackets_any (a b : Option Addr) (la ca lb cb : Nat) (f g : Nat → Int) (w : World) (ha : Bytes w a la f) (hb : Bytes w b lb g)
    (pa : ∀ b off, 0 < la → a = some ⟨b, off, none⟩ → b < w.heap.size) (pb : ∀ b' off, 0 < lb → b = some ⟨b', off, none⟩ → b' < w.heap.size) (h1 : la ≤ 1048576) (h2 : lb ≤ 1048576) :
    Calls Try.prog 4 #[.slice a la ca, .slice b lb cb] w fun e w' => e = .returned (.bool true) ∧ Below w.heap.size w w' := by
  have D1 : Hid (Calls Try.prog 15 #[.slice a la ca] w fun e w' => ∃ (v1 v3 k v10 : Int) (b : ByteArray), e = .returned (.agg #[.int .i64 v1, .int .i64 v3, .int .i64 k, .int .i64 64, .int .i64 v10, .string b]) ∧ Hid ((0 ≤ v1 ∧ v1 ≤ 4294967295) ∧ (0 ≤ v3 ∧ v3 ≤ 4294967295) ∧ (0 ≤ k ∧ k ≤ 255) ∧ (0 ≤ v10 ∧ v10 < 99) ∧ b.size ≤ 4) ∧ Hid (Below w.heap.size w w')) := PacketOf_any w a la ca f ha h1 pa
  have D3 : Hid (∀ wx (i : Nat) (n : Nat), i ≤ 2 → 1 ≤ n → n ≤ 28 → Below w.heap.size w wx → Calls Try.prog 14 #[.slice b lb cb, .int .i64 (i : Int), .int .i64 (n : Int)] wx fun e w' => ∃ v : Nat, e = .returned (.int .i64 (v : Int)) ∧ v < n ∧ ∃ k, w' = wx.drewN k) := fun wx i n i2 n1 n2 bx =>
    (at_any wx b lb cb g i n (hb.below bx pb) h2 (by omega) (by omega) (by omega)).mono fun e w' ⟨v, h1, h2, h3, h4⟩ => by
      obtain ⟨m, rfl⟩ := Int.eq_ofNat_of_zero_le h2
      exact ⟨m, h1, by omega, h4⟩
  clear ha hb pa pb
  go_enter Try.func4, Try.ntmps4
  go_wp2_with fail
  refine D1.out.mono ?_
  rintro e w1 ⟨src, dst, pro, idn, bo, rfl, HF, B1⟩
  obtain ⟨PL, hPL⟩ : ∃ L, L = packetL src dst pro 64 idn bo := ⟨_, rfl⟩
  have lP : PL.length = 20 + bo.size := by rw [hPL]; exact packetL_len _ _ _ _ _ _
  have bP : Hid (∀ x ∈ PL, 0 ≤ x ∧ x ≤ 255) := by rw [hPL]; exact packetL_bd _ _ _ _ _ _ HF.out.2.2.1 (by omega)
  obtain ⟨ln, hln⟩ : ∃ l, l = PL.length := ⟨_, rfl⟩
  have l20 : 20 ≤ ln := by omega
  have l24 : ln ≤ 24 := by have := HF.out.2.2.2.2; omega
  have lb' : Hid (ln = 20 + bo.size) := by show _ = _; omega
  have I1 : Hid (∀ wx, Calls Try.prog 16 #[.agg #[.int .i64 src, .int .i64 dst, .int .i64 pro, .int .i64 64, .int .i64 idn, .string bo]] wx fun e w' => ∃ g cp, e = .returned (.tuple #[.slice (some ⟨g, 0, none⟩) ln cp, .int .i64 0]) ∧ Hid (RowD w' g cp ln (fun j => PL.getD j 0)) ∧ Hid (Below wx.heap.size wx w')) := fun wx => by
    have hf := HF.out
    refine (packetBytes_yes src dst pro 64 idn bo wx (by omega) (by omega) (by omega) (by omega) (by omega) (by omega) ⟨hf.1, hf.2.1, hf.2.2.1, by omega, by omega, by omega⟩).mono fun e w' ⟨v, B, e1, e2, e3, e4⟩ => ?_
    rw [← hPL] at e2
    obtain ⟨g, cp, hv, hr⟩ := rowD_of e2 bP.out (by omega)
    rw [← hln] at hv hr
    exact ⟨g, cp, by rw [e1, hv], hr, e4⟩
  have S1 : Hid (∀ wx, Calls Try.prog 17 #[.agg #[.int .i64 src, .int .i64 dst, .int .i64 pro, .int .i64 64, .int .i64 idn, .string bo]] wx fun e w' => ∃ a cp, e = .returned (.tuple #[.slice a ln cp, .int .i64 0]) ∧ Hid (RowS w' a ln (fun j => PL.getD j 0)) ∧ Hid (Below wx.heap.size wx w')) := fun wx => by
    have hf := HF.out
    have e := specPacketBytes_yes src dst pro 64 idn bo wx (by omega) (by omega) (by omega) (by omega) (by omega) (by omega) ⟨hf.1, hf.2.1, hf.2.2.1, by omega, by omega, by omega⟩
    rw [← hPL] at e
    refine Calls.mono e fun e w' ⟨a, cp, e1, e2, e3, e4⟩ => ⟨a, cp, by rw [e1, hln], ?_, e4⟩
    rw [hln]; exact ⟨e2, e3⟩
  have R1 : Hid (∀ wx g cp (Z : List Int) (m : Nat), (∀ x ∈ Z, 0 ≤ x ∧ x ≤ 255) → m = ln + Z.length → m ≤ 400 → RowD wx g cp m (fun j => (PL ++ Z).getD j 0) → Calls Try.prog 18 #[.slice (some ⟨g, 0, none⟩) m cp] wx fun e w' => e = .returned (.tuple #[.agg #[.int .i64 src, .int .i64 dst, .int .i64 pro, .int .i64 64, .int .i64 idn, .string bo], .int .i64 0]) ∧ Hid (Below wx.heap.size wx w')) := fun wx g cp Z m hZ hm h400 hr => by
    have hf := HF.out
    have pp := packet_parts src dst pro 64 idn bo Z hZ hf.1 hf.2.1 hf.2.2.1 (by omega) (by omega) (by omega)
    have pc := packet_chk src dst pro 64 idn bo Z hf.2.2.1 (by omega)
    rw [← hPL] at pp pc
    have e := readPk_yes (some ⟨g, 0, none⟩) m cp _ wx hr.1 hr.2.2.1 hr.2.2.2 (by omega) h400 pp.1 ln (by rw [pp.2.1]; omega) (by omega) (by omega) bo.size (by omega) pc (by rw [pp.2.2.2.1]; rfl)
    rw [pp.2.2.2.2.2.2.1, pp.2.2.2.2.2.2.2.1, pp.2.2.2.2.2.2.2.2, pp.2.2.1] at e
    have e9 := pp.2.2.2.2.2.1
    have e8 := pp.2.2.2.2.1
    dsimp only at e9 e8
    rw [e9, e8] at e
    exact e
  have Q1 : Hid (chk (fun j => PL.getD j 0) 20 = 0 ∧ (fun j => PL.getD j 0) 0 = 69 ∧ pn (fun j => PL.getD j 0) 2 2 = (ln : Int)) := by
    have hf := HF.out
    have pp := packet_parts src dst pro 64 idn bo [] (fun x hx => by cases hx) hf.1 hf.2.1 hf.2.2.1 (by omega) (by omega) (by omega)
    have pc := packet_chk src dst pro 64 idn bo [] hf.2.2.1 (by omega)
    rw [← hPL, List.append_nil] at pp pc
    exact ⟨pc, pp.1, by rw [pp.2.1]; omega⟩
  have hPn : Hid (PL.length = ln) := hln.symm
  clear hPL hln lP
  -- the packet is laid
  obtain ⟨W1, hW1⟩ : ∃ W, W = w1.alloc (.cells #[.int .i64 src, .int .i64 dst, .int .i64 pro, .int .i64 64, .int .i64 idn, .string bo] 39) := ⟨_, rfl⟩
  have b1 : Below w1.heap.size w1 W1 := by rw [hW1]; exact (Below.refl _ _).alloc (Nat.le_refl _) _
  have K1 : Hid (Boxed W1 w1.heap.size [.int .i64 src, .int .i64 dst, .int .i64 pro, .int .i64 64, .int .i64 idn, .string bo]) := by rw [hW1]; exact Boxed.new w1 _ _
  have C1 : Hid (Below w.heap.size w W1) := B1.out.trans (b1.mono B1.out.size)
  have L1 : Hid (w1.heap.size < W1.heap.size) := by rw [hW1]; show _ < _; simp
  clear b1 B1
  go_wp2_with fail
  rw [← hW1]
  clear hW1
  refine (I1.out _).mono ?_
  rintro e w2 ⟨gb, cpb, rfl, Rb, b2⟩
  have K2 : Hid (Boxed w2 w1.heap.size [.int .i64 src, .int .i64 dst, .int .i64 pro, .int .i64 64, .int .i64 idn, .string bo]) := K1.out.below b2.out L1.out
  have C2 : Hid (Below w.heap.size w w2) := C1.out.trans (b2.out.mono C1.out.size)
  have L2 : Hid (w1.heap.size < w2.heap.size) := Nat.lt_of_lt_of_le L1.out b2.out.size
  clear b2 K1 C1 L1 I1
  obtain ⟨q5, hq5⟩ : ∃ q, q = w1.heap.size := ⟨_, rfl⟩
  rw [← hq5] at K2 L2
  rw [← hq5]
  clear hq5
  have c0 := K2.out.at 0 _ rfl
  have c1 := K2.out.at 1 _ rfl
  have c2 := K2.out.at 2 _ rfl
  have c3 := K2.out.at 3 _ rfl
  have c4 := K2.out.at 4 _ rfl
  have c5 := K2.out.at 5 _ rfl
  go_wp2_with fail
  refine (S1.out _).mono ?_
  rintro e w3 ⟨aw, cpw, rfl, Rw, b3⟩
  have K3 : Hid (Boxed w3 q5 [.int .i64 src, .int .i64 dst, .int .i64 pro, .int .i64 64, .int .i64 idn, .string bo]) := K2.out.below b3.out L2.out
  have C3 : Hid (Below w.heap.size w w3) := C2.out.trans (b3.out.mono C2.out.size)
  have L3 : Hid (q5 < w3.heap.size) := Nat.lt_of_lt_of_le L2.out b3.out.size
  have Rb3 : Hid (RowD w3 gb cpb ln (fun j => PL.getD j 0)) := Rb.out.below b3.out
  clear b3 K2 C2 L2 Rb S1 c0 c1 c2 c3 c4 c5
  go_wp2_with fail
  refine (R1.out _ _ _ [] ln (fun x hx => by cases hx) rfl (by omega) (by rw [List.append_nil]; exact Rb3.out)).mono ?_
  rintro e w4 ⟨rfl, b4⟩
  have K4 : Hid (Boxed w4 q5 [.int .i64 src, .int .i64 dst, .int .i64 pro, .int .i64 64, .int .i64 idn, .string bo]) := K3.out.below b4.out L3.out
  have C4 : Hid (Below w.heap.size w w4) := C3.out.trans (b4.out.mono C3.out.size)
  have L4 : Hid (q5 < w4.heap.size) := Nat.lt_of_lt_of_le L3.out b4.out.size
  have Rb4 : Hid (RowD w4 gb cpb ln (fun j => PL.getD j 0)) := Rb3.out.below b4.out
  have Rw4 : Hid (RowS w4 aw ln (fun j => PL.getD j 0)) := Rw.out.below b4.out
  clear b4 K3 C3 L3 Rb3 Rw
  -- what was read is laid
  obtain ⟨W5, hW5⟩ : ∃ W, W = w4.alloc (.cells #[.int .i64 src, .int .i64 dst, .int .i64 pro, .int .i64 64, .int .i64 idn, .string bo] 39) := ⟨_, rfl⟩
  have b5 : Below w4.heap.size w4 W5 := by rw [hW5]; exact (Below.refl _ _).alloc (Nat.le_refl _) _
  have z5 : W5.heap.size = w4.heap.size + 1 := by rw [hW5]; simp
  have K5 : Hid (Boxed W5 q5 [.int .i64 src, .int .i64 dst, .int .i64 pro, .int .i64 64, .int .i64 idn, .string bo]) := K4.out.below b5 L4.out
  have X5 : Hid (Boxed W5 w4.heap.size [.int .i64 src, .int .i64 dst, .int .i64 pro, .int .i64 64, .int .i64 idn, .string bo]) := by rw [hW5]; exact Boxed.new w4 _ _
  have C5 : Hid (Below w.heap.size w W5) := C4.out.trans (b5.mono C4.out.size)
  have L5 : Hid (q5 < W5.heap.size ∧ w4.heap.size < W5.heap.size) := ⟨Nat.lt_of_lt_of_le L4.out b5.size, by omega⟩
  have Rb5 : Hid (RowD W5 gb cpb ln (fun j => PL.getD j 0)) := Rb4.out.below b5
  have Rw5 : Hid (RowS W5 aw ln (fun j => PL.getD j 0)) := Rw4.out.below b5
  clear b5 K4 C4 L4 Rb4 Rw4
  have bm : Below W5.heap.size W5 (W5.alloc (.cells #[] 5)) := (Below.refl _ _).alloc (Nat.le_refl _) _
  have HO : Hid (OwnL 5 ((w4.alloc (.cells #[.int .i64 src, .int .i64 dst, .int .i64 pro, .int .i64 64, .int .i64 idn, .string bo] 39)).alloc (.cells #[] 5)) (w4.heap.size + 1) (.slice (some ⟨w4.heap.size + 1, 0, none⟩) 0 0) []) := by
    show OwnL _ _ _ _ _
    rw [← hW5, ← z5]
    exact World.ownsRow_made W5 #[] 0 (Nat.le_refl _) (Nat.zero_le _) rfl
  have RA : Hid (Bytes ((w4.alloc (.cells #[.int .i64 src, .int .i64 dst, .int .i64 pro, .int .i64 64, .int .i64 idn, .string bo] 39)).alloc (.cells #[] 5)) (some ⟨gb, 0, none⟩) ln (fun j => PL.getD j 0)) := by
    show Bytes _ _ _ _
    rw [← hW5]
    exact (Rb5.out.below bm).1
  have HW5 : Hid (W5 = w4.alloc (.cells #[.int .i64 src, .int .i64 dst, .int .i64 pro, .int .i64 64, .int .i64 idn, .string bo] 39)) := hW5
  have Z5 : Hid (W5.heap.size = w4.heap.size + 1) := z5
  clear hW5 z5 bm
  go_wp2_with (at_builtin; refine wpl_byt _ rfl _ _ rfl (w4.heap.size + 1) _ [] rfl HO.out (some ⟨gb, 0, none⟩) ln cpb (fun j => PL.getD j 0) rfl RA.out (fun e => by cases e) (by simp; omega) (by simp) ?_)
  intro v6 w6 Y6
  have Y6' : Hid (OwnL 5 w6 (w4.heap.size + 1) v6 PL) := by
    have := Y6.out.own
    have e : (List.range PL.length).map (fun j => PL[j]?.getD 0) = PL := range_getD PL
    rw [← hPn.out] at this
    exact e ▸ this
  have B6 : Hid (Below W5.heap.size W5 w6) := by
    have := Y6.out.below
    rw [← HW5.out, ← Z5.out] at this
    exact ((Below.refl _ _).alloc (Nat.le_refl _) _).trans this
  have z6 : w4.heap.size + 1 ≤ w6.heap.size := by have := B6.out.size; have := Z5.out; omega
  clear Y6 HO RA
  go_wp2_with (at_builtin; refine wpl_app _ rfl _ _ rfl (w4.heap.size + 1) _ _ rfl (World.ownsRow.alloc Y6'.out _) ⟨w6.heap.size, 0, none⟩ 3 3 [1, 2, 3] rfl rfl (news_row (Boxed.new w6 [.int .u8 1, .int .u8 2, .int .u8 3] _)) (by have := hPn.out; omega) (by simp; omega) ?_)
  intro v7 w7 Y7
  have B7 : Hid (Below W5.heap.size W5 w7) := by
    have := Y7.out.below
    rw [← Z5.out] at this
    exact (B6.out.alloc (by have := Z5.out; omega) _).trans this
  obtain ⟨g7, c7, rfl, r7⟩ := rowD_of Y7.out.own (by
    intro x hx
    rcases List.mem_append.1 hx with h | h
    · exact bP.out x h
    · simp at h; omega) (by simp)
  have R7 : Hid (RowD w7 g7 c7 (ln + 3) (fun j => (PL ++ [1, 2, 3]).getD j 0)) := by
    have := r7
    rw [List.length_append, hPn.out] at this
    exact this
  rw [List.length_append, hPn.out]
  clear r7 Y7 Y6' B6 z6
  go_wp2_with fail
  refine (R1.out _ _ _ [1, 2, 3] (ln + 3) (fun x hx => by simp at hx; omega) rfl (by omega) R7.out).mono ?_
  rintro e w8 ⟨rfl, b8⟩
  obtain ⟨q10, hq10⟩ : ∃ q, q = w4.heap.size := ⟨_, rfl⟩
  obtain ⟨W8, hW8⟩ : ∃ W, W = w8.alloc (.cells #[.int .i64 src, .int .i64 dst, .int .i64 pro, .int .i64 64, .int .i64 idn, .string bo] 39) := ⟨_, rfl⟩
  have b8' : Below W5.heap.size W5 w8 := B7.out.trans (b8.out.mono B7.out.size)
  have bx : Below W5.heap.size W5 W8 := by rw [hW8]; exact b8'.alloc b8'.size _
  have z8 : W8.heap.size = w8.heap.size + 1 := by rw [hW8]; simp
  have K8 : Hid (Boxed W8 q5 [.int .i64 src, .int .i64 dst, .int .i64 pro, .int .i64 64, .int .i64 idn, .string bo]) := K5.out.below bx L5.out.1
  have X8 : Hid (Boxed W8 q10 [.int .i64 src, .int .i64 dst, .int .i64 pro, .int .i64 64, .int .i64 idn, .string bo]) := by rw [hq10]; exact X5.out.below bx L5.out.2
  have Y8 : Hid (Boxed W8 w8.heap.size [.int .i64 src, .int .i64 dst, .int .i64 pro, .int .i64 64, .int .i64 idn, .string bo]) := by rw [hW8]; exact Boxed.new w8 _ _
  have C8 : Hid (Below w.heap.size w W8) := C5.out.trans (bx.mono C5.out.size)
  have Rb8 : Hid (RowD W8 gb cpb ln (fun j => PL.getD j 0)) := Rb5.out.below bx
  have Rw8 : Hid (RowS W8 aw ln (fun j => PL.getD j 0)) := Rw5.out.below bx
  have HO : Hid (OwnL 5 (W8.alloc (.cells #[] 5)) (w8.heap.size + 1) (.slice (some ⟨w8.heap.size + 1, 0, none⟩) 0 0) []) := by
    show OwnL _ _ _ _ _
    rw [← z8]
    exact World.ownsRow_made W8 #[] 0 (Nat.le_refl _) (Nat.zero_le _) rfl
  have bm : Below W8.heap.size W8 (W8.alloc (.cells #[] 5)) := (Below.refl _ _).alloc (Nat.le_refl _) _
  have RA : Hid (Bytes (W8.alloc (.cells #[] 5)) (some ⟨gb, 0, none⟩) ln (fun j => PL.getD j 0)) := (Rb8.out.below bm).1
  have hc1 := conv_row (P := Try.prog) W8 22 9 5 Try.underlying22 Try.underlying5 Try.underlying9 _ ln cpb _ Rb8.out.1
  have hc2 := conv_row (P := Try.prog) W8 22 9 5 Try.underlying22 Try.underlying5 Try.underlying9 aw ln cpw _ Rw8.out.1
  obtain ⟨T1, hT1⟩ : ∃ T, T = strOf (fun j => PL.getD j 0) ln := ⟨_, rfl⟩
  rw [← hT1] at hc1 hc2
  have k0 := K8.out.at 0 _ rfl
  have x0 := X8.out.at 0 _ rfl
  have y0 := Y8.out.at 0 _ rfl
  have k1 := K8.out.at 1 _ rfl
  have x1 := X8.out.at 1 _ rfl
  have y1 := Y8.out.at 1 _ rfl
  have k2 := K8.out.at 2 _ rfl
  have x2 := X8.out.at 2 _ rfl
  have y2 := Y8.out.at 2 _ rfl
  have k3 := K8.out.at 3 _ rfl
  have x3 := X8.out.at 3 _ rfl
  have y3 := Y8.out.at 3 _ rfl
  have k4 := K8.out.at 4 _ rfl
  have x4 := X8.out.at 4 _ rfl
  have y4 := Y8.out.at 4 _ rfl
  have k5 := K8.out.at 5 _ rfl
  have x5 := X8.out.at 5 _ rfl
  have y5 := Y8.out.at 5 _ rfl
  have Z8 : Hid (W8.heap.size = w8.heap.size + 1) := z8
  rw [← hq10]
  clear hT1 hq10 z8 bm bx b8 b8' B7 R7 K5 X5 C5 L5 Rb5 Rw5 K8 X8 Y8 HW5 Z5 R1
  have lbI : wrap64 (20 + (bo.size : Int)) = (ln : Int) := by have := lb'.out; rw [show (20 + (bo.size : Int)) = (ln : Int) by omega]; unfold wrap64; omega
  subst hW8
  go_wp2_with (at_builtin; refine wpl_byt _ rfl _ _ rfl (w8.heap.size + 1) _ [] rfl HO.out (some ⟨gb, 0, none⟩) ln cpb (fun j => PL.getD j 0) rfl RA.out (fun e => by cases e) (by simp; omega) (by simp) ?_)
  intro v9 w9 Y9
  have Y9' : Hid (OwnL 5 w9 (w8.heap.size + 1) v9 PL) := by
    have := Y9.out.own
    have e : (List.range PL.length).map (fun j => PL[j]?.getD 0) = PL := range_getD PL
    rw [← hPn.out] at this
    exact e ▸ this
  have bq : Below (w8.alloc (.cells #[.int .i64 src, .int .i64 dst, .int .i64 pro, .int .i64 64, .int .i64 idn, .string bo] 39)).heap.size (w8.alloc (.cells #[.int .i64 src, .int .i64 dst, .int .i64 pro, .int .i64 64, .int .i64 idn, .string bo] 39)) w9 := by
    have := Y9.out.below
    rw [← Z8.out] at this
    exact ((Below.refl _ _).alloc (Nat.le_refl _) _).trans this
  have C9 : Hid (Below w.heap.size w w9) := C8.out.trans (bq.mono C8.out.size)
  have Rb9 : Hid (RowD w9 gb cpb ln (fun j => PL.getD j 0)) := Rb8.out.below bq
  obtain ⟨g9, c9, rfl, j1, j2, j3, j4, j5, j6⟩ := Laid.writ (w' := w9) Y9'.out bP.out (by have := hPn.out; omega)
  rw [hPn.out]
  have X9 : Hid (ln ≤ c9 ∧ c9 ≤ 9223372036854775807 ∧ w.heap.size ≤ g9 ∧ gb < g9 ∧ g9 < w9.heap.size ∧ (∀ i, w9.frozen? ⟨g9, i, none⟩ = false) ∧ ∀ i, i < ln → w9.cell? ⟨g9, i, none⟩ = some (.int .u8 (PL.getD i 0))) := by
    have z8 := Z8.out
    have z9 := C8.out.size
    have z0 := Rb8.out.2.1
    unfold maxLen at j2
    rw [hPn.out] at j1 j6
    exact ⟨j1, by omega, by omega, by omega, j4, j5, j6⟩
  clear j1 j2 j3 j4 j5 j6 bq Y9 Y9' C8 Rb8 Rw8 Z8 HO RA D1 hc1 hc2 k0 k1 k2 k3 k4 k5 x0 x1 x2 x3 x4 x5 y0 y1 y2 y3 y4 y5
  clear lbI
  have Da : Hid (∀ wx, Below w.heap.size w wx → Calls Try.prog 14 #[.slice b lb cb, .int .i64 0, .int .i64 20] wx fun e w' => ∃ v : Nat, e = .returned (.int .i64 (v : Int)) ∧ v < 20 ∧ ∃ k, w' = wx.drewN k) := fun wx bx => D3.out wx 0 20 (by omega) (by omega) (by omega) bx
  have Db : Hid (∀ wx, Below w.heap.size w wx → Calls Try.prog 14 #[.slice b lb cb, .int .i64 1, .int .i64 8] wx fun e w' => ∃ v : Nat, e = .returned (.int .i64 (v : Int)) ∧ v < 8 ∧ ∃ k, w' = wx.drewN k) := fun wx bx => D3.out wx 1 8 (by omega) (by omega) (by omega) bx
  have Dc : Hid (∀ wx, Below w.heap.size w wx → Calls Try.prog 14 #[.slice b lb cb, .int .i64 2, .int .i64 (ln : Int)] wx fun e w' => ∃ v : Nat, e = .returned (.int .i64 (v : Int)) ∧ v < ln ∧ ∃ k, w' = wx.drewN k) := fun wx bx => D3.out wx 2 ln (by omega) (by omega) (by omega) bx
  clear D3
  have RF : Hid (∀ wx (u : Nat), RowD wx gb cpb ln (fun j => PL.getD j 0) → u < ln → Calls Try.prog 18 #[.slice (some ⟨gb, 0, none⟩) u cpb] wx fun e w' => e = .returned (.tuple #[.agg #[.int .i64 0, .int .i64 0, .int .i64 0, .int .i64 0, .int .i64 0, .string ⟨#[]⟩], .int .i64 3]) ∧ Below wx.heap.size wx w') := fun wx u hr hu => by
    have h1 := hr.2.2.1
    by_cases h20 : u < 20
    · exact readPk_form _ u cpb wx (by omega) (Or.inl h20)
    · refine readPk_length _ u cpb (fun j => PL.getD j 0) wx ⟨hr.1.1, fun _ => ?_⟩ (by omega) hr.2.2.2 (by omega) (by omega) Q1.out.2.1 (ln : Int) Q1.out.2.2.symm (Or.inr (by omega))
      obtain ⟨b', off, e, hc⟩ := hr.1.2 (by omega)
      exact ⟨b', off, e, fun i hi => hc i (by omega)⟩
  go_wp2_with fail
  -- REGION
  refine wp_region_held_drew (S := (fun _ => True)) (by kernel_rfl) ?_ (fun hH0 => ?_)
  · trivial
  refine wpAnyH_take (i := 0) (v := ?v1) rfl (by kernel_rfl) (by kernel_rfl) (by kernel_rfl) (fun _ _ _ h => h) (Or.inl ⟨by rfl, ?hy1⟩) (by assumption) ?rest1
  case hy1 => (intro w hSw; (try dsimp only at hSw); go_simp; (try with_reducible rfl))
  refine wpAnyH_take (i := 1) (v := ?v2) rfl (by kernel_rfl) (by kernel_rfl) (by kernel_rfl) (fun _ _ _ h => h) (Or.inl ⟨by rfl, ?hy2⟩) (by assumption) ?rest2
  case hy2 => (intro w hSw; (try dsimp only at hSw); go_simp; (try with_reducible rfl))
  refine wpAnyH_take (i := 5) (v := ?v3) rfl (by kernel_rfl) (by kernel_rfl) (by kernel_rfl) (fun _ _ _ h => h) (Or.inl ⟨by rfl, ?hy3⟩) (by assumption) ?rest3
  case hy3 => (intro w hSw; (try dsimp only at hSw); go_simp; (try with_reducible rfl))
  refine wpAnyH_ready (rs := [2]) (by kernel_rfl) (by simp) ?_
  refine AllReadyH.cons rfl (fun K hK => ?_) ?_
  · go_simp
    refine (Da.out _ ?_).mono ?_
    · exact ⟨C9.out.os, C9.out.tape, C9.out.output, C9.out.size, C9.out.block⟩
    rintro e wA ⟨n9, rfl, hn9, kk, rfl⟩
    have hcK := X9.out.2.2.2.2.2.2 n9 (by omega)
    have hfK := X9.out.2.2.2.2.2.1 n9
    have kI0 : (0 : Int) ≤ (n9 : Int) := by omega
    have kI1 : (n9 : Int) < (ln : Int) := by omega
    obtain ⟨x, hx⟩ : ∃ x, x = PL.getD n9 0 := ⟨_, rfl⟩
    rw [← hx] at hcK
    have HX : Hid (x = PL.getD n9 0) := hx
    clear hx
    go_wp2_with fail
    refine hK.out _ _ ?_ (fun hH4 => ?_)
    · (try dsimp only)
      (try trivial)
    clear hK K hH0
    refine wpAnyH_take (i := 3) (v := ?v5) rfl (by kernel_rfl) (by kernel_rfl) (by kernel_rfl) (fun _ _ _ h => h) (Or.inl ⟨by rfl, ?hy5⟩) (by assumption) ?rest5
    case hy5 => (intro w hSw; (try dsimp only at hSw); go_simp; (try with_reducible rfl))
    refine wpAnyH_ready (rs := [4, 6]) (by kernel_rfl) (by simp) ?_
    refine AllReadyH.cons rfl (fun K hK => ?_) ?_
    · go_simp
      refine hK.out _ _ ?_ (fun hH6 => ?_)
      · (try dsimp only)
        (try trivial)
      clear hK K hH4
      refine wpAnyH_ready (rs := [6]) (by kernel_rfl) (by simp) ?_
      refine AllReadyH.cons rfl (fun K hK => ?_) ?_
      · go_simp
        refine (Db.out _ ?_).mono ?_
        · exact ⟨C9.out.os, C9.out.tape, C9.out.output, C9.out.size, C9.out.block⟩
        rintro e wB ⟨v, rfl, hv, kv, rfl⟩
        have v0 : (0 : Int) ≤ (v : Int) := by omega
        have v1 : (v : Int) < 8 := by omega
        go_wp2_with fail
        refine hK.out _ _ ?_ (fun hH7 => ?_)
        · (try dsimp only)
          (try trivial)
        clear hK K hH6
        refine wpAnyH_take (i := 7) (v := ?v8) rfl (by kernel_rfl) (by kernel_rfl) (by kernel_rfl) (fun _ _ _ h => h) (Or.inl ⟨by rfl, ?hy8⟩) (by assumption) ?rest8
        case hy8 => (intro w hSw; (try dsimp only at hSw); go_simp; (try with_reducible rfl))
        refine wpAnyH_take (i := 8) (v := ?v9) rfl (by kernel_rfl) (by kernel_rfl) (by kernel_rfl) (fun _ _ _ h => h) (Or.inl ⟨by rfl, ?hy9⟩) (by assumption) ?rest9
        case hy9 => (intro w hSw; (try dsimp only at hSw); go_simp; (try with_reducible rfl))
        refine wpAnyH_take (i := 9) (v := ?v10) rfl (by kernel_rfl) (by kernel_rfl) (by kernel_rfl) (fun _ _ _ h => h) (Or.inl ⟨by rfl, ?hy10⟩) (by assumption) ?rest10
        case hy10 => (intro w hSw; (try dsimp only at hSw); go_simp; (try with_reducible rfl))
        refine wpAnyH_take (i := 10) (v := ?v11) rfl (by kernel_rfl) (by kernel_rfl) (by kernel_rfl) (fun _ _ _ h => h) (Or.inl ⟨by rfl, ?hy11⟩) (by assumption) ?rest11
        case hy11 => (intro w hSw; (try dsimp only at hSw); go_simp; (try with_reducible rfl))
        refine wpAnyH_ready (rs := [11]) (by kernel_rfl) (by simp) ?_
        refine AllReadyH.cons rfl (fun K hK => ?_) ?_
        · go_simp
          refine hK.out _ _ ?_ (fun hH12 => ?_)
          · (try dsimp only)
            (try trivial)
          clear hK K hH7
          refine wpAnyH_done (by kernel_rfl) ?_ _
          obtain ⟨y0, y1, y2, y3, y4⟩ := xor_bit_mod x v (by rw [HX.out]; exact (getD_bd bP.out n9).1) (by rw [HX.out]; exact (getD_bd bP.out n9).2) hv
          obtain ⟨y, hy⟩ : ∃ y, y = bits BinOp.xor IntKind.u8 x (2 ^ min v 8 % 256) := ⟨_, rfl⟩
          rw [← hy] at y0 y1 y2 y3 y4
          obtain ⟨t1, t2, t3⟩ := turned_facts (k := 1 + kk + kv) (n9 := n9) (ln := ln) bP.out y3 y4 (by omega) X9.out C9.out Rb9.out
          have hs : chk (fun j => if j = n9 then y else PL.getD j 0) 20 ≠ 0 := by
            refine chk_turned (fun j => PL.getD j 0) _ n9 20 hn9 (fun j => getD_bd bP.out j) t1.1 (fun j hj => if_neg hj) Q1.out.1 ?_ ?_ ?_
            · show (if n9 = n9 then y else PL.getD n9 0) - PL.getD n9 0 ≠ 0
              rw [if_pos rfl, ← HX.out]; exact y0
            · show -128 ≤ (if n9 = n9 then y else PL.getD n9 0) - PL.getD n9 0
              rw [if_pos rfl, ← HX.out]; exact y1
            · show (if n9 = n9 then y else PL.getD n9 0) - PL.getD n9 0 ≤ 128
              rw [if_pos rfl, ← HX.out]; exact y2
          obtain ⟨WZ, hWZ⟩ : ∃ W, W = (w9.drewN (1 + kk + kv)).setCell ⟨g9, n9, none⟩ (.int .u8 y) := ⟨_, rfl⟩
          rw [← hWZ] at t1 t2 t3
          obtain ⟨c, hc0, hcall⟩ := readPk_bad (some ⟨g9, 0, none⟩) ln c9 _ WZ t1 X9.out.1 X9.out.2.1 l20 (by omega) hs
          have HC : Hid (Calls Try.prog 18 #[.slice (some ⟨g9, 0, none⟩) ln c9] WZ fun e w' => e = .returned (.tuple #[.agg #[.int .i64 0, .int .i64 0, .int .i64 0, .int .i64 0, .int .i64 0, .string ⟨#[]⟩], .int .i64 c]) ∧ Below WZ.heap.size WZ w') := hcall
          have T2 : Hid (RowD WZ gb cpb ln (fun j => PL.getD j 0)) := t2
          have T3 : Hid (Below w.heap.size w WZ) := t3
          have HY : Hid (y = bits BinOp.xor IntKind.u8 x (2 ^ min v 8 % 256)) := hy
          have HZ : Hid (WZ = (w9.drewN (1 + kk + kv)).setCell ⟨g9, n9, none⟩ (.int .u8 y)) := hWZ
          clear hcall t1 t2 t3 hs hy hWZ y0 y1 y2 y3 y4
          go_wp2_with fail
          rw [← HY.out, ← HZ.out]
          refine HC.out.mono ?_
          rintro e w11 ⟨rfl, b11⟩
          obtain ⟨W11, hW11⟩ : ∃ W, W = w11.alloc (.cells #[.int .i64 0, .int .i64 0, .int .i64 0, .int .i64 0, .int .i64 0, .string ⟨#[]⟩] 39) := ⟨_, rfl⟩
          have b12 : Below WZ.heap.size WZ W11 := by rw [hW11]; exact b11.alloc b11.size _
          have C11 : Hid (Below w.heap.size w W11) := T3.out.trans (b12.mono T3.out.size)
          have R11 : Hid (RowD W11 gb cpb ln (fun j => PL.getD j 0)) := T2.out.below b12
          clear b11 b12 HC T2 T3 HY HZ hcK hfK HX
          go_wp2_with fail
          rw [← hW11]
          clear hW11
          refine (Dc.out _ C11.out).mono ?_
          rintro e w12 ⟨u, rfl, hu, ku, rfl⟩
          have R12 : Hid (RowD (W11.drewN ku) gb cpb ln (fun j => PL.getD j 0)) := R11.out
          have hsl := cut_to gb ln cpb u (by have := R11.out.2.2.1; omega)
          go_wp2_with fail
          refine (RF.out _ u R12.out hu).mono ?_
          rintro e w13 ⟨rfl, b13⟩
          have C13 : Hid (Below w.heap.size w w13) := (below_drewN C11.out ku).trans (b13.mono C11.out.size)
          have hcb : (c != 0) = true := by simp; exact hc0
          clear b13 hsl R11 R12 C11
          go_wp2
          go_ret
          exact ⟨rfl, C13.out.alloc C13.out.size _⟩
        exact AllReadyH.nil
      exact AllReadyH.nil
    refine AllReadyH.cons rfl (fun K hK => ?_) ?_
    · go_simp
      refine (Db.out _ ?_).mono ?_
      · exact ⟨C9.out.os, C9.out.tape, C9.out.output, C9.out.size, C9.out.block⟩
      rintro e wB ⟨v, rfl, hv, kv, rfl⟩
      have v0 : (0 : Int) ≤ (v : Int) := by omega
      have v1 : (v : Int) < 8 := by omega
      go_wp2_with fail
      refine hK.out _ _ ?_ (fun hH13 => ?_)
      · (try dsimp only)
        (try trivial)
      clear hK K hH4
      refine wpAnyH_take (i := 7) (v := ?v14) rfl (by kernel_rfl) (by kernel_rfl) (by kernel_rfl) (fun _ _ _ h => h) (Or.inl ⟨by rfl, ?hy14⟩) (by assumption) ?rest14
      case hy14 => (intro w hSw; (try dsimp only at hSw); go_simp; (try with_reducible rfl))
      refine wpAnyH_take (i := 8) (v := ?v15) rfl (by kernel_rfl) (by kernel_rfl) (by kernel_rfl) (fun _ _ _ h => h) (Or.inl ⟨by rfl, ?hy15⟩) (by assumption) ?rest15
      case hy15 => (intro w hSw; (try dsimp only at hSw); go_simp; (try with_reducible rfl))
      refine wpAnyH_ready (rs := [4]) (by kernel_rfl) (by simp) ?_
      refine AllReadyH.cons rfl (fun K hK => ?_) ?_
      · go_simp
        refine hK.out _ _ ?_ (fun hH16 => ?_)
        · (try dsimp only)
          (try trivial)
        clear hK K hH13
        refine wpAnyH_take (i := 9) (v := ?v17) rfl (by kernel_rfl) (by kernel_rfl) (by kernel_rfl) (fun _ _ _ h => h) (Or.inl ⟨by rfl, ?hy17⟩) (by assumption) ?rest17
        case hy17 => (intro w hSw; (try dsimp only at hSw); go_simp; (try with_reducible rfl))
        refine wpAnyH_take (i := 10) (v := ?v18) rfl (by kernel_rfl) (by kernel_rfl) (by kernel_rfl) (fun _ _ _ h => h) (Or.inl ⟨by rfl, ?hy18⟩) (by assumption) ?rest18
        case hy18 => (intro w hSw; (try dsimp only at hSw); go_simp; (try with_reducible rfl))
        refine wpAnyH_ready (rs := [11]) (by kernel_rfl) (by simp) ?_
        refine AllReadyH.cons rfl (fun K hK => ?_) ?_
        · go_simp
          refine hK.out _ _ ?_ (fun hH19 => ?_)
          · (try dsimp only)
            (try trivial)
          clear hK K hH16
          refine wpAnyH_done (by kernel_rfl) ?_ _
          obtain ⟨y0, y1, y2, y3, y4⟩ := xor_bit_mod x v (by rw [HX.out]; exact (getD_bd bP.out n9).1) (by rw [HX.out]; exact (getD_bd bP.out n9).2) hv
          obtain ⟨y, hy⟩ : ∃ y, y = bits BinOp.xor IntKind.u8 x (2 ^ min v 8 % 256) := ⟨_, rfl⟩
          rw [← hy] at y0 y1 y2 y3 y4
          obtain ⟨t1, t2, t3⟩ := turned_facts (k := 1 + kk + kv) (n9 := n9) (ln := ln) bP.out y3 y4 (by omega) X9.out C9.out Rb9.out
          have hs : chk (fun j => if j = n9 then y else PL.getD j 0) 20 ≠ 0 := by
            refine chk_turned (fun j => PL.getD j 0) _ n9 20 hn9 (fun j => getD_bd bP.out j) t1.1 (fun j hj => if_neg hj) Q1.out.1 ?_ ?_ ?_
            · show (if n9 = n9 then y else PL.getD n9 0) - PL.getD n9 0 ≠ 0
              rw [if_pos rfl, ← HX.out]; exact y0
            · show -128 ≤ (if n9 = n9 then y else PL.getD n9 0) - PL.getD n9 0
              rw [if_pos rfl, ← HX.out]; exact y1
            · show (if n9 = n9 then y else PL.getD n9 0) - PL.getD n9 0 ≤ 128
              rw [if_pos rfl, ← HX.out]; exact y2
          obtain ⟨WZ, hWZ⟩ : ∃ W, W = (w9.drewN (1 + kk + kv)).setCell ⟨g9, n9, none⟩ (.int .u8 y) := ⟨_, rfl⟩
          rw [← hWZ] at t1 t2 t3
          obtain ⟨c, hc0, hcall⟩ := readPk_bad (some ⟨g9, 0, none⟩) ln c9 _ WZ t1 X9.out.1 X9.out.2.1 l20 (by omega) hs
          have HC : Hid (Calls Try.prog 18 #[.slice (some ⟨g9, 0, none⟩) ln c9] WZ fun e w' => e = .returned (.tuple #[.agg #[.int .i64 0, .int .i64 0, .int .i64 0, .int .i64 0, .int .i64 0, .string ⟨#[]⟩], .int .i64 c]) ∧ Below WZ.heap.size WZ w') := hcall
          have T2 : Hid (RowD WZ gb cpb ln (fun j => PL.getD j 0)) := t2
          have T3 : Hid (Below w.heap.size w WZ) := t3
          have HY : Hid (y = bits BinOp.xor IntKind.u8 x (2 ^ min v 8 % 256)) := hy
          have HZ : Hid (WZ = (w9.drewN (1 + kk + kv)).setCell ⟨g9, n9, none⟩ (.int .u8 y)) := hWZ
          clear hcall t1 t2 t3 hs hy hWZ y0 y1 y2 y3 y4
          go_wp2_with fail
          rw [← HY.out, ← HZ.out]
          refine HC.out.mono ?_
          rintro e w11 ⟨rfl, b11⟩
          obtain ⟨W11, hW11⟩ : ∃ W, W = w11.alloc (.cells #[.int .i64 0, .int .i64 0, .int .i64 0, .int .i64 0, .int .i64 0, .string ⟨#[]⟩] 39) := ⟨_, rfl⟩
          have b12 : Below WZ.heap.size WZ W11 := by rw [hW11]; exact b11.alloc b11.size _
          have C11 : Hid (Below w.heap.size w W11) := T3.out.trans (b12.mono T3.out.size)
          have R11 : Hid (RowD W11 gb cpb ln (fun j => PL.getD j 0)) := T2.out.below b12
          clear b11 b12 HC T2 T3 HY HZ hcK hfK HX
          go_wp2_with fail
          rw [← hW11]
          clear hW11
          refine (Dc.out _ C11.out).mono ?_
          rintro e w12 ⟨u, rfl, hu, ku, rfl⟩
          have R12 : Hid (RowD (W11.drewN ku) gb cpb ln (fun j => PL.getD j 0)) := R11.out
          have hsl := cut_to gb ln cpb u (by have := R11.out.2.2.1; omega)
          go_wp2_with fail
          refine (RF.out _ u R12.out hu).mono ?_
          rintro e w13 ⟨rfl, b13⟩
          have C13 : Hid (Below w.heap.size w w13) := (below_drewN C11.out ku).trans (b13.mono C11.out.size)
          have hcb : (c != 0) = true := by simp; exact hc0
          clear b13 hsl R11 R12 C11
          go_wp2
          go_ret
          exact ⟨rfl, C13.out.alloc C13.out.size _⟩
        exact AllReadyH.nil
      exact AllReadyH.nil
    exact AllReadyH.nil
  exact AllReadyH.nil
end Go.Proofs.Ytmhlanbmlkidhaa.Pk
