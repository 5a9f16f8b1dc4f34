/- The program endsSum, SegmentBytes and DatagramBytes. -/
import Derived.Test.YtfcdobicilediaaPacketB
namespace Go.Proofs.Ytfcdobicilediaa
open Go.RowKit Go.PlainAid
set_option linter.unusedVariables false
set_option maxRecDepth 20000

/-- What a sum has ahead of a segment or a datagram. -/
def pseudoL (src dst pro n : Int) : List Int := nbl src 4 ++ nbl dst 4 ++ [0, pro] ++ nbl n 2
def endsL (src dst pro : Int) (L : List Int) : Int := chkL (pseudoL src dst pro (L.length : Int) ++ L)
theorem pseudoL_len (src dst pro n : Int) : (pseudoL src dst pro n).length = 12 := by simp [pseudoL, nbl_len]
theorem pseudoL_bd (src dst pro n : Int) (h : 0 ≤ pro ∧ pro ≤ 255) : ∀ x ∈ pseudoL src dst pro n, 0 ≤ x ∧ x ≤ 255 :=
  bdA (bdA (bdA (nbl_bd _ _) (nbl_bd _ _)) (two_bd (by omega) h)) (nbl_bd _ _)
theorem endsL_bd (src dst pro : Int) (L : List Int) (h : 0 ≤ pro ∧ pro ≤ 255) (hL : ∀ x ∈ L, 0 ≤ x ∧ x ≤ 255) : 0 ≤ endsL src dst pro L ∧ endsL src dst pro L ≤ 65535 :=
  chkL_bd _ (bdA (pseudoL_bd src dst pro _ h) hL)

theorem news_bytes {w w' : World} {b off len : Nat} {f : Nat → Int} (h : Bytes w (some ⟨b, off, none⟩) len f) (hb : Below w.heap.size w w') : ∀ j u, (((List.range len).map f).map (Value.int .u8))[j]? = some u → w'.cell? ((⟨b, off, none⟩ : Addr).add j) = some u := by
  intro j u hu
  have hj : j < len := by
    by_cases hj : j < len
    · exact hj
    · rw [List.getElem?_eq_none (by simp; omega)] at hu; cases hu
  obtain ⟨b', off', e, hc⟩ := h.2 (by omega)
  cases e
  have ea : (⟨b, off, none⟩ : Addr).add j = ⟨b, off + j, none⟩ := by unfold Addr.add; split <;> simp_all
  rw [ea]
  refine keep_cell ?_ hb
  rw [hc j hj]
  simpa [hj] using hu

set_option maxHeartbeats 4000000 in
theorem endsSum_any (src dst pro : Int) (a : Option Addr) (len cap : Nat) (f : Nat → Int) (w : World) (h : Bytes w a len f) (h0 : 0 < len) (hl : len ≤ 60000) (s0 : 0 ≤ src) (s1 : src ≤ 4294967295) (d0 : 0 ≤ dst) (d1 : dst ≤ 4294967295) (p0 : 0 ≤ pro) (p1 : pro ≤ 255) :
    Calls Try.prog 41 #[.int .i64 src, .int .i64 dst, .int .i64 pro, .slice a len cap] w fun e w' => e = .returned (.int .i64 (endsL src dst pro ((List.range len).map f))) ∧ Below w.heap.size w w' := by
  obtain ⟨b, off, rfl, -⟩ := h.2 h0
  have H : Hid (Bytes w (some ⟨b, off, none⟩) len f) := h
  clear h
  have LP := pseudoL_len src dst pro (len : Int)
  obtain ⟨MC, hMC⟩ := make_room (12 + len) (by omega)
  have O0 : Hid (OwnL 5 (w.alloc (.cells MC 5)) w.heap.size (.slice (some ⟨w.heap.size, 0, none⟩) 0 (12 + len)) []) := (hMC w).2
  have hmk : (Instr.makeSlice 22 (.int .i64 0) (.int .i64 (12 + (len : Int)))).run Try.prog w = .ok (.slice (some ⟨w.heap.size, 0, none⟩) 0 (12 + len)) (w.alloc (.cells MC 5)) := by
    have := (hMC w).1
    simpa using this
  clear hMC
  have B0 : Hid (Below w.heap.size w (w.alloc (.cells MC 5))) := (Below.refl _ _).alloc (Nat.le_refl _) _
  go_enter Try.func41, Try.ntmps41
  go_wp2_with fail
  refine (addNum _ _ src 4 _ w.heap.size O0.out (by simp) (by omega) (by omega) (by omega) (by simp; omega) (by omega) (by simp)).mono ?_
  rintro e w1_ ⟨v1_, rfl, Y1⟩
  have B1 : Hid (Below w.heap.size w w1_) := B0.out.trans Y1.out.below
  have z1_ := B1.out.size
  go_wp2_with fail
  refine (addNum v1_ _ dst 4 _ w.heap.size Y1.out.own (by omega) (by omega) (by omega) (by omega) (by simp; omega) (by omega) (by simp [nbl_len])).mono ?_
  rintro e w2_ ⟨v2_, rfl, Y2⟩
  have B2 : Hid (Below w.heap.size w w2_) := B1.out.trans Y2.out.below
  have z2_ := B2.out.size
  have N2 : Hid (Boxed (w2_.alloc (.cells #[.int .u8 0, .int .u8 pro] 5)) (w2_.heap.size) ([0, pro].map (Value.int .u8))) := by
    show Boxed _ _ _
    have := Boxed.new w2_ ([0, pro].map (Value.int .u8)) 5
    simpa using this
  go_wp2_with (at_builtin; refine wpl_app _ rfl _ _ rfl w.heap.size _ _ rfl (World.ownsRow.alloc Y2.out.own _) ⟨w2_.heap.size, 0, none⟩ 2 2 [0, pro] rfl rfl (news_row N2.out) (by simp [nbl_len]) (by simp; try omega) ?_)
  intro v3_ w3_ Y3
  have B3 : Hid (Below w.heap.size w w3_) := (B2.out.alloc (by omega) _).trans Y3.out.below
  have z3_ := B3.out.size
  go_wp2_with fail
  refine (addNum v3_ _ (len : Int) 2 _ w.heap.size Y3.out.own (by omega) (by omega) (by omega) (by omega) (by simp; omega) (by omega) (by simp [nbl_len])).mono ?_
  rintro e w4_ ⟨v4_, rfl, Y4⟩
  have B4 : Hid (Below w.heap.size w w4_) := B3.out.trans Y4.out.below
  have z4_ := B4.out.size
  have O4 : Hid (OwnL 5 w4_ w.heap.size v4_ (pseudoL src dst pro (len : Int))) := by
    show OwnL _ _ _ _ _
    have := Y4.out.own
    simpa [pseudoL] using this
  go_wp2_with (at_builtin; refine wpl_app _ rfl _ _ rfl w.heap.size _ _ rfl O4.out ⟨b, off, none⟩ len cap ((List.range len).map f) rfl (by simp) (news_bytes H.out B4.out) (by simp [LP]; omega) (by omega) ?_)
  intro v5_ w5_ Y5
  have hbd : Hid (∀ x ∈ pseudoL src dst pro (len : Int) ++ (List.range len).map f, 0 ≤ x ∧ x ≤ 255) := bdA (pseudoL_bd src dst pro _ ⟨p0, p1⟩) (by intro x hx; obtain ⟨j, -, rfl⟩ := List.mem_map.1 hx; exact H.out.1 j)
  obtain ⟨L, hL⟩ : ∃ L, L = pseudoL src dst pro (len : Int) ++ (List.range len).map f := ⟨_, rfl⟩
  have HL : Hid (L = pseudoL src dst pro (len : Int) ++ (List.range len).map f) := hL
  rw [← hL] at Y5 hbd
  have hlL : L.length ≤ 65536 := by rw [hL]; simp [LP]; omega
  clear hL
  go_wp2_with fail
  refine (check_own v5_ L w5_ _ Y5.out.own hbd.out hlL).mono ?_
  rintro e w6 ⟨rfl, hw6⟩
  obtain rfl := hw6.symm
  clear hw6
  have B5 : Hid (Below w.heap.size w w5_) := B4.out.trans Y5.out.below
  go_wp2
  go_ret
  refine ⟨?_, B5.out⟩
  show Ending.returned (.int .i64 (chkL L)) = _
  rw [HL.out]
  unfold endsL
  rw [show (((List.range len).map f).length : Int) = (len : Int) by simp]

def segA (sp dp sq ak fl wn : Int) : List Int := nbl sp 2 ++ nbl dp 2 ++ nbl sq 4 ++ nbl ak 4 ++ [80, fl] ++ nbl wn 2
def segB (data : ByteArray) : List Int := [0, 0] ++ nums data
def segSum (src dst sp dp sq ak fl wn : Int) (data : ByteArray) : Int := endsL src dst 6 (segA sp dp sq ak fl wn ++ [0, 0] ++ segB data)
def segL (src dst sp dp sq ak fl wn : Int) (data : ByteArray) : List Int := segA sp dp sq ak fl wn ++ nbl (segSum src dst sp dp sq ak fl wn data) 2 ++ segB data
theorem segA_len (sp dp sq ak fl wn : Int) : (segA sp dp sq ak fl wn).length = 16 := by simp [segA, nbl_len]
theorem segB_len (data : ByteArray) : (segB data).length = 2 + data.size := by simp [segB, nums_len]; omega
theorem segA_bd (sp dp sq ak fl wn : Int) (h : 0 ≤ fl ∧ fl ≤ 255) : ∀ x ∈ segA sp dp sq ak fl wn, 0 ≤ x ∧ x ≤ 255 :=
  bdA (bdA (bdA (bdA (bdA (nbl_bd _ _) (nbl_bd _ _)) (nbl_bd _ _)) (nbl_bd _ _)) (two_bd (by omega) h)) (nbl_bd _ _)
theorem segB_bd (data : ByteArray) : ∀ x ∈ segB data, 0 ≤ x ∧ x ≤ 255 := bdA (two_bd (by omega) (by omega)) (nums_bd data)

/-- endsSum of a row of the call's own. -/
theorem ends_own (src dst pro : Int) (v : Value) (L : List Int) (w : World) (B : Nat) (h : OwnL 5 w B v L) (hL : ∀ x ∈ L, 0 ≤ x ∧ x ≤ 255) (h0 : 0 < L.length) (hl : L.length ≤ 60000) (s0 : 0 ≤ src) (s1 : src ≤ 4294967295) (d0 : 0 ≤ dst) (d1 : dst ≤ 4294967295) (p0 : 0 ≤ pro) (p1 : pro ≤ 255) :
    Calls Try.prog 41 #[.int .i64 src, .int .i64 dst, .int .i64 pro, v] w fun e w' => e = .returned (.int .i64 (endsL src dst pro L)) ∧ Below w.heap.size w w' := by
  obtain ⟨a, cap, rfl, hb, _⟩ := h.slice hL
  have := endsSum_any src dst pro a L.length cap _ w hb h0 hl s0 s1 d0 d1 p0 p1
  rwa [range_getD] at this
theorem OwnL.below {w w' : World} {B : Nat} {v : Value} {L : List Int} (h : OwnL 5 w B v L) (b : Below w.heap.size w w') : OwnL 5 w' B v L := by
  rcases hv : v.ownBlock with _ | q
  · exact World.ownsRow.kept h (below_grownBy b none) (.inl hv)
  · exact World.ownsRow.kept h (below_grownBy b none) (.inr (by rw [hv]; simp))

set_option maxHeartbeats 4000000 in
theorem segmentBytes_yes (src dst : Int) (sp : Int) (dp : Int) (sq : Int) (ak : Int) (fl : Int) (wn : Int) (data : ByteArray) (w : World) (xsp : sp ≤ 9223372036854775807) (xdp : dp ≤ 9223372036854775807) (xsq : sq ≤ 9223372036854775807) (xak : ak ≤ 9223372036854775807) (xfl : fl ≤ 9223372036854775807) (xwn : wn ≤ 9223372036854775807) (xdata : data.size ≤ 1048576) (s0 : 0 ≤ src) (s1 : src ≤ 4294967295) (d0 : 0 ≤ dst) (d1 : dst ≤ 4294967295) (h : (0 ≤ sp ∧ sp ≤ 65535) ∧ (0 ≤ dp ∧ dp ≤ 65535) ∧ (0 ≤ sq ∧ sq ≤ 4294967295) ∧ (0 ≤ ak ∧ ak ≤ 4294967295) ∧ (0 ≤ fl ∧ fl ≤ 31) ∧ (0 ≤ wn ∧ wn ≤ 65535) ∧ (data.size ≤ 360)) :
    Calls Try.prog 8 #[.int .i64 src, .int .i64 dst, .agg #[.int .i64 sp, .int .i64 dp, .int .i64 sq, .int .i64 ak, .int .i64 fl, .int .i64 wn, .string data]] w fun e w' => ∃ v B, e = .returned (.tuple #[v, .int .i64 0]) ∧ OwnL 5 w' B v (segL src dst sp dp sq ak fl wn data) ∧ w.heap.size ≤ B ∧ Below w.heap.size w w' := by
  have bs := dec_y (show 0 ≤ src ∧ src ≤ 4294967295 from ⟨s0, s1⟩)
  have bd := dec_y (show 0 ≤ dst ∧ dst ≤ 4294967295 from ⟨d0, d1⟩)
  have hb := dec_y h
  have gsp0 := h.1.1
  have gsp1 := h.1.2
  have gdp0 := h.2.1.1
  have gdp1 := h.2.1.2
  have gsq0 := h.2.2.1.1
  have gsq1 := h.2.2.1.2
  have gak0 := h.2.2.2.1.1
  have gak1 := h.2.2.2.1.2
  have gfl0 := h.2.2.2.2.1.1
  have gfl1 := h.2.2.2.2.1.2
  have gwn0 := h.2.2.2.2.2.1.1
  have gwn1 := h.2.2.2.2.2.1.2
  have gd := h.2.2.2.2.2.2
  have LA := segA_len sp dp sq ak fl wn
  have LB := segB_len data
  clear h
  go_enter Try.func8, Try.ntmps8
  go_wp2_with fail
  refine (addressOK_any _ _).mono ?_
  rintro e w1 ⟨rfl, hw1⟩
  obtain rfl := hw1.symm
  clear hw1
  go_wp2_with fail
  refine (addressOK_any _ _).mono ?_
  rintro e w1 ⟨rfl, hw1⟩
  obtain rfl := hw1.symm
  clear hw1
  go_wp2_with fail
  refine (segmentOK_any sp dp sq ak fl wn data _ xsp xdp xsq xak xfl xwn xdata).mono ?_
  rintro e w1 ⟨rfl, b1, z1⟩
  simp only [World.size_alloc] at z1
  have X : Hid (Boxed w1 w.heap.size [.int .i64 sp, .int .i64 dp, .int .i64 sq, .int .i64 ak, .int .i64 fl, .int .i64 wn, .string data] ∧ Below w.heap.size w w1) :=
    ⟨(Boxed.new w _ _).below b1 (by simp), ((Below.refl _ _).alloc (Nat.le_refl _) _).trans (b1.mono (by simp))⟩
  clear b1
  have x6 := X.out.1.at 6 _ rfl
  obtain ⟨MC, hMC⟩ := make_room (20 + data.size) (by omega)
  have O0 : Hid (OwnL 5 (w1.alloc (.cells MC 5)) w1.heap.size (.slice (some ⟨w1.heap.size, 0, none⟩) 0 (20 + data.size)) []) := (hMC w1).2
  have hmk : (Instr.makeSlice 22 (.int .i64 0) (.int .i64 (20 + (data.size : Int)))).run Try.prog w1 = .ok (.slice (some ⟨w1.heap.size, 0, none⟩) 0 (20 + data.size)) (w1.alloc (.cells MC 5)) := by
    have := (hMC w1).1
    simpa using this
  clear hMC
  have B0 : Hid (Below w1.heap.size w1 (w1.alloc (.cells MC 5))) := (Below.refl _ _).alloc (Nat.le_refl _) _
  have j0 := (X.out.1.below B0.out (by omega)).at 0 _ rfl
  go_wp2_with fail
  refine (addNum _ _ sp 2 _ w1.heap.size O0.out (by simp) (by omega) (by omega) (by omega) (by simp; omega) (by omega) (by simp)).mono ?_
  rintro e w1_ ⟨v1_, rfl, Y1⟩
  have B1 : Hid (Below w1.heap.size w1 w1_) := B0.out.trans Y1.out.below
  have z1_ := B1.out.size
  clear j0
  have j1_1 := (X.out.1.below B1.out (by omega)).at 1 _ rfl
  go_wp2_with fail
  refine (addNum v1_ _ dp 2 _ w1.heap.size Y1.out.own (by omega) (by omega) (by omega) (by omega) (by simp; omega) (by omega) (by simp [nbl_len])).mono ?_
  rintro e w2_ ⟨v2_, rfl, Y2⟩
  have B2 : Hid (Below w1.heap.size w1 w2_) := B1.out.trans Y2.out.below
  have z2_ := B2.out.size
  clear j1_1
  have j2_2 := (X.out.1.below B2.out (by omega)).at 2 _ rfl
  go_wp2_with fail
  refine (addNum v2_ _ sq 4 _ w1.heap.size Y2.out.own (by omega) (by omega) (by omega) (by omega) (by simp; omega) (by omega) (by simp [nbl_len])).mono ?_
  rintro e w3_ ⟨v3_, rfl, Y3⟩
  have B3 : Hid (Below w1.heap.size w1 w3_) := B2.out.trans Y3.out.below
  have z3_ := B3.out.size
  clear j2_2
  have j3_3 := (X.out.1.below B3.out (by omega)).at 3 _ rfl
  go_wp2_with fail
  refine (addNum v3_ _ ak 4 _ w1.heap.size Y3.out.own (by omega) (by omega) (by omega) (by omega) (by simp; omega) (by omega) (by simp [nbl_len])).mono ?_
  rintro e w4_ ⟨v4_, rfl, Y4⟩
  have B4 : Hid (Below w1.heap.size w1 w4_) := B3.out.trans Y4.out.below
  have z4_ := B4.out.size
  clear j3_3
  have j4_4 := (X.out.1.below B4.out (by omega)).at 4 _ rfl
  have N4 : Hid (Boxed (w4_.alloc (.cells #[.int .u8 80, .int .u8 fl] 5)) (w4_.heap.size) ([80, fl].map (Value.int .u8))) := by
    show Boxed _ _ _
    have := Boxed.new w4_ ([80, fl].map (Value.int .u8)) 5
    simpa using this
  go_wp2_with (at_builtin; refine wpl_app _ rfl _ _ rfl w1.heap.size _ _ rfl (World.ownsRow.alloc Y4.out.own _) ⟨w4_.heap.size, 0, none⟩ 2 2 [80, fl] rfl rfl (news_row N4.out) (by simp [nbl_len]) (by simp; try omega) ?_)
  intro v5_ w5_ Y5
  have B5 : Hid (Below w1.heap.size w1 w5_) := (B4.out.alloc (by omega) _).trans Y5.out.below
  have z5_ := B5.out.size
  clear j4_4
  have j5_5 := (X.out.1.below B5.out (by omega)).at 5 _ rfl
  go_wp2_with fail
  refine (addNum v5_ _ wn 2 _ w1.heap.size Y5.out.own (by omega) (by omega) (by omega) (by omega) (by simp; omega) (by omega) (by simp [nbl_len])).mono ?_
  rintro e w6_ ⟨v6_, rfl, Y6⟩
  have B6 : Hid (Below w1.heap.size w1 w6_) := B5.out.trans Y6.out.below
  have z6_ := B6.out.size
  clear j5_5
  have N6 : Hid (Boxed (w6_.alloc (.cells #[.int .u8 0, .int .u8 0, .int .u8 0, .int .u8 0] 5)) (w6_.heap.size) ([0, 0, 0, 0].map (Value.int .u8))) := by
    show Boxed _ _ _
    have := Boxed.new w6_ ([0, 0, 0, 0].map (Value.int .u8)) 5
    simpa using this
  go_wp2_with (at_builtin; refine wpl_app _ rfl _ _ rfl w1.heap.size _ _ rfl (World.ownsRow.alloc Y6.out.own _) ⟨w6_.heap.size, 0, none⟩ 4 4 [0, 0, 0, 0] rfl rfl (news_row N6.out) (by simp [nbl_len]) (by simp; try omega) ?_)
  intro v7_ w7_ Y7
  have B7 : Hid (Below w1.heap.size w1 w7_) := (B6.out.alloc (by omega) _).trans Y7.out.below
  have z7_ := B7.out.size
  have j7_6 := (X.out.1.below B7.out (by omega)).at 6 _ rfl
  go_wp2_with (at_builtin; refine wpl_str _ rfl _ _ rfl w1.heap.size _ _ rfl Y7.out.own data rfl (by simp [nbl_len]; omega) (by omega) ?_)
  intro v8_ w8_ Y8
  have B8 : Hid (Below w1.heap.size w1 w8_) := B7.out.trans Y8.out.below
  have z8_ := B8.out.size
  clear j7_6
  obtain ⟨L, hL⟩ : ∃ L, L = segA sp dp sq ak fl wn ++ [0, 0] ++ segB data := ⟨_, rfl⟩
  have HL : Hid (L = segA sp dp sq ak fl wn ++ [0, 0] ++ segB data) := hL
  have O8 : Hid (OwnL 5 w8_ w1.heap.size v8_ L) := by
    show OwnL _ _ _ _ _
    have := Y8.out.own
    rw [hL]
    simpa [segA, segB] using this
  have hlL : L.length = 20 + data.size := by rw [hL]; simp [LA, LB]; omega
  have HBD : Hid (∀ x ∈ L, 0 ≤ x ∧ x ≤ 255) := by
    show ∀ x ∈ L, _
    rw [hL]
    exact bdA (bdA (segA_bd sp dp sq ak fl wn ⟨gfl0, by omega⟩) (two_bd (a := 0) (b := 0) (by omega) (by omega))) (segB_bd data)
  clear hL
  go_wp2_with fail
  refine (ends_own src dst 6 v8_ L w8_ _ O8.out HBD.out (by omega) (by omega) s0 s1 d0 d1 (by omega) (by omega)).mono ?_
  rintro e w9 ⟨rfl, b9⟩
  have z9 := b9.size
  have O9 : Hid (OwnL 5 w9 w1.heap.size v8_ L) := OwnL.below O8.out b9
  have B9 : Hid (Below w1.heap.size w1 w9) := B8.out.trans (b9.mono (by omega))
  clear b9
  have sm := endsL_bd src dst 6 L (by omega) HBD.out
  have sm0 := sm.1
  have sm1 := sm.2
  clear sm
  obtain ⟨sm, hsm⟩ : ∃ sm, sm = endsL src dst 6 L := ⟨_, rfl⟩
  rw [← hsm] at sm0 sm1
  rw [← hsm]
  have HSM : Hid (sm = endsL src dst 6 L) := hsm
  clear hsm
  go_wp2_with fail
  refine (setNum v8_ L 16 sm 2 w9 w1.heap.size O9.out (by omega) (by omega) (by omega) (by omega) sm0 (by simp; omega) (by omega) (by omega)).mono ?_
  rintro e w10 ⟨rfl, Y10⟩
  go_wp2
  go_ret2
  refine ⟨v8_, w1.heap.size, rfl, ?_, by omega, X.out.2.trans ((B9.out.trans Y10.out.below).mono (by omega))⟩
  have := Y10.out.own
  rw [HSM.out] at this
  rw [HL.out] at this
  have e := over_mid (segA sp dp sq ak fl wn) [0, 0] (nbl (endsL src dst 6 (segA sp dp sq ak fl wn ++ [0, 0] ++ segB data)) 2) (segB data) (by simp [nbl_len])
  rw [LA] at e
  rw [e] at this
  exact this

def dgA (sp dp : Int) (data : ByteArray) : List Int := nbl sp 2 ++ nbl dp 2 ++ nbl (8 + (data.size : Int)) 2
/-- A sum of 0 is told as 65535. -/
def fix0 (n : Int) : Int := if n = 0 then 65535 else n
def dgSum (src dst sp dp : Int) (data : ByteArray) : Int := fix0 (endsL src dst 17 (dgA sp dp data ++ [0, 0] ++ nums data))
def dgL (src dst sp dp : Int) (data : ByteArray) : List Int := dgA sp dp data ++ nbl (dgSum src dst sp dp data) 2 ++ nums data
theorem dgA_len (sp dp : Int) (data : ByteArray) : (dgA sp dp data).length = 6 := by simp [dgA, nbl_len]
theorem dgA_bd (sp dp : Int) (data : ByteArray) : ∀ x ∈ dgA sp dp data, 0 ≤ x ∧ x ≤ 255 := bdA (bdA (nbl_bd _ _) (nbl_bd _ _)) (nbl_bd _ _)
theorem fix0_bd {n : Int} (h0 : 0 ≤ n) (h1 : n ≤ 65535) : 0 ≤ fix0 n ∧ fix0 n ≤ 65535 := by unfold fix0; split <;> omega

set_option maxHeartbeats 4000000 in
theorem datagramBytes_yes (src dst : Int) (sp : Int) (dp : Int) (data : ByteArray) (w : World) (xsp : sp ≤ 9223372036854775807) (xdp : dp ≤ 9223372036854775807) (xdata : data.size ≤ 1048576) (s0 : 0 ≤ src) (s1 : src ≤ 4294967295) (d0 : 0 ≤ dst) (d1 : dst ≤ 4294967295) (h : (0 ≤ sp ∧ sp ≤ 65535) ∧ (0 ≤ dp ∧ dp ≤ 65535) ∧ (data.size ≤ 372)) :
    Calls Try.prog 13 #[.int .i64 src, .int .i64 dst, .agg #[.int .i64 sp, .int .i64 dp, .string data]] w fun e w' => ∃ v B, e = .returned (.tuple #[v, .int .i64 0]) ∧ OwnL 5 w' B v (dgL src dst sp dp data) ∧ w.heap.size ≤ B ∧ Below w.heap.size w w' := by
  have bs := dec_y (show 0 ≤ src ∧ src ≤ 4294967295 from ⟨s0, s1⟩)
  have bd := dec_y (show 0 ≤ dst ∧ dst ≤ 4294967295 from ⟨d0, d1⟩)
  have hb := dec_y h
  have gsp0 := h.1.1
  have gsp1 := h.1.2
  have gdp0 := h.2.1.1
  have gdp1 := h.2.1.2
  have gd := h.2.2
  have LA := dgA_len sp dp data
  clear h
  go_enter Try.func13, Try.ntmps13
  go_wp2_with fail
  refine (addressOK_any _ _).mono ?_
  rintro e w1 ⟨rfl, hw1⟩
  obtain rfl := hw1.symm
  clear hw1
  go_wp2_with fail
  refine (addressOK_any _ _).mono ?_
  rintro e w1 ⟨rfl, hw1⟩
  obtain rfl := hw1.symm
  clear hw1
  go_wp2_with fail
  refine (datagramOK_any sp dp data _ xsp xdp xdata).mono ?_
  rintro e w1 ⟨rfl, b1, z1⟩
  simp only [World.size_alloc] at z1
  have X : Hid (Boxed w1 w.heap.size [.int .i64 sp, .int .i64 dp, .string data] ∧ Below w.heap.size w w1) :=
    ⟨(Boxed.new w _ _).below b1 (by simp), ((Below.refl _ _).alloc (Nat.le_refl _) _).trans (b1.mono (by simp))⟩
  clear b1
  have x2 := X.out.1.at 2 _ rfl
  obtain ⟨MC, hMC⟩ := make_room (8 + data.size) (by omega)
  have O0 : Hid (OwnL 5 (w1.alloc (.cells MC 5)) w1.heap.size (.slice (some ⟨w1.heap.size, 0, none⟩) 0 (8 + data.size)) []) := (hMC w1).2
  have hmk : (Instr.makeSlice 22 (.int .i64 0) (.int .i64 (8 + (data.size : Int)))).run Try.prog w1 = .ok (.slice (some ⟨w1.heap.size, 0, none⟩) 0 (8 + data.size)) (w1.alloc (.cells MC 5)) := by
    have := (hMC w1).1
    simpa using this
  clear hMC
  have B0 : Hid (Below w1.heap.size w1 (w1.alloc (.cells MC 5))) := (Below.refl _ _).alloc (Nat.le_refl _) _
  have j0 := (X.out.1.below B0.out (by omega)).at 0 _ rfl
  go_wp2_with fail
  refine (addNum _ _ sp 2 _ w1.heap.size O0.out (by simp) (by omega) (by omega) (by omega) (by simp; omega) (by omega) (by simp)).mono ?_
  rintro e w1_ ⟨v1_, rfl, Y1⟩
  have B1 : Hid (Below w1.heap.size w1 w1_) := B0.out.trans Y1.out.below
  have z1_ := B1.out.size
  clear j0
  have j1_1 := (X.out.1.below B1.out (by omega)).at 1 _ rfl
  go_wp2_with fail
  refine (addNum v1_ _ dp 2 _ w1.heap.size Y1.out.own (by omega) (by omega) (by omega) (by omega) (by simp; omega) (by omega) (by simp [nbl_len])).mono ?_
  rintro e w2_ ⟨v2_, rfl, Y2⟩
  have B2 : Hid (Below w1.heap.size w1 w2_) := B1.out.trans Y2.out.below
  have z2_ := B2.out.size
  clear j1_1
  have j2_2 := (X.out.1.below B2.out (by omega)).at 2 _ rfl
  go_wp2_with fail
  refine (addNum v2_ _ (8 + (data.size : Int)) 2 _ w1.heap.size Y2.out.own (by omega) (by omega) (by omega) (by omega) (by simp; omega) (by omega) (by simp [nbl_len])).mono ?_
  rintro e w3_ ⟨v3_, rfl, Y3⟩
  have B3 : Hid (Below w1.heap.size w1 w3_) := B2.out.trans Y3.out.below
  have z3_ := B3.out.size
  clear j2_2
  have N3 : Hid (Boxed (w3_.alloc (.cells #[.int .u8 0, .int .u8 0] 5)) (w3_.heap.size) ([0, 0].map (Value.int .u8))) := by
    show Boxed _ _ _
    have := Boxed.new w3_ ([0, 0].map (Value.int .u8)) 5
    simpa using this
  go_wp2_with (at_builtin; refine wpl_app _ rfl _ _ rfl w1.heap.size _ _ rfl (World.ownsRow.alloc Y3.out.own _) ⟨w3_.heap.size, 0, none⟩ 2 2 [0, 0] rfl rfl (news_row N3.out) (by simp [nbl_len]) (by simp; try omega) ?_)
  intro v4_ w4_ Y4
  have B4 : Hid (Below w1.heap.size w1 w4_) := (B3.out.alloc (by omega) _).trans Y4.out.below
  have z4_ := B4.out.size
  have j4_2 := (X.out.1.below B4.out (by omega)).at 2 _ rfl
  go_wp2_with (at_builtin; refine wpl_str _ rfl _ _ rfl w1.heap.size _ _ rfl Y4.out.own data rfl (by simp [nbl_len]; omega) (by omega) ?_)
  intro v5_ w5_ Y5
  have B5 : Hid (Below w1.heap.size w1 w5_) := B4.out.trans Y5.out.below
  have z5_ := B5.out.size
  clear j4_2
  obtain ⟨L, hL⟩ : ∃ L, L = dgA sp dp data ++ [0, 0] ++ nums data := ⟨_, rfl⟩
  have HL : Hid (L = dgA sp dp data ++ [0, 0] ++ nums data) := hL
  have O8 : Hid (OwnL 5 w5_ w1.heap.size v5_ L) := by
    show OwnL _ _ _ _ _
    have := Y5.out.own
    rw [hL]
    simpa [dgA] using this
  have hlL : L.length = 8 + data.size := by rw [hL]; simp [LA, nums_len]; omega
  have HBD : Hid (∀ x ∈ L, 0 ≤ x ∧ x ≤ 255) := by
    show ∀ x ∈ L, _
    rw [hL]
    exact bdA (bdA (dgA_bd sp dp data) (two_bd (a := 0) (b := 0) (by omega) (by omega))) (nums_bd data)
  clear hL
  go_wp2_with fail
  refine (ends_own src dst 17 v5_ L w5_ _ O8.out HBD.out (by omega) (by omega) s0 s1 d0 d1 (by omega) (by omega)).mono ?_
  rintro e w9 ⟨rfl, b9⟩
  have z9 := b9.size
  have O9 : Hid (OwnL 5 w9 w1.heap.size v5_ L) := OwnL.below O8.out b9
  have B9 : Hid (Below w1.heap.size w1 w9) := B5.out.trans (b9.mono (by omega))
  clear b9
  have sm := endsL_bd src dst 17 L (by omega) HBD.out
  have sm0 := sm.1
  have sm1 := sm.2
  clear sm
  obtain ⟨sm, hsm⟩ : ∃ sm, sm = endsL src dst 17 L := ⟨_, rfl⟩
  rw [← hsm] at sm0 sm1
  rw [← hsm]
  have HSM : Hid (sm = endsL src dst 17 L) := hsm
  clear hsm
  have FIN : Hid (∀ w10 : World, ∀ k : Int, k = fix0 sm → Laid w9 w10 w1.heap.size v5_ (over L 6 (nbl k 2)) → OwnL 5 w10 w1.heap.size v5_ (dgL src dst sp dp data)) := by
    intro w10 k hk hY
    have := hY.own
    rw [hk, HSM.out, HL.out] at this
    have e := over_mid (dgA sp dp data) [0, 0] (nbl (fix0 (endsL src dst 17 (dgA sp dp data ++ [0, 0] ++ nums data))) 2) (nums data) (by simp [nbl_len])
    rw [LA] at e
    rw [e] at this
    exact this
  by_cases hz : sm = 0
  · have bz : (sm == 0) = true := by simp [hz]
    have FX : Hid (65535 = fix0 sm) := by show _ = _; simp [fix0, hz]
    go_wp2_with fail
    refine (setNum v5_ L 6 65535 2 w9 w1.heap.size O9.out (by omega) (by omega) (by omega) (by omega) (by omega) (by simp; try omega) (by omega) (by omega)).mono ?_
    rintro e w10 ⟨rfl, Y10⟩
    go_wp2
    go_ret2
    exact ⟨v5_, w1.heap.size, rfl, FIN.out w10 _ FX.out Y10.out, by omega, X.out.2.trans ((B9.out.trans Y10.out.below).mono (by omega))⟩
  · have bz : (sm == 0) = false := by simp [hz]
    have FX : Hid (sm = fix0 sm) := by show _ = _; simp [fix0, hz]
    go_wp2_with fail
    refine (setNum v5_ L 6 sm 2 w9 w1.heap.size O9.out (by omega) (by omega) (by omega) (by omega) (by omega) (by simp; try omega) (by omega) (by omega)).mono ?_
    rintro e w10 ⟨rfl, Y10⟩
    go_wp2
    go_ret2
    exact ⟨v5_, w1.heap.size, rfl, FIN.out w10 _ FX.out Y10.out, by omega, X.out.2.trans ((B9.out.trans Y10.out.below).mono (by omega))⟩

set_option maxHeartbeats 1000000 in
theorem segmentBytes_no (src dst : Int) (sp : Int) (dp : Int) (sq : Int) (ak : Int) (fl : Int) (wn : Int) (data : ByteArray) (w : World) (xsp : sp ≤ 9223372036854775807) (xdp : dp ≤ 9223372036854775807) (xsq : sq ≤ 9223372036854775807) (xak : ak ≤ 9223372036854775807) (xfl : fl ≤ 9223372036854775807) (xwn : wn ≤ 9223372036854775807) (xdata : data.size ≤ 1048576) (h : ¬ ((0 ≤ src ∧ src ≤ 4294967295) ∧ (0 ≤ dst ∧ dst ≤ 4294967295) ∧ (0 ≤ sp ∧ sp ≤ 65535) ∧ (0 ≤ dp ∧ dp ≤ 65535) ∧ (0 ≤ sq ∧ sq ≤ 4294967295) ∧ (0 ≤ ak ∧ ak ≤ 4294967295) ∧ (0 ≤ fl ∧ fl ≤ 31) ∧ (0 ≤ wn ∧ wn ≤ 65535) ∧ (data.size ≤ 360))) :
    Calls Try.prog 8 #[.int .i64 src, .int .i64 dst, .agg #[.int .i64 sp, .int .i64 dp, .int .i64 sq, .int .i64 ak, .int .i64 fl, .int .i64 wn, .string data]] w fun e w' => e = .returned (.tuple #[.slice none 0 0, .int .i64 1]) ∧ Below w.heap.size w w' := by
  have B0 : Hid (Below w.heap.size w (w.alloc (.cells #[.int .i64 sp, .int .i64 dp, .int .i64 sq, .int .i64 ak, .int .i64 fl, .int .i64 wn, .string data] 24))) := (Below.refl _ _).alloc (Nat.le_refl _) _
  go_enter Try.func8, Try.ntmps8
  go_wp2_with fail
  refine (addressOK_any _ _).mono ?_
  rintro e w1 ⟨rfl, hw1⟩
  obtain rfl := hw1.symm
  clear hw1
  by_cases h1 : 0 ≤ src ∧ src ≤ 4294967295
  · have b1 := dec_y h1
    have H1 : Hid (0 ≤ src ∧ src ≤ 4294967295) := h1
    have H : Hid _ := h
    clear h h1
    go_wp2_with fail
    refine (addressOK_any _ _).mono ?_
    rintro e w1 ⟨rfl, hw1⟩
    obtain rfl := hw1.symm
    clear hw1
    by_cases h2 : 0 ≤ dst ∧ dst ≤ 4294967295
    · have b2 := dec_y h2
      have b3 := dec_n (fun h3 : (0 ≤ sp ∧ sp ≤ 65535) ∧ (0 ≤ dp ∧ dp ≤ 65535) ∧ (0 ≤ sq ∧ sq ≤ 4294967295) ∧ (0 ≤ ak ∧ ak ≤ 4294967295) ∧ (0 ≤ fl ∧ fl ≤ 31) ∧ (0 ≤ wn ∧ wn ≤ 65535) ∧ (data.size ≤ 360) => H ⟨H1, h2, h3⟩)
      clear h2 H
      go_wp2_with fail
      refine (segmentOK_any sp dp sq ak fl wn data _ xsp xdp xsq xak xfl xwn xdata).mono ?_
      rintro e w1 ⟨rfl, b1, z1⟩
      have X : Hid (Below w.heap.size w w1) := ((Below.refl _ _).alloc (Nat.le_refl _) _).trans (b1.mono (by simp))
      clear b1 z1
      go_wp2
      go_ret2
      exact ⟨rfl, X.out⟩
    · have b2 := dec_n h2
      clear h2 H
      go_wp2
      go_ret2
      exact ⟨rfl, B0.out⟩
  · have b1 := dec_n h1
    clear h h1
    go_wp2
    go_ret2
    exact ⟨rfl, B0.out⟩

set_option maxHeartbeats 1000000 in
theorem datagramBytes_no (src dst : Int) (sp : Int) (dp : Int) (data : ByteArray) (w : World) (xsp : sp ≤ 9223372036854775807) (xdp : dp ≤ 9223372036854775807) (xdata : data.size ≤ 1048576) (h : ¬ ((0 ≤ src ∧ src ≤ 4294967295) ∧ (0 ≤ dst ∧ dst ≤ 4294967295) ∧ (0 ≤ sp ∧ sp ≤ 65535) ∧ (0 ≤ dp ∧ dp ≤ 65535) ∧ (data.size ≤ 372))) :
    Calls Try.prog 13 #[.int .i64 src, .int .i64 dst, .agg #[.int .i64 sp, .int .i64 dp, .string data]] w fun e w' => e = .returned (.tuple #[.slice none 0 0, .int .i64 1]) ∧ Below w.heap.size w w' := by
  have B0 : Hid (Below w.heap.size w (w.alloc (.cells #[.int .i64 sp, .int .i64 dp, .string data] 33))) := (Below.refl _ _).alloc (Nat.le_refl _) _
  go_enter Try.func13, Try.ntmps13
  go_wp2_with fail
  refine (addressOK_any _ _).mono ?_
  rintro e w1 ⟨rfl, hw1⟩
  obtain rfl := hw1.symm
  clear hw1
  by_cases h1 : 0 ≤ src ∧ src ≤ 4294967295
  · have b1 := dec_y h1
    have H1 : Hid (0 ≤ src ∧ src ≤ 4294967295) := h1
    have H : Hid _ := h
    clear h h1
    go_wp2_with fail
    refine (addressOK_any _ _).mono ?_
    rintro e w1 ⟨rfl, hw1⟩
    obtain rfl := hw1.symm
    clear hw1
    by_cases h2 : 0 ≤ dst ∧ dst ≤ 4294967295
    · have b2 := dec_y h2
      have b3 := dec_n (fun h3 : (0 ≤ sp ∧ sp ≤ 65535) ∧ (0 ≤ dp ∧ dp ≤ 65535) ∧ (data.size ≤ 372) => H ⟨H1, h2, h3⟩)
      clear h2 H
      go_wp2_with fail
      refine (datagramOK_any sp dp data _ xsp xdp xdata).mono ?_
      rintro e w1 ⟨rfl, b1, z1⟩
      have X : Hid (Below w.heap.size w w1) := ((Below.refl _ _).alloc (Nat.le_refl _) _).trans (b1.mono (by simp))
      clear b1 z1
      go_wp2
      go_ret2
      exact ⟨rfl, X.out⟩
    · have b2 := dec_n h2
      clear h2 H
      go_wp2
      go_ret2
      exact ⟨rfl, B0.out⟩
  · have b1 := dec_n h1
    clear h h1
    go_wp2
    go_ret2
    exact ⟨rfl, B0.out⟩
end Go.Proofs.Ytfcdobicilediaa
