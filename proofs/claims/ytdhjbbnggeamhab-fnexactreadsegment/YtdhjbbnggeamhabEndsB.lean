/- The program endsSum, SegmentBytes and DatagramBytes. -/
import Derived.Test.YtdhjbbnggeamhabPacketB
namespace Go.Proofs.Ytdhjbbnggeamhab
open Go.RowKit Go.PlainAid
set_option linter.unusedVariables false
set_option maxRecDepth 20000

/-- What a sum has ahead of a segment or a datagram. -/
def pseudoL (src dst pro n : Int) : List Int := nbl src 4 ++ nbl dst 4 ++ [0, pro] ++ nbl n 2
def endsL (src dst pro : Int) (L : List Int) : Int := chkL (pseudoL src dst pro (L.length : Int) ++ L)
theorem pseudoL_len (src dst pro n : Int) : (pseudoL src dst pro n).length = 12 := by simp [pseudoL, nbl_len]
theorem pseudoL_bd (src dst pro n : Int) (h : 0 ≤ pro ∧ pro ≤ 255) : ∀ x ∈ pseudoL src dst pro n, 0 ≤ x ∧ x ≤ 255 :=
  bdA (bdA (bdA (nbl_bd _ _) (nbl_bd _ _)) (two_bd (by omega) h)) (nbl_bd _ _)
theorem endsL_bd (src dst pro : Int) (L : List Int) (h : 0 ≤ pro ∧ pro ≤ 255) (hL : ∀ x ∈ L, 0 ≤ x ∧ x ≤ 255) : 0 ≤ endsL src dst pro L ∧ endsL src dst pro L ≤ 65535 :=
  chkL_bd _ (bdA (pseudoL_bd src dst pro _ h) hL)

theorem news_bytes {w w' : World} {b off len : Nat} {f : Nat → Int} (h : Bytes w (some ⟨b, off, none⟩) len f) (hb : Below w.heap.size w w') : ∀ j u, (((List.range len).map f).map (Value.int .u8))[j]? = some u → w'.cell? ((⟨b, off, none⟩ : Addr).add j) = some u := by
  intro j u hu
  have hj : j < len := by
    by_cases hj : j < len
    · exact hj
    · rw [List.getElem?_eq_none (by simp; omega)] at hu; cases hu
  obtain ⟨b', off', e, hc⟩ := h.2 (by omega)
  cases e
  have ea : (⟨b, off, none⟩ : Addr).add j = ⟨b, off + j, none⟩ := by unfold Addr.add; split <;> simp_all
  rw [ea]
  refine keep_cell ?_ hb
  rw [hc j hj]
  simpa [hj] using hu

set_option maxHeartbeats 4000000 in
theorem endsSum_any (src dst pro : Int) (a : Option Addr) (len cap : Nat) (f : Nat → Int) (w : World) (h : Bytes w a len f) (h0 : 0 < len) (hl : len ≤ 60000) (s0 : 0 ≤ src) (s1 : src ≤ 4294967295) (d0 : 0 ≤ dst) (d1 : dst ≤ 4294967295) (p0 : 0 ≤ pro) (p1 : pro ≤ 255) :
    Calls Try.prog 31 #[.int .i64 src, .int .i64 dst, .int .i64 pro, .slice a len cap] w fun e w' => e = .returned (.int .i64 (endsL src dst pro ((List.range len).map f))) ∧ Below w.heap.size w w' := by
  obtain ⟨b, off, rfl, -⟩ := h.2 h0
  have H : Hid (Bytes w (some ⟨b, off, none⟩) len f) := h
  clear h
  have LP := pseudoL_len src dst pro (len : Int)
  obtain ⟨MC, hMC⟩ := make_room (12 + len) (by omega)
  have O0 : Hid (OwnL 5 (w.alloc (.cells MC 5)) w.heap.size (.slice (some ⟨w.heap.size, 0, none⟩) 0 (12 + len)) []) := (hMC w).2
  have hmk : (Instr.makeSlice 22 (.int .i64 0) (.int .i64 (12 + (len : Int)))).run Try.prog w = .ok (.slice (some ⟨w.heap.size, 0, none⟩) 0 (12 + len)) (w.alloc (.cells MC 5)) := by
    have := (hMC w).1
    simpa using this
  clear hMC
  have B0 : Hid (Below w.heap.size w (w.alloc (.cells MC 5))) := (Below.refl _ _).alloc (Nat.le_refl _) _
  go_enter Try.func31, Try.ntmps31
  go_wp2_with fail
  refine (addNum _ _ src 4 _ w.heap.size O0.out (by simp) (by omega) (by omega) (by omega) (by simp; omega) (by omega) (by simp)).mono ?_
  rintro e w1_ ⟨v1_, rfl, Y1⟩
  have B1 : Hid (Below w.heap.size w w1_) := B0.out.trans Y1.out.below
  have z1_ := B1.out.size
  go_wp2_with fail
  refine (addNum v1_ _ dst 4 _ w.heap.size Y1.out.own (by omega) (by omega) (by omega) (by omega) (by simp; omega) (by omega) (by simp [nbl_len])).mono ?_
  rintro e w2_ ⟨v2_, rfl, Y2⟩
  have B2 : Hid (Below w.heap.size w w2_) := B1.out.trans Y2.out.below
  have z2_ := B2.out.size
  have N2 : Hid (Boxed (w2_.alloc (.cells #[.int .u8 0, .int .u8 pro] 5)) (w2_.heap.size) ([0, pro].map (Value.int .u8))) := by
    show Boxed _ _ _
    have := Boxed.new w2_ ([0, pro].map (Value.int .u8)) 5
    simpa using this
  go_wp2_with (at_builtin; refine wpl_app _ rfl _ _ rfl w.heap.size _ _ rfl (World.ownsRow.alloc Y2.out.own _) ⟨w2_.heap.size, 0, none⟩ 2 2 [0, pro] rfl rfl (news_row N2.out) (by simp [nbl_len]) (by simp; try omega) ?_)
  intro v3_ w3_ Y3
  have B3 : Hid (Below w.heap.size w w3_) := (B2.out.alloc (by omega) _).trans Y3.out.below
  have z3_ := B3.out.size
  go_wp2_with fail
  refine (addNum v3_ _ (len : Int) 2 _ w.heap.size Y3.out.own (by omega) (by omega) (by omega) (by omega) (by simp; omega) (by omega) (by simp [nbl_len])).mono ?_
  rintro e w4_ ⟨v4_, rfl, Y4⟩
  have B4 : Hid (Below w.heap.size w w4_) := B3.out.trans Y4.out.below
  have z4_ := B4.out.size
  have O4 : Hid (OwnL 5 w4_ w.heap.size v4_ (pseudoL src dst pro (len : Int))) := by
    show OwnL _ _ _ _ _
    have := Y4.out.own
    simpa [pseudoL] using this
  go_wp2_with (at_builtin; refine wpl_app _ rfl _ _ rfl w.heap.size _ _ rfl O4.out ⟨b, off, none⟩ len cap ((List.range len).map f) rfl (by simp) (news_bytes H.out B4.out) (by simp [LP]; omega) (by omega) ?_)
  intro v5_ w5_ Y5
  have hbd : Hid (∀ x ∈ pseudoL src dst pro (len : Int) ++ (List.range len).map f, 0 ≤ x ∧ x ≤ 255) := bdA (pseudoL_bd src dst pro _ ⟨p0, p1⟩) (by intro x hx; obtain ⟨j, -, rfl⟩ := List.mem_map.1 hx; exact H.out.1 j)
  obtain ⟨L, hL⟩ : ∃ L, L = pseudoL src dst pro (len : Int) ++ (List.range len).map f := ⟨_, rfl⟩
  have HL : Hid (L = pseudoL src dst pro (len : Int) ++ (List.range len).map f) := hL
  rw [← hL] at Y5 hbd
  have hlL : L.length ≤ 65536 := by rw [hL]; simp [LP]; omega
  clear hL
  go_wp2_with fail
  refine (check_own v5_ L w5_ _ Y5.out.own hbd.out hlL).mono ?_
  rintro e w6 ⟨rfl, hw6⟩
  obtain rfl := hw6.symm
  clear hw6
  have B5 : Hid (Below w.heap.size w w5_) := B4.out.trans Y5.out.below
  go_wp2
  go_ret
  refine ⟨?_, B5.out⟩
  show Ending.returned (.int .i64 (chkL L)) = _
  rw [HL.out]
  unfold endsL
  rw [show (((List.range len).map f).length : Int) = (len : Int) by simp]

def segA (sp dp sq ak fl wn : Int) : List Int := nbl sp 2 ++ nbl dp 2 ++ nbl sq 4 ++ nbl ak 4 ++ [80, fl] ++ nbl wn 2
def segB (data : ByteArray) : List Int := [0, 0] ++ nums data
def segSum (src dst sp dp sq ak fl wn : Int) (data : ByteArray) : Int := endsL src dst 6 (segA sp dp sq ak fl wn ++ [0, 0] ++ segB data)
def segL (src dst sp dp sq ak fl wn : Int) (data : ByteArray) : List Int := segA sp dp sq ak fl wn ++ nbl (segSum src dst sp dp sq ak fl wn data) 2 ++ segB data
theorem segA_len (sp dp sq ak fl wn : Int) : (segA sp dp sq ak fl wn).length = 16 := by simp [segA, nbl_len]
theorem segB_len (data : ByteArray) : (segB data).length = 2 + data.size := by simp [segB, nums_len]; omega
theorem segA_bd (sp dp sq ak fl wn : Int) (h : 0 ≤ fl ∧ fl ≤ 255) : ∀ x ∈ segA sp dp sq ak fl wn, 0 ≤ x ∧ x ≤ 255 :=
  bdA (bdA (bdA (bdA (bdA (nbl_bd _ _) (nbl_bd _ _)) (nbl_bd _ _)) (nbl_bd _ _)) (two_bd (by omega) h)) (nbl_bd _ _)
theorem segB_bd (data : ByteArray) : ∀ x ∈ segB data, 0 ≤ x ∧ x ≤ 255 := bdA (two_bd (by omega) (by omega)) (nums_bd data)

/-- endsSum of a row of the call's own. -/
theorem ends_own (src dst pro : Int) (v : Value) (L : List Int) (w : World) (B : Nat) (h : OwnL 5 w B v L) (hL : ∀ x ∈ L, 0 ≤ x ∧ x ≤ 255) (h0 : 0 < L.length) (hl : L.length ≤ 60000) (s0 : 0 ≤ src) (s1 : src ≤ 4294967295) (d0 : 0 ≤ dst) (d1 : dst ≤ 4294967295) (p0 : 0 ≤ pro) (p1 : pro ≤ 255) :
    Calls Try.prog 31 #[.int .i64 src, .int .i64 dst, .int .i64 pro, v] w fun e w' => e = .returned (.int .i64 (endsL src dst pro L)) ∧ Below w.heap.size w w' := by
  obtain ⟨a, cap, rfl, hb, _⟩ := h.slice hL
  have := endsSum_any src dst pro a L.length cap _ w hb h0 hl s0 s1 d0 d1 p0 p1
  rwa [range_getD] at this
theorem OwnL.below {w w' : World} {B : Nat} {v : Value} {L : List Int} (h : OwnL 5 w B v L) (b : Below w.heap.size w w') : OwnL 5 w' B v L := by
  rcases hv : v.ownBlock with _ | q
  · exact World.ownsRow.kept h (below_grownBy b none) (.inl hv)
  · exact World.ownsRow.kept h (below_grownBy b none) (.inr (by rw [hv]; simp))

def dgA (sp dp : Int) (data : ByteArray) : List Int := nbl sp 2 ++ nbl dp 2 ++ nbl (8 + (data.size : Int)) 2
/-- A sum of 0 is told as 65535. -/
def fix0 (n : Int) : Int := if n = 0 then 65535 else n
def dgSum (src dst sp dp : Int) (data : ByteArray) : Int := fix0 (endsL src dst 17 (dgA sp dp data ++ [0, 0] ++ nums data))
def dgL (src dst sp dp : Int) (data : ByteArray) : List Int := dgA sp dp data ++ nbl (dgSum src dst sp dp data) 2 ++ nums data
theorem dgA_len (sp dp : Int) (data : ByteArray) : (dgA sp dp data).length = 6 := by simp [dgA, nbl_len]
theorem dgA_bd (sp dp : Int) (data : ByteArray) : ∀ x ∈ dgA sp dp data, 0 ≤ x ∧ x ≤ 255 := bdA (bdA (nbl_bd _ _) (nbl_bd _ _)) (nbl_bd _ _)
theorem fix0_bd {n : Int} (h0 : 0 ≤ n) (h1 : n ≤ 65535) : 0 ≤ fix0 n ∧ fix0 n ≤ 65535 := by unfold fix0; split <;> omega

end Go.Proofs.Ytdhjbbnggeamhab
