/- The program DhcpBytes. -/
import Derived.Test.YtcgdpijmfgkalabMacs
import Derived.Test.YtcgdpijmfgkalabApp
import Derived.Test.YtcgdpijmfgkalabTests
import Derived.Lib.BufferWrite
import Derived.Deep.RegionHeld3
namespace Go.Proofs.Ytcgdpijmfgkalab
open Go.RowKit Go.PlainAid
set_option linter.unusedVariables false
set_option maxRecDepth 20000

theorem leaseKindOK_any (n : Int) (w : World) : Calls Try.prog 43 #[.int .i64 n] w fun e w' => e = .returned (.bool (dec (1 ≤ n ∧ n ≤ 8))) ∧ w' = w := by
  by_cases h0 : 1 ≤ n
  · go_enter Try.func43, Try.ntmps43
    go_wp2
    go_ret
    exact ⟨congrArg (fun b => Ending.returned (.bool b)) (by simp [dec, h0]), rfl⟩
  · have b : decide (1 ≤ n) = false := by simp; omega
    go_enter Try.func43, Try.ntmps43
    go_wp2
    go_ret
    exact ⟨congrArg (fun b => Ending.returned (.bool b)) (by rw [dec_n]; omega), rfl⟩

/-- A part of a row of the call's own laid anew. -/
theorem own_over {w : World} {B g cap : Nat} {L : List Int} {cur : Array Value} (h : OwnL 5 w B (.slice (some ⟨g, 0, none⟩) L.length cap) L) (hg : w.heap[g]? = some (.cells cur 5 (0, 0))) (hcap : L.length ≤ cap) (hmax : cap ≤ maxLen) (hsz : cur.size = cap) (htk : cur.toList.take L.length = L.map (Value.int .u8)) (hB : B ≤ g)
    (at_ : Nat) (M : List Int) (hat : at_ + M.length ≤ L.length) :
    Laid w (w.setRow g (cur.toList.take at_ ++ M.map (Value.int .u8) ++ cur.toList.drop (at_ + M.length)).toArray) B (.slice (some ⟨g, 0, none⟩) L.length cap) (over L at_ M) := by
  refine ⟨⟨by simp [over_len L at_ M hat], .inr ⟨g, cap, _, ?_, hB, setRow_heap w g cur _ 5 _ hg, ?_, hmax, ?_, ?_⟩⟩, ⟨rfl, rfl, rfl, by simp [World.setRow], fun k hk => setRow_other w g k _ (by omega)⟩⟩
  · rw [over_len L at_ M hat]
  · rw [over_len L at_ M hat]; exact hcap
  · simp; omega
  · have e1 : cur.toList = L.map (Value.int .u8) ++ cur.toList.drop L.length := by rw [← htk, List.take_append_drop]
    rw [over_len L at_ M hat]
    show List.take (L.length * 1) (List.take at_ cur.toList ++ _ ++ List.drop (at_ + M.length) cur.toList) = _
    unfold over
    rw [List.map_append, List.map_append, List.map_take, List.map_drop, e1, Nat.mul_one]
    exact take_over _ _ _ at_ M.length L.length (by simp) (by simp) hat

/-- 'copy(b[at:], s)'. -/
theorem copy_str {w : World} {B g cap : Nat} {L : List Int} (h : OwnL 5 w B (.slice (some ⟨g, 0, none⟩) L.length cap) L) (at_ d c : Nat) (s : ByteArray) (hat : at_ + s.size ≤ L.length) (h0 : 0 < L.length) (hd : s.size ≤ d) :
    ∃ w', (Builtin.copy_ #[25, 9] 3 #[.slice (some ⟨g, at_, none⟩) d c, .string s]).run Try.prog w = .ok (goInt s.size) w' ∧ Laid w w' B (.slice (some ⟨g, 0, none⟩) L.length cap) (over L at_ (nums s)) := by
  obtain ⟨i0, hi, hz0, hz1, hz2⟩ := info_parts Try.infoB
  obtain ⟨g', cap', cur, e, hB, hg, hcap, hmax, hsz, htk⟩ := h.form h0
  cases e
  have hl : (nums s).length = s.size := nums_len s
  refine ⟨_, Lib.run_copy_row_string w 25 9 3 5 g at_ d c s cur 5 Try.underlying25 (by rw [hi]; simp [hz1]) hg hd (by omega), ?_⟩
  have := own_over h hg hcap hmax hsz htk hB at_ (nums s) (by omega)
  rw [hl] at this
  have e : (nums s).map (Value.int .u8) = Lib.byteCells s.data.toList := by simp [nums, Lib.byteCells, Function.comp_def]
  rw [e] at this
  exact this

/-- 'copy(b[at:], m)', m a row elsewhere. -/
theorem copy_row {w : World} {B g cap : Nat} {L : List Int} (h : OwnL 5 w B (.slice (some ⟨g, 0, none⟩) L.length cap) L) (at_ d c : Nat) (q m cm : Nat) (M : List Int) (hm : M.length = m) (hM : Boxed w q (M.map (Value.int .u8))) (hat : at_ + m ≤ L.length) (h0 : 0 < L.length) (hd : m ≤ d) :
    ∃ w', (Builtin.copy_ #[25, 25] 3 #[.slice (some ⟨g, at_, none⟩) d c, .slice (some ⟨q, 0, none⟩) m cm]).run Try.prog w = .ok (goInt m) w' ∧ Laid w w' B (.slice (some ⟨g, 0, none⟩) L.length cap) (over L at_ M) := by
  obtain ⟨i0, hi, hz0, hz1, hz2⟩ := info_parts Try.infoB
  obtain ⟨g', cap', cur, e, hB, hg, hcap, hmax, hsz, htk⟩ := h.form h0
  cases e
  have hr := run_copy_row (P := Try.prog) w 25 25 3 5 g at_ d c ⟨q, 0, none⟩ m cm cur 5 (M.map (Value.int .u8)) Try.underlying25 (by rw [hi]; simp [hz1]) hg (by simp [hm, Nat.min_eq_left hd]) (news_row hM) (by simp; omega) (by intro u hu; obtain ⟨j, -, rfl⟩ := List.mem_map.1 hu; rfl)
  have hl : (M.map (Value.int .u8)).length = m := by simp [hm]
  rw [hl] at hr
  refine ⟨_, hr, ?_⟩
  have := own_over h hg hcap hmax hsz htk hB at_ M (by omega)
  rw [hm] at this
  exact this

/-- 'make([]byte, n, c)'. -/
theorem make_zeros (n c : Nat) (hn : n ≤ c) (hc : c ≤ 1000000) : ∃ MC : Array Value, ∀ w : World,
    (Instr.makeSlice 25 (.int .i64 (n : Int)) (.int .i64 (c : Int))).run Try.prog w = .ok (.slice (some ⟨w.heap.size, 0, none⟩) n c) (w.alloc (.cells MC 5)) ∧
      OwnL 5 (w.alloc (.cells MC 5)) w.heap.size (.slice (some ⟨w.heap.size, 0, none⟩) n c) (List.replicate n 0) := by
  obtain ⟨i0, hi, hz0, hz1, hz2⟩ := info_parts Try.infoB
  refine ⟨madeCells (Value.int .u8 0).cells (c * i0.size), fun w => ⟨?_, ?_⟩⟩
  · exact run_make (P := Try.prog) w 25 5 i0 (.int .u8 0) Try.underlying25 hi hz0 .i64 .i64 n c (by omega) (by omega) (by rw [hz2]; omega) (by omega)
  · refine ⟨by simp, .inr ⟨w.heap.size, c, madeCells (Value.int .u8 0).cells (c * i0.size), by simp, Nat.le_refl _, by show (w.heap.push _)[w.heap.size]? = some _; simp, by simpa using hn, by unfold maxLen; omega, by rw [size_madeCells, hz1], ?_⟩⟩
    rw [hz1]
    apply List.ext_getElem?
    intro i
    simp [madeCells, List.getElem?_take, List.getElem?_replicate]
    by_cases hi' : i < n
    · simp [hi', show i < c by omega, Value.cells, Nat.mod_one]
    · simp [hi']

/-- A byte of a row of the call's own set. -/
theorem own_set {w : World} {B g cap : Nat} {L : List Int} (h : OwnL 5 w B (.slice (some ⟨g, 0, none⟩) L.length cap) L) (hB : B ≤ g) (i : Nat) (x : Int) : Laid w (w.setCell ⟨g, i, none⟩ (.int .u8 x)) B (.slice (some ⟨g, 0, none⟩) L.length cap) (L.set i x) := by
  refine ⟨?_, (Below.refl _ _).setCell hB _⟩
  have := (World.ownsRow.stored h i (.int .u8 x)).1
  unfold OwnL
  rw [List.length_set]
  simpa [List.map_set] using this

/-- A message of leases. -/
def dhcpL (xid yours kind : Int) (rep : Bool) (mac : ByteArray) : List Int := [if rep then 2 else 1, 1, 6, 0] ++ nbl xid 4 ++ List.replicate 8 0 ++ nbl yours 4 ++ List.replicate 8 0 ++ nums mac ++ List.replicate 202 0 ++ [99, 130, 83, 99] ++ [53, 1, kind, 255]

set_option maxHeartbeats 4000000 in
theorem dhcpBytes_yes (xid yours kind : Int) (rep : Bool) (mac : ByteArray) (w : World) (hm : mac.size = 6) (hx : 0 ≤ xid ∧ xid ≤ 4294967295) (hy : 0 ≤ yours ∧ yours ≤ 4294967295) (hk : 1 ≤ kind ∧ kind ≤ 8) :
    Calls Try.prog 12 #[.agg #[.int .i64 xid, .int .i64 yours, .int .i64 kind, .bool rep, .string mac]] w fun e w' => ∃ v B, e = .returned (.tuple #[v, .int .i64 0]) ∧ OwnL 5 w' B v (dhcpL xid yours kind rep mac) ∧ w.heap.size ≤ B ∧ Below w.heap.size w w' := by
  obtain ⟨h1, h2⟩ := hx
  obtain ⟨h3, h4⟩ := hy
  obtain ⟨h5, h6⟩ := hk
  have d1 := dec_y (show 0 ≤ xid ∧ xid ≤ 4294967295 from ⟨h1, h2⟩)
  have d2 := dec_y (show 0 ≤ yours ∧ yours ≤ 4294967295 from ⟨h3, h4⟩)
  have d3 := dec_y (show 1 ≤ kind ∧ kind ≤ 8 from ⟨h5, h6⟩)
  have hkw : IntKind.u8.wrap kind = kind := by rw [IntKind.wrap_u8]; omega
  obtain ⟨MC, hMC⟩ := make_zeros 236 244 (by omega) (by omega)
  have K0 : Hid (Boxed (w.alloc (.cells #[.int .i64 xid, .int .i64 yours, .int .i64 kind, .bool rep, .string mac] 28)) w.heap.size [.int .i64 xid, .int .i64 yours, .int .i64 kind, .bool rep, .string mac]) := Boxed.new w _ _
  go_enter Try.func12, Try.ntmps12
  go_wp2_with fail
  refine (macOf_yes mac _ hm).mono ?_
  rintro e w1 ⟨rfl, b1⟩
  have z1 := b1.size
  simp only [World.size_alloc] at z1
  obtain ⟨w2, hw2⟩ : ∃ w2, w2 = w1.alloc (.cells #[.int .u8 (bt mac 0), .int .u8 (bt mac 1), .int .u8 (bt mac 2), .int .u8 (bt mac 3), .int .u8 (bt mac 4), .int .u8 (bt mac 5)] 85) := ⟨_, rfl⟩
  have X : Hid (Boxed w2 w.heap.size [.int .i64 xid, .int .i64 yours, .int .i64 kind, .bool rep, .string mac] ∧ Below w.heap.size w w2 ∧ Boxed w2 w1.heap.size ([bt mac 0, bt mac 1, bt mac 2, bt mac 3, bt mac 4, bt mac 5].map (Value.int .u8)) ∧ w1.heap.size < w2.heap.size) := by
    show _ ∧ _
    rw [hw2]
    exact ⟨(K0.out.below b1 (by simp)).alloc (by omega) _, (((Below.refl _ _).alloc (Nat.le_refl _) _).trans (b1.mono (by simp))).alloc (by omega) _, Boxed.new w1 _ _, by simp⟩
  have x0 := X.out.1.at 0 _ rfl
  have x1 := X.out.1.at 1 _ rfl
  have x2 := X.out.1.at 2 _ rfl
  have x3 := X.out.1.at 3 _ rfl
  have z2 := X.out.2.2.2
  clear b1
  rw [hw2] at x0 x1 x2 x3
  go_wp2_with fail
  refine (hasRoom4 _ _ (by omega)).mono ?_
  rintro e wt ⟨rfl, hwt⟩
  obtain rfl := hwt.symm
  clear hwt
  go_wp2_with fail
  refine (addressOK_any _ _).mono ?_
  rintro e wt ⟨rfl, hwt⟩
  obtain rfl := hwt.symm
  clear hwt
  go_wp2_with fail
  refine (leaseKindOK_any _ _).mono ?_
  rintro e wt ⟨rfl, hwt⟩
  obtain rfl := hwt.symm
  clear hwt
  rw [← hw2]
  rw [← hw2] at x0 x1 x2 x3
  clear hw2
  obtain ⟨W3, hW3⟩ : ∃ W3, W3 = w2.alloc (.cells MC 5) := ⟨_, rfl⟩
  obtain ⟨hmk0, hO0⟩ := hMC w2
  rw [← hW3] at hmk0 hO0
  have hmk : (Instr.makeSlice 25 (.int .i64 236) (.int .i64 244)).run Try.prog w2 = .ok (.slice (some ⟨w2.heap.size, 0, none⟩) 236 244) W3 := hmk0
  have O0 : Hid (OwnL 5 W3 w2.heap.size (.slice (some ⟨w2.heap.size, 0, none⟩) (List.replicate 236 (0 : Int)).length 244) (List.replicate 236 0)) := hO0
  have B3 : Hid (Below w2.heap.size w2 W3) := by show Below _ _ _; rw [hW3]; exact (Below.refl _ _).alloc (Nat.le_refl _) _
  have z3 : w2.heap.size < W3.heap.size := by rw [hW3]; simp
  have f0 := World.ownsRow.frozenAt O0.out 0
  have c0 : W3.cell? ⟨w2.heap.size, 0, none⟩ = some (.int .u8 0) := by rw [World.ownsRow.cellAt O0.out 0 (by simp)]; rfl
  have e3 := (X.out.1.below B3.out (by omega)).at 3 _ rfl
  clear hMC hmk0 hO0 hW3 x0 x1 x2 x3
  have L1 : Hid (Laid W3 (W3.setCell ⟨w2.heap.size, 0, none⟩ (.int .u8 1)) w2.heap.size (.slice (some ⟨w2.heap.size, 0, none⟩) 236 244) ((List.replicate 236 (0 : Int)).set 0 1)) := own_set O0.out (Nat.le_refl _) 0 1
  have e3' := (X.out.1.below (B3.out.trans L1.out.below) (by omega)).at 3 _ rfl
  have c1 : (W3.setCell ⟨w2.heap.size, 0, none⟩ (.int .u8 1)).cell? ⟨w2.heap.size, 0, none⟩ = some (.int .u8 1) := World.cell?_setCell_same _ _ _ c0
  cases rep
  · obtain ⟨W4, hcp, L4⟩ := copy_str (L := ((List.replicate 236 (0 : Int)).set 0 1)) L1.out.own 1 235 243 ⟨#[1, 6]⟩ (by show 3 ≤ 236; omega) (by show 0 < 236; omega) (by show 2 ≤ 235; omega)
    have hcp' : (Builtin.copy_ #[25, 9] 3 #[.slice (some ⟨w2.heap.size, 1, none⟩) 235 243, .string ⟨#[1, 6]⟩]).run Try.prog (W3.setCell ⟨w2.heap.size, 0, none⟩ (.int .u8 1)) = .ok (.int .i64 2) W4 := hcp
    have Y4 : Hid (Laid (W3.setCell ⟨w2.heap.size, 0, none⟩ (.int .u8 1)) W4 w2.heap.size (.slice (some ⟨w2.heap.size, 0, none⟩) 236 244) (over ((List.replicate 236 (0 : Int)).set 0 1) 1 [1, 6])) := L4
    have B4 : Hid (Below w2.heap.size w2 W4) := (B3.out.trans L1.out.below).trans Y4.out.below
    have z4 := B4.out.size
    clear hcp L4
    have x0 := (X.out.1.below B4.out (by omega)).at 0 _ rfl
    go_wp2_with fail
    refine (setNum (.slice (some ⟨w2.heap.size, 0, none⟩) 236 244) _ 4 xid 4 W4 w2.heap.size Y4.out.own (by omega) (by show 8 ≤ 236; omega) (by omega) (by omega) h1 (by simp; omega) (by omega) (by show 236 ≤ 1000000; omega)).mono ?_
    rintro e W5 ⟨rfl, Y5⟩
    have B5 : Hid (Below w2.heap.size w2 W5) := B4.out.trans Y5.out.below
    have z5 := B5.out.size
    have x1 := (X.out.1.below B5.out (by omega)).at 1 _ rfl
    clear hcp' x0
    go_wp2_with fail
    refine (setNum (.slice (some ⟨w2.heap.size, 0, none⟩) 236 244) _ 16 yours 4 W5 w2.heap.size Y5.out.own (by omega) (by show 20 ≤ 236; omega) (by omega) (by omega) h3 (by simp; omega) (by omega) (by show 236 ≤ 1000000; omega)).mono ?_
    rintro e W6 ⟨rfl, Y6⟩
    have B6 : Hid (Below w2.heap.size w2 W6) := B5.out.trans Y6.out.below
    have z6 := B6.out.size
    clear x1
    obtain ⟨W7, hcq, L7⟩ := copy_row (L := over (over (over ((List.replicate 236 (0 : Int)).set 0 1) 1 [1, 6]) 4 (nbl xid 4)) 16 (nbl yours 4)) (w := W6.drew) (show OwnL 5 W6.drew _ _ _ from Y6.out.own) 28 208 216 w1.heap.size 6 6 [bt mac 0, bt mac 1, bt mac 2, bt mac 3, bt mac 4, bt mac 5] rfl (Boxed.drew (X.out.2.2.1.below B6.out (by omega))) (by show 34 ≤ 236; omega) (by show 0 < 236; omega) (by omega)
    have hcq' : (Builtin.copy_ #[25, 25] 3 #[.slice (some ⟨w2.heap.size, 28, none⟩) 208 216, .slice (some ⟨w1.heap.size, 0, none⟩) 6 6]).run Try.prog W6.drew = .ok (.int .i64 6) W7 := hcq
    have Y7 : Hid (Laid W6.drew W7 w2.heap.size (.slice (some ⟨w2.heap.size, 0, none⟩) 236 244) (over (over (over (over ((List.replicate 236 (0 : Int)).set 0 1) 1 [1, 6]) 4 (nbl xid 4)) 16 (nbl yours 4)) 28 [bt mac 0, bt mac 1, bt mac 2, bt mac 3, bt mac 4, bt mac 5])) := L7
    have B7 : Hid (Below w2.heap.size w2 W7) := B6.out.drew.trans Y7.out.below
    have z7 := B7.out.size
    clear hcq L7
    go_wp2
    go_region_held3 (fun _ => True) (trivial) (fail)
    go_wp2_with (at_builtin; refine wpl_str _ rfl _ _ rfl w2.heap.size _ _ rfl Y7.out.own ⟨#[99, 130, 83, 99]⟩ rfl (by show 236 + 4 ≤ 1000000; omega) (by omega) ?_)
    intro v8 W8 Y8
    have B8 : Hid (Below w2.heap.size w2 W8) := B7.out.trans Y8.out.below
    have z8 := B8.out.size
    clear hcq'
    have x2 := (X.out.1.below B8.out (by omega)).at 2 _ rfl
    have N8 : Hid (Boxed (W8.alloc (.cells #[.int .u8 53, .int .u8 1, .int .u8 kind, .int .u8 255] 5)) W8.heap.size ([53, 1, kind, 255].map (Value.int .u8))) := Boxed.new W8 _ _
    go_wp2_with (at_builtin; refine wpl_app _ rfl _ _ rfl w2.heap.size _ _ rfl (World.ownsRow.alloc Y8.out.own _) ⟨W8.heap.size, 0, none⟩ 4 4 [53, 1, kind, 255] rfl rfl (news_row N8.out) (by show 240 + 4 ≤ 1000000; omega) (by simp; omega) ?_)
    intro v9 W9 Y9
    go_wp2
    go_ret2
    refine ⟨v9, w2.heap.size, rfl, ?_, by omega, X.out.2.1.trans (((B8.out.alloc (by omega) _).trans Y9.out.below).mono (by omega))⟩
    have := Y9.out.own
    rw [dhcpL, nums6 mac hm]
    exact this
  · have f1 : (W3.setCell ⟨w2.heap.size, 0, none⟩ (.int .u8 1)).frozen? ⟨w2.heap.size, 0, none⟩ = false := World.ownsRow.frozenAt (n := 236) (xs := _) L1.out.own 0
    have L2 : Hid (Laid (W3.setCell ⟨w2.heap.size, 0, none⟩ (.int .u8 1)) ((W3.setCell ⟨w2.heap.size, 0, none⟩ (.int .u8 1)).setCell ⟨w2.heap.size, 0, none⟩ (.int .u8 2)) w2.heap.size (.slice (some ⟨w2.heap.size, 0, none⟩) 236 244) (((List.replicate 236 (0 : Int)).set 0 1).set 0 2)) := own_set (L := ((List.replicate 236 (0 : Int)).set 0 1)) L1.out.own (Nat.le_refl _) 0 2
    obtain ⟨W4, hcp, L4⟩ := copy_str (L := (((List.replicate 236 (0 : Int)).set 0 1).set 0 2)) L2.out.own 1 235 243 ⟨#[1, 6]⟩ (by show 3 ≤ 236; omega) (by show 0 < 236; omega) (by show 2 ≤ 235; omega)
    have hcp' : (Builtin.copy_ #[25, 9] 3 #[.slice (some ⟨w2.heap.size, 1, none⟩) 235 243, .string ⟨#[1, 6]⟩]).run Try.prog ((W3.setCell ⟨w2.heap.size, 0, none⟩ (.int .u8 1)).setCell ⟨w2.heap.size, 0, none⟩ (.int .u8 2)) = .ok (.int .i64 2) W4 := hcp
    have Y4 : Hid (Laid ((W3.setCell ⟨w2.heap.size, 0, none⟩ (.int .u8 1)).setCell ⟨w2.heap.size, 0, none⟩ (.int .u8 2)) W4 w2.heap.size (.slice (some ⟨w2.heap.size, 0, none⟩) 236 244) (over (((List.replicate 236 (0 : Int)).set 0 1).set 0 2) 1 [1, 6])) := L4
    have B4 : Hid (Below w2.heap.size w2 W4) := ((B3.out.trans L1.out.below).trans L2.out.below).trans Y4.out.below
    have z4 := B4.out.size
    clear hcp L4
    have x0 := (X.out.1.below B4.out (by omega)).at 0 _ rfl
    go_wp2_with fail
    refine (setNum (.slice (some ⟨w2.heap.size, 0, none⟩) 236 244) _ 4 xid 4 W4 w2.heap.size Y4.out.own (by omega) (by show 8 ≤ 236; omega) (by omega) (by omega) h1 (by simp; omega) (by omega) (by show 236 ≤ 1000000; omega)).mono ?_
    rintro e W5 ⟨rfl, Y5⟩
    have B5 : Hid (Below w2.heap.size w2 W5) := B4.out.trans Y5.out.below
    have z5 := B5.out.size
    have x1 := (X.out.1.below B5.out (by omega)).at 1 _ rfl
    clear hcp' x0
    go_wp2_with fail
    refine (setNum (.slice (some ⟨w2.heap.size, 0, none⟩) 236 244) _ 16 yours 4 W5 w2.heap.size Y5.out.own (by omega) (by show 20 ≤ 236; omega) (by omega) (by omega) h3 (by simp; omega) (by omega) (by show 236 ≤ 1000000; omega)).mono ?_
    rintro e W6 ⟨rfl, Y6⟩
    have B6 : Hid (Below w2.heap.size w2 W6) := B5.out.trans Y6.out.below
    have z6 := B6.out.size
    clear x1
    obtain ⟨W7, hcq, L7⟩ := copy_row (L := over (over (over (((List.replicate 236 (0 : Int)).set 0 1).set 0 2) 1 [1, 6]) 4 (nbl xid 4)) 16 (nbl yours 4)) (w := W6.drew) (show OwnL 5 W6.drew _ _ _ from Y6.out.own) 28 208 216 w1.heap.size 6 6 [bt mac 0, bt mac 1, bt mac 2, bt mac 3, bt mac 4, bt mac 5] rfl (Boxed.drew (X.out.2.2.1.below B6.out (by omega))) (by show 34 ≤ 236; omega) (by show 0 < 236; omega) (by omega)
    have hcq' : (Builtin.copy_ #[25, 25] 3 #[.slice (some ⟨w2.heap.size, 28, none⟩) 208 216, .slice (some ⟨w1.heap.size, 0, none⟩) 6 6]).run Try.prog W6.drew = .ok (.int .i64 6) W7 := hcq
    have Y7 : Hid (Laid W6.drew W7 w2.heap.size (.slice (some ⟨w2.heap.size, 0, none⟩) 236 244) (over (over (over (over (((List.replicate 236 (0 : Int)).set 0 1).set 0 2) 1 [1, 6]) 4 (nbl xid 4)) 16 (nbl yours 4)) 28 [bt mac 0, bt mac 1, bt mac 2, bt mac 3, bt mac 4, bt mac 5])) := L7
    have B7 : Hid (Below w2.heap.size w2 W7) := B6.out.drew.trans Y7.out.below
    have z7 := B7.out.size
    clear hcq L7
    go_wp2
    go_region_held3 (fun _ => True) (trivial) (fail)
    go_wp2_with (at_builtin; refine wpl_str _ rfl _ _ rfl w2.heap.size _ _ rfl Y7.out.own ⟨#[99, 130, 83, 99]⟩ rfl (by show 236 + 4 ≤ 1000000; omega) (by omega) ?_)
    intro v8 W8 Y8
    have B8 : Hid (Below w2.heap.size w2 W8) := B7.out.trans Y8.out.below
    have z8 := B8.out.size
    clear hcq'
    have x2 := (X.out.1.below B8.out (by omega)).at 2 _ rfl
    have N8 : Hid (Boxed (W8.alloc (.cells #[.int .u8 53, .int .u8 1, .int .u8 kind, .int .u8 255] 5)) W8.heap.size ([53, 1, kind, 255].map (Value.int .u8))) := Boxed.new W8 _ _
    go_wp2_with (at_builtin; refine wpl_app _ rfl _ _ rfl w2.heap.size _ _ rfl (World.ownsRow.alloc Y8.out.own _) ⟨W8.heap.size, 0, none⟩ 4 4 [53, 1, kind, 255] rfl rfl (news_row N8.out) (by show 240 + 4 ≤ 1000000; omega) (by simp; omega) ?_)
    intro v9 W9 Y9
    go_wp2
    go_ret2
    refine ⟨v9, w2.heap.size, rfl, ?_, by omega, X.out.2.1.trans (((B8.out.alloc (by omega) _).trans Y9.out.below).mono (by omega))⟩
    have := Y9.out.own
    rw [dhcpL, nums6 mac hm]
    exact this

set_option maxHeartbeats 2000000 in
theorem dhcpBytes_no (xid yours kind : Int) (rep : Bool) (mac : ByteArray) (w : World) (xx : xid ≤ 9223372036854775807) (xm : mac.size ≤ 1048576) (h : ¬ (mac.size = 6 ∧ (0 ≤ xid ∧ xid ≤ 4294967295) ∧ (0 ≤ yours ∧ yours ≤ 4294967295) ∧ (1 ≤ kind ∧ kind ≤ 8))) :
    Calls Try.prog 12 #[.agg #[.int .i64 xid, .int .i64 yours, .int .i64 kind, .bool rep, .string mac]] w fun e w' => e = .returned (.tuple #[.slice none 0 0, .int .i64 1]) ∧ Below w.heap.size w w' := by
  have K0 : Hid (Boxed (w.alloc (.cells #[.int .i64 xid, .int .i64 yours, .int .i64 kind, .bool rep, .string mac] 28)) w.heap.size [.int .i64 xid, .int .i64 yours, .int .i64 kind, .bool rep, .string mac]) := Boxed.new w _ _
  by_cases hm : mac.size = 6
  · have bm : decide (mac.size = 6) = true := decide_eq_true hm
    by_cases h1 : 0 ≤ xid ∧ xid ≤ 4294967295
    · have d1 := dec_y h1
      by_cases h2 : 0 ≤ yours ∧ yours ≤ 4294967295
      · have d2 := dec_y h2
        have d3 := dec_n (fun h3 : 1 ≤ kind ∧ kind ≤ 8 => h ⟨hm, h1, h2, h3⟩)
        clear h h1 h2
        go_enter Try.func12, Try.ntmps12
        go_wp2_with fail
        refine (macOf_any mac _ (by omega)).mono ?_
        rintro e w1 ⟨⟨m0, m1, m2, m3, m4, m5, rfl⟩, b1⟩
        have z1 := b1.size
        simp only [World.size_alloc] at z1
        have X : Hid (Boxed (w1.alloc (.cells #[.int .u8 m0, .int .u8 m1, .int .u8 m2, .int .u8 m3, .int .u8 m4, .int .u8 m5] 85)) w.heap.size [.int .i64 xid, .int .i64 yours, .int .i64 kind, .bool rep, .string mac] ∧ Below w.heap.size w (w1.alloc (.cells #[.int .u8 m0, .int .u8 m1, .int .u8 m2, .int .u8 m3, .int .u8 m4, .int .u8 m5] 85))) :=
          ⟨(K0.out.below b1 (by simp)).alloc (by omega) _, (((Below.refl _ _).alloc (Nat.le_refl _) _).trans (b1.mono (by simp))).alloc (by omega) _⟩
        have x0 := X.out.1.at 0 _ rfl
        have x1 := X.out.1.at 1 _ rfl
        have x2 := X.out.1.at 2 _ rfl
        clear b1
        go_wp2_with fail
        refine (hasRoom4 _ _ (by omega)).mono ?_
        rintro e wt ⟨rfl, hwt⟩
        obtain rfl := hwt.symm
        clear hwt
        go_wp2_with fail
        refine (addressOK_any _ _).mono ?_
        rintro e wt ⟨rfl, hwt⟩
        obtain rfl := hwt.symm
        clear hwt
        go_wp2_with fail
        refine (leaseKindOK_any _ _).mono ?_
        rintro e wt ⟨rfl, hwt⟩
        obtain rfl := hwt.symm
        clear hwt
        go_wp2
        go_ret2
        exact ⟨rfl, X.out.2⟩
      · have d2 := dec_n h2
        clear h h1 h2
        go_enter Try.func12, Try.ntmps12
        go_wp2_with fail
        refine (macOf_any mac _ (by omega)).mono ?_
        rintro e w1 ⟨⟨m0, m1, m2, m3, m4, m5, rfl⟩, b1⟩
        have z1 := b1.size
        simp only [World.size_alloc] at z1
        have X : Hid (Boxed (w1.alloc (.cells #[.int .u8 m0, .int .u8 m1, .int .u8 m2, .int .u8 m3, .int .u8 m4, .int .u8 m5] 85)) w.heap.size [.int .i64 xid, .int .i64 yours, .int .i64 kind, .bool rep, .string mac] ∧ Below w.heap.size w (w1.alloc (.cells #[.int .u8 m0, .int .u8 m1, .int .u8 m2, .int .u8 m3, .int .u8 m4, .int .u8 m5] 85))) :=
          ⟨(K0.out.below b1 (by simp)).alloc (by omega) _, (((Below.refl _ _).alloc (Nat.le_refl _) _).trans (b1.mono (by simp))).alloc (by omega) _⟩
        have x0 := X.out.1.at 0 _ rfl
        have x1 := X.out.1.at 1 _ rfl
        have x2 := X.out.1.at 2 _ rfl
        clear b1
        go_wp2_with fail
        refine (hasRoom4 _ _ (by omega)).mono ?_
        rintro e wt ⟨rfl, hwt⟩
        obtain rfl := hwt.symm
        clear hwt
        go_wp2_with fail
        refine (addressOK_any _ _).mono ?_
        rintro e wt ⟨rfl, hwt⟩
        obtain rfl := hwt.symm
        clear hwt
        go_wp2
        go_ret2
        exact ⟨rfl, X.out.2⟩
    · have d1 := dec_n h1
      clear h h1
      go_enter Try.func12, Try.ntmps12
      go_wp2_with fail
      refine (macOf_any mac _ (by omega)).mono ?_
      rintro e w1 ⟨⟨m0, m1, m2, m3, m4, m5, rfl⟩, b1⟩
      have z1 := b1.size
      simp only [World.size_alloc] at z1
      have X : Hid (Boxed (w1.alloc (.cells #[.int .u8 m0, .int .u8 m1, .int .u8 m2, .int .u8 m3, .int .u8 m4, .int .u8 m5] 85)) w.heap.size [.int .i64 xid, .int .i64 yours, .int .i64 kind, .bool rep, .string mac] ∧ Below w.heap.size w (w1.alloc (.cells #[.int .u8 m0, .int .u8 m1, .int .u8 m2, .int .u8 m3, .int .u8 m4, .int .u8 m5] 85))) :=
        ⟨(K0.out.below b1 (by simp)).alloc (by omega) _, (((Below.refl _ _).alloc (Nat.le_refl _) _).trans (b1.mono (by simp))).alloc (by omega) _⟩
      have x0 := X.out.1.at 0 _ rfl
      have x1 := X.out.1.at 1 _ rfl
      have x2 := X.out.1.at 2 _ rfl
      clear b1
      go_wp2_with fail
      refine (hasRoom4 _ _ (by omega)).mono ?_
      rintro e wt ⟨rfl, hwt⟩
      obtain rfl := hwt.symm
      clear hwt
      go_wp2
      go_ret2
      exact ⟨rfl, X.out.2⟩
  · have bm : decide (mac.size = 6) = false := decide_eq_false hm
    clear h
    go_enter Try.func12, Try.ntmps12
    go_wp2_with fail
    refine (macOf_any mac _ (by omega)).mono ?_
    rintro e w1 ⟨⟨m0, m1, m2, m3, m4, m5, rfl⟩, b1⟩
    have z1 := b1.size
    simp only [World.size_alloc] at z1
    have X : Hid (Boxed (w1.alloc (.cells #[.int .u8 m0, .int .u8 m1, .int .u8 m2, .int .u8 m3, .int .u8 m4, .int .u8 m5] 85)) w.heap.size [.int .i64 xid, .int .i64 yours, .int .i64 kind, .bool rep, .string mac] ∧ Below w.heap.size w (w1.alloc (.cells #[.int .u8 m0, .int .u8 m1, .int .u8 m2, .int .u8 m3, .int .u8 m4, .int .u8 m5] 85))) :=
      ⟨(K0.out.below b1 (by simp)).alloc (by omega) _, (((Below.refl _ _).alloc (Nat.le_refl _) _).trans (b1.mono (by simp))).alloc (by omega) _⟩
    have x0 := X.out.1.at 0 _ rfl
    have x1 := X.out.1.at 1 _ rfl
    have x2 := X.out.1.at 2 _ rfl
    clear b1
    go_wp2
    go_ret2
    exact ⟨rfl, X.out.2⟩
end Go.Proofs.Ytcgdpijmfgkalab
