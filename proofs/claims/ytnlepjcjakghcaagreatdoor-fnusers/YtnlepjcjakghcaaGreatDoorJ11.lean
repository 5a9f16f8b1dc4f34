/- The program's Hash. -/
import Derived.Test.YtnlepjcjakghcaaGreatDoorJ10
namespace Go.Proofs.YtnlepjcjakghcaaGreatDoor
open Go.RowKit Go.PlainAid
set_option linter.unusedVariables false
set_option maxRecDepth 20000

/-- The words of the beginning lie in their variable. -/
def HTab (w : World) : Prop := ∀ i, i < 8 → w.cell? ⟨0, i, none⟩ = some (.int .u32 (HB i))
theorem HTab.below {w w' : World} (h : HTab w) (b : Below w.heap.size w w') : HTab w' := fun i hi => by
  rw [b.cell (World.block_lt_of_cell? w _ (h i hi))]
  exact h i hi

theorem slice_from (b off len cap n : Nat) (h : 64 * n ≤ len) (hc : len ≤ cap) : ∃ a2 : Option Addr, (∀ w, (Instr.slice 22 (.slice (some ⟨b, off, none⟩) len cap) (some (.int .i64 (64 * (n : Int)))) none none).run Tryz.prog w = .ok (.slice a2 (len - 64 * n) (cap - 64 * n)) w) ∧
    (0 < len - 64 * n → a2 = some ⟨b, off + 64 * n, none⟩) ∧ ∃ o2, a2 = some ⟨b, o2, none⟩ := by
  have tn : (64 * (n : Int)).toNat = 64 * n := by omega
  obtain ⟨i0, hi, hz0, hz1, hz2⟩ := info_parts Tryz.infoB
  have ht : Tryz.prog.underlying 22 = some (.slice (Tryz.prog.elem 22)) := by kernel_rfl
  have he : Tryz.prog.elem 22 = 5 := by kernel_rfl
  by_cases hcap : cap = 64 * n
  · refine ⟨some ⟨b, off, none⟩, fun w => ?_, fun h0 => by omega, off, rfl⟩
    rw [run_slice_l w 22 _ len cap ht .i64 _ (by omega) (by omega)]
    simp [sliced, sizeOf, typeInfo, he, hi, hz1, tn, hcap]
  · refine ⟨some ⟨b, off + 64 * n, none⟩, fun w => ?_, fun _ => rfl, _, rfl⟩
    rw [run_slice_l w 22 _ len cap ht .i64 _ (by omega) (by omega)]
    simp [sliced, sizeOf, typeInfo, he, hi, hz1, tn, hcap]
    exact Addr.add_mid b off (64 * n)
/-- A state lies in block q. -/
def St8 (w W : World) (q : Nat) (s : Nat → Int) : Prop := Below w.heap.size w W ∧ (∀ i, i < 8 → W.cell? ⟨q, i, none⟩ = some (.int .u32 (s i))) ∧ w.heap.size ≤ q ∧ q < W.heap.size
theorem St8.drew {w W : World} {q : Nat} {s : Nat → Int} (h : St8 w W q s) : St8 w W.drew q s := ⟨h.1.drew, h.2⟩
theorem St8.below {w W W' : World} {q : Nat} {s : Nat → Int} (h : St8 w W q s) (b : Below W.heap.size W W') : St8 w W' q s :=
  ⟨h.1.trans (b.mono h.1.size), fun i hi => by rw [b.cell (p := ⟨q, i, none⟩) h.2.2.2]; exact h.2.1 i hi, h.2.2.1, Nat.lt_of_lt_of_le h.2.2.2 b.size⟩
theorem st8_new {w w1 : World} {s : Nat → Int} {t : TypeId} (B : Below w.heap.size w w1) : St8 w (w1.alloc (.cells (words s 8).toArray t)) w1.heap.size s := by
  have := B.size
  refine ⟨B.alloc (by omega) _, fun i hi => ?_, by omega, by simp⟩
  rw [World.cell?_alloc_new]
  have := words_at s 8 i hi
  simpa using this
theorem st8_set {w w1 : World} {s : Nat → Int} (B : Below w.heap.size w w1) (F : Free w1 w.heap.size 8) : St8 w (w1.setCells w.heap.size 0 (words s 8)) w.heap.size s := by
  have A : Arr w.heap.size w (w1.setCells w.heap.size 0 (words s 8)) w.heap.size 8 8 s := Arr.sets B F (Nat.le_refl _)
  exact ⟨A.bel, A.at_, Nat.le_refl _, A.lt⟩

/-- A row of one's own as a row of bytes. -/
def RowB (w : World) (g cp : Nat) (L : List Int) : Prop := Bytes w (some ⟨g, 0, none⟩) L.length (fun j => L.getD j 0) ∧ g < w.heap.size ∧ L.length ≤ cp ∧ cp ≤ 9223372036854775807
theorem rowB_of {w : World} {B : Nat} {v : Value} {L : List Int} (O : OwnL 5 w B v L) (hL : ∀ x ∈ L, 0 ≤ x ∧ x ≤ 255) (h0 : 0 < L.length) : ∃ g cp, v = .slice (some ⟨g, 0, none⟩) L.length cp ∧ RowB w g cp L := by
  obtain ⟨g, cp, hv, h1, h2, h3, h4, h5, h6⟩ := Laid.writ (w' := w) O hL h0
  refine ⟨g, cp, hv, ⟨fun k => getD_bd hL k, fun _ => ⟨g, 0, rfl, fun i hi => by rw [Nat.zero_add]; exact h6 i hi⟩⟩, h4, h1, by unfold maxLen at h2; omega⟩

set_option maxHeartbeats 2000000 in
theorem hash_some (b off len cap : Nat) (f : Nat → Int) (w : World) (hT : KTab w) (hH : HTab w) (h : Bytes w (some ⟨b, off, none⟩) len f) (hb : b < w.heap.size) (hlen : len ≤ 65536) (hc : len ≤ cap) (hx : cap ≤ 9223372036854775807) :
    Calls Tryz.prog 19 #[.slice (some ⟨b, off, none⟩) len cap] w fun e w' => e = .returned (.string (hashF f len)) ∧ Below w.heap.size w w' := by
  have H : Hid (Bytes w (some ⟨b, off, none⟩) len f) := h
  have HT : Hid (KTab w) := hT
  have HH : Hid (HTab w) := hH
  clear h hT hH
  obtain ⟨n, hn⟩ : ∃ n, n = len / 64 := ⟨_, rfl⟩
  have HN : Hid (n = len / 64) := hn
  have e1 : Int.tmod (len : Int) 64 = (len : Int) % 64 := Int.tmod_eq_emod_of_nonneg (by omega)
  have e2 : (len : Int) - (len : Int) % 64 = 64 * (n : Int) := by omega
  have n0 : (0 : Int) ≤ 64 * (n : Int) := by omega
  have n1 : 64 * (n : Int) ≤ (len : Int) := by omega
  have n2 : 64 * (n : Int) ≤ (cap : Int) := by omega
  have n3 : n ≤ 2000 := by omega
  clear hn
  obtain ⟨s1, hs1⟩ : ∃ s, s = stB f HB n := ⟨_, rfl⟩
  have HS1 : Hid (s1 = stB f HB n) := hs1
  have HM : Hid (∀ wx cp, 64 * n ≤ cp → cp ≤ 9223372036854775807 → Below w.heap.size w wx → Calls Tryz.prog 38 #[.agg #[.int .u32 (HB 0), .int .u32 (HB 1), .int .u32 (HB 2), .int .u32 (HB 3), .int .u32 (HB 4), .int .u32 (HB 5), .int .u32 (HB 6), .int .u32 (HB 7)], .slice (some ⟨b, off, none⟩) (64 * n) cp] wx fun e w' => e = .returned (.agg #[.int .u32 (s1 0), .int .u32 (s1 1), .int .u32 (s1 2), .int .u32 (s1 3), .int .u32 (s1 4), .int .u32 (s1 5), .int .u32 (s1 6), .int .u32 (s1 7)]) ∧ Below wx.heap.size wx w') := fun wx cp h1 h2 hbx => by
    rw [hs1]
    have hB' : Bytes wx (some ⟨b, off, none⟩) len f := H.out.below hbx (fun b' off' _ h2 => by cases h2; exact hb)
    have hB2 : Bytes wx (some ⟨b, off, none⟩) (64 * n) f := by
      have := hB'.part 0 (64 * n) (by omega) (some ⟨b, off, none⟩) (fun _ => by rw [Nat.add_zero])
      simpa only [Nat.zero_add] using this
    exact mixBlocks_any HB (some ⟨b, off, none⟩) n cp f wx n3 h1 h2 (HT.out.below hbx) hB2 (fun b' off' _ h2 => by cases h2; have := hbx.size; omega)
  clear hs1
  have c0 := HH.out 0 (by omega)
  have c1 := HH.out 1 (by omega)
  have c2 := HH.out 2 (by omega)
  have c3 := HH.out 3 (by omega)
  have c4 := HH.out 4 (by omega)
  have c5 := HH.out 5 (by omega)
  have c6 := HH.out 6 (by omega)
  have c7 := HH.out 7 (by omega)
  have g0 : 0 < w.heap.size := World.block_lt_of_cell? w _ c0
  have g1 : w.heap.size ≠ 0 := by omega
  have a0 : (w.alloc (.cells #[.int .u32 0, .int .u32 0, .int .u32 0, .int .u32 0, .int .u32 0, .int .u32 0, .int .u32 0, .int .u32 0] 77)).cell? ⟨0, 0, none⟩ = some (.int .u32 (HB 0)) := (World.cell?_alloc_lt _ _ _ g0).trans c0
  have a1 : (w.alloc (.cells #[.int .u32 0, .int .u32 0, .int .u32 0, .int .u32 0, .int .u32 0, .int .u32 0, .int .u32 0, .int .u32 0] 77)).cell? ⟨0, 1, none⟩ = some (.int .u32 (HB 1)) := (World.cell?_alloc_lt _ _ _ g0).trans c1
  have a2 : (w.alloc (.cells #[.int .u32 0, .int .u32 0, .int .u32 0, .int .u32 0, .int .u32 0, .int .u32 0, .int .u32 0, .int .u32 0] 77)).cell? ⟨0, 2, none⟩ = some (.int .u32 (HB 2)) := (World.cell?_alloc_lt _ _ _ g0).trans c2
  have a3 : (w.alloc (.cells #[.int .u32 0, .int .u32 0, .int .u32 0, .int .u32 0, .int .u32 0, .int .u32 0, .int .u32 0, .int .u32 0] 77)).cell? ⟨0, 3, none⟩ = some (.int .u32 (HB 3)) := (World.cell?_alloc_lt _ _ _ g0).trans c3
  have a4 : (w.alloc (.cells #[.int .u32 0, .int .u32 0, .int .u32 0, .int .u32 0, .int .u32 0, .int .u32 0, .int .u32 0, .int .u32 0] 77)).cell? ⟨0, 4, none⟩ = some (.int .u32 (HB 4)) := (World.cell?_alloc_lt _ _ _ g0).trans c4
  have a5 : (w.alloc (.cells #[.int .u32 0, .int .u32 0, .int .u32 0, .int .u32 0, .int .u32 0, .int .u32 0, .int .u32 0, .int .u32 0] 77)).cell? ⟨0, 5, none⟩ = some (.int .u32 (HB 5)) := (World.cell?_alloc_lt _ _ _ g0).trans c5
  have a6 : (w.alloc (.cells #[.int .u32 0, .int .u32 0, .int .u32 0, .int .u32 0, .int .u32 0, .int .u32 0, .int .u32 0, .int .u32 0] 77)).cell? ⟨0, 6, none⟩ = some (.int .u32 (HB 6)) := (World.cell?_alloc_lt _ _ _ g0).trans c6
  have a7 : (w.alloc (.cells #[.int .u32 0, .int .u32 0, .int .u32 0, .int .u32 0, .int .u32 0, .int .u32 0, .int .u32 0, .int .u32 0] 77)).cell? ⟨0, 7, none⟩ = some (.int .u32 (HB 7)) := (World.cell?_alloc_lt _ _ _ g0).trans c7
  have tn : (64 * (n : Int)).toNat = 64 * n := by omega
  obtain ⟨ar, hsl, ha2, o2, ho2⟩ := slice_from b off len cap n (by omega) hc
  have hsl' := hsl
  obtain ⟨m2, hm2⟩ : ∃ m, m = len - 64 * n := ⟨_, rfl⟩
  obtain ⟨c2', hc2'⟩ : ∃ c, c = cap - 64 * n := ⟨_, rfl⟩
  rw [← hm2] at ha2
  simp only [← hm2, ← hc2'] at hsl
  have HLB : Hid (∀ wx, Below w.heap.size w wx → Calls Tryz.prog 39 #[.slice ar m2 c2', .int .i64 len] wx fun e w' => ∃ v', e = .returned v' ∧ Hid (OwnL 5 w' wx.heap.size v' (lastL f len)) ∧ Below wx.heap.size wx w') := fun wx hbx => by
    have hB' : Bytes wx (some ⟨b, off, none⟩) len f := H.out.below hbx (fun b' off' _ h2 => by cases h2; exact hb)
    have hm : m2 = len % 64 := by have := HN.out; omega
    have hB2 := hB'.part (64 * n) m2 (by omega) ar ha2
    have := lastBlocks_any ar m2 c2' (fun j => f (64 * n + j)) len wx hB2 (by omega) hlen (fun h => by rw [ho2] at h; cases h) (fun b' o' _ hy => by rw [ho2] at hy; cases hy; have := hbx.size; omega)
    refine this.mono fun e w' ⟨v', h1, h2, h3⟩ => ⟨v', h1, ?_, h3⟩
    have e0 : (List.range m2).map (fun j => f (64 * n + j)) ++ tailL m2 len = lastL f len := by
      unfold lastL; rw [hm, HN.out]
    rw [← e0]; exact h2
  have HLB2 : Hid (∀ wx, Below w.heap.size w wx → Calls Tryz.prog 39 #[.slice ar m2 c2', .int .i64 len] wx fun e w' => ∃ g cp, e = .returned (.slice (some ⟨g, 0, none⟩) (64 * lastN len) cp) ∧ Hid (RowB w' g cp (lastL f len)) ∧ Hid (Below wx.heap.size wx w')) := fun wx hbx =>
    (HLB.out wx hbx).mono fun e w' ⟨v', h1, h2, h3⟩ => by
      obtain ⟨g, cp, hv, hr⟩ := rowB_of h2.out (lastL_bd f len H.out.1) (by rw [lastL_len]; omega)
      rw [lastL_blocks] at hv
      exact ⟨g, cp, by rw [h1, hv], hr, h3⟩
  obtain ⟨t, ht⟩ : ∃ t, t = hst f len := ⟨_, rfl⟩
  have HMX : Hid (∀ wx g cp, RowB wx g cp (lastL f len) → Below w.heap.size w wx → Calls Tryz.prog 38 #[.agg #[.int .u32 (s1 0), .int .u32 (s1 1), .int .u32 (s1 2), .int .u32 (s1 3), .int .u32 (s1 4), .int .u32 (s1 5), .int .u32 (s1 6), .int .u32 (s1 7)], .slice (some ⟨g, 0, none⟩) (64 * lastN len) cp] wx fun e w' => e = .returned (.agg #[.int .u32 (t 0), .int .u32 (t 1), .int .u32 (t 2), .int .u32 (t 3), .int .u32 (t 4), .int .u32 (t 5), .int .u32 (t 6), .int .u32 (t 7)]) ∧ Hid (Below wx.heap.size wx w')) := fun wx g cp hr hbx => by
    have e0 : t = stB (fun j => (lastL f len).getD j 0) s1 (lastN len) := by rw [ht, HS1.out, HN.out]; exact (hst_split f len).symm
    rw [e0]
    obtain ⟨r1, r2, r3, r4⟩ := hr
    rw [lastL_blocks] at r1 r3
    exact mixBlocks_any s1 (some ⟨g, 0, none⟩) (lastN len) cp _ wx (by have := lastN_le len; omega) r3 r4 (HT.out.below hbx) r1 (fun b' off' _ h2 => by cases h2; exact r2)
  have HTX : Hid (∀ wx, Calls Tryz.prog 40 #[.agg #[.int .u32 (t 0), .int .u32 (t 1), .int .u32 (t 2), .int .u32 (t 3), .int .u32 (t 4), .int .u32 (t 5), .int .u32 (t 6), .int .u32 (t 7)]] wx fun e w' => e = .returned (.string (hashF f len)) ∧ Hid (Below wx.heap.size wx w')) := fun wx => by
    rw [ht]
    exact text_any (hst f len) wx (hst_bd f len)
  clear ht HLB
  have HSL : Hid (m2 = len - 64 * n) := hm2
  clear hm2 hc2' hsl' ha2 ho2
  have B0 : Hid (Below w.heap.size w w.drew) := (Below.refl _ _).drew
  have BA : Hid (Below w.heap.size w (w.alloc (.cells #[.int .u32 0, .int .u32 0, .int .u32 0, .int .u32 0, .int .u32 0, .int .u32 0, .int .u32 0, .int .u32 0] 77)).drew) := ((Below.refl _ _).alloc (Nat.le_refl _) _).drew
  have FA : Hid (Free (w.alloc (.cells #[.int .u32 0, .int .u32 0, .int .u32 0, .int .u32 0, .int .u32 0, .int .u32 0, .int .u32 0, .int .u32 0] 77)).drew w.heap.size 8) := Free.new w _ _
  go_enter Tryz.func19, Tryz.ntmps19
  go_wp2
  go_region_with (first
    | (go_at_call 38; (with_reducible refine (HM.out w.drew cap (by omega) hx B0.out).mono ?_); rintro e w1 ⟨rfl, b1⟩; have B1 : Hid (Below w.heap.size w w1) := B0.out.trans b1; clear b1)
    | (go_at_call 38; (with_reducible refine (HM.out (w.alloc (.cells #[.int .u32 0, .int .u32 0, .int .u32 0, .int .u32 0, .int .u32 0, .int .u32 0, .int .u32 0, .int .u32 0] 77)).drew cap (by omega) hx BA.out).mono ?_); rintro e w1 ⟨rfl, b1⟩; have B1 : Hid (Below w.heap.size w w1) := BA.out.trans (b1.mono (by simp)); have Z : Hid (Free w1 w.heap.size 8) := FA.out.below b1 (by simp); clear b1; have Z0 : Hid (∀ i, i < 8 → ∃ v, w1.cell? ⟨w.heap.size, i, none⟩ = some v) := (fun i hi => Option.isSome_iff_exists.1 (Z.out.2 i hi).1); obtain ⟨v0, z0⟩ := Z0.out 0 (by omega); obtain ⟨v1, z1⟩ := Z0.out 1 (by omega); obtain ⟨v2, z2⟩ := Z0.out 2 (by omega); obtain ⟨v3, z3⟩ := Z0.out 3 (by omega); obtain ⟨v4, z4⟩ := Z0.out 4 (by omega); obtain ⟨v5, z5⟩ := Z0.out 5 (by omega); obtain ⟨v6, z6⟩ := Z0.out 6 (by omega); obtain ⟨v7, z7⟩ := Z0.out 7 (by omega);  have y0 := (Z.out.2 0 (by omega)).2; have y1 := (Z.out.2 1 (by omega)).2; have y2 := (Z.out.2 2 (by omega)).2; have y3 := (Z.out.2 3 (by omega)).2; have y4 := (Z.out.2 4 (by omega)).2; have y5 := (Z.out.2 5 (by omega)).2; have y6 := (Z.out.2 6 (by omega)).2; have y7 := (Z.out.2 7 (by omega)).2))
  all_goals first
    | (obtain ⟨W, hW⟩ : ∃ W, W = w1.alloc (.cells #[.int .u32 (s1 0), .int .u32 (s1 1), .int .u32 (s1 2), .int .u32 (s1 3), .int .u32 (s1 4), .int .u32 (s1 5), .int .u32 (s1 6), .int .u32 (s1 7)] 77) := ⟨_, rfl⟩
       rw [← hW]
       have Y : Hid (St8 w W w1.heap.size s1) := hW ▸ st8_new B1.out
       clear hW B1)
    | (obtain ⟨W, hW⟩ : ∃ W, W = ((((((((w1.setCell ⟨w.heap.size, 0, none⟩ (.int .u32 (s1 0))).setCell ⟨w.heap.size, 1, none⟩ (.int .u32 (s1 1))).setCell ⟨w.heap.size, 2, none⟩ (.int .u32 (s1 2))).setCell ⟨w.heap.size, 3, none⟩ (.int .u32 (s1 3))).setCell ⟨w.heap.size, 4, none⟩ (.int .u32 (s1 4))).setCell ⟨w.heap.size, 5, none⟩ (.int .u32 (s1 5))).setCell ⟨w.heap.size, 6, none⟩ (.int .u32 (s1 6))).setCell ⟨w.heap.size, 7, none⟩ (.int .u32 (s1 7))) := ⟨_, rfl⟩
       rw [← hW]
       have Y : Hid (St8 w W w.heap.size s1) := hW ▸ st8_set B1.out Z.out
       clear hW B1 Z0 Z z0 z1 z2 z3 z4 z5 z6 z7 y0 y1 y2 y3 y4 y5 y6 y7)
  all_goals
    clear c0 c1 c2 c3 c4 c5 c6 c7 a0 a1 a2 a3 a4 a5 a6 a7 B0 BA FA HM
    have c0 := Y.out.2.1 0 (by omega)
    have c1 := Y.out.2.1 1 (by omega)
    have c2 := Y.out.2.1 2 (by omega)
    have c3 := Y.out.2.1 3 (by omega)
    have c4 := Y.out.2.1 4 (by omega)
    have c5 := Y.out.2.1 5 (by omega)
    have c6 := Y.out.2.1 6 (by omega)
    have c7 := Y.out.2.1 7 (by omega)
    go_wp2
  all_goals
    have BW : Hid (Below w.heap.size w W.drew) := Y.out.1.drew
    have Y' : Hid (∀ w3, Below W.drew.heap.size W.drew w3 → St8 w w3 _ s1 ∧ Below w.heap.size w w3) := fun w3 b3 => ⟨Y.out.drew.below b3, (Y.out.drew.below b3).1⟩
    go_region_with (first
      | (go_at_call 39; (with_reducible refine (HLB2.out _ BW.out).mono ?_); rintro e w3 ⟨g, cp, rfl, R3, b3⟩; have Y3 : Hid (St8 w w3 _ s1) := (Y'.out w3 b3.out).1; have B3 : Hid (Below w.heap.size w w3) := (Y'.out w3 b3.out).2; clear Y Y' b3 c0 c1 c2 c3 c4 c5 c6 c7; have c0 := Y3.out.2.1 0 (by omega); have c1 := Y3.out.2.1 1 (by omega); have c2 := Y3.out.2.1 2 (by omega); have c3 := Y3.out.2.1 3 (by omega); have c4 := Y3.out.2.1 4 (by omega); have c5 := Y3.out.2.1 5 (by omega); have c6 := Y3.out.2.1 6 (by omega); have c7 := Y3.out.2.1 7 (by omega);  skip)
      | (go_at_call 38; (with_reducible refine (HMX.out _ _ _ R3.out B3.out).mono ?_); rintro e w4 ⟨rfl, b4⟩; have B4 : Hid (Below w.heap.size w w4) := B3.out.trans (b4.out.mono B3.out.size); clear b4 B3 R3)
      | (go_at_call 40; (with_reducible refine (HTX.out _).mono ?_); rintro e w5 ⟨rfl, b5⟩; have B5 : Hid (Below w.heap.size w w5) := B4.out.trans (b5.out.mono B4.out.size); clear b5 B4))
    all_goals
      go_wp2
      go_ret
      exact ⟨rfl, B5.out⟩
end Go.Proofs.YtnlepjcjakghcaaGreatDoor
