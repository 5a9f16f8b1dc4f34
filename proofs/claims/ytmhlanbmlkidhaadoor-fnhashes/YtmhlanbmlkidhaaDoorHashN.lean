/- The program's Hash of any row of bytes, nil too. -/
import Derived.Test.YtmhlanbmlkidhaaDoorHashI
namespace Go.Proofs.YtmhlanbmlkidhaaDoor
open Go.RowKit Go.PlainAid
set_option linter.unusedVariables false
set_option maxRecDepth 20000

theorem slice_lo (A : Option Addr) (len cap n : Nat) (hA : A = none → len = 0 ∧ cap = 0) (hp : ∀ y, A = some y → 0 < cap → ∃ b off, y = ⟨b, off, none⟩) (h : 64 * n ≤ len) (hc : len ≤ cap) : ∀ w, (Instr.slice 22 (.slice A len cap) none (some (.int .i64 (64 * (n : Int)))) none).run Tryd.prog w = .ok (.slice A (64 * n) cap) w := by
  intro w
  have tn : (64 * (n : Int)).toNat = 64 * n := by omega
  obtain ⟨i0, hi, hz0, hz1, hz2⟩ := info_parts Tryd.infoB
  have ht : Tryd.prog.underlying 22 = some (.slice (Tryd.prog.elem 22)) := by kernel_rfl
  have he : Tryd.prog.elem 22 = 5 := by kernel_rfl
  rw [run_slice_h w 22 _ len cap ht .i64 _ (by omega) (by omega)]
  cases A with
  | none => simp [sliced, sizeOf, typeInfo, he, hi, hz1, tn]
  | some y =>
    by_cases h0 : cap = 0
    · simp [sliced, sizeOf, typeInfo, he, hi, hz1, tn, h0]
    · obtain ⟨b, off, rfl⟩ := hp y rfl (by omega)
      have : (⟨b, off, none⟩ : Addr).add 0 = ⟨b, off, none⟩ := Addr.add_mid b off 0
      simp [sliced, sizeOf, typeInfo, he, hi, hz1, tn, this]
theorem slice_hi (A : Option Addr) (len cap n : Nat) (hA : A = none → len = 0 ∧ cap = 0) (hp : ∀ y, A = some y → 0 < cap → ∃ b off, y = ⟨b, off, none⟩) (h : 64 * n ≤ len) (hc : len ≤ cap) : ∃ a2 : Option Addr, (∀ w, (Instr.slice 22 (.slice A len cap) (some (.int .i64 (64 * (n : Int)))) none none).run Tryd.prog w = .ok (.slice a2 (len - 64 * n) (cap - 64 * n)) w) ∧
    (0 < len - 64 * n → ∃ b off, A = some ⟨b, off, none⟩ ∧ a2 = some ⟨b, off + 64 * n, none⟩) ∧ (a2 = none → A = none) ∧ (A = none → a2 = none) ∧ (∀ b off, A = some ⟨b, off, none⟩ → ∃ o2, a2 = some ⟨b, o2, none⟩) := by
  cases A with
  | none =>
    obtain ⟨rfl, rfl⟩ := hA rfl
    obtain rfl : n = 0 := by omega
    refine ⟨none, fun w => ?_, fun h0 => by omega, fun _ => rfl, fun _ => rfl, fun b off e => by cases e⟩
    kernel_rfl
  | some y =>
    by_cases h0 : cap = 0
    · obtain rfl : n = 0 := by omega
      obtain rfl : len = 0 := by omega
      subst h0
      refine ⟨some y, fun w => ?_, fun h0 => by omega, fun e => (by cases e), fun e => (by cases e), fun b off e => ⟨off, e⟩⟩
      obtain ⟨i0, hi, hz0, hz1, hz2⟩ := info_parts Tryd.infoB
      have ht : Tryd.prog.underlying 22 = some (.slice (Tryd.prog.elem 22)) := by kernel_rfl
      have he : Tryd.prog.elem 22 = 5 := by kernel_rfl
      rw [run_slice_l w 22 _ 0 0 ht .i64 _ (by omega) (by omega)]
      simp [sliced, sizeOf, typeInfo, he, hi, hz1]
    · obtain ⟨b, off, rfl⟩ := hp y rfl (by omega)
      obtain ⟨a2, h1, h2, o2, h3⟩ := slice_from b off len cap n h hc
      exact ⟨a2, h1, fun h0 => ⟨b, off, rfl, h2 h0⟩, fun e => (by rw [h3] at e; cases e), fun e => (by cases e), fun b' off' e => (by cases e; exact ⟨o2, h3⟩)⟩

set_option maxHeartbeats 2000000 in
theorem hash_gen (A : Option Addr) (len cap : Nat) (f : Nat → Int) (w : World) (hT : KTab w) (hH : HTab w) (h : Bytes w A len f) (hA : A = none → len = 0 ∧ cap = 0) (hp : ∀ y, A = some y → 0 < cap → ∃ b off, y = ⟨b, off, none⟩) (hb : ∀ b off, 0 < len → A = some ⟨b, off, none⟩ → b < w.heap.size) (hlen : len ≤ 65536) (hc : len ≤ cap) (hx : cap ≤ 9223372036854775807) :
    Calls Tryd.prog 16 #[.slice A len cap] w fun e w' => e = .returned (.string (hashF f len)) ∧ Below w.heap.size w w' := by
  have H : Hid (Bytes w A len f) := h
  have HA : Hid (A = none → len = 0 ∧ cap = 0) := hA
  have HQ : Hid (∀ y, A = some y → 0 < cap → ∃ b off, y = ⟨b, off, none⟩) := hp
  have HP : Hid (∀ b off, 0 < len → A = some ⟨b, off, none⟩ → b < w.heap.size) := hb
  have HT : Hid (KTab w) := hT
  have HH : Hid (HTab w) := hH
  clear h hT hH hA hb hp
  obtain ⟨n, hn⟩ : ∃ n, n = len / 64 := ⟨_, rfl⟩
  have HN : Hid (n = len / 64) := hn
  have e1 : Int.tmod (len : Int) 64 = (len : Int) % 64 := Int.tmod_eq_emod_of_nonneg (by omega)
  have e2 : (len : Int) - (len : Int) % 64 = 64 * (n : Int) := by omega
  have n0 : (0 : Int) ≤ 64 * (n : Int) := by omega
  have n1 : 64 * (n : Int) ≤ (len : Int) := by omega
  have n2 : 64 * (n : Int) ≤ (cap : Int) := by omega
  have n3 : n ≤ 2000 := by omega
  clear hn
  obtain ⟨s1, hs1⟩ : ∃ s, s = stB f HB n := ⟨_, rfl⟩
  have HS1 : Hid (s1 = stB f HB n) := hs1
  have HM : Hid (∀ wx cp, 64 * n ≤ cp → cp ≤ 9223372036854775807 → Below w.heap.size w wx → Calls Tryd.prog 56 #[.agg #[.int .u32 (HB 0), .int .u32 (HB 1), .int .u32 (HB 2), .int .u32 (HB 3), .int .u32 (HB 4), .int .u32 (HB 5), .int .u32 (HB 6), .int .u32 (HB 7)], .slice A (64 * n) cp] wx fun e w' => e = .returned (.agg #[.int .u32 (s1 0), .int .u32 (s1 1), .int .u32 (s1 2), .int .u32 (s1 3), .int .u32 (s1 4), .int .u32 (s1 5), .int .u32 (s1 6), .int .u32 (s1 7)]) ∧ Below wx.heap.size wx w') := fun wx cp h1 h2 hbx => by
    rw [hs1]
    have hB' : Bytes wx A len f := H.out.below hbx HP.out
    have hB2 : Bytes wx A (64 * n) f := ⟨hB'.1, fun h0 => by obtain ⟨b, off, e, hcc⟩ := hB'.2 (by omega); exact ⟨b, off, e, fun i hi => hcc i (by omega)⟩⟩
    exact mixBlocks_any HB A n cp f wx n3 h1 h2 (HT.out.below hbx) hB2 (fun b' off' h0 h2 => by have := HP.out b' off' (by omega) h2; have := hbx.size; omega)
  clear hs1
  have c0 := HH.out 0 (by omega)
  have c1 := HH.out 1 (by omega)
  have c2 := HH.out 2 (by omega)
  have c3 := HH.out 3 (by omega)
  have c4 := HH.out 4 (by omega)
  have c5 := HH.out 5 (by omega)
  have c6 := HH.out 6 (by omega)
  have c7 := HH.out 7 (by omega)
  have g0 : 0 < w.heap.size := World.block_lt_of_cell? w _ c0
  have g1 : w.heap.size ≠ 0 := by omega
  have a0 : (w.alloc (.cells #[.int .u32 0, .int .u32 0, .int .u32 0, .int .u32 0, .int .u32 0, .int .u32 0, .int .u32 0, .int .u32 0] 81)).cell? ⟨0, 0, none⟩ = some (.int .u32 (HB 0)) := (World.cell?_alloc_lt _ _ _ g0).trans c0
  have a1 : (w.alloc (.cells #[.int .u32 0, .int .u32 0, .int .u32 0, .int .u32 0, .int .u32 0, .int .u32 0, .int .u32 0, .int .u32 0] 81)).cell? ⟨0, 1, none⟩ = some (.int .u32 (HB 1)) := (World.cell?_alloc_lt _ _ _ g0).trans c1
  have a2 : (w.alloc (.cells #[.int .u32 0, .int .u32 0, .int .u32 0, .int .u32 0, .int .u32 0, .int .u32 0, .int .u32 0, .int .u32 0] 81)).cell? ⟨0, 2, none⟩ = some (.int .u32 (HB 2)) := (World.cell?_alloc_lt _ _ _ g0).trans c2
  have a3 : (w.alloc (.cells #[.int .u32 0, .int .u32 0, .int .u32 0, .int .u32 0, .int .u32 0, .int .u32 0, .int .u32 0, .int .u32 0] 81)).cell? ⟨0, 3, none⟩ = some (.int .u32 (HB 3)) := (World.cell?_alloc_lt _ _ _ g0).trans c3
  have a4 : (w.alloc (.cells #[.int .u32 0, .int .u32 0, .int .u32 0, .int .u32 0, .int .u32 0, .int .u32 0, .int .u32 0, .int .u32 0] 81)).cell? ⟨0, 4, none⟩ = some (.int .u32 (HB 4)) := (World.cell?_alloc_lt _ _ _ g0).trans c4
  have a5 : (w.alloc (.cells #[.int .u32 0, .int .u32 0, .int .u32 0, .int .u32 0, .int .u32 0, .int .u32 0, .int .u32 0, .int .u32 0] 81)).cell? ⟨0, 5, none⟩ = some (.int .u32 (HB 5)) := (World.cell?_alloc_lt _ _ _ g0).trans c5
  have a6 : (w.alloc (.cells #[.int .u32 0, .int .u32 0, .int .u32 0, .int .u32 0, .int .u32 0, .int .u32 0, .int .u32 0, .int .u32 0] 81)).cell? ⟨0, 6, none⟩ = some (.int .u32 (HB 6)) := (World.cell?_alloc_lt _ _ _ g0).trans c6
  have a7 : (w.alloc (.cells #[.int .u32 0, .int .u32 0, .int .u32 0, .int .u32 0, .int .u32 0, .int .u32 0, .int .u32 0, .int .u32 0] 81)).cell? ⟨0, 7, none⟩ = some (.int .u32 (HB 7)) := (World.cell?_alloc_lt _ _ _ g0).trans c7
  have tn : (64 * (n : Int)).toNat = 64 * n := by omega
  have hlo := slice_lo A len cap n HA.out HQ.out (by omega) hc
  obtain ⟨ar, hsl, har1, har2, har3, har4⟩ := slice_hi A len cap n HA.out HQ.out (by omega) hc
  obtain ⟨m2, hm2⟩ : ∃ m, m = len - 64 * n := ⟨_, rfl⟩
  obtain ⟨c2', hc2'⟩ : ∃ c, c = cap - 64 * n := ⟨_, rfl⟩
  rw [← hm2] at har1
  simp only [← hm2, ← hc2'] at hsl
  have HLB : Hid (∀ wx, Below w.heap.size w wx → Calls Tryd.prog 57 #[.slice ar m2 c2', .int .i64 len] wx fun e w' => ∃ v', e = .returned v' ∧ Hid (OwnL 5 w' wx.heap.size v' (lastL f len)) ∧ Below wx.heap.size wx w') := fun wx hbx => by
    have hB' : Bytes wx A len f := H.out.below hbx HP.out
    have hm : m2 = len % 64 := by have := HN.out; omega
    have hB2 : Bytes wx ar m2 (fun j => f (64 * n + j)) := by
      refine ⟨fun k => hB'.1 _, fun h0 => ?_⟩
      obtain ⟨b, off, e, e2⟩ := har1 h0
      have hB3 := hB'
      rw [e] at hB3
      have := hB3.part (64 * n) m2 (by omega) ar (fun _ => e2)
      exact this.2 h0
    have := lastBlocks_any ar m2 c2' (fun j => f (64 * n + j)) len wx hB2 (by omega) hlen (fun h => by obtain ⟨h1, h2⟩ := HA.out (har2 h); omega) (fun b' o' h0 hy => by
      obtain ⟨b, off, e, e2⟩ := har1 h0
      have h9 := HP.out b off (by omega) e
      rw [e2] at hy
      cases hy
      have := hbx.size
      omega)
    refine this.mono fun e w' ⟨v', h1, h2, h3⟩ => ⟨v', h1, ?_, h3⟩
    have e0 : (List.range m2).map (fun j => f (64 * n + j)) ++ tailL m2 len = lastL f len := by
      unfold lastL; rw [hm, HN.out]
    rw [← e0]; exact h2
  have HLB2 : Hid (∀ wx, Below w.heap.size w wx → Calls Tryd.prog 57 #[.slice ar m2 c2', .int .i64 len] wx fun e w' => ∃ g cp, e = .returned (.slice (some ⟨g, 0, none⟩) (64 * lastN len) cp) ∧ Hid (RowB w' g cp (lastL f len)) ∧ Hid (Below wx.heap.size wx w')) := fun wx hbx =>
    (HLB.out wx hbx).mono fun e w' ⟨v', h1, h2, h3⟩ => by
      obtain ⟨g, cp, hv, hr⟩ := rowB_of h2.out (lastL_bd f len H.out.1) (by rw [lastL_len]; omega)
      rw [lastL_blocks] at hv
      exact ⟨g, cp, by rw [h1, hv], hr, h3⟩
  obtain ⟨t, ht⟩ : ∃ t, t = hst f len := ⟨_, rfl⟩
  have HMX : Hid (∀ wx g cp, RowB wx g cp (lastL f len) → Below w.heap.size w wx → Calls Tryd.prog 56 #[.agg #[.int .u32 (s1 0), .int .u32 (s1 1), .int .u32 (s1 2), .int .u32 (s1 3), .int .u32 (s1 4), .int .u32 (s1 5), .int .u32 (s1 6), .int .u32 (s1 7)], .slice (some ⟨g, 0, none⟩) (64 * lastN len) cp] wx fun e w' => e = .returned (.agg #[.int .u32 (t 0), .int .u32 (t 1), .int .u32 (t 2), .int .u32 (t 3), .int .u32 (t 4), .int .u32 (t 5), .int .u32 (t 6), .int .u32 (t 7)]) ∧ Hid (Below wx.heap.size wx w')) := fun wx g cp hr hbx => by
    have e0 : t = stB (fun j => (lastL f len).getD j 0) s1 (lastN len) := by rw [ht, HS1.out, HN.out]; exact (hst_split f len).symm
    rw [e0]
    obtain ⟨r1, r2, r3, r4⟩ := hr
    rw [lastL_blocks] at r1 r3
    exact mixBlocks_any s1 (some ⟨g, 0, none⟩) (lastN len) cp _ wx (by have := lastN_le len; omega) r3 r4 (HT.out.below hbx) r1 (fun b' off' _ h2 => by cases h2; exact r2)
  have HTX : Hid (∀ wx, Calls Tryd.prog 58 #[.agg #[.int .u32 (t 0), .int .u32 (t 1), .int .u32 (t 2), .int .u32 (t 3), .int .u32 (t 4), .int .u32 (t 5), .int .u32 (t 6), .int .u32 (t 7)]] wx fun e w' => e = .returned (.string (hashF f len)) ∧ Hid (Below wx.heap.size wx w')) := fun wx => by
    rw [ht]
    exact text_any (hst f len) wx (hst_bd f len)
  clear ht HLB
  have HSL : Hid (m2 = len - 64 * n) := hm2
  clear hm2 hc2' har1 har2 har3 har4
  have B0 : Hid (Below w.heap.size w w.drew) := (Below.refl _ _).drew
  have BA : Hid (Below w.heap.size w (w.alloc (.cells #[.int .u32 0, .int .u32 0, .int .u32 0, .int .u32 0, .int .u32 0, .int .u32 0, .int .u32 0, .int .u32 0] 81)).drew) := ((Below.refl _ _).alloc (Nat.le_refl _) _).drew
  have FA : Hid (Free (w.alloc (.cells #[.int .u32 0, .int .u32 0, .int .u32 0, .int .u32 0, .int .u32 0, .int .u32 0, .int .u32 0, .int .u32 0] 81)).drew w.heap.size 8) := Free.new w _ _
  go_enter Tryd.func16, Tryd.ntmps16
  go_wp2
  go_region_with (first
    | (go_at_call 56; (with_reducible refine (HM.out w.drew cap (by omega) hx B0.out).mono ?_); rintro e w1 ⟨rfl, b1⟩; have B1 : Hid (Below w.heap.size w w1) := B0.out.trans b1; clear b1)
    | (go_at_call 56; (with_reducible refine (HM.out (w.alloc (.cells #[.int .u32 0, .int .u32 0, .int .u32 0, .int .u32 0, .int .u32 0, .int .u32 0, .int .u32 0, .int .u32 0] 81)).drew cap (by omega) hx BA.out).mono ?_); rintro e w1 ⟨rfl, b1⟩; have B1 : Hid (Below w.heap.size w w1) := BA.out.trans (b1.mono (by simp)); have Z : Hid (Free w1 w.heap.size 8) := FA.out.below b1 (by simp); clear b1; have Z0 : Hid (∀ i, i < 8 → ∃ v, w1.cell? ⟨w.heap.size, i, none⟩ = some v) := (fun i hi => Option.isSome_iff_exists.1 (Z.out.2 i hi).1); obtain ⟨v0, z0⟩ := Z0.out 0 (by omega); obtain ⟨v1, z1⟩ := Z0.out 1 (by omega); obtain ⟨v2, z2⟩ := Z0.out 2 (by omega); obtain ⟨v3, z3⟩ := Z0.out 3 (by omega); obtain ⟨v4, z4⟩ := Z0.out 4 (by omega); obtain ⟨v5, z5⟩ := Z0.out 5 (by omega); obtain ⟨v6, z6⟩ := Z0.out 6 (by omega); obtain ⟨v7, z7⟩ := Z0.out 7 (by omega);  have y0 := (Z.out.2 0 (by omega)).2; have y1 := (Z.out.2 1 (by omega)).2; have y2 := (Z.out.2 2 (by omega)).2; have y3 := (Z.out.2 3 (by omega)).2; have y4 := (Z.out.2 4 (by omega)).2; have y5 := (Z.out.2 5 (by omega)).2; have y6 := (Z.out.2 6 (by omega)).2; have y7 := (Z.out.2 7 (by omega)).2))
  all_goals first
    | (obtain ⟨W, hW⟩ : ∃ W, W = w1.alloc (.cells #[.int .u32 (s1 0), .int .u32 (s1 1), .int .u32 (s1 2), .int .u32 (s1 3), .int .u32 (s1 4), .int .u32 (s1 5), .int .u32 (s1 6), .int .u32 (s1 7)] 81) := ⟨_, rfl⟩
       rw [← hW]
       have Y : Hid (St8 w W w1.heap.size s1) := hW ▸ st8_new B1.out
       clear hW B1)
    | (obtain ⟨W, hW⟩ : ∃ W, W = ((((((((w1.setCell ⟨w.heap.size, 0, none⟩ (.int .u32 (s1 0))).setCell ⟨w.heap.size, 1, none⟩ (.int .u32 (s1 1))).setCell ⟨w.heap.size, 2, none⟩ (.int .u32 (s1 2))).setCell ⟨w.heap.size, 3, none⟩ (.int .u32 (s1 3))).setCell ⟨w.heap.size, 4, none⟩ (.int .u32 (s1 4))).setCell ⟨w.heap.size, 5, none⟩ (.int .u32 (s1 5))).setCell ⟨w.heap.size, 6, none⟩ (.int .u32 (s1 6))).setCell ⟨w.heap.size, 7, none⟩ (.int .u32 (s1 7))) := ⟨_, rfl⟩
       rw [← hW]
       have Y : Hid (St8 w W w.heap.size s1) := hW ▸ st8_set B1.out Z.out
       clear hW B1 Z0 Z z0 z1 z2 z3 z4 z5 z6 z7 y0 y1 y2 y3 y4 y5 y6 y7)
  all_goals
    clear c0 c1 c2 c3 c4 c5 c6 c7 a0 a1 a2 a3 a4 a5 a6 a7 B0 BA FA HM
    have c0 := Y.out.2.1 0 (by omega)
    have c1 := Y.out.2.1 1 (by omega)
    have c2 := Y.out.2.1 2 (by omega)
    have c3 := Y.out.2.1 3 (by omega)
    have c4 := Y.out.2.1 4 (by omega)
    have c5 := Y.out.2.1 5 (by omega)
    have c6 := Y.out.2.1 6 (by omega)
    have c7 := Y.out.2.1 7 (by omega)
    go_wp2
  all_goals
    have BW : Hid (Below w.heap.size w W.drew) := Y.out.1.drew
    have Y' : Hid (∀ w3, Below W.drew.heap.size W.drew w3 → St8 w w3 _ s1 ∧ Below w.heap.size w w3) := fun w3 b3 => ⟨Y.out.drew.below b3, (Y.out.drew.below b3).1⟩
    go_region_with (first
      | (go_at_call 57; (with_reducible refine (HLB2.out _ BW.out).mono ?_); rintro e w3 ⟨g, cp, rfl, R3, b3⟩; have Y3 : Hid (St8 w w3 _ s1) := (Y'.out w3 b3.out).1; have B3 : Hid (Below w.heap.size w w3) := (Y'.out w3 b3.out).2; clear Y Y' b3 c0 c1 c2 c3 c4 c5 c6 c7; have c0 := Y3.out.2.1 0 (by omega); have c1 := Y3.out.2.1 1 (by omega); have c2 := Y3.out.2.1 2 (by omega); have c3 := Y3.out.2.1 3 (by omega); have c4 := Y3.out.2.1 4 (by omega); have c5 := Y3.out.2.1 5 (by omega); have c6 := Y3.out.2.1 6 (by omega); have c7 := Y3.out.2.1 7 (by omega);  skip)
      | (go_at_call 56; (with_reducible refine (HMX.out _ _ _ R3.out B3.out).mono ?_); rintro e w4 ⟨rfl, b4⟩; have B4 : Hid (Below w.heap.size w w4) := B3.out.trans (b4.out.mono B3.out.size); clear b4 B3 R3)
      | (go_at_call 58; (with_reducible refine (HTX.out _).mono ?_); rintro e w5 ⟨rfl, b5⟩; have B5 : Hid (Below w.heap.size w w5) := B4.out.trans (b5.out.mono B4.out.size); clear b5 B4))
    all_goals
      go_wp2
      go_ret
      exact ⟨rfl, B5.out⟩
end Go.Proofs.YtmhlanbmlkidhaaDoor
