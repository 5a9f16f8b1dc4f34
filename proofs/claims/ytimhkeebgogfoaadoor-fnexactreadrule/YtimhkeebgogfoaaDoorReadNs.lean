/- ReadNet, the model's; both; the walk of the law. -/
import Derived.Test.YtimhkeebgogfoaaDoorReadNt
import Derived.Deep.RegionHeld3
import Derived.BigRegion
namespace Go.Proofs.YtimhkeebgogfoaaDoor
open Go.RowKit Go.PlainAid Go.Proofs.YtimhkeebgogfoaaDoor.Bt Go.Sort
set_option linter.unusedVariables false
set_option maxRecDepth 20000

theorem str_cells {w : World} {B g c : Nat} {ps : List ByteArray} (h : OwnS w B (.slice (some ⟨g, 0, none⟩) ps.length c) ps) (i : Nat) (hi : i < ps.length) : w.cell? ⟨g, i, none⟩ = some (.string (ps.getD i ⟨#[]⟩)) := by
  have := World.ownsRow.cells h (g := g) rfl i (.string (ps.getD i ⟨#[]⟩)) (by simp [hi])
  have ea : (⟨g, 0, none⟩ : Addr).add i = ⟨g, i, none⟩ := by unfold Addr.add; split <;> simp_all
  rwa [ea] at this
theorem list_inj {A B : ByteArray} (h : A.data.toList = B.data.toList) : A = B := by
  cases A with | mk a => cases B with | mk b =>
  congr 1
  exact Array.toList_inj.1 h

theorem two_strs {ps : List ByteArray} {A R : ByteArray} (h1 : ps.map (·.data.toList) = [A.data.toList, R.data.toList]) : ps = [A, R] := by
  have hl : ps.length = 2 := by have := congrArg List.length h1; simpa using this
  obtain ⟨x, y, rfl⟩ : ∃ x y, ps = [x, y] := by
    match ps, hl with
    | [x, y], _ => exact ⟨x, y, rfl⟩
  simp only [List.map_cons, List.map_nil, List.cons.injEq, and_true] at h1
  rw [list_inj h1.1, list_inj h1.2]

set_option maxHeartbeats 1000000 in
theorem l05Read_bad (t : ByteArray) (w : World) (ht : t.size ≤ 65536) (hl : (Sl.pq t.data.toList).length ≠ 2) :
    Calls Tryd.prog 73 #[.string t] w fun e w' => e = .returned (.tuple #[.agg #[.int .i64 0, .int .i64 0], .bool false]) ∧ Below w.heap.size w w' := by
  have HC : Hid (∀ w, Calls Tryd.prog 57 #[.string t, .int .u8 47] w fun e w' => ∃ (g c : Nat) (ps : List ByteArray), e = .returned (.slice (some ⟨g, 0, none⟩) ps.length c) ∧ OwnS w' w.heap.size (.slice (some ⟨g, 0, none⟩) ps.length c) ps ∧ ps.map (·.data.toList) = Sl.pq t.data.toList ∧ Below w.heap.size w w') := fun w => Sl.l00Cut_any t w (by omega)
  go_enter Tryd.func73, Tryd.ntmps73
  go_wp2_with fail
  refine (HC.out _).mono ?_
  rintro e w1 ⟨g, c, ps, rfl, o1, h1, b1⟩
  have hpl : ps.length ≠ 2 := by
    have := congrArg List.length h1
    rw [List.length_map] at this
    omega
  have hb : ((ps.length : Int) != 2) = true := by simp; omega
  have X1 : Hid (Below w.heap.size w w1 ∧ w.heap.size < w1.heap.size) := ⟨((Below.refl _ _).alloc (Nat.le_refl _) _).trans (b1.mono (by simp)), by have := b1.size; simp at this; omega⟩
  have z0 : w1.cell? ⟨w.heap.size, 0, none⟩ = some (.int .i64 0) := by rw [b1.cell (by simp)]; simp
  have z1 : w1.cell? ⟨w.heap.size, 1, none⟩ = some (.int .i64 0) := by rw [b1.cell (by simp)]; simp
  have f0 : ∀ i, w1.frozen? ⟨w.heap.size, i, none⟩ = false := fun i => by rw [b1.frozen (by simp)]; simp
  clear b1 o1 h1
  obtain ⟨W, hW⟩ : ∃ W, W = (w1.setCell ⟨w.heap.size, 0, none⟩ (.int .i64 0)).setCell ⟨w.heap.size, 1, none⟩ (.int .i64 0) := ⟨_, rfl⟩
  have st := set_two (.int .i64 0) (.int .i64 0) z0 z1
  rw [← hW] at st
  have r0 := st.1
  have r1 := st.2.1
  have XW : Hid (Below w.heap.size w W) := X1.out.1.trans st.2.2
  clear st
  go_wp2
  rw [← hW]
  clear hW
  (try simp only [Exit.inBlock, Exit.then])
  refine bodyPost_ret (v := .tuple #[.agg #[.int .i64 0, .int .i64 0], .bool false]) (by simp [results, Tryd.results73, go_sem, r0, r1]; try rfl) rfl ?_
  exact ⟨rfl, XW.out⟩
set_option maxHeartbeats 1000000 in
theorem l05Read_two (t A R : ByteArray) (w : World) (ht : t.size ≤ 65536) (hA : A.size ≤ 65536) (hR : R.size ≤ 65536) (hl : Sl.pq t.data.toList = [A.data.toList, R.data.toList]) :
    Calls Tryd.prog 73 #[.string t] w fun e w' => ∃ n0 n1, e = .returned (.tuple #[.agg #[.int .i64 n0, .int .i64 n1], .bool (rdN A R)]) ∧ (rdN A R = true → n0 = raV A ∧ n1 = rnV R) ∧ Below w.heap.size w w' := by
  have HC : Hid (∀ w, Calls Tryd.prog 57 #[.string t, .int .u8 47] w fun e w' => ∃ (g c : Nat) (ps : List ByteArray), e = .returned (.slice (some ⟨g, 0, none⟩) ps.length c) ∧ OwnS w' w.heap.size (.slice (some ⟨g, 0, none⟩) ps.length c) ps ∧ ps.map (·.data.toList) = Sl.pq t.data.toList ∧ Below w.heap.size w w') := fun w => Sl.l00Cut_any t w (by omega)
  have HA : Hid (∀ w, Calls Tryd.prog 96 #[.string A] w fun e w' => e = .returned (.tuple #[.int .i64 (raV A), .bool (raB A)]) ∧ Below w.heap.size w w') := fun w => l01ReadAddress_any A w hA
  have HN : Hid (∀ w, Calls Tryd.prog 74 #[.string R] w fun e w' => e = .returned (.tuple #[.int .i64 (rnV R), .bool (rnB R)]) ∧ w' = w) := fun w => l00Number_any R w (by omega)
  have HO : Hid (∀ w, Calls Tryd.prog 97 #[.agg #[.int .i64 (raV A), .int .i64 (rnV R)]] w fun e w' => e = .returned (.bool (nB (raV A) (rnV R))) ∧ Grw w w') := fun w => specNetOK_any _ _ w
  have ER : Hid (rdN A R = (raB A && rnB R && nB (raV A) (rnV R))) := rfl
  generalize rdN A R = rd at ER ⊢
  generalize nB (raV A) (rnV R) = nb at HO ER
  generalize rnB R = rb at HN ER
  generalize rnV R = rv at HN HO ⊢
  generalize raV A = av at HA HO ⊢
  generalize raB A = ab at HA ER
  go_enter Tryd.func73, Tryd.ntmps73
  go_wp2_with fail
  refine (HC.out _).mono ?_
  rintro e w1 ⟨g, c, ps, rfl, o1, h1, b1⟩
  rw [hl] at h1
  have hps : ps = [A, R] := two_strs h1
  subst hps
  have q0 : w1.cell? ⟨g, 0, none⟩ = some (.string A) := str_cells o1 0 (by simp)
  have q1 : w1.cell? ⟨g, 1, none⟩ = some (.string R) := str_cells o1 1 (by simp)
  have hgl : g < w1.heap.size := World.block_lt_of_cell? w1 _ q0
  have X1 : Hid (Below w.heap.size w w1 ∧ w.heap.size < w1.heap.size) := ⟨((Below.refl _ _).alloc (Nat.le_refl _) _).trans (b1.mono (by simp)), by have := b1.size; simp at this; omega⟩
  have z0 : w1.cell? ⟨w.heap.size, 0, none⟩ = some (.int .i64 0) := by rw [b1.cell (by simp)]; simp
  have z1 : w1.cell? ⟨w.heap.size, 1, none⟩ = some (.int .i64 0) := by rw [b1.cell (by simp)]; simp
  have f0 : ∀ i, w1.frozen? ⟨w.heap.size, i, none⟩ = false := fun i => by rw [b1.frozen (by simp)]; simp
  clear b1 o1 h1 HC hl
  go_wp2_with fail
  refine (HA.out _).mono ?_
  rintro e w2 ⟨rfl, b2⟩
  have X2 : Hid (Below w.heap.size w w2 ∧ w.heap.size < w2.heap.size) := ⟨X1.out.1.trans (b2.mono (Nat.le_of_lt X1.out.2)), Nat.lt_of_lt_of_le X1.out.2 b2.size⟩
  have q1 : w2.cell? ⟨g, 1, none⟩ = some (.string R) := by rw [b2.cell (by exact hgl)]; exact q1
  have z0 : w2.cell? ⟨w.heap.size, 0, none⟩ = some (.int .i64 0) := by rw [b2.cell (by exact X1.out.2)]; exact z0
  have z1 : w2.cell? ⟨w.heap.size, 1, none⟩ = some (.int .i64 0) := by rw [b2.cell (by exact X1.out.2)]; exact z1
  have f0 : ∀ i, w2.frozen? ⟨w.heap.size, i, none⟩ = false := fun i => by rw [b2.frozen (by exact X1.out.2)]; exact f0 i
  clear b2 X1 HA q0
  go_wp2_with fail
  refine (HN.out _).mono ?_
  rintro e w3 ⟨rfl, hw⟩
  subst hw
  clear HN
  obtain ⟨V, hV⟩ : ∃ V, V = w3.alloc (.cells #[.int .i64 av, .int .i64 rv] 40) := ⟨_, rfl⟩
  have bV : Below w3.heap.size w3 V := by rw [hV]; exact (Below.refl _ _).alloc (Nat.le_refl _) _
  have y0 : V.cell? ⟨w3.heap.size, 0, none⟩ = some (.int .i64 av) := by rw [hV]; simp
  have y1 : V.cell? ⟨w3.heap.size, 1, none⟩ = some (.int .i64 rv) := by rw [hV]; simp
  have zV0 : V.cell? ⟨w.heap.size, 0, none⟩ = some (.int .i64 0) := by rw [bV.cell (by exact X2.out.2)]; exact z0
  have zV1 : V.cell? ⟨w.heap.size, 1, none⟩ = some (.int .i64 0) := by rw [bV.cell (by exact X2.out.2)]; exact z1
  have fV : ∀ i, V.frozen? ⟨w.heap.size, i, none⟩ = false := fun i => by rw [bV.frozen (by exact X2.out.2)]; exact f0 i
  have hVl : Hid (w3.heap.size < V.heap.size ∧ w.heap.size < V.heap.size) := ⟨World.block_lt_of_cell? V _ y0, World.block_lt_of_cell? V _ zV0⟩
  have XV : Hid (Below w.heap.size w V) := X2.out.1.trans (bV.mono (Nat.le_of_lt X2.out.2))
  have BZ : Hid ((∀ w4, Below V.drew.heap.size V.drew w4 → w4.cell? ⟨w.heap.size, 0, none⟩ = some (.int .i64 0)) ∧ (∀ w4, Below V.drew.heap.size V.drew w4 → w4.cell? ⟨w.heap.size, 1, none⟩ = some (.int .i64 0)) ∧ (∀ w4, Below V.drew.heap.size V.drew w4 → ∀ i, w4.frozen? ⟨w.heap.size, i, none⟩ = false) ∧ ∀ w4, Below V.drew.heap.size V.drew w4 → w4.cell? ⟨w3.heap.size, 0, none⟩ = some (.int .i64 av) ∧ w4.cell? ⟨w3.heap.size, 1, none⟩ = some (.int .i64 rv)) :=
    ⟨fun w4 hb => by rw [hb.cell (by exact hVl.out.2)]; exact zV0, fun w4 hb => by rw [hb.cell (by exact hVl.out.2)]; exact zV1, fun w4 hb i => by rw [hb.frozen (p := ⟨w.heap.size, i, none⟩) (by exact hVl.out.2)]; exact fV i, fun w4 hb => ⟨by rw [hb.cell (by exact hVl.out.1)]; exact y0, by rw [hb.cell (by exact hVl.out.1)]; exact y1⟩⟩
  have hne : Hid (w3.heap.size ≠ w.heap.size) := fun e => by have := X2.out.2; omega
  have SS : Hid (∀ (X : World) (u v : Value), (X.cell? ⟨w3.heap.size, 0, none⟩ = some (.int .i64 av) ∧ X.cell? ⟨w3.heap.size, 1, none⟩ = some (.int .i64 rv)) → ((X.setCell ⟨w.heap.size, 0, none⟩ u).setCell ⟨w.heap.size, 1, none⟩ v).cell? ⟨w3.heap.size, 0, none⟩ = some (.int .i64 av) ∧ ((X.setCell ⟨w.heap.size, 0, none⟩ u).setCell ⟨w.heap.size, 1, none⟩ v).cell? ⟨w3.heap.size, 1, none⟩ = some (.int .i64 rv)) := fun X u v h =>
    ⟨by rw [World.cell?_setCell_other _ _ _ _ (fun e => hne.out (congrArg Addr.block e).symm), World.cell?_setCell_other _ _ _ _ (fun e => hne.out (congrArg Addr.block e).symm)]; exact h.1, by rw [World.cell?_setCell_other _ _ _ _ (fun e => hne.out (congrArg Addr.block e).symm), World.cell?_setCell_other _ _ _ _ (fun e => hne.out (congrArg Addr.block e).symm)]; exact h.2⟩
  clear z0 z1 f0 q1 bV
  cases hab : (ab && rb) with
  | false =>
    have erd : rd = false := by rw [ER.out, hab]; rfl
    subst erd
    have hcase : (ab = false ∧ rb = false) ∨ (ab = false ∧ rb = true) ∨ (ab = true ∧ rb = false) := by
      cases ab <;> cases rb <;> simp at hab ⊢
    clear hab ER
    rcases hcase with ⟨e1, e2⟩ | ⟨e1, e2⟩ | ⟨e1, e2⟩
    all_goals
      subst e1 e2
      go_wp2
      rw [← hV]
      clear hV
      go_big_region
      obtain ⟨W, hW⟩ : ∃ W, W = (V.setCell ⟨w.heap.size, 0, none⟩ (.int .i64 av)).setCell ⟨w.heap.size, 1, none⟩ (.int .i64 rv) := ⟨_, rfl⟩
      have st := set_two (w2 := V) (.int .i64 av) (.int .i64 rv) zV0 zV1
      rw [← hW] at st ⊢
      have r0 := st.1
      have r1 := st.2.1
      have XW : Hid (Below w.heap.size w W.drew) := (XV.out.trans st.2.2).drew
      clear st hW
      go_wp2
      (try simp only [Exit.inBlock, Exit.then])
      refine bodyPost_ret (v := .tuple #[.agg #[.int .i64 av, .int .i64 rv], .bool false]) (by simp [results, Tryd.results73, go_sem, r0, r1]; try rfl) rfl ?_
      exact ⟨av, rv, rfl, fun _ => ⟨rfl, rfl⟩, XW.out⟩
  | true =>
    rw [Bool.and_eq_true] at hab
    obtain ⟨e1, e2⟩ := hab
    subst e1 e2
    have erd : rd = nb := by rw [ER.out]; rfl
    subst erd
    go_wp2
    rw [← hV]
    clear hV
    go_region_held3 (fun wx => wx.cell? ⟨w3.heap.size, 0, none⟩ = some (.int .i64 av) ∧ wx.cell? ⟨w3.heap.size, 1, none⟩ = some (.int .i64 rv))
      (first | exact ⟨y0, y1⟩ | exact SS.out _ _ _ (by assumption) | exact S4)
      (first | (go_at_call 97; refine (HO.out _).mono ?_; rintro e w4 ⟨rfl, g4⟩; have b4 := g4.below; have z0 : w4.cell? ⟨w.heap.size, 0, none⟩ = some (.int .i64 0) := BZ.out.1 _ b4; have z1 : w4.cell? ⟨w.heap.size, 1, none⟩ = some (.int .i64 0) := BZ.out.2.1 _ b4; have f0 : ∀ i, w4.frozen? ⟨w.heap.size, i, none⟩ = false := BZ.out.2.2.1 _ b4; have S4 : w4.cell? ⟨w3.heap.size, 0, none⟩ = some (.int .i64 av) ∧ w4.cell? ⟨w3.heap.size, 1, none⟩ = some (.int .i64 rv) := BZ.out.2.2.2 _ b4))
    obtain ⟨W, hW⟩ : ∃ W, W = (w4.setCell ⟨w.heap.size, 0, none⟩ (.int .i64 av)).setCell ⟨w.heap.size, 1, none⟩ (.int .i64 rv) := ⟨_, rfl⟩
    have st := set_two (w2 := w4) (.int .i64 av) (.int .i64 rv) z0 z1
    rw [← hW] at st ⊢
    have r0 := st.1
    have r1 := st.2.1
    have XW : Hid (Below w.heap.size w W) := (XV.out.drew.trans (b4.mono (Nat.le_of_lt hVl.out.2))).trans st.2.2
    clear st hW
    go_wp2
    (try simp only [Exit.inBlock, Exit.then])
    refine bodyPost_ret (v := .tuple #[.agg #[.int .i64 av, .int .i64 rv], .bool rd]) (by simp [results, Tryd.results73, go_sem, r0, r1]; try rfl) rfl ?_
    exact ⟨av, rv, rfl, fun _ => ⟨rfl, rfl⟩, XW.out⟩
end Go.Proofs.YtimhkeebgogfoaaDoor
