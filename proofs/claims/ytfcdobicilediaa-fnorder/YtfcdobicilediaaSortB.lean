/- SortWords, the model's: right words, put in one by one (g36.py). -/
import Derived.Test.YtfcdobicilediaaSortS
import Derived.Deep.AppendLies
import Derived.Deep.RegionHeld3
import Derived.OwnWalk
namespace Go.Proofs.Ytfcdobicilediaa
open Go.Shelf Go.RowKit Go.PlainAid Go.Lib Go.Sort Go.Proofs Go.Proofs.Ytfcdobicilediaa.Fo
set_option linter.unusedVariables false
set_option maxRecDepth 20000

/-- A value put in behind the last one that is not above it. -/
theorem ins_key {α : Type} {K : α → Int} {d : α} (R : List α) (x : α) (k : Nat) (hk : k ≤ R.length) (hR : R.Pairwise (fun x y => K x ≤ K y))
    (hgt : ∀ j, k ≤ j → j < R.length → K x < K (R.getD j d)) (hle : 0 < k → K (R.getD (k - 1) d) ≤ K x) :
    (R.take k ++ [x] ++ R.drop k).Pairwise (fun x y => K x ≤ K y) ∧ St K (R.take k ++ [x] ++ R.drop k) (R ++ [x]) := by
  have h1 : ∀ y ∈ R.take k, K y ≤ K x := by
    intro y hy
    obtain ⟨i, hi, rfl⟩ := List.getElem_of_mem hy
    rw [List.length_take] at hi
    rw [List.getElem_take]
    have h0 := hle (by omega)
    rw [List.getD_eq_getElem?_getD, List.getElem?_eq_getElem (by omega)] at h0
    by_cases e : i = k - 1
    · subst e; exact h0
    · exact Int.le_trans ((List.pairwise_iff_getElem.1 hR) i (k - 1) (by omega) (by omega) (by omega)) h0
  have h2 : ∀ y ∈ R.drop k, K x < K y := by
    intro y hy
    obtain ⟨i, hi, rfl⟩ := List.getElem_of_mem hy
    rw [List.length_drop] at hi
    rw [List.getElem_drop]
    have h0 := hgt (k + i) (by omega) (by omega)
    rw [List.getD_eq_getElem?_getD, List.getElem?_eq_getElem (by omega)] at h0
    exact h0
  constructor
  · rw [List.append_assoc, List.pairwise_append]
    refine ⟨hR.sublist (List.take_sublist ..), ?_, ?_⟩
    · rw [List.singleton_append, List.pairwise_cons]
      exact ⟨fun y hy => Int.le_of_lt (h2 y hy), hR.sublist (List.drop_sublist ..)⟩
    · intro y hy z hz
      rcases List.mem_append.1 hz with hz | hz
      · rw [List.mem_singleton.1 hz]; exact h1 y hy
      · exact Int.le_trans (h1 y hy) (Int.le_of_lt (h2 z hz))
  · have e : R ++ [x] = R.take k ++ (R.drop k ++ [x]) := by rw [← List.append_assoc, List.take_append_drop]
    rw [e, List.append_assoc]
    exact (St.rfl' K _).append (st_turn fun u hu v hv => by rw [List.mem_singleton.1 hv]; exact h2 u hu)

theorem own_someW {e : TypeId} {w : World} {B : Nat} {v : Value} {L : List (Int × Int)} (h : OwnP e w B v L) (h0 : 0 < L.length) : ∃ g cap, v = .slice (some ⟨g, 0, none⟩) L.length cap ∧ B ≤ g := by
  rcases h.2 with ⟨h1, h2⟩ | ⟨g, c, cur, h1, hB, _⟩
  · omega
  · exact ⟨g, c, h1, hB⟩
theorem part_cellsW {w : World} {b off : Nat} {zs : List (Int × Int)} (h : Prs w (some ⟨b, off, none⟩) zs) (k n : Nat) (hn : k + n ≤ zs.length) : ∀ j u, (flat ((zs.drop k).take n))[j]? = some u → w.cell? ((⟨b, off + k * 2, none⟩ : Addr).add j) = some u := by
  intro j u hu
  have hj : j < n * 2 := by
    have := (List.getElem?_eq_some_iff.1 hu).1
    rw [flat_len, List.length_take, List.length_drop] at this
    omega
  obtain ⟨b', off', e, hlt, hc⟩ := h (by omega)
  cases e
  rw [add_none]
  have h2 := hc (k + j / 2) (by omega)
  have fa := flat_at ((zs.drop k).take n) (j / 2) (by rw [List.length_take, List.length_drop]; omega)
  have eg : ((zs.drop k).take n).getD (j / 2) (0, 0) = zs.getD (k + j / 2) (0, 0) := by
    rw [List.getD_eq_getElem?_getD, List.getD_eq_getElem?_getD, List.getElem?_take_of_lt (by omega), List.getElem?_drop]
  rw [eg] at fa
  rcases Nat.mod_two_eq_zero_or_one j with hm | hm
  · rw [show j = j / 2 * 2 by omega, fa.1] at hu
    cases hu
    rw [show off + k * 2 + j = off + (k + j / 2) * 2 by omega]
    exact h2.1
  · rw [show j = j / 2 * 2 + 1 by omega, fa.2] at hu
    cases hu
    rw [show off + k * 2 + j = off + ((k + j / 2) * 2 + 1) by omega]
    exact h2.2
/-- Two empty rows laid one behind the other. -/
theorem step_moreW (w : World) {ops : Array Oper} {o : Oper} {a : Act} {K : Act → World → Prop} {Q : Exit → Act → World → Prop} {E : Prop} (hgd : o.guard = none) (s x : Operand)
    (ho : o.op = .call { callee := .builtin .append, args := #[s, x], argTypes := #[41, 41] })
    (B : Nat) (v : Value) (L : List (Int × Int)) (hs : a.eval s = v) (hown : OwnP 48 w B v L)
    (ad : Addr) (m c : Nat) (M : List (Int × Int)) (hx : a.eval x = .slice (some ad) m c) (hM : M.length = m) (hn : ∀ j u, (flat M)[j]? = some u → w.cell? (ad.add j) = some u)
    (hlen : L.length + m ≤ 5000) (hB : B ≤ w.heap.size)
    (h : ∀ v' w', Hid (OwnP 48 w' B v' (L ++ M) ∧ Below B w w' ∧ w.grownBy w' v.ownBlock) → K (a.put o.dst v') w') :
    if Region.wanted o (yielded ops a.tmps) = true then Oper.wp Try.prog o a w K Q else E := by
  have hw : Region.wanted o (yielded ops a.tmps) = true := by simp [Region.wanted, hgd]
  rw [if_pos hw]
  obtain ⟨i0, hi, hz0, hz1, hz2⟩ := info_parts wordInfo2
  refine wp_append_own w s x 41 ho B 48 i0 (.agg #[.int .i64 0, .int .i64 0]) 2 16 Try.underlying41 hi hz0 hz1 hz2 rfl (by decide) v L.length (flat L) hs hown ad m c (flat M) hx (by rw [flat_len, hM]) hn
    (flat_one M) (by unfold maxLen; omega) (by omega) hB ?_
  intro v' w' h2 h3 _
  refine h v' w' ⟨?_, (Below.refl B w).grown h3 hB (fun k hk => (World.ownsRow.lt hown k hk).1), h3⟩
  unfold OwnP
  rw [flat_append, List.length_append, hM]
  exact h2
structure KeptW (W wx : World) : Prop where
  out : Below W.heap.size W wx
/-- What stands through the region of the appends: the word of the list. -/
def S6 (b o : Nat) (t0 t1 : Int) (W wx : World) : Prop := wx.cell? ⟨b, o, none⟩ = some (.int .i64 t0) ∧ wx.cell? ⟨b, o + 1, none⟩ = some (.int .i64 t1) ∧ KeptW W wx
theorem S6.start {b o : Nat} {t0 t1 : Int} {W : World} (h0 : W.cell? ⟨b, o, none⟩ = some (.int .i64 t0)) (h1 : W.cell? ⟨b, o + 1, none⟩ = some (.int .i64 t1)) : S6 b o t0 t1 W W := ⟨h0, h1, ⟨Below.refl _ _⟩⟩
theorem S6.below {b o : Nat} {t0 t1 : Int} {W wx wy : World} (h : S6 b o t0 t1 W wx) (hq : b < W.heap.size) (hb : Below W.heap.size wx wy) : S6 b o t0 t1 W wy :=
  ⟨by rw [hb.cell (p := ⟨b, o, none⟩) hq]; exact h.1, by rw [hb.cell (p := ⟨b, o + 1, none⟩) hq]; exact h.2.1, ⟨h.2.2.out.trans hb⟩⟩
theorem S6.alloc {b o : Nat} {t0 t1 : Int} {W wx : World} (h : S6 b o t0 t1 W wx) (hq : b < W.heap.size) (x : Obj) : S6 b o t0 t1 W (wx.alloc x).drew :=
  h.below hq ((Below.refl _ _).alloc h.2.2.out.size x).drew
theorem tw_cells {w : World} {t0 t1 : Int} {g : Nat} (h0 : w.cell? ⟨g, 0, none⟩ = some (.int .i64 t0)) (h1 : w.cell? ⟨g, 1, none⟩ = some (.int .i64 t1)) : ∀ j u, (flat [(t0, t1)])[j]? = some u → w.cell? ((⟨g, 0, none⟩ : Addr).add j) = some u := by
  intro j u hu
  rw [add_none, Nat.zero_add]
  match j, hu with
  | 0, hu => cases hu; exact h0
  | 1, hu => cases hu; exact h1
theorem tw_new (X : World) (t0 t1 : Int) : ∀ j u, (flat [(t0, t1)])[j]? = some u → (X.alloc (.cells #[.int .i64 t0, .int .i64 t1] 48)).cell? ((⟨X.heap.size, 0, none⟩ : Addr).add j) = some u := tw_cells (by simp) (by simp)
theorem tw_old1 (W w4 : World) (t0 t1 : Int) (e : TypeId) (hg : ((W.alloc (.cells #[] e)).alloc (.cells #[.int .i64 t0, .int .i64 t1] 48)).drew.grownBy w4 (some W.heap.size)) : ∀ j u, (flat [(t0, t1)])[j]? = some u → w4.cell? ((⟨W.heap.size + 1, 0, none⟩ : Addr).add j) = some u := by
  have far : ∀ i, w4.cell? ⟨W.heap.size + 1, i, none⟩ = ((W.alloc (.cells #[] e)).alloc (.cells #[.int .i64 t0, .int .i64 t1] 48)).cell? ⟨W.heap.size + 1, i, none⟩ := fun i => hg.cell_far _ (by simp) (by simp)
  exact tw_cells (by rw [far]; simp) (by rw [far]; simp)
theorem tw_old2 (W w4 : World) (t0 t1 : Int) (e : TypeId) (hg : ((W.alloc (.cells #[.int .i64 t0, .int .i64 t1] 48)).alloc (.cells #[] e)).drew.grownBy w4 (some (W.heap.size + 1))) : ∀ j u, (flat [(t0, t1)])[j]? = some u → w4.cell? ((⟨W.heap.size, 0, none⟩ : Addr).add j) = some u := by
  have far : ∀ i, w4.cell? ⟨W.heap.size, i, none⟩ = ((W.alloc (.cells #[.int .i64 t0, .int .i64 t1] 48)).alloc (.cells #[] e)).cell? ⟨W.heap.size, i, none⟩ := fun i => hg.cell_far _ (by simp; omega) (by simp)
  exact tw_cells (by rw [far, World.cell?_alloc_lt _ _ _ (by simp)]; simp) (by rw [far, World.cell?_alloc_lt _ _ _ (by simp)]; simp)

/-- The row after m words. -/
def InvW (e : TypeId) (w : World) (zs : List (Int × Int)) (m : Nat) (v : Value) (wr : World) : Prop := ∃ R g c, v = .slice (some ⟨g, 0, none⟩) m c ∧ R.length = m ∧ OwnP e wr w.heap.size v R ∧ Below w.heap.size w wr ∧ St kW R (zs.take m) ∧ R.Pairwise (fun x y => kW x ≤ kW y)

set_option maxHeartbeats 2000000 in
theorem sSort_some (a : Option Addr) (cap : Nat) (zs : List (Int × Int)) (w : World) (h : Prs w a zs) (hl : zs.length ≤ 100) (hok : okTo zs zs.length) :
    Calls Try.prog 20 #[.slice a zs.length cap] w fun e w' => ∃ v R, e = .returned (.tuple #[v, .int .i64 0]) ∧ OwnP 48 w' w.heap.size v R ∧ Below w.heap.size w w' ∧ St kW R zs ∧ R.Pairwise (fun x y => kW x ≤ kW y) := by
  have H : Hid (Prs w a zs) := h
  have HO : Hid (okTo zs zs.length) := hok
  have HW : Hid (∀ x y wx, Calls Try.prog 56 #[.agg #[.int .i64 x, .int .i64 y]] wx fun e w' => e = .returned (.bool (dec (okW x y))) ∧ Grw wx w') := fun x y wx => sWord_any x y wx
  clear h hok
  obtain ⟨n, hn⟩ : ∃ n, n = zs.length := ⟨_, rfl⟩
  have HN : Hid (n = zs.length) := hn
  rw [← hn] at hl ⊢
  clear hn
  go_enter Try.func20, Try.ntmps20
  go_wp2
  go_loopw [4] (fun i wr => ∃ k : Nat, k ≤ n ∧ i = .int .i64 k ∧ Hid (Grw w wr)) (fun i _ => n - (intOf i).toNat)
  case atStart => exact ⟨0, Nat.zero_le _, rfl, Grw.refl w⟩
  case round =>
    obtain ⟨k, hk, rfl, HG⟩ := hrel
    by_cases hlt : k < n
    · obtain ⟨b, off, rfl, hb, p0, p1⟩ := H.out.cells HG.out.below (k := k) (by rw [← HN.out]; exact hlt)
      have hltz : (k : Int) < (n : Int) := by omega
      have hokk := HO.out k (by rw [← HN.out]; exact hlt)
      generalize (zs.getD k (0, 0)).1 = x0 at p0 hokk
      generalize (zs.getD k (0, 0)).2 = x1 at p1 hokk
      have HW1 : Hid (∀ wx, Calls Try.prog 56 #[.agg #[.int .i64 x0, .int .i64 x1]] wx fun e w' => e = .returned (.bool true) ∧ Grw wx w') := fun wx => by
        have := HW.out x0 x1 wx
        rw [dec_y hokk] at this
        exact this
      clear hokk
      go_wp2_with fail
      refine (HW1.out _).mono ?_
      rintro e w1 ⟨rfl, g1⟩
      have HG2 : Hid (Grw w w1) := HG.out.trans g1
      clear g1 p0 p1 HG HW1
      go_wp2
      go_roundw
      case rel => exact ⟨k + 1, by omega, by go_num, HG2⟩
      case measure => simp [intOf]; omega
    · obtain rfl : k = n := by omega
      have HK : Hid (∀ x y wx, okW x.1 x.2 → okW y.1 y.2 → Calls Try.prog 57 #[.agg #[.int .i64 x.1, .int .i64 x.2], .agg #[.int .i64 y.1, .int .i64 y.2]] wx fun e w' => e = .returned (.int .i64 (cmpW x y)) ∧ Grw wx w') := fun x y wx hx hy => sOrder_any x y hx hy wx
      have I0 : Hid (InvW 48 w zs 0 (.slice (some ⟨wr.heap.size, 0, none⟩) 0 0) (wr.alloc (.cells #[] 48))) := ⟨[], _, _, rfl, rfl, World.ownsRow_lit wr #[] 0 HG.out.below.size (Nat.zero_le _) rfl, HG.out.below.alloc HG.out.below.size _, by rw [List.take_zero]; exact St.rfl' _ _, List.Pairwise.nil⟩
      have hmix : Try.prog.follows .mixedOrders = true := by kernel_rfl
      clear hk hlt
      go_wp2
      go_loopw [5, 6] (fun v i wx => ∃ m : Nat, m ≤ k ∧ i = .int .i64 m ∧ Hid (InvW 48 w zs m v wx)) (fun _ i _ => k - (intOf i).toNat)
      case atStart => exact ⟨0, Nat.zero_le _, rfl, I0⟩
      case round =>
        clear I0 HG
        obtain ⟨m, hm, rfl, I⟩ := hrel
        by_cases hlt : m < k
        · obtain ⟨R, g, c, e5, hR, I⟩ := I.out
          subst e5
          have I : Hid (OwnP 48 wr w.heap.size (.slice (some ⟨g, 0, none⟩) m c) R ∧ Below w.heap.size w wr ∧ St kW R (zs.take m) ∧ R.Pairwise (fun x y => kW x ≤ kW y)) := I
          generalize wr = w3 at I ⊢
          obtain ⟨b, off, rfl, hb, p0, p1⟩ := H.out.cells I.out.2.1 (k := m) (by rw [← HN.out]; exact hlt)
          have hokm := HO.out m (by rw [← HN.out]; exact hlt)
          have TK0 : Hid (zs.take (m + 1) = zs.take m ++ [((zs.getD m (0, 0)).1, (zs.getD m (0, 0)).2)]) := by
            have hm1 : m < zs.length := by rw [← HN.out]; exact hlt
            rw [List.take_add_one, List.getD_eq_getElem?_getD, List.getElem?_eq_getElem hm1]
            rfl
          generalize (zs.getD m (0, 0)).1 = x0 at p0 hokm TK0
          generalize (zs.getD m (0, 0)).2 = x1 at p1 hokm TK0
          have RO : Hid (∀ j, j < R.length → okW (R.getD j (0, 0)).1 (R.getD j (0, 0)).2) := fun j hj => by
            have hm1 : R.getD j (0, 0) ∈ R := by rw [List.getD_eq_getElem?_getD, List.getElem?_eq_getElem hj]; exact List.getElem_mem hj
            have h2 := List.mem_of_mem_take ((St.mem I.out.2.2.1 _).1 hm1)
            obtain ⟨i, hi, e⟩ := List.getElem_of_mem h2
            have h3 := HO.out i hi
            rw [List.getD_eq_getElem?_getD, List.getElem?_eq_getElem hi] at h3
            rw [← e]
            exact h3
          have R3 : Hid (Prs w3 (some ⟨g, 0, none⟩) R ∧ m ≤ c ∧ w.heap.size ≤ w3.heap.size ∧ g < w3.heap.size) := by
            obtain ⟨a', cap', e1, hp, hle, _, hbb⟩ := I.out.1.slice
            cases e1
            exact ⟨hp, by omega, I.out.2.1.size, (hbb _ _ rfl).2⟩
          have hmz : (m : Int) < (k : Int) := by omega
          have OX : Hid (okW x0 x1) := hokm
          have P01 : Hid (w3.cell? ⟨b, off + m * 2, none⟩ = some (.int .i64 x0) ∧ w3.cell? ⟨b, off + m * 2 + 1, none⟩ = some (.int .i64 x1) ∧ b < w3.heap.size) := ⟨p0, p1, World.block_lt_of_cell? w3 _ p0⟩
          clear hokm p0 p1 HO HW
          go_wp2
          go_loopw [7] (fun i wx => ∃ j : Nat, j ≤ m ∧ i = .int .i64 j ∧ Hid ((∀ q, j ≤ q → q < R.length → kW (x0, x1) < kW (R.getD q (0, 0))) ∧ Grw w3 wx)) (fun i _ => (intOf i).toNat)
          case atStart => exact ⟨m, Nat.le_refl _, rfl, fun q h1 h2 => absurd h2 (by omega), Grw.refl w3⟩
          case round =>
            obtain ⟨j, hj, rfl, X⟩ := hrel
            by_cases hj0 : 0 < j
            · obtain ⟨j, rfl⟩ : ∃ i, j = i + 1 := ⟨j - 1, by omega⟩
              obtain ⟨b9, off9, e9, hb9, p2, p3⟩ := R3.out.1.cells X.out.2.below (k := j) (by omega)
              cases e9
              rw [Nat.zero_add] at p2 p3
              have p0 : wr.cell? ⟨b, off + m * 2, none⟩ = some (.int .i64 x0) := by rw [X.out.2.below.cell (by exact P01.out.2.2)]; exact P01.out.1
              have p1 : wr.cell? ⟨b, off + m * 2 + 1, none⟩ = some (.int .i64 x1) := by rw [X.out.2.below.cell (by exact P01.out.2.2)]; exact P01.out.2.1
              obtain ⟨y0, e0⟩ : ∃ y0, y0 = (R.getD j (0, 0)).1 := ⟨_, rfl⟩
              obtain ⟨y1, e1⟩ : ∃ y1, y1 = (R.getD j (0, 0)).2 := ⟨_, rfl⟩
              have e2 : R.getD j (0, 0) = (y0, y1) := Prod.ext e0.symm e1.symm
              rw [← e0] at p2
              rw [← e1] at p3
              have HC : Hid (∀ wx, Calls Try.prog 57 #[.agg #[.int .i64 y0, .int .i64 y1], .agg #[.int .i64 x0, .int .i64 x1]] wx fun e w' => e = .returned (.int .i64 (cmpW (y0, y1) (x0, x1))) ∧ Grw wx w') := fun wx => HK.out (y0, y1) (x0, x1) wx (by have := RO.out j (by omega); rw [e2] at this; exact this) OX.out
              have q0 := grown_cell P01.out.2.2 X.out.2 p0
              have q1 := grown_cell P01.out.2.2 X.out.2 p1
              have q2 := grown_cell R3.out.2.2.2 X.out.2 p2
              have q3 := grown_cell R3.out.2.2.2 X.out.2 p3
              clear p0 p1 p2 p3
              have hjz : (0 : Int) < ((j + 1 : Nat) : Int) := by omega
              have hje : ((j + 1 : Nat) : Int) - 1 = (j : Int) := by omega
              have hjm : (j : Int) < (m : Int) := by omega
              by_cases hc : kW (x0, x1) < kW (y0, y1)
              · have hq : (0 : Int) < cmpW (y0, y1) (x0, x1) := by unfold cmpW ord3; rw [if_neg (by omega), if_neg (by omega)]; decide
                have N3 : Hid (∀ q, j ≤ q → q < R.length → kW (x0, x1) < kW (R.getD q (0, 0))) := fun q h1 h2 => by
                  by_cases e : q = j
                  · subst e; rw [e2]; exact hc
                  · exact X.out.1 q (by omega) h2
                clear e0 e1 e2 hc
                generalize cmpW (y0, y1) (x0, x1) = q at HC hq
                go_wp2_with fail
                refine wp_region_quiet_grown (by assumption) (by kernel_rfl) ?_
                repeat (go_big_quiet_step (first | fail | (go_at_call 57; exact Calls.grown_of (HC.out _))))
                refine wpQuiet_nil ?_
                intro _ hw'
                obtain ⟨⟨nq, osq⟩, hw''⟩ := hw'
                subst hw''
                have HG2 : Hid (Grw w3 (grow (wr.drewN nq) osq)) := X.out.2.trans ⟨nq, osq, rfl⟩
                clear q0 q1 q2 q3 X
                go_wp2
                go_roundw
                case rel => exact ⟨j, by omega, by go_num, N3.out, HG2.out⟩
                case measure => simp [intOf]
              · have hq : ¬ (0 : Int) < cmpW (y0, y1) (x0, x1) := by unfold cmpW ord3; split <;> (try split) <;> omega
                have hqd : decide ((0 : Int) < cmpW (y0, y1) (x0, x1)) = false := decide_eq_false hq
                have EQ : Hid ((R.take (j + 1) ++ [(x0, x1)] ++ R.drop (j + 1)).Pairwise (fun x y => kW x ≤ kW y) ∧ St kW (R.take (j + 1) ++ [(x0, x1)] ++ R.drop (j + 1)) (R ++ [(x0, x1)])) := ins_key (d := (0, 0)) R (x0, x1) (j + 1) (by omega) I.out.2.2.2 X.out.1 (fun _ => by rw [Nat.add_sub_cancel, e2]; omega)
                clear e0 e1 e2 hc hq
                generalize cmpW (y0, y1) (x0, x1) = q at HC hqd
                go_wp2_with fail
                refine wp_region_quiet_grown (by assumption) (by kernel_rfl) ?_
                repeat (go_big_quiet_step (first | fail | (go_at_call 57; exact Calls.grown_of (HC.out _))))
                refine wpQuiet_nil ?_
                intro _ hw'
                obtain ⟨⟨nq, osq⟩, hw''⟩ := hw'
                subst hw''
                have HG2 : Hid (Grw w3 (grow (wr.drewN nq) osq)) := X.out.2.trans ⟨nq, osq, rfl⟩
                clear q0 q1 q2 q3 X hjz hje hjm hqd HC hj0
                generalize j + 1 = J at EQ hj ⊢
                by_cases hcJ : J = c
                · subst hcJ
                  obtain ⟨W, hW⟩ : ∃ W, W = grow (wr.drewN nq) osq := ⟨_, rfl⟩
                  have WB : Hid (Below w3.heap.size w3 W) := by rw [hW]; exact HG2.out.below
                  clear HG2
                  have SS : Hid (S6 b (off + m * 2) x0 x1 W W.drew) := (S6.start (by rw [WB.out.cell (by exact P01.out.2.2)]; exact P01.out.1) (by rw [WB.out.cell (by exact P01.out.2.2)]; exact P01.out.2.1)).below (Nat.lt_of_lt_of_le P01.out.2.2 WB.out.size) (Below.refl _ _).drew
                  have hqW : Hid (b < W.heap.size) := Nat.lt_of_lt_of_le P01.out.2.2 WB.out.size
                  have RW : Hid (Prs W (some ⟨g, 0, none⟩) R) := R3.out.1.keep WB.out
                  have BW : Hid (Below w.heap.size w W) := I.out.2.1.trans (WB.out.mono R3.out.2.2.1)
                  have TK : Hid ((R.take J).length = J ∧ (R.drop J).length = m - J) := ⟨by rw [List.length_take]; omega, by rw [List.length_drop, hR]⟩
                  have PA : Hid (∀ wx, S6 b (off + m * 2) x0 x1 W wx → ∀ j u, (flat (R.take J))[j]? = some u → wx.cell? ((⟨g, 0, none⟩ : Addr).add j) = some u) := fun wx hx j u hu => by
                    have h2 := part_cellsW (RW.out.keep hx.2.2.out) 0 J (by omega) j u (by rw [List.drop_zero]; exact hu)
                    simpa using h2
                  have PN : Hid (∀ (wx : World) (ad : Addr) j u, (flat (R.drop J))[j]? = some u → wx.cell? (ad.add j) = some u) := fun wx ad j u hu => by
                    rw [List.drop_of_length_le (by have := R3.out.2.1; omega)] at hu
                    cases hu
                  have L1 : Hid (OwnP 48 (W.alloc (.cells #[] 48)) W.heap.size (.slice (some ⟨W.heap.size, 0, none⟩) 0 0) []) := World.ownsRow_lit W #[] 0 (Nat.le_refl _) (Nat.zero_le _) rfl
                  have L2 : Hid (∀ o, OwnP 48 ((W.alloc (.cells #[] 48)).alloc o) W.heap.size (.slice (some ⟨W.heap.size, 0, none⟩) 0 0) []) := fun o => L1.out.now ((Below.refl _ _).alloc (Nat.le_refl _) o)
                  have L3 : Hid (∀ o, OwnP 48 ((W.alloc o).alloc (.cells #[] 48)) W.heap.size (.slice (some ⟨W.heap.size + 1, 0, none⟩) 0 0) []) := fun o => by
                    have := World.ownsRow_lit (base := W.heap.size) (e := 48) (size := 2) (W.alloc o) #[] 0 (by simp) (Nat.zero_le _) rfl
                    rw [World.size_alloc] at this
                    exact this
                  have SC : Hid (∀ wx o, S6 b (off + m * 2) x0 x1 W wx → S6 b (off + m * 2) x0 x1 W (wx.alloc o)) := fun wx o h => h.below hqW.out ((Below.refl _ _).alloc h.2.2.out.size o)
                  have KS : Hid (∀ wx, S6 b (off + m * 2) x0 x1 W wx → W.heap.size ≤ wx.heap.size) := fun wx h => h.2.2.out.size
                  have SA : Hid (∀ wx o, S6 b (off + m * 2) x0 x1 W wx → S6 b (off + m * 2) x0 x1 W (wx.alloc o).drew) := fun wx o h => h.alloc hqW.out o
                  have SB : Hid (∀ wx wy, Below W.heap.size wx wy → S6 b (off + m * 2) x0 x1 W wx → S6 b (off + m * 2) x0 x1 W wy) := fun wx wy hb h => h.below hqW.out hb
                  have TN : Hid (∀ X : World, ∀ j u, (flat [(x0, x1)])[j]? = some u → (X.alloc (.cells #[.int .i64 x0, .int .i64 x1] 48)).cell? ((⟨X.heap.size, 0, none⟩ : Addr).add j) = some u) := fun X => tw_new X x0 x1
                  have TO1 : Hid (∀ w4, ((W.alloc (.cells #[] 48)).alloc (.cells #[.int .i64 x0, .int .i64 x1] 48)).drew.grownBy w4 (some W.heap.size) → ∀ j u, (flat [(x0, x1)])[j]? = some u → w4.cell? ((⟨W.heap.size + 1, 0, none⟩ : Addr).add j) = some u) := fun w4 hg => tw_old1 W w4 x0 x1 _ hg
                  have TO2 : Hid (∀ w4, ((W.alloc (.cells #[.int .i64 x0, .int .i64 x1] 48)).alloc (.cells #[] 48)).drew.grownBy w4 (some (W.heap.size + 1)) → ∀ j u, (flat [(x0, x1)])[j]? = some u → w4.cell? ((⟨W.heap.size, 0, none⟩ : Addr).add j) = some u) := fun w4 hg => tw_old2 W w4 x0 x1 _ hg
                  have hk0z : (0 : Int) ≤ (J : Int) := by omega
                  have hknz : (J : Int) ≤ (m : Int) := by omega
                  have hncz : (m : Int) ≤ (J : Int) := by have := R3.out.2.1; omega
                  have hkcz : (J : Int) ≤ (J : Int) := by omega
                  go_wp2
                  rw [← hW]
                  clear hW
                  go_region_held3 (fun wx => wx.cell? ⟨b, off + m * 2, none⟩ = some (.int .i64 x0) ∧ wx.cell? ⟨b, off + m * 2 + 1, none⟩ = some (.int .i64 x1) ∧ KeptW W wx)
                    (first | exact SS.out | exact SA.out _ _ (by assumption) | exact SC.out _ _ (by assumption) | exact SB.out _ _ hB6 (by assumption) | exact SB.out _ _ hB5 (by assumption) | exact SB.out _ _ hB4 (by assumption))
                    (first
                      | (refine step_moreW _ (by rfl) (.tmp 55) (.tmp 58) (by rfl) W.heap.size _ [] (by rfl) (by first | exact L1.out | exact L2.out _ | exact L3.out _) ⟨g, 0, none⟩ J _ (R.take J) (by rfl) TK.out.1 (PA.out _ (by assumption)) (by simp; omega) (KS.out _ (by assumption)) ?_; intro v4 w4 Y4; have hB4 := Y4.out.2.1)
                      | (refine step_moreW _ (by rfl) (.tmp 59) (.tmp 64) (by rfl) W.heap.size v4 ([] ++ R.take J) (by rfl) (by first | exact Y4.out.1 | exact Y4.out.1.now ((Below.refl _ _).alloc (Nat.le_refl _) _)) _ 1 1 [(x0, x1)] (by rfl) rfl (by first | exact TN.out _ | exact TO1.out _ Y4.out.2.2 | exact TO2.out _ Y4.out.2.2) (by simp; omega) (KS.out _ (by assumption)) ?_; intro v5 w5 Y5; have hB5 := Y5.out.2.1)
                      | (refine step_moreW _ (by rfl) (.tmp 65) (.tmp 68) (by rfl) W.heap.size v5 ([] ++ R.take J ++ [(x0, x1)]) (by rfl) Y5.out.1 _ (m - J) _ (R.drop J) (by rfl) TK.out.2 (PN.out _ _) (by simp; omega) (KS.out _ (by assumption)) ?_; intro v6 w6 Y6; have hB6 := Y6.out.2.1))
                  all_goals
                    have F6 : Hid (OwnP 48 w6 W.heap.size v6 (R.take J ++ [(x0, x1)] ++ R.drop J) ∧ KeptW W w6) := ⟨Y6.out.1, (show S6 b (off + m * 2) x0 x1 W w6 by assumption).2.2⟩
                    have IF : Hid (InvW 48 w zs (m + 1) v6 w6) := by
                      have hlen6 : (R.take J ++ [(x0, x1)] ++ R.drop J).length = m + 1 := by rw [List.length_append, List.length_append, TK.out.1, TK.out.2]; simp; omega
                      obtain ⟨g6, c6, e6, _⟩ := own_someW F6.out.1 (by rw [hlen6]; omega)
                      rw [hlen6] at e6
                      refine ⟨_, g6, c6, e6, hlen6, F6.out.1.lower BW.out.size, BW.out.trans (F6.out.2.out.mono BW.out.size), ?_, EQ.out.1⟩
                      rw [TK0.out]
                      exact EQ.out.2.trans (I.out.2.2.1.append (St.rfl' _ _))
                    go_wp2
                    go_roundw
                    case rel => exact ⟨m + 1, by omega, by go_num, IF⟩
                    case measure => simp [intOf]; omega
                · have hck : (c = J) = False := by simp; omega
                  obtain ⟨W, hW⟩ : ∃ W, W = grow (wr.drewN nq) osq := ⟨_, rfl⟩
                  have WB : Hid (Below w3.heap.size w3 W) := by rw [hW]; exact HG2.out.below
                  clear HG2
                  have SS : Hid (S6 b (off + m * 2) x0 x1 W W.drew) := (S6.start (by rw [WB.out.cell (by exact P01.out.2.2)]; exact P01.out.1) (by rw [WB.out.cell (by exact P01.out.2.2)]; exact P01.out.2.1)).below (Nat.lt_of_lt_of_le P01.out.2.2 WB.out.size) (Below.refl _ _).drew
                  have hqW : Hid (b < W.heap.size) := Nat.lt_of_lt_of_le P01.out.2.2 WB.out.size
                  have RW : Hid (Prs W (some ⟨g, 0, none⟩) R) := R3.out.1.keep WB.out
                  have BW : Hid (Below w.heap.size w W) := I.out.2.1.trans (WB.out.mono R3.out.2.2.1)
                  have TK : Hid ((R.take J).length = J ∧ (R.drop J).length = m - J) := ⟨by rw [List.length_take]; omega, by rw [List.length_drop, hR]⟩
                  have PA : Hid (∀ wx, S6 b (off + m * 2) x0 x1 W wx → ∀ j u, (flat (R.take J))[j]? = some u → wx.cell? ((⟨g, 0, none⟩ : Addr).add j) = some u) := fun wx hx j u hu => by
                    have h2 := part_cellsW (RW.out.keep hx.2.2.out) 0 J (by omega) j u (by rw [List.drop_zero]; exact hu)
                    simpa using h2
                  have PD : Hid (∀ wx, S6 b (off + m * 2) x0 x1 W wx → ∀ j u, (flat (R.drop J))[j]? = some u → wx.cell? ((⟨g, J * 2, none⟩ : Addr).add j) = some u) := fun wx hx j u hu => by
                    have h2 := part_cellsW (RW.out.keep hx.2.2.out) J (m - J) (by omega) j u (by rw [List.take_of_length_le (by rw [List.length_drop, hR]; exact Nat.le_refl _)]; exact hu)
                    simpa using h2
                  have L1 : Hid (OwnP 48 (W.alloc (.cells #[] 48)) W.heap.size (.slice (some ⟨W.heap.size, 0, none⟩) 0 0) []) := World.ownsRow_lit W #[] 0 (Nat.le_refl _) (Nat.zero_le _) rfl
                  have L2 : Hid (∀ o, OwnP 48 ((W.alloc (.cells #[] 48)).alloc o) W.heap.size (.slice (some ⟨W.heap.size, 0, none⟩) 0 0) []) := fun o => L1.out.now ((Below.refl _ _).alloc (Nat.le_refl _) o)
                  have L3 : Hid (∀ o, OwnP 48 ((W.alloc o).alloc (.cells #[] 48)) W.heap.size (.slice (some ⟨W.heap.size + 1, 0, none⟩) 0 0) []) := fun o => by
                    have := World.ownsRow_lit (base := W.heap.size) (e := 48) (size := 2) (W.alloc o) #[] 0 (by simp) (Nat.zero_le _) rfl
                    rw [World.size_alloc] at this
                    exact this
                  have SC : Hid (∀ wx o, S6 b (off + m * 2) x0 x1 W wx → S6 b (off + m * 2) x0 x1 W (wx.alloc o)) := fun wx o h => h.below hqW.out ((Below.refl _ _).alloc h.2.2.out.size o)
                  have KS : Hid (∀ wx, S6 b (off + m * 2) x0 x1 W wx → W.heap.size ≤ wx.heap.size) := fun wx h => h.2.2.out.size
                  have SA : Hid (∀ wx o, S6 b (off + m * 2) x0 x1 W wx → S6 b (off + m * 2) x0 x1 W (wx.alloc o).drew) := fun wx o h => h.alloc hqW.out o
                  have SB : Hid (∀ wx wy, Below W.heap.size wx wy → S6 b (off + m * 2) x0 x1 W wx → S6 b (off + m * 2) x0 x1 W wy) := fun wx wy hb h => h.below hqW.out hb
                  have TN : Hid (∀ X : World, ∀ j u, (flat [(x0, x1)])[j]? = some u → (X.alloc (.cells #[.int .i64 x0, .int .i64 x1] 48)).cell? ((⟨X.heap.size, 0, none⟩ : Addr).add j) = some u) := fun X => tw_new X x0 x1
                  have TO1 : Hid (∀ w4, ((W.alloc (.cells #[] 48)).alloc (.cells #[.int .i64 x0, .int .i64 x1] 48)).drew.grownBy w4 (some W.heap.size) → ∀ j u, (flat [(x0, x1)])[j]? = some u → w4.cell? ((⟨W.heap.size + 1, 0, none⟩ : Addr).add j) = some u) := fun w4 hg => tw_old1 W w4 x0 x1 _ hg
                  have TO2 : Hid (∀ w4, ((W.alloc (.cells #[.int .i64 x0, .int .i64 x1] 48)).alloc (.cells #[] 48)).drew.grownBy w4 (some (W.heap.size + 1)) → ∀ j u, (flat [(x0, x1)])[j]? = some u → w4.cell? ((⟨W.heap.size, 0, none⟩ : Addr).add j) = some u) := fun w4 hg => tw_old2 W w4 x0 x1 _ hg
                  have hk0z : (0 : Int) ≤ (J : Int) := by omega
                  have hknz : (J : Int) ≤ (m : Int) := by omega
                  have hncz : (m : Int) ≤ (c : Int) := by have := R3.out.2.1; omega
                  have hkcz : (J : Int) ≤ (c : Int) := by omega
                  go_wp2
                  rw [← hW]
                  clear hW
                  go_region_held3 (fun wx => wx.cell? ⟨b, off + m * 2, none⟩ = some (.int .i64 x0) ∧ wx.cell? ⟨b, off + m * 2 + 1, none⟩ = some (.int .i64 x1) ∧ KeptW W wx)
                    (first | exact SS.out | exact SA.out _ _ (by assumption) | exact SC.out _ _ (by assumption) | exact SB.out _ _ hB6 (by assumption) | exact SB.out _ _ hB5 (by assumption) | exact SB.out _ _ hB4 (by assumption))
                    (first
                      | (refine step_moreW _ (by rfl) (.tmp 55) (.tmp 58) (by rfl) W.heap.size _ [] (by rfl) (by first | exact L1.out | exact L2.out _ | exact L3.out _) ⟨g, 0, none⟩ J _ (R.take J) (by rfl) TK.out.1 (PA.out _ (by assumption)) (by simp; omega) (KS.out _ (by assumption)) ?_; intro v4 w4 Y4; have hB4 := Y4.out.2.1)
                      | (refine step_moreW _ (by rfl) (.tmp 59) (.tmp 64) (by rfl) W.heap.size v4 ([] ++ R.take J) (by rfl) (by first | exact Y4.out.1 | exact Y4.out.1.now ((Below.refl _ _).alloc (Nat.le_refl _) _)) _ 1 1 [(x0, x1)] (by rfl) rfl (by first | exact TN.out _ | exact TO1.out _ Y4.out.2.2 | exact TO2.out _ Y4.out.2.2) (by simp; omega) (KS.out _ (by assumption)) ?_; intro v5 w5 Y5; have hB5 := Y5.out.2.1)
                      | (refine step_moreW _ (by rfl) (.tmp 65) (.tmp 68) (by rfl) W.heap.size v5 ([] ++ R.take J ++ [(x0, x1)]) (by rfl) Y5.out.1 ⟨g, J * 2, none⟩ (m - J) _ (R.drop J) (by rfl) TK.out.2 (PD.out _ (by assumption)) (by simp; omega) (KS.out _ (by assumption)) ?_; intro v6 w6 Y6; have hB6 := Y6.out.2.1))
                  all_goals
                    have F6 : Hid (OwnP 48 w6 W.heap.size v6 (R.take J ++ [(x0, x1)] ++ R.drop J) ∧ KeptW W w6) := ⟨Y6.out.1, (show S6 b (off + m * 2) x0 x1 W w6 by assumption).2.2⟩
                    have IF : Hid (InvW 48 w zs (m + 1) v6 w6) := by
                      have hlen6 : (R.take J ++ [(x0, x1)] ++ R.drop J).length = m + 1 := by rw [List.length_append, List.length_append, TK.out.1, TK.out.2]; simp; omega
                      obtain ⟨g6, c6, e6, _⟩ := own_someW F6.out.1 (by rw [hlen6]; omega)
                      rw [hlen6] at e6
                      refine ⟨_, g6, c6, e6, hlen6, F6.out.1.lower BW.out.size, BW.out.trans (F6.out.2.out.mono BW.out.size), ?_, EQ.out.1⟩
                      rw [TK0.out]
                      exact EQ.out.2.trans (I.out.2.2.1.append (St.rfl' _ _))
                    go_wp2
                    go_roundw
                    case rel => exact ⟨m + 1, by omega, by go_num, IF⟩
                    case measure => simp [intOf]; omega
            · have hj00 : j = 0 := by omega
              have hjd : decide ((0 : Int) < (j : Int)) = false := by simp; omega
              have EQ : Hid ((R.take j ++ [(x0, x1)] ++ R.drop j).Pairwise (fun x y => kW x ≤ kW y) ∧ St kW (R.take j ++ [(x0, x1)] ++ R.drop j) (R ++ [(x0, x1)])) := ins_key (d := (0, 0)) R (x0, x1) j (by omega) I.out.2.2.2 X.out.1 (fun h => absurd h hj0)
              clear hj00
              go_wp2_with fail
              refine wp_region_quiet_grown (by assumption) (by kernel_rfl) ?_
              repeat (go_big_quiet_step (first | fail | (fail)))
              refine wpQuiet_nil ?_
              intro _ hw'
              obtain ⟨⟨nq, osq⟩, hw''⟩ := hw'
              subst hw''
              have HG2 : Hid (Grw w3 (grow (wr.drewN nq) osq)) := X.out.2.trans ⟨nq, osq, rfl⟩
              clear X hjd hj0
              generalize j = J at EQ hj ⊢
              by_cases hcJ : J = c
              · subst hcJ
                obtain ⟨W, hW⟩ : ∃ W, W = grow (wr.drewN nq) osq := ⟨_, rfl⟩
                have WB : Hid (Below w3.heap.size w3 W) := by rw [hW]; exact HG2.out.below
                clear HG2
                have SS : Hid (S6 b (off + m * 2) x0 x1 W W.drew) := (S6.start (by rw [WB.out.cell (by exact P01.out.2.2)]; exact P01.out.1) (by rw [WB.out.cell (by exact P01.out.2.2)]; exact P01.out.2.1)).below (Nat.lt_of_lt_of_le P01.out.2.2 WB.out.size) (Below.refl _ _).drew
                have hqW : Hid (b < W.heap.size) := Nat.lt_of_lt_of_le P01.out.2.2 WB.out.size
                have RW : Hid (Prs W (some ⟨g, 0, none⟩) R) := R3.out.1.keep WB.out
                have BW : Hid (Below w.heap.size w W) := I.out.2.1.trans (WB.out.mono R3.out.2.2.1)
                have TK : Hid ((R.take J).length = J ∧ (R.drop J).length = m - J) := ⟨by rw [List.length_take]; omega, by rw [List.length_drop, hR]⟩
                have PA : Hid (∀ wx, S6 b (off + m * 2) x0 x1 W wx → ∀ j u, (flat (R.take J))[j]? = some u → wx.cell? ((⟨g, 0, none⟩ : Addr).add j) = some u) := fun wx hx j u hu => by
                  have h2 := part_cellsW (RW.out.keep hx.2.2.out) 0 J (by omega) j u (by rw [List.drop_zero]; exact hu)
                  simpa using h2
                have PN : Hid (∀ (wx : World) (ad : Addr) j u, (flat (R.drop J))[j]? = some u → wx.cell? (ad.add j) = some u) := fun wx ad j u hu => by
                  rw [List.drop_of_length_le (by have := R3.out.2.1; omega)] at hu
                  cases hu
                have L1 : Hid (OwnP 48 (W.alloc (.cells #[] 48)) W.heap.size (.slice (some ⟨W.heap.size, 0, none⟩) 0 0) []) := World.ownsRow_lit W #[] 0 (Nat.le_refl _) (Nat.zero_le _) rfl
                have L2 : Hid (∀ o, OwnP 48 ((W.alloc (.cells #[] 48)).alloc o) W.heap.size (.slice (some ⟨W.heap.size, 0, none⟩) 0 0) []) := fun o => L1.out.now ((Below.refl _ _).alloc (Nat.le_refl _) o)
                have L3 : Hid (∀ o, OwnP 48 ((W.alloc o).alloc (.cells #[] 48)) W.heap.size (.slice (some ⟨W.heap.size + 1, 0, none⟩) 0 0) []) := fun o => by
                  have := World.ownsRow_lit (base := W.heap.size) (e := 48) (size := 2) (W.alloc o) #[] 0 (by simp) (Nat.zero_le _) rfl
                  rw [World.size_alloc] at this
                  exact this
                have SC : Hid (∀ wx o, S6 b (off + m * 2) x0 x1 W wx → S6 b (off + m * 2) x0 x1 W (wx.alloc o)) := fun wx o h => h.below hqW.out ((Below.refl _ _).alloc h.2.2.out.size o)
                have KS : Hid (∀ wx, S6 b (off + m * 2) x0 x1 W wx → W.heap.size ≤ wx.heap.size) := fun wx h => h.2.2.out.size
                have SA : Hid (∀ wx o, S6 b (off + m * 2) x0 x1 W wx → S6 b (off + m * 2) x0 x1 W (wx.alloc o).drew) := fun wx o h => h.alloc hqW.out o
                have SB : Hid (∀ wx wy, Below W.heap.size wx wy → S6 b (off + m * 2) x0 x1 W wx → S6 b (off + m * 2) x0 x1 W wy) := fun wx wy hb h => h.below hqW.out hb
                have TN : Hid (∀ X : World, ∀ j u, (flat [(x0, x1)])[j]? = some u → (X.alloc (.cells #[.int .i64 x0, .int .i64 x1] 48)).cell? ((⟨X.heap.size, 0, none⟩ : Addr).add j) = some u) := fun X => tw_new X x0 x1
                have TO1 : Hid (∀ w4, ((W.alloc (.cells #[] 48)).alloc (.cells #[.int .i64 x0, .int .i64 x1] 48)).drew.grownBy w4 (some W.heap.size) → ∀ j u, (flat [(x0, x1)])[j]? = some u → w4.cell? ((⟨W.heap.size + 1, 0, none⟩ : Addr).add j) = some u) := fun w4 hg => tw_old1 W w4 x0 x1 _ hg
                have TO2 : Hid (∀ w4, ((W.alloc (.cells #[.int .i64 x0, .int .i64 x1] 48)).alloc (.cells #[] 48)).drew.grownBy w4 (some (W.heap.size + 1)) → ∀ j u, (flat [(x0, x1)])[j]? = some u → w4.cell? ((⟨W.heap.size, 0, none⟩ : Addr).add j) = some u) := fun w4 hg => tw_old2 W w4 x0 x1 _ hg
                have hk0z : (0 : Int) ≤ (J : Int) := by omega
                have hknz : (J : Int) ≤ (m : Int) := by omega
                have hncz : (m : Int) ≤ (J : Int) := by have := R3.out.2.1; omega
                have hkcz : (J : Int) ≤ (J : Int) := by omega
                go_wp2
                rw [← hW]
                clear hW
                go_region_held3 (fun wx => wx.cell? ⟨b, off + m * 2, none⟩ = some (.int .i64 x0) ∧ wx.cell? ⟨b, off + m * 2 + 1, none⟩ = some (.int .i64 x1) ∧ KeptW W wx)
                  (first | exact SS.out | exact SA.out _ _ (by assumption) | exact SC.out _ _ (by assumption) | exact SB.out _ _ hB6 (by assumption) | exact SB.out _ _ hB5 (by assumption) | exact SB.out _ _ hB4 (by assumption))
                  (first
                    | (refine step_moreW _ (by rfl) (.tmp 55) (.tmp 58) (by rfl) W.heap.size _ [] (by rfl) (by first | exact L1.out | exact L2.out _ | exact L3.out _) ⟨g, 0, none⟩ J _ (R.take J) (by rfl) TK.out.1 (PA.out _ (by assumption)) (by simp; omega) (KS.out _ (by assumption)) ?_; intro v4 w4 Y4; have hB4 := Y4.out.2.1)
                    | (refine step_moreW _ (by rfl) (.tmp 59) (.tmp 64) (by rfl) W.heap.size v4 ([] ++ R.take J) (by rfl) (by first | exact Y4.out.1 | exact Y4.out.1.now ((Below.refl _ _).alloc (Nat.le_refl _) _)) _ 1 1 [(x0, x1)] (by rfl) rfl (by first | exact TN.out _ | exact TO1.out _ Y4.out.2.2 | exact TO2.out _ Y4.out.2.2) (by simp; omega) (KS.out _ (by assumption)) ?_; intro v5 w5 Y5; have hB5 := Y5.out.2.1)
                    | (refine step_moreW _ (by rfl) (.tmp 65) (.tmp 68) (by rfl) W.heap.size v5 ([] ++ R.take J ++ [(x0, x1)]) (by rfl) Y5.out.1 _ (m - J) _ (R.drop J) (by rfl) TK.out.2 (PN.out _ _) (by simp; omega) (KS.out _ (by assumption)) ?_; intro v6 w6 Y6; have hB6 := Y6.out.2.1))
                all_goals
                  have F6 : Hid (OwnP 48 w6 W.heap.size v6 (R.take J ++ [(x0, x1)] ++ R.drop J) ∧ KeptW W w6) := ⟨Y6.out.1, (show S6 b (off + m * 2) x0 x1 W w6 by assumption).2.2⟩
                  have IF : Hid (InvW 48 w zs (m + 1) v6 w6) := by
                    have hlen6 : (R.take J ++ [(x0, x1)] ++ R.drop J).length = m + 1 := by rw [List.length_append, List.length_append, TK.out.1, TK.out.2]; simp; omega
                    obtain ⟨g6, c6, e6, _⟩ := own_someW F6.out.1 (by rw [hlen6]; omega)
                    rw [hlen6] at e6
                    refine ⟨_, g6, c6, e6, hlen6, F6.out.1.lower BW.out.size, BW.out.trans (F6.out.2.out.mono BW.out.size), ?_, EQ.out.1⟩
                    rw [TK0.out]
                    exact EQ.out.2.trans (I.out.2.2.1.append (St.rfl' _ _))
                  go_wp2
                  go_roundw
                  case rel => exact ⟨m + 1, by omega, by go_num, IF⟩
                  case measure => simp [intOf]; omega
              · have hck : (c = J) = False := by simp; omega
                obtain ⟨W, hW⟩ : ∃ W, W = grow (wr.drewN nq) osq := ⟨_, rfl⟩
                have WB : Hid (Below w3.heap.size w3 W) := by rw [hW]; exact HG2.out.below
                clear HG2
                have SS : Hid (S6 b (off + m * 2) x0 x1 W W.drew) := (S6.start (by rw [WB.out.cell (by exact P01.out.2.2)]; exact P01.out.1) (by rw [WB.out.cell (by exact P01.out.2.2)]; exact P01.out.2.1)).below (Nat.lt_of_lt_of_le P01.out.2.2 WB.out.size) (Below.refl _ _).drew
                have hqW : Hid (b < W.heap.size) := Nat.lt_of_lt_of_le P01.out.2.2 WB.out.size
                have RW : Hid (Prs W (some ⟨g, 0, none⟩) R) := R3.out.1.keep WB.out
                have BW : Hid (Below w.heap.size w W) := I.out.2.1.trans (WB.out.mono R3.out.2.2.1)
                have TK : Hid ((R.take J).length = J ∧ (R.drop J).length = m - J) := ⟨by rw [List.length_take]; omega, by rw [List.length_drop, hR]⟩
                have PA : Hid (∀ wx, S6 b (off + m * 2) x0 x1 W wx → ∀ j u, (flat (R.take J))[j]? = some u → wx.cell? ((⟨g, 0, none⟩ : Addr).add j) = some u) := fun wx hx j u hu => by
                  have h2 := part_cellsW (RW.out.keep hx.2.2.out) 0 J (by omega) j u (by rw [List.drop_zero]; exact hu)
                  simpa using h2
                have PD : Hid (∀ wx, S6 b (off + m * 2) x0 x1 W wx → ∀ j u, (flat (R.drop J))[j]? = some u → wx.cell? ((⟨g, J * 2, none⟩ : Addr).add j) = some u) := fun wx hx j u hu => by
                  have h2 := part_cellsW (RW.out.keep hx.2.2.out) J (m - J) (by omega) j u (by rw [List.take_of_length_le (by rw [List.length_drop, hR]; exact Nat.le_refl _)]; exact hu)
                  simpa using h2
                have L1 : Hid (OwnP 48 (W.alloc (.cells #[] 48)) W.heap.size (.slice (some ⟨W.heap.size, 0, none⟩) 0 0) []) := World.ownsRow_lit W #[] 0 (Nat.le_refl _) (Nat.zero_le _) rfl
                have L2 : Hid (∀ o, OwnP 48 ((W.alloc (.cells #[] 48)).alloc o) W.heap.size (.slice (some ⟨W.heap.size, 0, none⟩) 0 0) []) := fun o => L1.out.now ((Below.refl _ _).alloc (Nat.le_refl _) o)
                have L3 : Hid (∀ o, OwnP 48 ((W.alloc o).alloc (.cells #[] 48)) W.heap.size (.slice (some ⟨W.heap.size + 1, 0, none⟩) 0 0) []) := fun o => by
                  have := World.ownsRow_lit (base := W.heap.size) (e := 48) (size := 2) (W.alloc o) #[] 0 (by simp) (Nat.zero_le _) rfl
                  rw [World.size_alloc] at this
                  exact this
                have SC : Hid (∀ wx o, S6 b (off + m * 2) x0 x1 W wx → S6 b (off + m * 2) x0 x1 W (wx.alloc o)) := fun wx o h => h.below hqW.out ((Below.refl _ _).alloc h.2.2.out.size o)
                have KS : Hid (∀ wx, S6 b (off + m * 2) x0 x1 W wx → W.heap.size ≤ wx.heap.size) := fun wx h => h.2.2.out.size
                have SA : Hid (∀ wx o, S6 b (off + m * 2) x0 x1 W wx → S6 b (off + m * 2) x0 x1 W (wx.alloc o).drew) := fun wx o h => h.alloc hqW.out o
                have SB : Hid (∀ wx wy, Below W.heap.size wx wy → S6 b (off + m * 2) x0 x1 W wx → S6 b (off + m * 2) x0 x1 W wy) := fun wx wy hb h => h.below hqW.out hb
                have TN : Hid (∀ X : World, ∀ j u, (flat [(x0, x1)])[j]? = some u → (X.alloc (.cells #[.int .i64 x0, .int .i64 x1] 48)).cell? ((⟨X.heap.size, 0, none⟩ : Addr).add j) = some u) := fun X => tw_new X x0 x1
                have TO1 : Hid (∀ w4, ((W.alloc (.cells #[] 48)).alloc (.cells #[.int .i64 x0, .int .i64 x1] 48)).drew.grownBy w4 (some W.heap.size) → ∀ j u, (flat [(x0, x1)])[j]? = some u → w4.cell? ((⟨W.heap.size + 1, 0, none⟩ : Addr).add j) = some u) := fun w4 hg => tw_old1 W w4 x0 x1 _ hg
                have TO2 : Hid (∀ w4, ((W.alloc (.cells #[.int .i64 x0, .int .i64 x1] 48)).alloc (.cells #[] 48)).drew.grownBy w4 (some (W.heap.size + 1)) → ∀ j u, (flat [(x0, x1)])[j]? = some u → w4.cell? ((⟨W.heap.size, 0, none⟩ : Addr).add j) = some u) := fun w4 hg => tw_old2 W w4 x0 x1 _ hg
                have hk0z : (0 : Int) ≤ (J : Int) := by omega
                have hknz : (J : Int) ≤ (m : Int) := by omega
                have hncz : (m : Int) ≤ (c : Int) := by have := R3.out.2.1; omega
                have hkcz : (J : Int) ≤ (c : Int) := by omega
                go_wp2
                rw [← hW]
                clear hW
                go_region_held3 (fun wx => wx.cell? ⟨b, off + m * 2, none⟩ = some (.int .i64 x0) ∧ wx.cell? ⟨b, off + m * 2 + 1, none⟩ = some (.int .i64 x1) ∧ KeptW W wx)
                  (first | exact SS.out | exact SA.out _ _ (by assumption) | exact SC.out _ _ (by assumption) | exact SB.out _ _ hB6 (by assumption) | exact SB.out _ _ hB5 (by assumption) | exact SB.out _ _ hB4 (by assumption))
                  (first
                    | (refine step_moreW _ (by rfl) (.tmp 55) (.tmp 58) (by rfl) W.heap.size _ [] (by rfl) (by first | exact L1.out | exact L2.out _ | exact L3.out _) ⟨g, 0, none⟩ J _ (R.take J) (by rfl) TK.out.1 (PA.out _ (by assumption)) (by simp; omega) (KS.out _ (by assumption)) ?_; intro v4 w4 Y4; have hB4 := Y4.out.2.1)
                    | (refine step_moreW _ (by rfl) (.tmp 59) (.tmp 64) (by rfl) W.heap.size v4 ([] ++ R.take J) (by rfl) (by first | exact Y4.out.1 | exact Y4.out.1.now ((Below.refl _ _).alloc (Nat.le_refl _) _)) _ 1 1 [(x0, x1)] (by rfl) rfl (by first | exact TN.out _ | exact TO1.out _ Y4.out.2.2 | exact TO2.out _ Y4.out.2.2) (by simp; omega) (KS.out _ (by assumption)) ?_; intro v5 w5 Y5; have hB5 := Y5.out.2.1)
                    | (refine step_moreW _ (by rfl) (.tmp 65) (.tmp 68) (by rfl) W.heap.size v5 ([] ++ R.take J ++ [(x0, x1)]) (by rfl) Y5.out.1 ⟨g, J * 2, none⟩ (m - J) _ (R.drop J) (by rfl) TK.out.2 (PD.out _ (by assumption)) (by simp; omega) (KS.out _ (by assumption)) ?_; intro v6 w6 Y6; have hB6 := Y6.out.2.1))
                all_goals
                  have F6 : Hid (OwnP 48 w6 W.heap.size v6 (R.take J ++ [(x0, x1)] ++ R.drop J) ∧ KeptW W w6) := ⟨Y6.out.1, (show S6 b (off + m * 2) x0 x1 W w6 by assumption).2.2⟩
                  have IF : Hid (InvW 48 w zs (m + 1) v6 w6) := by
                    have hlen6 : (R.take J ++ [(x0, x1)] ++ R.drop J).length = m + 1 := by rw [List.length_append, List.length_append, TK.out.1, TK.out.2]; simp; omega
                    obtain ⟨g6, c6, e6, _⟩ := own_someW F6.out.1 (by rw [hlen6]; omega)
                    rw [hlen6] at e6
                    refine ⟨_, g6, c6, e6, hlen6, F6.out.1.lower BW.out.size, BW.out.trans (F6.out.2.out.mono BW.out.size), ?_, EQ.out.1⟩
                    rw [TK0.out]
                    exact EQ.out.2.trans (I.out.2.2.1.append (St.rfl' _ _))
                  go_wp2
                  go_roundw
                  case rel => exact ⟨m + 1, by omega, by go_num, IF⟩
                  case measure => simp [intOf]; omega
        · obtain rfl : m = k := by omega
          have I2 : Hid (∃ R, OwnP 48 wr w.heap.size u5 R ∧ Below w.heap.size w wr ∧ St kW R zs ∧ R.Pairwise (fun x y => kW x ≤ kW y)) := by
            obtain ⟨R, g, c, e5, hR, I⟩ := I.out
            rw [List.take_of_length_le (by rw [← HN.out]; exact Nat.le_refl _)] at I
            exact ⟨R, I⟩
          clear I
          go_wp2
          go_ret2
          obtain ⟨R, I2⟩ := I2.out
          exact ⟨_, R, rfl, I2.1, I2.2.1, I2.2.2.1, I2.2.2.2⟩
end Go.Proofs.Ytfcdobicilediaa
