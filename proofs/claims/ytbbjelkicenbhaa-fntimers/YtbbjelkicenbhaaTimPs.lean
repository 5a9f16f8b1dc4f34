/- TimerPut, the model's. -/
import Derived.Test.YtbbjelkicenbhaaTimPi
import Derived.Deep.AppendLies
import Derived.Deep.RegionHeld3
namespace Go.Proofs.Ytbbjelkicenbhaa
open Go.RowKit Go.PlainAid Go.Sort
set_option linter.unusedVariables false
set_option maxRecDepth 20000

theorem one_prs (w : World) (t0 t1 : Int) (g : Nat) (h0 : w.cell? ⟨g, 0, none⟩ = some (.int .i64 t0)) (h1 : w.cell? ⟨g, 1, none⟩ = some (.int .i64 t1)) : Prs w (some ⟨g, 0, none⟩) [(t0, t1)] := by
  intro _
  refine ⟨g, 0, rfl, World.block_lt_of_cell? w _ h0, fun i hi => ?_⟩
  have : i = 0 := by simpa using hi
  subst this
  exact ⟨h0, h1⟩

set_option maxHeartbeats 2000000 in
theorem l05Drop_some (a : Option Addr) (len cap : Nat) (zs : List (Int × Int)) (id : Int) (w : World) (h : Prs w a zs) (hl : zs.length = len) (hc : len ≤ 4096) :
    Calls Try.prog 52 #[.slice a len cap, .int .i64 id] w fun e w' => ∃ g c, e = .returned (.slice (some ⟨g, 0, none⟩) (wo zs id len).length c) ∧ OwnP 44 w' w.heap.size (.slice (some ⟨g, 0, none⟩) (wo zs id len).length c) (wo zs id len) ∧ Below w.heap.size w w' := by
  have H : Hid (Prs w a zs) := h
  clear h
  have O0 : Hid (OwnP 44 (w.alloc (.cells #[] 44)) w.heap.size (.slice (some ⟨w.heap.size, 0, none⟩) 0 0) [] ∧ Below w.heap.size w (w.alloc (.cells #[] 44))) :=
    ⟨World.ownsRow_lit w #[] 0 (Nat.le_refl _) (Nat.zero_le _) rfl, (Below.refl _ _).alloc (Nat.le_refl _) _⟩
  go_enter Try.func52, Try.ntmps52
  go_wp2
  go_loopw [5, 6] (fun v i wr => ∃ k : Nat, k ≤ len ∧ i = .int .i64 k ∧ Hid (OwnP 44 wr w.heap.size v (wo zs id k) ∧ Below w.heap.size w wr ∧ ∃ g c, v = .slice (some ⟨g, 0, none⟩) (wo zs id k).length c)) (fun _ i _ => len - (intOf i).toNat)
  case atStart => exact ⟨0, Nat.zero_le _, rfl, O0.out.1, O0.out.2, _, _, rfl⟩
  case round =>
    obtain ⟨k, hk, rfl, X⟩ := hrel
    by_cases hlt : k < len
    · obtain ⟨b, off, rfl, hb, p0, p1⟩ := H.out.cells X.out.2.1 (k := k) (by omega)
      have hltz : (k : Int) < (len : Int) := by omega
      by_cases he : (zs.getD k (0, 0)).2 = id
      · have X2 : Hid (OwnP 44 wr w.heap.size u5 (wo zs id (k + 1)) ∧ Below w.heap.size w wr ∧ ∃ g c, u5 = .slice (some ⟨g, 0, none⟩) (wo zs id (k + 1)).length c) := by rw [wo_drop (by omega) he]; exact X
        have hq : ((zs.getD k (0, 0)).2 != id) = false := by simpa using he
        generalize (zs.getD k (0, 0)).1 = x0 at p0
        generalize (zs.getD k (0, 0)).2 = x1 at p1 hq
        clear he X
        go_wp2
        go_roundw
        case rel => exact ⟨k + 1, by omega, by go_num, X2⟩
        case measure => simp [intOf]; omega
      · have WK : Hid (wo zs id (k + 1) = wo zs id k ++ [((zs.getD k (0, 0)).1, (zs.getD k (0, 0)).2)]) := wo_keep (by omega) he
        have hq : ((zs.getD k (0, 0)).2 != id) = true := by simpa using he
        have hwl : Hid ((wo zs id k).length ≤ 5000) := Nat.le_trans (wo_len zs id k) (by omega)
        generalize (zs.getD k (0, 0)).1 = x0 at p0 WK
        generalize (zs.getD k (0, 0)).2 = x1 at p1 hq WK
        have XA : Hid (OwnP 44 (wr.alloc (.cells #[.int .i64 x0, .int .i64 x1] 44)) w.heap.size u5 (wo zs id k) ∧ Below w.heap.size w (wr.alloc (.cells #[.int .i64 x0, .int .i64 x1] 44))) := ⟨X.out.1.now ((Below.refl _ _).alloc (Nat.le_refl _) _), X.out.2.1.alloc X.out.2.1.size _⟩
        clear he X
        go_wp2_with (at_builtin; refine wpl_pair _ rfl (.tmp 21) (.tmp 26) rfl w.heap.size u5 _ rfl XA.out.1 wr.heap.size 1 x0 x1 rfl (by simp) (by simp) hwl.out XA.out.2.size ?_; intro v' w3 Y)
        have Y1 : OwnP 44 w3 w.heap.size v' (wo zs id (k + 1)) := by rw [WK.out]; exact Y.out.1
        have Y2 : Hid (OwnP 44 w3 w.heap.size v' (wo zs id (k + 1)) ∧ Below w.heap.size w w3 ∧ ∃ g c, v' = .slice (some ⟨g, 0, none⟩) (wo zs id (k + 1)).length c) := ⟨Y1, XA.out.2.trans Y.out.2, by obtain ⟨g, c, e, _⟩ := own_some Y1 (by rw [WK.out]; simp); exact ⟨g, c, e⟩⟩
        clear Y1
        clear Y XA WK p0 p1
        go_roundw
        case rel => exact ⟨k + 1, by omega, by go_num, Y2⟩
        case measure => simp [intOf]; omega
    · obtain rfl : k = len := by omega
      go_wp2
      go_ret
      obtain ⟨g, c, e⟩ := X.out.2.2
      exact ⟨g, c, by rw [← e]; rfl, by rw [← e]; exact X.out.1, X.out.2.1⟩

/-- An append in a region that draws its order. -/
theorem step_more (w : World) {ops : Array Oper} {o : Oper} {a : Act} {K : Act → World → Prop} {Q : Exit → Act → World → Prop} {E : Prop} (hgd : o.guard = none) (s x : Operand)
    (ho : o.op = .call { callee := .builtin .append, args := #[s, x], argTypes := #[41, 41] })
    (B : Nat) (v : Value) (L : List (Int × Int)) (hs : a.eval s = v) (hown : OwnP 44 w B v L)
    (ad : Addr) (m c : Nat) (M : List (Int × Int)) (hx : a.eval x = .slice (some ad) m c) (hM : M.length = m) (hn : ∀ j u, (flat M)[j]? = some u → w.cell? (ad.add j) = some u)
    (hlen : L.length + m ≤ 5000) (hB : B ≤ w.heap.size)
    (h : ∀ v' w', Hid (OwnP 44 w' B v' (L ++ M) ∧ Below B w w' ∧ w.grownBy w' v.ownBlock) → K (a.put o.dst v') w') :
    if Region.wanted o (yielded ops a.tmps) = true then Oper.wp Try.prog o a w K Q else E := by
  have hw : Region.wanted o (yielded ops a.tmps) = true := by simp [Region.wanted, hgd]
  rw [if_pos hw]
  obtain ⟨i0, hi, hz0, hz1, hz2⟩ := info_parts timerInfo
  refine wp_append_own w s x 41 ho B 44 i0 (.agg #[.int .i64 0, .int .i64 0]) 2 16 Try.underlying41 hi hz0 hz1 hz2 rfl (by decide) v L.length (flat L) hs hown ad m c (flat M) hx (by rw [flat_len, hM]) hn
    (flat_one M) (by unfold maxLen; omega) (by omega) hB ?_
  intro v' w' h2 h3 _
  refine h v' w' ⟨?_, (Below.refl B w).grown h3 hB (fun k hk => (World.ownsRow.lt hown k hk).1), h3⟩
  unfold OwnP
  rw [flat_append, List.length_append, hM]
  exact h2

structure KeptB (W wx : World) : Prop where
  out : Below W.heap.size W wx
theorem drop_not {R : List (Int × Int)} {t : Int × Int} {k : Nat} (hR : R.Pairwise ltT) (h : k < R.length → ¬ ltT (R.getD k (0, 0)) t) : ∀ x ∈ R.drop k, ¬ ltT x t := by
  intro x hx hlt
  obtain ⟨i, hi, rfl⟩ := List.getElem_of_mem hx
  rw [List.length_drop] at hi
  rw [List.getElem_drop] at hlt
  have hk := h (by omega)
  rw [List.getD_eq_getElem?_getD, List.getElem?_eq_getElem (by omega)] at hk
  rcases Nat.eq_zero_or_pos i with h0 | h0
  · subst h0
    exact hk hlt
  · have := (List.pairwise_iff_getElem.1 hR) k (k + i) (by omega) (by omega) (by omega)
    exact hk (ltT_trans this hlt)
theorem take_lt {R : List (Int × Int)} {t : Int × Int} {k : Nat} (hk : k ≤ R.length) (h : ∀ i, i < k → ltT (R.getD i (0, 0)) t) : ∀ x ∈ R.take k, ltT x t := by
  intro x hx
  obtain ⟨i, hi, rfl⟩ := List.getElem_of_mem hx
  rw [List.length_take] at hi
  have := h i (by omega)
  rw [List.getD_eq_getElem?_getD, List.getElem?_eq_getElem (by omega)] at this
  rw [List.getElem_take]
  exact this
/-- What stands through the last region. -/
def S5 (q : Nat) (t0 t1 : Int) (W wx : World) : Prop := wx.cell? ⟨q, 0, none⟩ = some (.int .i64 t0) ∧ wx.cell? ⟨q, 1, none⟩ = some (.int .i64 t1) ∧ KeptB W wx
theorem S5.start {q : Nat} {t0 t1 : Int} {W : World} (h0 : W.cell? ⟨q, 0, none⟩ = some (.int .i64 t0)) (h1 : W.cell? ⟨q, 1, none⟩ = some (.int .i64 t1)) : S5 q t0 t1 W W := ⟨h0, h1, ⟨Below.refl _ _⟩⟩
theorem S5.below {q : Nat} {t0 t1 : Int} {W wx wy : World} (h : S5 q t0 t1 W wx) (hq : q < W.heap.size) (hb : Below W.heap.size wx wy) : S5 q t0 t1 W wy :=
  ⟨by rw [hb.cell (p := ⟨q, 0, none⟩) hq]; exact h.1, by rw [hb.cell (p := ⟨q, 1, none⟩) hq]; exact h.2.1, ⟨h.2.2.out.trans hb⟩⟩
theorem S5.alloc {q : Nat} {t0 t1 : Int} {W wx : World} (h : S5 q t0 t1 W wx) (hq : q < W.heap.size) (o : Obj) : S5 q t0 t1 W (wx.alloc o).drew :=
  h.below hq ((Below.refl _ _).alloc h.2.2.out.size o).drew

theorem t_cells {w : World} {t0 t1 : Int} {g : Nat} (h0 : w.cell? ⟨g, 0, none⟩ = some (.int .i64 t0)) (h1 : w.cell? ⟨g, 1, none⟩ = some (.int .i64 t1)) : ∀ j u, (flat [(t0, t1)])[j]? = some u → w.cell? ((⟨g, 0, none⟩ : Addr).add j) = some u := by
  intro j u hu
  rw [add_none, Nat.zero_add]
  match j, hu with
  | 0, hu => cases hu; exact h0
  | 1, hu => cases hu; exact h1
theorem t_new (X : World) (t0 t1 : Int) : ∀ j u, (flat [(t0, t1)])[j]? = some u → (X.alloc (.cells #[.int .i64 t0, .int .i64 t1] 44)).cell? ((⟨X.heap.size, 0, none⟩ : Addr).add j) = some u := t_cells (by simp) (by simp)
theorem t_old1 (W w4 : World) (t0 t1 : Int) (e : TypeId) (hg : ((W.alloc (.cells #[] e)).alloc (.cells #[.int .i64 t0, .int .i64 t1] 44)).drew.grownBy w4 (some W.heap.size)) : ∀ j u, (flat [(t0, t1)])[j]? = some u → w4.cell? ((⟨W.heap.size + 1, 0, none⟩ : Addr).add j) = some u := by
  have far : ∀ i, w4.cell? ⟨W.heap.size + 1, i, none⟩ = ((W.alloc (.cells #[] e)).alloc (.cells #[.int .i64 t0, .int .i64 t1] 44)).cell? ⟨W.heap.size + 1, i, none⟩ := fun i => hg.cell_far _ (by simp) (by simp)
  exact t_cells (by rw [far]; simp) (by rw [far]; simp)
theorem t_old2 (W w4 : World) (t0 t1 : Int) (e : TypeId) (hg : ((W.alloc (.cells #[.int .i64 t0, .int .i64 t1] 44)).alloc (.cells #[] e)).drew.grownBy w4 (some (W.heap.size + 1))) : ∀ j u, (flat [(t0, t1)])[j]? = some u → w4.cell? ((⟨W.heap.size, 0, none⟩ : Addr).add j) = some u := by
  have far : ∀ i, w4.cell? ⟨W.heap.size, i, none⟩ = ((W.alloc (.cells #[.int .i64 t0, .int .i64 t1] 44)).alloc (.cells #[] e)).cell? ⟨W.heap.size, i, none⟩ := fun i => hg.cell_far _ (by simp; omega) (by simp)
  exact t_cells (by rw [far, World.cell?_alloc_lt _ _ _ (by simp)]; simp) (by rw [far, World.cell?_alloc_lt _ _ _ (by simp)]; simp)

set_option maxHeartbeats 2000000 in
theorem specPut_any (a : Option Addr) (len cap : Nat) (zs : List (Int × Int)) (t0 t1 : Int) (w : World) (h : Prs w a zs) (hl : zs.length = len) (hlm : len ≤ 1048576) :
    Calls Try.prog 19 #[.slice a len cap, .agg #[.int .i64 t0, .int .i64 t1]] w fun e w' => ∃ v, e = .returned (.tuple #[v, .int .i64 (tpC zs (t0, t1))]) ∧ OwnP 44 w' w.heap.size v (tpL zs (t0, t1)) ∧ Below w.heap.size w w' := by
  subst hl
  by_cases hbig : 4096 < zs.length
  · have eC : tpC zs (t0, t1) = 2 := if_pos hbig
    have eL : tpL zs (t0, t1) = [] := if_pos hbig
    rw [eC, eL]
    clear eC eL
    generalize zs.length = len at *
    go_enter Try.func19, Try.ntmps19
    go_wp2
    go_ret2
    exact ⟨_, rfl, by have := World.ownsRow_lit (base := w.heap.size) (e := 44) (size := 2) (w.alloc (.cells #[.int .i64 t0, .int .i64 t1] 44)) #[] 0 (by simp) (Nat.zero_le _) rfl; rw [World.size_alloc] at this; exact this, ((Below.refl _ _).alloc (Nat.le_refl _) _).alloc (by simp) _⟩
  have HN : Hid (∀ w, Prs w a zs → Calls Try.prog 51 #[.slice a zs.length cap] w fun e w' => e = .returned (.bool (tmB zs)) ∧ Grw w w') := fun w h => l05Timers_any a zs.length cap zs w h rfl (by omega)
  have HO : Hid (∀ w g, w.cell? ⟨g, 0, none⟩ = some (.int .i64 t0) → w.cell? ⟨g, 1, none⟩ = some (.int .i64 t1) → Calls Try.prog 51 #[.slice (some ⟨g, 0, none⟩) 1 1] w fun e w' => e = .returned (.bool (dec (okT (t0, t1)))) ∧ Grw w w') := fun w g h0 h1 => by rw [← tmB_one]; exact l05Timers_any _ 1 1 [(t0, t1)] w (one_prs w t0 t1 g h0 h1) rfl (by omega)
  have HD : Hid (∀ w, Prs w a zs → Calls Try.prog 52 #[.slice a zs.length cap, .int .i64 t1] w fun e w' => ∃ g c, e = .returned (.slice (some ⟨g, 0, none⟩) (wo zs t1 zs.length).length c) ∧ OwnP 44 w' w.heap.size (.slice (some ⟨g, 0, none⟩) (wo zs t1 zs.length).length c) (wo zs t1 zs.length) ∧ Below w.heap.size w w') := fun w h => l05Drop_some a zs.length cap zs t1 w h rfl (by omega)
  have H : Hid (Prs w a zs) := h
  have hmix : Try.prog.follows .mixedOrders = true := by kernel_rfl
  clear h
  have B0 : Hid (∀ o, Below w.heap.size w (w.alloc o)) := fun o => (Below.refl _ _).alloc (Nat.le_refl _) o
  cases hq : tmB zs with
  | false =>
    rw [hq] at HN
    have eC : tpC zs (t0, t1) = 1 := by unfold tpC; rw [if_neg hbig, if_pos hq]
    have eL : tpL zs (t0, t1) = [] := by unfold tpL; rw [if_neg hbig, if_pos hq]
    rw [eC, eL]
    clear eC eL hq
    generalize zs.length = len at *
    go_enter Try.func19, Try.ntmps19
    go_wp2_with fail
    refine (HN.out _ (H.out.keep (B0.out _))).mono ?_
    rintro e w1 ⟨rfl, g1⟩
    have b1 := g1.below
    have k0 : w1.cell? ⟨w.heap.size, 0, none⟩ = some (.int .i64 t0) := by rw [b1.cell (by simp)]; simp
    have k1 : w1.cell? ⟨w.heap.size, 1, none⟩ = some (.int .i64 t1) := by rw [b1.cell (by simp)]; simp
    have B1 : Hid (Below w.heap.size w w1 ∧ w.heap.size < w1.heap.size) := ⟨(B0.out _).trans (b1.mono (by simp)), World.block_lt_of_cell? w1 _ k0⟩
    clear b1 g1
    go_wp2
    go_ret2
    exact ⟨_, rfl, World.ownsRow_lit w1 #[] 0 B1.out.1.size (Nat.zero_le _) rfl, B1.out.1.alloc B1.out.1.size _⟩
  | true =>
    rw [hq] at HN
    cases hr : dec (okT (t0, t1)) with
    | false =>
      rw [hr] at HO
      have eC : tpC zs (t0, t1) = 1 := by unfold tpC; rw [if_neg hbig, if_neg (by rw [hq]; simp), if_pos hr]
      have eL : tpL zs (t0, t1) = [] := by unfold tpL; rw [if_neg hbig, if_neg (by rw [hq]; simp), if_pos hr]
      rw [eC, eL]
      clear eC eL hq hr
      generalize zs.length = len at *
      go_enter Try.func19, Try.ntmps19
      go_wp2_with fail
      refine (HN.out _ (H.out.keep (B0.out _))).mono ?_
      rintro e w1 ⟨rfl, g1⟩
      have b1 := g1.below
      have k0 : w1.cell? ⟨w.heap.size, 0, none⟩ = some (.int .i64 t0) := by rw [b1.cell (by simp)]; simp
      have k1 : w1.cell? ⟨w.heap.size, 1, none⟩ = some (.int .i64 t1) := by rw [b1.cell (by simp)]; simp
      have B1 : Hid (Below w.heap.size w w1 ∧ w.heap.size < w1.heap.size) := ⟨(B0.out _).trans (b1.mono (by simp)), World.block_lt_of_cell? w1 _ k0⟩
      clear b1 g1
      go_wp2_with fail
      refine (HO.out _ _ (by simp) (by simp)).mono ?_
      rintro e w2 ⟨rfl, g2⟩
      have b2 := g2.below
      have k0 : w2.cell? ⟨w.heap.size, 0, none⟩ = some (.int .i64 t0) := by rw [b2.cell (by have := B1.out.2; simp; omega), World.cell?_alloc_lt _ _ _ (by exact B1.out.2)]; exact k0
      have k1 : w2.cell? ⟨w.heap.size, 1, none⟩ = some (.int .i64 t1) := by rw [b2.cell (by have := B1.out.2; simp; omega), World.cell?_alloc_lt _ _ _ (by exact B1.out.2)]; exact k1
      have B2 : Hid (Below w.heap.size w w2 ∧ w.heap.size < w2.heap.size) := ⟨(B1.out.1.alloc (Nat.le_of_lt B1.out.2) _).trans (b2.mono (by have := B1.out.2; simp; omega)), World.block_lt_of_cell? w2 _ k0⟩
      clear b2 g2

      go_wp2
      go_ret2
      exact ⟨_, rfl, World.ownsRow_lit w2 #[] 0 B2.out.1.size (Nat.zero_le _) rfl, B2.out.1.alloc B2.out.1.size _⟩
    | true =>
      rw [hr] at HO
      have hgood := (of_decide_eq_true (p := goodTo zs zs.length ∧ zs.length ≤ 20) hq)
      have hwl := wo_len zs t1 zs.length
      by_cases hs : (wo zs t1 zs.length).length = 20
      · have eC : tpC zs (t0, t1) = 7 := by unfold tpC; rw [if_neg hbig, if_neg (by rw [hq]; simp), if_neg (by rw [hr]; simp), if_pos hs]
        have eL : tpL zs (t0, t1) = zs := by unfold tpL; rw [if_neg hbig, if_neg (by rw [hq]; simp), if_neg (by rw [hr]; simp), if_pos hs]; exact wo_full (show (wo zs t1 zs.length).length = zs.length by omega)
        rw [eC, eL]
        have hsz : (((wo zs t1 zs.length).length : Int) == 20) = true := by simp [hs]
        obtain ⟨b, off, rfl, -⟩ := H.out (by omega)
        obtain ⟨len, hlen⟩ : ∃ len, zs.length = len := ⟨_, rfl⟩
        clear eC eL hq hr hs
        generalize wo zs t1 zs.length = R at HD hwl hsz
        rw [hlen] at hbig HN HD hwl hgood ⊢
        go_enter Try.func19, Try.ntmps19
        go_wp2_with fail
        refine (HN.out _ (H.out.keep (B0.out _))).mono ?_
        rintro e w1 ⟨rfl, g1⟩
        have b1 := g1.below
        have k0 : w1.cell? ⟨w.heap.size, 0, none⟩ = some (.int .i64 t0) := by rw [b1.cell (by simp)]; simp
        have k1 : w1.cell? ⟨w.heap.size, 1, none⟩ = some (.int .i64 t1) := by rw [b1.cell (by simp)]; simp
        have B1 : Hid (Below w.heap.size w w1 ∧ w.heap.size < w1.heap.size) := ⟨(B0.out _).trans (b1.mono (by simp)), World.block_lt_of_cell? w1 _ k0⟩
        clear b1 g1
        go_wp2_with fail
        refine (HO.out _ _ (by simp) (by simp)).mono ?_
        rintro e w2 ⟨rfl, g2⟩
        have b2 := g2.below
        have k0 : w2.cell? ⟨w.heap.size, 0, none⟩ = some (.int .i64 t0) := by rw [b2.cell (by have := B1.out.2; simp; omega), World.cell?_alloc_lt _ _ _ (by exact B1.out.2)]; exact k0
        have k1 : w2.cell? ⟨w.heap.size, 1, none⟩ = some (.int .i64 t1) := by rw [b2.cell (by have := B1.out.2; simp; omega), World.cell?_alloc_lt _ _ _ (by exact B1.out.2)]; exact k1
        have B2 : Hid (Below w.heap.size w w2 ∧ w.heap.size < w2.heap.size) := ⟨(B1.out.1.alloc (Nat.le_of_lt B1.out.2) _).trans (b2.mono (by have := B1.out.2; simp; omega)), World.block_lt_of_cell? w2 _ k0⟩
        clear b2 g2
        go_wp2_with fail
        refine (HD.out _ (H.out.keep B2.out.1)).mono ?_
        rintro e w3 ⟨g3, c3, rfl, o3, b3⟩
        have k0 : w3.cell? ⟨w.heap.size, 0, none⟩ = some (.int .i64 t0) := by rw [b3.cell (by exact B2.out.2)]; exact k0
        have k1 : w3.cell? ⟨w.heap.size, 1, none⟩ = some (.int .i64 t1) := by rw [b3.cell (by exact B2.out.2)]; exact k1
        have B3 : Hid (OwnP 44 w3 w2.heap.size (.slice (some ⟨g3, 0, none⟩) R.length c3) R ∧ Below w.heap.size w w3 ∧ w.heap.size < w3.heap.size ∧ w2.heap.size ≤ w3.heap.size) := ⟨o3, B2.out.1.trans (b3.mono (Nat.le_of_lt B2.out.2)), World.block_lt_of_cell? w3 _ k0, b3.size⟩
        clear b3 o3

        have XB : Hid (OwnP 44 (w3.alloc (.cells #[] 44)) w.heap.size (.slice (some ⟨w3.heap.size, 0, none⟩) 0 0) [] ∧ Below w.heap.size w (w3.alloc (.cells #[] 44)) ∧ Prs (w3.alloc (.cells #[] 44)) (some ⟨b, off, none⟩) zs) := ⟨World.ownsRow_lit w3 #[] 0 B3.out.2.1.size (Nat.zero_le _) rfl, B3.out.2.1.alloc B3.out.2.1.size _, H.out.keep (B3.out.2.1.alloc B3.out.2.1.size _)⟩
        have PC : Hid (∀ j u, (flat zs)[j]? = some u → (w3.alloc (.cells #[] 44)).cell? ((⟨b, off, none⟩ : Addr).add j) = some u) := fun j u hu => by
          have h2 := part_cells XB.out.2.2 0 len (by omega) j u (by rw [List.drop_zero, List.take_of_length_le (by omega)]; exact hu)
          simpa using h2
        have hl20 := hgood.2
        clear hgood
        go_wp2_with (at_builtin; refine wpl_more _ rfl (.tmp 29) (.tmp 30) rfl w.heap.size _ _ rfl XB.out.1 ⟨b, off, none⟩ _ _ zs rfl hlen PC.out (by simp; omega) XB.out.2.1.size ?_; intro v' w4 Y)
        go_ret2
        exact ⟨_, rfl, Y.out.1, XB.out.2.1.trans Y.out.2.1⟩
      · have eC : tpC zs (t0, t1) = 0 := by unfold tpC; rw [if_neg hbig, if_neg (by rw [hq]; simp), if_neg (by rw [hr]; simp), if_neg hs]
        have eL : tpL zs (t0, t1) = sortedT (wo zs t1 zs.length ++ [(t0, t1)]) := by unfold tpL; rw [if_neg hbig, if_neg (by rw [hq]; simp), if_neg (by rw [hr]; simp), if_neg hs]
        rw [eC, eL]
        have hsz : (((wo zs t1 zs.length).length : Int) == 20) = false := by rw [beq_eq_false_iff_ne]; omega
        have PW : Hid ((wo zs t1 zs.length).Pairwise ltT) := wo_pw hgood.1 t1
        clear eC eL hq hr hs hgood
        generalize wo zs t1 zs.length = R at HD hwl hsz PW ⊢
        generalize zs.length = len at *
        have IS : Hid (∀ k, (∀ x ∈ R.take k, ltT x (t0, t1)) → (∀ x ∈ R.drop k, ¬ ltT x (t0, t1)) → R.take k ++ [(t0, t1)] ++ R.drop k = sortedT (R ++ [(t0, t1)])) := fun k h1 h2 => ins_sorted PW.out h1 h2
        go_enter Try.func19, Try.ntmps19
        go_wp2_with fail
        refine (HN.out _ (H.out.keep (B0.out _))).mono ?_
        rintro e w1 ⟨rfl, g1⟩
        have b1 := g1.below
        have k0 : w1.cell? ⟨w.heap.size, 0, none⟩ = some (.int .i64 t0) := by rw [b1.cell (by simp)]; simp
        have k1 : w1.cell? ⟨w.heap.size, 1, none⟩ = some (.int .i64 t1) := by rw [b1.cell (by simp)]; simp
        have B1 : Hid (Below w.heap.size w w1 ∧ w.heap.size < w1.heap.size) := ⟨(B0.out _).trans (b1.mono (by simp)), World.block_lt_of_cell? w1 _ k0⟩
        clear b1 g1
        go_wp2_with fail
        refine (HO.out _ _ (by simp) (by simp)).mono ?_
        rintro e w2 ⟨rfl, g2⟩
        have b2 := g2.below
        have k0 : w2.cell? ⟨w.heap.size, 0, none⟩ = some (.int .i64 t0) := by rw [b2.cell (by have := B1.out.2; simp; omega), World.cell?_alloc_lt _ _ _ (by exact B1.out.2)]; exact k0
        have k1 : w2.cell? ⟨w.heap.size, 1, none⟩ = some (.int .i64 t1) := by rw [b2.cell (by have := B1.out.2; simp; omega), World.cell?_alloc_lt _ _ _ (by exact B1.out.2)]; exact k1
        have B2 : Hid (Below w.heap.size w w2 ∧ w.heap.size < w2.heap.size) := ⟨(B1.out.1.alloc (Nat.le_of_lt B1.out.2) _).trans (b2.mono (by have := B1.out.2; simp; omega)), World.block_lt_of_cell? w2 _ k0⟩
        clear b2 g2
        go_wp2_with fail
        refine (HD.out _ (H.out.keep B2.out.1)).mono ?_
        rintro e w3 ⟨g3, c3, rfl, o3, b3⟩
        have k0 : w3.cell? ⟨w.heap.size, 0, none⟩ = some (.int .i64 t0) := by rw [b3.cell (by exact B2.out.2)]; exact k0
        have k1 : w3.cell? ⟨w.heap.size, 1, none⟩ = some (.int .i64 t1) := by rw [b3.cell (by exact B2.out.2)]; exact k1
        have B3 : Hid (OwnP 44 w3 w2.heap.size (.slice (some ⟨g3, 0, none⟩) R.length c3) R ∧ Below w.heap.size w w3 ∧ w.heap.size < w3.heap.size ∧ w2.heap.size ≤ w3.heap.size) := ⟨o3, B2.out.1.trans (b3.mono (Nat.le_of_lt B2.out.2)), World.block_lt_of_cell? w3 _ k0, b3.size⟩
        clear b3 o3

        have CB : Hid (R.length ≤ c3) := by
          obtain ⟨a', cap', e1, _, hle, _⟩ := B3.out.1.slice
          cases e1
          exact hle
        have R3 : Hid (Prs w3 (some ⟨g3, 0, none⟩) R) := by
          obtain ⟨a', cap', e1, hp, _⟩ := B3.out.1.slice
          cases e1
          exact hp
        go_wp2
        go_loopw [7] (fun i wr => ∃ k : Nat, k ≤ R.length ∧ i = .int .i64 k ∧ Hid ((∀ i, i < k → ltT (R.getD i (0, 0)) (t0, t1)) ∧ Grw w3 wr)) (fun i _ => R.length - (intOf i).toNat)
        case atStart => exact ⟨0, Nat.zero_le _, rfl, fun i hi => absurd hi (by omega), Grw.refl w3⟩
        case round =>
          obtain ⟨k, hk, rfl, X⟩ := hrel
          by_cases hlt : k < R.length
          · obtain ⟨b9, off9, e9, hb9, p0, p1⟩ := R3.out.cells X.out.2.below (k := k) hlt
            cases e9
            rw [Nat.zero_add] at p0 p1
            have j0 : wr.cell? ⟨w.heap.size, 0, none⟩ = some (.int .i64 t0) := by rw [X.out.2.below.cell (by exact B3.out.2.2.1)]; exact k0
            have j1 : wr.cell? ⟨w.heap.size, 1, none⟩ = some (.int .i64 t1) := by rw [X.out.2.below.cell (by exact B3.out.2.2.1)]; exact k1
            have hltz : (k : Int) < (R.length : Int) := by omega
            obtain ⟨y0, e0⟩ : ∃ y0, y0 = (R.getD k (0, 0)).1 := ⟨_, rfl⟩
            obtain ⟨y1, e1⟩ : ∃ y1, y1 = (R.getD k (0, 0)).2 := ⟨_, rfl⟩
            rw [← e0] at p0
            rw [← e1] at p1
            have Y : Hid (y0 = (R.getD k (0, 0)).1 ∧ y1 = (R.getD k (0, 0)).2) := ⟨e0, e1⟩
            have NX : Hid (ltT (y0, y1) (t0, t1) → ∀ i, i < k + 1 → ltT (R.getD i (0, 0)) (t0, t1)) := fun hh i hi => by
              by_cases e : i < k
              · exact X.out.1 i e
              · rw [show i = k by omega]
                have e2 : R.getD k (0, 0) = (y0, y1) := Prod.ext e0.symm e1.symm
                rw [e2]; exact hh
            have NT : Hid (¬ ltT (y0, y1) (t0, t1) → ¬ ltT (R.getD k (0, 0)) (t0, t1)) := fun hh => by
              have e2 : R.getD k (0, 0) = (y0, y1) := Prod.ext e0.symm e1.symm
              rw [e2]; exact hh
            clear e0 e1 Y
            by_cases hlt0 : y0 < t0
            · have N2 := NX.out (Or.inl hlt0)
              have N3 : Hid (∀ i, i < k + 1 → ltT (R.getD i (0, 0)) (t0, t1)) := N2
              clear NX NT N2
              go_wp2_with fail
              go_big_quiet (fail)
              have G4 : Hid (Grw w3 (wr.drewN nq)) := X.out.2.trans ⟨nq, #[], by rw [grow_empty]⟩
              clear p0 p1 j0 j1 X
              go_wp2
              go_roundw
              case rel => exact ⟨k + 1, by omega, by go_num, N3.out, G4.out⟩
              case measure => simp [intOf]; omega
            · have hd0 : decide (y0 < t0) = false := decide_eq_false hlt0
              by_cases heq : y0 = t0
              · have hq : (y0 == t0) = true := by simp [heq]
                by_cases hlt1 : y1 < t1
                · have N3 : Hid (∀ i, i < k + 1 → ltT (R.getD i (0, 0)) (t0, t1)) := NX.out (Or.inr ⟨heq, hlt1⟩)
                  clear NX NT heq
                  go_wp2_with fail
                  go_big_quiet (fail)
                  have G4 : Hid (Grw w3 (wr.drewN nq)) := X.out.2.trans ⟨nq, #[], by rw [grow_empty]⟩
                  clear p0 p1 j0 j1 X
                  go_wp2
                  go_roundw
                  case rel => exact ⟨k + 1, by omega, by go_num, N3.out, G4.out⟩
                  case measure => simp [intOf]; omega
                · have hd1 : decide (y1 < t1) = false := decide_eq_false hlt1
                  have N4 : Hid (¬ ltT (R.getD k (0, 0)) (t0, t1)) := NT.out (by unfold ltT; simp only; omega)
                  clear NX NT heq
                  have EQ : Hid (R.take k ++ [(t0, t1)] ++ R.drop k = sortedT (R ++ [(t0, t1)])) := IS.out k (take_lt hk X.out.1) (drop_not PW.out (fun _ => N4.out))
                  go_wp2_with fail
                  go_big_quiet (fail)
                  obtain ⟨W, hW⟩ : ∃ W, W = wr.drewN nq := ⟨_, rfl⟩
                  have WB : Hid (Below w3.heap.size w3 W) := by rw [hW]; exact (X.out.2.trans ⟨nq, #[], by rw [grow_empty]⟩).below
                  have c0 : W.cell? ⟨w.heap.size, 0, none⟩ = some (.int .i64 t0) := by rw [WB.out.cell (by exact B3.out.2.2.1)]; exact k0
                  have c1 : W.cell? ⟨w.heap.size, 1, none⟩ = some (.int .i64 t1) := by rw [WB.out.cell (by exact B3.out.2.2.1)]; exact k1
                  have hqW : Hid (w.heap.size < W.heap.size) := Nat.lt_of_lt_of_le B3.out.2.2.1 WB.out.size
                  have RW : Hid (Prs W (some ⟨g3, 0, none⟩) R) := R3.out.keep WB.out
                  have BW : Hid (Below w.heap.size w W) := B3.out.2.1.trans (WB.out.mono (Nat.le_of_lt B3.out.2.2.1))
                  have TK : Hid ((R.take k).length = k ∧ (R.drop k).length = R.length - k) := ⟨by rw [List.length_take]; omega, List.length_drop ..⟩
                  have PA : Hid (∀ wx, S5 w.heap.size t0 t1 W wx → ∀ j u, (flat (R.take k))[j]? = some u → wx.cell? ((⟨g3, 0, none⟩ : Addr).add j) = some u) := fun wx hx j u hu => by
                    have h2 := part_cells (RW.out.keep hx.2.2.out) 0 k (by omega) j u (by rw [List.drop_zero]; exact hu)
                    simpa using h2
                  have PD : Hid (∀ wx, S5 w.heap.size t0 t1 W wx → ∀ j u, (flat (R.drop k))[j]? = some u → wx.cell? ((⟨g3, k * 2, none⟩ : Addr).add j) = some u) := fun wx hx j u hu => by
                    have h2 := part_cells (RW.out.keep hx.2.2.out) k (R.length - k) (by omega) j u (by rw [List.take_of_length_le (by rw [List.length_drop]; exact Nat.le_refl _)]; exact hu)
                    simpa using h2
                  have L1 : Hid (OwnP 44 (W.alloc (.cells #[] 44)) W.heap.size (.slice (some ⟨W.heap.size, 0, none⟩) 0 0) []) := World.ownsRow_lit W #[] 0 (Nat.le_refl _) (Nat.zero_le _) rfl
                  have L2 : Hid (∀ o, OwnP 44 ((W.alloc (.cells #[] 44)).alloc o) W.heap.size (.slice (some ⟨W.heap.size, 0, none⟩) 0 0) []) := fun o => L1.out.now ((Below.refl _ _).alloc (Nat.le_refl _) o)
                  have L3 : Hid (∀ o, OwnP 44 ((W.alloc o).alloc (.cells #[] 44)) W.heap.size (.slice (some ⟨W.heap.size + 1, 0, none⟩) 0 0) []) := fun o => by
                    have := World.ownsRow_lit (base := W.heap.size) (e := 44) (size := 2) (W.alloc o) #[] 0 (by simp) (Nat.zero_le _) rfl
                    rw [World.size_alloc] at this
                    exact this
                  have SS : Hid (S5 w.heap.size t0 t1 W W.drew) := (S5.start c0 c1).below hqW.out (Below.refl _ _).drew
                  have SC : Hid (∀ wx o, S5 w.heap.size t0 t1 W wx → S5 w.heap.size t0 t1 W (wx.alloc o)) := fun wx o h => h.below hqW.out ((Below.refl _ _).alloc h.2.2.out.size o)
                  have KS : Hid (∀ wx, S5 w.heap.size t0 t1 W wx → W.heap.size ≤ wx.heap.size) := fun wx h => h.2.2.out.size
                  have SA : Hid (∀ wx o, S5 w.heap.size t0 t1 W wx → S5 w.heap.size t0 t1 W (wx.alloc o).drew) := fun wx o h => h.alloc hqW.out o
                  have SB : Hid (∀ wx wy, Below W.heap.size wx wy → S5 w.heap.size t0 t1 W wx → S5 w.heap.size t0 t1 W wy) := fun wx wy hb h => h.below hqW.out hb
                  have TN : Hid (∀ X : World, ∀ j u, (flat [(t0, t1)])[j]? = some u → (X.alloc (.cells #[.int .i64 t0, .int .i64 t1] 44)).cell? ((⟨X.heap.size, 0, none⟩ : Addr).add j) = some u) := fun X => t_new X t0 t1
                  have TO1 : Hid (∀ w4, ((W.alloc (.cells #[] 44)).alloc (.cells #[.int .i64 t0, .int .i64 t1] 44)).drew.grownBy w4 (some W.heap.size) → ∀ j u, (flat [(t0, t1)])[j]? = some u → w4.cell? ((⟨W.heap.size + 1, 0, none⟩ : Addr).add j) = some u) := fun w4 hg => t_old1 W w4 t0 t1 _ hg
                  have TO2 : Hid (∀ w4, ((W.alloc (.cells #[.int .i64 t0, .int .i64 t1] 44)).alloc (.cells #[] 44)).drew.grownBy w4 (some (W.heap.size + 1)) → ∀ j u, (flat [(t0, t1)])[j]? = some u → w4.cell? ((⟨W.heap.size, 0, none⟩ : Addr).add j) = some u) := fun w4 hg => t_old2 W w4 t0 t1 _ hg
                  have hk0z : (0 : Int) ≤ (k : Int) := by omega
                  have hknz : (k : Int) ≤ (R.length : Int) := by omega
                  have hncz : (R.length : Int) ≤ (c3 : Int) := by have := CB.out; omega
                  have hkcz : (k : Int) ≤ (c3 : Int) := by omega
                  have hck : (c3 = k) = False := by simp; have := CB.out; omega
                  clear c0 c1
                  go_wp2
                  rw [← hW]
                  clear hW
                  go_region_held3 (fun wx => wx.cell? ⟨w.heap.size, 0, none⟩ = some (.int .i64 t0) ∧ wx.cell? ⟨w.heap.size, 1, none⟩ = some (.int .i64 t1) ∧ KeptB W wx)
                    (first | exact SS.out | exact SA.out _ _ (by assumption) | exact SC.out _ _ (by assumption) | exact SB.out _ _ hB6 (by assumption) | exact SB.out _ _ hB5 (by assumption) | exact SB.out _ _ hB4 (by assumption))
                    (first
                      | (refine step_more _ (by rfl) (.tmp 68) (.tmp 71) (by rfl) W.heap.size _ [] (by rfl) (by first | exact L1.out | exact L2.out _ | exact L3.out _) ⟨g3, 0, none⟩ k _ (R.take k) (by rfl) TK.out.1 (PA.out _ (by assumption)) (by simp; omega) (KS.out _ (by assumption)) ?_; intro v4 w4 Y4; have hB4 := Y4.out.2.1)
                      | (refine step_more _ (by rfl) (.tmp 72) (.tmp 74) (by rfl) W.heap.size v4 ([] ++ R.take k) (by rfl) (by first | exact Y4.out.1 | exact Y4.out.1.now ((Below.refl _ _).alloc (Nat.le_refl _) _)) _ 1 1 [(t0, t1)] (by rfl) rfl (by first | exact TN.out _ | exact TO1.out _ Y4.out.2.2 | exact TO2.out _ Y4.out.2.2) (by simp; omega) (KS.out _ (by assumption)) ?_; intro v5 w5 Y5; have hB5 := Y5.out.2.1)
                      | (refine step_more _ (by rfl) (.tmp 75) (.tmp 78) (by rfl) W.heap.size v5 ([] ++ R.take k ++ [(t0, t1)]) (by rfl) Y5.out.1 ⟨g3, k * 2, none⟩ (R.length - k) _ (R.drop k) (by rfl) TK.out.2 (PD.out _ (by assumption)) (by simp; omega) (KS.out _ (by assumption)) ?_; intro v6 w6 Y6; have hB6 := Y6.out.2.1))
                  all_goals
                    have F6 : Hid (OwnP 44 w6 W.heap.size v6 (R.take k ++ [(t0, t1)] ++ R.drop k) ∧ KeptB W w6) := ⟨Y6.out.1, (show S5 w.heap.size t0 t1 W w6 by assumption).2.2⟩
                    go_wp2
                    go_ret2
                    exact ⟨_, rfl, by rw [← EQ.out]; exact F6.out.1.lower (Nat.le_of_lt hqW.out), BW.out.trans (F6.out.2.out.mono (Nat.le_of_lt hqW.out))⟩
              · have hq : (y0 == t0) = false := by simp [heq]
                have N4 : Hid (¬ ltT (R.getD k (0, 0)) (t0, t1)) := NT.out (by unfold ltT; simp only; omega)
                clear NX NT heq
                have EQ : Hid (R.take k ++ [(t0, t1)] ++ R.drop k = sortedT (R ++ [(t0, t1)])) := IS.out k (take_lt hk X.out.1) (drop_not PW.out (fun _ => N4.out))
                go_wp2_with fail
                go_big_quiet (fail)
                obtain ⟨W, hW⟩ : ∃ W, W = wr.drewN nq := ⟨_, rfl⟩
                have WB : Hid (Below w3.heap.size w3 W) := by rw [hW]; exact (X.out.2.trans ⟨nq, #[], by rw [grow_empty]⟩).below
                have c0 : W.cell? ⟨w.heap.size, 0, none⟩ = some (.int .i64 t0) := by rw [WB.out.cell (by exact B3.out.2.2.1)]; exact k0
                have c1 : W.cell? ⟨w.heap.size, 1, none⟩ = some (.int .i64 t1) := by rw [WB.out.cell (by exact B3.out.2.2.1)]; exact k1
                have hqW : Hid (w.heap.size < W.heap.size) := Nat.lt_of_lt_of_le B3.out.2.2.1 WB.out.size
                have RW : Hid (Prs W (some ⟨g3, 0, none⟩) R) := R3.out.keep WB.out
                have BW : Hid (Below w.heap.size w W) := B3.out.2.1.trans (WB.out.mono (Nat.le_of_lt B3.out.2.2.1))
                have TK : Hid ((R.take k).length = k ∧ (R.drop k).length = R.length - k) := ⟨by rw [List.length_take]; omega, List.length_drop ..⟩
                have PA : Hid (∀ wx, S5 w.heap.size t0 t1 W wx → ∀ j u, (flat (R.take k))[j]? = some u → wx.cell? ((⟨g3, 0, none⟩ : Addr).add j) = some u) := fun wx hx j u hu => by
                  have h2 := part_cells (RW.out.keep hx.2.2.out) 0 k (by omega) j u (by rw [List.drop_zero]; exact hu)
                  simpa using h2
                have PD : Hid (∀ wx, S5 w.heap.size t0 t1 W wx → ∀ j u, (flat (R.drop k))[j]? = some u → wx.cell? ((⟨g3, k * 2, none⟩ : Addr).add j) = some u) := fun wx hx j u hu => by
                  have h2 := part_cells (RW.out.keep hx.2.2.out) k (R.length - k) (by omega) j u (by rw [List.take_of_length_le (by rw [List.length_drop]; exact Nat.le_refl _)]; exact hu)
                  simpa using h2
                have L1 : Hid (OwnP 44 (W.alloc (.cells #[] 44)) W.heap.size (.slice (some ⟨W.heap.size, 0, none⟩) 0 0) []) := World.ownsRow_lit W #[] 0 (Nat.le_refl _) (Nat.zero_le _) rfl
                have L2 : Hid (∀ o, OwnP 44 ((W.alloc (.cells #[] 44)).alloc o) W.heap.size (.slice (some ⟨W.heap.size, 0, none⟩) 0 0) []) := fun o => L1.out.now ((Below.refl _ _).alloc (Nat.le_refl _) o)
                have L3 : Hid (∀ o, OwnP 44 ((W.alloc o).alloc (.cells #[] 44)) W.heap.size (.slice (some ⟨W.heap.size + 1, 0, none⟩) 0 0) []) := fun o => by
                  have := World.ownsRow_lit (base := W.heap.size) (e := 44) (size := 2) (W.alloc o) #[] 0 (by simp) (Nat.zero_le _) rfl
                  rw [World.size_alloc] at this
                  exact this
                have SS : Hid (S5 w.heap.size t0 t1 W W.drew) := (S5.start c0 c1).below hqW.out (Below.refl _ _).drew
                have SC : Hid (∀ wx o, S5 w.heap.size t0 t1 W wx → S5 w.heap.size t0 t1 W (wx.alloc o)) := fun wx o h => h.below hqW.out ((Below.refl _ _).alloc h.2.2.out.size o)
                have KS : Hid (∀ wx, S5 w.heap.size t0 t1 W wx → W.heap.size ≤ wx.heap.size) := fun wx h => h.2.2.out.size
                have SA : Hid (∀ wx o, S5 w.heap.size t0 t1 W wx → S5 w.heap.size t0 t1 W (wx.alloc o).drew) := fun wx o h => h.alloc hqW.out o
                have SB : Hid (∀ wx wy, Below W.heap.size wx wy → S5 w.heap.size t0 t1 W wx → S5 w.heap.size t0 t1 W wy) := fun wx wy hb h => h.below hqW.out hb
                have TN : Hid (∀ X : World, ∀ j u, (flat [(t0, t1)])[j]? = some u → (X.alloc (.cells #[.int .i64 t0, .int .i64 t1] 44)).cell? ((⟨X.heap.size, 0, none⟩ : Addr).add j) = some u) := fun X => t_new X t0 t1
                have TO1 : Hid (∀ w4, ((W.alloc (.cells #[] 44)).alloc (.cells #[.int .i64 t0, .int .i64 t1] 44)).drew.grownBy w4 (some W.heap.size) → ∀ j u, (flat [(t0, t1)])[j]? = some u → w4.cell? ((⟨W.heap.size + 1, 0, none⟩ : Addr).add j) = some u) := fun w4 hg => t_old1 W w4 t0 t1 _ hg
                have TO2 : Hid (∀ w4, ((W.alloc (.cells #[.int .i64 t0, .int .i64 t1] 44)).alloc (.cells #[] 44)).drew.grownBy w4 (some (W.heap.size + 1)) → ∀ j u, (flat [(t0, t1)])[j]? = some u → w4.cell? ((⟨W.heap.size, 0, none⟩ : Addr).add j) = some u) := fun w4 hg => t_old2 W w4 t0 t1 _ hg
                have hk0z : (0 : Int) ≤ (k : Int) := by omega
                have hknz : (k : Int) ≤ (R.length : Int) := by omega
                have hncz : (R.length : Int) ≤ (c3 : Int) := by have := CB.out; omega
                have hkcz : (k : Int) ≤ (c3 : Int) := by omega
                have hck : (c3 = k) = False := by simp; have := CB.out; omega
                clear c0 c1
                go_wp2
                rw [← hW]
                clear hW
                go_region_held3 (fun wx => wx.cell? ⟨w.heap.size, 0, none⟩ = some (.int .i64 t0) ∧ wx.cell? ⟨w.heap.size, 1, none⟩ = some (.int .i64 t1) ∧ KeptB W wx)
                  (first | exact SS.out | exact SA.out _ _ (by assumption) | exact SC.out _ _ (by assumption) | exact SB.out _ _ hB6 (by assumption) | exact SB.out _ _ hB5 (by assumption) | exact SB.out _ _ hB4 (by assumption))
                  (first
                    | (refine step_more _ (by rfl) (.tmp 68) (.tmp 71) (by rfl) W.heap.size _ [] (by rfl) (by first | exact L1.out | exact L2.out _ | exact L3.out _) ⟨g3, 0, none⟩ k _ (R.take k) (by rfl) TK.out.1 (PA.out _ (by assumption)) (by simp; omega) (KS.out _ (by assumption)) ?_; intro v4 w4 Y4; have hB4 := Y4.out.2.1)
                    | (refine step_more _ (by rfl) (.tmp 72) (.tmp 74) (by rfl) W.heap.size v4 ([] ++ R.take k) (by rfl) (by first | exact Y4.out.1 | exact Y4.out.1.now ((Below.refl _ _).alloc (Nat.le_refl _) _)) _ 1 1 [(t0, t1)] (by rfl) rfl (by first | exact TN.out _ | exact TO1.out _ Y4.out.2.2 | exact TO2.out _ Y4.out.2.2) (by simp; omega) (KS.out _ (by assumption)) ?_; intro v5 w5 Y5; have hB5 := Y5.out.2.1)
                    | (refine step_more _ (by rfl) (.tmp 75) (.tmp 78) (by rfl) W.heap.size v5 ([] ++ R.take k ++ [(t0, t1)]) (by rfl) Y5.out.1 ⟨g3, k * 2, none⟩ (R.length - k) _ (R.drop k) (by rfl) TK.out.2 (PD.out _ (by assumption)) (by simp; omega) (KS.out _ (by assumption)) ?_; intro v6 w6 Y6; have hB6 := Y6.out.2.1))
                all_goals
                  have F6 : Hid (OwnP 44 w6 W.heap.size v6 (R.take k ++ [(t0, t1)] ++ R.drop k) ∧ KeptB W w6) := ⟨Y6.out.1, (show S5 w.heap.size t0 t1 W w6 by assumption).2.2⟩
                  go_wp2
                  go_ret2
                  exact ⟨_, rfl, by rw [← EQ.out]; exact F6.out.1.lower (Nat.le_of_lt hqW.out), BW.out.trans (F6.out.2.out.mono (Nat.le_of_lt hqW.out))⟩
          · have hdk : decide ((k : Int) < (R.length : Int)) = false := by simp; omega
            have PN : Hid (∀ (wx : World) (ad : Addr) j u, (flat (R.drop k))[j]? = some u → wx.cell? (ad.add j) = some u) := fun wx ad j u hu => by
              rw [List.drop_of_length_le (by omega)] at hu
              cases hu
            by_cases hc3 : k = c3
            · subst hc3
              have EQ : Hid (R.take k ++ [(t0, t1)] ++ R.drop k = sortedT (R ++ [(t0, t1)])) := IS.out k (take_lt hk X.out.1) (drop_not PW.out (fun h => absurd h hlt))
              go_wp2_with fail
              go_big_quiet (fail)
              obtain ⟨W, hW⟩ : ∃ W, W = wr.drewN nq := ⟨_, rfl⟩
              have WB : Hid (Below w3.heap.size w3 W) := by rw [hW]; exact (X.out.2.trans ⟨nq, #[], by rw [grow_empty]⟩).below
              have c0 : W.cell? ⟨w.heap.size, 0, none⟩ = some (.int .i64 t0) := by rw [WB.out.cell (by exact B3.out.2.2.1)]; exact k0
              have c1 : W.cell? ⟨w.heap.size, 1, none⟩ = some (.int .i64 t1) := by rw [WB.out.cell (by exact B3.out.2.2.1)]; exact k1
              have hqW : Hid (w.heap.size < W.heap.size) := Nat.lt_of_lt_of_le B3.out.2.2.1 WB.out.size
              have RW : Hid (Prs W (some ⟨g3, 0, none⟩) R) := R3.out.keep WB.out
              have BW : Hid (Below w.heap.size w W) := B3.out.2.1.trans (WB.out.mono (Nat.le_of_lt B3.out.2.2.1))
              have TK : Hid ((R.take k).length = k ∧ (R.drop k).length = R.length - k) := ⟨by rw [List.length_take]; omega, List.length_drop ..⟩
              have PA : Hid (∀ wx, S5 w.heap.size t0 t1 W wx → ∀ j u, (flat (R.take k))[j]? = some u → wx.cell? ((⟨g3, 0, none⟩ : Addr).add j) = some u) := fun wx hx j u hu => by
                have h2 := part_cells (RW.out.keep hx.2.2.out) 0 k (by omega) j u (by rw [List.drop_zero]; exact hu)
                simpa using h2
              have PD : Hid (∀ wx, S5 w.heap.size t0 t1 W wx → ∀ j u, (flat (R.drop k))[j]? = some u → wx.cell? ((⟨g3, k * 2, none⟩ : Addr).add j) = some u) := fun wx hx j u hu => by
                have h2 := part_cells (RW.out.keep hx.2.2.out) k (R.length - k) (by omega) j u (by rw [List.take_of_length_le (by rw [List.length_drop]; exact Nat.le_refl _)]; exact hu)
                simpa using h2
              have L1 : Hid (OwnP 44 (W.alloc (.cells #[] 44)) W.heap.size (.slice (some ⟨W.heap.size, 0, none⟩) 0 0) []) := World.ownsRow_lit W #[] 0 (Nat.le_refl _) (Nat.zero_le _) rfl
              have L2 : Hid (∀ o, OwnP 44 ((W.alloc (.cells #[] 44)).alloc o) W.heap.size (.slice (some ⟨W.heap.size, 0, none⟩) 0 0) []) := fun o => L1.out.now ((Below.refl _ _).alloc (Nat.le_refl _) o)
              have L3 : Hid (∀ o, OwnP 44 ((W.alloc o).alloc (.cells #[] 44)) W.heap.size (.slice (some ⟨W.heap.size + 1, 0, none⟩) 0 0) []) := fun o => by
                have := World.ownsRow_lit (base := W.heap.size) (e := 44) (size := 2) (W.alloc o) #[] 0 (by simp) (Nat.zero_le _) rfl
                rw [World.size_alloc] at this
                exact this
              have SS : Hid (S5 w.heap.size t0 t1 W W.drew) := (S5.start c0 c1).below hqW.out (Below.refl _ _).drew
              have SC : Hid (∀ wx o, S5 w.heap.size t0 t1 W wx → S5 w.heap.size t0 t1 W (wx.alloc o)) := fun wx o h => h.below hqW.out ((Below.refl _ _).alloc h.2.2.out.size o)
              have KS : Hid (∀ wx, S5 w.heap.size t0 t1 W wx → W.heap.size ≤ wx.heap.size) := fun wx h => h.2.2.out.size
              have SA : Hid (∀ wx o, S5 w.heap.size t0 t1 W wx → S5 w.heap.size t0 t1 W (wx.alloc o).drew) := fun wx o h => h.alloc hqW.out o
              have SB : Hid (∀ wx wy, Below W.heap.size wx wy → S5 w.heap.size t0 t1 W wx → S5 w.heap.size t0 t1 W wy) := fun wx wy hb h => h.below hqW.out hb
              have TN : Hid (∀ X : World, ∀ j u, (flat [(t0, t1)])[j]? = some u → (X.alloc (.cells #[.int .i64 t0, .int .i64 t1] 44)).cell? ((⟨X.heap.size, 0, none⟩ : Addr).add j) = some u) := fun X => t_new X t0 t1
              have TO1 : Hid (∀ w4, ((W.alloc (.cells #[] 44)).alloc (.cells #[.int .i64 t0, .int .i64 t1] 44)).drew.grownBy w4 (some W.heap.size) → ∀ j u, (flat [(t0, t1)])[j]? = some u → w4.cell? ((⟨W.heap.size + 1, 0, none⟩ : Addr).add j) = some u) := fun w4 hg => t_old1 W w4 t0 t1 _ hg
              have TO2 : Hid (∀ w4, ((W.alloc (.cells #[.int .i64 t0, .int .i64 t1] 44)).alloc (.cells #[] 44)).drew.grownBy w4 (some (W.heap.size + 1)) → ∀ j u, (flat [(t0, t1)])[j]? = some u → w4.cell? ((⟨W.heap.size, 0, none⟩ : Addr).add j) = some u) := fun w4 hg => t_old2 W w4 t0 t1 _ hg
              have hk0z : (0 : Int) ≤ (k : Int) := by omega
              have hknz : (k : Int) ≤ (R.length : Int) := by omega
              have hncz : (R.length : Int) ≤ (k : Int) := by have := CB.out; omega
              have hkcz : (k : Int) ≤ (k : Int) := by omega
              skip
              clear c0 c1
              go_wp2
              rw [← hW]
              clear hW
              go_region_held3 (fun wx => wx.cell? ⟨w.heap.size, 0, none⟩ = some (.int .i64 t0) ∧ wx.cell? ⟨w.heap.size, 1, none⟩ = some (.int .i64 t1) ∧ KeptB W wx)
                (first | exact SS.out | exact SA.out _ _ (by assumption) | exact SC.out _ _ (by assumption) | exact SB.out _ _ hB6 (by assumption) | exact SB.out _ _ hB5 (by assumption) | exact SB.out _ _ hB4 (by assumption))
                (first
                  | (refine step_more _ (by rfl) (.tmp 68) (.tmp 71) (by rfl) W.heap.size _ [] (by rfl) (by first | exact L1.out | exact L2.out _ | exact L3.out _) ⟨g3, 0, none⟩ k _ (R.take k) (by rfl) TK.out.1 (PA.out _ (by assumption)) (by simp; omega) (KS.out _ (by assumption)) ?_; intro v4 w4 Y4; have hB4 := Y4.out.2.1)
                  | (refine step_more _ (by rfl) (.tmp 72) (.tmp 74) (by rfl) W.heap.size v4 ([] ++ R.take k) (by rfl) (by first | exact Y4.out.1 | exact Y4.out.1.now ((Below.refl _ _).alloc (Nat.le_refl _) _)) _ 1 1 [(t0, t1)] (by rfl) rfl (by first | exact TN.out _ | exact TO1.out _ Y4.out.2.2 | exact TO2.out _ Y4.out.2.2) (by simp; omega) (KS.out _ (by assumption)) ?_; intro v5 w5 Y5; have hB5 := Y5.out.2.1)
                  | (refine step_more _ (by rfl) (.tmp 75) (.tmp 78) (by rfl) W.heap.size v5 ([] ++ R.take k ++ [(t0, t1)]) (by rfl) Y5.out.1 _ (R.length - k) _ (R.drop k) (by rfl) TK.out.2 (PN.out _ _) (by simp; omega) (KS.out _ (by assumption)) ?_; intro v6 w6 Y6; have hB6 := Y6.out.2.1))
              all_goals
                have F6 : Hid (OwnP 44 w6 W.heap.size v6 (R.take k ++ [(t0, t1)] ++ R.drop k) ∧ KeptB W w6) := ⟨Y6.out.1, (show S5 w.heap.size t0 t1 W w6 by assumption).2.2⟩
                go_wp2
                go_ret2
                exact ⟨_, rfl, by rw [← EQ.out]; exact F6.out.1.lower (Nat.le_of_lt hqW.out), BW.out.trans (F6.out.2.out.mono (Nat.le_of_lt hqW.out))⟩
            · have hck : (c3 = k) = False := by simp; omega
              have EQ : Hid (R.take k ++ [(t0, t1)] ++ R.drop k = sortedT (R ++ [(t0, t1)])) := IS.out k (take_lt hk X.out.1) (drop_not PW.out (fun h => absurd h hlt))
              go_wp2_with fail
              go_big_quiet (fail)
              obtain ⟨W, hW⟩ : ∃ W, W = wr.drewN nq := ⟨_, rfl⟩
              have WB : Hid (Below w3.heap.size w3 W) := by rw [hW]; exact (X.out.2.trans ⟨nq, #[], by rw [grow_empty]⟩).below
              have c0 : W.cell? ⟨w.heap.size, 0, none⟩ = some (.int .i64 t0) := by rw [WB.out.cell (by exact B3.out.2.2.1)]; exact k0
              have c1 : W.cell? ⟨w.heap.size, 1, none⟩ = some (.int .i64 t1) := by rw [WB.out.cell (by exact B3.out.2.2.1)]; exact k1
              have hqW : Hid (w.heap.size < W.heap.size) := Nat.lt_of_lt_of_le B3.out.2.2.1 WB.out.size
              have RW : Hid (Prs W (some ⟨g3, 0, none⟩) R) := R3.out.keep WB.out
              have BW : Hid (Below w.heap.size w W) := B3.out.2.1.trans (WB.out.mono (Nat.le_of_lt B3.out.2.2.1))
              have TK : Hid ((R.take k).length = k ∧ (R.drop k).length = R.length - k) := ⟨by rw [List.length_take]; omega, List.length_drop ..⟩
              have PA : Hid (∀ wx, S5 w.heap.size t0 t1 W wx → ∀ j u, (flat (R.take k))[j]? = some u → wx.cell? ((⟨g3, 0, none⟩ : Addr).add j) = some u) := fun wx hx j u hu => by
                have h2 := part_cells (RW.out.keep hx.2.2.out) 0 k (by omega) j u (by rw [List.drop_zero]; exact hu)
                simpa using h2
              have PD : Hid (∀ wx, S5 w.heap.size t0 t1 W wx → ∀ j u, (flat (R.drop k))[j]? = some u → wx.cell? ((⟨g3, k * 2, none⟩ : Addr).add j) = some u) := fun wx hx j u hu => by
                have h2 := part_cells (RW.out.keep hx.2.2.out) k (R.length - k) (by omega) j u (by rw [List.take_of_length_le (by rw [List.length_drop]; exact Nat.le_refl _)]; exact hu)
                simpa using h2
              have L1 : Hid (OwnP 44 (W.alloc (.cells #[] 44)) W.heap.size (.slice (some ⟨W.heap.size, 0, none⟩) 0 0) []) := World.ownsRow_lit W #[] 0 (Nat.le_refl _) (Nat.zero_le _) rfl
              have L2 : Hid (∀ o, OwnP 44 ((W.alloc (.cells #[] 44)).alloc o) W.heap.size (.slice (some ⟨W.heap.size, 0, none⟩) 0 0) []) := fun o => L1.out.now ((Below.refl _ _).alloc (Nat.le_refl _) o)
              have L3 : Hid (∀ o, OwnP 44 ((W.alloc o).alloc (.cells #[] 44)) W.heap.size (.slice (some ⟨W.heap.size + 1, 0, none⟩) 0 0) []) := fun o => by
                have := World.ownsRow_lit (base := W.heap.size) (e := 44) (size := 2) (W.alloc o) #[] 0 (by simp) (Nat.zero_le _) rfl
                rw [World.size_alloc] at this
                exact this
              have SS : Hid (S5 w.heap.size t0 t1 W W.drew) := (S5.start c0 c1).below hqW.out (Below.refl _ _).drew
              have SC : Hid (∀ wx o, S5 w.heap.size t0 t1 W wx → S5 w.heap.size t0 t1 W (wx.alloc o)) := fun wx o h => h.below hqW.out ((Below.refl _ _).alloc h.2.2.out.size o)
              have KS : Hid (∀ wx, S5 w.heap.size t0 t1 W wx → W.heap.size ≤ wx.heap.size) := fun wx h => h.2.2.out.size
              have SA : Hid (∀ wx o, S5 w.heap.size t0 t1 W wx → S5 w.heap.size t0 t1 W (wx.alloc o).drew) := fun wx o h => h.alloc hqW.out o
              have SB : Hid (∀ wx wy, Below W.heap.size wx wy → S5 w.heap.size t0 t1 W wx → S5 w.heap.size t0 t1 W wy) := fun wx wy hb h => h.below hqW.out hb
              have TN : Hid (∀ X : World, ∀ j u, (flat [(t0, t1)])[j]? = some u → (X.alloc (.cells #[.int .i64 t0, .int .i64 t1] 44)).cell? ((⟨X.heap.size, 0, none⟩ : Addr).add j) = some u) := fun X => t_new X t0 t1
              have TO1 : Hid (∀ w4, ((W.alloc (.cells #[] 44)).alloc (.cells #[.int .i64 t0, .int .i64 t1] 44)).drew.grownBy w4 (some W.heap.size) → ∀ j u, (flat [(t0, t1)])[j]? = some u → w4.cell? ((⟨W.heap.size + 1, 0, none⟩ : Addr).add j) = some u) := fun w4 hg => t_old1 W w4 t0 t1 _ hg
              have TO2 : Hid (∀ w4, ((W.alloc (.cells #[.int .i64 t0, .int .i64 t1] 44)).alloc (.cells #[] 44)).drew.grownBy w4 (some (W.heap.size + 1)) → ∀ j u, (flat [(t0, t1)])[j]? = some u → w4.cell? ((⟨W.heap.size, 0, none⟩ : Addr).add j) = some u) := fun w4 hg => t_old2 W w4 t0 t1 _ hg
              have hk0z : (0 : Int) ≤ (k : Int) := by omega
              have hknz : (k : Int) ≤ (R.length : Int) := by omega
              have hncz : (R.length : Int) ≤ (c3 : Int) := by have := CB.out; omega
              have hkcz : (k : Int) ≤ (c3 : Int) := by omega
              skip
              clear c0 c1
              go_wp2
              rw [← hW]
              clear hW
              go_region_held3 (fun wx => wx.cell? ⟨w.heap.size, 0, none⟩ = some (.int .i64 t0) ∧ wx.cell? ⟨w.heap.size, 1, none⟩ = some (.int .i64 t1) ∧ KeptB W wx)
                (first | exact SS.out | exact SA.out _ _ (by assumption) | exact SC.out _ _ (by assumption) | exact SB.out _ _ hB6 (by assumption) | exact SB.out _ _ hB5 (by assumption) | exact SB.out _ _ hB4 (by assumption))
                (first
                  | (refine step_more _ (by rfl) (.tmp 68) (.tmp 71) (by rfl) W.heap.size _ [] (by rfl) (by first | exact L1.out | exact L2.out _ | exact L3.out _) ⟨g3, 0, none⟩ k _ (R.take k) (by rfl) TK.out.1 (PA.out _ (by assumption)) (by simp; omega) (KS.out _ (by assumption)) ?_; intro v4 w4 Y4; have hB4 := Y4.out.2.1)
                  | (refine step_more _ (by rfl) (.tmp 72) (.tmp 74) (by rfl) W.heap.size v4 ([] ++ R.take k) (by rfl) (by first | exact Y4.out.1 | exact Y4.out.1.now ((Below.refl _ _).alloc (Nat.le_refl _) _)) _ 1 1 [(t0, t1)] (by rfl) rfl (by first | exact TN.out _ | exact TO1.out _ Y4.out.2.2 | exact TO2.out _ Y4.out.2.2) (by simp; omega) (KS.out _ (by assumption)) ?_; intro v5 w5 Y5; have hB5 := Y5.out.2.1)
                  | (refine step_more _ (by rfl) (.tmp 75) (.tmp 78) (by rfl) W.heap.size v5 ([] ++ R.take k ++ [(t0, t1)]) (by rfl) Y5.out.1 _ (R.length - k) _ (R.drop k) (by rfl) TK.out.2 (PN.out _ _) (by simp; omega) (KS.out _ (by assumption)) ?_; intro v6 w6 Y6; have hB6 := Y6.out.2.1))
              all_goals
                have F6 : Hid (OwnP 44 w6 W.heap.size v6 (R.take k ++ [(t0, t1)] ++ R.drop k) ∧ KeptB W w6) := ⟨Y6.out.1, (show S5 w.heap.size t0 t1 W w6 by assumption).2.2⟩
                go_wp2
                go_ret2
                exact ⟨_, rfl, by rw [← EQ.out]; exact F6.out.1.lower (Nat.le_of_lt hqW.out), BW.out.trans (F6.out.2.out.mono (Nat.le_of_lt hqW.out))⟩
end Go.Proofs.Ytbbjelkicenbhaa
