/- The model's FlowOpen. -/
import Derived.Test.YthokaemeadhkjaaFloO
namespace Go.Proofs.Ythokaemeadhkjaa
open Go.RowKit Go.PlainAid Go.Proofs.Ythokaemeadhkjaa.Bt Go.Sort
set_option linter.unusedVariables false
set_option maxRecDepth 20000
def SG (q : Nat) (pr : Int) (mc : ByteArray) (si sp di dp st un ow : Int) (W wx : World) : Prop := wx.cell? ⟨q, 0, none⟩ = some (.int .i64 pr) ∧ wx.cell? ⟨q, 1, none⟩ = some (.string mc) ∧ wx.cell? ⟨q, 2, none⟩ = some (.int .i64 si) ∧ wx.cell? ⟨q, 3, none⟩ = some (.int .i64 sp) ∧ wx.cell? ⟨q, 4, none⟩ = some (.int .i64 di) ∧ wx.cell? ⟨q, 5, none⟩ = some (.int .i64 dp) ∧ wx.cell? ⟨q, 6, none⟩ = some (.int .i64 st) ∧ wx.cell? ⟨q, 7, none⟩ = some (.int .i64 un) ∧ wx.cell? ⟨q, 8, none⟩ = some (.int .i64 ow) ∧ KeptE W wx
theorem SG.below {q : Nat} {pr : Int} {mc : ByteArray} {si sp di dp st un ow : Int} {W wx wy : World} (h : SG q pr mc si sp di dp st un ow W wx) (hq : q < W.heap.size) (hb : Below W.heap.size wx wy) : SG q pr mc si sp di dp st un ow W wy := by
  have key : ∀ j v, wx.cell? ⟨q, j, none⟩ = some v → wy.cell? ⟨q, j, none⟩ = some v := fun j v hc => by rw [hb.cell (by exact hq)]; exact hc
  exact ⟨key _ _ h.1, key _ _ h.2.1, key _ _ h.2.2.1, key _ _ h.2.2.2.1, key _ _ h.2.2.2.2.1, key _ _ h.2.2.2.2.2.1, key _ _ h.2.2.2.2.2.2.1, key _ _ h.2.2.2.2.2.2.2.1, key _ _ h.2.2.2.2.2.2.2.2.1, ⟨h.2.2.2.2.2.2.2.2.2.out.trans hb⟩⟩
/-- 'append(row, ys...)' within a region. -/
theorem step9 (w : World) {ops : Array Oper} {o : Oper} {a : Act} {K : Act → World → Prop} {Q : Exit → Act → World → Prop} {E : Prop} (hgd : o.guard = none) (s x : Operand)
    (ho : o.op = .call { callee := .builtin .append, args := #[s, x], argTypes := #[23, 23] })
    (B : Nat) (v : Value) (L : List FlowV) (hs : a.eval s = v) (hown : OwnS wvG 9 28 w B v L)
    (g off m c : Nat) (M : List FlowV) (hx : a.eval x = .slice (some ⟨g, off, none⟩) m c) (hM : M.length = m) (hn : ∀ j u, (flatS wvG M)[j]? = some u → w.cell? ⟨g, off + j, none⟩ = some u)
    (hlen : L.length + m ≤ 5000) (hB : B ≤ w.heap.size)
    (h : ∀ v' w', Hid (OwnS wvG 9 28 w' B v' (L ++ M) ∧ Below B w w' ∧ w.grownBy w' v.ownBlock) → K (a.put o.dst v') w') :
    if Region.wanted o (yielded ops a.tmps) = true then Oper.wp Try.prog o a w K Q else E := by
  have hw : Region.wanted o (yielded ops a.tmps) = true := by simp [Region.wanted, hgd]
  rw [if_pos hw]
  obtain ⟨i0, hi, hz0, hz1, hz2⟩ := info_parts infoFlow
  refine wp_append_own w s x 23 ho B 28 i0 (.agg #[.int .i64 0, .string ⟨#[]⟩, .int .i64 0, .int .i64 0, .int .i64 0, .int .i64 0, .int .i64 0, .int .i64 0, .int .i64 0]) 9 80 Try.underlying23 hi hz0 hz1 hz2 rfl (by decide) v L.length (flatS wvG L) hs hown ⟨g, off, none⟩ m c (flatS wvG M) hx (by rw [flatS_len wvG_len, hM]) (fun j u hu => by rw [addn]; exact hn j u hu)
    (one9 M) (by unfold maxLen; omega) (by omega) hB ?_
  intro v' w' h2 h3 _
  subst hM
  have hj := hown.join hB h2 h3
  exact h v' w' ⟨hj.1, hj.2, h3⟩
theorem t9_new (X : World) (pr : Int) (mc : ByteArray) (si sp di dp st un ow : Int) : ∀ j u, (flatS wvG [⟨pr, mc, si, sp, di, dp, st, un, ow⟩])[j]? = some u → (X.alloc (.cells #[.int .i64 pr, .string mc, .int .i64 si, .int .i64 sp, .int .i64 di, .int .i64 dp, .int .i64 st, .int .i64 un, .int .i64 ow] 28)).cell? ⟨X.heap.size, 0 + j, none⟩ = some u := one_cells (box_cells pr mc si sp di dp st un ow _)
theorem t9_old1 (W w4 : World) (pr : Int) (mc : ByteArray) (si sp di dp st un ow : Int) (e : TypeId) (hg : ((W.alloc (.cells #[] e)).alloc (.cells #[.int .i64 pr, .string mc, .int .i64 si, .int .i64 sp, .int .i64 di, .int .i64 dp, .int .i64 st, .int .i64 un, .int .i64 ow] 28)).drew.grownBy w4 (some W.heap.size)) : ∀ j u, (flatS wvG [⟨pr, mc, si, sp, di, dp, st, un, ow⟩])[j]? = some u → w4.cell? ⟨W.heap.size + 1, 0 + j, none⟩ = some u := by
  intro j u hu
  have h1 := t9_new (W.alloc (.cells #[] e)) pr mc si sp di dp st un ow j u hu
  rw [World.size_alloc] at h1
  exact hg.cell (a := ⟨W.heap.size + 1, 0 + j, none⟩) h1 (by simp)
theorem t9_old2 (W w4 : World) (pr : Int) (mc : ByteArray) (si sp di dp st un ow : Int) (e : TypeId) (hg : ((W.alloc (.cells #[.int .i64 pr, .string mc, .int .i64 si, .int .i64 sp, .int .i64 di, .int .i64 dp, .int .i64 st, .int .i64 un, .int .i64 ow] 28)).alloc (.cells #[] e)).drew.grownBy w4 (some (W.heap.size + 1))) : ∀ j u, (flatS wvG [⟨pr, mc, si, sp, di, dp, st, un, ow⟩])[j]? = some u → w4.cell? ⟨W.heap.size, 0 + j, none⟩ = some u := by
  intro j u hu
  have h1 := t9_new W pr mc si sp di dp st un ow j u hu
  exact hg.cell (a := ⟨W.heap.size, 0 + j, none⟩) (acell h1 (.cells #[] e)) (by simp)

set_option maxHeartbeats 1000000 in
theorem l09Open_full (b off len cap : Nat) (pr : Int) (mc : ByteArray) (si sp di dp st un ow : Int) (now : Int) (w : World) (h8 : len = 8) :
    Calls Try.prog 45 #[.slice (some ⟨b, off, none⟩) len cap, .agg #[.int .i64 pr, .string mc, .int .i64 si, .int .i64 sp, .int .i64 di, .int .i64 dp, .int .i64 st, .int .i64 un, .int .i64 ow], .int .i64 now] w fun e w' => e = .returned (.tuple #[.slice (some ⟨b, off, none⟩) len cap, .int .i64 7]) ∧ Grw w w' := by
  have hz : ((len : Int) == 8) = true := by simp; omega
  clear h8
  go_enter Try.func45, Try.ntmps45
  go_wp2
  go_ret2
  exact ⟨rfl, (Grw.refl _).alloc _⟩
set_option maxHeartbeats 2000000 in
theorem l09Open_more (b off len cap : Nat) (fs : List FlowV) (pr : Int) (mc : ByteArray) (si sp di dp st un ow : Int) (now : Int) (w : World) (h : Rw FlR 9 w (some ⟨b, off, none⟩) fs) (hl : fs.length = len) (h8 : len < 8) (hn : 0 ≤ now ∧ now ≤ 100000) :
    Calls Try.prog 45 #[.slice (some ⟨b, off, none⟩) len cap, .agg #[.int .i64 pr, .string mc, .int .i64 si, .int .i64 sp, .int .i64 di, .int .i64 dp, .int .i64 st, .int .i64 un, .int .i64 ow], .int .i64 now] w fun e w' => ∃ v, e = .returned (.tuple #[v, .int .i64 0]) ∧ OwnS wvG 9 28 w' w.heap.size v (fs ++ [⟨pr, mc, si, sp, di, dp, 1, now + wtN pr 1, ow⟩]) ∧ Below w.heap.size w w' := by
  have hz : ((len : Int) == 8) = false := by simp; omega
  have RC : Hid (∀ w2, Below w.heap.size w w2 → ∀ j u, (flatS wvG fs)[j]? = some u → w2.cell? ⟨b, off + j, none⟩ = some u) := fun w2 hb => flat_rw (h.keep FR.kp hb) wvG_len (by omega)
  have T : Hid (∀ w, Calls Try.prog 75 #[.int .i64 pr, .int .i64 1] w fun e w' => e = .returned (.int .i64 (wtN pr 1)) ∧ w' = w) := fun w => l09Wait_any pr 1 w
  have hb := wtN_bd pr 1
  generalize wtN pr 1 = n at T hb ⊢
  clear h
  go_enter Try.func45, Try.ntmps45
  go_wp2_with fail
  refine (T.out _).mono ?_
  rintro e w9 ⟨rfl, rfl⟩
  obtain ⟨W, hW⟩ : ∃ W, W = w.alloc (.cells #[.int .i64 pr, .string mc, .int .i64 si, .int .i64 sp, .int .i64 di, .int .i64 dp, .int .i64 1, .int .i64 (now + n), .int .i64 ow] 28) := ⟨_, rfl⟩
  have SS : Hid (SG w.heap.size pr mc si sp di dp 1 (now + n) ow W W.drew) := by
    subst hW
    exact ⟨by simp [go_sem], by simp [go_sem], by simp [go_sem], by simp [go_sem], by simp [go_sem], by simp [go_sem], by simp [go_sem], by simp [go_sem], by simp [go_sem], ⟨(Below.refl _ _).drew⟩⟩
  have hqW : Hid (w.heap.size < W.heap.size) := by show _ < _; rw [hW]; simp
  have BW : Hid (Below w.heap.size w W) := by rw [hW]; exact (Below.refl _ _).alloc (Nat.le_refl _) _
  have PA : Hid (∀ wx, SG w.heap.size pr mc si sp di dp 1 (now + n) ow W wx → ∀ j u, (flatS wvG fs)[j]? = some u → wx.cell? ⟨b, off + j, none⟩ = some u) := fun wx hx => RC.out wx (BW.out.trans (hx.2.2.2.2.2.2.2.2.2.out.mono BW.out.size))
  have L1 : Hid (OwnS wvG 9 28 (W.alloc (.cells #[] 28)) W.heap.size (.slice (some ⟨W.heap.size, 0, none⟩) 0 0) []) := OwnS.lit W _ (Nat.le_refl _)
  have L2 : Hid (∀ o, OwnS wvG 9 28 ((W.alloc (.cells #[] 28)).alloc o) W.heap.size (.slice (some ⟨W.heap.size, 0, none⟩) 0 0) []) := fun o => L1.out.now ((Below.refl _ _).alloc (Nat.le_refl _) o)
  have L3 : Hid (∀ o, OwnS wvG 9 28 ((W.alloc o).alloc (.cells #[] 28)) W.heap.size (.slice (some ⟨W.heap.size + 1, 0, none⟩) 0 0) []) := fun o => by
    have := OwnS.lit (α := FlowV) (c := wvG) (K := 9) (e := 28) (W.alloc o) W.heap.size (by simp)
    rw [World.size_alloc] at this
    exact this
  have SC : Hid (∀ wx o, SG w.heap.size pr mc si sp di dp 1 (now + n) ow W wx → SG w.heap.size pr mc si sp di dp 1 (now + n) ow W (wx.alloc o)) := fun wx o h => h.below hqW.out ((Below.refl _ _).alloc h.2.2.2.2.2.2.2.2.2.out.size o)
  have KS : Hid (∀ wx, SG w.heap.size pr mc si sp di dp 1 (now + n) ow W wx → W.heap.size ≤ wx.heap.size) := fun wx h => h.2.2.2.2.2.2.2.2.2.out.size
  have SA : Hid (∀ wx o, SG w.heap.size pr mc si sp di dp 1 (now + n) ow W wx → SG w.heap.size pr mc si sp di dp 1 (now + n) ow W (wx.alloc o).drew) := fun wx o h => h.below hqW.out ((Below.refl _ _).alloc h.2.2.2.2.2.2.2.2.2.out.size o).drew
  have SB : Hid (∀ wx wy, Below W.heap.size wx wy → SG w.heap.size pr mc si sp di dp 1 (now + n) ow W wx → SG w.heap.size pr mc si sp di dp 1 (now + n) ow W wy) := fun wx wy hb h => h.below hqW.out hb
  have TN : Hid (∀ X : World, ∀ j u, (flatS wvG [⟨pr, mc, si, sp, di, dp, 1, now + n, ow⟩])[j]? = some u → (X.alloc (.cells #[.int .i64 pr, .string mc, .int .i64 si, .int .i64 sp, .int .i64 di, .int .i64 dp, .int .i64 1, .int .i64 (now + n), .int .i64 ow] 28)).cell? ⟨X.heap.size, 0 + j, none⟩ = some u) := fun X => t9_new X pr mc si sp di dp 1 (now + n) ow
  have TO1 : Hid (∀ w4, ((W.alloc (.cells #[] 28)).alloc (.cells #[.int .i64 pr, .string mc, .int .i64 si, .int .i64 sp, .int .i64 di, .int .i64 dp, .int .i64 1, .int .i64 (now + n), .int .i64 ow] 28)).drew.grownBy w4 (some W.heap.size) → ∀ j u, (flatS wvG [⟨pr, mc, si, sp, di, dp, 1, now + n, ow⟩])[j]? = some u → w4.cell? ⟨W.heap.size + 1, 0 + j, none⟩ = some u) := fun w4 hg => t9_old1 W w4 pr mc si sp di dp 1 (now + n) ow _ hg
  have TO2 : Hid (∀ w4, ((W.alloc (.cells #[.int .i64 pr, .string mc, .int .i64 si, .int .i64 sp, .int .i64 di, .int .i64 dp, .int .i64 1, .int .i64 (now + n), .int .i64 ow] 28)).alloc (.cells #[] 28)).drew.grownBy w4 (some (W.heap.size + 1)) → ∀ j u, (flatS wvG [⟨pr, mc, si, sp, di, dp, 1, now + n, ow⟩])[j]? = some u → w4.cell? ⟨W.heap.size, 0 + j, none⟩ = some u) := fun w4 hg => t9_old2 W w4 pr mc si sp di dp 1 (now + n) ow _ hg
  go_wp2_with fail
  rw [← hW]
  clear hW
  go_region_held3 (fun wx => wx.cell? ⟨w.heap.size, 0, none⟩ = some (.int .i64 pr) ∧ wx.cell? ⟨w.heap.size, 1, none⟩ = some (.string mc) ∧ wx.cell? ⟨w.heap.size, 2, none⟩ = some (.int .i64 si) ∧ wx.cell? ⟨w.heap.size, 3, none⟩ = some (.int .i64 sp) ∧ wx.cell? ⟨w.heap.size, 4, none⟩ = some (.int .i64 di) ∧ wx.cell? ⟨w.heap.size, 5, none⟩ = some (.int .i64 dp) ∧ wx.cell? ⟨w.heap.size, 6, none⟩ = some (.int .i64 1) ∧ wx.cell? ⟨w.heap.size, 7, none⟩ = some (.int .i64 (now + n)) ∧ wx.cell? ⟨w.heap.size, 8, none⟩ = some (.int .i64 ow) ∧ KeptE W wx)
    (first | exact SS.out | exact SA.out _ _ (by assumption) | exact SC.out _ _ (by assumption) | exact SB.out _ _ hB5 (by assumption) | exact SB.out _ _ hB4 (by assumption))
    (first
      | (refine step9 _ (by rfl) (.tmp 19) (.tmp 20) (by rfl) W.heap.size _ [] (by rfl) (by first | exact L1.out | exact L2.out _ | exact L3.out _) b off len _ fs (by rfl) hl (PA.out _ (by assumption)) (by simp; omega) (KS.out _ (by assumption)) ?_; intro v4 w4 Y4; have hB4 := Y4.out.2.1)
      | (refine step9 _ (by rfl) (.tmp 21) (.tmp 23) (by rfl) W.heap.size v4 ([] ++ fs) (by rfl) (by first | exact Y4.out.1 | exact Y4.out.1.now ((Below.refl _ _).alloc (Nat.le_refl _) _)) _ 0 1 1 [⟨pr, mc, si, sp, di, dp, 1, now + n, ow⟩] (by rfl) rfl (by first | exact TN.out _ | exact TO1.out _ Y4.out.2.2 | exact TO2.out _ Y4.out.2.2) (by simp; omega) (KS.out _ (by assumption)) ?_; intro v5 w5 Y5; have hB5 := Y5.out.2.1))
  all_goals
    have F5 : Hid (OwnS wvG 9 28 w5 W.heap.size v5 (fs ++ [⟨pr, mc, si, sp, di, dp, 1, now + n, ow⟩]) ∧ KeptE W w5) := ⟨Y5.out.1, (show SG w.heap.size pr mc si sp di dp 1 (now + n) ow W w5 by assumption).2.2.2.2.2.2.2.2.2⟩
    go_wp2
    go_ret2
    exact ⟨_, rfl, F5.out.1.lower (Nat.le_of_lt hqW.out), BW.out.trans (F5.out.2.out.mono (Nat.le_of_lt hqW.out))⟩
theorem opL_len9 (fs : List FlowV) (f : FlowV) (now : Int) : (opL fs f now).length ≤ 9 := by
  by_cases hf : ffC fs = 0
  · have h8 : fs.length ≤ 8 := by
      rcases ff_cases fs with h1 | h1 | h1
      · have := h1.2; omega
      · have := h1.2.2; omega
      · exact (foB_says h1.2.1).1
    exact Nat.le_trans (opL_len fs f now) (by omega)
  · unfold opL
    rw [if_pos hf]
    simp
set_option maxHeartbeats 4000000 in
theorem specOpen_any (b off len cap : Nat) (fs : List FlowV) (pr : Int) (mc : ByteArray) (si sp di dp st un ow : Int) (now : Int) (w : World) (h : Rw FlR 9 w (some ⟨b, off, none⟩) fs) (hok : ∀ x, x ∈ fs → FlRok x) (hl : fs.length = len) (hm : len ≤ 1048576) (hc : len ≤ cap) (hfk : FlRok ⟨pr, mc, si, sp, di, dp, st, un, ow⟩) :
    Calls Try.prog 12 #[.slice (some ⟨b, off, none⟩) len cap, .agg #[.int .i64 pr, .string mc, .int .i64 si, .int .i64 sp, .int .i64 di, .int .i64 dp, .int .i64 st, .int .i64 un, .int .i64 ow], .int .i64 now] w fun e w' => ∃ v, e = .returned (.tuple #[v, .int .i64 (opC fs ⟨pr, mc, si, sp, di, dp, st, un, ow⟩ now)]) ∧ OwnS wvG 9 28 w' w.heap.size v (opL fs ⟨pr, mc, si, sp, di, dp, st, un, ow⟩ now) ∧ Below w.heap.size w w' := by
  have RW : Hid (Rw FlR 9 w (some ⟨b, off, none⟩) fs) := h
  have RC : Hid (∀ w2, Below w.heap.size w w2 → ∀ j u, (flatS wvG fs)[j]? = some u → w2.cell? ⟨b, off + j, none⟩ = some u) := fun w2 hb => flat_rw (h.keep FR.kp hb) wvG_len (by omega)
  have HF : Hid (∀ w, Rw FlR 9 w (some ⟨b, off, none⟩) fs → Calls Try.prog 23 #[.slice (some ⟨b, off, none⟩) len cap] w fun e w' => e = .returned (.bool (foB fs)) ∧ Grw w w') := fun w h => specFlowsOK_any _ len cap fs w h hl hm
  have H1 : Hid (∀ w, Calls Try.prog 42 #[.agg #[.int .i64 pr, .string mc, .int .i64 si, .int .i64 sp, .int .i64 di, .int .i64 dp, .int .i64 1, .int .i64 0, .int .i64 ow]] w fun e w' => e = .returned (.bool (flB ⟨pr, mc, si, sp, di, dp, 1, 0, ow⟩)) ∧ Grw w w') := fun w => l09Flow_any pr mc si sp di dp 1 0 ow w
  have H2 : Hid (∀ w, Calls Try.prog 43 #[.int .i64 now, .int .i64 0, .int .i64 100000] w fun e w' => e = .returned (.bool (dec (0 ≤ now ∧ now ≤ 100000))) ∧ w' = w) := fun w => specIn_any now 0 100000 w
  rcases ff_cases fs with ⟨h4, hf⟩ | ⟨h4, hq, hf⟩ | ⟨h4, hq, hf⟩
  · have E1 : Hid (opC fs ⟨pr, mc, si, sp, di, dp, st, un, ow⟩ now = 2) := by show opC _ _ _ = 2; unfold opC; rw [if_pos (by rw [hf]; decide), hf]
    have E2 : Hid (opL fs ⟨pr, mc, si, sp, di, dp, st, un, ow⟩ now = []) := by show opL _ _ _ = []; unfold opL; rw [if_pos (by rw [hf]; decide)]
    rw [E1.out, E2.out]
    have hz : (4096 : Int) < (len : Int) := by omega
    clear E1 E2 h HF H1 H2
    go_enter Try.func12, Try.ntmps12
    go_wp2
    go_ret2
    exact ⟨_, rfl, (by
      have := OwnS.lit (α := FlowV) (c := wvG) (K := 9) (e := 28) (w.alloc (.cells #[.int .i64 pr, .string mc, .int .i64 si, .int .i64 sp, .int .i64 di, .int .i64 dp, .int .i64 st, .int .i64 un, .int .i64 ow] 28)) w.heap.size (by simp)
      rw [World.size_alloc] at this
      exact this), ((Below.refl _ _).alloc (Nat.le_refl _) _).alloc (by simp) _⟩
  · have E1 : Hid (opC fs ⟨pr, mc, si, sp, di, dp, st, un, ow⟩ now = 1) := by show opC _ _ _ = 1; unfold opC; rw [if_pos (by rw [hf]; decide), hf]
    have E2 : Hid (opL fs ⟨pr, mc, si, sp, di, dp, st, un, ow⟩ now = []) := by show opL _ _ _ = []; unfold opL; rw [if_pos (by rw [hf]; decide)]
    rw [E1.out, E2.out]
    rw [hq] at HF
    have hz : decide ((4096 : Int) < (len : Int)) = false := by simp; omega
    clear E1 E2 h hq H1 H2
    go_enter Try.func12, Try.ntmps12
    go_wp2_with fail
    refine (HF.out _ (RW.out.keep FR.kp ((Below.refl _ _).alloc (Nat.le_refl _) _))).mono ?_
    rintro e w2 ⟨rfl, g2⟩
    have G2 : Hid (Grw w w2) := ((Grw.refl _).alloc _).trans g2
    clear g2
    go_wp2
    go_ret2
    exact ⟨_, rfl, OwnS.lit w2 _ G2.out.below.size, (G2.out.alloc _).below⟩
  have h8 : len ≤ 8 := by have := (foB_says hq).1; omega
  have E1 : opC fs ⟨pr, mc, si, sp, di, dp, st, un, ow⟩ now = if flB ⟨pr, mc, si, sp, di, dp, 1, 0, ow⟩ = false then 1 else if dec (0 ≤ now ∧ now ≤ 100000) = false then 4 else if fkT (plM fs fs.length) ⟨pr, si, sp, di, dp⟩ = true then 9 else if fs.length = 8 then 7 else 0 := if_neg (by simp [hf])
  have E2 : opL fs ⟨pr, mc, si, sp, di, dp, st, un, ow⟩ now = if flB ⟨pr, mc, si, sp, di, dp, 1, 0, ow⟩ = false then [] else if dec (0 ≤ now ∧ now ≤ 100000) = false then [] else if fkT (plM fs fs.length) ⟨pr, si, sp, di, dp⟩ = true then fs else if fs.length = 8 then fs else fs ++ [⟨pr, mc, si, sp, di, dp, 1, now + wtN pr 1, ow⟩] := if_neg (by simp [hf])
  rw [hq] at HF
  have H3 : Hid (∀ w, Rw FlR 9 w (some ⟨b, off, none⟩) fs → Calls Try.prog 44 #[.slice (some ⟨b, off, none⟩) len cap, .int .i64 pr, .int .i64 si, .int .i64 sp, .int .i64 di, .int .i64 dp] w fun e w' => e = .returned (.tuple #[.int .i64 (lfK (plM fs fs.length) ⟨pr, si, sp, di, dp⟩), .bool (fkB (plM fs fs.length) ⟨pr, si, sp, di, dp⟩)]) ∧ Grw w w') := fun w h => l09Find_any _ len cap fs pr si sp di dp w h hl (by omega) (foB_says hq).2.2
  have EL : lfK (plM fs fs.length) ⟨pr, si, sp, di, dp⟩ = if fkT (plM fs fs.length) ⟨pr, si, sp, di, dp⟩ = true then fkK (plM fs fs.length) ⟨pr, si, sp, di, dp⟩ else -1 := rfl
  have H0 : 0 ≤ fkK (plM fs fs.length) ⟨pr, si, sp, di, dp⟩ := fkK_nn fs ⟨pr, si, sp, di, dp⟩
  have H4 : Hid (len = 8 → ∀ w, Calls Try.prog 45 #[.slice (some ⟨b, off, none⟩) len cap, .agg #[.int .i64 pr, .string mc, .int .i64 si, .int .i64 sp, .int .i64 di, .int .i64 dp, .int .i64 1, .int .i64 0, .int .i64 ow], .int .i64 now] w fun e w' => e = .returned (.tuple #[.slice (some ⟨b, off, none⟩) len cap, .int .i64 7]) ∧ Grw w w') := fun h w => l09Open_full b off len cap pr mc si sp di dp 1 0 ow now w h
  have H5 : Hid (len < 8 → dec (0 ≤ now ∧ now ≤ 100000) = true → ∀ w, Rw FlR 9 w (some ⟨b, off, none⟩) fs → Calls Try.prog 45 #[.slice (some ⟨b, off, none⟩) len cap, .agg #[.int .i64 pr, .string mc, .int .i64 si, .int .i64 sp, .int .i64 di, .int .i64 dp, .int .i64 1, .int .i64 0, .int .i64 ow], .int .i64 now] w fun e w' => ∃ v, e = .returned (.tuple #[v, .int .i64 0]) ∧ OwnS wvG 9 28 w' w.heap.size v (fs ++ [⟨pr, mc, si, sp, di, dp, 1, now + wtN pr 1, ow⟩]) ∧ Below w.heap.size w w') := fun h hn w hr => l09Open_more b off len cap fs pr mc si sp di dp 1 0 ow now w hr hl h (by simpa [dec] using hn)
  have hz : decide ((4096 : Int) < (len : Int)) = false := by simp; omega
  clear h hok hf hfk hq
  generalize fkK (plM fs fs.length) ⟨pr, si, sp, di, dp⟩ = z0 at EL H0
  generalize fkB (plM fs fs.length) ⟨pr, si, sp, di, dp⟩ = z1 at H3
  generalize lfK (plM fs fs.length) ⟨pr, si, sp, di, dp⟩ = z3 at EL H3
  generalize fkT (plM fs fs.length) ⟨pr, si, sp, di, dp⟩ = z2 at EL E1 E2
  generalize flB ⟨pr, mc, si, sp, di, dp, 1, 0, ow⟩ = t1 at H1 E1 E2
  generalize dec (0 ≤ now ∧ now ≤ 100000) = t2 at H2 H5 E1 E2
  generalize opC fs ⟨pr, mc, si, sp, di, dp, st, un, ow⟩ now = y1 at E1 ⊢
  generalize opL fs ⟨pr, mc, si, sp, di, dp, st, un, ow⟩ now = y2 at E2 ⊢
  cases t1 with
  | false =>
    rw [if_pos rfl] at E1 E2
    subst E1
    rw [E2]
    clear E2
    go_enter Try.func12, Try.ntmps12
    go_wp2_with fail
    refine (HF.out _ (RW.out.keep FR.kp ((Below.refl _ _).alloc (Nat.le_refl _) _))).mono ?_
    rintro e w2 ⟨rfl, g2⟩
    have k0 : w2.cell? ⟨w.heap.size, 0, none⟩ = some (.int .i64 pr) := g2.keep (by simp [go_sem])
    have k1 : w2.cell? ⟨w.heap.size, 1, none⟩ = some (.string mc) := g2.keep (by simp [go_sem])
    have k2 : w2.cell? ⟨w.heap.size, 2, none⟩ = some (.int .i64 si) := g2.keep (by simp [go_sem])
    have k3 : w2.cell? ⟨w.heap.size, 3, none⟩ = some (.int .i64 sp) := g2.keep (by simp [go_sem])
    have k4 : w2.cell? ⟨w.heap.size, 4, none⟩ = some (.int .i64 di) := g2.keep (by simp [go_sem])
    have k5 : w2.cell? ⟨w.heap.size, 5, none⟩ = some (.int .i64 dp) := g2.keep (by simp [go_sem])
    have k6 : w2.cell? ⟨w.heap.size, 6, none⟩ = some (.int .i64 1) := g2.keep (by simp [go_sem])
    have k7 : w2.cell? ⟨w.heap.size, 7, none⟩ = some (.int .i64 0) := g2.keep (by simp [go_sem])
    have k8 : w2.cell? ⟨w.heap.size, 8, none⟩ = some (.int .i64 ow) := g2.keep (by simp [go_sem])
    have G2 : Hid (Grw w w2) := ((Grw.refl _).alloc _).trans g2
    clear g2
    go_wp2_with fail
    refine (H1.out _).mono ?_
    rintro e w3 ⟨rfl, g3⟩
    have G3 : Hid (Grw w w3) := G2.out.trans g3
    have m0 : w3.cell? ⟨w.heap.size, 0, none⟩ = some (.int .i64 pr) := g3.keep k0
    have m1 : w3.cell? ⟨w.heap.size, 1, none⟩ = some (.string mc) := g3.keep k1
    have m2 : w3.cell? ⟨w.heap.size, 2, none⟩ = some (.int .i64 si) := g3.keep k2
    have m3 : w3.cell? ⟨w.heap.size, 3, none⟩ = some (.int .i64 sp) := g3.keep k3
    have m4 : w3.cell? ⟨w.heap.size, 4, none⟩ = some (.int .i64 di) := g3.keep k4
    have m5 : w3.cell? ⟨w.heap.size, 5, none⟩ = some (.int .i64 dp) := g3.keep k5
    have m6 : w3.cell? ⟨w.heap.size, 6, none⟩ = some (.int .i64 1) := g3.keep k6
    have m7 : w3.cell? ⟨w.heap.size, 7, none⟩ = some (.int .i64 0) := g3.keep k7
    have m8 : w3.cell? ⟨w.heap.size, 8, none⟩ = some (.int .i64 ow) := g3.keep k8
    clear g3 G2 k0 k1 k2 k3 k4 k5 k6 k7 k8
    go_wp2
    go_ret2
    exact ⟨_, rfl, OwnS.lit w3 _ G3.out.below.size, (G3.out.alloc _).below⟩
  | true =>
    rw [if_neg (by simp)] at E1 E2
    cases t2 with
    | false =>
      rw [if_pos rfl] at E1 E2
      subst E1
      rw [E2]
      clear E2
      go_enter Try.func12, Try.ntmps12
      go_wp2_with fail
      refine (HF.out _ (RW.out.keep FR.kp ((Below.refl _ _).alloc (Nat.le_refl _) _))).mono ?_
      rintro e w2 ⟨rfl, g2⟩
      have k0 : w2.cell? ⟨w.heap.size, 0, none⟩ = some (.int .i64 pr) := g2.keep (by simp [go_sem])
      have k1 : w2.cell? ⟨w.heap.size, 1, none⟩ = some (.string mc) := g2.keep (by simp [go_sem])
      have k2 : w2.cell? ⟨w.heap.size, 2, none⟩ = some (.int .i64 si) := g2.keep (by simp [go_sem])
      have k3 : w2.cell? ⟨w.heap.size, 3, none⟩ = some (.int .i64 sp) := g2.keep (by simp [go_sem])
      have k4 : w2.cell? ⟨w.heap.size, 4, none⟩ = some (.int .i64 di) := g2.keep (by simp [go_sem])
      have k5 : w2.cell? ⟨w.heap.size, 5, none⟩ = some (.int .i64 dp) := g2.keep (by simp [go_sem])
      have k6 : w2.cell? ⟨w.heap.size, 6, none⟩ = some (.int .i64 1) := g2.keep (by simp [go_sem])
      have k7 : w2.cell? ⟨w.heap.size, 7, none⟩ = some (.int .i64 0) := g2.keep (by simp [go_sem])
      have k8 : w2.cell? ⟨w.heap.size, 8, none⟩ = some (.int .i64 ow) := g2.keep (by simp [go_sem])
      have G2 : Hid (Grw w w2) := ((Grw.refl _).alloc _).trans g2
      clear g2
      go_wp2_with fail
      refine (H1.out _).mono ?_
      rintro e w3 ⟨rfl, g3⟩
      have G3 : Hid (Grw w w3) := G2.out.trans g3
      have m0 : w3.cell? ⟨w.heap.size, 0, none⟩ = some (.int .i64 pr) := g3.keep k0
      have m1 : w3.cell? ⟨w.heap.size, 1, none⟩ = some (.string mc) := g3.keep k1
      have m2 : w3.cell? ⟨w.heap.size, 2, none⟩ = some (.int .i64 si) := g3.keep k2
      have m3 : w3.cell? ⟨w.heap.size, 3, none⟩ = some (.int .i64 sp) := g3.keep k3
      have m4 : w3.cell? ⟨w.heap.size, 4, none⟩ = some (.int .i64 di) := g3.keep k4
      have m5 : w3.cell? ⟨w.heap.size, 5, none⟩ = some (.int .i64 dp) := g3.keep k5
      have m6 : w3.cell? ⟨w.heap.size, 6, none⟩ = some (.int .i64 1) := g3.keep k6
      have m7 : w3.cell? ⟨w.heap.size, 7, none⟩ = some (.int .i64 0) := g3.keep k7
      have m8 : w3.cell? ⟨w.heap.size, 8, none⟩ = some (.int .i64 ow) := g3.keep k8
      clear g3 G2 k0 k1 k2 k3 k4 k5 k6 k7 k8
      go_wp2_with fail
      refine (H2.out _).mono ?_
      rintro e w9 ⟨rfl, rfl⟩
      go_wp2
      go_ret2
      exact ⟨_, rfl, OwnS.lit _ _ G3.out.below.size, (G3.out.alloc _).below⟩
    | true =>
      rw [if_neg (by simp)] at E1 E2
      cases z2 with
      | true =>
        rw [if_pos rfl] at E1 E2
        subst E1
        rw [E2]
        clear E2
        rw [if_pos rfl] at EL
        have hge : decide (0 ≤ z3) = true := by rw [EL]; simp; omega
        clear EL
        go_enter Try.func12, Try.ntmps12
        go_wp2_with fail
        refine (HF.out _ (RW.out.keep FR.kp ((Below.refl _ _).alloc (Nat.le_refl _) _))).mono ?_
        rintro e w2 ⟨rfl, g2⟩
        have k0 : w2.cell? ⟨w.heap.size, 0, none⟩ = some (.int .i64 pr) := g2.keep (by simp [go_sem])
        have k1 : w2.cell? ⟨w.heap.size, 1, none⟩ = some (.string mc) := g2.keep (by simp [go_sem])
        have k2 : w2.cell? ⟨w.heap.size, 2, none⟩ = some (.int .i64 si) := g2.keep (by simp [go_sem])
        have k3 : w2.cell? ⟨w.heap.size, 3, none⟩ = some (.int .i64 sp) := g2.keep (by simp [go_sem])
        have k4 : w2.cell? ⟨w.heap.size, 4, none⟩ = some (.int .i64 di) := g2.keep (by simp [go_sem])
        have k5 : w2.cell? ⟨w.heap.size, 5, none⟩ = some (.int .i64 dp) := g2.keep (by simp [go_sem])
        have k6 : w2.cell? ⟨w.heap.size, 6, none⟩ = some (.int .i64 1) := g2.keep (by simp [go_sem])
        have k7 : w2.cell? ⟨w.heap.size, 7, none⟩ = some (.int .i64 0) := g2.keep (by simp [go_sem])
        have k8 : w2.cell? ⟨w.heap.size, 8, none⟩ = some (.int .i64 ow) := g2.keep (by simp [go_sem])
        have G2 : Hid (Grw w w2) := ((Grw.refl _).alloc _).trans g2
        clear g2
        go_wp2_with fail
        refine (H1.out _).mono ?_
        rintro e w3 ⟨rfl, g3⟩
        have G3 : Hid (Grw w w3) := G2.out.trans g3
        have m0 : w3.cell? ⟨w.heap.size, 0, none⟩ = some (.int .i64 pr) := g3.keep k0
        have m1 : w3.cell? ⟨w.heap.size, 1, none⟩ = some (.string mc) := g3.keep k1
        have m2 : w3.cell? ⟨w.heap.size, 2, none⟩ = some (.int .i64 si) := g3.keep k2
        have m3 : w3.cell? ⟨w.heap.size, 3, none⟩ = some (.int .i64 sp) := g3.keep k3
        have m4 : w3.cell? ⟨w.heap.size, 4, none⟩ = some (.int .i64 di) := g3.keep k4
        have m5 : w3.cell? ⟨w.heap.size, 5, none⟩ = some (.int .i64 dp) := g3.keep k5
        have m6 : w3.cell? ⟨w.heap.size, 6, none⟩ = some (.int .i64 1) := g3.keep k6
        have m7 : w3.cell? ⟨w.heap.size, 7, none⟩ = some (.int .i64 0) := g3.keep k7
        have m8 : w3.cell? ⟨w.heap.size, 8, none⟩ = some (.int .i64 ow) := g3.keep k8
        clear g3 G2 k0 k1 k2 k3 k4 k5 k6 k7 k8
        go_wp2_with fail
        refine (H2.out _).mono ?_
        rintro e w9 ⟨rfl, rfl⟩
        go_wp2_with fail
        refine (H3.out _ (RW.out.keep FR.kp G3.out.below)).mono ?_
        rintro e w4 ⟨rfl, g4⟩
        have G4 : Hid (Grw w w4) := G3.out.trans g4
        have n0 : w4.cell? ⟨w.heap.size, 0, none⟩ = some (.int .i64 pr) := g4.keep m0
        have n1 : w4.cell? ⟨w.heap.size, 1, none⟩ = some (.string mc) := g4.keep m1
        have n2 : w4.cell? ⟨w.heap.size, 2, none⟩ = some (.int .i64 si) := g4.keep m2
        have n3 : w4.cell? ⟨w.heap.size, 3, none⟩ = some (.int .i64 sp) := g4.keep m3
        have n4 : w4.cell? ⟨w.heap.size, 4, none⟩ = some (.int .i64 di) := g4.keep m4
        have n5 : w4.cell? ⟨w.heap.size, 5, none⟩ = some (.int .i64 dp) := g4.keep m5
        have n6 : w4.cell? ⟨w.heap.size, 6, none⟩ = some (.int .i64 1) := g4.keep m6
        have n7 : w4.cell? ⟨w.heap.size, 7, none⟩ = some (.int .i64 0) := g4.keep m7
        have n8 : w4.cell? ⟨w.heap.size, 8, none⟩ = some (.int .i64 ow) := g4.keep m8
        clear g4 G3 m0 m1 m2 m3 m4 m5 m6 m7 m8
        go_wp2_with (at_builtin; refine wpl_flows _ rfl (.tmp 48) (.tmp 49) rfl w4.heap.size _ [] fs rfl (OwnS.lit w4 _ (Nat.le_refl _)) b off len cap hl rfl (fun j u hu => acell (RC.out w4 G4.out.below j u hu) _) (by simp; omega) (by simp) ?_; intro v' w10 Y _)
        have Y2 : Hid (OwnS wvG 9 28 w10 w4.heap.size v' fs ∧ Below w.heap.size w w10) := ⟨Y.out.1, (G4.out.below.alloc G4.out.below.size _).trans (Y.out.2.mono G4.out.below.size)⟩
        clear Y
        go_wp2
        go_ret2
        exact ⟨_, rfl, Y2.out.1.lower G4.out.below.size, Y2.out.2⟩
      | false =>
        rw [if_neg (by simp)] at E1 E2 EL
        have hge : decide (0 ≤ z3) = false := by rw [EL]; simp
        clear EL
        by_cases h8e : len = 8
        · rw [hl, if_pos h8e] at E1 E2
          subst E1
          rw [E2]
          clear E2
          have H6 : Hid (∀ w, Calls Try.prog 45 #[.slice (some ⟨b, off, none⟩) len cap, .agg #[.int .i64 pr, .string mc, .int .i64 si, .int .i64 sp, .int .i64 di, .int .i64 dp, .int .i64 1, .int .i64 0, .int .i64 ow], .int .i64 now] w fun e w' => e = .returned (.tuple #[.slice (some ⟨b, off, none⟩) len cap, .int .i64 7]) ∧ Grw w w') := H4.out h8e
          clear h8e
          clear H4 H5
          go_enter Try.func12, Try.ntmps12
          go_wp2_with fail
          refine (HF.out _ (RW.out.keep FR.kp ((Below.refl _ _).alloc (Nat.le_refl _) _))).mono ?_
          rintro e w2 ⟨rfl, g2⟩
          have k0 : w2.cell? ⟨w.heap.size, 0, none⟩ = some (.int .i64 pr) := g2.keep (by simp [go_sem])
          have k1 : w2.cell? ⟨w.heap.size, 1, none⟩ = some (.string mc) := g2.keep (by simp [go_sem])
          have k2 : w2.cell? ⟨w.heap.size, 2, none⟩ = some (.int .i64 si) := g2.keep (by simp [go_sem])
          have k3 : w2.cell? ⟨w.heap.size, 3, none⟩ = some (.int .i64 sp) := g2.keep (by simp [go_sem])
          have k4 : w2.cell? ⟨w.heap.size, 4, none⟩ = some (.int .i64 di) := g2.keep (by simp [go_sem])
          have k5 : w2.cell? ⟨w.heap.size, 5, none⟩ = some (.int .i64 dp) := g2.keep (by simp [go_sem])
          have k6 : w2.cell? ⟨w.heap.size, 6, none⟩ = some (.int .i64 1) := g2.keep (by simp [go_sem])
          have k7 : w2.cell? ⟨w.heap.size, 7, none⟩ = some (.int .i64 0) := g2.keep (by simp [go_sem])
          have k8 : w2.cell? ⟨w.heap.size, 8, none⟩ = some (.int .i64 ow) := g2.keep (by simp [go_sem])
          have G2 : Hid (Grw w w2) := ((Grw.refl _).alloc _).trans g2
          clear g2
          go_wp2_with fail
          refine (H1.out _).mono ?_
          rintro e w3 ⟨rfl, g3⟩
          have G3 : Hid (Grw w w3) := G2.out.trans g3
          have m0 : w3.cell? ⟨w.heap.size, 0, none⟩ = some (.int .i64 pr) := g3.keep k0
          have m1 : w3.cell? ⟨w.heap.size, 1, none⟩ = some (.string mc) := g3.keep k1
          have m2 : w3.cell? ⟨w.heap.size, 2, none⟩ = some (.int .i64 si) := g3.keep k2
          have m3 : w3.cell? ⟨w.heap.size, 3, none⟩ = some (.int .i64 sp) := g3.keep k3
          have m4 : w3.cell? ⟨w.heap.size, 4, none⟩ = some (.int .i64 di) := g3.keep k4
          have m5 : w3.cell? ⟨w.heap.size, 5, none⟩ = some (.int .i64 dp) := g3.keep k5
          have m6 : w3.cell? ⟨w.heap.size, 6, none⟩ = some (.int .i64 1) := g3.keep k6
          have m7 : w3.cell? ⟨w.heap.size, 7, none⟩ = some (.int .i64 0) := g3.keep k7
          have m8 : w3.cell? ⟨w.heap.size, 8, none⟩ = some (.int .i64 ow) := g3.keep k8
          clear g3 G2 k0 k1 k2 k3 k4 k5 k6 k7 k8
          go_wp2_with fail
          refine (H2.out _).mono ?_
          rintro e w9 ⟨rfl, rfl⟩
          go_wp2_with fail
          refine (H3.out _ (RW.out.keep FR.kp G3.out.below)).mono ?_
          rintro e w4 ⟨rfl, g4⟩
          have G4 : Hid (Grw w w4) := G3.out.trans g4
          have n0 : w4.cell? ⟨w.heap.size, 0, none⟩ = some (.int .i64 pr) := g4.keep m0
          have n1 : w4.cell? ⟨w.heap.size, 1, none⟩ = some (.string mc) := g4.keep m1
          have n2 : w4.cell? ⟨w.heap.size, 2, none⟩ = some (.int .i64 si) := g4.keep m2
          have n3 : w4.cell? ⟨w.heap.size, 3, none⟩ = some (.int .i64 sp) := g4.keep m3
          have n4 : w4.cell? ⟨w.heap.size, 4, none⟩ = some (.int .i64 di) := g4.keep m4
          have n5 : w4.cell? ⟨w.heap.size, 5, none⟩ = some (.int .i64 dp) := g4.keep m5
          have n6 : w4.cell? ⟨w.heap.size, 6, none⟩ = some (.int .i64 1) := g4.keep m6
          have n7 : w4.cell? ⟨w.heap.size, 7, none⟩ = some (.int .i64 0) := g4.keep m7
          have n8 : w4.cell? ⟨w.heap.size, 8, none⟩ = some (.int .i64 ow) := g4.keep m8
          clear g4 G3 m0 m1 m2 m3 m4 m5 m6 m7 m8
          go_wp2_with fail
          refine (H6.out _).mono ?_
          rintro e w5 ⟨rfl, g5⟩
          have G5 : Hid (Grw w w5) := G4.out.trans g5
          clear g5 G4
          go_wp2_with (at_builtin; refine wpl_flows _ rfl (.tmp 58) (.tmp 59) rfl w5.heap.size _ [] fs rfl (OwnS.lit w5 _ (Nat.le_refl _)) b off len cap hl rfl (fun j u hu => acell (RC.out w5 G5.out.below j u hu) _) (by simp; omega) (by simp) ?_; intro v' w10 Y _)
          have Y2 : Hid (OwnS wvG 9 28 w10 w5.heap.size v' fs ∧ Below w.heap.size w w10) := ⟨Y.out.1, (G5.out.below.alloc G5.out.below.size _).trans (Y.out.2.mono G5.out.below.size)⟩
          clear Y
          go_wp2
          go_ret2
          exact ⟨_, rfl, Y2.out.1.lower G5.out.below.size, Y2.out.2⟩
        · rw [hl, if_neg h8e] at E1 E2
          subst E1
          rw [E2]
          clear E2
          have H6 : Hid (∀ w, Rw FlR 9 w (some ⟨b, off, none⟩) fs → Calls Try.prog 45 #[.slice (some ⟨b, off, none⟩) len cap, .agg #[.int .i64 pr, .string mc, .int .i64 si, .int .i64 sp, .int .i64 di, .int .i64 dp, .int .i64 1, .int .i64 0, .int .i64 ow], .int .i64 now] w fun e w' => ∃ v, e = .returned (.tuple #[v, .int .i64 0]) ∧ OwnS wvG 9 28 w' w.heap.size v (fs ++ [⟨pr, mc, si, sp, di, dp, 1, now + wtN pr 1, ow⟩]) ∧ Below w.heap.size w w') := H5.out (by omega) rfl
          have hR0 : 0 < (fs ++ [(⟨pr, mc, si, sp, di, dp, 1, now + wtN pr 1, ow⟩ : FlowV)]).length := by simp
          have hR9 : (fs ++ [(⟨pr, mc, si, sp, di, dp, 1, now + wtN pr 1, ow⟩ : FlowV)]).length ≤ 9 := by simp; omega
          generalize fs ++ [(⟨pr, mc, si, sp, di, dp, 1, now + wtN pr 1, ow⟩ : FlowV)] = R at H6 hR0 hR9 ⊢
          clear H4 H5
          go_enter Try.func12, Try.ntmps12
          go_wp2_with fail
          refine (HF.out _ (RW.out.keep FR.kp ((Below.refl _ _).alloc (Nat.le_refl _) _))).mono ?_
          rintro e w2 ⟨rfl, g2⟩
          have k0 : w2.cell? ⟨w.heap.size, 0, none⟩ = some (.int .i64 pr) := g2.keep (by simp [go_sem])
          have k1 : w2.cell? ⟨w.heap.size, 1, none⟩ = some (.string mc) := g2.keep (by simp [go_sem])
          have k2 : w2.cell? ⟨w.heap.size, 2, none⟩ = some (.int .i64 si) := g2.keep (by simp [go_sem])
          have k3 : w2.cell? ⟨w.heap.size, 3, none⟩ = some (.int .i64 sp) := g2.keep (by simp [go_sem])
          have k4 : w2.cell? ⟨w.heap.size, 4, none⟩ = some (.int .i64 di) := g2.keep (by simp [go_sem])
          have k5 : w2.cell? ⟨w.heap.size, 5, none⟩ = some (.int .i64 dp) := g2.keep (by simp [go_sem])
          have k6 : w2.cell? ⟨w.heap.size, 6, none⟩ = some (.int .i64 1) := g2.keep (by simp [go_sem])
          have k7 : w2.cell? ⟨w.heap.size, 7, none⟩ = some (.int .i64 0) := g2.keep (by simp [go_sem])
          have k8 : w2.cell? ⟨w.heap.size, 8, none⟩ = some (.int .i64 ow) := g2.keep (by simp [go_sem])
          have G2 : Hid (Grw w w2) := ((Grw.refl _).alloc _).trans g2
          clear g2
          go_wp2_with fail
          refine (H1.out _).mono ?_
          rintro e w3 ⟨rfl, g3⟩
          have G3 : Hid (Grw w w3) := G2.out.trans g3
          have m0 : w3.cell? ⟨w.heap.size, 0, none⟩ = some (.int .i64 pr) := g3.keep k0
          have m1 : w3.cell? ⟨w.heap.size, 1, none⟩ = some (.string mc) := g3.keep k1
          have m2 : w3.cell? ⟨w.heap.size, 2, none⟩ = some (.int .i64 si) := g3.keep k2
          have m3 : w3.cell? ⟨w.heap.size, 3, none⟩ = some (.int .i64 sp) := g3.keep k3
          have m4 : w3.cell? ⟨w.heap.size, 4, none⟩ = some (.int .i64 di) := g3.keep k4
          have m5 : w3.cell? ⟨w.heap.size, 5, none⟩ = some (.int .i64 dp) := g3.keep k5
          have m6 : w3.cell? ⟨w.heap.size, 6, none⟩ = some (.int .i64 1) := g3.keep k6
          have m7 : w3.cell? ⟨w.heap.size, 7, none⟩ = some (.int .i64 0) := g3.keep k7
          have m8 : w3.cell? ⟨w.heap.size, 8, none⟩ = some (.int .i64 ow) := g3.keep k8
          clear g3 G2 k0 k1 k2 k3 k4 k5 k6 k7 k8
          go_wp2_with fail
          refine (H2.out _).mono ?_
          rintro e w9 ⟨rfl, rfl⟩
          go_wp2_with fail
          refine (H3.out _ (RW.out.keep FR.kp G3.out.below)).mono ?_
          rintro e w4 ⟨rfl, g4⟩
          have G4 : Hid (Grw w w4) := G3.out.trans g4
          have n0 : w4.cell? ⟨w.heap.size, 0, none⟩ = some (.int .i64 pr) := g4.keep m0
          have n1 : w4.cell? ⟨w.heap.size, 1, none⟩ = some (.string mc) := g4.keep m1
          have n2 : w4.cell? ⟨w.heap.size, 2, none⟩ = some (.int .i64 si) := g4.keep m2
          have n3 : w4.cell? ⟨w.heap.size, 3, none⟩ = some (.int .i64 sp) := g4.keep m3
          have n4 : w4.cell? ⟨w.heap.size, 4, none⟩ = some (.int .i64 di) := g4.keep m4
          have n5 : w4.cell? ⟨w.heap.size, 5, none⟩ = some (.int .i64 dp) := g4.keep m5
          have n6 : w4.cell? ⟨w.heap.size, 6, none⟩ = some (.int .i64 1) := g4.keep m6
          have n7 : w4.cell? ⟨w.heap.size, 7, none⟩ = some (.int .i64 0) := g4.keep m7
          have n8 : w4.cell? ⟨w.heap.size, 8, none⟩ = some (.int .i64 ow) := g4.keep m8
          clear g4 G3 m0 m1 m2 m3 m4 m5 m6 m7 m8
          go_wp2_with fail
          refine (H6.out _ (RW.out.keep FR.kp G4.out.below)).mono ?_
          rintro e w5 ⟨v5, rfl, o5, b5⟩
          obtain ⟨a5, c5, hv5, _⟩ := o5.slice
          subst hv5
          obtain ⟨g5, ha5, -⟩ := o5.form hR0
          subst ha5
          have X5 : Hid (Below w.heap.size w w5) := G4.out.below.trans (b5.mono G4.out.below.size)
          have XC : Hid (∀ j u, (flatS wvG R)[j]? = some u → w5.cell? ⟨g5, 0 + j, none⟩ = some u) := flat_rw (o5.rw (ok := fun _ => True) wvG_len (fun _ _ => trivial)) wvG_len (by omega)
          clear o5 b5 G4
          go_wp2_with (at_builtin; refine wpl_flows _ rfl (.tmp 58) (.tmp 59) rfl w5.heap.size _ [] R rfl (OwnS.lit w5 _ (Nat.le_refl _)) g5 0 R.length c5 rfl rfl (fun j u hu => acell (XC.out j u hu) _) (by simp; omega) (by simp) ?_; intro v' w10 Y _)
          have Y2 : Hid (OwnS wvG 9 28 w10 w5.heap.size v' R ∧ Below w.heap.size w w10) := ⟨Y.out.1, (X5.out.alloc X5.out.size _).trans (Y.out.2.mono X5.out.size)⟩
          clear Y
          go_wp2
          go_ret2
          exact ⟨_, rfl, Y2.out.1.lower X5.out.size, Y2.out.2⟩
end Go.Proofs.Ythokaemeadhkjaa
