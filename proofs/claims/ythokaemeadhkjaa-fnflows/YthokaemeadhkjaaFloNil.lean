/- The model opens a flow where there is none: a list that is nil. The program's FlowPass where there is none. -/
import Derived.Test.YthokaemeadhkjaaFloH
namespace Go.Proofs.Ythokaemeadhkjaa
open Go.RowKit Go.PlainAid Go.Proofs.Ythokaemeadhkjaa.Bt Go.Sort
set_option linter.unusedVariables false
set_option maxRecDepth 20000

theorem step9_none (w : World) {ops : Array Oper} {o : Oper} {a : Act} {K : Act → World → Prop} {Q : Exit → Act → World → Prop} {E : Prop} (hgd : o.guard = none) (s x : Operand)
    (ho : o.op = .call { callee := .builtin .append, args := #[s, x], argTypes := #[23, 23] })
    (B : Nat) (v : Value) (L : List FlowV) (hs : a.eval s = v) (hown : OwnS wvG 9 28 w B v L) (hx : a.eval x = .slice none 0 0)
    (h : K (a.put o.dst v) w) :
    if Region.wanted o (yielded ops a.tmps) = true then Oper.wp Try.prog o a w K Q else E := by
  have hw : Region.wanted o (yielded ops a.tmps) = true := by simp [Region.wanted, hgd]
  rw [if_pos hw]
  obtain ⟨i0, hi, hz0, hz1, hz2⟩ := info_parts infoFlow
  have hrun := run_append_owned_none (P := Try.prog) (w := w) B 23 o.type 28 i0 9 Try.underlying23 hi v L.length (flatS wvG L) hown
  unfold Oper.wp
  simp [execOp, ho, resolve, invoke, builtin, hs, hx, hrun, Result.andThen]
  exact h
set_option maxHeartbeats 2000000 in
theorem l09Open_nil (pr : Int) (mc : ByteArray) (si sp di dp st un ow : Int) (now : Int) (w : World) (hn : 0 ≤ now ∧ now ≤ 100000) :
    Calls Try.prog 45 #[.slice none 0 0, .agg #[.int .i64 pr, .string mc, .int .i64 si, .int .i64 sp, .int .i64 di, .int .i64 dp, .int .i64 st, .int .i64 un, .int .i64 ow], .int .i64 now] w fun e w' => ∃ v, e = .returned (.tuple #[v, .int .i64 0]) ∧ OwnS wvG 9 28 w' w.heap.size v ([] ++ [⟨pr, mc, si, sp, di, dp, 1, now + wtN pr 1, ow⟩]) ∧ Below w.heap.size w w' := by
  have hz : (((0 : Nat) : Int) == 8) = false := by decide
  have T : Hid (∀ w, Calls Try.prog 75 #[.int .i64 pr, .int .i64 1] w fun e w' => e = .returned (.int .i64 (wtN pr 1)) ∧ w' = w) := fun w => l09Wait_any pr 1 w
  have hb := wtN_bd pr 1
  generalize wtN pr 1 = n at T hb ⊢
  go_enter Try.func45, Try.ntmps45
  go_wp2_with fail
  refine (T.out _).mono ?_
  rintro e w9 ⟨rfl, rfl⟩
  obtain ⟨W, hW⟩ : ∃ W, W = w.alloc (.cells #[.int .i64 pr, .string mc, .int .i64 si, .int .i64 sp, .int .i64 di, .int .i64 dp, .int .i64 1, .int .i64 (now + n), .int .i64 ow] 28) := ⟨_, rfl⟩
  have SS : Hid (SG w.heap.size pr mc si sp di dp 1 (now + n) ow W W.drew) := by
    subst hW
    exact ⟨by simp [go_sem], by simp [go_sem], by simp [go_sem], by simp [go_sem], by simp [go_sem], by simp [go_sem], by simp [go_sem], by simp [go_sem], by simp [go_sem], ⟨(Below.refl _ _).drew⟩⟩
  have hqW : Hid (w.heap.size < W.heap.size) := by show _ < _; rw [hW]; simp
  have BW : Hid (Below w.heap.size w W) := by rw [hW]; exact (Below.refl _ _).alloc (Nat.le_refl _) _
  have L1 : Hid (OwnS wvG 9 28 (W.alloc (.cells #[] 28)) W.heap.size (.slice (some ⟨W.heap.size, 0, none⟩) 0 0) []) := OwnS.lit W _ (Nat.le_refl _)
  have L2 : Hid (∀ o, OwnS wvG 9 28 ((W.alloc (.cells #[] 28)).alloc o) W.heap.size (.slice (some ⟨W.heap.size, 0, none⟩) 0 0) []) := fun o => L1.out.now ((Below.refl _ _).alloc (Nat.le_refl _) o)
  have L3 : Hid (∀ o, OwnS wvG 9 28 ((W.alloc o).alloc (.cells #[] 28)) W.heap.size (.slice (some ⟨W.heap.size + 1, 0, none⟩) 0 0) []) := fun o => by
    have := OwnS.lit (α := FlowV) (c := wvG) (K := 9) (e := 28) (W.alloc o) W.heap.size (by simp)
    rw [World.size_alloc] at this
    exact this
  have SC : Hid (∀ wx o, SG w.heap.size pr mc si sp di dp 1 (now + n) ow W wx → SG w.heap.size pr mc si sp di dp 1 (now + n) ow W (wx.alloc o)) := fun wx o h => h.below hqW.out ((Below.refl _ _).alloc h.2.2.2.2.2.2.2.2.2.out.size o)
  have KS : Hid (∀ wx, SG w.heap.size pr mc si sp di dp 1 (now + n) ow W wx → W.heap.size ≤ wx.heap.size) := fun wx h => h.2.2.2.2.2.2.2.2.2.out.size
  have SA : Hid (∀ wx o, SG w.heap.size pr mc si sp di dp 1 (now + n) ow W wx → SG w.heap.size pr mc si sp di dp 1 (now + n) ow W (wx.alloc o).drew) := fun wx o h => h.below hqW.out ((Below.refl _ _).alloc h.2.2.2.2.2.2.2.2.2.out.size o).drew
  have SB : Hid (∀ wx wy, Below W.heap.size wx wy → SG w.heap.size pr mc si sp di dp 1 (now + n) ow W wx → SG w.heap.size pr mc si sp di dp 1 (now + n) ow W wy) := fun wx wy hb h => h.below hqW.out hb
  have TN : Hid (∀ X : World, ∀ j u, (flatS wvG [⟨pr, mc, si, sp, di, dp, 1, now + n, ow⟩])[j]? = some u → (X.alloc (.cells #[.int .i64 pr, .string mc, .int .i64 si, .int .i64 sp, .int .i64 di, .int .i64 dp, .int .i64 1, .int .i64 (now + n), .int .i64 ow] 28)).cell? ⟨X.heap.size, 0 + j, none⟩ = some u) := fun X => t9_new X pr mc si sp di dp 1 (now + n) ow
  have TP1 : Hid (∀ j u, (flatS wvG [⟨pr, mc, si, sp, di, dp, 1, now + n, ow⟩])[j]? = some u → ((W.alloc (.cells #[] 28)).alloc (.cells #[.int .i64 pr, .string mc, .int .i64 si, .int .i64 sp, .int .i64 di, .int .i64 dp, .int .i64 1, .int .i64 (now + n), .int .i64 ow] 28)).cell? ⟨W.heap.size + 1, 0 + j, none⟩ = some u) := fun j u hu => by
    have h1 := t9_new (W.alloc (.cells #[] 28)) pr mc si sp di dp 1 (now + n) ow j u hu
    rw [World.size_alloc] at h1
    exact h1
  have TP2 : Hid (∀ j u, (flatS wvG [⟨pr, mc, si, sp, di, dp, 1, now + n, ow⟩])[j]? = some u → ((W.alloc (.cells #[.int .i64 pr, .string mc, .int .i64 si, .int .i64 sp, .int .i64 di, .int .i64 dp, .int .i64 1, .int .i64 (now + n), .int .i64 ow] 28)).alloc (.cells #[] 28)).cell? ⟨W.heap.size, 0 + j, none⟩ = some u) := fun j u hu => acell (t9_new W pr mc si sp di dp 1 (now + n) ow j u hu) _
  go_wp2_with fail
  rw [← hW]
  clear hW
  go_region_held3 (fun wx => wx.cell? ⟨w.heap.size, 0, none⟩ = some (.int .i64 pr) ∧ wx.cell? ⟨w.heap.size, 1, none⟩ = some (.string mc) ∧ wx.cell? ⟨w.heap.size, 2, none⟩ = some (.int .i64 si) ∧ wx.cell? ⟨w.heap.size, 3, none⟩ = some (.int .i64 sp) ∧ wx.cell? ⟨w.heap.size, 4, none⟩ = some (.int .i64 di) ∧ wx.cell? ⟨w.heap.size, 5, none⟩ = some (.int .i64 dp) ∧ wx.cell? ⟨w.heap.size, 6, none⟩ = some (.int .i64 1) ∧ wx.cell? ⟨w.heap.size, 7, none⟩ = some (.int .i64 (now + n)) ∧ wx.cell? ⟨w.heap.size, 8, none⟩ = some (.int .i64 ow) ∧ KeptE W wx)
    (first | exact SS.out | assumption | exact SA.out _ _ (by assumption) | exact SC.out _ _ (by assumption) | exact SB.out _ _ hB5 (by assumption))
    (first
      | (refine step9_none _ (by rfl) (.tmp 19) (.tmp 20) (by rfl) W.heap.size _ [] (by rfl) (by first | exact L1.out | exact L2.out _ | exact L3.out _) (by rfl) ?_)
      | (refine step9 _ (by rfl) (.tmp 21) (.tmp 23) (by rfl) W.heap.size _ [] (by rfl) (by first | exact L1.out | exact L2.out _ | exact L3.out _) _ 0 1 1 [⟨pr, mc, si, sp, di, dp, 1, now + n, ow⟩] (by rfl) rfl (by first | exact TN.out _ | exact TP1.out | exact TP2.out) (by simp) (KS.out _ (by assumption)) ?_; intro v5 w5 Y5; have hB5 := Y5.out.2.1))
  all_goals
    have F5 : Hid (OwnS wvG 9 28 w5 W.heap.size v5 ([] ++ [⟨pr, mc, si, sp, di, dp, 1, now + n, ow⟩]) ∧ KeptE W w5) := ⟨Y5.out.1, (show SG w.heap.size pr mc si sp di dp 1 (now + n) ow W w5 by assumption).2.2.2.2.2.2.2.2.2⟩
    go_wp2
    go_ret2
    exact ⟨_, rfl, F5.out.1.lower (Nat.le_of_lt hqW.out), BW.out.trans (F5.out.2.out.mono (Nat.le_of_lt hqW.out))⟩
set_option maxHeartbeats 1000000 in
theorem implPass_none (a : Option Addr) (cap : Nat) (k : Int) (back : Bool) (flags now : Int) (w : World) :
    Calls Try.prog 19 #[.slice a 0 cap, .int .i64 k, .bool back, .int .i64 flags, .int .i64 now] w fun e w' => ∃ v, e = .returned (.tuple #[v, .int .i64 4]) ∧ Below w.heap.size w w' := by
  have HF : Hid (Calls Try.prog 34 #[.slice a 0 cap] w fun e w' => e = .returned (.int .i64 (ffC [])) ∧ Below w.heap.size w w') := flowsFault_any a 0 cap [] w Rw.none (by simp) rfl (by omega)
  have e0 : ffC [] = 0 := by
    rcases ff_cases [] with h | h | h
    · have := h.1; simp at this
    · have := h.2.1
      rw [foB_yes (by simp) (alOk_zero []) (apOk_zero [])] at this
      cases this
    · exact h.2.2
  rw [e0] at HF
  have T1 : Hid (∀ w, Calls Try.prog 54 #[.int .i64 k, .int .i64 0, .int .i64 (-1)] w fun e w' => e = .returned (.bool false) ∧ w' = w) := fun w => by
    have := between_any k 0 (-1) w
    rw [show decide (0 ≤ k ∧ k ≤ -1) = false by simp; omega] at this
    exact this
  go_enter Try.func19, Try.ntmps19
  go_wp2_with fail
  refine HF.out.mono ?_
  rintro e w2 ⟨rfl, g2⟩
  go_wp2_with fail
  refine (T1.out _).mono ?_
  rintro e w9 ⟨rfl, rfl⟩
  go_wp2
  go_ret2
  exact ⟨_, rfl, g2⟩
end Go.Proofs.Ythokaemeadhkjaa
