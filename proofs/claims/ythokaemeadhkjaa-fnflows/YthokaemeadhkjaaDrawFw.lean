/- A drawn flow. -/
import Derived.Test.YthokaemeadhkjaaDrawFl
import Derived.Test.YthokaemeadhkjaaDrawS
import Derived.Deep.RegionHeld3
namespace Go.Proofs.Ythokaemeadhkjaa.DrawFw
open Go.RowKit Go.PlainAid Go.Proofs.Ythokaemeadhkjaa
set_option linter.unusedVariables false
set_option maxRecDepth 20000

theorem region_name {P : Program} {md : Region.Mode} {ops : Array Oper} {Q : Exit → Act → World → Prop} {S : World → Prop} {n : Nat} {l : Array Bool} {a : Act} {w : World}
    (h : ∀ G : Nat → Array Bool → Act → World → Prop, (∀ n l a w, wpAnyH P md ops Q S n l a w → G n l a w) → (∀ n l a w, G n l a w → wpAnyH P md ops Q S n l a w) → G n l a w) : wpAnyH P md ops Q S n l a w :=
  h _ (fun _ _ _ _ h => h) (fun _ _ _ _ h => h)
def kf (n : Nat) : Int := [6, 17, 1].getD n 0
theorem kf_in (n : Nat) (h : n < 3) : kf n = 6 ∨ kf n = 17 ∨ kf n = 1 := by
  rcases (show n = 0 ∨ n = 1 ∨ n = 2 by omega) with rfl | rfl | rfl <;> decide
theorem pickI {W : World} {g : Nat} (h : Boxed W g [.int .i64 6, .int .i64 17, .int .i64 1]) (n : Nat) (hn : n < 3) : W.cell? ⟨g, n, none⟩ = some (.int .i64 (kf n)) := by
  rcases (show n = 0 ∨ n = 1 ∨ n = 2 by omega) with rfl | rfl | rfl
  · exact h.at 0 _ rfl
  · exact h.at 1 _ rfl
  · exact h.at 2 _ rfl
theorem gr_set1 {w W : World} {q : Nat} (hW : w.grownBy W (some q)) (i : Nat) (v : Value) : w.grownBy (W.setCell ⟨w.heap.size, i, none⟩ v) (some q) :=
  ⟨hW.os, hW.tape, hW.output, by simpa using hW.size, fun b hl hr => by rw [Below.heap_setCell _ _ _ _ (by show b ≠ w.heap.size; omega)]; exact hW.block b hl hr⟩
theorem DS.startK {q : Nat} {a : Option Addr} {len cap : Nat} {f : Nat → Int} {w : World} {m k0 : Nat} (h : Src w q a len cap f m) (cs : List Value) (t : TypeId) (hm : m ≤ 3 * k0) : DS q a len cap f w cs (k0 + 0) (w.alloc (.cells cs.toArray t)) :=
  ⟨⟨m, by omega, h.grown (World.grownBy_alloc w _ none) (by simp) (by simp)⟩, World.grownBy_alloc w _ (some q), Slots.new w cs t, by simp, World.block_lt_of_cell? w _ h.code⟩
theorem lan9_ds {q : Nat} {a : Option Addr} {len cap : Nat} {f : Nat → Int} {w : World} {cs : List Value} {k : Nat} (hk : k ≤ 1000) (wx : World) (h : Hid (DS q a len cap f w cs k wx)) :
    Calls Try.prog 67 #[.pointer (some ⟨q, 0, none⟩)] wx fun e w' => ∃ v : Int, e = .returned (.int .i64 v) ∧ 167772162 ≤ v ∧ v ≤ 167772164 ∧ Hid (DS q a len cap f w cs (k + 1) w' ∧ wx.grownBy w' (some q)) := by
  obtain ⟨m, hm, hs⟩ := h.out.src
  exact (lan9D wx q a len cap f m hs (by omega)).mono fun e w' ⟨v, he, h0, h1, d⟩ => ⟨v, he, h0, h1, h.out.step hm d.out, d.out.2⟩
theorem wan9_ds {q : Nat} {a : Option Addr} {len cap : Nat} {f : Nat → Int} {w : World} {cs : List Value} {k : Nat} (hk : k ≤ 1000) (wx : World) (h : Hid (DS q a len cap f w cs k wx)) :
    Calls Try.prog 68 #[.pointer (some ⟨q, 0, none⟩)] wx fun e w' => ∃ v : Int, e = .returned (.int .i64 v) ∧ 0 ≤ v ∧ v ≤ 151587081 ∧ Hid (DS q a len cap f w cs (k + 1) w' ∧ wx.grownBy w' (some q)) := by
  obtain ⟨m, hm, hs⟩ := h.out.src
  exact (wan9D wx q a len cap f m hs (by omega)).mono fun e w' ⟨v, he, h0, h1, d⟩ => ⟨v, he, h0, h1, h.out.step hm d.out, d.out.2⟩
theorem port9_ds {q : Nat} {a : Option Addr} {len cap : Nat} {f : Nat → Int} {w : World} {cs : List Value} {k : Nat} (hk : k ≤ 1000) (wx : World) (h : Hid (DS q a len cap f w cs k wx)) :
    Calls Try.prog 69 #[.pointer (some ⟨q, 0, none⟩)] wx fun e w' => ∃ v : Int, e = .returned (.int .i64 v) ∧ 0 ≤ v ∧ v ≤ 65535 ∧ Hid (DS q a len cap f w cs (k + 1) w' ∧ wx.grownBy w' (some q)) := by
  obtain ⟨m, hm, hs⟩ := h.out.src
  exact (port9D wx q a len cap f m hs (by omega)).mono fun e w' ⟨v, he, h0, h1, d⟩ => ⟨v, he, h0, h1, h.out.step hm d.out, d.out.2⟩
theorem DQ.set {q : Nat} {a : Option Addr} {len cap : Nat} {f : Nat → Int} {w W : World} {k : Nat} (h : DQ q a len cap f w k W) (hq : q < w.heap.size) (hcb : ∀ b off, 0 < len → a = some ⟨b, off, none⟩ → b < w.heap.size) (i : Nat) (v : Value) : DQ q a len cap f w k (W.setCell ⟨w.heap.size, i, none⟩ v) := by
  obtain ⟨⟨m, hm, hs⟩, hg⟩ := h
  have g1 : W.grownBy (W.setCell ⟨w.heap.size, i, none⟩ v) (some w.heap.size) := ⟨rfl, rfl, rfl, by simp, fun b hl hr => Below.heap_setCell _ _ _ _ (fun e => hr (by rw [e]))⟩
  exact ⟨⟨m, hm, hs.grown g1 (fun e => by cases e; omega) (fun b off h0 e e2 => by have := hcb b off h0 e; cases e2; omega)⟩, gr_set1 hg i v⟩

set_option maxHeartbeats 8000000 in
theorem drawn (w : World) (q : Nat) (a : Option Addr) (len cap : Nat) (f : Nat → Int) (k0 m : Nat) (h : Src w q a len cap f m) (hm : m ≤ 3 * k0) (hk : k0 ≤ 900) :
    Calls Try.prog 33 #[.pointer (some ⟨q, 0, none⟩)] w fun e w' => ∃ (pr : Int) (mc : ByteArray) (si sp di dp ow : Int), e = .returned (.agg #[.int .i64 pr, .string mc, .int .i64 si, .int .i64 sp, .int .i64 di, .int .i64 dp, .int .i64 1, .int .i64 0, .int .i64 ow]) ∧ Hid (DrF ⟨pr, mc, si, sp, di, dp, 1, 0, ow⟩ ∧ DQ q a len cap f w (k0 + 7) w') := by
  have X0 : Hid (DS q a len cap f w [.int .i64 0, .string ⟨#[]⟩, .int .i64 0, .int .i64 0, .int .i64 0, .int .i64 0, .int .i64 0, .int .i64 0, .int .i64 0] (k0 + 0) (w.alloc (.cells #[.int .i64 0, .string ⟨#[]⟩, .int .i64 0, .int .i64 0, .int .i64 0, .int .i64 0, .int .i64 0, .int .i64 0, .int .i64 0] 28))) := DS.startK h _ _ hm
  have HCB : Hid (∀ b off, 0 < len → a = some ⟨b, off, none⟩ → b < w.heap.size) := by
    intro b off h0 e
    obtain ⟨b', off', e', hc⟩ := h.bytes.2 h0
    rw [e] at e'
    cases e'
    simpa using World.block_lt_of_cell? w _ (hc 0 h0)
  clear h
  go_enter Try.func33, Try.ntmps33
  go_wp2
  refine wp_region_held_drew (S := (fun _ => True)) (by kernel_rfl) ?_ (fun hH0 => ?_)
  · trivial
  refine region_name fun G up down => ?_
  have UP : Hid _ := up
  have DN : Hid _ := down
  clear up down
  have st0 : Hid (∀ (W : World) (gI : Nat) (n2 : Nat) (bb : ByteArray) (v8 : Int) (v10 : Int) (v13 : Int) (v15 : Int) (v17 : Int), Hid (DS q a len cap f w [.int .i64 0, .string ⟨#[]⟩, .int .i64 0, .int .i64 0, .int .i64 0, .int .i64 0, .int .i64 0, .int .i64 0, .int .i64 0] (k0 + 7) W) → n2 < 3 → Hid (bb.size = 6) → Hid (167772162 ≤ v8 ∧ v8 ≤ 167772164) → Hid (0 ≤ v10 ∧ v10 < 2) → Hid (0 ≤ v13 ∧ v13 ≤ 151587081) → Hid (0 ≤ v15 ∧ v15 ≤ 65535) → Hid (0 ≤ v17 ∧ v17 < 3) → G 1 #[true, true, true, true, true, true, true, true, true, true, true, true, true, true, true, true, true, true, true, false] { tmps := #[.pointer (some ⟨q, 0, none⟩), undef, .pointer (some ⟨w.heap.size, 0, none⟩), .slice (some ⟨gI, 0, none⟩) 3 3, .pointer (some ⟨q, 0, none⟩), .int .i64 (n2 : Int), .pointer (some ⟨gI, n2, none⟩), .int .i64 (kf n2), .pointer (some ⟨q, 0, none⟩), .string bb, .pointer (some ⟨q, 0, none⟩), .int .i64 v8, .pointer (some ⟨q, 0, none⟩), .int .i64 v10, .int .i64 (1000 + v10), .pointer (some ⟨q, 0, none⟩), .int .i64 v13, .pointer (some ⟨q, 0, none⟩), .int .i64 v15, .pointer (some ⟨q, 0, none⟩), .int .i64 v17, .agg #[.int .i64 (kf n2), .string bb, .int .i64 v8, .int .i64 (1000 + v10), .int .i64 v13, .int .i64 v15, .int .i64 1, .int .i64 0, .int .i64 v17]], defers := [] } W) := by
    intro W gI n2 bb v8 v10 v13 v15 v17 X hn HB H8 H10 H13 H15 H17
    refine UP.out _ _ _ _ ?_
    have hH : (fun _ : World => True) W := trivial
    have zl := X.out.lt
    have zq := X.out.ql
    have i0 : (0 : Int) ≤ (n2 : Int) := by omega
    have i1 : (n2 : Int) < 3 := by omega
    refine wpAnyH_ready (rs := [19]) (by kernel_rfl) (by simp) ?_
    refine AllReadyH.cons rfl (fun K hK => ?_) ?_
    · have k0 := X.out.box.1.at 0 _ rfl
      have y0 := X.out.box.2 0
      have k1 := X.out.box.1.at 1 _ rfl
      have y1 := X.out.box.2 1
      have k2 := X.out.box.1.at 2 _ rfl
      have y2 := X.out.box.2 2
      have k3 := X.out.box.1.at 3 _ rfl
      have y3 := X.out.box.2 3
      have k4 := X.out.box.1.at 4 _ rfl
      have y4 := X.out.box.2 4
      have k5 := X.out.box.1.at 5 _ rfl
      have y5 := X.out.box.2 5
      have k6 := X.out.box.1.at 6 _ rfl
      have y6 := X.out.box.2 6
      have k7 := X.out.box.1.at 7 _ rfl
      have y7 := X.out.box.2 7
      have k8 := X.out.box.1.at 8 _ rfl
      have y8 := X.out.box.2 8
      go_simp
      refine hK.out _ _ ?_ (fun hH2 => ?_)
      · (try dsimp only)
        (try trivial)
      clear hK K hH
      refine wpAnyH_done (by kernel_rfl) ?_ _
      go_wp2
      (try simp only [Exit.inBlock, Exit.then])
      refine bodyPost_ret (v := .agg #[.int .i64 (kf n2), .string bb, .int .i64 v8, .int .i64 (1000 + v10), .int .i64 v13, .int .i64 v15, .int .i64 1, .int .i64 0, .int .i64 v17]) (by simp [results, Try.results33, go_sem, *]; try rfl) rfl ?_
      exact ⟨kf n2, bb, v8, 1000 + v10, v13, v15, v17, rfl, ⟨kf_in n2 hn, HB.out, H8.out, (by have := H10.out; exact ⟨by show (1000 : Int) ≤ 1000 + v10; omega, by show 1000 + v10 ≤ (1001 : Int); omega⟩), H13.out, H15.out, rfl, rfl, (by have := H17.out; exact ⟨this.1, by show v17 ≤ (2 : Int); omega⟩)⟩, (DQ.set (DQ.set (DQ.set (DQ.set (DQ.set (DQ.set (DQ.set (DQ.set (DQ.set ⟨X.out.src, X.out.gr⟩ zq HCB.out _ _) zq HCB.out _ _) zq HCB.out _ _) zq HCB.out _ _) zq HCB.out _ _) zq HCB.out _ _) zq HCB.out _ _) zq HCB.out _ _) zq HCB.out _ _)⟩
    exact AllReadyH.nil
  have st1 : Hid (∀ (W : World) (gI : Nat) (n2 : Nat) (bb : ByteArray) (v8 : Int) (v10 : Int) (v13 : Int) (v15 : Int), Hid (DS q a len cap f w [.int .i64 0, .string ⟨#[]⟩, .int .i64 0, .int .i64 0, .int .i64 0, .int .i64 0, .int .i64 0, .int .i64 0, .int .i64 0] (k0 + 6) W) → n2 < 3 → Hid (bb.size = 6) → Hid (167772162 ≤ v8 ∧ v8 ≤ 167772164) → Hid (0 ≤ v10 ∧ v10 < 2) → Hid (0 ≤ v13 ∧ v13 ≤ 151587081) → Hid (0 ≤ v15 ∧ v15 ≤ 65535) → G 3 #[true, true, true, true, true, true, true, true, true, true, true, true, true, true, true, true, true, false, false, false] { tmps := #[.pointer (some ⟨q, 0, none⟩), undef, .pointer (some ⟨w.heap.size, 0, none⟩), .slice (some ⟨gI, 0, none⟩) 3 3, .pointer (some ⟨q, 0, none⟩), .int .i64 (n2 : Int), .pointer (some ⟨gI, n2, none⟩), .int .i64 (kf n2), .pointer (some ⟨q, 0, none⟩), .string bb, .pointer (some ⟨q, 0, none⟩), .int .i64 v8, .pointer (some ⟨q, 0, none⟩), .int .i64 v10, .int .i64 (1000 + v10), .pointer (some ⟨q, 0, none⟩), .int .i64 v13, .pointer (some ⟨q, 0, none⟩), .int .i64 v15, .pointer (some ⟨q, 0, none⟩), undef, undef], defers := [] } W) := by
    intro W gI n2 bb v8 v10 v13 v15 X hn HB H8 H10 H13 H15
    refine UP.out _ _ _ _ ?_
    have hH : (fun _ : World => True) W := trivial
    have zl := X.out.lt
    have zq := X.out.ql
    have i0 : (0 : Int) ≤ (n2 : Int) := by omega
    have i1 : (n2 : Int) < 3 := by omega
    refine wpAnyH_ready (rs := [17]) (by kernel_rfl) (by simp) ?_
    refine AllReadyH.cons rfl (fun K hK => ?_) ?_
    · go_simp
      refine (next_ds 3 (by omega) (by omega) (by omega) _ X).mono ?_
      rintro e W2 ⟨v17, rfl, u0, u1, Y⟩
      go_wp2_with fail
      refine hK.out _ _ ?_ (fun hH2 => ?_)
      · (try dsimp only)
        (try trivial)
      clear hK K hH
      refine wpAnyH_take (i := 18) (v := ?v1) rfl (by kernel_rfl) (by kernel_rfl) (by kernel_rfl) (fun _ _ _ h => h) (Or.inl ⟨by rfl, ?hy1⟩) (by assumption) ?rest1
      case hy1 => (intro w hSw; (try dsimp only at hSw); go_simp; (try with_reducible rfl))
      exact DN.out _ _ _ _ (st0.out W2 gI n2 bb v8 v10 v13 v15 v17 Y.out.1 hn HB H8 H10 H13 H15 (⟨u0, u1⟩))
    exact AllReadyH.nil
  have st2 : Hid (∀ (W : World) (gI : Nat) (n2 : Nat) (bb : ByteArray) (v8 : Int) (v10 : Int) (v13 : Int), Hid (DS q a len cap f w [.int .i64 0, .string ⟨#[]⟩, .int .i64 0, .int .i64 0, .int .i64 0, .int .i64 0, .int .i64 0, .int .i64 0, .int .i64 0] (k0 + 5) W) → n2 < 3 → Hid (bb.size = 6) → Hid (167772162 ≤ v8 ∧ v8 ≤ 167772164) → Hid (0 ≤ v10 ∧ v10 < 2) → Hid (0 ≤ v13 ∧ v13 ≤ 151587081) → G 4 #[true, true, true, true, true, true, true, true, true, true, true, true, true, true, true, false, true, false, false, false] { tmps := #[.pointer (some ⟨q, 0, none⟩), undef, .pointer (some ⟨w.heap.size, 0, none⟩), .slice (some ⟨gI, 0, none⟩) 3 3, .pointer (some ⟨q, 0, none⟩), .int .i64 (n2 : Int), .pointer (some ⟨gI, n2, none⟩), .int .i64 (kf n2), .pointer (some ⟨q, 0, none⟩), .string bb, .pointer (some ⟨q, 0, none⟩), .int .i64 v8, .pointer (some ⟨q, 0, none⟩), .int .i64 v10, .int .i64 (1000 + v10), .pointer (some ⟨q, 0, none⟩), .int .i64 v13, .pointer (some ⟨q, 0, none⟩), undef, .pointer (some ⟨q, 0, none⟩), undef, undef], defers := [] } W) := by
    intro W gI n2 bb v8 v10 v13 X hn HB H8 H10 H13
    refine UP.out _ _ _ _ ?_
    have hH : (fun _ : World => True) W := trivial
    have zl := X.out.lt
    have zq := X.out.ql
    have i0 : (0 : Int) ≤ (n2 : Int) := by omega
    have i1 : (n2 : Int) < 3 := by omega
    refine wpAnyH_ready (rs := [15]) (by kernel_rfl) (by simp) ?_
    refine AllReadyH.cons rfl (fun K hK => ?_) ?_
    · go_simp
      refine (port9_ds (by omega) _ X).mono ?_
      rintro e W2 ⟨v15, rfl, u0, u1, Y⟩
      go_wp2_with fail
      refine hK.out _ _ ?_ (fun hH2 => ?_)
      · (try dsimp only)
        (try trivial)
      clear hK K hH
      exact DN.out _ _ _ _ (st1.out W2 gI n2 bb v8 v10 v13 v15 Y.out.1 hn HB H8 H10 H13 (⟨u0, u1⟩))
    exact AllReadyH.nil
  have st3 : Hid (∀ (W : World) (gI : Nat) (n2 : Nat) (bb : ByteArray) (v8 : Int) (v10 : Int), Hid (DS q a len cap f w [.int .i64 0, .string ⟨#[]⟩, .int .i64 0, .int .i64 0, .int .i64 0, .int .i64 0, .int .i64 0, .int .i64 0, .int .i64 0] (k0 + 4) W) → n2 < 3 → Hid (bb.size = 6) → Hid (167772162 ≤ v8 ∧ v8 ≤ 167772164) → Hid (0 ≤ v10 ∧ v10 < 2) → G 5 #[true, true, true, true, true, true, true, true, true, true, true, true, true, false, true, false, true, false, false, false] { tmps := #[.pointer (some ⟨q, 0, none⟩), undef, .pointer (some ⟨w.heap.size, 0, none⟩), .slice (some ⟨gI, 0, none⟩) 3 3, .pointer (some ⟨q, 0, none⟩), .int .i64 (n2 : Int), .pointer (some ⟨gI, n2, none⟩), .int .i64 (kf n2), .pointer (some ⟨q, 0, none⟩), .string bb, .pointer (some ⟨q, 0, none⟩), .int .i64 v8, .pointer (some ⟨q, 0, none⟩), .int .i64 v10, .int .i64 (1000 + v10), .pointer (some ⟨q, 0, none⟩), undef, .pointer (some ⟨q, 0, none⟩), undef, .pointer (some ⟨q, 0, none⟩), undef, undef], defers := [] } W) := by
    intro W gI n2 bb v8 v10 X hn HB H8 H10
    refine UP.out _ _ _ _ ?_
    have hH : (fun _ : World => True) W := trivial
    have zl := X.out.lt
    have zq := X.out.ql
    have i0 : (0 : Int) ≤ (n2 : Int) := by omega
    have i1 : (n2 : Int) < 3 := by omega
    refine wpAnyH_ready (rs := [13]) (by kernel_rfl) (by simp) ?_
    refine AllReadyH.cons rfl (fun K hK => ?_) ?_
    · go_simp
      refine (wan9_ds (by omega) _ X).mono ?_
      rintro e W2 ⟨v13, rfl, u0, u1, Y⟩
      go_wp2_with fail
      refine hK.out _ _ ?_ (fun hH2 => ?_)
      · (try dsimp only)
        (try trivial)
      clear hK K hH
      exact DN.out _ _ _ _ (st2.out W2 gI n2 bb v8 v10 v13 Y.out.1 hn HB H8 H10 (⟨u0, u1⟩))
    exact AllReadyH.nil
  have st4 : Hid (∀ (W : World) (gI : Nat) (n2 : Nat) (bb : ByteArray) (v8 : Int), Hid (DS q a len cap f w [.int .i64 0, .string ⟨#[]⟩, .int .i64 0, .int .i64 0, .int .i64 0, .int .i64 0, .int .i64 0, .int .i64 0, .int .i64 0] (k0 + 3) W) → n2 < 3 → Hid (bb.size = 6) → Hid (167772162 ≤ v8 ∧ v8 ≤ 167772164) → G 7 #[true, true, true, true, true, true, true, true, true, true, false, false, true, false, true, false, true, false, false, false] { tmps := #[.pointer (some ⟨q, 0, none⟩), undef, .pointer (some ⟨w.heap.size, 0, none⟩), .slice (some ⟨gI, 0, none⟩) 3 3, .pointer (some ⟨q, 0, none⟩), .int .i64 (n2 : Int), .pointer (some ⟨gI, n2, none⟩), .int .i64 (kf n2), .pointer (some ⟨q, 0, none⟩), .string bb, .pointer (some ⟨q, 0, none⟩), .int .i64 v8, .pointer (some ⟨q, 0, none⟩), undef, undef, .pointer (some ⟨q, 0, none⟩), undef, .pointer (some ⟨q, 0, none⟩), undef, .pointer (some ⟨q, 0, none⟩), undef, undef], defers := [] } W) := by
    intro W gI n2 bb v8 X hn HB H8
    refine UP.out _ _ _ _ ?_
    have hH : (fun _ : World => True) W := trivial
    have zl := X.out.lt
    have zq := X.out.ql
    have i0 : (0 : Int) ≤ (n2 : Int) := by omega
    have i1 : (n2 : Int) < 3 := by omega
    refine wpAnyH_ready (rs := [10]) (by kernel_rfl) (by simp) ?_
    refine AllReadyH.cons rfl (fun K hK => ?_) ?_
    · go_simp
      refine (next_ds 2 (by omega) (by omega) (by omega) _ X).mono ?_
      rintro e W2 ⟨v10, rfl, u0, u1, Y⟩
      go_wp2_with fail
      refine hK.out _ _ ?_ (fun hH2 => ?_)
      · (try dsimp only)
        (try trivial)
      clear hK K hH
      have wr1 : IntKind.i64.wrap (1000 + v10) = 1000 + v10 := by rw [IntKind.wrap_i64]; omega
      refine wpAnyH_take (i := 11) (v := ?v2) rfl (by kernel_rfl) (by kernel_rfl) (by kernel_rfl) (fun _ _ _ h => h) (Or.inl ⟨by rfl, ?hy2⟩) (by assumption) ?rest2
      case hy2 => (intro w hSw; (try dsimp only at hSw); go_simp; (try with_reducible rfl))
      exact DN.out _ _ _ _ (st3.out W2 gI n2 bb v8 v10 Y.out.1 hn HB H8 (⟨u0, u1⟩))
    exact AllReadyH.nil
  have st5 : Hid (∀ (W : World) (gI : Nat) (n2 : Nat) (bb : ByteArray), Hid (DS q a len cap f w [.int .i64 0, .string ⟨#[]⟩, .int .i64 0, .int .i64 0, .int .i64 0, .int .i64 0, .int .i64 0, .int .i64 0, .int .i64 0] (k0 + 2) W) → n2 < 3 → Hid (bb.size = 6) → G 8 #[true, true, true, true, true, true, true, true, false, true, false, false, true, false, true, false, true, false, false, false] { tmps := #[.pointer (some ⟨q, 0, none⟩), undef, .pointer (some ⟨w.heap.size, 0, none⟩), .slice (some ⟨gI, 0, none⟩) 3 3, .pointer (some ⟨q, 0, none⟩), .int .i64 (n2 : Int), .pointer (some ⟨gI, n2, none⟩), .int .i64 (kf n2), .pointer (some ⟨q, 0, none⟩), .string bb, .pointer (some ⟨q, 0, none⟩), undef, .pointer (some ⟨q, 0, none⟩), undef, undef, .pointer (some ⟨q, 0, none⟩), undef, .pointer (some ⟨q, 0, none⟩), undef, .pointer (some ⟨q, 0, none⟩), undef, undef], defers := [] } W) := by
    intro W gI n2 bb X hn HB
    refine UP.out _ _ _ _ ?_
    have hH : (fun _ : World => True) W := trivial
    have zl := X.out.lt
    have zq := X.out.ql
    have i0 : (0 : Int) ≤ (n2 : Int) := by omega
    have i1 : (n2 : Int) < 3 := by omega
    refine wpAnyH_ready (rs := [8]) (by kernel_rfl) (by simp) ?_
    refine AllReadyH.cons rfl (fun K hK => ?_) ?_
    · go_simp
      refine (lan9_ds (by omega) _ X).mono ?_
      rintro e W2 ⟨v8, rfl, u0, u1, Y⟩
      go_wp2_with fail
      refine hK.out _ _ ?_ (fun hH2 => ?_)
      · (try dsimp only)
        (try trivial)
      clear hK K hH
      exact DN.out _ _ _ _ (st4.out W2 gI n2 bb v8 Y.out.1 hn HB (⟨u0, u1⟩))
    exact AllReadyH.nil
  have st6 : Hid (∀ (W : World) (gI : Nat) (n2 : Nat), Hid (DS q a len cap f w [.int .i64 0, .string ⟨#[]⟩, .int .i64 0, .int .i64 0, .int .i64 0, .int .i64 0, .int .i64 0, .int .i64 0, .int .i64 0] (k0 + 1) W) → n2 < 3 → G 9 #[true, true, true, true, true, true, false, true, false, true, false, false, true, false, true, false, true, false, false, false] { tmps := #[.pointer (some ⟨q, 0, none⟩), undef, .pointer (some ⟨w.heap.size, 0, none⟩), .slice (some ⟨gI, 0, none⟩) 3 3, .pointer (some ⟨q, 0, none⟩), .int .i64 (n2 : Int), .pointer (some ⟨gI, n2, none⟩), .int .i64 (kf n2), .pointer (some ⟨q, 0, none⟩), undef, .pointer (some ⟨q, 0, none⟩), undef, .pointer (some ⟨q, 0, none⟩), undef, undef, .pointer (some ⟨q, 0, none⟩), undef, .pointer (some ⟨q, 0, none⟩), undef, .pointer (some ⟨q, 0, none⟩), undef, undef], defers := [] } W) := by
    intro W gI n2 X hn
    refine UP.out _ _ _ _ ?_
    have hH : (fun _ : World => True) W := trivial
    have zl := X.out.lt
    have zq := X.out.ql
    have i0 : (0 : Int) ≤ (n2 : Int) := by omega
    have i1 : (n2 : Int) < 3 := by omega
    refine wpAnyH_ready (rs := [6]) (by kernel_rfl) (by simp) ?_
    refine AllReadyH.cons rfl (fun K hK => ?_) ?_
    · go_simp
      refine (mac_ds (by omega) _ X).mono ?_
      rintro e W2 ⟨bb, rfl, hbb, Y⟩
      go_wp2_with fail
      refine hK.out _ _ ?_ (fun hH2 => ?_)
      · (try dsimp only)
        (try trivial)
      clear hK K hH
      exact DN.out _ _ _ _ (st5.out W2 gI n2 bb Y.out.1 hn hbb)
    exact AllReadyH.nil
  have st7 : Hid (∀ (W : World) (gI : Nat) (n2 : Nat) (bb : ByteArray) (v8 : Int) (v10 : Int) (v13 : Int) (v15 : Int) (v17 : Int), Hid (DS q a len cap f w [.int .i64 0, .string ⟨#[]⟩, .int .i64 0, .int .i64 0, .int .i64 0, .int .i64 0, .int .i64 0, .int .i64 0, .int .i64 0] (k0 + 7) W) → Hid (Boxed W gI [.int .i64 6, .int .i64 17, .int .i64 1]) → gI ≠ q → gI < W.heap.size → n2 < 3 → Hid (bb.size = 6) → Hid (167772162 ≤ v8 ∧ v8 ≤ 167772164) → Hid (0 ≤ v10 ∧ v10 < 2) → Hid (0 ≤ v13 ∧ v13 ≤ 151587081) → Hid (0 ≤ v15 ∧ v15 ≤ 65535) → Hid (0 ≤ v17 ∧ v17 < 3) → G 3 #[true, true, true, true, false, true, true, true, true, true, true, true, true, true, true, true, true, true, false, false] { tmps := #[.pointer (some ⟨q, 0, none⟩), undef, .pointer (some ⟨w.heap.size, 0, none⟩), .slice (some ⟨gI, 0, none⟩) 3 3, .pointer (some ⟨q, 0, none⟩), .int .i64 (n2 : Int), .pointer (some ⟨gI, n2, none⟩), undef, .pointer (some ⟨q, 0, none⟩), .string bb, .pointer (some ⟨q, 0, none⟩), .int .i64 v8, .pointer (some ⟨q, 0, none⟩), .int .i64 v10, .int .i64 (1000 + v10), .pointer (some ⟨q, 0, none⟩), .int .i64 v13, .pointer (some ⟨q, 0, none⟩), .int .i64 v15, .pointer (some ⟨q, 0, none⟩), .int .i64 v17, undef], defers := [] } W) := by
    intro W gI n2 bb v8 v10 v13 v15 v17 X BI nI lI hn HB H8 H10 H13 H15 H17
    refine UP.out _ _ _ _ ?_
    have hH : (fun _ : World => True) W := trivial
    have zl := X.out.lt
    have zq := X.out.ql
    have i0 : (0 : Int) ≤ (n2 : Int) := by omega
    have i1 : (n2 : Int) < 3 := by omega
    refine wpAnyH_ready (rs := [4]) (by kernel_rfl) (by simp) ?_
    refine AllReadyH.cons rfl (fun K hK => ?_) ?_
    · have cN := pickI BI.out n2 hn
      go_simp
      refine hK.out _ _ ?_ (fun hH2 => ?_)
      · (try dsimp only)
        (try trivial)
      clear hK K hH
      refine wpAnyH_take (i := 18) (v := ?v3) rfl (by kernel_rfl) (by kernel_rfl) (by kernel_rfl) (fun _ _ _ h => h) (Or.inl ⟨by rfl, ?hy3⟩) (by assumption) ?rest3
      case hy3 => (intro w hSw; (try dsimp only at hSw); go_simp; (try with_reducible rfl))
      exact DN.out _ _ _ _ (st0.out W gI n2 bb v8 v10 v13 v15 v17 X hn HB H8 H10 H13 H15 H17)
    exact AllReadyH.nil
  have st8 : Hid (∀ (W : World) (gI : Nat) (n2 : Nat) (bb : ByteArray) (v8 : Int) (v10 : Int) (v13 : Int) (v15 : Int), Hid (DS q a len cap f w [.int .i64 0, .string ⟨#[]⟩, .int .i64 0, .int .i64 0, .int .i64 0, .int .i64 0, .int .i64 0, .int .i64 0, .int .i64 0] (k0 + 6) W) → Hid (Boxed W gI [.int .i64 6, .int .i64 17, .int .i64 1]) → gI ≠ q → gI < W.heap.size → n2 < 3 → Hid (bb.size = 6) → Hid (167772162 ≤ v8 ∧ v8 ≤ 167772164) → Hid (0 ≤ v10 ∧ v10 < 2) → Hid (0 ≤ v13 ∧ v13 ≤ 151587081) → Hid (0 ≤ v15 ∧ v15 ≤ 65535) → G 4 #[true, true, true, true, false, true, true, true, true, true, true, true, true, true, true, true, true, false, false, false] { tmps := #[.pointer (some ⟨q, 0, none⟩), undef, .pointer (some ⟨w.heap.size, 0, none⟩), .slice (some ⟨gI, 0, none⟩) 3 3, .pointer (some ⟨q, 0, none⟩), .int .i64 (n2 : Int), .pointer (some ⟨gI, n2, none⟩), undef, .pointer (some ⟨q, 0, none⟩), .string bb, .pointer (some ⟨q, 0, none⟩), .int .i64 v8, .pointer (some ⟨q, 0, none⟩), .int .i64 v10, .int .i64 (1000 + v10), .pointer (some ⟨q, 0, none⟩), .int .i64 v13, .pointer (some ⟨q, 0, none⟩), .int .i64 v15, .pointer (some ⟨q, 0, none⟩), undef, undef], defers := [] } W) := by
    intro W gI n2 bb v8 v10 v13 v15 X BI nI lI hn HB H8 H10 H13 H15
    refine UP.out _ _ _ _ ?_
    have hH : (fun _ : World => True) W := trivial
    have zl := X.out.lt
    have zq := X.out.ql
    have i0 : (0 : Int) ≤ (n2 : Int) := by omega
    have i1 : (n2 : Int) < 3 := by omega
    refine wpAnyH_ready (rs := [4, 17]) (by kernel_rfl) (by simp) ?_
    refine AllReadyH.cons rfl (fun K hK => ?_) ?_
    · have cN := pickI BI.out n2 hn
      go_simp
      refine hK.out _ _ ?_ (fun hH2 => ?_)
      · (try dsimp only)
        (try trivial)
      clear hK K hH
      exact DN.out _ _ _ _ (st1.out W gI n2 bb v8 v10 v13 v15 X hn HB H8 H10 H13 H15)
    refine AllReadyH.cons rfl (fun K hK => ?_) ?_
    · go_simp
      refine (next_ds 3 (by omega) (by omega) (by omega) _ X).mono ?_
      rintro e W2 ⟨v17, rfl, u0, u1, Y⟩
      go_wp2_with fail
      refine hK.out _ _ ?_ (fun hH2 => ?_)
      · (try dsimp only)
        (try trivial)
      clear hK K hH
      exact DN.out _ _ _ _ (st7.out W2 gI n2 bb v8 v10 v13 v15 v17 Y.out.1 (kept_box Y.out.2 BI.out nI lI) nI (Nat.lt_of_lt_of_le lI Y.out.2.size) hn HB H8 H10 H13 H15 (⟨u0, u1⟩))
    exact AllReadyH.nil
  have st9 : Hid (∀ (W : World) (gI : Nat) (n2 : Nat) (bb : ByteArray) (v8 : Int) (v10 : Int) (v13 : Int), Hid (DS q a len cap f w [.int .i64 0, .string ⟨#[]⟩, .int .i64 0, .int .i64 0, .int .i64 0, .int .i64 0, .int .i64 0, .int .i64 0, .int .i64 0] (k0 + 5) W) → Hid (Boxed W gI [.int .i64 6, .int .i64 17, .int .i64 1]) → gI ≠ q → gI < W.heap.size → n2 < 3 → Hid (bb.size = 6) → Hid (167772162 ≤ v8 ∧ v8 ≤ 167772164) → Hid (0 ≤ v10 ∧ v10 < 2) → Hid (0 ≤ v13 ∧ v13 ≤ 151587081) → G 5 #[true, true, true, true, false, true, true, true, true, true, true, true, true, true, true, false, true, false, false, false] { tmps := #[.pointer (some ⟨q, 0, none⟩), undef, .pointer (some ⟨w.heap.size, 0, none⟩), .slice (some ⟨gI, 0, none⟩) 3 3, .pointer (some ⟨q, 0, none⟩), .int .i64 (n2 : Int), .pointer (some ⟨gI, n2, none⟩), undef, .pointer (some ⟨q, 0, none⟩), .string bb, .pointer (some ⟨q, 0, none⟩), .int .i64 v8, .pointer (some ⟨q, 0, none⟩), .int .i64 v10, .int .i64 (1000 + v10), .pointer (some ⟨q, 0, none⟩), .int .i64 v13, .pointer (some ⟨q, 0, none⟩), undef, .pointer (some ⟨q, 0, none⟩), undef, undef], defers := [] } W) := by
    intro W gI n2 bb v8 v10 v13 X BI nI lI hn HB H8 H10 H13
    refine UP.out _ _ _ _ ?_
    have hH : (fun _ : World => True) W := trivial
    have zl := X.out.lt
    have zq := X.out.ql
    have i0 : (0 : Int) ≤ (n2 : Int) := by omega
    have i1 : (n2 : Int) < 3 := by omega
    refine wpAnyH_ready (rs := [4, 15]) (by kernel_rfl) (by simp) ?_
    refine AllReadyH.cons rfl (fun K hK => ?_) ?_
    · have cN := pickI BI.out n2 hn
      go_simp
      refine hK.out _ _ ?_ (fun hH2 => ?_)
      · (try dsimp only)
        (try trivial)
      clear hK K hH
      exact DN.out _ _ _ _ (st2.out W gI n2 bb v8 v10 v13 X hn HB H8 H10 H13)
    refine AllReadyH.cons rfl (fun K hK => ?_) ?_
    · go_simp
      refine (port9_ds (by omega) _ X).mono ?_
      rintro e W2 ⟨v15, rfl, u0, u1, Y⟩
      go_wp2_with fail
      refine hK.out _ _ ?_ (fun hH2 => ?_)
      · (try dsimp only)
        (try trivial)
      clear hK K hH
      exact DN.out _ _ _ _ (st8.out W2 gI n2 bb v8 v10 v13 v15 Y.out.1 (kept_box Y.out.2 BI.out nI lI) nI (Nat.lt_of_lt_of_le lI Y.out.2.size) hn HB H8 H10 H13 (⟨u0, u1⟩))
    exact AllReadyH.nil
  have st10 : Hid (∀ (W : World) (gI : Nat) (n2 : Nat) (bb : ByteArray) (v8 : Int) (v10 : Int), Hid (DS q a len cap f w [.int .i64 0, .string ⟨#[]⟩, .int .i64 0, .int .i64 0, .int .i64 0, .int .i64 0, .int .i64 0, .int .i64 0, .int .i64 0] (k0 + 4) W) → Hid (Boxed W gI [.int .i64 6, .int .i64 17, .int .i64 1]) → gI ≠ q → gI < W.heap.size → n2 < 3 → Hid (bb.size = 6) → Hid (167772162 ≤ v8 ∧ v8 ≤ 167772164) → Hid (0 ≤ v10 ∧ v10 < 2) → G 6 #[true, true, true, true, false, true, true, true, true, true, true, true, true, false, true, false, true, false, false, false] { tmps := #[.pointer (some ⟨q, 0, none⟩), undef, .pointer (some ⟨w.heap.size, 0, none⟩), .slice (some ⟨gI, 0, none⟩) 3 3, .pointer (some ⟨q, 0, none⟩), .int .i64 (n2 : Int), .pointer (some ⟨gI, n2, none⟩), undef, .pointer (some ⟨q, 0, none⟩), .string bb, .pointer (some ⟨q, 0, none⟩), .int .i64 v8, .pointer (some ⟨q, 0, none⟩), .int .i64 v10, .int .i64 (1000 + v10), .pointer (some ⟨q, 0, none⟩), undef, .pointer (some ⟨q, 0, none⟩), undef, .pointer (some ⟨q, 0, none⟩), undef, undef], defers := [] } W) := by
    intro W gI n2 bb v8 v10 X BI nI lI hn HB H8 H10
    refine UP.out _ _ _ _ ?_
    have hH : (fun _ : World => True) W := trivial
    have zl := X.out.lt
    have zq := X.out.ql
    have i0 : (0 : Int) ≤ (n2 : Int) := by omega
    have i1 : (n2 : Int) < 3 := by omega
    refine wpAnyH_ready (rs := [4, 13]) (by kernel_rfl) (by simp) ?_
    refine AllReadyH.cons rfl (fun K hK => ?_) ?_
    · have cN := pickI BI.out n2 hn
      go_simp
      refine hK.out _ _ ?_ (fun hH2 => ?_)
      · (try dsimp only)
        (try trivial)
      clear hK K hH
      exact DN.out _ _ _ _ (st3.out W gI n2 bb v8 v10 X hn HB H8 H10)
    refine AllReadyH.cons rfl (fun K hK => ?_) ?_
    · go_simp
      refine (wan9_ds (by omega) _ X).mono ?_
      rintro e W2 ⟨v13, rfl, u0, u1, Y⟩
      go_wp2_with fail
      refine hK.out _ _ ?_ (fun hH2 => ?_)
      · (try dsimp only)
        (try trivial)
      clear hK K hH
      exact DN.out _ _ _ _ (st9.out W2 gI n2 bb v8 v10 v13 Y.out.1 (kept_box Y.out.2 BI.out nI lI) nI (Nat.lt_of_lt_of_le lI Y.out.2.size) hn HB H8 H10 (⟨u0, u1⟩))
    exact AllReadyH.nil
  have st11 : Hid (∀ (W : World) (gI : Nat) (n2 : Nat) (bb : ByteArray) (v8 : Int), Hid (DS q a len cap f w [.int .i64 0, .string ⟨#[]⟩, .int .i64 0, .int .i64 0, .int .i64 0, .int .i64 0, .int .i64 0, .int .i64 0, .int .i64 0] (k0 + 3) W) → Hid (Boxed W gI [.int .i64 6, .int .i64 17, .int .i64 1]) → gI ≠ q → gI < W.heap.size → n2 < 3 → Hid (bb.size = 6) → Hid (167772162 ≤ v8 ∧ v8 ≤ 167772164) → G 8 #[true, true, true, true, false, true, true, true, true, true, false, false, true, false, true, false, true, false, false, false] { tmps := #[.pointer (some ⟨q, 0, none⟩), undef, .pointer (some ⟨w.heap.size, 0, none⟩), .slice (some ⟨gI, 0, none⟩) 3 3, .pointer (some ⟨q, 0, none⟩), .int .i64 (n2 : Int), .pointer (some ⟨gI, n2, none⟩), undef, .pointer (some ⟨q, 0, none⟩), .string bb, .pointer (some ⟨q, 0, none⟩), .int .i64 v8, .pointer (some ⟨q, 0, none⟩), undef, undef, .pointer (some ⟨q, 0, none⟩), undef, .pointer (some ⟨q, 0, none⟩), undef, .pointer (some ⟨q, 0, none⟩), undef, undef], defers := [] } W) := by
    intro W gI n2 bb v8 X BI nI lI hn HB H8
    refine UP.out _ _ _ _ ?_
    have hH : (fun _ : World => True) W := trivial
    have zl := X.out.lt
    have zq := X.out.ql
    have i0 : (0 : Int) ≤ (n2 : Int) := by omega
    have i1 : (n2 : Int) < 3 := by omega
    refine wpAnyH_ready (rs := [4, 10]) (by kernel_rfl) (by simp) ?_
    refine AllReadyH.cons rfl (fun K hK => ?_) ?_
    · have cN := pickI BI.out n2 hn
      go_simp
      refine hK.out _ _ ?_ (fun hH2 => ?_)
      · (try dsimp only)
        (try trivial)
      clear hK K hH
      exact DN.out _ _ _ _ (st4.out W gI n2 bb v8 X hn HB H8)
    refine AllReadyH.cons rfl (fun K hK => ?_) ?_
    · go_simp
      refine (next_ds 2 (by omega) (by omega) (by omega) _ X).mono ?_
      rintro e W2 ⟨v10, rfl, u0, u1, Y⟩
      go_wp2_with fail
      refine hK.out _ _ ?_ (fun hH2 => ?_)
      · (try dsimp only)
        (try trivial)
      clear hK K hH
      have wr1 : IntKind.i64.wrap (1000 + v10) = 1000 + v10 := by rw [IntKind.wrap_i64]; omega
      refine wpAnyH_take (i := 11) (v := ?v4) rfl (by kernel_rfl) (by kernel_rfl) (by kernel_rfl) (fun _ _ _ h => h) (Or.inl ⟨by rfl, ?hy4⟩) (by assumption) ?rest4
      case hy4 => (intro w hSw; (try dsimp only at hSw); go_simp; (try with_reducible rfl))
      exact DN.out _ _ _ _ (st10.out W2 gI n2 bb v8 v10 Y.out.1 (kept_box Y.out.2 BI.out nI lI) nI (Nat.lt_of_lt_of_le lI Y.out.2.size) hn HB H8 (⟨u0, u1⟩))
    exact AllReadyH.nil
  have st12 : Hid (∀ (W : World) (gI : Nat) (n2 : Nat) (bb : ByteArray), Hid (DS q a len cap f w [.int .i64 0, .string ⟨#[]⟩, .int .i64 0, .int .i64 0, .int .i64 0, .int .i64 0, .int .i64 0, .int .i64 0, .int .i64 0] (k0 + 2) W) → Hid (Boxed W gI [.int .i64 6, .int .i64 17, .int .i64 1]) → gI ≠ q → gI < W.heap.size → n2 < 3 → Hid (bb.size = 6) → G 9 #[true, true, true, true, false, true, true, true, false, true, false, false, true, false, true, false, true, false, false, false] { tmps := #[.pointer (some ⟨q, 0, none⟩), undef, .pointer (some ⟨w.heap.size, 0, none⟩), .slice (some ⟨gI, 0, none⟩) 3 3, .pointer (some ⟨q, 0, none⟩), .int .i64 (n2 : Int), .pointer (some ⟨gI, n2, none⟩), undef, .pointer (some ⟨q, 0, none⟩), .string bb, .pointer (some ⟨q, 0, none⟩), undef, .pointer (some ⟨q, 0, none⟩), undef, undef, .pointer (some ⟨q, 0, none⟩), undef, .pointer (some ⟨q, 0, none⟩), undef, .pointer (some ⟨q, 0, none⟩), undef, undef], defers := [] } W) := by
    intro W gI n2 bb X BI nI lI hn HB
    refine UP.out _ _ _ _ ?_
    have hH : (fun _ : World => True) W := trivial
    have zl := X.out.lt
    have zq := X.out.ql
    have i0 : (0 : Int) ≤ (n2 : Int) := by omega
    have i1 : (n2 : Int) < 3 := by omega
    refine wpAnyH_ready (rs := [4, 8]) (by kernel_rfl) (by simp) ?_
    refine AllReadyH.cons rfl (fun K hK => ?_) ?_
    · have cN := pickI BI.out n2 hn
      go_simp
      refine hK.out _ _ ?_ (fun hH2 => ?_)
      · (try dsimp only)
        (try trivial)
      clear hK K hH
      exact DN.out _ _ _ _ (st5.out W gI n2 bb X hn HB)
    refine AllReadyH.cons rfl (fun K hK => ?_) ?_
    · go_simp
      refine (lan9_ds (by omega) _ X).mono ?_
      rintro e W2 ⟨v8, rfl, u0, u1, Y⟩
      go_wp2_with fail
      refine hK.out _ _ ?_ (fun hH2 => ?_)
      · (try dsimp only)
        (try trivial)
      clear hK K hH
      exact DN.out _ _ _ _ (st11.out W2 gI n2 bb v8 Y.out.1 (kept_box Y.out.2 BI.out nI lI) nI (Nat.lt_of_lt_of_le lI Y.out.2.size) hn HB (⟨u0, u1⟩))
    exact AllReadyH.nil
  have st13 : Hid (∀ (W : World) (gI : Nat) (n2 : Nat), Hid (DS q a len cap f w [.int .i64 0, .string ⟨#[]⟩, .int .i64 0, .int .i64 0, .int .i64 0, .int .i64 0, .int .i64 0, .int .i64 0, .int .i64 0] (k0 + 1) W) → Hid (Boxed W gI [.int .i64 6, .int .i64 17, .int .i64 1]) → gI ≠ q → gI < W.heap.size → n2 < 3 → G 10 #[true, true, true, true, false, true, false, true, false, true, false, false, true, false, true, false, true, false, false, false] { tmps := #[.pointer (some ⟨q, 0, none⟩), undef, .pointer (some ⟨w.heap.size, 0, none⟩), .slice (some ⟨gI, 0, none⟩) 3 3, .pointer (some ⟨q, 0, none⟩), .int .i64 (n2 : Int), .pointer (some ⟨gI, n2, none⟩), undef, .pointer (some ⟨q, 0, none⟩), undef, .pointer (some ⟨q, 0, none⟩), undef, .pointer (some ⟨q, 0, none⟩), undef, undef, .pointer (some ⟨q, 0, none⟩), undef, .pointer (some ⟨q, 0, none⟩), undef, .pointer (some ⟨q, 0, none⟩), undef, undef], defers := [] } W) := by
    intro W gI n2 X BI nI lI hn
    refine UP.out _ _ _ _ ?_
    have hH : (fun _ : World => True) W := trivial
    have zl := X.out.lt
    have zq := X.out.ql
    have i0 : (0 : Int) ≤ (n2 : Int) := by omega
    have i1 : (n2 : Int) < 3 := by omega
    refine wpAnyH_ready (rs := [4, 6]) (by kernel_rfl) (by simp) ?_
    refine AllReadyH.cons rfl (fun K hK => ?_) ?_
    · have cN := pickI BI.out n2 hn
      go_simp
      refine hK.out _ _ ?_ (fun hH2 => ?_)
      · (try dsimp only)
        (try trivial)
      clear hK K hH
      exact DN.out _ _ _ _ (st6.out W gI n2 X hn)
    refine AllReadyH.cons rfl (fun K hK => ?_) ?_
    · go_simp
      refine (mac_ds (by omega) _ X).mono ?_
      rintro e W2 ⟨bb, rfl, hbb, Y⟩
      go_wp2_with fail
      refine hK.out _ _ ?_ (fun hH2 => ?_)
      · (try dsimp only)
        (try trivial)
      clear hK K hH
      exact DN.out _ _ _ _ (st12.out W2 gI n2 bb Y.out.1 (kept_box Y.out.2 BI.out nI lI) nI (Nat.lt_of_lt_of_le lI Y.out.2.size) hn hbb)
    exact AllReadyH.nil
  have st14 : Hid (∀ (W : World) (gI : Nat), Hid (DS q a len cap f w [.int .i64 0, .string ⟨#[]⟩, .int .i64 0, .int .i64 0, .int .i64 0, .int .i64 0, .int .i64 0, .int .i64 0, .int .i64 0] (k0 + 0) W) → Hid (Boxed W gI [.int .i64 6, .int .i64 17, .int .i64 1]) → gI ≠ q → gI < W.heap.size → G 12 #[true, true, false, false, false, true, false, true, false, true, false, false, true, false, true, false, true, false, false, false] { tmps := #[.pointer (some ⟨q, 0, none⟩), undef, .pointer (some ⟨w.heap.size, 0, none⟩), .slice (some ⟨gI, 0, none⟩) 3 3, .pointer (some ⟨q, 0, none⟩), undef, undef, undef, .pointer (some ⟨q, 0, none⟩), undef, .pointer (some ⟨q, 0, none⟩), undef, .pointer (some ⟨q, 0, none⟩), undef, undef, .pointer (some ⟨q, 0, none⟩), undef, .pointer (some ⟨q, 0, none⟩), undef, .pointer (some ⟨q, 0, none⟩), undef, undef], defers := [] } W) := by
    intro W gI X BI nI lI
    refine UP.out _ _ _ _ ?_
    have hH : (fun _ : World => True) W := trivial
    have zl := X.out.lt
    have zq := X.out.ql
    refine wpAnyH_ready (rs := [2]) (by kernel_rfl) (by simp) ?_
    refine AllReadyH.cons rfl (fun K hK => ?_) ?_
    · go_simp
      refine (next_ds 3 (by omega) (by omega) (by omega) _ X).mono ?_
      rintro e W2 ⟨vv, rfl, u0, u1, Y⟩
      obtain ⟨n2, rfl⟩ := Int.eq_ofNat_of_zero_le u0
      have hn : n2 < 3 := by omega
      have i0 : (0 : Int) ≤ (n2 : Int) := by omega
      have i1 : (n2 : Int) < 3 := by omega
      go_wp2_with fail
      refine hK.out _ _ ?_ (fun hH2 => ?_)
      · (try dsimp only)
        (try trivial)
      clear hK K hH
      refine wpAnyH_take (i := 3) (v := ?v5) rfl (by kernel_rfl) (by kernel_rfl) (by kernel_rfl) (fun _ _ _ h => h) (Or.inl ⟨by rfl, ?hy5⟩) (by assumption) ?rest5
      case hy5 => (intro w hSw; (try dsimp only at hSw); go_simp; (try with_reducible rfl))
      exact DN.out _ _ _ _ (st13.out W2 gI n2 Y.out.1 (kept_box Y.out.2 BI.out nI lI) nI (Nat.lt_of_lt_of_le lI Y.out.2.size) hn)
    exact AllReadyH.nil
  have st15 : Hid (∀ (W : World) (n2 : Nat) (bb : ByteArray) (v8 : Int) (v10 : Int) (v13 : Int) (v15 : Int) (v17 : Int), Hid (DS q a len cap f w [.int .i64 0, .string ⟨#[]⟩, .int .i64 0, .int .i64 0, .int .i64 0, .int .i64 0, .int .i64 0, .int .i64 0, .int .i64 0] (k0 + 7) W) → n2 < 3 → Hid (bb.size = 6) → Hid (167772162 ≤ v8 ∧ v8 ≤ 167772164) → Hid (0 ≤ v10 ∧ v10 < 2) → Hid (0 ≤ v13 ∧ v13 ≤ 151587081) → Hid (0 ≤ v15 ∧ v15 ≤ 65535) → Hid (0 ≤ v17 ∧ v17 < 3) → G 5 #[false, true, true, false, false, true, true, true, true, true, true, true, true, true, true, true, true, true, false, false] { tmps := #[.pointer (some ⟨q, 0, none⟩), undef, .pointer (some ⟨w.heap.size, 0, none⟩), undef, .pointer (some ⟨q, 0, none⟩), .int .i64 (n2 : Int), undef, undef, .pointer (some ⟨q, 0, none⟩), .string bb, .pointer (some ⟨q, 0, none⟩), .int .i64 v8, .pointer (some ⟨q, 0, none⟩), .int .i64 v10, .int .i64 (1000 + v10), .pointer (some ⟨q, 0, none⟩), .int .i64 v13, .pointer (some ⟨q, 0, none⟩), .int .i64 v15, .pointer (some ⟨q, 0, none⟩), .int .i64 v17, undef], defers := [] } W) := by
    intro W n2 bb v8 v10 v13 v15 v17 X hn HB H8 H10 H13 H15 H17
    refine UP.out _ _ _ _ ?_
    have hH : (fun _ : World => True) W := trivial
    have zl := X.out.lt
    have zq := X.out.ql
    have i0 : (0 : Int) ≤ (n2 : Int) := by omega
    have i1 : (n2 : Int) < 3 := by omega
    refine wpAnyH_ready (rs := [0]) (by kernel_rfl) (by simp) ?_
    refine AllReadyH.cons rfl (fun K hK => ?_) ?_
    · go_simp
      refine hK.out _ _ ?_ (fun hH2 => ?_)
      · (try dsimp only)
        (try trivial)
      clear hK K hH
      refine wpAnyH_take (i := 3) (v := ?v6) rfl (by kernel_rfl) (by kernel_rfl) (by kernel_rfl) (fun _ _ _ h => h) (Or.inl ⟨by rfl, ?hy6⟩) (by assumption) ?rest6
      case hy6 => (intro w hSw; (try dsimp only at hSw); go_simp; (try with_reducible rfl))
      exact DN.out _ _ _ _ (st7.out (W.alloc (.cells #[.int .i64 6, .int .i64 17, .int .i64 1] 3)) W.heap.size n2 bb v8 v10 v13 v15 v17 (DS.alloc X.out _) (Boxed.new W _ _) (by omega) (by simp) hn HB H8 H10 H13 H15 H17)
    exact AllReadyH.nil
  have st16 : Hid (∀ (W : World) (n2 : Nat) (bb : ByteArray) (v8 : Int) (v10 : Int) (v13 : Int) (v15 : Int), Hid (DS q a len cap f w [.int .i64 0, .string ⟨#[]⟩, .int .i64 0, .int .i64 0, .int .i64 0, .int .i64 0, .int .i64 0, .int .i64 0, .int .i64 0] (k0 + 6) W) → n2 < 3 → Hid (bb.size = 6) → Hid (167772162 ≤ v8 ∧ v8 ≤ 167772164) → Hid (0 ≤ v10 ∧ v10 < 2) → Hid (0 ≤ v13 ∧ v13 ≤ 151587081) → Hid (0 ≤ v15 ∧ v15 ≤ 65535) → G 6 #[false, true, true, false, false, true, true, true, true, true, true, true, true, true, true, true, true, false, false, false] { tmps := #[.pointer (some ⟨q, 0, none⟩), undef, .pointer (some ⟨w.heap.size, 0, none⟩), undef, .pointer (some ⟨q, 0, none⟩), .int .i64 (n2 : Int), undef, undef, .pointer (some ⟨q, 0, none⟩), .string bb, .pointer (some ⟨q, 0, none⟩), .int .i64 v8, .pointer (some ⟨q, 0, none⟩), .int .i64 v10, .int .i64 (1000 + v10), .pointer (some ⟨q, 0, none⟩), .int .i64 v13, .pointer (some ⟨q, 0, none⟩), .int .i64 v15, .pointer (some ⟨q, 0, none⟩), undef, undef], defers := [] } W) := by
    intro W n2 bb v8 v10 v13 v15 X hn HB H8 H10 H13 H15
    refine UP.out _ _ _ _ ?_
    have hH : (fun _ : World => True) W := trivial
    have zl := X.out.lt
    have zq := X.out.ql
    have i0 : (0 : Int) ≤ (n2 : Int) := by omega
    have i1 : (n2 : Int) < 3 := by omega
    refine wpAnyH_ready (rs := [0, 17]) (by kernel_rfl) (by simp) ?_
    refine AllReadyH.cons rfl (fun K hK => ?_) ?_
    · go_simp
      refine hK.out _ _ ?_ (fun hH2 => ?_)
      · (try dsimp only)
        (try trivial)
      clear hK K hH
      refine wpAnyH_take (i := 3) (v := ?v7) rfl (by kernel_rfl) (by kernel_rfl) (by kernel_rfl) (fun _ _ _ h => h) (Or.inl ⟨by rfl, ?hy7⟩) (by assumption) ?rest7
      case hy7 => (intro w hSw; (try dsimp only at hSw); go_simp; (try with_reducible rfl))
      exact DN.out _ _ _ _ (st8.out (W.alloc (.cells #[.int .i64 6, .int .i64 17, .int .i64 1] 3)) W.heap.size n2 bb v8 v10 v13 v15 (DS.alloc X.out _) (Boxed.new W _ _) (by omega) (by simp) hn HB H8 H10 H13 H15)
    refine AllReadyH.cons rfl (fun K hK => ?_) ?_
    · go_simp
      refine (next_ds 3 (by omega) (by omega) (by omega) _ X).mono ?_
      rintro e W2 ⟨v17, rfl, u0, u1, Y⟩
      go_wp2_with fail
      refine hK.out _ _ ?_ (fun hH2 => ?_)
      · (try dsimp only)
        (try trivial)
      clear hK K hH
      exact DN.out _ _ _ _ (st15.out W2 n2 bb v8 v10 v13 v15 v17 Y.out.1 hn HB H8 H10 H13 H15 (⟨u0, u1⟩))
    exact AllReadyH.nil
  have st17 : Hid (∀ (W : World) (n2 : Nat) (bb : ByteArray) (v8 : Int) (v10 : Int) (v13 : Int), Hid (DS q a len cap f w [.int .i64 0, .string ⟨#[]⟩, .int .i64 0, .int .i64 0, .int .i64 0, .int .i64 0, .int .i64 0, .int .i64 0, .int .i64 0] (k0 + 5) W) → n2 < 3 → Hid (bb.size = 6) → Hid (167772162 ≤ v8 ∧ v8 ≤ 167772164) → Hid (0 ≤ v10 ∧ v10 < 2) → Hid (0 ≤ v13 ∧ v13 ≤ 151587081) → G 7 #[false, true, true, false, false, true, true, true, true, true, true, true, true, true, true, false, true, false, false, false] { tmps := #[.pointer (some ⟨q, 0, none⟩), undef, .pointer (some ⟨w.heap.size, 0, none⟩), undef, .pointer (some ⟨q, 0, none⟩), .int .i64 (n2 : Int), undef, undef, .pointer (some ⟨q, 0, none⟩), .string bb, .pointer (some ⟨q, 0, none⟩), .int .i64 v8, .pointer (some ⟨q, 0, none⟩), .int .i64 v10, .int .i64 (1000 + v10), .pointer (some ⟨q, 0, none⟩), .int .i64 v13, .pointer (some ⟨q, 0, none⟩), undef, .pointer (some ⟨q, 0, none⟩), undef, undef], defers := [] } W) := by
    intro W n2 bb v8 v10 v13 X hn HB H8 H10 H13
    refine UP.out _ _ _ _ ?_
    have hH : (fun _ : World => True) W := trivial
    have zl := X.out.lt
    have zq := X.out.ql
    have i0 : (0 : Int) ≤ (n2 : Int) := by omega
    have i1 : (n2 : Int) < 3 := by omega
    refine wpAnyH_ready (rs := [0, 15]) (by kernel_rfl) (by simp) ?_
    refine AllReadyH.cons rfl (fun K hK => ?_) ?_
    · go_simp
      refine hK.out _ _ ?_ (fun hH2 => ?_)
      · (try dsimp only)
        (try trivial)
      clear hK K hH
      refine wpAnyH_take (i := 3) (v := ?v8) rfl (by kernel_rfl) (by kernel_rfl) (by kernel_rfl) (fun _ _ _ h => h) (Or.inl ⟨by rfl, ?hy8⟩) (by assumption) ?rest8
      case hy8 => (intro w hSw; (try dsimp only at hSw); go_simp; (try with_reducible rfl))
      exact DN.out _ _ _ _ (st9.out (W.alloc (.cells #[.int .i64 6, .int .i64 17, .int .i64 1] 3)) W.heap.size n2 bb v8 v10 v13 (DS.alloc X.out _) (Boxed.new W _ _) (by omega) (by simp) hn HB H8 H10 H13)
    refine AllReadyH.cons rfl (fun K hK => ?_) ?_
    · go_simp
      refine (port9_ds (by omega) _ X).mono ?_
      rintro e W2 ⟨v15, rfl, u0, u1, Y⟩
      go_wp2_with fail
      refine hK.out _ _ ?_ (fun hH2 => ?_)
      · (try dsimp only)
        (try trivial)
      clear hK K hH
      exact DN.out _ _ _ _ (st16.out W2 n2 bb v8 v10 v13 v15 Y.out.1 hn HB H8 H10 H13 (⟨u0, u1⟩))
    exact AllReadyH.nil
  have st18 : Hid (∀ (W : World) (n2 : Nat) (bb : ByteArray) (v8 : Int) (v10 : Int), Hid (DS q a len cap f w [.int .i64 0, .string ⟨#[]⟩, .int .i64 0, .int .i64 0, .int .i64 0, .int .i64 0, .int .i64 0, .int .i64 0, .int .i64 0] (k0 + 4) W) → n2 < 3 → Hid (bb.size = 6) → Hid (167772162 ≤ v8 ∧ v8 ≤ 167772164) → Hid (0 ≤ v10 ∧ v10 < 2) → G 8 #[false, true, true, false, false, true, true, true, true, true, true, true, true, false, true, false, true, false, false, false] { tmps := #[.pointer (some ⟨q, 0, none⟩), undef, .pointer (some ⟨w.heap.size, 0, none⟩), undef, .pointer (some ⟨q, 0, none⟩), .int .i64 (n2 : Int), undef, undef, .pointer (some ⟨q, 0, none⟩), .string bb, .pointer (some ⟨q, 0, none⟩), .int .i64 v8, .pointer (some ⟨q, 0, none⟩), .int .i64 v10, .int .i64 (1000 + v10), .pointer (some ⟨q, 0, none⟩), undef, .pointer (some ⟨q, 0, none⟩), undef, .pointer (some ⟨q, 0, none⟩), undef, undef], defers := [] } W) := by
    intro W n2 bb v8 v10 X hn HB H8 H10
    refine UP.out _ _ _ _ ?_
    have hH : (fun _ : World => True) W := trivial
    have zl := X.out.lt
    have zq := X.out.ql
    have i0 : (0 : Int) ≤ (n2 : Int) := by omega
    have i1 : (n2 : Int) < 3 := by omega
    refine wpAnyH_ready (rs := [0, 13]) (by kernel_rfl) (by simp) ?_
    refine AllReadyH.cons rfl (fun K hK => ?_) ?_
    · go_simp
      refine hK.out _ _ ?_ (fun hH2 => ?_)
      · (try dsimp only)
        (try trivial)
      clear hK K hH
      refine wpAnyH_take (i := 3) (v := ?v9) rfl (by kernel_rfl) (by kernel_rfl) (by kernel_rfl) (fun _ _ _ h => h) (Or.inl ⟨by rfl, ?hy9⟩) (by assumption) ?rest9
      case hy9 => (intro w hSw; (try dsimp only at hSw); go_simp; (try with_reducible rfl))
      exact DN.out _ _ _ _ (st10.out (W.alloc (.cells #[.int .i64 6, .int .i64 17, .int .i64 1] 3)) W.heap.size n2 bb v8 v10 (DS.alloc X.out _) (Boxed.new W _ _) (by omega) (by simp) hn HB H8 H10)
    refine AllReadyH.cons rfl (fun K hK => ?_) ?_
    · go_simp
      refine (wan9_ds (by omega) _ X).mono ?_
      rintro e W2 ⟨v13, rfl, u0, u1, Y⟩
      go_wp2_with fail
      refine hK.out _ _ ?_ (fun hH2 => ?_)
      · (try dsimp only)
        (try trivial)
      clear hK K hH
      exact DN.out _ _ _ _ (st17.out W2 n2 bb v8 v10 v13 Y.out.1 hn HB H8 H10 (⟨u0, u1⟩))
    exact AllReadyH.nil
  have st19 : Hid (∀ (W : World) (n2 : Nat) (bb : ByteArray) (v8 : Int), Hid (DS q a len cap f w [.int .i64 0, .string ⟨#[]⟩, .int .i64 0, .int .i64 0, .int .i64 0, .int .i64 0, .int .i64 0, .int .i64 0, .int .i64 0] (k0 + 3) W) → n2 < 3 → Hid (bb.size = 6) → Hid (167772162 ≤ v8 ∧ v8 ≤ 167772164) → G 10 #[false, true, true, false, false, true, true, true, true, true, false, false, true, false, true, false, true, false, false, false] { tmps := #[.pointer (some ⟨q, 0, none⟩), undef, .pointer (some ⟨w.heap.size, 0, none⟩), undef, .pointer (some ⟨q, 0, none⟩), .int .i64 (n2 : Int), undef, undef, .pointer (some ⟨q, 0, none⟩), .string bb, .pointer (some ⟨q, 0, none⟩), .int .i64 v8, .pointer (some ⟨q, 0, none⟩), undef, undef, .pointer (some ⟨q, 0, none⟩), undef, .pointer (some ⟨q, 0, none⟩), undef, .pointer (some ⟨q, 0, none⟩), undef, undef], defers := [] } W) := by
    intro W n2 bb v8 X hn HB H8
    refine UP.out _ _ _ _ ?_
    have hH : (fun _ : World => True) W := trivial
    have zl := X.out.lt
    have zq := X.out.ql
    have i0 : (0 : Int) ≤ (n2 : Int) := by omega
    have i1 : (n2 : Int) < 3 := by omega
    refine wpAnyH_ready (rs := [0, 10]) (by kernel_rfl) (by simp) ?_
    refine AllReadyH.cons rfl (fun K hK => ?_) ?_
    · go_simp
      refine hK.out _ _ ?_ (fun hH2 => ?_)
      · (try dsimp only)
        (try trivial)
      clear hK K hH
      refine wpAnyH_take (i := 3) (v := ?v10) rfl (by kernel_rfl) (by kernel_rfl) (by kernel_rfl) (fun _ _ _ h => h) (Or.inl ⟨by rfl, ?hy10⟩) (by assumption) ?rest10
      case hy10 => (intro w hSw; (try dsimp only at hSw); go_simp; (try with_reducible rfl))
      exact DN.out _ _ _ _ (st11.out (W.alloc (.cells #[.int .i64 6, .int .i64 17, .int .i64 1] 3)) W.heap.size n2 bb v8 (DS.alloc X.out _) (Boxed.new W _ _) (by omega) (by simp) hn HB H8)
    refine AllReadyH.cons rfl (fun K hK => ?_) ?_
    · go_simp
      refine (next_ds 2 (by omega) (by omega) (by omega) _ X).mono ?_
      rintro e W2 ⟨v10, rfl, u0, u1, Y⟩
      go_wp2_with fail
      refine hK.out _ _ ?_ (fun hH2 => ?_)
      · (try dsimp only)
        (try trivial)
      clear hK K hH
      have wr1 : IntKind.i64.wrap (1000 + v10) = 1000 + v10 := by rw [IntKind.wrap_i64]; omega
      refine wpAnyH_take (i := 11) (v := ?v11) rfl (by kernel_rfl) (by kernel_rfl) (by kernel_rfl) (fun _ _ _ h => h) (Or.inl ⟨by rfl, ?hy11⟩) (by assumption) ?rest11
      case hy11 => (intro w hSw; (try dsimp only at hSw); go_simp; (try with_reducible rfl))
      exact DN.out _ _ _ _ (st18.out W2 n2 bb v8 v10 Y.out.1 hn HB H8 (⟨u0, u1⟩))
    exact AllReadyH.nil
  have st20 : Hid (∀ (W : World) (n2 : Nat) (bb : ByteArray), Hid (DS q a len cap f w [.int .i64 0, .string ⟨#[]⟩, .int .i64 0, .int .i64 0, .int .i64 0, .int .i64 0, .int .i64 0, .int .i64 0, .int .i64 0] (k0 + 2) W) → n2 < 3 → Hid (bb.size = 6) → G 11 #[false, true, true, false, false, true, true, true, false, true, false, false, true, false, true, false, true, false, false, false] { tmps := #[.pointer (some ⟨q, 0, none⟩), undef, .pointer (some ⟨w.heap.size, 0, none⟩), undef, .pointer (some ⟨q, 0, none⟩), .int .i64 (n2 : Int), undef, undef, .pointer (some ⟨q, 0, none⟩), .string bb, .pointer (some ⟨q, 0, none⟩), undef, .pointer (some ⟨q, 0, none⟩), undef, undef, .pointer (some ⟨q, 0, none⟩), undef, .pointer (some ⟨q, 0, none⟩), undef, .pointer (some ⟨q, 0, none⟩), undef, undef], defers := [] } W) := by
    intro W n2 bb X hn HB
    refine UP.out _ _ _ _ ?_
    have hH : (fun _ : World => True) W := trivial
    have zl := X.out.lt
    have zq := X.out.ql
    have i0 : (0 : Int) ≤ (n2 : Int) := by omega
    have i1 : (n2 : Int) < 3 := by omega
    refine wpAnyH_ready (rs := [0, 8]) (by kernel_rfl) (by simp) ?_
    refine AllReadyH.cons rfl (fun K hK => ?_) ?_
    · go_simp
      refine hK.out _ _ ?_ (fun hH2 => ?_)
      · (try dsimp only)
        (try trivial)
      clear hK K hH
      refine wpAnyH_take (i := 3) (v := ?v12) rfl (by kernel_rfl) (by kernel_rfl) (by kernel_rfl) (fun _ _ _ h => h) (Or.inl ⟨by rfl, ?hy12⟩) (by assumption) ?rest12
      case hy12 => (intro w hSw; (try dsimp only at hSw); go_simp; (try with_reducible rfl))
      exact DN.out _ _ _ _ (st12.out (W.alloc (.cells #[.int .i64 6, .int .i64 17, .int .i64 1] 3)) W.heap.size n2 bb (DS.alloc X.out _) (Boxed.new W _ _) (by omega) (by simp) hn HB)
    refine AllReadyH.cons rfl (fun K hK => ?_) ?_
    · go_simp
      refine (lan9_ds (by omega) _ X).mono ?_
      rintro e W2 ⟨v8, rfl, u0, u1, Y⟩
      go_wp2_with fail
      refine hK.out _ _ ?_ (fun hH2 => ?_)
      · (try dsimp only)
        (try trivial)
      clear hK K hH
      exact DN.out _ _ _ _ (st19.out W2 n2 bb v8 Y.out.1 hn HB (⟨u0, u1⟩))
    exact AllReadyH.nil
  have st21 : Hid (∀ (W : World) (n2 : Nat), Hid (DS q a len cap f w [.int .i64 0, .string ⟨#[]⟩, .int .i64 0, .int .i64 0, .int .i64 0, .int .i64 0, .int .i64 0, .int .i64 0, .int .i64 0] (k0 + 1) W) → n2 < 3 → G 12 #[false, true, true, false, false, true, false, true, false, true, false, false, true, false, true, false, true, false, false, false] { tmps := #[.pointer (some ⟨q, 0, none⟩), undef, .pointer (some ⟨w.heap.size, 0, none⟩), undef, .pointer (some ⟨q, 0, none⟩), .int .i64 (n2 : Int), undef, undef, .pointer (some ⟨q, 0, none⟩), undef, .pointer (some ⟨q, 0, none⟩), undef, .pointer (some ⟨q, 0, none⟩), undef, undef, .pointer (some ⟨q, 0, none⟩), undef, .pointer (some ⟨q, 0, none⟩), undef, .pointer (some ⟨q, 0, none⟩), undef, undef], defers := [] } W) := by
    intro W n2 X hn
    refine UP.out _ _ _ _ ?_
    have hH : (fun _ : World => True) W := trivial
    have zl := X.out.lt
    have zq := X.out.ql
    have i0 : (0 : Int) ≤ (n2 : Int) := by omega
    have i1 : (n2 : Int) < 3 := by omega
    refine wpAnyH_ready (rs := [0, 6]) (by kernel_rfl) (by simp) ?_
    refine AllReadyH.cons rfl (fun K hK => ?_) ?_
    · go_simp
      refine hK.out _ _ ?_ (fun hH2 => ?_)
      · (try dsimp only)
        (try trivial)
      clear hK K hH
      refine wpAnyH_take (i := 3) (v := ?v13) rfl (by kernel_rfl) (by kernel_rfl) (by kernel_rfl) (fun _ _ _ h => h) (Or.inl ⟨by rfl, ?hy13⟩) (by assumption) ?rest13
      case hy13 => (intro w hSw; (try dsimp only at hSw); go_simp; (try with_reducible rfl))
      exact DN.out _ _ _ _ (st13.out (W.alloc (.cells #[.int .i64 6, .int .i64 17, .int .i64 1] 3)) W.heap.size n2 (DS.alloc X.out _) (Boxed.new W _ _) (by omega) (by simp) hn)
    refine AllReadyH.cons rfl (fun K hK => ?_) ?_
    · go_simp
      refine (mac_ds (by omega) _ X).mono ?_
      rintro e W2 ⟨bb, rfl, hbb, Y⟩
      go_wp2_with fail
      refine hK.out _ _ ?_ (fun hH2 => ?_)
      · (try dsimp only)
        (try trivial)
      clear hK K hH
      exact DN.out _ _ _ _ (st20.out W2 n2 bb Y.out.1 hn hbb)
    exact AllReadyH.nil
  have st22 : Hid (∀ (W : World), Hid (DS q a len cap f w [.int .i64 0, .string ⟨#[]⟩, .int .i64 0, .int .i64 0, .int .i64 0, .int .i64 0, .int .i64 0, .int .i64 0, .int .i64 0] (k0 + 0) W) → G 13 #[false, true, false, false, false, true, false, true, false, true, false, false, true, false, true, false, true, false, false, false] { tmps := #[.pointer (some ⟨q, 0, none⟩), undef, .pointer (some ⟨w.heap.size, 0, none⟩), undef, .pointer (some ⟨q, 0, none⟩), undef, undef, undef, .pointer (some ⟨q, 0, none⟩), undef, .pointer (some ⟨q, 0, none⟩), undef, .pointer (some ⟨q, 0, none⟩), undef, undef, .pointer (some ⟨q, 0, none⟩), undef, .pointer (some ⟨q, 0, none⟩), undef, .pointer (some ⟨q, 0, none⟩), undef, undef], defers := [] } W) := by
    intro W X
    refine UP.out _ _ _ _ ?_
    have hH : (fun _ : World => True) W := trivial
    have zl := X.out.lt
    have zq := X.out.ql
    refine wpAnyH_ready (rs := [0, 2]) (by kernel_rfl) (by simp) ?_
    refine AllReadyH.cons rfl (fun K hK => ?_) ?_
    · go_simp
      refine hK.out _ _ ?_ (fun hH2 => ?_)
      · (try dsimp only)
        (try trivial)
      clear hK K hH
      exact DN.out _ _ _ _ (st14.out (W.alloc (.cells #[.int .i64 6, .int .i64 17, .int .i64 1] 3)) W.heap.size (DS.alloc X.out _) (Boxed.new W _ _) (by omega) (by simp))
    refine AllReadyH.cons rfl (fun K hK => ?_) ?_
    · go_simp
      refine (next_ds 3 (by omega) (by omega) (by omega) _ X).mono ?_
      rintro e W2 ⟨vv, rfl, u0, u1, Y⟩
      obtain ⟨n2, rfl⟩ := Int.eq_ofNat_of_zero_le u0
      have hn : n2 < 3 := by omega
      have i0 : (0 : Int) ≤ (n2 : Int) := by omega
      have i1 : (n2 : Int) < 3 := by omega
      go_wp2_with fail
      refine hK.out _ _ ?_ (fun hH2 => ?_)
      · (try dsimp only)
        (try trivial)
      clear hK K hH
      exact DN.out _ _ _ _ (st21.out W2 n2 Y.out.1 hn)
    exact AllReadyH.nil
  refine UP.out _ _ _ _ ?_
  refine wpAnyH_take (i := 1) (v := ?v14) rfl (by kernel_rfl) (by kernel_rfl) (by kernel_rfl) (fun _ _ _ h => h) (Or.inl ⟨by rfl, ?hy14⟩) (by assumption) ?rest14
  case hy14 => (intro w hSw; (try dsimp only at hSw); go_simp; (try with_reducible rfl))
  refine wpAnyH_take (i := 5) (v := ?v15) rfl (by kernel_rfl) (by kernel_rfl) (by kernel_rfl) (fun _ _ _ h => h) (Or.inl ⟨by rfl, ?hy15⟩) (by assumption) ?rest15
  case hy15 => (intro w hSw; (try dsimp only at hSw); go_simp; (try with_reducible rfl))
  refine wpAnyH_take (i := 7) (v := ?v16) rfl (by kernel_rfl) (by kernel_rfl) (by kernel_rfl) (fun _ _ _ h => h) (Or.inl ⟨by rfl, ?hy16⟩) (by assumption) ?rest16
  case hy16 => (intro w hSw; (try dsimp only at hSw); go_simp; (try with_reducible rfl))
  refine wpAnyH_take (i := 9) (v := ?v17) rfl (by kernel_rfl) (by kernel_rfl) (by kernel_rfl) (fun _ _ _ h => h) (Or.inl ⟨by rfl, ?hy17⟩) (by assumption) ?rest17
  case hy17 => (intro w hSw; (try dsimp only at hSw); go_simp; (try with_reducible rfl))
  refine wpAnyH_take (i := 12) (v := ?v18) rfl (by kernel_rfl) (by kernel_rfl) (by kernel_rfl) (fun _ _ _ h => h) (Or.inl ⟨by rfl, ?hy18⟩) (by assumption) ?rest18
  case hy18 => (intro w hSw; (try dsimp only at hSw); go_simp; (try with_reducible rfl))
  refine wpAnyH_take (i := 14) (v := ?v19) rfl (by kernel_rfl) (by kernel_rfl) (by kernel_rfl) (fun _ _ _ h => h) (Or.inl ⟨by rfl, ?hy19⟩) (by assumption) ?rest19
  case hy19 => (intro w hSw; (try dsimp only at hSw); go_simp; (try with_reducible rfl))
  refine wpAnyH_take (i := 16) (v := ?v20) rfl (by kernel_rfl) (by kernel_rfl) (by kernel_rfl) (fun _ _ _ h => h) (Or.inl ⟨by rfl, ?hy20⟩) (by assumption) ?rest20
  case hy20 => (intro w hSw; (try dsimp only at hSw); go_simp; (try with_reducible rfl))
  exact DN.out _ _ _ _ (st22.out _ (DS.drew X0.out))
end Go.Proofs.Ythokaemeadhkjaa.DrawFw
