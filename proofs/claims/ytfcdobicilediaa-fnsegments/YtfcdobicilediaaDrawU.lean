/- A drawn datagram. -/
import Derived.Test.YtfcdobicilediaaDrawS
import Derived.Deep.RegionHeld3
namespace Go.Proofs.Ytfcdobicilediaa.DrawU
open Go.RowKit Go.PlainAid Go.Proofs.Ytfcdobicilediaa
set_option linter.unusedVariables false
set_option maxRecDepth 20000

/-- The region's goal by a letter, with the way in and the way out. -/
theorem region_name {P : Program} {md : Region.Mode} {ops : Array Oper} {Q : Exit → Act → World → Prop} {S : World → Prop} {n : Nat} {l : Array Bool} {a : Act} {w : World}
    (h : ∀ G : Nat → Array Bool → Act → World → Prop, (∀ n l a w, wpAnyH P md ops Q S n l a w → G n l a w) → (∀ n l a w, G n l a w → wpAnyH P md ops Q S n l a w) → G n l a w) : wpAnyH P md ops Q S n l a w :=
  h _ (fun _ _ _ _ h => h) (fun _ _ _ _ h => h)
/-- Of some numbers one. -/
def kf (n : Nat) : Int := [53, 67, 123].getD n 0
theorem kf_bd (n : Nat) : 0 ≤ kf n ∧ kf n ≤ 65535 := by
  unfold kf
  rcases (show n = 0 ∨ n = 1 ∨ n = 2 ∨ 3 ≤ n by omega) with rfl | rfl | rfl | h
  all_goals first | decide | skip
  rw [List.getD_eq_getElem?_getD, List.getElem?_eq_none (by simpa using h)]
  decide
theorem pickI {W : World} {g : Nat} (h : Boxed W g [.int .i64 53, .int .i64 67, .int .i64 123]) (n : Nat) (hn : n < 3) : W.cell? ⟨g, n, none⟩ = some (.int .i64 (kf n)) := by
  rcases (show n = 0 ∨ n = 1 ∨ n = 2 by omega) with rfl | rfl | rfl
  · exact h.at 0 _ rfl
  · exact h.at 1 _ rfl
  · exact h.at 2 _ rfl
theorem tx_le {b : ByteArray} (h : b = ⟨#[]⟩ ∨ b = ⟨#[120]⟩ ∨ b = ⟨#[100, 97, 116, 97]⟩) : b.size ≤ 4 := by
  rcases h with rfl | rfl | rfl <;> decide
theorem gr_set1 {w W : World} {q : Nat} (hW : w.grownBy W (some q)) (i : Nat) (v : Value) : w.grownBy (W.setCell ⟨w.heap.size, i, none⟩ v) (some q) :=
  ⟨hW.os, hW.tape, hW.output, by simpa using hW.size, fun b hl hr => by rw [Below.heap_setCell _ _ _ _ (by show b ≠ w.heap.size; omega)]; exact hW.block b hl hr⟩

set_option maxHeartbeats 8000000 in
theorem drawn (w : World) (q : Nat) (a : Option Addr) (len cap : Nat) (f : Nat → Int) (h : Src w q a len cap f 0) :
    Calls Try.prog 46 #[.pointer (some ⟨q, 0, none⟩)] w fun e w' => ∃ (v1 k : Int) (b : ByteArray), e = .returned (.agg #[.int .i64 (1000 + v1), .int .i64 k, .string b]) ∧ (0 ≤ v1 ∧ v1 < 3) ∧ (0 ≤ k ∧ k ≤ 65535) ∧ b.size ≤ 4 ∧ w.grownBy w' (some q) := by
  have X0 : Hid (DS q a len cap f w [.int .i64 0, .int .i64 0, .string ⟨#[]⟩] 0 (w.alloc (.cells #[.int .i64 0, .int .i64 0, .string ⟨#[]⟩] 33))) := DS.start h _ _
  clear h
  go_enter Try.func46, Try.ntmps46
  go_wp2
  refine wp_region_held_drew (S := (fun _ => True)) (by kernel_rfl) ?_ (fun hH0 => ?_)
  · trivial
  refine region_name fun G up down => ?_
  have UP : Hid _ := up
  have DN : Hid _ := down
  clear up down
  have st0 : Hid (∀ (W : World) (gI : Nat) (gS : Nat) (v1 : Int) (n5 : Nat) (bb : ByteArray), Hid (DS q a len cap f w [.int .i64 0, .int .i64 0, .string ⟨#[]⟩] 3 W) → Hid (0 ≤ v1 ∧ v1 < 3) → n5 < 3 → Hid (bb = ⟨#[]⟩ ∨ bb = ⟨#[120]⟩ ∨ bb = ⟨#[100, 97, 116, 97]⟩) → G 1 #[true, true, true, true, true, true, true, true, true, true, true, true, false] { tmps := #[.pointer (some ⟨q, 0, none⟩), undef, .pointer (some ⟨w.heap.size, 0, none⟩), .pointer (some ⟨q, 0, none⟩), .int .i64 v1, .int .i64 (1000 + v1), .slice (some ⟨gI, 0, none⟩) 3 3, .pointer (some ⟨q, 0, none⟩), .int .i64 (n5 : Int), .pointer (some ⟨gI, n5, none⟩), .int .i64 (kf n5), .pointer (some ⟨q, 0, none⟩), .slice (some ⟨gS, 0, none⟩) 3 3, .string bb, .agg #[.int .i64 (1000 + v1), .int .i64 (kf n5), .string bb]], defers := [] } W) := by
    intro W gI gS v1 n5 bb X H1 hn HB
    refine UP.out _ _ _ _ ?_
    have hH : (fun _ : World => True) W := trivial
    have zl := X.out.lt
    have zq := X.out.ql
    have i0 : (0 : Int) ≤ (n5 : Int) := by omega
    have i1 : (n5 : Int) < 3 := by omega
    refine wpAnyH_ready (rs := [12]) (by kernel_rfl) (by simp) ?_
    refine AllReadyH.cons rfl (fun K hK => ?_) ?_
    · have k0 := X.out.box.1.at 0 _ rfl
      have y0 := X.out.box.2 0
      have k1 := X.out.box.1.at 1 _ rfl
      have y1 := X.out.box.2 1
      have k2 := X.out.box.1.at 2 _ rfl
      have y2 := X.out.box.2 2
      go_simp
      refine hK.out _ _ ?_ (fun hH2 => ?_)
      · (try dsimp only)
        (try trivial)
      clear hK K hH
      refine wpAnyH_done (by kernel_rfl) ?_ _
      go_wp2
      (try simp only [Exit.inBlock, Exit.then])
      refine bodyPost_ret (v := .agg #[.int .i64 (1000 + v1), .int .i64 (kf n5), .string bb]) (by simp [results, Try.results46, go_sem, *]; try rfl) rfl ?_
      exact ⟨v1, kf n5, bb, rfl, H1.out, kf_bd n5, tx_le HB.out, gr_set1 (gr_set1 (gr_set1 (X.out.gr) _ _) _ _) _ _⟩
    exact AllReadyH.nil
  have st1 : Hid (∀ (W : World) (gI : Nat) (gS : Nat) (v1 : Int) (n5 : Nat), Hid (DS q a len cap f w [.int .i64 0, .int .i64 0, .string ⟨#[]⟩] 2 W) → Hid (Boxed W gS [.string ⟨#[]⟩, .string ⟨#[120]⟩, .string ⟨#[100, 97, 116, 97]⟩]) → gS ≠ q → gS < W.heap.size → Hid (0 ≤ v1 ∧ v1 < 3) → n5 < 3 → G 3 #[true, true, true, true, true, true, true, true, true, true, false, false, false] { tmps := #[.pointer (some ⟨q, 0, none⟩), undef, .pointer (some ⟨w.heap.size, 0, none⟩), .pointer (some ⟨q, 0, none⟩), .int .i64 v1, .int .i64 (1000 + v1), .slice (some ⟨gI, 0, none⟩) 3 3, .pointer (some ⟨q, 0, none⟩), .int .i64 (n5 : Int), .pointer (some ⟨gI, n5, none⟩), .int .i64 (kf n5), .pointer (some ⟨q, 0, none⟩), .slice (some ⟨gS, 0, none⟩) 3 3, undef, undef], defers := [] } W) := by
    intro W gI gS v1 n5 X BS nS lS H1 hn
    refine UP.out _ _ _ _ ?_
    have hH : (fun _ : World => True) W := trivial
    have zl := X.out.lt
    have zq := X.out.ql
    have i0 : (0 : Int) ≤ (n5 : Int) := by omega
    have i1 : (n5 : Int) < 3 := by omega
    refine wpAnyH_ready (rs := [10]) (by kernel_rfl) (by simp) ?_
    refine AllReadyH.cons rfl (fun K hK => ?_) ?_
    · go_simp
      refine (pick_ds (by omega) gS _ _ _ _ X BS.out nS).mono ?_
      rintro e W2 ⟨bb, rfl, hbb, Y⟩
      go_wp2_with fail
      refine hK.out _ _ ?_ (fun hH2 => ?_)
      · (try dsimp only)
        (try trivial)
      clear hK K hH
      refine wpAnyH_take (i := 11) (v := ?v1) rfl (by kernel_rfl) (by kernel_rfl) (by kernel_rfl) (fun _ _ _ h => h) (Or.inl ⟨by rfl, ?hy1⟩) (by assumption) ?rest1
      case hy1 => (intro w hSw; (try dsimp only at hSw); go_simp; (try with_reducible rfl))
      exact DN.out _ _ _ _ (st0.out W2 gI gS v1 n5 bb Y.out.1 H1 hn hbb)
    exact AllReadyH.nil
  have st2 : Hid (∀ (W : World) (gI : Nat) (v1 : Int) (n5 : Nat), Hid (DS q a len cap f w [.int .i64 0, .int .i64 0, .string ⟨#[]⟩] 2 W) → Hid (0 ≤ v1 ∧ v1 < 3) → n5 < 3 → G 4 #[true, true, true, true, true, true, true, true, true, false, false, false, false] { tmps := #[.pointer (some ⟨q, 0, none⟩), undef, .pointer (some ⟨w.heap.size, 0, none⟩), .pointer (some ⟨q, 0, none⟩), .int .i64 v1, .int .i64 (1000 + v1), .slice (some ⟨gI, 0, none⟩) 3 3, .pointer (some ⟨q, 0, none⟩), .int .i64 (n5 : Int), .pointer (some ⟨gI, n5, none⟩), .int .i64 (kf n5), .pointer (some ⟨q, 0, none⟩), undef, undef, undef], defers := [] } W) := by
    intro W gI v1 n5 X H1 hn
    refine UP.out _ _ _ _ ?_
    have hH : (fun _ : World => True) W := trivial
    have zl := X.out.lt
    have zq := X.out.ql
    have i0 : (0 : Int) ≤ (n5 : Int) := by omega
    have i1 : (n5 : Int) < 3 := by omega
    refine wpAnyH_ready (rs := [9]) (by kernel_rfl) (by simp) ?_
    refine AllReadyH.cons rfl (fun K hK => ?_) ?_
    · go_simp
      refine hK.out _ _ ?_ (fun hH2 => ?_)
      · (try dsimp only)
        (try trivial)
      clear hK K hH
      exact DN.out _ _ _ _ (st1.out (W.alloc (.cells #[.string ⟨#[]⟩, .string ⟨#[120]⟩, .string ⟨#[100, 97, 116, 97]⟩] 9)) gI W.heap.size v1 n5 (DS.alloc X.out _) (Boxed.new W _ _) (by omega) (by simp) H1 hn)
    exact AllReadyH.nil
  have st3 : Hid (∀ (W : World) (gI : Nat) (gS : Nat) (v1 : Int) (n5 : Nat) (bb : ByteArray), Hid (DS q a len cap f w [.int .i64 0, .int .i64 0, .string ⟨#[]⟩] 3 W) → Hid (Boxed W gI [.int .i64 53, .int .i64 67, .int .i64 123]) → gI ≠ q → gI < W.heap.size → Hid (0 ≤ v1 ∧ v1 < 3) → n5 < 3 → Hid (bb = ⟨#[]⟩ ∨ bb = ⟨#[120]⟩ ∨ bb = ⟨#[100, 97, 116, 97]⟩) → G 3 #[true, true, true, true, true, true, true, false, true, true, true, false, false] { tmps := #[.pointer (some ⟨q, 0, none⟩), undef, .pointer (some ⟨w.heap.size, 0, none⟩), .pointer (some ⟨q, 0, none⟩), .int .i64 v1, .int .i64 (1000 + v1), .slice (some ⟨gI, 0, none⟩) 3 3, .pointer (some ⟨q, 0, none⟩), .int .i64 (n5 : Int), .pointer (some ⟨gI, n5, none⟩), undef, .pointer (some ⟨q, 0, none⟩), .slice (some ⟨gS, 0, none⟩) 3 3, .string bb, undef], defers := [] } W) := by
    intro W gI gS v1 n5 bb X BI nI lI H1 hn HB
    refine UP.out _ _ _ _ ?_
    have hH : (fun _ : World => True) W := trivial
    have zl := X.out.lt
    have zq := X.out.ql
    have i0 : (0 : Int) ≤ (n5 : Int) := by omega
    have i1 : (n5 : Int) < 3 := by omega
    refine wpAnyH_ready (rs := [7]) (by kernel_rfl) (by simp) ?_
    refine AllReadyH.cons rfl (fun K hK => ?_) ?_
    · have cN := pickI BI.out n5 hn
      go_simp
      refine hK.out _ _ ?_ (fun hH2 => ?_)
      · (try dsimp only)
        (try trivial)
      clear hK K hH
      refine wpAnyH_take (i := 11) (v := ?v2) rfl (by kernel_rfl) (by kernel_rfl) (by kernel_rfl) (fun _ _ _ h => h) (Or.inl ⟨by rfl, ?hy2⟩) (by assumption) ?rest2
      case hy2 => (intro w hSw; (try dsimp only at hSw); go_simp; (try with_reducible rfl))
      exact DN.out _ _ _ _ (st0.out W gI gS v1 n5 bb X H1 hn HB)
    exact AllReadyH.nil
  have st4 : Hid (∀ (W : World) (gI : Nat) (gS : Nat) (v1 : Int) (n5 : Nat), Hid (DS q a len cap f w [.int .i64 0, .int .i64 0, .string ⟨#[]⟩] 2 W) → Hid (Boxed W gI [.int .i64 53, .int .i64 67, .int .i64 123]) → gI ≠ q → gI < W.heap.size → Hid (Boxed W gS [.string ⟨#[]⟩, .string ⟨#[120]⟩, .string ⟨#[100, 97, 116, 97]⟩]) → gS ≠ q → gS < W.heap.size → Hid (0 ≤ v1 ∧ v1 < 3) → n5 < 3 → G 4 #[true, true, true, true, true, true, true, false, true, true, false, false, false] { tmps := #[.pointer (some ⟨q, 0, none⟩), undef, .pointer (some ⟨w.heap.size, 0, none⟩), .pointer (some ⟨q, 0, none⟩), .int .i64 v1, .int .i64 (1000 + v1), .slice (some ⟨gI, 0, none⟩) 3 3, .pointer (some ⟨q, 0, none⟩), .int .i64 (n5 : Int), .pointer (some ⟨gI, n5, none⟩), undef, .pointer (some ⟨q, 0, none⟩), .slice (some ⟨gS, 0, none⟩) 3 3, undef, undef], defers := [] } W) := by
    intro W gI gS v1 n5 X BI nI lI BS nS lS H1 hn
    refine UP.out _ _ _ _ ?_
    have hH : (fun _ : World => True) W := trivial
    have zl := X.out.lt
    have zq := X.out.ql
    have i0 : (0 : Int) ≤ (n5 : Int) := by omega
    have i1 : (n5 : Int) < 3 := by omega
    refine wpAnyH_ready (rs := [7, 10]) (by kernel_rfl) (by simp) ?_
    refine AllReadyH.cons rfl (fun K hK => ?_) ?_
    · have cN := pickI BI.out n5 hn
      go_simp
      refine hK.out _ _ ?_ (fun hH2 => ?_)
      · (try dsimp only)
        (try trivial)
      clear hK K hH
      exact DN.out _ _ _ _ (st1.out W gI gS v1 n5 X BS nS lS H1 hn)
    refine AllReadyH.cons rfl (fun K hK => ?_) ?_
    · go_simp
      refine (pick_ds (by omega) gS _ _ _ _ X BS.out nS).mono ?_
      rintro e W2 ⟨bb, rfl, hbb, Y⟩
      go_wp2_with fail
      refine hK.out _ _ ?_ (fun hH2 => ?_)
      · (try dsimp only)
        (try trivial)
      clear hK K hH
      exact DN.out _ _ _ _ (st3.out W2 gI gS v1 n5 bb Y.out.1 (kept_box Y.out.2 BI.out nI lI) nI (Nat.lt_of_lt_of_le lI Y.out.2.size) H1 hn hbb)
    exact AllReadyH.nil
  have st5 : Hid (∀ (W : World) (gI : Nat) (v1 : Int) (n5 : Nat), Hid (DS q a len cap f w [.int .i64 0, .int .i64 0, .string ⟨#[]⟩] 2 W) → Hid (Boxed W gI [.int .i64 53, .int .i64 67, .int .i64 123]) → gI ≠ q → gI < W.heap.size → Hid (0 ≤ v1 ∧ v1 < 3) → n5 < 3 → G 5 #[true, true, true, true, true, true, true, false, true, false, false, false, false] { tmps := #[.pointer (some ⟨q, 0, none⟩), undef, .pointer (some ⟨w.heap.size, 0, none⟩), .pointer (some ⟨q, 0, none⟩), .int .i64 v1, .int .i64 (1000 + v1), .slice (some ⟨gI, 0, none⟩) 3 3, .pointer (some ⟨q, 0, none⟩), .int .i64 (n5 : Int), .pointer (some ⟨gI, n5, none⟩), undef, .pointer (some ⟨q, 0, none⟩), undef, undef, undef], defers := [] } W) := by
    intro W gI v1 n5 X BI nI lI H1 hn
    refine UP.out _ _ _ _ ?_
    have hH : (fun _ : World => True) W := trivial
    have zl := X.out.lt
    have zq := X.out.ql
    have i0 : (0 : Int) ≤ (n5 : Int) := by omega
    have i1 : (n5 : Int) < 3 := by omega
    refine wpAnyH_ready (rs := [7, 9]) (by kernel_rfl) (by simp) ?_
    refine AllReadyH.cons rfl (fun K hK => ?_) ?_
    · have cN := pickI BI.out n5 hn
      go_simp
      refine hK.out _ _ ?_ (fun hH2 => ?_)
      · (try dsimp only)
        (try trivial)
      clear hK K hH
      exact DN.out _ _ _ _ (st2.out W gI v1 n5 X H1 hn)
    refine AllReadyH.cons rfl (fun K hK => ?_) ?_
    · go_simp
      refine hK.out _ _ ?_ (fun hH2 => ?_)
      · (try dsimp only)
        (try trivial)
      clear hK K hH
      exact DN.out _ _ _ _ (st4.out (W.alloc (.cells #[.string ⟨#[]⟩, .string ⟨#[120]⟩, .string ⟨#[100, 97, 116, 97]⟩] 9)) gI W.heap.size v1 n5 (DS.alloc X.out _) (Boxed.alloc BI.out lI _) nI (by simp; omega) (Boxed.new W _ _) (by omega) (by simp) H1 hn)
    exact AllReadyH.nil
  have st6 : Hid (∀ (W : World) (gI : Nat) (gS : Nat) (v1 : Int), Hid (DS q a len cap f w [.int .i64 0, .int .i64 0, .string ⟨#[]⟩] 1 W) → Hid (Boxed W gI [.int .i64 53, .int .i64 67, .int .i64 123]) → gI ≠ q → gI < W.heap.size → Hid (Boxed W gS [.string ⟨#[]⟩, .string ⟨#[120]⟩, .string ⟨#[100, 97, 116, 97]⟩]) → gS ≠ q → gS < W.heap.size → Hid (0 ≤ v1 ∧ v1 < 3) → G 6 #[true, true, true, true, true, false, false, false, true, true, false, false, false] { tmps := #[.pointer (some ⟨q, 0, none⟩), undef, .pointer (some ⟨w.heap.size, 0, none⟩), .pointer (some ⟨q, 0, none⟩), .int .i64 v1, .int .i64 (1000 + v1), .slice (some ⟨gI, 0, none⟩) 3 3, .pointer (some ⟨q, 0, none⟩), undef, undef, undef, .pointer (some ⟨q, 0, none⟩), .slice (some ⟨gS, 0, none⟩) 3 3, undef, undef], defers := [] } W) := by
    intro W gI gS v1 X BI nI lI BS nS lS H1
    refine UP.out _ _ _ _ ?_
    have hH : (fun _ : World => True) W := trivial
    have zl := X.out.lt
    have zq := X.out.ql
    refine wpAnyH_ready (rs := [5]) (by kernel_rfl) (by simp) ?_
    refine AllReadyH.cons rfl (fun K hK => ?_) ?_
    · go_simp
      refine (next_ds 3 (by omega) (by omega) (by omega) _ X).mono ?_
      rintro e W2 ⟨vv, rfl, u0, u1, Y⟩
      obtain ⟨n5, rfl⟩ := Int.eq_ofNat_of_zero_le u0
      have hn : n5 < 3 := by omega
      have i0 : (0 : Int) ≤ (n5 : Int) := by omega
      have i1 : (n5 : Int) < 3 := by omega
      go_wp2_with fail
      refine hK.out _ _ ?_ (fun hH2 => ?_)
      · (try dsimp only)
        (try trivial)
      clear hK K hH
      refine wpAnyH_take (i := 6) (v := ?v3) rfl (by kernel_rfl) (by kernel_rfl) (by kernel_rfl) (fun _ _ _ h => h) (Or.inl ⟨by rfl, ?hy3⟩) (by assumption) ?rest3
      case hy3 => (intro w hSw; (try dsimp only at hSw); go_simp; (try with_reducible rfl))
      exact DN.out _ _ _ _ (st4.out W2 gI gS v1 n5 Y.out.1 (kept_box Y.out.2 BI.out nI lI) nI (Nat.lt_of_lt_of_le lI Y.out.2.size) (kept_box Y.out.2 BS.out nS lS) nS (Nat.lt_of_lt_of_le lS Y.out.2.size) H1 hn)
    exact AllReadyH.nil
  have st7 : Hid (∀ (W : World) (gI : Nat) (v1 : Int), Hid (DS q a len cap f w [.int .i64 0, .int .i64 0, .string ⟨#[]⟩] 1 W) → Hid (Boxed W gI [.int .i64 53, .int .i64 67, .int .i64 123]) → gI ≠ q → gI < W.heap.size → Hid (0 ≤ v1 ∧ v1 < 3) → G 7 #[true, true, true, true, true, false, false, false, true, false, false, false, false] { tmps := #[.pointer (some ⟨q, 0, none⟩), undef, .pointer (some ⟨w.heap.size, 0, none⟩), .pointer (some ⟨q, 0, none⟩), .int .i64 v1, .int .i64 (1000 + v1), .slice (some ⟨gI, 0, none⟩) 3 3, .pointer (some ⟨q, 0, none⟩), undef, undef, undef, .pointer (some ⟨q, 0, none⟩), undef, undef, undef], defers := [] } W) := by
    intro W gI v1 X BI nI lI H1
    refine UP.out _ _ _ _ ?_
    have hH : (fun _ : World => True) W := trivial
    have zl := X.out.lt
    have zq := X.out.ql
    refine wpAnyH_ready (rs := [5, 9]) (by kernel_rfl) (by simp) ?_
    refine AllReadyH.cons rfl (fun K hK => ?_) ?_
    · go_simp
      refine (next_ds 3 (by omega) (by omega) (by omega) _ X).mono ?_
      rintro e W2 ⟨vv, rfl, u0, u1, Y⟩
      obtain ⟨n5, rfl⟩ := Int.eq_ofNat_of_zero_le u0
      have hn : n5 < 3 := by omega
      have i0 : (0 : Int) ≤ (n5 : Int) := by omega
      have i1 : (n5 : Int) < 3 := by omega
      go_wp2_with fail
      refine hK.out _ _ ?_ (fun hH2 => ?_)
      · (try dsimp only)
        (try trivial)
      clear hK K hH
      refine wpAnyH_take (i := 6) (v := ?v4) rfl (by kernel_rfl) (by kernel_rfl) (by kernel_rfl) (fun _ _ _ h => h) (Or.inl ⟨by rfl, ?hy4⟩) (by assumption) ?rest4
      case hy4 => (intro w hSw; (try dsimp only at hSw); go_simp; (try with_reducible rfl))
      exact DN.out _ _ _ _ (st5.out W2 gI v1 n5 Y.out.1 (kept_box Y.out.2 BI.out nI lI) nI (Nat.lt_of_lt_of_le lI Y.out.2.size) H1 hn)
    refine AllReadyH.cons rfl (fun K hK => ?_) ?_
    · go_simp
      refine hK.out _ _ ?_ (fun hH2 => ?_)
      · (try dsimp only)
        (try trivial)
      clear hK K hH
      exact DN.out _ _ _ _ (st6.out (W.alloc (.cells #[.string ⟨#[]⟩, .string ⟨#[120]⟩, .string ⟨#[100, 97, 116, 97]⟩] 9)) gI W.heap.size v1 (DS.alloc X.out _) (Boxed.alloc BI.out lI _) nI (by simp; omega) (Boxed.new W _ _) (by omega) (by simp) H1)
    exact AllReadyH.nil
  have st8 : Hid (∀ (W : World) (gS : Nat) (v1 : Int) (n5 : Nat) (bb : ByteArray), Hid (DS q a len cap f w [.int .i64 0, .int .i64 0, .string ⟨#[]⟩] 3 W) → Hid (0 ≤ v1 ∧ v1 < 3) → n5 < 3 → Hid (bb = ⟨#[]⟩ ∨ bb = ⟨#[120]⟩ ∨ bb = ⟨#[100, 97, 116, 97]⟩) → G 5 #[true, true, true, false, true, true, false, false, true, true, true, false, false] { tmps := #[.pointer (some ⟨q, 0, none⟩), undef, .pointer (some ⟨w.heap.size, 0, none⟩), .pointer (some ⟨q, 0, none⟩), .int .i64 v1, .int .i64 (1000 + v1), undef, .pointer (some ⟨q, 0, none⟩), .int .i64 (n5 : Int), undef, undef, .pointer (some ⟨q, 0, none⟩), .slice (some ⟨gS, 0, none⟩) 3 3, .string bb, undef], defers := [] } W) := by
    intro W gS v1 n5 bb X H1 hn HB
    refine UP.out _ _ _ _ ?_
    have hH : (fun _ : World => True) W := trivial
    have zl := X.out.lt
    have zq := X.out.ql
    have i0 : (0 : Int) ≤ (n5 : Int) := by omega
    have i1 : (n5 : Int) < 3 := by omega
    refine wpAnyH_ready (rs := [3]) (by kernel_rfl) (by simp) ?_
    refine AllReadyH.cons rfl (fun K hK => ?_) ?_
    · go_simp
      refine hK.out _ _ ?_ (fun hH2 => ?_)
      · (try dsimp only)
        (try trivial)
      clear hK K hH
      refine wpAnyH_take (i := 6) (v := ?v5) rfl (by kernel_rfl) (by kernel_rfl) (by kernel_rfl) (fun _ _ _ h => h) (Or.inl ⟨by rfl, ?hy5⟩) (by assumption) ?rest5
      case hy5 => (intro w hSw; (try dsimp only at hSw); go_simp; (try with_reducible rfl))
      exact DN.out _ _ _ _ (st3.out (W.alloc (.cells #[.int .i64 53, .int .i64 67, .int .i64 123] 3)) W.heap.size gS v1 n5 bb (DS.alloc X.out _) (Boxed.new W _ _) (by omega) (by simp) H1 hn HB)
    exact AllReadyH.nil
  have st9 : Hid (∀ (W : World) (gS : Nat) (v1 : Int) (n5 : Nat), Hid (DS q a len cap f w [.int .i64 0, .int .i64 0, .string ⟨#[]⟩] 2 W) → Hid (Boxed W gS [.string ⟨#[]⟩, .string ⟨#[120]⟩, .string ⟨#[100, 97, 116, 97]⟩]) → gS ≠ q → gS < W.heap.size → Hid (0 ≤ v1 ∧ v1 < 3) → n5 < 3 → G 6 #[true, true, true, false, true, true, false, false, true, true, false, false, false] { tmps := #[.pointer (some ⟨q, 0, none⟩), undef, .pointer (some ⟨w.heap.size, 0, none⟩), .pointer (some ⟨q, 0, none⟩), .int .i64 v1, .int .i64 (1000 + v1), undef, .pointer (some ⟨q, 0, none⟩), .int .i64 (n5 : Int), undef, undef, .pointer (some ⟨q, 0, none⟩), .slice (some ⟨gS, 0, none⟩) 3 3, undef, undef], defers := [] } W) := by
    intro W gS v1 n5 X BS nS lS H1 hn
    refine UP.out _ _ _ _ ?_
    have hH : (fun _ : World => True) W := trivial
    have zl := X.out.lt
    have zq := X.out.ql
    have i0 : (0 : Int) ≤ (n5 : Int) := by omega
    have i1 : (n5 : Int) < 3 := by omega
    refine wpAnyH_ready (rs := [3, 10]) (by kernel_rfl) (by simp) ?_
    refine AllReadyH.cons rfl (fun K hK => ?_) ?_
    · go_simp
      refine hK.out _ _ ?_ (fun hH2 => ?_)
      · (try dsimp only)
        (try trivial)
      clear hK K hH
      refine wpAnyH_take (i := 6) (v := ?v6) rfl (by kernel_rfl) (by kernel_rfl) (by kernel_rfl) (fun _ _ _ h => h) (Or.inl ⟨by rfl, ?hy6⟩) (by assumption) ?rest6
      case hy6 => (intro w hSw; (try dsimp only at hSw); go_simp; (try with_reducible rfl))
      exact DN.out _ _ _ _ (st4.out (W.alloc (.cells #[.int .i64 53, .int .i64 67, .int .i64 123] 3)) W.heap.size gS v1 n5 (DS.alloc X.out _) (Boxed.new W _ _) (by omega) (by simp) (Boxed.alloc BS.out lS _) nS (by simp; omega) H1 hn)
    refine AllReadyH.cons rfl (fun K hK => ?_) ?_
    · go_simp
      refine (pick_ds (by omega) gS _ _ _ _ X BS.out nS).mono ?_
      rintro e W2 ⟨bb, rfl, hbb, Y⟩
      go_wp2_with fail
      refine hK.out _ _ ?_ (fun hH2 => ?_)
      · (try dsimp only)
        (try trivial)
      clear hK K hH
      exact DN.out _ _ _ _ (st8.out W2 gS v1 n5 bb Y.out.1 H1 hn hbb)
    exact AllReadyH.nil
  have st10 : Hid (∀ (W : World) (v1 : Int) (n5 : Nat), Hid (DS q a len cap f w [.int .i64 0, .int .i64 0, .string ⟨#[]⟩] 2 W) → Hid (0 ≤ v1 ∧ v1 < 3) → n5 < 3 → G 7 #[true, true, true, false, true, true, false, false, true, false, false, false, false] { tmps := #[.pointer (some ⟨q, 0, none⟩), undef, .pointer (some ⟨w.heap.size, 0, none⟩), .pointer (some ⟨q, 0, none⟩), .int .i64 v1, .int .i64 (1000 + v1), undef, .pointer (some ⟨q, 0, none⟩), .int .i64 (n5 : Int), undef, undef, .pointer (some ⟨q, 0, none⟩), undef, undef, undef], defers := [] } W) := by
    intro W v1 n5 X H1 hn
    refine UP.out _ _ _ _ ?_
    have hH : (fun _ : World => True) W := trivial
    have zl := X.out.lt
    have zq := X.out.ql
    have i0 : (0 : Int) ≤ (n5 : Int) := by omega
    have i1 : (n5 : Int) < 3 := by omega
    refine wpAnyH_ready (rs := [3, 9]) (by kernel_rfl) (by simp) ?_
    refine AllReadyH.cons rfl (fun K hK => ?_) ?_
    · go_simp
      refine hK.out _ _ ?_ (fun hH2 => ?_)
      · (try dsimp only)
        (try trivial)
      clear hK K hH
      refine wpAnyH_take (i := 6) (v := ?v7) rfl (by kernel_rfl) (by kernel_rfl) (by kernel_rfl) (fun _ _ _ h => h) (Or.inl ⟨by rfl, ?hy7⟩) (by assumption) ?rest7
      case hy7 => (intro w hSw; (try dsimp only at hSw); go_simp; (try with_reducible rfl))
      exact DN.out _ _ _ _ (st5.out (W.alloc (.cells #[.int .i64 53, .int .i64 67, .int .i64 123] 3)) W.heap.size v1 n5 (DS.alloc X.out _) (Boxed.new W _ _) (by omega) (by simp) H1 hn)
    refine AllReadyH.cons rfl (fun K hK => ?_) ?_
    · go_simp
      refine hK.out _ _ ?_ (fun hH2 => ?_)
      · (try dsimp only)
        (try trivial)
      clear hK K hH
      exact DN.out _ _ _ _ (st9.out (W.alloc (.cells #[.string ⟨#[]⟩, .string ⟨#[120]⟩, .string ⟨#[100, 97, 116, 97]⟩] 9)) W.heap.size v1 n5 (DS.alloc X.out _) (Boxed.new W _ _) (by omega) (by simp) H1 hn)
    exact AllReadyH.nil
  have st11 : Hid (∀ (W : World) (gS : Nat) (v1 : Int), Hid (DS q a len cap f w [.int .i64 0, .int .i64 0, .string ⟨#[]⟩] 1 W) → Hid (Boxed W gS [.string ⟨#[]⟩, .string ⟨#[120]⟩, .string ⟨#[100, 97, 116, 97]⟩]) → gS ≠ q → gS < W.heap.size → Hid (0 ≤ v1 ∧ v1 < 3) → G 7 #[true, true, true, false, true, false, false, false, true, true, false, false, false] { tmps := #[.pointer (some ⟨q, 0, none⟩), undef, .pointer (some ⟨w.heap.size, 0, none⟩), .pointer (some ⟨q, 0, none⟩), .int .i64 v1, .int .i64 (1000 + v1), undef, .pointer (some ⟨q, 0, none⟩), undef, undef, undef, .pointer (some ⟨q, 0, none⟩), .slice (some ⟨gS, 0, none⟩) 3 3, undef, undef], defers := [] } W) := by
    intro W gS v1 X BS nS lS H1
    refine UP.out _ _ _ _ ?_
    have hH : (fun _ : World => True) W := trivial
    have zl := X.out.lt
    have zq := X.out.ql
    refine wpAnyH_ready (rs := [3, 5]) (by kernel_rfl) (by simp) ?_
    refine AllReadyH.cons rfl (fun K hK => ?_) ?_
    · go_simp
      refine hK.out _ _ ?_ (fun hH2 => ?_)
      · (try dsimp only)
        (try trivial)
      clear hK K hH
      exact DN.out _ _ _ _ (st6.out (W.alloc (.cells #[.int .i64 53, .int .i64 67, .int .i64 123] 3)) W.heap.size gS v1 (DS.alloc X.out _) (Boxed.new W _ _) (by omega) (by simp) (Boxed.alloc BS.out lS _) nS (by simp; omega) H1)
    refine AllReadyH.cons rfl (fun K hK => ?_) ?_
    · go_simp
      refine (next_ds 3 (by omega) (by omega) (by omega) _ X).mono ?_
      rintro e W2 ⟨vv, rfl, u0, u1, Y⟩
      obtain ⟨n5, rfl⟩ := Int.eq_ofNat_of_zero_le u0
      have hn : n5 < 3 := by omega
      have i0 : (0 : Int) ≤ (n5 : Int) := by omega
      have i1 : (n5 : Int) < 3 := by omega
      go_wp2_with fail
      refine hK.out _ _ ?_ (fun hH2 => ?_)
      · (try dsimp only)
        (try trivial)
      clear hK K hH
      exact DN.out _ _ _ _ (st9.out W2 gS v1 n5 Y.out.1 (kept_box Y.out.2 BS.out nS lS) nS (Nat.lt_of_lt_of_le lS Y.out.2.size) H1 hn)
    exact AllReadyH.nil
  have st12 : Hid (∀ (W : World) (v1 : Int), Hid (DS q a len cap f w [.int .i64 0, .int .i64 0, .string ⟨#[]⟩] 1 W) → Hid (0 ≤ v1 ∧ v1 < 3) → G 8 #[true, true, true, false, true, false, false, false, true, false, false, false, false] { tmps := #[.pointer (some ⟨q, 0, none⟩), undef, .pointer (some ⟨w.heap.size, 0, none⟩), .pointer (some ⟨q, 0, none⟩), .int .i64 v1, .int .i64 (1000 + v1), undef, .pointer (some ⟨q, 0, none⟩), undef, undef, undef, .pointer (some ⟨q, 0, none⟩), undef, undef, undef], defers := [] } W) := by
    intro W v1 X H1
    refine UP.out _ _ _ _ ?_
    have hH : (fun _ : World => True) W := trivial
    have zl := X.out.lt
    have zq := X.out.ql
    refine wpAnyH_ready (rs := [3, 5, 9]) (by kernel_rfl) (by simp) ?_
    refine AllReadyH.cons rfl (fun K hK => ?_) ?_
    · go_simp
      refine hK.out _ _ ?_ (fun hH2 => ?_)
      · (try dsimp only)
        (try trivial)
      clear hK K hH
      exact DN.out _ _ _ _ (st7.out (W.alloc (.cells #[.int .i64 53, .int .i64 67, .int .i64 123] 3)) W.heap.size v1 (DS.alloc X.out _) (Boxed.new W _ _) (by omega) (by simp) H1)
    refine AllReadyH.cons rfl (fun K hK => ?_) ?_
    · go_simp
      refine (next_ds 3 (by omega) (by omega) (by omega) _ X).mono ?_
      rintro e W2 ⟨vv, rfl, u0, u1, Y⟩
      obtain ⟨n5, rfl⟩ := Int.eq_ofNat_of_zero_le u0
      have hn : n5 < 3 := by omega
      have i0 : (0 : Int) ≤ (n5 : Int) := by omega
      have i1 : (n5 : Int) < 3 := by omega
      go_wp2_with fail
      refine hK.out _ _ ?_ (fun hH2 => ?_)
      · (try dsimp only)
        (try trivial)
      clear hK K hH
      exact DN.out _ _ _ _ (st10.out W2 v1 n5 Y.out.1 H1 hn)
    refine AllReadyH.cons rfl (fun K hK => ?_) ?_
    · go_simp
      refine hK.out _ _ ?_ (fun hH2 => ?_)
      · (try dsimp only)
        (try trivial)
      clear hK K hH
      exact DN.out _ _ _ _ (st11.out (W.alloc (.cells #[.string ⟨#[]⟩, .string ⟨#[120]⟩, .string ⟨#[100, 97, 116, 97]⟩] 9)) W.heap.size v1 (DS.alloc X.out _) (Boxed.new W _ _) (by omega) (by simp) H1)
    exact AllReadyH.nil
  have st13 : Hid (∀ (W : World) (gI : Nat) (gS : Nat), Hid (DS q a len cap f w [.int .i64 0, .int .i64 0, .string ⟨#[]⟩] 0 W) → Hid (Boxed W gI [.int .i64 53, .int .i64 67, .int .i64 123]) → gI ≠ q → gI < W.heap.size → Hid (Boxed W gS [.string ⟨#[]⟩, .string ⟨#[120]⟩, .string ⟨#[100, 97, 116, 97]⟩]) → gS ≠ q → gS < W.heap.size → G 8 #[true, false, false, true, true, false, false, false, true, true, false, false, false] { tmps := #[.pointer (some ⟨q, 0, none⟩), undef, .pointer (some ⟨w.heap.size, 0, none⟩), .pointer (some ⟨q, 0, none⟩), undef, undef, .slice (some ⟨gI, 0, none⟩) 3 3, .pointer (some ⟨q, 0, none⟩), undef, undef, undef, .pointer (some ⟨q, 0, none⟩), .slice (some ⟨gS, 0, none⟩) 3 3, undef, undef], defers := [] } W) := by
    intro W gI gS X BI nI lI BS nS lS
    refine UP.out _ _ _ _ ?_
    have hH : (fun _ : World => True) W := trivial
    have zl := X.out.lt
    have zq := X.out.ql
    refine wpAnyH_ready (rs := [1]) (by kernel_rfl) (by simp) ?_
    refine AllReadyH.cons rfl (fun K hK => ?_) ?_
    · go_simp
      refine (next_ds 3 (by omega) (by omega) (by omega) _ X).mono ?_
      rintro e W2 ⟨v1, rfl, u0, u1, Y⟩
      go_wp2_with fail
      refine hK.out _ _ ?_ (fun hH2 => ?_)
      · (try dsimp only)
        (try trivial)
      clear hK K hH
      have wr1 : IntKind.i64.wrap (1000 + v1) = 1000 + v1 := by rw [IntKind.wrap_i64]; omega
      refine wpAnyH_take (i := 2) (v := ?v8) rfl (by kernel_rfl) (by kernel_rfl) (by kernel_rfl) (fun _ _ _ h => h) (Or.inl ⟨by rfl, ?hy8⟩) (by assumption) ?rest8
      case hy8 => (intro w hSw; (try dsimp only at hSw); go_simp; (try with_reducible rfl))
      exact DN.out _ _ _ _ (st6.out W2 gI gS v1 Y.out.1 (kept_box Y.out.2 BI.out nI lI) nI (Nat.lt_of_lt_of_le lI Y.out.2.size) (kept_box Y.out.2 BS.out nS lS) nS (Nat.lt_of_lt_of_le lS Y.out.2.size) (⟨u0, u1⟩))
    exact AllReadyH.nil
  have st14 : Hid (∀ (W : World) (gI : Nat), Hid (DS q a len cap f w [.int .i64 0, .int .i64 0, .string ⟨#[]⟩] 0 W) → Hid (Boxed W gI [.int .i64 53, .int .i64 67, .int .i64 123]) → gI ≠ q → gI < W.heap.size → G 9 #[true, false, false, true, true, false, false, false, true, false, false, false, false] { tmps := #[.pointer (some ⟨q, 0, none⟩), undef, .pointer (some ⟨w.heap.size, 0, none⟩), .pointer (some ⟨q, 0, none⟩), undef, undef, .slice (some ⟨gI, 0, none⟩) 3 3, .pointer (some ⟨q, 0, none⟩), undef, undef, undef, .pointer (some ⟨q, 0, none⟩), undef, undef, undef], defers := [] } W) := by
    intro W gI X BI nI lI
    refine UP.out _ _ _ _ ?_
    have hH : (fun _ : World => True) W := trivial
    have zl := X.out.lt
    have zq := X.out.ql
    refine wpAnyH_ready (rs := [1, 9]) (by kernel_rfl) (by simp) ?_
    refine AllReadyH.cons rfl (fun K hK => ?_) ?_
    · go_simp
      refine (next_ds 3 (by omega) (by omega) (by omega) _ X).mono ?_
      rintro e W2 ⟨v1, rfl, u0, u1, Y⟩
      go_wp2_with fail
      refine hK.out _ _ ?_ (fun hH2 => ?_)
      · (try dsimp only)
        (try trivial)
      clear hK K hH
      have wr1 : IntKind.i64.wrap (1000 + v1) = 1000 + v1 := by rw [IntKind.wrap_i64]; omega
      refine wpAnyH_take (i := 2) (v := ?v9) rfl (by kernel_rfl) (by kernel_rfl) (by kernel_rfl) (fun _ _ _ h => h) (Or.inl ⟨by rfl, ?hy9⟩) (by assumption) ?rest9
      case hy9 => (intro w hSw; (try dsimp only at hSw); go_simp; (try with_reducible rfl))
      exact DN.out _ _ _ _ (st7.out W2 gI v1 Y.out.1 (kept_box Y.out.2 BI.out nI lI) nI (Nat.lt_of_lt_of_le lI Y.out.2.size) (⟨u0, u1⟩))
    refine AllReadyH.cons rfl (fun K hK => ?_) ?_
    · go_simp
      refine hK.out _ _ ?_ (fun hH2 => ?_)
      · (try dsimp only)
        (try trivial)
      clear hK K hH
      exact DN.out _ _ _ _ (st13.out (W.alloc (.cells #[.string ⟨#[]⟩, .string ⟨#[120]⟩, .string ⟨#[100, 97, 116, 97]⟩] 9)) gI W.heap.size (DS.alloc X.out _) (Boxed.alloc BI.out lI _) nI (by simp; omega) (Boxed.new W _ _) (by omega) (by simp))
    exact AllReadyH.nil
  have st15 : Hid (∀ (W : World) (gS : Nat), Hid (DS q a len cap f w [.int .i64 0, .int .i64 0, .string ⟨#[]⟩] 0 W) → Hid (Boxed W gS [.string ⟨#[]⟩, .string ⟨#[120]⟩, .string ⟨#[100, 97, 116, 97]⟩]) → gS ≠ q → gS < W.heap.size → G 9 #[true, false, false, false, true, false, false, false, true, true, false, false, false] { tmps := #[.pointer (some ⟨q, 0, none⟩), undef, .pointer (some ⟨w.heap.size, 0, none⟩), .pointer (some ⟨q, 0, none⟩), undef, undef, undef, .pointer (some ⟨q, 0, none⟩), undef, undef, undef, .pointer (some ⟨q, 0, none⟩), .slice (some ⟨gS, 0, none⟩) 3 3, undef, undef], defers := [] } W) := by
    intro W gS X BS nS lS
    refine UP.out _ _ _ _ ?_
    have hH : (fun _ : World => True) W := trivial
    have zl := X.out.lt
    have zq := X.out.ql
    refine wpAnyH_ready (rs := [1, 3]) (by kernel_rfl) (by simp) ?_
    refine AllReadyH.cons rfl (fun K hK => ?_) ?_
    · go_simp
      refine (next_ds 3 (by omega) (by omega) (by omega) _ X).mono ?_
      rintro e W2 ⟨v1, rfl, u0, u1, Y⟩
      go_wp2_with fail
      refine hK.out _ _ ?_ (fun hH2 => ?_)
      · (try dsimp only)
        (try trivial)
      clear hK K hH
      have wr1 : IntKind.i64.wrap (1000 + v1) = 1000 + v1 := by rw [IntKind.wrap_i64]; omega
      refine wpAnyH_take (i := 2) (v := ?v10) rfl (by kernel_rfl) (by kernel_rfl) (by kernel_rfl) (fun _ _ _ h => h) (Or.inl ⟨by rfl, ?hy10⟩) (by assumption) ?rest10
      case hy10 => (intro w hSw; (try dsimp only at hSw); go_simp; (try with_reducible rfl))
      exact DN.out _ _ _ _ (st11.out W2 gS v1 Y.out.1 (kept_box Y.out.2 BS.out nS lS) nS (Nat.lt_of_lt_of_le lS Y.out.2.size) (⟨u0, u1⟩))
    refine AllReadyH.cons rfl (fun K hK => ?_) ?_
    · go_simp
      refine hK.out _ _ ?_ (fun hH2 => ?_)
      · (try dsimp only)
        (try trivial)
      clear hK K hH
      exact DN.out _ _ _ _ (st13.out (W.alloc (.cells #[.int .i64 53, .int .i64 67, .int .i64 123] 3)) W.heap.size gS (DS.alloc X.out _) (Boxed.new W _ _) (by omega) (by simp) (Boxed.alloc BS.out lS _) nS (by simp; omega))
    exact AllReadyH.nil
  have st16 : Hid (∀ (W : World), Hid (DS q a len cap f w [.int .i64 0, .int .i64 0, .string ⟨#[]⟩] 0 W) → G 10 #[true, false, false, false, true, false, false, false, true, false, false, false, false] { tmps := #[.pointer (some ⟨q, 0, none⟩), undef, .pointer (some ⟨w.heap.size, 0, none⟩), .pointer (some ⟨q, 0, none⟩), undef, undef, undef, .pointer (some ⟨q, 0, none⟩), undef, undef, undef, .pointer (some ⟨q, 0, none⟩), undef, undef, undef], defers := [] } W) := by
    intro W X
    refine UP.out _ _ _ _ ?_
    have hH : (fun _ : World => True) W := trivial
    have zl := X.out.lt
    have zq := X.out.ql
    refine wpAnyH_ready (rs := [1, 3, 9]) (by kernel_rfl) (by simp) ?_
    refine AllReadyH.cons rfl (fun K hK => ?_) ?_
    · go_simp
      refine (next_ds 3 (by omega) (by omega) (by omega) _ X).mono ?_
      rintro e W2 ⟨v1, rfl, u0, u1, Y⟩
      go_wp2_with fail
      refine hK.out _ _ ?_ (fun hH2 => ?_)
      · (try dsimp only)
        (try trivial)
      clear hK K hH
      have wr1 : IntKind.i64.wrap (1000 + v1) = 1000 + v1 := by rw [IntKind.wrap_i64]; omega
      refine wpAnyH_take (i := 2) (v := ?v11) rfl (by kernel_rfl) (by kernel_rfl) (by kernel_rfl) (fun _ _ _ h => h) (Or.inl ⟨by rfl, ?hy11⟩) (by assumption) ?rest11
      case hy11 => (intro w hSw; (try dsimp only at hSw); go_simp; (try with_reducible rfl))
      exact DN.out _ _ _ _ (st12.out W2 v1 Y.out.1 (⟨u0, u1⟩))
    refine AllReadyH.cons rfl (fun K hK => ?_) ?_
    · go_simp
      refine hK.out _ _ ?_ (fun hH2 => ?_)
      · (try dsimp only)
        (try trivial)
      clear hK K hH
      exact DN.out _ _ _ _ (st14.out (W.alloc (.cells #[.int .i64 53, .int .i64 67, .int .i64 123] 3)) W.heap.size (DS.alloc X.out _) (Boxed.new W _ _) (by omega) (by simp))
    refine AllReadyH.cons rfl (fun K hK => ?_) ?_
    · go_simp
      refine hK.out _ _ ?_ (fun hH2 => ?_)
      · (try dsimp only)
        (try trivial)
      clear hK K hH
      exact DN.out _ _ _ _ (st15.out (W.alloc (.cells #[.string ⟨#[]⟩, .string ⟨#[120]⟩, .string ⟨#[100, 97, 116, 97]⟩] 9)) W.heap.size (DS.alloc X.out _) (Boxed.new W _ _) (by omega) (by simp))
    exact AllReadyH.nil
  refine UP.out _ _ _ _ ?_
  refine wpAnyH_take (i := 0) (v := ?v12) rfl (by kernel_rfl) (by kernel_rfl) (by kernel_rfl) (fun _ _ _ h => h) (Or.inl ⟨by rfl, ?hy12⟩) (by assumption) ?rest12
  case hy12 => (intro w hSw; (try dsimp only at hSw); go_simp; (try with_reducible rfl))
  refine wpAnyH_take (i := 4) (v := ?v13) rfl (by kernel_rfl) (by kernel_rfl) (by kernel_rfl) (fun _ _ _ h => h) (Or.inl ⟨by rfl, ?hy13⟩) (by assumption) ?rest13
  case hy13 => (intro w hSw; (try dsimp only at hSw); go_simp; (try with_reducible rfl))
  refine wpAnyH_take (i := 8) (v := ?v14) rfl (by kernel_rfl) (by kernel_rfl) (by kernel_rfl) (fun _ _ _ h => h) (Or.inl ⟨by rfl, ?hy14⟩) (by assumption) ?rest14
  case hy14 => (intro w hSw; (try dsimp only at hSw); go_simp; (try with_reducible rfl))
  exact DN.out _ _ _ _ (st16.out _ (DS.drew X0.out))
end Go.Proofs.Ytfcdobicilediaa.DrawU
