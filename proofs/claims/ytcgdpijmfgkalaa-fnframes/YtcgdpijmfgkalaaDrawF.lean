/- A drawn frame. -/
import Derived.Test.YtcgdpijmfgkalaaDrawS
import Derived.Deep.RegionHeld3
namespace Go.Proofs.Ytcgdpijmfgkalaa
open Go.RowKit Go.PlainAid
set_option linter.unusedVariables false
set_option maxRecDepth 20000

theorem box_a (W : World) (cs : List Value) (t : TypeId) (g : Nat) (hg : W.heap.size = g) : Boxed (W.alloc (.cells cs.toArray t)) g cs := hg ▸ Boxed.new W cs t
theorem box_ab (W : World) (cs : List Value) (t : TypeId) (o : Obj) (g : Nat) (hg : W.heap.size = g) : Boxed ((W.alloc (.cells cs.toArray t)).alloc o) g cs := (box_a W cs t g hg).alloc (by simp; omega) o
theorem box_b (W : World) (cs : List Value) (t : TypeId) (o : Obj) (g : Nat) (hg : (W.alloc o).heap.size = g) : Boxed ((W.alloc o).alloc (.cells cs.toArray t)) g cs := hg ▸ Boxed.new (W.alloc o) cs t
/-- Of two numbers one. -/
def kf (n : Nat) : Int := if n = 0 then 2048 else 2054
theorem kf_or (n : Nat) : kf n = 2048 ∨ kf n = 2054 := by unfold kf; split <;> simp
theorem pickI {W : World} {g : Nat} (h : Boxed W g [.int .i64 2048, .int .i64 2054]) (n : Nat) (hn : n < 2) : W.cell? ⟨g, n, none⟩ = some (.int .i64 (kf n)) := by
  rcases (show n = 0 ∨ n = 1 by omega) with rfl | rfl
  · exact h.at 0 _ rfl
  · exact h.at 1 _ rfl
theorem tx_le {b : ByteArray} (h : b = ⟨#[]⟩ ∨ b = ⟨#[98, 111, 100, 121]⟩ ∨ b = ⟨#[97, 98, 99]⟩) : b.size ≤ 4 := by
  rcases h with rfl | rfl | rfl <;> decide
theorem gr_set {w W : World} {q : Nat} (hW : w.grownBy W (some q)) (i : Nat) (v : Value) : w.grownBy (W.setCell ⟨w.heap.size, i, none⟩ v) (some q) :=
  ⟨hW.os, hW.tape, hW.output, by simpa using hW.size, fun b hl hr => by rw [Below.heap_setCell _ _ _ _ (by show b ≠ w.heap.size; omega)]; exact hW.block b hl hr⟩
theorem gr_sets4 {w W : World} {q i0 i1 i2 i3 : Nat} {v0 v1 v2 v3 : Value} (h : w.grownBy W (some q)) : w.grownBy ((((W.setCell ⟨w.heap.size, i0, none⟩ v0).setCell ⟨w.heap.size, i1, none⟩ v1).setCell ⟨w.heap.size, i2, none⟩ v2).setCell ⟨w.heap.size, i3, none⟩ v3) (some q) :=
  gr_set (gr_set (gr_set (gr_set h _ _) _ _) _ _) _ _

set_option maxHeartbeats 8000000 in
theorem frameD (w : World) (q : Nat) (a : Option Addr) (len cap : Nat) (f : Nat → Int) (h : Src w q a len cap f 0) :
    Calls Try.prog 26 #[.pointer (some ⟨q, 0, none⟩)] w fun e w' => ∃ (d s : ByteArray) (k : Int) (b : ByteArray), e = .returned (.agg #[.string d, .string s, .int .i64 k, .string b]) ∧ d.size = 6 ∧ s.size = 6 ∧ (k = 2048 ∨ k = 2054) ∧ b.size ≤ 4 ∧ w.grownBy w' (some q) := by
  have X0 : Hid (DS q a len cap f w [.string ⟨#[]⟩, .string ⟨#[]⟩, .int .i64 0, .string ⟨#[]⟩] 0 (w.alloc (.cells #[.string ⟨#[]⟩, .string ⟨#[]⟩, .int .i64 0, .string ⟨#[]⟩] 24))) := DS.start h _ _
  have hql := X0.out.ql
  clear h
  go_enter Try.func26, Try.ntmps26
  go_wp2
  refine wp_region_held_drew (S := (fun _ => True)) (by kernel_rfl) ?_ (fun hH0 => ?_)
  · trivial
  refine wpAnyH_take (i := 0) (v := ?v1) rfl (by kernel_rfl) (by kernel_rfl) (by kernel_rfl) (fun _ _ _ h => h) (Or.inl ⟨by rfl, ?hy1⟩) (by assumption) ?rest1
  case hy1 => (intro w hSw; (try dsimp only at hSw); go_simp; (try with_reducible rfl))
  refine wpAnyH_take (i := 2) (v := ?v2) rfl (by kernel_rfl) (by kernel_rfl) (by kernel_rfl) (fun _ _ _ h => h) (Or.inl ⟨by rfl, ?hy2⟩) (by assumption) ?rest2
  case hy2 => (intro w hSw; (try dsimp only at hSw); go_simp; (try with_reducible rfl))
  refine wpAnyH_take (i := 5) (v := ?v3) rfl (by kernel_rfl) (by kernel_rfl) (by kernel_rfl) (fun _ _ _ h => h) (Or.inl ⟨by rfl, ?hy3⟩) (by assumption) ?rest3
  case hy3 => (intro w hSw; (try dsimp only at hSw); go_simp; (try with_reducible rfl))
  refine wpAnyH_take (i := 9) (v := ?v4) rfl (by kernel_rfl) (by kernel_rfl) (by kernel_rfl) (fun _ _ _ h => h) (Or.inl ⟨by rfl, ?hy4⟩) (by assumption) ?rest4
  case hy4 => (intro w hSw; (try dsimp only at hSw); go_simp; (try with_reducible rfl))
  refine wpAnyH_ready (rs := [1, 4, 10]) (by kernel_rfl) (by simp) ?_
  refine AllReadyH.cons rfl (fun K hK => ?_) ?_
  · have XC : Hid (DS q a len cap f w [.string ⟨#[]⟩, .string ⟨#[]⟩, .int .i64 0, .string ⟨#[]⟩] 0 (w.alloc (.cells #[.string ⟨#[]⟩, .string ⟨#[]⟩, .int .i64 0, .string ⟨#[]⟩] 24)).drew) := (DS.drew X0.out)
    go_simp
    refine (mac_ds (by omega) _ XC).mono ?_
    rintro e w1 ⟨d1, rfl, hsz, Y1⟩
    have HD1 : Hid (d1.size = 6) := hsz
    clear hsz
    have X1 : Hid (DS q a len cap f w [.string ⟨#[]⟩, .string ⟨#[]⟩, .int .i64 0, .string ⟨#[]⟩] 1 w1) := Y1.out.1
    have z1 := X1.out.lt
    have zz1 : w.heap.size + 1 ≤ w1.heap.size := by have := Y1.out.2.size; simpa using this
    clear Y1 XC
    go_wp2_with fail
    refine hK.out _ _ ?_ (fun hH5 => ?_)
    · (try dsimp only)
      (try trivial)
    clear hK K hH0
    refine wpAnyH_ready (rs := [3, 4, 10]) (by kernel_rfl) (by simp) ?_
    refine AllReadyH.cons rfl (fun K hK => ?_) ?_
    · have XC : Hid (DS q a len cap f w [.string ⟨#[]⟩, .string ⟨#[]⟩, .int .i64 0, .string ⟨#[]⟩] 1 w1) := X1.out
      go_simp
      refine (mac_ds (by omega) _ XC).mono ?_
      rintro e w2 ⟨d2, rfl, hsz, Y2⟩
      have HD2 : Hid (d2.size = 6) := hsz
      clear hsz
      have X2 : Hid (DS q a len cap f w [.string ⟨#[]⟩, .string ⟨#[]⟩, .int .i64 0, .string ⟨#[]⟩] 2 w2) := Y2.out.1
      have z2 := X2.out.lt
      have zz2 : w1.heap.size + 0 ≤ w2.heap.size := by have := Y2.out.2.size; simpa using this
      clear Y2 XC
      go_wp2_with fail
      refine hK.out _ _ ?_ (fun hH6 => ?_)
      · (try dsimp only)
        (try trivial)
      clear hK K hH5
      refine wpAnyH_ready (rs := [4, 6, 10]) (by kernel_rfl) (by simp) ?_
      refine AllReadyH.cons rfl (fun K hK => ?_) ?_
      · go_simp
        refine hK.out _ _ ?_ (fun hH7 => ?_)
        · (try dsimp only)
          (try trivial)
        clear hK K hH6
        refine wpAnyH_ready (rs := [6, 10]) (by kernel_rfl) (by simp) ?_
        refine AllReadyH.cons rfl (fun K hK => ?_) ?_
        · have XC : Hid (DS q a len cap f w [.string ⟨#[]⟩, .string ⟨#[]⟩, .int .i64 0, .string ⟨#[]⟩] 2 (w2.alloc (.cells #[.int .i64 2048, .int .i64 2054] 3))) := (DS.alloc X2.out _)
          go_simp
          refine (next_ds 2 (by omega) (by omega) (by omega) _ XC).mono ?_
          rintro e w3 ⟨vv, rfl, v0, v1, Y3⟩
          obtain ⟨nn, rfl⟩ := Int.eq_ofNat_of_zero_le v0
          have hnn : nn < 2 := by omega
          have BI3 : Hid (Boxed w3 (w2.heap.size) [.int .i64 2048, .int .i64 2054]) := kept_box Y3.out.2 (box_a w2 [.int .i64 2048, .int .i64 2054] _ _ (by simp)) (by omega) (by first | omega | (simp; done) | (simp; omega))
          have X3 : Hid (DS q a len cap f w [.string ⟨#[]⟩, .string ⟨#[]⟩, .int .i64 0, .string ⟨#[]⟩] 3 w3) := Y3.out.1
          have z3 := X3.out.lt
          have zz3 : w2.heap.size + 1 ≤ w3.heap.size := by have := Y3.out.2.size; simpa using this
          clear Y3 XC
          go_wp2_with fail
          refine hK.out _ _ ?_ (fun hH8 => ?_)
          · (try dsimp only)
            (try trivial)
          clear hK K hH7
          refine wpAnyH_take (i := 7) (v := ?v9) rfl (by kernel_rfl) (by kernel_rfl) (by kernel_rfl) (fun _ _ _ h => h) (Or.inl ⟨by rfl, ?hy9⟩) (by assumption) ?rest9
          case hy9 => (intro w hSw; (try dsimp only at hSw); go_simp; (try with_reducible rfl))
          refine wpAnyH_ready (rs := [8, 10]) (by kernel_rfl) (by simp) ?_
          refine AllReadyH.cons rfl (fun K hK => ?_) ?_
          · have cN : w3.cell? ⟨w2.heap.size, nn, none⟩ = some (.int .i64 (kf nn)) := pickI BI3.out nn hnn
            go_simp
            refine hK.out _ _ ?_ (fun hH10 => ?_)
            · (try dsimp only)
              (try trivial)
            clear hK K hH8
            refine wpAnyH_ready (rs := [10]) (by kernel_rfl) (by simp) ?_
            refine AllReadyH.cons rfl (fun K hK => ?_) ?_
            · go_simp
              refine hK.out _ _ ?_ (fun hH11 => ?_)
              · (try dsimp only)
                (try trivial)
              clear hK K hH10
              refine wpAnyH_ready (rs := [11]) (by kernel_rfl) (by simp) ?_
              refine AllReadyH.cons rfl (fun K hK => ?_) ?_
              · have XC : Hid (DS q a len cap f w [.string ⟨#[]⟩, .string ⟨#[]⟩, .int .i64 0, .string ⟨#[]⟩] 3 (w3.alloc (.cells #[.string ⟨#[]⟩, .string ⟨#[98, 111, 100, 121]⟩, .string ⟨#[97, 98, 99]⟩] 9))) := (DS.alloc X3.out _)
                have bS : Boxed (w3.alloc (.cells #[.string ⟨#[]⟩, .string ⟨#[98, 111, 100, 121]⟩, .string ⟨#[97, 98, 99]⟩] 9)) (w3.heap.size) [.string ⟨#[]⟩, .string ⟨#[98, 111, 100, 121]⟩, .string ⟨#[97, 98, 99]⟩] := (box_a w3 [.string ⟨#[]⟩, .string ⟨#[98, 111, 100, 121]⟩, .string ⟨#[97, 98, 99]⟩] _ _ (by simp))
                go_simp
                refine (pick_ds (by omega) (w3.heap.size) _ _ _ _ XC bS (by omega)).mono ?_
                rintro e w4 ⟨bb, rfl, hbb, Y4⟩
                have HB4 : Hid (bb = ⟨#[]⟩ ∨ bb = ⟨#[98, 111, 100, 121]⟩ ∨ bb = ⟨#[97, 98, 99]⟩) := hbb
                clear hbb bS
                have BI4 : Hid (Boxed w4 (w2.heap.size) [.int .i64 2048, .int .i64 2054]) := kept_box Y4.out.2 (Boxed.alloc BI3.out (by first | omega | (simp; done) | (simp; omega)) _) (by omega) (by first | omega | (simp; done) | (simp; omega))
                have BS4 : Hid (Boxed w4 (w3.heap.size) [.string ⟨#[]⟩, .string ⟨#[98, 111, 100, 121]⟩, .string ⟨#[97, 98, 99]⟩]) := kept_box Y4.out.2 (box_a w3 [.string ⟨#[]⟩, .string ⟨#[98, 111, 100, 121]⟩, .string ⟨#[97, 98, 99]⟩] _ _ (by simp)) (by omega) (by first | omega | (simp; done) | (simp; omega))
                have X4 : Hid (DS q a len cap f w [.string ⟨#[]⟩, .string ⟨#[]⟩, .int .i64 0, .string ⟨#[]⟩] 4 w4) := Y4.out.1
                have z4 := X4.out.lt
                have zz4 : w3.heap.size + 1 ≤ w4.heap.size := by have := Y4.out.2.size; simpa using this
                clear Y4 XC
                go_wp2_with fail
                refine hK.out _ _ ?_ (fun hH12 => ?_)
                · (try dsimp only)
                  (try trivial)
                clear hK K hH11
                refine wpAnyH_take (i := 12) (v := ?v13) rfl (by kernel_rfl) (by kernel_rfl) (by kernel_rfl) (fun _ _ _ h => h) (Or.inl ⟨by rfl, ?hy13⟩) (by assumption) ?rest13
                case hy13 => (intro w hSw; (try dsimp only at hSw); go_simp; (try with_reducible rfl))
                refine wpAnyH_ready (rs := [13]) (by kernel_rfl) (by simp) ?_
                refine AllReadyH.cons rfl (fun K hK => ?_) ?_
                · have XF : Hid (DS q a len cap f w [.string ⟨#[]⟩, .string ⟨#[]⟩, .int .i64 0, .string ⟨#[]⟩] 4 w4) := X4.out
                  have k0 := XF.out.box.1.at 0 _ rfl
                  have y0 := XF.out.box.2 0
                  have k1 := XF.out.box.1.at 1 _ rfl
                  have y1 := XF.out.box.2 1
                  have k2 := XF.out.box.1.at 2 _ rfl
                  have y2 := XF.out.box.2 2
                  have k3 := XF.out.box.1.at 3 _ rfl
                  have y3 := XF.out.box.2 3
                  go_simp
                  refine hK.out _ _ ?_ (fun hH14 => ?_)
                  · (try dsimp only)
                    (try trivial)
                  clear hK K hH12
                  refine wpAnyH_done (by kernel_rfl) ?_ _
                  clear hH14
                  go_wp2
                  (try simp only [Exit.inBlock, Exit.then])
                  refine bodyPost_ret (v := .agg #[.string d1, .string d2, .int .i64 (kf nn), .string bb]) (by simp [results, Try.results26, go_sem, *]; try rfl) rfl ?_
                  exact ⟨d1, d2, kf nn, bb, rfl, HD1.out, HD2.out, kf_or nn, tx_le HB4.out, by first | exact gr_sets4 XF.out.gr | exact grown_alloc (gr_sets4 XB.out.gr) _⟩
                exact AllReadyH.nil
              exact AllReadyH.nil
            exact AllReadyH.nil
          refine AllReadyH.cons rfl (fun K hK => ?_) ?_
          · go_simp
            refine hK.out _ _ ?_ (fun hH15 => ?_)
            · (try dsimp only)
              (try trivial)
            clear hK K hH8
            refine wpAnyH_ready (rs := [8, 11]) (by kernel_rfl) (by simp) ?_
            refine AllReadyH.cons rfl (fun K hK => ?_) ?_
            · have cN : (w3.alloc (.cells #[.string ⟨#[]⟩, .string ⟨#[98, 111, 100, 121]⟩, .string ⟨#[97, 98, 99]⟩] 9)).cell? ⟨w2.heap.size, nn, none⟩ = some (.int .i64 (kf nn)) := pickI (Boxed.alloc BI3.out (by first | omega | (simp; done) | (simp; omega)) _) nn hnn
              go_simp
              refine hK.out _ _ ?_ (fun hH16 => ?_)
              · (try dsimp only)
                (try trivial)
              clear hK K hH15
              refine wpAnyH_ready (rs := [11]) (by kernel_rfl) (by simp) ?_
              refine AllReadyH.cons rfl (fun K hK => ?_) ?_
              · have XC : Hid (DS q a len cap f w [.string ⟨#[]⟩, .string ⟨#[]⟩, .int .i64 0, .string ⟨#[]⟩] 3 (w3.alloc (.cells #[.string ⟨#[]⟩, .string ⟨#[98, 111, 100, 121]⟩, .string ⟨#[97, 98, 99]⟩] 9))) := (DS.alloc X3.out _)
                have bS : Boxed (w3.alloc (.cells #[.string ⟨#[]⟩, .string ⟨#[98, 111, 100, 121]⟩, .string ⟨#[97, 98, 99]⟩] 9)) (w3.heap.size) [.string ⟨#[]⟩, .string ⟨#[98, 111, 100, 121]⟩, .string ⟨#[97, 98, 99]⟩] := (box_a w3 [.string ⟨#[]⟩, .string ⟨#[98, 111, 100, 121]⟩, .string ⟨#[97, 98, 99]⟩] _ _ (by simp))
                go_simp
                refine (pick_ds (by omega) (w3.heap.size) _ _ _ _ XC bS (by omega)).mono ?_
                rintro e w4 ⟨bb, rfl, hbb, Y4⟩
                have HB4 : Hid (bb = ⟨#[]⟩ ∨ bb = ⟨#[98, 111, 100, 121]⟩ ∨ bb = ⟨#[97, 98, 99]⟩) := hbb
                clear hbb bS
                have BI4 : Hid (Boxed w4 (w2.heap.size) [.int .i64 2048, .int .i64 2054]) := kept_box Y4.out.2 (Boxed.alloc BI3.out (by first | omega | (simp; done) | (simp; omega)) _) (by omega) (by first | omega | (simp; done) | (simp; omega))
                have BS4 : Hid (Boxed w4 (w3.heap.size) [.string ⟨#[]⟩, .string ⟨#[98, 111, 100, 121]⟩, .string ⟨#[97, 98, 99]⟩]) := kept_box Y4.out.2 (box_a w3 [.string ⟨#[]⟩, .string ⟨#[98, 111, 100, 121]⟩, .string ⟨#[97, 98, 99]⟩] _ _ (by simp)) (by omega) (by first | omega | (simp; done) | (simp; omega))
                have X4 : Hid (DS q a len cap f w [.string ⟨#[]⟩, .string ⟨#[]⟩, .int .i64 0, .string ⟨#[]⟩] 4 w4) := Y4.out.1
                have z4 := X4.out.lt
                have zz4 : w3.heap.size + 1 ≤ w4.heap.size := by have := Y4.out.2.size; simpa using this
                clear Y4 XC
                go_wp2_with fail
                refine hK.out _ _ ?_ (fun hH17 => ?_)
                · (try dsimp only)
                  (try trivial)
                clear hK K hH16
                refine wpAnyH_take (i := 12) (v := ?v18) rfl (by kernel_rfl) (by kernel_rfl) (by kernel_rfl) (fun _ _ _ h => h) (Or.inl ⟨by rfl, ?hy18⟩) (by assumption) ?rest18
                case hy18 => (intro w hSw; (try dsimp only at hSw); go_simp; (try with_reducible rfl))
                refine wpAnyH_ready (rs := [13]) (by kernel_rfl) (by simp) ?_
                refine AllReadyH.cons rfl (fun K hK => ?_) ?_
                · have XF : Hid (DS q a len cap f w [.string ⟨#[]⟩, .string ⟨#[]⟩, .int .i64 0, .string ⟨#[]⟩] 4 w4) := X4.out
                  have k0 := XF.out.box.1.at 0 _ rfl
                  have y0 := XF.out.box.2 0
                  have k1 := XF.out.box.1.at 1 _ rfl
                  have y1 := XF.out.box.2 1
                  have k2 := XF.out.box.1.at 2 _ rfl
                  have y2 := XF.out.box.2 2
                  have k3 := XF.out.box.1.at 3 _ rfl
                  have y3 := XF.out.box.2 3
                  go_simp
                  refine hK.out _ _ ?_ (fun hH19 => ?_)
                  · (try dsimp only)
                    (try trivial)
                  clear hK K hH17
                  refine wpAnyH_done (by kernel_rfl) ?_ _
                  clear hH19
                  go_wp2
                  (try simp only [Exit.inBlock, Exit.then])
                  refine bodyPost_ret (v := .agg #[.string d1, .string d2, .int .i64 (kf nn), .string bb]) (by simp [results, Try.results26, go_sem, *]; try rfl) rfl ?_
                  exact ⟨d1, d2, kf nn, bb, rfl, HD1.out, HD2.out, kf_or nn, tx_le HB4.out, by first | exact gr_sets4 XF.out.gr | exact grown_alloc (gr_sets4 XB.out.gr) _⟩
                exact AllReadyH.nil
              exact AllReadyH.nil
            refine AllReadyH.cons rfl (fun K hK => ?_) ?_
            · have XC : Hid (DS q a len cap f w [.string ⟨#[]⟩, .string ⟨#[]⟩, .int .i64 0, .string ⟨#[]⟩] 3 (w3.alloc (.cells #[.string ⟨#[]⟩, .string ⟨#[98, 111, 100, 121]⟩, .string ⟨#[97, 98, 99]⟩] 9))) := (DS.alloc X3.out _)
              have bS : Boxed (w3.alloc (.cells #[.string ⟨#[]⟩, .string ⟨#[98, 111, 100, 121]⟩, .string ⟨#[97, 98, 99]⟩] 9)) (w3.heap.size) [.string ⟨#[]⟩, .string ⟨#[98, 111, 100, 121]⟩, .string ⟨#[97, 98, 99]⟩] := (box_a w3 [.string ⟨#[]⟩, .string ⟨#[98, 111, 100, 121]⟩, .string ⟨#[97, 98, 99]⟩] _ _ (by simp))
              go_simp
              refine (pick_ds (by omega) (w3.heap.size) _ _ _ _ XC bS (by omega)).mono ?_
              rintro e w4 ⟨bb, rfl, hbb, Y4⟩
              have HB4 : Hid (bb = ⟨#[]⟩ ∨ bb = ⟨#[98, 111, 100, 121]⟩ ∨ bb = ⟨#[97, 98, 99]⟩) := hbb
              clear hbb bS
              have BI4 : Hid (Boxed w4 (w2.heap.size) [.int .i64 2048, .int .i64 2054]) := kept_box Y4.out.2 (Boxed.alloc BI3.out (by first | omega | (simp; done) | (simp; omega)) _) (by omega) (by first | omega | (simp; done) | (simp; omega))
              have BS4 : Hid (Boxed w4 (w3.heap.size) [.string ⟨#[]⟩, .string ⟨#[98, 111, 100, 121]⟩, .string ⟨#[97, 98, 99]⟩]) := kept_box Y4.out.2 (box_a w3 [.string ⟨#[]⟩, .string ⟨#[98, 111, 100, 121]⟩, .string ⟨#[97, 98, 99]⟩] _ _ (by simp)) (by omega) (by first | omega | (simp; done) | (simp; omega))
              have X4 : Hid (DS q a len cap f w [.string ⟨#[]⟩, .string ⟨#[]⟩, .int .i64 0, .string ⟨#[]⟩] 4 w4) := Y4.out.1
              have z4 := X4.out.lt
              have zz4 : w3.heap.size + 1 ≤ w4.heap.size := by have := Y4.out.2.size; simpa using this
              clear Y4 XC
              go_wp2_with fail
              refine hK.out _ _ ?_ (fun hH20 => ?_)
              · (try dsimp only)
                (try trivial)
              clear hK K hH15
              refine wpAnyH_ready (rs := [8]) (by kernel_rfl) (by simp) ?_
              refine AllReadyH.cons rfl (fun K hK => ?_) ?_
              · have cN : w4.cell? ⟨w2.heap.size, nn, none⟩ = some (.int .i64 (kf nn)) := pickI BI4.out nn hnn
                go_simp
                refine hK.out _ _ ?_ (fun hH21 => ?_)
                · (try dsimp only)
                  (try trivial)
                clear hK K hH20
                refine wpAnyH_take (i := 12) (v := ?v22) rfl (by kernel_rfl) (by kernel_rfl) (by kernel_rfl) (fun _ _ _ h => h) (Or.inl ⟨by rfl, ?hy22⟩) (by assumption) ?rest22
                case hy22 => (intro w hSw; (try dsimp only at hSw); go_simp; (try with_reducible rfl))
                refine wpAnyH_ready (rs := [13]) (by kernel_rfl) (by simp) ?_
                refine AllReadyH.cons rfl (fun K hK => ?_) ?_
                · have XF : Hid (DS q a len cap f w [.string ⟨#[]⟩, .string ⟨#[]⟩, .int .i64 0, .string ⟨#[]⟩] 4 w4) := X4.out
                  have k0 := XF.out.box.1.at 0 _ rfl
                  have y0 := XF.out.box.2 0
                  have k1 := XF.out.box.1.at 1 _ rfl
                  have y1 := XF.out.box.2 1
                  have k2 := XF.out.box.1.at 2 _ rfl
                  have y2 := XF.out.box.2 2
                  have k3 := XF.out.box.1.at 3 _ rfl
                  have y3 := XF.out.box.2 3
                  go_simp
                  refine hK.out _ _ ?_ (fun hH23 => ?_)
                  · (try dsimp only)
                    (try trivial)
                  clear hK K hH21
                  refine wpAnyH_done (by kernel_rfl) ?_ _
                  clear hH23
                  go_wp2
                  (try simp only [Exit.inBlock, Exit.then])
                  refine bodyPost_ret (v := .agg #[.string d1, .string d2, .int .i64 (kf nn), .string bb]) (by simp [results, Try.results26, go_sem, *]; try rfl) rfl ?_
                  exact ⟨d1, d2, kf nn, bb, rfl, HD1.out, HD2.out, kf_or nn, tx_le HB4.out, by first | exact gr_sets4 XF.out.gr | exact grown_alloc (gr_sets4 XB.out.gr) _⟩
                exact AllReadyH.nil
              exact AllReadyH.nil
            exact AllReadyH.nil
          exact AllReadyH.nil
        refine AllReadyH.cons rfl (fun K hK => ?_) ?_
        · go_simp
          refine hK.out _ _ ?_ (fun hH24 => ?_)
          · (try dsimp only)
            (try trivial)
          clear hK K hH7
          refine wpAnyH_ready (rs := [6]) (by kernel_rfl) (by simp) ?_
          refine AllReadyH.cons rfl (fun K hK => ?_) ?_
          · have XC : Hid (DS q a len cap f w [.string ⟨#[]⟩, .string ⟨#[]⟩, .int .i64 0, .string ⟨#[]⟩] 2 ((w2.alloc (.cells #[.int .i64 2048, .int .i64 2054] 3)).alloc (.cells #[.string ⟨#[]⟩, .string ⟨#[98, 111, 100, 121]⟩, .string ⟨#[97, 98, 99]⟩] 9))) := (DS.alloc (DS.alloc X2.out _) _)
            go_simp
            refine (next_ds 2 (by omega) (by omega) (by omega) _ XC).mono ?_
            rintro e w3 ⟨vv, rfl, v0, v1, Y3⟩
            obtain ⟨nn, rfl⟩ := Int.eq_ofNat_of_zero_le v0
            have hnn : nn < 2 := by omega
            have BI3 : Hid (Boxed w3 (w2.heap.size) [.int .i64 2048, .int .i64 2054]) := kept_box Y3.out.2 (box_ab w2 [.int .i64 2048, .int .i64 2054] _ _ _ (by simp)) (by omega) (by first | omega | (simp; done) | (simp; omega))
            have BS3 : Hid (Boxed w3 (w2.heap.size + 1) [.string ⟨#[]⟩, .string ⟨#[98, 111, 100, 121]⟩, .string ⟨#[97, 98, 99]⟩]) := kept_box Y3.out.2 (box_b w2 [.string ⟨#[]⟩, .string ⟨#[98, 111, 100, 121]⟩, .string ⟨#[97, 98, 99]⟩] _ _ _ (by simp)) (by omega) (by first | omega | (simp; done) | (simp; omega))
            have X3 : Hid (DS q a len cap f w [.string ⟨#[]⟩, .string ⟨#[]⟩, .int .i64 0, .string ⟨#[]⟩] 3 w3) := Y3.out.1
            have z3 := X3.out.lt
            have zz3 : w2.heap.size + 2 ≤ w3.heap.size := by have := Y3.out.2.size; simpa using this
            clear Y3 XC
            go_wp2_with fail
            refine hK.out _ _ ?_ (fun hH25 => ?_)
            · (try dsimp only)
              (try trivial)
            clear hK K hH24
            refine wpAnyH_take (i := 7) (v := ?v26) rfl (by kernel_rfl) (by kernel_rfl) (by kernel_rfl) (fun _ _ _ h => h) (Or.inl ⟨by rfl, ?hy26⟩) (by assumption) ?rest26
            case hy26 => (intro w hSw; (try dsimp only at hSw); go_simp; (try with_reducible rfl))
            refine wpAnyH_ready (rs := [8, 11]) (by kernel_rfl) (by simp) ?_
            refine AllReadyH.cons rfl (fun K hK => ?_) ?_
            · have cN : w3.cell? ⟨w2.heap.size, nn, none⟩ = some (.int .i64 (kf nn)) := pickI BI3.out nn hnn
              go_simp
              refine hK.out _ _ ?_ (fun hH27 => ?_)
              · (try dsimp only)
                (try trivial)
              clear hK K hH25
              refine wpAnyH_ready (rs := [11]) (by kernel_rfl) (by simp) ?_
              refine AllReadyH.cons rfl (fun K hK => ?_) ?_
              · have XC : Hid (DS q a len cap f w [.string ⟨#[]⟩, .string ⟨#[]⟩, .int .i64 0, .string ⟨#[]⟩] 3 w3) := X3.out
                have bS : Boxed w3 (w2.heap.size + 1) [.string ⟨#[]⟩, .string ⟨#[98, 111, 100, 121]⟩, .string ⟨#[97, 98, 99]⟩] := BS3.out
                go_simp
                refine (pick_ds (by omega) (w2.heap.size + 1) _ _ _ _ XC bS (by omega)).mono ?_
                rintro e w4 ⟨bb, rfl, hbb, Y4⟩
                have HB4 : Hid (bb = ⟨#[]⟩ ∨ bb = ⟨#[98, 111, 100, 121]⟩ ∨ bb = ⟨#[97, 98, 99]⟩) := hbb
                clear hbb bS
                have BI4 : Hid (Boxed w4 (w2.heap.size) [.int .i64 2048, .int .i64 2054]) := kept_box Y4.out.2 BI3.out (by omega) (by first | omega | (simp; done) | (simp; omega))
                have BS4 : Hid (Boxed w4 (w2.heap.size + 1) [.string ⟨#[]⟩, .string ⟨#[98, 111, 100, 121]⟩, .string ⟨#[97, 98, 99]⟩]) := kept_box Y4.out.2 BS3.out (by omega) (by first | omega | (simp; done) | (simp; omega))
                have X4 : Hid (DS q a len cap f w [.string ⟨#[]⟩, .string ⟨#[]⟩, .int .i64 0, .string ⟨#[]⟩] 4 w4) := Y4.out.1
                have z4 := X4.out.lt
                have zz4 : w3.heap.size + 0 ≤ w4.heap.size := by have := Y4.out.2.size; simpa using this
                clear Y4 XC
                go_wp2_with fail
                refine hK.out _ _ ?_ (fun hH28 => ?_)
                · (try dsimp only)
                  (try trivial)
                clear hK K hH27
                refine wpAnyH_take (i := 12) (v := ?v29) rfl (by kernel_rfl) (by kernel_rfl) (by kernel_rfl) (fun _ _ _ h => h) (Or.inl ⟨by rfl, ?hy29⟩) (by assumption) ?rest29
                case hy29 => (intro w hSw; (try dsimp only at hSw); go_simp; (try with_reducible rfl))
                refine wpAnyH_ready (rs := [13]) (by kernel_rfl) (by simp) ?_
                refine AllReadyH.cons rfl (fun K hK => ?_) ?_
                · have XF : Hid (DS q a len cap f w [.string ⟨#[]⟩, .string ⟨#[]⟩, .int .i64 0, .string ⟨#[]⟩] 4 w4) := X4.out
                  have k0 := XF.out.box.1.at 0 _ rfl
                  have y0 := XF.out.box.2 0
                  have k1 := XF.out.box.1.at 1 _ rfl
                  have y1 := XF.out.box.2 1
                  have k2 := XF.out.box.1.at 2 _ rfl
                  have y2 := XF.out.box.2 2
                  have k3 := XF.out.box.1.at 3 _ rfl
                  have y3 := XF.out.box.2 3
                  go_simp
                  refine hK.out _ _ ?_ (fun hH30 => ?_)
                  · (try dsimp only)
                    (try trivial)
                  clear hK K hH28
                  refine wpAnyH_done (by kernel_rfl) ?_ _
                  clear hH30
                  go_wp2
                  (try simp only [Exit.inBlock, Exit.then])
                  refine bodyPost_ret (v := .agg #[.string d1, .string d2, .int .i64 (kf nn), .string bb]) (by simp [results, Try.results26, go_sem, *]; try rfl) rfl ?_
                  exact ⟨d1, d2, kf nn, bb, rfl, HD1.out, HD2.out, kf_or nn, tx_le HB4.out, by first | exact gr_sets4 XF.out.gr | exact grown_alloc (gr_sets4 XB.out.gr) _⟩
                exact AllReadyH.nil
              exact AllReadyH.nil
            refine AllReadyH.cons rfl (fun K hK => ?_) ?_
            · have XC : Hid (DS q a len cap f w [.string ⟨#[]⟩, .string ⟨#[]⟩, .int .i64 0, .string ⟨#[]⟩] 3 w3) := X3.out
              have bS : Boxed w3 (w2.heap.size + 1) [.string ⟨#[]⟩, .string ⟨#[98, 111, 100, 121]⟩, .string ⟨#[97, 98, 99]⟩] := BS3.out
              go_simp
              refine (pick_ds (by omega) (w2.heap.size + 1) _ _ _ _ XC bS (by omega)).mono ?_
              rintro e w4 ⟨bb, rfl, hbb, Y4⟩
              have HB4 : Hid (bb = ⟨#[]⟩ ∨ bb = ⟨#[98, 111, 100, 121]⟩ ∨ bb = ⟨#[97, 98, 99]⟩) := hbb
              clear hbb bS
              have BI4 : Hid (Boxed w4 (w2.heap.size) [.int .i64 2048, .int .i64 2054]) := kept_box Y4.out.2 BI3.out (by omega) (by first | omega | (simp; done) | (simp; omega))
              have BS4 : Hid (Boxed w4 (w2.heap.size + 1) [.string ⟨#[]⟩, .string ⟨#[98, 111, 100, 121]⟩, .string ⟨#[97, 98, 99]⟩]) := kept_box Y4.out.2 BS3.out (by omega) (by first | omega | (simp; done) | (simp; omega))
              have X4 : Hid (DS q a len cap f w [.string ⟨#[]⟩, .string ⟨#[]⟩, .int .i64 0, .string ⟨#[]⟩] 4 w4) := Y4.out.1
              have z4 := X4.out.lt
              have zz4 : w3.heap.size + 0 ≤ w4.heap.size := by have := Y4.out.2.size; simpa using this
              clear Y4 XC
              go_wp2_with fail
              refine hK.out _ _ ?_ (fun hH31 => ?_)
              · (try dsimp only)
                (try trivial)
              clear hK K hH25
              refine wpAnyH_ready (rs := [8]) (by kernel_rfl) (by simp) ?_
              refine AllReadyH.cons rfl (fun K hK => ?_) ?_
              · have cN : w4.cell? ⟨w2.heap.size, nn, none⟩ = some (.int .i64 (kf nn)) := pickI BI4.out nn hnn
                go_simp
                refine hK.out _ _ ?_ (fun hH32 => ?_)
                · (try dsimp only)
                  (try trivial)
                clear hK K hH31
                refine wpAnyH_take (i := 12) (v := ?v33) rfl (by kernel_rfl) (by kernel_rfl) (by kernel_rfl) (fun _ _ _ h => h) (Or.inl ⟨by rfl, ?hy33⟩) (by assumption) ?rest33
                case hy33 => (intro w hSw; (try dsimp only at hSw); go_simp; (try with_reducible rfl))
                refine wpAnyH_ready (rs := [13]) (by kernel_rfl) (by simp) ?_
                refine AllReadyH.cons rfl (fun K hK => ?_) ?_
                · have XF : Hid (DS q a len cap f w [.string ⟨#[]⟩, .string ⟨#[]⟩, .int .i64 0, .string ⟨#[]⟩] 4 w4) := X4.out
                  have k0 := XF.out.box.1.at 0 _ rfl
                  have y0 := XF.out.box.2 0
                  have k1 := XF.out.box.1.at 1 _ rfl
                  have y1 := XF.out.box.2 1
                  have k2 := XF.out.box.1.at 2 _ rfl
                  have y2 := XF.out.box.2 2
                  have k3 := XF.out.box.1.at 3 _ rfl
                  have y3 := XF.out.box.2 3
                  go_simp
                  refine hK.out _ _ ?_ (fun hH34 => ?_)
                  · (try dsimp only)
                    (try trivial)
                  clear hK K hH32
                  refine wpAnyH_done (by kernel_rfl) ?_ _
                  clear hH34
                  go_wp2
                  (try simp only [Exit.inBlock, Exit.then])
                  refine bodyPost_ret (v := .agg #[.string d1, .string d2, .int .i64 (kf nn), .string bb]) (by simp [results, Try.results26, go_sem, *]; try rfl) rfl ?_
                  exact ⟨d1, d2, kf nn, bb, rfl, HD1.out, HD2.out, kf_or nn, tx_le HB4.out, by first | exact gr_sets4 XF.out.gr | exact grown_alloc (gr_sets4 XB.out.gr) _⟩
                exact AllReadyH.nil
              exact AllReadyH.nil
            exact AllReadyH.nil
          exact AllReadyH.nil
        exact AllReadyH.nil
      refine AllReadyH.cons rfl (fun K hK => ?_) ?_
      · have XC : Hid (DS q a len cap f w [.string ⟨#[]⟩, .string ⟨#[]⟩, .int .i64 0, .string ⟨#[]⟩] 2 w2) := X2.out
        go_simp
        refine (next_ds 2 (by omega) (by omega) (by omega) _ XC).mono ?_
        rintro e w3 ⟨vv, rfl, v0, v1, Y3⟩
        obtain ⟨nn, rfl⟩ := Int.eq_ofNat_of_zero_le v0
        have hnn : nn < 2 := by omega
        have X3 : Hid (DS q a len cap f w [.string ⟨#[]⟩, .string ⟨#[]⟩, .int .i64 0, .string ⟨#[]⟩] 3 w3) := Y3.out.1
        have z3 := X3.out.lt
        have zz3 : w2.heap.size + 0 ≤ w3.heap.size := by have := Y3.out.2.size; simpa using this
        clear Y3 XC
        go_wp2_with fail
        refine hK.out _ _ ?_ (fun hH35 => ?_)
        · (try dsimp only)
          (try trivial)
        clear hK K hH6
        refine wpAnyH_ready (rs := [4, 10]) (by kernel_rfl) (by simp) ?_
        refine AllReadyH.cons rfl (fun K hK => ?_) ?_
        · go_simp
          refine hK.out _ _ ?_ (fun hH36 => ?_)
          · (try dsimp only)
            (try trivial)
          clear hK K hH35
          refine wpAnyH_take (i := 7) (v := ?v37) rfl (by kernel_rfl) (by kernel_rfl) (by kernel_rfl) (fun _ _ _ h => h) (Or.inl ⟨by rfl, ?hy37⟩) (by assumption) ?rest37
          case hy37 => (intro w hSw; (try dsimp only at hSw); go_simp; (try with_reducible rfl))
          refine wpAnyH_ready (rs := [8, 10]) (by kernel_rfl) (by simp) ?_
          refine AllReadyH.cons rfl (fun K hK => ?_) ?_
          · have cN : (w3.alloc (.cells #[.int .i64 2048, .int .i64 2054] 3)).cell? ⟨w3.heap.size, nn, none⟩ = some (.int .i64 (kf nn)) := pickI (box_a w3 [.int .i64 2048, .int .i64 2054] _ _ (by simp)) nn hnn
            go_simp
            refine hK.out _ _ ?_ (fun hH38 => ?_)
            · (try dsimp only)
              (try trivial)
            clear hK K hH36
            refine wpAnyH_ready (rs := [10]) (by kernel_rfl) (by simp) ?_
            refine AllReadyH.cons rfl (fun K hK => ?_) ?_
            · go_simp
              refine hK.out _ _ ?_ (fun hH39 => ?_)
              · (try dsimp only)
                (try trivial)
              clear hK K hH38
              refine wpAnyH_ready (rs := [11]) (by kernel_rfl) (by simp) ?_
              refine AllReadyH.cons rfl (fun K hK => ?_) ?_
              · have XC : Hid (DS q a len cap f w [.string ⟨#[]⟩, .string ⟨#[]⟩, .int .i64 0, .string ⟨#[]⟩] 3 ((w3.alloc (.cells #[.int .i64 2048, .int .i64 2054] 3)).alloc (.cells #[.string ⟨#[]⟩, .string ⟨#[98, 111, 100, 121]⟩, .string ⟨#[97, 98, 99]⟩] 9))) := (DS.alloc (DS.alloc X3.out _) _)
                have bS : Boxed ((w3.alloc (.cells #[.int .i64 2048, .int .i64 2054] 3)).alloc (.cells #[.string ⟨#[]⟩, .string ⟨#[98, 111, 100, 121]⟩, .string ⟨#[97, 98, 99]⟩] 9)) (w3.heap.size + 1) [.string ⟨#[]⟩, .string ⟨#[98, 111, 100, 121]⟩, .string ⟨#[97, 98, 99]⟩] := (box_b w3 [.string ⟨#[]⟩, .string ⟨#[98, 111, 100, 121]⟩, .string ⟨#[97, 98, 99]⟩] _ _ _ (by simp))
                go_simp
                refine (pick_ds (by omega) (w3.heap.size + 1) _ _ _ _ XC bS (by omega)).mono ?_
                rintro e w4 ⟨bb, rfl, hbb, Y4⟩
                have HB4 : Hid (bb = ⟨#[]⟩ ∨ bb = ⟨#[98, 111, 100, 121]⟩ ∨ bb = ⟨#[97, 98, 99]⟩) := hbb
                clear hbb bS
                have BI4 : Hid (Boxed w4 (w3.heap.size) [.int .i64 2048, .int .i64 2054]) := kept_box Y4.out.2 (box_ab w3 [.int .i64 2048, .int .i64 2054] _ _ _ (by simp)) (by omega) (by first | omega | (simp; done) | (simp; omega))
                have BS4 : Hid (Boxed w4 (w3.heap.size + 1) [.string ⟨#[]⟩, .string ⟨#[98, 111, 100, 121]⟩, .string ⟨#[97, 98, 99]⟩]) := kept_box Y4.out.2 (box_b w3 [.string ⟨#[]⟩, .string ⟨#[98, 111, 100, 121]⟩, .string ⟨#[97, 98, 99]⟩] _ _ _ (by simp)) (by omega) (by first | omega | (simp; done) | (simp; omega))
                have X4 : Hid (DS q a len cap f w [.string ⟨#[]⟩, .string ⟨#[]⟩, .int .i64 0, .string ⟨#[]⟩] 4 w4) := Y4.out.1
                have z4 := X4.out.lt
                have zz4 : w3.heap.size + 2 ≤ w4.heap.size := by have := Y4.out.2.size; simpa using this
                clear Y4 XC
                go_wp2_with fail
                refine hK.out _ _ ?_ (fun hH40 => ?_)
                · (try dsimp only)
                  (try trivial)
                clear hK K hH39
                refine wpAnyH_take (i := 12) (v := ?v41) rfl (by kernel_rfl) (by kernel_rfl) (by kernel_rfl) (fun _ _ _ h => h) (Or.inl ⟨by rfl, ?hy41⟩) (by assumption) ?rest41
                case hy41 => (intro w hSw; (try dsimp only at hSw); go_simp; (try with_reducible rfl))
                refine wpAnyH_ready (rs := [13]) (by kernel_rfl) (by simp) ?_
                refine AllReadyH.cons rfl (fun K hK => ?_) ?_
                · have XF : Hid (DS q a len cap f w [.string ⟨#[]⟩, .string ⟨#[]⟩, .int .i64 0, .string ⟨#[]⟩] 4 w4) := X4.out
                  have k0 := XF.out.box.1.at 0 _ rfl
                  have y0 := XF.out.box.2 0
                  have k1 := XF.out.box.1.at 1 _ rfl
                  have y1 := XF.out.box.2 1
                  have k2 := XF.out.box.1.at 2 _ rfl
                  have y2 := XF.out.box.2 2
                  have k3 := XF.out.box.1.at 3 _ rfl
                  have y3 := XF.out.box.2 3
                  go_simp
                  refine hK.out _ _ ?_ (fun hH42 => ?_)
                  · (try dsimp only)
                    (try trivial)
                  clear hK K hH40
                  refine wpAnyH_done (by kernel_rfl) ?_ _
                  clear hH42
                  go_wp2
                  (try simp only [Exit.inBlock, Exit.then])
                  refine bodyPost_ret (v := .agg #[.string d1, .string d2, .int .i64 (kf nn), .string bb]) (by simp [results, Try.results26, go_sem, *]; try rfl) rfl ?_
                  exact ⟨d1, d2, kf nn, bb, rfl, HD1.out, HD2.out, kf_or nn, tx_le HB4.out, by first | exact gr_sets4 XF.out.gr | exact grown_alloc (gr_sets4 XB.out.gr) _⟩
                exact AllReadyH.nil
              exact AllReadyH.nil
            exact AllReadyH.nil
          refine AllReadyH.cons rfl (fun K hK => ?_) ?_
          · go_simp
            refine hK.out _ _ ?_ (fun hH43 => ?_)
            · (try dsimp only)
              (try trivial)
            clear hK K hH36
            refine wpAnyH_ready (rs := [8, 11]) (by kernel_rfl) (by simp) ?_
            refine AllReadyH.cons rfl (fun K hK => ?_) ?_
            · have cN : ((w3.alloc (.cells #[.int .i64 2048, .int .i64 2054] 3)).alloc (.cells #[.string ⟨#[]⟩, .string ⟨#[98, 111, 100, 121]⟩, .string ⟨#[97, 98, 99]⟩] 9)).cell? ⟨w3.heap.size, nn, none⟩ = some (.int .i64 (kf nn)) := pickI (box_ab w3 [.int .i64 2048, .int .i64 2054] _ _ _ (by simp)) nn hnn
              go_simp
              refine hK.out _ _ ?_ (fun hH44 => ?_)
              · (try dsimp only)
                (try trivial)
              clear hK K hH43
              refine wpAnyH_ready (rs := [11]) (by kernel_rfl) (by simp) ?_
              refine AllReadyH.cons rfl (fun K hK => ?_) ?_
              · have XC : Hid (DS q a len cap f w [.string ⟨#[]⟩, .string ⟨#[]⟩, .int .i64 0, .string ⟨#[]⟩] 3 ((w3.alloc (.cells #[.int .i64 2048, .int .i64 2054] 3)).alloc (.cells #[.string ⟨#[]⟩, .string ⟨#[98, 111, 100, 121]⟩, .string ⟨#[97, 98, 99]⟩] 9))) := (DS.alloc (DS.alloc X3.out _) _)
                have bS : Boxed ((w3.alloc (.cells #[.int .i64 2048, .int .i64 2054] 3)).alloc (.cells #[.string ⟨#[]⟩, .string ⟨#[98, 111, 100, 121]⟩, .string ⟨#[97, 98, 99]⟩] 9)) (w3.heap.size + 1) [.string ⟨#[]⟩, .string ⟨#[98, 111, 100, 121]⟩, .string ⟨#[97, 98, 99]⟩] := (box_b w3 [.string ⟨#[]⟩, .string ⟨#[98, 111, 100, 121]⟩, .string ⟨#[97, 98, 99]⟩] _ _ _ (by simp))
                go_simp
                refine (pick_ds (by omega) (w3.heap.size + 1) _ _ _ _ XC bS (by omega)).mono ?_
                rintro e w4 ⟨bb, rfl, hbb, Y4⟩
                have HB4 : Hid (bb = ⟨#[]⟩ ∨ bb = ⟨#[98, 111, 100, 121]⟩ ∨ bb = ⟨#[97, 98, 99]⟩) := hbb
                clear hbb bS
                have BI4 : Hid (Boxed w4 (w3.heap.size) [.int .i64 2048, .int .i64 2054]) := kept_box Y4.out.2 (box_ab w3 [.int .i64 2048, .int .i64 2054] _ _ _ (by simp)) (by omega) (by first | omega | (simp; done) | (simp; omega))
                have BS4 : Hid (Boxed w4 (w3.heap.size + 1) [.string ⟨#[]⟩, .string ⟨#[98, 111, 100, 121]⟩, .string ⟨#[97, 98, 99]⟩]) := kept_box Y4.out.2 (box_b w3 [.string ⟨#[]⟩, .string ⟨#[98, 111, 100, 121]⟩, .string ⟨#[97, 98, 99]⟩] _ _ _ (by simp)) (by omega) (by first | omega | (simp; done) | (simp; omega))
                have X4 : Hid (DS q a len cap f w [.string ⟨#[]⟩, .string ⟨#[]⟩, .int .i64 0, .string ⟨#[]⟩] 4 w4) := Y4.out.1
                have z4 := X4.out.lt
                have zz4 : w3.heap.size + 2 ≤ w4.heap.size := by have := Y4.out.2.size; simpa using this
                clear Y4 XC
                go_wp2_with fail
                refine hK.out _ _ ?_ (fun hH45 => ?_)
                · (try dsimp only)
                  (try trivial)
                clear hK K hH44
                refine wpAnyH_take (i := 12) (v := ?v46) rfl (by kernel_rfl) (by kernel_rfl) (by kernel_rfl) (fun _ _ _ h => h) (Or.inl ⟨by rfl, ?hy46⟩) (by assumption) ?rest46
                case hy46 => (intro w hSw; (try dsimp only at hSw); go_simp; (try with_reducible rfl))
                refine wpAnyH_ready (rs := [13]) (by kernel_rfl) (by simp) ?_
                refine AllReadyH.cons rfl (fun K hK => ?_) ?_
                · have XF : Hid (DS q a len cap f w [.string ⟨#[]⟩, .string ⟨#[]⟩, .int .i64 0, .string ⟨#[]⟩] 4 w4) := X4.out
                  have k0 := XF.out.box.1.at 0 _ rfl
                  have y0 := XF.out.box.2 0
                  have k1 := XF.out.box.1.at 1 _ rfl
                  have y1 := XF.out.box.2 1
                  have k2 := XF.out.box.1.at 2 _ rfl
                  have y2 := XF.out.box.2 2
                  have k3 := XF.out.box.1.at 3 _ rfl
                  have y3 := XF.out.box.2 3
                  go_simp
                  refine hK.out _ _ ?_ (fun hH47 => ?_)
                  · (try dsimp only)
                    (try trivial)
                  clear hK K hH45
                  refine wpAnyH_done (by kernel_rfl) ?_ _
                  clear hH47
                  go_wp2
                  (try simp only [Exit.inBlock, Exit.then])
                  refine bodyPost_ret (v := .agg #[.string d1, .string d2, .int .i64 (kf nn), .string bb]) (by simp [results, Try.results26, go_sem, *]; try rfl) rfl ?_
                  exact ⟨d1, d2, kf nn, bb, rfl, HD1.out, HD2.out, kf_or nn, tx_le HB4.out, by first | exact gr_sets4 XF.out.gr | exact grown_alloc (gr_sets4 XB.out.gr) _⟩
                exact AllReadyH.nil
              exact AllReadyH.nil
            refine AllReadyH.cons rfl (fun K hK => ?_) ?_
            · have XC : Hid (DS q a len cap f w [.string ⟨#[]⟩, .string ⟨#[]⟩, .int .i64 0, .string ⟨#[]⟩] 3 ((w3.alloc (.cells #[.int .i64 2048, .int .i64 2054] 3)).alloc (.cells #[.string ⟨#[]⟩, .string ⟨#[98, 111, 100, 121]⟩, .string ⟨#[97, 98, 99]⟩] 9))) := (DS.alloc (DS.alloc X3.out _) _)
              have bS : Boxed ((w3.alloc (.cells #[.int .i64 2048, .int .i64 2054] 3)).alloc (.cells #[.string ⟨#[]⟩, .string ⟨#[98, 111, 100, 121]⟩, .string ⟨#[97, 98, 99]⟩] 9)) (w3.heap.size + 1) [.string ⟨#[]⟩, .string ⟨#[98, 111, 100, 121]⟩, .string ⟨#[97, 98, 99]⟩] := (box_b w3 [.string ⟨#[]⟩, .string ⟨#[98, 111, 100, 121]⟩, .string ⟨#[97, 98, 99]⟩] _ _ _ (by simp))
              go_simp
              refine (pick_ds (by omega) (w3.heap.size + 1) _ _ _ _ XC bS (by omega)).mono ?_
              rintro e w4 ⟨bb, rfl, hbb, Y4⟩
              have HB4 : Hid (bb = ⟨#[]⟩ ∨ bb = ⟨#[98, 111, 100, 121]⟩ ∨ bb = ⟨#[97, 98, 99]⟩) := hbb
              clear hbb bS
              have BI4 : Hid (Boxed w4 (w3.heap.size) [.int .i64 2048, .int .i64 2054]) := kept_box Y4.out.2 (box_ab w3 [.int .i64 2048, .int .i64 2054] _ _ _ (by simp)) (by omega) (by first | omega | (simp; done) | (simp; omega))
              have BS4 : Hid (Boxed w4 (w3.heap.size + 1) [.string ⟨#[]⟩, .string ⟨#[98, 111, 100, 121]⟩, .string ⟨#[97, 98, 99]⟩]) := kept_box Y4.out.2 (box_b w3 [.string ⟨#[]⟩, .string ⟨#[98, 111, 100, 121]⟩, .string ⟨#[97, 98, 99]⟩] _ _ _ (by simp)) (by omega) (by first | omega | (simp; done) | (simp; omega))
              have X4 : Hid (DS q a len cap f w [.string ⟨#[]⟩, .string ⟨#[]⟩, .int .i64 0, .string ⟨#[]⟩] 4 w4) := Y4.out.1
              have z4 := X4.out.lt
              have zz4 : w3.heap.size + 2 ≤ w4.heap.size := by have := Y4.out.2.size; simpa using this
              clear Y4 XC
              go_wp2_with fail
              refine hK.out _ _ ?_ (fun hH48 => ?_)
              · (try dsimp only)
                (try trivial)
              clear hK K hH43
              refine wpAnyH_ready (rs := [8]) (by kernel_rfl) (by simp) ?_
              refine AllReadyH.cons rfl (fun K hK => ?_) ?_
              · have cN : w4.cell? ⟨w3.heap.size, nn, none⟩ = some (.int .i64 (kf nn)) := pickI BI4.out nn hnn
                go_simp
                refine hK.out _ _ ?_ (fun hH49 => ?_)
                · (try dsimp only)
                  (try trivial)
                clear hK K hH48
                refine wpAnyH_take (i := 12) (v := ?v50) rfl (by kernel_rfl) (by kernel_rfl) (by kernel_rfl) (fun _ _ _ h => h) (Or.inl ⟨by rfl, ?hy50⟩) (by assumption) ?rest50
                case hy50 => (intro w hSw; (try dsimp only at hSw); go_simp; (try with_reducible rfl))
                refine wpAnyH_ready (rs := [13]) (by kernel_rfl) (by simp) ?_
                refine AllReadyH.cons rfl (fun K hK => ?_) ?_
                · have XF : Hid (DS q a len cap f w [.string ⟨#[]⟩, .string ⟨#[]⟩, .int .i64 0, .string ⟨#[]⟩] 4 w4) := X4.out
                  have k0 := XF.out.box.1.at 0 _ rfl
                  have y0 := XF.out.box.2 0
                  have k1 := XF.out.box.1.at 1 _ rfl
                  have y1 := XF.out.box.2 1
                  have k2 := XF.out.box.1.at 2 _ rfl
                  have y2 := XF.out.box.2 2
                  have k3 := XF.out.box.1.at 3 _ rfl
                  have y3 := XF.out.box.2 3
                  go_simp
                  refine hK.out _ _ ?_ (fun hH51 => ?_)
                  · (try dsimp only)
                    (try trivial)
                  clear hK K hH49
                  refine wpAnyH_done (by kernel_rfl) ?_ _
                  clear hH51
                  go_wp2
                  (try simp only [Exit.inBlock, Exit.then])
                  refine bodyPost_ret (v := .agg #[.string d1, .string d2, .int .i64 (kf nn), .string bb]) (by simp [results, Try.results26, go_sem, *]; try rfl) rfl ?_
                  exact ⟨d1, d2, kf nn, bb, rfl, HD1.out, HD2.out, kf_or nn, tx_le HB4.out, by first | exact gr_sets4 XF.out.gr | exact grown_alloc (gr_sets4 XB.out.gr) _⟩
                exact AllReadyH.nil
              exact AllReadyH.nil
            exact AllReadyH.nil
          exact AllReadyH.nil
        refine AllReadyH.cons rfl (fun K hK => ?_) ?_
        · go_simp
          refine hK.out _ _ ?_ (fun hH52 => ?_)
          · (try dsimp only)
            (try trivial)
          clear hK K hH35
          refine wpAnyH_ready (rs := [4, 11]) (by kernel_rfl) (by simp) ?_
          refine AllReadyH.cons rfl (fun K hK => ?_) ?_
          · go_simp
            refine hK.out _ _ ?_ (fun hH53 => ?_)
            · (try dsimp only)
              (try trivial)
            clear hK K hH52
            refine wpAnyH_take (i := 7) (v := ?v54) rfl (by kernel_rfl) (by kernel_rfl) (by kernel_rfl) (fun _ _ _ h => h) (Or.inl ⟨by rfl, ?hy54⟩) (by assumption) ?rest54
            case hy54 => (intro w hSw; (try dsimp only at hSw); go_simp; (try with_reducible rfl))
            refine wpAnyH_ready (rs := [8, 11]) (by kernel_rfl) (by simp) ?_
            refine AllReadyH.cons rfl (fun K hK => ?_) ?_
            · have cN : ((w3.alloc (.cells #[.string ⟨#[]⟩, .string ⟨#[98, 111, 100, 121]⟩, .string ⟨#[97, 98, 99]⟩] 9)).alloc (.cells #[.int .i64 2048, .int .i64 2054] 3)).cell? ⟨w3.heap.size + 1, nn, none⟩ = some (.int .i64 (kf nn)) := pickI (box_b w3 [.int .i64 2048, .int .i64 2054] _ _ _ (by simp)) nn hnn
              go_simp
              refine hK.out _ _ ?_ (fun hH55 => ?_)
              · (try dsimp only)
                (try trivial)
              clear hK K hH53
              refine wpAnyH_ready (rs := [11]) (by kernel_rfl) (by simp) ?_
              refine AllReadyH.cons rfl (fun K hK => ?_) ?_
              · have XC : Hid (DS q a len cap f w [.string ⟨#[]⟩, .string ⟨#[]⟩, .int .i64 0, .string ⟨#[]⟩] 3 ((w3.alloc (.cells #[.string ⟨#[]⟩, .string ⟨#[98, 111, 100, 121]⟩, .string ⟨#[97, 98, 99]⟩] 9)).alloc (.cells #[.int .i64 2048, .int .i64 2054] 3))) := (DS.alloc (DS.alloc X3.out _) _)
                have bS : Boxed ((w3.alloc (.cells #[.string ⟨#[]⟩, .string ⟨#[98, 111, 100, 121]⟩, .string ⟨#[97, 98, 99]⟩] 9)).alloc (.cells #[.int .i64 2048, .int .i64 2054] 3)) (w3.heap.size) [.string ⟨#[]⟩, .string ⟨#[98, 111, 100, 121]⟩, .string ⟨#[97, 98, 99]⟩] := (box_ab w3 [.string ⟨#[]⟩, .string ⟨#[98, 111, 100, 121]⟩, .string ⟨#[97, 98, 99]⟩] _ _ _ (by simp))
                go_simp
                refine (pick_ds (by omega) (w3.heap.size) _ _ _ _ XC bS (by omega)).mono ?_
                rintro e w4 ⟨bb, rfl, hbb, Y4⟩
                have HB4 : Hid (bb = ⟨#[]⟩ ∨ bb = ⟨#[98, 111, 100, 121]⟩ ∨ bb = ⟨#[97, 98, 99]⟩) := hbb
                clear hbb bS
                have BS4 : Hid (Boxed w4 (w3.heap.size) [.string ⟨#[]⟩, .string ⟨#[98, 111, 100, 121]⟩, .string ⟨#[97, 98, 99]⟩]) := kept_box Y4.out.2 (box_ab w3 [.string ⟨#[]⟩, .string ⟨#[98, 111, 100, 121]⟩, .string ⟨#[97, 98, 99]⟩] _ _ _ (by simp)) (by omega) (by first | omega | (simp; done) | (simp; omega))
                have BI4 : Hid (Boxed w4 (w3.heap.size + 1) [.int .i64 2048, .int .i64 2054]) := kept_box Y4.out.2 (box_b w3 [.int .i64 2048, .int .i64 2054] _ _ _ (by simp)) (by omega) (by first | omega | (simp; done) | (simp; omega))
                have X4 : Hid (DS q a len cap f w [.string ⟨#[]⟩, .string ⟨#[]⟩, .int .i64 0, .string ⟨#[]⟩] 4 w4) := Y4.out.1
                have z4 := X4.out.lt
                have zz4 : w3.heap.size + 2 ≤ w4.heap.size := by have := Y4.out.2.size; simpa using this
                clear Y4 XC
                go_wp2_with fail
                refine hK.out _ _ ?_ (fun hH56 => ?_)
                · (try dsimp only)
                  (try trivial)
                clear hK K hH55
                refine wpAnyH_take (i := 12) (v := ?v57) rfl (by kernel_rfl) (by kernel_rfl) (by kernel_rfl) (fun _ _ _ h => h) (Or.inl ⟨by rfl, ?hy57⟩) (by assumption) ?rest57
                case hy57 => (intro w hSw; (try dsimp only at hSw); go_simp; (try with_reducible rfl))
                refine wpAnyH_ready (rs := [13]) (by kernel_rfl) (by simp) ?_
                refine AllReadyH.cons rfl (fun K hK => ?_) ?_
                · have XF : Hid (DS q a len cap f w [.string ⟨#[]⟩, .string ⟨#[]⟩, .int .i64 0, .string ⟨#[]⟩] 4 w4) := X4.out
                  have k0 := XF.out.box.1.at 0 _ rfl
                  have y0 := XF.out.box.2 0
                  have k1 := XF.out.box.1.at 1 _ rfl
                  have y1 := XF.out.box.2 1
                  have k2 := XF.out.box.1.at 2 _ rfl
                  have y2 := XF.out.box.2 2
                  have k3 := XF.out.box.1.at 3 _ rfl
                  have y3 := XF.out.box.2 3
                  go_simp
                  refine hK.out _ _ ?_ (fun hH58 => ?_)
                  · (try dsimp only)
                    (try trivial)
                  clear hK K hH56
                  refine wpAnyH_done (by kernel_rfl) ?_ _
                  clear hH58
                  go_wp2
                  (try simp only [Exit.inBlock, Exit.then])
                  refine bodyPost_ret (v := .agg #[.string d1, .string d2, .int .i64 (kf nn), .string bb]) (by simp [results, Try.results26, go_sem, *]; try rfl) rfl ?_
                  exact ⟨d1, d2, kf nn, bb, rfl, HD1.out, HD2.out, kf_or nn, tx_le HB4.out, by first | exact gr_sets4 XF.out.gr | exact grown_alloc (gr_sets4 XB.out.gr) _⟩
                exact AllReadyH.nil
              exact AllReadyH.nil
            refine AllReadyH.cons rfl (fun K hK => ?_) ?_
            · have XC : Hid (DS q a len cap f w [.string ⟨#[]⟩, .string ⟨#[]⟩, .int .i64 0, .string ⟨#[]⟩] 3 ((w3.alloc (.cells #[.string ⟨#[]⟩, .string ⟨#[98, 111, 100, 121]⟩, .string ⟨#[97, 98, 99]⟩] 9)).alloc (.cells #[.int .i64 2048, .int .i64 2054] 3))) := (DS.alloc (DS.alloc X3.out _) _)
              have bS : Boxed ((w3.alloc (.cells #[.string ⟨#[]⟩, .string ⟨#[98, 111, 100, 121]⟩, .string ⟨#[97, 98, 99]⟩] 9)).alloc (.cells #[.int .i64 2048, .int .i64 2054] 3)) (w3.heap.size) [.string ⟨#[]⟩, .string ⟨#[98, 111, 100, 121]⟩, .string ⟨#[97, 98, 99]⟩] := (box_ab w3 [.string ⟨#[]⟩, .string ⟨#[98, 111, 100, 121]⟩, .string ⟨#[97, 98, 99]⟩] _ _ _ (by simp))
              go_simp
              refine (pick_ds (by omega) (w3.heap.size) _ _ _ _ XC bS (by omega)).mono ?_
              rintro e w4 ⟨bb, rfl, hbb, Y4⟩
              have HB4 : Hid (bb = ⟨#[]⟩ ∨ bb = ⟨#[98, 111, 100, 121]⟩ ∨ bb = ⟨#[97, 98, 99]⟩) := hbb
              clear hbb bS
              have BS4 : Hid (Boxed w4 (w3.heap.size) [.string ⟨#[]⟩, .string ⟨#[98, 111, 100, 121]⟩, .string ⟨#[97, 98, 99]⟩]) := kept_box Y4.out.2 (box_ab w3 [.string ⟨#[]⟩, .string ⟨#[98, 111, 100, 121]⟩, .string ⟨#[97, 98, 99]⟩] _ _ _ (by simp)) (by omega) (by first | omega | (simp; done) | (simp; omega))
              have BI4 : Hid (Boxed w4 (w3.heap.size + 1) [.int .i64 2048, .int .i64 2054]) := kept_box Y4.out.2 (box_b w3 [.int .i64 2048, .int .i64 2054] _ _ _ (by simp)) (by omega) (by first | omega | (simp; done) | (simp; omega))
              have X4 : Hid (DS q a len cap f w [.string ⟨#[]⟩, .string ⟨#[]⟩, .int .i64 0, .string ⟨#[]⟩] 4 w4) := Y4.out.1
              have z4 := X4.out.lt
              have zz4 : w3.heap.size + 2 ≤ w4.heap.size := by have := Y4.out.2.size; simpa using this
              clear Y4 XC
              go_wp2_with fail
              refine hK.out _ _ ?_ (fun hH59 => ?_)
              · (try dsimp only)
                (try trivial)
              clear hK K hH53
              refine wpAnyH_ready (rs := [8]) (by kernel_rfl) (by simp) ?_
              refine AllReadyH.cons rfl (fun K hK => ?_) ?_
              · have cN : w4.cell? ⟨w3.heap.size + 1, nn, none⟩ = some (.int .i64 (kf nn)) := pickI BI4.out nn hnn
                go_simp
                refine hK.out _ _ ?_ (fun hH60 => ?_)
                · (try dsimp only)
                  (try trivial)
                clear hK K hH59
                refine wpAnyH_take (i := 12) (v := ?v61) rfl (by kernel_rfl) (by kernel_rfl) (by kernel_rfl) (fun _ _ _ h => h) (Or.inl ⟨by rfl, ?hy61⟩) (by assumption) ?rest61
                case hy61 => (intro w hSw; (try dsimp only at hSw); go_simp; (try with_reducible rfl))
                refine wpAnyH_ready (rs := [13]) (by kernel_rfl) (by simp) ?_
                refine AllReadyH.cons rfl (fun K hK => ?_) ?_
                · have XF : Hid (DS q a len cap f w [.string ⟨#[]⟩, .string ⟨#[]⟩, .int .i64 0, .string ⟨#[]⟩] 4 w4) := X4.out
                  have k0 := XF.out.box.1.at 0 _ rfl
                  have y0 := XF.out.box.2 0
                  have k1 := XF.out.box.1.at 1 _ rfl
                  have y1 := XF.out.box.2 1
                  have k2 := XF.out.box.1.at 2 _ rfl
                  have y2 := XF.out.box.2 2
                  have k3 := XF.out.box.1.at 3 _ rfl
                  have y3 := XF.out.box.2 3
                  go_simp
                  refine hK.out _ _ ?_ (fun hH62 => ?_)
                  · (try dsimp only)
                    (try trivial)
                  clear hK K hH60
                  refine wpAnyH_done (by kernel_rfl) ?_ _
                  clear hH62
                  go_wp2
                  (try simp only [Exit.inBlock, Exit.then])
                  refine bodyPost_ret (v := .agg #[.string d1, .string d2, .int .i64 (kf nn), .string bb]) (by simp [results, Try.results26, go_sem, *]; try rfl) rfl ?_
                  exact ⟨d1, d2, kf nn, bb, rfl, HD1.out, HD2.out, kf_or nn, tx_le HB4.out, by first | exact gr_sets4 XF.out.gr | exact grown_alloc (gr_sets4 XB.out.gr) _⟩
                exact AllReadyH.nil
              exact AllReadyH.nil
            exact AllReadyH.nil
          refine AllReadyH.cons rfl (fun K hK => ?_) ?_
          · have XC : Hid (DS q a len cap f w [.string ⟨#[]⟩, .string ⟨#[]⟩, .int .i64 0, .string ⟨#[]⟩] 3 (w3.alloc (.cells #[.string ⟨#[]⟩, .string ⟨#[98, 111, 100, 121]⟩, .string ⟨#[97, 98, 99]⟩] 9))) := (DS.alloc X3.out _)
            have bS : Boxed (w3.alloc (.cells #[.string ⟨#[]⟩, .string ⟨#[98, 111, 100, 121]⟩, .string ⟨#[97, 98, 99]⟩] 9)) (w3.heap.size) [.string ⟨#[]⟩, .string ⟨#[98, 111, 100, 121]⟩, .string ⟨#[97, 98, 99]⟩] := (box_a w3 [.string ⟨#[]⟩, .string ⟨#[98, 111, 100, 121]⟩, .string ⟨#[97, 98, 99]⟩] _ _ (by simp))
            go_simp
            refine (pick_ds (by omega) (w3.heap.size) _ _ _ _ XC bS (by omega)).mono ?_
            rintro e w4 ⟨bb, rfl, hbb, Y4⟩
            have HB4 : Hid (bb = ⟨#[]⟩ ∨ bb = ⟨#[98, 111, 100, 121]⟩ ∨ bb = ⟨#[97, 98, 99]⟩) := hbb
            clear hbb bS
            have BS4 : Hid (Boxed w4 (w3.heap.size) [.string ⟨#[]⟩, .string ⟨#[98, 111, 100, 121]⟩, .string ⟨#[97, 98, 99]⟩]) := kept_box Y4.out.2 (box_a w3 [.string ⟨#[]⟩, .string ⟨#[98, 111, 100, 121]⟩, .string ⟨#[97, 98, 99]⟩] _ _ (by simp)) (by omega) (by first | omega | (simp; done) | (simp; omega))
            have X4 : Hid (DS q a len cap f w [.string ⟨#[]⟩, .string ⟨#[]⟩, .int .i64 0, .string ⟨#[]⟩] 4 w4) := Y4.out.1
            have z4 := X4.out.lt
            have zz4 : w3.heap.size + 1 ≤ w4.heap.size := by have := Y4.out.2.size; simpa using this
            clear Y4 XC
            go_wp2_with fail
            refine hK.out _ _ ?_ (fun hH63 => ?_)
            · (try dsimp only)
              (try trivial)
            clear hK K hH52
            refine wpAnyH_ready (rs := [4]) (by kernel_rfl) (by simp) ?_
            refine AllReadyH.cons rfl (fun K hK => ?_) ?_
            · go_simp
              refine hK.out _ _ ?_ (fun hH64 => ?_)
              · (try dsimp only)
                (try trivial)
              clear hK K hH63
              refine wpAnyH_take (i := 7) (v := ?v65) rfl (by kernel_rfl) (by kernel_rfl) (by kernel_rfl) (fun _ _ _ h => h) (Or.inl ⟨by rfl, ?hy65⟩) (by assumption) ?rest65
              case hy65 => (intro w hSw; (try dsimp only at hSw); go_simp; (try with_reducible rfl))
              refine wpAnyH_ready (rs := [8]) (by kernel_rfl) (by simp) ?_
              refine AllReadyH.cons rfl (fun K hK => ?_) ?_
              · have cN : (w4.alloc (.cells #[.int .i64 2048, .int .i64 2054] 3)).cell? ⟨w4.heap.size, nn, none⟩ = some (.int .i64 (kf nn)) := pickI (box_a w4 [.int .i64 2048, .int .i64 2054] _ _ (by simp)) nn hnn
                go_simp
                refine hK.out _ _ ?_ (fun hH66 => ?_)
                · (try dsimp only)
                  (try trivial)
                clear hK K hH64
                refine wpAnyH_take (i := 12) (v := ?v67) rfl (by kernel_rfl) (by kernel_rfl) (by kernel_rfl) (fun _ _ _ h => h) (Or.inl ⟨by rfl, ?hy67⟩) (by assumption) ?rest67
                case hy67 => (intro w hSw; (try dsimp only at hSw); go_simp; (try with_reducible rfl))
                refine wpAnyH_ready (rs := [13]) (by kernel_rfl) (by simp) ?_
                refine AllReadyH.cons rfl (fun K hK => ?_) ?_
                · have XF : Hid (DS q a len cap f w [.string ⟨#[]⟩, .string ⟨#[]⟩, .int .i64 0, .string ⟨#[]⟩] 4 (w4.alloc (.cells #[.int .i64 2048, .int .i64 2054] 3))) := (DS.alloc X4.out _)
                  have k0 := XF.out.box.1.at 0 _ rfl
                  have y0 := XF.out.box.2 0
                  have k1 := XF.out.box.1.at 1 _ rfl
                  have y1 := XF.out.box.2 1
                  have k2 := XF.out.box.1.at 2 _ rfl
                  have y2 := XF.out.box.2 2
                  have k3 := XF.out.box.1.at 3 _ rfl
                  have y3 := XF.out.box.2 3
                  have XB : Hid (DS q a len cap f w [.string ⟨#[]⟩, .string ⟨#[]⟩, .int .i64 0, .string ⟨#[]⟩] 4 w4) := X4.out
                  have nne : w4.heap.size ≠ w.heap.size := by omega
                  have kb0 := XB.out.box.1.at 0 _ rfl
                  have yb0 := XB.out.box.2 0
                  have kb1 := XB.out.box.1.at 1 _ rfl
                  have yb1 := XB.out.box.2 1
                  have kb2 := XB.out.box.1.at 2 _ rfl
                  have yb2 := XB.out.box.2 2
                  have kb3 := XB.out.box.1.at 3 _ rfl
                  have yb3 := XB.out.box.2 3
                  go_simp
                  refine hK.out _ _ ?_ (fun hH68 => ?_)
                  · (try dsimp only)
                    (try trivial)
                  clear hK K hH66
                  refine wpAnyH_done (by kernel_rfl) ?_ _
                  clear hH68
                  go_wp2
                  (try simp only [Exit.inBlock, Exit.then])
                  refine bodyPost_ret (v := .agg #[.string d1, .string d2, .int .i64 (kf nn), .string bb]) (by simp [results, Try.results26, go_sem, *]; try rfl) rfl ?_
                  exact ⟨d1, d2, kf nn, bb, rfl, HD1.out, HD2.out, kf_or nn, tx_le HB4.out, by first | exact gr_sets4 XF.out.gr | exact grown_alloc (gr_sets4 XB.out.gr) _⟩
                exact AllReadyH.nil
              exact AllReadyH.nil
            exact AllReadyH.nil
          exact AllReadyH.nil
        exact AllReadyH.nil
      refine AllReadyH.cons rfl (fun K hK => ?_) ?_
      · go_simp
        refine hK.out _ _ ?_ (fun hH69 => ?_)
        · (try dsimp only)
          (try trivial)
        clear hK K hH6
        refine wpAnyH_ready (rs := [4, 6]) (by kernel_rfl) (by simp) ?_
        refine AllReadyH.cons rfl (fun K hK => ?_) ?_
        · go_simp
          refine hK.out _ _ ?_ (fun hH70 => ?_)
          · (try dsimp only)
            (try trivial)
          clear hK K hH69
          refine wpAnyH_ready (rs := [6]) (by kernel_rfl) (by simp) ?_
          refine AllReadyH.cons rfl (fun K hK => ?_) ?_
          · have XC : Hid (DS q a len cap f w [.string ⟨#[]⟩, .string ⟨#[]⟩, .int .i64 0, .string ⟨#[]⟩] 2 ((w2.alloc (.cells #[.string ⟨#[]⟩, .string ⟨#[98, 111, 100, 121]⟩, .string ⟨#[97, 98, 99]⟩] 9)).alloc (.cells #[.int .i64 2048, .int .i64 2054] 3))) := (DS.alloc (DS.alloc X2.out _) _)
            go_simp
            refine (next_ds 2 (by omega) (by omega) (by omega) _ XC).mono ?_
            rintro e w3 ⟨vv, rfl, v0, v1, Y3⟩
            obtain ⟨nn, rfl⟩ := Int.eq_ofNat_of_zero_le v0
            have hnn : nn < 2 := by omega
            have BS3 : Hid (Boxed w3 (w2.heap.size) [.string ⟨#[]⟩, .string ⟨#[98, 111, 100, 121]⟩, .string ⟨#[97, 98, 99]⟩]) := kept_box Y3.out.2 (box_ab w2 [.string ⟨#[]⟩, .string ⟨#[98, 111, 100, 121]⟩, .string ⟨#[97, 98, 99]⟩] _ _ _ (by simp)) (by omega) (by first | omega | (simp; done) | (simp; omega))
            have BI3 : Hid (Boxed w3 (w2.heap.size + 1) [.int .i64 2048, .int .i64 2054]) := kept_box Y3.out.2 (box_b w2 [.int .i64 2048, .int .i64 2054] _ _ _ (by simp)) (by omega) (by first | omega | (simp; done) | (simp; omega))
            have X3 : Hid (DS q a len cap f w [.string ⟨#[]⟩, .string ⟨#[]⟩, .int .i64 0, .string ⟨#[]⟩] 3 w3) := Y3.out.1
            have z3 := X3.out.lt
            have zz3 : w2.heap.size + 2 ≤ w3.heap.size := by have := Y3.out.2.size; simpa using this
            clear Y3 XC
            go_wp2_with fail
            refine hK.out _ _ ?_ (fun hH71 => ?_)
            · (try dsimp only)
              (try trivial)
            clear hK K hH70
            refine wpAnyH_take (i := 7) (v := ?v72) rfl (by kernel_rfl) (by kernel_rfl) (by kernel_rfl) (fun _ _ _ h => h) (Or.inl ⟨by rfl, ?hy72⟩) (by assumption) ?rest72
            case hy72 => (intro w hSw; (try dsimp only at hSw); go_simp; (try with_reducible rfl))
            refine wpAnyH_ready (rs := [8, 11]) (by kernel_rfl) (by simp) ?_
            refine AllReadyH.cons rfl (fun K hK => ?_) ?_
            · have cN : w3.cell? ⟨w2.heap.size + 1, nn, none⟩ = some (.int .i64 (kf nn)) := pickI BI3.out nn hnn
              go_simp
              refine hK.out _ _ ?_ (fun hH73 => ?_)
              · (try dsimp only)
                (try trivial)
              clear hK K hH71
              refine wpAnyH_ready (rs := [11]) (by kernel_rfl) (by simp) ?_
              refine AllReadyH.cons rfl (fun K hK => ?_) ?_
              · have XC : Hid (DS q a len cap f w [.string ⟨#[]⟩, .string ⟨#[]⟩, .int .i64 0, .string ⟨#[]⟩] 3 w3) := X3.out
                have bS : Boxed w3 (w2.heap.size) [.string ⟨#[]⟩, .string ⟨#[98, 111, 100, 121]⟩, .string ⟨#[97, 98, 99]⟩] := BS3.out
                go_simp
                refine (pick_ds (by omega) (w2.heap.size) _ _ _ _ XC bS (by omega)).mono ?_
                rintro e w4 ⟨bb, rfl, hbb, Y4⟩
                have HB4 : Hid (bb = ⟨#[]⟩ ∨ bb = ⟨#[98, 111, 100, 121]⟩ ∨ bb = ⟨#[97, 98, 99]⟩) := hbb
                clear hbb bS
                have BS4 : Hid (Boxed w4 (w2.heap.size) [.string ⟨#[]⟩, .string ⟨#[98, 111, 100, 121]⟩, .string ⟨#[97, 98, 99]⟩]) := kept_box Y4.out.2 BS3.out (by omega) (by first | omega | (simp; done) | (simp; omega))
                have BI4 : Hid (Boxed w4 (w2.heap.size + 1) [.int .i64 2048, .int .i64 2054]) := kept_box Y4.out.2 BI3.out (by omega) (by first | omega | (simp; done) | (simp; omega))
                have X4 : Hid (DS q a len cap f w [.string ⟨#[]⟩, .string ⟨#[]⟩, .int .i64 0, .string ⟨#[]⟩] 4 w4) := Y4.out.1
                have z4 := X4.out.lt
                have zz4 : w3.heap.size + 0 ≤ w4.heap.size := by have := Y4.out.2.size; simpa using this
                clear Y4 XC
                go_wp2_with fail
                refine hK.out _ _ ?_ (fun hH74 => ?_)
                · (try dsimp only)
                  (try trivial)
                clear hK K hH73
                refine wpAnyH_take (i := 12) (v := ?v75) rfl (by kernel_rfl) (by kernel_rfl) (by kernel_rfl) (fun _ _ _ h => h) (Or.inl ⟨by rfl, ?hy75⟩) (by assumption) ?rest75
                case hy75 => (intro w hSw; (try dsimp only at hSw); go_simp; (try with_reducible rfl))
                refine wpAnyH_ready (rs := [13]) (by kernel_rfl) (by simp) ?_
                refine AllReadyH.cons rfl (fun K hK => ?_) ?_
                · have XF : Hid (DS q a len cap f w [.string ⟨#[]⟩, .string ⟨#[]⟩, .int .i64 0, .string ⟨#[]⟩] 4 w4) := X4.out
                  have k0 := XF.out.box.1.at 0 _ rfl
                  have y0 := XF.out.box.2 0
                  have k1 := XF.out.box.1.at 1 _ rfl
                  have y1 := XF.out.box.2 1
                  have k2 := XF.out.box.1.at 2 _ rfl
                  have y2 := XF.out.box.2 2
                  have k3 := XF.out.box.1.at 3 _ rfl
                  have y3 := XF.out.box.2 3
                  go_simp
                  refine hK.out _ _ ?_ (fun hH76 => ?_)
                  · (try dsimp only)
                    (try trivial)
                  clear hK K hH74
                  refine wpAnyH_done (by kernel_rfl) ?_ _
                  clear hH76
                  go_wp2
                  (try simp only [Exit.inBlock, Exit.then])
                  refine bodyPost_ret (v := .agg #[.string d1, .string d2, .int .i64 (kf nn), .string bb]) (by simp [results, Try.results26, go_sem, *]; try rfl) rfl ?_
                  exact ⟨d1, d2, kf nn, bb, rfl, HD1.out, HD2.out, kf_or nn, tx_le HB4.out, by first | exact gr_sets4 XF.out.gr | exact grown_alloc (gr_sets4 XB.out.gr) _⟩
                exact AllReadyH.nil
              exact AllReadyH.nil
            refine AllReadyH.cons rfl (fun K hK => ?_) ?_
            · have XC : Hid (DS q a len cap f w [.string ⟨#[]⟩, .string ⟨#[]⟩, .int .i64 0, .string ⟨#[]⟩] 3 w3) := X3.out
              have bS : Boxed w3 (w2.heap.size) [.string ⟨#[]⟩, .string ⟨#[98, 111, 100, 121]⟩, .string ⟨#[97, 98, 99]⟩] := BS3.out
              go_simp
              refine (pick_ds (by omega) (w2.heap.size) _ _ _ _ XC bS (by omega)).mono ?_
              rintro e w4 ⟨bb, rfl, hbb, Y4⟩
              have HB4 : Hid (bb = ⟨#[]⟩ ∨ bb = ⟨#[98, 111, 100, 121]⟩ ∨ bb = ⟨#[97, 98, 99]⟩) := hbb
              clear hbb bS
              have BS4 : Hid (Boxed w4 (w2.heap.size) [.string ⟨#[]⟩, .string ⟨#[98, 111, 100, 121]⟩, .string ⟨#[97, 98, 99]⟩]) := kept_box Y4.out.2 BS3.out (by omega) (by first | omega | (simp; done) | (simp; omega))
              have BI4 : Hid (Boxed w4 (w2.heap.size + 1) [.int .i64 2048, .int .i64 2054]) := kept_box Y4.out.2 BI3.out (by omega) (by first | omega | (simp; done) | (simp; omega))
              have X4 : Hid (DS q a len cap f w [.string ⟨#[]⟩, .string ⟨#[]⟩, .int .i64 0, .string ⟨#[]⟩] 4 w4) := Y4.out.1
              have z4 := X4.out.lt
              have zz4 : w3.heap.size + 0 ≤ w4.heap.size := by have := Y4.out.2.size; simpa using this
              clear Y4 XC
              go_wp2_with fail
              refine hK.out _ _ ?_ (fun hH77 => ?_)
              · (try dsimp only)
                (try trivial)
              clear hK K hH71
              refine wpAnyH_ready (rs := [8]) (by kernel_rfl) (by simp) ?_
              refine AllReadyH.cons rfl (fun K hK => ?_) ?_
              · have cN : w4.cell? ⟨w2.heap.size + 1, nn, none⟩ = some (.int .i64 (kf nn)) := pickI BI4.out nn hnn
                go_simp
                refine hK.out _ _ ?_ (fun hH78 => ?_)
                · (try dsimp only)
                  (try trivial)
                clear hK K hH77
                refine wpAnyH_take (i := 12) (v := ?v79) rfl (by kernel_rfl) (by kernel_rfl) (by kernel_rfl) (fun _ _ _ h => h) (Or.inl ⟨by rfl, ?hy79⟩) (by assumption) ?rest79
                case hy79 => (intro w hSw; (try dsimp only at hSw); go_simp; (try with_reducible rfl))
                refine wpAnyH_ready (rs := [13]) (by kernel_rfl) (by simp) ?_
                refine AllReadyH.cons rfl (fun K hK => ?_) ?_
                · have XF : Hid (DS q a len cap f w [.string ⟨#[]⟩, .string ⟨#[]⟩, .int .i64 0, .string ⟨#[]⟩] 4 w4) := X4.out
                  have k0 := XF.out.box.1.at 0 _ rfl
                  have y0 := XF.out.box.2 0
                  have k1 := XF.out.box.1.at 1 _ rfl
                  have y1 := XF.out.box.2 1
                  have k2 := XF.out.box.1.at 2 _ rfl
                  have y2 := XF.out.box.2 2
                  have k3 := XF.out.box.1.at 3 _ rfl
                  have y3 := XF.out.box.2 3
                  go_simp
                  refine hK.out _ _ ?_ (fun hH80 => ?_)
                  · (try dsimp only)
                    (try trivial)
                  clear hK K hH78
                  refine wpAnyH_done (by kernel_rfl) ?_ _
                  clear hH80
                  go_wp2
                  (try simp only [Exit.inBlock, Exit.then])
                  refine bodyPost_ret (v := .agg #[.string d1, .string d2, .int .i64 (kf nn), .string bb]) (by simp [results, Try.results26, go_sem, *]; try rfl) rfl ?_
                  exact ⟨d1, d2, kf nn, bb, rfl, HD1.out, HD2.out, kf_or nn, tx_le HB4.out, by first | exact gr_sets4 XF.out.gr | exact grown_alloc (gr_sets4 XB.out.gr) _⟩
                exact AllReadyH.nil
              exact AllReadyH.nil
            exact AllReadyH.nil
          exact AllReadyH.nil
        refine AllReadyH.cons rfl (fun K hK => ?_) ?_
        · have XC : Hid (DS q a len cap f w [.string ⟨#[]⟩, .string ⟨#[]⟩, .int .i64 0, .string ⟨#[]⟩] 2 (w2.alloc (.cells #[.string ⟨#[]⟩, .string ⟨#[98, 111, 100, 121]⟩, .string ⟨#[97, 98, 99]⟩] 9))) := (DS.alloc X2.out _)
          go_simp
          refine (next_ds 2 (by omega) (by omega) (by omega) _ XC).mono ?_
          rintro e w3 ⟨vv, rfl, v0, v1, Y3⟩
          obtain ⟨nn, rfl⟩ := Int.eq_ofNat_of_zero_le v0
          have hnn : nn < 2 := by omega
          have BS3 : Hid (Boxed w3 (w2.heap.size) [.string ⟨#[]⟩, .string ⟨#[98, 111, 100, 121]⟩, .string ⟨#[97, 98, 99]⟩]) := kept_box Y3.out.2 (box_a w2 [.string ⟨#[]⟩, .string ⟨#[98, 111, 100, 121]⟩, .string ⟨#[97, 98, 99]⟩] _ _ (by simp)) (by omega) (by first | omega | (simp; done) | (simp; omega))
          have X3 : Hid (DS q a len cap f w [.string ⟨#[]⟩, .string ⟨#[]⟩, .int .i64 0, .string ⟨#[]⟩] 3 w3) := Y3.out.1
          have z3 := X3.out.lt
          have zz3 : w2.heap.size + 1 ≤ w3.heap.size := by have := Y3.out.2.size; simpa using this
          clear Y3 XC
          go_wp2_with fail
          refine hK.out _ _ ?_ (fun hH81 => ?_)
          · (try dsimp only)
            (try trivial)
          clear hK K hH69
          refine wpAnyH_ready (rs := [4, 11]) (by kernel_rfl) (by simp) ?_
          refine AllReadyH.cons rfl (fun K hK => ?_) ?_
          · go_simp
            refine hK.out _ _ ?_ (fun hH82 => ?_)
            · (try dsimp only)
              (try trivial)
            clear hK K hH81
            refine wpAnyH_take (i := 7) (v := ?v83) rfl (by kernel_rfl) (by kernel_rfl) (by kernel_rfl) (fun _ _ _ h => h) (Or.inl ⟨by rfl, ?hy83⟩) (by assumption) ?rest83
            case hy83 => (intro w hSw; (try dsimp only at hSw); go_simp; (try with_reducible rfl))
            refine wpAnyH_ready (rs := [8, 11]) (by kernel_rfl) (by simp) ?_
            refine AllReadyH.cons rfl (fun K hK => ?_) ?_
            · have cN : (w3.alloc (.cells #[.int .i64 2048, .int .i64 2054] 3)).cell? ⟨w3.heap.size, nn, none⟩ = some (.int .i64 (kf nn)) := pickI (box_a w3 [.int .i64 2048, .int .i64 2054] _ _ (by simp)) nn hnn
              go_simp
              refine hK.out _ _ ?_ (fun hH84 => ?_)
              · (try dsimp only)
                (try trivial)
              clear hK K hH82
              refine wpAnyH_ready (rs := [11]) (by kernel_rfl) (by simp) ?_
              refine AllReadyH.cons rfl (fun K hK => ?_) ?_
              · have XC : Hid (DS q a len cap f w [.string ⟨#[]⟩, .string ⟨#[]⟩, .int .i64 0, .string ⟨#[]⟩] 3 (w3.alloc (.cells #[.int .i64 2048, .int .i64 2054] 3))) := (DS.alloc X3.out _)
                have bS : Boxed (w3.alloc (.cells #[.int .i64 2048, .int .i64 2054] 3)) (w2.heap.size) [.string ⟨#[]⟩, .string ⟨#[98, 111, 100, 121]⟩, .string ⟨#[97, 98, 99]⟩] := (Boxed.alloc BS3.out (by first | omega | (simp; done) | (simp; omega)) _)
                go_simp
                refine (pick_ds (by omega) (w2.heap.size) _ _ _ _ XC bS (by omega)).mono ?_
                rintro e w4 ⟨bb, rfl, hbb, Y4⟩
                have HB4 : Hid (bb = ⟨#[]⟩ ∨ bb = ⟨#[98, 111, 100, 121]⟩ ∨ bb = ⟨#[97, 98, 99]⟩) := hbb
                clear hbb bS
                have BS4 : Hid (Boxed w4 (w2.heap.size) [.string ⟨#[]⟩, .string ⟨#[98, 111, 100, 121]⟩, .string ⟨#[97, 98, 99]⟩]) := kept_box Y4.out.2 (Boxed.alloc BS3.out (by first | omega | (simp; done) | (simp; omega)) _) (by omega) (by first | omega | (simp; done) | (simp; omega))
                have BI4 : Hid (Boxed w4 (w3.heap.size) [.int .i64 2048, .int .i64 2054]) := kept_box Y4.out.2 (box_a w3 [.int .i64 2048, .int .i64 2054] _ _ (by simp)) (by omega) (by first | omega | (simp; done) | (simp; omega))
                have X4 : Hid (DS q a len cap f w [.string ⟨#[]⟩, .string ⟨#[]⟩, .int .i64 0, .string ⟨#[]⟩] 4 w4) := Y4.out.1
                have z4 := X4.out.lt
                have zz4 : w3.heap.size + 1 ≤ w4.heap.size := by have := Y4.out.2.size; simpa using this
                clear Y4 XC
                go_wp2_with fail
                refine hK.out _ _ ?_ (fun hH85 => ?_)
                · (try dsimp only)
                  (try trivial)
                clear hK K hH84
                refine wpAnyH_take (i := 12) (v := ?v86) rfl (by kernel_rfl) (by kernel_rfl) (by kernel_rfl) (fun _ _ _ h => h) (Or.inl ⟨by rfl, ?hy86⟩) (by assumption) ?rest86
                case hy86 => (intro w hSw; (try dsimp only at hSw); go_simp; (try with_reducible rfl))
                refine wpAnyH_ready (rs := [13]) (by kernel_rfl) (by simp) ?_
                refine AllReadyH.cons rfl (fun K hK => ?_) ?_
                · have XF : Hid (DS q a len cap f w [.string ⟨#[]⟩, .string ⟨#[]⟩, .int .i64 0, .string ⟨#[]⟩] 4 w4) := X4.out
                  have k0 := XF.out.box.1.at 0 _ rfl
                  have y0 := XF.out.box.2 0
                  have k1 := XF.out.box.1.at 1 _ rfl
                  have y1 := XF.out.box.2 1
                  have k2 := XF.out.box.1.at 2 _ rfl
                  have y2 := XF.out.box.2 2
                  have k3 := XF.out.box.1.at 3 _ rfl
                  have y3 := XF.out.box.2 3
                  go_simp
                  refine hK.out _ _ ?_ (fun hH87 => ?_)
                  · (try dsimp only)
                    (try trivial)
                  clear hK K hH85
                  refine wpAnyH_done (by kernel_rfl) ?_ _
                  clear hH87
                  go_wp2
                  (try simp only [Exit.inBlock, Exit.then])
                  refine bodyPost_ret (v := .agg #[.string d1, .string d2, .int .i64 (kf nn), .string bb]) (by simp [results, Try.results26, go_sem, *]; try rfl) rfl ?_
                  exact ⟨d1, d2, kf nn, bb, rfl, HD1.out, HD2.out, kf_or nn, tx_le HB4.out, by first | exact gr_sets4 XF.out.gr | exact grown_alloc (gr_sets4 XB.out.gr) _⟩
                exact AllReadyH.nil
              exact AllReadyH.nil
            refine AllReadyH.cons rfl (fun K hK => ?_) ?_
            · have XC : Hid (DS q a len cap f w [.string ⟨#[]⟩, .string ⟨#[]⟩, .int .i64 0, .string ⟨#[]⟩] 3 (w3.alloc (.cells #[.int .i64 2048, .int .i64 2054] 3))) := (DS.alloc X3.out _)
              have bS : Boxed (w3.alloc (.cells #[.int .i64 2048, .int .i64 2054] 3)) (w2.heap.size) [.string ⟨#[]⟩, .string ⟨#[98, 111, 100, 121]⟩, .string ⟨#[97, 98, 99]⟩] := (Boxed.alloc BS3.out (by first | omega | (simp; done) | (simp; omega)) _)
              go_simp
              refine (pick_ds (by omega) (w2.heap.size) _ _ _ _ XC bS (by omega)).mono ?_
              rintro e w4 ⟨bb, rfl, hbb, Y4⟩
              have HB4 : Hid (bb = ⟨#[]⟩ ∨ bb = ⟨#[98, 111, 100, 121]⟩ ∨ bb = ⟨#[97, 98, 99]⟩) := hbb
              clear hbb bS
              have BS4 : Hid (Boxed w4 (w2.heap.size) [.string ⟨#[]⟩, .string ⟨#[98, 111, 100, 121]⟩, .string ⟨#[97, 98, 99]⟩]) := kept_box Y4.out.2 (Boxed.alloc BS3.out (by first | omega | (simp; done) | (simp; omega)) _) (by omega) (by first | omega | (simp; done) | (simp; omega))
              have BI4 : Hid (Boxed w4 (w3.heap.size) [.int .i64 2048, .int .i64 2054]) := kept_box Y4.out.2 (box_a w3 [.int .i64 2048, .int .i64 2054] _ _ (by simp)) (by omega) (by first | omega | (simp; done) | (simp; omega))
              have X4 : Hid (DS q a len cap f w [.string ⟨#[]⟩, .string ⟨#[]⟩, .int .i64 0, .string ⟨#[]⟩] 4 w4) := Y4.out.1
              have z4 := X4.out.lt
              have zz4 : w3.heap.size + 1 ≤ w4.heap.size := by have := Y4.out.2.size; simpa using this
              clear Y4 XC
              go_wp2_with fail
              refine hK.out _ _ ?_ (fun hH88 => ?_)
              · (try dsimp only)
                (try trivial)
              clear hK K hH82
              refine wpAnyH_ready (rs := [8]) (by kernel_rfl) (by simp) ?_
              refine AllReadyH.cons rfl (fun K hK => ?_) ?_
              · have cN : w4.cell? ⟨w3.heap.size, nn, none⟩ = some (.int .i64 (kf nn)) := pickI BI4.out nn hnn
                go_simp
                refine hK.out _ _ ?_ (fun hH89 => ?_)
                · (try dsimp only)
                  (try trivial)
                clear hK K hH88
                refine wpAnyH_take (i := 12) (v := ?v90) rfl (by kernel_rfl) (by kernel_rfl) (by kernel_rfl) (fun _ _ _ h => h) (Or.inl ⟨by rfl, ?hy90⟩) (by assumption) ?rest90
                case hy90 => (intro w hSw; (try dsimp only at hSw); go_simp; (try with_reducible rfl))
                refine wpAnyH_ready (rs := [13]) (by kernel_rfl) (by simp) ?_
                refine AllReadyH.cons rfl (fun K hK => ?_) ?_
                · have XF : Hid (DS q a len cap f w [.string ⟨#[]⟩, .string ⟨#[]⟩, .int .i64 0, .string ⟨#[]⟩] 4 w4) := X4.out
                  have k0 := XF.out.box.1.at 0 _ rfl
                  have y0 := XF.out.box.2 0
                  have k1 := XF.out.box.1.at 1 _ rfl
                  have y1 := XF.out.box.2 1
                  have k2 := XF.out.box.1.at 2 _ rfl
                  have y2 := XF.out.box.2 2
                  have k3 := XF.out.box.1.at 3 _ rfl
                  have y3 := XF.out.box.2 3
                  go_simp
                  refine hK.out _ _ ?_ (fun hH91 => ?_)
                  · (try dsimp only)
                    (try trivial)
                  clear hK K hH89
                  refine wpAnyH_done (by kernel_rfl) ?_ _
                  clear hH91
                  go_wp2
                  (try simp only [Exit.inBlock, Exit.then])
                  refine bodyPost_ret (v := .agg #[.string d1, .string d2, .int .i64 (kf nn), .string bb]) (by simp [results, Try.results26, go_sem, *]; try rfl) rfl ?_
                  exact ⟨d1, d2, kf nn, bb, rfl, HD1.out, HD2.out, kf_or nn, tx_le HB4.out, by first | exact gr_sets4 XF.out.gr | exact grown_alloc (gr_sets4 XB.out.gr) _⟩
                exact AllReadyH.nil
              exact AllReadyH.nil
            exact AllReadyH.nil
          refine AllReadyH.cons rfl (fun K hK => ?_) ?_
          · have XC : Hid (DS q a len cap f w [.string ⟨#[]⟩, .string ⟨#[]⟩, .int .i64 0, .string ⟨#[]⟩] 3 w3) := X3.out
            have bS : Boxed w3 (w2.heap.size) [.string ⟨#[]⟩, .string ⟨#[98, 111, 100, 121]⟩, .string ⟨#[97, 98, 99]⟩] := BS3.out
            go_simp
            refine (pick_ds (by omega) (w2.heap.size) _ _ _ _ XC bS (by omega)).mono ?_
            rintro e w4 ⟨bb, rfl, hbb, Y4⟩
            have HB4 : Hid (bb = ⟨#[]⟩ ∨ bb = ⟨#[98, 111, 100, 121]⟩ ∨ bb = ⟨#[97, 98, 99]⟩) := hbb
            clear hbb bS
            have BS4 : Hid (Boxed w4 (w2.heap.size) [.string ⟨#[]⟩, .string ⟨#[98, 111, 100, 121]⟩, .string ⟨#[97, 98, 99]⟩]) := kept_box Y4.out.2 BS3.out (by omega) (by first | omega | (simp; done) | (simp; omega))
            have X4 : Hid (DS q a len cap f w [.string ⟨#[]⟩, .string ⟨#[]⟩, .int .i64 0, .string ⟨#[]⟩] 4 w4) := Y4.out.1
            have z4 := X4.out.lt
            have zz4 : w3.heap.size + 0 ≤ w4.heap.size := by have := Y4.out.2.size; simpa using this
            clear Y4 XC
            go_wp2_with fail
            refine hK.out _ _ ?_ (fun hH92 => ?_)
            · (try dsimp only)
              (try trivial)
            clear hK K hH81
            refine wpAnyH_ready (rs := [4]) (by kernel_rfl) (by simp) ?_
            refine AllReadyH.cons rfl (fun K hK => ?_) ?_
            · go_simp
              refine hK.out _ _ ?_ (fun hH93 => ?_)
              · (try dsimp only)
                (try trivial)
              clear hK K hH92
              refine wpAnyH_take (i := 7) (v := ?v94) rfl (by kernel_rfl) (by kernel_rfl) (by kernel_rfl) (fun _ _ _ h => h) (Or.inl ⟨by rfl, ?hy94⟩) (by assumption) ?rest94
              case hy94 => (intro w hSw; (try dsimp only at hSw); go_simp; (try with_reducible rfl))
              refine wpAnyH_ready (rs := [8]) (by kernel_rfl) (by simp) ?_
              refine AllReadyH.cons rfl (fun K hK => ?_) ?_
              · have cN : (w4.alloc (.cells #[.int .i64 2048, .int .i64 2054] 3)).cell? ⟨w4.heap.size, nn, none⟩ = some (.int .i64 (kf nn)) := pickI (box_a w4 [.int .i64 2048, .int .i64 2054] _ _ (by simp)) nn hnn
                go_simp
                refine hK.out _ _ ?_ (fun hH95 => ?_)
                · (try dsimp only)
                  (try trivial)
                clear hK K hH93
                refine wpAnyH_take (i := 12) (v := ?v96) rfl (by kernel_rfl) (by kernel_rfl) (by kernel_rfl) (fun _ _ _ h => h) (Or.inl ⟨by rfl, ?hy96⟩) (by assumption) ?rest96
                case hy96 => (intro w hSw; (try dsimp only at hSw); go_simp; (try with_reducible rfl))
                refine wpAnyH_ready (rs := [13]) (by kernel_rfl) (by simp) ?_
                refine AllReadyH.cons rfl (fun K hK => ?_) ?_
                · have XF : Hid (DS q a len cap f w [.string ⟨#[]⟩, .string ⟨#[]⟩, .int .i64 0, .string ⟨#[]⟩] 4 (w4.alloc (.cells #[.int .i64 2048, .int .i64 2054] 3))) := (DS.alloc X4.out _)
                  have k0 := XF.out.box.1.at 0 _ rfl
                  have y0 := XF.out.box.2 0
                  have k1 := XF.out.box.1.at 1 _ rfl
                  have y1 := XF.out.box.2 1
                  have k2 := XF.out.box.1.at 2 _ rfl
                  have y2 := XF.out.box.2 2
                  have k3 := XF.out.box.1.at 3 _ rfl
                  have y3 := XF.out.box.2 3
                  have XB : Hid (DS q a len cap f w [.string ⟨#[]⟩, .string ⟨#[]⟩, .int .i64 0, .string ⟨#[]⟩] 4 w4) := X4.out
                  have nne : w4.heap.size ≠ w.heap.size := by omega
                  have kb0 := XB.out.box.1.at 0 _ rfl
                  have yb0 := XB.out.box.2 0
                  have kb1 := XB.out.box.1.at 1 _ rfl
                  have yb1 := XB.out.box.2 1
                  have kb2 := XB.out.box.1.at 2 _ rfl
                  have yb2 := XB.out.box.2 2
                  have kb3 := XB.out.box.1.at 3 _ rfl
                  have yb3 := XB.out.box.2 3
                  go_simp
                  refine hK.out _ _ ?_ (fun hH97 => ?_)
                  · (try dsimp only)
                    (try trivial)
                  clear hK K hH95
                  refine wpAnyH_done (by kernel_rfl) ?_ _
                  clear hH97
                  go_wp2
                  (try simp only [Exit.inBlock, Exit.then])
                  refine bodyPost_ret (v := .agg #[.string d1, .string d2, .int .i64 (kf nn), .string bb]) (by simp [results, Try.results26, go_sem, *]; try rfl) rfl ?_
                  exact ⟨d1, d2, kf nn, bb, rfl, HD1.out, HD2.out, kf_or nn, tx_le HB4.out, by first | exact gr_sets4 XF.out.gr | exact grown_alloc (gr_sets4 XB.out.gr) _⟩
                exact AllReadyH.nil
              exact AllReadyH.nil
            exact AllReadyH.nil
          exact AllReadyH.nil
        exact AllReadyH.nil
      exact AllReadyH.nil
    refine AllReadyH.cons rfl (fun K hK => ?_) ?_
    · go_simp
      refine hK.out _ _ ?_ (fun hH98 => ?_)
      · (try dsimp only)
        (try trivial)
      clear hK K hH5
      refine wpAnyH_ready (rs := [3, 10]) (by kernel_rfl) (by simp) ?_
      refine AllReadyH.cons rfl (fun K hK => ?_) ?_
      · have XC : Hid (DS q a len cap f w [.string ⟨#[]⟩, .string ⟨#[]⟩, .int .i64 0, .string ⟨#[]⟩] 1 (w1.alloc (.cells #[.int .i64 2048, .int .i64 2054] 3))) := (DS.alloc X1.out _)
        go_simp
        refine (mac_ds (by omega) _ XC).mono ?_
        rintro e w2 ⟨d2, rfl, hsz, Y2⟩
        have HD2 : Hid (d2.size = 6) := hsz
        clear hsz
        have BI2 : Hid (Boxed w2 (w1.heap.size) [.int .i64 2048, .int .i64 2054]) := kept_box Y2.out.2 (box_a w1 [.int .i64 2048, .int .i64 2054] _ _ (by simp)) (by omega) (by first | omega | (simp; done) | (simp; omega))
        have X2 : Hid (DS q a len cap f w [.string ⟨#[]⟩, .string ⟨#[]⟩, .int .i64 0, .string ⟨#[]⟩] 2 w2) := Y2.out.1
        have z2 := X2.out.lt
        have zz2 : w1.heap.size + 1 ≤ w2.heap.size := by have := Y2.out.2.size; simpa using this
        clear Y2 XC
        go_wp2_with fail
        refine hK.out _ _ ?_ (fun hH99 => ?_)
        · (try dsimp only)
          (try trivial)
        clear hK K hH98
        refine wpAnyH_ready (rs := [6, 10]) (by kernel_rfl) (by simp) ?_
        refine AllReadyH.cons rfl (fun K hK => ?_) ?_
        · have XC : Hid (DS q a len cap f w [.string ⟨#[]⟩, .string ⟨#[]⟩, .int .i64 0, .string ⟨#[]⟩] 2 w2) := X2.out
          go_simp
          refine (next_ds 2 (by omega) (by omega) (by omega) _ XC).mono ?_
          rintro e w3 ⟨vv, rfl, v0, v1, Y3⟩
          obtain ⟨nn, rfl⟩ := Int.eq_ofNat_of_zero_le v0
          have hnn : nn < 2 := by omega
          have BI3 : Hid (Boxed w3 (w1.heap.size) [.int .i64 2048, .int .i64 2054]) := kept_box Y3.out.2 BI2.out (by omega) (by first | omega | (simp; done) | (simp; omega))
          have X3 : Hid (DS q a len cap f w [.string ⟨#[]⟩, .string ⟨#[]⟩, .int .i64 0, .string ⟨#[]⟩] 3 w3) := Y3.out.1
          have z3 := X3.out.lt
          have zz3 : w2.heap.size + 0 ≤ w3.heap.size := by have := Y3.out.2.size; simpa using this
          clear Y3 XC
          go_wp2_with fail
          refine hK.out _ _ ?_ (fun hH100 => ?_)
          · (try dsimp only)
            (try trivial)
          clear hK K hH99
          refine wpAnyH_take (i := 7) (v := ?v101) rfl (by kernel_rfl) (by kernel_rfl) (by kernel_rfl) (fun _ _ _ h => h) (Or.inl ⟨by rfl, ?hy101⟩) (by assumption) ?rest101
          case hy101 => (intro w hSw; (try dsimp only at hSw); go_simp; (try with_reducible rfl))
          refine wpAnyH_ready (rs := [8, 10]) (by kernel_rfl) (by simp) ?_
          refine AllReadyH.cons rfl (fun K hK => ?_) ?_
          · have cN : w3.cell? ⟨w1.heap.size, nn, none⟩ = some (.int .i64 (kf nn)) := pickI BI3.out nn hnn
            go_simp
            refine hK.out _ _ ?_ (fun hH102 => ?_)
            · (try dsimp only)
              (try trivial)
            clear hK K hH100
            refine wpAnyH_ready (rs := [10]) (by kernel_rfl) (by simp) ?_
            refine AllReadyH.cons rfl (fun K hK => ?_) ?_
            · go_simp
              refine hK.out _ _ ?_ (fun hH103 => ?_)
              · (try dsimp only)
                (try trivial)
              clear hK K hH102
              refine wpAnyH_ready (rs := [11]) (by kernel_rfl) (by simp) ?_
              refine AllReadyH.cons rfl (fun K hK => ?_) ?_
              · have XC : Hid (DS q a len cap f w [.string ⟨#[]⟩, .string ⟨#[]⟩, .int .i64 0, .string ⟨#[]⟩] 3 (w3.alloc (.cells #[.string ⟨#[]⟩, .string ⟨#[98, 111, 100, 121]⟩, .string ⟨#[97, 98, 99]⟩] 9))) := (DS.alloc X3.out _)
                have bS : Boxed (w3.alloc (.cells #[.string ⟨#[]⟩, .string ⟨#[98, 111, 100, 121]⟩, .string ⟨#[97, 98, 99]⟩] 9)) (w3.heap.size) [.string ⟨#[]⟩, .string ⟨#[98, 111, 100, 121]⟩, .string ⟨#[97, 98, 99]⟩] := (box_a w3 [.string ⟨#[]⟩, .string ⟨#[98, 111, 100, 121]⟩, .string ⟨#[97, 98, 99]⟩] _ _ (by simp))
                go_simp
                refine (pick_ds (by omega) (w3.heap.size) _ _ _ _ XC bS (by omega)).mono ?_
                rintro e w4 ⟨bb, rfl, hbb, Y4⟩
                have HB4 : Hid (bb = ⟨#[]⟩ ∨ bb = ⟨#[98, 111, 100, 121]⟩ ∨ bb = ⟨#[97, 98, 99]⟩) := hbb
                clear hbb bS
                have BI4 : Hid (Boxed w4 (w1.heap.size) [.int .i64 2048, .int .i64 2054]) := kept_box Y4.out.2 (Boxed.alloc BI3.out (by first | omega | (simp; done) | (simp; omega)) _) (by omega) (by first | omega | (simp; done) | (simp; omega))
                have BS4 : Hid (Boxed w4 (w3.heap.size) [.string ⟨#[]⟩, .string ⟨#[98, 111, 100, 121]⟩, .string ⟨#[97, 98, 99]⟩]) := kept_box Y4.out.2 (box_a w3 [.string ⟨#[]⟩, .string ⟨#[98, 111, 100, 121]⟩, .string ⟨#[97, 98, 99]⟩] _ _ (by simp)) (by omega) (by first | omega | (simp; done) | (simp; omega))
                have X4 : Hid (DS q a len cap f w [.string ⟨#[]⟩, .string ⟨#[]⟩, .int .i64 0, .string ⟨#[]⟩] 4 w4) := Y4.out.1
                have z4 := X4.out.lt
                have zz4 : w3.heap.size + 1 ≤ w4.heap.size := by have := Y4.out.2.size; simpa using this
                clear Y4 XC
                go_wp2_with fail
                refine hK.out _ _ ?_ (fun hH104 => ?_)
                · (try dsimp only)
                  (try trivial)
                clear hK K hH103
                refine wpAnyH_take (i := 12) (v := ?v105) rfl (by kernel_rfl) (by kernel_rfl) (by kernel_rfl) (fun _ _ _ h => h) (Or.inl ⟨by rfl, ?hy105⟩) (by assumption) ?rest105
                case hy105 => (intro w hSw; (try dsimp only at hSw); go_simp; (try with_reducible rfl))
                refine wpAnyH_ready (rs := [13]) (by kernel_rfl) (by simp) ?_
                refine AllReadyH.cons rfl (fun K hK => ?_) ?_
                · have XF : Hid (DS q a len cap f w [.string ⟨#[]⟩, .string ⟨#[]⟩, .int .i64 0, .string ⟨#[]⟩] 4 w4) := X4.out
                  have k0 := XF.out.box.1.at 0 _ rfl
                  have y0 := XF.out.box.2 0
                  have k1 := XF.out.box.1.at 1 _ rfl
                  have y1 := XF.out.box.2 1
                  have k2 := XF.out.box.1.at 2 _ rfl
                  have y2 := XF.out.box.2 2
                  have k3 := XF.out.box.1.at 3 _ rfl
                  have y3 := XF.out.box.2 3
                  go_simp
                  refine hK.out _ _ ?_ (fun hH106 => ?_)
                  · (try dsimp only)
                    (try trivial)
                  clear hK K hH104
                  refine wpAnyH_done (by kernel_rfl) ?_ _
                  clear hH106
                  go_wp2
                  (try simp only [Exit.inBlock, Exit.then])
                  refine bodyPost_ret (v := .agg #[.string d1, .string d2, .int .i64 (kf nn), .string bb]) (by simp [results, Try.results26, go_sem, *]; try rfl) rfl ?_
                  exact ⟨d1, d2, kf nn, bb, rfl, HD1.out, HD2.out, kf_or nn, tx_le HB4.out, by first | exact gr_sets4 XF.out.gr | exact grown_alloc (gr_sets4 XB.out.gr) _⟩
                exact AllReadyH.nil
              exact AllReadyH.nil
            exact AllReadyH.nil
          refine AllReadyH.cons rfl (fun K hK => ?_) ?_
          · go_simp
            refine hK.out _ _ ?_ (fun hH107 => ?_)
            · (try dsimp only)
              (try trivial)
            clear hK K hH100
            refine wpAnyH_ready (rs := [8, 11]) (by kernel_rfl) (by simp) ?_
            refine AllReadyH.cons rfl (fun K hK => ?_) ?_
            · have cN : (w3.alloc (.cells #[.string ⟨#[]⟩, .string ⟨#[98, 111, 100, 121]⟩, .string ⟨#[97, 98, 99]⟩] 9)).cell? ⟨w1.heap.size, nn, none⟩ = some (.int .i64 (kf nn)) := pickI (Boxed.alloc BI3.out (by first | omega | (simp; done) | (simp; omega)) _) nn hnn
              go_simp
              refine hK.out _ _ ?_ (fun hH108 => ?_)
              · (try dsimp only)
                (try trivial)
              clear hK K hH107
              refine wpAnyH_ready (rs := [11]) (by kernel_rfl) (by simp) ?_
              refine AllReadyH.cons rfl (fun K hK => ?_) ?_
              · have XC : Hid (DS q a len cap f w [.string ⟨#[]⟩, .string ⟨#[]⟩, .int .i64 0, .string ⟨#[]⟩] 3 (w3.alloc (.cells #[.string ⟨#[]⟩, .string ⟨#[98, 111, 100, 121]⟩, .string ⟨#[97, 98, 99]⟩] 9))) := (DS.alloc X3.out _)
                have bS : Boxed (w3.alloc (.cells #[.string ⟨#[]⟩, .string ⟨#[98, 111, 100, 121]⟩, .string ⟨#[97, 98, 99]⟩] 9)) (w3.heap.size) [.string ⟨#[]⟩, .string ⟨#[98, 111, 100, 121]⟩, .string ⟨#[97, 98, 99]⟩] := (box_a w3 [.string ⟨#[]⟩, .string ⟨#[98, 111, 100, 121]⟩, .string ⟨#[97, 98, 99]⟩] _ _ (by simp))
                go_simp
                refine (pick_ds (by omega) (w3.heap.size) _ _ _ _ XC bS (by omega)).mono ?_
                rintro e w4 ⟨bb, rfl, hbb, Y4⟩
                have HB4 : Hid (bb = ⟨#[]⟩ ∨ bb = ⟨#[98, 111, 100, 121]⟩ ∨ bb = ⟨#[97, 98, 99]⟩) := hbb
                clear hbb bS
                have BI4 : Hid (Boxed w4 (w1.heap.size) [.int .i64 2048, .int .i64 2054]) := kept_box Y4.out.2 (Boxed.alloc BI3.out (by first | omega | (simp; done) | (simp; omega)) _) (by omega) (by first | omega | (simp; done) | (simp; omega))
                have BS4 : Hid (Boxed w4 (w3.heap.size) [.string ⟨#[]⟩, .string ⟨#[98, 111, 100, 121]⟩, .string ⟨#[97, 98, 99]⟩]) := kept_box Y4.out.2 (box_a w3 [.string ⟨#[]⟩, .string ⟨#[98, 111, 100, 121]⟩, .string ⟨#[97, 98, 99]⟩] _ _ (by simp)) (by omega) (by first | omega | (simp; done) | (simp; omega))
                have X4 : Hid (DS q a len cap f w [.string ⟨#[]⟩, .string ⟨#[]⟩, .int .i64 0, .string ⟨#[]⟩] 4 w4) := Y4.out.1
                have z4 := X4.out.lt
                have zz4 : w3.heap.size + 1 ≤ w4.heap.size := by have := Y4.out.2.size; simpa using this
                clear Y4 XC
                go_wp2_with fail
                refine hK.out _ _ ?_ (fun hH109 => ?_)
                · (try dsimp only)
                  (try trivial)
                clear hK K hH108
                refine wpAnyH_take (i := 12) (v := ?v110) rfl (by kernel_rfl) (by kernel_rfl) (by kernel_rfl) (fun _ _ _ h => h) (Or.inl ⟨by rfl, ?hy110⟩) (by assumption) ?rest110
                case hy110 => (intro w hSw; (try dsimp only at hSw); go_simp; (try with_reducible rfl))
                refine wpAnyH_ready (rs := [13]) (by kernel_rfl) (by simp) ?_
                refine AllReadyH.cons rfl (fun K hK => ?_) ?_
                · have XF : Hid (DS q a len cap f w [.string ⟨#[]⟩, .string ⟨#[]⟩, .int .i64 0, .string ⟨#[]⟩] 4 w4) := X4.out
                  have k0 := XF.out.box.1.at 0 _ rfl
                  have y0 := XF.out.box.2 0
                  have k1 := XF.out.box.1.at 1 _ rfl
                  have y1 := XF.out.box.2 1
                  have k2 := XF.out.box.1.at 2 _ rfl
                  have y2 := XF.out.box.2 2
                  have k3 := XF.out.box.1.at 3 _ rfl
                  have y3 := XF.out.box.2 3
                  go_simp
                  refine hK.out _ _ ?_ (fun hH111 => ?_)
                  · (try dsimp only)
                    (try trivial)
                  clear hK K hH109
                  refine wpAnyH_done (by kernel_rfl) ?_ _
                  clear hH111
                  go_wp2
                  (try simp only [Exit.inBlock, Exit.then])
                  refine bodyPost_ret (v := .agg #[.string d1, .string d2, .int .i64 (kf nn), .string bb]) (by simp [results, Try.results26, go_sem, *]; try rfl) rfl ?_
                  exact ⟨d1, d2, kf nn, bb, rfl, HD1.out, HD2.out, kf_or nn, tx_le HB4.out, by first | exact gr_sets4 XF.out.gr | exact grown_alloc (gr_sets4 XB.out.gr) _⟩
                exact AllReadyH.nil
              exact AllReadyH.nil
            refine AllReadyH.cons rfl (fun K hK => ?_) ?_
            · have XC : Hid (DS q a len cap f w [.string ⟨#[]⟩, .string ⟨#[]⟩, .int .i64 0, .string ⟨#[]⟩] 3 (w3.alloc (.cells #[.string ⟨#[]⟩, .string ⟨#[98, 111, 100, 121]⟩, .string ⟨#[97, 98, 99]⟩] 9))) := (DS.alloc X3.out _)
              have bS : Boxed (w3.alloc (.cells #[.string ⟨#[]⟩, .string ⟨#[98, 111, 100, 121]⟩, .string ⟨#[97, 98, 99]⟩] 9)) (w3.heap.size) [.string ⟨#[]⟩, .string ⟨#[98, 111, 100, 121]⟩, .string ⟨#[97, 98, 99]⟩] := (box_a w3 [.string ⟨#[]⟩, .string ⟨#[98, 111, 100, 121]⟩, .string ⟨#[97, 98, 99]⟩] _ _ (by simp))
              go_simp
              refine (pick_ds (by omega) (w3.heap.size) _ _ _ _ XC bS (by omega)).mono ?_
              rintro e w4 ⟨bb, rfl, hbb, Y4⟩
              have HB4 : Hid (bb = ⟨#[]⟩ ∨ bb = ⟨#[98, 111, 100, 121]⟩ ∨ bb = ⟨#[97, 98, 99]⟩) := hbb
              clear hbb bS
              have BI4 : Hid (Boxed w4 (w1.heap.size) [.int .i64 2048, .int .i64 2054]) := kept_box Y4.out.2 (Boxed.alloc BI3.out (by first | omega | (simp; done) | (simp; omega)) _) (by omega) (by first | omega | (simp; done) | (simp; omega))
              have BS4 : Hid (Boxed w4 (w3.heap.size) [.string ⟨#[]⟩, .string ⟨#[98, 111, 100, 121]⟩, .string ⟨#[97, 98, 99]⟩]) := kept_box Y4.out.2 (box_a w3 [.string ⟨#[]⟩, .string ⟨#[98, 111, 100, 121]⟩, .string ⟨#[97, 98, 99]⟩] _ _ (by simp)) (by omega) (by first | omega | (simp; done) | (simp; omega))
              have X4 : Hid (DS q a len cap f w [.string ⟨#[]⟩, .string ⟨#[]⟩, .int .i64 0, .string ⟨#[]⟩] 4 w4) := Y4.out.1
              have z4 := X4.out.lt
              have zz4 : w3.heap.size + 1 ≤ w4.heap.size := by have := Y4.out.2.size; simpa using this
              clear Y4 XC
              go_wp2_with fail
              refine hK.out _ _ ?_ (fun hH112 => ?_)
              · (try dsimp only)
                (try trivial)
              clear hK K hH107
              refine wpAnyH_ready (rs := [8]) (by kernel_rfl) (by simp) ?_
              refine AllReadyH.cons rfl (fun K hK => ?_) ?_
              · have cN : w4.cell? ⟨w1.heap.size, nn, none⟩ = some (.int .i64 (kf nn)) := pickI BI4.out nn hnn
                go_simp
                refine hK.out _ _ ?_ (fun hH113 => ?_)
                · (try dsimp only)
                  (try trivial)
                clear hK K hH112
                refine wpAnyH_take (i := 12) (v := ?v114) rfl (by kernel_rfl) (by kernel_rfl) (by kernel_rfl) (fun _ _ _ h => h) (Or.inl ⟨by rfl, ?hy114⟩) (by assumption) ?rest114
                case hy114 => (intro w hSw; (try dsimp only at hSw); go_simp; (try with_reducible rfl))
                refine wpAnyH_ready (rs := [13]) (by kernel_rfl) (by simp) ?_
                refine AllReadyH.cons rfl (fun K hK => ?_) ?_
                · have XF : Hid (DS q a len cap f w [.string ⟨#[]⟩, .string ⟨#[]⟩, .int .i64 0, .string ⟨#[]⟩] 4 w4) := X4.out
                  have k0 := XF.out.box.1.at 0 _ rfl
                  have y0 := XF.out.box.2 0
                  have k1 := XF.out.box.1.at 1 _ rfl
                  have y1 := XF.out.box.2 1
                  have k2 := XF.out.box.1.at 2 _ rfl
                  have y2 := XF.out.box.2 2
                  have k3 := XF.out.box.1.at 3 _ rfl
                  have y3 := XF.out.box.2 3
                  go_simp
                  refine hK.out _ _ ?_ (fun hH115 => ?_)
                  · (try dsimp only)
                    (try trivial)
                  clear hK K hH113
                  refine wpAnyH_done (by kernel_rfl) ?_ _
                  clear hH115
                  go_wp2
                  (try simp only [Exit.inBlock, Exit.then])
                  refine bodyPost_ret (v := .agg #[.string d1, .string d2, .int .i64 (kf nn), .string bb]) (by simp [results, Try.results26, go_sem, *]; try rfl) rfl ?_
                  exact ⟨d1, d2, kf nn, bb, rfl, HD1.out, HD2.out, kf_or nn, tx_le HB4.out, by first | exact gr_sets4 XF.out.gr | exact grown_alloc (gr_sets4 XB.out.gr) _⟩
                exact AllReadyH.nil
              exact AllReadyH.nil
            exact AllReadyH.nil
          exact AllReadyH.nil
        refine AllReadyH.cons rfl (fun K hK => ?_) ?_
        · go_simp
          refine hK.out _ _ ?_ (fun hH116 => ?_)
          · (try dsimp only)
            (try trivial)
          clear hK K hH99
          refine wpAnyH_ready (rs := [6]) (by kernel_rfl) (by simp) ?_
          refine AllReadyH.cons rfl (fun K hK => ?_) ?_
          · have XC : Hid (DS q a len cap f w [.string ⟨#[]⟩, .string ⟨#[]⟩, .int .i64 0, .string ⟨#[]⟩] 2 (w2.alloc (.cells #[.string ⟨#[]⟩, .string ⟨#[98, 111, 100, 121]⟩, .string ⟨#[97, 98, 99]⟩] 9))) := (DS.alloc X2.out _)
            go_simp
            refine (next_ds 2 (by omega) (by omega) (by omega) _ XC).mono ?_
            rintro e w3 ⟨vv, rfl, v0, v1, Y3⟩
            obtain ⟨nn, rfl⟩ := Int.eq_ofNat_of_zero_le v0
            have hnn : nn < 2 := by omega
            have BI3 : Hid (Boxed w3 (w1.heap.size) [.int .i64 2048, .int .i64 2054]) := kept_box Y3.out.2 (Boxed.alloc BI2.out (by first | omega | (simp; done) | (simp; omega)) _) (by omega) (by first | omega | (simp; done) | (simp; omega))
            have BS3 : Hid (Boxed w3 (w2.heap.size) [.string ⟨#[]⟩, .string ⟨#[98, 111, 100, 121]⟩, .string ⟨#[97, 98, 99]⟩]) := kept_box Y3.out.2 (box_a w2 [.string ⟨#[]⟩, .string ⟨#[98, 111, 100, 121]⟩, .string ⟨#[97, 98, 99]⟩] _ _ (by simp)) (by omega) (by first | omega | (simp; done) | (simp; omega))
            have X3 : Hid (DS q a len cap f w [.string ⟨#[]⟩, .string ⟨#[]⟩, .int .i64 0, .string ⟨#[]⟩] 3 w3) := Y3.out.1
            have z3 := X3.out.lt
            have zz3 : w2.heap.size + 1 ≤ w3.heap.size := by have := Y3.out.2.size; simpa using this
            clear Y3 XC
            go_wp2_with fail
            refine hK.out _ _ ?_ (fun hH117 => ?_)
            · (try dsimp only)
              (try trivial)
            clear hK K hH116
            refine wpAnyH_take (i := 7) (v := ?v118) rfl (by kernel_rfl) (by kernel_rfl) (by kernel_rfl) (fun _ _ _ h => h) (Or.inl ⟨by rfl, ?hy118⟩) (by assumption) ?rest118
            case hy118 => (intro w hSw; (try dsimp only at hSw); go_simp; (try with_reducible rfl))
            refine wpAnyH_ready (rs := [8, 11]) (by kernel_rfl) (by simp) ?_
            refine AllReadyH.cons rfl (fun K hK => ?_) ?_
            · have cN : w3.cell? ⟨w1.heap.size, nn, none⟩ = some (.int .i64 (kf nn)) := pickI BI3.out nn hnn
              go_simp
              refine hK.out _ _ ?_ (fun hH119 => ?_)
              · (try dsimp only)
                (try trivial)
              clear hK K hH117
              refine wpAnyH_ready (rs := [11]) (by kernel_rfl) (by simp) ?_
              refine AllReadyH.cons rfl (fun K hK => ?_) ?_
              · have XC : Hid (DS q a len cap f w [.string ⟨#[]⟩, .string ⟨#[]⟩, .int .i64 0, .string ⟨#[]⟩] 3 w3) := X3.out
                have bS : Boxed w3 (w2.heap.size) [.string ⟨#[]⟩, .string ⟨#[98, 111, 100, 121]⟩, .string ⟨#[97, 98, 99]⟩] := BS3.out
                go_simp
                refine (pick_ds (by omega) (w2.heap.size) _ _ _ _ XC bS (by omega)).mono ?_
                rintro e w4 ⟨bb, rfl, hbb, Y4⟩
                have HB4 : Hid (bb = ⟨#[]⟩ ∨ bb = ⟨#[98, 111, 100, 121]⟩ ∨ bb = ⟨#[97, 98, 99]⟩) := hbb
                clear hbb bS
                have BI4 : Hid (Boxed w4 (w1.heap.size) [.int .i64 2048, .int .i64 2054]) := kept_box Y4.out.2 BI3.out (by omega) (by first | omega | (simp; done) | (simp; omega))
                have BS4 : Hid (Boxed w4 (w2.heap.size) [.string ⟨#[]⟩, .string ⟨#[98, 111, 100, 121]⟩, .string ⟨#[97, 98, 99]⟩]) := kept_box Y4.out.2 BS3.out (by omega) (by first | omega | (simp; done) | (simp; omega))
                have X4 : Hid (DS q a len cap f w [.string ⟨#[]⟩, .string ⟨#[]⟩, .int .i64 0, .string ⟨#[]⟩] 4 w4) := Y4.out.1
                have z4 := X4.out.lt
                have zz4 : w3.heap.size + 0 ≤ w4.heap.size := by have := Y4.out.2.size; simpa using this
                clear Y4 XC
                go_wp2_with fail
                refine hK.out _ _ ?_ (fun hH120 => ?_)
                · (try dsimp only)
                  (try trivial)
                clear hK K hH119
                refine wpAnyH_take (i := 12) (v := ?v121) rfl (by kernel_rfl) (by kernel_rfl) (by kernel_rfl) (fun _ _ _ h => h) (Or.inl ⟨by rfl, ?hy121⟩) (by assumption) ?rest121
                case hy121 => (intro w hSw; (try dsimp only at hSw); go_simp; (try with_reducible rfl))
                refine wpAnyH_ready (rs := [13]) (by kernel_rfl) (by simp) ?_
                refine AllReadyH.cons rfl (fun K hK => ?_) ?_
                · have XF : Hid (DS q a len cap f w [.string ⟨#[]⟩, .string ⟨#[]⟩, .int .i64 0, .string ⟨#[]⟩] 4 w4) := X4.out
                  have k0 := XF.out.box.1.at 0 _ rfl
                  have y0 := XF.out.box.2 0
                  have k1 := XF.out.box.1.at 1 _ rfl
                  have y1 := XF.out.box.2 1
                  have k2 := XF.out.box.1.at 2 _ rfl
                  have y2 := XF.out.box.2 2
                  have k3 := XF.out.box.1.at 3 _ rfl
                  have y3 := XF.out.box.2 3
                  go_simp
                  refine hK.out _ _ ?_ (fun hH122 => ?_)
                  · (try dsimp only)
                    (try trivial)
                  clear hK K hH120
                  refine wpAnyH_done (by kernel_rfl) ?_ _
                  clear hH122
                  go_wp2
                  (try simp only [Exit.inBlock, Exit.then])
                  refine bodyPost_ret (v := .agg #[.string d1, .string d2, .int .i64 (kf nn), .string bb]) (by simp [results, Try.results26, go_sem, *]; try rfl) rfl ?_
                  exact ⟨d1, d2, kf nn, bb, rfl, HD1.out, HD2.out, kf_or nn, tx_le HB4.out, by first | exact gr_sets4 XF.out.gr | exact grown_alloc (gr_sets4 XB.out.gr) _⟩
                exact AllReadyH.nil
              exact AllReadyH.nil
            refine AllReadyH.cons rfl (fun K hK => ?_) ?_
            · have XC : Hid (DS q a len cap f w [.string ⟨#[]⟩, .string ⟨#[]⟩, .int .i64 0, .string ⟨#[]⟩] 3 w3) := X3.out
              have bS : Boxed w3 (w2.heap.size) [.string ⟨#[]⟩, .string ⟨#[98, 111, 100, 121]⟩, .string ⟨#[97, 98, 99]⟩] := BS3.out
              go_simp
              refine (pick_ds (by omega) (w2.heap.size) _ _ _ _ XC bS (by omega)).mono ?_
              rintro e w4 ⟨bb, rfl, hbb, Y4⟩
              have HB4 : Hid (bb = ⟨#[]⟩ ∨ bb = ⟨#[98, 111, 100, 121]⟩ ∨ bb = ⟨#[97, 98, 99]⟩) := hbb
              clear hbb bS
              have BI4 : Hid (Boxed w4 (w1.heap.size) [.int .i64 2048, .int .i64 2054]) := kept_box Y4.out.2 BI3.out (by omega) (by first | omega | (simp; done) | (simp; omega))
              have BS4 : Hid (Boxed w4 (w2.heap.size) [.string ⟨#[]⟩, .string ⟨#[98, 111, 100, 121]⟩, .string ⟨#[97, 98, 99]⟩]) := kept_box Y4.out.2 BS3.out (by omega) (by first | omega | (simp; done) | (simp; omega))
              have X4 : Hid (DS q a len cap f w [.string ⟨#[]⟩, .string ⟨#[]⟩, .int .i64 0, .string ⟨#[]⟩] 4 w4) := Y4.out.1
              have z4 := X4.out.lt
              have zz4 : w3.heap.size + 0 ≤ w4.heap.size := by have := Y4.out.2.size; simpa using this
              clear Y4 XC
              go_wp2_with fail
              refine hK.out _ _ ?_ (fun hH123 => ?_)
              · (try dsimp only)
                (try trivial)
              clear hK K hH117
              refine wpAnyH_ready (rs := [8]) (by kernel_rfl) (by simp) ?_
              refine AllReadyH.cons rfl (fun K hK => ?_) ?_
              · have cN : w4.cell? ⟨w1.heap.size, nn, none⟩ = some (.int .i64 (kf nn)) := pickI BI4.out nn hnn
                go_simp
                refine hK.out _ _ ?_ (fun hH124 => ?_)
                · (try dsimp only)
                  (try trivial)
                clear hK K hH123
                refine wpAnyH_take (i := 12) (v := ?v125) rfl (by kernel_rfl) (by kernel_rfl) (by kernel_rfl) (fun _ _ _ h => h) (Or.inl ⟨by rfl, ?hy125⟩) (by assumption) ?rest125
                case hy125 => (intro w hSw; (try dsimp only at hSw); go_simp; (try with_reducible rfl))
                refine wpAnyH_ready (rs := [13]) (by kernel_rfl) (by simp) ?_
                refine AllReadyH.cons rfl (fun K hK => ?_) ?_
                · have XF : Hid (DS q a len cap f w [.string ⟨#[]⟩, .string ⟨#[]⟩, .int .i64 0, .string ⟨#[]⟩] 4 w4) := X4.out
                  have k0 := XF.out.box.1.at 0 _ rfl
                  have y0 := XF.out.box.2 0
                  have k1 := XF.out.box.1.at 1 _ rfl
                  have y1 := XF.out.box.2 1
                  have k2 := XF.out.box.1.at 2 _ rfl
                  have y2 := XF.out.box.2 2
                  have k3 := XF.out.box.1.at 3 _ rfl
                  have y3 := XF.out.box.2 3
                  go_simp
                  refine hK.out _ _ ?_ (fun hH126 => ?_)
                  · (try dsimp only)
                    (try trivial)
                  clear hK K hH124
                  refine wpAnyH_done (by kernel_rfl) ?_ _
                  clear hH126
                  go_wp2
                  (try simp only [Exit.inBlock, Exit.then])
                  refine bodyPost_ret (v := .agg #[.string d1, .string d2, .int .i64 (kf nn), .string bb]) (by simp [results, Try.results26, go_sem, *]; try rfl) rfl ?_
                  exact ⟨d1, d2, kf nn, bb, rfl, HD1.out, HD2.out, kf_or nn, tx_le HB4.out, by first | exact gr_sets4 XF.out.gr | exact grown_alloc (gr_sets4 XB.out.gr) _⟩
                exact AllReadyH.nil
              exact AllReadyH.nil
            exact AllReadyH.nil
          exact AllReadyH.nil
        exact AllReadyH.nil
      refine AllReadyH.cons rfl (fun K hK => ?_) ?_
      · go_simp
        refine hK.out _ _ ?_ (fun hH127 => ?_)
        · (try dsimp only)
          (try trivial)
        clear hK K hH98
        refine wpAnyH_ready (rs := [3]) (by kernel_rfl) (by simp) ?_
        refine AllReadyH.cons rfl (fun K hK => ?_) ?_
        · have XC : Hid (DS q a len cap f w [.string ⟨#[]⟩, .string ⟨#[]⟩, .int .i64 0, .string ⟨#[]⟩] 1 ((w1.alloc (.cells #[.int .i64 2048, .int .i64 2054] 3)).alloc (.cells #[.string ⟨#[]⟩, .string ⟨#[98, 111, 100, 121]⟩, .string ⟨#[97, 98, 99]⟩] 9))) := (DS.alloc (DS.alloc X1.out _) _)
          go_simp
          refine (mac_ds (by omega) _ XC).mono ?_
          rintro e w2 ⟨d2, rfl, hsz, Y2⟩
          have HD2 : Hid (d2.size = 6) := hsz
          clear hsz
          have BI2 : Hid (Boxed w2 (w1.heap.size) [.int .i64 2048, .int .i64 2054]) := kept_box Y2.out.2 (box_ab w1 [.int .i64 2048, .int .i64 2054] _ _ _ (by simp)) (by omega) (by first | omega | (simp; done) | (simp; omega))
          have BS2 : Hid (Boxed w2 (w1.heap.size + 1) [.string ⟨#[]⟩, .string ⟨#[98, 111, 100, 121]⟩, .string ⟨#[97, 98, 99]⟩]) := kept_box Y2.out.2 (box_b w1 [.string ⟨#[]⟩, .string ⟨#[98, 111, 100, 121]⟩, .string ⟨#[97, 98, 99]⟩] _ _ _ (by simp)) (by omega) (by first | omega | (simp; done) | (simp; omega))
          have X2 : Hid (DS q a len cap f w [.string ⟨#[]⟩, .string ⟨#[]⟩, .int .i64 0, .string ⟨#[]⟩] 2 w2) := Y2.out.1
          have z2 := X2.out.lt
          have zz2 : w1.heap.size + 2 ≤ w2.heap.size := by have := Y2.out.2.size; simpa using this
          clear Y2 XC
          go_wp2_with fail
          refine hK.out _ _ ?_ (fun hH128 => ?_)
          · (try dsimp only)
            (try trivial)
          clear hK K hH127
          refine wpAnyH_ready (rs := [6]) (by kernel_rfl) (by simp) ?_
          refine AllReadyH.cons rfl (fun K hK => ?_) ?_
          · have XC : Hid (DS q a len cap f w [.string ⟨#[]⟩, .string ⟨#[]⟩, .int .i64 0, .string ⟨#[]⟩] 2 w2) := X2.out
            go_simp
            refine (next_ds 2 (by omega) (by omega) (by omega) _ XC).mono ?_
            rintro e w3 ⟨vv, rfl, v0, v1, Y3⟩
            obtain ⟨nn, rfl⟩ := Int.eq_ofNat_of_zero_le v0
            have hnn : nn < 2 := by omega
            have BI3 : Hid (Boxed w3 (w1.heap.size) [.int .i64 2048, .int .i64 2054]) := kept_box Y3.out.2 BI2.out (by omega) (by first | omega | (simp; done) | (simp; omega))
            have BS3 : Hid (Boxed w3 (w1.heap.size + 1) [.string ⟨#[]⟩, .string ⟨#[98, 111, 100, 121]⟩, .string ⟨#[97, 98, 99]⟩]) := kept_box Y3.out.2 BS2.out (by omega) (by first | omega | (simp; done) | (simp; omega))
            have X3 : Hid (DS q a len cap f w [.string ⟨#[]⟩, .string ⟨#[]⟩, .int .i64 0, .string ⟨#[]⟩] 3 w3) := Y3.out.1
            have z3 := X3.out.lt
            have zz3 : w2.heap.size + 0 ≤ w3.heap.size := by have := Y3.out.2.size; simpa using this
            clear Y3 XC
            go_wp2_with fail
            refine hK.out _ _ ?_ (fun hH129 => ?_)
            · (try dsimp only)
              (try trivial)
            clear hK K hH128
            refine wpAnyH_take (i := 7) (v := ?v130) rfl (by kernel_rfl) (by kernel_rfl) (by kernel_rfl) (fun _ _ _ h => h) (Or.inl ⟨by rfl, ?hy130⟩) (by assumption) ?rest130
            case hy130 => (intro w hSw; (try dsimp only at hSw); go_simp; (try with_reducible rfl))
            refine wpAnyH_ready (rs := [8, 11]) (by kernel_rfl) (by simp) ?_
            refine AllReadyH.cons rfl (fun K hK => ?_) ?_
            · have cN : w3.cell? ⟨w1.heap.size, nn, none⟩ = some (.int .i64 (kf nn)) := pickI BI3.out nn hnn
              go_simp
              refine hK.out _ _ ?_ (fun hH131 => ?_)
              · (try dsimp only)
                (try trivial)
              clear hK K hH129
              refine wpAnyH_ready (rs := [11]) (by kernel_rfl) (by simp) ?_
              refine AllReadyH.cons rfl (fun K hK => ?_) ?_
              · have XC : Hid (DS q a len cap f w [.string ⟨#[]⟩, .string ⟨#[]⟩, .int .i64 0, .string ⟨#[]⟩] 3 w3) := X3.out
                have bS : Boxed w3 (w1.heap.size + 1) [.string ⟨#[]⟩, .string ⟨#[98, 111, 100, 121]⟩, .string ⟨#[97, 98, 99]⟩] := BS3.out
                go_simp
                refine (pick_ds (by omega) (w1.heap.size + 1) _ _ _ _ XC bS (by omega)).mono ?_
                rintro e w4 ⟨bb, rfl, hbb, Y4⟩
                have HB4 : Hid (bb = ⟨#[]⟩ ∨ bb = ⟨#[98, 111, 100, 121]⟩ ∨ bb = ⟨#[97, 98, 99]⟩) := hbb
                clear hbb bS
                have BI4 : Hid (Boxed w4 (w1.heap.size) [.int .i64 2048, .int .i64 2054]) := kept_box Y4.out.2 BI3.out (by omega) (by first | omega | (simp; done) | (simp; omega))
                have BS4 : Hid (Boxed w4 (w1.heap.size + 1) [.string ⟨#[]⟩, .string ⟨#[98, 111, 100, 121]⟩, .string ⟨#[97, 98, 99]⟩]) := kept_box Y4.out.2 BS3.out (by omega) (by first | omega | (simp; done) | (simp; omega))
                have X4 : Hid (DS q a len cap f w [.string ⟨#[]⟩, .string ⟨#[]⟩, .int .i64 0, .string ⟨#[]⟩] 4 w4) := Y4.out.1
                have z4 := X4.out.lt
                have zz4 : w3.heap.size + 0 ≤ w4.heap.size := by have := Y4.out.2.size; simpa using this
                clear Y4 XC
                go_wp2_with fail
                refine hK.out _ _ ?_ (fun hH132 => ?_)
                · (try dsimp only)
                  (try trivial)
                clear hK K hH131
                refine wpAnyH_take (i := 12) (v := ?v133) rfl (by kernel_rfl) (by kernel_rfl) (by kernel_rfl) (fun _ _ _ h => h) (Or.inl ⟨by rfl, ?hy133⟩) (by assumption) ?rest133
                case hy133 => (intro w hSw; (try dsimp only at hSw); go_simp; (try with_reducible rfl))
                refine wpAnyH_ready (rs := [13]) (by kernel_rfl) (by simp) ?_
                refine AllReadyH.cons rfl (fun K hK => ?_) ?_
                · have XF : Hid (DS q a len cap f w [.string ⟨#[]⟩, .string ⟨#[]⟩, .int .i64 0, .string ⟨#[]⟩] 4 w4) := X4.out
                  have k0 := XF.out.box.1.at 0 _ rfl
                  have y0 := XF.out.box.2 0
                  have k1 := XF.out.box.1.at 1 _ rfl
                  have y1 := XF.out.box.2 1
                  have k2 := XF.out.box.1.at 2 _ rfl
                  have y2 := XF.out.box.2 2
                  have k3 := XF.out.box.1.at 3 _ rfl
                  have y3 := XF.out.box.2 3
                  go_simp
                  refine hK.out _ _ ?_ (fun hH134 => ?_)
                  · (try dsimp only)
                    (try trivial)
                  clear hK K hH132
                  refine wpAnyH_done (by kernel_rfl) ?_ _
                  clear hH134
                  go_wp2
                  (try simp only [Exit.inBlock, Exit.then])
                  refine bodyPost_ret (v := .agg #[.string d1, .string d2, .int .i64 (kf nn), .string bb]) (by simp [results, Try.results26, go_sem, *]; try rfl) rfl ?_
                  exact ⟨d1, d2, kf nn, bb, rfl, HD1.out, HD2.out, kf_or nn, tx_le HB4.out, by first | exact gr_sets4 XF.out.gr | exact grown_alloc (gr_sets4 XB.out.gr) _⟩
                exact AllReadyH.nil
              exact AllReadyH.nil
            refine AllReadyH.cons rfl (fun K hK => ?_) ?_
            · have XC : Hid (DS q a len cap f w [.string ⟨#[]⟩, .string ⟨#[]⟩, .int .i64 0, .string ⟨#[]⟩] 3 w3) := X3.out
              have bS : Boxed w3 (w1.heap.size + 1) [.string ⟨#[]⟩, .string ⟨#[98, 111, 100, 121]⟩, .string ⟨#[97, 98, 99]⟩] := BS3.out
              go_simp
              refine (pick_ds (by omega) (w1.heap.size + 1) _ _ _ _ XC bS (by omega)).mono ?_
              rintro e w4 ⟨bb, rfl, hbb, Y4⟩
              have HB4 : Hid (bb = ⟨#[]⟩ ∨ bb = ⟨#[98, 111, 100, 121]⟩ ∨ bb = ⟨#[97, 98, 99]⟩) := hbb
              clear hbb bS
              have BI4 : Hid (Boxed w4 (w1.heap.size) [.int .i64 2048, .int .i64 2054]) := kept_box Y4.out.2 BI3.out (by omega) (by first | omega | (simp; done) | (simp; omega))
              have BS4 : Hid (Boxed w4 (w1.heap.size + 1) [.string ⟨#[]⟩, .string ⟨#[98, 111, 100, 121]⟩, .string ⟨#[97, 98, 99]⟩]) := kept_box Y4.out.2 BS3.out (by omega) (by first | omega | (simp; done) | (simp; omega))
              have X4 : Hid (DS q a len cap f w [.string ⟨#[]⟩, .string ⟨#[]⟩, .int .i64 0, .string ⟨#[]⟩] 4 w4) := Y4.out.1
              have z4 := X4.out.lt
              have zz4 : w3.heap.size + 0 ≤ w4.heap.size := by have := Y4.out.2.size; simpa using this
              clear Y4 XC
              go_wp2_with fail
              refine hK.out _ _ ?_ (fun hH135 => ?_)
              · (try dsimp only)
                (try trivial)
              clear hK K hH129
              refine wpAnyH_ready (rs := [8]) (by kernel_rfl) (by simp) ?_
              refine AllReadyH.cons rfl (fun K hK => ?_) ?_
              · have cN : w4.cell? ⟨w1.heap.size, nn, none⟩ = some (.int .i64 (kf nn)) := pickI BI4.out nn hnn
                go_simp
                refine hK.out _ _ ?_ (fun hH136 => ?_)
                · (try dsimp only)
                  (try trivial)
                clear hK K hH135
                refine wpAnyH_take (i := 12) (v := ?v137) rfl (by kernel_rfl) (by kernel_rfl) (by kernel_rfl) (fun _ _ _ h => h) (Or.inl ⟨by rfl, ?hy137⟩) (by assumption) ?rest137
                case hy137 => (intro w hSw; (try dsimp only at hSw); go_simp; (try with_reducible rfl))
                refine wpAnyH_ready (rs := [13]) (by kernel_rfl) (by simp) ?_
                refine AllReadyH.cons rfl (fun K hK => ?_) ?_
                · have XF : Hid (DS q a len cap f w [.string ⟨#[]⟩, .string ⟨#[]⟩, .int .i64 0, .string ⟨#[]⟩] 4 w4) := X4.out
                  have k0 := XF.out.box.1.at 0 _ rfl
                  have y0 := XF.out.box.2 0
                  have k1 := XF.out.box.1.at 1 _ rfl
                  have y1 := XF.out.box.2 1
                  have k2 := XF.out.box.1.at 2 _ rfl
                  have y2 := XF.out.box.2 2
                  have k3 := XF.out.box.1.at 3 _ rfl
                  have y3 := XF.out.box.2 3
                  go_simp
                  refine hK.out _ _ ?_ (fun hH138 => ?_)
                  · (try dsimp only)
                    (try trivial)
                  clear hK K hH136
                  refine wpAnyH_done (by kernel_rfl) ?_ _
                  clear hH138
                  go_wp2
                  (try simp only [Exit.inBlock, Exit.then])
                  refine bodyPost_ret (v := .agg #[.string d1, .string d2, .int .i64 (kf nn), .string bb]) (by simp [results, Try.results26, go_sem, *]; try rfl) rfl ?_
                  exact ⟨d1, d2, kf nn, bb, rfl, HD1.out, HD2.out, kf_or nn, tx_le HB4.out, by first | exact gr_sets4 XF.out.gr | exact grown_alloc (gr_sets4 XB.out.gr) _⟩
                exact AllReadyH.nil
              exact AllReadyH.nil
            exact AllReadyH.nil
          exact AllReadyH.nil
        exact AllReadyH.nil
      exact AllReadyH.nil
    refine AllReadyH.cons rfl (fun K hK => ?_) ?_
    · go_simp
      refine hK.out _ _ ?_ (fun hH139 => ?_)
      · (try dsimp only)
        (try trivial)
      clear hK K hH5
      refine wpAnyH_ready (rs := [3, 4]) (by kernel_rfl) (by simp) ?_
      refine AllReadyH.cons rfl (fun K hK => ?_) ?_
      · have XC : Hid (DS q a len cap f w [.string ⟨#[]⟩, .string ⟨#[]⟩, .int .i64 0, .string ⟨#[]⟩] 1 (w1.alloc (.cells #[.string ⟨#[]⟩, .string ⟨#[98, 111, 100, 121]⟩, .string ⟨#[97, 98, 99]⟩] 9))) := (DS.alloc X1.out _)
        go_simp
        refine (mac_ds (by omega) _ XC).mono ?_
        rintro e w2 ⟨d2, rfl, hsz, Y2⟩
        have HD2 : Hid (d2.size = 6) := hsz
        clear hsz
        have BS2 : Hid (Boxed w2 (w1.heap.size) [.string ⟨#[]⟩, .string ⟨#[98, 111, 100, 121]⟩, .string ⟨#[97, 98, 99]⟩]) := kept_box Y2.out.2 (box_a w1 [.string ⟨#[]⟩, .string ⟨#[98, 111, 100, 121]⟩, .string ⟨#[97, 98, 99]⟩] _ _ (by simp)) (by omega) (by first | omega | (simp; done) | (simp; omega))
        have X2 : Hid (DS q a len cap f w [.string ⟨#[]⟩, .string ⟨#[]⟩, .int .i64 0, .string ⟨#[]⟩] 2 w2) := Y2.out.1
        have z2 := X2.out.lt
        have zz2 : w1.heap.size + 1 ≤ w2.heap.size := by have := Y2.out.2.size; simpa using this
        clear Y2 XC
        go_wp2_with fail
        refine hK.out _ _ ?_ (fun hH140 => ?_)
        · (try dsimp only)
          (try trivial)
        clear hK K hH139
        refine wpAnyH_ready (rs := [4, 6]) (by kernel_rfl) (by simp) ?_
        refine AllReadyH.cons rfl (fun K hK => ?_) ?_
        · go_simp
          refine hK.out _ _ ?_ (fun hH141 => ?_)
          · (try dsimp only)
            (try trivial)
          clear hK K hH140
          refine wpAnyH_ready (rs := [6]) (by kernel_rfl) (by simp) ?_
          refine AllReadyH.cons rfl (fun K hK => ?_) ?_
          · have XC : Hid (DS q a len cap f w [.string ⟨#[]⟩, .string ⟨#[]⟩, .int .i64 0, .string ⟨#[]⟩] 2 (w2.alloc (.cells #[.int .i64 2048, .int .i64 2054] 3))) := (DS.alloc X2.out _)
            go_simp
            refine (next_ds 2 (by omega) (by omega) (by omega) _ XC).mono ?_
            rintro e w3 ⟨vv, rfl, v0, v1, Y3⟩
            obtain ⟨nn, rfl⟩ := Int.eq_ofNat_of_zero_le v0
            have hnn : nn < 2 := by omega
            have BS3 : Hid (Boxed w3 (w1.heap.size) [.string ⟨#[]⟩, .string ⟨#[98, 111, 100, 121]⟩, .string ⟨#[97, 98, 99]⟩]) := kept_box Y3.out.2 (Boxed.alloc BS2.out (by first | omega | (simp; done) | (simp; omega)) _) (by omega) (by first | omega | (simp; done) | (simp; omega))
            have BI3 : Hid (Boxed w3 (w2.heap.size) [.int .i64 2048, .int .i64 2054]) := kept_box Y3.out.2 (box_a w2 [.int .i64 2048, .int .i64 2054] _ _ (by simp)) (by omega) (by first | omega | (simp; done) | (simp; omega))
            have X3 : Hid (DS q a len cap f w [.string ⟨#[]⟩, .string ⟨#[]⟩, .int .i64 0, .string ⟨#[]⟩] 3 w3) := Y3.out.1
            have z3 := X3.out.lt
            have zz3 : w2.heap.size + 1 ≤ w3.heap.size := by have := Y3.out.2.size; simpa using this
            clear Y3 XC
            go_wp2_with fail
            refine hK.out _ _ ?_ (fun hH142 => ?_)
            · (try dsimp only)
              (try trivial)
            clear hK K hH141
            refine wpAnyH_take (i := 7) (v := ?v143) rfl (by kernel_rfl) (by kernel_rfl) (by kernel_rfl) (fun _ _ _ h => h) (Or.inl ⟨by rfl, ?hy143⟩) (by assumption) ?rest143
            case hy143 => (intro w hSw; (try dsimp only at hSw); go_simp; (try with_reducible rfl))
            refine wpAnyH_ready (rs := [8, 11]) (by kernel_rfl) (by simp) ?_
            refine AllReadyH.cons rfl (fun K hK => ?_) ?_
            · have cN : w3.cell? ⟨w2.heap.size, nn, none⟩ = some (.int .i64 (kf nn)) := pickI BI3.out nn hnn
              go_simp
              refine hK.out _ _ ?_ (fun hH144 => ?_)
              · (try dsimp only)
                (try trivial)
              clear hK K hH142
              refine wpAnyH_ready (rs := [11]) (by kernel_rfl) (by simp) ?_
              refine AllReadyH.cons rfl (fun K hK => ?_) ?_
              · have XC : Hid (DS q a len cap f w [.string ⟨#[]⟩, .string ⟨#[]⟩, .int .i64 0, .string ⟨#[]⟩] 3 w3) := X3.out
                have bS : Boxed w3 (w1.heap.size) [.string ⟨#[]⟩, .string ⟨#[98, 111, 100, 121]⟩, .string ⟨#[97, 98, 99]⟩] := BS3.out
                go_simp
                refine (pick_ds (by omega) (w1.heap.size) _ _ _ _ XC bS (by omega)).mono ?_
                rintro e w4 ⟨bb, rfl, hbb, Y4⟩
                have HB4 : Hid (bb = ⟨#[]⟩ ∨ bb = ⟨#[98, 111, 100, 121]⟩ ∨ bb = ⟨#[97, 98, 99]⟩) := hbb
                clear hbb bS
                have BS4 : Hid (Boxed w4 (w1.heap.size) [.string ⟨#[]⟩, .string ⟨#[98, 111, 100, 121]⟩, .string ⟨#[97, 98, 99]⟩]) := kept_box Y4.out.2 BS3.out (by omega) (by first | omega | (simp; done) | (simp; omega))
                have BI4 : Hid (Boxed w4 (w2.heap.size) [.int .i64 2048, .int .i64 2054]) := kept_box Y4.out.2 BI3.out (by omega) (by first | omega | (simp; done) | (simp; omega))
                have X4 : Hid (DS q a len cap f w [.string ⟨#[]⟩, .string ⟨#[]⟩, .int .i64 0, .string ⟨#[]⟩] 4 w4) := Y4.out.1
                have z4 := X4.out.lt
                have zz4 : w3.heap.size + 0 ≤ w4.heap.size := by have := Y4.out.2.size; simpa using this
                clear Y4 XC
                go_wp2_with fail
                refine hK.out _ _ ?_ (fun hH145 => ?_)
                · (try dsimp only)
                  (try trivial)
                clear hK K hH144
                refine wpAnyH_take (i := 12) (v := ?v146) rfl (by kernel_rfl) (by kernel_rfl) (by kernel_rfl) (fun _ _ _ h => h) (Or.inl ⟨by rfl, ?hy146⟩) (by assumption) ?rest146
                case hy146 => (intro w hSw; (try dsimp only at hSw); go_simp; (try with_reducible rfl))
                refine wpAnyH_ready (rs := [13]) (by kernel_rfl) (by simp) ?_
                refine AllReadyH.cons rfl (fun K hK => ?_) ?_
                · have XF : Hid (DS q a len cap f w [.string ⟨#[]⟩, .string ⟨#[]⟩, .int .i64 0, .string ⟨#[]⟩] 4 w4) := X4.out
                  have k0 := XF.out.box.1.at 0 _ rfl
                  have y0 := XF.out.box.2 0
                  have k1 := XF.out.box.1.at 1 _ rfl
                  have y1 := XF.out.box.2 1
                  have k2 := XF.out.box.1.at 2 _ rfl
                  have y2 := XF.out.box.2 2
                  have k3 := XF.out.box.1.at 3 _ rfl
                  have y3 := XF.out.box.2 3
                  go_simp
                  refine hK.out _ _ ?_ (fun hH147 => ?_)
                  · (try dsimp only)
                    (try trivial)
                  clear hK K hH145
                  refine wpAnyH_done (by kernel_rfl) ?_ _
                  clear hH147
                  go_wp2
                  (try simp only [Exit.inBlock, Exit.then])
                  refine bodyPost_ret (v := .agg #[.string d1, .string d2, .int .i64 (kf nn), .string bb]) (by simp [results, Try.results26, go_sem, *]; try rfl) rfl ?_
                  exact ⟨d1, d2, kf nn, bb, rfl, HD1.out, HD2.out, kf_or nn, tx_le HB4.out, by first | exact gr_sets4 XF.out.gr | exact grown_alloc (gr_sets4 XB.out.gr) _⟩
                exact AllReadyH.nil
              exact AllReadyH.nil
            refine AllReadyH.cons rfl (fun K hK => ?_) ?_
            · have XC : Hid (DS q a len cap f w [.string ⟨#[]⟩, .string ⟨#[]⟩, .int .i64 0, .string ⟨#[]⟩] 3 w3) := X3.out
              have bS : Boxed w3 (w1.heap.size) [.string ⟨#[]⟩, .string ⟨#[98, 111, 100, 121]⟩, .string ⟨#[97, 98, 99]⟩] := BS3.out
              go_simp
              refine (pick_ds (by omega) (w1.heap.size) _ _ _ _ XC bS (by omega)).mono ?_
              rintro e w4 ⟨bb, rfl, hbb, Y4⟩
              have HB4 : Hid (bb = ⟨#[]⟩ ∨ bb = ⟨#[98, 111, 100, 121]⟩ ∨ bb = ⟨#[97, 98, 99]⟩) := hbb
              clear hbb bS
              have BS4 : Hid (Boxed w4 (w1.heap.size) [.string ⟨#[]⟩, .string ⟨#[98, 111, 100, 121]⟩, .string ⟨#[97, 98, 99]⟩]) := kept_box Y4.out.2 BS3.out (by omega) (by first | omega | (simp; done) | (simp; omega))
              have BI4 : Hid (Boxed w4 (w2.heap.size) [.int .i64 2048, .int .i64 2054]) := kept_box Y4.out.2 BI3.out (by omega) (by first | omega | (simp; done) | (simp; omega))
              have X4 : Hid (DS q a len cap f w [.string ⟨#[]⟩, .string ⟨#[]⟩, .int .i64 0, .string ⟨#[]⟩] 4 w4) := Y4.out.1
              have z4 := X4.out.lt
              have zz4 : w3.heap.size + 0 ≤ w4.heap.size := by have := Y4.out.2.size; simpa using this
              clear Y4 XC
              go_wp2_with fail
              refine hK.out _ _ ?_ (fun hH148 => ?_)
              · (try dsimp only)
                (try trivial)
              clear hK K hH142
              refine wpAnyH_ready (rs := [8]) (by kernel_rfl) (by simp) ?_
              refine AllReadyH.cons rfl (fun K hK => ?_) ?_
              · have cN : w4.cell? ⟨w2.heap.size, nn, none⟩ = some (.int .i64 (kf nn)) := pickI BI4.out nn hnn
                go_simp
                refine hK.out _ _ ?_ (fun hH149 => ?_)
                · (try dsimp only)
                  (try trivial)
                clear hK K hH148
                refine wpAnyH_take (i := 12) (v := ?v150) rfl (by kernel_rfl) (by kernel_rfl) (by kernel_rfl) (fun _ _ _ h => h) (Or.inl ⟨by rfl, ?hy150⟩) (by assumption) ?rest150
                case hy150 => (intro w hSw; (try dsimp only at hSw); go_simp; (try with_reducible rfl))
                refine wpAnyH_ready (rs := [13]) (by kernel_rfl) (by simp) ?_
                refine AllReadyH.cons rfl (fun K hK => ?_) ?_
                · have XF : Hid (DS q a len cap f w [.string ⟨#[]⟩, .string ⟨#[]⟩, .int .i64 0, .string ⟨#[]⟩] 4 w4) := X4.out
                  have k0 := XF.out.box.1.at 0 _ rfl
                  have y0 := XF.out.box.2 0
                  have k1 := XF.out.box.1.at 1 _ rfl
                  have y1 := XF.out.box.2 1
                  have k2 := XF.out.box.1.at 2 _ rfl
                  have y2 := XF.out.box.2 2
                  have k3 := XF.out.box.1.at 3 _ rfl
                  have y3 := XF.out.box.2 3
                  go_simp
                  refine hK.out _ _ ?_ (fun hH151 => ?_)
                  · (try dsimp only)
                    (try trivial)
                  clear hK K hH149
                  refine wpAnyH_done (by kernel_rfl) ?_ _
                  clear hH151
                  go_wp2
                  (try simp only [Exit.inBlock, Exit.then])
                  refine bodyPost_ret (v := .agg #[.string d1, .string d2, .int .i64 (kf nn), .string bb]) (by simp [results, Try.results26, go_sem, *]; try rfl) rfl ?_
                  exact ⟨d1, d2, kf nn, bb, rfl, HD1.out, HD2.out, kf_or nn, tx_le HB4.out, by first | exact gr_sets4 XF.out.gr | exact grown_alloc (gr_sets4 XB.out.gr) _⟩
                exact AllReadyH.nil
              exact AllReadyH.nil
            exact AllReadyH.nil
          exact AllReadyH.nil
        refine AllReadyH.cons rfl (fun K hK => ?_) ?_
        · have XC : Hid (DS q a len cap f w [.string ⟨#[]⟩, .string ⟨#[]⟩, .int .i64 0, .string ⟨#[]⟩] 2 w2) := X2.out
          go_simp
          refine (next_ds 2 (by omega) (by omega) (by omega) _ XC).mono ?_
          rintro e w3 ⟨vv, rfl, v0, v1, Y3⟩
          obtain ⟨nn, rfl⟩ := Int.eq_ofNat_of_zero_le v0
          have hnn : nn < 2 := by omega
          have BS3 : Hid (Boxed w3 (w1.heap.size) [.string ⟨#[]⟩, .string ⟨#[98, 111, 100, 121]⟩, .string ⟨#[97, 98, 99]⟩]) := kept_box Y3.out.2 BS2.out (by omega) (by first | omega | (simp; done) | (simp; omega))
          have X3 : Hid (DS q a len cap f w [.string ⟨#[]⟩, .string ⟨#[]⟩, .int .i64 0, .string ⟨#[]⟩] 3 w3) := Y3.out.1
          have z3 := X3.out.lt
          have zz3 : w2.heap.size + 0 ≤ w3.heap.size := by have := Y3.out.2.size; simpa using this
          clear Y3 XC
          go_wp2_with fail
          refine hK.out _ _ ?_ (fun hH152 => ?_)
          · (try dsimp only)
            (try trivial)
          clear hK K hH140
          refine wpAnyH_ready (rs := [4, 11]) (by kernel_rfl) (by simp) ?_
          refine AllReadyH.cons rfl (fun K hK => ?_) ?_
          · go_simp
            refine hK.out _ _ ?_ (fun hH153 => ?_)
            · (try dsimp only)
              (try trivial)
            clear hK K hH152
            refine wpAnyH_take (i := 7) (v := ?v154) rfl (by kernel_rfl) (by kernel_rfl) (by kernel_rfl) (fun _ _ _ h => h) (Or.inl ⟨by rfl, ?hy154⟩) (by assumption) ?rest154
            case hy154 => (intro w hSw; (try dsimp only at hSw); go_simp; (try with_reducible rfl))
            refine wpAnyH_ready (rs := [8, 11]) (by kernel_rfl) (by simp) ?_
            refine AllReadyH.cons rfl (fun K hK => ?_) ?_
            · have cN : (w3.alloc (.cells #[.int .i64 2048, .int .i64 2054] 3)).cell? ⟨w3.heap.size, nn, none⟩ = some (.int .i64 (kf nn)) := pickI (box_a w3 [.int .i64 2048, .int .i64 2054] _ _ (by simp)) nn hnn
              go_simp
              refine hK.out _ _ ?_ (fun hH155 => ?_)
              · (try dsimp only)
                (try trivial)
              clear hK K hH153
              refine wpAnyH_ready (rs := [11]) (by kernel_rfl) (by simp) ?_
              refine AllReadyH.cons rfl (fun K hK => ?_) ?_
              · have XC : Hid (DS q a len cap f w [.string ⟨#[]⟩, .string ⟨#[]⟩, .int .i64 0, .string ⟨#[]⟩] 3 (w3.alloc (.cells #[.int .i64 2048, .int .i64 2054] 3))) := (DS.alloc X3.out _)
                have bS : Boxed (w3.alloc (.cells #[.int .i64 2048, .int .i64 2054] 3)) (w1.heap.size) [.string ⟨#[]⟩, .string ⟨#[98, 111, 100, 121]⟩, .string ⟨#[97, 98, 99]⟩] := (Boxed.alloc BS3.out (by first | omega | (simp; done) | (simp; omega)) _)
                go_simp
                refine (pick_ds (by omega) (w1.heap.size) _ _ _ _ XC bS (by omega)).mono ?_
                rintro e w4 ⟨bb, rfl, hbb, Y4⟩
                have HB4 : Hid (bb = ⟨#[]⟩ ∨ bb = ⟨#[98, 111, 100, 121]⟩ ∨ bb = ⟨#[97, 98, 99]⟩) := hbb
                clear hbb bS
                have BS4 : Hid (Boxed w4 (w1.heap.size) [.string ⟨#[]⟩, .string ⟨#[98, 111, 100, 121]⟩, .string ⟨#[97, 98, 99]⟩]) := kept_box Y4.out.2 (Boxed.alloc BS3.out (by first | omega | (simp; done) | (simp; omega)) _) (by omega) (by first | omega | (simp; done) | (simp; omega))
                have BI4 : Hid (Boxed w4 (w3.heap.size) [.int .i64 2048, .int .i64 2054]) := kept_box Y4.out.2 (box_a w3 [.int .i64 2048, .int .i64 2054] _ _ (by simp)) (by omega) (by first | omega | (simp; done) | (simp; omega))
                have X4 : Hid (DS q a len cap f w [.string ⟨#[]⟩, .string ⟨#[]⟩, .int .i64 0, .string ⟨#[]⟩] 4 w4) := Y4.out.1
                have z4 := X4.out.lt
                have zz4 : w3.heap.size + 1 ≤ w4.heap.size := by have := Y4.out.2.size; simpa using this
                clear Y4 XC
                go_wp2_with fail
                refine hK.out _ _ ?_ (fun hH156 => ?_)
                · (try dsimp only)
                  (try trivial)
                clear hK K hH155
                refine wpAnyH_take (i := 12) (v := ?v157) rfl (by kernel_rfl) (by kernel_rfl) (by kernel_rfl) (fun _ _ _ h => h) (Or.inl ⟨by rfl, ?hy157⟩) (by assumption) ?rest157
                case hy157 => (intro w hSw; (try dsimp only at hSw); go_simp; (try with_reducible rfl))
                refine wpAnyH_ready (rs := [13]) (by kernel_rfl) (by simp) ?_
                refine AllReadyH.cons rfl (fun K hK => ?_) ?_
                · have XF : Hid (DS q a len cap f w [.string ⟨#[]⟩, .string ⟨#[]⟩, .int .i64 0, .string ⟨#[]⟩] 4 w4) := X4.out
                  have k0 := XF.out.box.1.at 0 _ rfl
                  have y0 := XF.out.box.2 0
                  have k1 := XF.out.box.1.at 1 _ rfl
                  have y1 := XF.out.box.2 1
                  have k2 := XF.out.box.1.at 2 _ rfl
                  have y2 := XF.out.box.2 2
                  have k3 := XF.out.box.1.at 3 _ rfl
                  have y3 := XF.out.box.2 3
                  go_simp
                  refine hK.out _ _ ?_ (fun hH158 => ?_)
                  · (try dsimp only)
                    (try trivial)
                  clear hK K hH156
                  refine wpAnyH_done (by kernel_rfl) ?_ _
                  clear hH158
                  go_wp2
                  (try simp only [Exit.inBlock, Exit.then])
                  refine bodyPost_ret (v := .agg #[.string d1, .string d2, .int .i64 (kf nn), .string bb]) (by simp [results, Try.results26, go_sem, *]; try rfl) rfl ?_
                  exact ⟨d1, d2, kf nn, bb, rfl, HD1.out, HD2.out, kf_or nn, tx_le HB4.out, by first | exact gr_sets4 XF.out.gr | exact grown_alloc (gr_sets4 XB.out.gr) _⟩
                exact AllReadyH.nil
              exact AllReadyH.nil
            refine AllReadyH.cons rfl (fun K hK => ?_) ?_
            · have XC : Hid (DS q a len cap f w [.string ⟨#[]⟩, .string ⟨#[]⟩, .int .i64 0, .string ⟨#[]⟩] 3 (w3.alloc (.cells #[.int .i64 2048, .int .i64 2054] 3))) := (DS.alloc X3.out _)
              have bS : Boxed (w3.alloc (.cells #[.int .i64 2048, .int .i64 2054] 3)) (w1.heap.size) [.string ⟨#[]⟩, .string ⟨#[98, 111, 100, 121]⟩, .string ⟨#[97, 98, 99]⟩] := (Boxed.alloc BS3.out (by first | omega | (simp; done) | (simp; omega)) _)
              go_simp
              refine (pick_ds (by omega) (w1.heap.size) _ _ _ _ XC bS (by omega)).mono ?_
              rintro e w4 ⟨bb, rfl, hbb, Y4⟩
              have HB4 : Hid (bb = ⟨#[]⟩ ∨ bb = ⟨#[98, 111, 100, 121]⟩ ∨ bb = ⟨#[97, 98, 99]⟩) := hbb
              clear hbb bS
              have BS4 : Hid (Boxed w4 (w1.heap.size) [.string ⟨#[]⟩, .string ⟨#[98, 111, 100, 121]⟩, .string ⟨#[97, 98, 99]⟩]) := kept_box Y4.out.2 (Boxed.alloc BS3.out (by first | omega | (simp; done) | (simp; omega)) _) (by omega) (by first | omega | (simp; done) | (simp; omega))
              have BI4 : Hid (Boxed w4 (w3.heap.size) [.int .i64 2048, .int .i64 2054]) := kept_box Y4.out.2 (box_a w3 [.int .i64 2048, .int .i64 2054] _ _ (by simp)) (by omega) (by first | omega | (simp; done) | (simp; omega))
              have X4 : Hid (DS q a len cap f w [.string ⟨#[]⟩, .string ⟨#[]⟩, .int .i64 0, .string ⟨#[]⟩] 4 w4) := Y4.out.1
              have z4 := X4.out.lt
              have zz4 : w3.heap.size + 1 ≤ w4.heap.size := by have := Y4.out.2.size; simpa using this
              clear Y4 XC
              go_wp2_with fail
              refine hK.out _ _ ?_ (fun hH159 => ?_)
              · (try dsimp only)
                (try trivial)
              clear hK K hH153
              refine wpAnyH_ready (rs := [8]) (by kernel_rfl) (by simp) ?_
              refine AllReadyH.cons rfl (fun K hK => ?_) ?_
              · have cN : w4.cell? ⟨w3.heap.size, nn, none⟩ = some (.int .i64 (kf nn)) := pickI BI4.out nn hnn
                go_simp
                refine hK.out _ _ ?_ (fun hH160 => ?_)
                · (try dsimp only)
                  (try trivial)
                clear hK K hH159
                refine wpAnyH_take (i := 12) (v := ?v161) rfl (by kernel_rfl) (by kernel_rfl) (by kernel_rfl) (fun _ _ _ h => h) (Or.inl ⟨by rfl, ?hy161⟩) (by assumption) ?rest161
                case hy161 => (intro w hSw; (try dsimp only at hSw); go_simp; (try with_reducible rfl))
                refine wpAnyH_ready (rs := [13]) (by kernel_rfl) (by simp) ?_
                refine AllReadyH.cons rfl (fun K hK => ?_) ?_
                · have XF : Hid (DS q a len cap f w [.string ⟨#[]⟩, .string ⟨#[]⟩, .int .i64 0, .string ⟨#[]⟩] 4 w4) := X4.out
                  have k0 := XF.out.box.1.at 0 _ rfl
                  have y0 := XF.out.box.2 0
                  have k1 := XF.out.box.1.at 1 _ rfl
                  have y1 := XF.out.box.2 1
                  have k2 := XF.out.box.1.at 2 _ rfl
                  have y2 := XF.out.box.2 2
                  have k3 := XF.out.box.1.at 3 _ rfl
                  have y3 := XF.out.box.2 3
                  go_simp
                  refine hK.out _ _ ?_ (fun hH162 => ?_)
                  · (try dsimp only)
                    (try trivial)
                  clear hK K hH160
                  refine wpAnyH_done (by kernel_rfl) ?_ _
                  clear hH162
                  go_wp2
                  (try simp only [Exit.inBlock, Exit.then])
                  refine bodyPost_ret (v := .agg #[.string d1, .string d2, .int .i64 (kf nn), .string bb]) (by simp [results, Try.results26, go_sem, *]; try rfl) rfl ?_
                  exact ⟨d1, d2, kf nn, bb, rfl, HD1.out, HD2.out, kf_or nn, tx_le HB4.out, by first | exact gr_sets4 XF.out.gr | exact grown_alloc (gr_sets4 XB.out.gr) _⟩
                exact AllReadyH.nil
              exact AllReadyH.nil
            exact AllReadyH.nil
          refine AllReadyH.cons rfl (fun K hK => ?_) ?_
          · have XC : Hid (DS q a len cap f w [.string ⟨#[]⟩, .string ⟨#[]⟩, .int .i64 0, .string ⟨#[]⟩] 3 w3) := X3.out
            have bS : Boxed w3 (w1.heap.size) [.string ⟨#[]⟩, .string ⟨#[98, 111, 100, 121]⟩, .string ⟨#[97, 98, 99]⟩] := BS3.out
            go_simp
            refine (pick_ds (by omega) (w1.heap.size) _ _ _ _ XC bS (by omega)).mono ?_
            rintro e w4 ⟨bb, rfl, hbb, Y4⟩
            have HB4 : Hid (bb = ⟨#[]⟩ ∨ bb = ⟨#[98, 111, 100, 121]⟩ ∨ bb = ⟨#[97, 98, 99]⟩) := hbb
            clear hbb bS
            have BS4 : Hid (Boxed w4 (w1.heap.size) [.string ⟨#[]⟩, .string ⟨#[98, 111, 100, 121]⟩, .string ⟨#[97, 98, 99]⟩]) := kept_box Y4.out.2 BS3.out (by omega) (by first | omega | (simp; done) | (simp; omega))
            have X4 : Hid (DS q a len cap f w [.string ⟨#[]⟩, .string ⟨#[]⟩, .int .i64 0, .string ⟨#[]⟩] 4 w4) := Y4.out.1
            have z4 := X4.out.lt
            have zz4 : w3.heap.size + 0 ≤ w4.heap.size := by have := Y4.out.2.size; simpa using this
            clear Y4 XC
            go_wp2_with fail
            refine hK.out _ _ ?_ (fun hH163 => ?_)
            · (try dsimp only)
              (try trivial)
            clear hK K hH152
            refine wpAnyH_ready (rs := [4]) (by kernel_rfl) (by simp) ?_
            refine AllReadyH.cons rfl (fun K hK => ?_) ?_
            · go_simp
              refine hK.out _ _ ?_ (fun hH164 => ?_)
              · (try dsimp only)
                (try trivial)
              clear hK K hH163
              refine wpAnyH_take (i := 7) (v := ?v165) rfl (by kernel_rfl) (by kernel_rfl) (by kernel_rfl) (fun _ _ _ h => h) (Or.inl ⟨by rfl, ?hy165⟩) (by assumption) ?rest165
              case hy165 => (intro w hSw; (try dsimp only at hSw); go_simp; (try with_reducible rfl))
              refine wpAnyH_ready (rs := [8]) (by kernel_rfl) (by simp) ?_
              refine AllReadyH.cons rfl (fun K hK => ?_) ?_
              · have cN : (w4.alloc (.cells #[.int .i64 2048, .int .i64 2054] 3)).cell? ⟨w4.heap.size, nn, none⟩ = some (.int .i64 (kf nn)) := pickI (box_a w4 [.int .i64 2048, .int .i64 2054] _ _ (by simp)) nn hnn
                go_simp
                refine hK.out _ _ ?_ (fun hH166 => ?_)
                · (try dsimp only)
                  (try trivial)
                clear hK K hH164
                refine wpAnyH_take (i := 12) (v := ?v167) rfl (by kernel_rfl) (by kernel_rfl) (by kernel_rfl) (fun _ _ _ h => h) (Or.inl ⟨by rfl, ?hy167⟩) (by assumption) ?rest167
                case hy167 => (intro w hSw; (try dsimp only at hSw); go_simp; (try with_reducible rfl))
                refine wpAnyH_ready (rs := [13]) (by kernel_rfl) (by simp) ?_
                refine AllReadyH.cons rfl (fun K hK => ?_) ?_
                · have XF : Hid (DS q a len cap f w [.string ⟨#[]⟩, .string ⟨#[]⟩, .int .i64 0, .string ⟨#[]⟩] 4 (w4.alloc (.cells #[.int .i64 2048, .int .i64 2054] 3))) := (DS.alloc X4.out _)
                  have k0 := XF.out.box.1.at 0 _ rfl
                  have y0 := XF.out.box.2 0
                  have k1 := XF.out.box.1.at 1 _ rfl
                  have y1 := XF.out.box.2 1
                  have k2 := XF.out.box.1.at 2 _ rfl
                  have y2 := XF.out.box.2 2
                  have k3 := XF.out.box.1.at 3 _ rfl
                  have y3 := XF.out.box.2 3
                  have XB : Hid (DS q a len cap f w [.string ⟨#[]⟩, .string ⟨#[]⟩, .int .i64 0, .string ⟨#[]⟩] 4 w4) := X4.out
                  have nne : w4.heap.size ≠ w.heap.size := by omega
                  have kb0 := XB.out.box.1.at 0 _ rfl
                  have yb0 := XB.out.box.2 0
                  have kb1 := XB.out.box.1.at 1 _ rfl
                  have yb1 := XB.out.box.2 1
                  have kb2 := XB.out.box.1.at 2 _ rfl
                  have yb2 := XB.out.box.2 2
                  have kb3 := XB.out.box.1.at 3 _ rfl
                  have yb3 := XB.out.box.2 3
                  go_simp
                  refine hK.out _ _ ?_ (fun hH168 => ?_)
                  · (try dsimp only)
                    (try trivial)
                  clear hK K hH166
                  refine wpAnyH_done (by kernel_rfl) ?_ _
                  clear hH168
                  go_wp2
                  (try simp only [Exit.inBlock, Exit.then])
                  refine bodyPost_ret (v := .agg #[.string d1, .string d2, .int .i64 (kf nn), .string bb]) (by simp [results, Try.results26, go_sem, *]; try rfl) rfl ?_
                  exact ⟨d1, d2, kf nn, bb, rfl, HD1.out, HD2.out, kf_or nn, tx_le HB4.out, by first | exact gr_sets4 XF.out.gr | exact grown_alloc (gr_sets4 XB.out.gr) _⟩
                exact AllReadyH.nil
              exact AllReadyH.nil
            exact AllReadyH.nil
          exact AllReadyH.nil
        exact AllReadyH.nil
      refine AllReadyH.cons rfl (fun K hK => ?_) ?_
      · go_simp
        refine hK.out _ _ ?_ (fun hH169 => ?_)
        · (try dsimp only)
          (try trivial)
        clear hK K hH139
        refine wpAnyH_ready (rs := [3]) (by kernel_rfl) (by simp) ?_
        refine AllReadyH.cons rfl (fun K hK => ?_) ?_
        · have XC : Hid (DS q a len cap f w [.string ⟨#[]⟩, .string ⟨#[]⟩, .int .i64 0, .string ⟨#[]⟩] 1 ((w1.alloc (.cells #[.string ⟨#[]⟩, .string ⟨#[98, 111, 100, 121]⟩, .string ⟨#[97, 98, 99]⟩] 9)).alloc (.cells #[.int .i64 2048, .int .i64 2054] 3))) := (DS.alloc (DS.alloc X1.out _) _)
          go_simp
          refine (mac_ds (by omega) _ XC).mono ?_
          rintro e w2 ⟨d2, rfl, hsz, Y2⟩
          have HD2 : Hid (d2.size = 6) := hsz
          clear hsz
          have BS2 : Hid (Boxed w2 (w1.heap.size) [.string ⟨#[]⟩, .string ⟨#[98, 111, 100, 121]⟩, .string ⟨#[97, 98, 99]⟩]) := kept_box Y2.out.2 (box_ab w1 [.string ⟨#[]⟩, .string ⟨#[98, 111, 100, 121]⟩, .string ⟨#[97, 98, 99]⟩] _ _ _ (by simp)) (by omega) (by first | omega | (simp; done) | (simp; omega))
          have BI2 : Hid (Boxed w2 (w1.heap.size + 1) [.int .i64 2048, .int .i64 2054]) := kept_box Y2.out.2 (box_b w1 [.int .i64 2048, .int .i64 2054] _ _ _ (by simp)) (by omega) (by first | omega | (simp; done) | (simp; omega))
          have X2 : Hid (DS q a len cap f w [.string ⟨#[]⟩, .string ⟨#[]⟩, .int .i64 0, .string ⟨#[]⟩] 2 w2) := Y2.out.1
          have z2 := X2.out.lt
          have zz2 : w1.heap.size + 2 ≤ w2.heap.size := by have := Y2.out.2.size; simpa using this
          clear Y2 XC
          go_wp2_with fail
          refine hK.out _ _ ?_ (fun hH170 => ?_)
          · (try dsimp only)
            (try trivial)
          clear hK K hH169
          refine wpAnyH_ready (rs := [6]) (by kernel_rfl) (by simp) ?_
          refine AllReadyH.cons rfl (fun K hK => ?_) ?_
          · have XC : Hid (DS q a len cap f w [.string ⟨#[]⟩, .string ⟨#[]⟩, .int .i64 0, .string ⟨#[]⟩] 2 w2) := X2.out
            go_simp
            refine (next_ds 2 (by omega) (by omega) (by omega) _ XC).mono ?_
            rintro e w3 ⟨vv, rfl, v0, v1, Y3⟩
            obtain ⟨nn, rfl⟩ := Int.eq_ofNat_of_zero_le v0
            have hnn : nn < 2 := by omega
            have BS3 : Hid (Boxed w3 (w1.heap.size) [.string ⟨#[]⟩, .string ⟨#[98, 111, 100, 121]⟩, .string ⟨#[97, 98, 99]⟩]) := kept_box Y3.out.2 BS2.out (by omega) (by first | omega | (simp; done) | (simp; omega))
            have BI3 : Hid (Boxed w3 (w1.heap.size + 1) [.int .i64 2048, .int .i64 2054]) := kept_box Y3.out.2 BI2.out (by omega) (by first | omega | (simp; done) | (simp; omega))
            have X3 : Hid (DS q a len cap f w [.string ⟨#[]⟩, .string ⟨#[]⟩, .int .i64 0, .string ⟨#[]⟩] 3 w3) := Y3.out.1
            have z3 := X3.out.lt
            have zz3 : w2.heap.size + 0 ≤ w3.heap.size := by have := Y3.out.2.size; simpa using this
            clear Y3 XC
            go_wp2_with fail
            refine hK.out _ _ ?_ (fun hH171 => ?_)
            · (try dsimp only)
              (try trivial)
            clear hK K hH170
            refine wpAnyH_take (i := 7) (v := ?v172) rfl (by kernel_rfl) (by kernel_rfl) (by kernel_rfl) (fun _ _ _ h => h) (Or.inl ⟨by rfl, ?hy172⟩) (by assumption) ?rest172
            case hy172 => (intro w hSw; (try dsimp only at hSw); go_simp; (try with_reducible rfl))
            refine wpAnyH_ready (rs := [8, 11]) (by kernel_rfl) (by simp) ?_
            refine AllReadyH.cons rfl (fun K hK => ?_) ?_
            · have cN : w3.cell? ⟨w1.heap.size + 1, nn, none⟩ = some (.int .i64 (kf nn)) := pickI BI3.out nn hnn
              go_simp
              refine hK.out _ _ ?_ (fun hH173 => ?_)
              · (try dsimp only)
                (try trivial)
              clear hK K hH171
              refine wpAnyH_ready (rs := [11]) (by kernel_rfl) (by simp) ?_
              refine AllReadyH.cons rfl (fun K hK => ?_) ?_
              · have XC : Hid (DS q a len cap f w [.string ⟨#[]⟩, .string ⟨#[]⟩, .int .i64 0, .string ⟨#[]⟩] 3 w3) := X3.out
                have bS : Boxed w3 (w1.heap.size) [.string ⟨#[]⟩, .string ⟨#[98, 111, 100, 121]⟩, .string ⟨#[97, 98, 99]⟩] := BS3.out
                go_simp
                refine (pick_ds (by omega) (w1.heap.size) _ _ _ _ XC bS (by omega)).mono ?_
                rintro e w4 ⟨bb, rfl, hbb, Y4⟩
                have HB4 : Hid (bb = ⟨#[]⟩ ∨ bb = ⟨#[98, 111, 100, 121]⟩ ∨ bb = ⟨#[97, 98, 99]⟩) := hbb
                clear hbb bS
                have BS4 : Hid (Boxed w4 (w1.heap.size) [.string ⟨#[]⟩, .string ⟨#[98, 111, 100, 121]⟩, .string ⟨#[97, 98, 99]⟩]) := kept_box Y4.out.2 BS3.out (by omega) (by first | omega | (simp; done) | (simp; omega))
                have BI4 : Hid (Boxed w4 (w1.heap.size + 1) [.int .i64 2048, .int .i64 2054]) := kept_box Y4.out.2 BI3.out (by omega) (by first | omega | (simp; done) | (simp; omega))
                have X4 : Hid (DS q a len cap f w [.string ⟨#[]⟩, .string ⟨#[]⟩, .int .i64 0, .string ⟨#[]⟩] 4 w4) := Y4.out.1
                have z4 := X4.out.lt
                have zz4 : w3.heap.size + 0 ≤ w4.heap.size := by have := Y4.out.2.size; simpa using this
                clear Y4 XC
                go_wp2_with fail
                refine hK.out _ _ ?_ (fun hH174 => ?_)
                · (try dsimp only)
                  (try trivial)
                clear hK K hH173
                refine wpAnyH_take (i := 12) (v := ?v175) rfl (by kernel_rfl) (by kernel_rfl) (by kernel_rfl) (fun _ _ _ h => h) (Or.inl ⟨by rfl, ?hy175⟩) (by assumption) ?rest175
                case hy175 => (intro w hSw; (try dsimp only at hSw); go_simp; (try with_reducible rfl))
                refine wpAnyH_ready (rs := [13]) (by kernel_rfl) (by simp) ?_
                refine AllReadyH.cons rfl (fun K hK => ?_) ?_
                · have XF : Hid (DS q a len cap f w [.string ⟨#[]⟩, .string ⟨#[]⟩, .int .i64 0, .string ⟨#[]⟩] 4 w4) := X4.out
                  have k0 := XF.out.box.1.at 0 _ rfl
                  have y0 := XF.out.box.2 0
                  have k1 := XF.out.box.1.at 1 _ rfl
                  have y1 := XF.out.box.2 1
                  have k2 := XF.out.box.1.at 2 _ rfl
                  have y2 := XF.out.box.2 2
                  have k3 := XF.out.box.1.at 3 _ rfl
                  have y3 := XF.out.box.2 3
                  go_simp
                  refine hK.out _ _ ?_ (fun hH176 => ?_)
                  · (try dsimp only)
                    (try trivial)
                  clear hK K hH174
                  refine wpAnyH_done (by kernel_rfl) ?_ _
                  clear hH176
                  go_wp2
                  (try simp only [Exit.inBlock, Exit.then])
                  refine bodyPost_ret (v := .agg #[.string d1, .string d2, .int .i64 (kf nn), .string bb]) (by simp [results, Try.results26, go_sem, *]; try rfl) rfl ?_
                  exact ⟨d1, d2, kf nn, bb, rfl, HD1.out, HD2.out, kf_or nn, tx_le HB4.out, by first | exact gr_sets4 XF.out.gr | exact grown_alloc (gr_sets4 XB.out.gr) _⟩
                exact AllReadyH.nil
              exact AllReadyH.nil
            refine AllReadyH.cons rfl (fun K hK => ?_) ?_
            · have XC : Hid (DS q a len cap f w [.string ⟨#[]⟩, .string ⟨#[]⟩, .int .i64 0, .string ⟨#[]⟩] 3 w3) := X3.out
              have bS : Boxed w3 (w1.heap.size) [.string ⟨#[]⟩, .string ⟨#[98, 111, 100, 121]⟩, .string ⟨#[97, 98, 99]⟩] := BS3.out
              go_simp
              refine (pick_ds (by omega) (w1.heap.size) _ _ _ _ XC bS (by omega)).mono ?_
              rintro e w4 ⟨bb, rfl, hbb, Y4⟩
              have HB4 : Hid (bb = ⟨#[]⟩ ∨ bb = ⟨#[98, 111, 100, 121]⟩ ∨ bb = ⟨#[97, 98, 99]⟩) := hbb
              clear hbb bS
              have BS4 : Hid (Boxed w4 (w1.heap.size) [.string ⟨#[]⟩, .string ⟨#[98, 111, 100, 121]⟩, .string ⟨#[97, 98, 99]⟩]) := kept_box Y4.out.2 BS3.out (by omega) (by first | omega | (simp; done) | (simp; omega))
              have BI4 : Hid (Boxed w4 (w1.heap.size + 1) [.int .i64 2048, .int .i64 2054]) := kept_box Y4.out.2 BI3.out (by omega) (by first | omega | (simp; done) | (simp; omega))
              have X4 : Hid (DS q a len cap f w [.string ⟨#[]⟩, .string ⟨#[]⟩, .int .i64 0, .string ⟨#[]⟩] 4 w4) := Y4.out.1
              have z4 := X4.out.lt
              have zz4 : w3.heap.size + 0 ≤ w4.heap.size := by have := Y4.out.2.size; simpa using this
              clear Y4 XC
              go_wp2_with fail
              refine hK.out _ _ ?_ (fun hH177 => ?_)
              · (try dsimp only)
                (try trivial)
              clear hK K hH171
              refine wpAnyH_ready (rs := [8]) (by kernel_rfl) (by simp) ?_
              refine AllReadyH.cons rfl (fun K hK => ?_) ?_
              · have cN : w4.cell? ⟨w1.heap.size + 1, nn, none⟩ = some (.int .i64 (kf nn)) := pickI BI4.out nn hnn
                go_simp
                refine hK.out _ _ ?_ (fun hH178 => ?_)
                · (try dsimp only)
                  (try trivial)
                clear hK K hH177
                refine wpAnyH_take (i := 12) (v := ?v179) rfl (by kernel_rfl) (by kernel_rfl) (by kernel_rfl) (fun _ _ _ h => h) (Or.inl ⟨by rfl, ?hy179⟩) (by assumption) ?rest179
                case hy179 => (intro w hSw; (try dsimp only at hSw); go_simp; (try with_reducible rfl))
                refine wpAnyH_ready (rs := [13]) (by kernel_rfl) (by simp) ?_
                refine AllReadyH.cons rfl (fun K hK => ?_) ?_
                · have XF : Hid (DS q a len cap f w [.string ⟨#[]⟩, .string ⟨#[]⟩, .int .i64 0, .string ⟨#[]⟩] 4 w4) := X4.out
                  have k0 := XF.out.box.1.at 0 _ rfl
                  have y0 := XF.out.box.2 0
                  have k1 := XF.out.box.1.at 1 _ rfl
                  have y1 := XF.out.box.2 1
                  have k2 := XF.out.box.1.at 2 _ rfl
                  have y2 := XF.out.box.2 2
                  have k3 := XF.out.box.1.at 3 _ rfl
                  have y3 := XF.out.box.2 3
                  go_simp
                  refine hK.out _ _ ?_ (fun hH180 => ?_)
                  · (try dsimp only)
                    (try trivial)
                  clear hK K hH178
                  refine wpAnyH_done (by kernel_rfl) ?_ _
                  clear hH180
                  go_wp2
                  (try simp only [Exit.inBlock, Exit.then])
                  refine bodyPost_ret (v := .agg #[.string d1, .string d2, .int .i64 (kf nn), .string bb]) (by simp [results, Try.results26, go_sem, *]; try rfl) rfl ?_
                  exact ⟨d1, d2, kf nn, bb, rfl, HD1.out, HD2.out, kf_or nn, tx_le HB4.out, by first | exact gr_sets4 XF.out.gr | exact grown_alloc (gr_sets4 XB.out.gr) _⟩
                exact AllReadyH.nil
              exact AllReadyH.nil
            exact AllReadyH.nil
          exact AllReadyH.nil
        exact AllReadyH.nil
      exact AllReadyH.nil
    exact AllReadyH.nil
  refine AllReadyH.cons rfl (fun K hK => ?_) ?_
  · go_simp
    refine hK.out _ _ ?_ (fun hH181 => ?_)
    · (try dsimp only)
      (try trivial)
    clear hK K hH0
    refine wpAnyH_ready (rs := [1, 10]) (by kernel_rfl) (by simp) ?_
    refine AllReadyH.cons rfl (fun K hK => ?_) ?_
    · have XC : Hid (DS q a len cap f w [.string ⟨#[]⟩, .string ⟨#[]⟩, .int .i64 0, .string ⟨#[]⟩] 0 ((w.alloc (.cells #[.string ⟨#[]⟩, .string ⟨#[]⟩, .int .i64 0, .string ⟨#[]⟩] 24)).alloc (.cells #[.int .i64 2048, .int .i64 2054] 3)).drew) := (DS.drew (DS.alloc X0.out _))
      go_simp
      refine (mac_ds (by omega) _ XC).mono ?_
      rintro e w1 ⟨d1, rfl, hsz, Y1⟩
      have HD1 : Hid (d1.size = 6) := hsz
      clear hsz
      have BI1 : Hid (Boxed w1 (w.heap.size + 1) [.int .i64 2048, .int .i64 2054]) := kept_box Y1.out.2 (box_a (w.alloc (.cells #[.string ⟨#[]⟩, .string ⟨#[]⟩, .int .i64 0, .string ⟨#[]⟩] 24)) [.int .i64 2048, .int .i64 2054] _ _ (by simp)) (by omega) (by first | omega | (simp; done) | (simp; omega))
      have X1 : Hid (DS q a len cap f w [.string ⟨#[]⟩, .string ⟨#[]⟩, .int .i64 0, .string ⟨#[]⟩] 1 w1) := Y1.out.1
      have z1 := X1.out.lt
      have zz1 : w.heap.size + 2 ≤ w1.heap.size := by have := Y1.out.2.size; simpa using this
      clear Y1 XC
      go_wp2_with fail
      refine hK.out _ _ ?_ (fun hH182 => ?_)
      · (try dsimp only)
        (try trivial)
      clear hK K hH181
      refine wpAnyH_ready (rs := [3, 10]) (by kernel_rfl) (by simp) ?_
      refine AllReadyH.cons rfl (fun K hK => ?_) ?_
      · have XC : Hid (DS q a len cap f w [.string ⟨#[]⟩, .string ⟨#[]⟩, .int .i64 0, .string ⟨#[]⟩] 1 w1) := X1.out
        go_simp
        refine (mac_ds (by omega) _ XC).mono ?_
        rintro e w2 ⟨d2, rfl, hsz, Y2⟩
        have HD2 : Hid (d2.size = 6) := hsz
        clear hsz
        have BI2 : Hid (Boxed w2 (w.heap.size + 1) [.int .i64 2048, .int .i64 2054]) := kept_box Y2.out.2 BI1.out (by omega) (by first | omega | (simp; done) | (simp; omega))
        have X2 : Hid (DS q a len cap f w [.string ⟨#[]⟩, .string ⟨#[]⟩, .int .i64 0, .string ⟨#[]⟩] 2 w2) := Y2.out.1
        have z2 := X2.out.lt
        have zz2 : w1.heap.size + 0 ≤ w2.heap.size := by have := Y2.out.2.size; simpa using this
        clear Y2 XC
        go_wp2_with fail
        refine hK.out _ _ ?_ (fun hH183 => ?_)
        · (try dsimp only)
          (try trivial)
        clear hK K hH182
        refine wpAnyH_ready (rs := [6, 10]) (by kernel_rfl) (by simp) ?_
        refine AllReadyH.cons rfl (fun K hK => ?_) ?_
        · have XC : Hid (DS q a len cap f w [.string ⟨#[]⟩, .string ⟨#[]⟩, .int .i64 0, .string ⟨#[]⟩] 2 w2) := X2.out
          go_simp
          refine (next_ds 2 (by omega) (by omega) (by omega) _ XC).mono ?_
          rintro e w3 ⟨vv, rfl, v0, v1, Y3⟩
          obtain ⟨nn, rfl⟩ := Int.eq_ofNat_of_zero_le v0
          have hnn : nn < 2 := by omega
          have BI3 : Hid (Boxed w3 (w.heap.size + 1) [.int .i64 2048, .int .i64 2054]) := kept_box Y3.out.2 BI2.out (by omega) (by first | omega | (simp; done) | (simp; omega))
          have X3 : Hid (DS q a len cap f w [.string ⟨#[]⟩, .string ⟨#[]⟩, .int .i64 0, .string ⟨#[]⟩] 3 w3) := Y3.out.1
          have z3 := X3.out.lt
          have zz3 : w2.heap.size + 0 ≤ w3.heap.size := by have := Y3.out.2.size; simpa using this
          clear Y3 XC
          go_wp2_with fail
          refine hK.out _ _ ?_ (fun hH184 => ?_)
          · (try dsimp only)
            (try trivial)
          clear hK K hH183
          refine wpAnyH_take (i := 7) (v := ?v185) rfl (by kernel_rfl) (by kernel_rfl) (by kernel_rfl) (fun _ _ _ h => h) (Or.inl ⟨by rfl, ?hy185⟩) (by assumption) ?rest185
          case hy185 => (intro w hSw; (try dsimp only at hSw); go_simp; (try with_reducible rfl))
          refine wpAnyH_ready (rs := [8, 10]) (by kernel_rfl) (by simp) ?_
          refine AllReadyH.cons rfl (fun K hK => ?_) ?_
          · have cN : w3.cell? ⟨w.heap.size + 1, nn, none⟩ = some (.int .i64 (kf nn)) := pickI BI3.out nn hnn
            go_simp
            refine hK.out _ _ ?_ (fun hH186 => ?_)
            · (try dsimp only)
              (try trivial)
            clear hK K hH184
            refine wpAnyH_ready (rs := [10]) (by kernel_rfl) (by simp) ?_
            refine AllReadyH.cons rfl (fun K hK => ?_) ?_
            · go_simp
              refine hK.out _ _ ?_ (fun hH187 => ?_)
              · (try dsimp only)
                (try trivial)
              clear hK K hH186
              refine wpAnyH_ready (rs := [11]) (by kernel_rfl) (by simp) ?_
              refine AllReadyH.cons rfl (fun K hK => ?_) ?_
              · have XC : Hid (DS q a len cap f w [.string ⟨#[]⟩, .string ⟨#[]⟩, .int .i64 0, .string ⟨#[]⟩] 3 (w3.alloc (.cells #[.string ⟨#[]⟩, .string ⟨#[98, 111, 100, 121]⟩, .string ⟨#[97, 98, 99]⟩] 9))) := (DS.alloc X3.out _)
                have bS : Boxed (w3.alloc (.cells #[.string ⟨#[]⟩, .string ⟨#[98, 111, 100, 121]⟩, .string ⟨#[97, 98, 99]⟩] 9)) (w3.heap.size) [.string ⟨#[]⟩, .string ⟨#[98, 111, 100, 121]⟩, .string ⟨#[97, 98, 99]⟩] := (box_a w3 [.string ⟨#[]⟩, .string ⟨#[98, 111, 100, 121]⟩, .string ⟨#[97, 98, 99]⟩] _ _ (by simp))
                go_simp
                refine (pick_ds (by omega) (w3.heap.size) _ _ _ _ XC bS (by omega)).mono ?_
                rintro e w4 ⟨bb, rfl, hbb, Y4⟩
                have HB4 : Hid (bb = ⟨#[]⟩ ∨ bb = ⟨#[98, 111, 100, 121]⟩ ∨ bb = ⟨#[97, 98, 99]⟩) := hbb
                clear hbb bS
                have BI4 : Hid (Boxed w4 (w.heap.size + 1) [.int .i64 2048, .int .i64 2054]) := kept_box Y4.out.2 (Boxed.alloc BI3.out (by first | omega | (simp; done) | (simp; omega)) _) (by omega) (by first | omega | (simp; done) | (simp; omega))
                have BS4 : Hid (Boxed w4 (w3.heap.size) [.string ⟨#[]⟩, .string ⟨#[98, 111, 100, 121]⟩, .string ⟨#[97, 98, 99]⟩]) := kept_box Y4.out.2 (box_a w3 [.string ⟨#[]⟩, .string ⟨#[98, 111, 100, 121]⟩, .string ⟨#[97, 98, 99]⟩] _ _ (by simp)) (by omega) (by first | omega | (simp; done) | (simp; omega))
                have X4 : Hid (DS q a len cap f w [.string ⟨#[]⟩, .string ⟨#[]⟩, .int .i64 0, .string ⟨#[]⟩] 4 w4) := Y4.out.1
                have z4 := X4.out.lt
                have zz4 : w3.heap.size + 1 ≤ w4.heap.size := by have := Y4.out.2.size; simpa using this
                clear Y4 XC
                go_wp2_with fail
                refine hK.out _ _ ?_ (fun hH188 => ?_)
                · (try dsimp only)
                  (try trivial)
                clear hK K hH187
                refine wpAnyH_take (i := 12) (v := ?v189) rfl (by kernel_rfl) (by kernel_rfl) (by kernel_rfl) (fun _ _ _ h => h) (Or.inl ⟨by rfl, ?hy189⟩) (by assumption) ?rest189
                case hy189 => (intro w hSw; (try dsimp only at hSw); go_simp; (try with_reducible rfl))
                refine wpAnyH_ready (rs := [13]) (by kernel_rfl) (by simp) ?_
                refine AllReadyH.cons rfl (fun K hK => ?_) ?_
                · have XF : Hid (DS q a len cap f w [.string ⟨#[]⟩, .string ⟨#[]⟩, .int .i64 0, .string ⟨#[]⟩] 4 w4) := X4.out
                  have k0 := XF.out.box.1.at 0 _ rfl
                  have y0 := XF.out.box.2 0
                  have k1 := XF.out.box.1.at 1 _ rfl
                  have y1 := XF.out.box.2 1
                  have k2 := XF.out.box.1.at 2 _ rfl
                  have y2 := XF.out.box.2 2
                  have k3 := XF.out.box.1.at 3 _ rfl
                  have y3 := XF.out.box.2 3
                  go_simp
                  refine hK.out _ _ ?_ (fun hH190 => ?_)
                  · (try dsimp only)
                    (try trivial)
                  clear hK K hH188
                  refine wpAnyH_done (by kernel_rfl) ?_ _
                  clear hH190
                  go_wp2
                  (try simp only [Exit.inBlock, Exit.then])
                  refine bodyPost_ret (v := .agg #[.string d1, .string d2, .int .i64 (kf nn), .string bb]) (by simp [results, Try.results26, go_sem, *]; try rfl) rfl ?_
                  exact ⟨d1, d2, kf nn, bb, rfl, HD1.out, HD2.out, kf_or nn, tx_le HB4.out, by first | exact gr_sets4 XF.out.gr | exact grown_alloc (gr_sets4 XB.out.gr) _⟩
                exact AllReadyH.nil
              exact AllReadyH.nil
            exact AllReadyH.nil
          refine AllReadyH.cons rfl (fun K hK => ?_) ?_
          · go_simp
            refine hK.out _ _ ?_ (fun hH191 => ?_)
            · (try dsimp only)
              (try trivial)
            clear hK K hH184
            refine wpAnyH_ready (rs := [8, 11]) (by kernel_rfl) (by simp) ?_
            refine AllReadyH.cons rfl (fun K hK => ?_) ?_
            · have cN : (w3.alloc (.cells #[.string ⟨#[]⟩, .string ⟨#[98, 111, 100, 121]⟩, .string ⟨#[97, 98, 99]⟩] 9)).cell? ⟨w.heap.size + 1, nn, none⟩ = some (.int .i64 (kf nn)) := pickI (Boxed.alloc BI3.out (by first | omega | (simp; done) | (simp; omega)) _) nn hnn
              go_simp
              refine hK.out _ _ ?_ (fun hH192 => ?_)
              · (try dsimp only)
                (try trivial)
              clear hK K hH191
              refine wpAnyH_ready (rs := [11]) (by kernel_rfl) (by simp) ?_
              refine AllReadyH.cons rfl (fun K hK => ?_) ?_
              · have XC : Hid (DS q a len cap f w [.string ⟨#[]⟩, .string ⟨#[]⟩, .int .i64 0, .string ⟨#[]⟩] 3 (w3.alloc (.cells #[.string ⟨#[]⟩, .string ⟨#[98, 111, 100, 121]⟩, .string ⟨#[97, 98, 99]⟩] 9))) := (DS.alloc X3.out _)
                have bS : Boxed (w3.alloc (.cells #[.string ⟨#[]⟩, .string ⟨#[98, 111, 100, 121]⟩, .string ⟨#[97, 98, 99]⟩] 9)) (w3.heap.size) [.string ⟨#[]⟩, .string ⟨#[98, 111, 100, 121]⟩, .string ⟨#[97, 98, 99]⟩] := (box_a w3 [.string ⟨#[]⟩, .string ⟨#[98, 111, 100, 121]⟩, .string ⟨#[97, 98, 99]⟩] _ _ (by simp))
                go_simp
                refine (pick_ds (by omega) (w3.heap.size) _ _ _ _ XC bS (by omega)).mono ?_
                rintro e w4 ⟨bb, rfl, hbb, Y4⟩
                have HB4 : Hid (bb = ⟨#[]⟩ ∨ bb = ⟨#[98, 111, 100, 121]⟩ ∨ bb = ⟨#[97, 98, 99]⟩) := hbb
                clear hbb bS
                have BI4 : Hid (Boxed w4 (w.heap.size + 1) [.int .i64 2048, .int .i64 2054]) := kept_box Y4.out.2 (Boxed.alloc BI3.out (by first | omega | (simp; done) | (simp; omega)) _) (by omega) (by first | omega | (simp; done) | (simp; omega))
                have BS4 : Hid (Boxed w4 (w3.heap.size) [.string ⟨#[]⟩, .string ⟨#[98, 111, 100, 121]⟩, .string ⟨#[97, 98, 99]⟩]) := kept_box Y4.out.2 (box_a w3 [.string ⟨#[]⟩, .string ⟨#[98, 111, 100, 121]⟩, .string ⟨#[97, 98, 99]⟩] _ _ (by simp)) (by omega) (by first | omega | (simp; done) | (simp; omega))
                have X4 : Hid (DS q a len cap f w [.string ⟨#[]⟩, .string ⟨#[]⟩, .int .i64 0, .string ⟨#[]⟩] 4 w4) := Y4.out.1
                have z4 := X4.out.lt
                have zz4 : w3.heap.size + 1 ≤ w4.heap.size := by have := Y4.out.2.size; simpa using this
                clear Y4 XC
                go_wp2_with fail
                refine hK.out _ _ ?_ (fun hH193 => ?_)
                · (try dsimp only)
                  (try trivial)
                clear hK K hH192
                refine wpAnyH_take (i := 12) (v := ?v194) rfl (by kernel_rfl) (by kernel_rfl) (by kernel_rfl) (fun _ _ _ h => h) (Or.inl ⟨by rfl, ?hy194⟩) (by assumption) ?rest194
                case hy194 => (intro w hSw; (try dsimp only at hSw); go_simp; (try with_reducible rfl))
                refine wpAnyH_ready (rs := [13]) (by kernel_rfl) (by simp) ?_
                refine AllReadyH.cons rfl (fun K hK => ?_) ?_
                · have XF : Hid (DS q a len cap f w [.string ⟨#[]⟩, .string ⟨#[]⟩, .int .i64 0, .string ⟨#[]⟩] 4 w4) := X4.out
                  have k0 := XF.out.box.1.at 0 _ rfl
                  have y0 := XF.out.box.2 0
                  have k1 := XF.out.box.1.at 1 _ rfl
                  have y1 := XF.out.box.2 1
                  have k2 := XF.out.box.1.at 2 _ rfl
                  have y2 := XF.out.box.2 2
                  have k3 := XF.out.box.1.at 3 _ rfl
                  have y3 := XF.out.box.2 3
                  go_simp
                  refine hK.out _ _ ?_ (fun hH195 => ?_)
                  · (try dsimp only)
                    (try trivial)
                  clear hK K hH193
                  refine wpAnyH_done (by kernel_rfl) ?_ _
                  clear hH195
                  go_wp2
                  (try simp only [Exit.inBlock, Exit.then])
                  refine bodyPost_ret (v := .agg #[.string d1, .string d2, .int .i64 (kf nn), .string bb]) (by simp [results, Try.results26, go_sem, *]; try rfl) rfl ?_
                  exact ⟨d1, d2, kf nn, bb, rfl, HD1.out, HD2.out, kf_or nn, tx_le HB4.out, by first | exact gr_sets4 XF.out.gr | exact grown_alloc (gr_sets4 XB.out.gr) _⟩
                exact AllReadyH.nil
              exact AllReadyH.nil
            refine AllReadyH.cons rfl (fun K hK => ?_) ?_
            · have XC : Hid (DS q a len cap f w [.string ⟨#[]⟩, .string ⟨#[]⟩, .int .i64 0, .string ⟨#[]⟩] 3 (w3.alloc (.cells #[.string ⟨#[]⟩, .string ⟨#[98, 111, 100, 121]⟩, .string ⟨#[97, 98, 99]⟩] 9))) := (DS.alloc X3.out _)
              have bS : Boxed (w3.alloc (.cells #[.string ⟨#[]⟩, .string ⟨#[98, 111, 100, 121]⟩, .string ⟨#[97, 98, 99]⟩] 9)) (w3.heap.size) [.string ⟨#[]⟩, .string ⟨#[98, 111, 100, 121]⟩, .string ⟨#[97, 98, 99]⟩] := (box_a w3 [.string ⟨#[]⟩, .string ⟨#[98, 111, 100, 121]⟩, .string ⟨#[97, 98, 99]⟩] _ _ (by simp))
              go_simp
              refine (pick_ds (by omega) (w3.heap.size) _ _ _ _ XC bS (by omega)).mono ?_
              rintro e w4 ⟨bb, rfl, hbb, Y4⟩
              have HB4 : Hid (bb = ⟨#[]⟩ ∨ bb = ⟨#[98, 111, 100, 121]⟩ ∨ bb = ⟨#[97, 98, 99]⟩) := hbb
              clear hbb bS
              have BI4 : Hid (Boxed w4 (w.heap.size + 1) [.int .i64 2048, .int .i64 2054]) := kept_box Y4.out.2 (Boxed.alloc BI3.out (by first | omega | (simp; done) | (simp; omega)) _) (by omega) (by first | omega | (simp; done) | (simp; omega))
              have BS4 : Hid (Boxed w4 (w3.heap.size) [.string ⟨#[]⟩, .string ⟨#[98, 111, 100, 121]⟩, .string ⟨#[97, 98, 99]⟩]) := kept_box Y4.out.2 (box_a w3 [.string ⟨#[]⟩, .string ⟨#[98, 111, 100, 121]⟩, .string ⟨#[97, 98, 99]⟩] _ _ (by simp)) (by omega) (by first | omega | (simp; done) | (simp; omega))
              have X4 : Hid (DS q a len cap f w [.string ⟨#[]⟩, .string ⟨#[]⟩, .int .i64 0, .string ⟨#[]⟩] 4 w4) := Y4.out.1
              have z4 := X4.out.lt
              have zz4 : w3.heap.size + 1 ≤ w4.heap.size := by have := Y4.out.2.size; simpa using this
              clear Y4 XC
              go_wp2_with fail
              refine hK.out _ _ ?_ (fun hH196 => ?_)
              · (try dsimp only)
                (try trivial)
              clear hK K hH191
              refine wpAnyH_ready (rs := [8]) (by kernel_rfl) (by simp) ?_
              refine AllReadyH.cons rfl (fun K hK => ?_) ?_
              · have cN : w4.cell? ⟨w.heap.size + 1, nn, none⟩ = some (.int .i64 (kf nn)) := pickI BI4.out nn hnn
                go_simp
                refine hK.out _ _ ?_ (fun hH197 => ?_)
                · (try dsimp only)
                  (try trivial)
                clear hK K hH196
                refine wpAnyH_take (i := 12) (v := ?v198) rfl (by kernel_rfl) (by kernel_rfl) (by kernel_rfl) (fun _ _ _ h => h) (Or.inl ⟨by rfl, ?hy198⟩) (by assumption) ?rest198
                case hy198 => (intro w hSw; (try dsimp only at hSw); go_simp; (try with_reducible rfl))
                refine wpAnyH_ready (rs := [13]) (by kernel_rfl) (by simp) ?_
                refine AllReadyH.cons rfl (fun K hK => ?_) ?_
                · have XF : Hid (DS q a len cap f w [.string ⟨#[]⟩, .string ⟨#[]⟩, .int .i64 0, .string ⟨#[]⟩] 4 w4) := X4.out
                  have k0 := XF.out.box.1.at 0 _ rfl
                  have y0 := XF.out.box.2 0
                  have k1 := XF.out.box.1.at 1 _ rfl
                  have y1 := XF.out.box.2 1
                  have k2 := XF.out.box.1.at 2 _ rfl
                  have y2 := XF.out.box.2 2
                  have k3 := XF.out.box.1.at 3 _ rfl
                  have y3 := XF.out.box.2 3
                  go_simp
                  refine hK.out _ _ ?_ (fun hH199 => ?_)
                  · (try dsimp only)
                    (try trivial)
                  clear hK K hH197
                  refine wpAnyH_done (by kernel_rfl) ?_ _
                  clear hH199
                  go_wp2
                  (try simp only [Exit.inBlock, Exit.then])
                  refine bodyPost_ret (v := .agg #[.string d1, .string d2, .int .i64 (kf nn), .string bb]) (by simp [results, Try.results26, go_sem, *]; try rfl) rfl ?_
                  exact ⟨d1, d2, kf nn, bb, rfl, HD1.out, HD2.out, kf_or nn, tx_le HB4.out, by first | exact gr_sets4 XF.out.gr | exact grown_alloc (gr_sets4 XB.out.gr) _⟩
                exact AllReadyH.nil
              exact AllReadyH.nil
            exact AllReadyH.nil
          exact AllReadyH.nil
        refine AllReadyH.cons rfl (fun K hK => ?_) ?_
        · go_simp
          refine hK.out _ _ ?_ (fun hH200 => ?_)
          · (try dsimp only)
            (try trivial)
          clear hK K hH183
          refine wpAnyH_ready (rs := [6]) (by kernel_rfl) (by simp) ?_
          refine AllReadyH.cons rfl (fun K hK => ?_) ?_
          · have XC : Hid (DS q a len cap f w [.string ⟨#[]⟩, .string ⟨#[]⟩, .int .i64 0, .string ⟨#[]⟩] 2 (w2.alloc (.cells #[.string ⟨#[]⟩, .string ⟨#[98, 111, 100, 121]⟩, .string ⟨#[97, 98, 99]⟩] 9))) := (DS.alloc X2.out _)
            go_simp
            refine (next_ds 2 (by omega) (by omega) (by omega) _ XC).mono ?_
            rintro e w3 ⟨vv, rfl, v0, v1, Y3⟩
            obtain ⟨nn, rfl⟩ := Int.eq_ofNat_of_zero_le v0
            have hnn : nn < 2 := by omega
            have BI3 : Hid (Boxed w3 (w.heap.size + 1) [.int .i64 2048, .int .i64 2054]) := kept_box Y3.out.2 (Boxed.alloc BI2.out (by first | omega | (simp; done) | (simp; omega)) _) (by omega) (by first | omega | (simp; done) | (simp; omega))
            have BS3 : Hid (Boxed w3 (w2.heap.size) [.string ⟨#[]⟩, .string ⟨#[98, 111, 100, 121]⟩, .string ⟨#[97, 98, 99]⟩]) := kept_box Y3.out.2 (box_a w2 [.string ⟨#[]⟩, .string ⟨#[98, 111, 100, 121]⟩, .string ⟨#[97, 98, 99]⟩] _ _ (by simp)) (by omega) (by first | omega | (simp; done) | (simp; omega))
            have X3 : Hid (DS q a len cap f w [.string ⟨#[]⟩, .string ⟨#[]⟩, .int .i64 0, .string ⟨#[]⟩] 3 w3) := Y3.out.1
            have z3 := X3.out.lt
            have zz3 : w2.heap.size + 1 ≤ w3.heap.size := by have := Y3.out.2.size; simpa using this
            clear Y3 XC
            go_wp2_with fail
            refine hK.out _ _ ?_ (fun hH201 => ?_)
            · (try dsimp only)
              (try trivial)
            clear hK K hH200
            refine wpAnyH_take (i := 7) (v := ?v202) rfl (by kernel_rfl) (by kernel_rfl) (by kernel_rfl) (fun _ _ _ h => h) (Or.inl ⟨by rfl, ?hy202⟩) (by assumption) ?rest202
            case hy202 => (intro w hSw; (try dsimp only at hSw); go_simp; (try with_reducible rfl))
            refine wpAnyH_ready (rs := [8, 11]) (by kernel_rfl) (by simp) ?_
            refine AllReadyH.cons rfl (fun K hK => ?_) ?_
            · have cN : w3.cell? ⟨w.heap.size + 1, nn, none⟩ = some (.int .i64 (kf nn)) := pickI BI3.out nn hnn
              go_simp
              refine hK.out _ _ ?_ (fun hH203 => ?_)
              · (try dsimp only)
                (try trivial)
              clear hK K hH201
              refine wpAnyH_ready (rs := [11]) (by kernel_rfl) (by simp) ?_
              refine AllReadyH.cons rfl (fun K hK => ?_) ?_
              · have XC : Hid (DS q a len cap f w [.string ⟨#[]⟩, .string ⟨#[]⟩, .int .i64 0, .string ⟨#[]⟩] 3 w3) := X3.out
                have bS : Boxed w3 (w2.heap.size) [.string ⟨#[]⟩, .string ⟨#[98, 111, 100, 121]⟩, .string ⟨#[97, 98, 99]⟩] := BS3.out
                go_simp
                refine (pick_ds (by omega) (w2.heap.size) _ _ _ _ XC bS (by omega)).mono ?_
                rintro e w4 ⟨bb, rfl, hbb, Y4⟩
                have HB4 : Hid (bb = ⟨#[]⟩ ∨ bb = ⟨#[98, 111, 100, 121]⟩ ∨ bb = ⟨#[97, 98, 99]⟩) := hbb
                clear hbb bS
                have BI4 : Hid (Boxed w4 (w.heap.size + 1) [.int .i64 2048, .int .i64 2054]) := kept_box Y4.out.2 BI3.out (by omega) (by first | omega | (simp; done) | (simp; omega))
                have BS4 : Hid (Boxed w4 (w2.heap.size) [.string ⟨#[]⟩, .string ⟨#[98, 111, 100, 121]⟩, .string ⟨#[97, 98, 99]⟩]) := kept_box Y4.out.2 BS3.out (by omega) (by first | omega | (simp; done) | (simp; omega))
                have X4 : Hid (DS q a len cap f w [.string ⟨#[]⟩, .string ⟨#[]⟩, .int .i64 0, .string ⟨#[]⟩] 4 w4) := Y4.out.1
                have z4 := X4.out.lt
                have zz4 : w3.heap.size + 0 ≤ w4.heap.size := by have := Y4.out.2.size; simpa using this
                clear Y4 XC
                go_wp2_with fail
                refine hK.out _ _ ?_ (fun hH204 => ?_)
                · (try dsimp only)
                  (try trivial)
                clear hK K hH203
                refine wpAnyH_take (i := 12) (v := ?v205) rfl (by kernel_rfl) (by kernel_rfl) (by kernel_rfl) (fun _ _ _ h => h) (Or.inl ⟨by rfl, ?hy205⟩) (by assumption) ?rest205
                case hy205 => (intro w hSw; (try dsimp only at hSw); go_simp; (try with_reducible rfl))
                refine wpAnyH_ready (rs := [13]) (by kernel_rfl) (by simp) ?_
                refine AllReadyH.cons rfl (fun K hK => ?_) ?_
                · have XF : Hid (DS q a len cap f w [.string ⟨#[]⟩, .string ⟨#[]⟩, .int .i64 0, .string ⟨#[]⟩] 4 w4) := X4.out
                  have k0 := XF.out.box.1.at 0 _ rfl
                  have y0 := XF.out.box.2 0
                  have k1 := XF.out.box.1.at 1 _ rfl
                  have y1 := XF.out.box.2 1
                  have k2 := XF.out.box.1.at 2 _ rfl
                  have y2 := XF.out.box.2 2
                  have k3 := XF.out.box.1.at 3 _ rfl
                  have y3 := XF.out.box.2 3
                  go_simp
                  refine hK.out _ _ ?_ (fun hH206 => ?_)
                  · (try dsimp only)
                    (try trivial)
                  clear hK K hH204
                  refine wpAnyH_done (by kernel_rfl) ?_ _
                  clear hH206
                  go_wp2
                  (try simp only [Exit.inBlock, Exit.then])
                  refine bodyPost_ret (v := .agg #[.string d1, .string d2, .int .i64 (kf nn), .string bb]) (by simp [results, Try.results26, go_sem, *]; try rfl) rfl ?_
                  exact ⟨d1, d2, kf nn, bb, rfl, HD1.out, HD2.out, kf_or nn, tx_le HB4.out, by first | exact gr_sets4 XF.out.gr | exact grown_alloc (gr_sets4 XB.out.gr) _⟩
                exact AllReadyH.nil
              exact AllReadyH.nil
            refine AllReadyH.cons rfl (fun K hK => ?_) ?_
            · have XC : Hid (DS q a len cap f w [.string ⟨#[]⟩, .string ⟨#[]⟩, .int .i64 0, .string ⟨#[]⟩] 3 w3) := X3.out
              have bS : Boxed w3 (w2.heap.size) [.string ⟨#[]⟩, .string ⟨#[98, 111, 100, 121]⟩, .string ⟨#[97, 98, 99]⟩] := BS3.out
              go_simp
              refine (pick_ds (by omega) (w2.heap.size) _ _ _ _ XC bS (by omega)).mono ?_
              rintro e w4 ⟨bb, rfl, hbb, Y4⟩
              have HB4 : Hid (bb = ⟨#[]⟩ ∨ bb = ⟨#[98, 111, 100, 121]⟩ ∨ bb = ⟨#[97, 98, 99]⟩) := hbb
              clear hbb bS
              have BI4 : Hid (Boxed w4 (w.heap.size + 1) [.int .i64 2048, .int .i64 2054]) := kept_box Y4.out.2 BI3.out (by omega) (by first | omega | (simp; done) | (simp; omega))
              have BS4 : Hid (Boxed w4 (w2.heap.size) [.string ⟨#[]⟩, .string ⟨#[98, 111, 100, 121]⟩, .string ⟨#[97, 98, 99]⟩]) := kept_box Y4.out.2 BS3.out (by omega) (by first | omega | (simp; done) | (simp; omega))
              have X4 : Hid (DS q a len cap f w [.string ⟨#[]⟩, .string ⟨#[]⟩, .int .i64 0, .string ⟨#[]⟩] 4 w4) := Y4.out.1
              have z4 := X4.out.lt
              have zz4 : w3.heap.size + 0 ≤ w4.heap.size := by have := Y4.out.2.size; simpa using this
              clear Y4 XC
              go_wp2_with fail
              refine hK.out _ _ ?_ (fun hH207 => ?_)
              · (try dsimp only)
                (try trivial)
              clear hK K hH201
              refine wpAnyH_ready (rs := [8]) (by kernel_rfl) (by simp) ?_
              refine AllReadyH.cons rfl (fun K hK => ?_) ?_
              · have cN : w4.cell? ⟨w.heap.size + 1, nn, none⟩ = some (.int .i64 (kf nn)) := pickI BI4.out nn hnn
                go_simp
                refine hK.out _ _ ?_ (fun hH208 => ?_)
                · (try dsimp only)
                  (try trivial)
                clear hK K hH207
                refine wpAnyH_take (i := 12) (v := ?v209) rfl (by kernel_rfl) (by kernel_rfl) (by kernel_rfl) (fun _ _ _ h => h) (Or.inl ⟨by rfl, ?hy209⟩) (by assumption) ?rest209
                case hy209 => (intro w hSw; (try dsimp only at hSw); go_simp; (try with_reducible rfl))
                refine wpAnyH_ready (rs := [13]) (by kernel_rfl) (by simp) ?_
                refine AllReadyH.cons rfl (fun K hK => ?_) ?_
                · have XF : Hid (DS q a len cap f w [.string ⟨#[]⟩, .string ⟨#[]⟩, .int .i64 0, .string ⟨#[]⟩] 4 w4) := X4.out
                  have k0 := XF.out.box.1.at 0 _ rfl
                  have y0 := XF.out.box.2 0
                  have k1 := XF.out.box.1.at 1 _ rfl
                  have y1 := XF.out.box.2 1
                  have k2 := XF.out.box.1.at 2 _ rfl
                  have y2 := XF.out.box.2 2
                  have k3 := XF.out.box.1.at 3 _ rfl
                  have y3 := XF.out.box.2 3
                  go_simp
                  refine hK.out _ _ ?_ (fun hH210 => ?_)
                  · (try dsimp only)
                    (try trivial)
                  clear hK K hH208
                  refine wpAnyH_done (by kernel_rfl) ?_ _
                  clear hH210
                  go_wp2
                  (try simp only [Exit.inBlock, Exit.then])
                  refine bodyPost_ret (v := .agg #[.string d1, .string d2, .int .i64 (kf nn), .string bb]) (by simp [results, Try.results26, go_sem, *]; try rfl) rfl ?_
                  exact ⟨d1, d2, kf nn, bb, rfl, HD1.out, HD2.out, kf_or nn, tx_le HB4.out, by first | exact gr_sets4 XF.out.gr | exact grown_alloc (gr_sets4 XB.out.gr) _⟩
                exact AllReadyH.nil
              exact AllReadyH.nil
            exact AllReadyH.nil
          exact AllReadyH.nil
        exact AllReadyH.nil
      refine AllReadyH.cons rfl (fun K hK => ?_) ?_
      · go_simp
        refine hK.out _ _ ?_ (fun hH211 => ?_)
        · (try dsimp only)
          (try trivial)
        clear hK K hH182
        refine wpAnyH_ready (rs := [3]) (by kernel_rfl) (by simp) ?_
        refine AllReadyH.cons rfl (fun K hK => ?_) ?_
        · have XC : Hid (DS q a len cap f w [.string ⟨#[]⟩, .string ⟨#[]⟩, .int .i64 0, .string ⟨#[]⟩] 1 (w1.alloc (.cells #[.string ⟨#[]⟩, .string ⟨#[98, 111, 100, 121]⟩, .string ⟨#[97, 98, 99]⟩] 9))) := (DS.alloc X1.out _)
          go_simp
          refine (mac_ds (by omega) _ XC).mono ?_
          rintro e w2 ⟨d2, rfl, hsz, Y2⟩
          have HD2 : Hid (d2.size = 6) := hsz
          clear hsz
          have BI2 : Hid (Boxed w2 (w.heap.size + 1) [.int .i64 2048, .int .i64 2054]) := kept_box Y2.out.2 (Boxed.alloc BI1.out (by first | omega | (simp; done) | (simp; omega)) _) (by omega) (by first | omega | (simp; done) | (simp; omega))
          have BS2 : Hid (Boxed w2 (w1.heap.size) [.string ⟨#[]⟩, .string ⟨#[98, 111, 100, 121]⟩, .string ⟨#[97, 98, 99]⟩]) := kept_box Y2.out.2 (box_a w1 [.string ⟨#[]⟩, .string ⟨#[98, 111, 100, 121]⟩, .string ⟨#[97, 98, 99]⟩] _ _ (by simp)) (by omega) (by first | omega | (simp; done) | (simp; omega))
          have X2 : Hid (DS q a len cap f w [.string ⟨#[]⟩, .string ⟨#[]⟩, .int .i64 0, .string ⟨#[]⟩] 2 w2) := Y2.out.1
          have z2 := X2.out.lt
          have zz2 : w1.heap.size + 1 ≤ w2.heap.size := by have := Y2.out.2.size; simpa using this
          clear Y2 XC
          go_wp2_with fail
          refine hK.out _ _ ?_ (fun hH212 => ?_)
          · (try dsimp only)
            (try trivial)
          clear hK K hH211
          refine wpAnyH_ready (rs := [6]) (by kernel_rfl) (by simp) ?_
          refine AllReadyH.cons rfl (fun K hK => ?_) ?_
          · have XC : Hid (DS q a len cap f w [.string ⟨#[]⟩, .string ⟨#[]⟩, .int .i64 0, .string ⟨#[]⟩] 2 w2) := X2.out
            go_simp
            refine (next_ds 2 (by omega) (by omega) (by omega) _ XC).mono ?_
            rintro e w3 ⟨vv, rfl, v0, v1, Y3⟩
            obtain ⟨nn, rfl⟩ := Int.eq_ofNat_of_zero_le v0
            have hnn : nn < 2 := by omega
            have BI3 : Hid (Boxed w3 (w.heap.size + 1) [.int .i64 2048, .int .i64 2054]) := kept_box Y3.out.2 BI2.out (by omega) (by first | omega | (simp; done) | (simp; omega))
            have BS3 : Hid (Boxed w3 (w1.heap.size) [.string ⟨#[]⟩, .string ⟨#[98, 111, 100, 121]⟩, .string ⟨#[97, 98, 99]⟩]) := kept_box Y3.out.2 BS2.out (by omega) (by first | omega | (simp; done) | (simp; omega))
            have X3 : Hid (DS q a len cap f w [.string ⟨#[]⟩, .string ⟨#[]⟩, .int .i64 0, .string ⟨#[]⟩] 3 w3) := Y3.out.1
            have z3 := X3.out.lt
            have zz3 : w2.heap.size + 0 ≤ w3.heap.size := by have := Y3.out.2.size; simpa using this
            clear Y3 XC
            go_wp2_with fail
            refine hK.out _ _ ?_ (fun hH213 => ?_)
            · (try dsimp only)
              (try trivial)
            clear hK K hH212
            refine wpAnyH_take (i := 7) (v := ?v214) rfl (by kernel_rfl) (by kernel_rfl) (by kernel_rfl) (fun _ _ _ h => h) (Or.inl ⟨by rfl, ?hy214⟩) (by assumption) ?rest214
            case hy214 => (intro w hSw; (try dsimp only at hSw); go_simp; (try with_reducible rfl))
            refine wpAnyH_ready (rs := [8, 11]) (by kernel_rfl) (by simp) ?_
            refine AllReadyH.cons rfl (fun K hK => ?_) ?_
            · have cN : w3.cell? ⟨w.heap.size + 1, nn, none⟩ = some (.int .i64 (kf nn)) := pickI BI3.out nn hnn
              go_simp
              refine hK.out _ _ ?_ (fun hH215 => ?_)
              · (try dsimp only)
                (try trivial)
              clear hK K hH213
              refine wpAnyH_ready (rs := [11]) (by kernel_rfl) (by simp) ?_
              refine AllReadyH.cons rfl (fun K hK => ?_) ?_
              · have XC : Hid (DS q a len cap f w [.string ⟨#[]⟩, .string ⟨#[]⟩, .int .i64 0, .string ⟨#[]⟩] 3 w3) := X3.out
                have bS : Boxed w3 (w1.heap.size) [.string ⟨#[]⟩, .string ⟨#[98, 111, 100, 121]⟩, .string ⟨#[97, 98, 99]⟩] := BS3.out
                go_simp
                refine (pick_ds (by omega) (w1.heap.size) _ _ _ _ XC bS (by omega)).mono ?_
                rintro e w4 ⟨bb, rfl, hbb, Y4⟩
                have HB4 : Hid (bb = ⟨#[]⟩ ∨ bb = ⟨#[98, 111, 100, 121]⟩ ∨ bb = ⟨#[97, 98, 99]⟩) := hbb
                clear hbb bS
                have BI4 : Hid (Boxed w4 (w.heap.size + 1) [.int .i64 2048, .int .i64 2054]) := kept_box Y4.out.2 BI3.out (by omega) (by first | omega | (simp; done) | (simp; omega))
                have BS4 : Hid (Boxed w4 (w1.heap.size) [.string ⟨#[]⟩, .string ⟨#[98, 111, 100, 121]⟩, .string ⟨#[97, 98, 99]⟩]) := kept_box Y4.out.2 BS3.out (by omega) (by first | omega | (simp; done) | (simp; omega))
                have X4 : Hid (DS q a len cap f w [.string ⟨#[]⟩, .string ⟨#[]⟩, .int .i64 0, .string ⟨#[]⟩] 4 w4) := Y4.out.1
                have z4 := X4.out.lt
                have zz4 : w3.heap.size + 0 ≤ w4.heap.size := by have := Y4.out.2.size; simpa using this
                clear Y4 XC
                go_wp2_with fail
                refine hK.out _ _ ?_ (fun hH216 => ?_)
                · (try dsimp only)
                  (try trivial)
                clear hK K hH215
                refine wpAnyH_take (i := 12) (v := ?v217) rfl (by kernel_rfl) (by kernel_rfl) (by kernel_rfl) (fun _ _ _ h => h) (Or.inl ⟨by rfl, ?hy217⟩) (by assumption) ?rest217
                case hy217 => (intro w hSw; (try dsimp only at hSw); go_simp; (try with_reducible rfl))
                refine wpAnyH_ready (rs := [13]) (by kernel_rfl) (by simp) ?_
                refine AllReadyH.cons rfl (fun K hK => ?_) ?_
                · have XF : Hid (DS q a len cap f w [.string ⟨#[]⟩, .string ⟨#[]⟩, .int .i64 0, .string ⟨#[]⟩] 4 w4) := X4.out
                  have k0 := XF.out.box.1.at 0 _ rfl
                  have y0 := XF.out.box.2 0
                  have k1 := XF.out.box.1.at 1 _ rfl
                  have y1 := XF.out.box.2 1
                  have k2 := XF.out.box.1.at 2 _ rfl
                  have y2 := XF.out.box.2 2
                  have k3 := XF.out.box.1.at 3 _ rfl
                  have y3 := XF.out.box.2 3
                  go_simp
                  refine hK.out _ _ ?_ (fun hH218 => ?_)
                  · (try dsimp only)
                    (try trivial)
                  clear hK K hH216
                  refine wpAnyH_done (by kernel_rfl) ?_ _
                  clear hH218
                  go_wp2
                  (try simp only [Exit.inBlock, Exit.then])
                  refine bodyPost_ret (v := .agg #[.string d1, .string d2, .int .i64 (kf nn), .string bb]) (by simp [results, Try.results26, go_sem, *]; try rfl) rfl ?_
                  exact ⟨d1, d2, kf nn, bb, rfl, HD1.out, HD2.out, kf_or nn, tx_le HB4.out, by first | exact gr_sets4 XF.out.gr | exact grown_alloc (gr_sets4 XB.out.gr) _⟩
                exact AllReadyH.nil
              exact AllReadyH.nil
            refine AllReadyH.cons rfl (fun K hK => ?_) ?_
            · have XC : Hid (DS q a len cap f w [.string ⟨#[]⟩, .string ⟨#[]⟩, .int .i64 0, .string ⟨#[]⟩] 3 w3) := X3.out
              have bS : Boxed w3 (w1.heap.size) [.string ⟨#[]⟩, .string ⟨#[98, 111, 100, 121]⟩, .string ⟨#[97, 98, 99]⟩] := BS3.out
              go_simp
              refine (pick_ds (by omega) (w1.heap.size) _ _ _ _ XC bS (by omega)).mono ?_
              rintro e w4 ⟨bb, rfl, hbb, Y4⟩
              have HB4 : Hid (bb = ⟨#[]⟩ ∨ bb = ⟨#[98, 111, 100, 121]⟩ ∨ bb = ⟨#[97, 98, 99]⟩) := hbb
              clear hbb bS
              have BI4 : Hid (Boxed w4 (w.heap.size + 1) [.int .i64 2048, .int .i64 2054]) := kept_box Y4.out.2 BI3.out (by omega) (by first | omega | (simp; done) | (simp; omega))
              have BS4 : Hid (Boxed w4 (w1.heap.size) [.string ⟨#[]⟩, .string ⟨#[98, 111, 100, 121]⟩, .string ⟨#[97, 98, 99]⟩]) := kept_box Y4.out.2 BS3.out (by omega) (by first | omega | (simp; done) | (simp; omega))
              have X4 : Hid (DS q a len cap f w [.string ⟨#[]⟩, .string ⟨#[]⟩, .int .i64 0, .string ⟨#[]⟩] 4 w4) := Y4.out.1
              have z4 := X4.out.lt
              have zz4 : w3.heap.size + 0 ≤ w4.heap.size := by have := Y4.out.2.size; simpa using this
              clear Y4 XC
              go_wp2_with fail
              refine hK.out _ _ ?_ (fun hH219 => ?_)
              · (try dsimp only)
                (try trivial)
              clear hK K hH213
              refine wpAnyH_ready (rs := [8]) (by kernel_rfl) (by simp) ?_
              refine AllReadyH.cons rfl (fun K hK => ?_) ?_
              · have cN : w4.cell? ⟨w.heap.size + 1, nn, none⟩ = some (.int .i64 (kf nn)) := pickI BI4.out nn hnn
                go_simp
                refine hK.out _ _ ?_ (fun hH220 => ?_)
                · (try dsimp only)
                  (try trivial)
                clear hK K hH219
                refine wpAnyH_take (i := 12) (v := ?v221) rfl (by kernel_rfl) (by kernel_rfl) (by kernel_rfl) (fun _ _ _ h => h) (Or.inl ⟨by rfl, ?hy221⟩) (by assumption) ?rest221
                case hy221 => (intro w hSw; (try dsimp only at hSw); go_simp; (try with_reducible rfl))
                refine wpAnyH_ready (rs := [13]) (by kernel_rfl) (by simp) ?_
                refine AllReadyH.cons rfl (fun K hK => ?_) ?_
                · have XF : Hid (DS q a len cap f w [.string ⟨#[]⟩, .string ⟨#[]⟩, .int .i64 0, .string ⟨#[]⟩] 4 w4) := X4.out
                  have k0 := XF.out.box.1.at 0 _ rfl
                  have y0 := XF.out.box.2 0
                  have k1 := XF.out.box.1.at 1 _ rfl
                  have y1 := XF.out.box.2 1
                  have k2 := XF.out.box.1.at 2 _ rfl
                  have y2 := XF.out.box.2 2
                  have k3 := XF.out.box.1.at 3 _ rfl
                  have y3 := XF.out.box.2 3
                  go_simp
                  refine hK.out _ _ ?_ (fun hH222 => ?_)
                  · (try dsimp only)
                    (try trivial)
                  clear hK K hH220
                  refine wpAnyH_done (by kernel_rfl) ?_ _
                  clear hH222
                  go_wp2
                  (try simp only [Exit.inBlock, Exit.then])
                  refine bodyPost_ret (v := .agg #[.string d1, .string d2, .int .i64 (kf nn), .string bb]) (by simp [results, Try.results26, go_sem, *]; try rfl) rfl ?_
                  exact ⟨d1, d2, kf nn, bb, rfl, HD1.out, HD2.out, kf_or nn, tx_le HB4.out, by first | exact gr_sets4 XF.out.gr | exact grown_alloc (gr_sets4 XB.out.gr) _⟩
                exact AllReadyH.nil
              exact AllReadyH.nil
            exact AllReadyH.nil
          exact AllReadyH.nil
        exact AllReadyH.nil
      exact AllReadyH.nil
    refine AllReadyH.cons rfl (fun K hK => ?_) ?_
    · go_simp
      refine hK.out _ _ ?_ (fun hH223 => ?_)
      · (try dsimp only)
        (try trivial)
      clear hK K hH181
      refine wpAnyH_ready (rs := [1]) (by kernel_rfl) (by simp) ?_
      refine AllReadyH.cons rfl (fun K hK => ?_) ?_
      · have XC : Hid (DS q a len cap f w [.string ⟨#[]⟩, .string ⟨#[]⟩, .int .i64 0, .string ⟨#[]⟩] 0 (((w.alloc (.cells #[.string ⟨#[]⟩, .string ⟨#[]⟩, .int .i64 0, .string ⟨#[]⟩] 24)).alloc (.cells #[.int .i64 2048, .int .i64 2054] 3)).alloc (.cells #[.string ⟨#[]⟩, .string ⟨#[98, 111, 100, 121]⟩, .string ⟨#[97, 98, 99]⟩] 9)).drew) := (DS.drew (DS.alloc (DS.alloc X0.out _) _))
        go_simp
        refine (mac_ds (by omega) _ XC).mono ?_
        rintro e w1 ⟨d1, rfl, hsz, Y1⟩
        have HD1 : Hid (d1.size = 6) := hsz
        clear hsz
        have BI1 : Hid (Boxed w1 (w.heap.size + 1) [.int .i64 2048, .int .i64 2054]) := kept_box Y1.out.2 (box_ab (w.alloc (.cells #[.string ⟨#[]⟩, .string ⟨#[]⟩, .int .i64 0, .string ⟨#[]⟩] 24)) [.int .i64 2048, .int .i64 2054] _ _ _ (by simp)) (by omega) (by first | omega | (simp; done) | (simp; omega))
        have BS1 : Hid (Boxed w1 (w.heap.size + 1 + 1) [.string ⟨#[]⟩, .string ⟨#[98, 111, 100, 121]⟩, .string ⟨#[97, 98, 99]⟩]) := kept_box Y1.out.2 (box_b (w.alloc (.cells #[.string ⟨#[]⟩, .string ⟨#[]⟩, .int .i64 0, .string ⟨#[]⟩] 24)) [.string ⟨#[]⟩, .string ⟨#[98, 111, 100, 121]⟩, .string ⟨#[97, 98, 99]⟩] _ _ _ (by simp)) (by omega) (by first | omega | (simp; done) | (simp; omega))
        have X1 : Hid (DS q a len cap f w [.string ⟨#[]⟩, .string ⟨#[]⟩, .int .i64 0, .string ⟨#[]⟩] 1 w1) := Y1.out.1
        have z1 := X1.out.lt
        have zz1 : w.heap.size + 3 ≤ w1.heap.size := by have := Y1.out.2.size; simpa using this
        clear Y1 XC
        go_wp2_with fail
        refine hK.out _ _ ?_ (fun hH224 => ?_)
        · (try dsimp only)
          (try trivial)
        clear hK K hH223
        refine wpAnyH_ready (rs := [3]) (by kernel_rfl) (by simp) ?_
        refine AllReadyH.cons rfl (fun K hK => ?_) ?_
        · have XC : Hid (DS q a len cap f w [.string ⟨#[]⟩, .string ⟨#[]⟩, .int .i64 0, .string ⟨#[]⟩] 1 w1) := X1.out
          go_simp
          refine (mac_ds (by omega) _ XC).mono ?_
          rintro e w2 ⟨d2, rfl, hsz, Y2⟩
          have HD2 : Hid (d2.size = 6) := hsz
          clear hsz
          have BI2 : Hid (Boxed w2 (w.heap.size + 1) [.int .i64 2048, .int .i64 2054]) := kept_box Y2.out.2 BI1.out (by omega) (by first | omega | (simp; done) | (simp; omega))
          have BS2 : Hid (Boxed w2 (w.heap.size + 1 + 1) [.string ⟨#[]⟩, .string ⟨#[98, 111, 100, 121]⟩, .string ⟨#[97, 98, 99]⟩]) := kept_box Y2.out.2 BS1.out (by omega) (by first | omega | (simp; done) | (simp; omega))
          have X2 : Hid (DS q a len cap f w [.string ⟨#[]⟩, .string ⟨#[]⟩, .int .i64 0, .string ⟨#[]⟩] 2 w2) := Y2.out.1
          have z2 := X2.out.lt
          have zz2 : w1.heap.size + 0 ≤ w2.heap.size := by have := Y2.out.2.size; simpa using this
          clear Y2 XC
          go_wp2_with fail
          refine hK.out _ _ ?_ (fun hH225 => ?_)
          · (try dsimp only)
            (try trivial)
          clear hK K hH224
          refine wpAnyH_ready (rs := [6]) (by kernel_rfl) (by simp) ?_
          refine AllReadyH.cons rfl (fun K hK => ?_) ?_
          · have XC : Hid (DS q a len cap f w [.string ⟨#[]⟩, .string ⟨#[]⟩, .int .i64 0, .string ⟨#[]⟩] 2 w2) := X2.out
            go_simp
            refine (next_ds 2 (by omega) (by omega) (by omega) _ XC).mono ?_
            rintro e w3 ⟨vv, rfl, v0, v1, Y3⟩
            obtain ⟨nn, rfl⟩ := Int.eq_ofNat_of_zero_le v0
            have hnn : nn < 2 := by omega
            have BI3 : Hid (Boxed w3 (w.heap.size + 1) [.int .i64 2048, .int .i64 2054]) := kept_box Y3.out.2 BI2.out (by omega) (by first | omega | (simp; done) | (simp; omega))
            have BS3 : Hid (Boxed w3 (w.heap.size + 1 + 1) [.string ⟨#[]⟩, .string ⟨#[98, 111, 100, 121]⟩, .string ⟨#[97, 98, 99]⟩]) := kept_box Y3.out.2 BS2.out (by omega) (by first | omega | (simp; done) | (simp; omega))
            have X3 : Hid (DS q a len cap f w [.string ⟨#[]⟩, .string ⟨#[]⟩, .int .i64 0, .string ⟨#[]⟩] 3 w3) := Y3.out.1
            have z3 := X3.out.lt
            have zz3 : w2.heap.size + 0 ≤ w3.heap.size := by have := Y3.out.2.size; simpa using this
            clear Y3 XC
            go_wp2_with fail
            refine hK.out _ _ ?_ (fun hH226 => ?_)
            · (try dsimp only)
              (try trivial)
            clear hK K hH225
            refine wpAnyH_take (i := 7) (v := ?v227) rfl (by kernel_rfl) (by kernel_rfl) (by kernel_rfl) (fun _ _ _ h => h) (Or.inl ⟨by rfl, ?hy227⟩) (by assumption) ?rest227
            case hy227 => (intro w hSw; (try dsimp only at hSw); go_simp; (try with_reducible rfl))
            refine wpAnyH_ready (rs := [8, 11]) (by kernel_rfl) (by simp) ?_
            refine AllReadyH.cons rfl (fun K hK => ?_) ?_
            · have cN : w3.cell? ⟨w.heap.size + 1, nn, none⟩ = some (.int .i64 (kf nn)) := pickI BI3.out nn hnn
              go_simp
              refine hK.out _ _ ?_ (fun hH228 => ?_)
              · (try dsimp only)
                (try trivial)
              clear hK K hH226
              refine wpAnyH_ready (rs := [11]) (by kernel_rfl) (by simp) ?_
              refine AllReadyH.cons rfl (fun K hK => ?_) ?_
              · have XC : Hid (DS q a len cap f w [.string ⟨#[]⟩, .string ⟨#[]⟩, .int .i64 0, .string ⟨#[]⟩] 3 w3) := X3.out
                have bS : Boxed w3 (w.heap.size + 1 + 1) [.string ⟨#[]⟩, .string ⟨#[98, 111, 100, 121]⟩, .string ⟨#[97, 98, 99]⟩] := BS3.out
                go_simp
                refine (pick_ds (by omega) (w.heap.size + 1 + 1) _ _ _ _ XC bS (by omega)).mono ?_
                rintro e w4 ⟨bb, rfl, hbb, Y4⟩
                have HB4 : Hid (bb = ⟨#[]⟩ ∨ bb = ⟨#[98, 111, 100, 121]⟩ ∨ bb = ⟨#[97, 98, 99]⟩) := hbb
                clear hbb bS
                have BI4 : Hid (Boxed w4 (w.heap.size + 1) [.int .i64 2048, .int .i64 2054]) := kept_box Y4.out.2 BI3.out (by omega) (by first | omega | (simp; done) | (simp; omega))
                have BS4 : Hid (Boxed w4 (w.heap.size + 1 + 1) [.string ⟨#[]⟩, .string ⟨#[98, 111, 100, 121]⟩, .string ⟨#[97, 98, 99]⟩]) := kept_box Y4.out.2 BS3.out (by omega) (by first | omega | (simp; done) | (simp; omega))
                have X4 : Hid (DS q a len cap f w [.string ⟨#[]⟩, .string ⟨#[]⟩, .int .i64 0, .string ⟨#[]⟩] 4 w4) := Y4.out.1
                have z4 := X4.out.lt
                have zz4 : w3.heap.size + 0 ≤ w4.heap.size := by have := Y4.out.2.size; simpa using this
                clear Y4 XC
                go_wp2_with fail
                refine hK.out _ _ ?_ (fun hH229 => ?_)
                · (try dsimp only)
                  (try trivial)
                clear hK K hH228
                refine wpAnyH_take (i := 12) (v := ?v230) rfl (by kernel_rfl) (by kernel_rfl) (by kernel_rfl) (fun _ _ _ h => h) (Or.inl ⟨by rfl, ?hy230⟩) (by assumption) ?rest230
                case hy230 => (intro w hSw; (try dsimp only at hSw); go_simp; (try with_reducible rfl))
                refine wpAnyH_ready (rs := [13]) (by kernel_rfl) (by simp) ?_
                refine AllReadyH.cons rfl (fun K hK => ?_) ?_
                · have XF : Hid (DS q a len cap f w [.string ⟨#[]⟩, .string ⟨#[]⟩, .int .i64 0, .string ⟨#[]⟩] 4 w4) := X4.out
                  have k0 := XF.out.box.1.at 0 _ rfl
                  have y0 := XF.out.box.2 0
                  have k1 := XF.out.box.1.at 1 _ rfl
                  have y1 := XF.out.box.2 1
                  have k2 := XF.out.box.1.at 2 _ rfl
                  have y2 := XF.out.box.2 2
                  have k3 := XF.out.box.1.at 3 _ rfl
                  have y3 := XF.out.box.2 3
                  go_simp
                  refine hK.out _ _ ?_ (fun hH231 => ?_)
                  · (try dsimp only)
                    (try trivial)
                  clear hK K hH229
                  refine wpAnyH_done (by kernel_rfl) ?_ _
                  clear hH231
                  go_wp2
                  (try simp only [Exit.inBlock, Exit.then])
                  refine bodyPost_ret (v := .agg #[.string d1, .string d2, .int .i64 (kf nn), .string bb]) (by simp [results, Try.results26, go_sem, *]; try rfl) rfl ?_
                  exact ⟨d1, d2, kf nn, bb, rfl, HD1.out, HD2.out, kf_or nn, tx_le HB4.out, by first | exact gr_sets4 XF.out.gr | exact grown_alloc (gr_sets4 XB.out.gr) _⟩
                exact AllReadyH.nil
              exact AllReadyH.nil
            refine AllReadyH.cons rfl (fun K hK => ?_) ?_
            · have XC : Hid (DS q a len cap f w [.string ⟨#[]⟩, .string ⟨#[]⟩, .int .i64 0, .string ⟨#[]⟩] 3 w3) := X3.out
              have bS : Boxed w3 (w.heap.size + 1 + 1) [.string ⟨#[]⟩, .string ⟨#[98, 111, 100, 121]⟩, .string ⟨#[97, 98, 99]⟩] := BS3.out
              go_simp
              refine (pick_ds (by omega) (w.heap.size + 1 + 1) _ _ _ _ XC bS (by omega)).mono ?_
              rintro e w4 ⟨bb, rfl, hbb, Y4⟩
              have HB4 : Hid (bb = ⟨#[]⟩ ∨ bb = ⟨#[98, 111, 100, 121]⟩ ∨ bb = ⟨#[97, 98, 99]⟩) := hbb
              clear hbb bS
              have BI4 : Hid (Boxed w4 (w.heap.size + 1) [.int .i64 2048, .int .i64 2054]) := kept_box Y4.out.2 BI3.out (by omega) (by first | omega | (simp; done) | (simp; omega))
              have BS4 : Hid (Boxed w4 (w.heap.size + 1 + 1) [.string ⟨#[]⟩, .string ⟨#[98, 111, 100, 121]⟩, .string ⟨#[97, 98, 99]⟩]) := kept_box Y4.out.2 BS3.out (by omega) (by first | omega | (simp; done) | (simp; omega))
              have X4 : Hid (DS q a len cap f w [.string ⟨#[]⟩, .string ⟨#[]⟩, .int .i64 0, .string ⟨#[]⟩] 4 w4) := Y4.out.1
              have z4 := X4.out.lt
              have zz4 : w3.heap.size + 0 ≤ w4.heap.size := by have := Y4.out.2.size; simpa using this
              clear Y4 XC
              go_wp2_with fail
              refine hK.out _ _ ?_ (fun hH232 => ?_)
              · (try dsimp only)
                (try trivial)
              clear hK K hH226
              refine wpAnyH_ready (rs := [8]) (by kernel_rfl) (by simp) ?_
              refine AllReadyH.cons rfl (fun K hK => ?_) ?_
              · have cN : w4.cell? ⟨w.heap.size + 1, nn, none⟩ = some (.int .i64 (kf nn)) := pickI BI4.out nn hnn
                go_simp
                refine hK.out _ _ ?_ (fun hH233 => ?_)
                · (try dsimp only)
                  (try trivial)
                clear hK K hH232
                refine wpAnyH_take (i := 12) (v := ?v234) rfl (by kernel_rfl) (by kernel_rfl) (by kernel_rfl) (fun _ _ _ h => h) (Or.inl ⟨by rfl, ?hy234⟩) (by assumption) ?rest234
                case hy234 => (intro w hSw; (try dsimp only at hSw); go_simp; (try with_reducible rfl))
                refine wpAnyH_ready (rs := [13]) (by kernel_rfl) (by simp) ?_
                refine AllReadyH.cons rfl (fun K hK => ?_) ?_
                · have XF : Hid (DS q a len cap f w [.string ⟨#[]⟩, .string ⟨#[]⟩, .int .i64 0, .string ⟨#[]⟩] 4 w4) := X4.out
                  have k0 := XF.out.box.1.at 0 _ rfl
                  have y0 := XF.out.box.2 0
                  have k1 := XF.out.box.1.at 1 _ rfl
                  have y1 := XF.out.box.2 1
                  have k2 := XF.out.box.1.at 2 _ rfl
                  have y2 := XF.out.box.2 2
                  have k3 := XF.out.box.1.at 3 _ rfl
                  have y3 := XF.out.box.2 3
                  go_simp
                  refine hK.out _ _ ?_ (fun hH235 => ?_)
                  · (try dsimp only)
                    (try trivial)
                  clear hK K hH233
                  refine wpAnyH_done (by kernel_rfl) ?_ _
                  clear hH235
                  go_wp2
                  (try simp only [Exit.inBlock, Exit.then])
                  refine bodyPost_ret (v := .agg #[.string d1, .string d2, .int .i64 (kf nn), .string bb]) (by simp [results, Try.results26, go_sem, *]; try rfl) rfl ?_
                  exact ⟨d1, d2, kf nn, bb, rfl, HD1.out, HD2.out, kf_or nn, tx_le HB4.out, by first | exact gr_sets4 XF.out.gr | exact grown_alloc (gr_sets4 XB.out.gr) _⟩
                exact AllReadyH.nil
              exact AllReadyH.nil
            exact AllReadyH.nil
          exact AllReadyH.nil
        exact AllReadyH.nil
      exact AllReadyH.nil
    exact AllReadyH.nil
  refine AllReadyH.cons rfl (fun K hK => ?_) ?_
  · go_simp
    refine hK.out _ _ ?_ (fun hH236 => ?_)
    · (try dsimp only)
      (try trivial)
    clear hK K hH0
    refine wpAnyH_ready (rs := [1, 4]) (by kernel_rfl) (by simp) ?_
    refine AllReadyH.cons rfl (fun K hK => ?_) ?_
    · have XC : Hid (DS q a len cap f w [.string ⟨#[]⟩, .string ⟨#[]⟩, .int .i64 0, .string ⟨#[]⟩] 0 ((w.alloc (.cells #[.string ⟨#[]⟩, .string ⟨#[]⟩, .int .i64 0, .string ⟨#[]⟩] 24)).alloc (.cells #[.string ⟨#[]⟩, .string ⟨#[98, 111, 100, 121]⟩, .string ⟨#[97, 98, 99]⟩] 9)).drew) := (DS.drew (DS.alloc X0.out _))
      go_simp
      refine (mac_ds (by omega) _ XC).mono ?_
      rintro e w1 ⟨d1, rfl, hsz, Y1⟩
      have HD1 : Hid (d1.size = 6) := hsz
      clear hsz
      have BS1 : Hid (Boxed w1 (w.heap.size + 1) [.string ⟨#[]⟩, .string ⟨#[98, 111, 100, 121]⟩, .string ⟨#[97, 98, 99]⟩]) := kept_box Y1.out.2 (box_a (w.alloc (.cells #[.string ⟨#[]⟩, .string ⟨#[]⟩, .int .i64 0, .string ⟨#[]⟩] 24)) [.string ⟨#[]⟩, .string ⟨#[98, 111, 100, 121]⟩, .string ⟨#[97, 98, 99]⟩] _ _ (by simp)) (by omega) (by first | omega | (simp; done) | (simp; omega))
      have X1 : Hid (DS q a len cap f w [.string ⟨#[]⟩, .string ⟨#[]⟩, .int .i64 0, .string ⟨#[]⟩] 1 w1) := Y1.out.1
      have z1 := X1.out.lt
      have zz1 : w.heap.size + 2 ≤ w1.heap.size := by have := Y1.out.2.size; simpa using this
      clear Y1 XC
      go_wp2_with fail
      refine hK.out _ _ ?_ (fun hH237 => ?_)
      · (try dsimp only)
        (try trivial)
      clear hK K hH236
      refine wpAnyH_ready (rs := [3, 4]) (by kernel_rfl) (by simp) ?_
      refine AllReadyH.cons rfl (fun K hK => ?_) ?_
      · have XC : Hid (DS q a len cap f w [.string ⟨#[]⟩, .string ⟨#[]⟩, .int .i64 0, .string ⟨#[]⟩] 1 w1) := X1.out
        go_simp
        refine (mac_ds (by omega) _ XC).mono ?_
        rintro e w2 ⟨d2, rfl, hsz, Y2⟩
        have HD2 : Hid (d2.size = 6) := hsz
        clear hsz
        have BS2 : Hid (Boxed w2 (w.heap.size + 1) [.string ⟨#[]⟩, .string ⟨#[98, 111, 100, 121]⟩, .string ⟨#[97, 98, 99]⟩]) := kept_box Y2.out.2 BS1.out (by omega) (by first | omega | (simp; done) | (simp; omega))
        have X2 : Hid (DS q a len cap f w [.string ⟨#[]⟩, .string ⟨#[]⟩, .int .i64 0, .string ⟨#[]⟩] 2 w2) := Y2.out.1
        have z2 := X2.out.lt
        have zz2 : w1.heap.size + 0 ≤ w2.heap.size := by have := Y2.out.2.size; simpa using this
        clear Y2 XC
        go_wp2_with fail
        refine hK.out _ _ ?_ (fun hH238 => ?_)
        · (try dsimp only)
          (try trivial)
        clear hK K hH237
        refine wpAnyH_ready (rs := [4, 6]) (by kernel_rfl) (by simp) ?_
        refine AllReadyH.cons rfl (fun K hK => ?_) ?_
        · go_simp
          refine hK.out _ _ ?_ (fun hH239 => ?_)
          · (try dsimp only)
            (try trivial)
          clear hK K hH238
          refine wpAnyH_ready (rs := [6]) (by kernel_rfl) (by simp) ?_
          refine AllReadyH.cons rfl (fun K hK => ?_) ?_
          · have XC : Hid (DS q a len cap f w [.string ⟨#[]⟩, .string ⟨#[]⟩, .int .i64 0, .string ⟨#[]⟩] 2 (w2.alloc (.cells #[.int .i64 2048, .int .i64 2054] 3))) := (DS.alloc X2.out _)
            go_simp
            refine (next_ds 2 (by omega) (by omega) (by omega) _ XC).mono ?_
            rintro e w3 ⟨vv, rfl, v0, v1, Y3⟩
            obtain ⟨nn, rfl⟩ := Int.eq_ofNat_of_zero_le v0
            have hnn : nn < 2 := by omega
            have BS3 : Hid (Boxed w3 (w.heap.size + 1) [.string ⟨#[]⟩, .string ⟨#[98, 111, 100, 121]⟩, .string ⟨#[97, 98, 99]⟩]) := kept_box Y3.out.2 (Boxed.alloc BS2.out (by first | omega | (simp; done) | (simp; omega)) _) (by omega) (by first | omega | (simp; done) | (simp; omega))
            have BI3 : Hid (Boxed w3 (w2.heap.size) [.int .i64 2048, .int .i64 2054]) := kept_box Y3.out.2 (box_a w2 [.int .i64 2048, .int .i64 2054] _ _ (by simp)) (by omega) (by first | omega | (simp; done) | (simp; omega))
            have X3 : Hid (DS q a len cap f w [.string ⟨#[]⟩, .string ⟨#[]⟩, .int .i64 0, .string ⟨#[]⟩] 3 w3) := Y3.out.1
            have z3 := X3.out.lt
            have zz3 : w2.heap.size + 1 ≤ w3.heap.size := by have := Y3.out.2.size; simpa using this
            clear Y3 XC
            go_wp2_with fail
            refine hK.out _ _ ?_ (fun hH240 => ?_)
            · (try dsimp only)
              (try trivial)
            clear hK K hH239
            refine wpAnyH_take (i := 7) (v := ?v241) rfl (by kernel_rfl) (by kernel_rfl) (by kernel_rfl) (fun _ _ _ h => h) (Or.inl ⟨by rfl, ?hy241⟩) (by assumption) ?rest241
            case hy241 => (intro w hSw; (try dsimp only at hSw); go_simp; (try with_reducible rfl))
            refine wpAnyH_ready (rs := [8, 11]) (by kernel_rfl) (by simp) ?_
            refine AllReadyH.cons rfl (fun K hK => ?_) ?_
            · have cN : w3.cell? ⟨w2.heap.size, nn, none⟩ = some (.int .i64 (kf nn)) := pickI BI3.out nn hnn
              go_simp
              refine hK.out _ _ ?_ (fun hH242 => ?_)
              · (try dsimp only)
                (try trivial)
              clear hK K hH240
              refine wpAnyH_ready (rs := [11]) (by kernel_rfl) (by simp) ?_
              refine AllReadyH.cons rfl (fun K hK => ?_) ?_
              · have XC : Hid (DS q a len cap f w [.string ⟨#[]⟩, .string ⟨#[]⟩, .int .i64 0, .string ⟨#[]⟩] 3 w3) := X3.out
                have bS : Boxed w3 (w.heap.size + 1) [.string ⟨#[]⟩, .string ⟨#[98, 111, 100, 121]⟩, .string ⟨#[97, 98, 99]⟩] := BS3.out
                go_simp
                refine (pick_ds (by omega) (w.heap.size + 1) _ _ _ _ XC bS (by omega)).mono ?_
                rintro e w4 ⟨bb, rfl, hbb, Y4⟩
                have HB4 : Hid (bb = ⟨#[]⟩ ∨ bb = ⟨#[98, 111, 100, 121]⟩ ∨ bb = ⟨#[97, 98, 99]⟩) := hbb
                clear hbb bS
                have BS4 : Hid (Boxed w4 (w.heap.size + 1) [.string ⟨#[]⟩, .string ⟨#[98, 111, 100, 121]⟩, .string ⟨#[97, 98, 99]⟩]) := kept_box Y4.out.2 BS3.out (by omega) (by first | omega | (simp; done) | (simp; omega))
                have BI4 : Hid (Boxed w4 (w2.heap.size) [.int .i64 2048, .int .i64 2054]) := kept_box Y4.out.2 BI3.out (by omega) (by first | omega | (simp; done) | (simp; omega))
                have X4 : Hid (DS q a len cap f w [.string ⟨#[]⟩, .string ⟨#[]⟩, .int .i64 0, .string ⟨#[]⟩] 4 w4) := Y4.out.1
                have z4 := X4.out.lt
                have zz4 : w3.heap.size + 0 ≤ w4.heap.size := by have := Y4.out.2.size; simpa using this
                clear Y4 XC
                go_wp2_with fail
                refine hK.out _ _ ?_ (fun hH243 => ?_)
                · (try dsimp only)
                  (try trivial)
                clear hK K hH242
                refine wpAnyH_take (i := 12) (v := ?v244) rfl (by kernel_rfl) (by kernel_rfl) (by kernel_rfl) (fun _ _ _ h => h) (Or.inl ⟨by rfl, ?hy244⟩) (by assumption) ?rest244
                case hy244 => (intro w hSw; (try dsimp only at hSw); go_simp; (try with_reducible rfl))
                refine wpAnyH_ready (rs := [13]) (by kernel_rfl) (by simp) ?_
                refine AllReadyH.cons rfl (fun K hK => ?_) ?_
                · have XF : Hid (DS q a len cap f w [.string ⟨#[]⟩, .string ⟨#[]⟩, .int .i64 0, .string ⟨#[]⟩] 4 w4) := X4.out
                  have k0 := XF.out.box.1.at 0 _ rfl
                  have y0 := XF.out.box.2 0
                  have k1 := XF.out.box.1.at 1 _ rfl
                  have y1 := XF.out.box.2 1
                  have k2 := XF.out.box.1.at 2 _ rfl
                  have y2 := XF.out.box.2 2
                  have k3 := XF.out.box.1.at 3 _ rfl
                  have y3 := XF.out.box.2 3
                  go_simp
                  refine hK.out _ _ ?_ (fun hH245 => ?_)
                  · (try dsimp only)
                    (try trivial)
                  clear hK K hH243
                  refine wpAnyH_done (by kernel_rfl) ?_ _
                  clear hH245
                  go_wp2
                  (try simp only [Exit.inBlock, Exit.then])
                  refine bodyPost_ret (v := .agg #[.string d1, .string d2, .int .i64 (kf nn), .string bb]) (by simp [results, Try.results26, go_sem, *]; try rfl) rfl ?_
                  exact ⟨d1, d2, kf nn, bb, rfl, HD1.out, HD2.out, kf_or nn, tx_le HB4.out, by first | exact gr_sets4 XF.out.gr | exact grown_alloc (gr_sets4 XB.out.gr) _⟩
                exact AllReadyH.nil
              exact AllReadyH.nil
            refine AllReadyH.cons rfl (fun K hK => ?_) ?_
            · have XC : Hid (DS q a len cap f w [.string ⟨#[]⟩, .string ⟨#[]⟩, .int .i64 0, .string ⟨#[]⟩] 3 w3) := X3.out
              have bS : Boxed w3 (w.heap.size + 1) [.string ⟨#[]⟩, .string ⟨#[98, 111, 100, 121]⟩, .string ⟨#[97, 98, 99]⟩] := BS3.out
              go_simp
              refine (pick_ds (by omega) (w.heap.size + 1) _ _ _ _ XC bS (by omega)).mono ?_
              rintro e w4 ⟨bb, rfl, hbb, Y4⟩
              have HB4 : Hid (bb = ⟨#[]⟩ ∨ bb = ⟨#[98, 111, 100, 121]⟩ ∨ bb = ⟨#[97, 98, 99]⟩) := hbb
              clear hbb bS
              have BS4 : Hid (Boxed w4 (w.heap.size + 1) [.string ⟨#[]⟩, .string ⟨#[98, 111, 100, 121]⟩, .string ⟨#[97, 98, 99]⟩]) := kept_box Y4.out.2 BS3.out (by omega) (by first | omega | (simp; done) | (simp; omega))
              have BI4 : Hid (Boxed w4 (w2.heap.size) [.int .i64 2048, .int .i64 2054]) := kept_box Y4.out.2 BI3.out (by omega) (by first | omega | (simp; done) | (simp; omega))
              have X4 : Hid (DS q a len cap f w [.string ⟨#[]⟩, .string ⟨#[]⟩, .int .i64 0, .string ⟨#[]⟩] 4 w4) := Y4.out.1
              have z4 := X4.out.lt
              have zz4 : w3.heap.size + 0 ≤ w4.heap.size := by have := Y4.out.2.size; simpa using this
              clear Y4 XC
              go_wp2_with fail
              refine hK.out _ _ ?_ (fun hH246 => ?_)
              · (try dsimp only)
                (try trivial)
              clear hK K hH240
              refine wpAnyH_ready (rs := [8]) (by kernel_rfl) (by simp) ?_
              refine AllReadyH.cons rfl (fun K hK => ?_) ?_
              · have cN : w4.cell? ⟨w2.heap.size, nn, none⟩ = some (.int .i64 (kf nn)) := pickI BI4.out nn hnn
                go_simp
                refine hK.out _ _ ?_ (fun hH247 => ?_)
                · (try dsimp only)
                  (try trivial)
                clear hK K hH246
                refine wpAnyH_take (i := 12) (v := ?v248) rfl (by kernel_rfl) (by kernel_rfl) (by kernel_rfl) (fun _ _ _ h => h) (Or.inl ⟨by rfl, ?hy248⟩) (by assumption) ?rest248
                case hy248 => (intro w hSw; (try dsimp only at hSw); go_simp; (try with_reducible rfl))
                refine wpAnyH_ready (rs := [13]) (by kernel_rfl) (by simp) ?_
                refine AllReadyH.cons rfl (fun K hK => ?_) ?_
                · have XF : Hid (DS q a len cap f w [.string ⟨#[]⟩, .string ⟨#[]⟩, .int .i64 0, .string ⟨#[]⟩] 4 w4) := X4.out
                  have k0 := XF.out.box.1.at 0 _ rfl
                  have y0 := XF.out.box.2 0
                  have k1 := XF.out.box.1.at 1 _ rfl
                  have y1 := XF.out.box.2 1
                  have k2 := XF.out.box.1.at 2 _ rfl
                  have y2 := XF.out.box.2 2
                  have k3 := XF.out.box.1.at 3 _ rfl
                  have y3 := XF.out.box.2 3
                  go_simp
                  refine hK.out _ _ ?_ (fun hH249 => ?_)
                  · (try dsimp only)
                    (try trivial)
                  clear hK K hH247
                  refine wpAnyH_done (by kernel_rfl) ?_ _
                  clear hH249
                  go_wp2
                  (try simp only [Exit.inBlock, Exit.then])
                  refine bodyPost_ret (v := .agg #[.string d1, .string d2, .int .i64 (kf nn), .string bb]) (by simp [results, Try.results26, go_sem, *]; try rfl) rfl ?_
                  exact ⟨d1, d2, kf nn, bb, rfl, HD1.out, HD2.out, kf_or nn, tx_le HB4.out, by first | exact gr_sets4 XF.out.gr | exact grown_alloc (gr_sets4 XB.out.gr) _⟩
                exact AllReadyH.nil
              exact AllReadyH.nil
            exact AllReadyH.nil
          exact AllReadyH.nil
        refine AllReadyH.cons rfl (fun K hK => ?_) ?_
        · have XC : Hid (DS q a len cap f w [.string ⟨#[]⟩, .string ⟨#[]⟩, .int .i64 0, .string ⟨#[]⟩] 2 w2) := X2.out
          go_simp
          refine (next_ds 2 (by omega) (by omega) (by omega) _ XC).mono ?_
          rintro e w3 ⟨vv, rfl, v0, v1, Y3⟩
          obtain ⟨nn, rfl⟩ := Int.eq_ofNat_of_zero_le v0
          have hnn : nn < 2 := by omega
          have BS3 : Hid (Boxed w3 (w.heap.size + 1) [.string ⟨#[]⟩, .string ⟨#[98, 111, 100, 121]⟩, .string ⟨#[97, 98, 99]⟩]) := kept_box Y3.out.2 BS2.out (by omega) (by first | omega | (simp; done) | (simp; omega))
          have X3 : Hid (DS q a len cap f w [.string ⟨#[]⟩, .string ⟨#[]⟩, .int .i64 0, .string ⟨#[]⟩] 3 w3) := Y3.out.1
          have z3 := X3.out.lt
          have zz3 : w2.heap.size + 0 ≤ w3.heap.size := by have := Y3.out.2.size; simpa using this
          clear Y3 XC
          go_wp2_with fail
          refine hK.out _ _ ?_ (fun hH250 => ?_)
          · (try dsimp only)
            (try trivial)
          clear hK K hH238
          refine wpAnyH_ready (rs := [4, 11]) (by kernel_rfl) (by simp) ?_
          refine AllReadyH.cons rfl (fun K hK => ?_) ?_
          · go_simp
            refine hK.out _ _ ?_ (fun hH251 => ?_)
            · (try dsimp only)
              (try trivial)
            clear hK K hH250
            refine wpAnyH_take (i := 7) (v := ?v252) rfl (by kernel_rfl) (by kernel_rfl) (by kernel_rfl) (fun _ _ _ h => h) (Or.inl ⟨by rfl, ?hy252⟩) (by assumption) ?rest252
            case hy252 => (intro w hSw; (try dsimp only at hSw); go_simp; (try with_reducible rfl))
            refine wpAnyH_ready (rs := [8, 11]) (by kernel_rfl) (by simp) ?_
            refine AllReadyH.cons rfl (fun K hK => ?_) ?_
            · have cN : (w3.alloc (.cells #[.int .i64 2048, .int .i64 2054] 3)).cell? ⟨w3.heap.size, nn, none⟩ = some (.int .i64 (kf nn)) := pickI (box_a w3 [.int .i64 2048, .int .i64 2054] _ _ (by simp)) nn hnn
              go_simp
              refine hK.out _ _ ?_ (fun hH253 => ?_)
              · (try dsimp only)
                (try trivial)
              clear hK K hH251
              refine wpAnyH_ready (rs := [11]) (by kernel_rfl) (by simp) ?_
              refine AllReadyH.cons rfl (fun K hK => ?_) ?_
              · have XC : Hid (DS q a len cap f w [.string ⟨#[]⟩, .string ⟨#[]⟩, .int .i64 0, .string ⟨#[]⟩] 3 (w3.alloc (.cells #[.int .i64 2048, .int .i64 2054] 3))) := (DS.alloc X3.out _)
                have bS : Boxed (w3.alloc (.cells #[.int .i64 2048, .int .i64 2054] 3)) (w.heap.size + 1) [.string ⟨#[]⟩, .string ⟨#[98, 111, 100, 121]⟩, .string ⟨#[97, 98, 99]⟩] := (Boxed.alloc BS3.out (by first | omega | (simp; done) | (simp; omega)) _)
                go_simp
                refine (pick_ds (by omega) (w.heap.size + 1) _ _ _ _ XC bS (by omega)).mono ?_
                rintro e w4 ⟨bb, rfl, hbb, Y4⟩
                have HB4 : Hid (bb = ⟨#[]⟩ ∨ bb = ⟨#[98, 111, 100, 121]⟩ ∨ bb = ⟨#[97, 98, 99]⟩) := hbb
                clear hbb bS
                have BS4 : Hid (Boxed w4 (w.heap.size + 1) [.string ⟨#[]⟩, .string ⟨#[98, 111, 100, 121]⟩, .string ⟨#[97, 98, 99]⟩]) := kept_box Y4.out.2 (Boxed.alloc BS3.out (by first | omega | (simp; done) | (simp; omega)) _) (by omega) (by first | omega | (simp; done) | (simp; omega))
                have BI4 : Hid (Boxed w4 (w3.heap.size) [.int .i64 2048, .int .i64 2054]) := kept_box Y4.out.2 (box_a w3 [.int .i64 2048, .int .i64 2054] _ _ (by simp)) (by omega) (by first | omega | (simp; done) | (simp; omega))
                have X4 : Hid (DS q a len cap f w [.string ⟨#[]⟩, .string ⟨#[]⟩, .int .i64 0, .string ⟨#[]⟩] 4 w4) := Y4.out.1
                have z4 := X4.out.lt
                have zz4 : w3.heap.size + 1 ≤ w4.heap.size := by have := Y4.out.2.size; simpa using this
                clear Y4 XC
                go_wp2_with fail
                refine hK.out _ _ ?_ (fun hH254 => ?_)
                · (try dsimp only)
                  (try trivial)
                clear hK K hH253
                refine wpAnyH_take (i := 12) (v := ?v255) rfl (by kernel_rfl) (by kernel_rfl) (by kernel_rfl) (fun _ _ _ h => h) (Or.inl ⟨by rfl, ?hy255⟩) (by assumption) ?rest255
                case hy255 => (intro w hSw; (try dsimp only at hSw); go_simp; (try with_reducible rfl))
                refine wpAnyH_ready (rs := [13]) (by kernel_rfl) (by simp) ?_
                refine AllReadyH.cons rfl (fun K hK => ?_) ?_
                · have XF : Hid (DS q a len cap f w [.string ⟨#[]⟩, .string ⟨#[]⟩, .int .i64 0, .string ⟨#[]⟩] 4 w4) := X4.out
                  have k0 := XF.out.box.1.at 0 _ rfl
                  have y0 := XF.out.box.2 0
                  have k1 := XF.out.box.1.at 1 _ rfl
                  have y1 := XF.out.box.2 1
                  have k2 := XF.out.box.1.at 2 _ rfl
                  have y2 := XF.out.box.2 2
                  have k3 := XF.out.box.1.at 3 _ rfl
                  have y3 := XF.out.box.2 3
                  go_simp
                  refine hK.out _ _ ?_ (fun hH256 => ?_)
                  · (try dsimp only)
                    (try trivial)
                  clear hK K hH254
                  refine wpAnyH_done (by kernel_rfl) ?_ _
                  clear hH256
                  go_wp2
                  (try simp only [Exit.inBlock, Exit.then])
                  refine bodyPost_ret (v := .agg #[.string d1, .string d2, .int .i64 (kf nn), .string bb]) (by simp [results, Try.results26, go_sem, *]; try rfl) rfl ?_
                  exact ⟨d1, d2, kf nn, bb, rfl, HD1.out, HD2.out, kf_or nn, tx_le HB4.out, by first | exact gr_sets4 XF.out.gr | exact grown_alloc (gr_sets4 XB.out.gr) _⟩
                exact AllReadyH.nil
              exact AllReadyH.nil
            refine AllReadyH.cons rfl (fun K hK => ?_) ?_
            · have XC : Hid (DS q a len cap f w [.string ⟨#[]⟩, .string ⟨#[]⟩, .int .i64 0, .string ⟨#[]⟩] 3 (w3.alloc (.cells #[.int .i64 2048, .int .i64 2054] 3))) := (DS.alloc X3.out _)
              have bS : Boxed (w3.alloc (.cells #[.int .i64 2048, .int .i64 2054] 3)) (w.heap.size + 1) [.string ⟨#[]⟩, .string ⟨#[98, 111, 100, 121]⟩, .string ⟨#[97, 98, 99]⟩] := (Boxed.alloc BS3.out (by first | omega | (simp; done) | (simp; omega)) _)
              go_simp
              refine (pick_ds (by omega) (w.heap.size + 1) _ _ _ _ XC bS (by omega)).mono ?_
              rintro e w4 ⟨bb, rfl, hbb, Y4⟩
              have HB4 : Hid (bb = ⟨#[]⟩ ∨ bb = ⟨#[98, 111, 100, 121]⟩ ∨ bb = ⟨#[97, 98, 99]⟩) := hbb
              clear hbb bS
              have BS4 : Hid (Boxed w4 (w.heap.size + 1) [.string ⟨#[]⟩, .string ⟨#[98, 111, 100, 121]⟩, .string ⟨#[97, 98, 99]⟩]) := kept_box Y4.out.2 (Boxed.alloc BS3.out (by first | omega | (simp; done) | (simp; omega)) _) (by omega) (by first | omega | (simp; done) | (simp; omega))
              have BI4 : Hid (Boxed w4 (w3.heap.size) [.int .i64 2048, .int .i64 2054]) := kept_box Y4.out.2 (box_a w3 [.int .i64 2048, .int .i64 2054] _ _ (by simp)) (by omega) (by first | omega | (simp; done) | (simp; omega))
              have X4 : Hid (DS q a len cap f w [.string ⟨#[]⟩, .string ⟨#[]⟩, .int .i64 0, .string ⟨#[]⟩] 4 w4) := Y4.out.1
              have z4 := X4.out.lt
              have zz4 : w3.heap.size + 1 ≤ w4.heap.size := by have := Y4.out.2.size; simpa using this
              clear Y4 XC
              go_wp2_with fail
              refine hK.out _ _ ?_ (fun hH257 => ?_)
              · (try dsimp only)
                (try trivial)
              clear hK K hH251
              refine wpAnyH_ready (rs := [8]) (by kernel_rfl) (by simp) ?_
              refine AllReadyH.cons rfl (fun K hK => ?_) ?_
              · have cN : w4.cell? ⟨w3.heap.size, nn, none⟩ = some (.int .i64 (kf nn)) := pickI BI4.out nn hnn
                go_simp
                refine hK.out _ _ ?_ (fun hH258 => ?_)
                · (try dsimp only)
                  (try trivial)
                clear hK K hH257
                refine wpAnyH_take (i := 12) (v := ?v259) rfl (by kernel_rfl) (by kernel_rfl) (by kernel_rfl) (fun _ _ _ h => h) (Or.inl ⟨by rfl, ?hy259⟩) (by assumption) ?rest259
                case hy259 => (intro w hSw; (try dsimp only at hSw); go_simp; (try with_reducible rfl))
                refine wpAnyH_ready (rs := [13]) (by kernel_rfl) (by simp) ?_
                refine AllReadyH.cons rfl (fun K hK => ?_) ?_
                · have XF : Hid (DS q a len cap f w [.string ⟨#[]⟩, .string ⟨#[]⟩, .int .i64 0, .string ⟨#[]⟩] 4 w4) := X4.out
                  have k0 := XF.out.box.1.at 0 _ rfl
                  have y0 := XF.out.box.2 0
                  have k1 := XF.out.box.1.at 1 _ rfl
                  have y1 := XF.out.box.2 1
                  have k2 := XF.out.box.1.at 2 _ rfl
                  have y2 := XF.out.box.2 2
                  have k3 := XF.out.box.1.at 3 _ rfl
                  have y3 := XF.out.box.2 3
                  go_simp
                  refine hK.out _ _ ?_ (fun hH260 => ?_)
                  · (try dsimp only)
                    (try trivial)
                  clear hK K hH258
                  refine wpAnyH_done (by kernel_rfl) ?_ _
                  clear hH260
                  go_wp2
                  (try simp only [Exit.inBlock, Exit.then])
                  refine bodyPost_ret (v := .agg #[.string d1, .string d2, .int .i64 (kf nn), .string bb]) (by simp [results, Try.results26, go_sem, *]; try rfl) rfl ?_
                  exact ⟨d1, d2, kf nn, bb, rfl, HD1.out, HD2.out, kf_or nn, tx_le HB4.out, by first | exact gr_sets4 XF.out.gr | exact grown_alloc (gr_sets4 XB.out.gr) _⟩
                exact AllReadyH.nil
              exact AllReadyH.nil
            exact AllReadyH.nil
          refine AllReadyH.cons rfl (fun K hK => ?_) ?_
          · have XC : Hid (DS q a len cap f w [.string ⟨#[]⟩, .string ⟨#[]⟩, .int .i64 0, .string ⟨#[]⟩] 3 w3) := X3.out
            have bS : Boxed w3 (w.heap.size + 1) [.string ⟨#[]⟩, .string ⟨#[98, 111, 100, 121]⟩, .string ⟨#[97, 98, 99]⟩] := BS3.out
            go_simp
            refine (pick_ds (by omega) (w.heap.size + 1) _ _ _ _ XC bS (by omega)).mono ?_
            rintro e w4 ⟨bb, rfl, hbb, Y4⟩
            have HB4 : Hid (bb = ⟨#[]⟩ ∨ bb = ⟨#[98, 111, 100, 121]⟩ ∨ bb = ⟨#[97, 98, 99]⟩) := hbb
            clear hbb bS
            have BS4 : Hid (Boxed w4 (w.heap.size + 1) [.string ⟨#[]⟩, .string ⟨#[98, 111, 100, 121]⟩, .string ⟨#[97, 98, 99]⟩]) := kept_box Y4.out.2 BS3.out (by omega) (by first | omega | (simp; done) | (simp; omega))
            have X4 : Hid (DS q a len cap f w [.string ⟨#[]⟩, .string ⟨#[]⟩, .int .i64 0, .string ⟨#[]⟩] 4 w4) := Y4.out.1
            have z4 := X4.out.lt
            have zz4 : w3.heap.size + 0 ≤ w4.heap.size := by have := Y4.out.2.size; simpa using this
            clear Y4 XC
            go_wp2_with fail
            refine hK.out _ _ ?_ (fun hH261 => ?_)
            · (try dsimp only)
              (try trivial)
            clear hK K hH250
            refine wpAnyH_ready (rs := [4]) (by kernel_rfl) (by simp) ?_
            refine AllReadyH.cons rfl (fun K hK => ?_) ?_
            · go_simp
              refine hK.out _ _ ?_ (fun hH262 => ?_)
              · (try dsimp only)
                (try trivial)
              clear hK K hH261
              refine wpAnyH_take (i := 7) (v := ?v263) rfl (by kernel_rfl) (by kernel_rfl) (by kernel_rfl) (fun _ _ _ h => h) (Or.inl ⟨by rfl, ?hy263⟩) (by assumption) ?rest263
              case hy263 => (intro w hSw; (try dsimp only at hSw); go_simp; (try with_reducible rfl))
              refine wpAnyH_ready (rs := [8]) (by kernel_rfl) (by simp) ?_
              refine AllReadyH.cons rfl (fun K hK => ?_) ?_
              · have cN : (w4.alloc (.cells #[.int .i64 2048, .int .i64 2054] 3)).cell? ⟨w4.heap.size, nn, none⟩ = some (.int .i64 (kf nn)) := pickI (box_a w4 [.int .i64 2048, .int .i64 2054] _ _ (by simp)) nn hnn
                go_simp
                refine hK.out _ _ ?_ (fun hH264 => ?_)
                · (try dsimp only)
                  (try trivial)
                clear hK K hH262
                refine wpAnyH_take (i := 12) (v := ?v265) rfl (by kernel_rfl) (by kernel_rfl) (by kernel_rfl) (fun _ _ _ h => h) (Or.inl ⟨by rfl, ?hy265⟩) (by assumption) ?rest265
                case hy265 => (intro w hSw; (try dsimp only at hSw); go_simp; (try with_reducible rfl))
                refine wpAnyH_ready (rs := [13]) (by kernel_rfl) (by simp) ?_
                refine AllReadyH.cons rfl (fun K hK => ?_) ?_
                · have XF : Hid (DS q a len cap f w [.string ⟨#[]⟩, .string ⟨#[]⟩, .int .i64 0, .string ⟨#[]⟩] 4 (w4.alloc (.cells #[.int .i64 2048, .int .i64 2054] 3))) := (DS.alloc X4.out _)
                  have k0 := XF.out.box.1.at 0 _ rfl
                  have y0 := XF.out.box.2 0
                  have k1 := XF.out.box.1.at 1 _ rfl
                  have y1 := XF.out.box.2 1
                  have k2 := XF.out.box.1.at 2 _ rfl
                  have y2 := XF.out.box.2 2
                  have k3 := XF.out.box.1.at 3 _ rfl
                  have y3 := XF.out.box.2 3
                  have XB : Hid (DS q a len cap f w [.string ⟨#[]⟩, .string ⟨#[]⟩, .int .i64 0, .string ⟨#[]⟩] 4 w4) := X4.out
                  have nne : w4.heap.size ≠ w.heap.size := by omega
                  have kb0 := XB.out.box.1.at 0 _ rfl
                  have yb0 := XB.out.box.2 0
                  have kb1 := XB.out.box.1.at 1 _ rfl
                  have yb1 := XB.out.box.2 1
                  have kb2 := XB.out.box.1.at 2 _ rfl
                  have yb2 := XB.out.box.2 2
                  have kb3 := XB.out.box.1.at 3 _ rfl
                  have yb3 := XB.out.box.2 3
                  go_simp
                  refine hK.out _ _ ?_ (fun hH266 => ?_)
                  · (try dsimp only)
                    (try trivial)
                  clear hK K hH264
                  refine wpAnyH_done (by kernel_rfl) ?_ _
                  clear hH266
                  go_wp2
                  (try simp only [Exit.inBlock, Exit.then])
                  refine bodyPost_ret (v := .agg #[.string d1, .string d2, .int .i64 (kf nn), .string bb]) (by simp [results, Try.results26, go_sem, *]; try rfl) rfl ?_
                  exact ⟨d1, d2, kf nn, bb, rfl, HD1.out, HD2.out, kf_or nn, tx_le HB4.out, by first | exact gr_sets4 XF.out.gr | exact grown_alloc (gr_sets4 XB.out.gr) _⟩
                exact AllReadyH.nil
              exact AllReadyH.nil
            exact AllReadyH.nil
          exact AllReadyH.nil
        exact AllReadyH.nil
      refine AllReadyH.cons rfl (fun K hK => ?_) ?_
      · go_simp
        refine hK.out _ _ ?_ (fun hH267 => ?_)
        · (try dsimp only)
          (try trivial)
        clear hK K hH237
        refine wpAnyH_ready (rs := [3]) (by kernel_rfl) (by simp) ?_
        refine AllReadyH.cons rfl (fun K hK => ?_) ?_
        · have XC : Hid (DS q a len cap f w [.string ⟨#[]⟩, .string ⟨#[]⟩, .int .i64 0, .string ⟨#[]⟩] 1 (w1.alloc (.cells #[.int .i64 2048, .int .i64 2054] 3))) := (DS.alloc X1.out _)
          go_simp
          refine (mac_ds (by omega) _ XC).mono ?_
          rintro e w2 ⟨d2, rfl, hsz, Y2⟩
          have HD2 : Hid (d2.size = 6) := hsz
          clear hsz
          have BS2 : Hid (Boxed w2 (w.heap.size + 1) [.string ⟨#[]⟩, .string ⟨#[98, 111, 100, 121]⟩, .string ⟨#[97, 98, 99]⟩]) := kept_box Y2.out.2 (Boxed.alloc BS1.out (by first | omega | (simp; done) | (simp; omega)) _) (by omega) (by first | omega | (simp; done) | (simp; omega))
          have BI2 : Hid (Boxed w2 (w1.heap.size) [.int .i64 2048, .int .i64 2054]) := kept_box Y2.out.2 (box_a w1 [.int .i64 2048, .int .i64 2054] _ _ (by simp)) (by omega) (by first | omega | (simp; done) | (simp; omega))
          have X2 : Hid (DS q a len cap f w [.string ⟨#[]⟩, .string ⟨#[]⟩, .int .i64 0, .string ⟨#[]⟩] 2 w2) := Y2.out.1
          have z2 := X2.out.lt
          have zz2 : w1.heap.size + 1 ≤ w2.heap.size := by have := Y2.out.2.size; simpa using this
          clear Y2 XC
          go_wp2_with fail
          refine hK.out _ _ ?_ (fun hH268 => ?_)
          · (try dsimp only)
            (try trivial)
          clear hK K hH267
          refine wpAnyH_ready (rs := [6]) (by kernel_rfl) (by simp) ?_
          refine AllReadyH.cons rfl (fun K hK => ?_) ?_
          · have XC : Hid (DS q a len cap f w [.string ⟨#[]⟩, .string ⟨#[]⟩, .int .i64 0, .string ⟨#[]⟩] 2 w2) := X2.out
            go_simp
            refine (next_ds 2 (by omega) (by omega) (by omega) _ XC).mono ?_
            rintro e w3 ⟨vv, rfl, v0, v1, Y3⟩
            obtain ⟨nn, rfl⟩ := Int.eq_ofNat_of_zero_le v0
            have hnn : nn < 2 := by omega
            have BS3 : Hid (Boxed w3 (w.heap.size + 1) [.string ⟨#[]⟩, .string ⟨#[98, 111, 100, 121]⟩, .string ⟨#[97, 98, 99]⟩]) := kept_box Y3.out.2 BS2.out (by omega) (by first | omega | (simp; done) | (simp; omega))
            have BI3 : Hid (Boxed w3 (w1.heap.size) [.int .i64 2048, .int .i64 2054]) := kept_box Y3.out.2 BI2.out (by omega) (by first | omega | (simp; done) | (simp; omega))
            have X3 : Hid (DS q a len cap f w [.string ⟨#[]⟩, .string ⟨#[]⟩, .int .i64 0, .string ⟨#[]⟩] 3 w3) := Y3.out.1
            have z3 := X3.out.lt
            have zz3 : w2.heap.size + 0 ≤ w3.heap.size := by have := Y3.out.2.size; simpa using this
            clear Y3 XC
            go_wp2_with fail
            refine hK.out _ _ ?_ (fun hH269 => ?_)
            · (try dsimp only)
              (try trivial)
            clear hK K hH268
            refine wpAnyH_take (i := 7) (v := ?v270) rfl (by kernel_rfl) (by kernel_rfl) (by kernel_rfl) (fun _ _ _ h => h) (Or.inl ⟨by rfl, ?hy270⟩) (by assumption) ?rest270
            case hy270 => (intro w hSw; (try dsimp only at hSw); go_simp; (try with_reducible rfl))
            refine wpAnyH_ready (rs := [8, 11]) (by kernel_rfl) (by simp) ?_
            refine AllReadyH.cons rfl (fun K hK => ?_) ?_
            · have cN : w3.cell? ⟨w1.heap.size, nn, none⟩ = some (.int .i64 (kf nn)) := pickI BI3.out nn hnn
              go_simp
              refine hK.out _ _ ?_ (fun hH271 => ?_)
              · (try dsimp only)
                (try trivial)
              clear hK K hH269
              refine wpAnyH_ready (rs := [11]) (by kernel_rfl) (by simp) ?_
              refine AllReadyH.cons rfl (fun K hK => ?_) ?_
              · have XC : Hid (DS q a len cap f w [.string ⟨#[]⟩, .string ⟨#[]⟩, .int .i64 0, .string ⟨#[]⟩] 3 w3) := X3.out
                have bS : Boxed w3 (w.heap.size + 1) [.string ⟨#[]⟩, .string ⟨#[98, 111, 100, 121]⟩, .string ⟨#[97, 98, 99]⟩] := BS3.out
                go_simp
                refine (pick_ds (by omega) (w.heap.size + 1) _ _ _ _ XC bS (by omega)).mono ?_
                rintro e w4 ⟨bb, rfl, hbb, Y4⟩
                have HB4 : Hid (bb = ⟨#[]⟩ ∨ bb = ⟨#[98, 111, 100, 121]⟩ ∨ bb = ⟨#[97, 98, 99]⟩) := hbb
                clear hbb bS
                have BS4 : Hid (Boxed w4 (w.heap.size + 1) [.string ⟨#[]⟩, .string ⟨#[98, 111, 100, 121]⟩, .string ⟨#[97, 98, 99]⟩]) := kept_box Y4.out.2 BS3.out (by omega) (by first | omega | (simp; done) | (simp; omega))
                have BI4 : Hid (Boxed w4 (w1.heap.size) [.int .i64 2048, .int .i64 2054]) := kept_box Y4.out.2 BI3.out (by omega) (by first | omega | (simp; done) | (simp; omega))
                have X4 : Hid (DS q a len cap f w [.string ⟨#[]⟩, .string ⟨#[]⟩, .int .i64 0, .string ⟨#[]⟩] 4 w4) := Y4.out.1
                have z4 := X4.out.lt
                have zz4 : w3.heap.size + 0 ≤ w4.heap.size := by have := Y4.out.2.size; simpa using this
                clear Y4 XC
                go_wp2_with fail
                refine hK.out _ _ ?_ (fun hH272 => ?_)
                · (try dsimp only)
                  (try trivial)
                clear hK K hH271
                refine wpAnyH_take (i := 12) (v := ?v273) rfl (by kernel_rfl) (by kernel_rfl) (by kernel_rfl) (fun _ _ _ h => h) (Or.inl ⟨by rfl, ?hy273⟩) (by assumption) ?rest273
                case hy273 => (intro w hSw; (try dsimp only at hSw); go_simp; (try with_reducible rfl))
                refine wpAnyH_ready (rs := [13]) (by kernel_rfl) (by simp) ?_
                refine AllReadyH.cons rfl (fun K hK => ?_) ?_
                · have XF : Hid (DS q a len cap f w [.string ⟨#[]⟩, .string ⟨#[]⟩, .int .i64 0, .string ⟨#[]⟩] 4 w4) := X4.out
                  have k0 := XF.out.box.1.at 0 _ rfl
                  have y0 := XF.out.box.2 0
                  have k1 := XF.out.box.1.at 1 _ rfl
                  have y1 := XF.out.box.2 1
                  have k2 := XF.out.box.1.at 2 _ rfl
                  have y2 := XF.out.box.2 2
                  have k3 := XF.out.box.1.at 3 _ rfl
                  have y3 := XF.out.box.2 3
                  go_simp
                  refine hK.out _ _ ?_ (fun hH274 => ?_)
                  · (try dsimp only)
                    (try trivial)
                  clear hK K hH272
                  refine wpAnyH_done (by kernel_rfl) ?_ _
                  clear hH274
                  go_wp2
                  (try simp only [Exit.inBlock, Exit.then])
                  refine bodyPost_ret (v := .agg #[.string d1, .string d2, .int .i64 (kf nn), .string bb]) (by simp [results, Try.results26, go_sem, *]; try rfl) rfl ?_
                  exact ⟨d1, d2, kf nn, bb, rfl, HD1.out, HD2.out, kf_or nn, tx_le HB4.out, by first | exact gr_sets4 XF.out.gr | exact grown_alloc (gr_sets4 XB.out.gr) _⟩
                exact AllReadyH.nil
              exact AllReadyH.nil
            refine AllReadyH.cons rfl (fun K hK => ?_) ?_
            · have XC : Hid (DS q a len cap f w [.string ⟨#[]⟩, .string ⟨#[]⟩, .int .i64 0, .string ⟨#[]⟩] 3 w3) := X3.out
              have bS : Boxed w3 (w.heap.size + 1) [.string ⟨#[]⟩, .string ⟨#[98, 111, 100, 121]⟩, .string ⟨#[97, 98, 99]⟩] := BS3.out
              go_simp
              refine (pick_ds (by omega) (w.heap.size + 1) _ _ _ _ XC bS (by omega)).mono ?_
              rintro e w4 ⟨bb, rfl, hbb, Y4⟩
              have HB4 : Hid (bb = ⟨#[]⟩ ∨ bb = ⟨#[98, 111, 100, 121]⟩ ∨ bb = ⟨#[97, 98, 99]⟩) := hbb
              clear hbb bS
              have BS4 : Hid (Boxed w4 (w.heap.size + 1) [.string ⟨#[]⟩, .string ⟨#[98, 111, 100, 121]⟩, .string ⟨#[97, 98, 99]⟩]) := kept_box Y4.out.2 BS3.out (by omega) (by first | omega | (simp; done) | (simp; omega))
              have BI4 : Hid (Boxed w4 (w1.heap.size) [.int .i64 2048, .int .i64 2054]) := kept_box Y4.out.2 BI3.out (by omega) (by first | omega | (simp; done) | (simp; omega))
              have X4 : Hid (DS q a len cap f w [.string ⟨#[]⟩, .string ⟨#[]⟩, .int .i64 0, .string ⟨#[]⟩] 4 w4) := Y4.out.1
              have z4 := X4.out.lt
              have zz4 : w3.heap.size + 0 ≤ w4.heap.size := by have := Y4.out.2.size; simpa using this
              clear Y4 XC
              go_wp2_with fail
              refine hK.out _ _ ?_ (fun hH275 => ?_)
              · (try dsimp only)
                (try trivial)
              clear hK K hH269
              refine wpAnyH_ready (rs := [8]) (by kernel_rfl) (by simp) ?_
              refine AllReadyH.cons rfl (fun K hK => ?_) ?_
              · have cN : w4.cell? ⟨w1.heap.size, nn, none⟩ = some (.int .i64 (kf nn)) := pickI BI4.out nn hnn
                go_simp
                refine hK.out _ _ ?_ (fun hH276 => ?_)
                · (try dsimp only)
                  (try trivial)
                clear hK K hH275
                refine wpAnyH_take (i := 12) (v := ?v277) rfl (by kernel_rfl) (by kernel_rfl) (by kernel_rfl) (fun _ _ _ h => h) (Or.inl ⟨by rfl, ?hy277⟩) (by assumption) ?rest277
                case hy277 => (intro w hSw; (try dsimp only at hSw); go_simp; (try with_reducible rfl))
                refine wpAnyH_ready (rs := [13]) (by kernel_rfl) (by simp) ?_
                refine AllReadyH.cons rfl (fun K hK => ?_) ?_
                · have XF : Hid (DS q a len cap f w [.string ⟨#[]⟩, .string ⟨#[]⟩, .int .i64 0, .string ⟨#[]⟩] 4 w4) := X4.out
                  have k0 := XF.out.box.1.at 0 _ rfl
                  have y0 := XF.out.box.2 0
                  have k1 := XF.out.box.1.at 1 _ rfl
                  have y1 := XF.out.box.2 1
                  have k2 := XF.out.box.1.at 2 _ rfl
                  have y2 := XF.out.box.2 2
                  have k3 := XF.out.box.1.at 3 _ rfl
                  have y3 := XF.out.box.2 3
                  go_simp
                  refine hK.out _ _ ?_ (fun hH278 => ?_)
                  · (try dsimp only)
                    (try trivial)
                  clear hK K hH276
                  refine wpAnyH_done (by kernel_rfl) ?_ _
                  clear hH278
                  go_wp2
                  (try simp only [Exit.inBlock, Exit.then])
                  refine bodyPost_ret (v := .agg #[.string d1, .string d2, .int .i64 (kf nn), .string bb]) (by simp [results, Try.results26, go_sem, *]; try rfl) rfl ?_
                  exact ⟨d1, d2, kf nn, bb, rfl, HD1.out, HD2.out, kf_or nn, tx_le HB4.out, by first | exact gr_sets4 XF.out.gr | exact grown_alloc (gr_sets4 XB.out.gr) _⟩
                exact AllReadyH.nil
              exact AllReadyH.nil
            exact AllReadyH.nil
          exact AllReadyH.nil
        exact AllReadyH.nil
      exact AllReadyH.nil
    refine AllReadyH.cons rfl (fun K hK => ?_) ?_
    · go_simp
      refine hK.out _ _ ?_ (fun hH279 => ?_)
      · (try dsimp only)
        (try trivial)
      clear hK K hH236
      refine wpAnyH_ready (rs := [1]) (by kernel_rfl) (by simp) ?_
      refine AllReadyH.cons rfl (fun K hK => ?_) ?_
      · have XC : Hid (DS q a len cap f w [.string ⟨#[]⟩, .string ⟨#[]⟩, .int .i64 0, .string ⟨#[]⟩] 0 (((w.alloc (.cells #[.string ⟨#[]⟩, .string ⟨#[]⟩, .int .i64 0, .string ⟨#[]⟩] 24)).alloc (.cells #[.string ⟨#[]⟩, .string ⟨#[98, 111, 100, 121]⟩, .string ⟨#[97, 98, 99]⟩] 9)).alloc (.cells #[.int .i64 2048, .int .i64 2054] 3)).drew) := (DS.drew (DS.alloc (DS.alloc X0.out _) _))
        go_simp
        refine (mac_ds (by omega) _ XC).mono ?_
        rintro e w1 ⟨d1, rfl, hsz, Y1⟩
        have HD1 : Hid (d1.size = 6) := hsz
        clear hsz
        have BS1 : Hid (Boxed w1 (w.heap.size + 1) [.string ⟨#[]⟩, .string ⟨#[98, 111, 100, 121]⟩, .string ⟨#[97, 98, 99]⟩]) := kept_box Y1.out.2 (box_ab (w.alloc (.cells #[.string ⟨#[]⟩, .string ⟨#[]⟩, .int .i64 0, .string ⟨#[]⟩] 24)) [.string ⟨#[]⟩, .string ⟨#[98, 111, 100, 121]⟩, .string ⟨#[97, 98, 99]⟩] _ _ _ (by simp)) (by omega) (by first | omega | (simp; done) | (simp; omega))
        have BI1 : Hid (Boxed w1 (w.heap.size + 1 + 1) [.int .i64 2048, .int .i64 2054]) := kept_box Y1.out.2 (box_b (w.alloc (.cells #[.string ⟨#[]⟩, .string ⟨#[]⟩, .int .i64 0, .string ⟨#[]⟩] 24)) [.int .i64 2048, .int .i64 2054] _ _ _ (by simp)) (by omega) (by first | omega | (simp; done) | (simp; omega))
        have X1 : Hid (DS q a len cap f w [.string ⟨#[]⟩, .string ⟨#[]⟩, .int .i64 0, .string ⟨#[]⟩] 1 w1) := Y1.out.1
        have z1 := X1.out.lt
        have zz1 : w.heap.size + 3 ≤ w1.heap.size := by have := Y1.out.2.size; simpa using this
        clear Y1 XC
        go_wp2_with fail
        refine hK.out _ _ ?_ (fun hH280 => ?_)
        · (try dsimp only)
          (try trivial)
        clear hK K hH279
        refine wpAnyH_ready (rs := [3]) (by kernel_rfl) (by simp) ?_
        refine AllReadyH.cons rfl (fun K hK => ?_) ?_
        · have XC : Hid (DS q a len cap f w [.string ⟨#[]⟩, .string ⟨#[]⟩, .int .i64 0, .string ⟨#[]⟩] 1 w1) := X1.out
          go_simp
          refine (mac_ds (by omega) _ XC).mono ?_
          rintro e w2 ⟨d2, rfl, hsz, Y2⟩
          have HD2 : Hid (d2.size = 6) := hsz
          clear hsz
          have BS2 : Hid (Boxed w2 (w.heap.size + 1) [.string ⟨#[]⟩, .string ⟨#[98, 111, 100, 121]⟩, .string ⟨#[97, 98, 99]⟩]) := kept_box Y2.out.2 BS1.out (by omega) (by first | omega | (simp; done) | (simp; omega))
          have BI2 : Hid (Boxed w2 (w.heap.size + 1 + 1) [.int .i64 2048, .int .i64 2054]) := kept_box Y2.out.2 BI1.out (by omega) (by first | omega | (simp; done) | (simp; omega))
          have X2 : Hid (DS q a len cap f w [.string ⟨#[]⟩, .string ⟨#[]⟩, .int .i64 0, .string ⟨#[]⟩] 2 w2) := Y2.out.1
          have z2 := X2.out.lt
          have zz2 : w1.heap.size + 0 ≤ w2.heap.size := by have := Y2.out.2.size; simpa using this
          clear Y2 XC
          go_wp2_with fail
          refine hK.out _ _ ?_ (fun hH281 => ?_)
          · (try dsimp only)
            (try trivial)
          clear hK K hH280
          refine wpAnyH_ready (rs := [6]) (by kernel_rfl) (by simp) ?_
          refine AllReadyH.cons rfl (fun K hK => ?_) ?_
          · have XC : Hid (DS q a len cap f w [.string ⟨#[]⟩, .string ⟨#[]⟩, .int .i64 0, .string ⟨#[]⟩] 2 w2) := X2.out
            go_simp
            refine (next_ds 2 (by omega) (by omega) (by omega) _ XC).mono ?_
            rintro e w3 ⟨vv, rfl, v0, v1, Y3⟩
            obtain ⟨nn, rfl⟩ := Int.eq_ofNat_of_zero_le v0
            have hnn : nn < 2 := by omega
            have BS3 : Hid (Boxed w3 (w.heap.size + 1) [.string ⟨#[]⟩, .string ⟨#[98, 111, 100, 121]⟩, .string ⟨#[97, 98, 99]⟩]) := kept_box Y3.out.2 BS2.out (by omega) (by first | omega | (simp; done) | (simp; omega))
            have BI3 : Hid (Boxed w3 (w.heap.size + 1 + 1) [.int .i64 2048, .int .i64 2054]) := kept_box Y3.out.2 BI2.out (by omega) (by first | omega | (simp; done) | (simp; omega))
            have X3 : Hid (DS q a len cap f w [.string ⟨#[]⟩, .string ⟨#[]⟩, .int .i64 0, .string ⟨#[]⟩] 3 w3) := Y3.out.1
            have z3 := X3.out.lt
            have zz3 : w2.heap.size + 0 ≤ w3.heap.size := by have := Y3.out.2.size; simpa using this
            clear Y3 XC
            go_wp2_with fail
            refine hK.out _ _ ?_ (fun hH282 => ?_)
            · (try dsimp only)
              (try trivial)
            clear hK K hH281
            refine wpAnyH_take (i := 7) (v := ?v283) rfl (by kernel_rfl) (by kernel_rfl) (by kernel_rfl) (fun _ _ _ h => h) (Or.inl ⟨by rfl, ?hy283⟩) (by assumption) ?rest283
            case hy283 => (intro w hSw; (try dsimp only at hSw); go_simp; (try with_reducible rfl))
            refine wpAnyH_ready (rs := [8, 11]) (by kernel_rfl) (by simp) ?_
            refine AllReadyH.cons rfl (fun K hK => ?_) ?_
            · have cN : w3.cell? ⟨w.heap.size + 1 + 1, nn, none⟩ = some (.int .i64 (kf nn)) := pickI BI3.out nn hnn
              go_simp
              refine hK.out _ _ ?_ (fun hH284 => ?_)
              · (try dsimp only)
                (try trivial)
              clear hK K hH282
              refine wpAnyH_ready (rs := [11]) (by kernel_rfl) (by simp) ?_
              refine AllReadyH.cons rfl (fun K hK => ?_) ?_
              · have XC : Hid (DS q a len cap f w [.string ⟨#[]⟩, .string ⟨#[]⟩, .int .i64 0, .string ⟨#[]⟩] 3 w3) := X3.out
                have bS : Boxed w3 (w.heap.size + 1) [.string ⟨#[]⟩, .string ⟨#[98, 111, 100, 121]⟩, .string ⟨#[97, 98, 99]⟩] := BS3.out
                go_simp
                refine (pick_ds (by omega) (w.heap.size + 1) _ _ _ _ XC bS (by omega)).mono ?_
                rintro e w4 ⟨bb, rfl, hbb, Y4⟩
                have HB4 : Hid (bb = ⟨#[]⟩ ∨ bb = ⟨#[98, 111, 100, 121]⟩ ∨ bb = ⟨#[97, 98, 99]⟩) := hbb
                clear hbb bS
                have BS4 : Hid (Boxed w4 (w.heap.size + 1) [.string ⟨#[]⟩, .string ⟨#[98, 111, 100, 121]⟩, .string ⟨#[97, 98, 99]⟩]) := kept_box Y4.out.2 BS3.out (by omega) (by first | omega | (simp; done) | (simp; omega))
                have BI4 : Hid (Boxed w4 (w.heap.size + 1 + 1) [.int .i64 2048, .int .i64 2054]) := kept_box Y4.out.2 BI3.out (by omega) (by first | omega | (simp; done) | (simp; omega))
                have X4 : Hid (DS q a len cap f w [.string ⟨#[]⟩, .string ⟨#[]⟩, .int .i64 0, .string ⟨#[]⟩] 4 w4) := Y4.out.1
                have z4 := X4.out.lt
                have zz4 : w3.heap.size + 0 ≤ w4.heap.size := by have := Y4.out.2.size; simpa using this
                clear Y4 XC
                go_wp2_with fail
                refine hK.out _ _ ?_ (fun hH285 => ?_)
                · (try dsimp only)
                  (try trivial)
                clear hK K hH284
                refine wpAnyH_take (i := 12) (v := ?v286) rfl (by kernel_rfl) (by kernel_rfl) (by kernel_rfl) (fun _ _ _ h => h) (Or.inl ⟨by rfl, ?hy286⟩) (by assumption) ?rest286
                case hy286 => (intro w hSw; (try dsimp only at hSw); go_simp; (try with_reducible rfl))
                refine wpAnyH_ready (rs := [13]) (by kernel_rfl) (by simp) ?_
                refine AllReadyH.cons rfl (fun K hK => ?_) ?_
                · have XF : Hid (DS q a len cap f w [.string ⟨#[]⟩, .string ⟨#[]⟩, .int .i64 0, .string ⟨#[]⟩] 4 w4) := X4.out
                  have k0 := XF.out.box.1.at 0 _ rfl
                  have y0 := XF.out.box.2 0
                  have k1 := XF.out.box.1.at 1 _ rfl
                  have y1 := XF.out.box.2 1
                  have k2 := XF.out.box.1.at 2 _ rfl
                  have y2 := XF.out.box.2 2
                  have k3 := XF.out.box.1.at 3 _ rfl
                  have y3 := XF.out.box.2 3
                  go_simp
                  refine hK.out _ _ ?_ (fun hH287 => ?_)
                  · (try dsimp only)
                    (try trivial)
                  clear hK K hH285
                  refine wpAnyH_done (by kernel_rfl) ?_ _
                  clear hH287
                  go_wp2
                  (try simp only [Exit.inBlock, Exit.then])
                  refine bodyPost_ret (v := .agg #[.string d1, .string d2, .int .i64 (kf nn), .string bb]) (by simp [results, Try.results26, go_sem, *]; try rfl) rfl ?_
                  exact ⟨d1, d2, kf nn, bb, rfl, HD1.out, HD2.out, kf_or nn, tx_le HB4.out, by first | exact gr_sets4 XF.out.gr | exact grown_alloc (gr_sets4 XB.out.gr) _⟩
                exact AllReadyH.nil
              exact AllReadyH.nil
            refine AllReadyH.cons rfl (fun K hK => ?_) ?_
            · have XC : Hid (DS q a len cap f w [.string ⟨#[]⟩, .string ⟨#[]⟩, .int .i64 0, .string ⟨#[]⟩] 3 w3) := X3.out
              have bS : Boxed w3 (w.heap.size + 1) [.string ⟨#[]⟩, .string ⟨#[98, 111, 100, 121]⟩, .string ⟨#[97, 98, 99]⟩] := BS3.out
              go_simp
              refine (pick_ds (by omega) (w.heap.size + 1) _ _ _ _ XC bS (by omega)).mono ?_
              rintro e w4 ⟨bb, rfl, hbb, Y4⟩
              have HB4 : Hid (bb = ⟨#[]⟩ ∨ bb = ⟨#[98, 111, 100, 121]⟩ ∨ bb = ⟨#[97, 98, 99]⟩) := hbb
              clear hbb bS
              have BS4 : Hid (Boxed w4 (w.heap.size + 1) [.string ⟨#[]⟩, .string ⟨#[98, 111, 100, 121]⟩, .string ⟨#[97, 98, 99]⟩]) := kept_box Y4.out.2 BS3.out (by omega) (by first | omega | (simp; done) | (simp; omega))
              have BI4 : Hid (Boxed w4 (w.heap.size + 1 + 1) [.int .i64 2048, .int .i64 2054]) := kept_box Y4.out.2 BI3.out (by omega) (by first | omega | (simp; done) | (simp; omega))
              have X4 : Hid (DS q a len cap f w [.string ⟨#[]⟩, .string ⟨#[]⟩, .int .i64 0, .string ⟨#[]⟩] 4 w4) := Y4.out.1
              have z4 := X4.out.lt
              have zz4 : w3.heap.size + 0 ≤ w4.heap.size := by have := Y4.out.2.size; simpa using this
              clear Y4 XC
              go_wp2_with fail
              refine hK.out _ _ ?_ (fun hH288 => ?_)
              · (try dsimp only)
                (try trivial)
              clear hK K hH282
              refine wpAnyH_ready (rs := [8]) (by kernel_rfl) (by simp) ?_
              refine AllReadyH.cons rfl (fun K hK => ?_) ?_
              · have cN : w4.cell? ⟨w.heap.size + 1 + 1, nn, none⟩ = some (.int .i64 (kf nn)) := pickI BI4.out nn hnn
                go_simp
                refine hK.out _ _ ?_ (fun hH289 => ?_)
                · (try dsimp only)
                  (try trivial)
                clear hK K hH288
                refine wpAnyH_take (i := 12) (v := ?v290) rfl (by kernel_rfl) (by kernel_rfl) (by kernel_rfl) (fun _ _ _ h => h) (Or.inl ⟨by rfl, ?hy290⟩) (by assumption) ?rest290
                case hy290 => (intro w hSw; (try dsimp only at hSw); go_simp; (try with_reducible rfl))
                refine wpAnyH_ready (rs := [13]) (by kernel_rfl) (by simp) ?_
                refine AllReadyH.cons rfl (fun K hK => ?_) ?_
                · have XF : Hid (DS q a len cap f w [.string ⟨#[]⟩, .string ⟨#[]⟩, .int .i64 0, .string ⟨#[]⟩] 4 w4) := X4.out
                  have k0 := XF.out.box.1.at 0 _ rfl
                  have y0 := XF.out.box.2 0
                  have k1 := XF.out.box.1.at 1 _ rfl
                  have y1 := XF.out.box.2 1
                  have k2 := XF.out.box.1.at 2 _ rfl
                  have y2 := XF.out.box.2 2
                  have k3 := XF.out.box.1.at 3 _ rfl
                  have y3 := XF.out.box.2 3
                  go_simp
                  refine hK.out _ _ ?_ (fun hH291 => ?_)
                  · (try dsimp only)
                    (try trivial)
                  clear hK K hH289
                  refine wpAnyH_done (by kernel_rfl) ?_ _
                  clear hH291
                  go_wp2
                  (try simp only [Exit.inBlock, Exit.then])
                  refine bodyPost_ret (v := .agg #[.string d1, .string d2, .int .i64 (kf nn), .string bb]) (by simp [results, Try.results26, go_sem, *]; try rfl) rfl ?_
                  exact ⟨d1, d2, kf nn, bb, rfl, HD1.out, HD2.out, kf_or nn, tx_le HB4.out, by first | exact gr_sets4 XF.out.gr | exact grown_alloc (gr_sets4 XB.out.gr) _⟩
                exact AllReadyH.nil
              exact AllReadyH.nil
            exact AllReadyH.nil
          exact AllReadyH.nil
        exact AllReadyH.nil
      exact AllReadyH.nil
    exact AllReadyH.nil
  exact AllReadyH.nil
end Go.Proofs.Ytcgdpijmfgkalaa
