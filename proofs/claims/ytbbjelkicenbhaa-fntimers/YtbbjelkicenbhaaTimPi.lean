/- TimerPut, the program's. -/
import Derived.Test.YtbbjelkicenbhaaTimP0
import Derived.Test.YtbbjelkicenbhaaTimU
namespace Go.Proofs.Ytbbjelkicenbhaa
open Go.RowKit Go.PlainAid Go.Sort
set_option linter.unusedVariables false
set_option maxRecDepth 20000

theorem own_some {e : TypeId} {w : World} {B : Nat} {v : Value} {L : List (Int × Int)} (h : OwnP e w B v L) (h0 : 0 < L.length) : ∃ g cap, v = .slice (some ⟨g, 0, none⟩) L.length cap ∧ B ≤ g := by
  rcases h.2 with ⟨h1, h2⟩ | ⟨g, c, cur, h1, hB, _⟩
  · omega
  · exact ⟨g, c, h1, hB⟩

set_option maxHeartbeats 1000000 in
theorem implPut_any (a : Option Addr) (len cap : Nat) (zs : List (Int × Int)) (t0 t1 : Int) (w : World) (h : Prs w a zs) (hl : zs.length = len) (hcp : len ≤ cap) :
    Calls Try.prog 18 #[.slice a len cap, .agg #[.int .i64 t0, .int .i64 t1]] w fun e w' => ∃ v, e = .returned (.tuple #[v, .int .i64 (tpC zs (t0, t1))]) ∧ OwnP 44 w' w.heap.size v (tpL zs (t0, t1)) ∧ Below w.heap.size w w' := by
  subst hl
  by_cases hbig : 4096 < zs.length
  · have eC : tpC zs (t0, t1) = 2 := if_pos hbig
    have eL : tpL zs (t0, t1) = [] := if_pos hbig
    rw [eC, eL]
    clear eC eL
    generalize zs.length = len at *
    go_enter Try.func18, Try.ntmps18
    go_wp2
    go_ret2
    exact ⟨_, rfl, World.ownsRow_nil _ _ _ _, (Below.refl _ _).alloc (Nat.le_refl _) _⟩
  have HN : Hid (∀ w, Prs w a zs → Calls Try.prog 46 #[.slice a zs.length cap] w fun e w' => e = .returned (.bool (tmB zs)) ∧ Grw w w') := fun w h => timersOK_any a zs.length cap zs w h rfl hcp
  have HO : Hid (∀ w, Calls Try.prog 47 #[.agg #[.int .i64 t0, .int .i64 t1]] w fun e w' => e = .returned (.bool (dec (okT (t0, t1)))) ∧ Grw w w') := fun w => timerOK_any t0 t1 w
  have HD : Hid (∀ w, Prs w a zs → Calls Try.prog 48 #[.slice a zs.length cap, .int .i64 t1] w fun e w' => ∃ v, e = .returned v ∧ OwnP 44 w' w.heap.size v (wo zs t1 zs.length) ∧ Below w.heap.size w w') := fun w h => timersWithout_any a zs.length cap zs t1 w h rfl (by omega)
  have H : Hid (Prs w a zs) := h
  have hmix : Try.prog.follows .mixedOrders = true := by kernel_rfl
  clear h
  have B0 : Hid (∀ o, Below w.heap.size w (w.alloc o)) := fun o => (Below.refl _ _).alloc (Nat.le_refl _) o
  cases hq : tmB zs with
  | false =>
    rw [hq] at HN
    have eC : tpC zs (t0, t1) = 1 := by unfold tpC; rw [if_neg hbig, if_pos hq]
    have eL : tpL zs (t0, t1) = [] := by unfold tpL; rw [if_neg hbig, if_pos hq]
    rw [eC, eL]
    clear eC eL hq
    generalize zs.length = len at *
    go_enter Try.func18, Try.ntmps18
    go_wp2_with fail
    refine (HN.out _ (H.out.keep (B0.out _))).mono ?_
    rintro e w1 ⟨rfl, g1⟩
    have b1 := g1.below
    have k0 : w1.cell? ⟨w.heap.size, 0, none⟩ = some (.int .i64 t0) := by rw [b1.cell (by simp)]; simp
    have k1 : w1.cell? ⟨w.heap.size, 1, none⟩ = some (.int .i64 t1) := by rw [b1.cell (by simp)]; simp
    have B1 : Hid (Below w.heap.size w w1 ∧ w.heap.size < w1.heap.size) := ⟨(B0.out _).trans (b1.mono (by simp)), World.block_lt_of_cell? w1 _ k0⟩
    clear b1 g1
    go_wp2
    go_ret2
    exact ⟨_, rfl, World.ownsRow_nil _ _ _ _, B1.out.1⟩
  | true =>
    rw [hq] at HN
    cases hr : dec (okT (t0, t1)) with
    | false =>
      rw [hr] at HO
      have eC : tpC zs (t0, t1) = 1 := by unfold tpC; rw [if_neg hbig, if_neg (by rw [hq]; simp), if_pos hr]
      have eL : tpL zs (t0, t1) = [] := by unfold tpL; rw [if_neg hbig, if_neg (by rw [hq]; simp), if_pos hr]
      rw [eC, eL]
      clear eC eL hq hr
      generalize zs.length = len at *
      go_enter Try.func18, Try.ntmps18
      go_wp2_with fail
      refine (HN.out _ (H.out.keep (B0.out _))).mono ?_
      rintro e w1 ⟨rfl, g1⟩
      have b1 := g1.below
      have k0 : w1.cell? ⟨w.heap.size, 0, none⟩ = some (.int .i64 t0) := by rw [b1.cell (by simp)]; simp
      have k1 : w1.cell? ⟨w.heap.size, 1, none⟩ = some (.int .i64 t1) := by rw [b1.cell (by simp)]; simp
      have B1 : Hid (Below w.heap.size w w1 ∧ w.heap.size < w1.heap.size) := ⟨(B0.out _).trans (b1.mono (by simp)), World.block_lt_of_cell? w1 _ k0⟩
      clear b1 g1
      go_wp2_with fail
      refine (HO.out _).mono ?_
      rintro e w2 ⟨rfl, g2⟩
      have b2 := g2.below
      have k0 : w2.cell? ⟨w.heap.size, 0, none⟩ = some (.int .i64 t0) := by rw [b2.cell (by exact B1.out.2)]; exact k0
      have k1 : w2.cell? ⟨w.heap.size, 1, none⟩ = some (.int .i64 t1) := by rw [b2.cell (by exact B1.out.2)]; exact k1
      have B2 : Hid (Below w.heap.size w w2 ∧ w.heap.size < w2.heap.size) := ⟨B1.out.1.trans (b2.mono (Nat.le_of_lt B1.out.2)), World.block_lt_of_cell? w2 _ k0⟩
      clear b2 g2

      go_wp2
      go_ret2
      exact ⟨_, rfl, World.ownsRow_nil _ _ _ _, B2.out.1⟩
    | true =>
      rw [hr] at HO
      have hwl := wo_len zs t1 zs.length
      by_cases hs : (wo zs t1 zs.length).length = 20
      · have eC : tpC zs (t0, t1) = 7 := by unfold tpC; rw [if_neg hbig, if_neg (by rw [hq]; simp), if_neg (by rw [hr]; simp), if_pos hs]
        have eL : tpL zs (t0, t1) = wo zs t1 zs.length := by unfold tpL; rw [if_neg hbig, if_neg (by rw [hq]; simp), if_neg (by rw [hr]; simp), if_pos hs]
        rw [eC, eL]
        have hsz : (((wo zs t1 zs.length).length : Int) == 20) = true := by simp [hs]
        clear eC eL hq hr hs
        generalize wo zs t1 zs.length = R at HD hwl hsz ⊢
        generalize zs.length = len at *
        go_enter Try.func18, Try.ntmps18
        go_wp2_with fail
        refine (HN.out _ (H.out.keep (B0.out _))).mono ?_
        rintro e w1 ⟨rfl, g1⟩
        have b1 := g1.below
        have k0 : w1.cell? ⟨w.heap.size, 0, none⟩ = some (.int .i64 t0) := by rw [b1.cell (by simp)]; simp
        have k1 : w1.cell? ⟨w.heap.size, 1, none⟩ = some (.int .i64 t1) := by rw [b1.cell (by simp)]; simp
        have B1 : Hid (Below w.heap.size w w1 ∧ w.heap.size < w1.heap.size) := ⟨(B0.out _).trans (b1.mono (by simp)), World.block_lt_of_cell? w1 _ k0⟩
        clear b1 g1
        go_wp2_with fail
        refine (HO.out _).mono ?_
        rintro e w2 ⟨rfl, g2⟩
        have b2 := g2.below
        have k0 : w2.cell? ⟨w.heap.size, 0, none⟩ = some (.int .i64 t0) := by rw [b2.cell (by exact B1.out.2)]; exact k0
        have k1 : w2.cell? ⟨w.heap.size, 1, none⟩ = some (.int .i64 t1) := by rw [b2.cell (by exact B1.out.2)]; exact k1
        have B2 : Hid (Below w.heap.size w w2 ∧ w.heap.size < w2.heap.size) := ⟨B1.out.1.trans (b2.mono (Nat.le_of_lt B1.out.2)), World.block_lt_of_cell? w2 _ k0⟩
        clear b2 g2
        go_wp2_with fail
        refine (HD.out _ (H.out.keep B2.out.1)).mono ?_
        rintro e w3 ⟨v3, rfl, o3, b3⟩
        obtain ⟨s3, c3, rfl, -⟩ := o3.slice
        have k0 : w3.cell? ⟨w.heap.size, 0, none⟩ = some (.int .i64 t0) := by rw [b3.cell (by exact B2.out.2)]; exact k0
        have k1 : w3.cell? ⟨w.heap.size, 1, none⟩ = some (.int .i64 t1) := by rw [b3.cell (by exact B2.out.2)]; exact k1
        have Z3 : Hid (w2.heap.size ≤ w3.heap.size) := b3.size
        have B3 : Hid (OwnP 44 w3 w2.heap.size (.slice s3 R.length c3) R ∧ Below w.heap.size w w3 ∧ w.heap.size < w3.heap.size) := ⟨o3, B2.out.1.trans (b3.mono (Nat.le_of_lt B2.out.2)), World.block_lt_of_cell? w3 _ k0⟩
        clear b3 o3

        go_wp2
        go_ret2
        exact ⟨_, rfl, B3.out.1.lower (Nat.le_of_lt B2.out.2), B3.out.2.1⟩
      · have eC : tpC zs (t0, t1) = 0 := by unfold tpC; rw [if_neg hbig, if_neg (by rw [hq]; simp), if_neg (by rw [hr]; simp), if_neg hs]
        have eL : tpL zs (t0, t1) = sortedT (wo zs t1 zs.length ++ [(t0, t1)]) := by unfold tpL; rw [if_neg hbig, if_neg (by rw [hq]; simp), if_neg (by rw [hr]; simp), if_neg hs]
        rw [eC, eL]
        have hsz : (((wo zs t1 zs.length).length : Int) == 20) = false := by rw [beq_eq_false_iff_ne]; omega
        clear eC eL hq hr hs
        generalize wo zs t1 zs.length = R at HD hwl hsz ⊢
        generalize zs.length = len at *
        go_enter Try.func18, Try.ntmps18
        go_wp2_with fail
        refine (HN.out _ (H.out.keep (B0.out _))).mono ?_
        rintro e w1 ⟨rfl, g1⟩
        have b1 := g1.below
        have k0 : w1.cell? ⟨w.heap.size, 0, none⟩ = some (.int .i64 t0) := by rw [b1.cell (by simp)]; simp
        have k1 : w1.cell? ⟨w.heap.size, 1, none⟩ = some (.int .i64 t1) := by rw [b1.cell (by simp)]; simp
        have B1 : Hid (Below w.heap.size w w1 ∧ w.heap.size < w1.heap.size) := ⟨(B0.out _).trans (b1.mono (by simp)), World.block_lt_of_cell? w1 _ k0⟩
        clear b1 g1
        go_wp2_with fail
        refine (HO.out _).mono ?_
        rintro e w2 ⟨rfl, g2⟩
        have b2 := g2.below
        have k0 : w2.cell? ⟨w.heap.size, 0, none⟩ = some (.int .i64 t0) := by rw [b2.cell (by exact B1.out.2)]; exact k0
        have k1 : w2.cell? ⟨w.heap.size, 1, none⟩ = some (.int .i64 t1) := by rw [b2.cell (by exact B1.out.2)]; exact k1
        have B2 : Hid (Below w.heap.size w w2 ∧ w.heap.size < w2.heap.size) := ⟨B1.out.1.trans (b2.mono (Nat.le_of_lt B1.out.2)), World.block_lt_of_cell? w2 _ k0⟩
        clear b2 g2
        go_wp2_with fail
        refine (HD.out _ (H.out.keep B2.out.1)).mono ?_
        rintro e w3 ⟨v3, rfl, o3, b3⟩
        obtain ⟨s3, c3, rfl, -⟩ := o3.slice
        have k0 : w3.cell? ⟨w.heap.size, 0, none⟩ = some (.int .i64 t0) := by rw [b3.cell (by exact B2.out.2)]; exact k0
        have k1 : w3.cell? ⟨w.heap.size, 1, none⟩ = some (.int .i64 t1) := by rw [b3.cell (by exact B2.out.2)]; exact k1
        have Z3 : Hid (w2.heap.size ≤ w3.heap.size) := b3.size
        have B3 : Hid (OwnP 44 w3 w2.heap.size (.slice s3 R.length c3) R ∧ Below w.heap.size w w3 ∧ w.heap.size < w3.heap.size) := ⟨o3, B2.out.1.trans (b3.mono (Nat.le_of_lt B2.out.2)), World.block_lt_of_cell? w3 _ k0⟩
        clear b3 o3

        have XA : Hid (∀ o, OwnP 44 (w3.alloc o) w2.heap.size (.slice s3 R.length c3) R ∧ Below w.heap.size w (w3.alloc o) ∧ w2.heap.size ≤ (w3.alloc o).heap.size) := fun o => ⟨B3.out.1.now ((Below.refl _ _).alloc (Nat.le_refl _) o), B3.out.2.1.alloc B3.out.2.1.size o, by have := Z3.out; simp; omega⟩
        have hR5 : R.length ≤ 5000 := by omega
        obtain ⟨Q, hQ⟩ : ∃ Q, Q = R ++ [(t0, t1)] := ⟨_, rfl⟩
        have HQ : Hid (Q = R ++ [(t0, t1)]) := hQ
        have HQl : Hid (Q.length = R.length + 1) := by show _ = _; rw [hQ]; simp
        clear hQ
        go_wp2_with (at_builtin; refine wpl_pairg _ rfl (.tmp 26) (.tmp 28) rfl w2.heap.size _ _ rfl (XA.out _).1 w3.heap.size 1 t0 t1 rfl (by simp) (by simp) hR5 (XA.out _).2.2 ?_; intro v4 w4 Y; rw [← HQ.out] at Y; obtain ⟨g4, c4, rfl, hg4⟩ := own_some Y.out.1 (by have := HQl.out; omega))
        refine (sortTimers_any g4 c4 Q.length w2.heap.size Q _ Y.out.1 rfl (by have := HQl.out; omega)).mono ?_
        rintro e w5 ⟨rfl, o5, gr5⟩
        have B4 : Hid (Below w.heap.size w w4) := (XA.out _).2.1.trans (Y.out.2.1.mono (Nat.le_of_lt B2.out.2))
        have F5 : Hid (OwnP 44 w5 w2.heap.size (.slice (some ⟨g4, 0, none⟩) Q.length c4) (sortedT (R ++ [(t0, t1)])) ∧ Below w.heap.size w w5) := ⟨by rw [← HQ.out]; exact o5, B4.out.grown gr5 B4.out.size (fun k hk => by cases hk; have := B2.out.2; omega)⟩
        clear o5 gr5 Y XA
        go_wp2
        go_ret2
        exact ⟨_, rfl, F5.out.1.lower (Nat.le_of_lt B2.out.2), F5.out.2⟩
end Go.Proofs.Ytbbjelkicenbhaa
