/- The walk of laws.FnExactTimerPut: true at every list of timers. -/
import Derived.Test.YtbbjelkicenbhabTimPs
import Derived.Test.YtbbjelkicenbhabTimM
import Derived.Deep.RegionHeld3
namespace Go.Proofs.Ytbbjelkicenbhab
open Go.RowKit Go.PlainAid Go.Sort
set_option linter.unusedVariables false
set_option maxRecDepth 20000

theorem own_prs {e : TypeId} {w : World} {B n cap : Nat} {a : Option Addr} {L : List (Int × Int)} (h : OwnP e w B (.slice a n cap) L) : Prs w a L := by
  obtain ⟨a', cap', e1, hp, _⟩ := h.slice
  cases e1
  exact hp
theorem own_grown {e : TypeId} {w w' : World} {B : Nat} {v : Value} {L : List (Int × Int)} {r : Option Nat} (h : OwnP e w B v L) (hg : w.grownBy w' r) (hne : v.ownBlock = none ∨ v.ownBlock ≠ r) : OwnP e w' B v L := World.ownsRow.kept h hg hne
theorem below_grown {w w1 w2 : World} {g : Option Nat} (h : Below w.heap.size w w1) (hg : w1.grownBy w2 g) (hB : ∀ k, g = some k → w.heap.size ≤ k) : Below w.heap.size w w2 := h.grown hg h.size hB

theorem tpL_len (zs : List (Int × Int)) (t : Int × Int) : (tpL zs t).length ≤ 5000 := by
  unfold tpL
  have := wo_len zs t.2 zs.length
  split
  · simp
  · split
    · simp
    · split
      · simp
      · split
        · omega
        · rw [sortedT_len, List.length_append]; simp; omega

set_option maxHeartbeats 4000000 in
theorem lawTimerPut_any (a : Option Addr) (len cap : Nat) (zs : List (Int × Int)) (t0 t1 : Int) (w : World) (h : IsPairs w a len cap zs) :
    Calls Try.prog 5 #[.slice a len cap, .agg #[.int .i64 t0, .int .i64 t1]] w fun e w' => e = .returned (.bool true) ∧ Below w.heap.size w w' := by
  obtain ⟨hp, hl, hlc, hcm, -⟩ := h.prs
  unfold maxLen at hcm
  have H : Hid (Prs w a zs) := hp
  have HSZ : Hid (∀ w, Calls Try.prog 15 #[.slice a len cap, .int .i64 1048576] w fun e w' => ∃ r : Int, e = .returned (.int .i64 r) ∧ (0 ≤ r → len ≤ 1048576) ∧ -1 ≤ r ∧ r ≤ 1048576 ∧ w' = w) := fun w => szTimerS_any a len cap w (by omega)
  clear h hp
  go_enter Try.func5, Try.ntmps5
  go_wp2_with fail
  refine (HSZ.out _).mono ?_
  rintro e w1 ⟨r, rfl, hr, r0, r1, hw⟩
  have K1 : Hid (w1.cell? ⟨w.heap.size, 0, none⟩ = some (.int .i64 t0) ∧ w1.cell? ⟨w.heap.size, 1, none⟩ = some (.int .i64 t1) ∧ w.heap.size < w1.heap.size ∧ Below w.heap.size w w1) := by
    subst hw
    exact ⟨by simp, by simp, by simp, (Below.refl _ _).alloc (Nat.le_refl _) _⟩
  clear hw
  have H1 : Hid (Prs w1 a zs) := H.out.keep K1.out.2.2.2
  have B1 : Hid (Below w1.heap.size w1 w1) := Below.refl _ _
  by_cases hneg : r < 0
  · go_wp2
    go_ret
    exact ⟨rfl, K1.out.2.2.2⟩
  have hlen := hr (by omega)
  clear hr HSZ
  have HT : Hid (∀ w, Prs w a zs → Calls Try.prog 17 #[.slice a len cap] w fun e w' => e = .returned (.slice (some ⟨w.heap.size, 0, none⟩) len len) ∧ OwnP 45 w' w.heap.size (.slice (some ⟨w.heap.size, 0, none⟩) len len) zs ∧ Below w.heap.size w w') := fun w h => toTimerS_any a len cap zs w h hl hlen
  have HS : Hid (∀ w a, Prs w a zs → Calls Try.prog 16 #[.slice a len len, .agg #[.int .i64 t0, .int .i64 t1]] w fun e w' => ∃ v, e = .returned (.tuple #[v, .int .i64 (tpC zs (t0, t1))]) ∧ OwnP 45 w' w.heap.size v (tpL zs (t0, t1)) ∧ Below w.heap.size w w') := fun w a h => specPut_any a len len zs t0 t1 w h hl hlen
  have HI : Hid (∀ w a, Prs w a zs → Calls Try.prog 19 #[.slice a len len, .agg #[.int .i64 t0, .int .i64 t1]] w fun e w' => ∃ v, e = .returned (.tuple #[v, .int .i64 (tpC zs (t0, t1))]) ∧ OwnP 45 w' w.heap.size v (tpL zs (t0, t1)) ∧ Below w.heap.size w w') := fun w a h => implPut_any a len len zs t0 t1 w h hl (Nat.le_refl _)
  have hLb : (tpL zs (t0, t1)).length ≤ 1048576 := Nat.le_trans (tpL_len zs (t0, t1)) (by omega)
  generalize tpC zs (t0, t1) = c at HS HI
  generalize tpL zs (t0, t1) = O at HS HI hLb
  have HE : Hid (∀ (a a' : Option Addr) (cap cap' : Nat) w, Prs w a O → Prs w a' O → Calls Try.prog 20 #[.slice a O.length cap, .slice a' O.length cap'] w fun e w' => e = .returned (.bool true) ∧ Grw w w') := fun a a' cap cap' w h h' => eqTimerS_yes a a' O.length cap cap' O w h h' rfl hLb
  have HE2 : Hid (∀ (a a' : Option Addr) (cap cap' : Nat) w, Prs w a zs → Prs w a' zs → Calls Try.prog 20 #[.slice a len cap, .slice a' len cap'] w fun e w' => e = .returned (.bool true) ∧ Grw w w') := fun a a' cap cap' w h h' => eqTimerS_yes a a' len cap cap' zs w h h' hl hlen
  have hnc : (c != c) = false := by simp
  have hmm : ((1 + 2 * (O.length : Int)) != (1 + 2 * (O.length : Int))) = false := by simp
  have HTT : Hid (∀ w, Calls Try.prog 18 #[.agg #[.int .i64 t0, .int .i64 t1]] w fun e w' => e = .returned (.agg #[.int .i64 t0, .int .i64 t1]) ∧ Grw w w') := fun w => toTimer_g t0 t1 w
  have SX : Hid (∀ wx wy, Below wx.heap.size wx wy → S5 w.heap.size t0 t1 w1 wx → S5 w.heap.size t0 t1 w1 wy) := fun wx wy hb h => h.below K1.out.2.2.1 (hb.mono h.2.2.out.size)
  have HP : Hid (∀ wx, S5 w.heap.size t0 t1 w1 wx → Prs wx a zs) := fun wx h => H1.out.keep h.2.2.out
  have S1 : Hid (S5 w.heap.size t0 t1 w1 w1.drew) := (S5.start K1.out.1 K1.out.2.1).below K1.out.2.2.1 (Below.refl _ _).drew
  go_wp2_with fail
  go_region_held3 (fun wx => wx.cell? ⟨w.heap.size, 0, none⟩ = some (.int .i64 t0) ∧ wx.cell? ⟨w.heap.size, 1, none⟩ = some (.int .i64 t1) ∧ KeptB w1 wx)
    (first | exact S1.out | exact SX.out _ _ b3 (by assumption) | exact SX.out _ _ bt (by assumption) | exact SX.out _ _ b2 (by assumption))
    (first | (go_at_call 17; refine (HT.out _ (HP.out _ (by assumption))).mono ?_; rintro e w2a ⟨rfl, o2, b2⟩) | (go_at_call 18; (with_reducible refine (HTT.out _).mono ?_); rintro e w2b ⟨rfl, gt⟩; have bt := gt.below) | (go_at_call 16; refine (HS.out _ _ ((own_prs o2).keep bt)).mono ?_; rintro e w3 ⟨v3, rfl, o3, b3⟩))
  obtain ⟨s3, c3, rfl, -⟩ := o3.slice
  have hS3 : S5 w.heap.size t0 t1 w1 w3 := by assumption
  have X3 : Hid (Below w1.heap.size w1 w3 ∧ OwnP 45 w3 w2b.heap.size (.slice s3 O.length c3) O) := ⟨hS3.2.2.out, o3⟩
  have Z2 : Hid (w1.heap.size ≤ w2b.heap.size) := Nat.le_trans b2.size bt.size
  have Z3 : Hid (w2b.heap.size ≤ w3.heap.size ∧ ∀ k, (Value.slice s3 O.length c3).ownBlock = some k → k < w3.heap.size) := ⟨b3.size, fun k hk => (World.ownsRow.lt o3 k hk).2⟩
  clear o3 b3 b2 bt gt o2 hS3
  rename_i hOld3
  clear hOld3
  go_wp2_with fail
  refine (HT.out _ (H1.out.keep X3.out.1)).mono ?_
  rintro e w4 ⟨rfl, o4, b4⟩
  have X4 : Hid (Below w1.heap.size w1 w4 ∧ OwnP 45 w4 w2b.heap.size (.slice s3 O.length c3) O ∧ OwnP 45 w4 w3.heap.size (.slice (some ⟨w3.heap.size, 0, none⟩) len len) zs) := ⟨X3.out.1.trans (b4.mono X3.out.1.size), X3.out.2.now b4, o4⟩
  have Z4 : Hid (w3.heap.size < w4.heap.size) := (World.ownsRow.lt o4 _ rfl).2
  clear o4 b4
  have q0 : w4.cell? ⟨w.heap.size, 0, none⟩ = some (.int .i64 t0) := by rw [X4.out.1.cell (by exact K1.out.2.2.1)]; exact K1.out.1
  have q1 : w4.cell? ⟨w.heap.size, 1, none⟩ = some (.int .i64 t1) := by rw [X4.out.1.cell (by exact K1.out.2.2.1)]; exact K1.out.2.1
  go_wp2_with fail
  refine (HTT.out _).mono ?_
  rintro e w4b ⟨rfl, gt⟩
  have bt := gt.below
  clear q0 q1 gt
  go_wp2_with fail
  refine (HI.out _ _ (own_prs (X4.out.2.2.now bt))).mono ?_
  rintro e w5 ⟨v3, rfl, o3, b3⟩
  obtain ⟨s5, c5, rfl, -⟩ := o3.slice
  have X5 : Hid (Below w1.heap.size w1 w5 ∧ OwnP 45 w5 w2b.heap.size (.slice s3 O.length c3) O ∧ OwnP 45 w5 w3.heap.size (.slice (some ⟨w3.heap.size, 0, none⟩) len len) zs ∧ OwnP 45 w5 w4.heap.size (.slice s5 O.length c5) O) := ⟨(X4.out.1.trans (bt.mono X4.out.1.size)).trans (b3.mono (Nat.le_trans X4.out.1.size bt.size)), (X4.out.2.1.now bt).now b3, (X4.out.2.2.now bt).now b3, o3.lower bt.size⟩
  clear o3 b3 bt
  go_wp2_with fail
  refine (HE.out _ _ _ _ _ (own_prs X5.out.2.2.2) (own_prs X5.out.2.1)).mono ?_
  rintro e w6 ⟨rfl, g6⟩
  have b6 := g6.below
  have X6 : Hid (Below w1.heap.size w1 w6 ∧ OwnP 45 w6 w2b.heap.size (.slice s3 O.length c3) O ∧ OwnP 45 w6 w3.heap.size (.slice (some ⟨w3.heap.size, 0, none⟩) len len) zs ∧ OwnP 45 w6 w4.heap.size (.slice s5 O.length c5) O) := ⟨X5.out.1.trans (b6.mono X5.out.1.size), X5.out.2.1.now b6, X5.out.2.2.1.now b6, X5.out.2.2.2.now b6⟩
  clear g6 b6
  go_wp2_with fail
  refine (HT.out _ (H1.out.keep X6.out.1)).mono ?_
  rintro e w7 ⟨rfl, o7, b7⟩
  have X7 : Hid (Below w1.heap.size w1 w7 ∧ OwnP 45 w7 w2b.heap.size (.slice s3 O.length c3) O ∧ OwnP 45 w7 w3.heap.size (.slice (some ⟨w3.heap.size, 0, none⟩) len len) zs ∧ OwnP 45 w7 w4.heap.size (.slice s5 O.length c5) O ∧ Prs w7 (some ⟨w6.heap.size, 0, none⟩) zs) := ⟨X6.out.1.trans (b7.mono X6.out.1.size), X6.out.2.1.now b7, X6.out.2.2.1.now b7, X6.out.2.2.2.now b7, own_prs o7⟩
  clear o7 b7
  go_wp2_with fail
  refine (HE2.out _ _ _ _ _ (own_prs X7.out.2.2.1) X7.out.2.2.2.2).mono ?_
  rintro e w8 ⟨rfl, g8⟩
  have b8 := g8.below
  have X8 : Hid (Below w1.heap.size w1 w8 ∧ OwnP 45 w8 w2b.heap.size (.slice s3 O.length c3) O ∧ OwnP 45 w8 w3.heap.size (.slice (some ⟨w3.heap.size, 0, none⟩) len len) zs ∧ OwnP 45 w8 w4.heap.size (.slice s5 O.length c5) O) := ⟨X7.out.1.trans (b8.mono X7.out.1.size), X7.out.2.1.now b8, X7.out.2.2.1.now b8, X7.out.2.2.2.1.now b8⟩
  clear g8 b8
  have SZ : Hid (w1.heap.size ≤ w2b.heap.size ∧ w2b.heap.size ≤ w3.heap.size ∧ w3.heap.size < w4.heap.size) := ⟨Z2.out, Z3.out.1, Z4.out⟩
  have hne3 : Hid (∀ k, (Value.slice s3 O.length c3).ownBlock = some k → k < w3.heap.size) := Z3.out.2
  go_wp2_with fail
  refine (markTimerS_any _ _ _ _ _ _ X8.out.2.2.1 hl hlen).mono ?_
  rintro e w9 ⟨rfl, -, g9⟩
  have X9 : Hid (Below w1.heap.size w1 w9 ∧ OwnP 45 w9 w2b.heap.size (.slice s3 O.length c3) O ∧ OwnP 45 w9 w4.heap.size (.slice s5 O.length c5) O) :=
    ⟨below_grown X8.out.1 g9 (fun k hk => by cases hk; exact Nat.le_trans SZ.out.1 SZ.out.2.1), own_grown X8.out.2.1 g9 (Or.inr (fun he => absurd (hne3.out _ he) (Nat.lt_irrefl _))), own_grown X8.out.2.2.2 g9 (Or.inr (fun he => absurd (Nat.lt_of_lt_of_le SZ.out.2.2 (World.ownsRow.lt X8.out.2.2.2 _ he).1) (Nat.lt_irrefl _)))⟩
  clear g9
  go_wp2_with fail
  refine (HE.out _ _ _ _ _ (own_prs X9.out.2.2) (own_prs X9.out.2.1)).mono ?_
  rintro e w10 ⟨rfl, g10⟩
  have b10 := g10.below
  have X10 : Hid (Below w1.heap.size w1 w10 ∧ OwnP 45 w10 w2b.heap.size (.slice s3 O.length c3) O ∧ OwnP 45 w10 w4.heap.size (.slice s5 O.length c5) O) := ⟨X9.out.1.trans (b10.mono X9.out.1.size), X9.out.2.1.now b10, X9.out.2.2.now b10⟩
  clear g10 b10
  go_wp2_with fail
  refine (markTimerS_any _ _ _ _ _ _ X10.out.2.2 rfl hLb).mono ?_
  rintro e w11 ⟨rfl, o11, g11⟩
  have X11 : Hid (Below w1.heap.size w1 w11 ∧ OwnP 45 w11 w2b.heap.size (.slice s3 O.length c3) O ∧ OwnP 45 w11 w4.heap.size (.slice s5 O.length c5) (marks O.length)) :=
    ⟨below_grown X10.out.1 g11 (fun k hk => by have := (World.ownsRow.lt X10.out.2.2 k hk).1; have := SZ.out; omega), own_grown X10.out.2.1 g11 (by
      cases hb3 : (Value.slice s3 O.length c3).ownBlock with
      | none => exact Or.inl rfl
      | some k => exact Or.inr (fun he => by have h1 := hne3.out k hb3; have h2 := (World.ownsRow.lt X10.out.2.2 k he.symm).1; have := SZ.out; omega)), o11⟩
  clear g11 o11
  go_wp2_with fail
  refine (heldTimerS_any _ _ _ _ (own_prs X11.out.2.2) hLb).mono ?_
  rintro e w12 ⟨rfl, g12⟩
  have b12 := g12.below
  have X12 : Hid (Below w1.heap.size w1 w12 ∧ OwnP 45 w12 w2b.heap.size (.slice s3 O.length c3) O ∧ OwnP 45 w12 w4.heap.size (.slice s5 O.length c5) (marks O.length)) := ⟨X11.out.1.trans (b12.mono X11.out.1.size), X11.out.2.1.now b12, X11.out.2.2.now b12⟩
  clear g12 b12
  have S12 : Hid (S5 w.heap.size t0 t1 w1 w12.drew) := (S5.start K1.out.1 K1.out.2.1).below K1.out.2.2.1 X12.out.1.drew
  go_wp2_with fail
  go_region_held3 (fun wx => wx.cell? ⟨w.heap.size, 0, none⟩ = some (.int .i64 t0) ∧ wx.cell? ⟨w.heap.size, 1, none⟩ = some (.int .i64 t1) ∧ KeptB w1 wx)
    (first | exact S12.out | exact SX.out _ _ b3 (by assumption) | exact SX.out _ _ bt (by assumption) | exact SX.out _ _ b2 (by assumption))
    (first | (go_at_call 17; refine (HT.out _ (HP.out _ (by assumption))).mono ?_; rintro e w13a ⟨rfl, o2, b2⟩) | (go_at_call 18; (with_reducible refine (HTT.out _).mono ?_); rintro e w13b ⟨rfl, gt⟩; have bt := gt.below) | (go_at_call 19; refine (HI.out _ _ ((own_prs o2).keep bt)).mono ?_; rintro e w14 ⟨v3, rfl, o3, b3⟩))
  obtain ⟨s14, c14, rfl, -⟩ := o3.slice
  have X14 : Hid (Below w1.heap.size w1 w14 ∧ OwnP 45 w14 w2b.heap.size (.slice s3 O.length c3) O ∧ OwnP 45 w14 w4.heap.size (.slice s5 O.length c5) (marks O.length) ∧ Prs w14 s14 O) := ⟨(show S5 w.heap.size t0 t1 w1 w14 by assumption).2.2.out, (((X12.out.2.1.now (Below.refl _ _).drew).now b2).now bt).now b3, (((X12.out.2.2.now (Below.refl _ _).drew).now b2).now bt).now b3, own_prs o3⟩
  clear o3 b3 b2 bt gt o2
  rename_i hOld14
  clear hOld14
  go_wp2_with fail
  refine (HE.out _ _ _ _ _ X14.out.2.2.2 (own_prs X14.out.2.1)).mono ?_
  rintro e w15 ⟨rfl, g15⟩
  have b15 := g15.below
  have X15 : Hid (Below w1.heap.size w1 w15 ∧ OwnP 45 w15 w4.heap.size (.slice s5 O.length c5) (marks O.length)) := ⟨X14.out.1.trans (b15.mono X14.out.1.size), X14.out.2.2.1.now b15⟩
  clear g15 b15
  go_wp2_with fail
  refine (heldTimerS_any _ _ _ _ (own_prs X15.out.2) hLb).mono ?_
  rintro e w16 ⟨rfl, g16⟩
  have X16 : Hid (Below w1.heap.size w1 w16) := X15.out.1.trans (g16.below.mono X15.out.1.size)
  clear g16
  go_wp2
  go_ret
  exact ⟨rfl, K1.out.2.2.2.trans (X16.out.mono (Nat.le_of_lt K1.out.2.2.1))⟩
end Go.Proofs.Ytbbjelkicenbhab
