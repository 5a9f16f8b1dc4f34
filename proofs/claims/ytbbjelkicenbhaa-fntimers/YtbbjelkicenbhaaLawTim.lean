/- The walk of laws.FnTimers. -/
import Derived.Test.YtbbjelkicenbhaaDrawT
import Derived.Test.YtbbjelkicenbhaaSameT
import Derived.Test.YtbbjelkicenbhaaTimDr
namespace Go.Proofs.Ytbbjelkicenbhaa
open Go.RowKit Go.PlainAid Go.Sort
set_option linter.unusedVariables false
set_option maxRecDepth 20000

/-- What the calls of the law answer. -/
theorem timers_facts {zs : List (Int × Int)} {x : Int} (h : Few 8 zs) (h0 : 0 ≤ x) (h1 : x < 20) :
    ∃ P Q L I E M, tpC zs (x, 9) = 0 ∧ tpL zs (x, 9) = P ∧ tpC P (x + 5, 9) = 0 ∧ tpL P (x + 5, 9) = Q ∧ duC P = 0 ∧ duL P x = L ∧ duI P x = I ∧ duI P (x - 1) = E ∧ duC Q = 0 ∧ duI Q (x + 4) = M ∧ tdC P 9 = 0 ∧ tdL P 9 = zs ∧ tdC zs 9 = 5 ∧ P.length = zs.length + 1 ∧ Q.length = zs.length + 1 ∧ L.length + I.length = P.length ∧ I.count 9 = 1 ∧ E.count 9 = 0 ∧ M.count 9 = 0 ∧ E.length ≤ 9 ∧ M.length ≤ 9 := by
  have hl := h.2.1
  have hn : ∀ y ∈ zs, y.2 ≠ (9 : Int) := fun y hy => by have := h.2.2 y hy; omega
  have k1 : okT (x, 9) := ⟨h0, by show x ≤ 1000000; omega, by show (0 : Int) ≤ 9; omega, by show (9 : Int) ≤ 1000000; omega⟩
  have k2 : okT (x + 5, 9) := ⟨by show 0 ≤ x + 5; omega, by show x + 5 ≤ 1000000; omega, by show (0 : Int) ≤ 9; omega, by show (9 : Int) ≤ 1000000; omega⟩
  have w0 : wo zs 9 zs.length = zs := wo_none hn
  have gP : Gd (sortedT (zs ++ [(x, 9)])) := h.1.put k1 hn
  have gQ : Gd (sortedT (zs ++ [(x + 5, 9)])) := h.1.put k2 hn
  have lP : (sortedT (zs ++ [(x, 9)])).length = zs.length + 1 := by rw [sortedT_len, List.length_append]; rfl
  have lQ : (sortedT (zs ++ [(x + 5, 9)])).length = zs.length + 1 := by rw [sortedT_len, List.length_append]; rfl
  have wP : wo (sortedT (zs ++ [(x, 9)])) 9 (sortedT (zs ++ [(x, 9)])).length = zs := put_wo h.1 k1 hn
  have cP := ids_count zs (x, 9) x hn
  have cE := ids_count zs (x, 9) (x - 1) hn
  have cM := ids_count zs (x + 5, 9) (x + 4) hn
  have pL := part_len (sortedT (zs ++ [(x, 9)])) x
  have tz : tmB zs = true := h.1.tm (by omega)
  have tP : tmB (sortedT (zs ++ [(x, 9)])) = true := gP.tm (by omega)
  have tQ : tmB (sortedT (zs ++ [(x + 5, 9)])) = true := gQ.tm (by omega)
  have dP : duC (sortedT (zs ++ [(x, 9)])) = 0 := by unfold duC; rw [if_neg (by omega), if_neg (by rw [tP]; simp)]
  have dQ : duC (sortedT (zs ++ [(x + 5, 9)])) = 0 := by unfold duC; rw [if_neg (by omega), if_neg (by rw [tQ]; simp)]
  refine ⟨sortedT (zs ++ [(x, 9)]), sortedT (zs ++ [(x + 5, 9)]), _, _, _, _, ?_, ?_, ?_, ?_, dP, rfl, rfl, rfl, dQ, rfl, ?_, ?_, ?_, lP, lQ, ?_, ?_, ?_, ?_, ?_, ?_⟩
  · unfold tpC
    rw [if_neg (by omega), if_neg (by rw [tz]; simp), if_neg (by rw [dec_y k1]; simp), if_neg (by show ¬ (wo zs 9 zs.length).length = 20; rw [w0]; omega)]
  · unfold tpL
    rw [if_neg (by omega), if_neg (by rw [tz]; simp), if_neg (by rw [dec_y k1]; simp), if_neg (by show ¬ (wo zs 9 zs.length).length = 20; rw [w0]; omega)]
    show sortedT (wo zs 9 zs.length ++ [(x, 9)]) = _
    rw [w0]
  · unfold tpC
    rw [if_neg (by omega), if_neg (by rw [tP]; simp), if_neg (by rw [dec_y k2]; simp), if_neg (by show ¬ (wo (sortedT (zs ++ [(x, 9)])) 9 (sortedT (zs ++ [(x, 9)])).length).length = 20; rw [wP]; omega)]
  · unfold tpL
    rw [if_neg (by omega), if_neg (by rw [tP]; simp), if_neg (by rw [dec_y k2]; simp), if_neg (by show ¬ (wo (sortedT (zs ++ [(x, 9)])) 9 (sortedT (zs ++ [(x, 9)])).length).length = 20; rw [wP]; omega)]
    show sortedT (wo (sortedT (zs ++ [(x, 9)])) 9 (sortedT (zs ++ [(x, 9)])).length ++ [(x + 5, 9)]) = _
    rw [wP]
  · unfold tdC
    rw [if_neg (by omega), if_neg (by rw [tP]; simp), if_neg (by rw [wP]; omega)]
  · unfold tdL
    rw [if_neg (by omega), if_neg (by rw [tP]; simp), wP]
  · unfold tdC
    rw [if_neg (by omega), if_neg (by rw [tz]; simp), if_pos (by rw [w0])]
  · unfold duL duI
    rw [if_pos dP, if_pos dP]
    exact pL
  · unfold duI
    rw [if_pos dP]
    rw [if_pos (Int.le_refl _)] at cP
    exact cP
  · unfold duI
    rw [if_pos dP]
    rw [if_neg (by show ¬ x ≤ x - 1; omega)] at cE
    exact cE
  · unfold duI
    rw [if_pos dQ]
    rw [if_neg (by show ¬ x + 5 ≤ x + 4; omega)] at cM
    exact cM
  · unfold duI
    rw [if_pos dP]
    have := idsTo_len (sortedT (zs ++ [(x, 9)])) (x - 1) (sortedT (zs ++ [(x, 9)])).length
    omega
  · unfold duI
    rw [if_pos dQ]
    have := idsTo_len (sortedT (zs ++ [(x + 5, 9)])) (x + 4) (sortedT (zs ++ [(x + 5, 9)])).length
    omega

theorem lawTimers_skip (a b : Option Addr) (la ca lb cb : Nat) (w : World) (h : 1048576 < la ∨ 1048576 < lb) :
    Calls Try.prog 4 #[.slice a la ca, .slice b lb cb] w fun e w' => e = .returned (.bool true) ∧ Below w.heap.size w w' := by
  by_cases h1 : 1048576 < la
  · go_enter Try.func4, Try.ntmps4
    go_wp2
    go_ret
    exact ⟨rfl, Below.refl _ _⟩
  · have h2 : 1048576 < lb := by omega
    go_enter Try.func4, Try.ntmps4
    go_wp2
    go_ret
    exact ⟨rfl, Below.refl _ _⟩

/-- A timer in a box. -/
def At2 (w : World) (b : Nat) (x y : Int) : Prop := w.cell? ⟨b, 0, none⟩ = some (.int .i64 x) ∧ w.cell? ⟨b, 1, none⟩ = some (.int .i64 y)
theorem At2.keep {w w' : World} {b : Nat} {x y : Int} (h : At2 w b x y) (hb : Below w.heap.size w w') : At2 w' b x y :=
  ⟨by rw [hb.cell (p := ⟨b, 0, none⟩) (World.block_lt_of_cell? w ⟨b, 0, none⟩ h.1)]; exact h.1, by rw [hb.cell (p := ⟨b, 1, none⟩) (World.block_lt_of_cell? w ⟨b, 1, none⟩ h.2)]; exact h.2⟩
theorem Ints.keep {w w' : World} {a : Option Addr} {L : List Int} (h : Ints w a L) (hb : Below w.heap.size w w') : Ints w' a L := by
  intro h0
  obtain ⟨b, rfl, hlt, hc⟩ := h h0
  exact ⟨b, rfl, Nat.lt_of_lt_of_le hlt hb.size, fun i hi => by rw [hb.cell (p := ⟨b, i, none⟩) hlt]; exact hc i hi⟩

theorem count_step (I : List Int) (k : Nat) (hk : k < I.length) : (I.take (k + 1)).count 9 = (I.take k).count 9 + if I.getD k 0 = 9 then 1 else 0 := by
  have e2 : I.take (k + 1) = I.take k ++ [I.getD k 0] := by
    rw [List.take_add_one, List.getD_eq_getElem?_getD, List.getElem?_eq_getElem hk]; rfl
  rw [e2, List.count_append]
  by_cases h : I.getD k 0 = 9
  · rw [h]; rfl
  · rw [if_neg h, List.count_cons, List.count_nil, if_neg (by simpa using h)]
theorem count_none {I : List Int} (h : I.count 9 = 0) {k : Nat} (hk : k < I.length) : I.getD k 0 ≠ 9 := by
  intro e
  rw [List.getD_eq_getElem?_getD, List.getElem?_eq_getElem hk] at e
  exact List.count_eq_zero.1 h (by rw [← (show I[k] = 9 from e)]; exact List.getElem_mem hk)

set_option maxHeartbeats 4000000 in
theorem lawTimers_any (a b : Option Addr) (la ca lb cb : Nat) (f g : Nat → Int) (w : World) (ha : Bytes w a la f) (hb : Bytes w b lb g)
    (pa : ∀ b off, 0 < la → a = some ⟨b, off, none⟩ → b < w.heap.size) (pb : ∀ b' off, 0 < lb → b = some ⟨b', off, none⟩ → b' < w.heap.size) (h1 : la ≤ 1048576) (h2 : lb ≤ 1048576) :
    Calls Try.prog 4 #[.slice a la ca, .slice b lb cb] w fun e w' => e = .returned (.bool true) ∧ Below w.heap.size w w' := by
  have D1 : Hid (Calls Try.prog 17 #[.slice a la ca] w fun e w' => ∃ v zs, e = .returned v ∧ OwnP 44 w' w.heap.size v zs ∧ Few 8 zs ∧ Below w.heap.size w w') := TimersOf_any w a la ca f ha h1 pa
  have D2 : Hid (∀ wx, Below w.heap.size w wx → Calls Try.prog 10 #[.slice b lb cb, .int .i64 0, .int .i64 20] wx fun e w' => ∃ v : Int, e = .returned (.int .i64 v) ∧ 0 ≤ v ∧ v < 20 ∧ ∃ k, w' = wx.drewN k) := fun wx bx => at_any wx b lb cb g 0 20 (hb.below bx pb) h2 (by omega) (by omega) (by omega)
  clear ha hb pa pb
  go_enter Try.func4, Try.ntmps4
  go_wp2_with fail
  refine D1.out.mono ?_
  rintro e w1 ⟨v0, zs, rfl, o1, hfew, b1⟩
  obtain ⟨a0, c0, e0, pr0, hc0, hm0, -⟩ := o1.slice
  subst e0
  have X1 : Hid (Below w.heap.size w w1 ∧ Prs w1 a0 zs) := ⟨b1, pr0⟩
  have HF : Hid (Few 8 zs) := hfew
  clear o1 b1 pr0 hfew D1
  go_wp2_with fail
  refine (D2.out _ X1.out.1).mono ?_
  rintro e w2 ⟨x, rfl, x0, x1, k2, rfl⟩
  obtain ⟨P, Q, L, I, E, M, f1, f2, f3, f4, f5, f6, f7, f8, f9, f10, f11, f12, f13, l1, l2, l3, n1, n2, n3, l4, l5⟩ := timers_facts HF.out x0 x1
  have hz8 : zs.length ≤ 8 := HF.out.2.1
  have CT : Hid (P.length = zs.length + 1 ∧ Q.length = P.length ∧ L.length + I.length = P.length ∧ I.count 9 = 1 ∧ E.count 9 = 0 ∧ M.count 9 = 0 ∧ E.length ≤ 9 ∧ M.length ≤ 9) := ⟨l1, by omega, l3, n1, n2, n3, l4, l5⟩
  have K1 : Hid (∀ wx, Prs wx a0 zs → Calls Try.prog 18 #[.slice a0 zs.length c0, .agg #[.int .i64 x, .int .i64 9]] wx fun e w' => ∃ v, e = .returned (.tuple #[v, .int .i64 0]) ∧ OwnP 44 w' wx.heap.size v P ∧ Below wx.heap.size wx w') := fun wx hp => by
    have := implPut_any a0 zs.length c0 zs x 9 wx hp rfl hc0
    rw [f1, f2] at this
    exact this
  have K2 : Hid (∀ wx, Prs wx a0 zs → Calls Try.prog 19 #[.slice a0 zs.length c0, .agg #[.int .i64 x, .int .i64 9]] wx fun e w' => ∃ v, e = .returned (.tuple #[v, .int .i64 0]) ∧ OwnP 44 w' wx.heap.size v P ∧ Below wx.heap.size wx w') := fun wx hp => by
    have := specPut_any a0 zs.length c0 zs x 9 wx hp rfl (by omega)
    rw [f1, f2] at this
    exact this
  have K3 : Hid (∀ wx a cap, Prs wx a P → P.length ≤ cap → Calls Try.prog 18 #[.slice a P.length cap, .agg #[.int .i64 (x + 5), .int .i64 9]] wx fun e w' => ∃ v, e = .returned (.tuple #[v, .int .i64 0]) ∧ OwnP 44 w' wx.heap.size v Q ∧ Below wx.heap.size wx w') := fun wx a cap hp hc => by
    have := implPut_any a P.length cap P (x + 5) 9 wx hp rfl hc
    rw [f3, f4] at this
    exact this
  have K4 : Hid (∀ wx a cap, Prs wx a P → P.length ≤ cap → Calls Try.prog 20 #[.slice a P.length cap, .int .i64 x] wx fun e w' => ∃ v u, e = .returned (.tuple #[v, u, .int .i64 0]) ∧ OwnP 44 w' wx.heap.size v L ∧ OwnI 3 w' wx.heap.size u I ∧ Below wx.heap.size wx w') := fun wx a cap hp hc => by
    have := implDue_any a P.length cap P x wx hp rfl hc
    rw [f5, f6, f7] at this
    exact this
  have K5 : Hid (∀ wx g cap, Prs wx (some ⟨g, 0, none⟩) P → P.length ≤ cap → Calls Try.prog 21 #[.slice (some ⟨g, 0, none⟩) P.length cap, .int .i64 x] wx fun e w' => ∃ v u, e = .returned (.tuple #[v, u, .int .i64 0]) ∧ OwnP 44 w' wx.heap.size v L ∧ OwnI 3 w' wx.heap.size u I ∧ Below wx.heap.size wx w') := fun wx g cap hp hc => by
    have := specDue_any g 0 P.length cap P x wx hp rfl hc (by omega)
    rw [f5, f6, f7] at this
    exact this
  have K6 : Hid (∀ wx a cap, Prs wx a P → P.length ≤ cap → Calls Try.prog 20 #[.slice a P.length cap, .int .i64 (x - 1)] wx fun e w' => ∃ v u, e = .returned (.tuple #[v, u, .int .i64 0]) ∧ OwnI 3 w' wx.heap.size u E ∧ Below wx.heap.size wx w') := fun wx a cap hp hc => by
    have := implDue_any a P.length cap P (x - 1) wx hp rfl hc
    rw [f5, f8] at this
    exact this.mono fun e w' ⟨v, u, y1, y2, y3, y4⟩ => ⟨v, u, y1, y3, y4⟩
  have K7 : Hid (∀ wx a cap, Prs wx a Q → Q.length ≤ cap → Calls Try.prog 20 #[.slice a Q.length cap, .int .i64 (x + 4)] wx fun e w' => ∃ v u, e = .returned (.tuple #[v, u, .int .i64 0]) ∧ OwnI 3 w' wx.heap.size u M ∧ Below wx.heap.size wx w') := fun wx a cap hp hc => by
    have := implDue_any a Q.length cap Q (x + 4) wx hp rfl hc
    rw [f9, f10] at this
    exact this.mono fun e w' ⟨v, u, y1, y2, y3, y4⟩ => ⟨v, u, y1, y3, y4⟩
  have K8 : Hid (∀ wx a cap, Prs wx a P → P.length ≤ cap → Calls Try.prog 22 #[.slice a P.length cap, .int .i64 9] wx fun e w' => ∃ v, e = .returned (.tuple #[v, .int .i64 0]) ∧ OwnP 44 w' wx.heap.size v zs ∧ Below wx.heap.size wx w') := fun wx a cap hp hc => by
    have := implDrop_any a P.length cap P 9 wx hp rfl hc
    rw [f11, f12] at this
    exact this
  have K9 : Hid (∀ wx a cap, Prs wx a zs → zs.length ≤ cap → Calls Try.prog 22 #[.slice a zs.length cap, .int .i64 9] wx fun e w' => ∃ v, e = .returned (.tuple #[v, .int .i64 5]) ∧ Below wx.heap.size wx w') := fun wx a cap hp hc => by
    have := implDrop_any a zs.length cap zs 9 wx hp rfl hc
    rw [f13] at this
    exact this.mono fun e w' ⟨v, y1, y2, y3⟩ => ⟨v, y1, y3⟩
  clear f1 f2 f3 f4 f5 f6 f7 f8 f9 f10 f11 f12 f13 l1 l2 l3 n1 n2 n3 l4 l5
  have X2 : Hid (Below w.heap.size w (w1.drewN k2) ∧ Prs (w1.drewN k2) a0 zs) := ⟨⟨X1.out.1.os, X1.out.1.tape, X1.out.1.output, X1.out.1.size, X1.out.1.block⟩, X1.out.2⟩
  generalize w1.drewN k2 = w2 at X2 ⊢
  clear X1 D2
  go_wp2_with fail
  have bA : Below w2.heap.size w2 (w2.alloc (.cells #[.int .i64 x, .int .i64 9] 44)) := (Below.refl _ _).alloc (Nat.le_refl _) _
  have XA : Hid (Below w.heap.size w (w2.alloc (.cells #[.int .i64 x, .int .i64 9] 44)) ∧ At2 (w2.alloc (.cells #[.int .i64 x, .int .i64 9] 44)) w2.heap.size x 9 ∧ Prs (w2.alloc (.cells #[.int .i64 x, .int .i64 9] 44)) a0 zs) := ⟨X2.out.1.alloc X2.out.1.size _, ⟨by simp, by simp⟩, X2.out.2.keep bA⟩
  clear bA X2
  refine (K1.out _ XA.out.2.2).mono ?_
  rintro e w3 ⟨v1, rfl, o3, b3⟩
  obtain ⟨g1, c1, e1, -⟩ := own_some o3 (by have := CT.out.1; omega)
  subst e1
  obtain ⟨a1', c1', e1, pr1, hc1, -⟩ := o3.slice
  cases e1
  have X3 : Hid (Below w.heap.size w w3 ∧ At2 w3 w2.heap.size x 9 ∧ Prs w3 a0 zs ∧ Prs w3 (some ⟨g1, 0, none⟩) P) := ⟨XA.out.1.trans (b3.mono XA.out.1.size), XA.out.2.1.keep b3, XA.out.2.2.keep b3, pr1⟩
  have q0 := X3.out.2.1.1
  have q1 := X3.out.2.1.2
  clear o3 b3 XA pr1 K1
  go_wp2_with fail
  refine (K2.out _ X3.out.2.2.1).mono ?_
  rintro e w4 ⟨v2, rfl, o4, b4⟩
  obtain ⟨a2, c2, e1, pr2, hc2, -⟩ := o4.slice
  subst e1
  have X4 : Hid (Below w.heap.size w w4 ∧ At2 w4 w2.heap.size x 9 ∧ Prs w4 a0 zs ∧ Prs w4 (some ⟨g1, 0, none⟩) P ∧ Prs w4 a2 P) := ⟨X3.out.1.trans (b4.mono X3.out.1.size), X3.out.2.1.keep b4, X3.out.2.2.1.keep b4, X3.out.2.2.2.keep b4, pr2⟩
  clear q0 q1
  have q0 := X4.out.2.1.1
  have q1 := X4.out.2.1.2
  clear o4 b4 X3 pr2 K2
  go_wp2_with fail
  refine (K3.out _ _ _ X4.out.2.2.2.1 hc1).mono ?_
  rintro e w5 ⟨v3, rfl, o5, b5⟩
  obtain ⟨a3, c3, e1, pra3, hca3, -⟩ := o5.slice
  subst e1
  have X5 : Hid (Below w.heap.size w w5 ∧ At2 w5 w2.heap.size x 9 ∧ Prs w5 a0 zs ∧ Prs w5 (some ⟨g1, 0, none⟩) P ∧ Prs w5 a2 P ∧ Prs w5 a3 Q) := ⟨X4.out.1.trans (b5.mono X4.out.1.size), X4.out.2.1.keep b5, X4.out.2.2.1.keep b5, X4.out.2.2.2.1.keep b5, X4.out.2.2.2.2.keep b5, pra3⟩
  clear q0 q1
  have q0 := X5.out.2.1.1
  have q1 := X5.out.2.1.2
  clear b5 X4 pra3 o5
  go_wp2_with fail
  refine (K4.out _ _ _ X5.out.2.2.2.1 hc1).mono ?_
  rintro e w6 ⟨v4, u4, rfl, o6, p6, b6⟩
  obtain ⟨a4, c4, e1, pra4, hca4, -⟩ := o6.slice
  subst e1
  obtain ⟨i4, d4, e1, pri4⟩ := p6.slice
  subst e1
  have X6 : Hid (Below w.heap.size w w6 ∧ At2 w6 w2.heap.size x 9 ∧ Prs w6 a0 zs ∧ Prs w6 (some ⟨g1, 0, none⟩) P ∧ Prs w6 a2 P ∧ Prs w6 a3 Q ∧ Prs w6 a4 L ∧ Ints w6 i4 I) := ⟨X5.out.1.trans (b6.mono X5.out.1.size), X5.out.2.1.keep b6, X5.out.2.2.1.keep b6, X5.out.2.2.2.1.keep b6, X5.out.2.2.2.2.1.keep b6, X5.out.2.2.2.2.2.keep b6, pra4, pri4⟩
  clear q0 q1
  have q0 := X6.out.2.1.1
  have q1 := X6.out.2.1.2
  clear b6 X5 pra4 pri4 o6 p6
  go_wp2_with fail
  refine (K5.out _ _ _ X6.out.2.2.2.1 hc1).mono ?_
  rintro e w7 ⟨v5, u5, rfl, o7, p7, b7⟩
  obtain ⟨a5, c5, e1, pra5, hca5, -⟩ := o7.slice
  subst e1
  obtain ⟨i5, d5, e1, pri5⟩ := p7.slice
  subst e1
  have X7 : Hid (Below w.heap.size w w7 ∧ At2 w7 w2.heap.size x 9 ∧ Prs w7 a0 zs ∧ Prs w7 (some ⟨g1, 0, none⟩) P ∧ Prs w7 a2 P ∧ Prs w7 a3 Q ∧ Prs w7 a4 L ∧ Ints w7 i4 I ∧ Prs w7 a5 L ∧ Ints w7 i5 I) := ⟨X6.out.1.trans (b7.mono X6.out.1.size), X6.out.2.1.keep b7, X6.out.2.2.1.keep b7, X6.out.2.2.2.1.keep b7, X6.out.2.2.2.2.1.keep b7, X6.out.2.2.2.2.2.1.keep b7, X6.out.2.2.2.2.2.2.1.keep b7, X6.out.2.2.2.2.2.2.2.keep b7, pra5, pri5⟩
  clear q0 q1
  have q0 := X7.out.2.1.1
  have q1 := X7.out.2.1.2
  clear b7 X6 pra5 pri5 o7 p7
  go_wp2_with fail
  refine (K6.out _ _ _ X7.out.2.2.2.1 hc1).mono ?_
  rintro e w8 ⟨v6, u6, rfl, p8, b8⟩
  obtain ⟨i6, d6, e1, pri6⟩ := p8.slice
  subst e1
  have X8 : Hid (Below w.heap.size w w8 ∧ At2 w8 w2.heap.size x 9 ∧ Prs w8 a0 zs ∧ Prs w8 (some ⟨g1, 0, none⟩) P ∧ Prs w8 a2 P ∧ Prs w8 a3 Q ∧ Prs w8 a4 L ∧ Ints w8 i4 I ∧ Prs w8 a5 L ∧ Ints w8 i5 I ∧ Ints w8 i6 E) := ⟨X7.out.1.trans (b8.mono X7.out.1.size), X7.out.2.1.keep b8, X7.out.2.2.1.keep b8, X7.out.2.2.2.1.keep b8, X7.out.2.2.2.2.1.keep b8, X7.out.2.2.2.2.2.1.keep b8, X7.out.2.2.2.2.2.2.1.keep b8, X7.out.2.2.2.2.2.2.2.1.keep b8, X7.out.2.2.2.2.2.2.2.2.1.keep b8, X7.out.2.2.2.2.2.2.2.2.2.keep b8, pri6⟩
  clear q0 q1
  have q0 := X8.out.2.1.1
  have q1 := X8.out.2.1.2
  clear b8 X7 pri6 p8
  go_wp2_with fail
  refine (K7.out _ _ _ X8.out.2.2.2.2.2.1 hca3).mono ?_
  rintro e w9 ⟨v7, u7, rfl, p9, b9⟩
  obtain ⟨i7, d7, e1, pri7⟩ := p9.slice
  subst e1
  have X9 : Hid (Below w.heap.size w w9 ∧ At2 w9 w2.heap.size x 9 ∧ Prs w9 a0 zs ∧ Prs w9 (some ⟨g1, 0, none⟩) P ∧ Prs w9 a2 P ∧ Prs w9 a3 Q ∧ Prs w9 a4 L ∧ Ints w9 i4 I ∧ Prs w9 a5 L ∧ Ints w9 i5 I ∧ Ints w9 i6 E ∧ Ints w9 i7 M) := ⟨X8.out.1.trans (b9.mono X8.out.1.size), X8.out.2.1.keep b9, X8.out.2.2.1.keep b9, X8.out.2.2.2.1.keep b9, X8.out.2.2.2.2.1.keep b9, X8.out.2.2.2.2.2.1.keep b9, X8.out.2.2.2.2.2.2.1.keep b9, X8.out.2.2.2.2.2.2.2.1.keep b9, X8.out.2.2.2.2.2.2.2.2.1.keep b9, X8.out.2.2.2.2.2.2.2.2.2.1.keep b9, X8.out.2.2.2.2.2.2.2.2.2.2.keep b9, pri7⟩
  clear q0 q1
  have q0 := X9.out.2.1.1
  have q1 := X9.out.2.1.2
  clear b9 X8 pri7 p9
  go_wp2_with fail
  refine (K8.out _ _ _ X9.out.2.2.2.1 hc1).mono ?_
  rintro e w10 ⟨v8, rfl, o10, b10⟩
  obtain ⟨a8, c8, e1, pra8, hca8, -⟩ := o10.slice
  subst e1
  have X10 : Hid (Below w.heap.size w w10 ∧ At2 w10 w2.heap.size x 9 ∧ Prs w10 a0 zs ∧ Prs w10 (some ⟨g1, 0, none⟩) P ∧ Prs w10 a2 P ∧ Prs w10 a3 Q ∧ Prs w10 a4 L ∧ Ints w10 i4 I ∧ Prs w10 a5 L ∧ Ints w10 i5 I ∧ Ints w10 i6 E ∧ Ints w10 i7 M ∧ Prs w10 a8 zs) := ⟨X9.out.1.trans (b10.mono X9.out.1.size), X9.out.2.1.keep b10, X9.out.2.2.1.keep b10, X9.out.2.2.2.1.keep b10, X9.out.2.2.2.2.1.keep b10, X9.out.2.2.2.2.2.1.keep b10, X9.out.2.2.2.2.2.2.1.keep b10, X9.out.2.2.2.2.2.2.2.1.keep b10, X9.out.2.2.2.2.2.2.2.2.1.keep b10, X9.out.2.2.2.2.2.2.2.2.2.1.keep b10, X9.out.2.2.2.2.2.2.2.2.2.2.1.keep b10, X9.out.2.2.2.2.2.2.2.2.2.2.2.keep b10, pra8⟩
  clear q0 q1
  have q0 := X10.out.2.1.1
  have q1 := X10.out.2.1.2
  clear b10 X9 pra8 o10
  go_wp2_with fail
  refine (K9.out _ _ _ X10.out.2.2.2.2.2.2.2.2.2.2.2.2 hca8).mono ?_
  rintro e w11 ⟨v9, rfl, b11⟩
  have X11 : Hid (Below w.heap.size w w11 ∧ At2 w11 w2.heap.size x 9 ∧ Prs w11 a0 zs ∧ Prs w11 (some ⟨g1, 0, none⟩) P ∧ Prs w11 a2 P ∧ Prs w11 a3 Q ∧ Prs w11 a4 L ∧ Ints w11 i4 I ∧ Prs w11 a5 L ∧ Ints w11 i5 I ∧ Ints w11 i6 E ∧ Ints w11 i7 M ∧ Prs w11 a8 zs) := ⟨X10.out.1.trans (b11.mono X10.out.1.size), X10.out.2.1.keep b11, X10.out.2.2.1.keep b11, X10.out.2.2.2.1.keep b11, X10.out.2.2.2.2.1.keep b11, X10.out.2.2.2.2.2.1.keep b11, X10.out.2.2.2.2.2.2.1.keep b11, X10.out.2.2.2.2.2.2.2.1.keep b11, X10.out.2.2.2.2.2.2.2.2.1.keep b11, X10.out.2.2.2.2.2.2.2.2.2.1.keep b11, X10.out.2.2.2.2.2.2.2.2.2.2.1.keep b11, X10.out.2.2.2.2.2.2.2.2.2.2.2.1.keep b11, X10.out.2.2.2.2.2.2.2.2.2.2.2.2.keep b11⟩
  clear q0 q1
  have q0 := X11.out.2.1.1
  have q1 := X11.out.2.1.2
  clear b11 X10
  go_wp2_with fail
  have eQ : ((Q.length : Int) != (P.length : Int)) = false := by have := CT.out.2.1; simp; omega
  have eS : ((L.length : Int) + (I.length : Int) != (P.length : Int)) = false := by have := CT.out.2.2.1; simp; omega
  have hP9 : P.length ≤ 9 := by have := CT.out.1; omega
  have hL9 : L.length ≤ 9 := by have := CT.out.2.2.1; omega
  have hI9 : I.length ≤ 9 := by have := CT.out.2.2.1; omega
  clear q0 q1 K3 K4 K5 K6 K7 K8 K9
  refine (sameTimers_yes _ _ _ _ _ P w11 X11.out.2.2.2.1 X11.out.2.2.2.2.1 rfl (by omega)).mono ?_
  rintro e w12 ⟨rfl, r12⟩
  have X12 : Hid (Below w.heap.size w w12 ∧ At2 w12 w2.heap.size x 9 ∧ Prs w12 a0 zs ∧ Prs w12 (some ⟨g1, 0, none⟩) P ∧ Prs w12 a2 P ∧ Prs w12 a3 Q ∧ Prs w12 a4 L ∧ Ints w12 i4 I ∧ Prs w12 a5 L ∧ Ints w12 i5 I ∧ Ints w12 i6 E ∧ Ints w12 i7 M ∧ Prs w12 a8 zs) := ⟨X11.out.1.trans (r12.below.mono X11.out.1.size), X11.out.2.1.keep r12.below, X11.out.2.2.1.keep r12.below, X11.out.2.2.2.1.keep r12.below, X11.out.2.2.2.2.1.keep r12.below, X11.out.2.2.2.2.2.1.keep r12.below, X11.out.2.2.2.2.2.2.1.keep r12.below, X11.out.2.2.2.2.2.2.2.1.keep r12.below, X11.out.2.2.2.2.2.2.2.2.1.keep r12.below, X11.out.2.2.2.2.2.2.2.2.2.1.keep r12.below, X11.out.2.2.2.2.2.2.2.2.2.2.1.keep r12.below, X11.out.2.2.2.2.2.2.2.2.2.2.2.1.keep r12.below, X11.out.2.2.2.2.2.2.2.2.2.2.2.2.keep r12.below⟩
  clear r12 X11
  go_wp2_with fail
  refine (sameTimers_yes _ _ _ _ _ L w12 X12.out.2.2.2.2.2.2.1 X12.out.2.2.2.2.2.2.2.2.1 rfl (by omega)).mono ?_
  rintro e w13 ⟨rfl, r13⟩
  have X13 : Hid (Below w.heap.size w w13 ∧ At2 w13 w2.heap.size x 9 ∧ Prs w13 a0 zs ∧ Prs w13 (some ⟨g1, 0, none⟩) P ∧ Prs w13 a2 P ∧ Prs w13 a3 Q ∧ Prs w13 a4 L ∧ Ints w13 i4 I ∧ Prs w13 a5 L ∧ Ints w13 i5 I ∧ Ints w13 i6 E ∧ Ints w13 i7 M ∧ Prs w13 a8 zs) := ⟨X12.out.1.trans (r13.below.mono X12.out.1.size), X12.out.2.1.keep r13.below, X12.out.2.2.1.keep r13.below, X12.out.2.2.2.1.keep r13.below, X12.out.2.2.2.2.1.keep r13.below, X12.out.2.2.2.2.2.1.keep r13.below, X12.out.2.2.2.2.2.2.1.keep r13.below, X12.out.2.2.2.2.2.2.2.1.keep r13.below, X12.out.2.2.2.2.2.2.2.2.1.keep r13.below, X12.out.2.2.2.2.2.2.2.2.2.1.keep r13.below, X12.out.2.2.2.2.2.2.2.2.2.2.1.keep r13.below, X12.out.2.2.2.2.2.2.2.2.2.2.2.1.keep r13.below, X12.out.2.2.2.2.2.2.2.2.2.2.2.2.keep r13.below⟩
  clear r13 X12
  go_wp2_with fail
  refine (sameInts_yes _ _ _ _ _ I w13 X13.out.2.2.2.2.2.2.2.1 X13.out.2.2.2.2.2.2.2.2.2.1 rfl (by omega)).mono ?_
  rintro e w14 ⟨rfl, r14⟩
  have X14 : Hid (Below w.heap.size w w14 ∧ At2 w14 w2.heap.size x 9 ∧ Prs w14 a0 zs ∧ Prs w14 (some ⟨g1, 0, none⟩) P ∧ Prs w14 a2 P ∧ Prs w14 a3 Q ∧ Prs w14 a4 L ∧ Ints w14 i4 I ∧ Prs w14 a5 L ∧ Ints w14 i5 I ∧ Ints w14 i6 E ∧ Ints w14 i7 M ∧ Prs w14 a8 zs) := ⟨X13.out.1.trans (r14.below.mono X13.out.1.size), X13.out.2.1.keep r14.below, X13.out.2.2.1.keep r14.below, X13.out.2.2.2.1.keep r14.below, X13.out.2.2.2.2.1.keep r14.below, X13.out.2.2.2.2.2.1.keep r14.below, X13.out.2.2.2.2.2.2.1.keep r14.below, X13.out.2.2.2.2.2.2.2.1.keep r14.below, X13.out.2.2.2.2.2.2.2.2.1.keep r14.below, X13.out.2.2.2.2.2.2.2.2.2.1.keep r14.below, X13.out.2.2.2.2.2.2.2.2.2.2.1.keep r14.below, X13.out.2.2.2.2.2.2.2.2.2.2.2.1.keep r14.below, X13.out.2.2.2.2.2.2.2.2.2.2.2.2.keep r14.below⟩
  clear r14 X13
  go_wp2_with fail
  refine (sameTimers_yes _ _ _ _ _ zs w14 X14.out.2.2.2.2.2.2.2.2.2.2.2.2 X14.out.2.2.1 rfl (by omega)).mono ?_
  rintro e w15 ⟨rfl, r15⟩
  have X15 : Hid (Below w.heap.size w w15 ∧ At2 w15 w2.heap.size x 9 ∧ Prs w15 a0 zs ∧ Prs w15 (some ⟨g1, 0, none⟩) P ∧ Prs w15 a2 P ∧ Prs w15 a3 Q ∧ Prs w15 a4 L ∧ Ints w15 i4 I ∧ Prs w15 a5 L ∧ Ints w15 i5 I ∧ Ints w15 i6 E ∧ Ints w15 i7 M ∧ Prs w15 a8 zs) := ⟨X14.out.1.trans (r15.below.mono X14.out.1.size), X14.out.2.1.keep r15.below, X14.out.2.2.1.keep r15.below, X14.out.2.2.2.1.keep r15.below, X14.out.2.2.2.2.1.keep r15.below, X14.out.2.2.2.2.2.1.keep r15.below, X14.out.2.2.2.2.2.2.1.keep r15.below, X14.out.2.2.2.2.2.2.2.1.keep r15.below, X14.out.2.2.2.2.2.2.2.2.1.keep r15.below, X14.out.2.2.2.2.2.2.2.2.2.1.keep r15.below, X14.out.2.2.2.2.2.2.2.2.2.2.1.keep r15.below, X14.out.2.2.2.2.2.2.2.2.2.2.2.1.keep r15.below, X14.out.2.2.2.2.2.2.2.2.2.2.2.2.keep r15.below⟩
  clear r15 X14
  go_wp2
  have XF : Hid (Below w.heap.size w w15 ∧ Ints w15 i4 I ∧ Ints w15 i6 E ∧ Ints w15 i7 M) := ⟨X15.out.1, X15.out.2.2.2.2.2.2.2.1, X15.out.2.2.2.2.2.2.2.2.2.2.1, X15.out.2.2.2.2.2.2.2.2.2.2.2.1⟩
  have HE9 : E.length ≤ 9 := CT.out.2.2.2.2.2.2.1
  have HM9 : M.length ≤ 9 := CT.out.2.2.2.2.2.2.2
  have CI : Hid (I.count 9 = 1 ∧ E.count 9 = 0 ∧ M.count 9 = 0) := ⟨CT.out.2.2.2.1, CT.out.2.2.2.2.1, CT.out.2.2.2.2.2.1⟩
  clear X15 CT eQ eS hP9 hL9 HF hca3 hca8 hca4 hca5 hc2 hc1 hc0 hm0
  go_loopw [29, 30] (fun d i wr => ∃ k c : Nat, k ≤ I.length ∧ i = .int .i64 k ∧ d = .int .i64 c ∧ c ≤ k ∧ Hid (c = (I.take k).count 9) ∧ wr = w15) (fun _ i _ => I.length - (intOf i).toNat)
  case atStart => exact ⟨0, 0, Nat.zero_le _, rfl, rfl, Nat.le_refl _, rfl, rfl⟩
  case round =>
    obtain ⟨k, c, hk, rfl, rfl, hck, HC, rfl⟩ := hrel
    by_cases hlt : k < I.length
    · obtain ⟨b4, e4, -, hcell⟩ := XF.out.2.1 (by omega)
      subst e4
      have hy := hcell k hlt
      have HS : Hid ((I.take (k + 1)).count 9 = c + if I.getD k 0 = 9 then 1 else 0) := by rw [HC.out]; exact count_step I k hlt
      have hltz : (k : Int) < (I.length : Int) := by omega
      clear hcell
      generalize I.getD k 0 = y at hy HS
      by_cases h9 : y = 9
      · subst h9
        go_wp2
        go_roundw
        case rel => exact ⟨k + 1, c + 1, by omega, by go_num, by go_num, by omega, by have := HS.out; rw [if_pos rfl] at this; exact this.symm, by first | rfl | trivial⟩
        case measure => simp [intOf]; omega
      · have h9b : (y == 9) = false := by simpa using h9
        go_wp2
        go_roundw
        case rel => exact ⟨k + 1, c, by omega, by go_num, rfl, by omega, by have := HS.out; rw [if_neg h9] at this; exact this.symm, by first | rfl | trivial⟩
        case measure => simp [intOf]; omega
    · obtain rfl : k = I.length := by omega
      have hc1 : c = 1 := by have := HC.out; rw [List.take_of_length_le (Nat.le_refl _)] at this; rw [this]; exact CI.out.1
      have hc1z : (c : Int) = 1 := by omega
      rw [hc1z]
      clear hc1z hc1 HC hck
      go_wp2
      go_loopw [31] (fun i wx => ∃ k : Nat, k ≤ E.length ∧ i = .int .i64 k ∧ wx = wr) (fun i _ => E.length - (intOf i).toNat)
      case atStart => exact ⟨0, Nat.zero_le _, rfl, rfl⟩
      case round =>
        obtain ⟨k2, hk2, rfl, rfl⟩ := hrel
        by_cases hlt2 : k2 < E.length
        · obtain ⟨b6, e6, -, hcell⟩ := XF.out.2.2.1 (by omega)
          subst e6
          have hy := hcell k2 hlt2
          have h9 := count_none CI.out.2.1 hlt2
          have hltz : (k2 : Int) < (E.length : Int) := by omega
          clear hcell
          generalize E.getD k2 0 = y at hy h9
          have h9b : (y == 9) = false := by simpa using h9
          go_wp2
          go_roundw
          case rel => exact ⟨k2 + 1, by omega, by go_num, by first | rfl | trivial⟩
          case measure => simp [intOf]; omega
        · obtain rfl : k2 = E.length := by omega
          go_wp2
          go_loopw [32] (fun i wx => ∃ k : Nat, k ≤ M.length ∧ i = .int .i64 k ∧ wx = wr) (fun i _ => M.length - (intOf i).toNat)
          case atStart => exact ⟨0, Nat.zero_le _, rfl, rfl⟩
          case round =>
            obtain ⟨k3, hk3, rfl, rfl⟩ := hrel
            by_cases hlt3 : k3 < M.length
            · obtain ⟨b7, e7, -, hcell⟩ := XF.out.2.2.2 (by omega)
              subst e7
              have hy := hcell k3 hlt3
              have h9 := count_none CI.out.2.2 hlt3
              have hltz : (k3 : Int) < (M.length : Int) := by omega
              clear hcell
              generalize M.getD k3 0 = y at hy h9
              have h9b : (y == 9) = false := by simpa using h9
              go_wp2
              go_roundw
              case rel => exact ⟨k3 + 1, by omega, by go_num, by first | rfl | trivial⟩
              case measure => simp [intOf]; omega
            · obtain rfl : k3 = M.length := by omega
              go_wp2
              go_ret
              exact ⟨rfl, XF.out.1⟩
end Go.Proofs.Ytbbjelkicenbhaa
