/- Words, the tops of both sides: ClassOf, OrderOf, NegOf, RateWord. -/
import Derived.Test.YtfcdobicilediaaWordS
namespace Go.Proofs.Ytfcdobicilediaa
open Go.RowKit Go.PlainAid Go.Proofs.Ytfcdobicilediaa.Bt Go.Proofs.Ytfcdobicilediaa.Fo Go.Sort
set_option linter.unusedVariables false
set_option maxRecDepth 20000

def classC (h l : Int) : Int := if okW h l then clW h l else 0
def badC (h l : Int) : Int := if okW h l then 0 else 1
def orderC (x y : Int × Int) : Int := if okW x.1 x.2 ∧ okW y.1 y.2 then cmpW x y else 0
def badC2 (x y : Int × Int) : Int := if okW x.1 x.2 ∧ okW y.1 y.2 then 0 else 1

theorem iClassOf_any (h l : Int) (w : World) : Calls Try.prog 21 #[.agg #[.int .i64 h, .int .i64 l]] w fun e w' => e = .returned (.tuple #[.int .i64 (classC h l), .int .i64 (badC h l)]) ∧ Grw w w' := by
  have H1 : Hid (∀ w, Calls Try.prog 53 #[.agg #[.int .i64 h, .int .i64 l]] w fun e w' => e = .returned (.bool (dec (okW h l))) ∧ Grw w w') := fun w => wordOK_any _ _ w
  by_cases hw : okW h l
  · have H2 : Hid (∀ w, Calls Try.prog 59 #[.agg #[.int .i64 h, .int .i64 l]] w fun e w' => e = .returned (.float .f64 (bW h l)) ∧ Grw w w') := fun w => valueOf_any _ _ hw w
    have H3 : Hid (∀ w, Calls Try.prog 58 #[.float .f64 (bW h l)] w fun e w' => e = .returned (.int .i64 (clW h l)) ∧ w' = w) := fun w => by
      have := classOf_any (bW h l) (bW_lt hw) w
      rw [rI_bW hw, sg_bW hw] at this
      exact this
    have e1 : classC h l = clW h l := if_pos hw
    have e2 : badC h l = 0 := if_pos hw
    rw [e1, e2]
    rw [dec_y hw] at H1
    clear e1 e2 hw
    generalize clW h l = c at *
    generalize bW h l = b at *
    go_enter Try.func21, Try.ntmps21
    go_wp2_with fail
    refine (H1.out _).mono ?_
    rintro e w1 ⟨rfl, G1⟩
    have k0 : w1.cell? ⟨w.heap.size, 0, none⟩ = some (.int .i64 h) := by rw [G1.below.cell (by simp)]; simp
    have k1 : w1.cell? ⟨w.heap.size, 1, none⟩ = some (.int .i64 l) := by rw [G1.below.cell (by simp)]; simp
    have G : Hid (Grw w w1) := ((Grw.refl _).alloc _).trans G1
    clear G1
    go_wp2_with fail
    refine (H2.out _).mono ?_
    rintro e w2 ⟨rfl, G1⟩
    have G2 : Hid (Grw w w2) := G.out.trans G1
    clear G1 G k0 k1
    go_wp2_with fail
    refine (H3.out _).mono ?_
    rintro e w1 ⟨rfl, hw⟩
    subst hw
    go_wp2
    go_ret2
    exact ⟨rfl, G2.out⟩
  · have e1 : classC h l = 0 := if_neg hw
    have e2 : badC h l = 1 := if_neg hw
    rw [e1, e2]
    rw [dec_n hw] at H1
    clear e1 e2 hw
    go_enter Try.func21, Try.ntmps21
    go_wp2_with fail
    refine (H1.out _).mono ?_
    rintro e w1 ⟨rfl, G1⟩
    have G : Hid (Grw w w1) := ((Grw.refl _).alloc _).trans G1
    clear G1
    go_wp2
    go_ret2
    exact ⟨rfl, G.out⟩

theorem sClassOf_any (h l : Int) (w : World) : Calls Try.prog 22 #[.agg #[.int .i64 h, .int .i64 l]] w fun e w' => e = .returned (.tuple #[.int .i64 (classC h l), .int .i64 (badC h l)]) ∧ Grw w w' := by
  have H1 : Hid (∀ w, Calls Try.prog 56 #[.agg #[.int .i64 h, .int .i64 l]] w fun e w' => e = .returned (.bool (dec (okW h l))) ∧ Grw w w') := fun w => sWord_any _ _ w
  by_cases hw : okW h l
  · have H2 : Hid (∀ w, Calls Try.prog 60 #[.agg #[.int .i64 h, .int .i64 l]] w fun e w' => e = .returned (.int .i64 (clW h l)) ∧ Grw w w') := fun w => sClass_any _ _ hw w
    have e1 : classC h l = clW h l := if_pos hw
    have e2 : badC h l = 0 := if_pos hw
    rw [e1, e2]
    rw [dec_y hw] at H1
    clear e1 e2 hw
    generalize clW h l = c at *
    go_enter Try.func22, Try.ntmps22
    go_wp2_with fail
    refine (H1.out _).mono ?_
    rintro e w1 ⟨rfl, G1⟩
    have k0 : w1.cell? ⟨w.heap.size, 0, none⟩ = some (.int .i64 h) := by rw [G1.below.cell (by simp)]; simp
    have k1 : w1.cell? ⟨w.heap.size, 1, none⟩ = some (.int .i64 l) := by rw [G1.below.cell (by simp)]; simp
    have G : Hid (Grw w w1) := ((Grw.refl _).alloc _).trans G1
    clear G1
    go_wp2_with fail
    refine (H2.out _).mono ?_
    rintro e w2 ⟨rfl, G1⟩
    have G2 : Hid (Grw w w2) := G.out.trans G1
    clear G1 G k0 k1
    go_wp2
    go_ret2
    exact ⟨rfl, G2.out⟩
  · have e1 : classC h l = 0 := if_neg hw
    have e2 : badC h l = 1 := if_neg hw
    rw [e1, e2]
    rw [dec_n hw] at H1
    clear e1 e2 hw
    go_enter Try.func22, Try.ntmps22
    go_wp2_with fail
    refine (H1.out _).mono ?_
    rintro e w1 ⟨rfl, G1⟩
    have G : Hid (Grw w w1) := ((Grw.refl _).alloc _).trans G1
    clear G1
    go_wp2
    go_ret2
    exact ⟨rfl, G.out⟩

theorem iOrderOf_any (x y : Int × Int) (w : World) : Calls Try.prog 25 #[.agg #[.int .i64 x.1, .int .i64 x.2], .agg #[.int .i64 y.1, .int .i64 y.2]] w fun e w' => e = .returned (.tuple #[.int .i64 (orderC x y), .int .i64 (badC2 x y)]) ∧ Grw w w' := by
  have H1 : Hid (∀ w, Calls Try.prog 53 #[.agg #[.int .i64 x.1, .int .i64 x.2]] w fun e w' => e = .returned (.bool (dec (okW x.1 x.2))) ∧ Grw w w') := fun w => wordOK_any _ _ w
  have H2 : Hid (∀ w, Calls Try.prog 53 #[.agg #[.int .i64 y.1, .int .i64 y.2]] w fun e w' => e = .returned (.bool (dec (okW y.1 y.2))) ∧ Grw w w') := fun w => wordOK_any _ _ w
  by_cases hx : okW x.1 x.2
  rotate_left
  · have e1 : orderC x y = 0 := if_neg (fun h => hx h.1)
    have e2 : badC2 x y = 1 := if_neg (fun h => hx h.1)
    rw [e1, e2]
    rw [dec_n hx] at H1
    clear e1 e2 hx H2
    generalize x.1 = x1 at *
    generalize x.2 = x2 at *
    generalize y.1 = y1 at *
    generalize y.2 = y2 at *
    go_enter Try.func25, Try.ntmps25
    go_wp2_with fail
    refine (H1.out _).mono ?_
    rintro e w1 ⟨rfl, G1⟩
    have G : Hid (Grw w w1) := (((Grw.refl _).alloc _).alloc _).trans G1
    clear G1
    go_wp2
    go_ret2
    exact ⟨rfl, G.out⟩
  rw [dec_y hx] at H1
  by_cases hy : okW y.1 y.2
  rotate_left
  · have e1 : orderC x y = 0 := if_neg (fun h => hy h.2)
    have e2 : badC2 x y = 1 := if_neg (fun h => hy h.2)
    rw [e1, e2]
    rw [dec_n hy] at H2
    clear e1 e2 hx hy
    generalize x.1 = x1 at *
    generalize x.2 = x2 at *
    generalize y.1 = y1 at *
    generalize y.2 = y2 at *
    go_enter Try.func25, Try.ntmps25
    go_wp2_with fail
    refine (H1.out _).mono ?_
    rintro e w1 ⟨rfl, G1⟩
    have k2 : w1.cell? ⟨w.heap.size + 1, 0, none⟩ = some (.int .i64 y1) := by rw [G1.below.cell (by simp)]; simp
    have k3 : w1.cell? ⟨w.heap.size + 1, 1, none⟩ = some (.int .i64 y2) := by rw [G1.below.cell (by simp)]; simp
    have G : Hid (Grw w w1) := (((Grw.refl _).alloc _).alloc _).trans G1
    clear G1
    go_wp2_with fail
    refine (H2.out _).mono ?_
    rintro e w2 ⟨rfl, G1⟩
    have G2 : Hid (Grw w w2) := G.out.trans G1
    clear G1 G
    go_wp2
    go_ret2
    exact ⟨rfl, G2.out⟩
  rw [dec_y hy] at H2
  have H3 : Hid (∀ w, Calls Try.prog 55 #[.agg #[.int .i64 x.1, .int .i64 x.2], .agg #[.int .i64 y.1, .int .i64 y.2]] w fun e w' => e = .returned (.int .i64 (cmpW x y)) ∧ Grw w w') := fun w => compareWords_any x y hx hy w
  have e1 : orderC x y = cmpW x y := if_pos ⟨hx, hy⟩
  have e2 : badC2 x y = 0 := if_pos ⟨hx, hy⟩
  rw [e1, e2]
  clear e1 e2 hx hy
  generalize cmpW x y = c at *
  generalize x.1 = x1 at *
  generalize x.2 = x2 at *
  generalize y.1 = y1 at *
  generalize y.2 = y2 at *
  go_enter Try.func25, Try.ntmps25
  go_wp2_with fail
  refine (H1.out _).mono ?_
  rintro e w1 ⟨rfl, G1⟩
  have k0 : w1.cell? ⟨w.heap.size, 0, none⟩ = some (.int .i64 x1) := by rw [G1.below.cell (by simp; omega)]; simp
  have k1 : w1.cell? ⟨w.heap.size, 1, none⟩ = some (.int .i64 x2) := by rw [G1.below.cell (by simp; omega)]; simp
  have k2 : w1.cell? ⟨w.heap.size + 1, 0, none⟩ = some (.int .i64 y1) := by rw [G1.below.cell (by simp)]; simp
  have k3 : w1.cell? ⟨w.heap.size + 1, 1, none⟩ = some (.int .i64 y2) := by rw [G1.below.cell (by simp)]; simp
  have G : Hid (Grw w w1) := (((Grw.refl _).alloc _).alloc _).trans G1
  clear G1
  have hlt : w.heap.size + 1 < w1.heap.size := World.block_lt_of_cell? w1 _ k2
  go_wp2_with fail
  refine (H2.out _).mono ?_
  rintro e w2 ⟨rfl, G1⟩
  have m0 : w2.cell? ⟨w.heap.size, 0, none⟩ = some (.int .i64 x1) := by rw [G1.below.cell (by simp; omega)]; exact k0
  have m1 : w2.cell? ⟨w.heap.size, 1, none⟩ = some (.int .i64 x2) := by rw [G1.below.cell (by simp; omega)]; exact k1
  have m2 : w2.cell? ⟨w.heap.size + 1, 0, none⟩ = some (.int .i64 y1) := by rw [G1.below.cell (by simp; omega)]; exact k2
  have m3 : w2.cell? ⟨w.heap.size + 1, 1, none⟩ = some (.int .i64 y2) := by rw [G1.below.cell (by simp; omega)]; exact k3
  have G2 : Hid (Grw w w2) := G.out.trans G1
  clear G1 G k0 k1 k2 k3
  go_wp2_with fail
  refine (H3.out _).mono ?_
  rintro e w3 ⟨rfl, G1⟩
  have G3 : Hid (Grw w w3) := G2.out.trans G1
  clear G1 G2 m0 m1 m2 m3
  go_wp2
  go_ret2
  exact ⟨rfl, G3.out⟩

def negH (h l : Int) : Int := if okW h l then bits .xor .i64 h 2147483648 else 0
def negL (h l : Int) : Int := if okW h l then l else 0
theorem set_two_w {w2 : World} {q : Nat} {u0 u1 : Value} (v0 v1 : Value) (z0 : w2.cell? ⟨q, 0, none⟩ = some u0) (z1 : w2.cell? ⟨q, 1, none⟩ = some u1) :
    ((w2.setCell ⟨q, 0, none⟩ v0).setCell ⟨q, 1, none⟩ v1).cell? ⟨q, 0, none⟩ = some v0 ∧ ((w2.setCell ⟨q, 0, none⟩ v0).setCell ⟨q, 1, none⟩ v1).cell? ⟨q, 1, none⟩ = some v1 ∧ Below q w2 ((w2.setCell ⟨q, 0, none⟩ v0).setCell ⟨q, 1, none⟩ v1) := by
  have n1 : (⟨q, 0, none⟩ : Addr) ≠ ⟨q, 1, none⟩ := fun h => by cases h
  have a1 : (w2.setCell ⟨q, 0, none⟩ v0).cell? ⟨q, 1, none⟩ = some u1 := by rw [World.cell?_setCell_other _ _ _ _ n1]; exact z1
  refine ⟨?_, World.cell?_setCell_same _ _ _ a1, ⟨rfl, rfl, rfl, by simp, fun k hk => ?_⟩⟩
  · rw [World.cell?_setCell_other _ _ _ _ (Ne.symm n1)]
    exact World.cell?_setCell_same _ _ _ z0
  · rw [Below.heap_setCell _ _ _ _ (by show k ≠ q; omega), Below.heap_setCell _ _ _ _ (by show k ≠ q; omega)]

theorem iNegOf_any (h l : Int) (w : World) : Calls Try.prog 26 #[.agg #[.int .i64 h, .int .i64 l]] w fun e w' => e = .returned (.tuple #[.agg #[.int .i64 (negH h l), .int .i64 (negL h l)], .int .i64 (badC h l)]) ∧ Below w.heap.size w w' := by
  have H1 : Hid (∀ w, Calls Try.prog 53 #[.agg #[.int .i64 h, .int .i64 l]] w fun e w' => e = .returned (.bool (dec (okW h l))) ∧ Grw w w') := fun w => wordOK_any _ _ w
  have HX : Hid (∀ w1, Grw ((w.alloc (.cells #[.int .i64 h, .int .i64 l] 48)).alloc (.cells #[.int .i64 0, .int .i64 0] 48)) w1 → w1.cell? ⟨w.heap.size, 0, none⟩ = some (.int .i64 h) ∧ w1.cell? ⟨w.heap.size, 1, none⟩ = some (.int .i64 l) ∧ w1.cell? ⟨w.heap.size + 1, 0, none⟩ = some (.int .i64 0) ∧ w1.cell? ⟨w.heap.size + 1, 1, none⟩ = some (.int .i64 0) ∧ (∀ i, w1.frozen? ⟨w.heap.size, i, none⟩ = false) ∧ (∀ i, w1.frozen? ⟨w.heap.size + 1, i, none⟩ = false) ∧ Below w.heap.size w w1) := fun w1 G1 => by
    have b1 := G1.below
    refine ⟨by rw [b1.cell (by simp; omega)]; simp, by rw [b1.cell (by simp; omega)]; simp, by rw [b1.cell (by simp)]; simp, by rw [b1.cell (by simp)]; simp, fun i => by rw [b1.frozen (by simp; omega)]; simp, fun i => by rw [b1.frozen (by simp)]; simp, ?_⟩
    exact ((((Grw.refl _).alloc _).alloc _).trans G1).below
  by_cases hw : okW h l
  · have e1 : negH h l = bits .xor .i64 h 2147483648 := if_pos hw
    have e2 : badC h l = 0 := if_pos hw
    have e3 : negL h l = l := if_pos hw
    rw [e1, e2, e3]
    rw [dec_y hw] at H1
    clear e1 e2 e3 hw
    obtain ⟨q, hq⟩ : ∃ q, bits .xor .i64 h 2147483648 = q := ⟨_, rfl⟩
    rw [hq]
    go_enter Try.func26, Try.ntmps26
    go_wp2_with fail
    refine (H1.out _).mono ?_
    rintro e w1 ⟨rfl, G1⟩
    obtain ⟨k0, k1, z0, z1, fp, f0, b1⟩ := HX.out w1 G1
    have B1 : Hid (Below w.heap.size w w1) := b1
    clear G1 b1 HX
    obtain ⟨W, hW⟩ : ∃ W, W = (w1.setCell ⟨w.heap.size + 1, 0, none⟩ (.int .i64 q)).setCell ⟨w.heap.size + 1, 1, none⟩ (.int .i64 l) := ⟨_, rfl⟩
    have st := set_two_w (.int .i64 q) (.int .i64 l) z0 z1
    rw [← hW] at st
    have r0 := st.1
    have r1 := st.2.1
    have XW : Hid (Below w.heap.size w W) := B1.out.trans (st.2.2.mono (by omega))
    clear st
    go_wp2
    rw [← hW]
    clear hW
    (try simp only [Exit.inBlock, Exit.then])
    refine bodyPost_ret (v := .tuple #[.agg #[.int .i64 q, .int .i64 l], .int .i64 0]) (by simp [results, Try.results26, go_sem, r0, r1]; try rfl) rfl ?_
    exact ⟨rfl, XW.out⟩
  · have e1 : negH h l = 0 := if_neg hw
    have e2 : badC h l = 1 := if_neg hw
    have e3 : negL h l = 0 := if_neg hw
    rw [e1, e2, e3]
    rw [dec_n hw] at H1
    clear e1 e2 e3 hw
    go_enter Try.func26, Try.ntmps26
    go_wp2_with fail
    refine (H1.out _).mono ?_
    rintro e w1 ⟨rfl, G1⟩
    obtain ⟨k0, k1, z0, z1, fp, f0, b1⟩ := HX.out w1 G1
    have B1 : Hid (Below w.heap.size w w1) := b1
    clear G1 b1 HX
    obtain ⟨W, hW⟩ : ∃ W, W = (w1.setCell ⟨w.heap.size + 1, 0, none⟩ (.int .i64 0)).setCell ⟨w.heap.size + 1, 1, none⟩ (.int .i64 0) := ⟨_, rfl⟩
    have st := set_two_w (.int .i64 0) (.int .i64 0) z0 z1
    rw [← hW] at st
    have r0 := st.1
    have r1 := st.2.1
    have XW : Hid (Below w.heap.size w W) := B1.out.trans (st.2.2.mono (by omega))
    clear st
    go_wp2
    rw [← hW]
    clear hW
    (try simp only [Exit.inBlock, Exit.then])
    refine bodyPost_ret (v := .tuple #[.agg #[.int .i64 0, .int .i64 0], .int .i64 1]) (by simp [results, Try.results26, go_sem, r0, r1]; try rfl) rfl ?_
    exact ⟨rfl, XW.out⟩

end Go.Proofs.Ytfcdobicilediaa
