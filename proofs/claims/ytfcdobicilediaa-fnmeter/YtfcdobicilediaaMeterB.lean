/- MeterAdd, both sides; the walk of its law. -/
import Derived.Test.YtfcdobicilediaaMeterA
namespace Go.Proofs.Ytfcdobicilediaa
open Go.RowKit Go.PlainAid Go.Sort
set_option linter.unusedVariables false
set_option maxRecDepth 20000

def mv0 (m l h c x : Int) : Int := if okM m l h c ∧ okA x then (if c = 0 then x else m + (x - m) / 4) else 0
def mv1 (m l h c x : Int) : Int := if okM m l h c ∧ okA x then (if c = 0 then x else min l x) else 0
def mv2 (m l h c x : Int) : Int := if okM m l h c ∧ okA x then (if c = 0 then x else max h x) else 0
def mv3 (m l h c x : Int) : Int := if okM m l h c ∧ okA x then (if c = 0 then 1 else min (c + 1) 1000000) else 0
def mvC (m l h c x : Int) : Int := if okM m l h c then (if okA x then 0 else 4) else 1

theorem set_four {w2 : World} {q : Nat} {u0 u1 u2 u3 : Value} (v0 v1 v2 v3 : Value) (z0 : w2.cell? ⟨q, 0, none⟩ = some u0) (z1 : w2.cell? ⟨q, 1, none⟩ = some u1) (z2 : w2.cell? ⟨q, 2, none⟩ = some u2) (z3 : w2.cell? ⟨q, 3, none⟩ = some u3) :
    ((((w2.setCell ⟨q, 0, none⟩ v0).setCell ⟨q, 1, none⟩ v1).setCell ⟨q, 2, none⟩ v2).setCell ⟨q, 3, none⟩ v3).cell? ⟨q, 0, none⟩ = some v0 ∧ ((((w2.setCell ⟨q, 0, none⟩ v0).setCell ⟨q, 1, none⟩ v1).setCell ⟨q, 2, none⟩ v2).setCell ⟨q, 3, none⟩ v3).cell? ⟨q, 1, none⟩ = some v1 ∧ ((((w2.setCell ⟨q, 0, none⟩ v0).setCell ⟨q, 1, none⟩ v1).setCell ⟨q, 2, none⟩ v2).setCell ⟨q, 3, none⟩ v3).cell? ⟨q, 2, none⟩ = some v2 ∧ ((((w2.setCell ⟨q, 0, none⟩ v0).setCell ⟨q, 1, none⟩ v1).setCell ⟨q, 2, none⟩ v2).setCell ⟨q, 3, none⟩ v3).cell? ⟨q, 3, none⟩ = some v3 ∧ Below q w2 ((((w2.setCell ⟨q, 0, none⟩ v0).setCell ⟨q, 1, none⟩ v1).setCell ⟨q, 2, none⟩ v2).setCell ⟨q, 3, none⟩ v3) := by
  have n : ∀ i j : Nat, i ≠ j → (⟨q, i, none⟩ : Addr) ≠ ⟨q, j, none⟩ := fun i j h e => h (by cases e; rfl)
  have a0 := World.cell?_setCell_same _ _ v0 z0
  have a1 : (w2.setCell ⟨q, 0, none⟩ v0).cell? ⟨q, 1, none⟩ = some u1 := by rw [World.cell?_setCell_other _ _ _ _ (n _ _ (by omega))]; exact z1
  have a2 : (w2.setCell ⟨q, 0, none⟩ v0).cell? ⟨q, 2, none⟩ = some u2 := by rw [World.cell?_setCell_other _ _ _ _ (n _ _ (by omega))]; exact z2
  have a3 : (w2.setCell ⟨q, 0, none⟩ v0).cell? ⟨q, 3, none⟩ = some u3 := by rw [World.cell?_setCell_other _ _ _ _ (n _ _ (by omega))]; exact z3
  have b0 : ((w2.setCell ⟨q, 0, none⟩ v0).setCell ⟨q, 1, none⟩ v1).cell? ⟨q, 0, none⟩ = some v0 := by rw [World.cell?_setCell_other _ _ _ _ (n _ _ (by omega))]; exact a0
  have b1 := World.cell?_setCell_same _ _ v1 a1
  have b2 : ((w2.setCell ⟨q, 0, none⟩ v0).setCell ⟨q, 1, none⟩ v1).cell? ⟨q, 2, none⟩ = some u2 := by rw [World.cell?_setCell_other _ _ _ _ (n _ _ (by omega))]; exact a2
  have b3 : ((w2.setCell ⟨q, 0, none⟩ v0).setCell ⟨q, 1, none⟩ v1).cell? ⟨q, 3, none⟩ = some u3 := by rw [World.cell?_setCell_other _ _ _ _ (n _ _ (by omega))]; exact a3
  have c2 := World.cell?_setCell_same _ _ v2 b2
  have c3 : (((w2.setCell ⟨q, 0, none⟩ v0).setCell ⟨q, 1, none⟩ v1).setCell ⟨q, 2, none⟩ v2).cell? ⟨q, 3, none⟩ = some u3 := by rw [World.cell?_setCell_other _ _ _ _ (n _ _ (by omega))]; exact b3
  refine ⟨?_, ?_, ?_, World.cell?_setCell_same _ _ v3 c3, ⟨rfl, rfl, rfl, by simp, fun k hk => ?_⟩⟩
  · rw [World.cell?_setCell_other _ _ _ _ (n _ _ (by omega)), World.cell?_setCell_other _ _ _ _ (n _ _ (by omega))]; exact b0
  · rw [World.cell?_setCell_other _ _ _ _ (n _ _ (by omega)), World.cell?_setCell_other _ _ _ _ (n _ _ (by omega))]; exact b1
  · rw [World.cell?_setCell_other _ _ _ _ (n _ _ (by omega))]; exact c2
  · rw [Below.heap_setCell _ _ _ _ (by show k ≠ q; omega), Below.heap_setCell _ _ _ _ (by show k ≠ q; omega), Below.heap_setCell _ _ _ _ (by show k ≠ q; omega), Below.heap_setCell _ _ _ _ (by show k ≠ q; omega)]

set_option maxHeartbeats 1000000 in
theorem iMeterAdd_any (m l h c x : Int) (w : World) : Calls Try.prog 28 #[.agg #[.int .i64 m, .int .i64 l, .int .i64 h, .int .i64 c], .int .i64 x] w fun e w' => e = .returned (.tuple #[.agg #[.int .i64 (mv0 m l h c x), .int .i64 (mv1 m l h c x), .int .i64 (mv2 m l h c x), .int .i64 (mv3 m l h c x)], .int .i64 (mvC m l h c x)]) ∧ Below w.heap.size w w' := by
  have H1 : Hid (∀ w, Calls Try.prog 62 #[.agg #[.int .i64 m, .int .i64 l, .int .i64 h, .int .i64 c]] w fun e w' => e = .returned (.bool (dec (okM m l h c))) ∧ Grw w w') := fun w => meterOK_any _ _ _ _ w
  have H2 : Hid (∀ w, Calls Try.prog 63 #[.int .i64 x] w fun e w' => e = .returned (.bool (dec (okA x))) ∧ w' = w) := fun w => amountOK_any _ w
  have HX : Hid (∀ w1, Grw ((w.alloc (.cells #[.int .i64 m, .int .i64 l, .int .i64 h, .int .i64 c] 56)).alloc (.cells #[.int .i64 0, .int .i64 0, .int .i64 0, .int .i64 0] 56)) w1 → w1.cell? ⟨w.heap.size, 0, none⟩ = some (.int .i64 m) ∧ w1.cell? ⟨w.heap.size, 1, none⟩ = some (.int .i64 l) ∧ w1.cell? ⟨w.heap.size, 2, none⟩ = some (.int .i64 h) ∧ w1.cell? ⟨w.heap.size, 3, none⟩ = some (.int .i64 c) ∧ w1.cell? ⟨w.heap.size + 1, 0, none⟩ = some (.int .i64 0) ∧ w1.cell? ⟨w.heap.size + 1, 1, none⟩ = some (.int .i64 0) ∧ w1.cell? ⟨w.heap.size + 1, 2, none⟩ = some (.int .i64 0) ∧ w1.cell? ⟨w.heap.size + 1, 3, none⟩ = some (.int .i64 0) ∧ (∀ i, w1.frozen? ⟨w.heap.size + 1, i, none⟩ = false) ∧ Below w.heap.size w w1) := fun w1 G1 => by
    have b1 := G1.below
    refine ⟨by rw [b1.cell (by simp; omega)]; simp, by rw [b1.cell (by simp; omega)]; simp, by rw [b1.cell (by simp; omega)]; simp, by rw [b1.cell (by simp; omega)]; simp, by rw [b1.cell (by simp)]; simp, by rw [b1.cell (by simp)]; simp, by rw [b1.cell (by simp)]; simp, by rw [b1.cell (by simp)]; simp, fun i => by rw [b1.frozen (by simp)]; simp, ?_⟩
    exact ((((Grw.refl _).alloc _).alloc _).trans G1).below
  by_cases hm : okM m l h c
  rotate_left
  · have e0 : mv0 m l h c x = 0 := if_neg (fun h => hm h.1)
    have e1 : mv1 m l h c x = 0 := if_neg (fun h => hm h.1)
    have e2 : mv2 m l h c x = 0 := if_neg (fun h => hm h.1)
    have e3 : mv3 m l h c x = 0 := if_neg (fun h => hm h.1)
    have e4 : mvC m l h c x = 1 := if_neg hm
    rw [e0, e1, e2, e3, e4]
    rw [dec_n hm] at H1
    clear e0 e1 e2 e3 e4 hm
    go_enter Try.func28, Try.ntmps28
    go_wp2_with fail
    refine (H1.out _).mono ?_
    rintro e w1 ⟨rfl, G1⟩
    obtain ⟨k0, k1, k2, k3, z0, z1, z2, z3, f0, b1⟩ := HX.out w1 G1
    have B1 : Hid (Below w.heap.size w w1) := b1
    clear G1 b1 HX
    obtain ⟨W, hW⟩ : ∃ W, W = (((w1.setCell ⟨w.heap.size + 1, 0, none⟩ (.int .i64 0)).setCell ⟨w.heap.size + 1, 1, none⟩ (.int .i64 0)).setCell ⟨w.heap.size + 1, 2, none⟩ (.int .i64 0)).setCell ⟨w.heap.size + 1, 3, none⟩ (.int .i64 0) := ⟨_, rfl⟩
    have st := set_four (.int .i64 0) (.int .i64 0) (.int .i64 0) (.int .i64 0) z0 z1 z2 z3
    rw [← hW] at st
    obtain ⟨r0, r1, r2, r3, rb⟩ := st
    have XW : Hid (Below w.heap.size w W) := B1.out.trans (rb.mono (by omega))
    clear rb
    go_wp2
    rw [← hW]
    clear hW
    (try simp only [Exit.inBlock, Exit.then])
    refine bodyPost_ret (v := .tuple #[.agg #[.int .i64 0, .int .i64 0, .int .i64 0, .int .i64 0], .int .i64 1]) (by simp [results, Try.results28, go_sem, r0, r1, r2, r3]; try rfl) rfl ?_
    exact ⟨rfl, XW.out⟩
  rw [dec_y hm] at H1
  by_cases hx : okA x
  rotate_left
  · have e0 : mv0 m l h c x = 0 := if_neg (fun h => hx h.2)
    have e1 : mv1 m l h c x = 0 := if_neg (fun h => hx h.2)
    have e2 : mv2 m l h c x = 0 := if_neg (fun h => hx h.2)
    have e3 : mv3 m l h c x = 0 := if_neg (fun h => hx h.2)
    have e4 : mvC m l h c x = 4 := by unfold mvC; rw [if_pos hm, if_neg hx]
    rw [e0, e1, e2, e3, e4]
    rw [dec_n hx] at H2
    clear e0 e1 e2 e3 e4 hm hx
    go_enter Try.func28, Try.ntmps28
    go_wp2_with fail
    refine (H1.out _).mono ?_
    rintro e w1 ⟨rfl, G1⟩
    obtain ⟨k0, k1, k2, k3, z0, z1, z2, z3, f0, b1⟩ := HX.out w1 G1
    have B1 : Hid (Below w.heap.size w w1) := b1
    clear G1 b1 HX
    go_wp2_with fail
    refine (H2.out _).mono ?_
    rintro e w2 ⟨rfl, hw⟩
    subst hw
    obtain ⟨W, hW⟩ : ∃ W, W = (((w2.setCell ⟨w.heap.size + 1, 0, none⟩ (.int .i64 0)).setCell ⟨w.heap.size + 1, 1, none⟩ (.int .i64 0)).setCell ⟨w.heap.size + 1, 2, none⟩ (.int .i64 0)).setCell ⟨w.heap.size + 1, 3, none⟩ (.int .i64 0) := ⟨_, rfl⟩
    have st := set_four (.int .i64 0) (.int .i64 0) (.int .i64 0) (.int .i64 0) z0 z1 z2 z3
    rw [← hW] at st
    obtain ⟨r0, r1, r2, r3, rb⟩ := st
    have XW : Hid (Below w.heap.size w W) := B1.out.trans (rb.mono (by omega))
    clear rb
    go_wp2
    rw [← hW]
    clear hW
    (try simp only [Exit.inBlock, Exit.then])
    refine bodyPost_ret (v := .tuple #[.agg #[.int .i64 0, .int .i64 0, .int .i64 0, .int .i64 0], .int .i64 4]) (by simp [results, Try.results28, go_sem, r0, r1, r2, r3]; try rfl) rfl ?_
    exact ⟨rfl, XW.out⟩
  rw [dec_y hx] at H2
  have e4 : mvC m l h c x = 0 := by unfold mvC; rw [if_pos hm, if_pos hx]
  rw [e4]
  clear e4
  by_cases hc : c = 0
  · have e0 : mv0 m l h c x = x := by unfold mv0; rw [if_pos ⟨hm, hx⟩, if_pos hc]
    have e1 : mv1 m l h c x = x := by unfold mv1; rw [if_pos ⟨hm, hx⟩, if_pos hc]
    have e2 : mv2 m l h c x = x := by unfold mv2; rw [if_pos ⟨hm, hx⟩, if_pos hc]
    have e3 : mv3 m l h c x = 1 := by unfold mv3; rw [if_pos ⟨hm, hx⟩, if_pos hc]
    rw [e0, e1, e2, e3]
    clear e0 e1 e2 e3 hm hx
    subst hc
    go_enter Try.func28, Try.ntmps28
    go_wp2_with fail
    refine (H1.out _).mono ?_
    rintro e w1 ⟨rfl, G1⟩
    obtain ⟨k0, k1, k2, k3, z0, z1, z2, z3, f0, b1⟩ := HX.out w1 G1
    have B1 : Hid (Below w.heap.size w w1) := b1
    clear G1 b1 HX
    go_wp2_with fail
    refine (H2.out _).mono ?_
    rintro e w2 ⟨rfl, hw⟩
    subst hw
    obtain ⟨W, hW⟩ : ∃ W, W = (((w2.setCell ⟨w.heap.size + 1, 0, none⟩ (.int .i64 x)).setCell ⟨w.heap.size + 1, 1, none⟩ (.int .i64 x)).setCell ⟨w.heap.size + 1, 2, none⟩ (.int .i64 x)).setCell ⟨w.heap.size + 1, 3, none⟩ (.int .i64 1) := ⟨_, rfl⟩
    have st := set_four (.int .i64 x) (.int .i64 x) (.int .i64 x) (.int .i64 1) z0 z1 z2 z3
    rw [← hW] at st
    obtain ⟨r0, r1, r2, r3, rb⟩ := st
    have XW : Hid (Below w.heap.size w W) := B1.out.trans (rb.mono (by omega))
    clear rb
    go_wp2
    rw [← hW]
    clear hW
    (try simp only [Exit.inBlock, Exit.then])
    refine bodyPost_ret (v := .tuple #[.agg #[.int .i64 x, .int .i64 x, .int .i64 x, .int .i64 1], .int .i64 0]) (by simp [results, Try.results28, go_sem, r0, r1, r2, r3]; try rfl) rfl ?_
    exact ⟨rfl, XW.out⟩
  have e0 : mv0 m l h c x = m + (x - m) / 4 := by unfold mv0; rw [if_pos ⟨hm, hx⟩, if_neg hc]
  have e1 : mv1 m l h c x = min l x := by unfold mv1; rw [if_pos ⟨hm, hx⟩, if_neg hc]
  have e2 : mv2 m l h c x = max h x := by unfold mv2; rw [if_pos ⟨hm, hx⟩, if_neg hc]
  have e3 : mv3 m l h c x = min (c + 1) 1000000 := by unfold mv3; rw [if_pos ⟨hm, hx⟩, if_neg hc]
  rw [e0, e1, e2, e3]
  clear e0 e1 e2 e3
  have hm' : 1 ≤ c ∧ c ≤ 1000000 ∧ okA l ∧ okA h ∧ l ≤ m ∧ m ≤ h := hm.elim (fun h => absurd h.2.2.2 hc) id
  obtain ⟨hc1, hc2, hl, hh, hlm, hmh⟩ := hm'
  unfold okA at hl hh hx
  clear hm
  have hw1 : IntKind.i64.wrap (x - m) = x - m := by rw [IntKind.wrap_i64]; omega
  have H3 : Hid (∀ w, Calls Try.prog 64 #[.int .i64 (IntKind.i64.wrap (x - m)), .int .i64 4] w fun e w' => e = .returned (.int .i64 ((x - m) / 4)) ∧ w' = w) := fun w => by rw [hw1]; exact dividedDown_any (x - m) 4 (by omega) (by omega) (by omega) w
  have hq : -2000000000 ≤ (x - m) / 4 ∧ (x - m) / 4 ≤ 2000000000 := by omega
  clear hw1
  generalize (x - m) / 4 = q at *
  have hw2 : IntKind.i64.wrap (m + q) = m + q := by rw [IntKind.wrap_i64]; omega
  have hw3 : IntKind.i64.wrap (c + 1) = c + 1 := by rw [IntKind.wrap_i64]; omega
  generalize hr1 : min l x = r1
  generalize hr2 : max h x = r2
  generalize hr3 : min (c + 1) 1000000 = r3
  have m1 : (if x < l then x else l) = r1 := by rw [← hr1]; split <;> omega
  have m2 : (if h < x then x else h) = r2 := by rw [← hr2]; split <;> omega
  have m3 : (if 1000000 < c + 1 then 1000000 else c + 1) = r3 := by rw [← hr3]; split <;> omega
  clear hr1 hr2 hr3
  have b0 : (c == 0) = false := by simp [hc]
  go_enter Try.func28, Try.ntmps28
  go_wp2_with fail
  refine (H1.out _).mono ?_
  rintro e w1 ⟨rfl, G1⟩
  obtain ⟨k0, k1, k2, k3, z0, z1, z2, z3, f0, b1⟩ := HX.out w1 G1
  have B1 : Hid (Below w.heap.size w w1) := b1
  clear G1 b1 HX
  go_wp2_with fail
  refine (H2.out _).mono ?_
  rintro e w2 ⟨rfl, hw⟩
  subst hw
  go_wp2_with fail
  have KD : Hid (w2.drew.cell? ⟨w.heap.size, 0, none⟩ = some (.int .i64 m) ∧ w2.drew.cell? ⟨w.heap.size, 1, none⟩ = some (.int .i64 l) ∧ w2.drew.cell? ⟨w.heap.size, 2, none⟩ = some (.int .i64 h) ∧ w2.drew.cell? ⟨w.heap.size, 3, none⟩ = some (.int .i64 c)) := ⟨k0, k1, k2, k3⟩
  have KX : ∀ v0 v1 v2 v3, ((((w2.setCell ⟨w.heap.size + 1, 0, none⟩ v0).setCell ⟨w.heap.size + 1, 1, none⟩ v1).setCell ⟨w.heap.size + 1, 2, none⟩ v2).setCell ⟨w.heap.size + 1, 3, none⟩ v3).cell? ⟨w.heap.size, 0, none⟩ = some (.int .i64 m) ∧ ((((w2.setCell ⟨w.heap.size + 1, 0, none⟩ v0).setCell ⟨w.heap.size + 1, 1, none⟩ v1).setCell ⟨w.heap.size + 1, 2, none⟩ v2).setCell ⟨w.heap.size + 1, 3, none⟩ v3).cell? ⟨w.heap.size, 1, none⟩ = some (.int .i64 l) ∧ ((((w2.setCell ⟨w.heap.size + 1, 0, none⟩ v0).setCell ⟨w.heap.size + 1, 1, none⟩ v1).setCell ⟨w.heap.size + 1, 2, none⟩ v2).setCell ⟨w.heap.size + 1, 3, none⟩ v3).cell? ⟨w.heap.size, 2, none⟩ = some (.int .i64 h) ∧ ((((w2.setCell ⟨w.heap.size + 1, 0, none⟩ v0).setCell ⟨w.heap.size + 1, 1, none⟩ v1).setCell ⟨w.heap.size + 1, 2, none⟩ v2).setCell ⟨w.heap.size + 1, 3, none⟩ v3).cell? ⟨w.heap.size, 3, none⟩ = some (.int .i64 c) := fun v0 v1 v2 v3 => by
    have ne : ∀ i j : Nat, (⟨w.heap.size + 1, i, none⟩ : Addr) ≠ ⟨w.heap.size, j, none⟩ := fun i j e => by
      have := congrArg Addr.block e
      simp at this
    refine ⟨?_, ?_, ?_, ?_⟩ <;> rw [World.cell?_setCell_other _ _ _ _ (ne _ _), World.cell?_setCell_other _ _ _ _ (ne _ _), World.cell?_setCell_other _ _ _ _ (ne _ _), World.cell?_setCell_other _ _ _ _ (ne _ _)]
    · exact k0
    · exact k1
    · exact k2
    · exact k3
  have KW : Hid (∀ v0 v1 v2 v3, (((((w2.setCell ⟨w.heap.size + 1, 0, none⟩ v0).setCell ⟨w.heap.size + 1, 1, none⟩ v1).setCell ⟨w.heap.size + 1, 2, none⟩ v2).setCell ⟨w.heap.size + 1, 3, none⟩ v3).drew).cell? ⟨w.heap.size, 0, none⟩ = some (.int .i64 m) ∧ (((((w2.setCell ⟨w.heap.size + 1, 0, none⟩ v0).setCell ⟨w.heap.size + 1, 1, none⟩ v1).setCell ⟨w.heap.size + 1, 2, none⟩ v2).setCell ⟨w.heap.size + 1, 3, none⟩ v3).drew).cell? ⟨w.heap.size, 1, none⟩ = some (.int .i64 l) ∧ (((((w2.setCell ⟨w.heap.size + 1, 0, none⟩ v0).setCell ⟨w.heap.size + 1, 1, none⟩ v1).setCell ⟨w.heap.size + 1, 2, none⟩ v2).setCell ⟨w.heap.size + 1, 3, none⟩ v3).drew).cell? ⟨w.heap.size, 2, none⟩ = some (.int .i64 h) ∧ (((((w2.setCell ⟨w.heap.size + 1, 0, none⟩ v0).setCell ⟨w.heap.size + 1, 1, none⟩ v1).setCell ⟨w.heap.size + 1, 2, none⟩ v2).setCell ⟨w.heap.size + 1, 3, none⟩ v3).drew).cell? ⟨w.heap.size, 3, none⟩ = some (.int .i64 c)) := KX
  clear KX
  refine wp_region_held_drew (S := (fun wx => wx.cell? ⟨w.heap.size, 0, none⟩ = some (.int .i64 m) ∧ wx.cell? ⟨w.heap.size, 1, none⟩ = some (.int .i64 l) ∧ wx.cell? ⟨w.heap.size, 2, none⟩ = some (.int .i64 h) ∧ wx.cell? ⟨w.heap.size, 3, none⟩ = some (.int .i64 c))) (by kernel_rfl) ?_ (fun hH0 => ?_)
  · exact KD.out
  refine wpAnyH_take (i := 0) (v := ?v1) rfl (by kernel_rfl) (by kernel_rfl) (by kernel_rfl) (fun _ _ _ h => h) (Or.inl ⟨by rfl, ?hy1⟩) (by assumption) ?rest1
  case hy1 => (intro w hSw; (try dsimp only at hSw); go_simp; (try with_reducible rfl))
  refine wpAnyH_take (i := 1) (v := ?v2) rfl (by kernel_rfl) (by kernel_rfl) (by kernel_rfl) (fun _ _ _ h => h) (Or.inl ⟨by rfl, ?hy2⟩) (by assumption) ?rest2
  case hy2 => (intro w hSw; (try dsimp only at hSw); go_simp; (try with_reducible rfl))
  refine wpAnyH_take (i := 2) (v := ?v3) rfl (by kernel_rfl) (by kernel_rfl) (by kernel_rfl) (fun _ _ _ h => h) (Or.inl ⟨by rfl, ?hy3⟩) (by assumption) ?rest3
  case hy3 => (intro w hSw; (try dsimp only at hSw); go_simp; (try with_reducible rfl))
  refine wpAnyH_take (i := 3) (v := ?v4) rfl (by kernel_rfl) (by kernel_rfl) (by kernel_rfl) (fun _ _ _ h => h) (Or.inl ⟨by rfl, ?hy4⟩) (by assumption) ?rest4
  case hy4 => (intro w hSw; (try dsimp only at hSw); go_simp; (try with_reducible rfl))
  refine wpAnyH_take (i := 4) (v := ?v5) rfl (by kernel_rfl) (by kernel_rfl) (by kernel_rfl) (fun _ _ _ h => h) (Or.inl ⟨by rfl, ?hy5⟩) (by assumption) ?rest5
  case hy5 => (intro w hSw; (try dsimp only at hSw); go_simp; (try with_reducible rfl))
  refine wpAnyH_take (i := 5) (v := ?v6) rfl (by kernel_rfl) (by kernel_rfl) (by kernel_rfl) (fun _ _ _ h => h) (Or.inl ⟨by rfl, ?hy6⟩) (by assumption) ?rest6
  case hy6 => (intro w hSw; (try dsimp only at hSw); go_simp; (try with_reducible rfl))
  refine wpAnyH_take (i := 8) (v := ?v7) rfl (by kernel_rfl) (by kernel_rfl) (by kernel_rfl) (fun _ _ _ h => h) (Or.inl ⟨by rfl, ?hy7⟩) (by assumption) ?rest7
  case hy7 => (intro w hSw; (try dsimp only at hSw); go_simp; (try with_reducible rfl))
  refine wpAnyH_take (i := 9) (v := ?v8) rfl (by kernel_rfl) (by kernel_rfl) (by kernel_rfl) (fun _ _ _ h => h) (Or.inl ⟨by rfl, ?hy8⟩) (by assumption) ?rest8
  case hy8 => (intro w hSw; (try dsimp only at hSw); go_simp; (try with_reducible rfl))
  refine wpAnyH_take (i := 10) (v := ?v9) rfl (by kernel_rfl) (by kernel_rfl) (by kernel_rfl) (fun _ _ _ h => h) (Or.inl ⟨by rfl, ?hy9⟩) (by assumption) ?rest9
  case hy9 => (intro w hSw; (try dsimp only at hSw); go_simp; (try with_reducible rfl))
  refine wpAnyH_take (i := 11) (v := ?v10) rfl (by kernel_rfl) (by kernel_rfl) (by kernel_rfl) (fun _ _ _ h => h) (Or.inl ⟨by rfl, ?hy10⟩) (by assumption) ?rest10
  case hy10 => (intro w hSw; (try dsimp only at hSw); go_simp; (try with_reducible rfl))
  refine wpAnyH_take (i := 12) (v := ?v11) rfl (by kernel_rfl) (by kernel_rfl) (by kernel_rfl) (fun _ _ _ h => h) (Or.inl ⟨by rfl, ?hy11⟩) (by assumption) ?rest11
  case hy11 => (intro w hSw; (try dsimp only at hSw); go_simp; (try with_reducible rfl))
  refine wpAnyH_take (i := 13) (v := ?v12) rfl (by kernel_rfl) (by kernel_rfl) (by kernel_rfl) (fun _ _ _ h => h) (Or.inl ⟨by rfl, ?hy12⟩) (by assumption) ?rest12
  case hy12 => (intro w hSw; (try dsimp only at hSw); go_simp; (try with_reducible rfl))
  refine wpAnyH_take (i := 14) (v := ?v13) rfl (by kernel_rfl) (by kernel_rfl) (by kernel_rfl) (fun _ _ _ h => h) (Or.inl ⟨by rfl, ?hy13⟩) (by assumption) ?rest13
  case hy13 => (intro w hSw; (try dsimp only at hSw); go_simp; (try with_reducible rfl))
  refine wpAnyH_take (i := 15) (v := ?v14) rfl (by kernel_rfl) (by kernel_rfl) (by kernel_rfl) (fun _ _ _ h => h) (Or.inl ⟨by rfl, ?hy14⟩) (by assumption) ?rest14
  case hy14 => (intro w hSw; (try dsimp only at hSw); go_simp; (try with_reducible rfl))
  refine wpAnyH_take (i := 16) (v := ?v15) rfl (by kernel_rfl) (by kernel_rfl) (by kernel_rfl) (fun _ _ _ h => h) (Or.inl ⟨by rfl, ?hy15⟩) (by assumption) ?rest15
  case hy15 => (intro w hSw; (try dsimp only at hSw); go_simp; (try with_reducible rfl))
  refine wpAnyH_take (i := 17) (v := ?v16) rfl (by kernel_rfl) (by kernel_rfl) (by kernel_rfl) (fun _ _ _ h => h) (Or.inl ⟨by rfl, ?hy16⟩) (by assumption) ?rest16
  case hy16 => (intro w hSw; (try dsimp only at hSw); go_simp; (try with_reducible rfl))
  refine wpAnyH_take (i := 18) (v := ?v17) rfl (by kernel_rfl) (by kernel_rfl) (by kernel_rfl) (fun _ _ _ h => h) (Or.inl ⟨by rfl, ?hy17⟩) (by assumption) ?rest17
  case hy17 => (intro w hSw; (try dsimp only at hSw); go_simp; (try with_reducible rfl))
  refine wpAnyH_take (i := 19) (v := ?v18) rfl (by kernel_rfl) (by kernel_rfl) (by kernel_rfl) (fun _ _ _ h => h) (Or.inl ⟨by rfl, ?hy18⟩) (by assumption) ?rest18
  case hy18 => (intro w hSw; (try dsimp only at hSw); go_simp; (try with_reducible rfl))
  refine wpAnyH_ready (rs := [6]) (by kernel_rfl) (by simp) ?_
  refine AllReadyH.cons rfl (fun K hK => ?_) ?_
  · go_simp
    go_at_call 64
    (with_reducible refine (H3.out _).mono ?_)
    rintro e w' ⟨rfl, hw'⟩
    subst hw'
    refine hK.out _ _ ?_ (fun hH19 => ?_)
    · (try dsimp only)
      first | with_reducible exact KD.out | with_reducible exact KW.out _ _ _ _
    clear hK K hH0
    refine wpAnyH_take (i := 7) (v := ?v20) rfl (by kernel_rfl) (by kernel_rfl) (by kernel_rfl) (fun _ _ _ h => h) (Or.inl ⟨by rfl, ?hy20⟩) (by assumption) ?rest20
    case hy20 => (intro w hSw; (try dsimp only at hSw); go_simp; (try with_reducible rfl))
    refine wpAnyH_take (i := 20) (v := ?v21) rfl (by kernel_rfl) (by kernel_rfl) (by kernel_rfl) (fun _ _ _ h => h) (Or.inl ⟨by rfl, ?hy21⟩) (by assumption) ?rest21
    case hy21 => (intro w hSw; (try dsimp only at hSw); go_simp; (try with_reducible rfl))
    refine wpAnyH_ready (rs := [21]) (by kernel_rfl) (by simp) ?_
    refine AllReadyH.cons rfl (fun K hK => ?_) ?_
    · go_simp
      refine hK.out _ _ ?_ (fun hH22 => ?_)
      · (try dsimp only)
        first | with_reducible exact KD.out | with_reducible exact KW.out _ _ _ _
      clear hK K hH19
      refine wpAnyH_take (i := 22) (v := ?v23) rfl (by kernel_rfl) (by kernel_rfl) (by kernel_rfl) (fun _ _ _ h => h) (Or.inl ⟨by rfl, ?hy23⟩) (by assumption) ?rest23
      case hy23 => (intro w hSw; (try dsimp only at hSw); go_simp; (try with_reducible rfl))
      refine wpAnyH_done (by kernel_rfl) ?_ _
      obtain ⟨W, hW⟩ : ∃ W, W = (((w2.setCell ⟨w.heap.size + 1, 0, none⟩ (.int .i64 (m + q))).setCell ⟨w.heap.size + 1, 1, none⟩ (.int .i64 r1)).setCell ⟨w.heap.size + 1, 2, none⟩ (.int .i64 r2)).setCell ⟨w.heap.size + 1, 3, none⟩ (.int .i64 r3) := ⟨_, rfl⟩
      have st := set_four (.int .i64 (m + q)) (.int .i64 r1) (.int .i64 r2) (.int .i64 r3) z0 z1 z2 z3
      rw [← hW] at st
      obtain ⟨r0', r1', r2', r3', rb⟩ := st
      have XW : Hid (Below w.heap.size w W.drew) := (B1.out.trans (rb.mono (by omega))).drew
      have r0'' : W.drew.cell? ⟨w.heap.size + 1, 0, none⟩ = some (.int .i64 (m + q)) := r0'
      have r1'' : W.drew.cell? ⟨w.heap.size + 1, 1, none⟩ = some (.int .i64 r1) := r1'
      have r2'' : W.drew.cell? ⟨w.heap.size + 1, 2, none⟩ = some (.int .i64 r2) := r2'
      have r3'' : W.drew.cell? ⟨w.heap.size + 1, 3, none⟩ = some (.int .i64 r3) := r3'
      clear rb r0' r1' r2' r3' KW KD hH22
      rw [← hW]
      clear hW
      go_wp2
      (try simp only [Exit.inBlock, Exit.then])
      refine bodyPost_ret (v := .tuple #[.agg #[.int .i64 (m + q), .int .i64 r1, .int .i64 r2, .int .i64 r3], .int .i64 0]) (by simp [results, Try.results28, go_sem, r0'', r1'', r2'', r3'']; try rfl) rfl ?_
      exact ⟨rfl, XW.out⟩
    exact AllReadyH.nil
  exact AllReadyH.nil

set_option maxHeartbeats 1000000 in
theorem sMeterAdd_any (m l h c x : Int) (w : World) : Calls Try.prog 29 #[.agg #[.int .i64 m, .int .i64 l, .int .i64 h, .int .i64 c], .int .i64 x] w fun e w' => e = .returned (.tuple #[.agg #[.int .i64 (mv0 m l h c x), .int .i64 (mv1 m l h c x), .int .i64 (mv2 m l h c x), .int .i64 (mv3 m l h c x)], .int .i64 (mvC m l h c x)]) ∧ Below w.heap.size w w' := by
  have H1 : Hid (∀ w, Calls Try.prog 65 #[.agg #[.int .i64 m, .int .i64 l, .int .i64 h, .int .i64 c]] w fun e w' => e = .returned (.bool (dec (okM m l h c))) ∧ Grw w w') := fun w => sMeter_any _ _ _ _ w
  have H2 : Hid (∀ w, Calls Try.prog 66 #[.int .i64 x] w fun e w' => e = .returned (.bool (dec (okA x))) ∧ w' = w) := fun w => sValue_any _ w
  have HX : Hid (∀ w1, Grw ((w.alloc (.cells #[.int .i64 m, .int .i64 l, .int .i64 h, .int .i64 c] 56)).alloc (.cells #[.int .i64 0, .int .i64 0, .int .i64 0, .int .i64 0] 56)) w1 → w1.cell? ⟨w.heap.size, 0, none⟩ = some (.int .i64 m) ∧ w1.cell? ⟨w.heap.size, 1, none⟩ = some (.int .i64 l) ∧ w1.cell? ⟨w.heap.size, 2, none⟩ = some (.int .i64 h) ∧ w1.cell? ⟨w.heap.size, 3, none⟩ = some (.int .i64 c) ∧ w1.cell? ⟨w.heap.size + 1, 0, none⟩ = some (.int .i64 0) ∧ w1.cell? ⟨w.heap.size + 1, 1, none⟩ = some (.int .i64 0) ∧ w1.cell? ⟨w.heap.size + 1, 2, none⟩ = some (.int .i64 0) ∧ w1.cell? ⟨w.heap.size + 1, 3, none⟩ = some (.int .i64 0) ∧ (∀ i, w1.frozen? ⟨w.heap.size + 1, i, none⟩ = false) ∧ Below w.heap.size w w1) := fun w1 G1 => by
    have b1 := G1.below
    refine ⟨by rw [b1.cell (by simp; omega)]; simp, by rw [b1.cell (by simp; omega)]; simp, by rw [b1.cell (by simp; omega)]; simp, by rw [b1.cell (by simp; omega)]; simp, by rw [b1.cell (by simp)]; simp, by rw [b1.cell (by simp)]; simp, by rw [b1.cell (by simp)]; simp, by rw [b1.cell (by simp)]; simp, fun i => by rw [b1.frozen (by simp)]; simp, ?_⟩
    exact ((((Grw.refl _).alloc _).alloc _).trans G1).below
  by_cases hm : okM m l h c
  rotate_left
  · have e0 : mv0 m l h c x = 0 := if_neg (fun h => hm h.1)
    have e1 : mv1 m l h c x = 0 := if_neg (fun h => hm h.1)
    have e2 : mv2 m l h c x = 0 := if_neg (fun h => hm h.1)
    have e3 : mv3 m l h c x = 0 := if_neg (fun h => hm h.1)
    have e4 : mvC m l h c x = 1 := if_neg hm
    rw [e0, e1, e2, e3, e4]
    rw [dec_n hm] at H1
    clear e0 e1 e2 e3 e4 hm
    go_enter Try.func29, Try.ntmps29
    go_wp2_with fail
    refine (H1.out _).mono ?_
    rintro e w1 ⟨rfl, G1⟩
    obtain ⟨k0, k1, k2, k3, z0, z1, z2, z3, f0, b1⟩ := HX.out w1 G1
    have B1 : Hid (Below w.heap.size w w1) := b1
    clear G1 b1 HX
    obtain ⟨W, hW⟩ : ∃ W, W = (((w1.setCell ⟨w.heap.size + 1, 0, none⟩ (.int .i64 0)).setCell ⟨w.heap.size + 1, 1, none⟩ (.int .i64 0)).setCell ⟨w.heap.size + 1, 2, none⟩ (.int .i64 0)).setCell ⟨w.heap.size + 1, 3, none⟩ (.int .i64 0) := ⟨_, rfl⟩
    have st := set_four (.int .i64 0) (.int .i64 0) (.int .i64 0) (.int .i64 0) z0 z1 z2 z3
    rw [← hW] at st
    obtain ⟨r0, r1, r2, r3, rb⟩ := st
    have XW : Hid (Below w.heap.size w W) := B1.out.trans (rb.mono (by omega))
    clear rb
    go_wp2
    rw [← hW]
    clear hW
    (try simp only [Exit.inBlock, Exit.then])
    refine bodyPost_ret (v := .tuple #[.agg #[.int .i64 0, .int .i64 0, .int .i64 0, .int .i64 0], .int .i64 1]) (by simp [results, Try.results29, go_sem, r0, r1, r2, r3]; try rfl) rfl ?_
    exact ⟨rfl, XW.out⟩
  rw [dec_y hm] at H1
  by_cases hx : okA x
  rotate_left
  · have e0 : mv0 m l h c x = 0 := if_neg (fun h => hx h.2)
    have e1 : mv1 m l h c x = 0 := if_neg (fun h => hx h.2)
    have e2 : mv2 m l h c x = 0 := if_neg (fun h => hx h.2)
    have e3 : mv3 m l h c x = 0 := if_neg (fun h => hx h.2)
    have e4 : mvC m l h c x = 4 := by unfold mvC; rw [if_pos hm, if_neg hx]
    rw [e0, e1, e2, e3, e4]
    rw [dec_n hx] at H2
    clear e0 e1 e2 e3 e4 hm hx
    go_enter Try.func29, Try.ntmps29
    go_wp2_with fail
    refine (H1.out _).mono ?_
    rintro e w1 ⟨rfl, G1⟩
    obtain ⟨k0, k1, k2, k3, z0, z1, z2, z3, f0, b1⟩ := HX.out w1 G1
    have B1 : Hid (Below w.heap.size w w1) := b1
    clear G1 b1 HX
    go_wp2_with fail
    refine (H2.out _).mono ?_
    rintro e w2 ⟨rfl, hw⟩
    subst hw
    obtain ⟨W, hW⟩ : ∃ W, W = (((w2.setCell ⟨w.heap.size + 1, 0, none⟩ (.int .i64 0)).setCell ⟨w.heap.size + 1, 1, none⟩ (.int .i64 0)).setCell ⟨w.heap.size + 1, 2, none⟩ (.int .i64 0)).setCell ⟨w.heap.size + 1, 3, none⟩ (.int .i64 0) := ⟨_, rfl⟩
    have st := set_four (.int .i64 0) (.int .i64 0) (.int .i64 0) (.int .i64 0) z0 z1 z2 z3
    rw [← hW] at st
    obtain ⟨r0, r1, r2, r3, rb⟩ := st
    have XW : Hid (Below w.heap.size w W) := B1.out.trans (rb.mono (by omega))
    clear rb
    go_wp2
    rw [← hW]
    clear hW
    (try simp only [Exit.inBlock, Exit.then])
    refine bodyPost_ret (v := .tuple #[.agg #[.int .i64 0, .int .i64 0, .int .i64 0, .int .i64 0], .int .i64 4]) (by simp [results, Try.results29, go_sem, r0, r1, r2, r3]; try rfl) rfl ?_
    exact ⟨rfl, XW.out⟩
  rw [dec_y hx] at H2
  have e4 : mvC m l h c x = 0 := by unfold mvC; rw [if_pos hm, if_pos hx]
  rw [e4]
  clear e4
  by_cases hc : c = 0
  · have e0 : mv0 m l h c x = x := by unfold mv0; rw [if_pos ⟨hm, hx⟩, if_pos hc]
    have e1 : mv1 m l h c x = x := by unfold mv1; rw [if_pos ⟨hm, hx⟩, if_pos hc]
    have e2 : mv2 m l h c x = x := by unfold mv2; rw [if_pos ⟨hm, hx⟩, if_pos hc]
    have e3 : mv3 m l h c x = 1 := by unfold mv3; rw [if_pos ⟨hm, hx⟩, if_pos hc]
    rw [e0, e1, e2, e3]
    clear e0 e1 e2 e3 hm hx
    subst hc
    go_enter Try.func29, Try.ntmps29
    go_wp2_with fail
    refine (H1.out _).mono ?_
    rintro e w1 ⟨rfl, G1⟩
    obtain ⟨k0, k1, k2, k3, z0, z1, z2, z3, f0, b1⟩ := HX.out w1 G1
    have B1 : Hid (Below w.heap.size w w1) := b1
    clear G1 b1 HX
    go_wp2_with fail
    refine (H2.out _).mono ?_
    rintro e w2 ⟨rfl, hw⟩
    subst hw
    obtain ⟨W, hW⟩ : ∃ W, W = (((w2.setCell ⟨w.heap.size + 1, 0, none⟩ (.int .i64 x)).setCell ⟨w.heap.size + 1, 1, none⟩ (.int .i64 x)).setCell ⟨w.heap.size + 1, 2, none⟩ (.int .i64 x)).setCell ⟨w.heap.size + 1, 3, none⟩ (.int .i64 1) := ⟨_, rfl⟩
    have st := set_four (.int .i64 x) (.int .i64 x) (.int .i64 x) (.int .i64 1) z0 z1 z2 z3
    rw [← hW] at st
    obtain ⟨r0, r1, r2, r3, rb⟩ := st
    have XW : Hid (Below w.heap.size w W) := B1.out.trans (rb.mono (by omega))
    clear rb
    go_wp2
    rw [← hW]
    clear hW
    (try simp only [Exit.inBlock, Exit.then])
    refine bodyPost_ret (v := .tuple #[.agg #[.int .i64 x, .int .i64 x, .int .i64 x, .int .i64 1], .int .i64 0]) (by simp [results, Try.results29, go_sem, r0, r1, r2, r3]; try rfl) rfl ?_
    exact ⟨rfl, XW.out⟩
  have e0 : mv0 m l h c x = m + (x - m) / 4 := by unfold mv0; rw [if_pos ⟨hm, hx⟩, if_neg hc]
  have e1 : mv1 m l h c x = min l x := by unfold mv1; rw [if_pos ⟨hm, hx⟩, if_neg hc]
  have e2 : mv2 m l h c x = max h x := by unfold mv2; rw [if_pos ⟨hm, hx⟩, if_neg hc]
  have e3 : mv3 m l h c x = min (c + 1) 1000000 := by unfold mv3; rw [if_pos ⟨hm, hx⟩, if_neg hc]
  rw [e0, e1, e2, e3]
  clear e0 e1 e2 e3
  have hm' : 1 ≤ c ∧ c ≤ 1000000 ∧ okA l ∧ okA h ∧ l ≤ m ∧ m ≤ h := hm.elim (fun h => absurd h.2.2.2 hc) id
  obtain ⟨hc1, hc2, hl, hh, hlm, hmh⟩ := hm'
  unfold okA at hl hh hx
  clear hm
  have hw1 : IntKind.i64.wrap (x - m) = x - m := by rw [IntKind.wrap_i64]; omega
  have H3 : Hid (∀ w, Calls Try.prog 67 #[.int .i64 (IntKind.i64.wrap (x - m)), .int .i64 4] w fun e w' => e = .returned (.int .i64 ((x - m) / 4)) ∧ w' = w) := fun w => by rw [hw1]; exact sFloor_any (x - m) 4 (by omega) (by omega) (by omega) (by omega) w
  have hq : -2000000000 ≤ (x - m) / 4 ∧ (x - m) / 4 ≤ 2000000000 := by omega
  clear hw1
  generalize (x - m) / 4 = q at *
  have hw2 : IntKind.i64.wrap (m + q) = m + q := by rw [IntKind.wrap_i64]; omega
  have hw3 : IntKind.i64.wrap (c + 1) = c + 1 := by rw [IntKind.wrap_i64]; omega
  generalize hr1 : min l x = r1
  generalize hr2 : max h x = r2
  generalize hr3 : min (c + 1) 1000000 = r3
  have m1 : (if x < l then x else l) = r1 := by rw [← hr1]; split <;> omega
  have m2 : (if h < x then x else h) = r2 := by rw [← hr2]; split <;> omega
  have m3 : (if 1000000 < c + 1 then 1000000 else c + 1) = r3 := by rw [← hr3]; split <;> omega
  have m4 : (if c + 1 < 1000000 then c + 1 else 1000000) = r3 := by rw [← hr3]; split <;> omega
  clear hr1 hr2 hr3
  have b0 : (c == 0) = false := by simp [hc]
  go_enter Try.func29, Try.ntmps29
  go_wp2_with fail
  refine (H1.out _).mono ?_
  rintro e w1 ⟨rfl, G1⟩
  obtain ⟨k0, k1, k2, k3, z0, z1, z2, z3, f0, b1⟩ := HX.out w1 G1
  have B1 : Hid (Below w.heap.size w w1) := b1
  clear G1 b1 HX
  go_wp2_with fail
  refine (H2.out _).mono ?_
  rintro e w2 ⟨rfl, hw⟩
  subst hw
  go_wp2_with fail
  have KD : Hid (w2.drew.cell? ⟨w.heap.size, 0, none⟩ = some (.int .i64 m) ∧ w2.drew.cell? ⟨w.heap.size, 1, none⟩ = some (.int .i64 l) ∧ w2.drew.cell? ⟨w.heap.size, 2, none⟩ = some (.int .i64 h) ∧ w2.drew.cell? ⟨w.heap.size, 3, none⟩ = some (.int .i64 c)) := ⟨k0, k1, k2, k3⟩
  have KX : ∀ v0 v1 v2 v3, ((((w2.setCell ⟨w.heap.size + 1, 0, none⟩ v0).setCell ⟨w.heap.size + 1, 1, none⟩ v1).setCell ⟨w.heap.size + 1, 2, none⟩ v2).setCell ⟨w.heap.size + 1, 3, none⟩ v3).cell? ⟨w.heap.size, 0, none⟩ = some (.int .i64 m) ∧ ((((w2.setCell ⟨w.heap.size + 1, 0, none⟩ v0).setCell ⟨w.heap.size + 1, 1, none⟩ v1).setCell ⟨w.heap.size + 1, 2, none⟩ v2).setCell ⟨w.heap.size + 1, 3, none⟩ v3).cell? ⟨w.heap.size, 1, none⟩ = some (.int .i64 l) ∧ ((((w2.setCell ⟨w.heap.size + 1, 0, none⟩ v0).setCell ⟨w.heap.size + 1, 1, none⟩ v1).setCell ⟨w.heap.size + 1, 2, none⟩ v2).setCell ⟨w.heap.size + 1, 3, none⟩ v3).cell? ⟨w.heap.size, 2, none⟩ = some (.int .i64 h) ∧ ((((w2.setCell ⟨w.heap.size + 1, 0, none⟩ v0).setCell ⟨w.heap.size + 1, 1, none⟩ v1).setCell ⟨w.heap.size + 1, 2, none⟩ v2).setCell ⟨w.heap.size + 1, 3, none⟩ v3).cell? ⟨w.heap.size, 3, none⟩ = some (.int .i64 c) := fun v0 v1 v2 v3 => by
    have ne : ∀ i j : Nat, (⟨w.heap.size + 1, i, none⟩ : Addr) ≠ ⟨w.heap.size, j, none⟩ := fun i j e => by
      have := congrArg Addr.block e
      simp at this
    refine ⟨?_, ?_, ?_, ?_⟩ <;> rw [World.cell?_setCell_other _ _ _ _ (ne _ _), World.cell?_setCell_other _ _ _ _ (ne _ _), World.cell?_setCell_other _ _ _ _ (ne _ _), World.cell?_setCell_other _ _ _ _ (ne _ _)]
    · exact k0
    · exact k1
    · exact k2
    · exact k3
  have KW : Hid (∀ v0 v1 v2 v3, (((((w2.setCell ⟨w.heap.size + 1, 0, none⟩ v0).setCell ⟨w.heap.size + 1, 1, none⟩ v1).setCell ⟨w.heap.size + 1, 2, none⟩ v2).setCell ⟨w.heap.size + 1, 3, none⟩ v3).drew).cell? ⟨w.heap.size, 0, none⟩ = some (.int .i64 m) ∧ (((((w2.setCell ⟨w.heap.size + 1, 0, none⟩ v0).setCell ⟨w.heap.size + 1, 1, none⟩ v1).setCell ⟨w.heap.size + 1, 2, none⟩ v2).setCell ⟨w.heap.size + 1, 3, none⟩ v3).drew).cell? ⟨w.heap.size, 1, none⟩ = some (.int .i64 l) ∧ (((((w2.setCell ⟨w.heap.size + 1, 0, none⟩ v0).setCell ⟨w.heap.size + 1, 1, none⟩ v1).setCell ⟨w.heap.size + 1, 2, none⟩ v2).setCell ⟨w.heap.size + 1, 3, none⟩ v3).drew).cell? ⟨w.heap.size, 2, none⟩ = some (.int .i64 h) ∧ (((((w2.setCell ⟨w.heap.size + 1, 0, none⟩ v0).setCell ⟨w.heap.size + 1, 1, none⟩ v1).setCell ⟨w.heap.size + 1, 2, none⟩ v2).setCell ⟨w.heap.size + 1, 3, none⟩ v3).drew).cell? ⟨w.heap.size, 3, none⟩ = some (.int .i64 c)) := KX
  clear KX
  refine wp_region_held_drew (S := (fun wx => wx.cell? ⟨w.heap.size, 0, none⟩ = some (.int .i64 m) ∧ wx.cell? ⟨w.heap.size, 1, none⟩ = some (.int .i64 l) ∧ wx.cell? ⟨w.heap.size, 2, none⟩ = some (.int .i64 h) ∧ wx.cell? ⟨w.heap.size, 3, none⟩ = some (.int .i64 c))) (by kernel_rfl) ?_ (fun hH0 => ?_)
  · exact KD.out
  refine wpAnyH_take (i := 0) (v := ?v1) rfl (by kernel_rfl) (by kernel_rfl) (by kernel_rfl) (fun _ _ _ h => h) (Or.inl ⟨by rfl, ?hy1⟩) (by assumption) ?rest1
  case hy1 => (intro w hSw; (try dsimp only at hSw); go_simp; (try with_reducible rfl))
  refine wpAnyH_take (i := 1) (v := ?v2) rfl (by kernel_rfl) (by kernel_rfl) (by kernel_rfl) (fun _ _ _ h => h) (Or.inl ⟨by rfl, ?hy2⟩) (by assumption) ?rest2
  case hy2 => (intro w hSw; (try dsimp only at hSw); go_simp; (try with_reducible rfl))
  refine wpAnyH_take (i := 2) (v := ?v3) rfl (by kernel_rfl) (by kernel_rfl) (by kernel_rfl) (fun _ _ _ h => h) (Or.inl ⟨by rfl, ?hy3⟩) (by assumption) ?rest3
  case hy3 => (intro w hSw; (try dsimp only at hSw); go_simp; (try with_reducible rfl))
  refine wpAnyH_take (i := 3) (v := ?v4) rfl (by kernel_rfl) (by kernel_rfl) (by kernel_rfl) (fun _ _ _ h => h) (Or.inl ⟨by rfl, ?hy4⟩) (by assumption) ?rest4
  case hy4 => (intro w hSw; (try dsimp only at hSw); go_simp; (try with_reducible rfl))
  refine wpAnyH_take (i := 4) (v := ?v5) rfl (by kernel_rfl) (by kernel_rfl) (by kernel_rfl) (fun _ _ _ h => h) (Or.inl ⟨by rfl, ?hy5⟩) (by assumption) ?rest5
  case hy5 => (intro w hSw; (try dsimp only at hSw); go_simp; (try with_reducible rfl))
  refine wpAnyH_take (i := 5) (v := ?v6) rfl (by kernel_rfl) (by kernel_rfl) (by kernel_rfl) (fun _ _ _ h => h) (Or.inl ⟨by rfl, ?hy6⟩) (by assumption) ?rest6
  case hy6 => (intro w hSw; (try dsimp only at hSw); go_simp; (try with_reducible rfl))
  refine wpAnyH_take (i := 8) (v := ?v7) rfl (by kernel_rfl) (by kernel_rfl) (by kernel_rfl) (fun _ _ _ h => h) (Or.inl ⟨by rfl, ?hy7⟩) (by assumption) ?rest7
  case hy7 => (intro w hSw; (try dsimp only at hSw); go_simp; (try with_reducible rfl))
  refine wpAnyH_take (i := 9) (v := ?v8) rfl (by kernel_rfl) (by kernel_rfl) (by kernel_rfl) (fun _ _ _ h => h) (Or.inl ⟨by rfl, ?hy8⟩) (by assumption) ?rest8
  case hy8 => (intro w hSw; (try dsimp only at hSw); go_simp; (try with_reducible rfl))
  refine wpAnyH_take (i := 10) (v := ?v9) rfl (by kernel_rfl) (by kernel_rfl) (by kernel_rfl) (fun _ _ _ h => h) (Or.inl ⟨by rfl, ?hy9⟩) (by assumption) ?rest9
  case hy9 => (intro w hSw; (try dsimp only at hSw); go_simp; (try with_reducible rfl))
  refine wpAnyH_take (i := 11) (v := ?v10) rfl (by kernel_rfl) (by kernel_rfl) (by kernel_rfl) (fun _ _ _ h => h) (Or.inl ⟨by rfl, ?hy10⟩) (by assumption) ?rest10
  case hy10 => (intro w hSw; (try dsimp only at hSw); go_simp; (try with_reducible rfl))
  refine wpAnyH_take (i := 12) (v := ?v11) rfl (by kernel_rfl) (by kernel_rfl) (by kernel_rfl) (fun _ _ _ h => h) (Or.inl ⟨by rfl, ?hy11⟩) (by assumption) ?rest11
  case hy11 => (intro w hSw; (try dsimp only at hSw); go_simp; (try with_reducible rfl))
  refine wpAnyH_take (i := 13) (v := ?v12) rfl (by kernel_rfl) (by kernel_rfl) (by kernel_rfl) (fun _ _ _ h => h) (Or.inl ⟨by rfl, ?hy12⟩) (by assumption) ?rest12
  case hy12 => (intro w hSw; (try dsimp only at hSw); go_simp; (try with_reducible rfl))
  refine wpAnyH_take (i := 14) (v := ?v13) rfl (by kernel_rfl) (by kernel_rfl) (by kernel_rfl) (fun _ _ _ h => h) (Or.inl ⟨by rfl, ?hy13⟩) (by assumption) ?rest13
  case hy13 => (intro w hSw; (try dsimp only at hSw); go_simp; (try with_reducible rfl))
  refine wpAnyH_take (i := 15) (v := ?v14) rfl (by kernel_rfl) (by kernel_rfl) (by kernel_rfl) (fun _ _ _ h => h) (Or.inl ⟨by rfl, ?hy14⟩) (by assumption) ?rest14
  case hy14 => (intro w hSw; (try dsimp only at hSw); go_simp; (try with_reducible rfl))
  refine wpAnyH_take (i := 16) (v := ?v15) rfl (by kernel_rfl) (by kernel_rfl) (by kernel_rfl) (fun _ _ _ h => h) (Or.inl ⟨by rfl, ?hy15⟩) (by assumption) ?rest15
  case hy15 => (intro w hSw; (try dsimp only at hSw); go_simp; (try with_reducible rfl))
  refine wpAnyH_take (i := 17) (v := ?v16) rfl (by kernel_rfl) (by kernel_rfl) (by kernel_rfl) (fun _ _ _ h => h) (Or.inl ⟨by rfl, ?hy16⟩) (by assumption) ?rest16
  case hy16 => (intro w hSw; (try dsimp only at hSw); go_simp; (try with_reducible rfl))
  refine wpAnyH_take (i := 18) (v := ?v17) rfl (by kernel_rfl) (by kernel_rfl) (by kernel_rfl) (fun _ _ _ h => h) (Or.inl ⟨by rfl, ?hy17⟩) (by assumption) ?rest17
  case hy17 => (intro w hSw; (try dsimp only at hSw); go_simp; (try with_reducible rfl))
  refine wpAnyH_take (i := 19) (v := ?v18) rfl (by kernel_rfl) (by kernel_rfl) (by kernel_rfl) (fun _ _ _ h => h) (Or.inl ⟨by rfl, ?hy18⟩) (by assumption) ?rest18
  case hy18 => (intro w hSw; (try dsimp only at hSw); go_simp; (try with_reducible rfl))
  refine wpAnyH_ready (rs := [6]) (by kernel_rfl) (by simp) ?_
  refine AllReadyH.cons rfl (fun K hK => ?_) ?_
  · go_simp
    go_at_call 67
    (with_reducible refine (H3.out _).mono ?_)
    rintro e w' ⟨rfl, hw'⟩
    subst hw'
    refine hK.out _ _ ?_ (fun hH19 => ?_)
    · (try dsimp only)
      first | with_reducible exact KD.out | with_reducible exact KW.out _ _ _ _
    clear hK K hH0
    refine wpAnyH_take (i := 7) (v := ?v20) rfl (by kernel_rfl) (by kernel_rfl) (by kernel_rfl) (fun _ _ _ h => h) (Or.inl ⟨by rfl, ?hy20⟩) (by assumption) ?rest20
    case hy20 => (intro w hSw; (try dsimp only at hSw); go_simp; (try with_reducible rfl))
    refine wpAnyH_take (i := 20) (v := ?v21) rfl (by kernel_rfl) (by kernel_rfl) (by kernel_rfl) (fun _ _ _ h => h) (Or.inl ⟨by rfl, ?hy21⟩) (by assumption) ?rest21
    case hy21 => (intro w hSw; (try dsimp only at hSw); go_simp; (try with_reducible rfl))
    refine wpAnyH_ready (rs := [21]) (by kernel_rfl) (by simp) ?_
    refine AllReadyH.cons rfl (fun K hK => ?_) ?_
    · go_simp
      refine hK.out _ _ ?_ (fun hH22 => ?_)
      · (try dsimp only)
        first | with_reducible exact KD.out | with_reducible exact KW.out _ _ _ _
      clear hK K hH19
      refine wpAnyH_take (i := 22) (v := ?v23) rfl (by kernel_rfl) (by kernel_rfl) (by kernel_rfl) (fun _ _ _ h => h) (Or.inl ⟨by rfl, ?hy23⟩) (by assumption) ?rest23
      case hy23 => (intro w hSw; (try dsimp only at hSw); go_simp; (try with_reducible rfl))
      refine wpAnyH_done (by kernel_rfl) ?_ _
      obtain ⟨W, hW⟩ : ∃ W, W = (((w2.setCell ⟨w.heap.size + 1, 0, none⟩ (.int .i64 (m + q))).setCell ⟨w.heap.size + 1, 1, none⟩ (.int .i64 r1)).setCell ⟨w.heap.size + 1, 2, none⟩ (.int .i64 r2)).setCell ⟨w.heap.size + 1, 3, none⟩ (.int .i64 r3) := ⟨_, rfl⟩
      have st := set_four (.int .i64 (m + q)) (.int .i64 r1) (.int .i64 r2) (.int .i64 r3) z0 z1 z2 z3
      rw [← hW] at st
      obtain ⟨r0', r1', r2', r3', rb⟩ := st
      have XW : Hid (Below w.heap.size w W.drew) := (B1.out.trans (rb.mono (by omega))).drew
      have r0'' : W.drew.cell? ⟨w.heap.size + 1, 0, none⟩ = some (.int .i64 (m + q)) := r0'
      have r1'' : W.drew.cell? ⟨w.heap.size + 1, 1, none⟩ = some (.int .i64 r1) := r1'
      have r2'' : W.drew.cell? ⟨w.heap.size + 1, 2, none⟩ = some (.int .i64 r2) := r2'
      have r3'' : W.drew.cell? ⟨w.heap.size + 1, 3, none⟩ = some (.int .i64 r3) := r3'
      clear rb r0' r1' r2' r3' KW KD hH22
      rw [← hW]
      clear hW
      go_wp2
      (try simp only [Exit.inBlock, Exit.then])
      refine bodyPost_ret (v := .tuple #[.agg #[.int .i64 (m + q), .int .i64 r1, .int .i64 r2, .int .i64 r3], .int .i64 0]) (by simp [results, Try.results29, go_sem, r0'', r1'', r2'', r3'']; try rfl) rfl ?_
      exact ⟨rfl, XW.out⟩
    exact AllReadyH.nil
  exact AllReadyH.nil
end Go.Proofs.Ytfcdobicilediaa
