/- RequestText of the program, and the walk of its exact law. -/
import Derived.Test.YtbpdfkngkkopbaaDoorReqS
import Derived.Test.YtbpdfkngkkopbaaDoorNetT
namespace Go.Proofs.YtbpdfkngkkopbaaDoor
open Go.RowKit Go.PlainAid Go.Sort
set_option linter.unusedVariables false
set_option maxRecDepth 20000

/-- 'strings.Join' of a row of three. -/
theorem join3 (g : Nat) (a0 a1 a2 sep : ByteArray) (w : World) (c0 : w.cell? ⟨g, 0, none⟩ = some (.string a0)) (c1 : w.cell? ⟨g, 1, none⟩ = some (.string a1)) (c2 : w.cell? ⟨g, 2, none⟩ = some (.string a2)) (hz : a0.size + a1.size + a2.size + sep.size * 3 ≤ 1000000) :
    Calls Tryd.prog 34 #[.slice (some ⟨g, 0, none⟩) 3 3, .string sep] w fun e w' => e = .returned (.string (jnT [a0, a1, a2] sep)) ∧ Below w.heap.size w w' := by
  refine Tryd.strings_Join g 0 3 [a0, a1, a2] sep w (fun j x hx => ?_) (World.block_lt_of_cell? w _ c0) (by simp) (by simp) ?_
  · match j, hx with
    | 0, hx => cases hx; exact c0
    | 1, hx => cases hx; exact c1
    | 2, hx => cases hx; exact c2
  · have := jnT_size sep 3 [a0, a1, a2] rfl
    have e : (Lib.join ([a0, a1, a2].map (·.data.toList)) sep.data.toList).length = (jnT [a0, a1, a2] sep).size := by simp [jnT, ByteArray.size]
    rw [e]
    simp [szT] at this
    omega
theorem lenLine_any (bo : ByteArray) (w : World) (hb : bo.size < 100) :
    Calls Tryd.prog 45 #[.string bo] w fun e w' => e = .returned (.string (⟨#[67, 111, 110, 116, 101, 110, 116, 45, 76, 101, 110, 103, 116, 104, 58, 32]⟩ ++ strOfNums (dgs bo.size))) ∧ w' = w := by
  have T : Hid (∀ w, Calls Tryd.prog 43 #[.int .i64 (bo.size : Int)] w fun e w' => e = .returned (.string (strOfNums (dgs bo.size))) ∧ w' = w) := fun w => by
    rw [← dec_str]
    exact Tryd.strconv_Itoa_small bo.size hb w
  have hD := dgs_2 bo.size (by omega)
  generalize strOfNums (dgs bo.size) = D at T hD ⊢
  have ha : ∀ wx : World, (Op.stringOp .add ⟨#[67, 111, 110, 116, 101, 110, 116, 45, 76, 101, 110, 103, 116, 104, 58, 32]⟩ D).run Tryd.prog wx = .ok (.string (⟨#[67, 111, 110, 116, 101, 110, 116, 45, 76, 101, 110, 103, 116, 104, 58, 32]⟩ ++ D)) wx := fun wx => run_string_add_sum (P := Tryd.prog) (w := wx) _ _ (by show 16 + _ ≤ _; omega)
  go_enter Tryd.func45, Tryd.ntmps45
  go_wp2_with fail
  refine (T.out _).mono ?_
  rintro e w1 ⟨rfl, hw⟩
  subst hw
  go_wp2
  go_ret
  exact ⟨rfl, rfl⟩
theorem message_any (g : Nat) (c : Nat) (lines : List ByteArray) (bo : ByteArray) (w : World) (hJ : Calls Tryd.prog 34 #[.slice (some ⟨g, 0, none⟩) c c, .string ⟨#[13, 10]⟩] w fun e w' => e = .returned (.string (jnT lines ⟨#[13, 10]⟩)) ∧ Below w.heap.size w w') (hz : (jnT lines ⟨#[13, 10]⟩).size + bo.size ≤ 1000000) :
    Calls Tryd.prog 44 #[.slice (some ⟨g, 0, none⟩) c c, .string bo] w fun e w' => e = .returned (.string (jnT lines ⟨#[13, 10]⟩ ++ ⟨#[13, 10, 13, 10]⟩ ++ bo)) ∧ Below w.heap.size w w' := by
  have HJ : Hid (Calls Tryd.prog 34 #[.slice (some ⟨g, 0, none⟩) c c, .string ⟨#[13, 10]⟩] w fun e w' => e = .returned (.string (jnT lines ⟨#[13, 10]⟩)) ∧ Below w.heap.size w w') := hJ
  clear hJ
  generalize jnT lines ⟨#[13, 10]⟩ = J at HJ hz ⊢
  have ha : ∀ wx : World, (Op.stringOp .add J ⟨#[13, 10, 13, 10]⟩).run Tryd.prog wx = .ok (.string (J ++ ⟨#[13, 10, 13, 10]⟩)) wx := fun wx => run_string_add_sum (P := Tryd.prog) (w := wx) _ _ (by show _ + 4 ≤ _; omega)
  have hb : ∀ wx : World, (Op.stringOp .add (J ++ ⟨#[13, 10, 13, 10]⟩) bo).run Tryd.prog wx = .ok (.string (J ++ ⟨#[13, 10, 13, 10]⟩ ++ bo)) wx := fun wx => run_string_add_sum (P := Tryd.prog) (w := wx) _ _ (by rw [ByteArray.size_append]; show _ + 4 + _ ≤ _; omega)
  go_enter Tryd.func44, Tryd.ntmps44
  go_wp2_with fail
  refine HJ.out.mono ?_
  rintro e w1 ⟨rfl, b1⟩
  go_wp2
  go_ret
  exact ⟨rfl, b1⟩
set_option maxHeartbeats 1000000 in
theorem requestOK_any (me pa bo : ByteArray) (w : World) (hp : pa.size ≤ 9223372036854775807) (hb : bo.size ≤ 9223372036854775807) :
    Calls Tryd.prog 53 #[.agg #[.string me, .string pa, .string bo]] w fun e w' => e = .returned (.bool (rqB me pa bo)) ∧ Grw w w' := by
  have T1 : Hid (∀ w, Calls Tryd.prog 85 #[.string me] w fun e w' => e = .returned (.bool (meB me)) ∧ w' = w) := fun w => methodOK_any me w
  have T2 : Hid (∀ w, Calls Tryd.prog 42 #[.string pa] w fun e w' => e = .returned (.bool (ptB pa)) ∧ w' = w) := fun w => pathOK_any pa w hp
  have BW : Hid (Grw w (w.alloc (.cells #[.string me, .string pa, .string bo] 36))) := (Grw.refl _).alloc _
  have ht : decide ((bo.size : Int) ≤ 80) = !decide ((80 : Int) < (bo.size : Int)) := by
    by_cases h : (80 : Int) < (bo.size : Int)
    · rw [decide_eq_true h, decide_eq_false (by omega)]; rfl
    · rw [decide_eq_false h, decide_eq_true (by omega)]; rfl
  unfold rqB
  generalize meB me = t1 at T1 ⊢
  generalize ptB pa = t2 at T2 ⊢
  generalize (!decide ((80 : Int) < (bo.size : Int))) = t3 at ht ⊢
  cases t1 with
  | false =>
    go_enter Tryd.func53, Tryd.ntmps53
    go_wp2_with fail
    refine (T1.out _).mono ?_
    rintro e w1 ⟨rfl, hw⟩
    subst hw
    go_wp2
    go_ret
    exact ⟨rfl, BW.out⟩
  | true =>
    cases t2 with
    | false =>
      go_enter Tryd.func53, Tryd.ntmps53
      go_wp2_with fail
      refine (T1.out _).mono ?_
      rintro e w1 ⟨rfl, hw⟩
      subst hw
      go_wp2_with fail
      refine (T2.out _).mono ?_
      rintro e w1 ⟨rfl, hw⟩
      subst hw
      go_wp2
      go_ret
      exact ⟨rfl, BW.out⟩
    | true =>
      go_enter Tryd.func53, Tryd.ntmps53
      go_wp2_with fail
      refine (T1.out _).mono ?_
      rintro e w1 ⟨rfl, hw⟩
      subst hw
      go_wp2_with fail
      refine (T2.out _).mono ?_
      rintro e w1 ⟨rfl, hw⟩
      subst hw
      go_wp2
      go_ret
      exact ⟨by first | rfl | simp [ht], BW.out⟩
set_option maxHeartbeats 2000000 in
theorem implRq_any (me pa bo : ByteArray) (w : World) (hp : pa.size ≤ 9223372036854775807) (hb : bo.size ≤ 9223372036854775807) :
    Calls Tryd.prog 26 #[.agg #[.string me, .string pa, .string bo]] w fun e w' => e = .returned (.tuple #[.string (rqS me pa bo), .int .i64 (rqC me pa bo)]) ∧ Below w.heap.size w w' := by
  have T1 : Hid (∀ w, Calls Tryd.prog 53 #[.agg #[.string me, .string pa, .string bo]] w fun e w' => e = .returned (.bool (rqB me pa bo)) ∧ Grw w w') := fun w => requestOK_any me pa bo w hp hb
  have BW : Hid (Below w.heap.size w (w.alloc (.cells #[.string me, .string pa, .string bo] 36))) := (Below.refl _ _).alloc (Nat.le_refl _) _
  cases h1 : rqB me pa bo with
  | false =>
    have E1 : rqS me pa bo = ⟨#[]⟩ := by unfold rqS; rw [h1]; rfl
    have E2 : rqC me pa bo = 1 := by unfold rqC; rw [h1]; rfl
    rw [E1, E2]
    rw [h1] at T1
    clear h1 E1 E2
    go_enter Tryd.func26, Tryd.ntmps26
    go_wp2_with fail
    refine (T1.out _).mono ?_
    rintro e w1 ⟨rfl, g1⟩
    have B1 : Hid (Below w.heap.size w w1) := BW.out.trans (g1.below.mono (by simp))
    clear g1
    go_wp2
    go_ret2
    exact ⟨rfl, B1.out⟩
  | true =>
    have E1 : rqS me pa bo = rqT me pa bo := by unfold rqS; rw [if_pos h1]
    have E2 : rqC me pa bo = 0 := by unfold rqC; rw [if_pos h1]
    have h1' := h1
    unfold rqB at h1'
    simp only [Bool.and_eq_true, Bool.not_eq_true', decide_eq_false_iff_not] at h1'
    have zm := meB_len h1'.1.1
    have zp := ptB_len h1'.1.2
    have zb : bo.size ≤ 80 := by omega
    have EQ : Hid (rqT me pa bo = jnT [jnT [me, pa, ⟨#[72, 84, 84, 80, 47, 49, 46, 49]⟩] ⟨#[32]⟩, ⟨#[72, 111, 115, 116, 58, 32, 112, 111, 114, 116, 97, 108]⟩, ⟨#[67, 111, 110, 116, 101, 110, 116, 45, 76, 101, 110, 103, 116, 104, 58, 32]⟩ ++ strOfNums (dgs bo.size)] ⟨#[13, 10]⟩ ++ ⟨#[13, 10, 13, 10]⟩ ++ bo) := (rqT_join me pa bo _).symm
    rw [E1, E2, EQ.out]
    rw [h1] at T1
    clear h1 h1' E1 E2 EQ
    have TL : Hid (∀ w, Calls Tryd.prog 45 #[.string bo] w fun e w' => e = .returned (.string (⟨#[67, 111, 110, 116, 101, 110, 116, 45, 76, 101, 110, 103, 116, 104, 58, 32]⟩ ++ strOfNums (dgs bo.size))) ∧ w' = w) := fun w => lenLine_any bo w (by omega)
    have hD := dgs_2 bo.size (by omega)
    have hL : (⟨#[67, 111, 110, 116, 101, 110, 116, 45, 76, 101, 110, 103, 116, 104, 58, 32]⟩ ++ strOfNums (dgs bo.size)).size ≤ 19 := by rw [ByteArray.size_append]; show 16 + _ ≤ _; omega
    generalize ⟨#[67, 111, 110, 116, 101, 110, 116, 45, 76, 101, 110, 103, 116, 104, 58, 32]⟩ ++ strOfNums (dgs bo.size) = LL at TL hL ⊢
    have J1 : Hid (∀ g w, w.cell? ⟨g, 0, none⟩ = some (.string me) → w.cell? ⟨g, 1, none⟩ = some (.string pa) → w.cell? ⟨g, 2, none⟩ = some (.string ⟨#[72, 84, 84, 80, 47, 49, 46, 49]⟩) → Calls Tryd.prog 34 #[.slice (some ⟨g, 0, none⟩) 3 3, .string ⟨#[32]⟩] w fun e w' => e = .returned (.string (jnT [me, pa, ⟨#[72, 84, 84, 80, 47, 49, 46, 49]⟩] ⟨#[32]⟩)) ∧ Below w.heap.size w w') := fun g w a b c => join3 g _ _ _ _ w a b c (by show _ + _ + 8 + 1 * 3 ≤ _; omega)
    have hJ1 : (jnT [me, pa, ⟨#[72, 84, 84, 80, 47, 49, 46, 49]⟩] ⟨#[32]⟩).size ≤ 60 := by
      have := jnT_size ⟨#[32]⟩ 3 [me, pa, ⟨#[72, 84, 84, 80, 47, 49, 46, 49]⟩] rfl
      have e8 : (⟨#[72, 84, 84, 80, 47, 49, 46, 49]⟩ : ByteArray).size = 8 := rfl
      have e1 : (⟨#[32]⟩ : ByteArray).size = 1 := rfl
      simp [szT, e8, e1] at this
      omega
    generalize jnT [me, pa, ⟨#[72, 84, 84, 80, 47, 49, 46, 49]⟩] ⟨#[32]⟩ = FL at J1 hJ1 ⊢
    have M1 : Hid (∀ g w, w.cell? ⟨g, 0, none⟩ = some (.string FL) → w.cell? ⟨g, 1, none⟩ = some (.string ⟨#[72, 111, 115, 116, 58, 32, 112, 111, 114, 116, 97, 108]⟩) → w.cell? ⟨g, 2, none⟩ = some (.string LL) → Calls Tryd.prog 44 #[.slice (some ⟨g, 0, none⟩) 3 3, .string bo] w fun e w' => e = .returned (.string (jnT [FL, ⟨#[72, 111, 115, 116, 58, 32, 112, 111, 114, 116, 97, 108]⟩, LL] ⟨#[13, 10]⟩ ++ ⟨#[13, 10, 13, 10]⟩ ++ bo)) ∧ Below w.heap.size w w') := fun g w a b c => by
      have e12 : (⟨#[72, 111, 115, 116, 58, 32, 112, 111, 114, 116, 97, 108]⟩ : ByteArray).size = 12 := rfl
      have e2 : (⟨#[13, 10]⟩ : ByteArray).size = 2 := rfl
      have hz := jnT_size ⟨#[13, 10]⟩ 3 [FL, ⟨#[72, 111, 115, 116, 58, 32, 112, 111, 114, 116, 97, 108]⟩, LL] rfl
      simp [szT, e12, e2] at hz
      exact message_any g 3 _ bo w (join3 g _ _ _ _ w a b c (by rw [e12, e2]; omega)) (by omega)
    generalize jnT [FL, ⟨#[72, 111, 115, 116, 58, 32, 112, 111, 114, 116, 97, 108]⟩, LL] ⟨#[13, 10]⟩ ++ ⟨#[13, 10, 13, 10]⟩ ++ bo = Z at M1 ⊢
    go_enter Tryd.func26, Tryd.ntmps26
    go_wp2_with fail
    refine (T1.out _).mono ?_
    rintro e w1 ⟨rfl, g1⟩
    have k0 : w1.cell? ⟨w.heap.size, 0, none⟩ = some (.string me) := g1.keep (by simp [go_sem])
    have k1 : w1.cell? ⟨w.heap.size, 1, none⟩ = some (.string pa) := g1.keep (by simp [go_sem])
    have k2 : w1.cell? ⟨w.heap.size, 2, none⟩ = some (.string bo) := g1.keep (by simp [go_sem])
    have B1 : Hid (Below w.heap.size w w1) := BW.out.trans (g1.below.mono (by simp))
    clear g1 T1 BW
    go_wp2_with fail
    refine (J1.out _ _ (by simp [go_sem]) (by simp [go_sem]) (by simp [go_sem])).mono ?_
    rintro e w2 ⟨rfl, b2⟩
    have m2 : w2.cell? ⟨w.heap.size, 2, none⟩ = some (.string bo) := bkeep b2 (acell k2 _)
    have B2 : Hid (Below w.heap.size w w2) := (B1.out.alloc B1.out.size _).trans (b2.mono (by have := B1.out.size; simp; omega))
    clear b2 B1 k0 k1 k2 J1
    have SS : Hid (w2.drew.cell? ⟨w.heap.size, 2, none⟩ = some (.string bo) ∧ KpB w w2.drew) := ⟨m2, ⟨B2.out.drew⟩⟩
    have SX : Hid (∀ wx wy, Below wx.heap.size wx wy → (wx.cell? ⟨w.heap.size, 2, none⟩ = some (.string bo) ∧ KpB w wx) → (wy.cell? ⟨w.heap.size, 2, none⟩ = some (.string bo) ∧ KpB w wy)) := fun wx wy hb h => ⟨bkeep hb h.1, ⟨h.2.out.trans (hb.mono h.2.out.size)⟩⟩
    have SA : Hid (∀ wx o, (wx.cell? ⟨w.heap.size, 2, none⟩ = some (.string bo) ∧ KpB w wx) → ((wx.alloc o).cell? ⟨w.heap.size, 2, none⟩ = some (.string bo) ∧ KpB w (wx.alloc o))) := fun wx o h => ⟨acell h.1 _, ⟨h.2.out.alloc h.2.out.size _⟩⟩
    clear m2
    go_wp2_with fail
    go_region_held3 (fun wx => wx.cell? ⟨w.heap.size, 2, none⟩ = some (.string bo) ∧ KpB w wx)
      (first | exact SS.out | exact SX.out _ _ b6 (by assumption) | exact SA.out _ _ (by assumption))
      (first | (go_at_call 45; (with_reducible refine (TL.out _).mono ?_); rintro e w' ⟨rfl, hw⟩; have hw2 := hw.symm; clear hw; subst hw2) | (go_at_call 44; refine (M1.out _ _ (by simp [go_sem]) (by simp [go_sem]) (by simp [go_sem])).mono ?_; rintro e w6 ⟨rfl, b6⟩))
    have B6 : Hid (Below w.heap.size w w6) := (by assumption : _ ∧ KpB w w6).2.out
    clear SS SX SA b6
    go_wp2
    go_ret2
    exact ⟨rfl, B6.out⟩
end Go.Proofs.YtbpdfkngkkopbaaDoor
