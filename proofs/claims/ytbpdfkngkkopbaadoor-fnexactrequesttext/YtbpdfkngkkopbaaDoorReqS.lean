/- RequestText of both sides. -/
import Derived.Test.YtbpdfkngkkopbaaDoorPathW
import Derived.Test.YtbpdfkngkkopbaaDoorDigits
import Derived.Test.YtbpdfkngkkopbaaDoorAddressImpl
namespace Go.Proofs.YtbpdfkngkkopbaaDoor
open Go.RowKit Go.PlainAid Go.Sort
set_option linter.unusedVariables false
set_option maxRecDepth 20000

/-- A request's text. -/
def rqT (me pa bo : ByteArray) : ByteArray := me ++ ⟨#[32]⟩ ++ pa ++ ⟨#[32, 72, 84, 84, 80, 47, 49, 46, 49, 13, 10, 72, 111, 115, 116, 58, 32, 112, 111, 114, 116, 97, 108, 13, 10, 67, 111, 110, 116, 101, 110, 116, 45, 76, 101, 110, 103, 116, 104, 58, 32]⟩ ++ strOfNums (dgs bo.size) ++ ⟨#[13, 10, 13, 10]⟩ ++ bo
theorem szs_nil (x : List UInt8) : (⟨x.toArray⟩ : ByteArray).size = x.length := by simp [ByteArray.size]
theorem dgs_2 (n : Nat) (h : n < 1000) : (strOfNums (dgs n)).size ≤ 3 := by rw [strOfNums_size]; exact (dgs_len 2 n (by omega)).2
theorem rqT_join (me pa bo D : ByteArray) : jnT [jnT [me, pa, ⟨#[72, 84, 84, 80, 47, 49, 46, 49]⟩] ⟨#[32]⟩, ⟨#[72, 111, 115, 116, 58, 32, 112, 111, 114, 116, 97, 108]⟩, ⟨#[67, 111, 110, 116, 101, 110, 116, 45, 76, 101, 110, 103, 116, 104, 58, 32]⟩ ++ D] ⟨#[13, 10]⟩ ++ ⟨#[13, 10, 13, 10]⟩ ++ bo = me ++ ⟨#[32]⟩ ++ pa ++ ⟨#[32, 72, 84, 84, 80, 47, 49, 46, 49, 13, 10, 72, 111, 115, 116, 58, 32, 112, 111, 114, 116, 97, 108, 13, 10, 67, 111, 110, 116, 101, 110, 116, 45, 76, 101, 110, 103, 116, 104, 58, 32]⟩ ++ D ++ ⟨#[13, 10, 13, 10]⟩ ++ bo := by
  apply ba_ext
  simp [jnT, Lib.join_cons, Lib.joinTail]
set_option maxHeartbeats 1000000 in
theorem l11Text_any (me pa bo : ByteArray) (w : World) (hm : me.size ≤ 4) (hp : pa.size ≤ 40) (hb : bo.size ≤ 80) :
    Calls Tryd.prog 52 #[.agg #[.string me, .string pa, .string bo]] w fun e w' => e = .returned (.string (rqT me pa bo)) ∧ Below w.heap.size w w' := by
  have TD : Hid (∀ w, Calls Tryd.prog 74 #[.int .i64 (bo.size : Int)] w fun e w' => e = .returned (.string (strOfNums (dgs bo.size))) ∧ Below w.heap.size w w') := fun w => l00Digits_any bo.size w (by omega)
  have hD := dgs_2 bo.size (by omega)
  unfold rqT
  generalize strOfNums (dgs bo.size) = D at TD hD ⊢
  have z1 : (⟨#[32]⟩ : ByteArray).size = 1 := rfl
  have z2 : (⟨#[32, 72, 84, 84, 80, 47, 49, 46, 49, 13, 10, 72, 111, 115, 116, 58, 32, 112, 111, 114, 116, 97, 108, 13, 10, 67, 111, 110, 116, 101, 110, 116, 45, 76, 101, 110, 103, 116, 104, 58, 32]⟩ : ByteArray).size = 41 := rfl
  have z3 : (⟨#[13, 10, 13, 10]⟩ : ByteArray).size = 4 := rfl
  have haa0 : ∀ wx : World, (Op.stringOp .add (me) (⟨#[32]⟩)).run Tryd.prog wx = .ok (.string (me ++ ⟨#[32]⟩)) wx := fun wx => run_string_add_sum (P := Tryd.prog) (w := wx) _ _ (by (repeat rw [ByteArray.size_append]); omega)
  have haa1 : ∀ wx : World, (Op.stringOp .add (me ++ ⟨#[32]⟩) (pa)).run Tryd.prog wx = .ok (.string (me ++ ⟨#[32]⟩ ++ pa)) wx := fun wx => run_string_add_sum (P := Tryd.prog) (w := wx) _ _ (by (repeat rw [ByteArray.size_append]); omega)
  have haa2 : ∀ wx : World, (Op.stringOp .add (me ++ ⟨#[32]⟩ ++ pa) (⟨#[32, 72, 84, 84, 80, 47, 49, 46, 49, 13, 10, 72, 111, 115, 116, 58, 32, 112, 111, 114, 116, 97, 108, 13, 10, 67, 111, 110, 116, 101, 110, 116, 45, 76, 101, 110, 103, 116, 104, 58, 32]⟩)).run Tryd.prog wx = .ok (.string (me ++ ⟨#[32]⟩ ++ pa ++ ⟨#[32, 72, 84, 84, 80, 47, 49, 46, 49, 13, 10, 72, 111, 115, 116, 58, 32, 112, 111, 114, 116, 97, 108, 13, 10, 67, 111, 110, 116, 101, 110, 116, 45, 76, 101, 110, 103, 116, 104, 58, 32]⟩)) wx := fun wx => run_string_add_sum (P := Tryd.prog) (w := wx) _ _ (by (repeat rw [ByteArray.size_append]); omega)
  have haa3 : ∀ wx : World, (Op.stringOp .add (me ++ ⟨#[32]⟩ ++ pa ++ ⟨#[32, 72, 84, 84, 80, 47, 49, 46, 49, 13, 10, 72, 111, 115, 116, 58, 32, 112, 111, 114, 116, 97, 108, 13, 10, 67, 111, 110, 116, 101, 110, 116, 45, 76, 101, 110, 103, 116, 104, 58, 32]⟩) (D)).run Tryd.prog wx = .ok (.string (me ++ ⟨#[32]⟩ ++ pa ++ ⟨#[32, 72, 84, 84, 80, 47, 49, 46, 49, 13, 10, 72, 111, 115, 116, 58, 32, 112, 111, 114, 116, 97, 108, 13, 10, 67, 111, 110, 116, 101, 110, 116, 45, 76, 101, 110, 103, 116, 104, 58, 32]⟩ ++ D)) wx := fun wx => run_string_add_sum (P := Tryd.prog) (w := wx) _ _ (by (repeat rw [ByteArray.size_append]); omega)
  have haa4 : ∀ wx : World, (Op.stringOp .add (me ++ ⟨#[32]⟩ ++ pa ++ ⟨#[32, 72, 84, 84, 80, 47, 49, 46, 49, 13, 10, 72, 111, 115, 116, 58, 32, 112, 111, 114, 116, 97, 108, 13, 10, 67, 111, 110, 116, 101, 110, 116, 45, 76, 101, 110, 103, 116, 104, 58, 32]⟩ ++ D) (⟨#[13, 10, 13, 10]⟩)).run Tryd.prog wx = .ok (.string (me ++ ⟨#[32]⟩ ++ pa ++ ⟨#[32, 72, 84, 84, 80, 47, 49, 46, 49, 13, 10, 72, 111, 115, 116, 58, 32, 112, 111, 114, 116, 97, 108, 13, 10, 67, 111, 110, 116, 101, 110, 116, 45, 76, 101, 110, 103, 116, 104, 58, 32]⟩ ++ D ++ ⟨#[13, 10, 13, 10]⟩)) wx := fun wx => run_string_add_sum (P := Tryd.prog) (w := wx) _ _ (by (repeat rw [ByteArray.size_append]); omega)
  have haa5 : ∀ wx : World, (Op.stringOp .add (me ++ ⟨#[32]⟩ ++ pa ++ ⟨#[32, 72, 84, 84, 80, 47, 49, 46, 49, 13, 10, 72, 111, 115, 116, 58, 32, 112, 111, 114, 116, 97, 108, 13, 10, 67, 111, 110, 116, 101, 110, 116, 45, 76, 101, 110, 103, 116, 104, 58, 32]⟩ ++ D ++ ⟨#[13, 10, 13, 10]⟩) (bo)).run Tryd.prog wx = .ok (.string (me ++ ⟨#[32]⟩ ++ pa ++ ⟨#[32, 72, 84, 84, 80, 47, 49, 46, 49, 13, 10, 72, 111, 115, 116, 58, 32, 112, 111, 114, 116, 97, 108, 13, 10, 67, 111, 110, 116, 101, 110, 116, 45, 76, 101, 110, 103, 116, 104, 58, 32]⟩ ++ D ++ ⟨#[13, 10, 13, 10]⟩ ++ bo)) wx := fun wx => run_string_add_sum (P := Tryd.prog) (w := wx) _ _ (by (repeat rw [ByteArray.size_append]); omega)
  clear z1 z2 z3
  have c0 : (w.alloc (.cells #[.string me, .string pa, .string bo] 36)).cell? ⟨w.heap.size, 0, none⟩ = some (.string me) := by simp [go_sem]
  have c1 : (w.alloc (.cells #[.string me, .string pa, .string bo] 36)).cell? ⟨w.heap.size, 1, none⟩ = some (.string pa) := by simp [go_sem]
  have c2 : (w.alloc (.cells #[.string me, .string pa, .string bo] 36)).cell? ⟨w.heap.size, 2, none⟩ = some (.string bo) := by simp [go_sem]
  go_enter Tryd.func52, Tryd.ntmps52
  go_wp2_with fail
  have BW : Hid (Below w.heap.size w (w.alloc (.cells #[.string me, .string pa, .string bo] 36))) := (Below.refl _ _).alloc (Nat.le_refl _) _
  generalize w.alloc (.cells #[.string me, .string pa, .string bo] 36) = W at c0 c1 c2 BW ⊢
  have SS : Hid (W.drew.cell? ⟨w.heap.size, 0, none⟩ = some (.string me) ∧ W.drew.cell? ⟨w.heap.size, 1, none⟩ = some (.string pa) ∧ W.drew.cell? ⟨w.heap.size, 2, none⟩ = some (.string bo) ∧ KpB w W.drew) := ⟨c0, c1, c2, ⟨BW.out.drew⟩⟩
  have SX : Hid (∀ wx wy, Below wx.heap.size wx wy → (wx.cell? ⟨w.heap.size, 0, none⟩ = some (.string me) ∧ wx.cell? ⟨w.heap.size, 1, none⟩ = some (.string pa) ∧ wx.cell? ⟨w.heap.size, 2, none⟩ = some (.string bo) ∧ KpB w wx) → (wy.cell? ⟨w.heap.size, 0, none⟩ = some (.string me) ∧ wy.cell? ⟨w.heap.size, 1, none⟩ = some (.string pa) ∧ wy.cell? ⟨w.heap.size, 2, none⟩ = some (.string bo) ∧ KpB w wy)) := fun wx wy hb h => ⟨bkeep hb h.1, bkeep hb h.2.1, bkeep hb h.2.2.1, ⟨h.2.2.2.out.trans (hb.mono h.2.2.2.out.size)⟩⟩
  clear c0 c1 c2
  go_region_held3 (fun wx => wx.cell? ⟨w.heap.size, 0, none⟩ = some (.string me) ∧ wx.cell? ⟨w.heap.size, 1, none⟩ = some (.string pa) ∧ wx.cell? ⟨w.heap.size, 2, none⟩ = some (.string bo) ∧ KpB w wx)
    (first | exact SS.out | exact SX.out _ _ b5 (by assumption))
    ((go_at_call 74; (with_reducible refine (TD.out _).mono ?_); rintro e w5 ⟨rfl, b5⟩))
  have B5 : Hid (Below w.heap.size w w5) := (by assumption : _ ∧ _ ∧ _ ∧ KpB w w5).2.2.2.out
  clear SS SX b5 TD
  go_wp2
  go_ret
  exact ⟨rfl, B5.out⟩
def rqB (me pa bo : ByteArray) : Bool := meB me && ptB pa && !decide ((80 : Int) < (bo.size : Int))
def rqC (me pa bo : ByteArray) : Int := if rqB me pa bo = true then 0 else 1
def rqS (me pa bo : ByteArray) : ByteArray := if rqB me pa bo = true then rqT me pa bo else ⟨#[]⟩
set_option maxHeartbeats 1000000 in
theorem specRq_any (me pa bo : ByteArray) (w : World) (hp : pa.size ≤ 9223372036854775807) (hb : bo.size ≤ 9223372036854775807) :
    Calls Tryd.prog 24 #[.agg #[.string me, .string pa, .string bo]] w fun e w' => e = .returned (.tuple #[.string (rqS me pa bo), .int .i64 (rqC me pa bo)]) ∧ Below w.heap.size w w' := by
  have T1 : Hid (∀ w, Calls Tryd.prog 51 #[.string me] w fun e w' => e = .returned (.bool (meB me)) ∧ w' = w) := fun w => l11Method_any me w
  have T2 : Hid (∀ w, Calls Tryd.prog 46 #[.string pa] w fun e w' => e = .returned (.bool (ptB pa)) ∧ w' = w) := fun w => l11Path_any pa w hp
  have T3 : Hid (meB me = true → ptB pa = true → ¬ (80 : Int) < (bo.size : Int) → ∀ w, Calls Tryd.prog 52 #[.agg #[.string me, .string pa, .string bo]] w fun e w' => e = .returned (.string (rqT me pa bo)) ∧ Below w.heap.size w w') := fun h1 h2 h3 w => l11Text_any me pa bo w (meB_len h1) (ptB_len h2) (by omega)
  have BW : Hid (Below w.heap.size w (w.alloc (.cells #[.string me, .string pa, .string bo] 36))) := (Below.refl _ _).alloc (Nat.le_refl _) _
  have hno : ∀ t1 t2 t3 : Bool, meB me = t1 → ptB pa = t2 → decide ((80 : Int) < (bo.size : Int)) = t3 → (t1 && t2 && !t3) = false → rqS me pa bo = ⟨#[]⟩ ∧ rqC me pa bo = 1 := by
    intro t1 t2 t3 e1 e2 e3 e4
    have : rqB me pa bo = false := by unfold rqB; rw [e1, e2, e3, e4]
    unfold rqS rqC
    rw [this]
    exact ⟨rfl, rfl⟩
  have HNO : Hid (∀ t1 t2 t3 : Bool, meB me = t1 → ptB pa = t2 → decide ((80 : Int) < (bo.size : Int)) = t3 → (t1 && t2 && !t3) = false → rqS me pa bo = ⟨#[]⟩ ∧ rqC me pa bo = 1) := hno
  clear hno
  cases h1 : meB me with
  | false =>
    have E := HNO.out _ _ _ h1 rfl rfl (by simp)
    rw [E.1, E.2]
    rw [h1] at T1
    clear h1 E HNO T3
    go_enter Tryd.func24, Tryd.ntmps24
    go_wp2_with fail
    refine (T1.out _).mono ?_
    rintro e w1 ⟨rfl, hw⟩
    subst hw
    go_wp2
    go_ret2
    exact ⟨rfl, BW.out⟩
  | true =>
    cases h2 : ptB pa with
    | false =>
      have E := HNO.out _ _ _ h1 h2 rfl (by simp)
      rw [E.1, E.2]
      rw [h1] at T1
      rw [h2] at T2
      clear h1 h2 E HNO T3
      go_enter Tryd.func24, Tryd.ntmps24
      go_wp2_with fail
      refine (T1.out _).mono ?_
      rintro e w1 ⟨rfl, hw⟩
      subst hw
      go_wp2_with fail
      refine (T2.out _).mono ?_
      rintro e w1 ⟨rfl, hw⟩
      subst hw
      go_wp2
      go_ret2
      exact ⟨rfl, BW.out⟩
    | true =>
      by_cases h3 : (80 : Int) < (bo.size : Int)
      · have E := HNO.out _ _ _ h1 h2 (decide_eq_true h3) (by simp)
        rw [E.1, E.2]
        have t3 : decide ((80 : Int) < (bo.size : Int)) = true := decide_eq_true h3
        rw [h1] at T1
        rw [h2] at T2
        clear h1 h2 h3 E HNO T3
        go_enter Tryd.func24, Tryd.ntmps24
        go_wp2_with fail
        refine (T1.out _).mono ?_
        rintro e w1 ⟨rfl, hw⟩
        subst hw
        go_wp2_with fail
        refine (T2.out _).mono ?_
        rintro e w1 ⟨rfl, hw⟩
        subst hw
        go_wp2
        go_ret2
        exact ⟨rfl, BW.out⟩
      · have T4 : Hid (∀ w, Calls Tryd.prog 52 #[.agg #[.string me, .string pa, .string bo]] w fun e w' => e = .returned (.string (rqT me pa bo)) ∧ Below w.heap.size w w') := T3.out h1 h2 h3
        have EB : rqB me pa bo = true := by unfold rqB; rw [h1, h2, decide_eq_false h3]; rfl
        have E1 : rqS me pa bo = rqT me pa bo := by unfold rqS; rw [if_pos EB]
        have E2 : rqC me pa bo = 0 := by unfold rqC; rw [if_pos EB]
        rw [E1, E2]
        have t3 : decide ((80 : Int) < (bo.size : Int)) = false := decide_eq_false h3
        rw [h1] at T1
        rw [h2] at T2
        clear h1 h2 h3 E1 E2 EB HNO T3
        generalize rqT me pa bo = Z at T4 ⊢
        go_enter Tryd.func24, Tryd.ntmps24
        go_wp2_with fail
        refine (T1.out _).mono ?_
        rintro e w1 ⟨rfl, hw⟩
        subst hw
        go_wp2_with fail
        refine (T2.out _).mono ?_
        rintro e w1 ⟨rfl, hw⟩
        subst hw
        go_wp2_with fail
        refine (T4.out _).mono ?_
        rintro e w5 ⟨rfl, b5⟩
        have B5 : Hid (Below w.heap.size w w5) := BW.out.trans (b5.mono (by simp))
        clear b5
        go_wp2
        go_ret2
        exact ⟨rfl, B5.out⟩
end Go.Proofs.YtbpdfkngkkopbaaDoor
