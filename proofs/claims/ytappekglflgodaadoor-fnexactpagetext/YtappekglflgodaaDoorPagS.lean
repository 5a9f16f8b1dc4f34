/- PageText of the model. -/
import Derived.Test.YtappekglflgodaaDoorPathW
import Derived.Test.YtappekglflgodaaDoorDigits
import Derived.Test.YtappekglflgodaaDoorLawSw
namespace Go.Proofs.YtappekglflgodaaDoor
open Go.RowKit Go.PlainAid Go.Sort
set_option linter.unusedVariables false
set_option maxRecDepth 20000

theorem swS_size (n : Int) : (swS n).size ≤ 19 := by
  unfold swS
  repeat' split
  all_goals decide
/-- A status that has a word. -/
theorem swS_known {n : Int} (h : (swS n).size ≠ 0) : 200 ≤ n ∧ n ≤ 503 := by
  unfold swS at h
  repeat' split at h
  all_goals first | omega | exact absurd rfl h
theorem empty_size {s : ByteArray} : (s.toList == []) = true ↔ s.size = 0 := by
  rw [beq_iff_eq]
  constructor
  · intro h
    have := congrArg List.length h
    rw [ba_size] at this
    simpa using this
  · intro h
    have : s.toList.length = 0 := by rw [ba_size]; exact h
    exact List.eq_nil_of_length_eq_zero this
theorem dgs_3 (n : Nat) (h : n < 1000) : (strOfNums (dgs n)).size ≤ 3 := by rw [strOfNums_size]; exact (dgs_len 2 n (by omega)).2
/-- A page's text. -/
def pgT (st : Int) (wh bo : ByteArray) : ByteArray :=
  if wh.size = 0 then ⟨#[72, 84, 84, 80, 47, 49, 46, 49, 32]⟩ ++ strOfNums (dgs st.toNat) ++ ⟨#[32]⟩ ++ swS st ++ ⟨#[13, 10]⟩ ++ ⟨#[67, 111, 110, 116, 101, 110, 116, 45, 76, 101, 110, 103, 116, 104, 58, 32]⟩ ++ strOfNums (dgs bo.size) ++ ⟨#[13, 10, 67, 111, 110, 110, 101, 99, 116, 105, 111, 110, 58, 32, 99, 108, 111, 115, 101, 13, 10, 13, 10]⟩ ++ bo
  else ⟨#[72, 84, 84, 80, 47, 49, 46, 49, 32]⟩ ++ strOfNums (dgs st.toNat) ++ ⟨#[32]⟩ ++ swS st ++ ⟨#[13, 10]⟩ ++ (⟨#[76, 111, 99, 97, 116, 105, 111, 110, 58, 32]⟩ ++ wh ++ ⟨#[13, 10]⟩) ++ ⟨#[67, 111, 110, 116, 101, 110, 116, 45, 76, 101, 110, 103, 116, 104, 58, 32]⟩ ++ strOfNums (dgs bo.size) ++ ⟨#[13, 10, 67, 111, 110, 110, 101, 99, 116, 105, 111, 110, 58, 32, 99, 108, 111, 115, 101, 13, 10, 13, 10]⟩ ++ bo
/-- What PageText answers. -/
def pgB (st : Int) (wh bo : ByteArray) : Bool := (!((swS st).toList == [])) && ((wh.toList == []) || ptB wh) && !decide ((100 : Int) < (bo.size : Int))
def pgC (st : Int) (wh bo : ByteArray) : Int := if 65536 < wh.size ∨ 65536 < bo.size then 2 else if pgB st wh bo = true then 0 else 4
def pgS (st : Int) (wh bo : ByteArray) : ByteArray := if pgC st wh bo = 0 then pgT st wh bo else ⟨#[]⟩
theorem pg_long {st : Int} {wh bo : ByteArray} (h : 65536 < wh.size ∨ 65536 < bo.size) : pgC st wh bo = 2 ∧ pgS st wh bo = ⟨#[]⟩ := by
  have e : pgC st wh bo = 2 := by unfold pgC; rw [if_pos h]
  exact ⟨e, by unfold pgS; rw [e]; rfl⟩
theorem pg_no {st : Int} {wh bo : ByteArray} (h : ¬ (65536 < wh.size ∨ 65536 < bo.size)) (hb : pgB st wh bo = false) : pgC st wh bo = 4 ∧ pgS st wh bo = ⟨#[]⟩ := by
  have e : pgC st wh bo = 4 := by unfold pgC; rw [if_neg h, if_neg (by simp [hb])]
  exact ⟨e, by unfold pgS; rw [e]; rfl⟩
theorem pg_yes {st : Int} {wh bo : ByteArray} (h : ¬ (65536 < wh.size ∨ 65536 < bo.size)) (hb : pgB st wh bo = true) : pgC st wh bo = 0 ∧ pgS st wh bo = pgT st wh bo := by
  have e : pgC st wh bo = 0 := by unfold pgC; rw [if_neg h, if_pos hb]
  exact ⟨e, by unfold pgS; rw [e]; rfl⟩
set_option maxHeartbeats 1000000 in
theorem l11Page_any (st : Int) (wh bo : ByteArray) (w : World) (h0 : 200 ≤ st) (h1 : st ≤ 503) (hw : wh.size ≤ 40) (hb : bo.size ≤ 100) :
    Calls Tryd.prog 48 #[.int .i64 st, .string wh, .string bo] w fun e w' => e = .returned (.string (pgT st wh bo)) ∧ Below w.heap.size w w' := by
  obtain ⟨n, rfl⟩ := Int.eq_ofNat_of_zero_le (show 0 ≤ st by omega)
  have T1 : Hid (∀ w, Calls Tryd.prog 78 #[.int .i64 (n : Int)] w fun e w' => e = .returned (.string (strOfNums (dgs n))) ∧ Below w.heap.size w w') := fun w => l00Digits_any n w (by omega)
  have T2 : Hid (∀ w, Calls Tryd.prog 78 #[.int .i64 (bo.size : Int)] w fun e w' => e = .returned (.string (strOfNums (dgs bo.size))) ∧ Below w.heap.size w w') := fun w => l00Digits_any bo.size w (by omega)
  have T3 : Hid (∀ w, Calls Tryd.prog 20 #[.int .i64 (n : Int)] w fun e w' => e = .returned (.string (swS n)) ∧ w' = w) := fun w => specSw_any n w
  have d1 := dgs_3 n (by omega)
  have d2 := dgs_3 bo.size (by omega)
  have d3 := swS_size n
  unfold pgT
  rw [Int.toNat_natCast]
  generalize strOfNums (dgs n) = D1 at T1 d1 ⊢
  generalize strOfNums (dgs bo.size) = D2 at T2 d2 ⊢
  generalize swS n = W at T3 d3 ⊢
  have z1 : (⟨#[72, 84, 84, 80, 47, 49, 46, 49, 32]⟩ : ByteArray).size = 9 := rfl
  have z2 : (⟨#[32]⟩ : ByteArray).size = 1 := rfl
  have z3 : (⟨#[13, 10]⟩ : ByteArray).size = 2 := rfl
  have z4 : (⟨#[76, 111, 99, 97, 116, 105, 111, 110, 58, 32]⟩ : ByteArray).size = 10 := rfl
  have z5 : (⟨#[67, 111, 110, 116, 101, 110, 116, 45, 76, 101, 110, 103, 116, 104, 58, 32]⟩ : ByteArray).size = 16 := rfl
  have z6 : (⟨#[13, 10, 67, 111, 110, 110, 101, 99, 116, 105, 111, 110, 58, 32, 99, 108, 111, 115, 101, 13, 10, 13, 10]⟩ : ByteArray).size = 23 := rfl
  have ha1 : ∀ wx : World, (Op.stringOp .add (⟨#[72, 84, 84, 80, 47, 49, 46, 49, 32]⟩) (D1)).run Tryd.prog wx = .ok (.string (⟨#[72, 84, 84, 80, 47, 49, 46, 49, 32]⟩ ++ D1)) wx := fun wx => run_string_add_sum (P := Tryd.prog) (w := wx) _ _ (by (repeat rw [ByteArray.size_append]); omega)
  have ha2 : ∀ wx : World, (Op.stringOp .add (⟨#[72, 84, 84, 80, 47, 49, 46, 49, 32]⟩ ++ D1) (⟨#[32]⟩)).run Tryd.prog wx = .ok (.string (⟨#[72, 84, 84, 80, 47, 49, 46, 49, 32]⟩ ++ D1 ++ ⟨#[32]⟩)) wx := fun wx => run_string_add_sum (P := Tryd.prog) (w := wx) _ _ (by (repeat rw [ByteArray.size_append]); omega)
  have ha3 : ∀ wx : World, (Op.stringOp .add (⟨#[72, 84, 84, 80, 47, 49, 46, 49, 32]⟩ ++ D1 ++ ⟨#[32]⟩) (W)).run Tryd.prog wx = .ok (.string (⟨#[72, 84, 84, 80, 47, 49, 46, 49, 32]⟩ ++ D1 ++ ⟨#[32]⟩ ++ W)) wx := fun wx => run_string_add_sum (P := Tryd.prog) (w := wx) _ _ (by (repeat rw [ByteArray.size_append]); omega)
  have ha4 : ∀ wx : World, (Op.stringOp .add (⟨#[72, 84, 84, 80, 47, 49, 46, 49, 32]⟩ ++ D1 ++ ⟨#[32]⟩ ++ W) (⟨#[13, 10]⟩)).run Tryd.prog wx = .ok (.string (⟨#[72, 84, 84, 80, 47, 49, 46, 49, 32]⟩ ++ D1 ++ ⟨#[32]⟩ ++ W ++ ⟨#[13, 10]⟩)) wx := fun wx => run_string_add_sum (P := Tryd.prog) (w := wx) _ _ (by (repeat rw [ByteArray.size_append]); omega)
  by_cases hz : wh.size = 0
  · rw [if_pos hz]
    have he : (wh.toList == []) = true := empty_size.2 hz
    have hb1 : ∀ wx : World, (Op.stringOp .add (⟨#[72, 84, 84, 80, 47, 49, 46, 49, 32]⟩ ++ D1 ++ ⟨#[32]⟩ ++ W ++ ⟨#[13, 10]⟩) (⟨#[67, 111, 110, 116, 101, 110, 116, 45, 76, 101, 110, 103, 116, 104, 58, 32]⟩)).run Tryd.prog wx = .ok (.string (⟨#[72, 84, 84, 80, 47, 49, 46, 49, 32]⟩ ++ D1 ++ ⟨#[32]⟩ ++ W ++ ⟨#[13, 10]⟩ ++ ⟨#[67, 111, 110, 116, 101, 110, 116, 45, 76, 101, 110, 103, 116, 104, 58, 32]⟩)) wx := fun wx => run_string_add_sum (P := Tryd.prog) (w := wx) _ _ (by (repeat rw [ByteArray.size_append]); omega)
    have hb2 : ∀ wx : World, (Op.stringOp .add (⟨#[72, 84, 84, 80, 47, 49, 46, 49, 32]⟩ ++ D1 ++ ⟨#[32]⟩ ++ W ++ ⟨#[13, 10]⟩ ++ ⟨#[67, 111, 110, 116, 101, 110, 116, 45, 76, 101, 110, 103, 116, 104, 58, 32]⟩) (D2)).run Tryd.prog wx = .ok (.string (⟨#[72, 84, 84, 80, 47, 49, 46, 49, 32]⟩ ++ D1 ++ ⟨#[32]⟩ ++ W ++ ⟨#[13, 10]⟩ ++ ⟨#[67, 111, 110, 116, 101, 110, 116, 45, 76, 101, 110, 103, 116, 104, 58, 32]⟩ ++ D2)) wx := fun wx => run_string_add_sum (P := Tryd.prog) (w := wx) _ _ (by (repeat rw [ByteArray.size_append]); omega)
    have hb3 : ∀ wx : World, (Op.stringOp .add (⟨#[72, 84, 84, 80, 47, 49, 46, 49, 32]⟩ ++ D1 ++ ⟨#[32]⟩ ++ W ++ ⟨#[13, 10]⟩ ++ ⟨#[67, 111, 110, 116, 101, 110, 116, 45, 76, 101, 110, 103, 116, 104, 58, 32]⟩ ++ D2) (⟨#[13, 10, 67, 111, 110, 110, 101, 99, 116, 105, 111, 110, 58, 32, 99, 108, 111, 115, 101, 13, 10, 13, 10]⟩)).run Tryd.prog wx = .ok (.string (⟨#[72, 84, 84, 80, 47, 49, 46, 49, 32]⟩ ++ D1 ++ ⟨#[32]⟩ ++ W ++ ⟨#[13, 10]⟩ ++ ⟨#[67, 111, 110, 116, 101, 110, 116, 45, 76, 101, 110, 103, 116, 104, 58, 32]⟩ ++ D2 ++ ⟨#[13, 10, 67, 111, 110, 110, 101, 99, 116, 105, 111, 110, 58, 32, 99, 108, 111, 115, 101, 13, 10, 13, 10]⟩)) wx := fun wx => run_string_add_sum (P := Tryd.prog) (w := wx) _ _ (by (repeat rw [ByteArray.size_append]); omega)
    have hb4 : ∀ wx : World, (Op.stringOp .add (⟨#[72, 84, 84, 80, 47, 49, 46, 49, 32]⟩ ++ D1 ++ ⟨#[32]⟩ ++ W ++ ⟨#[13, 10]⟩ ++ ⟨#[67, 111, 110, 116, 101, 110, 116, 45, 76, 101, 110, 103, 116, 104, 58, 32]⟩ ++ D2 ++ ⟨#[13, 10, 67, 111, 110, 110, 101, 99, 116, 105, 111, 110, 58, 32, 99, 108, 111, 115, 101, 13, 10, 13, 10]⟩) (bo)).run Tryd.prog wx = .ok (.string (⟨#[72, 84, 84, 80, 47, 49, 46, 49, 32]⟩ ++ D1 ++ ⟨#[32]⟩ ++ W ++ ⟨#[13, 10]⟩ ++ ⟨#[67, 111, 110, 116, 101, 110, 116, 45, 76, 101, 110, 103, 116, 104, 58, 32]⟩ ++ D2 ++ ⟨#[13, 10, 67, 111, 110, 110, 101, 99, 116, 105, 111, 110, 58, 32, 99, 108, 111, 115, 101, 13, 10, 13, 10]⟩ ++ bo)) wx := fun wx => run_string_add_sum (P := Tryd.prog) (w := wx) _ _ (by (repeat rw [ByteArray.size_append]); omega)
    clear z1 z2 z3 z4 z5 z6
    go_enter Tryd.func48, Tryd.ntmps48
    go_wp2_with fail
    refine (T1.out _).mono ?_
    rintro e w1 ⟨rfl, b1⟩
    go_wp2_with fail
    refine (T3.out _).mono ?_
    rintro e w2 ⟨rfl, hw2⟩
    have B2 : Hid (Below w.heap.size w w2) := by rw [hw2]; exact b1
    clear hw2 b1
    go_wp2_with fail
    refine (T2.out _).mono ?_
    rintro e w3 ⟨rfl, b3⟩
    have B3 : Hid (Below w.heap.size w w3) := B2.out.trans (b3.mono B2.out.size)
    clear b3
    go_wp2
    go_ret
    exact ⟨rfl, B3.out⟩
  · rw [if_neg hz]
    have he : (wh.toList == []) = false := by
      cases h : (wh.toList == []) with
      | false => rfl
      | true => exact absurd (empty_size.1 h) hz
    have hc1 : ∀ wx : World, (Op.stringOp .add (⟨#[76, 111, 99, 97, 116, 105, 111, 110, 58, 32]⟩) (wh)).run Tryd.prog wx = .ok (.string (⟨#[76, 111, 99, 97, 116, 105, 111, 110, 58, 32]⟩ ++ wh)) wx := fun wx => run_string_add_sum (P := Tryd.prog) (w := wx) _ _ (by (repeat rw [ByteArray.size_append]); omega)
    have hc2 : ∀ wx : World, (Op.stringOp .add (⟨#[76, 111, 99, 97, 116, 105, 111, 110, 58, 32]⟩ ++ wh) (⟨#[13, 10]⟩)).run Tryd.prog wx = .ok (.string (⟨#[76, 111, 99, 97, 116, 105, 111, 110, 58, 32]⟩ ++ wh ++ ⟨#[13, 10]⟩)) wx := fun wx => run_string_add_sum (P := Tryd.prog) (w := wx) _ _ (by (repeat rw [ByteArray.size_append]); omega)
    have hc3 : ∀ wx : World, (Op.stringOp .add (⟨#[72, 84, 84, 80, 47, 49, 46, 49, 32]⟩ ++ D1 ++ ⟨#[32]⟩ ++ W ++ ⟨#[13, 10]⟩) (⟨#[76, 111, 99, 97, 116, 105, 111, 110, 58, 32]⟩ ++ wh ++ ⟨#[13, 10]⟩)).run Tryd.prog wx = .ok (.string (⟨#[72, 84, 84, 80, 47, 49, 46, 49, 32]⟩ ++ D1 ++ ⟨#[32]⟩ ++ W ++ ⟨#[13, 10]⟩ ++ (⟨#[76, 111, 99, 97, 116, 105, 111, 110, 58, 32]⟩ ++ wh ++ ⟨#[13, 10]⟩))) wx := fun wx => run_string_add_sum (P := Tryd.prog) (w := wx) _ _ (by (repeat rw [ByteArray.size_append]); omega)
    have hb1 : ∀ wx : World, (Op.stringOp .add (⟨#[72, 84, 84, 80, 47, 49, 46, 49, 32]⟩ ++ D1 ++ ⟨#[32]⟩ ++ W ++ ⟨#[13, 10]⟩ ++ (⟨#[76, 111, 99, 97, 116, 105, 111, 110, 58, 32]⟩ ++ wh ++ ⟨#[13, 10]⟩)) (⟨#[67, 111, 110, 116, 101, 110, 116, 45, 76, 101, 110, 103, 116, 104, 58, 32]⟩)).run Tryd.prog wx = .ok (.string (⟨#[72, 84, 84, 80, 47, 49, 46, 49, 32]⟩ ++ D1 ++ ⟨#[32]⟩ ++ W ++ ⟨#[13, 10]⟩ ++ (⟨#[76, 111, 99, 97, 116, 105, 111, 110, 58, 32]⟩ ++ wh ++ ⟨#[13, 10]⟩) ++ ⟨#[67, 111, 110, 116, 101, 110, 116, 45, 76, 101, 110, 103, 116, 104, 58, 32]⟩)) wx := fun wx => run_string_add_sum (P := Tryd.prog) (w := wx) _ _ (by (repeat rw [ByteArray.size_append]); omega)
    have hb2 : ∀ wx : World, (Op.stringOp .add (⟨#[72, 84, 84, 80, 47, 49, 46, 49, 32]⟩ ++ D1 ++ ⟨#[32]⟩ ++ W ++ ⟨#[13, 10]⟩ ++ (⟨#[76, 111, 99, 97, 116, 105, 111, 110, 58, 32]⟩ ++ wh ++ ⟨#[13, 10]⟩) ++ ⟨#[67, 111, 110, 116, 101, 110, 116, 45, 76, 101, 110, 103, 116, 104, 58, 32]⟩) (D2)).run Tryd.prog wx = .ok (.string (⟨#[72, 84, 84, 80, 47, 49, 46, 49, 32]⟩ ++ D1 ++ ⟨#[32]⟩ ++ W ++ ⟨#[13, 10]⟩ ++ (⟨#[76, 111, 99, 97, 116, 105, 111, 110, 58, 32]⟩ ++ wh ++ ⟨#[13, 10]⟩) ++ ⟨#[67, 111, 110, 116, 101, 110, 116, 45, 76, 101, 110, 103, 116, 104, 58, 32]⟩ ++ D2)) wx := fun wx => run_string_add_sum (P := Tryd.prog) (w := wx) _ _ (by (repeat rw [ByteArray.size_append]); omega)
    have hb3 : ∀ wx : World, (Op.stringOp .add (⟨#[72, 84, 84, 80, 47, 49, 46, 49, 32]⟩ ++ D1 ++ ⟨#[32]⟩ ++ W ++ ⟨#[13, 10]⟩ ++ (⟨#[76, 111, 99, 97, 116, 105, 111, 110, 58, 32]⟩ ++ wh ++ ⟨#[13, 10]⟩) ++ ⟨#[67, 111, 110, 116, 101, 110, 116, 45, 76, 101, 110, 103, 116, 104, 58, 32]⟩ ++ D2) (⟨#[13, 10, 67, 111, 110, 110, 101, 99, 116, 105, 111, 110, 58, 32, 99, 108, 111, 115, 101, 13, 10, 13, 10]⟩)).run Tryd.prog wx = .ok (.string (⟨#[72, 84, 84, 80, 47, 49, 46, 49, 32]⟩ ++ D1 ++ ⟨#[32]⟩ ++ W ++ ⟨#[13, 10]⟩ ++ (⟨#[76, 111, 99, 97, 116, 105, 111, 110, 58, 32]⟩ ++ wh ++ ⟨#[13, 10]⟩) ++ ⟨#[67, 111, 110, 116, 101, 110, 116, 45, 76, 101, 110, 103, 116, 104, 58, 32]⟩ ++ D2 ++ ⟨#[13, 10, 67, 111, 110, 110, 101, 99, 116, 105, 111, 110, 58, 32, 99, 108, 111, 115, 101, 13, 10, 13, 10]⟩)) wx := fun wx => run_string_add_sum (P := Tryd.prog) (w := wx) _ _ (by (repeat rw [ByteArray.size_append]); omega)
    have hb4 : ∀ wx : World, (Op.stringOp .add (⟨#[72, 84, 84, 80, 47, 49, 46, 49, 32]⟩ ++ D1 ++ ⟨#[32]⟩ ++ W ++ ⟨#[13, 10]⟩ ++ (⟨#[76, 111, 99, 97, 116, 105, 111, 110, 58, 32]⟩ ++ wh ++ ⟨#[13, 10]⟩) ++ ⟨#[67, 111, 110, 116, 101, 110, 116, 45, 76, 101, 110, 103, 116, 104, 58, 32]⟩ ++ D2 ++ ⟨#[13, 10, 67, 111, 110, 110, 101, 99, 116, 105, 111, 110, 58, 32, 99, 108, 111, 115, 101, 13, 10, 13, 10]⟩) (bo)).run Tryd.prog wx = .ok (.string (⟨#[72, 84, 84, 80, 47, 49, 46, 49, 32]⟩ ++ D1 ++ ⟨#[32]⟩ ++ W ++ ⟨#[13, 10]⟩ ++ (⟨#[76, 111, 99, 97, 116, 105, 111, 110, 58, 32]⟩ ++ wh ++ ⟨#[13, 10]⟩) ++ ⟨#[67, 111, 110, 116, 101, 110, 116, 45, 76, 101, 110, 103, 116, 104, 58, 32]⟩ ++ D2 ++ ⟨#[13, 10, 67, 111, 110, 110, 101, 99, 116, 105, 111, 110, 58, 32, 99, 108, 111, 115, 101, 13, 10, 13, 10]⟩ ++ bo)) wx := fun wx => run_string_add_sum (P := Tryd.prog) (w := wx) _ _ (by (repeat rw [ByteArray.size_append]); omega)
    clear z1 z2 z3 z4 z5 z6
    go_enter Tryd.func48, Tryd.ntmps48
    go_wp2_with fail
    refine (T1.out _).mono ?_
    rintro e w1 ⟨rfl, b1⟩
    go_wp2_with fail
    refine (T3.out _).mono ?_
    rintro e w2 ⟨rfl, hw2⟩
    have B2 : Hid (Below w.heap.size w w2) := by rw [hw2]; exact b1
    clear hw2 b1
    go_wp2_with fail
    refine (T2.out _).mono ?_
    rintro e w3 ⟨rfl, b3⟩
    have B3 : Hid (Below w.heap.size w w3) := B2.out.trans (b3.mono B2.out.size)
    clear b3
    go_wp2
    go_ret
    exact ⟨rfl, B3.out⟩

theorem pgB_says {st : Int} {wh bo : ByteArray} (h : pgB st wh bo = true) : (200 ≤ st ∧ st ≤ 503) ∧ wh.size ≤ 40 ∧ bo.size ≤ 100 := by
  unfold pgB at h
  simp only [Bool.and_eq_true, Bool.not_eq_true', decide_eq_false_iff_not, Bool.or_eq_true] at h
  obtain ⟨⟨h1, h2⟩, h3⟩ := h
  refine ⟨swS_known (fun e => ?_), ?_, by omega⟩
  · rw [empty_size.2 e] at h1; cases h1
  · rcases h2 with h2 | h2
    · rw [empty_size.1 h2]; omega
    · exact ptB_len h2
end Go.Proofs.YtappekglflgodaaDoor
