/- MeterAdd, both sides, and the walk of its law. -/
import Derived.Test.YtfcdobicilediaaMeter
import Derived.Laws.StructEq
namespace Go.Proofs.Ytfcdobicilediaa
open Go.RowKit Go.PlainAid Go.Sort
set_option linter.unusedVariables false
set_option maxRecDepth 20000

/-- A right meter. -/
def okM (m l h c : Int) : Prop := (m = 0 ∧ l = 0 ∧ h = 0 ∧ c = 0) ∨ (1 ≤ c ∧ c ≤ 1000000 ∧ okA l ∧ okA h ∧ l ≤ m ∧ m ≤ h)
instance (m l h c : Int) : Decidable (okM m l h c) := by unfold okM; infer_instance
theorem eql_meter (x0 x1 x2 x3 y0 y1 y2 y3 : Int) (w : World) : (binOp .eql 56 (.agg #[.int .i64 x0, .int .i64 x1, .int .i64 x2, .int .i64 x3]) (.agg #[.int .i64 y0, .int .i64 y1, .int .i64 y2, .int .i64 y3])).run Try.prog w = .ok (.bool (decide (x0 = y0 ∧ x1 = y1 ∧ x2 = y2 ∧ x3 = y3))) w := by
  have u3 := Try.underlying3
  have a3 := Try.isAgg3
  have z3 := Try.sizeOf3
  have hS : Try.prog.underlying 56 = some (.struct (Try.prog.fieldsOf 56)) := by kernel_rfl
  have hp : Try.prog.stoodInHeld 56 = false := by kernel_rfl
  rw [run_eql_struct, show (10000 : Nat) = 9999 + 1 from rfl, run_equalIn_agg w 9999 56 _ _ hS hp]
  simp only [Program.fieldsOf, Try.underlying56]
  go_simp
  by_cases h1 : x0 = y0 <;> by_cases h2 : x1 = y1 <;> by_cases h3 : x2 = y2 <;> by_cases h4 : x3 = y3 <;> simp [h1, h2, h3, h4]

theorem meterOK_any (m l h c : Int) (w : World) : Calls Try.prog 62 #[.agg #[.int .i64 m, .int .i64 l, .int .i64 h, .int .i64 c]] w fun e w' => e = .returned (.bool (dec (okM m l h c))) ∧ Grw w w' := by
  have HL : Hid (∀ w, Calls Try.prog 63 #[.int .i64 l] w fun e w' => e = .returned (.bool (dec (okA l))) ∧ w' = w) := fun w => amountOK_any l w
  have HH : Hid (∀ w, Calls Try.prog 63 #[.int .i64 h] w fun e w' => e = .returned (.bool (dec (okA h))) ∧ w' = w) := fun w => amountOK_any h w
  have HE := fun w => eql_meter m l h c 0 0 0 0 w
  by_cases hz : m = 0 ∧ l = 0 ∧ h = 0 ∧ c = 0
  · rw [dec_y (p := okM m l h c) (Or.inl hz)]
    have HE' : ∀ w, (binOp .eql 56 (.agg #[.int .i64 m, .int .i64 l, .int .i64 h, .int .i64 c]) (.agg #[.int .i64 0, .int .i64 0, .int .i64 0, .int .i64 0])).run Try.prog w = .ok (.bool true) w := fun w => by rw [HE w, decide_eq_true hz]
    clear HE hz
    go_enter Try.func62, Try.ntmps62
    go_wp2
    go_ret
    exact ⟨rfl, (Grw.refl _).alloc _⟩
  have HE' : ∀ w, (binOp .eql 56 (.agg #[.int .i64 m, .int .i64 l, .int .i64 h, .int .i64 c]) (.agg #[.int .i64 0, .int .i64 0, .int .i64 0, .int .i64 0])).run Try.prog w = .ok (.bool false) w := fun w => by rw [HE w, decide_eq_false hz]
  have HN : Hid (¬ (m = 0 ∧ l = 0 ∧ h = 0 ∧ c = 0)) := hz
  clear HE hz
  by_cases h1 : c < 1
  · rw [dec_n (p := okM m l h c) (fun h' => h'.elim HN.out (fun h' => by omega))]
    go_enter Try.func62, Try.ntmps62
    go_wp2
    go_ret
    exact ⟨rfl, (Grw.refl _).alloc _⟩
  have b1 : decide (c < 1) = false := decide_eq_false h1
  by_cases h2 : 1000000 < c
  · rw [dec_n (p := okM m l h c) (fun h' => h'.elim HN.out (fun h' => by omega))]
    go_enter Try.func62, Try.ntmps62
    go_wp2
    go_ret
    exact ⟨rfl, (Grw.refl _).alloc _⟩
  have b2 : decide (1000000 < c) = false := decide_eq_false h2
  by_cases h3 : okA l
  rotate_left
  · rw [dec_n (p := okM m l h c) (fun h' => h'.elim HN.out (fun h' => h3 h'.2.2.1))]
    rw [dec_n h3] at HL
    clear h3
    go_enter Try.func62, Try.ntmps62
    go_wp2_with fail
    refine (HL.out _).mono ?_
    rintro e w1 ⟨rfl, hw⟩
    subst hw
    go_wp2
    go_ret
    exact ⟨rfl, (Grw.refl _).alloc _⟩
  rw [dec_y h3] at HL
  by_cases h4 : okA h
  rotate_left
  · rw [dec_n (p := okM m l h c) (fun h' => h'.elim HN.out (fun h' => h4 h'.2.2.2.1))]
    rw [dec_n h4] at HH
    clear h3 h4
    go_enter Try.func62, Try.ntmps62
    go_wp2_with fail
    refine (HL.out _).mono ?_
    rintro e w1 ⟨rfl, hw⟩
    subst hw
    go_wp2_with fail
    refine (HH.out _).mono ?_
    rintro e w1 ⟨rfl, hw⟩
    subst hw
    go_wp2
    go_ret
    exact ⟨rfl, (Grw.refl _).alloc _⟩
  rw [dec_y h4] at HH
  have H3 : Hid (okA l) := h3
  have H4 : Hid (okA h) := h4
  clear h3 h4
  by_cases h5 : l ≤ m
  rotate_left
  · rw [dec_n (p := okM m l h c) (fun h' => h'.elim HN.out (fun h' => h5 h'.2.2.2.2.1))]
    have b5 : decide (l ≤ m) = false := decide_eq_false h5
    go_enter Try.func62, Try.ntmps62
    go_wp2_with fail
    refine (HL.out _).mono ?_
    rintro e w1 ⟨rfl, hw⟩
    subst hw
    go_wp2_with fail
    refine (HH.out _).mono ?_
    rintro e w1 ⟨rfl, hw⟩
    subst hw
    go_wp2
    go_ret
    exact ⟨rfl, (Grw.refl _).alloc _⟩
  by_cases h6 : m ≤ h
  rotate_left
  · rw [dec_n (p := okM m l h c) (fun h' => h'.elim HN.out (fun h' => h6 h'.2.2.2.2.2))]
    have b6 : decide (m ≤ h) = false := decide_eq_false h6
    go_enter Try.func62, Try.ntmps62
    go_wp2_with fail
    refine (HL.out _).mono ?_
    rintro e w1 ⟨rfl, hw⟩
    subst hw
    go_wp2_with fail
    refine (HH.out _).mono ?_
    rintro e w1 ⟨rfl, hw⟩
    subst hw
    go_wp2
    go_ret
    exact ⟨rfl, (Grw.refl _).alloc _⟩
  · rw [dec_y (p := okM m l h c) (Or.inr ⟨by omega, by omega, H3.out, H4.out, h5, h6⟩)]
    go_enter Try.func62, Try.ntmps62
    go_wp2_with fail
    refine (HL.out _).mono ?_
    rintro e w1 ⟨rfl, hw⟩
    subst hw
    go_wp2_with fail
    refine (HH.out _).mono ?_
    rintro e w1 ⟨rfl, hw⟩
    subst hw
    go_wp2
    go_ret
    exact ⟨rfl, (Grw.refl _).alloc _⟩
theorem sMeter_any (m l h c : Int) (w : World) : Calls Try.prog 65 #[.agg #[.int .i64 m, .int .i64 l, .int .i64 h, .int .i64 c]] w fun e w' => e = .returned (.bool (dec (okM m l h c))) ∧ Grw w w' := by
  have HC : Hid (∀ w, Calls Try.prog 51 #[.int .i64 c, .int .i64 1, .int .i64 1000000] w fun e w' => e = .returned (.bool (dec (1 ≤ c ∧ c ≤ 1000000))) ∧ w' = w) := fun w => mIn_any _ _ _ w
  have HL : Hid (∀ w, Calls Try.prog 66 #[.int .i64 l] w fun e w' => e = .returned (.bool (dec (okA l))) ∧ w' = w) := fun w => sValue_any l w
  have HH : Hid (∀ w, Calls Try.prog 66 #[.int .i64 h] w fun e w' => e = .returned (.bool (dec (okA h))) ∧ w' = w) := fun w => sValue_any h w
  have HE := fun w => eql_meter m l h c 0 0 0 0 w
  by_cases hz : m = 0 ∧ l = 0 ∧ h = 0 ∧ c = 0
  · rw [dec_y (p := okM m l h c) (Or.inl hz)]
    have HE' : ∀ w, (binOp .eql 56 (.agg #[.int .i64 m, .int .i64 l, .int .i64 h, .int .i64 c]) (.agg #[.int .i64 0, .int .i64 0, .int .i64 0, .int .i64 0])).run Try.prog w = .ok (.bool true) w := fun w => by rw [HE w, decide_eq_true hz]
    clear HE hz
    go_enter Try.func65, Try.ntmps65
    go_wp2
    go_ret
    exact ⟨rfl, (Grw.refl _).alloc _⟩
  have HE' : ∀ w, (binOp .eql 56 (.agg #[.int .i64 m, .int .i64 l, .int .i64 h, .int .i64 c]) (.agg #[.int .i64 0, .int .i64 0, .int .i64 0, .int .i64 0])).run Try.prog w = .ok (.bool false) w := fun w => by rw [HE w, decide_eq_false hz]
  have HN : Hid (¬ (m = 0 ∧ l = 0 ∧ h = 0 ∧ c = 0)) := hz
  clear HE hz
  by_cases h2 : 1 ≤ c ∧ c ≤ 1000000
  rotate_left
  · rw [dec_n (p := okM m l h c) (fun h' => h'.elim HN.out (fun h' => h2 ⟨h'.1, h'.2.1⟩))]
    rw [dec_n h2] at HC
    clear h2
    go_enter Try.func65, Try.ntmps65
    go_wp2_with fail
    refine (HC.out _).mono ?_
    rintro e w1 ⟨rfl, hw⟩
    subst hw
    go_wp2
    go_ret
    exact ⟨rfl, (Grw.refl _).alloc _⟩
  rw [dec_y h2] at HC
  have H2 : Hid (1 ≤ c ∧ c ≤ 1000000) := h2
  clear h2
  by_cases h3 : okA l
  rotate_left
  · rw [dec_n (p := okM m l h c) (fun h' => h'.elim HN.out (fun h' => h3 h'.2.2.1))]
    rw [dec_n h3] at HL
    clear h3
    go_enter Try.func65, Try.ntmps65
    go_wp2_with fail
    refine (HC.out _).mono ?_
    rintro e w1 ⟨rfl, hw⟩
    subst hw
    go_wp2_with fail
    refine (HL.out _).mono ?_
    rintro e w1 ⟨rfl, hw⟩
    subst hw
    go_wp2
    go_ret
    exact ⟨rfl, (Grw.refl _).alloc _⟩
  rw [dec_y h3] at HL
  by_cases h4 : okA h
  rotate_left
  · rw [dec_n (p := okM m l h c) (fun h' => h'.elim HN.out (fun h' => h4 h'.2.2.2.1))]
    rw [dec_n h4] at HH
    clear h3 h4
    go_enter Try.func65, Try.ntmps65
    go_wp2_with fail
    refine (HC.out _).mono ?_
    rintro e w1 ⟨rfl, hw⟩
    subst hw
    go_wp2_with fail
    refine (HL.out _).mono ?_
    rintro e w1 ⟨rfl, hw⟩
    subst hw
    go_wp2_with fail
    refine (HH.out _).mono ?_
    rintro e w1 ⟨rfl, hw⟩
    subst hw
    go_wp2
    go_ret
    exact ⟨rfl, (Grw.refl _).alloc _⟩
  rw [dec_y h4] at HH
  have H3 : Hid (okA l) := h3
  have H4 : Hid (okA h) := h4
  clear h3 h4
  by_cases h5 : l ≤ m
  rotate_left
  · rw [dec_n (p := okM m l h c) (fun h' => h'.elim HN.out (fun h' => h5 h'.2.2.2.2.1))]
    have b5 : decide (l ≤ m) = false := decide_eq_false h5
    go_enter Try.func65, Try.ntmps65
    go_wp2_with fail
    refine (HC.out _).mono ?_
    rintro e w1 ⟨rfl, hw⟩
    subst hw
    go_wp2_with fail
    refine (HL.out _).mono ?_
    rintro e w1 ⟨rfl, hw⟩
    subst hw
    go_wp2_with fail
    refine (HH.out _).mono ?_
    rintro e w1 ⟨rfl, hw⟩
    subst hw
    go_wp2
    go_ret
    exact ⟨rfl, (Grw.refl _).alloc _⟩
  by_cases h6 : m ≤ h
  rotate_left
  · rw [dec_n (p := okM m l h c) (fun h' => h'.elim HN.out (fun h' => h6 h'.2.2.2.2.2))]
    have b6 : decide (m ≤ h) = false := decide_eq_false h6
    go_enter Try.func65, Try.ntmps65
    go_wp2_with fail
    refine (HC.out _).mono ?_
    rintro e w1 ⟨rfl, hw⟩
    subst hw
    go_wp2_with fail
    refine (HL.out _).mono ?_
    rintro e w1 ⟨rfl, hw⟩
    subst hw
    go_wp2_with fail
    refine (HH.out _).mono ?_
    rintro e w1 ⟨rfl, hw⟩
    subst hw
    go_wp2
    go_ret
    exact ⟨rfl, (Grw.refl _).alloc _⟩
  · rw [dec_y (p := okM m l h c) (Or.inr ⟨H2.out.1, H2.out.2, H3.out, H4.out, h5, h6⟩)]
    go_enter Try.func65, Try.ntmps65
    go_wp2_with fail
    refine (HC.out _).mono ?_
    rintro e w1 ⟨rfl, hw⟩
    subst hw
    go_wp2_with fail
    refine (HL.out _).mono ?_
    rintro e w1 ⟨rfl, hw⟩
    subst hw
    go_wp2_with fail
    refine (HH.out _).mono ?_
    rintro e w1 ⟨rfl, hw⟩
    subst hw
    go_wp2
    go_ret
    exact ⟨rfl, (Grw.refl _).alloc _⟩
end Go.Proofs.Ytfcdobicilediaa
