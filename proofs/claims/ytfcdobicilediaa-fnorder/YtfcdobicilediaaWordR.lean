/- RateWord, both sides. -/
import Derived.Test.YtfcdobicilediaaWordT
namespace Go.Proofs.Ytfcdobicilediaa
open Go.RowKit Go.PlainAid Go.Proofs.Ytfcdobicilediaa.Bt Go.Proofs.Ytfcdobicilediaa.Fo Go.Sort
set_option linter.unusedVariables false
set_option maxRecDepth 20000

/-- The text of a rate. -/
def rateS (h l : Int) : ByteArray := if okW h l then (if clW h l = 0 then ⟨#[117, 110, 107, 110, 111, 119, 110]⟩ else if clW h l < 3 then ⟨#[119, 114, 111, 110, 103]⟩ else if clW h l ≤ 4 then ⟨#[105, 100, 108, 101]⟩ else if clW h l = 6 then ⟨#[101, 110, 100, 108, 101, 115, 115]⟩ else if rW h l < 4652007308841189376 then ⟨#[115, 108, 111, 119]⟩ else ⟨#[102, 97, 115, 116]⟩) else ⟨#[]⟩
theorem clW_cases (h l : Int) (hw : okW h l) : (clW h l = 0 ∨ clW h l = 1 ∨ clW h l = 2 ∨ clW h l = 3 ∨ clW h l = 4 ∨ clW h l = 6) ∨ (clW h l = 5 ∧ mW h = false ∧ rW h l < topI) := by
  have := rW_nn hw
  unfold clW clx
  cases mW h <;> simp only [Bool.false_eq_true, if_true, if_false, true_and, false_and, Bool.true_eq_false, and_false] <;> omega

theorem iRate_any (h l : Int) (w : World) : Calls Try.prog 23 #[.agg #[.int .i64 h, .int .i64 l]] w fun e w' => e = .returned (.string (rateS h l)) ∧ Grw w w' := by
  have H1 : Hid (∀ w, Calls Try.prog 53 #[.agg #[.int .i64 h, .int .i64 l]] w fun e w' => e = .returned (.bool (dec (okW h l))) ∧ Grw w w') := fun w => wordOK_any _ _ w
  by_cases hw : okW h l
  rotate_left
  · have e1 : rateS h l = ⟨#[]⟩ := if_neg hw
    rw [e1]
    rw [dec_n hw] at H1
    clear e1 hw
    go_enter Try.func23, Try.ntmps23
    go_wp2_with fail
    refine (H1.out _).mono ?_
    rintro e w1 ⟨rfl, G1⟩
    have G : Hid (Grw w w1) := ((Grw.refl _).alloc _).trans G1
    clear G1
    go_wp2
    go_ret
    exact ⟨rfl, G.out⟩
  have H2 : Hid (∀ w, Calls Try.prog 59 #[.agg #[.int .i64 h, .int .i64 l]] w fun e w' => e = .returned (.float .f64 (bW h l)) ∧ Grw w w') := fun w => valueOf_any _ _ hw w
  have H3 : Hid (∀ w, Calls Try.prog 58 #[.float .f64 (bW h l)] w fun e w' => e = .returned (.int .i64 (clW h l)) ∧ w' = w) := fun w => by
    have := classOf_any (bW h l) (bW_lt hw) w
    rw [rI_bW hw, sg_bW hw] at this
    exact this
  have ES : Hid (rateS h l = if clW h l = 0 then ⟨#[117, 110, 107, 110, 111, 119, 110]⟩ else if clW h l < 3 then ⟨#[119, 114, 111, 110, 103]⟩ else if clW h l ≤ 4 then ⟨#[105, 100, 108, 101]⟩ else if clW h l = 6 then ⟨#[101, 110, 100, 108, 101, 115, 115]⟩ else if rW h l < 4652007308841189376 then ⟨#[115, 108, 111, 119]⟩ else ⟨#[102, 97, 115, 116]⟩) := if_pos hw
  have HL : Hid (clW h l = 5 → (FloatKind.f64.format.order (bW h l) 4652007308841189376 == some Ordering.lt) = decide (rW h l < 4652007308841189376)) := fun h5 => by
    rcases clW_cases h l hw with h' | h'
    · omega
    · have := f_lth (bW h l) (by rw [sg_bW hw]; exact h'.2.1) (by rw [rI_bW hw]; omega)
      rw [rI_bW hw] at this
      exact this
  have hk : clW h l = 0 ∨ clW h l = 1 ∨ clW h l = 2 ∨ clW h l = 3 ∨ clW h l = 4 ∨ clW h l = 6 ∨ clW h l = 5 := by
    rcases clW_cases h l hw with h' | h'
    · omega
    · omega
  have HK : Hid (clW h l = 0 ∨ clW h l = 1 ∨ clW h l = 2 ∨ clW h l = 3 ∨ clW h l = 4 ∨ clW h l = 6 ∨ clW h l = 5) := hk
  clear hk
  rw [dec_y hw] at H1
  clear hw
  generalize rateS h l = t at *
  generalize clW h l = c at *
  generalize rW h l = r at *
  generalize bW h l = b at *
  go_enter Try.func23, Try.ntmps23
  go_wp2_with fail
  refine (H1.out _).mono ?_
  rintro e w1 ⟨rfl, G1⟩
  have k0 : w1.cell? ⟨w.heap.size, 0, none⟩ = some (.int .i64 h) := by rw [G1.below.cell (by simp)]; simp
  have k1 : w1.cell? ⟨w.heap.size, 1, none⟩ = some (.int .i64 l) := by rw [G1.below.cell (by simp)]; simp
  have G : Hid (Grw w w1) := ((Grw.refl _).alloc _).trans G1
  clear G1
  go_wp2_with fail
  refine (H2.out _).mono ?_
  rintro e w2 ⟨rfl, G1⟩
  have G : Hid (Grw w w2) := G.out.trans G1
  clear G1 k0 k1
  go_wp2_with fail
  refine (H3.out _).mono ?_
  rintro e w1 ⟨rfl, hw⟩
  subst hw
  rcases HK.out with rfl | rfl | rfl | rfl | rfl | rfl | rfl
  · have et : t = ⟨#[117, 110, 107, 110, 111, 119, 110]⟩ := by rw [ES.out]; rfl
    subst et
    clear HL HK ES
    go_wp2
    go_ret
    exact ⟨rfl, G.out⟩
  · have et : t = ⟨#[119, 114, 111, 110, 103]⟩ := by rw [ES.out]; rfl
    subst et
    clear HL HK ES
    go_wp2
    go_ret
    exact ⟨rfl, G.out⟩
  · have et : t = ⟨#[119, 114, 111, 110, 103]⟩ := by rw [ES.out]; rfl
    subst et
    clear HL HK ES
    go_wp2
    go_ret
    exact ⟨rfl, G.out⟩
  · have et : t = ⟨#[105, 100, 108, 101]⟩ := by rw [ES.out]; rfl
    subst et
    clear HL HK ES
    go_wp2
    go_ret
    exact ⟨rfl, G.out⟩
  · have et : t = ⟨#[105, 100, 108, 101]⟩ := by rw [ES.out]; rfl
    subst et
    clear HL HK ES
    go_wp2
    go_ret
    exact ⟨rfl, G.out⟩
  · have et : t = ⟨#[101, 110, 100, 108, 101, 115, 115]⟩ := by rw [ES.out]; rfl
    subst et
    clear HL HK ES
    go_wp2
    go_ret
    exact ⟨rfl, G.out⟩
  · have hl := HL.out rfl
    have ES : Hid (t = if r < 4652007308841189376 then ⟨#[115, 108, 111, 119]⟩ else ⟨#[102, 97, 115, 116]⟩) := by rw [ES.out]; rfl
    clear HL HK
    by_cases hr : r < 4652007308841189376
    · rw [decide_eq_true hr] at hl
      have et : t = ⟨#[115, 108, 111, 119]⟩ := by rw [ES.out, if_pos hr]
      subst et
      clear ES hr
      go_wp2
      go_ret
      exact ⟨rfl, G.out⟩
    · rw [decide_eq_false hr] at hl
      have et : t = ⟨#[102, 97, 115, 116]⟩ := by rw [ES.out, if_neg hr]
      subst et
      clear ES hr
      go_wp2
      go_ret
      exact ⟨rfl, G.out⟩

theorem sRate_any (h l : Int) (w : World) : Calls Try.prog 24 #[.agg #[.int .i64 h, .int .i64 l]] w fun e w' => e = .returned (.string (rateS h l)) ∧ Grw w w' := by
  have H1 : Hid (∀ w, Calls Try.prog 56 #[.agg #[.int .i64 h, .int .i64 l]] w fun e w' => e = .returned (.bool (dec (okW h l))) ∧ Grw w w') := fun w => sWord_any _ _ w
  by_cases hw : okW h l
  rotate_left
  · have e1 : rateS h l = ⟨#[]⟩ := if_neg hw
    rw [e1]
    rw [dec_n hw] at H1
    clear e1 hw
    go_enter Try.func24, Try.ntmps24
    go_wp2_with fail
    refine (H1.out _).mono ?_
    rintro e w1 ⟨rfl, G1⟩
    have G : Hid (Grw w w1) := ((Grw.refl _).alloc _).trans G1
    clear G1
    go_wp2
    go_ret
    exact ⟨rfl, G.out⟩
  have H2 : Hid (∀ w, Calls Try.prog 60 #[.agg #[.int .i64 h, .int .i64 l]] w fun e w' => e = .returned (.int .i64 (clW h l)) ∧ Grw w w') := fun w => sClass_any _ _ hw w
  have H3 : Hid (∀ w, Calls Try.prog 57 #[.agg #[.int .i64 h, .int .i64 l], .agg #[.int .i64 1083129856, .int .i64 0]] w fun e w' => e = .returned (.int .i64 (cmpW (h, l) (1083129856, 0))) ∧ Grw w w') := fun w => sOrder_any (h, l) (1083129856, 0) hw (by show okW _ _; decide) w
  have ES : Hid (rateS h l = if clW h l = 0 then ⟨#[117, 110, 107, 110, 111, 119, 110]⟩ else if clW h l < 3 then ⟨#[119, 114, 111, 110, 103]⟩ else if clW h l ≤ 4 then ⟨#[105, 100, 108, 101]⟩ else if clW h l = 6 then ⟨#[101, 110, 100, 108, 101, 115, 115]⟩ else if rW h l < 4652007308841189376 then ⟨#[115, 108, 111, 119]⟩ else ⟨#[102, 97, 115, 116]⟩) := if_pos hw
  have HL : Hid (clW h l = 5 → (cmpW (h, l) (1083129856, 0) < 0 ↔ rW h l < 4652007308841189376)) := fun h5 => by
    rcases clW_cases h l hw with h' | h'
    · omega
    · have e1 : kW (h, l) = rW h l := by
        show kx (rW h l) (mW h) = _
        rw [h'.2.1]
        unfold kx
        rw [if_neg (by omega)]
        rfl
      have e2 : kW (1083129856, 0) = 4652007308841189376 := by decide
      unfold cmpW
      rw [e1, e2]
      unfold ord3
      by_cases a : rW h l < 4652007308841189376
      · rw [if_pos a]; simp [a]
      · rw [if_neg a]; simp only [a, iff_false]; omega
  have hk : clW h l = 0 ∨ clW h l = 1 ∨ clW h l = 2 ∨ clW h l = 3 ∨ clW h l = 4 ∨ clW h l = 6 ∨ clW h l = 5 := by
    rcases clW_cases h l hw with h' | h'
    · omega
    · omega
  have HK : Hid (clW h l = 0 ∨ clW h l = 1 ∨ clW h l = 2 ∨ clW h l = 3 ∨ clW h l = 4 ∨ clW h l = 6 ∨ clW h l = 5) := hk
  clear hk
  rw [dec_y hw] at H1
  clear hw
  generalize cmpW (h, l) (1083129856, 0) = o at *
  generalize rateS h l = t at *
  generalize clW h l = c at *
  generalize rW h l = r at *
  go_enter Try.func24, Try.ntmps24
  go_wp2_with fail
  refine (H1.out _).mono ?_
  rintro e w1 ⟨rfl, G1⟩
  have k0 : w1.cell? ⟨w.heap.size, 0, none⟩ = some (.int .i64 h) := by rw [G1.below.cell (by simp)]; simp
  have k1 : w1.cell? ⟨w.heap.size, 1, none⟩ = some (.int .i64 l) := by rw [G1.below.cell (by simp)]; simp
  have G : Hid (Grw w w1) := ((Grw.refl _).alloc _).trans G1
  clear G1
  have hlt : w.heap.size < w1.heap.size := World.block_lt_of_cell? w1 _ k0
  go_wp2_with fail
  refine (H2.out _).mono ?_
  rintro e w2 ⟨rfl, G1⟩
  have k0 : w2.cell? ⟨w.heap.size, 0, none⟩ = some (.int .i64 h) := by rw [G1.below.cell (by simp; omega)]; exact k0
  have k1 : w2.cell? ⟨w.heap.size, 1, none⟩ = some (.int .i64 l) := by rw [G1.below.cell (by simp; omega)]; exact k1
  have G : Hid (Grw w w2) := G.out.trans G1
  clear G1
  rcases HK.out with rfl | rfl | rfl | rfl | rfl | rfl | rfl
  · have et : t = ⟨#[117, 110, 107, 110, 111, 119, 110]⟩ := by rw [ES.out]; rfl
    subst et
    clear HL HK ES
    go_wp2
    go_ret
    exact ⟨rfl, G.out⟩
  · have et : t = ⟨#[119, 114, 111, 110, 103]⟩ := by rw [ES.out]; rfl
    subst et
    clear HL HK ES
    go_wp2
    go_ret
    exact ⟨rfl, G.out⟩
  · have et : t = ⟨#[119, 114, 111, 110, 103]⟩ := by rw [ES.out]; rfl
    subst et
    clear HL HK ES
    go_wp2
    go_ret
    exact ⟨rfl, G.out⟩
  · have et : t = ⟨#[105, 100, 108, 101]⟩ := by rw [ES.out]; rfl
    subst et
    clear HL HK ES
    go_wp2
    go_ret
    exact ⟨rfl, G.out⟩
  · have et : t = ⟨#[105, 100, 108, 101]⟩ := by rw [ES.out]; rfl
    subst et
    clear HL HK ES
    go_wp2
    go_ret
    exact ⟨rfl, G.out⟩
  · have et : t = ⟨#[101, 110, 100, 108, 101, 115, 115]⟩ := by rw [ES.out]; rfl
    subst et
    clear HL HK ES
    go_wp2
    go_ret
    exact ⟨rfl, G.out⟩
  · have hl := HL.out rfl
    have ES : Hid (t = if r < 4652007308841189376 then ⟨#[115, 108, 111, 119]⟩ else ⟨#[102, 97, 115, 116]⟩) := by rw [ES.out]; rfl
    clear HL HK
    go_wp2_with fail
    refine (H3.out _).mono ?_
    rintro e w3 ⟨rfl, G1⟩
    have G : Hid (Grw w w3) := G.out.trans G1
    clear G1
    by_cases hr : r < 4652007308841189376
    · have ho : o < 0 := hl.2 hr
      have et : t = ⟨#[115, 108, 111, 119]⟩ := by rw [ES.out, if_pos hr]
      subst et
      clear ES hr hl
      go_wp2
      go_ret
      exact ⟨rfl, G.out⟩
    · have ho : 0 ≤ o := by
        have : ¬ (o < 0) := fun h => hr (hl.1 h)
        omega
      have et : t = ⟨#[102, 97, 115, 116]⟩ := by rw [ES.out, if_neg hr]
      subst et
      clear ES hr hl
      go_wp2
      go_ret
      exact ⟨rfl, G.out⟩
end Go.Proofs.Ytfcdobicilediaa
