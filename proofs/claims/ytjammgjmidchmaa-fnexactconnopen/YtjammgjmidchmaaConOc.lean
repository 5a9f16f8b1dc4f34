/- ConnOpen of both sides: what is refused. -/
import Derived.Test.YtjammgjmidchmaaConOa
import Derived.Test.YtjammgjmidchmaaConSc
namespace Go.Proofs.Ytjammgjmidchmaa
open Go.RowKit Go.PlainAid Go.Proofs.Ytjammgjmidchmaa.Bt Go.Sort
set_option linter.unusedVariables false
set_option maxRecDepth 20000

set_option maxHeartbeats 8000000 in
theorem specOp_few (mc : ByteArray) (ip di : Int) (sp dp sq ac fl wi : Int) (da : ByteArray) (isn : Int) (w : World) (hl : ¬ 65536 < mc.size) (hda : da.size ≤ 9223372036854775807) (hno : opC mc ip di ⟨sp, dp, sq, ac, fl, wi, da⟩ isn ≠ 0) :
    Calls Try.prog 24 #[.string mc, .int .i64 ip, .int .i64 di, .agg #[.int .i64 sp, .int .i64 dp, .int .i64 sq, .int .i64 ac, .int .i64 fl, .int .i64 wi, .string da], .int .i64 isn] w fun e w' => ∃ v, e = .returned (.tuple #[cvA cnZ, v, .int .i64 (opC mc ip di ⟨sp, dp, sq, ac, fl, wi, da⟩ isn)]) ∧ OwnS sgG 7 27 w' w.heap.size v [] ∧ Below w.heap.size w w' := by
  have T0 : Hid (∀ w, Calls Try.prog 56 #[.string mc] w fun e w' => e = .returned (.bool ((mc.size : Int) == 6)) ∧ w' = w) := fun w => l01Mac_any mc w
  have T1 : Hid (∀ w, Calls Try.prog 57 #[.int .i64 ip] w fun e w' => e = .returned (.bool (dec (0 ≤ ip ∧ ip ≤ 4294967295))) ∧ w' = w) := fun w => specIp_any ip w
  have T2 : Hid (∀ w, Calls Try.prog 57 #[.int .i64 di] w fun e w' => e = .returned (.bool (dec (0 ≤ di ∧ di ≤ 4294967295))) ∧ w' = w) := fun w => specIp_any di w
  have T3 : Hid (∀ w, Calls Try.prog 38 #[.agg #[.int .i64 sp, .int .i64 dp, .int .i64 sq, .int .i64 ac, .int .i64 fl, .int .i64 wi, .string da]] w fun e w' => e = .returned (.bool (sgB ⟨sp, dp, sq, ac, fl, wi, da⟩)) ∧ Grw w w') := fun w => l02Seg9_any sp dp sq ac fl wi da w hda
  have T4 : Hid (∀ w, Calls Try.prog 57 #[.int .i64 isn] w fun e w' => e = .returned (.bool (dec (0 ≤ isn ∧ isn ≤ 4294967295))) ∧ w' = w) := fun w => specIp_any isn w
  have t1 : decide ((65536 : Int) < (mc.size : Int)) = false := decide_eq_false (by omega)
  have BW : Hid (Below w.heap.size w ((w.alloc (.cells #[.int .i64 sp, .int .i64 dp, .int .i64 sq, .int .i64 ac, .int .i64 fl, .int .i64 wi, .string da] 27)).alloc (.cells #[.string ⟨#[]⟩, .int .i64 0, .int .i64 0, .int .i64 0, .int .i64 0, .int .i64 0, .int .i64 0, .int .i64 0, .string ⟨#[]⟩, .string ⟨#[]⟩, .bool false] 24))) := (((Below.refl _ _).alloc (Nat.le_refl _) _).alloc (by simp) _)
  have EB : opB mc ip di ⟨sp, dp, sq, ac, fl, wi, da⟩ = (((mc.size : Int) == 6) && dec (0 ≤ ip ∧ ip ≤ 4294967295) && dec (0 ≤ di ∧ di ≤ 4294967295) && sgB ⟨sp, dp, sq, ac, fl, wi, da⟩) := rfl
  have HB : Hid (opB mc ip di ⟨sp, dp, sq, ac, fl, wi, da⟩ = false → opC mc ip di ⟨sp, dp, sq, ac, fl, wi, da⟩ isn = 1) := fun h => (op_bad hl h).1
  have HR : Hid (opB mc ip di ⟨sp, dp, sq, ac, fl, wi, da⟩ = true → dec (0 ≤ isn ∧ isn ≤ 4294967295) = false → opC mc ip di ⟨sp, dp, sq, ac, fl, wi, da⟩ isn = 4) := fun h h2 => (op_range hl h (fun h3 => by rw [dec_y h3] at h2; cases h2)).1
  have HS : Hid (opB mc ip di ⟨sp, dp, sq, ac, fl, wi, da⟩ = true → dec (0 ≤ isn ∧ isn ≤ 4294967295) = true → opC mc ip di ⟨sp, dp, sq, ac, fl, wi, da⟩ isn = 12 ∧ bits BinOp.and IntKind.i64 fl 23 ≠ 2) := fun h h2 => by
    have hi : 0 ≤ isn ∧ isn ≤ 4294967295 := by
      by_cases h3 : 0 ≤ isn ∧ isn ≤ 4294967295
      · exact h3
      · rw [dec_n h3] at h2; cases h2
    by_cases hf : bits BinOp.and IntKind.i64 fl 23 = 2
    · exact absurd (op_ok (g := ⟨sp, dp, sq, ac, fl, wi, da⟩) hl h hi hf).1 hno
    · exact ⟨(op_state (g := ⟨sp, dp, sq, ac, fl, wi, da⟩) hl h hi hf).1, hf⟩
  clear hno
  generalize opC mc ip di ⟨sp, dp, sq, ac, fl, wi, da⟩ isn = C at HB HR HS ⊢
  generalize opB mc ip di ⟨sp, dp, sq, ac, fl, wi, da⟩ = PB at EB HB HR HS
  generalize ((mc.size : Int) == 6) = m at T0 EB
  generalize dec (0 ≤ ip ∧ ip ≤ 4294967295) = a at T1 EB
  generalize dec (0 ≤ di ∧ di ≤ 4294967295) = b at T2 EB
  generalize sgB ⟨sp, dp, sq, ac, fl, wi, da⟩ = s at T3 EB
  generalize dec (0 ≤ isn ∧ isn ≤ 4294967295) = i at T4 HR HS
  cases m with
  | false =>
    obtain rfl := HB.out (by rw [EB]; rfl)
    clear HB HR HS EB hl
    go_enter Try.func24, Try.ntmps24
    go_wp2_with fail
    refine (T0.out _).mono ?_
    rintro e w1 ⟨rfl, hw⟩
    subst hw
    go_wp2
    (try simp only [Exit.inBlock, Exit.then])
    refine bodyPost_ret (v := .tuple #[cvA cnZ, .slice (some ⟨w.heap.size + 1 + 1, 0, none⟩) 0 0, .int .i64 1]) (by simp [results, Try.results24, go_sem, cvA, cnZ]; try rfl) rfl ?_
    exact ⟨_, rfl, lit_at (by omega) (by simp), BW.out.alloc (by simp; omega) _⟩
  | true =>
  cases a with
  | false =>
    obtain rfl := HB.out (by rw [EB]; rfl)
    clear HB HR HS EB hl
    go_enter Try.func24, Try.ntmps24
    go_wp2_with fail
    refine (T0.out _).mono ?_
    rintro e w1 ⟨rfl, hw⟩
    subst hw
    go_wp2_with fail
    refine (T1.out _).mono ?_
    rintro e w1 ⟨rfl, hw⟩
    subst hw
    go_wp2
    (try simp only [Exit.inBlock, Exit.then])
    refine bodyPost_ret (v := .tuple #[cvA cnZ, .slice (some ⟨w.heap.size + 1 + 1, 0, none⟩) 0 0, .int .i64 1]) (by simp [results, Try.results24, go_sem, cvA, cnZ]; try rfl) rfl ?_
    exact ⟨_, rfl, lit_at (by omega) (by simp), BW.out.alloc (by simp; omega) _⟩
  | true =>
  cases b with
  | false =>
    obtain rfl := HB.out (by rw [EB]; rfl)
    clear HB HR HS EB hl
    go_enter Try.func24, Try.ntmps24
    go_wp2_with fail
    refine (T0.out _).mono ?_
    rintro e w1 ⟨rfl, hw⟩
    subst hw
    go_wp2_with fail
    refine (T1.out _).mono ?_
    rintro e w1 ⟨rfl, hw⟩
    subst hw
    go_wp2_with fail
    refine (T2.out _).mono ?_
    rintro e w1 ⟨rfl, hw⟩
    subst hw
    go_wp2
    (try simp only [Exit.inBlock, Exit.then])
    refine bodyPost_ret (v := .tuple #[cvA cnZ, .slice (some ⟨w.heap.size + 1 + 1, 0, none⟩) 0 0, .int .i64 1]) (by simp [results, Try.results24, go_sem, cvA, cnZ]; try rfl) rfl ?_
    exact ⟨_, rfl, lit_at (by omega) (by simp), BW.out.alloc (by simp; omega) _⟩
  | true =>
  cases s with
  | false =>
    obtain rfl := HB.out (by rw [EB]; rfl)
    clear HB HR HS EB hl T4
    go_enter Try.func24, Try.ntmps24
    go_wp2_with fail
    refine (T0.out _).mono ?_
    rintro e w1 ⟨rfl, hw⟩
    subst hw
    go_wp2_with fail
    refine (T1.out _).mono ?_
    rintro e w1 ⟨rfl, hw⟩
    subst hw
    go_wp2_with fail
    refine (T2.out _).mono ?_
    rintro e w1 ⟨rfl, hw⟩
    subst hw
    go_wp2_with fail
    refine (T3.out _).mono ?_
    rintro e w1 ⟨rfl, g1⟩
    have b1 := g1.below
    have q0 : w1.cell? ⟨w.heap.size, 0, none⟩ = some (.int .i64 sp) := bkeep b1 (by simp [go_sem])
    have q1 : w1.cell? ⟨w.heap.size, 1, none⟩ = some (.int .i64 dp) := bkeep b1 (by simp [go_sem])
    have q2 : w1.cell? ⟨w.heap.size, 2, none⟩ = some (.int .i64 sq) := bkeep b1 (by simp [go_sem])
    have q3 : w1.cell? ⟨w.heap.size, 3, none⟩ = some (.int .i64 ac) := bkeep b1 (by simp [go_sem])
    have q4 : w1.cell? ⟨w.heap.size, 4, none⟩ = some (.int .i64 fl) := bkeep b1 (by simp [go_sem])
    have q5 : w1.cell? ⟨w.heap.size, 5, none⟩ = some (.int .i64 wi) := bkeep b1 (by simp [go_sem])
    have q6 : w1.cell? ⟨w.heap.size, 6, none⟩ = some (.string da) := bkeep b1 (by simp [go_sem])
    have z0 : w1.cell? ⟨w.heap.size + 1, 0, none⟩ = some (.string ⟨#[]⟩) := bkeep b1 (by simp [go_sem])
    have f0 : w1.frozen? ⟨w.heap.size + 1, 0, none⟩ = false := bthaw b1 (a := ⟨w.heap.size + 1, 0, none⟩) (v := .string ⟨#[]⟩) (by simp [go_sem]) (by simp [go_sem])
    have z1 : w1.cell? ⟨w.heap.size + 1, 1, none⟩ = some (.int .i64 0) := bkeep b1 (by simp [go_sem])
    have f1 : w1.frozen? ⟨w.heap.size + 1, 1, none⟩ = false := bthaw b1 (a := ⟨w.heap.size + 1, 1, none⟩) (v := .int .i64 0) (by simp [go_sem]) (by simp [go_sem])
    have z2 : w1.cell? ⟨w.heap.size + 1, 2, none⟩ = some (.int .i64 0) := bkeep b1 (by simp [go_sem])
    have f2 : w1.frozen? ⟨w.heap.size + 1, 2, none⟩ = false := bthaw b1 (a := ⟨w.heap.size + 1, 2, none⟩) (v := .int .i64 0) (by simp [go_sem]) (by simp [go_sem])
    have z3 : w1.cell? ⟨w.heap.size + 1, 3, none⟩ = some (.int .i64 0) := bkeep b1 (by simp [go_sem])
    have f3 : w1.frozen? ⟨w.heap.size + 1, 3, none⟩ = false := bthaw b1 (a := ⟨w.heap.size + 1, 3, none⟩) (v := .int .i64 0) (by simp [go_sem]) (by simp [go_sem])
    have z4 : w1.cell? ⟨w.heap.size + 1, 4, none⟩ = some (.int .i64 0) := bkeep b1 (by simp [go_sem])
    have f4 : w1.frozen? ⟨w.heap.size + 1, 4, none⟩ = false := bthaw b1 (a := ⟨w.heap.size + 1, 4, none⟩) (v := .int .i64 0) (by simp [go_sem]) (by simp [go_sem])
    have z5 : w1.cell? ⟨w.heap.size + 1, 5, none⟩ = some (.int .i64 0) := bkeep b1 (by simp [go_sem])
    have f5 : w1.frozen? ⟨w.heap.size + 1, 5, none⟩ = false := bthaw b1 (a := ⟨w.heap.size + 1, 5, none⟩) (v := .int .i64 0) (by simp [go_sem]) (by simp [go_sem])
    have z6 : w1.cell? ⟨w.heap.size + 1, 6, none⟩ = some (.int .i64 0) := bkeep b1 (by simp [go_sem])
    have f6 : w1.frozen? ⟨w.heap.size + 1, 6, none⟩ = false := bthaw b1 (a := ⟨w.heap.size + 1, 6, none⟩) (v := .int .i64 0) (by simp [go_sem]) (by simp [go_sem])
    have z7 : w1.cell? ⟨w.heap.size + 1, 7, none⟩ = some (.int .i64 0) := bkeep b1 (by simp [go_sem])
    have f7 : w1.frozen? ⟨w.heap.size + 1, 7, none⟩ = false := bthaw b1 (a := ⟨w.heap.size + 1, 7, none⟩) (v := .int .i64 0) (by simp [go_sem]) (by simp [go_sem])
    have z8 : w1.cell? ⟨w.heap.size + 1, 8, none⟩ = some (.string ⟨#[]⟩) := bkeep b1 (by simp [go_sem])
    have f8 : w1.frozen? ⟨w.heap.size + 1, 8, none⟩ = false := bthaw b1 (a := ⟨w.heap.size + 1, 8, none⟩) (v := .string ⟨#[]⟩) (by simp [go_sem]) (by simp [go_sem])
    have z9 : w1.cell? ⟨w.heap.size + 1, 9, none⟩ = some (.string ⟨#[]⟩) := bkeep b1 (by simp [go_sem])
    have f9 : w1.frozen? ⟨w.heap.size + 1, 9, none⟩ = false := bthaw b1 (a := ⟨w.heap.size + 1, 9, none⟩) (v := .string ⟨#[]⟩) (by simp [go_sem]) (by simp [go_sem])
    have z10 : w1.cell? ⟨w.heap.size + 1, 10, none⟩ = some (.bool false) := bkeep b1 (by simp [go_sem])
    have f10 : w1.frozen? ⟨w.heap.size + 1, 10, none⟩ = false := bthaw b1 (a := ⟨w.heap.size + 1, 10, none⟩) (v := .bool false) (by simp [go_sem]) (by simp [go_sem])
    have B1 : Hid (Below w.heap.size w w1) := BW.out.trans (b1.mono (by simp; omega))
    have hs1 : w.heap.size + 2 ≤ w1.heap.size := by have := b1.size; simp at this; omega
    have za0 : (w1.alloc (.cells #[] 27)).cell? ⟨w.heap.size + 1, 0, none⟩ = some (.string ⟨#[]⟩) := acell z0 _
    have fa0 : (w1.alloc (.cells #[] 27)).frozen? ⟨w.heap.size + 1, 0, none⟩ = false := bthaw ((Below.refl _ _).alloc (Nat.le_refl _) _) z0 f0
    have za1 : (w1.alloc (.cells #[] 27)).cell? ⟨w.heap.size + 1, 1, none⟩ = some (.int .i64 0) := acell z1 _
    have fa1 : (w1.alloc (.cells #[] 27)).frozen? ⟨w.heap.size + 1, 1, none⟩ = false := bthaw ((Below.refl _ _).alloc (Nat.le_refl _) _) z1 f1
    have za2 : (w1.alloc (.cells #[] 27)).cell? ⟨w.heap.size + 1, 2, none⟩ = some (.int .i64 0) := acell z2 _
    have fa2 : (w1.alloc (.cells #[] 27)).frozen? ⟨w.heap.size + 1, 2, none⟩ = false := bthaw ((Below.refl _ _).alloc (Nat.le_refl _) _) z2 f2
    have za3 : (w1.alloc (.cells #[] 27)).cell? ⟨w.heap.size + 1, 3, none⟩ = some (.int .i64 0) := acell z3 _
    have fa3 : (w1.alloc (.cells #[] 27)).frozen? ⟨w.heap.size + 1, 3, none⟩ = false := bthaw ((Below.refl _ _).alloc (Nat.le_refl _) _) z3 f3
    have za4 : (w1.alloc (.cells #[] 27)).cell? ⟨w.heap.size + 1, 4, none⟩ = some (.int .i64 0) := acell z4 _
    have fa4 : (w1.alloc (.cells #[] 27)).frozen? ⟨w.heap.size + 1, 4, none⟩ = false := bthaw ((Below.refl _ _).alloc (Nat.le_refl _) _) z4 f4
    have za5 : (w1.alloc (.cells #[] 27)).cell? ⟨w.heap.size + 1, 5, none⟩ = some (.int .i64 0) := acell z5 _
    have fa5 : (w1.alloc (.cells #[] 27)).frozen? ⟨w.heap.size + 1, 5, none⟩ = false := bthaw ((Below.refl _ _).alloc (Nat.le_refl _) _) z5 f5
    have za6 : (w1.alloc (.cells #[] 27)).cell? ⟨w.heap.size + 1, 6, none⟩ = some (.int .i64 0) := acell z6 _
    have fa6 : (w1.alloc (.cells #[] 27)).frozen? ⟨w.heap.size + 1, 6, none⟩ = false := bthaw ((Below.refl _ _).alloc (Nat.le_refl _) _) z6 f6
    have za7 : (w1.alloc (.cells #[] 27)).cell? ⟨w.heap.size + 1, 7, none⟩ = some (.int .i64 0) := acell z7 _
    have fa7 : (w1.alloc (.cells #[] 27)).frozen? ⟨w.heap.size + 1, 7, none⟩ = false := bthaw ((Below.refl _ _).alloc (Nat.le_refl _) _) z7 f7
    have za8 : (w1.alloc (.cells #[] 27)).cell? ⟨w.heap.size + 1, 8, none⟩ = some (.string ⟨#[]⟩) := acell z8 _
    have fa8 : (w1.alloc (.cells #[] 27)).frozen? ⟨w.heap.size + 1, 8, none⟩ = false := bthaw ((Below.refl _ _).alloc (Nat.le_refl _) _) z8 f8
    have za9 : (w1.alloc (.cells #[] 27)).cell? ⟨w.heap.size + 1, 9, none⟩ = some (.string ⟨#[]⟩) := acell z9 _
    have fa9 : (w1.alloc (.cells #[] 27)).frozen? ⟨w.heap.size + 1, 9, none⟩ = false := bthaw ((Below.refl _ _).alloc (Nat.le_refl _) _) z9 f9
    have za10 : (w1.alloc (.cells #[] 27)).cell? ⟨w.heap.size + 1, 10, none⟩ = some (.bool false) := acell z10 _
    have fa10 : (w1.alloc (.cells #[] 27)).frozen? ⟨w.heap.size + 1, 10, none⟩ = false := bthaw ((Below.refl _ _).alloc (Nat.le_refl _) _) z10 f10
    clear b1 g1 BW T3 T0 T1 T2 z0 f0 z1 f1 z2 f2 z3 f3 z4 f4 z5 f5 z6 f6 z7 f7 z8 f8 z9 f9 z10 f10
    go_wp2
    (try simp only [Exit.inBlock, Exit.then])
    refine bodyPost_ret (v := .tuple #[cvA cnZ, .slice (some ⟨w1.heap.size, 0, none⟩) 0 0, .int .i64 1]) (by simp [results, Try.results24, go_sem, cvA, cnZ, za0, za1, za2, za3, za4, za5, za6, za7, za8, za9, za10]; try rfl) rfl ?_
    exact ⟨_, rfl, ((((((((((((OwnS.lit w1 (w.heap.size + 2) hs1).far ⟨w.heap.size + 1, 0, none⟩ _ (by simp)).far _ _ (by simp)).far _ _ (by simp)).far _ _ (by simp)).far _ _ (by simp)).far _ _ (by simp)).far _ _ (by simp)).far _ _ (by simp)).far _ _ (by simp)).far _ _ (by simp)).far _ _ (by simp)).lower (by omega), (((((((((((B1.out.alloc B1.out.size _).setCell (p := ⟨w.heap.size + 1, 0, none⟩) (Nat.le_succ _) _).setCell (Nat.le_succ _) _).setCell (Nat.le_succ _) _).setCell (Nat.le_succ _) _).setCell (Nat.le_succ _) _).setCell (Nat.le_succ _) _).setCell (Nat.le_succ _) _).setCell (Nat.le_succ _) _).setCell (Nat.le_succ _) _).setCell (Nat.le_succ _) _).setCell (Nat.le_succ _) _⟩
  | true =>
  have hPB : PB = true := by rw [EB]; rfl
  cases i with
  | false =>
    obtain rfl := HR.out hPB rfl
    clear HB HR HS EB hl hPB
    go_enter Try.func24, Try.ntmps24
    go_wp2_with fail
    refine (T0.out _).mono ?_
    rintro e w1 ⟨rfl, hw⟩
    subst hw
    go_wp2_with fail
    refine (T1.out _).mono ?_
    rintro e w1 ⟨rfl, hw⟩
    subst hw
    go_wp2_with fail
    refine (T2.out _).mono ?_
    rintro e w1 ⟨rfl, hw⟩
    subst hw
    go_wp2_with fail
    refine (T3.out _).mono ?_
    rintro e w1 ⟨rfl, g1⟩
    have b1 := g1.below
    have q0 : w1.cell? ⟨w.heap.size, 0, none⟩ = some (.int .i64 sp) := bkeep b1 (by simp [go_sem])
    have q1 : w1.cell? ⟨w.heap.size, 1, none⟩ = some (.int .i64 dp) := bkeep b1 (by simp [go_sem])
    have q2 : w1.cell? ⟨w.heap.size, 2, none⟩ = some (.int .i64 sq) := bkeep b1 (by simp [go_sem])
    have q3 : w1.cell? ⟨w.heap.size, 3, none⟩ = some (.int .i64 ac) := bkeep b1 (by simp [go_sem])
    have q4 : w1.cell? ⟨w.heap.size, 4, none⟩ = some (.int .i64 fl) := bkeep b1 (by simp [go_sem])
    have q5 : w1.cell? ⟨w.heap.size, 5, none⟩ = some (.int .i64 wi) := bkeep b1 (by simp [go_sem])
    have q6 : w1.cell? ⟨w.heap.size, 6, none⟩ = some (.string da) := bkeep b1 (by simp [go_sem])
    have z0 : w1.cell? ⟨w.heap.size + 1, 0, none⟩ = some (.string ⟨#[]⟩) := bkeep b1 (by simp [go_sem])
    have f0 : w1.frozen? ⟨w.heap.size + 1, 0, none⟩ = false := bthaw b1 (a := ⟨w.heap.size + 1, 0, none⟩) (v := .string ⟨#[]⟩) (by simp [go_sem]) (by simp [go_sem])
    have z1 : w1.cell? ⟨w.heap.size + 1, 1, none⟩ = some (.int .i64 0) := bkeep b1 (by simp [go_sem])
    have f1 : w1.frozen? ⟨w.heap.size + 1, 1, none⟩ = false := bthaw b1 (a := ⟨w.heap.size + 1, 1, none⟩) (v := .int .i64 0) (by simp [go_sem]) (by simp [go_sem])
    have z2 : w1.cell? ⟨w.heap.size + 1, 2, none⟩ = some (.int .i64 0) := bkeep b1 (by simp [go_sem])
    have f2 : w1.frozen? ⟨w.heap.size + 1, 2, none⟩ = false := bthaw b1 (a := ⟨w.heap.size + 1, 2, none⟩) (v := .int .i64 0) (by simp [go_sem]) (by simp [go_sem])
    have z3 : w1.cell? ⟨w.heap.size + 1, 3, none⟩ = some (.int .i64 0) := bkeep b1 (by simp [go_sem])
    have f3 : w1.frozen? ⟨w.heap.size + 1, 3, none⟩ = false := bthaw b1 (a := ⟨w.heap.size + 1, 3, none⟩) (v := .int .i64 0) (by simp [go_sem]) (by simp [go_sem])
    have z4 : w1.cell? ⟨w.heap.size + 1, 4, none⟩ = some (.int .i64 0) := bkeep b1 (by simp [go_sem])
    have f4 : w1.frozen? ⟨w.heap.size + 1, 4, none⟩ = false := bthaw b1 (a := ⟨w.heap.size + 1, 4, none⟩) (v := .int .i64 0) (by simp [go_sem]) (by simp [go_sem])
    have z5 : w1.cell? ⟨w.heap.size + 1, 5, none⟩ = some (.int .i64 0) := bkeep b1 (by simp [go_sem])
    have f5 : w1.frozen? ⟨w.heap.size + 1, 5, none⟩ = false := bthaw b1 (a := ⟨w.heap.size + 1, 5, none⟩) (v := .int .i64 0) (by simp [go_sem]) (by simp [go_sem])
    have z6 : w1.cell? ⟨w.heap.size + 1, 6, none⟩ = some (.int .i64 0) := bkeep b1 (by simp [go_sem])
    have f6 : w1.frozen? ⟨w.heap.size + 1, 6, none⟩ = false := bthaw b1 (a := ⟨w.heap.size + 1, 6, none⟩) (v := .int .i64 0) (by simp [go_sem]) (by simp [go_sem])
    have z7 : w1.cell? ⟨w.heap.size + 1, 7, none⟩ = some (.int .i64 0) := bkeep b1 (by simp [go_sem])
    have f7 : w1.frozen? ⟨w.heap.size + 1, 7, none⟩ = false := bthaw b1 (a := ⟨w.heap.size + 1, 7, none⟩) (v := .int .i64 0) (by simp [go_sem]) (by simp [go_sem])
    have z8 : w1.cell? ⟨w.heap.size + 1, 8, none⟩ = some (.string ⟨#[]⟩) := bkeep b1 (by simp [go_sem])
    have f8 : w1.frozen? ⟨w.heap.size + 1, 8, none⟩ = false := bthaw b1 (a := ⟨w.heap.size + 1, 8, none⟩) (v := .string ⟨#[]⟩) (by simp [go_sem]) (by simp [go_sem])
    have z9 : w1.cell? ⟨w.heap.size + 1, 9, none⟩ = some (.string ⟨#[]⟩) := bkeep b1 (by simp [go_sem])
    have f9 : w1.frozen? ⟨w.heap.size + 1, 9, none⟩ = false := bthaw b1 (a := ⟨w.heap.size + 1, 9, none⟩) (v := .string ⟨#[]⟩) (by simp [go_sem]) (by simp [go_sem])
    have z10 : w1.cell? ⟨w.heap.size + 1, 10, none⟩ = some (.bool false) := bkeep b1 (by simp [go_sem])
    have f10 : w1.frozen? ⟨w.heap.size + 1, 10, none⟩ = false := bthaw b1 (a := ⟨w.heap.size + 1, 10, none⟩) (v := .bool false) (by simp [go_sem]) (by simp [go_sem])
    have B1 : Hid (Below w.heap.size w w1) := BW.out.trans (b1.mono (by simp; omega))
    have hs1 : w.heap.size + 2 ≤ w1.heap.size := by have := b1.size; simp at this; omega
    have za0 : (w1.alloc (.cells #[] 27)).cell? ⟨w.heap.size + 1, 0, none⟩ = some (.string ⟨#[]⟩) := acell z0 _
    have fa0 : (w1.alloc (.cells #[] 27)).frozen? ⟨w.heap.size + 1, 0, none⟩ = false := bthaw ((Below.refl _ _).alloc (Nat.le_refl _) _) z0 f0
    have za1 : (w1.alloc (.cells #[] 27)).cell? ⟨w.heap.size + 1, 1, none⟩ = some (.int .i64 0) := acell z1 _
    have fa1 : (w1.alloc (.cells #[] 27)).frozen? ⟨w.heap.size + 1, 1, none⟩ = false := bthaw ((Below.refl _ _).alloc (Nat.le_refl _) _) z1 f1
    have za2 : (w1.alloc (.cells #[] 27)).cell? ⟨w.heap.size + 1, 2, none⟩ = some (.int .i64 0) := acell z2 _
    have fa2 : (w1.alloc (.cells #[] 27)).frozen? ⟨w.heap.size + 1, 2, none⟩ = false := bthaw ((Below.refl _ _).alloc (Nat.le_refl _) _) z2 f2
    have za3 : (w1.alloc (.cells #[] 27)).cell? ⟨w.heap.size + 1, 3, none⟩ = some (.int .i64 0) := acell z3 _
    have fa3 : (w1.alloc (.cells #[] 27)).frozen? ⟨w.heap.size + 1, 3, none⟩ = false := bthaw ((Below.refl _ _).alloc (Nat.le_refl _) _) z3 f3
    have za4 : (w1.alloc (.cells #[] 27)).cell? ⟨w.heap.size + 1, 4, none⟩ = some (.int .i64 0) := acell z4 _
    have fa4 : (w1.alloc (.cells #[] 27)).frozen? ⟨w.heap.size + 1, 4, none⟩ = false := bthaw ((Below.refl _ _).alloc (Nat.le_refl _) _) z4 f4
    have za5 : (w1.alloc (.cells #[] 27)).cell? ⟨w.heap.size + 1, 5, none⟩ = some (.int .i64 0) := acell z5 _
    have fa5 : (w1.alloc (.cells #[] 27)).frozen? ⟨w.heap.size + 1, 5, none⟩ = false := bthaw ((Below.refl _ _).alloc (Nat.le_refl _) _) z5 f5
    have za6 : (w1.alloc (.cells #[] 27)).cell? ⟨w.heap.size + 1, 6, none⟩ = some (.int .i64 0) := acell z6 _
    have fa6 : (w1.alloc (.cells #[] 27)).frozen? ⟨w.heap.size + 1, 6, none⟩ = false := bthaw ((Below.refl _ _).alloc (Nat.le_refl _) _) z6 f6
    have za7 : (w1.alloc (.cells #[] 27)).cell? ⟨w.heap.size + 1, 7, none⟩ = some (.int .i64 0) := acell z7 _
    have fa7 : (w1.alloc (.cells #[] 27)).frozen? ⟨w.heap.size + 1, 7, none⟩ = false := bthaw ((Below.refl _ _).alloc (Nat.le_refl _) _) z7 f7
    have za8 : (w1.alloc (.cells #[] 27)).cell? ⟨w.heap.size + 1, 8, none⟩ = some (.string ⟨#[]⟩) := acell z8 _
    have fa8 : (w1.alloc (.cells #[] 27)).frozen? ⟨w.heap.size + 1, 8, none⟩ = false := bthaw ((Below.refl _ _).alloc (Nat.le_refl _) _) z8 f8
    have za9 : (w1.alloc (.cells #[] 27)).cell? ⟨w.heap.size + 1, 9, none⟩ = some (.string ⟨#[]⟩) := acell z9 _
    have fa9 : (w1.alloc (.cells #[] 27)).frozen? ⟨w.heap.size + 1, 9, none⟩ = false := bthaw ((Below.refl _ _).alloc (Nat.le_refl _) _) z9 f9
    have za10 : (w1.alloc (.cells #[] 27)).cell? ⟨w.heap.size + 1, 10, none⟩ = some (.bool false) := acell z10 _
    have fa10 : (w1.alloc (.cells #[] 27)).frozen? ⟨w.heap.size + 1, 10, none⟩ = false := bthaw ((Below.refl _ _).alloc (Nat.le_refl _) _) z10 f10
    clear b1 g1 BW T3 T0 T1 T2 z0 f0 z1 f1 z2 f2 z3 f3 z4 f4 z5 f5 z6 f6 z7 f7 z8 f8 z9 f9 z10 f10
    go_wp2_with fail
    refine (T4.out _).mono ?_
    rintro e w1 ⟨rfl, hw⟩
    subst hw
    go_wp2
    (try simp only [Exit.inBlock, Exit.then])
    refine bodyPost_ret (v := .tuple #[cvA cnZ, .slice (some ⟨w1.heap.size, 0, none⟩) 0 0, .int .i64 4]) (by simp [results, Try.results24, go_sem, cvA, cnZ, za0, za1, za2, za3, za4, za5, za6, za7, za8, za9, za10]; try rfl) rfl ?_
    exact ⟨_, rfl, ((((((((((((OwnS.lit w1 (w.heap.size + 2) hs1).far ⟨w.heap.size + 1, 0, none⟩ _ (by simp)).far _ _ (by simp)).far _ _ (by simp)).far _ _ (by simp)).far _ _ (by simp)).far _ _ (by simp)).far _ _ (by simp)).far _ _ (by simp)).far _ _ (by simp)).far _ _ (by simp)).far _ _ (by simp)).lower (by omega), (((((((((((B1.out.alloc B1.out.size _).setCell (p := ⟨w.heap.size + 1, 0, none⟩) (Nat.le_succ _) _).setCell (Nat.le_succ _) _).setCell (Nat.le_succ _) _).setCell (Nat.le_succ _) _).setCell (Nat.le_succ _) _).setCell (Nat.le_succ _) _).setCell (Nat.le_succ _) _).setCell (Nat.le_succ _) _).setCell (Nat.le_succ _) _).setCell (Nat.le_succ _) _).setCell (Nat.le_succ _) _⟩
  | true =>
    obtain ⟨rfl, hf⟩ := HS.out hPB rfl
    have t2 : (bits BinOp.and IntKind.i64 fl 23 != 2) = true := by simp [hf]
    clear HB HR HS EB hl hPB hf
    go_enter Try.func24, Try.ntmps24
    go_wp2_with fail
    refine (T0.out _).mono ?_
    rintro e w1 ⟨rfl, hw⟩
    subst hw
    go_wp2_with fail
    refine (T1.out _).mono ?_
    rintro e w1 ⟨rfl, hw⟩
    subst hw
    go_wp2_with fail
    refine (T2.out _).mono ?_
    rintro e w1 ⟨rfl, hw⟩
    subst hw
    go_wp2_with fail
    refine (T3.out _).mono ?_
    rintro e w1 ⟨rfl, g1⟩
    have b1 := g1.below
    have q0 : w1.cell? ⟨w.heap.size, 0, none⟩ = some (.int .i64 sp) := bkeep b1 (by simp [go_sem])
    have q1 : w1.cell? ⟨w.heap.size, 1, none⟩ = some (.int .i64 dp) := bkeep b1 (by simp [go_sem])
    have q2 : w1.cell? ⟨w.heap.size, 2, none⟩ = some (.int .i64 sq) := bkeep b1 (by simp [go_sem])
    have q3 : w1.cell? ⟨w.heap.size, 3, none⟩ = some (.int .i64 ac) := bkeep b1 (by simp [go_sem])
    have q4 : w1.cell? ⟨w.heap.size, 4, none⟩ = some (.int .i64 fl) := bkeep b1 (by simp [go_sem])
    have q5 : w1.cell? ⟨w.heap.size, 5, none⟩ = some (.int .i64 wi) := bkeep b1 (by simp [go_sem])
    have q6 : w1.cell? ⟨w.heap.size, 6, none⟩ = some (.string da) := bkeep b1 (by simp [go_sem])
    have z0 : w1.cell? ⟨w.heap.size + 1, 0, none⟩ = some (.string ⟨#[]⟩) := bkeep b1 (by simp [go_sem])
    have f0 : w1.frozen? ⟨w.heap.size + 1, 0, none⟩ = false := bthaw b1 (a := ⟨w.heap.size + 1, 0, none⟩) (v := .string ⟨#[]⟩) (by simp [go_sem]) (by simp [go_sem])
    have z1 : w1.cell? ⟨w.heap.size + 1, 1, none⟩ = some (.int .i64 0) := bkeep b1 (by simp [go_sem])
    have f1 : w1.frozen? ⟨w.heap.size + 1, 1, none⟩ = false := bthaw b1 (a := ⟨w.heap.size + 1, 1, none⟩) (v := .int .i64 0) (by simp [go_sem]) (by simp [go_sem])
    have z2 : w1.cell? ⟨w.heap.size + 1, 2, none⟩ = some (.int .i64 0) := bkeep b1 (by simp [go_sem])
    have f2 : w1.frozen? ⟨w.heap.size + 1, 2, none⟩ = false := bthaw b1 (a := ⟨w.heap.size + 1, 2, none⟩) (v := .int .i64 0) (by simp [go_sem]) (by simp [go_sem])
    have z3 : w1.cell? ⟨w.heap.size + 1, 3, none⟩ = some (.int .i64 0) := bkeep b1 (by simp [go_sem])
    have f3 : w1.frozen? ⟨w.heap.size + 1, 3, none⟩ = false := bthaw b1 (a := ⟨w.heap.size + 1, 3, none⟩) (v := .int .i64 0) (by simp [go_sem]) (by simp [go_sem])
    have z4 : w1.cell? ⟨w.heap.size + 1, 4, none⟩ = some (.int .i64 0) := bkeep b1 (by simp [go_sem])
    have f4 : w1.frozen? ⟨w.heap.size + 1, 4, none⟩ = false := bthaw b1 (a := ⟨w.heap.size + 1, 4, none⟩) (v := .int .i64 0) (by simp [go_sem]) (by simp [go_sem])
    have z5 : w1.cell? ⟨w.heap.size + 1, 5, none⟩ = some (.int .i64 0) := bkeep b1 (by simp [go_sem])
    have f5 : w1.frozen? ⟨w.heap.size + 1, 5, none⟩ = false := bthaw b1 (a := ⟨w.heap.size + 1, 5, none⟩) (v := .int .i64 0) (by simp [go_sem]) (by simp [go_sem])
    have z6 : w1.cell? ⟨w.heap.size + 1, 6, none⟩ = some (.int .i64 0) := bkeep b1 (by simp [go_sem])
    have f6 : w1.frozen? ⟨w.heap.size + 1, 6, none⟩ = false := bthaw b1 (a := ⟨w.heap.size + 1, 6, none⟩) (v := .int .i64 0) (by simp [go_sem]) (by simp [go_sem])
    have z7 : w1.cell? ⟨w.heap.size + 1, 7, none⟩ = some (.int .i64 0) := bkeep b1 (by simp [go_sem])
    have f7 : w1.frozen? ⟨w.heap.size + 1, 7, none⟩ = false := bthaw b1 (a := ⟨w.heap.size + 1, 7, none⟩) (v := .int .i64 0) (by simp [go_sem]) (by simp [go_sem])
    have z8 : w1.cell? ⟨w.heap.size + 1, 8, none⟩ = some (.string ⟨#[]⟩) := bkeep b1 (by simp [go_sem])
    have f8 : w1.frozen? ⟨w.heap.size + 1, 8, none⟩ = false := bthaw b1 (a := ⟨w.heap.size + 1, 8, none⟩) (v := .string ⟨#[]⟩) (by simp [go_sem]) (by simp [go_sem])
    have z9 : w1.cell? ⟨w.heap.size + 1, 9, none⟩ = some (.string ⟨#[]⟩) := bkeep b1 (by simp [go_sem])
    have f9 : w1.frozen? ⟨w.heap.size + 1, 9, none⟩ = false := bthaw b1 (a := ⟨w.heap.size + 1, 9, none⟩) (v := .string ⟨#[]⟩) (by simp [go_sem]) (by simp [go_sem])
    have z10 : w1.cell? ⟨w.heap.size + 1, 10, none⟩ = some (.bool false) := bkeep b1 (by simp [go_sem])
    have f10 : w1.frozen? ⟨w.heap.size + 1, 10, none⟩ = false := bthaw b1 (a := ⟨w.heap.size + 1, 10, none⟩) (v := .bool false) (by simp [go_sem]) (by simp [go_sem])
    have B1 : Hid (Below w.heap.size w w1) := BW.out.trans (b1.mono (by simp; omega))
    have hs1 : w.heap.size + 2 ≤ w1.heap.size := by have := b1.size; simp at this; omega
    have za0 : (w1.alloc (.cells #[] 27)).cell? ⟨w.heap.size + 1, 0, none⟩ = some (.string ⟨#[]⟩) := acell z0 _
    have fa0 : (w1.alloc (.cells #[] 27)).frozen? ⟨w.heap.size + 1, 0, none⟩ = false := bthaw ((Below.refl _ _).alloc (Nat.le_refl _) _) z0 f0
    have za1 : (w1.alloc (.cells #[] 27)).cell? ⟨w.heap.size + 1, 1, none⟩ = some (.int .i64 0) := acell z1 _
    have fa1 : (w1.alloc (.cells #[] 27)).frozen? ⟨w.heap.size + 1, 1, none⟩ = false := bthaw ((Below.refl _ _).alloc (Nat.le_refl _) _) z1 f1
    have za2 : (w1.alloc (.cells #[] 27)).cell? ⟨w.heap.size + 1, 2, none⟩ = some (.int .i64 0) := acell z2 _
    have fa2 : (w1.alloc (.cells #[] 27)).frozen? ⟨w.heap.size + 1, 2, none⟩ = false := bthaw ((Below.refl _ _).alloc (Nat.le_refl _) _) z2 f2
    have za3 : (w1.alloc (.cells #[] 27)).cell? ⟨w.heap.size + 1, 3, none⟩ = some (.int .i64 0) := acell z3 _
    have fa3 : (w1.alloc (.cells #[] 27)).frozen? ⟨w.heap.size + 1, 3, none⟩ = false := bthaw ((Below.refl _ _).alloc (Nat.le_refl _) _) z3 f3
    have za4 : (w1.alloc (.cells #[] 27)).cell? ⟨w.heap.size + 1, 4, none⟩ = some (.int .i64 0) := acell z4 _
    have fa4 : (w1.alloc (.cells #[] 27)).frozen? ⟨w.heap.size + 1, 4, none⟩ = false := bthaw ((Below.refl _ _).alloc (Nat.le_refl _) _) z4 f4
    have za5 : (w1.alloc (.cells #[] 27)).cell? ⟨w.heap.size + 1, 5, none⟩ = some (.int .i64 0) := acell z5 _
    have fa5 : (w1.alloc (.cells #[] 27)).frozen? ⟨w.heap.size + 1, 5, none⟩ = false := bthaw ((Below.refl _ _).alloc (Nat.le_refl _) _) z5 f5
    have za6 : (w1.alloc (.cells #[] 27)).cell? ⟨w.heap.size + 1, 6, none⟩ = some (.int .i64 0) := acell z6 _
    have fa6 : (w1.alloc (.cells #[] 27)).frozen? ⟨w.heap.size + 1, 6, none⟩ = false := bthaw ((Below.refl _ _).alloc (Nat.le_refl _) _) z6 f6
    have za7 : (w1.alloc (.cells #[] 27)).cell? ⟨w.heap.size + 1, 7, none⟩ = some (.int .i64 0) := acell z7 _
    have fa7 : (w1.alloc (.cells #[] 27)).frozen? ⟨w.heap.size + 1, 7, none⟩ = false := bthaw ((Below.refl _ _).alloc (Nat.le_refl _) _) z7 f7
    have za8 : (w1.alloc (.cells #[] 27)).cell? ⟨w.heap.size + 1, 8, none⟩ = some (.string ⟨#[]⟩) := acell z8 _
    have fa8 : (w1.alloc (.cells #[] 27)).frozen? ⟨w.heap.size + 1, 8, none⟩ = false := bthaw ((Below.refl _ _).alloc (Nat.le_refl _) _) z8 f8
    have za9 : (w1.alloc (.cells #[] 27)).cell? ⟨w.heap.size + 1, 9, none⟩ = some (.string ⟨#[]⟩) := acell z9 _
    have fa9 : (w1.alloc (.cells #[] 27)).frozen? ⟨w.heap.size + 1, 9, none⟩ = false := bthaw ((Below.refl _ _).alloc (Nat.le_refl _) _) z9 f9
    have za10 : (w1.alloc (.cells #[] 27)).cell? ⟨w.heap.size + 1, 10, none⟩ = some (.bool false) := acell z10 _
    have fa10 : (w1.alloc (.cells #[] 27)).frozen? ⟨w.heap.size + 1, 10, none⟩ = false := bthaw ((Below.refl _ _).alloc (Nat.le_refl _) _) z10 f10
    clear b1 g1 BW T3 T0 T1 T2 z0 f0 z1 f1 z2 f2 z3 f3 z4 f4 z5 f5 z6 f6 z7 f7 z8 f8 z9 f9 z10 f10
    go_wp2_with fail
    refine (T4.out _).mono ?_
    rintro e w1 ⟨rfl, hw⟩
    subst hw
    go_wp2
    (try simp only [Exit.inBlock, Exit.then])
    refine bodyPost_ret (v := .tuple #[cvA cnZ, .slice (some ⟨w1.heap.size, 0, none⟩) 0 0, .int .i64 12]) (by simp [results, Try.results24, go_sem, cvA, cnZ, za0, za1, za2, za3, za4, za5, za6, za7, za8, za9, za10]; try rfl) rfl ?_
    exact ⟨_, rfl, ((((((((((((OwnS.lit w1 (w.heap.size + 2) hs1).far ⟨w.heap.size + 1, 0, none⟩ _ (by simp)).far _ _ (by simp)).far _ _ (by simp)).far _ _ (by simp)).far _ _ (by simp)).far _ _ (by simp)).far _ _ (by simp)).far _ _ (by simp)).far _ _ (by simp)).far _ _ (by simp)).far _ _ (by simp)).lower (by omega), (((((((((((B1.out.alloc B1.out.size _).setCell (p := ⟨w.heap.size + 1, 0, none⟩) (Nat.le_succ _) _).setCell (Nat.le_succ _) _).setCell (Nat.le_succ _) _).setCell (Nat.le_succ _) _).setCell (Nat.le_succ _) _).setCell (Nat.le_succ _) _).setCell (Nat.le_succ _) _).setCell (Nat.le_succ _) _).setCell (Nat.le_succ _) _).setCell (Nat.le_succ _) _).setCell (Nat.le_succ _) _⟩

set_option maxHeartbeats 8000000 in
theorem implOp_few (mc : ByteArray) (ip di : Int) (sp dp sq ac fl wi : Int) (da : ByteArray) (isn : Int) (w : World) (hl : ¬ 65536 < mc.size) (hda : da.size ≤ 9223372036854775807) (hs : sp ≤ 9223372036854775807) (hd : dp ≤ 9223372036854775807) (hq : sq ≤ 9223372036854775807) (ha : ac ≤ 9223372036854775807) (hw : wi ≤ 9223372036854775807) (hno : opC mc ip di ⟨sp, dp, sq, ac, fl, wi, da⟩ isn ≠ 0) :
    Calls Try.prog 17 #[.string mc, .int .i64 ip, .int .i64 di, .agg #[.int .i64 sp, .int .i64 dp, .int .i64 sq, .int .i64 ac, .int .i64 fl, .int .i64 wi, .string da], .int .i64 isn] w fun e w' => ∃ v, e = .returned (.tuple #[cvA cnZ, v, .int .i64 (opC mc ip di ⟨sp, dp, sq, ac, fl, wi, da⟩ isn)]) ∧ OwnS sgG 7 27 w' w.heap.size v [] ∧ Below w.heap.size w w' := by
  have T0 : Hid (∀ w, Calls Try.prog 48 #[.string mc] w fun e w' => e = .returned (.bool ((mc.size : Int) == 6)) ∧ w' = w) := fun w => isMac_b mc _ rfl w
  have T1 : Hid (∀ w, Calls Try.prog 49 #[.int .i64 ip] w fun e w' => e = .returned (.bool (dec (0 ≤ ip ∧ ip ≤ 4294967295))) ∧ w' = w) := fun w => addressOK_any ip w
  have T2 : Hid (∀ w, Calls Try.prog 49 #[.int .i64 di] w fun e w' => e = .returned (.bool (dec (0 ≤ di ∧ di ≤ 4294967295))) ∧ w' = w) := fun w => addressOK_any di w
  have T3 : Hid (∀ w, Calls Try.prog 35 #[.agg #[.int .i64 sp, .int .i64 dp, .int .i64 sq, .int .i64 ac, .int .i64 fl, .int .i64 wi, .string da]] w fun e w' => e = .returned (.bool (sgB ⟨sp, dp, sq, ac, fl, wi, da⟩)) ∧ Grw w w') := fun w => segOK9_any sp dp sq ac fl wi da w hs hd hq ha hw hda
  have T4 : Hid (∀ w, Calls Try.prog 50 #[.int .i64 isn] w fun e w' => e = .returned (.bool (dec (0 ≤ isn ∧ isn ≤ 4294967295))) ∧ w' = w) := fun w => seqOK_any isn w
  have t1 : decide ((65536 : Int) < (mc.size : Int)) = false := decide_eq_false (by omega)
  have BW : Hid (Below w.heap.size w ((w.alloc (.cells #[.int .i64 sp, .int .i64 dp, .int .i64 sq, .int .i64 ac, .int .i64 fl, .int .i64 wi, .string da] 27)).alloc (.cells #[.string ⟨#[]⟩, .int .i64 0, .int .i64 0, .int .i64 0, .int .i64 0, .int .i64 0, .int .i64 0, .int .i64 0, .string ⟨#[]⟩, .string ⟨#[]⟩, .bool false] 24))) := (((Below.refl _ _).alloc (Nat.le_refl _) _).alloc (by simp) _)
  have EB : opB mc ip di ⟨sp, dp, sq, ac, fl, wi, da⟩ = (((mc.size : Int) == 6) && dec (0 ≤ ip ∧ ip ≤ 4294967295) && dec (0 ≤ di ∧ di ≤ 4294967295) && sgB ⟨sp, dp, sq, ac, fl, wi, da⟩) := rfl
  have HB : Hid (opB mc ip di ⟨sp, dp, sq, ac, fl, wi, da⟩ = false → opC mc ip di ⟨sp, dp, sq, ac, fl, wi, da⟩ isn = 1) := fun h => (op_bad hl h).1
  have HR : Hid (opB mc ip di ⟨sp, dp, sq, ac, fl, wi, da⟩ = true → dec (0 ≤ isn ∧ isn ≤ 4294967295) = false → opC mc ip di ⟨sp, dp, sq, ac, fl, wi, da⟩ isn = 4) := fun h h2 => (op_range hl h (fun h3 => by rw [dec_y h3] at h2; cases h2)).1
  have HS : Hid (opB mc ip di ⟨sp, dp, sq, ac, fl, wi, da⟩ = true → dec (0 ≤ isn ∧ isn ≤ 4294967295) = true → opC mc ip di ⟨sp, dp, sq, ac, fl, wi, da⟩ isn = 12 ∧ bits BinOp.and IntKind.i64 fl 23 ≠ 2) := fun h h2 => by
    have hi : 0 ≤ isn ∧ isn ≤ 4294967295 := by
      by_cases h3 : 0 ≤ isn ∧ isn ≤ 4294967295
      · exact h3
      · rw [dec_n h3] at h2; cases h2
    by_cases hf : bits BinOp.and IntKind.i64 fl 23 = 2
    · exact absurd (op_ok (g := ⟨sp, dp, sq, ac, fl, wi, da⟩) hl h hi hf).1 hno
    · exact ⟨(op_state (g := ⟨sp, dp, sq, ac, fl, wi, da⟩) hl h hi hf).1, hf⟩
  clear hno
  generalize opC mc ip di ⟨sp, dp, sq, ac, fl, wi, da⟩ isn = C at HB HR HS ⊢
  generalize opB mc ip di ⟨sp, dp, sq, ac, fl, wi, da⟩ = PB at EB HB HR HS
  generalize ((mc.size : Int) == 6) = m at T0 EB
  generalize dec (0 ≤ ip ∧ ip ≤ 4294967295) = a at T1 EB
  generalize dec (0 ≤ di ∧ di ≤ 4294967295) = b at T2 EB
  generalize sgB ⟨sp, dp, sq, ac, fl, wi, da⟩ = s at T3 EB
  generalize dec (0 ≤ isn ∧ isn ≤ 4294967295) = i at T4 HR HS
  cases m with
  | false =>
    obtain rfl := HB.out (by rw [EB]; rfl)
    clear HB HR HS EB hl
    go_enter Try.func17, Try.ntmps17
    go_wp2_with fail
    refine (T0.out _).mono ?_
    rintro e w1 ⟨rfl, hw⟩
    subst hw
    go_wp2
    (try simp only [Exit.inBlock, Exit.then])
    refine bodyPost_ret (v := .tuple #[cvA cnZ, .slice none 0 0, .int .i64 1]) (by simp [results, Try.results17, go_sem, cvA, cnZ]; try rfl) rfl ?_
    exact ⟨_, rfl, OwnS.nil _ _, BW.out⟩
  | true =>
  cases a with
  | false =>
    obtain rfl := HB.out (by rw [EB]; rfl)
    clear HB HR HS EB hl
    go_enter Try.func17, Try.ntmps17
    go_wp2_with fail
    refine (T0.out _).mono ?_
    rintro e w1 ⟨rfl, hw⟩
    subst hw
    go_wp2_with fail
    refine (T1.out _).mono ?_
    rintro e w1 ⟨rfl, hw⟩
    subst hw
    go_wp2
    (try simp only [Exit.inBlock, Exit.then])
    refine bodyPost_ret (v := .tuple #[cvA cnZ, .slice none 0 0, .int .i64 1]) (by simp [results, Try.results17, go_sem, cvA, cnZ]; try rfl) rfl ?_
    exact ⟨_, rfl, OwnS.nil _ _, BW.out⟩
  | true =>
  cases b with
  | false =>
    obtain rfl := HB.out (by rw [EB]; rfl)
    clear HB HR HS EB hl
    go_enter Try.func17, Try.ntmps17
    go_wp2_with fail
    refine (T0.out _).mono ?_
    rintro e w1 ⟨rfl, hw⟩
    subst hw
    go_wp2_with fail
    refine (T1.out _).mono ?_
    rintro e w1 ⟨rfl, hw⟩
    subst hw
    go_wp2_with fail
    refine (T2.out _).mono ?_
    rintro e w1 ⟨rfl, hw⟩
    subst hw
    go_wp2
    (try simp only [Exit.inBlock, Exit.then])
    refine bodyPost_ret (v := .tuple #[cvA cnZ, .slice none 0 0, .int .i64 1]) (by simp [results, Try.results17, go_sem, cvA, cnZ]; try rfl) rfl ?_
    exact ⟨_, rfl, OwnS.nil _ _, BW.out⟩
  | true =>
  cases s with
  | false =>
    obtain rfl := HB.out (by rw [EB]; rfl)
    clear HB HR HS EB hl T4
    go_enter Try.func17, Try.ntmps17
    go_wp2_with fail
    refine (T0.out _).mono ?_
    rintro e w1 ⟨rfl, hw⟩
    subst hw
    go_wp2_with fail
    refine (T1.out _).mono ?_
    rintro e w1 ⟨rfl, hw⟩
    subst hw
    go_wp2_with fail
    refine (T2.out _).mono ?_
    rintro e w1 ⟨rfl, hw⟩
    subst hw
    go_wp2_with fail
    refine (T3.out _).mono ?_
    rintro e w1 ⟨rfl, g1⟩
    have b1 := g1.below
    have q0 : w1.cell? ⟨w.heap.size, 0, none⟩ = some (.int .i64 sp) := bkeep b1 (by simp [go_sem])
    have q1 : w1.cell? ⟨w.heap.size, 1, none⟩ = some (.int .i64 dp) := bkeep b1 (by simp [go_sem])
    have q2 : w1.cell? ⟨w.heap.size, 2, none⟩ = some (.int .i64 sq) := bkeep b1 (by simp [go_sem])
    have q3 : w1.cell? ⟨w.heap.size, 3, none⟩ = some (.int .i64 ac) := bkeep b1 (by simp [go_sem])
    have q4 : w1.cell? ⟨w.heap.size, 4, none⟩ = some (.int .i64 fl) := bkeep b1 (by simp [go_sem])
    have q5 : w1.cell? ⟨w.heap.size, 5, none⟩ = some (.int .i64 wi) := bkeep b1 (by simp [go_sem])
    have q6 : w1.cell? ⟨w.heap.size, 6, none⟩ = some (.string da) := bkeep b1 (by simp [go_sem])
    have z0 : w1.cell? ⟨w.heap.size + 1, 0, none⟩ = some (.string ⟨#[]⟩) := bkeep b1 (by simp [go_sem])
    have f0 : w1.frozen? ⟨w.heap.size + 1, 0, none⟩ = false := bthaw b1 (a := ⟨w.heap.size + 1, 0, none⟩) (v := .string ⟨#[]⟩) (by simp [go_sem]) (by simp [go_sem])
    have z1 : w1.cell? ⟨w.heap.size + 1, 1, none⟩ = some (.int .i64 0) := bkeep b1 (by simp [go_sem])
    have f1 : w1.frozen? ⟨w.heap.size + 1, 1, none⟩ = false := bthaw b1 (a := ⟨w.heap.size + 1, 1, none⟩) (v := .int .i64 0) (by simp [go_sem]) (by simp [go_sem])
    have z2 : w1.cell? ⟨w.heap.size + 1, 2, none⟩ = some (.int .i64 0) := bkeep b1 (by simp [go_sem])
    have f2 : w1.frozen? ⟨w.heap.size + 1, 2, none⟩ = false := bthaw b1 (a := ⟨w.heap.size + 1, 2, none⟩) (v := .int .i64 0) (by simp [go_sem]) (by simp [go_sem])
    have z3 : w1.cell? ⟨w.heap.size + 1, 3, none⟩ = some (.int .i64 0) := bkeep b1 (by simp [go_sem])
    have f3 : w1.frozen? ⟨w.heap.size + 1, 3, none⟩ = false := bthaw b1 (a := ⟨w.heap.size + 1, 3, none⟩) (v := .int .i64 0) (by simp [go_sem]) (by simp [go_sem])
    have z4 : w1.cell? ⟨w.heap.size + 1, 4, none⟩ = some (.int .i64 0) := bkeep b1 (by simp [go_sem])
    have f4 : w1.frozen? ⟨w.heap.size + 1, 4, none⟩ = false := bthaw b1 (a := ⟨w.heap.size + 1, 4, none⟩) (v := .int .i64 0) (by simp [go_sem]) (by simp [go_sem])
    have z5 : w1.cell? ⟨w.heap.size + 1, 5, none⟩ = some (.int .i64 0) := bkeep b1 (by simp [go_sem])
    have f5 : w1.frozen? ⟨w.heap.size + 1, 5, none⟩ = false := bthaw b1 (a := ⟨w.heap.size + 1, 5, none⟩) (v := .int .i64 0) (by simp [go_sem]) (by simp [go_sem])
    have z6 : w1.cell? ⟨w.heap.size + 1, 6, none⟩ = some (.int .i64 0) := bkeep b1 (by simp [go_sem])
    have f6 : w1.frozen? ⟨w.heap.size + 1, 6, none⟩ = false := bthaw b1 (a := ⟨w.heap.size + 1, 6, none⟩) (v := .int .i64 0) (by simp [go_sem]) (by simp [go_sem])
    have z7 : w1.cell? ⟨w.heap.size + 1, 7, none⟩ = some (.int .i64 0) := bkeep b1 (by simp [go_sem])
    have f7 : w1.frozen? ⟨w.heap.size + 1, 7, none⟩ = false := bthaw b1 (a := ⟨w.heap.size + 1, 7, none⟩) (v := .int .i64 0) (by simp [go_sem]) (by simp [go_sem])
    have z8 : w1.cell? ⟨w.heap.size + 1, 8, none⟩ = some (.string ⟨#[]⟩) := bkeep b1 (by simp [go_sem])
    have f8 : w1.frozen? ⟨w.heap.size + 1, 8, none⟩ = false := bthaw b1 (a := ⟨w.heap.size + 1, 8, none⟩) (v := .string ⟨#[]⟩) (by simp [go_sem]) (by simp [go_sem])
    have z9 : w1.cell? ⟨w.heap.size + 1, 9, none⟩ = some (.string ⟨#[]⟩) := bkeep b1 (by simp [go_sem])
    have f9 : w1.frozen? ⟨w.heap.size + 1, 9, none⟩ = false := bthaw b1 (a := ⟨w.heap.size + 1, 9, none⟩) (v := .string ⟨#[]⟩) (by simp [go_sem]) (by simp [go_sem])
    have z10 : w1.cell? ⟨w.heap.size + 1, 10, none⟩ = some (.bool false) := bkeep b1 (by simp [go_sem])
    have f10 : w1.frozen? ⟨w.heap.size + 1, 10, none⟩ = false := bthaw b1 (a := ⟨w.heap.size + 1, 10, none⟩) (v := .bool false) (by simp [go_sem]) (by simp [go_sem])
    have B1 : Hid (Below w.heap.size w w1) := BW.out.trans (b1.mono (by simp; omega))
    have hs1 : w.heap.size + 2 ≤ w1.heap.size := by have := b1.size; simp at this; omega
    clear b1 g1 BW T3 T0 T1 T2
    go_wp2
    (try simp only [Exit.inBlock, Exit.then])
    refine bodyPost_ret (v := .tuple #[cvA cnZ, .slice none 0 0, .int .i64 1]) (by simp [results, Try.results17, go_sem, cvA, cnZ, z0, z1, z2, z3, z4, z5, z6, z7, z8, z9, z10]; try rfl) rfl ?_
    exact ⟨_, rfl, OwnS.nil _ _, ((((((((((B1.out.setCell (p := ⟨w.heap.size + 1, 0, none⟩) (Nat.le_succ _) _).setCell (Nat.le_succ _) _).setCell (Nat.le_succ _) _).setCell (Nat.le_succ _) _).setCell (Nat.le_succ _) _).setCell (Nat.le_succ _) _).setCell (Nat.le_succ _) _).setCell (Nat.le_succ _) _).setCell (Nat.le_succ _) _).setCell (Nat.le_succ _) _).setCell (Nat.le_succ _) _⟩
  | true =>
  have hPB : PB = true := by rw [EB]; rfl
  cases i with
  | false =>
    obtain rfl := HR.out hPB rfl
    clear HB HR HS EB hl hPB
    go_enter Try.func17, Try.ntmps17
    go_wp2_with fail
    refine (T0.out _).mono ?_
    rintro e w1 ⟨rfl, hw⟩
    subst hw
    go_wp2_with fail
    refine (T1.out _).mono ?_
    rintro e w1 ⟨rfl, hw⟩
    subst hw
    go_wp2_with fail
    refine (T2.out _).mono ?_
    rintro e w1 ⟨rfl, hw⟩
    subst hw
    go_wp2_with fail
    refine (T3.out _).mono ?_
    rintro e w1 ⟨rfl, g1⟩
    have b1 := g1.below
    have q0 : w1.cell? ⟨w.heap.size, 0, none⟩ = some (.int .i64 sp) := bkeep b1 (by simp [go_sem])
    have q1 : w1.cell? ⟨w.heap.size, 1, none⟩ = some (.int .i64 dp) := bkeep b1 (by simp [go_sem])
    have q2 : w1.cell? ⟨w.heap.size, 2, none⟩ = some (.int .i64 sq) := bkeep b1 (by simp [go_sem])
    have q3 : w1.cell? ⟨w.heap.size, 3, none⟩ = some (.int .i64 ac) := bkeep b1 (by simp [go_sem])
    have q4 : w1.cell? ⟨w.heap.size, 4, none⟩ = some (.int .i64 fl) := bkeep b1 (by simp [go_sem])
    have q5 : w1.cell? ⟨w.heap.size, 5, none⟩ = some (.int .i64 wi) := bkeep b1 (by simp [go_sem])
    have q6 : w1.cell? ⟨w.heap.size, 6, none⟩ = some (.string da) := bkeep b1 (by simp [go_sem])
    have z0 : w1.cell? ⟨w.heap.size + 1, 0, none⟩ = some (.string ⟨#[]⟩) := bkeep b1 (by simp [go_sem])
    have f0 : w1.frozen? ⟨w.heap.size + 1, 0, none⟩ = false := bthaw b1 (a := ⟨w.heap.size + 1, 0, none⟩) (v := .string ⟨#[]⟩) (by simp [go_sem]) (by simp [go_sem])
    have z1 : w1.cell? ⟨w.heap.size + 1, 1, none⟩ = some (.int .i64 0) := bkeep b1 (by simp [go_sem])
    have f1 : w1.frozen? ⟨w.heap.size + 1, 1, none⟩ = false := bthaw b1 (a := ⟨w.heap.size + 1, 1, none⟩) (v := .int .i64 0) (by simp [go_sem]) (by simp [go_sem])
    have z2 : w1.cell? ⟨w.heap.size + 1, 2, none⟩ = some (.int .i64 0) := bkeep b1 (by simp [go_sem])
    have f2 : w1.frozen? ⟨w.heap.size + 1, 2, none⟩ = false := bthaw b1 (a := ⟨w.heap.size + 1, 2, none⟩) (v := .int .i64 0) (by simp [go_sem]) (by simp [go_sem])
    have z3 : w1.cell? ⟨w.heap.size + 1, 3, none⟩ = some (.int .i64 0) := bkeep b1 (by simp [go_sem])
    have f3 : w1.frozen? ⟨w.heap.size + 1, 3, none⟩ = false := bthaw b1 (a := ⟨w.heap.size + 1, 3, none⟩) (v := .int .i64 0) (by simp [go_sem]) (by simp [go_sem])
    have z4 : w1.cell? ⟨w.heap.size + 1, 4, none⟩ = some (.int .i64 0) := bkeep b1 (by simp [go_sem])
    have f4 : w1.frozen? ⟨w.heap.size + 1, 4, none⟩ = false := bthaw b1 (a := ⟨w.heap.size + 1, 4, none⟩) (v := .int .i64 0) (by simp [go_sem]) (by simp [go_sem])
    have z5 : w1.cell? ⟨w.heap.size + 1, 5, none⟩ = some (.int .i64 0) := bkeep b1 (by simp [go_sem])
    have f5 : w1.frozen? ⟨w.heap.size + 1, 5, none⟩ = false := bthaw b1 (a := ⟨w.heap.size + 1, 5, none⟩) (v := .int .i64 0) (by simp [go_sem]) (by simp [go_sem])
    have z6 : w1.cell? ⟨w.heap.size + 1, 6, none⟩ = some (.int .i64 0) := bkeep b1 (by simp [go_sem])
    have f6 : w1.frozen? ⟨w.heap.size + 1, 6, none⟩ = false := bthaw b1 (a := ⟨w.heap.size + 1, 6, none⟩) (v := .int .i64 0) (by simp [go_sem]) (by simp [go_sem])
    have z7 : w1.cell? ⟨w.heap.size + 1, 7, none⟩ = some (.int .i64 0) := bkeep b1 (by simp [go_sem])
    have f7 : w1.frozen? ⟨w.heap.size + 1, 7, none⟩ = false := bthaw b1 (a := ⟨w.heap.size + 1, 7, none⟩) (v := .int .i64 0) (by simp [go_sem]) (by simp [go_sem])
    have z8 : w1.cell? ⟨w.heap.size + 1, 8, none⟩ = some (.string ⟨#[]⟩) := bkeep b1 (by simp [go_sem])
    have f8 : w1.frozen? ⟨w.heap.size + 1, 8, none⟩ = false := bthaw b1 (a := ⟨w.heap.size + 1, 8, none⟩) (v := .string ⟨#[]⟩) (by simp [go_sem]) (by simp [go_sem])
    have z9 : w1.cell? ⟨w.heap.size + 1, 9, none⟩ = some (.string ⟨#[]⟩) := bkeep b1 (by simp [go_sem])
    have f9 : w1.frozen? ⟨w.heap.size + 1, 9, none⟩ = false := bthaw b1 (a := ⟨w.heap.size + 1, 9, none⟩) (v := .string ⟨#[]⟩) (by simp [go_sem]) (by simp [go_sem])
    have z10 : w1.cell? ⟨w.heap.size + 1, 10, none⟩ = some (.bool false) := bkeep b1 (by simp [go_sem])
    have f10 : w1.frozen? ⟨w.heap.size + 1, 10, none⟩ = false := bthaw b1 (a := ⟨w.heap.size + 1, 10, none⟩) (v := .bool false) (by simp [go_sem]) (by simp [go_sem])
    have B1 : Hid (Below w.heap.size w w1) := BW.out.trans (b1.mono (by simp; omega))
    have hs1 : w.heap.size + 2 ≤ w1.heap.size := by have := b1.size; simp at this; omega
    clear b1 g1 BW T3 T0 T1 T2
    go_wp2_with fail
    refine (T4.out _).mono ?_
    rintro e w1 ⟨rfl, hw⟩
    subst hw
    go_wp2
    (try simp only [Exit.inBlock, Exit.then])
    refine bodyPost_ret (v := .tuple #[cvA cnZ, .slice none 0 0, .int .i64 4]) (by simp [results, Try.results17, go_sem, cvA, cnZ, z0, z1, z2, z3, z4, z5, z6, z7, z8, z9, z10]; try rfl) rfl ?_
    exact ⟨_, rfl, OwnS.nil _ _, ((((((((((B1.out.setCell (p := ⟨w.heap.size + 1, 0, none⟩) (Nat.le_succ _) _).setCell (Nat.le_succ _) _).setCell (Nat.le_succ _) _).setCell (Nat.le_succ _) _).setCell (Nat.le_succ _) _).setCell (Nat.le_succ _) _).setCell (Nat.le_succ _) _).setCell (Nat.le_succ _) _).setCell (Nat.le_succ _) _).setCell (Nat.le_succ _) _).setCell (Nat.le_succ _) _⟩
  | true =>
    obtain ⟨rfl, hf⟩ := HS.out hPB rfl
    have t2 : (bits BinOp.and IntKind.i64 fl 23 != 2) = true := by simp [hf]
    clear HB HR HS EB hl hPB hf
    go_enter Try.func17, Try.ntmps17
    go_wp2_with fail
    refine (T0.out _).mono ?_
    rintro e w1 ⟨rfl, hw⟩
    subst hw
    go_wp2_with fail
    refine (T1.out _).mono ?_
    rintro e w1 ⟨rfl, hw⟩
    subst hw
    go_wp2_with fail
    refine (T2.out _).mono ?_
    rintro e w1 ⟨rfl, hw⟩
    subst hw
    go_wp2_with fail
    refine (T3.out _).mono ?_
    rintro e w1 ⟨rfl, g1⟩
    have b1 := g1.below
    have q0 : w1.cell? ⟨w.heap.size, 0, none⟩ = some (.int .i64 sp) := bkeep b1 (by simp [go_sem])
    have q1 : w1.cell? ⟨w.heap.size, 1, none⟩ = some (.int .i64 dp) := bkeep b1 (by simp [go_sem])
    have q2 : w1.cell? ⟨w.heap.size, 2, none⟩ = some (.int .i64 sq) := bkeep b1 (by simp [go_sem])
    have q3 : w1.cell? ⟨w.heap.size, 3, none⟩ = some (.int .i64 ac) := bkeep b1 (by simp [go_sem])
    have q4 : w1.cell? ⟨w.heap.size, 4, none⟩ = some (.int .i64 fl) := bkeep b1 (by simp [go_sem])
    have q5 : w1.cell? ⟨w.heap.size, 5, none⟩ = some (.int .i64 wi) := bkeep b1 (by simp [go_sem])
    have q6 : w1.cell? ⟨w.heap.size, 6, none⟩ = some (.string da) := bkeep b1 (by simp [go_sem])
    have z0 : w1.cell? ⟨w.heap.size + 1, 0, none⟩ = some (.string ⟨#[]⟩) := bkeep b1 (by simp [go_sem])
    have f0 : w1.frozen? ⟨w.heap.size + 1, 0, none⟩ = false := bthaw b1 (a := ⟨w.heap.size + 1, 0, none⟩) (v := .string ⟨#[]⟩) (by simp [go_sem]) (by simp [go_sem])
    have z1 : w1.cell? ⟨w.heap.size + 1, 1, none⟩ = some (.int .i64 0) := bkeep b1 (by simp [go_sem])
    have f1 : w1.frozen? ⟨w.heap.size + 1, 1, none⟩ = false := bthaw b1 (a := ⟨w.heap.size + 1, 1, none⟩) (v := .int .i64 0) (by simp [go_sem]) (by simp [go_sem])
    have z2 : w1.cell? ⟨w.heap.size + 1, 2, none⟩ = some (.int .i64 0) := bkeep b1 (by simp [go_sem])
    have f2 : w1.frozen? ⟨w.heap.size + 1, 2, none⟩ = false := bthaw b1 (a := ⟨w.heap.size + 1, 2, none⟩) (v := .int .i64 0) (by simp [go_sem]) (by simp [go_sem])
    have z3 : w1.cell? ⟨w.heap.size + 1, 3, none⟩ = some (.int .i64 0) := bkeep b1 (by simp [go_sem])
    have f3 : w1.frozen? ⟨w.heap.size + 1, 3, none⟩ = false := bthaw b1 (a := ⟨w.heap.size + 1, 3, none⟩) (v := .int .i64 0) (by simp [go_sem]) (by simp [go_sem])
    have z4 : w1.cell? ⟨w.heap.size + 1, 4, none⟩ = some (.int .i64 0) := bkeep b1 (by simp [go_sem])
    have f4 : w1.frozen? ⟨w.heap.size + 1, 4, none⟩ = false := bthaw b1 (a := ⟨w.heap.size + 1, 4, none⟩) (v := .int .i64 0) (by simp [go_sem]) (by simp [go_sem])
    have z5 : w1.cell? ⟨w.heap.size + 1, 5, none⟩ = some (.int .i64 0) := bkeep b1 (by simp [go_sem])
    have f5 : w1.frozen? ⟨w.heap.size + 1, 5, none⟩ = false := bthaw b1 (a := ⟨w.heap.size + 1, 5, none⟩) (v := .int .i64 0) (by simp [go_sem]) (by simp [go_sem])
    have z6 : w1.cell? ⟨w.heap.size + 1, 6, none⟩ = some (.int .i64 0) := bkeep b1 (by simp [go_sem])
    have f6 : w1.frozen? ⟨w.heap.size + 1, 6, none⟩ = false := bthaw b1 (a := ⟨w.heap.size + 1, 6, none⟩) (v := .int .i64 0) (by simp [go_sem]) (by simp [go_sem])
    have z7 : w1.cell? ⟨w.heap.size + 1, 7, none⟩ = some (.int .i64 0) := bkeep b1 (by simp [go_sem])
    have f7 : w1.frozen? ⟨w.heap.size + 1, 7, none⟩ = false := bthaw b1 (a := ⟨w.heap.size + 1, 7, none⟩) (v := .int .i64 0) (by simp [go_sem]) (by simp [go_sem])
    have z8 : w1.cell? ⟨w.heap.size + 1, 8, none⟩ = some (.string ⟨#[]⟩) := bkeep b1 (by simp [go_sem])
    have f8 : w1.frozen? ⟨w.heap.size + 1, 8, none⟩ = false := bthaw b1 (a := ⟨w.heap.size + 1, 8, none⟩) (v := .string ⟨#[]⟩) (by simp [go_sem]) (by simp [go_sem])
    have z9 : w1.cell? ⟨w.heap.size + 1, 9, none⟩ = some (.string ⟨#[]⟩) := bkeep b1 (by simp [go_sem])
    have f9 : w1.frozen? ⟨w.heap.size + 1, 9, none⟩ = false := bthaw b1 (a := ⟨w.heap.size + 1, 9, none⟩) (v := .string ⟨#[]⟩) (by simp [go_sem]) (by simp [go_sem])
    have z10 : w1.cell? ⟨w.heap.size + 1, 10, none⟩ = some (.bool false) := bkeep b1 (by simp [go_sem])
    have f10 : w1.frozen? ⟨w.heap.size + 1, 10, none⟩ = false := bthaw b1 (a := ⟨w.heap.size + 1, 10, none⟩) (v := .bool false) (by simp [go_sem]) (by simp [go_sem])
    have B1 : Hid (Below w.heap.size w w1) := BW.out.trans (b1.mono (by simp; omega))
    have hs1 : w.heap.size + 2 ≤ w1.heap.size := by have := b1.size; simp at this; omega
    clear b1 g1 BW T3 T0 T1 T2
    go_wp2_with fail
    refine (T4.out _).mono ?_
    rintro e w1 ⟨rfl, hw⟩
    subst hw
    go_wp2
    (try simp only [Exit.inBlock, Exit.then])
    refine bodyPost_ret (v := .tuple #[cvA cnZ, .slice none 0 0, .int .i64 12]) (by simp [results, Try.results17, go_sem, cvA, cnZ, z0, z1, z2, z3, z4, z5, z6, z7, z8, z9, z10]; try rfl) rfl ?_
    exact ⟨_, rfl, OwnS.nil _ _, ((((((((((B1.out.setCell (p := ⟨w.heap.size + 1, 0, none⟩) (Nat.le_succ _) _).setCell (Nat.le_succ _) _).setCell (Nat.le_succ _) _).setCell (Nat.le_succ _) _).setCell (Nat.le_succ _) _).setCell (Nat.le_succ _) _).setCell (Nat.le_succ _) _).setCell (Nat.le_succ _) _).setCell (Nat.le_succ _) _).setCell (Nat.le_succ _) _).setCell (Nat.le_succ _) _⟩
end Go.Proofs.Ytjammgjmidchmaa
