/- ConnOpen of the model, where it opens. -/
import Derived.Test.YtjammgjmidchmaaConOb
import Derived.Test.YtjammgjmidchmaaConOc
namespace Go.Proofs.Ytjammgjmidchmaa
open Go.RowKit Go.PlainAid Go.Proofs.Ytjammgjmidchmaa.Bt Go.Sort
set_option linter.unusedVariables false
set_option maxRecDepth 20000

set_option maxHeartbeats 16000000 in
theorem specOp_yes (mc : ByteArray) (ip di : Int) (sp dp sq ac fl wi : Int) (da : ByteArray) (isn : Int) (w : World) (hl : ¬ 65536 < mc.size) (hda : da.size ≤ 9223372036854775807) (hb : opB mc ip di ⟨sp, dp, sq, ac, fl, wi, da⟩ = true) (hi : 0 ≤ isn ∧ isn ≤ 4294967295) (hf : bits BinOp.and IntKind.i64 fl 23 = 2) (hqs : 0 ≤ sq ∧ sq ≤ 4294967295) :
    Calls Try.prog 24 #[.string mc, .int .i64 ip, .int .i64 di, .agg #[.int .i64 sp, .int .i64 dp, .int .i64 sq, .int .i64 ac, .int .i64 fl, .int .i64 wi, .string da], .int .i64 isn] w fun e w' => ∃ v, e = .returned (.tuple #[cvA ⟨mc, ip, sp, di, 1, isn, sqN (isn + 1), sqN (sq + 1), ⟨#[]⟩, ⟨#[]⟩, false⟩, v, .int .i64 0]) ∧ OwnS sgG 7 27 w' w.heap.size v [⟨80, sp, isn, sqN (sq + 1), 18, 1000, ⟨#[]⟩⟩] ∧ Below w.heap.size w w' := by
  obtain ⟨⟨⟨hb0, hb1⟩, hb2⟩, hb3⟩ : ((((mc.size : Int) == 6) = true ∧ dec (0 ≤ ip ∧ ip ≤ 4294967295) = true) ∧ dec (0 ≤ di ∧ di ≤ 4294967295) = true) ∧ sgB ⟨sp, dp, sq, ac, fl, wi, da⟩ = true := by
    unfold opB at hb
    simpa only [Bool.and_eq_true] using hb
  have T0 : Hid (∀ w, Calls Try.prog 56 #[.string mc] w fun e w' => e = .returned (.bool true) ∧ w' = w) := fun w => by rw [← hb0]; exact l01Mac_any mc w
  have T1 : Hid (∀ w, Calls Try.prog 57 #[.int .i64 ip] w fun e w' => e = .returned (.bool true) ∧ w' = w) := fun w => by rw [← hb1]; exact specIp_any ip w
  have T2 : Hid (∀ w, Calls Try.prog 57 #[.int .i64 di] w fun e w' => e = .returned (.bool true) ∧ w' = w) := fun w => by rw [← hb2]; exact specIp_any di w
  have T3 : Hid (∀ w, Calls Try.prog 38 #[.agg #[.int .i64 sp, .int .i64 dp, .int .i64 sq, .int .i64 ac, .int .i64 fl, .int .i64 wi, .string da]] w fun e w' => e = .returned (.bool true) ∧ Grw w w') := fun w => by rw [← hb3]; exact l02Seg9_any sp dp sq ac fl wi da w hda
  have T4 : Hid (∀ w, Calls Try.prog 57 #[.int .i64 isn] w fun e w' => e = .returned (.bool true) ∧ w' = w) := fun w => by rw [← dec_y hi]; exact specIp_any isn w
  have t1 : decide ((65536 : Int) < (mc.size : Int)) = false := decide_eq_false (by omega)
  have t2 : (bits BinOp.and IntKind.i64 fl 23 != 2) = false := by simp [hf]
  have BW : Hid (Below w.heap.size w ((w.alloc (.cells #[.int .i64 sp, .int .i64 dp, .int .i64 sq, .int .i64 ac, .int .i64 fl, .int .i64 wi, .string da] 27)).alloc (.cells #[.string ⟨#[]⟩, .int .i64 0, .int .i64 0, .int .i64 0, .int .i64 0, .int .i64 0, .int .i64 0, .int .i64 0, .string ⟨#[]⟩, .string ⟨#[]⟩, .bool false] 24))) := (((Below.refl _ _).alloc (Nat.le_refl _) _).alloc (by simp) _)
  have TO : Hid (∀ w, Calls Try.prog 58 #[.string mc, .int .i64 ip, .int .i64 di, .agg #[.int .i64 sp, .int .i64 dp, .int .i64 sq, .int .i64 ac, .int .i64 fl, .int .i64 wi, .string da], .int .i64 isn] w fun e w' => ∃ v, e = .returned (.tuple #[.agg #[.string mc, .int .i64 ip, .int .i64 sp, .int .i64 di, .int .i64 1, .int .i64 isn, .int .i64 (sqN (isn + 1)), .int .i64 (sqN (sq + 1)), .string ⟨#[]⟩, .string ⟨#[]⟩, .bool false], v]) ∧ OwnS sgG 7 27 w' w.heap.size v [⟨80, sp, isn, sqN (sq + 1), 18, 1000, ⟨#[]⟩⟩] ∧ Below w.heap.size w w') := fun w => l10Open_any mc ip di sp dp sq ac fl wi da isn w hi hqs
  generalize sqN (isn + 1) = NX at TO ⊢
  generalize sqN (sq + 1) = WA at TO ⊢
  clear hb hb0 hb1 hb2 hb3 hf hl
  obtain ⟨hi0, hi1⟩ := hi
  obtain ⟨hq0, hq1⟩ := hqs
  go_enter Try.func24, Try.ntmps24
  go_wp2_with fail
  refine (T0.out _).mono ?_
  rintro e w1 ⟨rfl, hw⟩
  subst hw
  go_wp2_with fail
  refine (T1.out _).mono ?_
  rintro e w1 ⟨rfl, hw⟩
  subst hw
  go_wp2_with fail
  refine (T2.out _).mono ?_
  rintro e w1 ⟨rfl, hw⟩
  subst hw
  go_wp2_with fail
  refine (T3.out _).mono ?_
  rintro e w1 ⟨rfl, g1⟩
  have b1 := g1.below
  have q0 : w1.cell? ⟨w.heap.size, 0, none⟩ = some (.int .i64 sp) := bkeep b1 (by simp [go_sem])
  have q1 : w1.cell? ⟨w.heap.size, 1, none⟩ = some (.int .i64 dp) := bkeep b1 (by simp [go_sem])
  have q2 : w1.cell? ⟨w.heap.size, 2, none⟩ = some (.int .i64 sq) := bkeep b1 (by simp [go_sem])
  have q3 : w1.cell? ⟨w.heap.size, 3, none⟩ = some (.int .i64 ac) := bkeep b1 (by simp [go_sem])
  have q4 : w1.cell? ⟨w.heap.size, 4, none⟩ = some (.int .i64 fl) := bkeep b1 (by simp [go_sem])
  have q5 : w1.cell? ⟨w.heap.size, 5, none⟩ = some (.int .i64 wi) := bkeep b1 (by simp [go_sem])
  have q6 : w1.cell? ⟨w.heap.size, 6, none⟩ = some (.string da) := bkeep b1 (by simp [go_sem])
  have z0 : w1.cell? ⟨w.heap.size + 1, 0, none⟩ = some (.string ⟨#[]⟩) := bkeep b1 (by simp [go_sem])
  have f0 : w1.frozen? ⟨w.heap.size + 1, 0, none⟩ = false := bthaw b1 (a := ⟨w.heap.size + 1, 0, none⟩) (v := .string ⟨#[]⟩) (by simp [go_sem]) (by simp [go_sem])
  have z1 : w1.cell? ⟨w.heap.size + 1, 1, none⟩ = some (.int .i64 0) := bkeep b1 (by simp [go_sem])
  have f1 : w1.frozen? ⟨w.heap.size + 1, 1, none⟩ = false := bthaw b1 (a := ⟨w.heap.size + 1, 1, none⟩) (v := .int .i64 0) (by simp [go_sem]) (by simp [go_sem])
  have z2 : w1.cell? ⟨w.heap.size + 1, 2, none⟩ = some (.int .i64 0) := bkeep b1 (by simp [go_sem])
  have f2 : w1.frozen? ⟨w.heap.size + 1, 2, none⟩ = false := bthaw b1 (a := ⟨w.heap.size + 1, 2, none⟩) (v := .int .i64 0) (by simp [go_sem]) (by simp [go_sem])
  have z3 : w1.cell? ⟨w.heap.size + 1, 3, none⟩ = some (.int .i64 0) := bkeep b1 (by simp [go_sem])
  have f3 : w1.frozen? ⟨w.heap.size + 1, 3, none⟩ = false := bthaw b1 (a := ⟨w.heap.size + 1, 3, none⟩) (v := .int .i64 0) (by simp [go_sem]) (by simp [go_sem])
  have z4 : w1.cell? ⟨w.heap.size + 1, 4, none⟩ = some (.int .i64 0) := bkeep b1 (by simp [go_sem])
  have f4 : w1.frozen? ⟨w.heap.size + 1, 4, none⟩ = false := bthaw b1 (a := ⟨w.heap.size + 1, 4, none⟩) (v := .int .i64 0) (by simp [go_sem]) (by simp [go_sem])
  have z5 : w1.cell? ⟨w.heap.size + 1, 5, none⟩ = some (.int .i64 0) := bkeep b1 (by simp [go_sem])
  have f5 : w1.frozen? ⟨w.heap.size + 1, 5, none⟩ = false := bthaw b1 (a := ⟨w.heap.size + 1, 5, none⟩) (v := .int .i64 0) (by simp [go_sem]) (by simp [go_sem])
  have z6 : w1.cell? ⟨w.heap.size + 1, 6, none⟩ = some (.int .i64 0) := bkeep b1 (by simp [go_sem])
  have f6 : w1.frozen? ⟨w.heap.size + 1, 6, none⟩ = false := bthaw b1 (a := ⟨w.heap.size + 1, 6, none⟩) (v := .int .i64 0) (by simp [go_sem]) (by simp [go_sem])
  have z7 : w1.cell? ⟨w.heap.size + 1, 7, none⟩ = some (.int .i64 0) := bkeep b1 (by simp [go_sem])
  have f7 : w1.frozen? ⟨w.heap.size + 1, 7, none⟩ = false := bthaw b1 (a := ⟨w.heap.size + 1, 7, none⟩) (v := .int .i64 0) (by simp [go_sem]) (by simp [go_sem])
  have z8 : w1.cell? ⟨w.heap.size + 1, 8, none⟩ = some (.string ⟨#[]⟩) := bkeep b1 (by simp [go_sem])
  have f8 : w1.frozen? ⟨w.heap.size + 1, 8, none⟩ = false := bthaw b1 (a := ⟨w.heap.size + 1, 8, none⟩) (v := .string ⟨#[]⟩) (by simp [go_sem]) (by simp [go_sem])
  have z9 : w1.cell? ⟨w.heap.size + 1, 9, none⟩ = some (.string ⟨#[]⟩) := bkeep b1 (by simp [go_sem])
  have f9 : w1.frozen? ⟨w.heap.size + 1, 9, none⟩ = false := bthaw b1 (a := ⟨w.heap.size + 1, 9, none⟩) (v := .string ⟨#[]⟩) (by simp [go_sem]) (by simp [go_sem])
  have z10 : w1.cell? ⟨w.heap.size + 1, 10, none⟩ = some (.bool false) := bkeep b1 (by simp [go_sem])
  have f10 : w1.frozen? ⟨w.heap.size + 1, 10, none⟩ = false := bthaw b1 (a := ⟨w.heap.size + 1, 10, none⟩) (v := .bool false) (by simp [go_sem]) (by simp [go_sem])
  have B1 : Hid (Below w.heap.size w w1) := BW.out.trans (b1.mono (by simp; omega))
  have hs1 : w.heap.size + 2 ≤ w1.heap.size := by have := b1.size; simp at this; omega
  clear b1 g1 BW T0 T1 T2 T3
  go_wp2_with fail
  refine (T4.out _).mono ?_
  rintro e w1 ⟨rfl, hw⟩
  subst hw
  clear T4
  go_wp2_with fail
  refine (TO.out _).mono ?_
  rintro e w2 ⟨v2, rfl, o2, b2⟩
  have y0 : w2.cell? ⟨w.heap.size + 1, 0, none⟩ = some (.string ⟨#[]⟩) := bkeep b2 z0
  have h0 : w2.frozen? ⟨w.heap.size + 1, 0, none⟩ = false := bthaw b2 z0 f0
  have y1 : w2.cell? ⟨w.heap.size + 1, 1, none⟩ = some (.int .i64 0) := bkeep b2 z1
  have h1 : w2.frozen? ⟨w.heap.size + 1, 1, none⟩ = false := bthaw b2 z1 f1
  have y2 : w2.cell? ⟨w.heap.size + 1, 2, none⟩ = some (.int .i64 0) := bkeep b2 z2
  have h2 : w2.frozen? ⟨w.heap.size + 1, 2, none⟩ = false := bthaw b2 z2 f2
  have y3 : w2.cell? ⟨w.heap.size + 1, 3, none⟩ = some (.int .i64 0) := bkeep b2 z3
  have h3 : w2.frozen? ⟨w.heap.size + 1, 3, none⟩ = false := bthaw b2 z3 f3
  have y4 : w2.cell? ⟨w.heap.size + 1, 4, none⟩ = some (.int .i64 0) := bkeep b2 z4
  have h4 : w2.frozen? ⟨w.heap.size + 1, 4, none⟩ = false := bthaw b2 z4 f4
  have y5 : w2.cell? ⟨w.heap.size + 1, 5, none⟩ = some (.int .i64 0) := bkeep b2 z5
  have h5 : w2.frozen? ⟨w.heap.size + 1, 5, none⟩ = false := bthaw b2 z5 f5
  have y6 : w2.cell? ⟨w.heap.size + 1, 6, none⟩ = some (.int .i64 0) := bkeep b2 z6
  have h6 : w2.frozen? ⟨w.heap.size + 1, 6, none⟩ = false := bthaw b2 z6 f6
  have y7 : w2.cell? ⟨w.heap.size + 1, 7, none⟩ = some (.int .i64 0) := bkeep b2 z7
  have h7 : w2.frozen? ⟨w.heap.size + 1, 7, none⟩ = false := bthaw b2 z7 f7
  have y8 : w2.cell? ⟨w.heap.size + 1, 8, none⟩ = some (.string ⟨#[]⟩) := bkeep b2 z8
  have h8 : w2.frozen? ⟨w.heap.size + 1, 8, none⟩ = false := bthaw b2 z8 f8
  have y9 : w2.cell? ⟨w.heap.size + 1, 9, none⟩ = some (.string ⟨#[]⟩) := bkeep b2 z9
  have h9 : w2.frozen? ⟨w.heap.size + 1, 9, none⟩ = false := bthaw b2 z9 f9
  have y10 : w2.cell? ⟨w.heap.size + 1, 10, none⟩ = some (.bool false) := bkeep b2 z10
  have h10 : w2.frozen? ⟨w.heap.size + 1, 10, none⟩ = false := bthaw b2 z10 f10
  have ya0 : (w2.alloc (.cells #[.string mc, .int .i64 ip, .int .i64 sp, .int .i64 di, .int .i64 1, .int .i64 isn, .int .i64 NX, .int .i64 WA, .string ⟨#[]⟩, .string ⟨#[]⟩, .bool false] 24)).cell? ⟨w.heap.size + 1, 0, none⟩ = some (.string ⟨#[]⟩) := acell y0 _
  have ha0 : (w2.alloc (.cells #[.string mc, .int .i64 ip, .int .i64 sp, .int .i64 di, .int .i64 1, .int .i64 isn, .int .i64 NX, .int .i64 WA, .string ⟨#[]⟩, .string ⟨#[]⟩, .bool false] 24)).frozen? ⟨w.heap.size + 1, 0, none⟩ = false := bthaw ((Below.refl _ _).alloc (Nat.le_refl _) _) y0 h0
  have ya1 : (w2.alloc (.cells #[.string mc, .int .i64 ip, .int .i64 sp, .int .i64 di, .int .i64 1, .int .i64 isn, .int .i64 NX, .int .i64 WA, .string ⟨#[]⟩, .string ⟨#[]⟩, .bool false] 24)).cell? ⟨w.heap.size + 1, 1, none⟩ = some (.int .i64 0) := acell y1 _
  have ha1 : (w2.alloc (.cells #[.string mc, .int .i64 ip, .int .i64 sp, .int .i64 di, .int .i64 1, .int .i64 isn, .int .i64 NX, .int .i64 WA, .string ⟨#[]⟩, .string ⟨#[]⟩, .bool false] 24)).frozen? ⟨w.heap.size + 1, 1, none⟩ = false := bthaw ((Below.refl _ _).alloc (Nat.le_refl _) _) y1 h1
  have ya2 : (w2.alloc (.cells #[.string mc, .int .i64 ip, .int .i64 sp, .int .i64 di, .int .i64 1, .int .i64 isn, .int .i64 NX, .int .i64 WA, .string ⟨#[]⟩, .string ⟨#[]⟩, .bool false] 24)).cell? ⟨w.heap.size + 1, 2, none⟩ = some (.int .i64 0) := acell y2 _
  have ha2 : (w2.alloc (.cells #[.string mc, .int .i64 ip, .int .i64 sp, .int .i64 di, .int .i64 1, .int .i64 isn, .int .i64 NX, .int .i64 WA, .string ⟨#[]⟩, .string ⟨#[]⟩, .bool false] 24)).frozen? ⟨w.heap.size + 1, 2, none⟩ = false := bthaw ((Below.refl _ _).alloc (Nat.le_refl _) _) y2 h2
  have ya3 : (w2.alloc (.cells #[.string mc, .int .i64 ip, .int .i64 sp, .int .i64 di, .int .i64 1, .int .i64 isn, .int .i64 NX, .int .i64 WA, .string ⟨#[]⟩, .string ⟨#[]⟩, .bool false] 24)).cell? ⟨w.heap.size + 1, 3, none⟩ = some (.int .i64 0) := acell y3 _
  have ha3 : (w2.alloc (.cells #[.string mc, .int .i64 ip, .int .i64 sp, .int .i64 di, .int .i64 1, .int .i64 isn, .int .i64 NX, .int .i64 WA, .string ⟨#[]⟩, .string ⟨#[]⟩, .bool false] 24)).frozen? ⟨w.heap.size + 1, 3, none⟩ = false := bthaw ((Below.refl _ _).alloc (Nat.le_refl _) _) y3 h3
  have ya4 : (w2.alloc (.cells #[.string mc, .int .i64 ip, .int .i64 sp, .int .i64 di, .int .i64 1, .int .i64 isn, .int .i64 NX, .int .i64 WA, .string ⟨#[]⟩, .string ⟨#[]⟩, .bool false] 24)).cell? ⟨w.heap.size + 1, 4, none⟩ = some (.int .i64 0) := acell y4 _
  have ha4 : (w2.alloc (.cells #[.string mc, .int .i64 ip, .int .i64 sp, .int .i64 di, .int .i64 1, .int .i64 isn, .int .i64 NX, .int .i64 WA, .string ⟨#[]⟩, .string ⟨#[]⟩, .bool false] 24)).frozen? ⟨w.heap.size + 1, 4, none⟩ = false := bthaw ((Below.refl _ _).alloc (Nat.le_refl _) _) y4 h4
  have ya5 : (w2.alloc (.cells #[.string mc, .int .i64 ip, .int .i64 sp, .int .i64 di, .int .i64 1, .int .i64 isn, .int .i64 NX, .int .i64 WA, .string ⟨#[]⟩, .string ⟨#[]⟩, .bool false] 24)).cell? ⟨w.heap.size + 1, 5, none⟩ = some (.int .i64 0) := acell y5 _
  have ha5 : (w2.alloc (.cells #[.string mc, .int .i64 ip, .int .i64 sp, .int .i64 di, .int .i64 1, .int .i64 isn, .int .i64 NX, .int .i64 WA, .string ⟨#[]⟩, .string ⟨#[]⟩, .bool false] 24)).frozen? ⟨w.heap.size + 1, 5, none⟩ = false := bthaw ((Below.refl _ _).alloc (Nat.le_refl _) _) y5 h5
  have ya6 : (w2.alloc (.cells #[.string mc, .int .i64 ip, .int .i64 sp, .int .i64 di, .int .i64 1, .int .i64 isn, .int .i64 NX, .int .i64 WA, .string ⟨#[]⟩, .string ⟨#[]⟩, .bool false] 24)).cell? ⟨w.heap.size + 1, 6, none⟩ = some (.int .i64 0) := acell y6 _
  have ha6 : (w2.alloc (.cells #[.string mc, .int .i64 ip, .int .i64 sp, .int .i64 di, .int .i64 1, .int .i64 isn, .int .i64 NX, .int .i64 WA, .string ⟨#[]⟩, .string ⟨#[]⟩, .bool false] 24)).frozen? ⟨w.heap.size + 1, 6, none⟩ = false := bthaw ((Below.refl _ _).alloc (Nat.le_refl _) _) y6 h6
  have ya7 : (w2.alloc (.cells #[.string mc, .int .i64 ip, .int .i64 sp, .int .i64 di, .int .i64 1, .int .i64 isn, .int .i64 NX, .int .i64 WA, .string ⟨#[]⟩, .string ⟨#[]⟩, .bool false] 24)).cell? ⟨w.heap.size + 1, 7, none⟩ = some (.int .i64 0) := acell y7 _
  have ha7 : (w2.alloc (.cells #[.string mc, .int .i64 ip, .int .i64 sp, .int .i64 di, .int .i64 1, .int .i64 isn, .int .i64 NX, .int .i64 WA, .string ⟨#[]⟩, .string ⟨#[]⟩, .bool false] 24)).frozen? ⟨w.heap.size + 1, 7, none⟩ = false := bthaw ((Below.refl _ _).alloc (Nat.le_refl _) _) y7 h7
  have ya8 : (w2.alloc (.cells #[.string mc, .int .i64 ip, .int .i64 sp, .int .i64 di, .int .i64 1, .int .i64 isn, .int .i64 NX, .int .i64 WA, .string ⟨#[]⟩, .string ⟨#[]⟩, .bool false] 24)).cell? ⟨w.heap.size + 1, 8, none⟩ = some (.string ⟨#[]⟩) := acell y8 _
  have ha8 : (w2.alloc (.cells #[.string mc, .int .i64 ip, .int .i64 sp, .int .i64 di, .int .i64 1, .int .i64 isn, .int .i64 NX, .int .i64 WA, .string ⟨#[]⟩, .string ⟨#[]⟩, .bool false] 24)).frozen? ⟨w.heap.size + 1, 8, none⟩ = false := bthaw ((Below.refl _ _).alloc (Nat.le_refl _) _) y8 h8
  have ya9 : (w2.alloc (.cells #[.string mc, .int .i64 ip, .int .i64 sp, .int .i64 di, .int .i64 1, .int .i64 isn, .int .i64 NX, .int .i64 WA, .string ⟨#[]⟩, .string ⟨#[]⟩, .bool false] 24)).cell? ⟨w.heap.size + 1, 9, none⟩ = some (.string ⟨#[]⟩) := acell y9 _
  have ha9 : (w2.alloc (.cells #[.string mc, .int .i64 ip, .int .i64 sp, .int .i64 di, .int .i64 1, .int .i64 isn, .int .i64 NX, .int .i64 WA, .string ⟨#[]⟩, .string ⟨#[]⟩, .bool false] 24)).frozen? ⟨w.heap.size + 1, 9, none⟩ = false := bthaw ((Below.refl _ _).alloc (Nat.le_refl _) _) y9 h9
  have ya10 : (w2.alloc (.cells #[.string mc, .int .i64 ip, .int .i64 sp, .int .i64 di, .int .i64 1, .int .i64 isn, .int .i64 NX, .int .i64 WA, .string ⟨#[]⟩, .string ⟨#[]⟩, .bool false] 24)).cell? ⟨w.heap.size + 1, 10, none⟩ = some (.bool false) := acell y10 _
  have ha10 : (w2.alloc (.cells #[.string mc, .int .i64 ip, .int .i64 sp, .int .i64 di, .int .i64 1, .int .i64 isn, .int .i64 NX, .int .i64 WA, .string ⟨#[]⟩, .string ⟨#[]⟩, .bool false] 24)).frozen? ⟨w.heap.size + 1, 10, none⟩ = false := bthaw ((Below.refl _ _).alloc (Nat.le_refl _) _) y10 h10
  clear y0 h0 y1 h1 y2 h2 y3 h3 y4 h4 y5 h5 y6 h6 y7 h7 y8 h8 y9 h9 y10 h10
  have X2 : Hid (OwnS sgG 7 27 w2 (w.heap.size + 2) v2 [⟨80, sp, isn, WA, 18, 1000, ⟨#[]⟩⟩] ∧ Below w.heap.size w w2) := ⟨o2.lower hs1, B1.out.trans (b2.mono B1.out.size)⟩
  clear o2 b2 B1 TO z0 f0 z1 f1 z2 f2 z3 f3 z4 f4 z5 f5 z6 f6 z7 f7 z8 f8 z9 f9 z10 f10 q0 q1 q2 q3 q4 q5 q6
  go_wp2
  (try simp only [Exit.inBlock, Exit.then])
  refine bodyPost_ret (v := .tuple #[.agg #[.string mc, .int .i64 ip, .int .i64 sp, .int .i64 di, .int .i64 1, .int .i64 isn, .int .i64 NX, .int .i64 WA, .string ⟨#[]⟩, .string ⟨#[]⟩, .bool false], v2, .int .i64 0]) (by simp [results, Try.results24, go_sem, ya0, ya1, ya2, ya3, ya4, ya5, ya6, ya7, ya8, ya9, ya10]; try rfl) rfl ?_
  exact ⟨_, rfl, ((((((((((((X2.out.1.now ((Below.refl _ _).alloc (Nat.le_refl _) _)).far ⟨w.heap.size + 1, 0, none⟩ _ (by simp)).far _ _ (by simp)).far _ _ (by simp)).far _ _ (by simp)).far _ _ (by simp)).far _ _ (by simp)).far _ _ (by simp)).far _ _ (by simp)).far _ _ (by simp)).far _ _ (by simp)).far _ _ (by simp)).lower (by omega), (((((((((((X2.out.2.alloc X2.out.2.size _).setCell (p := ⟨w.heap.size + 1, 0, none⟩) (Nat.le_succ _) _).setCell (Nat.le_succ _) _).setCell (Nat.le_succ _) _).setCell (Nat.le_succ _) _).setCell (Nat.le_succ _) _).setCell (Nat.le_succ _) _).setCell (Nat.le_succ _) _).setCell (Nat.le_succ _) _).setCell (Nat.le_succ _) _).setCell (Nat.le_succ _) _).setCell (Nat.le_succ _) _⟩
end Go.Proofs.Ytjammgjmidchmaa
