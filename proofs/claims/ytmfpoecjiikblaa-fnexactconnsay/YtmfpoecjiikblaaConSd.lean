/- ConnSay of the program: what is said. -/
import Derived.Test.YtmfpoecjiikblaaConSc
namespace Go.Proofs.Ytmfpoecjiikblaa
open Go.RowKit Go.PlainAid Go.Proofs.Ytmfpoecjiikblaa.Bt Go.Sort
set_option linter.unusedVariables false
set_option maxRecDepth 20000

set_option maxHeartbeats 4000000 in
theorem implSy_yes (mc : ByteArray) (ip po di st un nx wa : Int) (inn out : ByteArray) (fin : Bool) (t : ByteArray) (w : World) (hp : po ≤ 9223372036854775807) (hmc : mc.size ≤ 1048576) (hi : inn.size ≤ 1048576) (ho : out.size ≤ 1048576) (hok : okB ⟨mc, ip, po, di, st, un, nx, wa, inn, out, fin⟩ = true) (hst : st = 2) (ht : t.size ≤ 300) (hou : out = ⟨#[]⟩) (hun : 0 ≤ un ∧ un ≤ 4294967295) :
    Calls Try.prog 23 #[.agg #[.string mc, .int .i64 ip, .int .i64 po, .int .i64 di, .int .i64 st, .int .i64 un, .int .i64 nx, .int .i64 wa, .string inn, .string out, .bool fin], .string t] w fun e w' => ∃ v, e = .returned (.tuple #[.agg #[.string mc, .int .i64 ip, .int .i64 po, .int .i64 di, .int .i64 3, .int .i64 un, .int .i64 (sqN (un + (t.size : Int) + 1)), .int .i64 wa, .string inn, .string t, .bool true], v, .int .i64 0]) ∧ OwnS sgG 7 27 w' w.heap.size v (puL po wa un t true) ∧ Below w.heap.size w w' := by
  obtain ⟨hu0, hu1⟩ := hun
  have TK : Hid (∀ w, Calls Try.prog 14 #[.agg #[.string mc, .int .i64 ip, .int .i64 po, .int .i64 di, .int .i64 st, .int .i64 un, .int .i64 nx, .int .i64 wa, .string inn, .string out, .bool fin]] w fun e w' => e = .returned (.bool true) ∧ Grw w w') := fun w => by
    have := implConOK_any mc ip po di st un nx wa inn out fin w hp hmc hi ho
    rw [hok] at this
    exact this
  have TU : Hid (∀ w, Calls Try.prog 47 #[.agg #[.string mc, .int .i64 ip, .int .i64 po, .int .i64 di, .int .i64 3, .int .i64 un, .int .i64 nx, .int .i64 wa, .string inn, .string t, .bool true]] w fun e w' => e = .returned (.int .i64 ((t.size : Int) + 1)) ∧ Grw w w') := fun w => by
    have := unack_any mc ip po di 3 un nx wa inn t true w (by omega)
    have e : sentN ⟨mc, ip, po, di, 3, un, nx, wa, inn, t, true⟩ = (t.size : Int) + 1 := by unfold sentN; simp [bitN]
    rw [e] at this
    exact this
  have TQ : Hid (∀ w, Calls Try.prog 46 #[.int .i64 un, .int .i64 ((t.size : Int) + 1)] w fun e w' => e = .returned (.int .i64 (sqN (un + (t.size : Int) + 1))) ∧ w' = w) := fun w => by
    have := seqAfter_any un ((t.size : Int) + 1) w hu0 (by omega) (by omega) (by omega)
    rw [show un + ((t.size : Int) + 1) = un + (t.size : Int) + 1 by omega] at this
    exact this
  have TO : Hid (∀ NX w, Calls Try.prog 49 #[.agg #[.string mc, .int .i64 ip, .int .i64 po, .int .i64 di, .int .i64 3, .int .i64 un, .int .i64 NX, .int .i64 wa, .string inn, .string t, .bool true]] w fun e w' => ∃ v, e = .returned v ∧ OwnS sgG 7 27 w' w.heap.size v (puL po wa un t true) ∧ Below w.heap.size w w') := fun NX w => outst_any mc ip po di 3 un NX wa inn t true w ht ⟨hu0, hu1⟩
  have t1 : decide ((65536 : Int) < (t.size : Int)) = false := decide_eq_false (by omega)
  have t2 : (st != 2) = false := by simp [hst]
  have hz : out.size = 0 := by rw [hou]; rfl
  have t3 : decide ((300 : Int) - (out.size : Int) < (t.size : Int)) = false := decide_eq_false (by omega)
  have hadd : ∀ wx : World, (Op.stringOp .add out t).run Try.prog wx = .ok (.string t) wx := fun wx => by
    rw [run_string_add_sum (P := Try.prog) (w := wx) _ _ (by omega)]
    have : out ++ t = t := by rw [hou]; apply ByteArray.ext; simp
    rw [this]
  have hz3 : out.size ≤ 300 := by omega
  have BW : Hid (Below w.heap.size w ((w.alloc (.cells #[.string mc, .int .i64 ip, .int .i64 po, .int .i64 di, .int .i64 st, .int .i64 un, .int .i64 nx, .int .i64 wa, .string inn, .string out, .bool fin] 24)).alloc (.cells #[.string ⟨#[]⟩, .int .i64 0, .int .i64 0, .int .i64 0, .int .i64 0, .int .i64 0, .int .i64 0, .int .i64 0, .string ⟨#[]⟩, .string ⟨#[]⟩, .bool false] 24))) := (((Below.refl _ _).alloc (Nat.le_refl _) _).alloc (by simp) _)
  clear hok hst hou hz
  generalize sqN (un + (t.size : Int) + 1) = NX at TQ ⊢
  go_enter Try.func23, Try.ntmps23
  go_wp2_with fail
  refine (TK.out _).mono ?_
  rintro e w1 ⟨rfl, g1⟩
  have b1 := g1.below
  have q0 : w1.cell? ⟨w.heap.size, 0, none⟩ = some (.string mc) := bkeep b1 (by simp [go_sem])
  have p0 : w1.frozen? ⟨w.heap.size, 0, none⟩ = false := bthaw b1 (a := ⟨w.heap.size, 0, none⟩) (v := .string mc) (by simp [go_sem]) (by simp [go_sem])
  have q1 : w1.cell? ⟨w.heap.size, 1, none⟩ = some (.int .i64 ip) := bkeep b1 (by simp [go_sem])
  have p1 : w1.frozen? ⟨w.heap.size, 1, none⟩ = false := bthaw b1 (a := ⟨w.heap.size, 1, none⟩) (v := .int .i64 ip) (by simp [go_sem]) (by simp [go_sem])
  have q2 : w1.cell? ⟨w.heap.size, 2, none⟩ = some (.int .i64 po) := bkeep b1 (by simp [go_sem])
  have p2 : w1.frozen? ⟨w.heap.size, 2, none⟩ = false := bthaw b1 (a := ⟨w.heap.size, 2, none⟩) (v := .int .i64 po) (by simp [go_sem]) (by simp [go_sem])
  have q3 : w1.cell? ⟨w.heap.size, 3, none⟩ = some (.int .i64 di) := bkeep b1 (by simp [go_sem])
  have p3 : w1.frozen? ⟨w.heap.size, 3, none⟩ = false := bthaw b1 (a := ⟨w.heap.size, 3, none⟩) (v := .int .i64 di) (by simp [go_sem]) (by simp [go_sem])
  have q4 : w1.cell? ⟨w.heap.size, 4, none⟩ = some (.int .i64 st) := bkeep b1 (by simp [go_sem])
  have p4 : w1.frozen? ⟨w.heap.size, 4, none⟩ = false := bthaw b1 (a := ⟨w.heap.size, 4, none⟩) (v := .int .i64 st) (by simp [go_sem]) (by simp [go_sem])
  have q5 : w1.cell? ⟨w.heap.size, 5, none⟩ = some (.int .i64 un) := bkeep b1 (by simp [go_sem])
  have p5 : w1.frozen? ⟨w.heap.size, 5, none⟩ = false := bthaw b1 (a := ⟨w.heap.size, 5, none⟩) (v := .int .i64 un) (by simp [go_sem]) (by simp [go_sem])
  have q6 : w1.cell? ⟨w.heap.size, 6, none⟩ = some (.int .i64 nx) := bkeep b1 (by simp [go_sem])
  have p6 : w1.frozen? ⟨w.heap.size, 6, none⟩ = false := bthaw b1 (a := ⟨w.heap.size, 6, none⟩) (v := .int .i64 nx) (by simp [go_sem]) (by simp [go_sem])
  have q7 : w1.cell? ⟨w.heap.size, 7, none⟩ = some (.int .i64 wa) := bkeep b1 (by simp [go_sem])
  have p7 : w1.frozen? ⟨w.heap.size, 7, none⟩ = false := bthaw b1 (a := ⟨w.heap.size, 7, none⟩) (v := .int .i64 wa) (by simp [go_sem]) (by simp [go_sem])
  have q8 : w1.cell? ⟨w.heap.size, 8, none⟩ = some (.string inn) := bkeep b1 (by simp [go_sem])
  have p8 : w1.frozen? ⟨w.heap.size, 8, none⟩ = false := bthaw b1 (a := ⟨w.heap.size, 8, none⟩) (v := .string inn) (by simp [go_sem]) (by simp [go_sem])
  have q9 : w1.cell? ⟨w.heap.size, 9, none⟩ = some (.string out) := bkeep b1 (by simp [go_sem])
  have p9 : w1.frozen? ⟨w.heap.size, 9, none⟩ = false := bthaw b1 (a := ⟨w.heap.size, 9, none⟩) (v := .string out) (by simp [go_sem]) (by simp [go_sem])
  have q10 : w1.cell? ⟨w.heap.size, 10, none⟩ = some (.bool fin) := bkeep b1 (by simp [go_sem])
  have p10 : w1.frozen? ⟨w.heap.size, 10, none⟩ = false := bthaw b1 (a := ⟨w.heap.size, 10, none⟩) (v := .bool fin) (by simp [go_sem]) (by simp [go_sem])
  have z0 : w1.cell? ⟨w.heap.size + 1, 0, none⟩ = some (.string ⟨#[]⟩) := bkeep b1 (by simp [go_sem])
  have f0 : w1.frozen? ⟨w.heap.size + 1, 0, none⟩ = false := bthaw b1 (a := ⟨w.heap.size + 1, 0, none⟩) (v := .string ⟨#[]⟩) (by simp [go_sem]) (by simp [go_sem])
  have z1 : w1.cell? ⟨w.heap.size + 1, 1, none⟩ = some (.int .i64 0) := bkeep b1 (by simp [go_sem])
  have f1 : w1.frozen? ⟨w.heap.size + 1, 1, none⟩ = false := bthaw b1 (a := ⟨w.heap.size + 1, 1, none⟩) (v := .int .i64 0) (by simp [go_sem]) (by simp [go_sem])
  have z2 : w1.cell? ⟨w.heap.size + 1, 2, none⟩ = some (.int .i64 0) := bkeep b1 (by simp [go_sem])
  have f2 : w1.frozen? ⟨w.heap.size + 1, 2, none⟩ = false := bthaw b1 (a := ⟨w.heap.size + 1, 2, none⟩) (v := .int .i64 0) (by simp [go_sem]) (by simp [go_sem])
  have z3 : w1.cell? ⟨w.heap.size + 1, 3, none⟩ = some (.int .i64 0) := bkeep b1 (by simp [go_sem])
  have f3 : w1.frozen? ⟨w.heap.size + 1, 3, none⟩ = false := bthaw b1 (a := ⟨w.heap.size + 1, 3, none⟩) (v := .int .i64 0) (by simp [go_sem]) (by simp [go_sem])
  have z4 : w1.cell? ⟨w.heap.size + 1, 4, none⟩ = some (.int .i64 0) := bkeep b1 (by simp [go_sem])
  have f4 : w1.frozen? ⟨w.heap.size + 1, 4, none⟩ = false := bthaw b1 (a := ⟨w.heap.size + 1, 4, none⟩) (v := .int .i64 0) (by simp [go_sem]) (by simp [go_sem])
  have z5 : w1.cell? ⟨w.heap.size + 1, 5, none⟩ = some (.int .i64 0) := bkeep b1 (by simp [go_sem])
  have f5 : w1.frozen? ⟨w.heap.size + 1, 5, none⟩ = false := bthaw b1 (a := ⟨w.heap.size + 1, 5, none⟩) (v := .int .i64 0) (by simp [go_sem]) (by simp [go_sem])
  have z6 : w1.cell? ⟨w.heap.size + 1, 6, none⟩ = some (.int .i64 0) := bkeep b1 (by simp [go_sem])
  have f6 : w1.frozen? ⟨w.heap.size + 1, 6, none⟩ = false := bthaw b1 (a := ⟨w.heap.size + 1, 6, none⟩) (v := .int .i64 0) (by simp [go_sem]) (by simp [go_sem])
  have z7 : w1.cell? ⟨w.heap.size + 1, 7, none⟩ = some (.int .i64 0) := bkeep b1 (by simp [go_sem])
  have f7 : w1.frozen? ⟨w.heap.size + 1, 7, none⟩ = false := bthaw b1 (a := ⟨w.heap.size + 1, 7, none⟩) (v := .int .i64 0) (by simp [go_sem]) (by simp [go_sem])
  have z8 : w1.cell? ⟨w.heap.size + 1, 8, none⟩ = some (.string ⟨#[]⟩) := bkeep b1 (by simp [go_sem])
  have f8 : w1.frozen? ⟨w.heap.size + 1, 8, none⟩ = false := bthaw b1 (a := ⟨w.heap.size + 1, 8, none⟩) (v := .string ⟨#[]⟩) (by simp [go_sem]) (by simp [go_sem])
  have z9 : w1.cell? ⟨w.heap.size + 1, 9, none⟩ = some (.string ⟨#[]⟩) := bkeep b1 (by simp [go_sem])
  have f9 : w1.frozen? ⟨w.heap.size + 1, 9, none⟩ = false := bthaw b1 (a := ⟨w.heap.size + 1, 9, none⟩) (v := .string ⟨#[]⟩) (by simp [go_sem]) (by simp [go_sem])
  have z10 : w1.cell? ⟨w.heap.size + 1, 10, none⟩ = some (.bool false) := bkeep b1 (by simp [go_sem])
  have f10 : w1.frozen? ⟨w.heap.size + 1, 10, none⟩ = false := bthaw b1 (a := ⟨w.heap.size + 1, 10, none⟩) (v := .bool false) (by simp [go_sem]) (by simp [go_sem])
  have B1 : Hid (Below w.heap.size w w1) := BW.out.trans (b1.mono (by simp; omega))
  clear b1 g1 BW TK
  go_wp2_with fail
  obtain ⟨w3, hw3⟩ : ∃ w3, w3 = ((w1.setCell ⟨w.heap.size, 4, none⟩ (.int .i64 3)).setCell ⟨w.heap.size, 10, none⟩ (.bool true)).setCell ⟨w.heap.size, 9, none⟩ (.string t) := ⟨_, rfl⟩
  rw [← hw3]
  have x0 : w3.cell? ⟨w.heap.size, 0, none⟩ = some (.string mc) := by rw [hw3]; simp [go_sem, q0]
  have g0 : w3.frozen? ⟨w.heap.size, 0, none⟩ = false := by rw [hw3]; simp [p0]
  have x1 : w3.cell? ⟨w.heap.size, 1, none⟩ = some (.int .i64 ip) := by rw [hw3]; simp [go_sem, q1]
  have g1 : w3.frozen? ⟨w.heap.size, 1, none⟩ = false := by rw [hw3]; simp [p1]
  have x2 : w3.cell? ⟨w.heap.size, 2, none⟩ = some (.int .i64 po) := by rw [hw3]; simp [go_sem, q2]
  have g2 : w3.frozen? ⟨w.heap.size, 2, none⟩ = false := by rw [hw3]; simp [p2]
  have x3 : w3.cell? ⟨w.heap.size, 3, none⟩ = some (.int .i64 di) := by rw [hw3]; simp [go_sem, q3]
  have g3 : w3.frozen? ⟨w.heap.size, 3, none⟩ = false := by rw [hw3]; simp [p3]
  have x4 : w3.cell? ⟨w.heap.size, 4, none⟩ = some (.int .i64 3) := by rw [hw3]; simp [go_sem, q4]
  have g4 : w3.frozen? ⟨w.heap.size, 4, none⟩ = false := by rw [hw3]; simp [p4]
  have x5 : w3.cell? ⟨w.heap.size, 5, none⟩ = some (.int .i64 un) := by rw [hw3]; simp [go_sem, q5]
  have g5 : w3.frozen? ⟨w.heap.size, 5, none⟩ = false := by rw [hw3]; simp [p5]
  have x6 : w3.cell? ⟨w.heap.size, 6, none⟩ = some (.int .i64 nx) := by rw [hw3]; simp [go_sem, q6]
  have g6 : w3.frozen? ⟨w.heap.size, 6, none⟩ = false := by rw [hw3]; simp [p6]
  have x7 : w3.cell? ⟨w.heap.size, 7, none⟩ = some (.int .i64 wa) := by rw [hw3]; simp [go_sem, q7]
  have g7 : w3.frozen? ⟨w.heap.size, 7, none⟩ = false := by rw [hw3]; simp [p7]
  have x8 : w3.cell? ⟨w.heap.size, 8, none⟩ = some (.string inn) := by rw [hw3]; simp [go_sem, q8]
  have g8 : w3.frozen? ⟨w.heap.size, 8, none⟩ = false := by rw [hw3]; simp [p8]
  have x9 : w3.cell? ⟨w.heap.size, 9, none⟩ = some (.string t) := by rw [hw3]; simp [go_sem, q9]
  have g9 : w3.frozen? ⟨w.heap.size, 9, none⟩ = false := by rw [hw3]; simp [p9]
  have x10 : w3.cell? ⟨w.heap.size, 10, none⟩ = some (.bool true) := by rw [hw3]; simp [go_sem, q10]
  have g10 : w3.frozen? ⟨w.heap.size, 10, none⟩ = false := by rw [hw3]; simp [p10]
  have y0 : w3.cell? ⟨w.heap.size + 1, 0, none⟩ = some (.string ⟨#[]⟩) := by rw [hw3]; simp [go_sem, z0]
  have h0 : w3.frozen? ⟨w.heap.size + 1, 0, none⟩ = false := by rw [hw3]; simp [f0]
  have y1 : w3.cell? ⟨w.heap.size + 1, 1, none⟩ = some (.int .i64 0) := by rw [hw3]; simp [go_sem, z1]
  have h1 : w3.frozen? ⟨w.heap.size + 1, 1, none⟩ = false := by rw [hw3]; simp [f1]
  have y2 : w3.cell? ⟨w.heap.size + 1, 2, none⟩ = some (.int .i64 0) := by rw [hw3]; simp [go_sem, z2]
  have h2 : w3.frozen? ⟨w.heap.size + 1, 2, none⟩ = false := by rw [hw3]; simp [f2]
  have y3 : w3.cell? ⟨w.heap.size + 1, 3, none⟩ = some (.int .i64 0) := by rw [hw3]; simp [go_sem, z3]
  have h3 : w3.frozen? ⟨w.heap.size + 1, 3, none⟩ = false := by rw [hw3]; simp [f3]
  have y4 : w3.cell? ⟨w.heap.size + 1, 4, none⟩ = some (.int .i64 0) := by rw [hw3]; simp [go_sem, z4]
  have h4 : w3.frozen? ⟨w.heap.size + 1, 4, none⟩ = false := by rw [hw3]; simp [f4]
  have y5 : w3.cell? ⟨w.heap.size + 1, 5, none⟩ = some (.int .i64 0) := by rw [hw3]; simp [go_sem, z5]
  have h5 : w3.frozen? ⟨w.heap.size + 1, 5, none⟩ = false := by rw [hw3]; simp [f5]
  have y6 : w3.cell? ⟨w.heap.size + 1, 6, none⟩ = some (.int .i64 0) := by rw [hw3]; simp [go_sem, z6]
  have h6 : w3.frozen? ⟨w.heap.size + 1, 6, none⟩ = false := by rw [hw3]; simp [f6]
  have y7 : w3.cell? ⟨w.heap.size + 1, 7, none⟩ = some (.int .i64 0) := by rw [hw3]; simp [go_sem, z7]
  have h7 : w3.frozen? ⟨w.heap.size + 1, 7, none⟩ = false := by rw [hw3]; simp [f7]
  have y8 : w3.cell? ⟨w.heap.size + 1, 8, none⟩ = some (.string ⟨#[]⟩) := by rw [hw3]; simp [go_sem, z8]
  have h8 : w3.frozen? ⟨w.heap.size + 1, 8, none⟩ = false := by rw [hw3]; simp [f8]
  have y9 : w3.cell? ⟨w.heap.size + 1, 9, none⟩ = some (.string ⟨#[]⟩) := by rw [hw3]; simp [go_sem, z9]
  have h9 : w3.frozen? ⟨w.heap.size + 1, 9, none⟩ = false := by rw [hw3]; simp [f9]
  have y10 : w3.cell? ⟨w.heap.size + 1, 10, none⟩ = some (.bool false) := by rw [hw3]; simp [go_sem, z10]
  have h10 : w3.frozen? ⟨w.heap.size + 1, 10, none⟩ = false := by rw [hw3]; simp [f10]
  have B3 : Hid (Below w.heap.size w w3) := by
    rw [hw3]
    exact ((B1.out.setCell (Nat.le_refl _) _).setCell (Nat.le_refl _) _).setCell (Nat.le_refl _) _
  clear hw3 B1 hadd q0 p0 z0 f0 q1 p1 z1 f1 q2 p2 z2 f2 q3 p3 z3 f3 q4 p4 z4 f4 q5 p5 z5 f5 q6 p6 z6 f6 q7 p7 z7 f7 q8 p8 z8 f8 q9 p9 z9 f9 q10 p10 z10 f10
  refine wp_region_held_drew (S := (fun wx => wx.cell? ⟨w.heap.size, 5, none⟩ = some (.int .i64 un) ∧ True)) (by kernel_rfl) ?_ (fun hH0 => ?_)
  · exact ⟨x5, trivial⟩
  refine wpAnyH_take (i := 0) (v := ?v1) rfl (by kernel_rfl) (by kernel_rfl) (by kernel_rfl) (fun _ _ _ h => h) (Or.inl ⟨by rfl, ?hy1⟩) (by assumption) ?rest1
  case hy1 => (intro w hSw; (try dsimp only at hSw); go_simp; (try with_reducible rfl))
  refine wpAnyH_take (i := 1) (v := ?v2) rfl (by kernel_rfl) (by kernel_rfl) (by kernel_rfl) (fun _ _ _ h => h) (Or.inl ⟨by rfl, ?hy2⟩) (by assumption) ?rest2
  case hy2 => (intro w hSw; (try dsimp only at hSw); go_simp; (try with_reducible rfl))
  refine wpAnyH_ready (rs := [2]) (by kernel_rfl) (by simp) ?_
  refine AllReadyH.cons rfl (fun K hK => ?_) ?_
  · go_simp
    refine hK.out _ _ ?_ (fun hH3 => ?_)
    · (try dsimp only)
      (first | exact ⟨x5, trivial⟩ | exact ⟨bkeep b4 x5, trivial⟩ | exact ⟨by simp [go_sem, bkeep b4 x5], trivial⟩)
    clear hK K hH0
    refine wpAnyH_ready (rs := [3]) (by kernel_rfl) (by simp) ?_
    refine AllReadyH.cons rfl (fun K hK => ?_) ?_
    · go_simp
      go_at_call 47
      (with_reducible refine (TU.out _).mono ?_)
      rintro e w4 ⟨rfl, g4⟩
      have b4 := g4.below
      have k6 : w4.cell? ⟨w.heap.size, 6, none⟩ = some (.int .i64 nx) := bkeep b4 (by first | exact x6)
      have m6 : w4.frozen? ⟨w.heap.size, 6, none⟩ = false := bthaw b4 (a := ⟨w.heap.size, 6, none⟩) (v := .int .i64 nx) (by first | exact x6) (by first | exact g6)
      refine hK.out _ _ ?_ (fun hH4 => ?_)
      · (try dsimp only)
        (first | exact ⟨x5, trivial⟩ | exact ⟨bkeep b4 x5, trivial⟩ | exact ⟨by simp [go_sem, bkeep b4 x5], trivial⟩)
      clear hK K hH3
      refine wpAnyH_ready (rs := [4]) (by kernel_rfl) (by simp) ?_
      refine AllReadyH.cons rfl (fun K hK => ?_) ?_
      · go_simp
        go_at_call 46
        (with_reducible refine (TQ.out _).mono ?_)
        rintro e w5 ⟨rfl, hw5⟩
        have hw6 := hw5.symm
        clear hw5
        subst hw6
        refine hK.out _ _ ?_ (fun hH5 => ?_)
        · (try dsimp only)
          (first | exact ⟨x5, trivial⟩ | exact ⟨bkeep b4 x5, trivial⟩ | exact ⟨by simp [go_sem, bkeep b4 x5], trivial⟩)
        clear hK K hH4
        refine wpAnyH_take (i := 5) (v := ?v6) rfl (by kernel_rfl) (by kernel_rfl) (by kernel_rfl) (fun _ _ _ h => h) (Or.inl ⟨by rfl, ?hy6⟩) (by assumption) ?rest6
        case hy6 => (intro w hSw; (try dsimp only at hSw); go_simp; (try with_reducible rfl))
        refine wpAnyH_ready (rs := [6]) (by kernel_rfl) (by simp) ?_
        refine AllReadyH.cons rfl (fun K hK => ?_) ?_
        · go_simp
          refine hK.out _ _ ?_ (fun hH7 => ?_)
          · (try dsimp only)
            (first | exact ⟨x5, trivial⟩ | exact ⟨bkeep b4 x5, trivial⟩ | exact ⟨by simp [go_sem, bkeep b4 x5], trivial⟩)
          clear hK K hH5
          refine wpAnyH_done (by kernel_rfl) ?_ _
          have C5 : Hid (CnS w.heap.size mc ip po di 3 un NX wa inn t true w (w4.setCell ⟨w.heap.size, 6, none⟩ (.int .i64 NX))) := ⟨by simp [go_sem, bkeep b4 x0], by simp [go_sem, bkeep b4 x1], by simp [go_sem, bkeep b4 x2], by simp [go_sem, bkeep b4 x3], by simp [go_sem, bkeep b4 x4], by simp [go_sem, bkeep b4 x5], by simp [go_sem, k6], by simp [go_sem, bkeep b4 x7], by simp [go_sem, bkeep b4 x8], by simp [go_sem, bkeep b4 x9], by simp [go_sem, bkeep b4 x10], ⟨(B3.out.drew.trans (b4.mono B3.out.size)).setCell (Nat.le_refl _) _⟩⟩
          have r0 : (w4.setCell ⟨w.heap.size, 6, none⟩ (.int .i64 NX)).cell? ⟨w.heap.size + 1, 0, none⟩ = some (.string ⟨#[]⟩) := by simp [go_sem, bkeep b4 y0]
          have s0 : (w4.setCell ⟨w.heap.size, 6, none⟩ (.int .i64 NX)).frozen? ⟨w.heap.size + 1, 0, none⟩ = false := by simp [bthaw b4 y0 h0]
          have r1 : (w4.setCell ⟨w.heap.size, 6, none⟩ (.int .i64 NX)).cell? ⟨w.heap.size + 1, 1, none⟩ = some (.int .i64 0) := by simp [go_sem, bkeep b4 y1]
          have s1 : (w4.setCell ⟨w.heap.size, 6, none⟩ (.int .i64 NX)).frozen? ⟨w.heap.size + 1, 1, none⟩ = false := by simp [bthaw b4 y1 h1]
          have r2 : (w4.setCell ⟨w.heap.size, 6, none⟩ (.int .i64 NX)).cell? ⟨w.heap.size + 1, 2, none⟩ = some (.int .i64 0) := by simp [go_sem, bkeep b4 y2]
          have s2 : (w4.setCell ⟨w.heap.size, 6, none⟩ (.int .i64 NX)).frozen? ⟨w.heap.size + 1, 2, none⟩ = false := by simp [bthaw b4 y2 h2]
          have r3 : (w4.setCell ⟨w.heap.size, 6, none⟩ (.int .i64 NX)).cell? ⟨w.heap.size + 1, 3, none⟩ = some (.int .i64 0) := by simp [go_sem, bkeep b4 y3]
          have s3 : (w4.setCell ⟨w.heap.size, 6, none⟩ (.int .i64 NX)).frozen? ⟨w.heap.size + 1, 3, none⟩ = false := by simp [bthaw b4 y3 h3]
          have r4 : (w4.setCell ⟨w.heap.size, 6, none⟩ (.int .i64 NX)).cell? ⟨w.heap.size + 1, 4, none⟩ = some (.int .i64 0) := by simp [go_sem, bkeep b4 y4]
          have s4 : (w4.setCell ⟨w.heap.size, 6, none⟩ (.int .i64 NX)).frozen? ⟨w.heap.size + 1, 4, none⟩ = false := by simp [bthaw b4 y4 h4]
          have r5 : (w4.setCell ⟨w.heap.size, 6, none⟩ (.int .i64 NX)).cell? ⟨w.heap.size + 1, 5, none⟩ = some (.int .i64 0) := by simp [go_sem, bkeep b4 y5]
          have s5 : (w4.setCell ⟨w.heap.size, 6, none⟩ (.int .i64 NX)).frozen? ⟨w.heap.size + 1, 5, none⟩ = false := by simp [bthaw b4 y5 h5]
          have r6 : (w4.setCell ⟨w.heap.size, 6, none⟩ (.int .i64 NX)).cell? ⟨w.heap.size + 1, 6, none⟩ = some (.int .i64 0) := by simp [go_sem, bkeep b4 y6]
          have s6 : (w4.setCell ⟨w.heap.size, 6, none⟩ (.int .i64 NX)).frozen? ⟨w.heap.size + 1, 6, none⟩ = false := by simp [bthaw b4 y6 h6]
          have r7 : (w4.setCell ⟨w.heap.size, 6, none⟩ (.int .i64 NX)).cell? ⟨w.heap.size + 1, 7, none⟩ = some (.int .i64 0) := by simp [go_sem, bkeep b4 y7]
          have s7 : (w4.setCell ⟨w.heap.size, 6, none⟩ (.int .i64 NX)).frozen? ⟨w.heap.size + 1, 7, none⟩ = false := by simp [bthaw b4 y7 h7]
          have r8 : (w4.setCell ⟨w.heap.size, 6, none⟩ (.int .i64 NX)).cell? ⟨w.heap.size + 1, 8, none⟩ = some (.string ⟨#[]⟩) := by simp [go_sem, bkeep b4 y8]
          have s8 : (w4.setCell ⟨w.heap.size, 6, none⟩ (.int .i64 NX)).frozen? ⟨w.heap.size + 1, 8, none⟩ = false := by simp [bthaw b4 y8 h8]
          have r9 : (w4.setCell ⟨w.heap.size, 6, none⟩ (.int .i64 NX)).cell? ⟨w.heap.size + 1, 9, none⟩ = some (.string ⟨#[]⟩) := by simp [go_sem, bkeep b4 y9]
          have s9 : (w4.setCell ⟨w.heap.size, 6, none⟩ (.int .i64 NX)).frozen? ⟨w.heap.size + 1, 9, none⟩ = false := by simp [bthaw b4 y9 h9]
          have r10 : (w4.setCell ⟨w.heap.size, 6, none⟩ (.int .i64 NX)).cell? ⟨w.heap.size + 1, 10, none⟩ = some (.bool false) := by simp [go_sem, bkeep b4 y10]
          have s10 : (w4.setCell ⟨w.heap.size, 6, none⟩ (.int .i64 NX)).frozen? ⟨w.heap.size + 1, 10, none⟩ = false := by simp [bthaw b4 y10 h10]
          have hs5 : w.heap.size + 2 ≤ (w4.setCell ⟨w.heap.size, 6, none⟩ (.int .i64 NX)).heap.size := by
            have := World.block_lt_of_cell? _ _ r0
            simp at this ⊢
            omega
          generalize w4.setCell ⟨w.heap.size, 6, none⟩ (.int .i64 NX) = w5 at C5 hs5 r0 s0 r1 s1 r2 s2 r3 s3 r4 s4 r5 s5 r6 s6 r7 s7 r8 s8 r9 s9 r10 s10 ⊢
          have SS : Hid (w5.drew.cell? ⟨w.heap.size, 0, none⟩ = some (.string mc) ∧ w5.drew.cell? ⟨w.heap.size, 1, none⟩ = some (.int .i64 ip) ∧ w5.drew.cell? ⟨w.heap.size, 2, none⟩ = some (.int .i64 po) ∧ w5.drew.cell? ⟨w.heap.size, 3, none⟩ = some (.int .i64 di) ∧ w5.drew.cell? ⟨w.heap.size, 4, none⟩ = some (.int .i64 3) ∧ w5.drew.cell? ⟨w.heap.size, 5, none⟩ = some (.int .i64 un) ∧ w5.drew.cell? ⟨w.heap.size, 6, none⟩ = some (.int .i64 NX) ∧ w5.drew.cell? ⟨w.heap.size, 7, none⟩ = some (.int .i64 wa) ∧ w5.drew.cell? ⟨w.heap.size, 8, none⟩ = some (.string inn) ∧ w5.drew.cell? ⟨w.heap.size, 9, none⟩ = some (.string t) ∧ w5.drew.cell? ⟨w.heap.size, 10, none⟩ = some (.bool true) ∧ KpC w w5.drew) := C5.out.below ((Below.refl _ _).drew)
          have CB : Hid (∀ wx wy, Below wx.heap.size wx wy → (wx.cell? ⟨w.heap.size, 0, none⟩ = some (.string mc) ∧ wx.cell? ⟨w.heap.size, 1, none⟩ = some (.int .i64 ip) ∧ wx.cell? ⟨w.heap.size, 2, none⟩ = some (.int .i64 po) ∧ wx.cell? ⟨w.heap.size, 3, none⟩ = some (.int .i64 di) ∧ wx.cell? ⟨w.heap.size, 4, none⟩ = some (.int .i64 3) ∧ wx.cell? ⟨w.heap.size, 5, none⟩ = some (.int .i64 un) ∧ wx.cell? ⟨w.heap.size, 6, none⟩ = some (.int .i64 NX) ∧ wx.cell? ⟨w.heap.size, 7, none⟩ = some (.int .i64 wa) ∧ wx.cell? ⟨w.heap.size, 8, none⟩ = some (.string inn) ∧ wx.cell? ⟨w.heap.size, 9, none⟩ = some (.string t) ∧ wx.cell? ⟨w.heap.size, 10, none⟩ = some (.bool true) ∧ KpC w wx) → (wy.cell? ⟨w.heap.size, 0, none⟩ = some (.string mc) ∧ wy.cell? ⟨w.heap.size, 1, none⟩ = some (.int .i64 ip) ∧ wy.cell? ⟨w.heap.size, 2, none⟩ = some (.int .i64 po) ∧ wy.cell? ⟨w.heap.size, 3, none⟩ = some (.int .i64 di) ∧ wy.cell? ⟨w.heap.size, 4, none⟩ = some (.int .i64 3) ∧ wy.cell? ⟨w.heap.size, 5, none⟩ = some (.int .i64 un) ∧ wy.cell? ⟨w.heap.size, 6, none⟩ = some (.int .i64 NX) ∧ wy.cell? ⟨w.heap.size, 7, none⟩ = some (.int .i64 wa) ∧ wy.cell? ⟨w.heap.size, 8, none⟩ = some (.string inn) ∧ wy.cell? ⟨w.heap.size, 9, none⟩ = some (.string t) ∧ wy.cell? ⟨w.heap.size, 10, none⟩ = some (.bool true) ∧ KpC w wy)) := fun wx wy hb h => CnS.below h hb
          have FRR : Hid (∀ wx, (wx.cell? ⟨w.heap.size, 0, none⟩ = some (.string mc) ∧ wx.cell? ⟨w.heap.size, 1, none⟩ = some (.int .i64 ip) ∧ wx.cell? ⟨w.heap.size, 2, none⟩ = some (.int .i64 po) ∧ wx.cell? ⟨w.heap.size, 3, none⟩ = some (.int .i64 di) ∧ wx.cell? ⟨w.heap.size, 4, none⟩ = some (.int .i64 3) ∧ wx.cell? ⟨w.heap.size, 5, none⟩ = some (.int .i64 un) ∧ wx.cell? ⟨w.heap.size, 6, none⟩ = some (.int .i64 NX) ∧ wx.cell? ⟨w.heap.size, 7, none⟩ = some (.int .i64 wa) ∧ wx.cell? ⟨w.heap.size, 8, none⟩ = some (.string inn) ∧ wx.cell? ⟨w.heap.size, 9, none⟩ = some (.string t) ∧ wx.cell? ⟨w.heap.size, 10, none⟩ = some (.bool true) ∧ KpC w wx) → ((((((((((((wx.setCell ⟨w.heap.size + 1, 0, none⟩ (.string mc)).setCell ⟨w.heap.size + 1, 1, none⟩ (.int .i64 ip)).setCell ⟨w.heap.size + 1, 2, none⟩ (.int .i64 po)).setCell ⟨w.heap.size + 1, 3, none⟩ (.int .i64 di)).setCell ⟨w.heap.size + 1, 4, none⟩ (.int .i64 3)).setCell ⟨w.heap.size + 1, 5, none⟩ (.int .i64 un)).setCell ⟨w.heap.size + 1, 6, none⟩ (.int .i64 NX)).setCell ⟨w.heap.size + 1, 7, none⟩ (.int .i64 wa)).setCell ⟨w.heap.size + 1, 8, none⟩ (.string inn)).setCell ⟨w.heap.size + 1, 9, none⟩ (.string t)).setCell ⟨w.heap.size + 1, 10, none⟩ (.bool true)).cell? ⟨w.heap.size, 0, none⟩ = some (.string mc) ∧ (((((((((((wx.setCell ⟨w.heap.size + 1, 0, none⟩ (.string mc)).setCell ⟨w.heap.size + 1, 1, none⟩ (.int .i64 ip)).setCell ⟨w.heap.size + 1, 2, none⟩ (.int .i64 po)).setCell ⟨w.heap.size + 1, 3, none⟩ (.int .i64 di)).setCell ⟨w.heap.size + 1, 4, none⟩ (.int .i64 3)).setCell ⟨w.heap.size + 1, 5, none⟩ (.int .i64 un)).setCell ⟨w.heap.size + 1, 6, none⟩ (.int .i64 NX)).setCell ⟨w.heap.size + 1, 7, none⟩ (.int .i64 wa)).setCell ⟨w.heap.size + 1, 8, none⟩ (.string inn)).setCell ⟨w.heap.size + 1, 9, none⟩ (.string t)).setCell ⟨w.heap.size + 1, 10, none⟩ (.bool true)).cell? ⟨w.heap.size, 1, none⟩ = some (.int .i64 ip) ∧ (((((((((((wx.setCell ⟨w.heap.size + 1, 0, none⟩ (.string mc)).setCell ⟨w.heap.size + 1, 1, none⟩ (.int .i64 ip)).setCell ⟨w.heap.size + 1, 2, none⟩ (.int .i64 po)).setCell ⟨w.heap.size + 1, 3, none⟩ (.int .i64 di)).setCell ⟨w.heap.size + 1, 4, none⟩ (.int .i64 3)).setCell ⟨w.heap.size + 1, 5, none⟩ (.int .i64 un)).setCell ⟨w.heap.size + 1, 6, none⟩ (.int .i64 NX)).setCell ⟨w.heap.size + 1, 7, none⟩ (.int .i64 wa)).setCell ⟨w.heap.size + 1, 8, none⟩ (.string inn)).setCell ⟨w.heap.size + 1, 9, none⟩ (.string t)).setCell ⟨w.heap.size + 1, 10, none⟩ (.bool true)).cell? ⟨w.heap.size, 2, none⟩ = some (.int .i64 po) ∧ (((((((((((wx.setCell ⟨w.heap.size + 1, 0, none⟩ (.string mc)).setCell ⟨w.heap.size + 1, 1, none⟩ (.int .i64 ip)).setCell ⟨w.heap.size + 1, 2, none⟩ (.int .i64 po)).setCell ⟨w.heap.size + 1, 3, none⟩ (.int .i64 di)).setCell ⟨w.heap.size + 1, 4, none⟩ (.int .i64 3)).setCell ⟨w.heap.size + 1, 5, none⟩ (.int .i64 un)).setCell ⟨w.heap.size + 1, 6, none⟩ (.int .i64 NX)).setCell ⟨w.heap.size + 1, 7, none⟩ (.int .i64 wa)).setCell ⟨w.heap.size + 1, 8, none⟩ (.string inn)).setCell ⟨w.heap.size + 1, 9, none⟩ (.string t)).setCell ⟨w.heap.size + 1, 10, none⟩ (.bool true)).cell? ⟨w.heap.size, 3, none⟩ = some (.int .i64 di) ∧ (((((((((((wx.setCell ⟨w.heap.size + 1, 0, none⟩ (.string mc)).setCell ⟨w.heap.size + 1, 1, none⟩ (.int .i64 ip)).setCell ⟨w.heap.size + 1, 2, none⟩ (.int .i64 po)).setCell ⟨w.heap.size + 1, 3, none⟩ (.int .i64 di)).setCell ⟨w.heap.size + 1, 4, none⟩ (.int .i64 3)).setCell ⟨w.heap.size + 1, 5, none⟩ (.int .i64 un)).setCell ⟨w.heap.size + 1, 6, none⟩ (.int .i64 NX)).setCell ⟨w.heap.size + 1, 7, none⟩ (.int .i64 wa)).setCell ⟨w.heap.size + 1, 8, none⟩ (.string inn)).setCell ⟨w.heap.size + 1, 9, none⟩ (.string t)).setCell ⟨w.heap.size + 1, 10, none⟩ (.bool true)).cell? ⟨w.heap.size, 4, none⟩ = some (.int .i64 3) ∧ (((((((((((wx.setCell ⟨w.heap.size + 1, 0, none⟩ (.string mc)).setCell ⟨w.heap.size + 1, 1, none⟩ (.int .i64 ip)).setCell ⟨w.heap.size + 1, 2, none⟩ (.int .i64 po)).setCell ⟨w.heap.size + 1, 3, none⟩ (.int .i64 di)).setCell ⟨w.heap.size + 1, 4, none⟩ (.int .i64 3)).setCell ⟨w.heap.size + 1, 5, none⟩ (.int .i64 un)).setCell ⟨w.heap.size + 1, 6, none⟩ (.int .i64 NX)).setCell ⟨w.heap.size + 1, 7, none⟩ (.int .i64 wa)).setCell ⟨w.heap.size + 1, 8, none⟩ (.string inn)).setCell ⟨w.heap.size + 1, 9, none⟩ (.string t)).setCell ⟨w.heap.size + 1, 10, none⟩ (.bool true)).cell? ⟨w.heap.size, 5, none⟩ = some (.int .i64 un) ∧ (((((((((((wx.setCell ⟨w.heap.size + 1, 0, none⟩ (.string mc)).setCell ⟨w.heap.size + 1, 1, none⟩ (.int .i64 ip)).setCell ⟨w.heap.size + 1, 2, none⟩ (.int .i64 po)).setCell ⟨w.heap.size + 1, 3, none⟩ (.int .i64 di)).setCell ⟨w.heap.size + 1, 4, none⟩ (.int .i64 3)).setCell ⟨w.heap.size + 1, 5, none⟩ (.int .i64 un)).setCell ⟨w.heap.size + 1, 6, none⟩ (.int .i64 NX)).setCell ⟨w.heap.size + 1, 7, none⟩ (.int .i64 wa)).setCell ⟨w.heap.size + 1, 8, none⟩ (.string inn)).setCell ⟨w.heap.size + 1, 9, none⟩ (.string t)).setCell ⟨w.heap.size + 1, 10, none⟩ (.bool true)).cell? ⟨w.heap.size, 6, none⟩ = some (.int .i64 NX) ∧ (((((((((((wx.setCell ⟨w.heap.size + 1, 0, none⟩ (.string mc)).setCell ⟨w.heap.size + 1, 1, none⟩ (.int .i64 ip)).setCell ⟨w.heap.size + 1, 2, none⟩ (.int .i64 po)).setCell ⟨w.heap.size + 1, 3, none⟩ (.int .i64 di)).setCell ⟨w.heap.size + 1, 4, none⟩ (.int .i64 3)).setCell ⟨w.heap.size + 1, 5, none⟩ (.int .i64 un)).setCell ⟨w.heap.size + 1, 6, none⟩ (.int .i64 NX)).setCell ⟨w.heap.size + 1, 7, none⟩ (.int .i64 wa)).setCell ⟨w.heap.size + 1, 8, none⟩ (.string inn)).setCell ⟨w.heap.size + 1, 9, none⟩ (.string t)).setCell ⟨w.heap.size + 1, 10, none⟩ (.bool true)).cell? ⟨w.heap.size, 7, none⟩ = some (.int .i64 wa) ∧ (((((((((((wx.setCell ⟨w.heap.size + 1, 0, none⟩ (.string mc)).setCell ⟨w.heap.size + 1, 1, none⟩ (.int .i64 ip)).setCell ⟨w.heap.size + 1, 2, none⟩ (.int .i64 po)).setCell ⟨w.heap.size + 1, 3, none⟩ (.int .i64 di)).setCell ⟨w.heap.size + 1, 4, none⟩ (.int .i64 3)).setCell ⟨w.heap.size + 1, 5, none⟩ (.int .i64 un)).setCell ⟨w.heap.size + 1, 6, none⟩ (.int .i64 NX)).setCell ⟨w.heap.size + 1, 7, none⟩ (.int .i64 wa)).setCell ⟨w.heap.size + 1, 8, none⟩ (.string inn)).setCell ⟨w.heap.size + 1, 9, none⟩ (.string t)).setCell ⟨w.heap.size + 1, 10, none⟩ (.bool true)).cell? ⟨w.heap.size, 8, none⟩ = some (.string inn) ∧ (((((((((((wx.setCell ⟨w.heap.size + 1, 0, none⟩ (.string mc)).setCell ⟨w.heap.size + 1, 1, none⟩ (.int .i64 ip)).setCell ⟨w.heap.size + 1, 2, none⟩ (.int .i64 po)).setCell ⟨w.heap.size + 1, 3, none⟩ (.int .i64 di)).setCell ⟨w.heap.size + 1, 4, none⟩ (.int .i64 3)).setCell ⟨w.heap.size + 1, 5, none⟩ (.int .i64 un)).setCell ⟨w.heap.size + 1, 6, none⟩ (.int .i64 NX)).setCell ⟨w.heap.size + 1, 7, none⟩ (.int .i64 wa)).setCell ⟨w.heap.size + 1, 8, none⟩ (.string inn)).setCell ⟨w.heap.size + 1, 9, none⟩ (.string t)).setCell ⟨w.heap.size + 1, 10, none⟩ (.bool true)).cell? ⟨w.heap.size, 9, none⟩ = some (.string t) ∧ (((((((((((wx.setCell ⟨w.heap.size + 1, 0, none⟩ (.string mc)).setCell ⟨w.heap.size + 1, 1, none⟩ (.int .i64 ip)).setCell ⟨w.heap.size + 1, 2, none⟩ (.int .i64 po)).setCell ⟨w.heap.size + 1, 3, none⟩ (.int .i64 di)).setCell ⟨w.heap.size + 1, 4, none⟩ (.int .i64 3)).setCell ⟨w.heap.size + 1, 5, none⟩ (.int .i64 un)).setCell ⟨w.heap.size + 1, 6, none⟩ (.int .i64 NX)).setCell ⟨w.heap.size + 1, 7, none⟩ (.int .i64 wa)).setCell ⟨w.heap.size + 1, 8, none⟩ (.string inn)).setCell ⟨w.heap.size + 1, 9, none⟩ (.string t)).setCell ⟨w.heap.size + 1, 10, none⟩ (.bool true)).cell? ⟨w.heap.size, 10, none⟩ = some (.bool true) ∧ KpC w (((((((((((wx.setCell ⟨w.heap.size + 1, 0, none⟩ (.string mc)).setCell ⟨w.heap.size + 1, 1, none⟩ (.int .i64 ip)).setCell ⟨w.heap.size + 1, 2, none⟩ (.int .i64 po)).setCell ⟨w.heap.size + 1, 3, none⟩ (.int .i64 di)).setCell ⟨w.heap.size + 1, 4, none⟩ (.int .i64 3)).setCell ⟨w.heap.size + 1, 5, none⟩ (.int .i64 un)).setCell ⟨w.heap.size + 1, 6, none⟩ (.int .i64 NX)).setCell ⟨w.heap.size + 1, 7, none⟩ (.int .i64 wa)).setCell ⟨w.heap.size + 1, 8, none⟩ (.string inn)).setCell ⟨w.heap.size + 1, 9, none⟩ (.string t)).setCell ⟨w.heap.size + 1, 10, none⟩ (.bool true)))) := fun wx hc0 => by
            have hc : CnS w.heap.size mc ip po di 3 un NX wa inn t true w wx := hc0
            exact (((((((((((hc.far ⟨w.heap.size + 1, 0, none⟩ (.string mc) (by simp) (by simp)).far ⟨w.heap.size + 1, 1, none⟩ (.int .i64 ip) (by simp) (by simp)).far ⟨w.heap.size + 1, 2, none⟩ (.int .i64 po) (by simp) (by simp)).far ⟨w.heap.size + 1, 3, none⟩ (.int .i64 di) (by simp) (by simp)).far ⟨w.heap.size + 1, 4, none⟩ (.int .i64 3) (by simp) (by simp)).far ⟨w.heap.size + 1, 5, none⟩ (.int .i64 un) (by simp) (by simp)).far ⟨w.heap.size + 1, 6, none⟩ (.int .i64 NX) (by simp) (by simp)).far ⟨w.heap.size + 1, 7, none⟩ (.int .i64 wa) (by simp) (by simp)).far ⟨w.heap.size + 1, 8, none⟩ (.string inn) (by simp) (by simp)).far ⟨w.heap.size + 1, 9, none⟩ (.string t) (by simp) (by simp)).far ⟨w.heap.size + 1, 10, none⟩ (.bool true) (by simp) (by simp))
          have TO5 : Hid (∀ w, Calls Try.prog 49 #[.agg #[.string mc, .int .i64 ip, .int .i64 po, .int .i64 di, .int .i64 3, .int .i64 un, .int .i64 NX, .int .i64 wa, .string inn, .string t, .bool true]] w fun e w' => ∃ v, e = .returned v ∧ OwnS sgG 7 27 w' w.heap.size v (puL po wa un t true) ∧ Below w.heap.size w w') := TO.out NX
          go_wp2_with fail
          go_region_held3 (fun wx => wx.cell? ⟨w.heap.size, 0, none⟩ = some (.string mc) ∧ wx.cell? ⟨w.heap.size, 1, none⟩ = some (.int .i64 ip) ∧ wx.cell? ⟨w.heap.size, 2, none⟩ = some (.int .i64 po) ∧ wx.cell? ⟨w.heap.size, 3, none⟩ = some (.int .i64 di) ∧ wx.cell? ⟨w.heap.size, 4, none⟩ = some (.int .i64 3) ∧ wx.cell? ⟨w.heap.size, 5, none⟩ = some (.int .i64 un) ∧ wx.cell? ⟨w.heap.size, 6, none⟩ = some (.int .i64 NX) ∧ wx.cell? ⟨w.heap.size, 7, none⟩ = some (.int .i64 wa) ∧ wx.cell? ⟨w.heap.size, 8, none⟩ = some (.string inn) ∧ wx.cell? ⟨w.heap.size, 9, none⟩ = some (.string t) ∧ wx.cell? ⟨w.heap.size, 10, none⟩ = some (.bool true) ∧ KpC w wx)
            (first | (with_reducible exact SS.out) | (with_reducible exact FRR.out _ (by assumption)) | (with_reducible exact CB.out _ _ b6 (by assumption)))
            ((go_at_call 49; (with_reducible refine (TO5.out _).mono ?_); rintro e w6 ⟨v6, rfl, o6, b6⟩; have zz0 : w6.cell? ⟨w.heap.size + 1, 0, none⟩ = some (.string ⟨#[]⟩) := bkeep b6 r0; have hh0 : w6.frozen? ⟨w.heap.size + 1, 0, none⟩ = false := bthaw b6 (a := ⟨w.heap.size + 1, 0, none⟩) (v := .string ⟨#[]⟩) r0 s0; have zz1 : w6.cell? ⟨w.heap.size + 1, 1, none⟩ = some (.int .i64 0) := bkeep b6 r1; have hh1 : w6.frozen? ⟨w.heap.size + 1, 1, none⟩ = false := bthaw b6 (a := ⟨w.heap.size + 1, 1, none⟩) (v := .int .i64 0) r1 s1; have zz2 : w6.cell? ⟨w.heap.size + 1, 2, none⟩ = some (.int .i64 0) := bkeep b6 r2; have hh2 : w6.frozen? ⟨w.heap.size + 1, 2, none⟩ = false := bthaw b6 (a := ⟨w.heap.size + 1, 2, none⟩) (v := .int .i64 0) r2 s2; have zz3 : w6.cell? ⟨w.heap.size + 1, 3, none⟩ = some (.int .i64 0) := bkeep b6 r3; have hh3 : w6.frozen? ⟨w.heap.size + 1, 3, none⟩ = false := bthaw b6 (a := ⟨w.heap.size + 1, 3, none⟩) (v := .int .i64 0) r3 s3; have zz4 : w6.cell? ⟨w.heap.size + 1, 4, none⟩ = some (.int .i64 0) := bkeep b6 r4; have hh4 : w6.frozen? ⟨w.heap.size + 1, 4, none⟩ = false := bthaw b6 (a := ⟨w.heap.size + 1, 4, none⟩) (v := .int .i64 0) r4 s4; have zz5 : w6.cell? ⟨w.heap.size + 1, 5, none⟩ = some (.int .i64 0) := bkeep b6 r5; have hh5 : w6.frozen? ⟨w.heap.size + 1, 5, none⟩ = false := bthaw b6 (a := ⟨w.heap.size + 1, 5, none⟩) (v := .int .i64 0) r5 s5; have zz6 : w6.cell? ⟨w.heap.size + 1, 6, none⟩ = some (.int .i64 0) := bkeep b6 r6; have hh6 : w6.frozen? ⟨w.heap.size + 1, 6, none⟩ = false := bthaw b6 (a := ⟨w.heap.size + 1, 6, none⟩) (v := .int .i64 0) r6 s6; have zz7 : w6.cell? ⟨w.heap.size + 1, 7, none⟩ = some (.int .i64 0) := bkeep b6 r7; have hh7 : w6.frozen? ⟨w.heap.size + 1, 7, none⟩ = false := bthaw b6 (a := ⟨w.heap.size + 1, 7, none⟩) (v := .int .i64 0) r7 s7; have zz8 : w6.cell? ⟨w.heap.size + 1, 8, none⟩ = some (.string ⟨#[]⟩) := bkeep b6 r8; have hh8 : w6.frozen? ⟨w.heap.size + 1, 8, none⟩ = false := bthaw b6 (a := ⟨w.heap.size + 1, 8, none⟩) (v := .string ⟨#[]⟩) r8 s8; have zz9 : w6.cell? ⟨w.heap.size + 1, 9, none⟩ = some (.string ⟨#[]⟩) := bkeep b6 r9; have hh9 : w6.frozen? ⟨w.heap.size + 1, 9, none⟩ = false := bthaw b6 (a := ⟨w.heap.size + 1, 9, none⟩) (v := .string ⟨#[]⟩) r9 s9; have zz10 : w6.cell? ⟨w.heap.size + 1, 10, none⟩ = some (.bool false) := bkeep b6 r10; have hh10 : w6.frozen? ⟨w.heap.size + 1, 10, none⟩ = false := bthaw b6 (a := ⟨w.heap.size + 1, 10, none⟩) (v := .bool false) r10 s10))
          have o6b : OwnS sgG 7 27 w6 (w.heap.size + 2) v6 (puL po wa un t true) := o6.lower hs5
          have F6 : Hid (OwnS sgG 7 27 (((((((((((w6.setCell ⟨w.heap.size + 1, 0, none⟩ (.string mc)).setCell ⟨w.heap.size + 1, 1, none⟩ (.int .i64 ip)).setCell ⟨w.heap.size + 1, 2, none⟩ (.int .i64 po)).setCell ⟨w.heap.size + 1, 3, none⟩ (.int .i64 di)).setCell ⟨w.heap.size + 1, 4, none⟩ (.int .i64 3)).setCell ⟨w.heap.size + 1, 5, none⟩ (.int .i64 un)).setCell ⟨w.heap.size + 1, 6, none⟩ (.int .i64 NX)).setCell ⟨w.heap.size + 1, 7, none⟩ (.int .i64 wa)).setCell ⟨w.heap.size + 1, 8, none⟩ (.string inn)).setCell ⟨w.heap.size + 1, 9, none⟩ (.string t)).setCell ⟨w.heap.size + 1, 10, none⟩ (.bool true)) w.heap.size v6 (puL po wa un t true) ∧ Below w.heap.size w (((((((((((w6.setCell ⟨w.heap.size + 1, 0, none⟩ (.string mc)).setCell ⟨w.heap.size + 1, 1, none⟩ (.int .i64 ip)).setCell ⟨w.heap.size + 1, 2, none⟩ (.int .i64 po)).setCell ⟨w.heap.size + 1, 3, none⟩ (.int .i64 di)).setCell ⟨w.heap.size + 1, 4, none⟩ (.int .i64 3)).setCell ⟨w.heap.size + 1, 5, none⟩ (.int .i64 un)).setCell ⟨w.heap.size + 1, 6, none⟩ (.int .i64 NX)).setCell ⟨w.heap.size + 1, 7, none⟩ (.int .i64 wa)).setCell ⟨w.heap.size + 1, 8, none⟩ (.string inn)).setCell ⟨w.heap.size + 1, 9, none⟩ (.string t)).setCell ⟨w.heap.size + 1, 10, none⟩ (.bool true))) := by
            have hc : ((((((((((((w6.setCell ⟨w.heap.size + 1, 0, none⟩ (.string mc)).setCell ⟨w.heap.size + 1, 1, none⟩ (.int .i64 ip)).setCell ⟨w.heap.size + 1, 2, none⟩ (.int .i64 po)).setCell ⟨w.heap.size + 1, 3, none⟩ (.int .i64 di)).setCell ⟨w.heap.size + 1, 4, none⟩ (.int .i64 3)).setCell ⟨w.heap.size + 1, 5, none⟩ (.int .i64 un)).setCell ⟨w.heap.size + 1, 6, none⟩ (.int .i64 NX)).setCell ⟨w.heap.size + 1, 7, none⟩ (.int .i64 wa)).setCell ⟨w.heap.size + 1, 8, none⟩ (.string inn)).setCell ⟨w.heap.size + 1, 9, none⟩ (.string t)).setCell ⟨w.heap.size + 1, 10, none⟩ (.bool true)).cell? ⟨w.heap.size, 0, none⟩ = some (.string mc) ∧ (((((((((((w6.setCell ⟨w.heap.size + 1, 0, none⟩ (.string mc)).setCell ⟨w.heap.size + 1, 1, none⟩ (.int .i64 ip)).setCell ⟨w.heap.size + 1, 2, none⟩ (.int .i64 po)).setCell ⟨w.heap.size + 1, 3, none⟩ (.int .i64 di)).setCell ⟨w.heap.size + 1, 4, none⟩ (.int .i64 3)).setCell ⟨w.heap.size + 1, 5, none⟩ (.int .i64 un)).setCell ⟨w.heap.size + 1, 6, none⟩ (.int .i64 NX)).setCell ⟨w.heap.size + 1, 7, none⟩ (.int .i64 wa)).setCell ⟨w.heap.size + 1, 8, none⟩ (.string inn)).setCell ⟨w.heap.size + 1, 9, none⟩ (.string t)).setCell ⟨w.heap.size + 1, 10, none⟩ (.bool true)).cell? ⟨w.heap.size, 1, none⟩ = some (.int .i64 ip) ∧ (((((((((((w6.setCell ⟨w.heap.size + 1, 0, none⟩ (.string mc)).setCell ⟨w.heap.size + 1, 1, none⟩ (.int .i64 ip)).setCell ⟨w.heap.size + 1, 2, none⟩ (.int .i64 po)).setCell ⟨w.heap.size + 1, 3, none⟩ (.int .i64 di)).setCell ⟨w.heap.size + 1, 4, none⟩ (.int .i64 3)).setCell ⟨w.heap.size + 1, 5, none⟩ (.int .i64 un)).setCell ⟨w.heap.size + 1, 6, none⟩ (.int .i64 NX)).setCell ⟨w.heap.size + 1, 7, none⟩ (.int .i64 wa)).setCell ⟨w.heap.size + 1, 8, none⟩ (.string inn)).setCell ⟨w.heap.size + 1, 9, none⟩ (.string t)).setCell ⟨w.heap.size + 1, 10, none⟩ (.bool true)).cell? ⟨w.heap.size, 2, none⟩ = some (.int .i64 po) ∧ (((((((((((w6.setCell ⟨w.heap.size + 1, 0, none⟩ (.string mc)).setCell ⟨w.heap.size + 1, 1, none⟩ (.int .i64 ip)).setCell ⟨w.heap.size + 1, 2, none⟩ (.int .i64 po)).setCell ⟨w.heap.size + 1, 3, none⟩ (.int .i64 di)).setCell ⟨w.heap.size + 1, 4, none⟩ (.int .i64 3)).setCell ⟨w.heap.size + 1, 5, none⟩ (.int .i64 un)).setCell ⟨w.heap.size + 1, 6, none⟩ (.int .i64 NX)).setCell ⟨w.heap.size + 1, 7, none⟩ (.int .i64 wa)).setCell ⟨w.heap.size + 1, 8, none⟩ (.string inn)).setCell ⟨w.heap.size + 1, 9, none⟩ (.string t)).setCell ⟨w.heap.size + 1, 10, none⟩ (.bool true)).cell? ⟨w.heap.size, 3, none⟩ = some (.int .i64 di) ∧ (((((((((((w6.setCell ⟨w.heap.size + 1, 0, none⟩ (.string mc)).setCell ⟨w.heap.size + 1, 1, none⟩ (.int .i64 ip)).setCell ⟨w.heap.size + 1, 2, none⟩ (.int .i64 po)).setCell ⟨w.heap.size + 1, 3, none⟩ (.int .i64 di)).setCell ⟨w.heap.size + 1, 4, none⟩ (.int .i64 3)).setCell ⟨w.heap.size + 1, 5, none⟩ (.int .i64 un)).setCell ⟨w.heap.size + 1, 6, none⟩ (.int .i64 NX)).setCell ⟨w.heap.size + 1, 7, none⟩ (.int .i64 wa)).setCell ⟨w.heap.size + 1, 8, none⟩ (.string inn)).setCell ⟨w.heap.size + 1, 9, none⟩ (.string t)).setCell ⟨w.heap.size + 1, 10, none⟩ (.bool true)).cell? ⟨w.heap.size, 4, none⟩ = some (.int .i64 3) ∧ (((((((((((w6.setCell ⟨w.heap.size + 1, 0, none⟩ (.string mc)).setCell ⟨w.heap.size + 1, 1, none⟩ (.int .i64 ip)).setCell ⟨w.heap.size + 1, 2, none⟩ (.int .i64 po)).setCell ⟨w.heap.size + 1, 3, none⟩ (.int .i64 di)).setCell ⟨w.heap.size + 1, 4, none⟩ (.int .i64 3)).setCell ⟨w.heap.size + 1, 5, none⟩ (.int .i64 un)).setCell ⟨w.heap.size + 1, 6, none⟩ (.int .i64 NX)).setCell ⟨w.heap.size + 1, 7, none⟩ (.int .i64 wa)).setCell ⟨w.heap.size + 1, 8, none⟩ (.string inn)).setCell ⟨w.heap.size + 1, 9, none⟩ (.string t)).setCell ⟨w.heap.size + 1, 10, none⟩ (.bool true)).cell? ⟨w.heap.size, 5, none⟩ = some (.int .i64 un) ∧ (((((((((((w6.setCell ⟨w.heap.size + 1, 0, none⟩ (.string mc)).setCell ⟨w.heap.size + 1, 1, none⟩ (.int .i64 ip)).setCell ⟨w.heap.size + 1, 2, none⟩ (.int .i64 po)).setCell ⟨w.heap.size + 1, 3, none⟩ (.int .i64 di)).setCell ⟨w.heap.size + 1, 4, none⟩ (.int .i64 3)).setCell ⟨w.heap.size + 1, 5, none⟩ (.int .i64 un)).setCell ⟨w.heap.size + 1, 6, none⟩ (.int .i64 NX)).setCell ⟨w.heap.size + 1, 7, none⟩ (.int .i64 wa)).setCell ⟨w.heap.size + 1, 8, none⟩ (.string inn)).setCell ⟨w.heap.size + 1, 9, none⟩ (.string t)).setCell ⟨w.heap.size + 1, 10, none⟩ (.bool true)).cell? ⟨w.heap.size, 6, none⟩ = some (.int .i64 NX) ∧ (((((((((((w6.setCell ⟨w.heap.size + 1, 0, none⟩ (.string mc)).setCell ⟨w.heap.size + 1, 1, none⟩ (.int .i64 ip)).setCell ⟨w.heap.size + 1, 2, none⟩ (.int .i64 po)).setCell ⟨w.heap.size + 1, 3, none⟩ (.int .i64 di)).setCell ⟨w.heap.size + 1, 4, none⟩ (.int .i64 3)).setCell ⟨w.heap.size + 1, 5, none⟩ (.int .i64 un)).setCell ⟨w.heap.size + 1, 6, none⟩ (.int .i64 NX)).setCell ⟨w.heap.size + 1, 7, none⟩ (.int .i64 wa)).setCell ⟨w.heap.size + 1, 8, none⟩ (.string inn)).setCell ⟨w.heap.size + 1, 9, none⟩ (.string t)).setCell ⟨w.heap.size + 1, 10, none⟩ (.bool true)).cell? ⟨w.heap.size, 7, none⟩ = some (.int .i64 wa) ∧ (((((((((((w6.setCell ⟨w.heap.size + 1, 0, none⟩ (.string mc)).setCell ⟨w.heap.size + 1, 1, none⟩ (.int .i64 ip)).setCell ⟨w.heap.size + 1, 2, none⟩ (.int .i64 po)).setCell ⟨w.heap.size + 1, 3, none⟩ (.int .i64 di)).setCell ⟨w.heap.size + 1, 4, none⟩ (.int .i64 3)).setCell ⟨w.heap.size + 1, 5, none⟩ (.int .i64 un)).setCell ⟨w.heap.size + 1, 6, none⟩ (.int .i64 NX)).setCell ⟨w.heap.size + 1, 7, none⟩ (.int .i64 wa)).setCell ⟨w.heap.size + 1, 8, none⟩ (.string inn)).setCell ⟨w.heap.size + 1, 9, none⟩ (.string t)).setCell ⟨w.heap.size + 1, 10, none⟩ (.bool true)).cell? ⟨w.heap.size, 8, none⟩ = some (.string inn) ∧ (((((((((((w6.setCell ⟨w.heap.size + 1, 0, none⟩ (.string mc)).setCell ⟨w.heap.size + 1, 1, none⟩ (.int .i64 ip)).setCell ⟨w.heap.size + 1, 2, none⟩ (.int .i64 po)).setCell ⟨w.heap.size + 1, 3, none⟩ (.int .i64 di)).setCell ⟨w.heap.size + 1, 4, none⟩ (.int .i64 3)).setCell ⟨w.heap.size + 1, 5, none⟩ (.int .i64 un)).setCell ⟨w.heap.size + 1, 6, none⟩ (.int .i64 NX)).setCell ⟨w.heap.size + 1, 7, none⟩ (.int .i64 wa)).setCell ⟨w.heap.size + 1, 8, none⟩ (.string inn)).setCell ⟨w.heap.size + 1, 9, none⟩ (.string t)).setCell ⟨w.heap.size + 1, 10, none⟩ (.bool true)).cell? ⟨w.heap.size, 9, none⟩ = some (.string t) ∧ (((((((((((w6.setCell ⟨w.heap.size + 1, 0, none⟩ (.string mc)).setCell ⟨w.heap.size + 1, 1, none⟩ (.int .i64 ip)).setCell ⟨w.heap.size + 1, 2, none⟩ (.int .i64 po)).setCell ⟨w.heap.size + 1, 3, none⟩ (.int .i64 di)).setCell ⟨w.heap.size + 1, 4, none⟩ (.int .i64 3)).setCell ⟨w.heap.size + 1, 5, none⟩ (.int .i64 un)).setCell ⟨w.heap.size + 1, 6, none⟩ (.int .i64 NX)).setCell ⟨w.heap.size + 1, 7, none⟩ (.int .i64 wa)).setCell ⟨w.heap.size + 1, 8, none⟩ (.string inn)).setCell ⟨w.heap.size + 1, 9, none⟩ (.string t)).setCell ⟨w.heap.size + 1, 10, none⟩ (.bool true)).cell? ⟨w.heap.size, 10, none⟩ = some (.bool true) ∧ KpC w (((((((((((w6.setCell ⟨w.heap.size + 1, 0, none⟩ (.string mc)).setCell ⟨w.heap.size + 1, 1, none⟩ (.int .i64 ip)).setCell ⟨w.heap.size + 1, 2, none⟩ (.int .i64 po)).setCell ⟨w.heap.size + 1, 3, none⟩ (.int .i64 di)).setCell ⟨w.heap.size + 1, 4, none⟩ (.int .i64 3)).setCell ⟨w.heap.size + 1, 5, none⟩ (.int .i64 un)).setCell ⟨w.heap.size + 1, 6, none⟩ (.int .i64 NX)).setCell ⟨w.heap.size + 1, 7, none⟩ (.int .i64 wa)).setCell ⟨w.heap.size + 1, 8, none⟩ (.string inn)).setCell ⟨w.heap.size + 1, 9, none⟩ (.string t)).setCell ⟨w.heap.size + 1, 10, none⟩ (.bool true))) := by (with_reducible assumption)
            exact ⟨((((((((((((o6b.far ⟨w.heap.size + 1, 0, none⟩ (.string mc) (by simp)).far ⟨w.heap.size + 1, 1, none⟩ (.int .i64 ip) (by simp)).far ⟨w.heap.size + 1, 2, none⟩ (.int .i64 po) (by simp)).far ⟨w.heap.size + 1, 3, none⟩ (.int .i64 di) (by simp)).far ⟨w.heap.size + 1, 4, none⟩ (.int .i64 3) (by simp)).far ⟨w.heap.size + 1, 5, none⟩ (.int .i64 un) (by simp)).far ⟨w.heap.size + 1, 6, none⟩ (.int .i64 NX) (by simp)).far ⟨w.heap.size + 1, 7, none⟩ (.int .i64 wa) (by simp)).far ⟨w.heap.size + 1, 8, none⟩ (.string inn) (by simp)).far ⟨w.heap.size + 1, 9, none⟩ (.string t) (by simp)).far ⟨w.heap.size + 1, 10, none⟩ (.bool true) (by simp))).lower (by omega), hc.2.2.2.2.2.2.2.2.2.2.2.out⟩
          go_wp2
          (try simp only [Exit.inBlock, Exit.then])
          refine bodyPost_ret (v := .tuple #[.agg #[.string mc, .int .i64 ip, .int .i64 po, .int .i64 di, .int .i64 3, .int .i64 un, .int .i64 NX, .int .i64 wa, .string inn, .string t, .bool true], v6, .int .i64 0]) (by simp [results, Try.results23, go_sem, zz0, zz1, zz2, zz3, zz4, zz5, zz6, zz7, zz8, zz9, zz10]; try rfl) rfl ?_
          exact ⟨_, rfl, F6.out.1, F6.out.2⟩
        exact AllReadyH.nil
      exact AllReadyH.nil
    exact AllReadyH.nil
  exact AllReadyH.nil
end Go.Proofs.Ytmfpoecjiikblaa
