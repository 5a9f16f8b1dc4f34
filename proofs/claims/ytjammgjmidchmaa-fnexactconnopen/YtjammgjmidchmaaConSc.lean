/- ConnSay of the program. -/
import Derived.Test.YtjammgjmidchmaaConSb
namespace Go.Proofs.Ytjammgjmidchmaa
open Go.RowKit Go.PlainAid Go.Proofs.Ytjammgjmidchmaa.Bt Go.Sort
set_option linter.unusedVariables false
set_option maxRecDepth 20000

theorem CnS.far {q : Nat} {mc : ByteArray} {ip po di st un nx wa : Int} {inn out : ByteArray} {fin : Bool} {W wx : World} (h : CnS q mc ip po di st un nx wa inn out fin W wx) (a : Addr) (u : Value) (hne : a.block ≠ q) (hw : W.heap.size ≤ a.block) : CnS q mc ip po di st un nx wa inn out fin W (wx.setCell a u) :=
  h.row (grown_set wx a u) ((Below.refl _ _).setCell hw u) (fun e => hne (Option.some.inj e).symm)
set_option maxHeartbeats 4000000 in
theorem implSy_long (mc : ByteArray) (ip po di st un nx wa : Int) (inn out : ByteArray) (fin : Bool) (t : ByteArray) (w : World) (h : 65536 < t.size) :
    Calls Try.prog 21 #[.agg #[.string mc, .int .i64 ip, .int .i64 po, .int .i64 di, .int .i64 st, .int .i64 un, .int .i64 nx, .int .i64 wa, .string inn, .string out, .bool fin], .string t] w fun e w' => ∃ v, e = .returned (.tuple #[cvA cnZ, v, .int .i64 2]) ∧ OwnS sgG 7 27 w' w.heap.size v [] ∧ Below w.heap.size w w' := by
  have t1 : decide ((65536 : Int) < (t.size : Int)) = true := decide_eq_true (by omega)
  clear h
  go_enter Try.func21, Try.ntmps21
  go_wp2
  (try simp only [Exit.inBlock, Exit.then])
  refine bodyPost_ret (v := .tuple #[cvA cnZ, .slice none 0 0, .int .i64 2]) (by simp [results, Try.results21, go_sem, cvA, cnZ]; try rfl) rfl ?_
  exact ⟨_, rfl, OwnS.nil _ _, (((Below.refl _ _).alloc (Nat.le_refl _) _).alloc (by simp) _)⟩
set_option maxHeartbeats 4000000 in
theorem implSy_no (mc : ByteArray) (ip po di st un nx wa : Int) (inn out : ByteArray) (fin : Bool) (t : ByteArray) (w : World) (hl : ¬ 65536 < t.size) (hp : po ≤ 9223372036854775807) (hmc : mc.size ≤ 1048576) (hi : inn.size ≤ 1048576) (ho : out.size ≤ 1048576) (hno : syC ⟨mc, ip, po, di, st, un, nx, wa, inn, out, fin⟩ t ≠ 0) :
    Calls Try.prog 21 #[.agg #[.string mc, .int .i64 ip, .int .i64 po, .int .i64 di, .int .i64 st, .int .i64 un, .int .i64 nx, .int .i64 wa, .string inn, .string out, .bool fin], .string t] w fun e w' => ∃ v, e = .returned (.tuple #[cvA (syV ⟨mc, ip, po, di, st, un, nx, wa, inn, out, fin⟩ t), v, .int .i64 (syC ⟨mc, ip, po, di, st, un, nx, wa, inn, out, fin⟩ t)]) ∧ OwnS sgG 7 27 w' w.heap.size v (syL ⟨mc, ip, po, di, st, un, nx, wa, inn, out, fin⟩ t) ∧ Below w.heap.size w w' := by
  have TK : Hid (∀ w, Calls Try.prog 12 #[.agg #[.string mc, .int .i64 ip, .int .i64 po, .int .i64 di, .int .i64 st, .int .i64 un, .int .i64 nx, .int .i64 wa, .string inn, .string out, .bool fin]] w fun e w' => e = .returned (.bool (okB ⟨mc, ip, po, di, st, un, nx, wa, inn, out, fin⟩)) ∧ Grw w w') := fun w => implConOK_any mc ip po di st un nx wa inn out fin w hp hmc hi ho
  have t1 : decide ((65536 : Int) < (t.size : Int)) = false := decide_eq_false (by omega)
  have BW : Hid (Below w.heap.size w ((w.alloc (.cells #[.string mc, .int .i64 ip, .int .i64 po, .int .i64 di, .int .i64 st, .int .i64 un, .int .i64 nx, .int .i64 wa, .string inn, .string out, .bool fin] 24)).alloc (.cells #[.string ⟨#[]⟩, .int .i64 0, .int .i64 0, .int .i64 0, .int .i64 0, .int .i64 0, .int .i64 0, .int .i64 0, .string ⟨#[]⟩, .string ⟨#[]⟩, .bool false] 24))) := (((Below.refl _ _).alloc (Nat.le_refl _) _).alloc (by simp) _)
  cases hok : okB ⟨mc, ip, po, di, st, un, nx, wa, inn, out, fin⟩ with
  | false =>
    obtain ⟨e1, e2, e3⟩ := sy_bad hl hok
    rw [e1, e2, e3]
    rw [hok] at TK
    clear e1 e2 e3 hok hl hno
    go_enter Try.func21, Try.ntmps21
    go_wp2_with fail
    refine (TK.out _).mono ?_
    rintro e w1 ⟨rfl, g1⟩
    have b1 := g1.below
    have q0 : w1.cell? ⟨w.heap.size, 0, none⟩ = some (.string mc) := bkeep b1 (by simp [go_sem])
    have p0 : w1.frozen? ⟨w.heap.size, 0, none⟩ = false := bthaw b1 (a := ⟨w.heap.size, 0, none⟩) (v := .string mc) (by simp [go_sem]) (by simp [go_sem])
    have q1 : w1.cell? ⟨w.heap.size, 1, none⟩ = some (.int .i64 ip) := bkeep b1 (by simp [go_sem])
    have p1 : w1.frozen? ⟨w.heap.size, 1, none⟩ = false := bthaw b1 (a := ⟨w.heap.size, 1, none⟩) (v := .int .i64 ip) (by simp [go_sem]) (by simp [go_sem])
    have q2 : w1.cell? ⟨w.heap.size, 2, none⟩ = some (.int .i64 po) := bkeep b1 (by simp [go_sem])
    have p2 : w1.frozen? ⟨w.heap.size, 2, none⟩ = false := bthaw b1 (a := ⟨w.heap.size, 2, none⟩) (v := .int .i64 po) (by simp [go_sem]) (by simp [go_sem])
    have q3 : w1.cell? ⟨w.heap.size, 3, none⟩ = some (.int .i64 di) := bkeep b1 (by simp [go_sem])
    have p3 : w1.frozen? ⟨w.heap.size, 3, none⟩ = false := bthaw b1 (a := ⟨w.heap.size, 3, none⟩) (v := .int .i64 di) (by simp [go_sem]) (by simp [go_sem])
    have q4 : w1.cell? ⟨w.heap.size, 4, none⟩ = some (.int .i64 st) := bkeep b1 (by simp [go_sem])
    have p4 : w1.frozen? ⟨w.heap.size, 4, none⟩ = false := bthaw b1 (a := ⟨w.heap.size, 4, none⟩) (v := .int .i64 st) (by simp [go_sem]) (by simp [go_sem])
    have q5 : w1.cell? ⟨w.heap.size, 5, none⟩ = some (.int .i64 un) := bkeep b1 (by simp [go_sem])
    have p5 : w1.frozen? ⟨w.heap.size, 5, none⟩ = false := bthaw b1 (a := ⟨w.heap.size, 5, none⟩) (v := .int .i64 un) (by simp [go_sem]) (by simp [go_sem])
    have q6 : w1.cell? ⟨w.heap.size, 6, none⟩ = some (.int .i64 nx) := bkeep b1 (by simp [go_sem])
    have p6 : w1.frozen? ⟨w.heap.size, 6, none⟩ = false := bthaw b1 (a := ⟨w.heap.size, 6, none⟩) (v := .int .i64 nx) (by simp [go_sem]) (by simp [go_sem])
    have q7 : w1.cell? ⟨w.heap.size, 7, none⟩ = some (.int .i64 wa) := bkeep b1 (by simp [go_sem])
    have p7 : w1.frozen? ⟨w.heap.size, 7, none⟩ = false := bthaw b1 (a := ⟨w.heap.size, 7, none⟩) (v := .int .i64 wa) (by simp [go_sem]) (by simp [go_sem])
    have q8 : w1.cell? ⟨w.heap.size, 8, none⟩ = some (.string inn) := bkeep b1 (by simp [go_sem])
    have p8 : w1.frozen? ⟨w.heap.size, 8, none⟩ = false := bthaw b1 (a := ⟨w.heap.size, 8, none⟩) (v := .string inn) (by simp [go_sem]) (by simp [go_sem])
    have q9 : w1.cell? ⟨w.heap.size, 9, none⟩ = some (.string out) := bkeep b1 (by simp [go_sem])
    have p9 : w1.frozen? ⟨w.heap.size, 9, none⟩ = false := bthaw b1 (a := ⟨w.heap.size, 9, none⟩) (v := .string out) (by simp [go_sem]) (by simp [go_sem])
    have q10 : w1.cell? ⟨w.heap.size, 10, none⟩ = some (.bool fin) := bkeep b1 (by simp [go_sem])
    have p10 : w1.frozen? ⟨w.heap.size, 10, none⟩ = false := bthaw b1 (a := ⟨w.heap.size, 10, none⟩) (v := .bool fin) (by simp [go_sem]) (by simp [go_sem])
    have z0 : w1.cell? ⟨w.heap.size + 1, 0, none⟩ = some (.string ⟨#[]⟩) := bkeep b1 (by simp [go_sem])
    have f0 : w1.frozen? ⟨w.heap.size + 1, 0, none⟩ = false := bthaw b1 (a := ⟨w.heap.size + 1, 0, none⟩) (v := .string ⟨#[]⟩) (by simp [go_sem]) (by simp [go_sem])
    have z1 : w1.cell? ⟨w.heap.size + 1, 1, none⟩ = some (.int .i64 0) := bkeep b1 (by simp [go_sem])
    have f1 : w1.frozen? ⟨w.heap.size + 1, 1, none⟩ = false := bthaw b1 (a := ⟨w.heap.size + 1, 1, none⟩) (v := .int .i64 0) (by simp [go_sem]) (by simp [go_sem])
    have z2 : w1.cell? ⟨w.heap.size + 1, 2, none⟩ = some (.int .i64 0) := bkeep b1 (by simp [go_sem])
    have f2 : w1.frozen? ⟨w.heap.size + 1, 2, none⟩ = false := bthaw b1 (a := ⟨w.heap.size + 1, 2, none⟩) (v := .int .i64 0) (by simp [go_sem]) (by simp [go_sem])
    have z3 : w1.cell? ⟨w.heap.size + 1, 3, none⟩ = some (.int .i64 0) := bkeep b1 (by simp [go_sem])
    have f3 : w1.frozen? ⟨w.heap.size + 1, 3, none⟩ = false := bthaw b1 (a := ⟨w.heap.size + 1, 3, none⟩) (v := .int .i64 0) (by simp [go_sem]) (by simp [go_sem])
    have z4 : w1.cell? ⟨w.heap.size + 1, 4, none⟩ = some (.int .i64 0) := bkeep b1 (by simp [go_sem])
    have f4 : w1.frozen? ⟨w.heap.size + 1, 4, none⟩ = false := bthaw b1 (a := ⟨w.heap.size + 1, 4, none⟩) (v := .int .i64 0) (by simp [go_sem]) (by simp [go_sem])
    have z5 : w1.cell? ⟨w.heap.size + 1, 5, none⟩ = some (.int .i64 0) := bkeep b1 (by simp [go_sem])
    have f5 : w1.frozen? ⟨w.heap.size + 1, 5, none⟩ = false := bthaw b1 (a := ⟨w.heap.size + 1, 5, none⟩) (v := .int .i64 0) (by simp [go_sem]) (by simp [go_sem])
    have z6 : w1.cell? ⟨w.heap.size + 1, 6, none⟩ = some (.int .i64 0) := bkeep b1 (by simp [go_sem])
    have f6 : w1.frozen? ⟨w.heap.size + 1, 6, none⟩ = false := bthaw b1 (a := ⟨w.heap.size + 1, 6, none⟩) (v := .int .i64 0) (by simp [go_sem]) (by simp [go_sem])
    have z7 : w1.cell? ⟨w.heap.size + 1, 7, none⟩ = some (.int .i64 0) := bkeep b1 (by simp [go_sem])
    have f7 : w1.frozen? ⟨w.heap.size + 1, 7, none⟩ = false := bthaw b1 (a := ⟨w.heap.size + 1, 7, none⟩) (v := .int .i64 0) (by simp [go_sem]) (by simp [go_sem])
    have z8 : w1.cell? ⟨w.heap.size + 1, 8, none⟩ = some (.string ⟨#[]⟩) := bkeep b1 (by simp [go_sem])
    have f8 : w1.frozen? ⟨w.heap.size + 1, 8, none⟩ = false := bthaw b1 (a := ⟨w.heap.size + 1, 8, none⟩) (v := .string ⟨#[]⟩) (by simp [go_sem]) (by simp [go_sem])
    have z9 : w1.cell? ⟨w.heap.size + 1, 9, none⟩ = some (.string ⟨#[]⟩) := bkeep b1 (by simp [go_sem])
    have f9 : w1.frozen? ⟨w.heap.size + 1, 9, none⟩ = false := bthaw b1 (a := ⟨w.heap.size + 1, 9, none⟩) (v := .string ⟨#[]⟩) (by simp [go_sem]) (by simp [go_sem])
    have z10 : w1.cell? ⟨w.heap.size + 1, 10, none⟩ = some (.bool false) := bkeep b1 (by simp [go_sem])
    have f10 : w1.frozen? ⟨w.heap.size + 1, 10, none⟩ = false := bthaw b1 (a := ⟨w.heap.size + 1, 10, none⟩) (v := .bool false) (by simp [go_sem]) (by simp [go_sem])
    have B1 : Hid (Below w.heap.size w w1) := BW.out.trans (b1.mono (by simp; omega))
    clear b1 g1 BW TK q0 p0 q1 p1 q2 p2 q3 p3 q4 p4 q5 p5 q6 p6 q7 p7 q8 p8 q9 p9 q10 p10
    go_wp2
    (try simp only [Exit.inBlock, Exit.then])
    refine bodyPost_ret (v := .tuple #[cvA cnZ, .slice none 0 0, .int .i64 1]) (by simp [results, Try.results21, go_sem, cvA, cnZ, z0, z1, z2, z3, z4, z5, z6, z7, z8, z9, z10]; try rfl) rfl ?_
    exact ⟨_, rfl, OwnS.nil _ _, ((((((((((B1.out.setCell (p := ⟨w.heap.size + 1, 0, none⟩) (Nat.le_succ _) _).setCell (Nat.le_succ _) _).setCell (Nat.le_succ _) _).setCell (Nat.le_succ _) _).setCell (Nat.le_succ _) _).setCell (Nat.le_succ _) _).setCell (Nat.le_succ _) _).setCell (Nat.le_succ _) _).setCell (Nat.le_succ _) _).setCell (Nat.le_succ _) _).setCell (Nat.le_succ _) _⟩
  | true =>
    by_cases hst : st = 2
    rotate_left
    · obtain ⟨e1, e2, e3⟩ := sy_state (c := ⟨mc, ip, po, di, st, un, nx, wa, inn, out, fin⟩) hl hok hst
      rw [e1, e2, e3]
      rw [hok] at TK
      have t2 : (st != 2) = true := by simp [hst]
      clear e1 e2 e3 hok hl hst hno
      go_enter Try.func21, Try.ntmps21
      go_wp2_with fail
      refine (TK.out _).mono ?_
      rintro e w1 ⟨rfl, g1⟩
      have b1 := g1.below
      have q0 : w1.cell? ⟨w.heap.size, 0, none⟩ = some (.string mc) := bkeep b1 (by simp [go_sem])
      have p0 : w1.frozen? ⟨w.heap.size, 0, none⟩ = false := bthaw b1 (a := ⟨w.heap.size, 0, none⟩) (v := .string mc) (by simp [go_sem]) (by simp [go_sem])
      have q1 : w1.cell? ⟨w.heap.size, 1, none⟩ = some (.int .i64 ip) := bkeep b1 (by simp [go_sem])
      have p1 : w1.frozen? ⟨w.heap.size, 1, none⟩ = false := bthaw b1 (a := ⟨w.heap.size, 1, none⟩) (v := .int .i64 ip) (by simp [go_sem]) (by simp [go_sem])
      have q2 : w1.cell? ⟨w.heap.size, 2, none⟩ = some (.int .i64 po) := bkeep b1 (by simp [go_sem])
      have p2 : w1.frozen? ⟨w.heap.size, 2, none⟩ = false := bthaw b1 (a := ⟨w.heap.size, 2, none⟩) (v := .int .i64 po) (by simp [go_sem]) (by simp [go_sem])
      have q3 : w1.cell? ⟨w.heap.size, 3, none⟩ = some (.int .i64 di) := bkeep b1 (by simp [go_sem])
      have p3 : w1.frozen? ⟨w.heap.size, 3, none⟩ = false := bthaw b1 (a := ⟨w.heap.size, 3, none⟩) (v := .int .i64 di) (by simp [go_sem]) (by simp [go_sem])
      have q4 : w1.cell? ⟨w.heap.size, 4, none⟩ = some (.int .i64 st) := bkeep b1 (by simp [go_sem])
      have p4 : w1.frozen? ⟨w.heap.size, 4, none⟩ = false := bthaw b1 (a := ⟨w.heap.size, 4, none⟩) (v := .int .i64 st) (by simp [go_sem]) (by simp [go_sem])
      have q5 : w1.cell? ⟨w.heap.size, 5, none⟩ = some (.int .i64 un) := bkeep b1 (by simp [go_sem])
      have p5 : w1.frozen? ⟨w.heap.size, 5, none⟩ = false := bthaw b1 (a := ⟨w.heap.size, 5, none⟩) (v := .int .i64 un) (by simp [go_sem]) (by simp [go_sem])
      have q6 : w1.cell? ⟨w.heap.size, 6, none⟩ = some (.int .i64 nx) := bkeep b1 (by simp [go_sem])
      have p6 : w1.frozen? ⟨w.heap.size, 6, none⟩ = false := bthaw b1 (a := ⟨w.heap.size, 6, none⟩) (v := .int .i64 nx) (by simp [go_sem]) (by simp [go_sem])
      have q7 : w1.cell? ⟨w.heap.size, 7, none⟩ = some (.int .i64 wa) := bkeep b1 (by simp [go_sem])
      have p7 : w1.frozen? ⟨w.heap.size, 7, none⟩ = false := bthaw b1 (a := ⟨w.heap.size, 7, none⟩) (v := .int .i64 wa) (by simp [go_sem]) (by simp [go_sem])
      have q8 : w1.cell? ⟨w.heap.size, 8, none⟩ = some (.string inn) := bkeep b1 (by simp [go_sem])
      have p8 : w1.frozen? ⟨w.heap.size, 8, none⟩ = false := bthaw b1 (a := ⟨w.heap.size, 8, none⟩) (v := .string inn) (by simp [go_sem]) (by simp [go_sem])
      have q9 : w1.cell? ⟨w.heap.size, 9, none⟩ = some (.string out) := bkeep b1 (by simp [go_sem])
      have p9 : w1.frozen? ⟨w.heap.size, 9, none⟩ = false := bthaw b1 (a := ⟨w.heap.size, 9, none⟩) (v := .string out) (by simp [go_sem]) (by simp [go_sem])
      have q10 : w1.cell? ⟨w.heap.size, 10, none⟩ = some (.bool fin) := bkeep b1 (by simp [go_sem])
      have p10 : w1.frozen? ⟨w.heap.size, 10, none⟩ = false := bthaw b1 (a := ⟨w.heap.size, 10, none⟩) (v := .bool fin) (by simp [go_sem]) (by simp [go_sem])
      have z0 : w1.cell? ⟨w.heap.size + 1, 0, none⟩ = some (.string ⟨#[]⟩) := bkeep b1 (by simp [go_sem])
      have f0 : w1.frozen? ⟨w.heap.size + 1, 0, none⟩ = false := bthaw b1 (a := ⟨w.heap.size + 1, 0, none⟩) (v := .string ⟨#[]⟩) (by simp [go_sem]) (by simp [go_sem])
      have z1 : w1.cell? ⟨w.heap.size + 1, 1, none⟩ = some (.int .i64 0) := bkeep b1 (by simp [go_sem])
      have f1 : w1.frozen? ⟨w.heap.size + 1, 1, none⟩ = false := bthaw b1 (a := ⟨w.heap.size + 1, 1, none⟩) (v := .int .i64 0) (by simp [go_sem]) (by simp [go_sem])
      have z2 : w1.cell? ⟨w.heap.size + 1, 2, none⟩ = some (.int .i64 0) := bkeep b1 (by simp [go_sem])
      have f2 : w1.frozen? ⟨w.heap.size + 1, 2, none⟩ = false := bthaw b1 (a := ⟨w.heap.size + 1, 2, none⟩) (v := .int .i64 0) (by simp [go_sem]) (by simp [go_sem])
      have z3 : w1.cell? ⟨w.heap.size + 1, 3, none⟩ = some (.int .i64 0) := bkeep b1 (by simp [go_sem])
      have f3 : w1.frozen? ⟨w.heap.size + 1, 3, none⟩ = false := bthaw b1 (a := ⟨w.heap.size + 1, 3, none⟩) (v := .int .i64 0) (by simp [go_sem]) (by simp [go_sem])
      have z4 : w1.cell? ⟨w.heap.size + 1, 4, none⟩ = some (.int .i64 0) := bkeep b1 (by simp [go_sem])
      have f4 : w1.frozen? ⟨w.heap.size + 1, 4, none⟩ = false := bthaw b1 (a := ⟨w.heap.size + 1, 4, none⟩) (v := .int .i64 0) (by simp [go_sem]) (by simp [go_sem])
      have z5 : w1.cell? ⟨w.heap.size + 1, 5, none⟩ = some (.int .i64 0) := bkeep b1 (by simp [go_sem])
      have f5 : w1.frozen? ⟨w.heap.size + 1, 5, none⟩ = false := bthaw b1 (a := ⟨w.heap.size + 1, 5, none⟩) (v := .int .i64 0) (by simp [go_sem]) (by simp [go_sem])
      have z6 : w1.cell? ⟨w.heap.size + 1, 6, none⟩ = some (.int .i64 0) := bkeep b1 (by simp [go_sem])
      have f6 : w1.frozen? ⟨w.heap.size + 1, 6, none⟩ = false := bthaw b1 (a := ⟨w.heap.size + 1, 6, none⟩) (v := .int .i64 0) (by simp [go_sem]) (by simp [go_sem])
      have z7 : w1.cell? ⟨w.heap.size + 1, 7, none⟩ = some (.int .i64 0) := bkeep b1 (by simp [go_sem])
      have f7 : w1.frozen? ⟨w.heap.size + 1, 7, none⟩ = false := bthaw b1 (a := ⟨w.heap.size + 1, 7, none⟩) (v := .int .i64 0) (by simp [go_sem]) (by simp [go_sem])
      have z8 : w1.cell? ⟨w.heap.size + 1, 8, none⟩ = some (.string ⟨#[]⟩) := bkeep b1 (by simp [go_sem])
      have f8 : w1.frozen? ⟨w.heap.size + 1, 8, none⟩ = false := bthaw b1 (a := ⟨w.heap.size + 1, 8, none⟩) (v := .string ⟨#[]⟩) (by simp [go_sem]) (by simp [go_sem])
      have z9 : w1.cell? ⟨w.heap.size + 1, 9, none⟩ = some (.string ⟨#[]⟩) := bkeep b1 (by simp [go_sem])
      have f9 : w1.frozen? ⟨w.heap.size + 1, 9, none⟩ = false := bthaw b1 (a := ⟨w.heap.size + 1, 9, none⟩) (v := .string ⟨#[]⟩) (by simp [go_sem]) (by simp [go_sem])
      have z10 : w1.cell? ⟨w.heap.size + 1, 10, none⟩ = some (.bool false) := bkeep b1 (by simp [go_sem])
      have f10 : w1.frozen? ⟨w.heap.size + 1, 10, none⟩ = false := bthaw b1 (a := ⟨w.heap.size + 1, 10, none⟩) (v := .bool false) (by simp [go_sem]) (by simp [go_sem])
      have B1 : Hid (Below w.heap.size w w1) := BW.out.trans (b1.mono (by simp; omega))
      clear b1 g1 BW TK p0 p1 p2 p3 p4 p5 p6 p7 p8 p9 p10
      go_wp2
      (try simp only [Exit.inBlock, Exit.then])
      refine bodyPost_ret (v := .tuple #[cvA ⟨mc, ip, po, di, st, un, nx, wa, inn, out, fin⟩, .slice none 0 0, .int .i64 12]) (by simp [results, Try.results21, go_sem, cvA, z0, z1, z2, z3, z4, z5, z6, z7, z8, z9, z10]; try rfl) rfl ?_
      exact ⟨_, rfl, OwnS.nil _ _, ((((((((((B1.out.setCell (p := ⟨w.heap.size + 1, 0, none⟩) (Nat.le_succ _) _).setCell (Nat.le_succ _) _).setCell (Nat.le_succ _) _).setCell (Nat.le_succ _) _).setCell (Nat.le_succ _) _).setCell (Nat.le_succ _) _).setCell (Nat.le_succ _) _).setCell (Nat.le_succ _) _).setCell (Nat.le_succ _) _).setCell (Nat.le_succ _) _).setCell (Nat.le_succ _) _⟩
    · have t2 : (st != 2) = false := by simp [hst]
      have hf : 300 < out.size + t.size := by
        have h9 := hno
        unfold syC at h9
        rw [if_neg hl, if_pos hok, if_pos hst] at h9
        dsimp only at h9
        by_cases h8 : 300 < out.size + t.size
        · exact h8
        · rw [if_neg h8] at h9; exact absurd rfl h9
      obtain ⟨e1, e2, e3⟩ := sy_full (c := ⟨mc, ip, po, di, st, un, nx, wa, inn, out, fin⟩) hl hok hst hf
      have hz0 : out.size ≤ 300 := (txB_bd (okB_says hok).2).2.2.1
      rw [e1, e2, e3]
      rw [hok] at TK
      have t3 : decide ((300 : Int) - (out.size : Int) < (t.size : Int)) = true := decide_eq_true (by omega)
      clear e1 e2 e3 hok hst hf hno
      go_enter Try.func21, Try.ntmps21
      go_wp2_with fail
      refine (TK.out _).mono ?_
      rintro e w1 ⟨rfl, g1⟩
      have b1 := g1.below
      have q0 : w1.cell? ⟨w.heap.size, 0, none⟩ = some (.string mc) := bkeep b1 (by simp [go_sem])
      have p0 : w1.frozen? ⟨w.heap.size, 0, none⟩ = false := bthaw b1 (a := ⟨w.heap.size, 0, none⟩) (v := .string mc) (by simp [go_sem]) (by simp [go_sem])
      have q1 : w1.cell? ⟨w.heap.size, 1, none⟩ = some (.int .i64 ip) := bkeep b1 (by simp [go_sem])
      have p1 : w1.frozen? ⟨w.heap.size, 1, none⟩ = false := bthaw b1 (a := ⟨w.heap.size, 1, none⟩) (v := .int .i64 ip) (by simp [go_sem]) (by simp [go_sem])
      have q2 : w1.cell? ⟨w.heap.size, 2, none⟩ = some (.int .i64 po) := bkeep b1 (by simp [go_sem])
      have p2 : w1.frozen? ⟨w.heap.size, 2, none⟩ = false := bthaw b1 (a := ⟨w.heap.size, 2, none⟩) (v := .int .i64 po) (by simp [go_sem]) (by simp [go_sem])
      have q3 : w1.cell? ⟨w.heap.size, 3, none⟩ = some (.int .i64 di) := bkeep b1 (by simp [go_sem])
      have p3 : w1.frozen? ⟨w.heap.size, 3, none⟩ = false := bthaw b1 (a := ⟨w.heap.size, 3, none⟩) (v := .int .i64 di) (by simp [go_sem]) (by simp [go_sem])
      have q4 : w1.cell? ⟨w.heap.size, 4, none⟩ = some (.int .i64 st) := bkeep b1 (by simp [go_sem])
      have p4 : w1.frozen? ⟨w.heap.size, 4, none⟩ = false := bthaw b1 (a := ⟨w.heap.size, 4, none⟩) (v := .int .i64 st) (by simp [go_sem]) (by simp [go_sem])
      have q5 : w1.cell? ⟨w.heap.size, 5, none⟩ = some (.int .i64 un) := bkeep b1 (by simp [go_sem])
      have p5 : w1.frozen? ⟨w.heap.size, 5, none⟩ = false := bthaw b1 (a := ⟨w.heap.size, 5, none⟩) (v := .int .i64 un) (by simp [go_sem]) (by simp [go_sem])
      have q6 : w1.cell? ⟨w.heap.size, 6, none⟩ = some (.int .i64 nx) := bkeep b1 (by simp [go_sem])
      have p6 : w1.frozen? ⟨w.heap.size, 6, none⟩ = false := bthaw b1 (a := ⟨w.heap.size, 6, none⟩) (v := .int .i64 nx) (by simp [go_sem]) (by simp [go_sem])
      have q7 : w1.cell? ⟨w.heap.size, 7, none⟩ = some (.int .i64 wa) := bkeep b1 (by simp [go_sem])
      have p7 : w1.frozen? ⟨w.heap.size, 7, none⟩ = false := bthaw b1 (a := ⟨w.heap.size, 7, none⟩) (v := .int .i64 wa) (by simp [go_sem]) (by simp [go_sem])
      have q8 : w1.cell? ⟨w.heap.size, 8, none⟩ = some (.string inn) := bkeep b1 (by simp [go_sem])
      have p8 : w1.frozen? ⟨w.heap.size, 8, none⟩ = false := bthaw b1 (a := ⟨w.heap.size, 8, none⟩) (v := .string inn) (by simp [go_sem]) (by simp [go_sem])
      have q9 : w1.cell? ⟨w.heap.size, 9, none⟩ = some (.string out) := bkeep b1 (by simp [go_sem])
      have p9 : w1.frozen? ⟨w.heap.size, 9, none⟩ = false := bthaw b1 (a := ⟨w.heap.size, 9, none⟩) (v := .string out) (by simp [go_sem]) (by simp [go_sem])
      have q10 : w1.cell? ⟨w.heap.size, 10, none⟩ = some (.bool fin) := bkeep b1 (by simp [go_sem])
      have p10 : w1.frozen? ⟨w.heap.size, 10, none⟩ = false := bthaw b1 (a := ⟨w.heap.size, 10, none⟩) (v := .bool fin) (by simp [go_sem]) (by simp [go_sem])
      have z0 : w1.cell? ⟨w.heap.size + 1, 0, none⟩ = some (.string ⟨#[]⟩) := bkeep b1 (by simp [go_sem])
      have f0 : w1.frozen? ⟨w.heap.size + 1, 0, none⟩ = false := bthaw b1 (a := ⟨w.heap.size + 1, 0, none⟩) (v := .string ⟨#[]⟩) (by simp [go_sem]) (by simp [go_sem])
      have z1 : w1.cell? ⟨w.heap.size + 1, 1, none⟩ = some (.int .i64 0) := bkeep b1 (by simp [go_sem])
      have f1 : w1.frozen? ⟨w.heap.size + 1, 1, none⟩ = false := bthaw b1 (a := ⟨w.heap.size + 1, 1, none⟩) (v := .int .i64 0) (by simp [go_sem]) (by simp [go_sem])
      have z2 : w1.cell? ⟨w.heap.size + 1, 2, none⟩ = some (.int .i64 0) := bkeep b1 (by simp [go_sem])
      have f2 : w1.frozen? ⟨w.heap.size + 1, 2, none⟩ = false := bthaw b1 (a := ⟨w.heap.size + 1, 2, none⟩) (v := .int .i64 0) (by simp [go_sem]) (by simp [go_sem])
      have z3 : w1.cell? ⟨w.heap.size + 1, 3, none⟩ = some (.int .i64 0) := bkeep b1 (by simp [go_sem])
      have f3 : w1.frozen? ⟨w.heap.size + 1, 3, none⟩ = false := bthaw b1 (a := ⟨w.heap.size + 1, 3, none⟩) (v := .int .i64 0) (by simp [go_sem]) (by simp [go_sem])
      have z4 : w1.cell? ⟨w.heap.size + 1, 4, none⟩ = some (.int .i64 0) := bkeep b1 (by simp [go_sem])
      have f4 : w1.frozen? ⟨w.heap.size + 1, 4, none⟩ = false := bthaw b1 (a := ⟨w.heap.size + 1, 4, none⟩) (v := .int .i64 0) (by simp [go_sem]) (by simp [go_sem])
      have z5 : w1.cell? ⟨w.heap.size + 1, 5, none⟩ = some (.int .i64 0) := bkeep b1 (by simp [go_sem])
      have f5 : w1.frozen? ⟨w.heap.size + 1, 5, none⟩ = false := bthaw b1 (a := ⟨w.heap.size + 1, 5, none⟩) (v := .int .i64 0) (by simp [go_sem]) (by simp [go_sem])
      have z6 : w1.cell? ⟨w.heap.size + 1, 6, none⟩ = some (.int .i64 0) := bkeep b1 (by simp [go_sem])
      have f6 : w1.frozen? ⟨w.heap.size + 1, 6, none⟩ = false := bthaw b1 (a := ⟨w.heap.size + 1, 6, none⟩) (v := .int .i64 0) (by simp [go_sem]) (by simp [go_sem])
      have z7 : w1.cell? ⟨w.heap.size + 1, 7, none⟩ = some (.int .i64 0) := bkeep b1 (by simp [go_sem])
      have f7 : w1.frozen? ⟨w.heap.size + 1, 7, none⟩ = false := bthaw b1 (a := ⟨w.heap.size + 1, 7, none⟩) (v := .int .i64 0) (by simp [go_sem]) (by simp [go_sem])
      have z8 : w1.cell? ⟨w.heap.size + 1, 8, none⟩ = some (.string ⟨#[]⟩) := bkeep b1 (by simp [go_sem])
      have f8 : w1.frozen? ⟨w.heap.size + 1, 8, none⟩ = false := bthaw b1 (a := ⟨w.heap.size + 1, 8, none⟩) (v := .string ⟨#[]⟩) (by simp [go_sem]) (by simp [go_sem])
      have z9 : w1.cell? ⟨w.heap.size + 1, 9, none⟩ = some (.string ⟨#[]⟩) := bkeep b1 (by simp [go_sem])
      have f9 : w1.frozen? ⟨w.heap.size + 1, 9, none⟩ = false := bthaw b1 (a := ⟨w.heap.size + 1, 9, none⟩) (v := .string ⟨#[]⟩) (by simp [go_sem]) (by simp [go_sem])
      have z10 : w1.cell? ⟨w.heap.size + 1, 10, none⟩ = some (.bool false) := bkeep b1 (by simp [go_sem])
      have f10 : w1.frozen? ⟨w.heap.size + 1, 10, none⟩ = false := bthaw b1 (a := ⟨w.heap.size + 1, 10, none⟩) (v := .bool false) (by simp [go_sem]) (by simp [go_sem])
      have B1 : Hid (Below w.heap.size w w1) := BW.out.trans (b1.mono (by simp; omega))
      clear b1 g1 BW TK p0 p1 p2 p3 p4 p5 p6 p7 p8 p9 p10
      go_wp2
      (try simp only [Exit.inBlock, Exit.then])
      refine bodyPost_ret (v := .tuple #[cvA ⟨mc, ip, po, di, st, un, nx, wa, inn, out, fin⟩, .slice none 0 0, .int .i64 7]) (by simp [results, Try.results21, go_sem, cvA, z0, z1, z2, z3, z4, z5, z6, z7, z8, z9, z10]; try rfl) rfl ?_
      exact ⟨_, rfl, OwnS.nil _ _, ((((((((((B1.out.setCell (p := ⟨w.heap.size + 1, 0, none⟩) (Nat.le_succ _) _).setCell (Nat.le_succ _) _).setCell (Nat.le_succ _) _).setCell (Nat.le_succ _) _).setCell (Nat.le_succ _) _).setCell (Nat.le_succ _) _).setCell (Nat.le_succ _) _).setCell (Nat.le_succ _) _).setCell (Nat.le_succ _) _).setCell (Nat.le_succ _) _).setCell (Nat.le_succ _) _⟩
end Go.Proofs.Ytjammgjmidchmaa
