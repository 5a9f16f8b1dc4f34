/- ConnOK of both sides, right segments of both sides. -/
import Derived.Test.YtlebblmlbhnppaaGreatJ37
namespace Go.Proofs.YtlebblmlbhnppaaGreat
open Go.RowKit Go.PlainAid Go.Proofs.YtlebblmlbhnppaaGreat.Bt Go.Sort
set_option linter.unusedVariables false
set_option maxRecDepth 20000

theorem int_ub {n : Int} (h : (Lit.int .i64 n).wf = true) : n ≤ 9223372036854775807 := by
  have : IntKind.i64.min = -9223372036854775808 := by decide
  have : IntKind.i64.max = 9223372036854775807 := by decide
  simp [Lit.wf] at h
  omega
theorem and3 {a b c : Bool} : (a && b && c) = true → a = true ∧ b = true ∧ c = true := by cases a <;> cases b <;> cases c <;> simp
theorem nuB_bd {c : ConnV} (h : nuB c = true) : (0 ≤ c.ip ∧ c.ip ≤ 4294967295) ∧ (0 ≤ c.po ∧ c.po ≤ 65535) ∧ (0 ≤ c.di ∧ c.di ≤ 4294967295) ∧ (1 ≤ c.st ∧ c.st ≤ 4) ∧ (0 ≤ c.un ∧ c.un ≤ 4294967295) ∧ (0 ≤ c.nx ∧ c.nx ≤ 4294967295) ∧ (0 ≤ c.wa ∧ c.wa ≤ 4294967295) := by
  unfold nuB dec at h
  simp only [Bool.and_eq_true, decide_eq_true_eq] at h
  obtain ⟨⟨⟨⟨⟨⟨a, b⟩, c⟩, d⟩, e⟩, f⟩, g⟩ := h
  exact ⟨a, b, c, d, e, f, g⟩
theorem txB_bd {c : ConnV} (h : txB c = true) : c.mc.size = 6 ∧ c.inn.size ≤ 300 ∧ c.out.size ≤ 300 ∧ (c.st = 1 → c.inn.size = 0) ∧ (c.fin = true ↔ c.st = 3) ∧ (c.fin = false → c.out.size = 0) := by
  unfold txB at h
  simp only [Bool.and_eq_true, Bool.not_eq_true', decide_eq_false_iff_not, beq_iff_eq] at h
  obtain ⟨⟨⟨⟨⟨a, b⟩, d⟩, e⟩, f⟩, g⟩ := h
  have z : ∀ x : ByteArray, (x.toList == []) = true → x.size = 0 := by
    intro x hx
    have h := congrArg List.length (beq_iff_eq.1 hx)
    rw [List.length_nil] at h
    rw [← h]
    simp [ByteArray.toList_eq]
  refine ⟨by omega, by omega, by omega, fun h1 => ?_, ?_, fun h1 => ?_⟩
  · rw [h1] at e
    simp at e
    exact z _ (by rw [e]; rfl)
  · rw [f]
    simp
  · rw [h1] at g
    simp at g
    exact z _ (by rw [g]; rfl)
set_option maxHeartbeats 2000000 in
theorem implConOK_any (mc : ByteArray) (ip po di st un nx wa : Int) (inn out : ByteArray) (fin : Bool) (w : World) (hp : po ≤ 9223372036854775807) (hmc : mc.size ≤ 1048576) (hi : inn.size ≤ 1048576) (ho : out.size ≤ 1048576) :
    Calls Tryz.prog 159 #[.agg #[.string mc, .int .i64 ip, .int .i64 po, .int .i64 di, .int .i64 st, .int .i64 un, .int .i64 nx, .int .i64 wa, .string inn, .string out, .bool fin]] w fun e w' => e = .returned (.bool (okB ⟨mc, ip, po, di, st, un, nx, wa, inn, out, fin⟩)) ∧ Grw w w' := by
  have T0 : Hid (∀ w, Calls Tryz.prog 210 #[.agg #[.string mc, .int .i64 ip, .int .i64 po, .int .i64 di, .int .i64 st, .int .i64 un, .int .i64 nx, .int .i64 wa, .string inn, .string out, .bool fin]] w fun e w' => e = .returned (.bool (nuB ⟨mc, ip, po, di, st, un, nx, wa, inn, out, fin⟩)) ∧ Grw w w') := fun w => conNums_any mc ip po di st un nx wa inn out fin w hp
  have T1 : Hid (∀ w, Calls Tryz.prog 211 #[.agg #[.string mc, .int .i64 ip, .int .i64 po, .int .i64 di, .int .i64 st, .int .i64 un, .int .i64 nx, .int .i64 wa, .string inn, .string out, .bool fin]] w fun e w' => e = .returned (.bool (txB ⟨mc, ip, po, di, st, un, nx, wa, inn, out, fin⟩)) ∧ Grw w w') := fun w => conTexts_any mc ip po di st un nx wa inn out fin w (by omega) (by omega) (by omega)
  have T2 : Hid (∀ w, Calls Tryz.prog 213 #[.agg #[.string mc, .int .i64 ip, .int .i64 po, .int .i64 di, .int .i64 st, .int .i64 un, .int .i64 nx, .int .i64 wa, .string inn, .string out, .bool fin]] w fun e w' => e = .returned (.int .i64 (sentN ⟨mc, ip, po, di, st, un, nx, wa, inn, out, fin⟩)) ∧ Grw w w') := fun w => unack_any mc ip po di st un nx wa inn out fin w ho
  have E : Hid (okB ⟨mc, ip, po, di, st, un, nx, wa, inn, out, fin⟩ = (nuB ⟨mc, ip, po, di, st, un, nx, wa, inn, out, fin⟩ && txB ⟨mc, ip, po, di, st, un, nx, wa, inn, out, fin⟩ && (sqN (nx - un) == sentN ⟨mc, ip, po, di, st, un, nx, wa, inn, out, fin⟩))) := rfl
  have T3 : Hid (nuB ⟨mc, ip, po, di, st, un, nx, wa, inn, out, fin⟩ = true → ∀ w, Calls Tryz.prog 212 #[.int .i64 un, .int .i64 (sentN ⟨mc, ip, po, di, st, un, nx, wa, inn, out, fin⟩)] w fun e w' => e = .returned (.int .i64 (sqN (un + sentN ⟨mc, ip, po, di, st, un, nx, wa, inn, out, fin⟩))) ∧ Grw w w') := fun h w => by
    have h1 := nuB_bd h
    have h2 := sentN_bd ⟨mc, ip, po, di, st, un, nx, wa, inn, out, fin⟩
    dsimp only at h1 h2
    exact toG (seqAfter_any un _ w (by omega) (by omega) (by omega) (by omega))
  have F : Hid (nuB ⟨mc, ip, po, di, st, un, nx, wa, inn, out, fin⟩ = true → txB ⟨mc, ip, po, di, st, un, nx, wa, inn, out, fin⟩ = true → (sqN (nx - un) == sentN ⟨mc, ip, po, di, st, un, nx, wa, inn, out, fin⟩) = (nx == sqN (un + sentN ⟨mc, ip, po, di, st, un, nx, wa, inn, out, fin⟩))) := fun h h' => by
    have h1 := nuB_bd h
    have h3 := txB_bd h'
    have h2 := sentN_bd ⟨mc, ip, po, di, st, un, nx, wa, inn, out, fin⟩
    dsimp only at h1 h2 h3
    generalize sentN ⟨mc, ip, po, di, st, un, nx, wa, inn, out, fin⟩ = z at h2
    rw [Bool.eq_iff_iff, beq_iff_eq, beq_iff_eq]
    unfold sqN
    omega
  generalize nuB ⟨mc, ip, po, di, st, un, nx, wa, inn, out, fin⟩ = t0 at T0 T3 E F
  generalize txB ⟨mc, ip, po, di, st, un, nx, wa, inn, out, fin⟩ = t1 at T1 E F
  generalize sentN ⟨mc, ip, po, di, st, un, nx, wa, inn, out, fin⟩ = z at T2 T3 E F
  generalize sqN (un + z) = z2 at T3 F
  generalize (sqN (nx - un) == z) = t3 at E F
  have B0 : Hid (Grw w (w.alloc (.cells #[.string mc, .int .i64 ip, .int .i64 po, .int .i64 di, .int .i64 st, .int .i64 un, .int .i64 nx, .int .i64 wa, .string inn, .string out, .bool fin] 206))) := (Grw.refl _).alloc _
  have q0 : (w.alloc (.cells #[.string mc, .int .i64 ip, .int .i64 po, .int .i64 di, .int .i64 st, .int .i64 un, .int .i64 nx, .int .i64 wa, .string inn, .string out, .bool fin] 206)).cell? ⟨w.heap.size, 0, none⟩ = some (.string mc) := by simp [go_sem]
  have q1 : (w.alloc (.cells #[.string mc, .int .i64 ip, .int .i64 po, .int .i64 di, .int .i64 st, .int .i64 un, .int .i64 nx, .int .i64 wa, .string inn, .string out, .bool fin] 206)).cell? ⟨w.heap.size, 1, none⟩ = some (.int .i64 ip) := by simp [go_sem]
  have q2 : (w.alloc (.cells #[.string mc, .int .i64 ip, .int .i64 po, .int .i64 di, .int .i64 st, .int .i64 un, .int .i64 nx, .int .i64 wa, .string inn, .string out, .bool fin] 206)).cell? ⟨w.heap.size, 2, none⟩ = some (.int .i64 po) := by simp [go_sem]
  have q3 : (w.alloc (.cells #[.string mc, .int .i64 ip, .int .i64 po, .int .i64 di, .int .i64 st, .int .i64 un, .int .i64 nx, .int .i64 wa, .string inn, .string out, .bool fin] 206)).cell? ⟨w.heap.size, 3, none⟩ = some (.int .i64 di) := by simp [go_sem]
  have q4 : (w.alloc (.cells #[.string mc, .int .i64 ip, .int .i64 po, .int .i64 di, .int .i64 st, .int .i64 un, .int .i64 nx, .int .i64 wa, .string inn, .string out, .bool fin] 206)).cell? ⟨w.heap.size, 4, none⟩ = some (.int .i64 st) := by simp [go_sem]
  have q5 : (w.alloc (.cells #[.string mc, .int .i64 ip, .int .i64 po, .int .i64 di, .int .i64 st, .int .i64 un, .int .i64 nx, .int .i64 wa, .string inn, .string out, .bool fin] 206)).cell? ⟨w.heap.size, 5, none⟩ = some (.int .i64 un) := by simp [go_sem]
  have q6 : (w.alloc (.cells #[.string mc, .int .i64 ip, .int .i64 po, .int .i64 di, .int .i64 st, .int .i64 un, .int .i64 nx, .int .i64 wa, .string inn, .string out, .bool fin] 206)).cell? ⟨w.heap.size, 6, none⟩ = some (.int .i64 nx) := by simp [go_sem]
  have q7 : (w.alloc (.cells #[.string mc, .int .i64 ip, .int .i64 po, .int .i64 di, .int .i64 st, .int .i64 un, .int .i64 nx, .int .i64 wa, .string inn, .string out, .bool fin] 206)).cell? ⟨w.heap.size, 7, none⟩ = some (.int .i64 wa) := by simp [go_sem]
  have q8 : (w.alloc (.cells #[.string mc, .int .i64 ip, .int .i64 po, .int .i64 di, .int .i64 st, .int .i64 un, .int .i64 nx, .int .i64 wa, .string inn, .string out, .bool fin] 206)).cell? ⟨w.heap.size, 8, none⟩ = some (.string inn) := by simp [go_sem]
  have q9 : (w.alloc (.cells #[.string mc, .int .i64 ip, .int .i64 po, .int .i64 di, .int .i64 st, .int .i64 un, .int .i64 nx, .int .i64 wa, .string inn, .string out, .bool fin] 206)).cell? ⟨w.heap.size, 9, none⟩ = some (.string out) := by simp [go_sem]
  have q10 : (w.alloc (.cells #[.string mc, .int .i64 ip, .int .i64 po, .int .i64 di, .int .i64 st, .int .i64 un, .int .i64 nx, .int .i64 wa, .string inn, .string out, .bool fin] 206)).cell? ⟨w.heap.size, 10, none⟩ = some (.bool fin) := by simp [go_sem]
  have hmix : Tryz.prog.follows .mixedOrders = true := by kernel_rfl
  cases t0 with
  | false =>
    clear T3 F
    go_enter Tryz.func159, Tryz.ntmps159
    go_wp2_with fail
    generalize w.alloc (.cells #[.string mc, .int .i64 ip, .int .i64 po, .int .i64 di, .int .i64 st, .int .i64 un, .int .i64 nx, .int .i64 wa, .string inn, .string out, .bool fin] 206) = W at *
    have y0 : ∀ n os, (grow (W.drewN n) os).cell? ⟨w.heap.size, 0, none⟩ = some (.string mc) := fun n os => bkeep (Grw.below ⟨n, os, rfl⟩) q0
    have y1 : ∀ n os, (grow (W.drewN n) os).cell? ⟨w.heap.size, 1, none⟩ = some (.int .i64 ip) := fun n os => bkeep (Grw.below ⟨n, os, rfl⟩) q1
    have y2 : ∀ n os, (grow (W.drewN n) os).cell? ⟨w.heap.size, 2, none⟩ = some (.int .i64 po) := fun n os => bkeep (Grw.below ⟨n, os, rfl⟩) q2
    have y3 : ∀ n os, (grow (W.drewN n) os).cell? ⟨w.heap.size, 3, none⟩ = some (.int .i64 di) := fun n os => bkeep (Grw.below ⟨n, os, rfl⟩) q3
    have y4 : ∀ n os, (grow (W.drewN n) os).cell? ⟨w.heap.size, 4, none⟩ = some (.int .i64 st) := fun n os => bkeep (Grw.below ⟨n, os, rfl⟩) q4
    have y5 : ∀ n os, (grow (W.drewN n) os).cell? ⟨w.heap.size, 5, none⟩ = some (.int .i64 un) := fun n os => bkeep (Grw.below ⟨n, os, rfl⟩) q5
    have y6 : ∀ n os, (grow (W.drewN n) os).cell? ⟨w.heap.size, 6, none⟩ = some (.int .i64 nx) := fun n os => bkeep (Grw.below ⟨n, os, rfl⟩) q6
    have y7 : ∀ n os, (grow (W.drewN n) os).cell? ⟨w.heap.size, 7, none⟩ = some (.int .i64 wa) := fun n os => bkeep (Grw.below ⟨n, os, rfl⟩) q7
    have y8 : ∀ n os, (grow (W.drewN n) os).cell? ⟨w.heap.size, 8, none⟩ = some (.string inn) := fun n os => bkeep (Grw.below ⟨n, os, rfl⟩) q8
    have y9 : ∀ n os, (grow (W.drewN n) os).cell? ⟨w.heap.size, 9, none⟩ = some (.string out) := fun n os => bkeep (Grw.below ⟨n, os, rfl⟩) q9
    have y10 : ∀ n os, (grow (W.drewN n) os).cell? ⟨w.heap.size, 10, none⟩ = some (.bool fin) := fun n os => bkeep (Grw.below ⟨n, os, rfl⟩) q10
    refine wp_region_quiet_grown (by assumption) (by kernel_rfl) ?_
    repeat (go_big_quiet_step (first | fail | (first | (go_at_call 210; exact Calls.grown_of (T0.out _)))))
    refine wpQuiet_nil ?_
    intro _ hw'
    obtain ⟨⟨nq, osq⟩, hw''⟩ := hw'
    subst hw''
    have HG2 : Hid (Grw w (grow (W.drewN nq) osq)) := B0.out.trans ⟨nq, osq, rfl⟩
    clear y0 y1 y2 y3 y4 y5 y6 y7 y8 y9 y10 q0 q1 q2 q3 q4 q5 q6 q7 q8 q9 q10 B0
    generalize (grow (W.drewN nq) osq) = w5 at *
    go_wp2
    go_ret
    exact ⟨by rw [E.out]; rfl, HG2.out⟩
  | true =>
    have T4 : Hid (∀ w, Calls Tryz.prog 212 #[.int .i64 un, .int .i64 z] w fun e w' => e = .returned (.int .i64 z2) ∧ Grw w w') := T3.out rfl
    have F2 : Hid (t1 = true → t3 = (nx == z2)) := F.out rfl
    clear T3 F
    cases t1 with
    | false =>
      clear F2 T4
      go_enter Tryz.func159, Tryz.ntmps159
      go_wp2_with fail
      generalize w.alloc (.cells #[.string mc, .int .i64 ip, .int .i64 po, .int .i64 di, .int .i64 st, .int .i64 un, .int .i64 nx, .int .i64 wa, .string inn, .string out, .bool fin] 206) = W at *
      have y0 : ∀ n os, (grow (W.drewN n) os).cell? ⟨w.heap.size, 0, none⟩ = some (.string mc) := fun n os => bkeep (Grw.below ⟨n, os, rfl⟩) q0
      have y1 : ∀ n os, (grow (W.drewN n) os).cell? ⟨w.heap.size, 1, none⟩ = some (.int .i64 ip) := fun n os => bkeep (Grw.below ⟨n, os, rfl⟩) q1
      have y2 : ∀ n os, (grow (W.drewN n) os).cell? ⟨w.heap.size, 2, none⟩ = some (.int .i64 po) := fun n os => bkeep (Grw.below ⟨n, os, rfl⟩) q2
      have y3 : ∀ n os, (grow (W.drewN n) os).cell? ⟨w.heap.size, 3, none⟩ = some (.int .i64 di) := fun n os => bkeep (Grw.below ⟨n, os, rfl⟩) q3
      have y4 : ∀ n os, (grow (W.drewN n) os).cell? ⟨w.heap.size, 4, none⟩ = some (.int .i64 st) := fun n os => bkeep (Grw.below ⟨n, os, rfl⟩) q4
      have y5 : ∀ n os, (grow (W.drewN n) os).cell? ⟨w.heap.size, 5, none⟩ = some (.int .i64 un) := fun n os => bkeep (Grw.below ⟨n, os, rfl⟩) q5
      have y6 : ∀ n os, (grow (W.drewN n) os).cell? ⟨w.heap.size, 6, none⟩ = some (.int .i64 nx) := fun n os => bkeep (Grw.below ⟨n, os, rfl⟩) q6
      have y7 : ∀ n os, (grow (W.drewN n) os).cell? ⟨w.heap.size, 7, none⟩ = some (.int .i64 wa) := fun n os => bkeep (Grw.below ⟨n, os, rfl⟩) q7
      have y8 : ∀ n os, (grow (W.drewN n) os).cell? ⟨w.heap.size, 8, none⟩ = some (.string inn) := fun n os => bkeep (Grw.below ⟨n, os, rfl⟩) q8
      have y9 : ∀ n os, (grow (W.drewN n) os).cell? ⟨w.heap.size, 9, none⟩ = some (.string out) := fun n os => bkeep (Grw.below ⟨n, os, rfl⟩) q9
      have y10 : ∀ n os, (grow (W.drewN n) os).cell? ⟨w.heap.size, 10, none⟩ = some (.bool fin) := fun n os => bkeep (Grw.below ⟨n, os, rfl⟩) q10
      refine wp_region_quiet_grown (by assumption) (by kernel_rfl) ?_
      repeat (go_big_quiet_step (first | fail | (first | (go_at_call 210; exact Calls.grown_of (T0.out _)) | (go_at_call 211; exact Calls.grown_of (T1.out _)))))
      refine wpQuiet_nil ?_
      intro _ hw'
      obtain ⟨⟨nq, osq⟩, hw''⟩ := hw'
      subst hw''
      have HG2 : Hid (Grw w (grow (W.drewN nq) osq)) := B0.out.trans ⟨nq, osq, rfl⟩
      clear y0 y1 y2 y3 y4 y5 y6 y7 y8 y9 y10 q0 q1 q2 q3 q4 q5 q6 q7 q8 q9 q10 B0
      generalize (grow (W.drewN nq) osq) = w5 at *
      go_wp2
      go_ret
      exact ⟨by rw [E.out]; rfl, HG2.out⟩
    | true =>
      have F3 : Hid (t3 = (nx == z2)) := F2.out rfl
      rw [F3.out] at E
      clear F2 F3
      go_enter Tryz.func159, Tryz.ntmps159
      go_wp2_with fail
      generalize w.alloc (.cells #[.string mc, .int .i64 ip, .int .i64 po, .int .i64 di, .int .i64 st, .int .i64 un, .int .i64 nx, .int .i64 wa, .string inn, .string out, .bool fin] 206) = W at *
      have y0 : ∀ n os, (grow (W.drewN n) os).cell? ⟨w.heap.size, 0, none⟩ = some (.string mc) := fun n os => bkeep (Grw.below ⟨n, os, rfl⟩) q0
      have y1 : ∀ n os, (grow (W.drewN n) os).cell? ⟨w.heap.size, 1, none⟩ = some (.int .i64 ip) := fun n os => bkeep (Grw.below ⟨n, os, rfl⟩) q1
      have y2 : ∀ n os, (grow (W.drewN n) os).cell? ⟨w.heap.size, 2, none⟩ = some (.int .i64 po) := fun n os => bkeep (Grw.below ⟨n, os, rfl⟩) q2
      have y3 : ∀ n os, (grow (W.drewN n) os).cell? ⟨w.heap.size, 3, none⟩ = some (.int .i64 di) := fun n os => bkeep (Grw.below ⟨n, os, rfl⟩) q3
      have y4 : ∀ n os, (grow (W.drewN n) os).cell? ⟨w.heap.size, 4, none⟩ = some (.int .i64 st) := fun n os => bkeep (Grw.below ⟨n, os, rfl⟩) q4
      have y5 : ∀ n os, (grow (W.drewN n) os).cell? ⟨w.heap.size, 5, none⟩ = some (.int .i64 un) := fun n os => bkeep (Grw.below ⟨n, os, rfl⟩) q5
      have y6 : ∀ n os, (grow (W.drewN n) os).cell? ⟨w.heap.size, 6, none⟩ = some (.int .i64 nx) := fun n os => bkeep (Grw.below ⟨n, os, rfl⟩) q6
      have y7 : ∀ n os, (grow (W.drewN n) os).cell? ⟨w.heap.size, 7, none⟩ = some (.int .i64 wa) := fun n os => bkeep (Grw.below ⟨n, os, rfl⟩) q7
      have y8 : ∀ n os, (grow (W.drewN n) os).cell? ⟨w.heap.size, 8, none⟩ = some (.string inn) := fun n os => bkeep (Grw.below ⟨n, os, rfl⟩) q8
      have y9 : ∀ n os, (grow (W.drewN n) os).cell? ⟨w.heap.size, 9, none⟩ = some (.string out) := fun n os => bkeep (Grw.below ⟨n, os, rfl⟩) q9
      have y10 : ∀ n os, (grow (W.drewN n) os).cell? ⟨w.heap.size, 10, none⟩ = some (.bool fin) := fun n os => bkeep (Grw.below ⟨n, os, rfl⟩) q10
      refine wp_region_quiet_grown (by assumption) (by kernel_rfl) ?_
      repeat (go_big_quiet_step (first | fail | (first | (go_at_call 210; exact Calls.grown_of (T0.out _)) | (go_at_call 211; exact Calls.grown_of (T1.out _)) | (go_at_call 213; exact Calls.grown_of (T2.out _)) | (go_at_call 212; exact Calls.grown_of (T4.out _)))))
      refine wpQuiet_nil ?_
      intro _ hw'
      obtain ⟨⟨nq, osq⟩, hw''⟩ := hw'
      subst hw''
      have HG2 : Hid (Grw w (grow (W.drewN nq) osq)) := B0.out.trans ⟨nq, osq, rfl⟩
      clear y0 y1 y2 y3 y4 y5 y6 y7 y8 y9 y10 q0 q1 q2 q3 q4 q5 q6 q7 q8 q9 q10 B0
      generalize (grow (W.drewN nq) osq) = w5 at *
      go_wp2
      go_ret
      exact ⟨by rw [E.out]; rfl, HG2.out⟩
end Go.Proofs.YtlebblmlbhnppaaGreat
