/- The model's ConnOK. -/
import Derived.Test.YtlebblmlbhnppaaGreatJ40
namespace Go.Proofs.YtlebblmlbhnppaaGreat
open Go.RowKit Go.PlainAid Go.Proofs.YtlebblmlbhnppaaGreat.Bt Go.Sort
set_option linter.unusedVariables false
set_option maxRecDepth 20000

theorem l07Ask9_any (ip po : Int) (w : World) : Calls Tryz.prog 200 #[.int .i64 ip, .int .i64 po] w fun e w' => e = .returned (.bool (dec (0 ≤ ip ∧ ip ≤ 4294967295) && dec (0 ≤ po ∧ po ≤ 65535))) ∧ w' = w := by
  have T0 : Hid (∀ w, Calls Tryz.prog 77 #[.int .i64 ip] w fun e w' => e = .returned (.bool (dec (0 ≤ ip ∧ ip ≤ 4294967295))) ∧ w' = w) := fun w => specIp_any ip w
  have T1 : Hid (∀ w, Calls Tryz.prog 199 #[.int .i64 po] w fun e w' => e = .returned (.bool (dec (0 ≤ po ∧ po ≤ 65535))) ∧ w' = w) := fun w => specPort_any po w
  generalize dec (0 ≤ ip ∧ ip ≤ 4294967295) = t0 at T0 ⊢
  generalize dec (0 ≤ po ∧ po ≤ 65535) = t1 at T1 ⊢
  cases t0 with
  | false =>
    go_enter Tryz.func200, Tryz.ntmps200
    go_wp2_with fail
    refine (T0.out _).mono ?_
    rintro e w1 ⟨rfl, hw⟩
    subst hw
    go_wp2
    go_ret
    exact ⟨rfl, rfl⟩
  | true =>
    go_enter Tryz.func200, Tryz.ntmps200
    go_wp2_with fail
    refine (T0.out _).mono ?_
    rintro e w1 ⟨rfl, hw⟩
    subst hw
    go_wp2_with fail
    refine (T1.out _).mono ?_
    rintro e w1 ⟨rfl, hw⟩
    subst hw
    go_wp2
    go_ret
    exact ⟨by simp, rfl⟩
set_option maxHeartbeats 4000000 in
theorem specConOK_any (mc : ByteArray) (ip po di st un nx wa : Int) (inn out : ByteArray) (fin : Bool) (w : World) (hmc : mc.size ≤ 1048576) (hi : inn.size ≤ 1048576) (ho : out.size ≤ 1048576) :
    Calls Tryz.prog 151 #[.agg #[.string mc, .int .i64 ip, .int .i64 po, .int .i64 di, .int .i64 st, .int .i64 un, .int .i64 nx, .int .i64 wa, .string inn, .string out, .bool fin]] w fun e w' => e = .returned (.bool (okB ⟨mc, ip, po, di, st, un, nx, wa, inn, out, fin⟩)) ∧ Grw w w' := by
  have T0 : Hid (∀ w, Calls Tryz.prog 110 #[.string mc] w fun e w' => e = .returned (.bool ((mc.size : Int) == 6)) ∧ w' = w) := fun w => l01Mac_any mc w
  have T1 : Hid (∀ w, Calls Tryz.prog 200 #[.int .i64 ip, .int .i64 po] w fun e w' => e = .returned (.bool (dec (0 ≤ ip ∧ ip ≤ 4294967295) && dec (0 ≤ po ∧ po ≤ 65535))) ∧ w' = w) := fun w => l07Ask9_any ip po w
  have T2 : Hid (∀ w, Calls Tryz.prog 77 #[.int .i64 di] w fun e w' => e = .returned (.bool (dec (0 ≤ di ∧ di ≤ 4294967295))) ∧ w' = w) := fun w => specIp_any di w
  have T3 : Hid (∀ w, Calls Tryz.prog 76 #[.int .i64 st, .int .i64 1, .int .i64 4] w fun e w' => e = .returned (.bool (dec (1 ≤ st ∧ st ≤ 4))) ∧ w' = w) := fun w => specIn_any st 1 4 w
  have T4 : Hid (∀ w, Calls Tryz.prog 77 #[.int .i64 un] w fun e w' => e = .returned (.bool (dec (0 ≤ un ∧ un ≤ 4294967295))) ∧ w' = w) := fun w => specIp_any un w
  have T5 : Hid (∀ w, Calls Tryz.prog 77 #[.int .i64 nx] w fun e w' => e = .returned (.bool (dec (0 ≤ nx ∧ nx ≤ 4294967295))) ∧ w' = w) := fun w => specIp_any nx w
  have T6 : Hid (∀ w, Calls Tryz.prog 77 #[.int .i64 wa] w fun e w' => e = .returned (.bool (dec (0 ≤ wa ∧ wa ≤ 4294967295))) ∧ w' = w) := fun w => specIp_any wa w
  have T10 : Hid (∀ w, Calls Tryz.prog 202 #[.agg #[.string mc, .int .i64 ip, .int .i64 po, .int .i64 di, .int .i64 st, .int .i64 un, .int .i64 nx, .int .i64 wa, .string inn, .string out, .bool fin]] w fun e w' => e = .returned (.int .i64 (sentN ⟨mc, ip, po, di, st, un, nx, wa, inn, out, fin⟩)) ∧ Grw w w') := fun w => l10Sent_any mc ip po di st un nx wa inn out fin w ho
  have T9 : Hid (dec (0 ≤ un ∧ un ≤ 4294967295) = true → dec (0 ≤ nx ∧ nx ≤ 4294967295) = true → IntKind.i64.wrap (nx - un) = nx - un ∧ ∀ w, Calls Tryz.prog 201 #[.int .i64 (nx - un)] w fun e w' => e = .returned (.int .i64 (sqN (nx - un))) ∧ Grw w w') := fun h1 h2 => by
    simp [dec] at h1 h2
    exact ⟨by rw [IntKind.wrap_i64]; omega, fun w => toG (l10Seq_any (nx - un) w (by omega) (by omega))⟩
  have E : Hid (okB ⟨mc, ip, po, di, st, un, nx, wa, inn, out, fin⟩ = ((dec (0 ≤ ip ∧ ip ≤ 4294967295) && dec (0 ≤ po ∧ po ≤ 65535) && dec (0 ≤ di ∧ di ≤ 4294967295) && dec (1 ≤ st ∧ st ≤ 4) && dec (0 ≤ un ∧ un ≤ 4294967295) && dec (0 ≤ nx ∧ nx ≤ 4294967295) && dec (0 ≤ wa ∧ wa ≤ 4294967295)) && (((mc.size : Int) == 6) && !decide ((300 : Int) < (inn.size : Int)) && !decide ((300 : Int) < (out.size : Int)) && !((st == 1) && !(inn.toList == [])) && (fin == (st == 3)) && (fin || (out.toList == []))) && (sqN (nx - un) == sentN ⟨mc, ip, po, di, st, un, nx, wa, inn, out, fin⟩))) := rfl
  generalize ((mc.size : Int) == 6) = t0 at T0 E
  generalize (dec (0 ≤ ip ∧ ip ≤ 4294967295) && dec (0 ≤ po ∧ po ≤ 65535)) = t1 at T1 E
  generalize dec (0 ≤ di ∧ di ≤ 4294967295) = t2 at T2 E
  generalize dec (1 ≤ st ∧ st ≤ 4) = t3c at T3 E
  generalize dec (0 ≤ un ∧ un ≤ 4294967295) = u4 at T4 T9 E
  generalize dec (0 ≤ nx ∧ nx ≤ 4294967295) = u5 at T5 T9 E
  generalize dec (0 ≤ wa ∧ wa ≤ 4294967295) = u6 at T6 E
  generalize h1 : decide ((300 : Int) < (inn.size : Int)) = b1 at E
  generalize h2 : decide ((300 : Int) < (out.size : Int)) = b2 at E
  generalize h3 : (st == 1) = t3 at E
  generalize h4 : (inn.toList == []) = t4 at E
  generalize h5 : (st == 3) = t5 at E
  generalize h6 : (out.toList == []) = t6 at E
  generalize sentN ⟨mc, ip, po, di, st, un, nx, wa, inn, out, fin⟩ = z at T10 E
  generalize sqN (nx - un) = zz at T9 E
  have B0 : Hid (Grw w (w.alloc (.cells #[.string mc, .int .i64 ip, .int .i64 po, .int .i64 di, .int .i64 st, .int .i64 un, .int .i64 nx, .int .i64 wa, .string inn, .string out, .bool fin] 206))) := (Grw.refl _).alloc _
  have q0 : (w.alloc (.cells #[.string mc, .int .i64 ip, .int .i64 po, .int .i64 di, .int .i64 st, .int .i64 un, .int .i64 nx, .int .i64 wa, .string inn, .string out, .bool fin] 206)).cell? ⟨w.heap.size, 0, none⟩ = some (.string mc) := by simp [go_sem]
  have q1 : (w.alloc (.cells #[.string mc, .int .i64 ip, .int .i64 po, .int .i64 di, .int .i64 st, .int .i64 un, .int .i64 nx, .int .i64 wa, .string inn, .string out, .bool fin] 206)).cell? ⟨w.heap.size, 1, none⟩ = some (.int .i64 ip) := by simp [go_sem]
  have q2 : (w.alloc (.cells #[.string mc, .int .i64 ip, .int .i64 po, .int .i64 di, .int .i64 st, .int .i64 un, .int .i64 nx, .int .i64 wa, .string inn, .string out, .bool fin] 206)).cell? ⟨w.heap.size, 2, none⟩ = some (.int .i64 po) := by simp [go_sem]
  have q3 : (w.alloc (.cells #[.string mc, .int .i64 ip, .int .i64 po, .int .i64 di, .int .i64 st, .int .i64 un, .int .i64 nx, .int .i64 wa, .string inn, .string out, .bool fin] 206)).cell? ⟨w.heap.size, 3, none⟩ = some (.int .i64 di) := by simp [go_sem]
  have q4 : (w.alloc (.cells #[.string mc, .int .i64 ip, .int .i64 po, .int .i64 di, .int .i64 st, .int .i64 un, .int .i64 nx, .int .i64 wa, .string inn, .string out, .bool fin] 206)).cell? ⟨w.heap.size, 4, none⟩ = some (.int .i64 st) := by simp [go_sem]
  have q5 : (w.alloc (.cells #[.string mc, .int .i64 ip, .int .i64 po, .int .i64 di, .int .i64 st, .int .i64 un, .int .i64 nx, .int .i64 wa, .string inn, .string out, .bool fin] 206)).cell? ⟨w.heap.size, 5, none⟩ = some (.int .i64 un) := by simp [go_sem]
  have q6 : (w.alloc (.cells #[.string mc, .int .i64 ip, .int .i64 po, .int .i64 di, .int .i64 st, .int .i64 un, .int .i64 nx, .int .i64 wa, .string inn, .string out, .bool fin] 206)).cell? ⟨w.heap.size, 6, none⟩ = some (.int .i64 nx) := by simp [go_sem]
  have q7 : (w.alloc (.cells #[.string mc, .int .i64 ip, .int .i64 po, .int .i64 di, .int .i64 st, .int .i64 un, .int .i64 nx, .int .i64 wa, .string inn, .string out, .bool fin] 206)).cell? ⟨w.heap.size, 7, none⟩ = some (.int .i64 wa) := by simp [go_sem]
  have q8 : (w.alloc (.cells #[.string mc, .int .i64 ip, .int .i64 po, .int .i64 di, .int .i64 st, .int .i64 un, .int .i64 nx, .int .i64 wa, .string inn, .string out, .bool fin] 206)).cell? ⟨w.heap.size, 8, none⟩ = some (.string inn) := by simp [go_sem]
  have q9 : (w.alloc (.cells #[.string mc, .int .i64 ip, .int .i64 po, .int .i64 di, .int .i64 st, .int .i64 un, .int .i64 nx, .int .i64 wa, .string inn, .string out, .bool fin] 206)).cell? ⟨w.heap.size, 9, none⟩ = some (.string out) := by simp [go_sem]
  have q10 : (w.alloc (.cells #[.string mc, .int .i64 ip, .int .i64 po, .int .i64 di, .int .i64 st, .int .i64 un, .int .i64 nx, .int .i64 wa, .string inn, .string out, .bool fin] 206)).cell? ⟨w.heap.size, 10, none⟩ = some (.bool fin) := by simp [go_sem]
  have hmix : Tryz.prog.follows .mixedOrders = true := by kernel_rfl
  go_enter Tryz.func151, Tryz.ntmps151
  go_wp2_with fail
  refine (T0.out _).mono ?_
  rintro e w1 ⟨rfl, rfl⟩
  cases t0 with
  | false =>
    go_wp2
    go_ret
    exact ⟨by rw [E.out]; first | rfl | (show Ending.returned (.bool false) = _; simp), (Grw.refl _).alloc _⟩
  | true =>
    go_wp2_with fail
    refine (T1.out _).mono ?_
    rintro e w1 ⟨rfl, rfl⟩
    cases t1 with
    | false =>
      go_wp2
      go_ret
      exact ⟨by rw [E.out]; first | rfl | (show Ending.returned (.bool false) = _; simp), (Grw.refl _).alloc _⟩
    | true =>
      go_wp2_with fail
      refine (T2.out _).mono ?_
      rintro e w1 ⟨rfl, rfl⟩
      cases t2 with
      | false =>
        go_wp2
        go_ret
        exact ⟨by rw [E.out]; first | rfl | (show Ending.returned (.bool false) = _; simp), (Grw.refl _).alloc _⟩
      | true =>
        go_wp2_with fail
        refine (T3.out _).mono ?_
        rintro e w1 ⟨rfl, rfl⟩
        cases t3c with
        | false =>
          go_wp2
          go_ret
          exact ⟨by rw [E.out]; first | rfl | (show Ending.returned (.bool false) = _; simp), (Grw.refl _).alloc _⟩
        | true =>
          go_wp2_with fail
          refine (T4.out _).mono ?_
          rintro e w1 ⟨rfl, rfl⟩
          cases u4 with
          | false =>
            go_wp2
            go_ret
            exact ⟨by rw [E.out]; first | rfl | (show Ending.returned (.bool false) = _; simp), (Grw.refl _).alloc _⟩
          | true =>
            go_wp2_with fail
            refine (T5.out _).mono ?_
            rintro e w1 ⟨rfl, rfl⟩
            cases u5 with
            | false =>
              go_wp2
              go_ret
              exact ⟨by rw [E.out]; first | rfl | (show Ending.returned (.bool false) = _; simp), (Grw.refl _).alloc _⟩
            | true =>
              go_wp2_with fail
              refine (T6.out _).mono ?_
              rintro e w1 ⟨rfl, rfl⟩
              cases u6 with
              | false =>
                go_wp2
                go_ret
                exact ⟨by rw [E.out]; first | rfl | (show Ending.returned (.bool false) = _; simp), (Grw.refl _).alloc _⟩
              | true =>
                cases b1 with
                | false =>
                  cases b2 with
                  | false =>
                    cases t3 with
                    | false =>
                      cases fin with
                      | false =>
                        cases t5 with
                        | false =>
                          cases t6 with
                          | false =>
                            go_wp2
                            go_ret
                            exact ⟨by rw [E.out]; first | rfl | (show Ending.returned (.bool false) = _; simp), (Grw.refl _).alloc _⟩
                          | true =>
                            have X := T9.out (by first | rfl | trivial) (by first | rfl | trivial)
                            have X1 := X.1
                            have X2 : Hid (∀ w, Calls Tryz.prog 201 #[.int .i64 (nx - un)] w fun e w' => e = .returned (.int .i64 zz) ∧ Grw w w') := X.2
                            clear X T9
                            go_wp2_with fail
                            generalize w.alloc (.cells #[.string mc, .int .i64 ip, .int .i64 po, .int .i64 di, .int .i64 st, .int .i64 un, .int .i64 nx, .int .i64 wa, .string inn, .string out, .bool false] 206) = W at *
                            have y0 : ∀ n os, (grow (W.drewN n) os).cell? ⟨w.heap.size, 0, none⟩ = some (.string mc) := fun n os => bkeep (Grw.below ⟨n, os, rfl⟩) q0
                            have y1 : ∀ n os, (grow (W.drewN n) os).cell? ⟨w.heap.size, 1, none⟩ = some (.int .i64 ip) := fun n os => bkeep (Grw.below ⟨n, os, rfl⟩) q1
                            have y2 : ∀ n os, (grow (W.drewN n) os).cell? ⟨w.heap.size, 2, none⟩ = some (.int .i64 po) := fun n os => bkeep (Grw.below ⟨n, os, rfl⟩) q2
                            have y3 : ∀ n os, (grow (W.drewN n) os).cell? ⟨w.heap.size, 3, none⟩ = some (.int .i64 di) := fun n os => bkeep (Grw.below ⟨n, os, rfl⟩) q3
                            have y4 : ∀ n os, (grow (W.drewN n) os).cell? ⟨w.heap.size, 4, none⟩ = some (.int .i64 st) := fun n os => bkeep (Grw.below ⟨n, os, rfl⟩) q4
                            have y5 : ∀ n os, (grow (W.drewN n) os).cell? ⟨w.heap.size, 5, none⟩ = some (.int .i64 un) := fun n os => bkeep (Grw.below ⟨n, os, rfl⟩) q5
                            have y6 : ∀ n os, (grow (W.drewN n) os).cell? ⟨w.heap.size, 6, none⟩ = some (.int .i64 nx) := fun n os => bkeep (Grw.below ⟨n, os, rfl⟩) q6
                            have y7 : ∀ n os, (grow (W.drewN n) os).cell? ⟨w.heap.size, 7, none⟩ = some (.int .i64 wa) := fun n os => bkeep (Grw.below ⟨n, os, rfl⟩) q7
                            have y8 : ∀ n os, (grow (W.drewN n) os).cell? ⟨w.heap.size, 8, none⟩ = some (.string inn) := fun n os => bkeep (Grw.below ⟨n, os, rfl⟩) q8
                            have y9 : ∀ n os, (grow (W.drewN n) os).cell? ⟨w.heap.size, 9, none⟩ = some (.string out) := fun n os => bkeep (Grw.below ⟨n, os, rfl⟩) q9
                            have y10 : ∀ n os, (grow (W.drewN n) os).cell? ⟨w.heap.size, 10, none⟩ = some (.bool false) := fun n os => bkeep (Grw.below ⟨n, os, rfl⟩) q10
                            refine wp_region_quiet_grown (by assumption) (by kernel_rfl) ?_
                            repeat (go_big_quiet_step (first | fail | (first | (go_at_call 201; exact Calls.grown_of (X2.out _)) | (go_at_call 202; exact Calls.grown_of (T10.out _)))))
                            refine wpQuiet_nil ?_
                            intro _ hw'
                            obtain ⟨⟨nq, osq⟩, hw''⟩ := hw'
                            subst hw''
                            have HG2 : Hid (Grw w (grow (W.drewN nq) osq)) := B0.out.trans ⟨nq, osq, rfl⟩
                            clear y0 y1 y2 y3 y4 y5 y6 y7 y8 y9 y10 q0 q1 q2 q3 q4 q5 q6 q7 q8 q9 q10 B0
                            generalize (grow (W.drewN nq) osq) = w5 at *
                            go_wp2
                            go_ret
                            exact ⟨by rw [E.out]; rfl, HG2.out⟩
                        | true =>
                          go_wp2
                          go_ret
                          exact ⟨by rw [E.out]; first | rfl | (show Ending.returned (.bool false) = _; simp), (Grw.refl _).alloc _⟩
                      | true =>
                        cases t5 with
                        | false =>
                          go_wp2
                          go_ret
                          exact ⟨by rw [E.out]; first | rfl | (show Ending.returned (.bool false) = _; simp), (Grw.refl _).alloc _⟩
                        | true =>
                          have X := T9.out (by first | rfl | trivial) (by first | rfl | trivial)
                          have X1 := X.1
                          have X2 : Hid (∀ w, Calls Tryz.prog 201 #[.int .i64 (nx - un)] w fun e w' => e = .returned (.int .i64 zz) ∧ Grw w w') := X.2
                          clear X T9
                          go_wp2_with fail
                          generalize w.alloc (.cells #[.string mc, .int .i64 ip, .int .i64 po, .int .i64 di, .int .i64 st, .int .i64 un, .int .i64 nx, .int .i64 wa, .string inn, .string out, .bool true] 206) = W at *
                          have y0 : ∀ n os, (grow (W.drewN n) os).cell? ⟨w.heap.size, 0, none⟩ = some (.string mc) := fun n os => bkeep (Grw.below ⟨n, os, rfl⟩) q0
                          have y1 : ∀ n os, (grow (W.drewN n) os).cell? ⟨w.heap.size, 1, none⟩ = some (.int .i64 ip) := fun n os => bkeep (Grw.below ⟨n, os, rfl⟩) q1
                          have y2 : ∀ n os, (grow (W.drewN n) os).cell? ⟨w.heap.size, 2, none⟩ = some (.int .i64 po) := fun n os => bkeep (Grw.below ⟨n, os, rfl⟩) q2
                          have y3 : ∀ n os, (grow (W.drewN n) os).cell? ⟨w.heap.size, 3, none⟩ = some (.int .i64 di) := fun n os => bkeep (Grw.below ⟨n, os, rfl⟩) q3
                          have y4 : ∀ n os, (grow (W.drewN n) os).cell? ⟨w.heap.size, 4, none⟩ = some (.int .i64 st) := fun n os => bkeep (Grw.below ⟨n, os, rfl⟩) q4
                          have y5 : ∀ n os, (grow (W.drewN n) os).cell? ⟨w.heap.size, 5, none⟩ = some (.int .i64 un) := fun n os => bkeep (Grw.below ⟨n, os, rfl⟩) q5
                          have y6 : ∀ n os, (grow (W.drewN n) os).cell? ⟨w.heap.size, 6, none⟩ = some (.int .i64 nx) := fun n os => bkeep (Grw.below ⟨n, os, rfl⟩) q6
                          have y7 : ∀ n os, (grow (W.drewN n) os).cell? ⟨w.heap.size, 7, none⟩ = some (.int .i64 wa) := fun n os => bkeep (Grw.below ⟨n, os, rfl⟩) q7
                          have y8 : ∀ n os, (grow (W.drewN n) os).cell? ⟨w.heap.size, 8, none⟩ = some (.string inn) := fun n os => bkeep (Grw.below ⟨n, os, rfl⟩) q8
                          have y9 : ∀ n os, (grow (W.drewN n) os).cell? ⟨w.heap.size, 9, none⟩ = some (.string out) := fun n os => bkeep (Grw.below ⟨n, os, rfl⟩) q9
                          have y10 : ∀ n os, (grow (W.drewN n) os).cell? ⟨w.heap.size, 10, none⟩ = some (.bool true) := fun n os => bkeep (Grw.below ⟨n, os, rfl⟩) q10
                          refine wp_region_quiet_grown (by assumption) (by kernel_rfl) ?_
                          repeat (go_big_quiet_step (first | fail | (first | (go_at_call 201; exact Calls.grown_of (X2.out _)) | (go_at_call 202; exact Calls.grown_of (T10.out _)))))
                          refine wpQuiet_nil ?_
                          intro _ hw'
                          obtain ⟨⟨nq, osq⟩, hw''⟩ := hw'
                          subst hw''
                          have HG2 : Hid (Grw w (grow (W.drewN nq) osq)) := B0.out.trans ⟨nq, osq, rfl⟩
                          clear y0 y1 y2 y3 y4 y5 y6 y7 y8 y9 y10 q0 q1 q2 q3 q4 q5 q6 q7 q8 q9 q10 B0
                          generalize (grow (W.drewN nq) osq) = w5 at *
                          go_wp2
                          go_ret
                          exact ⟨by rw [E.out]; rfl, HG2.out⟩
                    | true =>
                      cases t4 with
                      | false =>
                        go_wp2
                        go_ret
                        exact ⟨by rw [E.out]; first | rfl | (show Ending.returned (.bool false) = _; simp), (Grw.refl _).alloc _⟩
                      | true =>
                        cases fin with
                        | false =>
                          cases t5 with
                          | false =>
                            cases t6 with
                            | false =>
                              go_wp2
                              go_ret
                              exact ⟨by rw [E.out]; first | rfl | (show Ending.returned (.bool false) = _; simp), (Grw.refl _).alloc _⟩
                            | true =>
                              have X := T9.out (by first | rfl | trivial) (by first | rfl | trivial)
                              have X1 := X.1
                              have X2 : Hid (∀ w, Calls Tryz.prog 201 #[.int .i64 (nx - un)] w fun e w' => e = .returned (.int .i64 zz) ∧ Grw w w') := X.2
                              clear X T9
                              go_wp2_with fail
                              generalize w.alloc (.cells #[.string mc, .int .i64 ip, .int .i64 po, .int .i64 di, .int .i64 st, .int .i64 un, .int .i64 nx, .int .i64 wa, .string inn, .string out, .bool false] 206) = W at *
                              have y0 : ∀ n os, (grow (W.drewN n) os).cell? ⟨w.heap.size, 0, none⟩ = some (.string mc) := fun n os => bkeep (Grw.below ⟨n, os, rfl⟩) q0
                              have y1 : ∀ n os, (grow (W.drewN n) os).cell? ⟨w.heap.size, 1, none⟩ = some (.int .i64 ip) := fun n os => bkeep (Grw.below ⟨n, os, rfl⟩) q1
                              have y2 : ∀ n os, (grow (W.drewN n) os).cell? ⟨w.heap.size, 2, none⟩ = some (.int .i64 po) := fun n os => bkeep (Grw.below ⟨n, os, rfl⟩) q2
                              have y3 : ∀ n os, (grow (W.drewN n) os).cell? ⟨w.heap.size, 3, none⟩ = some (.int .i64 di) := fun n os => bkeep (Grw.below ⟨n, os, rfl⟩) q3
                              have y4 : ∀ n os, (grow (W.drewN n) os).cell? ⟨w.heap.size, 4, none⟩ = some (.int .i64 st) := fun n os => bkeep (Grw.below ⟨n, os, rfl⟩) q4
                              have y5 : ∀ n os, (grow (W.drewN n) os).cell? ⟨w.heap.size, 5, none⟩ = some (.int .i64 un) := fun n os => bkeep (Grw.below ⟨n, os, rfl⟩) q5
                              have y6 : ∀ n os, (grow (W.drewN n) os).cell? ⟨w.heap.size, 6, none⟩ = some (.int .i64 nx) := fun n os => bkeep (Grw.below ⟨n, os, rfl⟩) q6
                              have y7 : ∀ n os, (grow (W.drewN n) os).cell? ⟨w.heap.size, 7, none⟩ = some (.int .i64 wa) := fun n os => bkeep (Grw.below ⟨n, os, rfl⟩) q7
                              have y8 : ∀ n os, (grow (W.drewN n) os).cell? ⟨w.heap.size, 8, none⟩ = some (.string inn) := fun n os => bkeep (Grw.below ⟨n, os, rfl⟩) q8
                              have y9 : ∀ n os, (grow (W.drewN n) os).cell? ⟨w.heap.size, 9, none⟩ = some (.string out) := fun n os => bkeep (Grw.below ⟨n, os, rfl⟩) q9
                              have y10 : ∀ n os, (grow (W.drewN n) os).cell? ⟨w.heap.size, 10, none⟩ = some (.bool false) := fun n os => bkeep (Grw.below ⟨n, os, rfl⟩) q10
                              refine wp_region_quiet_grown (by assumption) (by kernel_rfl) ?_
                              repeat (go_big_quiet_step (first | fail | (first | (go_at_call 201; exact Calls.grown_of (X2.out _)) | (go_at_call 202; exact Calls.grown_of (T10.out _)))))
                              refine wpQuiet_nil ?_
                              intro _ hw'
                              obtain ⟨⟨nq, osq⟩, hw''⟩ := hw'
                              subst hw''
                              have HG2 : Hid (Grw w (grow (W.drewN nq) osq)) := B0.out.trans ⟨nq, osq, rfl⟩
                              clear y0 y1 y2 y3 y4 y5 y6 y7 y8 y9 y10 q0 q1 q2 q3 q4 q5 q6 q7 q8 q9 q10 B0
                              generalize (grow (W.drewN nq) osq) = w5 at *
                              go_wp2
                              go_ret
                              exact ⟨by rw [E.out]; rfl, HG2.out⟩
                          | true =>
                            go_wp2
                            go_ret
                            exact ⟨by rw [E.out]; first | rfl | (show Ending.returned (.bool false) = _; simp), (Grw.refl _).alloc _⟩
                        | true =>
                          cases t5 with
                          | false =>
                            go_wp2
                            go_ret
                            exact ⟨by rw [E.out]; first | rfl | (show Ending.returned (.bool false) = _; simp), (Grw.refl _).alloc _⟩
                          | true =>
                            have X := T9.out (by first | rfl | trivial) (by first | rfl | trivial)
                            have X1 := X.1
                            have X2 : Hid (∀ w, Calls Tryz.prog 201 #[.int .i64 (nx - un)] w fun e w' => e = .returned (.int .i64 zz) ∧ Grw w w') := X.2
                            clear X T9
                            go_wp2_with fail
                            generalize w.alloc (.cells #[.string mc, .int .i64 ip, .int .i64 po, .int .i64 di, .int .i64 st, .int .i64 un, .int .i64 nx, .int .i64 wa, .string inn, .string out, .bool true] 206) = W at *
                            have y0 : ∀ n os, (grow (W.drewN n) os).cell? ⟨w.heap.size, 0, none⟩ = some (.string mc) := fun n os => bkeep (Grw.below ⟨n, os, rfl⟩) q0
                            have y1 : ∀ n os, (grow (W.drewN n) os).cell? ⟨w.heap.size, 1, none⟩ = some (.int .i64 ip) := fun n os => bkeep (Grw.below ⟨n, os, rfl⟩) q1
                            have y2 : ∀ n os, (grow (W.drewN n) os).cell? ⟨w.heap.size, 2, none⟩ = some (.int .i64 po) := fun n os => bkeep (Grw.below ⟨n, os, rfl⟩) q2
                            have y3 : ∀ n os, (grow (W.drewN n) os).cell? ⟨w.heap.size, 3, none⟩ = some (.int .i64 di) := fun n os => bkeep (Grw.below ⟨n, os, rfl⟩) q3
                            have y4 : ∀ n os, (grow (W.drewN n) os).cell? ⟨w.heap.size, 4, none⟩ = some (.int .i64 st) := fun n os => bkeep (Grw.below ⟨n, os, rfl⟩) q4
                            have y5 : ∀ n os, (grow (W.drewN n) os).cell? ⟨w.heap.size, 5, none⟩ = some (.int .i64 un) := fun n os => bkeep (Grw.below ⟨n, os, rfl⟩) q5
                            have y6 : ∀ n os, (grow (W.drewN n) os).cell? ⟨w.heap.size, 6, none⟩ = some (.int .i64 nx) := fun n os => bkeep (Grw.below ⟨n, os, rfl⟩) q6
                            have y7 : ∀ n os, (grow (W.drewN n) os).cell? ⟨w.heap.size, 7, none⟩ = some (.int .i64 wa) := fun n os => bkeep (Grw.below ⟨n, os, rfl⟩) q7
                            have y8 : ∀ n os, (grow (W.drewN n) os).cell? ⟨w.heap.size, 8, none⟩ = some (.string inn) := fun n os => bkeep (Grw.below ⟨n, os, rfl⟩) q8
                            have y9 : ∀ n os, (grow (W.drewN n) os).cell? ⟨w.heap.size, 9, none⟩ = some (.string out) := fun n os => bkeep (Grw.below ⟨n, os, rfl⟩) q9
                            have y10 : ∀ n os, (grow (W.drewN n) os).cell? ⟨w.heap.size, 10, none⟩ = some (.bool true) := fun n os => bkeep (Grw.below ⟨n, os, rfl⟩) q10
                            refine wp_region_quiet_grown (by assumption) (by kernel_rfl) ?_
                            repeat (go_big_quiet_step (first | fail | (first | (go_at_call 201; exact Calls.grown_of (X2.out _)) | (go_at_call 202; exact Calls.grown_of (T10.out _)))))
                            refine wpQuiet_nil ?_
                            intro _ hw'
                            obtain ⟨⟨nq, osq⟩, hw''⟩ := hw'
                            subst hw''
                            have HG2 : Hid (Grw w (grow (W.drewN nq) osq)) := B0.out.trans ⟨nq, osq, rfl⟩
                            clear y0 y1 y2 y3 y4 y5 y6 y7 y8 y9 y10 q0 q1 q2 q3 q4 q5 q6 q7 q8 q9 q10 B0
                            generalize (grow (W.drewN nq) osq) = w5 at *
                            go_wp2
                            go_ret
                            exact ⟨by rw [E.out]; rfl, HG2.out⟩
                  | true =>
                    go_wp2
                    go_ret
                    exact ⟨by rw [E.out]; first | rfl | (show Ending.returned (.bool false) = _; simp), (Grw.refl _).alloc _⟩
                | true =>
                  go_wp2
                  go_ret
                  exact ⟨by rw [E.out]; first | rfl | (show Ending.returned (.bool false) = _; simp), (Grw.refl _).alloc _⟩
end Go.Proofs.YtlebblmlbhnppaaGreat
