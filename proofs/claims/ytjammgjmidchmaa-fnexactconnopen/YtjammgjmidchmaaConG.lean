/- Right segments of both sides; the law of ConnOK. -/
import Derived.Test.YtjammgjmidchmaaConS
import Derived.Test.YtjammgjmidchmaaLawC
namespace Go.Proofs.Ytjammgjmidchmaa
open Go.RowKit Go.PlainAid Go.Proofs.Ytjammgjmidchmaa.Bt Go.Sort
set_option linter.unusedVariables false
set_option maxRecDepth 20000
set_option maxHeartbeats 2000000 in
theorem segOK9_any (sp dp sq ac fl wi : Int) (da : ByteArray) (w : World) (hs : sp ≤ 9223372036854775807) (hd : dp ≤ 9223372036854775807) (hq : sq ≤ 9223372036854775807) (ha : ac ≤ 9223372036854775807) (hw : wi ≤ 9223372036854775807) (hda : da.size ≤ 9223372036854775807) :
    Calls Try.prog 35 #[.agg #[.int .i64 sp, .int .i64 dp, .int .i64 sq, .int .i64 ac, .int .i64 fl, .int .i64 wi, .string da]] w fun e w' => e = .returned (.bool (sgB ⟨sp, dp, sq, ac, fl, wi, da⟩)) ∧ Grw w w' := by
  have T0 : Hid (∀ w, Calls Try.prog 66 #[.int .i64 sp] w fun e w' => e = .returned (.bool (dec (0 ≤ sp ∧ sp ≤ 65535))) ∧ w' = w) := fun w => portOK_any sp w hs
  have T1 : Hid (∀ w, Calls Try.prog 66 #[.int .i64 dp] w fun e w' => e = .returned (.bool (dec (0 ≤ dp ∧ dp ≤ 65535))) ∧ w' = w) := fun w => portOK_any dp w hd
  have T2 : Hid (∀ w, Calls Try.prog 67 #[.int .i64 sq, .int .i64 4] w fun e w' => e = .returned (.bool (dec (0 ≤ sq ∧ sq ≤ 4294967295))) ∧ w' = w) := fun w => hasRoom4 sq w hq
  have T3 : Hid (∀ w, Calls Try.prog 67 #[.int .i64 ac, .int .i64 4] w fun e w' => e = .returned (.bool (dec (0 ≤ ac ∧ ac ≤ 4294967295))) ∧ w' = w) := fun w => hasRoom4 ac w ha
  have T4 : Hid (∀ w, Calls Try.prog 68 #[.int .i64 fl] w fun e w' => e = .returned (.bool (dec (0 ≤ fl ∧ fl ≤ 31))) ∧ w' = w) := fun w => flagsOK_any fl w
  have T5 : Hid (∀ w, Calls Try.prog 67 #[.int .i64 wi, .int .i64 2] w fun e w' => e = .returned (.bool (dec (0 ≤ wi ∧ wi ≤ 65535))) ∧ w' = w) := fun w => hasRoom2 wi w hw
  have E : Hid (sgB ⟨sp, dp, sq, ac, fl, wi, da⟩ = ((dec (0 ≤ sp ∧ sp ≤ 65535)) && (dec (0 ≤ dp ∧ dp ≤ 65535)) && (dec (0 ≤ sq ∧ sq ≤ 4294967295)) && (dec (0 ≤ ac ∧ ac ≤ 4294967295)) && (dec (0 ≤ fl ∧ fl ≤ 31)) && (dec (0 ≤ wi ∧ wi ≤ 65535)) && decide ((da.size : Int) ≤ 360))) := rfl
  generalize dec (0 ≤ sp ∧ sp ≤ 65535) = t0 at T0 E
  generalize dec (0 ≤ dp ∧ dp ≤ 65535) = t1 at T1 E
  generalize dec (0 ≤ sq ∧ sq ≤ 4294967295) = t2 at T2 E
  generalize dec (0 ≤ ac ∧ ac ≤ 4294967295) = t3 at T3 E
  generalize dec (0 ≤ fl ∧ fl ≤ 31) = t4 at T4 E
  generalize dec (0 ≤ wi ∧ wi ≤ 65535) = t5 at T5 E
  go_enter Try.func35, Try.ntmps35
  go_wp2_with fail
  refine (T0.out _).mono ?_
  rintro e w1 ⟨rfl, rfl⟩
  cases t0 with
  | false =>
    go_wp2
    go_ret
    exact ⟨by rw [E.out]; first | rfl | (show Ending.returned (.bool false) = _; simp), (Grw.refl _).alloc _⟩
  | true =>
    go_wp2_with fail
    refine (T1.out _).mono ?_
    rintro e w1 ⟨rfl, rfl⟩
    cases t1 with
    | false =>
      go_wp2
      go_ret
      exact ⟨by rw [E.out]; first | rfl | (show Ending.returned (.bool false) = _; simp), (Grw.refl _).alloc _⟩
    | true =>
      go_wp2_with fail
      refine (T2.out _).mono ?_
      rintro e w1 ⟨rfl, rfl⟩
      cases t2 with
      | false =>
        go_wp2
        go_ret
        exact ⟨by rw [E.out]; first | rfl | (show Ending.returned (.bool false) = _; simp), (Grw.refl _).alloc _⟩
      | true =>
        go_wp2_with fail
        refine (T3.out _).mono ?_
        rintro e w1 ⟨rfl, rfl⟩
        cases t3 with
        | false =>
          go_wp2
          go_ret
          exact ⟨by rw [E.out]; first | rfl | (show Ending.returned (.bool false) = _; simp), (Grw.refl _).alloc _⟩
        | true =>
          go_wp2_with fail
          refine (T4.out _).mono ?_
          rintro e w1 ⟨rfl, rfl⟩
          cases t4 with
          | false =>
            go_wp2
            go_ret
            exact ⟨by rw [E.out]; first | rfl | (show Ending.returned (.bool false) = _; simp), (Grw.refl _).alloc _⟩
          | true =>
            go_wp2_with fail
            refine (T5.out _).mono ?_
            rintro e w1 ⟨rfl, rfl⟩
            cases t5 with
            | false =>
              go_wp2
              go_ret
              exact ⟨by rw [E.out]; first | rfl | (show Ending.returned (.bool false) = _; simp), (Grw.refl _).alloc _⟩
            | true =>
              generalize hz : decide ((da.size : Int) ≤ 360) = z at E
              go_wp2
              go_ret
              exact ⟨by rw [E.out]; rfl, (Grw.refl _).alloc _⟩
set_option maxHeartbeats 2000000 in
theorem l02Seg9_any (sp dp sq ac fl wi : Int) (da : ByteArray) (w : World) (hda : da.size ≤ 9223372036854775807) :
    Calls Try.prog 38 #[.agg #[.int .i64 sp, .int .i64 dp, .int .i64 sq, .int .i64 ac, .int .i64 fl, .int .i64 wi, .string da]] w fun e w' => e = .returned (.bool (sgB ⟨sp, dp, sq, ac, fl, wi, da⟩)) ∧ Grw w w' := by
  have T0 : Hid (∀ w, Calls Try.prog 78 #[.int .i64 sp] w fun e w' => e = .returned (.bool (dec (0 ≤ sp ∧ sp ≤ 65535))) ∧ w' = w) := fun w => specPort_any sp w
  have T1 : Hid (∀ w, Calls Try.prog 78 #[.int .i64 dp] w fun e w' => e = .returned (.bool (dec (0 ≤ dp ∧ dp ≤ 65535))) ∧ w' = w) := fun w => specPort_any dp w
  have T2 : Hid (∀ w, Calls Try.prog 57 #[.int .i64 sq] w fun e w' => e = .returned (.bool (dec (0 ≤ sq ∧ sq ≤ 4294967295))) ∧ w' = w) := fun w => specIp_any sq w
  have T3 : Hid (∀ w, Calls Try.prog 57 #[.int .i64 ac] w fun e w' => e = .returned (.bool (dec (0 ≤ ac ∧ ac ≤ 4294967295))) ∧ w' = w) := fun w => specIp_any ac w
  have T4 : Hid (∀ w, Calls Try.prog 76 #[.int .i64 fl, .int .i64 0, .int .i64 31] w fun e w' => e = .returned (.bool (dec (0 ≤ fl ∧ fl ≤ 31))) ∧ w' = w) := fun w => specIn_any fl 0 31 w
  have T5 : Hid (∀ w, Calls Try.prog 78 #[.int .i64 wi] w fun e w' => e = .returned (.bool (dec (0 ≤ wi ∧ wi ≤ 65535))) ∧ w' = w) := fun w => specPort_any wi w
  have E : Hid (sgB ⟨sp, dp, sq, ac, fl, wi, da⟩ = ((dec (0 ≤ sp ∧ sp ≤ 65535)) && (dec (0 ≤ dp ∧ dp ≤ 65535)) && (dec (0 ≤ sq ∧ sq ≤ 4294967295)) && (dec (0 ≤ ac ∧ ac ≤ 4294967295)) && (dec (0 ≤ fl ∧ fl ≤ 31)) && (dec (0 ≤ wi ∧ wi ≤ 65535)) && decide ((da.size : Int) ≤ 360))) := rfl
  generalize dec (0 ≤ sp ∧ sp ≤ 65535) = t0 at T0 E
  generalize dec (0 ≤ dp ∧ dp ≤ 65535) = t1 at T1 E
  generalize dec (0 ≤ sq ∧ sq ≤ 4294967295) = t2 at T2 E
  generalize dec (0 ≤ ac ∧ ac ≤ 4294967295) = t3 at T3 E
  generalize dec (0 ≤ fl ∧ fl ≤ 31) = t4 at T4 E
  generalize dec (0 ≤ wi ∧ wi ≤ 65535) = t5 at T5 E
  go_enter Try.func38, Try.ntmps38
  go_wp2_with fail
  refine (T0.out _).mono ?_
  rintro e w1 ⟨rfl, rfl⟩
  cases t0 with
  | false =>
    go_wp2
    go_ret
    exact ⟨by rw [E.out]; first | rfl | (show Ending.returned (.bool false) = _; simp), (Grw.refl _).alloc _⟩
  | true =>
    go_wp2_with fail
    refine (T1.out _).mono ?_
    rintro e w1 ⟨rfl, rfl⟩
    cases t1 with
    | false =>
      go_wp2
      go_ret
      exact ⟨by rw [E.out]; first | rfl | (show Ending.returned (.bool false) = _; simp), (Grw.refl _).alloc _⟩
    | true =>
      go_wp2_with fail
      refine (T2.out _).mono ?_
      rintro e w1 ⟨rfl, rfl⟩
      cases t2 with
      | false =>
        go_wp2
        go_ret
        exact ⟨by rw [E.out]; first | rfl | (show Ending.returned (.bool false) = _; simp), (Grw.refl _).alloc _⟩
      | true =>
        go_wp2_with fail
        refine (T3.out _).mono ?_
        rintro e w1 ⟨rfl, rfl⟩
        cases t3 with
        | false =>
          go_wp2
          go_ret
          exact ⟨by rw [E.out]; first | rfl | (show Ending.returned (.bool false) = _; simp), (Grw.refl _).alloc _⟩
        | true =>
          go_wp2_with fail
          refine (T4.out _).mono ?_
          rintro e w1 ⟨rfl, rfl⟩
          cases t4 with
          | false =>
            go_wp2
            go_ret
            exact ⟨by rw [E.out]; first | rfl | (show Ending.returned (.bool false) = _; simp), (Grw.refl _).alloc _⟩
          | true =>
            go_wp2_with fail
            refine (T5.out _).mono ?_
            rintro e w1 ⟨rfl, rfl⟩
            cases t5 with
            | false =>
              go_wp2
              go_ret
              exact ⟨by rw [E.out]; first | rfl | (show Ending.returned (.bool false) = _; simp), (Grw.refl _).alloc _⟩
            | true =>
              generalize hz : decide ((da.size : Int) ≤ 360) = z at E
              go_wp2
              go_ret
              exact ⟨by rw [E.out]; rfl, (Grw.refl _).alloc _⟩
end Go.Proofs.Ytjammgjmidchmaa
