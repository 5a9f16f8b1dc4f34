/- The program's small functions of flows. -/
import Derived.Test.YtlebblmlbhnppaaGreatFloP
import Derived.Test.YtlebblmlbhnppaaGreatLawF
import Derived.Test.YtlebblmlbhnppaaGreatSmallA
namespace Go.Proofs.YtlebblmlbhnppaaGreat
open Go.RowKit Go.PlainAid Go.Proofs.YtlebblmlbhnppaaGreat.Bt Go.Sort
set_option linter.unusedVariables false
set_option maxRecDepth 20000
theorem mac9_impl (s : ByteArray) (w : World) : Calls Tryz.prog 185 #[.string s] w fun e w' => e = .returned (.bool (dec (s.size = 6))) ∧ w' = w := by
  by_cases h : s.size = 6
  · rw [dec_y h]
    have hz : ((s.size : Int) == 6) = true := by simp; omega
    go_enter Tryz.func185, Tryz.ntmps185
    go_wp2
    go_ret
    exact ⟨rfl, rfl⟩
  · rw [dec_n h]
    have hz : ((s.size : Int) == 6) = false := by simp; omega
    go_enter Tryz.func185, Tryz.ntmps185
    go_wp2
    go_ret
    exact ⟨rfl, rfl⟩
theorem proto9_any (n : Int) (w : World) (hx : n ≤ 9223372036854775807) : Calls Tryz.prog 248 #[.int .i64 n] w fun e w' => e = .returned (.bool (dec (0 ≤ n ∧ n ≤ 255))) ∧ w' = w := by
  have HB : Hid (∀ w, Calls Tryz.prog 225 #[.int .i64 n, .int .i64 1] w fun e w' => e = .returned (.bool (dec (0 ≤ n ∧ n ≤ 255))) ∧ w' = w) := fun w => hasRoom1 n w hx
  generalize dec (0 ≤ n ∧ n ≤ 255) = z at HB ⊢
  go_enter Tryz.func248, Tryz.ntmps248
  go_wp2_with fail
  refine (HB.out _).mono ?_
  rintro e w1 ⟨rfl, hw⟩
  subst hw
  go_wp2
  go_ret
  exact ⟨rfl, rfl⟩
theorem state9_any (n : Int) (w : World) : Calls Tryz.prog 205 #[.int .i64 n] w fun e w' => e = .returned (.bool (dec (1 ≤ n ∧ n ≤ 3))) ∧ w' = w := by
  have HB : Hid (∀ w, Calls Tryz.prog 85 #[.int .i64 n, .int .i64 1, .int .i64 3] w fun e w' => e = .returned (.bool (dec (1 ≤ n ∧ n ≤ 3))) ∧ w' = w) := fun w => between_any n 1 3 w
  generalize dec (1 ≤ n ∧ n ≤ 3) = z at HB ⊢
  go_enter Tryz.func205, Tryz.ntmps205
  go_wp2_with fail
  refine (HB.out _).mono ?_
  rintro e w1 ⟨rfl, hw⟩
  subst hw
  go_wp2
  go_ret
  exact ⟨rfl, rfl⟩
theorem owner9_any (n : Int) (w : World) : Calls Tryz.prog 206 #[.int .i64 n] w fun e w' => e = .returned (.bool (dec (0 ≤ n ∧ n ≤ 10000))) ∧ w' = w := by
  have HB : Hid (∀ w, Calls Tryz.prog 85 #[.int .i64 n, .int .i64 0, .int .i64 10000] w fun e w' => e = .returned (.bool (dec (0 ≤ n ∧ n ≤ 10000))) ∧ w' = w) := fun w => between_any n 0 10000 w
  generalize dec (0 ≤ n ∧ n ≤ 10000) = z at HB ⊢
  go_enter Tryz.func206, Tryz.ntmps206
  go_wp2_with fail
  refine (HB.out _).mono ?_
  rintro e w1 ⟨rfl, hw⟩
  subst hw
  go_wp2
  go_ret
  exact ⟨rfl, rfl⟩
set_option maxHeartbeats 2000000 in
theorem endOK_any (si sp : Int) (w : World) (hsp : sp ≤ 9223372036854775807) :
    Calls Tryz.prog 249 #[.agg #[.int .i64 si, .int .i64 sp]] w fun e w' => e = .returned (.bool (dec (0 ≤ si ∧ si ≤ 4294967295) && dec (0 ≤ sp ∧ sp ≤ 65535))) ∧ Grw w w' := by
  have T0 : Hid (∀ w, Calls Tryz.prog 170 #[.int .i64 si] w fun e w' => e = .returned (.bool (dec (0 ≤ si ∧ si ≤ 4294967295))) ∧ w' = w) := fun w => addressOK_any si w
  have T1 : Hid (∀ w, Calls Tryz.prog 171 #[.int .i64 sp] w fun e w' => e = .returned (.bool (dec (0 ≤ sp ∧ sp ≤ 65535))) ∧ w' = w) := fun w => portOK_any sp w hsp
  obtain ⟨z, hz⟩ : ∃ z, z = (dec (0 ≤ si ∧ si ≤ 4294967295) && dec (0 ≤ sp ∧ sp ≤ 65535)) := ⟨_, rfl⟩
  have E : Hid (z = (dec (0 ≤ si ∧ si ≤ 4294967295) && (dec (0 ≤ sp ∧ sp ≤ 65535)))) := by
    rw [hz]
    rfl
  rw [← hz]
  clear hz
  generalize (dec (0 ≤ si ∧ si ≤ 4294967295)) = t0 at T0 E
  generalize (dec (0 ≤ sp ∧ sp ≤ 65535)) = t1 at T1 E
  go_enter Tryz.func249, Tryz.ntmps249
  go_wp2_with fail
  refine (T0.out _).mono ?_
  rintro e wx1 ⟨rfl, rfl⟩
  cases t0 with
  | false =>
    go_wp2
    go_ret
    exact ⟨by rw [E.out]; rfl, ((Grw.refl _).alloc _)⟩
  | true =>
    go_wp2_with fail
    refine (T1.out _).mono ?_
    rintro e wx2 ⟨rfl, rfl⟩
    cases t1 with
    | false =>
      go_wp2
      go_ret
      exact ⟨by rw [E.out]; rfl, ((Grw.refl _).alloc _)⟩
    | true =>
      go_wp2
      go_ret
      exact ⟨by rw [E.out]; rfl, ((Grw.refl _).alloc _)⟩
set_option maxHeartbeats 2000000 in
theorem endsOK_any (pr si sp di dp : Int) (w : World) (hpr : pr ≤ 9223372036854775807) (hsp : sp ≤ 9223372036854775807) (hdp : dp ≤ 9223372036854775807) :
    Calls Tryz.prog 203 #[.agg #[.int .i64 pr, .int .i64 si, .int .i64 sp, .int .i64 di, .int .i64 dp]] w fun e w' => e = .returned (.bool (enR ⟨pr, si, sp, di, dp⟩)) ∧ Grw w w' := by
  have T0 : Hid (∀ w, Calls Tryz.prog 248 #[.int .i64 pr] w fun e w' => e = .returned (.bool (dec (0 ≤ pr ∧ pr ≤ 255))) ∧ w' = w) := fun w => proto9_any pr w hpr
  have T1 : Hid (∀ w, Calls Tryz.prog 249 #[.agg #[.int .i64 si, .int .i64 sp]] w fun e w' => e = .returned (.bool (dec (0 ≤ si ∧ si ≤ 4294967295) && dec (0 ≤ sp ∧ sp ≤ 65535))) ∧ Grw w w') := fun w => endOK_any si sp w hsp
  have T2 : Hid (∀ w, Calls Tryz.prog 249 #[.agg #[.int .i64 di, .int .i64 dp]] w fun e w' => e = .returned (.bool (dec (0 ≤ di ∧ di ≤ 4294967295) && dec (0 ≤ dp ∧ dp ≤ 65535))) ∧ Grw w w') := fun w => endOK_any di dp w hdp
  obtain ⟨z, hz⟩ : ∃ z, z = (enR ⟨pr, si, sp, di, dp⟩) := ⟨_, rfl⟩
  have E : Hid (z = (dec (0 ≤ pr ∧ pr ≤ 255) && (dec (0 ≤ si ∧ si ≤ 4294967295) && dec (0 ≤ sp ∧ sp ≤ 65535) && (dec (0 ≤ di ∧ di ≤ 4294967295) && dec (0 ≤ dp ∧ dp ≤ 65535))))) := by
    rw [hz]
    rfl
  rw [← hz]
  clear hz
  generalize (dec (0 ≤ pr ∧ pr ≤ 255)) = t0 at T0 E
  generalize (dec (0 ≤ si ∧ si ≤ 4294967295) && dec (0 ≤ sp ∧ sp ≤ 65535)) = t1 at T1 E
  generalize (dec (0 ≤ di ∧ di ≤ 4294967295) && dec (0 ≤ dp ∧ dp ≤ 65535)) = t2 at T2 E
  go_enter Tryz.func203, Tryz.ntmps203
  go_wp2_with fail
  refine (T0.out _).mono ?_
  rintro e wx1 ⟨rfl, rfl⟩
  cases t0 with
  | false =>
    go_wp2
    go_ret
    exact ⟨by rw [E.out]; rfl, ((Grw.refl _).alloc _)⟩
  | true =>
    go_wp2_with fail
    refine (T1.out _).mono ?_
    rintro e wx2 ⟨rfl, bx⟩
    have k0_0 : World.cell? _ ⟨w.heap.size, 0, none⟩ = some (.int .i64 pr) := bx.keep (a := ⟨w.heap.size, 0, none⟩) (v := .int .i64 pr) (by simp [go_sem])
    have k0_1 : World.cell? _ ⟨w.heap.size, 1, none⟩ = some (.int .i64 si) := bx.keep (a := ⟨w.heap.size, 1, none⟩) (v := .int .i64 si) (by simp [go_sem])
    have k0_2 : World.cell? _ ⟨w.heap.size, 2, none⟩ = some (.int .i64 sp) := bx.keep (a := ⟨w.heap.size, 2, none⟩) (v := .int .i64 sp) (by simp [go_sem])
    have k0_3 : World.cell? _ ⟨w.heap.size, 3, none⟩ = some (.int .i64 di) := bx.keep (a := ⟨w.heap.size, 3, none⟩) (v := .int .i64 di) (by simp [go_sem])
    have k0_4 : World.cell? _ ⟨w.heap.size, 4, none⟩ = some (.int .i64 dp) := bx.keep (a := ⟨w.heap.size, 4, none⟩) (v := .int .i64 dp) (by simp [go_sem])
    have BX : Hid (Grw w _) := ((Grw.refl _).alloc _).trans bx
    clear bx
    cases t1 with
    | false =>
      go_wp2
      go_ret
      exact ⟨by rw [E.out]; rfl, BX.out⟩
    | true =>
      go_wp2_with fail
      refine (T2.out _).mono ?_
      rintro e wx3 ⟨rfl, bx⟩
      replace k0_0 := bx.keep k0_0
      replace k0_1 := bx.keep k0_1
      replace k0_2 := bx.keep k0_2
      replace k0_3 := bx.keep k0_3
      replace k0_4 := bx.keep k0_4
      replace BX : Hid (Grw w _) := BX.out.trans bx
      clear bx
      cases t2 with
      | false =>
        go_wp2
        go_ret
        exact ⟨by rw [E.out]; rfl, BX.out⟩
      | true =>
        go_wp2
        go_ret
        exact ⟨by rw [E.out]; rfl, BX.out⟩
set_option maxHeartbeats 1000000 in
theorem endsOf_any (pr : Int) (mc : ByteArray) (si sp di dp st un ow : Int) (w : World) :
    Calls Tryz.prog 204 #[.agg #[.int .i64 pr, .string mc, .int .i64 si, .int .i64 sp, .int .i64 di, .int .i64 dp, .int .i64 st, .int .i64 un, .int .i64 ow]] w fun e w' => e = .returned (.agg #[.int .i64 pr, .int .i64 si, .int .i64 sp, .int .i64 di, .int .i64 dp]) ∧ Grw w w' := by
  go_enter Tryz.func204, Tryz.ntmps204
  go_wp2
  (try simp only [Exit.inBlock, Exit.then])
  refine bodyPost_ret (v := .agg #[.int .i64 pr, .int .i64 si, .int .i64 sp, .int .i64 di, .int .i64 dp]) (by simp [results, Tryz.results204, go_sem]; try rfl) rfl ?_
  exact ⟨rfl, ((Grw.refl _).alloc _).alloc _⟩
set_option maxHeartbeats 1000000 in
theorem turned_any (pr si sp di dp : Int) (w : World) :
    Calls Tryz.prog 250 #[.agg #[.int .i64 pr, .int .i64 si, .int .i64 sp, .int .i64 di, .int .i64 dp]] w fun e w' => e = .returned (.agg #[.int .i64 pr, .int .i64 di, .int .i64 dp, .int .i64 si, .int .i64 sp]) ∧ Grw w w' := by
  go_enter Tryz.func250, Tryz.ntmps250
  go_wp2
  (try simp only [Exit.inBlock, Exit.then])
  refine bodyPost_ret (v := .agg #[.int .i64 pr, .int .i64 di, .int .i64 dp, .int .i64 si, .int .i64 sp]) (by simp [results, Tryz.results250, go_sem]; try rfl) rfl ?_
  exact ⟨rfl, ((Grw.refl _).alloc _).alloc _⟩
set_option maxHeartbeats 2000000 in
theorem flowOK_any (pr : Int) (mc : ByteArray) (si sp di dp st un ow : Int) (w : World) (hpr : pr ≤ 9223372036854775807) (hsp : sp ≤ 9223372036854775807) (hdp : dp ≤ 9223372036854775807) :
    Calls Tryz.prog 154 #[.agg #[.int .i64 pr, .string mc, .int .i64 si, .int .i64 sp, .int .i64 di, .int .i64 dp, .int .i64 st, .int .i64 un, .int .i64 ow]] w fun e w' => e = .returned (.bool (flB ⟨pr, mc, si, sp, di, dp, st, un, ow⟩)) ∧ Grw w w' := by
  have T0 : Hid (∀ w, Calls Tryz.prog 203 #[.agg #[.int .i64 pr, .int .i64 si, .int .i64 sp, .int .i64 di, .int .i64 dp]] w fun e w' => e = .returned (.bool (enR ⟨pr, si, sp, di, dp⟩)) ∧ Grw w w') := fun w => endsOK_any pr si sp di dp w hpr hsp hdp
  have T1 : Hid (∀ w, Calls Tryz.prog 185 #[.string mc] w fun e w' => e = .returned (.bool (dec (mc.size = 6))) ∧ w' = w) := fun w => mac9_impl mc w
  have T2 : Hid (∀ w, Calls Tryz.prog 205 #[.int .i64 st] w fun e w' => e = .returned (.bool (dec (1 ≤ st ∧ st ≤ 3))) ∧ w' = w) := fun w => state9_any st w
  have T3 : Hid (∀ w, Calls Tryz.prog 85 #[.int .i64 un, .int .i64 0, .int .i64 100100] w fun e w' => e = .returned (.bool (dec (0 ≤ un ∧ un ≤ 100100))) ∧ w' = w) := fun w => between_any un 0 100100 w
  have T4 : Hid (∀ w, Calls Tryz.prog 206 #[.int .i64 ow] w fun e w' => e = .returned (.bool (dec (0 ≤ ow ∧ ow ≤ 10000))) ∧ w' = w) := fun w => owner9_any ow w
  have TE : Hid (∀ w, Calls Tryz.prog 204 #[.agg #[.int .i64 pr, .string mc, .int .i64 si, .int .i64 sp, .int .i64 di, .int .i64 dp, .int .i64 st, .int .i64 un, .int .i64 ow]] w fun e w' => e = .returned (.agg #[.int .i64 pr, .int .i64 si, .int .i64 sp, .int .i64 di, .int .i64 dp]) ∧ Grw w w') := fun w => endsOf_any pr mc si sp di dp st un ow w
  obtain ⟨z, hz⟩ : ∃ z, z = (flB ⟨pr, mc, si, sp, di, dp, st, un, ow⟩) := ⟨_, rfl⟩
  have E : Hid (z = (enR ⟨pr, si, sp, di, dp⟩ && (dec (mc.size = 6) && (dec (1 ≤ st ∧ st ≤ 3) && (dec (0 ≤ un ∧ un ≤ 100100) && (dec (0 ≤ ow ∧ ow ≤ 10000))))))) := by
    rw [hz]
    unfold flB enR; dsimp only; ac_rfl
  rw [← hz]
  clear hz
  generalize (enR ⟨pr, si, sp, di, dp⟩) = t0 at T0 E
  generalize (dec (mc.size = 6)) = t1 at T1 E
  generalize (dec (1 ≤ st ∧ st ≤ 3)) = t2 at T2 E
  generalize (dec (0 ≤ un ∧ un ≤ 100100)) = t3 at T3 E
  generalize (dec (0 ≤ ow ∧ ow ≤ 10000)) = t4 at T4 E
  go_enter Tryz.func154, Tryz.ntmps154
  go_wp2_with fail
  refine (TE.out _).mono ?_
  rintro e wx1 ⟨rfl, bx⟩
  have k0_0 : World.cell? _ ⟨w.heap.size, 0, none⟩ = some (.int .i64 pr) := bx.keep (a := ⟨w.heap.size, 0, none⟩) (v := .int .i64 pr) (by simp [go_sem])
  have k0_1 : World.cell? _ ⟨w.heap.size, 1, none⟩ = some (.string mc) := bx.keep (a := ⟨w.heap.size, 1, none⟩) (v := .string mc) (by simp [go_sem])
  have k0_2 : World.cell? _ ⟨w.heap.size, 2, none⟩ = some (.int .i64 si) := bx.keep (a := ⟨w.heap.size, 2, none⟩) (v := .int .i64 si) (by simp [go_sem])
  have k0_3 : World.cell? _ ⟨w.heap.size, 3, none⟩ = some (.int .i64 sp) := bx.keep (a := ⟨w.heap.size, 3, none⟩) (v := .int .i64 sp) (by simp [go_sem])
  have k0_4 : World.cell? _ ⟨w.heap.size, 4, none⟩ = some (.int .i64 di) := bx.keep (a := ⟨w.heap.size, 4, none⟩) (v := .int .i64 di) (by simp [go_sem])
  have k0_5 : World.cell? _ ⟨w.heap.size, 5, none⟩ = some (.int .i64 dp) := bx.keep (a := ⟨w.heap.size, 5, none⟩) (v := .int .i64 dp) (by simp [go_sem])
  have k0_6 : World.cell? _ ⟨w.heap.size, 6, none⟩ = some (.int .i64 st) := bx.keep (a := ⟨w.heap.size, 6, none⟩) (v := .int .i64 st) (by simp [go_sem])
  have k0_7 : World.cell? _ ⟨w.heap.size, 7, none⟩ = some (.int .i64 un) := bx.keep (a := ⟨w.heap.size, 7, none⟩) (v := .int .i64 un) (by simp [go_sem])
  have k0_8 : World.cell? _ ⟨w.heap.size, 8, none⟩ = some (.int .i64 ow) := bx.keep (a := ⟨w.heap.size, 8, none⟩) (v := .int .i64 ow) (by simp [go_sem])
  have BX : Hid (Grw w _) := ((Grw.refl _).alloc _).trans bx
  clear bx
  go_wp2_with fail
  refine (T0.out _).mono ?_
  rintro e wx2 ⟨rfl, bx⟩
  replace k0_0 := bx.keep k0_0
  replace k0_1 := bx.keep k0_1
  replace k0_2 := bx.keep k0_2
  replace k0_3 := bx.keep k0_3
  replace k0_4 := bx.keep k0_4
  replace k0_5 := bx.keep k0_5
  replace k0_6 := bx.keep k0_6
  replace k0_7 := bx.keep k0_7
  replace k0_8 := bx.keep k0_8
  replace BX : Hid (Grw w _) := BX.out.trans bx
  clear bx
  cases t0 with
  | false =>
    go_wp2
    go_ret
    exact ⟨by rw [E.out]; rfl, BX.out⟩
  | true =>
    go_wp2_with fail
    refine (T1.out _).mono ?_
    rintro e wx3 ⟨rfl, rfl⟩
    cases t1 with
    | false =>
      go_wp2
      go_ret
      exact ⟨by rw [E.out]; rfl, BX.out⟩
    | true =>
      go_wp2_with fail
      refine (T2.out _).mono ?_
      rintro e wx4 ⟨rfl, rfl⟩
      cases t2 with
      | false =>
        go_wp2
        go_ret
        exact ⟨by rw [E.out]; rfl, BX.out⟩
      | true =>
        go_wp2_with fail
        refine (T3.out _).mono ?_
        rintro e wx5 ⟨rfl, rfl⟩
        cases t3 with
        | false =>
          go_wp2
          go_ret
          exact ⟨by rw [E.out]; rfl, BX.out⟩
        | true =>
          go_wp2_with fail
          refine (T4.out _).mono ?_
          rintro e wx6 ⟨rfl, rfl⟩
          cases t4 with
          | false =>
            go_wp2
            go_ret
            exact ⟨by rw [E.out]; rfl, BX.out⟩
          | true =>
            go_wp2
            go_ret
            exact ⟨by rw [E.out]; rfl, BX.out⟩
end Go.Proofs.YtlebblmlbhnppaaGreat
