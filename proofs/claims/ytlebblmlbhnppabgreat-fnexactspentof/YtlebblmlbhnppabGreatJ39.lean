/- The program's small functions of flows. The program's flows by their ends: placeOfEnds, flowPlaces, flowsApart, FlowsOK, flowsFault, FlowFind. ConnOK of both sides, right segments of both sides. -/
import Derived.Test.YtlebblmlbhnppabGreatJ37
import Derived.Test.YtlebblmlbhnppabGreatJ34
import Derived.Test.YtlebblmlbhnppabGreatSmallA
import Derived.Deep.RegionHeld3
namespace Go.Proofs.YtlebblmlbhnppabGreat
open Go.RowKit Go.PlainAid Go.Proofs.YtlebblmlbhnppabGreat.Bt Go.Sort
set_option linter.unusedVariables false
set_option maxRecDepth 20000
theorem mac9_impl (s : ByteArray) (w : World) : Calls Tryz.prog 122 #[.string s] w fun e w' => e = .returned (.bool (dec (s.size = 6))) ∧ w' = w := by
  by_cases h : s.size = 6
  · rw [dec_y h]
    have hz : ((s.size : Int) == 6) = true := by simp; omega
    go_enter Tryz.func122, Tryz.ntmps122
    go_wp2
    go_ret
    exact ⟨rfl, rfl⟩
  · rw [dec_n h]
    have hz : ((s.size : Int) == 6) = false := by simp; omega
    go_enter Tryz.func122, Tryz.ntmps122
    go_wp2
    go_ret
    exact ⟨rfl, rfl⟩
theorem proto9_any (n : Int) (w : World) (hx : n ≤ 9223372036854775807) : Calls Tryz.prog 164 #[.int .i64 n] w fun e w' => e = .returned (.bool (dec (0 ≤ n ∧ n ≤ 255))) ∧ w' = w := by
  have HB : Hid (∀ w, Calls Tryz.prog 176 #[.int .i64 n, .int .i64 1] w fun e w' => e = .returned (.bool (dec (0 ≤ n ∧ n ≤ 255))) ∧ w' = w) := fun w => hasRoom1 n w hx
  generalize dec (0 ≤ n ∧ n ≤ 255) = z at HB ⊢
  go_enter Tryz.func164, Tryz.ntmps164
  go_wp2_with fail
  refine (HB.out _).mono ?_
  rintro e w1 ⟨rfl, hw⟩
  subst hw
  go_wp2
  go_ret
  exact ⟨rfl, rfl⟩
theorem state9_any (n : Int) (w : World) : Calls Tryz.prog 131 #[.int .i64 n] w fun e w' => e = .returned (.bool (dec (1 ≤ n ∧ n ≤ 3))) ∧ w' = w := by
  have HB : Hid (∀ w, Calls Tryz.prog 60 #[.int .i64 n, .int .i64 1, .int .i64 3] w fun e w' => e = .returned (.bool (dec (1 ≤ n ∧ n ≤ 3))) ∧ w' = w) := fun w => between_any n 1 3 w
  generalize dec (1 ≤ n ∧ n ≤ 3) = z at HB ⊢
  go_enter Tryz.func131, Tryz.ntmps131
  go_wp2_with fail
  refine (HB.out _).mono ?_
  rintro e w1 ⟨rfl, hw⟩
  subst hw
  go_wp2
  go_ret
  exact ⟨rfl, rfl⟩
theorem owner9_any (n : Int) (w : World) : Calls Tryz.prog 132 #[.int .i64 n] w fun e w' => e = .returned (.bool (dec (0 ≤ n ∧ n ≤ 10000))) ∧ w' = w := by
  have HB : Hid (∀ w, Calls Tryz.prog 60 #[.int .i64 n, .int .i64 0, .int .i64 10000] w fun e w' => e = .returned (.bool (dec (0 ≤ n ∧ n ≤ 10000))) ∧ w' = w) := fun w => between_any n 0 10000 w
  generalize dec (0 ≤ n ∧ n ≤ 10000) = z at HB ⊢
  go_enter Tryz.func132, Tryz.ntmps132
  go_wp2_with fail
  refine (HB.out _).mono ?_
  rintro e w1 ⟨rfl, hw⟩
  subst hw
  go_wp2
  go_ret
  exact ⟨rfl, rfl⟩
set_option maxHeartbeats 2000000 in
theorem endOK_any (si sp : Int) (w : World) (hsp : sp ≤ 9223372036854775807) :
    Calls Tryz.prog 165 #[.agg #[.int .i64 si, .int .i64 sp]] w fun e w' => e = .returned (.bool (dec (0 ≤ si ∧ si ≤ 4294967295) && dec (0 ≤ sp ∧ sp ≤ 65535))) ∧ Grw w w' := by
  have T0 : Hid (∀ w, Calls Tryz.prog 149 #[.int .i64 si] w fun e w' => e = .returned (.bool (dec (0 ≤ si ∧ si ≤ 4294967295))) ∧ w' = w) := fun w => addressOK_any si w
  have T1 : Hid (∀ w, Calls Tryz.prog 169 #[.int .i64 sp] w fun e w' => e = .returned (.bool (dec (0 ≤ sp ∧ sp ≤ 65535))) ∧ w' = w) := fun w => portOK_any sp w hsp
  obtain ⟨z, hz⟩ : ∃ z, z = (dec (0 ≤ si ∧ si ≤ 4294967295) && dec (0 ≤ sp ∧ sp ≤ 65535)) := ⟨_, rfl⟩
  have E : Hid (z = (dec (0 ≤ si ∧ si ≤ 4294967295) && (dec (0 ≤ sp ∧ sp ≤ 65535)))) := by
    rw [hz]
    rfl
  rw [← hz]
  clear hz
  generalize (dec (0 ≤ si ∧ si ≤ 4294967295)) = t0 at T0 E
  generalize (dec (0 ≤ sp ∧ sp ≤ 65535)) = t1 at T1 E
  go_enter Tryz.func165, Tryz.ntmps165
  go_wp2_with fail
  refine (T0.out _).mono ?_
  rintro e wx1 ⟨rfl, rfl⟩
  cases t0 with
  | false =>
    go_wp2
    go_ret
    exact ⟨by rw [E.out]; rfl, ((Grw.refl _).alloc _)⟩
  | true =>
    go_wp2_with fail
    refine (T1.out _).mono ?_
    rintro e wx2 ⟨rfl, rfl⟩
    cases t1 with
    | false =>
      go_wp2
      go_ret
      exact ⟨by rw [E.out]; rfl, ((Grw.refl _).alloc _)⟩
    | true =>
      go_wp2
      go_ret
      exact ⟨by rw [E.out]; rfl, ((Grw.refl _).alloc _)⟩
set_option maxHeartbeats 2000000 in
theorem endsOK_any (pr si sp di dp : Int) (w : World) (hpr : pr ≤ 9223372036854775807) (hsp : sp ≤ 9223372036854775807) (hdp : dp ≤ 9223372036854775807) :
    Calls Tryz.prog 129 #[.agg #[.int .i64 pr, .int .i64 si, .int .i64 sp, .int .i64 di, .int .i64 dp]] w fun e w' => e = .returned (.bool (enR ⟨pr, si, sp, di, dp⟩)) ∧ Grw w w' := by
  have T0 : Hid (∀ w, Calls Tryz.prog 164 #[.int .i64 pr] w fun e w' => e = .returned (.bool (dec (0 ≤ pr ∧ pr ≤ 255))) ∧ w' = w) := fun w => proto9_any pr w hpr
  have T1 : Hid (∀ w, Calls Tryz.prog 165 #[.agg #[.int .i64 si, .int .i64 sp]] w fun e w' => e = .returned (.bool (dec (0 ≤ si ∧ si ≤ 4294967295) && dec (0 ≤ sp ∧ sp ≤ 65535))) ∧ Grw w w') := fun w => endOK_any si sp w hsp
  have T2 : Hid (∀ w, Calls Tryz.prog 165 #[.agg #[.int .i64 di, .int .i64 dp]] w fun e w' => e = .returned (.bool (dec (0 ≤ di ∧ di ≤ 4294967295) && dec (0 ≤ dp ∧ dp ≤ 65535))) ∧ Grw w w') := fun w => endOK_any di dp w hdp
  obtain ⟨z, hz⟩ : ∃ z, z = (enR ⟨pr, si, sp, di, dp⟩) := ⟨_, rfl⟩
  have E : Hid (z = (dec (0 ≤ pr ∧ pr ≤ 255) && (dec (0 ≤ si ∧ si ≤ 4294967295) && dec (0 ≤ sp ∧ sp ≤ 65535) && (dec (0 ≤ di ∧ di ≤ 4294967295) && dec (0 ≤ dp ∧ dp ≤ 65535))))) := by
    rw [hz]
    rfl
  rw [← hz]
  clear hz
  generalize (dec (0 ≤ pr ∧ pr ≤ 255)) = t0 at T0 E
  generalize (dec (0 ≤ si ∧ si ≤ 4294967295) && dec (0 ≤ sp ∧ sp ≤ 65535)) = t1 at T1 E
  generalize (dec (0 ≤ di ∧ di ≤ 4294967295) && dec (0 ≤ dp ∧ dp ≤ 65535)) = t2 at T2 E
  go_enter Tryz.func129, Tryz.ntmps129
  go_wp2_with fail
  refine (T0.out _).mono ?_
  rintro e wx1 ⟨rfl, rfl⟩
  cases t0 with
  | false =>
    go_wp2
    go_ret
    exact ⟨by rw [E.out]; rfl, ((Grw.refl _).alloc _)⟩
  | true =>
    go_wp2_with fail
    refine (T1.out _).mono ?_
    rintro e wx2 ⟨rfl, bx⟩
    have k0_0 : World.cell? _ ⟨w.heap.size, 0, none⟩ = some (.int .i64 pr) := bx.keep (a := ⟨w.heap.size, 0, none⟩) (v := .int .i64 pr) (by simp [go_sem])
    have k0_1 : World.cell? _ ⟨w.heap.size, 1, none⟩ = some (.int .i64 si) := bx.keep (a := ⟨w.heap.size, 1, none⟩) (v := .int .i64 si) (by simp [go_sem])
    have k0_2 : World.cell? _ ⟨w.heap.size, 2, none⟩ = some (.int .i64 sp) := bx.keep (a := ⟨w.heap.size, 2, none⟩) (v := .int .i64 sp) (by simp [go_sem])
    have k0_3 : World.cell? _ ⟨w.heap.size, 3, none⟩ = some (.int .i64 di) := bx.keep (a := ⟨w.heap.size, 3, none⟩) (v := .int .i64 di) (by simp [go_sem])
    have k0_4 : World.cell? _ ⟨w.heap.size, 4, none⟩ = some (.int .i64 dp) := bx.keep (a := ⟨w.heap.size, 4, none⟩) (v := .int .i64 dp) (by simp [go_sem])
    have BX : Hid (Grw w _) := ((Grw.refl _).alloc _).trans bx
    clear bx
    cases t1 with
    | false =>
      go_wp2
      go_ret
      exact ⟨by rw [E.out]; rfl, BX.out⟩
    | true =>
      go_wp2_with fail
      refine (T2.out _).mono ?_
      rintro e wx3 ⟨rfl, bx⟩
      replace k0_0 := bx.keep k0_0
      replace k0_1 := bx.keep k0_1
      replace k0_2 := bx.keep k0_2
      replace k0_3 := bx.keep k0_3
      replace k0_4 := bx.keep k0_4
      replace BX : Hid (Grw w _) := BX.out.trans bx
      clear bx
      cases t2 with
      | false =>
        go_wp2
        go_ret
        exact ⟨by rw [E.out]; rfl, BX.out⟩
      | true =>
        go_wp2
        go_ret
        exact ⟨by rw [E.out]; rfl, BX.out⟩
set_option maxHeartbeats 1000000 in
theorem endsOf_any (pr : Int) (mc : ByteArray) (si sp di dp st un ow : Int) (w : World) :
    Calls Tryz.prog 130 #[.agg #[.int .i64 pr, .string mc, .int .i64 si, .int .i64 sp, .int .i64 di, .int .i64 dp, .int .i64 st, .int .i64 un, .int .i64 ow]] w fun e w' => e = .returned (.agg #[.int .i64 pr, .int .i64 si, .int .i64 sp, .int .i64 di, .int .i64 dp]) ∧ Grw w w' := by
  go_enter Tryz.func130, Tryz.ntmps130
  go_wp2
  (try simp only [Exit.inBlock, Exit.then])
  refine bodyPost_ret (v := .agg #[.int .i64 pr, .int .i64 si, .int .i64 sp, .int .i64 di, .int .i64 dp]) (by simp [results, Tryz.results130, go_sem]; try rfl) rfl ?_
  exact ⟨rfl, ((Grw.refl _).alloc _).alloc _⟩
set_option maxHeartbeats 1000000 in
theorem turned_any (pr si sp di dp : Int) (w : World) :
    Calls Tryz.prog 166 #[.agg #[.int .i64 pr, .int .i64 si, .int .i64 sp, .int .i64 di, .int .i64 dp]] w fun e w' => e = .returned (.agg #[.int .i64 pr, .int .i64 di, .int .i64 dp, .int .i64 si, .int .i64 sp]) ∧ Grw w w' := by
  go_enter Tryz.func166, Tryz.ntmps166
  go_wp2
  (try simp only [Exit.inBlock, Exit.then])
  refine bodyPost_ret (v := .agg #[.int .i64 pr, .int .i64 di, .int .i64 dp, .int .i64 si, .int .i64 sp]) (by simp [results, Tryz.results166, go_sem]; try rfl) rfl ?_
  exact ⟨rfl, ((Grw.refl _).alloc _).alloc _⟩
set_option maxHeartbeats 2000000 in
theorem flowOK_any (pr : Int) (mc : ByteArray) (si sp di dp st un ow : Int) (w : World) (hpr : pr ≤ 9223372036854775807) (hsp : sp ≤ 9223372036854775807) (hdp : dp ≤ 9223372036854775807) :
    Calls Tryz.prog 96 #[.agg #[.int .i64 pr, .string mc, .int .i64 si, .int .i64 sp, .int .i64 di, .int .i64 dp, .int .i64 st, .int .i64 un, .int .i64 ow]] w fun e w' => e = .returned (.bool (flB ⟨pr, mc, si, sp, di, dp, st, un, ow⟩)) ∧ Grw w w' := by
  have T0 : Hid (∀ w, Calls Tryz.prog 129 #[.agg #[.int .i64 pr, .int .i64 si, .int .i64 sp, .int .i64 di, .int .i64 dp]] w fun e w' => e = .returned (.bool (enR ⟨pr, si, sp, di, dp⟩)) ∧ Grw w w') := fun w => endsOK_any pr si sp di dp w hpr hsp hdp
  have T1 : Hid (∀ w, Calls Tryz.prog 122 #[.string mc] w fun e w' => e = .returned (.bool (dec (mc.size = 6))) ∧ w' = w) := fun w => mac9_impl mc w
  have T2 : Hid (∀ w, Calls Tryz.prog 131 #[.int .i64 st] w fun e w' => e = .returned (.bool (dec (1 ≤ st ∧ st ≤ 3))) ∧ w' = w) := fun w => state9_any st w
  have T3 : Hid (∀ w, Calls Tryz.prog 60 #[.int .i64 un, .int .i64 0, .int .i64 100100] w fun e w' => e = .returned (.bool (dec (0 ≤ un ∧ un ≤ 100100))) ∧ w' = w) := fun w => between_any un 0 100100 w
  have T4 : Hid (∀ w, Calls Tryz.prog 132 #[.int .i64 ow] w fun e w' => e = .returned (.bool (dec (0 ≤ ow ∧ ow ≤ 10000))) ∧ w' = w) := fun w => owner9_any ow w
  have TE : Hid (∀ w, Calls Tryz.prog 130 #[.agg #[.int .i64 pr, .string mc, .int .i64 si, .int .i64 sp, .int .i64 di, .int .i64 dp, .int .i64 st, .int .i64 un, .int .i64 ow]] w fun e w' => e = .returned (.agg #[.int .i64 pr, .int .i64 si, .int .i64 sp, .int .i64 di, .int .i64 dp]) ∧ Grw w w') := fun w => endsOf_any pr mc si sp di dp st un ow w
  obtain ⟨z, hz⟩ : ∃ z, z = (flB ⟨pr, mc, si, sp, di, dp, st, un, ow⟩) := ⟨_, rfl⟩
  have E : Hid (z = (enR ⟨pr, si, sp, di, dp⟩ && (dec (mc.size = 6) && (dec (1 ≤ st ∧ st ≤ 3) && (dec (0 ≤ un ∧ un ≤ 100100) && (dec (0 ≤ ow ∧ ow ≤ 10000))))))) := by
    rw [hz]
    unfold flB enR; dsimp only; ac_rfl
  rw [← hz]
  clear hz
  generalize (enR ⟨pr, si, sp, di, dp⟩) = t0 at T0 E
  generalize (dec (mc.size = 6)) = t1 at T1 E
  generalize (dec (1 ≤ st ∧ st ≤ 3)) = t2 at T2 E
  generalize (dec (0 ≤ un ∧ un ≤ 100100)) = t3 at T3 E
  generalize (dec (0 ≤ ow ∧ ow ≤ 10000)) = t4 at T4 E
  go_enter Tryz.func96, Tryz.ntmps96
  go_wp2_with fail
  refine (TE.out _).mono ?_
  rintro e wx1 ⟨rfl, bx⟩
  have k0_0 : World.cell? _ ⟨w.heap.size, 0, none⟩ = some (.int .i64 pr) := bx.keep (a := ⟨w.heap.size, 0, none⟩) (v := .int .i64 pr) (by simp [go_sem])
  have k0_1 : World.cell? _ ⟨w.heap.size, 1, none⟩ = some (.string mc) := bx.keep (a := ⟨w.heap.size, 1, none⟩) (v := .string mc) (by simp [go_sem])
  have k0_2 : World.cell? _ ⟨w.heap.size, 2, none⟩ = some (.int .i64 si) := bx.keep (a := ⟨w.heap.size, 2, none⟩) (v := .int .i64 si) (by simp [go_sem])
  have k0_3 : World.cell? _ ⟨w.heap.size, 3, none⟩ = some (.int .i64 sp) := bx.keep (a := ⟨w.heap.size, 3, none⟩) (v := .int .i64 sp) (by simp [go_sem])
  have k0_4 : World.cell? _ ⟨w.heap.size, 4, none⟩ = some (.int .i64 di) := bx.keep (a := ⟨w.heap.size, 4, none⟩) (v := .int .i64 di) (by simp [go_sem])
  have k0_5 : World.cell? _ ⟨w.heap.size, 5, none⟩ = some (.int .i64 dp) := bx.keep (a := ⟨w.heap.size, 5, none⟩) (v := .int .i64 dp) (by simp [go_sem])
  have k0_6 : World.cell? _ ⟨w.heap.size, 6, none⟩ = some (.int .i64 st) := bx.keep (a := ⟨w.heap.size, 6, none⟩) (v := .int .i64 st) (by simp [go_sem])
  have k0_7 : World.cell? _ ⟨w.heap.size, 7, none⟩ = some (.int .i64 un) := bx.keep (a := ⟨w.heap.size, 7, none⟩) (v := .int .i64 un) (by simp [go_sem])
  have k0_8 : World.cell? _ ⟨w.heap.size, 8, none⟩ = some (.int .i64 ow) := bx.keep (a := ⟨w.heap.size, 8, none⟩) (v := .int .i64 ow) (by simp [go_sem])
  have BX : Hid (Grw w _) := ((Grw.refl _).alloc _).trans bx
  clear bx
  go_wp2_with fail
  refine (T0.out _).mono ?_
  rintro e wx2 ⟨rfl, bx⟩
  replace k0_0 := bx.keep k0_0
  replace k0_1 := bx.keep k0_1
  replace k0_2 := bx.keep k0_2
  replace k0_3 := bx.keep k0_3
  replace k0_4 := bx.keep k0_4
  replace k0_5 := bx.keep k0_5
  replace k0_6 := bx.keep k0_6
  replace k0_7 := bx.keep k0_7
  replace k0_8 := bx.keep k0_8
  replace BX : Hid (Grw w _) := BX.out.trans bx
  clear bx
  cases t0 with
  | false =>
    go_wp2
    go_ret
    exact ⟨by rw [E.out]; rfl, BX.out⟩
  | true =>
    go_wp2_with fail
    refine (T1.out _).mono ?_
    rintro e wx3 ⟨rfl, rfl⟩
    cases t1 with
    | false =>
      go_wp2
      go_ret
      exact ⟨by rw [E.out]; rfl, BX.out⟩
    | true =>
      go_wp2_with fail
      refine (T2.out _).mono ?_
      rintro e wx4 ⟨rfl, rfl⟩
      cases t2 with
      | false =>
        go_wp2
        go_ret
        exact ⟨by rw [E.out]; rfl, BX.out⟩
      | true =>
        go_wp2_with fail
        refine (T3.out _).mono ?_
        rintro e wx5 ⟨rfl, rfl⟩
        cases t3 with
        | false =>
          go_wp2
          go_ret
          exact ⟨by rw [E.out]; rfl, BX.out⟩
        | true =>
          go_wp2_with fail
          refine (T4.out _).mono ?_
          rintro e wx6 ⟨rfl, rfl⟩
          cases t4 with
          | false =>
            go_wp2
            go_ret
            exact ⟨by rw [E.out]; rfl, BX.out⟩
          | true =>
            go_wp2
            go_ret
            exact ⟨by rw [E.out]; rfl, BX.out⟩
end Go.Proofs.YtlebblmlbhnppabGreat

namespace Go.Proofs.YtlebblmlbhnppabGreat
open Go.RowKit Go.PlainAid Go.Proofs.YtlebblmlbhnppabGreat.Bt Go.Sort
set_option linter.unusedVariables false
set_option maxRecDepth 20000

theorem wf_leF {n : Int} (h : (Lit.int .i64 n).wf = true) : n ≤ 9223372036854775807 := by
  have : IntKind.i64.min = -9223372036854775808 := by decide
  have : IntKind.i64.max = 9223372036854775807 := by decide
  simp [Lit.wf] at h
  omega
theorem nat_wf {k : Nat} (h : k ≤ 4096) : (Lit.int .i64 (k : Int)).wf = true := by
  have : IntKind.i64.min = -9223372036854775808 := by decide
  have : IntKind.i64.max = 9223372036854775807 := by decide
  simp [Lit.wf]
  omega
set_option maxHeartbeats 1000000 in
theorem placeOfEnds_any (b n : Nat) (M : EnV → Option Int) (pr si sp di dp : Int) (w : World) (h : OwnM w b n M) (he : EnOk ⟨pr, si, sp, di, dp⟩) :
    Calls Tryz.prog 133 #[.map (some b), .agg #[.int .i64 pr, .int .i64 si, .int .i64 sp, .int .i64 di, .int .i64 dp]] w fun e w' => e = .returned (.tuple #[.int .i64 (fkK M ⟨pr, si, sp, di, dp⟩), .bool (fkB M ⟨pr, si, sp, di, dp⟩), .bool (fkT M ⟨pr, si, sp, di, dp⟩)]) ∧ Grw w w' := by
  have HO : Hid (OwnM w b n M) := h
  have HT : Hid (∀ w, Calls Tryz.prog 166 #[.agg #[.int .i64 pr, .int .i64 si, .int .i64 sp, .int .i64 di, .int .i64 dp]] w fun e w' => e = .returned (.agg #[.int .i64 pr, .int .i64 di, .int .i64 dp, .int .i64 si, .int .i64 sp]) ∧ Grw w w') := fun w => turned_any pr si sp di dp w
  have L1 : (Instr.lookup 197 (.map (some b)) (.agg #[.int .i64 pr, .int .i64 si, .int .i64 sp, .int .i64 di, .int .i64 dp]) true).run Tryz.prog (w.alloc (.cells #[.int .i64 pr, .int .i64 si, .int .i64 sp, .int .i64 di, .int .i64 dp] 195)) = .ok (.tuple #[.int .i64 ((M ⟨pr, si, sp, di, dp⟩).getD 0), .bool (M ⟨pr, si, sp, di, dp⟩).isSome]) (w.alloc (.cells #[.int .i64 pr, .int .i64 si, .int .i64 sp, .int .i64 di, .int .i64 dp] 195)) := (h.alloc _).look he
  have L2 : Hid (∀ w2, OwnM w2 b n M → (Instr.lookup 197 (.map (some b)) (.agg #[.int .i64 pr, .int .i64 di, .int .i64 dp, .int .i64 si, .int .i64 sp]) true).run Tryz.prog w2 = .ok (.tuple #[.int .i64 ((M (enT ⟨pr, si, sp, di, dp⟩)).getD 0), .bool (M (enT ⟨pr, si, sp, di, dp⟩)).isSome]) w2) := fun w2 h2 => h2.look (e := enT ⟨pr, si, sp, di, dp⟩) (enT_ok he)
  have E1 : fkK M ⟨pr, si, sp, di, dp⟩ = if (M ⟨pr, si, sp, di, dp⟩).isSome then (M ⟨pr, si, sp, di, dp⟩).getD 0 else (M (enT ⟨pr, si, sp, di, dp⟩)).getD 0 := rfl
  have E2 : fkB M ⟨pr, si, sp, di, dp⟩ = if (M ⟨pr, si, sp, di, dp⟩).isSome then false else (M (enT ⟨pr, si, sp, di, dp⟩)).isSome := rfl
  have E3 : fkT M ⟨pr, si, sp, di, dp⟩ = ((M ⟨pr, si, sp, di, dp⟩).isSome || (M (enT ⟨pr, si, sp, di, dp⟩)).isSome) := rfl
  clear h he
  generalize hx : M ⟨pr, si, sp, di, dp⟩ = x at *
  generalize hy : M (enT ⟨pr, si, sp, di, dp⟩) = y at *
  clear hx hy
  cases x with
  | some v =>
    have F1 : Hid (fkK M ⟨pr, si, sp, di, dp⟩ = v) := E1
    have F2 : Hid (fkB M ⟨pr, si, sp, di, dp⟩ = false) := E2
    have F3 : Hid (fkT M ⟨pr, si, sp, di, dp⟩ = true) := E3
    clear E1 E2 E3
    have L1' : (Instr.lookup 197 (.map (some b)) (.agg #[.int .i64 pr, .int .i64 si, .int .i64 sp, .int .i64 di, .int .i64 dp]) true).run Tryz.prog (w.alloc (.cells #[.int .i64 pr, .int .i64 si, .int .i64 sp, .int .i64 di, .int .i64 dp] 195)) = .ok (.tuple #[.int .i64 v, .bool true]) (w.alloc (.cells #[.int .i64 pr, .int .i64 si, .int .i64 sp, .int .i64 di, .int .i64 dp] 195)) := L1
    clear L1
    go_enter Tryz.func133, Tryz.ntmps133
    go_wp2
    go_ret3
    exact ⟨by rw [F1.out, F2.out, F3.out]; rfl, (Grw.refl _).alloc _⟩
  | none =>
    have F1 : Hid (fkK M ⟨pr, si, sp, di, dp⟩ = y.getD 0) := E1
    have F2 : Hid (fkB M ⟨pr, si, sp, di, dp⟩ = y.isSome) := E2
    have F3 : Hid (fkT M ⟨pr, si, sp, di, dp⟩ = y.isSome) := by
      show _ = _
      have := E3
      simpa using this
    clear E1 E2 E3
    have L1' : (Instr.lookup 197 (.map (some b)) (.agg #[.int .i64 pr, .int .i64 si, .int .i64 sp, .int .i64 di, .int .i64 dp]) true).run Tryz.prog (w.alloc (.cells #[.int .i64 pr, .int .i64 si, .int .i64 sp, .int .i64 di, .int .i64 dp] 195)) = .ok (.tuple #[.int .i64 0, .bool false]) (w.alloc (.cells #[.int .i64 pr, .int .i64 si, .int .i64 sp, .int .i64 di, .int .i64 dp] 195)) := L1
    clear L1
    generalize y.getD 0 = v at *
    generalize y.isSome = q at *
    go_enter Tryz.func133, Tryz.ntmps133
    go_wp2_with fail
    refine (HT.out _).mono ?_
    rintro e w2 ⟨rfl, g2⟩
    have L3 := L2.out w2 ((HO.out.alloc _).now g2.below)
    have HG : Hid (Grw w w2) := ((Grw.refl _).alloc _).trans g2
    clear g2 L2 HO
    go_wp2
    go_ret3
    exact ⟨by rw [F1.out, F2.out, F3.out]; rfl, HG.out⟩
set_option maxHeartbeats 4000000 in
theorem flowsApart_any (a : Option Addr) (len cap : Nat) (fs : List FlowV) (w : World) (h : Rw FlR 9 w a fs) (hok : ∀ x, x ∈ fs → FlRok x) (hl : fs.length = len) (hm : len ≤ 4096) :
    Calls Tryz.prog 97 #[.slice a len cap] w fun e w' => e = .returned (.bool (apB fs)) ∧ Below w.heap.size w w' := by
  have RW : Hid (Rw FlR 9 w a fs) := h
  have HK : Hid (∀ x, x ∈ fs → FlRok x) := hok
  clear h hok
  have hmm := @run_makeMap Tryz.prog
  go_enter Tryz.func97, Tryz.ntmps97
  go_wp2
  go_loopw [12] (fun x wr => ∃ k : Nat, k ≤ len ∧ x = .int .i64 k ∧ Hid (apOk fs k) ∧ Hid (OwnM wr w.heap.size k (plM fs k) ∧ Below w.heap.size w wr)) (fun x _ => len - (intOf x).toNat)
  case atStart => exact ⟨0, Nat.zero_le _, rfl, apOk_zero fs, OwnM.made w, (Below.refl _ _).alloc (Nat.le_refl _) _⟩
  case round =>
    obtain ⟨k, hk, rfl, HA, HG⟩ := hrel
    by_cases hlt : k < len
    · obtain ⟨x, hx⟩ := at_of hl hlt
      have hltz : (k : Int) < (len : Int) := by omega
      have HS : Hid (plM fs (k + 1) = upM (plM fs k) (enOf x) (some (k : Int))) := plM_step hx
      obtain ⟨b, off, vs, rfl, hb, hvl, hR, hc⟩ := RW.out.at FR.kp HG.out.2 hx
      have HKx := HK.out _ (List.mem_of_getElem? hx)
      obtain ⟨pr, mc, si, sp, di, dp, st, un, ow⟩ := x
      obtain ⟨rfl, -⟩ := hR
      have q0 : wr.cell? ⟨b, off + k * 9, none⟩ = some (.int .i64 pr) := hc 0 _ rfl
      have q1 : wr.cell? ⟨b, off + k * 9 + 1, none⟩ = some (.string mc) := hc 1 _ rfl
      have q2 : wr.cell? ⟨b, off + k * 9 + 2, none⟩ = some (.int .i64 si) := hc 2 _ rfl
      have q3 : wr.cell? ⟨b, off + k * 9 + 3, none⟩ = some (.int .i64 sp) := hc 3 _ rfl
      have q4 : wr.cell? ⟨b, off + k * 9 + 4, none⟩ = some (.int .i64 di) := hc 4 _ rfl
      have q5 : wr.cell? ⟨b, off + k * 9 + 5, none⟩ = some (.int .i64 dp) := hc 5 _ rfl
      have q6 : wr.cell? ⟨b, off + k * 9 + 6, none⟩ = some (.int .i64 st) := hc 6 _ rfl
      have q7 : wr.cell? ⟨b, off + k * 9 + 7, none⟩ = some (.int .i64 un) := hc 7 _ rfl
      have q8 : wr.cell? ⟨b, off + k * 9 + 8, none⟩ = some (.int .i64 ow) := hc 8 _ rfl
      clear hc hvl
      have HE : Hid (∀ w, Calls Tryz.prog 130 #[.agg #[.int .i64 pr, .string mc, .int .i64 si, .int .i64 sp, .int .i64 di, .int .i64 dp, .int .i64 st, .int .i64 un, .int .i64 ow]] w fun e w' => e = .returned (.agg #[.int .i64 pr, .int .i64 si, .int .i64 sp, .int .i64 di, .int .i64 dp]) ∧ Grw w w') := fun w => endsOf_any pr mc si sp di dp st un ow w
      have HP : Hid (∀ w2, OwnM w2 w.heap.size k (plM fs k) → Calls Tryz.prog 133 #[.map (some w.heap.size), .agg #[.int .i64 pr, .int .i64 si, .int .i64 sp, .int .i64 di, .int .i64 dp]] w2 fun e w' => e = .returned (.tuple #[.int .i64 (fkK (plM fs k) ⟨pr, si, sp, di, dp⟩), .bool (fkB (plM fs k) ⟨pr, si, sp, di, dp⟩), .bool (fkT (plM fs k) ⟨pr, si, sp, di, dp⟩)]) ∧ Grw w2 w') := fun w2 h2 => placeOfEnds_any w.heap.size k (plM fs k) pr si sp di dp w2 h2 (enOf_ok HKx)
      have HQ : Hid (fkT (plM fs k) ⟨pr, si, sp, di, dp⟩ = false → apOk fs (k + 1)) := fun h => apOk_step HA.out hx (fk_there h)
      have HN : Hid (fkT (plM fs k) ⟨pr, si, sp, di, dp⟩ = true → apB fs = false) := fun h => apB_no (fun h2 => by
        have := fk_none (h2 k _ (by omega) hx)
        rw [show enOf ⟨pr, mc, si, sp, di, dp, st, un, ow⟩ = ⟨pr, si, sp, di, dp⟩ from rfl, h] at this
        cases this)
      generalize fkK (plM fs k) ⟨pr, si, sp, di, dp⟩ = z0 at HP
      generalize fkB (plM fs k) ⟨pr, si, sp, di, dp⟩ = z1 at HP
      generalize fkT (plM fs k) ⟨pr, si, sp, di, dp⟩ = z2 at HP HQ HN
      clear hx HA
      go_wp2_with fail
      refine (HE.out _).mono ?_
      rintro e w2 ⟨rfl, g2⟩
      have b2 : Below w.heap.size w w2 := (HG.out.2.alloc HG.out.2.size _).trans (g2.below.mono (by have := HG.out.2.size; simp; omega))
      have o2 : OwnM w2 w.heap.size k (plM fs k) := (HG.out.1.alloc _).now g2.below
      have k0 : w2.cell? ⟨wr.heap.size, 0, none⟩ = some (.int .i64 pr) := g2.keep (by simp)
      have k1 : w2.cell? ⟨wr.heap.size, 1, none⟩ = some (.string mc) := g2.keep (by simp)
      have k2 : w2.cell? ⟨wr.heap.size, 2, none⟩ = some (.int .i64 si) := g2.keep (by simp)
      have k3 : w2.cell? ⟨wr.heap.size, 3, none⟩ = some (.int .i64 sp) := g2.keep (by simp)
      have k4 : w2.cell? ⟨wr.heap.size, 4, none⟩ = some (.int .i64 di) := g2.keep (by simp)
      have k5 : w2.cell? ⟨wr.heap.size, 5, none⟩ = some (.int .i64 dp) := g2.keep (by simp)
      have k6 : w2.cell? ⟨wr.heap.size, 6, none⟩ = some (.int .i64 st) := g2.keep (by simp)
      have k7 : w2.cell? ⟨wr.heap.size, 7, none⟩ = some (.int .i64 un) := g2.keep (by simp)
      have k8 : w2.cell? ⟨wr.heap.size, 8, none⟩ = some (.int .i64 ow) := g2.keep (by simp)
      have H2 : Hid (OwnM w2 w.heap.size k (plM fs k) ∧ Below w.heap.size w w2) := ⟨o2, b2⟩
      clear g2 b2 o2 HG q0 q1 q2 q3 q4 q5 q6 q7 q8
      go_wp2_with fail
      refine (HP.out _ H2.out.1).mono ?_
      rintro e w3 ⟨rfl, g3⟩
      replace k0 := g3.keep k0
      replace k1 := g3.keep k1
      replace k2 := g3.keep k2
      replace k3 := g3.keep k3
      replace k4 := g3.keep k4
      replace k5 := g3.keep k5
      replace k6 := g3.keep k6
      replace k7 := g3.keep k7
      replace k8 := g3.keep k8
      have H3 : Hid (OwnM w3 w.heap.size k (plM fs k) ∧ Below w.heap.size w w3) := ⟨H2.out.1.now g3.below, H2.out.2.trans (g3.below.mono H2.out.2.size)⟩
      clear g3 H2 HP
      cases z2 with
      | true =>
        have hd : Hid (apB fs = false) := HN.out rfl
        clear HN HQ
        go_wp2
        go_ret
        exact ⟨by rw [hd.out]; rfl, H3.out.2⟩
      | false =>
        have HA2 : Hid (apOk fs (k + 1)) := HQ.out rfl
        clear HN HQ
        go_wp2_with fail
        refine (HE.out _).mono ?_
        rintro e w4 ⟨rfl, g4⟩
        have b4 : Below w.heap.size w w4 := H3.out.2.trans (g4.below.mono H3.out.2.size)
        have o4 : OwnM w4 w.heap.size k (plM fs k) := H3.out.1.now g4.below
        obtain ⟨w7, hupd, o7, g7⟩ := o4.update (e := enOf ⟨pr, mc, si, sp, di, dp, st, un, ow⟩) (enOf_ok HKx) (k : Int) (nat_wf (by omega)) (by unfold maxLen; omega)
        have hupd' : (Instr.mapUpdate 197 (.map (some w.heap.size)) (.agg #[.int .i64 pr, .int .i64 si, .int .i64 sp, .int .i64 di, .int .i64 dp]) (.int .i64 (k : Int))).run Tryz.prog w4 = .ok () w7 := hupd
        have HG7 : Hid (OwnM w7 w.heap.size (k + 1) (plM fs (k + 1)) ∧ Below w.heap.size w w7) := ⟨by rw [HS.out]; exact o7, b4.grown g7 b4.size (fun k hk => by cases hk; exact Nat.le_refl _)⟩
        clear o7 g7 hupd g4 b4 o4 H3 HE HS HKx k0 k1 k2 k3 k4 k5 k6 k7 k8
        go_wp2
        go_roundw
        case rel => exact ⟨k + 1, by omega, by go_num, HA2, HG7⟩
        case measure => simp [intOf]; omega
    · obtain rfl : k = len := by omega
      have hd : Hid (apB fs = true) := apB_yes (by rw [hl]; exact HA.out)
      go_wp2
      go_ret
      exact ⟨by rw [hd.out]; rfl, HG.out.2⟩
set_option maxHeartbeats 4000000 in
theorem implFlowsOK_any (a : Option Addr) (len cap : Nat) (fs : List FlowV) (w : World) (h : Rw FlR 9 w a fs) (hok : ∀ x, x ∈ fs → FlRok x) (hl : fs.length = len) (hm : len ≤ 1048576) :
    Calls Tryz.prog 56 #[.slice a len cap] w fun e w' => e = .returned (.bool (foB fs)) ∧ Below w.heap.size w w' := by
  have RW : Hid (Rw FlR 9 w a fs) := h
  have HK : Hid (∀ x, x ∈ fs → FlRok x) := hok
  by_cases h8 : 8 < len
  · have hz : (8 : Int) < (len : Int) := by omega
    have hd : Hid (foB fs = false) := foB_long (by omega)
    clear h hok
    go_enter Tryz.func56, Tryz.ntmps56
    go_wp2
    go_ret
    exact ⟨by rw [hd.out]; rfl, Below.refl _ _⟩
  have h8z : decide ((8 : Int) < (len : Int)) = false := by simp; omega
  have HA : Hid (∀ w, Rw FlR 9 w a fs → Calls Tryz.prog 97 #[.slice a len cap] w fun e w' => e = .returned (.bool (apB fs)) ∧ Below w.heap.size w w') := fun w h => flowsApart_any a len cap fs w h HK.out hl (by omega)
  clear h hok
  go_enter Tryz.func56, Tryz.ntmps56
  go_wp2
  go_loopw [10] (fun x wr => ∃ k : Nat, k ≤ len ∧ x = .int .i64 k ∧ Hid (alOk fs k) ∧ Hid (Grw w wr)) (fun x _ => len - (intOf x).toNat)
  case atStart => exact ⟨0, Nat.zero_le _, rfl, alOk_zero fs, Grw.refl _⟩
  case round =>
    obtain ⟨k, hk, rfl, HO, HG⟩ := hrel
    by_cases hlt : k < len
    · obtain ⟨x, hx⟩ := at_of hl hlt
      have hltz : (k : Int) < (len : Int) := by omega
      obtain ⟨b, off, vs, rfl, hb, hvl, hR, hc⟩ := RW.out.at FR.kp HG.out.below hx
      have HKx := HK.out _ (List.mem_of_getElem? hx)
      obtain ⟨pr, mc, si, sp, di, dp, st, un, ow⟩ := x
      obtain ⟨rfl, -⟩ := hR
      have q0 : wr.cell? ⟨b, off + k * 9, none⟩ = some (.int .i64 pr) := hc 0 _ rfl
      have q1 : wr.cell? ⟨b, off + k * 9 + 1, none⟩ = some (.string mc) := hc 1 _ rfl
      have q2 : wr.cell? ⟨b, off + k * 9 + 2, none⟩ = some (.int .i64 si) := hc 2 _ rfl
      have q3 : wr.cell? ⟨b, off + k * 9 + 3, none⟩ = some (.int .i64 sp) := hc 3 _ rfl
      have q4 : wr.cell? ⟨b, off + k * 9 + 4, none⟩ = some (.int .i64 di) := hc 4 _ rfl
      have q5 : wr.cell? ⟨b, off + k * 9 + 5, none⟩ = some (.int .i64 dp) := hc 5 _ rfl
      have q6 : wr.cell? ⟨b, off + k * 9 + 6, none⟩ = some (.int .i64 st) := hc 6 _ rfl
      have q7 : wr.cell? ⟨b, off + k * 9 + 7, none⟩ = some (.int .i64 un) := hc 7 _ rfl
      have q8 : wr.cell? ⟨b, off + k * 9 + 8, none⟩ = some (.int .i64 ow) := hc 8 _ rfl
      clear hc hvl
      have HF : Hid (∀ w, Calls Tryz.prog 96 #[.agg #[.int .i64 pr, .string mc, .int .i64 si, .int .i64 sp, .int .i64 di, .int .i64 dp, .int .i64 st, .int .i64 un, .int .i64 ow]] w fun e w' => e = .returned (.bool (flB ⟨pr, mc, si, sp, di, dp, st, un, ow⟩)) ∧ Grw w w') := fun w => flowOK_any pr mc si sp di dp st un ow w (wf_leF HKx.1) (wf_leF HKx.2.2.2.1) (wf_leF HKx.2.2.2.2.2.1)
      clear HKx
      cases hq : flB ⟨pr, mc, si, sp, di, dp, st, un, ow⟩ with
      | false =>
        rw [hq] at HF
        have hd : Hid (foB fs = false) := foB_al hx hq
        clear hq hx HO
        go_wp2_with fail
        refine (HF.out _).mono ?_
        rintro e w2 ⟨rfl, g2⟩
        have HG2 : Hid (Grw w w2) := (HG.out.alloc _).trans g2
        clear g2 HG
        go_wp2
        go_ret
        exact ⟨by rw [hd.out]; rfl, HG2.out.below⟩
      | true =>
        rw [hq] at HF
        have HO2 : Hid (alOk fs (k + 1)) := alOk_step HO.out hx hq
        clear hq hx HO
        go_wp2_with fail
        refine (HF.out _).mono ?_
        rintro e w2 ⟨rfl, g2⟩
        have HG2 : Hid (Grw w w2) := (HG.out.alloc _).trans g2
        clear g2 HG HF q0 q1 q2 q3 q4 q5 q6 q7 q8
        go_wp2
        go_roundw
        case rel => exact ⟨k + 1, by omega, by go_num, HO2, HG2⟩
        case measure => simp [intOf]; omega
    · obtain rfl : k = len := by omega
      have hd : Hid (foB fs = apB fs) := foB_ap (by omega) (by rw [hl]; exact HO.out)
      clear HO
      go_wp2_with fail
      refine (HA.out _ (RW.out.keep FR.kp HG.out.below)).mono ?_
      rintro e w2 ⟨rfl, g2⟩
      have HG2 : Hid (Below w.heap.size w w2) := HG.out.below.trans (g2.mono HG.out.below.size)
      clear g2 HG
      go_wp2
      go_ret
      exact ⟨by rw [hd.out]; rfl, HG2.out⟩
/-- What is alike in the calls with flows. -/
noncomputable def ffC (fs : List FlowV) : Int := if 4096 < fs.length then 2 else if foB fs = false then 1 else 0
structure KeptE (w wx : World) : Prop where
  out : Below w.heap.size w wx
def SE (q : Nat) (pr si sp di dp : Int) (W wx : World) : Prop := wx.cell? ⟨q, 0, none⟩ = some (.int .i64 pr) ∧ wx.cell? ⟨q, 1, none⟩ = some (.int .i64 si) ∧ wx.cell? ⟨q, 2, none⟩ = some (.int .i64 sp) ∧ wx.cell? ⟨q, 3, none⟩ = some (.int .i64 di) ∧ wx.cell? ⟨q, 4, none⟩ = some (.int .i64 dp) ∧ KeptE W wx
theorem SE.below {q : Nat} {pr si sp di dp : Int} {W wx wy : World} (h : SE q pr si sp di dp W wx) (hb : Below wx.heap.size wx wy) : SE q pr si sp di dp W wy :=
  ⟨bkeep hb h.1, bkeep hb h.2.1, bkeep hb h.2.2.1, bkeep hb h.2.2.2.1, bkeep hb h.2.2.2.2.1, ⟨h.2.2.2.2.2.out.trans (hb.mono h.2.2.2.2.2.out.size)⟩⟩
/-- What FlowFind answers. -/
noncomputable def fdC (fs : List FlowV) (e : EnV) : Int := if ffC fs ≠ 0 then ffC fs else if enR e = false then 4 else if fkT (plM fs fs.length) e = false then 5 else 0
noncomputable def fdK (fs : List FlowV) (e : EnV) : Int := if fdC fs e ≠ 0 then 0 else fkK (plM fs fs.length) e
noncomputable def fdB (fs : List FlowV) (e : EnV) : Bool := if fdC fs e ≠ 0 then false else fkB (plM fs fs.length) e
end Go.Proofs.YtlebblmlbhnppabGreat

namespace Go.Proofs.YtlebblmlbhnppabGreat
open Go.RowKit Go.PlainAid Go.Proofs.YtlebblmlbhnppabGreat.Bt Go.Sort
set_option linter.unusedVariables false
set_option maxRecDepth 20000

theorem int_ub {n : Int} (h : (Lit.int .i64 n).wf = true) : n ≤ 9223372036854775807 := by
  have : IntKind.i64.min = -9223372036854775808 := by decide
  have : IntKind.i64.max = 9223372036854775807 := by decide
  simp [Lit.wf] at h
  omega
theorem and3 {a b c : Bool} : (a && b && c) = true → a = true ∧ b = true ∧ c = true := by cases a <;> cases b <;> cases c <;> simp
theorem nuB_bd {c : ConnV} (h : nuB c = true) : (0 ≤ c.ip ∧ c.ip ≤ 4294967295) ∧ (0 ≤ c.po ∧ c.po ≤ 65535) ∧ (0 ≤ c.di ∧ c.di ≤ 4294967295) ∧ (1 ≤ c.st ∧ c.st ≤ 4) ∧ (0 ≤ c.un ∧ c.un ≤ 4294967295) ∧ (0 ≤ c.nx ∧ c.nx ≤ 4294967295) ∧ (0 ≤ c.wa ∧ c.wa ≤ 4294967295) := by
  unfold nuB dec at h
  simp only [Bool.and_eq_true, decide_eq_true_eq] at h
  obtain ⟨⟨⟨⟨⟨⟨a, b⟩, c⟩, d⟩, e⟩, f⟩, g⟩ := h
  exact ⟨a, b, c, d, e, f, g⟩
theorem txB_bd {c : ConnV} (h : txB c = true) : c.mc.size = 6 ∧ c.inn.size ≤ 300 ∧ c.out.size ≤ 300 ∧ (c.st = 1 → c.inn.size = 0) ∧ (c.fin = true ↔ c.st = 3) ∧ (c.fin = false → c.out.size = 0) := by
  unfold txB at h
  simp only [Bool.and_eq_true, Bool.not_eq_true', decide_eq_false_iff_not, beq_iff_eq] at h
  obtain ⟨⟨⟨⟨⟨a, b⟩, d⟩, e⟩, f⟩, g⟩ := h
  have z : ∀ x : ByteArray, (x.toList == []) = true → x.size = 0 := by
    intro x hx
    have h := congrArg List.length (beq_iff_eq.1 hx)
    rw [List.length_nil] at h
    rw [← h]
    simp [ByteArray.toList_eq]
  refine ⟨by omega, by omega, by omega, fun h1 => ?_, ?_, fun h1 => ?_⟩
  · rw [h1] at e
    simp at e
    exact z _ (by rw [e]; rfl)
  · rw [f]
    simp
  · rw [h1] at g
    simp at g
    exact z _ (by rw [g]; rfl)
set_option maxHeartbeats 2000000 in
theorem implConOK_any (mc : ByteArray) (ip po di st un nx wa : Int) (inn out : ByteArray) (fin : Bool) (w : World) (hp : po ≤ 9223372036854775807) (hmc : mc.size ≤ 1048576) (hi : inn.size ≤ 1048576) (ho : out.size ≤ 1048576) :
    Calls Tryz.prog 101 #[.agg #[.string mc, .int .i64 ip, .int .i64 po, .int .i64 di, .int .i64 st, .int .i64 un, .int .i64 nx, .int .i64 wa, .string inn, .string out, .bool fin]] w fun e w' => e = .returned (.bool (okB ⟨mc, ip, po, di, st, un, nx, wa, inn, out, fin⟩)) ∧ Grw w w' := by
  have T0 : Hid (∀ w, Calls Tryz.prog 136 #[.agg #[.string mc, .int .i64 ip, .int .i64 po, .int .i64 di, .int .i64 st, .int .i64 un, .int .i64 nx, .int .i64 wa, .string inn, .string out, .bool fin]] w fun e w' => e = .returned (.bool (nuB ⟨mc, ip, po, di, st, un, nx, wa, inn, out, fin⟩)) ∧ Grw w w') := fun w => conNums_any mc ip po di st un nx wa inn out fin w hp
  have T1 : Hid (∀ w, Calls Tryz.prog 137 #[.agg #[.string mc, .int .i64 ip, .int .i64 po, .int .i64 di, .int .i64 st, .int .i64 un, .int .i64 nx, .int .i64 wa, .string inn, .string out, .bool fin]] w fun e w' => e = .returned (.bool (txB ⟨mc, ip, po, di, st, un, nx, wa, inn, out, fin⟩)) ∧ Grw w w') := fun w => conTexts_any mc ip po di st un nx wa inn out fin w (by omega) (by omega) (by omega)
  have T2 : Hid (∀ w, Calls Tryz.prog 139 #[.agg #[.string mc, .int .i64 ip, .int .i64 po, .int .i64 di, .int .i64 st, .int .i64 un, .int .i64 nx, .int .i64 wa, .string inn, .string out, .bool fin]] w fun e w' => e = .returned (.int .i64 (sentN ⟨mc, ip, po, di, st, un, nx, wa, inn, out, fin⟩)) ∧ Grw w w') := fun w => unack_any mc ip po di st un nx wa inn out fin w ho
  have E : Hid (okB ⟨mc, ip, po, di, st, un, nx, wa, inn, out, fin⟩ = (nuB ⟨mc, ip, po, di, st, un, nx, wa, inn, out, fin⟩ && txB ⟨mc, ip, po, di, st, un, nx, wa, inn, out, fin⟩ && (sqN (nx - un) == sentN ⟨mc, ip, po, di, st, un, nx, wa, inn, out, fin⟩))) := rfl
  have T3 : Hid (nuB ⟨mc, ip, po, di, st, un, nx, wa, inn, out, fin⟩ = true → ∀ w, Calls Tryz.prog 138 #[.int .i64 un, .int .i64 (sentN ⟨mc, ip, po, di, st, un, nx, wa, inn, out, fin⟩)] w fun e w' => e = .returned (.int .i64 (sqN (un + sentN ⟨mc, ip, po, di, st, un, nx, wa, inn, out, fin⟩))) ∧ Grw w w') := fun h w => by
    have h1 := nuB_bd h
    have h2 := sentN_bd ⟨mc, ip, po, di, st, un, nx, wa, inn, out, fin⟩
    dsimp only at h1 h2
    exact toG (seqAfter_any un _ w (by omega) (by omega) (by omega) (by omega))
  have F : Hid (nuB ⟨mc, ip, po, di, st, un, nx, wa, inn, out, fin⟩ = true → txB ⟨mc, ip, po, di, st, un, nx, wa, inn, out, fin⟩ = true → (sqN (nx - un) == sentN ⟨mc, ip, po, di, st, un, nx, wa, inn, out, fin⟩) = (nx == sqN (un + sentN ⟨mc, ip, po, di, st, un, nx, wa, inn, out, fin⟩))) := fun h h' => by
    have h1 := nuB_bd h
    have h3 := txB_bd h'
    have h2 := sentN_bd ⟨mc, ip, po, di, st, un, nx, wa, inn, out, fin⟩
    dsimp only at h1 h2 h3
    generalize sentN ⟨mc, ip, po, di, st, un, nx, wa, inn, out, fin⟩ = z at h2
    rw [Bool.eq_iff_iff, beq_iff_eq, beq_iff_eq]
    unfold sqN
    omega
  generalize nuB ⟨mc, ip, po, di, st, un, nx, wa, inn, out, fin⟩ = t0 at T0 T3 E F
  generalize txB ⟨mc, ip, po, di, st, un, nx, wa, inn, out, fin⟩ = t1 at T1 E F
  generalize sentN ⟨mc, ip, po, di, st, un, nx, wa, inn, out, fin⟩ = z at T2 T3 E F
  generalize sqN (un + z) = z2 at T3 F
  generalize (sqN (nx - un) == z) = t3 at E F
  have B0 : Hid (Grw w (w.alloc (.cells #[.string mc, .int .i64 ip, .int .i64 po, .int .i64 di, .int .i64 st, .int .i64 un, .int .i64 nx, .int .i64 wa, .string inn, .string out, .bool fin] 112))) := (Grw.refl _).alloc _
  have q0 : (w.alloc (.cells #[.string mc, .int .i64 ip, .int .i64 po, .int .i64 di, .int .i64 st, .int .i64 un, .int .i64 nx, .int .i64 wa, .string inn, .string out, .bool fin] 112)).cell? ⟨w.heap.size, 0, none⟩ = some (.string mc) := by simp [go_sem]
  have q1 : (w.alloc (.cells #[.string mc, .int .i64 ip, .int .i64 po, .int .i64 di, .int .i64 st, .int .i64 un, .int .i64 nx, .int .i64 wa, .string inn, .string out, .bool fin] 112)).cell? ⟨w.heap.size, 1, none⟩ = some (.int .i64 ip) := by simp [go_sem]
  have q2 : (w.alloc (.cells #[.string mc, .int .i64 ip, .int .i64 po, .int .i64 di, .int .i64 st, .int .i64 un, .int .i64 nx, .int .i64 wa, .string inn, .string out, .bool fin] 112)).cell? ⟨w.heap.size, 2, none⟩ = some (.int .i64 po) := by simp [go_sem]
  have q3 : (w.alloc (.cells #[.string mc, .int .i64 ip, .int .i64 po, .int .i64 di, .int .i64 st, .int .i64 un, .int .i64 nx, .int .i64 wa, .string inn, .string out, .bool fin] 112)).cell? ⟨w.heap.size, 3, none⟩ = some (.int .i64 di) := by simp [go_sem]
  have q4 : (w.alloc (.cells #[.string mc, .int .i64 ip, .int .i64 po, .int .i64 di, .int .i64 st, .int .i64 un, .int .i64 nx, .int .i64 wa, .string inn, .string out, .bool fin] 112)).cell? ⟨w.heap.size, 4, none⟩ = some (.int .i64 st) := by simp [go_sem]
  have q5 : (w.alloc (.cells #[.string mc, .int .i64 ip, .int .i64 po, .int .i64 di, .int .i64 st, .int .i64 un, .int .i64 nx, .int .i64 wa, .string inn, .string out, .bool fin] 112)).cell? ⟨w.heap.size, 5, none⟩ = some (.int .i64 un) := by simp [go_sem]
  have q6 : (w.alloc (.cells #[.string mc, .int .i64 ip, .int .i64 po, .int .i64 di, .int .i64 st, .int .i64 un, .int .i64 nx, .int .i64 wa, .string inn, .string out, .bool fin] 112)).cell? ⟨w.heap.size, 6, none⟩ = some (.int .i64 nx) := by simp [go_sem]
  have q7 : (w.alloc (.cells #[.string mc, .int .i64 ip, .int .i64 po, .int .i64 di, .int .i64 st, .int .i64 un, .int .i64 nx, .int .i64 wa, .string inn, .string out, .bool fin] 112)).cell? ⟨w.heap.size, 7, none⟩ = some (.int .i64 wa) := by simp [go_sem]
  have q8 : (w.alloc (.cells #[.string mc, .int .i64 ip, .int .i64 po, .int .i64 di, .int .i64 st, .int .i64 un, .int .i64 nx, .int .i64 wa, .string inn, .string out, .bool fin] 112)).cell? ⟨w.heap.size, 8, none⟩ = some (.string inn) := by simp [go_sem]
  have q9 : (w.alloc (.cells #[.string mc, .int .i64 ip, .int .i64 po, .int .i64 di, .int .i64 st, .int .i64 un, .int .i64 nx, .int .i64 wa, .string inn, .string out, .bool fin] 112)).cell? ⟨w.heap.size, 9, none⟩ = some (.string out) := by simp [go_sem]
  have q10 : (w.alloc (.cells #[.string mc, .int .i64 ip, .int .i64 po, .int .i64 di, .int .i64 st, .int .i64 un, .int .i64 nx, .int .i64 wa, .string inn, .string out, .bool fin] 112)).cell? ⟨w.heap.size, 10, none⟩ = some (.bool fin) := by simp [go_sem]
  have hmix : Tryz.prog.follows .mixedOrders = true := by kernel_rfl
  cases t0 with
  | false =>
    clear T3 F
    go_enter Tryz.func101, Tryz.ntmps101
    go_wp2_with fail
    generalize w.alloc (.cells #[.string mc, .int .i64 ip, .int .i64 po, .int .i64 di, .int .i64 st, .int .i64 un, .int .i64 nx, .int .i64 wa, .string inn, .string out, .bool fin] 112) = W at *
    have y0 : ∀ n os, (grow (W.drewN n) os).cell? ⟨w.heap.size, 0, none⟩ = some (.string mc) := fun n os => bkeep (Grw.below ⟨n, os, rfl⟩) q0
    have y1 : ∀ n os, (grow (W.drewN n) os).cell? ⟨w.heap.size, 1, none⟩ = some (.int .i64 ip) := fun n os => bkeep (Grw.below ⟨n, os, rfl⟩) q1
    have y2 : ∀ n os, (grow (W.drewN n) os).cell? ⟨w.heap.size, 2, none⟩ = some (.int .i64 po) := fun n os => bkeep (Grw.below ⟨n, os, rfl⟩) q2
    have y3 : ∀ n os, (grow (W.drewN n) os).cell? ⟨w.heap.size, 3, none⟩ = some (.int .i64 di) := fun n os => bkeep (Grw.below ⟨n, os, rfl⟩) q3
    have y4 : ∀ n os, (grow (W.drewN n) os).cell? ⟨w.heap.size, 4, none⟩ = some (.int .i64 st) := fun n os => bkeep (Grw.below ⟨n, os, rfl⟩) q4
    have y5 : ∀ n os, (grow (W.drewN n) os).cell? ⟨w.heap.size, 5, none⟩ = some (.int .i64 un) := fun n os => bkeep (Grw.below ⟨n, os, rfl⟩) q5
    have y6 : ∀ n os, (grow (W.drewN n) os).cell? ⟨w.heap.size, 6, none⟩ = some (.int .i64 nx) := fun n os => bkeep (Grw.below ⟨n, os, rfl⟩) q6
    have y7 : ∀ n os, (grow (W.drewN n) os).cell? ⟨w.heap.size, 7, none⟩ = some (.int .i64 wa) := fun n os => bkeep (Grw.below ⟨n, os, rfl⟩) q7
    have y8 : ∀ n os, (grow (W.drewN n) os).cell? ⟨w.heap.size, 8, none⟩ = some (.string inn) := fun n os => bkeep (Grw.below ⟨n, os, rfl⟩) q8
    have y9 : ∀ n os, (grow (W.drewN n) os).cell? ⟨w.heap.size, 9, none⟩ = some (.string out) := fun n os => bkeep (Grw.below ⟨n, os, rfl⟩) q9
    have y10 : ∀ n os, (grow (W.drewN n) os).cell? ⟨w.heap.size, 10, none⟩ = some (.bool fin) := fun n os => bkeep (Grw.below ⟨n, os, rfl⟩) q10
    refine wp_region_quiet_grown (by assumption) (by kernel_rfl) ?_
    repeat (go_big_quiet_step (first | fail | (first | (go_at_call 136; exact Calls.grown_of (T0.out _)))))
    refine wpQuiet_nil ?_
    intro _ hw'
    obtain ⟨⟨nq, osq⟩, hw''⟩ := hw'
    subst hw''
    have HG2 : Hid (Grw w (grow (W.drewN nq) osq)) := B0.out.trans ⟨nq, osq, rfl⟩
    clear y0 y1 y2 y3 y4 y5 y6 y7 y8 y9 y10 q0 q1 q2 q3 q4 q5 q6 q7 q8 q9 q10 B0
    generalize (grow (W.drewN nq) osq) = w5 at *
    go_wp2
    go_ret
    exact ⟨by rw [E.out]; rfl, HG2.out⟩
  | true =>
    have T4 : Hid (∀ w, Calls Tryz.prog 138 #[.int .i64 un, .int .i64 z] w fun e w' => e = .returned (.int .i64 z2) ∧ Grw w w') := T3.out rfl
    have F2 : Hid (t1 = true → t3 = (nx == z2)) := F.out rfl
    clear T3 F
    cases t1 with
    | false =>
      clear F2 T4
      go_enter Tryz.func101, Tryz.ntmps101
      go_wp2_with fail
      generalize w.alloc (.cells #[.string mc, .int .i64 ip, .int .i64 po, .int .i64 di, .int .i64 st, .int .i64 un, .int .i64 nx, .int .i64 wa, .string inn, .string out, .bool fin] 112) = W at *
      have y0 : ∀ n os, (grow (W.drewN n) os).cell? ⟨w.heap.size, 0, none⟩ = some (.string mc) := fun n os => bkeep (Grw.below ⟨n, os, rfl⟩) q0
      have y1 : ∀ n os, (grow (W.drewN n) os).cell? ⟨w.heap.size, 1, none⟩ = some (.int .i64 ip) := fun n os => bkeep (Grw.below ⟨n, os, rfl⟩) q1
      have y2 : ∀ n os, (grow (W.drewN n) os).cell? ⟨w.heap.size, 2, none⟩ = some (.int .i64 po) := fun n os => bkeep (Grw.below ⟨n, os, rfl⟩) q2
      have y3 : ∀ n os, (grow (W.drewN n) os).cell? ⟨w.heap.size, 3, none⟩ = some (.int .i64 di) := fun n os => bkeep (Grw.below ⟨n, os, rfl⟩) q3
      have y4 : ∀ n os, (grow (W.drewN n) os).cell? ⟨w.heap.size, 4, none⟩ = some (.int .i64 st) := fun n os => bkeep (Grw.below ⟨n, os, rfl⟩) q4
      have y5 : ∀ n os, (grow (W.drewN n) os).cell? ⟨w.heap.size, 5, none⟩ = some (.int .i64 un) := fun n os => bkeep (Grw.below ⟨n, os, rfl⟩) q5
      have y6 : ∀ n os, (grow (W.drewN n) os).cell? ⟨w.heap.size, 6, none⟩ = some (.int .i64 nx) := fun n os => bkeep (Grw.below ⟨n, os, rfl⟩) q6
      have y7 : ∀ n os, (grow (W.drewN n) os).cell? ⟨w.heap.size, 7, none⟩ = some (.int .i64 wa) := fun n os => bkeep (Grw.below ⟨n, os, rfl⟩) q7
      have y8 : ∀ n os, (grow (W.drewN n) os).cell? ⟨w.heap.size, 8, none⟩ = some (.string inn) := fun n os => bkeep (Grw.below ⟨n, os, rfl⟩) q8
      have y9 : ∀ n os, (grow (W.drewN n) os).cell? ⟨w.heap.size, 9, none⟩ = some (.string out) := fun n os => bkeep (Grw.below ⟨n, os, rfl⟩) q9
      have y10 : ∀ n os, (grow (W.drewN n) os).cell? ⟨w.heap.size, 10, none⟩ = some (.bool fin) := fun n os => bkeep (Grw.below ⟨n, os, rfl⟩) q10
      refine wp_region_quiet_grown (by assumption) (by kernel_rfl) ?_
      repeat (go_big_quiet_step (first | fail | (first | (go_at_call 136; exact Calls.grown_of (T0.out _)) | (go_at_call 137; exact Calls.grown_of (T1.out _)))))
      refine wpQuiet_nil ?_
      intro _ hw'
      obtain ⟨⟨nq, osq⟩, hw''⟩ := hw'
      subst hw''
      have HG2 : Hid (Grw w (grow (W.drewN nq) osq)) := B0.out.trans ⟨nq, osq, rfl⟩
      clear y0 y1 y2 y3 y4 y5 y6 y7 y8 y9 y10 q0 q1 q2 q3 q4 q5 q6 q7 q8 q9 q10 B0
      generalize (grow (W.drewN nq) osq) = w5 at *
      go_wp2
      go_ret
      exact ⟨by rw [E.out]; rfl, HG2.out⟩
    | true =>
      have F3 : Hid (t3 = (nx == z2)) := F2.out rfl
      rw [F3.out] at E
      clear F2 F3
      go_enter Tryz.func101, Tryz.ntmps101
      go_wp2_with fail
      generalize w.alloc (.cells #[.string mc, .int .i64 ip, .int .i64 po, .int .i64 di, .int .i64 st, .int .i64 un, .int .i64 nx, .int .i64 wa, .string inn, .string out, .bool fin] 112) = W at *
      have y0 : ∀ n os, (grow (W.drewN n) os).cell? ⟨w.heap.size, 0, none⟩ = some (.string mc) := fun n os => bkeep (Grw.below ⟨n, os, rfl⟩) q0
      have y1 : ∀ n os, (grow (W.drewN n) os).cell? ⟨w.heap.size, 1, none⟩ = some (.int .i64 ip) := fun n os => bkeep (Grw.below ⟨n, os, rfl⟩) q1
      have y2 : ∀ n os, (grow (W.drewN n) os).cell? ⟨w.heap.size, 2, none⟩ = some (.int .i64 po) := fun n os => bkeep (Grw.below ⟨n, os, rfl⟩) q2
      have y3 : ∀ n os, (grow (W.drewN n) os).cell? ⟨w.heap.size, 3, none⟩ = some (.int .i64 di) := fun n os => bkeep (Grw.below ⟨n, os, rfl⟩) q3
      have y4 : ∀ n os, (grow (W.drewN n) os).cell? ⟨w.heap.size, 4, none⟩ = some (.int .i64 st) := fun n os => bkeep (Grw.below ⟨n, os, rfl⟩) q4
      have y5 : ∀ n os, (grow (W.drewN n) os).cell? ⟨w.heap.size, 5, none⟩ = some (.int .i64 un) := fun n os => bkeep (Grw.below ⟨n, os, rfl⟩) q5
      have y6 : ∀ n os, (grow (W.drewN n) os).cell? ⟨w.heap.size, 6, none⟩ = some (.int .i64 nx) := fun n os => bkeep (Grw.below ⟨n, os, rfl⟩) q6
      have y7 : ∀ n os, (grow (W.drewN n) os).cell? ⟨w.heap.size, 7, none⟩ = some (.int .i64 wa) := fun n os => bkeep (Grw.below ⟨n, os, rfl⟩) q7
      have y8 : ∀ n os, (grow (W.drewN n) os).cell? ⟨w.heap.size, 8, none⟩ = some (.string inn) := fun n os => bkeep (Grw.below ⟨n, os, rfl⟩) q8
      have y9 : ∀ n os, (grow (W.drewN n) os).cell? ⟨w.heap.size, 9, none⟩ = some (.string out) := fun n os => bkeep (Grw.below ⟨n, os, rfl⟩) q9
      have y10 : ∀ n os, (grow (W.drewN n) os).cell? ⟨w.heap.size, 10, none⟩ = some (.bool fin) := fun n os => bkeep (Grw.below ⟨n, os, rfl⟩) q10
      refine wp_region_quiet_grown (by assumption) (by kernel_rfl) ?_
      repeat (go_big_quiet_step (first | fail | (first | (go_at_call 136; exact Calls.grown_of (T0.out _)) | (go_at_call 137; exact Calls.grown_of (T1.out _)) | (go_at_call 139; exact Calls.grown_of (T2.out _)) | (go_at_call 138; exact Calls.grown_of (T4.out _)))))
      refine wpQuiet_nil ?_
      intro _ hw'
      obtain ⟨⟨nq, osq⟩, hw''⟩ := hw'
      subst hw''
      have HG2 : Hid (Grw w (grow (W.drewN nq) osq)) := B0.out.trans ⟨nq, osq, rfl⟩
      clear y0 y1 y2 y3 y4 y5 y6 y7 y8 y9 y10 q0 q1 q2 q3 q4 q5 q6 q7 q8 q9 q10 B0
      generalize (grow (W.drewN nq) osq) = w5 at *
      go_wp2
      go_ret
      exact ⟨by rw [E.out]; rfl, HG2.out⟩
end Go.Proofs.YtlebblmlbhnppabGreat
