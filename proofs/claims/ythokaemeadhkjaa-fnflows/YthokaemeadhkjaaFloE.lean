/- Flows compared; the program's passedState. -/
import Derived.Test.YthokaemeadhkjaaFloN
namespace Go.Proofs.Ythokaemeadhkjaa
open Go.RowKit Go.PlainAid Go.Proofs.Ythokaemeadhkjaa.Bt Go.Sort
set_option linter.unusedVariables false
set_option maxRecDepth 20000

/-- Flows alike. -/
def fqB (f g : FlowV) : Bool := decide (f.pr = g.pr ∧ f.mc.toList = g.mc.toList ∧ f.si = g.si ∧ f.sp = g.sp ∧ f.di = g.di ∧ f.dp = g.dp ∧ f.st = g.st ∧ f.un = g.un ∧ f.ow = g.ow)
theorem fqB_refl (f : FlowV) : fqB f f = true := by simp [fqB]
theorem fqB_ends {f g : FlowV} (h : fqB f g = true) : enOf f = enOf g := by
  simp [fqB] at h
  obtain ⟨h1, _, h2, h3, h4, h5, _⟩ := h
  unfold enOf
  rw [h1, h2, h3, h4, h5]
set_option maxHeartbeats 1000000 in
/-- Flows compared. -/
theorem eql_flow (pr : Int) (mc : ByteArray) (si sp di dp st un ow : Int) (pr2 : Int) (mc2 : ByteArray) (si2 sp2 di2 dp2 st2 un2 ow2 : Int) (w : World) : (binOp .eql 28 (.agg #[.int .i64 pr, .string mc, .int .i64 si, .int .i64 sp, .int .i64 di, .int .i64 dp, .int .i64 st, .int .i64 un, .int .i64 ow]) (.agg #[.int .i64 pr2, .string mc2, .int .i64 si2, .int .i64 sp2, .int .i64 di2, .int .i64 dp2, .int .i64 st2, .int .i64 un2, .int .i64 ow2])).run Try.prog w = .ok (.bool (decide (pr = pr2 ∧ mc.toList = mc2.toList ∧ si = si2 ∧ sp = sp2 ∧ di = di2 ∧ dp = dp2 ∧ st = st2 ∧ un = un2 ∧ ow = ow2))) w := by
  have u3 := Try.underlying3
  have a3 := Try.isAgg3
  have z3 := Try.sizeOf3
  have u9 := Try.underlying9
  have a9 := Try.isAgg9
  have z9 := Try.sizeOf9
  have hS : Try.prog.underlying 28 = some (.struct (Try.prog.fieldsOf 28)) := by kernel_rfl
  have hp : Try.prog.stoodInHeld 28 = false := by kernel_rfl
  rw [run_eql_struct, show (10000 : Nat) = 9999 + 1 from rfl, run_equalIn_agg w 9999 28 _ _ hS hp]
  simp only [Program.fieldsOf, Try.underlying28]
  go_simp
  repeat' split
  all_goals simp_all
theorem fq_is (pr : Int) (mc : ByteArray) (si sp di dp st un ow : Int) (pr2 : Int) (mc2 : ByteArray) (si2 sp2 di2 dp2 st2 un2 ow2 : Int) : fqB ⟨pr, mc, si, sp, di, dp, st, un, ow⟩ ⟨pr2, mc2, si2, sp2, di2, dp2, st2, un2, ow2⟩ = decide (pr = pr2 ∧ mc.toList = mc2.toList ∧ si = si2 ∧ sp = sp2 ∧ di = di2 ∧ dp = dp2 ∧ st = st2 ∧ un = un2 ∧ ow = ow2) := rfl
set_option maxHeartbeats 1000000 in
theorem pass1_any (pr : Int) (mc : ByteArray) (si sp di dp st un ow : Int) (pr2 : Int) (mc2 : ByteArray) (si2 sp2 di2 dp2 st2 un2 ow2 : Int) (B : Nat) (W : World) (h0 : W.cell? ⟨B, 0, none⟩ = some (.int .i64 pr2)) (h1 : W.cell? ⟨B, 1, none⟩ = some (.string mc2)) (h2 : W.cell? ⟨B, 2, none⟩ = some (.int .i64 si2)) (h3 : W.cell? ⟨B, 3, none⟩ = some (.int .i64 sp2)) (h4 : W.cell? ⟨B, 4, none⟩ = some (.int .i64 di2)) (h5 : W.cell? ⟨B, 5, none⟩ = some (.int .i64 dp2)) (h6 : W.cell? ⟨B, 6, none⟩ = some (.int .i64 st2)) (h7 : W.cell? ⟨B, 7, none⟩ = some (.int .i64 un2)) (h8 : W.cell? ⟨B, 8, none⟩ = some (.int .i64 ow2)) :
    Calls Try.prog 56 #[.agg #[.int .i64 pr, .string mc, .int .i64 si, .int .i64 sp, .int .i64 di, .int .i64 dp, .int .i64 st, .int .i64 un, .int .i64 ow], .pointer (some ⟨B, 0, none⟩)] W fun e w' => e = .returned (.bool (fqB ⟨pr, mc, si, sp, di, dp, st, un, ow⟩ ⟨pr2, mc2, si2, sp2, di2, dp2, st2, un2, ow2⟩)) ∧ Grw W w' := by
  have c0 := acell h0 (.cells #[.int .i64 pr, .string mc, .int .i64 si, .int .i64 sp, .int .i64 di, .int .i64 dp, .int .i64 st, .int .i64 un, .int .i64 ow] 28)
  have c1 := acell h1 (.cells #[.int .i64 pr, .string mc, .int .i64 si, .int .i64 sp, .int .i64 di, .int .i64 dp, .int .i64 st, .int .i64 un, .int .i64 ow] 28)
  have c2 := acell h2 (.cells #[.int .i64 pr, .string mc, .int .i64 si, .int .i64 sp, .int .i64 di, .int .i64 dp, .int .i64 st, .int .i64 un, .int .i64 ow] 28)
  have c3 := acell h3 (.cells #[.int .i64 pr, .string mc, .int .i64 si, .int .i64 sp, .int .i64 di, .int .i64 dp, .int .i64 st, .int .i64 un, .int .i64 ow] 28)
  have c4 := acell h4 (.cells #[.int .i64 pr, .string mc, .int .i64 si, .int .i64 sp, .int .i64 di, .int .i64 dp, .int .i64 st, .int .i64 un, .int .i64 ow] 28)
  have c5 := acell h5 (.cells #[.int .i64 pr, .string mc, .int .i64 si, .int .i64 sp, .int .i64 di, .int .i64 dp, .int .i64 st, .int .i64 un, .int .i64 ow] 28)
  have c6 := acell h6 (.cells #[.int .i64 pr, .string mc, .int .i64 si, .int .i64 sp, .int .i64 di, .int .i64 dp, .int .i64 st, .int .i64 un, .int .i64 ow] 28)
  have c7 := acell h7 (.cells #[.int .i64 pr, .string mc, .int .i64 si, .int .i64 sp, .int .i64 di, .int .i64 dp, .int .i64 st, .int .i64 un, .int .i64 ow] 28)
  have c8 := acell h8 (.cells #[.int .i64 pr, .string mc, .int .i64 si, .int .i64 sp, .int .i64 di, .int .i64 dp, .int .i64 st, .int .i64 un, .int .i64 ow] 28)
  have he : ∀ w, (binOp .eql 28 (.agg #[.int .i64 pr, .string mc, .int .i64 si, .int .i64 sp, .int .i64 di, .int .i64 dp, .int .i64 st, .int .i64 un, .int .i64 ow]) (.agg #[.int .i64 pr2, .string mc2, .int .i64 si2, .int .i64 sp2, .int .i64 di2, .int .i64 dp2, .int .i64 st2, .int .i64 un2, .int .i64 ow2])).run Try.prog w = .ok (.bool (fqB ⟨pr, mc, si, sp, di, dp, st, un, ow⟩ ⟨pr2, mc2, si2, sp2, di2, dp2, st2, un2, ow2⟩)) w := fun w => eql_flow pr mc si sp di dp st un ow pr2 mc2 si2 sp2 di2 dp2 st2 un2 ow2 w
  generalize fqB ⟨pr, mc, si, sp, di, dp, st, un, ow⟩ ⟨pr2, mc2, si2, sp2, di2, dp2, st2, un2, ow2⟩ = q at he ⊢
  clear h0 h1 h2 h3 h4 h5 h6 h7 h8
  go_enter Try.func56, Try.ntmps56
  go_wp2
  go_ret
  exact ⟨rfl, (Grw.refl _).alloc _⟩
/-- The state of a flow that something has passed by. -/
def psS (pr st flags : Int) (back : Bool) : Int := if pr = 6 ∧ (bits BinOp.and IntKind.i64 flags 1 != 0) = true then 3 else if st = 1 ∧ back = true then 2 else st
theorem psS_bd {pr st flags : Int} {back : Bool} (h : 1 ≤ st ∧ st ≤ 3) : 1 ≤ psS pr st flags back ∧ psS pr st flags back ≤ 3 := by
  unfold psS
  split
  · omega
  · split <;> omega
set_option maxHeartbeats 1000000 in
theorem passedState_any (pr : Int) (mc : ByteArray) (si sp di dp st un ow : Int) (back : Bool) (flags : Int) (w : World) :
    Calls Try.prog 57 #[.agg #[.int .i64 pr, .string mc, .int .i64 si, .int .i64 sp, .int .i64 di, .int .i64 dp, .int .i64 st, .int .i64 un, .int .i64 ow], .bool back, .int .i64 flags] w fun e w' => e = .returned (.int .i64 (psS pr st flags back)) ∧ Grw w w' := by
  unfold psS
  generalize hb : (bits BinOp.and IntKind.i64 flags 1 != 0) = t
  by_cases h6 : pr = 6
  · have h6b : (pr == 6) = true := by simp [h6]
    cases t with
    | true =>
      rw [if_pos ⟨h6, rfl⟩]
      clear h6
      go_enter Try.func57, Try.ntmps57
      go_wp2
      go_ret
      exact ⟨rfl, (Grw.refl _).alloc _⟩
    | false =>
      rw [if_neg (by simp)]
      clear h6
      by_cases h1 : st = 1
      · have h1b : (st == 1) = true := by simp [h1]
        cases back with
        | true =>
          rw [if_pos ⟨h1, rfl⟩]
          clear h1
          go_enter Try.func57, Try.ntmps57
          go_wp2
          go_ret
          exact ⟨rfl, (Grw.refl _).alloc _⟩
        | false =>
          rw [if_neg (by simp)]
          clear h1
          go_enter Try.func57, Try.ntmps57
          go_wp2
          go_ret
          exact ⟨rfl, (Grw.refl _).alloc _⟩
      · have h1b : (st == 1) = false := by simp [h1]
        rw [if_neg (fun h => h1 h.1)]
        clear h1
        go_enter Try.func57, Try.ntmps57
        go_wp2
        go_ret
        exact ⟨rfl, (Grw.refl _).alloc _⟩
  · have h6b : (pr == 6) = false := by simp [h6]
    rw [if_neg (fun h => h6 h.1)]
    clear h6
    by_cases h1 : st = 1
    · have h1b : (st == 1) = true := by simp [h1]
      cases back with
      | true =>
        rw [if_pos ⟨h1, rfl⟩]
        clear h1
        go_enter Try.func57, Try.ntmps57
        go_wp2
        go_ret
        exact ⟨rfl, (Grw.refl _).alloc _⟩
      | false =>
        rw [if_neg (by simp)]
        clear h1
        go_enter Try.func57, Try.ntmps57
        go_wp2
        go_ret
        exact ⟨rfl, (Grw.refl _).alloc _⟩
    · have h1b : (st == 1) = false := by simp [h1]
      rw [if_neg (fun h => h1 h.1)]
      clear h1
      go_enter Try.func57, Try.ntmps57
      go_wp2
      go_ret
      exact ⟨rfl, (Grw.refl _).alloc _⟩
end Go.Proofs.Ythokaemeadhkjaa
