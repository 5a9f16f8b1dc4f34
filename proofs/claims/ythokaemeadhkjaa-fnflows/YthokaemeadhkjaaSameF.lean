/- Flows compared by the laws. -/
import Derived.Test.YthokaemeadhkjaaFloE
namespace Go.Proofs.Ythokaemeadhkjaa
open Go.RowKit Go.PlainAid Go.Proofs.Ythokaemeadhkjaa.Bt Go.Sort
set_option linter.unusedVariables false
set_option maxRecDepth 20000
theorem neq_flow (pr : Int) (mc : ByteArray) (si sp di dp st un ow : Int) (w : World) : (binOp .neq 28 (.agg #[.int .i64 pr, .string mc, .int .i64 si, .int .i64 sp, .int .i64 di, .int .i64 dp, .int .i64 st, .int .i64 un, .int .i64 ow]) (.agg #[.int .i64 pr, .string mc, .int .i64 si, .int .i64 sp, .int .i64 di, .int .i64 dp, .int .i64 st, .int .i64 un, .int .i64 ow])).run Try.prog w = .ok (.bool false) w := by
  have u3 := Try.underlying3
  have a3 := Try.isAgg3
  have z3 := Try.sizeOf3
  have u9 := Try.underlying9
  have a9 := Try.isAgg9
  have z9 := Try.sizeOf9
  have hS : Try.prog.underlying 28 = some (.struct (Try.prog.fieldsOf 28)) := by kernel_rfl
  have hp : Try.prog.stoodInHeld 28 = false := by kernel_rfl
  rw [run_neq_struct, show (10000 : Nat) = 9999 + 1 from rfl, run_equalIn_agg w 9999 28 _ _ hS hp]
  simp only [Program.fieldsOf, Try.underlying28]
  go_simp
set_option maxHeartbeats 2000000 in
theorem sameFlows_yes (a a' : Option Addr) (len cap cap' : Nat) (xs : List FlowV) (w : World) (h : Rw FlR 9 w a xs) (h' : Rw FlR 9 w a' xs) (hl : xs.length = len) (hlen : len ≤ 1048576) :
    Calls Try.prog 13 #[.slice a len cap, .slice a' len cap'] w fun e w' => e = .returned (.bool true) ∧ Grw w w' := by
  have hne : ((len : Int) != (len : Int)) = false := by simp
  have hmix : Try.prog.follows .mixedOrders = true := by kernel_rfl
  have RW : Hid (Rw FlR 9 w a xs) := h
  have RW' : Hid (Rw FlR 9 w a' xs) := h'
  clear h h'
  go_enter Try.func13, Try.ntmps13
  go_wp2
  go_loopw [5] (fun i wr => ∃ k : Nat, k ≤ len ∧ i = .int .i64 k ∧ Hid (Grw w wr)) (fun i _ => len - (intOf i).toNat)
  case atStart => exact ⟨0, Nat.zero_le _, rfl, Grw.refl w⟩
  case round =>
    obtain ⟨k, hk, rfl, HG⟩ := hrel
    by_cases hlt : k < len
    · obtain ⟨x, hx⟩ := at_of hl hlt
      obtain ⟨b, off, vs, rfl, hb, hvl, hR, hc⟩ := RW.out.at FR.kp HG.out.below hx
      obtain ⟨b', off', vs', rfl, hb', hvl', hR', hc'⟩ := RW'.out.at FR.kp HG.out.below hx
      obtain ⟨pr, mc, si, sp, di, dp, st, un, ow⟩ := x
      obtain ⟨rfl, -⟩ := hR
      obtain ⟨rfl, -⟩ := hR'
      have q0 : ∀ n os, (grow (wr.drewN n) os).cell? ⟨b, off + k * 9, none⟩ = some (.int .i64 pr) := fun n os => grown_cell hb HG.out (hc 0 _ rfl) n os
      have q1 : ∀ n os, (grow (wr.drewN n) os).cell? ⟨b, off + k * 9 + 1, none⟩ = some (.string mc) := fun n os => grown_cell hb HG.out (hc 1 _ rfl) n os
      have q2 : ∀ n os, (grow (wr.drewN n) os).cell? ⟨b, off + k * 9 + 2, none⟩ = some (.int .i64 si) := fun n os => grown_cell hb HG.out (hc 2 _ rfl) n os
      have q3 : ∀ n os, (grow (wr.drewN n) os).cell? ⟨b, off + k * 9 + 3, none⟩ = some (.int .i64 sp) := fun n os => grown_cell hb HG.out (hc 3 _ rfl) n os
      have q4 : ∀ n os, (grow (wr.drewN n) os).cell? ⟨b, off + k * 9 + 4, none⟩ = some (.int .i64 di) := fun n os => grown_cell hb HG.out (hc 4 _ rfl) n os
      have q5 : ∀ n os, (grow (wr.drewN n) os).cell? ⟨b, off + k * 9 + 5, none⟩ = some (.int .i64 dp) := fun n os => grown_cell hb HG.out (hc 5 _ rfl) n os
      have q6 : ∀ n os, (grow (wr.drewN n) os).cell? ⟨b, off + k * 9 + 6, none⟩ = some (.int .i64 st) := fun n os => grown_cell hb HG.out (hc 6 _ rfl) n os
      have q7 : ∀ n os, (grow (wr.drewN n) os).cell? ⟨b, off + k * 9 + 7, none⟩ = some (.int .i64 un) := fun n os => grown_cell hb HG.out (hc 7 _ rfl) n os
      have q8 : ∀ n os, (grow (wr.drewN n) os).cell? ⟨b, off + k * 9 + 8, none⟩ = some (.int .i64 ow) := fun n os => grown_cell hb HG.out (hc 8 _ rfl) n os
      have r0 : ∀ n os, (grow (wr.drewN n) os).cell? ⟨b', off' + k * 9, none⟩ = some (.int .i64 pr) := fun n os => grown_cell hb' HG.out (hc' 0 _ rfl) n os
      have r1 : ∀ n os, (grow (wr.drewN n) os).cell? ⟨b', off' + k * 9 + 1, none⟩ = some (.string mc) := fun n os => grown_cell hb' HG.out (hc' 1 _ rfl) n os
      have r2 : ∀ n os, (grow (wr.drewN n) os).cell? ⟨b', off' + k * 9 + 2, none⟩ = some (.int .i64 si) := fun n os => grown_cell hb' HG.out (hc' 2 _ rfl) n os
      have r3 : ∀ n os, (grow (wr.drewN n) os).cell? ⟨b', off' + k * 9 + 3, none⟩ = some (.int .i64 sp) := fun n os => grown_cell hb' HG.out (hc' 3 _ rfl) n os
      have r4 : ∀ n os, (grow (wr.drewN n) os).cell? ⟨b', off' + k * 9 + 4, none⟩ = some (.int .i64 di) := fun n os => grown_cell hb' HG.out (hc' 4 _ rfl) n os
      have r5 : ∀ n os, (grow (wr.drewN n) os).cell? ⟨b', off' + k * 9 + 5, none⟩ = some (.int .i64 dp) := fun n os => grown_cell hb' HG.out (hc' 5 _ rfl) n os
      have r6 : ∀ n os, (grow (wr.drewN n) os).cell? ⟨b', off' + k * 9 + 6, none⟩ = some (.int .i64 st) := fun n os => grown_cell hb' HG.out (hc' 6 _ rfl) n os
      have r7 : ∀ n os, (grow (wr.drewN n) os).cell? ⟨b', off' + k * 9 + 7, none⟩ = some (.int .i64 un) := fun n os => grown_cell hb' HG.out (hc' 7 _ rfl) n os
      have r8 : ∀ n os, (grow (wr.drewN n) os).cell? ⟨b', off' + k * 9 + 8, none⟩ = some (.int .i64 ow) := fun n os => grown_cell hb' HG.out (hc' 8 _ rfl) n os
      have hq : ∀ w, (binOp .neq 28 (.agg #[.int .i64 pr, .string mc, .int .i64 si, .int .i64 sp, .int .i64 di, .int .i64 dp, .int .i64 st, .int .i64 un, .int .i64 ow]) (.agg #[.int .i64 pr, .string mc, .int .i64 si, .int .i64 sp, .int .i64 di, .int .i64 dp, .int .i64 st, .int .i64 un, .int .i64 ow])).run Try.prog w = .ok (.bool false) w := fun w => neq_flow pr mc si sp di dp st un ow w
      have hltz : (k : Int) < (len : Int) := by omega
      clear hc hc' hvl hvl'
      go_wp2_with fail
      refine wp_region_quiet_grown (by assumption) (by kernel_rfl) ?_
      repeat (go_big_quiet_step (first | fail | fail))
      refine wpQuiet_nil ?_
      intro _ hw'
      obtain ⟨⟨nq, osq⟩, hw''⟩ := hw'
      subst hw''
      have HG2 : Hid (Grw w (grow (wr.drewN nq) osq)) := HG.out.trans ⟨nq, osq, rfl⟩
      clear q0 r0 q1 r1 q2 r2 q3 r3 q4 r4 q5 r5 q6 r6 q7 r7 q8 r8 HG
      go_wp2
      go_roundw
      case rel => exact ⟨k + 1, by omega, by go_num, HG2⟩
      case measure => simp [intOf]; omega
    · obtain rfl : k = len := by omega
      go_wp2
      go_ret
      exact ⟨rfl, HG.out⟩
end Go.Proofs.Ythokaemeadhkjaa
