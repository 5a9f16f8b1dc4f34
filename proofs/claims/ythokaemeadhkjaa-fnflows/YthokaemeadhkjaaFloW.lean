/- FlowWait of both sides. -/
import Derived.Test.YthokaemeadhkjaaFloI
namespace Go.Proofs.Ythokaemeadhkjaa
open Go.RowKit Go.PlainAid Go.Proofs.Ythokaemeadhkjaa.Bt Go.Sort
set_option linter.unusedVariables false
set_option maxRecDepth 20000

theorem wf_leW {n : Int} (h : (Lit.int .i64 n).wf = true) : n ≤ 9223372036854775807 := by
  have : IntKind.i64.min = -9223372036854775808 := by decide
  have : IntKind.i64.max = 9223372036854775807 := by decide
  simp [Lit.wf] at h
  omega
/-- How long a flow waits. -/
def wtN (p s : Int) : Int := if p = 6 then (if s = 2 then 30 else 3) else 5
def fwC (p s : Int) : Int := if (dec (0 ≤ p ∧ p ≤ 255) && dec (1 ≤ s ∧ s ≤ 3)) = true then 0 else 4
def fwN (p s : Int) : Int := if (dec (0 ≤ p ∧ p ≤ 255) && dec (1 ≤ s ∧ s ≤ 3)) = true then wtN p s else 0
theorem wtN_bd (p s : Int) : 0 ≤ wtN p s ∧ wtN p s ≤ 30 := by
  unfold wtN
  split
  · split <;> omega
  · omega
theorem l09Wait_any (p s : Int) (w : World) : Calls Try.prog 75 #[.int .i64 p, .int .i64 s] w fun e w' => e = .returned (.int .i64 (wtN p s)) ∧ w' = w := by
  unfold wtN
  by_cases h6 : p = 6
  · subst h6
    rw [if_pos rfl]
    by_cases h2 : s = 2
    · subst h2
      rw [if_pos rfl]
      go_enter Try.func75, Try.ntmps75
      go_wp2
      go_ret
      exact ⟨rfl, rfl⟩
    · rw [if_neg h2]
      have hb : (s == 2) = false := by simp [h2]
      go_enter Try.func75, Try.ntmps75
      go_wp2
      go_ret
      exact ⟨rfl, rfl⟩
  · rw [if_neg h6]
    have hb : (p != 6) = true := by simp [h6]
    have hb2 : (p == 6) = false := by simp [h6]
    go_enter Try.func75, Try.ntmps75
    go_wp2
    go_ret
    exact ⟨rfl, rfl⟩
theorem implWait_any (p s : Int) (w : World) (hp : p ≤ 9223372036854775807) : Calls Try.prog 16 #[.int .i64 p, .int .i64 s] w fun e w' => e = .returned (.tuple #[.int .i64 (fwN p s), .int .i64 (fwC p s)]) ∧ w' = w := by
  have T1 : Hid (∀ w, Calls Try.prog 48 #[.int .i64 p] w fun e w' => e = .returned (.bool (dec (0 ≤ p ∧ p ≤ 255))) ∧ w' = w) := fun w => proto9_any p w hp
  have T2 : Hid (∀ w, Calls Try.prog 49 #[.int .i64 s] w fun e w' => e = .returned (.bool (dec (1 ≤ s ∧ s ≤ 3))) ∧ w' = w) := fun w => state9_any s w
  unfold fwN fwC
  generalize dec (0 ≤ p ∧ p ≤ 255) = t1 at T1 ⊢
  generalize dec (1 ≤ s ∧ s ≤ 3) = t2 at T2 ⊢
  cases t1 with
  | false =>
    rw [if_neg (by simp), if_neg (by simp)]
    go_enter Try.func16, Try.ntmps16
    go_wp2_with fail
    refine (T1.out _).mono ?_
    rintro e w1 ⟨rfl, hw⟩
    subst hw
    go_wp2
    go_ret2
    exact ⟨rfl, rfl⟩
  | true =>
    cases t2 with
    | false =>
      rw [if_neg (by simp), if_neg (by simp)]
      go_enter Try.func16, Try.ntmps16
      go_wp2_with fail
      refine (T1.out _).mono ?_
      rintro e w1 ⟨rfl, hw⟩
      subst hw
      go_wp2_with fail
      refine (T2.out _).mono ?_
      rintro e w1 ⟨rfl, hw⟩
      subst hw
      go_wp2
      go_ret2
      exact ⟨rfl, rfl⟩
    | true =>
      rw [if_pos (by simp), if_pos (by simp)]
      unfold wtN
      by_cases h6 : p = 6
      · subst h6
        rw [if_pos rfl]
        by_cases h2 : s = 2
        · subst h2
          rw [if_pos rfl]
          go_enter Try.func16, Try.ntmps16
          go_wp2_with fail
          refine (T1.out _).mono ?_
          rintro e w1 ⟨rfl, hw⟩
          subst hw
          go_wp2_with fail
          refine (T2.out _).mono ?_
          rintro e w1 ⟨rfl, hw⟩
          subst hw
          go_wp2
          go_ret2
          exact ⟨rfl, rfl⟩
        · rw [if_neg h2]
          have hb : (s == 2) = false := by simp [h2]
          go_enter Try.func16, Try.ntmps16
          go_wp2_with fail
          refine (T1.out _).mono ?_
          rintro e w1 ⟨rfl, hw⟩
          subst hw
          go_wp2_with fail
          refine (T2.out _).mono ?_
          rintro e w1 ⟨rfl, hw⟩
          subst hw
          go_wp2
          go_ret2
          exact ⟨rfl, rfl⟩
      · rw [if_neg h6]
        have hb : (p != 6) = true := by simp [h6]
        have hb2 : (p == 6) = false := by simp [h6]
        go_enter Try.func16, Try.ntmps16
        go_wp2_with fail
        refine (T1.out _).mono ?_
        rintro e w1 ⟨rfl, hw⟩
        subst hw
        go_wp2_with fail
        refine (T2.out _).mono ?_
        rintro e w1 ⟨rfl, hw⟩
        subst hw
        go_wp2
        go_ret2
        exact ⟨rfl, rfl⟩
set_option maxHeartbeats 1000000 in
theorem waiting_any (pr : Int) (mc : ByteArray) (si sp di dp st un ow : Int) (now : Int) (w : World) (h1 : 0 ≤ pr ∧ pr ≤ 255) (h2 : 1 ≤ st ∧ st ≤ 3) (h3 : 0 ≤ now ∧ now ≤ 100000) :
    Calls Try.prog 41 #[.agg #[.int .i64 pr, .string mc, .int .i64 si, .int .i64 sp, .int .i64 di, .int .i64 dp, .int .i64 st, .int .i64 un, .int .i64 ow], .int .i64 now] w fun e w' => e = .returned (.agg #[.int .i64 pr, .string mc, .int .i64 si, .int .i64 sp, .int .i64 di, .int .i64 dp, .int .i64 st, .int .i64 (now + wtN pr st), .int .i64 ow]) ∧ Grw w w' := by
  have T : Hid (∀ w, Calls Try.prog 16 #[.int .i64 pr, .int .i64 st] w fun e w' => e = .returned (.tuple #[.int .i64 (fwN pr st), .int .i64 (fwC pr st)]) ∧ w' = w) := fun w => implWait_any pr st w (by omega)
  have e1 : fwN pr st = wtN pr st := by unfold fwN; rw [dec_y h1, dec_y h2]; rfl
  rw [e1] at T
  have hb := wtN_bd pr st
  generalize wtN pr st = n at T hb ⊢
  generalize fwC pr st = c at T
  clear e1
  go_enter Try.func41, Try.ntmps41
  go_wp2_with fail
  refine (T.out _).mono ?_
  rintro e w1 ⟨rfl, hw⟩
  subst hw
  go_wp2
  (try simp only [Exit.inBlock, Exit.then])
  refine bodyPost_ret (v := .agg #[.int .i64 pr, .string mc, .int .i64 si, .int .i64 sp, .int .i64 di, .int .i64 dp, .int .i64 st, .int .i64 (now + n), .int .i64 ow]) (by simp [results, Try.results41, go_sem]; try rfl) rfl ?_
  exact ⟨rfl, ((Grw.refl _).alloc _).alloc _⟩
end Go.Proofs.Ythokaemeadhkjaa
