/- The entrance of the parsers of texts. -/
import Derived.Test.YtbpdfkngkkopbabFaults
namespace Go.Proofs.Ytbpdfkngkkopbab
open Go.RowKit Go.PlainAid Go.Sort
set_option linter.unusedVariables false
set_option maxRecDepth 20000

theorem idleS (p q : Addr) (w : World) :
    CallsD Try.prog 19 #[.pointer (some p), .pointer (some q)] .returning w fun e u' w' => e = .returned (.tuple #[]) ∧ u' = .returning ∧ w' = w := by
  refine callsD_of_wpS Try.func19 rfl fun c₀ cs hu => ?_
  apply wpS_seq
  apply wpS_region
  simp [wpOpsS, go_sem, recoverD, hu, Try.ntmps19, Exit.thenS]
  apply wpS_seq
  apply wpS_region
  simp [wpOpsS, go_sem, Exit.thenS]
  refine wpS_cond (t := false) (by simp [Act.eval, Array.replicate]) ?_
  simp only [Bool.false_eq_true, if_false]
  refine wpS_of_wp (wp_skip ?_)
  cases c₀
  simp_all [bodyPostS, results, Try.results19]
set_option maxHeartbeats 1000000 in
theorem catchS (p q : Addr) (x y : Value) (c : Int) (w : World) (hp : w.cell? p = some x) (hq : w.cell? q = some y) (fp : w.frozen? p = false) (fq : w.frozen? q = false) (hpq : p.block ≠ q.block) :
    CallsD Try.prog 19 #[.pointer (some p), .pointer (some q)] (.panicking (flt c)) w fun e u' w' =>
      e = .returned (.tuple #[]) ∧ u' = .panicking [{ v := .iface 40 (.agg #[.int .i64 c]), recovered := true }] ∧ ∃ w1, Grw w w1 ∧ w' = (w1.setCell p (.string ⟨#[]⟩)).setCell q (.int .i64 c) := by
  refine callsD_of_wpS Try.func19 rfl fun c₀ cs hu => ?_
  unfold flt at hu
  apply wpS_seq
  apply wpS_region
  simp [wpOpsS, go_sem, recoverD, hu, Try.ntmps19, Exit.thenS]
  apply wpS_seq
  apply wpS_region
  simp [wpOpsS, go_sem, Exit.thenS]
  refine wpS_cond (t := true) (by simp [Act.eval, Array.replicate]) ?_
  simp only [if_true]
  refine wpS_of_wp ?_
  have T : Hid (∀ w, Calls Try.prog 20 #[.iface 40 (.agg #[.int .i64 c])] w fun e w' => e = .returned (.int .i64 c) ∧ Grw w w') := fun w => faultCode_any c w
  have e0 : (#[Value.pointer (some p), Value.pointer (some q)] ++ ((((Array.replicate 8 undef).setIfInBounds 2 (.iface 40 (.agg #[.int .i64 c]))).setIfInBounds 0 (.iface 40 (.agg #[.int .i64 c]))).setIfInBounds 3 (.iface 40 (.agg #[.int .i64 c]))).setIfInBounds 4 (.bool true)) = #[.pointer (some p), .pointer (some q), .iface 40 (.agg #[.int .i64 c]), undef, .iface 40 (.agg #[.int .i64 c]), .iface 40 (.agg #[.int .i64 c]), .bool true, undef, undef, undef] := rfl
  rw [e0]
  clear e0
  have HU : Hid (c₀.mode = FrameMode.panicking [{ v := .iface 40 (.agg #[.int .i64 c]), recovered := false }]) := hu
  clear hu
  go_wp2_with fail
  refine (T.out _).mono ?_
  rintro e w1 ⟨rfl, g1⟩
  have G1 : Hid (Grw w w1) := g1
  have hp1 := g1.keep hp
  have hq1 := g1.keep hq
  have fp1 := bthaw g1.below hp fp
  have fq1 := bthaw g1.below hq fq
  have fq2 : (w1.setCell p (.string ⟨#[]⟩)).frozen? q = false := by simp [fq1]
  have hq2 : (w1.setCell p (.string ⟨#[]⟩)).cell? q = some y := by rw [World.cell?_setCell_other _ _ _ _ (by first | exact (fun e => hpq (by rw [e])) | exact (fun e => hpq (by rw [← e])))]; exact hq1
  clear g1 hp hq fp fq T
  go_wp2
  simp [bodyPostS, results, Try.results19, go_sem]
  exact ⟨w1, G1.out, rfl⟩

set_option maxHeartbeats 1000000 in
theorem parsedS_long (f : Value) (s : ByteArray) (w : World) (hl : 65536 < s.size) :
    Calls Try.prog 13 #[f, .string s] w fun e w' => e = .returned (.tuple #[.string ⟨#[]⟩, .int .i64 2]) ∧ Below w.heap.size w w' := by
  have t1 : decide ((65536 : Int) < (s.size : Int)) = true := decide_eq_true (by omega)
  clear hl
  go_enter_defers Try.func13, Try.ntmps13
  go_wp2
  simp [bodyPostD, Leaves, results, Try.results13, go_sem]
  exact ((((Below.refl _ _).alloc (Nat.le_refl _) _).alloc (by simp) _))
set_option maxHeartbeats 1000000 in
theorem parsedS_yes (s : ByteArray) (z : ByteArray) (w : World) (hs : s.size ≤ 65536) (hf : ∀ w, Calls Try.prog 14 #[.string s] w fun e w' => e = .returned (.string z) ∧ Below w.heap.size w w') :
    Calls Try.prog 13 #[.func (.func 14) #[] #[], .string s] w fun e w' => e = .returned (.tuple #[.string z, .int .i64 0]) ∧ Below w.heap.size w w' := by
  have hmf : ∀ (fn : Fn) (first cap : Array Value) (w : World), (Instr.makeFunc fn first cap).run Try.prog w = .ok (.func fn first cap) w := fun _ _ _ _ => rfl
  have t1 : decide ((65536 : Int) < (s.size : Int)) = false := decide_eq_false (by omega)
  have T : Hid (∀ w, Calls Try.prog 14 #[.string s] w fun e w' => e = .returned (.string z) ∧ Below w.heap.size w w') := hf
  clear hf hs
  go_enter_defers Try.func13, Try.ntmps13
  go_wp2_with fail
  refine (T.out _).mono ?_
  rintro e w1 ⟨rfl, b1⟩
  have hp1 : w1.cell? ⟨w.heap.size, 0, none⟩ = some (.string ⟨#[]⟩) := bkeep b1 (by simp [go_sem])
  have hq1 : w1.cell? ⟨w.heap.size + 1, 0, none⟩ = some (.int .i64 0) := bkeep b1 (by simp [go_sem])
  have fp1 : w1.frozen? ⟨w.heap.size, 0, none⟩ = false := bthaw b1 (a := ⟨w.heap.size, 0, none⟩) (v := .string ⟨#[]⟩) (by simp [go_sem]) (by simp [go_sem])
  have fq1 : w1.frozen? ⟨w.heap.size + 1, 0, none⟩ = false := bthaw b1 (a := ⟨w.heap.size + 1, 0, none⟩) (v := .int .i64 0) (by simp [go_sem]) (by simp [go_sem])
  have B1 : Hid (Below w.heap.size w w1) := (((Below.refl w.heap.size w).alloc (Nat.le_refl _) _).alloc (by simp) _).trans (b1.mono (by simp; omega))
  clear b1 T
  go_wp2
  refine leaves_cons (f := 19) (args := #[.pointer (some ⟨w.heap.size, 0, none⟩), .pointer (some ⟨w.heap.size + 1, 0, none⟩)]) (by simp) (by simp [go_sem]) ?_
  refine (idleS _ _ _).mono ?_
  rintro e u' w'' ⟨rfl, rfl, rfl⟩
  simp [Leaves, settle, results, Try.results13, go_sem, hp1, hq1]
  exact (B1.out.setCell (Nat.le_refl _) _).setCell (by simp) _
set_option maxHeartbeats 1000000 in
theorem parsedS_no (s : ByteArray) (c : Int) (w : World) (hs : s.size ≤ 65536) (hf : ∀ w, Calls Try.prog 14 #[.string s] w fun e w' => e = .panicked (flt c) ∧ Below w.heap.size w w') :
    Calls Try.prog 13 #[.func (.func 14) #[] #[], .string s] w fun e w' => e = .returned (.tuple #[.string ⟨#[]⟩, .int .i64 c]) ∧ Below w.heap.size w w' := by
  have hmf : ∀ (fn : Fn) (first cap : Array Value) (w : World), (Instr.makeFunc fn first cap).run Try.prog w = .ok (.func fn first cap) w := fun _ _ _ _ => rfl
  have t1 : decide ((65536 : Int) < (s.size : Int)) = false := decide_eq_false (by omega)
  have T : Hid (∀ w, Calls Try.prog 14 #[.string s] w fun e w' => e = .panicked (flt c) ∧ Below w.heap.size w w') := hf
  clear hf hs
  go_enter_defers Try.func13, Try.ntmps13
  go_wp2_with fail
  refine (T.out _).mono ?_
  rintro e w1 ⟨rfl, b1⟩
  have hp1 : w1.cell? ⟨w.heap.size, 0, none⟩ = some (.string ⟨#[]⟩) := bkeep b1 (by simp [go_sem])
  have hq1 : w1.cell? ⟨w.heap.size + 1, 0, none⟩ = some (.int .i64 0) := bkeep b1 (by simp [go_sem])
  have fp1 : w1.frozen? ⟨w.heap.size, 0, none⟩ = false := bthaw b1 (a := ⟨w.heap.size, 0, none⟩) (v := .string ⟨#[]⟩) (by simp [go_sem]) (by simp [go_sem])
  have fq1 : w1.frozen? ⟨w.heap.size + 1, 0, none⟩ = false := bthaw b1 (a := ⟨w.heap.size + 1, 0, none⟩) (v := .int .i64 0) (by simp [go_sem]) (by simp [go_sem])
  have B1 : Hid (Below w.heap.size w w1) := (((Below.refl w.heap.size w).alloc (Nat.le_refl _) _).alloc (by simp) _).trans (b1.mono (by simp; omega))
  clear b1 T
  go_wp2
  refine leaves_cons (f := 19) (args := #[.pointer (some ⟨w.heap.size, 0, none⟩), .pointer (some ⟨w.heap.size + 1, 0, none⟩)]) (by simp) (by simp [go_sem]) ?_
  refine (catchS _ _ _ _ c _ hp1 hq1 fp1 fq1 (by simp)).mono ?_
  rintro e u' w'' ⟨rfl, rfl, w2, g2, rfl⟩
  have hp2 := g2.keep hp1
  have hq2 := g2.keep hq1
  simp [Leaves, settle, results, Try.results13, go_sem, hp2, hq2]
  exact ((B1.out.trans (g2.below.mono B1.out.size)).setCell (Nat.le_refl _) _).setCell (by simp) _

end Go.Proofs.Ytbpdfkngkkopbab
