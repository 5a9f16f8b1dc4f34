/- Rules and places copied and compared by the laws; the walk of laws.FnExactRuleOK. -/
import Derived.Test.YtlebblmlbhnppaaGreatRuleW
namespace Go.Proofs.YtlebblmlbhnppaaGreat
open Go.RowKit Go.PlainAid Go.Proofs.YtlebblmlbhnppaaGreat.Bt Go.Sort
set_option linter.unusedVariables false
set_option maxRecDepth 20000
theorem toNet2 (f0 f1 : Int) (w : World) :
    Calls Tryz.prog 42 #[.agg #[.int .i64 f0, .int .i64 f1]] w fun e w' => e = .returned (.agg #[.int .i64 f0, .int .i64 f1]) ∧ Below w.heap.size w w' := by
  go_enter Tryz.func42, Tryz.ntmps42
  go_wp2
  (try simp only [Exit.inBlock, Exit.then])
  refine bodyPost_ret (v := .agg #[.int .i64 f0, .int .i64 f1]) (by simp [results, Tryz.results42, go_sem]; try rfl) rfl ?_
  exact ⟨rfl, ((((Grw.refl _).alloc _).alloc _).alloc _).below⟩
theorem eqNet2 (x0 x1 : Int) (w : World) :
    Calls Tryz.prog 53 #[.agg #[.int .i64 x0, .int .i64 x1], .agg #[.int .i64 x0, .int .i64 x1]] w fun e w' => e = .returned (.bool true) ∧ Grw w w' := by
  have h0 : (x0 != x0) = false := by simp
  have h1 : (x1 != x1) = false := by simp
  go_enter Tryz.func53, Tryz.ntmps53
  go_wp2
  go_ret
  exact ⟨rfl, ((Grw.refl _).alloc _).alloc _⟩

theorem toRange2 (f0 f1 : Int) (w : World) :
    Calls Tryz.prog 182 #[.agg #[.int .i64 f0, .int .i64 f1]] w fun e w' => e = .returned (.agg #[.int .i64 f0, .int .i64 f1]) ∧ Below w.heap.size w w' := by
  go_enter Tryz.func182, Tryz.ntmps182
  go_wp2
  (try simp only [Exit.inBlock, Exit.then])
  refine bodyPost_ret (v := .agg #[.int .i64 f0, .int .i64 f1]) (by simp [results, Tryz.results182, go_sem]; try rfl) rfl ?_
  exact ⟨rfl, ((((Grw.refl _).alloc _).alloc _).alloc _).below⟩
theorem eqRange2 (x0 x1 : Int) (w : World) :
    Calls Tryz.prog 196 #[.agg #[.int .i64 x0, .int .i64 x1], .agg #[.int .i64 x0, .int .i64 x1]] w fun e w' => e = .returned (.bool true) ∧ Grw w w' := by
  have h0 : (x0 != x0) = false := by simp
  have h1 : (x1 != x1) = false := by simp
  go_enter Tryz.func196, Tryz.ntmps196
  go_wp2
  go_ret
  exact ⟨rfl, ((Grw.refl _).alloc _).alloc _⟩

set_option maxHeartbeats 1000000 in
theorem toRule_any (p ip b lo hi : Int) (al : Bool) (w : World) :
    Calls Tryz.prog 231 #[.agg #[.int .i64 p, .int .i64 ip, .int .i64 b, .int .i64 lo, .int .i64 hi, .bool al]] w fun e w' => e = .returned (.agg #[.int .i64 p, .int .i64 ip, .int .i64 b, .int .i64 lo, .int .i64 hi, .bool al]) ∧ Below w.heap.size w w' := by
  have HA : Hid (∀ w, Calls Tryz.prog 42 #[.agg #[.int .i64 ip, .int .i64 b]] w fun e w' => e = .returned (.agg #[.int .i64 ip, .int .i64 b]) ∧ Below w.heap.size w w') := fun w => toNet2 ip b w
  have HB : Hid (∀ w, Calls Tryz.prog 182 #[.agg #[.int .i64 lo, .int .i64 hi]] w fun e w' => e = .returned (.agg #[.int .i64 lo, .int .i64 hi]) ∧ Below w.heap.size w w') := fun w => toRange2 lo hi w
  go_enter Tryz.func231, Tryz.ntmps231
  go_wp2_with fail
  refine (HA.out _).mono ?_
  rintro e wx1 ⟨rfl, bx⟩
  have c1_0_0 : wx1.cell? ⟨w.heap.size, 0, none⟩ = some (.int .i64 p) := bkeep bx (by simp [go_sem])
  have c1_0_1 : wx1.cell? ⟨w.heap.size, 1, none⟩ = some (.int .i64 ip) := bkeep bx (by simp [go_sem])
  have c1_0_2 : wx1.cell? ⟨w.heap.size, 2, none⟩ = some (.int .i64 b) := bkeep bx (by simp [go_sem])
  have c1_0_3 : wx1.cell? ⟨w.heap.size, 3, none⟩ = some (.int .i64 lo) := bkeep bx (by simp [go_sem])
  have c1_0_4 : wx1.cell? ⟨w.heap.size, 4, none⟩ = some (.int .i64 hi) := bkeep bx (by simp [go_sem])
  have c1_0_5 : wx1.cell? ⟨w.heap.size, 5, none⟩ = some (.bool al) := bkeep bx (by simp [go_sem])
  have c1_1_0 : wx1.cell? ⟨w.heap.size + 1, 0, none⟩ = some (.int .i64 0) := bkeep bx (by simp [go_sem])
  have f1_1_0 : wx1.frozen? ⟨w.heap.size + 1, 0, none⟩ = false := bthaw bx (v := .int .i64 0) (by simp [go_sem]) (by simp [go_sem])
  have c1_1_1 : wx1.cell? ⟨w.heap.size + 1, 1, none⟩ = some (.int .i64 0) := bkeep bx (by simp [go_sem])
  have f1_1_1 : wx1.frozen? ⟨w.heap.size + 1, 1, none⟩ = false := bthaw bx (v := .int .i64 0) (by simp [go_sem]) (by simp [go_sem])
  have c1_1_2 : wx1.cell? ⟨w.heap.size + 1, 2, none⟩ = some (.int .i64 0) := bkeep bx (by simp [go_sem])
  have f1_1_2 : wx1.frozen? ⟨w.heap.size + 1, 2, none⟩ = false := bthaw bx (v := .int .i64 0) (by simp [go_sem]) (by simp [go_sem])
  have c1_1_3 : wx1.cell? ⟨w.heap.size + 1, 3, none⟩ = some (.int .i64 0) := bkeep bx (by simp [go_sem])
  have f1_1_3 : wx1.frozen? ⟨w.heap.size + 1, 3, none⟩ = false := bthaw bx (v := .int .i64 0) (by simp [go_sem]) (by simp [go_sem])
  have c1_1_4 : wx1.cell? ⟨w.heap.size + 1, 4, none⟩ = some (.int .i64 0) := bkeep bx (by simp [go_sem])
  have f1_1_4 : wx1.frozen? ⟨w.heap.size + 1, 4, none⟩ = false := bthaw bx (v := .int .i64 0) (by simp [go_sem]) (by simp [go_sem])
  have c1_1_5 : wx1.cell? ⟨w.heap.size + 1, 5, none⟩ = some (.bool false) := bkeep bx (by simp [go_sem])
  have f1_1_5 : wx1.frozen? ⟨w.heap.size + 1, 5, none⟩ = false := bthaw bx (v := .bool false) (by simp [go_sem]) (by simp [go_sem])
  have c1_2_0 : wx1.cell? ⟨w.heap.size + 1 + 1, 0, none⟩ = some (.int .i64 p) := bkeep bx (by simp [go_sem])
  have f1_2_0 : wx1.frozen? ⟨w.heap.size + 1 + 1, 0, none⟩ = false := bthaw bx (v := .int .i64 p) (by simp [go_sem]) (by simp [go_sem])
  have c1_2_1 : wx1.cell? ⟨w.heap.size + 1 + 1, 1, none⟩ = some (.int .i64 0) := bkeep bx (by simp [go_sem])
  have f1_2_1 : wx1.frozen? ⟨w.heap.size + 1 + 1, 1, none⟩ = false := bthaw bx (v := .int .i64 0) (by simp [go_sem]) (by simp [go_sem])
  have c1_2_2 : wx1.cell? ⟨w.heap.size + 1 + 1, 2, none⟩ = some (.int .i64 0) := bkeep bx (by simp [go_sem])
  have f1_2_2 : wx1.frozen? ⟨w.heap.size + 1 + 1, 2, none⟩ = false := bthaw bx (v := .int .i64 0) (by simp [go_sem]) (by simp [go_sem])
  have c1_2_3 : wx1.cell? ⟨w.heap.size + 1 + 1, 3, none⟩ = some (.int .i64 0) := bkeep bx (by simp [go_sem])
  have f1_2_3 : wx1.frozen? ⟨w.heap.size + 1 + 1, 3, none⟩ = false := bthaw bx (v := .int .i64 0) (by simp [go_sem]) (by simp [go_sem])
  have c1_2_4 : wx1.cell? ⟨w.heap.size + 1 + 1, 4, none⟩ = some (.int .i64 0) := bkeep bx (by simp [go_sem])
  have f1_2_4 : wx1.frozen? ⟨w.heap.size + 1 + 1, 4, none⟩ = false := bthaw bx (v := .int .i64 0) (by simp [go_sem]) (by simp [go_sem])
  have c1_2_5 : wx1.cell? ⟨w.heap.size + 1 + 1, 5, none⟩ = some (.bool false) := bkeep bx (by simp [go_sem])
  have f1_2_5 : wx1.frozen? ⟨w.heap.size + 1 + 1, 5, none⟩ = false := bthaw bx (v := .bool false) (by simp [go_sem]) (by simp [go_sem])
  have BX1 : Hid (Below w.heap.size w wx1) := ((((Below.refl w.heap.size w).alloc (by simp <;> omega) _).alloc (by simp <;> omega) _).alloc (by simp <;> omega) _).trans (bx.mono (by simp <;> omega))
  clear bx
  go_wp2_with fail
  refine (HB.out _).mono ?_
  rintro e wx2 ⟨rfl, bx⟩
  have c2_0_0 : wx2.cell? ⟨w.heap.size, 0, none⟩ = some (.int .i64 p) := bkeep bx (by first | (simp [go_sem]; done) | simp [go_sem, c1_0_0])
  have c2_0_1 : wx2.cell? ⟨w.heap.size, 1, none⟩ = some (.int .i64 ip) := bkeep bx (by first | (simp [go_sem]; done) | simp [go_sem, c1_0_1])
  have c2_0_2 : wx2.cell? ⟨w.heap.size, 2, none⟩ = some (.int .i64 b) := bkeep bx (by first | (simp [go_sem]; done) | simp [go_sem, c1_0_2])
  have c2_0_3 : wx2.cell? ⟨w.heap.size, 3, none⟩ = some (.int .i64 lo) := bkeep bx (by first | (simp [go_sem]; done) | simp [go_sem, c1_0_3])
  have c2_0_4 : wx2.cell? ⟨w.heap.size, 4, none⟩ = some (.int .i64 hi) := bkeep bx (by first | (simp [go_sem]; done) | simp [go_sem, c1_0_4])
  have c2_0_5 : wx2.cell? ⟨w.heap.size, 5, none⟩ = some (.bool al) := bkeep bx (by first | (simp [go_sem]; done) | simp [go_sem, c1_0_5])
  have c2_1_0 : wx2.cell? ⟨w.heap.size + 1, 0, none⟩ = some (.int .i64 0) := bkeep bx (by first | (simp [go_sem]; done) | simp [go_sem, c1_1_0])
  have f2_1_0 : wx2.frozen? ⟨w.heap.size + 1, 0, none⟩ = false := bthaw bx (v := .int .i64 0) (by first | (simp [go_sem]; done) | simp [go_sem, c1_1_0]) (by first | (simp [go_sem]; done) | simp [go_sem, f1_1_0])
  have c2_1_1 : wx2.cell? ⟨w.heap.size + 1, 1, none⟩ = some (.int .i64 0) := bkeep bx (by first | (simp [go_sem]; done) | simp [go_sem, c1_1_1])
  have f2_1_1 : wx2.frozen? ⟨w.heap.size + 1, 1, none⟩ = false := bthaw bx (v := .int .i64 0) (by first | (simp [go_sem]; done) | simp [go_sem, c1_1_1]) (by first | (simp [go_sem]; done) | simp [go_sem, f1_1_1])
  have c2_1_2 : wx2.cell? ⟨w.heap.size + 1, 2, none⟩ = some (.int .i64 0) := bkeep bx (by first | (simp [go_sem]; done) | simp [go_sem, c1_1_2])
  have f2_1_2 : wx2.frozen? ⟨w.heap.size + 1, 2, none⟩ = false := bthaw bx (v := .int .i64 0) (by first | (simp [go_sem]; done) | simp [go_sem, c1_1_2]) (by first | (simp [go_sem]; done) | simp [go_sem, f1_1_2])
  have c2_1_3 : wx2.cell? ⟨w.heap.size + 1, 3, none⟩ = some (.int .i64 0) := bkeep bx (by first | (simp [go_sem]; done) | simp [go_sem, c1_1_3])
  have f2_1_3 : wx2.frozen? ⟨w.heap.size + 1, 3, none⟩ = false := bthaw bx (v := .int .i64 0) (by first | (simp [go_sem]; done) | simp [go_sem, c1_1_3]) (by first | (simp [go_sem]; done) | simp [go_sem, f1_1_3])
  have c2_1_4 : wx2.cell? ⟨w.heap.size + 1, 4, none⟩ = some (.int .i64 0) := bkeep bx (by first | (simp [go_sem]; done) | simp [go_sem, c1_1_4])
  have f2_1_4 : wx2.frozen? ⟨w.heap.size + 1, 4, none⟩ = false := bthaw bx (v := .int .i64 0) (by first | (simp [go_sem]; done) | simp [go_sem, c1_1_4]) (by first | (simp [go_sem]; done) | simp [go_sem, f1_1_4])
  have c2_1_5 : wx2.cell? ⟨w.heap.size + 1, 5, none⟩ = some (.bool false) := bkeep bx (by first | (simp [go_sem]; done) | simp [go_sem, c1_1_5])
  have f2_1_5 : wx2.frozen? ⟨w.heap.size + 1, 5, none⟩ = false := bthaw bx (v := .bool false) (by first | (simp [go_sem]; done) | simp [go_sem, c1_1_5]) (by first | (simp [go_sem]; done) | simp [go_sem, f1_1_5])
  have c2_2_0 : wx2.cell? ⟨w.heap.size + 1 + 1, 0, none⟩ = some (.int .i64 p) := bkeep bx (by first | (simp [go_sem]; done) | simp [go_sem, c1_2_0])
  have f2_2_0 : wx2.frozen? ⟨w.heap.size + 1 + 1, 0, none⟩ = false := bthaw bx (v := .int .i64 p) (by first | (simp [go_sem]; done) | simp [go_sem, c1_2_0]) (by first | (simp [go_sem]; done) | simp [go_sem, f1_2_0])
  have c2_2_1 : wx2.cell? ⟨w.heap.size + 1 + 1, 1, none⟩ = some (.int .i64 ip) := bkeep bx (by first | (simp [go_sem]; done) | simp [go_sem, c1_2_1])
  have f2_2_1 : wx2.frozen? ⟨w.heap.size + 1 + 1, 1, none⟩ = false := bthaw bx (v := .int .i64 ip) (by first | (simp [go_sem]; done) | simp [go_sem, c1_2_1]) (by first | (simp [go_sem]; done) | simp [go_sem, f1_2_1])
  have c2_2_2 : wx2.cell? ⟨w.heap.size + 1 + 1, 2, none⟩ = some (.int .i64 b) := bkeep bx (by first | (simp [go_sem]; done) | simp [go_sem, c1_2_2])
  have f2_2_2 : wx2.frozen? ⟨w.heap.size + 1 + 1, 2, none⟩ = false := bthaw bx (v := .int .i64 b) (by first | (simp [go_sem]; done) | simp [go_sem, c1_2_2]) (by first | (simp [go_sem]; done) | simp [go_sem, f1_2_2])
  have c2_2_3 : wx2.cell? ⟨w.heap.size + 1 + 1, 3, none⟩ = some (.int .i64 0) := bkeep bx (by first | (simp [go_sem]; done) | simp [go_sem, c1_2_3])
  have f2_2_3 : wx2.frozen? ⟨w.heap.size + 1 + 1, 3, none⟩ = false := bthaw bx (v := .int .i64 0) (by first | (simp [go_sem]; done) | simp [go_sem, c1_2_3]) (by first | (simp [go_sem]; done) | simp [go_sem, f1_2_3])
  have c2_2_4 : wx2.cell? ⟨w.heap.size + 1 + 1, 4, none⟩ = some (.int .i64 0) := bkeep bx (by first | (simp [go_sem]; done) | simp [go_sem, c1_2_4])
  have f2_2_4 : wx2.frozen? ⟨w.heap.size + 1 + 1, 4, none⟩ = false := bthaw bx (v := .int .i64 0) (by first | (simp [go_sem]; done) | simp [go_sem, c1_2_4]) (by first | (simp [go_sem]; done) | simp [go_sem, f1_2_4])
  have c2_2_5 : wx2.cell? ⟨w.heap.size + 1 + 1, 5, none⟩ = some (.bool false) := bkeep bx (by first | (simp [go_sem]; done) | simp [go_sem, c1_2_5])
  have f2_2_5 : wx2.frozen? ⟨w.heap.size + 1 + 1, 5, none⟩ = false := bthaw bx (v := .bool false) (by first | (simp [go_sem]; done) | simp [go_sem, c1_2_5]) (by first | (simp [go_sem]; done) | simp [go_sem, f1_2_5])
  have BX2 : Hid (Below w.heap.size w wx2) := ((BX1.out.setCell (p := ⟨w.heap.size + 1 + 1, _, _⟩) (by show w.heap.size ≤ w.heap.size + 1 + 1; omega) _).setCell (p := ⟨w.heap.size + 1 + 1, _, _⟩) (by show w.heap.size ≤ w.heap.size + 1 + 1; omega) _).trans (bx.mono (by have := BX1.out.size; simp <;> omega))
  clear bx c1_0_0 c1_0_1 c1_0_2 c1_0_3 c1_0_4 c1_0_5 c1_1_0 c1_1_1 c1_1_2 c1_1_3 c1_1_4 c1_1_5 c1_2_0 c1_2_1 c1_2_2 c1_2_3 c1_2_4 c1_2_5 f1_1_0 f1_1_1 f1_1_2 f1_1_3 f1_1_4 f1_1_5 f1_2_0 f1_2_1 f1_2_2 f1_2_3 f1_2_4 f1_2_5 BX1
  go_wp2
  (try simp only [Exit.inBlock, Exit.then])
  refine bodyPost_ret (v := .agg #[.int .i64 p, .int .i64 ip, .int .i64 b, .int .i64 lo, .int .i64 hi, .bool al]) (by simp [results, Tryz.results231, go_sem, c2_1_0, c2_1_1, c2_1_2, c2_1_3, c2_1_4, c2_1_5]; try rfl) rfl ?_
  exact ⟨rfl, (((((((((BX2.out.setCell (p := ⟨w.heap.size + 1 + 1, _, _⟩) (by show w.heap.size ≤ w.heap.size + 1 + 1; omega) _).setCell (p := ⟨w.heap.size + 1 + 1, _, _⟩) (by show w.heap.size ≤ w.heap.size + 1 + 1; omega) _).setCell (p := ⟨w.heap.size + 1 + 1, _, _⟩) (by show w.heap.size ≤ w.heap.size + 1 + 1; omega) _).setCell (p := ⟨w.heap.size + 1, _, _⟩) (by show w.heap.size ≤ w.heap.size + 1; omega) _).setCell (p := ⟨w.heap.size + 1, _, _⟩) (by show w.heap.size ≤ w.heap.size + 1; omega) _).setCell (p := ⟨w.heap.size + 1, _, _⟩) (by show w.heap.size ≤ w.heap.size + 1; omega) _).setCell (p := ⟨w.heap.size + 1, _, _⟩) (by show w.heap.size ≤ w.heap.size + 1; omega) _).setCell (p := ⟨w.heap.size + 1, _, _⟩) (by show w.heap.size ≤ w.heap.size + 1; omega) _).setCell (p := ⟨w.heap.size + 1, _, _⟩) (by show w.heap.size ≤ w.heap.size + 1; omega) _)⟩

set_option maxHeartbeats 1000000 in
theorem eqRule_any (p ip b lo hi : Int) (al : Bool) (w : World) :
    Calls Tryz.prog 246 #[.agg #[.int .i64 p, .int .i64 ip, .int .i64 b, .int .i64 lo, .int .i64 hi, .bool al], .agg #[.int .i64 p, .int .i64 ip, .int .i64 b, .int .i64 lo, .int .i64 hi, .bool al]] w fun e w' => e = .returned (.bool true) ∧ Grw w w' := by
  have HA : Hid (∀ w, Calls Tryz.prog 53 #[.agg #[.int .i64 ip, .int .i64 b], .agg #[.int .i64 ip, .int .i64 b]] w fun e w' => e = .returned (.bool true) ∧ Grw w w') := fun w => eqNet2 ip b w
  have HB : Hid (∀ w, Calls Tryz.prog 196 #[.agg #[.int .i64 lo, .int .i64 hi], .agg #[.int .i64 lo, .int .i64 hi]] w fun e w' => e = .returned (.bool true) ∧ Grw w w') := fun w => eqRange2 lo hi w
  have hp : (p != p) = false := by simp
  have ha : (al != al) = false := by simp
  go_enter Tryz.func246, Tryz.ntmps246
  go_wp2_with fail
  refine (HA.out _).mono ?_
  rintro e wx1 ⟨rfl, bx⟩
  have k0_0 : World.cell? _ ⟨w.heap.size, 0, none⟩ = some (.int .i64 p) := bx.keep (a := ⟨w.heap.size, 0, none⟩) (v := .int .i64 p) (by simp [go_sem])
  have k0_1 : World.cell? _ ⟨w.heap.size, 1, none⟩ = some (.int .i64 ip) := bx.keep (a := ⟨w.heap.size, 1, none⟩) (v := .int .i64 ip) (by simp [go_sem])
  have k0_2 : World.cell? _ ⟨w.heap.size, 2, none⟩ = some (.int .i64 b) := bx.keep (a := ⟨w.heap.size, 2, none⟩) (v := .int .i64 b) (by simp [go_sem])
  have k0_3 : World.cell? _ ⟨w.heap.size, 3, none⟩ = some (.int .i64 lo) := bx.keep (a := ⟨w.heap.size, 3, none⟩) (v := .int .i64 lo) (by simp [go_sem])
  have k0_4 : World.cell? _ ⟨w.heap.size, 4, none⟩ = some (.int .i64 hi) := bx.keep (a := ⟨w.heap.size, 4, none⟩) (v := .int .i64 hi) (by simp [go_sem])
  have k0_5 : World.cell? _ ⟨w.heap.size, 5, none⟩ = some (.bool al) := bx.keep (a := ⟨w.heap.size, 5, none⟩) (v := .bool al) (by simp [go_sem])
  have k1_0 : World.cell? _ ⟨w.heap.size + 1, 0, none⟩ = some (.int .i64 p) := bx.keep (a := ⟨w.heap.size + 1, 0, none⟩) (v := .int .i64 p) (by simp [go_sem])
  have k1_1 : World.cell? _ ⟨w.heap.size + 1, 1, none⟩ = some (.int .i64 ip) := bx.keep (a := ⟨w.heap.size + 1, 1, none⟩) (v := .int .i64 ip) (by simp [go_sem])
  have k1_2 : World.cell? _ ⟨w.heap.size + 1, 2, none⟩ = some (.int .i64 b) := bx.keep (a := ⟨w.heap.size + 1, 2, none⟩) (v := .int .i64 b) (by simp [go_sem])
  have k1_3 : World.cell? _ ⟨w.heap.size + 1, 3, none⟩ = some (.int .i64 lo) := bx.keep (a := ⟨w.heap.size + 1, 3, none⟩) (v := .int .i64 lo) (by simp [go_sem])
  have k1_4 : World.cell? _ ⟨w.heap.size + 1, 4, none⟩ = some (.int .i64 hi) := bx.keep (a := ⟨w.heap.size + 1, 4, none⟩) (v := .int .i64 hi) (by simp [go_sem])
  have k1_5 : World.cell? _ ⟨w.heap.size + 1, 5, none⟩ = some (.bool al) := bx.keep (a := ⟨w.heap.size + 1, 5, none⟩) (v := .bool al) (by simp [go_sem])
  have BX : Hid (Grw w _) := (((Grw.refl _).alloc _).alloc _).trans bx
  clear bx
  go_wp2_with fail
  refine (HB.out _).mono ?_
  rintro e wx2 ⟨rfl, bx⟩
  replace k0_0 := bx.keep k0_0
  replace k0_1 := bx.keep k0_1
  replace k0_2 := bx.keep k0_2
  replace k0_3 := bx.keep k0_3
  replace k0_4 := bx.keep k0_4
  replace k0_5 := bx.keep k0_5
  replace k1_0 := bx.keep k1_0
  replace k1_1 := bx.keep k1_1
  replace k1_2 := bx.keep k1_2
  replace k1_3 := bx.keep k1_3
  replace k1_4 := bx.keep k1_4
  replace k1_5 := bx.keep k1_5
  replace BX : Hid (Grw w _) := BX.out.trans bx
  clear bx
  go_wp2
  go_ret
  exact ⟨rfl, BX.out⟩

end Go.Proofs.YtlebblmlbhnppaaGreat
