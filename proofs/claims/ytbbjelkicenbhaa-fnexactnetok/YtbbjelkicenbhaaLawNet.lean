/- The walks of laws.FnExactNetOK, FnExactNetHas: true at every net and address. -/
import Derived.Test.YtbbjelkicenbhaaNetW
namespace Go.Proofs.Ytbbjelkicenbhaa
open Go.RowKit Go.PlainAid Go.Proofs.Ytbbjelkicenbhaa.Bt Go.Sort
set_option linter.unusedVariables false
set_option maxRecDepth 20000

theorem toNet_grw (f0 f1 : Int) (w : World) :
    Calls Try.prog 26 #[.agg #[.int .i64 f0, .int .i64 f1]] w fun e w' => e = .returned (.agg #[.int .i64 f0, .int .i64 f1]) ∧ Grw w w' := by
  go_enter Try.func26, Try.ntmps26
  go_wp2
  (try simp only [Exit.inBlock, Exit.then])
  refine bodyPost_ret (v := .agg #[.int .i64 f0, .int .i64 f1]) (by simp [results, Try.results26, go_sem]; try rfl) rfl ?_
  exact ⟨rfl, (((Grw.refl _).alloc _).alloc _).alloc _⟩
theorem toNet_any (f0 f1 : Int) (w : World) :
    Calls Try.prog 26 #[.agg #[.int .i64 f0, .int .i64 f1]] w fun e w' => e = .returned (.agg #[.int .i64 f0, .int .i64 f1]) ∧ Below w.heap.size w w' :=
  (toNet_grw f0 f1 w).mono fun e w' h => ⟨h.1, h.2.below⟩
theorem lawNetOK_any (ip b : Int) (w : World) :
    Calls Try.prog 5 #[.agg #[.int .i64 ip, .int .i64 b]] w fun e w' => e = .returned (.bool true) ∧ Below w.heap.size w w' := by
  have HT : Hid (∀ w, Calls Try.prog 26 #[.agg #[.int .i64 ip, .int .i64 b]] w fun e w' => e = .returned (.agg #[.int .i64 ip, .int .i64 b]) ∧ Below w.heap.size w w') := fun w => toNet_any ip b w
  have HS : Hid (∀ w, Calls Try.prog 25 #[.agg #[.int .i64 ip, .int .i64 b]] w fun e w' => e = .returned (.bool (nB ip b)) ∧ Below w.heap.size w w') := fun w => (specNetOK_any ip b w).mono fun e w' h => ⟨h.1, h.2.below⟩
  have HI : Hid (∀ w, Calls Try.prog 27 #[.agg #[.int .i64 ip, .int .i64 b]] w fun e w' => e = .returned (.bool (nB ip b)) ∧ Below w.heap.size w w') := fun w => (implNetOK_any ip b w).mono fun e w' h => ⟨h.1, h.2.below⟩
  generalize nB ip b = q at HS HI
  have hne : (q != q) = false := by simp
  go_enter Try.func5, Try.ntmps5
  go_wp2_with fail
  refine (HT.out _).mono ?_
  rintro e w1 ⟨rfl, b1⟩
  have k0 : w1.cell? ⟨w.heap.size, 0, none⟩ = some (.int .i64 ip) := by rw [b1.cell (by simp)]; simp
  have k1 : w1.cell? ⟨w.heap.size, 1, none⟩ = some (.int .i64 b) := by rw [b1.cell (by simp)]; simp
  have B1 : Hid (Below w.heap.size w w1) := ((Below.refl _ _).alloc (Nat.le_refl _) _).trans (b1.mono (by simp))
  clear b1
  go_wp2_with fail
  refine (HS.out _).mono ?_
  rintro e w2 ⟨rfl, b2⟩
  have hl : w.heap.size < w1.heap.size := World.block_lt_of_cell? w1 _ k0
  have k0 : w2.cell? ⟨w.heap.size, 0, none⟩ = some (.int .i64 ip) := by rw [b2.cell (by exact hl)]; exact k0
  have k1 : w2.cell? ⟨w.heap.size, 1, none⟩ = some (.int .i64 b) := by rw [b2.cell (by exact hl)]; exact k1
  have B2 : Hid (Below w.heap.size w w2) := B1.out.trans (b2.mono (by omega))
  clear b2
  go_wp2_with fail
  refine (HT.out _).mono ?_
  rintro e w3 ⟨rfl, b3⟩
  have hl2 : w.heap.size < w2.heap.size := World.block_lt_of_cell? w2 _ k0
  have B3 : Hid (Below w.heap.size w w3) := B2.out.trans (b3.mono (by omega))
  have z3 := b3.size
  clear b3 k0 k1
  go_wp2_with fail
  refine (HI.out _).mono ?_
  rintro e w4 ⟨rfl, b4⟩
  have B4 : Hid (Below w.heap.size w w4) := B3.out.trans (b4.mono (by omega))
  clear b4
  go_wp2
  go_ret
  exact ⟨rfl, B4.out⟩
end Go.Proofs.Ytbbjelkicenbhaa
