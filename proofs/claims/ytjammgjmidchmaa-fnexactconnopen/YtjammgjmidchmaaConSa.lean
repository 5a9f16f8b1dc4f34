/- ConnSay of the model. -/
import Derived.Test.YtjammgjmidchmaaConAg
import Derived.Laws.Concat
namespace Go.Proofs.Ytjammgjmidchmaa
open Go.RowKit Go.PlainAid Go.Proofs.Ytjammgjmidchmaa.Bt Go.Sort
set_option linter.unusedVariables false
set_option maxRecDepth 20000

theorem grown_set (w : World) (a : Addr) (u : Value) : w.grownBy (w.setCell a u) (some a.block) :=
  ⟨rfl, rfl, rfl, by simp [World.setCell], fun k _ hk => Below.heap_setCell _ _ _ _ (fun e => hk (by rw [e]))⟩
theorem OwnS.far {α : Type} {c : α → List Value} {K : Nat} {e : TypeId} {w : World} {B : Nat} {v : Value} {xs : List α} (h : OwnS c K e w B v xs) (a : Addr) (u : Value) (ha : a.block < B) : OwnS c K e (w.setCell a u) B v xs :=
  h.kept (grown_set w a u) (by
    cases hb : v.ownBlock with
    | none => exact Or.inl rfl
    | some k => exact Or.inr (fun he => by have := (h.lt k hb).1; cases he; omega))
set_option maxHeartbeats 4000000 in
theorem l10Say_any (mc : ByteArray) (ip po di st un nx wa : Int) (inn out : ByteArray) (fin : Bool) (t : ByteArray) (w : World) (ht : t.size ≤ 300) (ho : out.size ≤ 300) (hn : 0 ≤ nx ∧ nx ≤ 4294967295) :
    Calls Try.prog 63 #[.agg #[.string mc, .int .i64 ip, .int .i64 po, .int .i64 di, .int .i64 st, .int .i64 un, .int .i64 nx, .int .i64 wa, .string inn, .string out, .bool fin], .string t] w fun e w' => ∃ v, e = .returned (.tuple #[.agg #[.string mc, .int .i64 ip, .int .i64 po, .int .i64 di, .int .i64 3, .int .i64 un, .int .i64 (sqN (nx + (t.size : Int) + 1)), .int .i64 wa, .string inn, .string (out ++ t), .bool true], v]) ∧ OwnS sgG 7 27 w' w.heap.size v (puL po wa nx t true) ∧ Below w.heap.size w w' := by
  obtain ⟨hn0, hn1⟩ := hn
  have TP : Hid (∀ w, Calls Try.prog 82 #[.agg #[.string mc, .int .i64 ip, .int .i64 po, .int .i64 di, .int .i64 st, .int .i64 un, .int .i64 nx, .int .i64 wa, .string inn, .string out, .bool fin], .int .i64 nx, .string t, .bool true] w fun e w' => ∃ v, e = .returned v ∧ OwnS sgG 7 27 w' w.heap.size v (puL po wa nx t true) ∧ Below w.heap.size w w') := fun w => l10Pieces_any mc ip po di st un nx wa inn out fin nx t true w ht ⟨hn0, hn1⟩
  have TQ : Hid (∀ w, Calls Try.prog 65 #[.int .i64 (nx + (t.size : Int) + 1)] w fun e w' => e = .returned (.int .i64 (sqN (nx + (t.size : Int) + 1))) ∧ w' = w) := fun w => l10Seq_any _ w (by omega) (by omega)
  have hadd : ∀ wx : World, (Op.stringOp .add out t).run Try.prog wx = .ok (.string (out ++ t)) wx := fun wx => run_string_add_sum (P := Try.prog) (w := wx) _ _ (by omega)
  generalize sqN (nx + (t.size : Int) + 1) = NX at TQ ⊢
  have BW : Hid (Below w.heap.size w ((w.alloc (.cells #[.string mc, .int .i64 ip, .int .i64 po, .int .i64 di, .int .i64 st, .int .i64 un, .int .i64 nx, .int .i64 wa, .string inn, .string out, .bool fin] 24)).alloc (.cells #[.string ⟨#[]⟩, .int .i64 0, .int .i64 0, .int .i64 0, .int .i64 0, .int .i64 0, .int .i64 0, .int .i64 0, .string ⟨#[]⟩, .string ⟨#[]⟩, .bool false] 24))) := (((Below.refl _ _).alloc (Nat.le_refl _) _).alloc (by simp) _)
  go_enter Try.func63, Try.ntmps63
  go_wp2_with fail
  refine (TP.out _).mono ?_
  rintro e w1 ⟨v1, rfl, o1, b1⟩
  have q0 : w1.cell? ⟨w.heap.size, 0, none⟩ = some (.string mc) := bkeep b1 (by simp [go_sem])
  have p0 : w1.frozen? ⟨w.heap.size, 0, none⟩ = false := bthaw b1 (a := ⟨w.heap.size, 0, none⟩) (v := .string mc) (by simp [go_sem]) (by simp [go_sem])
  have q1 : w1.cell? ⟨w.heap.size, 1, none⟩ = some (.int .i64 ip) := bkeep b1 (by simp [go_sem])
  have p1 : w1.frozen? ⟨w.heap.size, 1, none⟩ = false := bthaw b1 (a := ⟨w.heap.size, 1, none⟩) (v := .int .i64 ip) (by simp [go_sem]) (by simp [go_sem])
  have q2 : w1.cell? ⟨w.heap.size, 2, none⟩ = some (.int .i64 po) := bkeep b1 (by simp [go_sem])
  have p2 : w1.frozen? ⟨w.heap.size, 2, none⟩ = false := bthaw b1 (a := ⟨w.heap.size, 2, none⟩) (v := .int .i64 po) (by simp [go_sem]) (by simp [go_sem])
  have q3 : w1.cell? ⟨w.heap.size, 3, none⟩ = some (.int .i64 di) := bkeep b1 (by simp [go_sem])
  have p3 : w1.frozen? ⟨w.heap.size, 3, none⟩ = false := bthaw b1 (a := ⟨w.heap.size, 3, none⟩) (v := .int .i64 di) (by simp [go_sem]) (by simp [go_sem])
  have q4 : w1.cell? ⟨w.heap.size, 4, none⟩ = some (.int .i64 st) := bkeep b1 (by simp [go_sem])
  have p4 : w1.frozen? ⟨w.heap.size, 4, none⟩ = false := bthaw b1 (a := ⟨w.heap.size, 4, none⟩) (v := .int .i64 st) (by simp [go_sem]) (by simp [go_sem])
  have q5 : w1.cell? ⟨w.heap.size, 5, none⟩ = some (.int .i64 un) := bkeep b1 (by simp [go_sem])
  have p5 : w1.frozen? ⟨w.heap.size, 5, none⟩ = false := bthaw b1 (a := ⟨w.heap.size, 5, none⟩) (v := .int .i64 un) (by simp [go_sem]) (by simp [go_sem])
  have q6 : w1.cell? ⟨w.heap.size, 6, none⟩ = some (.int .i64 nx) := bkeep b1 (by simp [go_sem])
  have p6 : w1.frozen? ⟨w.heap.size, 6, none⟩ = false := bthaw b1 (a := ⟨w.heap.size, 6, none⟩) (v := .int .i64 nx) (by simp [go_sem]) (by simp [go_sem])
  have q7 : w1.cell? ⟨w.heap.size, 7, none⟩ = some (.int .i64 wa) := bkeep b1 (by simp [go_sem])
  have p7 : w1.frozen? ⟨w.heap.size, 7, none⟩ = false := bthaw b1 (a := ⟨w.heap.size, 7, none⟩) (v := .int .i64 wa) (by simp [go_sem]) (by simp [go_sem])
  have q8 : w1.cell? ⟨w.heap.size, 8, none⟩ = some (.string inn) := bkeep b1 (by simp [go_sem])
  have p8 : w1.frozen? ⟨w.heap.size, 8, none⟩ = false := bthaw b1 (a := ⟨w.heap.size, 8, none⟩) (v := .string inn) (by simp [go_sem]) (by simp [go_sem])
  have q9 : w1.cell? ⟨w.heap.size, 9, none⟩ = some (.string out) := bkeep b1 (by simp [go_sem])
  have p9 : w1.frozen? ⟨w.heap.size, 9, none⟩ = false := bthaw b1 (a := ⟨w.heap.size, 9, none⟩) (v := .string out) (by simp [go_sem]) (by simp [go_sem])
  have q10 : w1.cell? ⟨w.heap.size, 10, none⟩ = some (.bool fin) := bkeep b1 (by simp [go_sem])
  have p10 : w1.frozen? ⟨w.heap.size, 10, none⟩ = false := bthaw b1 (a := ⟨w.heap.size, 10, none⟩) (v := .bool fin) (by simp [go_sem]) (by simp [go_sem])
  have z0 : w1.cell? ⟨w.heap.size + 1, 0, none⟩ = some (.string ⟨#[]⟩) := bkeep b1 (by simp [go_sem])
  have f0 : w1.frozen? ⟨w.heap.size + 1, 0, none⟩ = false := bthaw b1 (a := ⟨w.heap.size + 1, 0, none⟩) (v := .string ⟨#[]⟩) (by simp [go_sem]) (by simp [go_sem])
  have z1 : w1.cell? ⟨w.heap.size + 1, 1, none⟩ = some (.int .i64 0) := bkeep b1 (by simp [go_sem])
  have f1 : w1.frozen? ⟨w.heap.size + 1, 1, none⟩ = false := bthaw b1 (a := ⟨w.heap.size + 1, 1, none⟩) (v := .int .i64 0) (by simp [go_sem]) (by simp [go_sem])
  have z2 : w1.cell? ⟨w.heap.size + 1, 2, none⟩ = some (.int .i64 0) := bkeep b1 (by simp [go_sem])
  have f2 : w1.frozen? ⟨w.heap.size + 1, 2, none⟩ = false := bthaw b1 (a := ⟨w.heap.size + 1, 2, none⟩) (v := .int .i64 0) (by simp [go_sem]) (by simp [go_sem])
  have z3 : w1.cell? ⟨w.heap.size + 1, 3, none⟩ = some (.int .i64 0) := bkeep b1 (by simp [go_sem])
  have f3 : w1.frozen? ⟨w.heap.size + 1, 3, none⟩ = false := bthaw b1 (a := ⟨w.heap.size + 1, 3, none⟩) (v := .int .i64 0) (by simp [go_sem]) (by simp [go_sem])
  have z4 : w1.cell? ⟨w.heap.size + 1, 4, none⟩ = some (.int .i64 0) := bkeep b1 (by simp [go_sem])
  have f4 : w1.frozen? ⟨w.heap.size + 1, 4, none⟩ = false := bthaw b1 (a := ⟨w.heap.size + 1, 4, none⟩) (v := .int .i64 0) (by simp [go_sem]) (by simp [go_sem])
  have z5 : w1.cell? ⟨w.heap.size + 1, 5, none⟩ = some (.int .i64 0) := bkeep b1 (by simp [go_sem])
  have f5 : w1.frozen? ⟨w.heap.size + 1, 5, none⟩ = false := bthaw b1 (a := ⟨w.heap.size + 1, 5, none⟩) (v := .int .i64 0) (by simp [go_sem]) (by simp [go_sem])
  have z6 : w1.cell? ⟨w.heap.size + 1, 6, none⟩ = some (.int .i64 0) := bkeep b1 (by simp [go_sem])
  have f6 : w1.frozen? ⟨w.heap.size + 1, 6, none⟩ = false := bthaw b1 (a := ⟨w.heap.size + 1, 6, none⟩) (v := .int .i64 0) (by simp [go_sem]) (by simp [go_sem])
  have z7 : w1.cell? ⟨w.heap.size + 1, 7, none⟩ = some (.int .i64 0) := bkeep b1 (by simp [go_sem])
  have f7 : w1.frozen? ⟨w.heap.size + 1, 7, none⟩ = false := bthaw b1 (a := ⟨w.heap.size + 1, 7, none⟩) (v := .int .i64 0) (by simp [go_sem]) (by simp [go_sem])
  have z8 : w1.cell? ⟨w.heap.size + 1, 8, none⟩ = some (.string ⟨#[]⟩) := bkeep b1 (by simp [go_sem])
  have f8 : w1.frozen? ⟨w.heap.size + 1, 8, none⟩ = false := bthaw b1 (a := ⟨w.heap.size + 1, 8, none⟩) (v := .string ⟨#[]⟩) (by simp [go_sem]) (by simp [go_sem])
  have z9 : w1.cell? ⟨w.heap.size + 1, 9, none⟩ = some (.string ⟨#[]⟩) := bkeep b1 (by simp [go_sem])
  have f9 : w1.frozen? ⟨w.heap.size + 1, 9, none⟩ = false := bthaw b1 (a := ⟨w.heap.size + 1, 9, none⟩) (v := .string ⟨#[]⟩) (by simp [go_sem]) (by simp [go_sem])
  have z10 : w1.cell? ⟨w.heap.size + 1, 10, none⟩ = some (.bool false) := bkeep b1 (by simp [go_sem])
  have f10 : w1.frozen? ⟨w.heap.size + 1, 10, none⟩ = false := bthaw b1 (a := ⟨w.heap.size + 1, 10, none⟩) (v := .bool false) (by simp [go_sem]) (by simp [go_sem])
  have X1 : Hid (OwnS sgG 7 27 w1 (w.heap.size + 2) v1 (puL po wa nx t true) ∧ Below w.heap.size w w1) := ⟨o1.lower (by simp), BW.out.trans (b1.mono (by simp; omega))⟩
  clear o1 b1 TP BW
  go_wp2_with fail
  refine (TQ.out _).mono ?_
  rintro e w9 ⟨rfl, hw9⟩
  have X9 : Hid (OwnS sgG 7 27 w9 (w.heap.size + 2) v1 (puL po wa nx t true) ∧ Below w.heap.size w w9) := by
    rw [hw9]
    exact ⟨((X1.out.1.far _ _ (by simp)).far _ _ (by simp)).far _ _ (by simp), ((X1.out.2.setCell (Nat.le_refl _) _).setCell (Nat.le_refl _) _).setCell (Nat.le_refl _) _⟩
  have x0 : w9.cell? ⟨w.heap.size, 0, none⟩ = some (.string mc) := by rw [hw9]; simp [go_sem, q0]
  have g0 : w9.frozen? ⟨w.heap.size, 0, none⟩ = false := by rw [hw9]; simp [p0]
  have x1 : w9.cell? ⟨w.heap.size, 1, none⟩ = some (.int .i64 ip) := by rw [hw9]; simp [go_sem, q1]
  have g1 : w9.frozen? ⟨w.heap.size, 1, none⟩ = false := by rw [hw9]; simp [p1]
  have x2 : w9.cell? ⟨w.heap.size, 2, none⟩ = some (.int .i64 po) := by rw [hw9]; simp [go_sem, q2]
  have g2 : w9.frozen? ⟨w.heap.size, 2, none⟩ = false := by rw [hw9]; simp [p2]
  have x3 : w9.cell? ⟨w.heap.size, 3, none⟩ = some (.int .i64 di) := by rw [hw9]; simp [go_sem, q3]
  have g3 : w9.frozen? ⟨w.heap.size, 3, none⟩ = false := by rw [hw9]; simp [p3]
  have x4 : w9.cell? ⟨w.heap.size, 4, none⟩ = some (.int .i64 3) := by rw [hw9]; simp [go_sem, q4]
  have g4 : w9.frozen? ⟨w.heap.size, 4, none⟩ = false := by rw [hw9]; simp [p4]
  have x5 : w9.cell? ⟨w.heap.size, 5, none⟩ = some (.int .i64 un) := by rw [hw9]; simp [go_sem, q5]
  have g5 : w9.frozen? ⟨w.heap.size, 5, none⟩ = false := by rw [hw9]; simp [p5]
  have x6 : w9.cell? ⟨w.heap.size, 6, none⟩ = some (.int .i64 nx) := by rw [hw9]; simp [go_sem, q6]
  have g6 : w9.frozen? ⟨w.heap.size, 6, none⟩ = false := by rw [hw9]; simp [p6]
  have x7 : w9.cell? ⟨w.heap.size, 7, none⟩ = some (.int .i64 wa) := by rw [hw9]; simp [go_sem, q7]
  have g7 : w9.frozen? ⟨w.heap.size, 7, none⟩ = false := by rw [hw9]; simp [p7]
  have x8 : w9.cell? ⟨w.heap.size, 8, none⟩ = some (.string inn) := by rw [hw9]; simp [go_sem, q8]
  have g8 : w9.frozen? ⟨w.heap.size, 8, none⟩ = false := by rw [hw9]; simp [p8]
  have x9 : w9.cell? ⟨w.heap.size, 9, none⟩ = some (.string (out ++ t)) := by rw [hw9]; simp [go_sem, q9]
  have g9 : w9.frozen? ⟨w.heap.size, 9, none⟩ = false := by rw [hw9]; simp [p9]
  have x10 : w9.cell? ⟨w.heap.size, 10, none⟩ = some (.bool true) := by rw [hw9]; simp [go_sem, q10]
  have g10 : w9.frozen? ⟨w.heap.size, 10, none⟩ = false := by rw [hw9]; simp [p10]
  have y0 : w9.cell? ⟨w.heap.size + 1, 0, none⟩ = some (.string ⟨#[]⟩) := by rw [hw9]; simp [go_sem, z0]
  have h0 : w9.frozen? ⟨w.heap.size + 1, 0, none⟩ = false := by rw [hw9]; simp [f0]
  have y1 : w9.cell? ⟨w.heap.size + 1, 1, none⟩ = some (.int .i64 0) := by rw [hw9]; simp [go_sem, z1]
  have h1 : w9.frozen? ⟨w.heap.size + 1, 1, none⟩ = false := by rw [hw9]; simp [f1]
  have y2 : w9.cell? ⟨w.heap.size + 1, 2, none⟩ = some (.int .i64 0) := by rw [hw9]; simp [go_sem, z2]
  have h2 : w9.frozen? ⟨w.heap.size + 1, 2, none⟩ = false := by rw [hw9]; simp [f2]
  have y3 : w9.cell? ⟨w.heap.size + 1, 3, none⟩ = some (.int .i64 0) := by rw [hw9]; simp [go_sem, z3]
  have h3 : w9.frozen? ⟨w.heap.size + 1, 3, none⟩ = false := by rw [hw9]; simp [f3]
  have y4 : w9.cell? ⟨w.heap.size + 1, 4, none⟩ = some (.int .i64 0) := by rw [hw9]; simp [go_sem, z4]
  have h4 : w9.frozen? ⟨w.heap.size + 1, 4, none⟩ = false := by rw [hw9]; simp [f4]
  have y5 : w9.cell? ⟨w.heap.size + 1, 5, none⟩ = some (.int .i64 0) := by rw [hw9]; simp [go_sem, z5]
  have h5 : w9.frozen? ⟨w.heap.size + 1, 5, none⟩ = false := by rw [hw9]; simp [f5]
  have y6 : w9.cell? ⟨w.heap.size + 1, 6, none⟩ = some (.int .i64 0) := by rw [hw9]; simp [go_sem, z6]
  have h6 : w9.frozen? ⟨w.heap.size + 1, 6, none⟩ = false := by rw [hw9]; simp [f6]
  have y7 : w9.cell? ⟨w.heap.size + 1, 7, none⟩ = some (.int .i64 0) := by rw [hw9]; simp [go_sem, z7]
  have h7 : w9.frozen? ⟨w.heap.size + 1, 7, none⟩ = false := by rw [hw9]; simp [f7]
  have y8 : w9.cell? ⟨w.heap.size + 1, 8, none⟩ = some (.string ⟨#[]⟩) := by rw [hw9]; simp [go_sem, z8]
  have h8 : w9.frozen? ⟨w.heap.size + 1, 8, none⟩ = false := by rw [hw9]; simp [f8]
  have y9 : w9.cell? ⟨w.heap.size + 1, 9, none⟩ = some (.string ⟨#[]⟩) := by rw [hw9]; simp [go_sem, z9]
  have h9 : w9.frozen? ⟨w.heap.size + 1, 9, none⟩ = false := by rw [hw9]; simp [f9]
  have y10 : w9.cell? ⟨w.heap.size + 1, 10, none⟩ = some (.bool false) := by rw [hw9]; simp [go_sem, z10]
  have h10 : w9.frozen? ⟨w.heap.size + 1, 10, none⟩ = false := by rw [hw9]; simp [f10]
  clear hw9 X1 TQ hadd q0 p0 z0 f0 q1 p1 z1 f1 q2 p2 z2 f2 q3 p3 z3 f3 q4 p4 z4 f4 q5 p5 z5 f5 q6 p6 z6 f6 q7 p7 z7 f7 q8 p8 z8 f8 q9 p9 z9 f9 q10 p10 z10 f10
  go_wp2
  (try simp only [Exit.inBlock, Exit.then])
  refine bodyPost_ret (v := .tuple #[.agg #[.string mc, .int .i64 ip, .int .i64 po, .int .i64 di, .int .i64 3, .int .i64 un, .int .i64 NX, .int .i64 wa, .string inn, .string (out ++ t), .bool true], v1]) (by simp [results, Try.results63, go_sem, y0, y1, y2, y3, y4, y5, y6, y7, y8, y9, y10]; try rfl) rfl ?_
  refine ⟨v1, rfl, ?_, ?_⟩
  · exact ((((((((((((X9.out.1.far ⟨w.heap.size, 6, none⟩ (.int .i64 NX) (by simp)).far _ _ (by simp)).far _ _ (by simp)).far _ _ (by simp)).far _ _ (by simp)).far _ _ (by simp)).far _ _ (by simp)).far _ _ (by simp)).far _ _ (by simp)).far _ _ (by simp)).far _ _ (by simp)).far _ _ (by simp)).lower (by omega)
  · exact (((((((((((X9.out.2.setCell (p := ⟨w.heap.size, 6, none⟩) (Nat.le_refl _) (.int .i64 NX)).setCell (Nat.le_succ _) _).setCell (Nat.le_succ _) _).setCell (Nat.le_succ _) _).setCell (Nat.le_succ _) _).setCell (Nat.le_succ _) _).setCell (Nat.le_succ _) _).setCell (Nat.le_succ _) _).setCell (Nat.le_succ _) _).setCell (Nat.le_succ _) _).setCell (Nat.le_succ _) _).setCell (Nat.le_succ _) _
end Go.Proofs.Ytjammgjmidchmaa
