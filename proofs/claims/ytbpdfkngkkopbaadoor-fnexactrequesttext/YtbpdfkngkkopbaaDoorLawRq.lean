/- The walk of the exact law of RequestText. -/
import Derived.Test.YtbpdfkngkkopbaaDoorReqI
namespace Go.Proofs.YtbpdfkngkkopbaaDoor
open Go.RowKit Go.PlainAid Go.Sort
set_option linter.unusedVariables false
set_option maxRecDepth 20000

set_option maxHeartbeats 2000000 in
theorem toRequest_any (me pa bo : ByteArray) (w : World) :
    Calls Tryd.prog 25 #[.agg #[.string me, .string pa, .string bo]] w fun e w' => e = .returned (.agg #[.string me, .string pa, .string bo]) ∧ Grw w w' := by
  go_enter Tryd.func25, Tryd.ntmps25
  go_wp2
  (try simp only [Exit.inBlock, Exit.then])
  refine bodyPost_ret (v := .agg #[.string me, .string pa, .string bo]) (by simp [results, Tryd.results25, go_sem]; try rfl) rfl ?_
  exact ⟨rfl, ((((Grw.refl _).alloc _).alloc _).alloc _)⟩
set_option maxHeartbeats 1000000 in
theorem szRequest_any (me pa bo : ByteArray) (l : Int) (w : World) (h1 : me.size ≤ 9223372036854775807) (h2 : pa.size ≤ 9223372036854775807) (h3 : bo.size ≤ 9223372036854775807) (h0 : 0 ≤ l) (hl : l ≤ 1048576) :
    Calls Tryd.prog 23 #[.agg #[.string me, .string pa, .string bo], .int .i64 l] w fun e w' => ∃ r : Int, e = .returned (.int .i64 r) ∧ -1 ≤ r ∧ r ≤ 1048576 ∧ Grw w w' := by
  by_cases hx0 : l - (me.size : Int) < 0
  · go_enter Tryd.func23, Tryd.ntmps23
    go_wp2
    go_ret
    exact ⟨-1, rfl, by omega, by omega, (Grw.refl _).alloc _⟩
  by_cases hx1 : l - (me.size : Int) - (pa.size : Int) < 0
  · go_enter Tryd.func23, Tryd.ntmps23
    go_wp2
    go_ret
    exact ⟨-1, rfl, by omega, by omega, (Grw.refl _).alloc _⟩
  by_cases hx2 : l - (me.size : Int) - (pa.size : Int) - (bo.size : Int) < 0
  · go_enter Tryd.func23, Tryd.ntmps23
    go_wp2
    go_ret
    exact ⟨-1, rfl, by omega, by omega, (Grw.refl _).alloc _⟩
  go_enter Tryd.func23, Tryd.ntmps23
  go_wp2
  go_ret
  exact ⟨_, rfl, by omega, by omega, (Grw.refl _).alloc _⟩
set_option maxHeartbeats 1000000 in
theorem lawRq_any (me pa bo : ByteArray) (w : World) (hm : me.size ≤ maxLen) (hp : pa.size ≤ maxLen) (hb : bo.size ≤ maxLen) :
    Calls Tryd.prog 5 #[.agg #[.string me, .string pa, .string bo]] w fun e w' => e = .returned (.bool true) ∧ Below w.heap.size w w' := by
  unfold maxLen at hm hp hb
  have HZ : Hid (∀ w, Calls Tryd.prog 23 #[.agg #[.string me, .string pa, .string bo], .int .i64 1048576] w fun e w' => ∃ r : Int, e = .returned (.int .i64 r) ∧ -1 ≤ r ∧ r ≤ 1048576 ∧ Grw w w') := fun w => szRequest_any me pa bo 1048576 w (by omega) (by omega) (by omega) (by omega) (by omega)
  have HT : Hid (∀ w, Calls Tryd.prog 25 #[.agg #[.string me, .string pa, .string bo]] w fun e w' => e = .returned (.agg #[.string me, .string pa, .string bo]) ∧ Grw w w') := fun w => toRequest_any me pa bo w
  have HS : Hid (∀ w, Calls Tryd.prog 24 #[.agg #[.string me, .string pa, .string bo]] w fun e w' => e = .returned (.tuple #[.string (rqS me pa bo), .int .i64 (rqC me pa bo)]) ∧ Below w.heap.size w w') := fun w => specRq_any me pa bo w (by omega) (by omega)
  have HI : Hid (∀ w, Calls Tryd.prog 26 #[.agg #[.string me, .string pa, .string bo]] w fun e w' => e = .returned (.tuple #[.string (rqS me pa bo), .int .i64 (rqC me pa bo)]) ∧ Below w.heap.size w w') := fun w => implRq_any me pa bo w (by omega) (by omega)
  generalize rqS me pa bo = t at HS HI
  generalize rqC me pa bo = c at HS HI
  have hnc : (c != c) = false := by simp
  have hnt : (t.toList == t.toList) = true := by simp
  have B0 : Hid (Below w.heap.size w (w.alloc (.cells #[.string me, .string pa, .string bo] 41))) := (Below.refl _ _).alloc (Nat.le_refl _) _
  go_enter Tryd.func5, Tryd.ntmps5
  go_wp2_with fail
  refine (HZ.out _).mono ?_
  rintro e w1 ⟨r, rfl, hr1, hr2, g1⟩
  have B1 : Hid (Below w.heap.size w w1) := by first | exact g1.below | exact B0.out.trans (g1.below.mono (by simp))
  have k0 : w1.cell? ⟨w.heap.size, 0, none⟩ = some (.string me) := g1.keep (by simp [go_sem])
  have k1 : w1.cell? ⟨w.heap.size, 1, none⟩ = some (.string pa) := g1.keep (by simp [go_sem])
  have k2 : w1.cell? ⟨w.heap.size, 2, none⟩ = some (.string bo) := g1.keep (by simp [go_sem])
  clear g1
  by_cases hr0 : r < 0
  · go_wp2
    go_ret
    exact ⟨rfl, B1.out⟩
  go_wp2_with fail
  refine (HT.out _).mono ?_
  rintro e w2 ⟨rfl, g2⟩
  have B2 : Hid (Below w.heap.size w w2) := B1.out.trans (g2.below.mono B1.out.size)
  replace k0 := bkeep (g2.below) k0
  replace k1 := bkeep (g2.below) k1
  replace k2 := bkeep (g2.below) k2
  clear g2 B1
  go_wp2_with fail
  refine (HS.out _).mono ?_
  rintro e w3 ⟨rfl, b3⟩
  have B3 : Hid (Below w.heap.size w w3) := B2.out.trans (b3.mono B2.out.size)
  replace k0 := bkeep (b3) k0
  replace k1 := bkeep (b3) k1
  replace k2 := bkeep (b3) k2
  clear b3 B2
  go_wp2_with fail
  refine (HT.out _).mono ?_
  rintro e w4 ⟨rfl, g4⟩
  have B4 : Hid (Below w.heap.size w w4) := B3.out.trans (g4.below.mono B3.out.size)
  replace k0 := bkeep (g4.below) k0
  replace k1 := bkeep (g4.below) k1
  replace k2 := bkeep (g4.below) k2
  clear g4 B3
  go_wp2_with fail
  refine (HI.out _).mono ?_
  rintro e w5 ⟨rfl, b5⟩
  have B5 : Hid (Below w.heap.size w w5) := B4.out.trans (b5.mono B4.out.size)
  clear b5 B4
  go_wp2
  go_ret
  exact ⟨rfl, B5.out⟩
end Go.Proofs.YtbpdfkngkkopbaaDoor
