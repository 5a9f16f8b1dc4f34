/- The walk of laws.FnExactConnOK. -/
import Derived.Test.YtfpebmlbkfnnhaaConS
import Derived.Test.YtfpebmlbkfnnhaaLawC
namespace Go.Proofs.Ytfpebmlbkfnnhaa
open Go.RowKit Go.PlainAid Go.Proofs.Ytfpebmlbkfnnhaa.Bt Go.Sort
set_option linter.unusedVariables false
set_option maxRecDepth 20000

set_option maxHeartbeats 4000000 in
theorem lawConnOK_any (mc : ByteArray) (ip po di st un nx wa : Int) (inn out : ByteArray) (fin : Bool) (w : World) (hmc : mc.size ≤ maxLen) (hinn : inn.size ≤ maxLen) (hout : out.size ≤ maxLen) (wip : (Lit.int .i64 ip).wf = true) (wpo : (Lit.int .i64 po).wf = true) (wdi : (Lit.int .i64 di).wf = true) (wst : (Lit.int .i64 st).wf = true) (wun : (Lit.int .i64 un).wf = true) (wnx : (Lit.int .i64 nx).wf = true) (wwa : (Lit.int .i64 wa).wf = true) :
    Calls Try.prog 6 #[.agg #[.string mc, .int .i64 ip, .int .i64 po, .int .i64 di, .int .i64 st, .int .i64 un, .int .i64 nx, .int .i64 wa, .string inn, .string out, .bool fin]] w fun e w' => e = .returned (.bool true) ∧ Below w.heap.size w w' := by
  unfold maxLen at hmc hinn hout
  have HZ : Hid (∀ w, Calls Try.prog 26 #[.agg #[.string mc, .int .i64 ip, .int .i64 po, .int .i64 di, .int .i64 st, .int .i64 un, .int .i64 nx, .int .i64 wa, .string inn, .string out, .bool fin], .int .i64 1048576] w fun e w' => ∃ r : Int, e = .returned (.int .i64 r) ∧ (0 ≤ r → r ≤ 1048576 ∧ (mc.size : Int) ≤ 1048576 ∧ (inn.size : Int) ≤ 1048576 ∧ (out.size : Int) ≤ 1048576) ∧ -1 ≤ r ∧ r ≤ 1048576 ∧ Grw w w') := fun w => szConn_any mc ip po di st un nx wa inn out fin 1048576 w (by omega) (by omega) (by omega) (by omega) (by omega)
  have HT : Hid (∀ w, Calls Try.prog 28 #[.agg #[.string mc, .int .i64 ip, .int .i64 po, .int .i64 di, .int .i64 st, .int .i64 un, .int .i64 nx, .int .i64 wa, .string inn, .string out, .bool fin]] w fun e w' => e = .returned (.agg #[.string mc, .int .i64 ip, .int .i64 po, .int .i64 di, .int .i64 st, .int .i64 un, .int .i64 nx, .int .i64 wa, .string inn, .string out, .bool fin]) ∧ Grw w w') := fun w => toConn_any mc ip po di st un nx wa inn out fin w
  have HS : Hid (mc.size ≤ 1048576 → inn.size ≤ 1048576 → out.size ≤ 1048576 → ∀ w, Calls Try.prog 27 #[.agg #[.string mc, .int .i64 ip, .int .i64 po, .int .i64 di, .int .i64 st, .int .i64 un, .int .i64 nx, .int .i64 wa, .string inn, .string out, .bool fin]] w fun e w' => e = .returned (.bool (okB ⟨mc, ip, po, di, st, un, nx, wa, inn, out, fin⟩)) ∧ Grw w w') := fun h1 h2 h3 w => specConOK_any mc ip po di st un nx wa inn out fin w h1 h2 h3
  have HI : Hid (mc.size ≤ 1048576 → inn.size ≤ 1048576 → out.size ≤ 1048576 → ∀ w, Calls Try.prog 14 #[.agg #[.string mc, .int .i64 ip, .int .i64 po, .int .i64 di, .int .i64 st, .int .i64 un, .int .i64 nx, .int .i64 wa, .string inn, .string out, .bool fin]] w fun e w' => e = .returned (.bool (okB ⟨mc, ip, po, di, st, un, nx, wa, inn, out, fin⟩)) ∧ Grw w w') := fun h1 h2 h3 w => implConOK_any mc ip po di st un nx wa inn out fin w (int_ub wpo) h1 h2 h3
  clear wip wpo wdi wst wun wnx wwa
  generalize okB ⟨mc, ip, po, di, st, un, nx, wa, inn, out, fin⟩ = z at HS HI
  have hz : (z != z) = false := by simp
  have BX : Hid (Grw w (w.alloc (.cells #[.string mc, .int .i64 ip, .int .i64 po, .int .i64 di, .int .i64 st, .int .i64 un, .int .i64 nx, .int .i64 wa, .string inn, .string out, .bool fin] 47))) := ((Grw.refl _).alloc _)
  have q0_0 : World.cell? (w.alloc (.cells #[.string mc, .int .i64 ip, .int .i64 po, .int .i64 di, .int .i64 st, .int .i64 un, .int .i64 nx, .int .i64 wa, .string inn, .string out, .bool fin] 47)) ⟨w.heap.size, 0, none⟩ = some (.string mc) := by simp [go_sem]
  have q0_1 : World.cell? (w.alloc (.cells #[.string mc, .int .i64 ip, .int .i64 po, .int .i64 di, .int .i64 st, .int .i64 un, .int .i64 nx, .int .i64 wa, .string inn, .string out, .bool fin] 47)) ⟨w.heap.size, 1, none⟩ = some (.int .i64 ip) := by simp [go_sem]
  have q0_2 : World.cell? (w.alloc (.cells #[.string mc, .int .i64 ip, .int .i64 po, .int .i64 di, .int .i64 st, .int .i64 un, .int .i64 nx, .int .i64 wa, .string inn, .string out, .bool fin] 47)) ⟨w.heap.size, 2, none⟩ = some (.int .i64 po) := by simp [go_sem]
  have q0_3 : World.cell? (w.alloc (.cells #[.string mc, .int .i64 ip, .int .i64 po, .int .i64 di, .int .i64 st, .int .i64 un, .int .i64 nx, .int .i64 wa, .string inn, .string out, .bool fin] 47)) ⟨w.heap.size, 3, none⟩ = some (.int .i64 di) := by simp [go_sem]
  have q0_4 : World.cell? (w.alloc (.cells #[.string mc, .int .i64 ip, .int .i64 po, .int .i64 di, .int .i64 st, .int .i64 un, .int .i64 nx, .int .i64 wa, .string inn, .string out, .bool fin] 47)) ⟨w.heap.size, 4, none⟩ = some (.int .i64 st) := by simp [go_sem]
  have q0_5 : World.cell? (w.alloc (.cells #[.string mc, .int .i64 ip, .int .i64 po, .int .i64 di, .int .i64 st, .int .i64 un, .int .i64 nx, .int .i64 wa, .string inn, .string out, .bool fin] 47)) ⟨w.heap.size, 5, none⟩ = some (.int .i64 un) := by simp [go_sem]
  have q0_6 : World.cell? (w.alloc (.cells #[.string mc, .int .i64 ip, .int .i64 po, .int .i64 di, .int .i64 st, .int .i64 un, .int .i64 nx, .int .i64 wa, .string inn, .string out, .bool fin] 47)) ⟨w.heap.size, 6, none⟩ = some (.int .i64 nx) := by simp [go_sem]
  have q0_7 : World.cell? (w.alloc (.cells #[.string mc, .int .i64 ip, .int .i64 po, .int .i64 di, .int .i64 st, .int .i64 un, .int .i64 nx, .int .i64 wa, .string inn, .string out, .bool fin] 47)) ⟨w.heap.size, 7, none⟩ = some (.int .i64 wa) := by simp [go_sem]
  have q0_8 : World.cell? (w.alloc (.cells #[.string mc, .int .i64 ip, .int .i64 po, .int .i64 di, .int .i64 st, .int .i64 un, .int .i64 nx, .int .i64 wa, .string inn, .string out, .bool fin] 47)) ⟨w.heap.size, 8, none⟩ = some (.string inn) := by simp [go_sem]
  have q0_9 : World.cell? (w.alloc (.cells #[.string mc, .int .i64 ip, .int .i64 po, .int .i64 di, .int .i64 st, .int .i64 un, .int .i64 nx, .int .i64 wa, .string inn, .string out, .bool fin] 47)) ⟨w.heap.size, 9, none⟩ = some (.string out) := by simp [go_sem]
  have q0_10 : World.cell? (w.alloc (.cells #[.string mc, .int .i64 ip, .int .i64 po, .int .i64 di, .int .i64 st, .int .i64 un, .int .i64 nx, .int .i64 wa, .string inn, .string out, .bool fin] 47)) ⟨w.heap.size, 10, none⟩ = some (.bool fin) := by simp [go_sem]
  go_enter Try.func6, Try.ntmps6
  go_wp2_with fail
  generalize (w.alloc (.cells #[.string mc, .int .i64 ip, .int .i64 po, .int .i64 di, .int .i64 st, .int .i64 un, .int .i64 nx, .int .i64 wa, .string inn, .string out, .bool fin] 47)) = W0 at *
  refine (HZ.out _).mono ?_
  rintro e W1 ⟨r, rfl, hr, hr1, hr2, g1⟩
  replace g1 := g1.below
  replace q0_0 := bkeep g1 q0_0
  replace q0_1 := bkeep g1 q0_1
  replace q0_2 := bkeep g1 q0_2
  replace q0_3 := bkeep g1 q0_3
  replace q0_4 := bkeep g1 q0_4
  replace q0_5 := bkeep g1 q0_5
  replace q0_6 := bkeep g1 q0_6
  replace q0_7 := bkeep g1 q0_7
  replace q0_8 := bkeep g1 q0_8
  replace q0_9 := bkeep g1 q0_9
  replace q0_10 := bkeep g1 q0_10
  replace BX : Hid (Below w.heap.size w W1) := BX.out.below.trans (g1.mono BX.out.below.size)
  clear g1
  by_cases hr0 : r < 0
  · go_wp2
    go_ret
    exact ⟨rfl, BX.out⟩
  have hsz := (hr (by omega)).2
  have HS2 := HS.out (by omega) (by omega) (by omega)
  have HI2 := HI.out (by omega) (by omega) (by omega)
  replace HS : Hid _ := HS2
  replace HI : Hid _ := HI2
  clear HS2 HI2 hr hsz HZ
  go_wp2_with fail
  refine (HT.out _).mono ?_
  rintro e W2 ⟨rfl, g2⟩
  replace g2 := g2.below
  replace q0_0 := bkeep g2 q0_0
  replace q0_1 := bkeep g2 q0_1
  replace q0_2 := bkeep g2 q0_2
  replace q0_3 := bkeep g2 q0_3
  replace q0_4 := bkeep g2 q0_4
  replace q0_5 := bkeep g2 q0_5
  replace q0_6 := bkeep g2 q0_6
  replace q0_7 := bkeep g2 q0_7
  replace q0_8 := bkeep g2 q0_8
  replace q0_9 := bkeep g2 q0_9
  replace q0_10 := bkeep g2 q0_10
  replace BX : Hid (Below w.heap.size w W2) := BX.out.trans (g2.mono BX.out.size)
  clear g2
  go_wp2_with fail
  refine (HS.out _).mono ?_
  rintro e W3 ⟨rfl, g3⟩
  replace g3 := g3.below
  replace q0_0 := bkeep g3 q0_0
  replace q0_1 := bkeep g3 q0_1
  replace q0_2 := bkeep g3 q0_2
  replace q0_3 := bkeep g3 q0_3
  replace q0_4 := bkeep g3 q0_4
  replace q0_5 := bkeep g3 q0_5
  replace q0_6 := bkeep g3 q0_6
  replace q0_7 := bkeep g3 q0_7
  replace q0_8 := bkeep g3 q0_8
  replace q0_9 := bkeep g3 q0_9
  replace q0_10 := bkeep g3 q0_10
  replace BX : Hid (Below w.heap.size w W3) := BX.out.trans (g3.mono BX.out.size)
  clear g3
  go_wp2_with fail
  refine (HT.out _).mono ?_
  rintro e W4 ⟨rfl, g4⟩
  replace g4 := g4.below
  replace q0_0 := bkeep g4 q0_0
  replace q0_1 := bkeep g4 q0_1
  replace q0_2 := bkeep g4 q0_2
  replace q0_3 := bkeep g4 q0_3
  replace q0_4 := bkeep g4 q0_4
  replace q0_5 := bkeep g4 q0_5
  replace q0_6 := bkeep g4 q0_6
  replace q0_7 := bkeep g4 q0_7
  replace q0_8 := bkeep g4 q0_8
  replace q0_9 := bkeep g4 q0_9
  replace q0_10 := bkeep g4 q0_10
  replace BX : Hid (Below w.heap.size w W4) := BX.out.trans (g4.mono BX.out.size)
  clear g4
  go_wp2_with fail
  refine (HI.out _).mono ?_
  rintro e W5 ⟨rfl, g5⟩
  replace g5 := g5.below
  replace q0_0 := bkeep g5 q0_0
  replace q0_1 := bkeep g5 q0_1
  replace q0_2 := bkeep g5 q0_2
  replace q0_3 := bkeep g5 q0_3
  replace q0_4 := bkeep g5 q0_4
  replace q0_5 := bkeep g5 q0_5
  replace q0_6 := bkeep g5 q0_6
  replace q0_7 := bkeep g5 q0_7
  replace q0_8 := bkeep g5 q0_8
  replace q0_9 := bkeep g5 q0_9
  replace q0_10 := bkeep g5 q0_10
  replace BX : Hid (Below w.heap.size w W5) := BX.out.trans (g5.mono BX.out.size)
  clear g5
  go_wp2
  go_ret
  exact ⟨rfl, BX.out⟩
end Go.Proofs.Ytfpebmlbkfnnhaa
