/- The walk of laws.FnExactRuleText. -/
import Derived.Test.YtcgdpijmfgkalacDoorRtI
namespace Go.Proofs.YtcgdpijmfgkalacDoor
open Go.RowKit Go.PlainAid Go.Proofs.YtcgdpijmfgkalacDoor.Bt Go.Sort
set_option linter.unusedVariables false
set_option maxRecDepth 20000

theorem specRuleText_no (p ip b lo hi : Int) (al : Bool) (w : World) (h : ruB ⟨p, ip, b, lo, hi, al⟩ = false) :
    Calls Tryd.prog 8 #[.agg #[.int .i64 p, .int .i64 ip, .int .i64 b, .int .i64 lo, .int .i64 hi, .bool al]] w fun e w' => e = .returned (.tuple #[.string ⟨#[]⟩, .int .i64 1]) ∧ Below w.heap.size w w' := by
  have HO : Hid (∀ w, Calls Tryd.prog 19 #[.agg #[.int .i64 p, .int .i64 ip, .int .i64 b, .int .i64 lo, .int .i64 hi, .bool al]] w fun e w' => e = .returned (.bool false) ∧ Grw w w') := fun w => h ▸ specRuleOK_any p ip b lo hi al w
  clear h
  go_enter Tryd.func8, Tryd.ntmps8
  go_wp2_with fail
  refine (HO.out _).mono ?_
  rintro e wx1 ⟨rfl, bx⟩
  have BX : Hid (Grw w _) := ((Grw.refl _).alloc _).trans bx
  clear bx
  go_wp2
  go_ret2
  exact ⟨rfl, BX.out.below⟩

theorem implRuleText_no (p ip b lo hi : Int) (al : Bool) (w : World) (hl : lo ≤ 9223372036854775807) (hh : hi ≤ 9223372036854775807) (h : ruB ⟨p, ip, b, lo, hi, al⟩ = false) :
    Calls Tryd.prog 10 #[.agg #[.int .i64 p, .int .i64 ip, .int .i64 b, .int .i64 lo, .int .i64 hi, .bool al]] w fun e w' => e = .returned (.tuple #[.string ⟨#[]⟩, .int .i64 1]) ∧ Below w.heap.size w w' := by
  have HO : Hid (∀ w, Calls Tryd.prog 16 #[.agg #[.int .i64 p, .int .i64 ip, .int .i64 b, .int .i64 lo, .int .i64 hi, .bool al]] w fun e w' => e = .returned (.bool false) ∧ Grw w w') := fun w => h ▸ implRuleOK_any p ip b lo hi al w hl hh
  clear h
  go_enter Tryd.func10, Tryd.ntmps10
  go_wp2_with fail
  refine (HO.out _).mono ?_
  rintro e wx1 ⟨rfl, bx⟩
  have BX : Hid (Grw w _) := ((Grw.refl _).alloc _).trans bx
  clear bx
  go_wp2
  go_ret2
  exact ⟨rfl, BX.out.below⟩

theorem ruleText_both (p ip b lo hi : Int) (al : Bool) (hl : lo ≤ 9223372036854775807) (hh : hi ≤ 9223372036854775807) : ∃ (t : ByteArray) (c : Int), (∀ w, Calls Tryd.prog 8 #[.agg #[.int .i64 p, .int .i64 ip, .int .i64 b, .int .i64 lo, .int .i64 hi, .bool al]] w fun e w' => e = .returned (.tuple #[.string t, .int .i64 c]) ∧ Below w.heap.size w w') ∧
    ∀ w, Tens w.heap.size w → Calls Tryd.prog 10 #[.agg #[.int .i64 p, .int .i64 ip, .int .i64 b, .int .i64 lo, .int .i64 hi, .bool al]] w fun e w' => e = .returned (.tuple #[.string t, .int .i64 c]) ∧ Below w.heap.size w w' := by
  cases h : ruB ⟨p, ip, b, lo, hi, al⟩
  · exact ⟨_, _, fun w => specRuleText_no p ip b lo hi al w h, fun w _ => implRuleText_no p ip b lo hi al w hl hh h⟩
  · exact ⟨_, _, fun w => specRuleText_yes p ip b lo hi al w h, fun w ht => implRuleText_yes p ip b lo hi al w h ht⟩
set_option maxHeartbeats 2000000 in
theorem lawRuleText_any (p ip b lo hi : Int) (al : Bool) (w : World) (hl : lo ≤ 9223372036854775807) (hh : hi ≤ 9223372036854775807) (ht : Tens w.heap.size w) :
    Calls Tryd.prog 4 #[.agg #[.int .i64 p, .int .i64 ip, .int .i64 b, .int .i64 lo, .int .i64 hi, .bool al]] w fun e w' => e = .returned (.bool true) ∧ Below w.heap.size w w' := by
  have HT0 : Hid (Tens w.heap.size w) := ht
  obtain ⟨t, c, hS, hI⟩ := ruleText_both p ip b lo hi al hl hh
  have HS : Hid (∀ w, Calls Tryd.prog 8 #[.agg #[.int .i64 p, .int .i64 ip, .int .i64 b, .int .i64 lo, .int .i64 hi, .bool al]] w fun e w' => e = .returned (.tuple #[.string t, .int .i64 c]) ∧ Below w.heap.size w w') := hS
  have HI : Hid (∀ w, Tens w.heap.size w → Calls Tryd.prog 10 #[.agg #[.int .i64 p, .int .i64 ip, .int .i64 b, .int .i64 lo, .int .i64 hi, .bool al]] w fun e w' => e = .returned (.tuple #[.string t, .int .i64 c]) ∧ Below w.heap.size w w') := hI
  have HT : Hid (∀ w, Calls Tryd.prog 9 #[.agg #[.int .i64 p, .int .i64 ip, .int .i64 b, .int .i64 lo, .int .i64 hi, .bool al]] w fun e w' => e = .returned (.agg #[.int .i64 p, .int .i64 ip, .int .i64 b, .int .i64 lo, .int .i64 hi, .bool al]) ∧ Below w.heap.size w w') := fun w => toRule_any p ip b lo hi al w
  have n1 : (t.toList == t.toList) = true := by simp
  have n2 : (c != c) = false := by simp
  clear hS hI ht
  go_enter Tryd.func4, Tryd.ntmps4
  go_wp2_with fail
  refine (HT.out _).mono ?_
  rintro e wx1 ⟨rfl, bx⟩
  have c1_0_0 : wx1.cell? ⟨w.heap.size, 0, none⟩ = some (.int .i64 p) := bkeep bx (by simp [go_sem])
  have c1_0_1 : wx1.cell? ⟨w.heap.size, 1, none⟩ = some (.int .i64 ip) := bkeep bx (by simp [go_sem])
  have c1_0_2 : wx1.cell? ⟨w.heap.size, 2, none⟩ = some (.int .i64 b) := bkeep bx (by simp [go_sem])
  have c1_0_3 : wx1.cell? ⟨w.heap.size, 3, none⟩ = some (.int .i64 lo) := bkeep bx (by simp [go_sem])
  have c1_0_4 : wx1.cell? ⟨w.heap.size, 4, none⟩ = some (.int .i64 hi) := bkeep bx (by simp [go_sem])
  have c1_0_5 : wx1.cell? ⟨w.heap.size, 5, none⟩ = some (.bool al) := bkeep bx (by simp [go_sem])
  have BX1 : Hid (Below w.heap.size w wx1) := ((Below.refl w.heap.size w).alloc (by simp <;> omega) _).trans (bx.mono (by simp <;> omega))
  clear bx
  go_wp2_with fail
  refine (HS.out _).mono ?_
  rintro e wx2 ⟨rfl, bx⟩
  have c2_0_0 : wx2.cell? ⟨w.heap.size, 0, none⟩ = some (.int .i64 p) := bkeep bx (by first | (simp [go_sem]; done) | simp [go_sem, c1_0_0])
  have c2_0_1 : wx2.cell? ⟨w.heap.size, 1, none⟩ = some (.int .i64 ip) := bkeep bx (by first | (simp [go_sem]; done) | simp [go_sem, c1_0_1])
  have c2_0_2 : wx2.cell? ⟨w.heap.size, 2, none⟩ = some (.int .i64 b) := bkeep bx (by first | (simp [go_sem]; done) | simp [go_sem, c1_0_2])
  have c2_0_3 : wx2.cell? ⟨w.heap.size, 3, none⟩ = some (.int .i64 lo) := bkeep bx (by first | (simp [go_sem]; done) | simp [go_sem, c1_0_3])
  have c2_0_4 : wx2.cell? ⟨w.heap.size, 4, none⟩ = some (.int .i64 hi) := bkeep bx (by first | (simp [go_sem]; done) | simp [go_sem, c1_0_4])
  have c2_0_5 : wx2.cell? ⟨w.heap.size, 5, none⟩ = some (.bool al) := bkeep bx (by first | (simp [go_sem]; done) | simp [go_sem, c1_0_5])
  have BX2 : Hid (Below w.heap.size w wx2) := BX1.out.trans (bx.mono (by have := BX1.out.size; simp <;> omega))
  clear bx c1_0_0 c1_0_1 c1_0_2 c1_0_3 c1_0_4 c1_0_5 BX1
  go_wp2_with fail
  refine (HT.out _).mono ?_
  rintro e wx3 ⟨rfl, bx⟩
  have c3_0_0 : wx3.cell? ⟨w.heap.size, 0, none⟩ = some (.int .i64 p) := bkeep bx (by first | (simp [go_sem]; done) | simp [go_sem, c2_0_0])
  have c3_0_1 : wx3.cell? ⟨w.heap.size, 1, none⟩ = some (.int .i64 ip) := bkeep bx (by first | (simp [go_sem]; done) | simp [go_sem, c2_0_1])
  have c3_0_2 : wx3.cell? ⟨w.heap.size, 2, none⟩ = some (.int .i64 b) := bkeep bx (by first | (simp [go_sem]; done) | simp [go_sem, c2_0_2])
  have c3_0_3 : wx3.cell? ⟨w.heap.size, 3, none⟩ = some (.int .i64 lo) := bkeep bx (by first | (simp [go_sem]; done) | simp [go_sem, c2_0_3])
  have c3_0_4 : wx3.cell? ⟨w.heap.size, 4, none⟩ = some (.int .i64 hi) := bkeep bx (by first | (simp [go_sem]; done) | simp [go_sem, c2_0_4])
  have c3_0_5 : wx3.cell? ⟨w.heap.size, 5, none⟩ = some (.bool al) := bkeep bx (by first | (simp [go_sem]; done) | simp [go_sem, c2_0_5])
  have BX3 : Hid (Below w.heap.size w wx3) := BX2.out.trans (bx.mono (by have := BX2.out.size; simp <;> omega))
  clear bx c2_0_0 c2_0_1 c2_0_2 c2_0_3 c2_0_4 c2_0_5 BX2
  go_wp2_with fail
  refine (HI.out _ (HT0.out.now BX3.out)).mono ?_
  rintro e wx4 ⟨rfl, bx⟩
  have c4_0_0 : wx4.cell? ⟨w.heap.size, 0, none⟩ = some (.int .i64 p) := bkeep bx (by first | (simp [go_sem]; done) | simp [go_sem, c3_0_0])
  have c4_0_1 : wx4.cell? ⟨w.heap.size, 1, none⟩ = some (.int .i64 ip) := bkeep bx (by first | (simp [go_sem]; done) | simp [go_sem, c3_0_1])
  have c4_0_2 : wx4.cell? ⟨w.heap.size, 2, none⟩ = some (.int .i64 b) := bkeep bx (by first | (simp [go_sem]; done) | simp [go_sem, c3_0_2])
  have c4_0_3 : wx4.cell? ⟨w.heap.size, 3, none⟩ = some (.int .i64 lo) := bkeep bx (by first | (simp [go_sem]; done) | simp [go_sem, c3_0_3])
  have c4_0_4 : wx4.cell? ⟨w.heap.size, 4, none⟩ = some (.int .i64 hi) := bkeep bx (by first | (simp [go_sem]; done) | simp [go_sem, c3_0_4])
  have c4_0_5 : wx4.cell? ⟨w.heap.size, 5, none⟩ = some (.bool al) := bkeep bx (by first | (simp [go_sem]; done) | simp [go_sem, c3_0_5])
  have BX4 : Hid (Below w.heap.size w wx4) := BX3.out.trans (bx.mono (by have := BX3.out.size; simp <;> omega))
  clear bx c3_0_0 c3_0_1 c3_0_2 c3_0_3 c3_0_4 c3_0_5 BX3
  go_wp2
  go_ret
  exact ⟨rfl, BX4.out⟩
end Go.Proofs.YtcgdpijmfgkalacDoor
