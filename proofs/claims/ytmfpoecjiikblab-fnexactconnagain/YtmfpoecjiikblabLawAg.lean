/- The walk of laws.FnExactConnAgain. -/
import Derived.Test.YtmfpoecjiikblabConAg
import Derived.Test.YtmfpoecjiikblabLawCm
namespace Go.Proofs.Ytmfpoecjiikblab
open Go.RowKit Go.PlainAid Go.Proofs.Ytmfpoecjiikblab.Bt Go.Sort
set_option linter.unusedVariables false
set_option maxRecDepth 20000

theorem rwS {w : World} {B n cap : Nat} {a : Option Addr} {L : List SegV} (h : OwnS sgG 7 36 w B (.slice a n cap) L) (hok : ∀ x, x ∈ L → SgRok x) : Rw SgR 7 w a L := h.rw sgG_len hok
set_option maxHeartbeats 4000000 in
theorem lawConnAgain_any (mc : ByteArray) (ip po di st un nx wa : Int) (inn out : ByteArray) (fin : Bool) (w : World) (hmc : mc.size ≤ maxLen) (hinn : inn.size ≤ maxLen) (hout : out.size ≤ maxLen) (wpo : po ≤ 9223372036854775807) :
    Calls Try.prog 3 #[.agg #[.string mc, .int .i64 ip, .int .i64 po, .int .i64 di, .int .i64 st, .int .i64 un, .int .i64 nx, .int .i64 wa, .string inn, .string out, .bool fin]] w fun e w' => e = .returned (.bool true) ∧ Below w.heap.size w w' := by
  unfold maxLen at hmc hinn hout
  have HZ : Hid (∀ w, Calls Try.prog 4 #[.agg #[.string mc, .int .i64 ip, .int .i64 po, .int .i64 di, .int .i64 st, .int .i64 un, .int .i64 nx, .int .i64 wa, .string inn, .string out, .bool fin], .int .i64 1048576] w fun e w' => ∃ r : Int, e = .returned (.int .i64 r) ∧ (0 ≤ r → r ≤ 1048576 ∧ (mc.size : Int) ≤ 1048576 ∧ (inn.size : Int) ≤ 1048576 ∧ (out.size : Int) ≤ 1048576) ∧ -1 ≤ r ∧ r ≤ 1048576 ∧ Grw w w') := fun w => szConn_any mc ip po di st un nx wa inn out fin 1048576 w (by omega) (by omega) (by omega) (by omega) (by omega)
  have HT : Hid (∀ w, Calls Try.prog 6 #[.agg #[.string mc, .int .i64 ip, .int .i64 po, .int .i64 di, .int .i64 st, .int .i64 un, .int .i64 nx, .int .i64 wa, .string inn, .string out, .bool fin]] w fun e w' => e = .returned (.agg #[.string mc, .int .i64 ip, .int .i64 po, .int .i64 di, .int .i64 st, .int .i64 un, .int .i64 nx, .int .i64 wa, .string inn, .string out, .bool fin]) ∧ Grw w w') := fun w => toConn_any mc ip po di st un nx wa inn out fin w
  have HS : Hid (mc.size ≤ 1048576 → inn.size ≤ 1048576 → out.size ≤ 1048576 → ∀ w, Calls Try.prog 5 #[.agg #[.string mc, .int .i64 ip, .int .i64 po, .int .i64 di, .int .i64 st, .int .i64 un, .int .i64 nx, .int .i64 wa, .string inn, .string out, .bool fin]] w fun e w' => ∃ v, e = .returned (.tuple #[v, .int .i64 (agC ⟨mc, ip, po, di, st, un, nx, wa, inn, out, fin⟩)]) ∧ OwnS sgG 7 36 w' w.heap.size v (agL ⟨mc, ip, po, di, st, un, nx, wa, inn, out, fin⟩) ∧ Below w.heap.size w w') := fun h1 h2 h3 w => specAg_any mc ip po di st un nx wa inn out fin w h1 h2 h3
  have HI : Hid (mc.size ≤ 1048576 → inn.size ≤ 1048576 → out.size ≤ 1048576 → ∀ w, Calls Try.prog 7 #[.agg #[.string mc, .int .i64 ip, .int .i64 po, .int .i64 di, .int .i64 st, .int .i64 un, .int .i64 nx, .int .i64 wa, .string inn, .string out, .bool fin]] w fun e w' => ∃ v, e = .returned (.tuple #[v, .int .i64 (agC ⟨mc, ip, po, di, st, un, nx, wa, inn, out, fin⟩)]) ∧ OwnS sgG 7 36 w' w.heap.size v (agL ⟨mc, ip, po, di, st, un, nx, wa, inn, out, fin⟩) ∧ Below w.heap.size w w') := fun h1 h2 h3 w => implAg_any mc ip po di st un nx wa inn out fin w wpo h1 h2 h3
  have hLb : (agL ⟨mc, ip, po, di, st, un, nx, wa, inn, out, fin⟩).length ≤ 1048576 := Nat.le_trans (agL_len _) (by omega)
  have OKO : Hid (∀ x, x ∈ (agL ⟨mc, ip, po, di, st, un, nx, wa, inn, out, fin⟩) → SgRok x) := agL_ok _
  generalize agC ⟨mc, ip, po, di, st, un, nx, wa, inn, out, fin⟩ = c at HS HI
  generalize agL ⟨mc, ip, po, di, st, un, nx, wa, inn, out, fin⟩ = O at HS HI hLb OKO
  have OKM : Hid (∀ x, x ∈ mk7 O.length → SgRok x) := mk7_ok _ hLb
  have HE : Hid (∀ (a a' : Option Addr) (cap cap' : Nat) w, Rw SgR 7 w a O → Rw SgR 7 w a' O → Calls Try.prog 8 #[.slice a O.length cap, .slice a' O.length cap'] w fun e w' => e = .returned (.bool true) ∧ Grw w w') := fun a a' cap cap' w h h' => eqSegmentS_yes a a' O.length cap cap' O w h h' rfl (by omega)
  have hnc : (c != c) = false := by simp
  have hmm : ((1 + 7 * (O.length : Int)) != (1 + 7 * (O.length : Int))) = false := by simp
  have C0 : Hid (CnS w.heap.size mc ip po di st un nx wa inn out fin w (w.alloc (.cells #[.string mc, .int .i64 ip, .int .i64 po, .int .i64 di, .int .i64 st, .int .i64 un, .int .i64 nx, .int .i64 wa, .string inn, .string out, .bool fin] 23))) := ⟨by simp [go_sem], by simp [go_sem], by simp [go_sem], by simp [go_sem], by simp [go_sem], by simp [go_sem], by simp [go_sem], by simp [go_sem], by simp [go_sem], by simp [go_sem], by simp [go_sem], ⟨(Below.refl _ _).alloc (Nat.le_refl _) _⟩⟩
  go_enter Try.func3, Try.ntmps3
  go_wp2_with fail
  refine (HZ.out _).mono ?_
  rintro e w1 ⟨r, rfl, hr, hr1, hr2, g1⟩
  have X1 : Hid (CnS w.heap.size mc ip po di st un nx wa inn out fin w w1) := C0.out.below g1.below
  clear g1 C0
  by_cases hr0 : r < 0
  · go_wp2
    go_ret
    exact ⟨rfl, X1.out.2.2.2.2.2.2.2.2.2.2.2.out⟩
  have hsz := (hr (by omega)).2
  have HS2 := HS.out (by omega) (by omega) (by omega)
  have HI2 := HI.out (by omega) (by omega) (by omega)
  replace HS : Hid _ := HS2
  replace HI : Hid _ := HI2
  clear HS2 HI2 hr hsz HZ
  have CX2 := X1.out
  have q0 : w1.cell? ⟨w.heap.size, 0, none⟩ = some (.string mc) := CX2.1
  have q1 : w1.cell? ⟨w.heap.size, 1, none⟩ = some (.int .i64 ip) := CX2.2.1
  have q2 : w1.cell? ⟨w.heap.size, 2, none⟩ = some (.int .i64 po) := CX2.2.2.1
  have q3 : w1.cell? ⟨w.heap.size, 3, none⟩ = some (.int .i64 di) := CX2.2.2.2.1
  have q4 : w1.cell? ⟨w.heap.size, 4, none⟩ = some (.int .i64 st) := CX2.2.2.2.2.1
  have q5 : w1.cell? ⟨w.heap.size, 5, none⟩ = some (.int .i64 un) := CX2.2.2.2.2.2.1
  have q6 : w1.cell? ⟨w.heap.size, 6, none⟩ = some (.int .i64 nx) := CX2.2.2.2.2.2.2.1
  have q7 : w1.cell? ⟨w.heap.size, 7, none⟩ = some (.int .i64 wa) := CX2.2.2.2.2.2.2.2.1
  have q8 : w1.cell? ⟨w.heap.size, 8, none⟩ = some (.string inn) := CX2.2.2.2.2.2.2.2.2.1
  have q9 : w1.cell? ⟨w.heap.size, 9, none⟩ = some (.string out) := CX2.2.2.2.2.2.2.2.2.2.1
  have q10 : w1.cell? ⟨w.heap.size, 10, none⟩ = some (.bool fin) := CX2.2.2.2.2.2.2.2.2.2.2.1
  clear CX2
  go_wp2_with fail
  refine (HT.out _).mono ?_
  rintro e w2 ⟨rfl, g2⟩
  have b2 := g2.below
  clear q0 q1 q2 q3 q4 q5 q6 q7 q8 q9 q10 g2
  have X2 : Hid (CnS w.heap.size mc ip po di st un nx wa inn out fin w w2) := X1.out.below b2
  clear b2 X1
  go_wp2_with fail
  refine (HS.out _).mono ?_
  rintro e w3 ⟨v3, rfl, o3, b3⟩
  obtain ⟨s3, c3, rfl, -⟩ := o3.slice
  have X3 : Hid (CnS w.heap.size mc ip po di st un nx wa inn out fin w w3 ∧ OwnS sgG 7 36 w3 w2.heap.size (.slice s3 O.length c3) O) := ⟨X2.out.below b3, o3⟩
  have hne3 : Hid (∀ k, (Value.slice s3 O.length c3).ownBlock = some k → k < w3.heap.size) := fun k hk => (World.ownsRow.lt o3 k hk).2
  have Z3 : Hid (w.heap.size < w3.heap.size) := World.block_lt_of_cell? w3 ⟨w.heap.size, 0, none⟩ X3.out.1.1
  clear o3 b3 X2
  have CX4 := X3.out.1
  have q0 : w3.cell? ⟨w.heap.size, 0, none⟩ = some (.string mc) := CX4.1
  have q1 : w3.cell? ⟨w.heap.size, 1, none⟩ = some (.int .i64 ip) := CX4.2.1
  have q2 : w3.cell? ⟨w.heap.size, 2, none⟩ = some (.int .i64 po) := CX4.2.2.1
  have q3 : w3.cell? ⟨w.heap.size, 3, none⟩ = some (.int .i64 di) := CX4.2.2.2.1
  have q4 : w3.cell? ⟨w.heap.size, 4, none⟩ = some (.int .i64 st) := CX4.2.2.2.2.1
  have q5 : w3.cell? ⟨w.heap.size, 5, none⟩ = some (.int .i64 un) := CX4.2.2.2.2.2.1
  have q6 : w3.cell? ⟨w.heap.size, 6, none⟩ = some (.int .i64 nx) := CX4.2.2.2.2.2.2.1
  have q7 : w3.cell? ⟨w.heap.size, 7, none⟩ = some (.int .i64 wa) := CX4.2.2.2.2.2.2.2.1
  have q8 : w3.cell? ⟨w.heap.size, 8, none⟩ = some (.string inn) := CX4.2.2.2.2.2.2.2.2.1
  have q9 : w3.cell? ⟨w.heap.size, 9, none⟩ = some (.string out) := CX4.2.2.2.2.2.2.2.2.2.1
  have q10 : w3.cell? ⟨w.heap.size, 10, none⟩ = some (.bool fin) := CX4.2.2.2.2.2.2.2.2.2.2.1
  clear CX4
  go_wp2_with fail
  refine (HT.out _).mono ?_
  rintro e w4 ⟨rfl, g4⟩
  have b4 := g4.below
  clear q0 q1 q2 q3 q4 q5 q6 q7 q8 q9 q10 g4
  have X4 : Hid (CnS w.heap.size mc ip po di st un nx wa inn out fin w w4 ∧ OwnS sgG 7 36 w4 w2.heap.size (.slice s3 O.length c3) O ∧ w3.heap.size ≤ w4.heap.size) := ⟨X3.out.1.below b4, X3.out.2.now b4, b4.size⟩
  clear b4 X3
  go_wp2_with fail
  refine (HI.out _).mono ?_
  rintro e w5 ⟨v5, rfl, o5, b5⟩
  obtain ⟨s5, c5, rfl, -⟩ := o5.slice
  have X5 : Hid (CnS w.heap.size mc ip po di st un nx wa inn out fin w w5 ∧ OwnS sgG 7 36 w5 w2.heap.size (.slice s3 O.length c3) O ∧ OwnS sgG 7 36 w5 w3.heap.size (.slice s5 O.length c5) O) := ⟨X4.out.1.below b5, X4.out.2.1.now b5, o5.lower X4.out.2.2⟩
  clear o5 b5 X4
  go_wp2_with fail
  refine (HE.out _ _ _ _ _ (rwS X5.out.2.2 OKO.out) (rwS X5.out.2.1 OKO.out)).mono ?_
  rintro e w6 ⟨rfl, g6⟩
  have X6 : Hid (CnS w.heap.size mc ip po di st un nx wa inn out fin w w6 ∧ OwnS sgG 7 36 w6 w2.heap.size (.slice s3 O.length c3) O ∧ OwnS sgG 7 36 w6 w3.heap.size (.slice s5 O.length c5) O) := ⟨X5.out.1.below g6.below, X5.out.2.1.now g6.below, X5.out.2.2.now g6.below⟩
  clear g6 X5
  go_wp2_with fail
  refine (markSegmentS_any _ _ _ _ _ _ X6.out.2.2 hLb).mono ?_
  rintro e w7 ⟨rfl, o7, g7⟩
  have X7 : Hid (CnS w.heap.size mc ip po di st un nx wa inn out fin w w7 ∧ OwnS sgG 7 36 w7 w2.heap.size (.slice s3 O.length c3) O ∧ OwnS sgG 7 36 w7 w3.heap.size (.slice s5 O.length c5) (mk7 O.length)) := by
    refine ⟨X6.out.1.row g7 ((Below.refl _ _).grown g7 X6.out.1.2.2.2.2.2.2.2.2.2.2.2.out.size (fun k hk => by have := (X6.out.2.2.lt k hk).1; have := Z3.out; omega)) (fun he => by have := (X6.out.2.2.lt _ he.symm).1; have := Z3.out; omega), X6.out.2.1.kept g7 ?_, o7⟩
    cases hb3 : (Value.slice s3 O.length c3).ownBlock with
    | none => exact Or.inl rfl
    | some k => exact Or.inr (fun he => by have h1 := hne3.out k hb3; have h2 := (X6.out.2.2.lt k he.symm).1; omega)
  clear o7 g7 X6
  go_wp2_with fail
  refine (heldSegmentS_any _ _ _ _ (rwS X7.out.2.2 OKM.out) hLb).mono ?_
  rintro e w8 ⟨rfl, g8⟩
  have X8 : Hid (CnS w.heap.size mc ip po di st un nx wa inn out fin w w8 ∧ OwnS sgG 7 36 w8 w2.heap.size (.slice s3 O.length c3) O ∧ OwnS sgG 7 36 w8 w3.heap.size (.slice s5 O.length c5) (mk7 O.length)) := ⟨X7.out.1.below g8.below, X7.out.2.1.now g8.below, X7.out.2.2.now g8.below⟩
  clear g8 X7
  have CX9 := X8.out.1
  have q0 : w8.cell? ⟨w.heap.size, 0, none⟩ = some (.string mc) := CX9.1
  have q1 : w8.cell? ⟨w.heap.size, 1, none⟩ = some (.int .i64 ip) := CX9.2.1
  have q2 : w8.cell? ⟨w.heap.size, 2, none⟩ = some (.int .i64 po) := CX9.2.2.1
  have q3 : w8.cell? ⟨w.heap.size, 3, none⟩ = some (.int .i64 di) := CX9.2.2.2.1
  have q4 : w8.cell? ⟨w.heap.size, 4, none⟩ = some (.int .i64 st) := CX9.2.2.2.2.1
  have q5 : w8.cell? ⟨w.heap.size, 5, none⟩ = some (.int .i64 un) := CX9.2.2.2.2.2.1
  have q6 : w8.cell? ⟨w.heap.size, 6, none⟩ = some (.int .i64 nx) := CX9.2.2.2.2.2.2.1
  have q7 : w8.cell? ⟨w.heap.size, 7, none⟩ = some (.int .i64 wa) := CX9.2.2.2.2.2.2.2.1
  have q8 : w8.cell? ⟨w.heap.size, 8, none⟩ = some (.string inn) := CX9.2.2.2.2.2.2.2.2.1
  have q9 : w8.cell? ⟨w.heap.size, 9, none⟩ = some (.string out) := CX9.2.2.2.2.2.2.2.2.2.1
  have q10 : w8.cell? ⟨w.heap.size, 10, none⟩ = some (.bool fin) := CX9.2.2.2.2.2.2.2.2.2.2.1
  clear CX9
  go_wp2_with fail
  refine (HT.out _).mono ?_
  rintro e w9 ⟨rfl, g9⟩
  have b9 := g9.below
  clear q0 q1 q2 q3 q4 q5 q6 q7 q8 q9 q10 g9
  have X9 : Hid (CnS w.heap.size mc ip po di st un nx wa inn out fin w w9 ∧ OwnS sgG 7 36 w9 w2.heap.size (.slice s3 O.length c3) O ∧ OwnS sgG 7 36 w9 w3.heap.size (.slice s5 O.length c5) (mk7 O.length)) := ⟨X8.out.1.below b9, X8.out.2.1.now b9, X8.out.2.2.now b9⟩
  clear b9 X8
  go_wp2_with fail
  refine (HI.out _).mono ?_
  rintro e w10 ⟨v10, rfl, o10, b10⟩
  obtain ⟨s10, c10, rfl, -⟩ := o10.slice
  have X10 : Hid (CnS w.heap.size mc ip po di st un nx wa inn out fin w w10 ∧ OwnS sgG 7 36 w10 w2.heap.size (.slice s3 O.length c3) O ∧ OwnS sgG 7 36 w10 w3.heap.size (.slice s5 O.length c5) (mk7 O.length) ∧ Rw SgR 7 w10 s10 O) := ⟨X9.out.1.below b10, X9.out.2.1.now b10, X9.out.2.2.now b10, rwS o10 OKO.out⟩
  clear o10 b10 X9
  go_wp2_with fail
  refine (HE.out _ _ _ _ _ X10.out.2.2.2 (rwS X10.out.2.1 OKO.out)).mono ?_
  rintro e w11 ⟨rfl, g11⟩
  have X11 : Hid (CnS w.heap.size mc ip po di st un nx wa inn out fin w w11 ∧ OwnS sgG 7 36 w11 w3.heap.size (.slice s5 O.length c5) (mk7 O.length)) := ⟨X10.out.1.below g11.below, X10.out.2.2.1.now g11.below⟩
  clear g11 X10
  go_wp2_with fail
  refine (heldSegmentS_any _ _ _ _ (rwS X11.out.2 OKM.out) hLb).mono ?_
  rintro e w12 ⟨rfl, g12⟩
  have X12 : Hid (Below w.heap.size w w12) := X11.out.1.2.2.2.2.2.2.2.2.2.2.2.out.trans (g12.below.mono X11.out.1.2.2.2.2.2.2.2.2.2.2.2.out.size)
  clear g12
  go_wp2
  go_ret
  exact ⟨rfl, X12.out⟩
end Go.Proofs.Ytmfpoecjiikblab
