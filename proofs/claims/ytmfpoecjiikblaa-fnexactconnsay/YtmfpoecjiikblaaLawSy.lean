/- The walk of laws.FnExactConnSay. -/
import Derived.Test.YtmfpoecjiikblaaConSd
import Derived.Test.YtmfpoecjiikblaaLawCm
namespace Go.Proofs.Ytmfpoecjiikblaa
open Go.RowKit Go.PlainAid Go.Proofs.Ytmfpoecjiikblaa.Bt Go.Sort
set_option linter.unusedVariables false
set_option maxRecDepth 20000

theorem rwS {w : World} {B n cap : Nat} {a : Option Addr} {L : List SegV} (h : OwnS sgG 7 27 w B (.slice a n cap) L) (hok : ∀ x, x ∈ L → SgRok x) : Rw SgR 7 w a L := h.rw sgG_len hok
theorem syL_len (c : ConnV) (t : ByteArray) : (syL c t).length ≤ 3 := by
  unfold syL
  split
  · rename_i h
    refine puL_len _ _ _ _ _ ?_
    unfold syC at h
    split at h
    · cases h
    · split at h
      · split at h
        · split at h
          · cases h
          · omega
        · cases h
      · cases h
  · simp
theorem syL_ok (c : ConnV) (t : ByteArray) : ∀ x, x ∈ syL c t → SgRok x := by
  unfold syL
  split
  · rename_i h
    unfold syC at h
    split at h
    · cases h
    · split at h
      · rename_i hb
        have hn := nuB_bd (okB_says hb).1
        split at h
        · split at h
          · cases h
          · exact puL_ok _ _ _ _ _ (by omega) hn.2.1 hn.2.2.2.2.2.2
        · cases h
      · cases h
  · intro x hx
    simp at hx
theorem specSy_any (mc : ByteArray) (ip po di st un nx wa : Int) (inn out : ByteArray) (fin : Bool) (t : ByteArray) (w : World) (hmc : mc.size ≤ 1048576) (hi : inn.size ≤ 1048576) (ho : out.size ≤ 1048576) :
    Calls Try.prog 35 #[.agg #[.string mc, .int .i64 ip, .int .i64 po, .int .i64 di, .int .i64 st, .int .i64 un, .int .i64 nx, .int .i64 wa, .string inn, .string out, .bool fin], .string t] w fun e w' => ∃ v, e = .returned (.tuple #[cvA (syV ⟨mc, ip, po, di, st, un, nx, wa, inn, out, fin⟩ t), v, .int .i64 (syC ⟨mc, ip, po, di, st, un, nx, wa, inn, out, fin⟩ t)]) ∧ OwnS sgG 7 27 w' w.heap.size v (syL ⟨mc, ip, po, di, st, un, nx, wa, inn, out, fin⟩ t) ∧ Below w.heap.size w w' := by
  by_cases hl : 65536 < t.size
  · obtain ⟨e1, e2, e3⟩ := sy_long (c := ⟨mc, ip, po, di, st, un, nx, wa, inn, out, fin⟩) hl
    rw [e1, e2, e3]
    exact specSy_long mc ip po di st un nx wa inn out fin t w hl
  · exact specSy_few mc ip po di st un nx wa inn out fin t w hl hmc hi ho
theorem implSy_any (mc : ByteArray) (ip po di st un nx wa : Int) (inn out : ByteArray) (fin : Bool) (t : ByteArray) (w : World) (hp : po ≤ 9223372036854775807) (hmc : mc.size ≤ 1048576) (hi : inn.size ≤ 1048576) (ho : out.size ≤ 1048576) :
    Calls Try.prog 23 #[.agg #[.string mc, .int .i64 ip, .int .i64 po, .int .i64 di, .int .i64 st, .int .i64 un, .int .i64 nx, .int .i64 wa, .string inn, .string out, .bool fin], .string t] w fun e w' => ∃ v, e = .returned (.tuple #[cvA (syV ⟨mc, ip, po, di, st, un, nx, wa, inn, out, fin⟩ t), v, .int .i64 (syC ⟨mc, ip, po, di, st, un, nx, wa, inn, out, fin⟩ t)]) ∧ OwnS sgG 7 27 w' w.heap.size v (syL ⟨mc, ip, po, di, st, un, nx, wa, inn, out, fin⟩ t) ∧ Below w.heap.size w w' := by
  by_cases hl : 65536 < t.size
  · obtain ⟨e1, e2, e3⟩ := sy_long (c := ⟨mc, ip, po, di, st, un, nx, wa, inn, out, fin⟩) hl
    rw [e1, e2, e3]
    exact implSy_long mc ip po di st un nx wa inn out fin t w hl
  by_cases hno : syC ⟨mc, ip, po, di, st, un, nx, wa, inn, out, fin⟩ t = 0
  · have hh := hno
    unfold syC at hh
    rw [if_neg hl] at hh
    split at hh
    · rename_i hok
      split at hh
      · rename_i hst
        split at hh
        · cases hh
        · rename_i hf
          dsimp only at hst hf
          obtain ⟨e1, e2, e3⟩ := sy_ok (c := ⟨mc, ip, po, di, st, un, nx, wa, inn, out, fin⟩) hl hok hst hf
          have hop := open_says hok hst
          rw [e1, e2, e3]
          exact implSy_yes mc ip po di st un nx wa inn out fin t w hp hmc hi ho hok hst (by omega) hop.2.1 (nuB_bd (okB_says hok).1).2.2.2.2.1
      · cases hh
    · cases hh
  · exact implSy_no mc ip po di st un nx wa inn out fin t w hl hp hmc hi ho hno
set_option maxHeartbeats 4000000 in
theorem lawConnSay_any (mc : ByteArray) (ip po di st un nx wa : Int) (inn out : ByteArray) (fin : Bool) (t : ByteArray) (w : World) (hmc : mc.size ≤ maxLen) (hinn : inn.size ≤ maxLen) (hout : out.size ≤ maxLen) (wpo : po ≤ 9223372036854775807) (htt : t.size ≤ maxLen) :
    Calls Try.prog 8 #[.agg #[.string mc, .int .i64 ip, .int .i64 po, .int .i64 di, .int .i64 st, .int .i64 un, .int .i64 nx, .int .i64 wa, .string inn, .string out, .bool fin], .string t] w fun e w' => e = .returned (.bool true) ∧ Below w.heap.size w w' := by
  unfold maxLen at hmc hinn hout htt
  by_cases hl : 1048576 < t.size
  · have t1 : decide ((1048576 : Int) < (t.size : Int)) = true := decide_eq_true (by omega)
    go_enter Try.func8, Try.ntmps8
    go_wp2
    go_ret
    exact ⟨rfl, (Below.refl _ _).alloc (Nat.le_refl _) _⟩
  have t1 : decide ((1048576 : Int) < (t.size : Int)) = false := decide_eq_false (by omega)
  have HZ : Hid (∀ w, Calls Try.prog 33 #[.agg #[.string mc, .int .i64 ip, .int .i64 po, .int .i64 di, .int .i64 st, .int .i64 un, .int .i64 nx, .int .i64 wa, .string inn, .string out, .bool fin], .int .i64 1048576] w fun e w' => ∃ r : Int, e = .returned (.int .i64 r) ∧ (0 ≤ r → r ≤ 1048576 ∧ (mc.size : Int) ≤ 1048576 ∧ (inn.size : Int) ≤ 1048576 ∧ (out.size : Int) ≤ 1048576) ∧ -1 ≤ r ∧ r ≤ 1048576 ∧ Grw w w') := fun w => szConn_any mc ip po di st un nx wa inn out fin 1048576 w (by omega) (by omega) (by omega) (by omega) (by omega)
  have HT : Hid (∀ w, Calls Try.prog 34 #[.agg #[.string mc, .int .i64 ip, .int .i64 po, .int .i64 di, .int .i64 st, .int .i64 un, .int .i64 nx, .int .i64 wa, .string inn, .string out, .bool fin]] w fun e w' => e = .returned (.agg #[.string mc, .int .i64 ip, .int .i64 po, .int .i64 di, .int .i64 st, .int .i64 un, .int .i64 nx, .int .i64 wa, .string inn, .string out, .bool fin]) ∧ Grw w w') := fun w => toConn_any mc ip po di st un nx wa inn out fin w
  have HS : Hid (mc.size ≤ 1048576 → inn.size ≤ 1048576 → out.size ≤ 1048576 → ∀ w, Calls Try.prog 35 #[.agg #[.string mc, .int .i64 ip, .int .i64 po, .int .i64 di, .int .i64 st, .int .i64 un, .int .i64 nx, .int .i64 wa, .string inn, .string out, .bool fin], .string t] w fun e w' => ∃ v, e = .returned (.tuple #[cvA (syV ⟨mc, ip, po, di, st, un, nx, wa, inn, out, fin⟩ t), v, .int .i64 (syC ⟨mc, ip, po, di, st, un, nx, wa, inn, out, fin⟩ t)]) ∧ OwnS sgG 7 27 w' w.heap.size v (syL ⟨mc, ip, po, di, st, un, nx, wa, inn, out, fin⟩ t) ∧ Below w.heap.size w w') := fun h1 h2 h3 w => specSy_any mc ip po di st un nx wa inn out fin t w h1 h2 h3
  have HI : Hid (mc.size ≤ 1048576 → inn.size ≤ 1048576 → out.size ≤ 1048576 → ∀ w, Calls Try.prog 23 #[.agg #[.string mc, .int .i64 ip, .int .i64 po, .int .i64 di, .int .i64 st, .int .i64 un, .int .i64 nx, .int .i64 wa, .string inn, .string out, .bool fin], .string t] w fun e w' => ∃ v, e = .returned (.tuple #[cvA (syV ⟨mc, ip, po, di, st, un, nx, wa, inn, out, fin⟩ t), v, .int .i64 (syC ⟨mc, ip, po, di, st, un, nx, wa, inn, out, fin⟩ t)]) ∧ OwnS sgG 7 27 w' w.heap.size v (syL ⟨mc, ip, po, di, st, un, nx, wa, inn, out, fin⟩ t) ∧ Below w.heap.size w w') := fun h1 h2 h3 w => implSy_any mc ip po di st un nx wa inn out fin t w wpo h1 h2 h3
  have hLb : (syL ⟨mc, ip, po, di, st, un, nx, wa, inn, out, fin⟩ t).length ≤ 1048576 := Nat.le_trans (syL_len _ _) (by omega)
  have OKO : Hid (∀ x, x ∈ (syL ⟨mc, ip, po, di, st, un, nx, wa, inn, out, fin⟩ t) → SgRok x) := syL_ok _ _
  generalize syC ⟨mc, ip, po, di, st, un, nx, wa, inn, out, fin⟩ t = c at HS HI
  generalize syL ⟨mc, ip, po, di, st, un, nx, wa, inn, out, fin⟩ t = O at HS HI hLb OKO
  generalize syV ⟨mc, ip, po, di, st, un, nx, wa, inn, out, fin⟩ t = V at HS HI
  obtain ⟨vm, vi, vp, vd, vs, vu, vn, va, vI, vO, vF⟩ := V
  replace HS : Hid (mc.size ≤ 1048576 → inn.size ≤ 1048576 → out.size ≤ 1048576 → ∀ w, Calls Try.prog 35 #[.agg #[.string mc, .int .i64 ip, .int .i64 po, .int .i64 di, .int .i64 st, .int .i64 un, .int .i64 nx, .int .i64 wa, .string inn, .string out, .bool fin], .string t] w fun e w' => ∃ v, e = .returned (.tuple #[.agg #[.string vm, .int .i64 vi, .int .i64 vp, .int .i64 vd, .int .i64 vs, .int .i64 vu, .int .i64 vn, .int .i64 va, .string vI, .string vO, .bool vF], v, .int .i64 c]) ∧ OwnS sgG 7 27 w' w.heap.size v O ∧ Below w.heap.size w w') := HS
  replace HI : Hid (mc.size ≤ 1048576 → inn.size ≤ 1048576 → out.size ≤ 1048576 → ∀ w, Calls Try.prog 23 #[.agg #[.string mc, .int .i64 ip, .int .i64 po, .int .i64 di, .int .i64 st, .int .i64 un, .int .i64 nx, .int .i64 wa, .string inn, .string out, .bool fin], .string t] w fun e w' => ∃ v, e = .returned (.tuple #[.agg #[.string vm, .int .i64 vi, .int .i64 vp, .int .i64 vd, .int .i64 vs, .int .i64 vu, .int .i64 vn, .int .i64 va, .string vI, .string vO, .bool vF], v, .int .i64 c]) ∧ OwnS sgG 7 27 w' w.heap.size v O ∧ Below w.heap.size w w') := HI
  have OKM : Hid (∀ x, x ∈ mk7 O.length → SgRok x) := mk7_ok _ hLb
  have HQ : Hid (∀ w, Calls Try.prog 29 #[.agg #[.string vm, .int .i64 vi, .int .i64 vp, .int .i64 vd, .int .i64 vs, .int .i64 vu, .int .i64 vn, .int .i64 va, .string vI, .string vO, .bool vF], .agg #[.string vm, .int .i64 vi, .int .i64 vp, .int .i64 vd, .int .i64 vs, .int .i64 vu, .int .i64 vn, .int .i64 va, .string vI, .string vO, .bool vF]] w fun e w' => e = .returned (.bool true) ∧ Grw w w') := fun w => eqConn_any vm vi vp vd vs vu vn va vI vO vF w
  have HE : Hid (∀ (a a' : Option Addr) (cap cap' : Nat) w, Rw SgR 7 w a O → Rw SgR 7 w a' O → Calls Try.prog 30 #[.slice a O.length cap, .slice a' O.length cap'] w fun e w' => e = .returned (.bool true) ∧ Grw w w') := fun a a' cap cap' w h h' => eqSegmentS_yes a a' O.length cap cap' O w h h' rfl (by omega)
  have hnc : (c != c) = false := by simp
  have hmm : ((1 + 7 * (O.length : Int)) != (1 + 7 * (O.length : Int))) = false := by simp
  have C0 : Hid (CnS w.heap.size mc ip po di st un nx wa inn out fin w (w.alloc (.cells #[.string mc, .int .i64 ip, .int .i64 po, .int .i64 di, .int .i64 st, .int .i64 un, .int .i64 nx, .int .i64 wa, .string inn, .string out, .bool fin] 53))) := ⟨by simp [go_sem], by simp [go_sem], by simp [go_sem], by simp [go_sem], by simp [go_sem], by simp [go_sem], by simp [go_sem], by simp [go_sem], by simp [go_sem], by simp [go_sem], by simp [go_sem], ⟨(Below.refl _ _).alloc (Nat.le_refl _) _⟩⟩
  have NB : Hid (∀ W : World, Below w.heap.size w W → CnS W.heap.size vm vi vp vd vs vu vn va vI vO vF w (W.alloc (.cells #[.string vm, .int .i64 vi, .int .i64 vp, .int .i64 vd, .int .i64 vs, .int .i64 vu, .int .i64 vn, .int .i64 va, .string vI, .string vO, .bool vF] 24))) := fun W hW => ⟨by simp [go_sem], by simp [go_sem], by simp [go_sem], by simp [go_sem], by simp [go_sem], by simp [go_sem], by simp [go_sem], by simp [go_sem], by simp [go_sem], by simp [go_sem], by simp [go_sem], ⟨hW.alloc hW.size _⟩⟩
  go_enter Try.func8, Try.ntmps8
  go_wp2_with fail
  refine (HZ.out _).mono ?_
  rintro e w1 ⟨r, rfl, hr, hr1, hr2, g1⟩
  have X1 : Hid (CnS w.heap.size mc ip po di st un nx wa inn out fin w w1) := C0.out.below g1.below
  clear g1 C0
  by_cases hr0 : r < 0
  · go_wp2
    go_ret
    exact ⟨rfl, X1.out.2.2.2.2.2.2.2.2.2.2.2.out⟩
  have hsz := (hr (by omega)).2
  have HS2 := HS.out (by omega) (by omega) (by omega)
  have HI2 := HI.out (by omega) (by omega) (by omega)
  replace HS : Hid _ := HS2
  replace HI : Hid _ := HI2
  clear HS2 HI2 hr hsz HZ
  have CX := X1.out
  have q0 : w1.cell? ⟨w.heap.size, 0, none⟩ = some (.string mc) := CX.1
  have q1 : w1.cell? ⟨w.heap.size, 1, none⟩ = some (.int .i64 ip) := CX.2.1
  have q2 : w1.cell? ⟨w.heap.size, 2, none⟩ = some (.int .i64 po) := CX.2.2.1
  have q3 : w1.cell? ⟨w.heap.size, 3, none⟩ = some (.int .i64 di) := CX.2.2.2.1
  have q4 : w1.cell? ⟨w.heap.size, 4, none⟩ = some (.int .i64 st) := CX.2.2.2.2.1
  have q5 : w1.cell? ⟨w.heap.size, 5, none⟩ = some (.int .i64 un) := CX.2.2.2.2.2.1
  have q6 : w1.cell? ⟨w.heap.size, 6, none⟩ = some (.int .i64 nx) := CX.2.2.2.2.2.2.1
  have q7 : w1.cell? ⟨w.heap.size, 7, none⟩ = some (.int .i64 wa) := CX.2.2.2.2.2.2.2.1
  have q8 : w1.cell? ⟨w.heap.size, 8, none⟩ = some (.string inn) := CX.2.2.2.2.2.2.2.2.1
  have q9 : w1.cell? ⟨w.heap.size, 9, none⟩ = some (.string out) := CX.2.2.2.2.2.2.2.2.2.1
  have q10 : w1.cell? ⟨w.heap.size, 10, none⟩ = some (.bool fin) := CX.2.2.2.2.2.2.2.2.2.2.1
  clear CX
  go_wp2_with fail
  refine (HT.out _).mono ?_
  rintro e w2 ⟨rfl, g2⟩
  have b2 := g2.below
  clear q0 q1 q2 q3 q4 q5 q6 q7 q8 q9 q10 g2
  have X2 : Hid (CnS w.heap.size mc ip po di st un nx wa inn out fin w w2) := X1.out.below b2
  clear b2 X1
  go_wp2_with fail
  refine (HS.out _).mono ?_
  rintro e w3 ⟨v3, rfl, o3, b3⟩
  obtain ⟨s3, c3, rfl, -⟩ := o3.slice
  have Y3 : Hid (CnS w.heap.size mc ip po di st un nx wa inn out fin w w3) := X2.out.below b3
  have Z3 : Hid (w.heap.size < w3.heap.size) := World.block_lt_of_cell? w3 ⟨w.heap.size, 0, none⟩ Y3.out.1
  have hne3 : Hid (∀ k, (Value.slice s3 O.length c3).ownBlock = some k → k < w3.heap.size) := fun k hk => (World.ownsRow.lt o3 k hk).2
  have X3 : Hid (CnS w.heap.size mc ip po di st un nx wa inn out fin w (w3.alloc (.cells #[.string vm, .int .i64 vi, .int .i64 vp, .int .i64 vd, .int .i64 vs, .int .i64 vu, .int .i64 vn, .int .i64 va, .string vI, .string vO, .bool vF] 24)) ∧ CnS w3.heap.size vm vi vp vd vs vu vn va vI vO vF w (w3.alloc (.cells #[.string vm, .int .i64 vi, .int .i64 vp, .int .i64 vd, .int .i64 vs, .int .i64 vu, .int .i64 vn, .int .i64 va, .string vI, .string vO, .bool vF] 24)) ∧ OwnS sgG 7 27 (w3.alloc (.cells #[.string vm, .int .i64 vi, .int .i64 vp, .int .i64 vd, .int .i64 vs, .int .i64 vu, .int .i64 vn, .int .i64 va, .string vI, .string vO, .bool vF] 24)) w2.heap.size (.slice s3 O.length c3) O) := ⟨Y3.out.below ((Below.refl _ _).alloc (Nat.le_refl _) _), NB.out w3 Y3.out.2.2.2.2.2.2.2.2.2.2.2.out, o3.now ((Below.refl _ _).alloc (Nat.le_refl _) _)⟩
  clear o3 b3 X2 Y3
  have CX := X3.out.1
  have q0 : (w3.alloc (.cells #[.string vm, .int .i64 vi, .int .i64 vp, .int .i64 vd, .int .i64 vs, .int .i64 vu, .int .i64 vn, .int .i64 va, .string vI, .string vO, .bool vF] 24)).cell? ⟨w.heap.size, 0, none⟩ = some (.string mc) := CX.1
  have q1 : (w3.alloc (.cells #[.string vm, .int .i64 vi, .int .i64 vp, .int .i64 vd, .int .i64 vs, .int .i64 vu, .int .i64 vn, .int .i64 va, .string vI, .string vO, .bool vF] 24)).cell? ⟨w.heap.size, 1, none⟩ = some (.int .i64 ip) := CX.2.1
  have q2 : (w3.alloc (.cells #[.string vm, .int .i64 vi, .int .i64 vp, .int .i64 vd, .int .i64 vs, .int .i64 vu, .int .i64 vn, .int .i64 va, .string vI, .string vO, .bool vF] 24)).cell? ⟨w.heap.size, 2, none⟩ = some (.int .i64 po) := CX.2.2.1
  have q3 : (w3.alloc (.cells #[.string vm, .int .i64 vi, .int .i64 vp, .int .i64 vd, .int .i64 vs, .int .i64 vu, .int .i64 vn, .int .i64 va, .string vI, .string vO, .bool vF] 24)).cell? ⟨w.heap.size, 3, none⟩ = some (.int .i64 di) := CX.2.2.2.1
  have q4 : (w3.alloc (.cells #[.string vm, .int .i64 vi, .int .i64 vp, .int .i64 vd, .int .i64 vs, .int .i64 vu, .int .i64 vn, .int .i64 va, .string vI, .string vO, .bool vF] 24)).cell? ⟨w.heap.size, 4, none⟩ = some (.int .i64 st) := CX.2.2.2.2.1
  have q5 : (w3.alloc (.cells #[.string vm, .int .i64 vi, .int .i64 vp, .int .i64 vd, .int .i64 vs, .int .i64 vu, .int .i64 vn, .int .i64 va, .string vI, .string vO, .bool vF] 24)).cell? ⟨w.heap.size, 5, none⟩ = some (.int .i64 un) := CX.2.2.2.2.2.1
  have q6 : (w3.alloc (.cells #[.string vm, .int .i64 vi, .int .i64 vp, .int .i64 vd, .int .i64 vs, .int .i64 vu, .int .i64 vn, .int .i64 va, .string vI, .string vO, .bool vF] 24)).cell? ⟨w.heap.size, 6, none⟩ = some (.int .i64 nx) := CX.2.2.2.2.2.2.1
  have q7 : (w3.alloc (.cells #[.string vm, .int .i64 vi, .int .i64 vp, .int .i64 vd, .int .i64 vs, .int .i64 vu, .int .i64 vn, .int .i64 va, .string vI, .string vO, .bool vF] 24)).cell? ⟨w.heap.size, 7, none⟩ = some (.int .i64 wa) := CX.2.2.2.2.2.2.2.1
  have q8 : (w3.alloc (.cells #[.string vm, .int .i64 vi, .int .i64 vp, .int .i64 vd, .int .i64 vs, .int .i64 vu, .int .i64 vn, .int .i64 va, .string vI, .string vO, .bool vF] 24)).cell? ⟨w.heap.size, 8, none⟩ = some (.string inn) := CX.2.2.2.2.2.2.2.2.1
  have q9 : (w3.alloc (.cells #[.string vm, .int .i64 vi, .int .i64 vp, .int .i64 vd, .int .i64 vs, .int .i64 vu, .int .i64 vn, .int .i64 va, .string vI, .string vO, .bool vF] 24)).cell? ⟨w.heap.size, 9, none⟩ = some (.string out) := CX.2.2.2.2.2.2.2.2.2.1
  have q10 : (w3.alloc (.cells #[.string vm, .int .i64 vi, .int .i64 vp, .int .i64 vd, .int .i64 vs, .int .i64 vu, .int .i64 vn, .int .i64 va, .string vI, .string vO, .bool vF] 24)).cell? ⟨w.heap.size, 10, none⟩ = some (.bool fin) := CX.2.2.2.2.2.2.2.2.2.2.1
  clear CX
  go_wp2_with fail
  refine (HT.out _).mono ?_
  rintro e w4 ⟨rfl, g4⟩
  have b4 := g4.below
  clear q0 q1 q2 q3 q4 q5 q6 q7 q8 q9 q10 g4
  have X4 : Hid (CnS w.heap.size mc ip po di st un nx wa inn out fin w w4 ∧ CnS w3.heap.size vm vi vp vd vs vu vn va vI vO vF w w4 ∧ OwnS sgG 7 27 w4 w2.heap.size (.slice s3 O.length c3) O ∧ w3.heap.size + 1 ≤ w4.heap.size) := ⟨X3.out.1.below b4, X3.out.2.1.below b4, X3.out.2.2.now b4, by have := b4.size; simp at this; omega⟩
  clear b4 X3
  go_wp2_with fail
  refine (HI.out _).mono ?_
  rintro e w5 ⟨v5, rfl, o5, b5⟩
  obtain ⟨s5, c5, rfl, -⟩ := o5.slice
  have al : Below w5.heap.size w5 (w5.alloc (.cells #[.string vm, .int .i64 vi, .int .i64 vp, .int .i64 vd, .int .i64 vs, .int .i64 vu, .int .i64 vn, .int .i64 va, .string vI, .string vO, .bool vF] 24)) := (Below.refl _ _).alloc (Nat.le_refl _) _
  have X5 : Hid (CnS w.heap.size mc ip po di st un nx wa inn out fin w (w5.alloc (.cells #[.string vm, .int .i64 vi, .int .i64 vp, .int .i64 vd, .int .i64 vs, .int .i64 vu, .int .i64 vn, .int .i64 va, .string vI, .string vO, .bool vF] 24)) ∧ CnS w3.heap.size vm vi vp vd vs vu vn va vI vO vF w (w5.alloc (.cells #[.string vm, .int .i64 vi, .int .i64 vp, .int .i64 vd, .int .i64 vs, .int .i64 vu, .int .i64 vn, .int .i64 va, .string vI, .string vO, .bool vF] 24)) ∧ OwnS sgG 7 27 (w5.alloc (.cells #[.string vm, .int .i64 vi, .int .i64 vp, .int .i64 vd, .int .i64 vs, .int .i64 vu, .int .i64 vn, .int .i64 va, .string vI, .string vO, .bool vF] 24)) w2.heap.size (.slice s3 O.length c3) O ∧ OwnS sgG 7 27 (w5.alloc (.cells #[.string vm, .int .i64 vi, .int .i64 vp, .int .i64 vd, .int .i64 vs, .int .i64 vu, .int .i64 vn, .int .i64 va, .string vI, .string vO, .bool vF] 24)) (w3.heap.size + 1) (.slice s5 O.length c5) O ∧ CnS w5.heap.size vm vi vp vd vs vu vn va vI vO vF w (w5.alloc (.cells #[.string vm, .int .i64 vi, .int .i64 vp, .int .i64 vd, .int .i64 vs, .int .i64 vu, .int .i64 vn, .int .i64 va, .string vI, .string vO, .bool vF] 24))) := ⟨(X4.out.1.below b5).below al, (X4.out.2.1.below b5).below al, (X4.out.2.2.1.now b5).now al, (o5.lower X4.out.2.2.2).now al, NB.out w5 (X4.out.1.below b5).2.2.2.2.2.2.2.2.2.2.2.out⟩
  clear o5 b5 X4 al
  have CX := X5.out.2.2.2.2
  have CY := X5.out.2.1
  have q0 : (w5.alloc (.cells #[.string vm, .int .i64 vi, .int .i64 vp, .int .i64 vd, .int .i64 vs, .int .i64 vu, .int .i64 vn, .int .i64 va, .string vI, .string vO, .bool vF] 24)).cell? ⟨w5.heap.size, 0, none⟩ = some (.string vm) := CX.1
  have q1 : (w5.alloc (.cells #[.string vm, .int .i64 vi, .int .i64 vp, .int .i64 vd, .int .i64 vs, .int .i64 vu, .int .i64 vn, .int .i64 va, .string vI, .string vO, .bool vF] 24)).cell? ⟨w5.heap.size, 1, none⟩ = some (.int .i64 vi) := CX.2.1
  have q2 : (w5.alloc (.cells #[.string vm, .int .i64 vi, .int .i64 vp, .int .i64 vd, .int .i64 vs, .int .i64 vu, .int .i64 vn, .int .i64 va, .string vI, .string vO, .bool vF] 24)).cell? ⟨w5.heap.size, 2, none⟩ = some (.int .i64 vp) := CX.2.2.1
  have q3 : (w5.alloc (.cells #[.string vm, .int .i64 vi, .int .i64 vp, .int .i64 vd, .int .i64 vs, .int .i64 vu, .int .i64 vn, .int .i64 va, .string vI, .string vO, .bool vF] 24)).cell? ⟨w5.heap.size, 3, none⟩ = some (.int .i64 vd) := CX.2.2.2.1
  have q4 : (w5.alloc (.cells #[.string vm, .int .i64 vi, .int .i64 vp, .int .i64 vd, .int .i64 vs, .int .i64 vu, .int .i64 vn, .int .i64 va, .string vI, .string vO, .bool vF] 24)).cell? ⟨w5.heap.size, 4, none⟩ = some (.int .i64 vs) := CX.2.2.2.2.1
  have q5 : (w5.alloc (.cells #[.string vm, .int .i64 vi, .int .i64 vp, .int .i64 vd, .int .i64 vs, .int .i64 vu, .int .i64 vn, .int .i64 va, .string vI, .string vO, .bool vF] 24)).cell? ⟨w5.heap.size, 5, none⟩ = some (.int .i64 vu) := CX.2.2.2.2.2.1
  have q6 : (w5.alloc (.cells #[.string vm, .int .i64 vi, .int .i64 vp, .int .i64 vd, .int .i64 vs, .int .i64 vu, .int .i64 vn, .int .i64 va, .string vI, .string vO, .bool vF] 24)).cell? ⟨w5.heap.size, 6, none⟩ = some (.int .i64 vn) := CX.2.2.2.2.2.2.1
  have q7 : (w5.alloc (.cells #[.string vm, .int .i64 vi, .int .i64 vp, .int .i64 vd, .int .i64 vs, .int .i64 vu, .int .i64 vn, .int .i64 va, .string vI, .string vO, .bool vF] 24)).cell? ⟨w5.heap.size, 7, none⟩ = some (.int .i64 va) := CX.2.2.2.2.2.2.2.1
  have q8 : (w5.alloc (.cells #[.string vm, .int .i64 vi, .int .i64 vp, .int .i64 vd, .int .i64 vs, .int .i64 vu, .int .i64 vn, .int .i64 va, .string vI, .string vO, .bool vF] 24)).cell? ⟨w5.heap.size, 8, none⟩ = some (.string vI) := CX.2.2.2.2.2.2.2.2.1
  have q9 : (w5.alloc (.cells #[.string vm, .int .i64 vi, .int .i64 vp, .int .i64 vd, .int .i64 vs, .int .i64 vu, .int .i64 vn, .int .i64 va, .string vI, .string vO, .bool vF] 24)).cell? ⟨w5.heap.size, 9, none⟩ = some (.string vO) := CX.2.2.2.2.2.2.2.2.2.1
  have q10 : (w5.alloc (.cells #[.string vm, .int .i64 vi, .int .i64 vp, .int .i64 vd, .int .i64 vs, .int .i64 vu, .int .i64 vn, .int .i64 va, .string vI, .string vO, .bool vF] 24)).cell? ⟨w5.heap.size, 10, none⟩ = some (.bool vF) := CX.2.2.2.2.2.2.2.2.2.2.1
  have r0 : (w5.alloc (.cells #[.string vm, .int .i64 vi, .int .i64 vp, .int .i64 vd, .int .i64 vs, .int .i64 vu, .int .i64 vn, .int .i64 va, .string vI, .string vO, .bool vF] 24)).cell? ⟨w3.heap.size, 0, none⟩ = some (.string vm) := CY.1
  have r1 : (w5.alloc (.cells #[.string vm, .int .i64 vi, .int .i64 vp, .int .i64 vd, .int .i64 vs, .int .i64 vu, .int .i64 vn, .int .i64 va, .string vI, .string vO, .bool vF] 24)).cell? ⟨w3.heap.size, 1, none⟩ = some (.int .i64 vi) := CY.2.1
  have r2 : (w5.alloc (.cells #[.string vm, .int .i64 vi, .int .i64 vp, .int .i64 vd, .int .i64 vs, .int .i64 vu, .int .i64 vn, .int .i64 va, .string vI, .string vO, .bool vF] 24)).cell? ⟨w3.heap.size, 2, none⟩ = some (.int .i64 vp) := CY.2.2.1
  have r3 : (w5.alloc (.cells #[.string vm, .int .i64 vi, .int .i64 vp, .int .i64 vd, .int .i64 vs, .int .i64 vu, .int .i64 vn, .int .i64 va, .string vI, .string vO, .bool vF] 24)).cell? ⟨w3.heap.size, 3, none⟩ = some (.int .i64 vd) := CY.2.2.2.1
  have r4 : (w5.alloc (.cells #[.string vm, .int .i64 vi, .int .i64 vp, .int .i64 vd, .int .i64 vs, .int .i64 vu, .int .i64 vn, .int .i64 va, .string vI, .string vO, .bool vF] 24)).cell? ⟨w3.heap.size, 4, none⟩ = some (.int .i64 vs) := CY.2.2.2.2.1
  have r5 : (w5.alloc (.cells #[.string vm, .int .i64 vi, .int .i64 vp, .int .i64 vd, .int .i64 vs, .int .i64 vu, .int .i64 vn, .int .i64 va, .string vI, .string vO, .bool vF] 24)).cell? ⟨w3.heap.size, 5, none⟩ = some (.int .i64 vu) := CY.2.2.2.2.2.1
  have r6 : (w5.alloc (.cells #[.string vm, .int .i64 vi, .int .i64 vp, .int .i64 vd, .int .i64 vs, .int .i64 vu, .int .i64 vn, .int .i64 va, .string vI, .string vO, .bool vF] 24)).cell? ⟨w3.heap.size, 6, none⟩ = some (.int .i64 vn) := CY.2.2.2.2.2.2.1
  have r7 : (w5.alloc (.cells #[.string vm, .int .i64 vi, .int .i64 vp, .int .i64 vd, .int .i64 vs, .int .i64 vu, .int .i64 vn, .int .i64 va, .string vI, .string vO, .bool vF] 24)).cell? ⟨w3.heap.size, 7, none⟩ = some (.int .i64 va) := CY.2.2.2.2.2.2.2.1
  have r8 : (w5.alloc (.cells #[.string vm, .int .i64 vi, .int .i64 vp, .int .i64 vd, .int .i64 vs, .int .i64 vu, .int .i64 vn, .int .i64 va, .string vI, .string vO, .bool vF] 24)).cell? ⟨w3.heap.size, 8, none⟩ = some (.string vI) := CY.2.2.2.2.2.2.2.2.1
  have r9 : (w5.alloc (.cells #[.string vm, .int .i64 vi, .int .i64 vp, .int .i64 vd, .int .i64 vs, .int .i64 vu, .int .i64 vn, .int .i64 va, .string vI, .string vO, .bool vF] 24)).cell? ⟨w3.heap.size, 9, none⟩ = some (.string vO) := CY.2.2.2.2.2.2.2.2.2.1
  have r10 : (w5.alloc (.cells #[.string vm, .int .i64 vi, .int .i64 vp, .int .i64 vd, .int .i64 vs, .int .i64 vu, .int .i64 vn, .int .i64 va, .string vI, .string vO, .bool vF] 24)).cell? ⟨w3.heap.size, 10, none⟩ = some (.bool vF) := CY.2.2.2.2.2.2.2.2.2.2.1
  clear CX CY
  go_wp2_with fail
  refine (HQ.out _).mono ?_
  rintro e w6 ⟨rfl, g6⟩
  have X6 : Hid (CnS w.heap.size mc ip po di st un nx wa inn out fin w w6 ∧ CnS w3.heap.size vm vi vp vd vs vu vn va vI vO vF w w6 ∧ OwnS sgG 7 27 w6 w2.heap.size (.slice s3 O.length c3) O ∧ OwnS sgG 7 27 w6 (w3.heap.size + 1) (.slice s5 O.length c5) O) := ⟨X5.out.1.below g6.below, X5.out.2.1.below g6.below, X5.out.2.2.1.now g6.below, X5.out.2.2.2.1.now g6.below⟩
  clear g6 X5 q0 r0 q1 r1 q2 r2 q3 r3 q4 r4 q5 r5 q6 r6 q7 r7 q8 r8 q9 r9 q10 r10
  go_wp2_with fail
  refine (HE.out _ _ _ _ _ (rwS X6.out.2.2.2 OKO.out) (rwS X6.out.2.2.1 OKO.out)).mono ?_
  rintro e w7 ⟨rfl, g7⟩
  have X7 : Hid (CnS w.heap.size mc ip po di st un nx wa inn out fin w w7 ∧ CnS w3.heap.size vm vi vp vd vs vu vn va vI vO vF w w7 ∧ OwnS sgG 7 27 w7 w2.heap.size (.slice s3 O.length c3) O ∧ OwnS sgG 7 27 w7 (w3.heap.size + 1) (.slice s5 O.length c5) O) := ⟨X6.out.1.below g7.below, X6.out.2.1.below g7.below, X6.out.2.2.1.now g7.below, X6.out.2.2.2.now g7.below⟩
  clear g7 X6
  go_wp2_with fail
  refine (markSegmentS_any _ _ _ _ _ _ X7.out.2.2.2 hLb).mono ?_
  rintro e w8 ⟨rfl, o8, g8⟩
  have X8 : Hid (CnS w.heap.size mc ip po di st un nx wa inn out fin w w8 ∧ CnS w3.heap.size vm vi vp vd vs vu vn va vI vO vF w w8 ∧ OwnS sgG 7 27 w8 w2.heap.size (.slice s3 O.length c3) O ∧ OwnS sgG 7 27 w8 (w3.heap.size + 1) (.slice s5 O.length c5) (mk7 O.length)) := by
    have hB : Below w.heap.size w7 w8 := (Below.refl _ _).grown g8 X7.out.1.2.2.2.2.2.2.2.2.2.2.2.out.size (fun k hk => by have := (X7.out.2.2.2.lt k hk).1; have := Z3.out; omega)
    refine ⟨X7.out.1.row g8 hB (fun he => by have := (X7.out.2.2.2.lt _ he.symm).1; have := Z3.out; omega), X7.out.2.1.row g8 hB (fun he => by have := (X7.out.2.2.2.lt _ he.symm).1; omega), X7.out.2.2.1.kept g8 ?_, o8⟩
    cases hb3 : (Value.slice s3 O.length c3).ownBlock with
    | none => exact Or.inl rfl
    | some k => exact Or.inr (fun he => by have h1 := hne3.out k hb3; have h2 := (X7.out.2.2.2.lt k he.symm).1; omega)
  clear o8 g8 X7
  go_wp2_with fail
  refine (heldSegmentS_any _ _ _ _ (rwS X8.out.2.2.2 OKM.out) hLb).mono ?_
  rintro e w9 ⟨rfl, g9⟩
  have X9 : Hid (CnS w.heap.size mc ip po di st un nx wa inn out fin w w9 ∧ CnS w3.heap.size vm vi vp vd vs vu vn va vI vO vF w w9 ∧ OwnS sgG 7 27 w9 w2.heap.size (.slice s3 O.length c3) O ∧ OwnS sgG 7 27 w9 (w3.heap.size + 1) (.slice s5 O.length c5) (mk7 O.length)) := ⟨X8.out.1.below g9.below, X8.out.2.1.below g9.below, X8.out.2.2.1.now g9.below, X8.out.2.2.2.now g9.below⟩
  clear g9 X8
  have CX := X9.out.1
  have q0 : w9.cell? ⟨w.heap.size, 0, none⟩ = some (.string mc) := CX.1
  have q1 : w9.cell? ⟨w.heap.size, 1, none⟩ = some (.int .i64 ip) := CX.2.1
  have q2 : w9.cell? ⟨w.heap.size, 2, none⟩ = some (.int .i64 po) := CX.2.2.1
  have q3 : w9.cell? ⟨w.heap.size, 3, none⟩ = some (.int .i64 di) := CX.2.2.2.1
  have q4 : w9.cell? ⟨w.heap.size, 4, none⟩ = some (.int .i64 st) := CX.2.2.2.2.1
  have q5 : w9.cell? ⟨w.heap.size, 5, none⟩ = some (.int .i64 un) := CX.2.2.2.2.2.1
  have q6 : w9.cell? ⟨w.heap.size, 6, none⟩ = some (.int .i64 nx) := CX.2.2.2.2.2.2.1
  have q7 : w9.cell? ⟨w.heap.size, 7, none⟩ = some (.int .i64 wa) := CX.2.2.2.2.2.2.2.1
  have q8 : w9.cell? ⟨w.heap.size, 8, none⟩ = some (.string inn) := CX.2.2.2.2.2.2.2.2.1
  have q9 : w9.cell? ⟨w.heap.size, 9, none⟩ = some (.string out) := CX.2.2.2.2.2.2.2.2.2.1
  have q10 : w9.cell? ⟨w.heap.size, 10, none⟩ = some (.bool fin) := CX.2.2.2.2.2.2.2.2.2.2.1
  clear CX
  go_wp2_with fail
  refine (HT.out _).mono ?_
  rintro e w10 ⟨rfl, g10⟩
  have b10 := g10.below
  clear q0 q1 q2 q3 q4 q5 q6 q7 q8 q9 q10 g10
  have X10 : Hid (CnS w.heap.size mc ip po di st un nx wa inn out fin w w10 ∧ CnS w3.heap.size vm vi vp vd vs vu vn va vI vO vF w w10 ∧ OwnS sgG 7 27 w10 w2.heap.size (.slice s3 O.length c3) O ∧ OwnS sgG 7 27 w10 (w3.heap.size + 1) (.slice s5 O.length c5) (mk7 O.length)) := ⟨X9.out.1.below b10, X9.out.2.1.below b10, X9.out.2.2.1.now b10, X9.out.2.2.2.now b10⟩
  clear b10 X9
  go_wp2_with fail
  refine (HI.out _).mono ?_
  rintro e w11 ⟨v11, rfl, o11, b11⟩
  obtain ⟨s11, c11, rfl, -⟩ := o11.slice
  have al : Below w11.heap.size w11 (w11.alloc (.cells #[.string vm, .int .i64 vi, .int .i64 vp, .int .i64 vd, .int .i64 vs, .int .i64 vu, .int .i64 vn, .int .i64 va, .string vI, .string vO, .bool vF] 24)) := (Below.refl _ _).alloc (Nat.le_refl _) _
  have X11 : Hid (CnS w.heap.size mc ip po di st un nx wa inn out fin w (w11.alloc (.cells #[.string vm, .int .i64 vi, .int .i64 vp, .int .i64 vd, .int .i64 vs, .int .i64 vu, .int .i64 vn, .int .i64 va, .string vI, .string vO, .bool vF] 24)) ∧ CnS w3.heap.size vm vi vp vd vs vu vn va vI vO vF w (w11.alloc (.cells #[.string vm, .int .i64 vi, .int .i64 vp, .int .i64 vd, .int .i64 vs, .int .i64 vu, .int .i64 vn, .int .i64 va, .string vI, .string vO, .bool vF] 24)) ∧ OwnS sgG 7 27 (w11.alloc (.cells #[.string vm, .int .i64 vi, .int .i64 vp, .int .i64 vd, .int .i64 vs, .int .i64 vu, .int .i64 vn, .int .i64 va, .string vI, .string vO, .bool vF] 24)) w2.heap.size (.slice s3 O.length c3) O ∧ OwnS sgG 7 27 (w11.alloc (.cells #[.string vm, .int .i64 vi, .int .i64 vp, .int .i64 vd, .int .i64 vs, .int .i64 vu, .int .i64 vn, .int .i64 va, .string vI, .string vO, .bool vF] 24)) (w3.heap.size + 1) (.slice s5 O.length c5) (mk7 O.length) ∧ Rw SgR 7 (w11.alloc (.cells #[.string vm, .int .i64 vi, .int .i64 vp, .int .i64 vd, .int .i64 vs, .int .i64 vu, .int .i64 vn, .int .i64 va, .string vI, .string vO, .bool vF] 24)) s11 O ∧ CnS w11.heap.size vm vi vp vd vs vu vn va vI vO vF w (w11.alloc (.cells #[.string vm, .int .i64 vi, .int .i64 vp, .int .i64 vd, .int .i64 vs, .int .i64 vu, .int .i64 vn, .int .i64 va, .string vI, .string vO, .bool vF] 24))) := ⟨(X10.out.1.below b11).below al, (X10.out.2.1.below b11).below al, (X10.out.2.2.1.now b11).now al, (X10.out.2.2.2.now b11).now al, rwS (o11.now al) OKO.out, NB.out w11 (X10.out.1.below b11).2.2.2.2.2.2.2.2.2.2.2.out⟩
  clear o11 b11 X10 al
  have CX := X11.out.2.2.2.2.2
  have CY := X11.out.2.1
  have q0 : (w11.alloc (.cells #[.string vm, .int .i64 vi, .int .i64 vp, .int .i64 vd, .int .i64 vs, .int .i64 vu, .int .i64 vn, .int .i64 va, .string vI, .string vO, .bool vF] 24)).cell? ⟨w11.heap.size, 0, none⟩ = some (.string vm) := CX.1
  have q1 : (w11.alloc (.cells #[.string vm, .int .i64 vi, .int .i64 vp, .int .i64 vd, .int .i64 vs, .int .i64 vu, .int .i64 vn, .int .i64 va, .string vI, .string vO, .bool vF] 24)).cell? ⟨w11.heap.size, 1, none⟩ = some (.int .i64 vi) := CX.2.1
  have q2 : (w11.alloc (.cells #[.string vm, .int .i64 vi, .int .i64 vp, .int .i64 vd, .int .i64 vs, .int .i64 vu, .int .i64 vn, .int .i64 va, .string vI, .string vO, .bool vF] 24)).cell? ⟨w11.heap.size, 2, none⟩ = some (.int .i64 vp) := CX.2.2.1
  have q3 : (w11.alloc (.cells #[.string vm, .int .i64 vi, .int .i64 vp, .int .i64 vd, .int .i64 vs, .int .i64 vu, .int .i64 vn, .int .i64 va, .string vI, .string vO, .bool vF] 24)).cell? ⟨w11.heap.size, 3, none⟩ = some (.int .i64 vd) := CX.2.2.2.1
  have q4 : (w11.alloc (.cells #[.string vm, .int .i64 vi, .int .i64 vp, .int .i64 vd, .int .i64 vs, .int .i64 vu, .int .i64 vn, .int .i64 va, .string vI, .string vO, .bool vF] 24)).cell? ⟨w11.heap.size, 4, none⟩ = some (.int .i64 vs) := CX.2.2.2.2.1
  have q5 : (w11.alloc (.cells #[.string vm, .int .i64 vi, .int .i64 vp, .int .i64 vd, .int .i64 vs, .int .i64 vu, .int .i64 vn, .int .i64 va, .string vI, .string vO, .bool vF] 24)).cell? ⟨w11.heap.size, 5, none⟩ = some (.int .i64 vu) := CX.2.2.2.2.2.1
  have q6 : (w11.alloc (.cells #[.string vm, .int .i64 vi, .int .i64 vp, .int .i64 vd, .int .i64 vs, .int .i64 vu, .int .i64 vn, .int .i64 va, .string vI, .string vO, .bool vF] 24)).cell? ⟨w11.heap.size, 6, none⟩ = some (.int .i64 vn) := CX.2.2.2.2.2.2.1
  have q7 : (w11.alloc (.cells #[.string vm, .int .i64 vi, .int .i64 vp, .int .i64 vd, .int .i64 vs, .int .i64 vu, .int .i64 vn, .int .i64 va, .string vI, .string vO, .bool vF] 24)).cell? ⟨w11.heap.size, 7, none⟩ = some (.int .i64 va) := CX.2.2.2.2.2.2.2.1
  have q8 : (w11.alloc (.cells #[.string vm, .int .i64 vi, .int .i64 vp, .int .i64 vd, .int .i64 vs, .int .i64 vu, .int .i64 vn, .int .i64 va, .string vI, .string vO, .bool vF] 24)).cell? ⟨w11.heap.size, 8, none⟩ = some (.string vI) := CX.2.2.2.2.2.2.2.2.1
  have q9 : (w11.alloc (.cells #[.string vm, .int .i64 vi, .int .i64 vp, .int .i64 vd, .int .i64 vs, .int .i64 vu, .int .i64 vn, .int .i64 va, .string vI, .string vO, .bool vF] 24)).cell? ⟨w11.heap.size, 9, none⟩ = some (.string vO) := CX.2.2.2.2.2.2.2.2.2.1
  have q10 : (w11.alloc (.cells #[.string vm, .int .i64 vi, .int .i64 vp, .int .i64 vd, .int .i64 vs, .int .i64 vu, .int .i64 vn, .int .i64 va, .string vI, .string vO, .bool vF] 24)).cell? ⟨w11.heap.size, 10, none⟩ = some (.bool vF) := CX.2.2.2.2.2.2.2.2.2.2.1
  have r0 : (w11.alloc (.cells #[.string vm, .int .i64 vi, .int .i64 vp, .int .i64 vd, .int .i64 vs, .int .i64 vu, .int .i64 vn, .int .i64 va, .string vI, .string vO, .bool vF] 24)).cell? ⟨w3.heap.size, 0, none⟩ = some (.string vm) := CY.1
  have r1 : (w11.alloc (.cells #[.string vm, .int .i64 vi, .int .i64 vp, .int .i64 vd, .int .i64 vs, .int .i64 vu, .int .i64 vn, .int .i64 va, .string vI, .string vO, .bool vF] 24)).cell? ⟨w3.heap.size, 1, none⟩ = some (.int .i64 vi) := CY.2.1
  have r2 : (w11.alloc (.cells #[.string vm, .int .i64 vi, .int .i64 vp, .int .i64 vd, .int .i64 vs, .int .i64 vu, .int .i64 vn, .int .i64 va, .string vI, .string vO, .bool vF] 24)).cell? ⟨w3.heap.size, 2, none⟩ = some (.int .i64 vp) := CY.2.2.1
  have r3 : (w11.alloc (.cells #[.string vm, .int .i64 vi, .int .i64 vp, .int .i64 vd, .int .i64 vs, .int .i64 vu, .int .i64 vn, .int .i64 va, .string vI, .string vO, .bool vF] 24)).cell? ⟨w3.heap.size, 3, none⟩ = some (.int .i64 vd) := CY.2.2.2.1
  have r4 : (w11.alloc (.cells #[.string vm, .int .i64 vi, .int .i64 vp, .int .i64 vd, .int .i64 vs, .int .i64 vu, .int .i64 vn, .int .i64 va, .string vI, .string vO, .bool vF] 24)).cell? ⟨w3.heap.size, 4, none⟩ = some (.int .i64 vs) := CY.2.2.2.2.1
  have r5 : (w11.alloc (.cells #[.string vm, .int .i64 vi, .int .i64 vp, .int .i64 vd, .int .i64 vs, .int .i64 vu, .int .i64 vn, .int .i64 va, .string vI, .string vO, .bool vF] 24)).cell? ⟨w3.heap.size, 5, none⟩ = some (.int .i64 vu) := CY.2.2.2.2.2.1
  have r6 : (w11.alloc (.cells #[.string vm, .int .i64 vi, .int .i64 vp, .int .i64 vd, .int .i64 vs, .int .i64 vu, .int .i64 vn, .int .i64 va, .string vI, .string vO, .bool vF] 24)).cell? ⟨w3.heap.size, 6, none⟩ = some (.int .i64 vn) := CY.2.2.2.2.2.2.1
  have r7 : (w11.alloc (.cells #[.string vm, .int .i64 vi, .int .i64 vp, .int .i64 vd, .int .i64 vs, .int .i64 vu, .int .i64 vn, .int .i64 va, .string vI, .string vO, .bool vF] 24)).cell? ⟨w3.heap.size, 7, none⟩ = some (.int .i64 va) := CY.2.2.2.2.2.2.2.1
  have r8 : (w11.alloc (.cells #[.string vm, .int .i64 vi, .int .i64 vp, .int .i64 vd, .int .i64 vs, .int .i64 vu, .int .i64 vn, .int .i64 va, .string vI, .string vO, .bool vF] 24)).cell? ⟨w3.heap.size, 8, none⟩ = some (.string vI) := CY.2.2.2.2.2.2.2.2.1
  have r9 : (w11.alloc (.cells #[.string vm, .int .i64 vi, .int .i64 vp, .int .i64 vd, .int .i64 vs, .int .i64 vu, .int .i64 vn, .int .i64 va, .string vI, .string vO, .bool vF] 24)).cell? ⟨w3.heap.size, 9, none⟩ = some (.string vO) := CY.2.2.2.2.2.2.2.2.2.1
  have r10 : (w11.alloc (.cells #[.string vm, .int .i64 vi, .int .i64 vp, .int .i64 vd, .int .i64 vs, .int .i64 vu, .int .i64 vn, .int .i64 va, .string vI, .string vO, .bool vF] 24)).cell? ⟨w3.heap.size, 10, none⟩ = some (.bool vF) := CY.2.2.2.2.2.2.2.2.2.2.1
  clear CX CY
  go_wp2_with fail
  refine (HQ.out _).mono ?_
  rintro e w12 ⟨rfl, g12⟩
  have X12 : Hid (CnS w.heap.size mc ip po di st un nx wa inn out fin w w12 ∧ OwnS sgG 7 27 w12 w2.heap.size (.slice s3 O.length c3) O ∧ OwnS sgG 7 27 w12 (w3.heap.size + 1) (.slice s5 O.length c5) (mk7 O.length) ∧ Rw SgR 7 w12 s11 O) := ⟨X11.out.1.below g12.below, X11.out.2.2.1.now g12.below, X11.out.2.2.2.1.now g12.below, X11.out.2.2.2.2.1.keep FR.kp g12.below⟩
  clear g12 X11 q0 r0 q1 r1 q2 r2 q3 r3 q4 r4 q5 r5 q6 r6 q7 r7 q8 r8 q9 r9 q10 r10
  go_wp2_with fail
  refine (HE.out _ _ _ _ _ X12.out.2.2.2 (rwS X12.out.2.1 OKO.out)).mono ?_
  rintro e w13 ⟨rfl, g13⟩
  have X13 : Hid (CnS w.heap.size mc ip po di st un nx wa inn out fin w w13 ∧ OwnS sgG 7 27 w13 (w3.heap.size + 1) (.slice s5 O.length c5) (mk7 O.length)) := ⟨X12.out.1.below g13.below, X12.out.2.2.1.now g13.below⟩
  clear g13 X12
  go_wp2_with fail
  refine (heldSegmentS_any _ _ _ _ (rwS X13.out.2 OKM.out) hLb).mono ?_
  rintro e w14 ⟨rfl, g14⟩
  have X14 : Hid (Below w.heap.size w w14) := X13.out.1.2.2.2.2.2.2.2.2.2.2.2.out.trans (g14.below.mono X13.out.1.2.2.2.2.2.2.2.2.2.2.2.out.size)
  clear g14
  go_wp2
  go_ret
  exact ⟨rfl, X14.out⟩
end Go.Proofs.Ytmfpoecjiikblaa
