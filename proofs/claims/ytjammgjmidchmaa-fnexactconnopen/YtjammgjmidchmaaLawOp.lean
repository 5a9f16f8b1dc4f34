/- The walk of laws.FnExactConnOpen. -/
import Derived.Test.YtjammgjmidchmaaConOd
import Derived.Test.YtjammgjmidchmaaConOe
import Derived.Test.YtjammgjmidchmaaLawCm
namespace Go.Proofs.Ytjammgjmidchmaa
open Go.RowKit Go.PlainAid Go.Proofs.Ytjammgjmidchmaa.Bt Go.Sort
set_option linter.unusedVariables false
set_option maxRecDepth 20000

/-- A segment in its box, and all below kept. -/
def SgS (q : Nat) (sp dp sq ac fl wi : Int) (da : ByteArray) (W wx : World) : Prop := wx.cell? ⟨q, 0, none⟩ = some (.int .i64 sp) ∧ wx.cell? ⟨q, 1, none⟩ = some (.int .i64 dp) ∧ wx.cell? ⟨q, 2, none⟩ = some (.int .i64 sq) ∧ wx.cell? ⟨q, 3, none⟩ = some (.int .i64 ac) ∧ wx.cell? ⟨q, 4, none⟩ = some (.int .i64 fl) ∧ wx.cell? ⟨q, 5, none⟩ = some (.int .i64 wi) ∧ wx.cell? ⟨q, 6, none⟩ = some (.string da) ∧ KpC W wx
theorem SgS.below {q : Nat} {sp dp sq ac fl wi : Int} {da : ByteArray} {W wx wy : World} (h : SgS q sp dp sq ac fl wi da W wx) (hb : Below wx.heap.size wx wy) : SgS q sp dp sq ac fl wi da W wy :=
  ⟨bkeep hb h.1, bkeep hb h.2.1, bkeep hb h.2.2.1, bkeep hb h.2.2.2.1, bkeep hb h.2.2.2.2.1, bkeep hb h.2.2.2.2.2.1, bkeep hb h.2.2.2.2.2.2.1, ⟨h.2.2.2.2.2.2.2.out.trans (hb.mono h.2.2.2.2.2.2.2.out.size)⟩⟩
theorem SgS.row {q : Nat} {r : Option Nat} {sp dp sq ac fl wi : Int} {da : ByteArray} {W wx wy : World} (h : SgS q sp dp sq ac fl wi da W wx) (hg : wx.grownBy wy r) (hb : Below W.heap.size wx wy) (hne : some q ≠ r) : SgS q sp dp sq ac fl wi da W wy :=
  ⟨hg.cell (a := ⟨q, 0, none⟩) h.1 hne, hg.cell (a := ⟨q, 1, none⟩) h.2.1 hne, hg.cell (a := ⟨q, 2, none⟩) h.2.2.1 hne, hg.cell (a := ⟨q, 3, none⟩) h.2.2.2.1 hne, hg.cell (a := ⟨q, 4, none⟩) h.2.2.2.2.1 hne, hg.cell (a := ⟨q, 5, none⟩) h.2.2.2.2.2.1 hne, hg.cell (a := ⟨q, 6, none⟩) h.2.2.2.2.2.2.1 hne, ⟨h.2.2.2.2.2.2.2.out.trans hb⟩⟩
theorem rwS {w : World} {B n cap : Nat} {a : Option Addr} {L : List SegV} (h : OwnS sgG 7 27 w B (.slice a n cap) L) (hok : ∀ x, x ∈ L → SgRok x) : Rw SgR 7 w a L := h.rw sgG_len hok
theorem op_zero {mc : ByteArray} {ip di : Int} {g : SegV} {isn : Int} (hl : ¬ 65536 < mc.size) (h : opC mc ip di g isn = 0) : opB mc ip di g = true ∧ (0 ≤ isn ∧ isn ≤ 4294967295) ∧ bits BinOp.and IntKind.i64 g.fl 23 = 2 := by
  unfold opC at h
  rw [if_neg hl] at h
  split at h
  · rename_i hb
    split at h
    · rename_i hi
      split at h
      · rename_i hf
        exact ⟨hb, hi, hf⟩
      · cases h
    · cases h
  · cases h
theorem opB_sg {mc : ByteArray} {ip di : Int} {g : SegV} (h : opB mc ip di g = true) : (0 ≤ g.sp ∧ g.sp ≤ 65535) ∧ 0 ≤ g.sq ∧ g.sq ≤ 4294967295 := by
  unfold opB sgB at h
  simp only [Bool.and_eq_true] at h
  have h1 := h.2.1.1.1.1.1.1
  have h2 := h.2.1.1.1.1.2
  constructor
  · by_cases h3 : 0 ≤ g.sp ∧ g.sp ≤ 65535
    · exact h3
    · rw [dec_n h3] at h1; cases h1
  · by_cases h3 : 0 ≤ g.sq ∧ g.sq ≤ 4294967295
    · exact h3
    · rw [dec_n h3] at h2; cases h2
theorem opB_sq {mc : ByteArray} {ip di : Int} {g : SegV} (h : opB mc ip di g = true) : 0 ≤ g.sq ∧ g.sq ≤ 4294967295 := (opB_sg h).2
theorem opL_len (mc : ByteArray) (ip di : Int) (g : SegV) (isn : Int) : (opL mc ip di g isn).length ≤ 1 := by
  unfold opL
  split <;> simp
theorem opL_ok (mc : ByteArray) (ip di : Int) (g : SegV) (isn : Int) : ∀ x, x ∈ opL mc ip di g isn → SgRok x := by
  unfold opL
  split
  · rename_i h
    intro x hx
    have hl : ¬ 65536 < mc.size := fun h2 => by rw [(op_long h2).1] at h; cases h
    obtain ⟨hb, hi, hf⟩ := op_zero hl h
    have hs := (opB_sg hb).1
    have hw := sqN_bd (g.sq + 1)
    simp only [List.mem_singleton] at hx
    subst hx
    exact ⟨rfl, wf64 (n := g.sp) hs.1 (by omega), wf64 (n := isn) hi.1 hi.2, wf64 (n := sqN (g.sq + 1)) hw.1 hw.2, rfl, rfl, Nat.zero_le _⟩
  · intro x hx
    simp at hx
set_option maxHeartbeats 4000000 in
theorem implOp_long (mc : ByteArray) (ip di : Int) (sp dp sq ac fl wi : Int) (da : ByteArray) (isn : Int) (w : World) (h : 65536 < mc.size) :
    Calls Try.prog 17 #[.string mc, .int .i64 ip, .int .i64 di, .agg #[.int .i64 sp, .int .i64 dp, .int .i64 sq, .int .i64 ac, .int .i64 fl, .int .i64 wi, .string da], .int .i64 isn] w fun e w' => ∃ v, e = .returned (.tuple #[cvA cnZ, v, .int .i64 2]) ∧ OwnS sgG 7 27 w' w.heap.size v [] ∧ Below w.heap.size w w' := by
  have t1 : decide ((65536 : Int) < (mc.size : Int)) = true := decide_eq_true (by omega)
  clear h
  go_enter Try.func17, Try.ntmps17
  go_wp2
  (try simp only [Exit.inBlock, Exit.then])
  refine bodyPost_ret (v := .tuple #[cvA cnZ, .slice none 0 0, .int .i64 2]) (by simp [results, Try.results17, go_sem, cvA, cnZ]; try rfl) rfl ?_
  exact ⟨_, rfl, OwnS.nil _ _, (((Below.refl _ _).alloc (Nat.le_refl _) _).alloc (by simp) _)⟩
theorem specOp_any (mc : ByteArray) (ip di : Int) (sp dp sq ac fl wi : Int) (da : ByteArray) (isn : Int) (w : World) (hda : da.size ≤ 9223372036854775807) :
    Calls Try.prog 24 #[.string mc, .int .i64 ip, .int .i64 di, .agg #[.int .i64 sp, .int .i64 dp, .int .i64 sq, .int .i64 ac, .int .i64 fl, .int .i64 wi, .string da], .int .i64 isn] w fun e w' => ∃ v, e = .returned (.tuple #[cvA (opV mc ip di ⟨sp, dp, sq, ac, fl, wi, da⟩ isn), v, .int .i64 (opC mc ip di ⟨sp, dp, sq, ac, fl, wi, da⟩ isn)]) ∧ OwnS sgG 7 27 w' w.heap.size v (opL mc ip di ⟨sp, dp, sq, ac, fl, wi, da⟩ isn) ∧ Below w.heap.size w w' := by
  by_cases hl : 65536 < mc.size
  · obtain ⟨e1, e2, e3⟩ := op_long (ip := ip) (di := di) (g := ⟨sp, dp, sq, ac, fl, wi, da⟩) (isn := isn) hl
    rw [e1, e2, e3]
    exact specOp_long mc ip di sp dp sq ac fl wi da isn w hl
  by_cases hno : opC mc ip di ⟨sp, dp, sq, ac, fl, wi, da⟩ isn = 0
  · obtain ⟨hb, hi, hf⟩ := op_zero hl hno
    obtain ⟨e1, e2, e3⟩ := op_ok (g := ⟨sp, dp, sq, ac, fl, wi, da⟩) hl hb hi hf
    rw [e1, e2, e3]
    exact specOp_yes mc ip di sp dp sq ac fl wi da isn w hl hda hb hi hf (opB_sq hb)
  · obtain ⟨e1, e2, e3⟩ := op_else (mc := mc) (ip := ip) (di := di) (g := ⟨sp, dp, sq, ac, fl, wi, da⟩) (isn := isn) rfl hno
    rw [e2, e3]
    exact specOp_few mc ip di sp dp sq ac fl wi da isn w hl hda hno
theorem implOp_any (mc : ByteArray) (ip di : Int) (sp dp sq ac fl wi : Int) (da : ByteArray) (isn : Int) (w : World) (hda : da.size ≤ 9223372036854775807) (hs : sp ≤ 9223372036854775807) (hd : dp ≤ 9223372036854775807) (hq : sq ≤ 9223372036854775807) (ha : ac ≤ 9223372036854775807) (hw : wi ≤ 9223372036854775807) :
    Calls Try.prog 17 #[.string mc, .int .i64 ip, .int .i64 di, .agg #[.int .i64 sp, .int .i64 dp, .int .i64 sq, .int .i64 ac, .int .i64 fl, .int .i64 wi, .string da], .int .i64 isn] w fun e w' => ∃ v, e = .returned (.tuple #[cvA (opV mc ip di ⟨sp, dp, sq, ac, fl, wi, da⟩ isn), v, .int .i64 (opC mc ip di ⟨sp, dp, sq, ac, fl, wi, da⟩ isn)]) ∧ OwnS sgG 7 27 w' w.heap.size v (opL mc ip di ⟨sp, dp, sq, ac, fl, wi, da⟩ isn) ∧ Below w.heap.size w w' := by
  by_cases hl : 65536 < mc.size
  · obtain ⟨e1, e2, e3⟩ := op_long (ip := ip) (di := di) (g := ⟨sp, dp, sq, ac, fl, wi, da⟩) (isn := isn) hl
    rw [e1, e2, e3]
    exact implOp_long mc ip di sp dp sq ac fl wi da isn w hl
  by_cases hno : opC mc ip di ⟨sp, dp, sq, ac, fl, wi, da⟩ isn = 0
  · obtain ⟨hb, hi, hf⟩ := op_zero hl hno
    obtain ⟨e1, e2, e3⟩ := op_ok (g := ⟨sp, dp, sq, ac, fl, wi, da⟩) hl hb hi hf
    rw [e1, e2, e3]
    exact implOp_yes mc ip di sp dp sq ac fl wi da isn w hl hda hs hd hq ha hw hb hi hf (opB_sq hb)
  · obtain ⟨e1, e2, e3⟩ := op_else (mc := mc) (ip := ip) (di := di) (g := ⟨sp, dp, sq, ac, fl, wi, da⟩) (isn := isn) rfl hno
    rw [e2, e3]
    exact implOp_few mc ip di sp dp sq ac fl wi da isn w hl hda hs hd hq ha hw hno
set_option maxHeartbeats 4000000 in
theorem lawConnOpen_any (mc : ByteArray) (ip di : Int) (sp dp sq ac fl wi : Int) (da : ByteArray) (isn : Int) (w : World) (hmc : mc.size ≤ maxLen) (hda : da.size ≤ maxLen) (hs : sp ≤ 9223372036854775807) (hd : dp ≤ 9223372036854775807) (hq : sq ≤ 9223372036854775807) (ha : ac ≤ 9223372036854775807) (hw : wi ≤ 9223372036854775807) :
    Calls Try.prog 5 #[.string mc, .int .i64 ip, .int .i64 di, .agg #[.int .i64 sp, .int .i64 dp, .int .i64 sq, .int .i64 ac, .int .i64 fl, .int .i64 wi, .string da], .int .i64 isn] w fun e w' => e = .returned (.bool true) ∧ Below w.heap.size w w' := by
  unfold maxLen at hmc hda
  by_cases hl : 1048576 < mc.size
  · have t1 : decide ((1048576 : Int) < (mc.size : Int)) = true := decide_eq_true (by omega)
    go_enter Try.func5, Try.ntmps5
    go_wp2
    go_ret
    exact ⟨rfl, (Below.refl _ _).alloc (Nat.le_refl _) _⟩
  have t1 : decide ((1048576 : Int) < (mc.size : Int)) = false := decide_eq_false (by omega)
  have HZ : Hid (∀ w, Calls Try.prog 23 #[.agg #[.int .i64 sp, .int .i64 dp, .int .i64 sq, .int .i64 ac, .int .i64 fl, .int .i64 wi, .string da], .int .i64 1048576] w fun e w' => ∃ r : Int, e = .returned (.int .i64 r) ∧ (0 ≤ r → r ≤ 1048576 ∧ (da.size : Int) ≤ 1048576) ∧ -1 ≤ r ∧ r ≤ 1048576 ∧ Grw w w') := fun w => szSegment_any sp dp sq ac fl wi da 1048576 w (by omega) (by omega) (by omega)
  have HT : Hid (∀ w, Calls Try.prog 25 #[.agg #[.int .i64 sp, .int .i64 dp, .int .i64 sq, .int .i64 ac, .int .i64 fl, .int .i64 wi, .string da]] w fun e w' => e = .returned (.agg #[.int .i64 sp, .int .i64 dp, .int .i64 sq, .int .i64 ac, .int .i64 fl, .int .i64 wi, .string da]) ∧ Grw w w') := fun w => toSegment_any sp dp sq ac fl wi da w
  have HS : Hid (da.size ≤ 1048576 → ∀ w, Calls Try.prog 24 #[.string mc, .int .i64 ip, .int .i64 di, .agg #[.int .i64 sp, .int .i64 dp, .int .i64 sq, .int .i64 ac, .int .i64 fl, .int .i64 wi, .string da], .int .i64 isn] w fun e w' => ∃ v, e = .returned (.tuple #[cvA (opV mc ip di ⟨sp, dp, sq, ac, fl, wi, da⟩ isn), v, .int .i64 (opC mc ip di ⟨sp, dp, sq, ac, fl, wi, da⟩ isn)]) ∧ OwnS sgG 7 27 w' w.heap.size v (opL mc ip di ⟨sp, dp, sq, ac, fl, wi, da⟩ isn) ∧ Below w.heap.size w w') := fun h1 w => specOp_any mc ip di sp dp sq ac fl wi da isn w (by omega)
  have HI : Hid (da.size ≤ 1048576 → ∀ w, Calls Try.prog 17 #[.string mc, .int .i64 ip, .int .i64 di, .agg #[.int .i64 sp, .int .i64 dp, .int .i64 sq, .int .i64 ac, .int .i64 fl, .int .i64 wi, .string da], .int .i64 isn] w fun e w' => ∃ v, e = .returned (.tuple #[cvA (opV mc ip di ⟨sp, dp, sq, ac, fl, wi, da⟩ isn), v, .int .i64 (opC mc ip di ⟨sp, dp, sq, ac, fl, wi, da⟩ isn)]) ∧ OwnS sgG 7 27 w' w.heap.size v (opL mc ip di ⟨sp, dp, sq, ac, fl, wi, da⟩ isn) ∧ Below w.heap.size w w') := fun h1 w => implOp_any mc ip di sp dp sq ac fl wi da isn w (by omega) hs hd hq ha hw
  have hLb : (opL mc ip di ⟨sp, dp, sq, ac, fl, wi, da⟩ isn).length ≤ 1048576 := Nat.le_trans (opL_len _ _ _ _ _) (by omega)
  have OKO : Hid (∀ x, x ∈ (opL mc ip di ⟨sp, dp, sq, ac, fl, wi, da⟩ isn) → SgRok x) := opL_ok _ _ _ _ _
  generalize opC mc ip di ⟨sp, dp, sq, ac, fl, wi, da⟩ isn = c at HS HI
  generalize opL mc ip di ⟨sp, dp, sq, ac, fl, wi, da⟩ isn = O at HS HI hLb OKO
  generalize opV mc ip di ⟨sp, dp, sq, ac, fl, wi, da⟩ isn = V at HS HI
  obtain ⟨vm, vi, vp, vd, vs, vu, vn, va, vI, vO, vF⟩ := V
  replace HS : Hid (da.size ≤ 1048576 → ∀ w, Calls Try.prog 24 #[.string mc, .int .i64 ip, .int .i64 di, .agg #[.int .i64 sp, .int .i64 dp, .int .i64 sq, .int .i64 ac, .int .i64 fl, .int .i64 wi, .string da], .int .i64 isn] w fun e w' => ∃ v, e = .returned (.tuple #[.agg #[.string vm, .int .i64 vi, .int .i64 vp, .int .i64 vd, .int .i64 vs, .int .i64 vu, .int .i64 vn, .int .i64 va, .string vI, .string vO, .bool vF], v, .int .i64 c]) ∧ OwnS sgG 7 27 w' w.heap.size v O ∧ Below w.heap.size w w') := HS
  replace HI : Hid (da.size ≤ 1048576 → ∀ w, Calls Try.prog 17 #[.string mc, .int .i64 ip, .int .i64 di, .agg #[.int .i64 sp, .int .i64 dp, .int .i64 sq, .int .i64 ac, .int .i64 fl, .int .i64 wi, .string da], .int .i64 isn] w fun e w' => ∃ v, e = .returned (.tuple #[.agg #[.string vm, .int .i64 vi, .int .i64 vp, .int .i64 vd, .int .i64 vs, .int .i64 vu, .int .i64 vn, .int .i64 va, .string vI, .string vO, .bool vF], v, .int .i64 c]) ∧ OwnS sgG 7 27 w' w.heap.size v O ∧ Below w.heap.size w w') := HI
  have OKM : Hid (∀ x, x ∈ mk7 O.length → SgRok x) := mk7_ok _ hLb
  have HQ : Hid (∀ w, Calls Try.prog 26 #[.agg #[.string vm, .int .i64 vi, .int .i64 vp, .int .i64 vd, .int .i64 vs, .int .i64 vu, .int .i64 vn, .int .i64 va, .string vI, .string vO, .bool vF], .agg #[.string vm, .int .i64 vi, .int .i64 vp, .int .i64 vd, .int .i64 vs, .int .i64 vu, .int .i64 vn, .int .i64 va, .string vI, .string vO, .bool vF]] w fun e w' => e = .returned (.bool true) ∧ Grw w w') := fun w => eqConn_any vm vi vp vd vs vu vn va vI vO vF w
  have HE : Hid (∀ (a a' : Option Addr) (cap cap' : Nat) w, Rw SgR 7 w a O → Rw SgR 7 w a' O → Calls Try.prog 27 #[.slice a O.length cap, .slice a' O.length cap'] w fun e w' => e = .returned (.bool true) ∧ Grw w w') := fun a a' cap cap' w h h' => eqSegmentS_yes a a' O.length cap cap' O w h h' rfl (by omega)
  have hnc : (c != c) = false := by simp
  have hmm : ((1 + 7 * (O.length : Int)) != (1 + 7 * (O.length : Int))) = false := by simp
  have C0 : Hid (SgS w.heap.size sp dp sq ac fl wi da w (w.alloc (.cells #[.int .i64 sp, .int .i64 dp, .int .i64 sq, .int .i64 ac, .int .i64 fl, .int .i64 wi, .string da] 47))) := ⟨by simp [go_sem], by simp [go_sem], by simp [go_sem], by simp [go_sem], by simp [go_sem], by simp [go_sem], by simp [go_sem], ⟨(Below.refl _ _).alloc (Nat.le_refl _) _⟩⟩
  have NB : Hid (∀ W : World, Below w.heap.size w W → CnS W.heap.size vm vi vp vd vs vu vn va vI vO vF w (W.alloc (.cells #[.string vm, .int .i64 vi, .int .i64 vp, .int .i64 vd, .int .i64 vs, .int .i64 vu, .int .i64 vn, .int .i64 va, .string vI, .string vO, .bool vF] 24))) := fun W hW => ⟨by simp [go_sem], by simp [go_sem], by simp [go_sem], by simp [go_sem], by simp [go_sem], by simp [go_sem], by simp [go_sem], by simp [go_sem], by simp [go_sem], by simp [go_sem], by simp [go_sem], ⟨hW.alloc hW.size _⟩⟩
  clear hs hd hq ha hw
  go_enter Try.func5, Try.ntmps5
  go_wp2_with fail
  refine (HZ.out _).mono ?_
  rintro e w1 ⟨r, rfl, hr, hr1, hr2, g1⟩
  have X1 : Hid (SgS w.heap.size sp dp sq ac fl wi da w w1) := C0.out.below g1.below
  clear g1 C0
  by_cases hr0 : r < 0
  · go_wp2
    go_ret
    exact ⟨rfl, X1.out.2.2.2.2.2.2.2.out⟩
  have hsz := (hr (by omega)).2
  have HS2 := HS.out (by omega)
  have HI2 := HI.out (by omega)
  replace HS : Hid _ := HS2
  replace HI : Hid _ := HI2
  clear HS2 HI2 hr hsz HZ
  have CX := X1.out
  have q0 : w1.cell? ⟨w.heap.size, 0, none⟩ = some (.int .i64 sp) := CX.1
  have q1 : w1.cell? ⟨w.heap.size, 1, none⟩ = some (.int .i64 dp) := CX.2.1
  have q2 : w1.cell? ⟨w.heap.size, 2, none⟩ = some (.int .i64 sq) := CX.2.2.1
  have q3 : w1.cell? ⟨w.heap.size, 3, none⟩ = some (.int .i64 ac) := CX.2.2.2.1
  have q4 : w1.cell? ⟨w.heap.size, 4, none⟩ = some (.int .i64 fl) := CX.2.2.2.2.1
  have q5 : w1.cell? ⟨w.heap.size, 5, none⟩ = some (.int .i64 wi) := CX.2.2.2.2.2.1
  have q6 : w1.cell? ⟨w.heap.size, 6, none⟩ = some (.string da) := CX.2.2.2.2.2.2.1
  clear CX
  go_wp2_with fail
  refine (HT.out _).mono ?_
  rintro e w2 ⟨rfl, g2⟩
  have b2 := g2.below
  clear q0 q1 q2 q3 q4 q5 q6 g2
  have X2 : Hid (SgS w.heap.size sp dp sq ac fl wi da w w2) := X1.out.below b2
  clear b2 X1
  go_wp2_with fail
  refine (HS.out _).mono ?_
  rintro e w3 ⟨v3, rfl, o3, b3⟩
  obtain ⟨s3, c3, rfl, -⟩ := o3.slice
  have Y3 : Hid (SgS w.heap.size sp dp sq ac fl wi da w w3) := X2.out.below b3
  have Z3 : Hid (w.heap.size < w3.heap.size) := World.block_lt_of_cell? w3 ⟨w.heap.size, 0, none⟩ Y3.out.1
  have hne3 : Hid (∀ k, (Value.slice s3 O.length c3).ownBlock = some k → k < w3.heap.size) := fun k hk => (World.ownsRow.lt o3 k hk).2
  have X3 : Hid (SgS w.heap.size sp dp sq ac fl wi da w (w3.alloc (.cells #[.string vm, .int .i64 vi, .int .i64 vp, .int .i64 vd, .int .i64 vs, .int .i64 vu, .int .i64 vn, .int .i64 va, .string vI, .string vO, .bool vF] 24)) ∧ CnS w3.heap.size vm vi vp vd vs vu vn va vI vO vF w (w3.alloc (.cells #[.string vm, .int .i64 vi, .int .i64 vp, .int .i64 vd, .int .i64 vs, .int .i64 vu, .int .i64 vn, .int .i64 va, .string vI, .string vO, .bool vF] 24)) ∧ OwnS sgG 7 27 (w3.alloc (.cells #[.string vm, .int .i64 vi, .int .i64 vp, .int .i64 vd, .int .i64 vs, .int .i64 vu, .int .i64 vn, .int .i64 va, .string vI, .string vO, .bool vF] 24)) w2.heap.size (.slice s3 O.length c3) O) := ⟨Y3.out.below ((Below.refl _ _).alloc (Nat.le_refl _) _), NB.out w3 Y3.out.2.2.2.2.2.2.2.out, o3.now ((Below.refl _ _).alloc (Nat.le_refl _) _)⟩
  clear o3 b3 X2 Y3
  have CX := X3.out.1
  have q0 : (w3.alloc (.cells #[.string vm, .int .i64 vi, .int .i64 vp, .int .i64 vd, .int .i64 vs, .int .i64 vu, .int .i64 vn, .int .i64 va, .string vI, .string vO, .bool vF] 24)).cell? ⟨w.heap.size, 0, none⟩ = some (.int .i64 sp) := CX.1
  have q1 : (w3.alloc (.cells #[.string vm, .int .i64 vi, .int .i64 vp, .int .i64 vd, .int .i64 vs, .int .i64 vu, .int .i64 vn, .int .i64 va, .string vI, .string vO, .bool vF] 24)).cell? ⟨w.heap.size, 1, none⟩ = some (.int .i64 dp) := CX.2.1
  have q2 : (w3.alloc (.cells #[.string vm, .int .i64 vi, .int .i64 vp, .int .i64 vd, .int .i64 vs, .int .i64 vu, .int .i64 vn, .int .i64 va, .string vI, .string vO, .bool vF] 24)).cell? ⟨w.heap.size, 2, none⟩ = some (.int .i64 sq) := CX.2.2.1
  have q3 : (w3.alloc (.cells #[.string vm, .int .i64 vi, .int .i64 vp, .int .i64 vd, .int .i64 vs, .int .i64 vu, .int .i64 vn, .int .i64 va, .string vI, .string vO, .bool vF] 24)).cell? ⟨w.heap.size, 3, none⟩ = some (.int .i64 ac) := CX.2.2.2.1
  have q4 : (w3.alloc (.cells #[.string vm, .int .i64 vi, .int .i64 vp, .int .i64 vd, .int .i64 vs, .int .i64 vu, .int .i64 vn, .int .i64 va, .string vI, .string vO, .bool vF] 24)).cell? ⟨w.heap.size, 4, none⟩ = some (.int .i64 fl) := CX.2.2.2.2.1
  have q5 : (w3.alloc (.cells #[.string vm, .int .i64 vi, .int .i64 vp, .int .i64 vd, .int .i64 vs, .int .i64 vu, .int .i64 vn, .int .i64 va, .string vI, .string vO, .bool vF] 24)).cell? ⟨w.heap.size, 5, none⟩ = some (.int .i64 wi) := CX.2.2.2.2.2.1
  have q6 : (w3.alloc (.cells #[.string vm, .int .i64 vi, .int .i64 vp, .int .i64 vd, .int .i64 vs, .int .i64 vu, .int .i64 vn, .int .i64 va, .string vI, .string vO, .bool vF] 24)).cell? ⟨w.heap.size, 6, none⟩ = some (.string da) := CX.2.2.2.2.2.2.1
  clear CX
  go_wp2_with fail
  refine (HT.out _).mono ?_
  rintro e w4 ⟨rfl, g4⟩
  have b4 := g4.below
  clear q0 q1 q2 q3 q4 q5 q6 g4
  have X4 : Hid (SgS w.heap.size sp dp sq ac fl wi da w w4 ∧ CnS w3.heap.size vm vi vp vd vs vu vn va vI vO vF w w4 ∧ OwnS sgG 7 27 w4 w2.heap.size (.slice s3 O.length c3) O ∧ w3.heap.size + 1 ≤ w4.heap.size) := ⟨X3.out.1.below b4, X3.out.2.1.below b4, X3.out.2.2.now b4, by have := b4.size; simp at this; omega⟩
  clear b4 X3
  go_wp2_with fail
  refine (HI.out _).mono ?_
  rintro e w5 ⟨v5, rfl, o5, b5⟩
  obtain ⟨s5, c5, rfl, -⟩ := o5.slice
  have al : Below w5.heap.size w5 (w5.alloc (.cells #[.string vm, .int .i64 vi, .int .i64 vp, .int .i64 vd, .int .i64 vs, .int .i64 vu, .int .i64 vn, .int .i64 va, .string vI, .string vO, .bool vF] 24)) := (Below.refl _ _).alloc (Nat.le_refl _) _
  have X5 : Hid (SgS w.heap.size sp dp sq ac fl wi da w (w5.alloc (.cells #[.string vm, .int .i64 vi, .int .i64 vp, .int .i64 vd, .int .i64 vs, .int .i64 vu, .int .i64 vn, .int .i64 va, .string vI, .string vO, .bool vF] 24)) ∧ CnS w3.heap.size vm vi vp vd vs vu vn va vI vO vF w (w5.alloc (.cells #[.string vm, .int .i64 vi, .int .i64 vp, .int .i64 vd, .int .i64 vs, .int .i64 vu, .int .i64 vn, .int .i64 va, .string vI, .string vO, .bool vF] 24)) ∧ OwnS sgG 7 27 (w5.alloc (.cells #[.string vm, .int .i64 vi, .int .i64 vp, .int .i64 vd, .int .i64 vs, .int .i64 vu, .int .i64 vn, .int .i64 va, .string vI, .string vO, .bool vF] 24)) w2.heap.size (.slice s3 O.length c3) O ∧ OwnS sgG 7 27 (w5.alloc (.cells #[.string vm, .int .i64 vi, .int .i64 vp, .int .i64 vd, .int .i64 vs, .int .i64 vu, .int .i64 vn, .int .i64 va, .string vI, .string vO, .bool vF] 24)) (w3.heap.size + 1) (.slice s5 O.length c5) O ∧ CnS w5.heap.size vm vi vp vd vs vu vn va vI vO vF w (w5.alloc (.cells #[.string vm, .int .i64 vi, .int .i64 vp, .int .i64 vd, .int .i64 vs, .int .i64 vu, .int .i64 vn, .int .i64 va, .string vI, .string vO, .bool vF] 24))) := ⟨(X4.out.1.below b5).below al, (X4.out.2.1.below b5).below al, (X4.out.2.2.1.now b5).now al, (o5.lower X4.out.2.2.2).now al, NB.out w5 (X4.out.1.below b5).2.2.2.2.2.2.2.out⟩
  clear o5 b5 X4 al
  have CX := X5.out.2.2.2.2
  have CY := X5.out.2.1
  have q0 : (w5.alloc (.cells #[.string vm, .int .i64 vi, .int .i64 vp, .int .i64 vd, .int .i64 vs, .int .i64 vu, .int .i64 vn, .int .i64 va, .string vI, .string vO, .bool vF] 24)).cell? ⟨w5.heap.size, 0, none⟩ = some (.string vm) := CX.1
  have q1 : (w5.alloc (.cells #[.string vm, .int .i64 vi, .int .i64 vp, .int .i64 vd, .int .i64 vs, .int .i64 vu, .int .i64 vn, .int .i64 va, .string vI, .string vO, .bool vF] 24)).cell? ⟨w5.heap.size, 1, none⟩ = some (.int .i64 vi) := CX.2.1
  have q2 : (w5.alloc (.cells #[.string vm, .int .i64 vi, .int .i64 vp, .int .i64 vd, .int .i64 vs, .int .i64 vu, .int .i64 vn, .int .i64 va, .string vI, .string vO, .bool vF] 24)).cell? ⟨w5.heap.size, 2, none⟩ = some (.int .i64 vp) := CX.2.2.1
  have q3 : (w5.alloc (.cells #[.string vm, .int .i64 vi, .int .i64 vp, .int .i64 vd, .int .i64 vs, .int .i64 vu, .int .i64 vn, .int .i64 va, .string vI, .string vO, .bool vF] 24)).cell? ⟨w5.heap.size, 3, none⟩ = some (.int .i64 vd) := CX.2.2.2.1
  have q4 : (w5.alloc (.cells #[.string vm, .int .i64 vi, .int .i64 vp, .int .i64 vd, .int .i64 vs, .int .i64 vu, .int .i64 vn, .int .i64 va, .string vI, .string vO, .bool vF] 24)).cell? ⟨w5.heap.size, 4, none⟩ = some (.int .i64 vs) := CX.2.2.2.2.1
  have q5 : (w5.alloc (.cells #[.string vm, .int .i64 vi, .int .i64 vp, .int .i64 vd, .int .i64 vs, .int .i64 vu, .int .i64 vn, .int .i64 va, .string vI, .string vO, .bool vF] 24)).cell? ⟨w5.heap.size, 5, none⟩ = some (.int .i64 vu) := CX.2.2.2.2.2.1
  have q6 : (w5.alloc (.cells #[.string vm, .int .i64 vi, .int .i64 vp, .int .i64 vd, .int .i64 vs, .int .i64 vu, .int .i64 vn, .int .i64 va, .string vI, .string vO, .bool vF] 24)).cell? ⟨w5.heap.size, 6, none⟩ = some (.int .i64 vn) := CX.2.2.2.2.2.2.1
  have q7 : (w5.alloc (.cells #[.string vm, .int .i64 vi, .int .i64 vp, .int .i64 vd, .int .i64 vs, .int .i64 vu, .int .i64 vn, .int .i64 va, .string vI, .string vO, .bool vF] 24)).cell? ⟨w5.heap.size, 7, none⟩ = some (.int .i64 va) := CX.2.2.2.2.2.2.2.1
  have q8 : (w5.alloc (.cells #[.string vm, .int .i64 vi, .int .i64 vp, .int .i64 vd, .int .i64 vs, .int .i64 vu, .int .i64 vn, .int .i64 va, .string vI, .string vO, .bool vF] 24)).cell? ⟨w5.heap.size, 8, none⟩ = some (.string vI) := CX.2.2.2.2.2.2.2.2.1
  have q9 : (w5.alloc (.cells #[.string vm, .int .i64 vi, .int .i64 vp, .int .i64 vd, .int .i64 vs, .int .i64 vu, .int .i64 vn, .int .i64 va, .string vI, .string vO, .bool vF] 24)).cell? ⟨w5.heap.size, 9, none⟩ = some (.string vO) := CX.2.2.2.2.2.2.2.2.2.1
  have q10 : (w5.alloc (.cells #[.string vm, .int .i64 vi, .int .i64 vp, .int .i64 vd, .int .i64 vs, .int .i64 vu, .int .i64 vn, .int .i64 va, .string vI, .string vO, .bool vF] 24)).cell? ⟨w5.heap.size, 10, none⟩ = some (.bool vF) := CX.2.2.2.2.2.2.2.2.2.2.1
  have r0 : (w5.alloc (.cells #[.string vm, .int .i64 vi, .int .i64 vp, .int .i64 vd, .int .i64 vs, .int .i64 vu, .int .i64 vn, .int .i64 va, .string vI, .string vO, .bool vF] 24)).cell? ⟨w3.heap.size, 0, none⟩ = some (.string vm) := CY.1
  have r1 : (w5.alloc (.cells #[.string vm, .int .i64 vi, .int .i64 vp, .int .i64 vd, .int .i64 vs, .int .i64 vu, .int .i64 vn, .int .i64 va, .string vI, .string vO, .bool vF] 24)).cell? ⟨w3.heap.size, 1, none⟩ = some (.int .i64 vi) := CY.2.1
  have r2 : (w5.alloc (.cells #[.string vm, .int .i64 vi, .int .i64 vp, .int .i64 vd, .int .i64 vs, .int .i64 vu, .int .i64 vn, .int .i64 va, .string vI, .string vO, .bool vF] 24)).cell? ⟨w3.heap.size, 2, none⟩ = some (.int .i64 vp) := CY.2.2.1
  have r3 : (w5.alloc (.cells #[.string vm, .int .i64 vi, .int .i64 vp, .int .i64 vd, .int .i64 vs, .int .i64 vu, .int .i64 vn, .int .i64 va, .string vI, .string vO, .bool vF] 24)).cell? ⟨w3.heap.size, 3, none⟩ = some (.int .i64 vd) := CY.2.2.2.1
  have r4 : (w5.alloc (.cells #[.string vm, .int .i64 vi, .int .i64 vp, .int .i64 vd, .int .i64 vs, .int .i64 vu, .int .i64 vn, .int .i64 va, .string vI, .string vO, .bool vF] 24)).cell? ⟨w3.heap.size, 4, none⟩ = some (.int .i64 vs) := CY.2.2.2.2.1
  have r5 : (w5.alloc (.cells #[.string vm, .int .i64 vi, .int .i64 vp, .int .i64 vd, .int .i64 vs, .int .i64 vu, .int .i64 vn, .int .i64 va, .string vI, .string vO, .bool vF] 24)).cell? ⟨w3.heap.size, 5, none⟩ = some (.int .i64 vu) := CY.2.2.2.2.2.1
  have r6 : (w5.alloc (.cells #[.string vm, .int .i64 vi, .int .i64 vp, .int .i64 vd, .int .i64 vs, .int .i64 vu, .int .i64 vn, .int .i64 va, .string vI, .string vO, .bool vF] 24)).cell? ⟨w3.heap.size, 6, none⟩ = some (.int .i64 vn) := CY.2.2.2.2.2.2.1
  have r7 : (w5.alloc (.cells #[.string vm, .int .i64 vi, .int .i64 vp, .int .i64 vd, .int .i64 vs, .int .i64 vu, .int .i64 vn, .int .i64 va, .string vI, .string vO, .bool vF] 24)).cell? ⟨w3.heap.size, 7, none⟩ = some (.int .i64 va) := CY.2.2.2.2.2.2.2.1
  have r8 : (w5.alloc (.cells #[.string vm, .int .i64 vi, .int .i64 vp, .int .i64 vd, .int .i64 vs, .int .i64 vu, .int .i64 vn, .int .i64 va, .string vI, .string vO, .bool vF] 24)).cell? ⟨w3.heap.size, 8, none⟩ = some (.string vI) := CY.2.2.2.2.2.2.2.2.1
  have r9 : (w5.alloc (.cells #[.string vm, .int .i64 vi, .int .i64 vp, .int .i64 vd, .int .i64 vs, .int .i64 vu, .int .i64 vn, .int .i64 va, .string vI, .string vO, .bool vF] 24)).cell? ⟨w3.heap.size, 9, none⟩ = some (.string vO) := CY.2.2.2.2.2.2.2.2.2.1
  have r10 : (w5.alloc (.cells #[.string vm, .int .i64 vi, .int .i64 vp, .int .i64 vd, .int .i64 vs, .int .i64 vu, .int .i64 vn, .int .i64 va, .string vI, .string vO, .bool vF] 24)).cell? ⟨w3.heap.size, 10, none⟩ = some (.bool vF) := CY.2.2.2.2.2.2.2.2.2.2.1
  clear CX CY
  go_wp2_with fail
  refine (HQ.out _).mono ?_
  rintro e w6 ⟨rfl, g6⟩
  have X6 : Hid (SgS w.heap.size sp dp sq ac fl wi da w w6 ∧ CnS w3.heap.size vm vi vp vd vs vu vn va vI vO vF w w6 ∧ OwnS sgG 7 27 w6 w2.heap.size (.slice s3 O.length c3) O ∧ OwnS sgG 7 27 w6 (w3.heap.size + 1) (.slice s5 O.length c5) O) := ⟨X5.out.1.below g6.below, X5.out.2.1.below g6.below, X5.out.2.2.1.now g6.below, X5.out.2.2.2.1.now g6.below⟩
  clear g6 X5 q0 r0 q1 r1 q2 r2 q3 r3 q4 r4 q5 r5 q6 r6 q7 r7 q8 r8 q9 r9 q10 r10
  go_wp2_with fail
  refine (HE.out _ _ _ _ _ (rwS X6.out.2.2.2 OKO.out) (rwS X6.out.2.2.1 OKO.out)).mono ?_
  rintro e w7 ⟨rfl, g7⟩
  have X7 : Hid (SgS w.heap.size sp dp sq ac fl wi da w w7 ∧ CnS w3.heap.size vm vi vp vd vs vu vn va vI vO vF w w7 ∧ OwnS sgG 7 27 w7 w2.heap.size (.slice s3 O.length c3) O ∧ OwnS sgG 7 27 w7 (w3.heap.size + 1) (.slice s5 O.length c5) O) := ⟨X6.out.1.below g7.below, X6.out.2.1.below g7.below, X6.out.2.2.1.now g7.below, X6.out.2.2.2.now g7.below⟩
  clear g7 X6
  go_wp2_with fail
  refine (markSegmentS_any _ _ _ _ _ _ X7.out.2.2.2 hLb).mono ?_
  rintro e w8 ⟨rfl, o8, g8⟩
  have X8 : Hid (SgS w.heap.size sp dp sq ac fl wi da w w8 ∧ CnS w3.heap.size vm vi vp vd vs vu vn va vI vO vF w w8 ∧ OwnS sgG 7 27 w8 w2.heap.size (.slice s3 O.length c3) O ∧ OwnS sgG 7 27 w8 (w3.heap.size + 1) (.slice s5 O.length c5) (mk7 O.length)) := by
    have hB : Below w.heap.size w7 w8 := (Below.refl _ _).grown g8 X7.out.1.2.2.2.2.2.2.2.out.size (fun k hk => by have := (X7.out.2.2.2.lt k hk).1; have := Z3.out; omega)
    refine ⟨X7.out.1.row g8 hB (fun he => by have := (X7.out.2.2.2.lt _ he.symm).1; have := Z3.out; omega), X7.out.2.1.row g8 hB (fun he => by have := (X7.out.2.2.2.lt _ he.symm).1; omega), X7.out.2.2.1.kept g8 ?_, o8⟩
    cases hb3 : (Value.slice s3 O.length c3).ownBlock with
    | none => exact Or.inl rfl
    | some k => exact Or.inr (fun he => by have h1 := hne3.out k hb3; have h2 := (X7.out.2.2.2.lt k he.symm).1; omega)
  clear o8 g8 X7
  go_wp2_with fail
  refine (heldSegmentS_any _ _ _ _ (rwS X8.out.2.2.2 OKM.out) hLb).mono ?_
  rintro e w9 ⟨rfl, g9⟩
  have X9 : Hid (SgS w.heap.size sp dp sq ac fl wi da w w9 ∧ CnS w3.heap.size vm vi vp vd vs vu vn va vI vO vF w w9 ∧ OwnS sgG 7 27 w9 w2.heap.size (.slice s3 O.length c3) O ∧ OwnS sgG 7 27 w9 (w3.heap.size + 1) (.slice s5 O.length c5) (mk7 O.length)) := ⟨X8.out.1.below g9.below, X8.out.2.1.below g9.below, X8.out.2.2.1.now g9.below, X8.out.2.2.2.now g9.below⟩
  clear g9 X8
  have CX := X9.out.1
  have q0 : w9.cell? ⟨w.heap.size, 0, none⟩ = some (.int .i64 sp) := CX.1
  have q1 : w9.cell? ⟨w.heap.size, 1, none⟩ = some (.int .i64 dp) := CX.2.1
  have q2 : w9.cell? ⟨w.heap.size, 2, none⟩ = some (.int .i64 sq) := CX.2.2.1
  have q3 : w9.cell? ⟨w.heap.size, 3, none⟩ = some (.int .i64 ac) := CX.2.2.2.1
  have q4 : w9.cell? ⟨w.heap.size, 4, none⟩ = some (.int .i64 fl) := CX.2.2.2.2.1
  have q5 : w9.cell? ⟨w.heap.size, 5, none⟩ = some (.int .i64 wi) := CX.2.2.2.2.2.1
  have q6 : w9.cell? ⟨w.heap.size, 6, none⟩ = some (.string da) := CX.2.2.2.2.2.2.1
  clear CX
  go_wp2_with fail
  refine (HT.out _).mono ?_
  rintro e w10 ⟨rfl, g10⟩
  have b10 := g10.below
  clear q0 q1 q2 q3 q4 q5 q6 g10
  have X10 : Hid (SgS w.heap.size sp dp sq ac fl wi da w w10 ∧ CnS w3.heap.size vm vi vp vd vs vu vn va vI vO vF w w10 ∧ OwnS sgG 7 27 w10 w2.heap.size (.slice s3 O.length c3) O ∧ OwnS sgG 7 27 w10 (w3.heap.size + 1) (.slice s5 O.length c5) (mk7 O.length)) := ⟨X9.out.1.below b10, X9.out.2.1.below b10, X9.out.2.2.1.now b10, X9.out.2.2.2.now b10⟩
  clear b10 X9
  go_wp2_with fail
  refine (HI.out _).mono ?_
  rintro e w11 ⟨v11, rfl, o11, b11⟩
  obtain ⟨s11, c11, rfl, -⟩ := o11.slice
  have al : Below w11.heap.size w11 (w11.alloc (.cells #[.string vm, .int .i64 vi, .int .i64 vp, .int .i64 vd, .int .i64 vs, .int .i64 vu, .int .i64 vn, .int .i64 va, .string vI, .string vO, .bool vF] 24)) := (Below.refl _ _).alloc (Nat.le_refl _) _
  have X11 : Hid (SgS w.heap.size sp dp sq ac fl wi da w (w11.alloc (.cells #[.string vm, .int .i64 vi, .int .i64 vp, .int .i64 vd, .int .i64 vs, .int .i64 vu, .int .i64 vn, .int .i64 va, .string vI, .string vO, .bool vF] 24)) ∧ CnS w3.heap.size vm vi vp vd vs vu vn va vI vO vF w (w11.alloc (.cells #[.string vm, .int .i64 vi, .int .i64 vp, .int .i64 vd, .int .i64 vs, .int .i64 vu, .int .i64 vn, .int .i64 va, .string vI, .string vO, .bool vF] 24)) ∧ OwnS sgG 7 27 (w11.alloc (.cells #[.string vm, .int .i64 vi, .int .i64 vp, .int .i64 vd, .int .i64 vs, .int .i64 vu, .int .i64 vn, .int .i64 va, .string vI, .string vO, .bool vF] 24)) w2.heap.size (.slice s3 O.length c3) O ∧ OwnS sgG 7 27 (w11.alloc (.cells #[.string vm, .int .i64 vi, .int .i64 vp, .int .i64 vd, .int .i64 vs, .int .i64 vu, .int .i64 vn, .int .i64 va, .string vI, .string vO, .bool vF] 24)) (w3.heap.size + 1) (.slice s5 O.length c5) (mk7 O.length) ∧ Rw SgR 7 (w11.alloc (.cells #[.string vm, .int .i64 vi, .int .i64 vp, .int .i64 vd, .int .i64 vs, .int .i64 vu, .int .i64 vn, .int .i64 va, .string vI, .string vO, .bool vF] 24)) s11 O ∧ CnS w11.heap.size vm vi vp vd vs vu vn va vI vO vF w (w11.alloc (.cells #[.string vm, .int .i64 vi, .int .i64 vp, .int .i64 vd, .int .i64 vs, .int .i64 vu, .int .i64 vn, .int .i64 va, .string vI, .string vO, .bool vF] 24))) := ⟨(X10.out.1.below b11).below al, (X10.out.2.1.below b11).below al, (X10.out.2.2.1.now b11).now al, (X10.out.2.2.2.now b11).now al, rwS (o11.now al) OKO.out, NB.out w11 (X10.out.1.below b11).2.2.2.2.2.2.2.out⟩
  clear o11 b11 X10 al
  have CX := X11.out.2.2.2.2.2
  have CY := X11.out.2.1
  have q0 : (w11.alloc (.cells #[.string vm, .int .i64 vi, .int .i64 vp, .int .i64 vd, .int .i64 vs, .int .i64 vu, .int .i64 vn, .int .i64 va, .string vI, .string vO, .bool vF] 24)).cell? ⟨w11.heap.size, 0, none⟩ = some (.string vm) := CX.1
  have q1 : (w11.alloc (.cells #[.string vm, .int .i64 vi, .int .i64 vp, .int .i64 vd, .int .i64 vs, .int .i64 vu, .int .i64 vn, .int .i64 va, .string vI, .string vO, .bool vF] 24)).cell? ⟨w11.heap.size, 1, none⟩ = some (.int .i64 vi) := CX.2.1
  have q2 : (w11.alloc (.cells #[.string vm, .int .i64 vi, .int .i64 vp, .int .i64 vd, .int .i64 vs, .int .i64 vu, .int .i64 vn, .int .i64 va, .string vI, .string vO, .bool vF] 24)).cell? ⟨w11.heap.size, 2, none⟩ = some (.int .i64 vp) := CX.2.2.1
  have q3 : (w11.alloc (.cells #[.string vm, .int .i64 vi, .int .i64 vp, .int .i64 vd, .int .i64 vs, .int .i64 vu, .int .i64 vn, .int .i64 va, .string vI, .string vO, .bool vF] 24)).cell? ⟨w11.heap.size, 3, none⟩ = some (.int .i64 vd) := CX.2.2.2.1
  have q4 : (w11.alloc (.cells #[.string vm, .int .i64 vi, .int .i64 vp, .int .i64 vd, .int .i64 vs, .int .i64 vu, .int .i64 vn, .int .i64 va, .string vI, .string vO, .bool vF] 24)).cell? ⟨w11.heap.size, 4, none⟩ = some (.int .i64 vs) := CX.2.2.2.2.1
  have q5 : (w11.alloc (.cells #[.string vm, .int .i64 vi, .int .i64 vp, .int .i64 vd, .int .i64 vs, .int .i64 vu, .int .i64 vn, .int .i64 va, .string vI, .string vO, .bool vF] 24)).cell? ⟨w11.heap.size, 5, none⟩ = some (.int .i64 vu) := CX.2.2.2.2.2.1
  have q6 : (w11.alloc (.cells #[.string vm, .int .i64 vi, .int .i64 vp, .int .i64 vd, .int .i64 vs, .int .i64 vu, .int .i64 vn, .int .i64 va, .string vI, .string vO, .bool vF] 24)).cell? ⟨w11.heap.size, 6, none⟩ = some (.int .i64 vn) := CX.2.2.2.2.2.2.1
  have q7 : (w11.alloc (.cells #[.string vm, .int .i64 vi, .int .i64 vp, .int .i64 vd, .int .i64 vs, .int .i64 vu, .int .i64 vn, .int .i64 va, .string vI, .string vO, .bool vF] 24)).cell? ⟨w11.heap.size, 7, none⟩ = some (.int .i64 va) := CX.2.2.2.2.2.2.2.1
  have q8 : (w11.alloc (.cells #[.string vm, .int .i64 vi, .int .i64 vp, .int .i64 vd, .int .i64 vs, .int .i64 vu, .int .i64 vn, .int .i64 va, .string vI, .string vO, .bool vF] 24)).cell? ⟨w11.heap.size, 8, none⟩ = some (.string vI) := CX.2.2.2.2.2.2.2.2.1
  have q9 : (w11.alloc (.cells #[.string vm, .int .i64 vi, .int .i64 vp, .int .i64 vd, .int .i64 vs, .int .i64 vu, .int .i64 vn, .int .i64 va, .string vI, .string vO, .bool vF] 24)).cell? ⟨w11.heap.size, 9, none⟩ = some (.string vO) := CX.2.2.2.2.2.2.2.2.2.1
  have q10 : (w11.alloc (.cells #[.string vm, .int .i64 vi, .int .i64 vp, .int .i64 vd, .int .i64 vs, .int .i64 vu, .int .i64 vn, .int .i64 va, .string vI, .string vO, .bool vF] 24)).cell? ⟨w11.heap.size, 10, none⟩ = some (.bool vF) := CX.2.2.2.2.2.2.2.2.2.2.1
  have r0 : (w11.alloc (.cells #[.string vm, .int .i64 vi, .int .i64 vp, .int .i64 vd, .int .i64 vs, .int .i64 vu, .int .i64 vn, .int .i64 va, .string vI, .string vO, .bool vF] 24)).cell? ⟨w3.heap.size, 0, none⟩ = some (.string vm) := CY.1
  have r1 : (w11.alloc (.cells #[.string vm, .int .i64 vi, .int .i64 vp, .int .i64 vd, .int .i64 vs, .int .i64 vu, .int .i64 vn, .int .i64 va, .string vI, .string vO, .bool vF] 24)).cell? ⟨w3.heap.size, 1, none⟩ = some (.int .i64 vi) := CY.2.1
  have r2 : (w11.alloc (.cells #[.string vm, .int .i64 vi, .int .i64 vp, .int .i64 vd, .int .i64 vs, .int .i64 vu, .int .i64 vn, .int .i64 va, .string vI, .string vO, .bool vF] 24)).cell? ⟨w3.heap.size, 2, none⟩ = some (.int .i64 vp) := CY.2.2.1
  have r3 : (w11.alloc (.cells #[.string vm, .int .i64 vi, .int .i64 vp, .int .i64 vd, .int .i64 vs, .int .i64 vu, .int .i64 vn, .int .i64 va, .string vI, .string vO, .bool vF] 24)).cell? ⟨w3.heap.size, 3, none⟩ = some (.int .i64 vd) := CY.2.2.2.1
  have r4 : (w11.alloc (.cells #[.string vm, .int .i64 vi, .int .i64 vp, .int .i64 vd, .int .i64 vs, .int .i64 vu, .int .i64 vn, .int .i64 va, .string vI, .string vO, .bool vF] 24)).cell? ⟨w3.heap.size, 4, none⟩ = some (.int .i64 vs) := CY.2.2.2.2.1
  have r5 : (w11.alloc (.cells #[.string vm, .int .i64 vi, .int .i64 vp, .int .i64 vd, .int .i64 vs, .int .i64 vu, .int .i64 vn, .int .i64 va, .string vI, .string vO, .bool vF] 24)).cell? ⟨w3.heap.size, 5, none⟩ = some (.int .i64 vu) := CY.2.2.2.2.2.1
  have r6 : (w11.alloc (.cells #[.string vm, .int .i64 vi, .int .i64 vp, .int .i64 vd, .int .i64 vs, .int .i64 vu, .int .i64 vn, .int .i64 va, .string vI, .string vO, .bool vF] 24)).cell? ⟨w3.heap.size, 6, none⟩ = some (.int .i64 vn) := CY.2.2.2.2.2.2.1
  have r7 : (w11.alloc (.cells #[.string vm, .int .i64 vi, .int .i64 vp, .int .i64 vd, .int .i64 vs, .int .i64 vu, .int .i64 vn, .int .i64 va, .string vI, .string vO, .bool vF] 24)).cell? ⟨w3.heap.size, 7, none⟩ = some (.int .i64 va) := CY.2.2.2.2.2.2.2.1
  have r8 : (w11.alloc (.cells #[.string vm, .int .i64 vi, .int .i64 vp, .int .i64 vd, .int .i64 vs, .int .i64 vu, .int .i64 vn, .int .i64 va, .string vI, .string vO, .bool vF] 24)).cell? ⟨w3.heap.size, 8, none⟩ = some (.string vI) := CY.2.2.2.2.2.2.2.2.1
  have r9 : (w11.alloc (.cells #[.string vm, .int .i64 vi, .int .i64 vp, .int .i64 vd, .int .i64 vs, .int .i64 vu, .int .i64 vn, .int .i64 va, .string vI, .string vO, .bool vF] 24)).cell? ⟨w3.heap.size, 9, none⟩ = some (.string vO) := CY.2.2.2.2.2.2.2.2.2.1
  have r10 : (w11.alloc (.cells #[.string vm, .int .i64 vi, .int .i64 vp, .int .i64 vd, .int .i64 vs, .int .i64 vu, .int .i64 vn, .int .i64 va, .string vI, .string vO, .bool vF] 24)).cell? ⟨w3.heap.size, 10, none⟩ = some (.bool vF) := CY.2.2.2.2.2.2.2.2.2.2.1
  clear CX CY
  go_wp2_with fail
  refine (HQ.out _).mono ?_
  rintro e w12 ⟨rfl, g12⟩
  have X12 : Hid (SgS w.heap.size sp dp sq ac fl wi da w w12 ∧ OwnS sgG 7 27 w12 w2.heap.size (.slice s3 O.length c3) O ∧ OwnS sgG 7 27 w12 (w3.heap.size + 1) (.slice s5 O.length c5) (mk7 O.length) ∧ Rw SgR 7 w12 s11 O) := ⟨X11.out.1.below g12.below, X11.out.2.2.1.now g12.below, X11.out.2.2.2.1.now g12.below, X11.out.2.2.2.2.1.keep FR.kp g12.below⟩
  clear g12 X11 q0 r0 q1 r1 q2 r2 q3 r3 q4 r4 q5 r5 q6 r6 q7 r7 q8 r8 q9 r9 q10 r10
  go_wp2_with fail
  refine (HE.out _ _ _ _ _ X12.out.2.2.2 (rwS X12.out.2.1 OKO.out)).mono ?_
  rintro e w13 ⟨rfl, g13⟩
  have X13 : Hid (SgS w.heap.size sp dp sq ac fl wi da w w13 ∧ OwnS sgG 7 27 w13 (w3.heap.size + 1) (.slice s5 O.length c5) (mk7 O.length)) := ⟨X12.out.1.below g13.below, X12.out.2.2.1.now g13.below⟩
  clear g13 X12
  go_wp2_with fail
  refine (heldSegmentS_any _ _ _ _ (rwS X13.out.2 OKM.out) hLb).mono ?_
  rintro e w14 ⟨rfl, g14⟩
  have X14 : Hid (Below w.heap.size w w14) := X13.out.1.2.2.2.2.2.2.2.out.trans (g14.below.mono X13.out.1.2.2.2.2.2.2.2.out.size)
  clear g14
  go_wp2
  go_ret
  exact ⟨rfl, X14.out⟩
end Go.Proofs.Ytjammgjmidchmaa
