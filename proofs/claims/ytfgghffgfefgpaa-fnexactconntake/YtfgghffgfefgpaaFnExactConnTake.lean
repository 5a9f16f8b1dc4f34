/- At every connection and segment ConnTake answers as its model, every field; it writes into no argument; its answer owns its memory. -/
import Derived.Test.YtfgghffgfefgpaaRows
import Derived.Test.YtfgghffgfefgpaaLawTk
import Derived.WalkKit
import Derived.ProofKit
import Derived.OpenShut
import Derived.ShutString
import Derived.ChangeOld
import Derived.Below
namespace Go.Proofs.Ytfgghffgfefgpaa.fnExactConnTake
open Go.ChangeShapes Go.WideShapes Go.ChangeAt Go.RowKit
set_option linter.unusedVariables false

theorem own : ownKnob Try.prog.godebug = none := by kernel_rfl
theorem laidOut : laidOutB Try.prog = true := by kernel_rfl
theorem cells3 : Try.prog.cellsOf 3 = 1 := by kernel_rfl
theorem cells4 : Try.prog.cellsOf 4 = 1 := by kernel_rfl
theorem cells9 : Try.prog.cellsOf 9 = 1 := by kernel_rfl
theorem cells47 : Try.prog.cellsOf 47 = 11 := by kernel_rfl
theorem cells48 : Try.prog.cellsOf 48 = 7 := by kernel_rfl
theorem arr7 {α : Type} {cs : Array α} (h : cs.size = 7) : ∃ c0 c1 c2 c3 c4 c5 c6, cs = #[c0, c1, c2, c3, c4, c5, c6] := by
  obtain ⟨l⟩ := cs
  match l, h with
  | [c0, c1, c2, c3, c4, c5, c6], _ => exact ⟨c0, c1, c2, c3, c4, c5, c6, rfl⟩
theorem arr11 {α : Type} {cs : Array α} (h : cs.size = 11) : ∃ c0 c1 c2 c3 c4 c5 c6 c7 c8 c9 c10, cs = #[c0, c1, c2, c3, c4, c5, c6, c7, c8, c9, c10] := by
  obtain ⟨l⟩ := cs
  match l, h with
  | [c0, c1, c2, c3, c4, c5, c6, c7, c8, c9, c10], _ => exact ⟨c0, c1, c2, c3, c4, c5, c6, c7, c8, c9, c10, rfl⟩

theorem walk (a0_0 : ByteArray) (a0_1 : Int) (a0_2 : Int) (a0_3 : Int) (a0_4 : Int) (a0_5 : Int) (a0_6 : Int) (a0_7 : Int) (a0_8 : ByteArray) (a0_9 : ByteArray) (a0_10 : Bool) (a1_0 : Int) (a1_1 : Int) (a1_2 : Int) (a1_3 : Int) (a1_4 : Int) (a1_5 : Int) (a1_6 : ByteArray) (w : World) (w0_0 : a0_0.size ≤ maxLen) (w0_1 : (Lit.int .i64 a0_1).wf = true) (w0_2 : (Lit.int .i64 a0_2).wf = true) (w0_3 : (Lit.int .i64 a0_3).wf = true) (w0_4 : (Lit.int .i64 a0_4).wf = true) (w0_5 : (Lit.int .i64 a0_5).wf = true) (w0_6 : (Lit.int .i64 a0_6).wf = true) (w0_7 : (Lit.int .i64 a0_7).wf = true) (w0_8 : a0_8.size ≤ maxLen) (w0_9 : a0_9.size ≤ maxLen) (w1_0 : (Lit.int .i64 a1_0).wf = true) (w1_1 : (Lit.int .i64 a1_1).wf = true) (w1_2 : (Lit.int .i64 a1_2).wf = true) (w1_3 : (Lit.int .i64 a1_3).wf = true) (w1_4 : (Lit.int .i64 a1_4).wf = true) (w1_5 : (Lit.int .i64 a1_5).wf = true) (w1_6 : a1_6.size ≤ maxLen) :
    Calls Try.prog 5 #[.agg #[.string a0_0, .int .i64 a0_1, .int .i64 a0_2, .int .i64 a0_3, .int .i64 a0_4, .int .i64 a0_5, .int .i64 a0_6, .int .i64 a0_7, .string a0_8, .string a0_9, .bool a0_10], .agg #[.int .i64 a1_0, .int .i64 a1_1, .int .i64 a1_2, .int .i64 a1_3, .int .i64 a1_4, .int .i64 a1_5, .string a1_6]] w fun e w' => e = .returned (.bool true) ∧ Below w.heap.size w w' := by
  exact lawConnTake_any a0_0 a0_1 a0_2 a0_3 a0_4 a0_5 a0_6 a0_7 a0_8 a0_9 a0_10 a1_0 a1_1 a1_2 a1_3 a1_4 a1_5 a1_6 w w0_0 w0_8 w0_9 w1_6 (int_ub w0_2) (int_ub w1_0) (int_ub w1_1) (int_ub w1_2) (int_ub w1_3) (int_ub w1_5)

set_option maxRecDepth 100000 in
theorem lifted (os : Os) (started : os.Started) (H : Type) (enc : TypeId × Value → H) :
    ReturnsInHanded {} Try.checked os 5 .any (Rows.fnExactConnTakeSpec.pre6 enc Try.prog Try.f5 Rows.fnExactConnTakeRow.domain false) (Rows.fnExactConnTakeSpec.post enc Try.prog Try.f5 false true false false) := by
  refine returnsInHanded_of_change (C := Try.checked) own started (by kernel_rfl) Try.func5
    (ChangeSpec.witness6 (enc := enc) (C := Try.checked) false ⟨#[], #[.agg #[.string ⟨#[]⟩, .int .i64 0, .int .i64 0, .int .i64 0, .int .i64 0, .int .i64 0, .int .i64 0, .int .i64 0, .string ⟨#[]⟩, .string ⟨#[]⟩, .bool false], .agg #[.int .i64 0, .int .i64 0, .int .i64 0, .int .i64 0, .int .i64 0, .int .i64 0, .string ⟨#[]⟩]], []⟩ 8 (by kernel_rfl) (by kernel_rfl) (by kernel_rfl) (by kernel_rfl)) ?_
  intro W base args ds gs before hval0 hW hcnd _
  have hval : ∀ (j : Nat) t v, Try.f5.params[j]? = some t → args[j]? = some v → Value.okWide Try.prog W .any base t v := hval0
  have hW' := hW
  obtain ⟨p, q, hA0, hV, rfl, hfz, hnd⟩ := hW
  have hA : DataW.TrodAll enc Try.prog W 0 (fun _ => true) true Try.f5.params.toList args.toList ds p := hA0
  rw [Try.params5] at hA hval
  obtain ⟨v0, vs0, d0, ds0, p0, q0, hargs, rfl, rfl, h0, r0⟩ := trodAll_cons hA
  obtain ⟨v1, vs1, d1, ds1, p1, q1, rfl, rfl, rfl, h1, r1⟩ := trodAll_cons r0
  obtain ⟨rfl, rfl, rfl⟩ := trodAll_nil r1
  obtain rfl : args = #[v0, v1] := by cases args; simp_all
  obtain ⟨rfl, rfl⟩ := trodVars_none hV
  obtain ⟨cs0, rfl, hsz0⟩ := okWide_struct Try.underlying47 (hval 0 47 v0 rfl rfl)
  rw [cells47] at hsz0
  obtain ⟨c0_0, c0_1, c0_2, c0_3, c0_4, c0_5, c0_6, c0_7, c0_8, c0_9, c0_10, rfl⟩ := arr11 hsz0
  have k0 := h0
  have lt0 : ∀ x ∈ p0, x.block < W.heap.size := by obtain ⟨m, hm⟩ := k0; exact DataW.trod_lt m _ _ _ hm
  obtain ⟨fuel0, hf0⟩ := h0
  obtain ⟨xs0, m0, _, _, _, hlen0, hfld0⟩ := DataW.trod_struct Try.underlying47 hf0
  replace hlen0 : xs0.length = 11 := hlen0
  have e0_0 := hfld0 0 _ rfl
  rw [List.getElem?_eq_getElem (by omega)] at e0_0
  obtain ⟨a0_0, q0_0, _, w0_0⟩ := DataW.trod_string Try.underlying9 e0_0
  simp [Value.cells, cells9] at q0_0
  subst q0_0
  have e0_1 := hfld0 1 _ rfl
  rw [List.getElem?_eq_getElem (by omega)] at e0_1
  obtain ⟨a0_1, q0_1, _, w0_1⟩ := DataW.trod_int Try.underlying3 e0_1
  simp [Value.cells, cells3] at q0_1
  subst q0_1
  have e0_2 := hfld0 2 _ rfl
  rw [List.getElem?_eq_getElem (by omega)] at e0_2
  obtain ⟨a0_2, q0_2, _, w0_2⟩ := DataW.trod_int Try.underlying3 e0_2
  simp [Value.cells, cells3] at q0_2
  subst q0_2
  have e0_3 := hfld0 3 _ rfl
  rw [List.getElem?_eq_getElem (by omega)] at e0_3
  obtain ⟨a0_3, q0_3, _, w0_3⟩ := DataW.trod_int Try.underlying3 e0_3
  simp [Value.cells, cells3] at q0_3
  subst q0_3
  have e0_4 := hfld0 4 _ rfl
  rw [List.getElem?_eq_getElem (by omega)] at e0_4
  obtain ⟨a0_4, q0_4, _, w0_4⟩ := DataW.trod_int Try.underlying3 e0_4
  simp [Value.cells, cells3] at q0_4
  subst q0_4
  have e0_5 := hfld0 5 _ rfl
  rw [List.getElem?_eq_getElem (by omega)] at e0_5
  obtain ⟨a0_5, q0_5, _, w0_5⟩ := DataW.trod_int Try.underlying3 e0_5
  simp [Value.cells, cells3] at q0_5
  subst q0_5
  have e0_6 := hfld0 6 _ rfl
  rw [List.getElem?_eq_getElem (by omega)] at e0_6
  obtain ⟨a0_6, q0_6, _, w0_6⟩ := DataW.trod_int Try.underlying3 e0_6
  simp [Value.cells, cells3] at q0_6
  subst q0_6
  have e0_7 := hfld0 7 _ rfl
  rw [List.getElem?_eq_getElem (by omega)] at e0_7
  obtain ⟨a0_7, q0_7, _, w0_7⟩ := DataW.trod_int Try.underlying3 e0_7
  simp [Value.cells, cells3] at q0_7
  subst q0_7
  have e0_8 := hfld0 8 _ rfl
  rw [List.getElem?_eq_getElem (by omega)] at e0_8
  obtain ⟨a0_8, q0_8, _, w0_8⟩ := DataW.trod_string Try.underlying9 e0_8
  simp [Value.cells, cells9] at q0_8
  subst q0_8
  have e0_9 := hfld0 9 _ rfl
  rw [List.getElem?_eq_getElem (by omega)] at e0_9
  obtain ⟨a0_9, q0_9, _, w0_9⟩ := DataW.trod_string Try.underlying9 e0_9
  simp [Value.cells, cells9] at q0_9
  subst q0_9
  have e0_10 := hfld0 10 _ rfl
  rw [List.getElem?_eq_getElem (by omega)] at e0_10
  obtain ⟨a0_10, q0_10, _⟩ := DataW.trod_bool Try.underlying4 e0_10
  simp [Value.cells, cells4] at q0_10
  subst q0_10
  obtain ⟨cs1, rfl, hsz1⟩ := okWide_struct Try.underlying48 (hval 1 48 v1 rfl rfl)
  rw [cells48] at hsz1
  obtain ⟨c1_0, c1_1, c1_2, c1_3, c1_4, c1_5, c1_6, rfl⟩ := arr7 hsz1
  have k1 := h1
  have lt1 : ∀ x ∈ p1, x.block < W.heap.size := by obtain ⟨m, hm⟩ := k1; exact DataW.trod_lt m _ _ _ hm
  obtain ⟨fuel1, hf1⟩ := h1
  obtain ⟨xs1, m1, _, _, _, hlen1, hfld1⟩ := DataW.trod_struct Try.underlying48 hf1
  replace hlen1 : xs1.length = 7 := hlen1
  have e1_0 := hfld1 0 _ rfl
  rw [List.getElem?_eq_getElem (by omega)] at e1_0
  obtain ⟨a1_0, q1_0, _, w1_0⟩ := DataW.trod_int Try.underlying3 e1_0
  simp [Value.cells, cells3] at q1_0
  subst q1_0
  have e1_1 := hfld1 1 _ rfl
  rw [List.getElem?_eq_getElem (by omega)] at e1_1
  obtain ⟨a1_1, q1_1, _, w1_1⟩ := DataW.trod_int Try.underlying3 e1_1
  simp [Value.cells, cells3] at q1_1
  subst q1_1
  have e1_2 := hfld1 2 _ rfl
  rw [List.getElem?_eq_getElem (by omega)] at e1_2
  obtain ⟨a1_2, q1_2, _, w1_2⟩ := DataW.trod_int Try.underlying3 e1_2
  simp [Value.cells, cells3] at q1_2
  subst q1_2
  have e1_3 := hfld1 3 _ rfl
  rw [List.getElem?_eq_getElem (by omega)] at e1_3
  obtain ⟨a1_3, q1_3, _, w1_3⟩ := DataW.trod_int Try.underlying3 e1_3
  simp [Value.cells, cells3] at q1_3
  subst q1_3
  have e1_4 := hfld1 4 _ rfl
  rw [List.getElem?_eq_getElem (by omega)] at e1_4
  obtain ⟨a1_4, q1_4, _, w1_4⟩ := DataW.trod_int Try.underlying3 e1_4
  simp [Value.cells, cells3] at q1_4
  subst q1_4
  have e1_5 := hfld1 5 _ rfl
  rw [List.getElem?_eq_getElem (by omega)] at e1_5
  obtain ⟨a1_5, q1_5, _, w1_5⟩ := DataW.trod_int Try.underlying3 e1_5
  simp [Value.cells, cells3] at q1_5
  subst q1_5
  have e1_6 := hfld1 6 _ rfl
  rw [List.getElem?_eq_getElem (by omega)] at e1_6
  obtain ⟨a1_6, q1_6, _, w1_6⟩ := DataW.trod_string Try.underlying9 e1_6
  simp [Value.cells, cells9] at q1_6
  subst q1_6
  clear hA0 hval0
  refine (walk a0_0 a0_1 a0_2 a0_3 a0_4 a0_5 a0_6 a0_7 a0_8 a0_9 a0_10 a1_0 a1_1 a1_2 a1_3 a1_4 a1_5 a1_6 W w0_0 w0_1 w0_2 w0_3 w0_4 w0_5 w0_6 w0_7 w0_8 w0_9 w1_0 w1_1 w1_2 w1_3 w1_4 w1_5 w1_6).mono fun e W' ⟨he, bel⟩ => ?_
  subst he
  exact ⟨_, rfl, _, _, _, [], _, [], hW', trodAll_mk1 (shut_bool Try.underlying4 _), (trodAll_cons_mk (Below.trod laidOut (by kernel_rfl) (of_decide_eq_true (by kernel_rfl)) k0 bel lt0) (trodAll_cons_mk (Below.trod laidOut (by kernel_rfl) (of_decide_eq_true (by kernel_rfl)) k1 bel lt1) trodAll_mk0)), rfl, bel.frame _, fun h => by cases h⟩

theorem over : Rows.fnExactConnTakeRow.holds Try.pinned (OpenSpec.ofChange Rows.fnExactConnTakeSpec) :=
  OpenClaim.holds_of_wide 5 Try.f5 rfl rfl rfl rfl rfl rfl rfl ⟨rfl, rfl, rfl, rfl, rfl⟩ rfl rfl rfl rfl rfl (by kernel_rfl) Try.func5 (by kernel_rfl)
    (of_decide_eq_true (by kernel_rfl)) (by unfold Func.isWrapper; first | (rw [if_pos (by decide +kernel)]; kernel_rfl) | (rw [if_neg (by decide +kernel)]; exact ⟨rfl, rfl⟩))
    (fun os started H enc _ => lifted os started H enc)

theorem proved : Rows.FnExactConnTakeSaid := over
end Go.Proofs.Ytfgghffgfefgpaa.fnExactConnTake
namespace Go.Proofs.Ytfgghffgfefgpaa
theorem fnExactConnTake_holds : Rows.FnExactConnTakeSaid := fnExactConnTake.proved
#print axioms fnExactConnTake_holds
end Go.Proofs.Ytfgghffgfefgpaa
