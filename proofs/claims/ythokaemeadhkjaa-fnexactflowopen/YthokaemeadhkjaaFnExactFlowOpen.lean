/- For every list of flows, every flow and every time, FlowOpen of the program answers as the model, writes into no argument, keeps nothing of one, and its answer owns its memory. -/
import Derived.Test.YthokaemeadhkjaaRows
import Derived.Test.YthokaemeadhkjaaLawFopen
import Derived.WalkKit
import Derived.ProofKit
import Derived.OpenShut
import Derived.ShutString
import Derived.ChangeOld
import Derived.Below
namespace Go.Proofs.Ythokaemeadhkjaa.fnExactFlowOpen
open Go.ChangeShapes Go.WideShapes Go.ChangeAt Go.RowKit
set_option linter.unusedVariables false

theorem own : ownKnob Try.prog.godebug = none := by kernel_rfl
theorem laidOut : laidOutB Try.prog = true := by kernel_rfl
theorem cells3 : Try.prog.cellsOf 3 = 1 := by kernel_rfl
theorem cells9 : Try.prog.cellsOf 9 = 1 := by kernel_rfl
theorem cells47 : Try.prog.cellsOf 47 = 9 := by kernel_rfl
theorem arr9 {α : Type} {cs : Array α} (h : cs.size = 9) : ∃ c0 c1 c2 c3 c4 c5 c6 c7 c8, cs = #[c0, c1, c2, c3, c4, c5, c6, c7, c8] := by
  obtain ⟨l⟩ := cs
  match l, h with
  | [c0, c1, c2, c3, c4, c5, c6, c7, c8], _ => exact ⟨c0, c1, c2, c3, c4, c5, c6, c7, c8, rfl⟩

theorem walk (a0 : Option Addr) (len0 cap0 : Nat) (z0 : List FlowV) (a1_0 : Int) (a1_1 : ByteArray) (a1_2 : Int) (a1_3 : Int) (a1_4 : Int) (a1_5 : Int) (a1_6 : Int) (a1_7 : Int) (a1_8 : Int) (a2 : Int) (w : World) (w0 : z0.length = len0 ∧ len0 ≤ cap0 ∧ cap0 ≤ maxLen ∧ Rw FlR 9 w a0 z0) (w1_0 : (Lit.int .i64 a1_0).wf = true) (w1_1 : a1_1.size ≤ maxLen) (w1_2 : (Lit.int .i64 a1_2).wf = true) (w1_3 : (Lit.int .i64 a1_3).wf = true) (w1_4 : (Lit.int .i64 a1_4).wf = true) (w1_5 : (Lit.int .i64 a1_5).wf = true) (w1_6 : (Lit.int .i64 a1_6).wf = true) (w1_7 : (Lit.int .i64 a1_7).wf = true) (w1_8 : (Lit.int .i64 a1_8).wf = true) (w2 : (Lit.int .i64 a2).wf = true) :
    Calls Try.prog 7 #[.slice a0 len0 cap0, .agg #[.int .i64 a1_0, .string a1_1, .int .i64 a1_2, .int .i64 a1_3, .int .i64 a1_4, .int .i64 a1_5, .int .i64 a1_6, .int .i64 a1_7, .int .i64 a1_8], .int .i64 a2] w fun e w' => e = .returned (.bool true) ∧ Below w.heap.size w w' := by
  exact lawFlowOpen_any a0 len0 cap0 z0 a1_0 a1_1 a1_2 a1_3 a1_4 a1_5 a1_6 a1_7 a1_8 a2 w w0.2.2.2 w0.1 (Nat.le_trans w0.2.1 w0.2.2.1) ⟨w1_0, w1_1, w1_2, w1_3, w1_4, w1_5, w1_6, w1_7, w1_8⟩

set_option maxRecDepth 100000 in
theorem lifted (os : Os) (started : os.Started) (H : Type) (enc : TypeId × Value → H) :
    ReturnsInHanded {} Try.checked os 7 .any (Rows.fnExactFlowOpenSpec.pre6 enc Try.prog Try.f7 Rows.fnExactFlowOpenRow.domain false) (Rows.fnExactFlowOpenSpec.post enc Try.prog Try.f7 false true false false) := by
  refine returnsInHanded_of_change (C := Try.checked) own started (by kernel_rfl) Try.func7
    (ChangeSpec.witness6 (enc := enc) (C := Try.checked) false ⟨#[], #[.slice none 0 0, .agg #[.int .i64 0, .string ⟨#[]⟩, .int .i64 0, .int .i64 0, .int .i64 0, .int .i64 0, .int .i64 0, .int .i64 0, .int .i64 0], .int .i64 0], []⟩ 8 (by kernel_rfl) (by kernel_rfl) (by kernel_rfl) (by kernel_rfl)) ?_
  intro W base args ds gs before hval0 hW hcnd _
  have hval : ∀ (j : Nat) t v, Try.f7.params[j]? = some t → args[j]? = some v → Value.okWide Try.prog W .any base t v := hval0
  have hW' := hW
  obtain ⟨p, q, hA0, hV, rfl, hfz, hnd⟩ := hW
  have hA : DataW.TrodAll enc Try.prog W 0 (fun _ => true) true Try.f7.params.toList args.toList ds p := hA0
  rw [Try.params7] at hA hval
  obtain ⟨v0, vs0, d0, ds0, p0, q0, hargs, rfl, rfl, h0, r0⟩ := trodAll_cons hA
  obtain ⟨v1, vs1, d1, ds1, p1, q1, rfl, rfl, rfl, h1, r1⟩ := trodAll_cons r0
  obtain ⟨v2, vs2, d2, ds2, p2, q2, rfl, rfl, rfl, h2, r2⟩ := trodAll_cons r1
  obtain ⟨rfl, rfl, rfl⟩ := trodAll_nil r2
  obtain rfl : args = #[v0, v1, v2] := by cases args; simp_all
  obtain ⟨rfl, rfl⟩ := trodVars_none hV
  obtain ⟨a0, len0, cap0, rfl⟩ := okWide_slice Try.underlying42 (hval 0 42 v0 rfl rfl)
  have k0 := h0
  have lt0 : ∀ x ∈ p0, x.block < W.heap.size := by obtain ⟨m, hm⟩ := k0; exact DataW.trod_lt m _ _ _ hm
  obtain ⟨z0, w0⟩ : ∃ zs : List FlowV, zs.length = len0 ∧ len0 ≤ cap0 ∧ cap0 ≤ maxLen ∧ Rw FlR 9 W a0 zs := by
    obtain ⟨fuel, hf⟩ := h0
    obtain ⟨a', l', c', xs, q, h1, h2, h3, _, h5⟩ := open_flows hf
    simp [Value.cells] at q
    obtain ⟨rfl, rfl, rfl⟩ := q
    exact ⟨xs, h1, h2, h3, h5⟩
  obtain ⟨cs1, rfl, hsz1⟩ := okWide_struct Try.underlying47 (hval 1 47 v1 rfl rfl)
  rw [cells47] at hsz1
  obtain ⟨c1_0, c1_1, c1_2, c1_3, c1_4, c1_5, c1_6, c1_7, c1_8, rfl⟩ := arr9 hsz1
  have k1 := h1
  have lt1 : ∀ x ∈ p1, x.block < W.heap.size := by obtain ⟨m, hm⟩ := k1; exact DataW.trod_lt m _ _ _ hm
  obtain ⟨fuel1, hf1⟩ := h1
  obtain ⟨xs1, m1, _, _, _, hlen1, hfld1⟩ := DataW.trod_struct Try.underlying47 hf1
  replace hlen1 : xs1.length = 9 := hlen1
  have e1_0 := hfld1 0 _ rfl
  rw [List.getElem?_eq_getElem (by omega)] at e1_0
  obtain ⟨a1_0, q1_0, _, w1_0⟩ := DataW.trod_int Try.underlying3 e1_0
  simp [Value.cells, cells3] at q1_0
  subst q1_0
  have e1_1 := hfld1 1 _ rfl
  rw [List.getElem?_eq_getElem (by omega)] at e1_1
  obtain ⟨a1_1, q1_1, _, w1_1⟩ := DataW.trod_string Try.underlying9 e1_1
  simp [Value.cells, cells9] at q1_1
  subst q1_1
  have e1_2 := hfld1 2 _ rfl
  rw [List.getElem?_eq_getElem (by omega)] at e1_2
  obtain ⟨a1_2, q1_2, _, w1_2⟩ := DataW.trod_int Try.underlying3 e1_2
  simp [Value.cells, cells3] at q1_2
  subst q1_2
  have e1_3 := hfld1 3 _ rfl
  rw [List.getElem?_eq_getElem (by omega)] at e1_3
  obtain ⟨a1_3, q1_3, _, w1_3⟩ := DataW.trod_int Try.underlying3 e1_3
  simp [Value.cells, cells3] at q1_3
  subst q1_3
  have e1_4 := hfld1 4 _ rfl
  rw [List.getElem?_eq_getElem (by omega)] at e1_4
  obtain ⟨a1_4, q1_4, _, w1_4⟩ := DataW.trod_int Try.underlying3 e1_4
  simp [Value.cells, cells3] at q1_4
  subst q1_4
  have e1_5 := hfld1 5 _ rfl
  rw [List.getElem?_eq_getElem (by omega)] at e1_5
  obtain ⟨a1_5, q1_5, _, w1_5⟩ := DataW.trod_int Try.underlying3 e1_5
  simp [Value.cells, cells3] at q1_5
  subst q1_5
  have e1_6 := hfld1 6 _ rfl
  rw [List.getElem?_eq_getElem (by omega)] at e1_6
  obtain ⟨a1_6, q1_6, _, w1_6⟩ := DataW.trod_int Try.underlying3 e1_6
  simp [Value.cells, cells3] at q1_6
  subst q1_6
  have e1_7 := hfld1 7 _ rfl
  rw [List.getElem?_eq_getElem (by omega)] at e1_7
  obtain ⟨a1_7, q1_7, _, w1_7⟩ := DataW.trod_int Try.underlying3 e1_7
  simp [Value.cells, cells3] at q1_7
  subst q1_7
  have e1_8 := hfld1 8 _ rfl
  rw [List.getElem?_eq_getElem (by omega)] at e1_8
  obtain ⟨a1_8, q1_8, _, w1_8⟩ := DataW.trod_int Try.underlying3 e1_8
  simp [Value.cells, cells3] at q1_8
  subst q1_8
  obtain ⟨a2, rfl⟩ := okWide_int Try.underlying3 (hval 2 3 v2 rfl rfl)
  have k2 := h2
  have lt2 : ∀ x ∈ p2, x.block < W.heap.size := by obtain ⟨m, hm⟩ := k2; exact DataW.trod_lt m _ _ _ hm
  have w2 : (Lit.int .i64 a2).wf = true := by
    obtain ⟨fuel, hf⟩ := h2
    obtain ⟨n, hn, _, hw⟩ := DataW.trod_int Try.underlying3 hf
    simp [Value.cells] at hn
    subst hn
    exact hw
  clear hA0 hval0
  refine (walk a0 len0 cap0 z0 a1_0 a1_1 a1_2 a1_3 a1_4 a1_5 a1_6 a1_7 a1_8 a2 W w0 w1_0 w1_1 w1_2 w1_3 w1_4 w1_5 w1_6 w1_7 w1_8 w2).mono fun e W' ⟨he, bel⟩ => ?_
  subst he
  exact ⟨_, rfl, _, _, _, [], _, [], hW', trodAll_mk1 (shut_bool Try.underlying4 _), (trodAll_cons_mk (Below.trod laidOut (by kernel_rfl) (of_decide_eq_true (by kernel_rfl)) k0 bel lt0) (trodAll_cons_mk (Below.trod laidOut (by kernel_rfl) (of_decide_eq_true (by kernel_rfl)) k1 bel lt1) (trodAll_cons_mk (Below.trod laidOut (by kernel_rfl) (of_decide_eq_true (by kernel_rfl)) k2 bel lt2) trodAll_mk0))), rfl, bel.frame _, fun h => by cases h⟩

theorem over : Rows.fnExactFlowOpenRow.holds Try.pinned (OpenSpec.ofChange Rows.fnExactFlowOpenSpec) :=
  OpenClaim.holds_of_wide 7 Try.f7 rfl rfl rfl rfl rfl rfl rfl ⟨rfl, rfl, rfl, rfl, rfl⟩ rfl rfl rfl rfl rfl (by kernel_rfl) Try.func7 (by kernel_rfl)
    (of_decide_eq_true (by kernel_rfl)) (by unfold Func.isWrapper; first | (rw [if_pos (by decide +kernel)]; kernel_rfl) | (rw [if_neg (by decide +kernel)]; exact ⟨rfl, rfl⟩))
    (fun os started H enc _ => lifted os started H enc)

theorem proved : Rows.FnExactFlowOpenSaid := over
end Go.Proofs.Ythokaemeadhkjaa.fnExactFlowOpen
namespace Go.Proofs.Ythokaemeadhkjaa
theorem fnExactFlowOpen_holds : Rows.FnExactFlowOpenSaid := fnExactFlowOpen.proved
#print axioms fnExactFlowOpen_holds
end Go.Proofs.Ythokaemeadhkjaa
