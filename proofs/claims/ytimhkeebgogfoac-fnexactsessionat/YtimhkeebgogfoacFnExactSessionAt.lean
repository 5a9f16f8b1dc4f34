/- For all guests, every text and every number the program's SessionAt answers as the model's does, and the guests read afterwards as they did: the law FnExactSessionAt. -/
import Derived.Test.YtimhkeebgogfoacRows
import Derived.Test.YtimhkeebgogfoacLawSess
import Derived.WalkKit
import Derived.ProofKit
import Derived.OpenShut
import Derived.ShutString
import Derived.ChangeOld
import Derived.Below
namespace Go.Proofs.Ytimhkeebgogfoac.fnExactSessionAt
open Go.ChangeShapes Go.WideShapes Go.ChangeAt Go.RowKit
set_option linter.unusedVariables false

theorem own : ownKnob Try.prog.godebug = none := by kernel_rfl
theorem laidOut : laidOutB Try.prog = true := by kernel_rfl
theorem cells27 : Try.prog.cellsOf 27 = 5 := by kernel_rfl

theorem walk (ua0 sa0 fa0 ra0 : Option Addr) (ul0 uc0 sl0 sc0 fl0 fc0 rl0 rc0 : Nat) (us0 : List UserV) (ss0 : List SessV) (fs0 : List FailV) (es0 : List RecV) (nx0 : Int) (a1 : ByteArray) (a2 : Int) (w : World) (w0 : (us0.length = ul0 ∧ ul0 ≤ uc0 ∧ uc0 ≤ maxLen ∧ Rw UsR 6 w ua0 us0) ∧ (ss0.length = sl0 ∧ sl0 ≤ sc0 ∧ sc0 ≤ maxLen ∧ Rw SeR 10 w sa0 ss0) ∧ (fs0.length = fl0 ∧ fl0 ≤ fc0 ∧ fc0 ≤ maxLen ∧ Rw FaR 3 w fa0 fs0) ∧ (es0.length = rl0 ∧ rl0 ≤ rc0 ∧ rc0 ≤ maxLen ∧ Rw ReR 5 w ra0 es0) ∧ (Lit.int .i64 nx0).wf = true) (w1 : a1.size ≤ maxLen) (w2 : (Lit.int .i64 a2).wf = true) :
    Calls Try.prog 3 #[.agg #[.slice ua0 ul0 uc0, .slice sa0 sl0 sc0, .slice fa0 fl0 fc0, .slice ra0 rl0 rc0, .int .i64 nx0], .string a1, .int .i64 a2] w fun e w' => e = .returned (.bool true) ∧ Below w.heap.size w w' := by
  unfold maxLen at w0
  exact lawSessionAt_any ua0 sa0 fa0 ra0 ul0 uc0 sl0 sc0 fl0 fc0 rl0 rc0 us0 ss0 fs0 es0 nx0 a1 a2 w w0.1.2.2.2 w0.1.1 w0.2.1.2.2.2 w0.2.1.1 w0.2.2.1.2.2.2 w0.2.2.1.1 w0.2.2.2.1.2.2.2 w0.2.2.2.1.1 (by have := w0.1.2.1; have := w0.1.2.2.1; omega) (by have := w0.2.1.2.1; have := w0.2.1.2.2.1; omega) (by have := w0.2.2.1.2.1; have := w0.2.2.1.2.2.1; omega) (by have := w0.2.2.2.1.2.1; have := w0.2.2.2.1.2.2.1; omega) w1

set_option maxRecDepth 100000 in
theorem lifted (os : Os) (started : os.Started) (H : Type) (enc : TypeId × Value → H) :
    ReturnsInHanded {} Try.checked os 3 .any (Rows.fnExactSessionAtSpec.pre6 enc Try.prog Try.f3 Rows.fnExactSessionAtRow.domain false) (Rows.fnExactSessionAtSpec.post enc Try.prog Try.f3 false true false false) := by
  refine returnsInHanded_of_change (C := Try.checked) own started (by kernel_rfl) Try.func3
    (ChangeSpec.witness6 (enc := enc) (C := Try.checked) false ⟨#[], #[.agg #[.slice none 0 0, .slice none 0 0, .slice none 0 0, .slice none 0 0, .int .i64 0], .string ⟨#[]⟩, .int .i64 0], []⟩ 8 (by kernel_rfl) (by kernel_rfl) (by kernel_rfl) (by kernel_rfl)) ?_
  intro W base args ds gs before hval0 hW hcnd _
  have hval : ∀ (j : Nat) t v, Try.f3.params[j]? = some t → args[j]? = some v → Value.okWide Try.prog W .any base t v := hval0
  have hW' := hW
  obtain ⟨p, q, hA0, hV, rfl, hfz, hnd⟩ := hW
  have hA : DataW.TrodAll enc Try.prog W 0 (fun _ => true) true Try.f3.params.toList args.toList ds p := hA0
  rw [Try.params3] at hA hval
  obtain ⟨v0, vs0, d0, ds0, p0, q0, hargs, rfl, rfl, h0, r0⟩ := trodAll_cons hA
  obtain ⟨v1, vs1, d1, ds1, p1, q1, rfl, rfl, rfl, h1, r1⟩ := trodAll_cons r0
  obtain ⟨v2, vs2, d2, ds2, p2, q2, rfl, rfl, rfl, h2, r2⟩ := trodAll_cons r1
  obtain ⟨rfl, rfl, rfl⟩ := trodAll_nil r2
  obtain rfl : args = #[v0, v1, v2] := by cases args; simp_all
  obtain ⟨rfl, rfl⟩ := trodVars_none hV
  obtain ⟨cs0, rfl, hsz0⟩ := okWide_struct Try.underlying27 (hval 0 27 v0 rfl rfl)
  have k0 := h0
  have lt0 : ∀ x ∈ p0, x.block < W.heap.size := by obtain ⟨m, hm⟩ := k0; exact DataW.trod_lt m _ _ _ hm
  obtain ⟨fuel0, hf0⟩ := h0
  obtain ⟨ua0, sa0, fa0, ra0, ul0, uc0, sl0, sc0, fl0, fc0, rl0, rc0, us0, ss0, fs0, es0, nx0, q0, w0⟩ := open_guests hf0
  obtain rfl : cs0 = #[.slice ua0 ul0 uc0, .slice sa0 sl0 sc0, .slice fa0 fl0 fc0, .slice ra0 rl0 rc0, .int .i64 nx0] := by
    obtain ⟨l0⟩ := cs0
    simpa [Value.cells] using q0
  obtain ⟨a1, rfl⟩ := okWide_string Try.underlying9 (hval 1 9 v1 rfl rfl)
  have k1 := h1
  have lt1 : ∀ x ∈ p1, x.block < W.heap.size := by obtain ⟨m, hm⟩ := k1; exact DataW.trod_lt m _ _ _ hm
  have w1 : a1.size ≤ maxLen := by
    obtain ⟨fuel, hf⟩ := h1
    obtain ⟨n, hn, _, hw⟩ := DataW.trod_string Try.underlying9 hf
    simp [Value.cells] at hn
    subst hn
    exact hw
  obtain ⟨a2, rfl⟩ := okWide_int Try.underlying3 (hval 2 3 v2 rfl rfl)
  have k2 := h2
  have lt2 : ∀ x ∈ p2, x.block < W.heap.size := by obtain ⟨m, hm⟩ := k2; exact DataW.trod_lt m _ _ _ hm
  have w2 : (Lit.int .i64 a2).wf = true := by
    obtain ⟨fuel, hf⟩ := h2
    obtain ⟨n, hn, _, hw⟩ := DataW.trod_int Try.underlying3 hf
    simp [Value.cells] at hn
    subst hn
    exact hw
  clear hA0 hval0
  refine (walk ua0 sa0 fa0 ra0 ul0 uc0 sl0 sc0 fl0 fc0 rl0 rc0 us0 ss0 fs0 es0 nx0 a1 a2 W w0 w1 w2).mono fun e W' ⟨he, bel⟩ => ?_
  subst he
  exact ⟨_, rfl, _, _, _, [], _, [], hW', trodAll_mk1 (shut_bool Try.underlying4 _), (trodAll_cons_mk (Below.trod laidOut (by kernel_rfl) (of_decide_eq_true (by kernel_rfl)) k0 bel lt0) (trodAll_cons_mk (Below.trod laidOut (by kernel_rfl) (of_decide_eq_true (by kernel_rfl)) k1 bel lt1) (trodAll_cons_mk (Below.trod laidOut (by kernel_rfl) (of_decide_eq_true (by kernel_rfl)) k2 bel lt2) trodAll_mk0))), rfl, bel.frame _, fun h => by cases h⟩

theorem over : Rows.fnExactSessionAtRow.holds Try.pinned (OpenSpec.ofChange Rows.fnExactSessionAtSpec) :=
  OpenClaim.holds_of_wide 3 Try.f3 rfl rfl rfl rfl rfl rfl rfl ⟨rfl, rfl, rfl, rfl, rfl⟩ rfl rfl rfl rfl rfl (by kernel_rfl) Try.func3 (by kernel_rfl)
    (of_decide_eq_true (by kernel_rfl)) (by unfold Func.isWrapper; first | (rw [if_pos (by decide +kernel)]; kernel_rfl) | (rw [if_neg (by decide +kernel)]; exact ⟨rfl, rfl⟩))
    (fun os started H enc _ => lifted os started H enc)

theorem proved : Rows.FnExactSessionAtSaid := over
end Go.Proofs.Ytimhkeebgogfoac.fnExactSessionAt
namespace Go.Proofs.Ytimhkeebgogfoac
theorem fnExactSessionAt_holds : Rows.FnExactSessionAtSaid := fnExactSessionAt.proved
#print axioms fnExactSessionAt_holds
end Go.Proofs.Ytimhkeebgogfoac
