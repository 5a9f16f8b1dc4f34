/- laws.FnExactInGarden is true at every configuration, address and port. -/
import Derived.Test.YtcgdpijmfgkalacRows
import Derived.Test.YtcgdpijmfgkalacLawGard
import Derived.WalkKit
import Derived.ProofKit
import Derived.OpenShut
import Derived.ShutString
import Derived.ChangeOld
import Derived.Below
namespace Go.Proofs.Ytcgdpijmfgkalac.fnExactInGarden
open Go.ChangeShapes Go.WideShapes Go.ChangeAt Go.RowKit
set_option linter.unusedVariables false

theorem own : ownKnob Try.prog.godebug = none := by kernel_rfl
theorem laidOut : laidOutB Try.prog = true := by kernel_rfl
theorem cells39 : Try.prog.cellsOf 39 = 8 := by kernel_rfl

theorem walk (ip0 b0 gt0 : Int) (gm0 wm0 : ByteArray) (rs0 : Int) (x0 y0 : Option Addr) (lenx0 capx0 leny0 capy0 : Nat) (ps0 : List PlaceV) (ros0 : List RoleV) (a1 : Int) (a2 : Int) (w : World) (w0 : gm0.size ≤ maxLen ∧ wm0.size ≤ maxLen ∧ (ps0.length = lenx0 ∧ lenx0 ≤ capx0 ∧ capx0 ≤ maxLen ∧ Rw PlR 4 w x0 ps0) ∧ ros0.length = leny0 ∧ leny0 ≤ capy0 ∧ capy0 ≤ maxLen ∧ Rw (RoR 0) 5 w y0 ros0) (w1 : (Lit.int .i64 a1).wf = true) (w2 : (Lit.int .i64 a2).wf = true) :
    Calls Try.prog 4 #[.agg #[.int .i64 ip0, .int .i64 b0, .int .i64 gt0, .string gm0, .string wm0, .int .i64 rs0, .slice x0 lenx0 capx0, .slice y0 leny0 capy0], .int .i64 a1, .int .i64 a2] w fun e w' => e = .returned (.bool true) ∧ Below w.heap.size w w' := by
  exact lawInGarden_any ip0 b0 gt0 gm0 wm0 rs0 x0 y0 lenx0 capx0 leny0 capy0 ps0 ros0 a1 a2 w w0.2.2.1.2.2.2 w0.2.2.1.1 w0.2.2.2.2.2.2 w0.2.2.2.1 w0.1 w0.2.1 (Nat.le_trans w0.2.2.1.2.1 w0.2.2.1.2.2.1) (Nat.le_trans w0.2.2.2.2.1 w0.2.2.2.2.2.1) (bounds_i64 w2).2

set_option maxRecDepth 100000 in
theorem lifted (os : Os) (started : os.Started) (H : Type) (enc : TypeId × Value → H) :
    ReturnsInHanded {} Try.checked os 4 .any (Rows.fnExactInGardenSpec.pre6 enc Try.prog Try.f4 Rows.fnExactInGardenRow.domain false) (Rows.fnExactInGardenSpec.post enc Try.prog Try.f4 false true false false) := by
  refine returnsInHanded_of_change (C := Try.checked) own started (by kernel_rfl) Try.func4
    (ChangeSpec.witness6 (enc := enc) (C := Try.checked) false ⟨#[], #[.agg #[.int .i64 0, .int .i64 0, .int .i64 0, .string ⟨#[]⟩, .string ⟨#[]⟩, .int .i64 0, .slice none 0 0, .slice none 0 0], .int .i64 0, .int .i64 0], []⟩ 8 (by kernel_rfl) (by kernel_rfl) (by kernel_rfl) (by kernel_rfl)) ?_
  intro W base args ds gs before hval0 hW hcnd _
  have hval : ∀ (j : Nat) t v, Try.f4.params[j]? = some t → args[j]? = some v → Value.okWide Try.prog W .any base t v := hval0
  have hW' := hW
  obtain ⟨p, q, hA0, hV, rfl, hfz, hnd⟩ := hW
  have hA : DataW.TrodAll enc Try.prog W 0 (fun _ => true) true Try.f4.params.toList args.toList ds p := hA0
  rw [Try.params4] at hA hval
  obtain ⟨v0, vs0, d0, ds0, p0, q0, hargs, rfl, rfl, h0, r0⟩ := trodAll_cons hA
  obtain ⟨v1, vs1, d1, ds1, p1, q1, rfl, rfl, rfl, h1, r1⟩ := trodAll_cons r0
  obtain ⟨v2, vs2, d2, ds2, p2, q2, rfl, rfl, rfl, h2, r2⟩ := trodAll_cons r1
  obtain ⟨rfl, rfl, rfl⟩ := trodAll_nil r2
  obtain rfl : args = #[v0, v1, v2] := by cases args; simp_all
  obtain ⟨rfl, rfl⟩ := trodVars_none hV
  obtain ⟨cs0, rfl, hsz0⟩ := okWide_struct Try.underlying39 (hval 0 39 v0 rfl rfl)
  have k0 := h0
  have lt0 : ∀ x ∈ p0, x.block < W.heap.size := by obtain ⟨m, hm⟩ := k0; exact DataW.trod_lt m _ _ _ hm
  obtain ⟨fuel0, hf0⟩ := h0
  obtain ⟨ip0, b0, gt0, gm0, wm0, rs0, x0, y0, lenx0, capx0, leny0, capy0, ps0, ros0, q0, w0⟩ := open_config hf0
  obtain rfl : cs0 = #[.int .i64 ip0, .int .i64 b0, .int .i64 gt0, .string gm0, .string wm0, .int .i64 rs0, .slice x0 lenx0 capx0, .slice y0 leny0 capy0] := by
    obtain ⟨l0⟩ := cs0
    simpa [Value.cells, rv] using q0
  obtain ⟨a1, rfl⟩ := okWide_int Try.underlying3 (hval 1 3 v1 rfl rfl)
  have k1 := h1
  have lt1 : ∀ x ∈ p1, x.block < W.heap.size := by obtain ⟨m, hm⟩ := k1; exact DataW.trod_lt m _ _ _ hm
  have w1 : (Lit.int .i64 a1).wf = true := by
    obtain ⟨fuel, hf⟩ := h1
    obtain ⟨n, hn, _, hw⟩ := DataW.trod_int Try.underlying3 hf
    simp [Value.cells] at hn
    subst hn
    exact hw
  obtain ⟨a2, rfl⟩ := okWide_int Try.underlying3 (hval 2 3 v2 rfl rfl)
  have k2 := h2
  have lt2 : ∀ x ∈ p2, x.block < W.heap.size := by obtain ⟨m, hm⟩ := k2; exact DataW.trod_lt m _ _ _ hm
  have w2 : (Lit.int .i64 a2).wf = true := by
    obtain ⟨fuel, hf⟩ := h2
    obtain ⟨n, hn, _, hw⟩ := DataW.trod_int Try.underlying3 hf
    simp [Value.cells] at hn
    subst hn
    exact hw
  clear hA0 hval0
  refine (walk ip0 b0 gt0 gm0 wm0 rs0 x0 y0 lenx0 capx0 leny0 capy0 ps0 ros0 a1 a2 W w0 w1 w2).mono fun e W' ⟨he, bel⟩ => ?_
  subst he
  exact ⟨_, rfl, _, _, _, [], _, [], hW', trodAll_mk1 (shut_bool Try.underlying4 _), (trodAll_cons_mk (Below.trod laidOut (by kernel_rfl) (of_decide_eq_true (by kernel_rfl)) k0 bel lt0) (trodAll_cons_mk (Below.trod laidOut (by kernel_rfl) (of_decide_eq_true (by kernel_rfl)) k1 bel lt1) (trodAll_cons_mk (Below.trod laidOut (by kernel_rfl) (of_decide_eq_true (by kernel_rfl)) k2 bel lt2) trodAll_mk0))), rfl, bel.frame _, fun h => by cases h⟩

theorem over : Rows.fnExactInGardenRow.holds Try.pinned (OpenSpec.ofChange Rows.fnExactInGardenSpec) :=
  OpenClaim.holds_of_wide 4 Try.f4 rfl rfl rfl rfl rfl rfl rfl ⟨rfl, rfl, rfl, rfl, rfl⟩ rfl rfl rfl rfl rfl (by kernel_rfl) Try.func4 (by kernel_rfl)
    (of_decide_eq_true (by kernel_rfl)) (by unfold Func.isWrapper; first | (rw [if_pos (by decide +kernel)]; kernel_rfl) | (rw [if_neg (by decide +kernel)]; exact ⟨rfl, rfl⟩))
    (fun os started H enc _ => lifted os started H enc)

theorem proved : Rows.FnExactInGardenSaid := over
end Go.Proofs.Ytcgdpijmfgkalac.fnExactInGarden
namespace Go.Proofs.Ytcgdpijmfgkalac
theorem fnExactInGarden_holds : Rows.FnExactInGardenSaid := fnExactInGarden.proved
#print axioms fnExactInGarden_holds
end Go.Proofs.Ytcgdpijmfgkalac
