/- laws.FnExactConfigOK is true at every configuration. -/
import Derived.Test.YtcgdpijmfgkalabRows
import Derived.Test.YtcgdpijmfgkalabLawConf
import Derived.WalkKit
import Derived.ProofKit
import Derived.OpenShut
import Derived.ShutString
import Derived.ChangeOld
import Derived.Below
namespace Go.Proofs.Ytcgdpijmfgkalab.fnExactConfigOK
open Go.ChangeShapes Go.WideShapes Go.ChangeAt Go.RowKit
set_option linter.unusedVariables false

theorem own : ownKnob Try.prog.godebug = none := by kernel_rfl
theorem laidOut : laidOutB Try.prog = true := by kernel_rfl
theorem cells69 : Try.prog.cellsOf 69 = 8 := by kernel_rfl

theorem walk (ip0 b0 gt0 : Int) (gm0 wm0 : ByteArray) (rs0 : Int) (x0 y0 : Option Addr) (lenx0 capx0 leny0 capy0 : Nat) (ps0 : List PlaceV) (ros0 : List RoleV) (w : World) (w0 : gm0.size ≤ maxLen ∧ wm0.size ≤ maxLen ∧ (ps0.length = lenx0 ∧ lenx0 ≤ capx0 ∧ capx0 ≤ maxLen ∧ Rw PlR 4 w x0 ps0) ∧ ros0.length = leny0 ∧ leny0 ≤ capy0 ∧ capy0 ≤ maxLen ∧ Rw (RoR 0) 5 w y0 ros0) :
    Calls Try.prog 7 #[.agg #[.int .i64 ip0, .int .i64 b0, .int .i64 gt0, .string gm0, .string wm0, .int .i64 rs0, .slice x0 lenx0 capx0, .slice y0 leny0 capy0]] w fun e w' => e = .returned (.bool true) ∧ Below w.heap.size w w' := by
  exact lawConfigOK_any ip0 b0 gt0 gm0 wm0 rs0 x0 y0 lenx0 capx0 leny0 capy0 ps0 ros0 w w0.2.2.1.2.2.2 w0.2.2.1.1 w0.2.2.2.2.2.2 w0.2.2.2.1 w0.1 w0.2.1 (Nat.le_trans w0.2.2.1.2.1 w0.2.2.1.2.2.1) (Nat.le_trans w0.2.2.2.2.1 w0.2.2.2.2.2.1)

set_option maxRecDepth 100000 in
theorem lifted (os : Os) (started : os.Started) (H : Type) (enc : TypeId × Value → H) :
    ReturnsInHanded {} Try.checked os 7 .any (Rows.fnExactConfigOKSpec.pre6 enc Try.prog Try.f7 Rows.fnExactConfigOKRow.domain false) (Rows.fnExactConfigOKSpec.post enc Try.prog Try.f7 false true false false) := by
  refine returnsInHanded_of_change (C := Try.checked) own started (by kernel_rfl) Try.func7
    (ChangeSpec.witness6 (enc := enc) (C := Try.checked) false ⟨#[], #[.agg #[.int .i64 0, .int .i64 0, .int .i64 0, .string ⟨#[]⟩, .string ⟨#[]⟩, .int .i64 0, .slice none 0 0, .slice none 0 0]], []⟩ 8 (by kernel_rfl) (by kernel_rfl) (by kernel_rfl) (by kernel_rfl)) ?_
  intro W base args ds gs before hval0 hW hcnd _
  have hval : ∀ (j : Nat) t v, Try.f7.params[j]? = some t → args[j]? = some v → Value.okWide Try.prog W .any base t v := hval0
  have hW' := hW
  obtain ⟨p, q, hA0, hV, rfl, hfz, hnd⟩ := hW
  have hA : DataW.TrodAll enc Try.prog W 0 (fun _ => true) true Try.f7.params.toList args.toList ds p := hA0
  rw [Try.params7] at hA hval
  obtain ⟨v0, vs0, d0, ds0, p0, q0, hargs, rfl, rfl, h0, r0⟩ := trodAll_cons hA
  obtain ⟨rfl, rfl, rfl⟩ := trodAll_nil r0
  obtain rfl : args = #[v0] := by cases args; simp_all
  obtain ⟨rfl, rfl⟩ := trodVars_none hV
  obtain ⟨cs0, rfl, hsz0⟩ := okWide_struct Try.underlying69 (hval 0 69 v0 rfl rfl)
  have k0 := h0
  have lt0 : ∀ x ∈ p0, x.block < W.heap.size := by obtain ⟨m, hm⟩ := k0; exact DataW.trod_lt m _ _ _ hm
  obtain ⟨fuel0, hf0⟩ := h0
  obtain ⟨ip0, b0, gt0, gm0, wm0, rs0, x0, y0, lenx0, capx0, leny0, capy0, ps0, ros0, q0, w0⟩ := open_config hf0
  obtain rfl : cs0 = #[.int .i64 ip0, .int .i64 b0, .int .i64 gt0, .string gm0, .string wm0, .int .i64 rs0, .slice x0 lenx0 capx0, .slice y0 leny0 capy0] := by
    obtain ⟨l0⟩ := cs0
    simpa [Value.cells, rv] using q0
  clear hA0 hval0
  refine (walk ip0 b0 gt0 gm0 wm0 rs0 x0 y0 lenx0 capx0 leny0 capy0 ps0 ros0 W w0).mono fun e W' ⟨he, bel⟩ => ?_
  subst he
  exact ⟨_, rfl, _, _, _, [], _, [], hW', trodAll_mk1 (shut_bool Try.underlying4 _), (trodAll_cons_mk (Below.trod laidOut (by kernel_rfl) (of_decide_eq_true (by kernel_rfl)) k0 bel lt0) trodAll_mk0), rfl, bel.frame _, fun h => by cases h⟩

theorem over : Rows.fnExactConfigOKRow.holds Try.pinned (OpenSpec.ofChange Rows.fnExactConfigOKSpec) :=
  OpenClaim.holds_of_wide 7 Try.f7 rfl rfl rfl rfl rfl rfl rfl ⟨rfl, rfl, rfl, rfl, rfl⟩ rfl rfl rfl rfl rfl (by kernel_rfl) Try.func7 (by kernel_rfl)
    (of_decide_eq_true (by kernel_rfl)) (by unfold Func.isWrapper; first | (rw [if_pos (by decide +kernel)]; kernel_rfl) | (rw [if_neg (by decide +kernel)]; exact ⟨rfl, rfl⟩))
    (fun os started H enc _ => lifted os started H enc)

theorem proved : Rows.FnExactConfigOKSaid := over
end Go.Proofs.Ytcgdpijmfgkalab.fnExactConfigOK
namespace Go.Proofs.Ytcgdpijmfgkalab
theorem fnExactConfigOK_holds : Rows.FnExactConfigOKSaid := fnExactConfigOK.proved
#print axioms fnExactConfigOK_holds
end Go.Proofs.Ytcgdpijmfgkalab
