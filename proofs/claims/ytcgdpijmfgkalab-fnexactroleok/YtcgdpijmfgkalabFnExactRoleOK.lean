/- laws.FnExactRoleOK is true at every role. -/
import Derived.Test.YtcgdpijmfgkalabRows
import Derived.Test.YtcgdpijmfgkalabLawRole
import Derived.WalkKit
import Derived.ProofKit
import Derived.OpenShut
import Derived.ShutString
import Derived.ChangeOld
import Derived.Below
namespace Go.Proofs.Ytcgdpijmfgkalab.fnExactRoleOK
open Go.ChangeShapes Go.WideShapes Go.ChangeAt Go.RowKit
set_option linter.unusedVariables false

theorem own : ownKnob Try.prog.godebug = none := by kernel_rfl
theorem laidOut : laidOutB Try.prog = true := by kernel_rfl
theorem cells57 : Try.prog.cellsOf 57 = 5 := by kernel_rfl

theorem walk (a0 : RoleV) (x0 : Option Addr) (cap0 : Nat) (w : World) (w0 : a0.nm.size ≤ maxLen ∧ a0.rs.length ≤ cap0 ∧ cap0 ≤ maxLen ∧ Rw RuR 6 w x0 a0.rs) :
    Calls Try.prog 6 #[.agg #[.string a0.nm, .slice x0 a0.rs.length cap0, .int .i64 a0.q, .int .i64 a0.m, .int .i64 a0.i]] w fun e w' => e = .returned (.bool true) ∧ Below w.heap.size w w' := by
  exact lawRoleOK_any a0.nm a0.rs a0.q a0.m a0.i x0 a0.rs.length cap0 w w0.2.2.2 rfl w0.1 (Nat.le_trans w0.2.1 w0.2.2.1)

set_option maxRecDepth 100000 in
theorem lifted (os : Os) (started : os.Started) (H : Type) (enc : TypeId × Value → H) :
    ReturnsInHanded {} Try.checked os 6 .any (Rows.fnExactRoleOKSpec.pre6 enc Try.prog Try.f6 Rows.fnExactRoleOKRow.domain false) (Rows.fnExactRoleOKSpec.post enc Try.prog Try.f6 false true false false) := by
  refine returnsInHanded_of_change (C := Try.checked) own started (by kernel_rfl) Try.func6
    (ChangeSpec.witness6 (enc := enc) (C := Try.checked) false ⟨#[], #[.agg #[.string ⟨#[]⟩, .slice none 0 0, .int .i64 0, .int .i64 0, .int .i64 0]], []⟩ 8 (by kernel_rfl) (by kernel_rfl) (by kernel_rfl) (by kernel_rfl)) ?_
  intro W base args ds gs before hval0 hW hcnd _
  have hval : ∀ (j : Nat) t v, Try.f6.params[j]? = some t → args[j]? = some v → Value.okWide Try.prog W .any base t v := hval0
  have hW' := hW
  obtain ⟨p, q, hA0, hV, rfl, hfz, hnd⟩ := hW
  have hA : DataW.TrodAll enc Try.prog W 0 (fun _ => true) true Try.f6.params.toList args.toList ds p := hA0
  rw [Try.params6] at hA hval
  obtain ⟨v0, vs0, d0, ds0, p0, q0, hargs, rfl, rfl, h0, r0⟩ := trodAll_cons hA
  obtain ⟨rfl, rfl, rfl⟩ := trodAll_nil r0
  obtain rfl : args = #[v0] := by cases args; simp_all
  obtain ⟨rfl, rfl⟩ := trodVars_none hV
  obtain ⟨cs0, rfl, hsz0⟩ := okWide_struct Try.underlying57 (hval 0 57 v0 rfl rfl)
  have k0 := h0
  have lt0 : ∀ x ∈ p0, x.block < W.heap.size := by obtain ⟨m, hm⟩ := k0; exact DataW.trod_lt m _ _ _ hm
  obtain ⟨fuel0, hf0⟩ := h0
  obtain ⟨a0, x0, cap0, q0, u0, vv0, c0, rr0, _⟩ := open_role hf0
  have w0 := And.intro u0 (And.intro vv0 (And.intro c0 rr0))
  obtain rfl : cs0 = #[.string a0.nm, .slice x0 a0.rs.length cap0, .int .i64 a0.q, .int .i64 a0.m, .int .i64 a0.i] := by
    obtain ⟨l0⟩ := cs0
    simpa [Value.cells, rv] using q0
  clear hA0 hval0
  refine (walk a0 x0 cap0 W w0).mono fun e W' ⟨he, bel⟩ => ?_
  subst he
  exact ⟨_, rfl, _, _, _, [], _, [], hW', trodAll_mk1 (shut_bool Try.underlying4 _), (trodAll_cons_mk (Below.trod laidOut (by kernel_rfl) (of_decide_eq_true (by kernel_rfl)) k0 bel lt0) trodAll_mk0), rfl, bel.frame _, fun h => by cases h⟩

theorem over : Rows.fnExactRoleOKRow.holds Try.pinned (OpenSpec.ofChange Rows.fnExactRoleOKSpec) :=
  OpenClaim.holds_of_wide 6 Try.f6 rfl rfl rfl rfl rfl rfl rfl ⟨rfl, rfl, rfl, rfl, rfl⟩ rfl rfl rfl rfl rfl (by kernel_rfl) Try.func6 (by kernel_rfl)
    (of_decide_eq_true (by kernel_rfl)) (by unfold Func.isWrapper; first | (rw [if_pos (by decide +kernel)]; kernel_rfl) | (rw [if_neg (by decide +kernel)]; exact ⟨rfl, rfl⟩))
    (fun os started H enc _ => lifted os started H enc)

theorem proved : Rows.FnExactRoleOKSaid := over
end Go.Proofs.Ytcgdpijmfgkalab.fnExactRoleOK
namespace Go.Proofs.Ytcgdpijmfgkalab
theorem fnExactRoleOK_holds : Rows.FnExactRoleOKSaid := fnExactRoleOK.proved
#print axioms fnExactRoleOK_holds
end Go.Proofs.Ytcgdpijmfgkalab
