/- For every question for a mac, right or not, the program ArpBytes answers as the model does, in memory of its own: the law FnExactArpBytes returns true. -/
import Derived.Test.YtcgdpijmfgkalaaRows
import Derived.Test.YtcgdpijmfgkalaaLawArpBytes
import Derived.Test.YtcgdpijmfgkalaaBothWire
import Derived.WalkKit
import Derived.ProofKit
import Derived.OpenShut
import Derived.ShutString
import Derived.ChangeOld
import Derived.Below
namespace Go.Proofs.Ytcgdpijmfgkalaa.fnExactArpBytes
open Go.ChangeShapes Go.WideShapes Go.ChangeAt Go.RowKit
set_option linter.unusedVariables false

theorem own : ownKnob Try.prog.godebug = none := by kernel_rfl
theorem laidOut : laidOutB Try.prog = true := by kernel_rfl
theorem cells3 : Try.prog.cellsOf 3 = 1 := by kernel_rfl
theorem cells9 : Try.prog.cellsOf 9 = 1 := by kernel_rfl
theorem cells46 : Try.prog.cellsOf 46 = 5 := by kernel_rfl
theorem arr5 {α : Type} {cs : Array α} (h : cs.size = 5) : ∃ c0 c1 c2 c3 c4, cs = #[c0, c1, c2, c3, c4] := by
  obtain ⟨l⟩ := cs
  match l, h with
  | [c0, c1, c2, c3, c4], _ => exact ⟨c0, c1, c2, c3, c4, rfl⟩

theorem walk (a0_0 : Int) (a0_1 : ByteArray) (a0_2 : ByteArray) (a0_3 : Int) (a0_4 : Int) (w : World) (w0_0 : (Lit.int .i64 a0_0).wf = true) (w0_1 : a0_1.size ≤ maxLen) (w0_2 : a0_2.size ≤ maxLen) (w0_3 : (Lit.int .i64 a0_3).wf = true) (w0_4 : (Lit.int .i64 a0_4).wf = true) :
    Calls Try.prog 6 #[.agg #[.int .i64 a0_0, .string a0_1, .string a0_2, .int .i64 a0_3, .int .i64 a0_4]] w fun e w' => e = .returned (.bool true) ∧ Below w.heap.size w w' := by
  exact lawArpBytes_any a0_0 a0_1 a0_2 a0_3 a0_4 w (by unfold maxLen at w0_1; omega) (by unfold maxLen at w0_2; omega) (arpBytes_both a0_0 a0_1 a0_2 a0_3 a0_4 (bounds_i64 w0_0).2 (bounds_i64 w0_3).2 (bounds_i64 w0_4).2)

set_option maxRecDepth 100000 in
theorem lifted (os : Os) (started : os.Started) (H : Type) (enc : TypeId × Value → H) :
    ReturnsInHanded {} Try.checked os 6 .any (Rows.fnExactArpBytesSpec.pre6 enc Try.prog Try.f6 Rows.fnExactArpBytesRow.domain false) (Rows.fnExactArpBytesSpec.post enc Try.prog Try.f6 false true false false) := by
  refine returnsInHanded_of_change (C := Try.checked) own started (by kernel_rfl) Try.func6
    (ChangeSpec.witness6 (enc := enc) (C := Try.checked) false ⟨#[], #[.agg #[.int .i64 0, .string ⟨#[]⟩, .string ⟨#[]⟩, .int .i64 0, .int .i64 0]], []⟩ 8 (by kernel_rfl) (by kernel_rfl) (by kernel_rfl) (by kernel_rfl)) ?_
  intro W base args ds gs before hval0 hW hcnd _
  have hval : ∀ (j : Nat) t v, Try.f6.params[j]? = some t → args[j]? = some v → Value.okWide Try.prog W .any base t v := hval0
  have hW' := hW
  obtain ⟨p, q, hA0, hV, rfl, hfz, hnd⟩ := hW
  have hA : DataW.TrodAll enc Try.prog W 0 (fun _ => true) true Try.f6.params.toList args.toList ds p := hA0
  rw [Try.params6] at hA hval
  obtain ⟨v0, vs0, d0, ds0, p0, q0, hargs, rfl, rfl, h0, r0⟩ := trodAll_cons hA
  obtain ⟨rfl, rfl, rfl⟩ := trodAll_nil r0
  obtain rfl : args = #[v0] := by cases args; simp_all
  obtain ⟨rfl, rfl⟩ := trodVars_none hV
  obtain ⟨cs0, rfl, hsz0⟩ := okWide_struct Try.underlying46 (hval 0 46 v0 rfl rfl)
  rw [cells46] at hsz0
  obtain ⟨c0_0, c0_1, c0_2, c0_3, c0_4, rfl⟩ := arr5 hsz0
  have k0 := h0
  have lt0 : ∀ x ∈ p0, x.block < W.heap.size := by obtain ⟨m, hm⟩ := k0; exact DataW.trod_lt m _ _ _ hm
  obtain ⟨fuel0, hf0⟩ := h0
  obtain ⟨xs0, m0, _, _, _, hlen0, hfld0⟩ := DataW.trod_struct Try.underlying46 hf0
  replace hlen0 : xs0.length = 5 := hlen0
  have e0_0 := hfld0 0 _ rfl
  rw [List.getElem?_eq_getElem (by omega)] at e0_0
  obtain ⟨a0_0, q0_0, _, w0_0⟩ := DataW.trod_int Try.underlying3 e0_0
  simp [Value.cells, cells3] at q0_0
  subst q0_0
  have e0_1 := hfld0 1 _ rfl
  rw [List.getElem?_eq_getElem (by omega)] at e0_1
  obtain ⟨a0_1, q0_1, _, w0_1⟩ := DataW.trod_string Try.underlying9 e0_1
  simp [Value.cells, cells9] at q0_1
  subst q0_1
  have e0_2 := hfld0 2 _ rfl
  rw [List.getElem?_eq_getElem (by omega)] at e0_2
  obtain ⟨a0_2, q0_2, _, w0_2⟩ := DataW.trod_string Try.underlying9 e0_2
  simp [Value.cells, cells9] at q0_2
  subst q0_2
  have e0_3 := hfld0 3 _ rfl
  rw [List.getElem?_eq_getElem (by omega)] at e0_3
  obtain ⟨a0_3, q0_3, _, w0_3⟩ := DataW.trod_int Try.underlying3 e0_3
  simp [Value.cells, cells3] at q0_3
  subst q0_3
  have e0_4 := hfld0 4 _ rfl
  rw [List.getElem?_eq_getElem (by omega)] at e0_4
  obtain ⟨a0_4, q0_4, _, w0_4⟩ := DataW.trod_int Try.underlying3 e0_4
  simp [Value.cells, cells3] at q0_4
  subst q0_4
  clear hA0 hval0
  refine (walk a0_0 a0_1 a0_2 a0_3 a0_4 W w0_0 w0_1 w0_2 w0_3 w0_4).mono fun e W' ⟨he, bel⟩ => ?_
  subst he
  exact ⟨_, rfl, _, _, _, [], _, [], hW', trodAll_mk1 (shut_bool Try.underlying4 _), (trodAll_cons_mk (Below.trod laidOut (by kernel_rfl) (of_decide_eq_true (by kernel_rfl)) k0 bel lt0) trodAll_mk0), rfl, bel.frame _, fun h => by cases h⟩

theorem over : Rows.fnExactArpBytesRow.holds Try.pinned (OpenSpec.ofChange Rows.fnExactArpBytesSpec) :=
  OpenClaim.holds_of_wide 6 Try.f6 rfl rfl rfl rfl rfl rfl rfl ⟨rfl, rfl, rfl, rfl, rfl⟩ rfl rfl rfl rfl rfl (by kernel_rfl) Try.func6 (by kernel_rfl)
    (of_decide_eq_true (by kernel_rfl)) (by unfold Func.isWrapper; first | (rw [if_pos (by decide +kernel)]; kernel_rfl) | (rw [if_neg (by decide +kernel)]; exact ⟨rfl, rfl⟩))
    (fun os started H enc _ => lifted os started H enc)

theorem proved : Rows.FnExactArpBytesSaid := over
end Go.Proofs.Ytcgdpijmfgkalaa.fnExactArpBytes
namespace Go.Proofs.Ytcgdpijmfgkalaa
theorem fnExactArpBytes_holds : Rows.FnExactArpBytesSaid := fnExactArpBytes.proved
#print axioms fnExactArpBytes_holds
end Go.Proofs.Ytcgdpijmfgkalaa
