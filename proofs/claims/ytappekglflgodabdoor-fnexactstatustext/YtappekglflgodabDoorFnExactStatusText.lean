/- For every guests, mac, address and time, laws.FnExactStatusText returns true, the listed tables being as the program text lays them: the program and the model answer alike, and no argument is changed. -/
import Derived.Test.YtappekglflgodabDoorRows
import Derived.Test.YtappekglflgodabDoorCards
import Derived.Test.YtappekglflgodabDoorTie
import Derived.Test.YtappekglflgodabDoorLawSt
import Derived.Test.YtappekglflgodabDoorTensLaid
import Derived.Test.YtappekglflgodabDoorOpenG
import Derived.WalkKit
import Derived.ProofKit
import Derived.OpenShut
import Derived.ShutString
import Derived.ChangeOld
import Derived.Below
import Derived.LaidMore
import Derived.OpenVars
import Derived.Stop.Joined
import Derived.SevenTiedAt
namespace Go.Proofs.YtappekglflgodabDoor.fnExactStatusText
open Go.ChangeShapes Go.WideShapes Go.ChangeAt Go.RowKit Go.WideElems
set_option linter.unusedVariables false

theorem own : ownKnob Tryd.prog.godebug = none := by kernel_rfl
theorem laidOut : laidOutB Tryd.prog = true := by kernel_rfl
theorem cells27 : Tryd.prog.cellsOf 27 = 5 := by kernel_rfl

theorem walk (ua0 sa0 fa0 ra0 : Option Addr) (ul0 uc0 sl0 sc0 fl0 fc0 rl0 rc0 : Nat) (us0 : List UserV) (ss0 : List SessV) (fs0 : List FailV) (es0 : List RecV) (nx0 : Int) (a1 : ByteArray) (a2 : Int) (a3 : Int) (w : World) (w0 : (us0.length = ul0 ∧ ul0 ≤ uc0 ∧ uc0 ≤ maxLen ∧ Rw UsR 6 w ua0 us0) ∧ (ss0.length = sl0 ∧ sl0 ≤ sc0 ∧ sc0 ≤ maxLen ∧ Rw SeR 10 w sa0 ss0) ∧ (fs0.length = fl0 ∧ fl0 ≤ fc0 ∧ fc0 ≤ maxLen ∧ Rw FaR 3 w fa0 fs0) ∧ (es0.length = rl0 ∧ rl0 ≤ rc0 ∧ rc0 ≤ maxLen ∧ Rw ReR 5 w ra0 es0) ∧ (Lit.int .i64 nx0).wf = true) (w1 : a1.size ≤ maxLen) (w2 : (Lit.int .i64 a2).wf = true) (w3 : (Lit.int .i64 a3).wf = true) (hL : laidMetH Tryd.prog Rows.fnExactStatusTextRow.laid w) :
    Calls Tryd.prog 3 #[.agg #[.slice ua0 ul0 uc0, .slice sa0 sl0 sc0, .slice fa0 fl0 fc0, .slice ra0 rl0 rc0, .int .i64 nx0], .string a1, .int .i64 a2, .int .i64 a3] w fun e w' => e = .returned (.bool true) ∧ Below w.heap.size w w' := by
  unfold maxLen at w0
  exact lawStatusText_any ua0 sa0 fa0 ra0 ul0 uc0 sl0 sc0 fl0 fc0 rl0 rc0 us0 ss0 fs0 es0 nx0 a1 a2 a3 w w0.1.2.2.2 w0.1.1 w0.2.1.2.2.2 w0.2.1.1 w0.2.2.1.2.2.2 w0.2.2.1.1 w0.2.2.2.1.2.2.2 w0.2.2.2.1.1 (by have := w0.1.2.1; have := w0.1.2.2.1; omega) (by have := w0.2.1.2.1; have := w0.2.1.2.2.1; omega) (by have := w0.2.2.1.2.1; have := w0.2.2.1.2.2.1; omega) (by have := w0.2.2.2.1.2.1; have := w0.2.2.2.1.2.2.1; omega) w1 (tens_of_laid hL)

set_option maxRecDepth 100000 in
theorem door_met (os : Os) (args : Array Value) : laidMetH Tryd.prog Rows.fnExactStatusTextRow.laid ((World.doorLaid Tryd.prog 24 os).forCall (fun _ _ => 0) ⟨#[], args, []⟩).memory :=
  laidMetH_of_parts3 (fuel := 8) (laidMet_of_run' 8 (by kernel_rfl) (by kernel_rfl)) (by kernel_rfl) (by kernel_rfl)

set_option maxRecDepth 100000 in
theorem lifted (os : Os) (started : os.Started) (H : Type) (enc : TypeId × Value → H) :
    ReturnsInHanded {} Tryd.checked os 3 .any (fun w args => (Rows.fnExactStatusTextSpec.pre enc Tryd.prog Tryd.f3 [] false w args ∧ laidMetH Tryd.prog Rows.fnExactStatusTextRow.laid w) ∧ sizedMet enc Tryd.prog Tryd.f3 (OpenSpec.ofChange Rows.fnExactStatusTextSpec) false w args)
      (Rows.fnExactStatusTextSpec.post enc Tryd.prog Tryd.f3 false true false false) := by
  refine returnsInHanded_of_change_and (C := Tryd.checked) (X := fun w _ => laidMetH Tryd.prog Rows.fnExactStatusTextRow.laid w) (fun _ _ _ hh h => h.of_heap hh) own started (by kernel_rfl) Tryd.func3
    (ChangeSpec.witness_shaped (enc := enc) (C := Tryd.checked) (os := os) (X := fun w _ => laidMetH Tryd.prog Rows.fnExactStatusTextRow.laid w) false (World.doorLaid Tryd.prog 24 os) #[.agg #[.slice none 0 0, .slice none 0 0, .slice none 0 0, .slice none 0 0, .int .i64 0], .string ⟨#[]⟩, .int .i64 0, .int .i64 0] 8 rfl (World.shaped_of_RefB (by kernel_rfl) (by kernel_rfl)) (by kernel_rfl) (by kernel_rfl) (by kernel_rfl) (door_met os _)) ?_
  intro W base args ds gs before hval0 hW _ _ hL _
  have hval : ∀ (j : Nat) t v, Tryd.f3.params[j]? = some t → args[j]? = some v → Value.okWide Tryd.prog W .any base t v := hval0
  have hW' := hW
  obtain ⟨p, q, hA0, hV, rfl, hfz, hnd⟩ := hW
  have hA : DataW.TrodAll enc Tryd.prog W 0 (fun _ => true) true Tryd.f3.params.toList args.toList ds p := hA0
  rw [Tryd.params3] at hA hval
  obtain ⟨v0, vs0, d0, ds0, p0, q0, hargs, rfl, rfl, h0, r0⟩ := trodAll_cons hA
  obtain ⟨v1, vs1, d1, ds1, p1, q1, rfl, rfl, rfl, h1, r1⟩ := trodAll_cons r0
  obtain ⟨v2, vs2, d2, ds2, p2, q2, rfl, rfl, rfl, h2, r2⟩ := trodAll_cons r1
  obtain ⟨v3, vs3, d3, ds3, p3, q3, rfl, rfl, rfl, h3, r3⟩ := trodAll_cons r2
  obtain ⟨rfl, rfl, rfl⟩ := trodAll_nil r3
  obtain rfl : args = #[v0, v1, v2, v3] := by cases args; simp_all
  obtain ⟨rfl, rfl⟩ := trodVars_none hV
  obtain ⟨cs0, rfl, hsz0⟩ := okWide_struct Tryd.underlying27 (hval 0 27 v0 rfl rfl)
  have k0 := h0
  have lt0 : ∀ x ∈ p0, x.block < W.heap.size := by obtain ⟨m, hm⟩ := k0; exact DataW.trod_lt m _ _ _ hm
  obtain ⟨fuel0, hf0⟩ := h0
  obtain ⟨ua0, sa0, fa0, ra0, ul0, uc0, sl0, sc0, fl0, fc0, rl0, rc0, us0, ss0, fs0, es0, nx0, q0, w0⟩ := open_guests hf0
  obtain rfl : cs0 = #[.slice ua0 ul0 uc0, .slice sa0 sl0 sc0, .slice fa0 fl0 fc0, .slice ra0 rl0 rc0, .int .i64 nx0] := by
    obtain ⟨l0⟩ := cs0
    simpa [Value.cells] using q0
  obtain ⟨a1, rfl⟩ := okWide_string Tryd.underlying9 (hval 1 9 v1 rfl rfl)
  have k1 := h1
  have lt1 : ∀ x ∈ p1, x.block < W.heap.size := by obtain ⟨m, hm⟩ := k1; exact DataW.trod_lt m _ _ _ hm
  have w1 : a1.size ≤ maxLen := by
    obtain ⟨fuel, hf⟩ := h1
    obtain ⟨n, hn, _, hw⟩ := DataW.trod_string Tryd.underlying9 hf
    simp [Value.cells] at hn
    subst hn
    exact hw
  obtain ⟨a2, rfl⟩ := okWide_int Tryd.underlying3 (hval 2 3 v2 rfl rfl)
  have k2 := h2
  have lt2 : ∀ x ∈ p2, x.block < W.heap.size := by obtain ⟨m, hm⟩ := k2; exact DataW.trod_lt m _ _ _ hm
  have w2 : (Lit.int .i64 a2).wf = true := by
    obtain ⟨fuel, hf⟩ := h2
    obtain ⟨n, hn, _, hw⟩ := DataW.trod_int Tryd.underlying3 hf
    simp [Value.cells] at hn
    subst hn
    exact hw
  obtain ⟨a3, rfl⟩ := okWide_int Tryd.underlying3 (hval 3 3 v3 rfl rfl)
  have k3 := h3
  have lt3 : ∀ x ∈ p3, x.block < W.heap.size := by obtain ⟨m, hm⟩ := k3; exact DataW.trod_lt m _ _ _ hm
  have w3 : (Lit.int .i64 a3).wf = true := by
    obtain ⟨fuel, hf⟩ := h3
    obtain ⟨n, hn, _, hw⟩ := DataW.trod_int Tryd.underlying3 hf
    simp [Value.cells] at hn
    subst hn
    exact hw
  clear hA0 hval0
  refine (walk ua0 sa0 fa0 ra0 ul0 uc0 sl0 sc0 fl0 fc0 rl0 rc0 us0 ss0 fs0 es0 nx0 a1 a2 a3 W w0 w1 w2 w3 hL).mono fun e W' ⟨he, hg⟩ => ?_
  subst he
  exact ⟨_, rfl, _, _, _, [], _, _, hW', trodAll_mk1 (shut_bool Tryd.underlying4 _), (trodAll_cons_mk (Below.trod laidOut (by kernel_rfl) (of_decide_eq_true (by kernel_rfl)) k0 hg lt0) (trodAll_cons_mk (Below.trod laidOut (by kernel_rfl) (of_decide_eq_true (by kernel_rfl)) k1 hg lt1) (trodAll_cons_mk (Below.trod laidOut (by kernel_rfl) (of_decide_eq_true (by kernel_rfl)) k2 hg lt2) (trodAll_cons_mk (Below.trod laidOut (by kernel_rfl) (of_decide_eq_true (by kernel_rfl)) k3 hg lt3) trodAll_mk0)))), rfl, hg.frame _, fun h => by cases h⟩

theorem over : Rows.fnExactStatusTextRow.holds Tryd.pinned (OpenSpec.ofChange Rows.fnExactStatusTextSpec) :=
  OpenClaim.holds_of_wide 3 Tryd.f3 rfl rfl rfl rfl rfl rfl rfl ⟨rfl, rfl, rfl, rfl, rfl⟩ rfl rfl rfl rfl rfl (by kernel_rfl) Tryd.func3 (by kernel_rfl)
    (of_decide_eq_true (by kernel_rfl)) (by unfold Func.isWrapper; first | (rw [if_pos (by decide +kernel)]; kernel_rfl) | (rw [if_neg (by decide +kernel)]; exact ⟨rfl, rfl⟩))
    (fun os started H enc _ => lifted os started H enc)

theorem proved : Rows.FnExactStatusTextSaid := over
theorem plain (f : FuncId) (fn : Func) (hf : Tryd.pinned.checked.prog.funcNamed "loop.example/g00356/laws.FnExactStatusText" = some f) (hfn : Tryd.pinned.checked.prog.funcs[f]? = some fn) :
    false = Tryd.pinned.checked.prog.looks [] ∧ ∀ (j : Nat) t, fn.params[j]? = some t → Tryd.pinned.checked.prog.wantsStandIn t = false := by
  obtain rfl : f = 3 := Option.some.inj ((show Tryd.prog.funcNamed "loop.example/g00356/laws.FnExactStatusText" = some 3 by kernel_rfl).symm.trans hf) |>.symm
  obtain rfl : fn = Tryd.f3 := (Option.some.inj (Tryd.func3.symm.trans hfn)).symm
  refine ⟨by kernel_rfl, fun j t ht => ?_⟩
  rw [Tryd.params3] at ht
  have hm : t ∈ [27, 9, 3, 3] := by simpa using Array.mem_of_getElem? ht
  have hall : ([27, 9, 3, 3].all fun u => !Tryd.prog.wantsStandIn u) = true := by kernel_rfl
  exact (show Tryd.prog.wantsStandIn t = false by simpa using List.all_eq_true.1 hall t hm)

theorem card : Rows.FnExactStatusTextCardSaid :=
  Claim7.holds_tied_plain_at .later [] _ _ _ _ proved (fun _ h => by cases h) (by kernel_rfl) (fun _ h => by cases h) fnExactStatusText_row_tie rfl ⟨rfl, rfl⟩ (by kernel_rfl) rfl plain (by kernel_rfl)
end Go.Proofs.YtappekglflgodabDoor.fnExactStatusText
namespace Go.Proofs.YtappekglflgodabDoor
theorem fnExactStatusText_holds : Rows.FnExactStatusTextCardSaid := fnExactStatusText.card
#print axioms fnExactStatusText_holds
end Go.Proofs.YtappekglflgodabDoor
