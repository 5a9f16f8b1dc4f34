/- At every configuration, guests and time, ExpireSessions of the program answers the guests, the numbers of the ended sessions and the code that its specification answers, it writes into no argument, and its answer is memory of its own. -/
import Derived.Test.YtmeejholckelgaaGreatRows
import Derived.Test.YtmeejholckelgaaGreatE47
import Derived.Test.YtmeejholckelgaaGreatE32
import Derived.Test.YtmeejholckelgaaGreatOpenR
import Derived.WalkKit
import Derived.ProofKit
import Derived.OpenShut
import Derived.ShutString
import Derived.ChangeOld
import Derived.Below
namespace Go.Proofs.YtmeejholckelgaaGreat.fnExactExpireSessions
open Go.ChangeShapes Go.WideShapes Go.ChangeAt Go.RowKit
set_option linter.unusedVariables false

theorem own : ownKnob Tryz.prog.godebug = none := by kernel_rfl
theorem laidOut : laidOutB Tryz.prog = true := by kernel_rfl
theorem cells27 : Tryz.prog.cellsOf 27 = 8 := by kernel_rfl
theorem cells33 : Tryz.prog.cellsOf 33 = 5 := by kernel_rfl

theorem walk (ip0 b0 gt0 : Int) (gm0 wm0 : ByteArray) (rs0 : Int) (x0 y0 : Option Addr) (lenx0 capx0 leny0 capy0 : Nat) (ps0 : List PlaceV) (ros0 : List RoleV) (ua1 sa1 fa1 ra1 : Option Addr) (ul1 uc1 sl1 sc1 fl1 fc1 rl1 rc1 : Nat) (us1 : List UserV) (ss1 : List SessV) (fs1 : List FailV) (es1 : List RecV) (nx1 : Int) (a2 : Int) (w : World) (w0 : gm0.size ≤ maxLen ∧ wm0.size ≤ maxLen ∧ (ps0.length = lenx0 ∧ lenx0 ≤ capx0 ∧ capx0 ≤ maxLen ∧ Rw PlR 4 w x0 ps0) ∧ ros0.length = leny0 ∧ leny0 ≤ capy0 ∧ capy0 ≤ maxLen ∧ Rw (RoR 0) 5 w y0 ros0) (w1 : (us1.length = ul1 ∧ ul1 ≤ uc1 ∧ uc1 ≤ maxLen ∧ Rw UsR 6 w ua1 us1) ∧ (ss1.length = sl1 ∧ sl1 ≤ sc1 ∧ sc1 ≤ maxLen ∧ Rw SeR 10 w sa1 ss1) ∧ (fs1.length = fl1 ∧ fl1 ≤ fc1 ∧ fc1 ≤ maxLen ∧ Rw FaR 3 w fa1 fs1) ∧ (es1.length = rl1 ∧ rl1 ≤ rc1 ∧ rc1 ≤ maxLen ∧ Rw ReR 5 w ra1 es1) ∧ (Lit.int .i64 nx1).wf = true) (w2 : (Lit.int .i64 a2).wf = true) :
    Calls Tryz.prog 4 #[.agg #[.int .i64 ip0, .int .i64 b0, .int .i64 gt0, .string gm0, .string wm0, .int .i64 rs0, .slice x0 lenx0 capx0, .slice y0 leny0 capy0], .agg #[.slice ua1 ul1 uc1, .slice sa1 sl1 sc1, .slice fa1 fl1 fc1, .slice ra1 rl1 rc1, .int .i64 nx1], .int .i64 a2] w fun e w' => e = .returned (.bool true) ∧ Below w.heap.size w w' := by
  obtain ⟨hg, hw, ⟨rfl, h1, h2, h3⟩, rfl, h4, h5, h6⟩ := w0
  obtain ⟨⟨rfl, u1, u2, u3⟩, ⟨rfl, s1, s2, s3⟩, ⟨rfl, f1, f2, f3⟩, ⟨rfl, e1, e2, e3⟩, -⟩ := w1
  exact lawExpireSessions_any ⟨x0, y0, capx0, capy0⟩ ⟨ip0, b0, gt0, gm0, wm0, rs0, ps0, ros0⟩ ⟨ua1, sa1, fa1, ra1, uc1, sc1, fc1, rc1⟩ ⟨us1, ss1, fs1, es1, nx1⟩ a2 w ⟨h3, h6⟩ ⟨hg, hw, Nat.le_trans h1 h2, Nat.le_trans h4 h5⟩ ⟨u3, s3, f3, e3⟩ ⟨Nat.le_trans u1 u2, Nat.le_trans s1 s2, Nat.le_trans f1 f2, Nat.le_trans e1 e2⟩

set_option maxRecDepth 100000 in
theorem lifted (os : Os) (started : os.Started) (H : Type) (enc : TypeId × Value → H) :
    ReturnsInHanded {} Tryz.checked os 4 .any (Rows.fnExactExpireSessionsSpec.pre6 enc Tryz.prog Tryz.f4 Rows.fnExactExpireSessionsRow.domain false) (Rows.fnExactExpireSessionsSpec.post enc Tryz.prog Tryz.f4 false true false false) := by
  refine returnsInHanded_of_change (C := Tryz.checked) own started (by kernel_rfl) Tryz.func4
    (ChangeSpec.witness6 (enc := enc) (C := Tryz.checked) false ⟨#[], #[.agg #[.int .i64 0, .int .i64 0, .int .i64 0, .string ⟨#[]⟩, .string ⟨#[]⟩, .int .i64 0, .slice none 0 0, .slice none 0 0], .agg #[.slice none 0 0, .slice none 0 0, .slice none 0 0, .slice none 0 0, .int .i64 0], .int .i64 0], []⟩ 8 (by kernel_rfl) (by kernel_rfl) (by kernel_rfl) (by kernel_rfl)) ?_
  intro W base args ds gs before hval0 hW hcnd _
  have hval : ∀ (j : Nat) t v, Tryz.f4.params[j]? = some t → args[j]? = some v → Value.okWide Tryz.prog W .any base t v := hval0
  have hW' := hW
  obtain ⟨p, q, hA0, hV, rfl, hfz, hnd⟩ := hW
  have hA : DataW.TrodAll enc Tryz.prog W 0 (fun _ => true) true Tryz.f4.params.toList args.toList ds p := hA0
  rw [Tryz.params4] at hA hval
  obtain ⟨v0, vs0, d0, ds0, p0, q0, hargs, rfl, rfl, h0, r0⟩ := trodAll_cons hA
  obtain ⟨v1, vs1, d1, ds1, p1, q1, rfl, rfl, rfl, h1, r1⟩ := trodAll_cons r0
  obtain ⟨v2, vs2, d2, ds2, p2, q2, rfl, rfl, rfl, h2, r2⟩ := trodAll_cons r1
  obtain ⟨rfl, rfl, rfl⟩ := trodAll_nil r2
  obtain rfl : args = #[v0, v1, v2] := by cases args; simp_all
  obtain ⟨rfl, rfl⟩ := trodVars_none hV
  obtain ⟨cs0, rfl, hsz0⟩ := okWide_struct Tryz.underlying27 (hval 0 27 v0 rfl rfl)
  have k0 := h0
  have lt0 : ∀ x ∈ p0, x.block < W.heap.size := by obtain ⟨m, hm⟩ := k0; exact DataW.trod_lt m _ _ _ hm
  obtain ⟨fuel0, hf0⟩ := h0
  obtain ⟨ip0, b0, gt0, gm0, wm0, rs0, x0, y0, lenx0, capx0, leny0, capy0, ps0, ros0, q0, w0⟩ := open_config hf0
  obtain rfl : cs0 = #[.int .i64 ip0, .int .i64 b0, .int .i64 gt0, .string gm0, .string wm0, .int .i64 rs0, .slice x0 lenx0 capx0, .slice y0 leny0 capy0] := by
    obtain ⟨l0⟩ := cs0
    simpa [Value.cells, rv] using q0
  obtain ⟨cs1, rfl, hsz1⟩ := okWide_struct Tryz.underlying33 (hval 1 33 v1 rfl rfl)
  have k1 := h1
  have lt1 : ∀ x ∈ p1, x.block < W.heap.size := by obtain ⟨m, hm⟩ := k1; exact DataW.trod_lt m _ _ _ hm
  obtain ⟨fuel1, hf1⟩ := h1
  obtain ⟨ua1, sa1, fa1, ra1, ul1, uc1, sl1, sc1, fl1, fc1, rl1, rc1, us1, ss1, fs1, es1, nx1, q1, w1⟩ := open_guests hf1
  obtain rfl : cs1 = #[.slice ua1 ul1 uc1, .slice sa1 sl1 sc1, .slice fa1 fl1 fc1, .slice ra1 rl1 rc1, .int .i64 nx1] := by
    obtain ⟨l1⟩ := cs1
    simpa [Value.cells] using q1
  obtain ⟨a2, rfl⟩ := okWide_int Tryz.underlying3 (hval 2 3 v2 rfl rfl)
  have k2 := h2
  have lt2 : ∀ x ∈ p2, x.block < W.heap.size := by obtain ⟨m, hm⟩ := k2; exact DataW.trod_lt m _ _ _ hm
  have w2 : (Lit.int .i64 a2).wf = true := by
    obtain ⟨fuel, hf⟩ := h2
    obtain ⟨n, hn, _, hw⟩ := DataW.trod_int Tryz.underlying3 hf
    simp [Value.cells] at hn
    subst hn
    exact hw
  clear hA0 hval0
  refine (walk ip0 b0 gt0 gm0 wm0 rs0 x0 y0 lenx0 capx0 leny0 capy0 ps0 ros0 ua1 sa1 fa1 ra1 ul1 uc1 sl1 sc1 fl1 fc1 rl1 rc1 us1 ss1 fs1 es1 nx1 a2 W w0 w1 w2).mono fun e W' ⟨he, bel⟩ => ?_
  subst he
  exact ⟨_, rfl, _, _, _, [], _, [], hW', trodAll_mk1 (shut_bool Tryz.underlying4 _), (trodAll_cons_mk (Below.trod laidOut (by kernel_rfl) (of_decide_eq_true (by kernel_rfl)) k0 bel lt0) (trodAll_cons_mk (Below.trod laidOut (by kernel_rfl) (of_decide_eq_true (by kernel_rfl)) k1 bel lt1) (trodAll_cons_mk (Below.trod laidOut (by kernel_rfl) (of_decide_eq_true (by kernel_rfl)) k2 bel lt2) trodAll_mk0))), rfl, bel.frame _, fun h => by cases h⟩

theorem over : Rows.fnExactExpireSessionsRow.holds Tryz.pinned (OpenSpec.ofChange Rows.fnExactExpireSessionsSpec) :=
  OpenClaim.holds_of_wide 4 Tryz.f4 rfl rfl rfl rfl rfl rfl rfl ⟨rfl, rfl, rfl, rfl, rfl⟩ rfl rfl rfl rfl rfl (by kernel_rfl) Tryz.func4 (by kernel_rfl)
    (of_decide_eq_true (by kernel_rfl)) (by unfold Func.isWrapper; first | (rw [if_pos (by decide +kernel)]; kernel_rfl) | (rw [if_neg (by decide +kernel)]; exact ⟨rfl, rfl⟩))
    (fun os started H enc _ => lifted os started H enc)

theorem proved : Rows.FnExactExpireSessionsSaid := over
end Go.Proofs.YtmeejholckelgaaGreat.fnExactExpireSessions
namespace Go.Proofs.YtmeejholckelgaaGreat
theorem fnExactExpireSessions_holds : Rows.FnExactExpireSessionsSaid := fnExactExpireSessions.proved
#print axioms fnExactExpireSessions_holds
end Go.Proofs.YtmeejholckelgaaGreat
