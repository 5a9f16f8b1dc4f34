/- The place of the first one that fits, as pure words. guestsFault of the program and l08Ask of the model. -/
import Derived.Test.YtmeejholckelgaaGreatGokF
import Derived.Test.YtmeejholckelgaaGreatE36
import Derived.Test.YtmeejholckelgaaGreatE37
import Derived.Test.YtmeejholckelgaaGreatSmallA
namespace Go.Proofs.YtmeejholckelgaaGreat
open Go.RowKit Go.PlainAid Go.Proofs.YtmeejholckelgaaGreat.Bt Go.Sort
set_option linter.unusedVariables false
set_option maxRecDepth 20000
section
variable {V : Type} {p : V → Bool} {xs : List V} {k : Nat} {x : V}
end
end Go.Proofs.YtmeejholckelgaaGreat

namespace Go.Proofs.YtmeejholckelgaaGreat
open Go.RowKit Go.PlainAid Go.Proofs.YtmeejholckelgaaGreat.Bt Go.Sort
set_option linter.unusedVariables false
set_option maxRecDepth 20000
/-- The code of what all calls with a time ask. -/
def fau2 (z d : Bool) : Int := match z, d with | false, _ => 1 | true, true => 0 | true, false => 4
noncomputable def fauC (z : Bool) (now : Int) : Int := fau2 z (dec (0 ≤ now ∧ now ≤ 100000))
set_option maxHeartbeats 4000000 in
theorem guestsFault_any (ip b gt : Int) (gm wm : ByteArray) (rv : Int) (x y : Option Addr) (lenx capx leny capy : Nat) (ua sa fa ra : Option Addr) (ul uc sl sc fl fc rl rc : Nat) (nx now : Int) (z : Bool) (w : World) (hg : ∀ wx, Below w.heap.size w wx → Calls Tryz.prog 81 #[.agg #[.int .i64 ip, .int .i64 b, .int .i64 gt, .string gm, .string wm, .int .i64 rv, .slice x lenx capx, .slice y leny capy], .agg #[.slice ua ul uc, .slice sa sl sc, .slice fa fl fc, .slice ra rl rc, .int .i64 nx]] wx fun e w' => e = .returned (.bool z) ∧ Below wx.heap.size wx w') :
    Calls Tryz.prog 42 #[.agg #[.int .i64 ip, .int .i64 b, .int .i64 gt, .string gm, .string wm, .int .i64 rv, .slice x lenx capx, .slice y leny capy], .agg #[.slice ua ul uc, .slice sa sl sc, .slice fa fl fc, .slice ra rl rc, .int .i64 nx], .int .i64 now] w fun e w' => e = .returned (.int .i64 (fauC z now)) ∧ Below w.heap.size w w' := by
  have HG : Hid (∀ wx, Below w.heap.size w wx → Calls Tryz.prog 81 #[.agg #[.int .i64 ip, .int .i64 b, .int .i64 gt, .string gm, .string wm, .int .i64 rv, .slice x lenx capx, .slice y leny capy], .agg #[.slice ua ul uc, .slice sa sl sc, .slice fa fl fc, .slice ra rl rc, .int .i64 nx]] wx fun e w' => e = .returned (.bool z) ∧ Below wx.heap.size wx w') := hg
  clear hg
  have C0 : Bx ((w.alloc (.cells #[.int .i64 ip, .int .i64 b, .int .i64 gt, .string gm, .string wm, .int .i64 rv, .slice x lenx capx, .slice y leny capy] 48)).alloc (.cells #[.slice ua ul uc, .slice sa sl sc, .slice fa fl fc, .slice ra rl rc, .int .i64 nx] 41)) w.heap.size [.int .i64 ip, .int .i64 b, .int .i64 gt, .string gm, .string wm, .int .i64 rv, .slice x lenx capx, .slice y leny capy] := ((Bo.new w #[.int .i64 ip, .int .i64 b, .int .i64 gt, .string gm, .string wm, .int .i64 rv, .slice x lenx capx, .slice y leny capy] 48).below ((Below.refl _ _).alloc (Nat.le_refl _) _)).bx
  have G0 : Bx ((w.alloc (.cells #[.int .i64 ip, .int .i64 b, .int .i64 gt, .string gm, .string wm, .int .i64 rv, .slice x lenx capx, .slice y leny capy] 48)).alloc (.cells #[.slice ua ul uc, .slice sa sl sc, .slice fa fl fc, .slice ra rl rc, .int .i64 nx] 41)) (w.heap.size + 1) [.slice ua ul uc, .slice sa sl sc, .slice fa fl fc, .slice ra rl rc, .int .i64 nx] := by
    have h := (Bo.new (w.alloc (.cells #[.int .i64 ip, .int .i64 b, .int .i64 gt, .string gm, .string wm, .int .i64 rv, .slice x lenx capx, .slice y leny capy] 48)) #[.slice ua ul uc, .slice sa sl sc, .slice fa fl fc, .slice ra rl rc, .int .i64 nx] 41).bx
    rw [World.size_alloc] at h
    exact h
  have B0 : Hid (Below w.heap.size w ((w.alloc (.cells #[.int .i64 ip, .int .i64 b, .int .i64 gt, .string gm, .string wm, .int .i64 rv, .slice x lenx capx, .slice y leny capy] 48)).alloc (.cells #[.slice ua ul uc, .slice sa sl sc, .slice fa fl fc, .slice ra rl rc, .int .i64 nx] 41))) := ((Below.refl _ _).alloc (Nat.le_refl _) _).alloc (by simp) _
  have TM : Hid (∀ w, Calls Tryz.prog 82 #[.int .i64 now] w fun e w' => e = .returned (.bool (dec (0 ≤ now ∧ now ≤ 100000))) ∧ w' = w) := fun w => timeOK_any now w
  rw [show fauC z now = fau2 z (dec (0 ≤ now ∧ now ≤ 100000)) from rfl]
  generalize dec (0 ≤ now ∧ now ≤ 100000) = d at TM ⊢
  go_enter Tryz.func42, Tryz.ntmps42
  go_wp2_with (first | (refine wpl_getT 48 rfl _ rfl _ rfl C0 _ Tryz.underlying48 rfl rfl ?_) | (refine wpl_getT 41 rfl _ rfl _ rfl G0 _ Tryz.underlying41 rfl rfl ?_) | fail)
  refine (HG.out _ B0.out).mono ?_
  rintro e w1 ⟨rfl, b1⟩
  have B1 : Hid (Below w.heap.size w w1) := B0.out.trans (b1.mono B0.out.size)
  clear b1 B0 C0 G0 HG
  cases z with
  | false =>
    go_wp2
    go_ret
    exact ⟨rfl, B1.out⟩
  | true =>
    go_wp2_with fail
    refine (TM.out _).mono ?_
    rintro e w2 ⟨rfl, rfl⟩
    cases d with
    | false =>
      go_wp2
      go_ret
      exact ⟨rfl, B1.out⟩
    | true =>
      go_wp2
      go_ret
      exact ⟨rfl, B1.out⟩
end Go.Proofs.YtmeejholckelgaaGreat
