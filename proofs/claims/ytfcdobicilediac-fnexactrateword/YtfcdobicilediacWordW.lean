/- Words, the walks of the program's side: wordOK, valueOf, classOf, compareWords. -/
import Derived.Test.YtfcdobicilediacWordO
import Derived.Test.YtfcdobicilediacGrw
import Derived.Test.YtfcdobicilediacBits
import Derived.Test.YtfcdobicilediacTests
import Derived.Deep.RegionHeld3
import Derived.Laws.Externs
namespace Go.Proofs.Ytfcdobicilediac
open Go.RowKit Go.PlainAid Go.Proofs.Ytfcdobicilediac.Bt Go.Proofs.Ytfcdobicilediac.Fo Go.Sort
set_option linter.unusedVariables false
set_option maxRecDepth 20000

theorem wordOK_any (h l : Int) (w : World) : Calls Try.prog 10 #[.agg #[.int .i64 h, .int .i64 l]] w fun e w' => e = .returned (.bool (dec (okW h l))) ∧ Grw w w' := by
  by_cases h0 : 0 ≤ h
  rotate_left
  · have b0 : decide (0 ≤ h) = false := decide_eq_false h0
    rw [dec_n (p := okW h l) (fun hw => h0 hw.1)]
    go_enter Try.func10, Try.ntmps10
    go_wp2
    go_ret
    exact ⟨rfl, (Grw.refl _).alloc _⟩
  by_cases h1 : h ≤ 4294967295
  rotate_left
  · have b1 : decide (h ≤ 4294967295) = false := decide_eq_false h1
    rw [dec_n (p := okW h l) (fun hw => h1 hw.2.1)]
    go_enter Try.func10, Try.ntmps10
    go_wp2
    go_ret
    exact ⟨rfl, (Grw.refl _).alloc _⟩
  by_cases h2 : 0 ≤ l
  rotate_left
  · have b2 : decide (0 ≤ l) = false := decide_eq_false h2
    rw [dec_n (p := okW h l) (fun hw => h2 hw.2.2.1)]
    go_enter Try.func10, Try.ntmps10
    go_wp2
    go_ret
    exact ⟨rfl, (Grw.refl _).alloc _⟩
  by_cases h3 : l ≤ 4294967295
  rotate_left
  · have b3 : decide (l ≤ 4294967295) = false := decide_eq_false h3
    rw [dec_n (p := okW h l) (fun hw => h3 hw.2.2.2)]
    go_enter Try.func10, Try.ntmps10
    go_wp2
    go_ret
    exact ⟨rfl, (Grw.refl _).alloc _⟩
  · have b3 : decide (l ≤ 4294967295) = true := decide_eq_true h3
    rw [dec_y (p := okW h l) ⟨h0, h1, h2, h3⟩]
    go_enter Try.func10, Try.ntmps10
    go_wp2
    go_ret
    exact ⟨rfl, (Grw.refl _).alloc _⟩

theorem frombits_run (n : Nat) (w : World) : (callFunc 17 #[.int .u64 (n : Int)]).run Try.prog w = .ok (.value (.float .f64 n)) w := by
  rw [run_callFunc_extern (e := Extern.MathFloatBits.float64frombits) Try.func17 (by kernel_rfl) (by kernel_rfl) (by kernel_rfl) (by kernel_rfl)]
  rfl
theorem tobits_run (n : Nat) (w : World) : (callFunc 21 #[.float .f64 n]).run Try.prog w = .ok (.value (.int .u64 (n : Int))) w := by
  rw [run_callFunc_extern (e := Extern.MathFloatBits.float64bits) Try.func21 (by kernel_rfl) (by kernel_rfl) (by kernel_rfl) (by kernel_rfl)]
  rfl
theorem signbit_any (b : Nat) (hb : b < 2 ^ 64) (w : World) : Calls Try.prog 18 #[.float .f64 b] w fun e w' => e = .returned (.bool (sg b)) ∧ w' = w := by
  have ht := fun w => tobits_run b w
  go_enter Try.func18, Try.ntmps18
  go_wp2
  go_ret
  refine ⟨congrArg (fun b => Ending.returned (.bool b)) ?_, rfl⟩
  unfold wrap64 sg
  by_cases h : b < 2 ^ 63
  · rw [show b / 2 ^ 63 = 0 by omega, decide_eq_false (by omega)]; rfl
  · rw [show b / 2 ^ 63 = 1 by omega, decide_eq_true (by omega)]; rfl
theorem isInf_up (b : Nat) (w : World) : Calls Try.prog 19 #[.float .f64 b, .int .i64 1] w fun e w' => e = .returned (.bool (dec (rI b = topI ∧ sg b = false))) ∧ w' = w := by
  have hm := f_max b
  obtain ⟨q, hq⟩ : ∃ q, q = dec (rI b = topI ∧ sg b = false) := ⟨_, rfl⟩
  rw [← hq]
  rw [show decide (rI b = topI ∧ sg b = false) = q from hq.symm] at hm
  clear hq
  go_enter Try.func19, Try.ntmps19
  go_wp2
  go_ret
  exact ⟨congrArg (fun b => Ending.returned (.bool b)) (by first | rfl | exact hm), rfl⟩
theorem isInf_down (b : Nat) (hb : b < 2 ^ 64) (w : World) : Calls Try.prog 19 #[.float .f64 b, .int .i64 (-1)] w fun e w' => e = .returned (.bool (dec (rI b = topI ∧ sg b = true))) ∧ w' = w := by
  obtain ⟨n1, n2⟩ := neg_of b hb
  have hm := f_max (Op.negFloat .f64 b)
  rw [n1, n2] at hm
  have hd : decide (rI b = topI ∧ (!sg b) = false) = dec (rI b = topI ∧ sg b = true) := by
    apply decide_eq_decide.2
    cases sg b <;> simp
  obtain ⟨q, hq⟩ : ∃ q, q = dec (rI b = topI ∧ sg b = true) := ⟨_, rfl⟩
  rw [hd, ← hq] at hm
  rw [← hq]
  clear n1 n2 hd hq
  have hn : ∀ w, (Op.unary .neg (.float .f64 b)).run Try.prog w = .ok (.float .f64 (Op.negFloat .f64 b)) w := fun _ => rfl
  generalize Op.negFloat .f64 b = c at hn hm
  go_enter Try.func19, Try.ntmps19
  go_wp2
  go_ret
  exact ⟨congrArg (fun b => Ending.returned (.bool b)) (by first | rfl | exact hm), rfl⟩

theorem classOf_any (b : Nat) (hb : b < 2 ^ 64) (w : World) : Calls Try.prog 12 #[.float .f64 b] w fun e w' => e = .returned (.int .i64 (clx (rI b) (sg b))) ∧ w' = w := by
  have HS : Hid (∀ w, Calls Try.prog 18 #[.float .f64 b] w fun e w' => e = .returned (.bool (sg b)) ∧ w' = w) := fun w => signbit_any b hb w
  have HD : Hid (∀ w, Calls Try.prog 19 #[.float .f64 b, .int .i64 (-1)] w fun e w' => e = .returned (.bool (dec (rI b = topI ∧ sg b = true))) ∧ w' = w) := fun w => isInf_down b hb w
  have HU : Hid (∀ w, Calls Try.prog 19 #[.float .f64 b, .int .i64 1] w fun e w' => e = .returned (.bool (dec (rI b = topI ∧ sg b = false))) ∧ w' = w) := fun w => isInf_up b w
  have h0 := f_nan b
  have h1 := f_eq0 b
  have h2 := f_lt0 b
  have hnn := rI_nn b
  by_cases c0 : topI < rI b
  · rw [decide_eq_true c0] at h0
    have e : clx (rI b) (sg b) = 0 := if_pos c0
    rw [e]
    clear e h1 h2 hnn c0 HS HD HU
    go_enter Try.func12, Try.ntmps12
    go_wp2
    go_ret
    exact ⟨rfl, rfl⟩
  rw [decide_eq_false c0] at h0
  by_cases c1 : rI b = 0
  · rw [decide_eq_true c1] at h1
    have ht : ¬ (rI b = topI) := by rw [c1]; decide
    cases hs : sg b
    · have e : clx (rI b) false = 4 := by unfold clx; rw [if_neg c0, if_neg ht, if_pos c1]; rfl
      rw [e]
      rw [hs] at HS
      clear e h2 hnn c0 c1 ht HD HU hs
      go_enter Try.func12, Try.ntmps12
      go_wp2_with fail
      refine (HS.out _).mono ?_
      rintro e w1 ⟨rfl, hw⟩
      subst hw
      go_wp2
      go_ret
      exact ⟨rfl, rfl⟩
    · have e : clx (rI b) true = 3 := by unfold clx; rw [if_neg c0, if_neg ht, if_pos c1]; rfl
      rw [e]
      rw [hs] at HS
      clear e h2 hnn c0 c1 ht HD HU hs
      go_enter Try.func12, Try.ntmps12
      go_wp2_with fail
      refine (HS.out _).mono ?_
      rintro e w1 ⟨rfl, hw⟩
      subst hw
      go_wp2
      go_ret
      exact ⟨rfl, rfl⟩
  rw [decide_eq_false c1] at h1
  clear HS
  by_cases c2 : rI b = topI ∧ sg b = true
  · have e : clx (rI b) (sg b) = 1 := by unfold clx; rw [if_neg c0, if_pos c2.1, c2.2]; rfl
    rw [e]
    rw [dec_y c2] at HD
    clear e h2 hnn c0 c1 c2 HU
    go_enter Try.func12, Try.ntmps12
    go_wp2_with fail
    refine (HD.out _).mono ?_
    rintro e w1 ⟨rfl, hw⟩
    subst hw
    go_wp2
    go_ret
    exact ⟨rfl, rfl⟩
  rw [dec_n c2] at HD
  by_cases c3 : rI b = topI ∧ sg b = false
  · have e : clx (rI b) (sg b) = 6 := by unfold clx; rw [if_neg c0, if_pos c3.1, c3.2]; rfl
    rw [e]
    rw [dec_y c3] at HU
    clear e h2 hnn c0 c1 c2 c3
    go_enter Try.func12, Try.ntmps12
    go_wp2_with fail
    refine (HD.out _).mono ?_
    rintro e w1 ⟨rfl, hw⟩
    subst hw
    go_wp2_with fail
    refine (HU.out _).mono ?_
    rintro e w1 ⟨rfl, hw⟩
    subst hw
    go_wp2
    go_ret
    exact ⟨rfl, rfl⟩
  rw [dec_n c3] at HU
  have ht : ¬ (rI b = topI) := fun h => by cases hs : sg b <;> simp_all
  cases hs : sg b
  · have e : clx (rI b) false = 5 := by unfold clx; rw [if_neg c0, if_neg ht, if_neg c1]; rfl
    rw [e]
    rw [decide_eq_false (by rw [hs]; simp)] at h2
    clear e hnn c0 c1 c2 c3 ht hs
    go_enter Try.func12, Try.ntmps12
    go_wp2_with fail
    refine (HD.out _).mono ?_
    rintro e w1 ⟨rfl, hw⟩
    subst hw
    go_wp2_with fail
    refine (HU.out _).mono ?_
    rintro e w1 ⟨rfl, hw⟩
    subst hw
    go_wp2
    go_ret
    exact ⟨rfl, rfl⟩
  · have e : clx (rI b) true = 2 := by unfold clx; rw [if_neg c0, if_neg ht, if_neg c1]; rfl
    rw [e]
    rw [decide_eq_true ⟨by omega, c1, hs⟩] at h2
    clear e hnn c0 c1 c2 c3 ht hs
    go_enter Try.func12, Try.ntmps12
    go_wp2_with fail
    refine (HD.out _).mono ?_
    rintro e w1 ⟨rfl, hw⟩
    subst hw
    go_wp2_with fail
    refine (HU.out _).mono ?_
    rintro e w1 ⟨rfl, hw⟩
    subst hw
    go_wp2
    go_ret
    exact ⟨rfl, rfl⟩

theorem ofInt_u64 (a : Nat) (ha : a < 18446744073709551616) : (BitVec.ofInt 64 (a : Int)).toNat = a := by
  rw [BitVec.ofInt_natCast, BitVec.toNat_ofNat]; exact Nat.mod_eq_of_lt (by omega)
theorem or_word (h l : Int) (hw : okW h l) : bits .or .u64 (h * 4294967296) l = ((bW h l : Nat) : Int) := by
  obtain ⟨h0, h1, h2, h3⟩ := hw
  obtain ⟨a, rfl⟩ := Int.eq_ofNat_of_zero_le h0
  obtain ⟨b, rfl⟩ := Int.eq_ofNat_of_zero_le h2
  have e : ((a : Int) * 4294967296) = ((a * 4294967296 : Nat) : Int) := by omega
  rw [e]
  have hx : a * 4294967296 ||| b = a * 4294967296 + b := by
    have := Nat.two_pow_add_eq_or_of_lt (i := 32) (b := b) (by omega) a
    rw [Nat.mul_comm]
    exact this.symm
  show IntKind.u64.wrap ((BitVec.ofInt 64 ((a * 4294967296 : Nat) : Int) ||| BitVec.ofInt 64 (b : Int)).toNat : Int) = _
  rw [BitVec.toNat_or, ofInt_u64 _ (by omega), ofInt_u64 b (by omega), hx]
  unfold bW
  rw [IntKind.wrap_u64]
  omega
theorem valueOf_any (h l : Int) (hw : okW h l) (w : World) : Calls Try.prog 11 #[.agg #[.int .i64 h, .int .i64 l]] w fun e w' => e = .returned (.float .f64 (bW h l)) ∧ Grw w w' := by
  have hf := fun w => frombits_run (bW h l) w
  have ho := or_word h l hw
  generalize bW h l = b at hf ho ⊢
  obtain ⟨h0, h1, h2, h3⟩ := hw
  go_enter Try.func11, Try.ntmps11
  go_wp2
  go_ret
  exact ⟨rfl, (Grw.refl _).alloc _⟩

end Go.Proofs.Ytfcdobicilediac
