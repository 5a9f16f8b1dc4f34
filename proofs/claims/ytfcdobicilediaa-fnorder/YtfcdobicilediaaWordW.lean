/- Words, the walks of the program's side: wordOK, valueOf, classOf, compareWords. -/
import Derived.Test.YtfcdobicilediaaWordO
import Derived.Test.YtfcdobicilediaaGrw
import Derived.Test.YtfcdobicilediaaBits
import Derived.Test.YtfcdobicilediaaTests
import Derived.Deep.RegionHeld3
import Derived.Laws.Externs
namespace Go.Proofs.Ytfcdobicilediaa
open Go.RowKit Go.PlainAid Go.Proofs.Ytfcdobicilediaa.Bt Go.Proofs.Ytfcdobicilediaa.Fo Go.Sort
set_option linter.unusedVariables false
set_option maxRecDepth 20000

theorem wordOK_any (h l : Int) (w : World) : Calls Try.prog 53 #[.agg #[.int .i64 h, .int .i64 l]] w fun e w' => e = .returned (.bool (dec (okW h l))) ∧ Grw w w' := by
  by_cases h0 : 0 ≤ h
  rotate_left
  · have b0 : decide (0 ≤ h) = false := decide_eq_false h0
    rw [dec_n (p := okW h l) (fun hw => h0 hw.1)]
    go_enter Try.func53, Try.ntmps53
    go_wp2
    go_ret
    exact ⟨rfl, (Grw.refl _).alloc _⟩
  by_cases h1 : h ≤ 4294967295
  rotate_left
  · have b1 : decide (h ≤ 4294967295) = false := decide_eq_false h1
    rw [dec_n (p := okW h l) (fun hw => h1 hw.2.1)]
    go_enter Try.func53, Try.ntmps53
    go_wp2
    go_ret
    exact ⟨rfl, (Grw.refl _).alloc _⟩
  by_cases h2 : 0 ≤ l
  rotate_left
  · have b2 : decide (0 ≤ l) = false := decide_eq_false h2
    rw [dec_n (p := okW h l) (fun hw => h2 hw.2.2.1)]
    go_enter Try.func53, Try.ntmps53
    go_wp2
    go_ret
    exact ⟨rfl, (Grw.refl _).alloc _⟩
  by_cases h3 : l ≤ 4294967295
  rotate_left
  · have b3 : decide (l ≤ 4294967295) = false := decide_eq_false h3
    rw [dec_n (p := okW h l) (fun hw => h3 hw.2.2.2)]
    go_enter Try.func53, Try.ntmps53
    go_wp2
    go_ret
    exact ⟨rfl, (Grw.refl _).alloc _⟩
  · have b3 : decide (l ≤ 4294967295) = true := decide_eq_true h3
    rw [dec_y (p := okW h l) ⟨h0, h1, h2, h3⟩]
    go_enter Try.func53, Try.ntmps53
    go_wp2
    go_ret
    exact ⟨rfl, (Grw.refl _).alloc _⟩

theorem frombits_run (n : Nat) (w : World) : (callFunc 89 #[.int .u64 (n : Int)]).run Try.prog w = .ok (.value (.float .f64 n)) w := by
  rw [run_callFunc_extern (e := Extern.MathFloatBits.float64frombits) Try.func89 (by kernel_rfl) (by kernel_rfl) (by kernel_rfl) (by kernel_rfl)]
  rfl
theorem tobits_run (n : Nat) (w : World) : (callFunc 96 #[.float .f64 n]).run Try.prog w = .ok (.value (.int .u64 (n : Int))) w := by
  rw [run_callFunc_extern (e := Extern.MathFloatBits.float64bits) Try.func96 (by kernel_rfl) (by kernel_rfl) (by kernel_rfl) (by kernel_rfl)]
  rfl
theorem signbit_any (b : Nat) (hb : b < 2 ^ 64) (w : World) : Calls Try.prog 87 #[.float .f64 b] w fun e w' => e = .returned (.bool (sg b)) ∧ w' = w := by
  have ht := fun w => tobits_run b w
  go_enter Try.func87, Try.ntmps87
  go_wp2
  go_ret
  refine ⟨congrArg (fun b => Ending.returned (.bool b)) ?_, rfl⟩
  unfold wrap64 sg
  by_cases h : b < 2 ^ 63
  · rw [show b / 2 ^ 63 = 0 by omega, decide_eq_false (by omega)]; rfl
  · rw [show b / 2 ^ 63 = 1 by omega, decide_eq_true (by omega)]; rfl
theorem isInf_up (b : Nat) (w : World) : Calls Try.prog 88 #[.float .f64 b, .int .i64 1] w fun e w' => e = .returned (.bool (dec (rI b = topI ∧ sg b = false))) ∧ w' = w := by
  have hm := f_max b
  obtain ⟨q, hq⟩ : ∃ q, q = dec (rI b = topI ∧ sg b = false) := ⟨_, rfl⟩
  rw [← hq]
  rw [show decide (rI b = topI ∧ sg b = false) = q from hq.symm] at hm
  clear hq
  go_enter Try.func88, Try.ntmps88
  go_wp2
  go_ret
  exact ⟨congrArg (fun b => Ending.returned (.bool b)) (by first | rfl | exact hm), rfl⟩
theorem isInf_down (b : Nat) (hb : b < 2 ^ 64) (w : World) : Calls Try.prog 88 #[.float .f64 b, .int .i64 (-1)] w fun e w' => e = .returned (.bool (dec (rI b = topI ∧ sg b = true))) ∧ w' = w := by
  obtain ⟨n1, n2⟩ := neg_of b hb
  have hm := f_max (Op.negFloat .f64 b)
  rw [n1, n2] at hm
  have hd : decide (rI b = topI ∧ (!sg b) = false) = dec (rI b = topI ∧ sg b = true) := by
    apply decide_eq_decide.2
    cases sg b <;> simp
  obtain ⟨q, hq⟩ : ∃ q, q = dec (rI b = topI ∧ sg b = true) := ⟨_, rfl⟩
  rw [hd, ← hq] at hm
  rw [← hq]
  clear n1 n2 hd hq
  have hn : ∀ w, (Op.unary .neg (.float .f64 b)).run Try.prog w = .ok (.float .f64 (Op.negFloat .f64 b)) w := fun _ => rfl
  generalize Op.negFloat .f64 b = c at hn hm
  go_enter Try.func88, Try.ntmps88
  go_wp2
  go_ret
  exact ⟨congrArg (fun b => Ending.returned (.bool b)) (by first | rfl | exact hm), rfl⟩

theorem classOf_any (b : Nat) (hb : b < 2 ^ 64) (w : World) : Calls Try.prog 58 #[.float .f64 b] w fun e w' => e = .returned (.int .i64 (clx (rI b) (sg b))) ∧ w' = w := by
  have HS : Hid (∀ w, Calls Try.prog 87 #[.float .f64 b] w fun e w' => e = .returned (.bool (sg b)) ∧ w' = w) := fun w => signbit_any b hb w
  have HD : Hid (∀ w, Calls Try.prog 88 #[.float .f64 b, .int .i64 (-1)] w fun e w' => e = .returned (.bool (dec (rI b = topI ∧ sg b = true))) ∧ w' = w) := fun w => isInf_down b hb w
  have HU : Hid (∀ w, Calls Try.prog 88 #[.float .f64 b, .int .i64 1] w fun e w' => e = .returned (.bool (dec (rI b = topI ∧ sg b = false))) ∧ w' = w) := fun w => isInf_up b w
  have h0 := f_nan b
  have h1 := f_eq0 b
  have h2 := f_lt0 b
  have hnn := rI_nn b
  by_cases c0 : topI < rI b
  · rw [decide_eq_true c0] at h0
    have e : clx (rI b) (sg b) = 0 := if_pos c0
    rw [e]
    clear e h1 h2 hnn c0 HS HD HU
    go_enter Try.func58, Try.ntmps58
    go_wp2
    go_ret
    exact ⟨rfl, rfl⟩
  rw [decide_eq_false c0] at h0
  by_cases c1 : rI b = 0
  · rw [decide_eq_true c1] at h1
    have ht : ¬ (rI b = topI) := by rw [c1]; decide
    cases hs : sg b
    · have e : clx (rI b) false = 4 := by unfold clx; rw [if_neg c0, if_neg ht, if_pos c1]; rfl
      rw [e]
      rw [hs] at HS
      clear e h2 hnn c0 c1 ht HD HU hs
      go_enter Try.func58, Try.ntmps58
      go_wp2_with fail
      refine (HS.out _).mono ?_
      rintro e w1 ⟨rfl, hw⟩
      subst hw
      go_wp2
      go_ret
      exact ⟨rfl, rfl⟩
    · have e : clx (rI b) true = 3 := by unfold clx; rw [if_neg c0, if_neg ht, if_pos c1]; rfl
      rw [e]
      rw [hs] at HS
      clear e h2 hnn c0 c1 ht HD HU hs
      go_enter Try.func58, Try.ntmps58
      go_wp2_with fail
      refine (HS.out _).mono ?_
      rintro e w1 ⟨rfl, hw⟩
      subst hw
      go_wp2
      go_ret
      exact ⟨rfl, rfl⟩
  rw [decide_eq_false c1] at h1
  clear HS
  by_cases c2 : rI b = topI ∧ sg b = true
  · have e : clx (rI b) (sg b) = 1 := by unfold clx; rw [if_neg c0, if_pos c2.1, c2.2]; rfl
    rw [e]
    rw [dec_y c2] at HD
    clear e h2 hnn c0 c1 c2 HU
    go_enter Try.func58, Try.ntmps58
    go_wp2_with fail
    refine (HD.out _).mono ?_
    rintro e w1 ⟨rfl, hw⟩
    subst hw
    go_wp2
    go_ret
    exact ⟨rfl, rfl⟩
  rw [dec_n c2] at HD
  by_cases c3 : rI b = topI ∧ sg b = false
  · have e : clx (rI b) (sg b) = 6 := by unfold clx; rw [if_neg c0, if_pos c3.1, c3.2]; rfl
    rw [e]
    rw [dec_y c3] at HU
    clear e h2 hnn c0 c1 c2 c3
    go_enter Try.func58, Try.ntmps58
    go_wp2_with fail
    refine (HD.out _).mono ?_
    rintro e w1 ⟨rfl, hw⟩
    subst hw
    go_wp2_with fail
    refine (HU.out _).mono ?_
    rintro e w1 ⟨rfl, hw⟩
    subst hw
    go_wp2
    go_ret
    exact ⟨rfl, rfl⟩
  rw [dec_n c3] at HU
  have ht : ¬ (rI b = topI) := fun h => by cases hs : sg b <;> simp_all
  cases hs : sg b
  · have e : clx (rI b) false = 5 := by unfold clx; rw [if_neg c0, if_neg ht, if_neg c1]; rfl
    rw [e]
    rw [decide_eq_false (by rw [hs]; simp)] at h2
    clear e hnn c0 c1 c2 c3 ht hs
    go_enter Try.func58, Try.ntmps58
    go_wp2_with fail
    refine (HD.out _).mono ?_
    rintro e w1 ⟨rfl, hw⟩
    subst hw
    go_wp2_with fail
    refine (HU.out _).mono ?_
    rintro e w1 ⟨rfl, hw⟩
    subst hw
    go_wp2
    go_ret
    exact ⟨rfl, rfl⟩
  · have e : clx (rI b) true = 2 := by unfold clx; rw [if_neg c0, if_neg ht, if_neg c1]; rfl
    rw [e]
    rw [decide_eq_true ⟨by omega, c1, hs⟩] at h2
    clear e hnn c0 c1 c2 c3 ht hs
    go_enter Try.func58, Try.ntmps58
    go_wp2_with fail
    refine (HD.out _).mono ?_
    rintro e w1 ⟨rfl, hw⟩
    subst hw
    go_wp2_with fail
    refine (HU.out _).mono ?_
    rintro e w1 ⟨rfl, hw⟩
    subst hw
    go_wp2
    go_ret
    exact ⟨rfl, rfl⟩

theorem ofInt_u64 (a : Nat) (ha : a < 18446744073709551616) : (BitVec.ofInt 64 (a : Int)).toNat = a := by
  rw [BitVec.ofInt_natCast, BitVec.toNat_ofNat]; exact Nat.mod_eq_of_lt (by omega)
theorem or_word (h l : Int) (hw : okW h l) : bits .or .u64 (h * 4294967296) l = ((bW h l : Nat) : Int) := by
  obtain ⟨h0, h1, h2, h3⟩ := hw
  obtain ⟨a, rfl⟩ := Int.eq_ofNat_of_zero_le h0
  obtain ⟨b, rfl⟩ := Int.eq_ofNat_of_zero_le h2
  have e : ((a : Int) * 4294967296) = ((a * 4294967296 : Nat) : Int) := by omega
  rw [e]
  have hx : a * 4294967296 ||| b = a * 4294967296 + b := by
    have := Nat.two_pow_add_eq_or_of_lt (i := 32) (b := b) (by omega) a
    rw [Nat.mul_comm]
    exact this.symm
  show IntKind.u64.wrap ((BitVec.ofInt 64 ((a * 4294967296 : Nat) : Int) ||| BitVec.ofInt 64 (b : Int)).toNat : Int) = _
  rw [BitVec.toNat_or, ofInt_u64 _ (by omega), ofInt_u64 b (by omega), hx]
  unfold bW
  rw [IntKind.wrap_u64]
  omega
theorem valueOf_any (h l : Int) (hw : okW h l) (w : World) : Calls Try.prog 59 #[.agg #[.int .i64 h, .int .i64 l]] w fun e w' => e = .returned (.float .f64 (bW h l)) ∧ Grw w w' := by
  have hf := fun w => frombits_run (bW h l) w
  have ho := or_word h l hw
  generalize bW h l = b at hf ho ⊢
  obtain ⟨h0, h1, h2, h3⟩ := hw
  go_enter Try.func59, Try.ntmps59
  go_wp2
  go_ret
  exact ⟨rfl, (Grw.refl _).alloc _⟩

theorem isNaNf_any (b : Nat) (w : World) : Calls Try.prog 95 #[.float .f64 b] w fun e w' => e = .returned (.bool (dec (topI < rI b))) ∧ w' = w := by
  have h0 := f_nan b
  obtain ⟨q, hq⟩ : ∃ q, q = dec (topI < rI b) := ⟨_, rfl⟩
  rw [← hq]
  rw [show decide (topI < rI b) = q from hq.symm] at h0
  clear hq
  go_enter Try.func95, Try.ntmps95
  go_wp2
  go_ret
  exact ⟨congrArg (fun b => Ending.returned (.bool b)) (by first | rfl | exact h0), rfl⟩
theorem isNaNi_any (x : Int) (w : World) : Calls Try.prog 94 #[.int .i64 x] w fun e w' => e = .returned (.bool false) ∧ w' = w := by
  have h : (x != x) = false := by simp
  go_enter Try.func94, Try.ntmps94
  go_wp2
  go_ret
  exact ⟨rfl, rfl⟩
theorem compareI_any (x y : Int) (w : World) : Calls Try.prog 82 #[.int .i64 x, .int .i64 y] w fun e w' => e = .returned (.int .i64 (ord3 x y)) ∧ w' = w := by
  have hn : ∀ x, Hid (∀ w, Calls Try.prog 94 #[.int .i64 x] w fun e w' => e = .returned (.bool false) ∧ w' = w) := fun x w => isNaNi_any x w
  by_cases h1 : x < y
  · have e : ord3 x y = -1 := if_pos h1
    rw [e]
    clear e
    go_enter Try.func82, Try.ntmps82
    go_wp2_with fail
    refine ((hn x).out _).mono ?_
    rintro e w1 ⟨rfl, hw⟩
    subst hw
    go_wp2_with fail
    refine ((hn y).out _).mono ?_
    rintro e w1 ⟨rfl, hw⟩
    subst hw
    go_wp2
    go_ret
    exact ⟨rfl, rfl⟩
  by_cases h2 : y < x
  · have e : ord3 x y = 1 := by unfold ord3; rw [if_neg h1, if_neg (by omega)]
    rw [e]
    clear e
    go_enter Try.func82, Try.ntmps82
    go_wp2_with fail
    refine ((hn x).out _).mono ?_
    rintro e w1 ⟨rfl, hw⟩
    subst hw
    go_wp2_with fail
    refine ((hn y).out _).mono ?_
    rintro e w1 ⟨rfl, hw⟩
    subst hw
    go_wp2
    go_ret
    exact ⟨rfl, rfl⟩
  · have e : ord3 x y = 0 := by unfold ord3; rw [if_neg h1, if_pos (by omega)]
    rw [e]
    clear e
    go_enter Try.func82, Try.ntmps82
    go_wp2_with fail
    refine ((hn x).out _).mono ?_
    rintro e w1 ⟨rfl, hw⟩
    subst hw
    go_wp2_with fail
    refine ((hn y).out _).mono ?_
    rintro e w1 ⟨rfl, hw⟩
    subst hw
    go_wp2
    go_ret
    exact ⟨rfl, rfl⟩
theorem compareF_any (x y : Nat) (w : World) : Calls Try.prog 83 #[.float .f64 x, .float .f64 y] w fun e w' => e = .returned (.int .i64 (fcmp (rI x) (sg x) (rI y) (sg y))) ∧ w' = w := by
  have HX : Hid (∀ w, Calls Try.prog 95 #[.float .f64 x] w fun e w' => e = .returned (.bool (dec (topI < rI x))) ∧ w' = w) := fun w => isNaNf_any x w
  have HY : Hid (∀ w, Calls Try.prog 95 #[.float .f64 y] w fun e w' => e = .returned (.bool (dec (topI < rI y))) ∧ w' = w) := fun w => isNaNf_any y w
  have h1 := f_lt x y
  have h2 := f_gt x y
  by_cases c1 : topI < rI x
  · rw [dec_y c1] at HX
    by_cases c2 : topI < rI y
    · rw [dec_y c2] at HY
      have e : fcmp (rI x) (sg x) (rI y) (sg y) = 0 := by unfold fcmp; rw [if_pos c1, if_pos c2]
      rw [e]
      clear e h1 h2 c1 c2
      go_enter Try.func83, Try.ntmps83
      go_wp2_with fail
      refine (HX.out _).mono ?_
      rintro e w1 ⟨rfl, hw⟩
      subst hw
      go_wp2_with fail
      refine (HY.out _).mono ?_
      rintro e w1 ⟨rfl, hw⟩
      subst hw
      go_wp2
      go_ret
      exact ⟨rfl, rfl⟩
    · rw [dec_n c2] at HY
      have e : fcmp (rI x) (sg x) (rI y) (sg y) = -1 := by unfold fcmp; rw [if_pos c1, if_neg c2]
      rw [e]
      clear e h1 h2 c1 c2
      go_enter Try.func83, Try.ntmps83
      go_wp2_with fail
      refine (HX.out _).mono ?_
      rintro e w1 ⟨rfl, hw⟩
      subst hw
      go_wp2_with fail
      refine (HY.out _).mono ?_
      rintro e w1 ⟨rfl, hw⟩
      subst hw
      go_wp2
      go_ret
      exact ⟨rfl, rfl⟩
  rw [dec_n c1] at HX
  by_cases c2 : topI < rI y
  · rw [dec_y c2] at HY
    have e : fcmp (rI x) (sg x) (rI y) (sg y) = 1 := by unfold fcmp; rw [if_neg c1, if_pos c2]
    rw [e]
    clear e h1 h2 c1 c2
    go_enter Try.func83, Try.ntmps83
    go_wp2_with fail
    refine (HX.out _).mono ?_
    rintro e w1 ⟨rfl, hw⟩
    subst hw
    go_wp2_with fail
    refine (HY.out _).mono ?_
    rintro e w1 ⟨rfl, hw⟩
    subst hw
    go_wp2
    go_ret
    exact ⟨rfl, rfl⟩
  rw [dec_n c2] at HY
  have e : fcmp (rI x) (sg x) (rI y) (sg y) = ord3 (sI x) (sI y) := by unfold fcmp; rw [if_neg c1, if_neg c2]; rfl
  rw [e]
  clear e
  by_cases c3 : sI x < sI y
  · rw [decide_eq_true ⟨by omega, by omega, c3⟩] at h1
    have e : ord3 (sI x) (sI y) = -1 := if_pos c3
    rw [e]
    clear e h2 c1 c2 c3
    go_enter Try.func83, Try.ntmps83
    go_wp2_with fail
    refine (HX.out _).mono ?_
    rintro e w1 ⟨rfl, hw⟩
    subst hw
    go_wp2_with fail
    refine (HY.out _).mono ?_
    rintro e w1 ⟨rfl, hw⟩
    subst hw
    go_wp2
    go_ret
    exact ⟨rfl, rfl⟩
  rw [decide_eq_false (fun h => c3 h.2.2)] at h1
  by_cases c4 : sI y < sI x
  · rw [decide_eq_true ⟨by omega, by omega, c4⟩] at h2
    have e : ord3 (sI x) (sI y) = 1 := by unfold ord3; rw [if_neg c3, if_neg (by omega)]
    rw [e]
    clear e c1 c2 c3 c4
    go_enter Try.func83, Try.ntmps83
    go_wp2_with fail
    refine (HX.out _).mono ?_
    rintro e w1 ⟨rfl, hw⟩
    subst hw
    go_wp2_with fail
    refine (HY.out _).mono ?_
    rintro e w1 ⟨rfl, hw⟩
    subst hw
    go_wp2
    go_ret
    exact ⟨rfl, rfl⟩
  · rw [decide_eq_false (fun h => c4 h.2.2)] at h2
    have e : ord3 (sI x) (sI y) = 0 := by unfold ord3; rw [if_neg c3, if_pos (by omega)]
    rw [e]
    clear e c1 c2 c3 c4
    go_enter Try.func83, Try.ntmps83
    go_wp2_with fail
    refine (HX.out _).mono ?_
    rintro e w1 ⟨rfl, hw⟩
    subst hw
    go_wp2_with fail
    refine (HY.out _).mono ?_
    rintro e w1 ⟨rfl, hw⟩
    subst hw
    go_wp2
    go_ret
    exact ⟨rfl, rfl⟩

/-- cmp.Or of two. -/
theorem orI_two (x y : Int) (b c : Nat) (w : World) (h0 : w.cell? ⟨b, 0, none⟩ = some (.int .i64 x)) (h1 : w.cell? ⟨b, 1, none⟩ = some (.int .i64 y)) :
    Calls Try.prog 81 #[.slice (some ⟨b, 0, none⟩) 2 c] w fun e w' => e = .returned (.int .i64 (if x = 0 then y else x)) ∧ w' = w := by
  obtain ⟨r, hr⟩ : ∃ r, r = if x = 0 then y else x := ⟨_, rfl⟩
  rw [← hr]
  have HR : Hid (r = if x = 0 then y else x) := hr
  clear hr
  go_enter Try.func81, Try.ntmps81
  go_wp2
  go_loopw [8] (fun i wr => ∃ k : Nat, k ≤ 2 ∧ i = .int .i64 k ∧ wr = w ∧ (1 ≤ k → x = 0) ∧ (2 ≤ k → y = 0)) (fun i _ => 2 - (intOf i).toNat)
  case atStart => exact ⟨0, Nat.zero_le _, rfl, rfl, fun h => absurd h (by omega), fun h => absurd h (by omega)⟩
  case round =>
    obtain ⟨k, hk, rfl, hw, hx, hy⟩ := hrel
    subst hw
    have hk3 : k = 0 ∨ k = 1 ∨ k = 2 := by omega
    rcases hk3 with rfl | rfl | rfl
    · by_cases hx0 : x = 0
      · have hb : (x != 0) = false := by simp [hx0]
        clear hx hy
        go_wp2
        go_roundw
        case rel => exact ⟨1, by omega, (by first | trivial | rfl), (by first | trivial | rfl), fun _ => hx0, fun h => absurd h (by omega)⟩
        case measure => simp [intOf]
      · have hb : (x != 0) = true := by simp [hx0]
        have e : r = x := by rw [HR.out, if_neg hx0]
        clear hx hy
        go_wp2
        go_ret
        exact ⟨by rw [e]; rfl, rfl⟩
    · have hx0 := hx (by omega)
      by_cases hy0 : y = 0
      · have hb : (y != 0) = false := by simp [hy0]
        clear hx hy
        go_wp2
        go_roundw
        case rel => exact ⟨2, by omega, (by first | trivial | rfl), (by first | trivial | rfl), fun _ => hx0, fun _ => hy0⟩
        case measure => simp [intOf]
      · have hb : (y != 0) = true := by simp [hy0]
        have e : r = y := by rw [HR.out, if_pos hx0]
        clear hx hy
        go_wp2
        go_ret
        exact ⟨by rw [e]; rfl, rfl⟩
    · have hx0 := hx (by omega)
      have hy0 := hy (by omega)
      have e : r = 0 := by rw [HR.out, if_pos hx0, hy0]
      clear hx hy
      go_wp2
      go_ret
      exact ⟨by rw [e]; rfl, rfl⟩

end Go.Proofs.Ytfcdobicilediaa
