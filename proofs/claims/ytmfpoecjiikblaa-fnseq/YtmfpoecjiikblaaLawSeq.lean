/- The walk of laws.FnSeq: numbers that go round. -/
import Derived.Test.YtmfpoecjiikblaaSeqA
import Derived.Test.YtmfpoecjiikblaaAtV
namespace Go.Proofs.Ytmfpoecjiikblaa
open Go.RowKit Go.PlainAid Go.Proofs.Ytmfpoecjiikblaa.Bt Go.Sort
set_option linter.unusedVariables false
set_option maxRecDepth 20000

/-- What SeqLess says of right numbers. -/
def sl (a b : Int) : Bool := decide (1 ≤ sqN (b - a) ∧ sqN (b - a) ≤ 2147483647)
theorem slBC {a b : Int} (h0 : 0 ≤ a) (h1 : a ≤ 4294967295) (h2 : 0 ≤ b) (h3 : b ≤ 4294967295) : slB a b = sl a b ∧ slC a b = 0 := by
  have e1 : dec (0 ≤ a ∧ a ≤ 4294967295) = true := by simp [dec]; omega
  have e2 : dec (0 ≤ b ∧ b ≤ 4294967295) = true := by simp [dec]; omega
  unfold slB slC sl
  rw [e1, e2]
  simp
theorem iLess {a b : Int} (h0 : 0 ≤ a) (h1 : a ≤ 4294967295) (h2 : 0 ≤ b) (h3 : b ≤ 4294967295) (x : Bool) (hx : sl a b = x) (w : World) : Calls Try.prog 24 #[.int .i64 a, .int .i64 b] w fun e w' => e = .returned (.tuple #[.bool x, .int .i64 0]) ∧ w' = w := by
  have h := implLess_any a b w
  rw [(slBC h0 h1 h2 h3).1, (slBC h0 h1 h2 h3).2, hx] at h
  exact h
theorem sLess {a b : Int} (h0 : 0 ≤ a) (h1 : a ≤ 4294967295) (h2 : 0 ≤ b) (h3 : b ≤ 4294967295) (x : Bool) (hx : sl a b = x) (w : World) : Calls Try.prog 25 #[.int .i64 a, .int .i64 b] w fun e w' => e = .returned (.tuple #[.bool x, .int .i64 0]) ∧ w' = w := by
  have h := specLess_any a b w
  rw [(slBC h0 h1 h2 h3).1, (slBC h0 h1 h2 h3).2, hx] at h
  exact h
theorem sl_self (a : Int) : sl a a = false := by unfold sl sqN; rw [decide_eq_false_iff_not]; omega
theorem sl_next (a : Int) : sl a (sqN (a + 1)) = true := by unfold sl sqN; rw [decide_eq_true_iff]; omega
theorem sl_moved (a b n : Int) : sl (sqN (a + n)) (sqN (b + n)) = sl a b := by
  unfold sl
  have e : sqN (sqN (b + n) - sqN (a + n)) = sqN (b - a) := by unfold sqN; omega
  rw [e]
theorem sl_one {a b : Int} (h0 : 0 ≤ a) (h1 : a ≤ 4294967295) (h2 : 0 ≤ b) (h3 : b ≤ 4294967295) (hn : a ≠ b) (h : sl a b = sl b a) : (sqN (a - b) == 2147483648) = true := by
  unfold sl at h
  rw [decide_eq_decide] at h
  rw [beq_iff_eq]
  unfold sqN at h ⊢
  omega

set_option maxHeartbeats 4000000 in
theorem lawSeq_any (a b : Option Addr) (la ca lb cb : Nat) (f g : Nat → Int) (w : World) (ha : Bytes w a la f) (hb : Bytes w b lb g)
    (pa : ∀ b off, 0 < la → a = some ⟨b, off, none⟩ → b < w.heap.size) (pb : ∀ b' off, 0 < lb → b = some ⟨b', off, none⟩ → b' < w.heap.size) (h1 : la ≤ 1048576) (h2 : lb ≤ 1048576) :
    Calls Try.prog 5 #[.slice a la ca, .slice b lb cb] w fun e w' => e = .returned (.bool true) ∧ Below w.heap.size w w' := by
  have KA0 : Hid (∀ wx, Below w.heap.size w wx → Calls Try.prog 18 #[.slice a la ca, .int .i64 0, .int .i64 60000] wx fun e w' => e = .returned (.int .i64 (atV f la 0 60000)) ∧ ∃ k, w' = wx.drewN k) := fun wx bx => at_val wx a la ca f 0 60000 (ha.below bx pa) (by omega) (by omega) (by omega) (by omega)
  obtain ⟨lA0, uA0⟩ := atV_bd f la 0 60000 (by omega)
  have KA1 : Hid (∀ wx, Below w.heap.size w wx → Calls Try.prog 18 #[.slice a la ca, .int .i64 1, .int .i64 60000] wx fun e w' => e = .returned (.int .i64 (atV f la 1 60000)) ∧ ∃ k, w' = wx.drewN k) := fun wx bx => at_val wx a la ca f 1 60000 (ha.below bx pa) (by omega) (by omega) (by omega) (by omega)
  obtain ⟨lA1, uA1⟩ := atV_bd f la 1 60000 (by omega)
  have KB0 : Hid (∀ wx, Below w.heap.size w wx → Calls Try.prog 18 #[.slice b lb cb, .int .i64 0, .int .i64 60000] wx fun e w' => e = .returned (.int .i64 (atV g lb 0 60000)) ∧ ∃ k, w' = wx.drewN k) := fun wx bx => at_val wx b lb cb g 0 60000 (hb.below bx pb) (by omega) (by omega) (by omega) (by omega)
  obtain ⟨lB0, uB0⟩ := atV_bd g lb 0 60000 (by omega)
  have KB1 : Hid (∀ wx, Below w.heap.size w wx → Calls Try.prog 18 #[.slice b lb cb, .int .i64 1, .int .i64 60000] wx fun e w' => e = .returned (.int .i64 (atV g lb 1 60000)) ∧ ∃ k, w' = wx.drewN k) := fun wx bx => at_val wx b lb cb g 1 60000 (hb.below bx pb) (by omega) (by omega) (by omega) (by omega)
  obtain ⟨lB1, uB1⟩ := atV_bd g lb 1 60000 (by omega)
  have KN0 : Hid (∀ wx, Below w.heap.size w wx → Calls Try.prog 18 #[.slice b lb cb, .int .i64 2, .int .i64 60000] wx fun e w' => e = .returned (.int .i64 (atV g lb 2 60000)) ∧ ∃ k, w' = wx.drewN k) := fun wx bx => at_val wx b lb cb g 2 60000 (hb.below bx pb) (by omega) (by omega) (by omega) (by omega)
  obtain ⟨lN0, uN0⟩ := atV_bd g lb 2 60000 (by omega)
  generalize atV f la 0 60000 = vA0 at KA0 lA0 uA0
  generalize atV f la 1 60000 = vA1 at KA1 lA1 uA1
  generalize atV g lb 0 60000 = vB0 at KB0 lB0 uB0
  generalize atV g lb 1 60000 = vB1 at KB1 lB1 uB1
  generalize atV g lb 2 60000 = vN0 at KN0 lN0 uN0
  obtain ⟨x, hx⟩ : ∃ x, vA0 * 65536 + vA1 = x := ⟨_, rfl⟩
  obtain ⟨y, hy⟩ : ∃ y, vB0 * 65536 + vB1 = y := ⟨_, rfl⟩
  obtain ⟨n, hn⟩ : ∃ n, vN0 * 70000 = n := ⟨_, rfl⟩
  have x0 : 0 ≤ x := by omega
  have x1 : x ≤ 4294967295 := by omega
  have y0 : 0 ≤ y := by omega
  have y1 : y ≤ 4294967295 := by omega
  have n0 : 0 ≤ n := by omega
  have n1 : n ≤ 4294967295 := by omega
  have m1 := mask32 (x + n) (by omega) (by omega)
  have m2 := mask32 (y + n) (by omega) (by omega)
  have m3 := mask32 (x + 1) (by omega) (by omega)
  have m4 := mask32 (x - y) (by omega) (by omega)
  have b1 := sqN_bd (x + n)
  have b2 := sqN_bd (y + n)
  have b3 := sqN_bd (x + 1)
  have q1 := sl_moved x y n
  have q2 := sl_next x
  have q3 := sl_self x
  have q4 := sl_one x0 x1 y0 y1
  have q5 : x = y → sl x y = false ∧ sl y x = false := fun e => by subst e; exact ⟨q3, q3⟩
  generalize sqN (x + n) = s1 at m1 b1 q1
  generalize sqN (y + n) = s2 at m2 b2 q1
  generalize sqN (x + 1) = s3 at m3 b3 q2
  generalize sqN (x - y) = s4 at m4 q4
  have T1 := iLess x0 x1 y0 y1 _ rfl
  have T2 := iLess y0 y1 x0 x1 _ rfl
  have T3 := sLess x0 x1 y0 y1 _ rfl
  have T4 := iLess b1.1 b1.2 b2.1 b2.2 _ q1
  have T5 := iLess x0 x1 x0 x1 _ q3
  have T6 := iLess x0 x1 b3.1 b3.2 _ q2
  clear q1 q2 q3 b1 b2 b3
  generalize sl x y = p at T1 T2 T3 T4 q4 q5
  generalize sl y x = q at T1 T2 T3 T4 q4 q5
  have U1 : Hid (∀ wx, Calls Try.prog 24 #[.int .i64 x, .int .i64 y] wx fun e w' => e = .returned (.tuple #[.bool p, .int .i64 0]) ∧ w' = wx) := T1
  have U2 : Hid (∀ wx, Calls Try.prog 24 #[.int .i64 y, .int .i64 x] wx fun e w' => e = .returned (.tuple #[.bool q, .int .i64 0]) ∧ w' = wx) := T2
  have U3 : Hid (∀ wx, Calls Try.prog 25 #[.int .i64 x, .int .i64 y] wx fun e w' => e = .returned (.tuple #[.bool p, .int .i64 0]) ∧ w' = wx) := T3
  have U4 : Hid (∀ wx, Calls Try.prog 24 #[.int .i64 s1, .int .i64 s2] wx fun e w' => e = .returned (.tuple #[.bool p, .int .i64 0]) ∧ w' = wx) := T4
  have U5 : Hid (∀ wx, Calls Try.prog 24 #[.int .i64 x, .int .i64 x] wx fun e w' => e = .returned (.tuple #[.bool false, .int .i64 0]) ∧ w' = wx) := T5
  have U6 : Hid (∀ wx, Calls Try.prog 24 #[.int .i64 x, .int .i64 s3] wx fun e w' => e = .returned (.tuple #[.bool true, .int .i64 0]) ∧ w' = wx) := T6
  clear T1 T2 T3 T4 T5 T6
  have HE : Hid ((x = y → p = false ∧ q = false) ∧ (x ≠ y → p = q → (s4 == 2147483648) = true)) := ⟨q5, q4⟩
  clear q4 q5
  have hz1 : decide ((1048576 : Int) < (la : Int)) = false := decide_eq_false (by omega)
  have hz2 : decide ((1048576 : Int) < (lb : Int)) = false := decide_eq_false (by omega)
  have STEP : Hid (∀ wx j, Below w.heap.size w wx → Below w.heap.size w (wx.drewN j)) := fun wx j hb => hb.trans ⟨rfl, rfl, rfl, Nat.le_refl _, fun _ _ => rfl⟩
  have BX : Hid (Below w.heap.size w w) := Below.refl _ _
  clear ha hb pa pb
  have hpp : (p != p) = false := by simp
  go_enter Try.func5, Try.ntmps5
  go_wp2_with fail
  refine (KA0.out _ BX.out).mono ?_
  rintro e wz1 ⟨rfl, k1, rfl⟩
  have BX1 : Hid (Below w.heap.size w (w.drewN k1)) := STEP.out _ _ BX.out
  generalize w.drewN k1 = wy1 at BX1 ⊢
  go_wp2_with fail
  refine (KA1.out _ BX1.out).mono ?_
  rintro e wz2 ⟨rfl, k2, rfl⟩
  have BX2 : Hid (Below w.heap.size w (wy1.drewN k2)) := STEP.out _ _ BX1.out
  generalize wy1.drewN k2 = wy2 at BX2 ⊢
  go_wp2_with fail
  refine (KB0.out _ BX2.out).mono ?_
  rintro e wz3 ⟨rfl, k3, rfl⟩
  have BX3 : Hid (Below w.heap.size w (wy2.drewN k3)) := STEP.out _ _ BX2.out
  generalize wy2.drewN k3 = wy3 at BX3 ⊢
  go_wp2_with fail
  refine (KB1.out _ BX3.out).mono ?_
  rintro e wz4 ⟨rfl, k4, rfl⟩
  have BX4 : Hid (Below w.heap.size w (wy3.drewN k4)) := STEP.out _ _ BX3.out
  generalize wy3.drewN k4 = wy4 at BX4 ⊢
  go_wp2_with fail
  refine (U1.out _).mono ?_
  rintro e wz5 ⟨rfl, hw⟩
  subst hw
  go_wp2_with fail
  refine (U2.out _).mono ?_
  rintro e wz6 ⟨rfl, hw⟩
  subst hw
  go_wp2_with fail
  refine (U3.out _).mono ?_
  rintro e wz7 ⟨rfl, hw⟩
  subst hw
  go_wp2_with fail
  refine (KN0.out _ BX4.out).mono ?_
  rintro e wz8 ⟨rfl, k8, rfl⟩
  have BX8 : Hid (Below w.heap.size w (wz7.drewN k8)) := STEP.out _ _ BX4.out
  generalize wz7.drewN k8 = wy8 at BX8 ⊢
  go_wp2_with fail
  refine (U4.out _).mono ?_
  rintro e wz9 ⟨rfl, hw⟩
  subst hw
  go_wp2_with fail
  refine (U5.out _).mono ?_
  rintro e wz10 ⟨rfl, hw⟩
  subst hw
  go_wp2_with fail
  refine (U6.out _).mono ?_
  rintro e wz11 ⟨rfl, hw⟩
  subst hw
  by_cases hxy : x = y
  · have hxy2 : (x == y) = true := by simp [hxy]
    obtain ⟨rfl, rfl⟩ := HE.out.1 hxy
    clear hxy
    go_wp2
    go_ret
    exact ⟨rfl, BX8.out⟩
  · have hxy2 : (x == y) = false := by simp [hxy]
    have HF := HE.out.2 hxy
    clear hxy HE
    cases p
    · cases q
      · have hf := HF rfl
        clear HF
        go_wp2
        go_ret
        exact ⟨by first | rfl | simp [hf], BX8.out⟩
      · clear HF
        go_wp2
        go_ret
        exact ⟨by first | rfl | simp, BX8.out⟩
    · cases q
      · clear HF
        go_wp2
        go_ret
        exact ⟨by first | rfl | simp, BX8.out⟩
      · have hf := HF rfl
        clear HF
        go_wp2
        go_ret
        exact ⟨by first | rfl | simp [hf], BX8.out⟩

theorem lawSeq_skip (a b : Option Addr) (la ca lb cb : Nat) (w : World) (h : 1048576 < la ∨ 1048576 < lb) :
    Calls Try.prog 5 #[.slice a la ca, .slice b lb cb] w fun e w' => e = .returned (.bool true) ∧ Below w.heap.size w w' := by
  by_cases h1 : 1048576 < la
  · have t1 : decide ((1048576 : Int) < (la : Int)) = true := by simp; omega
    go_enter Try.func5, Try.ntmps5
    go_wp2
    go_ret
    exact ⟨rfl, Below.refl _ _⟩
  · have t1 : decide ((1048576 : Int) < (la : Int)) = false := by simp; omega
    have t2 : decide ((1048576 : Int) < (lb : Int)) = true := by simp; omega
    clear h
    go_enter Try.func5, Try.ntmps5
    go_wp2
    go_ret
    exact ⟨rfl, Below.refl _ _⟩
end Go.Proofs.Ytmfpoecjiikblaa
