/- parseEscapes, and UnescapeText of the program. -/
import Derived.Test.YtbpdfkngkkopbabUnP
namespace Go.Proofs.Ytbpdfkngkkopbab
open Go.RowKit Go.PlainAid Go.Sort
set_option linter.unusedVariables false
set_option maxRecDepth 20000

theorem escDigit_any (c : Int) (w : World) (h0 : 0 ≤ c) (h1 : c ≤ 255) : Calls Try.prog 27 #[.int .u8 c] w fun e w' => e = .returned (.int .i64 (hv c)) ∧ w' = w := by
  have T : Hid (∀ w, Calls Try.prog 30 #[.string ⟨#[48, 49, 50, 51, 52, 53, 54, 55, 56, 57, 65, 66, 67, 68, 69, 70]⟩, .int .u8 c] w fun e w' => e = .returned (.int .i64 (ixC c)) ∧ w' = w) := fun w => idxB_any ⟨#[48, 49, 50, 51, 52, 53, 54, 55, 56, 57, 65, 66, 67, 68, 69, 70]⟩ c w
  have T2 : Hid (∀ w, Calls Try.prog 31 #[.int .u8 c] w fun e w' => e = .returned (.int .i64 (half c)) ∧ w' = w) := fun w => hexValue_any c w h0 h1
  unfold hv
  generalize ixC c = n at T ⊢
  generalize half c = m at T2 ⊢
  by_cases hn : 0 ≤ n
  · rw [if_pos hn]
    have t1 : decide (0 ≤ n) = true := decide_eq_true hn
    clear hn
    go_enter Try.func27, Try.ntmps27
    go_wp2_with fail
    refine (T.out _).mono ?_
    rintro e w1 ⟨rfl, hw⟩
    subst hw
    go_wp2
    go_ret
    exact ⟨rfl, rfl⟩
  · rw [if_neg hn]
    have t1 : decide (0 ≤ n) = false := decide_eq_false hn
    clear hn
    go_enter Try.func27, Try.ntmps27
    go_wp2_with fail
    refine (T.out _).mono ?_
    rintro e w1 ⟨rfl, hw⟩
    subst hw
    go_wp2_with fail
    refine (T2.out _).mono ?_
    rintro e w1 ⟨rfl, hw⟩
    subst hw
    go_wp2
    go_ret
    exact ⟨rfl, rfl⟩
theorem digits_yes (t : ByteArray) (w : World) (h2 : 2 ≤ t.size) (hz : t.size ≤ 1000000) (ha : 0 ≤ hv (bt t 0)) (hb : 0 ≤ hv (bt t 1)) :
    Calls Try.prog 21 #[.string t] w fun e w' => e = .returned (.int .u8 (16 * hv (bt t 0) + hv (bt t 1))) ∧ ∃ n, w' = w.drewN n := by
  have g := get_bt t
  have I1 : Hid (∀ w, Calls Try.prog 26 #[.bool true, .int .i64 3] w fun e w' => e = .returned (.tuple #[]) ∧ w' = w) := insist_yes 3
  have hx := (hv_is (bt t 0) (bt_nonneg t 0) (bt_le t 0)).2.2.1
  have hy := (hv_is (bt t 1) (bt_nonneg t 1) (bt_le t 1)).2.2.1
  have D0 : Hid (∀ w, Calls Try.prog 27 #[.int .u8 (bt t 0)] w fun e w' => e = .returned (.int .i64 (hv (bt t 0))) ∧ w' = w) := fun w => escDigit_any _ w (bt_nonneg t 0) (bt_le t 0)
  have D1 : Hid (∀ w, Calls Try.prog 27 #[.int .u8 (bt t 1)] w fun e w' => e = .returned (.int .i64 (hv (bt t 1))) ∧ w' = w) := fun w => escDigit_any _ w (bt_nonneg t 1) (bt_le t 1)
  generalize hv (bt t 0) = a at *
  generalize hv (bt t 1) = b at *
  have j1 := Bt.join4 a b ha (by omega) hb (by omega)
  have j2 : IntKind.u8.wrap (a * 16 + b) = 16 * a + b := by rw [IntKind.wrap_u8]; omega
  have t1 : decide ((2 : Int) ≤ (t.size : Int)) = true := decide_eq_true (by omega)
  have t2 : decide (0 ≤ a) = true := decide_eq_true ha
  have t3 : decide (0 ≤ b) = true := decide_eq_true hb
  have s1 : (0 : Int) < (t.size : Int) := by omega
  have s2 : (1 : Int) < (t.size : Int) := by omega
  go_enter Try.func21, Try.ntmps21
  go_wp2_with fail
  refine (I1.out _).mono ?_
  rintro e w1 ⟨rfl, hw⟩
  subst hw
  go_wp2_with fail
  go_quiet ((go_at_call 27; first | (with_reducible exact Calls.quiet_of_same (D0.out _)) | (with_reducible exact Calls.quiet_of_same (D1.out _))))
  go_wp2_with fail
  refine (I1.out _).mono ?_
  rintro e w1 ⟨rfl, hw⟩
  subst hw
  go_wp2
  go_ret
  exact ⟨by first | rfl | (rw [j2]), _, rfl⟩
theorem digits_short (t : ByteArray) (w : World) (h2 : t.size < 2) :
    Calls Try.prog 21 #[.string t] w fun e w' => e = .panicked (flt 3) ∧ ∃ n, w' = w.drewN n := by
  have I1 : Hid (∀ w, Calls Try.prog 26 #[.bool false, .int .i64 3] w fun e w' => e = .panicked (flt 3) ∧ w' = w) := insist_no 3
  have t1 : decide ((2 : Int) ≤ (t.size : Int)) = false := decide_eq_false (by omega)
  go_enter Try.func21, Try.ntmps21
  go_wp2_with fail
  refine (I1.out _).mono ?_
  rintro e w1 ⟨rfl, hw⟩
  subst hw
  go_wp2
  exact ⟨rfl, rfl, 0, rfl⟩
theorem digits_no (t : ByteArray) (w : World) (h2 : 2 ≤ t.size) (hz : t.size ≤ 1000000) (hn : ¬ (0 ≤ hv (bt t 0) ∧ 0 ≤ hv (bt t 1))) :
    Calls Try.prog 21 #[.string t] w fun e w' => e = .panicked (flt 3) ∧ ∃ n, w' = w.drewN n := by
  have g := get_bt t
  have I1 : Hid (∀ w, Calls Try.prog 26 #[.bool true, .int .i64 3] w fun e w' => e = .returned (.tuple #[]) ∧ w' = w) := insist_yes 3
  have I2 : Hid (∀ w, Calls Try.prog 26 #[.bool false, .int .i64 3] w fun e w' => e = .panicked (flt 3) ∧ w' = w) := insist_no 3
  have D0 : Hid (∀ w, Calls Try.prog 27 #[.int .u8 (bt t 0)] w fun e w' => e = .returned (.int .i64 (hv (bt t 0))) ∧ w' = w) := fun w => escDigit_any _ w (bt_nonneg t 0) (bt_le t 0)
  have D1 : Hid (∀ w, Calls Try.prog 27 #[.int .u8 (bt t 1)] w fun e w' => e = .returned (.int .i64 (hv (bt t 1))) ∧ w' = w) := fun w => escDigit_any _ w (bt_nonneg t 1) (bt_le t 1)
  generalize hv (bt t 0) = a at *
  generalize hv (bt t 1) = b at *
  have t1 : decide ((2 : Int) ≤ (t.size : Int)) = true := decide_eq_true (by omega)
  have s1 : (0 : Int) < (t.size : Int) := by omega
  have s2 : (1 : Int) < (t.size : Int) := by omega
  by_cases ha : 0 ≤ a
  · have t2 : decide (0 ≤ a) = true := decide_eq_true ha
    have t3 : decide (0 ≤ b) = false := decide_eq_false (fun h => hn ⟨ha, h⟩)
    clear hn ha
    go_enter Try.func21, Try.ntmps21
    go_wp2_with fail
    refine (I1.out _).mono ?_
    rintro e w1 ⟨rfl, hw⟩
    subst hw
    go_wp2_with fail
    go_quiet ((go_at_call 27; first | (with_reducible exact Calls.quiet_of_same (D0.out _)) | (with_reducible exact Calls.quiet_of_same (D1.out _))))
    go_wp2_with fail
    refine (I2.out _).mono ?_
    rintro e w1 ⟨rfl, hw⟩
    subst hw
    go_wp2
    exact ⟨rfl, rfl, _, rfl⟩
  · have t2 : decide (0 ≤ a) = false := decide_eq_false ha
    clear hn ha
    go_enter Try.func21, Try.ntmps21
    go_wp2_with fail
    refine (I1.out _).mono ?_
    rintro e w1 ⟨rfl, hw⟩
    subst hw
    go_wp2_with fail
    go_quiet ((go_at_call 27; first | (with_reducible exact Calls.quiet_of_same (D0.out _)) | (with_reducible exact Calls.quiet_of_same (D1.out _))))
    go_wp2_with fail
    refine (I2.out _).mono ?_
    rintro e w1 ⟨rfl, hw⟩
    subst hw
    go_wp2
    exact ⟨rfl, rfl, _, rfl⟩

set_option maxHeartbeats 2000000 in
theorem parseEsc_any (s : ByteArray) (R : Option (List Int)) (w : World) (hs : s.size ≤ 65536) (hR : unK (bt s) s.size 0 [] = R) :
    Calls Try.prog 14 #[.string s] w fun e w' => e = enP (R.map fun L => .string (strOfNums L)) 3 ∧ Below w.heap.size w w' := by
  have hb := get_bt s
  obtain ⟨MC, hM⟩ := make_room s.size (by omega)
  have hmk : ∀ w : World, (Instr.makeSlice 31 (.int .i64 0) (.int .i64 (s.size : Int))).run Try.prog w = .ok (.slice (some ⟨w.heap.size, 0, none⟩) 0 s.size) (w.alloc (.cells MC 5)) := fun w => (hM w).1
  have HM : Hid (∀ w : World, OwnL 5 (w.alloc (.cells MC 5)) w.heap.size (.slice (some ⟨w.heap.size, 0, none⟩) 0 s.size) []) := fun w => (hM w).2
  have HR : Hid (unK (bt s) s.size 0 [] = R) := hR
  clear hM hR
  go_enter Try.func14, Try.ntmps14
  go_wp2
  go_loopw [3, 4] (fun v i wr => ∃ (k : Nat) (L : List Int), k ≤ s.size ∧ i = .int .i64 k ∧ L.length ≤ k ∧ Hid (∀ x ∈ L, 0 ≤ x ∧ x ≤ 255) ∧ Hid (OwnL 5 wr w.heap.size v L ∧ Below w.heap.size w wr ∧ unK (bt s) s.size k L = R)) (fun _ i _ => s.size - (intOf i).toNat)
  case atStart => exact ⟨0, [], Nat.zero_le _, rfl, Nat.le_refl _, (fun x hx => by simp at hx), HM.out w, (Below.refl _ _).alloc (Nat.le_refl _) _, HR.out⟩
  case round =>
    obtain ⟨k, L, hk, rfl, hL, AB, X1⟩ := hrel
    clear hmk HM HR
    have h0 := bt_nonneg s k
    have h1 := bt_le s k
    by_cases hlt : k < s.size
    · have hlt' : (k : Int) < (s.size : Int) := by omega
      have hk0' : (0 : Int) ≤ (k : Int) := by omega
      by_cases e43 : bt s k = 43
      · have t1 : (bt s k == 43) = true := by simp [e43]
        have E43 : Hid (bt s k = 43) := e43
        have AB2 : Hid (∀ x ∈ L ++ [32], 0 ≤ x ∧ x ≤ 255) := by intro x hx; rw [List.mem_append] at hx; rcases hx with h | h; exact AB.out x h; simp at h; omega
        clear e43
        have NB : Hid (Boxed (wr.alloc (.cells #[.int .u8 32] 5)) wr.heap.size ([32].map (Value.int .u8))) := Boxed.new wr ([32].map (Value.int .u8)) _
        go_wp2_with (at_builtin; refine wpl_app _ rfl _ _ rfl w.heap.size _ _ rfl (World.ownsRow.alloc X1.out.1 _) ⟨wr.heap.size, 0, none⟩ 1 1 [32] rfl rfl (news_row NB.out) (by simp; omega) (by have := X1.out.2.1.size; simp; omega) ?_; intro v1 w1 Y)
        have O2 : Hid (OwnL 5 w1 w.heap.size v1 (L ++ [32]) ∧ Below w.heap.size w w1 ∧ unK (bt s) s.size (k + 1) (L ++ [32]) = R) := ⟨Y.out.own, (X1.out.2.1.alloc X1.out.2.1.size _).trans Y.out.below, (unK_plus hlt E43.out).symm.trans X1.out.2.2⟩
        have hL2 : (L ++ [32]).length ≤ k + 1 := by simp; omega
        clear Y X1 NB
        go_wp2
        go_roundw
        case rel => exact ⟨k + 1, L ++ [32], by omega, by go_num, hL2, AB2, O2⟩
        case measure => simp [intOf]; omega
      have t1 : (bt s k == 43) = false := by simp [e43]
      by_cases e37 : bt s k = 37
      · have t2 : (bt s k == 37) = true := by simp [e37]
        have E37 : Hid (bt s k = 37) := e37
        clear e37 e43
        have hz : (s.extract (k + 1) s.size).size = s.size - (k + 1) := ext_size s (k + 1) s.size (by omega) (Nat.le_refl _)
        by_cases hg : k + 2 < s.size ∧ 0 ≤ hv (bt s (k + 1)) ∧ 0 ≤ hv (bt s (k + 2))
        · obtain ⟨g1, g2, g3⟩ := hg
          have y0 : bt (s.extract (k + 1) s.size) 0 = bt s (k + 1) := bt_ext s (k + 1) s.size 0 (by omega) (Nat.le_refl _)
          have y1 : bt (s.extract (k + 1) s.size) 1 = bt s (k + 2) := bt_ext s (k + 1) s.size 1 (by omega) (Nat.le_refl _)
          have T := digits_yes (s.extract (k + 1) s.size)
          rw [y0, y1] at T
          have v1 := (hv_is (bt s (k + 1)) (bt_nonneg _ _) (bt_le _ _)).2.2.1
          have v2 := (hv_is (bt s (k + 2)) (bt_nonneg _ _) (bt_le _ _)).2.2.1
          have HQ : Hid (unK (bt s) s.size k L = unK (bt s) s.size (k + 3) (L ++ [16 * hv (bt s (k + 1)) + hv (bt s (k + 2))])) := unK_pct hlt E37.out g1 g2 g3
          have T' : Hid (∀ w, Calls Try.prog 21 #[.string (s.extract (k + 1) s.size)] w fun e w' => e = .returned (.int .u8 (16 * hv (bt s (k + 1)) + hv (bt s (k + 2)))) ∧ ∃ n, w' = w.drewN n) := fun w => T w (by omega) (by omega) g2 g3
          clear T y0 y1 hz
          generalize hv (bt s (k + 1)) = a at *
          generalize hv (bt s (k + 2)) = b at *
          have AB2 : Hid (∀ x ∈ L ++ [16 * a + b], 0 ≤ x ∧ x ≤ 255) := by intro x hx; rw [List.mem_append] at hx; rcases hx with h | h; exact AB.out x h; simp at h; omega
          go_wp2_with fail
          refine (T'.out _).mono ?_
          rintro e w5 ⟨rfl, n5, rfl⟩
          have X5 : Hid (OwnL 5 (wr.drewN n5) w.heap.size u3 L ∧ Below w.heap.size w (wr.drewN n5) ∧ unK (bt s) s.size k L = R) := ⟨X1.out.1, X1.out.2.1.trans ⟨rfl, rfl, rfl, Nat.le_refl _, fun _ _ => rfl⟩, X1.out.2.2⟩
          clear X1 T'
          generalize wr.drewN n5 = wr at X5 ⊢
          have X1 := X5
          clear X5
          have NB : Hid (Boxed (wr.alloc (.cells #[.int .u8 (16 * a + b)] 5)) wr.heap.size ([16 * a + b].map (Value.int .u8))) := Boxed.new wr ([16 * a + b].map (Value.int .u8)) _
          go_wp2_with (at_builtin; refine wpl_app _ rfl _ _ rfl w.heap.size _ _ rfl (World.ownsRow.alloc X1.out.1 _) ⟨wr.heap.size, 0, none⟩ 1 1 [16 * a + b] rfl rfl (news_row NB.out) (by simp; omega) (by have := X1.out.2.1.size; simp; omega) ?_; intro v1 w1 Y)
          have O2 : Hid (OwnL 5 w1 w.heap.size v1 (L ++ [16 * a + b]) ∧ Below w.heap.size w w1 ∧ unK (bt s) s.size (k + 3) (L ++ [16 * a + b]) = R) := ⟨Y.out.own, (X1.out.2.1.alloc X1.out.2.1.size _).trans Y.out.below, HQ.out.symm.trans X1.out.2.2⟩
          have hL2 : (L ++ [16 * a + b]).length ≤ k + 3 := by simp; omega
          clear Y X1 NB
          go_wp2
          go_roundw
          case rel => exact ⟨k + 3, L ++ [16 * a + b], by omega, by go_num, hL2, AB2, O2⟩
          case measure => simp [intOf]; omega
        · have T' : Hid (∀ w, Calls Try.prog 21 #[.string (s.extract (k + 1) s.size)] w fun e w' => e = .panicked (flt 3) ∧ ∃ n, w' = w.drewN n) := by
            intro w
            by_cases g1 : k + 2 < s.size
            · have y0 : bt (s.extract (k + 1) s.size) 0 = bt s (k + 1) := bt_ext s (k + 1) s.size 0 (by omega) (Nat.le_refl _)
              have y1 : bt (s.extract (k + 1) s.size) 1 = bt s (k + 2) := bt_ext s (k + 1) s.size 1 (by omega) (Nat.le_refl _)
              exact digits_no (s.extract (k + 1) s.size) w (by omega) (by omega) (by rw [y0, y1]; exact fun h => hg ⟨g1, h.1, h.2⟩)
            · exact digits_short (s.extract (k + 1) s.size) w (by omega)
          have HQ : Hid (R = none) := X1.out.2.2.symm.trans (unK_bad hlt E37.out hg)
          clear hg hz
          go_wp2_with fail
          refine (T'.out _).mono ?_
          rintro e w5 ⟨rfl, n5, rfl⟩
          go_wp2
          exact ⟨rfl, by rw [HQ.out]; rfl, X1.out.2.1.trans ⟨rfl, rfl, rfl, Nat.le_refl _, fun _ _ => rfl⟩⟩
      · have t2 : (bt s k == 37) = false := by simp [e37]
        have HQ : Hid (unK (bt s) s.size k L = unK (bt s) s.size (k + 1) (L ++ [bt s k])) := unK_self hlt e43 e37
        have AB2 : Hid (∀ x ∈ L ++ [bt s k], 0 ≤ x ∧ x ≤ 255) := by intro x hx; rw [List.mem_append] at hx; rcases hx with h | h; exact AB.out x h; simp at h; omega
        clear e43 e37
        have NB : Hid (Boxed (wr.alloc (.cells #[.int .u8 (bt s k)] 5)) wr.heap.size ([bt s k].map (Value.int .u8))) := Boxed.new wr ([bt s k].map (Value.int .u8)) _
        go_wp2_with (at_builtin; refine wpl_app _ rfl _ _ rfl w.heap.size _ _ rfl (World.ownsRow.alloc X1.out.1 _) ⟨wr.heap.size, 0, none⟩ 1 1 [bt s k] rfl rfl (news_row NB.out) (by simp; omega) (by have := X1.out.2.1.size; simp; omega) ?_; intro v1 w1 Y)
        have O2 : Hid (OwnL 5 w1 w.heap.size v1 (L ++ [bt s k]) ∧ Below w.heap.size w w1 ∧ unK (bt s) s.size (k + 1) (L ++ [bt s k]) = R) := ⟨Y.out.own, (X1.out.2.1.alloc X1.out.2.1.size _).trans Y.out.below, HQ.out.symm.trans X1.out.2.2⟩
        have hL2 : (L ++ [bt s k]).length ≤ k + 1 := by simp; omega
        clear Y X1 NB
        go_wp2
        go_roundw
        case rel => exact ⟨k + 1, L ++ [bt s k], by omega, by go_num, hL2, AB2, O2⟩
        case measure => simp [intOf]; omega
    · have e9 : ¬ k < s.size := hlt
      have HQ : Hid (R = some L) := X1.out.2.2.symm.trans (unK_end (by omega))
      obtain ⟨a, cap, hv', hby, -⟩ := OwnL.slice X1.out.1 AB.out
      have hc := conv_own (P := Try.prog) wr 31 9 5 Try.underlying31 Try.underlying5 Try.underlying9 a cap _ hby
      subst hv'
      clear hby
      go_wp2
      go_ret
      exact ⟨by rw [HQ.out]; rfl, X1.out.2.1⟩

end Go.Proofs.Ytbpdfkngkkopbab
