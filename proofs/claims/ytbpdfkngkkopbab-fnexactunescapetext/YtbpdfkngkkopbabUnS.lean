/- l11Small, l11Un, and UnescapeText of the model. -/
import Derived.Test.YtbpdfkngkkopbabUnP
import Derived.Test.YtbpdfkngkkopbabTests
namespace Go.Proofs.Ytbpdfkngkkopbab
open Go.RowKit Go.PlainAid Go.Sort
set_option linter.unusedVariables false
set_option maxRecDepth 20000

theorem bt_nums (L : List Int) (h : ∀ x ∈ L, 0 ≤ x ∧ x ≤ 255) (j : Nat) (hj : j < L.length) : bt (strOfNums L) j = L.getD j 0 := by
  rw [← strOf_list]
  refine strOf_bt _ _ (fun k => ?_) j hj
  by_cases hk : k < L.length
  · rw [List.getD_eq_getElem?_getD, List.getElem?_eq_getElem hk]; exact h _ (List.getElem_mem hk)
  · rw [List.getD_eq_getElem?_getD, List.getElem?_eq_none (by omega)]; simp
/-- A text in small letters. -/
def smL (f : Nat → Int) : Nat → List Int
  | 0 => []
  | k + 1 => smL f k ++ [sm (f k)]
theorem smL_len (f : Nat → Int) : ∀ k, (smL f k).length = k
  | 0 => rfl
  | k + 1 => by simp [smL, smL_len f k]
theorem smL_bd (f : Nat → Int) (hf : ∀ k, 0 ≤ f k ∧ f k ≤ 255) : ∀ k, ∀ x ∈ smL f k, 0 ≤ x ∧ x ≤ 255
  | 0 => by simp [smL]
  | k + 1 => by
    intro x hx
    simp only [smL, List.mem_append, List.mem_singleton] at hx
    rcases hx with h | h
    · exact smL_bd f hf k x h
    · subst h
      have := hv_is (f k) (hf k).1 (hf k).2
      exact ⟨this.2.2.2.1, this.2.2.2.2.1⟩
set_option maxHeartbeats 1000000 in
theorem l11Small_any (s : ByteArray) (w : World) (hs : s.size ≤ 65536) :
    Calls Try.prog 17 #[.string s] w fun e w' => e = .returned (.string (strOfNums (smL (bt s) s.size))) ∧ Below w.heap.size w w' := by
  have hb := get_bt s
  go_enter Try.func17, Try.ntmps17
  go_wp2
  go_loopw [3, 4] (fun v i wr => ∃ k : Nat, k ≤ s.size ∧ i = .int .i64 k ∧ Hid (OwnL 5 wr w.heap.size v (smL (bt s) k) ∧ Below w.heap.size w wr)) (fun _ i _ => s.size - (intOf i).toNat)
  case atStart => exact ⟨0, Nat.zero_le _, rfl, World.ownsRow_made w #[] 0 (Nat.le_refl _) (Nat.zero_le _) rfl, (Below.refl _ _).alloc (Nat.le_refl _) _⟩
  case round =>
    obtain ⟨k, hk, rfl, X1⟩ := hrel
    have h0 := bt_nonneg s k
    have h1 := bt_le s k
    have hl := smL_len (bt s) k
    by_cases hlt : k < s.size
    · have hlt' : (k : Int) < (s.size : Int) := by omega
      have hk0' : (0 : Int) ≤ (k : Int) := by omega
      have T : Hid (∀ w, Calls Try.prog 25 #[.int .i64 (bt s k), .int .i64 65, .int .i64 90] w fun e w' => e = .returned (.bool (dec (65 ≤ bt s k ∧ bt s k ≤ 90))) ∧ w' = w) := fun w => specIn_any _ 65 90 w
      have HL : Hid ((smL (bt s) k).length = k) := hl
      clear hl
      by_cases hc : 65 ≤ bt s k ∧ bt s k ≤ 90
      · have ed : dec (65 ≤ bt s k ∧ bt s k ≤ 90) = true := by simp [dec]; exact hc
        rw [ed] at T
        obtain ⟨hc1, hc2⟩ := hc
        have HE : Hid (sm (bt s k) = bt s k + 32) := by show _ = _; unfold sm; rw [if_pos ⟨hc1, hc2⟩]
        have hw : IntKind.u8.wrap (bt s k + 32) = bt s k + 32 := by rw [IntKind.wrap_u8]; omega
        clear ed
        have NB : Hid (Boxed (wr.alloc (.cells #[.int .u8 (bt s k + 32)] 5)) wr.heap.size ([(bt s k + 32)].map (Value.int .u8))) := Boxed.new wr ([(bt s k + 32)].map (Value.int .u8)) _
        go_wp2_with (first | (go_at_call 25; refine (T.out _).mono ?_; rintro e w' ⟨rfl, hw⟩; have hw2 := hw.symm; clear hw; subst hw2) | (at_builtin; refine wpl_app _ rfl _ _ rfl w.heap.size _ _ rfl (World.ownsRow.alloc X1.out.1 _) ⟨wr.heap.size, 0, none⟩ 1 1 [(bt s k + 32)] rfl rfl (news_row NB.out) (by have := HL.out; simp; omega) (by have := X1.out.2.size; simp; omega) ?_; intro v1 w1 Y))
        have O2 : Hid (OwnL 5 w1 w.heap.size v1 (smL (bt s) (k + 1)) ∧ Below w.heap.size w w1) := by
          show _ ∧ _
          rw [show smL (bt s) (k + 1) = smL (bt s) k ++ [(bt s k + 32)] from congrArg (smL (bt s) k ++ [·]) HE.out]
          exact ⟨Y.out.own, (X1.out.2.alloc X1.out.2.size _).trans Y.out.below⟩
        clear Y X1 NB
        go_wp2
        go_roundw
        case rel => exact ⟨k + 1, by omega, by go_num, O2⟩
        case measure => simp [intOf]; omega
      · have ed : dec (65 ≤ bt s k ∧ bt s k ≤ 90) = false := by simp [dec]; omega
        rw [ed] at T
        have HE : Hid (sm (bt s k) = bt s k) := by show _ = _; unfold sm; rw [if_neg hc]
        clear ed hc
        have NB : Hid (Boxed (wr.alloc (.cells #[.int .u8 (bt s k)] 5)) wr.heap.size ([(bt s k)].map (Value.int .u8))) := Boxed.new wr ([(bt s k)].map (Value.int .u8)) _
        go_wp2_with (first | (go_at_call 25; refine (T.out _).mono ?_; rintro e w' ⟨rfl, hw⟩; have hw2 := hw.symm; clear hw; subst hw2) | (at_builtin; refine wpl_app _ rfl _ _ rfl w.heap.size _ _ rfl (World.ownsRow.alloc X1.out.1 _) ⟨wr.heap.size, 0, none⟩ 1 1 [(bt s k)] rfl rfl (news_row NB.out) (by have := HL.out; simp; omega) (by have := X1.out.2.size; simp; omega) ?_; intro v1 w1 Y))
        have O2 : Hid (OwnL 5 w1 w.heap.size v1 (smL (bt s) (k + 1)) ∧ Below w.heap.size w w1) := by
          show _ ∧ _
          rw [show smL (bt s) (k + 1) = smL (bt s) k ++ [(bt s k)] from congrArg (smL (bt s) k ++ [·]) HE.out]
          exact ⟨Y.out.own, (X1.out.2.alloc X1.out.2.size _).trans Y.out.below⟩
        clear Y X1 NB
        go_wp2
        go_roundw
        case rel => exact ⟨k + 1, by omega, by go_num, O2⟩
        case measure => simp [intOf]; omega
    · have e9 : ¬ k < s.size := hlt
      clear hl
      have hke : k = s.size := by omega
      have HQ : Hid (smL (bt s) k = smL (bt s) s.size) := by show _ = _; rw [hke]
      clear hke
      obtain ⟨a, cap, hv', hby, -⟩ := OwnL.slice X1.out.1 (smL_bd (bt s) (fun k => ⟨bt_nonneg s k, bt_le s k⟩) k)
      have hc := conv_own (P := Try.prog) wr 31 9 5 Try.underlying31 Try.underlying5 Try.underlying9 a cap _ hby
      subst hv'
      clear hby
      go_wp2
      go_ret
      exact ⟨by rw [← HQ.out]; rfl, X1.out.2⟩
theorem owns_keepL {e : TypeId} {w w' : World} {B : Nat} {v : Value} {L : List Int} (h : OwnL e w B v L) (hb : Below w.heap.size w w') : OwnL e w' B v L := by
  refine ⟨h.1, ?_⟩
  rcases h.2 with hn | ⟨g, cap, cur, h1, hB, hg, rest⟩
  · exact .inl hn
  · exact .inr ⟨g, cap, cur, h1, hB, (hb.block g ((World.ownsRow.lt h g (by rw [h1]; rfl)).2)).trans hg, rest⟩

/-- How the model's reader of escapes ends. -/
def enU : Option (List Int) → Ending
  | some L => .returned (.tuple #[.string (strOfNums L), .bool true])
  | none => .returned (.tuple #[.string ⟨#[]⟩, .bool false])
set_option maxHeartbeats 2000000 in
theorem l11Un_any (s : ByteArray) (R : Option (List Int)) (w : World) (hs : s.size ≤ 65536) (hR : unK (bt s) s.size 0 [] = R) :
    Calls Try.prog 12 #[.string s] w fun e w' => e = enU R ∧ Below w.heap.size w w' := by
  have hb := get_bt s
  have HR : Hid (unK (bt s) s.size 0 [] = R) := hR
  clear hR
  go_enter Try.func12, Try.ntmps12
  go_wp2
  go_loopw [4, 5] (fun v i wr => ∃ (k : Nat) (L : List Int), k ≤ s.size ∧ i = .int .i64 k ∧ L.length ≤ k ∧ Hid (∀ x ∈ L, 0 ≤ x ∧ x ≤ 255) ∧ Hid (OwnL 5 wr w.heap.size v L ∧ Below w.heap.size w wr ∧ unK (bt s) s.size k L = R)) (fun _ i _ => s.size - (intOf i).toNat)
  case atStart => exact ⟨0, [], Nat.zero_le _, rfl, Nat.le_refl _, (fun x hx => by simp at hx), World.ownsRow_made w #[] 0 (Nat.le_refl _) (Nat.zero_le _) rfl, (Below.refl _ _).alloc (Nat.le_refl _) _, HR.out⟩
  case round =>
    obtain ⟨k, L, hk, rfl, hL, AB, X1⟩ := hrel
    clear HR
    have h0 := bt_nonneg s k
    have h1 := bt_le s k
    by_cases hlt : k < s.size
    · have hlt' : (k : Int) < (s.size : Int) := by omega
      have hk0' : (0 : Int) ≤ (k : Int) := by omega
      by_cases e43 : bt s k = 43
      · have t1 : (bt s k == 43) = true := by simp [e43]
        have E43 : Hid (bt s k = 43) := e43
        have AB2 : Hid (∀ x ∈ L ++ [32], 0 ≤ x ∧ x ≤ 255) := by intro x hx; rw [List.mem_append] at hx; rcases hx with h | h; exact AB.out x h; simp at h; omega
        clear e43
        have NB : Hid (Boxed (wr.alloc (.cells #[.int .u8 32] 5)) wr.heap.size ([32].map (Value.int .u8))) := Boxed.new wr ([32].map (Value.int .u8)) _
        go_wp2_with (at_builtin; refine wpl_app _ rfl _ _ rfl w.heap.size _ _ rfl (World.ownsRow.alloc X1.out.1 _) ⟨wr.heap.size, 0, none⟩ 1 1 [32] rfl rfl (news_row NB.out) (by simp; omega) (by have := X1.out.2.1.size; simp; omega) ?_; intro v1 w1 Y)
        have O2 : Hid (OwnL 5 w1 w.heap.size v1 (L ++ [32]) ∧ Below w.heap.size w w1 ∧ unK (bt s) s.size (k + 1) (L ++ [32]) = R) := ⟨Y.out.own, (X1.out.2.1.alloc X1.out.2.1.size _).trans Y.out.below, (unK_plus hlt E43.out).symm.trans X1.out.2.2⟩
        have hL2 : (L ++ [32]).length ≤ k + 1 := by simp; omega
        clear Y X1 NB
        go_wp2
        go_roundw
        case rel => exact ⟨k + 1, L ++ [32], by omega, by go_num, hL2, AB2, O2⟩
        case measure => simp [intOf]; omega
      have t1 : (bt s k == 43) = false := by simp [e43]
      by_cases e37 : bt s k = 37
      · have t2 : (bt s k == 37) = true := by simp [e37]
        have E37 : Hid (bt s k = 37) := e37
        clear e37 e43
        by_cases g1 : k + 2 < s.size
        · have t3 : decide ((s.size : Int) ≤ (k : Int) + 2) = false := decide_eq_false (by omega)
          have hz : (s.extract (k + 1) (k + 3)).size = 2 := by rw [ext_size s (k + 1) (k + 3) (by omega) (by omega)]; omega
          have y0 : bt (s.extract (k + 1) (k + 3)) 0 = bt s (k + 1) := bt_ext s (k + 1) (k + 3) 0 (by omega) (by omega)
          have y1 : bt (s.extract (k + 1) (k + 3)) 1 = bt s (k + 2) := bt_ext s (k + 1) (k + 3) 1 (by omega) (by omega)
          have hx := hv_is (bt s (k + 1)) (bt_nonneg _ _) (bt_le _ _)
          have hy := hv_is (bt s (k + 2)) (bt_nonneg _ _) (bt_le _ _)
          have es : smL (bt (s.extract (k + 1) (k + 3))) 2 = [sm (bt s (k + 1)), sm (bt s (k + 2))] := by simp [smL, y0, y1]
          have T : Hid (∀ w, Calls Try.prog 17 #[.string (s.extract (k + 1) (k + 3))] w fun e w' => e = .returned (.string (strOfNums [sm (bt s (k + 1)), sm (bt s (k + 2))])) ∧ Below w.heap.size w w') := by
            intro w
            have := l11Small_any (s.extract (k + 1) (k + 3)) w (by omega)
            rw [hz, es] at this
            exact this
          have SB : ∀ x ∈ [sm (bt s (k + 1)), sm (bt s (k + 2))], 0 ≤ x ∧ x ≤ 255 := by
            intro x hx'
            simp at hx'
            rcases hx' with rfl | rfl
            · exact ⟨hx.2.2.2.1, hx.2.2.2.2.1⟩
            · exact ⟨hy.2.2.2.1, hy.2.2.2.2.1⟩
          have z0 : bt (strOfNums [sm (bt s (k + 1)), sm (bt s (k + 2))]) 0 = sm (bt s (k + 1)) := bt_nums _ SB 0 (by simp)
          have z1 : bt (strOfNums [sm (bt s (k + 1)), sm (bt s (k + 2))]) 1 = sm (bt s (k + 2)) := bt_nums _ SB 1 (by simp)
          have zs : (strOfNums [sm (bt s (k + 1)), sm (bt s (k + 2))]).size = 2 := by rw [strOfNums_size]; rfl
          have gz := get_bt (strOfNums [sm (bt s (k + 1)), sm (bt s (k + 2))])
          have D0 : Hid (∀ w, Calls Try.prog 18 #[.int .u8 (sm (bt s (k + 1)))] w fun e w' => e = .returned (.int .i64 (hv (bt s (k + 1)))) ∧ w' = w) := fun w => by rw [hx.1]; exact l01Half_any _ w hx.2.2.2.1 hx.2.2.2.2.1
          have D1 : Hid (∀ w, Calls Try.prog 18 #[.int .u8 (sm (bt s (k + 2)))] w fun e w' => e = .returned (.int .i64 (hv (bt s (k + 2)))) ∧ w' = w) := fun w => by rw [hy.1]; exact l01Half_any _ w hy.2.2.2.1 hy.2.2.2.2.1
          have HP : Hid (0 ≤ hv (bt s (k + 1)) → 0 ≤ hv (bt s (k + 2)) → unK (bt s) s.size k L = unK (bt s) s.size (k + 3) (L ++ [16 * hv (bt s (k + 1)) + hv (bt s (k + 2))])) := fun a b => unK_pct hlt E37.out g1 a b
          have HN : Hid (¬ (0 ≤ hv (bt s (k + 1)) ∧ 0 ≤ hv (bt s (k + 2))) → unK (bt s) s.size k L = none) := fun h => unK_bad hlt E37.out (fun h2 => h h2.2)
          have v1 := hx.2.2.1
          have v2 := hy.2.2.1
          clear hx hy SB es y0 y1 hz
          generalize strOfNums [sm (bt s (k + 1)), sm (bt s (k + 2))] = S at *
          generalize sm (bt s (k + 1)) = c0 at *
          generalize sm (bt s (k + 2)) = c1 at *
          generalize hv (bt s (k + 1)) = a at *
          generalize hv (bt s (k + 2)) = b at *
          have zt : (1 : Int) < (S.size : Int) := by omega
          have zt0 : (0 : Int) < (S.size : Int) := by omega
          have ZS : Hid (S.size = 2) := zs
          clear zs
          by_cases ha : 0 ≤ a
          · have t4 : decide (a < 0) = false := decide_eq_false (by omega)
            by_cases hb' : 0 ≤ b
            · have t5 : decide (b < 0) = false := decide_eq_false (by omega)
              have HQ : Hid (unK (bt s) s.size k L = unK (bt s) s.size (k + 3) (L ++ [16 * a + b])) := HP.out ha hb'
              have AB2 : Hid (∀ x ∈ L ++ [16 * a + b], 0 ≤ x ∧ x ≤ 255) := by intro x hx; rw [List.mem_append] at hx; rcases hx with h | h; exact AB.out x h; simp at h; omega
              have j3 : IntKind.u8.wrap (16 * a + b) = 16 * a + b := by rw [IntKind.wrap_u8]; omega
              clear HP HN
              go_wp2_with fail
              refine (T.out _).mono ?_
              rintro e w5 ⟨rfl, b5⟩
              have X5 : Hid (OwnL 5 w5 w.heap.size u4 L ∧ Below w.heap.size w w5 ∧ unK (bt s) s.size k L = R) := ⟨owns_keepL X1.out.1 b5, X1.out.2.1.trans (b5.mono X1.out.2.1.size), X1.out.2.2⟩
              clear X1 T b5
              have X1 := X5
              clear X5
              go_wp2_with fail
              refine (D0.out _).mono ?_
              rintro e w1 ⟨rfl, hw⟩
              subst hw
              go_wp2_with fail
              refine (D1.out _).mono ?_
              rintro e w5b ⟨rfl, hw⟩
              subst hw
              have NB : Hid (Boxed (w5b.alloc (.cells #[.int .u8 (16 * a + b)] 5)) w5b.heap.size ([16 * a + b].map (Value.int .u8))) := Boxed.new w5b ([16 * a + b].map (Value.int .u8)) _
              go_wp2_with (at_builtin; refine wpl_app _ rfl _ _ rfl w.heap.size _ _ rfl (World.ownsRow.alloc X1.out.1 _) ⟨w5b.heap.size, 0, none⟩ 1 1 [16 * a + b] rfl rfl (news_row NB.out) (by simp; omega) (by have := X1.out.2.1.size; simp; omega) ?_; intro v1 w1 Y)
              have O2 : Hid (OwnL 5 w1 w.heap.size v1 (L ++ [16 * a + b]) ∧ Below w.heap.size w w1 ∧ unK (bt s) s.size (k + 3) (L ++ [16 * a + b]) = R) := ⟨Y.out.own, (X1.out.2.1.alloc X1.out.2.1.size _).trans Y.out.below, HQ.out.symm.trans X1.out.2.2⟩
              have hL2 : (L ++ [16 * a + b]).length ≤ k + 3 := by simp; omega
              clear Y X1 NB
              go_wp2
              go_roundw
              case rel => exact ⟨k + 3, L ++ [16 * a + b], by omega, by go_num, hL2, AB2, O2⟩
              case measure => simp [intOf]; omega
            · have t5 : decide (b < 0) = true := decide_eq_true (by omega)
              have HQ : Hid (R = none) := X1.out.2.2.symm.trans (HN.out (fun h => hb' h.2))
              clear HP HN
              go_wp2_with fail
              refine (T.out _).mono ?_
              rintro e w5 ⟨rfl, b5⟩
              have B5 : Hid (Below w.heap.size w w5) := X1.out.2.1.trans (b5.mono X1.out.2.1.size)
              clear b5
              go_wp2_with fail
              refine (D0.out _).mono ?_
              rintro e w1 ⟨rfl, hw⟩
              subst hw
              go_wp2_with fail
              refine (D1.out _).mono ?_
              rintro e w1 ⟨rfl, hw⟩
              subst hw
              go_wp2
              go_ret2
              exact ⟨by rw [HQ.out]; rfl, B5.out⟩
          · have t4 : decide (a < 0) = true := decide_eq_true (by omega)
            have HQ : Hid (R = none) := X1.out.2.2.symm.trans (HN.out (fun h => ha h.1))
            clear HP HN
            go_wp2_with fail
            refine (T.out _).mono ?_
            rintro e w5 ⟨rfl, b5⟩
            have B5 : Hid (Below w.heap.size w w5) := X1.out.2.1.trans (b5.mono X1.out.2.1.size)
            clear b5
            go_wp2_with fail
            refine (D0.out _).mono ?_
            rintro e w1 ⟨rfl, hw⟩
            subst hw
            go_wp2_with fail
            refine (D1.out _).mono ?_
            rintro e w1 ⟨rfl, hw⟩
            subst hw
            go_wp2
            go_ret2
            exact ⟨by rw [HQ.out]; rfl, B5.out⟩
        · have t3 : decide ((s.size : Int) ≤ (k : Int) + 2) = true := decide_eq_true (by omega)
          have HQ : Hid (R = none) := X1.out.2.2.symm.trans (unK_bad hlt E37.out (fun h => g1 h.1))
          go_wp2
          go_ret2
          exact ⟨by rw [HQ.out]; rfl, X1.out.2.1⟩
      · have t2 : (bt s k == 37) = false := by simp [e37]
        have HQ : Hid (unK (bt s) s.size k L = unK (bt s) s.size (k + 1) (L ++ [bt s k])) := unK_self hlt e43 e37
        have AB2 : Hid (∀ x ∈ L ++ [bt s k], 0 ≤ x ∧ x ≤ 255) := by intro x hx; rw [List.mem_append] at hx; rcases hx with h | h; exact AB.out x h; simp at h; omega
        clear e43 e37
        have NB : Hid (Boxed (wr.alloc (.cells #[.int .u8 (bt s k)] 5)) wr.heap.size ([bt s k].map (Value.int .u8))) := Boxed.new wr ([bt s k].map (Value.int .u8)) _
        go_wp2_with (at_builtin; refine wpl_app _ rfl _ _ rfl w.heap.size _ _ rfl (World.ownsRow.alloc X1.out.1 _) ⟨wr.heap.size, 0, none⟩ 1 1 [bt s k] rfl rfl (news_row NB.out) (by simp; omega) (by have := X1.out.2.1.size; simp; omega) ?_; intro v1 w1 Y)
        have O2 : Hid (OwnL 5 w1 w.heap.size v1 (L ++ [bt s k]) ∧ Below w.heap.size w w1 ∧ unK (bt s) s.size (k + 1) (L ++ [bt s k]) = R) := ⟨Y.out.own, (X1.out.2.1.alloc X1.out.2.1.size _).trans Y.out.below, HQ.out.symm.trans X1.out.2.2⟩
        have hL2 : (L ++ [bt s k]).length ≤ k + 1 := by simp; omega
        clear Y X1 NB
        go_wp2
        go_roundw
        case rel => exact ⟨k + 1, L ++ [bt s k], by omega, by go_num, hL2, AB2, O2⟩
        case measure => simp [intOf]; omega
    · have e9 : ¬ k < s.size := hlt
      have HQ : Hid (R = some L) := X1.out.2.2.symm.trans (unK_end (by omega))
      obtain ⟨a, cap, hv', hby, -⟩ := OwnL.slice X1.out.1 AB.out
      have hc := conv_own (P := Try.prog) wr 31 9 5 Try.underlying31 Try.underlying5 Try.underlying9 a cap _ hby
      subst hv'
      clear hby
      go_wp2
      go_ret2
      exact ⟨by rw [HQ.out]; rfl, X1.out.2.1⟩

end Go.Proofs.Ytbpdfkngkkopbab
