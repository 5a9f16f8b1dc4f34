/- Texts with escapes: EscapeText, the program's and the model's. -/
import Derived.Test.YtappekglflgodaaDoorName
import Derived.Test.YtappekglflgodaaDoorMac
import Derived.Test.YtappekglflgodaaDoorApp
import Derived.Test.YtappekglflgodaaDoorIdxB
namespace Go.Proofs.YtappekglflgodaaDoor
open Go.RowKit Go.PlainAid
set_option linter.unusedVariables false
set_option maxRecDepth 20000

/-- The sixteen digits, capitals. -/
def caps : ByteArray := ⟨#[48, 49, 50, 51, 52, 53, 54, 55, 56, 57, 65, 66, 67, 68, 69, 70]⟩
def cx (n : Int) : Int := bt caps n.toNat
theorem cx_bd (n : Int) : 0 ≤ cx n ∧ cx n ≤ 255 := ⟨bt_nonneg _ _, bt_le _ _⟩
/-- A byte that stands for itself. -/
def esB (c : Int) : Bool := letB c || digB c || (c == 45) || (c == 46)
/-- A byte's escape; a text's. -/
def esL (c : Int) : List Int := if esB c = true then [c] else if c = 32 then [43] else [37, cx (c / 16), cx (c % 16)]
def ess (f : Nat → Int) : Nat → List Int
  | 0 => []
  | k + 1 => ess f k ++ esL (f k)
theorem esL_len (c : Int) : (esL c).length ≤ 3 := by unfold esL; split <;> (try split) <;> simp
theorem esL_pos (c : Int) : 1 ≤ (esL c).length := by unfold esL; split <;> (try split) <;> simp
theorem ess_len (f : Nat → Int) : ∀ k : Nat, (ess f k).length ≤ 3 * k
  | 0 => by simp [ess]
  | k + 1 => by have := ess_len f k; have := esL_len (f k); simp [ess]; omega
theorem esL_bd (c : Int) (h0 : 0 ≤ c) (h1 : c ≤ 255) : ∀ x ∈ esL c, 0 ≤ x ∧ x ≤ 255 := by
  intro x hx
  unfold esL at hx
  split at hx
  · simp at hx; omega
  · split at hx
    · simp at hx; omega
    · simp only [List.mem_cons, List.not_mem_nil, or_false] at hx
      rcases hx with h | h | h
      · omega
      · subst h; exact cx_bd _
      · subst h; exact cx_bd _
theorem ess_bd (f : Nat → Int) (hf : ∀ k, 0 ≤ f k ∧ f k ≤ 255) : ∀ k : Nat, ∀ x ∈ ess f k, 0 ≤ x ∧ x ≤ 255
  | 0 => by simp [ess]
  | k + 1 => by
    have := ess_bd f hf k
    intro x hx
    simp only [ess, List.mem_append] at hx
    rcases hx with h | h
    · exact this x h
    · exact esL_bd _ (hf k).1 (hf k).2 x h
theorem esL_self {c : Int} (h : esB c = true) : esL c = [c] := by unfold esL; rw [if_pos h]
theorem esL_32 : esL 32 = [43] := by decide
theorem esL_more {c : Int} (h : esB c = false) (h2 : c ≠ 32) : esL c = [37, cx (c / 16), cx (c % 16)] := by unfold esL; rw [if_neg (by simp [h]), if_neg h2]

/-- Whether a byte stands in a text. -/
def inS (s : List UInt8) (c : Int) : Bool := decide (0 ≤ Lib.indexByte s c.toNat.toUInt8)
theorem inS_esc (c : Int) (h0 : 0 ≤ c) (h1 : c ≤ 255) : inS [45, 46, 95] c = ((c == 45) || (c == 46) || (c == 95)) := by
  have h : ∀ n : Fin 256, inS [45, 46, 95] (n.val : Int) = (((n.val : Int) == 45) || ((n.val : Int) == 46) || ((n.val : Int) == 95)) := by decide +kernel
  obtain ⟨n, rfl⟩ := Int.eq_ofNat_of_zero_le h0
  exact h ⟨n, by omega⟩
def wsB (s : List UInt8) (c : Int) : Bool := letB c || digB c || inS s c
theorem wsB_esc (c : Int) (h0 : 0 ≤ c) (h1 : c ≤ 255) : wsB [45, 46, 95] c = esB c := by
  unfold wsB esB
  rw [inS_esc c h0 h1]
  by_cases h : c = 95
  · subst h; decide
  · have : (c == 95) = false := by simp [h]
    rw [this]; simp [Bool.or_assoc]
theorem isWordSign_any (c : Int) (s : ByteArray) (w : World) (h0 : 0 ≤ c) (h1 : c ≤ 255) :
    Calls Tryd.prog 63 #[.int .u8 c, .string s] w fun e w' => e = .returned (.bool (wsB s.data.toList c)) ∧ w' = w := by
  unfold wsB
  have T1 : Hid (∀ w, Calls Tryd.prog 99 #[.int .u8 c] w fun e w' => e = .returned (.bool (letB c)) ∧ w' = w) := fun w => isLetter_any c w
  have T2 : Hid (∀ w, Calls Tryd.prog 100 #[.int .u8 c] w fun e w' => e = .returned (.bool (digB c)) ∧ w' = w) := fun w => isDigit_any c w
  generalize letB c = t1 at T1 ⊢
  generalize digB c = t2 at T2 ⊢
  cases t1 with
  | true =>
    go_enter Tryd.func63, Tryd.ntmps63
    go_wp2_with fail
    refine (T1.out _).mono ?_
    rintro e w1 ⟨rfl, hw⟩
    subst hw
    go_wp2
    go_ret
    exact ⟨rfl, rfl⟩
  | false =>
    cases t2 with
    | true =>
      go_enter Tryd.func63, Tryd.ntmps63
      go_wp2_with fail
      refine (T1.out _).mono ?_
      rintro e w1 ⟨rfl, hw⟩
      subst hw
      go_wp2_with fail
      refine (T2.out _).mono ?_
      rintro e w1 ⟨rfl, hw⟩
      subst hw
      go_wp2
      go_ret
      exact ⟨rfl, rfl⟩
    | false =>
      go_enter Tryd.func63, Tryd.ntmps63
      go_wp2_with fail
      refine (T1.out _).mono ?_
      rintro e w1 ⟨rfl, hw⟩
      subst hw
      go_wp2_with fail
      refine (T2.out _).mono ?_
      rintro e w1 ⟨rfl, hw⟩
      subst hw
      go_wp2_with (go_at_call 101; refine (idxB_any _ _ _).mono ?_; rintro e w' ⟨rfl, rfl⟩)
      go_wp2
      go_ret
      exact ⟨rfl, rfl⟩

set_option maxHeartbeats 1000000 in
set_option maxRecDepth 100000 in
theorem l11Escape_any (s : ByteArray) (w : World) (hs : s.size ≤ 65536) :
    Calls Tryd.prog 36 #[.string s] w fun e w' => e = .returned (.string (strOfNums (ess (bt s) s.size))) ∧ Below w.heap.size w w' := by
  obtain ⟨i0, hi, hz0, hz1, hz2⟩ := info_parts Tryd.infoByte
  have hb := get_bt s
  have hbx : ∀ (n : Nat) (h : n < (⟨#[48, 49, 50, 51, 52, 53, 54, 55, 56, 57, 65, 66, 67, 68, 69, 70]⟩ : ByteArray).size), (((⟨#[48, 49, 50, 51, 52, 53, 54, 55, 56, 57, 65, 66, 67, 68, 69, 70]⟩ : ByteArray)[n]'h).toNat : Int) = bt caps n := get_bt caps
  go_enter Tryd.func36, Tryd.ntmps36
  go_wp2
  go_loopw [3, 4] (fun v i wr => ∃ k : Nat, k ≤ s.size ∧ i = .int .i64 k ∧ OwnL 5 wr w.heap.size v (ess (bt s) k) ∧ Below w.heap.size w wr) (fun _ i _ => s.size - (intOf i).toNat)
  case atStart => exact ⟨0, Nat.zero_le _, rfl, World.ownsRow_made w #[] 0 (Nat.le_refl _) (Nat.zero_le _) rfl, (Below.refl _ _).alloc (Nat.le_refl _) _⟩
  case round =>
    obtain ⟨k, hk, rfl, hown, hnx⟩ := hrel
    have hB : Hid (Below w.heap.size w wr) := hnx
    have hO : Hid (OwnL 5 wr w.heap.size u3 (ess (bt s) k)) := hown
    have hlen := ess_len (bt s) k
    clear hnx hown
    have h0 := bt_nonneg s k
    have h1 := bt_le s k
    by_cases hlt : k < s.size
    · have t3 : IntKind.u8.wrap (bt s k / 16) = bt s k / 16 := by rw [IntKind.wrap_u8]; omega
      have hand := u8_and15 (bt s k) h0 h1
      have q1 : 0 ≤ bt s k / 16 := by omega
      have q2 : bt s k / 16 < 16 := by omega
      have q3 : 0 ≤ bt s k % 16 := by omega
      have q4 : bt s k % 16 < 16 := by omega
      have hlt' : (k : Int) < (s.size : Int) := by omega
      have hk0' : (0 : Int) ≤ (k : Int) := by omega
      have T1 : Hid (∀ w, Calls Tryd.prog 67 #[.int .u8 (bt s k)] w fun e w' => e = .returned (.bool (letB (bt s k))) ∧ w' = w) := fun w => l00Letter_any _ w
      have T2 : Hid (∀ w, Calls Tryd.prog 68 #[.int .u8 (bt s k)] w fun e w' => e = .returned (.bool (digB (bt s k))) ∧ w' = w) := fun w => l00Digit_any _ w
      cases hl : letB (bt s k)
      · cases hg : digB (bt s k)
        · rw [hl] at T1
          rw [hg] at T2
          have h95 : (bt s k == 95) = false := by
            rw [beq_eq_false_iff_ne]; intro e; rw [e] at hl; exact absurd hl (by decide)
          by_cases e45 : bt s k = 45
          · have HE : Hid (esB (bt s k) = true) := by show _ = _; rw [e45]; decide
            have h45 : (bt s k == 45) = true := by simp [e45]
            clear e45 hl hg h95
            have NB : Hid (Boxed (wr.alloc (.cells #[.int .u8 (bt s k)] 5)) wr.heap.size ([(bt s k)].map (Value.int .u8))) := Boxed.new wr ([(bt s k)].map (Value.int .u8)) _
            go_wp2_with (first | (go_at_call 67; refine (T1.out _).mono ?_; rintro e w' ⟨rfl, hw⟩; have hw2 := hw.symm; clear hw; subst hw2) | (go_at_call 68; refine (T2.out _).mono ?_; rintro e w' ⟨rfl, hw⟩; have hw2 := hw.symm; clear hw; subst hw2) | (at_builtin; refine wpl_app _ rfl _ _ rfl w.heap.size _ _ rfl (World.ownsRow.alloc hO.out _) ⟨wr.heap.size, 0, none⟩ 1 1 [(bt s k)] rfl rfl (news_row NB.out) (by simp; omega) (by have := hB.out.size; simp; omega) ?_; intro v1 w1 Y))
            have O2 : Hid (OwnL 5 w1 w.heap.size v1 (ess (bt s) (k + 1)) ∧ Below w.heap.size w w1) := by
              show _ ∧ _
              rw [show ess (bt s) (k + 1) = ess (bt s) k ++ [(bt s k)] from congrArg (ess (bt s) k ++ ·) (esL_self HE.out)]
              exact ⟨Y.out.own, (hB.out.alloc hB.out.size _).trans (Y.out.below)⟩
            clear Y
            go_wp2
            go_roundw
            case rel => exact ⟨k + 1, by omega, by go_num, O2.out.1, O2.out.2⟩
            case measure => simp [intOf]; omega
          by_cases e46 : bt s k = 46
          · have HE : Hid (esB (bt s k) = true) := by show _ = _; rw [e46]; decide
            have h45 : (bt s k == 45) = false := by simp [e45]
            have h46 : (bt s k == 46) = true := by simp [e46]
            clear e45 e46 hl hg h95
            have NB : Hid (Boxed (wr.alloc (.cells #[.int .u8 (bt s k)] 5)) wr.heap.size ([(bt s k)].map (Value.int .u8))) := Boxed.new wr ([(bt s k)].map (Value.int .u8)) _
            go_wp2_with (first | (go_at_call 67; refine (T1.out _).mono ?_; rintro e w' ⟨rfl, hw⟩; have hw2 := hw.symm; clear hw; subst hw2) | (go_at_call 68; refine (T2.out _).mono ?_; rintro e w' ⟨rfl, hw⟩; have hw2 := hw.symm; clear hw; subst hw2) | (at_builtin; refine wpl_app _ rfl _ _ rfl w.heap.size _ _ rfl (World.ownsRow.alloc hO.out _) ⟨wr.heap.size, 0, none⟩ 1 1 [(bt s k)] rfl rfl (news_row NB.out) (by simp; omega) (by have := hB.out.size; simp; omega) ?_; intro v1 w1 Y))
            have O2 : Hid (OwnL 5 w1 w.heap.size v1 (ess (bt s) (k + 1)) ∧ Below w.heap.size w w1) := by
              show _ ∧ _
              rw [show ess (bt s) (k + 1) = ess (bt s) k ++ [(bt s k)] from congrArg (ess (bt s) k ++ ·) (esL_self HE.out)]
              exact ⟨Y.out.own, (hB.out.alloc hB.out.size _).trans (Y.out.below)⟩
            clear Y
            go_wp2
            go_roundw
            case rel => exact ⟨k + 1, by omega, by go_num, O2.out.1, O2.out.2⟩
            case measure => simp [intOf]; omega
          have h45 : (bt s k == 45) = false := by simp [e45]
          have h46 : (bt s k == 46) = false := by simp [e46]
          have HE : Hid (esB (bt s k) = false) := by show _ = _; unfold esB; rw [hl, hg, h45, h46]; rfl
          by_cases e32 : bt s k = 32
          · have h32 : (bt s k == 32) = true := by simp [e32]
            have HE32 : Hid (bt s k = 32) := e32
            clear e32 e45 e46 hl hg HE
            have NB : Hid (Boxed (wr.alloc (.cells #[.int .u8 43] 5)) wr.heap.size ([43].map (Value.int .u8))) := Boxed.new wr ([43].map (Value.int .u8)) _
            go_wp2_with (first | (go_at_call 67; refine (T1.out _).mono ?_; rintro e w' ⟨rfl, hw⟩; have hw2 := hw.symm; clear hw; subst hw2) | (go_at_call 68; refine (T2.out _).mono ?_; rintro e w' ⟨rfl, hw⟩; have hw2 := hw.symm; clear hw; subst hw2) | (at_builtin; refine wpl_app _ rfl _ _ rfl w.heap.size _ _ rfl (World.ownsRow.alloc hO.out _) ⟨wr.heap.size, 0, none⟩ 1 1 [43] rfl rfl (news_row NB.out) (by simp; omega) (by have := hB.out.size; simp; omega) ?_; intro v1 w1 Y))
            have O2 : Hid (OwnL 5 w1 w.heap.size v1 (ess (bt s) (k + 1)) ∧ Below w.heap.size w w1) := by
              show _ ∧ _
              rw [show ess (bt s) (k + 1) = ess (bt s) k ++ [43] from congrArg (ess (bt s) k ++ ·) (by rw [HE32.out]; exact esL_32)]
              exact ⟨Y.out.own, (hB.out.alloc hB.out.size _).trans (Y.out.below)⟩
            clear Y
            go_wp2
            go_roundw
            case rel => exact ⟨k + 1, by omega, by go_num, O2.out.1, O2.out.2⟩
            case measure => simp [intOf]; omega
          · have h32 : bt s k ≠ 32 := e32
            have h32' : (bt s k == 32) = false := by simp [e32]
            clear e45 e46 e32 hl hg
            go_wp2_with (first | (go_at_call 67; refine (T1.out _).mono ?_; rintro e w' ⟨rfl, hw⟩; have hw2 := hw.symm; clear hw; subst hw2) | (go_at_call 68; refine (T2.out _).mono ?_; rintro e w' ⟨rfl, hw⟩; have hw2 := hw.symm; clear hw; subst hw2))
            go_region_held3 (fun _ => True) (trivial) ((refine step_append_lies _ (by rfl) _ _ _ (by rfl) w.heap.size 5 i0 _ 1 1 Tryd.underlying22 hi hz0 hz1 hz2 rfl (by omega) u3 (ess (bt s) k).length ((ess (bt s) k).map (.int .u8)) (by rfl) ((World.ownsRow.alloc hO.out _).drew) ⟨wr.heap.size, 0, none⟩ 3 3 [.int .u8 37, .int .u8 (cx (bt s k / 16)), .int .u8 (cx (bt s k % 16))] (by rfl) (by rfl) (World.news_of_block (cs := #[.int .u8 37, .int .u8 (cx (bt s k / 16)), .int .u8 (cx (bt s k % 16))]) (t := 5) (fr := (0, 0)) (heap_alloc_new wr _)) (by simp [Value.oneCell']) (by omega) (by unfold maxLen; omega) (by omega) (by have := hB.out.size; simp; omega) (wr.heap.size + 1) (by simp) ?_; intro g cap w1 hown1 hgrow hat hltt))
            all_goals
              have O2 : Hid (OwnL 5 w1 w.heap.size (.slice (some ⟨g, 0, none⟩) ((ess (bt s) k).length + 3) cap) (ess (bt s) (k + 1)) ∧ Below w.heap.size w w1) := by
                show _ ∧ _
                rw [show ess (bt s) (k + 1) = ess (bt s) k ++ [37, cx (bt s k / 16), cx (bt s k % 16)] from congrArg (ess (bt s) k ++ ·) (esL_more HE.out h32)]
                exact ⟨by unfold OwnL; simpa using hown1, ((hB.out.alloc hB.out.size _).drew).grown hgrow (by have := hB.out.size; simp; omega) (fun q hq => (World.ownsRow.lt hO.out q hq).1)⟩
              clear hown1 hgrow hat hltt
              go_wp2
              go_roundw
              case rel => exact ⟨k + 1, by omega, by go_num, O2.out.1, O2.out.2⟩
              case measure => simp [intOf]; omega
        · have HE : Hid (esB (bt s k) = true) := by show _ = _; unfold esB; rw [hl, hg]; rfl
          rw [hl] at T1
          rw [hg] at T2
          clear hl hg
          have NB : Hid (Boxed (wr.alloc (.cells #[.int .u8 (bt s k)] 5)) wr.heap.size ([(bt s k)].map (Value.int .u8))) := Boxed.new wr ([(bt s k)].map (Value.int .u8)) _
          go_wp2_with (first | (go_at_call 67; refine (T1.out _).mono ?_; rintro e w' ⟨rfl, hw⟩; have hw2 := hw.symm; clear hw; subst hw2) | (go_at_call 68; refine (T2.out _).mono ?_; rintro e w' ⟨rfl, hw⟩; have hw2 := hw.symm; clear hw; subst hw2) | (at_builtin; refine wpl_app _ rfl _ _ rfl w.heap.size _ _ rfl (World.ownsRow.alloc hO.out _) ⟨wr.heap.size, 0, none⟩ 1 1 [(bt s k)] rfl rfl (news_row NB.out) (by simp; omega) (by have := hB.out.size; simp; omega) ?_; intro v1 w1 Y))
          have O2 : Hid (OwnL 5 w1 w.heap.size v1 (ess (bt s) (k + 1)) ∧ Below w.heap.size w w1) := by
            show _ ∧ _
            rw [show ess (bt s) (k + 1) = ess (bt s) k ++ [(bt s k)] from congrArg (ess (bt s) k ++ ·) (esL_self HE.out)]
            exact ⟨Y.out.own, (hB.out.alloc hB.out.size _).trans (Y.out.below)⟩
          clear Y
          go_wp2
          go_roundw
          case rel => exact ⟨k + 1, by omega, by go_num, O2.out.1, O2.out.2⟩
          case measure => simp [intOf]; omega
      · have HE : Hid (esB (bt s k) = true) := by show _ = _; unfold esB; rw [hl]; rfl
        rw [hl] at T1
        clear hl
        have NB : Hid (Boxed (wr.alloc (.cells #[.int .u8 (bt s k)] 5)) wr.heap.size ([(bt s k)].map (Value.int .u8))) := Boxed.new wr ([(bt s k)].map (Value.int .u8)) _
        go_wp2_with (first | (go_at_call 67; refine (T1.out _).mono ?_; rintro e w' ⟨rfl, hw⟩; have hw2 := hw.symm; clear hw; subst hw2) | (go_at_call 68; refine (T2.out _).mono ?_; rintro e w' ⟨rfl, hw⟩; have hw2 := hw.symm; clear hw; subst hw2) | (at_builtin; refine wpl_app _ rfl _ _ rfl w.heap.size _ _ rfl (World.ownsRow.alloc hO.out _) ⟨wr.heap.size, 0, none⟩ 1 1 [(bt s k)] rfl rfl (news_row NB.out) (by simp; omega) (by have := hB.out.size; simp; omega) ?_; intro v1 w1 Y))
        have O2 : Hid (OwnL 5 w1 w.heap.size v1 (ess (bt s) (k + 1)) ∧ Below w.heap.size w w1) := by
          show _ ∧ _
          rw [show ess (bt s) (k + 1) = ess (bt s) k ++ [(bt s k)] from congrArg (ess (bt s) k ++ ·) (esL_self HE.out)]
          exact ⟨Y.out.own, (hB.out.alloc hB.out.size _).trans (Y.out.below)⟩
        clear Y
        go_wp2
        go_roundw
        case rel => exact ⟨k + 1, by omega, by go_num, O2.out.1, O2.out.2⟩
        case measure => simp [intOf]; omega
    · have hke : k = s.size := by omega
      have e9 : ¬ k < s.size := by omega
      have hlen6 : Hid (ess (bt s) k = ess (bt s) s.size) := by
        show _ = _
        rw [hke]
      clear hke
      obtain ⟨a, cap, hv, hby, -⟩ := OwnL.slice hO.out (ess_bd (bt s) (fun k => ⟨bt_nonneg s k, bt_le s k⟩) k)
      have hc := conv_own (P := Tryd.prog) wr 22 9 5 Tryd.underlying22 Tryd.underlying5 Tryd.underlying9 a cap _ hby
      subst hv
      clear hby
      go_wp2
      go_ret
      exact ⟨by rw [← hlen6.out]; rfl, hB.out⟩

set_option maxHeartbeats 1000000 in
set_option maxRecDepth 100000 in
theorem escaped_any (s : ByteArray) (w : World) (hs : s.size ≤ 65536) :
    Calls Tryd.prog 34 #[.string s] w fun e w' => e = .returned (.string (strOfNums (ess (bt s) s.size))) ∧ Below w.heap.size w w' := by
  obtain ⟨i0, hi, hz0, hz1, hz2⟩ := info_parts Tryd.infoByte
  have hb := get_bt s
  have hbx : ∀ (n : Nat) (h : n < (⟨#[48, 49, 50, 51, 52, 53, 54, 55, 56, 57, 65, 66, 67, 68, 69, 70]⟩ : ByteArray).size), (((⟨#[48, 49, 50, 51, 52, 53, 54, 55, 56, 57, 65, 66, 67, 68, 69, 70]⟩ : ByteArray)[n]'h).toNat : Int) = bt caps n := get_bt caps
  go_enter Tryd.func34, Tryd.ntmps34
  go_wp2
  go_loopw [3, 8] (fun v i wr => ∃ k : Nat, k ≤ s.size ∧ i = .int .i64 k ∧ OwnL 5 wr w.heap.size v (ess (bt s) k) ∧ Below w.heap.size w wr) (fun _ i _ => s.size - (intOf i).toNat)
  case atStart => exact ⟨0, Nat.zero_le _, rfl, World.ownsRow_nil w w.heap.size _ _, Below.refl _ _⟩
  case round =>
    obtain ⟨k, hk, rfl, hown, hnx⟩ := hrel
    have hB : Hid (Below w.heap.size w wr) := hnx
    have hO : Hid (OwnL 5 wr w.heap.size u3 (ess (bt s) k)) := hown
    have hlen := ess_len (bt s) k
    clear hnx hown
    have h0 := bt_nonneg s k
    have h1 := bt_le s k
    by_cases hlt : k < s.size
    · have t3 : IntKind.u8.wrap (bt s k / 16) = bt s k / 16 := by rw [IntKind.wrap_u8]; omega
      have hand := u8_and15 (bt s k) h0 h1
      have q1 : 0 ≤ bt s k / 16 := by omega
      have q2 : bt s k / 16 < 16 := by omega
      have q3 : 0 ≤ bt s k % 16 := by omega
      have q4 : bt s k % 16 < 16 := by omega
      have hlt' : (k : Int) < (s.size : Int) := by omega
      have hk0' : (0 : Int) ≤ (k : Int) := by omega
      have T1 : Hid (∀ w, Calls Tryd.prog 63 #[.int .u8 (bt s k), .string ⟨#[45, 46, 95]⟩] w fun e w' => e = .returned (.bool (esB (bt s k))) ∧ w' = w) := by
        intro w
        rw [← wsB_esc _ h0 h1]
        exact isWordSign_any _ _ w h0 h1
      cases he : esB (bt s k)
      · rw [he] at T1
        have HE : Hid (esB (bt s k) = false) := he
        clear he
        by_cases e32 : bt s k = 32
        · have h32 : (bt s k == 32) = true := by simp [e32]
          have HE32 : Hid (bt s k = 32) := e32
          clear e32 HE
          have NB : Hid (Boxed (wr.alloc (.cells #[.int .u8 43] 5)) wr.heap.size ([43].map (Value.int .u8))) := Boxed.new wr ([43].map (Value.int .u8)) _
          go_wp2_with (first | (go_at_call 63; refine (T1.out _).mono ?_; rintro e w' ⟨rfl, hw⟩; have hw2 := hw.symm; clear hw; subst hw2) | (at_builtin; refine wpl_app _ rfl _ _ rfl w.heap.size _ _ rfl (World.ownsRow.alloc hO.out _) ⟨wr.heap.size, 0, none⟩ 1 1 [43] rfl rfl (news_row NB.out) (by simp; omega) (by have := hB.out.size; simp; omega) ?_; intro v1 w1 Y))
          have O2 : Hid (OwnL 5 w1 w.heap.size v1 (ess (bt s) (k + 1)) ∧ Below w.heap.size w w1) := by
            show _ ∧ _
            rw [show ess (bt s) (k + 1) = ess (bt s) k ++ [43] from congrArg (ess (bt s) k ++ ·) (by rw [HE32.out]; exact esL_32)]
            exact ⟨Y.out.own, (hB.out.alloc hB.out.size _).trans (Y.out.below)⟩
          clear Y
          go_wp2
          go_roundw
          case rel => exact ⟨k + 1, by omega, by go_num, O2.out.1, O2.out.2⟩
          case measure => simp [intOf]; omega
        · have h32 : bt s k ≠ 32 := e32
          have h32' : (bt s k == 32) = false := by simp [e32]
          clear e32
          go_wp2_with (first | (go_at_call 63; refine (T1.out _).mono ?_; rintro e w' ⟨rfl, hw⟩; have hw2 := hw.symm; clear hw; subst hw2))
          go_region_held3 (fun _ => True) (trivial) ((refine step_append_lies _ (by rfl) _ _ _ (by rfl) w.heap.size 5 i0 _ 1 1 Tryd.underlying22 hi hz0 hz1 hz2 rfl (by omega) u3 (ess (bt s) k).length ((ess (bt s) k).map (.int .u8)) (by rfl) ((World.ownsRow.alloc hO.out _).drew) ⟨wr.heap.size, 0, none⟩ 3 3 [.int .u8 37, .int .u8 (cx (bt s k / 16)), .int .u8 (cx (bt s k % 16))] (by rfl) (by rfl) (World.news_of_block (cs := #[.int .u8 37, .int .u8 (cx (bt s k / 16)), .int .u8 (cx (bt s k % 16))]) (t := 5) (fr := (0, 0)) (heap_alloc_new wr _)) (by simp [Value.oneCell']) (by omega) (by unfold maxLen; omega) (by omega) (by have := hB.out.size; simp; omega) (wr.heap.size + 1) (by simp) ?_; intro g cap w1 hown1 hgrow hat hltt))
          all_goals
            have O2 : Hid (OwnL 5 w1 w.heap.size (.slice (some ⟨g, 0, none⟩) ((ess (bt s) k).length + 3) cap) (ess (bt s) (k + 1)) ∧ Below w.heap.size w w1) := by
              show _ ∧ _
              rw [show ess (bt s) (k + 1) = ess (bt s) k ++ [37, cx (bt s k / 16), cx (bt s k % 16)] from congrArg (ess (bt s) k ++ ·) (esL_more HE.out h32)]
              exact ⟨by unfold OwnL; simpa using hown1, ((hB.out.alloc hB.out.size _).drew).grown hgrow (by have := hB.out.size; simp; omega) (fun q hq => (World.ownsRow.lt hO.out q hq).1)⟩
            clear hown1 hgrow hat hltt
            go_wp2
            go_roundw
            case rel => exact ⟨k + 1, by omega, by go_num, O2.out.1, O2.out.2⟩
            case measure => simp [intOf]; omega
      · have HE : Hid (esB (bt s k) = true) := he
        rw [he] at T1
        clear he
        have NB : Hid (Boxed (wr.alloc (.cells #[.int .u8 (bt s k)] 5)) wr.heap.size ([(bt s k)].map (Value.int .u8))) := Boxed.new wr ([(bt s k)].map (Value.int .u8)) _
        go_wp2_with (first | (go_at_call 63; refine (T1.out _).mono ?_; rintro e w' ⟨rfl, hw⟩; have hw2 := hw.symm; clear hw; subst hw2) | (at_builtin; refine wpl_app _ rfl _ _ rfl w.heap.size _ _ rfl (World.ownsRow.alloc hO.out _) ⟨wr.heap.size, 0, none⟩ 1 1 [(bt s k)] rfl rfl (news_row NB.out) (by simp; omega) (by have := hB.out.size; simp; omega) ?_; intro v1 w1 Y))
        have O2 : Hid (OwnL 5 w1 w.heap.size v1 (ess (bt s) (k + 1)) ∧ Below w.heap.size w w1) := by
          show _ ∧ _
          rw [show ess (bt s) (k + 1) = ess (bt s) k ++ [(bt s k)] from congrArg (ess (bt s) k ++ ·) (esL_self HE.out)]
          exact ⟨Y.out.own, (hB.out.alloc hB.out.size _).trans (Y.out.below)⟩
        clear Y
        go_wp2
        go_roundw
        case rel => exact ⟨k + 1, by omega, by go_num, O2.out.1, O2.out.2⟩
        case measure => simp [intOf]; omega
    · have hke : k = s.size := by omega
      have e9 : ¬ k < s.size := by omega
      have hlen6 : Hid (ess (bt s) k = ess (bt s) s.size) := by
        show _ = _
        rw [hke]
      clear hke
      obtain ⟨a, cap, hv, hby, -⟩ := OwnL.slice hO.out (ess_bd (bt s) (fun k => ⟨bt_nonneg s k, bt_le s k⟩) k)
      have hc := conv_own (P := Tryd.prog) wr 22 9 5 Tryd.underlying22 Tryd.underlying5 Tryd.underlying9 a cap _ hby
      subst hv
      clear hby
      go_wp2
      go_ret
      exact ⟨by rw [← hlen6.out]; rfl, hB.out⟩

theorem specEsc_yes (s : ByteArray) (w : World) (hs : s.size ≤ 1000) :
    Calls Tryd.prog 14 #[.string s] w fun e w' => e = .returned (.tuple #[.string (strOfNums (ess (bt s) s.size)), .int .i64 0]) ∧ Below w.heap.size w w' := by
  have T : Hid (∀ w, Calls Tryd.prog 36 #[.string s] w fun e w' => e = .returned (.string (strOfNums (ess (bt s) s.size))) ∧ Below w.heap.size w w') := fun w => l11Escape_any s w (by omega)
  generalize strOfNums (ess (bt s) s.size) = z at T ⊢
  have t1 : decide ((65536 : Int) < (s.size : Int)) = false := decide_eq_false (by omega)
  have t2 : decide ((1000 : Int) < (s.size : Int)) = false := decide_eq_false (by omega)
  clear hs
  go_enter Tryd.func14, Tryd.ntmps14
  go_wp2_with fail
  refine (T.out _).mono ?_
  rintro e w1 ⟨rfl, hb⟩
  go_wp2
  go_ret2
  exact ⟨rfl, hb⟩
theorem specEsc_no (s : ByteArray) (w : World) (hs : 1000 < s.size) (hl : s.size ≤ 65536) :
    Calls Tryd.prog 14 #[.string s] w fun e w' => e = .returned (.tuple #[.string ⟨#[]⟩, .int .i64 4]) ∧ w' = w := by
  have t1 : decide ((65536 : Int) < (s.size : Int)) = false := decide_eq_false (by omega)
  have t2 : decide ((1000 : Int) < (s.size : Int)) = true := decide_eq_true (by omega)
  clear hs hl
  go_enter Tryd.func14, Tryd.ntmps14
  go_wp2
  go_ret2
  exact ⟨rfl, rfl⟩
theorem specEsc_long (s : ByteArray) (w : World) (hl : 65536 < s.size) :
    Calls Tryd.prog 14 #[.string s] w fun e w' => e = .returned (.tuple #[.string ⟨#[]⟩, .int .i64 2]) ∧ w' = w := by
  have t1 : decide ((65536 : Int) < (s.size : Int)) = true := decide_eq_true (by omega)
  clear hl
  go_enter Tryd.func14, Tryd.ntmps14
  go_wp2
  go_ret2
  exact ⟨rfl, rfl⟩

theorem implEsc_yes (s : ByteArray) (w : World) (hs : s.size ≤ 1000) :
    Calls Tryd.prog 13 #[.string s] w fun e w' => e = .returned (.tuple #[.string (strOfNums (ess (bt s) s.size)), .int .i64 0]) ∧ Below w.heap.size w w' := by
  have T : Hid (∀ w, Calls Tryd.prog 34 #[.string s] w fun e w' => e = .returned (.string (strOfNums (ess (bt s) s.size))) ∧ Below w.heap.size w w') := fun w => escaped_any s w (by omega)
  generalize strOfNums (ess (bt s) s.size) = z at T ⊢
  have t1 : decide ((65536 : Int) < (s.size : Int)) = false := decide_eq_false (by omega)
  have t2 : decide ((1000 : Int) < (s.size : Int)) = false := decide_eq_false (by omega)
  clear hs
  go_enter Tryd.func13, Tryd.ntmps13
  go_wp2_with fail
  refine (T.out _).mono ?_
  rintro e w1 ⟨rfl, hb⟩
  go_wp2
  go_ret2
  exact ⟨rfl, hb⟩
theorem implEsc_no (s : ByteArray) (w : World) (hs : 1000 < s.size) (hl : s.size ≤ 65536) :
    Calls Tryd.prog 13 #[.string s] w fun e w' => e = .returned (.tuple #[.string ⟨#[]⟩, .int .i64 4]) ∧ w' = w := by
  have t1 : decide ((65536 : Int) < (s.size : Int)) = false := decide_eq_false (by omega)
  have t2 : decide ((1000 : Int) < (s.size : Int)) = true := decide_eq_true (by omega)
  clear hs hl
  go_enter Tryd.func13, Tryd.ntmps13
  go_wp2
  go_ret2
  exact ⟨rfl, rfl⟩
theorem implEsc_long (s : ByteArray) (w : World) (hl : 65536 < s.size) :
    Calls Tryd.prog 13 #[.string s] w fun e w' => e = .returned (.tuple #[.string ⟨#[]⟩, .int .i64 2]) ∧ w' = w := by
  have t1 : decide ((65536 : Int) < (s.size : Int)) = true := decide_eq_true (by omega)
  clear hl
  go_enter Tryd.func13, Tryd.ntmps13
  go_wp2
  go_ret2
  exact ⟨rfl, rfl⟩
end Go.Proofs.YtappekglflgodaaDoor
