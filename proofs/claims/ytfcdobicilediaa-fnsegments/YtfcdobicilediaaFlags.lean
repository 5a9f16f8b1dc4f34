/- FlagsText, the program's and the model's, and the walk of its law. -/
import Derived.Test.YtfcdobicilediaaApp
import Derived.Test.YtfcdobicilediaaTests
import Derived.Test.YtfcdobicilediaaBits
namespace Go.Proofs.Ytfcdobicilediaa
open Go.RowKit Go.PlainAid
set_option linter.unusedVariables false
set_option maxRecDepth 20000

def letters : ByteArray := ⟨#[70, 83, 82, 80, 65]⟩
/-- The letters of the first k flags that are set. -/
def flg (n : Int) : Nat → List Int
  | 0 => []
  | k + 1 => flg n k ++ (if n / 2 ^ k % 2 = 1 then [bt letters k] else [])
theorem flg_len (n : Int) : ∀ k : Nat, (flg n k).length ≤ k
  | 0 => by simp [flg]
  | k + 1 => by
    have := flg_len n k
    unfold flg
    split <;> simp <;> omega
theorem flg_bd (n : Int) : ∀ k : Nat, ∀ x ∈ flg n k, 0 ≤ x ∧ x ≤ 255
  | 0 => by simp [flg]
  | k + 1 => by
    intro x hx
    unfold flg at hx
    rcases List.mem_append.1 hx with h | h
    · exact flg_bd n k x h
    · split at h
      · simp at h; subst h; exact ⟨bt_nonneg _ _, bt_le _ _⟩
      · simp at h

theorem bit_any (n : Int) (k : Nat) (h0 : 0 ≤ n) (h1 : n ≤ 31) : 0 ≤ n / 2 ^ k ∧ n / 2 ^ k ≤ 31 := by
  have hp : (0 : Int) < 2 ^ k := Int.pow_pos (by omega)
  refine ⟨Int.ediv_nonneg h0 (by omega), ?_⟩
  exact Int.le_trans (Int.ediv_le_self _ h0) h1

set_option maxHeartbeats 2000000 in
theorem flagsText_yes (n : Int) (w : World) (h0 : 0 ≤ n) (h1 : n ≤ 31) :
    Calls Try.prog 16 #[.int .i64 n] w fun e w' => e = .returned (.tuple #[.string (strOfNums (flg n 5)), .int .i64 0]) ∧ Below w.heap.size w w' := by
  have bf := dec_y (show 0 ≤ n ∧ n ≤ 31 from ⟨h0, h1⟩)
  go_enter Try.func16, Try.ntmps16
  go_wp2_with fail
  refine (flagsOK_any _ _).mono ?_
  rintro e w1 ⟨he, hw1⟩
  rw [bf] at he
  subst he
  obtain rfl := hw1.symm
  clear hw1 bf
  go_wp2
  go_loopw [4, 9] (fun v i wr => ∃ k : Nat, k ≤ 5 ∧ i = .int .i64 k ∧ OwnL 5 wr w.heap.size v (flg n k) ∧ Below w.heap.size w wr) (fun _ i _ => 5 - (intOf i).toNat)
  case atStart => exact ⟨0, by omega, rfl, World.ownsRow_nil w w.heap.size 5 1, Below.refl _ _⟩
  case round =>
    obtain ⟨k, hk, rfl, hown, hbel⟩ := hrel
    have Y : Hid (OwnL 5 wr w.heap.size u4 (flg n k) ∧ Below w.heap.size w wr) := ⟨hown, hbel⟩
    have zr := hbel.size
    have hlen := flg_len n k
    clear hown hbel
    by_cases hlt : k < 5
    · have hq := bit_any n k h0 h1
      have hm : bits BinOp.and IntKind.i64 (n / 2 ^ k) 1 = n / 2 ^ k % 2 := Bt.mask 1 (by omega) (n / 2 ^ k) hq.1 (by omega)
      have hsz : (⟨#[70, 83, 82, 80, 65]⟩ : ByteArray).size = 5 := rfl
      have hlet : ∀ (j : Nat) (h : j < (⟨#[70, 83, 82, 80, 65]⟩ : ByteArray).size), (((⟨#[70, 83, 82, 80, 65]⟩ : ByteArray)[j]'h).toNat : Int) = bt letters j := get_bt letters
      by_cases hbit : n / 2 ^ k % 2 = 1
      · have bb : (n / 2 ^ k % 2 == 1) = true := by simp [hbit]
        have HE : Hid (flg n (k + 1) = flg n k ++ [bt letters k]) := by show _ = _; rw [flg, if_pos hbit]
        have N0 : Hid (Boxed (wr.alloc (.cells #[.int .u8 (bt letters k)] 5)) wr.heap.size ([bt letters k].map (Value.int .u8))) := Boxed.new wr _ _
        have HB : Hid (n / 2 ^ k % 2 = 1) := hbit
        clear hbit
        go_wp2_with (at_builtin; refine wpl_app _ rfl _ _ rfl w.heap.size _ _ rfl (World.ownsRow.alloc Y.out.1 _) ⟨wr.heap.size, 0, none⟩ 1 1 [bt letters k] rfl rfl (news_row N0.out) (by omega) (by simp; omega) ?_)
        intro v2 w2 Y2
        have B2 : Hid (Below w.heap.size w w2) := (Y.out.2.alloc (by omega) _).trans Y2.out.below
        go_wp2
        go_roundw
        case rel => exact ⟨k + 1, by omega, by go_num, by rw [HE.out]; exact Y2.out.own, B2.out⟩
        case measure => simp [intOf]; omega
      · have bb : (n / 2 ^ k % 2 == 1) = false := by simp [hbit]
        have HE : Hid (flg n (k + 1) = flg n k) := by show _ = _; rw [flg, if_neg hbit]; simp
        have HB : Hid (¬ n / 2 ^ k % 2 = 1) := hbit
        clear hbit
        go_wp2
        go_roundw
        case rel => exact ⟨k + 1, by omega, by go_num, by rw [HE.out]; exact Y.out.1, Y.out.2⟩
        case measure => simp [intOf]; omega
    · obtain rfl : k = 5 := by omega
      obtain ⟨a, cap, hv, hby, -⟩ := OwnL.slice Y.out.1 (flg_bd n 5)
      have hc := conv_own (P := Try.prog) wr 22 9 5 Try.underlying22 Try.underlying5 Try.underlying9 a cap _ hby
      subst hv
      clear hby
      go_wp2
      go_ret2
      exact ⟨rfl, Y.out.2⟩

set_option maxHeartbeats 2000000 in
theorem specFlagsText_yes (n : Int) (w : World) (h0 : 0 ≤ n) (h1 : n ≤ 31) :
    Calls Try.prog 17 #[.int .i64 n] w fun e w' => e = .returned (.tuple #[.string (strOfNums (flg n 5)), .int .i64 0]) ∧ Below w.heap.size w w' := by
  have bf := dec_y (show 0 ≤ n ∧ n ≤ 31 from ⟨h0, h1⟩)
  go_enter Try.func17, Try.ntmps17
  go_wp2_with fail
  refine (specIn_any _ _ _ _).mono ?_
  rintro e w1 ⟨he, hw1⟩
  rw [bf] at he
  subst he
  obtain rfl := hw1.symm
  clear hw1 bf
  go_wp2
  go_loopw [4, 5] (fun v i wr => ∃ k : Nat, k ≤ 5 ∧ i = .int .i64 k ∧ OwnL 5 wr w.heap.size v (flg n k) ∧ Below w.heap.size w wr) (fun _ i _ => 5 - (intOf i).toNat)
  case atStart => exact ⟨0, by omega, rfl, World.ownsRow_made w #[] 0 (Nat.le_refl _) (Nat.zero_le _) rfl, (Below.refl _ _).alloc (Nat.le_refl _) _⟩
  case round =>
    obtain ⟨k, hk, rfl, hown, hbel⟩ := hrel
    have Y : Hid (OwnL 5 wr w.heap.size u4 (flg n k) ∧ Below w.heap.size w wr) := ⟨hown, hbel⟩
    have zr := hbel.size
    have hlen := flg_len n k
    clear hown hbel
    by_cases hlt : k < 5
    · have hq := bit_any n k h0 h1
      have hm : bits BinOp.and IntKind.i64 (n / 2 ^ k) 1 = n / 2 ^ k % 2 := Bt.mask 1 (by omega) (n / 2 ^ k) hq.1 (by omega)
      have hsz : (⟨#[70, 83, 82, 80, 65]⟩ : ByteArray).size = 5 := rfl
      have hlet : ∀ (j : Nat) (h : j < (⟨#[70, 83, 82, 80, 65]⟩ : ByteArray).size), (((⟨#[70, 83, 82, 80, 65]⟩ : ByteArray)[j]'h).toNat : Int) = bt letters j := get_bt letters
      by_cases hbit : n / 2 ^ k % 2 = 1
      · have bb : (n / 2 ^ k % 2 == 1) = true := by simp [hbit]
        have HE : Hid (flg n (k + 1) = flg n k ++ [bt letters k]) := by show _ = _; rw [flg, if_pos hbit]
        have N0 : Hid (Boxed (wr.alloc (.cells #[.int .u8 (bt letters k)] 5)) wr.heap.size ([bt letters k].map (Value.int .u8))) := Boxed.new wr _ _
        have HB : Hid (n / 2 ^ k % 2 = 1) := hbit
        clear hbit
        go_wp2_with (at_builtin; refine wpl_app _ rfl _ _ rfl w.heap.size _ _ rfl (World.ownsRow.alloc Y.out.1 _) ⟨wr.heap.size, 0, none⟩ 1 1 [bt letters k] rfl rfl (news_row N0.out) (by omega) (by simp; omega) ?_)
        intro v2 w2 Y2
        have B2 : Hid (Below w.heap.size w w2) := (Y.out.2.alloc (by omega) _).trans Y2.out.below
        go_wp2
        go_roundw
        case rel => exact ⟨k + 1, by omega, by go_num, by rw [HE.out]; exact Y2.out.own, B2.out⟩
        case measure => simp [intOf]; omega
      · have bb : (n / 2 ^ k % 2 == 1) = false := by simp [hbit]
        have HE : Hid (flg n (k + 1) = flg n k) := by show _ = _; rw [flg, if_neg hbit]; simp
        have HB : Hid (¬ n / 2 ^ k % 2 = 1) := hbit
        clear hbit
        go_wp2
        go_roundw
        case rel => exact ⟨k + 1, by omega, by go_num, by rw [HE.out]; exact Y.out.1, Y.out.2⟩
        case measure => simp [intOf]; omega
    · obtain rfl : k = 5 := by omega
      obtain ⟨a, cap, hv, hby, -⟩ := OwnL.slice Y.out.1 (flg_bd n 5)
      have hc := conv_own (P := Try.prog) wr 22 9 5 Try.underlying22 Try.underlying5 Try.underlying9 a cap _ hby
      subst hv
      clear hby
      go_wp2
      go_ret2
      exact ⟨rfl, Y.out.2⟩

theorem flagsText_no (n : Int) (w : World) (h : ¬ (0 ≤ n ∧ n ≤ 31)) :
    Calls Try.prog 16 #[.int .i64 n] w fun e w' => e = .returned (.tuple #[.string ⟨#[]⟩, .int .i64 4]) ∧ Below w.heap.size w w' := by
  have bf := dec_n h
  clear h
  go_enter Try.func16, Try.ntmps16
  go_wp2_with fail
  refine (flagsOK_any _ _).mono ?_
  rintro e w1 ⟨he, hw1⟩
  rw [bf] at he
  subst he
  obtain rfl := hw1.symm
  clear hw1 bf
  go_wp2
  go_ret2
  exact ⟨rfl, Below.refl _ _⟩
theorem specFlagsText_no (n : Int) (w : World) (h : ¬ (0 ≤ n ∧ n ≤ 31)) :
    Calls Try.prog 17 #[.int .i64 n] w fun e w' => e = .returned (.tuple #[.string ⟨#[]⟩, .int .i64 4]) ∧ Below w.heap.size w w' := by
  have bf := dec_n h
  clear h
  go_enter Try.func17, Try.ntmps17
  go_wp2_with fail
  refine (specIn_any _ _ _ _).mono ?_
  rintro e w1 ⟨he, hw1⟩
  rw [bf] at he
  subst he
  obtain rfl := hw1.symm
  clear hw1 bf
  go_wp2
  go_ret2
  exact ⟨rfl, Below.refl _ _⟩

theorem flagsText_both (n : Int) : ∃ (s : ByteArray) (c : Int), (∀ w, Calls Try.prog 17 #[.int .i64 n] w fun e w' => e = .returned (.tuple #[.string s, .int .i64 c]) ∧ Below w.heap.size w w') ∧ (∀ w, Calls Try.prog 16 #[.int .i64 n] w fun e w' => e = .returned (.tuple #[.string s, .int .i64 c]) ∧ Below w.heap.size w w') := by
  by_cases h : 0 ≤ n ∧ n ≤ 31
  · exact ⟨_, _, fun w => specFlagsText_yes n w h.1 h.2, fun w => flagsText_yes n w h.1 h.2⟩
  · exact ⟨_, _, fun w => specFlagsText_no n w h, fun w => flagsText_no n w h⟩

end Go.Proofs.Ytfcdobicilediaa
