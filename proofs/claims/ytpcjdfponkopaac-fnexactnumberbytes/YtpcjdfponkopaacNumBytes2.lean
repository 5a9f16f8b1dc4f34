/- The model's NumberBytes: the number's bytes in new memory, or an empty row and code 4. -/
import Derived.Test.YtpcjdfponkopaacNumBytes
import Derived.Test.YtpcjdfponkopaacMark
namespace Go.Proofs.Ytpcjdfponkopaac
open Go.RowKit Go.PlainAid
set_option linter.unusedVariables false
set_option maxRecDepth 20000

set_option maxHeartbeats 400000 in
theorem specNumberBytes_yes (n : Int) (m : Nat) (w : World) (h1 : 1 ≤ m) (h6 : m ≤ 6) (hn : 0 ≤ n) (hr : n < 2 ^ (8 * m)) (hx : n ≤ 9223372036854775807) :
    Calls Try.prog 11 #[.int .i64 n, .int .i64 m] w fun e w' => ∃ q cap, e = .returned (.tuple #[.slice (some ⟨q, 0, none⟩) m cap, .int .i64 0]) ∧ Bytes w' (some ⟨q, 0, none⟩) m (nb n m) ∧ w.heap.size ≤ q ∧ q < w'.heap.size ∧ Below w.heap.size w w' := by
  have hd : decide ((1 : Int) ≤ (m : Int) ∧ (m : Int) ≤ 6) = true := by simp; omega
  have HR : Hid (n < 2 ^ (8 * m)) := hr
  clear hr
  have key : ∀ M : Nat, M = m → Calls Try.prog 33 #[.int .i64 n, .int .i64 M] w fun e w' => e = .returned (.string (strOf (nb n M) M)) ∧ Below w.heap.size w w' := fun M hM => l01Number_any n M w (by omega) hn hx
  have KEY : Hid (∀ M : Nat, M = m → Calls Try.prog 33 #[.int .i64 n, .int .i64 M] w fun e w' => e = .returned (.string (strOf (nb n M) M)) ∧ Below w.heap.size w w') := key
  clear key
  have fin : ∀ w1 : World, Below w.heap.size w w1 → ∃ cap w', (convert 9 25 (.string (strOf (nb n m) m))).run Try.prog w1 = .ok (.slice (some ⟨w1.heap.size, 0, none⟩) m cap) w' ∧
      (Bytes w' (some ⟨w1.heap.size, 0, none⟩) m (nb n m) ∧ w.heap.size ≤ w1.heap.size ∧ w1.heap.size < w'.heap.size ∧ Below w.heap.size w w') := by
    intro w1 hb
    obtain ⟨cap, w', hr, hbel, hz, hfz, hc⟩ := conv_bytes (P := Try.prog) w1 9 25 5 (strOf (nb n m) m) Try.underlying9 Try.underlying25 Try.underlying5
    rw [strOf_size] at hr hc
    refine ⟨cap, w', hr, ⟨nb_bd n m, fun _ => ⟨_, 0, rfl, fun i hi => ?_⟩⟩, hb.size, by omega, hb.trans (hbel.mono hb.size)⟩
    rw [Nat.zero_add, hc i hi, strOf_bt _ _ (nb_bd n m) i hi]
  have FIN : Hid (∀ w1 : World, Below w.heap.size w w1 → ∃ cap w', (convert 9 25 (.string (strOf (nb n m) m))).run Try.prog w1 = .ok (.slice (some ⟨w1.heap.size, 0, none⟩) m cap) w' ∧
      (Bytes w' (some ⟨w1.heap.size, 0, none⟩) m (nb n m) ∧ w.heap.size ≤ w1.heap.size ∧ w1.heap.size < w'.heap.size ∧ Below w.heap.size w w')) := fin
  clear fin
  have hcases : m = 1 ∨ m = 2 ∨ m = 3 ∨ m = 4 ∨ m = 5 ∨ m = 6 := by omega
  rcases hcases with rfl | rfl | rfl | rfl | rfl | rfl
  all_goals
    have hr := HR.out
    simp at hr
    have hd2 : decide (n ≤ _) = true := decide_eq_true (Int.le_sub_one_of_lt hr)
    simp only [Int.reduceSub] at hd2
    go_enter Try.func11, Try.ntmps11
    go_wp2_with (go_at_call 32; refine (l01In_any _ _ _ _).mono ?_; rintro e w' ⟨rfl, hw⟩; subst hw)
    refine (KEY.out _ rfl).mono ?_
    rintro e w1 ⟨rfl, hb1⟩
    obtain ⟨cap, w2, hconv, hrest⟩ := FIN.out w1 hb1
    have HREST := (show Hid _ from hrest)
    clear hrest hb1
    go_wp2
    go_ret2
    exact ⟨_, cap, rfl, HREST.out⟩

theorem specNumberBytes_no (n m : Int) (w : World) (h : ¬ (1 ≤ m ∧ m ≤ 6)) :
    Calls Try.prog 11 #[.int .i64 n, .int .i64 m] w fun e w' => e = .returned (.tuple #[.slice (some ⟨w.heap.size, 0, none⟩) 0 0, .int .i64 4]) ∧ Below w.heap.size w w' ∧ w.heap.size < w'.heap.size := by
  have hd : decide ((1 : Int) ≤ m ∧ m ≤ 6) = false := decide_eq_false h
  go_enter Try.func11, Try.ntmps11
  go_wp2_with (go_at_call 32; refine (l01In_any _ _ _ _).mono ?_; rintro e w' ⟨rfl, hw⟩; subst hw)
  go_ret2
  exact ⟨rfl, (Below.refl _ _).alloc (Nat.le_refl _) _, by simp⟩

theorem specNumberBytes_out (n : Int) (m : Nat) (w : World) (h1 : 1 ≤ m) (h6 : m ≤ 6) (h : n < 0 ∨ 2 ^ (8 * m) ≤ n) :
    Calls Try.prog 11 #[.int .i64 n, .int .i64 m] w fun e w' => e = .returned (.tuple #[.slice (some ⟨w.heap.size, 0, none⟩) 0 0, .int .i64 4]) ∧ Below w.heap.size w w' ∧ w.heap.size < w'.heap.size := by
  have hcases : m = 1 ∨ m = 2 ∨ m = 3 ∨ m = 4 ∨ m = 5 ∨ m = 6 := by omega
  rcases hcases with rfl | rfl | rfl | rfl | rfl | rfl
  all_goals
    simp at h
    go_enter Try.func11, Try.ntmps11
    go_wp2_with fail
    refine (l01In_yes _ _ _ _ (by omega) (by omega)).mono ?_
    rintro e w' ⟨rfl, hw⟩
    subst hw
    go_wp2_with fail
    refine (l01In_no _ _ _ _ (by omega)).mono ?_
    rintro e w'' ⟨rfl, hw⟩
    subst hw
    go_wp2
    go_ret2
    exact ⟨rfl, (Below.refl _ _).alloc (Nat.le_refl _) _, by simp⟩

/-- Both at every pair of numbers, in one form. -/
def SpecRow (K : Nat) (args : Array Value) (w : World) (m : Nat) (f : Nat → Int) (c : Int) : Prop :=
  Calls Try.prog K args w fun e w' => ∃ a cap, e = .returned (.tuple #[.slice a m cap, .int .i64 c]) ∧ Bytes w' a m f ∧ (∀ b off, a = some ⟨b, off, none⟩ → b < w'.heap.size) ∧ Below w.heap.size w w'
def ImplRow (K : Nat) (args : Array Value) (w : World) (m : Nat) (f : Nat → Int) (c : Int) : Prop :=
  Calls Try.prog K args w fun e w' => ∃ a cap, e = .returned (.tuple #[.slice a m cap, .int .i64 c]) ∧ Writ w' a m f ∧ (∀ b, 0 < m → a = some ⟨b, 0, none⟩ → w.heap.size ≤ b) ∧ Below w.heap.size w w'

theorem numberBytes_both (n m : Int) (hn : n ≤ 9223372036854775807) :
    ∃ k f c, k ≤ 6 ∧ (∀ w, SpecRow 11 #[.int .i64 n, .int .i64 m] w k f c) ∧ ∀ w, ImplRow 12 #[.int .i64 n, .int .i64 m] w k f c := by
  have noS : ∀ w : World, (Calls Try.prog 11 #[.int .i64 n, .int .i64 m] w fun e w' => e = .returned (.tuple #[.slice (some ⟨w.heap.size, 0, none⟩) 0 0, .int .i64 4]) ∧ Below w.heap.size w w' ∧ w.heap.size < w'.heap.size) → SpecRow 11 #[.int .i64 n, .int .i64 m] w 0 (fun _ => 0) 4 := by
    intro w hc
    refine hc.mono fun e w' h => ⟨_, _, h.1, ⟨fun _ => ⟨Int.le_refl _, by simp⟩, fun h0 => absurd h0 (by omega)⟩, fun b off hh => by cases hh; exact h.2.2, h.2.1⟩
  have noI : ∀ w : World, (Calls Try.prog 12 #[.int .i64 n, .int .i64 m] w fun e w' => e = .returned (.tuple #[.slice none 0 0, .int .i64 4]) ∧ w' = w) → ImplRow 12 #[.int .i64 n, .int .i64 m] w 0 (fun _ => 0) 4 := by
    intro w hc
    refine hc.mono fun e w' h => ⟨_, _, h.1, ⟨fun _ => ⟨Int.le_refl _, by simp⟩, fun h0 => absurd h0 (by omega)⟩, fun b h0 _ => absurd h0 (by omega), h.2 ▸ Below.refl _ _⟩
  by_cases hm : 1 ≤ m ∧ m ≤ 6
  · obtain ⟨M, rfl⟩ := Int.eq_ofNat_of_zero_le (show 0 ≤ m by omega)
    by_cases hr : 0 ≤ n ∧ n < 2 ^ (8 * M)
    · refine ⟨M, nb n M, 0, by omega, fun w => ?_, fun w => ?_⟩
      · refine (specNumberBytes_yes n M w (by omega) (by omega) hr.1 hr.2 hn).mono ?_
        rintro e w' ⟨q, cap, he, hb, _, hq, hbl⟩
        exact ⟨_, cap, he, hb, fun b off hh => by cases hh; exact hq, hbl⟩
      · refine (numberBytes_yes n M w (by omega) (by omega) hr.1 hr.2 hn).mono ?_
        rintro e w' ⟨he, hf⟩
        exact ⟨_, _, he, hf.writ (nb_bd n M), fun b _ hh => by cases hh; exact Nat.le_refl _, hf.1⟩
    · have ho : n < 0 ∨ 2 ^ (8 * M) ≤ n := by
        by_cases h0 : 0 ≤ n
        · exact .inr (Int.not_lt.1 fun hh => hr ⟨h0, hh⟩)
        · exact .inl (by omega)
      exact ⟨0, fun _ => 0, 4, by omega, fun w => noS w (specNumberBytes_out n M w (by omega) (by omega) ho), fun w => noI w (numberBytes_out n M w (by omega) (by omega) hn ho)⟩
  · exact ⟨0, fun _ => 0, 4, by omega, fun w => noS w (specNumberBytes_no n m w hm), fun w => noI w (numberBytes_no n m w hm)⟩
end Go.Proofs.Ytpcjdfponkopaac
