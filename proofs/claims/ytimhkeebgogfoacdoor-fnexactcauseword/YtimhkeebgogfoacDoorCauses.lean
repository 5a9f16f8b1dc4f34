/- CauseWord, the program's and the model's: the word of a cause. -/
import Derived.Test.YtimhkeebgogfoacDoorSmallA
import Derived.WalkKit
import Derived.WalkSpells
import Derived.Below
namespace Go.Proofs.YtimhkeebgogfoacDoor
open Go.RowKit Go.PlainAid
set_option linter.unusedVariables false
set_option maxRecDepth 20000

/-- The words, in the order of their causes; the first is none. -/
def cwords : List ByteArray := [⟨#[]⟩, ⟨#[108, 111, 103, 111, 117, 116]⟩, ⟨#[105, 100, 108, 101]⟩, ⟨#[116, 105, 109, 101]⟩, ⟨#[113, 117, 111, 116, 97]⟩, ⟨#[109, 111, 118, 101, 100]⟩, ⟨#[107, 105, 99, 107]⟩]
def cwd (i : Nat) : ByteArray := cwords.getD i ⟨#[]⟩
def cwS (c : Int) : ByteArray := if 1 ≤ c ∧ c ≤ 6 then cwd c.toNat else ⟨#[]⟩
/-- The program's table of words lies in its variable. -/
def TableC (w : World) : Prop := ∀ i, i < 7 → w.cell? ⟨0, i, none⟩ = some (.string (cwd i))
theorem TableC.below {B : Nat} {w w' : World} (h : TableC w) (hb : Below B w w') (hB : 0 < B) : TableC w' := fun i hi => by rw [hb.cell (p := ⟨0, i, none⟩) hB]; exact h i hi
theorem ctable_at (C : Nat) (h : C < 7) : ([.string ⟨#[]⟩, .string ⟨#[108, 111, 103, 111, 117, 116]⟩, .string ⟨#[105, 100, 108, 101]⟩, .string ⟨#[116, 105, 109, 101]⟩, .string ⟨#[113, 117, 111, 116, 97]⟩, .string ⟨#[109, 111, 118, 101, 100]⟩, .string ⟨#[107, 105, 99, 107]⟩] : List Value)[C]'(by simpa using h) = .string (cwd C) := by
  have : C = 0 ∨ C = 1 ∨ C = 2 ∨ C = 3 ∨ C = 4 ∨ C = 5 ∨ C = 6 := by omega
  rcases this with rfl | rfl | rfl | rfl | rfl | rfl | rfl
  all_goals rfl
set_option maxHeartbeats 2000000 in
theorem specCauseWord_any (c : Int) (w : World) :
    Calls Tryd.prog 4 #[.int .i64 c] w fun e w' => e = .returned (.string (cwS c)) ∧ Below w.heap.size w w' := by
  by_cases h : 1 ≤ c ∧ c ≤ 6
  · obtain ⟨C, rfl⟩ := Int.eq_ofNat_of_zero_le (show 0 ≤ c by omega)
    have e : cwS (C : Int) = cwd C := by unfold cwS; rw [if_pos h]; rfl
    rw [e]
    have HA : Hid (∀ w, Calls Tryd.prog 6 #[.int .i64 C, .int .i64 1, .int .i64 6] w fun e w' => e = .returned (.bool true) ∧ w' = w) := fun w => l01In_yes _ _ _ w h.1 h.2
    have h7 : C < 7 := by omega
    go_enter Tryd.func4, Tryd.ntmps4
    go_wp2_with fail
    refine (HA.out _).mono ?_
    rintro e w1 ⟨rfl, hw⟩
    subst hw
    go_wp2
    go_ret
    exact ⟨congrArg Ending.returned (ctable_at C h7), (Below.refl _ _).alloc (Nat.le_refl _) _⟩
  · have e : cwS c = ⟨#[]⟩ := by unfold cwS; rw [if_neg h]
    rw [e]
    have HA : Hid (∀ w, Calls Tryd.prog 6 #[.int .i64 c, .int .i64 1, .int .i64 6] w fun e w' => e = .returned (.bool false) ∧ w' = w) := fun w => l01In_no _ _ _ w (by omega)
    go_enter Tryd.func4, Tryd.ntmps4
    go_wp2_with fail
    refine (HA.out _).mono ?_
    rintro e w1 ⟨rfl, hw⟩
    subst hw
    go_wp2
    go_ret
    exact ⟨rfl, Below.refl _ _⟩
theorem implCauseWord_any (c : Int) (w : World) (hT : TableC w) :
    Calls Tryd.prog 5 #[.int .i64 c] w fun e w' => e = .returned (.string (cwS c)) ∧ w' = w := by
  by_cases h : 1 ≤ c ∧ c ≤ 6
  · obtain ⟨C, rfl⟩ := Int.eq_ofNat_of_zero_le (show 0 ≤ c by omega)
    have e : cwS (C : Int) = cwd C := by unfold cwS; rw [if_pos h]; rfl
    rw [e]
    have HA : Hid (∀ w, Calls Tryd.prog 7 #[.int .i64 C] w fun e w' => e = .returned (.bool true) ∧ w' = w) := fun w => (causeOK_any _ w).mono fun e w' hh => ⟨by rw [hh.1, decide_eq_true h], hh.2⟩
    have h7 : C < 7 := by omega
    have hc := hT C h7
    clear hT
    go_enter Tryd.func5, Tryd.ntmps5
    go_wp2_with fail
    refine (HA.out _).mono ?_
    rintro e w1 ⟨rfl, hw⟩
    subst hw
    go_wp2
    go_ret
    exact ⟨rfl, rfl⟩
  · have e : cwS c = ⟨#[]⟩ := by unfold cwS; rw [if_neg h]
    rw [e]
    have HA : Hid (∀ w, Calls Tryd.prog 7 #[.int .i64 c] w fun e w' => e = .returned (.bool false) ∧ w' = w) := fun w => (causeOK_any _ w).mono fun e w' hh => ⟨by rw [hh.1, decide_eq_false h], hh.2⟩
    go_enter Tryd.func5, Tryd.ntmps5
    go_wp2_with fail
    refine (HA.out _).mono ?_
    rintro e w1 ⟨rfl, hw⟩
    subst hw
    go_wp2
    go_ret
    exact ⟨rfl, rfl⟩

theorem lawCauseWord_any (c : Int) (w : World) (hT : TableC w) (h0 : 0 < w.heap.size) :
    Calls Tryd.prog 3 #[.int .i64 c] w fun e w' => e = .returned (.bool true) ∧ Below w.heap.size w w' := by
  have HT : Hid (TableC w) := hT
  clear hT
  obtain ⟨s, hs⟩ : ∃ s, s = cwS c := ⟨_, rfl⟩
  have HS : Hid (∀ w, Calls Tryd.prog 4 #[.int .i64 c] w fun e w' => e = .returned (.string s) ∧ Below w.heap.size w w') := by rw [hs]; exact specCauseWord_any c
  have HI : Hid (∀ w, TableC w → Calls Tryd.prog 5 #[.int .i64 c] w fun e w' => e = .returned (.string s) ∧ w' = w) := by rw [hs]; exact implCauseWord_any c
  clear hs
  go_enter Tryd.func3, Tryd.ntmps3
  go_wp2_with fail
  refine (HS.out _).mono ?_
  rintro e w1 ⟨rfl, b1⟩
  have B1 : Hid (Below w.heap.size w w1) := b1
  clear b1
  go_wp2_with fail
  refine (HI.out _ (HT.out.below B1.out h0)).mono ?_
  rintro e w2 ⟨rfl, hw⟩
  subst hw
  go_wp2
  go_ret
  exact ⟨rfl, B1.out⟩
end Go.Proofs.YtimhkeebgogfoacDoor
