/- CodeWord and CodeOf, the program's and the model's: the word of a code, the code of a word. -/
import Derived.Test.YtpcjdfponkopaabDoorProg
import Derived.WalkKit
import Derived.WalkSpells
import Derived.Below
namespace Go.Proofs.YtpcjdfponkopaabDoor
open Go.RowKit
set_option linter.unusedVariables false

/-- The words, in the order of their codes. -/
def words : List ByteArray := [⟨#[111, 107]⟩,
  ⟨#[98, 97, 100]⟩,
  ⟨#[108, 111, 110, 103]⟩,
  ⟨#[102, 111, 114, 109]⟩,
  ⟨#[114, 97, 110, 103, 101]⟩,
  ⟨#[110, 111, 110, 101]⟩,
  ⟨#[109, 97, 110, 121]⟩,
  ⟨#[102, 117, 108, 108]⟩,
  ⟨#[115, 117, 109]⟩,
  ⟨#[116, 119, 105, 99, 101]⟩,
  ⟨#[112, 114, 111, 116, 111]⟩,
  ⟨#[112, 97, 114, 116]⟩,
  ⟨#[115, 116, 97, 116, 101]⟩,
  ⟨#[117, 115, 101, 114]⟩,
  ⟨#[98, 117, 115, 121]⟩,
  ⟨#[115, 112, 101, 110, 116]⟩,
  ⟨#[114, 101, 102, 117, 115, 101, 100]⟩,
  ⟨#[111, 114, 100, 101, 114]⟩,
  ⟨#[109, 101, 116, 104, 111, 100]⟩,
  ⟨#[109, 111, 114, 101]⟩]
def wd (i : Nat) : ByteArray := words.getD i ⟨#[]⟩
def cw (c : Int) : ByteArray := if 0 ≤ c ∧ c < 20 then wd c.toNat else ⟨#[]⟩
/-- The program's table of words lies in its variable. -/
def Table (w : World) : Prop := ∀ i, i < 20 → w.cell? ⟨0, i, none⟩ = some (.string (wd i))
theorem Table.below {B : Nat} {w w' : World} (h : Table w) (hb : Below B w w') (hB : 0 < B) : Table w' := fun i hi => by rw [hb.cell (p := ⟨0, i, none⟩) hB]; exact h i hi

theorem table_at (C : Nat) (h : C < 20) : ([.string ⟨#[111, 107]⟩, .string ⟨#[98, 97, 100]⟩, .string ⟨#[108, 111, 110, 103]⟩, .string ⟨#[102, 111, 114, 109]⟩, .string ⟨#[114, 97, 110, 103, 101]⟩, .string ⟨#[110, 111, 110, 101]⟩, .string ⟨#[109, 97, 110, 121]⟩, .string ⟨#[102, 117, 108, 108]⟩, .string ⟨#[115, 117, 109]⟩, .string ⟨#[116, 119, 105, 99, 101]⟩, .string ⟨#[112, 114, 111, 116, 111]⟩, .string ⟨#[112, 97, 114, 116]⟩, .string ⟨#[115, 116, 97, 116, 101]⟩, .string ⟨#[117, 115, 101, 114]⟩, .string ⟨#[98, 117, 115, 121]⟩, .string ⟨#[115, 112, 101, 110, 116]⟩, .string ⟨#[114, 101, 102, 117, 115, 101, 100]⟩, .string ⟨#[111, 114, 100, 101, 114]⟩, .string ⟨#[109, 101, 116, 104, 111, 100]⟩, .string ⟨#[109, 111, 114, 101]⟩] : List Value)[C]'(by simpa using h) = .string (wd C) := by
  have : C = 0 ∨ C = 1 ∨ C = 2 ∨ C = 3 ∨ C = 4 ∨ C = 5 ∨ C = 6 ∨ C = 7 ∨ C = 8 ∨ C = 9 ∨ C = 10 ∨ C = 11 ∨ C = 12 ∨ C = 13 ∨ C = 14 ∨ C = 15 ∨ C = 16 ∨ C = 17 ∨ C = 18 ∨ C = 19 := by omega
  rcases this with rfl | rfl | rfl | rfl | rfl | rfl | rfl | rfl | rfl | rfl | rfl | rfl | rfl | rfl | rfl | rfl | rfl | rfl | rfl | rfl
  all_goals rfl

set_option maxHeartbeats 2000000 in
theorem specCodeWord_nat (C : Nat) (w : World) (h1 : C < 20) :
    Calls Tryd.prog 7 #[.int .i64 C] w fun e w' => e = .returned (.string (wd C)) ∧ Below w.heap.size w w' := by
  have b1 : decide ((C : Int) < 0) = false := by simp
  have b2 : decide (20 ≤ (C : Int)) = false := by simp; omega
  go_enter Tryd.func7, Tryd.ntmps7
  go_wp2
  go_ret
  exact ⟨congrArg Ending.returned (table_at C h1), (Below.refl _ _).alloc (Nat.le_refl _) _⟩
theorem specCodeWord_in (c : Int) (w : World) (h0 : 0 ≤ c) (h1 : c < 20) :
    Calls Tryd.prog 7 #[.int .i64 c] w fun e w' => e = .returned (.string (cw c)) ∧ Below w.heap.size w w' := by
  obtain ⟨C, rfl⟩ := Int.eq_ofNat_of_zero_le h0
  have e : cw (C : Int) = wd C := by unfold cw; rw [if_pos ⟨h0, h1⟩]; rfl
  rw [e]; exact specCodeWord_nat C w (by omega)
theorem specCodeWord_out (c : Int) (w : World) (h : c < 0 ∨ 20 ≤ c) :
    Calls Tryd.prog 7 #[.int .i64 c] w fun e w' => e = .returned (.string ⟨#[]⟩) ∧ Below w.heap.size w w' := by
  rcases h with h | h
  · have b1 : decide (c < 0) = true := by simp; omega
    go_enter Tryd.func7, Tryd.ntmps7
    go_wp2
    go_ret
    exact ⟨rfl, (Below.refl _ _).alloc (Nat.le_refl _) _⟩
  · have b1 : decide (c < 0) = false := by simp; omega
    have b2 : decide (20 ≤ c) = true := by simp; omega
    go_enter Tryd.func7, Tryd.ntmps7
    go_wp2
    go_ret
    exact ⟨rfl, (Below.refl _ _).alloc (Nat.le_refl _) _⟩
theorem cw_out (c : Int) (h : c < 0 ∨ 20 ≤ c) : cw c = ⟨#[]⟩ := by unfold cw; rw [if_neg (by omega)]
theorem specCodeWord_any (c : Int) (w : World) :
    Calls Tryd.prog 7 #[.int .i64 c] w fun e w' => e = .returned (.string (cw c)) ∧ Below w.heap.size w w' := by
  by_cases h : 0 ≤ c ∧ c < 20
  · exact specCodeWord_in c w h.1 h.2
  · rw [cw_out c (by omega)]; exact specCodeWord_out c w (by omega)

theorem codeWord_in (C : Nat) (w : World) (h1 : C < 20) (hT : Table w) :
    Calls Tryd.prog 8 #[.int .i64 C] w fun e w' => e = .returned (.string (wd C)) ∧ w' = w := by
  have hc := hT C h1
  have b1 : decide ((C : Int) < 0) = false := by simp
  have b2 : decide (20 ≤ (C : Int)) = false := by simp; omega
  clear hT
  go_enter Tryd.func8, Tryd.ntmps8
  go_wp2
  go_ret
  exact ⟨rfl, rfl⟩
theorem codeWord_out (c : Int) (w : World) (h : c < 0 ∨ 20 ≤ c) :
    Calls Tryd.prog 8 #[.int .i64 c] w fun e w' => e = .returned (.string ⟨#[]⟩) ∧ w' = w := by
  rcases h with h | h
  · have b1 : decide (c < 0) = true := by simp; omega
    go_enter Tryd.func8, Tryd.ntmps8
    go_wp2
    go_ret
    exact ⟨rfl, rfl⟩
  · have b1 : decide (c < 0) = false := by simp; omega
    have b2 : decide (20 ≤ c) = true := by simp; omega
    go_enter Tryd.func8, Tryd.ntmps8
    go_wp2
    go_ret
    exact ⟨rfl, rfl⟩
theorem codeWord_any (c : Int) (w : World) (hT : Table w) :
    Calls Tryd.prog 8 #[.int .i64 c] w fun e w' => e = .returned (.string (cw c)) ∧ w' = w := by
  by_cases h : 0 ≤ c ∧ c < 20
  · obtain ⟨C, rfl⟩ := Int.eq_ofNat_of_zero_le h.1
    have e : cw (C : Int) = wd C := by unfold cw; rw [if_pos h]; rfl
    rw [e]; exact codeWord_in C w (by omega) hT
  · rw [cw_out c (by omega)]; exact codeWord_out c w (by omega)

theorem lawCodeWord_any (c : Int) (w : World) (hT : Table w) (h0 : 0 < w.heap.size) :
    Calls Tryd.prog 3 #[.int .i64 c] w fun e w' => e = .returned (.bool true) ∧ Below w.heap.size w w' := by
  have HT : Hid (Table w) := hT
  clear hT
  obtain ⟨s, hs⟩ : ∃ s, s = cw c := ⟨_, rfl⟩
  have HS : Hid (∀ w, Calls Tryd.prog 7 #[.int .i64 c] w fun e w' => e = .returned (.string s) ∧ Below w.heap.size w w') := by rw [hs]; exact specCodeWord_any c
  have HI : Hid (∀ w, Table w → Calls Tryd.prog 8 #[.int .i64 c] w fun e w' => e = .returned (.string s) ∧ w' = w) := by rw [hs]; exact codeWord_any c
  clear hs
  go_enter Tryd.func3, Tryd.ntmps3
  go_wp2_with fail
  refine (HS.out _).mono ?_
  rintro e w1 ⟨rfl, b1⟩
  have B1 : Hid (Below w.heap.size w w1) := b1
  clear b1
  go_wp2_with fail
  refine (HI.out _ (HT.out.below B1.out h0)).mono ?_
  rintro e w2 ⟨rfl, hw⟩
  subst hw
  go_wp2
  go_ret
  exact ⟨rfl, B1.out⟩
end Go.Proofs.YtpcjdfponkopaabDoor
