/- UnescapeText of both sides, and the walk of its exact law. -/
import Derived.Test.YtbpdfkngkkopbabUnI
import Derived.Test.YtbpdfkngkkopbabUnS
namespace Go.Proofs.Ytbpdfkngkkopbab
open Go.RowKit Go.PlainAid Go.Sort
set_option linter.unusedVariables false
set_option maxRecDepth 20000

theorem implUn_any (s : ByteArray) (w : World) (t : ByteArray) (c : Int) (h : (65536 < s.size ∧ t = ⟨#[]⟩ ∧ c = 2) ∨ (s.size ≤ 65536 ∧ unK (bt s) s.size 0 [] = none ∧ t = ⟨#[]⟩ ∧ c = 3) ∨ (s.size ≤ 65536 ∧ ∃ L, unK (bt s) s.size 0 [] = some L ∧ t = strOfNums L ∧ c = 0)) :
    Calls Try.prog 7 #[.string s] w fun e w' => e = .returned (.tuple #[.string t, .int .i64 c]) ∧ Below w.heap.size w w' := by
  have T : Hid (∀ w, Calls Try.prog 13 #[.func (.func 14) #[] #[], .string s] w fun e w' => e = .returned (.tuple #[.string t, .int .i64 c]) ∧ Below w.heap.size w w') := by
    intro w
    rcases h with ⟨h1, rfl, rfl⟩ | ⟨h1, h2, rfl, rfl⟩ | ⟨h1, L, h2, rfl, rfl⟩
    · exact parsedS_long _ s w h1
    · exact parsedS_no s 3 w h1 (fun w => parseEsc_any s none w h1 h2)
    · exact parsedS_yes s (strOfNums L) w h1 (fun w => parseEsc_any s (some L) w h1 h2)
  clear h
  go_enter Try.func7, Try.ntmps7
  go_wp2_with fail
  refine (T.out _).mono ?_
  rintro e w1 ⟨rfl, b1⟩
  go_wp2
  go_ret2
  exact ⟨rfl, b1⟩
theorem specUn_any (s : ByteArray) (w : World) (t : ByteArray) (c : Int) (h : (65536 < s.size ∧ t = ⟨#[]⟩ ∧ c = 2) ∨ (s.size ≤ 65536 ∧ unK (bt s) s.size 0 [] = none ∧ t = ⟨#[]⟩ ∧ c = 3) ∨ (s.size ≤ 65536 ∧ ∃ L, unK (bt s) s.size 0 [] = some L ∧ t = strOfNums L ∧ c = 0)) :
    Calls Try.prog 6 #[.string s] w fun e w' => e = .returned (.tuple #[.string t, .int .i64 c]) ∧ Below w.heap.size w w' := by
  rcases h with ⟨h1, rfl, rfl⟩ | ⟨h1, h2, rfl, rfl⟩ | ⟨h1, L, h2, rfl, rfl⟩
  · have t1 : decide ((65536 : Int) < (s.size : Int)) = true := decide_eq_true (by omega)
    clear h1
    go_enter Try.func6, Try.ntmps6
    go_wp2
    go_ret2
    exact ⟨rfl, Below.refl _ _⟩
  · have t1 : decide ((65536 : Int) < (s.size : Int)) = false := decide_eq_false (by omega)
    have T : Hid (∀ w, Calls Try.prog 12 #[.string s] w fun e w' => e = .returned (.tuple #[.string ⟨#[]⟩, .bool false]) ∧ Below w.heap.size w w') := fun w => l11Un_any s none w h1 h2
    clear h1 h2
    go_enter Try.func6, Try.ntmps6
    go_wp2_with fail
    refine (T.out _).mono ?_
    rintro e w1 ⟨rfl, b1⟩
    go_wp2
    go_ret2
    exact ⟨rfl, b1⟩
  · have t1 : decide ((65536 : Int) < (s.size : Int)) = false := decide_eq_false (by omega)
    have T : Hid (∀ w, Calls Try.prog 12 #[.string s] w fun e w' => e = .returned (.tuple #[.string (strOfNums L), .bool true]) ∧ Below w.heap.size w w') := fun w => l11Un_any s (some L) w h1 h2
    clear h1 h2
    generalize strOfNums L = z at T ⊢
    go_enter Try.func6, Try.ntmps6
    go_wp2_with fail
    refine (T.out _).mono ?_
    rintro e w1 ⟨rfl, b1⟩
    go_wp2
    go_ret2
    exact ⟨rfl, b1⟩
theorem un_cases (s : ByteArray) : ∃ t c, (65536 < s.size ∧ t = ⟨#[]⟩ ∧ c = (2 : Int)) ∨ (s.size ≤ 65536 ∧ unK (bt s) s.size 0 [] = none ∧ t = ⟨#[]⟩ ∧ c = 3) ∨ (s.size ≤ 65536 ∧ ∃ L, unK (bt s) s.size 0 [] = some L ∧ t = strOfNums L ∧ c = 0) := by
  by_cases h : 65536 < s.size
  · exact ⟨_, _, .inl ⟨h, rfl, rfl⟩⟩
  · cases e : unK (bt s) s.size 0 [] with
    | none => exact ⟨_, _, .inr (.inl ⟨by omega, rfl, rfl, rfl⟩)⟩
    | some L => exact ⟨_, _, .inr (.inr ⟨by omega, L, rfl, rfl, rfl⟩)⟩
theorem un_both (s : ByteArray) : ∃ (t : ByteArray) (c : Int), (∀ w, Calls Try.prog 6 #[.string s] w fun e w' => e = .returned (.tuple #[.string t, .int .i64 c]) ∧ Below w.heap.size w w') ∧
    ∀ w, Calls Try.prog 7 #[.string s] w fun e w' => e = .returned (.tuple #[.string t, .int .i64 c]) ∧ Below w.heap.size w w' := by
  obtain ⟨t, c, h⟩ := un_cases s
  exact ⟨t, c, fun w => specUn_any s w t c h, fun w => implUn_any s w t c h⟩
set_option maxHeartbeats 400000 in
theorem lawUn_any (s : ByteArray) (w : World) (hs : s.size ≤ maxLen) :
    Calls Try.prog 3 #[.string s] w fun e w' => e = .returned (.bool true) ∧ Below w.heap.size w w' := by
  unfold maxLen at hs
  by_cases hl : 1048576 < s.size
  · go_enter Try.func3, Try.ntmps3
    go_wp2
    go_ret
    exact ⟨rfl, Below.refl _ _⟩
  obtain ⟨t, c, hS, hI⟩ := un_both s
  have HS : Hid (∀ w, Calls Try.prog 6 #[.string s] w fun e w' => e = .returned (.tuple #[.string t, .int .i64 c]) ∧ Below w.heap.size w w') := hS
  have HI : Hid (∀ w, Calls Try.prog 7 #[.string s] w fun e w' => e = .returned (.tuple #[.string t, .int .i64 c]) ∧ Below w.heap.size w w') := hI
  clear hS hI
  have hne : (c != c) = false := by simp
  go_enter Try.func3, Try.ntmps3
  go_wp2_with fail
  refine (HS.out _).mono ?_
  rintro e w1 ⟨rfl, b1⟩
  have B1 : Hid (Below w.heap.size w w1) := b1
  clear b1
  go_wp2_with fail
  refine (HI.out _).mono ?_
  rintro e w2 ⟨rfl, b2⟩
  have B2 : Hid (Below w1.heap.size w1 w2) := b2
  clear b2
  go_wp2
  go_ret
  exact ⟨rfl, B1.out.trans (B2.out.mono B1.out.size)⟩
end Go.Proofs.Ytbpdfkngkkopbab
