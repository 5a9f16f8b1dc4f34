/- CodeOf, the program's and the model's: the code of a word, or -1; the walk of its law. -/
import Derived.Test.YtpcjdfponkopaabDoorCodes
namespace Go.Proofs.YtpcjdfponkopaabDoor
open Go.RowKit
set_option linter.unusedVariables false

/-- The first code whose word it is. -/
def cof (s : ByteArray) : Int := match (List.range 20).find? (fun j => (wd j).toList == s.toList) with | some j => j | none => -1

theorem find_first {p : Nat → Bool} {n k : Nat} (hk : k < n) (h : ∀ j, j < k → p j = false) (hp : p k = true) : (List.range n).find? p = some k := by
  rw [List.find?_range_eq_some]
  exact ⟨hp, by simpa using hk, fun j hj => by simp [h j hj]⟩
theorem find_none' {p : Nat → Bool} {n : Nat} (h : ∀ j, j < n → p j = false) : (List.range n).find? p = none := by
  rw [List.find?_eq_none]
  intro x hx
  simp [h x (by simpa using hx)]

theorem cof_hit (s : ByteArray) (k : Nat) (hk : k < 20) (h : ∀ j, j < k → ((wd j).toList == s.toList) = false) (hp : ((wd k).toList == s.toList) = true) : cof s = k := by
  unfold cof; rw [find_first hk h hp]
theorem cof_none (s : ByteArray) (h : ∀ j, j < 20 → ((wd j).toList == s.toList) = false) : cof s = -1 := by
  unfold cof; rw [find_none' h]
theorem step_ne {s : ByteArray} {k : Nat} (h : ∀ j, j < k → ((wd j).toList == s.toList) = false) (hk : ((wd k).toList == s.toList) = false) : ∀ j, j < k + 1 → ((wd j).toList == s.toList) = false := by
  intro j hj
  by_cases e : j = k
  · subst e; exact hk
  · exact h j (by omega)
theorem ret_z {a b : Int} (h : a = b) : Ending.returned (.int .i64 a) = .returned (.int .i64 b) := by rw [h]

set_option maxHeartbeats 400000 in
theorem codeOf_any (s : ByteArray) (w : World) (hT : Table w) (hs : s.size ≤ 1048576) :
    Calls Tryd.prog 10 #[.string s] w fun e w' => e = .returned (.int .i64 (cof s)) ∧ w' = w := by
  have HT : Hid (Table w) := hT
  clear hT
  go_enter Tryd.func10, Tryd.ntmps10
  go_wp2
  go_loop [4] (fun i => ∃ k : Nat, k ≤ 20 ∧ i = .int .i64 k ∧ ∀ j, j < k → ((wd j).toList == s.toList) = false) (fun i => 20 - (intOf i).toNat)
  case atStart => exact ⟨0, Nat.zero_le _, rfl, fun j hj => absurd hj (by omega)⟩
  case round =>
    obtain ⟨k, hk, rfl, hall⟩ := hrel
    have HA : Hid (∀ j, j < k → ((wd j).toList == s.toList) = false) := hall
    clear hall
    by_cases hlt : k < 20
    · have hc := HT.out k hlt
      obtain ⟨x, hx⟩ : ∃ x, x = wd k := ⟨_, rfl⟩
      rw [← hx] at hc
      have HX : Hid (x = wd k) := hx
      clear hx
      cases he : (x.toList == s.toList)
      · have HE : Hid (((wd k).toList == s.toList) = false) := by rw [← HX.out]; exact he
        go_wp2
        go_round
        case rel => exact ⟨k + 1, by omega, by go_num, step_ne HA.out HE.out⟩
        case measure => simp [intOf]; omega
      · have HE : Hid (((wd k).toList == s.toList) = true) := by rw [← HX.out]; exact he
        go_wp2
        go_ret
        exact ⟨ret_z (cof_hit s k hlt HA.out HE.out).symm, rfl⟩
    · go_wp2
      go_ret
      exact ⟨ret_z (cof_none s (fun j hj => HA.out j (by omega))).symm, rfl⟩

theorem cw_nat (k : Nat) (h : k < 20) : cw (k : Int) = wd k := by unfold cw; rw [if_pos (by omega)]; rfl

set_option maxHeartbeats 400000 in
theorem specCodeOf_any (s : ByteArray) (w : World) (hs : s.size ≤ 1048576) :
    Calls Tryd.prog 9 #[.string s] w fun e w' => e = .returned (.int .i64 (cof s)) ∧ Below w.heap.size w w' := by
  go_enter Tryd.func9, Tryd.ntmps9
  go_wp2
  go_loopw [3] (fun i wr => ∃ k : Nat, k ≤ 20 ∧ i = .int .i64 k ∧ (∀ j, j < k → ((wd j).toList == s.toList) = false) ∧ Below w.heap.size w wr) (fun i _ => 20 - (intOf i).toNat)
  case atStart => exact ⟨0, Nat.zero_le _, rfl, fun j hj => absurd hj (by omega), Below.refl _ _⟩
  case round =>
    obtain ⟨k, hk, rfl, hall, hb⟩ := hrel
    have HA : Hid (∀ j, j < k → ((wd j).toList == s.toList) = false) := hall
    have HB : Hid (Below w.heap.size w wr) := hb
    clear hall hb
    by_cases hlt : k < 20
    · obtain ⟨x, hx⟩ : ∃ x, x = wd k := ⟨_, rfl⟩
      have HC : Hid (Calls Tryd.prog 7 #[.int .i64 k] wr fun e w' => e = .returned (.string x) ∧ Below wr.heap.size wr w') := by
        have := specCodeWord_any (k : Int) wr
        rw [cw_nat k hlt, ← hx] at this
        exact this
      have HX : Hid (x = wd k) := hx
      clear hx
      cases he : (x.toList == s.toList)
      · have HE : Hid (((wd k).toList == s.toList) = false) := by rw [← HX.out]; exact he
        go_wp2_with fail
        refine HC.out.mono ?_
        rintro e w1 ⟨rfl, hb1⟩
        have B1 : Hid (Below w.heap.size w w1) := HB.out.trans (hb1.mono HB.out.size)
        clear hb1
        go_wp2
        go_roundw
        case rel => exact ⟨k + 1, by omega, by go_num, step_ne HA.out HE.out, B1.out⟩
        case measure => simp [intOf]; omega
      · have HE : Hid (((wd k).toList == s.toList) = true) := by rw [← HX.out]; exact he
        go_wp2_with fail
        refine HC.out.mono ?_
        rintro e w1 ⟨rfl, hb1⟩
        have B1 : Hid (Below w.heap.size w w1) := HB.out.trans (hb1.mono HB.out.size)
        clear hb1
        go_wp2
        go_ret
        exact ⟨ret_z (cof_hit s k hlt HA.out HE.out).symm, B1.out⟩
    · go_wp2
      go_ret
      exact ⟨ret_z (cof_none s (fun j hj => HA.out j (by omega))).symm, HB.out⟩

set_option maxHeartbeats 400000 in
theorem lawCodeOf_any (s : ByteArray) (w : World) (hs : s.size ≤ maxLen) (hT : Table w) (h0 : 0 < w.heap.size) :
    Calls Tryd.prog 4 #[.string s] w fun e w' => e = .returned (.bool true) ∧ Below w.heap.size w w' := by
  unfold maxLen at hs
  have HT : Hid (Table w) := hT
  clear hT
  by_cases hl : 1048576 < s.size
  · go_enter Tryd.func4, Tryd.ntmps4
    go_wp2
    go_ret
    exact ⟨rfl, Below.refl _ _⟩
  obtain ⟨c, hc⟩ : ∃ c, c = cof s := ⟨_, rfl⟩
  have HS : Hid (∀ w, Calls Tryd.prog 9 #[.string s] w fun e w' => e = .returned (.int .i64 c) ∧ Below w.heap.size w w') := by rw [hc]; exact fun w => specCodeOf_any s w (by omega)
  have HI : Hid (∀ w, Table w → Calls Tryd.prog 10 #[.string s] w fun e w' => e = .returned (.int .i64 c) ∧ w' = w) := by rw [hc]; exact fun w h => codeOf_any s w h (by omega)
  clear hc
  have hne : (c != c) = false := by simp
  go_enter Tryd.func4, Tryd.ntmps4
  go_wp2_with fail
  refine (HS.out _).mono ?_
  rintro e w1 ⟨rfl, b1⟩
  have B1 : Hid (Below w.heap.size w w1) := b1
  clear b1
  go_wp2_with fail
  refine (HI.out _ (HT.out.below B1.out h0)).mono ?_
  rintro e w2 ⟨rfl, hw⟩
  subst hw
  go_wp2
  go_ret
  exact ⟨rfl, B1.out⟩
end Go.Proofs.YtpcjdfponkopaabDoor
