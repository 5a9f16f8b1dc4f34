/- Roles: RoleOK, the program's and the model's. -/
import Derived.Test.YtimhkeebgogfoabDoorRuleW
import Derived.Test.YtimhkeebgogfoabDoorName
namespace Go.Proofs.YtimhkeebgogfoabDoor
open Go.RowKit Go.PlainAid Go.Proofs.YtimhkeebgogfoabDoor.Bt Go.Sort
set_option linter.unusedVariables false
set_option maxRecDepth 20000

/-- A role. -/
def roB (r : RoleV) : Bool := nameB (bt r.nm) r.nm.size && (dec (r.nm.size ≤ 8) && (dec (r.rs.length ≤ 8) && (dec (1 ≤ r.q ∧ r.q ≤ 1000000) && (dec (1 ≤ r.m ∧ r.m ≤ 1000) && (dec (1 ≤ r.i ∧ r.i ≤ 1000) && r.rs.all ruB)))))
theorem all_step2 {α : Type} {f : α → Bool} {xs : List α} {k : Nat} {x : α} (hx : xs[k]? = some x) (h : (xs.take k).all f = true) (hf : f x = true) : (xs.take (k + 1)).all f = true := by
  rw [List.take_add_one, List.all_append, h, hx]
  simp [hf]
theorem all_no {α : Type} {f : α → Bool} {xs : List α} {k : Nat} {x : α} (hx : xs[k]? = some x) (hf : f x = false) : xs.all f = false := by
  rw [List.all_eq_false]
  exact ⟨x, List.mem_of_getElem? hx, by simp [hf]⟩
theorem all_end {α : Type} {f : α → Bool} {xs : List α} {k : Nat} (hk : xs.length = k) (h : (xs.take k).all f = true) : xs.all f = true := by
  rwa [List.take_of_length_le (by omega)] at h
theorem shortNameOK_any (s : ByteArray) (w : World) (hs : s.size ≤ 1048576) : Calls Tryd.prog 10 #[.string s] w fun e w' => e = .returned (.bool (nameB (bt s) s.size && dec (s.size ≤ 8))) ∧ w' = w := by
  obtain ⟨n, hn⟩ : ∃ n, n = nameB (bt s) s.size := ⟨_, rfl⟩
  have HN : Hid (∀ w, Calls Tryd.prog 15 #[.string s] w fun e w' => e = .returned (.bool n) ∧ w' = w) := fun w => hn ▸ nameOK_any s w hs
  rw [← hn]
  clear hn
  by_cases h8 : s.size ≤ 8
  · rw [dec_y h8, Bool.and_true]
    have h8z : (s.size : Int) ≤ 8 := by omega
    go_enter Tryd.func10, Tryd.ntmps10
    go_wp2_with fail
    refine (HN.out _).mono ?_
    rintro e w1 ⟨rfl, rfl⟩
    go_wp2
    go_ret
    exact ⟨rfl, rfl⟩
  · rw [dec_n h8, Bool.and_false]
    have h8z : ¬ (s.size : Int) ≤ 8 := by omega
    go_enter Tryd.func10, Tryd.ntmps10
    go_wp2
    go_ret
    exact ⟨rfl, rfl⟩

end Go.Proofs.YtimhkeebgogfoabDoor
