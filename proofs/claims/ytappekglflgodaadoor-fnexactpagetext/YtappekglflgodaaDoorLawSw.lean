/- StatusWord of both sides. -/
import Derived.Test.YtappekglflgodaaDoorProg
import Derived.WalkKit
import Derived.PlainAid
import Derived.Below
namespace Go.Proofs.YtappekglflgodaaDoor
open Go.RowKit Go.PlainAid
set_option linter.unusedVariables false
set_option maxRecDepth 20000

/-- The word of a status. -/
def swS (n : Int) : ByteArray := if n = 200 then ⟨#[79, 75]⟩ else if n = 302 then ⟨#[70, 111, 117, 110, 100]⟩ else if n = 400 then ⟨#[66, 97, 100, 32, 82, 101, 113, 117, 101, 115, 116]⟩ else if n = 403 then ⟨#[70, 111, 114, 98, 105, 100, 100, 101, 110]⟩ else if n = 404 then ⟨#[78, 111, 116, 32, 70, 111, 117, 110, 100]⟩ else if n = 429 then ⟨#[84, 111, 111, 32, 77, 97, 110, 121, 32, 82, 101, 113, 117, 101, 115, 116, 115]⟩ else if n = 503 then ⟨#[83, 101, 114, 118, 105, 99, 101, 32, 85, 110, 97, 118, 97, 105, 108, 97, 98, 108, 101]⟩ else ⟨#[]⟩

theorem specSw_any (n : Int) (w : World) : Calls Tryd.prog 20 #[.int .i64 n] w fun e w' => e = .returned (.string (swS n)) ∧ w' = w := by
  by_cases h200 : n = 200
  · subst h200
    have E : Hid (swS 200 = ⟨#[79, 75]⟩) := by show _ = _; decide
    rw [E.out]
    go_enter Tryd.func20, Tryd.ntmps20
    go_wp2
    go_ret
    exact ⟨rfl, rfl⟩
  by_cases h302 : n = 302
  · subst h302
    have E : Hid (swS 302 = ⟨#[70, 111, 117, 110, 100]⟩) := by show _ = _; decide
    rw [E.out]
    go_enter Tryd.func20, Tryd.ntmps20
    go_wp2
    go_ret
    exact ⟨rfl, rfl⟩
  by_cases h400 : n = 400
  · subst h400
    have E : Hid (swS 400 = ⟨#[66, 97, 100, 32, 82, 101, 113, 117, 101, 115, 116]⟩) := by show _ = _; decide
    rw [E.out]
    go_enter Tryd.func20, Tryd.ntmps20
    go_wp2
    go_ret
    exact ⟨rfl, rfl⟩
  by_cases h403 : n = 403
  · subst h403
    have E : Hid (swS 403 = ⟨#[70, 111, 114, 98, 105, 100, 100, 101, 110]⟩) := by show _ = _; decide
    rw [E.out]
    go_enter Tryd.func20, Tryd.ntmps20
    go_wp2
    go_ret
    exact ⟨rfl, rfl⟩
  by_cases h404 : n = 404
  · subst h404
    have E : Hid (swS 404 = ⟨#[78, 111, 116, 32, 70, 111, 117, 110, 100]⟩) := by show _ = _; decide
    rw [E.out]
    go_enter Tryd.func20, Tryd.ntmps20
    go_wp2
    go_ret
    exact ⟨rfl, rfl⟩
  by_cases h429 : n = 429
  · subst h429
    have E : Hid (swS 429 = ⟨#[84, 111, 111, 32, 77, 97, 110, 121, 32, 82, 101, 113, 117, 101, 115, 116, 115]⟩) := by show _ = _; decide
    rw [E.out]
    go_enter Tryd.func20, Tryd.ntmps20
    go_wp2
    go_ret
    exact ⟨rfl, rfl⟩
  by_cases h503 : n = 503
  · subst h503
    have E : Hid (swS 503 = ⟨#[83, 101, 114, 118, 105, 99, 101, 32, 85, 110, 97, 118, 97, 105, 108, 97, 98, 108, 101]⟩) := by show _ = _; decide
    rw [E.out]
    go_enter Tryd.func20, Tryd.ntmps20
    go_wp2
    go_ret
    exact ⟨rfl, rfl⟩
  have E : Hid (swS n = ⟨#[]⟩) := by show _ = _; unfold swS; rw [if_neg h200, if_neg h302, if_neg h400, if_neg h403, if_neg h404, if_neg h429, if_neg h503]
  rw [E.out]
  have e200 : (n == 200) = false := by simp [h200]
  have e302 : (n == 302) = false := by simp [h302]
  have e400 : (n == 400) = false := by simp [h400]
  have e403 : (n == 403) = false := by simp [h403]
  have e404 : (n == 404) = false := by simp [h404]
  have e429 : (n == 429) = false := by simp [h429]
  have e503 : (n == 503) = false := by simp [h503]
  clear h200 h302 h400 h403 h404 h429 h503
  go_enter Tryd.func20, Tryd.ntmps20
  go_wp2
  go_ret
  exact ⟨rfl, rfl⟩

theorem implSw_any (n : Int) (w : World) : Calls Tryd.prog 19 #[.int .i64 n] w fun e w' => e = .returned (.string (swS n)) ∧ w' = w := by
  by_cases h200 : n = 200
  · subst h200
    have E : Hid (swS 200 = ⟨#[79, 75]⟩) := by show _ = _; decide
    rw [E.out]
    go_enter Tryd.func19, Tryd.ntmps19
    go_wp2
    go_ret
    exact ⟨rfl, rfl⟩
  by_cases h302 : n = 302
  · subst h302
    have E : Hid (swS 302 = ⟨#[70, 111, 117, 110, 100]⟩) := by show _ = _; decide
    rw [E.out]
    go_enter Tryd.func19, Tryd.ntmps19
    go_wp2
    go_ret
    exact ⟨rfl, rfl⟩
  by_cases h400 : n = 400
  · subst h400
    have E : Hid (swS 400 = ⟨#[66, 97, 100, 32, 82, 101, 113, 117, 101, 115, 116]⟩) := by show _ = _; decide
    rw [E.out]
    go_enter Tryd.func19, Tryd.ntmps19
    go_wp2
    go_ret
    exact ⟨rfl, rfl⟩
  by_cases h403 : n = 403
  · subst h403
    have E : Hid (swS 403 = ⟨#[70, 111, 114, 98, 105, 100, 100, 101, 110]⟩) := by show _ = _; decide
    rw [E.out]
    go_enter Tryd.func19, Tryd.ntmps19
    go_wp2
    go_ret
    exact ⟨rfl, rfl⟩
  by_cases h404 : n = 404
  · subst h404
    have E : Hid (swS 404 = ⟨#[78, 111, 116, 32, 70, 111, 117, 110, 100]⟩) := by show _ = _; decide
    rw [E.out]
    go_enter Tryd.func19, Tryd.ntmps19
    go_wp2
    go_ret
    exact ⟨rfl, rfl⟩
  by_cases h429 : n = 429
  · subst h429
    have E : Hid (swS 429 = ⟨#[84, 111, 111, 32, 77, 97, 110, 121, 32, 82, 101, 113, 117, 101, 115, 116, 115]⟩) := by show _ = _; decide
    rw [E.out]
    go_enter Tryd.func19, Tryd.ntmps19
    go_wp2
    go_ret
    exact ⟨rfl, rfl⟩
  by_cases h503 : n = 503
  · subst h503
    have E : Hid (swS 503 = ⟨#[83, 101, 114, 118, 105, 99, 101, 32, 85, 110, 97, 118, 97, 105, 108, 97, 98, 108, 101]⟩) := by show _ = _; decide
    rw [E.out]
    go_enter Tryd.func19, Tryd.ntmps19
    go_wp2
    go_ret
    exact ⟨rfl, rfl⟩
  have E : Hid (swS n = ⟨#[]⟩) := by show _ = _; unfold swS; rw [if_neg h200, if_neg h302, if_neg h400, if_neg h403, if_neg h404, if_neg h429, if_neg h503]
  rw [E.out]
  have e200 : (n == 200) = false := by simp [h200]
  have e302 : (n == 302) = false := by simp [h302]
  have e400 : (n == 400) = false := by simp [h400]
  have e403 : (n == 403) = false := by simp [h403]
  have e404 : (n == 404) = false := by simp [h404]
  have e429 : (n == 429) = false := by simp [h429]
  have e503 : (n == 503) = false := by simp [h503]
  clear h200 h302 h400 h403 h404 h429 h503
  go_enter Tryd.func19, Tryd.ntmps19
  go_wp2
  go_ret
  exact ⟨rfl, rfl⟩

end Go.Proofs.YtappekglflgodaaDoor
