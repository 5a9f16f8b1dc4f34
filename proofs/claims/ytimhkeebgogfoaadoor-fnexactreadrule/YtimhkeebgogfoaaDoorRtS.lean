/- A rule's text; RuleText of the model. -/
import Derived.Test.YtimhkeebgogfoaaDoorLawRule
import Derived.Test.YtimhkeebgogfoaaDoorNetT
namespace Go.Proofs.YtimhkeebgogfoaaDoor
open Go.RowKit Go.PlainAid Go.Proofs.YtimhkeebgogfoaaDoor.Bt Go.Sort
set_option linter.unusedVariables false
set_option maxRecDepth 20000
theorem protoNums_any (w : World) : Calls Tryd.prog 72 #[] w fun e w' => e = .returned (.slice (some ⟨w.heap.size, 0, none⟩) 4 4) ∧ w' = w.alloc (.cells #[.int .i64 0, .int .i64 1, .int .i64 6, .int .i64 17] 3) := by
  go_enter Tryd.func72, Tryd.ntmps72
  go_wp2
  go_ret
  exact ⟨rfl, rfl⟩
theorem protos_any (w : World) : Calls Tryd.prog 71 #[] w fun e w' => e = .returned (.slice (some ⟨w.heap.size, 0, none⟩) 4 4) ∧ w' = w.alloc (.cells #[.string ⟨#[97, 110, 121]⟩, .string ⟨#[105, 99, 109, 112]⟩, .string ⟨#[116, 99, 112]⟩, .string ⟨#[117, 100, 112]⟩] 9) := by
  go_enter Tryd.func71, Tryd.ntmps71
  go_wp2
  go_ret
  exact ⟨rfl, rfl⟩
def spc : ByteArray := ⟨#[32]⟩
/-- The first word, with its blank; what the first k protos put behind it. -/
def alS (al : Bool) : ByteArray := if al then ⟨#[97, 108, 108, 111, 119, 32]⟩ else ⟨#[100, 101, 110, 121, 32]⟩
def pk (p : Int) (k : Nat) : ByteArray := if (p = 0 ∧ 0 < k) ∨ (p = 1 ∧ 1 < k) ∨ (p = 6 ∧ 2 < k) ∨ (p = 17 ∧ 3 < k) then pwS p else ⟨#[]⟩
def dgS (n : Int) : ByteArray := strOfNums (dgs n.toNat)
/-- A rule's text. -/
def rtT (r : RuleV) : ByteArray := alS r.al ++ pwS r.p ++ spc ++ strOfNums (adl r.ip 4) ++ slash ++ dgS r.b ++ spc ++ dgS r.lo ++ spc ++ dgS r.hi
theorem app_nil (x : ByteArray) : x ++ (⟨#[]⟩ : ByteArray) = x := by
  apply ByteArray.ext
  simp
theorem pk_zero (p : Int) : pk p 0 = ⟨#[]⟩ := by unfold pk; rw [if_neg (by omega)]
theorem pk_four (p : Int) (h : p = 0 ∨ p = 1 ∨ p = 6 ∨ p = 17) : pk p 4 = pwS p := by unfold pk; rw [if_pos (by omega)]
theorem pw_size (p : Int) : (pwS p).size ≤ 4 := by unfold pwS; split; decide; split; decide; split; decide; split; decide; decide
theorem pk_size (p : Int) (k : Nat) : (pk p k).size ≤ 4 := by
  unfold pk
  split
  · exact pw_size p
  · decide
theorem ru_all {r : RuleV} (h : ruB r = true) : (r.p = 0 ∨ r.p = 1 ∨ r.p = 6 ∨ r.p = 17) ∧ nB r.ip r.b = true ∧ 0 ≤ r.lo ∧ r.lo ≤ 65535 ∧ 0 ≤ r.hi ∧ r.hi ≤ 65535 := by
  unfold ruB prB plB rgB at h
  simp only [Bool.and_eq_true] at h
  have h1 := of_decide_eq_true h.1
  have h2 := of_decide_eq_true h.2.2.1
  have h3 := of_decide_eq_true h.2.2.2
  exact ⟨h1, h.2.1, h2.1, h2.2, by omega, h3.2⟩
theorem dgS_size (n : Int) (h : n ≤ 65535) : (dgS n).size ≤ 5 := by unfold dgS; rw [strs_size]; exact (dgs_len 4 n.toNat (by omega)).2

end Go.Proofs.YtimhkeebgogfoaaDoor
