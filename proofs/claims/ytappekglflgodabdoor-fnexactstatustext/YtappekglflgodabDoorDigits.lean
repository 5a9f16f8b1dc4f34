/- A number's digits: the model's l00Digits at every number from 0 on. -/
import Derived.Test.YtappekglflgodabDoorProg
import Derived.Test.YtappekglflgodabDoorOwn
import Derived.Lib.ItoaNum
import Derived.Deep.RegionHeld3
namespace Go.Proofs.YtappekglflgodabDoor
open Go.RowKit Go.PlainAid
set_option linter.unusedVariables false
set_option maxRecDepth 20000

/-- The decimal digits, as numbers of bytes. -/
def dgs (n : Nat) : List Int := if n < 10 then [48 + (n : Int)] else dgs (n / 10) ++ [48 + ((n % 10 : Nat) : Int)]
termination_by n
decreasing_by omega
theorem dgs_small {n : Nat} (h : n < 10) : dgs n = [48 + (n : Int)] := by rw [dgs, if_pos h]
theorem dgs_more {n : Nat} (h : 10 ≤ n) : dgs n = dgs (n / 10) ++ [48 + ((n % 10 : Nat) : Int)] := by rw [dgs, if_neg (by omega)]
theorem dgs_bd : ∀ n : Nat, ∀ x ∈ dgs n, 48 ≤ x ∧ x ≤ 57 := by
  intro n
  induction n using Nat.strongRecOn with
  | _ n ih =>
    intro x hx
    by_cases h : n < 10
    · rw [dgs_small h] at hx; simp at hx; omega
    · rw [dgs_more (by omega)] at hx
      rcases List.mem_append.1 hx with h1 | h1
      · exact ih (n / 10) (by omega) x h1
      · simp at h1; omega
theorem dgs_len : ∀ (k n : Nat), n < 10 ^ (k + 1) → 1 ≤ (dgs n).length ∧ (dgs n).length ≤ k + 1
  | 0, n, h => by rw [dgs_small (by simpa using h)]; simp
  | k + 1, n, h => by
    by_cases h1 : n < 10
    · rw [dgs_small h1]; simp
    · have := dgs_len k (n / 10) (by rw [Nat.div_lt_iff_lt_mul (by omega)]; rw [Nat.pow_succ] at h; exact h)
      rw [dgs_more (by omega)]
      simp; omega
theorem strOfNums_append (L M : List Int) : strOfNums L ++ strOfNums M = strOfNums (L ++ M) := by
  apply ByteArray.ext
  simp [strOfNums, ByteArray.data_append]

/-- 'string([]byte{x})'. -/
theorem conv_one (wx : World) (b : Nat) (x : Int) (h0 : 0 ≤ x) (h1 : x ≤ 255) (hb : wx.cell? ⟨b, 0, none⟩ = some (.int .u8 x)) : (convert 82 9 (.slice (some ⟨b, 0, none⟩) 1 1)).run Tryd.prog wx = .ok (.string (strOfNums [x])) wx := by
  have hB : Bytes wx (some ⟨b, 0, none⟩) [x].length (fun j => [x].getD j 0) := by
    refine ⟨fun k => ?_, fun _ => ⟨b, 0, rfl, fun i hi => ?_⟩⟩
    · rcases k with _ | k <;> simp <;> omega
    · obtain rfl : i = 0 := by simpa using hi
      simpa using hb
  exact conv_own (P := Tryd.prog) wx 82 9 5 Tryd.underlying82 Tryd.underlying5 Tryd.underlying9 (some ⟨b, 0, none⟩) 1 [x] hB

set_option maxHeartbeats 1000000 in
theorem l00Digits_any : ∀ (n : Nat) (w : World), n ≤ 9223372036854775807 →
    Calls Tryd.prog 30 #[.int .i64 n] w fun e w' => e = .returned (.string (strOfNums (dgs n))) ∧ Below w.heap.size w w' := by
  intro n
  induction n using Nat.strongRecOn with
  | _ n ih =>
    intro w hn
    have t0 : ((n : Int) == -9223372036854775808) = false := by rw [beq_eq_false_iff_ne]; omega
    by_cases h : n < 10
    · have HC := conv_one (w.alloc (.cells #[.int .u8 (48 + (n : Int))] 5)) w.heap.size (48 + (n : Int)) (by omega) (by omega) (by simp)
      clear ih
      go_enter Tryd.func30, Tryd.ntmps30
      go_wp2
      go_ret
      exact ⟨by rw [dgs_small h]; rfl, (Below.refl _ _).alloc (Nat.le_refl _) _⟩
    · have IH : Hid (∀ wx : World, Calls Tryd.prog 30 #[.int .i64 ((n : Int) / 10)] wx fun e w' => e = .returned (.string (strOfNums (dgs (n / 10)))) ∧ Below wx.heap.size wx w') := fun wx => ih (n / 10) (by omega) wx (by omega)
      clear ih
      go_enter Tryd.func30, Tryd.ntmps30
      have hcv : ∀ (wx : World) (b : Nat), wx.cell? ⟨b, 0, none⟩ = some (.int .u8 (48 + (n : Int) % 10)) → (convert 82 9 (.slice (some ⟨b, 0, none⟩) 1 1)).run Tryd.prog wx = .ok (.string (strOfNums [48 + (n : Int) % 10])) wx := fun wx b hb => conv_one wx b _ (by omega) (by omega) hb
      have hadd : ∀ wx : World, (Op.stringOp .add (strOfNums (dgs (n / 10))) (strOfNums [48 + (n : Int) % 10])).run Tryd.prog wx = .ok (.string (strOfNums (dgs (n / 10)) ++ strOfNums [48 + (n : Int) % 10])) wx := fun wx => run_string_add_sum (P := Tryd.prog) (w := wx) _ _ (by
        have := (dgs_len 18 (n / 10) (by omega)).2
        rw [strOfNums_size, strOfNums_size]
        simp; omega)
      have hdg : Hid (strOfNums (dgs n) = strOfNums (dgs (n / 10)) ++ strOfNums [48 + (n : Int) % 10]) := by
        show _ = _
        have e : ((n % 10 : Nat) : Int) = (n : Int) % 10 := by omega
        rw [dgs_more (by omega), strOfNums_append, e]
      have hw1 : IntKind.i64.wrap ((n : Int) / 10) = (n : Int) / 10 := by rw [IntKind.wrap_i64]; omega
      have htm : (n : Int).tmod 10 = (n : Int) % 10 := Int.tmod_eq_emod_of_nonneg (by omega)
      have hw2 : IntKind.i64.wrap ((n : Int) % 10) = (n : Int) % 10 := by rw [IntKind.wrap_i64]; omega
      have hw3 : IntKind.i64.wrap (48 + (n : Int) % 10) = 48 + (n : Int) % 10 := by rw [IntKind.wrap_i64]; omega
      have hw4 : IntKind.u8.wrap (48 + (n : Int) % 10) = 48 + (n : Int) % 10 := by rw [IntKind.wrap_u8]; omega
      go_wp2
      go_region_with (go_at_call 30; refine (IH.out _).mono ?_; rintro e w1 ⟨rfl, hb1⟩; (try have hcl : w1.cell? ⟨w.heap.size, 0, none⟩ = some (.int .u8 (48 + (n : Int) % 10)) := by (rw [hb1.cell (by simp)]; simp)))
      all_goals
        go_wp2
        go_ret
        refine ⟨by rw [hdg.out]; rfl, ?_⟩
        first
          | exact ((Below.refl w.heap.size w).drew.trans (hb1.mono (Nat.le_refl _))).alloc hb1.size _
          | exact (((Below.refl w.heap.size w).alloc (Nat.le_refl _) _).drew).trans (hb1.mono (by simp))
end Go.Proofs.YtappekglflgodabDoor
