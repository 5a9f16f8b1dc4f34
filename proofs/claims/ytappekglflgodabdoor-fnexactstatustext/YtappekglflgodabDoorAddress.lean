/- The model's l01Address and AddressText: an address's four bytes' numbers, points between. -/
import Derived.Test.YtappekglflgodabDoorDigits
import Derived.Test.YtappekglflgodabDoorBits
namespace Go.Proofs.YtappekglflgodabDoor
open Go.RowKit Go.PlainAid
set_option linter.unusedVariables false
set_option maxRecDepth 20000

theorem l00Digits_int (x : Int) (w : World) (h0 : 0 ≤ x) (h1 : x ≤ 9223372036854775807) :
    Calls Tryd.prog 30 #[.int .i64 x] w fun e w' => e = .returned (.string (strOfNums (dgs x.toNat))) ∧ Below w.heap.size w w' := by
  obtain ⟨n, rfl⟩ := Int.eq_ofNat_of_zero_le h0
  exact l00Digits_any n w (by omega)

/-- The digits of one byte of an address. -/
def da (n : Int) (k : Nat) : List Int := dgs (n / 2 ^ (8 * (3 - k)) % 256).toNat
theorem da_bd (n : Int) (k : Nat) : ∀ x ∈ da n k, 0 ≤ x ∧ x ≤ 255 := fun x hx => by have := dgs_bd _ x hx; omega
theorem da_len (n : Int) (k : Nat) : 1 ≤ (da n k).length ∧ (da n k).length ≤ 3 := dgs_len 2 _ (by omega)
/-- The text of the first k bytes. -/
def adl (n : Int) : Nat → List Int
  | 0 => []
  | k + 1 => adl n k ++ ((if k = 0 then [] else [46]) ++ da n k)
theorem adl_len (n : Int) : ∀ k : Nat, (adl n k).length ≤ 4 * k
  | 0 => by simp [adl]
  | k + 1 => by
    have := adl_len n k
    have := da_len n k
    unfold adl
    split <;> simp <;> omega
theorem adl_pos (n : Int) (k : Nat) (h : 0 < k) : 0 < (adl n k).length := by
  obtain ⟨j, rfl⟩ : ∃ j, k = j + 1 := ⟨k - 1, by omega⟩
  have := da_len n j
  unfold adl
  simp; omega
theorem adl_bd (n : Int) : ∀ k : Nat, ∀ x ∈ adl n k, 0 ≤ x ∧ x ≤ 255
  | 0 => by simp [adl]
  | k + 1 => by
    intro x hx
    unfold adl at hx
    rcases List.mem_append.1 hx with h | h
    · exact adl_bd n k x h
    · rcases List.mem_append.1 h with h | h
      · split at h <;> simp at h; omega
      · exact da_bd n k x h
theorem adl_four (n : Int) : adl n 4 = da n 0 ++ [46] ++ da n 1 ++ [46] ++ da n 2 ++ [46] ++ da n 3 := by
  simp [adl]

theorem dot_is : (⟨#[46]⟩ : ByteArray) = strOfNums [46] := rfl

theorem l01In_y (n lo hi : Int) (w : World) (h : lo ≤ n) (h' : n ≤ hi) : Calls Tryd.prog 13 #[.int .i64 n, .int .i64 lo, .int .i64 hi] w fun e w' => e = .returned (.bool true) ∧ w' = w := by
  go_enter Tryd.func13, Tryd.ntmps13
  go_wp2
  go_ret
  exact ⟨congrArg (fun b => Ending.returned (.bool b)) (by simp), rfl⟩
theorem l01In_n (n lo hi : Int) (w : World) (h : n < lo ∨ hi < n) : Calls Tryd.prog 13 #[.int .i64 n, .int .i64 lo, .int .i64 hi] w fun e w' => e = .returned (.bool false) ∧ w' = w := by
  by_cases h1 : lo ≤ n
  · go_enter Tryd.func13, Tryd.ntmps13
    go_wp2
    go_ret
    exact ⟨congrArg (fun b => Ending.returned (.bool b)) (by simp; omega), rfl⟩
  · have h1' : decide (lo ≤ n) = false := by simp; omega
    go_enter Tryd.func13, Tryd.ntmps13
    go_wp2
    go_ret
    exact ⟨rfl, rfl⟩

end Go.Proofs.YtappekglflgodabDoor
