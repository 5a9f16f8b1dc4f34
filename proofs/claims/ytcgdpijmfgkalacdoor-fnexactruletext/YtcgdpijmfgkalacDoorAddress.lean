/- The model's l01Address and AddressText: an address's four bytes' numbers, points between. -/
import Derived.Test.YtcgdpijmfgkalacDoorDigits
import Derived.Test.YtcgdpijmfgkalacDoorBits
namespace Go.Proofs.YtcgdpijmfgkalacDoor
open Go.RowKit Go.PlainAid
set_option linter.unusedVariables false
set_option maxRecDepth 20000

theorem l00Digits_int (x : Int) (w : World) (h0 : 0 ≤ x) (h1 : x ≤ 9223372036854775807) :
    Calls Tryd.prog 23 #[.int .i64 x] w fun e w' => e = .returned (.string (strOfNums (dgs x.toNat))) ∧ Below w.heap.size w w' := by
  obtain ⟨n, rfl⟩ := Int.eq_ofNat_of_zero_le h0
  exact l00Digits_any n w (by omega)

/-- The digits of one byte of an address. -/
def da (n : Int) (k : Nat) : List Int := dgs (n / 2 ^ (8 * (3 - k)) % 256).toNat
theorem da_bd (n : Int) (k : Nat) : ∀ x ∈ da n k, 0 ≤ x ∧ x ≤ 255 := fun x hx => by have := dgs_bd _ x hx; omega
theorem da_len (n : Int) (k : Nat) : 1 ≤ (da n k).length ∧ (da n k).length ≤ 3 := dgs_len 2 _ (by omega)
/-- The text of the first k bytes. -/
def adl (n : Int) : Nat → List Int
  | 0 => []
  | k + 1 => adl n k ++ ((if k = 0 then [] else [46]) ++ da n k)
theorem adl_len (n : Int) : ∀ k : Nat, (adl n k).length ≤ 4 * k
  | 0 => by simp [adl]
  | k + 1 => by
    have := adl_len n k
    have := da_len n k
    unfold adl
    split <;> simp <;> omega
theorem adl_pos (n : Int) (k : Nat) (h : 0 < k) : 0 < (adl n k).length := by
  obtain ⟨j, rfl⟩ : ∃ j, k = j + 1 := ⟨k - 1, by omega⟩
  have := da_len n j
  unfold adl
  simp; omega
theorem adl_bd (n : Int) : ∀ k : Nat, ∀ x ∈ adl n k, 0 ≤ x ∧ x ≤ 255
  | 0 => by simp [adl]
  | k + 1 => by
    intro x hx
    unfold adl at hx
    rcases List.mem_append.1 hx with h | h
    · exact adl_bd n k x h
    · rcases List.mem_append.1 h with h | h
      · split at h <;> simp at h; omega
      · exact da_bd n k x h
theorem adl_four (n : Int) : adl n 4 = da n 0 ++ [46] ++ da n 1 ++ [46] ++ da n 2 ++ [46] ++ da n 3 := by
  simp [adl]

theorem dot_is : (⟨#[46]⟩ : ByteArray) = strOfNums [46] := rfl

set_option maxHeartbeats 1000000 in
theorem l01Address_any (n : Int) (w : World) (h0 : 0 ≤ n) (h1 : n ≤ 4294967295) :
    Calls Tryd.prog 22 #[.int .i64 n] w fun e w' => e = .returned (.string (strOfNums (adl n 4))) ∧ Below w.heap.size w w' := by
  have m1 := Bt.mask8 (n / 65536) (by omega) (by omega)
  have m2 := Bt.mask8 (n / 256) (by omega) (by omega)
  have m3 := Bt.mask8 n (by omega) (by omega)
  have mk : ∀ (x : Int) (k : Nat), x = n / 2 ^ (8 * (3 - k)) % 256 → ∀ wx : World, Calls Tryd.prog 23 #[.int .i64 x] wx fun e w' => e = .returned (.string (strOfNums (da n k))) ∧ Below wx.heap.size wx w' := by
    intro x k hx wx
    have := l00Digits_int x wx (by omega) (by omega)
    unfold da
    rw [hx] at this ⊢
    exact this
  have K0 : Hid (∀ wx : World, Calls Tryd.prog 23 #[.int .i64 (n / 16777216)] wx fun e w' => e = .returned (.string (strOfNums (da n 0))) ∧ Below wx.heap.size wx w') := mk _ 0 (by simp; omega)
  have K1 : Hid (∀ wx : World, Calls Tryd.prog 23 #[.int .i64 (n / 65536 % 256)] wx fun e w' => e = .returned (.string (strOfNums (da n 1))) ∧ Below wx.heap.size wx w') := mk _ 1 (by simp)
  have K2 : Hid (∀ wx : World, Calls Tryd.prog 23 #[.int .i64 (n / 256 % 256)] wx fun e w' => e = .returned (.string (strOfNums (da n 2))) ∧ Below wx.heap.size wx w') := mk _ 2 (by simp)
  have K3 : Hid (∀ wx : World, Calls Tryd.prog 23 #[.int .i64 (n % 256)] wx fun e w' => e = .returned (.string (strOfNums (da n 3))) ∧ Below wx.heap.size wx w') := mk _ 3 (by simp)
  clear mk
  have s0 : (strOfNums (da n 0)).size ≤ 3 := by rw [strOfNums_size]; exact (da_len n 0).2
  have s1 : (strOfNums (da n 1)).size ≤ 3 := by rw [strOfNums_size]; exact (da_len n 1).2
  have s2 : (strOfNums (da n 2)).size ≤ 3 := by rw [strOfNums_size]; exact (da_len n 2).2
  have s3 : (strOfNums (da n 3)).size ≤ 3 := by rw [strOfNums_size]; exact (da_len n 3).2
  go_enter Tryd.func22, Tryd.ntmps22
  go_wp2_with fail
  refine (K0.out _).mono ?_
  rintro e w1 ⟨rfl, b1⟩
  have B1 : Hid (Below w.heap.size w w1) := b1
  clear b1
  go_wp2_with fail
  refine (K1.out _).mono ?_
  rintro e w2 ⟨rfl, b2⟩
  have B2 : Hid (Below w.heap.size w w2) := B1.out.trans (b2.mono B1.out.size)
  clear b2
  go_wp2_with fail
  refine (K2.out _).mono ?_
  rintro e w3 ⟨rfl, b3⟩
  have B3 : Hid (Below w.heap.size w w3) := B2.out.trans (b3.mono B2.out.size)
  clear b3
  go_wp2_with fail
  refine (K3.out _).mono ?_
  rintro e w4 ⟨rfl, b4⟩
  have B4 : Hid (Below w.heap.size w w4) := B3.out.trans (b4.mono B3.out.size)
  clear b4
  go_wp2
  go_ret
  refine ⟨?_, B4.out⟩
  rw [adl_four]
  simp only [← strOfNums_append]
  rfl

theorem l01In_y (n lo hi : Int) (w : World) (h : lo ≤ n) (h' : n ≤ hi) : Calls Tryd.prog 60 #[.int .i64 n, .int .i64 lo, .int .i64 hi] w fun e w' => e = .returned (.bool true) ∧ w' = w := by
  go_enter Tryd.func60, Tryd.ntmps60
  go_wp2
  go_ret
  exact ⟨congrArg (fun b => Ending.returned (.bool b)) (by simp), rfl⟩
theorem l01In_n (n lo hi : Int) (w : World) (h : n < lo ∨ hi < n) : Calls Tryd.prog 60 #[.int .i64 n, .int .i64 lo, .int .i64 hi] w fun e w' => e = .returned (.bool false) ∧ w' = w := by
  by_cases h1 : lo ≤ n
  · go_enter Tryd.func60, Tryd.ntmps60
    go_wp2
    go_ret
    exact ⟨congrArg (fun b => Ending.returned (.bool b)) (by simp; omega), rfl⟩
  · have h1' : decide (lo ≤ n) = false := by simp; omega
    go_enter Tryd.func60, Tryd.ntmps60
    go_wp2
    go_ret
    exact ⟨rfl, rfl⟩

theorem l01Ip_y (n : Int) (w : World) (h : 0 ≤ n) (h' : n ≤ 4294967295) : Calls Tryd.prog 59 #[.int .i64 n] w fun e w' => e = .returned (.bool true) ∧ w' = w := by
  go_enter Tryd.func59, Tryd.ntmps59
  go_wp2_with fail
  refine (l01In_y _ _ _ _ (by omega) (by omega)).mono ?_
  rintro e w' ⟨rfl, hw⟩
  subst hw
  go_wp2
  go_ret
  exact ⟨rfl, rfl⟩
theorem l01Ip_n (n : Int) (w : World) (h : n < 0 ∨ 4294967295 < n) : Calls Tryd.prog 59 #[.int .i64 n] w fun e w' => e = .returned (.bool false) ∧ w' = w := by
  go_enter Tryd.func59, Tryd.ntmps59
  go_wp2_with fail
  refine (l01In_n _ _ _ _ (by omega)).mono ?_
  rintro e w' ⟨rfl, hw⟩
  subst hw
  go_wp2
  go_ret
  exact ⟨rfl, rfl⟩

end Go.Proofs.YtcgdpijmfgkalacDoor
