/- NetText, the program's and the model's; the walk of its law. -/
import Derived.Test.YtbbjelkicenbhabDoorNetW
import Derived.Test.YtbbjelkicenbhabDoorLawNet
import Derived.Test.YtbbjelkicenbhabDoorAddressImpl
import Derived.Deep.RegionHeld3
namespace Go.Proofs.YtbbjelkicenbhabDoor
open Go.RowKit Go.PlainAid Go.Proofs.YtbbjelkicenbhabDoor.Bt Go.Sort
set_option linter.unusedVariables false
set_option maxRecDepth 20000

theorem dec_str (n : Nat) : (⟨(Lib.decDigits n).toArray⟩ : ByteArray) = strOfNums (dgs n) := by
  have h := decDigits_is n
  have e : Lib.decDigits n = (dgs n).map fun x : Int => UInt8.ofNat x.toNat := by
    have h2 := congrArg (List.map fun v : Value => match v with | .int _ x => UInt8.ofNat x.toNat | _ => 0) h
    simp only [Lib.byteCells, List.map_map] at h2
    have l : (Lib.decDigits n).map ((fun v : Value => match v with | .int _ x => UInt8.ofNat x.toNat | _ => 0) ∘ fun b : UInt8 => Value.int .u8 (b.toNat : Int)) = Lib.decDigits n := by
      conv => rhs; rw [← List.map_id (Lib.decDigits n)]
      apply List.map_congr_left
      intro b _
      simp
    rw [l] at h2
    exact h2
  unfold strOfNums
  rw [e]

def slash : ByteArray := ⟨#[47]⟩
/-- A net's text. -/
def ntT (ip b : Int) : ByteArray := strOfNums (adl ip 4) ++ slash ++ strOfNums (dgs b.toNat)
theorem strs_size (L : List Int) : (strOfNums L).size = L.length := by simp [strOfNums, ByteArray.size]

set_option maxHeartbeats 1000000 in
theorem specNetText_yes (ip b : Int) (w : World) (h : nB ip b = true) :
    Calls Tryd.prog 8 #[.agg #[.int .i64 ip, .int .i64 b]] w fun e w' => e = .returned (.tuple #[.string (ntT ip b), .int .i64 0]) ∧ Below w.heap.size w w' := by
  have hn := nB_yes h
  have HO : Hid (∀ w, Calls Tryd.prog 16 #[.agg #[.int .i64 ip, .int .i64 b]] w fun e w' => e = .returned (.bool true) ∧ Below w.heap.size w w') := fun w => (specNetOK_any ip b w).mono fun e w' hh => ⟨by rw [← h]; exact hh.1, hh.2.below⟩
  have HA : Hid (∀ w, Calls Tryd.prog 17 #[.int .i64 ip] w fun e w' => e = .returned (.string (strOfNums (adl ip 4))) ∧ Below w.heap.size w w') := fun w => l01Address_any ip w hn.1 hn.2.1
  have HD : Hid (∀ w, Calls Tryd.prog 18 #[.int .i64 b] w fun e w' => e = .returned (.string (strOfNums (dgs b.toNat))) ∧ Below w.heap.size w w') := fun w => l00Digits_int b w hn.2.2.1 (by omega)
  have za : (strOfNums (adl ip 4)).size ≤ 16 := by rw [strs_size]; exact adl_len ip 4
  have zb : (strOfNums (dgs b.toNat)).size ≤ 3 := by rw [strs_size]; exact (dgs_len 2 b.toNat (by omega)).2
  unfold ntT
  generalize strOfNums (adl ip 4) = TA at HA za ⊢
  generalize strOfNums (dgs b.toNat) = TB at HD zb ⊢
  clear hn h
  have hz1 : ¬ (9223372036854775807 < TA.size + 1) := by omega
  have hz2 : ¬ (9223372036854775807 < TA.size + 1 + TB.size) := by omega
  go_enter Tryd.func8, Tryd.ntmps8
  go_wp2_with fail
  refine (HO.out _).mono ?_
  rintro e w1 ⟨rfl, b1⟩
  have k0 : w1.cell? ⟨w.heap.size, 0, none⟩ = some (.int .i64 ip) := by rw [b1.cell (by simp)]; simp
  have k1 : w1.cell? ⟨w.heap.size, 1, none⟩ = some (.int .i64 b) := by rw [b1.cell (by simp)]; simp
  have B1 : Hid (Below w.heap.size w w1 ∧ w.heap.size < w1.heap.size) := ⟨((Below.refl _ _).alloc (Nat.le_refl _) _).trans (b1.mono (by simp)), World.block_lt_of_cell? w1 _ k0⟩
  clear b1
  go_wp2_with fail
  go_region_held3 (fun wx => wx.cell? ⟨w.heap.size, 0, none⟩ = some (.int .i64 ip) ∧ wx.cell? ⟨w.heap.size, 1, none⟩ = some (.int .i64 b) ∧ Below w.heap.size w wx ∧ w.heap.size < wx.heap.size)
    (first | exact ⟨k0, k1, B1.out.1.drew, B1.out.2⟩ | exact (And.imp (keep_c hb1) (And.imp (keep_c hb1) (keep_bs hb1))) (by assumption))
    (first | (go_at_call 17; (with_reducible refine (HA.out _).mono ?_); rintro e w' ⟨rfl, hb1⟩) | (go_at_call 18; (with_reducible refine (HD.out _).mono ?_); rintro e w' ⟨rfl, hb1⟩))
  rename_i hH
  have X : Hid (Below w.heap.size w w') := hH.2.2.1
  go_wp2
  go_ret2
  exact ⟨rfl, X.out⟩
set_option maxHeartbeats 1000000 in
theorem implNetText_yes (ip b : Int) (w : World) (h : nB ip b = true) (ht : Tens w.heap.size w) :
    Calls Tryd.prog 10 #[.agg #[.int .i64 ip, .int .i64 b]] w fun e w' => e = .returned (.tuple #[.string (ntT ip b), .int .i64 0]) ∧ Below w.heap.size w w' := by
  have hn := nB_yes h
  have HO : Hid (∀ w, Calls Tryd.prog 15 #[.agg #[.int .i64 ip, .int .i64 b]] w fun e w' => e = .returned (.bool true) ∧ Below w.heap.size w w') := fun w => (implNetOK_any ip b w).mono fun e w' hh => ⟨by rw [← h]; exact hh.1, hh.2.below⟩
  have HA : Hid (∀ w, Tens w.heap.size w → Calls Tryd.prog 19 #[.int .i64 ip] w fun e w' => e = .returned (.tuple #[.string (strOfNums (adl ip 4)), .int .i64 0]) ∧ Below w.heap.size w w') := fun w h => addressText_yes ip w hn.1 hn.2.1 h
  have HD : Hid (∀ w, Calls Tryd.prog 20 #[.int .i64 b] w fun e w' => e = .returned (.string (strOfNums (dgs b.toNat))) ∧ w' = w) := fun w => by
    obtain ⟨n, rfl⟩ := Int.eq_ofNat_of_zero_le hn.2.2.1
    have := Tryd.strconv_Itoa_small n (by omega) w
    rw [dec_str] at this
    exact this
  have HT : Hid (Tens w.heap.size w) := ht
  have za : (strOfNums (adl ip 4)).size ≤ 16 := by rw [strs_size]; exact adl_len ip 4
  have zb : (strOfNums (dgs b.toNat)).size ≤ 3 := by rw [strs_size]; exact (dgs_len 2 b.toNat (by omega)).2
  unfold ntT
  generalize strOfNums (adl ip 4) = TA at HA za ⊢
  generalize strOfNums (dgs b.toNat) = TB at HD zb ⊢
  clear hn h ht
  go_enter Tryd.func10, Tryd.ntmps10
  go_wp2_with fail
  refine (HO.out _).mono ?_
  rintro e w1 ⟨rfl, b1⟩
  have k0 : w1.cell? ⟨w.heap.size, 0, none⟩ = some (.int .i64 ip) := by rw [b1.cell (by simp)]; simp
  have k1 : w1.cell? ⟨w.heap.size, 1, none⟩ = some (.int .i64 b) := by rw [b1.cell (by simp)]; simp
  have B1 : Hid (Below w.heap.size w w1 ∧ w.heap.size < w1.heap.size) := ⟨((Below.refl _ _).alloc (Nat.le_refl _) _).trans (b1.mono (by simp)), World.block_lt_of_cell? w1 _ k0⟩
  clear b1
  go_wp2_with fail
  refine (HA.out _ (HT.out.now B1.out.1)).mono ?_
  rintro e w2 ⟨rfl, b2⟩
  have k0 : w2.cell? ⟨w.heap.size, 0, none⟩ = some (.int .i64 ip) := by rw [b2.cell (by exact B1.out.2)]; exact k0
  have k1 : w2.cell? ⟨w.heap.size, 1, none⟩ = some (.int .i64 b) := by rw [b2.cell (by exact B1.out.2)]; exact k1
  have B2 : Hid (Below w.heap.size w w2 ∧ w.heap.size < w2.heap.size) := ⟨B1.out.1.trans (b2.mono (Nat.le_of_lt B1.out.2)), World.block_lt_of_cell? w2 _ k0⟩
  clear b2
  go_wp2_with fail
  refine (HD.out _).mono ?_
  rintro e w3 ⟨rfl, hw⟩
  subst hw
  go_wp2
  go_ret2
  exact ⟨rfl, B2.out.1⟩

theorem specNetText_no (ip b : Int) (w : World) (h : nB ip b = false) :
    Calls Tryd.prog 8 #[.agg #[.int .i64 ip, .int .i64 b]] w fun e w' => e = .returned (.tuple #[.string ⟨#[]⟩, .int .i64 1]) ∧ Below w.heap.size w w' := by
  have HO : Hid (∀ w, Calls Tryd.prog 16 #[.agg #[.int .i64 ip, .int .i64 b]] w fun e w' => e = .returned (.bool false) ∧ Below w.heap.size w w') := fun w => (specNetOK_any ip b w).mono fun e w' hh => ⟨by rw [← h]; exact hh.1, hh.2.below⟩
  clear h
  go_enter Tryd.func8, Tryd.ntmps8
  go_wp2_with fail
  refine (HO.out _).mono ?_
  rintro e w1 ⟨rfl, b1⟩
  have B1 : Hid (Below w.heap.size w w1) := ((Below.refl _ _).alloc (Nat.le_refl _) _).trans (b1.mono (by simp))
  clear b1
  go_wp2
  go_ret2
  exact ⟨rfl, B1.out⟩
theorem implNetText_no (ip b : Int) (w : World) (h : nB ip b = false) :
    Calls Tryd.prog 10 #[.agg #[.int .i64 ip, .int .i64 b]] w fun e w' => e = .returned (.tuple #[.string ⟨#[]⟩, .int .i64 1]) ∧ Below w.heap.size w w' := by
  have HO : Hid (∀ w, Calls Tryd.prog 15 #[.agg #[.int .i64 ip, .int .i64 b]] w fun e w' => e = .returned (.bool false) ∧ Below w.heap.size w w') := fun w => (implNetOK_any ip b w).mono fun e w' hh => ⟨by rw [← h]; exact hh.1, hh.2.below⟩
  clear h
  go_enter Tryd.func10, Tryd.ntmps10
  go_wp2_with fail
  refine (HO.out _).mono ?_
  rintro e w1 ⟨rfl, b1⟩
  have B1 : Hid (Below w.heap.size w w1) := ((Below.refl _ _).alloc (Nat.le_refl _) _).trans (b1.mono (by simp))
  clear b1
  go_wp2
  go_ret2
  exact ⟨rfl, B1.out⟩
theorem netText_both (ip b : Int) : ∃ (t : ByteArray) (c : Int), (∀ w, Calls Tryd.prog 8 #[.agg #[.int .i64 ip, .int .i64 b]] w fun e w' => e = .returned (.tuple #[.string t, .int .i64 c]) ∧ Below w.heap.size w w') ∧
    ∀ w, Tens w.heap.size w → Calls Tryd.prog 10 #[.agg #[.int .i64 ip, .int .i64 b]] w fun e w' => e = .returned (.tuple #[.string t, .int .i64 c]) ∧ Below w.heap.size w w' := by
  cases h : nB ip b
  · exact ⟨_, _, fun w => specNetText_no ip b w h, fun w _ => implNetText_no ip b w h⟩
  · exact ⟨_, _, fun w => specNetText_yes ip b w h, fun w ht => implNetText_yes ip b w h ht⟩

set_option maxHeartbeats 400000 in
theorem lawNetText_any (ip b : Int) (w : World) (ht : Tens w.heap.size w) :
    Calls Tryd.prog 4 #[.agg #[.int .i64 ip, .int .i64 b]] w fun e w' => e = .returned (.bool true) ∧ Below w.heap.size w w' := by
  have HT : Hid (Tens w.heap.size w) := ht
  clear ht
  obtain ⟨t, c, hS, hI⟩ := netText_both ip b
  have HC : Hid (∀ w, Calls Tryd.prog 9 #[.agg #[.int .i64 ip, .int .i64 b]] w fun e w' => e = .returned (.agg #[.int .i64 ip, .int .i64 b]) ∧ Below w.heap.size w w') := fun w => toNet_any ip b w
  have HS : Hid (∀ w, Calls Tryd.prog 8 #[.agg #[.int .i64 ip, .int .i64 b]] w fun e w' => e = .returned (.tuple #[.string t, .int .i64 c]) ∧ Below w.heap.size w w') := hS
  have HI : Hid (∀ w, Tens w.heap.size w → Calls Tryd.prog 10 #[.agg #[.int .i64 ip, .int .i64 b]] w fun e w' => e = .returned (.tuple #[.string t, .int .i64 c]) ∧ Below w.heap.size w w') := hI
  clear hS hI
  have hne : (c != c) = false := by simp
  go_enter Tryd.func4, Tryd.ntmps4
  go_wp2_with fail
  refine (HC.out _).mono ?_
  rintro e w1 ⟨rfl, b1⟩
  have k0 : w1.cell? ⟨w.heap.size, 0, none⟩ = some (.int .i64 ip) := by rw [b1.cell (by simp)]; simp
  have k1 : w1.cell? ⟨w.heap.size, 1, none⟩ = some (.int .i64 b) := by rw [b1.cell (by simp)]; simp
  have B1 : Hid (Below w.heap.size w w1) := ((Below.refl _ _).alloc (Nat.le_refl _) _).trans (b1.mono (by simp))
  clear b1
  go_wp2_with fail
  refine (HS.out _).mono ?_
  rintro e w2 ⟨rfl, b2⟩
  have hl : w.heap.size < w1.heap.size := World.block_lt_of_cell? w1 _ k0
  have k0 : w2.cell? ⟨w.heap.size, 0, none⟩ = some (.int .i64 ip) := by rw [b2.cell (by exact hl)]; exact k0
  have k1 : w2.cell? ⟨w.heap.size, 1, none⟩ = some (.int .i64 b) := by rw [b2.cell (by exact hl)]; exact k1
  have B2 : Hid (Below w.heap.size w w2) := B1.out.trans (b2.mono (by omega))
  clear b2
  go_wp2_with fail
  refine (HC.out _).mono ?_
  rintro e w3 ⟨rfl, b3⟩
  have hl2 : w.heap.size < w2.heap.size := World.block_lt_of_cell? w2 _ k0
  have B3 : Hid (Below w.heap.size w w3) := B2.out.trans (b3.mono (by omega))
  have z3 := b3.size
  clear b3 k0 k1
  go_wp2_with fail
  refine (HI.out _ (HT.out.now B3.out)).mono ?_
  rintro e w4 ⟨rfl, b4⟩
  have B4 : Hid (Below w.heap.size w w4) := B3.out.trans (b4.mono (by omega))
  clear b4
  go_wp2
  go_ret
  exact ⟨rfl, B4.out⟩
end Go.Proofs.YtbbjelkicenbhabDoor
