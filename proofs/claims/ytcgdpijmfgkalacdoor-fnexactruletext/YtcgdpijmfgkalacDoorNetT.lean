/- NetText, the program's and the model's; the walk of its law. -/
import Derived.Test.YtcgdpijmfgkalacDoorNetW
import Derived.Test.YtcgdpijmfgkalacDoorLawNet
import Derived.Test.YtcgdpijmfgkalacDoorAddressImpl
import Derived.Deep.RegionHeld3
namespace Go.Proofs.YtcgdpijmfgkalacDoor
open Go.RowKit Go.PlainAid Go.Proofs.YtcgdpijmfgkalacDoor.Bt Go.Sort
set_option linter.unusedVariables false
set_option maxRecDepth 20000

theorem dec_str (n : Nat) : (⟨(Lib.decDigits n).toArray⟩ : ByteArray) = strOfNums (dgs n) := by
  have h := decDigits_is n
  have e : Lib.decDigits n = (dgs n).map fun x : Int => UInt8.ofNat x.toNat := by
    have h2 := congrArg (List.map fun v : Value => match v with | .int _ x => UInt8.ofNat x.toNat | _ => 0) h
    simp only [Lib.byteCells, List.map_map] at h2
    have l : (Lib.decDigits n).map ((fun v : Value => match v with | .int _ x => UInt8.ofNat x.toNat | _ => 0) ∘ fun b : UInt8 => Value.int .u8 (b.toNat : Int)) = Lib.decDigits n := by
      conv => rhs; rw [← List.map_id (Lib.decDigits n)]
      apply List.map_congr_left
      intro b _
      simp
    rw [l] at h2
    exact h2
  unfold strOfNums
  rw [e]

def slash : ByteArray := ⟨#[47]⟩
/-- A net's text. -/
def ntT (ip b : Int) : ByteArray := strOfNums (adl ip 4) ++ slash ++ strOfNums (dgs b.toNat)
theorem strs_size (L : List Int) : (strOfNums L).size = L.length := by simp [strOfNums, ByteArray.size]

set_option maxHeartbeats 1000000 in
theorem implNetText_yes (ip b : Int) (w : World) (h : nB ip b = true) (ht : Tens w.heap.size w) :
    Calls Tryd.prog 26 #[.agg #[.int .i64 ip, .int .i64 b]] w fun e w' => e = .returned (.tuple #[.string (ntT ip b), .int .i64 0]) ∧ Below w.heap.size w w' := by
  have hn := nB_yes h
  have HO : Hid (∀ w, Calls Tryd.prog 38 #[.agg #[.int .i64 ip, .int .i64 b]] w fun e w' => e = .returned (.bool true) ∧ Below w.heap.size w w') := fun w => (implNetOK_any ip b w).mono fun e w' hh => ⟨by rw [← h]; exact hh.1, hh.2.below⟩
  have HA : Hid (∀ w, Tens w.heap.size w → Calls Tryd.prog 45 #[.int .i64 ip] w fun e w' => e = .returned (.tuple #[.string (strOfNums (adl ip 4)), .int .i64 0]) ∧ Below w.heap.size w w') := fun w h => addressText_yes ip w hn.1 hn.2.1 h
  have HD : Hid (∀ w, Calls Tryd.prog 28 #[.int .i64 b] w fun e w' => e = .returned (.string (strOfNums (dgs b.toNat))) ∧ w' = w) := fun w => by
    obtain ⟨n, rfl⟩ := Int.eq_ofNat_of_zero_le hn.2.2.1
    have := Tryd.strconv_Itoa_small n (by omega) w
    rw [dec_str] at this
    exact this
  have HT : Hid (Tens w.heap.size w) := ht
  have za : (strOfNums (adl ip 4)).size ≤ 16 := by rw [strs_size]; exact adl_len ip 4
  have zb : (strOfNums (dgs b.toNat)).size ≤ 3 := by rw [strs_size]; exact (dgs_len 2 b.toNat (by omega)).2
  unfold ntT
  generalize strOfNums (adl ip 4) = TA at HA za ⊢
  generalize strOfNums (dgs b.toNat) = TB at HD zb ⊢
  clear hn h ht
  go_enter Tryd.func26, Tryd.ntmps26
  go_wp2_with fail
  refine (HO.out _).mono ?_
  rintro e w1 ⟨rfl, b1⟩
  have k0 : w1.cell? ⟨w.heap.size, 0, none⟩ = some (.int .i64 ip) := by rw [b1.cell (by simp)]; simp
  have k1 : w1.cell? ⟨w.heap.size, 1, none⟩ = some (.int .i64 b) := by rw [b1.cell (by simp)]; simp
  have B1 : Hid (Below w.heap.size w w1 ∧ w.heap.size < w1.heap.size) := ⟨((Below.refl _ _).alloc (Nat.le_refl _) _).trans (b1.mono (by simp)), World.block_lt_of_cell? w1 _ k0⟩
  clear b1
  go_wp2_with fail
  refine (HA.out _ (HT.out.now B1.out.1)).mono ?_
  rintro e w2 ⟨rfl, b2⟩
  have k0 : w2.cell? ⟨w.heap.size, 0, none⟩ = some (.int .i64 ip) := by rw [b2.cell (by exact B1.out.2)]; exact k0
  have k1 : w2.cell? ⟨w.heap.size, 1, none⟩ = some (.int .i64 b) := by rw [b2.cell (by exact B1.out.2)]; exact k1
  have B2 : Hid (Below w.heap.size w w2 ∧ w.heap.size < w2.heap.size) := ⟨B1.out.1.trans (b2.mono (Nat.le_of_lt B1.out.2)), World.block_lt_of_cell? w2 _ k0⟩
  clear b2
  go_wp2_with fail
  refine (HD.out _).mono ?_
  rintro e w3 ⟨rfl, hw⟩
  subst hw
  go_wp2
  go_ret2
  exact ⟨rfl, B2.out.1⟩

theorem implNetText_no (ip b : Int) (w : World) (h : nB ip b = false) :
    Calls Tryd.prog 26 #[.agg #[.int .i64 ip, .int .i64 b]] w fun e w' => e = .returned (.tuple #[.string ⟨#[]⟩, .int .i64 1]) ∧ Below w.heap.size w w' := by
  have HO : Hid (∀ w, Calls Tryd.prog 38 #[.agg #[.int .i64 ip, .int .i64 b]] w fun e w' => e = .returned (.bool false) ∧ Below w.heap.size w w') := fun w => (implNetOK_any ip b w).mono fun e w' hh => ⟨by rw [← h]; exact hh.1, hh.2.below⟩
  clear h
  go_enter Tryd.func26, Tryd.ntmps26
  go_wp2_with fail
  refine (HO.out _).mono ?_
  rintro e w1 ⟨rfl, b1⟩
  have B1 : Hid (Below w.heap.size w w1) := ((Below.refl _ _).alloc (Nat.le_refl _) _).trans (b1.mono (by simp))
  clear b1
  go_wp2
  go_ret2
  exact ⟨rfl, B1.out⟩
end Go.Proofs.YtcgdpijmfgkalacDoor
