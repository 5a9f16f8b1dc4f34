/- The program's AddressText, and the walk of the law FnExactAddressText. -/
import Derived.Test.YtcgdpijmfgkalacDoorRoom
import Derived.Test.YtcgdpijmfgkalacDoorAddress
import Derived.Test.YtcgdpijmfgkalacDoorInfo
import Derived.Test.YtcgdpijmfgkalacDoorShelf
import Derived.Deep.AppendLies
namespace Go.Proofs.YtcgdpijmfgkalacDoor
open Go.RowKit Go.PlainAid
set_option linter.unusedVariables false
set_option maxRecDepth 20000

theorem decDigits_is : ∀ n : Nat, Lib.byteCells (Lib.decDigits n) = (dgs n).map (Value.int .u8) := by
  intro n
  induction n using Nat.strongRecOn with
  | _ n ih =>
    by_cases h : n < 10
    · rw [Lib.decDigits, dif_pos h, dgs_small h]
      simp [Lib.byteCells]
      omega
    · rw [Lib.decDigits, dif_neg h, dgs_more (by omega), List.map_append, ← ih (n / 10) (by omega)]
      simp [Lib.byteCells]
      omega
theorem itoa_is (i : Int) (h : 0 ≤ i) : Lib.byteCells (Lib.itoa i) = (dgs i.toNat).map (Value.int .u8) := by
  unfold Lib.itoa
  rw [if_neg (by omega), decDigits_is]
theorem itoa_len (i : Int) (h : 0 ≤ i) : (Lib.itoa i).length = (dgs i.toNat).length := by
  have := congrArg List.length (itoa_is i h)
  simpa [Lib.byteCells] using this

/-- The table of powers of ten lies in its variable, whatever is done from block B on. -/
def Tens (B : Nat) (w : World) : Prop := Lib.TabBelow Tryd.prog B w "internal/strconv.uint64pow10" .u64 Lib.pow10Tab

theorem append_byte (w : World) (B : Nat) (v : Value) (L : List Int) (i : Int) (h0 : 0 ≤ i) (h1 : i ≤ 9223372036854775807) (hown : OwnL 5 w B v L) (hB : B ≤ w.heap.size) (hl : L.length ≤ 1000000) (ht : Tens B w) :
    Calls Tryd.prog 61 #[v, .int .i64 i, .int .i64 10] w fun e w' => ∃ v', e = .returned v' ∧ OwnL 5 w' B v' (L ++ dgs i.toNat) ∧ Below B w w' := by
  refine (Tryd.strconv_AppendInt_10 B L.length i (by omega) h1 v _ w hown hB (by omega) ht).mono ?_
  rintro e w' ⟨v', rfl, ho, hb, _⟩
  refine ⟨v', rfl, ?_, hb⟩
  rw [itoa_is i h0, itoa_len i h0] at ho
  exact OwnL.more ho

theorem adl_first (n : Int) : adl n 1 = da n 0 := by simp [adl]
theorem adl_next (n : Int) (k : Nat) (h : 0 < k) : adl n (k + 1) = adl n k ++ [46] ++ da n k := by
  rw [adl, if_neg (by omega), List.append_assoc]

set_option maxHeartbeats 1000000 in
theorem addressText_yes (n : Int) (w : World) (h0 : 0 ≤ n) (h1 : n ≤ 4294967295) (ht : Tens w.heap.size w) :
    Calls Tryd.prog 45 #[.int .i64 n] w fun e w' => e = .returned (.tuple #[.string (strOfNums (adl n 4)), .int .i64 0]) ∧ Below w.heap.size w w' := by
  obtain ⟨i0, hi, hz0, hz1, hz2⟩ := info_parts Tryd.infoB
  have HT : Hid (Tens w.heap.size w) := ht
  clear ht
  go_enter Tryd.func45, Tryd.ntmps45
  go_wp2_with fail
  refine (addressOK_y n _ h0 h1).mono ?_
  rintro e w1 ⟨rfl, hw1⟩
  obtain rfl := hw1.symm
  clear hw1
  go_wp2
  go_loopw [4, 5] (fun v i wr => ∃ k : Nat, k ≤ 4 ∧ i = .int .i64 (8 * (3 - (k : Int))) ∧ OwnL 5 wr w.heap.size v (adl n k) ∧ Below w.heap.size w wr) (fun _ i _ => (intOf i + 8).toNat)
  case atStart => exact ⟨0, Nat.zero_le _, by go_num, World.ownsRow_nil _ _ _ _, Below.refl _ _⟩
  case round =>
    obtain ⟨k, hk, rfl, hown, hnx⟩ := hrel
    have hlen := adl_len n k
    obtain ⟨a, cap, hv, hby, hbb⟩ := hown.slice (adl_bd n k)
    have hB : Hid (Below w.heap.size w wr) := hnx
    have hO : Hid (OwnL 5 wr w.heap.size u4 (adl n k)) := hown
    have HBY : Hid (Bytes wr a (adl n k).length (fun j => (adl n k).getD j 0)) := hby
    clear hnx hown hby hbb
    subst hv
    have hzz := hB.out.size
    by_cases hlt : k < 4
    · have hp : (0 : Int) < 2 ^ (8 * (3 - k)) := Int.pow_pos (by omega)
      have hp1 : (1 : Int) ≤ 2 ^ (8 * (3 - k)) := by omega
      have hq0 : 0 ≤ n / 2 ^ (8 * (3 - k)) := Int.ediv_nonneg h0 (by omega)
      have hq1 : n / 2 ^ (8 * (3 - k)) ≤ n := Int.ediv_le_self _ h0
      have hmask := Bt.mask8 (n / 2 ^ (8 * (3 - k))) hq0 (by omega)
      by_cases hk0 : k = 0
      · have hz : ¬ 0 < (adl n k).length := by rw [hk0]; simp [adl]
        have hz' : (adl n k).length < 1 := by omega
        have HK0 : Hid (k = 0) := hk0
        clear hk0
        go_wp2_with fail
        refine (append_byte wr w.heap.size _ (adl n k) (n / 2 ^ (8 * (3 - k)) % 256) (by omega) (by omega) hO.out hzz (by omega) (HT.out.on hB.out)).mono ?_
        rintro e w1 ⟨v1, rfl, ho1, hb1⟩
        have HO : Hid (OwnL 5 w1 w.heap.size v1 (adl n (k + 1))) := by
          show OwnL _ _ _ _ _
          have e1 : adl n (k + 1) = adl n k ++ da n k := by rw [HK0.out]; simp [adl]
          rw [e1]; exact ho1
        have HB : Hid (Below w.heap.size w w1) := hB.out.trans hb1
        clear ho1 hb1
        go_wp2
        go_roundw
        case rel => exact ⟨k + 1, by omega, by go_num, HO.out, HB.out⟩
        case measure => simp [intOf]; omega
      · have hz := adl_pos n k (by omega)
        have hk1 : 0 < k := by omega
        clear hk0
        go_wp2_with (first | (at_builtin; refine wpList_append_lies _ rfl _ _ 79 rfl w.heap.size 5 i0 (.int .u8 0) 1 1 Tryd.underlying79 hi hz0 hz1 hz2 rfl (by decide) (.slice a (adl n k).length cap) (adl n k).length ((adl n k).map (.int .u8)) rfl (World.ownsRow.alloc hO.out _) ⟨_, 0, none⟩ 1 1 [.int .u8 46] rfl rfl (cell_one_new _ _ _) (by simp [Value.oneCell']) (by omega) (by unfold maxLen; omega) (by omega) (by simp; omega) _ rfl ?_; intro g1 c1 w1 hown1 hgrow1 hat1 hlt1) | fail)
        have X1 : Hid (OwnL 5 w1 w.heap.size (.slice (some ⟨g1, 0, none⟩) ((adl n k).length + 1) c1) (adl n k ++ [46]) ∧ Below w.heap.size w w1) := ⟨OwnL.snoc hown1, (hB.out.alloc hB.out.size _).grown hgrow1 (by simp; omega) (fun q hq => (World.ownsRow.lt hO.out q hq).1)⟩
        clear hown1 hgrow1 hat1 hlt1
        refine (append_byte w1 w.heap.size _ (adl n k ++ [46]) (n / 2 ^ (8 * (3 - k)) % 256) (by omega) (by omega) X1.out.1 X1.out.2.size (by simp; omega) (HT.out.on X1.out.2)).mono ?_
        rintro e w2 ⟨v2, rfl, ho2, hb2⟩
        have HO : Hid (OwnL 5 w2 w.heap.size v2 (adl n (k + 1))) := by
          show OwnL _ _ _ _ _
          rw [adl_next n k hk1]; exact ho2
        have HB : Hid (Below w.heap.size w w2) := X1.out.2.trans hb2
        clear ho2 hb2
        go_wp2
        go_roundw
        case rel => exact ⟨k + 1, by omega, by go_num, HO.out, HB.out⟩
        case measure => simp [intOf]; omega
    · have hlen4 : Hid (adl n k = adl n 4) := by
        show _ = _
        rw [show k = 4 by omega]
      have hc := conv_own (P := Tryd.prog) wr 79 9 5 Tryd.underlying79 Tryd.underlying5 Tryd.underlying9 a cap _ HBY.out
      go_wp2
      go_ret2
      exact ⟨by rw [← hlen4.out]; rfl, hB.out⟩

theorem addressText_no (n : Int) (w : World) (h : n < 0 ∨ 4294967295 < n) :
    Calls Tryd.prog 45 #[.int .i64 n] w fun e w' => e = .returned (.tuple #[.string ⟨#[]⟩, .int .i64 4]) ∧ w' = w := by
  go_enter Tryd.func45, Tryd.ntmps45
  go_wp2_with fail
  refine (addressOK_n n _ (by omega)).mono ?_
  rintro e w1 ⟨rfl, hw1⟩
  obtain rfl := hw1.symm
  clear hw1
  go_wp2
  go_ret2
  exact ⟨rfl, rfl⟩

theorem Tens.now {w w1 : World} (h : Tens w.heap.size w) (hb : Below w.heap.size w w1) : Tens w1.heap.size w1 := Lib.tabBelow_of_tabIs (h w1 hb)

end Go.Proofs.YtcgdpijmfgkalacDoor
