/- NumberBytes, the program's and the model's. -/
import Derived.Test.YtcgdpijmfgkalaaDoorProg
import Derived.Test.YtcgdpijmfgkalaaDoorNumOf
import Derived.Test.YtcgdpijmfgkalaaDoorNumB
import Derived.Test.YtcgdpijmfgkalaaDoorOwn
namespace Go.Proofs.YtcgdpijmfgkalaaDoor
open Go.RowKit Go.PlainAid
set_option linter.unusedVariables false
set_option maxRecDepth 20000

theorem numberBytes_no (n m : Int) (w : World) (h : ¬ (1 ≤ m ∧ m ≤ 6)) :
    Calls Tryd.prog 14 #[.int .i64 n, .int .i64 m] w fun e w' => e = .returned (.tuple #[.slice none 0 0, .int .i64 4]) ∧ w' = w := by
  by_cases h0 : m < 1
  · have b1 : decide (m < 1) = true := by simp; omega
    go_enter Tryd.func14, Tryd.ntmps14
    go_wp2
    go_ret2
    exact ⟨rfl, rfl⟩
  · have b1 : decide (m < 1) = false := by simp; omega
    have b2 : decide (6 < m) = true := by simp; omega
    go_enter Tryd.func14, Tryd.ntmps14
    go_wp2
    go_ret2
    exact ⟨rfl, rfl⟩

theorem numberBytes_out (n : Int) (m : Nat) (w : World) (h1 : 1 ≤ m) (h6 : m ≤ 6) (hx : n ≤ 9223372036854775807) (h : n < 0 ∨ 2 ^ (8 * m) ≤ n) :
    Calls Tryd.prog 14 #[.int .i64 n, .int .i64 m] w fun e w' => e = .returned (.tuple #[.slice none 0 0, .int .i64 4]) ∧ w' = w := by
  have b1 : decide ((m : Int) < 1) = false := by simp; omega
  have b2 : decide (6 < (m : Int)) = false := by simp; omega
  have H : Hid (n < 0 ∨ 2 ^ (8 * m) ≤ n) := h
  clear h
  go_enter Tryd.func14, Tryd.ntmps14
  go_wp2_with fail
  refine (hasRoom_n n m w h1 h6 H.out hx).mono ?_
  rintro e w0 ⟨rfl, hw⟩
  have hw' := hw.symm
  subst hw'
  go_wp2
  go_ret2
  exact ⟨rfl, rfl⟩

theorem nbl_snoc (n : Int) (m k : Nat) : (List.range (k + 1)).map (nb n m) = (List.range k).map (nb n m) ++ [nb n m k] := by
  rw [List.range_succ, List.map_append]; rfl

set_option maxHeartbeats 400000 in
theorem l01Number_any (n : Int) (m : Nat) (w : World) (h6 : m ≤ 6) (hn : 0 ≤ n) (hx : n ≤ 9223372036854775807) :
    Calls Tryd.prog 69 #[.int .i64 n, .int .i64 m] w fun e w' => e = .returned (.string (strOf (nb n m) m)) ∧ Below w.heap.size w w' := by
  obtain ⟨i0, hi, hz0, hz1, hz2⟩ := info_parts Tryd.infoByte
  go_enter Tryd.func69, Tryd.ntmps69
  go_wp2
  go_loopw [5, 6] (fun v i wr => ∃ k : Nat, k ≤ m ∧ i = .int .i64 ((m : Int) - 1 - k) ∧ OwnL 5 wr w.heap.size v ((List.range k).map (nb n m)) ∧ Below w.heap.size w wr) (fun _ i _ => (intOf i + 1).toNat)
  case atStart => exact ⟨0, Nat.zero_le _, by go_num, World.ownsRow_made w #[] 0 (Nat.le_refl _) (Nat.zero_le _) rfl, (Below.refl _ _).alloc (Nat.le_refl _) _⟩
  case round =>
    obtain ⟨k, hk, rfl, hown, hnx⟩ := hrel
    by_cases hlt2 : k < m
    · have hown' : wr.ownsRow w.heap.size 5 1 u5 k (((List.range k).map (nb n m)).map (Value.int .u8)) := by simpa [OwnL] using hown
      have hB : Hid (Below w.heap.size w wr) := hnx
      have hp : (0 : Int) < 2 ^ (8 * (m - 1 - k)) := Int.pow_pos (by omega)
      have hq0 : 0 ≤ n / 2 ^ (8 * (m - 1 - k)) := Int.ediv_nonneg hn (by omega)
      clear hnx
      go_wp2_with (first
        | (at_builtin; refine wpList_append_own _ rfl _ _ 22 rfl w.heap.size 5 i0 (.int .u8 0) 1 1 Tryd.underlying22 hi hz0 hz1 hz2 rfl (by decide) _ _ _ rfl (hown'.alloc _) ⟨wr.heap.size, 0, none⟩ 1 1 [.int .u8 (nb n m k)] rfl rfl ?c1 ?c2 ?c3 ?c4 ?c5 ?_)
        | go_in)
      case c1 => exact (cell_one_new _ _ _)
      case c2 => intro u hu; simp at hu; subst hu; rfl
      case c3 => unfold maxLen; omega
      case c4 => omega
      case c5 => have := hB.out.size; simp; omega
      intro v' w1 ho hg _
      have HO : Hid (OwnL 5 w1 w.heap.size v' ((List.range (k + 1)).map (nb n m))) := by
        show OwnL _ _ _ _ _
        rw [nbl_snoc]
        exact OwnL.snoc (by simpa using ho)
      have HB2 : Hid (Below w.heap.size w w1) := (hB.out.alloc hB.out.size _).grown hg (by have := hB.out.size; simp; omega) (fun q hq => (hown'.lt q hq).1)
      clear ho hg hown hown'
      go_wp2
      go_roundw
      case rel => exact ⟨k + 1, by omega, by go_num, HO.out, HB2.out⟩
      case measure => simp [intOf]; omega
    · obtain rfl : k = m := by omega
      have hlen : ((List.range k).map (nb n k)).length = k := by simp
      obtain ⟨a, cap, hv, hby, -⟩ := hown.slice (by intro x hx; obtain ⟨j, -, rfl⟩ := List.mem_map.1 hx; exact nb_bd n k j)
      have hc := conv_own (P := Tryd.prog) wr 22 9 5 Tryd.underlying22 Tryd.underlying5 Tryd.underlying9 a cap _ hby
      have hB : Hid (Below w.heap.size w wr) := hnx
      rw [hlen] at hv hc
      subst hv
      clear hnx hown hby hlen
      go_wp2
      go_ret
      exact ⟨rfl, hB.out⟩
end Go.Proofs.YtcgdpijmfgkalaaDoor
