/- The program's ReadMac, and the walk of the law FnExactReadMac. -/
import Derived.Test.YtcgdpijmfgkalaaDoorReadMac
import Derived.BigQuiet
import Derived.Deep.QuietTactic
namespace Go.Proofs.YtcgdpijmfgkalaaDoor
open Go.RowKit Go.PlainAid
set_option linter.unusedVariables false
set_option maxRecDepth 20000

set_option maxHeartbeats 1000000 in
theorem readMac_yes (s : ByteArray) (w : World) (hs : s.size = 17) :
    Calls Tryd.prog 12 #[.string s] w fun e w' => e = .returned (.tuple #[.string (rmT (bt s)), .int .i64 (rmC (bt s))]) ∧ Below w.heap.size w w' := by
  obtain ⟨i0, hi, hz0, hz1, hz2⟩ := info_parts Tryd.infoByte
  have hb := get_bt s
  have hs1 : s.size ≤ 17 := by omega
  have hs2 : 17 ≤ s.size := by omega
  have hne : ((s.size : Int) != 17) = false := by simp; omega
  clear hs
  have hmk : ∀ w : World, (Instr.makeSlice 22 (.int .i64 0) (.int .i64 6)).run Tryd.prog w = .ok (.slice (some ⟨w.heap.size, 0, none⟩) 0 6) (w.alloc (.cells #[.int .u8 0, .int .u8 0, .int .u8 0, .int .u8 0, .int .u8 0, .int .u8 0] 5)) := fun _ => by kernel_rfl
  go_enter Tryd.func12, Tryd.ntmps12
  go_wp2
  go_loopw [4, 5] (fun v i wr => ∃ k : Nat, k ≤ 6 ∧ i = .int .i64 (3 * (k : Int)) ∧ OwnL 5 wr w.heap.size v (rml (bt s) k) ∧ Below w.heap.size w wr ∧ ∀ j, j < k → badB (bt s) j = false) (fun _ i _ => 18 - (intOf i).toNat)
  case atStart => exact ⟨0, Nat.zero_le _, rfl, World.ownsRow_made w #[.int .u8 0, .int .u8 0, .int .u8 0, .int .u8 0, .int .u8 0, .int .u8 0] 6 (Nat.le_refl _) (by unfold maxLen; omega) rfl, (Below.refl _ _).alloc (Nat.le_refl _) _, fun j hj => absurd hj (by omega)⟩
  case round =>
    obtain ⟨k, hk, rfl, hown, hnx, hall⟩ := hrel
    clear hmk
    have hB : Hid (Below w.heap.size w wr) := hnx
    have hO : Hid (OwnL 5 wr w.heap.size u4 (rml (bt s) k)) := hown
    have hA : Hid (∀ j, j < k → badB (bt s) j = false) := hall
    have hL : Hid ((rml (bt s) k).length = k) := rml_len _ _
    clear hnx hown hall
    by_cases hlt : k < 6
    · have a0 := bt_nonneg s (3 * k)
      have a1 := bt_le s (3 * k)
      have b0 := bt_nonneg s (3 * k + 1)
      have b1 := bt_le s (3 * k + 1)
      have c0 := half_bd (bt s (3 * k))
      have c1 := half_bd (bt s (3 * k + 1))
      go_wp2
      go_quiet ((go_at_call 37; exact Calls.quiet_of_same (hexValue_any _ _ (by omega) (by omega))))
      have hzz := hB.out.size
      have hB' : Hid (Below w.heap.size w (wr.drewN nq)) := ⟨hB.out.os, hB.out.tape, hB.out.output, hB.out.size, hB.out.block⟩
      have hO' : Hid (OwnL 5 (wr.drewN nq) w.heap.size u4 (rml (bt s) k)) := hO.out
      clear hB hO
      have hB := hB'
      have hO := hO'
      clear hB' hO'
      cases hbad : badB (bt s) k
      · have HB : Hid (badB (bt s) k = false) := hbad
        have hbad' := hbad
        simp only [badB, Bool.or_eq_false_iff, decide_eq_false_iff_not] at hbad'
        obtain ⟨⟨d1, d2⟩, d3⟩ := hbad'
        have D3 : Hid ((decide (k < 5) && (bt s (3 * k + 2) != 58)) = false) := d3
        clear hbad d3
        have e1 : decide (half (bt s (3 * k)) < 0) = false := by simp; omega
        have e2 : decide (half (bt s (3 * k + 1)) < 0) = false := by simp; omega
        have d1' : 0 ≤ half (bt s (3 * k)) := by omega
        have d2' : 0 ≤ half (bt s (3 * k + 1)) := by omega
        have hj := Bt.join4 (half (bt s (3 * k))) (half (bt s (3 * k + 1))) d1' (by omega) d2' (by omega)
        clear d1 d2
        by_cases h5 : k < 5
        · have e3 : (bt s (3 * k + 2) != 58) = false := by have := D3.out; simpa [h5] using this
          have e4 : decide (3 * (k : Int) + 2 < (s.size : Int)) = true := by simp; omega
          go_wp2_with (first
            | (at_builtin; refine wpList_append_lies _ rfl _ _ 22 rfl w.heap.size 5 i0 (.int .u8 0) 1 1 Tryd.underlying22 hi hz0 hz1 hz2 rfl (by decide) u4 (rml (bt s) k).length ((rml (bt s) k).map (.int .u8)) rfl (World.ownsRow.alloc hO.out _) ⟨_, 0, none⟩ 1 1 [.int .u8 (half (bt s (3 * k)) * 16 + half (bt s (3 * k + 1)))] rfl rfl (cell_one_new _ _ _) (by simp [Value.oneCell']) (by omega) (by rw [hL.out]; unfold maxLen; omega) (by rw [hL.out]; omega) (by simp; omega) _ rfl ?_; intro g1 cap1 w1 hown1 hgrow1 hat1 hlt1))
          have HO : Hid (OwnL 5 w1 w.heap.size (.slice (some ⟨g1, 0, none⟩) ((rml (bt s) k).length + 1) cap1) (rml (bt s) (k + 1))) := by
            show OwnL _ _ _ _ _
            rw [rml_snoc, Int.mul_comm 16]
            exact OwnL.snoc hown1
          have HB2 : Hid (Below w.heap.size w w1) := (hB.out.alloc hB.out.size _).grown hgrow1 (by simp; omega) (fun q hq => (World.ownsRow.lt hO.out q hq).1)
          clear hown1 hgrow1 hat1 hlt1
          go_wp2
          go_roundw
          case rel => exact ⟨k + 1, by omega, by go_num, HO.out, HB2.out, ok_step hA.out HB.out⟩
          case measure => simp [intOf]; omega
        · have e4 : decide (3 * (k : Int) + 2 < (s.size : Int)) = false := by simp; omega
          go_wp2_with (first
            | (at_builtin; refine wpList_append_lies _ rfl _ _ 22 rfl w.heap.size 5 i0 (.int .u8 0) 1 1 Tryd.underlying22 hi hz0 hz1 hz2 rfl (by decide) u4 (rml (bt s) k).length ((rml (bt s) k).map (.int .u8)) rfl (World.ownsRow.alloc hO.out _) ⟨_, 0, none⟩ 1 1 [.int .u8 (half (bt s (3 * k)) * 16 + half (bt s (3 * k + 1)))] rfl rfl (cell_one_new _ _ _) (by simp [Value.oneCell']) (by omega) (by rw [hL.out]; unfold maxLen; omega) (by rw [hL.out]; omega) (by simp; omega) _ rfl ?_; intro g1 cap1 w1 hown1 hgrow1 hat1 hlt1))
          have HO : Hid (OwnL 5 w1 w.heap.size (.slice (some ⟨g1, 0, none⟩) ((rml (bt s) k).length + 1) cap1) (rml (bt s) (k + 1))) := by
            show OwnL _ _ _ _ _
            rw [rml_snoc, Int.mul_comm 16]
            exact OwnL.snoc hown1
          have HB2 : Hid (Below w.heap.size w w1) := (hB.out.alloc hB.out.size _).grown hgrow1 (by simp; omega) (fun q hq => (World.ownsRow.lt hO.out q hq).1)
          clear hown1 hgrow1 hat1 hlt1
          go_wp2
          go_roundw
          case rel => exact ⟨k + 1, by omega, by go_num, HO.out, HB2.out, ok_step hA.out HB.out⟩
          case measure => simp [intOf]; omega
      · have HB : Hid (badB (bt s) k = true) := hbad
        by_cases d1 : half (bt s (3 * k)) < 0
        · have e1 : decide (half (bt s (3 * k)) < 0) = true := by simp; omega
          clear hbad
          go_wp2
          go_ret2
          exact ⟨by rw [(rm_bad _ k hlt HB.out).1, (rm_bad _ k hlt HB.out).2]; rfl, hB.out⟩
        by_cases d2 : half (bt s (3 * k + 1)) < 0
        · have e1 : decide (half (bt s (3 * k)) < 0) = false := by simp; omega
          have e2 : decide (half (bt s (3 * k + 1)) < 0) = true := by simp; omega
          clear hbad
          go_wp2
          go_ret2
          exact ⟨by rw [(rm_bad _ k hlt HB.out).1, (rm_bad _ k hlt HB.out).2]; rfl, hB.out⟩
        · have e1 : decide (half (bt s (3 * k)) < 0) = false := by simp; omega
          have e2 : decide (half (bt s (3 * k + 1)) < 0) = false := by simp; omega
          simp only [badB, e1, e2, Bool.false_or, Bool.and_eq_true, decide_eq_true_eq] at hbad
          obtain ⟨h5, e3⟩ := hbad
          have e4 : decide (3 * (k : Int) + 2 < (s.size : Int)) = true := by simp; omega
          go_wp2
          go_ret2
          exact ⟨by rw [(rm_bad _ k hlt HB.out).1, (rm_bad _ k hlt HB.out).2]; rfl, hB.out⟩
    · have hlen6 : Hid (rml (bt s) k = rml (bt s) 6) := by
        show _ = _
        rw [show k = 6 by omega]
      have hall : ∀ j, j < 6 → badB (bt s) j = false := fun j hj => hA.out j (by omega)
      have HR : Hid (rmT (bt s) = strOfNums (rml (bt s) 6) ∧ rmC (bt s) = 0) := rm_ok _ hall
      clear hall
      obtain ⟨a, cap, hv, hby, -⟩ := OwnL.slice hO.out (rml_bd (bt s) k hA.out)
      have hc := conv_own (P := Tryd.prog) wr 22 9 5 Tryd.underlying22 Tryd.underlying5 Tryd.underlying9 a cap _ hby
      subst hv
      clear hby
      go_wp2
      go_ret2
      exact ⟨by rw [HR.out.1, HR.out.2, ← hlen6.out]; rfl, hB.out⟩

theorem readMac_no (s : ByteArray) (w : World) (hs : s.size ≠ 17) (hl : s.size ≤ 65536) :
    Calls Tryd.prog 12 #[.string s] w fun e w' => e = .returned (.tuple #[.string ⟨#[]⟩, .int .i64 3]) ∧ w' = w := by
  have hq : ((s.size : Int) != 17) = true := by simp; omega
  go_enter Tryd.func12, Tryd.ntmps12
  go_wp2
  go_ret2
  exact ⟨rfl, rfl⟩
theorem readMac_long (s : ByteArray) (w : World) (hl : 65536 < s.size) :
    Calls Tryd.prog 12 #[.string s] w fun e w' => e = .returned (.tuple #[.string ⟨#[]⟩, .int .i64 2]) ∧ w' = w := by
  go_enter Tryd.func12, Tryd.ntmps12
  go_wp2
  go_ret2
  exact ⟨rfl, rfl⟩

end Go.Proofs.YtcgdpijmfgkalaaDoor
