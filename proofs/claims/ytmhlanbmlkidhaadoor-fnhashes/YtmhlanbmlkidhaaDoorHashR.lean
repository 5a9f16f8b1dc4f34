/- ReadHash, the program's and the model's: a byte of two hexadecimal digits, or code 3; the walk of its law. -/
import Derived.Test.YtmhlanbmlkidhaaDoorProg
import Derived.Test.YtmhlanbmlkidhaaDoorHex
import Derived.Test.YtmhlanbmlkidhaaDoorBits
import Derived.Test.YtmhlanbmlkidhaaDoorCopy
import Derived.Test.YtmhlanbmlkidhaaDoorApp
import Derived.Deep.AppendLies
import Derived.BigQuiet
import Derived.Deep.QuietTactic
namespace Go.Proofs.YtmhlanbmlkidhaaDoor
open Go.RowKit Go.PlainAid
set_option linter.unusedVariables false
set_option maxRecDepth 20000

/-- Byte k can't be read. -/
def badH (f : Nat → Int) (k : Nat) : Bool := decide (half (f (2 * k)) < 0) || decide (half (f (2 * k + 1)) < 0)
def anyH (f : Nat → Int) : Bool := (List.range 32).any (badH f)
/-- The bytes that were read. -/
def rhl (f : Nat → Int) (k : Nat) : List Int := (List.range k).map fun j => 16 * half (f (2 * j)) + half (f (2 * j + 1))
theorem rhl_snoc (f : Nat → Int) (k : Nat) : rhl f (k + 1) = rhl f k ++ [16 * half (f (2 * k)) + half (f (2 * k + 1))] := by
  unfold rhl; rw [List.range_succ, List.map_append]; rfl
theorem rhl_len (f : Nat → Int) (k : Nat) : (rhl f k).length = k := by simp [rhl]
theorem rhl_bd (f : Nat → Int) (k : Nat) (h : ∀ j, j < k → badH f j = false) : ∀ x ∈ rhl f k, 0 ≤ x ∧ x ≤ 255 := by
  intro x hx
  unfold rhl at hx
  obtain ⟨j, hj, rfl⟩ := List.mem_map.1 hx
  have hb := h j (by simpa using hj)
  have h1 := half_bd (f (2 * j))
  have h2 := half_bd (f (2 * j + 1))
  simp [badH] at hb
  omega
def rhT (f : Nat → Int) : ByteArray := if anyH f then ⟨#[]⟩ else strOfNums (rhl f 32)
def rhC (f : Nat → Int) : Int := if anyH f then 3 else 0
theorem rh_bad (f : Nat → Int) (k : Nat) (hk : k < 32) (h : badH f k = true) : rhT f = ⟨#[]⟩ ∧ rhC f = 3 := by
  have : anyH f = true := List.any_eq_true.2 ⟨k, by simpa using hk, h⟩
  simp [rhT, rhC, this]
theorem rh_ok (f : Nat → Int) (h : ∀ j, j < 32 → badH f j = false) : rhT f = strOfNums (rhl f 32) ∧ rhC f = 0 := by
  have : anyH f = false := by
    rw [anyH, List.any_eq_false]
    intro x hx
    have := h x (by simpa using hx)
    simp [this]
  simp [rhT, rhC, this]
theorem okH_step {f : Nat → Int} {k : Nat} (h : ∀ j, j < k → badH f j = false) (hk : badH f k = false) : ∀ j, j < k + 1 → badH f j = false := by
  intro j hj
  by_cases e : j = k
  · subst e; exact hk
  · exact h j (by omega)

set_option maxHeartbeats 1000000 in
set_option maxRecDepth 100000 in
theorem readHash_yes (s : ByteArray) (w : World) (hs : s.size = 64) :
    Calls Tryd.prog 19 #[.string s] w fun e w' => e = .returned (.tuple #[.string (rhT (bt s)), .int .i64 (rhC (bt s))]) ∧ Below w.heap.size w w' := by
  obtain ⟨i0, hi, hz0, hz1, hz2⟩ := info_parts Tryd.infoByte
  have hb := get_bt s
  have hs1 : s.size ≤ 64 := by omega
  have hs2 : 64 ≤ s.size := by omega
  have hne : ((s.size : Int) != 64) = false := by simp; omega
  clear hs
  obtain ⟨MC, hM⟩ := make_room 32 (by omega)
  have hmk : ∀ w : World, (Instr.makeSlice 22 (.int .i64 0) (.int .i64 32)).run Tryd.prog w = .ok (.slice (some ⟨w.heap.size, 0, none⟩) 0 32) (w.alloc (.cells MC 5)) := fun w => (hM w).1
  have HM : Hid (∀ w : World, OwnL 5 (w.alloc (.cells MC 5)) w.heap.size (.slice (some ⟨w.heap.size, 0, none⟩) 0 32) []) := fun w => (hM w).2
  clear hM
  go_enter Tryd.func19, Tryd.ntmps19
  go_wp2
  go_loopw [4, 5] (fun v i wr => ∃ k : Nat, k ≤ 32 ∧ i = .int .i64 (2 * (k : Int)) ∧ OwnL 5 wr w.heap.size v (rhl (bt s) k) ∧ Below w.heap.size w wr ∧ ∀ j, j < k → badH (bt s) j = false) (fun _ i _ => 64 - (intOf i).toNat)
  case atStart => exact ⟨0, Nat.zero_le _, rfl, HM.out w, (Below.refl _ _).alloc (Nat.le_refl _) _, fun j hj => absurd hj (by omega)⟩
  case round =>
    obtain ⟨k, hk, rfl, hown, hnx, hall⟩ := hrel
    clear hmk HM
    have hB : Hid (Below w.heap.size w wr) := hnx
    have hO : Hid (OwnL 5 wr w.heap.size u4 (rhl (bt s) k)) := hown
    have hA : Hid (∀ j, j < k → badH (bt s) j = false) := hall
    have hL : Hid ((rhl (bt s) k).length = k) := rhl_len _ _
    clear hnx hown hall
    by_cases hlt : k < 32
    · have a0 := bt_nonneg s (2 * k)
      have a1 := bt_le s (2 * k)
      have b0 := bt_nonneg s (2 * k + 1)
      have b1 := bt_le s (2 * k + 1)
      have c0 := half_bd (bt s (2 * k))
      have c1 := half_bd (bt s (2 * k + 1))
      have k2 : (2 * (k : Int)) < (s.size : Int) := by omega
      have k3 : (2 * (k : Int) + 1) < (s.size : Int) := by omega
      have k4 : (0 : Int) ≤ 2 * (k : Int) := by omega
      have k5 : (0 : Int) ≤ 2 * (k : Int) + 1 := by omega
      have x1 : (2 * (k : Int)).toNat = 2 * k := by omega
      have x2 : (2 * (k : Int) + 1).toNat = 2 * k + 1 := by omega
      cases hbad : badH (bt s) k
      · have HB : Hid (badH (bt s) k = false) := hbad
        have hbad' := hbad
        simp only [badH, Bool.or_eq_false_iff, decide_eq_false_iff_not] at hbad'
        obtain ⟨d1, d2⟩ := hbad'
        clear hbad
        have e1 : decide (half (bt s (2 * k)) < 0) = false := by simp; omega
        have e2 : decide (half (bt s (2 * k + 1)) < 0) = false := by simp; omega
        have d1' : 0 ≤ half (bt s (2 * k)) := by omega
        have d2' : 0 ≤ half (bt s (2 * k + 1)) := by omega
        clear d1 d2
        have j1 := Bt.join4 (half (bt s (2 * k))) (half (bt s (2 * k + 1))) d1' (by omega) d2' (by omega)
        have j2 : IntKind.u8.wrap (half (bt s (2 * k)) * 16 + half (bt s (2 * k + 1))) = 16 * half (bt s (2 * k)) + half (bt s (2 * k + 1)) := by rw [IntKind.wrap_u8]; omega
        have j3 : IntKind.u8.wrap (16 * half (bt s (2 * k)) + half (bt s (2 * k + 1))) = 16 * half (bt s (2 * k)) + half (bt s (2 * k + 1)) := by rw [IntKind.wrap_u8]; omega
        go_wp2
        go_quiet ((go_at_call 59; exact Calls.quiet_of_same (hexValue_any _ _ (by omega) (by omega))))
        have hzz := hB.out.size
        have hB' : Hid (Below w.heap.size w (wr.drewN nq)) := ⟨hB.out.os, hB.out.tape, hB.out.output, hB.out.size, hB.out.block⟩
        have hO' : Hid (OwnL 5 (wr.drewN nq) w.heap.size u4 (rhl (bt s) k)) := hO.out
        clear hB hO
        have hB := hB'
        have hO := hO'
        go_wp2_with (at_builtin; refine wpList_append_lies _ rfl _ _ 22 rfl w.heap.size 5 i0 (.int .u8 0) 1 1 Tryd.underlying22 hi hz0 hz1 hz2 rfl (by decide) u4 (rhl (bt s) k).length ((rhl (bt s) k).map (.int .u8)) rfl (World.ownsRow.alloc hO.out _) ⟨_, 0, none⟩ 1 1 [.int .u8 (16 * half (bt s (2 * k)) + half (bt s (2 * k + 1)))] rfl rfl (cell_one_new _ _ _) (by simp [Value.oneCell']) (by omega) (by rw [hL.out]; unfold maxLen; omega) (by rw [hL.out]; omega) (by have := hB.out.size; simp; omega) _ rfl ?_; intro g1 cap1 w1 hown1 hgrow1 hat1 hlt1)
        have HO : Hid (OwnL 5 w1 w.heap.size (.slice (some ⟨g1, 0, none⟩) ((rhl (bt s) k).length + 1) cap1) (rhl (bt s) (k + 1))) := by
          show OwnL _ _ _ _ _
          rw [rhl_snoc]
          exact OwnL.snoc hown1
        have HB2 : Hid (Below w.heap.size w w1) := (hB.out.alloc hB.out.size _).grown hgrow1 (by have := hB.out.size; simp; omega) (fun q hq => (World.ownsRow.lt hO.out q hq).1)
        clear hown1 hgrow1 hat1 hlt1
        go_wp2
        go_roundw
        case rel => exact ⟨k + 1, by omega, by go_num, HO.out, HB2.out, okH_step hA.out HB.out⟩
        case measure => (simp [intOf]; try omega)
      · have HB : Hid (badH (bt s) k = true) := hbad
        by_cases d1 : half (bt s (2 * k)) < 0
        · have e1 : decide (half (bt s (2 * k)) < 0) = true := by simp; omega
          clear hbad
          go_wp2
          go_quiet ((go_at_call 59; exact Calls.quiet_of_same (hexValue_any _ _ (by omega) (by omega))))
          have hzz := hB.out.size
          have hB' : Hid (Below w.heap.size w (wr.drewN nq)) := ⟨hB.out.os, hB.out.tape, hB.out.output, hB.out.size, hB.out.block⟩
          have hO' : Hid (OwnL 5 (wr.drewN nq) w.heap.size u4 (rhl (bt s) k)) := hO.out
          clear hB hO
          have hB := hB'
          have hO := hO'
          go_wp2
          go_ret2
          exact ⟨by rw [(rh_bad _ k hlt HB.out).1, (rh_bad _ k hlt HB.out).2]; rfl, hB.out⟩
        · have e1 : decide (half (bt s (2 * k)) < 0) = false := by simp; omega
          simp only [badH, e1, Bool.false_or] at hbad
          go_wp2
          go_quiet ((go_at_call 59; exact Calls.quiet_of_same (hexValue_any _ _ (by omega) (by omega))))
          have hzz := hB.out.size
          have hB' : Hid (Below w.heap.size w (wr.drewN nq)) := ⟨hB.out.os, hB.out.tape, hB.out.output, hB.out.size, hB.out.block⟩
          have hO' : Hid (OwnL 5 (wr.drewN nq) w.heap.size u4 (rhl (bt s) k)) := hO.out
          clear hB hO
          have hB := hB'
          have hO := hO'
          go_wp2
          go_ret2
          exact ⟨by rw [(rh_bad _ k hlt HB.out).1, (rh_bad _ k hlt HB.out).2]; rfl, hB.out⟩
    · have hlen6 : Hid (rhl (bt s) k = rhl (bt s) 32) := by
        show _ = _
        rw [show k = 32 by omega]
      have hall : ∀ j, j < 32 → badH (bt s) j = false := fun j hj => hA.out j (by omega)
      have HR : Hid (rhT (bt s) = strOfNums (rhl (bt s) 32) ∧ rhC (bt s) = 0) := rh_ok _ hall
      clear hall
      have e9 : ¬ (2 * (k : Int)) < (s.size : Int) := by omega
      obtain ⟨a, cap, hv, hby, -⟩ := OwnL.slice hO.out (rhl_bd (bt s) k hA.out)
      have hc := conv_own (P := Tryd.prog) wr 22 9 5 Tryd.underlying22 Tryd.underlying5 Tryd.underlying9 a cap _ hby
      subst hv
      clear hby
      go_wp2
      go_ret2
      exact ⟨by rw [HR.out.1, HR.out.2, ← hlen6.out]; rfl, hB.out⟩

theorem readHash_no (s : ByteArray) (w : World) (hs : s.size ≠ 64) (hl : s.size ≤ 65536) :
    Calls Tryd.prog 19 #[.string s] w fun e w' => e = .returned (.tuple #[.string ⟨#[]⟩, .int .i64 3]) ∧ w' = w := by
  have hq : ((s.size : Int) != 64) = true := by simp; omega
  go_enter Tryd.func19, Tryd.ntmps19
  go_wp2
  go_ret2
  exact ⟨rfl, rfl⟩
theorem readHash_long (s : ByteArray) (w : World) (hl : 65536 < s.size) :
    Calls Tryd.prog 19 #[.string s] w fun e w' => e = .returned (.tuple #[.string ⟨#[]⟩, .int .i64 2]) ∧ w' = w := by
  go_enter Tryd.func19, Tryd.ntmps19
  go_wp2
  go_ret2
  exact ⟨rfl, rfl⟩

end Go.Proofs.YtmhlanbmlkidhaaDoor
