/- ReadHash, the program's and the model's: a byte of two hexadecimal digits, or code 3; the walk of its law. -/
import Derived.Test.YtmhlanbmlkidhabProg
import Derived.Test.YtmhlanbmlkidhabHex
import Derived.Test.YtmhlanbmlkidhabBits
import Derived.Test.YtmhlanbmlkidhabCopy
import Derived.Test.YtmhlanbmlkidhabApp
import Derived.Deep.AppendLies
import Derived.BigQuiet
import Derived.Deep.QuietTactic
namespace Go.Proofs.Ytmhlanbmlkidhab
open Go.RowKit Go.PlainAid
set_option linter.unusedVariables false
set_option maxRecDepth 20000

theorem l04Nibble_any (c : Int) (w : World) (h0 : 0 ≤ c) (h1 : c ≤ 255) :
    Calls Try.prog 13 #[.int .u8 c] w fun e w' => e = .returned (.int .i64 (half c)) ∧ w' = w := by
  by_cases h48 : 48 ≤ c
  · by_cases h57 : c ≤ 57
    · have H : Hid (half c = c - 48) := digB_half c h48 h57
      go_enter Try.func13, Try.ntmps13
      go_wp2
      go_ret
      exact ⟨ret_i H.out.symm, rfl⟩
    · by_cases ha : 97 ≤ c
      · by_cases hf : c ≤ 102
        · have H : Hid (half c = c - 97 + 10) := low_half c ha hf
          go_enter Try.func13, Try.ntmps13
          go_wp2
          go_ret
          exact ⟨ret_i H.out.symm, rfl⟩
        · have H : Hid (half c = -1) := no_half c (by omega) (by omega)
          go_enter Try.func13, Try.ntmps13
          go_wp2
          go_ret
          exact ⟨ret_i H.out.symm, rfl⟩
      · have H : Hid (half c = -1) := no_half c (by omega) (by omega)
        go_enter Try.func13, Try.ntmps13
        go_wp2
        go_ret
        exact ⟨ret_i H.out.symm, rfl⟩
  · have H : Hid (half c = -1) := no_half c (by omega) (by omega)
    have hx : ¬ 97 ≤ c := by omega
    go_enter Try.func13, Try.ntmps13
    go_wp2
    go_ret
    exact ⟨ret_i H.out.symm, rfl⟩

/-- Byte k can't be read. -/
def badH (f : Nat → Int) (k : Nat) : Bool := decide (half (f (2 * k)) < 0) || decide (half (f (2 * k + 1)) < 0)
def anyH (f : Nat → Int) : Bool := (List.range 32).any (badH f)
/-- The bytes that were read. -/
def rhl (f : Nat → Int) (k : Nat) : List Int := (List.range k).map fun j => 16 * half (f (2 * j)) + half (f (2 * j + 1))
theorem rhl_snoc (f : Nat → Int) (k : Nat) : rhl f (k + 1) = rhl f k ++ [16 * half (f (2 * k)) + half (f (2 * k + 1))] := by
  unfold rhl; rw [List.range_succ, List.map_append]; rfl
theorem rhl_len (f : Nat → Int) (k : Nat) : (rhl f k).length = k := by simp [rhl]
theorem rhl_bd (f : Nat → Int) (k : Nat) (h : ∀ j, j < k → badH f j = false) : ∀ x ∈ rhl f k, 0 ≤ x ∧ x ≤ 255 := by
  intro x hx
  unfold rhl at hx
  obtain ⟨j, hj, rfl⟩ := List.mem_map.1 hx
  have hb := h j (by simpa using hj)
  have h1 := half_bd (f (2 * j))
  have h2 := half_bd (f (2 * j + 1))
  simp [badH] at hb
  omega
def rhT (f : Nat → Int) : ByteArray := if anyH f then ⟨#[]⟩ else strOfNums (rhl f 32)
def rhC (f : Nat → Int) : Int := if anyH f then 3 else 0
theorem rh_bad (f : Nat → Int) (k : Nat) (hk : k < 32) (h : badH f k = true) : rhT f = ⟨#[]⟩ ∧ rhC f = 3 := by
  have : anyH f = true := List.any_eq_true.2 ⟨k, by simpa using hk, h⟩
  simp [rhT, rhC, this]
theorem rh_ok (f : Nat → Int) (h : ∀ j, j < 32 → badH f j = false) : rhT f = strOfNums (rhl f 32) ∧ rhC f = 0 := by
  have : anyH f = false := by
    rw [anyH, List.any_eq_false]
    intro x hx
    have := h x (by simpa using hx)
    simp [this]
  simp [rhT, rhC, this]
theorem okH_step {f : Nat → Int} {k : Nat} (h : ∀ j, j < k → badH f j = false) (hk : badH f k = false) : ∀ j, j < k + 1 → badH f j = false := by
  intro j hj
  by_cases e : j = k
  · subst e; exact hk
  · exact h j (by omega)

set_option maxHeartbeats 1000000 in
set_option maxRecDepth 100000 in
theorem specReadHash_yes (s : ByteArray) (w : World) (hs : s.size = 64) :
    Calls Try.prog 8 #[.string s] w fun e w' => e = .returned (.tuple #[.string (rhT (bt s)), .int .i64 (rhC (bt s))]) ∧ Below w.heap.size w w' := by
  obtain ⟨i0, hi, hz0, hz1, hz2⟩ := info_parts Try.infoByte
  have hb := get_bt s
  have hs1 : s.size ≤ 64 := by omega
  have hs2 : 64 ≤ s.size := by omega
  have hne : ((s.size : Int) != 64) = false := by simp; omega
  clear hs
  go_enter Try.func8, Try.ntmps8
  go_wp2
  go_loopw [4, 5] (fun v i wr => ∃ k : Nat, k ≤ 32 ∧ i = .int .i64 (2 * (k : Int)) ∧ OwnL 5 wr w.heap.size v (rhl (bt s) k) ∧ Below w.heap.size w wr ∧ ∀ j, j < k → badH (bt s) j = false) (fun _ i _ => 64 - (intOf i).toNat)
  case atStart => exact ⟨0, Nat.zero_le _, rfl, World.ownsRow_made w #[] 0 (Nat.le_refl _) (Nat.zero_le _) rfl, (Below.refl _ _).alloc (Nat.le_refl _) _, fun j hj => absurd hj (by omega)⟩
  case round =>
    obtain ⟨k, hk, rfl, hown, hnx, hall⟩ := hrel
    have hB : Hid (Below w.heap.size w wr) := hnx
    have hO : Hid (OwnL 5 wr w.heap.size u4 (rhl (bt s) k)) := hown
    have hA : Hid (∀ j, j < k → badH (bt s) j = false) := hall
    have hL : Hid ((rhl (bt s) k).length = k) := rhl_len _ _
    clear hnx hown hall
    by_cases hlt : k < 32
    · have a0 := bt_nonneg s (2 * k)
      have a1 := bt_le s (2 * k)
      have b0 := bt_nonneg s (2 * k + 1)
      have b1 := bt_le s (2 * k + 1)
      have c0 := half_bd (bt s (2 * k))
      have c1 := half_bd (bt s (2 * k + 1))
      have k2 : (2 * (k : Int)) < (s.size : Int) := by omega
      have k3 : (2 * (k : Int) + 1) < (s.size : Int) := by omega
      have k4 : (0 : Int) ≤ 2 * (k : Int) := by omega
      have k5 : (0 : Int) ≤ 2 * (k : Int) + 1 := by omega
      have x1 : (2 * (k : Int)).toNat = 2 * k := by omega
      have x2 : (2 * (k : Int) + 1).toNat = 2 * k + 1 := by omega
      cases hbad : badH (bt s) k
      · have HB : Hid (badH (bt s) k = false) := hbad
        have hbad' := hbad
        simp only [badH, Bool.or_eq_false_iff, decide_eq_false_iff_not] at hbad'
        obtain ⟨d1, d2⟩ := hbad'
        clear hbad
        have e1 : decide (half (bt s (2 * k)) < 0) = false := by simp; omega
        have e2 : decide (half (bt s (2 * k + 1)) < 0) = false := by simp; omega
        have d1' : 0 ≤ half (bt s (2 * k)) := by omega
        have d2' : 0 ≤ half (bt s (2 * k + 1)) := by omega
        clear d1 d2
        have j1 := Bt.join4 (half (bt s (2 * k))) (half (bt s (2 * k + 1))) d1' (by omega) d2' (by omega)
        have j2 : IntKind.u8.wrap (half (bt s (2 * k)) * 16 + half (bt s (2 * k + 1))) = 16 * half (bt s (2 * k)) + half (bt s (2 * k + 1)) := by rw [IntKind.wrap_u8]; omega
        have j3 : IntKind.u8.wrap (16 * half (bt s (2 * k)) + half (bt s (2 * k + 1))) = 16 * half (bt s (2 * k)) + half (bt s (2 * k + 1)) := by rw [IntKind.wrap_u8]; omega
        go_wp2_with (first
          | (go_at_call 13; refine (l04Nibble_any _ _ (by omega) (by omega)).mono ?_; rintro e w' ⟨rfl, hw⟩; subst hw)
          | (at_builtin; refine wpList_append_lies _ rfl _ _ 26 rfl w.heap.size 5 i0 (.int .u8 0) 1 1 Try.underlying26 hi hz0 hz1 hz2 rfl (by decide) u4 (rhl (bt s) k).length ((rhl (bt s) k).map (.int .u8)) rfl (World.ownsRow.alloc hO.out _) ⟨_, 0, none⟩ 1 1 [.int .u8 (16 * half (bt s (2 * k)) + half (bt s (2 * k + 1)))] rfl rfl (cell_one_new _ _ _) (by simp [Value.oneCell']) (by omega) (by rw [hL.out]; unfold maxLen; omega) (by rw [hL.out]; omega) (by have := hB.out.size; simp; omega) _ rfl ?_; intro g1 cap1 w1 hown1 hgrow1 hat1 hlt1))
        have HO : Hid (OwnL 5 w1 w.heap.size (.slice (some ⟨g1, 0, none⟩) ((rhl (bt s) k).length + 1) cap1) (rhl (bt s) (k + 1))) := by
          show OwnL _ _ _ _ _
          rw [rhl_snoc]
          exact OwnL.snoc hown1
        have HB2 : Hid (Below w.heap.size w w1) := (hB.out.alloc hB.out.size _).grown hgrow1 (by have := hB.out.size; simp; omega) (fun q hq => (World.ownsRow.lt hO.out q hq).1)
        clear hown1 hgrow1 hat1 hlt1
        go_wp2
        go_roundw
        case rel => exact ⟨k + 1, by omega, by go_num, HO.out, HB2.out, okH_step hA.out HB.out⟩
        case measure => (simp [intOf]; try omega)
      · have HB : Hid (badH (bt s) k = true) := hbad
        by_cases d1 : half (bt s (2 * k)) < 0
        · have e1 : decide (half (bt s (2 * k)) < 0) = true := by simp; omega
          clear hbad
          go_wp2_with (go_at_call 13; refine (l04Nibble_any _ _ (by omega) (by omega)).mono ?_; rintro e w' ⟨rfl, hw⟩; subst hw)
          go_ret2
          exact ⟨by rw [(rh_bad _ k hlt HB.out).1, (rh_bad _ k hlt HB.out).2]; rfl, hB.out⟩
        · have e1 : decide (half (bt s (2 * k)) < 0) = false := by simp; omega
          simp only [badH, e1, Bool.false_or] at hbad
          go_wp2_with (go_at_call 13; refine (l04Nibble_any _ _ (by omega) (by omega)).mono ?_; rintro e w' ⟨rfl, hw⟩; subst hw)
          go_ret2
          exact ⟨by rw [(rh_bad _ k hlt HB.out).1, (rh_bad _ k hlt HB.out).2]; rfl, hB.out⟩
    · have hlen6 : Hid (rhl (bt s) k = rhl (bt s) 32) := by
        show _ = _
        rw [show k = 32 by omega]
      have hall : ∀ j, j < 32 → badH (bt s) j = false := fun j hj => hA.out j (by omega)
      have HR : Hid (rhT (bt s) = strOfNums (rhl (bt s) 32) ∧ rhC (bt s) = 0) := rh_ok _ hall
      clear hall
      have e9 : ¬ (2 * (k : Int)) < (s.size : Int) := by omega
      obtain ⟨a, cap, hv, hby, -⟩ := OwnL.slice hO.out (rhl_bd (bt s) k hA.out)
      have hc := conv_own (P := Try.prog) wr 26 9 5 Try.underlying26 Try.underlying5 Try.underlying9 a cap _ hby
      subst hv
      clear hby
      go_wp2
      go_ret2
      exact ⟨by rw [HR.out.1, HR.out.2, ← hlen6.out]; rfl, hB.out⟩

set_option maxHeartbeats 1000000 in
set_option maxRecDepth 100000 in
theorem readHash_yes (s : ByteArray) (w : World) (hs : s.size = 64) :
    Calls Try.prog 9 #[.string s] w fun e w' => e = .returned (.tuple #[.string (rhT (bt s)), .int .i64 (rhC (bt s))]) ∧ Below w.heap.size w w' := by
  obtain ⟨i0, hi, hz0, hz1, hz2⟩ := info_parts Try.infoByte
  have hb := get_bt s
  have hs1 : s.size ≤ 64 := by omega
  have hs2 : 64 ≤ s.size := by omega
  have hne : ((s.size : Int) != 64) = false := by simp; omega
  clear hs
  obtain ⟨MC, hM⟩ := make_room 32 (by omega)
  have hmk : ∀ w : World, (Instr.makeSlice 26 (.int .i64 0) (.int .i64 32)).run Try.prog w = .ok (.slice (some ⟨w.heap.size, 0, none⟩) 0 32) (w.alloc (.cells MC 5)) := fun w => (hM w).1
  have HM : Hid (∀ w : World, OwnL 5 (w.alloc (.cells MC 5)) w.heap.size (.slice (some ⟨w.heap.size, 0, none⟩) 0 32) []) := fun w => (hM w).2
  clear hM
  go_enter Try.func9, Try.ntmps9
  go_wp2
  go_loopw [4, 5] (fun v i wr => ∃ k : Nat, k ≤ 32 ∧ i = .int .i64 (2 * (k : Int)) ∧ OwnL 5 wr w.heap.size v (rhl (bt s) k) ∧ Below w.heap.size w wr ∧ ∀ j, j < k → badH (bt s) j = false) (fun _ i _ => 64 - (intOf i).toNat)
  case atStart => exact ⟨0, Nat.zero_le _, rfl, HM.out w, (Below.refl _ _).alloc (Nat.le_refl _) _, fun j hj => absurd hj (by omega)⟩
  case round =>
    obtain ⟨k, hk, rfl, hown, hnx, hall⟩ := hrel
    clear hmk HM
    have hB : Hid (Below w.heap.size w wr) := hnx
    have hO : Hid (OwnL 5 wr w.heap.size u4 (rhl (bt s) k)) := hown
    have hA : Hid (∀ j, j < k → badH (bt s) j = false) := hall
    have hL : Hid ((rhl (bt s) k).length = k) := rhl_len _ _
    clear hnx hown hall
    by_cases hlt : k < 32
    · have a0 := bt_nonneg s (2 * k)
      have a1 := bt_le s (2 * k)
      have b0 := bt_nonneg s (2 * k + 1)
      have b1 := bt_le s (2 * k + 1)
      have c0 := half_bd (bt s (2 * k))
      have c1 := half_bd (bt s (2 * k + 1))
      have k2 : (2 * (k : Int)) < (s.size : Int) := by omega
      have k3 : (2 * (k : Int) + 1) < (s.size : Int) := by omega
      have k4 : (0 : Int) ≤ 2 * (k : Int) := by omega
      have k5 : (0 : Int) ≤ 2 * (k : Int) + 1 := by omega
      have x1 : (2 * (k : Int)).toNat = 2 * k := by omega
      have x2 : (2 * (k : Int) + 1).toNat = 2 * k + 1 := by omega
      cases hbad : badH (bt s) k
      · have HB : Hid (badH (bt s) k = false) := hbad
        have hbad' := hbad
        simp only [badH, Bool.or_eq_false_iff, decide_eq_false_iff_not] at hbad'
        obtain ⟨d1, d2⟩ := hbad'
        clear hbad
        have e1 : decide (half (bt s (2 * k)) < 0) = false := by simp; omega
        have e2 : decide (half (bt s (2 * k + 1)) < 0) = false := by simp; omega
        have d1' : 0 ≤ half (bt s (2 * k)) := by omega
        have d2' : 0 ≤ half (bt s (2 * k + 1)) := by omega
        clear d1 d2
        have j1 := Bt.join4 (half (bt s (2 * k))) (half (bt s (2 * k + 1))) d1' (by omega) d2' (by omega)
        have j2 : IntKind.u8.wrap (half (bt s (2 * k)) * 16 + half (bt s (2 * k + 1))) = 16 * half (bt s (2 * k)) + half (bt s (2 * k + 1)) := by rw [IntKind.wrap_u8]; omega
        have j3 : IntKind.u8.wrap (16 * half (bt s (2 * k)) + half (bt s (2 * k + 1))) = 16 * half (bt s (2 * k)) + half (bt s (2 * k + 1)) := by rw [IntKind.wrap_u8]; omega
        go_wp2
        go_quiet ((go_at_call 14; exact Calls.quiet_of_same (hexValue_any _ _ (by omega) (by omega))))
        have hzz := hB.out.size
        have hB' : Hid (Below w.heap.size w (wr.drewN nq)) := ⟨hB.out.os, hB.out.tape, hB.out.output, hB.out.size, hB.out.block⟩
        have hO' : Hid (OwnL 5 (wr.drewN nq) w.heap.size u4 (rhl (bt s) k)) := hO.out
        clear hB hO
        have hB := hB'
        have hO := hO'
        go_wp2_with (at_builtin; refine wpList_append_lies _ rfl _ _ 26 rfl w.heap.size 5 i0 (.int .u8 0) 1 1 Try.underlying26 hi hz0 hz1 hz2 rfl (by decide) u4 (rhl (bt s) k).length ((rhl (bt s) k).map (.int .u8)) rfl (World.ownsRow.alloc hO.out _) ⟨_, 0, none⟩ 1 1 [.int .u8 (16 * half (bt s (2 * k)) + half (bt s (2 * k + 1)))] rfl rfl (cell_one_new _ _ _) (by simp [Value.oneCell']) (by omega) (by rw [hL.out]; unfold maxLen; omega) (by rw [hL.out]; omega) (by have := hB.out.size; simp; omega) _ rfl ?_; intro g1 cap1 w1 hown1 hgrow1 hat1 hlt1)
        have HO : Hid (OwnL 5 w1 w.heap.size (.slice (some ⟨g1, 0, none⟩) ((rhl (bt s) k).length + 1) cap1) (rhl (bt s) (k + 1))) := by
          show OwnL _ _ _ _ _
          rw [rhl_snoc]
          exact OwnL.snoc hown1
        have HB2 : Hid (Below w.heap.size w w1) := (hB.out.alloc hB.out.size _).grown hgrow1 (by have := hB.out.size; simp; omega) (fun q hq => (World.ownsRow.lt hO.out q hq).1)
        clear hown1 hgrow1 hat1 hlt1
        go_wp2
        go_roundw
        case rel => exact ⟨k + 1, by omega, by go_num, HO.out, HB2.out, okH_step hA.out HB.out⟩
        case measure => (simp [intOf]; try omega)
      · have HB : Hid (badH (bt s) k = true) := hbad
        by_cases d1 : half (bt s (2 * k)) < 0
        · have e1 : decide (half (bt s (2 * k)) < 0) = true := by simp; omega
          clear hbad
          go_wp2
          go_quiet ((go_at_call 14; exact Calls.quiet_of_same (hexValue_any _ _ (by omega) (by omega))))
          have hzz := hB.out.size
          have hB' : Hid (Below w.heap.size w (wr.drewN nq)) := ⟨hB.out.os, hB.out.tape, hB.out.output, hB.out.size, hB.out.block⟩
          have hO' : Hid (OwnL 5 (wr.drewN nq) w.heap.size u4 (rhl (bt s) k)) := hO.out
          clear hB hO
          have hB := hB'
          have hO := hO'
          go_wp2
          go_ret2
          exact ⟨by rw [(rh_bad _ k hlt HB.out).1, (rh_bad _ k hlt HB.out).2]; rfl, hB.out⟩
        · have e1 : decide (half (bt s (2 * k)) < 0) = false := by simp; omega
          simp only [badH, e1, Bool.false_or] at hbad
          go_wp2
          go_quiet ((go_at_call 14; exact Calls.quiet_of_same (hexValue_any _ _ (by omega) (by omega))))
          have hzz := hB.out.size
          have hB' : Hid (Below w.heap.size w (wr.drewN nq)) := ⟨hB.out.os, hB.out.tape, hB.out.output, hB.out.size, hB.out.block⟩
          have hO' : Hid (OwnL 5 (wr.drewN nq) w.heap.size u4 (rhl (bt s) k)) := hO.out
          clear hB hO
          have hB := hB'
          have hO := hO'
          go_wp2
          go_ret2
          exact ⟨by rw [(rh_bad _ k hlt HB.out).1, (rh_bad _ k hlt HB.out).2]; rfl, hB.out⟩
    · have hlen6 : Hid (rhl (bt s) k = rhl (bt s) 32) := by
        show _ = _
        rw [show k = 32 by omega]
      have hall : ∀ j, j < 32 → badH (bt s) j = false := fun j hj => hA.out j (by omega)
      have HR : Hid (rhT (bt s) = strOfNums (rhl (bt s) 32) ∧ rhC (bt s) = 0) := rh_ok _ hall
      clear hall
      have e9 : ¬ (2 * (k : Int)) < (s.size : Int) := by omega
      obtain ⟨a, cap, hv, hby, -⟩ := OwnL.slice hO.out (rhl_bd (bt s) k hA.out)
      have hc := conv_own (P := Try.prog) wr 26 9 5 Try.underlying26 Try.underlying5 Try.underlying9 a cap _ hby
      subst hv
      clear hby
      go_wp2
      go_ret2
      exact ⟨by rw [HR.out.1, HR.out.2, ← hlen6.out]; rfl, hB.out⟩

theorem specReadHash_no (s : ByteArray) (w : World) (hs : s.size ≠ 64) (hl : s.size ≤ 65536) :
    Calls Try.prog 8 #[.string s] w fun e w' => e = .returned (.tuple #[.string ⟨#[]⟩, .int .i64 3]) ∧ w' = w := by
  have hq : ((s.size : Int) != 64) = true := by simp; omega
  go_enter Try.func8, Try.ntmps8
  go_wp2
  go_ret2
  exact ⟨rfl, rfl⟩
theorem specReadHash_long (s : ByteArray) (w : World) (hl : 65536 < s.size) :
    Calls Try.prog 8 #[.string s] w fun e w' => e = .returned (.tuple #[.string ⟨#[]⟩, .int .i64 2]) ∧ w' = w := by
  go_enter Try.func8, Try.ntmps8
  go_wp2
  go_ret2
  exact ⟨rfl, rfl⟩
theorem readHash_no (s : ByteArray) (w : World) (hs : s.size ≠ 64) (hl : s.size ≤ 65536) :
    Calls Try.prog 9 #[.string s] w fun e w' => e = .returned (.tuple #[.string ⟨#[]⟩, .int .i64 3]) ∧ w' = w := by
  have hq : ((s.size : Int) != 64) = true := by simp; omega
  go_enter Try.func9, Try.ntmps9
  go_wp2
  go_ret2
  exact ⟨rfl, rfl⟩
theorem readHash_long (s : ByteArray) (w : World) (hl : 65536 < s.size) :
    Calls Try.prog 9 #[.string s] w fun e w' => e = .returned (.tuple #[.string ⟨#[]⟩, .int .i64 2]) ∧ w' = w := by
  go_enter Try.func9, Try.ntmps9
  go_wp2
  go_ret2
  exact ⟨rfl, rfl⟩

theorem readHash_both (s : ByteArray) : ∃ (t : ByteArray) (c : Int), (∀ w, Calls Try.prog 8 #[.string s] w fun e w' => e = .returned (.tuple #[.string t, .int .i64 c]) ∧ Below w.heap.size w w') ∧
    ∀ w, Calls Try.prog 9 #[.string s] w fun e w' => e = .returned (.tuple #[.string t, .int .i64 c]) ∧ Below w.heap.size w w' := by
  by_cases hl : 65536 < s.size
  · exact ⟨⟨#[]⟩, 2, fun w => (specReadHash_long s w hl).mono fun e w' h => ⟨h.1, h.2 ▸ Below.refl _ _⟩, fun w => (readHash_long s w hl).mono fun e w' h => ⟨h.1, h.2 ▸ Below.refl _ _⟩⟩
  by_cases h6 : s.size = 64
  · exact ⟨_, _, fun w => specReadHash_yes s w h6, fun w => readHash_yes s w h6⟩
  · exact ⟨⟨#[]⟩, 3, fun w => (specReadHash_no s w h6 (by omega)).mono fun e w' h => ⟨h.1, h.2 ▸ Below.refl _ _⟩, fun w => (readHash_no s w h6 (by omega)).mono fun e w' h => ⟨h.1, h.2 ▸ Below.refl _ _⟩⟩

set_option maxHeartbeats 400000 in
theorem lawReadHash_any (s : ByteArray) (w : World) (hs : s.size ≤ maxLen) :
    Calls Try.prog 4 #[.string s] w fun e w' => e = .returned (.bool true) ∧ Below w.heap.size w w' := by
  unfold maxLen at hs
  by_cases hl : 1048576 < s.size
  · go_enter Try.func4, Try.ntmps4
    go_wp2
    go_ret
    exact ⟨rfl, Below.refl _ _⟩
  obtain ⟨t, c, hS, hI⟩ := readHash_both s
  have HS : Hid (∀ w, Calls Try.prog 8 #[.string s] w fun e w' => e = .returned (.tuple #[.string t, .int .i64 c]) ∧ Below w.heap.size w w') := hS
  have HI : Hid (∀ w, Calls Try.prog 9 #[.string s] w fun e w' => e = .returned (.tuple #[.string t, .int .i64 c]) ∧ Below w.heap.size w w') := hI
  clear hS hI
  have hne : (c != c) = false := by simp
  go_enter Try.func4, Try.ntmps4
  go_wp2_with fail
  refine (HS.out _).mono ?_
  rintro e w1 ⟨rfl, b1⟩
  have B1 : Hid (Below w.heap.size w w1) := b1
  clear b1
  go_wp2_with fail
  refine (HI.out _).mono ?_
  rintro e w2 ⟨rfl, b2⟩
  have B2 : Hid (Below w1.heap.size w1 w2) := b2
  clear b2
  go_wp2
  go_ret
  exact ⟨rfl, B1.out.trans (B2.out.mono B1.out.size)⟩
end Go.Proofs.Ytmhlanbmlkidhab
