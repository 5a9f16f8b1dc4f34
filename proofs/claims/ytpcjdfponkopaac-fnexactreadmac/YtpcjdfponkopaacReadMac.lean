/- ReadMac, the program's and the model's: six bytes of two hexadecimal digits, colons between, or code 3; the walk of its law. -/
import Derived.Test.YtpcjdfponkopaacProg
import Derived.Test.YtpcjdfponkopaacHex
import Derived.Test.YtpcjdfponkopaacBits
import Derived.Test.YtpcjdfponkopaacCopy
import Derived.Test.YtpcjdfponkopaacOwn
import Derived.Deep.AppendLies
namespace Go.Proofs.Ytpcjdfponkopaac
open Go.RowKit Go.PlainAid
set_option linter.unusedVariables false

/-- Byte k can't be read. -/
def badB (f : Nat → Int) (k : Nat) : Bool := decide (half (f (3 * k)) < 0) || decide (half (f (3 * k + 1)) < 0) || (decide (k < 5) && (f (3 * k + 2) != 58))
def anyB (f : Nat → Int) : Bool := (List.range 6).any (badB f)
/-- The bytes that were read. -/
def rml (f : Nat → Int) (k : Nat) : List Int := (List.range k).map fun j => 16 * half (f (3 * j)) + half (f (3 * j + 1))
theorem rml_snoc (f : Nat → Int) (k : Nat) : rml f (k + 1) = rml f k ++ [16 * half (f (3 * k)) + half (f (3 * k + 1))] := by
  unfold rml; rw [List.range_succ, List.map_append]; rfl
theorem rml_len (f : Nat → Int) (k : Nat) : (rml f k).length = k := by simp [rml]
theorem rml_bd (f : Nat → Int) (k : Nat) (h : ∀ j, j < k → badB f j = false) : ∀ x ∈ rml f k, 0 ≤ x ∧ x ≤ 255 := by
  intro x hx
  unfold rml at hx
  obtain ⟨j, hj, rfl⟩ := List.mem_map.1 hx
  have hb := h j (by simpa using hj)
  have h1 := half_bd (f (3 * j))
  have h2 := half_bd (f (3 * j + 1))
  simp [badB] at hb
  omega
def rmT (f : Nat → Int) : ByteArray := if anyB f then ⟨#[]⟩ else strOfNums (rml f 6)
def rmC (f : Nat → Int) : Int := if anyB f then 3 else 0
theorem rm_bad (f : Nat → Int) (k : Nat) (hk : k < 6) (h : badB f k = true) : rmT f = ⟨#[]⟩ ∧ rmC f = 3 := by
  have : anyB f = true := List.any_eq_true.2 ⟨k, by simpa using hk, h⟩
  simp [rmT, rmC, this]
theorem rm_ok (f : Nat → Int) (h : ∀ j, j < 6 → badB f j = false) : rmT f = strOfNums (rml f 6) ∧ rmC f = 0 := by
  have : anyB f = false := by
    rw [anyB, List.any_eq_false]
    intro x hx
    have := h x (by simpa using hx)
    simp [this]
  simp [rmT, rmC, this]
theorem ok_step {f : Nat → Int} {k : Nat} (h : ∀ j, j < k → badB f j = false) (hk : badB f k = false) : ∀ j, j < k + 1 → badB f j = false := by
  intro j hj
  by_cases e : j = k
  · subst e; exact hk
  · exact h j (by omega)

set_option maxHeartbeats 1000000 in
theorem specReadMac_yes (s : ByteArray) (w : World) (hs : s.size = 17) :
    Calls Try.prog 9 #[.string s] w fun e w' => e = .returned (.tuple #[.string (rmT (bt s)), .int .i64 (rmC (bt s))]) ∧ Below w.heap.size w w' := by
  obtain ⟨i0, hi, hz0, hz1, hz2⟩ := info_parts Try.infoByte
  have hb := get_bt s
  have hs1 : s.size ≤ 17 := by omega
  have hs2 : 17 ≤ s.size := by omega
  have hne : ((s.size : Int) != 17) = false := by simp; omega
  clear hs
  go_enter Try.func9, Try.ntmps9
  go_wp2
  go_loopw [4, 5] (fun v i wr => ∃ k : Nat, k ≤ 6 ∧ i = .int .i64 k ∧ OwnL 5 wr w.heap.size v (rml (bt s) k) ∧ Below w.heap.size w wr ∧ ∀ j, j < k → badB (bt s) j = false) (fun _ i _ => 6 - (intOf i).toNat)
  case atStart => exact ⟨0, Nat.zero_le _, rfl, World.ownsRow_made w #[] 0 (Nat.le_refl _) (Nat.zero_le _) rfl, (Below.refl _ _).alloc (Nat.le_refl _) _, fun j hj => absurd hj (by omega)⟩
  case round =>
    obtain ⟨k, hk, rfl, hown, hnx, hall⟩ := hrel
    have hB : Hid (Below w.heap.size w wr) := hnx
    have hO : Hid (OwnL 5 wr w.heap.size u4 (rml (bt s) k)) := hown
    have hA : Hid (∀ j, j < k → badB (bt s) j = false) := hall
    have hL : Hid ((rml (bt s) k).length = k) := rml_len _ _
    clear hnx hown hall
    by_cases hlt : k < 6
    · have a0 := bt_nonneg s (3 * k)
      have a1 := bt_le s (3 * k)
      have b0 := bt_nonneg s (3 * k + 1)
      have b1 := bt_le s (3 * k + 1)
      have c0 := half_bd (bt s (3 * k))
      have c1 := half_bd (bt s (3 * k + 1))
      cases hbad : badB (bt s) k
      · have HB : Hid (badB (bt s) k = false) := hbad
        have hbad' := hbad
        simp only [badB, Bool.or_eq_false_iff, decide_eq_false_iff_not] at hbad'
        obtain ⟨⟨d1, d2⟩, d3⟩ := hbad'
        have D3 : Hid ((decide (k < 5) && (bt s (3 * k + 2) != 58)) = false) := d3
        clear hbad d3
        have e1 : decide (half (bt s (3 * k)) < 0) = false := by simp; omega
        have e2 : decide (half (bt s (3 * k + 1)) < 0) = false := by simp; omega
        have d1' : 0 ≤ half (bt s (3 * k)) := by omega
        have d2' : 0 ≤ half (bt s (3 * k + 1)) := by omega
        clear d1 d2
        by_cases h5 : k < 5
        · have e3 : (bt s (3 * k + 2) != 58) = false := by have := D3.out; simpa [h5] using this
          have e4 : decide (k < 5) = true := by simp; omega
          go_wp2_with (first
            | (go_at_call 30; refine (l01Half_any _ _ (by omega) (by omega)).mono ?_; rintro e w' ⟨rfl, hw⟩; subst hw)
            | (at_builtin; refine wpList_append_lies _ rfl _ _ 25 rfl w.heap.size 5 i0 (.int .u8 0) 1 1 Try.underlying25 hi hz0 hz1 hz2 rfl (by decide) u4 (rml (bt s) k).length ((rml (bt s) k).map (.int .u8)) rfl (World.ownsRow.alloc hO.out _) ⟨_, 0, none⟩ 1 1 [.int .u8 (16 * half (bt s (3 * k)) + half (bt s (3 * k + 1)))] rfl rfl (cell_one_new _ _ _) (by simp [Value.oneCell']) (by omega) (by rw [hL.out]; unfold maxLen; omega) (by rw [hL.out]; omega) (by have := hB.out.size; simp; omega) _ rfl ?_; intro g1 cap1 w1 hown1 hgrow1 hat1 hlt1))
          have HO : Hid (OwnL 5 w1 w.heap.size (.slice (some ⟨g1, 0, none⟩) ((rml (bt s) k).length + 1) cap1) (rml (bt s) (k + 1))) := by
            show OwnL _ _ _ _ _
            rw [rml_snoc]
            exact OwnL.snoc hown1
          have HB2 : Hid (Below w.heap.size w w1) := (hB.out.alloc hB.out.size _).grown hgrow1 (by have := hB.out.size; simp; omega) (fun q hq => (World.ownsRow.lt hO.out q hq).1)
          clear hown1 hgrow1 hat1 hlt1
          go_wp2
          go_roundw
          case rel => exact ⟨k + 1, by omega, by go_num, HO.out, HB2.out, ok_step hA.out HB.out⟩
          case measure => simp [intOf]; omega
        · have e4 : decide (k < 5) = false := by simp; omega
          go_wp2_with (first
            | (go_at_call 30; refine (l01Half_any _ _ (by omega) (by omega)).mono ?_; rintro e w' ⟨rfl, hw⟩; subst hw)
            | (at_builtin; refine wpList_append_lies _ rfl _ _ 25 rfl w.heap.size 5 i0 (.int .u8 0) 1 1 Try.underlying25 hi hz0 hz1 hz2 rfl (by decide) u4 (rml (bt s) k).length ((rml (bt s) k).map (.int .u8)) rfl (World.ownsRow.alloc hO.out _) ⟨_, 0, none⟩ 1 1 [.int .u8 (16 * half (bt s (3 * k)) + half (bt s (3 * k + 1)))] rfl rfl (cell_one_new _ _ _) (by simp [Value.oneCell']) (by omega) (by rw [hL.out]; unfold maxLen; omega) (by rw [hL.out]; omega) (by have := hB.out.size; simp; omega) _ rfl ?_; intro g1 cap1 w1 hown1 hgrow1 hat1 hlt1))
          have HO : Hid (OwnL 5 w1 w.heap.size (.slice (some ⟨g1, 0, none⟩) ((rml (bt s) k).length + 1) cap1) (rml (bt s) (k + 1))) := by
            show OwnL _ _ _ _ _
            rw [rml_snoc]
            exact OwnL.snoc hown1
          have HB2 : Hid (Below w.heap.size w w1) := (hB.out.alloc hB.out.size _).grown hgrow1 (by have := hB.out.size; simp; omega) (fun q hq => (World.ownsRow.lt hO.out q hq).1)
          clear hown1 hgrow1 hat1 hlt1
          go_wp2
          go_roundw
          case rel => exact ⟨k + 1, by omega, by go_num, HO.out, HB2.out, ok_step hA.out HB.out⟩
          case measure => simp [intOf]; omega
      · have HB : Hid (badB (bt s) k = true) := hbad
        by_cases d1 : half (bt s (3 * k)) < 0
        · have e1 : decide (half (bt s (3 * k)) < 0) = true := by simp; omega
          clear hbad
          go_wp2_with (go_at_call 30; refine (l01Half_any _ _ (by omega) (by omega)).mono ?_; rintro e w' ⟨rfl, hw⟩; subst hw)
          go_ret2
          exact ⟨by rw [(rm_bad _ k hlt HB.out).1, (rm_bad _ k hlt HB.out).2]; rfl, hB.out⟩
        by_cases d2 : half (bt s (3 * k + 1)) < 0
        · have e1 : decide (half (bt s (3 * k)) < 0) = false := by simp; omega
          have e2 : decide (half (bt s (3 * k + 1)) < 0) = true := by simp; omega
          clear hbad
          go_wp2_with (go_at_call 30; refine (l01Half_any _ _ (by omega) (by omega)).mono ?_; rintro e w' ⟨rfl, hw⟩; subst hw)
          go_ret2
          exact ⟨by rw [(rm_bad _ k hlt HB.out).1, (rm_bad _ k hlt HB.out).2]; rfl, hB.out⟩
        · have e1 : decide (half (bt s (3 * k)) < 0) = false := by simp; omega
          have e2 : decide (half (bt s (3 * k + 1)) < 0) = false := by simp; omega
          simp only [badB, e1, e2, Bool.false_or, Bool.and_eq_true, decide_eq_true_eq] at hbad
          obtain ⟨h5, e3⟩ := hbad
          have e4 : decide (k < 5) = true := by simp; omega
          go_wp2_with (go_at_call 30; refine (l01Half_any _ _ (by omega) (by omega)).mono ?_; rintro e w' ⟨rfl, hw⟩; subst hw)
          go_ret2
          exact ⟨by rw [(rm_bad _ k hlt HB.out).1, (rm_bad _ k hlt HB.out).2]; rfl, hB.out⟩
    · have hlen6 : Hid (rml (bt s) k = rml (bt s) 6) := by
        show _ = _
        rw [show k = 6 by omega]
      have hall : ∀ j, j < 6 → badB (bt s) j = false := fun j hj => hA.out j (by omega)
      have HR : Hid (rmT (bt s) = strOfNums (rml (bt s) 6) ∧ rmC (bt s) = 0) := rm_ok _ hall
      clear hall
      obtain ⟨a, cap, hv, hby, -⟩ := OwnL.slice hO.out (rml_bd (bt s) k hA.out)
      have hc := conv_own (P := Try.prog) wr 25 9 5 Try.underlying25 Try.underlying5 Try.underlying9 a cap _ hby
      subst hv
      clear hby
      go_wp2
      go_ret2
      exact ⟨by rw [HR.out.1, HR.out.2, ← hlen6.out]; rfl, hB.out⟩
end Go.Proofs.Ytpcjdfponkopaac
