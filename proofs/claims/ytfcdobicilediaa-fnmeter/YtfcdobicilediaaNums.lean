/- Rows of integers: laws.toIntS (a copy in new memory), laws.eqIntS; MeanOf, both sides. -/
import Derived.Test.YtfcdobicilediaaMeter
import Derived.Test.YtfcdobicilediaaBytes
import Derived.Deep.OwnRows
import Derived.BigQuiet
import Derived.Deep.QuietTactic
namespace Go.Proofs.Ytfcdobicilediaa
open Go.RowKit Go.PlainAid Go.Sort
set_option linter.unusedVariables false
set_option maxRecDepth 20000

/-- Integers lie at a. -/
def Nm (w : World) (a : Option Addr) (len : Nat) (f : Nat → Int) : Prop := 0 < len → ∃ b off, a = some ⟨b, off, none⟩ ∧ b < w.heap.size ∧ ∀ i, i < len → w.cell? ⟨b, off + i, none⟩ = some (.int .i64 (f i))
theorem Nm.below {w w' : World} {a : Option Addr} {len n : Nat} {f : Nat → Int} (h : Nm w a len f) (hb : Below n w w') (hn : w.heap.size ≤ n) : Nm w' a len f := fun h0 => by
  obtain ⟨b, off, rfl, hl, hc⟩ := h h0
  exact ⟨b, off, rfl, Nat.lt_of_lt_of_le hl hb.size, fun i hi => by rw [hb.cell (p := ⟨b, off + i, none⟩) (Nat.lt_of_lt_of_le hl hn)]; exact hc i hi⟩
def FillI (w wr : World) (len k : Nat) (f : Nat → Int) : Prop :=
  Below w.heap.size w wr ∧ w.heap.size < wr.heap.size ∧ (∀ i, wr.frozen? ⟨w.heap.size, i, none⟩ = false) ∧ (∀ i, i < len → ∃ v, wr.cell? ⟨w.heap.size, i, none⟩ = some v) ∧ ∀ i, i < k → wr.cell? ⟨w.heap.size, i, none⟩ = some (.int .i64 (f i))
theorem filli_start (w : World) (len : Nat) (f : Nat → Int) (e : TypeId) : FillI w (w.alloc (.cells (madeCells #[.int .i64 0] len) e)) len 0 f := by
  refine ⟨(Below.refl _ _).alloc (Nat.le_refl _) _, by simp, fun i => by simp, fun i hi => ?_, fun i hi => absurd hi (by omega)⟩
  rw [World.cell?_alloc_new]
  exact ⟨_, by simp [madeCells, hi]; rfl⟩
theorem filli_step {w wr : World} {len k : Nat} {f : Nat → Int} (h : FillI w wr len k f) (hk : k < len) : FillI w (wr.setCell ⟨w.heap.size, k, none⟩ (.int .i64 (f k))) len (k + 1) f := by
  obtain ⟨hb, hz, hf, hs, hc⟩ := h
  refine ⟨hb.setCell (Nat.le_refl _) _, by simpa using hz, fun i => by simpa using hf i, fun i hi => cell?_setCell_some (hs i hi).choose_spec, fun i hi => ?_⟩
  by_cases e : i = k
  · subst e
    exact World.cell?_setCell_same _ _ _ (hs i hk).choose_spec
  · rw [World.cell?_setCell_other _ _ _ _ (fun hh => e (Addr.mk.inj hh).2.1.symm)]
    exact hc i (by omega)
theorem FillI.nm {w wr : World} {len : Nat} {f : Nat → Int} (h : FillI w wr len len f) : Nm wr (some ⟨w.heap.size, 0, none⟩) len f :=
  fun _ => ⟨w.heap.size, 0, rfl, h.2.1, fun i hi => by rw [Nat.zero_add]; exact h.2.2.2.2 i hi⟩
theorem intInf : (Try.prog.info? 3).map (fun i => (i.zero, i.size, i.bytes)) = some (some (.int .i64 0), 1, 8) := by kernel_rfl

/-- The sum of the first k. -/
def sumA (f : Nat → Int) : Nat → Int
  | 0 => 0
  | k + 1 => sumA f k + f k
def allA (f : Nat → Int) (k : Nat) : Prop := ∀ i, i < k → okA (f i)
noncomputable instance (f : Nat → Int) (k : Nat) : Decidable (allA f k) := Classical.propDecidable _
theorem sumA_bd (f : Nat → Int) (k : Nat) (h : allA f k) : -(1000000000 * (k : Int)) ≤ sumA f k ∧ sumA f k ≤ 1000000000 * (k : Int) := by
  induction k with
  | zero => simp [sumA]
  | succ k ih =>
    have h1 := ih (fun i hi => h i (by omega))
    have h2 := h k (by omega)
    unfold okA at h2
    show -(1000000000 * ((k + 1 : Nat) : Int)) ≤ sumA f k + f k ∧ sumA f k + f k ≤ 1000000000 * ((k + 1 : Nat) : Int)
    omega
noncomputable def meanV (f : Nat → Int) (len : Nat) : Int := if len ≤ 4096 ∧ allA f len ∧ 0 < len then sumA f len / len else 0
noncomputable def meanK (f : Nat → Int) (len : Nat) : Int := if 4096 < len then 2 else if allA f len then (if len = 0 then 5 else 0) else 1

set_option maxHeartbeats 1000000 in
theorem sMean_any (a : Option Addr) (len cap : Nat) (f : Nat → Int) (w : World) (h : Nm w a len f) (hlen : len ≤ 1048576) :
    Calls Try.prog 31 #[.slice a len cap] w fun e w' => e = .returned (.tuple #[.int .i64 (meanV f len), .int .i64 (meanK f len)]) ∧ w' = w := by
  by_cases hl : 4096 < len
  · have e1 : meanV f len = 0 := if_neg (by omega)
    have e2 : meanK f len = 2 := if_pos hl
    rw [e1, e2]
    have hlz : (4096 : Int) < (len : Int) := by omega
    go_enter Try.func31, Try.ntmps31
    go_wp2
    go_ret2
    exact ⟨rfl, rfl⟩
  have H : Hid (Nm w a len f) := h
  have HV : Hid (∀ x w, Calls Try.prog 66 #[.int .i64 x] w fun e w' => e = .returned (.bool (dec (okA x))) ∧ w' = w) := fun x w => sValue_any x w
  have hlz : (len : Int) ≤ (4096 : Int) := by omega
  have HB : Hid (∀ k, k ≤ len → allA f k → -(1000000000 * (k : Int)) ≤ sumA f k ∧ sumA f k ≤ 1000000000 * (k : Int)) := fun k _ h => sumA_bd f k h
  clear h
  go_enter Try.func31, Try.ntmps31
  go_wp2
  go_loopw [4, 5] (fun n i wr => ∃ k : Nat, k ≤ len ∧ i = .int .i64 k ∧ n = .int .i64 (sumA f k) ∧ wr = w ∧ Hid (allA f k)) (fun _ i _ => len - (intOf i).toNat)
  case atStart => exact ⟨0, Nat.zero_le _, rfl, rfl, rfl, fun i hi => absurd hi (by omega)⟩
  case round =>
    obtain ⟨k, hk, rfl, rfl, hw, HA⟩ := hrel
    subst hw
    by_cases hlt2 : k < len
    · obtain ⟨b, off, rfl, hbl, hc⟩ := H.out (by omega)
      have hck := hc k hlt2
      have hltz : (k : Int) < (len : Int) := by omega
      have HV1 : Hid (∀ w, Calls Try.prog 66 #[.int .i64 (f k)] w fun e w' => e = .returned (.bool (dec (okA (f k)))) ∧ w' = w) := fun w => HV.out _ w
      have hs := HB.out k (by omega) HA.out
      have HS : Hid (sumA f (k + 1) = sumA f k + f k) := rfl
      by_cases hok : okA (f k)
      · rw [dec_y hok] at HV1
        have HA2 : Hid (allA f (k + 1)) := fun i hi => by
          by_cases e : i = k
          · subst e; exact hok
          · exact HA.out i (by omega)
        unfold okA at hok
        generalize sumA f k = s1 at hs HS ⊢
        have hw2 : wrap64 (s1 + f k) = s1 + f k := by unfold wrap64; omega
        have hw3 : IntKind.i64.wrap (s1 + f k) = s1 + f k := by rw [IntKind.wrap_i64]; omega
        generalize f k = x at *
        clear hc HB HV
        go_wp2_with fail
        refine (HV1.out _).mono ?_
        rintro e w1 ⟨rfl, hw⟩
        subst hw
        go_wp2
        go_roundw
        case rel => exact ⟨k + 1, by omega, by go_num, by rw [HS.out], (by first | trivial | rfl), HA2⟩
        case measure => simp [intOf]; omega
      · rw [dec_n hok] at HV1
        have hnall : ¬ allA f len := fun h => hok (h k hlt2)
        have e1 : meanV f len = 0 := if_neg (fun h => hnall h.2.1)
        have e2 : meanK f len = 1 := by unfold meanK; rw [if_neg hl, if_neg hnall]
        have E1 : Hid (meanV f len = 0 ∧ meanK f len = 1) := ⟨e1, e2⟩
        generalize f k = x at *
        clear hc HB HV e1 e2 hnall hok
        go_wp2_with fail
        refine (HV1.out _).mono ?_
        rintro e w1 ⟨rfl, hw⟩
        subst hw
        go_wp2
        go_ret2
        exact ⟨by rw [E1.out.1, E1.out.2]; rfl, rfl⟩
    · obtain rfl : k = len := by omega
      by_cases hz : k = 0
      · have e1 : meanV f k = 0 := if_neg (fun h => by omega)
        have e2 : meanK f k = 5 := by unfold meanK; rw [if_neg hl, if_pos HA.out, if_pos hz]
        have E1 : Hid (meanV f k = 0 ∧ meanK f k = 5) := ⟨e1, e2⟩
        clear e1 e2 HB
        subst hz
        go_wp2
        go_ret2
        exact ⟨by rw [E1.out.1, E1.out.2]; rfl, rfl⟩
      · have e1 : meanV f k = sumA f k / k := if_pos ⟨by omega, HA.out, by omega⟩
        have e2 : meanK f k = 0 := by unfold meanK; rw [if_neg hl, if_pos HA.out, if_neg hz]
        have hs := HB.out k (by omega) HA.out
        have H3 : Hid (∀ w, Calls Try.prog 67 #[.int .i64 (sumA f k), .int .i64 (k : Int)] w fun e w' => e = .returned (.int .i64 (sumA f k / k)) ∧ w' = w) := fun w => sFloor_any _ _ (by omega) (by omega) (by omega) (by omega) w
        have E1 : Hid (meanV f k = sumA f k / k ∧ meanK f k = 0) := ⟨e1, e2⟩
        clear e1 e2 HB
        generalize sumA f k / (k : Int) = r at *
        generalize sumA f k = s1 at *
        have hkz : ¬ ((k : Int) = 0) := by omega
        go_wp2_with fail
        refine (H3.out _).mono ?_
        rintro e w1 ⟨rfl, hw⟩
        subst hw
        go_wp2
        go_ret2
        exact ⟨by rw [E1.out.1, E1.out.2]; rfl, rfl⟩

set_option maxHeartbeats 1000000 in
theorem iMean_any (a : Option Addr) (len cap : Nat) (f : Nat → Int) (w : World) (h : Nm w a len f) (hlen : len ≤ 1048576) :
    Calls Try.prog 30 #[.slice a len cap] w fun e w' => e = .returned (.tuple #[.int .i64 (meanV f len), .int .i64 (meanK f len)]) ∧ w' = w := by
  by_cases hl : 4096 < len
  · have e1 : meanV f len = 0 := if_neg (by omega)
    have e2 : meanK f len = 2 := if_pos hl
    rw [e1, e2]
    have hlz : (4096 : Int) < (len : Int) := by omega
    go_enter Try.func30, Try.ntmps30
    go_wp2
    go_ret2
    exact ⟨rfl, rfl⟩
  have H : Hid (Nm w a len f) := h
  have HV : Hid (∀ x w, Calls Try.prog 63 #[.int .i64 x] w fun e w' => e = .returned (.bool (dec (okA x))) ∧ w' = w) := fun x w => amountOK_any x w
  have hlz : (len : Int) ≤ (4096 : Int) := by omega
  have HB : Hid (∀ k, k ≤ len → allA f k → -(1000000000 * (k : Int)) ≤ sumA f k ∧ sumA f k ≤ 1000000000 * (k : Int)) := fun k _ h => sumA_bd f k h
  clear h
  go_enter Try.func30, Try.ntmps30
  go_wp2
  go_loopw [4, 12] (fun n i wr => ∃ k : Nat, k ≤ len ∧ i = .int .i64 k ∧ n = .int .i64 (sumA f k) ∧ wr = w ∧ Hid (allA f k)) (fun _ i _ => len - (intOf i).toNat)
  case atStart => exact ⟨0, Nat.zero_le _, rfl, rfl, rfl, fun i hi => absurd hi (by omega)⟩
  case round =>
    obtain ⟨k, hk, rfl, rfl, hw, HA⟩ := hrel
    subst hw
    by_cases hlt2 : k < len
    · obtain ⟨b, off, rfl, hbl, hc⟩ := H.out (by omega)
      have hck := hc k hlt2
      have hltz : (k : Int) < (len : Int) := by omega
      have HV1 : Hid (∀ w, Calls Try.prog 63 #[.int .i64 (f k)] w fun e w' => e = .returned (.bool (dec (okA (f k)))) ∧ w' = w) := fun w => HV.out _ w
      have hs := HB.out k (by omega) HA.out
      have HS : Hid (sumA f (k + 1) = sumA f k + f k) := rfl
      by_cases hok : okA (f k)
      · rw [dec_y hok] at HV1
        have HA2 : Hid (allA f (k + 1)) := fun i hi => by
          by_cases e : i = k
          · subst e; exact hok
          · exact HA.out i (by omega)
        unfold okA at hok
        generalize sumA f k = s1 at hs HS ⊢
        have hw2 : wrap64 (s1 + f k) = s1 + f k := by unfold wrap64; omega
        have hw3 : IntKind.i64.wrap (s1 + f k) = s1 + f k := by rw [IntKind.wrap_i64]; omega
        generalize f k = x at *
        clear hc HB HV
        go_wp2_with fail
        refine (HV1.out _).mono ?_
        rintro e w1 ⟨rfl, hw⟩
        subst hw
        go_wp2
        go_roundw
        case rel => exact ⟨k + 1, by omega, by go_num, by rw [HS.out], (by first | trivial | rfl), HA2⟩
        case measure => simp [intOf]; omega
      · rw [dec_n hok] at HV1
        have hnall : ¬ allA f len := fun h => hok (h k hlt2)
        have e1 : meanV f len = 0 := if_neg (fun h => hnall h.2.1)
        have e2 : meanK f len = 1 := by unfold meanK; rw [if_neg hl, if_neg hnall]
        have E1 : Hid (meanV f len = 0 ∧ meanK f len = 1) := ⟨e1, e2⟩
        generalize f k = x at *
        clear hc HB HV e1 e2 hnall hok
        go_wp2_with fail
        refine (HV1.out _).mono ?_
        rintro e w1 ⟨rfl, hw⟩
        subst hw
        go_wp2
        go_ret2
        exact ⟨by rw [E1.out.1, E1.out.2]; rfl, rfl⟩
    · obtain rfl : k = len := by omega
      by_cases hz : k = 0
      · have e1 : meanV f k = 0 := if_neg (fun h => by omega)
        have e2 : meanK f k = 5 := by unfold meanK; rw [if_neg hl, if_pos HA.out, if_pos hz]
        have E1 : Hid (meanV f k = 0 ∧ meanK f k = 5) := ⟨e1, e2⟩
        clear e1 e2 HB
        subst hz
        go_wp2
        go_ret2
        exact ⟨by rw [E1.out.1, E1.out.2]; rfl, rfl⟩
      · have e1 : meanV f k = sumA f k / k := if_pos ⟨by omega, HA.out, by omega⟩
        have e2 : meanK f k = 0 := by unfold meanK; rw [if_neg hl, if_pos HA.out, if_neg hz]
        have hs := HB.out k (by omega) HA.out
        have H3 : Hid (∀ w, Calls Try.prog 64 #[.int .i64 (sumA f k), .int .i64 (k : Int)] w fun e w' => e = .returned (.int .i64 (sumA f k / k)) ∧ w' = w) := fun w => by have := dividedDown_any (sumA f k) k (by omega) (by omega) (by omega) w; rw [show fl (sumA f k) (k : Int) = sumA f k / (k : Int) from if_pos (by omega)] at this; exact this
        have E1 : Hid (meanV f k = sumA f k / k ∧ meanK f k = 0) := ⟨e1, e2⟩
        clear e1 e2 HB
        generalize sumA f k / (k : Int) = r at *
        generalize sumA f k = s1 at *
        have hkz : ¬ ((k : Int) = 0) := by omega
        go_wp2_with fail
        refine (H3.out _).mono ?_
        rintro e w1 ⟨rfl, hw⟩
        subst hw
        go_wp2
        go_ret2
        exact ⟨by rw [E1.out.1, E1.out.2]; rfl, rfl⟩
end Go.Proofs.Ytfcdobicilediaa
