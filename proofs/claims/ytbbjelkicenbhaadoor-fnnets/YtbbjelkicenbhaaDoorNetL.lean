/- Lists of nets: whether all are nets; the longest that has an address. -/
import Derived.Test.YtbbjelkicenbhaaDoorNetW
import Derived.Test.YtbbjelkicenbhaaDoorPairs2
namespace Go.Proofs.YtbbjelkicenbhaaDoor
open Go.RowKit Go.PlainAid Go.Proofs.YtbbjelkicenbhaaDoor.Bt Go.Sort
set_option linter.unusedVariables false
set_option maxRecDepth 20000

/-- The first k are nets. -/
def okTo (zs : List (Int × Int)) (k : Nat) : Prop := ∀ i, i < k → nB (zs.getD i (0, 0)).1 (zs.getD i (0, 0)).2 = true
noncomputable instance (zs : List (Int × Int)) (k : Nat) : Decidable (okTo zs k) := Classical.propDecidable _
theorem okTo_zero (zs : List (Int × Int)) : okTo zs 0 := fun i hi => absurd hi (by omega)
theorem okTo_succ {zs : List (Int × Int)} {k : Nat} (h : okTo zs k) (hk : nB (zs.getD k (0, 0)).1 (zs.getD k (0, 0)).2 = true) : okTo zs (k + 1) := by
  intro i hi
  by_cases h' : i < k
  · exact h i h'
  · rw [show i = k by omega]; exact hk

set_option maxHeartbeats 1000000 in
theorem l05Nets_any (a : Option Addr) (len cap : Nat) (zs : List (Int × Int)) (w : World) (h : Prs w a zs) (hl : zs.length = len) (hc : len ≤ 1048576) :
    Calls Tryd.prog 56 #[.slice a len cap] w fun e w' => e = .returned (.bool (dec (okTo zs len ∧ len ≤ 20))) ∧ Grw w w' := by
  have H : Hid (Prs w a zs) := h
  clear h
  go_enter Tryd.func56, Tryd.ntmps56
  go_wp2
  go_loopw [3] (fun i wr => ∃ k : Nat, k ≤ len ∧ i = .int .i64 k ∧ Hid (okTo zs k) ∧ Hid (Grw w wr)) (fun i _ => len - (intOf i).toNat)
  case atStart => exact ⟨0, Nat.zero_le _, rfl, okTo_zero zs, Grw.refl w⟩
  case round =>
    obtain ⟨k, hk, rfl, HO, HG⟩ := hrel
    by_cases hlt : k < len
    · obtain ⟨b, off, rfl, hb, q0, q1⟩ := H.out.cells HG.out.below (k := k) (by omega)
      have HN : Hid (∀ w, Calls Tryd.prog 84 #[.agg #[.int .i64 (zs.getD k (0, 0)).1, .int .i64 (zs.getD k (0, 0)).2]] w fun e w' => e = .returned (.bool (nB (zs.getD k (0, 0)).1 (zs.getD k (0, 0)).2)) ∧ Grw w w') := fun w => specNetOK_any _ _ w
      have HS : Hid (nB (zs.getD k (0, 0)).1 (zs.getD k (0, 0)).2 = true → okTo zs (k + 1)) := fun h => okTo_succ HO.out h
      have HF : Hid (nB (zs.getD k (0, 0)).1 (zs.getD k (0, 0)).2 = false → ¬ okTo zs len) := fun h h' => by
        have := h' k hlt
        rw [h] at this
        cases this
      generalize nB (zs.getD k (0, 0)).1 (zs.getD k (0, 0)).2 = q at HN HS HF
      generalize (zs.getD k (0, 0)).1 = x0 at q0 HN
      generalize (zs.getD k (0, 0)).2 = x1 at q1 HN
      have hltz : (k : Int) < (len : Int) := by omega
      go_wp2_with fail
      refine (HN.out _).mono ?_
      rintro e w1 ⟨rfl, b1⟩
      have HG1 : Hid (Grw w w1) := HG.out.trans b1
      clear b1 q0 q1 HN HG
      cases q with
      | true =>
        have HS' : Hid (okTo zs (k + 1)) := HS.out rfl
        clear HS HF
        go_wp2
        go_roundw
        case rel => exact ⟨k + 1, by omega, by go_num, HS', HG1⟩
        case measure => simp [intOf]; omega
      | false =>
        have hd : Hid (dec (okTo zs len ∧ len ≤ 20) = false) := dec_n (fun h => HF.out rfl h.1)
        go_wp2
        go_ret
        exact ⟨by rw [hd.out]; rfl, HG1.out⟩
    · obtain rfl : k = len := by omega
      by_cases h20 : k ≤ 20
      · have hd : Hid (dec (okTo zs k ∧ k ≤ 20) = true) := dec_y ⟨HO.out, h20⟩
        have h20z : decide ((k : Int) ≤ 20) = true := by simp; omega
        go_wp2
        go_ret
        exact ⟨by rw [hd.out]; rfl, HG.out⟩
      · have hd : Hid (dec (okTo zs k ∧ k ≤ 20) = false) := dec_n (fun h => h20 h.2)
        have h20z : decide ((k : Int) ≤ 20) = false := by simp; omega
        go_wp2
        go_ret
        exact ⟨by rw [hd.out]; rfl, HG.out⟩

set_option maxHeartbeats 1000000 in
theorem netsOK_any (a : Option Addr) (len cap : Nat) (zs : List (Int × Int)) (w : World) (h : Prs w a zs) (hl : zs.length = len) :
    Calls Tryd.prog 54 #[.slice a len cap] w fun e w' => e = .returned (.bool (dec (okTo zs len ∧ len ≤ 20))) ∧ Grw w w' := by
  by_cases h20 : 20 < len
  · have hd : Hid (dec (okTo zs len ∧ len ≤ 20) = false) := dec_n (fun h => absurd h.2 (by omega))
    go_enter Tryd.func54, Tryd.ntmps54
    go_wp2
    go_ret
    exact ⟨by rw [hd.out]; rfl, Grw.refl w⟩
  have H : Hid (Prs w a zs) := h
  clear h
  go_enter Tryd.func54, Tryd.ntmps54
  go_wp2
  go_loopw [10] (fun i wr => ∃ k : Nat, k ≤ len ∧ i = .int .i64 k ∧ Hid (okTo zs k) ∧ Hid (Grw w wr)) (fun i _ => len - (intOf i).toNat)
  case atStart => exact ⟨0, Nat.zero_le _, rfl, okTo_zero zs, Grw.refl w⟩
  case round =>
    obtain ⟨k, hk, rfl, HO, HG⟩ := hrel
    by_cases hlt : k < len
    · obtain ⟨b, off, rfl, hb, q0, q1⟩ := H.out.cells HG.out.below (k := k) (by omega)
      have HN : Hid (∀ w, Calls Tryd.prog 23 #[.agg #[.int .i64 (zs.getD k (0, 0)).1, .int .i64 (zs.getD k (0, 0)).2]] w fun e w' => e = .returned (.bool (nB (zs.getD k (0, 0)).1 (zs.getD k (0, 0)).2)) ∧ Grw w w') := fun w => implNetOK_any _ _ w
      have HS : Hid (nB (zs.getD k (0, 0)).1 (zs.getD k (0, 0)).2 = true → okTo zs (k + 1)) := fun h => okTo_succ HO.out h
      have HF : Hid (nB (zs.getD k (0, 0)).1 (zs.getD k (0, 0)).2 = false → ¬ okTo zs len) := fun h h' => by
        have := h' k hlt
        rw [h] at this
        cases this
      generalize nB (zs.getD k (0, 0)).1 (zs.getD k (0, 0)).2 = q at HN HS HF
      generalize (zs.getD k (0, 0)).1 = x0 at q0 HN
      generalize (zs.getD k (0, 0)).2 = x1 at q1 HN
      have hltz : (k : Int) < (len : Int) := by omega
      go_wp2_with fail
      refine (HN.out _).mono ?_
      rintro e w1 ⟨rfl, b1⟩
      have HG1 : Hid (Grw w w1) := (HG.out.alloc _).trans b1
      clear b1 q0 q1 HN HG
      cases q with
      | true =>
        have HS' : Hid (okTo zs (k + 1)) := HS.out rfl
        clear HS HF
        go_wp2
        go_roundw
        case rel => exact ⟨k + 1, by omega, by go_num, HS', HG1⟩
        case measure => simp [intOf]; omega
      | false =>
        have hd : Hid (dec (okTo zs len ∧ len ≤ 20) = false) := dec_n (fun h => HF.out rfl h.1)
        go_wp2
        go_ret
        exact ⟨by rw [hd.out]; rfl, HG1.out⟩
    · obtain rfl : k = len := by omega
      have hd : Hid (dec (okTo zs k ∧ k ≤ 20) = true) := dec_y ⟨HO.out, by omega⟩
      go_wp2
      go_ret
      exact ⟨by rw [hd.out]; rfl, HG.out⟩

/-- The place of the longest net among the first k that has x, or -1. -/
def best (zs : List (Int × Int)) (x : Int) : Nat → Int
  | 0 => -1
  | k + 1 => if hB (zs.getD k (0, 0)).1 (zs.getD k (0, 0)).2 x = true ∧ (best zs x k < 0 ∨ (zs.getD (best zs x k).toNat (0, 0)).2 < (zs.getD k (0, 0)).2) then k else best zs x k
theorem best_bd (zs : List (Int × Int)) (x : Int) : ∀ k : Nat, -1 ≤ best zs x k ∧ best zs x k < k
  | 0 => by simp [best]
  | k + 1 => by
    have := best_bd zs x k
    unfold best
    split <;> omega

theorem best_yes {zs : List (Int × Int)} {x : Int} {k : Nat} (h : hB (zs.getD k (0, 0)).1 (zs.getD k (0, 0)).2 x = true) (h2 : best zs x k < 0 ∨ (zs.getD (best zs x k).toNat (0, 0)).2 < (zs.getD k (0, 0)).2) : best zs x (k + 1) = k := by
  rw [best, if_pos ⟨h, h2⟩]
theorem best_no {zs : List (Int × Int)} {x : Int} {k : Nat} (h : hB (zs.getD k (0, 0)).1 (zs.getD k (0, 0)).2 x = false) : best zs x (k + 1) = best zs x k := by
  rw [best, if_neg (fun h' => by rw [h] at h'; cases h'.1)]
theorem best_less {zs : List (Int × Int)} {x : Int} {k : Nat} (h0 : 0 ≤ best zs x k) (h2 : ¬ (zs.getD (best zs x k).toNat (0, 0)).2 < (zs.getD k (0, 0)).2) : best zs x (k + 1) = best zs x k := by
  rw [best, if_neg (fun h' => by rcases h'.2 with h | h <;> omega)]
set_option maxHeartbeats 1000000 in
theorem l05Longest_any (a : Option Addr) (len cap : Nat) (zs : List (Int × Int)) (x : Int) (w : World) (h : Prs w a zs) (hl : zs.length = len) (hc : len ≤ 20) (ho : okTo zs len) :
    Calls Tryd.prog 58 #[.slice a len cap, .int .i64 x] w fun e w' => e = .returned (.int .i64 (best zs x len)) ∧ Grw w w' := by
  have H : Hid (Prs w a zs) := h
  have HO : Hid (okTo zs len) := ho
  have hmix : Tryd.prog.follows .mixedOrders = true := by kernel_rfl
  clear h ho
  go_enter Tryd.func58, Tryd.ntmps58
  go_wp2
  go_loopw [5, 6] (fun p i wr => ∃ (k : Nat) (r : Int), k ≤ len ∧ i = .int .i64 k ∧ p = .int .i64 r ∧ Hid (r = best zs x k) ∧ Hid (Grw w wr)) (fun _ i _ => len - (intOf i).toNat)
  case atStart => exact ⟨0, -1, Nat.zero_le _, rfl, rfl, rfl, Grw.refl w⟩
  case round =>
    obtain ⟨k, r, hk, rfl, rfl, HR, HG⟩ := hrel
    by_cases hlt : k < len
    · obtain ⟨b, off, rfl, hb, p0, p1⟩ := H.out.cells HG.out.below (k := k) (by omega)
      have hn := nB_yes (HO.out k hlt)
      have HN : Hid (∀ w, Calls Tryd.prog 85 #[.agg #[.int .i64 (zs.getD k (0, 0)).1, .int .i64 (zs.getD k (0, 0)).2], .int .i64 x] w fun e w' => e = .returned (.bool (hB (zs.getD k (0, 0)).1 (zs.getD k (0, 0)).2 x)) ∧ Grw w w') := fun w => l05Has_any _ _ x w hn.2.2.1 hn.2.2.2.1
      have hbd := best_bd zs x k
      rw [← HR.out] at hbd
      have E1 : Hid (hB (zs.getD k (0, 0)).1 (zs.getD k (0, 0)).2 x = false → r = best zs x (k + 1)) := fun h => by rw [best_no h]; exact HR.out
      have E2 : Hid (hB (zs.getD k (0, 0)).1 (zs.getD k (0, 0)).2 x = true → (r < 0 ∨ (zs.getD r.toNat (0, 0)).2 < (zs.getD k (0, 0)).2) → (k : Int) = best zs x (k + 1)) := fun h h2 => by rw [best_yes h (by rw [← HR.out]; exact h2)]
      have E3 : Hid (0 ≤ r → ¬ (zs.getD r.toNat (0, 0)).2 < (zs.getD k (0, 0)).2 → r = best zs x (k + 1)) := fun h h2 => by rw [best_less (by rw [← HR.out]; exact h) (by rw [← HR.out]; exact h2)]; exact HR.out
      have hltz : (k : Int) < (len : Int) := by omega
      have hltr : r < (len : Int) := by omega
      clear hn HR
      cases hq : hB (zs.getD k (0, 0)).1 (zs.getD k (0, 0)).2 x with
      | false =>
        have HE : Hid (r = best zs x (k + 1)) := E1.out hq
        rw [hq] at HN
        clear E1 E2 E3 hq
        have q0 := grown_cell hb HG.out p0
        have q1 := grown_cell hb HG.out p1
        generalize (zs.getD k (0, 0)).1 = x0 at q0 HN
        generalize (zs.getD k (0, 0)).2 = x1 at q1 HN
        clear p0 p1
        go_wp2_with fail
        refine wp_region_quiet_grown (by assumption) (by kernel_rfl) ?_
        repeat (go_big_quiet_step (first | fail | (go_at_call 85; exact Calls.grown_of (HN.out _))))
        refine wpQuiet_nil ?_
        intro _ hw'
        obtain ⟨⟨nq, osq⟩, hw''⟩ := hw'
        subst hw''
        have HG2 : Hid (Grw w (grow (wr.drewN nq) osq)) := HG.out.trans ⟨nq, osq, rfl⟩
        clear q0 q1 HG
        go_wp2
        go_roundw
        case rel => exact ⟨k + 1, _, by omega, by go_num, rfl, HE, HG2⟩
        case measure => simp [intOf]; omega
      | true =>
        rw [hq] at HN
        by_cases hr : r < 0
        · have HE : Hid ((k : Int) = best zs x (k + 1)) := E2.out hq (Or.inl hr)
          clear E1 E2 E3 hq
          have q0 := grown_cell hb HG.out p0
          have q1 := grown_cell hb HG.out p1
          generalize (zs.getD k (0, 0)).1 = x0 at q0 HN
          generalize (zs.getD k (0, 0)).2 = x1 at q1 HN
          clear p0 p1
          go_wp2_with fail
          refine wp_region_quiet_grown (by assumption) (by kernel_rfl) ?_
          repeat (go_big_quiet_step (first | fail | (go_at_call 85; exact Calls.grown_of (HN.out _))))
          refine wpQuiet_nil ?_
          intro _ hw'
          obtain ⟨⟨nq, osq⟩, hw''⟩ := hw'
          subst hw''
          have HG2 : Hid (Grw w (grow (wr.drewN nq) osq)) := HG.out.trans ⟨nq, osq, rfl⟩
          clear q0 q1 HG
          go_wp2
          go_roundw
          case rel => exact ⟨k + 1, _, by omega, by go_num, rfl, HE, HG2⟩
          case measure => simp [intOf]; omega
        · obtain ⟨j, rfl⟩ := Int.eq_ofNat_of_zero_le (by omega : 0 ≤ r)
          rw [Int.toNat_natCast] at E2 E3
          obtain ⟨b2, off2, e2, _, p2, p3⟩ := H.out.cells HG.out.below (k := j) (by omega)
          cases e2
          have q0 := grown_cell hb HG.out p0
          have q1 := grown_cell hb HG.out p1
          have q3 := grown_cell hb HG.out p3
          have hj0 : decide ((j : Int) < 0) = false := by simp
          by_cases hlt3 : (zs.getD j (0, 0)).2 < (zs.getD k (0, 0)).2
          · have HE : Hid ((k : Int) = best zs x (k + 1)) := E2.out hq (Or.inr hlt3)
            clear E1 E2 E3 hq p0 p1 p2 p3
            generalize (zs.getD k (0, 0)).1 = x0 at q0 HN
            generalize (zs.getD k (0, 0)).2 = x1 at q1 HN hlt3
            generalize (zs.getD j (0, 0)).2 = x3 at q3 hlt3
            go_wp2_with fail
            refine wp_region_quiet_grown (by assumption) (by kernel_rfl) ?_
            repeat (go_big_quiet_step (first | fail | (go_at_call 85; exact Calls.grown_of (HN.out _))))
            refine wpQuiet_nil ?_
            intro _ hw'
            obtain ⟨⟨nq, osq⟩, hw''⟩ := hw'
            subst hw''
            have HG2 : Hid (Grw w (grow (wr.drewN nq) osq)) := HG.out.trans ⟨nq, osq, rfl⟩
            clear q0 q1 q3 HG
            go_wp2
            go_roundw
            case rel => exact ⟨k + 1, _, by omega, by go_num, rfl, HE, HG2⟩
            case measure => simp [intOf]; omega
          · have HE : Hid ((j : Int) = best zs x (k + 1)) := E3.out (by omega) hlt3
            clear E1 E2 E3 hq p0 p1 p2 p3
            generalize (zs.getD k (0, 0)).1 = x0 at q0 HN
            generalize (zs.getD k (0, 0)).2 = x1 at q1 HN hlt3
            generalize (zs.getD j (0, 0)).2 = x3 at q3 hlt3
            go_wp2_with fail
            refine wp_region_quiet_grown (by assumption) (by kernel_rfl) ?_
            repeat (go_big_quiet_step (first | fail | (go_at_call 85; exact Calls.grown_of (HN.out _))))
            refine wpQuiet_nil ?_
            intro _ hw'
            obtain ⟨⟨nq, osq⟩, hw''⟩ := hw'
            subst hw''
            have HG2 : Hid (Grw w (grow (wr.drewN nq) osq)) := HG.out.trans ⟨nq, osq, rfl⟩
            clear q0 q1 q3 HG
            go_wp2
            go_roundw
            case rel => exact ⟨k + 1, _, by omega, by go_num, rfl, HE, HG2⟩
            case measure => simp [intOf]; omega
    · obtain rfl : k = len := by omega
      go_wp2
      go_ret
      exact ⟨by rw [← HR.out]; rfl, HG.out⟩
end Go.Proofs.YtbbjelkicenbhaaDoor
