/- timersOK, the program's: as many as may be, in order, each right, no Id twice. -/
import Derived.Test.YtbbjelkicenbhaaTimK
namespace Go.Proofs.Ytbbjelkicenbhaa
open Go.RowKit Go.PlainAid Go.Sort
set_option linter.unusedVariables false
set_option maxRecDepth 20000

theorem cmpT_lt {x y : Int × Int} : 0 ≤ cmpT y x ↔ ¬ ltT y x := by
  unfold cmpT cmpI ltT
  by_cases h1 : y.1 < x.1
  · simp [h1]
  · by_cases h2 : x.1 < y.1
    · have : ¬ (y.1 = x.1) := by omega
      simp [h1, h2, this]
    · have e : y.1 = x.1 := by omega
      by_cases h3 : y.2 < x.2
      · simp [e, h3]
      · by_cases h4 : x.2 < y.2 <;> simp [e, h3, h4]
theorem ltT_of {x y : Int × Int} (h : ¬ ltT y x) (hne : x.2 ≠ y.2) : ltT x y := by
  unfold ltT at *
  omega
theorem not_back {x y : Int × Int} (h : ltT x y) : ¬ ltT y x := by
  unfold ltT at *
  omega
/-- What the program asks of each place. -/
def goodP (zs : List (Int × Int)) (i : Nat) : Prop := okT (zs.getD i (0, 0)) ∧ ¬ hasId zs i (zs.getD i (0, 0)).2
theorem good_iff (zs : List (Int × Int)) (n : Nat) : goodTo zs n ↔ sortT zs n ∧ ∀ i, i < n → goodP zs i := by
  constructor
  · intro h
    refine ⟨fun i hi => ?_, fun i hi => ⟨(h i hi).1, fun ⟨j, hj, e⟩ => (h i hi).2.2 j hj e⟩⟩
    rw [cmpT_lt]
    exact not_back ((h (i + 1) hi).2.1 (by omega))
  · rintro ⟨hs, hp⟩ i hi
    have hd : ∀ j, j < i → (zs.getD j (0, 0)).2 ≠ (zs.getD i (0, 0)).2 := fun j hj e => (hp i hi).2 ⟨j, hj, e⟩
    refine ⟨(hp i hi).1, fun h0 => ?_, hd⟩
    have h1 := hs (i - 1) (by omega)
    rw [show i - 1 + 1 = i by omega, cmpT_lt] at h1
    exact ltT_of h1 (hd (i - 1) (by omega))

set_option maxHeartbeats 2000000 in
theorem timersOK_any (a : Option Addr) (len cap : Nat) (zs : List (Int × Int)) (w : World) (h : Prs w a zs) (hl : zs.length = len) (hcp : len ≤ cap) :
    Calls Try.prog 46 #[.slice a len cap] w fun e w' => e = .returned (.bool (tmB zs)) ∧ Grw w w' := by
  have HT : Hid (tmB zs = dec (goodTo zs len ∧ len ≤ 20)) := by show _ = _; unfold tmB; rw [hl]
  by_cases h20 : 20 < len
  · have hd : Hid (tmB zs = false) := by show _ = _; rw [HT.out]; exact dec_n (fun h => absurd h.2 (by omega))
    go_enter Try.func46, Try.ntmps46
    go_wp2
    go_ret
    exact ⟨by rw [hd.out]; rfl, Grw.refl w⟩
  have H : Hid (Prs w a zs) := h
  have HS : Hid (Calls Try.prog 65 #[.slice a len cap, .func (.func 50) #[] #[]] w fun e w' => e = .returned (.bool (dec (sortT zs len))) ∧ Grw w w') := isSorted_any a len cap zs w h hl (by omega)
  clear h
  have hmix : Try.prog.follows .mixedOrders = true := by kernel_rfl
  by_cases hs : sortT zs len
  · rw [dec_y hs] at HS
    have HI : Hid ((∀ i, i < len → goodP zs i) → tmB zs = true) := fun hh => by rw [HT.out]; exact dec_y ⟨(good_iff zs len).2 ⟨hs, hh⟩, by omega⟩
    have HN : Hid (∀ i, i < len → ¬ goodP zs i → tmB zs = false) := fun i hi hh => by rw [HT.out]; exact dec_n (fun h => hh (((good_iff zs len).1 h.1).2 i hi))
    clear HT hs
    go_enter Try.func46, Try.ntmps46
    go_wp2_with fail
    refine HS.out.mono ?_
    rintro e w1 ⟨rfl, g1⟩
    have G1 : Hid (Grw w w1) := g1
    clear g1 HS
    go_wp2
    go_loopw [15] (fun i wr => ∃ k : Nat, k ≤ len ∧ i = .int .i64 k ∧ Hid (∀ j, j < k → goodP zs j) ∧ Hid (Grw w wr)) (fun i _ => len - (intOf i).toNat)
    case atStart => exact ⟨0, Nat.zero_le _, rfl, fun j hj => absurd hj (by omega), G1⟩
    case round =>
      obtain ⟨k, hk, rfl, HP, HG⟩ := hrel
      by_cases hlt : k < len
      · obtain ⟨b, off, rfl, hb, p0, p1⟩ := H.out.cells HG.out.below (k := k) (by omega)
        have HO : Hid (∀ w, Calls Try.prog 47 #[.agg #[.int .i64 (zs.getD k (0, 0)).1, .int .i64 (zs.getD k (0, 0)).2]] w fun e w' => e = .returned (.bool (dec (okT (zs.getD k (0, 0))))) ∧ Grw w w') := fun w => timerOK_any _ _ w
        have HH : Hid (∀ W, Prs W (some ⟨b, off, none⟩) zs → Calls Try.prog 66 #[.slice (some ⟨b, off, none⟩) k cap, .int .i64 (zs.getD k (0, 0)).2] W fun e w' => e = .returned (.bool (dec (hasId zs k (zs.getD k (0, 0)).2))) ∧ Grw W w') := fun W hW => hasTimer_any _ _ _ zs _ W hW (by omega) (by omega)
        have PA : Hid (∀ o n os, Prs (grow ((wr.alloc o).drewN n) os) (some ⟨b, off, none⟩) zs) := fun o n os => H.out.keep ((HG.out.alloc o).trans ⟨n, os, rfl⟩).below
        have E1 : Hid (goodP zs k → ∀ j, j < k + 1 → goodP zs j) := fun h j hj => by
          by_cases e : j < k
          · exact HP.out j e
          · rw [show j = k by omega]; exact h
        have hltz : (k : Int) < (len : Int) := by omega
        have hkc : (k : Int) ≤ (cap : Int) := by omega
        have k0 : ∀ (v u : Value) n os, (grow ((wr.alloc (.cells #[v, u] 44)).drewN n) os).cell? ⟨wr.heap.size, 0, none⟩ = some v := fun v u n os => cell_grown (by simp) (by simp) n os
        have k1 : ∀ (v u : Value) n os, (grow ((wr.alloc (.cells #[v, u] 44)).drewN n) os).cell? ⟨wr.heap.size, 1, none⟩ = some u := fun v u n os => cell_grown (by simp) (by simp) n os
        clear HP
        by_cases ho : okT (zs.getD k (0, 0))
        · rw [dec_y ho] at HO
          by_cases hh : hasId zs k (zs.getD k (0, 0)).2
          · rw [dec_y hh] at HH
            have HD : Hid (tmB zs = false) := HN.out k hlt (fun h => h.2 hh)
            clear E1 ho hh
            generalize (zs.getD k (0, 0)).1 = x0 at p0 HO
            generalize (zs.getD k (0, 0)).2 = x1 at p1 HO HH
            go_wp2_with fail
            refine wp_region_quiet_grown (by assumption) (by kernel_rfl) ?_
            repeat (go_big_quiet_step (first | fail | (first | (go_at_call 47; exact Calls.grown_of (HO.out _)) | (go_at_call 66; exact Calls.grown_of (HH.out _ (PA.out _ _ _))))))
            refine wpQuiet_nil ?_
            intro _ hw'
            obtain ⟨⟨nq, osq⟩, hw''⟩ := hw'
            subst hw''
            have HG2 : Hid (Grw w (grow ((wr.alloc (.cells #[.int .i64 x0, .int .i64 x1] 44)).drewN nq) osq)) := (HG.out.alloc _).trans ⟨nq, osq, rfl⟩
            clear p0 p1 HG k0 k1 PA HO HH
            go_wp2
            go_ret
            exact ⟨by rw [HD.out]; rfl, HG2.out⟩
          · rw [dec_n hh] at HH
            have HD : Hid (∀ j, j < k + 1 → goodP zs j) := E1.out ⟨ho, hh⟩
            clear E1 ho hh
            generalize (zs.getD k (0, 0)).1 = x0 at p0 HO
            generalize (zs.getD k (0, 0)).2 = x1 at p1 HO HH
            go_wp2_with fail
            refine wp_region_quiet_grown (by assumption) (by kernel_rfl) ?_
            repeat (go_big_quiet_step (first | fail | (first | (go_at_call 47; exact Calls.grown_of (HO.out _)) | (go_at_call 66; exact Calls.grown_of (HH.out _ (PA.out _ _ _))))))
            refine wpQuiet_nil ?_
            intro _ hw'
            obtain ⟨⟨nq, osq⟩, hw''⟩ := hw'
            subst hw''
            have HG2 : Hid (Grw w (grow ((wr.alloc (.cells #[.int .i64 x0, .int .i64 x1] 44)).drewN nq) osq)) := (HG.out.alloc _).trans ⟨nq, osq, rfl⟩
            clear p0 p1 HG k0 k1 PA HO HH
            go_wp2
            go_roundw
            case rel => exact ⟨k + 1, by omega, by go_num, HD, HG2⟩
            case measure => simp [intOf]; omega
        · rw [dec_n ho] at HO
          have HD : Hid (tmB zs = false) := HN.out k hlt (fun h => ho h.1)
          clear E1 ho
          generalize (zs.getD k (0, 0)).1 = x0 at p0 HO
          generalize (zs.getD k (0, 0)).2 = x1 at p1 HO HH
          go_wp2_with fail
          refine wp_region_quiet_grown (by assumption) (by kernel_rfl) ?_
          repeat (go_big_quiet_step (first | fail | (first | (go_at_call 47; exact Calls.grown_of (HO.out _)) | (go_at_call 66; exact Calls.grown_of (HH.out _ (PA.out _ _ _))))))
          refine wpQuiet_nil ?_
          intro _ hw'
          obtain ⟨⟨nq, osq⟩, hw''⟩ := hw'
          subst hw''
          have HG2 : Hid (Grw w (grow ((wr.alloc (.cells #[.int .i64 x0, .int .i64 x1] 44)).drewN nq) osq)) := (HG.out.alloc _).trans ⟨nq, osq, rfl⟩
          clear p0 p1 HG k0 k1 PA HO HH
          go_wp2
          go_ret
          exact ⟨by rw [HD.out]; rfl, HG2.out⟩
      · obtain rfl : k = len := by omega
        have hd : Hid (tmB zs = true) := HI.out HP.out
        go_wp2
        go_ret
        exact ⟨by rw [hd.out]; rfl, HG.out⟩
  · rw [dec_n hs] at HS
    have hd : Hid (tmB zs = false) := by show _ = _; rw [HT.out]; exact dec_n (fun h => hs ((good_iff zs len).1 h.1).1)
    go_enter Try.func46, Try.ntmps46
    go_wp2_with fail
    refine HS.out.mono ?_
    rintro e w1 ⟨rfl, g1⟩
    have G1 : Hid (Grw w w1) := g1
    clear g1 HS
    go_wp2
    go_ret
    exact ⟨by rw [hd.out]; rfl, G1.out⟩
end Go.Proofs.Ytbbjelkicenbhaa
