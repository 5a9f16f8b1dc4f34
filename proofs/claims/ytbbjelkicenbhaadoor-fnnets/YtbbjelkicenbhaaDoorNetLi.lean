/- LongestNet, the program's and the model's. -/
import Derived.Test.YtbbjelkicenbhaaDoorNetL
namespace Go.Proofs.YtbbjelkicenbhaaDoor
open Go.RowKit Go.PlainAid Go.Proofs.YtbbjelkicenbhaaDoor.Bt Go.Sort
set_option linter.unusedVariables false
set_option maxRecDepth 20000

/-- What LongestNet answers: its code, its place. -/
noncomputable def lnC (zs : List (Int × Int)) (x : Int) : Int := if 4096 < zs.length then 2 else if dec (okTo zs zs.length ∧ zs.length ≤ 20) = false then 1 else if dec (0 ≤ x ∧ x ≤ 4294967295) = false then 4 else if best zs x zs.length < 0 then 5 else 0
noncomputable def lnK (zs : List (Int × Int)) (x : Int) : Int := if lnC zs x = 0 then best zs x zs.length else 0

set_option maxHeartbeats 1000000 in
theorem specLongest_any (a : Option Addr) (len cap : Nat) (zs : List (Int × Int)) (x : Int) (w : World) (h : Prs w a zs) (hl : zs.length = len) (hlm : len ≤ 1048576) :
    Calls Tryd.prog 19 #[.slice a len cap, .int .i64 x] w fun e w' => e = .returned (.tuple #[.int .i64 (lnK zs x), .int .i64 (lnC zs x)]) ∧ Grw w w' := by
  subst hl
  by_cases hbig : 4096 < zs.length
  · have eC : lnC zs x = 2 := if_pos hbig
    have eK : lnK zs x = 0 := by unfold lnK; rw [eC]; rfl
    rw [eC, eK]
    clear eC eK
    go_enter Tryd.func19, Tryd.ntmps19
    go_wp2
    go_ret2
    exact ⟨rfl, Grw.refl w⟩
  obtain ⟨q, hq⟩ : ∃ q, q = dec (okTo zs zs.length ∧ zs.length ≤ 20) := ⟨_, rfl⟩
  obtain ⟨r, hr⟩ : ∃ r, r = dec (0 ≤ x ∧ x ≤ 4294967295) := ⟨_, rfl⟩
  have HN : Hid (∀ w, Prs w a zs → Calls Tryd.prog 56 #[.slice a zs.length cap] w fun e w' => e = .returned (.bool q) ∧ Grw w w') := fun w h => hq ▸ l05Nets_any a zs.length cap zs w h rfl (by omega)
  have HA : Hid (∀ w, Calls Tryd.prog 57 #[.int .i64 x] w fun e w' => e = .returned (.bool r) ∧ w' = w) := fun w => hr ▸ specIp_any x w
  have H : Hid (Prs w a zs) := h
  clear h
  cases q with
  | false =>
    have eC : lnC zs x = 1 := by unfold lnC; rw [if_neg hbig, ← hq]; rfl
    have eK : lnK zs x = 0 := by unfold lnK; rw [eC]; rfl
    rw [eC, eK]
    clear eC eK hq hr
    generalize zs.length = len at *
    go_enter Tryd.func19, Tryd.ntmps19
    go_wp2_with fail
    refine (HN.out _ H.out).mono ?_
    rintro e w1 ⟨rfl, b1⟩
    have G1 : Hid (Grw w w1) := b1
    clear b1
    go_wp2
    go_ret2
    exact ⟨rfl, G1.out⟩
  | true =>
    have hok := of_decide_eq_true hq.symm
    cases r with
    | false =>
      have eC : lnC zs x = 4 := by unfold lnC; rw [if_neg hbig, ← hq, ← hr]; rfl
      have eK : lnK zs x = 0 := by unfold lnK; rw [eC]; rfl
      rw [eC, eK]
      clear eC eK hq hr hok
      generalize zs.length = len at *
      go_enter Tryd.func19, Tryd.ntmps19
      go_wp2_with fail
      refine (HN.out _ H.out).mono ?_
      rintro e w1 ⟨rfl, b1⟩
      have G1 : Hid (Grw w w1) := b1
      clear b1
      go_wp2_with fail
      refine (HA.out _).mono ?_
      rintro e w2 ⟨rfl, hw⟩
      subst hw
      go_wp2
      go_ret2
      exact ⟨rfl, G1.out⟩
    | true =>
      have HL : Hid (∀ w, Prs w a zs → Calls Tryd.prog 58 #[.slice a zs.length cap, .int .i64 x] w fun e w' => e = .returned (.int .i64 (best zs x zs.length)) ∧ Grw w w') := fun w h => l05Longest_any a zs.length cap zs x w h rfl hok.2 hok.1
      have hbd := best_bd zs x zs.length
      by_cases hb : best zs x zs.length < 0
      · have eC : lnC zs x = 5 := by unfold lnC; rw [if_neg hbig, ← hq, ← hr, if_neg (by simp), if_neg (by simp), if_pos hb]
        have eK : lnK zs x = 0 := by unfold lnK; rw [eC]; rfl
        rw [eC, eK]
        clear eC eK hq hr hok
        generalize best zs x zs.length = p at HL hb hbd ⊢
        generalize zs.length = len at *
        go_enter Tryd.func19, Tryd.ntmps19
        go_wp2_with fail
        refine (HN.out _ H.out).mono ?_
        rintro e w1 ⟨rfl, b1⟩
        have G1 : Hid (Grw w w1) := b1
        clear b1
        go_wp2_with fail
        refine (HA.out _).mono ?_
        rintro e w2 ⟨rfl, hw⟩
        subst hw
        go_wp2_with fail
        refine (HL.out _ (H.out.keep G1.out.below)).mono ?_
        rintro e w3 ⟨rfl, b3⟩
        have G3 : Hid (Grw w w3) := G1.out.trans b3
        clear b3
        go_wp2
        go_ret2
        exact ⟨rfl, G3.out⟩
      · have eC : lnC zs x = 0 := by unfold lnC; rw [if_neg hbig, ← hq, ← hr, if_neg (by simp), if_neg (by simp), if_neg hb]
        have eK : lnK zs x = best zs x zs.length := by unfold lnK; rw [eC]; rfl
        rw [eC, eK]
        clear eC eK hq hr hok
        generalize best zs x zs.length = p at HL hb hbd ⊢
        generalize zs.length = len at *
        go_enter Tryd.func19, Tryd.ntmps19
        go_wp2_with fail
        refine (HN.out _ H.out).mono ?_
        rintro e w1 ⟨rfl, b1⟩
        have G1 : Hid (Grw w w1) := b1
        clear b1
        go_wp2_with fail
        refine (HA.out _).mono ?_
        rintro e w2 ⟨rfl, hw⟩
        subst hw
        go_wp2_with fail
        refine (HL.out _ (H.out.keep G1.out.below)).mono ?_
        rintro e w3 ⟨rfl, b3⟩
        have G3 : Hid (Grw w w3) := G1.out.trans b3
        clear b3
        go_wp2
        go_ret2
        exact ⟨rfl, G3.out⟩

set_option maxHeartbeats 2000000 in
theorem implLongest_any (a : Option Addr) (len cap : Nat) (zs : List (Int × Int)) (x : Int) (w : World) (h : Prs w a zs) (hl : zs.length = len) :
    Calls Tryd.prog 18 #[.slice a len cap, .int .i64 x] w fun e w' => e = .returned (.tuple #[.int .i64 (lnK zs x), .int .i64 (lnC zs x)]) ∧ Grw w w' := by
  subst hl
  by_cases hbig : 4096 < zs.length
  · have eC : lnC zs x = 2 := if_pos hbig
    have eK : lnK zs x = 0 := by unfold lnK; rw [eC]; rfl
    rw [eC, eK]
    clear eC eK
    go_enter Tryd.func18, Tryd.ntmps18
    go_wp2
    go_ret2
    exact ⟨rfl, Grw.refl w⟩
  obtain ⟨q, hq⟩ : ∃ q, q = dec (okTo zs zs.length ∧ zs.length ≤ 20) := ⟨_, rfl⟩
  obtain ⟨r, hr⟩ : ∃ r, r = dec (0 ≤ x ∧ x ≤ 4294967295) := ⟨_, rfl⟩
  have HN : Hid (∀ w, Prs w a zs → Calls Tryd.prog 54 #[.slice a zs.length cap] w fun e w' => e = .returned (.bool q) ∧ Grw w w') := fun w h => hq ▸ netsOK_any a zs.length cap zs w h rfl
  have HA : Hid (∀ w, Calls Tryd.prog 43 #[.int .i64 x] w fun e w' => e = .returned (.bool r) ∧ w' = w) := fun w => hr ▸ addressOK_any x w
  have H : Hid (Prs w a zs) := h
  clear h
  cases q with
  | false =>
    have eC : lnC zs x = 1 := by unfold lnC; rw [if_neg hbig, ← hq]; rfl
    have eK : lnK zs x = 0 := by unfold lnK; rw [eC]; rfl
    rw [eC, eK]
    clear eC eK hq hr
    generalize zs.length = len at *
    go_enter Tryd.func18, Tryd.ntmps18
    go_wp2_with fail
    refine (HN.out _ H.out).mono ?_
    rintro e w1 ⟨rfl, b1⟩
    have G1 : Hid (Grw w w1) := b1
    clear b1
    go_wp2
    go_ret2
    exact ⟨rfl, G1.out⟩
  | true =>
    have hok := of_decide_eq_true hq.symm
    cases r with
    | false =>
      have eC : lnC zs x = 4 := by unfold lnC; rw [if_neg hbig, ← hq, ← hr]; rfl
      have eK : lnK zs x = 0 := by unfold lnK; rw [eC]; rfl
      rw [eC, eK]
      clear eC eK hq hr hok
      generalize zs.length = len at *
      go_enter Tryd.func18, Tryd.ntmps18
      go_wp2_with fail
      refine (HN.out _ H.out).mono ?_
      rintro e w1 ⟨rfl, b1⟩
      have G1 : Hid (Grw w w1) := b1
      clear b1
      go_wp2_with fail
      refine (HA.out _).mono ?_
      rintro e w2 ⟨rfl, hw⟩
      subst hw
      go_wp2
      go_ret2
      exact ⟨rfl, G1.out⟩
    | true =>
      have hx : 0 ≤ x ∧ x ≤ 4294967295 := of_decide_eq_true hr.symm
      have EC : Hid (lnC zs x = if best zs x zs.length < 0 then 5 else 0) := by show _ = _; unfold lnC; rw [if_neg hbig, ← hq, ← hr, if_neg (by simp), if_neg (by simp)]
      have EK : Hid (lnK zs x = if best zs x zs.length < 0 then 0 else best zs x zs.length) := by show _ = _; unfold lnK; rw [EC.out]; split <;> simp
      have HO : Hid (okTo zs zs.length) := hok.1
      have hmix : Tryd.prog.follows .mixedOrders = true := by kernel_rfl
      have h20 := hok.2
      clear hok hq hr
      obtain ⟨len, hlen⟩ : ∃ len, zs.length = len := ⟨_, rfl⟩
      rw [hlen] at hbig h20 HN HO EC EK ⊢
      go_enter Tryd.func18, Tryd.ntmps18
      go_wp2_with fail
      refine (HN.out _ H.out).mono ?_
      rintro e w1 ⟨rfl, b1⟩
      have G1 : Hid (Grw w w1) := b1
      clear b1
      go_wp2_with fail
      refine (HA.out _).mono ?_
      rintro e w2 ⟨rfl, hw⟩
      subst hw
      clear HN HA
      go_wp2
      go_loopw [6, 20] (fun p i wr => ∃ (k : Nat) (r : Int), k ≤ len ∧ i = .int .i64 k ∧ p = .int .i64 r ∧ Hid (r = best zs x k) ∧ Hid (Grw w wr)) (fun _ i _ => len - (intOf i).toNat)
      case atStart => exact ⟨0, -1, Nat.zero_le _, rfl, rfl, rfl, G1⟩
      case round =>
        obtain ⟨k, r, hk, rfl, rfl, HR, HG⟩ := hrel
        by_cases hlt : k < len
        · obtain ⟨b, off, rfl, hb, p0, p1⟩ := H.out.cells HG.out.below (k := k) (by omega)
          have hn := nB_yes (HO.out k hlt)
          obtain ⟨n1, e1⟩ := Int.eq_ofNat_of_zero_le hn.2.2.1
          have hn1 : n1 ≤ 32 := by omega
          have hha := has_around (zs.getD k (0, 0)).1 x n1 (by rw [← e1]; exact HO.out k hlt)
          rw [← e1] at hha
          have hbd := best_bd zs x k
          rw [← HR.out] at hbd
          have E1 : Hid (hB (zs.getD k (0, 0)).1 (zs.getD k (0, 0)).2 x = false → r = best zs x (k + 1)) := fun h => by rw [best_no h]; exact HR.out
          have E2 : Hid (hB (zs.getD k (0, 0)).1 (zs.getD k (0, 0)).2 x = true → (r < 0 ∨ (zs.getD r.toNat (0, 0)).2 < (zs.getD k (0, 0)).2) → (k : Int) = best zs x (k + 1)) := fun h h2 => by rw [best_yes h (by rw [← HR.out]; exact h2)]
          have E3 : Hid (0 ≤ r → ¬ (zs.getD r.toNat (0, 0)).2 < (zs.getD k (0, 0)).2 → r = best zs x (k + 1)) := fun h h2 => by rw [best_less (by rw [← HR.out]; exact h) (by rw [← HR.out]; exact h2)]; exact HR.out
          have hltz : (k : Int) < (len : Int) := by omega
          have hltr : r < (len : Int) := by omega
          have HC : Hid (∀ w, Calls Tryd.prog 55 #[.int .i64 x, .int .i64 n1] w fun e w' => e = .returned (.agg #[.int .i64 (x / netM n1 * netM n1), .int .i64 n1]) ∧ Grw w w') := fun w => netAround_any x n1 w hx.1 hx.2 hn1
          have he : ∀ w, (binOp .eql 47 (.agg #[.int .i64 (zs.getD k (0, 0)).1, .int .i64 n1]) (.agg #[.int .i64 (x / netM n1 * netM n1), .int .i64 n1])).run Tryd.prog w = .ok (.bool (hB (zs.getD k (0, 0)).1 (zs.getD k (0, 0)).2 x)) w := fun w => by rw [hha, e1]; exact eql_net _ _ _ _ w
          generalize x / netM n1 * netM n1 = xm at HC he
          have hwl : b < wr.heap.size := Nat.lt_of_lt_of_le hb HG.out.below.size
          have GA : Hid (∀ o, Grw w (wr.alloc o)) := fun o => HG.out.alloc o
          clear hn HR hha
          have k0 : ∀ (v u : Value) n os, (grow ((wr.alloc (.cells #[v, u] 47)).drewN n) os).cell? ⟨wr.heap.size, 0, none⟩ = some v := fun v u n os => cell_grown (by simp) (by simp) n os
          have k1 : ∀ (v u : Value) n os, (grow ((wr.alloc (.cells #[v, u] 47)).drewN n) os).cell? ⟨wr.heap.size, 1, none⟩ = some u := fun v u n os => cell_grown (by simp) (by simp) n os
          cases hq : hB (zs.getD k (0, 0)).1 (zs.getD k (0, 0)).2 x with
          | false =>
            have HE : Hid (r = best zs x (k + 1)) := E1.out hq
            rw [hq] at he
            rw [e1] at p1
            clear E1 E2 E3 hq e1
            generalize (zs.getD k (0, 0)).1 = x0 at p0 he
            go_wp2_with fail
            refine wp_region_quiet_grown (by assumption) (by kernel_rfl) ?_
            repeat (go_big_quiet_step (first | fail | (go_at_call 55; exact Calls.grown_of (HC.out _))))
            refine wpQuiet_nil ?_
            intro _ hw'
            obtain ⟨⟨nq, osq⟩, hw''⟩ := hw'
            subst hw''
            have HG2 : Hid (Grw w (grow ((wr.alloc (.cells #[.int .i64 x0, .int .i64 n1] 47)).drewN nq) osq)) := (GA.out _).trans ⟨nq, osq, rfl⟩
            clear p0 p1 HG k0 k1 GA he
            go_wp2
            go_roundw
            case rel => exact ⟨k + 1, _, by omega, by go_num, rfl, HE, HG2⟩
            case measure => simp [intOf]; omega
          | true =>
            rw [hq] at he
            by_cases hr : r < 0
            · have HE : Hid ((k : Int) = best zs x (k + 1)) := E2.out hq (Or.inl hr)
              rw [e1] at p1
              clear E1 E2 E3 hq e1
              generalize (zs.getD k (0, 0)).1 = x0 at p0 he
              go_wp2_with fail
              refine wp_region_quiet_grown (by assumption) (by kernel_rfl) ?_
              repeat (go_big_quiet_step (first | fail | (go_at_call 55; exact Calls.grown_of (HC.out _))))
              refine wpQuiet_nil ?_
              intro _ hw'
              obtain ⟨⟨nq, osq⟩, hw''⟩ := hw'
              subst hw''
              have HG2 : Hid (Grw w (grow ((wr.alloc (.cells #[.int .i64 x0, .int .i64 n1] 47)).drewN nq) osq)) := (GA.out _).trans ⟨nq, osq, rfl⟩
              clear p0 p1 HG k0 k1 GA he
              go_wp2
              go_roundw
              case rel => exact ⟨k + 1, _, by omega, by go_num, rfl, HE, HG2⟩
              case measure => simp [intOf]; omega
            · obtain ⟨j, rfl⟩ := Int.eq_ofNat_of_zero_le (by omega : 0 ≤ r)
              rw [Int.toNat_natCast] at E2 E3
              obtain ⟨b2, off2, e2, _, p2, p3⟩ := H.out.cells HG.out.below (k := j) (by omega)
              cases e2
              have hj0 : decide ((j : Int) < 0) = false := by simp
              have q3 : ∀ (v u : Value) n os, (grow ((wr.alloc (.cells #[v, u] 47)).drewN n) os).cell? ⟨b, off + j * 2 + 1, none⟩ = some (.int .i64 (zs.getD j (0, 0)).2) := fun v u n os => cell_grown (by simp; omega) (by rw [World.cell?_alloc_lt _ _ _ (by exact hwl)]; exact p3) n os
              by_cases hlt3 : (zs.getD j (0, 0)).2 < (zs.getD k (0, 0)).2
              · have HE : Hid ((k : Int) = best zs x (k + 1)) := E2.out hq (Or.inr hlt3)
                rw [e1] at p1 hlt3
                clear E1 E2 E3 hq p2 p3 e1
                generalize (zs.getD k (0, 0)).1 = x0 at p0 he
                generalize (zs.getD j (0, 0)).2 = x3 at q3 hlt3
                go_wp2_with fail
                refine wp_region_quiet_grown (by assumption) (by kernel_rfl) ?_
                repeat (go_big_quiet_step (first | fail | (go_at_call 55; exact Calls.grown_of (HC.out _))))
                refine wpQuiet_nil ?_
                intro _ hw'
                obtain ⟨⟨nq, osq⟩, hw''⟩ := hw'
                subst hw''
                have HG2 : Hid (Grw w (grow ((wr.alloc (.cells #[.int .i64 x0, .int .i64 n1] 47)).drewN nq) osq)) := (GA.out _).trans ⟨nq, osq, rfl⟩
                clear p0 p1 HG k0 k1 q3 GA he
                go_wp2
                go_roundw
                case rel => exact ⟨k + 1, _, by omega, by go_num, rfl, HE, HG2⟩
                case measure => simp [intOf]; omega
              · have HE : Hid ((j : Int) = best zs x (k + 1)) := E3.out (by omega) hlt3
                rw [e1] at p1 hlt3
                clear E1 E2 E3 hq p2 p3 e1
                generalize (zs.getD k (0, 0)).1 = x0 at p0 he
                generalize (zs.getD j (0, 0)).2 = x3 at q3 hlt3
                go_wp2_with fail
                refine wp_region_quiet_grown (by assumption) (by kernel_rfl) ?_
                repeat (go_big_quiet_step (first | fail | (go_at_call 55; exact Calls.grown_of (HC.out _))))
                refine wpQuiet_nil ?_
                intro _ hw'
                obtain ⟨⟨nq, osq⟩, hw''⟩ := hw'
                subst hw''
                have HG2 : Hid (Grw w (grow ((wr.alloc (.cells #[.int .i64 x0, .int .i64 n1] 47)).drewN nq) osq)) := (GA.out _).trans ⟨nq, osq, rfl⟩
                clear p0 p1 HG k0 k1 q3 GA he
                go_wp2
                go_roundw
                case rel => exact ⟨k + 1, _, by omega, by go_num, rfl, HE, HG2⟩
                case measure => simp [intOf]; omega
        · obtain rfl : k = len := by omega
          by_cases hr : r < 0
          · have e1 : Hid (lnK zs x = 0) := by show _ = _; rw [EK.out, if_pos (by rw [← HR.out]; exact hr)]
            have e2 : Hid (lnC zs x = 5) := by show _ = _; rw [EC.out, if_pos (by rw [← HR.out]; exact hr)]
            go_wp2
            go_ret2
            exact ⟨by rw [e1.out, e2.out]; rfl, HG.out⟩
          · have e1 : Hid (lnK zs x = r) := by show _ = _; rw [EK.out, if_neg (by rw [← HR.out]; exact hr)]; exact HR.out.symm
            have e2 : Hid (lnC zs x = 0) := by show _ = _; rw [EC.out, if_neg (by rw [← HR.out]; exact hr)]
            go_wp2
            go_ret2
            exact ⟨by rw [e1.out, e2.out]; rfl, HG.out⟩
end Go.Proofs.YtbbjelkicenbhaaDoor
