/- The program's way through the options. -/
import Derived.Test.YtdhjbbnggeamhacRdr
namespace Go.Proofs.Ytdhjbbnggeamhac
open Go.RowKit Go.PlainAid
set_option linter.unusedVariables false
set_option maxRecDepth 20000

/-- The last kind that is told among n bytes of options, kd ahead of them; none if they are no options. -/
def dk : Nat → Nat → (Nat → Int) → Int → Option Int
  | 0, _, _, _ => none
  | fu + 1, n, g, kd =>
    if n = 0 then none
    else if g 0 = 255 then some kd
    else if g 0 = 0 then dk fu (n - 1) (fun j => g (1 + j)) kd
    else if n < 2 ∨ (n : Int) < 2 + g 1 then none
    else if g 0 = 53 then (if g 1 = 1 then dk fu (n - 3) (fun j => g (3 + j)) (g 2) else none)
    else dk fu (n - 2 - (g 1).toNat) (fun j => g (2 + (g 1).toNat + j)) kd

theorem dk_0 (fu : Nat) (g : Nat → Int) (kd : Int) : dk fu 0 g kd = none := by cases fu <;> simp [dk]
theorem dk_end (fu n : Nat) (g : Nat → Int) (kd : Int) (hn : 1 ≤ n) (h : g 0 = 255) : dk (fu + 1) n g kd = some kd := by
  rw [dk, if_neg (by omega), if_pos h]
theorem dk_nought (fu n : Nat) (g : Nat → Int) (kd : Int) (hn : 1 ≤ n) (h : g 0 = 0) : dk (fu + 1) n g kd = dk fu (n - 1) (fun j => g (1 + j)) kd := by
  rw [dk, if_neg (by omega), if_neg (by omega), if_pos h]
theorem dk_short (fu n : Nat) (g : Nat → Int) (kd : Int) (h0 : g 0 ≠ 0) (h255 : g 0 ≠ 255) (h : n < 2 ∨ (n : Int) < 2 + g 1) : dk (fu + 1) n g kd = none := by
  by_cases hn : n = 0
  · subst hn; exact dk_0 _ _ _
  · rw [dk, if_neg hn, if_neg h255, if_neg h0, if_pos h]
theorem dk_kind (fu n : Nat) (g : Nat → Int) (kd : Int) (hn : 3 ≤ n) (h : g 0 = 53) (h1 : g 1 = 1) : dk (fu + 1) n g kd = dk fu (n - 3) (fun j => g (3 + j)) (g 2) := by
  rw [dk, if_neg (by omega), if_neg (by omega), if_neg (by omega), if_neg (by omega), if_pos h, if_pos h1]
theorem dk_bad (fu n : Nat) (g : Nat → Int) (kd : Int) (h : g 0 = 53) (h1 : g 1 ≠ 1) : dk (fu + 1) n g kd = none := by
  by_cases hn : n = 0
  · subst hn; exact dk_0 _ _ _
  · by_cases hs : n < 2 ∨ (n : Int) < 2 + g 1
    · rw [dk, if_neg hn, if_neg (by omega), if_neg (by omega), if_pos hs]
    · rw [dk, if_neg hn, if_neg (by omega), if_neg (by omega), if_neg hs, if_pos h, if_neg h1]
theorem dk_other (fu n : Nat) (g : Nat → Int) (kd : Int) (sz : Nat) (hz : (sz : Int) = g 1) (hn : 2 + sz ≤ n) (h0 : g 0 ≠ 0) (h255 : g 0 ≠ 255) (h53 : g 0 ≠ 53) : dk (fu + 1) n g kd = dk fu (n - 2 - sz) (fun j => g (2 + sz + j)) kd := by
  have e : (g 1).toNat = sz := by omega
  rw [dk, if_neg (by omega), if_neg h255, if_neg h0, if_neg (by omega), if_neg h53, e]

def mz (q : Nat) (w : World) : Nat :=
  match w.cell? ⟨q, 1, none⟩, w.cell? ⟨q, 0, none⟩ with
  | some (.bool false), some (.slice _ m _) => m + 1
  | _, _ => 0
theorem RS.mz_n {w : World} {q n : Nat} {g : Nat → Int} (h : RS w q n g false) : mz q w = n + 1 := by
  obtain ⟨b, off, c, h0, -⟩ := h.row
  unfold mz
  rw [h.flag, h0]
theorem RS.mz_s {w : World} {q n : Nat} {g : Nat → Int} (h : RS w q n g true) : mz q w = 0 := by
  unfold mz
  rw [h.flag]
theorem RS.bd {w : World} {q n : Nat} {g : Nat → Int} {sh : Bool} (h : RS w q n g sh) (k : Nat) : 0 ≤ g k ∧ g k ≤ 255 := by
  obtain ⟨b, off, c, -, -, -, hB, -⟩ := h.row
  exact hB.1 k

/-- What the way through the options leaves. -/
def LkPost (q : Nat) (w : World) (R : Option Int) (e : Ending) (w' : World) : Prop :=
  ∃ (kd : Int) (n : Nat) (g : Nat → Int) (sh : Bool), e = .returned (.int .i64 kd) ∧ RS w' q n g sh ∧ Only q w w' ∧ (sh = true → R = none) ∧ (sh = false → R = some kd ∨ (R = none ∧ kd = 0))

set_option maxHeartbeats 4000000 in
theorem leaseKind_any (w : World) (q n fu : Nat) (g : Nat → Int) (h : RS w q n g false) (hfu : n < fu) (hn : n ≤ 1000000) :
    Calls Try.prog 12 #[.pointer (some ⟨q, 0, none⟩)] w fun e w' => LkPost q w (dk fu n g 0) e w' := by
  obtain ⟨R, hR⟩ : ∃ R, R = dk fu n g 0 := ⟨_, rfl⟩
  rw [← hR]
  have H : Hid (RS w q n g false ∧ dk fu n g 0 = R) := ⟨h, hR.symm⟩
  clear h hR
  go_enter Try.func12, Try.ntmps12
  go_wp2
  apply wp_scope_straight
  go_wp2
  apply wp_label
  go_wp2
  go_loopw [3] (fun kv wr => ∃ (k : Int) (n' : Nat) (g' : Nat → Int) (sh : Bool) (fu' : Nat), kv = .int .i64 k ∧ RS wr q n' g' sh ∧ Only q w wr ∧ n' < fu' ∧ n' ≤ n ∧ (sh = true → R = none) ∧ (sh = false → dk fu' n' g' k = R)) (fun _ wr => mz q wr)
  case atStart => exact ⟨0, n, g, false, fu, rfl, H.out.1, Only.refl _ _, hfu, Nat.le_refl _, (fun h => nomatch h), fun _ => H.out.2⟩
  case round =>
    obtain ⟨k, m, u, sh, fv, rfl, hrs, honly, hfv, hmn, hS, hD⟩ := hrel
    cases sh
    · have X : Hid (RS wr q m u false ∧ Only q w wr ∧ dk fv m u k = R) := ⟨hrs, honly, hD rfl⟩
      have hfl := hrs.flag
      obtain ⟨fx, rfl⟩ : ∃ fx, fv = fx + 1 := ⟨fv - 1, by omega⟩
      clear hrs honly hS hD
      by_cases hm0 : m = 0
      · subst hm0
        have HR : Hid (R = none) := by show R = none; rw [← X.out.2.2]; exact dk_0 _ _ _
        go_wp2_with fail
        refine (number_none wr q 0 u false X.out.1 (.inr rfl)).mono ?_
        rintro e w1 ⟨rfl, r1, o1⟩
        have Y : Hid (RS w1 q 0 u true ∧ Only q w w1) := ⟨r1, X.out.2.1.trans o1⟩
        clear r1 o1
        go_wp2
        go_roundw
        case rel => exact ⟨k, 0, u, true, 1, rfl, Y.out.1, Y.out.2, by omega, by omega, fun _ => HR.out, (fun h => nomatch h)⟩
        case measure => rw [Y.out.1.mz_s, X.out.1.mz_n]; omega
      · obtain ⟨c, hc⟩ : ∃ c, c = u 0 := ⟨_, rfl⟩
        have hcb := X.out.1.bd 0
        rw [← hc] at hcb
        have HC : Hid (c = u 0) := hc
        have HN : Hid (Calls Try.prog 19 #[.pointer (some ⟨q, 0, none⟩), .int .i64 1] wr fun e w' => e = .returned (.int .i64 c) ∧ RS w' q (m - 1) (fun j => u (1 + j)) false ∧ Only q wr w') := by
          show Calls _ _ _ _ _
          rw [hc]; exact number_some wr q m u X.out.1 (by omega)
        clear hc
        by_cases c0 : c = 0
        · have HR : Hid (dk fx (m - 1) (fun j => u (1 + j)) k = R) := by show _ = _; rw [← X.out.2.2]; exact (dk_nought fx m u k (by omega) (by rw [← HC.out]; exact c0)).symm
          subst c0
          go_wp2_with fail
          refine HN.out.mono ?_
          rintro e w1 ⟨rfl, r1, o1⟩
          have Y : Hid (RS w1 q (m - 1) (fun j => u (1 + j)) false ∧ Only q w w1) := ⟨r1, X.out.2.1.trans o1⟩
          clear r1 o1
          go_wp2
          go_roundw
          case rel => exact ⟨k, m - 1, _, false, fx, rfl, Y.out.1, Y.out.2, by omega, by omega, (fun h => nomatch h), fun _ => HR.out⟩
          case measure => rw [Y.out.1.mz_n, X.out.1.mz_n]; omega
        · have b0 : (c == 0) = false := beq_eq_false_iff_ne.2 c0
          have C0 : Hid (c ≠ 0) := c0
          clear c0
          by_cases c255 : c = 255
          · have HR : Hid (R = some k) := by show R = _; rw [← X.out.2.2]; exact dk_end fx m u k (by omega) (by rw [← HC.out]; exact c255)
            subst c255
            go_wp2_with fail
            refine HN.out.mono ?_
            rintro e w1 ⟨rfl, r1, o1⟩
            have Y : Hid (RS w1 q (m - 1) (fun j => u (1 + j)) false ∧ Only q w w1) := ⟨r1, X.out.2.1.trans o1⟩
            clear r1 o1
            go_wp2
            go_ret
            exact ⟨k, m - 1, _, false, rfl, Y.out.1, Y.out.2, (fun h => nomatch h), fun _ => .inl HR.out⟩
          · have b255 : (c == 255) = false := beq_eq_false_iff_ne.2 c255
            have C255 : Hid (c ≠ 255) := c255
            clear c255
            obtain ⟨v, hv⟩ : ∃ v, v = u 1 := ⟨_, rfl⟩
            have hvb := X.out.1.bd 1
            rw [← hv] at hvb
            have HV : Hid (v = u 1) := hv
            clear hv
            by_cases c53 : c = 53
            · have C53 : Hid (u 0 = 53) := by show u 0 = 53; rw [← HC.out]; exact c53
              subst c53
              by_cases hm1 : m = 1
              · have HR : Hid (R = none) := by show R = none; rw [← X.out.2.2]; exact dk_short fx m u k (by rw [C53.out]; omega) (by rw [C53.out]; omega) (.inl (by omega))
                subst hm1
                go_wp2_with fail
                refine HN.out.mono ?_
                rintro e w1 ⟨rfl, r1, o1⟩
                have Y : Hid (RS w1 q 0 (fun j => u (1 + j)) false ∧ Only q w w1) := ⟨r1, X.out.2.1.trans o1⟩
                clear r1 o1
                go_wp2_with fail
                refine (number_none w1 q 0 _ false Y.out.1 (.inr rfl)).mono ?_
                rintro e w2 ⟨rfl, r1, o1⟩
                have Z : Hid (RS w2 q 0 (fun j => u (1 + j)) true ∧ Only q w w2) := ⟨r1, Y.out.2.trans o1⟩
                clear r1 o1
                go_wp2
                go_ret
                exact ⟨0, 0, _, true, rfl, Z.out.1, Z.out.2, fun _ => HR.out, (fun h => nomatch h)⟩
              · have HN1 : Hid (∀ w1, RS w1 q (m - 1) (fun j => u (1 + j)) false → Calls Try.prog 19 #[.pointer (some ⟨q, 0, none⟩), .int .i64 1] w1 fun e w' => e = .returned (.int .i64 v) ∧ RS w' q (m - 2) (fun j => u (2 + j)) false ∧ Only q w1 w') := by
                  intro w1 hr
                  rw [HV.out]
                  exact (number_some w1 q (m - 1) _ hr (by omega)).mono fun e w' hh => ⟨hh.1, by rw [show m - 2 = m - 1 - 1 by omega]; exact hh.2.1.view (by funext j; show u (1 + (1 + j)) = u (2 + j); congr 1; omega), hh.2.2⟩
                by_cases v1 : v = 1
                · have V1 : Hid (u 1 = 1) := by show u 1 = 1; rw [← HV.out]; exact v1
                  subst v1
                  by_cases hm2 : m = 2
                  · have HR : Hid (R = none) := by show R = none; rw [← X.out.2.2]; exact dk_short fx m u k (by rw [C53.out]; omega) (by rw [C53.out]; omega) (.inr (by rw [V1.out]; omega))
                    subst hm2
                    go_wp2_with fail
                    refine HN.out.mono ?_
                    rintro e w1 ⟨rfl, r1, o1⟩
                    have Y : Hid (RS w1 q 1 (fun j => u (1 + j)) false ∧ Only q w w1) := ⟨r1, X.out.2.1.trans o1⟩
                    clear r1 o1
                    go_wp2_with fail
                    refine (HN1.out w1 Y.out.1).mono ?_
                    rintro e w2 ⟨rfl, r1, o1⟩
                    have Z : Hid (RS w2 q 0 (fun j => u (2 + j)) false ∧ Only q w w2) := ⟨r1, Y.out.2.trans o1⟩
                    clear r1 o1
                    go_wp2_with fail
                    refine (number_none w2 q 0 _ false Z.out.1 (.inr rfl)).mono ?_
                    rintro e w3 ⟨rfl, r1, o1⟩
                    have T : Hid (RS w3 q 0 (fun j => u (2 + j)) true ∧ Only q w w3) := ⟨r1, Z.out.2.trans o1⟩
                    clear r1 o1
                    go_wp2
                    go_roundw
                    case rel => exact ⟨0, 0, _, true, 1, rfl, T.out.1, T.out.2, by omega, by omega, fun _ => HR.out, (fun h => nomatch h)⟩
                    case measure => rw [T.out.1.mz_s, X.out.1.mz_n]; omega
                  · obtain ⟨k2, hk2⟩ : ∃ k2, k2 = u 2 := ⟨_, rfl⟩
                    have HR : Hid (dk fx (m - 3) (fun j => u (3 + j)) k2 = R) := by show _ = _; rw [← X.out.2.2, hk2]; exact (dk_kind fx m u k (by omega) C53.out V1.out).symm
                    have HN2 : Hid (∀ w1, RS w1 q (m - 2) (fun j => u (2 + j)) false → Calls Try.prog 19 #[.pointer (some ⟨q, 0, none⟩), .int .i64 1] w1 fun e w' => e = .returned (.int .i64 k2) ∧ RS w' q (m - 3) (fun j => u (3 + j)) false ∧ Only q w1 w') := by
                      intro w1 hr
                      rw [hk2]
                      exact (number_some w1 q (m - 2) _ hr (by omega)).mono fun e w' hh => ⟨hh.1, by rw [show m - 3 = m - 2 - 1 by omega]; exact hh.2.1.view (by funext j; show u (2 + (1 + j)) = u (3 + j); congr 1; omega), hh.2.2⟩
                    clear hk2
                    go_wp2_with fail
                    refine HN.out.mono ?_
                    rintro e w1 ⟨rfl, r1, o1⟩
                    have Y : Hid (RS w1 q (m - 1) (fun j => u (1 + j)) false ∧ Only q w w1) := ⟨r1, X.out.2.1.trans o1⟩
                    clear r1 o1
                    go_wp2_with fail
                    refine (HN1.out w1 Y.out.1).mono ?_
                    rintro e w2 ⟨rfl, r1, o1⟩
                    have Z : Hid (RS w2 q (m - 2) (fun j => u (2 + j)) false ∧ Only q w w2) := ⟨r1, Y.out.2.trans o1⟩
                    clear r1 o1
                    go_wp2_with fail
                    refine (HN2.out w2 Z.out.1).mono ?_
                    rintro e w3 ⟨rfl, r1, o1⟩
                    have T : Hid (RS w3 q (m - 3) (fun j => u (3 + j)) false ∧ Only q w w3) := ⟨r1, Z.out.2.trans o1⟩
                    clear r1 o1
                    go_wp2
                    go_roundw
                    case rel => exact ⟨k2, m - 3, _, false, fx, rfl, T.out.1, T.out.2, by omega, by omega, (fun h => nomatch h), fun _ => HR.out⟩
                    case measure => rw [T.out.1.mz_n, X.out.1.mz_n]; omega
                · have n1 : (v != 1) = true := by simpa using v1
                  have HR : Hid (R = none) := by show R = none; rw [← X.out.2.2]; exact dk_bad fx m u k C53.out (by rw [← HV.out]; exact v1)
                  clear v1
                  go_wp2_with fail
                  refine HN.out.mono ?_
                  rintro e w1 ⟨rfl, r1, o1⟩
                  have Y : Hid (RS w1 q (m - 1) (fun j => u (1 + j)) false ∧ Only q w w1) := ⟨r1, X.out.2.1.trans o1⟩
                  clear r1 o1
                  go_wp2_with fail
                  refine (HN1.out w1 Y.out.1).mono ?_
                  rintro e w2 ⟨rfl, r1, o1⟩
                  have Z : Hid (RS w2 q (m - 2) (fun j => u (2 + j)) false ∧ Only q w w2) := ⟨r1, Y.out.2.trans o1⟩
                  clear r1 o1
                  go_wp2
                  go_ret
                  exact ⟨0, m - 2, _, false, rfl, Z.out.1, Z.out.2, (fun h => nomatch h), fun _ => .inr ⟨HR.out, rfl⟩⟩
            · have b53 : (c == 53) = false := beq_eq_false_iff_ne.2 c53
              have C53 : Hid (c ≠ 53) := c53
              clear c53
              by_cases hm1 : m = 1
              · have HR : Hid (R = none) := by show R = none; rw [← X.out.2.2]; exact dk_short fx m u k (by rw [← HC.out]; exact C0.out) (by rw [← HC.out]; exact C255.out) (.inl (by omega))
                subst hm1
                go_wp2_with fail
                refine HN.out.mono ?_
                rintro e w1 ⟨rfl, r1, o1⟩
                have Y : Hid (RS w1 q 0 (fun j => u (1 + j)) false ∧ Only q w w1) := ⟨r1, X.out.2.1.trans o1⟩
                clear r1 o1
                go_wp2_with fail
                refine (number_none w1 q 0 _ false Y.out.1 (.inr rfl)).mono ?_
                rintro e w2 ⟨rfl, r1, o1⟩
                have Z : Hid (RS w2 q 0 (fun j => u (1 + j)) true ∧ Only q w w2) := ⟨r1, Y.out.2.trans o1⟩
                clear r1 o1
                go_wp2_with fail
                refine (take_short w2 q 0 0 _ Z.out.1 (by omega)).mono ?_
                rintro e w3 ⟨rfl, r1, o1⟩
                have T : Hid (RS w3 q 0 (fun j => u (1 + j)) true ∧ Only q w w3) := ⟨r1, Z.out.2.trans o1⟩
                clear r1 o1
                go_wp2
                go_roundw
                case rel => exact ⟨k, 0, _, true, 1, rfl, T.out.1, T.out.2, by omega, by omega, fun _ => HR.out, (fun h => nomatch h)⟩
                case measure => rw [T.out.1.mz_s, X.out.1.mz_n]; omega
              · obtain ⟨sz, hsz⟩ : ∃ sz : Nat, (sz : Int) = v := ⟨v.toNat, by omega⟩
                have HZ : Hid ((sz : Int) = u 1) := by show _ = _; rw [hsz, HV.out]
                have HN1 : Hid (∀ w1, RS w1 q (m - 1) (fun j => u (1 + j)) false → Calls Try.prog 19 #[.pointer (some ⟨q, 0, none⟩), .int .i64 1] w1 fun e w' => e = .returned (.int .i64 (sz : Int)) ∧ RS w' q (m - 2) (fun j => u (2 + j)) false ∧ Only q w1 w') := by
                  intro w1 hr
                  rw [hsz, HV.out]
                  exact (number_some w1 q (m - 1) _ hr (by omega)).mono fun e w' hh => ⟨hh.1, by rw [show m - 2 = m - 1 - 1 by omega]; exact hh.2.1.view (by funext j; show u (1 + (1 + j)) = u (2 + j); congr 1; omega), hh.2.2⟩
                by_cases hfit : 2 + sz ≤ m
                · have HR : Hid (dk fx (m - 2 - sz) (fun j => u (2 + sz + j)) k = R) := by show _ = _; rw [← X.out.2.2]; exact (dk_other fx m u k sz HZ.out hfit (by rw [← HC.out]; exact C0.out) (by rw [← HC.out]; exact C255.out) (by rw [← HC.out]; exact C53.out)).symm
                  clear hsz
                  go_wp2_with fail
                  refine HN.out.mono ?_
                  rintro e w1 ⟨rfl, r1, o1⟩
                  have Y : Hid (RS w1 q (m - 1) (fun j => u (1 + j)) false ∧ Only q w w1) := ⟨r1, X.out.2.1.trans o1⟩
                  clear r1 o1
                  go_wp2_with fail
                  refine (HN1.out w1 Y.out.1).mono ?_
                  rintro e w2 ⟨rfl, r1, o1⟩
                  have Z : Hid (RS w2 q (m - 2) (fun j => u (2 + j)) false ∧ Only q w w2) := ⟨r1, Y.out.2.trans o1⟩
                  clear r1 o1
                  go_wp2_with fail
                  refine (take_some w2 q (m - 2) sz _ Z.out.1 (by omega)).mono ?_
                  rintro e w3 ⟨a3, rfl, -, r1, o1⟩
                  have T : Hid (RS w3 q (m - 2 - sz) (fun j => u (2 + sz + j)) false ∧ Only q w w3) := ⟨r1.view (by funext j; show u (2 + (sz + j)) = u (2 + sz + j); congr 1; omega), Z.out.2.trans o1⟩
                  clear r1 o1
                  go_wp2
                  go_roundw
                  case rel => exact ⟨k, m - 2 - sz, _, false, fx, rfl, T.out.1, T.out.2, by omega, by omega, (fun h => nomatch h), fun _ => HR.out⟩
                  case measure => rw [T.out.1.mz_n, X.out.1.mz_n]; omega
                · have HR : Hid (R = none) := by show R = none; rw [← X.out.2.2]; exact dk_short fx m u k (by rw [← HC.out]; exact C0.out) (by rw [← HC.out]; exact C255.out) (.inr (by rw [← HZ.out]; omega))
                  have hszb : sz ≤ 255 := by omega
                  clear hsz
                  go_wp2_with fail
                  refine HN.out.mono ?_
                  rintro e w1 ⟨rfl, r1, o1⟩
                  have Y : Hid (RS w1 q (m - 1) (fun j => u (1 + j)) false ∧ Only q w w1) := ⟨r1, X.out.2.1.trans o1⟩
                  clear r1 o1
                  go_wp2_with fail
                  refine (HN1.out w1 Y.out.1).mono ?_
                  rintro e w2 ⟨rfl, r1, o1⟩
                  have Z : Hid (RS w2 q (m - 2) (fun j => u (2 + j)) false ∧ Only q w w2) := ⟨r1, Y.out.2.trans o1⟩
                  clear r1 o1
                  go_wp2_with fail
                  refine (take_none w2 q (m - 2) sz _ Z.out.1 (by omega) (by omega)).mono ?_
                  rintro e w3 ⟨rfl, r1, o1⟩
                  have T : Hid (RS w3 q (m - 2) (fun j => u (2 + j)) true ∧ Only q w w3) := ⟨r1, Z.out.2.trans o1⟩
                  clear r1 o1
                  go_wp2
                  go_roundw
                  case rel => exact ⟨k, m - 2, _, true, fx, rfl, T.out.1, T.out.2, by omega, by omega, fun _ => HR.out, (fun h => nomatch h)⟩
                  case measure => rw [T.out.1.mz_s, X.out.1.mz_n]; omega
    · have X : Hid (RS wr q m u true ∧ Only q w wr ∧ R = none) := ⟨hrs, honly, hS rfl⟩
      have hfl := hrs.flag
      clear hrs honly hS hD
      go_wp2
      go_ret
      exact ⟨k, m, u, true, rfl, X.out.1, X.out.2.1, fun _ => X.out.2.2, (fun h => nomatch h)⟩
end Go.Proofs.Ytdhjbbnggeamhac
