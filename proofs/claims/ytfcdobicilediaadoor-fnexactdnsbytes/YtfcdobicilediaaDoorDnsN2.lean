/- DnsNameOK, the model; the walk of laws.FnExactDnsNameOK. -/
import Derived.Test.YtfcdobicilediaaDoorDnsN
namespace Go.Proofs.YtfcdobicilediaaDoor
open Go.RowKit Go.PlainAid
set_option linter.unusedVariables false
set_option maxRecDepth 20000

theorem specDnsIn (n lo hi : Int) (w : World) : Calls Tryd.prog 48 #[.int .i64 n, .int .i64 lo, .int .i64 hi] w fun e w' => e = .returned (.bool (decide (lo ≤ n) && decide (n ≤ hi))) ∧ w' = w := by
  by_cases h : lo ≤ n
  · go_enter Tryd.func48, Tryd.ntmps48
    go_wp2
    go_ret
    exact ⟨ret_bool (by simp [h]), rfl⟩
  · go_enter Tryd.func48, Tryd.ntmps48
    go_wp2
    go_ret
    exact ⟨ret_bool (by simp; omega), rfl⟩

set_option maxHeartbeats 2000000 in
theorem specDnsNameOK_any (s : ByteArray) (w : World) (hs : s.size ≤ 1048576) :
    Calls Tryd.prog 49 #[.string s] w fun e w' => e = .returned (.bool (dnB s)) ∧ Below w.heap.size w w' := by
  by_cases hl : 65536 < s.size
  · have HN : Hid (dnB s = false) := dn_no_len (by omega)
    go_enter Tryd.func49, Tryd.ntmps49
    go_wp2
    go_ret
    exact ⟨ret_bool HN.out.symm, Below.refl _ _⟩
  go_enter Tryd.func49, Tryd.ntmps49
  go_wp2_with fail
  refine (l00Cut_any s _ hs).mono ?_
  rintro e w1 ⟨g, c, ps, rfl, ho, hp, hb⟩
  obtain rfl := pcs_of s ps hp
  have X : Hid (StrAt w1 g s ∧ Below w.heap.size w w1) := ⟨OwnS.at ho, hb⟩
  clear ho hp hb
  obtain ⟨n, hn⟩ : ∃ n, n = (pcs s).length := ⟨_, rfl⟩
  have HNn : Hid (n = (pcs s).length) := hn
  by_cases h80 : 80 < s.size
  · have HN : Hid (dnB s = false) := dn_no_len h80
    rw [← hn]
    clear hn
    go_wp2
    go_ret
    exact ⟨ret_bool HN.out.symm, X.out.2⟩
  by_cases h8 : 8 < (pcs s).length
  · have HN : Hid (dnB s = false) := dn_no_many h8
    rw [← hn] at h8 ⊢
    clear hn
    have b1 : decide (80 < (s.size : Int)) = false := by simp; omega
    go_wp2
    go_ret
    exact ⟨ret_bool HN.out.symm, X.out.2⟩
  rw [← hn] at h8 ⊢
  clear hn
  have b1 : decide (80 < (s.size : Int)) = false := by simp; omega
  have b2 : decide (8 < (n : Int)) = false := by simp; omega
  go_wp2
  go_loop [4] (fun i => ∃ k : Nat, k ≤ n ∧ i = .int .i64 k ∧ ∀ j, j < k → labB (piece s j) = true) (fun i => n - (intOf i).toNat)
  case atStart => exact ⟨0, Nat.zero_le _, rfl, fun j hj => absurd hj (by omega)⟩
  case round =>
    obtain ⟨k, hk, rfl, hal⟩ := hrel
    have HA : Hid (∀ j, j < k → labB (piece s j) = true) := hal
    clear hal
    by_cases hlt : k < n
    · have hc := X.out.1 k (by rw [← HNn.out]; exact hlt)
      have hpz := piece_size s k
      obtain ⟨p, hpp⟩ : ∃ p, p = piece s k := ⟨_, rfl⟩
      rw [← hpp] at hc hpz
      have HP : Hid (p = piece s k) := hpp
      clear hpp
      have hb := get_bt p
      by_cases hz : 1 ≤ p.size ∧ p.size ≤ 20
      · obtain ⟨z1, z2⟩ := hz
        have HI : Hid (∀ wx : World, Calls Tryd.prog 48 #[.int .i64 (p.size : Int), .int .i64 1, .int .i64 20] wx fun e w' => e = .returned (.bool true) ∧ w' = wx) := fun wx => by
          have := specDnsIn (p.size : Int) 1 20 wx
          rwa [show (decide ((1 : Int) ≤ (p.size : Int)) && decide ((p.size : Int) ≤ 20)) = true by simp; omega] at this
        go_wp2_with fail
        refine (HI.out _).mono ?_
        rintro e w2 ⟨rfl, hw2⟩
        obtain rfl := hw2.symm
        clear hw2
        go_wp2
        go_loop [5] (fun i => ∃ q : Nat, q ≤ p.size ∧ i = .int .i64 q ∧ ∀ j, j < q → chB (bt p j) = true) (fun i => p.size - (intOf i).toNat)
        case atStart => exact ⟨0, Nat.zero_le _, rfl, fun j hj => absurd hj (by omega)⟩
        case round =>
          obtain ⟨q, hq, rfl, hcl⟩ := hrel
          have HC : Hid (∀ j, j < q → chB (bt p j) = true) := hcl
          clear hcl
          by_cases hqt : q < p.size
          · cases hl2 : letB (bt p q)
            · cases hg : digB (bt p q)
              · cases h45 : (bt p q == 45)
                · have HN : Hid (dnB s = false) := dn_no_at (by rw [← HNn.out]; exact hlt) (by rw [← HP.out]; exact lab_no_at hqt (by unfold chB; rw [hl2, hg, h45]; rfl))
                  have n45 : (bt p q != 45) = true := by rw [bne, h45]; rfl
                  go_wp2_with (first | (go_at_call 68; refine (l00Letter_any _ _).mono ?_; rintro e w' ⟨rfl, rfl⟩) | (go_at_call 69; refine (l00Digit_any _ _).mono ?_; rintro e w' ⟨rfl, rfl⟩))
                  go_ret
                  exact ⟨ret_bool HN.out.symm, X.out.2⟩
                · have HD : Hid (chB (bt p q) = true) := by show chB (bt p q) = true; unfold chB; rw [hl2, hg, h45]; rfl
                  have n45 : (bt p q != 45) = false := by rw [bne, h45]; rfl
                  go_wp2_with (first | (go_at_call 68; refine (l00Letter_any _ _).mono ?_; rintro e w' ⟨rfl, rfl⟩) | (go_at_call 69; refine (l00Digit_any _ _).mono ?_; rintro e w' ⟨rfl, rfl⟩))
                  go_round
                  case rel => exact ⟨q + 1, by omega, by go_num, ch_step HC.out HD.out⟩
                  case measure => simp [intOf]; omega
              · have HD : Hid (chB (bt p q) = true) := by show chB (bt p q) = true; unfold chB; rw [hl2, hg]; rfl
                go_wp2_with (first | (go_at_call 68; refine (l00Letter_any _ _).mono ?_; rintro e w' ⟨rfl, rfl⟩) | (go_at_call 69; refine (l00Digit_any _ _).mono ?_; rintro e w' ⟨rfl, rfl⟩))
                go_round
                case rel => exact ⟨q + 1, by omega, by go_num, ch_step HC.out HD.out⟩
                case measure => simp [intOf]; omega
            · have HD : Hid (chB (bt p q) = true) := by show chB (bt p q) = true; unfold chB; rw [hl2]; rfl
              go_wp2_with (first | (go_at_call 68; refine (l00Letter_any _ _).mono ?_; rintro e w' ⟨rfl, rfl⟩) | (go_at_call 69; refine (l00Digit_any _ _).mono ?_; rintro e w' ⟨rfl, rfl⟩))
              go_round
              case rel => exact ⟨q + 1, by omega, by go_num, ch_step HC.out HD.out⟩
              case measure => simp [intOf]; omega
          · obtain rfl : q = p.size := by omega
            go_wp2
            go_round
            case rel => exact ⟨k + 1, by omega, by go_num, lp_step HA.out (by rw [← HP.out]; exact lab_yes z1 z2 HC.out)⟩
            case measure => simp [intOf]; omega
      · have HN : Hid (dnB s = false) := dn_no_at (by rw [← HNn.out]; exact hlt) (by rw [← HP.out]; exact lab_no_len (by omega))
        have HI : Hid (∀ wx : World, Calls Tryd.prog 48 #[.int .i64 (p.size : Int), .int .i64 1, .int .i64 20] wx fun e w' => e = .returned (.bool false) ∧ w' = wx) := fun wx => by
          have := specDnsIn (p.size : Int) 1 20 wx
          rwa [show (decide ((1 : Int) ≤ (p.size : Int)) && decide ((p.size : Int) ≤ 20)) = false by simp; omega] at this
        clear hz
        go_wp2_with (go_at_call 48; refine (HI.out _).mono ?_; rintro e w' ⟨rfl, rfl⟩)
        go_ret
        exact ⟨ret_bool HN.out.symm, X.out.2⟩
    · obtain rfl : k = n := by omega
      have HY : Hid (dnB s = true) := dn_yes (by omega) (by rw [← HNn.out]; omega) (by rw [← HNn.out]; exact HA.out)
      go_wp2
      go_ret
      exact ⟨ret_bool HY.out.symm, X.out.2⟩

theorem keep_mx {w w' : World} {p : Addr} {v : Value} (h : w.cell? p = some v) (b : Below w.heap.size w w') : w'.cell? p = some v := by rw [b.cell (World.block_lt_of_cell? w _ h)]; exact h
end Go.Proofs.YtfcdobicilediaaDoor
