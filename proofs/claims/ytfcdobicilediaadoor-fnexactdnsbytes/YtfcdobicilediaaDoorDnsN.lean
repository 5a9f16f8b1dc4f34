/- DnsNameOK, the program's and the model's. -/
import Derived.Test.YtfcdobicilediaaDoorName
import Derived.Test.YtfcdobicilediaaDoorReadAddr2
namespace Go.Proofs.YtfcdobicilediaaDoor
open Go.RowKit Go.PlainAid
set_option linter.unusedVariables false
set_option maxRecDepth 20000

/-- A byte of a part; a part. -/
def chB (c : Int) : Bool := letB c || digB c || (c == 45)
def labB (p : ByteArray) : Bool := decide (1 ≤ p.size ∧ p.size ≤ 20 ∧ ∀ j, j < p.size → chB (bt p j) = true)
theorem lab_no_len {p : ByteArray} (h : p.size < 1 ∨ 20 < p.size) : labB p = false := by unfold labB; rw [decide_eq_false_iff_not]; omega
theorem lab_no_at {p : ByteArray} {k : Nat} (hk : k < p.size) (h : chB (bt p k) = false) : labB p = false := by
  unfold labB; rw [decide_eq_false_iff_not]; rintro ⟨_, _, h4⟩; have := h4 k hk; rw [h] at this; cases this
theorem lab_yes {p : ByteArray} (h0 : 1 ≤ p.size) (h1 : p.size ≤ 20) (h : ∀ j, j < p.size → chB (bt p j) = true) : labB p = true := by
  unfold labB; rw [decide_eq_true_iff]; exact ⟨h0, h1, h⟩
theorem ch_step {p : ByteArray} {k : Nat} (h : ∀ j, j < k → chB (bt p j) = true) (hk : chB (bt p k) = true) : ∀ j, j < k + 1 → chB (bt p j) = true := by
  intro j hj
  by_cases e : j = k
  · subst e; exact hk
  · exact h j (by omega)

set_option maxHeartbeats 1000000 in
theorem dnsPartOK_any (s : ByteArray) (w : World) (hs : s.size ≤ 1048576) :
    Calls Tryd.prog 54 #[.string s] w fun e w' => e = .returned (.bool (labB s)) ∧ w' = w := by
  have hb := get_bt s
  by_cases h1 : s.size < 1
  · have hz : s.size = 0 := by omega
    go_enter Tryd.func54, Tryd.ntmps54
    go_wp2
    go_ret
    exact ⟨ret_bool (lab_no_len (by omega)).symm, rfl⟩
  by_cases h20 : 20 < s.size
  · go_enter Tryd.func54, Tryd.ntmps54
    go_wp2
    go_ret
    exact ⟨ret_bool (lab_no_len (by omega)).symm, rfl⟩
  have b1 : decide ((s.size : Int) < 1) = false := by simp; omega
  have b2 : decide (20 < (s.size : Int)) = false := by simp; omega
  go_enter Tryd.func54, Tryd.ntmps54
  go_wp2
  go_loop [14] (fun i => ∃ k : Nat, k ≤ s.size ∧ i = .int .i64 k ∧ ∀ j, j < k → chB (bt s j) = true) (fun i => s.size - (intOf i).toNat)
  case atStart => exact ⟨0, Nat.zero_le _, rfl, fun j hj => absurd hj (by omega)⟩
  case round =>
    obtain ⟨k, hk, rfl, hall⟩ := hrel
    have HA : Hid (∀ j, j < k → chB (bt s j) = true) := hall
    clear hall
    by_cases hlt : k < s.size
    · cases hl : letB (bt s k)
      · cases hg : digB (bt s k)
        · cases h45 : (bt s k == 45)
          · have HC : Hid (chB (bt s k) = false) := by show chB (bt s k) = false; unfold chB; rw [hl, hg, h45]; rfl
            have n45 : (bt s k != 45) = true := by rw [bne, h45]; rfl
            go_wp2_with (first | (go_at_call 70; refine (isLetter_any _ _).mono ?_; rintro e w' ⟨rfl, rfl⟩) | (go_at_call 71; refine (isDigit_any _ _).mono ?_; rintro e w' ⟨rfl, rfl⟩))
            go_ret
            exact ⟨ret_bool (lab_no_at hlt HC.out).symm, rfl⟩
          · have HC : Hid (chB (bt s k) = true) := by show chB (bt s k) = true; unfold chB; rw [hl, hg, h45]; rfl
            have n45 : (bt s k != 45) = false := by rw [bne, h45]; rfl
            go_wp2_with (first | (go_at_call 70; refine (isLetter_any _ _).mono ?_; rintro e w' ⟨rfl, rfl⟩) | (go_at_call 71; refine (isDigit_any _ _).mono ?_; rintro e w' ⟨rfl, rfl⟩))
            go_round
            case rel => exact ⟨k + 1, by omega, by go_num, ch_step HA.out HC.out⟩
            case measure => simp [intOf]; omega
        · have HC : Hid (chB (bt s k) = true) := by show chB (bt s k) = true; unfold chB; rw [hl, hg]; rfl
          go_wp2_with (first | (go_at_call 70; refine (isLetter_any _ _).mono ?_; rintro e w' ⟨rfl, rfl⟩) | (go_at_call 71; refine (isDigit_any _ _).mono ?_; rintro e w' ⟨rfl, rfl⟩))
          go_round
          case rel => exact ⟨k + 1, by omega, by go_num, ch_step HA.out HC.out⟩
          case measure => simp [intOf]; omega
      · have HC : Hid (chB (bt s k) = true) := by show chB (bt s k) = true; unfold chB; rw [hl]; rfl
        go_wp2_with (first | (go_at_call 70; refine (isLetter_any _ _).mono ?_; rintro e w' ⟨rfl, rfl⟩) | (go_at_call 71; refine (isDigit_any _ _).mono ?_; rintro e w' ⟨rfl, rfl⟩))
        go_round
        case rel => exact ⟨k + 1, by omega, by go_num, ch_step HA.out HC.out⟩
        case measure => simp [intOf]; omega
    · obtain rfl : k = s.size := by omega
      go_wp2
      go_ret
      exact ⟨ret_bool (lab_yes (by omega) (by omega) HA.out).symm, rfl⟩

/-- How much the first k pieces have. -/
def szs (s : ByteArray) : Nat → Nat
  | 0 => 0
  | k + 1 => szs s k + (piece s k).size
theorem pc_ne (l : List UInt8) : pc l ≠ [] := by
  cases l with
  | nil => simp [pc]
  | cons c l => rw [pc]; split <;> (try split) <;> simp
theorem pcs_pos (s : ByteArray) : 1 ≤ (pcs s).length := by
  unfold pcs
  rw [List.length_map]
  have := pc_ne s.data.toList
  cases h : pc s.data.toList with
  | nil => exact absurd h this
  | cons p ps => simp
def tot (L : List (List UInt8)) : Nat := (L.map List.length).sum
theorem pc_tot : ∀ l : List UInt8, tot (pc l) + (pc l).length = l.length + 1
  | [] => by simp [pc, tot]
  | c :: l => by
    have ih := pc_tot l
    rw [pc]
    split
    · simp [tot] at ih ⊢; omega
    · split
      · rename_i p ps e
        rw [e] at ih
        simp [tot] at ih ⊢
        omega
      · rename_i e
        exact absurd e (pc_ne l)
theorem szs_list (L : List ByteArray) (f : Nat → ByteArray) (hf : ∀ i, i < L.length → f i = L.getD i ⟨#[]⟩) (z : Nat → Nat) (z0 : z 0 = 0) (zs : ∀ k, z (k + 1) = z k + (f k).size) : ∀ k, k ≤ L.length → z k = ((L.take k).map ByteArray.size).sum
  | 0, _ => by simp [z0]
  | k + 1, h => by
    rw [zs, szs_list L f hf z z0 zs k (by omega), hf k (by omega), List.take_add_one, List.map_append, List.sum_append, List.getD_eq_getElem?_getD, List.getElem?_eq_getElem (by omega)]
    simp
theorem szs_all (s : ByteArray) : szs s (pcs s).length + (pcs s).length = s.size + 1 := by
  have h := szs_list (pcs s) (piece s) (fun i _ => rfl) (szs s) rfl (fun _ => rfl) (pcs s).length (Nat.le_refl _)
  rw [List.take_length] at h
  have e : (pcs s).map ByteArray.size = (pc s.data.toList).map List.length := by
    unfold pcs
    rw [List.map_map]
    apply List.map_congr_left
    intro l _
    show l.toArray.size = l.length
    simp
  have h2 := pc_tot s.data.toList
  have h3 : s.data.toList.length = s.size := by rw [Array.length_toList]; rfl
  have h4 : (pcs s).length = (pc s.data.toList).length := by unfold pcs; simp
  rw [e] at h
  unfold tot at h2
  omega
theorem szs_le (s : ByteArray) (j : Nat) : ∀ k, szs s j ≤ szs s (j + k)
  | 0 => Nat.le_refl _
  | k + 1 => Nat.le_trans (szs_le s j k) (Nat.le_add_right _ _)

/-- Whether it is a name to ask for. -/
def dnB (s : ByteArray) : Bool := decide (s.size ≤ 80 ∧ (pcs s).length ≤ 8 ∧ ∀ j, j < (pcs s).length → labB (piece s j) = true)
theorem dn_no_len {s : ByteArray} (h : 80 < s.size) : dnB s = false := by unfold dnB; rw [decide_eq_false_iff_not]; omega
theorem dn_no_many {s : ByteArray} (h : 8 < (pcs s).length) : dnB s = false := by unfold dnB; rw [decide_eq_false_iff_not]; omega
theorem dn_no_at {s : ByteArray} {k : Nat} (hk : k < (pcs s).length) (h : labB (piece s k) = false) : dnB s = false := by
  unfold dnB; rw [decide_eq_false_iff_not]; rintro ⟨_, _, h4⟩; have := h4 k hk; rw [h] at this; cases this
theorem dn_yes {s : ByteArray} (h0 : s.size ≤ 80) (h1 : (pcs s).length ≤ 8) (h : ∀ j, j < (pcs s).length → labB (piece s j) = true) : dnB s = true := by
  unfold dnB; rw [decide_eq_true_iff]; exact ⟨h0, h1, h⟩
theorem lp_step {s : ByteArray} {k : Nat} (h : ∀ j, j < k → labB (piece s j) = true) (hk : labB (piece s k) = true) : ∀ j, j < k + 1 → labB (piece s j) = true := by
  intro j hj
  by_cases e : j = k
  · subst e; exact hk
  · exact h j (by omega)

set_option maxHeartbeats 1000000 in
theorem dnsPartsOK_any (s : ByteArray) (g c : Nat) (w : World) (hs : s.size ≤ 80) (h : StrAt w g s) :
    Calls Tryd.prog 30 #[.slice (some ⟨g, 0, none⟩) (pcs s).length c] w fun e w' => e = .returned (.bool (dnB s)) ∧ w' = w := by
  have hp := pcs_pos s
  have X : Hid (StrAt w g s) := h
  clear h
  have hall := szs_all s
  obtain ⟨n, hn⟩ : ∃ n, n = (pcs s).length := ⟨_, rfl⟩
  by_cases h8 : 8 < (pcs s).length
  · have HN : Hid (dnB s = false) := dn_no_many h8
    rw [← hn] at h8 hp hall ⊢
    clear hn
    go_enter Tryd.func30, Tryd.ntmps30
    go_wp2
    go_ret
    exact ⟨ret_bool HN.out.symm, rfl⟩
  have HNn : Hid (n = (pcs s).length) := hn
  rw [← hn] at h8 hp hall ⊢
  clear hn
  have b1 : decide ((n : Int) < 1) = false := by simp; omega
  have b2 : decide (8 < (n : Int)) = false := by simp; omega
  go_enter Tryd.func30, Tryd.ntmps30
  go_wp2
  go_loop [4, 21] (fun x i => ∃ k : Nat, k ≤ n ∧ i = .int .i64 k ∧ x = .int .i64 ((n : Int) - 1 + (szs s k : Int)) ∧ ∀ j, j < k → labB (piece s j) = true) (fun _ i => n - (intOf i).toNat)
  case atStart => exact ⟨0, Nat.zero_le _, rfl, by simp [szs], fun j hj => absurd hj (by omega)⟩
  case round =>
    obtain ⟨k, hk, rfl, rfl, hal⟩ := hrel
    have HA : Hid (∀ j, j < k → labB (piece s j) = true) := hal
    clear hal
    by_cases hlt : k < n
    · have hc := X.out k (by rw [← HNn.out]; exact hlt)
      have hpz := piece_size s k
      have zk : szs s (k + 1) = szs s k + (piece s k).size := rfl
      have zl : szs s (k + 1) ≤ szs s n := by have := szs_le s (k + 1) (n - (k + 1)); rwa [show k + 1 + (n - (k + 1)) = n by omega] at this
      obtain ⟨p, hpp⟩ : ∃ p, p = piece s k := ⟨_, rfl⟩
      rw [← hpp] at hc hpz zk
      have HP : Hid (p = piece s k) := hpp
      clear hpp
      obtain ⟨b, hb⟩ : ∃ b, b = labB p := ⟨_, rfl⟩
      have HB : Hid (b = labB p) := hb
      have HC : Hid (∀ wx : World, Calls Tryd.prog 54 #[.string p] wx fun e w' => e = .returned (.bool b) ∧ w' = wx) := fun wx => by rw [hb]; exact dnsPartOK_any p wx (by omega)
      obtain ⟨y, hy⟩ : ∃ y, y = szs s k := ⟨_, rfl⟩
      have HY : Hid (y = szs s k) := hy
      have hyb : y + p.size ≤ 81 := by omega
      rw [← hy]
      clear hb hall zl zk hy
      cases b
      · have HN : Hid (dnB s = false) := dn_no_at (by rw [← HNn.out]; exact hlt) (by rw [← HP.out]; exact HB.out.symm)
        go_wp2_with (go_at_call 54; refine (HC.out _).mono ?_; rintro e w' ⟨rfl, rfl⟩)
        go_ret
        exact ⟨ret_bool HN.out.symm, rfl⟩
      · go_wp2_with (go_at_call 54; refine (HC.out _).mono ?_; rintro e w' ⟨rfl, rfl⟩)
        go_round
        case rel => exact ⟨k + 1, by omega, by go_num, congrArg (Value.int .i64) (by show _ = (n : Int) - 1 + ((szs s k + (piece s k).size : Nat) : Int); rw [← HP.out, ← HY.out]; omega), lp_step HA.out (by rw [← HP.out]; exact HB.out.symm)⟩
        case measure => simp [intOf]; omega
    · obtain rfl : k = n := by omega
      have HY : Hid (dnB s = true) := dn_yes hs (by rw [← HNn.out]; omega) (by rw [← HNn.out]; exact HA.out)
      obtain ⟨y, hy⟩ : ∃ y, y = szs s k := ⟨_, rfl⟩
      rw [← hy] at hall ⊢
      have q : decide ((k : Int) - 1 + (y : Int) ≤ 80) = true := by simp; omega
      clear hy
      go_wp2
      go_ret
      exact ⟨ret_bool HY.out.symm, rfl⟩

set_option maxHeartbeats 1000000 in
theorem dnsNameOK_any (s : ByteArray) (m : Int) (w : World) (hs : s.size ≤ 1048576) (hm : w.cell? ⟨0, 0, none⟩ = some (.int .i64 m)) :
    Calls Tryd.prog 14 #[.string s] w fun e w' => e = .returned (.bool (dnB s)) ∧ Below w.heap.size w w' := by
  by_cases h80 : 80 < s.size
  · have HN : Hid (dnB s = false) := dn_no_len h80
    go_enter Tryd.func14, Tryd.ntmps14
    go_wp2
    go_ret
    exact ⟨ret_bool HN.out.symm, Below.refl _ _⟩
  · have b1 : decide ((s.size : Int) ≤ 80) = true := by simp; omega
    have HM : Hid (w.cell? ⟨0, 0, none⟩ = some (.int .i64 m)) := hm
    clear hm
    go_enter Tryd.func14, Tryd.ntmps14
    go_wp2_with fail
    refine (split_any s m _ (by omega) HM.out).mono ?_
    rintro e w1 ⟨rfl, ho, hb1⟩
    have X : Hid (StrAt w1 w.heap.size s ∧ Below w.heap.size w w1) := ⟨ho, hb1⟩
    clear ho hb1
    go_wp2_with fail
    refine (dnsPartsOK_any s w.heap.size _ w1 (by omega) X.out.1).mono ?_
    rintro e w2 ⟨rfl, hw2⟩
    obtain rfl := hw2.symm
    clear hw2
    go_wp2
    go_ret
    exact ⟨rfl, X.out.2⟩
end Go.Proofs.YtfcdobicilediaaDoor
