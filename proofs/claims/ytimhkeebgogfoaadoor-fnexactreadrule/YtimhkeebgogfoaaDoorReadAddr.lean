/- ReadAddress, the program's and the model's: four numbers' texts from 0 to 255, points between. -/
import Derived.Test.YtimhkeebgogfoaaDoorCut
import Derived.Test.YtimhkeebgogfoaaDoorNum2
import Derived.Test.YtimhkeebgogfoaaDoorBits
namespace Go.Proofs.YtimhkeebgogfoaaDoor
open Go.RowKit Go.PlainAid
set_option linter.unusedVariables false
set_option maxRecDepth 20000

/-- The pieces of a text between its points. -/
def pcs (s : ByteArray) : List ByteArray := (pc s.data.toList).map fun l => ⟨l.toArray⟩
theorem pcs_of (s : ByteArray) (ps : List ByteArray) (h : ps.map (·.data.toList) = pc s.data.toList) : ps = pcs s := by
  unfold pcs
  rw [← h, List.map_map]
  have : ((fun l : List UInt8 => (⟨l.toArray⟩ : ByteArray)) ∘ fun x : ByteArray => x.data.toList) = id := by funext x; obtain ⟨⟨l⟩⟩ := x; rfl
  rw [this, List.map_id]
theorem pc_len : ∀ (l : List UInt8), ∀ p ∈ pc l, p.length ≤ l.length
  | [], p, h => by simp [pc] at h; simp [h]
  | c :: l, p, h => by
    have ih := pc_len l
    rw [pc] at h
    split at h
    · rcases List.mem_cons.1 h with h | h
      · simp [h]
      · have := ih p h; simp; omega
    · split at h
      · rename_i q qs e
        rcases List.mem_cons.1 h with h | h
        · have := ih q (by rw [e]; simp); subst h; simp; omega
        · have := ih p (by rw [e]; simp [h]); simp; omega
      · simp at h; simp [h]
theorem pcs_size (s p : ByteArray) (h : p ∈ pcs s) : p.size ≤ s.size := by
  obtain ⟨l, hl, rfl⟩ := List.mem_map.1 h
  have := pc_len _ l hl
  show l.toArray.size ≤ s.data.size
  rw [List.size_toArray, ← Array.length_toList]
  exact this
def piece (s : ByteArray) (i : Nat) : ByteArray := (pcs s).getD i ⟨#[]⟩
theorem piece_size (s : ByteArray) (i : Nat) : (piece s i).size ≤ s.size := by
  unfold piece
  by_cases h : i < (pcs s).length
  · rw [List.getD_eq_getElem?_getD, List.getElem?_eq_getElem h]; exact pcs_size s _ (List.getElem_mem h)
  · rw [List.getD_eq_getElem?_getD, List.getElem?_eq_none (by omega)]; exact Nat.zero_le _

/-- Piece i is a number from 0 to 255. -/
def okP (s : ByteArray) (i : Nat) : Bool := rnB (piece s i) && decide (0 ≤ rnV (piece s i) ∧ rnV (piece s i) ≤ 255)
def accV (s : ByteArray) : Nat → Int
  | 0 => 0
  | k + 1 => accV s k * 256 + rnV (piece s k)
theorem okP_bd {s : ByteArray} {i : Nat} (h : okP s i = true) : rnB (piece s i) = true ∧ 0 ≤ rnV (piece s i) ∧ rnV (piece s i) ≤ 255 := by
  simpa [okP] using h
theorem accV_bd (s : ByteArray) : ∀ k : Nat, k ≤ 4 → (∀ j, j < k → okP s j = true) → 0 ≤ accV s k ∧ accV s k ≤ 256 ^ k - 1
  | 0, _, _ => by simp [accV]
  | k + 1, hk, h => by
    have := accV_bd s k (by omega) (fun j hj => h j (by omega))
    have := okP_bd (h k (by omega))
    have e : (256 : Int) ^ (k + 1) = 256 ^ k * 256 := Int.pow_succ ..
    rw [e]
    unfold accV
    omega
theorem accV_3 (s : ByteArray) (k : Nat) (hk : k ≤ 3) (h : ∀ j, j < k → okP s j = true) : 0 ≤ accV s k ∧ accV s k ≤ 16777215 := by
  have := accV_bd s k (by omega) h
  match k, hk with
  | 0, _ | 1, _ | 2, _ | 3, _ => simp at this; omega
def raB (s : ByteArray) : Bool := decide ((pcs s).length = 4) && (okP s 0 && okP s 1 && okP s 2 && okP s 3)
theorem raB_iff (s : ByteArray) : raB s = true ↔ ((pcs s).length = 4 ∧ ∀ j, j < 4 → okP s j = true) := by
  unfold raB
  constructor
  · intro h
    simp only [Bool.and_eq_true, decide_eq_true_eq] at h
    obtain ⟨h4, ⟨⟨h0, h1⟩, h2⟩, h3⟩ := h
    refine ⟨h4, fun j hj => ?_⟩
    match j, hj with
    | 0, _ => exact h0
    | 1, _ => exact h1
    | 2, _ => exact h2
    | 3, _ => exact h3
  · rintro ⟨h4, h⟩
    simp only [Bool.and_eq_true, decide_eq_true_eq]
    exact ⟨h4, ⟨⟨h 0 (by omega), h 1 (by omega)⟩, h 2 (by omega)⟩, h 3 (by omega)⟩
def raV (s : ByteArray) : Int := if raB s then accV s 4 else 0
theorem ra_no (s : ByteArray) (h : ¬ ((pcs s).length = 4 ∧ ∀ j, j < 4 → okP s j = true)) : raB s = false ∧ raV s = 0 := by
  have e : raB s = false := by
    cases hb : raB s
    · rfl
    · exact absurd ((raB_iff s).1 hb) h
  exact ⟨e, by unfold raV; rw [e]; rfl⟩
theorem ra_bad (s : ByteArray) (k : Nat) (hk : k < 4) (h : okP s k = false) : raB s = false ∧ raV s = 0 := ra_no s fun hh => by have := hh.2 k hk; rw [h] at this; cases this
theorem ra_yes (s : ByteArray) (h1 : (pcs s).length = 4) (h : ∀ j, j < 4 → okP s j = true) : raB s = true ∧ raV s = accV s 4 := by
  have e : raB s = true := (raB_iff s).2 ⟨h1, h⟩
  exact ⟨e, by unfold raV; rw [if_pos e]⟩
theorem okp_step {s : ByteArray} {k : Nat} (h : ∀ j, j < k → okP s j = true) (hk : okP s k = true) : ∀ j, j < k + 1 → okP s j = true := by
  intro j hj
  by_cases e : j = k
  · subst e; exact hk
  · exact h j (by omega)
theorem accV_succ (s : ByteArray) (k : Nat) : accV s (k + 1) = accV s k * 256 + rnV (piece s k) := rfl

/-- Where the pieces lie. -/
def StrAt (w : World) (g : Nat) (s : ByteArray) : Prop := ∀ i, i < (pcs s).length → w.cell? ⟨g, i, none⟩ = some (.string (piece s i))
theorem OwnS.at {w : World} {B g c : Nat} {s : ByteArray} (h : OwnS w B (.slice (some ⟨g, 0, none⟩) (pcs s).length c) (pcs s)) : StrAt w g s := by
  intro i hi
  have := World.ownsRow.cells h (g := g) rfl i (.string (piece s i)) (by simp [piece, hi])
  have ea : (⟨g, 0, none⟩ : Addr).add i = ⟨g, i, none⟩ := by unfold Addr.add; split <;> simp_all
  rwa [ea] at this

theorem In_y (n lo hi : Int) (w : World) (h : lo ≤ n) (h' : n ≤ hi) : Calls Tryd.prog 54 #[.int .i64 n, .int .i64 lo, .int .i64 hi] w fun e w' => e = .returned (.bool true) ∧ w' = w := by
  go_enter Tryd.func54, Tryd.ntmps54
  go_wp2
  go_ret
  exact ⟨congrArg (fun b => Ending.returned (.bool b)) (by simp), rfl⟩
theorem In_n (n lo hi : Int) (w : World) (h : n < lo ∨ hi < n) : Calls Tryd.prog 54 #[.int .i64 n, .int .i64 lo, .int .i64 hi] w fun e w' => e = .returned (.bool false) ∧ w' = w := by
  by_cases h1 : lo ≤ n
  · go_enter Tryd.func54, Tryd.ntmps54
    go_wp2
    go_ret
    exact ⟨congrArg (fun b => Ending.returned (.bool b)) (by simp; omega), rfl⟩
  · have h1' : decide (lo ≤ n) = false := by simp; omega
    go_enter Tryd.func54, Tryd.ntmps54
    go_wp2
    go_ret
    exact ⟨rfl, rfl⟩
theorem ret_b2 {a b : Int} {x y : Bool} (h : a = b) (h' : x = y) : Ending.returned (.tuple #[.int .i64 a, .bool x]) = .returned (.tuple #[.int .i64 b, .bool y]) := by rw [h, h']

set_option maxHeartbeats 1000000 in
theorem l01ReadAddress_any (s : ByteArray) (w : World) (hs : s.size ≤ 65536) :
    Calls Tryd.prog 96 #[.string s] w fun e w' => e = .returned (.tuple #[.int .i64 (raV s), .bool (raB s)]) ∧ Below w.heap.size w w' := by
  go_enter Tryd.func96, Tryd.ntmps96
  go_wp2_with fail
  refine (l00Cut_any s w (by omega)).mono ?_
  rintro e w1 ⟨g, c, ps, rfl, ho, hps, hb1⟩
  obtain rfl := pcs_of s ps hps
  have X : Hid (StrAt w1 g s ∧ Below w.heap.size w w1) := ⟨ho.at, hb1⟩
  clear ho hps hb1
  by_cases h4 : (pcs s).length = 4
  · have t4 : (((pcs s).length : Int) != 4) = false := by simp; omega
    have H4 : Hid ((pcs s).length = 4) := h4
    have h41 : 4 ≤ (pcs s).length := by omega
    clear h4
    go_wp2_with fail
    go_loop [5, 6] (fun x i => ∃ k : Nat, k ≤ 4 ∧ i = .int .i64 k ∧ x = .int .i64 (accV s k) ∧ ∀ j, j < k → okP s j = true) (fun _ i => 4 - (intOf i).toNat)
    case atStart => exact ⟨0, Nat.zero_le _, rfl, rfl, fun j hj => absurd hj (by omega)⟩
    case round =>
      obtain ⟨k, hk, rfl, rfl, hall⟩ := hrel
      have HA : Hid (∀ j, j < k → okP s j = true) := hall
      by_cases hlt : k < 4
      · have vb := accV_3 s k (by omega) hall
        clear hall
        have hc := X.out.1 k (by omega)
        have hpz := piece_size s k
        obtain ⟨p, hp⟩ : ∃ p, p = piece s k := ⟨_, rfl⟩
        rw [← hp] at hc hpz
        have HP : Hid (p = piece s k) := hp
        clear hp
        obtain ⟨v, hv⟩ : ∃ v, v = rnV p := ⟨_, rfl⟩
        obtain ⟨b, hb⟩ : ∃ b, b = rnB p := ⟨_, rfl⟩
        have HV : Hid (v = rnV p ∧ b = rnB p) := ⟨hv, hb⟩
        have HC : Hid (Calls Tryd.prog 74 #[.string p] w1 fun e w' => e = .returned (.tuple #[.int .i64 v, .bool b]) ∧ w' = w1) := by
          rw [hv, hb]; exact l00Number_any p w1 (by omega)
        clear hv hb
        cases b
        · have HN : Hid (raB s = false ∧ raV s = 0) := ra_bad s k hlt (by unfold okP; rw [← HP.out, ← HV.out.2]; rfl)
          go_wp2_with (go_at_call 74; refine HC.out.mono ?_; rintro e w' ⟨rfl, hw⟩; subst hw)
          go_ret2
          exact ⟨ret_b2 HN.out.2.symm HN.out.1.symm, X.out.2⟩
        · by_cases hr : 0 ≤ v ∧ v ≤ 255
          · obtain ⟨r0, r1⟩ := hr
            have HK : Hid (okP s k = true) := by
              show okP s k = true
              unfold okP; rw [← HP.out, ← HV.out.1, ← HV.out.2]; simp; omega
            go_wp2_with (first | (go_at_call 74; refine HC.out.mono ?_; rintro e w' ⟨rfl, hw⟩; subst hw) | (go_at_call 54; refine (In_y _ _ _ _ (by omega) (by omega)).mono ?_; rintro e w' ⟨rfl, hw⟩; subst hw))
            go_round
            case rel => exact ⟨k + 1, by omega, by go_num, congrArg (Value.int .i64) (by rw [accV_succ, ← HP.out, ← HV.out.1]), okp_step HA.out HK.out⟩
            case measure => simp [intOf]; omega
          · have hr' : v < 0 ∨ 255 < v := by omega
            have HN : Hid (raB s = false ∧ raV s = 0) := ra_bad s k hlt (by unfold okP; rw [← HP.out, ← HV.out.1]; simp; intro; omega)
            clear hr
            go_wp2_with (first | (go_at_call 74; refine HC.out.mono ?_; rintro e w' ⟨rfl, hw⟩; subst hw) | (go_at_call 54; refine (In_n _ _ _ _ hr').mono ?_; rintro e w' ⟨rfl, hw⟩; subst hw))
            go_ret2
            exact ⟨ret_b2 HN.out.2.symm HN.out.1.symm, X.out.2⟩
      · obtain rfl : k = 4 := by omega
        have HY : Hid (raB s = true ∧ raV s = accV s 4) := ra_yes s H4.out HA.out
        clear hall
        go_wp2
        go_ret2
        exact ⟨ret_b2 HY.out.2.symm HY.out.1.symm, X.out.2⟩
  · have t4 : (((pcs s).length : Int) != 4) = true := by simp; omega
    have HN : Hid (raB s = false ∧ raV s = 0) := ra_no s (fun hh => h4 hh.1)
    clear h4
    go_wp2
    go_ret2
    exact ⟨ret_b2 HN.out.2.symm HN.out.1.symm, X.out.2⟩
end Go.Proofs.YtimhkeebgogfoaaDoor
