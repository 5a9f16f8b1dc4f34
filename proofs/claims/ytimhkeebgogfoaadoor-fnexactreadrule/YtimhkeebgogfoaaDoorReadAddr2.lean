/- ReadAddress, the program's: strings.Split, four numbers; the walk of its law. -/
import Derived.Test.YtimhkeebgogfoaaDoorReadAddr
import Derived.Test.YtimhkeebgogfoaaDoorShelf
namespace Go.Proofs.YtimhkeebgogfoaaDoor
open Go.RowKit Go.PlainAid
set_option linter.unusedVariables false
set_option maxRecDepth 20000

theorem ret_i2 {a b c d : Int} (h : a = b) (h' : c = d) : Ending.returned (.tuple #[.int .i64 a, .int .i64 c]) = .returned (.tuple #[.int .i64 b, .int .i64 d]) := by rw [h, h']
def raK (s : ByteArray) : Int := if raB s then 0 else 3
theorem raK_n {s : ByteArray} (h : raB s = false) : 3 = raK s := by unfold raK; rw [h]; rfl
theorem raK_y {s : ByteArray} (h : raB s = true) : 0 = raK s := by unfold raK; rw [h]; rfl
/-- The answer's number and code. -/
def raN (s : ByteArray) : Int := if 65536 < s.size then 0 else raV s
def raC (s : ByteArray) : Int := if 65536 < s.size then 2 else raK s

theorem heap_new (w : World) (o : Obj) : (w.alloc o).heap[w.heap.size]? = some o := by
  show (w.heap.push o)[w.heap.size]? = some o
  simp
theorem split_any (s : ByteArray) (m : Int) (w : World) (hs : s.size ≤ 65536) (hm : w.cell? ⟨0, 0, none⟩ = some (.int .i64 m)) :
    Calls Tryd.prog 22 #[.string s, .string ⟨#[46]⟩] w fun e w' => e = .returned (.slice (some ⟨w.heap.size, 0, none⟩) (pcs s).length (pcs s).length) ∧ StrAt w' w.heap.size s ∧ Below w.heap.size w w' := by
  refine (Tryd.strings_Split s ⟨#[46]⟩ m w (by omega) hm (by decide)).mono ?_
  rintro e w' ⟨he, hw⟩
  have e1 : Lib.splitB ⟨#[46]⟩ 0 (Lib.countB s ⟨#[46]⟩) s = pcs s := pcs_of s _ (splitB_pc _ s rfl)
  have e2 : Lib.countB s ⟨#[46]⟩ + 1 = (pcs s).length := by rw [← e1]; exact (Lib.splitB_all ⟨#[46]⟩ (by decide) 0 _ s rfl).symm
  rw [e2] at he
  rw [e1] at hw
  subst hw
  refine ⟨he, fun i hi => ?_, (Below.refl _ _).alloc (Nat.le_refl _) _⟩
  have hc : ((pcs s).map Value.string).toArray[i]? = some (.string (piece s i)) := by simp [piece, hi]
  show (w.alloc _).cell? ⟨w.heap.size, i, none⟩ = _
  have hh : (w.alloc (.cells ((pcs s).map Value.string).toArray 9)).heap[w.heap.size]? = some (.cells ((pcs s).map Value.string).toArray 9) := (heap_new w _)
  unfold World.cell?
  rw [hh]
  exact hc

set_option maxHeartbeats 1000000 in
theorem implReadAddress_short (s : ByteArray) (m : Int) (w : World) (hs : s.size ≤ 65536) (hm : w.cell? ⟨0, 0, none⟩ = some (.int .i64 m)) :
    Calls Tryd.prog 79 #[.string s] w fun e w' => e = .returned (.tuple #[.int .i64 (raV s), .int .i64 (raK s)]) ∧ Below w.heap.size w w' := by
  go_enter Tryd.func79, Tryd.ntmps79
  go_wp2_with fail
  refine (split_any s m _ hs hm).mono ?_
  rintro e w1 ⟨rfl, ho, hb1⟩
  generalize hg : w.heap.size = g at ho ⊢
  have X : Hid (StrAt w1 g s ∧ Below w.heap.size w w1) := ⟨ho, hb1⟩
  clear ho hb1
  by_cases h4 : (pcs s).length = 4
  · have t4 : (((pcs s).length : Int) != 4) = false := by simp; omega
    have H4 : Hid ((pcs s).length = 4) := h4
    have h41 : 4 ≤ (pcs s).length := by omega
    have h42 : (pcs s).length ≤ 4 := by omega
    clear h4
    go_wp2_with fail
    go_loop [5, 20] (fun x i => ∃ k : Nat, k ≤ 4 ∧ i = .int .i64 k ∧ x = .int .i64 (accV s k) ∧ ∀ j, j < k → okP s j = true) (fun _ i => 4 - (intOf i).toNat)
    case atStart => exact ⟨0, Nat.zero_le _, rfl, rfl, fun j hj => absurd hj (by omega)⟩
    case round =>
      obtain ⟨k, hk, rfl, rfl, hall⟩ := hrel
      have HA : Hid (∀ j, j < k → okP s j = true) := hall
      by_cases hlt : k < 4
      · have vb := accV_3 s k (by omega) hall
        clear hall
        have hc := X.out.1 k (by omega)
        have hpz := piece_size s k
        obtain ⟨p, hp⟩ : ∃ p, p = piece s k := ⟨_, rfl⟩
        rw [← hp] at hc hpz
        have HP : Hid (p = piece s k) := hp
        clear hp
        obtain ⟨v, hv⟩ : ∃ v, v = rnV p := ⟨_, rfl⟩
        obtain ⟨b, hb⟩ : ∃ b, b = rnB p := ⟨_, rfl⟩
        have HV : Hid (v = rnV p ∧ b = rnB p) := ⟨hv, hb⟩
        have HC : Hid (Calls Tryd.prog 45 #[.string p] w1 fun e w' => e = .returned (.tuple #[.int .i64 v, .bool b]) ∧ w' = w1) := by
          rw [hv, hb]; exact readNumber_any p w1 (by omega)
        clear hv hb
        cases b
        · have HN : Hid (raB s = false ∧ raV s = 0) := ra_bad s k hlt (by unfold okP; rw [← HP.out, ← HV.out.2]; rfl)
          go_wp2_with (go_at_call 45; refine HC.out.mono ?_; rintro e w' ⟨rfl, hw⟩; subst hw)
          go_ret2
          exact ⟨ret_i2 HN.out.2.symm (raK_n HN.out.1), X.out.2⟩
        · by_cases hr : 0 ≤ v ∧ v ≤ 255
          · obtain ⟨r0, r1⟩ := hr
            have q0 : decide (v < 0) = false := by simp; omega
            have q1 : decide (255 < v) = false := by simp; omega
            have hj := Bt.join8 (accV s k) v vb.1 (by omega) r0 r1
            have HK : Hid (okP s k = true) := by
              show okP s k = true
              unfold okP; rw [← HP.out, ← HV.out.1, ← HV.out.2]; simp; omega
            go_wp2_with (go_at_call 45; refine HC.out.mono ?_; rintro e w' ⟨rfl, hw⟩; subst hw)
            go_round
            case rel => exact ⟨k + 1, by omega, by go_num, congrArg (Value.int .i64) (by rw [accV_succ, ← HP.out, ← HV.out.1]), okp_step HA.out HK.out⟩
            case measure => simp [intOf]; omega
          · have HN : Hid (raB s = false ∧ raV s = 0) := ra_bad s k hlt (by unfold okP; rw [← HP.out, ← HV.out.1]; simp; intro; omega)
            by_cases r0 : v < 0
            · have q0 : decide (v < 0) = true := by simp; omega
              clear hr
              go_wp2_with (go_at_call 45; refine HC.out.mono ?_; rintro e w' ⟨rfl, hw⟩; subst hw)
              go_ret2
              exact ⟨ret_i2 HN.out.2.symm (raK_n HN.out.1), X.out.2⟩
            · have q0 : decide (v < 0) = false := by simp; omega
              have q1 : decide (255 < v) = true := by simp; omega
              clear hr
              go_wp2_with (go_at_call 45; refine HC.out.mono ?_; rintro e w' ⟨rfl, hw⟩; subst hw)
              go_ret2
              exact ⟨ret_i2 HN.out.2.symm (raK_n HN.out.1), X.out.2⟩
      · obtain rfl : k = 4 := by omega
        have HY : Hid (raB s = true ∧ raV s = accV s 4) := ra_yes s H4.out HA.out
        clear hall
        go_wp2
        go_ret2
        exact ⟨ret_i2 HY.out.2.symm (raK_y HY.out.1), hg ▸ X.out.2⟩
  · have t4 : (((pcs s).length : Int) != 4) = true := by simp; omega
    have HN : Hid (raB s = false ∧ raV s = 0) := ra_no s (fun hh => h4 hh.1)
    clear h4
    go_wp2
    go_ret2
    exact ⟨ret_i2 HN.out.2.symm (raK_n HN.out.1), X.out.2⟩

theorem implReadAddress_any (s : ByteArray) (m : Int) (w : World) (hm : w.cell? ⟨0, 0, none⟩ = some (.int .i64 m)) (hs : s.size ≤ 1048576) :
    Calls Tryd.prog 79 #[.string s] w fun e w' => e = .returned (.tuple #[.int .i64 (raN s), .int .i64 (raC s)]) ∧ Below w.heap.size w w' := by
  by_cases h : 65536 < s.size
  · have e0 : raN s = 0 := if_pos h
    have e1 : raC s = 2 := if_pos h
    rw [e0, e1]
    go_enter Tryd.func79, Tryd.ntmps79
    go_wp2
    go_ret2
    exact ⟨rfl, Below.refl _ _⟩
  · have e0 : raN s = raV s := if_neg h
    have e1 : raC s = raK s := if_neg h
    rw [e0, e1]
    exact implReadAddress_short s m w (by omega) hm
end Go.Proofs.YtimhkeebgogfoaaDoor
