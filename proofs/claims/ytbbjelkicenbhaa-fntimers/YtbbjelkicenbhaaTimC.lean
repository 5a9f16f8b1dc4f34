/- Timers: cmp.Compare, cmp.Or, compareTimers: by At, then by Id. -/
import Derived.Test.YtbbjelkicenbhaaPairs2
import Derived.Test.YtbbjelkicenbhaaGrw
import Derived.Deep.RegionHeld3
import Derived.Test.YtbbjelkicenbhaaTests
import Derived.Test.YtbbjelkicenbhaaApp
namespace Go.Proofs.Ytbbjelkicenbhaa
open Go.RowKit Go.PlainAid Go.Sort
set_option linter.unusedVariables false
set_option maxRecDepth 20000

def cmpI (x y : Int) : Int := if x < y then -1 else if y < x then 1 else 0
/-- By At, then by Id. -/
def cmpT (x y : Int × Int) : Int := if cmpI x.1 y.1 = 0 then cmpI x.2 y.2 else cmpI x.1 y.1

theorem isNaN_any (x : Int) (w : World) : Calls Try.prog 84 #[.int .i64 x] w fun e w' => e = .returned (.bool false) ∧ w' = w := by
  have h : (x != x) = false := by simp
  go_enter Try.func84, Try.ntmps84
  go_wp2
  go_ret
  exact ⟨rfl, rfl⟩
theorem cmpCompare_any (x y : Int) (w : World) : Calls Try.prog 70 #[.int .i64 x, .int .i64 y] w fun e w' => e = .returned (.int .i64 (cmpI x y)) ∧ w' = w := by
  have hn : ∀ x, Hid (∀ w, Calls Try.prog 84 #[.int .i64 x] w fun e w' => e = .returned (.bool false) ∧ w' = w) := fun x w => isNaN_any x w
  by_cases h1 : x < y
  · have e : cmpI x y = -1 := if_pos h1
    rw [e]
    clear e
    go_enter Try.func70, Try.ntmps70
    go_wp2_with fail
    refine ((hn x).out _).mono ?_
    rintro e w1 ⟨rfl, hw⟩
    subst hw
    go_wp2_with fail
    refine ((hn y).out _).mono ?_
    rintro e w1 ⟨rfl, hw⟩
    subst hw
    go_wp2
    go_ret
    exact ⟨rfl, rfl⟩
  by_cases h2 : y < x
  · have e : cmpI x y = 1 := by unfold cmpI; rw [if_neg h1, if_pos h2]
    rw [e]
    clear e
    go_enter Try.func70, Try.ntmps70
    go_wp2_with fail
    refine ((hn x).out _).mono ?_
    rintro e w1 ⟨rfl, hw⟩
    subst hw
    go_wp2_with fail
    refine ((hn y).out _).mono ?_
    rintro e w1 ⟨rfl, hw⟩
    subst hw
    go_wp2
    go_ret
    exact ⟨rfl, rfl⟩
  · have e : cmpI x y = 0 := by unfold cmpI; rw [if_neg h1, if_neg h2]
    rw [e]
    clear e
    go_enter Try.func70, Try.ntmps70
    go_wp2_with fail
    refine ((hn x).out _).mono ?_
    rintro e w1 ⟨rfl, hw⟩
    subst hw
    go_wp2_with fail
    refine ((hn y).out _).mono ?_
    rintro e w1 ⟨rfl, hw⟩
    subst hw
    go_wp2
    go_ret
    exact ⟨rfl, rfl⟩

/-- cmp.Or of two. -/
theorem cmpOr_two (x y : Int) (b c : Nat) (w : World) (h0 : w.cell? ⟨b, 0, none⟩ = some (.int .i64 x)) (h1 : w.cell? ⟨b, 1, none⟩ = some (.int .i64 y)) :
    Calls Try.prog 69 #[.slice (some ⟨b, 0, none⟩) 2 c] w fun e w' => e = .returned (.int .i64 (if x = 0 then y else x)) ∧ w' = w := by
  obtain ⟨r, hr⟩ : ∃ r, r = if x = 0 then y else x := ⟨_, rfl⟩
  rw [← hr]
  have HR : Hid (r = if x = 0 then y else x) := hr
  clear hr
  go_enter Try.func69, Try.ntmps69
  go_wp2
  go_loopw [8] (fun i wr => ∃ k : Nat, k ≤ 2 ∧ i = .int .i64 k ∧ wr = w ∧ (1 ≤ k → x = 0) ∧ (2 ≤ k → y = 0)) (fun i _ => 2 - (intOf i).toNat)
  case atStart => exact ⟨0, Nat.zero_le _, rfl, rfl, fun h => absurd h (by omega), fun h => absurd h (by omega)⟩
  case round =>
    obtain ⟨k, hk, rfl, hw, hx, hy⟩ := hrel
    subst hw
    have hk3 : k = 0 ∨ k = 1 ∨ k = 2 := by omega
    rcases hk3 with rfl | rfl | rfl
    · by_cases hx0 : x = 0
      · have hb : (x != 0) = false := by simp [hx0]
        clear hx hy
        go_wp2
        go_roundw
        case rel => exact ⟨1, by omega, (by first | trivial | rfl), (by first | trivial | rfl), fun _ => hx0, fun h => absurd h (by omega)⟩
        case measure => simp [intOf]
      · have hb : (x != 0) = true := by simp [hx0]
        have e : r = x := by rw [HR.out, if_neg hx0]
        clear hx hy
        go_wp2
        go_ret
        exact ⟨by rw [e]; rfl, rfl⟩
    · have hx0 := hx (by omega)
      by_cases hy0 : y = 0
      · have hb : (y != 0) = false := by simp [hy0]
        clear hx hy
        go_wp2
        go_roundw
        case rel => exact ⟨2, by omega, (by first | trivial | rfl), (by first | trivial | rfl), fun _ => hx0, fun _ => hy0⟩
        case measure => simp [intOf]
      · have hb : (y != 0) = true := by simp [hy0]
        have e : r = y := by rw [HR.out, if_pos hx0]
        clear hx hy
        go_wp2
        go_ret
        exact ⟨by rw [e]; rfl, rfl⟩
    · have hx0 := hx (by omega)
      have hy0 := hy (by omega)
      have e : r = 0 := by rw [HR.out, if_pos hx0, hy0]
      clear hx hy
      go_wp2
      go_ret
      exact ⟨by rw [e]; rfl, rfl⟩

theorem compareTimers_any (x y : Int × Int) (w : World) : Calls Try.prog 50 #[.agg #[.int .i64 x.1, .int .i64 x.2], .agg #[.int .i64 y.1, .int .i64 y.2]] w fun e w' => e = .returned (.int .i64 (cmpT x y)) ∧ Grw w w' := by
  have H1 : Hid (∀ w, Calls Try.prog 70 #[.int .i64 x.1, .int .i64 y.1] w fun e w' => e = .returned (.int .i64 (cmpI x.1 y.1)) ∧ w' = w) := fun w => cmpCompare_any _ _ w
  have H2 : Hid (∀ w, Calls Try.prog 70 #[.int .i64 x.2, .int .i64 y.2] w fun e w' => e = .returned (.int .i64 (cmpI x.2 y.2)) ∧ w' = w) := fun w => cmpCompare_any _ _ w
  have HC : Hid (cmpT x y = if cmpI x.1 y.1 = 0 then cmpI x.2 y.2 else cmpI x.1 y.1) := rfl
  generalize cmpT x y = c at HC ⊢
  generalize cmpI x.1 y.1 = c1 at H1 HC
  generalize cmpI x.2 y.2 = c2 at H2 HC
  generalize x.1 = x1 at H1 ⊢
  generalize x.2 = x2 at H2 ⊢
  generalize y.1 = y1 at H1 ⊢
  generalize y.2 = y2 at H2 ⊢
  have H3 : Hid (∀ w b, w.cell? ⟨b, 0, none⟩ = some (.int .i64 c1) → w.cell? ⟨b, 1, none⟩ = some (.int .i64 c2) → Calls Try.prog 69 #[.slice (some ⟨b, 0, none⟩) 2 2] w fun e w' => e = .returned (.int .i64 c) ∧ w' = w) := fun w b h0 h1 => HC.out ▸ cmpOr_two c1 c2 b 2 w h0 h1
  clear HC
  obtain ⟨W, hW⟩ : ∃ W, W = (w.alloc (.cells #[.int .i64 x1, .int .i64 x2] 44)).alloc (.cells #[.int .i64 y1, .int .i64 y2] 44) := ⟨_, rfl⟩
  have k0 : W.cell? ⟨w.heap.size, 0, none⟩ = some (.int .i64 x1) := by rw [hW]; simp
  have k1 : W.cell? ⟨w.heap.size, 1, none⟩ = some (.int .i64 x2) := by rw [hW]; simp
  have k2 : W.cell? ⟨w.heap.size + 1, 0, none⟩ = some (.int .i64 y1) := by rw [hW]; simp
  have k3 : W.cell? ⟨w.heap.size + 1, 1, none⟩ = some (.int .i64 y2) := by rw [hW]; simp
  have G : Hid (Grw w W) := by rw [hW]; exact ((Grw.refl _).alloc _).alloc _
  go_enter Try.func50, Try.ntmps50
  go_wp2
  rw [← hW]
  clear hW
  have M : Hid (∀ o, (W.alloc o).drew.cell? ⟨w.heap.size, 0, none⟩ = some (.int .i64 x1) ∧ (W.alloc o).drew.cell? ⟨w.heap.size, 1, none⟩ = some (.int .i64 x2) ∧ (W.alloc o).drew.cell? ⟨w.heap.size + 1, 0, none⟩ = some (.int .i64 y1) ∧ (W.alloc o).drew.cell? ⟨w.heap.size + 1, 1, none⟩ = some (.int .i64 y2)) := fun o =>
    ⟨keep_cell (wx := W) k0 ((Below.refl _ _).alloc (Nat.le_refl _) o).drew, keep_cell (wx := W) k1 ((Below.refl _ _).alloc (Nat.le_refl _) o).drew, keep_cell (wx := W) k2 ((Below.refl _ _).alloc (Nat.le_refl _) o).drew, keep_cell (wx := W) k3 ((Below.refl _ _).alloc (Nat.le_refl _) o).drew⟩
  go_region_held3 (fun wx => wx.cell? ⟨w.heap.size, 0, none⟩ = some (.int .i64 x1) ∧ wx.cell? ⟨w.heap.size, 1, none⟩ = some (.int .i64 x2) ∧ wx.cell? ⟨w.heap.size + 1, 0, none⟩ = some (.int .i64 y1) ∧ wx.cell? ⟨w.heap.size + 1, 1, none⟩ = some (.int .i64 y2))
    (first | exact ⟨k0, k1, k2, k3⟩ | exact M.out _ | assumption)
    (first | (go_at_call 70; (with_reducible refine (H1.out _).mono ?_); rintro e w' ⟨rfl, rfl⟩) | (go_at_call 70; (with_reducible refine (H2.out _).mono ?_); rintro e w' ⟨rfl, rfl⟩) | (go_at_call 69; refine (H3.out _ _ (by simp) (by simp)).mono ?_; rintro e w' ⟨rfl, rfl⟩))
  go_wp2
  go_ret
  exact ⟨rfl, (G.out.alloc _).drew⟩

/-- No one is ahead of the one ahead of it. -/
def sortT (zs : List (Int × Int)) (n : Nat) : Prop := ∀ i, i + 1 < n → 0 ≤ cmpT (zs.getD (i + 1) (0, 0)) (zs.getD i (0, 0))
noncomputable instance (zs : List (Int × Int)) (k : Nat) : Decidable (sortT zs k) := Classical.propDecidable _

set_option maxHeartbeats 1000000 in
theorem isSorted_any (a : Option Addr) (len cap : Nat) (zs : List (Int × Int)) (w : World) (h : Prs w a zs) (hl : zs.length = len) (hc : len ≤ 4096) :
    Calls Try.prog 65 #[.slice a len cap, .func (.func 50) #[] #[]] w fun e w' => e = .returned (.bool (dec (sortT zs len))) ∧ Grw w w' := by
  have H : Hid (Prs w a zs) := h
  have hmix : Try.prog.follows .mixedOrders = true := by kernel_rfl
  clear h
  go_enter Try.func65, Try.ntmps65
  go_wp2
  go_loopw [5] (fun i wr => ∃ k : Int, -1 ≤ k ∧ k < len ∧ i = .int .i64 k ∧ Hid (∀ j : Nat, k ≤ j → j + 1 < len → 0 ≤ cmpT (zs.getD (j + 1) (0, 0)) (zs.getD j (0, 0))) ∧ Hid (Grw w wr)) (fun i _ => (intOf i).toNat)
  case atStart => exact ⟨(len : Int) - 1, by omega, by omega, rfl, fun j h1 h2 => absurd h1 (by omega), Grw.refl w⟩
  case round =>
    obtain ⟨k, hk1, hk2, rfl, HS, HG⟩ := hrel
    by_cases hpos : 0 < k
    · obtain ⟨j, rfl⟩ : ∃ j : Nat, k = ((j + 1 : Nat) : Int) := ⟨(k - 1).toNat, by omega⟩
      obtain ⟨b, off, rfl, hb, p0, p1⟩ := H.out.cells HG.out.below (k := j + 1) (by omega)
      obtain ⟨b', off', e2, hb', p2, p3⟩ := H.out.cells HG.out.below (k := j) (by omega)
      cases e2
      have HC : Hid (∀ w, Calls Try.prog 50 #[.agg #[.int .i64 (zs.getD (j + 1) (0, 0)).1, .int .i64 (zs.getD (j + 1) (0, 0)).2], .agg #[.int .i64 (zs.getD j (0, 0)).1, .int .i64 (zs.getD j (0, 0)).2]] w fun e w' => e = .returned (.int .i64 (cmpT (zs.getD (j + 1) (0, 0)) (zs.getD j (0, 0)))) ∧ Grw w w') := fun w => compareTimers_any _ _ w
      have HY : Hid (0 ≤ cmpT (zs.getD (j + 1) (0, 0)) (zs.getD j (0, 0)) → ∀ i : Nat, (j : Int) ≤ i → i + 1 < len → 0 ≤ cmpT (zs.getD (i + 1) (0, 0)) (zs.getD i (0, 0))) := fun h i h1 h2 => by
        by_cases e : i = j
        · subst e; exact h
        · exact HS.out i (by omega) h2
      have HN : Hid (cmpT (zs.getD (j + 1) (0, 0)) (zs.getD j (0, 0)) < 0 → dec (sortT zs len) = false) := fun h => dec_n (fun h' => by have := h' j (by omega); omega)
      have q0 := grown_cell hb HG.out p0
      have q1 := grown_cell hb HG.out p1
      have q2 := grown_cell hb HG.out p2
      have q3 := grown_cell hb HG.out p3
      generalize cmpT (zs.getD (j + 1) (0, 0)) (zs.getD j (0, 0)) = c at HC HY HN
      generalize (zs.getD (j + 1) (0, 0)).1 = x0 at q0 HC
      generalize (zs.getD (j + 1) (0, 0)).2 = x1 at q1 HC
      generalize (zs.getD j (0, 0)).1 = x2 at q2 HC
      generalize (zs.getD j (0, 0)).2 = x3 at q3 HC
      clear p0 p1 p2 p3 HS
      have hz1 : (0 : Int) < (j : Int) + 1 := by omega
      have hz2 : (j : Int) + 1 < (len : Int) := by omega
      have hz3 : (j : Int) < (len : Int) := by omega
      go_wp2_with fail
      refine wp_region_quiet_grown (by assumption) (by kernel_rfl) ?_
      repeat (go_big_quiet_step (first | fail | (go_at_call 50; exact Calls.grown_of (HC.out _))))
      refine wpQuiet_nil ?_
      intro _ hw'
      obtain ⟨⟨nq, osq⟩, hw''⟩ := hw'
      subst hw''
      have HG2 : Hid (Grw w (grow (wr.drewN nq) osq)) := HG.out.trans ⟨nq, osq, rfl⟩
      clear q0 q1 q2 q3 HG HC
      by_cases hneg : c < 0
      · have HD : Hid (dec (sortT zs len) = false) := HN.out hneg
        clear HN HY
        go_wp2
        go_ret
        exact ⟨by rw [HD.out]; rfl, HG2.out⟩
      · have HY2 : Hid (∀ i : Nat, (j : Int) ≤ i → i + 1 < len → 0 ≤ cmpT (zs.getD (i + 1) (0, 0)) (zs.getD i (0, 0))) := HY.out (by omega)
        clear HN HY
        go_wp2
        go_roundw
        case rel => exact ⟨j, by omega, by omega, by go_num, HY2, HG2⟩
        case measure => simp [intOf]
    · have HD : Hid (dec (sortT zs len) = true) := dec_y (fun i hi => HS.out i (by omega) hi)
      go_wp2
      go_ret
      exact ⟨by rw [HD.out]; rfl, HG.out⟩
end Go.Proofs.Ytbbjelkicenbhaa
