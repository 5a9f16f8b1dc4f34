/- Timers that are right: timerOK, hasTimer, timersOK; the model's l05Timers. -/
import Derived.Test.YtbbjelkicenbhaaTimC
namespace Go.Proofs.Ytbbjelkicenbhaa
open Go.RowKit Go.PlainAid Go.Sort
set_option linter.unusedVariables false
set_option maxRecDepth 20000

def okT (p : Int × Int) : Prop := 0 ≤ p.1 ∧ p.1 ≤ 1000000 ∧ 0 ≤ p.2 ∧ p.2 ≤ 1000000
instance (p : Int × Int) : Decidable (okT p) := inferInstanceAs (Decidable (_ ∧ _ ∧ _ ∧ _))
def ltT (x y : Int × Int) : Prop := x.1 < y.1 ∨ (x.1 = y.1 ∧ x.2 < y.2)
/-- The place i is right against those ahead of it. -/
def goodI (zs : List (Int × Int)) (i : Nat) : Prop := okT (zs.getD i (0, 0)) ∧ (0 < i → ltT (zs.getD (i - 1) (0, 0)) (zs.getD i (0, 0))) ∧ ∀ j, j < i → (zs.getD j (0, 0)).2 ≠ (zs.getD i (0, 0)).2
def goodTo (zs : List (Int × Int)) (k : Nat) : Prop := ∀ i, i < k → goodI zs i
noncomputable instance (zs : List (Int × Int)) (k : Nat) : Decidable (goodTo zs k) := Classical.propDecidable _
theorem goodTo_zero (zs : List (Int × Int)) : goodTo zs 0 := fun i hi => absurd hi (by omega)
theorem goodTo_succ {zs : List (Int × Int)} {k : Nat} (h : goodTo zs k) (hk : goodI zs k) : goodTo zs (k + 1) := by
  intro i hi
  by_cases h' : i < k
  · exact h i h'
  · rw [show i = k by omega]; exact hk
/-- Whether the timers are right. -/
noncomputable def tmB (zs : List (Int × Int)) : Bool := dec (goodTo zs zs.length ∧ zs.length ≤ 20)

theorem timerOK_any (x0 x1 : Int) (w : World) :
    Calls Try.prog 47 #[.agg #[.int .i64 x0, .int .i64 x1]] w fun e w' => e = .returned (.bool (dec (okT (x0, x1)))) ∧ Grw w w' := by
  by_cases h1 : 0 ≤ x0
  · by_cases h2 : x0 ≤ 1000000
    · by_cases h3 : 0 ≤ x1
      · by_cases h4 : x1 ≤ 1000000
        · have e : dec (okT (x0, x1)) = true := dec_y ⟨h1, h2, h3, h4⟩
          rw [e]; clear e
          go_enter Try.func47, Try.ntmps47
          go_wp2
          go_ret
          exact ⟨rfl, (Grw.refl _).alloc _⟩
        · have e : dec (okT (x0, x1)) = false := dec_n (fun h => h4 h.2.2.2)
          have b4 : decide (x1 ≤ 1000000) = false := decide_eq_false h4
          rw [e]; clear e
          go_enter Try.func47, Try.ntmps47
          go_wp2
          go_ret
          exact ⟨rfl, (Grw.refl _).alloc _⟩
      · have e : dec (okT (x0, x1)) = false := dec_n (fun h => h3 h.2.2.1)
        have b3 : decide (0 ≤ x1) = false := decide_eq_false h3
        rw [e]; clear e
        go_enter Try.func47, Try.ntmps47
        go_wp2
        go_ret
        exact ⟨rfl, (Grw.refl _).alloc _⟩
    · have e : dec (okT (x0, x1)) = false := dec_n (fun h => h2 h.2.1)
      have b2 : decide (x0 ≤ 1000000) = false := decide_eq_false h2
      rw [e]; clear e
      go_enter Try.func47, Try.ntmps47
      go_wp2
      go_ret
      exact ⟨rfl, (Grw.refl _).alloc _⟩
  · have e : dec (okT (x0, x1)) = false := dec_n (fun h => h1 h.1)
    have b1 : decide (0 ≤ x0) = false := decide_eq_false h1
    rw [e]; clear e
    go_enter Try.func47, Try.ntmps47
    go_wp2
    go_ret
    exact ⟨rfl, (Grw.refl _).alloc _⟩

/-- The closure of hasTimer. -/
theorem hasTimerFn_any (x0 x1 id : Int) (p : Nat) (w : World) (hp : w.cell? ⟨p, 0, none⟩ = some (.int .i64 id)) :
    Calls Try.prog 73 #[.agg #[.int .i64 x0, .int .i64 x1], .pointer (some ⟨p, 0, none⟩)] w fun e w' => e = .returned (.bool (x1 == id)) ∧ Grw w w' := by
  have hl := World.block_lt_of_cell? w _ hp
  have hp2 : ∀ o, (w.alloc o).cell? ⟨p, 0, none⟩ = some (.int .i64 id) := fun o => by rw [World.cell?_alloc_lt _ _ _ hl]; exact hp
  go_enter Try.func73, Try.ntmps73
  go_wp2
  go_ret
  exact ⟨rfl, (Grw.refl _).alloc _⟩

def hasId (zs : List (Int × Int)) (n : Nat) (id : Int) : Prop := ∃ j, j < n ∧ (zs.getD j (0, 0)).2 = id
noncomputable instance (zs : List (Int × Int)) (n : Nat) (id : Int) : Decidable (hasId zs n id) := Classical.propDecidable _

set_option maxHeartbeats 1000000 in
theorem indexFn_any (a : Option Addr) (len cap : Nat) (zs : List (Int × Int)) (id : Int) (p : Nat) (w : World) (h : Prs w a zs) (hl : len ≤ zs.length) (hc : len ≤ 4096) (hp : w.cell? ⟨p, 0, none⟩ = some (.int .i64 id)) :
    Calls Try.prog 85 #[.slice a len cap, .func (.func 73) #[] #[.pointer (some ⟨p, 0, none⟩)]] w fun e w' => ∃ r : Int, e = .returned (.int .i64 r) ∧ (0 ≤ r ↔ hasId zs len id) ∧ Grw w w' := by
  have H : Hid (Prs w a zs) := h
  have hpl : p < w.heap.size := World.block_lt_of_cell? w _ hp
  have HP : Hid (w.cell? ⟨p, 0, none⟩ = some (.int .i64 id)) := hp
  have hmix : Try.prog.follows .mixedOrders = true := by kernel_rfl
  clear h hp
  go_enter Try.func85, Try.ntmps85
  go_wp2
  go_loopw [8] (fun i wr => ∃ k : Nat, k ≤ len ∧ i = .int .i64 k ∧ Hid (∀ j, j < k → (zs.getD j (0, 0)).2 ≠ id) ∧ Hid (Grw w wr)) (fun i _ => len - (intOf i).toNat)
  case atStart => exact ⟨0, Nat.zero_le _, rfl, fun j hj => absurd hj (by omega), Grw.refl w⟩
  case round =>
    obtain ⟨k, hk, rfl, HN, HG⟩ := hrel
    by_cases hlt : k < len
    · obtain ⟨b, off, rfl, hb, p0, p1⟩ := H.out.cells HG.out.below (k := k) (by omega)
      have hpr : wr.cell? ⟨p, 0, none⟩ = some (.int .i64 id) := by rw [HG.out.below.cell (by exact hpl)]; exact HP.out
      have HF : Hid (Calls Try.prog 73 #[.agg #[.int .i64 (zs.getD k (0, 0)).1, .int .i64 (zs.getD k (0, 0)).2], .pointer (some ⟨p, 0, none⟩)] wr fun e w' => e = .returned (.bool ((zs.getD k (0, 0)).2 == id)) ∧ Grw wr w') := hasTimerFn_any _ _ id p wr hpr
      have E1 : Hid ((zs.getD k (0, 0)).2 ≠ id → ∀ j, j < k + 1 → (zs.getD j (0, 0)).2 ≠ id) := fun h j hj => by
        by_cases e : j < k
        · exact HN.out j e
        · rw [show j = k by omega]; exact h
      have E2 : Hid ((zs.getD k (0, 0)).2 = id → hasId zs len id) := fun h => ⟨k, hlt, h⟩
      generalize (zs.getD k (0, 0)).1 = x0 at p0 HF
      generalize (zs.getD k (0, 0)).2 = x1 at p1 HF E1 E2
      have hltz : (k : Int) < (len : Int) := by omega
      clear HN hpr
      by_cases he : x1 = id
      · have hbq : (x1 == id) = true := by simp [he]
        rw [hbq] at HF
        have HD := E2.out he
        clear E1 E2 hbq he
        go_wp2_with fail
        refine HF.out.mono ?_
        rintro e w1 ⟨rfl, g1⟩
        have HG1 : Hid (Grw w w1) := HG.out.trans g1
        clear g1 p0 p1 HF HG
        go_wp2
        go_ret
        exact ⟨k, rfl, ⟨fun _ => HD, fun _ => by omega⟩, HG1.out⟩
      · have hbq : (x1 == id) = false := by simp [he]
        rw [hbq] at HF
        have HD : Hid (∀ j, j < k + 1 → (zs.getD j (0, 0)).2 ≠ id) := E1.out he
        clear E1 E2 hbq he
        go_wp2_with fail
        refine HF.out.mono ?_
        rintro e w1 ⟨rfl, g1⟩
        have HG1 : Hid (Grw w w1) := HG.out.trans g1
        clear g1 p0 p1 HF HG
        go_wp2
        go_roundw
        case rel => exact ⟨k + 1, by omega, by go_num, HD, HG1⟩
        case measure => simp [intOf]; omega
    · obtain rfl : k = len := by omega
      have HD : Hid (¬ hasId zs k id) := fun ⟨j, hj, e⟩ => HN.out j hj e
      go_wp2
      go_ret
      exact ⟨-1, rfl, ⟨fun h => absurd h (by omega), fun h => absurd h HD.out⟩, HG.out⟩

theorem hasTimer_any (a : Option Addr) (len cap : Nat) (zs : List (Int × Int)) (id : Int) (w : World) (h : Prs w a zs) (hl : len ≤ zs.length) (hc : len ≤ 4096) :
    Calls Try.prog 66 #[.slice a len cap, .int .i64 id] w fun e w' => e = .returned (.bool (dec (hasId zs len id))) ∧ Grw w w' := by
  have HX : Hid (∀ w p, Prs w a zs → w.cell? ⟨p, 0, none⟩ = some (.int .i64 id) → Calls Try.prog 72 #[.slice a len cap, .func (.func 73) #[] #[.pointer (some ⟨p, 0, none⟩)]] w fun e w' => e = .returned (.bool (dec (hasId zs len id))) ∧ Grw w w') := by
    intro w p h hp
    have HI : Hid (Calls Try.prog 85 #[.slice a len cap, .func (.func 73) #[] #[.pointer (some ⟨p, 0, none⟩)]] w fun e w' => ∃ r : Int, e = .returned (.int .i64 r) ∧ (0 ≤ r ↔ hasId zs len id) ∧ Grw w w') := indexFn_any a len cap zs id p w h hl hc hp
    clear h hp
    go_enter Try.func72, Try.ntmps72
    go_wp2_with fail
    refine HI.out.mono ?_
    rintro e w1 ⟨r, rfl, hr, g1⟩
    have HG1 : Hid (Grw w w1) := g1
    have HR : Hid (decide (0 ≤ r) = dec (hasId zs len id)) := by
      show decide _ = decide _
      exact decide_eq_decide.2 hr
    clear g1 hr HI
    go_wp2
    go_ret
    exact ⟨by rw [← HR.out]; rfl, HG1.out⟩
  have H : Hid (Prs w a zs) := h
  clear h
  go_enter Try.func66, Try.ntmps66
  go_wp2_with fail
  refine (HX.out _ _ (H.out.keep ((Below.refl _ _).alloc (Nat.le_refl _) _)) (by simp)).mono ?_
  rintro e w1 ⟨rfl, g1⟩
  have HG1 : Hid (Grw w w1) := ((Grw.refl _).alloc _).trans g1
  clear g1
  go_wp2
  go_ret
  exact ⟨rfl, HG1.out⟩
end Go.Proofs.Ytbbjelkicenbhaa
