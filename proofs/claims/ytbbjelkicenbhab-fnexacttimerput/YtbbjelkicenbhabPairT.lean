/- Timers in the laws: szTimerS, toTimerS (a copy of one's own), eqTimerS. -/
import Derived.Test.YtbbjelkicenbhabProg
import Derived.Test.YtbbjelkicenbhabGrw
import Derived.Test.YtbbjelkicenbhabPairs2
namespace Go.Proofs.Ytbbjelkicenbhab
open Go.RowKit Go.PlainAid Go.Sort
set_option linter.unusedVariables false
set_option maxRecDepth 20000

theorem szTimerS_any (a : Option Addr) (len cap : Nat) (w : World) (hl : len ≤ 9223372036854775807) :
    Calls Try.prog 15 #[.slice a len cap, .int .i64 1048576] w fun e w' => ∃ r : Int, e = .returned (.int .i64 r) ∧ (0 ≤ r → len ≤ 1048576) ∧ -1 ≤ r ∧ r ≤ 1048576 ∧ w' = w := by
  by_cases h : (len : Int) ≤ 1048576
  · go_enter Try.func15, Try.ntmps15
    go_wp2
    go_ret
    exact ⟨_, rfl, fun _ => by omega, by omega, by omega, rfl⟩
  · go_enter Try.func15, Try.ntmps15
    go_wp2
    go_ret
    exact ⟨-1, rfl, fun h => absurd h (by omega), by omega, by omega, rfl⟩
theorem toTimer_g (f0 f1 : Int) (w : World) :
    Calls Try.prog 18 #[.agg #[.int .i64 f0, .int .i64 f1]] w fun e w' => e = .returned (.agg #[.int .i64 f0, .int .i64 f1]) ∧ Grw w w' := by
  go_enter Try.func18, Try.ntmps18
  go_wp2
  (try simp only [Exit.inBlock, Exit.then])
  refine bodyPost_ret (v := .agg #[.int .i64 f0, .int .i64 f1]) (by simp [results, Try.results18, go_sem]; try rfl) rfl ?_
  exact ⟨rfl, (((Grw.refl _).alloc _).alloc _).alloc _⟩
theorem eqTimer_g (x0 x1 : Int) (w : World) :
    Calls Try.prog 45 #[.agg #[.int .i64 x0, .int .i64 x1], .agg #[.int .i64 x0, .int .i64 x1]] w fun e w' => e = .returned (.bool true) ∧ Grw w w' := by
  have h0 : (x0 != x0) = false := by simp
  have h1 : (x1 != x1) = false := by simp
  go_enter Try.func45, Try.ntmps45
  go_wp2
  go_ret
  exact ⟨rfl, ((Grw.refl _).alloc _).alloc _⟩
theorem timerInfo : (Try.prog.info? 45).map (fun i => (i.zero, i.size, i.bytes)) = some (some (.agg #[.int .i64 0, .int .i64 0]), 2, 16) := by kernel_rfl

set_option maxHeartbeats 1000000 in
theorem toTimerS_any (a : Option Addr) (len cap : Nat) (zs : List (Int × Int)) (w : World) (h : Prs w a zs) (hl : zs.length = len) (hc : len ≤ 1048576) :
    Calls Try.prog 17 #[.slice a len cap] w fun e w' => e = .returned (.slice (some ⟨w.heap.size, 0, none⟩) len len) ∧ OwnP 45 w' w.heap.size (.slice (some ⟨w.heap.size, 0, none⟩) len len) zs ∧ Below w.heap.size w w' := by
  have H : Hid (Prs w a zs) := h
  clear h
  obtain ⟨i0, hi, hz0, hz1, hz2⟩ := info_parts timerInfo
  have hmk := run_make (P := Try.prog) w 41 45 i0 (.agg #[.int .i64 0, .int .i64 0]) Try.underlying41 hi hz0 .i64 .i64 len len (by omega) (Int.le_refl _) (by rw [hz2]; omega) (by omega)
  rw [hz1, Int.toNat_natCast] at hmk
  have HM : Hid (OwnP 45 (w.alloc (.cells (madeCells #[Value.int .i64 0, .int .i64 0] (len * 2)) 45)) w.heap.size (.slice (some ⟨w.heap.size, 0, none⟩) len len) (List.replicate len (0, 0)) ∧ Below w.heap.size w (w.alloc (.cells (madeCells #[Value.int .i64 0, .int .i64 0] (len * 2)) 45))) := ⟨OwnP.made w _ _ len (Nat.le_refl _) (by unfold maxLen; omega), (Below.refl _ _).alloc (Nat.le_refl _) _⟩
  have hmk2 : (Instr.makeSlice 41 (.int .i64 (len : Int)) (.int .i64 (len : Int))).run Try.prog w = .ok (.slice (some ⟨w.heap.size, 0, none⟩) len len) (w.alloc (.cells (madeCells #[Value.int .i64 0, .int .i64 0] (len * 2)) 45)) := hmk
  clear hmk hi hz0 hz1 hz2
  obtain ⟨W, hW⟩ : ∃ W, W = w.alloc (.cells (madeCells #[Value.int .i64 0, .int .i64 0] (len * 2)) 45) := ⟨_, rfl⟩
  rw [← hW] at HM hmk2
  clear hW
  go_enter Try.func17, Try.ntmps17
  go_wp2
  go_loopw [4] (fun i wr => ∃ (k : Nat) (L : List (Int × Int)), k ≤ len ∧ i = .int .i64 k ∧ Hid (OwnP 45 wr w.heap.size (.slice (some ⟨w.heap.size, 0, none⟩) len len) L ∧ L.length = len ∧ L.take k = zs.take k ∧ Below w.heap.size w wr)) (fun i _ => len - (intOf i).toNat)
  case atStart => exact ⟨0, _, Nat.zero_le _, rfl, HM.out.1, List.length_replicate .., rfl, HM.out.2⟩
  case round =>
    obtain ⟨k, L, hk, rfl, X⟩ := hrel
    by_cases hlt : k < len
    · obtain ⟨b, off, rfl, hb, q0, q1⟩ := H.out.cells X.out.2.2.2 (k := k) (by omega)
      have HT : Hid (∀ w, Calls Try.prog 18 #[.agg #[.int .i64 (zs.getD k (0, 0)).1, .int .i64 (zs.getD k (0, 0)).2]] w fun e w' => e = .returned (.agg #[.int .i64 (zs.getD k (0, 0)).1, .int .i64 (zs.getD k (0, 0)).2]) ∧ Grw w w') := fun w => toTimer_g _ _ w
      have TS : Hid ((L.set k ((zs.getD k (0, 0)).1, (zs.getD k (0, 0)).2)).take (k + 1) = zs.take (k + 1)) := take_set (by rw [X.out.2.1, hl]) (by omega) X.out.2.2.1
      generalize (zs.getD k (0, 0)).1 = x0 at q0 HT TS
      generalize (zs.getD k (0, 0)).2 = x1 at q1 HT TS
      have hltz : (k : Int) < (len : Int) := by omega
      go_wp2_with fail
      refine (HT.out _).mono ?_
      rintro e w1 ⟨rfl, b1⟩
      have o1 := X.out.1.now b1.below
      have hc := o1.cell X.out.2.1 hlt
      have hs1 := X.out.2.2.2.trans (b1.below.mono X.out.2.2.2.size)
      have Y : Hid (OwnP 45 ((w1.setCell ⟨w.heap.size, k * 2, none⟩ (.int .i64 x0)).setCell ⟨w.heap.size, k * 2 + 1, none⟩ (.int .i64 x1)) w.heap.size (.slice (some ⟨w.heap.size, 0, none⟩) len len) (L.set k (x0, x1)) ∧ (L.set k (x0, x1)).length = len ∧ (L.set k (x0, x1)).take (k + 1) = zs.take (k + 1) ∧ Below w.heap.size w ((w1.setCell ⟨w.heap.size, k * 2, none⟩ (.int .i64 x0)).setCell ⟨w.heap.size, k * 2 + 1, none⟩ (.int .i64 x1))) := by
        have h2 := o1.set X.out.2.1 (Nat.le_refl _) hc.2.2.2.2 hlt x0 x1
        exact ⟨h2.1, by rw [List.length_set]; exact X.out.2.1, TS.out, hs1.trans h2.2⟩
      obtain ⟨c0, c1, z0, z1, -⟩ := hc
      clear o1 hs1 b1 q0 q1 HT TS X HM hmk2
      go_wp2
      go_roundw
      case rel => exact ⟨k + 1, _, by omega, by go_num, Y⟩
      case measure => simp [intOf]; omega
    · obtain rfl : k = len := by omega
      have e1 : L = zs := by
        have := X.out.2.2.1
        rw [List.take_of_length_le (by rw [X.out.2.1]; exact Nat.le_refl _), List.take_of_length_le (by omega)] at this
        exact this
      subst e1
      go_wp2
      go_ret
      exact ⟨rfl, X.out.1, X.out.2.2.2⟩

set_option maxHeartbeats 1000000 in
theorem eqTimerS_yes (a a' : Option Addr) (len cap cap' : Nat) (zs : List (Int × Int)) (w : World) (h : Prs w a zs) (h' : Prs w a' zs) (hl : zs.length = len) (hlen : len ≤ 1048576) :
    Calls Try.prog 20 #[.slice a len cap, .slice a' len cap'] w fun e w' => e = .returned (.bool true) ∧ Grw w w' := by
  have hne : ((len : Int) != (len : Int)) = false := by simp
  have hmix : Try.prog.follows .mixedOrders = true := by kernel_rfl
  have H : Hid (Prs w a zs) := h
  have H' : Hid (Prs w a' zs) := h'
  clear h h'
  go_enter Try.func20, Try.ntmps20
  go_wp2
  go_loopw [5] (fun i wr => ∃ k : Nat, k ≤ len ∧ i = .int .i64 k ∧ Hid (Grw w wr)) (fun i _ => len - (intOf i).toNat)
  case atStart => exact ⟨0, Nat.zero_le _, rfl, Grw.refl w⟩
  case round =>
    obtain ⟨k, hk, rfl, HG⟩ := hrel
    by_cases hlt2 : k < len
    · obtain ⟨b, off, rfl, hb, p0, p1⟩ := H.out.cells HG.out.below (k := k) (by omega)
      obtain ⟨b', off', rfl, hb', p2, p3⟩ := H'.out.cells HG.out.below (k := k) (by omega)
      have q0 := grown_cell hb HG.out p0
      have q1 := grown_cell hb HG.out p1
      have q2 := grown_cell hb' HG.out p2
      have q3 := grown_cell hb' HG.out p3
      generalize (zs.getD k (0, 0)).1 = x0 at q0 q2
      generalize (zs.getD k (0, 0)).2 = x1 at q1 q3
      have HE : Hid (∀ w, Calls Try.prog 45 #[.agg #[.int .i64 x0, .int .i64 x1], .agg #[.int .i64 x0, .int .i64 x1]] w fun e w' => e = .returned (.bool true) ∧ Grw w w') := fun w => eqTimer_g x0 x1 w
      have hltz : (k : Int) < (len : Int) := by omega
      clear p0 p1 p2 p3
      go_wp2_with fail
      refine wp_region_quiet_grown (by assumption) (by kernel_rfl) ?_
      repeat (go_big_quiet_step (first | fail | (go_at_call 45; exact Calls.grown_of (HE.out _))))
      refine wpQuiet_nil ?_
      intro _ hw'
      obtain ⟨⟨nq, osq⟩, hw''⟩ := hw'
      subst hw''
      have HG2 : Hid (Grw w (grow (wr.drewN nq) osq)) := HG.out.trans ⟨nq, osq, rfl⟩
      clear q0 q1 q2 q3 HG
      go_wp2
      go_roundw
      case rel => exact ⟨k + 1, by omega, by go_num, HG2⟩
      case measure => simp [intOf]; omega
    · obtain rfl : k = len := by omega
      go_wp2
      go_ret
      exact ⟨rfl, HG.out⟩
end Go.Proofs.Ytbbjelkicenbhab
