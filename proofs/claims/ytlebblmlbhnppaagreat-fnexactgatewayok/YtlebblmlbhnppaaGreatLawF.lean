/- Flows and lists of them in the laws: measured, copied, compared. -/
import Derived.Test.YtlebblmlbhnppaaGreatOpenF
import Derived.Test.YtlebblmlbhnppaaGreatGrw
import Derived.Test.YtlebblmlbhnppaaGreatKeeps
import Derived.Test.YtlebblmlbhnppaaGreatInfo
import Derived.Test.YtlebblmlbhnppaaGreatRoom
import Derived.Test.YtlebblmlbhnppaaGreatTests
namespace Go.Proofs.YtlebblmlbhnppaaGreat
open Go.RowKit Go.PlainAid Go.Proofs.YtlebblmlbhnppaaGreat.Bt Go.Sort
set_option linter.unusedVariables false
set_option maxRecDepth 20000
set_option maxHeartbeats 2000000 in
theorem toFlow_any (pr : Int) (mc : ByteArray) (si sp di dp st un ow : Int) (w : World) :
    Calls Tryz.prog 152 #[.agg #[.int .i64 pr, .string mc, .int .i64 si, .int .i64 sp, .int .i64 di, .int .i64 dp, .int .i64 st, .int .i64 un, .int .i64 ow]] w fun e w' => e = .returned (.agg #[.int .i64 pr, .string mc, .int .i64 si, .int .i64 sp, .int .i64 di, .int .i64 dp, .int .i64 st, .int .i64 un, .int .i64 ow]) ∧ Grw w w' := by
  go_enter Tryz.func152, Tryz.ntmps152
  go_wp2
  (try simp only [Exit.inBlock, Exit.then])
  refine bodyPost_ret (v := .agg #[.int .i64 pr, .string mc, .int .i64 si, .int .i64 sp, .int .i64 di, .int .i64 dp, .int .i64 st, .int .i64 un, .int .i64 ow]) (by simp [results, Tryz.results152, go_sem]; try rfl) rfl ?_
  exact ⟨rfl, ((((Grw.refl _).alloc _).alloc _).alloc _)⟩
set_option maxHeartbeats 1000000 in
theorem eqFlow_any (pr : Int) (mc : ByteArray) (si sp di dp st un ow : Int) (w : World) :
    Calls Tryz.prog 131 #[.agg #[.int .i64 pr, .string mc, .int .i64 si, .int .i64 sp, .int .i64 di, .int .i64 dp, .int .i64 st, .int .i64 un, .int .i64 ow], .agg #[.int .i64 pr, .string mc, .int .i64 si, .int .i64 sp, .int .i64 di, .int .i64 dp, .int .i64 st, .int .i64 un, .int .i64 ow]] w fun e w' => e = .returned (.bool true) ∧ Grw w w' := by
  have h0 : (pr != pr) = false := by simp
  have h1 : (mc.toList == mc.toList) = true := by simp
  have h2 : (si != si) = false := by simp
  have h3 : (sp != sp) = false := by simp
  have h4 : (di != di) = false := by simp
  have h5 : (dp != dp) = false := by simp
  have h6 : (st != st) = false := by simp
  have h7 : (un != un) = false := by simp
  have h8 : (ow != ow) = false := by simp
  go_enter Tryz.func131, Tryz.ntmps131
  go_wp2
  go_ret
  exact ⟨rfl, ((Grw.refl _).alloc _).alloc _⟩
theorem infoFlow : (Tryz.prog.info? 122).map (fun i => (i.zero, i.size, i.bytes)) = some (some (.agg #[.int .i64 0, .string ⟨#[]⟩, .int .i64 0, .int .i64 0, .int .i64 0, .int .i64 0, .int .i64 0, .int .i64 0, .int .i64 0]), 9, 80) := by kernel_rfl
theorem zFlow : (#[.int .i64 0, .string ⟨#[]⟩, .int .i64 0, .int .i64 0, .int .i64 0, .int .i64 0, .int .i64 0, .int .i64 0, .int .i64 0] : Array Value).toList = wvG default := rfl
set_option maxHeartbeats 2000000 in
theorem toFlowS_any (a : Option Addr) (len cap : Nat) (xs : List FlowV) (w : World) (h : Rw FlR 9 w a xs) (hl : xs.length = len) (hc : len ≤ 1048576) :
    Calls Tryz.prog 79 #[.slice a len cap] w fun e w' => e = .returned (.slice (some ⟨w.heap.size, 0, none⟩) len len) ∧ OwnS wvG 9 122 w' w.heap.size (.slice (some ⟨w.heap.size, 0, none⟩) len len) xs ∧ (∀ x, x ∈ xs → FlRok x) ∧ Below w.heap.size w w' := by
  have RW : Hid (Rw FlR 9 w a xs) := h
  have HK : Hid (∀ x, x ∈ xs → FlRok x) := by
    intro x hx
    obtain ⟨i, hi⟩ := List.getElem?_of_mem hx
    obtain ⟨b, off, vs, _, _, _, h2, _⟩ := h.at FR.kp (Below.refl _ _) hi
    exact h2.2
  clear h
  obtain ⟨i0, hi, hz0, hz1, hz2⟩ := info_parts infoFlow
  have hmk := run_make (P := Tryz.prog) w 47 122 i0 (.agg #[.int .i64 0, .string ⟨#[]⟩, .int .i64 0, .int .i64 0, .int .i64 0, .int .i64 0, .int .i64 0, .int .i64 0, .int .i64 0]) Tryz.underlying47 hi hz0 .i64 .i64 len len (by omega) (Int.le_refl _) (by rw [hz2]; omega) (by omega)
  rw [hz1, Int.toNat_natCast] at hmk
  have HM : Hid (OwnS wvG 9 122 (w.alloc (.cells (madeCells #[.int .i64 0, .string ⟨#[]⟩, .int .i64 0, .int .i64 0, .int .i64 0, .int .i64 0, .int .i64 0, .int .i64 0, .int .i64 0] (len * 9)) 122)) w.heap.size (.slice (some ⟨w.heap.size, 0, none⟩) len len) (List.replicate len default) ∧ Below w.heap.size w (w.alloc (.cells (madeCells #[.int .i64 0, .string ⟨#[]⟩, .int .i64 0, .int .i64 0, .int .i64 0, .int .i64 0, .int .i64 0, .int .i64 0, .int .i64 0] (len * 9)) 122))) := ⟨OwnS.made w _ _ len default _ zFlow rfl (by omega) (Nat.le_refl _) (by unfold maxLen; omega), (Below.refl _ _).alloc (Nat.le_refl _) _⟩
  have hmk2 : (Instr.makeSlice 47 (.int .i64 (len : Int)) (.int .i64 (len : Int))).run Tryz.prog w = .ok (.slice (some ⟨w.heap.size, 0, none⟩) len len) (w.alloc (.cells (madeCells #[.int .i64 0, .string ⟨#[]⟩, .int .i64 0, .int .i64 0, .int .i64 0, .int .i64 0, .int .i64 0, .int .i64 0, .int .i64 0] (len * 9)) 122)) := hmk
  clear hmk hi hz0 hz1 hz2
  obtain ⟨W, hW⟩ : ∃ W, W = w.alloc (.cells (madeCells #[.int .i64 0, .string ⟨#[]⟩, .int .i64 0, .int .i64 0, .int .i64 0, .int .i64 0, .int .i64 0, .int .i64 0, .int .i64 0] (len * 9)) 122) := ⟨_, rfl⟩
  rw [← hW] at HM hmk2
  clear hW
  go_enter Tryz.func79, Tryz.ntmps79
  go_wp2
  go_loopw [4] (fun i wr => ∃ (k : Nat) (L : List FlowV), k ≤ len ∧ i = .int .i64 k ∧ Hid (OwnS wvG 9 122 wr w.heap.size (.slice (some ⟨w.heap.size, 0, none⟩) len len) L ∧ L.length = len ∧ L.take k = xs.take k ∧ Below w.heap.size w wr)) (fun i _ => len - (intOf i).toNat)
  case atStart => exact ⟨0, _, Nat.zero_le _, rfl, HM.out.1, List.length_replicate .., rfl, HM.out.2⟩
  case round =>
    obtain ⟨k, L, hk, rfl, X⟩ := hrel
    by_cases hlt : k < len
    · obtain ⟨x, hx⟩ := at_of hl hlt
      obtain ⟨b, off, vs, rfl, hb, hvl, hR, hc⟩ := RW.out.at FR.kp X.out.2.2.2 hx
      have TS : Hid ((L.set k x).take (k + 1) = xs.take (k + 1)) := takeS_set (by rw [X.out.2.1, hl]) hx X.out.2.2.1
      obtain ⟨pr, mc, si, sp, di, dp, st, un, ow⟩ := x
      obtain ⟨rfl, hok⟩ := hR
      clear hok
      have q0 : wr.cell? ⟨b, off + k * 9, none⟩ = some (.int .i64 pr) := hc 0 _ rfl
      have q1 : wr.cell? ⟨b, off + k * 9 + 1, none⟩ = some (.string mc) := hc 1 _ rfl
      have q2 : wr.cell? ⟨b, off + k * 9 + 2, none⟩ = some (.int .i64 si) := hc 2 _ rfl
      have q3 : wr.cell? ⟨b, off + k * 9 + 3, none⟩ = some (.int .i64 sp) := hc 3 _ rfl
      have q4 : wr.cell? ⟨b, off + k * 9 + 4, none⟩ = some (.int .i64 di) := hc 4 _ rfl
      have q5 : wr.cell? ⟨b, off + k * 9 + 5, none⟩ = some (.int .i64 dp) := hc 5 _ rfl
      have q6 : wr.cell? ⟨b, off + k * 9 + 6, none⟩ = some (.int .i64 st) := hc 6 _ rfl
      have q7 : wr.cell? ⟨b, off + k * 9 + 7, none⟩ = some (.int .i64 un) := hc 7 _ rfl
      have q8 : wr.cell? ⟨b, off + k * 9 + 8, none⟩ = some (.int .i64 ow) := hc 8 _ rfl
      have HT : Hid (∀ w, Calls Tryz.prog 152 #[.agg #[.int .i64 pr, .string mc, .int .i64 si, .int .i64 sp, .int .i64 di, .int .i64 dp, .int .i64 st, .int .i64 un, .int .i64 ow]] w fun e w' => e = .returned (.agg #[.int .i64 pr, .string mc, .int .i64 si, .int .i64 sp, .int .i64 di, .int .i64 dp, .int .i64 st, .int .i64 un, .int .i64 ow]) ∧ Grw w w') := fun w => toFlow_any pr mc si sp di dp st un ow w
      have hltz : (k : Int) < (len : Int) := by omega
      clear hc
      go_wp2_with fail
      refine (HT.out _).mono ?_
      rintro e w1 ⟨rfl, g1⟩
      have b1 := g1.below
      have o1 := X.out.1.now b1
      obtain ⟨y, hy⟩ := at_of (k := k) X.out.2.1 hlt
      obtain ⟨c0, z0⟩ := o1.cell wvG_len (j := 0) hy rfl
      obtain ⟨c1, z1⟩ := o1.cell wvG_len (j := 1) hy rfl
      obtain ⟨c2, z2⟩ := o1.cell wvG_len (j := 2) hy rfl
      obtain ⟨c3, z3⟩ := o1.cell wvG_len (j := 3) hy rfl
      obtain ⟨c4, z4⟩ := o1.cell wvG_len (j := 4) hy rfl
      obtain ⟨c5, z5⟩ := o1.cell wvG_len (j := 5) hy rfl
      obtain ⟨c6, z6⟩ := o1.cell wvG_len (j := 6) hy rfl
      obtain ⟨c7, z7⟩ := o1.cell wvG_len (j := 7) hy rfl
      obtain ⟨c8, z8⟩ := o1.cell wvG_len (j := 8) hy rfl
      replace c0 : w1.cell? ⟨w.heap.size, k * 9, none⟩ = some (.int .i64 y.pr) := c0
      replace z0 : w1.frozen? ⟨w.heap.size, k * 9, none⟩ = false := z0
      have Y0 : ∀ W1, W1 = ((((((((w1.setCell ⟨w.heap.size, k * 9, none⟩ (.int .i64 pr)).setCell ⟨w.heap.size, k * 9 + 1, none⟩ (.string mc)).setCell ⟨w.heap.size, k * 9 + 2, none⟩ (.int .i64 si)).setCell ⟨w.heap.size, k * 9 + 3, none⟩ (.int .i64 sp)).setCell ⟨w.heap.size, k * 9 + 4, none⟩ (.int .i64 di)).setCell ⟨w.heap.size, k * 9 + 5, none⟩ (.int .i64 dp)).setCell ⟨w.heap.size, k * 9 + 6, none⟩ (.int .i64 st)).setCell ⟨w.heap.size, k * 9 + 7, none⟩ (.int .i64 un)).setCell ⟨w.heap.size, k * 9 + 8, none⟩ (.int .i64 ow) → OwnS wvG 9 122 W1 w.heap.size (.slice (some ⟨w.heap.size, 0, none⟩) len len) (L.set k ⟨pr, mc, si, sp, di, dp, st, un, ow⟩) ∧ (L.set k ⟨pr, mc, si, sp, di, dp, st, un, ow⟩).length = len ∧ (L.set k ⟨pr, mc, si, sp, di, dp, st, un, ow⟩).take (k + 1) = xs.take (k + 1) ∧ Below w.heap.size w W1 := by
        intro W1 hW1
        have h2 := o1.store wvG_len hlt ⟨pr, mc, si, sp, di, dp, st, un, ow⟩
        have e3 : W1 = wsets w1 w.heap.size (k * 9) (wvG ⟨pr, mc, si, sp, di, dp, st, un, ow⟩) := hW1
        rw [← e3] at h2
        exact ⟨h2.1, by rw [List.length_set]; exact X.out.2.1, TS.out, (X.out.2.2.2.trans (b1.mono X.out.2.2.2.size)).trans (below_row h2.2 (Nat.le_refl _) (Nat.le_trans X.out.2.2.2.size b1.size))⟩
      have Y : Hid (OwnS wvG 9 122 (((((((((w1.setCell ⟨w.heap.size, k * 9, none⟩ (.int .i64 pr)).setCell ⟨w.heap.size, k * 9 + 1, none⟩ (.string mc)).setCell ⟨w.heap.size, k * 9 + 2, none⟩ (.int .i64 si)).setCell ⟨w.heap.size, k * 9 + 3, none⟩ (.int .i64 sp)).setCell ⟨w.heap.size, k * 9 + 4, none⟩ (.int .i64 di)).setCell ⟨w.heap.size, k * 9 + 5, none⟩ (.int .i64 dp)).setCell ⟨w.heap.size, k * 9 + 6, none⟩ (.int .i64 st)).setCell ⟨w.heap.size, k * 9 + 7, none⟩ (.int .i64 un)).setCell ⟨w.heap.size, k * 9 + 8, none⟩ (.int .i64 ow)) w.heap.size (.slice (some ⟨w.heap.size, 0, none⟩) len len) (L.set k ⟨pr, mc, si, sp, di, dp, st, un, ow⟩) ∧ (L.set k ⟨pr, mc, si, sp, di, dp, st, un, ow⟩).length = len ∧ (L.set k ⟨pr, mc, si, sp, di, dp, st, un, ow⟩).take (k + 1) = xs.take (k + 1) ∧ Below w.heap.size w (((((((((w1.setCell ⟨w.heap.size, k * 9, none⟩ (.int .i64 pr)).setCell ⟨w.heap.size, k * 9 + 1, none⟩ (.string mc)).setCell ⟨w.heap.size, k * 9 + 2, none⟩ (.int .i64 si)).setCell ⟨w.heap.size, k * 9 + 3, none⟩ (.int .i64 sp)).setCell ⟨w.heap.size, k * 9 + 4, none⟩ (.int .i64 di)).setCell ⟨w.heap.size, k * 9 + 5, none⟩ (.int .i64 dp)).setCell ⟨w.heap.size, k * 9 + 6, none⟩ (.int .i64 st)).setCell ⟨w.heap.size, k * 9 + 7, none⟩ (.int .i64 un)).setCell ⟨w.heap.size, k * 9 + 8, none⟩ (.int .i64 ow))) := Y0 _ rfl
      clear Y0
      clear o1 b1 g1 q0 q1 q2 q3 q4 q5 q6 q7 q8 HT X HM hmk2 hx hy TS
      go_wp2
      go_roundw
      case rel => exact ⟨k + 1, _, by omega, by go_num, Y⟩
      case measure => simp [intOf]; omega
    · obtain rfl : k = len := by omega
      have e1 : L = xs := by
        have := X.out.2.2.1
        rw [List.take_of_length_le (by rw [X.out.2.1]; exact Nat.le_refl _), List.take_of_length_le (by omega)] at this
        exact this
      subst e1
      go_wp2
      go_ret
      exact ⟨rfl, X.out.1, HK.out, X.out.2.2.2⟩
set_option maxHeartbeats 2000000 in
theorem eqFlowS_yes (a a' : Option Addr) (len cap cap' : Nat) (xs : List FlowV) (w : World) (h : Rw FlR 9 w a xs) (h' : Rw FlR 9 w a' xs) (hl : xs.length = len) (hlen : len ≤ 9223372036854775807) :
    Calls Tryz.prog 51 #[.slice a len cap, .slice a' len cap'] w fun e w' => e = .returned (.bool true) ∧ Grw w w' := by
  have hne : ((len : Int) != (len : Int)) = false := by simp
  have hmix : Tryz.prog.follows .mixedOrders = true := by kernel_rfl
  have RW : Hid (Rw FlR 9 w a xs) := h
  have RW' : Hid (Rw FlR 9 w a' xs) := h'
  clear h h'
  go_enter Tryz.func51, Tryz.ntmps51
  go_wp2
  go_loopw [5] (fun i wr => ∃ k : Nat, k ≤ len ∧ i = .int .i64 k ∧ Hid (Grw w wr)) (fun i _ => len - (intOf i).toNat)
  case atStart => exact ⟨0, Nat.zero_le _, rfl, Grw.refl w⟩
  case round =>
    obtain ⟨k, hk, rfl, HG⟩ := hrel
    by_cases hlt : k < len
    · obtain ⟨x, hx⟩ := at_of hl hlt
      obtain ⟨b, off, vs, rfl, hb, hvl, hR, hc⟩ := RW.out.at FR.kp HG.out.below hx
      obtain ⟨b', off', vs', rfl, hb', hvl', hR', hc'⟩ := RW'.out.at FR.kp HG.out.below hx
      obtain ⟨pr, mc, si, sp, di, dp, st, un, ow⟩ := x
      obtain ⟨rfl, -⟩ := hR
      obtain ⟨rfl, -⟩ := hR'
      have q0 : ∀ n os, (grow (wr.drewN n) os).cell? ⟨b, off + k * 9, none⟩ = some (.int .i64 pr) := fun n os => grown_cell hb HG.out (hc 0 _ rfl) n os
      have q1 : ∀ n os, (grow (wr.drewN n) os).cell? ⟨b, off + k * 9 + 1, none⟩ = some (.string mc) := fun n os => grown_cell hb HG.out (hc 1 _ rfl) n os
      have q2 : ∀ n os, (grow (wr.drewN n) os).cell? ⟨b, off + k * 9 + 2, none⟩ = some (.int .i64 si) := fun n os => grown_cell hb HG.out (hc 2 _ rfl) n os
      have q3 : ∀ n os, (grow (wr.drewN n) os).cell? ⟨b, off + k * 9 + 3, none⟩ = some (.int .i64 sp) := fun n os => grown_cell hb HG.out (hc 3 _ rfl) n os
      have q4 : ∀ n os, (grow (wr.drewN n) os).cell? ⟨b, off + k * 9 + 4, none⟩ = some (.int .i64 di) := fun n os => grown_cell hb HG.out (hc 4 _ rfl) n os
      have q5 : ∀ n os, (grow (wr.drewN n) os).cell? ⟨b, off + k * 9 + 5, none⟩ = some (.int .i64 dp) := fun n os => grown_cell hb HG.out (hc 5 _ rfl) n os
      have q6 : ∀ n os, (grow (wr.drewN n) os).cell? ⟨b, off + k * 9 + 6, none⟩ = some (.int .i64 st) := fun n os => grown_cell hb HG.out (hc 6 _ rfl) n os
      have q7 : ∀ n os, (grow (wr.drewN n) os).cell? ⟨b, off + k * 9 + 7, none⟩ = some (.int .i64 un) := fun n os => grown_cell hb HG.out (hc 7 _ rfl) n os
      have q8 : ∀ n os, (grow (wr.drewN n) os).cell? ⟨b, off + k * 9 + 8, none⟩ = some (.int .i64 ow) := fun n os => grown_cell hb HG.out (hc 8 _ rfl) n os
      have r0 : ∀ n os, (grow (wr.drewN n) os).cell? ⟨b', off' + k * 9, none⟩ = some (.int .i64 pr) := fun n os => grown_cell hb' HG.out (hc' 0 _ rfl) n os
      have r1 : ∀ n os, (grow (wr.drewN n) os).cell? ⟨b', off' + k * 9 + 1, none⟩ = some (.string mc) := fun n os => grown_cell hb' HG.out (hc' 1 _ rfl) n os
      have r2 : ∀ n os, (grow (wr.drewN n) os).cell? ⟨b', off' + k * 9 + 2, none⟩ = some (.int .i64 si) := fun n os => grown_cell hb' HG.out (hc' 2 _ rfl) n os
      have r3 : ∀ n os, (grow (wr.drewN n) os).cell? ⟨b', off' + k * 9 + 3, none⟩ = some (.int .i64 sp) := fun n os => grown_cell hb' HG.out (hc' 3 _ rfl) n os
      have r4 : ∀ n os, (grow (wr.drewN n) os).cell? ⟨b', off' + k * 9 + 4, none⟩ = some (.int .i64 di) := fun n os => grown_cell hb' HG.out (hc' 4 _ rfl) n os
      have r5 : ∀ n os, (grow (wr.drewN n) os).cell? ⟨b', off' + k * 9 + 5, none⟩ = some (.int .i64 dp) := fun n os => grown_cell hb' HG.out (hc' 5 _ rfl) n os
      have r6 : ∀ n os, (grow (wr.drewN n) os).cell? ⟨b', off' + k * 9 + 6, none⟩ = some (.int .i64 st) := fun n os => grown_cell hb' HG.out (hc' 6 _ rfl) n os
      have r7 : ∀ n os, (grow (wr.drewN n) os).cell? ⟨b', off' + k * 9 + 7, none⟩ = some (.int .i64 un) := fun n os => grown_cell hb' HG.out (hc' 7 _ rfl) n os
      have r8 : ∀ n os, (grow (wr.drewN n) os).cell? ⟨b', off' + k * 9 + 8, none⟩ = some (.int .i64 ow) := fun n os => grown_cell hb' HG.out (hc' 8 _ rfl) n os
      have HE : Hid (∀ w, Calls Tryz.prog 131 #[.agg #[.int .i64 pr, .string mc, .int .i64 si, .int .i64 sp, .int .i64 di, .int .i64 dp, .int .i64 st, .int .i64 un, .int .i64 ow], .agg #[.int .i64 pr, .string mc, .int .i64 si, .int .i64 sp, .int .i64 di, .int .i64 dp, .int .i64 st, .int .i64 un, .int .i64 ow]] w fun e w' => e = .returned (.bool true) ∧ Grw w w') := fun w => eqFlow_any pr mc si sp di dp st un ow w
      have hltz : (k : Int) < (len : Int) := by omega
      clear hc hc'
      go_wp2_with fail
      refine wp_region_quiet_grown (by assumption) (by kernel_rfl) ?_
      repeat (go_big_quiet_step (first | fail | (go_at_call 131; exact Calls.grown_of (HE.out _))))
      refine wpQuiet_nil ?_
      intro _ hw'
      obtain ⟨⟨nq, osq⟩, hw''⟩ := hw'
      subst hw''
      have HG2 : Hid (Grw w (grow (wr.drewN nq) osq)) := HG.out.trans ⟨nq, osq, rfl⟩
      clear q0 q1 q2 q3 q4 q5 q6 q7 q8 r0 r1 r2 r3 r4 r5 r6 r7 r8 HG HE
      go_wp2
      go_roundw
      case rel => exact ⟨k + 1, by omega, by go_num, HG2⟩
      case measure => simp [intOf]; omega
    · obtain rfl : k = len := by omega
      go_wp2
      go_ret
      exact ⟨rfl, HG.out⟩

set_option maxHeartbeats 1000000 in
theorem szFlow_any (pr : Int) (mc : ByteArray) (si sp di dp st un ow : Int) (l : Int) (w : World) (hmc : mc.size ≤ 9223372036854775807) (h0 : 0 ≤ l) (h1 : l ≤ 1048576) :
    Calls Tryz.prog 147 #[.agg #[.int .i64 pr, .string mc, .int .i64 si, .int .i64 sp, .int .i64 di, .int .i64 dp, .int .i64 st, .int .i64 un, .int .i64 ow], .int .i64 l] w fun e w' => ∃ r : Int, e = .returned (.int .i64 r) ∧ (0 ≤ r → r ≤ l ∧ (mc.size : Int) ≤ l) ∧ -1 ≤ r ∧ r ≤ 1048576 ∧ Grw w w' := by
  by_cases hx : (mc.size : Int) ≤ l
  · go_enter Tryz.func147, Tryz.ntmps147
    go_wp2
    go_ret
    exact ⟨_, rfl, fun _ => ⟨by omega, by omega⟩, by omega, by omega, (Grw.refl _).alloc _⟩
  · go_enter Tryz.func147, Tryz.ntmps147
    go_wp2
    go_ret
    exact ⟨-1, rfl, fun h => absurd h (by omega), by omega, by omega, (Grw.refl _).alloc _⟩
set_option maxHeartbeats 2000000 in
theorem szFlowS_any (a : Option Addr) (len cap : Nat) (xs : List FlowV) (l : Int) (w : World) (h : Rw FlR 9 w a xs) (hl : xs.length = len) (hlm : len ≤ 9223372036854775807) (h0 : 0 ≤ l) (h1 : l ≤ 1048576) :
    Calls Tryz.prog 72 #[.slice a len cap, .int .i64 l] w fun e w' => ∃ r : Int, e = .returned (.int .i64 r) ∧ (0 ≤ r → (len : Int) ≤ l ∧ r ≤ l ∧ ∀ x, x ∈ xs → (x.mc.size : Int) ≤ 1048576) ∧ -1 ≤ r ∧ r ≤ 1048576 ∧ Grw w w' := by
  have RW : Hid (Rw FlR 9 w a xs) := h
  clear h
  by_cases hle : (len : Int) ≤ l
  rotate_left
  · go_enter Tryz.func72, Tryz.ntmps72
    go_wp2
    go_ret
    exact ⟨-1, rfl, fun h => absurd h (by omega), by omega, by omega, Grw.refl _⟩
  go_enter Tryz.func72, Tryz.ntmps72
  go_wp2
  go_loopw [1, 5] (fun p x wr => ∃ (k : Nat) (r : Int), k ≤ len ∧ x = .int .i64 k ∧ p = .int .i64 r ∧ 0 ≤ r ∧ r ≤ l ∧ Hid (∀ x, x ∈ xs.take k → (x.mc.size : Int) ≤ 1048576) ∧ Hid (Grw w wr)) (fun _ x _ => len - (intOf x).toNat)
  case atStart => exact ⟨0, l - len, Nat.zero_le _, rfl, rfl, by omega, by omega, (fun x hx => by simp at hx), Grw.refl _⟩
  case round =>
    obtain ⟨k, r, hk, rfl, rfl, hr0, hr1, HR, HG⟩ := hrel
    by_cases hlt : k < len
    · obtain ⟨x, hx⟩ := at_of hl hlt
      obtain ⟨b, off, vs, rfl, hb, hvl, hR, hc⟩ := RW.out.at FR.kp HG.out.below hx
      have HS : Hid (xs.take (k + 1) = xs.take k ++ [x]) := takeS_next hx
      obtain ⟨pr, mc, si, sp, di, dp, st, un, ow⟩ := x
      obtain ⟨rfl, hok⟩ := hR
      have q0 : wr.cell? ⟨b, off + k * 9, none⟩ = some (.int .i64 pr) := hc 0 _ rfl
      have q1 : wr.cell? ⟨b, off + k * 9 + 1, none⟩ = some (.string mc) := hc 1 _ rfl
      have q2 : wr.cell? ⟨b, off + k * 9 + 2, none⟩ = some (.int .i64 si) := hc 2 _ rfl
      have q3 : wr.cell? ⟨b, off + k * 9 + 3, none⟩ = some (.int .i64 sp) := hc 3 _ rfl
      have q4 : wr.cell? ⟨b, off + k * 9 + 4, none⟩ = some (.int .i64 di) := hc 4 _ rfl
      have q5 : wr.cell? ⟨b, off + k * 9 + 5, none⟩ = some (.int .i64 dp) := hc 5 _ rfl
      have q6 : wr.cell? ⟨b, off + k * 9 + 6, none⟩ = some (.int .i64 st) := hc 6 _ rfl
      have q7 : wr.cell? ⟨b, off + k * 9 + 7, none⟩ = some (.int .i64 un) := hc 7 _ rfl
      have q8 : wr.cell? ⟨b, off + k * 9 + 8, none⟩ = some (.int .i64 ow) := hc 8 _ rfl
      have HN : Hid (∀ w, Calls Tryz.prog 147 #[.agg #[.int .i64 pr, .string mc, .int .i64 si, .int .i64 sp, .int .i64 di, .int .i64 dp, .int .i64 st, .int .i64 un, .int .i64 ow], .int .i64 r] w fun e w' => ∃ r' : Int, e = .returned (.int .i64 r') ∧ (0 ≤ r' → r' ≤ r ∧ (mc.size : Int) ≤ r) ∧ -1 ≤ r' ∧ r' ≤ 1048576 ∧ Grw w w') := fun w => by
        unfold FlRok maxLen at hok; dsimp only at hok
        exact szFlow_any pr mc si sp di dp st un ow r w (by omega) hr0 (by omega)
      have hltz : (k : Int) < (len : Int) := by omega
      clear hc hvl hx hok
      go_wp2_with fail
      refine (HN.out _).mono ?_
      rintro e w1 ⟨r', rfl, hr', hr2, hr3, g1⟩
      have HG1 : Hid (Grw w w1) := HG.out.trans g1
      clear q0 q1 q2 q3 q4 q5 q6 q7 q8 HN g1 HG
      by_cases hneg : r' < 0
      · go_wp2
        go_ret
        exact ⟨-1, rfl, fun h => absurd h (by omega), by omega, by omega, HG1.out⟩
      · have h2 := hr' (by omega)
        have HR' : Hid (∀ x, x ∈ xs.take (k + 1) → (x.mc.size : Int) ≤ 1048576) := by
          intro x hx
          rw [HS.out] at hx
          rcases List.mem_append.1 hx with h | h
          · exact HR.out x h
          · simp at h
            subst h
            show (mc.size : Int) ≤ 1048576
            omega
        have h3 : r' ≤ l := by omega
        clear HR HS hr' h2
        go_wp2
        go_roundw
        case rel => exact ⟨k + 1, r', by omega, by go_num, rfl, by omega, h3, HR', HG1⟩
        case measure => simp [intOf]; omega
    · obtain rfl : k = len := by omega
      have hfin : Hid (∀ x, x ∈ xs → (x.mc.size : Int) ≤ 1048576) := by
        have e1 := HR.out
        rw [List.take_of_length_le (by omega)] at e1
        exact e1
      go_wp2
      go_ret
      exact ⟨r, rfl, fun _ => ⟨by omega, by omega, hfin.out⟩, by omega, by omega, HG.out⟩

end Go.Proofs.YtlebblmlbhnppaaGreat
