/- Lists of connections in the laws: measured, copied, compared. -/
import Derived.Test.YtlebblmlbhnppaaGreatOpenC
import Derived.Test.YtlebblmlbhnppaaGreatLawC
namespace Go.Proofs.YtlebblmlbhnppaaGreat
open Go.RowKit Go.PlainAid Go.Proofs.YtlebblmlbhnppaaGreat.Bt Go.Sort
set_option linter.unusedVariables false
set_option maxRecDepth 20000
theorem infoConn : (Tryz.prog.info? 206).map (fun i => (i.zero, i.size, i.bytes)) = some (some (.agg #[.string ⟨#[]⟩, .int .i64 0, .int .i64 0, .int .i64 0, .int .i64 0, .int .i64 0, .int .i64 0, .int .i64 0, .string ⟨#[]⟩, .string ⟨#[]⟩, .bool false]), 11, 112) := by kernel_rfl
theorem zConn : (#[.string ⟨#[]⟩, .int .i64 0, .int .i64 0, .int .i64 0, .int .i64 0, .int .i64 0, .int .i64 0, .int .i64 0, .string ⟨#[]⟩, .string ⟨#[]⟩, .bool false] : Array Value).toList = cnG default := rfl
set_option maxHeartbeats 2000000 in
theorem toConnS_any (a : Option Addr) (len cap : Nat) (xs : List ConnV) (w : World) (h : Rw CnR 11 w a xs) (hl : xs.length = len) (hc : len ≤ 1048576) :
    Calls Tryz.prog 80 #[.slice a len cap] w fun e w' => e = .returned (.slice (some ⟨w.heap.size, 0, none⟩) len len) ∧ OwnS cnG 11 206 w' w.heap.size (.slice (some ⟨w.heap.size, 0, none⟩) len len) xs ∧ (∀ x, x ∈ xs → CnRok x) ∧ Below w.heap.size w w' := by
  have RW : Hid (Rw CnR 11 w a xs) := h
  have HK : Hid (∀ x, x ∈ xs → CnRok x) := by
    intro x hx
    obtain ⟨i, hi⟩ := List.getElem?_of_mem hx
    obtain ⟨b, off, vs, _, _, _, h2, _⟩ := h.at FR.kp (Below.refl _ _) hi
    exact h2.2
  clear h
  obtain ⟨i0, hi, hz0, hz1, hz2⟩ := info_parts infoConn
  have hmk := run_make (P := Tryz.prog) w 48 206 i0 (.agg #[.string ⟨#[]⟩, .int .i64 0, .int .i64 0, .int .i64 0, .int .i64 0, .int .i64 0, .int .i64 0, .int .i64 0, .string ⟨#[]⟩, .string ⟨#[]⟩, .bool false]) Tryz.underlying48 hi hz0 .i64 .i64 len len (by omega) (Int.le_refl _) (by rw [hz2]; omega) (by omega)
  rw [hz1, Int.toNat_natCast] at hmk
  have HM : Hid (OwnS cnG 11 206 (w.alloc (.cells (madeCells #[.string ⟨#[]⟩, .int .i64 0, .int .i64 0, .int .i64 0, .int .i64 0, .int .i64 0, .int .i64 0, .int .i64 0, .string ⟨#[]⟩, .string ⟨#[]⟩, .bool false] (len * 11)) 206)) w.heap.size (.slice (some ⟨w.heap.size, 0, none⟩) len len) (List.replicate len default) ∧ Below w.heap.size w (w.alloc (.cells (madeCells #[.string ⟨#[]⟩, .int .i64 0, .int .i64 0, .int .i64 0, .int .i64 0, .int .i64 0, .int .i64 0, .int .i64 0, .string ⟨#[]⟩, .string ⟨#[]⟩, .bool false] (len * 11)) 206))) := ⟨OwnS.made w _ _ len default _ zConn rfl (by omega) (Nat.le_refl _) (by unfold maxLen; omega), (Below.refl _ _).alloc (Nat.le_refl _) _⟩
  have hmk2 : (Instr.makeSlice 48 (.int .i64 (len : Int)) (.int .i64 (len : Int))).run Tryz.prog w = .ok (.slice (some ⟨w.heap.size, 0, none⟩) len len) (w.alloc (.cells (madeCells #[.string ⟨#[]⟩, .int .i64 0, .int .i64 0, .int .i64 0, .int .i64 0, .int .i64 0, .int .i64 0, .int .i64 0, .string ⟨#[]⟩, .string ⟨#[]⟩, .bool false] (len * 11)) 206)) := hmk
  clear hmk hi hz0 hz1 hz2
  obtain ⟨W, hW⟩ : ∃ W, W = w.alloc (.cells (madeCells #[.string ⟨#[]⟩, .int .i64 0, .int .i64 0, .int .i64 0, .int .i64 0, .int .i64 0, .int .i64 0, .int .i64 0, .string ⟨#[]⟩, .string ⟨#[]⟩, .bool false] (len * 11)) 206) := ⟨_, rfl⟩
  rw [← hW] at HM hmk2
  clear hW
  go_enter Tryz.func80, Tryz.ntmps80
  go_wp2
  go_loopw [4] (fun i wr => ∃ (k : Nat) (L : List ConnV), k ≤ len ∧ i = .int .i64 k ∧ Hid (OwnS cnG 11 206 wr w.heap.size (.slice (some ⟨w.heap.size, 0, none⟩) len len) L ∧ L.length = len ∧ L.take k = xs.take k ∧ Below w.heap.size w wr)) (fun i _ => len - (intOf i).toNat)
  case atStart => exact ⟨0, _, Nat.zero_le _, rfl, HM.out.1, List.length_replicate .., rfl, HM.out.2⟩
  case round =>
    obtain ⟨k, L, hk, rfl, X⟩ := hrel
    by_cases hlt : k < len
    · obtain ⟨x, hx⟩ := at_of hl hlt
      obtain ⟨b, off, vs, rfl, hb, hvl, hR, hc⟩ := RW.out.at FR.kp X.out.2.2.2 hx
      have TS : Hid ((L.set k x).take (k + 1) = xs.take (k + 1)) := takeS_set (by rw [X.out.2.1, hl]) hx X.out.2.2.1
      obtain ⟨mc, ip, po, di, st, un, nx, wa, inn, out, fin⟩ := x
      obtain ⟨rfl, hok⟩ := hR
      clear hok
      have q0 : wr.cell? ⟨b, off + k * 11, none⟩ = some (.string mc) := hc 0 _ rfl
      have q1 : wr.cell? ⟨b, off + k * 11 + 1, none⟩ = some (.int .i64 ip) := hc 1 _ rfl
      have q2 : wr.cell? ⟨b, off + k * 11 + 2, none⟩ = some (.int .i64 po) := hc 2 _ rfl
      have q3 : wr.cell? ⟨b, off + k * 11 + 3, none⟩ = some (.int .i64 di) := hc 3 _ rfl
      have q4 : wr.cell? ⟨b, off + k * 11 + 4, none⟩ = some (.int .i64 st) := hc 4 _ rfl
      have q5 : wr.cell? ⟨b, off + k * 11 + 5, none⟩ = some (.int .i64 un) := hc 5 _ rfl
      have q6 : wr.cell? ⟨b, off + k * 11 + 6, none⟩ = some (.int .i64 nx) := hc 6 _ rfl
      have q7 : wr.cell? ⟨b, off + k * 11 + 7, none⟩ = some (.int .i64 wa) := hc 7 _ rfl
      have q8 : wr.cell? ⟨b, off + k * 11 + 8, none⟩ = some (.string inn) := hc 8 _ rfl
      have q9 : wr.cell? ⟨b, off + k * 11 + 9, none⟩ = some (.string out) := hc 9 _ rfl
      have q10 : wr.cell? ⟨b, off + k * 11 + 10, none⟩ = some (.bool fin) := hc 10 _ rfl
      have HT : Hid (∀ w, Calls Tryz.prog 153 #[.agg #[.string mc, .int .i64 ip, .int .i64 po, .int .i64 di, .int .i64 st, .int .i64 un, .int .i64 nx, .int .i64 wa, .string inn, .string out, .bool fin]] w fun e w' => e = .returned (.agg #[.string mc, .int .i64 ip, .int .i64 po, .int .i64 di, .int .i64 st, .int .i64 un, .int .i64 nx, .int .i64 wa, .string inn, .string out, .bool fin]) ∧ Grw w w') := fun w => toConn_any mc ip po di st un nx wa inn out fin w
      have hltz : (k : Int) < (len : Int) := by omega
      clear hc
      go_wp2_with fail
      refine (HT.out _).mono ?_
      rintro e w1 ⟨rfl, g1⟩
      have b1 := g1.below
      have o1 := X.out.1.now b1
      obtain ⟨y, hy⟩ := at_of (k := k) X.out.2.1 hlt
      obtain ⟨c0, z0⟩ := o1.cell cnG_len (j := 0) hy rfl
      obtain ⟨c1, z1⟩ := o1.cell cnG_len (j := 1) hy rfl
      obtain ⟨c2, z2⟩ := o1.cell cnG_len (j := 2) hy rfl
      obtain ⟨c3, z3⟩ := o1.cell cnG_len (j := 3) hy rfl
      obtain ⟨c4, z4⟩ := o1.cell cnG_len (j := 4) hy rfl
      obtain ⟨c5, z5⟩ := o1.cell cnG_len (j := 5) hy rfl
      obtain ⟨c6, z6⟩ := o1.cell cnG_len (j := 6) hy rfl
      obtain ⟨c7, z7⟩ := o1.cell cnG_len (j := 7) hy rfl
      obtain ⟨c8, z8⟩ := o1.cell cnG_len (j := 8) hy rfl
      obtain ⟨c9, z9⟩ := o1.cell cnG_len (j := 9) hy rfl
      obtain ⟨c10, z10⟩ := o1.cell cnG_len (j := 10) hy rfl
      replace c0 : w1.cell? ⟨w.heap.size, k * 11, none⟩ = some (.string y.mc) := c0
      replace z0 : w1.frozen? ⟨w.heap.size, k * 11, none⟩ = false := z0
      have Y0 : ∀ W1, W1 = ((((((((((w1.setCell ⟨w.heap.size, k * 11, none⟩ (.string mc)).setCell ⟨w.heap.size, k * 11 + 1, none⟩ (.int .i64 ip)).setCell ⟨w.heap.size, k * 11 + 2, none⟩ (.int .i64 po)).setCell ⟨w.heap.size, k * 11 + 3, none⟩ (.int .i64 di)).setCell ⟨w.heap.size, k * 11 + 4, none⟩ (.int .i64 st)).setCell ⟨w.heap.size, k * 11 + 5, none⟩ (.int .i64 un)).setCell ⟨w.heap.size, k * 11 + 6, none⟩ (.int .i64 nx)).setCell ⟨w.heap.size, k * 11 + 7, none⟩ (.int .i64 wa)).setCell ⟨w.heap.size, k * 11 + 8, none⟩ (.string inn)).setCell ⟨w.heap.size, k * 11 + 9, none⟩ (.string out)).setCell ⟨w.heap.size, k * 11 + 10, none⟩ (.bool fin) → OwnS cnG 11 206 W1 w.heap.size (.slice (some ⟨w.heap.size, 0, none⟩) len len) (L.set k ⟨mc, ip, po, di, st, un, nx, wa, inn, out, fin⟩) ∧ (L.set k ⟨mc, ip, po, di, st, un, nx, wa, inn, out, fin⟩).length = len ∧ (L.set k ⟨mc, ip, po, di, st, un, nx, wa, inn, out, fin⟩).take (k + 1) = xs.take (k + 1) ∧ Below w.heap.size w W1 := by
        intro W1 hW1
        have h2 := o1.store cnG_len hlt ⟨mc, ip, po, di, st, un, nx, wa, inn, out, fin⟩
        have e3 : W1 = wsets w1 w.heap.size (k * 11) (cnG ⟨mc, ip, po, di, st, un, nx, wa, inn, out, fin⟩) := hW1
        rw [← e3] at h2
        exact ⟨h2.1, by rw [List.length_set]; exact X.out.2.1, TS.out, (X.out.2.2.2.trans (b1.mono X.out.2.2.2.size)).trans (below_row h2.2 (Nat.le_refl _) (Nat.le_trans X.out.2.2.2.size b1.size))⟩
      have Y : Hid (OwnS cnG 11 206 (((((((((((w1.setCell ⟨w.heap.size, k * 11, none⟩ (.string mc)).setCell ⟨w.heap.size, k * 11 + 1, none⟩ (.int .i64 ip)).setCell ⟨w.heap.size, k * 11 + 2, none⟩ (.int .i64 po)).setCell ⟨w.heap.size, k * 11 + 3, none⟩ (.int .i64 di)).setCell ⟨w.heap.size, k * 11 + 4, none⟩ (.int .i64 st)).setCell ⟨w.heap.size, k * 11 + 5, none⟩ (.int .i64 un)).setCell ⟨w.heap.size, k * 11 + 6, none⟩ (.int .i64 nx)).setCell ⟨w.heap.size, k * 11 + 7, none⟩ (.int .i64 wa)).setCell ⟨w.heap.size, k * 11 + 8, none⟩ (.string inn)).setCell ⟨w.heap.size, k * 11 + 9, none⟩ (.string out)).setCell ⟨w.heap.size, k * 11 + 10, none⟩ (.bool fin)) w.heap.size (.slice (some ⟨w.heap.size, 0, none⟩) len len) (L.set k ⟨mc, ip, po, di, st, un, nx, wa, inn, out, fin⟩) ∧ (L.set k ⟨mc, ip, po, di, st, un, nx, wa, inn, out, fin⟩).length = len ∧ (L.set k ⟨mc, ip, po, di, st, un, nx, wa, inn, out, fin⟩).take (k + 1) = xs.take (k + 1) ∧ Below w.heap.size w (((((((((((w1.setCell ⟨w.heap.size, k * 11, none⟩ (.string mc)).setCell ⟨w.heap.size, k * 11 + 1, none⟩ (.int .i64 ip)).setCell ⟨w.heap.size, k * 11 + 2, none⟩ (.int .i64 po)).setCell ⟨w.heap.size, k * 11 + 3, none⟩ (.int .i64 di)).setCell ⟨w.heap.size, k * 11 + 4, none⟩ (.int .i64 st)).setCell ⟨w.heap.size, k * 11 + 5, none⟩ (.int .i64 un)).setCell ⟨w.heap.size, k * 11 + 6, none⟩ (.int .i64 nx)).setCell ⟨w.heap.size, k * 11 + 7, none⟩ (.int .i64 wa)).setCell ⟨w.heap.size, k * 11 + 8, none⟩ (.string inn)).setCell ⟨w.heap.size, k * 11 + 9, none⟩ (.string out)).setCell ⟨w.heap.size, k * 11 + 10, none⟩ (.bool fin))) := Y0 _ rfl
      clear Y0
      clear o1 b1 g1 q0 q1 q2 q3 q4 q5 q6 q7 q8 q9 q10 HT X HM hmk2 hx hy TS
      go_wp2
      go_roundw
      case rel => exact ⟨k + 1, _, by omega, by go_num, Y⟩
      case measure => simp [intOf]; omega
    · obtain rfl : k = len := by omega
      have e1 : L = xs := by
        have := X.out.2.2.1
        rw [List.take_of_length_le (by rw [X.out.2.1]; exact Nat.le_refl _), List.take_of_length_le (by omega)] at this
        exact this
      subst e1
      go_wp2
      go_ret
      exact ⟨rfl, X.out.1, HK.out, X.out.2.2.2⟩
set_option maxHeartbeats 2000000 in
theorem eqConnS_yes (a a' : Option Addr) (len cap cap' : Nat) (xs : List ConnV) (w : World) (h : Rw CnR 11 w a xs) (h' : Rw CnR 11 w a' xs) (hl : xs.length = len) (hlen : len ≤ 9223372036854775807) :
    Calls Tryz.prog 52 #[.slice a len cap, .slice a' len cap'] w fun e w' => e = .returned (.bool true) ∧ Grw w w' := by
  have hne : ((len : Int) != (len : Int)) = false := by simp
  have hmix : Tryz.prog.follows .mixedOrders = true := by kernel_rfl
  have RW : Hid (Rw CnR 11 w a xs) := h
  have RW' : Hid (Rw CnR 11 w a' xs) := h'
  clear h h'
  go_enter Tryz.func52, Tryz.ntmps52
  go_wp2
  go_loopw [5] (fun i wr => ∃ k : Nat, k ≤ len ∧ i = .int .i64 k ∧ Hid (Grw w wr)) (fun i _ => len - (intOf i).toNat)
  case atStart => exact ⟨0, Nat.zero_le _, rfl, Grw.refl w⟩
  case round =>
    obtain ⟨k, hk, rfl, HG⟩ := hrel
    by_cases hlt : k < len
    · obtain ⟨x, hx⟩ := at_of hl hlt
      obtain ⟨b, off, vs, rfl, hb, hvl, hR, hc⟩ := RW.out.at FR.kp HG.out.below hx
      obtain ⟨b', off', vs', rfl, hb', hvl', hR', hc'⟩ := RW'.out.at FR.kp HG.out.below hx
      obtain ⟨mc, ip, po, di, st, un, nx, wa, inn, out, fin⟩ := x
      obtain ⟨rfl, -⟩ := hR
      obtain ⟨rfl, -⟩ := hR'
      have q0 : ∀ n os, (grow (wr.drewN n) os).cell? ⟨b, off + k * 11, none⟩ = some (.string mc) := fun n os => grown_cell hb HG.out (hc 0 _ rfl) n os
      have q1 : ∀ n os, (grow (wr.drewN n) os).cell? ⟨b, off + k * 11 + 1, none⟩ = some (.int .i64 ip) := fun n os => grown_cell hb HG.out (hc 1 _ rfl) n os
      have q2 : ∀ n os, (grow (wr.drewN n) os).cell? ⟨b, off + k * 11 + 2, none⟩ = some (.int .i64 po) := fun n os => grown_cell hb HG.out (hc 2 _ rfl) n os
      have q3 : ∀ n os, (grow (wr.drewN n) os).cell? ⟨b, off + k * 11 + 3, none⟩ = some (.int .i64 di) := fun n os => grown_cell hb HG.out (hc 3 _ rfl) n os
      have q4 : ∀ n os, (grow (wr.drewN n) os).cell? ⟨b, off + k * 11 + 4, none⟩ = some (.int .i64 st) := fun n os => grown_cell hb HG.out (hc 4 _ rfl) n os
      have q5 : ∀ n os, (grow (wr.drewN n) os).cell? ⟨b, off + k * 11 + 5, none⟩ = some (.int .i64 un) := fun n os => grown_cell hb HG.out (hc 5 _ rfl) n os
      have q6 : ∀ n os, (grow (wr.drewN n) os).cell? ⟨b, off + k * 11 + 6, none⟩ = some (.int .i64 nx) := fun n os => grown_cell hb HG.out (hc 6 _ rfl) n os
      have q7 : ∀ n os, (grow (wr.drewN n) os).cell? ⟨b, off + k * 11 + 7, none⟩ = some (.int .i64 wa) := fun n os => grown_cell hb HG.out (hc 7 _ rfl) n os
      have q8 : ∀ n os, (grow (wr.drewN n) os).cell? ⟨b, off + k * 11 + 8, none⟩ = some (.string inn) := fun n os => grown_cell hb HG.out (hc 8 _ rfl) n os
      have q9 : ∀ n os, (grow (wr.drewN n) os).cell? ⟨b, off + k * 11 + 9, none⟩ = some (.string out) := fun n os => grown_cell hb HG.out (hc 9 _ rfl) n os
      have q10 : ∀ n os, (grow (wr.drewN n) os).cell? ⟨b, off + k * 11 + 10, none⟩ = some (.bool fin) := fun n os => grown_cell hb HG.out (hc 10 _ rfl) n os
      have r0 : ∀ n os, (grow (wr.drewN n) os).cell? ⟨b', off' + k * 11, none⟩ = some (.string mc) := fun n os => grown_cell hb' HG.out (hc' 0 _ rfl) n os
      have r1 : ∀ n os, (grow (wr.drewN n) os).cell? ⟨b', off' + k * 11 + 1, none⟩ = some (.int .i64 ip) := fun n os => grown_cell hb' HG.out (hc' 1 _ rfl) n os
      have r2 : ∀ n os, (grow (wr.drewN n) os).cell? ⟨b', off' + k * 11 + 2, none⟩ = some (.int .i64 po) := fun n os => grown_cell hb' HG.out (hc' 2 _ rfl) n os
      have r3 : ∀ n os, (grow (wr.drewN n) os).cell? ⟨b', off' + k * 11 + 3, none⟩ = some (.int .i64 di) := fun n os => grown_cell hb' HG.out (hc' 3 _ rfl) n os
      have r4 : ∀ n os, (grow (wr.drewN n) os).cell? ⟨b', off' + k * 11 + 4, none⟩ = some (.int .i64 st) := fun n os => grown_cell hb' HG.out (hc' 4 _ rfl) n os
      have r5 : ∀ n os, (grow (wr.drewN n) os).cell? ⟨b', off' + k * 11 + 5, none⟩ = some (.int .i64 un) := fun n os => grown_cell hb' HG.out (hc' 5 _ rfl) n os
      have r6 : ∀ n os, (grow (wr.drewN n) os).cell? ⟨b', off' + k * 11 + 6, none⟩ = some (.int .i64 nx) := fun n os => grown_cell hb' HG.out (hc' 6 _ rfl) n os
      have r7 : ∀ n os, (grow (wr.drewN n) os).cell? ⟨b', off' + k * 11 + 7, none⟩ = some (.int .i64 wa) := fun n os => grown_cell hb' HG.out (hc' 7 _ rfl) n os
      have r8 : ∀ n os, (grow (wr.drewN n) os).cell? ⟨b', off' + k * 11 + 8, none⟩ = some (.string inn) := fun n os => grown_cell hb' HG.out (hc' 8 _ rfl) n os
      have r9 : ∀ n os, (grow (wr.drewN n) os).cell? ⟨b', off' + k * 11 + 9, none⟩ = some (.string out) := fun n os => grown_cell hb' HG.out (hc' 9 _ rfl) n os
      have r10 : ∀ n os, (grow (wr.drewN n) os).cell? ⟨b', off' + k * 11 + 10, none⟩ = some (.bool fin) := fun n os => grown_cell hb' HG.out (hc' 10 _ rfl) n os
      have HE : Hid (∀ w, Calls Tryz.prog 132 #[.agg #[.string mc, .int .i64 ip, .int .i64 po, .int .i64 di, .int .i64 st, .int .i64 un, .int .i64 nx, .int .i64 wa, .string inn, .string out, .bool fin], .agg #[.string mc, .int .i64 ip, .int .i64 po, .int .i64 di, .int .i64 st, .int .i64 un, .int .i64 nx, .int .i64 wa, .string inn, .string out, .bool fin]] w fun e w' => e = .returned (.bool true) ∧ Grw w w') := fun w => eqConn_any mc ip po di st un nx wa inn out fin w
      have hltz : (k : Int) < (len : Int) := by omega
      clear hc hc'
      go_wp2_with fail
      refine wp_region_quiet_grown (by assumption) (by kernel_rfl) ?_
      repeat (go_big_quiet_step (first | fail | (go_at_call 132; exact Calls.grown_of (HE.out _))))
      refine wpQuiet_nil ?_
      intro _ hw'
      obtain ⟨⟨nq, osq⟩, hw''⟩ := hw'
      subst hw''
      have HG2 : Hid (Grw w (grow (wr.drewN nq) osq)) := HG.out.trans ⟨nq, osq, rfl⟩
      clear q0 q1 q2 q3 q4 q5 q6 q7 q8 q9 q10 r0 r1 r2 r3 r4 r5 r6 r7 r8 r9 r10 HG HE
      go_wp2
      go_roundw
      case rel => exact ⟨k + 1, by omega, by go_num, HG2⟩
      case measure => simp [intOf]; omega
    · obtain rfl : k = len := by omega
      go_wp2
      go_ret
      exact ⟨rfl, HG.out⟩

set_option maxHeartbeats 2000000 in
theorem szConnS_any (a : Option Addr) (len cap : Nat) (xs : List ConnV) (l : Int) (w : World) (h : Rw CnR 11 w a xs) (hl : xs.length = len) (hlm : len ≤ 9223372036854775807) (h0 : 0 ≤ l) (h1 : l ≤ 1048576) :
    Calls Tryz.prog 73 #[.slice a len cap, .int .i64 l] w fun e w' => ∃ r : Int, e = .returned (.int .i64 r) ∧ (0 ≤ r → (len : Int) ≤ l ∧ r ≤ l ∧ ∀ x, x ∈ xs → ((x.mc.size : Int) ≤ 1048576 ∧ (x.inn.size : Int) ≤ 1048576 ∧ (x.out.size : Int) ≤ 1048576)) ∧ -1 ≤ r ∧ r ≤ 1048576 ∧ Grw w w' := by
  have RW : Hid (Rw CnR 11 w a xs) := h
  clear h
  by_cases hle : (len : Int) ≤ l
  rotate_left
  · go_enter Tryz.func73, Tryz.ntmps73
    go_wp2
    go_ret
    exact ⟨-1, rfl, fun h => absurd h (by omega), by omega, by omega, Grw.refl _⟩
  go_enter Tryz.func73, Tryz.ntmps73
  go_wp2
  go_loopw [1, 5] (fun p x wr => ∃ (k : Nat) (r : Int), k ≤ len ∧ x = .int .i64 k ∧ p = .int .i64 r ∧ 0 ≤ r ∧ r ≤ l ∧ Hid (∀ x, x ∈ xs.take k → ((x.mc.size : Int) ≤ 1048576 ∧ (x.inn.size : Int) ≤ 1048576 ∧ (x.out.size : Int) ≤ 1048576)) ∧ Hid (Grw w wr)) (fun _ x _ => len - (intOf x).toNat)
  case atStart => exact ⟨0, l - len, Nat.zero_le _, rfl, rfl, by omega, by omega, (fun x hx => by simp at hx), Grw.refl _⟩
  case round =>
    obtain ⟨k, r, hk, rfl, rfl, hr0, hr1, HR, HG⟩ := hrel
    by_cases hlt : k < len
    · obtain ⟨x, hx⟩ := at_of hl hlt
      obtain ⟨b, off, vs, rfl, hb, hvl, hR, hc⟩ := RW.out.at FR.kp HG.out.below hx
      have HS : Hid (xs.take (k + 1) = xs.take k ++ [x]) := takeS_next hx
      obtain ⟨mc, ip, po, di, st, un, nx, wa, inn, out, fin⟩ := x
      obtain ⟨rfl, hok⟩ := hR
      have q0 : wr.cell? ⟨b, off + k * 11, none⟩ = some (.string mc) := hc 0 _ rfl
      have q1 : wr.cell? ⟨b, off + k * 11 + 1, none⟩ = some (.int .i64 ip) := hc 1 _ rfl
      have q2 : wr.cell? ⟨b, off + k * 11 + 2, none⟩ = some (.int .i64 po) := hc 2 _ rfl
      have q3 : wr.cell? ⟨b, off + k * 11 + 3, none⟩ = some (.int .i64 di) := hc 3 _ rfl
      have q4 : wr.cell? ⟨b, off + k * 11 + 4, none⟩ = some (.int .i64 st) := hc 4 _ rfl
      have q5 : wr.cell? ⟨b, off + k * 11 + 5, none⟩ = some (.int .i64 un) := hc 5 _ rfl
      have q6 : wr.cell? ⟨b, off + k * 11 + 6, none⟩ = some (.int .i64 nx) := hc 6 _ rfl
      have q7 : wr.cell? ⟨b, off + k * 11 + 7, none⟩ = some (.int .i64 wa) := hc 7 _ rfl
      have q8 : wr.cell? ⟨b, off + k * 11 + 8, none⟩ = some (.string inn) := hc 8 _ rfl
      have q9 : wr.cell? ⟨b, off + k * 11 + 9, none⟩ = some (.string out) := hc 9 _ rfl
      have q10 : wr.cell? ⟨b, off + k * 11 + 10, none⟩ = some (.bool fin) := hc 10 _ rfl
      have HN : Hid (∀ w, Calls Tryz.prog 148 #[.agg #[.string mc, .int .i64 ip, .int .i64 po, .int .i64 di, .int .i64 st, .int .i64 un, .int .i64 nx, .int .i64 wa, .string inn, .string out, .bool fin], .int .i64 r] w fun e w' => ∃ r' : Int, e = .returned (.int .i64 r') ∧ (0 ≤ r' → r' ≤ r ∧ (mc.size : Int) ≤ r ∧ (inn.size : Int) ≤ r ∧ (out.size : Int) ≤ r) ∧ -1 ≤ r' ∧ r' ≤ 1048576 ∧ Grw w w') := fun w => by
        unfold CnRok maxLen at hok; dsimp only at hok
        exact szConn_any mc ip po di st un nx wa inn out fin r w (by omega) (by omega) (by omega) hr0 (by omega)
      have hltz : (k : Int) < (len : Int) := by omega
      clear hc hvl hx hok
      go_wp2_with fail
      refine (HN.out _).mono ?_
      rintro e w1 ⟨r', rfl, hr', hr2, hr3, g1⟩
      have HG1 : Hid (Grw w w1) := HG.out.trans g1
      clear q0 q1 q2 q3 q4 q5 q6 q7 q8 q9 q10 HN g1 HG
      by_cases hneg : r' < 0
      · go_wp2
        go_ret
        exact ⟨-1, rfl, fun h => absurd h (by omega), by omega, by omega, HG1.out⟩
      · have h2 := hr' (by omega)
        have HR' : Hid (∀ x, x ∈ xs.take (k + 1) → ((x.mc.size : Int) ≤ 1048576 ∧ (x.inn.size : Int) ≤ 1048576 ∧ (x.out.size : Int) ≤ 1048576)) := by
          intro x hx
          rw [HS.out] at hx
          rcases List.mem_append.1 hx with h | h
          · exact HR.out x h
          · simp at h
            subst h
            show (mc.size : Int) ≤ 1048576 ∧ (inn.size : Int) ≤ 1048576 ∧ (out.size : Int) ≤ 1048576
            omega
        have h3 : r' ≤ l := by omega
        clear HR HS hr' h2
        go_wp2
        go_roundw
        case rel => exact ⟨k + 1, r', by omega, by go_num, rfl, by omega, h3, HR', HG1⟩
        case measure => simp [intOf]; omega
    · obtain rfl : k = len := by omega
      have hfin : Hid (∀ x, x ∈ xs → ((x.mc.size : Int) ≤ 1048576 ∧ (x.inn.size : Int) ≤ 1048576 ∧ (x.out.size : Int) ≤ 1048576)) := by
        have e1 := HR.out
        rw [List.take_of_length_le (by omega)] at e1
        exact e1
      go_wp2
      go_ret
      exact ⟨r, rfl, fun _ => ⟨by omega, by omega, hfin.out⟩, by omega, by omega, HG.out⟩

end Go.Proofs.YtlebblmlbhnppaaGreat
