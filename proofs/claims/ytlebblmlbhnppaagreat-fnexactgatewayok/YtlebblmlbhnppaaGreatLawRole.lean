/- Lists of rules and roles in the laws: szRuleS, toRuleS, eqRuleS, szRole, toRole, eqRole; the walk of laws.FnExactRoleOK. -/
import Derived.Test.YtlebblmlbhnppaaGreatLawRule
import Derived.Test.YtlebblmlbhnppaaGreatRoleW
import Derived.Deep.RegionHeld3
namespace Go.Proofs.YtlebblmlbhnppaaGreat
open Go.RowKit Go.PlainAid Go.Proofs.YtlebblmlbhnppaaGreat.Bt Go.Sort
set_option linter.unusedVariables false
set_option maxRecDepth 20000

theorem szRuleS_any (a : Option Addr) (len cap : Nat) (l : Int) (w : World) (hl : len ≤ 9223372036854775807) (h0 : 0 ≤ l) (h1 : l ≤ 1048576) :
    Calls Tryz.prog 177 #[.slice a len cap, .int .i64 l] w fun e w' => ∃ r : Int, e = .returned (.int .i64 r) ∧ (0 ≤ r → r = l - len) ∧ -1 ≤ r ∧ r ≤ 1048576 ∧ w' = w := by
  by_cases h : (len : Int) ≤ l
  · go_enter Tryz.func177, Tryz.ntmps177
    go_wp2
    go_ret
    exact ⟨_, rfl, fun _ => by omega, by omega, by omega, rfl⟩
  · go_enter Tryz.func177, Tryz.ntmps177
    go_wp2
    go_ret
    exact ⟨-1, rfl, fun h => absurd h (by omega), by omega, by omega, rfl⟩
theorem infoRule : (Tryz.prog.info? 202).map (fun i => (i.zero, i.size, i.bytes)) = some (some (.agg #[.int .i64 0, .int .i64 0, .int .i64 0, .int .i64 0, .int .i64 0, .bool false]), 6, 48) := by kernel_rfl
set_option maxHeartbeats 2000000 in
theorem toRuleS_any (a : Option Addr) (len cap : Nat) (xs : List RuleV) (w : World) (h : Rw RuR 6 w a xs) (hl : xs.length = len) (hc : len ≤ 1048576) :
    Calls Tryz.prog 183 #[.slice a len cap] w fun e w' => e = .returned (.slice (some ⟨w.heap.size, 0, none⟩) len len) ∧ Rw RuR 6 w' (some ⟨w.heap.size, 0, none⟩) xs ∧ Below w.heap.size w w' := by
  have RW : Hid (Rw RuR 6 w a xs) := h
  clear h
  obtain ⟨i0, hi, hz0, hz1, hz2⟩ := info_parts infoRule
  have hmk := run_make (P := Tryz.prog) w 139 202 i0 (.agg #[.int .i64 0, .int .i64 0, .int .i64 0, .int .i64 0, .int .i64 0, .bool false]) Tryz.underlying139 hi hz0 .i64 .i64 len len (by omega) (Int.le_refl _) (by rw [hz2]; omega) (by omega)
  rw [hz1, Int.toNat_natCast] at hmk
  have HM : Hid ((w.alloc (.cells (madeCells #[.int .i64 0, .int .i64 0, .int .i64 0, .int .i64 0, .int .i64 0, .bool false] (len * 6)) 202)).ownsRow w.heap.size 202 6 (.slice (some ⟨w.heap.size, 0, none⟩) len len) len (madeCells #[.int .i64 0, .int .i64 0, .int .i64 0, .int .i64 0, .int .i64 0, .bool false] (len * 6)).toList ∧ Below w.heap.size w (w.alloc (.cells (madeCells #[.int .i64 0, .int .i64 0, .int .i64 0, .int .i64 0, .int .i64 0, .bool false] (len * 6)) 202))) := ⟨owns_made w _ _ len 6 _ (Nat.le_refl _) (by unfold maxLen; omega), (Below.refl _ _).alloc (Nat.le_refl _) _⟩
  have hmk2 : (Instr.makeSlice 139 (.int .i64 (len : Int)) (.int .i64 (len : Int))).run Tryz.prog w = .ok (.slice (some ⟨w.heap.size, 0, none⟩) len len) (w.alloc (.cells (madeCells #[.int .i64 0, .int .i64 0, .int .i64 0, .int .i64 0, .int .i64 0, .bool false] (len * 6)) 202)) := hmk
  clear hmk hi hz0 hz1 hz2
  obtain ⟨W, hW⟩ : ∃ W, W = w.alloc (.cells (madeCells #[.int .i64 0, .int .i64 0, .int .i64 0, .int .i64 0, .int .i64 0, .bool false] (len * 6)) 202) := ⟨_, rfl⟩
  rw [← hW] at HM hmk2
  clear hW
  go_enter Tryz.func183, Tryz.ntmps183
  go_wp2
  go_loopw [4] (fun i wr => ∃ (k : Nat) (F : List Value), k ≤ len ∧ i = .int .i64 k ∧ Hid (wr.ownsRow w.heap.size 202 6 (.slice (some ⟨w.heap.size, 0, none⟩) len len) len F ∧ Cop RuR 6 wr F xs k ∧ Below w.heap.size w wr)) (fun i _ => len - (intOf i).toNat)
  case atStart => exact ⟨0, _, Nat.zero_le _, rfl, HM.out.1, Cop.zero, HM.out.2⟩
  case round =>
    obtain ⟨k, F, hk, rfl, X⟩ := hrel
    by_cases hlt : k < len
    · obtain ⟨x, hx⟩ := at_of hl hlt
      obtain ⟨b, off, vs, rfl, hb, hvl, hR, hc⟩ := RW.out.at RuR.kp X.out.2.2 hx
      obtain ⟨p, ip, bb, lo, hi, al⟩ := x
      obtain ⟨rfl, hlo, hhi⟩ := hR
      have q0 : wr.cell? ⟨b, off + k * 6, none⟩ = some (.int .i64 p) := hc 0 _ rfl
      have q1 : wr.cell? ⟨b, off + k * 6 + 1, none⟩ = some (.int .i64 ip) := hc 1 _ rfl
      have q2 : wr.cell? ⟨b, off + k * 6 + 2, none⟩ = some (.int .i64 bb) := hc 2 _ rfl
      have q3 : wr.cell? ⟨b, off + k * 6 + 3, none⟩ = some (.int .i64 lo) := hc 3 _ rfl
      have q4 : wr.cell? ⟨b, off + k * 6 + 4, none⟩ = some (.int .i64 hi) := hc 4 _ rfl
      have q5 : wr.cell? ⟨b, off + k * 6 + 5, none⟩ = some (.bool al) := hc 5 _ rfl
      have HT : Hid (∀ w, Calls Tryz.prog 231 #[.agg #[.int .i64 p, .int .i64 ip, .int .i64 bb, .int .i64 lo, .int .i64 hi, .bool al]] w fun e w' => e = .returned (.agg #[.int .i64 p, .int .i64 ip, .int .i64 bb, .int .i64 lo, .int .i64 hi, .bool al]) ∧ Below w.heap.size w w') := fun w => toRule_any _ _ _ _ _ _ w
      have hltz : (k : Int) < (len : Int) := by omega
      clear hc
      go_wp2_with fail
      refine (HT.out _).mono ?_
      rintro e w1 ⟨rfl, b1⟩
      have o1 := owns_now X.out.1 b1
      obtain ⟨⟨u0, c0⟩, z0⟩ := owns_cell o1 (j := 0) hlt (by omega)
      obtain ⟨⟨u1, c1⟩, z1⟩ := owns_cell o1 (j := 1) hlt (by omega)
      obtain ⟨⟨u2, c2⟩, z2⟩ := owns_cell o1 (j := 2) hlt (by omega)
      obtain ⟨⟨u3, c3⟩, z3⟩ := owns_cell o1 (j := 3) hlt (by omega)
      obtain ⟨⟨u4, c4⟩, z4⟩ := owns_cell o1 (j := 4) hlt (by omega)
      obtain ⟨⟨u5, c5⟩, z5⟩ := owns_cell o1 (j := 5) hlt (by omega)
      replace c0 : w1.cell? ⟨w.heap.size, k * 6, none⟩ = some u0 := c0
      replace z0 : w1.frozen? ⟨w.heap.size, k * 6, none⟩ = false := z0
      have Y0 : ∀ W1, W1 = (((((w1.setCell ⟨w.heap.size, k * 6, none⟩ (.int .i64 p)).setCell ⟨w.heap.size, k * 6 + 1, none⟩ (.int .i64 ip)).setCell ⟨w.heap.size, k * 6 + 2, none⟩ (.int .i64 bb)).setCell ⟨w.heap.size, k * 6 + 3, none⟩ (.int .i64 lo)).setCell ⟨w.heap.size, k * 6 + 4, none⟩ (.int .i64 hi)).setCell ⟨w.heap.size, k * 6 + 5, none⟩ (.bool al) → W1.ownsRow w.heap.size 202 6 (.slice (some ⟨w.heap.size, 0, none⟩) len len) len (sets F (k * 6) [.int .i64 p, .int .i64 ip, .int .i64 bb, .int .i64 lo, .int .i64 hi, .bool al]) ∧ Cop RuR 6 W1 (sets F (k * 6) [.int .i64 p, .int .i64 ip, .int .i64 bb, .int .i64 lo, .int .i64 hi, .bool al]) xs (k + 1) ∧ Below w.heap.size w W1 := by
        intro W1 hW1
        have h2 := owns_sets [.int .i64 p, .int .i64 ip, .int .i64 bb, .int .i64 lo, .int .i64 hi, .bool al] _ _ (k * 6) o1
        rw [wsets6, ← hW1] at h2
        have hF : k * 6 + 6 ≤ F.length := by
          rw [X.out.1.1]
          have : (k + 1) * 6 ≤ len * 6 := Nat.mul_le_mul_right _ hlt
          omega
        have c2 : Cop RuR 6 W1 F xs k := Cop.keep X.out.2.1 (fun x vs h => h)
        have c3 := Cop.step (vs := [.int .i64 p, .int .i64 ip, .int .i64 bb, .int .i64 lo, .int .i64 hi, .bool al]) c2 hx ⟨rfl, hlo, hhi⟩ rfl hF
        exact ⟨h2.1, c3, (X.out.2.2.trans (b1.mono X.out.2.2.size)).trans (below_row h2.2 (Nat.le_refl _) (Nat.le_trans X.out.2.2.size b1.size))⟩
      have Y : Hid (((((((w1.setCell ⟨w.heap.size, k * 6, none⟩ (.int .i64 p)).setCell ⟨w.heap.size, k * 6 + 1, none⟩ (.int .i64 ip)).setCell ⟨w.heap.size, k * 6 + 2, none⟩ (.int .i64 bb)).setCell ⟨w.heap.size, k * 6 + 3, none⟩ (.int .i64 lo)).setCell ⟨w.heap.size, k * 6 + 4, none⟩ (.int .i64 hi)).setCell ⟨w.heap.size, k * 6 + 5, none⟩ (.bool al)).ownsRow w.heap.size 202 6 (.slice (some ⟨w.heap.size, 0, none⟩) len len) len (sets F (k * 6) [.int .i64 p, .int .i64 ip, .int .i64 bb, .int .i64 lo, .int .i64 hi, .bool al]) ∧ Cop RuR 6 ((((((w1.setCell ⟨w.heap.size, k * 6, none⟩ (.int .i64 p)).setCell ⟨w.heap.size, k * 6 + 1, none⟩ (.int .i64 ip)).setCell ⟨w.heap.size, k * 6 + 2, none⟩ (.int .i64 bb)).setCell ⟨w.heap.size, k * 6 + 3, none⟩ (.int .i64 lo)).setCell ⟨w.heap.size, k * 6 + 4, none⟩ (.int .i64 hi)).setCell ⟨w.heap.size, k * 6 + 5, none⟩ (.bool al)) (sets F (k * 6) [.int .i64 p, .int .i64 ip, .int .i64 bb, .int .i64 lo, .int .i64 hi, .bool al]) xs (k + 1) ∧ Below w.heap.size w ((((((w1.setCell ⟨w.heap.size, k * 6, none⟩ (.int .i64 p)).setCell ⟨w.heap.size, k * 6 + 1, none⟩ (.int .i64 ip)).setCell ⟨w.heap.size, k * 6 + 2, none⟩ (.int .i64 bb)).setCell ⟨w.heap.size, k * 6 + 3, none⟩ (.int .i64 lo)).setCell ⟨w.heap.size, k * 6 + 4, none⟩ (.int .i64 hi)).setCell ⟨w.heap.size, k * 6 + 5, none⟩ (.bool al))) := Y0 _ rfl
      clear Y0
      clear o1 b1 q0 q1 q2 q3 q4 q5 HT X HM hmk2 hx
      go_wp2
      go_roundw
      case rel => exact ⟨k + 1, _, by omega, by go_num, Y⟩
      case measure => simp [intOf]; omega
    · obtain rfl : k = len := by omega
      go_wp2
      go_ret
      exact ⟨rfl, X.out.2.1.rw X.out.1 hl, X.out.2.2⟩
set_option maxHeartbeats 2000000 in
theorem eqRuleS_yes (a a' : Option Addr) (len cap cap' : Nat) (xs : List RuleV) (w : World) (h : Rw RuR 6 w a xs) (h' : Rw RuR 6 w a' xs) (hl : xs.length = len) (hlen : len ≤ 1048576) :
    Calls Tryz.prog 197 #[.slice a len cap, .slice a' len cap'] w fun e w' => e = .returned (.bool true) ∧ Grw w w' := by
  have hne : ((len : Int) != (len : Int)) = false := by simp
  have hmix : Tryz.prog.follows .mixedOrders = true := by kernel_rfl
  have RW : Hid (Rw RuR 6 w a xs) := h
  have RW' : Hid (Rw RuR 6 w a' xs) := h'
  clear h h'
  go_enter Tryz.func197, Tryz.ntmps197
  go_wp2
  go_loopw [5] (fun i wr => ∃ k : Nat, k ≤ len ∧ i = .int .i64 k ∧ Hid (Grw w wr)) (fun i _ => len - (intOf i).toNat)
  case atStart => exact ⟨0, Nat.zero_le _, rfl, Grw.refl w⟩
  case round =>
    obtain ⟨k, hk, rfl, HG⟩ := hrel
    by_cases hlt : k < len
    · obtain ⟨x, hx⟩ := at_of hl hlt
      obtain ⟨b, off, vs, rfl, hb, hvl, hR, hc⟩ := RW.out.at RuR.kp HG.out.below hx
      obtain ⟨b', off', vs', rfl, hb', hvl', hR', hc'⟩ := RW'.out.at RuR.kp HG.out.below hx
      obtain ⟨p, ip, bb, lo, hi, al⟩ := x
      obtain ⟨rfl, hlo, hhi⟩ := hR
      obtain ⟨rfl, -, -⟩ := hR'
      have q0 : ∀ n os, (grow (wr.drewN n) os).cell? ⟨b, off + k * 6, none⟩ = some (.int .i64 p) := fun n os => grown_cell hb HG.out (hc 0 _ rfl) n os
      have q1 : ∀ n os, (grow (wr.drewN n) os).cell? ⟨b, off + k * 6 + 1, none⟩ = some (.int .i64 ip) := fun n os => grown_cell hb HG.out (hc 1 _ rfl) n os
      have q2 : ∀ n os, (grow (wr.drewN n) os).cell? ⟨b, off + k * 6 + 2, none⟩ = some (.int .i64 bb) := fun n os => grown_cell hb HG.out (hc 2 _ rfl) n os
      have q3 : ∀ n os, (grow (wr.drewN n) os).cell? ⟨b, off + k * 6 + 3, none⟩ = some (.int .i64 lo) := fun n os => grown_cell hb HG.out (hc 3 _ rfl) n os
      have q4 : ∀ n os, (grow (wr.drewN n) os).cell? ⟨b, off + k * 6 + 4, none⟩ = some (.int .i64 hi) := fun n os => grown_cell hb HG.out (hc 4 _ rfl) n os
      have q5 : ∀ n os, (grow (wr.drewN n) os).cell? ⟨b, off + k * 6 + 5, none⟩ = some (.bool al) := fun n os => grown_cell hb HG.out (hc 5 _ rfl) n os
      have r0 : ∀ n os, (grow (wr.drewN n) os).cell? ⟨b', off' + k * 6, none⟩ = some (.int .i64 p) := fun n os => grown_cell hb' HG.out (hc' 0 _ rfl) n os
      have r1 : ∀ n os, (grow (wr.drewN n) os).cell? ⟨b', off' + k * 6 + 1, none⟩ = some (.int .i64 ip) := fun n os => grown_cell hb' HG.out (hc' 1 _ rfl) n os
      have r2 : ∀ n os, (grow (wr.drewN n) os).cell? ⟨b', off' + k * 6 + 2, none⟩ = some (.int .i64 bb) := fun n os => grown_cell hb' HG.out (hc' 2 _ rfl) n os
      have r3 : ∀ n os, (grow (wr.drewN n) os).cell? ⟨b', off' + k * 6 + 3, none⟩ = some (.int .i64 lo) := fun n os => grown_cell hb' HG.out (hc' 3 _ rfl) n os
      have r4 : ∀ n os, (grow (wr.drewN n) os).cell? ⟨b', off' + k * 6 + 4, none⟩ = some (.int .i64 hi) := fun n os => grown_cell hb' HG.out (hc' 4 _ rfl) n os
      have r5 : ∀ n os, (grow (wr.drewN n) os).cell? ⟨b', off' + k * 6 + 5, none⟩ = some (.bool al) := fun n os => grown_cell hb' HG.out (hc' 5 _ rfl) n os
      have HE : Hid (∀ w, Calls Tryz.prog 246 #[.agg #[.int .i64 p, .int .i64 ip, .int .i64 bb, .int .i64 lo, .int .i64 hi, .bool al], .agg #[.int .i64 p, .int .i64 ip, .int .i64 bb, .int .i64 lo, .int .i64 hi, .bool al]] w fun e w' => e = .returned (.bool true) ∧ Grw w w') := fun w => eqRule_any _ _ _ _ _ _ w
      have hltz : (k : Int) < (len : Int) := by omega
      clear hc hc'
      go_wp2_with fail
      refine wp_region_quiet_grown (by assumption) (by kernel_rfl) ?_
      repeat (go_big_quiet_step (first | fail | (go_at_call 246; exact Calls.grown_of (HE.out _))))
      refine wpQuiet_nil ?_
      intro _ hw'
      obtain ⟨⟨nq, osq⟩, hw''⟩ := hw'
      subst hw''
      have HG2 : Hid (Grw w (grow (wr.drewN nq) osq)) := HG.out.trans ⟨nq, osq, rfl⟩
      clear q0 q1 q2 q3 q4 q5 r0 r1 r2 r3 r4 r5 HG HE
      go_wp2
      go_roundw
      case rel => exact ⟨k + 1, by omega, by go_num, HG2⟩
      case measure => simp [intOf]; omega
    · obtain rfl : k = len := by omega
      go_wp2
      go_ret
      exact ⟨rfl, HG.out⟩

theorem rw_away {w : World} {a : Option Addr} {xs : List RuleV} (h : Rw RuR 6 w a xs) {p : Addr} (hp : ∀ b off, a = some ⟨b, off, none⟩ → b ≠ p.block) (v : Value) : Rw RuR 6 (w.setCell p v) a xs := by
  intro h0
  obtain ⟨b, off, rfl, hlt, hc⟩ := h h0
  refine ⟨b, off, rfl, by simpa using hlt, fun i x hx => ?_⟩
  obtain ⟨vs, h1, h2, h3⟩ := hc i x hx
  refine ⟨vs, h1, h2, fun j u hu => ?_⟩
  rw [World.cell?_of_block (w := w) (Below.heap_setCell w p v b (hp b off rfl))]
  exact h3 j u hu
set_option maxHeartbeats 1000000 in
theorem szRole_any (nm : ByteArray) (q m i : Int) (a : Option Addr) (len cap : Nat) (l : Int) (w : World) (hs : nm.size ≤ 9223372036854775807) (hl : len ≤ 9223372036854775807) (h0 : 0 ≤ l) (h1 : l ≤ 1048576) :
    Calls Tryz.prog 104 #[.agg #[.string nm, .slice a len cap, .int .i64 q, .int .i64 m, .int .i64 i], .int .i64 l] w fun e w' => ∃ r : Int, e = .returned (.int .i64 r) ∧ (0 ≤ r → r = l - nm.size - len) ∧ -1 ≤ r ∧ r ≤ 1048576 ∧ Grw w w' := by
  by_cases h : (nm.size : Int) ≤ l
  · have HC : Hid (∀ w, Calls Tryz.prog 177 #[.slice a len cap, .int .i64 (l - nm.size)] w fun e w' => ∃ r : Int, e = .returned (.int .i64 r) ∧ (0 ≤ r → r = l - nm.size - len) ∧ -1 ≤ r ∧ r ≤ 1048576 ∧ w' = w) := fun w => szRuleS_any a len cap _ w hl (by omega) (by omega)
    go_enter Tryz.func104, Tryz.ntmps104
    go_wp2_with fail
    refine (HC.out _).mono ?_
    rintro e w1 ⟨r, rfl, hr, hr1, hr2, rfl⟩
    by_cases hr0 : r < 0
    · go_wp2
      go_ret
      exact ⟨-1, rfl, fun h => absurd h (by omega), by omega, by omega, (Grw.refl _).alloc _⟩
    · go_wp2
      go_ret
      exact ⟨r, rfl, hr, by omega, by omega, (Grw.refl _).alloc _⟩
  · go_enter Tryz.func104, Tryz.ntmps104
    go_wp2
    go_ret
    exact ⟨-1, rfl, fun h => absurd h (by omega), by omega, by omega, (Grw.refl _).alloc _⟩

set_option maxHeartbeats 2000000 in
theorem toRole_any (nm : ByteArray) (rs : List RuleV) (q m i : Int) (a : Option Addr) (len cap : Nat) (w : World) (h : Rw RuR 6 w a rs) (hl : rs.length = len) (hc : len ≤ 1048576) :
    Calls Tryz.prog 115 #[.agg #[.string nm, .slice a len cap, .int .i64 q, .int .i64 m, .int .i64 i]] w fun e w' => ∃ a', e = .returned (.agg #[.string nm, .slice a' len len, .int .i64 q, .int .i64 m, .int .i64 i]) ∧ (∀ b off, a' = some ⟨b, off, none⟩ → w.heap.size ≤ b) ∧ Rw RuR 6 w' a' rs ∧ Below w.heap.size w w' := by
  have RW : Hid (Rw RuR 6 w a rs) := h
  have HA : Hid (∀ w, Rw RuR 6 w a rs → Calls Tryz.prog 183 #[.slice a len cap] w fun e w' => e = .returned (.slice (some ⟨w.heap.size, 0, none⟩) len len) ∧ Rw RuR 6 w' (some ⟨w.heap.size, 0, none⟩) rs ∧ Below w.heap.size w w') := fun w h => toRuleS_any a len cap rs w h hl hc
  clear h
  go_enter Tryz.func115, Tryz.ntmps115
  go_wp2_with fail
  refine (HA.out _ (RW.out.keep RuR.kp ((((Below.refl w.heap.size w).alloc (by simp <;> omega) _).alloc (by simp <;> omega) _).alloc (by simp <;> omega) _))).mono ?_
  rintro e wx1 ⟨rfl, hr, bx⟩
  have c1_0_0 : wx1.cell? ⟨w.heap.size, 0, none⟩ = some (.string nm) := bkeep bx (by simp [go_sem])
  have c1_0_1 : wx1.cell? ⟨w.heap.size, 1, none⟩ = some (.slice a len cap) := bkeep bx (by simp [go_sem])
  have c1_0_2 : wx1.cell? ⟨w.heap.size, 2, none⟩ = some (.int .i64 q) := bkeep bx (by simp [go_sem])
  have c1_0_3 : wx1.cell? ⟨w.heap.size, 3, none⟩ = some (.int .i64 m) := bkeep bx (by simp [go_sem])
  have c1_0_4 : wx1.cell? ⟨w.heap.size, 4, none⟩ = some (.int .i64 i) := bkeep bx (by simp [go_sem])
  have c1_1_0 : wx1.cell? ⟨w.heap.size + 1, 0, none⟩ = some (.string ⟨#[]⟩) := bkeep bx (by simp [go_sem])
  have f1_1_0 : wx1.frozen? ⟨w.heap.size + 1, 0, none⟩ = false := bthaw bx (v := .string ⟨#[]⟩) (by simp [go_sem]) (by simp [go_sem])
  have c1_1_1 : wx1.cell? ⟨w.heap.size + 1, 1, none⟩ = some (.slice none 0 0) := bkeep bx (by simp [go_sem])
  have f1_1_1 : wx1.frozen? ⟨w.heap.size + 1, 1, none⟩ = false := bthaw bx (v := .slice none 0 0) (by simp [go_sem]) (by simp [go_sem])
  have c1_1_2 : wx1.cell? ⟨w.heap.size + 1, 2, none⟩ = some (.int .i64 0) := bkeep bx (by simp [go_sem])
  have f1_1_2 : wx1.frozen? ⟨w.heap.size + 1, 2, none⟩ = false := bthaw bx (v := .int .i64 0) (by simp [go_sem]) (by simp [go_sem])
  have c1_1_3 : wx1.cell? ⟨w.heap.size + 1, 3, none⟩ = some (.int .i64 0) := bkeep bx (by simp [go_sem])
  have f1_1_3 : wx1.frozen? ⟨w.heap.size + 1, 3, none⟩ = false := bthaw bx (v := .int .i64 0) (by simp [go_sem]) (by simp [go_sem])
  have c1_1_4 : wx1.cell? ⟨w.heap.size + 1, 4, none⟩ = some (.int .i64 0) := bkeep bx (by simp [go_sem])
  have f1_1_4 : wx1.frozen? ⟨w.heap.size + 1, 4, none⟩ = false := bthaw bx (v := .int .i64 0) (by simp [go_sem]) (by simp [go_sem])
  have c1_2_0 : wx1.cell? ⟨w.heap.size + 1 + 1, 0, none⟩ = some (.string nm) := bkeep bx (by simp [go_sem])
  have f1_2_0 : wx1.frozen? ⟨w.heap.size + 1 + 1, 0, none⟩ = false := bthaw bx (v := .string nm) (by simp [go_sem]) (by simp [go_sem])
  have c1_2_1 : wx1.cell? ⟨w.heap.size + 1 + 1, 1, none⟩ = some (.slice none 0 0) := bkeep bx (by simp [go_sem])
  have f1_2_1 : wx1.frozen? ⟨w.heap.size + 1 + 1, 1, none⟩ = false := bthaw bx (v := .slice none 0 0) (by simp [go_sem]) (by simp [go_sem])
  have c1_2_2 : wx1.cell? ⟨w.heap.size + 1 + 1, 2, none⟩ = some (.int .i64 0) := bkeep bx (by simp [go_sem])
  have f1_2_2 : wx1.frozen? ⟨w.heap.size + 1 + 1, 2, none⟩ = false := bthaw bx (v := .int .i64 0) (by simp [go_sem]) (by simp [go_sem])
  have c1_2_3 : wx1.cell? ⟨w.heap.size + 1 + 1, 3, none⟩ = some (.int .i64 0) := bkeep bx (by simp [go_sem])
  have f1_2_3 : wx1.frozen? ⟨w.heap.size + 1 + 1, 3, none⟩ = false := bthaw bx (v := .int .i64 0) (by simp [go_sem]) (by simp [go_sem])
  have c1_2_4 : wx1.cell? ⟨w.heap.size + 1 + 1, 4, none⟩ = some (.int .i64 0) := bkeep bx (by simp [go_sem])
  have f1_2_4 : wx1.frozen? ⟨w.heap.size + 1 + 1, 4, none⟩ = false := bthaw bx (v := .int .i64 0) (by simp [go_sem]) (by simp [go_sem])
  have BX1 : Hid (Below w.heap.size w wx1) := ((((Below.refl w.heap.size w).alloc (by simp <;> omega) _).alloc (by simp <;> omega) _).alloc (by simp <;> omega) _).trans (bx.mono (by simp <;> omega))
  clear bx
  simp [go_sem] at hr
  have HR : Hid (Rw RuR 6 wx1 (some ⟨w.heap.size + 1 + 1 + 1, 0, none⟩) rs) := hr
  clear hr
  go_wp2
  (try simp only [Exit.inBlock, Exit.then])
  refine bodyPost_ret (v := .agg #[.string nm, .slice (some ⟨w.heap.size + 1 + 1 + 1, 0, none⟩) len len, .int .i64 q, .int .i64 m, .int .i64 i]) (by simp [results, Tryz.results115, go_sem, c1_1_0, c1_1_1, c1_1_2, c1_1_3, c1_1_4]; try rfl) rfl ?_
  refine ⟨_, rfl, (fun b off e => by cases e; omega), ?_, (((((((((BX1.out.setCell (p := ⟨w.heap.size + 1 + 1, _, _⟩) (by show w.heap.size ≤ w.heap.size + 1 + 1; omega) _).setCell (p := ⟨w.heap.size + 1 + 1, _, _⟩) (by show w.heap.size ≤ w.heap.size + 1 + 1; omega) _).setCell (p := ⟨w.heap.size + 1 + 1, _, _⟩) (by show w.heap.size ≤ w.heap.size + 1 + 1; omega) _).setCell (p := ⟨w.heap.size + 1 + 1, _, _⟩) (by show w.heap.size ≤ w.heap.size + 1 + 1; omega) _).setCell (p := ⟨w.heap.size + 1, _, _⟩) (by show w.heap.size ≤ w.heap.size + 1; omega) _).setCell (p := ⟨w.heap.size + 1, _, _⟩) (by show w.heap.size ≤ w.heap.size + 1; omega) _).setCell (p := ⟨w.heap.size + 1, _, _⟩) (by show w.heap.size ≤ w.heap.size + 1; omega) _).setCell (p := ⟨w.heap.size + 1, _, _⟩) (by show w.heap.size ≤ w.heap.size + 1; omega) _).setCell (p := ⟨w.heap.size + 1, _, _⟩) (by show w.heap.size ≤ w.heap.size + 1; omega) _)⟩
  
  repeat (refine rw_away ?_ (fun b off e => by cases e; simp <;> omega) _)
  exact HR.out

set_option maxHeartbeats 1000000 in
theorem eqRole_yes (nm : ByteArray) (rs : List RuleV) (q m i : Int) (a a' : Option Addr) (len cap cap' : Nat) (w : World) (h : Rw RuR 6 w a rs) (h' : Rw RuR 6 w a' rs) (hl : rs.length = len) (hc : len ≤ 1048576) :
    Calls Tryz.prog 134 #[.agg #[.string nm, .slice a len cap, .int .i64 q, .int .i64 m, .int .i64 i], .agg #[.string nm, .slice a' len cap', .int .i64 q, .int .i64 m, .int .i64 i]] w fun e w' => e = .returned (.bool true) ∧ Grw w w' := by
  have RW : Hid (Rw RuR 6 w a rs) := h
  have RW' : Hid (Rw RuR 6 w a' rs) := h'
  have HA : Hid (∀ w, Rw RuR 6 w a rs → Rw RuR 6 w a' rs → Calls Tryz.prog 197 #[.slice a len cap, .slice a' len cap'] w fun e w' => e = .returned (.bool true) ∧ Grw w w') := fun w h h' => eqRuleS_yes a a' len cap cap' rs w h h' hl hc
  clear h h'
  have h0 : (nm.toList == nm.toList) = true := by simp
  have h1 : (q != q) = false := by simp
  have h2 : (m != m) = false := by simp
  have h3 : (i != i) = false := by simp
  go_enter Tryz.func134, Tryz.ntmps134
  go_wp2_with fail
  refine (HA.out _ (RW.out.keep RuR.kp (((Grw.refl w).alloc _).alloc _).below) (RW'.out.keep RuR.kp (((Grw.refl w).alloc _).alloc _).below)).mono ?_
  rintro e wx1 ⟨rfl, bx⟩
  have k0_0 : World.cell? _ ⟨w.heap.size, 0, none⟩ = some (.string nm) := bx.keep (a := ⟨w.heap.size, 0, none⟩) (v := .string nm) (by simp [go_sem])
  have k0_1 : World.cell? _ ⟨w.heap.size, 1, none⟩ = some (.slice a len cap) := bx.keep (a := ⟨w.heap.size, 1, none⟩) (v := .slice a len cap) (by simp [go_sem])
  have k0_2 : World.cell? _ ⟨w.heap.size, 2, none⟩ = some (.int .i64 q) := bx.keep (a := ⟨w.heap.size, 2, none⟩) (v := .int .i64 q) (by simp [go_sem])
  have k0_3 : World.cell? _ ⟨w.heap.size, 3, none⟩ = some (.int .i64 m) := bx.keep (a := ⟨w.heap.size, 3, none⟩) (v := .int .i64 m) (by simp [go_sem])
  have k0_4 : World.cell? _ ⟨w.heap.size, 4, none⟩ = some (.int .i64 i) := bx.keep (a := ⟨w.heap.size, 4, none⟩) (v := .int .i64 i) (by simp [go_sem])
  have k1_0 : World.cell? _ ⟨w.heap.size + 1, 0, none⟩ = some (.string nm) := bx.keep (a := ⟨w.heap.size + 1, 0, none⟩) (v := .string nm) (by simp [go_sem])
  have k1_1 : World.cell? _ ⟨w.heap.size + 1, 1, none⟩ = some (.slice a' len cap') := bx.keep (a := ⟨w.heap.size + 1, 1, none⟩) (v := .slice a' len cap') (by simp [go_sem])
  have k1_2 : World.cell? _ ⟨w.heap.size + 1, 2, none⟩ = some (.int .i64 q) := bx.keep (a := ⟨w.heap.size + 1, 2, none⟩) (v := .int .i64 q) (by simp [go_sem])
  have k1_3 : World.cell? _ ⟨w.heap.size + 1, 3, none⟩ = some (.int .i64 m) := bx.keep (a := ⟨w.heap.size + 1, 3, none⟩) (v := .int .i64 m) (by simp [go_sem])
  have k1_4 : World.cell? _ ⟨w.heap.size + 1, 4, none⟩ = some (.int .i64 i) := bx.keep (a := ⟨w.heap.size + 1, 4, none⟩) (v := .int .i64 i) (by simp [go_sem])
  have BX : Hid (Grw w _) := (((Grw.refl _).alloc _).alloc _).trans bx
  clear bx
  go_wp2
  go_ret
  exact ⟨rfl, BX.out⟩

end Go.Proofs.YtlebblmlbhnppaaGreat
