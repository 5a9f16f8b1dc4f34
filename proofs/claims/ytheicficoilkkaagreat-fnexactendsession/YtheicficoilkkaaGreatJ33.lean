/- Users, sessions, fails, records and lists of them in the laws: measured, copied, compared. -/
import Derived.Test.YtheicficoilkkaaGreatJ32
import Derived.Test.YtheicficoilkkaaGreatGrw
import Derived.Test.YtheicficoilkkaaGreatInfo
import Derived.Test.YtheicficoilkkaaGreatRoom
import Derived.Test.YtheicficoilkkaaGreatTests
namespace Go.Proofs.YtheicficoilkkaaGreat
open Go.RowKit Go.PlainAid Go.Proofs.YtheicficoilkkaaGreat.Bt Go.Sort
set_option linter.unusedVariables false
set_option maxRecDepth 20000
theorem gkeep {w w' : World} (h : Below w.heap.size w w') {a : Addr} {v : Value} (hc : w.cell? a = some v) : w'.cell? a = some v := by
  rw [h.cell (World.block_lt_of_cell? w a hc)]; exact hc

set_option maxHeartbeats 2000000 in
theorem toUser_any (nm : ByteArray) (sa : ByteArray) (ha : ByteArray) (ro : ByteArray) (bl : Int) (lg : Int) (w : World) :
    Calls Tryz.prog 99 #[.agg #[.string nm, .string sa, .string ha, .string ro, .int .i64 bl, .int .i64 lg]] w fun e w' => e = .returned (.agg #[.string nm, .string sa, .string ha, .string ro, .int .i64 bl, .int .i64 lg]) ∧ Below w.heap.size w w' := by
  go_enter Tryz.func99, Tryz.ntmps99
  go_wp2
  (try simp only [Exit.inBlock, Exit.then])
  refine bodyPost_ret (v := .agg #[.string nm, .string sa, .string ha, .string ro, .int .i64 bl, .int .i64 lg]) (by simp [results, Tryz.results99, go_sem]; try rfl) rfl ?_
  exact ⟨rfl, ((((Grw.refl _).alloc _).alloc _).alloc _).below⟩
set_option maxHeartbeats 1000000 in
theorem eqUser_any (nm : ByteArray) (sa : ByteArray) (ha : ByteArray) (ro : ByteArray) (bl : Int) (lg : Int) (w : World) :
    Calls Tryz.prog 114 #[.agg #[.string nm, .string sa, .string ha, .string ro, .int .i64 bl, .int .i64 lg], .agg #[.string nm, .string sa, .string ha, .string ro, .int .i64 bl, .int .i64 lg]] w fun e w' => e = .returned (.bool true) ∧ Grw w w' := by
  have h0 : (nm.toList == nm.toList) = true := by simp
  have h1 : (sa.toList == sa.toList) = true := by simp
  have h2 : (ha.toList == ha.toList) = true := by simp
  have h3 : (ro.toList == ro.toList) = true := by simp
  have h4 : (bl != bl) = false := by simp
  have h5 : (lg != lg) = false := by simp
  go_enter Tryz.func114, Tryz.ntmps114
  go_wp2
  go_ret
  exact ⟨rfl, ((Grw.refl _).alloc _).alloc _⟩
theorem infoUser : (Tryz.prog.info? 111).map (fun i => (i.zero, i.size, i.bytes)) = some (some (.agg #[.string ⟨#[]⟩, .string ⟨#[]⟩, .string ⟨#[]⟩, .string ⟨#[]⟩, .int .i64 0, .int .i64 0]), 6, 80) := by kernel_rfl
set_option maxHeartbeats 2000000 in
theorem toUserS_any (a : Option Addr) (len cap : Nat) (xs : List UserV) (w : World) (h : Rw UsR 6 w a xs) (hl : xs.length = len) (hc : len ≤ 1048576) :
    Calls Tryz.prog 45 #[.slice a len cap] w fun e w' => e = .returned (.slice (some ⟨w.heap.size, 0, none⟩) len len) ∧ Rw UsR 6 w' (some ⟨w.heap.size, 0, none⟩) xs ∧ w.heap.size < w'.heap.size ∧ Below w.heap.size w w' := by
  have RW : Hid (Rw UsR 6 w a xs) := h
  clear h
  obtain ⟨i0, hi, hz0, hz1, hz2⟩ := info_parts infoUser
  have hmk := run_make (P := Tryz.prog) w 43 111 i0 (.agg #[.string ⟨#[]⟩, .string ⟨#[]⟩, .string ⟨#[]⟩, .string ⟨#[]⟩, .int .i64 0, .int .i64 0]) Tryz.underlying43 hi hz0 .i64 .i64 len len (by omega) (Int.le_refl _) (by rw [hz2]; omega) (by omega)
  rw [hz1, Int.toNat_natCast] at hmk
  have HM : Hid ((w.alloc (.cells (madeCells #[.string ⟨#[]⟩, .string ⟨#[]⟩, .string ⟨#[]⟩, .string ⟨#[]⟩, .int .i64 0, .int .i64 0] (len * 6)) 111)).ownsRow w.heap.size 111 6 (.slice (some ⟨w.heap.size, 0, none⟩) len len) len (madeCells #[.string ⟨#[]⟩, .string ⟨#[]⟩, .string ⟨#[]⟩, .string ⟨#[]⟩, .int .i64 0, .int .i64 0] (len * 6)).toList ∧ Below w.heap.size w (w.alloc (.cells (madeCells #[.string ⟨#[]⟩, .string ⟨#[]⟩, .string ⟨#[]⟩, .string ⟨#[]⟩, .int .i64 0, .int .i64 0] (len * 6)) 111))) := ⟨owns_made w _ _ len 6 _ (Nat.le_refl _) (by unfold maxLen; omega), (Below.refl _ _).alloc (Nat.le_refl _) _⟩
  have hmk2 : (Instr.makeSlice 43 (.int .i64 (len : Int)) (.int .i64 (len : Int))).run Tryz.prog w = .ok (.slice (some ⟨w.heap.size, 0, none⟩) len len) (w.alloc (.cells (madeCells #[.string ⟨#[]⟩, .string ⟨#[]⟩, .string ⟨#[]⟩, .string ⟨#[]⟩, .int .i64 0, .int .i64 0] (len * 6)) 111)) := hmk
  clear hmk hi hz0 hz1 hz2
  obtain ⟨W, hW⟩ : ∃ W, W = w.alloc (.cells (madeCells #[.string ⟨#[]⟩, .string ⟨#[]⟩, .string ⟨#[]⟩, .string ⟨#[]⟩, .int .i64 0, .int .i64 0] (len * 6)) 111) := ⟨_, rfl⟩
  rw [← hW] at HM hmk2
  clear hW
  go_enter Tryz.func45, Tryz.ntmps45
  go_wp2
  go_loopw [4] (fun i wr => ∃ (k : Nat) (F : List Value), k ≤ len ∧ i = .int .i64 k ∧ Hid (wr.ownsRow w.heap.size 111 6 (.slice (some ⟨w.heap.size, 0, none⟩) len len) len F ∧ Cop UsR 6 wr F xs k ∧ Below w.heap.size w wr)) (fun i _ => len - (intOf i).toNat)
  case atStart => exact ⟨0, _, Nat.zero_le _, rfl, HM.out.1, Cop.zero, HM.out.2⟩
  case round =>
    obtain ⟨k, F, hk, rfl, X⟩ := hrel
    by_cases hlt : k < len
    · obtain ⟨x, hx⟩ := at_of hl hlt
      obtain ⟨b, off, vs, rfl, hb, hvl, hR, hc⟩ := RW.out.at UsR.kp X.out.2.2 hx
      obtain ⟨nm, sa, ha, ro, bl, lg⟩ := x
      obtain ⟨rfl, hok⟩ := hR
      have HK : Hid (UsRok ⟨nm, sa, ha, ro, bl, lg⟩) := hok
      clear hok
      have q0 : wr.cell? ⟨b, off + k * 6, none⟩ = some (.string nm) := hc 0 _ rfl
      have q1 : wr.cell? ⟨b, off + k * 6 + 1, none⟩ = some (.string sa) := hc 1 _ rfl
      have q2 : wr.cell? ⟨b, off + k * 6 + 2, none⟩ = some (.string ha) := hc 2 _ rfl
      have q3 : wr.cell? ⟨b, off + k * 6 + 3, none⟩ = some (.string ro) := hc 3 _ rfl
      have q4 : wr.cell? ⟨b, off + k * 6 + 4, none⟩ = some (.int .i64 bl) := hc 4 _ rfl
      have q5 : wr.cell? ⟨b, off + k * 6 + 5, none⟩ = some (.int .i64 lg) := hc 5 _ rfl
      have HT : Hid (∀ w, Calls Tryz.prog 99 #[.agg #[.string nm, .string sa, .string ha, .string ro, .int .i64 bl, .int .i64 lg]] w fun e w' => e = .returned (.agg #[.string nm, .string sa, .string ha, .string ro, .int .i64 bl, .int .i64 lg]) ∧ Below w.heap.size w w') := fun w => toUser_any nm sa ha ro bl lg w
      have hltz : (k : Int) < (len : Int) := by omega
      clear hc
      go_wp2_with fail
      refine (HT.out _).mono ?_
      rintro e w1 ⟨rfl, b1⟩
      have o1 := owns_now X.out.1 b1
      obtain ⟨⟨u0, c0⟩, z0⟩ := owns_cell o1 (j := 0) hlt (by omega)
      obtain ⟨⟨u1, c1⟩, z1⟩ := owns_cell o1 (j := 1) hlt (by omega)
      obtain ⟨⟨u2, c2⟩, z2⟩ := owns_cell o1 (j := 2) hlt (by omega)
      obtain ⟨⟨u3, c3⟩, z3⟩ := owns_cell o1 (j := 3) hlt (by omega)
      obtain ⟨⟨u4, c4⟩, z4⟩ := owns_cell o1 (j := 4) hlt (by omega)
      obtain ⟨⟨u5, c5⟩, z5⟩ := owns_cell o1 (j := 5) hlt (by omega)
      replace c0 : w1.cell? ⟨w.heap.size, k * 6, none⟩ = some u0 := c0
      replace z0 : w1.frozen? ⟨w.heap.size, k * 6, none⟩ = false := z0
      have Y0 : ∀ W1, W1 = (((((w1.setCell ⟨w.heap.size, k * 6, none⟩ (.string nm)).setCell ⟨w.heap.size, k * 6 + 1, none⟩ (.string sa)).setCell ⟨w.heap.size, k * 6 + 2, none⟩ (.string ha)).setCell ⟨w.heap.size, k * 6 + 3, none⟩ (.string ro)).setCell ⟨w.heap.size, k * 6 + 4, none⟩ (.int .i64 bl)).setCell ⟨w.heap.size, k * 6 + 5, none⟩ (.int .i64 lg) → W1.ownsRow w.heap.size 111 6 (.slice (some ⟨w.heap.size, 0, none⟩) len len) len (sets F (k * 6) [.string nm, .string sa, .string ha, .string ro, .int .i64 bl, .int .i64 lg]) ∧ Cop UsR 6 W1 (sets F (k * 6) [.string nm, .string sa, .string ha, .string ro, .int .i64 bl, .int .i64 lg]) xs (k + 1) ∧ Below w.heap.size w W1 := by
        intro W1 hW1
        have h2 := owns_sets [.string nm, .string sa, .string ha, .string ro, .int .i64 bl, .int .i64 lg] _ _ (k * 6) o1
        rw [wsets6, ← hW1] at h2
        have hF : k * 6 + 6 ≤ F.length := by
          rw [X.out.1.1]
          have : (k + 1) * 6 ≤ len * 6 := Nat.mul_le_mul_right _ hlt
          omega
        have c2 : Cop UsR 6 W1 F xs k := Cop.keep X.out.2.1 (fun x vs h => h)
        have c3 := Cop.step (vs := [.string nm, .string sa, .string ha, .string ro, .int .i64 bl, .int .i64 lg]) c2 hx ⟨rfl, HK.out⟩ rfl hF
        exact ⟨h2.1, c3, (X.out.2.2.trans (b1.mono X.out.2.2.size)).trans (below_row h2.2 (Nat.le_refl _) (Nat.le_trans X.out.2.2.size b1.size))⟩
      have Y : Hid (((((((w1.setCell ⟨w.heap.size, k * 6, none⟩ (.string nm)).setCell ⟨w.heap.size, k * 6 + 1, none⟩ (.string sa)).setCell ⟨w.heap.size, k * 6 + 2, none⟩ (.string ha)).setCell ⟨w.heap.size, k * 6 + 3, none⟩ (.string ro)).setCell ⟨w.heap.size, k * 6 + 4, none⟩ (.int .i64 bl)).setCell ⟨w.heap.size, k * 6 + 5, none⟩ (.int .i64 lg)).ownsRow w.heap.size 111 6 (.slice (some ⟨w.heap.size, 0, none⟩) len len) len (sets F (k * 6) [.string nm, .string sa, .string ha, .string ro, .int .i64 bl, .int .i64 lg]) ∧ Cop UsR 6 ((((((w1.setCell ⟨w.heap.size, k * 6, none⟩ (.string nm)).setCell ⟨w.heap.size, k * 6 + 1, none⟩ (.string sa)).setCell ⟨w.heap.size, k * 6 + 2, none⟩ (.string ha)).setCell ⟨w.heap.size, k * 6 + 3, none⟩ (.string ro)).setCell ⟨w.heap.size, k * 6 + 4, none⟩ (.int .i64 bl)).setCell ⟨w.heap.size, k * 6 + 5, none⟩ (.int .i64 lg)) (sets F (k * 6) [.string nm, .string sa, .string ha, .string ro, .int .i64 bl, .int .i64 lg]) xs (k + 1) ∧ Below w.heap.size w ((((((w1.setCell ⟨w.heap.size, k * 6, none⟩ (.string nm)).setCell ⟨w.heap.size, k * 6 + 1, none⟩ (.string sa)).setCell ⟨w.heap.size, k * 6 + 2, none⟩ (.string ha)).setCell ⟨w.heap.size, k * 6 + 3, none⟩ (.string ro)).setCell ⟨w.heap.size, k * 6 + 4, none⟩ (.int .i64 bl)).setCell ⟨w.heap.size, k * 6 + 5, none⟩ (.int .i64 lg))) := Y0 _ rfl
      clear Y0
      clear o1 b1 q0 q1 q2 q3 q4 q5 HT X HM hmk2 hx HK
      go_wp2
      go_roundw
      case rel => exact ⟨k + 1, _, by omega, by go_num, Y⟩
      case measure => simp [intOf]; omega
    · obtain rfl : k = len := by omega
      go_wp2
      go_ret
      exact ⟨rfl, X.out.2.1.rw X.out.1 hl, (World.ownsRow.lt X.out.1 w.heap.size rfl).2, X.out.2.2⟩
set_option maxHeartbeats 2000000 in
theorem eqUserS_yes (a a' : Option Addr) (len cap cap' : Nat) (xs : List UserV) (w : World) (h : Rw UsR 6 w a xs) (h' : Rw UsR 6 w a' xs) (hl : xs.length = len) (hlen : len ≤ 9223372036854775807) :
    Calls Tryz.prog 58 #[.slice a len cap, .slice a' len cap'] w fun e w' => e = .returned (.bool true) ∧ Grw w w' := by
  have hne : ((len : Int) != (len : Int)) = false := by simp
  have hmix : Tryz.prog.follows .mixedOrders = true := by kernel_rfl
  have RW : Hid (Rw UsR 6 w a xs) := h
  have RW' : Hid (Rw UsR 6 w a' xs) := h'
  clear h h'
  go_enter Tryz.func58, Tryz.ntmps58
  go_wp2
  go_loopw [5] (fun i wr => ∃ k : Nat, k ≤ len ∧ i = .int .i64 k ∧ Hid (Grw w wr)) (fun i _ => len - (intOf i).toNat)
  case atStart => exact ⟨0, Nat.zero_le _, rfl, Grw.refl w⟩
  case round =>
    obtain ⟨k, hk, rfl, HG⟩ := hrel
    by_cases hlt : k < len
    · obtain ⟨x, hx⟩ := at_of hl hlt
      obtain ⟨b, off, vs, rfl, hb, hvl, hR, hc⟩ := RW.out.at UsR.kp HG.out.below hx
      obtain ⟨b', off', vs', rfl, hb', hvl', hR', hc'⟩ := RW'.out.at UsR.kp HG.out.below hx
      obtain ⟨nm, sa, ha, ro, bl, lg⟩ := x
      obtain ⟨rfl, -⟩ := hR
      obtain ⟨rfl, -⟩ := hR'
      have q0 : ∀ n os, (grow (wr.drewN n) os).cell? ⟨b, off + k * 6, none⟩ = some (.string nm) := fun n os => grown_cell hb HG.out (hc 0 _ rfl) n os
      have q1 : ∀ n os, (grow (wr.drewN n) os).cell? ⟨b, off + k * 6 + 1, none⟩ = some (.string sa) := fun n os => grown_cell hb HG.out (hc 1 _ rfl) n os
      have q2 : ∀ n os, (grow (wr.drewN n) os).cell? ⟨b, off + k * 6 + 2, none⟩ = some (.string ha) := fun n os => grown_cell hb HG.out (hc 2 _ rfl) n os
      have q3 : ∀ n os, (grow (wr.drewN n) os).cell? ⟨b, off + k * 6 + 3, none⟩ = some (.string ro) := fun n os => grown_cell hb HG.out (hc 3 _ rfl) n os
      have q4 : ∀ n os, (grow (wr.drewN n) os).cell? ⟨b, off + k * 6 + 4, none⟩ = some (.int .i64 bl) := fun n os => grown_cell hb HG.out (hc 4 _ rfl) n os
      have q5 : ∀ n os, (grow (wr.drewN n) os).cell? ⟨b, off + k * 6 + 5, none⟩ = some (.int .i64 lg) := fun n os => grown_cell hb HG.out (hc 5 _ rfl) n os
      have r0 : ∀ n os, (grow (wr.drewN n) os).cell? ⟨b', off' + k * 6, none⟩ = some (.string nm) := fun n os => grown_cell hb' HG.out (hc' 0 _ rfl) n os
      have r1 : ∀ n os, (grow (wr.drewN n) os).cell? ⟨b', off' + k * 6 + 1, none⟩ = some (.string sa) := fun n os => grown_cell hb' HG.out (hc' 1 _ rfl) n os
      have r2 : ∀ n os, (grow (wr.drewN n) os).cell? ⟨b', off' + k * 6 + 2, none⟩ = some (.string ha) := fun n os => grown_cell hb' HG.out (hc' 2 _ rfl) n os
      have r3 : ∀ n os, (grow (wr.drewN n) os).cell? ⟨b', off' + k * 6 + 3, none⟩ = some (.string ro) := fun n os => grown_cell hb' HG.out (hc' 3 _ rfl) n os
      have r4 : ∀ n os, (grow (wr.drewN n) os).cell? ⟨b', off' + k * 6 + 4, none⟩ = some (.int .i64 bl) := fun n os => grown_cell hb' HG.out (hc' 4 _ rfl) n os
      have r5 : ∀ n os, (grow (wr.drewN n) os).cell? ⟨b', off' + k * 6 + 5, none⟩ = some (.int .i64 lg) := fun n os => grown_cell hb' HG.out (hc' 5 _ rfl) n os
      have HE : Hid (∀ w, Calls Tryz.prog 114 #[.agg #[.string nm, .string sa, .string ha, .string ro, .int .i64 bl, .int .i64 lg], .agg #[.string nm, .string sa, .string ha, .string ro, .int .i64 bl, .int .i64 lg]] w fun e w' => e = .returned (.bool true) ∧ Grw w w') := fun w => eqUser_any nm sa ha ro bl lg w
      have hltz : (k : Int) < (len : Int) := by omega
      clear hc hc'
      go_wp2_with fail
      refine wp_region_quiet_grown (by assumption) (by kernel_rfl) ?_
      repeat (go_big_quiet_step (first | fail | (go_at_call 114; exact Calls.grown_of (HE.out _))))
      refine wpQuiet_nil ?_
      intro _ hw'
      obtain ⟨⟨nq, osq⟩, hw''⟩ := hw'
      subst hw''
      have HG2 : Hid (Grw w (grow (wr.drewN nq) osq)) := HG.out.trans ⟨nq, osq, rfl⟩
      clear q0 q1 q2 q3 q4 q5 r0 r1 r2 r3 r4 r5 HG HE
      go_wp2
      go_roundw
      case rel => exact ⟨k + 1, by omega, by go_num, HG2⟩
      case measure => simp [intOf]; omega
    · obtain rfl : k = len := by omega
      go_wp2
      go_ret
      exact ⟨rfl, HG.out⟩

set_option maxHeartbeats 2000000 in
theorem toSession_any (id : Int) (us : Int) (mc : ByteArray) (ip : Int) (be : Int) (la : Int) (ud : Int) (qu : Int) (un : Int) (il : Int) (w : World) :
    Calls Tryz.prog 100 #[.agg #[.int .i64 id, .int .i64 us, .string mc, .int .i64 ip, .int .i64 be, .int .i64 la, .int .i64 ud, .int .i64 qu, .int .i64 un, .int .i64 il]] w fun e w' => e = .returned (.agg #[.int .i64 id, .int .i64 us, .string mc, .int .i64 ip, .int .i64 be, .int .i64 la, .int .i64 ud, .int .i64 qu, .int .i64 un, .int .i64 il]) ∧ Below w.heap.size w w' := by
  go_enter Tryz.func100, Tryz.ntmps100
  go_wp2
  (try simp only [Exit.inBlock, Exit.then])
  refine bodyPost_ret (v := .agg #[.int .i64 id, .int .i64 us, .string mc, .int .i64 ip, .int .i64 be, .int .i64 la, .int .i64 ud, .int .i64 qu, .int .i64 un, .int .i64 il]) (by simp [results, Tryz.results100, go_sem]; try rfl) rfl ?_
  exact ⟨rfl, ((((Grw.refl _).alloc _).alloc _).alloc _).below⟩
set_option maxHeartbeats 1000000 in
theorem eqSession_any (id : Int) (us : Int) (mc : ByteArray) (ip : Int) (be : Int) (la : Int) (ud : Int) (qu : Int) (un : Int) (il : Int) (w : World) :
    Calls Tryz.prog 115 #[.agg #[.int .i64 id, .int .i64 us, .string mc, .int .i64 ip, .int .i64 be, .int .i64 la, .int .i64 ud, .int .i64 qu, .int .i64 un, .int .i64 il], .agg #[.int .i64 id, .int .i64 us, .string mc, .int .i64 ip, .int .i64 be, .int .i64 la, .int .i64 ud, .int .i64 qu, .int .i64 un, .int .i64 il]] w fun e w' => e = .returned (.bool true) ∧ Grw w w' := by
  have h0 : (id != id) = false := by simp
  have h1 : (us != us) = false := by simp
  have h2 : (mc.toList == mc.toList) = true := by simp
  have h3 : (ip != ip) = false := by simp
  have h4 : (be != be) = false := by simp
  have h5 : (la != la) = false := by simp
  have h6 : (ud != ud) = false := by simp
  have h7 : (qu != qu) = false := by simp
  have h8 : (un != un) = false := by simp
  have h9 : (il != il) = false := by simp
  go_enter Tryz.func115, Tryz.ntmps115
  go_wp2
  go_ret
  exact ⟨rfl, ((Grw.refl _).alloc _).alloc _⟩
theorem infoSession : (Tryz.prog.info? 76).map (fun i => (i.zero, i.size, i.bytes)) = some (some (.agg #[.int .i64 0, .int .i64 0, .string ⟨#[]⟩, .int .i64 0, .int .i64 0, .int .i64 0, .int .i64 0, .int .i64 0, .int .i64 0, .int .i64 0]), 10, 88) := by kernel_rfl
set_option maxHeartbeats 2000000 in
theorem toSessionS_any (a : Option Addr) (len cap : Nat) (xs : List SessV) (w : World) (h : Rw SeR 10 w a xs) (hl : xs.length = len) (hc : len ≤ 1048576) :
    Calls Tryz.prog 46 #[.slice a len cap] w fun e w' => e = .returned (.slice (some ⟨w.heap.size, 0, none⟩) len len) ∧ Rw SeR 10 w' (some ⟨w.heap.size, 0, none⟩) xs ∧ w.heap.size < w'.heap.size ∧ Below w.heap.size w w' := by
  have RW : Hid (Rw SeR 10 w a xs) := h
  clear h
  obtain ⟨i0, hi, hz0, hz1, hz2⟩ := info_parts infoSession
  have hmk := run_make (P := Tryz.prog) w 44 76 i0 (.agg #[.int .i64 0, .int .i64 0, .string ⟨#[]⟩, .int .i64 0, .int .i64 0, .int .i64 0, .int .i64 0, .int .i64 0, .int .i64 0, .int .i64 0]) Tryz.underlying44 hi hz0 .i64 .i64 len len (by omega) (Int.le_refl _) (by rw [hz2]; omega) (by omega)
  rw [hz1, Int.toNat_natCast] at hmk
  have HM : Hid ((w.alloc (.cells (madeCells #[.int .i64 0, .int .i64 0, .string ⟨#[]⟩, .int .i64 0, .int .i64 0, .int .i64 0, .int .i64 0, .int .i64 0, .int .i64 0, .int .i64 0] (len * 10)) 76)).ownsRow w.heap.size 76 10 (.slice (some ⟨w.heap.size, 0, none⟩) len len) len (madeCells #[.int .i64 0, .int .i64 0, .string ⟨#[]⟩, .int .i64 0, .int .i64 0, .int .i64 0, .int .i64 0, .int .i64 0, .int .i64 0, .int .i64 0] (len * 10)).toList ∧ Below w.heap.size w (w.alloc (.cells (madeCells #[.int .i64 0, .int .i64 0, .string ⟨#[]⟩, .int .i64 0, .int .i64 0, .int .i64 0, .int .i64 0, .int .i64 0, .int .i64 0, .int .i64 0] (len * 10)) 76))) := ⟨owns_made w _ _ len 10 _ (Nat.le_refl _) (by unfold maxLen; omega), (Below.refl _ _).alloc (Nat.le_refl _) _⟩
  have hmk2 : (Instr.makeSlice 44 (.int .i64 (len : Int)) (.int .i64 (len : Int))).run Tryz.prog w = .ok (.slice (some ⟨w.heap.size, 0, none⟩) len len) (w.alloc (.cells (madeCells #[.int .i64 0, .int .i64 0, .string ⟨#[]⟩, .int .i64 0, .int .i64 0, .int .i64 0, .int .i64 0, .int .i64 0, .int .i64 0, .int .i64 0] (len * 10)) 76)) := hmk
  clear hmk hi hz0 hz1 hz2
  obtain ⟨W, hW⟩ : ∃ W, W = w.alloc (.cells (madeCells #[.int .i64 0, .int .i64 0, .string ⟨#[]⟩, .int .i64 0, .int .i64 0, .int .i64 0, .int .i64 0, .int .i64 0, .int .i64 0, .int .i64 0] (len * 10)) 76) := ⟨_, rfl⟩
  rw [← hW] at HM hmk2
  clear hW
  go_enter Tryz.func46, Tryz.ntmps46
  go_wp2
  go_loopw [4] (fun i wr => ∃ (k : Nat) (F : List Value), k ≤ len ∧ i = .int .i64 k ∧ Hid (wr.ownsRow w.heap.size 76 10 (.slice (some ⟨w.heap.size, 0, none⟩) len len) len F ∧ Cop SeR 10 wr F xs k ∧ Below w.heap.size w wr)) (fun i _ => len - (intOf i).toNat)
  case atStart => exact ⟨0, _, Nat.zero_le _, rfl, HM.out.1, Cop.zero, HM.out.2⟩
  case round =>
    obtain ⟨k, F, hk, rfl, X⟩ := hrel
    by_cases hlt : k < len
    · obtain ⟨x, hx⟩ := at_of hl hlt
      obtain ⟨b, off, vs, rfl, hb, hvl, hR, hc⟩ := RW.out.at SeR.kp X.out.2.2 hx
      obtain ⟨id, us, mc, ip, be, la, ud, qu, un, il⟩ := x
      obtain ⟨rfl, hok⟩ := hR
      have HK : Hid (SeRok ⟨id, us, mc, ip, be, la, ud, qu, un, il⟩) := hok
      clear hok
      have q0 : wr.cell? ⟨b, off + k * 10, none⟩ = some (.int .i64 id) := hc 0 _ rfl
      have q1 : wr.cell? ⟨b, off + k * 10 + 1, none⟩ = some (.int .i64 us) := hc 1 _ rfl
      have q2 : wr.cell? ⟨b, off + k * 10 + 2, none⟩ = some (.string mc) := hc 2 _ rfl
      have q3 : wr.cell? ⟨b, off + k * 10 + 3, none⟩ = some (.int .i64 ip) := hc 3 _ rfl
      have q4 : wr.cell? ⟨b, off + k * 10 + 4, none⟩ = some (.int .i64 be) := hc 4 _ rfl
      have q5 : wr.cell? ⟨b, off + k * 10 + 5, none⟩ = some (.int .i64 la) := hc 5 _ rfl
      have q6 : wr.cell? ⟨b, off + k * 10 + 6, none⟩ = some (.int .i64 ud) := hc 6 _ rfl
      have q7 : wr.cell? ⟨b, off + k * 10 + 7, none⟩ = some (.int .i64 qu) := hc 7 _ rfl
      have q8 : wr.cell? ⟨b, off + k * 10 + 8, none⟩ = some (.int .i64 un) := hc 8 _ rfl
      have q9 : wr.cell? ⟨b, off + k * 10 + 9, none⟩ = some (.int .i64 il) := hc 9 _ rfl
      have HT : Hid (∀ w, Calls Tryz.prog 100 #[.agg #[.int .i64 id, .int .i64 us, .string mc, .int .i64 ip, .int .i64 be, .int .i64 la, .int .i64 ud, .int .i64 qu, .int .i64 un, .int .i64 il]] w fun e w' => e = .returned (.agg #[.int .i64 id, .int .i64 us, .string mc, .int .i64 ip, .int .i64 be, .int .i64 la, .int .i64 ud, .int .i64 qu, .int .i64 un, .int .i64 il]) ∧ Below w.heap.size w w') := fun w => toSession_any id us mc ip be la ud qu un il w
      have hltz : (k : Int) < (len : Int) := by omega
      clear hc
      go_wp2_with fail
      refine (HT.out _).mono ?_
      rintro e w1 ⟨rfl, b1⟩
      have o1 := owns_now X.out.1 b1
      obtain ⟨⟨u0, c0⟩, z0⟩ := owns_cell o1 (j := 0) hlt (by omega)
      obtain ⟨⟨u1, c1⟩, z1⟩ := owns_cell o1 (j := 1) hlt (by omega)
      obtain ⟨⟨u2, c2⟩, z2⟩ := owns_cell o1 (j := 2) hlt (by omega)
      obtain ⟨⟨u3, c3⟩, z3⟩ := owns_cell o1 (j := 3) hlt (by omega)
      obtain ⟨⟨u4, c4⟩, z4⟩ := owns_cell o1 (j := 4) hlt (by omega)
      obtain ⟨⟨u5, c5⟩, z5⟩ := owns_cell o1 (j := 5) hlt (by omega)
      obtain ⟨⟨u6, c6⟩, z6⟩ := owns_cell o1 (j := 6) hlt (by omega)
      obtain ⟨⟨u7, c7⟩, z7⟩ := owns_cell o1 (j := 7) hlt (by omega)
      obtain ⟨⟨u8, c8⟩, z8⟩ := owns_cell o1 (j := 8) hlt (by omega)
      obtain ⟨⟨u9, c9⟩, z9⟩ := owns_cell o1 (j := 9) hlt (by omega)
      replace c0 : w1.cell? ⟨w.heap.size, k * 10, none⟩ = some u0 := c0
      replace z0 : w1.frozen? ⟨w.heap.size, k * 10, none⟩ = false := z0
      have Y0 : ∀ W1, W1 = (((((((((w1.setCell ⟨w.heap.size, k * 10, none⟩ (.int .i64 id)).setCell ⟨w.heap.size, k * 10 + 1, none⟩ (.int .i64 us)).setCell ⟨w.heap.size, k * 10 + 2, none⟩ (.string mc)).setCell ⟨w.heap.size, k * 10 + 3, none⟩ (.int .i64 ip)).setCell ⟨w.heap.size, k * 10 + 4, none⟩ (.int .i64 be)).setCell ⟨w.heap.size, k * 10 + 5, none⟩ (.int .i64 la)).setCell ⟨w.heap.size, k * 10 + 6, none⟩ (.int .i64 ud)).setCell ⟨w.heap.size, k * 10 + 7, none⟩ (.int .i64 qu)).setCell ⟨w.heap.size, k * 10 + 8, none⟩ (.int .i64 un)).setCell ⟨w.heap.size, k * 10 + 9, none⟩ (.int .i64 il) → W1.ownsRow w.heap.size 76 10 (.slice (some ⟨w.heap.size, 0, none⟩) len len) len (sets F (k * 10) [.int .i64 id, .int .i64 us, .string mc, .int .i64 ip, .int .i64 be, .int .i64 la, .int .i64 ud, .int .i64 qu, .int .i64 un, .int .i64 il]) ∧ Cop SeR 10 W1 (sets F (k * 10) [.int .i64 id, .int .i64 us, .string mc, .int .i64 ip, .int .i64 be, .int .i64 la, .int .i64 ud, .int .i64 qu, .int .i64 un, .int .i64 il]) xs (k + 1) ∧ Below w.heap.size w W1 := by
        intro W1 hW1
        have h2 := owns_sets [.int .i64 id, .int .i64 us, .string mc, .int .i64 ip, .int .i64 be, .int .i64 la, .int .i64 ud, .int .i64 qu, .int .i64 un, .int .i64 il] _ _ (k * 10) o1
        rw [wsets10, ← hW1] at h2
        have hF : k * 10 + 10 ≤ F.length := by
          rw [X.out.1.1]
          have : (k + 1) * 10 ≤ len * 10 := Nat.mul_le_mul_right _ hlt
          omega
        have c2 : Cop SeR 10 W1 F xs k := Cop.keep X.out.2.1 (fun x vs h => h)
        have c3 := Cop.step (vs := [.int .i64 id, .int .i64 us, .string mc, .int .i64 ip, .int .i64 be, .int .i64 la, .int .i64 ud, .int .i64 qu, .int .i64 un, .int .i64 il]) c2 hx ⟨rfl, HK.out⟩ rfl hF
        exact ⟨h2.1, c3, (X.out.2.2.trans (b1.mono X.out.2.2.size)).trans (below_row h2.2 (Nat.le_refl _) (Nat.le_trans X.out.2.2.size b1.size))⟩
      have Y : Hid (((((((((((w1.setCell ⟨w.heap.size, k * 10, none⟩ (.int .i64 id)).setCell ⟨w.heap.size, k * 10 + 1, none⟩ (.int .i64 us)).setCell ⟨w.heap.size, k * 10 + 2, none⟩ (.string mc)).setCell ⟨w.heap.size, k * 10 + 3, none⟩ (.int .i64 ip)).setCell ⟨w.heap.size, k * 10 + 4, none⟩ (.int .i64 be)).setCell ⟨w.heap.size, k * 10 + 5, none⟩ (.int .i64 la)).setCell ⟨w.heap.size, k * 10 + 6, none⟩ (.int .i64 ud)).setCell ⟨w.heap.size, k * 10 + 7, none⟩ (.int .i64 qu)).setCell ⟨w.heap.size, k * 10 + 8, none⟩ (.int .i64 un)).setCell ⟨w.heap.size, k * 10 + 9, none⟩ (.int .i64 il)).ownsRow w.heap.size 76 10 (.slice (some ⟨w.heap.size, 0, none⟩) len len) len (sets F (k * 10) [.int .i64 id, .int .i64 us, .string mc, .int .i64 ip, .int .i64 be, .int .i64 la, .int .i64 ud, .int .i64 qu, .int .i64 un, .int .i64 il]) ∧ Cop SeR 10 ((((((((((w1.setCell ⟨w.heap.size, k * 10, none⟩ (.int .i64 id)).setCell ⟨w.heap.size, k * 10 + 1, none⟩ (.int .i64 us)).setCell ⟨w.heap.size, k * 10 + 2, none⟩ (.string mc)).setCell ⟨w.heap.size, k * 10 + 3, none⟩ (.int .i64 ip)).setCell ⟨w.heap.size, k * 10 + 4, none⟩ (.int .i64 be)).setCell ⟨w.heap.size, k * 10 + 5, none⟩ (.int .i64 la)).setCell ⟨w.heap.size, k * 10 + 6, none⟩ (.int .i64 ud)).setCell ⟨w.heap.size, k * 10 + 7, none⟩ (.int .i64 qu)).setCell ⟨w.heap.size, k * 10 + 8, none⟩ (.int .i64 un)).setCell ⟨w.heap.size, k * 10 + 9, none⟩ (.int .i64 il)) (sets F (k * 10) [.int .i64 id, .int .i64 us, .string mc, .int .i64 ip, .int .i64 be, .int .i64 la, .int .i64 ud, .int .i64 qu, .int .i64 un, .int .i64 il]) xs (k + 1) ∧ Below w.heap.size w ((((((((((w1.setCell ⟨w.heap.size, k * 10, none⟩ (.int .i64 id)).setCell ⟨w.heap.size, k * 10 + 1, none⟩ (.int .i64 us)).setCell ⟨w.heap.size, k * 10 + 2, none⟩ (.string mc)).setCell ⟨w.heap.size, k * 10 + 3, none⟩ (.int .i64 ip)).setCell ⟨w.heap.size, k * 10 + 4, none⟩ (.int .i64 be)).setCell ⟨w.heap.size, k * 10 + 5, none⟩ (.int .i64 la)).setCell ⟨w.heap.size, k * 10 + 6, none⟩ (.int .i64 ud)).setCell ⟨w.heap.size, k * 10 + 7, none⟩ (.int .i64 qu)).setCell ⟨w.heap.size, k * 10 + 8, none⟩ (.int .i64 un)).setCell ⟨w.heap.size, k * 10 + 9, none⟩ (.int .i64 il))) := Y0 _ rfl
      clear Y0
      clear o1 b1 q0 q1 q2 q3 q4 q5 q6 q7 q8 q9 HT X HM hmk2 hx HK
      go_wp2
      go_roundw
      case rel => exact ⟨k + 1, _, by omega, by go_num, Y⟩
      case measure => simp [intOf]; omega
    · obtain rfl : k = len := by omega
      go_wp2
      go_ret
      exact ⟨rfl, X.out.2.1.rw X.out.1 hl, (World.ownsRow.lt X.out.1 w.heap.size rfl).2, X.out.2.2⟩
set_option maxHeartbeats 2000000 in
theorem eqSessionS_yes (a a' : Option Addr) (len cap cap' : Nat) (xs : List SessV) (w : World) (h : Rw SeR 10 w a xs) (h' : Rw SeR 10 w a' xs) (hl : xs.length = len) (hlen : len ≤ 9223372036854775807) :
    Calls Tryz.prog 59 #[.slice a len cap, .slice a' len cap'] w fun e w' => e = .returned (.bool true) ∧ Grw w w' := by
  have hne : ((len : Int) != (len : Int)) = false := by simp
  have hmix : Tryz.prog.follows .mixedOrders = true := by kernel_rfl
  have RW : Hid (Rw SeR 10 w a xs) := h
  have RW' : Hid (Rw SeR 10 w a' xs) := h'
  clear h h'
  go_enter Tryz.func59, Tryz.ntmps59
  go_wp2
  go_loopw [5] (fun i wr => ∃ k : Nat, k ≤ len ∧ i = .int .i64 k ∧ Hid (Grw w wr)) (fun i _ => len - (intOf i).toNat)
  case atStart => exact ⟨0, Nat.zero_le _, rfl, Grw.refl w⟩
  case round =>
    obtain ⟨k, hk, rfl, HG⟩ := hrel
    by_cases hlt : k < len
    · obtain ⟨x, hx⟩ := at_of hl hlt
      obtain ⟨b, off, vs, rfl, hb, hvl, hR, hc⟩ := RW.out.at SeR.kp HG.out.below hx
      obtain ⟨b', off', vs', rfl, hb', hvl', hR', hc'⟩ := RW'.out.at SeR.kp HG.out.below hx
      obtain ⟨id, us, mc, ip, be, la, ud, qu, un, il⟩ := x
      obtain ⟨rfl, -⟩ := hR
      obtain ⟨rfl, -⟩ := hR'
      have q0 : ∀ n os, (grow (wr.drewN n) os).cell? ⟨b, off + k * 10, none⟩ = some (.int .i64 id) := fun n os => grown_cell hb HG.out (hc 0 _ rfl) n os
      have q1 : ∀ n os, (grow (wr.drewN n) os).cell? ⟨b, off + k * 10 + 1, none⟩ = some (.int .i64 us) := fun n os => grown_cell hb HG.out (hc 1 _ rfl) n os
      have q2 : ∀ n os, (grow (wr.drewN n) os).cell? ⟨b, off + k * 10 + 2, none⟩ = some (.string mc) := fun n os => grown_cell hb HG.out (hc 2 _ rfl) n os
      have q3 : ∀ n os, (grow (wr.drewN n) os).cell? ⟨b, off + k * 10 + 3, none⟩ = some (.int .i64 ip) := fun n os => grown_cell hb HG.out (hc 3 _ rfl) n os
      have q4 : ∀ n os, (grow (wr.drewN n) os).cell? ⟨b, off + k * 10 + 4, none⟩ = some (.int .i64 be) := fun n os => grown_cell hb HG.out (hc 4 _ rfl) n os
      have q5 : ∀ n os, (grow (wr.drewN n) os).cell? ⟨b, off + k * 10 + 5, none⟩ = some (.int .i64 la) := fun n os => grown_cell hb HG.out (hc 5 _ rfl) n os
      have q6 : ∀ n os, (grow (wr.drewN n) os).cell? ⟨b, off + k * 10 + 6, none⟩ = some (.int .i64 ud) := fun n os => grown_cell hb HG.out (hc 6 _ rfl) n os
      have q7 : ∀ n os, (grow (wr.drewN n) os).cell? ⟨b, off + k * 10 + 7, none⟩ = some (.int .i64 qu) := fun n os => grown_cell hb HG.out (hc 7 _ rfl) n os
      have q8 : ∀ n os, (grow (wr.drewN n) os).cell? ⟨b, off + k * 10 + 8, none⟩ = some (.int .i64 un) := fun n os => grown_cell hb HG.out (hc 8 _ rfl) n os
      have q9 : ∀ n os, (grow (wr.drewN n) os).cell? ⟨b, off + k * 10 + 9, none⟩ = some (.int .i64 il) := fun n os => grown_cell hb HG.out (hc 9 _ rfl) n os
      have r0 : ∀ n os, (grow (wr.drewN n) os).cell? ⟨b', off' + k * 10, none⟩ = some (.int .i64 id) := fun n os => grown_cell hb' HG.out (hc' 0 _ rfl) n os
      have r1 : ∀ n os, (grow (wr.drewN n) os).cell? ⟨b', off' + k * 10 + 1, none⟩ = some (.int .i64 us) := fun n os => grown_cell hb' HG.out (hc' 1 _ rfl) n os
      have r2 : ∀ n os, (grow (wr.drewN n) os).cell? ⟨b', off' + k * 10 + 2, none⟩ = some (.string mc) := fun n os => grown_cell hb' HG.out (hc' 2 _ rfl) n os
      have r3 : ∀ n os, (grow (wr.drewN n) os).cell? ⟨b', off' + k * 10 + 3, none⟩ = some (.int .i64 ip) := fun n os => grown_cell hb' HG.out (hc' 3 _ rfl) n os
      have r4 : ∀ n os, (grow (wr.drewN n) os).cell? ⟨b', off' + k * 10 + 4, none⟩ = some (.int .i64 be) := fun n os => grown_cell hb' HG.out (hc' 4 _ rfl) n os
      have r5 : ∀ n os, (grow (wr.drewN n) os).cell? ⟨b', off' + k * 10 + 5, none⟩ = some (.int .i64 la) := fun n os => grown_cell hb' HG.out (hc' 5 _ rfl) n os
      have r6 : ∀ n os, (grow (wr.drewN n) os).cell? ⟨b', off' + k * 10 + 6, none⟩ = some (.int .i64 ud) := fun n os => grown_cell hb' HG.out (hc' 6 _ rfl) n os
      have r7 : ∀ n os, (grow (wr.drewN n) os).cell? ⟨b', off' + k * 10 + 7, none⟩ = some (.int .i64 qu) := fun n os => grown_cell hb' HG.out (hc' 7 _ rfl) n os
      have r8 : ∀ n os, (grow (wr.drewN n) os).cell? ⟨b', off' + k * 10 + 8, none⟩ = some (.int .i64 un) := fun n os => grown_cell hb' HG.out (hc' 8 _ rfl) n os
      have r9 : ∀ n os, (grow (wr.drewN n) os).cell? ⟨b', off' + k * 10 + 9, none⟩ = some (.int .i64 il) := fun n os => grown_cell hb' HG.out (hc' 9 _ rfl) n os
      have HE : Hid (∀ w, Calls Tryz.prog 115 #[.agg #[.int .i64 id, .int .i64 us, .string mc, .int .i64 ip, .int .i64 be, .int .i64 la, .int .i64 ud, .int .i64 qu, .int .i64 un, .int .i64 il], .agg #[.int .i64 id, .int .i64 us, .string mc, .int .i64 ip, .int .i64 be, .int .i64 la, .int .i64 ud, .int .i64 qu, .int .i64 un, .int .i64 il]] w fun e w' => e = .returned (.bool true) ∧ Grw w w') := fun w => eqSession_any id us mc ip be la ud qu un il w
      have hltz : (k : Int) < (len : Int) := by omega
      clear hc hc'
      go_wp2_with fail
      refine wp_region_quiet_grown (by assumption) (by kernel_rfl) ?_
      repeat (go_big_quiet_step (first | fail | (go_at_call 115; exact Calls.grown_of (HE.out _))))
      refine wpQuiet_nil ?_
      intro _ hw'
      obtain ⟨⟨nq, osq⟩, hw''⟩ := hw'
      subst hw''
      have HG2 : Hid (Grw w (grow (wr.drewN nq) osq)) := HG.out.trans ⟨nq, osq, rfl⟩
      clear q0 q1 q2 q3 q4 q5 q6 q7 q8 q9 r0 r1 r2 r3 r4 r5 r6 r7 r8 r9 HG HE
      go_wp2
      go_roundw
      case rel => exact ⟨k + 1, by omega, by go_num, HG2⟩
      case measure => simp [intOf]; omega
    · obtain rfl : k = len := by omega
      go_wp2
      go_ret
      exact ⟨rfl, HG.out⟩

set_option maxHeartbeats 2000000 in
theorem toFail_any (mc : ByteArray) (ct : Int) (un : Int) (w : World) :
    Calls Tryz.prog 101 #[.agg #[.string mc, .int .i64 ct, .int .i64 un]] w fun e w' => e = .returned (.agg #[.string mc, .int .i64 ct, .int .i64 un]) ∧ Below w.heap.size w w' := by
  go_enter Tryz.func101, Tryz.ntmps101
  go_wp2
  (try simp only [Exit.inBlock, Exit.then])
  refine bodyPost_ret (v := .agg #[.string mc, .int .i64 ct, .int .i64 un]) (by simp [results, Tryz.results101, go_sem]; try rfl) rfl ?_
  exact ⟨rfl, ((((Grw.refl _).alloc _).alloc _).alloc _).below⟩
set_option maxHeartbeats 1000000 in
theorem eqFail_any (mc : ByteArray) (ct : Int) (un : Int) (w : World) :
    Calls Tryz.prog 116 #[.agg #[.string mc, .int .i64 ct, .int .i64 un], .agg #[.string mc, .int .i64 ct, .int .i64 un]] w fun e w' => e = .returned (.bool true) ∧ Grw w w' := by
  have h0 : (mc.toList == mc.toList) = true := by simp
  have h1 : (ct != ct) = false := by simp
  have h2 : (un != un) = false := by simp
  go_enter Tryz.func116, Tryz.ntmps116
  go_wp2
  go_ret
  exact ⟨rfl, ((Grw.refl _).alloc _).alloc _⟩
theorem infoFail : (Tryz.prog.info? 81).map (fun i => (i.zero, i.size, i.bytes)) = some (some (.agg #[.string ⟨#[]⟩, .int .i64 0, .int .i64 0]), 3, 32) := by kernel_rfl
set_option maxHeartbeats 2000000 in
theorem toFailS_any (a : Option Addr) (len cap : Nat) (xs : List FailV) (w : World) (h : Rw FaR 3 w a xs) (hl : xs.length = len) (hc : len ≤ 1048576) :
    Calls Tryz.prog 47 #[.slice a len cap] w fun e w' => e = .returned (.slice (some ⟨w.heap.size, 0, none⟩) len len) ∧ Rw FaR 3 w' (some ⟨w.heap.size, 0, none⟩) xs ∧ w.heap.size < w'.heap.size ∧ Below w.heap.size w w' := by
  have RW : Hid (Rw FaR 3 w a xs) := h
  clear h
  obtain ⟨i0, hi, hz0, hz1, hz2⟩ := info_parts infoFail
  have hmk := run_make (P := Tryz.prog) w 45 81 i0 (.agg #[.string ⟨#[]⟩, .int .i64 0, .int .i64 0]) Tryz.underlying45 hi hz0 .i64 .i64 len len (by omega) (Int.le_refl _) (by rw [hz2]; omega) (by omega)
  rw [hz1, Int.toNat_natCast] at hmk
  have HM : Hid ((w.alloc (.cells (madeCells #[.string ⟨#[]⟩, .int .i64 0, .int .i64 0] (len * 3)) 81)).ownsRow w.heap.size 81 3 (.slice (some ⟨w.heap.size, 0, none⟩) len len) len (madeCells #[.string ⟨#[]⟩, .int .i64 0, .int .i64 0] (len * 3)).toList ∧ Below w.heap.size w (w.alloc (.cells (madeCells #[.string ⟨#[]⟩, .int .i64 0, .int .i64 0] (len * 3)) 81))) := ⟨owns_made w _ _ len 3 _ (Nat.le_refl _) (by unfold maxLen; omega), (Below.refl _ _).alloc (Nat.le_refl _) _⟩
  have hmk2 : (Instr.makeSlice 45 (.int .i64 (len : Int)) (.int .i64 (len : Int))).run Tryz.prog w = .ok (.slice (some ⟨w.heap.size, 0, none⟩) len len) (w.alloc (.cells (madeCells #[.string ⟨#[]⟩, .int .i64 0, .int .i64 0] (len * 3)) 81)) := hmk
  clear hmk hi hz0 hz1 hz2
  obtain ⟨W, hW⟩ : ∃ W, W = w.alloc (.cells (madeCells #[.string ⟨#[]⟩, .int .i64 0, .int .i64 0] (len * 3)) 81) := ⟨_, rfl⟩
  rw [← hW] at HM hmk2
  clear hW
  go_enter Tryz.func47, Tryz.ntmps47
  go_wp2
  go_loopw [4] (fun i wr => ∃ (k : Nat) (F : List Value), k ≤ len ∧ i = .int .i64 k ∧ Hid (wr.ownsRow w.heap.size 81 3 (.slice (some ⟨w.heap.size, 0, none⟩) len len) len F ∧ Cop FaR 3 wr F xs k ∧ Below w.heap.size w wr)) (fun i _ => len - (intOf i).toNat)
  case atStart => exact ⟨0, _, Nat.zero_le _, rfl, HM.out.1, Cop.zero, HM.out.2⟩
  case round =>
    obtain ⟨k, F, hk, rfl, X⟩ := hrel
    by_cases hlt : k < len
    · obtain ⟨x, hx⟩ := at_of hl hlt
      obtain ⟨b, off, vs, rfl, hb, hvl, hR, hc⟩ := RW.out.at FaR.kp X.out.2.2 hx
      obtain ⟨mc, ct, un⟩ := x
      obtain ⟨rfl, hok⟩ := hR
      have HK : Hid (FaRok ⟨mc, ct, un⟩) := hok
      clear hok
      have q0 : wr.cell? ⟨b, off + k * 3, none⟩ = some (.string mc) := hc 0 _ rfl
      have q1 : wr.cell? ⟨b, off + k * 3 + 1, none⟩ = some (.int .i64 ct) := hc 1 _ rfl
      have q2 : wr.cell? ⟨b, off + k * 3 + 2, none⟩ = some (.int .i64 un) := hc 2 _ rfl
      have HT : Hid (∀ w, Calls Tryz.prog 101 #[.agg #[.string mc, .int .i64 ct, .int .i64 un]] w fun e w' => e = .returned (.agg #[.string mc, .int .i64 ct, .int .i64 un]) ∧ Below w.heap.size w w') := fun w => toFail_any mc ct un w
      have hltz : (k : Int) < (len : Int) := by omega
      clear hc
      go_wp2_with fail
      refine (HT.out _).mono ?_
      rintro e w1 ⟨rfl, b1⟩
      have o1 := owns_now X.out.1 b1
      obtain ⟨⟨u0, c0⟩, z0⟩ := owns_cell o1 (j := 0) hlt (by omega)
      obtain ⟨⟨u1, c1⟩, z1⟩ := owns_cell o1 (j := 1) hlt (by omega)
      obtain ⟨⟨u2, c2⟩, z2⟩ := owns_cell o1 (j := 2) hlt (by omega)
      replace c0 : w1.cell? ⟨w.heap.size, k * 3, none⟩ = some u0 := c0
      replace z0 : w1.frozen? ⟨w.heap.size, k * 3, none⟩ = false := z0
      have Y0 : ∀ W1, W1 = ((w1.setCell ⟨w.heap.size, k * 3, none⟩ (.string mc)).setCell ⟨w.heap.size, k * 3 + 1, none⟩ (.int .i64 ct)).setCell ⟨w.heap.size, k * 3 + 2, none⟩ (.int .i64 un) → W1.ownsRow w.heap.size 81 3 (.slice (some ⟨w.heap.size, 0, none⟩) len len) len (sets F (k * 3) [.string mc, .int .i64 ct, .int .i64 un]) ∧ Cop FaR 3 W1 (sets F (k * 3) [.string mc, .int .i64 ct, .int .i64 un]) xs (k + 1) ∧ Below w.heap.size w W1 := by
        intro W1 hW1
        have h2 := owns_sets [.string mc, .int .i64 ct, .int .i64 un] _ _ (k * 3) o1
        rw [wsets3, ← hW1] at h2
        have hF : k * 3 + 3 ≤ F.length := by
          rw [X.out.1.1]
          have : (k + 1) * 3 ≤ len * 3 := Nat.mul_le_mul_right _ hlt
          omega
        have c2 : Cop FaR 3 W1 F xs k := Cop.keep X.out.2.1 (fun x vs h => h)
        have c3 := Cop.step (vs := [.string mc, .int .i64 ct, .int .i64 un]) c2 hx ⟨rfl, HK.out⟩ rfl hF
        exact ⟨h2.1, c3, (X.out.2.2.trans (b1.mono X.out.2.2.size)).trans (below_row h2.2 (Nat.le_refl _) (Nat.le_trans X.out.2.2.size b1.size))⟩
      have Y : Hid ((((w1.setCell ⟨w.heap.size, k * 3, none⟩ (.string mc)).setCell ⟨w.heap.size, k * 3 + 1, none⟩ (.int .i64 ct)).setCell ⟨w.heap.size, k * 3 + 2, none⟩ (.int .i64 un)).ownsRow w.heap.size 81 3 (.slice (some ⟨w.heap.size, 0, none⟩) len len) len (sets F (k * 3) [.string mc, .int .i64 ct, .int .i64 un]) ∧ Cop FaR 3 (((w1.setCell ⟨w.heap.size, k * 3, none⟩ (.string mc)).setCell ⟨w.heap.size, k * 3 + 1, none⟩ (.int .i64 ct)).setCell ⟨w.heap.size, k * 3 + 2, none⟩ (.int .i64 un)) (sets F (k * 3) [.string mc, .int .i64 ct, .int .i64 un]) xs (k + 1) ∧ Below w.heap.size w (((w1.setCell ⟨w.heap.size, k * 3, none⟩ (.string mc)).setCell ⟨w.heap.size, k * 3 + 1, none⟩ (.int .i64 ct)).setCell ⟨w.heap.size, k * 3 + 2, none⟩ (.int .i64 un))) := Y0 _ rfl
      clear Y0
      clear o1 b1 q0 q1 q2 HT X HM hmk2 hx HK
      go_wp2
      go_roundw
      case rel => exact ⟨k + 1, _, by omega, by go_num, Y⟩
      case measure => simp [intOf]; omega
    · obtain rfl : k = len := by omega
      go_wp2
      go_ret
      exact ⟨rfl, X.out.2.1.rw X.out.1 hl, (World.ownsRow.lt X.out.1 w.heap.size rfl).2, X.out.2.2⟩
set_option maxHeartbeats 2000000 in
theorem eqFailS_yes (a a' : Option Addr) (len cap cap' : Nat) (xs : List FailV) (w : World) (h : Rw FaR 3 w a xs) (h' : Rw FaR 3 w a' xs) (hl : xs.length = len) (hlen : len ≤ 9223372036854775807) :
    Calls Tryz.prog 60 #[.slice a len cap, .slice a' len cap'] w fun e w' => e = .returned (.bool true) ∧ Grw w w' := by
  have hne : ((len : Int) != (len : Int)) = false := by simp
  have hmix : Tryz.prog.follows .mixedOrders = true := by kernel_rfl
  have RW : Hid (Rw FaR 3 w a xs) := h
  have RW' : Hid (Rw FaR 3 w a' xs) := h'
  clear h h'
  go_enter Tryz.func60, Tryz.ntmps60
  go_wp2
  go_loopw [5] (fun i wr => ∃ k : Nat, k ≤ len ∧ i = .int .i64 k ∧ Hid (Grw w wr)) (fun i _ => len - (intOf i).toNat)
  case atStart => exact ⟨0, Nat.zero_le _, rfl, Grw.refl w⟩
  case round =>
    obtain ⟨k, hk, rfl, HG⟩ := hrel
    by_cases hlt : k < len
    · obtain ⟨x, hx⟩ := at_of hl hlt
      obtain ⟨b, off, vs, rfl, hb, hvl, hR, hc⟩ := RW.out.at FaR.kp HG.out.below hx
      obtain ⟨b', off', vs', rfl, hb', hvl', hR', hc'⟩ := RW'.out.at FaR.kp HG.out.below hx
      obtain ⟨mc, ct, un⟩ := x
      obtain ⟨rfl, -⟩ := hR
      obtain ⟨rfl, -⟩ := hR'
      have q0 : ∀ n os, (grow (wr.drewN n) os).cell? ⟨b, off + k * 3, none⟩ = some (.string mc) := fun n os => grown_cell hb HG.out (hc 0 _ rfl) n os
      have q1 : ∀ n os, (grow (wr.drewN n) os).cell? ⟨b, off + k * 3 + 1, none⟩ = some (.int .i64 ct) := fun n os => grown_cell hb HG.out (hc 1 _ rfl) n os
      have q2 : ∀ n os, (grow (wr.drewN n) os).cell? ⟨b, off + k * 3 + 2, none⟩ = some (.int .i64 un) := fun n os => grown_cell hb HG.out (hc 2 _ rfl) n os
      have r0 : ∀ n os, (grow (wr.drewN n) os).cell? ⟨b', off' + k * 3, none⟩ = some (.string mc) := fun n os => grown_cell hb' HG.out (hc' 0 _ rfl) n os
      have r1 : ∀ n os, (grow (wr.drewN n) os).cell? ⟨b', off' + k * 3 + 1, none⟩ = some (.int .i64 ct) := fun n os => grown_cell hb' HG.out (hc' 1 _ rfl) n os
      have r2 : ∀ n os, (grow (wr.drewN n) os).cell? ⟨b', off' + k * 3 + 2, none⟩ = some (.int .i64 un) := fun n os => grown_cell hb' HG.out (hc' 2 _ rfl) n os
      have HE : Hid (∀ w, Calls Tryz.prog 116 #[.agg #[.string mc, .int .i64 ct, .int .i64 un], .agg #[.string mc, .int .i64 ct, .int .i64 un]] w fun e w' => e = .returned (.bool true) ∧ Grw w w') := fun w => eqFail_any mc ct un w
      have hltz : (k : Int) < (len : Int) := by omega
      clear hc hc'
      go_wp2_with fail
      refine wp_region_quiet_grown (by assumption) (by kernel_rfl) ?_
      repeat (go_big_quiet_step (first | fail | (go_at_call 116; exact Calls.grown_of (HE.out _))))
      refine wpQuiet_nil ?_
      intro _ hw'
      obtain ⟨⟨nq, osq⟩, hw''⟩ := hw'
      subst hw''
      have HG2 : Hid (Grw w (grow (wr.drewN nq) osq)) := HG.out.trans ⟨nq, osq, rfl⟩
      clear q0 q1 q2 r0 r1 r2 HG HE
      go_wp2
      go_roundw
      case rel => exact ⟨k + 1, by omega, by go_num, HG2⟩
      case measure => simp [intOf]; omega
    · obtain rfl : k = len := by omega
      go_wp2
      go_ret
      exact ⟨rfl, HG.out⟩

set_option maxHeartbeats 2000000 in
theorem toRecord_any (id : Int) (tm : Int) (ca : Int) (bt : Int) (st : Bool) (w : World) :
    Calls Tryz.prog 102 #[.agg #[.int .i64 id, .int .i64 tm, .int .i64 ca, .int .i64 bt, .bool st]] w fun e w' => e = .returned (.agg #[.int .i64 id, .int .i64 tm, .int .i64 ca, .int .i64 bt, .bool st]) ∧ Below w.heap.size w w' := by
  go_enter Tryz.func102, Tryz.ntmps102
  go_wp2
  (try simp only [Exit.inBlock, Exit.then])
  refine bodyPost_ret (v := .agg #[.int .i64 id, .int .i64 tm, .int .i64 ca, .int .i64 bt, .bool st]) (by simp [results, Tryz.results102, go_sem]; try rfl) rfl ?_
  exact ⟨rfl, ((((Grw.refl _).alloc _).alloc _).alloc _).below⟩
set_option maxHeartbeats 1000000 in
theorem eqRecord_any (id : Int) (tm : Int) (ca : Int) (bt : Int) (st : Bool) (w : World) :
    Calls Tryz.prog 117 #[.agg #[.int .i64 id, .int .i64 tm, .int .i64 ca, .int .i64 bt, .bool st], .agg #[.int .i64 id, .int .i64 tm, .int .i64 ca, .int .i64 bt, .bool st]] w fun e w' => e = .returned (.bool true) ∧ Grw w w' := by
  have h0 : (id != id) = false := by simp
  have h1 : (tm != tm) = false := by simp
  have h2 : (ca != ca) = false := by simp
  have h3 : (bt != bt) = false := by simp
  have h4 : (st != st) = false := by simp
  go_enter Tryz.func117, Tryz.ntmps117
  go_wp2
  go_ret
  exact ⟨rfl, ((Grw.refl _).alloc _).alloc _⟩
theorem infoRecord : (Tryz.prog.info? 83).map (fun i => (i.zero, i.size, i.bytes)) = some (some (.agg #[.int .i64 0, .int .i64 0, .int .i64 0, .int .i64 0, .bool false]), 5, 40) := by kernel_rfl
set_option maxHeartbeats 2000000 in
theorem toRecordS_any (a : Option Addr) (len cap : Nat) (xs : List RecV) (w : World) (h : Rw ReR 5 w a xs) (hl : xs.length = len) (hc : len ≤ 1048576) :
    Calls Tryz.prog 48 #[.slice a len cap] w fun e w' => e = .returned (.slice (some ⟨w.heap.size, 0, none⟩) len len) ∧ Rw ReR 5 w' (some ⟨w.heap.size, 0, none⟩) xs ∧ w.heap.size < w'.heap.size ∧ Below w.heap.size w w' := by
  have RW : Hid (Rw ReR 5 w a xs) := h
  clear h
  obtain ⟨i0, hi, hz0, hz1, hz2⟩ := info_parts infoRecord
  have hmk := run_make (P := Tryz.prog) w 46 83 i0 (.agg #[.int .i64 0, .int .i64 0, .int .i64 0, .int .i64 0, .bool false]) Tryz.underlying46 hi hz0 .i64 .i64 len len (by omega) (Int.le_refl _) (by rw [hz2]; omega) (by omega)
  rw [hz1, Int.toNat_natCast] at hmk
  have HM : Hid ((w.alloc (.cells (madeCells #[.int .i64 0, .int .i64 0, .int .i64 0, .int .i64 0, .bool false] (len * 5)) 83)).ownsRow w.heap.size 83 5 (.slice (some ⟨w.heap.size, 0, none⟩) len len) len (madeCells #[.int .i64 0, .int .i64 0, .int .i64 0, .int .i64 0, .bool false] (len * 5)).toList ∧ Below w.heap.size w (w.alloc (.cells (madeCells #[.int .i64 0, .int .i64 0, .int .i64 0, .int .i64 0, .bool false] (len * 5)) 83))) := ⟨owns_made w _ _ len 5 _ (Nat.le_refl _) (by unfold maxLen; omega), (Below.refl _ _).alloc (Nat.le_refl _) _⟩
  have hmk2 : (Instr.makeSlice 46 (.int .i64 (len : Int)) (.int .i64 (len : Int))).run Tryz.prog w = .ok (.slice (some ⟨w.heap.size, 0, none⟩) len len) (w.alloc (.cells (madeCells #[.int .i64 0, .int .i64 0, .int .i64 0, .int .i64 0, .bool false] (len * 5)) 83)) := hmk
  clear hmk hi hz0 hz1 hz2
  obtain ⟨W, hW⟩ : ∃ W, W = w.alloc (.cells (madeCells #[.int .i64 0, .int .i64 0, .int .i64 0, .int .i64 0, .bool false] (len * 5)) 83) := ⟨_, rfl⟩
  rw [← hW] at HM hmk2
  clear hW
  go_enter Tryz.func48, Tryz.ntmps48
  go_wp2
  go_loopw [4] (fun i wr => ∃ (k : Nat) (F : List Value), k ≤ len ∧ i = .int .i64 k ∧ Hid (wr.ownsRow w.heap.size 83 5 (.slice (some ⟨w.heap.size, 0, none⟩) len len) len F ∧ Cop ReR 5 wr F xs k ∧ Below w.heap.size w wr)) (fun i _ => len - (intOf i).toNat)
  case atStart => exact ⟨0, _, Nat.zero_le _, rfl, HM.out.1, Cop.zero, HM.out.2⟩
  case round =>
    obtain ⟨k, F, hk, rfl, X⟩ := hrel
    by_cases hlt : k < len
    · obtain ⟨x, hx⟩ := at_of hl hlt
      obtain ⟨b, off, vs, rfl, hb, hvl, hR, hc⟩ := RW.out.at ReR.kp X.out.2.2 hx
      obtain ⟨id, tm, ca, bt, st⟩ := x
      obtain ⟨rfl, hok⟩ := hR
      have HK : Hid (ReRok ⟨id, tm, ca, bt, st⟩) := hok
      clear hok
      have q0 : wr.cell? ⟨b, off + k * 5, none⟩ = some (.int .i64 id) := hc 0 _ rfl
      have q1 : wr.cell? ⟨b, off + k * 5 + 1, none⟩ = some (.int .i64 tm) := hc 1 _ rfl
      have q2 : wr.cell? ⟨b, off + k * 5 + 2, none⟩ = some (.int .i64 ca) := hc 2 _ rfl
      have q3 : wr.cell? ⟨b, off + k * 5 + 3, none⟩ = some (.int .i64 bt) := hc 3 _ rfl
      have q4 : wr.cell? ⟨b, off + k * 5 + 4, none⟩ = some (.bool st) := hc 4 _ rfl
      have HT : Hid (∀ w, Calls Tryz.prog 102 #[.agg #[.int .i64 id, .int .i64 tm, .int .i64 ca, .int .i64 bt, .bool st]] w fun e w' => e = .returned (.agg #[.int .i64 id, .int .i64 tm, .int .i64 ca, .int .i64 bt, .bool st]) ∧ Below w.heap.size w w') := fun w => toRecord_any id tm ca bt st w
      have hltz : (k : Int) < (len : Int) := by omega
      clear hc
      go_wp2_with fail
      refine (HT.out _).mono ?_
      rintro e w1 ⟨rfl, b1⟩
      have o1 := owns_now X.out.1 b1
      obtain ⟨⟨u0, c0⟩, z0⟩ := owns_cell o1 (j := 0) hlt (by omega)
      obtain ⟨⟨u1, c1⟩, z1⟩ := owns_cell o1 (j := 1) hlt (by omega)
      obtain ⟨⟨u2, c2⟩, z2⟩ := owns_cell o1 (j := 2) hlt (by omega)
      obtain ⟨⟨u3, c3⟩, z3⟩ := owns_cell o1 (j := 3) hlt (by omega)
      obtain ⟨⟨u4, c4⟩, z4⟩ := owns_cell o1 (j := 4) hlt (by omega)
      replace c0 : w1.cell? ⟨w.heap.size, k * 5, none⟩ = some u0 := c0
      replace z0 : w1.frozen? ⟨w.heap.size, k * 5, none⟩ = false := z0
      have Y0 : ∀ W1, W1 = ((((w1.setCell ⟨w.heap.size, k * 5, none⟩ (.int .i64 id)).setCell ⟨w.heap.size, k * 5 + 1, none⟩ (.int .i64 tm)).setCell ⟨w.heap.size, k * 5 + 2, none⟩ (.int .i64 ca)).setCell ⟨w.heap.size, k * 5 + 3, none⟩ (.int .i64 bt)).setCell ⟨w.heap.size, k * 5 + 4, none⟩ (.bool st) → W1.ownsRow w.heap.size 83 5 (.slice (some ⟨w.heap.size, 0, none⟩) len len) len (sets F (k * 5) [.int .i64 id, .int .i64 tm, .int .i64 ca, .int .i64 bt, .bool st]) ∧ Cop ReR 5 W1 (sets F (k * 5) [.int .i64 id, .int .i64 tm, .int .i64 ca, .int .i64 bt, .bool st]) xs (k + 1) ∧ Below w.heap.size w W1 := by
        intro W1 hW1
        have h2 := owns_sets [.int .i64 id, .int .i64 tm, .int .i64 ca, .int .i64 bt, .bool st] _ _ (k * 5) o1
        rw [wsets5, ← hW1] at h2
        have hF : k * 5 + 5 ≤ F.length := by
          rw [X.out.1.1]
          have : (k + 1) * 5 ≤ len * 5 := Nat.mul_le_mul_right _ hlt
          omega
        have c2 : Cop ReR 5 W1 F xs k := Cop.keep X.out.2.1 (fun x vs h => h)
        have c3 := Cop.step (vs := [.int .i64 id, .int .i64 tm, .int .i64 ca, .int .i64 bt, .bool st]) c2 hx ⟨rfl, HK.out⟩ rfl hF
        exact ⟨h2.1, c3, (X.out.2.2.trans (b1.mono X.out.2.2.size)).trans (below_row h2.2 (Nat.le_refl _) (Nat.le_trans X.out.2.2.size b1.size))⟩
      have Y : Hid ((((((w1.setCell ⟨w.heap.size, k * 5, none⟩ (.int .i64 id)).setCell ⟨w.heap.size, k * 5 + 1, none⟩ (.int .i64 tm)).setCell ⟨w.heap.size, k * 5 + 2, none⟩ (.int .i64 ca)).setCell ⟨w.heap.size, k * 5 + 3, none⟩ (.int .i64 bt)).setCell ⟨w.heap.size, k * 5 + 4, none⟩ (.bool st)).ownsRow w.heap.size 83 5 (.slice (some ⟨w.heap.size, 0, none⟩) len len) len (sets F (k * 5) [.int .i64 id, .int .i64 tm, .int .i64 ca, .int .i64 bt, .bool st]) ∧ Cop ReR 5 (((((w1.setCell ⟨w.heap.size, k * 5, none⟩ (.int .i64 id)).setCell ⟨w.heap.size, k * 5 + 1, none⟩ (.int .i64 tm)).setCell ⟨w.heap.size, k * 5 + 2, none⟩ (.int .i64 ca)).setCell ⟨w.heap.size, k * 5 + 3, none⟩ (.int .i64 bt)).setCell ⟨w.heap.size, k * 5 + 4, none⟩ (.bool st)) (sets F (k * 5) [.int .i64 id, .int .i64 tm, .int .i64 ca, .int .i64 bt, .bool st]) xs (k + 1) ∧ Below w.heap.size w (((((w1.setCell ⟨w.heap.size, k * 5, none⟩ (.int .i64 id)).setCell ⟨w.heap.size, k * 5 + 1, none⟩ (.int .i64 tm)).setCell ⟨w.heap.size, k * 5 + 2, none⟩ (.int .i64 ca)).setCell ⟨w.heap.size, k * 5 + 3, none⟩ (.int .i64 bt)).setCell ⟨w.heap.size, k * 5 + 4, none⟩ (.bool st))) := Y0 _ rfl
      clear Y0
      clear o1 b1 q0 q1 q2 q3 q4 HT X HM hmk2 hx HK
      go_wp2
      go_roundw
      case rel => exact ⟨k + 1, _, by omega, by go_num, Y⟩
      case measure => simp [intOf]; omega
    · obtain rfl : k = len := by omega
      go_wp2
      go_ret
      exact ⟨rfl, X.out.2.1.rw X.out.1 hl, (World.ownsRow.lt X.out.1 w.heap.size rfl).2, X.out.2.2⟩
set_option maxHeartbeats 2000000 in
theorem eqRecordS_yes (a a' : Option Addr) (len cap cap' : Nat) (xs : List RecV) (w : World) (h : Rw ReR 5 w a xs) (h' : Rw ReR 5 w a' xs) (hl : xs.length = len) (hlen : len ≤ 9223372036854775807) :
    Calls Tryz.prog 61 #[.slice a len cap, .slice a' len cap'] w fun e w' => e = .returned (.bool true) ∧ Grw w w' := by
  have hne : ((len : Int) != (len : Int)) = false := by simp
  have hmix : Tryz.prog.follows .mixedOrders = true := by kernel_rfl
  have RW : Hid (Rw ReR 5 w a xs) := h
  have RW' : Hid (Rw ReR 5 w a' xs) := h'
  clear h h'
  go_enter Tryz.func61, Tryz.ntmps61
  go_wp2
  go_loopw [5] (fun i wr => ∃ k : Nat, k ≤ len ∧ i = .int .i64 k ∧ Hid (Grw w wr)) (fun i _ => len - (intOf i).toNat)
  case atStart => exact ⟨0, Nat.zero_le _, rfl, Grw.refl w⟩
  case round =>
    obtain ⟨k, hk, rfl, HG⟩ := hrel
    by_cases hlt : k < len
    · obtain ⟨x, hx⟩ := at_of hl hlt
      obtain ⟨b, off, vs, rfl, hb, hvl, hR, hc⟩ := RW.out.at ReR.kp HG.out.below hx
      obtain ⟨b', off', vs', rfl, hb', hvl', hR', hc'⟩ := RW'.out.at ReR.kp HG.out.below hx
      obtain ⟨id, tm, ca, bt, st⟩ := x
      obtain ⟨rfl, -⟩ := hR
      obtain ⟨rfl, -⟩ := hR'
      have q0 : ∀ n os, (grow (wr.drewN n) os).cell? ⟨b, off + k * 5, none⟩ = some (.int .i64 id) := fun n os => grown_cell hb HG.out (hc 0 _ rfl) n os
      have q1 : ∀ n os, (grow (wr.drewN n) os).cell? ⟨b, off + k * 5 + 1, none⟩ = some (.int .i64 tm) := fun n os => grown_cell hb HG.out (hc 1 _ rfl) n os
      have q2 : ∀ n os, (grow (wr.drewN n) os).cell? ⟨b, off + k * 5 + 2, none⟩ = some (.int .i64 ca) := fun n os => grown_cell hb HG.out (hc 2 _ rfl) n os
      have q3 : ∀ n os, (grow (wr.drewN n) os).cell? ⟨b, off + k * 5 + 3, none⟩ = some (.int .i64 bt) := fun n os => grown_cell hb HG.out (hc 3 _ rfl) n os
      have q4 : ∀ n os, (grow (wr.drewN n) os).cell? ⟨b, off + k * 5 + 4, none⟩ = some (.bool st) := fun n os => grown_cell hb HG.out (hc 4 _ rfl) n os
      have r0 : ∀ n os, (grow (wr.drewN n) os).cell? ⟨b', off' + k * 5, none⟩ = some (.int .i64 id) := fun n os => grown_cell hb' HG.out (hc' 0 _ rfl) n os
      have r1 : ∀ n os, (grow (wr.drewN n) os).cell? ⟨b', off' + k * 5 + 1, none⟩ = some (.int .i64 tm) := fun n os => grown_cell hb' HG.out (hc' 1 _ rfl) n os
      have r2 : ∀ n os, (grow (wr.drewN n) os).cell? ⟨b', off' + k * 5 + 2, none⟩ = some (.int .i64 ca) := fun n os => grown_cell hb' HG.out (hc' 2 _ rfl) n os
      have r3 : ∀ n os, (grow (wr.drewN n) os).cell? ⟨b', off' + k * 5 + 3, none⟩ = some (.int .i64 bt) := fun n os => grown_cell hb' HG.out (hc' 3 _ rfl) n os
      have r4 : ∀ n os, (grow (wr.drewN n) os).cell? ⟨b', off' + k * 5 + 4, none⟩ = some (.bool st) := fun n os => grown_cell hb' HG.out (hc' 4 _ rfl) n os
      have HE : Hid (∀ w, Calls Tryz.prog 117 #[.agg #[.int .i64 id, .int .i64 tm, .int .i64 ca, .int .i64 bt, .bool st], .agg #[.int .i64 id, .int .i64 tm, .int .i64 ca, .int .i64 bt, .bool st]] w fun e w' => e = .returned (.bool true) ∧ Grw w w') := fun w => eqRecord_any id tm ca bt st w
      have hltz : (k : Int) < (len : Int) := by omega
      clear hc hc'
      go_wp2_with fail
      refine wp_region_quiet_grown (by assumption) (by kernel_rfl) ?_
      repeat (go_big_quiet_step (first | fail | (go_at_call 117; exact Calls.grown_of (HE.out _))))
      refine wpQuiet_nil ?_
      intro _ hw'
      obtain ⟨⟨nq, osq⟩, hw''⟩ := hw'
      subst hw''
      have HG2 : Hid (Grw w (grow (wr.drewN nq) osq)) := HG.out.trans ⟨nq, osq, rfl⟩
      clear q0 q1 q2 q3 q4 r0 r1 r2 r3 r4 HG HE
      go_wp2
      go_roundw
      case rel => exact ⟨k + 1, by omega, by go_num, HG2⟩
      case measure => simp [intOf]; omega
    · obtain rfl : k = len := by omega
      go_wp2
      go_ret
      exact ⟨rfl, HG.out⟩

theorem szRecordS_any (a : Option Addr) (len cap : Nat) (l : Int) (w : World) (hl : len ≤ 9223372036854775807) (h0 : 0 ≤ l) (h1 : l ≤ 1048576) :
    Calls Tryz.prog 35 #[.slice a len cap, .int .i64 l] w fun e w' => ∃ r : Int, e = .returned (.int .i64 r) ∧ (0 ≤ r → (len : Int) ≤ l) ∧ -1 ≤ r ∧ r ≤ 1048576 ∧ w' = w := by
  by_cases h : (len : Int) ≤ l
  · go_enter Tryz.func35, Tryz.ntmps35
    go_wp2
    go_ret
    exact ⟨_, rfl, fun _ => by omega, by omega, by omega, rfl⟩
  · go_enter Tryz.func35, Tryz.ntmps35
    go_wp2
    go_ret
    exact ⟨-1, rfl, fun h => absurd h (by omega), by omega, by omega, rfl⟩
end Go.Proofs.YtheicficoilkkaaGreat
