/- The program's sessionsOK, failsOK, recordsOK, GuestsOK. -/
import Derived.Test.YtnlepjcjakghcaaGreatDoorJ17
namespace Go.Proofs.YtnlepjcjakghcaaGreatDoor
open Go.RowKit Go.PlainAid Go.Proofs.YtnlepjcjakghcaaGreatDoor.Bt Go.Sort
set_option linter.unusedVariables false
set_option maxRecDepth 20000

set_option maxHeartbeats 8000000 in
theorem sessionsOK_any (ip b gt : Int) (gm wm : ByteArray) (rs : Int) (x y : Option Addr) (lenx capx leny capy : Nat) (ua sa fa ra : Option Addr) (ul uc sl sc fl fc rl rc : Nat) (nx : Int) (ss : List SessV) (w : World) (hs : Rw SeR 10 w sa ss) (ls : ss.length = sl) (hn : nB ip b = true) (hn1 : 1 ≤ nx) (hn2 : nx ≤ 10000) (mu : ul ≤ 1048576) :
    Calls Tryz.prog 65 #[.agg #[.int .i64 ip, .int .i64 b, .int .i64 gt, .string gm, .string wm, .int .i64 rs, .slice x lenx capx, .slice y leny capy], .agg #[.slice ua ul uc, .slice sa sl sc, .slice fa fl fc, .slice ra rl rc, .int .i64 nx]] w fun e w' => e = .returned (.bool (dec (ss.length ≤ 3) && seB (sB nx ul ip b) ss)) ∧ Below w.heap.size w w' := by
  have RS : Hid (Rw SeR 10 w sa ss) := hs
  clear hs
  have b1 : Hid (Grw w ((w.alloc (.cells #[.int .i64 ip, .int .i64 b, .int .i64 gt, .string gm, .string wm, .int .i64 rs, .slice x lenx capx, .slice y leny capy] 35)).alloc (.cells #[.slice ua ul uc, .slice sa sl sc, .slice fa fl fc, .slice ra rl rc, .int .i64 nx] 42))) := ((Grw.refl w).alloc _).alloc _
  by_cases h3 : sl ≤ 3
  rotate_left
  · rw [dec_n (by omega : ¬ ss.length ≤ 3)]
    have h3z : (3 : Int) < (sl : Int) := by omega
    go_enter Tryz.func65, Tryz.ntmps65
    go_wp2
    go_ret
    exact ⟨rfl, b1.out.below⟩
  rw [dec_y (by omega : ss.length ≤ 3), Bool.true_and]
  have h3z : (sl : Int) ≤ 3 := by omega
  obtain ⟨z, hz⟩ : ∃ z, z = seB (sB nx ul ip b) ss := ⟨_, rfl⟩
  have s6 : ∀ x, sB nx ul ip b x = true → x.mc.size = 6 := fun x h => by
    unfold sB dec at h
    simp only [Bool.and_eq_true, decide_eq_true_eq] at h
    exact h.2.2.1
  have S6 : Hid (∀ x, sB nx ul ip b x = true → x.mc.size = 6) := s6
  have E : Hid (z = (risB (sB nx ul ip b) ltId ss && (dstB (ss.map (mkF 0)) && (dstB (ss.map (mkF 1)) && dstB (ss.map (mkF 2)))))) := by
    rw [hz, ← se_apart (sB nx ul ip b) macN ss (fun x y hx hy => macN_iff x y (s6 x hx) (s6 y hy))]
    rfl
  rw [← hz]
  clear hz s6
  go_enter Tryz.func65, Tryz.ntmps65
  go_wp2
  go_loopw [14] (fun u wr => ∃ k : Nat, k ≤ sl ∧ u = .int .i64 k ∧ Hid ((List.range k).all (risAt (sB nx ul ip b) ltId ss) = true) ∧ Hid (Grw w wr ∧ wr.cell? ⟨w.heap.size, 0, none⟩ = some (.int .i64 ip) ∧ wr.cell? ⟨w.heap.size, 1, none⟩ = some (.int .i64 b) ∧ wr.cell? ⟨w.heap.size, 2, none⟩ = some (.int .i64 gt) ∧ wr.cell? ⟨w.heap.size, 3, none⟩ = some (.string gm) ∧ wr.cell? ⟨w.heap.size, 4, none⟩ = some (.string wm) ∧ wr.cell? ⟨w.heap.size, 5, none⟩ = some (.int .i64 rs) ∧ wr.cell? ⟨w.heap.size, 6, none⟩ = some (.slice x lenx capx) ∧ wr.cell? ⟨w.heap.size, 7, none⟩ = some (.slice y leny capy) ∧ wr.cell? ⟨w.heap.size + 1, 0, none⟩ = some (.slice ua ul uc) ∧ wr.cell? ⟨w.heap.size + 1, 1, none⟩ = some (.slice sa sl sc) ∧ wr.cell? ⟨w.heap.size + 1, 2, none⟩ = some (.slice fa fl fc) ∧ wr.cell? ⟨w.heap.size + 1, 3, none⟩ = some (.slice ra rl rc) ∧ wr.cell? ⟨w.heap.size + 1, 4, none⟩ = some (.int .i64 nx))) (fun u _ => sl - (intOf u).toNat)
  case atStart => exact ⟨0, Nat.zero_le _, rfl, rfl, b1.out, by simp [go_sem], by simp [go_sem], by simp [go_sem], by simp [go_sem], by simp [go_sem], by simp [go_sem], by simp [go_sem], by simp [go_sem], by simp [go_sem], by simp [go_sem], by simp [go_sem], by simp [go_sem], by simp [go_sem]⟩
  case round =>
    obtain ⟨k, hk, rfl, HO, HG⟩ := hrel
    obtain ⟨G0, d0, d1, d2, d3, d4, d5, d6, d7, d8, d9, d10, d11, d12⟩ := HG.out
    have GG := G0.below
    by_cases hlt : k < sl
    · obtain ⟨x9, hx⟩ := at_of ls hlt
      obtain ⟨bk, off, vs, rfl, hbk, hvl, hR, hc⟩ := RS.out.at SeR.kp GG hx
      have HS : Hid (risAt (sB nx ul ip b) ltId ss k = true → (List.range (k + 1)).all (risAt (sB nx ul ip b) ltId ss) = true) := fun h => ris_step HO.out h
      have HF : Hid (risAt (sB nx ul ip b) ltId ss k = false → risB (sB nx ul ip b) ltId ss = false) := fun h => ris_no (by omega) h
      obtain ⟨id, us1, mc, sip, be, la, ud, qu, un, il⟩ := x9
      obtain ⟨rfl, -⟩ := hR
      have q0 : wr.cell? ⟨bk, off + k * 10, none⟩ = some (.int .i64 id) := hc 0 _ rfl
      have q1 : wr.cell? ⟨bk, off + k * 10 + 1, none⟩ = some (.int .i64 us1) := hc 1 _ rfl
      have q2 : wr.cell? ⟨bk, off + k * 10 + 2, none⟩ = some (.string mc) := hc 2 _ rfl
      have q3 : wr.cell? ⟨bk, off + k * 10 + 3, none⟩ = some (.int .i64 sip) := hc 3 _ rfl
      have q4 : wr.cell? ⟨bk, off + k * 10 + 4, none⟩ = some (.int .i64 be) := hc 4 _ rfl
      have q5 : wr.cell? ⟨bk, off + k * 10 + 5, none⟩ = some (.int .i64 la) := hc 5 _ rfl
      have q6 : wr.cell? ⟨bk, off + k * 10 + 6, none⟩ = some (.int .i64 ud) := hc 6 _ rfl
      have q7 : wr.cell? ⟨bk, off + k * 10 + 7, none⟩ = some (.int .i64 qu) := hc 7 _ rfl
      have q8 : wr.cell? ⟨bk, off + k * 10 + 8, none⟩ = some (.int .i64 un) := hc 8 _ rfl
      have q9 : wr.cell? ⟨bk, off + k * 10 + 9, none⟩ = some (.int .i64 il) := hc 9 _ rfl
      have hltz : (k : Int) < (sl : Int) := by omega
      have HK : Hid (∀ w, Calls Tryz.prog 91 #[.agg #[.int .i64 ip, .int .i64 b, .int .i64 gt, .string gm, .string wm, .int .i64 rs, .slice x lenx capx, .slice y leny capy], .agg #[.slice ua ul uc, .slice (some ⟨bk, off, none⟩) sl sc, .slice fa fl fc, .slice ra rl rc, .int .i64 nx], .agg #[.int .i64 id, .int .i64 us1, .string mc, .int .i64 sip, .int .i64 be, .int .i64 la, .int .i64 ud, .int .i64 qu, .int .i64 un, .int .i64 il]] w fun e w' => e = .returned (.bool (sB nx ul ip b ⟨id, us1, mc, sip, be, la, ud, qu, un, il⟩)) ∧ Grw w w') := fun w => sessionOK_any ip b gt gm wm rs x y lenx capx leny capy ua (some ⟨bk, off, none⟩) fa ra ul uc sl sc fl fc rl rc nx id us1 mc sip be la ud qu un il w hn hn1 hn2 mu
      by_cases hk0 : k = 0
      · have eo : risAt (sB nx ul ip b) ltId ss k = sB nx ul ip b ⟨id, us1, mc, sip, be, la, ud, qu, un, il⟩ := by subst hk0; exact risAt_zero hx
        have hkd : decide (0 < k) = false := decide_eq_false (by omega)
        clear hk0
        rw [eo] at HS HF
        generalize sB nx ul ip b ⟨id, us1, mc, sip, be, la, ud, qu, un, il⟩ = q at HK HS HF
        clear hc hvl hx eo
        have HA : Hid (Grw w (wr.alloc (.cells #[.int .i64 id, .int .i64 us1, .string mc, .int .i64 sip, .int .i64 be, .int .i64 la, .int .i64 ud, .int .i64 qu, .int .i64 un, .int .i64 il] 48))) := G0.alloc _
        have hmix : Tryz.prog.follows .mixedOrders = true := by kernel_rfl
        have y0 : ∀ n os, (grow (World.drewN (wr.alloc (.cells #[.int .i64 id, .int .i64 us1, .string mc, .int .i64 sip, .int .i64 be, .int .i64 la, .int .i64 ud, .int .i64 qu, .int .i64 un, .int .i64 il] 48)) n) os).cell? ⟨wr.heap.size, 0, none⟩ = some (.int .i64 id) := fun n os => cell_grown (by simp) (by simp) n os
        have y1 : ∀ n os, (grow (World.drewN (wr.alloc (.cells #[.int .i64 id, .int .i64 us1, .string mc, .int .i64 sip, .int .i64 be, .int .i64 la, .int .i64 ud, .int .i64 qu, .int .i64 un, .int .i64 il] 48)) n) os).cell? ⟨wr.heap.size, 1, none⟩ = some (.int .i64 us1) := fun n os => cell_grown (by simp) (by simp) n os
        have y2 : ∀ n os, (grow (World.drewN (wr.alloc (.cells #[.int .i64 id, .int .i64 us1, .string mc, .int .i64 sip, .int .i64 be, .int .i64 la, .int .i64 ud, .int .i64 qu, .int .i64 un, .int .i64 il] 48)) n) os).cell? ⟨wr.heap.size, 2, none⟩ = some (.string mc) := fun n os => cell_grown (by simp) (by simp) n os
        have y3 : ∀ n os, (grow (World.drewN (wr.alloc (.cells #[.int .i64 id, .int .i64 us1, .string mc, .int .i64 sip, .int .i64 be, .int .i64 la, .int .i64 ud, .int .i64 qu, .int .i64 un, .int .i64 il] 48)) n) os).cell? ⟨wr.heap.size, 3, none⟩ = some (.int .i64 sip) := fun n os => cell_grown (by simp) (by simp) n os
        have y4 : ∀ n os, (grow (World.drewN (wr.alloc (.cells #[.int .i64 id, .int .i64 us1, .string mc, .int .i64 sip, .int .i64 be, .int .i64 la, .int .i64 ud, .int .i64 qu, .int .i64 un, .int .i64 il] 48)) n) os).cell? ⟨wr.heap.size, 4, none⟩ = some (.int .i64 be) := fun n os => cell_grown (by simp) (by simp) n os
        have y5 : ∀ n os, (grow (World.drewN (wr.alloc (.cells #[.int .i64 id, .int .i64 us1, .string mc, .int .i64 sip, .int .i64 be, .int .i64 la, .int .i64 ud, .int .i64 qu, .int .i64 un, .int .i64 il] 48)) n) os).cell? ⟨wr.heap.size, 5, none⟩ = some (.int .i64 la) := fun n os => cell_grown (by simp) (by simp) n os
        have y6 : ∀ n os, (grow (World.drewN (wr.alloc (.cells #[.int .i64 id, .int .i64 us1, .string mc, .int .i64 sip, .int .i64 be, .int .i64 la, .int .i64 ud, .int .i64 qu, .int .i64 un, .int .i64 il] 48)) n) os).cell? ⟨wr.heap.size, 6, none⟩ = some (.int .i64 ud) := fun n os => cell_grown (by simp) (by simp) n os
        have y7 : ∀ n os, (grow (World.drewN (wr.alloc (.cells #[.int .i64 id, .int .i64 us1, .string mc, .int .i64 sip, .int .i64 be, .int .i64 la, .int .i64 ud, .int .i64 qu, .int .i64 un, .int .i64 il] 48)) n) os).cell? ⟨wr.heap.size, 7, none⟩ = some (.int .i64 qu) := fun n os => cell_grown (by simp) (by simp) n os
        have y8 : ∀ n os, (grow (World.drewN (wr.alloc (.cells #[.int .i64 id, .int .i64 us1, .string mc, .int .i64 sip, .int .i64 be, .int .i64 la, .int .i64 ud, .int .i64 qu, .int .i64 un, .int .i64 il] 48)) n) os).cell? ⟨wr.heap.size, 8, none⟩ = some (.int .i64 un) := fun n os => cell_grown (by simp) (by simp) n os
        have y9 : ∀ n os, (grow (World.drewN (wr.alloc (.cells #[.int .i64 id, .int .i64 us1, .string mc, .int .i64 sip, .int .i64 be, .int .i64 la, .int .i64 ud, .int .i64 qu, .int .i64 un, .int .i64 il] 48)) n) os).cell? ⟨wr.heap.size, 9, none⟩ = some (.int .i64 il) := fun n os => cell_grown (by simp) (by simp) n os
        have e0 : ∀ n os, (grow (World.drewN (wr.alloc (.cells #[.int .i64 id, .int .i64 us1, .string mc, .int .i64 sip, .int .i64 be, .int .i64 la, .int .i64 ud, .int .i64 qu, .int .i64 un, .int .i64 il] 48)) n) os).cell? ⟨w.heap.size, 0, none⟩ = some (.int .i64 ip) := fun n os => (((Grw.refl wr).alloc _).trans ⟨n, os, rfl⟩).keep d0
        have e1 : ∀ n os, (grow (World.drewN (wr.alloc (.cells #[.int .i64 id, .int .i64 us1, .string mc, .int .i64 sip, .int .i64 be, .int .i64 la, .int .i64 ud, .int .i64 qu, .int .i64 un, .int .i64 il] 48)) n) os).cell? ⟨w.heap.size, 1, none⟩ = some (.int .i64 b) := fun n os => (((Grw.refl wr).alloc _).trans ⟨n, os, rfl⟩).keep d1
        have e2 : ∀ n os, (grow (World.drewN (wr.alloc (.cells #[.int .i64 id, .int .i64 us1, .string mc, .int .i64 sip, .int .i64 be, .int .i64 la, .int .i64 ud, .int .i64 qu, .int .i64 un, .int .i64 il] 48)) n) os).cell? ⟨w.heap.size, 2, none⟩ = some (.int .i64 gt) := fun n os => (((Grw.refl wr).alloc _).trans ⟨n, os, rfl⟩).keep d2
        have e3 : ∀ n os, (grow (World.drewN (wr.alloc (.cells #[.int .i64 id, .int .i64 us1, .string mc, .int .i64 sip, .int .i64 be, .int .i64 la, .int .i64 ud, .int .i64 qu, .int .i64 un, .int .i64 il] 48)) n) os).cell? ⟨w.heap.size, 3, none⟩ = some (.string gm) := fun n os => (((Grw.refl wr).alloc _).trans ⟨n, os, rfl⟩).keep d3
        have e4 : ∀ n os, (grow (World.drewN (wr.alloc (.cells #[.int .i64 id, .int .i64 us1, .string mc, .int .i64 sip, .int .i64 be, .int .i64 la, .int .i64 ud, .int .i64 qu, .int .i64 un, .int .i64 il] 48)) n) os).cell? ⟨w.heap.size, 4, none⟩ = some (.string wm) := fun n os => (((Grw.refl wr).alloc _).trans ⟨n, os, rfl⟩).keep d4
        have e5 : ∀ n os, (grow (World.drewN (wr.alloc (.cells #[.int .i64 id, .int .i64 us1, .string mc, .int .i64 sip, .int .i64 be, .int .i64 la, .int .i64 ud, .int .i64 qu, .int .i64 un, .int .i64 il] 48)) n) os).cell? ⟨w.heap.size, 5, none⟩ = some (.int .i64 rs) := fun n os => (((Grw.refl wr).alloc _).trans ⟨n, os, rfl⟩).keep d5
        have e6 : ∀ n os, (grow (World.drewN (wr.alloc (.cells #[.int .i64 id, .int .i64 us1, .string mc, .int .i64 sip, .int .i64 be, .int .i64 la, .int .i64 ud, .int .i64 qu, .int .i64 un, .int .i64 il] 48)) n) os).cell? ⟨w.heap.size, 6, none⟩ = some (.slice x lenx capx) := fun n os => (((Grw.refl wr).alloc _).trans ⟨n, os, rfl⟩).keep d6
        have e7 : ∀ n os, (grow (World.drewN (wr.alloc (.cells #[.int .i64 id, .int .i64 us1, .string mc, .int .i64 sip, .int .i64 be, .int .i64 la, .int .i64 ud, .int .i64 qu, .int .i64 un, .int .i64 il] 48)) n) os).cell? ⟨w.heap.size, 7, none⟩ = some (.slice y leny capy) := fun n os => (((Grw.refl wr).alloc _).trans ⟨n, os, rfl⟩).keep d7
        have e8 : ∀ n os, (grow (World.drewN (wr.alloc (.cells #[.int .i64 id, .int .i64 us1, .string mc, .int .i64 sip, .int .i64 be, .int .i64 la, .int .i64 ud, .int .i64 qu, .int .i64 un, .int .i64 il] 48)) n) os).cell? ⟨w.heap.size + 1, 0, none⟩ = some (.slice ua ul uc) := fun n os => (((Grw.refl wr).alloc _).trans ⟨n, os, rfl⟩).keep d8
        have e9 : ∀ n os, (grow (World.drewN (wr.alloc (.cells #[.int .i64 id, .int .i64 us1, .string mc, .int .i64 sip, .int .i64 be, .int .i64 la, .int .i64 ud, .int .i64 qu, .int .i64 un, .int .i64 il] 48)) n) os).cell? ⟨w.heap.size + 1, 1, none⟩ = some (.slice (some ⟨bk, off, none⟩) sl sc) := fun n os => (((Grw.refl wr).alloc _).trans ⟨n, os, rfl⟩).keep d9
        have e10 : ∀ n os, (grow (World.drewN (wr.alloc (.cells #[.int .i64 id, .int .i64 us1, .string mc, .int .i64 sip, .int .i64 be, .int .i64 la, .int .i64 ud, .int .i64 qu, .int .i64 un, .int .i64 il] 48)) n) os).cell? ⟨w.heap.size + 1, 2, none⟩ = some (.slice fa fl fc) := fun n os => (((Grw.refl wr).alloc _).trans ⟨n, os, rfl⟩).keep d10
        have e11 : ∀ n os, (grow (World.drewN (wr.alloc (.cells #[.int .i64 id, .int .i64 us1, .string mc, .int .i64 sip, .int .i64 be, .int .i64 la, .int .i64 ud, .int .i64 qu, .int .i64 un, .int .i64 il] 48)) n) os).cell? ⟨w.heap.size + 1, 3, none⟩ = some (.slice ra rl rc) := fun n os => (((Grw.refl wr).alloc _).trans ⟨n, os, rfl⟩).keep d11
        have e12 : ∀ n os, (grow (World.drewN (wr.alloc (.cells #[.int .i64 id, .int .i64 us1, .string mc, .int .i64 sip, .int .i64 be, .int .i64 la, .int .i64 ud, .int .i64 qu, .int .i64 un, .int .i64 il] 48)) n) os).cell? ⟨w.heap.size + 1, 4, none⟩ = some (.int .i64 nx) := fun n os => (((Grw.refl wr).alloc _).trans ⟨n, os, rfl⟩).keep d12
        cases q with
        | false =>
          have hv : Hid (z = false) := by show z = false; rw [E.out, HF.out (by simp)]; rfl
          go_wp2_with fail
          refine wp_region_quiet_grown (by assumption) (by kernel_rfl) ?_
          repeat (go_big_quiet_step (first | fail | (go_at_call 91; exact Calls.grown_of (HK.out _))))
          refine wpQuiet_nil ?_
          intro _ hw'
          obtain ⟨⟨nq, osq⟩, hw''⟩ := hw'
          subst hw''
          have HG1 : Hid (Grw w _) := HA.out.trans ⟨nq, osq, rfl⟩
          clear y0 y1 y2 y3 y4 y5 y6 y7 y8 y9 e0 e1 e2 e3 e4 e5 e6 e7 e8 e9 e10 e11 e12
          go_wp2
          go_ret
          exact ⟨by rw [hv.out]; rfl, HG1.out.below⟩
        | true =>
          have HS' : Hid ((List.range (k + 1)).all (risAt (sB nx ul ip b) ltId ss) = true) := HS.out (by simp)
          clear HS HF
          go_wp2_with fail
          refine wp_region_quiet_grown (by assumption) (by kernel_rfl) ?_
          repeat (go_big_quiet_step (first | fail | (go_at_call 91; exact Calls.grown_of (HK.out _))))
          refine wpQuiet_nil ?_
          intro _ hw'
          obtain ⟨⟨nq, osq⟩, hw''⟩ := hw'
          subst hw''
          have HG1 : Hid (Grw w (grow (World.drewN (wr.alloc (.cells #[.int .i64 id, .int .i64 us1, .string mc, .int .i64 sip, .int .i64 be, .int .i64 la, .int .i64 ud, .int .i64 qu, .int .i64 un, .int .i64 il] 48)) nq) osq) ∧ (grow (World.drewN (wr.alloc (.cells #[.int .i64 id, .int .i64 us1, .string mc, .int .i64 sip, .int .i64 be, .int .i64 la, .int .i64 ud, .int .i64 qu, .int .i64 un, .int .i64 il] 48)) nq) osq).cell? ⟨w.heap.size, 0, none⟩ = some (.int .i64 ip) ∧ (grow (World.drewN (wr.alloc (.cells #[.int .i64 id, .int .i64 us1, .string mc, .int .i64 sip, .int .i64 be, .int .i64 la, .int .i64 ud, .int .i64 qu, .int .i64 un, .int .i64 il] 48)) nq) osq).cell? ⟨w.heap.size, 1, none⟩ = some (.int .i64 b) ∧ (grow (World.drewN (wr.alloc (.cells #[.int .i64 id, .int .i64 us1, .string mc, .int .i64 sip, .int .i64 be, .int .i64 la, .int .i64 ud, .int .i64 qu, .int .i64 un, .int .i64 il] 48)) nq) osq).cell? ⟨w.heap.size, 2, none⟩ = some (.int .i64 gt) ∧ (grow (World.drewN (wr.alloc (.cells #[.int .i64 id, .int .i64 us1, .string mc, .int .i64 sip, .int .i64 be, .int .i64 la, .int .i64 ud, .int .i64 qu, .int .i64 un, .int .i64 il] 48)) nq) osq).cell? ⟨w.heap.size, 3, none⟩ = some (.string gm) ∧ (grow (World.drewN (wr.alloc (.cells #[.int .i64 id, .int .i64 us1, .string mc, .int .i64 sip, .int .i64 be, .int .i64 la, .int .i64 ud, .int .i64 qu, .int .i64 un, .int .i64 il] 48)) nq) osq).cell? ⟨w.heap.size, 4, none⟩ = some (.string wm) ∧ (grow (World.drewN (wr.alloc (.cells #[.int .i64 id, .int .i64 us1, .string mc, .int .i64 sip, .int .i64 be, .int .i64 la, .int .i64 ud, .int .i64 qu, .int .i64 un, .int .i64 il] 48)) nq) osq).cell? ⟨w.heap.size, 5, none⟩ = some (.int .i64 rs) ∧ (grow (World.drewN (wr.alloc (.cells #[.int .i64 id, .int .i64 us1, .string mc, .int .i64 sip, .int .i64 be, .int .i64 la, .int .i64 ud, .int .i64 qu, .int .i64 un, .int .i64 il] 48)) nq) osq).cell? ⟨w.heap.size, 6, none⟩ = some (.slice x lenx capx) ∧ (grow (World.drewN (wr.alloc (.cells #[.int .i64 id, .int .i64 us1, .string mc, .int .i64 sip, .int .i64 be, .int .i64 la, .int .i64 ud, .int .i64 qu, .int .i64 un, .int .i64 il] 48)) nq) osq).cell? ⟨w.heap.size, 7, none⟩ = some (.slice y leny capy) ∧ (grow (World.drewN (wr.alloc (.cells #[.int .i64 id, .int .i64 us1, .string mc, .int .i64 sip, .int .i64 be, .int .i64 la, .int .i64 ud, .int .i64 qu, .int .i64 un, .int .i64 il] 48)) nq) osq).cell? ⟨w.heap.size + 1, 0, none⟩ = some (.slice ua ul uc) ∧ (grow (World.drewN (wr.alloc (.cells #[.int .i64 id, .int .i64 us1, .string mc, .int .i64 sip, .int .i64 be, .int .i64 la, .int .i64 ud, .int .i64 qu, .int .i64 un, .int .i64 il] 48)) nq) osq).cell? ⟨w.heap.size + 1, 1, none⟩ = some (.slice (some ⟨bk, off, none⟩) sl sc) ∧ (grow (World.drewN (wr.alloc (.cells #[.int .i64 id, .int .i64 us1, .string mc, .int .i64 sip, .int .i64 be, .int .i64 la, .int .i64 ud, .int .i64 qu, .int .i64 un, .int .i64 il] 48)) nq) osq).cell? ⟨w.heap.size + 1, 2, none⟩ = some (.slice fa fl fc) ∧ (grow (World.drewN (wr.alloc (.cells #[.int .i64 id, .int .i64 us1, .string mc, .int .i64 sip, .int .i64 be, .int .i64 la, .int .i64 ud, .int .i64 qu, .int .i64 un, .int .i64 il] 48)) nq) osq).cell? ⟨w.heap.size + 1, 3, none⟩ = some (.slice ra rl rc) ∧ (grow (World.drewN (wr.alloc (.cells #[.int .i64 id, .int .i64 us1, .string mc, .int .i64 sip, .int .i64 be, .int .i64 la, .int .i64 ud, .int .i64 qu, .int .i64 un, .int .i64 il] 48)) nq) osq).cell? ⟨w.heap.size + 1, 4, none⟩ = some (.int .i64 nx)) := ⟨HA.out.trans ⟨nq, osq, rfl⟩, e0 nq osq, e1 nq osq, e2 nq osq, e3 nq osq, e4 nq osq, e5 nq osq, e6 nq osq, e7 nq osq, e8 nq osq, e9 nq osq, e10 nq osq, e11 nq osq, e12 nq osq⟩
          clear y0 y1 y2 y3 y4 y5 y6 y7 y8 y9 e0 e1 e2 e3 e4 e5 e6 e7 e8 e9 e10 e11 e12
          go_wp2
          go_roundw
          case rel => exact ⟨k + 1, by omega, by go_num, HS', HG1⟩
          case measure => simp [intOf]; omega
      · obtain ⟨j, hkj⟩ : ∃ j, k = j + 1 := ⟨k - 1, by omega⟩
        obtain ⟨z', hx'⟩ := at_of (k := j) ls (by omega)
        obtain ⟨b', off', vs', e', hb', hvl', hR', hc'⟩ := RS.out.at SeR.kp GG hx'
        cases e'
        obtain ⟨id', us', mc', sip', be', la', ud', qu', un', il'⟩ := z'
        obtain ⟨rfl, -⟩ := hR'
        have p0 : wr.cell? ⟨bk, off + j * 10, none⟩ = some (.int .i64 id') := hc' 0 _ rfl
        obtain ⟨lt, hlt2⟩ : ∃ lt, decide (id' < id) = lt := ⟨_, rfl⟩
        have hlt3 : decide (id ≤ id') = !lt := by rw [← hlt2]; by_cases h : id' < id <;> simp [h] <;> omega
        have eo : risAt (sB nx ul ip b) ltId ss k = (sB nx ul ip b ⟨id, us1, mc, sip, be, la, ud, qu, un, il⟩ && lt) := by subst hkj; rw [← hlt2]; exact risAt_succ hx hx'
        have hkd : decide (0 < k) = true := decide_eq_true (by omega)
        have hj : (k : Int) - 1 = (j : Int) := by omega
        have hjl : (j : Int) < (sl : Int) := by omega
        clear hk0 hkj hlt2
        rw [eo] at HS HF
        generalize sB nx ul ip b ⟨id, us1, mc, sip, be, la, ud, qu, un, il⟩ = q at HK HS HF
        clear hc hvl hx eo hc' hvl' hx'
        have HA : Hid (Grw w (wr.alloc (.cells #[.int .i64 id, .int .i64 us1, .string mc, .int .i64 sip, .int .i64 be, .int .i64 la, .int .i64 ud, .int .i64 qu, .int .i64 un, .int .i64 il] 48))) := G0.alloc _
        have hmix : Tryz.prog.follows .mixedOrders = true := by kernel_rfl
        have y0 : ∀ n os, (grow (World.drewN (wr.alloc (.cells #[.int .i64 id, .int .i64 us1, .string mc, .int .i64 sip, .int .i64 be, .int .i64 la, .int .i64 ud, .int .i64 qu, .int .i64 un, .int .i64 il] 48)) n) os).cell? ⟨wr.heap.size, 0, none⟩ = some (.int .i64 id) := fun n os => cell_grown (by simp) (by simp) n os
        have y1 : ∀ n os, (grow (World.drewN (wr.alloc (.cells #[.int .i64 id, .int .i64 us1, .string mc, .int .i64 sip, .int .i64 be, .int .i64 la, .int .i64 ud, .int .i64 qu, .int .i64 un, .int .i64 il] 48)) n) os).cell? ⟨wr.heap.size, 1, none⟩ = some (.int .i64 us1) := fun n os => cell_grown (by simp) (by simp) n os
        have y2 : ∀ n os, (grow (World.drewN (wr.alloc (.cells #[.int .i64 id, .int .i64 us1, .string mc, .int .i64 sip, .int .i64 be, .int .i64 la, .int .i64 ud, .int .i64 qu, .int .i64 un, .int .i64 il] 48)) n) os).cell? ⟨wr.heap.size, 2, none⟩ = some (.string mc) := fun n os => cell_grown (by simp) (by simp) n os
        have y3 : ∀ n os, (grow (World.drewN (wr.alloc (.cells #[.int .i64 id, .int .i64 us1, .string mc, .int .i64 sip, .int .i64 be, .int .i64 la, .int .i64 ud, .int .i64 qu, .int .i64 un, .int .i64 il] 48)) n) os).cell? ⟨wr.heap.size, 3, none⟩ = some (.int .i64 sip) := fun n os => cell_grown (by simp) (by simp) n os
        have y4 : ∀ n os, (grow (World.drewN (wr.alloc (.cells #[.int .i64 id, .int .i64 us1, .string mc, .int .i64 sip, .int .i64 be, .int .i64 la, .int .i64 ud, .int .i64 qu, .int .i64 un, .int .i64 il] 48)) n) os).cell? ⟨wr.heap.size, 4, none⟩ = some (.int .i64 be) := fun n os => cell_grown (by simp) (by simp) n os
        have y5 : ∀ n os, (grow (World.drewN (wr.alloc (.cells #[.int .i64 id, .int .i64 us1, .string mc, .int .i64 sip, .int .i64 be, .int .i64 la, .int .i64 ud, .int .i64 qu, .int .i64 un, .int .i64 il] 48)) n) os).cell? ⟨wr.heap.size, 5, none⟩ = some (.int .i64 la) := fun n os => cell_grown (by simp) (by simp) n os
        have y6 : ∀ n os, (grow (World.drewN (wr.alloc (.cells #[.int .i64 id, .int .i64 us1, .string mc, .int .i64 sip, .int .i64 be, .int .i64 la, .int .i64 ud, .int .i64 qu, .int .i64 un, .int .i64 il] 48)) n) os).cell? ⟨wr.heap.size, 6, none⟩ = some (.int .i64 ud) := fun n os => cell_grown (by simp) (by simp) n os
        have y7 : ∀ n os, (grow (World.drewN (wr.alloc (.cells #[.int .i64 id, .int .i64 us1, .string mc, .int .i64 sip, .int .i64 be, .int .i64 la, .int .i64 ud, .int .i64 qu, .int .i64 un, .int .i64 il] 48)) n) os).cell? ⟨wr.heap.size, 7, none⟩ = some (.int .i64 qu) := fun n os => cell_grown (by simp) (by simp) n os
        have y8 : ∀ n os, (grow (World.drewN (wr.alloc (.cells #[.int .i64 id, .int .i64 us1, .string mc, .int .i64 sip, .int .i64 be, .int .i64 la, .int .i64 ud, .int .i64 qu, .int .i64 un, .int .i64 il] 48)) n) os).cell? ⟨wr.heap.size, 8, none⟩ = some (.int .i64 un) := fun n os => cell_grown (by simp) (by simp) n os
        have y9 : ∀ n os, (grow (World.drewN (wr.alloc (.cells #[.int .i64 id, .int .i64 us1, .string mc, .int .i64 sip, .int .i64 be, .int .i64 la, .int .i64 ud, .int .i64 qu, .int .i64 un, .int .i64 il] 48)) n) os).cell? ⟨wr.heap.size, 9, none⟩ = some (.int .i64 il) := fun n os => cell_grown (by simp) (by simp) n os
        have e0 : ∀ n os, (grow (World.drewN (wr.alloc (.cells #[.int .i64 id, .int .i64 us1, .string mc, .int .i64 sip, .int .i64 be, .int .i64 la, .int .i64 ud, .int .i64 qu, .int .i64 un, .int .i64 il] 48)) n) os).cell? ⟨w.heap.size, 0, none⟩ = some (.int .i64 ip) := fun n os => (((Grw.refl wr).alloc _).trans ⟨n, os, rfl⟩).keep d0
        have e1 : ∀ n os, (grow (World.drewN (wr.alloc (.cells #[.int .i64 id, .int .i64 us1, .string mc, .int .i64 sip, .int .i64 be, .int .i64 la, .int .i64 ud, .int .i64 qu, .int .i64 un, .int .i64 il] 48)) n) os).cell? ⟨w.heap.size, 1, none⟩ = some (.int .i64 b) := fun n os => (((Grw.refl wr).alloc _).trans ⟨n, os, rfl⟩).keep d1
        have e2 : ∀ n os, (grow (World.drewN (wr.alloc (.cells #[.int .i64 id, .int .i64 us1, .string mc, .int .i64 sip, .int .i64 be, .int .i64 la, .int .i64 ud, .int .i64 qu, .int .i64 un, .int .i64 il] 48)) n) os).cell? ⟨w.heap.size, 2, none⟩ = some (.int .i64 gt) := fun n os => (((Grw.refl wr).alloc _).trans ⟨n, os, rfl⟩).keep d2
        have e3 : ∀ n os, (grow (World.drewN (wr.alloc (.cells #[.int .i64 id, .int .i64 us1, .string mc, .int .i64 sip, .int .i64 be, .int .i64 la, .int .i64 ud, .int .i64 qu, .int .i64 un, .int .i64 il] 48)) n) os).cell? ⟨w.heap.size, 3, none⟩ = some (.string gm) := fun n os => (((Grw.refl wr).alloc _).trans ⟨n, os, rfl⟩).keep d3
        have e4 : ∀ n os, (grow (World.drewN (wr.alloc (.cells #[.int .i64 id, .int .i64 us1, .string mc, .int .i64 sip, .int .i64 be, .int .i64 la, .int .i64 ud, .int .i64 qu, .int .i64 un, .int .i64 il] 48)) n) os).cell? ⟨w.heap.size, 4, none⟩ = some (.string wm) := fun n os => (((Grw.refl wr).alloc _).trans ⟨n, os, rfl⟩).keep d4
        have e5 : ∀ n os, (grow (World.drewN (wr.alloc (.cells #[.int .i64 id, .int .i64 us1, .string mc, .int .i64 sip, .int .i64 be, .int .i64 la, .int .i64 ud, .int .i64 qu, .int .i64 un, .int .i64 il] 48)) n) os).cell? ⟨w.heap.size, 5, none⟩ = some (.int .i64 rs) := fun n os => (((Grw.refl wr).alloc _).trans ⟨n, os, rfl⟩).keep d5
        have e6 : ∀ n os, (grow (World.drewN (wr.alloc (.cells #[.int .i64 id, .int .i64 us1, .string mc, .int .i64 sip, .int .i64 be, .int .i64 la, .int .i64 ud, .int .i64 qu, .int .i64 un, .int .i64 il] 48)) n) os).cell? ⟨w.heap.size, 6, none⟩ = some (.slice x lenx capx) := fun n os => (((Grw.refl wr).alloc _).trans ⟨n, os, rfl⟩).keep d6
        have e7 : ∀ n os, (grow (World.drewN (wr.alloc (.cells #[.int .i64 id, .int .i64 us1, .string mc, .int .i64 sip, .int .i64 be, .int .i64 la, .int .i64 ud, .int .i64 qu, .int .i64 un, .int .i64 il] 48)) n) os).cell? ⟨w.heap.size, 7, none⟩ = some (.slice y leny capy) := fun n os => (((Grw.refl wr).alloc _).trans ⟨n, os, rfl⟩).keep d7
        have e8 : ∀ n os, (grow (World.drewN (wr.alloc (.cells #[.int .i64 id, .int .i64 us1, .string mc, .int .i64 sip, .int .i64 be, .int .i64 la, .int .i64 ud, .int .i64 qu, .int .i64 un, .int .i64 il] 48)) n) os).cell? ⟨w.heap.size + 1, 0, none⟩ = some (.slice ua ul uc) := fun n os => (((Grw.refl wr).alloc _).trans ⟨n, os, rfl⟩).keep d8
        have e9 : ∀ n os, (grow (World.drewN (wr.alloc (.cells #[.int .i64 id, .int .i64 us1, .string mc, .int .i64 sip, .int .i64 be, .int .i64 la, .int .i64 ud, .int .i64 qu, .int .i64 un, .int .i64 il] 48)) n) os).cell? ⟨w.heap.size + 1, 1, none⟩ = some (.slice (some ⟨bk, off, none⟩) sl sc) := fun n os => (((Grw.refl wr).alloc _).trans ⟨n, os, rfl⟩).keep d9
        have e10 : ∀ n os, (grow (World.drewN (wr.alloc (.cells #[.int .i64 id, .int .i64 us1, .string mc, .int .i64 sip, .int .i64 be, .int .i64 la, .int .i64 ud, .int .i64 qu, .int .i64 un, .int .i64 il] 48)) n) os).cell? ⟨w.heap.size + 1, 2, none⟩ = some (.slice fa fl fc) := fun n os => (((Grw.refl wr).alloc _).trans ⟨n, os, rfl⟩).keep d10
        have e11 : ∀ n os, (grow (World.drewN (wr.alloc (.cells #[.int .i64 id, .int .i64 us1, .string mc, .int .i64 sip, .int .i64 be, .int .i64 la, .int .i64 ud, .int .i64 qu, .int .i64 un, .int .i64 il] 48)) n) os).cell? ⟨w.heap.size + 1, 3, none⟩ = some (.slice ra rl rc) := fun n os => (((Grw.refl wr).alloc _).trans ⟨n, os, rfl⟩).keep d11
        have e12 : ∀ n os, (grow (World.drewN (wr.alloc (.cells #[.int .i64 id, .int .i64 us1, .string mc, .int .i64 sip, .int .i64 be, .int .i64 la, .int .i64 ud, .int .i64 qu, .int .i64 un, .int .i64 il] 48)) n) os).cell? ⟨w.heap.size + 1, 4, none⟩ = some (.int .i64 nx) := fun n os => (((Grw.refl wr).alloc _).trans ⟨n, os, rfl⟩).keep d12
        have p1 : ∀ n os, (grow (World.drewN (wr.alloc (.cells #[.int .i64 id, .int .i64 us1, .string mc, .int .i64 sip, .int .i64 be, .int .i64 la, .int .i64 ud, .int .i64 qu, .int .i64 un, .int .i64 il] 48)) n) os).cell? ⟨bk, off + j * 10, none⟩ = some (.int .i64 id') := fun n os => (((Grw.refl wr).alloc _).trans ⟨n, os, rfl⟩).keep p0
        cases q with
        | false =>
          have hv : Hid (z = false) := by show z = false; rw [E.out, HF.out (by simp)]; rfl
          go_wp2_with fail
          refine wp_region_quiet_grown (by assumption) (by kernel_rfl) ?_
          repeat (go_big_quiet_step (first | fail | (go_at_call 91; exact Calls.grown_of (HK.out _))))
          refine wpQuiet_nil ?_
          intro _ hw'
          obtain ⟨⟨nq, osq⟩, hw''⟩ := hw'
          subst hw''
          have HG1 : Hid (Grw w _) := HA.out.trans ⟨nq, osq, rfl⟩
          clear y0 y1 y2 y3 y4 y5 y6 y7 y8 y9 e0 e1 e2 e3 e4 e5 e6 e7 e8 e9 e10 e11 e12 p1
          go_wp2
          go_ret
          exact ⟨by rw [hv.out]; rfl, HG1.out.below⟩
        | true =>
          cases lt with
          | true =>
            have HS' : Hid ((List.range (k + 1)).all (risAt (sB nx ul ip b) ltId ss) = true) := HS.out (by simp)
            clear HS HF
            go_wp2_with fail
            refine wp_region_quiet_grown (by assumption) (by kernel_rfl) ?_
            repeat (go_big_quiet_step (first | fail | (go_at_call 91; exact Calls.grown_of (HK.out _))))
            refine wpQuiet_nil ?_
            intro _ hw'
            obtain ⟨⟨nq, osq⟩, hw''⟩ := hw'
            subst hw''
            have HG1 : Hid (Grw w (grow (World.drewN (wr.alloc (.cells #[.int .i64 id, .int .i64 us1, .string mc, .int .i64 sip, .int .i64 be, .int .i64 la, .int .i64 ud, .int .i64 qu, .int .i64 un, .int .i64 il] 48)) nq) osq) ∧ (grow (World.drewN (wr.alloc (.cells #[.int .i64 id, .int .i64 us1, .string mc, .int .i64 sip, .int .i64 be, .int .i64 la, .int .i64 ud, .int .i64 qu, .int .i64 un, .int .i64 il] 48)) nq) osq).cell? ⟨w.heap.size, 0, none⟩ = some (.int .i64 ip) ∧ (grow (World.drewN (wr.alloc (.cells #[.int .i64 id, .int .i64 us1, .string mc, .int .i64 sip, .int .i64 be, .int .i64 la, .int .i64 ud, .int .i64 qu, .int .i64 un, .int .i64 il] 48)) nq) osq).cell? ⟨w.heap.size, 1, none⟩ = some (.int .i64 b) ∧ (grow (World.drewN (wr.alloc (.cells #[.int .i64 id, .int .i64 us1, .string mc, .int .i64 sip, .int .i64 be, .int .i64 la, .int .i64 ud, .int .i64 qu, .int .i64 un, .int .i64 il] 48)) nq) osq).cell? ⟨w.heap.size, 2, none⟩ = some (.int .i64 gt) ∧ (grow (World.drewN (wr.alloc (.cells #[.int .i64 id, .int .i64 us1, .string mc, .int .i64 sip, .int .i64 be, .int .i64 la, .int .i64 ud, .int .i64 qu, .int .i64 un, .int .i64 il] 48)) nq) osq).cell? ⟨w.heap.size, 3, none⟩ = some (.string gm) ∧ (grow (World.drewN (wr.alloc (.cells #[.int .i64 id, .int .i64 us1, .string mc, .int .i64 sip, .int .i64 be, .int .i64 la, .int .i64 ud, .int .i64 qu, .int .i64 un, .int .i64 il] 48)) nq) osq).cell? ⟨w.heap.size, 4, none⟩ = some (.string wm) ∧ (grow (World.drewN (wr.alloc (.cells #[.int .i64 id, .int .i64 us1, .string mc, .int .i64 sip, .int .i64 be, .int .i64 la, .int .i64 ud, .int .i64 qu, .int .i64 un, .int .i64 il] 48)) nq) osq).cell? ⟨w.heap.size, 5, none⟩ = some (.int .i64 rs) ∧ (grow (World.drewN (wr.alloc (.cells #[.int .i64 id, .int .i64 us1, .string mc, .int .i64 sip, .int .i64 be, .int .i64 la, .int .i64 ud, .int .i64 qu, .int .i64 un, .int .i64 il] 48)) nq) osq).cell? ⟨w.heap.size, 6, none⟩ = some (.slice x lenx capx) ∧ (grow (World.drewN (wr.alloc (.cells #[.int .i64 id, .int .i64 us1, .string mc, .int .i64 sip, .int .i64 be, .int .i64 la, .int .i64 ud, .int .i64 qu, .int .i64 un, .int .i64 il] 48)) nq) osq).cell? ⟨w.heap.size, 7, none⟩ = some (.slice y leny capy) ∧ (grow (World.drewN (wr.alloc (.cells #[.int .i64 id, .int .i64 us1, .string mc, .int .i64 sip, .int .i64 be, .int .i64 la, .int .i64 ud, .int .i64 qu, .int .i64 un, .int .i64 il] 48)) nq) osq).cell? ⟨w.heap.size + 1, 0, none⟩ = some (.slice ua ul uc) ∧ (grow (World.drewN (wr.alloc (.cells #[.int .i64 id, .int .i64 us1, .string mc, .int .i64 sip, .int .i64 be, .int .i64 la, .int .i64 ud, .int .i64 qu, .int .i64 un, .int .i64 il] 48)) nq) osq).cell? ⟨w.heap.size + 1, 1, none⟩ = some (.slice (some ⟨bk, off, none⟩) sl sc) ∧ (grow (World.drewN (wr.alloc (.cells #[.int .i64 id, .int .i64 us1, .string mc, .int .i64 sip, .int .i64 be, .int .i64 la, .int .i64 ud, .int .i64 qu, .int .i64 un, .int .i64 il] 48)) nq) osq).cell? ⟨w.heap.size + 1, 2, none⟩ = some (.slice fa fl fc) ∧ (grow (World.drewN (wr.alloc (.cells #[.int .i64 id, .int .i64 us1, .string mc, .int .i64 sip, .int .i64 be, .int .i64 la, .int .i64 ud, .int .i64 qu, .int .i64 un, .int .i64 il] 48)) nq) osq).cell? ⟨w.heap.size + 1, 3, none⟩ = some (.slice ra rl rc) ∧ (grow (World.drewN (wr.alloc (.cells #[.int .i64 id, .int .i64 us1, .string mc, .int .i64 sip, .int .i64 be, .int .i64 la, .int .i64 ud, .int .i64 qu, .int .i64 un, .int .i64 il] 48)) nq) osq).cell? ⟨w.heap.size + 1, 4, none⟩ = some (.int .i64 nx)) := ⟨HA.out.trans ⟨nq, osq, rfl⟩, e0 nq osq, e1 nq osq, e2 nq osq, e3 nq osq, e4 nq osq, e5 nq osq, e6 nq osq, e7 nq osq, e8 nq osq, e9 nq osq, e10 nq osq, e11 nq osq, e12 nq osq⟩
            clear y0 y1 y2 y3 y4 y5 y6 y7 y8 y9 e0 e1 e2 e3 e4 e5 e6 e7 e8 e9 e10 e11 e12 p1
            go_wp2
            go_roundw
            case rel => exact ⟨k + 1, by omega, by go_num, HS', HG1⟩
            case measure => simp [intOf]; omega
          | false =>
            have hv : Hid (z = false) := by show z = false; rw [E.out, HF.out (by simp)]; rfl
            go_wp2_with fail
            refine wp_region_quiet_grown (by assumption) (by kernel_rfl) ?_
            repeat (go_big_quiet_step (first | fail | (go_at_call 91; exact Calls.grown_of (HK.out _))))
            refine wpQuiet_nil ?_
            intro _ hw'
            obtain ⟨⟨nq, osq⟩, hw''⟩ := hw'
            subst hw''
            have HG1 : Hid (Grw w _) := HA.out.trans ⟨nq, osq, rfl⟩
            clear y0 y1 y2 y3 y4 y5 y6 y7 y8 y9 e0 e1 e2 e3 e4 e5 e6 e7 e8 e9 e10 e11 e12 p1
            go_wp2
            go_ret
            exact ⟨by rw [hv.out]; rfl, HG1.out.below⟩
    · obtain rfl : sl = k := by omega
      have hr := ris_end ls HO.out
      have HA : Hid (∀ w, Rw SeR 10 w sa ss → Calls Tryz.prog 92 #[.slice sa sl sc] w fun e w' => e = .returned (.bool z) ∧ Below w.heap.size w w') := fun w h => by
        rw [E.out, hr, Bool.true_and]
        refine sessionsApart_any sa sl sc ss w h ls h3 (fun x hx => ?_)
        obtain ⟨i, hi⟩ := List.getElem?_of_mem hx
        exact S6.out x ((risB_iff.1 hr).1 i x hi)
      clear hr HO
      have B0 : Hid (Below w.heap.size w wr) := GG
      go_wp2_with fail
      refine (HA.out _ (RS.out.keep SeR.kp B0.out)).mono ?_
      rintro e w5 ⟨rfl, b5⟩
      have B5 : Hid (Below w.heap.size w w5) := B0.out.trans (b5.mono B0.out.size)
      clear b5
      go_wp2
      go_ret
      exact ⟨rfl, B5.out⟩
set_option maxHeartbeats 4000000 in
theorem failsOK_any (fa : Option Addr) (fl fc : Nat) (fs : List FailV) (w : World) (hf : Rw FaR 3 w fa fs) (lf : fs.length = fl) :
    Calls Tryz.prog 66 #[.slice fa fl fc] w fun e w' => e = .returned (.bool (dec (fs.length ≤ 20) && risB faB ltF fs)) ∧ Grw w w' := by
  have RF : Hid (Rw FaR 3 w fa fs) := hf
  clear hf
  by_cases h20 : fl ≤ 20
  rotate_left
  · rw [dec_n (by omega : ¬ fs.length ≤ 20)]
    have hz : (20 : Int) < (fl : Int) := by omega
    go_enter Tryz.func66, Tryz.ntmps66
    go_wp2
    go_ret
    exact ⟨rfl, Grw.refl _⟩
  rw [dec_y (by omega : fs.length ≤ 20), Bool.true_and]
  have hz : (fl : Int) ≤ 20 := by omega
  obtain ⟨z, hzz⟩ : ∃ z, z = risB faB ltF fs := ⟨_, rfl⟩
  have E : Hid (z = risB faB ltF fs) := hzz
  rw [← hzz]
  clear hzz
  go_enter Tryz.func66, Tryz.ntmps66
  go_wp2
  go_loopw [10] (fun u wr => ∃ k : Nat, k ≤ fl ∧ u = .int .i64 k ∧ Hid ((List.range k).all (risAt faB ltF fs) = true) ∧ Hid (Grw w wr)) (fun u _ => fl - (intOf u).toNat)
  case atStart => exact ⟨0, Nat.zero_le _, rfl, rfl, Grw.refl _⟩
  case round =>
    obtain ⟨k, hk, rfl, HO, HG⟩ := hrel
    by_cases hlt : k < fl
    · obtain ⟨x9, hx⟩ := at_of lf hlt
      obtain ⟨bk, off, vs, rfl, hbk, hvl, hR, hc⟩ := RF.out.at FaR.kp HG.out.below hx
      have HS : Hid (risAt faB ltF fs k = true → (List.range (k + 1)).all (risAt faB ltF fs) = true) := fun h => ris_step HO.out h
      have HF : Hid (risAt faB ltF fs k = false → z = false) := fun h => by rw [E.out]; exact ris_no (by omega) h
      obtain ⟨mc, ct, un⟩ := x9
      obtain ⟨rfl, -⟩ := hR
      have q0 : wr.cell? ⟨bk, off + k * 3, none⟩ = some (.string mc) := hc 0 _ rfl
      have q1 : wr.cell? ⟨bk, off + k * 3 + 1, none⟩ = some (.int .i64 ct) := hc 1 _ rfl
      have q2 : wr.cell? ⟨bk, off + k * 3 + 2, none⟩ = some (.int .i64 un) := hc 2 _ rfl
      have hltz : (k : Int) < (fl : Int) := by omega
      have T0 : Hid (∀ w, Calls Tryz.prog 22 #[.string mc] w fun e w' => e = .returned (.bool (dec (mc.size = 6))) ∧ w' = w) := fun w => isMac_any mc w
      have T1 : Hid (∀ w, Calls Tryz.prog 35 #[.int .i64 ct, .int .i64 0, .int .i64 2] w fun e w' => e = .returned (.bool (dec (0 ≤ ct ∧ ct ≤ 2))) ∧ w' = w) := fun w => between_any ct 0 2 w
      have T2 : Hid (∀ w, Calls Tryz.prog 35 #[.int .i64 un, .int .i64 0, .int .i64 100010] w fun e w' => e = .returned (.bool (dec (0 ≤ un ∧ un ≤ 100010))) ∧ w' = w) := fun w => between_any un 0 100010 w
      by_cases hk0 : k = 0
      · have eo : risAt faB ltF fs k = faB ⟨mc, ct, un⟩ := by subst hk0; exact risAt_zero hx
        have hkd : decide (0 < k) = false := decide_eq_false (by omega)
        clear hk0
        have eu : faB ⟨mc, ct, un⟩ = (dec (mc.size = 6) && (dec (0 ≤ ct ∧ ct ≤ 2) && dec (0 ≤ un ∧ un ≤ 100010))) := rfl
        rw [eo, eu] at HS HF
        generalize dec (mc.size = 6) = q1 at T0 HS HF
        generalize dec (0 ≤ ct ∧ ct ≤ 2) = q2 at T1 HS HF
        generalize dec (0 ≤ un ∧ un ≤ 100010) = q3 at T2 HS HF
        clear hc hvl hx eo eu
        have HG1 : Hid (Grw w (wr.alloc (.cells #[.string mc, .int .i64 ct, .int .i64 un] 95))) := HG.out.alloc _
        have hmix : Tryz.prog.follows .mixedOrders = true := by kernel_rfl
        have y0 : ∀ n os, (grow (World.drewN (wr.alloc (.cells #[.string mc, .int .i64 ct, .int .i64 un] 95)) n) os).cell? ⟨wr.heap.size, 0, none⟩ = some (.string mc) := fun n os => cell_grown (by simp) (by simp) n os
        have y1 : ∀ n os, (grow (World.drewN (wr.alloc (.cells #[.string mc, .int .i64 ct, .int .i64 un] 95)) n) os).cell? ⟨wr.heap.size, 1, none⟩ = some (.int .i64 ct) := fun n os => cell_grown (by simp) (by simp) n os
        have y2 : ∀ n os, (grow (World.drewN (wr.alloc (.cells #[.string mc, .int .i64 ct, .int .i64 un] 95)) n) os).cell? ⟨wr.heap.size, 2, none⟩ = some (.int .i64 un) := fun n os => cell_grown (by simp) (by simp) n os
        go_wp2_with fail
        refine (T0.out _).mono ?_
        rintro e w1 ⟨rfl, hw⟩
        subst hw
        cases q1 with
        | false =>
          have hv : Hid (z = false) := HF.out (by simp)
          go_wp2
          go_ret
          exact ⟨by rw [hv.out]; rfl, HG1.out⟩
        | true =>
          go_wp2_with fail
          refine (T1.out _).mono ?_
          rintro e w1 ⟨rfl, hw⟩
          subst hw
          cases q2 with
          | false =>
            have hv : Hid (z = false) := HF.out (by simp)
            go_wp2
            go_ret
            exact ⟨by rw [hv.out]; rfl, HG1.out⟩
          | true =>
            go_wp2_with fail
            refine (T2.out _).mono ?_
            rintro e w1 ⟨rfl, hw⟩
            subst hw
            cases q3 with
            | false =>
              have hv : Hid (z = false) := HF.out (by simp)
              go_wp2
              go_ret
              exact ⟨by rw [hv.out]; rfl, HG1.out⟩
            | true =>
              have HS' : Hid ((List.range (k + 1)).all (risAt faB ltF fs) = true) := HS.out (by simp)
              clear HS HF
              go_wp2_with fail
              refine wp_region_quiet_grown (by assumption) (by kernel_rfl) ?_
              repeat (go_big_quiet_step (first | fail | fail))
              refine wpQuiet_nil ?_
              intro _ hw'
              obtain ⟨⟨nq, osq⟩, hw''⟩ := hw'
              subst hw''
              have HG2 : Hid (Grw w _) := HG1.out.trans ⟨nq, osq, rfl⟩
              clear y0 y1 y2
              go_wp2
              go_roundw
              case rel => exact ⟨k + 1, by omega, by go_num, HS', HG2⟩
              case measure => simp [intOf]; omega
      · obtain ⟨j, hkj⟩ : ∃ j, k = j + 1 := ⟨k - 1, by omega⟩
        obtain ⟨z', hx'⟩ := at_of (k := j) lf (by omega)
        obtain ⟨b', off', vs', e', hb', hvl', hR', hc'⟩ := RF.out.at FaR.kp HG.out.below hx'
        cases e'
        obtain ⟨mc', ct', un'⟩ := z'
        obtain ⟨rfl, -⟩ := hR'
        have p0 : wr.cell? ⟨bk, off + j * 3, none⟩ = some (.string mc') := hc' 0 _ rfl
        obtain ⟨lt, hlt2⟩ : ∃ lt, Op.bytesLess mc'.toList mc.toList = lt := ⟨_, rfl⟩
        have eo : risAt faB ltF fs k = (faB ⟨mc, ct, un⟩ && lt) := by subst hkj; rw [← hlt2]; exact risAt_succ hx hx'
        have hkd : decide (0 < k) = true := decide_eq_true (by omega)
        have hj : (k : Int) - 1 = (j : Int) := by omega
        have hjl : (j : Int) < (fl : Int) := by omega
        clear hk0 hkj
        have eu : faB ⟨mc, ct, un⟩ = (dec (mc.size = 6) && (dec (0 ≤ ct ∧ ct ≤ 2) && dec (0 ≤ un ∧ un ≤ 100010))) := rfl
        rw [eo, eu] at HS HF
        generalize dec (mc.size = 6) = q1 at T0 HS HF
        generalize dec (0 ≤ ct ∧ ct ≤ 2) = q2 at T1 HS HF
        generalize dec (0 ≤ un ∧ un ≤ 100010) = q3 at T2 HS HF
        clear hc hvl hx eo eu hc' hvl' hx'
        have HG1 : Hid (Grw w (wr.alloc (.cells #[.string mc, .int .i64 ct, .int .i64 un] 95))) := HG.out.alloc _
        have hmix : Tryz.prog.follows .mixedOrders = true := by kernel_rfl
        have y0 : ∀ n os, (grow (World.drewN (wr.alloc (.cells #[.string mc, .int .i64 ct, .int .i64 un] 95)) n) os).cell? ⟨wr.heap.size, 0, none⟩ = some (.string mc) := fun n os => cell_grown (by simp) (by simp) n os
        have y1 : ∀ n os, (grow (World.drewN (wr.alloc (.cells #[.string mc, .int .i64 ct, .int .i64 un] 95)) n) os).cell? ⟨wr.heap.size, 1, none⟩ = some (.int .i64 ct) := fun n os => cell_grown (by simp) (by simp) n os
        have y2 : ∀ n os, (grow (World.drewN (wr.alloc (.cells #[.string mc, .int .i64 ct, .int .i64 un] 95)) n) os).cell? ⟨wr.heap.size, 2, none⟩ = some (.int .i64 un) := fun n os => cell_grown (by simp) (by simp) n os
        have p1 : ∀ n os, (grow (World.drewN (wr.alloc (.cells #[.string mc, .int .i64 ct, .int .i64 un] 95)) n) os).cell? ⟨bk, off + j * 3, none⟩ = some (.string mc') := fun n os => (((Grw.refl wr).alloc _).trans ⟨n, os, rfl⟩).keep p0
        go_wp2_with fail
        refine (T0.out _).mono ?_
        rintro e w1 ⟨rfl, hw⟩
        subst hw
        cases q1 with
        | false =>
          have hv : Hid (z = false) := HF.out (by simp)
          go_wp2
          go_ret
          exact ⟨by rw [hv.out]; rfl, HG1.out⟩
        | true =>
          go_wp2_with fail
          refine (T1.out _).mono ?_
          rintro e w1 ⟨rfl, hw⟩
          subst hw
          cases q2 with
          | false =>
            have hv : Hid (z = false) := HF.out (by simp)
            go_wp2
            go_ret
            exact ⟨by rw [hv.out]; rfl, HG1.out⟩
          | true =>
            go_wp2_with fail
            refine (T2.out _).mono ?_
            rintro e w1 ⟨rfl, hw⟩
            subst hw
            cases q3 with
            | false =>
              have hv : Hid (z = false) := HF.out (by simp)
              go_wp2
              go_ret
              exact ⟨by rw [hv.out]; rfl, HG1.out⟩
            | true =>
              cases lt with
              | true =>
                have HS' : Hid ((List.range (k + 1)).all (risAt faB ltF fs) = true) := HS.out (by simp)
                clear HS HF
                go_wp2_with fail
                refine wp_region_quiet_grown (by assumption) (by kernel_rfl) ?_
                repeat (go_big_quiet_step (first | fail | fail))
                refine wpQuiet_nil ?_
                intro _ hw'
                obtain ⟨⟨nq, osq⟩, hw''⟩ := hw'
                subst hw''
                have HG2 : Hid (Grw w _) := HG1.out.trans ⟨nq, osq, rfl⟩
                clear y0 y1 y2 p1
                go_wp2
                go_roundw
                case rel => exact ⟨k + 1, by omega, by go_num, HS', HG2⟩
                case measure => simp [intOf]; omega
              | false =>
                have hv : Hid (z = false) := HF.out (by simp)
                go_wp2_with fail
                refine wp_region_quiet_grown (by assumption) (by kernel_rfl) ?_
                repeat (go_big_quiet_step (first | fail | fail))
                refine wpQuiet_nil ?_
                intro _ hw'
                obtain ⟨⟨nq, osq⟩, hw''⟩ := hw'
                subst hw''
                have HG2 : Hid (Grw w _) := HG1.out.trans ⟨nq, osq, rfl⟩
                go_wp2
                go_ret
                exact ⟨by rw [hv.out]; rfl, HG2.out⟩
    · obtain rfl : fl = k := by omega
      have hv : Hid (z = true) := by show z = true; rw [E.out, ris_end lf HO.out]
      clear HO
      go_wp2
      go_ret
      exact ⟨by rw [hv.out]; rfl, HG.out⟩
def reE (r : RecV) : Bool := if r.st then dec (1 ≤ r.ca ∧ r.ca ≤ 6) && dec (0 ≤ r.bt ∧ r.bt ≤ 1000000) else dec (r.ca = 0) && dec (r.bt = 0)
theorem reB_eq (nx : Int) (r : RecV) : reB nx r = (dec (1 ≤ r.id ∧ r.id ≤ nx - 1) && (dec (0 ≤ r.tm ∧ r.tm ≤ 100000) && reE r)) := by
  obtain ⟨id, tm, ca, bt, st⟩ := r
  unfold reB reE dec
  cases st
  · rw [Bool.eq_iff_iff]
    simp
    intro _ _ _ _
    constructor
    · rintro ⟨h1, h2, h3, h4⟩
      omega
    · rintro ⟨h1, h2⟩
      omega
  · rw [Bool.eq_iff_iff]
    simp
    intro _ _ _ _
    constructor
    · rintro ⟨h1, h2, h3⟩
      omega
    · rintro ⟨h1, h2⟩
      omega
set_option maxHeartbeats 1000000 in
theorem recordEndOK_any (rid rtm rca rbt : Int) (rst : Bool) (w : World) :
    Calls Tryz.prog 93 #[.agg #[.int .i64 rid, .int .i64 rtm, .int .i64 rca, .int .i64 rbt, .bool rst]] w fun e w' => e = .returned (.bool (reE ⟨rid, rtm, rca, rbt, rst⟩)) ∧ Grw w w' := by
  cases rst with
  | true =>
    have e : reE ⟨rid, rtm, rca, rbt, true⟩ = (dec (1 ≤ rca ∧ rca ≤ 6) && dec (0 ≤ rbt ∧ rbt ≤ 1000000)) := rfl
    rw [e]
    have T0 : Hid (∀ w, Calls Tryz.prog 107 #[.int .i64 rca] w fun e w' => e = .returned (.bool (dec (1 ≤ rca ∧ rca ≤ 6))) ∧ w' = w) := fun w => causeOK_any rca w
    have T1 : Hid (∀ w, Calls Tryz.prog 34 #[.int .i64 rbt] w fun e w' => e = .returned (.bool (dec (0 ≤ rbt ∧ rbt ≤ 1000000))) ∧ w' = w) := fun w => bytesOK_any rbt w
    generalize dec (1 ≤ rca ∧ rca ≤ 6) = q at T0 ⊢
    generalize dec (0 ≤ rbt ∧ rbt ≤ 1000000) = r at T1 ⊢
    cases q with
    | false =>
      go_enter Tryz.func93, Tryz.ntmps93
      go_wp2_with fail
      refine (T0.out _).mono ?_
      rintro e w1 ⟨rfl, hw⟩
      subst hw
      go_wp2
      go_ret
      exact ⟨rfl, (Grw.refl _).alloc _⟩
    | true =>
      go_enter Tryz.func93, Tryz.ntmps93
      go_wp2_with fail
      refine (T0.out _).mono ?_
      rintro e w1 ⟨rfl, hw⟩
      subst hw
      go_wp2_with fail
      refine (T1.out _).mono ?_
      rintro e w1 ⟨rfl, hw⟩
      subst hw
      go_wp2
      go_ret
      exact ⟨by first | rfl | simp, (Grw.refl _).alloc _⟩
  | false =>
    have e : reE ⟨rid, rtm, rca, rbt, false⟩ = (dec (rca = 0) && dec (rbt = 0)) := rfl
    rw [e]
    by_cases h1 : rca = 0
    · rw [dec_y h1]
      have hz1 : (rca == 0) = true := by simp [h1]
      clear h1
      by_cases h2 : rbt = 0
      · rw [dec_y h2]
        have hz2 : (rbt == 0) = true := by simp [h2]
        clear h2
        go_enter Tryz.func93, Tryz.ntmps93
        go_wp2
        go_ret
        exact ⟨rfl, (Grw.refl _).alloc _⟩
      · rw [dec_n h2]
        have hz2 : (rbt == 0) = false := by simp [h2]
        go_enter Tryz.func93, Tryz.ntmps93
        go_wp2
        go_ret
        exact ⟨rfl, (Grw.refl _).alloc _⟩
    · rw [dec_n h1]
      have hz1 : (rca == 0) = false := by simp [h1]
      go_enter Tryz.func93, Tryz.ntmps93
      go_wp2
      go_ret
      exact ⟨rfl, (Grw.refl _).alloc _⟩
set_option maxHeartbeats 4000000 in
theorem recordsOK_any (ua sa fa ra : Option Addr) (ul uc sl sc fl fc rl rc : Nat) (nx : Int) (es : List RecV) (w : World) (hr : Rw ReR 5 w ra es) (lr : es.length = rl) (hn1 : 1 ≤ nx) (hn2 : nx ≤ 10000) :
    Calls Tryz.prog 67 #[.agg #[.slice ua ul uc, .slice sa sl sc, .slice fa fl fc, .slice ra rl rc, .int .i64 nx]] w fun e w' => e = .returned (.bool (dec (es.length ≤ 60) && es.all (reB nx))) ∧ Grw w w' := by
  have RR : Hid (Rw ReR 5 w ra es) := hr
  clear hr
  by_cases h60 : rl ≤ 60
  rotate_left
  · rw [dec_n (by omega : ¬ es.length ≤ 60)]
    have hz : (60 : Int) < (rl : Int) := by omega
    go_enter Tryz.func67, Tryz.ntmps67
    go_wp2
    go_ret
    exact ⟨rfl, (Grw.refl _).alloc _⟩
  rw [dec_y (by omega : es.length ≤ 60), Bool.true_and]
  have hz : (rl : Int) ≤ 60 := by omega
  go_enter Tryz.func67, Tryz.ntmps67
  go_wp2
  go_loopw [12] (fun u wr => ∃ k : Nat, k ≤ rl ∧ u = .int .i64 k ∧ Hid ((es.take k).all (reB nx) = true) ∧ Hid (Grw w wr ∧ wr.cell? ⟨w.heap.size, 4, none⟩ = some (.int .i64 nx))) (fun u _ => rl - (intOf u).toNat)
  case atStart => exact ⟨0, Nat.zero_le _, rfl, rfl, (Grw.refl _).alloc _, by simp [go_sem]⟩
  case round =>
    obtain ⟨k, hk, rfl, HO, HG⟩ := hrel
    have e4 := HG.out.2
    by_cases hlt : k < rl
    · obtain ⟨x9, hx⟩ := at_of lr hlt
      obtain ⟨bk, off, vs, rfl, hbk, hvl, hR, hc⟩ := RR.out.at ReR.kp HG.out.1.below hx
      have HS : Hid (reB nx x9 = true → (es.take (k + 1)).all (reB nx) = true) := fun h => all_step2 hx HO.out h
      have HF : Hid (reB nx x9 = false → es.all (reB nx) = false) := fun h => all_no hx h
      rw [reB_eq] at HS HF
      obtain ⟨rid, rtm, rca, rbt, rst⟩ := x9
      obtain ⟨rfl, -⟩ := hR
      have q0 : wr.cell? ⟨bk, off + k * 5, none⟩ = some (.int .i64 rid) := hc 0 _ rfl
      have q1 : wr.cell? ⟨bk, off + k * 5 + 1, none⟩ = some (.int .i64 rtm) := hc 1 _ rfl
      have q2 : wr.cell? ⟨bk, off + k * 5 + 2, none⟩ = some (.int .i64 rca) := hc 2 _ rfl
      have q3 : wr.cell? ⟨bk, off + k * 5 + 3, none⟩ = some (.int .i64 rbt) := hc 3 _ rfl
      have q4 : wr.cell? ⟨bk, off + k * 5 + 4, none⟩ = some (.bool rst) := hc 4 _ rfl
      have hltz : (k : Int) < (rl : Int) := by omega
      have T0 : Hid (∀ w, Calls Tryz.prog 35 #[.int .i64 rid, .int .i64 1, .int .i64 (nx - 1)] w fun e w' => e = .returned (.bool (dec (1 ≤ rid ∧ rid ≤ nx - 1))) ∧ w' = w) := fun w => between_any rid 1 (nx - 1) w
      have T1 : Hid (∀ w, Calls Tryz.prog 42 #[.int .i64 rtm] w fun e w' => e = .returned (.bool (dec (0 ≤ rtm ∧ rtm ≤ 100000))) ∧ w' = w) := fun w => timeOK_any rtm w
      have T2 : Hid (∀ w, Calls Tryz.prog 93 #[.agg #[.int .i64 rid, .int .i64 rtm, .int .i64 rca, .int .i64 rbt, .bool rst]] w fun e w' => e = .returned (.bool (reE ⟨rid, rtm, rca, rbt, rst⟩)) ∧ Grw w w') := fun w => recordEndOK_any rid rtm rca rbt rst w
      dsimp only at HS HF
      generalize dec (1 ≤ rid ∧ rid ≤ nx - 1) = t0 at T0 HS HF
      generalize dec (0 ≤ rtm ∧ rtm ≤ 100000) = t1 at T1 HS HF
      generalize reE ⟨rid, rtm, rca, rbt, rst⟩ = t2 at T2 HS HF
      clear hc hvl hx
      have f4 := acell e4 (.cells #[.int .i64 rid, .int .i64 rtm, .int .i64 rca, .int .i64 rbt, .bool rst] 67)
      have HG1 : Hid (Grw w (wr.alloc (.cells #[.int .i64 rid, .int .i64 rtm, .int .i64 rca, .int .i64 rbt, .bool rst] 67)) ∧ (wr.alloc (.cells #[.int .i64 rid, .int .i64 rtm, .int .i64 rca, .int .i64 rbt, .bool rst] 67)).cell? ⟨w.heap.size, 4, none⟩ = some (.int .i64 nx)) := ⟨HG.out.1.alloc _, f4⟩
      go_wp2_with fail
      refine (T0.out _).mono ?_
      rintro e w1 ⟨rfl, hw⟩
      subst hw
      cases t0 with
      | false =>
        have hd : Hid (es.all (reB nx) = false) := HF.out (by simp)
        go_wp2
        go_ret
        exact ⟨by rw [hd.out]; rfl, HG1.out.1⟩
      | true =>
        go_wp2_with fail
        refine (T1.out _).mono ?_
        rintro e w1 ⟨rfl, hw⟩
        subst hw
        cases t1 with
        | false =>
          have hd : Hid (es.all (reB nx) = false) := HF.out (by simp)
          go_wp2
          go_ret
          exact ⟨by rw [hd.out]; rfl, HG1.out.1⟩
        | true =>
          go_wp2_with fail
          refine (T2.out _).mono ?_
          rintro e w5 ⟨rfl, g5⟩
          have HG5 : Hid (Grw w w5 ∧ w5.cell? ⟨w.heap.size, 4, none⟩ = some (.int .i64 nx)) := ⟨HG1.out.1.trans g5, g5.keep HG1.out.2⟩
          clear g5 HG1 HG f4 e4
          cases t2 with
          | false =>
            have hd : Hid (es.all (reB nx) = false) := HF.out (by simp)
            go_wp2
            go_ret
            exact ⟨by rw [hd.out]; rfl, HG5.out.1⟩
          | true =>
            have HS' : Hid ((es.take (k + 1)).all (reB nx) = true) := HS.out (by simp)
            clear HS HF
            go_wp2
            go_roundw
            case rel => exact ⟨k + 1, by omega, by go_num, HS', HG5⟩
            case measure => simp [intOf]; omega
    · obtain rfl : rl = k := by omega
      have hd : Hid (es.all (reB nx) = true) := all_end lr HO.out
      go_wp2
      go_ret
      exact ⟨by rw [hd.out]; rfl, HG.out.1⟩
set_option maxHeartbeats 4000000 in
theorem implGuests_any (ip b gt : Int) (gm wm : ByteArray) (rs : Int) (x y : Option Addr) (lenx capx leny capy : Nat) (ps : List PlaceV) (ros : List RoleV) (ua sa fa ra : Option Addr) (ul uc sl sc fl fc rl rc : Nat) (us : List UserV) (ss : List SessV) (fs : List FailV) (es : List RecV) (nx : Int) (w : World) (h : Rw PlR 4 w x ps) (hl : ps.length = lenx) (h2 : Rw (RoR 0) 5 w y ros) (hl2 : ros.length = leny) (hsz : SzR ros) (hl9 : leny ≤ 1048576)
    (hu : Rw UsR 6 w ua us) (lu : us.length = ul) (hs : Rw SeR 10 w sa ss) (ls : ss.length = sl) (hf : Rw FaR 3 w fa fs) (lf : fs.length = fl) (hr : Rw ReR 5 w ra es) (lr : es.length = rl) (hszu : SzU us) (mu : ul ≤ 1048576) :
    Calls Tryz.prog 41 #[.agg #[.int .i64 ip, .int .i64 b, .int .i64 gt, .string gm, .string wm, .int .i64 rs, .slice x lenx capx, .slice y leny capy], .agg #[.slice ua ul uc, .slice sa sl sc, .slice fa fl fc, .slice ra rl rc, .int .i64 nx]] w fun e w' => e = .returned (.bool (gokB ip b gt gm wm rs ps ros us ss fs es nx)) ∧ Below w.heap.size w w' := by
  have RX : Hid (Rw PlR 4 w x ps) := h
  have RY : Hid (Rw (RoR 0) 5 w y ros) := h2
  have RU : Hid (Rw UsR 6 w ua us) := hu
  have RS : Hid (Rw SeR 10 w sa ss) := hs
  have RF : Hid (Rw FaR 3 w fa fs) := hf
  have RR : Hid (Rw ReR 5 w ra es) := hr
  have HC : Hid (∀ w, Rw PlR 4 w x ps → Rw (RoR 0) 5 w y ros → Calls Tryz.prog 63 #[.agg #[.int .i64 ip, .int .i64 b, .int .i64 gt, .string gm, .string wm, .int .i64 rs, .slice x lenx capx, .slice y leny capy]] w fun e w' => e = .returned (.bool (confB ip b gt gm wm rs ps ros)) ∧ Below w.heap.size w w') := fun w h h2 => (implConfig_any ip b gt gm wm rs x y lenx capx leny capy ps ros w h hl h2 hl2 hsz).mono fun e w' h => ⟨h.1, h.2.below⟩
  have HU : Hid (∀ w, Rw (RoR 0) 5 w y ros → Rw UsR 6 w ua us → Calls Tryz.prog 64 #[.agg #[.int .i64 ip, .int .i64 b, .int .i64 gt, .string gm, .string wm, .int .i64 rs, .slice x lenx capx, .slice y leny capy], .slice ua ul uc] w fun e w' => e = .returned (.bool (usB ros us)) ∧ Below w.heap.size w w') := fun w h h2 => (usersOK_any ip b gt gm wm rs x y lenx capx leny capy ros ua ul uc us w h hl2 h2 lu hszu hl9 mu).mono fun e w' h => ⟨h.1, h.2.below⟩
  have HN : Hid (∀ w, Calls Tryz.prog 35 #[.int .i64 nx, .int .i64 1, .int .i64 10000] w fun e w' => e = .returned (.bool (dec (1 ≤ nx ∧ nx ≤ 10000))) ∧ w' = w) := fun w => between_any nx 1 10000 w
  have HS : Hid (nB ip b = true → 1 ≤ nx → nx ≤ 10000 → ∀ w, Rw SeR 10 w sa ss → Calls Tryz.prog 65 #[.agg #[.int .i64 ip, .int .i64 b, .int .i64 gt, .string gm, .string wm, .int .i64 rs, .slice x lenx capx, .slice y leny capy], .agg #[.slice ua ul uc, .slice sa sl sc, .slice fa fl fc, .slice ra rl rc, .int .i64 nx]] w fun e w' => e = .returned (.bool (dec (ss.length ≤ 3) && seB (sB nx us.length ip b) ss)) ∧ Below w.heap.size w w') := fun hn h1 h2 w h => by rw [lu]; exact sessionsOK_any ip b gt gm wm rs x y lenx capx leny capy ua sa fa ra ul uc sl sc fl fc rl rc nx ss w h ls hn h1 h2 mu
  have HF : Hid (∀ w, Rw FaR 3 w fa fs → Calls Tryz.prog 66 #[.slice fa fl fc] w fun e w' => e = .returned (.bool (dec (fs.length ≤ 20) && risB faB ltF fs)) ∧ Below w.heap.size w w') := fun w h => (failsOK_any fa fl fc fs w h lf).mono fun e w' h => ⟨h.1, h.2.below⟩
  have HR : Hid (1 ≤ nx → nx ≤ 10000 → ∀ w, Rw ReR 5 w ra es → Calls Tryz.prog 67 #[.agg #[.slice ua ul uc, .slice sa sl sc, .slice fa fl fc, .slice ra rl rc, .int .i64 nx]] w fun e w' => e = .returned (.bool (dec (es.length ≤ 60) && es.all (reB nx))) ∧ Below w.heap.size w w') := fun h1 h2 w h => (recordsOK_any ua sa fa ra ul uc sl sc fl fc rl rc nx es w h lr h1 h2).mono fun e w' h => ⟨h.1, h.2.below⟩
  have hbb0 : confB ip b gt gm wm rs ps ros = true → nB ip b = true := fun h => by
    unfold confB at h
    simp only [Bool.and_eq_true] at h
    exact h.1
  obtain ⟨z, hz⟩ : ∃ z, z = gokB ip b gt gm wm rs ps ros us ss fs es nx := ⟨_, rfl⟩
  have E : Hid (z = (confB ip b gt gm wm rs ps ros && (dec (1 ≤ nx ∧ nx ≤ 10000) && (usB ros us && ((dec (ss.length ≤ 3) && seB (sB nx us.length ip b) ss) && ((dec (fs.length ≤ 20) && risB faB ltF fs) && (dec (es.length ≤ 60) && es.all (reB nx)))))))) := by rw [hz]; rfl
  rw [← hz]
  clear hz h h2 hu hs hf hr hszu hsz
  obtain ⟨q0, hq0⟩ : ∃ q, q = confB ip b gt gm wm rs ps ros := ⟨_, rfl⟩
  rw [← hq0] at HC E hbb0
  have HBB : Hid (q0 = true → nB ip b = true) := hbb0
  clear hq0 hbb0
  generalize usB ros us = q2 at HU E
  obtain ⟨q1, hq1⟩ : ∃ q, q = dec (1 ≤ nx ∧ nx ≤ 10000) := ⟨_, rfl⟩
  rw [← hq1] at HN E
  have HQ1 : Hid (q1 = dec (1 ≤ nx ∧ nx ≤ 10000)) := hq1
  clear hq1
  generalize (dec (ss.length ≤ 3) && seB (sB nx us.length ip b) ss) = q3 at HS E
  generalize (dec (fs.length ≤ 20) && risB faB ltF fs) = q4 at HF E
  generalize (dec (es.length ≤ 60) && es.all (reB nx)) = q5 at HR E
  go_enter Tryz.func41, Tryz.ntmps41
  go_wp2_with fail
  refine (HC.out _ (RX.out.keep PlR.kp (((Below.refl w.heap.size w).alloc (by simp <;> omega) _).alloc (by simp <;> omega) _)) (RY.out.keep (RoR.kp 0) (((Below.refl w.heap.size w).alloc (by simp <;> omega) _).alloc (by simp <;> omega) _))).mono ?_
  rintro e wx1 ⟨rfl, bx⟩
  have c1_0_0 : wx1.cell? ⟨w.heap.size, 0, none⟩ = some (.int .i64 ip) := bkeep bx (by simp [go_sem])
  have c1_0_1 : wx1.cell? ⟨w.heap.size, 1, none⟩ = some (.int .i64 b) := bkeep bx (by simp [go_sem])
  have c1_0_2 : wx1.cell? ⟨w.heap.size, 2, none⟩ = some (.int .i64 gt) := bkeep bx (by simp [go_sem])
  have c1_0_3 : wx1.cell? ⟨w.heap.size, 3, none⟩ = some (.string gm) := bkeep bx (by simp [go_sem])
  have c1_0_4 : wx1.cell? ⟨w.heap.size, 4, none⟩ = some (.string wm) := bkeep bx (by simp [go_sem])
  have c1_0_5 : wx1.cell? ⟨w.heap.size, 5, none⟩ = some (.int .i64 rs) := bkeep bx (by simp [go_sem])
  have c1_0_6 : wx1.cell? ⟨w.heap.size, 6, none⟩ = some (.slice x lenx capx) := bkeep bx (by simp [go_sem])
  have c1_0_7 : wx1.cell? ⟨w.heap.size, 7, none⟩ = some (.slice y leny capy) := bkeep bx (by simp [go_sem])
  have c1_1_0 : wx1.cell? ⟨w.heap.size + 1, 0, none⟩ = some (.slice ua ul uc) := bkeep bx (by simp [go_sem])
  have c1_1_1 : wx1.cell? ⟨w.heap.size + 1, 1, none⟩ = some (.slice sa sl sc) := bkeep bx (by simp [go_sem])
  have c1_1_2 : wx1.cell? ⟨w.heap.size + 1, 2, none⟩ = some (.slice fa fl fc) := bkeep bx (by simp [go_sem])
  have c1_1_3 : wx1.cell? ⟨w.heap.size + 1, 3, none⟩ = some (.slice ra rl rc) := bkeep bx (by simp [go_sem])
  have c1_1_4 : wx1.cell? ⟨w.heap.size + 1, 4, none⟩ = some (.int .i64 nx) := bkeep bx (by simp [go_sem])
  have BX1 : Hid (Below w.heap.size w wx1) := (((Below.refl w.heap.size w).alloc (by simp <;> omega) _).alloc (by simp <;> omega) _).trans (bx.mono (by simp <;> omega))
  clear bx
  cases q0 with
  | false =>
    have hv : Hid (z = false) := by show z = false; rw [E.out]; simp
    go_wp2
    go_ret
    exact ⟨by rw [hv.out]; rfl, BX1.out⟩
  | true =>
    have HNB : Hid (nB ip b = true) := HBB.out rfl
    clear HBB
    go_wp2_with fail
    refine (HN.out _).mono ?_
    rintro e w9 ⟨rfl, hw9⟩
    subst hw9
    cases q1 with
    | false =>
      have hv : Hid (z = false) := by show z = false; rw [E.out]; simp
      go_wp2
      go_ret
      exact ⟨by rw [hv.out]; rfl, BX1.out⟩
    | true =>
      have hnx : 1 ≤ nx ∧ nx ≤ 10000 := by have h := HQ1.out; unfold dec at h; simpa using h.symm
      obtain ⟨hn1, hn2⟩ := hnx
      clear HQ1
      have HS2 : Hid (∀ w, Rw SeR 10 w sa ss → Calls Tryz.prog 65 #[.agg #[.int .i64 ip, .int .i64 b, .int .i64 gt, .string gm, .string wm, .int .i64 rs, .slice x lenx capx, .slice y leny capy], .agg #[.slice ua ul uc, .slice sa sl sc, .slice fa fl fc, .slice ra rl rc, .int .i64 nx]] w fun e w' => e = .returned (.bool q3) ∧ Below w.heap.size w w') := HS.out HNB.out hn1 hn2
      clear HS
      have HR2 : Hid (∀ w, Rw ReR 5 w ra es → Calls Tryz.prog 67 #[.agg #[.slice ua ul uc, .slice sa sl sc, .slice fa fl fc, .slice ra rl rc, .int .i64 nx]] w fun e w' => e = .returned (.bool q5) ∧ Below w.heap.size w w') := HR.out hn1 hn2
      clear HR
      go_wp2_with fail
      refine (HU.out _ (RY.out.keep (RoR.kp 0) BX1.out) (RU.out.keep UsR.kp BX1.out)).mono ?_
      rintro e wx2 ⟨rfl, bx⟩
      have c2_0_0 : wx2.cell? ⟨w.heap.size, 0, none⟩ = some (.int .i64 ip) := bkeep bx (by first | (simp [go_sem]; done) | simp [go_sem, c1_0_0])
      have c2_0_1 : wx2.cell? ⟨w.heap.size, 1, none⟩ = some (.int .i64 b) := bkeep bx (by first | (simp [go_sem]; done) | simp [go_sem, c1_0_1])
      have c2_0_2 : wx2.cell? ⟨w.heap.size, 2, none⟩ = some (.int .i64 gt) := bkeep bx (by first | (simp [go_sem]; done) | simp [go_sem, c1_0_2])
      have c2_0_3 : wx2.cell? ⟨w.heap.size, 3, none⟩ = some (.string gm) := bkeep bx (by first | (simp [go_sem]; done) | simp [go_sem, c1_0_3])
      have c2_0_4 : wx2.cell? ⟨w.heap.size, 4, none⟩ = some (.string wm) := bkeep bx (by first | (simp [go_sem]; done) | simp [go_sem, c1_0_4])
      have c2_0_5 : wx2.cell? ⟨w.heap.size, 5, none⟩ = some (.int .i64 rs) := bkeep bx (by first | (simp [go_sem]; done) | simp [go_sem, c1_0_5])
      have c2_0_6 : wx2.cell? ⟨w.heap.size, 6, none⟩ = some (.slice x lenx capx) := bkeep bx (by first | (simp [go_sem]; done) | simp [go_sem, c1_0_6])
      have c2_0_7 : wx2.cell? ⟨w.heap.size, 7, none⟩ = some (.slice y leny capy) := bkeep bx (by first | (simp [go_sem]; done) | simp [go_sem, c1_0_7])
      have c2_1_0 : wx2.cell? ⟨w.heap.size + 1, 0, none⟩ = some (.slice ua ul uc) := bkeep bx (by first | (simp [go_sem]; done) | simp [go_sem, c1_1_0])
      have c2_1_1 : wx2.cell? ⟨w.heap.size + 1, 1, none⟩ = some (.slice sa sl sc) := bkeep bx (by first | (simp [go_sem]; done) | simp [go_sem, c1_1_1])
      have c2_1_2 : wx2.cell? ⟨w.heap.size + 1, 2, none⟩ = some (.slice fa fl fc) := bkeep bx (by first | (simp [go_sem]; done) | simp [go_sem, c1_1_2])
      have c2_1_3 : wx2.cell? ⟨w.heap.size + 1, 3, none⟩ = some (.slice ra rl rc) := bkeep bx (by first | (simp [go_sem]; done) | simp [go_sem, c1_1_3])
      have c2_1_4 : wx2.cell? ⟨w.heap.size + 1, 4, none⟩ = some (.int .i64 nx) := bkeep bx (by first | (simp [go_sem]; done) | simp [go_sem, c1_1_4])
      have BX2 : Hid (Below w.heap.size w wx2) := BX1.out.trans (bx.mono (by have := BX1.out.size; simp <;> omega))
      clear bx c1_0_0 c1_0_1 c1_0_2 c1_0_3 c1_0_4 c1_0_5 c1_0_6 c1_0_7 c1_1_0 c1_1_1 c1_1_2 c1_1_3 c1_1_4 BX1
      cases q2 with
      | false =>
        have hv : Hid (z = false) := by show z = false; rw [E.out]; simp
        go_wp2
        go_ret
        exact ⟨by rw [hv.out]; rfl, BX2.out⟩
      | true =>
        go_wp2_with fail
        refine (HS2.out _ (RS.out.keep SeR.kp BX2.out)).mono ?_
        rintro e wx3 ⟨rfl, bx⟩
        have c3_0_0 : wx3.cell? ⟨w.heap.size, 0, none⟩ = some (.int .i64 ip) := bkeep bx (by first | (simp [go_sem]; done) | simp [go_sem, c2_0_0])
        have c3_0_1 : wx3.cell? ⟨w.heap.size, 1, none⟩ = some (.int .i64 b) := bkeep bx (by first | (simp [go_sem]; done) | simp [go_sem, c2_0_1])
        have c3_0_2 : wx3.cell? ⟨w.heap.size, 2, none⟩ = some (.int .i64 gt) := bkeep bx (by first | (simp [go_sem]; done) | simp [go_sem, c2_0_2])
        have c3_0_3 : wx3.cell? ⟨w.heap.size, 3, none⟩ = some (.string gm) := bkeep bx (by first | (simp [go_sem]; done) | simp [go_sem, c2_0_3])
        have c3_0_4 : wx3.cell? ⟨w.heap.size, 4, none⟩ = some (.string wm) := bkeep bx (by first | (simp [go_sem]; done) | simp [go_sem, c2_0_4])
        have c3_0_5 : wx3.cell? ⟨w.heap.size, 5, none⟩ = some (.int .i64 rs) := bkeep bx (by first | (simp [go_sem]; done) | simp [go_sem, c2_0_5])
        have c3_0_6 : wx3.cell? ⟨w.heap.size, 6, none⟩ = some (.slice x lenx capx) := bkeep bx (by first | (simp [go_sem]; done) | simp [go_sem, c2_0_6])
        have c3_0_7 : wx3.cell? ⟨w.heap.size, 7, none⟩ = some (.slice y leny capy) := bkeep bx (by first | (simp [go_sem]; done) | simp [go_sem, c2_0_7])
        have c3_1_0 : wx3.cell? ⟨w.heap.size + 1, 0, none⟩ = some (.slice ua ul uc) := bkeep bx (by first | (simp [go_sem]; done) | simp [go_sem, c2_1_0])
        have c3_1_1 : wx3.cell? ⟨w.heap.size + 1, 1, none⟩ = some (.slice sa sl sc) := bkeep bx (by first | (simp [go_sem]; done) | simp [go_sem, c2_1_1])
        have c3_1_2 : wx3.cell? ⟨w.heap.size + 1, 2, none⟩ = some (.slice fa fl fc) := bkeep bx (by first | (simp [go_sem]; done) | simp [go_sem, c2_1_2])
        have c3_1_3 : wx3.cell? ⟨w.heap.size + 1, 3, none⟩ = some (.slice ra rl rc) := bkeep bx (by first | (simp [go_sem]; done) | simp [go_sem, c2_1_3])
        have c3_1_4 : wx3.cell? ⟨w.heap.size + 1, 4, none⟩ = some (.int .i64 nx) := bkeep bx (by first | (simp [go_sem]; done) | simp [go_sem, c2_1_4])
        have BX3 : Hid (Below w.heap.size w wx3) := BX2.out.trans (bx.mono (by have := BX2.out.size; simp <;> omega))
        clear bx c2_0_0 c2_0_1 c2_0_2 c2_0_3 c2_0_4 c2_0_5 c2_0_6 c2_0_7 c2_1_0 c2_1_1 c2_1_2 c2_1_3 c2_1_4 BX2
        cases q3 with
        | false =>
          have hv : Hid (z = false) := by show z = false; rw [E.out]; simp
          go_wp2
          go_ret
          exact ⟨by rw [hv.out]; rfl, BX3.out⟩
        | true =>
          go_wp2_with fail
          refine (HF.out _ (RF.out.keep FaR.kp BX3.out)).mono ?_
          rintro e wx4 ⟨rfl, bx⟩
          have c4_0_0 : wx4.cell? ⟨w.heap.size, 0, none⟩ = some (.int .i64 ip) := bkeep bx (by first | (simp [go_sem]; done) | simp [go_sem, c3_0_0])
          have c4_0_1 : wx4.cell? ⟨w.heap.size, 1, none⟩ = some (.int .i64 b) := bkeep bx (by first | (simp [go_sem]; done) | simp [go_sem, c3_0_1])
          have c4_0_2 : wx4.cell? ⟨w.heap.size, 2, none⟩ = some (.int .i64 gt) := bkeep bx (by first | (simp [go_sem]; done) | simp [go_sem, c3_0_2])
          have c4_0_3 : wx4.cell? ⟨w.heap.size, 3, none⟩ = some (.string gm) := bkeep bx (by first | (simp [go_sem]; done) | simp [go_sem, c3_0_3])
          have c4_0_4 : wx4.cell? ⟨w.heap.size, 4, none⟩ = some (.string wm) := bkeep bx (by first | (simp [go_sem]; done) | simp [go_sem, c3_0_4])
          have c4_0_5 : wx4.cell? ⟨w.heap.size, 5, none⟩ = some (.int .i64 rs) := bkeep bx (by first | (simp [go_sem]; done) | simp [go_sem, c3_0_5])
          have c4_0_6 : wx4.cell? ⟨w.heap.size, 6, none⟩ = some (.slice x lenx capx) := bkeep bx (by first | (simp [go_sem]; done) | simp [go_sem, c3_0_6])
          have c4_0_7 : wx4.cell? ⟨w.heap.size, 7, none⟩ = some (.slice y leny capy) := bkeep bx (by first | (simp [go_sem]; done) | simp [go_sem, c3_0_7])
          have c4_1_0 : wx4.cell? ⟨w.heap.size + 1, 0, none⟩ = some (.slice ua ul uc) := bkeep bx (by first | (simp [go_sem]; done) | simp [go_sem, c3_1_0])
          have c4_1_1 : wx4.cell? ⟨w.heap.size + 1, 1, none⟩ = some (.slice sa sl sc) := bkeep bx (by first | (simp [go_sem]; done) | simp [go_sem, c3_1_1])
          have c4_1_2 : wx4.cell? ⟨w.heap.size + 1, 2, none⟩ = some (.slice fa fl fc) := bkeep bx (by first | (simp [go_sem]; done) | simp [go_sem, c3_1_2])
          have c4_1_3 : wx4.cell? ⟨w.heap.size + 1, 3, none⟩ = some (.slice ra rl rc) := bkeep bx (by first | (simp [go_sem]; done) | simp [go_sem, c3_1_3])
          have c4_1_4 : wx4.cell? ⟨w.heap.size + 1, 4, none⟩ = some (.int .i64 nx) := bkeep bx (by first | (simp [go_sem]; done) | simp [go_sem, c3_1_4])
          have BX4 : Hid (Below w.heap.size w wx4) := BX3.out.trans (bx.mono (by have := BX3.out.size; simp <;> omega))
          clear bx c3_0_0 c3_0_1 c3_0_2 c3_0_3 c3_0_4 c3_0_5 c3_0_6 c3_0_7 c3_1_0 c3_1_1 c3_1_2 c3_1_3 c3_1_4 BX3
          cases q4 with
          | false =>
            have hv : Hid (z = false) := by show z = false; rw [E.out]; simp
            go_wp2
            go_ret
            exact ⟨by rw [hv.out]; rfl, BX4.out⟩
          | true =>
            go_wp2_with fail
            refine (HR2.out _ (RR.out.keep ReR.kp BX4.out)).mono ?_
            rintro e wx5 ⟨rfl, bx⟩
            have c5_0_0 : wx5.cell? ⟨w.heap.size, 0, none⟩ = some (.int .i64 ip) := bkeep bx (by first | (simp [go_sem]; done) | simp [go_sem, c4_0_0])
            have c5_0_1 : wx5.cell? ⟨w.heap.size, 1, none⟩ = some (.int .i64 b) := bkeep bx (by first | (simp [go_sem]; done) | simp [go_sem, c4_0_1])
            have c5_0_2 : wx5.cell? ⟨w.heap.size, 2, none⟩ = some (.int .i64 gt) := bkeep bx (by first | (simp [go_sem]; done) | simp [go_sem, c4_0_2])
            have c5_0_3 : wx5.cell? ⟨w.heap.size, 3, none⟩ = some (.string gm) := bkeep bx (by first | (simp [go_sem]; done) | simp [go_sem, c4_0_3])
            have c5_0_4 : wx5.cell? ⟨w.heap.size, 4, none⟩ = some (.string wm) := bkeep bx (by first | (simp [go_sem]; done) | simp [go_sem, c4_0_4])
            have c5_0_5 : wx5.cell? ⟨w.heap.size, 5, none⟩ = some (.int .i64 rs) := bkeep bx (by first | (simp [go_sem]; done) | simp [go_sem, c4_0_5])
            have c5_0_6 : wx5.cell? ⟨w.heap.size, 6, none⟩ = some (.slice x lenx capx) := bkeep bx (by first | (simp [go_sem]; done) | simp [go_sem, c4_0_6])
            have c5_0_7 : wx5.cell? ⟨w.heap.size, 7, none⟩ = some (.slice y leny capy) := bkeep bx (by first | (simp [go_sem]; done) | simp [go_sem, c4_0_7])
            have c5_1_0 : wx5.cell? ⟨w.heap.size + 1, 0, none⟩ = some (.slice ua ul uc) := bkeep bx (by first | (simp [go_sem]; done) | simp [go_sem, c4_1_0])
            have c5_1_1 : wx5.cell? ⟨w.heap.size + 1, 1, none⟩ = some (.slice sa sl sc) := bkeep bx (by first | (simp [go_sem]; done) | simp [go_sem, c4_1_1])
            have c5_1_2 : wx5.cell? ⟨w.heap.size + 1, 2, none⟩ = some (.slice fa fl fc) := bkeep bx (by first | (simp [go_sem]; done) | simp [go_sem, c4_1_2])
            have c5_1_3 : wx5.cell? ⟨w.heap.size + 1, 3, none⟩ = some (.slice ra rl rc) := bkeep bx (by first | (simp [go_sem]; done) | simp [go_sem, c4_1_3])
            have c5_1_4 : wx5.cell? ⟨w.heap.size + 1, 4, none⟩ = some (.int .i64 nx) := bkeep bx (by first | (simp [go_sem]; done) | simp [go_sem, c4_1_4])
            have BX5 : Hid (Below w.heap.size w wx5) := BX4.out.trans (bx.mono (by have := BX4.out.size; simp <;> omega))
            clear bx c4_0_0 c4_0_1 c4_0_2 c4_0_3 c4_0_4 c4_0_5 c4_0_6 c4_0_7 c4_1_0 c4_1_1 c4_1_2 c4_1_3 c4_1_4 BX4
            have hv : Hid (z = q5) := by show z = q5; rw [E.out]; simp
            go_wp2
            go_ret
            exact ⟨by rw [hv.out]; rfl, BX5.out⟩
end Go.Proofs.YtnlepjcjakghcaaGreatDoor
