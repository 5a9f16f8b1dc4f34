/- l08Session, l13Conns and GatewayOK of the model. -/
import Derived.Test.YtlebblmlbhnppaaGreatJ37
import Derived.Test.YtlebblmlbhnppaaGreatGokS
import Derived.Test.YtlebblmlbhnppaaGreatJ45
import Derived.Test.YtlebblmlbhnppaaGreatJ46
import Derived.Test.YtlebblmlbhnppaaGreatJ34
namespace Go.Proofs.YtlebblmlbhnppaaGreat
open Go.RowKit Go.PlainAid Go.Proofs.YtlebblmlbhnppaaGreat.Bt Go.Sort
set_option linter.unusedVariables false
set_option maxRecDepth 20000
set_option maxHeartbeats 2000000 in
theorem l08Session_any (A : GtA) (g : GtV) (q : Int) (w : World) (h : Rw SeR 10 w A.sa g.ss) (hn : g.ss.length ≤ 1048576) :
    Calls Tryz.prog 78 #[.agg #[.slice A.ua g.us.length A.uc, .slice A.sa g.ss.length A.sc, .slice A.fa g.fs.length A.fc, .slice A.ra g.es.length A.rc, .int .i64 g.nx], .int .i64 q] w fun e w' => e = .returned (.int .i64 (ixI (siP q) g.ss)) ∧ Grw w w' := by
  obtain ⟨a, ha⟩ : ∃ a, A.sa = a := ⟨_, rfl⟩
  rw [ha] at h ⊢
  have RY : Hid (Rw SeR 10 w a g.ss) := h
  clear h
  obtain ⟨n, hl⟩ : ∃ n, g.ss.length = n := ⟨_, rfl⟩
  rw [hl] at hn ⊢
  generalize g.ss = xs at *
  go_enter Tryz.func78, Tryz.ntmps78
  go_wp2
  go_loopw [5] (fun u wr => ∃ k : Nat, k ≤ n ∧ u = .int .i64 k ∧ Hid ((xs.take k).find? (siP q) = none) ∧ Hid (Grw w wr) ∧ Hid (wr.cell? ⟨w.heap.size, 1, none⟩ = some (.slice a n A.sc))) (fun u _ => n - (intOf u).toNat)
  case atStart => exact ⟨0, Nat.zero_le _, rfl, rfl, (Grw.refl _).alloc _, by show _ = _; simp [go_sem]⟩
  case round =>
    obtain ⟨k, hk, rfl, HO, HG, HC⟩ := hrel
    have hc1 := HC.out
    by_cases hlt : k < n
    · obtain ⟨z, hx⟩ := at_of hl hlt
      obtain ⟨bk, off, vs, rfl, hb, hvl, hR, hc⟩ := RY.out.at SeR.kp HG.out.below hx
      have HY : Hid (siP q z = true → ixI (siP q) xs = k) := fun h => ixI_at hx HO.out h
      have HN : Hid (siP q z = false → (xs.take (k + 1)).find? (siP q) = none) := fun h => ixI_no hx HO.out h
      obtain ⟨rfl, -⟩ := hR
      have q0 : wr.cell? ⟨bk, off + k * 10, none⟩ = some (.int .i64 z.id) := hc 0 _ rfl
      have hltz : (k : Int) < (n : Int) := by omega
      unfold siP at HY HN
      obtain ⟨u, hu⟩ : ∃ u, (z.id == q) = u := ⟨_, rfl⟩
      rw [hu] at HY HN
      clear hc hvl hx
      cases u with
      | false =>
        have HN' : Hid ((xs.take (k + 1)).find? (fun s => s.id == q) = none) := HN.out rfl
        clear HY HN
        go_wp2
        go_roundw
        case rel => exact ⟨k + 1, by omega, by go_num, HN', HG, HC⟩
        case measure => simp [intOf]; omega
      | true =>
        have HY' : Hid (ixI (fun s => s.id == q) xs = k) := HY.out rfl
        clear HY HN
        go_wp2
        go_ret
        exact ⟨by rw [show ixI (siP q) xs = k from HY'.out]; rfl, HG.out⟩
    · obtain rfl : k = n := by omega
      have hd : Hid (ixI (siP q) xs = -1) := ixI_end hl HO.out
      go_wp2
      go_ret
      exact ⟨by rw [hd.out]; rfl, HG.out⟩
set_option maxHeartbeats 8000000 in
theorem l13Conns_any (a : Option Addr) (n c : Nat) (co : List ConnV) (w : World) (h : Rw CnR 11 w a co) (hl : co.length = n) (hn : n ≤ 1048576) (hsz : ∀ x, x ∈ co → (x.mc.size : Int) ≤ 1048576 ∧ (x.inn.size : Int) ≤ 1048576 ∧ (x.out.size : Int) ≤ 1048576) :
    Calls Tryz.prog 75 #[.slice a n c] w fun e w' => e = .returned (.bool (cnB co)) ∧ Grw w w' := by
  have RW : Hid (Rw CnR 11 w a co) := h
  have SZ : Hid (∀ x, x ∈ co → (x.mc.size : Int) ≤ 1048576 ∧ (x.inn.size : Int) ≤ 1048576 ∧ (x.out.size : Int) ≤ 1048576) := hsz
  have hmix : Tryz.prog.follows .mixedOrders = true := by kernel_rfl
  clear h hsz
  go_enter Tryz.func75, Tryz.ntmps75
  go_wp2
  go_loopw [3] (fun x wr => ∃ i : Nat, i ≤ n ∧ x = .int .i64 i ∧ Hid (cnOk co i) ∧ Hid (Grw w wr)) (fun x _ => n - (intOf x).toNat)
  case atStart => exact ⟨0, Nat.zero_le _, rfl, cnOk_zero co, Grw.refl _⟩
  case round =>
    obtain ⟨i, hi, rfl, HO, HG⟩ := hrel
    by_cases hlt : i < n
    · obtain ⟨x, hx⟩ := at_of hl hlt
      have hiz : (i : Int) < (n : Int) := by omega
      obtain ⟨b, off, vs, rfl, hb, hvl, hR, hc⟩ := RW.out.at FR.kp HG.out.below hx
      have SX := SZ.out _ (List.mem_of_getElem? hx)
      have HN : Hid (cnAt co i x = false → cnB co = false) := fun h => cnB_no hx h
      have HY : Hid (cnAt co i x = true → cnOk co (i + 1)) := fun h => cnOk_step HO.out hx h
      obtain ⟨mc, ip, po, di, st, un, nx, wa, inn, out, fin⟩ := x
      obtain ⟨rfl, hok⟩ := hR
      have E : Hid (cnAt co i ⟨mc, ip, po, di, st, un, nx, wa, inn, out, fin⟩ = (okB ⟨mc, ip, po, di, st, un, nx, wa, inn, out, fin⟩ && (!(st == 4) && !((co.take i).any (cnP ip po di))))) := rfl
      rw [E.out] at HN HY
      clear E
      have q0 : wr.cell? ⟨b, off + i * 11, none⟩ = some (.string mc) := hc 0 _ rfl
      have q1 : wr.cell? ⟨b, off + i * 11 + 1, none⟩ = some (.int .i64 ip) := hc 1 _ rfl
      have q2 : wr.cell? ⟨b, off + i * 11 + 2, none⟩ = some (.int .i64 po) := hc 2 _ rfl
      have q3 : wr.cell? ⟨b, off + i * 11 + 3, none⟩ = some (.int .i64 di) := hc 3 _ rfl
      have q4 : wr.cell? ⟨b, off + i * 11 + 4, none⟩ = some (.int .i64 st) := hc 4 _ rfl
      have q5 : wr.cell? ⟨b, off + i * 11 + 5, none⟩ = some (.int .i64 un) := hc 5 _ rfl
      have q6 : wr.cell? ⟨b, off + i * 11 + 6, none⟩ = some (.int .i64 nx) := hc 6 _ rfl
      have q7 : wr.cell? ⟨b, off + i * 11 + 7, none⟩ = some (.int .i64 wa) := hc 7 _ rfl
      have q8 : wr.cell? ⟨b, off + i * 11 + 8, none⟩ = some (.string inn) := hc 8 _ rfl
      have q9 : wr.cell? ⟨b, off + i * 11 + 9, none⟩ = some (.string out) := hc 9 _ rfl
      have q10 : wr.cell? ⟨b, off + i * 11 + 10, none⟩ = some (.bool fin) := hc 10 _ rfl
      clear hc hvl hok
      have HF : Hid (∀ w, Calls Tryz.prog 151 #[.agg #[.string mc, .int .i64 ip, .int .i64 po, .int .i64 di, .int .i64 st, .int .i64 un, .int .i64 nx, .int .i64 wa, .string inn, .string out, .bool fin]] w fun e w' => e = .returned (.bool (okB ⟨mc, ip, po, di, st, un, nx, wa, inn, out, fin⟩)) ∧ Grw w w') := fun w => specConOK_any mc ip po di st un nx wa inn out fin w (by have := SX.1; dsimp only at this; omega) (by have := SX.2.1; dsimp only at this; omega) (by have := SX.2.2; dsimp only at this; omega)
      clear SX hx HO
      generalize okB ⟨mc, ip, po, di, st, un, nx, wa, inn, out, fin⟩ = z1 at HF HN HY
      cases z1 with
      | false =>
        have hd : Hid (cnB co = false) := HN.out rfl
        clear HN HY
        go_wp2_with fail
        refine (HF.out _).mono ?_
        rintro e w2 ⟨rfl, g2⟩
        have HG2 : Hid (Grw w w2) := (HG.out.alloc _).trans g2
        clear g2 HG
        go_wp2
        go_ret
        exact ⟨by rw [hd.out]; rfl, HG2.out⟩
      | true =>
        go_wp2_with fail
        refine (HF.out _).mono ?_
        rintro e w2 ⟨rfl, g2⟩
        have HG2 : Hid (Grw w w2) := (HG.out.alloc _).trans g2
        have k0 : w2.cell? ⟨wr.heap.size, 0, none⟩ = some (.string mc) := g2.keep (by simp)
        have k1 : w2.cell? ⟨wr.heap.size, 1, none⟩ = some (.int .i64 ip) := g2.keep (by simp)
        have k2 : w2.cell? ⟨wr.heap.size, 2, none⟩ = some (.int .i64 po) := g2.keep (by simp)
        have k3 : w2.cell? ⟨wr.heap.size, 3, none⟩ = some (.int .i64 di) := g2.keep (by simp)
        have k4 : w2.cell? ⟨wr.heap.size, 4, none⟩ = some (.int .i64 st) := g2.keep (by simp)
        have k5 : w2.cell? ⟨wr.heap.size, 5, none⟩ = some (.int .i64 un) := g2.keep (by simp)
        have k6 : w2.cell? ⟨wr.heap.size, 6, none⟩ = some (.int .i64 nx) := g2.keep (by simp)
        have k7 : w2.cell? ⟨wr.heap.size, 7, none⟩ = some (.int .i64 wa) := g2.keep (by simp)
        have k8 : w2.cell? ⟨wr.heap.size, 8, none⟩ = some (.string inn) := g2.keep (by simp)
        have k9 : w2.cell? ⟨wr.heap.size, 9, none⟩ = some (.string out) := g2.keep (by simp)
        have k10 : w2.cell? ⟨wr.heap.size, 10, none⟩ = some (.bool fin) := g2.keep (by simp)
        have hB0 : wr.heap.size < w2.heap.size := World.block_lt_of_cell? w2 _ k0
        clear g2 HG HF q0 q1 q2 q3 q4 q5 q6 q7 q8 q9 q10
        by_cases h4 : st = 4
        · have h4z : (st == 4) = true := by simp [h4]
          rw [h4z] at HN
          have hd : Hid (cnB co = false) := HN.out rfl
          clear HN HY h4
          go_wp2
          go_ret
          exact ⟨by rw [hd.out]; rfl, HG2.out⟩
        have h4z : (st == 4) = false := by simp [h4]
        rw [h4z] at HN HY
        clear h4
        go_wp2
        generalize wr.heap.size = B0 at k0 k1 k2 k3 k4 k5 k6 k7 k8 k9 k10 hB0 ⊢
        clear wr
        go_loopw [5] (fun y wr2 => ∃ k : Nat, k ≤ i ∧ y = .int .i64 k ∧ Hid ((co.take k).any (cnP ip po di) = false) ∧ Hid (Grw w2 wr2)) (fun y _ => i - (intOf y).toNat)
        case atStart => exact ⟨0, Nat.zero_le _, rfl, by show _ = _; simp, Grw.refl _⟩
        case round =>
          obtain ⟨k, hk, rfl, HB, HG3⟩ := hrel
          by_cases hki : k < i
          · obtain ⟨y, hy⟩ := at_of (k := k) hl (by omega)
            have hkz : (k : Int) < (i : Int) := by omega
            have hkl : (k : Int) < (n : Int) := by omega
            obtain ⟨b', off', vs', e', hb', hvl', hR', hc'⟩ := RW.out.at FR.kp (HG2.out.trans HG3.out).below hy
            cases e'
            have hbz : b < wr.heap.size := Nat.lt_of_lt_of_le hb' (HG2.out.trans HG3.out).below.size
            have hBz : B0 < wr.heap.size := Nat.lt_of_lt_of_le hB0 HG3.out.below.size
            have hstep := any_take_step (p := cnP ip po di) hy
            rw [HB.out, Bool.false_or] at hstep
            have HYS : Hid ((co.take i).any (cnP ip po di) = false → cnP ip po di y = false) := fun h => by
              rw [List.any_eq_false] at h
              have := h y (by rw [List.mem_iff_getElem?]; exact ⟨k, by rw [List.getElem?_take, if_pos hki]; exact hy⟩)
              simpa using this
            have HST : Hid ((co.take (k + 1)).any (cnP ip po di) = cnP ip po di y) := hstep
            clear hstep hy hvl' hb'
            obtain ⟨rfl, -⟩ := hR'
            have p1 : ∀ n os, (grow (wr.drewN n) os).cell? ⟨b, off + k * 11 + 1, none⟩ = some (.int .i64 y.ip) := fun n os => cell_grown hbz (hc' 1 _ rfl) n os
            have p2 : ∀ n os, (grow (wr.drewN n) os).cell? ⟨b, off + k * 11 + 2, none⟩ = some (.int .i64 y.po) := fun n os => cell_grown hbz (hc' 2 _ rfl) n os
            have p3 : ∀ n os, (grow (wr.drewN n) os).cell? ⟨b, off + k * 11 + 3, none⟩ = some (.int .i64 y.di) := fun n os => cell_grown hbz (hc' 3 _ rfl) n os
            have m1 : ∀ n os, (grow (wr.drewN n) os).cell? ⟨B0, 1, none⟩ = some (.int .i64 ip) := fun n os => cell_grown hBz (HG3.out.keep k1) n os
            have m2 : ∀ n os, (grow (wr.drewN n) os).cell? ⟨B0, 2, none⟩ = some (.int .i64 po) := fun n os => cell_grown hBz (HG3.out.keep k2) n os
            have m3 : ∀ n os, (grow (wr.drewN n) os).cell? ⟨B0, 3, none⟩ = some (.int .i64 di) := fun n os => cell_grown hBz (HG3.out.keep k3) n os
            have E : Hid (cnP ip po di y = ((y.ip == ip) && ((y.po == po) && (y.di == di)))) := rfl
            rw [E.out] at HYS HST
            clear hc' E
            obtain ⟨u0, hu0⟩ : ∃ u, (y.ip == ip) = u := ⟨_, rfl⟩
            obtain ⟨u1, hu1⟩ : ∃ u, (y.po == po) = u := ⟨_, rfl⟩
            obtain ⟨u2, hu2⟩ : ∃ u, (y.di == di) = u := ⟨_, rfl⟩
            rw [hu0, hu1, hu2] at HYS HST
            by_cases hall : (u0 && (u1 && u2)) = true
            · obtain rfl : u0 = true := by revert hall; cases u0 <;> simp
              obtain rfl : u1 = true := by revert hall; cases u1 <;> simp
              obtain rfl : u2 = true := by revert hall; cases u2 <;> simp
              have hd : Hid (cnB co = false) := HN.out (by
                cases hq : (co.take i).any (cnP ip po di) with
                | true => rfl
                | false => have := HYS.out hq; simp at this)
              clear HN HY HYS HST HB hall
              go_wp2_with fail
              refine wp_region_quiet_grown (by assumption) (by kernel_rfl) ?_
              repeat (go_big_quiet_step (first | fail | fail))
              refine wpQuiet_nil ?_
              intro _ hw'
              obtain ⟨⟨nq, osq⟩, hw''⟩ := hw'
              subst hw''
              go_wp2
              go_ret
              exact ⟨by rw [hd.out]; rfl, (HG2.out.trans HG3.out).trans ⟨nq, osq, rfl⟩⟩
            · have HB2 : Hid ((co.take (k + 1)).any (cnP ip po di) = false) := by show _ = _; rw [HST.out]; simpa using hall
              clear HYS HST HB
              cases u0 with
              | false =>
                go_wp2_with fail
                refine wp_region_quiet_grown (by assumption) (by kernel_rfl) ?_
                repeat (go_big_quiet_step (first | fail | fail))
                refine wpQuiet_nil ?_
                intro _ hw'
                obtain ⟨⟨nq, osq⟩, hw''⟩ := hw'
                subst hw''
                have HG4 : Hid (Grw w2 (grow (wr.drewN nq) osq)) := HG3.out.trans ⟨nq, osq, rfl⟩
                clear HG3 p1 p2 p3 m1 m2 m3
                go_wp2
                go_roundw
                case rel => exact ⟨k + 1, by omega, by go_num, HB2, HG4⟩
                case measure => simp [intOf]; omega
              | true =>
                cases u1 with
                | false =>
                  go_wp2_with fail
                  refine wp_region_quiet_grown (by assumption) (by kernel_rfl) ?_
                  repeat (go_big_quiet_step (first | fail | fail))
                  refine wpQuiet_nil ?_
                  intro _ hw'
                  obtain ⟨⟨nq, osq⟩, hw''⟩ := hw'
                  subst hw''
                  have HG4 : Hid (Grw w2 (grow (wr.drewN nq) osq)) := HG3.out.trans ⟨nq, osq, rfl⟩
                  clear HG3 p1 p2 p3 m1 m2 m3
                  go_wp2
                  go_roundw
                  case rel => exact ⟨k + 1, by omega, by go_num, HB2, HG4⟩
                  case measure => simp [intOf]; omega
                | true =>
                  obtain rfl : u2 = false := by revert hall; cases u2 <;> simp
                  go_wp2_with fail
                  refine wp_region_quiet_grown (by assumption) (by kernel_rfl) ?_
                  repeat (go_big_quiet_step (first | fail | fail))
                  refine wpQuiet_nil ?_
                  intro _ hw'
                  obtain ⟨⟨nq, osq⟩, hw''⟩ := hw'
                  subst hw''
                  have HG4 : Hid (Grw w2 (grow (wr.drewN nq) osq)) := HG3.out.trans ⟨nq, osq, rfl⟩
                  clear HG3 p1 p2 p3 m1 m2 m3
                  go_wp2
                  go_roundw
                  case rel => exact ⟨k + 1, by omega, by go_num, HB2, HG4⟩
                  case measure => simp [intOf]; omega
          · obtain rfl : k = i := by omega
            have HO2 : Hid (cnOk co (k + 1)) := HY.out (by rw [HB.out]; rfl)
            have HG4 : Hid (Grw w wr) := HG2.out.trans HG3.out
            clear HN HY HG2 HG3 k0 k1 k2 k3 k4 k5 k6 k7 k8 k9 k10
            go_wp2
            go_roundw
            case rel => exact ⟨k + 1, by omega, by go_num, HO2, HG4⟩
            case measure => simp [intOf]; omega
    · obtain rfl : i = n := by omega
      have hd : Hid (cnB co = decide ((i : Int) ≤ 3)) := cnB_of hl HO.out
      clear HO
      go_wp2
      go_ret
      exact ⟨by rw [hd.out]; rfl, HG.out⟩
end Go.Proofs.YtlebblmlbhnppaaGreat
