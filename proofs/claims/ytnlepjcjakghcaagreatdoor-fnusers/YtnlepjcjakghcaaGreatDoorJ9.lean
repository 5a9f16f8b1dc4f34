/- Configurations: gardenOK, rolesOK, ConfigOK, the program's and the model's. -/
import Derived.Test.YtnlepjcjakghcaaGreatDoorJ8
import Derived.Laws.Cover1
namespace Go.Proofs.YtnlepjcjakghcaaGreatDoor
open Go.RowKit Go.PlainAid Go.Proofs.YtnlepjcjakghcaaGreatDoor.Bt Go.Sort
set_option linter.unusedVariables false
set_option maxRecDepth 20000

/-- A place; the roles, rising by their names. -/
def plv (p : PlaceV) : Bool := plB p.ip p.b p.lo p.hi
def ltS (x y : ByteArray) : Bool := Op.bytesLess x.toList y.toList
def okAt (ros : List RoleV) (k : Nat) : Bool := match ros[k]? with
  | some r => roB r && (dec (k = 0) || (match ros[k - 1]? with | some r' => ltS r'.nm r.nm | none => false))
  | none => true
def rolesB (ros : List RoleV) : Bool := (List.range ros.length).all (okAt ros)
theorem okAt_zero {ros : List RoleV} {r : RoleV} (h : ros[0]? = some r) : okAt ros 0 = roB r := by
  unfold okAt
  rw [h]
  simp [dec]
theorem okAt_succ {ros : List RoleV} {j : Nat} {r r' : RoleV} (h : ros[j + 1]? = some r) (h' : ros[j]? = some r') : okAt ros (j + 1) = (roB r && ltS r'.nm r.nm) := by
  unfold okAt
  rw [h]
  simp [dec, h']
theorem rng_step {f : Nat → Bool} {k : Nat} (h : (List.range k).all f = true) (hf : f k = true) : (List.range (k + 1)).all f = true := by
  rw [List.range_succ, List.all_append, h]
  simp [hf]
theorem rng_no {f : Nat → Bool} {n k : Nat} (hk : k < n) (hf : f k = false) : (List.range n).all f = false := by
  rw [List.all_eq_false]
  exact ⟨k, by simpa using hk, by simp [hf]⟩
/-- What the numbers of a list of roles allow. -/
def SzR (ros : List RoleV) : Prop := ∀ r ∈ ros, r.nm.size ≤ 1048576 ∧ r.rs.length ≤ 1048576
def confB (ip b gt : Int) (gm wm : ByteArray) (rs : Int) (ps : List PlaceV) (ros : List RoleV) : Bool :=
  nB ip b && (dec (0 ≤ gt ∧ gt ≤ 4294967295) && (hB ip b gt && (dec (gm.size = 6) && (dec (wm.size = 6) && (dec (0 ≤ rs ∧ rs ≤ 4294967295) && (!hB ip b rs && (dec (ps.length ≤ 8) && (dec (1 ≤ ros.length ∧ ros.length ≤ 4) && (ps.all plv && rolesB ros)))))))))

theorem isMac_any (s : ByteArray) (w : World) : Calls Tryz.prog 22 #[.string s] w fun e w' => e = .returned (.bool (dec (s.size = 6))) ∧ w' = w := by
  by_cases h : s.size = 6
  · rw [dec_y h]
    have hz : ((s.size : Int) == 6) = true := by simp; omega
    go_enter Tryz.func22, Tryz.ntmps22
    go_wp2
    go_ret
    exact ⟨rfl, rfl⟩
  · rw [dec_n h]
    have hz : ((s.size : Int) == 6) = false := by simp; omega
    go_enter Tryz.func22, Tryz.ntmps22
    go_wp2
    go_ret
    exact ⟨rfl, rfl⟩

set_option maxHeartbeats 2000000 in
theorem gardenOK_any (a : Option Addr) (len cap : Nat) (ps : List PlaceV) (w : World) (h : Rw PlR 4 w a ps) (hl : ps.length = len) :
    Calls Tryz.prog 88 #[.slice a len cap] w fun e w' => e = .returned (.bool (dec (ps.length ≤ 8) && ps.all plv)) ∧ Grw w w' := by
  have RW : Hid (Rw PlR 4 w a ps) := h
  clear h
  by_cases h8 : ps.length ≤ 8
  rotate_left
  · rw [dec_n h8, Bool.false_and]
    have h8z : (8 : Int) < (len : Int) := by omega
    go_enter Tryz.func88, Tryz.ntmps88
    go_wp2
    go_ret
    exact ⟨rfl, Grw.refl _⟩
  rw [dec_y h8, Bool.true_and]
  have h8z : (len : Int) ≤ 8 := by omega
  go_enter Tryz.func88, Tryz.ntmps88
  go_wp2
  go_loopw [10] (fun x wr => ∃ k : Nat, k ≤ len ∧ x = .int .i64 k ∧ Hid ((ps.take k).all plv = true) ∧ Hid (Grw w wr)) (fun x _ => len - (intOf x).toNat)
  case atStart => exact ⟨0, Nat.zero_le _, rfl, rfl, Grw.refl _⟩
  case round =>
    obtain ⟨k, hk, rfl, HO, HG⟩ := hrel
    by_cases hlt : k < len
    · obtain ⟨x, hx⟩ := at_of hl hlt
      obtain ⟨b, off, vs, rfl, hb, hvl, hR, hc⟩ := RW.out.at PlR.kp HG.out.below hx
      obtain ⟨ip, bb, lo, hi⟩ := x
      obtain ⟨rfl, hlo, hhi⟩ := hR
      have q0 : wr.cell? ⟨b, off + k * 4, none⟩ = some (.int .i64 ip) := hc 0 _ rfl
      have q1 : wr.cell? ⟨b, off + k * 4 + 1, none⟩ = some (.int .i64 bb) := hc 1 _ rfl
      have q2 : wr.cell? ⟨b, off + k * 4 + 2, none⟩ = some (.int .i64 lo) := hc 2 _ rfl
      have q3 : wr.cell? ⟨b, off + k * 4 + 3, none⟩ = some (.int .i64 hi) := hc 3 _ rfl
      have HN : Hid (∀ w, Calls Tryz.prog 100 #[.agg #[.int .i64 ip, .int .i64 bb, .int .i64 lo, .int .i64 hi]] w fun e w' => e = .returned (.bool (plv ⟨ip, bb, lo, hi⟩)) ∧ Grw w w') := fun w => placeOK_any ip bb lo hi w hlo hhi
      have HS : Hid (plv ⟨ip, bb, lo, hi⟩ = true → (ps.take (k + 1)).all plv = true) := fun h => all_step2 hx HO.out h
      have HF : Hid (plv ⟨ip, bb, lo, hi⟩ = false → ps.all plv = false) := fun h => all_no hx h
      generalize plv ⟨ip, bb, lo, hi⟩ = r at HN HS HF
      have hltz : (k : Int) < (len : Int) := by omega
      clear hc hvl hx
      go_wp2_with fail
      refine (HN.out _).mono ?_
      rintro e w1 ⟨rfl, g1⟩
      have HG1 : Hid (Grw w w1) := (HG.out.alloc _).trans g1
      clear q0 q1 q2 q3 HN g1 HG
      cases r with
      | true =>
        have HS' : Hid ((ps.take (k + 1)).all plv = true) := HS.out rfl
        clear HS HF
        go_wp2
        go_roundw
        case rel => exact ⟨k + 1, by omega, by go_num, HS', HG1⟩
        case measure => simp [intOf]; omega
      | false =>
        have hd : Hid (ps.all plv = false) := HF.out rfl
        go_wp2
        go_ret
        exact ⟨by rw [hd.out]; rfl, HG1.out⟩
    · obtain rfl : k = len := by omega
      have hd : Hid (ps.all plv = true) := all_end hl HO.out
      go_wp2
      go_ret
      exact ⟨by rw [hd.out]; rfl, HG.out⟩

set_option maxHeartbeats 4000000 in
theorem rolesOK_any (a : Option Addr) (len cap : Nat) (ros : List RoleV) (w : World) (h : Rw (RoR 0) 5 w a ros) (hl : ros.length = len) (hsz : SzR ros) :
    Calls Tryz.prog 89 #[.slice a len cap] w fun e w' => e = .returned (.bool (dec (1 ≤ ros.length ∧ ros.length ≤ 4) && rolesB ros)) ∧ Grw w w' := by
  have RW : Hid (Rw (RoR 0) 5 w a ros) := h
  have SZ : Hid (SzR ros) := hsz
  clear h hsz
  by_cases h4 : 1 ≤ ros.length ∧ ros.length ≤ 4
  rotate_left
  · rw [dec_n h4, Bool.false_and]
    by_cases h1 : len < 1
    · have h1z : (len : Int) < 1 := by omega
      go_enter Tryz.func89, Tryz.ntmps89
      go_wp2
      go_ret
      exact ⟨rfl, Grw.refl _⟩
    · have h1z : ¬ (len : Int) < 1 := by omega
      have h4z : (4 : Int) < (len : Int) := by omega
      go_enter Tryz.func89, Tryz.ntmps89
      go_wp2
      go_ret
      exact ⟨rfl, Grw.refl _⟩
  rw [dec_y h4, Bool.true_and]
  have h1z : ¬ (len : Int) < 1 := by omega
  have h4z : (len : Int) ≤ 4 := by omega
  go_enter Tryz.func89, Tryz.ntmps89
  go_wp2
  go_loopw [15] (fun x wr => ∃ k : Nat, k ≤ len ∧ x = .int .i64 k ∧ Hid ((List.range k).all (okAt ros) = true) ∧ Hid (Grw w wr)) (fun x _ => len - (intOf x).toNat)
  case atStart => exact ⟨0, Nat.zero_le _, rfl, rfl, Grw.refl _⟩
  case round =>
    obtain ⟨k, hk, rfl, HO, HG⟩ := hrel
    have GG := HG.out.below
    by_cases hlt : k < len
    · obtain ⟨x, hx⟩ := at_of hl hlt
      obtain ⟨b, off, vs, rfl, hb, hvl, hR, hc⟩ := RW.out.at (RoR.kp 0) GG hx
      obtain ⟨nm, rrs, rq, rm, ri⟩ := x
      obtain ⟨ra, rc, rfl, hnm, hrc, hrm, hRR, -⟩ := hR
      have hsz := SZ.out _ (List.mem_of_getElem? hx)
      have q0 : wr.cell? ⟨b, off + k * 5, none⟩ = some (.string nm) := hc 0 _ rfl
      have q1 : wr.cell? ⟨b, off + k * 5 + 1, none⟩ = some (.slice ra rrs.length rc) := hc 1 _ rfl
      have q2 : wr.cell? ⟨b, off + k * 5 + 2, none⟩ = some (.int .i64 rq) := hc 2 _ rfl
      have q3 : wr.cell? ⟨b, off + k * 5 + 3, none⟩ = some (.int .i64 rm) := hc 3 _ rfl
      have q4 : wr.cell? ⟨b, off + k * 5 + 4, none⟩ = some (.int .i64 ri) := hc 4 _ rfl
      have hRx : Hid (∀ w', Grw wr w' → Rw RuR 6 w' ra rrs) := fun w' g => hRR.keep RuR.kp g.below
      have HN : Hid (∀ w, Rw RuR 6 w ra rrs → Calls Tryz.prog 101 #[.agg #[.string nm, .slice ra rrs.length rc, .int .i64 rq, .int .i64 rm, .int .i64 ri]] w fun e w' => e = .returned (.bool (roB ⟨nm, rrs, rq, rm, ri⟩)) ∧ Grw w w') := fun w h => implRoleOK_any nm rrs rq rm ri ra _ rc w hsz.1 h rfl hsz.2
      have hltz : (k : Int) < (len : Int) := by omega
      have HS : Hid (okAt ros k = true → (List.range (k + 1)).all (okAt ros) = true) := fun h => rng_step HO.out h
      have HF : Hid (okAt ros k = false → rolesB ros = false) := fun h => rng_no (by omega) h
      by_cases hk0 : k = 0
      · have eo : okAt ros k = roB ⟨nm, rrs, rq, rm, ri⟩ := by subst hk0; exact okAt_zero hx
        have hkz : ¬ (0 : Int) < (k : Int) := by omega
        have hkd : decide (0 < k) = false := decide_eq_false (by omega)
        clear hk0
        rw [eo] at HS HF
        generalize roB ⟨nm, rrs, rq, rm, ri⟩ = r at HN HS HF
        clear hc hvl hx eo
        have y0 : ∀ n os, (grow (World.drewN (wr.alloc (.cells #[.string nm, .slice ra rrs.length rc, .int .i64 rq, .int .i64 rm, .int .i64 ri] 87)) n) os).cell? ⟨wr.heap.size, 0, none⟩ = some (.string nm) := fun n os => cell_grown (by simp) (by simp) n os
        have y1 : ∀ n os, (grow (World.drewN (wr.alloc (.cells #[.string nm, .slice ra rrs.length rc, .int .i64 rq, .int .i64 rm, .int .i64 ri] 87)) n) os).cell? ⟨wr.heap.size, 1, none⟩ = some (.slice ra rrs.length rc) := fun n os => cell_grown (by simp) (by simp) n os
        have y2 : ∀ n os, (grow (World.drewN (wr.alloc (.cells #[.string nm, .slice ra rrs.length rc, .int .i64 rq, .int .i64 rm, .int .i64 ri] 87)) n) os).cell? ⟨wr.heap.size, 2, none⟩ = some (.int .i64 rq) := fun n os => cell_grown (by simp) (by simp) n os
        have y3 : ∀ n os, (grow (World.drewN (wr.alloc (.cells #[.string nm, .slice ra rrs.length rc, .int .i64 rq, .int .i64 rm, .int .i64 ri] 87)) n) os).cell? ⟨wr.heap.size, 3, none⟩ = some (.int .i64 rm) := fun n os => cell_grown (by simp) (by simp) n os
        have y4 : ∀ n os, (grow (World.drewN (wr.alloc (.cells #[.string nm, .slice ra rrs.length rc, .int .i64 rq, .int .i64 rm, .int .i64 ri] 87)) n) os).cell? ⟨wr.heap.size, 4, none⟩ = some (.int .i64 ri) := fun n os => cell_grown (by simp) (by simp) n os
        have YR : Hid (∀ n os, Rw RuR 6 (grow (World.drewN (wr.alloc (.cells #[.string nm, .slice ra rrs.length rc, .int .i64 rq, .int .i64 rm, .int .i64 ri] 87)) n) os) ra rrs) := fun n os => hRx.out _ (((Grw.refl wr).alloc _).trans ⟨n, os, rfl⟩)
        have hmix : Tryz.prog.follows .mixedOrders = true := by kernel_rfl
        have HGA : Hid (Grw w (wr.alloc (.cells #[.string nm, .slice ra rrs.length rc, .int .i64 rq, .int .i64 rm, .int .i64 ri] 87))) := HG.out.alloc _
        cases r with
        | true =>
          have HS' : Hid ((List.range (k + 1)).all (okAt ros) = true) := HS.out rfl
          clear HS HF
          go_wp2_with fail
          refine wp_region_quiet_grown (by assumption) (by kernel_rfl) ?_
          repeat (go_big_quiet_step (first | fail | (go_at_call 101; exact Calls.grown_of (HN.out _ (YR.out _ _)))))
          refine wpQuiet_nil ?_
          intro _ hw'
          obtain ⟨⟨nq, osq⟩, hw''⟩ := hw'
          subst hw''
          have HG1 : Hid (Grw w _) := HGA.out.trans ⟨nq, osq, rfl⟩
          clear y0 y1 y2 y3 y4 YR HGA HG
          go_wp2
          go_roundw
          case rel => exact ⟨k + 1, by omega, by go_num, HS', HG1⟩
          case measure => simp [intOf]; omega
        | false =>
          have hd : Hid (rolesB ros = false) := HF.out rfl
          go_wp2_with fail
          refine wp_region_quiet_grown (by assumption) (by kernel_rfl) ?_
          repeat (go_big_quiet_step (first | fail | (go_at_call 101; exact Calls.grown_of (HN.out _ (YR.out _ _)))))
          refine wpQuiet_nil ?_
          intro _ hw'
          obtain ⟨⟨nq, osq⟩, hw''⟩ := hw'
          subst hw''
          have HG1 : Hid (Grw w _) := HGA.out.trans ⟨nq, osq, rfl⟩
          clear y0 y1 y2 y3 y4 YR HGA HG
          go_wp2
          go_ret
          exact ⟨by rw [hd.out]; rfl, HG1.out⟩
      · obtain ⟨j, hkj⟩ : ∃ j, k = j + 1 := ⟨k - 1, by omega⟩
        obtain ⟨x', hx'⟩ := at_of (k := j) hl (by omega)
        obtain ⟨b', off', vs', e', hb', hvl', hR', hc'⟩ := RW.out.at (RoR.kp 0) GG hx'
        cases e'
        obtain ⟨nm', rrs', rq', rm', ri'⟩ := x'
        obtain ⟨ra', rc', rfl, -⟩ := hR'
        have p0 : wr.cell? ⟨b, off + j * 5, none⟩ = some (.string nm') := hc' 0 _ rfl
        have eo : okAt ros k = (roB ⟨nm, rrs, rq, rm, ri⟩ && ltS nm' nm) := by subst hkj; exact okAt_succ hx hx'
        have hkz : (0 : Int) < (k : Int) := by omega
        have hkd : decide (0 < k) = true := decide_eq_true (by omega)
        have hj : (k : Int) - 1 = (j : Int) := by omega
        have hjl : (j : Int) < (len : Int) := by omega
        clear hk0 hkj
        obtain ⟨u, hu⟩ : ∃ u, Op.bytesLess nm'.toList nm.toList = u := ⟨_, rfl⟩
        have eu : ltS nm' nm = u := hu
        rw [eo, eu] at HS HF
        generalize roB ⟨nm, rrs, rq, rm, ri⟩ = r at HN HS HF
        clear hc hc' hvl hvl' hx hx' eo eu
        have y0 : ∀ n os, (grow (World.drewN (wr.alloc (.cells #[.string nm, .slice ra rrs.length rc, .int .i64 rq, .int .i64 rm, .int .i64 ri] 87)) n) os).cell? ⟨wr.heap.size, 0, none⟩ = some (.string nm) := fun n os => cell_grown (by simp) (by simp) n os
        have y1 : ∀ n os, (grow (World.drewN (wr.alloc (.cells #[.string nm, .slice ra rrs.length rc, .int .i64 rq, .int .i64 rm, .int .i64 ri] 87)) n) os).cell? ⟨wr.heap.size, 1, none⟩ = some (.slice ra rrs.length rc) := fun n os => cell_grown (by simp) (by simp) n os
        have y2 : ∀ n os, (grow (World.drewN (wr.alloc (.cells #[.string nm, .slice ra rrs.length rc, .int .i64 rq, .int .i64 rm, .int .i64 ri] 87)) n) os).cell? ⟨wr.heap.size, 2, none⟩ = some (.int .i64 rq) := fun n os => cell_grown (by simp) (by simp) n os
        have y3 : ∀ n os, (grow (World.drewN (wr.alloc (.cells #[.string nm, .slice ra rrs.length rc, .int .i64 rq, .int .i64 rm, .int .i64 ri] 87)) n) os).cell? ⟨wr.heap.size, 3, none⟩ = some (.int .i64 rm) := fun n os => cell_grown (by simp) (by simp) n os
        have y4 : ∀ n os, (grow (World.drewN (wr.alloc (.cells #[.string nm, .slice ra rrs.length rc, .int .i64 rq, .int .i64 rm, .int .i64 ri] 87)) n) os).cell? ⟨wr.heap.size, 4, none⟩ = some (.int .i64 ri) := fun n os => cell_grown (by simp) (by simp) n os
        have YR : Hid (∀ n os, Rw RuR 6 (grow (World.drewN (wr.alloc (.cells #[.string nm, .slice ra rrs.length rc, .int .i64 rq, .int .i64 rm, .int .i64 ri] 87)) n) os) ra rrs) := fun n os => hRx.out _ (((Grw.refl wr).alloc _).trans ⟨n, os, rfl⟩)
        have hmix : Tryz.prog.follows .mixedOrders = true := by kernel_rfl
        have HGA : Hid (Grw w (wr.alloc (.cells #[.string nm, .slice ra rrs.length rc, .int .i64 rq, .int .i64 rm, .int .i64 ri] 87))) := HG.out.alloc _
        have p1 : ∀ n os, (grow (World.drewN (wr.alloc (.cells #[.string nm, .slice ra rrs.length rc, .int .i64 rq, .int .i64 rm, .int .i64 ri] 87)) n) os).cell? ⟨b, off + j * 5, none⟩ = some (.string nm') := fun n os => cell_grown (Nat.lt_of_lt_of_le hb (Nat.le_trans GG.size ((Grw.refl wr).alloc _).below.size)) (((Grw.refl wr).alloc _).keep p0) n os
        cases r with
        | false =>
          have hd : Hid (rolesB ros = false) := HF.out rfl
          go_wp2_with fail
          refine wp_region_quiet_grown (by assumption) (by kernel_rfl) ?_
          repeat (go_big_quiet_step (first | fail | (go_at_call 101; exact Calls.grown_of (HN.out _ (YR.out _ _)))))
          refine wpQuiet_nil ?_
          intro _ hw'
          obtain ⟨⟨nq, osq⟩, hw''⟩ := hw'
          subst hw''
          have HG1 : Hid (Grw w _) := HGA.out.trans ⟨nq, osq, rfl⟩
          clear y0 y1 y2 y3 y4 YR HGA HG
          go_wp2
          go_ret
          exact ⟨by rw [hd.out]; rfl, HG1.out⟩
        | true =>
          cases u with
          | true =>
            have HS' : Hid ((List.range (k + 1)).all (okAt ros) = true) := HS.out rfl
            clear HS HF
            go_wp2_with fail
            refine wp_region_quiet_grown (by assumption) (by kernel_rfl) ?_
            repeat (go_big_quiet_step (first | fail | (go_at_call 101; exact Calls.grown_of (HN.out _ (YR.out _ _)))))
            refine wpQuiet_nil ?_
            intro _ hw'
            obtain ⟨⟨nq, osq⟩, hw''⟩ := hw'
            subst hw''
            have HG1 : Hid (Grw w _) := HGA.out.trans ⟨nq, osq, rfl⟩
            clear y0 y1 y2 y3 y4 YR HGA HG
            go_wp2
            go_roundw
            case rel => exact ⟨k + 1, by omega, by go_num, HS', HG1⟩
            case measure => simp [intOf]; omega
          | false =>
            have hd : Hid (rolesB ros = false) := HF.out rfl
            go_wp2_with fail
            refine wp_region_quiet_grown (by assumption) (by kernel_rfl) ?_
            repeat (go_big_quiet_step (first | fail | (go_at_call 101; exact Calls.grown_of (HN.out _ (YR.out _ _)))))
            refine wpQuiet_nil ?_
            intro _ hw'
            obtain ⟨⟨nq, osq⟩, hw''⟩ := hw'
            subst hw''
            have HG1 : Hid (Grw w _) := HGA.out.trans ⟨nq, osq, rfl⟩
            clear y0 y1 y2 y3 y4 YR HGA HG
            go_wp2
            go_ret
            exact ⟨by rw [hd.out]; rfl, HG1.out⟩
    · obtain rfl : k = len := by omega
      have hd : Hid (rolesB ros = true) := by unfold rolesB; rw [hl]; exact HO.out
      go_wp2
      go_ret
      exact ⟨by rw [hd.out]; rfl, HG.out⟩

theorem and_four (b8 b9 P Q : Bool) : (b8 && (b9 && (P && Q))) = ((b8 && P) && (b9 && Q)) := by cases b8 <;> cases b9 <;> cases P <;> rfl
theorem conf_gate (ip b gt : Int) (gm wm : ByteArray) (rs : Int) (ps : List PlaceV) (ros : List RoleV) :
    confB ip b gt gm wm rs ps ros = (dec (nhC ip b gt = 0) && (nhB ip b gt && (dec (nhC ip b rs = 0) && (!nhB ip b rs && (dec (gm.size = 6) && (dec (wm.size = 6) && ((dec (ps.length ≤ 8) && ps.all plv) && (dec (1 ≤ ros.length ∧ ros.length ≤ 4) && rolesB ros)))))))) := by
  unfold confB nhB nhC
  rw [and_four (dec (ps.length ≤ 8)) (dec (1 ≤ ros.length ∧ ros.length ≤ 4)) (ps.all plv) (rolesB ros)]
  generalize ((dec (ps.length ≤ 8) && ps.all plv) && (dec (1 ≤ ros.length ∧ ros.length ≤ 4) && rolesB ros)) = Z
  generalize dec (gm.size = 6) = m1
  generalize dec (wm.size = 6) = m2
  generalize nB ip b = b1
  generalize dec (0 ≤ gt ∧ gt ≤ 4294967295) = b2
  generalize dec (0 ≤ rs ∧ rs ≤ 4294967295) = b6
  generalize hB ip b gt = b3
  generalize hB ip b rs = b7
  cases b1 <;> cases b2 <;> cases b3 <;> cases b6 <;> cases b7 <;> simp [dec]

set_option maxHeartbeats 2000000 in
theorem implConfig_any (ip b gt : Int) (gm wm : ByteArray) (rs : Int) (x y : Option Addr) (lenx capx leny capy : Nat) (ps : List PlaceV) (ros : List RoleV) (w : World) (h : Rw PlR 4 w x ps) (hl : ps.length = lenx) (h2 : Rw (RoR 0) 5 w y ros) (hl2 : ros.length = leny) (hsz : SzR ros) :
    Calls Tryz.prog 63 #[.agg #[.int .i64 ip, .int .i64 b, .int .i64 gt, .string gm, .string wm, .int .i64 rs, .slice x lenx capx, .slice y leny capy]] w fun e w' => e = .returned (.bool (confB ip b gt gm wm rs ps ros)) ∧ Grw w w' := by
  have E : Hid (confB ip b gt gm wm rs ps ros = (dec (nhC ip b gt = 0) && (nhB ip b gt && (dec (nhC ip b rs = 0) && (!nhB ip b rs && (dec (gm.size = 6) && (dec (wm.size = 6) && ((dec (ps.length ≤ 8) && ps.all plv) && (dec (1 ≤ ros.length ∧ ros.length ≤ 4) && rolesB ros))))))))) := conf_gate ip b gt gm wm rs ps ros
  have RX : Hid (Rw PlR 4 w x ps) := h
  have RY : Hid (Rw (RoR 0) 5 w y ros) := h2
  have H1 : Hid (∀ w, Calls Tryz.prog 43 #[.agg #[.int .i64 ip, .int .i64 b], .int .i64 gt] w fun e w' => e = .returned (.tuple #[.bool (nhB ip b gt), .int .i64 (nhC ip b gt)]) ∧ Grw w w') := fun w => implNetHas_any ip b gt w
  have H2 : Hid (∀ w, Calls Tryz.prog 43 #[.agg #[.int .i64 ip, .int .i64 b], .int .i64 rs] w fun e w' => e = .returned (.tuple #[.bool (nhB ip b rs), .int .i64 (nhC ip b rs)]) ∧ Grw w w') := fun w => implNetHas_any ip b rs w
  have H3 : Hid (∀ w, Calls Tryz.prog 22 #[.string gm] w fun e w' => e = .returned (.bool (dec (gm.size = 6))) ∧ w' = w) := fun w => isMac_any gm w
  have H4 : Hid (∀ w, Calls Tryz.prog 22 #[.string wm] w fun e w' => e = .returned (.bool (dec (wm.size = 6))) ∧ w' = w) := fun w => isMac_any wm w
  have H5 : Hid (∀ w, Rw PlR 4 w x ps → Calls Tryz.prog 88 #[.slice x lenx capx] w fun e w' => e = .returned (.bool (dec (ps.length ≤ 8) && ps.all plv)) ∧ Grw w w') := fun w h => gardenOK_any x lenx capx ps w h hl
  have H6 : Hid (∀ w, Rw (RoR 0) 5 w y ros → Calls Tryz.prog 89 #[.slice y leny capy] w fun e w' => e = .returned (.bool (dec (1 ≤ ros.length ∧ ros.length ≤ 4) && rolesB ros)) ∧ Grw w w') := fun w h => rolesOK_any y leny capy ros w h hl2 hsz
  generalize confB ip b gt gm wm rs ps ros = z at E ⊢
  generalize nhB ip b gt = g1 at E H1
  generalize nhC ip b gt = c1 at E H1
  generalize nhB ip b rs = g2 at E H2
  generalize nhC ip b rs = c2 at E H2
  generalize dec (gm.size = 6) = m1 at E H3
  generalize dec (wm.size = 6) = m2 at E H4
  generalize (dec (ps.length ≤ 8) && ps.all plv) = P at E H5
  generalize (dec (1 ≤ ros.length ∧ ros.length ≤ 4) && rolesB ros) = Q at E H6
  clear h h2
  by_cases hc1 : c1 = 0
  rotate_left
  · rw [dec_n hc1] at E
    have n1 : (c1 != 0) = true := by simpa using hc1
    clear hc1
    go_enter Tryz.func63, Tryz.ntmps63
    go_wp2_with fail
    refine (H1.out _).mono ?_
    rintro e wx1 ⟨rfl, bx⟩
    have k0 : World.cell? _ ⟨w.heap.size, 0, none⟩ = some (.int .i64 ip) := bx.keep (a := ⟨w.heap.size, 0, none⟩) (v := .int .i64 ip) (by simp [go_sem])
    have k1 : World.cell? _ ⟨w.heap.size, 1, none⟩ = some (.int .i64 b) := bx.keep (a := ⟨w.heap.size, 1, none⟩) (v := .int .i64 b) (by simp [go_sem])
    have k2 : World.cell? _ ⟨w.heap.size, 2, none⟩ = some (.int .i64 gt) := bx.keep (a := ⟨w.heap.size, 2, none⟩) (v := .int .i64 gt) (by simp [go_sem])
    have k3 : World.cell? _ ⟨w.heap.size, 3, none⟩ = some (.string gm) := bx.keep (a := ⟨w.heap.size, 3, none⟩) (v := .string gm) (by simp [go_sem])
    have k4 : World.cell? _ ⟨w.heap.size, 4, none⟩ = some (.string wm) := bx.keep (a := ⟨w.heap.size, 4, none⟩) (v := .string wm) (by simp [go_sem])
    have k5 : World.cell? _ ⟨w.heap.size, 5, none⟩ = some (.int .i64 rs) := bx.keep (a := ⟨w.heap.size, 5, none⟩) (v := .int .i64 rs) (by simp [go_sem])
    have k6 : World.cell? _ ⟨w.heap.size, 6, none⟩ = some (.slice x lenx capx) := bx.keep (a := ⟨w.heap.size, 6, none⟩) (v := .slice x lenx capx) (by simp [go_sem])
    have k7 : World.cell? _ ⟨w.heap.size, 7, none⟩ = some (.slice y leny capy) := bx.keep (a := ⟨w.heap.size, 7, none⟩) (v := .slice y leny capy) (by simp [go_sem])
    have BX : Hid (Grw w _) := ((Grw.refl _).alloc _).trans bx
    clear bx
    go_wp2
    go_ret
    exact ⟨by rw [E.out]; simp, BX.out⟩
  rw [dec_y hc1] at E
  subst hc1
  cases g1 with
  | false =>
    go_enter Tryz.func63, Tryz.ntmps63
    go_wp2_with fail
    refine (H1.out _).mono ?_
    rintro e wx1 ⟨rfl, bx⟩
    have k0 : World.cell? _ ⟨w.heap.size, 0, none⟩ = some (.int .i64 ip) := bx.keep (a := ⟨w.heap.size, 0, none⟩) (v := .int .i64 ip) (by simp [go_sem])
    have k1 : World.cell? _ ⟨w.heap.size, 1, none⟩ = some (.int .i64 b) := bx.keep (a := ⟨w.heap.size, 1, none⟩) (v := .int .i64 b) (by simp [go_sem])
    have k2 : World.cell? _ ⟨w.heap.size, 2, none⟩ = some (.int .i64 gt) := bx.keep (a := ⟨w.heap.size, 2, none⟩) (v := .int .i64 gt) (by simp [go_sem])
    have k3 : World.cell? _ ⟨w.heap.size, 3, none⟩ = some (.string gm) := bx.keep (a := ⟨w.heap.size, 3, none⟩) (v := .string gm) (by simp [go_sem])
    have k4 : World.cell? _ ⟨w.heap.size, 4, none⟩ = some (.string wm) := bx.keep (a := ⟨w.heap.size, 4, none⟩) (v := .string wm) (by simp [go_sem])
    have k5 : World.cell? _ ⟨w.heap.size, 5, none⟩ = some (.int .i64 rs) := bx.keep (a := ⟨w.heap.size, 5, none⟩) (v := .int .i64 rs) (by simp [go_sem])
    have k6 : World.cell? _ ⟨w.heap.size, 6, none⟩ = some (.slice x lenx capx) := bx.keep (a := ⟨w.heap.size, 6, none⟩) (v := .slice x lenx capx) (by simp [go_sem])
    have k7 : World.cell? _ ⟨w.heap.size, 7, none⟩ = some (.slice y leny capy) := bx.keep (a := ⟨w.heap.size, 7, none⟩) (v := .slice y leny capy) (by simp [go_sem])
    have BX : Hid (Grw w _) := ((Grw.refl _).alloc _).trans bx
    clear bx
    go_wp2
    go_ret
    exact ⟨by rw [E.out]; simp, BX.out⟩
  | true =>
    by_cases hc2 : c2 = 0
    rotate_left
    · rw [dec_n hc2] at E
      have n2 : (c2 != 0) = true := by simpa using hc2
      clear hc2
      go_enter Tryz.func63, Tryz.ntmps63
      go_wp2_with fail
      refine (H1.out _).mono ?_
      rintro e wx1 ⟨rfl, bx⟩
      have k0 : World.cell? _ ⟨w.heap.size, 0, none⟩ = some (.int .i64 ip) := bx.keep (a := ⟨w.heap.size, 0, none⟩) (v := .int .i64 ip) (by simp [go_sem])
      have k1 : World.cell? _ ⟨w.heap.size, 1, none⟩ = some (.int .i64 b) := bx.keep (a := ⟨w.heap.size, 1, none⟩) (v := .int .i64 b) (by simp [go_sem])
      have k2 : World.cell? _ ⟨w.heap.size, 2, none⟩ = some (.int .i64 gt) := bx.keep (a := ⟨w.heap.size, 2, none⟩) (v := .int .i64 gt) (by simp [go_sem])
      have k3 : World.cell? _ ⟨w.heap.size, 3, none⟩ = some (.string gm) := bx.keep (a := ⟨w.heap.size, 3, none⟩) (v := .string gm) (by simp [go_sem])
      have k4 : World.cell? _ ⟨w.heap.size, 4, none⟩ = some (.string wm) := bx.keep (a := ⟨w.heap.size, 4, none⟩) (v := .string wm) (by simp [go_sem])
      have k5 : World.cell? _ ⟨w.heap.size, 5, none⟩ = some (.int .i64 rs) := bx.keep (a := ⟨w.heap.size, 5, none⟩) (v := .int .i64 rs) (by simp [go_sem])
      have k6 : World.cell? _ ⟨w.heap.size, 6, none⟩ = some (.slice x lenx capx) := bx.keep (a := ⟨w.heap.size, 6, none⟩) (v := .slice x lenx capx) (by simp [go_sem])
      have k7 : World.cell? _ ⟨w.heap.size, 7, none⟩ = some (.slice y leny capy) := bx.keep (a := ⟨w.heap.size, 7, none⟩) (v := .slice y leny capy) (by simp [go_sem])
      have BX : Hid (Grw w _) := ((Grw.refl _).alloc _).trans bx
      clear bx
      go_wp2_with fail
      refine (H2.out _).mono ?_
      rintro e wx2 ⟨rfl, bx⟩
      replace k0 := bx.keep k0
      replace k1 := bx.keep k1
      replace k2 := bx.keep k2
      replace k3 := bx.keep k3
      replace k4 := bx.keep k4
      replace k5 := bx.keep k5
      replace k6 := bx.keep k6
      replace k7 := bx.keep k7
      replace BX : Hid (Grw w _) := BX.out.trans bx
      clear bx
      go_wp2
      go_ret
      exact ⟨by rw [E.out]; simp, BX.out⟩
    rw [dec_y hc2] at E
    subst hc2
    cases g2 with
    | true =>
      go_enter Tryz.func63, Tryz.ntmps63
      go_wp2_with fail
      refine (H1.out _).mono ?_
      rintro e wx1 ⟨rfl, bx⟩
      have k0 : World.cell? _ ⟨w.heap.size, 0, none⟩ = some (.int .i64 ip) := bx.keep (a := ⟨w.heap.size, 0, none⟩) (v := .int .i64 ip) (by simp [go_sem])
      have k1 : World.cell? _ ⟨w.heap.size, 1, none⟩ = some (.int .i64 b) := bx.keep (a := ⟨w.heap.size, 1, none⟩) (v := .int .i64 b) (by simp [go_sem])
      have k2 : World.cell? _ ⟨w.heap.size, 2, none⟩ = some (.int .i64 gt) := bx.keep (a := ⟨w.heap.size, 2, none⟩) (v := .int .i64 gt) (by simp [go_sem])
      have k3 : World.cell? _ ⟨w.heap.size, 3, none⟩ = some (.string gm) := bx.keep (a := ⟨w.heap.size, 3, none⟩) (v := .string gm) (by simp [go_sem])
      have k4 : World.cell? _ ⟨w.heap.size, 4, none⟩ = some (.string wm) := bx.keep (a := ⟨w.heap.size, 4, none⟩) (v := .string wm) (by simp [go_sem])
      have k5 : World.cell? _ ⟨w.heap.size, 5, none⟩ = some (.int .i64 rs) := bx.keep (a := ⟨w.heap.size, 5, none⟩) (v := .int .i64 rs) (by simp [go_sem])
      have k6 : World.cell? _ ⟨w.heap.size, 6, none⟩ = some (.slice x lenx capx) := bx.keep (a := ⟨w.heap.size, 6, none⟩) (v := .slice x lenx capx) (by simp [go_sem])
      have k7 : World.cell? _ ⟨w.heap.size, 7, none⟩ = some (.slice y leny capy) := bx.keep (a := ⟨w.heap.size, 7, none⟩) (v := .slice y leny capy) (by simp [go_sem])
      have BX : Hid (Grw w _) := ((Grw.refl _).alloc _).trans bx
      clear bx
      go_wp2_with fail
      refine (H2.out _).mono ?_
      rintro e wx2 ⟨rfl, bx⟩
      replace k0 := bx.keep k0
      replace k1 := bx.keep k1
      replace k2 := bx.keep k2
      replace k3 := bx.keep k3
      replace k4 := bx.keep k4
      replace k5 := bx.keep k5
      replace k6 := bx.keep k6
      replace k7 := bx.keep k7
      replace BX : Hid (Grw w _) := BX.out.trans bx
      clear bx
      go_wp2
      go_ret
      exact ⟨by rw [E.out]; simp, BX.out⟩
    | false =>
      go_enter Tryz.func63, Tryz.ntmps63
      go_wp2_with fail
      refine (H1.out _).mono ?_
      rintro e wx1 ⟨rfl, bx⟩
      have k0 : World.cell? _ ⟨w.heap.size, 0, none⟩ = some (.int .i64 ip) := bx.keep (a := ⟨w.heap.size, 0, none⟩) (v := .int .i64 ip) (by simp [go_sem])
      have k1 : World.cell? _ ⟨w.heap.size, 1, none⟩ = some (.int .i64 b) := bx.keep (a := ⟨w.heap.size, 1, none⟩) (v := .int .i64 b) (by simp [go_sem])
      have k2 : World.cell? _ ⟨w.heap.size, 2, none⟩ = some (.int .i64 gt) := bx.keep (a := ⟨w.heap.size, 2, none⟩) (v := .int .i64 gt) (by simp [go_sem])
      have k3 : World.cell? _ ⟨w.heap.size, 3, none⟩ = some (.string gm) := bx.keep (a := ⟨w.heap.size, 3, none⟩) (v := .string gm) (by simp [go_sem])
      have k4 : World.cell? _ ⟨w.heap.size, 4, none⟩ = some (.string wm) := bx.keep (a := ⟨w.heap.size, 4, none⟩) (v := .string wm) (by simp [go_sem])
      have k5 : World.cell? _ ⟨w.heap.size, 5, none⟩ = some (.int .i64 rs) := bx.keep (a := ⟨w.heap.size, 5, none⟩) (v := .int .i64 rs) (by simp [go_sem])
      have k6 : World.cell? _ ⟨w.heap.size, 6, none⟩ = some (.slice x lenx capx) := bx.keep (a := ⟨w.heap.size, 6, none⟩) (v := .slice x lenx capx) (by simp [go_sem])
      have k7 : World.cell? _ ⟨w.heap.size, 7, none⟩ = some (.slice y leny capy) := bx.keep (a := ⟨w.heap.size, 7, none⟩) (v := .slice y leny capy) (by simp [go_sem])
      have BX : Hid (Grw w _) := ((Grw.refl _).alloc _).trans bx
      clear bx
      go_wp2_with fail
      refine (H2.out _).mono ?_
      rintro e wx2 ⟨rfl, bx⟩
      replace k0 := bx.keep k0
      replace k1 := bx.keep k1
      replace k2 := bx.keep k2
      replace k3 := bx.keep k3
      replace k4 := bx.keep k4
      replace k5 := bx.keep k5
      replace k6 := bx.keep k6
      replace k7 := bx.keep k7
      replace BX : Hid (Grw w _) := BX.out.trans bx
      clear bx
      go_wp2_with fail
      refine (H3.out _).mono ?_
      rintro e wx3 ⟨rfl, rfl⟩
      cases m1 with
      | false =>
        go_wp2
        go_ret
        exact ⟨by rw [E.out]; simp, BX.out⟩
      | true =>
        go_wp2_with fail
        refine (H4.out _).mono ?_
        rintro e wx4 ⟨rfl, rfl⟩
        cases m2 with
        | false =>
          go_wp2
          go_ret
          exact ⟨by rw [E.out]; simp, BX.out⟩
        | true =>
          go_wp2_with fail
          refine (H5.out _ (RX.out.keep PlR.kp BX.out.below)).mono ?_
          rintro e wx5 ⟨rfl, bx⟩
          replace k0 := bx.keep k0
          replace k1 := bx.keep k1
          replace k2 := bx.keep k2
          replace k3 := bx.keep k3
          replace k4 := bx.keep k4
          replace k5 := bx.keep k5
          replace k6 := bx.keep k6
          replace k7 := bx.keep k7
          replace BX : Hid (Grw w _) := BX.out.trans bx
          clear bx
          cases P with
          | false =>
            go_wp2
            go_ret
            exact ⟨by rw [E.out]; simp, BX.out⟩
          | true =>
            go_wp2_with fail
            refine (H6.out _ (RY.out.keep (RoR.kp 0) BX.out.below)).mono ?_
            rintro e wx6 ⟨rfl, bx⟩
            replace k0 := bx.keep k0
            replace k1 := bx.keep k1
            replace k2 := bx.keep k2
            replace k3 := bx.keep k3
            replace k4 := bx.keep k4
            replace k5 := bx.keep k5
            replace k6 := bx.keep k6
            replace k7 := bx.keep k7
            replace BX : Hid (Grw w _) := BX.out.trans bx
            clear bx
            cases Q with
            | false =>
              go_wp2
              go_ret
              exact ⟨by rw [E.out]; simp, BX.out⟩
            | true =>
              go_wp2
              go_ret
              exact ⟨by rw [E.out] <;> rfl, BX.out⟩

end Go.Proofs.YtnlepjcjakghcaaGreatDoor
