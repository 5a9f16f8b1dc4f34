/- Places, lists of places and of roles, configurations in the laws. -/
import Derived.Test.YtbeehlhcckndcaaDoorJ8
namespace Go.Proofs.YtbeehlhcckndcaaDoor
open Go.RowKit Go.PlainAid Go.Proofs.YtbeehlhcckndcaaDoor.Bt Go.Sort
set_option linter.unusedVariables false
set_option maxRecDepth 20000

set_option maxHeartbeats 1000000 in
theorem eqPlace_any (ip b lo hi : Int) (w : World) :
    Calls Tryd.prog 59 #[.agg #[.int .i64 ip, .int .i64 b, .int .i64 lo, .int .i64 hi], .agg #[.int .i64 ip, .int .i64 b, .int .i64 lo, .int .i64 hi]] w fun e w' => e = .returned (.bool true) ∧ Grw w w' := by
  have HA : Hid (∀ w, Calls Tryd.prog 32 #[.agg #[.int .i64 ip, .int .i64 b], .agg #[.int .i64 ip, .int .i64 b]] w fun e w' => e = .returned (.bool true) ∧ Grw w w') := fun w => eqNet2 ip b w
  have HB : Hid (∀ w, Calls Tryd.prog 73 #[.agg #[.int .i64 lo, .int .i64 hi], .agg #[.int .i64 lo, .int .i64 hi]] w fun e w' => e = .returned (.bool true) ∧ Grw w w') := fun w => eqRange2 lo hi w
  go_enter Tryd.func59, Tryd.ntmps59
  go_wp2_with fail
  refine (HA.out _).mono ?_
  rintro e wx1 ⟨rfl, bx⟩
  have k0_0 : World.cell? _ ⟨w.heap.size, 0, none⟩ = some (.int .i64 ip) := bx.keep (a := ⟨w.heap.size, 0, none⟩) (v := .int .i64 ip) (by simp [go_sem])
  have k0_1 : World.cell? _ ⟨w.heap.size, 1, none⟩ = some (.int .i64 b) := bx.keep (a := ⟨w.heap.size, 1, none⟩) (v := .int .i64 b) (by simp [go_sem])
  have k0_2 : World.cell? _ ⟨w.heap.size, 2, none⟩ = some (.int .i64 lo) := bx.keep (a := ⟨w.heap.size, 2, none⟩) (v := .int .i64 lo) (by simp [go_sem])
  have k0_3 : World.cell? _ ⟨w.heap.size, 3, none⟩ = some (.int .i64 hi) := bx.keep (a := ⟨w.heap.size, 3, none⟩) (v := .int .i64 hi) (by simp [go_sem])
  have k1_0 : World.cell? _ ⟨w.heap.size + 1, 0, none⟩ = some (.int .i64 ip) := bx.keep (a := ⟨w.heap.size + 1, 0, none⟩) (v := .int .i64 ip) (by simp [go_sem])
  have k1_1 : World.cell? _ ⟨w.heap.size + 1, 1, none⟩ = some (.int .i64 b) := bx.keep (a := ⟨w.heap.size + 1, 1, none⟩) (v := .int .i64 b) (by simp [go_sem])
  have k1_2 : World.cell? _ ⟨w.heap.size + 1, 2, none⟩ = some (.int .i64 lo) := bx.keep (a := ⟨w.heap.size + 1, 2, none⟩) (v := .int .i64 lo) (by simp [go_sem])
  have k1_3 : World.cell? _ ⟨w.heap.size + 1, 3, none⟩ = some (.int .i64 hi) := bx.keep (a := ⟨w.heap.size + 1, 3, none⟩) (v := .int .i64 hi) (by simp [go_sem])
  have BX : Hid (Grw w _) := (((Grw.refl _).alloc _).alloc _).trans bx
  clear bx
  go_wp2_with fail
  refine (HB.out _).mono ?_
  rintro e wx2 ⟨rfl, bx⟩
  replace k0_0 := bx.keep k0_0
  replace k0_1 := bx.keep k0_1
  replace k0_2 := bx.keep k0_2
  replace k0_3 := bx.keep k0_3
  replace k1_0 := bx.keep k1_0
  replace k1_1 := bx.keep k1_1
  replace k1_2 := bx.keep k1_2
  replace k1_3 := bx.keep k1_3
  replace BX : Hid (Grw w _) := BX.out.trans bx
  clear bx
  go_wp2
  go_ret
  exact ⟨rfl, BX.out⟩

theorem infoPlace : (Tryd.prog.info? 62).map (fun i => (i.zero, i.size, i.bytes)) = some (some (.agg #[.int .i64 0, .int .i64 0, .int .i64 0, .int .i64 0]), 4, 32) := by kernel_rfl
set_option maxHeartbeats 2000000 in
theorem eqPlaceS_yes (a a' : Option Addr) (len cap cap' : Nat) (xs : List PlaceV) (w : World) (h : Rw PlR 4 w a xs) (h' : Rw PlR 4 w a' xs) (hl : xs.length = len) (hlen : len ≤ 1048576) :
    Calls Tryd.prog 33 #[.slice a len cap, .slice a' len cap'] w fun e w' => e = .returned (.bool true) ∧ Grw w w' := by
  have hne : ((len : Int) != (len : Int)) = false := by simp
  have hmix : Tryd.prog.follows .mixedOrders = true := by kernel_rfl
  have RW : Hid (Rw PlR 4 w a xs) := h
  have RW' : Hid (Rw PlR 4 w a' xs) := h'
  clear h h'
  go_enter Tryd.func33, Tryd.ntmps33
  go_wp2
  go_loopw [5] (fun i wr => ∃ k : Nat, k ≤ len ∧ i = .int .i64 k ∧ Hid (Grw w wr)) (fun i _ => len - (intOf i).toNat)
  case atStart => exact ⟨0, Nat.zero_le _, rfl, Grw.refl w⟩
  case round =>
    obtain ⟨k, hk, rfl, HG⟩ := hrel
    by_cases hlt : k < len
    · obtain ⟨x, hx⟩ := at_of hl hlt
      obtain ⟨b, off, vs, rfl, hb, hvl, hR, hc⟩ := RW.out.at PlR.kp HG.out.below hx
      obtain ⟨b', off', vs', rfl, hb', hvl', hR', hc'⟩ := RW'.out.at PlR.kp HG.out.below hx
      obtain ⟨ip, bb, lo, hi⟩ := x
      obtain ⟨rfl, hlo, hhi⟩ := hR
      obtain ⟨rfl, -, -⟩ := hR'
      have q0 : ∀ n os, (grow (wr.drewN n) os).cell? ⟨b, off + k * 4, none⟩ = some (.int .i64 ip) := fun n os => grown_cell hb HG.out (hc 0 _ rfl) n os
      have q1 : ∀ n os, (grow (wr.drewN n) os).cell? ⟨b, off + k * 4 + 1, none⟩ = some (.int .i64 bb) := fun n os => grown_cell hb HG.out (hc 1 _ rfl) n os
      have q2 : ∀ n os, (grow (wr.drewN n) os).cell? ⟨b, off + k * 4 + 2, none⟩ = some (.int .i64 lo) := fun n os => grown_cell hb HG.out (hc 2 _ rfl) n os
      have q3 : ∀ n os, (grow (wr.drewN n) os).cell? ⟨b, off + k * 4 + 3, none⟩ = some (.int .i64 hi) := fun n os => grown_cell hb HG.out (hc 3 _ rfl) n os
      have r0 : ∀ n os, (grow (wr.drewN n) os).cell? ⟨b', off' + k * 4, none⟩ = some (.int .i64 ip) := fun n os => grown_cell hb' HG.out (hc' 0 _ rfl) n os
      have r1 : ∀ n os, (grow (wr.drewN n) os).cell? ⟨b', off' + k * 4 + 1, none⟩ = some (.int .i64 bb) := fun n os => grown_cell hb' HG.out (hc' 1 _ rfl) n os
      have r2 : ∀ n os, (grow (wr.drewN n) os).cell? ⟨b', off' + k * 4 + 2, none⟩ = some (.int .i64 lo) := fun n os => grown_cell hb' HG.out (hc' 2 _ rfl) n os
      have r3 : ∀ n os, (grow (wr.drewN n) os).cell? ⟨b', off' + k * 4 + 3, none⟩ = some (.int .i64 hi) := fun n os => grown_cell hb' HG.out (hc' 3 _ rfl) n os
      have HE : Hid (∀ w, Calls Tryd.prog 59 #[.agg #[.int .i64 ip, .int .i64 bb, .int .i64 lo, .int .i64 hi], .agg #[.int .i64 ip, .int .i64 bb, .int .i64 lo, .int .i64 hi]] w fun e w' => e = .returned (.bool true) ∧ Grw w w') := fun w => eqPlace_any _ _ _ _ w
      have hltz : (k : Int) < (len : Int) := by omega
      clear hc hc'
      go_wp2_with fail
      refine wp_region_quiet_grown (by assumption) (by kernel_rfl) ?_
      repeat (go_big_quiet_step (first | fail | (go_at_call 59; exact Calls.grown_of (HE.out _))))
      refine wpQuiet_nil ?_
      intro _ hw'
      obtain ⟨⟨nq, osq⟩, hw''⟩ := hw'
      subst hw''
      have HG2 : Hid (Grw w (grow (wr.drewN nq) osq)) := HG.out.trans ⟨nq, osq, rfl⟩
      clear q0 q1 q2 q3 r0 r1 r2 r3 HG HE
      go_wp2
      go_roundw
      case rel => exact ⟨k + 1, by omega, by go_num, HG2⟩
      case measure => simp [intOf]; omega
    · obtain rfl : k = len := by omega
      go_wp2
      go_ret
      exact ⟨rfl, HG.out⟩

/-- How much the roles hold. -/
def szR (ros : List RoleV) : Int := ros.foldr (fun r n => (r.nm.size : Int) + r.rs.length + n) 0
theorem szR_nonneg : ∀ ros : List RoleV, 0 ≤ szR ros
  | [] => Int.le_refl _
  | r :: ros => by have := szR_nonneg ros; unfold szR at *; rw [List.foldr_cons]; omega
theorem szR_cons (r : RoleV) (ros : List RoleV) : szR (r :: ros) = (r.nm.size : Int) + r.rs.length + szR ros := rfl
theorem infoRole : (Tryd.prog.info? 67).map (fun i => (i.zero, i.size, i.bytes)) = some (some (.agg #[.string ⟨#[]⟩, .slice none 0 0, .int .i64 0, .int .i64 0, .int .i64 0]), 5, 64) := by kernel_rfl
theorem Rw_lower {g g' : Nat} {K : Nat} {w : World} {a : Option Addr} {xs : List RoleV} (h : Rw (RoR g) K w a xs) (hg : g' ≤ g) : Rw (RoR g') K w a xs := by
  intro h0
  obtain ⟨b, off, e, hlt, hc⟩ := h h0
  refine ⟨b, off, e, hlt, fun i x hx => ?_⟩
  obtain ⟨vs, h1, h2, h3⟩ := hc i x hx
  exact ⟨vs, h1, h2.lower hg, h3⟩
set_option maxHeartbeats 2000000 in
theorem eqRoleS_yes (a a' : Option Addr) (len cap cap' : Nat) (xs : List RoleV) (w : World) (h : Rw (RoR 0) 5 w a xs) (h' : Rw (RoR 0) 5 w a' xs) (hl : xs.length = len) (hlen : len ≤ 1048576) (hsz : SzR xs) :
    Calls Tryd.prog 34 #[.slice a len cap, .slice a' len cap'] w fun e w' => e = .returned (.bool true) ∧ Grw w w' := by
  have hne : ((len : Int) != (len : Int)) = false := by simp
  have hmix : Tryd.prog.follows .mixedOrders = true := by kernel_rfl
  have RW : Hid (Rw (RoR 0) 5 w a xs) := h
  have RW' : Hid (Rw (RoR 0) 5 w a' xs) := h'
  have SZ : Hid (SzR xs) := hsz
  clear h h' hsz
  go_enter Tryd.func34, Tryd.ntmps34
  go_wp2
  go_loopw [5] (fun i wr => ∃ k : Nat, k ≤ len ∧ i = .int .i64 k ∧ Hid (Grw w wr)) (fun i _ => len - (intOf i).toNat)
  case atStart => exact ⟨0, Nat.zero_le _, rfl, Grw.refl w⟩
  case round =>
    obtain ⟨k, hk, rfl, HG⟩ := hrel
    by_cases hlt : k < len
    · obtain ⟨x, hx⟩ := at_of hl hlt
      have hsz := SZ.out _ (List.mem_of_getElem? hx)
      obtain ⟨b, off, vs, rfl, hb, hvl, hR, hc⟩ := RW.out.at (RoR.kp 0) HG.out.below hx
      obtain ⟨b', off', vs', rfl, hb', hvl', hR', hc'⟩ := RW'.out.at (RoR.kp 0) HG.out.below hx
      obtain ⟨nm, rrs, rq, rm, ri⟩ := x
      obtain ⟨ra, rc, rfl, hnm, hrc, hrm, hRR, -⟩ := hR
      obtain ⟨ra2, rc2, rfl, -, -, -, hRR2, -⟩ := hR'
      have q0 : ∀ n os, (grow (wr.drewN n) os).cell? ⟨b, off + k * 5, none⟩ = some (.string nm) := fun n os => grown_cell hb HG.out (hc 0 _ rfl) n os
      have q1 : ∀ n os, (grow (wr.drewN n) os).cell? ⟨b, off + k * 5 + 1, none⟩ = some (.slice ra rrs.length rc) := fun n os => grown_cell hb HG.out (hc 1 _ rfl) n os
      have q2 : ∀ n os, (grow (wr.drewN n) os).cell? ⟨b, off + k * 5 + 2, none⟩ = some (.int .i64 rq) := fun n os => grown_cell hb HG.out (hc 2 _ rfl) n os
      have q3 : ∀ n os, (grow (wr.drewN n) os).cell? ⟨b, off + k * 5 + 3, none⟩ = some (.int .i64 rm) := fun n os => grown_cell hb HG.out (hc 3 _ rfl) n os
      have q4 : ∀ n os, (grow (wr.drewN n) os).cell? ⟨b, off + k * 5 + 4, none⟩ = some (.int .i64 ri) := fun n os => grown_cell hb HG.out (hc 4 _ rfl) n os
      have r0 : ∀ n os, (grow (wr.drewN n) os).cell? ⟨b', off' + k * 5, none⟩ = some (.string nm) := fun n os => grown_cell hb' HG.out (hc' 0 _ rfl) n os
      have r1 : ∀ n os, (grow (wr.drewN n) os).cell? ⟨b', off' + k * 5 + 1, none⟩ = some (.slice ra2 rrs.length rc2) := fun n os => grown_cell hb' HG.out (hc' 1 _ rfl) n os
      have r2 : ∀ n os, (grow (wr.drewN n) os).cell? ⟨b', off' + k * 5 + 2, none⟩ = some (.int .i64 rq) := fun n os => grown_cell hb' HG.out (hc' 2 _ rfl) n os
      have r3 : ∀ n os, (grow (wr.drewN n) os).cell? ⟨b', off' + k * 5 + 3, none⟩ = some (.int .i64 rm) := fun n os => grown_cell hb' HG.out (hc' 3 _ rfl) n os
      have r4 : ∀ n os, (grow (wr.drewN n) os).cell? ⟨b', off' + k * 5 + 4, none⟩ = some (.int .i64 ri) := fun n os => grown_cell hb' HG.out (hc' 4 _ rfl) n os
      have HE : Hid (∀ w, Rw RuR 6 w ra rrs → Rw RuR 6 w ra2 rrs → Calls Tryd.prog 60 #[.agg #[.string nm, .slice ra rrs.length rc, .int .i64 rq, .int .i64 rm, .int .i64 ri], .agg #[.string nm, .slice ra2 rrs.length rc2, .int .i64 rq, .int .i64 rm, .int .i64 ri]] w fun e w' => e = .returned (.bool true) ∧ Grw w w') := fun w h h' => eqRole_yes nm rrs rq rm ri ra ra2 _ rc rc2 w h h' rfl hsz.2
      have YR : Hid (∀ n os, Rw RuR 6 (grow (wr.drewN n) os) ra rrs ∧ Rw RuR 6 (grow (wr.drewN n) os) ra2 rrs) := fun n os => ⟨hRR.keep RuR.kp (Grw.below ⟨n, os, rfl⟩), hRR2.keep RuR.kp (Grw.below ⟨n, os, rfl⟩)⟩
      have hltz : (k : Int) < (len : Int) := by omega
      clear hc hc' hRR hRR2
      go_wp2_with fail
      refine wp_region_quiet_grown (by assumption) (by kernel_rfl) ?_
      repeat (go_big_quiet_step (first | fail | (go_at_call 60; exact Calls.grown_of (HE.out _ (YR.out _ _).1 (YR.out _ _).2))))
      refine wpQuiet_nil ?_
      intro _ hw'
      obtain ⟨⟨nq, osq⟩, hw''⟩ := hw'
      subst hw''
      have HG2 : Hid (Grw w (grow (wr.drewN nq) osq)) := HG.out.trans ⟨nq, osq, rfl⟩
      clear q0 q1 q2 q3 q4 r0 r1 r2 r3 r4 HG HE YR
      go_wp2
      go_roundw
      case rel => exact ⟨k + 1, by omega, by go_num, HG2⟩
      case measure => simp [intOf]; omega
    · obtain rfl : k = len := by omega
      go_wp2
      go_ret
      exact ⟨rfl, HG.out⟩

set_option maxHeartbeats 2000000 in
theorem eqConfig_caps (ip b gt : Int) (gm wm : ByteArray) (rs : Int) (xa ya xb yb : Option Addr) (lenx leny cxa cya cxb cyb : Nat) (ps : List PlaceV) (ros : List RoleV) (w : World) (h : Rw PlR 4 w xa ps) (h' : Rw PlR 4 w xb ps) (hl : ps.length = lenx) (h2 : Rw (RoR 0) 5 w ya ros) (h2' : Rw (RoR 0) 5 w yb ros) (hl2 : ros.length = leny) (hx : lenx ≤ 1048576) (hy : leny ≤ 1048576) (hsz : SzR ros) :
    Calls Tryd.prog 14 #[.agg #[.int .i64 ip, .int .i64 b, .int .i64 gt, .string gm, .string wm, .int .i64 rs, .slice xa lenx cxa, .slice ya leny cya], .agg #[.int .i64 ip, .int .i64 b, .int .i64 gt, .string gm, .string wm, .int .i64 rs, .slice xb lenx cxb, .slice yb leny cyb]] w fun e w' => e = .returned (.bool true) ∧ Grw w w' := by
  have RX : Hid (Rw PlR 4 w xa ps ∧ Rw PlR 4 w xb ps) := ⟨h, h'⟩
  have RY : Hid (Rw (RoR 0) 5 w ya ros ∧ Rw (RoR 0) 5 w yb ros) := ⟨h2, h2'⟩
  have HA : Hid (∀ w, Calls Tryd.prog 32 #[.agg #[.int .i64 ip, .int .i64 b], .agg #[.int .i64 ip, .int .i64 b]] w fun e w' => e = .returned (.bool true) ∧ Grw w w') := fun w => eqNet2 ip b w
  have HB : Hid (∀ w, Rw PlR 4 w xa ps → Rw PlR 4 w xb ps → Calls Tryd.prog 33 #[.slice xa lenx cxa, .slice xb lenx cxb] w fun e w' => e = .returned (.bool true) ∧ Grw w w') := fun w h h' => eqPlaceS_yes xa xb lenx cxa cxb ps w h h' hl hx
  have HC : Hid (∀ w, Rw (RoR 0) 5 w ya ros → Rw (RoR 0) 5 w yb ros → Calls Tryd.prog 34 #[.slice ya leny cya, .slice yb leny cyb] w fun e w' => e = .returned (.bool true) ∧ Grw w w') := fun w h h' => eqRoleS_yes ya yb leny cya cyb ros w h h' hl2 hy hsz
  clear h h' h2 h2' hsz
  have n0 : (gt != gt) = false := by simp
  have n1 : (gm.toList == gm.toList) = true := by simp
  have n2 : (wm.toList == wm.toList) = true := by simp
  have n3 : (rs != rs) = false := by simp
  go_enter Tryd.func14, Tryd.ntmps14
  go_wp2_with fail
  refine (HA.out _).mono ?_
  rintro e wx1 ⟨rfl, bx⟩
  have k0_0 : World.cell? _ ⟨w.heap.size, 0, none⟩ = some (.int .i64 ip) := bx.keep (a := ⟨w.heap.size, 0, none⟩) (v := .int .i64 ip) (by simp [go_sem])
  have k0_1 : World.cell? _ ⟨w.heap.size, 1, none⟩ = some (.int .i64 b) := bx.keep (a := ⟨w.heap.size, 1, none⟩) (v := .int .i64 b) (by simp [go_sem])
  have k0_2 : World.cell? _ ⟨w.heap.size, 2, none⟩ = some (.int .i64 gt) := bx.keep (a := ⟨w.heap.size, 2, none⟩) (v := .int .i64 gt) (by simp [go_sem])
  have k0_3 : World.cell? _ ⟨w.heap.size, 3, none⟩ = some (.string gm) := bx.keep (a := ⟨w.heap.size, 3, none⟩) (v := .string gm) (by simp [go_sem])
  have k0_4 : World.cell? _ ⟨w.heap.size, 4, none⟩ = some (.string wm) := bx.keep (a := ⟨w.heap.size, 4, none⟩) (v := .string wm) (by simp [go_sem])
  have k0_5 : World.cell? _ ⟨w.heap.size, 5, none⟩ = some (.int .i64 rs) := bx.keep (a := ⟨w.heap.size, 5, none⟩) (v := .int .i64 rs) (by simp [go_sem])
  have k0_6 : World.cell? _ ⟨w.heap.size, 6, none⟩ = some (.slice xa lenx cxa) := bx.keep (a := ⟨w.heap.size, 6, none⟩) (v := .slice xa lenx cxa) (by simp [go_sem])
  have k0_7 : World.cell? _ ⟨w.heap.size, 7, none⟩ = some (.slice ya leny cya) := bx.keep (a := ⟨w.heap.size, 7, none⟩) (v := .slice ya leny cya) (by simp [go_sem])
  have k1_0 : World.cell? _ ⟨w.heap.size + 1, 0, none⟩ = some (.int .i64 ip) := bx.keep (a := ⟨w.heap.size + 1, 0, none⟩) (v := .int .i64 ip) (by simp [go_sem])
  have k1_1 : World.cell? _ ⟨w.heap.size + 1, 1, none⟩ = some (.int .i64 b) := bx.keep (a := ⟨w.heap.size + 1, 1, none⟩) (v := .int .i64 b) (by simp [go_sem])
  have k1_2 : World.cell? _ ⟨w.heap.size + 1, 2, none⟩ = some (.int .i64 gt) := bx.keep (a := ⟨w.heap.size + 1, 2, none⟩) (v := .int .i64 gt) (by simp [go_sem])
  have k1_3 : World.cell? _ ⟨w.heap.size + 1, 3, none⟩ = some (.string gm) := bx.keep (a := ⟨w.heap.size + 1, 3, none⟩) (v := .string gm) (by simp [go_sem])
  have k1_4 : World.cell? _ ⟨w.heap.size + 1, 4, none⟩ = some (.string wm) := bx.keep (a := ⟨w.heap.size + 1, 4, none⟩) (v := .string wm) (by simp [go_sem])
  have k1_5 : World.cell? _ ⟨w.heap.size + 1, 5, none⟩ = some (.int .i64 rs) := bx.keep (a := ⟨w.heap.size + 1, 5, none⟩) (v := .int .i64 rs) (by simp [go_sem])
  have k1_6 : World.cell? _ ⟨w.heap.size + 1, 6, none⟩ = some (.slice xb lenx cxb) := bx.keep (a := ⟨w.heap.size + 1, 6, none⟩) (v := .slice xb lenx cxb) (by simp [go_sem])
  have k1_7 : World.cell? _ ⟨w.heap.size + 1, 7, none⟩ = some (.slice yb leny cyb) := bx.keep (a := ⟨w.heap.size + 1, 7, none⟩) (v := .slice yb leny cyb) (by simp [go_sem])
  have BX : Hid (Grw w _) := (((Grw.refl _).alloc _).alloc _).trans bx
  clear bx
  go_wp2_with fail
  refine (HB.out _ (RX.out.1.keep PlR.kp BX.out.below) (RX.out.2.keep PlR.kp BX.out.below)).mono ?_
  rintro e wx2 ⟨rfl, bx⟩
  replace k0_0 := bx.keep k0_0
  replace k0_1 := bx.keep k0_1
  replace k0_2 := bx.keep k0_2
  replace k0_3 := bx.keep k0_3
  replace k0_4 := bx.keep k0_4
  replace k0_5 := bx.keep k0_5
  replace k0_6 := bx.keep k0_6
  replace k0_7 := bx.keep k0_7
  replace k1_0 := bx.keep k1_0
  replace k1_1 := bx.keep k1_1
  replace k1_2 := bx.keep k1_2
  replace k1_3 := bx.keep k1_3
  replace k1_4 := bx.keep k1_4
  replace k1_5 := bx.keep k1_5
  replace k1_6 := bx.keep k1_6
  replace k1_7 := bx.keep k1_7
  replace BX : Hid (Grw w _) := BX.out.trans bx
  clear bx
  go_wp2_with fail
  refine (HC.out _ (RY.out.1.keep (RoR.kp 0) BX.out.below) (RY.out.2.keep (RoR.kp 0) BX.out.below)).mono ?_
  rintro e wx3 ⟨rfl, bx⟩
  replace k0_0 := bx.keep k0_0
  replace k0_1 := bx.keep k0_1
  replace k0_2 := bx.keep k0_2
  replace k0_3 := bx.keep k0_3
  replace k0_4 := bx.keep k0_4
  replace k0_5 := bx.keep k0_5
  replace k0_6 := bx.keep k0_6
  replace k0_7 := bx.keep k0_7
  replace k1_0 := bx.keep k1_0
  replace k1_1 := bx.keep k1_1
  replace k1_2 := bx.keep k1_2
  replace k1_3 := bx.keep k1_3
  replace k1_4 := bx.keep k1_4
  replace k1_5 := bx.keep k1_5
  replace k1_6 := bx.keep k1_6
  replace k1_7 := bx.keep k1_7
  replace BX : Hid (Grw w _) := BX.out.trans bx
  clear bx
  go_wp2
  go_ret
  exact ⟨rfl, BX.out⟩
end Go.Proofs.YtbeehlhcckndcaaDoor
