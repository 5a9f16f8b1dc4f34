/- Gateways in the laws: measured, copied, compared. -/
import Derived.Test.YtlebblmlbhnppaaGreatGtV
import Derived.Test.YtlebblmlbhnppaaGreatLawConf
import Derived.Test.YtlebblmlbhnppaaGreatLawGu
import Derived.Test.YtlebblmlbhnppaaGreatLawF
import Derived.Test.YtlebblmlbhnppaaGreatLawCl
import Derived.Test.YtlebblmlbhnppaaGreatBxA
namespace Go.Proofs.YtlebblmlbhnppaaGreat
open Go.RowKit Go.PlainAid Go.Proofs.YtlebblmlbhnppaaGreat.Bt Go.Sort
set_option linter.unusedVariables false
set_option maxRecDepth 20000
/-- What is known of a gateway that is not too large. -/
structure GtS (g : GtV) : Prop where
  gm : g.gm.size ≤ 1048576
  wm : g.wm.size ≤ 1048576
  ps : g.ps.length ≤ 1048576
  ros : g.ros.length ≤ 1048576
  us : g.us.length ≤ 1048576
  ss : g.ss.length ≤ 1048576
  fs : g.fs.length ≤ 1048576
  es : g.es.length ≤ 1048576
  fl : g.fl.length ≤ 1048576
  co : g.co.length ≤ 1048576
  szr : SzR g.ros
  szu : szL wtUser g.us ≤ 1048576
  szs : szL wtSession g.ss ≤ 1048576
  szf : szL wtFail g.fs ≤ 1048576
  szl : ∀ x, x ∈ g.fl → (x.mc.size : Int) ≤ 1048576
  szc : ∀ x, x ∈ g.co → (x.mc.size : Int) ≤ 1048576 ∧ (x.inn.size : Int) ≤ 1048576 ∧ (x.out.size : Int) ≤ 1048576
set_option maxHeartbeats 4000000 in
theorem szGateway_any (A : GtA) (g : GtV) (w : World) (h : GtR w A g) (hb : GtB A g) :
    Calls Tryz.prog 21 #[.agg #[.int .i64 g.ip, .int .i64 g.b, .int .i64 g.gt, .string g.gm, .string g.wm, .int .i64 g.rs, .slice A.x g.ps.length A.xc, .slice A.y g.ros.length A.yc, .slice A.ua g.us.length A.uc, .slice A.sa g.ss.length A.sc, .slice A.fa g.fs.length A.fc, .slice A.ra g.es.length A.rc, .int .i64 g.nx, .slice A.la g.fl.length A.lc, .slice A.ca g.co.length A.cc, .int .i64 g.nw, .int .i64 g.dr, .int .i64 g.sn], .int .i64 1048576] w fun e w' => ∃ r : Int, e = .returned (.int .i64 r) ∧ (0 ≤ r → GtS g) ∧ Below w.heap.size w w' := by
  have GR : Hid (GtR w A g) := h
  have HZ : Hid (∀ w, GtR w A g → Calls Tryz.prog 8 #[.agg #[.int .i64 g.ip, .int .i64 g.b, .int .i64 g.gt, .string g.gm, .string g.wm, .int .i64 g.rs, .slice A.x g.ps.length A.xc, .slice A.y g.ros.length A.yc], .int .i64 1048576] w fun e w' => ∃ r : Int, e = .returned (.int .i64 r) ∧ (0 ≤ r → (g.gm.size : Int) + g.wm.size + (g.ps.length : Int) + (g.ros.length : Int) + szR g.ros ≤ 1048576) ∧ -1 ≤ r ∧ r ≤ 1048576 ∧ Below w.heap.size w w') := fun w h => (szConfig_any _ _ _ _ _ _ _ _ _ _ _ _ g.ps g.ros w h.ps rfl h.ros rfl (Nat.le_trans hb.gm (by decide)) (Nat.le_trans hb.wm (by decide)) (Nat.le_trans hb.ps.1 (Nat.le_trans hb.ps.2 (by decide))) (Nat.le_trans hb.ros.1 (Nat.le_trans hb.ros.2 (by decide)))).mono fun e w' ⟨r, h1, h2, h3, h4, h5⟩ => ⟨r, h1, h2, h3, h4, h5.below⟩
  have HY : Hid (∀ (l : Int) w, 0 ≤ l → l ≤ 1048576 → GtR w A g → Calls Tryz.prog 9 #[.agg #[.slice A.ua g.us.length A.uc, .slice A.sa g.ss.length A.sc, .slice A.fa g.fs.length A.fc, .slice A.ra g.es.length A.rc, .int .i64 g.nx], .int .i64 l] w fun e w' => ∃ r : Int, e = .returned (.int .i64 r) ∧ (0 ≤ r → ((g.us.length : Int) + szL wtUser g.us + (g.ss.length : Int) + szL wtSession g.ss + (g.fs.length : Int) + szL wtFail g.fs + (g.es.length : Int)) ≤ l) ∧ -1 ≤ r ∧ r ≤ 1048576 ∧ Below w.heap.size w w') := fun l w h0 h1 h => (szGuests_any _ _ _ _ _ _ _ _ _ _ _ _ g.us g.ss g.fs g.es g.nx l w h.us rfl h.ss rfl h.fs rfl h.es rfl (Nat.le_trans hb.us.1 (Nat.le_trans hb.us.2 (by decide))) (Nat.le_trans hb.ss.1 (Nat.le_trans hb.ss.2 (by decide))) (Nat.le_trans hb.fs.1 (Nat.le_trans hb.fs.2 (by decide))) (Nat.le_trans hb.es.1 (Nat.le_trans hb.es.2 (by decide))) h0 h1).mono fun e w' ⟨r, h1, h2, h3, h4, h5⟩ => ⟨r, h1, h2, h3, h4, h5.below⟩
  have HF : Hid (∀ (l : Int) w, 0 ≤ l → l ≤ 1048576 → GtR w A g → Calls Tryz.prog 72 #[.slice A.la g.fl.length A.lc, .int .i64 l] w fun e w' => ∃ r : Int, e = .returned (.int .i64 r) ∧ (0 ≤ r → (g.fl.length : Int) ≤ l ∧ r ≤ l ∧ ∀ x, x ∈ g.fl → (x.mc.size : Int) ≤ 1048576) ∧ -1 ≤ r ∧ r ≤ 1048576 ∧ Below w.heap.size w w') := fun l w h0 h1 h => (szFlowS_any _ _ _ g.fl l w h.fl rfl (Nat.le_trans hb.fl.1 (Nat.le_trans hb.fl.2 (by decide))) h0 h1).mono fun e w' ⟨r, h1, h2, h3, h4, h5⟩ => ⟨r, h1, h2, h3, h4, h5.below⟩
  have HC : Hid (∀ (l : Int) w, 0 ≤ l → l ≤ 1048576 → GtR w A g → Calls Tryz.prog 73 #[.slice A.ca g.co.length A.cc, .int .i64 l] w fun e w' => ∃ r : Int, e = .returned (.int .i64 r) ∧ (0 ≤ r → (g.co.length : Int) ≤ l ∧ r ≤ l ∧ ∀ x, x ∈ g.co → ((x.mc.size : Int) ≤ 1048576 ∧ (x.inn.size : Int) ≤ 1048576 ∧ (x.out.size : Int) ≤ 1048576)) ∧ -1 ≤ r ∧ r ≤ 1048576 ∧ Below w.heap.size w w') := fun l w h0 h1 h => (szConnS_any _ _ _ g.co l w h.co rfl (Nat.le_trans hb.co.1 (Nat.le_trans hb.co.2 (by decide))) h0 h1).mono fun e w' ⟨r, h1, h2, h3, h4, h5⟩ => ⟨r, h1, h2, h3, h4, h5.below⟩
  clear h hb
  go_enter Tryz.func21, Tryz.ntmps21
  go_wp2_with fail
  refine (HZ.out _ (GR.out.below ((Below.refl w.heap.size w).alloc (by simp <;> omega) _))).mono ?_
  rintro e wx1 ⟨r1, rfl, hr1, hr2, hr3, bx⟩
  have c1_0_0 : wx1.cell? ⟨w.heap.size, 0, none⟩ = some (.int .i64 g.ip) := bkeep bx (by simp [go_sem])
  have c1_0_1 : wx1.cell? ⟨w.heap.size, 1, none⟩ = some (.int .i64 g.b) := bkeep bx (by simp [go_sem])
  have c1_0_2 : wx1.cell? ⟨w.heap.size, 2, none⟩ = some (.int .i64 g.gt) := bkeep bx (by simp [go_sem])
  have c1_0_3 : wx1.cell? ⟨w.heap.size, 3, none⟩ = some (.string g.gm) := bkeep bx (by simp [go_sem])
  have c1_0_4 : wx1.cell? ⟨w.heap.size, 4, none⟩ = some (.string g.wm) := bkeep bx (by simp [go_sem])
  have c1_0_5 : wx1.cell? ⟨w.heap.size, 5, none⟩ = some (.int .i64 g.rs) := bkeep bx (by simp [go_sem])
  have c1_0_6 : wx1.cell? ⟨w.heap.size, 6, none⟩ = some (.slice A.x g.ps.length A.xc) := bkeep bx (by simp [go_sem])
  have c1_0_7 : wx1.cell? ⟨w.heap.size, 7, none⟩ = some (.slice A.y g.ros.length A.yc) := bkeep bx (by simp [go_sem])
  have c1_0_8 : wx1.cell? ⟨w.heap.size, 8, none⟩ = some (.slice A.ua g.us.length A.uc) := bkeep bx (by simp [go_sem])
  have c1_0_9 : wx1.cell? ⟨w.heap.size, 9, none⟩ = some (.slice A.sa g.ss.length A.sc) := bkeep bx (by simp [go_sem])
  have c1_0_10 : wx1.cell? ⟨w.heap.size, 10, none⟩ = some (.slice A.fa g.fs.length A.fc) := bkeep bx (by simp [go_sem])
  have c1_0_11 : wx1.cell? ⟨w.heap.size, 11, none⟩ = some (.slice A.ra g.es.length A.rc) := bkeep bx (by simp [go_sem])
  have c1_0_12 : wx1.cell? ⟨w.heap.size, 12, none⟩ = some (.int .i64 g.nx) := bkeep bx (by simp [go_sem])
  have c1_0_13 : wx1.cell? ⟨w.heap.size, 13, none⟩ = some (.slice A.la g.fl.length A.lc) := bkeep bx (by simp [go_sem])
  have c1_0_14 : wx1.cell? ⟨w.heap.size, 14, none⟩ = some (.slice A.ca g.co.length A.cc) := bkeep bx (by simp [go_sem])
  have c1_0_15 : wx1.cell? ⟨w.heap.size, 15, none⟩ = some (.int .i64 g.nw) := bkeep bx (by simp [go_sem])
  have c1_0_16 : wx1.cell? ⟨w.heap.size, 16, none⟩ = some (.int .i64 g.dr) := bkeep bx (by simp [go_sem])
  have c1_0_17 : wx1.cell? ⟨w.heap.size, 17, none⟩ = some (.int .i64 g.sn) := bkeep bx (by simp [go_sem])
  have BX1 : Hid (Below w.heap.size w wx1) := ((Below.refl w.heap.size w).alloc (by simp <;> omega) _).trans (bx.mono (by simp <;> omega))
  clear bx
  by_cases k1 : r1 < 0
  · go_wp2
    go_ret
    exact ⟨-1, rfl, fun h => absurd h (by omega), BX1.out⟩
  have s1 : Hid ((g.gm.size : Int) + g.wm.size + (g.ps.length : Int) + (g.ros.length : Int) + szR g.ros ≤ 1048576) := hr1 (by omega)
  clear hr1
  go_wp2_with fail
  refine (HY.out r1 _ (by omega) (by omega) (GR.out.below BX1.out)).mono ?_
  rintro e wx2 ⟨r2, rfl, ht1, ht2, ht3, bx⟩
  have c2_0_0 : wx2.cell? ⟨w.heap.size, 0, none⟩ = some (.int .i64 g.ip) := bkeep bx (by first | (simp [go_sem]; done) | simp [go_sem, c1_0_0])
  have c2_0_1 : wx2.cell? ⟨w.heap.size, 1, none⟩ = some (.int .i64 g.b) := bkeep bx (by first | (simp [go_sem]; done) | simp [go_sem, c1_0_1])
  have c2_0_2 : wx2.cell? ⟨w.heap.size, 2, none⟩ = some (.int .i64 g.gt) := bkeep bx (by first | (simp [go_sem]; done) | simp [go_sem, c1_0_2])
  have c2_0_3 : wx2.cell? ⟨w.heap.size, 3, none⟩ = some (.string g.gm) := bkeep bx (by first | (simp [go_sem]; done) | simp [go_sem, c1_0_3])
  have c2_0_4 : wx2.cell? ⟨w.heap.size, 4, none⟩ = some (.string g.wm) := bkeep bx (by first | (simp [go_sem]; done) | simp [go_sem, c1_0_4])
  have c2_0_5 : wx2.cell? ⟨w.heap.size, 5, none⟩ = some (.int .i64 g.rs) := bkeep bx (by first | (simp [go_sem]; done) | simp [go_sem, c1_0_5])
  have c2_0_6 : wx2.cell? ⟨w.heap.size, 6, none⟩ = some (.slice A.x g.ps.length A.xc) := bkeep bx (by first | (simp [go_sem]; done) | simp [go_sem, c1_0_6])
  have c2_0_7 : wx2.cell? ⟨w.heap.size, 7, none⟩ = some (.slice A.y g.ros.length A.yc) := bkeep bx (by first | (simp [go_sem]; done) | simp [go_sem, c1_0_7])
  have c2_0_8 : wx2.cell? ⟨w.heap.size, 8, none⟩ = some (.slice A.ua g.us.length A.uc) := bkeep bx (by first | (simp [go_sem]; done) | simp [go_sem, c1_0_8])
  have c2_0_9 : wx2.cell? ⟨w.heap.size, 9, none⟩ = some (.slice A.sa g.ss.length A.sc) := bkeep bx (by first | (simp [go_sem]; done) | simp [go_sem, c1_0_9])
  have c2_0_10 : wx2.cell? ⟨w.heap.size, 10, none⟩ = some (.slice A.fa g.fs.length A.fc) := bkeep bx (by first | (simp [go_sem]; done) | simp [go_sem, c1_0_10])
  have c2_0_11 : wx2.cell? ⟨w.heap.size, 11, none⟩ = some (.slice A.ra g.es.length A.rc) := bkeep bx (by first | (simp [go_sem]; done) | simp [go_sem, c1_0_11])
  have c2_0_12 : wx2.cell? ⟨w.heap.size, 12, none⟩ = some (.int .i64 g.nx) := bkeep bx (by first | (simp [go_sem]; done) | simp [go_sem, c1_0_12])
  have c2_0_13 : wx2.cell? ⟨w.heap.size, 13, none⟩ = some (.slice A.la g.fl.length A.lc) := bkeep bx (by first | (simp [go_sem]; done) | simp [go_sem, c1_0_13])
  have c2_0_14 : wx2.cell? ⟨w.heap.size, 14, none⟩ = some (.slice A.ca g.co.length A.cc) := bkeep bx (by first | (simp [go_sem]; done) | simp [go_sem, c1_0_14])
  have c2_0_15 : wx2.cell? ⟨w.heap.size, 15, none⟩ = some (.int .i64 g.nw) := bkeep bx (by first | (simp [go_sem]; done) | simp [go_sem, c1_0_15])
  have c2_0_16 : wx2.cell? ⟨w.heap.size, 16, none⟩ = some (.int .i64 g.dr) := bkeep bx (by first | (simp [go_sem]; done) | simp [go_sem, c1_0_16])
  have c2_0_17 : wx2.cell? ⟨w.heap.size, 17, none⟩ = some (.int .i64 g.sn) := bkeep bx (by first | (simp [go_sem]; done) | simp [go_sem, c1_0_17])
  have BX2 : Hid (Below w.heap.size w wx2) := BX1.out.trans (bx.mono (by have := BX1.out.size; simp <;> omega))
  clear bx c1_0_0 c1_0_1 c1_0_2 c1_0_3 c1_0_4 c1_0_5 c1_0_6 c1_0_7 c1_0_8 c1_0_9 c1_0_10 c1_0_11 c1_0_12 c1_0_13 c1_0_14 c1_0_15 c1_0_16 c1_0_17 BX1
  by_cases k2 : r2 < 0
  · go_wp2
    go_ret
    exact ⟨-1, rfl, fun h => absurd h (by omega), BX2.out⟩
  have s2 : Hid (((g.us.length : Int) + szL wtUser g.us + (g.ss.length : Int) + szL wtSession g.ss + (g.fs.length : Int) + szL wtFail g.fs + (g.es.length : Int)) ≤ r1) := ht1 (by omega)
  clear ht1
  go_wp2_with fail
  refine (HF.out r2 _ (by omega) (by omega) (GR.out.below BX2.out)).mono ?_
  rintro e wx3 ⟨r3, rfl, hu1, hu2, hu3, bx⟩
  have c3_0_0 : wx3.cell? ⟨w.heap.size, 0, none⟩ = some (.int .i64 g.ip) := bkeep bx (by first | (simp [go_sem]; done) | simp [go_sem, c2_0_0])
  have c3_0_1 : wx3.cell? ⟨w.heap.size, 1, none⟩ = some (.int .i64 g.b) := bkeep bx (by first | (simp [go_sem]; done) | simp [go_sem, c2_0_1])
  have c3_0_2 : wx3.cell? ⟨w.heap.size, 2, none⟩ = some (.int .i64 g.gt) := bkeep bx (by first | (simp [go_sem]; done) | simp [go_sem, c2_0_2])
  have c3_0_3 : wx3.cell? ⟨w.heap.size, 3, none⟩ = some (.string g.gm) := bkeep bx (by first | (simp [go_sem]; done) | simp [go_sem, c2_0_3])
  have c3_0_4 : wx3.cell? ⟨w.heap.size, 4, none⟩ = some (.string g.wm) := bkeep bx (by first | (simp [go_sem]; done) | simp [go_sem, c2_0_4])
  have c3_0_5 : wx3.cell? ⟨w.heap.size, 5, none⟩ = some (.int .i64 g.rs) := bkeep bx (by first | (simp [go_sem]; done) | simp [go_sem, c2_0_5])
  have c3_0_6 : wx3.cell? ⟨w.heap.size, 6, none⟩ = some (.slice A.x g.ps.length A.xc) := bkeep bx (by first | (simp [go_sem]; done) | simp [go_sem, c2_0_6])
  have c3_0_7 : wx3.cell? ⟨w.heap.size, 7, none⟩ = some (.slice A.y g.ros.length A.yc) := bkeep bx (by first | (simp [go_sem]; done) | simp [go_sem, c2_0_7])
  have c3_0_8 : wx3.cell? ⟨w.heap.size, 8, none⟩ = some (.slice A.ua g.us.length A.uc) := bkeep bx (by first | (simp [go_sem]; done) | simp [go_sem, c2_0_8])
  have c3_0_9 : wx3.cell? ⟨w.heap.size, 9, none⟩ = some (.slice A.sa g.ss.length A.sc) := bkeep bx (by first | (simp [go_sem]; done) | simp [go_sem, c2_0_9])
  have c3_0_10 : wx3.cell? ⟨w.heap.size, 10, none⟩ = some (.slice A.fa g.fs.length A.fc) := bkeep bx (by first | (simp [go_sem]; done) | simp [go_sem, c2_0_10])
  have c3_0_11 : wx3.cell? ⟨w.heap.size, 11, none⟩ = some (.slice A.ra g.es.length A.rc) := bkeep bx (by first | (simp [go_sem]; done) | simp [go_sem, c2_0_11])
  have c3_0_12 : wx3.cell? ⟨w.heap.size, 12, none⟩ = some (.int .i64 g.nx) := bkeep bx (by first | (simp [go_sem]; done) | simp [go_sem, c2_0_12])
  have c3_0_13 : wx3.cell? ⟨w.heap.size, 13, none⟩ = some (.slice A.la g.fl.length A.lc) := bkeep bx (by first | (simp [go_sem]; done) | simp [go_sem, c2_0_13])
  have c3_0_14 : wx3.cell? ⟨w.heap.size, 14, none⟩ = some (.slice A.ca g.co.length A.cc) := bkeep bx (by first | (simp [go_sem]; done) | simp [go_sem, c2_0_14])
  have c3_0_15 : wx3.cell? ⟨w.heap.size, 15, none⟩ = some (.int .i64 g.nw) := bkeep bx (by first | (simp [go_sem]; done) | simp [go_sem, c2_0_15])
  have c3_0_16 : wx3.cell? ⟨w.heap.size, 16, none⟩ = some (.int .i64 g.dr) := bkeep bx (by first | (simp [go_sem]; done) | simp [go_sem, c2_0_16])
  have c3_0_17 : wx3.cell? ⟨w.heap.size, 17, none⟩ = some (.int .i64 g.sn) := bkeep bx (by first | (simp [go_sem]; done) | simp [go_sem, c2_0_17])
  have BX3 : Hid (Below w.heap.size w wx3) := BX2.out.trans (bx.mono (by have := BX2.out.size; simp <;> omega))
  clear bx c2_0_0 c2_0_1 c2_0_2 c2_0_3 c2_0_4 c2_0_5 c2_0_6 c2_0_7 c2_0_8 c2_0_9 c2_0_10 c2_0_11 c2_0_12 c2_0_13 c2_0_14 c2_0_15 c2_0_16 c2_0_17 BX2
  by_cases k3 : r3 < 0
  · go_wp2
    go_ret
    exact ⟨-1, rfl, fun h => absurd h (by omega), BX3.out⟩
  have s3 : Hid ((g.fl.length : Int) ≤ r2 ∧ ∀ x, x ∈ g.fl → (x.mc.size : Int) ≤ 1048576) := ⟨(hu1 (by omega)).1, (hu1 (by omega)).2.2⟩
  clear hu1
  go_wp2_with fail
  refine (HC.out r3 _ (by omega) (by omega) (GR.out.below BX3.out)).mono ?_
  rintro e wx4 ⟨r4, rfl, hv1, hv2, hv3, bx⟩
  have c4_0_0 : wx4.cell? ⟨w.heap.size, 0, none⟩ = some (.int .i64 g.ip) := bkeep bx (by first | (simp [go_sem]; done) | simp [go_sem, c3_0_0])
  have c4_0_1 : wx4.cell? ⟨w.heap.size, 1, none⟩ = some (.int .i64 g.b) := bkeep bx (by first | (simp [go_sem]; done) | simp [go_sem, c3_0_1])
  have c4_0_2 : wx4.cell? ⟨w.heap.size, 2, none⟩ = some (.int .i64 g.gt) := bkeep bx (by first | (simp [go_sem]; done) | simp [go_sem, c3_0_2])
  have c4_0_3 : wx4.cell? ⟨w.heap.size, 3, none⟩ = some (.string g.gm) := bkeep bx (by first | (simp [go_sem]; done) | simp [go_sem, c3_0_3])
  have c4_0_4 : wx4.cell? ⟨w.heap.size, 4, none⟩ = some (.string g.wm) := bkeep bx (by first | (simp [go_sem]; done) | simp [go_sem, c3_0_4])
  have c4_0_5 : wx4.cell? ⟨w.heap.size, 5, none⟩ = some (.int .i64 g.rs) := bkeep bx (by first | (simp [go_sem]; done) | simp [go_sem, c3_0_5])
  have c4_0_6 : wx4.cell? ⟨w.heap.size, 6, none⟩ = some (.slice A.x g.ps.length A.xc) := bkeep bx (by first | (simp [go_sem]; done) | simp [go_sem, c3_0_6])
  have c4_0_7 : wx4.cell? ⟨w.heap.size, 7, none⟩ = some (.slice A.y g.ros.length A.yc) := bkeep bx (by first | (simp [go_sem]; done) | simp [go_sem, c3_0_7])
  have c4_0_8 : wx4.cell? ⟨w.heap.size, 8, none⟩ = some (.slice A.ua g.us.length A.uc) := bkeep bx (by first | (simp [go_sem]; done) | simp [go_sem, c3_0_8])
  have c4_0_9 : wx4.cell? ⟨w.heap.size, 9, none⟩ = some (.slice A.sa g.ss.length A.sc) := bkeep bx (by first | (simp [go_sem]; done) | simp [go_sem, c3_0_9])
  have c4_0_10 : wx4.cell? ⟨w.heap.size, 10, none⟩ = some (.slice A.fa g.fs.length A.fc) := bkeep bx (by first | (simp [go_sem]; done) | simp [go_sem, c3_0_10])
  have c4_0_11 : wx4.cell? ⟨w.heap.size, 11, none⟩ = some (.slice A.ra g.es.length A.rc) := bkeep bx (by first | (simp [go_sem]; done) | simp [go_sem, c3_0_11])
  have c4_0_12 : wx4.cell? ⟨w.heap.size, 12, none⟩ = some (.int .i64 g.nx) := bkeep bx (by first | (simp [go_sem]; done) | simp [go_sem, c3_0_12])
  have c4_0_13 : wx4.cell? ⟨w.heap.size, 13, none⟩ = some (.slice A.la g.fl.length A.lc) := bkeep bx (by first | (simp [go_sem]; done) | simp [go_sem, c3_0_13])
  have c4_0_14 : wx4.cell? ⟨w.heap.size, 14, none⟩ = some (.slice A.ca g.co.length A.cc) := bkeep bx (by first | (simp [go_sem]; done) | simp [go_sem, c3_0_14])
  have c4_0_15 : wx4.cell? ⟨w.heap.size, 15, none⟩ = some (.int .i64 g.nw) := bkeep bx (by first | (simp [go_sem]; done) | simp [go_sem, c3_0_15])
  have c4_0_16 : wx4.cell? ⟨w.heap.size, 16, none⟩ = some (.int .i64 g.dr) := bkeep bx (by first | (simp [go_sem]; done) | simp [go_sem, c3_0_16])
  have c4_0_17 : wx4.cell? ⟨w.heap.size, 17, none⟩ = some (.int .i64 g.sn) := bkeep bx (by first | (simp [go_sem]; done) | simp [go_sem, c3_0_17])
  have BX4 : Hid (Below w.heap.size w wx4) := BX3.out.trans (bx.mono (by have := BX3.out.size; simp <;> omega))
  clear bx c3_0_0 c3_0_1 c3_0_2 c3_0_3 c3_0_4 c3_0_5 c3_0_6 c3_0_7 c3_0_8 c3_0_9 c3_0_10 c3_0_11 c3_0_12 c3_0_13 c3_0_14 c3_0_15 c3_0_16 c3_0_17 BX3
  by_cases k4 : r4 < 0
  · go_wp2
    go_ret
    exact ⟨-1, rfl, fun h => absurd h (by omega), BX4.out⟩
  have s4 : Hid ((g.co.length : Int) ≤ r3 ∧ ∀ x, x ∈ g.co → ((x.mc.size : Int) ≤ 1048576 ∧ (x.inn.size : Int) ≤ 1048576 ∧ (x.out.size : Int) ≤ 1048576)) := ⟨(hv1 (by omega)).1, (hv1 (by omega)).2.2⟩
  clear hv1
  have FIN : Hid (GtS g) := by
    have a1 := s1.out; have a2 := s2.out; have a3 := s3.out; have a4 := s4.out
    have n1 := szR_nonneg g.ros
    have n2 := szL_nonneg wtUser_nn g.us
    have n3 := szL_nonneg wtSession_nn g.ss
    have n4 := szL_nonneg wtFail_nn g.fs
    exact ⟨by omega, by omega, by omega, by omega, by omega, by omega, by omega, by omega, by omega, by omega, SzR_of (n := 1048576) (by omega) (by omega), by omega, by omega, by omega, a3.2, a4.2⟩
  clear s1 s2 s3 s4
  go_wp2
  go_ret
  exact ⟨r4, rfl, fun _ => FIN.out, BX4.out⟩
theorem row_put {α : Type} {R : World → α → List Value → Prop} {K : Nat} {w : World} {b q o : Nat} {xs : List α} {vs : List Value} (h : Rw R K w (some ⟨b, 0, none⟩) xs) (hne : q ≠ b) (hR : ∀ w w' x vs, R w x vs → R w' x vs) : Rw R K (w.setCells q o vs) (some ⟨b, 0, none⟩) xs :=
  rw_keepB (B := fun k => k ≠ q) h (Nat.le_of_eq (heap_cellsA vs o w).1.symm) (fun k hk => (heap_cellsA vs o w).2 k hk) (fun b' off e _ => by cases e; exact fun e => hne e.symm) (fun _ _ h => hR _ _ _ _ h)
theorem row_putR {K : Nat} {w : World} {b q o lo : Nat} {xs : List RoleV} {vs : List Value} (h : Rw (RoR lo) K w (some ⟨b, 0, none⟩) xs) (hne : q ≠ b) (hlo : q < lo) : Rw (RoR lo) K (w.setCells q o vs) (some ⟨b, 0, none⟩) xs :=
  rw_keepB (B := fun k => k ≠ q) h (Nat.le_of_eq (heap_cellsA vs o w).1.symm) (fun k hk => (heap_cellsA vs o w).2 k hk) (fun b' off e _ => by cases e; exact fun e => hne e.symm) (fun x us h => by
    obtain ⟨a, cap, h1, h2, h3, h4, h5, h6⟩ := h
    refine ⟨a, cap, h1, h2, h3, h4, rw_keepB (B := fun k => k ≠ q) h5 (Nat.le_of_eq (heap_cellsA vs o w).1.symm) (fun k hk => (heap_cellsA vs o w).2 k hk) (fun b' off e _ => ?_) (fun _ _ h => h), h6⟩
    have := h6 b' off e
    omega)
/-- The three boxes of toGateway. -/
structure TG (w : World) (A : GtA) (g : GtV) (cs : List Value) (W : World) : Prop where
  a : Bx W w.heap.size (gtC A g)
  r : Bx W (w.heap.size + 1) [.int .i64 0, .int .i64 0, .int .i64 0, .string ⟨#[]⟩, .string ⟨#[]⟩, .int .i64 0, .slice none 0 0, .slice none 0 0, .slice none 0 0, .slice none 0 0, .slice none 0 0, .slice none 0 0, .int .i64 0, .slice none 0 0, .slice none 0 0, .int .i64 0, .int .i64 0, .int .i64 0]
  n : Bx W (w.heap.size + 1 + 1) cs
  b : Below w.heap.size w W
  z : w.heap.size + 1 + 1 + 1 ≤ W.heap.size
theorem TG.call {w : World} {A : GtA} {g : GtV} {cs : List Value} {W W' : World} (h : TG w A g cs W) (hb : Below W.heap.size W W') : TG w A g cs W' := ⟨h.a.below hb, h.r.below hb, h.n.below hb, h.b.trans (hb.mono h.b.size), Nat.le_trans h.z hb.size⟩
theorem TG.put {w : World} {A : GtA} {g : GtV} {cs : List Value} {W : World} (h : TG w A g cs W) (o : Nat) (vs : List Value) : TG w A g (sets cs o vs) (W.setCells (w.heap.size + 1 + 1) o vs) :=
  ⟨h.a.apartO vs (by omega), h.r.apartO vs (by omega), h.n.sets vs o _ _, below_cells (by omega) vs o _ h.b, by rw [(heap_cellsA vs o W).1]; exact h.z⟩
theorem TG.new (w : World) (A : GtA) (g : GtV) : TG w A g [.int .i64 0, .int .i64 0, .int .i64 0, .string ⟨#[]⟩, .string ⟨#[]⟩, .int .i64 0, .slice none 0 0, .slice none 0 0, .slice none 0 0, .slice none 0 0, .slice none 0 0, .slice none 0 0, .int .i64 0, .slice none 0 0, .slice none 0 0, .int .i64 0, .int .i64 0, .int .i64 0] (((w.alloc (.cells #[.int .i64 g.ip, .int .i64 g.b, .int .i64 g.gt, .string g.gm, .string g.wm, .int .i64 g.rs, .slice A.x g.ps.length A.xc, .slice A.y g.ros.length A.yc, .slice A.ua g.us.length A.uc, .slice A.sa g.ss.length A.sc, .slice A.fa g.fs.length A.fc, .slice A.ra g.es.length A.rc, .int .i64 g.nx, .slice A.la g.fl.length A.lc, .slice A.ca g.co.length A.cc, .int .i64 g.nw, .int .i64 g.dr, .int .i64 g.sn] 65)).alloc (.cells #[.int .i64 0, .int .i64 0, .int .i64 0, .string ⟨#[]⟩, .string ⟨#[]⟩, .int .i64 0, .slice none 0 0, .slice none 0 0, .slice none 0 0, .slice none 0 0, .slice none 0 0, .slice none 0 0, .int .i64 0, .slice none 0 0, .slice none 0 0, .int .i64 0, .int .i64 0, .int .i64 0] 50)).alloc (.cells #[.int .i64 0, .int .i64 0, .int .i64 0, .string ⟨#[]⟩, .string ⟨#[]⟩, .int .i64 0, .slice none 0 0, .slice none 0 0, .slice none 0 0, .slice none 0 0, .slice none 0 0, .slice none 0 0, .int .i64 0, .slice none 0 0, .slice none 0 0, .int .i64 0, .int .i64 0, .int .i64 0] 50)) := by
  refine ⟨?_, ?_, ?_, ?_, ?_⟩
  · exact ((Bx.new w #[.int .i64 g.ip, .int .i64 g.b, .int .i64 g.gt, .string g.gm, .string g.wm, .int .i64 g.rs, .slice A.x g.ps.length A.xc, .slice A.y g.ros.length A.yc, .slice A.ua g.us.length A.uc, .slice A.sa g.ss.length A.sc, .slice A.fa g.fs.length A.fc, .slice A.ra g.es.length A.rc, .int .i64 g.nx, .slice A.la g.fl.length A.lc, .slice A.ca g.co.length A.cc, .int .i64 g.nw, .int .i64 g.dr, .int .i64 g.sn] 65).below ((Below.refl _ _).alloc (Nat.le_refl _) _)).below ((Below.refl _ _).alloc (Nat.le_refl _) _)
  · have h := Bx.new (w.alloc (.cells #[.int .i64 g.ip, .int .i64 g.b, .int .i64 g.gt, .string g.gm, .string g.wm, .int .i64 g.rs, .slice A.x g.ps.length A.xc, .slice A.y g.ros.length A.yc, .slice A.ua g.us.length A.uc, .slice A.sa g.ss.length A.sc, .slice A.fa g.fs.length A.fc, .slice A.ra g.es.length A.rc, .int .i64 g.nx, .slice A.la g.fl.length A.lc, .slice A.ca g.co.length A.cc, .int .i64 g.nw, .int .i64 g.dr, .int .i64 g.sn] 65)) #[.int .i64 0, .int .i64 0, .int .i64 0, .string ⟨#[]⟩, .string ⟨#[]⟩, .int .i64 0, .slice none 0 0, .slice none 0 0, .slice none 0 0, .slice none 0 0, .slice none 0 0, .slice none 0 0, .int .i64 0, .slice none 0 0, .slice none 0 0, .int .i64 0, .int .i64 0, .int .i64 0] 50
    rw [World.size_alloc] at h
    exact h.below ((Below.refl _ _).alloc (Nat.le_refl _) _)
  · have h := Bx.new ((w.alloc (.cells #[.int .i64 g.ip, .int .i64 g.b, .int .i64 g.gt, .string g.gm, .string g.wm, .int .i64 g.rs, .slice A.x g.ps.length A.xc, .slice A.y g.ros.length A.yc, .slice A.ua g.us.length A.uc, .slice A.sa g.ss.length A.sc, .slice A.fa g.fs.length A.fc, .slice A.ra g.es.length A.rc, .int .i64 g.nx, .slice A.la g.fl.length A.lc, .slice A.ca g.co.length A.cc, .int .i64 g.nw, .int .i64 g.dr, .int .i64 g.sn] 65)).alloc (.cells #[.int .i64 0, .int .i64 0, .int .i64 0, .string ⟨#[]⟩, .string ⟨#[]⟩, .int .i64 0, .slice none 0 0, .slice none 0 0, .slice none 0 0, .slice none 0 0, .slice none 0 0, .slice none 0 0, .int .i64 0, .slice none 0 0, .slice none 0 0, .int .i64 0, .int .i64 0, .int .i64 0] 50)) #[.int .i64 0, .int .i64 0, .int .i64 0, .string ⟨#[]⟩, .string ⟨#[]⟩, .int .i64 0, .slice none 0 0, .slice none 0 0, .slice none 0 0, .slice none 0 0, .slice none 0 0, .slice none 0 0, .int .i64 0, .slice none 0 0, .slice none 0 0, .int .i64 0, .int .i64 0, .int .i64 0] 50
    rw [World.size_alloc, World.size_alloc] at h
    exact h
  · exact (((Below.refl _ _).alloc (Nat.le_refl _) _).alloc (by simp) _).alloc (by simp; omega) _
  · simp
theorem w0_size (w : World) (A : GtA) (g : GtV) : (((w.alloc (.cells #[.int .i64 g.ip, .int .i64 g.b, .int .i64 g.gt, .string g.gm, .string g.wm, .int .i64 g.rs, .slice A.x g.ps.length A.xc, .slice A.y g.ros.length A.yc, .slice A.ua g.us.length A.uc, .slice A.sa g.ss.length A.sc, .slice A.fa g.fs.length A.fc, .slice A.ra g.es.length A.rc, .int .i64 g.nx, .slice A.la g.fl.length A.lc, .slice A.ca g.co.length A.cc, .int .i64 g.nw, .int .i64 g.dr, .int .i64 g.sn] 65)).alloc (.cells #[.int .i64 0, .int .i64 0, .int .i64 0, .string ⟨#[]⟩, .string ⟨#[]⟩, .int .i64 0, .slice none 0 0, .slice none 0 0, .slice none 0 0, .slice none 0 0, .slice none 0 0, .slice none 0 0, .int .i64 0, .slice none 0 0, .slice none 0 0, .int .i64 0, .int .i64 0, .int .i64 0] 50)).alloc (.cells #[.int .i64 0, .int .i64 0, .int .i64 0, .string ⟨#[]⟩, .string ⟨#[]⟩, .int .i64 0, .slice none 0 0, .slice none 0 0, .slice none 0 0, .slice none 0 0, .slice none 0 0, .slice none 0 0, .int .i64 0, .slice none 0 0, .slice none 0 0, .int .i64 0, .int .i64 0, .int .i64 0] 50)).heap.size = w.heap.size + 1 + 1 + 1 := by simp
end Go.Proofs.YtlebblmlbhnppaaGreat
