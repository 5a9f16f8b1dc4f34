/- The walk of laws.FnExactBytesHold. -/
import Derived.Test.YtlebblmlbhnppaaGreatJ35
import Derived.Test.YtlebblmlbhnppaaGreatJ36
import Derived.Test.YtlebblmlbhnppaaGreatJ44
import Derived.Test.YtlebblmlbhnppaaGreatJ49
import Derived.Deep.RegionHeld3
namespace Go.Proofs.YtlebblmlbhnppaaGreat
open Go.RowKit Go.PlainAid Go.Proofs.YtlebblmlbhnppaaGreat.Bt Go.Sort
set_option linter.unusedVariables false
set_option maxRecDepth 20000
set_option maxHeartbeats 8000000 in
theorem lawBytesHold_any (A : GtA) (g : GtV) (w : World) (h : GtR w A g) (hb : GtB A g) :
    Calls Tryz.prog 7 #[.agg #[.int .i64 g.ip, .int .i64 g.b, .int .i64 g.gt, .string g.gm, .string g.wm, .int .i64 g.rs, .slice A.x g.ps.length A.xc, .slice A.y g.ros.length A.yc, .slice A.ua g.us.length A.uc, .slice A.sa g.ss.length A.sc, .slice A.fa g.fs.length A.fc, .slice A.ra g.es.length A.rc, .int .i64 g.nx, .slice A.la g.fl.length A.lc, .slice A.ca g.co.length A.cc, .int .i64 g.nw, .int .i64 g.dr, .int .i64 g.sn]] w fun e w' => e = .returned (.bool true) ∧ Below w.heap.size w w' := by
  have GR : Hid (GtR w A g) := h
  have HZ : Hid (∀ w, GtR w A g → Calls Tryz.prog 21 #[.agg #[.int .i64 g.ip, .int .i64 g.b, .int .i64 g.gt, .string g.gm, .string g.wm, .int .i64 g.rs, .slice A.x g.ps.length A.xc, .slice A.y g.ros.length A.yc, .slice A.ua g.us.length A.uc, .slice A.sa g.ss.length A.sc, .slice A.fa g.fs.length A.fc, .slice A.ra g.es.length A.rc, .int .i64 g.nx, .slice A.la g.fl.length A.lc, .slice A.ca g.co.length A.cc, .int .i64 g.nw, .int .i64 g.dr, .int .i64 g.sn], .int .i64 1048576] w fun e w' => ∃ r : Int, e = .returned (.int .i64 r) ∧ (0 ≤ r → GtS g) ∧ Below w.heap.size w w') := fun w h => szGateway_any A g w h hb
  clear h hb
  have A0 : Hid (Bx (w.alloc (.cells #[.int .i64 g.ip, .int .i64 g.b, .int .i64 g.gt, .string g.gm, .string g.wm, .int .i64 g.rs, .slice A.x g.ps.length A.xc, .slice A.y g.ros.length A.yc, .slice A.ua g.us.length A.uc, .slice A.sa g.ss.length A.sc, .slice A.fa g.fs.length A.fc, .slice A.ra g.es.length A.rc, .int .i64 g.nx, .slice A.la g.fl.length A.lc, .slice A.ca g.co.length A.cc, .int .i64 g.nw, .int .i64 g.dr, .int .i64 g.sn] 65)) w.heap.size [.int .i64 g.ip, .int .i64 g.b, .int .i64 g.gt, .string g.gm, .string g.wm, .int .i64 g.rs, .slice A.x g.ps.length A.xc, .slice A.y g.ros.length A.yc, .slice A.ua g.us.length A.uc, .slice A.sa g.ss.length A.sc, .slice A.fa g.fs.length A.fc, .slice A.ra g.es.length A.rc, .int .i64 g.nx, .slice A.la g.fl.length A.lc, .slice A.ca g.co.length A.cc, .int .i64 g.nw, .int .i64 g.dr, .int .i64 g.sn]) := Bx.new w #[.int .i64 g.ip, .int .i64 g.b, .int .i64 g.gt, .string g.gm, .string g.wm, .int .i64 g.rs, .slice A.x g.ps.length A.xc, .slice A.y g.ros.length A.yc, .slice A.ua g.us.length A.uc, .slice A.sa g.ss.length A.sc, .slice A.fa g.fs.length A.fc, .slice A.ra g.es.length A.rc, .int .i64 g.nx, .slice A.la g.fl.length A.lc, .slice A.ca g.co.length A.cc, .int .i64 g.nw, .int .i64 g.dr, .int .i64 g.sn] 65
  have X0 : Hid (Below w.heap.size w (w.alloc (.cells #[.int .i64 g.ip, .int .i64 g.b, .int .i64 g.gt, .string g.gm, .string g.wm, .int .i64 g.rs, .slice A.x g.ps.length A.xc, .slice A.y g.ros.length A.yc, .slice A.ua g.us.length A.uc, .slice A.sa g.ss.length A.sc, .slice A.fa g.fs.length A.fc, .slice A.ra g.es.length A.rc, .int .i64 g.nx, .slice A.la g.fl.length A.lc, .slice A.ca g.co.length A.cc, .int .i64 g.nw, .int .i64 g.dr, .int .i64 g.sn] 65))) := (Below.refl _ _).alloc (Nat.le_refl _) _
  go_enter Tryz.func7, Tryz.ntmps7
  go_wp2_with fail
  refine (HZ.out _ (GR.out.below X0.out)).mono ?_
  rintro e w1 ⟨r, rfl, hr, bx⟩
  have A1 : Hid (Bx w1 w.heap.size [.int .i64 g.ip, .int .i64 g.b, .int .i64 g.gt, .string g.gm, .string g.wm, .int .i64 g.rs, .slice A.x g.ps.length A.xc, .slice A.y g.ros.length A.yc, .slice A.ua g.us.length A.uc, .slice A.sa g.ss.length A.sc, .slice A.fa g.fs.length A.fc, .slice A.ra g.es.length A.rc, .int .i64 g.nx, .slice A.la g.fl.length A.lc, .slice A.ca g.co.length A.cc, .int .i64 g.nw, .int .i64 g.dr, .int .i64 g.sn]) := A0.out.below bx
  have X1 : Hid (Below w.heap.size w w1) := X0.out.trans (bx.mono X0.out.size)
  clear bx A0 X0 HZ
  as_aux_lemma =>
  by_cases hr0 : r < 0
  · go_wp2
    go_ret
    exact ⟨rfl, X1.out⟩
  have hs : GtS g := hr (by omega)
  have HT : Hid (∀ w, GtR w A g → Calls Tryz.prog 23 #[.agg #[.int .i64 g.ip, .int .i64 g.b, .int .i64 g.gt, .string g.gm, .string g.wm, .int .i64 g.rs, .slice A.x g.ps.length A.xc, .slice A.y g.ros.length A.yc, .slice A.ua g.us.length A.uc, .slice A.sa g.ss.length A.sc, .slice A.fa g.fs.length A.fc, .slice A.ra g.es.length A.rc, .int .i64 g.nx, .slice A.la g.fl.length A.lc, .slice A.ca g.co.length A.cc, .int .i64 g.nw, .int .i64 g.dr, .int .i64 g.sn]] w fun e w' => ∃ A' : GtA, e = .returned (.agg #[.int .i64 g.ip, .int .i64 g.b, .int .i64 g.gt, .string g.gm, .string g.wm, .int .i64 g.rs, .slice A'.x g.ps.length A'.xc, .slice A'.y g.ros.length A'.yc, .slice A'.ua g.us.length A'.uc, .slice A'.sa g.ss.length A'.sc, .slice A'.fa g.fs.length A'.fc, .slice A'.ra g.es.length A'.rc, .int .i64 g.nx, .slice A'.la g.fl.length A'.lc, .slice A'.ca g.co.length A'.cc, .int .i64 g.nw, .int .i64 g.dr, .int .i64 g.sn]) ∧ GtR w' A' g ∧ Below w.heap.size w w') := fun w h => toGateway_any A g w h hs
  have HS : Hid (∀ w A', GtR w A' g → Calls Tryz.prog 32 #[.agg #[.int .i64 g.ip, .int .i64 g.b, .int .i64 g.gt, .string g.gm, .string g.wm, .int .i64 g.rs, .slice A'.x g.ps.length A'.xc, .slice A'.y g.ros.length A'.yc, .slice A'.ua g.us.length A'.uc, .slice A'.sa g.ss.length A'.sc, .slice A'.fa g.fs.length A'.fc, .slice A'.ra g.es.length A'.rc, .int .i64 g.nx, .slice A'.la g.fl.length A'.lc, .slice A'.ca g.co.length A'.cc, .int .i64 g.nw, .int .i64 g.dr, .int .i64 g.sn]] w fun e w' => e = .returned (.tuple #[.bool (bhB g), .int .i64 (bhC g)]) ∧ Below w.heap.size w w') := fun w A' h => specBytesHold_any A' g w h hs
  have HI : Hid (∀ w A', GtR w A' g → Calls Tryz.prog 33 #[.agg #[.int .i64 g.ip, .int .i64 g.b, .int .i64 g.gt, .string g.gm, .string g.wm, .int .i64 g.rs, .slice A'.x g.ps.length A'.xc, .slice A'.y g.ros.length A'.yc, .slice A'.ua g.us.length A'.uc, .slice A'.sa g.ss.length A'.sc, .slice A'.fa g.fs.length A'.fc, .slice A'.ra g.es.length A'.rc, .int .i64 g.nx, .slice A'.la g.fl.length A'.lc, .slice A'.ca g.co.length A'.cc, .int .i64 g.nw, .int .i64 g.dr, .int .i64 g.sn]] w fun e w' => e = .returned (.tuple #[.bool (bhB g), .int .i64 (bhC g)]) ∧ Below w.heap.size w w') := fun w A' h => implBytesHold_any A' g w h hs
  have HE : Hid (∀ w A' B, GtR w A' g → GtR w B g → Calls Tryz.prog 14 #[.agg #[.int .i64 g.ip, .int .i64 g.b, .int .i64 g.gt, .string g.gm, .string g.wm, .int .i64 g.rs, .slice A'.x g.ps.length A'.xc, .slice A'.y g.ros.length A'.yc, .slice A'.ua g.us.length A'.uc, .slice A'.sa g.ss.length A'.sc, .slice A'.fa g.fs.length A'.fc, .slice A'.ra g.es.length A'.rc, .int .i64 g.nx, .slice A'.la g.fl.length A'.lc, .slice A'.ca g.co.length A'.cc, .int .i64 g.nw, .int .i64 g.dr, .int .i64 g.sn], .agg #[.int .i64 g.ip, .int .i64 g.b, .int .i64 g.gt, .string g.gm, .string g.wm, .int .i64 g.rs, .slice B.x g.ps.length B.xc, .slice B.y g.ros.length B.yc, .slice B.ua g.us.length B.uc, .slice B.sa g.ss.length B.sc, .slice B.fa g.fs.length B.fc, .slice B.ra g.es.length B.rc, .int .i64 g.nx, .slice B.la g.fl.length B.lc, .slice B.ca g.co.length B.cc, .int .i64 g.nw, .int .i64 g.dr, .int .i64 g.sn]] w fun e w' => e = .returned (.bool true) ∧ Below w.heap.size w w') := fun w A' B h k => (eqGateway_yes A' B g w h k hs).mono fun e w' h => ⟨h.1, h.2.below⟩
  clear hs hr
  generalize bhB g = z1 at HS HI
  generalize bhC g = z2 at HS HI
  have hne1 : (z1 == z1) = true := by simp
  have hne2 : (z1 != z1) = false := by simp
  have hne3 : (z2 != z2) = false := by simp
  go_wp2_with (first | (refine wpl_getO 65 rfl _ rfl w.heap.size 0 [.int .i64 g.ip, .int .i64 g.b, .int .i64 g.gt, .string g.gm, .string g.wm, .int .i64 g.rs, .slice A.x g.ps.length A.xc, .slice A.y g.ros.length A.yc, .slice A.ua g.us.length A.uc, .slice A.sa g.ss.length A.sc, .slice A.fa g.fs.length A.fc, .slice A.ra g.es.length A.rc, .int .i64 g.nx, .slice A.la g.fl.length A.lc, .slice A.ca g.co.length A.cc, .int .i64 g.nw, .int .i64 g.dr, .int .i64 g.sn] rfl A1.out rfl _ Tryz.underlying65 rfl rfl ?_) | fail)
  refine (HT.out _ (GR.out.below X1.out)).mono ?_
  rintro e w2 ⟨A2, rfl, h2, bx⟩
  have R2 : Hid (GtR w2 A2 g) := h2
  have A2b : Hid (Bx w2 w.heap.size [.int .i64 g.ip, .int .i64 g.b, .int .i64 g.gt, .string g.gm, .string g.wm, .int .i64 g.rs, .slice A.x g.ps.length A.xc, .slice A.y g.ros.length A.yc, .slice A.ua g.us.length A.uc, .slice A.sa g.ss.length A.sc, .slice A.fa g.fs.length A.fc, .slice A.ra g.es.length A.rc, .int .i64 g.nx, .slice A.la g.fl.length A.lc, .slice A.ca g.co.length A.cc, .int .i64 g.nw, .int .i64 g.dr, .int .i64 g.sn]) := A1.out.below bx
  have X2 : Hid (Below w.heap.size w w2) := X1.out.trans (bx.mono X1.out.size)
  clear h2 bx A1 X1
  go_wp2_with fail
  refine (HS.out _ _ R2.out).mono ?_
  rintro e w3 ⟨rfl, bx⟩
  have A3 : Hid (Bx w3 w.heap.size [.int .i64 g.ip, .int .i64 g.b, .int .i64 g.gt, .string g.gm, .string g.wm, .int .i64 g.rs, .slice A.x g.ps.length A.xc, .slice A.y g.ros.length A.yc, .slice A.ua g.us.length A.uc, .slice A.sa g.ss.length A.sc, .slice A.fa g.fs.length A.fc, .slice A.ra g.es.length A.rc, .int .i64 g.nx, .slice A.la g.fl.length A.lc, .slice A.ca g.co.length A.cc, .int .i64 g.nw, .int .i64 g.dr, .int .i64 g.sn]) := A2b.out.below bx
  have X3 : Hid (Below w.heap.size w w3) := X2.out.trans (bx.mono X2.out.size)
  clear bx A2b X2 R2
  as_aux_lemma =>
  go_wp2_with (first | (refine wpl_getO 65 rfl _ rfl w.heap.size 0 [.int .i64 g.ip, .int .i64 g.b, .int .i64 g.gt, .string g.gm, .string g.wm, .int .i64 g.rs, .slice A.x g.ps.length A.xc, .slice A.y g.ros.length A.yc, .slice A.ua g.us.length A.uc, .slice A.sa g.ss.length A.sc, .slice A.fa g.fs.length A.fc, .slice A.ra g.es.length A.rc, .int .i64 g.nx, .slice A.la g.fl.length A.lc, .slice A.ca g.co.length A.cc, .int .i64 g.nw, .int .i64 g.dr, .int .i64 g.sn] rfl A3.out rfl _ Tryz.underlying65 rfl rfl ?_) | fail)
  refine (HT.out _ (GR.out.below X3.out)).mono ?_
  rintro e w4 ⟨A4, rfl, h4, bx⟩
  have N5 : Hid (Bx (w4.alloc (.cells #[.int .i64 g.ip, .int .i64 g.b, .int .i64 g.gt, .string g.gm, .string g.wm, .int .i64 g.rs, .slice A4.x g.ps.length A4.xc, .slice A4.y g.ros.length A4.yc, .slice A4.ua g.us.length A4.uc, .slice A4.sa g.ss.length A4.sc, .slice A4.fa g.fs.length A4.fc, .slice A4.ra g.es.length A4.rc, .int .i64 g.nx, .slice A4.la g.fl.length A4.lc, .slice A4.ca g.co.length A4.cc, .int .i64 g.nw, .int .i64 g.dr, .int .i64 g.sn] 50)) w4.heap.size [.int .i64 g.ip, .int .i64 g.b, .int .i64 g.gt, .string g.gm, .string g.wm, .int .i64 g.rs, .slice A4.x g.ps.length A4.xc, .slice A4.y g.ros.length A4.yc, .slice A4.ua g.us.length A4.uc, .slice A4.sa g.ss.length A4.sc, .slice A4.fa g.fs.length A4.fc, .slice A4.ra g.es.length A4.rc, .int .i64 g.nx, .slice A4.la g.fl.length A4.lc, .slice A4.ca g.co.length A4.cc, .int .i64 g.nw, .int .i64 g.dr, .int .i64 g.sn]) := Bx.new w4 #[.int .i64 g.ip, .int .i64 g.b, .int .i64 g.gt, .string g.gm, .string g.wm, .int .i64 g.rs, .slice A4.x g.ps.length A4.xc, .slice A4.y g.ros.length A4.yc, .slice A4.ua g.us.length A4.uc, .slice A4.sa g.ss.length A4.sc, .slice A4.fa g.fs.length A4.fc, .slice A4.ra g.es.length A4.rc, .int .i64 g.nx, .slice A4.la g.fl.length A4.lc, .slice A4.ca g.co.length A4.cc, .int .i64 g.nw, .int .i64 g.dr, .int .i64 g.sn] 50
  have R5 : Hid (GtR (w4.alloc (.cells #[.int .i64 g.ip, .int .i64 g.b, .int .i64 g.gt, .string g.gm, .string g.wm, .int .i64 g.rs, .slice A4.x g.ps.length A4.xc, .slice A4.y g.ros.length A4.yc, .slice A4.ua g.us.length A4.uc, .slice A4.sa g.ss.length A4.sc, .slice A4.fa g.fs.length A4.fc, .slice A4.ra g.es.length A4.rc, .int .i64 g.nx, .slice A4.la g.fl.length A4.lc, .slice A4.ca g.co.length A4.cc, .int .i64 g.nw, .int .i64 g.dr, .int .i64 g.sn] 50)) A4 g) := h4.below ((Below.refl _ _).alloc (Nat.le_refl _) _)
  have A5 : Hid (Bx (w4.alloc (.cells #[.int .i64 g.ip, .int .i64 g.b, .int .i64 g.gt, .string g.gm, .string g.wm, .int .i64 g.rs, .slice A4.x g.ps.length A4.xc, .slice A4.y g.ros.length A4.yc, .slice A4.ua g.us.length A4.uc, .slice A4.sa g.ss.length A4.sc, .slice A4.fa g.fs.length A4.fc, .slice A4.ra g.es.length A4.rc, .int .i64 g.nx, .slice A4.la g.fl.length A4.lc, .slice A4.ca g.co.length A4.cc, .int .i64 g.nw, .int .i64 g.dr, .int .i64 g.sn] 50)) w.heap.size [.int .i64 g.ip, .int .i64 g.b, .int .i64 g.gt, .string g.gm, .string g.wm, .int .i64 g.rs, .slice A.x g.ps.length A.xc, .slice A.y g.ros.length A.yc, .slice A.ua g.us.length A.uc, .slice A.sa g.ss.length A.sc, .slice A.fa g.fs.length A.fc, .slice A.ra g.es.length A.rc, .int .i64 g.nx, .slice A.la g.fl.length A.lc, .slice A.ca g.co.length A.cc, .int .i64 g.nw, .int .i64 g.dr, .int .i64 g.sn]) := (A3.out.below bx).below ((Below.refl _ _).alloc (Nat.le_refl _) _)
  have X5 : Hid (Below w.heap.size w (w4.alloc (.cells #[.int .i64 g.ip, .int .i64 g.b, .int .i64 g.gt, .string g.gm, .string g.wm, .int .i64 g.rs, .slice A4.x g.ps.length A4.xc, .slice A4.y g.ros.length A4.yc, .slice A4.ua g.us.length A4.uc, .slice A4.sa g.ss.length A4.sc, .slice A4.fa g.fs.length A4.fc, .slice A4.ra g.es.length A4.rc, .int .i64 g.nx, .slice A4.la g.fl.length A4.lc, .slice A4.ca g.co.length A4.cc, .int .i64 g.nw, .int .i64 g.dr, .int .i64 g.sn] 50))) := (X3.out.trans (bx.mono X3.out.size)).alloc (by have := X3.out.size; have := bx.size; omega) _
  clear h4 bx A3 X3
  as_aux_lemma =>
  go_wp2_with (first | (refine wpl_getO 50 rfl _ rfl w4.heap.size 0 [.int .i64 g.ip, .int .i64 g.b, .int .i64 g.gt, .string g.gm, .string g.wm, .int .i64 g.rs, .slice A4.x g.ps.length A4.xc, .slice A4.y g.ros.length A4.yc, .slice A4.ua g.us.length A4.uc, .slice A4.sa g.ss.length A4.sc, .slice A4.fa g.fs.length A4.fc, .slice A4.ra g.es.length A4.rc, .int .i64 g.nx, .slice A4.la g.fl.length A4.lc, .slice A4.ca g.co.length A4.cc, .int .i64 g.nw, .int .i64 g.dr, .int .i64 g.sn] rfl N5.out rfl _ Tryz.underlying50 rfl rfl ?_) | fail)
  refine (HI.out _ _ R5.out).mono ?_
  rintro e w6 ⟨rfl, bx⟩
  have N6 : Hid (Bx w6 w4.heap.size [.int .i64 g.ip, .int .i64 g.b, .int .i64 g.gt, .string g.gm, .string g.wm, .int .i64 g.rs, .slice A4.x g.ps.length A4.xc, .slice A4.y g.ros.length A4.yc, .slice A4.ua g.us.length A4.uc, .slice A4.sa g.ss.length A4.sc, .slice A4.fa g.fs.length A4.fc, .slice A4.ra g.es.length A4.rc, .int .i64 g.nx, .slice A4.la g.fl.length A4.lc, .slice A4.ca g.co.length A4.cc, .int .i64 g.nw, .int .i64 g.dr, .int .i64 g.sn]) := N5.out.below bx
  have A6 : Hid (Bx w6 w.heap.size [.int .i64 g.ip, .int .i64 g.b, .int .i64 g.gt, .string g.gm, .string g.wm, .int .i64 g.rs, .slice A.x g.ps.length A.xc, .slice A.y g.ros.length A.yc, .slice A.ua g.us.length A.uc, .slice A.sa g.ss.length A.sc, .slice A.fa g.fs.length A.fc, .slice A.ra g.es.length A.rc, .int .i64 g.nx, .slice A.la g.fl.length A.lc, .slice A.ca g.co.length A.cc, .int .i64 g.nw, .int .i64 g.dr, .int .i64 g.sn]) := A5.out.below bx
  have R6 : Hid (GtR w6 A4 g) := R5.out.below bx
  have X6 : Hid (Below w.heap.size w w6) := X5.out.trans (bx.mono X5.out.size)
  clear bx N5 A5 R5 X5
  as_aux_lemma =>
  go_wp2_with fail
  have KP : Hid (∀ wx, Below w6.heap.size w6 wx → Bx wx w4.heap.size [.int .i64 g.ip, .int .i64 g.b, .int .i64 g.gt, .string g.gm, .string g.wm, .int .i64 g.rs, .slice A4.x g.ps.length A4.xc, .slice A4.y g.ros.length A4.yc, .slice A4.ua g.us.length A4.uc, .slice A4.sa g.ss.length A4.sc, .slice A4.fa g.fs.length A4.fc, .slice A4.ra g.es.length A4.rc, .int .i64 g.nx, .slice A4.la g.fl.length A4.lc, .slice A4.ca g.co.length A4.cc, .int .i64 g.nw, .int .i64 g.dr, .int .i64 g.sn] ∧ Bx wx w.heap.size [.int .i64 g.ip, .int .i64 g.b, .int .i64 g.gt, .string g.gm, .string g.wm, .int .i64 g.rs, .slice A.x g.ps.length A.xc, .slice A.y g.ros.length A.yc, .slice A.ua g.us.length A.uc, .slice A.sa g.ss.length A.sc, .slice A.fa g.fs.length A.fc, .slice A.ra g.es.length A.rc, .int .i64 g.nx, .slice A.la g.fl.length A.lc, .slice A.ca g.co.length A.cc, .int .i64 g.nw, .int .i64 g.dr, .int .i64 g.sn]) := fun wx hb => ⟨N6.out.below hb, A6.out.below hb⟩
  have DR : Hid (Below w6.heap.size w6 w6.drew) := (Below.refl _ _).drew
  refine wp_region_held_drew (S := (fun wx => Bx wx w4.heap.size [.int .i64 g.ip, .int .i64 g.b, .int .i64 g.gt, .string g.gm, .string g.wm, .int .i64 g.rs, .slice A4.x g.ps.length A4.xc, .slice A4.y g.ros.length A4.yc, .slice A4.ua g.us.length A4.uc, .slice A4.sa g.ss.length A4.sc, .slice A4.fa g.fs.length A4.fc, .slice A4.ra g.es.length A4.rc, .int .i64 g.nx, .slice A4.la g.fl.length A4.lc, .slice A4.ca g.co.length A4.cc, .int .i64 g.nw, .int .i64 g.dr, .int .i64 g.sn] ∧ Bx wx w.heap.size [.int .i64 g.ip, .int .i64 g.b, .int .i64 g.gt, .string g.gm, .string g.wm, .int .i64 g.rs, .slice A.x g.ps.length A.xc, .slice A.y g.ros.length A.yc, .slice A.ua g.us.length A.uc, .slice A.sa g.ss.length A.sc, .slice A.fa g.fs.length A.fc, .slice A.ra g.es.length A.rc, .int .i64 g.nx, .slice A.la g.fl.length A.lc, .slice A.ca g.co.length A.cc, .int .i64 g.nw, .int .i64 g.dr, .int .i64 g.sn])) (by kernel_rfl) ?_ (fun hH0 => ?_)
  · exact KP.out _ DR.out
  refine wpAnyH_take (i := 0) (v := .agg #[.int .i64 g.ip, .int .i64 g.b, .int .i64 g.gt, .string g.gm, .string g.wm, .int .i64 g.rs, .slice A4.x g.ps.length A4.xc, .slice A4.y g.ros.length A4.yc, .slice A4.ua g.us.length A4.uc, .slice A4.sa g.ss.length A4.sc, .slice A4.fa g.fs.length A4.fc, .slice A4.ra g.es.length A4.rc, .int .i64 g.nx, .slice A4.la g.fl.length A4.lc, .slice A4.ca g.co.length A4.cc, .int .i64 g.nw, .int .i64 g.dr, .int .i64 g.sn]) rfl (by kernel_rfl) (by kernel_rfl) (by kernel_rfl) (fun _ _ _ h => h) (yieldsIf_load_mid (by kernel_rfl) 50 _ rfl w4.heap.size 0 rfl [.int .i64 g.ip, .int .i64 g.b, .int .i64 g.gt, .string g.gm, .string g.wm, .int .i64 g.rs, .slice A4.x g.ps.length A4.xc, .slice A4.y g.ros.length A4.yc, .slice A4.ua g.us.length A4.uc, .slice A4.sa g.ss.length A4.sc, .slice A4.fa g.fs.length A4.fc, .slice A4.ra g.es.length A4.rc, .int .i64 g.nx, .slice A4.la g.fl.length A4.lc, .slice A4.ca g.co.length A4.cc, .int .i64 g.nw, .int .i64 g.dr, .int .i64 g.sn] _ (fun w h => h.1.cl) Tryz.underlying50 rfl rfl) (by assumption) ?rest701
  refine wpAnyH_take (i := 1) (v := .agg #[.int .i64 g.ip, .int .i64 g.b, .int .i64 g.gt, .string g.gm, .string g.wm, .int .i64 g.rs, .slice A.x g.ps.length A.xc, .slice A.y g.ros.length A.yc, .slice A.ua g.us.length A.uc, .slice A.sa g.ss.length A.sc, .slice A.fa g.fs.length A.fc, .slice A.ra g.es.length A.rc, .int .i64 g.nx, .slice A.la g.fl.length A.lc, .slice A.ca g.co.length A.cc, .int .i64 g.nw, .int .i64 g.dr, .int .i64 g.sn]) rfl (by kernel_rfl) (by kernel_rfl) (by kernel_rfl) (fun _ _ _ h => h) (yieldsIf_load_mid (by kernel_rfl) 65 _ rfl w.heap.size 0 rfl [.int .i64 g.ip, .int .i64 g.b, .int .i64 g.gt, .string g.gm, .string g.wm, .int .i64 g.rs, .slice A.x g.ps.length A.xc, .slice A.y g.ros.length A.yc, .slice A.ua g.us.length A.uc, .slice A.sa g.ss.length A.sc, .slice A.fa g.fs.length A.fc, .slice A.ra g.es.length A.rc, .int .i64 g.nx, .slice A.la g.fl.length A.lc, .slice A.ca g.co.length A.cc, .int .i64 g.nw, .int .i64 g.dr, .int .i64 g.sn] _ (fun w h => h.2.cl) Tryz.underlying65 rfl rfl) (by assumption) ?rest702
  refine wpAnyH_ready (rs := [2]) (by kernel_rfl) (by simp) ?_
  refine AllReadyH.cons rfl (fun K hK => ?_) ?_
  · go_simp
    go_at_call 23
    (with_reducible refine (HT.out _ (GR.out.below (X6.out.trans (DR.out.mono X6.out.size)))).mono ?_)
    rintro e wc ⟨A9, rfl, hr9, bc⟩
    have BC : Hid (Below w6.heap.size w6 wc) := DR.out.trans bc
    have R9 : Hid (GtR wc A9 g) := hr9
    have R4c : Hid (GtR wc A4 g) := R6.out.below BC.out
    clear hr9 bc
    refine hK.out _ _ ?_ (fun hH703 => ?_)
    · (try dsimp only)
      first | with_reducible exact KP.out _ BD.out | with_reducible exact KP.out _ BC.out
    clear hK K hH0
    refine wpAnyH_ready (rs := [3]) (by kernel_rfl) (by simp) ?_
    refine AllReadyH.cons rfl (fun K hK => ?_) ?_
    · go_simp
      go_at_call 14
      (with_reducible refine (HE.out _ _ _ R4c.out R9.out).mono ?_)
      rintro e wd ⟨rfl, bd⟩
      have BD : Hid (Below w6.heap.size w6 wd) := BC.out.trans (bd.mono BC.out.size)
      clear bd
      refine hK.out _ _ ?_ (fun hH704 => ?_)
      · (try dsimp only)
        first | with_reducible exact KP.out _ BD.out | with_reducible exact KP.out _ BC.out
      clear hK K hH703
      refine wpAnyH_take (i := 4) (v := ?v705) rfl (by kernel_rfl) (by kernel_rfl) (by kernel_rfl) (fun _ _ _ h => h) (Or.inl ⟨by rfl, ?hy705⟩) (by assumption) ?rest705
      case hy705 => (intro w hSw; (try dsimp only at hSw); go_simp; (try with_reducible rfl))
      refine wpAnyH_done (by kernel_rfl) ?_ _
      go_simp
      go_wp2
      go_ret
      exact ⟨rfl, X6.out.trans (BD.out.mono X6.out.size)⟩
    exact AllReadyH.nil
  exact AllReadyH.nil
end Go.Proofs.YtlebblmlbhnppaaGreat
