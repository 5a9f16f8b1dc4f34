/- Gateways compared by the laws. -/
import Derived.Test.YtlebblmlbhnppaaGreatJ34
namespace Go.Proofs.YtlebblmlbhnppaaGreat
open Go.RowKit Go.PlainAid Go.Proofs.YtlebblmlbhnppaaGreat.Bt Go.Sort
set_option linter.unusedVariables false
set_option maxRecDepth 20000
set_option maxHeartbeats 4000000 in
theorem eqGateway_yes (A A' : GtA) (g : GtV) (w : World) (h : GtR w A g) (h' : GtR w A' g) (hs : GtS g) :
    Calls Tryz.prog 14 #[.agg #[.int .i64 g.ip, .int .i64 g.b, .int .i64 g.gt, .string g.gm, .string g.wm, .int .i64 g.rs, .slice A.x g.ps.length A.xc, .slice A.y g.ros.length A.yc, .slice A.ua g.us.length A.uc, .slice A.sa g.ss.length A.sc, .slice A.fa g.fs.length A.fc, .slice A.ra g.es.length A.rc, .int .i64 g.nx, .slice A.la g.fl.length A.lc, .slice A.ca g.co.length A.cc, .int .i64 g.nw, .int .i64 g.dr, .int .i64 g.sn], .agg #[.int .i64 g.ip, .int .i64 g.b, .int .i64 g.gt, .string g.gm, .string g.wm, .int .i64 g.rs, .slice A'.x g.ps.length A'.xc, .slice A'.y g.ros.length A'.yc, .slice A'.ua g.us.length A'.uc, .slice A'.sa g.ss.length A'.sc, .slice A'.fa g.fs.length A'.fc, .slice A'.ra g.es.length A'.rc, .int .i64 g.nx, .slice A'.la g.fl.length A'.lc, .slice A'.ca g.co.length A'.cc, .int .i64 g.nw, .int .i64 g.dr, .int .i64 g.sn]] w fun e w' => e = .returned (.bool true) ∧ Grw w w' := by
  have GR : Hid (GtR w A g) := h
  have GR' : Hid (GtR w A' g) := h'
  have HZ : Hid (∀ w, GtR w A g → GtR w A' g → Calls Tryz.prog 15 #[.agg #[.int .i64 g.ip, .int .i64 g.b, .int .i64 g.gt, .string g.gm, .string g.wm, .int .i64 g.rs, .slice A.x g.ps.length A.xc, .slice A.y g.ros.length A.yc], .agg #[.int .i64 g.ip, .int .i64 g.b, .int .i64 g.gt, .string g.gm, .string g.wm, .int .i64 g.rs, .slice A'.x g.ps.length A'.xc, .slice A'.y g.ros.length A'.yc]] w fun e w' => e = .returned (.bool true) ∧ Grw w w') := fun w h h' => eqConfig_caps _ _ _ _ _ _ _ _ _ _ _ _ _ _ _ _ g.ps g.ros w h.ps h'.ps rfl h.ros h'.ros rfl hs.ps hs.ros hs.szr
  have HY : Hid (∀ w, GtR w A g → GtR w A' g → Calls Tryz.prog 16 #[.agg #[.slice A.ua g.us.length A.uc, .slice A.sa g.ss.length A.sc, .slice A.fa g.fs.length A.fc, .slice A.ra g.es.length A.rc, .int .i64 g.nx], .agg #[.slice A'.ua g.us.length A'.uc, .slice A'.sa g.ss.length A'.sc, .slice A'.fa g.fs.length A'.fc, .slice A'.ra g.es.length A'.rc, .int .i64 g.nx]] w fun e w' => e = .returned (.bool true) ∧ Grw w w') := fun w h h' => eqGuests_yes _ _ _ _ _ _ _ _ _ _ _ _ _ _ _ _ _ _ _ _ g.us g.ss g.fs g.es g.nx w h.us h'.us rfl h.ss h'.ss rfl h.fs h'.fs rfl h.es h'.es rfl (Nat.le_trans hs.us (by decide)) (Nat.le_trans hs.ss (by decide)) (Nat.le_trans hs.fs (by decide)) (Nat.le_trans hs.es (by decide))
  have HF : Hid (∀ w, GtR w A g → GtR w A' g → Calls Tryz.prog 51 #[.slice A.la g.fl.length A.lc, .slice A'.la g.fl.length A'.lc] w fun e w' => e = .returned (.bool true) ∧ Grw w w') := fun w h h' => eqFlowS_yes _ _ _ _ _ g.fl w h.fl h'.fl rfl (Nat.le_trans hs.fl (by decide))
  have HC : Hid (∀ w, GtR w A g → GtR w A' g → Calls Tryz.prog 52 #[.slice A.ca g.co.length A.cc, .slice A'.ca g.co.length A'.cc] w fun e w' => e = .returned (.bool true) ∧ Grw w w') := fun w h h' => eqConnS_yes _ _ _ _ _ g.co w h.co h'.co rfl (Nat.le_trans hs.co (by decide))
  clear h h' hs
  have n0 : (g.nw != g.nw) = false := by simp
  have n1 : (g.dr != g.dr) = false := by simp
  have n2 : (g.sn != g.sn) = false := by simp
  have A0 : Hid (Bx ((w.alloc (.cells #[.int .i64 g.ip, .int .i64 g.b, .int .i64 g.gt, .string g.gm, .string g.wm, .int .i64 g.rs, .slice A.x g.ps.length A.xc, .slice A.y g.ros.length A.yc, .slice A.ua g.us.length A.uc, .slice A.sa g.ss.length A.sc, .slice A.fa g.fs.length A.fc, .slice A.ra g.es.length A.rc, .int .i64 g.nx, .slice A.la g.fl.length A.lc, .slice A.ca g.co.length A.cc, .int .i64 g.nw, .int .i64 g.dr, .int .i64 g.sn] 50)).alloc (.cells #[.int .i64 g.ip, .int .i64 g.b, .int .i64 g.gt, .string g.gm, .string g.wm, .int .i64 g.rs, .slice A'.x g.ps.length A'.xc, .slice A'.y g.ros.length A'.yc, .slice A'.ua g.us.length A'.uc, .slice A'.sa g.ss.length A'.sc, .slice A'.fa g.fs.length A'.fc, .slice A'.ra g.es.length A'.rc, .int .i64 g.nx, .slice A'.la g.fl.length A'.lc, .slice A'.ca g.co.length A'.cc, .int .i64 g.nw, .int .i64 g.dr, .int .i64 g.sn] 50)) w.heap.size [.int .i64 g.ip, .int .i64 g.b, .int .i64 g.gt, .string g.gm, .string g.wm, .int .i64 g.rs, .slice A.x g.ps.length A.xc, .slice A.y g.ros.length A.yc, .slice A.ua g.us.length A.uc, .slice A.sa g.ss.length A.sc, .slice A.fa g.fs.length A.fc, .slice A.ra g.es.length A.rc, .int .i64 g.nx, .slice A.la g.fl.length A.lc, .slice A.ca g.co.length A.cc, .int .i64 g.nw, .int .i64 g.dr, .int .i64 g.sn]) := (Bx.new w #[.int .i64 g.ip, .int .i64 g.b, .int .i64 g.gt, .string g.gm, .string g.wm, .int .i64 g.rs, .slice A.x g.ps.length A.xc, .slice A.y g.ros.length A.yc, .slice A.ua g.us.length A.uc, .slice A.sa g.ss.length A.sc, .slice A.fa g.fs.length A.fc, .slice A.ra g.es.length A.rc, .int .i64 g.nx, .slice A.la g.fl.length A.lc, .slice A.ca g.co.length A.cc, .int .i64 g.nw, .int .i64 g.dr, .int .i64 g.sn] 50).below ((Below.refl _ _).alloc (Nat.le_refl _) _)
  have E0 : Hid (Bx ((w.alloc (.cells #[.int .i64 g.ip, .int .i64 g.b, .int .i64 g.gt, .string g.gm, .string g.wm, .int .i64 g.rs, .slice A.x g.ps.length A.xc, .slice A.y g.ros.length A.yc, .slice A.ua g.us.length A.uc, .slice A.sa g.ss.length A.sc, .slice A.fa g.fs.length A.fc, .slice A.ra g.es.length A.rc, .int .i64 g.nx, .slice A.la g.fl.length A.lc, .slice A.ca g.co.length A.cc, .int .i64 g.nw, .int .i64 g.dr, .int .i64 g.sn] 50)).alloc (.cells #[.int .i64 g.ip, .int .i64 g.b, .int .i64 g.gt, .string g.gm, .string g.wm, .int .i64 g.rs, .slice A'.x g.ps.length A'.xc, .slice A'.y g.ros.length A'.yc, .slice A'.ua g.us.length A'.uc, .slice A'.sa g.ss.length A'.sc, .slice A'.fa g.fs.length A'.fc, .slice A'.ra g.es.length A'.rc, .int .i64 g.nx, .slice A'.la g.fl.length A'.lc, .slice A'.ca g.co.length A'.cc, .int .i64 g.nw, .int .i64 g.dr, .int .i64 g.sn] 50)) (w.heap.size + 1) [.int .i64 g.ip, .int .i64 g.b, .int .i64 g.gt, .string g.gm, .string g.wm, .int .i64 g.rs, .slice A'.x g.ps.length A'.xc, .slice A'.y g.ros.length A'.yc, .slice A'.ua g.us.length A'.uc, .slice A'.sa g.ss.length A'.sc, .slice A'.fa g.fs.length A'.fc, .slice A'.ra g.es.length A'.rc, .int .i64 g.nx, .slice A'.la g.fl.length A'.lc, .slice A'.ca g.co.length A'.cc, .int .i64 g.nw, .int .i64 g.dr, .int .i64 g.sn]) := by
    have h := Bx.new (w.alloc (.cells #[.int .i64 g.ip, .int .i64 g.b, .int .i64 g.gt, .string g.gm, .string g.wm, .int .i64 g.rs, .slice A.x g.ps.length A.xc, .slice A.y g.ros.length A.yc, .slice A.ua g.us.length A.uc, .slice A.sa g.ss.length A.sc, .slice A.fa g.fs.length A.fc, .slice A.ra g.es.length A.rc, .int .i64 g.nx, .slice A.la g.fl.length A.lc, .slice A.ca g.co.length A.cc, .int .i64 g.nw, .int .i64 g.dr, .int .i64 g.sn] 50)) #[.int .i64 g.ip, .int .i64 g.b, .int .i64 g.gt, .string g.gm, .string g.wm, .int .i64 g.rs, .slice A'.x g.ps.length A'.xc, .slice A'.y g.ros.length A'.yc, .slice A'.ua g.us.length A'.uc, .slice A'.sa g.ss.length A'.sc, .slice A'.fa g.fs.length A'.fc, .slice A'.ra g.es.length A'.rc, .int .i64 g.nx, .slice A'.la g.fl.length A'.lc, .slice A'.ca g.co.length A'.cc, .int .i64 g.nw, .int .i64 g.dr, .int .i64 g.sn] 50
    rw [World.size_alloc] at h
    exact h
  have X0 : Hid (Grw w ((w.alloc (.cells #[.int .i64 g.ip, .int .i64 g.b, .int .i64 g.gt, .string g.gm, .string g.wm, .int .i64 g.rs, .slice A.x g.ps.length A.xc, .slice A.y g.ros.length A.yc, .slice A.ua g.us.length A.uc, .slice A.sa g.ss.length A.sc, .slice A.fa g.fs.length A.fc, .slice A.ra g.es.length A.rc, .int .i64 g.nx, .slice A.la g.fl.length A.lc, .slice A.ca g.co.length A.cc, .int .i64 g.nw, .int .i64 g.dr, .int .i64 g.sn] 50)).alloc (.cells #[.int .i64 g.ip, .int .i64 g.b, .int .i64 g.gt, .string g.gm, .string g.wm, .int .i64 g.rs, .slice A'.x g.ps.length A'.xc, .slice A'.y g.ros.length A'.yc, .slice A'.ua g.us.length A'.uc, .slice A'.sa g.ss.length A'.sc, .slice A'.fa g.fs.length A'.fc, .slice A'.ra g.es.length A'.rc, .int .i64 g.nx, .slice A'.la g.fl.length A'.lc, .slice A'.ca g.co.length A'.cc, .int .i64 g.nw, .int .i64 g.dr, .int .i64 g.sn] 50))) := ((Grw.refl _).alloc _).alloc _
  go_enter Tryz.func14, Tryz.ntmps14
  go_wp2_with fail
  refine (HZ.out _ (GR.out.below X0.out.below) (GR'.out.below X0.out.below)).mono ?_
  rintro e w1 ⟨rfl, gx⟩
  have A1 : Hid (Bx w1 w.heap.size [.int .i64 g.ip, .int .i64 g.b, .int .i64 g.gt, .string g.gm, .string g.wm, .int .i64 g.rs, .slice A.x g.ps.length A.xc, .slice A.y g.ros.length A.yc, .slice A.ua g.us.length A.uc, .slice A.sa g.ss.length A.sc, .slice A.fa g.fs.length A.fc, .slice A.ra g.es.length A.rc, .int .i64 g.nx, .slice A.la g.fl.length A.lc, .slice A.ca g.co.length A.cc, .int .i64 g.nw, .int .i64 g.dr, .int .i64 g.sn]) := A0.out.below gx.below
  have E1 : Hid (Bx w1 (w.heap.size + 1) [.int .i64 g.ip, .int .i64 g.b, .int .i64 g.gt, .string g.gm, .string g.wm, .int .i64 g.rs, .slice A'.x g.ps.length A'.xc, .slice A'.y g.ros.length A'.yc, .slice A'.ua g.us.length A'.uc, .slice A'.sa g.ss.length A'.sc, .slice A'.fa g.fs.length A'.fc, .slice A'.ra g.es.length A'.rc, .int .i64 g.nx, .slice A'.la g.fl.length A'.lc, .slice A'.ca g.co.length A'.cc, .int .i64 g.nw, .int .i64 g.dr, .int .i64 g.sn]) := E0.out.below gx.below
  have X1 : Hid (Grw w w1) := X0.out.trans gx
  clear gx A0 E0 X0
  go_wp2_with (first | (refine wpl_getO 46 rfl _ rfl w.heap.size 8 [.slice A.ua g.us.length A.uc, .slice A.sa g.ss.length A.sc, .slice A.fa g.fs.length A.fc, .slice A.ra g.es.length A.rc, .int .i64 g.nx] rfl A1.out rfl _ Tryz.underlying46 rfl rfl ?_) | (refine wpl_getO 46 rfl _ rfl (w.heap.size + 1) 8 [.slice A'.ua g.us.length A'.uc, .slice A'.sa g.ss.length A'.sc, .slice A'.fa g.fs.length A'.fc, .slice A'.ra g.es.length A'.rc, .int .i64 g.nx] rfl E1.out rfl _ Tryz.underlying46 rfl rfl ?_) | fail)
  refine (HY.out _ (GR.out.below X1.out.below) (GR'.out.below X1.out.below)).mono ?_
  rintro e w2 ⟨rfl, gx⟩
  have A2 : Hid (Bx w2 w.heap.size [.int .i64 g.ip, .int .i64 g.b, .int .i64 g.gt, .string g.gm, .string g.wm, .int .i64 g.rs, .slice A.x g.ps.length A.xc, .slice A.y g.ros.length A.yc, .slice A.ua g.us.length A.uc, .slice A.sa g.ss.length A.sc, .slice A.fa g.fs.length A.fc, .slice A.ra g.es.length A.rc, .int .i64 g.nx, .slice A.la g.fl.length A.lc, .slice A.ca g.co.length A.cc, .int .i64 g.nw, .int .i64 g.dr, .int .i64 g.sn]) := A1.out.below gx.below
  have E2 : Hid (Bx w2 (w.heap.size + 1) [.int .i64 g.ip, .int .i64 g.b, .int .i64 g.gt, .string g.gm, .string g.wm, .int .i64 g.rs, .slice A'.x g.ps.length A'.xc, .slice A'.y g.ros.length A'.yc, .slice A'.ua g.us.length A'.uc, .slice A'.sa g.ss.length A'.sc, .slice A'.fa g.fs.length A'.fc, .slice A'.ra g.es.length A'.rc, .int .i64 g.nx, .slice A'.la g.fl.length A'.lc, .slice A'.ca g.co.length A'.cc, .int .i64 g.nw, .int .i64 g.dr, .int .i64 g.sn]) := E1.out.below gx.below
  have X2 : Hid (Grw w w2) := X1.out.trans gx
  clear gx A1 E1 X1
  have u2 := A2.out.cell 13 rfl
  have v2 := E2.out.cell 13 rfl
  go_wp2_with fail
  clear u2 v2
  refine (HF.out _ (GR.out.below X2.out.below) (GR'.out.below X2.out.below)).mono ?_
  rintro e w3 ⟨rfl, gx⟩
  have A3 : Hid (Bx w3 w.heap.size [.int .i64 g.ip, .int .i64 g.b, .int .i64 g.gt, .string g.gm, .string g.wm, .int .i64 g.rs, .slice A.x g.ps.length A.xc, .slice A.y g.ros.length A.yc, .slice A.ua g.us.length A.uc, .slice A.sa g.ss.length A.sc, .slice A.fa g.fs.length A.fc, .slice A.ra g.es.length A.rc, .int .i64 g.nx, .slice A.la g.fl.length A.lc, .slice A.ca g.co.length A.cc, .int .i64 g.nw, .int .i64 g.dr, .int .i64 g.sn]) := A2.out.below gx.below
  have E3 : Hid (Bx w3 (w.heap.size + 1) [.int .i64 g.ip, .int .i64 g.b, .int .i64 g.gt, .string g.gm, .string g.wm, .int .i64 g.rs, .slice A'.x g.ps.length A'.xc, .slice A'.y g.ros.length A'.yc, .slice A'.ua g.us.length A'.uc, .slice A'.sa g.ss.length A'.sc, .slice A'.fa g.fs.length A'.fc, .slice A'.ra g.es.length A'.rc, .int .i64 g.nx, .slice A'.la g.fl.length A'.lc, .slice A'.ca g.co.length A'.cc, .int .i64 g.nw, .int .i64 g.dr, .int .i64 g.sn]) := E2.out.below gx.below
  have X3 : Hid (Grw w w3) := X2.out.trans gx
  clear gx A2 E2 X2
  have u3 := A3.out.cell 14 rfl
  have v3 := E3.out.cell 14 rfl
  go_wp2_with fail
  clear u3 v3
  refine (HC.out _ (GR.out.below X3.out.below) (GR'.out.below X3.out.below)).mono ?_
  rintro e w4 ⟨rfl, gx⟩
  have A4 : Hid (Bx w4 w.heap.size [.int .i64 g.ip, .int .i64 g.b, .int .i64 g.gt, .string g.gm, .string g.wm, .int .i64 g.rs, .slice A.x g.ps.length A.xc, .slice A.y g.ros.length A.yc, .slice A.ua g.us.length A.uc, .slice A.sa g.ss.length A.sc, .slice A.fa g.fs.length A.fc, .slice A.ra g.es.length A.rc, .int .i64 g.nx, .slice A.la g.fl.length A.lc, .slice A.ca g.co.length A.cc, .int .i64 g.nw, .int .i64 g.dr, .int .i64 g.sn]) := A3.out.below gx.below
  have E4 : Hid (Bx w4 (w.heap.size + 1) [.int .i64 g.ip, .int .i64 g.b, .int .i64 g.gt, .string g.gm, .string g.wm, .int .i64 g.rs, .slice A'.x g.ps.length A'.xc, .slice A'.y g.ros.length A'.yc, .slice A'.ua g.us.length A'.uc, .slice A'.sa g.ss.length A'.sc, .slice A'.fa g.fs.length A'.fc, .slice A'.ra g.es.length A'.rc, .int .i64 g.nx, .slice A'.la g.fl.length A'.lc, .slice A'.ca g.co.length A'.cc, .int .i64 g.nw, .int .i64 g.dr, .int .i64 g.sn]) := E3.out.below gx.below
  have X4 : Hid (Grw w w4) := X3.out.trans gx
  clear gx A3 E3 X3
  have u15 := A4.out.cell 15 rfl
  have v15 := E4.out.cell 15 rfl
  have u16 := A4.out.cell 16 rfl
  have v16 := E4.out.cell 16 rfl
  have u17 := A4.out.cell 17 rfl
  have v17 := E4.out.cell 17 rfl
  go_wp2
  go_ret
  exact ⟨rfl, X4.out⟩
end Go.Proofs.YtlebblmlbhnppaaGreat
