/- ownedRightly and FlowsHold of the program. -/
import Derived.Test.YtlebblmlbhnppabGreatJ37
import Derived.Test.YtlebblmlbhnppabGreatJ39
import Derived.Test.YtlebblmlbhnppabGreatJ43
namespace Go.Proofs.YtlebblmlbhnppabGreat
open Go.RowKit Go.PlainAid Go.Proofs.YtlebblmlbhnppabGreat.Bt Go.Sort
set_option linter.unusedVariables false
set_option maxRecDepth 20000
set_option maxHeartbeats 2000000 in
theorem owned1_any (f : FlowV) (z : SessV) (B : Nat) (w : World) (hb : Bx w B [.int .i64 f.pr, .string f.mc, .int .i64 f.si, .int .i64 f.sp, .int .i64 f.di, .int .i64 f.dp, .int .i64 f.st, .int .i64 f.un, .int .i64 f.ow]) :
    Calls Tryz.prog 62 #[.agg #[.int .i64 z.id, .int .i64 z.us, .string z.mc, .int .i64 z.ip, .int .i64 z.be, .int .i64 z.la, .int .i64 z.ud, .int .i64 z.qu, .int .i64 z.un, .int .i64 z.il], .pointer (some ⟨B, 0, none⟩)] w fun e w' => e = .returned (.bool (rtP f z)) ∧ Below w.heap.size w w' := by
  have HB := hb.below ((Below.refl _ _).alloc (Nat.le_refl _) (.cells #[.int .i64 z.id, .int .i64 z.us, .string z.mc, .int .i64 z.ip, .int .i64 z.be, .int .i64 z.la, .int .i64 z.ud, .int .i64 z.qu, .int .i64 z.un, .int .i64 z.il] 70))
  have c1 := HB.cell 1 rfl
  have c2 := HB.cell 2 rfl
  have c8 := HB.cell 8 rfl
  have EQ : Hid (rtP f z = ((z.id == f.ow) && ((z.mc.toList == f.mc.toList) && (z.ip == f.si)))) := rfl
  rw [EQ.out]
  clear EQ hb HB
  obtain ⟨u0, hu0⟩ : ∃ u, (z.id == f.ow) = u := ⟨_, rfl⟩
  obtain ⟨u1, hu1⟩ : ∃ u, (z.mc.toList == f.mc.toList) = u := ⟨_, rfl⟩
  obtain ⟨u2, hu2⟩ : ∃ u, (z.ip == f.si) = u := ⟨_, rfl⟩
  rw [hu0, hu1, hu2]
  cases u0 <;> cases u1 <;> cases u2 <;>
  · go_enter Tryz.func62, Tryz.ntmps62
    go_wp2
    go_ret
    exact ⟨by first | rfl | (simp [*]; done), (Below.refl _ _).alloc (Nat.le_refl _) _⟩
set_option maxHeartbeats 2000000 in
theorem ownedRightly_any (a : Option Addr) (n c : Nat) (ss : List SessV) (f : FlowV) (w : World) (h : Rw SeR 10 w a ss) (hl : ss.length = n) (hn : n ≤ 1048576) :
    Calls Tryz.prog 25 #[.slice a n c, .agg #[.int .i64 f.pr, .string f.mc, .int .i64 f.si, .int .i64 f.sp, .int .i64 f.di, .int .i64 f.dp, .int .i64 f.st, .int .i64 f.un, .int .i64 f.ow]] w fun e w' => e = .returned (.bool (ss.any (rtP f))) ∧ Below w.heap.size w w' := by
  have HX : Hid (∀ W B, Below w.heap.size w W → Bx W B [.int .i64 f.pr, .string f.mc, .int .i64 f.si, .int .i64 f.sp, .int .i64 f.di, .int .i64 f.dp, .int .i64 f.st, .int .i64 f.un, .int .i64 f.ow] → Calls Tryz.prog 31 #[.slice a n c, .func (.func 62) #[] #[.pointer (some ⟨B, 0, none⟩)]] W fun e w' => ∃ v, e = .returned v ∧ OwnS svG 10 70 w' W.heap.size v (ss.filter (rtP f)) ∧ Below W.heap.size W w') := fun W B b hb => filtSess_any a n c ss 62 _ (rtP f) W (h.keep SeR.kp b) hl hn (enters_of Tryz.func62 (by kernel_rfl) rfl) (fun z hz W2 b2 => owned1_any f z B W2 (hb.below b2))
  have EL := flt_pos (rtP f) ss
  rw [← EL]
  clear h EL
  generalize ss.filter (rtP f) = L at HX ⊢
  have B0 : Hid (Bx (w.alloc (.cells #[.int .i64 f.pr, .string f.mc, .int .i64 f.si, .int .i64 f.sp, .int .i64 f.di, .int .i64 f.dp, .int .i64 f.st, .int .i64 f.un, .int .i64 f.ow] 68)) w.heap.size [.int .i64 f.pr, .string f.mc, .int .i64 f.si, .int .i64 f.sp, .int .i64 f.di, .int .i64 f.dp, .int .i64 f.st, .int .i64 f.un, .int .i64 f.ow]) := Bx.new w #[.int .i64 f.pr, .string f.mc, .int .i64 f.si, .int .i64 f.sp, .int .i64 f.di, .int .i64 f.dp, .int .i64 f.st, .int .i64 f.un, .int .i64 f.ow] 68
  go_enter Tryz.func25, Tryz.ntmps25
  go_wp2_with (go_at_call 31; refine (HX.out _ _ ((Below.refl _ _).alloc (Nat.le_refl _) _) B0.out).mono ?_; rintro e w1 ⟨v, rfl, o1, b1⟩; obtain ⟨ax, cx, rfl, -⟩ := o1.slice; have B1 : Hid (Below w.heap.size w w1) := ((Below.refl _ _).alloc (Nat.le_refl _) _).trans (b1.mono (by simp)); clear o1 b1 HX B0)
  go_ret
  exact ⟨by rw [show decide ((0 : Int) < (L.length : Int)) = decide (0 < L.length) from decide_eq_decide.2 (by omega)]; rfl, B1.out⟩
set_option maxHeartbeats 2000000 in
theorem fh1_any (A : GtA) (g : GtV) (f : FlowV) (B : Nat) (w : World) (h : Rw SeR 10 w A.sa g.ss) (hn : g.ss.length ≤ 1048576) (hb : Bx w B [.int .i64 g.ip, .int .i64 g.b, .int .i64 g.gt, .string g.gm, .string g.wm, .int .i64 g.rs, .slice A.x g.ps.length A.xc, .slice A.y g.ros.length A.yc, .slice A.ua g.us.length A.uc, .slice A.sa g.ss.length A.sc, .slice A.fa g.fs.length A.fc, .slice A.ra g.es.length A.rc, .int .i64 g.nx, .slice A.la g.fl.length A.lc, .slice A.ca g.co.length A.cc, .int .i64 g.nw, .int .i64 g.dr, .int .i64 g.sn]) :
    Calls Tryz.prog 24 #[.agg #[.int .i64 f.pr, .string f.mc, .int .i64 f.si, .int .i64 f.sp, .int .i64 f.di, .int .i64 f.dp, .int .i64 f.st, .int .i64 f.un, .int .i64 f.ow], .pointer (some ⟨B, 0, none⟩)] w fun e w' => e = .returned (.bool (!fhP g.ss f)) ∧ Below w.heap.size w w' := by
  have HX : Hid (∀ W, Below w.heap.size w W → Calls Tryz.prog 25 #[.slice A.sa g.ss.length A.sc, .agg #[.int .i64 f.pr, .string f.mc, .int .i64 f.si, .int .i64 f.sp, .int .i64 f.di, .int .i64 f.dp, .int .i64 f.st, .int .i64 f.un, .int .i64 f.ow]] W fun e w' => e = .returned (.bool (g.ss.any (rtP f))) ∧ Below W.heap.size W w') := fun W b => ownedRightly_any _ _ _ g.ss f W (h.keep SeR.kp b) rfl hn
  have HB := hb.below ((Below.refl _ _).alloc (Nat.le_refl _) (.cells #[.int .i64 f.pr, .string f.mc, .int .i64 f.si, .int .i64 f.sp, .int .i64 f.di, .int .i64 f.dp, .int .i64 f.st, .int .i64 f.un, .int .i64 f.ow] 68))
  have c9 := HB.cell 9 rfl
  have EQ : Hid (fhP g.ss f = ((f.ow == 0) || g.ss.any (rtP f))) := rfl
  rw [EQ.out]
  clear EQ hb HB h
  generalize g.ss.any (rtP f) = z at HX ⊢
  by_cases h0 : f.ow = 0
  · have e0 : (f.ow != 0) = false := by simp [h0]
    have e1 : (f.ow == 0) = true := by simp [h0]
    rw [e1]
    clear h0 e1
    go_enter Tryz.func24, Tryz.ntmps24
    go_wp2
    go_ret
    exact ⟨by first | rfl | simp, (Below.refl _ _).alloc (Nat.le_refl _) _⟩
  · have e0 : (f.ow != 0) = true := by simp [h0]
    have e1 : (f.ow == 0) = false := by simp [h0]
    rw [e1]
    clear h0 e1
    go_enter Tryz.func24, Tryz.ntmps24
    go_wp2_with (go_at_call 25; refine (HX.out _ ((Below.refl _ _).alloc (Nat.le_refl _) _)).mono ?_; rintro e w1 ⟨rfl, b1⟩)
    go_ret
    exact ⟨by first | rfl | simp, ((Below.refl _ _).alloc (Nat.le_refl _) _).trans (b1.mono (by simp))⟩
set_option maxHeartbeats 4000000 in
theorem implFlowsHold_any (A : GtA) (g : GtV) (w : World) (h : GtR w A g) (hs : GtS g) :
    Calls Tryz.prog 8 #[.agg #[.int .i64 g.ip, .int .i64 g.b, .int .i64 g.gt, .string g.gm, .string g.wm, .int .i64 g.rs, .slice A.x g.ps.length A.xc, .slice A.y g.ros.length A.yc, .slice A.ua g.us.length A.uc, .slice A.sa g.ss.length A.sc, .slice A.fa g.fs.length A.fc, .slice A.ra g.es.length A.rc, .int .i64 g.nx, .slice A.la g.fl.length A.lc, .slice A.ca g.co.length A.cc, .int .i64 g.nw, .int .i64 g.dr, .int .i64 g.sn]] w fun e w' => e = .returned (.tuple #[.bool (fhB g), .int .i64 (fhC g)]) ∧ Below w.heap.size w w' := by
  have GR : Hid (GtR w A g) := h
  have HG : Hid (∀ w, GtR w A g → Calls Tryz.prog 22 #[.agg #[.int .i64 g.ip, .int .i64 g.b, .int .i64 g.gt, .string g.gm, .string g.wm, .int .i64 g.rs, .slice A.x g.ps.length A.xc, .slice A.y g.ros.length A.yc, .slice A.ua g.us.length A.uc, .slice A.sa g.ss.length A.sc, .slice A.fa g.fs.length A.fc, .slice A.ra g.es.length A.rc, .int .i64 g.nx, .slice A.la g.fl.length A.lc, .slice A.ca g.co.length A.cc, .int .i64 g.nw, .int .i64 g.dr, .int .i64 g.sn]] w fun e w' => e = .returned (.bool (gtB g)) ∧ Below w.heap.size w w') := fun w h => implGate_any A g w h hs
  have HF : Hid (gtB g = true → ∀ W B, GtR W A g → Bx W B [.int .i64 g.ip, .int .i64 g.b, .int .i64 g.gt, .string g.gm, .string g.wm, .int .i64 g.rs, .slice A.x g.ps.length A.xc, .slice A.y g.ros.length A.yc, .slice A.ua g.us.length A.uc, .slice A.sa g.ss.length A.sc, .slice A.fa g.fs.length A.fc, .slice A.ra g.es.length A.rc, .int .i64 g.nx, .slice A.la g.fl.length A.lc, .slice A.ca g.co.length A.cc, .int .i64 g.nw, .int .i64 g.dr, .int .i64 g.sn] → Calls Tryz.prog 23 #[.slice A.la g.fl.length A.lc, .func (.func 24) #[] #[.pointer (some ⟨B, 0, none⟩)]] W fun e w' => ∃ v, e = .returned v ∧ OwnS wvG 9 68 w' W.heap.size v (g.fl.filter (fun f => !fhP g.ss f)) ∧ Below W.heap.size W w') := fun hg W B h hb => filtFlow_any _ _ _ g.fl 24 _ (fun f => !fhP g.ss f) W h.fl rfl (by have := gt_fl hg; omega) (enters_of Tryz.func24 (by kernel_rfl) rfl) (fun z hz W2 b2 => fh1_any A g z B W2 (h.below b2).ss hs.ss (hb.below b2))
  have EL : Hid ((((g.fl.filter (fun f => !fhP g.ss f)).length : Int) == 0) = g.fl.all (fhP g.ss)) := flt_all0 (fun s _ => rfl)
  have EB : Hid (fhB g = (gtB g && g.fl.all (fhP g.ss))) := rfl
  have EC : Hid (fhC g = if gtB g = true then 0 else 1) := rfl
  have G0 : Hid (Bx (w.alloc (.cells #[.int .i64 g.ip, .int .i64 g.b, .int .i64 g.gt, .string g.gm, .string g.wm, .int .i64 g.rs, .slice A.x g.ps.length A.xc, .slice A.y g.ros.length A.yc, .slice A.ua g.us.length A.uc, .slice A.sa g.ss.length A.sc, .slice A.fa g.fs.length A.fc, .slice A.ra g.es.length A.rc, .int .i64 g.nx, .slice A.la g.fl.length A.lc, .slice A.ca g.co.length A.cc, .int .i64 g.nw, .int .i64 g.dr, .int .i64 g.sn] 55)) w.heap.size [.int .i64 g.ip, .int .i64 g.b, .int .i64 g.gt, .string g.gm, .string g.wm, .int .i64 g.rs, .slice A.x g.ps.length A.xc, .slice A.y g.ros.length A.yc, .slice A.ua g.us.length A.uc, .slice A.sa g.ss.length A.sc, .slice A.fa g.fs.length A.fc, .slice A.ra g.es.length A.rc, .int .i64 g.nx, .slice A.la g.fl.length A.lc, .slice A.ca g.co.length A.cc, .int .i64 g.nw, .int .i64 g.dr, .int .i64 g.sn]) := Bx.new w #[.int .i64 g.ip, .int .i64 g.b, .int .i64 g.gt, .string g.gm, .string g.wm, .int .i64 g.rs, .slice A.x g.ps.length A.xc, .slice A.y g.ros.length A.yc, .slice A.ua g.us.length A.uc, .slice A.sa g.ss.length A.sc, .slice A.fa g.fs.length A.fc, .slice A.ra g.es.length A.rc, .int .i64 g.nx, .slice A.la g.fl.length A.lc, .slice A.ca g.co.length A.cc, .int .i64 g.nw, .int .i64 g.dr, .int .i64 g.sn] 55
  have X0 : Hid (Below w.heap.size w (w.alloc (.cells #[.int .i64 g.ip, .int .i64 g.b, .int .i64 g.gt, .string g.gm, .string g.wm, .int .i64 g.rs, .slice A.x g.ps.length A.xc, .slice A.y g.ros.length A.yc, .slice A.ua g.us.length A.uc, .slice A.sa g.ss.length A.sc, .slice A.fa g.fs.length A.fc, .slice A.ra g.es.length A.rc, .int .i64 g.nx, .slice A.la g.fl.length A.lc, .slice A.ca g.co.length A.cc, .int .i64 g.nw, .int .i64 g.dr, .int .i64 g.sn] 55))) := (Below.refl _ _).alloc (Nat.le_refl _) _
  rw [EB.out, EC.out, ← EL.out]
  clear EB EC h hs EL
  generalize gtB g = z at HG HF ⊢
  generalize g.fl.filter (fun f => !fhP g.ss f) = L at HF ⊢
  go_enter Tryz.func8, Tryz.ntmps8
  go_wp2_with (first | (refine wpl_getO 55 rfl _ rfl w.heap.size 0 [.int .i64 g.ip, .int .i64 g.b, .int .i64 g.gt, .string g.gm, .string g.wm, .int .i64 g.rs, .slice A.x g.ps.length A.xc, .slice A.y g.ros.length A.yc, .slice A.ua g.us.length A.uc, .slice A.sa g.ss.length A.sc, .slice A.fa g.fs.length A.fc, .slice A.ra g.es.length A.rc, .int .i64 g.nx, .slice A.la g.fl.length A.lc, .slice A.ca g.co.length A.cc, .int .i64 g.nw, .int .i64 g.dr, .int .i64 g.sn] rfl G0.out rfl _ Tryz.underlying55 rfl rfl ?_) | fail)
  refine (HG.out _ (GR.out.below X0.out)).mono ?_
  rintro e w1 ⟨rfl, bx⟩
  have G1 : Hid (Bx w1 w.heap.size [.int .i64 g.ip, .int .i64 g.b, .int .i64 g.gt, .string g.gm, .string g.wm, .int .i64 g.rs, .slice A.x g.ps.length A.xc, .slice A.y g.ros.length A.yc, .slice A.ua g.us.length A.uc, .slice A.sa g.ss.length A.sc, .slice A.fa g.fs.length A.fc, .slice A.ra g.es.length A.rc, .int .i64 g.nx, .slice A.la g.fl.length A.lc, .slice A.ca g.co.length A.cc, .int .i64 g.nw, .int .i64 g.dr, .int .i64 g.sn]) := G0.out.below bx
  have X1 : Hid (Below w.heap.size w w1) := X0.out.trans (bx.mono X0.out.size)
  clear bx G0 X0 HG
  cases z with
  | false =>
    go_wp2
    go_ret2
    exact ⟨rfl, X1.out⟩
  | true =>
    have HF2 : Hid (∀ W B, GtR W A g → Bx W B [.int .i64 g.ip, .int .i64 g.b, .int .i64 g.gt, .string g.gm, .string g.wm, .int .i64 g.rs, .slice A.x g.ps.length A.xc, .slice A.y g.ros.length A.yc, .slice A.ua g.us.length A.uc, .slice A.sa g.ss.length A.sc, .slice A.fa g.fs.length A.fc, .slice A.ra g.es.length A.rc, .int .i64 g.nx, .slice A.la g.fl.length A.lc, .slice A.ca g.co.length A.cc, .int .i64 g.nw, .int .i64 g.dr, .int .i64 g.sn] → Calls Tryz.prog 23 #[.slice A.la g.fl.length A.lc, .func (.func 24) #[] #[.pointer (some ⟨B, 0, none⟩)]] W fun e w' => ∃ v, e = .returned v ∧ OwnS wvG 9 68 w' W.heap.size v L ∧ Below W.heap.size W w') := HF.out (by simp)
    clear HF
    have u13 := G1.out.cell 13 rfl
    go_wp2_with (go_at_call 23; refine (HF2.out _ _ (GR.out.below X1.out) G1.out).mono ?_; rintro e w3 ⟨v, rfl, o3, bx⟩; obtain ⟨ax, cx, rfl, -⟩ := o3.slice; have X3 : Hid (Below w.heap.size w w3) := X1.out.trans (bx.mono X1.out.size); clear bx o3 G1 X1 u13 HF2)
    go_ret2
    exact ⟨by first | rfl | simp, X3.out⟩
end Go.Proofs.YtlebblmlbhnppabGreat
