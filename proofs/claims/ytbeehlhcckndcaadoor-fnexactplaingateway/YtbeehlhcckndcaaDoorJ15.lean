/- l13Own of the model, by l13Config. l13Config of the model. l13Own of the model, whole. Results whose first part is a struct in a box. Nothing of the program is used. PlainGateway, of the model. PlainGateway, of the program. The walk of laws.FnExactPlainGateway, over what both sides answer. The program's two tables of hashes, as the rows list them, lie cell for cell in their variables. -/
import Derived.Test.YtbeehlhcckndcaaDoorJ11
import Derived.Test.YtbeehlhcckndcaaDoorJ10
import Derived.Test.YtbeehlhcckndcaaDoorJ14
import Derived.Test.YtbeehlhcckndcaaDoorRows
import Derived.Test.YtbeehlhcckndcaaDoorJ0
import Derived.ProofKit
import Derived.LaidMore
import Derived.Stop.Joined
import Derived.Lib.LaidTab
namespace Go.Proofs.YtbeehlhcckndcaaDoor
open Go.RowKit Go.PlainAid Go.Proofs.YtbeehlhcckndcaaDoor.Bt Go.Sort
set_option linter.unusedVariables false
set_option maxRecDepth 20000
set_option maxHeartbeats 8000000 in
theorem l13Own_of (A : GtA) (g : GtV) (L : List RoX) (B : Nat) (w : World) (h : OwnGt w B A g L) (hr : GtR w A g) (hs : GtS g)
    (HG0 : ∀ W, Below w.heap.size w W → Calls Tryd.prog 26 #[.agg #[.int .i64 g.ip, .int .i64 g.b, .int .i64 g.gt, .string g.gm, .string g.wm, .int .i64 g.rs, .slice A.x g.ps.length A.xc, .slice A.y g.ros.length A.yc]] W fun e w' => ∃ (px ry : Option Addr) (pc rc : Nat) (X : List RoX), X.map (fun x => x.r) = g.ros ∧ e = .returned (.agg #[.int .i64 g.ip, .int .i64 g.b, .int .i64 g.gt, .string g.gm, .string g.wm, .int .i64 g.rs, .slice px g.ps.length pc, .slice ry g.ros.length rc]) ∧ (OwnS pv 4 62 w' W.heap.size (.slice px g.ps.length pc) g.ps ∧ OwnRo w' W.heap.size (.slice ry g.ros.length rc) X) ∧ Below W.heap.size W w') :
    Calls Tryd.prog 9 #[.agg #[.int .i64 g.ip, .int .i64 g.b, .int .i64 g.gt, .string g.gm, .string g.wm, .int .i64 g.rs, .slice A.x g.ps.length A.xc, .slice A.y g.ros.length A.yc, .slice A.ua g.us.length A.uc, .slice A.sa g.ss.length A.sc, .slice A.fa g.fs.length A.fc, .slice A.ra g.es.length A.rc, .int .i64 g.nx, .slice A.la g.fl.length A.lc, .slice A.ca g.co.length A.cc, .int .i64 g.nw, .int .i64 g.dr, .int .i64 g.sn]] w fun e w' => ∃ (px ry ux sx fx ex lx cx : Option Addr) (pc rc uc sc fc ec lc cc : Nat) (X : List RoX), e = .returned (.agg #[.int .i64 g.ip, .int .i64 g.b, .int .i64 g.gt, .string g.gm, .string g.wm, .int .i64 g.rs, .slice px g.ps.length pc, .slice ry g.ros.length rc, .slice ux g.us.length uc, .slice sx g.ss.length sc, .slice fx g.fs.length fc, .slice ex g.es.length ec, .int .i64 g.nx, .slice lx g.fl.length lc, .slice cx g.co.length cc, .int .i64 g.nw, .int .i64 g.dr, .int .i64 g.sn]) ∧ OwnGt w' w.heap.size ⟨px, ry, ux, sx, fx, ex, lx, cx, pc, rc, uc, sc, fc, ec, lc, cc⟩ g X ∧ Below w.heap.size w w' := by
  have T0 : Hid (CB w [.int .i64 g.ip, .int .i64 g.b, .int .i64 g.gt, .string g.gm, .string g.wm, .int .i64 g.rs, .slice A.x g.ps.length A.xc, .slice A.y g.ros.length A.yc, .slice A.ua g.us.length A.uc, .slice A.sa g.ss.length A.sc, .slice A.fa g.fs.length A.fc, .slice A.ra g.es.length A.rc, .int .i64 g.nx, .slice A.la g.fl.length A.lc, .slice A.ca g.co.length A.cc, .int .i64 g.nw, .int .i64 g.dr, .int .i64 g.sn] ((w.alloc (.cells #[.int .i64 g.ip, .int .i64 g.b, .int .i64 g.gt, .string g.gm, .string g.wm, .int .i64 g.rs, .slice A.x g.ps.length A.xc, .slice A.y g.ros.length A.yc, .slice A.ua g.us.length A.uc, .slice A.sa g.ss.length A.sc, .slice A.fa g.fs.length A.fc, .slice A.ra g.es.length A.rc, .int .i64 g.nx, .slice A.la g.fl.length A.lc, .slice A.ca g.co.length A.cc, .int .i64 g.nw, .int .i64 g.dr, .int .i64 g.sn] 37)).alloc (.cells #[.int .i64 0, .int .i64 0, .int .i64 0, .string ⟨#[]⟩, .string ⟨#[]⟩, .int .i64 0, .slice none 0 0, .slice none 0 0, .slice none 0 0, .slice none 0 0, .slice none 0 0, .slice none 0 0, .int .i64 0, .slice none 0 0, .slice none 0 0, .int .i64 0, .int .i64 0, .int .i64 0] 37))) := by
    refine ⟨?_, ?_, ?_, ?_⟩
    · exact (Bx.new w #[.int .i64 g.ip, .int .i64 g.b, .int .i64 g.gt, .string g.gm, .string g.wm, .int .i64 g.rs, .slice A.x g.ps.length A.xc, .slice A.y g.ros.length A.yc, .slice A.ua g.us.length A.uc, .slice A.sa g.ss.length A.sc, .slice A.fa g.fs.length A.fc, .slice A.ra g.es.length A.rc, .int .i64 g.nx, .slice A.la g.fl.length A.lc, .slice A.ca g.co.length A.cc, .int .i64 g.nw, .int .i64 g.dr, .int .i64 g.sn] 37).below ((Below.refl _ _).alloc (Nat.le_refl _) _)
    · have := Bx.new (w.alloc (.cells #[.int .i64 g.ip, .int .i64 g.b, .int .i64 g.gt, .string g.gm, .string g.wm, .int .i64 g.rs, .slice A.x g.ps.length A.xc, .slice A.y g.ros.length A.yc, .slice A.ua g.us.length A.uc, .slice A.sa g.ss.length A.sc, .slice A.fa g.fs.length A.fc, .slice A.ra g.es.length A.rc, .int .i64 g.nx, .slice A.la g.fl.length A.lc, .slice A.ca g.co.length A.cc, .int .i64 g.nw, .int .i64 g.dr, .int .i64 g.sn] 37)) #[.int .i64 0, .int .i64 0, .int .i64 0, .string ⟨#[]⟩, .string ⟨#[]⟩, .int .i64 0, .slice none 0 0, .slice none 0 0, .slice none 0 0, .slice none 0 0, .slice none 0 0, .slice none 0 0, .int .i64 0, .slice none 0 0, .slice none 0 0, .int .i64 0, .int .i64 0, .int .i64 0] 37
      rw [World.size_alloc] at this
      exact this
    · exact ((Below.refl _ _).alloc (Nat.le_refl _) _).alloc (by simp) _
    · simp
  have HG : Hid (∀ W, Below w.heap.size w W → Calls Tryd.prog 26 #[.agg #[.int .i64 g.ip, .int .i64 g.b, .int .i64 g.gt, .string g.gm, .string g.wm, .int .i64 g.rs, .slice A.x g.ps.length A.xc, .slice A.y g.ros.length A.yc]] W fun e w' => ∃ (px ry : Option Addr) (pc rc : Nat) (X : List RoX), X.map (fun x => x.r) = g.ros ∧ e = .returned (.agg #[.int .i64 g.ip, .int .i64 g.b, .int .i64 g.gt, .string g.gm, .string g.wm, .int .i64 g.rs, .slice px g.ps.length pc, .slice ry g.ros.length rc]) ∧ (OwnS pv 4 62 w' W.heap.size (.slice px g.ps.length pc) g.ps ∧ OwnRo w' W.heap.size (.slice ry g.ros.length rc) X) ∧ Below W.heap.size W w') := HG0
  have HU : Hid (∀ W, Below w.heap.size w W → Calls Tryd.prog 27 #[.agg #[.slice A.ua g.us.length A.uc, .slice A.sa g.ss.length A.sc, .slice A.fa g.fs.length A.fc, .slice A.ra g.es.length A.rc, .int .i64 g.nx]] W fun e w' => ∃ (ux sx fx ex : Option Addr) (uc sc fc ec : Nat), e = .returned (.agg #[.slice ux g.us.length uc, .slice sx g.ss.length sc, .slice fx g.fs.length fc, .slice ex g.es.length ec, .int .i64 g.nx]) ∧ Own4 w' W.heap.size (.slice ux g.us.length uc) (.slice sx g.ss.length sc) (.slice fx g.fs.length fc) (.slice ex g.es.length ec) g.us g.ss g.fs g.es ∧ Below W.heap.size W w') := fun W hb => by
    have s1 := own_spot h.gu.u
    have s2 := own_spot h.gu.s
    have s3 := own_spot h.gu.f
    have s4 := own_spot h.gu.r
    refine (l08Own_any A.ua A.sa A.fa A.ra g.us.length A.uc g.ss.length A.sc g.fs.length A.fc g.es.length A.rc g.us g.ss g.fs g.es g.nx W ⟨hr.us.keep UsR.kp hb, rfl, hs.us, s1.2.1, s1.2.2.1, s1.2.2.2⟩ ⟨hr.ss.keep SeR.kp hb, rfl, hs.ss, s2.2.1, s2.2.2.1, s2.2.2.2⟩ ⟨hr.fs.keep FaR.kp hb, rfl, hs.fs, s3.2.1, s3.2.2.1, s3.2.2.2⟩ ⟨hr.es.keep ReR.kp hb, rfl, hs.es, s4.2.1, s4.2.2.1, s4.2.2.2⟩).mono ?_
    rintro e w' ⟨vu, vs, vf, vr, rfl, o, b⟩
    obtain ⟨ux, uc, rfl, -⟩ := o.u.slice
    obtain ⟨sx, sc, rfl, -⟩ := o.s.slice
    obtain ⟨fx, fc, rfl, -⟩ := o.f.slice
    obtain ⟨ex, ec, rfl, -⟩ := o.r.slice
    exact ⟨ux, sx, fx, ex, uc, sc, fc, ec, rfl, o, b⟩
  have SF : Hid (∀ W, Below w.heap.size w W → Src FlR 9 W A.la g.fl.length A.lc g.fl) := fun W hb => by
    have sp := own_spot h.fl
    exact ⟨hr.fl.keep FR.kp hb, rfl, hs.fl, sp.2.1, sp.2.2.1, sp.2.2.2⟩
  have SC : Hid (∀ W, Below w.heap.size w W → Src CnR 11 W A.ca g.co.length A.cc g.co) := fun W hb => by
    have sp := own_spot h.co
    exact ⟨hr.co.keep FR.kp hb, rfl, hs.co, sp.2.1, sp.2.2.1, sp.2.2.2⟩
  clear h hr hs HG0
  go_enter Tryd.func9, Tryd.ntmps9
  go_wp2_with (first | (refine wpl_getO 27 rfl _ rfl w.heap.size 0 [.int .i64 g.ip, .int .i64 g.b, .int .i64 g.gt, .string g.gm, .string g.wm, .int .i64 g.rs, .slice A.x g.ps.length A.xc, .slice A.y g.ros.length A.yc] rfl T0.out.g rfl _ Tryd.underlying27 rfl rfl ?_) | fail)
  refine (HG.out _ T0.out.b).mono ?_
  rintro e w1 ⟨px, ry, pc, rc, X, hX, rfl, hp, bx⟩
  have T1 : Hid (CB w [.int .i64 g.ip, .int .i64 g.b, .int .i64 g.gt, .string g.gm, .string g.wm, .int .i64 g.rs, .slice A.x g.ps.length A.xc, .slice A.y g.ros.length A.yc, .slice A.ua g.us.length A.uc, .slice A.sa g.ss.length A.sc, .slice A.fa g.fs.length A.fc, .slice A.ra g.es.length A.rc, .int .i64 g.nx, .slice A.la g.fl.length A.lc, .slice A.ca g.co.length A.cc, .int .i64 g.nw, .int .i64 g.dr, .int .i64 g.sn] w1) := T0.out.call bx
  have EX : Hid (X.map (fun x => x.r) = g.ros) := hX
  have PA1 : Hid (OwnS pv 4 62 w1 (w.heap.size + 2) (.slice px g.ps.length pc) g.ps ∧ OwnRo w1 (w.heap.size + 2) (.slice ry g.ros.length rc) X) := ⟨hp.1.lower T0.out.z, hp.2.lower T0.out.z⟩
  clear bx hp T0 HG hX
  go_wp2_with (first | (refine wpl_putO 27 rfl _ _ rfl w.heap.size 0 _ rfl rfl T1.out.g rfl rfl rfl ?_; intro w2 hw2 _; have T2 : Hid (CB w [.int .i64 g.ip, .int .i64 g.b, .int .i64 g.gt, .string g.gm, .string g.wm, .int .i64 g.rs, .slice px g.ps.length pc, .slice ry g.ros.length rc, .slice A.ua g.us.length A.uc, .slice A.sa g.ss.length A.sc, .slice A.fa g.fs.length A.fc, .slice A.ra g.es.length A.rc, .int .i64 g.nx, .slice A.la g.fl.length A.lc, .slice A.ca g.co.length A.cc, .int .i64 g.nw, .int .i64 g.dr, .int .i64 g.sn] w2) := (by rw [hw2]; exact T1.out.put 0 [.int .i64 g.ip, .int .i64 g.b, .int .i64 g.gt, .string g.gm, .string g.wm, .int .i64 g.rs, .slice px g.ps.length pc, .slice ry g.ros.length rc]); have PA2 : Hid (OwnS pv 4 62 w2 (w.heap.size + 2) (.slice px g.ps.length pc) g.ps ∧ OwnRo w2 (w.heap.size + 2) (.slice ry g.ros.length rc) X) := (by rw [hw2]; exact ⟨own_putG PA1.out.1 (by omega) _ _, ro_putG PA1.out.2 (by omega) _ _⟩); clear hw2 T1 PA1) | (refine wpl_getO 33 rfl _ rfl w.heap.size 8 [.slice A.ua g.us.length A.uc, .slice A.sa g.ss.length A.sc, .slice A.fa g.fs.length A.fc, .slice A.ra g.es.length A.rc, .int .i64 g.nx] rfl T2.out.g rfl _ Tryd.underlying33 rfl rfl ?_) | fail)
  refine (HU.out _ T2.out.b).mono ?_
  rintro e w3 ⟨ux, sx, fx, ex, uc, sc, fc, ec, rfl, o4, bx⟩
  have T3 : Hid (CB w [.int .i64 g.ip, .int .i64 g.b, .int .i64 g.gt, .string g.gm, .string g.wm, .int .i64 g.rs, .slice px g.ps.length pc, .slice ry g.ros.length rc, .slice A.ua g.us.length A.uc, .slice A.sa g.ss.length A.sc, .slice A.fa g.fs.length A.fc, .slice A.ra g.es.length A.rc, .int .i64 g.nx, .slice A.la g.fl.length A.lc, .slice A.ca g.co.length A.cc, .int .i64 g.nw, .int .i64 g.dr, .int .i64 g.sn] w3) := T2.out.call bx
  have PA3 : Hid (OwnS pv 4 62 w3 (w.heap.size + 2) (.slice px g.ps.length pc) g.ps ∧ OwnRo w3 (w.heap.size + 2) (.slice ry g.ros.length rc) X) := ⟨PA2.out.1.now bx, PA2.out.2.now bx⟩
  have PB3 : Hid (Own4 w3 (w.heap.size + 2) (.slice ux g.us.length uc) (.slice sx g.ss.length sc) (.slice fx g.fs.length fc) (.slice ex g.es.length ec) g.us g.ss g.fs g.es) := o4.lower T2.out.z
  clear HU T2 PA2 o4 bx
  go_wp2_with (first | (refine wpl_putO 33 rfl _ _ rfl w.heap.size 8 _ rfl rfl T3.out.g rfl rfl rfl ?_; intro w4 hw4 _; have T4 : Hid (CB w [.int .i64 g.ip, .int .i64 g.b, .int .i64 g.gt, .string g.gm, .string g.wm, .int .i64 g.rs, .slice px g.ps.length pc, .slice ry g.ros.length rc, .slice ux g.us.length uc, .slice sx g.ss.length sc, .slice fx g.fs.length fc, .slice ex g.es.length ec, .int .i64 g.nx, .slice A.la g.fl.length A.lc, .slice A.ca g.co.length A.cc, .int .i64 g.nw, .int .i64 g.dr, .int .i64 g.sn] w4) := (by rw [hw4]; exact T3.out.put 8 [.slice ux g.us.length uc, .slice sx g.ss.length sc, .slice fx g.fs.length fc, .slice ex g.es.length ec, .int .i64 g.nx]); have PA4 : Hid (OwnS pv 4 62 w4 (w.heap.size + 2) (.slice px g.ps.length pc) g.ps ∧ OwnRo w4 (w.heap.size + 2) (.slice ry g.ros.length rc) X) := (by rw [hw4]; exact ⟨own_putG PA3.out.1 (by omega) _ _, ro_putG PA3.out.2 (by omega) _ _⟩); have PB4 : Hid (Own4 w4 (w.heap.size + 2) (.slice ux g.us.length uc) (.slice sx g.ss.length sc) (.slice fx g.fs.length fc) (.slice ex g.es.length ec) g.us g.ss g.fs g.es) := (by rw [hw4]; exact own4_putG PB3.out (by omega) _ _); clear hw4 T3 PA3 PB3; have al4 : Below w4.heap.size w4 (w4.alloc (.cells #[] 82)) := (Below.refl _ _).alloc (Nat.le_refl _) _; have hS4 := SF.out _ (T4.out.call al4).b; have lt4 := OwnS.lit (c := wvG) (K := 9) (e := 82) w4 w4.heap.size (Nat.le_refl _); have ca4 := acell (T4.out.g.cell 13 rfl) (.cells #[] 82)) | (at_builtin; refine wpl_FlowCS _ rfl (.tmp 11) (.tmp 13) rfl w4.heap.size _ [] g.fl rfl lt4 _ _ _ hS4.hrw hS4.hlen hS4.hspot hS4.hnil rfl (by have := hS4.hmost; simp; omega) al4.size ?_))
  intro vl w5 Y5 _
  have ol : OwnS wvG 9 82 w5 w4.heap.size vl g.fl := Y5.out.1
  have b5 : Below w4.heap.size w4 w5 := al4.trans Y5.out.2
  obtain ⟨lx, lc, rfl, -⟩ := ol.slice
  have T5 : Hid (CB w [.int .i64 g.ip, .int .i64 g.b, .int .i64 g.gt, .string g.gm, .string g.wm, .int .i64 g.rs, .slice px g.ps.length pc, .slice ry g.ros.length rc, .slice ux g.us.length uc, .slice sx g.ss.length sc, .slice fx g.fs.length fc, .slice ex g.es.length ec, .int .i64 g.nx, .slice A.la g.fl.length A.lc, .slice A.ca g.co.length A.cc, .int .i64 g.nw, .int .i64 g.dr, .int .i64 g.sn] w5) := T4.out.call b5
  have PA5 : Hid (OwnS pv 4 62 w5 (w.heap.size + 2) (.slice px g.ps.length pc) g.ps ∧ OwnRo w5 (w.heap.size + 2) (.slice ry g.ros.length rc) X) := ⟨PA4.out.1.now b5, PA4.out.2.now b5⟩
  have PB5 : Hid (Own4 w5 (w.heap.size + 2) (.slice ux g.us.length uc) (.slice sx g.ss.length sc) (.slice fx g.fs.length fc) (.slice ex g.es.length ec) g.us g.ss g.fs g.es) := PB4.out.now b5
  have PC5 : Hid (OwnS wvG 9 82 w5 (w.heap.size + 2) (.slice lx g.fl.length lc) g.fl) := ol.lower T4.out.z
  clear Y5 ol b5 T4 PA4 PB4 al4 hS4 lt4 ca4 SF
  go_wp2_with (first | (refine wpl_put1 34 rfl _ _ rfl w.heap.size 13 _ rfl rfl T5.out.g rfl rfl rfl ?_; intro w6 hw6; have T6 : Hid (CB w [.int .i64 g.ip, .int .i64 g.b, .int .i64 g.gt, .string g.gm, .string g.wm, .int .i64 g.rs, .slice px g.ps.length pc, .slice ry g.ros.length rc, .slice ux g.us.length uc, .slice sx g.ss.length sc, .slice fx g.fs.length fc, .slice ex g.es.length ec, .int .i64 g.nx, .slice lx g.fl.length lc, .slice A.ca g.co.length A.cc, .int .i64 g.nw, .int .i64 g.dr, .int .i64 g.sn] w6) := (by rw [hw6]; exact T5.out.put 13 [.slice lx g.fl.length lc]); have PA6 : Hid (OwnS pv 4 62 w6 (w.heap.size + 2) (.slice px g.ps.length pc) g.ps ∧ OwnRo w6 (w.heap.size + 2) (.slice ry g.ros.length rc) X) := (by rw [hw6]; exact ⟨own_putG PA5.out.1 (by omega) _ _, ro_putG PA5.out.2 (by omega) _ _⟩); have PB6 : Hid (Own4 w6 (w.heap.size + 2) (.slice ux g.us.length uc) (.slice sx g.ss.length sc) (.slice fx g.fs.length fc) (.slice ex g.es.length ec) g.us g.ss g.fs g.es) := (by rw [hw6]; exact own4_putG PB5.out (by omega) _ _); have PC6 : Hid (OwnS wvG 9 82 w6 (w.heap.size + 2) (.slice lx g.fl.length lc) g.fl) := (by rw [hw6]; exact own_putG PC5.out (by omega) _ _); clear hw6 T5 PA5 PB5 PC5; have al6 : Below w6.heap.size w6 (w6.alloc (.cells #[] 85)) := (Below.refl _ _).alloc (Nat.le_refl _) _; have hS6 := SC.out _ (T6.out.call al6).b; have lt6 := OwnS.lit (c := cnG) (K := 11) (e := 85) w6 w6.heap.size (Nat.le_refl _); have ca6 := acell (T6.out.g.cell 14 rfl) (.cells #[] 85)) | (at_builtin; refine wpl_ConnCS _ rfl (.tmp 16) (.tmp 18) rfl w6.heap.size _ [] g.co rfl lt6 _ _ _ hS6.hrw hS6.hlen hS6.hspot hS6.hnil rfl (by have := hS6.hmost; simp; omega) al6.size ?_))
  intro vc w7 Y7 _
  have oc : OwnS cnG 11 85 w7 w6.heap.size vc g.co := Y7.out.1
  have b7 : Below w6.heap.size w6 w7 := al6.trans Y7.out.2
  obtain ⟨cx, cc, rfl, -⟩ := oc.slice
  have T7 : Hid (CB w [.int .i64 g.ip, .int .i64 g.b, .int .i64 g.gt, .string g.gm, .string g.wm, .int .i64 g.rs, .slice px g.ps.length pc, .slice ry g.ros.length rc, .slice ux g.us.length uc, .slice sx g.ss.length sc, .slice fx g.fs.length fc, .slice ex g.es.length ec, .int .i64 g.nx, .slice lx g.fl.length lc, .slice A.ca g.co.length A.cc, .int .i64 g.nw, .int .i64 g.dr, .int .i64 g.sn] w7) := T6.out.call b7
  have PA7 : Hid (OwnS pv 4 62 w7 (w.heap.size + 2) (.slice px g.ps.length pc) g.ps ∧ OwnRo w7 (w.heap.size + 2) (.slice ry g.ros.length rc) X) := ⟨PA6.out.1.now b7, PA6.out.2.now b7⟩
  have PB7 : Hid (Own4 w7 (w.heap.size + 2) (.slice ux g.us.length uc) (.slice sx g.ss.length sc) (.slice fx g.fs.length fc) (.slice ex g.es.length ec) g.us g.ss g.fs g.es) := PB6.out.now b7
  have PC7 : Hid (OwnS wvG 9 82 w7 (w.heap.size + 2) (.slice lx g.fl.length lc) g.fl) := PC6.out.now b7
  have PD7 : Hid (OwnS cnG 11 85 w7 (w.heap.size + 2) (.slice cx g.co.length cc) g.co) := oc.lower T6.out.z
  clear Y7 oc b7 T6 PA6 PB6 PC6 al6 hS6 lt6 ca6 SC
  go_wp2_with (first | (refine wpl_put1 35 rfl _ _ rfl w.heap.size 14 _ rfl rfl T7.out.g rfl rfl rfl ?_; intro wA hwA; have T11 : Hid (CB w [.int .i64 g.ip, .int .i64 g.b, .int .i64 g.gt, .string g.gm, .string g.wm, .int .i64 g.rs, .slice px g.ps.length pc, .slice ry g.ros.length rc, .slice ux g.us.length uc, .slice sx g.ss.length sc, .slice fx g.fs.length fc, .slice ex g.es.length ec, .int .i64 g.nx, .slice lx g.fl.length lc, .slice cx g.co.length cc, .int .i64 g.nw, .int .i64 g.dr, .int .i64 g.sn] wA) := (by rw [hwA]; exact T7.out.put 14 [.slice cx g.co.length cc]); have FIN : Hid (OwnGt wA (w.heap.size + 2) ⟨px, ry, ux, sx, fx, ex, lx, cx, pc, rc, uc, sc, fc, ec, lc, cc⟩ g X) := (by rw [hwA]; exact ⟨EX.out, own_putG PA7.out.1 (by omega) _ _, ro_putG PA7.out.2 (by omega) _ _, own4_putG PB7.out (by omega) _ _, own_putG PC7.out (by omega) _ _, own_putG PD7.out (by omega) _ _⟩); clear hwA T7 PA7 PB7 PC7 PD7) | (refine wpl_getO 37 rfl _ rfl w.heap.size 0 [.int .i64 g.ip, .int .i64 g.b, .int .i64 g.gt, .string g.gm, .string g.wm, .int .i64 g.rs, .slice px g.ps.length pc, .slice ry g.ros.length rc, .slice ux g.us.length uc, .slice sx g.ss.length sc, .slice fx g.fs.length fc, .slice ex g.es.length ec, .int .i64 g.nx, .slice lx g.fl.length lc, .slice cx g.co.length cc, .int .i64 g.nw, .int .i64 g.dr, .int .i64 g.sn] rfl T11.out.g rfl _ Tryd.underlying37 rfl rfl ?_) | (refine wpl_putO 37 rfl _ _ rfl (w.heap.size + 1) 0 _ rfl rfl T11.out.r rfl rfl rfl ?_; intro wB hwB RB; have BB : Hid (Below w.heap.size w wB) := (by rw [hwB]; exact below_cells (by omega) _ _ _ T11.out.b); have FIN2 : Hid (OwnGt wB (w.heap.size + 2) ⟨px, ry, ux, sx, fx, ex, lx, cx, pc, rc, uc, sc, fc, ec, lc, cc⟩ g X) := (by rw [hwB]; exact ⟨EX.out, own_putG FIN.out.ps (by omega) _ _, ro_putG FIN.out.rs (by omega) _ _, own4_putG FIN.out.gu (by omega) _ _, own_putG FIN.out.fl (by omega) _ _, own_putG FIN.out.co (by omega) _ _⟩); clear hwB T11 FIN) | fail)
  (try simp only [Exit.inBlock, Exit.then])
  refine bodyPost_ret (v := .agg #[.int .i64 g.ip, .int .i64 g.b, .int .i64 g.gt, .string g.gm, .string g.wm, .int .i64 g.rs, .slice px g.ps.length pc, .slice ry g.ros.length rc, .slice ux g.us.length uc, .slice sx g.ss.length sc, .slice fx g.fs.length fc, .slice ex g.es.length ec, .int .i64 g.nx, .slice lx g.fl.length lc, .slice cx g.co.length cc, .int .i64 g.nw, .int .i64 g.dr, .int .i64 g.sn]) (results_cell Tryd.results9 (w.heap.size + 1) rfl RB _ Tryd.underlying37 rfl rfl) rfl ?_
  exact ⟨px, ry, ux, sx, fx, ex, lx, cx, pc, rc, uc, sc, fc, ec, lc, cc, rfl, ⟨X, FIN2.out.lower (by omega)⟩, BB.out⟩
end Go.Proofs.YtbeehlhcckndcaaDoor

namespace Go.Proofs.YtbeehlhcckndcaaDoor
open Go.RowKit Go.PlainAid Go.Proofs.YtbeehlhcckndcaaDoor.Bt Go.Sort
set_option linter.unusedVariables false
set_option maxRecDepth 20000
structure CC (w : World) (cs : List Value) (W : World) : Prop where
  g : Bx W w.heap.size cs
  r : Bx W (w.heap.size + 1) [.int .i64 0, .int .i64 0, .int .i64 0, .string ⟨#[]⟩, .string ⟨#[]⟩, .int .i64 0, .slice none 0 0, .slice none 0 0]
  b : Below w.heap.size w W
  z : w.heap.size + 2 ≤ W.heap.size
theorem CC.call {w : World} {cs : List Value} {W W' : World} (h : CC w cs W) (hb : Below W.heap.size W W') : CC w cs W' := ⟨h.g.below hb, h.r.below hb, h.b.trans (hb.mono h.b.size), Nat.le_trans h.z hb.size⟩
theorem CC.put {w : World} {cs : List Value} {W : World} (h : CC w cs W) (o : Nat) (vs : List Value) : CC w (sets cs o vs) (W.setCells w.heap.size o vs) :=
  ⟨h.g.sets vs o _ _, h.r.apartO vs (by omega), below_cells (Nat.le_refl _) vs o _ h.b, by rw [(heap_cellsA vs o W).1]; exact h.z⟩
/-- The roles that are appended so far. -/
structure RA (w : World) (L : List RoX) (k : Nat) (v : Value) (X : List RoX) (W : World) : Prop where
  row : OwnRo W (w.heap.size + 2) v X
  map : X.map (fun x => x.r) = (L.take k).map (fun x => x.r)
set_option maxHeartbeats 8000000 in
theorem l13Config_any (A : GtA) (g : GtV) (L : List RoX) (B : Nat) (w : World) (op : OwnS pv 4 62 w B (.slice A.x g.ps.length A.xc) g.ps) (orr : OwnRo w B (.slice A.y g.ros.length A.yc) L) (hL : L.map (fun x => x.r) = g.ros) (hp : Rw PlR 4 w A.x g.ps) (hro : Rw (RoR 0) 5 w A.y g.ros) (mp : g.ps.length ≤ 1048576) (mr : g.ros.length ≤ 1048576) (hru : ∀ x, x ∈ L → x.r.rs.length ≤ 1048576) :
    Calls Tryd.prog 26 #[.agg #[.int .i64 g.ip, .int .i64 g.b, .int .i64 g.gt, .string g.gm, .string g.wm, .int .i64 g.rs, .slice A.x g.ps.length A.xc, .slice A.y g.ros.length A.yc]] w fun e w' => ∃ (px ry : Option Addr) (pc rc : Nat) (X : List RoX), X.map (fun x => x.r) = g.ros ∧ e = .returned (.agg #[.int .i64 g.ip, .int .i64 g.b, .int .i64 g.gt, .string g.gm, .string g.wm, .int .i64 g.rs, .slice px g.ps.length pc, .slice ry g.ros.length rc]) ∧ (OwnS pv 4 62 w' w.heap.size (.slice px g.ps.length pc) g.ps ∧ OwnRo w' w.heap.size (.slice ry g.ros.length rc) X) ∧ Below w.heap.size w w' := by
  have T0 : Hid (CC w [.int .i64 g.ip, .int .i64 g.b, .int .i64 g.gt, .string g.gm, .string g.wm, .int .i64 g.rs, .slice A.x g.ps.length A.xc, .slice A.y g.ros.length A.yc] ((w.alloc (.cells #[.int .i64 g.ip, .int .i64 g.b, .int .i64 g.gt, .string g.gm, .string g.wm, .int .i64 g.rs, .slice A.x g.ps.length A.xc, .slice A.y g.ros.length A.yc] 27)).alloc (.cells #[.int .i64 0, .int .i64 0, .int .i64 0, .string ⟨#[]⟩, .string ⟨#[]⟩, .int .i64 0, .slice none 0 0, .slice none 0 0] 27))) := by
    refine ⟨?_, ?_, ?_, ?_⟩
    · exact (Bx.new w #[.int .i64 g.ip, .int .i64 g.b, .int .i64 g.gt, .string g.gm, .string g.wm, .int .i64 g.rs, .slice A.x g.ps.length A.xc, .slice A.y g.ros.length A.yc] 27).below ((Below.refl _ _).alloc (Nat.le_refl _) _)
    · have := Bx.new (w.alloc (.cells #[.int .i64 g.ip, .int .i64 g.b, .int .i64 g.gt, .string g.gm, .string g.wm, .int .i64 g.rs, .slice A.x g.ps.length A.xc, .slice A.y g.ros.length A.yc] 27)) #[.int .i64 0, .int .i64 0, .int .i64 0, .string ⟨#[]⟩, .string ⟨#[]⟩, .int .i64 0, .slice none 0 0, .slice none 0 0] 27
      rw [World.size_alloc] at this
      exact this
    · exact ((Below.refl _ _).alloc (Nat.le_refl _) _).alloc (by simp) _
    · simp
  have hn : L.length = g.ros.length := by rw [← hL, List.length_map]
  have SP : Hid (∀ W, Below w.heap.size w W → Src PlR 4 W A.x g.ps.length A.xc g.ps) := fun W hb => by
    have sp := own_spot op
    exact ⟨hp.keep PlR.kp hb, rfl, mp, sp.2.1, sp.2.2.1, sp.2.2.2⟩
  have SR : Hid (∀ x, x ∈ L → ∀ W, Below w.heap.size w W → Src RuR 6 W x.ra x.r.rs.length x.rc x.r.rs) := fun x hx W hb => by
    have lie := roles_lie orr hL hro x hx
    exact ⟨lie.2.2.2.1.keep RuR.kp hb, rfl, hru x hx, lie.2.1, lie.2.2.2.2.1, lie.2.2.2.2.2⟩
  have RW : Hid (∀ W, Below w.heap.size w W → OwnS roG 5 67 W B (.slice A.y g.ros.length A.yc) L) := fun W hb => own_keep (P := fun k => k < w.heap.size) orr.row ⟨hb.os, hb.tape, hb.output, hb.size, hb.block⟩ (fun k e => (orr.row.lt k e).2)
  have HL : Hid (L.map (fun x => x.r) = g.ros) := hL
  have al0 : Below ((w.alloc (.cells #[.int .i64 g.ip, .int .i64 g.b, .int .i64 g.gt, .string g.gm, .string g.wm, .int .i64 g.rs, .slice A.x g.ps.length A.xc, .slice A.y g.ros.length A.yc] 27)).alloc (.cells #[.int .i64 0, .int .i64 0, .int .i64 0, .string ⟨#[]⟩, .string ⟨#[]⟩, .int .i64 0, .slice none 0 0, .slice none 0 0] 27)).heap.size ((w.alloc (.cells #[.int .i64 g.ip, .int .i64 g.b, .int .i64 g.gt, .string g.gm, .string g.wm, .int .i64 g.rs, .slice A.x g.ps.length A.xc, .slice A.y g.ros.length A.yc] 27)).alloc (.cells #[.int .i64 0, .int .i64 0, .int .i64 0, .string ⟨#[]⟩, .string ⟨#[]⟩, .int .i64 0, .slice none 0 0, .slice none 0 0] 27)) (((w.alloc (.cells #[.int .i64 g.ip, .int .i64 g.b, .int .i64 g.gt, .string g.gm, .string g.wm, .int .i64 g.rs, .slice A.x g.ps.length A.xc, .slice A.y g.ros.length A.yc] 27)).alloc (.cells #[.int .i64 0, .int .i64 0, .int .i64 0, .string ⟨#[]⟩, .string ⟨#[]⟩, .int .i64 0, .slice none 0 0, .slice none 0 0] 27)).alloc (.cells #[] 62)) := (Below.refl _ _).alloc (Nat.le_refl _) _
  have hS0 := SP.out _ (T0.out.call al0).b
  have lt0 := OwnS.lit (c := pv) (K := 4) (e := 62) ((w.alloc (.cells #[.int .i64 g.ip, .int .i64 g.b, .int .i64 g.gt, .string g.gm, .string g.wm, .int .i64 g.rs, .slice A.x g.ps.length A.xc, .slice A.y g.ros.length A.yc] 27)).alloc (.cells #[.int .i64 0, .int .i64 0, .int .i64 0, .string ⟨#[]⟩, .string ⟨#[]⟩, .int .i64 0, .slice none 0 0, .slice none 0 0] 27)) ((w.alloc (.cells #[.int .i64 g.ip, .int .i64 g.b, .int .i64 g.gt, .string g.gm, .string g.wm, .int .i64 g.rs, .slice A.x g.ps.length A.xc, .slice A.y g.ros.length A.yc] 27)).alloc (.cells #[.int .i64 0, .int .i64 0, .int .i64 0, .string ⟨#[]⟩, .string ⟨#[]⟩, .int .i64 0, .slice none 0 0, .slice none 0 0] 27)).heap.size (Nat.le_refl _)
  have ca0 := acell (T0.out.g.cell 6 rfl) (.cells #[] 62)
  clear op orr hL hp hro mp hru
  have hk0 := al0.size
  have hsz0 : ((w.alloc (.cells #[.int .i64 g.ip, .int .i64 g.b, .int .i64 g.gt, .string g.gm, .string g.wm, .int .i64 g.rs, .slice A.x g.ps.length A.xc, .slice A.y g.ros.length A.yc] 27)).alloc (.cells #[.int .i64 0, .int .i64 0, .int .i64 0, .string ⟨#[]⟩, .string ⟨#[]⟩, .int .i64 0, .slice none 0 0, .slice none 0 0] 27)).heap.size = w.heap.size + 1 + 1 := by simp
  rw [hsz0] at lt0 hk0
  go_enter Tryd.func26, Tryd.ntmps26
  go_wp2_with (at_builtin; go_loud (refine wpl_PlaceCS _ rfl (.tmp 6) (.tmp 8) rfl (w.heap.size + 1 + 1) _ [] g.ps rfl lt0 _ _ _ hS0.hrw hS0.hlen hS0.hspot hS0.hnil rfl (by have := hS0.hmost; simp; omega) hk0 ?_))
  intro vp w1 Y1 _
  have op1 : OwnS pv 4 62 w1 (w.heap.size + 1 + 1) vp g.ps := Y1.out.1
  have b1 : Below ((w.alloc (.cells #[.int .i64 g.ip, .int .i64 g.b, .int .i64 g.gt, .string g.gm, .string g.wm, .int .i64 g.rs, .slice A.x g.ps.length A.xc, .slice A.y g.ros.length A.yc] 27)).alloc (.cells #[.int .i64 0, .int .i64 0, .int .i64 0, .string ⟨#[]⟩, .string ⟨#[]⟩, .int .i64 0, .slice none 0 0, .slice none 0 0] 27)).heap.size ((w.alloc (.cells #[.int .i64 g.ip, .int .i64 g.b, .int .i64 g.gt, .string g.gm, .string g.wm, .int .i64 g.rs, .slice A.x g.ps.length A.xc, .slice A.y g.ros.length A.yc] 27)).alloc (.cells #[.int .i64 0, .int .i64 0, .int .i64 0, .string ⟨#[]⟩, .string ⟨#[]⟩, .int .i64 0, .slice none 0 0, .slice none 0 0] 27)) w1 := al0.trans (by rw [hsz0]; exact Y1.out.2)
  obtain ⟨px, pc, rfl, -⟩ := op1.slice
  have T1 : Hid (CC w [.int .i64 g.ip, .int .i64 g.b, .int .i64 g.gt, .string g.gm, .string g.wm, .int .i64 g.rs, .slice A.x g.ps.length A.xc, .slice A.y g.ros.length A.yc] w1) := T0.out.call b1
  have PA1 : Hid (OwnS pv 4 62 w1 (w.heap.size + 2) (.slice px g.ps.length pc) g.ps) := op1
  clear Y1 op1 b1 T0 al0 hS0 lt0 ca0 SP hk0 hsz0
  go_wp2_with (first | (refine wpl_put1 24 rfl _ _ rfl w.heap.size 6 _ rfl rfl T1.out.g rfl rfl rfl ?_; intro w2 hw2; have T2 : Hid (CC w [.int .i64 g.ip, .int .i64 g.b, .int .i64 g.gt, .string g.gm, .string g.wm, .int .i64 g.rs, .slice px g.ps.length pc, .slice A.y g.ros.length A.yc] w2) := (by rw [hw2]; exact T1.out.put 6 [.slice px g.ps.length pc]); have PA2 : Hid (OwnS pv 4 62 w2 (w.heap.size + 2) (.slice px g.ps.length pc) g.ps) := (by rw [hw2]; exact own_putG PA1.out (by omega) _ _); clear hw2 T1 PA1) | fail)
  have al2 : Below w2.heap.size w2 (w2.alloc (.cells #[] 67)) := (Below.refl _ _).alloc (Nat.le_refl _) _
  have T3 : Hid (CC w [.int .i64 g.ip, .int .i64 g.b, .int .i64 g.gt, .string g.gm, .string g.wm, .int .i64 g.rs, .slice px g.ps.length pc, .slice A.y g.ros.length A.yc] (w2.alloc (.cells #[] 67))) := T2.out.call al2
  have PA3 : Hid (OwnS pv 4 62 (w2.alloc (.cells #[] 67)) (w.heap.size + 2) (.slice px g.ps.length pc) g.ps) := PA2.out.now al2
  have RA3 : Hid (RA w L 0 (.slice (some ⟨w2.heap.size, 0, none⟩) 0 0) [] (w2.alloc (.cells #[] 67))) := ⟨⟨(OwnS.lit (c := roG) (K := 5) (e := 67) w2 w2.heap.size (Nat.le_refl _)).lower T2.out.z, fun x hx => (by cases hx), List.Pairwise.nil⟩, rfl⟩
  go_loopw [3, 4] (fun v i wr => ∃ (k : Nat) (X : List RoX), k ≤ g.ros.length ∧ i = .int .i64 k ∧ Hid (RA w L k v X wr) ∧ Hid (CC w [.int .i64 g.ip, .int .i64 g.b, .int .i64 g.gt, .string g.gm, .string g.wm, .int .i64 g.rs, .slice px g.ps.length pc, .slice A.y g.ros.length A.yc] wr) ∧ Hid (OwnS pv 4 62 wr (w.heap.size + 2) (.slice px g.ps.length pc) g.ps)) (fun _ i _ => g.ros.length - (intOf i).toNat)
  case atStart => exact ⟨0, [], Nat.zero_le _, rfl, RA3, T3, PA3⟩
  case round =>
    clear RA3 T3 PA3 al2 T2 PA2
    obtain ⟨k, X, hk, rfl, HI, T5, op5⟩ := hrel
    have c7 := T5.out.g.cell 7 rfl
    by_cases hlt : k < g.ros.length
    · have hxl : k < L.length := by omega
      obtain ⟨x, hxL⟩ := at_of (xs := L) rfl hxl
      have row := RW.out wr T5.out.b
      obtain ⟨gR, hgR, hBg, hg, -⟩ := row.form (by omega)
      rw [hgR] at row c7
      have hltz : (k : Int) < (g.ros.length : Int) := by omega
      have q0 : wr.cell? ⟨gR, k * 5, none⟩ = some (.string x.r.nm) := (row.cell roG_len (j := 0) hxL rfl).1
      have q1 : wr.cell? ⟨gR, k * 5 + 1, none⟩ = some (.slice x.ra x.r.rs.length x.rc) := (row.cell roG_len (j := 1) hxL rfl).1
      have q2 : wr.cell? ⟨gR, k * 5 + 2, none⟩ = some (.int .i64 x.r.q) := (row.cell roG_len (j := 2) hxL rfl).1
      have q3 : wr.cell? ⟨gR, k * 5 + 3, none⟩ = some (.int .i64 x.r.m) := (row.cell roG_len (j := 3) hxL rfl).1
      have q4 : wr.cell? ⟨gR, k * 5 + 4, none⟩ = some (.int .i64 x.r.i) := (row.cell roG_len (j := 4) hxL rfl).1
      have hSx := SR.out x (List.mem_of_getElem? hxL)
      clear row hgR
      have hx : Hid (x ∈ L) := List.mem_of_getElem? hxL
      have BR5 : Hid (Bx (wr.alloc (.cells #[.string x.r.nm, .slice x.ra x.r.rs.length x.rc, .int .i64 x.r.q, .int .i64 x.r.m, .int .i64 x.r.i] 67)) wr.heap.size [.string x.r.nm, .slice x.ra x.r.rs.length x.rc, .int .i64 x.r.q, .int .i64 x.r.m, .int .i64 x.r.i]) := Bx.new wr #[.string x.r.nm, .slice x.ra x.r.rs.length x.rc, .int .i64 x.r.q, .int .i64 x.r.m, .int .i64 x.r.i] 67
      have al5 : Below wr.heap.size wr (wr.alloc (.cells #[.string x.r.nm, .slice x.ra x.r.rs.length x.rc, .int .i64 x.r.q, .int .i64 x.r.m, .int .i64 x.r.i] 67)) := (Below.refl _ _).alloc (Nat.le_refl _) _
      have al6 : Below (wr.alloc (.cells #[.string x.r.nm, .slice x.ra x.r.rs.length x.rc, .int .i64 x.r.q, .int .i64 x.r.m, .int .i64 x.r.i] 67)).heap.size (wr.alloc (.cells #[.string x.r.nm, .slice x.ra x.r.rs.length x.rc, .int .i64 x.r.q, .int .i64 x.r.m, .int .i64 x.r.i] 67)) ((wr.alloc (.cells #[.string x.r.nm, .slice x.ra x.r.rs.length x.rc, .int .i64 x.r.q, .int .i64 x.r.m, .int .i64 x.r.i] 67)).alloc (.cells #[] 64)) := (Below.refl _ _).alloc (Nat.le_refl _) _
      have hS6 := SR.out x hx.out _ ((T5.out.call al5).call al6).b
      have lt6 := OwnS.lit (c := rv) (K := 6) (e := 64) (wr.alloc (.cells #[.string x.r.nm, .slice x.ra x.r.rs.length x.rc, .int .i64 x.r.q, .int .i64 x.r.m, .int .i64 x.r.i] 67)) (wr.alloc (.cells #[.string x.r.nm, .slice x.ra x.r.rs.length x.rc, .int .i64 x.r.q, .int .i64 x.r.m, .int .i64 x.r.i] 67)).heap.size (Nat.le_refl _)
      have hk6 := al6.size
      have hs5 : (wr.alloc (.cells #[.string x.r.nm, .slice x.ra x.r.rs.length x.rc, .int .i64 x.r.q, .int .i64 x.r.m, .int .i64 x.r.i] 67)).heap.size = wr.heap.size + 1 := by simp
      rw [hs5] at lt6 hk6
      have ca6 := (BR5.out.below al6).cell 1 rfl
      have hlen9 : X.length + 1 ≤ 2000000 := by
        have := congrArg List.length HI.out.map
        simp only [List.length_map, List.length_take] at this
        omega
      replace hxL : Hid (L[k]? = some x) := hxL
      clear hSx
      go_wp2_with (at_builtin; go_loud (refine wpl_RuleCS _ rfl (.tmp 24) (.tmp 26) rfl (wr.heap.size + 1) _ [] x.r.rs rfl lt6 _ _ _ hS6.hrw hS6.hlen hS6.hspot hS6.hnil rfl (by have := hS6.hmost; simp; omega) hk6 ?_))
      intro v7 w7 Y7 _
      have o7 : OwnS rv 6 64 w7 (wr.heap.size + 1) v7 x.r.rs := Y7.out.1
      have b7 : Below (wr.alloc (.cells #[.string x.r.nm, .slice x.ra x.r.rs.length x.rc, .int .i64 x.r.q, .int .i64 x.r.m, .int .i64 x.r.i] 67)).heap.size (wr.alloc (.cells #[.string x.r.nm, .slice x.ra x.r.rs.length x.rc, .int .i64 x.r.q, .int .i64 x.r.m, .int .i64 x.r.i] 67)) w7 := al6.trans (by rw [hs5]; exact Y7.out.2)
      obtain ⟨a, c, rfl, -⟩ := o7.slice
      have BR7 : Hid (Bx w7 wr.heap.size [.string x.r.nm, .slice x.ra x.r.rs.length x.rc, .int .i64 x.r.q, .int .i64 x.r.m, .int .i64 x.r.i]) := BR5.out.below b7
      have B7 : Hid (Below wr.heap.size wr w7) := al5.trans (b7.mono al5.size)
      have O7 : Hid (OwnS rv 6 64 w7 (wr.heap.size + 1) (.slice a x.r.rs.length c) x.r.rs) := o7
      clear Y7 o7 b7 al5 al6 hS6 lt6 hk6 hs5 ca6 BR5 q0 q1 q2 q3 q4 c7
      go_wp2_with (first | (refine wpl_put1 65 rfl _ _ rfl wr.heap.size 1 _ rfl rfl BR7.out rfl rfl rfl ?_; intro w8 hw8; have BR8 : Hid (Bx w8 wr.heap.size [.string x.r.nm, .slice a x.r.rs.length c, .int .i64 x.r.q, .int .i64 x.r.m, .int .i64 x.r.i]) := (by rw [hw8]; exact BR7.out.sets [.slice a x.r.rs.length c] 1 _ _); have B8 : Hid (Below wr.heap.size wr w8) := (by rw [hw8]; exact below_cells (Nat.le_refl _) _ _ _ B7.out); have O8 : Hid (OwnS rv 6 64 w8 (wr.heap.size + 1) (.slice a x.r.rs.length c) x.r.rs) := (by rw [hw8]; exact own_putG O7.out (by omega) _ _); clear hw8 BR7 B7 O7; have al9 : Below w8.heap.size w8 (w8.alloc (.cells #[.string x.r.nm, .slice a x.r.rs.length c, .int .i64 x.r.q, .int .i64 x.r.m, .int .i64 x.r.i] 67)) := (Below.refl _ _).alloc (Nat.le_refl _) _; have row9 : OwnS roG 5 67 (w8.alloc (.cells #[.string x.r.nm, .slice a x.r.rs.length c, .int .i64 x.r.q, .int .i64 x.r.m, .int .i64 x.r.i] 67)) (w.heap.size + 2) u3 X := (HI.out.row.row.now (B8.out.mono (Nat.le_refl _))).now al9; have hc9 : ∀ j u, (flatS roG [{ x with ra := a, rc := c }])[j]? = some u → (w8.alloc (.cells #[.string x.r.nm, .slice a x.r.rs.length c, .int .i64 x.r.q, .int .i64 x.r.m, .int .i64 x.r.i] 67)).cell? ⟨w8.heap.size, 0 + j, none⟩ = some u := (fun j u hu => by rw [Nat.zero_add]; exact (Bx.new w8 #[.string x.r.nm, .slice a x.r.rs.length c, .int .i64 x.r.q, .int .i64 x.r.m, .int .i64 x.r.i] 67).cell j hu); have hB9 : w.heap.size + 2 ≤ (w8.alloc (.cells #[.string x.r.nm, .slice a x.r.rs.length c, .int .i64 x.r.q, .int .i64 x.r.m, .int .i64 x.r.i] 67)).heap.size := Nat.le_trans T5.out.z (Nat.le_trans B8.out.size al9.size)) | (refine wpl_getO 67 rfl _ rfl wr.heap.size 0 [.string x.r.nm, .slice a x.r.rs.length c, .int .i64 x.r.q, .int .i64 x.r.m, .int .i64 x.r.i] rfl BR8.out rfl _ Tryd.underlying67 rfl rfl ?_) | (at_builtin; go_loud (refine wpl_RoleC _ rfl (.tmp 29) (.tmp 31) rfl (w.heap.size + 2) _ X [{ x with ra := a, rc := c }] rfl row9 w8.heap.size 0 1 1 rfl rfl hc9 hlen9 hB9 ?_)))
      intro v9 w9 Y9 g9
      have T9 : Hid (CC w [.int .i64 g.ip, .int .i64 g.b, .int .i64 g.gt, .string g.gm, .string g.wm, .int .i64 g.rs, .slice px g.ps.length pc, .slice A.y g.ros.length A.yc] w9) := by
        have t := (T5.out.call B8.out).call al9
        have kp : Rel.Keep (fun b => b < w.heap.size + 2) (w8.alloc (.cells #[.string x.r.nm, .slice a x.r.rs.length c, .int .i64 x.r.q, .int .i64 x.r.m, .int .i64 x.r.i] 67)) w9 := ⟨Y9.out.2.os, Y9.out.2.tape, Y9.out.2.output, Y9.out.2.size, Y9.out.2.block⟩
        exact ⟨bx_keep t.g kp (by omega), bx_keep t.r kp (by omega), t.b.trans (Y9.out.2.mono (by omega)), Nat.le_trans t.z kp.size⟩
      have op9 : Hid (OwnS pv 4 62 w9 (w.heap.size + 2) (.slice px g.ps.length pc) g.ps) := by
        have o := (op5.out.now B8.out).now al9
        exact o.kept g9 ((apB_of o row9 (by decide)).kept)
      have nw : OwnS rv 6 64 (w8.alloc (.cells #[.string x.r.nm, .slice a x.r.rs.length c, .int .i64 x.r.q, .int .i64 x.r.m, .int .i64 x.r.i] 67)) (w.heap.size + 2) (.slice a x.r.rs.length c) x.r.rs := (O8.out.now al9).lower (by have := T5.out.z; omega)
      have RA9 : Hid (RA w L (k + 1) v9 (X ++ [{ x with ra := a, rc := c }]) w9) := by
        refine ⟨⟨Y9.out.1, ?_, ?_⟩, ?_⟩
        · intro z hz
          rcases List.mem_append.1 hz with hz | hz
          · have o := ((HI.out.row.rules z hz).now B8.out).now al9
            exact o.kept g9 ((apB_of o row9 (by decide)).kept)
          · rw [List.mem_singleton] at hz
            subst hz
            exact nw.kept g9 ((apB_of nw row9 (by decide)).kept)
        · rw [List.pairwise_append]
          refine ⟨HI.out.row.apart, List.pairwise_singleton _ _, ?_⟩
          intro y hy z hz
          rw [List.mem_singleton] at hz
          subst hz
          intro b hb1 hb2
          have l1 := ((HI.out.row.rules y hy).lt b hb1).2
          have l2 := (O8.out.lt b hb2).1
          omega
        · rw [List.map_append, HI.out.map, List.take_add_one, hxL.out, List.map_append]; rfl
      clear T5 op5 nw HI B8 O8 BR8 al9 row9 hc9 hB9 Y9 g9 hlen9 hx hxL hBg hg
      go_wp2
      go_roundw
      case rel => exact ⟨k + 1, X ++ [{ x with ra := a, rc := c }], by omega, by go_num, RA9, T9, op9⟩
      case measure => simp [intOf]; omega
    · obtain rfl : k = g.ros.length := by omega
      have hXg : Hid (X.map (fun x => x.r) = g.ros) := by show _ = _; rw [HI.out.map, ← hn, List.take_length]; exact HL.out
      have hXl : X.length = g.ros.length := by rw [← hXg.out, List.length_map]
      have ow := HI.out.row
      obtain ⟨ry, rc, hv, -⟩ := ow.row.slice
      rw [hXl] at hv
      subst hv
      have OW : Hid (OwnRo wr (w.heap.size + 2) (.slice ry g.ros.length rc) X) := ow
      clear HI ow SR RW HL
      go_wp2_with (first | (refine wpl_put1 25 rfl _ _ rfl w.heap.size 7 _ rfl rfl T5.out.g rfl rfl rfl ?_; intro wA hwA; have TA_ : Hid (CC w [.int .i64 g.ip, .int .i64 g.b, .int .i64 g.gt, .string g.gm, .string g.wm, .int .i64 g.rs, .slice px g.ps.length pc, .slice ry g.ros.length rc] wA) := (by rw [hwA]; exact T5.out.put 7 [.slice ry g.ros.length rc]); have PAA : Hid (OwnS pv 4 62 wA (w.heap.size + 2) (.slice px g.ps.length pc) g.ps ∧ OwnRo wA (w.heap.size + 2) (.slice ry g.ros.length rc) X) := (by rw [hwA]; exact ⟨own_putG op5.out (by omega) _ _, ro_putG OW.out (by omega) _ _⟩); clear hwA T5 op5 OW) | (refine wpl_getO 27 rfl _ rfl w.heap.size 0 [.int .i64 g.ip, .int .i64 g.b, .int .i64 g.gt, .string g.gm, .string g.wm, .int .i64 g.rs, .slice px g.ps.length pc, .slice ry g.ros.length rc] rfl TA_.out.g rfl _ Tryd.underlying27 rfl rfl ?_) | (refine wpl_putO 27 rfl _ _ rfl (w.heap.size + 1) 0 _ rfl rfl TA_.out.r rfl rfl rfl ?_; intro wB hwB RB; have BB : Hid (Below w.heap.size w wB) := (by rw [hwB]; exact below_cells (by omega) _ _ _ TA_.out.b); have PBB : Hid (OwnS pv 4 62 wB (w.heap.size + 2) (.slice px g.ps.length pc) g.ps ∧ OwnRo wB (w.heap.size + 2) (.slice ry g.ros.length rc) X) := (by rw [hwB]; exact ⟨own_putG PAA.out.1 (by omega) _ _, ro_putG PAA.out.2 (by omega) _ _⟩); clear hwB TA_ PAA) | fail)
      (try simp only [Exit.inBlock, Exit.then])
      refine bodyPost_ret (v := .agg #[.int .i64 g.ip, .int .i64 g.b, .int .i64 g.gt, .string g.gm, .string g.wm, .int .i64 g.rs, .slice px g.ps.length pc, .slice ry g.ros.length rc]) (results_cell Tryd.results26 (w.heap.size + 1) rfl RB _ Tryd.underlying27 rfl rfl) rfl ?_
      exact ⟨px, ry, pc, rc, X, hXg.out, rfl, ⟨PBB.out.1.lower (by omega), PBB.out.2.lower (by omega)⟩, BB.out⟩
end Go.Proofs.YtbeehlhcckndcaaDoor

namespace Go.Proofs.YtbeehlhcckndcaaDoor
open Go.RowKit Go.PlainAid Go.Proofs.YtbeehlhcckndcaaDoor.Bt Go.Sort
set_option linter.unusedVariables false
theorem l13Own_any (A : GtA) (g : GtV) (L : List RoX) (B : Nat) (w : World) (h : OwnGt w B A g L) (hr : GtR w A g) (hs : GtS g) (hru : ∀ x, x ∈ L → x.r.rs.length ≤ 1048576) :
    Calls Tryd.prog 9 #[.agg #[.int .i64 g.ip, .int .i64 g.b, .int .i64 g.gt, .string g.gm, .string g.wm, .int .i64 g.rs, .slice A.x g.ps.length A.xc, .slice A.y g.ros.length A.yc, .slice A.ua g.us.length A.uc, .slice A.sa g.ss.length A.sc, .slice A.fa g.fs.length A.fc, .slice A.ra g.es.length A.rc, .int .i64 g.nx, .slice A.la g.fl.length A.lc, .slice A.ca g.co.length A.cc, .int .i64 g.nw, .int .i64 g.dr, .int .i64 g.sn]] w fun e w' => ∃ (px ry ux sx fx ex lx cx : Option Addr) (pc rc uc sc fc ec lc cc : Nat) (X : List RoX), e = .returned (.agg #[.int .i64 g.ip, .int .i64 g.b, .int .i64 g.gt, .string g.gm, .string g.wm, .int .i64 g.rs, .slice px g.ps.length pc, .slice ry g.ros.length rc, .slice ux g.us.length uc, .slice sx g.ss.length sc, .slice fx g.fs.length fc, .slice ex g.es.length ec, .int .i64 g.nx, .slice lx g.fl.length lc, .slice cx g.co.length cc, .int .i64 g.nw, .int .i64 g.dr, .int .i64 g.sn]) ∧ OwnGt w' w.heap.size ⟨px, ry, ux, sx, fx, ex, lx, cx, pc, rc, uc, sc, fc, ec, lc, cc⟩ g X ∧ Below w.heap.size w w' :=
  l13Own_of A g L B w h hr hs (fun W hb => l13Config_any A g L B W (h.ps.now hb) (h.rs.now hb) h.ro (hr.ps.keep PlR.kp hb) (hr.ros.keep (RoR.kp 0) hb) hs.ps hs.ros hru)
end Go.Proofs.YtbeehlhcckndcaaDoor

namespace Go.Proofs.YtbeehlhcckndcaaDoor
open Go.RowKit Go.PlainAid Go.Sort
set_option linter.unusedVariables false
end Go.Proofs.YtbeehlhcckndcaaDoor

namespace Go.Proofs.YtbeehlhcckndcaaDoor
open Go.RowKit Go.PlainAid Go.Proofs.YtbeehlhcckndcaaDoor.Bt Go.Sort
set_option linter.unusedVariables false
set_option maxRecDepth 20000

def plGA (C : CfA) (A : HuA) : GtA := ⟨C.x, C.y, A.u, A.s, A.f, A.r, none, none, C.xc, C.yc, A.uc, A.sc, A.fc, A.rc, 0, 0⟩
theorem plG_own {sl1 hh1 sl2 hh2 sl3 hh3 : ByteArray} {w : World} {B0 B1 : Nat} {C : CfA} {L : List RoX} {A : HuA} (oc : OwnCf w B0 C plC L) (oh : OwnHu w B1 A (plHx (plUx sl1 hh1 sl2 hh2 sl3 hh3))) : OwnGt w (min B0 B1) (plGA C A) (plGx (plUx sl1 hh1 sl2 hh2 sl3 hh3)) L :=
  ⟨oc.ro, oc.ps.lower (Nat.min_le_left _ _), oc.rs.lower (Nat.min_le_left _ _), Own4.lower oh (Nat.min_le_right _ _), OwnS.nil w _, OwnS.nil w _⟩
theorem OwnGt.rl {w : World} {B : Nat} {A : GtA} {g : GtV} {L : List RoX} (h : OwnGt w B A g L) (hs : GtS g) : ∀ x, x ∈ L → x.r.rs.length ≤ 1048576 := fun x hx => (hs.szr x.r (by rw [← h.ro]; exact List.mem_map_of_mem hx)).2
set_option maxHeartbeats 4000000 in
theorem l08Plain_of (sl1 hh1 sl2 hh2 sl3 hh3 : ByteArray) (w : World) (M0 : Hid (∀ w, Calls Tryd.prog 28 #[.string ⟨#[97, 110, 110]⟩, .string ⟨#[97, 112, 112, 108, 101]⟩, .string ⟨#[103, 117, 101, 115, 116]⟩, .int .i64 600, .int .i64 3] w fun e w' => e = .returned (.agg #[.string ⟨#[97, 110, 110]⟩, .string sl1, .string hh1, .string ⟨#[103, 117, 101, 115, 116]⟩, .int .i64 600, .int .i64 3]) ∧ Below w.heap.size w w')) (M1 : Hid (∀ w, Calls Tryd.prog 28 #[.string ⟨#[98, 111, 98]⟩, .string ⟨#[98, 101, 114, 114, 121]⟩, .string ⟨#[115, 116, 97, 102, 102]⟩, .int .i64 100000, .int .i64 100] w fun e w' => e = .returned (.agg #[.string ⟨#[98, 111, 98]⟩, .string sl2, .string hh2, .string ⟨#[115, 116, 97, 102, 102]⟩, .int .i64 100000, .int .i64 100]) ∧ Below w.heap.size w w')) (M2 : Hid (∀ w, Calls Tryd.prog 28 #[.string ⟨#[116, 105, 99, 107, 101, 116]⟩, .string ⟨#[49, 50, 51, 52, 53]⟩, .string ⟨#[103, 117, 101, 115, 116]⟩, .int .i64 50, .int .i64 1] w fun e w' => e = .returned (.agg #[.string ⟨#[116, 105, 99, 107, 101, 116]⟩, .string sl3, .string hh3, .string ⟨#[103, 117, 101, 115, 116]⟩, .int .i64 50, .int .i64 1]) ∧ Below w.heap.size w w')) :
    Calls Tryd.prog 11 #[] w fun e w' => ∃ A : HuA, e = .returned (.agg #[.slice A.u 3 A.uc, .slice A.s 0 A.sc, .slice A.f 0 A.fc, .slice A.r 0 A.rc, .int .i64 1]) ∧ OwnHu w' w.heap.size A (plHx (plUx sl1 hh1 sl2 hh2 sl3 hh3)) ∧ Below w.heap.size w w' := by
  have R0 : Hid (Bx (w.alloc (.cells #[.slice none 0 0, .slice none 0 0, .slice none 0 0, .slice none 0 0, .int .i64 0] 33)) w.heap.size [.slice none 0 0, .slice none 0 0, .slice none 0 0, .slice none 0 0, .int .i64 0]) := Bx.new w #[.slice none 0 0, .slice none 0 0, .slice none 0 0, .slice none 0 0, .int .i64 0] 33
  have B0 : Hid (Below w.heap.size w (w.alloc (.cells #[.slice none 0 0, .slice none 0 0, .slice none 0 0, .slice none 0 0, .int .i64 0] 33))) := (Below.refl _ _).alloc (Nat.le_refl _) _
  go_enter Tryd.func11, Tryd.ntmps11
  go_wp2_with fail
  refine (M0.out _).mono ?_
  rintro e w1 ⟨rfl, b1⟩
  go_wp2_with fail
  refine (M1.out _).mono ?_
  rintro e w2 ⟨rfl, b2⟩
  go_wp2_with fail
  refine (M2.out _).mono ?_
  rintro e w3 ⟨rfl, b3⟩
  have R3 : Bx w3 w.heap.size [.slice none 0 0, .slice none 0 0, .slice none 0 0, .slice none 0 0, .int .i64 0] := ((R0.out.below b1).below b2).below b3
  have s1 := B0.out.size
  have s2 := Nat.le_trans s1 b1.size
  have s3 := Nat.le_trans s2 b2.size
  have B3 : Below w.heap.size w w3 := ((B0.out.trans (b1.mono s1)).trans (b2.mono s2)).trans (b3.mono s3)
  have h3 : w.heap.size < w3.heap.size := World.block_lt_of_cell? w3 ⟨w.heap.size, 0, none⟩ (R3.cell 0 rfl)
  have U0 : OwnS uvG 6 46 ((((w3.alloc (.cells #[.string ⟨#[97, 110, 110]⟩, .string sl1, .string hh1, .string ⟨#[103, 117, 101, 115, 116]⟩, .int .i64 600, .int .i64 3, .string ⟨#[98, 111, 98]⟩, .string sl2, .string hh2, .string ⟨#[115, 116, 97, 102, 102]⟩, .int .i64 100000, .int .i64 100, .string ⟨#[116, 105, 99, 107, 101, 116]⟩, .string sl3, .string hh3, .string ⟨#[103, 117, 101, 115, 116]⟩, .int .i64 50, .int .i64 1] 46)).alloc (.cells #[] 103)).alloc (.cells #[] 106)).alloc (.cells #[] 109)) (w.heap.size + 1) (.slice (some ⟨w3.heap.size, 0, none⟩) 3 3) (plUx sl1 hh1 sl2 hh2 sl3 hh3) := by
    have h : OwnS uvG 6 46 (w3.alloc (.cells #[.string ⟨#[97, 110, 110]⟩, .string sl1, .string hh1, .string ⟨#[103, 117, 101, 115, 116]⟩, .int .i64 600, .int .i64 3, .string ⟨#[98, 111, 98]⟩, .string sl2, .string hh2, .string ⟨#[115, 116, 97, 102, 102]⟩, .int .i64 100000, .int .i64 100, .string ⟨#[116, 105, 99, 107, 101, 116]⟩, .string sl3, .string hh3, .string ⟨#[103, 117, 101, 115, 116]⟩, .int .i64 50, .int .i64 1] 46)) (w.heap.size + 1) (.slice (some ⟨w3.heap.size, 0, none⟩) 3 3) (plUx sl1 hh1 sl2 hh2 sl3 hh3) := plRow w3 (w.heap.size + 1) (by omega) sl1 hh1 sl2 hh2 sl3 hh3
    exact ((h.now ((Below.refl _ _).alloc (Nat.le_refl _) _)).now ((Below.refl _ _).alloc (Nat.le_refl _) _)).now ((Below.refl _ _).alloc (Nat.le_refl _) _)
  have U1 : OwnS svG 10 103 ((((w3.alloc (.cells #[.string ⟨#[97, 110, 110]⟩, .string sl1, .string hh1, .string ⟨#[103, 117, 101, 115, 116]⟩, .int .i64 600, .int .i64 3, .string ⟨#[98, 111, 98]⟩, .string sl2, .string hh2, .string ⟨#[115, 116, 97, 102, 102]⟩, .int .i64 100000, .int .i64 100, .string ⟨#[116, 105, 99, 107, 101, 116]⟩, .string sl3, .string hh3, .string ⟨#[103, 117, 101, 115, 116]⟩, .int .i64 50, .int .i64 1] 46)).alloc (.cells #[] 103)).alloc (.cells #[] 106)).alloc (.cells #[] 109)) (w.heap.size + 1) (.slice (some ⟨w3.heap.size + 1, 0, none⟩) 0 0) [] := by
    have h := OwnS.lit (α := SessV) (c := svG) (K := 10) (e := 103) (w3.alloc (.cells #[.string ⟨#[97, 110, 110]⟩, .string sl1, .string hh1, .string ⟨#[103, 117, 101, 115, 116]⟩, .int .i64 600, .int .i64 3, .string ⟨#[98, 111, 98]⟩, .string sl2, .string hh2, .string ⟨#[115, 116, 97, 102, 102]⟩, .int .i64 100000, .int .i64 100, .string ⟨#[116, 105, 99, 107, 101, 116]⟩, .string sl3, .string hh3, .string ⟨#[103, 117, 101, 115, 116]⟩, .int .i64 50, .int .i64 1] 46)) (w.heap.size + 1) (by simp; omega)
    rw [World.size_alloc] at h
    exact (h.now ((Below.refl _ _).alloc (Nat.le_refl _) _)).now ((Below.refl _ _).alloc (Nat.le_refl _) _)
  have U2 : OwnS fvG 3 106 ((((w3.alloc (.cells #[.string ⟨#[97, 110, 110]⟩, .string sl1, .string hh1, .string ⟨#[103, 117, 101, 115, 116]⟩, .int .i64 600, .int .i64 3, .string ⟨#[98, 111, 98]⟩, .string sl2, .string hh2, .string ⟨#[115, 116, 97, 102, 102]⟩, .int .i64 100000, .int .i64 100, .string ⟨#[116, 105, 99, 107, 101, 116]⟩, .string sl3, .string hh3, .string ⟨#[103, 117, 101, 115, 116]⟩, .int .i64 50, .int .i64 1] 46)).alloc (.cells #[] 103)).alloc (.cells #[] 106)).alloc (.cells #[] 109)) (w.heap.size + 1) (.slice (some ⟨w3.heap.size + 1 + 1, 0, none⟩) 0 0) [] := by
    have h := OwnS.lit (α := FailV) (c := fvG) (K := 3) (e := 106) ((w3.alloc (.cells #[.string ⟨#[97, 110, 110]⟩, .string sl1, .string hh1, .string ⟨#[103, 117, 101, 115, 116]⟩, .int .i64 600, .int .i64 3, .string ⟨#[98, 111, 98]⟩, .string sl2, .string hh2, .string ⟨#[115, 116, 97, 102, 102]⟩, .int .i64 100000, .int .i64 100, .string ⟨#[116, 105, 99, 107, 101, 116]⟩, .string sl3, .string hh3, .string ⟨#[103, 117, 101, 115, 116]⟩, .int .i64 50, .int .i64 1] 46)).alloc (.cells #[] 103)) (w.heap.size + 1) (by simp; omega)
    rw [World.size_alloc, World.size_alloc] at h
    exact h.now ((Below.refl _ _).alloc (Nat.le_refl _) _)
  have U3 : OwnS evG 5 109 ((((w3.alloc (.cells #[.string ⟨#[97, 110, 110]⟩, .string sl1, .string hh1, .string ⟨#[103, 117, 101, 115, 116]⟩, .int .i64 600, .int .i64 3, .string ⟨#[98, 111, 98]⟩, .string sl2, .string hh2, .string ⟨#[115, 116, 97, 102, 102]⟩, .int .i64 100000, .int .i64 100, .string ⟨#[116, 105, 99, 107, 101, 116]⟩, .string sl3, .string hh3, .string ⟨#[103, 117, 101, 115, 116]⟩, .int .i64 50, .int .i64 1] 46)).alloc (.cells #[] 103)).alloc (.cells #[] 106)).alloc (.cells #[] 109)) (w.heap.size + 1) (.slice (some ⟨w3.heap.size + 1 + 1 + 1, 0, none⟩) 0 0) [] := by
    have h := OwnS.lit (α := RecV) (c := evG) (K := 5) (e := 109) (((w3.alloc (.cells #[.string ⟨#[97, 110, 110]⟩, .string sl1, .string hh1, .string ⟨#[103, 117, 101, 115, 116]⟩, .int .i64 600, .int .i64 3, .string ⟨#[98, 111, 98]⟩, .string sl2, .string hh2, .string ⟨#[115, 116, 97, 102, 102]⟩, .int .i64 100000, .int .i64 100, .string ⟨#[116, 105, 99, 107, 101, 116]⟩, .string sl3, .string hh3, .string ⟨#[103, 117, 101, 115, 116]⟩, .int .i64 50, .int .i64 1] 46)).alloc (.cells #[] 103)).alloc (.cells #[] 106)) (w.heap.size + 1) (by simp; omega)
    rw [World.size_alloc, World.size_alloc, World.size_alloc] at h
    exact h
  have BE : Below w3.heap.size w3 ((((w3.alloc (.cells #[.string ⟨#[97, 110, 110]⟩, .string sl1, .string hh1, .string ⟨#[103, 117, 101, 115, 116]⟩, .int .i64 600, .int .i64 3, .string ⟨#[98, 111, 98]⟩, .string sl2, .string hh2, .string ⟨#[115, 116, 97, 102, 102]⟩, .int .i64 100000, .int .i64 100, .string ⟨#[116, 105, 99, 107, 101, 116]⟩, .string sl3, .string hh3, .string ⟨#[103, 117, 101, 115, 116]⟩, .int .i64 50, .int .i64 1] 46)).alloc (.cells #[] 103)).alloc (.cells #[] 106)).alloc (.cells #[] 109)) := (((Below.refl _ _).alloc (Nat.le_refl _) _).alloc (by simp) _).alloc (by simp; omega) _ |>.alloc (by simp; omega) _
  have RE : Hid (Bx ((((w3.alloc (.cells #[.string ⟨#[97, 110, 110]⟩, .string sl1, .string hh1, .string ⟨#[103, 117, 101, 115, 116]⟩, .int .i64 600, .int .i64 3, .string ⟨#[98, 111, 98]⟩, .string sl2, .string hh2, .string ⟨#[115, 116, 97, 102, 102]⟩, .int .i64 100000, .int .i64 100, .string ⟨#[116, 105, 99, 107, 101, 116]⟩, .string sl3, .string hh3, .string ⟨#[103, 117, 101, 115, 116]⟩, .int .i64 50, .int .i64 1] 46)).alloc (.cells #[] 103)).alloc (.cells #[] 106)).alloc (.cells #[] 109)) w.heap.size [.slice none 0 0, .slice none 0 0, .slice none 0 0, .slice none 0 0, .int .i64 0]) := R3.below BE
  have BB : Hid (Below w.heap.size w ((((w3.alloc (.cells #[.string ⟨#[97, 110, 110]⟩, .string sl1, .string hh1, .string ⟨#[103, 117, 101, 115, 116]⟩, .int .i64 600, .int .i64 3, .string ⟨#[98, 111, 98]⟩, .string sl2, .string hh2, .string ⟨#[115, 116, 97, 102, 102]⟩, .int .i64 100000, .int .i64 100, .string ⟨#[116, 105, 99, 107, 101, 116]⟩, .string sl3, .string hh3, .string ⟨#[103, 117, 101, 115, 116]⟩, .int .i64 50, .int .i64 1] 46)).alloc (.cells #[] 103)).alloc (.cells #[] 106)).alloc (.cells #[] 109))) := B3.trans (BE.mono B3.size)
  have OE : Hid (OwnHu ((((w3.alloc (.cells #[.string ⟨#[97, 110, 110]⟩, .string sl1, .string hh1, .string ⟨#[103, 117, 101, 115, 116]⟩, .int .i64 600, .int .i64 3, .string ⟨#[98, 111, 98]⟩, .string sl2, .string hh2, .string ⟨#[115, 116, 97, 102, 102]⟩, .int .i64 100000, .int .i64 100, .string ⟨#[116, 105, 99, 107, 101, 116]⟩, .string sl3, .string hh3, .string ⟨#[103, 117, 101, 115, 116]⟩, .int .i64 50, .int .i64 1] 46)).alloc (.cells #[] 103)).alloc (.cells #[] 106)).alloc (.cells #[] 109)) (w.heap.size + 1) ⟨some ⟨w3.heap.size, 0, none⟩, some ⟨w3.heap.size + 1, 0, none⟩, some ⟨w3.heap.size + 1 + 1, 0, none⟩, some ⟨w3.heap.size + 1 + 1 + 1, 0, none⟩, 3, 0, 0, 0⟩ (plHx (plUx sl1 hh1 sl2 hh2 sl3 hh3))) := ⟨U0, U1, U2, U3, ap_of U0 U1 (by decide), ap_of U0 U2 (by decide), ap_of U0 U3 (by decide), ap_of U1 U2 (by decide), ap_of U1 U3 (by decide), ap_of U2 U3 (by decide)⟩
  clear U0 U1 U2 U3 R3 B3 b1 b2 b3 s1 s2 s3 M0 M1 M2 BE R0 B0
  go_wp2_with (first | (refine wpl_putT 33 rfl _ _ rfl (w.heap.size) _ rfl rfl RE.out rfl rfl rfl ?_; intro W5 hw5 R5; have B5 : Hid (Below w.heap.size w W5) := (by rw [hw5]; exact below_cells (Nat.le_refl _) _ _ _ BB.out); have O5 : Hid (OwnHu W5 w.heap.size ⟨some ⟨w3.heap.size, 0, none⟩, some ⟨w3.heap.size + 1, 0, none⟩, some ⟨w3.heap.size + 1 + 1, 0, none⟩, some ⟨w3.heap.size + 1 + 1 + 1, 0, none⟩, 3, 0, 0, 0⟩ (plHx (plUx sl1 hh1 sl2 hh2 sl3 hh3))) := (by rw [hw5]; exact Own4.lower (OwnHu.keep OE.out (fun b hb => (heap_cellsA _ _ _).2 b (by have := (OE.out.lt b hb).1; omega))) (by omega)); clear hw5) | fail)
  refine bodyPost_ret (v := .agg #[.slice (some ⟨w3.heap.size, 0, none⟩) 3 3, .slice (some ⟨w3.heap.size + 1, 0, none⟩) 0 0, .slice (some ⟨w3.heap.size + 1 + 1, 0, none⟩) 0 0, .slice (some ⟨w3.heap.size + 1 + 1 + 1, 0, none⟩) 0 0, .int .i64 1]) (results_cell Tryd.results11 (w.heap.size) rfl R5 _ Tryd.underlying33 rfl rfl) rfl ?_
  exact ⟨⟨some ⟨w3.heap.size, 0, none⟩, some ⟨w3.heap.size + 1, 0, none⟩, some ⟨w3.heap.size + 1 + 1, 0, none⟩, some ⟨w3.heap.size + 1 + 1 + 1, 0, none⟩, 3, 0, 0, 0⟩, rfl, O5.out, B5.out⟩
set_option maxHeartbeats 4000000 in
theorem specPlain_of (sl1 hh1 sl2 hh2 sl3 hh3 : ByteArray) (w : World) (HH : Hid (∀ w, Calls Tryd.prog 11 #[] w fun e w' => ∃ A : HuA, e = .returned (.agg #[.slice A.u 3 A.uc, .slice A.s 0 A.sc, .slice A.f 0 A.fc, .slice A.r 0 A.rc, .int .i64 1]) ∧ OwnHu w' w.heap.size A (plHx (plUx sl1 hh1 sl2 hh2 sl3 hh3)) ∧ Below w.heap.size w w')) (ok : GtOk (plGx (plUx sl1 hh1 sl2 hh2 sl3 hh3))) (sz : GtS (plGx (plUx sl1 hh1 sl2 hh2 sl3 hh3))) :
    Calls Tryd.prog 4 #[] w fun e w' => ∃ (R : GtA) (X : List RoX), e = .returned (.agg #[.int .i64 167772160, .int .i64 24, .int .i64 167772161, .string ⟨#[2, 0, 0, 0, 0, 0]⟩, .string ⟨#[2, 0, 0, 0, 0, 255]⟩, .int .i64 16843009, .slice R.x 1 R.xc, .slice R.y 2 R.yc, .slice R.ua 3 R.uc, .slice R.sa 0 R.sc, .slice R.fa 0 R.fc, .slice R.ra 0 R.rc, .int .i64 1, .slice R.la 0 R.lc, .slice R.ca 0 R.cc, .int .i64 0, .int .i64 0, .int .i64 0]) ∧ OwnGt w' w.heap.size R (plGx (plUx sl1 hh1 sl2 hh2 sl3 hh3)) X ∧ Below w.heap.size w w' := by
  have R0 : Hid (Bx (w.alloc (.cells #[.int .i64 0, .int .i64 0, .int .i64 0, .string ⟨#[]⟩, .string ⟨#[]⟩, .int .i64 0, .slice none 0 0, .slice none 0 0, .slice none 0 0, .slice none 0 0, .slice none 0 0, .slice none 0 0, .int .i64 0, .slice none 0 0, .slice none 0 0, .int .i64 0, .int .i64 0, .int .i64 0] 37)) w.heap.size [.int .i64 0, .int .i64 0, .int .i64 0, .string ⟨#[]⟩, .string ⟨#[]⟩, .int .i64 0, .slice none 0 0, .slice none 0 0, .slice none 0 0, .slice none 0 0, .slice none 0 0, .slice none 0 0, .int .i64 0, .slice none 0 0, .slice none 0 0, .int .i64 0, .int .i64 0, .int .i64 0]) := Bx.new w #[.int .i64 0, .int .i64 0, .int .i64 0, .string ⟨#[]⟩, .string ⟨#[]⟩, .int .i64 0, .slice none 0 0, .slice none 0 0, .slice none 0 0, .slice none 0 0, .slice none 0 0, .slice none 0 0, .int .i64 0, .slice none 0 0, .slice none 0 0, .int .i64 0, .int .i64 0, .int .i64 0] 37
  have B0 : Hid (Below w.heap.size w (w.alloc (.cells #[.int .i64 0, .int .i64 0, .int .i64 0, .string ⟨#[]⟩, .string ⟨#[]⟩, .int .i64 0, .slice none 0 0, .slice none 0 0, .slice none 0 0, .slice none 0 0, .slice none 0 0, .slice none 0 0, .int .i64 0, .slice none 0 0, .slice none 0 0, .int .i64 0, .int .i64 0, .int .i64 0] 37))) := (Below.refl _ _).alloc (Nat.le_refl _) _
  have HC : Hid (∀ w, Calls Tryd.prog 10 #[] w fun e w' => ∃ (C : CfA) (X : List RoX), e = .returned (.agg #[.int .i64 167772160, .int .i64 24, .int .i64 167772161, .string ⟨#[2, 0, 0, 0, 0, 0]⟩, .string ⟨#[2, 0, 0, 0, 0, 255]⟩, .int .i64 16843009, .slice C.x 1 C.xc, .slice C.y 2 C.yc]) ∧ OwnCf w' w.heap.size C plC X ∧ Below w.heap.size w w') := l07Plain_any
  go_enter Tryd.func4, Tryd.ntmps4
  go_wp2_with fail
  refine (HC.out _).mono ?_
  rintro e w1 ⟨C, X, rfl, o1, b1⟩
  go_wp2_with fail
  refine (HH.out _).mono ?_
  rintro e w2 ⟨A, rfl, o2, b2⟩
  have R2 : Hid (Bx w2 w.heap.size [.int .i64 0, .int .i64 0, .int .i64 0, .string ⟨#[]⟩, .string ⟨#[]⟩, .int .i64 0, .slice none 0 0, .slice none 0 0, .slice none 0 0, .slice none 0 0, .slice none 0 0, .slice none 0 0, .int .i64 0, .slice none 0 0, .slice none 0 0, .int .i64 0, .int .i64 0, .int .i64 0]) := (R0.out.below b1).below b2
  have s1 := B0.out.size
  have s2 := Nat.le_trans s1 b1.size
  have B2 : Hid (Below w.heap.size w w2) := (B0.out.trans (b1.mono s1)).trans (b2.mono s2)
  have hlt : Hid (w.heap.size < w2.heap.size) := World.block_lt_of_cell? w2 ⟨w.heap.size, 0, none⟩ (R2.out.cell 0 rfl)
  have OG := plG_own (o1.now b2) o2
  have HO : Hid (Calls Tryd.prog 9 #[.agg #[.int .i64 167772160, .int .i64 24, .int .i64 167772161, .string ⟨#[2, 0, 0, 0, 0, 0]⟩, .string ⟨#[2, 0, 0, 0, 0, 255]⟩, .int .i64 16843009, .slice C.x 1 C.xc, .slice C.y 2 C.yc, .slice A.u 3 A.uc, .slice A.s 0 A.sc, .slice A.f 0 A.fc, .slice A.r 0 A.rc, .int .i64 1, .slice none 0 0, .slice none 0 0, .int .i64 0, .int .i64 0, .int .i64 0]] w2 fun e w' => ∃ (R : GtA) (X : List RoX), e = .returned (.agg #[.int .i64 167772160, .int .i64 24, .int .i64 167772161, .string ⟨#[2, 0, 0, 0, 0, 0]⟩, .string ⟨#[2, 0, 0, 0, 0, 255]⟩, .int .i64 16843009, .slice R.x 1 R.xc, .slice R.y 2 R.yc, .slice R.ua 3 R.uc, .slice R.sa 0 R.sc, .slice R.fa 0 R.fc, .slice R.ra 0 R.rc, .int .i64 1, .slice R.la 0 R.lc, .slice R.ca 0 R.cc, .int .i64 0, .int .i64 0, .int .i64 0]) ∧ OwnGt w' w2.heap.size R (plGx (plUx sl1 hh1 sl2 hh2 sl3 hh3)) X ∧ Below w2.heap.size w2 w') :=
    (l13Own_any (plGA C A) (plGx (plUx sl1 hh1 sl2 hh2 sl3 hh3)) X _ w2 OG (OG.gtR ok) sz (OG.rl sz)).mono fun e w' ⟨px, ry, ux, sx, fx, ex, lx, cx, pc, rc, uc, sc, fc, ec, lc, cc, X, h1, h2, h3⟩ => ⟨⟨px, ry, ux, sx, fx, ex, lx, cx, pc, rc, uc, sc, fc, ec, lc, cc⟩, X, h1, h2, h3⟩
  clear o1 o2 b1 b2 s1 s2 OG HC HH R0 B0
  go_wp2_with fail
  refine HO.out.mono ?_
  rintro e w3 ⟨R, X3, rfl, o3, b3⟩
  have R3 : Hid (Bx w3 w.heap.size [.int .i64 0, .int .i64 0, .int .i64 0, .string ⟨#[]⟩, .string ⟨#[]⟩, .int .i64 0, .slice none 0 0, .slice none 0 0, .slice none 0 0, .slice none 0 0, .slice none 0 0, .slice none 0 0, .int .i64 0, .slice none 0 0, .slice none 0 0, .int .i64 0, .int .i64 0, .int .i64 0]) := R2.out.below b3
  have B3 : Hid (Below w.heap.size w w3) := B2.out.trans (b3.mono B2.out.size)
  have O3 : Hid (OwnGt w3 w2.heap.size R (plGx (plUx sl1 hh1 sl2 hh2 sl3 hh3)) X3) := o3
  clear o3 b3 R2 B2 HO
  go_wp2_with (first | (refine wpl_putT 37 rfl _ _ rfl (w.heap.size) _ rfl rfl R3.out rfl rfl rfl ?_; intro W5 hw5 R5; have B5 : Hid (Below w.heap.size w W5) := (by rw [hw5]; exact below_cells (Nat.le_refl _) _ _ _ B3.out); have O5 : Hid (OwnGt W5 w.heap.size R (plGx (plUx sl1 hh1 sl2 hh2 sl3 hh3)) X3) := (by rw [hw5]; exact (OwnGt.keep O3.out (fun b hb => (heap_cellsA _ _ _).2 b (by have := (O3.out.lt b hb).1; have := hlt.out; omega))).lower (Nat.le_of_lt hlt.out)); clear hw5) | fail)
  refine bodyPost_ret (v := .agg #[.int .i64 167772160, .int .i64 24, .int .i64 167772161, .string ⟨#[2, 0, 0, 0, 0, 0]⟩, .string ⟨#[2, 0, 0, 0, 0, 255]⟩, .int .i64 16843009, .slice R.x 1 R.xc, .slice R.y 2 R.yc, .slice R.ua 3 R.uc, .slice R.sa 0 R.sc, .slice R.fa 0 R.fc, .slice R.ra 0 R.rc, .int .i64 1, .slice R.la 0 R.lc, .slice R.ca 0 R.cc, .int .i64 0, .int .i64 0, .int .i64 0]) (results_cell Tryd.results4 (w.heap.size) rfl R5 _ Tryd.underlying37 rfl rfl) rfl ?_
  exact ⟨R, rfl, ⟨X3, O5.out⟩, B5.out⟩
end Go.Proofs.YtbeehlhcckndcaaDoor

namespace Go.Proofs.YtbeehlhcckndcaaDoor
open Go.RowKit Go.PlainAid Go.Proofs.YtbeehlhcckndcaaDoor.Bt Go.Sort
set_option linter.unusedVariables false
set_option maxRecDepth 20000

set_option maxHeartbeats 4000000 in
theorem implPlain_of (sl1 hh1 sl2 hh2 sl3 hh3 : ByteArray) (w : World) (hK : KTab w) (hH : HTab w) (M0 : Hid (∀ w, KTab w → HTab w → Calls Tryd.prog 12 #[.string ⟨#[97, 110, 110]⟩, .string ⟨#[97, 112, 112, 108, 101]⟩, .string ⟨#[103, 117, 101, 115, 116]⟩, .int .i64 600, .int .i64 3] w fun e w' => e = .returned (.tuple #[.agg #[.string ⟨#[97, 110, 110]⟩, .string sl1, .string hh1, .string ⟨#[103, 117, 101, 115, 116]⟩, .int .i64 600, .int .i64 3], .int .i64 0]) ∧ Below w.heap.size w w')) (M1 : Hid (∀ w, KTab w → HTab w → Calls Tryd.prog 12 #[.string ⟨#[98, 111, 98]⟩, .string ⟨#[98, 101, 114, 114, 121]⟩, .string ⟨#[115, 116, 97, 102, 102]⟩, .int .i64 100000, .int .i64 100] w fun e w' => e = .returned (.tuple #[.agg #[.string ⟨#[98, 111, 98]⟩, .string sl2, .string hh2, .string ⟨#[115, 116, 97, 102, 102]⟩, .int .i64 100000, .int .i64 100], .int .i64 0]) ∧ Below w.heap.size w w')) (M2 : Hid (∀ w, KTab w → HTab w → Calls Tryd.prog 12 #[.string ⟨#[116, 105, 99, 107, 101, 116]⟩, .string ⟨#[49, 50, 51, 52, 53]⟩, .string ⟨#[103, 117, 101, 115, 116]⟩, .int .i64 50, .int .i64 1] w fun e w' => e = .returned (.tuple #[.agg #[.string ⟨#[116, 105, 99, 107, 101, 116]⟩, .string sl3, .string hh3, .string ⟨#[103, 117, 101, 115, 116]⟩, .int .i64 50, .int .i64 1], .int .i64 0]) ∧ Below w.heap.size w w')) :
    Calls Tryd.prog 5 #[] w fun e w' => ∃ (R : GtA) (X : List RoX), e = .returned (.agg #[.int .i64 167772160, .int .i64 24, .int .i64 167772161, .string ⟨#[2, 0, 0, 0, 0, 0]⟩, .string ⟨#[2, 0, 0, 0, 0, 255]⟩, .int .i64 16843009, .slice R.x 1 R.xc, .slice R.y 2 R.yc, .slice R.ua 3 R.uc, .slice R.sa 0 R.sc, .slice R.fa 0 R.fc, .slice R.ra 0 R.rc, .int .i64 1, .slice R.la 0 R.lc, .slice R.ca 0 R.cc, .int .i64 0, .int .i64 0, .int .i64 0]) ∧ OwnGt w' w.heap.size R (plGx (plUx sl1 hh1 sl2 hh2 sl3 hh3)) X ∧ Below w.heap.size w w' := by
  have R0 : Hid (Bx (w.alloc (.cells #[.int .i64 0, .int .i64 0, .int .i64 0, .string ⟨#[]⟩, .string ⟨#[]⟩, .int .i64 0, .slice none 0 0, .slice none 0 0, .slice none 0 0, .slice none 0 0, .slice none 0 0, .slice none 0 0, .int .i64 0, .slice none 0 0, .slice none 0 0, .int .i64 0, .int .i64 0, .int .i64 0] 37)) w.heap.size [.int .i64 0, .int .i64 0, .int .i64 0, .string ⟨#[]⟩, .string ⟨#[]⟩, .int .i64 0, .slice none 0 0, .slice none 0 0, .slice none 0 0, .slice none 0 0, .slice none 0 0, .slice none 0 0, .int .i64 0, .slice none 0 0, .slice none 0 0, .int .i64 0, .int .i64 0, .int .i64 0]) := Bx.new w #[.int .i64 0, .int .i64 0, .int .i64 0, .string ⟨#[]⟩, .string ⟨#[]⟩, .int .i64 0, .slice none 0 0, .slice none 0 0, .slice none 0 0, .slice none 0 0, .slice none 0 0, .slice none 0 0, .int .i64 0, .slice none 0 0, .slice none 0 0, .int .i64 0, .int .i64 0, .int .i64 0] 37
  have B0 : Hid (Below w.heap.size w (w.alloc (.cells #[.int .i64 0, .int .i64 0, .int .i64 0, .string ⟨#[]⟩, .string ⟨#[]⟩, .int .i64 0, .slice none 0 0, .slice none 0 0, .slice none 0 0, .slice none 0 0, .slice none 0 0, .slice none 0 0, .int .i64 0, .slice none 0 0, .slice none 0 0, .int .i64 0, .int .i64 0, .int .i64 0] 37))) := (Below.refl _ _).alloc (Nat.le_refl _) _
  have T : Hid (∀ wx, Below w.heap.size w wx → KTab wx ∧ HTab wx) := fun wx hb => ⟨hK.below hb, hH.below hb⟩
  have HC : Hid (∀ w, Calls Tryd.prog 13 #[] w fun e w' => ∃ (C : CfA) (X : List RoX), e = .returned (.agg #[.int .i64 167772160, .int .i64 24, .int .i64 167772161, .string ⟨#[2, 0, 0, 0, 0, 0]⟩, .string ⟨#[2, 0, 0, 0, 0, 255]⟩, .int .i64 16843009, .slice C.x 1 C.xc, .slice C.y 2 C.yc]) ∧ OwnCf w' w.heap.size C plC X ∧ Below w.heap.size w w') := plainConfig_any
  clear hK hH
  go_enter Tryd.func5, Tryd.ntmps5
  go_wp2_with fail
  refine (M0.out _ (T.out _ B0.out).1 (T.out _ B0.out).2).mono ?_
  rintro e w1 ⟨rfl, b1⟩
  have a1 : Below w1.heap.size w1 (w1.alloc (.cells #[.string ⟨#[97, 110, 110]⟩, .string sl1, .string hh1, .string ⟨#[103, 117, 101, 115, 116]⟩, .int .i64 600, .int .i64 3] 46)) := (Below.refl _ _).alloc (Nat.le_refl _) _
  have B1 : Hid (Below w.heap.size w (w1.alloc (.cells #[.string ⟨#[97, 110, 110]⟩, .string sl1, .string hh1, .string ⟨#[103, 117, 101, 115, 116]⟩, .int .i64 600, .int .i64 3] 46))) := (B0.out.trans (b1.mono B0.out.size)).trans (a1.mono (Nat.le_trans B0.out.size b1.size))
  have R1 : Hid (Bx (w1.alloc (.cells #[.string ⟨#[97, 110, 110]⟩, .string sl1, .string hh1, .string ⟨#[103, 117, 101, 115, 116]⟩, .int .i64 600, .int .i64 3] 46)) w.heap.size [.int .i64 0, .int .i64 0, .int .i64 0, .string ⟨#[]⟩, .string ⟨#[]⟩, .int .i64 0, .slice none 0 0, .slice none 0 0, .slice none 0 0, .slice none 0 0, .slice none 0 0, .slice none 0 0, .int .i64 0, .slice none 0 0, .slice none 0 0, .int .i64 0, .int .i64 0, .int .i64 0]) := (R0.out.below b1).below a1
  have X0 : Hid (Bx (w1.alloc (.cells #[.string ⟨#[97, 110, 110]⟩, .string sl1, .string hh1, .string ⟨#[103, 117, 101, 115, 116]⟩, .int .i64 600, .int .i64 3] 46)) w1.heap.size [.string ⟨#[97, 110, 110]⟩, .string sl1, .string hh1, .string ⟨#[103, 117, 101, 115, 116]⟩, .int .i64 600, .int .i64 3]) := Bx.new w1 #[.string ⟨#[97, 110, 110]⟩, .string sl1, .string hh1, .string ⟨#[103, 117, 101, 115, 116]⟩, .int .i64 600, .int .i64 3] 46
  have z1 : w.heap.size < w1.heap.size := World.block_lt_of_cell? w1 ⟨w.heap.size, 0, none⟩ ((R0.out.below b1).cell 0 rfl)
  have X0q := X0
  clear b1 a1 B0 R0 M0
  go_wp2_with fail
  refine (M1.out _ (T.out _ B1.out).1 (T.out _ B1.out).2).mono ?_
  rintro e w2 ⟨rfl, b2⟩
  have a2 : Below w2.heap.size w2 (w2.alloc (.cells #[.string ⟨#[98, 111, 98]⟩, .string sl2, .string hh2, .string ⟨#[115, 116, 97, 102, 102]⟩, .int .i64 100000, .int .i64 100] 46)) := (Below.refl _ _).alloc (Nat.le_refl _) _
  have B2 : Hid (Below w.heap.size w (w2.alloc (.cells #[.string ⟨#[98, 111, 98]⟩, .string sl2, .string hh2, .string ⟨#[115, 116, 97, 102, 102]⟩, .int .i64 100000, .int .i64 100] 46))) := (B1.out.trans (b2.mono B1.out.size)).trans (a2.mono (Nat.le_trans B1.out.size b2.size))
  have R2 : Hid (Bx (w2.alloc (.cells #[.string ⟨#[98, 111, 98]⟩, .string sl2, .string hh2, .string ⟨#[115, 116, 97, 102, 102]⟩, .int .i64 100000, .int .i64 100] 46)) w.heap.size [.int .i64 0, .int .i64 0, .int .i64 0, .string ⟨#[]⟩, .string ⟨#[]⟩, .int .i64 0, .slice none 0 0, .slice none 0 0, .slice none 0 0, .slice none 0 0, .slice none 0 0, .slice none 0 0, .int .i64 0, .slice none 0 0, .slice none 0 0, .int .i64 0, .int .i64 0, .int .i64 0]) := (R1.out.below b2).below a2
  replace X0 : Hid (Bx (w2.alloc (.cells #[.string ⟨#[98, 111, 98]⟩, .string sl2, .string hh2, .string ⟨#[115, 116, 97, 102, 102]⟩, .int .i64 100000, .int .i64 100] 46)) w1.heap.size [.string ⟨#[97, 110, 110]⟩, .string sl1, .string hh1, .string ⟨#[103, 117, 101, 115, 116]⟩, .int .i64 600, .int .i64 3]) := (X0.out.below b2).below a2
  have X1 : Hid (Bx (w2.alloc (.cells #[.string ⟨#[98, 111, 98]⟩, .string sl2, .string hh2, .string ⟨#[115, 116, 97, 102, 102]⟩, .int .i64 100000, .int .i64 100] 46)) w2.heap.size [.string ⟨#[98, 111, 98]⟩, .string sl2, .string hh2, .string ⟨#[115, 116, 97, 102, 102]⟩, .int .i64 100000, .int .i64 100]) := Bx.new w2 #[.string ⟨#[98, 111, 98]⟩, .string sl2, .string hh2, .string ⟨#[115, 116, 97, 102, 102]⟩, .int .i64 100000, .int .i64 100] 46
  have z2 : w.heap.size < w2.heap.size := World.block_lt_of_cell? w2 ⟨w.heap.size, 0, none⟩ ((R1.out.below b2).cell 0 rfl)
  have y2 : w1.heap.size < w2.heap.size := World.block_lt_of_cell? w2 ⟨w1.heap.size, 0, none⟩ ((X0q.out.below b2).cell 0 rfl)
  have X1q := X1
  clear b2 a2 B1 R1 M1 X0q
  go_wp2_with fail
  refine (M2.out _ (T.out _ B2.out).1 (T.out _ B2.out).2).mono ?_
  rintro e w3 ⟨rfl, b3⟩
  have a3 : Below w3.heap.size w3 (w3.alloc (.cells #[.string ⟨#[116, 105, 99, 107, 101, 116]⟩, .string sl3, .string hh3, .string ⟨#[103, 117, 101, 115, 116]⟩, .int .i64 50, .int .i64 1] 46)) := (Below.refl _ _).alloc (Nat.le_refl _) _
  have B3 : Hid (Below w.heap.size w (w3.alloc (.cells #[.string ⟨#[116, 105, 99, 107, 101, 116]⟩, .string sl3, .string hh3, .string ⟨#[103, 117, 101, 115, 116]⟩, .int .i64 50, .int .i64 1] 46))) := (B2.out.trans (b3.mono B2.out.size)).trans (a3.mono (Nat.le_trans B2.out.size b3.size))
  have R3 : Hid (Bx (w3.alloc (.cells #[.string ⟨#[116, 105, 99, 107, 101, 116]⟩, .string sl3, .string hh3, .string ⟨#[103, 117, 101, 115, 116]⟩, .int .i64 50, .int .i64 1] 46)) w.heap.size [.int .i64 0, .int .i64 0, .int .i64 0, .string ⟨#[]⟩, .string ⟨#[]⟩, .int .i64 0, .slice none 0 0, .slice none 0 0, .slice none 0 0, .slice none 0 0, .slice none 0 0, .slice none 0 0, .int .i64 0, .slice none 0 0, .slice none 0 0, .int .i64 0, .int .i64 0, .int .i64 0]) := (R2.out.below b3).below a3
  replace X0 : Hid (Bx (w3.alloc (.cells #[.string ⟨#[116, 105, 99, 107, 101, 116]⟩, .string sl3, .string hh3, .string ⟨#[103, 117, 101, 115, 116]⟩, .int .i64 50, .int .i64 1] 46)) w1.heap.size [.string ⟨#[97, 110, 110]⟩, .string sl1, .string hh1, .string ⟨#[103, 117, 101, 115, 116]⟩, .int .i64 600, .int .i64 3]) := (X0.out.below b3).below a3
  replace X1 : Hid (Bx (w3.alloc (.cells #[.string ⟨#[116, 105, 99, 107, 101, 116]⟩, .string sl3, .string hh3, .string ⟨#[103, 117, 101, 115, 116]⟩, .int .i64 50, .int .i64 1] 46)) w2.heap.size [.string ⟨#[98, 111, 98]⟩, .string sl2, .string hh2, .string ⟨#[115, 116, 97, 102, 102]⟩, .int .i64 100000, .int .i64 100]) := (X1.out.below b3).below a3
  have X2 : Hid (Bx (w3.alloc (.cells #[.string ⟨#[116, 105, 99, 107, 101, 116]⟩, .string sl3, .string hh3, .string ⟨#[103, 117, 101, 115, 116]⟩, .int .i64 50, .int .i64 1] 46)) w3.heap.size [.string ⟨#[116, 105, 99, 107, 101, 116]⟩, .string sl3, .string hh3, .string ⟨#[103, 117, 101, 115, 116]⟩, .int .i64 50, .int .i64 1]) := Bx.new w3 #[.string ⟨#[116, 105, 99, 107, 101, 116]⟩, .string sl3, .string hh3, .string ⟨#[103, 117, 101, 115, 116]⟩, .int .i64 50, .int .i64 1] 46
  have z3 : w.heap.size < w3.heap.size := World.block_lt_of_cell? w3 ⟨w.heap.size, 0, none⟩ ((R2.out.below b3).cell 0 rfl)
  have y3 : w2.heap.size < w3.heap.size := World.block_lt_of_cell? w3 ⟨w2.heap.size, 0, none⟩ ((X1q.out.below b3).cell 0 rfl)
  have X2q := X2
  clear b3 a3 B2 R2 M2 X1q
  obtain ⟨W, hW⟩ : ∃ W, W = (w3.alloc (.cells #[.string ⟨#[116, 105, 99, 107, 101, 116]⟩, .string sl3, .string hh3, .string ⟨#[103, 117, 101, 115, 116]⟩, .int .i64 50, .int .i64 1] 46)) := ⟨_, rfl⟩
  have HS : Hid (w3.heap.size < W.heap.size) := by rw [hW, World.size_alloc]; exact Nat.lt_succ_self _
  rw [← hW] at X0 X1 X2 R3 B3
  clear X2q T
  have Z : Hid (w.heap.size < w1.heap.size ∧ w1.heap.size < w2.heap.size ∧ w2.heap.size < w3.heap.size) := ⟨z1, y2, y3⟩
  clear z1 z2 z3 y2 y3
  go_wp2_with fail
  rw [← hW]
  clear hW
  refine Rlw.wp_region_rel (w := W) [Rlw.kndR 0 [] (kCf plC) W.heap.size, Rlw.valR 1 [] (.agg #[.string ⟨#[97, 110, 110]⟩, .string sl1, .string hh1, .string ⟨#[103, 117, 101, 115, 116]⟩, .int .i64 600, .int .i64 3]), Rlw.valR 2 [] (.agg #[.string ⟨#[98, 111, 98]⟩, .string sl2, .string hh2, .string ⟨#[115, 116, 97, 102, 102]⟩, .int .i64 100000, .int .i64 100]), Rlw.valR 3 [] (.agg #[.string ⟨#[116, 105, 99, 107, 101, 116]⟩, .string sl3, .string hh3, .string ⟨#[103, 117, 101, 115, 116]⟩, .int .i64 50, .int .i64 1]), Rlw.kndR 4 [1, 2, 3] (Knd.row uvG 6 46 (plUx sl1 hh1 sl2 hh2 sl3 hh3)) W.heap.size, Rlw.twoR 5 4 [4] (fun x y => ∃ (a : Option Addr) (c : Nat), y = .slice a 3 c ∧ x = .agg #[.slice a 3 c, .slice none 0 0, .slice none 0 0, .slice none 0 0, .int .i64 1]), threeR 6 0 5 [0, 5] (fun x y z => ∃ (C : CfA) (a : Option Addr) (c : Nat), y = .agg (cfC C plC).toArray ∧ z = .agg #[.slice a 3 c, .slice none 0 0, .slice none 0 0, .slice none 0 0, .int .i64 1] ∧ x = .agg #[.int .i64 167772160, .int .i64 24, .int .i64 167772161, .string ⟨#[2, 0, 0, 0, 0, 0]⟩, .string ⟨#[2, 0, 0, 0, 0, 255]⟩, .int .i64 16843009, .slice C.x 1 C.xc, .slice C.y 2 C.yc, .slice a 3 c, .slice none 0 0, .slice none 0 0, .slice none 0 0, .int .i64 1, .slice none 0 0, .slice none 0 0, .int .i64 0, .int .i64 0, .int .i64 0]), Rlw.fillR w.heap.size 8 6 [6] cellsV, Rlw.iniR w.heap.size [.int .i64 0, .int .i64 0, .int .i64 0, .string ⟨#[]⟩, .string ⟨#[]⟩, .int .i64 0, .slice none 0 0, .slice none 0 0, .slice none 0 0, .slice none 0 0, .slice none 0 0, .slice none 0 0, .int .i64 0, .slice none 0 0, .slice none 0 0, .int .i64 0, .int .i64 0, .int .i64 0]] [8] [0, 1, 2, 3, 4, 5, 6, 7] (fun b => b < W.heap.size ∧ b ≠ w.heap.size) (by kernel_rfl) (by kernel_rfl) (by kernel_rfl) ?_ (fun b h => h.1) ?ini ?ap ?_ ?_
  · exact List.forall_mem_cons.2 ⟨Rlw.kndR_ok _ _ _ _, List.forall_mem_cons.2 ⟨Rlw.valR_ok _ _ _, List.forall_mem_cons.2 ⟨Rlw.valR_ok _ _ _, List.forall_mem_cons.2 ⟨Rlw.valR_ok _ _ _, List.forall_mem_cons.2 ⟨Rlw.kndR_ok _ _ _ _, List.forall_mem_cons.2 ⟨Rlw.twoR_ok _ _ _ _, List.forall_mem_cons.2 ⟨threeR_ok _ _ _ _ _, List.forall_mem_cons.2 ⟨Rlw.fillR_ok _ _ _ _ _, List.forall_mem_cons.2 ⟨Rlw.iniR_ok _ _, List.forall_mem_nil _⟩⟩⟩⟩⟩⟩⟩⟩⟩
  case ini =>
    intro q r hq hr
    rw [List.mem_singleton] at hq
    subst hq
    cases hr
    exact ⟨Rlw.bx_loc R3.out rfl, fun b hb => ⟨by have hb2 : b = w.heap.size := hb; have := HS.out; have := Z.out; show b < W.heap.size; omega, fun e => e.2 hb⟩⟩
  case ap =>
    intro q1 q2 r1 r2 h1 h2 hne
    rw [List.mem_singleton] at h1 h2
    exact absurd (h1.trans h2.symm) hne
  · refine (Rlw.walk_cons ?s0 (Rlw.walk_cons ?s1 (Rlw.walk_cons ?s2 (Rlw.walk_cons ?s3 (Rlw.walk_cons ?s4 (Rlw.walk_cons ?s5 (Rlw.walk_cons ?s6 (Rlw.walk_cons ?s7 Rlw.walk_nil))))))))
    case s0 =>
      refine Rlw.step_want ?_ ?_
      · rfl
      intro σ wx hK hF post hp
      go_simp
      refine Rlw.yld_call ?_
      refine (HC.out _).mono ?_
      rintro e w9 ⟨C9, L9, rfl, ho, b9⟩
      exact ⟨_, rfl, hp _ _ (Rlw.left_knd ⟨C9, L9, rfl, ho⟩ hK.size b9)⟩
    case s1 =>
      refine Rlw.step_want ?_ ?_
      · rfl
      intro σ wx hK hF post hp
      have kq : Rel.Keep (fun b => b < W.heap.size ∧ b ≠ w.heap.size) W wx := ⟨hK.os, hK.tape, hK.output, hK.size, hK.block⟩
      have hz := Z.out; have hs := HS.out
      refine Rlw.yld_get 46 _ rfl (q := w1.heap.size) (by go_simp) (Rlw.bx_keepW X0.out kq ⟨by omega, by omega⟩) _ Tryd.underlying46 rfl rfl ?_
      exact hp _ _ Rlw.left_val
    case s2 =>
      refine Rlw.step_want ?_ ?_
      · rfl
      intro σ wx hK hF post hp
      have kq : Rel.Keep (fun b => b < W.heap.size ∧ b ≠ w.heap.size) W wx := ⟨hK.os, hK.tape, hK.output, hK.size, hK.block⟩
      have hz := Z.out; have hs := HS.out
      refine Rlw.yld_get 46 _ rfl (q := w2.heap.size) (by go_simp) (Rlw.bx_keepW X1.out kq ⟨by omega, by omega⟩) _ Tryd.underlying46 rfl rfl ?_
      exact hp _ _ Rlw.left_val
    case s3 =>
      refine Rlw.step_want ?_ ?_
      · rfl
      intro σ wx hK hF post hp
      have kq : Rel.Keep (fun b => b < W.heap.size ∧ b ≠ w.heap.size) W wx := ⟨hK.os, hK.tape, hK.output, hK.size, hK.block⟩
      have hz := Z.out; have hs := HS.out
      refine Rlw.yld_get 46 _ rfl (q := w3.heap.size) (by go_simp) (Rlw.bx_keepW X2.out kq ⟨by omega, by omega⟩) _ Tryd.underlying46 rfl rfl ?_
      exact hp _ _ Rlw.left_val
    case s4 =>
      refine Rlw.step_want ?_ ?_
      · rfl
      intro σ wx hK hF post hp
      have f1 : σ 1 = .agg #[.string ⟨#[97, 110, 110]⟩, .string sl1, .string hh1, .string ⟨#[103, 117, 101, 115, 116]⟩, .int .i64 600, .int .i64 3] := Rlw.fact_of hF (j := 1) rfl rfl
      have f2 : σ 2 = .agg #[.string ⟨#[98, 111, 98]⟩, .string sl2, .string hh2, .string ⟨#[115, 116, 97, 102, 102]⟩, .int .i64 100000, .int .i64 100] := Rlw.fact_of hF (j := 2) rfl rfl
      have f3 : σ 3 = .agg #[.string ⟨#[116, 105, 99, 107, 101, 116]⟩, .string sl3, .string hh3, .string ⟨#[103, 117, 101, 115, 116]⟩, .int .i64 50, .int .i64 1] := Rlw.fact_of hF (j := 3) rfl rfl
      go_simp
      refine Rlw.yld_val ?_
      exact hp _ _ (Rlw.left_knd (plRow wx wx.heap.size (Nat.le_refl _) sl1 hh1 sl2 hh2 sl3 hh3) hK.size ((Below.refl _ _).alloc (Nat.le_refl _) _))
    case s5 =>
      refine Rlw.step_want ?_ ?_
      · rfl
      intro σ wx hK hF post hp
      have f4 : OwnS uvG 6 46 wx W.heap.size (σ 4) (plUx sl1 hh1 sl2 hh2 sl3 hh3) := Rlw.fact_of hF (j := 4) rfl rfl
      obtain ⟨a9, c9, h9, -⟩ := f4.slice
      have d4 : σ 4 = .slice a9 3 c9 := h9
      clear h9
      go_simp
      refine Rlw.yld_val ?_
      refine hp _ _ (Rlw.left_below ?_ (fun b h => h.elim) (Below.refl _ _))
      exact ⟨a9, c9, by simp [Rlw.upd, d4], by simp [Rlw.upd]⟩
    case s6 =>
      refine Rlw.step_want ?_ ?_
      · rfl
      intro σ wx hK hF post hp
      have f0 : (kCf plC).own wx W.heap.size (σ 0) := Rlw.fact_of hF (j := 0) rfl rfl
      have f5 : ∃ (a : Option Addr) (c : Nat), σ 4 = .slice a 3 c ∧ σ 5 = .agg #[.slice a 3 c, .slice none 0 0, .slice none 0 0, .slice none 0 0, .int .i64 1] := Rlw.fact_of hF (j := 5) rfl rfl
      obtain ⟨C9, L9, e9, -⟩ := f0
      obtain ⟨a9, c9, -, d5⟩ := f5
      have d0 : σ 0 = .agg #[.int .i64 167772160, .int .i64 24, .int .i64 167772161, .string ⟨#[2, 0, 0, 0, 0, 0]⟩, .string ⟨#[2, 0, 0, 0, 0, 255]⟩, .int .i64 16843009, .slice C9.x 1 C9.xc, .slice C9.y 2 C9.yc] := e9
      have E9 : Hid (σ 0 = .agg (cfC C9 plC).toArray) := e9
      clear e9
      go_simp
      refine Rlw.yld_val ?_
      refine hp _ _ (Rlw.left_below ?_ (fun b h => h.elim) (Below.refl _ _))
      exact ⟨C9, a9, c9, (Rlw.upd_ne σ _ (by decide)).trans E9.out, (Rlw.upd_ne σ _ (by decide)).trans d5, by simp [Rlw.upd]⟩
    case s7 =>
      refine Rlw.step_want ?_ ?_
      · rfl
      intro σ wx hK hF post hp
      have f6 : ∃ (C : CfA) (a : Option Addr) (c : Nat), σ 0 = .agg (cfC C plC).toArray ∧ σ 5 = .agg #[.slice a 3 c, .slice none 0 0, .slice none 0 0, .slice none 0 0, .int .i64 1] ∧ σ 6 = .agg #[.int .i64 167772160, .int .i64 24, .int .i64 167772161, .string ⟨#[2, 0, 0, 0, 0, 0]⟩, .string ⟨#[2, 0, 0, 0, 0, 255]⟩, .int .i64 16843009, .slice C.x 1 C.xc, .slice C.y 2 C.yc, .slice a 3 c, .slice none 0 0, .slice none 0 0, .slice none 0 0, .int .i64 1, .slice none 0 0, .slice none 0 0, .int .i64 0, .int .i64 0, .int .i64 0] := Rlw.fact_of hF (j := 6) rfl rfl
      have f8 : Bx wx w.heap.size [.int .i64 0, .int .i64 0, .int .i64 0, .string ⟨#[]⟩, .string ⟨#[]⟩, .int .i64 0, .slice none 0 0, .slice none 0 0, .slice none 0 0, .slice none 0 0, .slice none 0 0, .slice none 0 0, .int .i64 0, .slice none 0 0, .slice none 0 0, .int .i64 0, .int .i64 0, .int .i64 0] := Rlw.fact_of hF (j := 8) rfl rfl
      obtain ⟨C9, a9, c9, -, -, d6⟩ := f6
      refine Rlw.yld_put 37 _ _ rfl (q := w.heap.size) (cells := #[.int .i64 167772160, .int .i64 24, .int .i64 167772161, .string ⟨#[2, 0, 0, 0, 0, 0]⟩, .string ⟨#[2, 0, 0, 0, 0, 255]⟩, .int .i64 16843009, .slice C9.x 1 C9.xc, .slice C9.y 2 C9.yc, .slice a9 3 c9, .slice none 0 0, .slice none 0 0, .slice none 0 0, .int .i64 1, .slice none 0 0, .slice none 0 0, .int .i64 0, .int .i64 0, .int .i64 0]) (by go_simp) (by go_simp; try exact d6) f8 rfl (by rfl) rfl ?_
      exact hp _ _ (Rlw.left_fill (t := 6) (o := 0) rfl (by decide) f8 [.int .i64 167772160, .int .i64 24, .int .i64 167772161, .string ⟨#[2, 0, 0, 0, 0, 0]⟩, .string ⟨#[2, 0, 0, 0, 0, 255]⟩, .int .i64 16843009, .slice C9.x 1 C9.xc, .slice C9.y 2 C9.yc, .slice a9 3 c9, .slice none 0 0, .slice none 0 0, .slice none 0 0, .int .i64 1, .slice none 0 0, .slice none 0 0, .int .i64 0, .int .i64 0, .int .i64 0] (by rw [d6]; rfl))
  · intro σ W5 hK hF hA
    have f0 : (kCf plC).own W5 W.heap.size (σ 0) := Rlw.fact_of hF (j := 0) rfl rfl
    have f4 : OwnS uvG 6 46 W5 W.heap.size (σ 4) (plUx sl1 hh1 sl2 hh2 sl3 hh3) := Rlw.fact_of hF (j := 4) rfl rfl
    have f5 : ∃ (a : Option Addr) (c : Nat), σ 4 = .slice a 3 c ∧ σ 5 = .agg #[.slice a 3 c, .slice none 0 0, .slice none 0 0, .slice none 0 0, .int .i64 1] := Rlw.fact_of hF (j := 5) rfl rfl
    have f6 : ∃ (C : CfA) (a : Option Addr) (c : Nat), σ 0 = .agg (cfC C plC).toArray ∧ σ 5 = .agg #[.slice a 3 c, .slice none 0 0, .slice none 0 0, .slice none 0 0, .int .i64 1] ∧ σ 6 = .agg #[.int .i64 167772160, .int .i64 24, .int .i64 167772161, .string ⟨#[2, 0, 0, 0, 0, 0]⟩, .string ⟨#[2, 0, 0, 0, 0, 255]⟩, .int .i64 16843009, .slice C.x 1 C.xc, .slice C.y 2 C.yc, .slice a 3 c, .slice none 0 0, .slice none 0 0, .slice none 0 0, .int .i64 1, .slice none 0 0, .slice none 0 0, .int .i64 0, .int .i64 0, .int .i64 0] := Rlw.fact_of hF (j := 6) rfl rfl
    have f7 : Bx W5 w.heap.size (cellsV (σ 6)) := Rlw.fact_of hF (j := 7) rfl rfl
    have KW := Rlw.keep_drew hK
    obtain ⟨C9, a9, c9, e0, e5, d6⟩ := f6
    obtain ⟨C, L, e0', o0⟩ := f0
    obtain rfl : C = C9 := cfC_inj (agg_inj (e0'.symm.trans e0))
    obtain ⟨a8, c8, d4, e5'⟩ := f5
    have e8 := e5'.symm.trans e5
    injection e8 with e8
    injection e8 with e8
    injection e8 with e8 _
    injection e8 with e8a e8b e8c
    subst e8a e8c
    rw [d4] at f4
    rw [d6] at f7
    have R5 : Bx W5 w.heap.size [.int .i64 167772160, .int .i64 24, .int .i64 167772161, .string ⟨#[2, 0, 0, 0, 0, 0]⟩, .string ⟨#[2, 0, 0, 0, 0, 255]⟩, .int .i64 16843009, .slice C.x 1 C.xc, .slice C.y 2 C.yc, .slice a8 3 c8, .slice none 0 0, .slice none 0 0, .slice none 0 0, .int .i64 1, .slice none 0 0, .slice none 0 0, .int .i64 0, .int .i64 0, .int .i64 0] := f7
    have OH : OwnHu W5 W.heap.size ⟨a8, none, none, none, c8, 0, 0, 0⟩ (plHx (plUx sl1 hh1 sl2 hh2 sl3 hh3)) := ⟨f4, OwnS.nil _ _, OwnS.nil _ _, OwnS.nil _ _, (ap_none _ _ _).symm, (ap_none _ _ _).symm, (ap_none _ _ _).symm, ap_none _ _ _, ap_none _ _ _, ap_none _ _ _⟩
    have OG := plG_own o0 OH
    have hz := Z.out
    have hs := HS.out
    have BW : Below w.heap.size w W5 := ⟨KW.os.trans B3.out.os, KW.tape.trans B3.out.tape, KW.output.trans B3.out.output, Nat.le_trans B3.out.size KW.size, fun b hb => (KW.block b ⟨by omega, by omega⟩).trans (B3.out.block b hb)⟩
    have OG2 : Hid (OwnGt W5 w.heap.size (plGA C ⟨a8, none, none, none, c8, 0, 0, 0⟩) (plGx (plUx sl1 hh1 sl2 hh2 sl3 hh3)) L) := OG.lower (by rw [Nat.min_self]; omega)
    clear f4 f7 KW hF hA hK e0 e5 d6 e0' o0 d4 e5' OH OG HC X0 X1 X2 R3 B3
    simp only [Rlw.putAll, Nat.zero_add, Nat.reduceAdd]
    go_simp
    go_wp2_with fail
    refine bodyPost_ret (v := .agg #[.int .i64 167772160, .int .i64 24, .int .i64 167772161, .string ⟨#[2, 0, 0, 0, 0, 0]⟩, .string ⟨#[2, 0, 0, 0, 0, 255]⟩, .int .i64 16843009, .slice C.x 1 C.xc, .slice C.y 2 C.yc, .slice a8 3 c8, .slice none 0 0, .slice none 0 0, .slice none 0 0, .int .i64 1, .slice none 0 0, .slice none 0 0, .int .i64 0, .int .i64 0, .int .i64 0]) (results_cell Tryd.results5 (w.heap.size) rfl R5 _ Tryd.underlying37 rfl rfl) rfl ?_
    exact ⟨_, rfl, ⟨L, OG2.out⟩, BW⟩
end Go.Proofs.YtbeehlhcckndcaaDoor

namespace Go.Proofs.YtbeehlhcckndcaaDoor
open Go.RowKit Go.PlainAid Go.Proofs.YtbeehlhcckndcaaDoor.Bt Go.Sort
set_option linter.unusedVariables false
set_option maxRecDepth 20000
set_option maxHeartbeats 8000000 in
theorem lawPlain_of (sl1 hh1 sl2 hh2 sl3 hh3 : ByteArray) (w : World) (hK : KTab w) (hH : HTab w) (hS : ∀ w, Calls Tryd.prog 4 #[] w fun e w' => ∃ (R : GtA) (X : List RoX), e = .returned (.agg #[.int .i64 167772160, .int .i64 24, .int .i64 167772161, .string ⟨#[2, 0, 0, 0, 0, 0]⟩, .string ⟨#[2, 0, 0, 0, 0, 255]⟩, .int .i64 16843009, .slice R.x 1 R.xc, .slice R.y 2 R.yc, .slice R.ua 3 R.uc, .slice R.sa 0 R.sc, .slice R.fa 0 R.fc, .slice R.ra 0 R.rc, .int .i64 1, .slice R.la 0 R.lc, .slice R.ca 0 R.cc, .int .i64 0, .int .i64 0, .int .i64 0]) ∧ OwnGt w' w.heap.size R (plGx (plUx sl1 hh1 sl2 hh2 sl3 hh3)) X ∧ Below w.heap.size w w') (hI : ∀ w, KTab w → HTab w → Calls Tryd.prog 5 #[] w fun e w' => ∃ (R : GtA) (X : List RoX), e = .returned (.agg #[.int .i64 167772160, .int .i64 24, .int .i64 167772161, .string ⟨#[2, 0, 0, 0, 0, 0]⟩, .string ⟨#[2, 0, 0, 0, 0, 255]⟩, .int .i64 16843009, .slice R.x 1 R.xc, .slice R.y 2 R.yc, .slice R.ua 3 R.uc, .slice R.sa 0 R.sc, .slice R.fa 0 R.fc, .slice R.ra 0 R.rc, .int .i64 1, .slice R.la 0 R.lc, .slice R.ca 0 R.cc, .int .i64 0, .int .i64 0, .int .i64 0]) ∧ OwnGt w' w.heap.size R (plGx (plUx sl1 hh1 sl2 hh2 sl3 hh3)) X ∧ Below w.heap.size w w') (ok : GtOk (plGx (plUx sl1 hh1 sl2 hh2 sl3 hh3))) (sz : GtS (plGx (plUx sl1 hh1 sl2 hh2 sl3 hh3))) :
    Calls Tryd.prog 3 #[] w fun e w' => e = .returned (.bool true) ∧ Below w.heap.size w w' := by
  have HS : Hid (∀ w, Calls Tryd.prog 4 #[] w fun e w' => ∃ (R : GtA) (X : List RoX), e = .returned (.agg #[.int .i64 167772160, .int .i64 24, .int .i64 167772161, .string ⟨#[2, 0, 0, 0, 0, 0]⟩, .string ⟨#[2, 0, 0, 0, 0, 255]⟩, .int .i64 16843009, .slice R.x 1 R.xc, .slice R.y 2 R.yc, .slice R.ua 3 R.uc, .slice R.sa 0 R.sc, .slice R.fa 0 R.fc, .slice R.ra 0 R.rc, .int .i64 1, .slice R.la 0 R.lc, .slice R.ca 0 R.cc, .int .i64 0, .int .i64 0, .int .i64 0]) ∧ OwnGt w' w.heap.size R (plGx (plUx sl1 hh1 sl2 hh2 sl3 hh3)) X ∧ Below w.heap.size w w') := hS
  have HI : Hid (∀ w, KTab w → HTab w → Calls Tryd.prog 5 #[] w fun e w' => ∃ (R : GtA) (X : List RoX), e = .returned (.agg #[.int .i64 167772160, .int .i64 24, .int .i64 167772161, .string ⟨#[2, 0, 0, 0, 0, 0]⟩, .string ⟨#[2, 0, 0, 0, 0, 255]⟩, .int .i64 16843009, .slice R.x 1 R.xc, .slice R.y 2 R.yc, .slice R.ua 3 R.uc, .slice R.sa 0 R.sc, .slice R.fa 0 R.fc, .slice R.ra 0 R.rc, .int .i64 1, .slice R.la 0 R.lc, .slice R.ca 0 R.cc, .int .i64 0, .int .i64 0, .int .i64 0]) ∧ OwnGt w' w.heap.size R (plGx (plUx sl1 hh1 sl2 hh2 sl3 hh3)) X ∧ Below w.heap.size w w') := hI
  have T : Hid (∀ wx, Below w.heap.size w wx → KTab wx ∧ HTab wx) := fun wx hb => ⟨hK.below hb, hH.below hb⟩
  have OK : Hid (GtOk (plGx (plUx sl1 hh1 sl2 hh2 sl3 hh3))) := ok
  have LG : Hid (GtS (plGx (plUx sl1 hh1 sl2 hh2 sl3 hh3))) := sz
  clear hS hI hK hH ok sz
  have HE : Hid (∀ (A1 A2 : GtA) (w : World), GtR w A1 (plGx (plUx sl1 hh1 sl2 hh2 sl3 hh3)) → GtR w A2 (plGx (plUx sl1 hh1 sl2 hh2 sl3 hh3)) → Calls Tryd.prog 6 #[.agg #[.int .i64 167772160, .int .i64 24, .int .i64 167772161, .string ⟨#[2, 0, 0, 0, 0, 0]⟩, .string ⟨#[2, 0, 0, 0, 0, 255]⟩, .int .i64 16843009, .slice A1.x 1 A1.xc, .slice A1.y 2 A1.yc, .slice A1.ua 3 A1.uc, .slice A1.sa 0 A1.sc, .slice A1.fa 0 A1.fc, .slice A1.ra 0 A1.rc, .int .i64 1, .slice A1.la 0 A1.lc, .slice A1.ca 0 A1.cc, .int .i64 0, .int .i64 0, .int .i64 0], .agg #[.int .i64 167772160, .int .i64 24, .int .i64 167772161, .string ⟨#[2, 0, 0, 0, 0, 0]⟩, .string ⟨#[2, 0, 0, 0, 0, 255]⟩, .int .i64 16843009, .slice A2.x 1 A2.xc, .slice A2.y 2 A2.yc, .slice A2.ua 3 A2.uc, .slice A2.sa 0 A2.sc, .slice A2.fa 0 A2.fc, .slice A2.ra 0 A2.rc, .int .i64 1, .slice A2.la 0 A2.lc, .slice A2.ca 0 A2.cc, .int .i64 0, .int .i64 0, .int .i64 0]] w fun e w' => e = .returned (.bool true) ∧ Below w.heap.size w w') := fun A1 A2 w h1 h2 => gt_eq A1 A2 (plGx (plUx sl1 hh1 sl2 hh2 sl3 hh3)) w h1 h2 LG.out
  go_enter Tryd.func3, Tryd.ntmps3
  go_wp2_with fail
  refine (HS.out _).mono ?_
  rintro e v1 ⟨R1, X1, rfl, o9, bx⟩
  go_wp2_with (first | (refine wpl_putT 37 rfl _ _ rfl (v1.heap.size) _ rfl rfl (Bx.new v1 #[.int .i64 0, .int .i64 0, .int .i64 0, .string ⟨#[]⟩, .string ⟨#[]⟩, .int .i64 0, .slice none 0 0, .slice none 0 0, .slice none 0 0, .slice none 0 0, .slice none 0 0, .slice none 0 0, .int .i64 0, .slice none 0 0, .slice none 0 0, .int .i64 0, .int .i64 0, .int .i64 0] 37) rfl rfl rfl ?_; intro y1 hy9 Ny9; have bz : Below v1.heap.size v1 y1 := (by rw [hy9]; exact below_cells (Nat.le_refl _) _ _ _ ((Below.refl _ _).alloc (Nat.le_refl _) _)); have B1 : Hid (Below w.heap.size w y1) := bx.trans (bz.mono bx.size); have Q1lt : Hid (∀ x, gtBk R1 (plGx (plUx sl1 hh1 sl2 hh2 sl3 hh3)) X1 x → x < v1.heap.size) := (fun x hx => (o9.lt x hx).2); have W1 : Hid (w.heap.size ≤ v1.heap.size) := bx.size; have N1 : Hid (Bx y1 (v1.heap.size) [.int .i64 167772160, .int .i64 24, .int .i64 167772161, .string ⟨#[2, 0, 0, 0, 0, 0]⟩, .string ⟨#[2, 0, 0, 0, 0, 255]⟩, .int .i64 16843009, .slice R1.x 1 R1.xc, .slice R1.y 2 R1.yc, .slice R1.ua 3 R1.uc, .slice R1.sa 0 R1.sc, .slice R1.fa 0 R1.fc, .slice R1.ra 0 R1.rc, .int .i64 1, .slice R1.la 0 R1.lc, .slice R1.ca 0 R1.cc, .int .i64 0, .int .i64 0, .int .i64 0]) := Ny9; have O1 : Hid (OwnGt y1 w.heap.size R1 (plGx (plUx sl1 hh1 sl2 hh2 sl3 hh3)) X1) := o9.now bz; have hsy1 : y1.heap.size = v1.heap.size + 1 := (by rw [hy9, (heap_cellsA _ _ _).1]; simp); clear o9 bx bz hy9 Ny9) | fail)
  refine (HI.out _ (T.out _ B1.out).1 (T.out _ B1.out).2).mono ?_
  rintro e v2 ⟨R2, X2, rfl, o9, bx⟩
  have RO2 : Hid (X2.map (fun x => x.r) = (plGx (plUx sl1 hh1 sl2 hh2 sl3 hh3)).ros) := o9.ro
  have I1 : Hid (v1.heap.size < y1.heap.size ∧ y1.heap.size ≤ v2.heap.size ∧ (∀ x, gtBk R2 (plGx (plUx sl1 hh1 sl2 hh2 sl3 hh3)) X2 x → y1.heap.size ≤ x ∧ x < v2.heap.size) ∧ (∀ x, gtBk R1 (plGx (plUx sl1 hh1 sl2 hh2 sl3 hh3)) X1 x → x < v1.heap.size)) := ⟨by omega, bx.size, fun x hx => o9.lt x hx, fun x hx => Q1lt.out x hx⟩
  go_wp2_with (first | (refine wpl_putT 37 rfl _ _ rfl (v2.heap.size) _ rfl rfl (Bx.new v2 #[.int .i64 0, .int .i64 0, .int .i64 0, .string ⟨#[]⟩, .string ⟨#[]⟩, .int .i64 0, .slice none 0 0, .slice none 0 0, .slice none 0 0, .slice none 0 0, .slice none 0 0, .slice none 0 0, .int .i64 0, .slice none 0 0, .slice none 0 0, .int .i64 0, .int .i64 0, .int .i64 0] 37) rfl rfl rfl ?_; intro y2 hy9 Ny9; have bz : Below v2.heap.size v2 y2 := (by rw [hy9]; exact below_cells (Nat.le_refl _) _ _ _ ((Below.refl _ _).alloc (Nat.le_refl _) _)); have N2 : Hid (Bx y2 (v1.heap.size) [.int .i64 167772160, .int .i64 24, .int .i64 167772161, .string ⟨#[2, 0, 0, 0, 0, 0]⟩, .string ⟨#[2, 0, 0, 0, 0, 255]⟩, .int .i64 16843009, .slice R1.x 1 R1.xc, .slice R1.y 2 R1.yc, .slice R1.ua 3 R1.uc, .slice R1.sa 0 R1.sc, .slice R1.fa 0 R1.fc, .slice R1.ra 0 R1.rc, .int .i64 1, .slice R1.la 0 R1.lc, .slice R1.ca 0 R1.cc, .int .i64 0, .int .i64 0, .int .i64 0]) := (N1.out.below bx).below bz; have O2 : Hid (OwnGt y2 w.heap.size R1 (plGx (plUx sl1 hh1 sl2 hh2 sl3 hh3)) X1) := (O1.out.now bx).now bz; have B2 : Hid (Below w.heap.size w y2) := (B1.out.trans (bx.mono B1.out.size)).trans (bz.mono (Nat.le_trans B1.out.size bx.size)); clear N1 O1 B1; have M2 : Hid (Bx y2 (v2.heap.size) [.int .i64 167772160, .int .i64 24, .int .i64 167772161, .string ⟨#[2, 0, 0, 0, 0, 0]⟩, .string ⟨#[2, 0, 0, 0, 0, 255]⟩, .int .i64 16843009, .slice R2.x 1 R2.xc, .slice R2.y 2 R2.yc, .slice R2.ua 3 R2.uc, .slice R2.sa 0 R2.sc, .slice R2.fa 0 R2.fc, .slice R2.ra 0 R2.rc, .int .i64 1, .slice R2.la 0 R2.lc, .slice R2.ca 0 R2.cc, .int .i64 0, .int .i64 0, .int .i64 0]) := Ny9; have Q2 : Hid (OwnGt y2 y1.heap.size R2 (plGx (plUx sl1 hh1 sl2 hh2 sl3 hh3)) X2) := o9.now bz; have hsy2 : y2.heap.size = v2.heap.size + 1 := (by rw [hy9, (heap_cellsA _ _ _).1]; simp); clear o9 bx bz hy9 Ny9) | (refine wpl_getT 37 rfl _ rfl (v2.heap.size) rfl (M2.out) _ Tryd.underlying37 rfl rfl ?_) | (refine wpl_getT 37 rfl _ rfl (v1.heap.size) rfl (N2.out) _ Tryd.underlying37 rfl rfl ?_) | fail)
  refine (HE.out R2 R1 _ (Q2.out.gtR OK.out) (O2.out.gtR OK.out)).mono ?_
  rintro e w3 ⟨rfl, bx⟩
  have M3 : Hid (Bx w3 (v2.heap.size) [.int .i64 167772160, .int .i64 24, .int .i64 167772161, .string ⟨#[2, 0, 0, 0, 0, 0]⟩, .string ⟨#[2, 0, 0, 0, 0, 255]⟩, .int .i64 16843009, .slice R2.x 1 R2.xc, .slice R2.y 2 R2.yc, .slice R2.ua 3 R2.uc, .slice R2.sa 0 R2.sc, .slice R2.fa 0 R2.fc, .slice R2.ra 0 R2.rc, .int .i64 1, .slice R2.la 0 R2.lc, .slice R2.ca 0 R2.cc, .int .i64 0, .int .i64 0, .int .i64 0]) := M2.out.below bx
  have N3 : Hid (Bx w3 (v1.heap.size) [.int .i64 167772160, .int .i64 24, .int .i64 167772161, .string ⟨#[2, 0, 0, 0, 0, 0]⟩, .string ⟨#[2, 0, 0, 0, 0, 255]⟩, .int .i64 16843009, .slice R1.x 1 R1.xc, .slice R1.y 2 R1.yc, .slice R1.ua 3 R1.uc, .slice R1.sa 0 R1.sc, .slice R1.fa 0 R1.fc, .slice R1.ra 0 R1.rc, .int .i64 1, .slice R1.la 0 R1.lc, .slice R1.ca 0 R1.cc, .int .i64 0, .int .i64 0, .int .i64 0]) := N2.out.below bx
  have O3 : Hid (OwnGt w3 w.heap.size R1 (plGx (plUx sl1 hh1 sl2 hh2 sl3 hh3)) X1) := O2.out.now bx
  have Q3 : Hid (OwnGt w3 (y1.heap.size) R2 (plGx (plUx sl1 hh1 sl2 hh2 sl3 hh3)) X2) := Q2.out.now bx
  have B3 : Hid (Below w.heap.size w w3) := B2.out.trans (bx.mono B2.out.size)
  clear bx M2 N2 O2 Q2 B2
  go_wp2_with (first | (refine wpl_getT 37 rfl _ rfl (v2.heap.size) rfl (M3.out) _ Tryd.underlying37 rfl rfl ?_) | fail)
  refine (show Calls _ _ #[_, .int .i64 (1 : Int)] _ _ from (gt_mark R2 (plGx (plUx sl1 hh1 sl2 hh2 sl3 hh3)) X2 _ 1 _ Q3.out LG.out (by omega) (by omega))).mono ?_
  rintro e w4 ⟨rfl, mk9, hk9⟩
  have nb4 := gtN_bd RO2.out LG.out
  obtain ⟨KM, hKM⟩ : ∃ K : Nat, 1 + gtN (plGx (plUx sl1 hh1 sl2 hh2 sl3 hh3)) X2 = K := ⟨_, rfl⟩
  have kbM : 0 < KM ∧ KM ≤ 900000000 := by omega
  have HKM : Hid (1 + gtN (plGx (plUx sl1 hh1 sl2 hh2 sl3 hh3)) X2 = KM) := hKM
  rw [hKM]
  clear hKM nb4
  have b3 := Q3.out.lt
  have M4 : Hid (Bx w4 (v2.heap.size) [.int .i64 167772160, .int .i64 24, .int .i64 167772161, .string ⟨#[2, 0, 0, 0, 0, 0]⟩, .string ⟨#[2, 0, 0, 0, 0, 255]⟩, .int .i64 16843009, .slice R2.x 1 R2.xc, .slice R2.y 2 R2.yc, .slice R2.ua 3 R2.uc, .slice R2.sa 0 R2.sc, .slice R2.fa 0 R2.fc, .slice R2.ra 0 R2.rc, .int .i64 1, .slice R2.la 0 R2.lc, .slice R2.ca 0 R2.cc, .int .i64 0, .int .i64 0, .int .i64 0]) := Rlw.bx_keepW M3.out hk9 ⟨World.block_lt_of_cell? w3 ⟨v2.heap.size, 0, none⟩ (M3.out.cell 0 rfl), fun hx => by have := (I1.out.2.2.1 _ hx).2; omega⟩
  have N4 : Hid (Bx w4 (v1.heap.size) [.int .i64 167772160, .int .i64 24, .int .i64 167772161, .string ⟨#[2, 0, 0, 0, 0, 0]⟩, .string ⟨#[2, 0, 0, 0, 0, 255]⟩, .int .i64 16843009, .slice R1.x 1 R1.xc, .slice R1.y 2 R1.yc, .slice R1.ua 3 R1.uc, .slice R1.sa 0 R1.sc, .slice R1.fa 0 R1.fc, .slice R1.ra 0 R1.rc, .int .i64 1, .slice R1.la 0 R1.lc, .slice R1.ca 0 R1.cc, .int .i64 0, .int .i64 0, .int .i64 0]) := Rlw.bx_keepW N3.out hk9 ⟨World.block_lt_of_cell? w3 ⟨v1.heap.size, 0, none⟩ (N3.out.cell 0 rfl), fun hx => by have := (I1.out.2.2.1 _ hx).1; have := I1.out.1; omega⟩
  have O4 : Hid (OwnGt w4 w.heap.size R1 (plGx (plUx sl1 hh1 sl2 hh2 sl3 hh3)) X1) := O3.out.keep (fun x hy => hk9.block x ⟨(O3.out.lt x hy).2, fun hx => by have := (I1.out.2.2.1 _ hx).1; have := I1.out.2.2.2 x hy; have := I1.out.1; omega⟩)
  have B4 : Hid (Below w.heap.size w w4) := B3.out.trans ⟨hk9.os, hk9.tape, hk9.output, hk9.size, fun x hy => hk9.block x ⟨Nat.lt_of_lt_of_le hy B3.out.size, fun hx => by have := (I1.out.2.2.1 _ hx).1; have := I1.out.1; have := W1.out; omega⟩⟩
  have Q4 : Hid (MkdGt w4 (y1.heap.size) R2 (plGx (plUx sl1 hh1 sl2 hh2 sl3 hh3)) X2 1) := mk9
  clear mk9 hk9 b3 M3 N3 O3 B3 Q3
  have HH : Hid (∀ w, MkdGt w (y1.heap.size) R2 (plGx (plUx sl1 hh1 sl2 hh2 sl3 hh3)) X2 1 → Calls Tryd.prog 8 #[.agg #[.int .i64 167772160, .int .i64 24, .int .i64 167772161, .string ⟨#[2, 0, 0, 0, 0, 0]⟩, .string ⟨#[2, 0, 0, 0, 0, 255]⟩, .int .i64 16843009, .slice R2.x 1 R2.xc, .slice R2.y 2 R2.yc, .slice R2.ua 3 R2.uc, .slice R2.sa 0 R2.sc, .slice R2.fa 0 R2.fc, .slice R2.ra 0 R2.rc, .int .i64 1, .slice R2.la 0 R2.lc, .slice R2.ca 0 R2.cc, .int .i64 0, .int .i64 0, .int .i64 0], .int .i64 1] w fun e w' => e = .returned (.int .i64 ((KM : Nat) : Int)) ∧ Below w.heap.size w w') := fun w h => by
    have := gt_held R2 (plGx (plUx sl1 hh1 sl2 hh2 sl3 hh3)) X2 _ 1 w RO2.out h LG.out (by omega) (by omega)
    rw [HKM.out] at this
    exact this
  have hqn : decide (((KM : Nat) : Int) < 0) = false := decide_eq_false (by omega)
  have hqq : (((KM : Nat) : Int) != ((KM : Nat) : Int)) = false := by simp
  go_wp2_with (first | (refine wpl_getT 37 rfl _ rfl (v2.heap.size) rfl (M4.out) _ Tryd.underlying37 rfl rfl ?_) | fail)
  refine (HH.out _ Q4.out).mono ?_
  rintro e w5 ⟨rfl, bx⟩
  have M5 : Hid (Bx w5 (v2.heap.size) [.int .i64 167772160, .int .i64 24, .int .i64 167772161, .string ⟨#[2, 0, 0, 0, 0, 0]⟩, .string ⟨#[2, 0, 0, 0, 0, 255]⟩, .int .i64 16843009, .slice R2.x 1 R2.xc, .slice R2.y 2 R2.yc, .slice R2.ua 3 R2.uc, .slice R2.sa 0 R2.sc, .slice R2.fa 0 R2.fc, .slice R2.ra 0 R2.rc, .int .i64 1, .slice R2.la 0 R2.lc, .slice R2.ca 0 R2.cc, .int .i64 0, .int .i64 0, .int .i64 0]) := M4.out.below bx
  have N5 : Hid (Bx w5 (v1.heap.size) [.int .i64 167772160, .int .i64 24, .int .i64 167772161, .string ⟨#[2, 0, 0, 0, 0, 0]⟩, .string ⟨#[2, 0, 0, 0, 0, 255]⟩, .int .i64 16843009, .slice R1.x 1 R1.xc, .slice R1.y 2 R1.yc, .slice R1.ua 3 R1.uc, .slice R1.sa 0 R1.sc, .slice R1.fa 0 R1.fc, .slice R1.ra 0 R1.rc, .int .i64 1, .slice R1.la 0 R1.lc, .slice R1.ca 0 R1.cc, .int .i64 0, .int .i64 0, .int .i64 0]) := N4.out.below bx
  have O5 : Hid (OwnGt w5 w.heap.size R1 (plGx (plUx sl1 hh1 sl2 hh2 sl3 hh3)) X1) := O4.out.now bx
  have Q5 : Hid (MkdGt w5 (y1.heap.size) R2 (plGx (plUx sl1 hh1 sl2 hh2 sl3 hh3)) X2 1) := Q4.out.now bx
  have B5 : Hid (Below w.heap.size w w5) := B4.out.trans (bx.mono B4.out.size)
  clear bx M4 N4 O4 Q4 B4
  go_wp2_with fail
  refine (HI.out _ (T.out _ B5.out).1 (T.out _ B5.out).2).mono ?_
  rintro e v6 ⟨R6, X6, rfl, o9, bx⟩
  go_wp2_with (first | (refine wpl_putT 37 rfl _ _ rfl (v6.heap.size) _ rfl rfl (Bx.new v6 #[.int .i64 0, .int .i64 0, .int .i64 0, .string ⟨#[]⟩, .string ⟨#[]⟩, .int .i64 0, .slice none 0 0, .slice none 0 0, .slice none 0 0, .slice none 0 0, .slice none 0 0, .slice none 0 0, .int .i64 0, .slice none 0 0, .slice none 0 0, .int .i64 0, .int .i64 0, .int .i64 0] 37) rfl rfl rfl ?_; intro y6 hy9 Ny9; have bz : Below v6.heap.size v6 y6 := (by rw [hy9]; exact below_cells (Nat.le_refl _) _ _ _ ((Below.refl _ _).alloc (Nat.le_refl _) _)); have M6 : Hid (Bx y6 (v2.heap.size) [.int .i64 167772160, .int .i64 24, .int .i64 167772161, .string ⟨#[2, 0, 0, 0, 0, 0]⟩, .string ⟨#[2, 0, 0, 0, 0, 255]⟩, .int .i64 16843009, .slice R2.x 1 R2.xc, .slice R2.y 2 R2.yc, .slice R2.ua 3 R2.uc, .slice R2.sa 0 R2.sc, .slice R2.fa 0 R2.fc, .slice R2.ra 0 R2.rc, .int .i64 1, .slice R2.la 0 R2.lc, .slice R2.ca 0 R2.cc, .int .i64 0, .int .i64 0, .int .i64 0]) := (M5.out.below bx).below bz; have N6 : Hid (Bx y6 (v1.heap.size) [.int .i64 167772160, .int .i64 24, .int .i64 167772161, .string ⟨#[2, 0, 0, 0, 0, 0]⟩, .string ⟨#[2, 0, 0, 0, 0, 255]⟩, .int .i64 16843009, .slice R1.x 1 R1.xc, .slice R1.y 2 R1.yc, .slice R1.ua 3 R1.uc, .slice R1.sa 0 R1.sc, .slice R1.fa 0 R1.fc, .slice R1.ra 0 R1.rc, .int .i64 1, .slice R1.la 0 R1.lc, .slice R1.ca 0 R1.cc, .int .i64 0, .int .i64 0, .int .i64 0]) := (N5.out.below bx).below bz; have O6 : Hid (OwnGt y6 w.heap.size R1 (plGx (plUx sl1 hh1 sl2 hh2 sl3 hh3)) X1) := (O5.out.now bx).now bz; have Q6 : Hid (MkdGt y6 (y1.heap.size) R2 (plGx (plUx sl1 hh1 sl2 hh2 sl3 hh3)) X2 1) := (Q5.out.now bx).now bz; have B6 : Hid (Below w.heap.size w y6) := (B5.out.trans (bx.mono B5.out.size)).trans (bz.mono (Nat.le_trans B5.out.size bx.size)); clear M5 N5 O5 Q5 B5; have L6 : Hid (Bx y6 (v6.heap.size) [.int .i64 167772160, .int .i64 24, .int .i64 167772161, .string ⟨#[2, 0, 0, 0, 0, 0]⟩, .string ⟨#[2, 0, 0, 0, 0, 255]⟩, .int .i64 16843009, .slice R6.x 1 R6.xc, .slice R6.y 2 R6.yc, .slice R6.ua 3 R6.uc, .slice R6.sa 0 R6.sc, .slice R6.fa 0 R6.fc, .slice R6.ra 0 R6.rc, .int .i64 1, .slice R6.la 0 R6.lc, .slice R6.ca 0 R6.cc, .int .i64 0, .int .i64 0, .int .i64 0]) := Ny9; have H6 : Hid (OwnGt y6 w5.heap.size R6 (plGx (plUx sl1 hh1 sl2 hh2 sl3 hh3)) X6) := o9.now bz; have hsy6 : y6.heap.size = v6.heap.size + 1 := (by rw [hy9, (heap_cellsA _ _ _).1]; simp); clear o9 bx bz hy9 Ny9) | (refine wpl_getT 37 rfl _ rfl (v6.heap.size) rfl (L6.out) _ Tryd.underlying37 rfl rfl ?_) | (refine wpl_getT 37 rfl _ rfl (v1.heap.size) rfl (N6.out) _ Tryd.underlying37 rfl rfl ?_) | fail)
  refine (HE.out R6 R1 _ (H6.out.gtR OK.out) (O6.out.gtR OK.out)).mono ?_
  rintro e w7 ⟨rfl, bx⟩
  have M7 : Hid (Bx w7 (v2.heap.size) [.int .i64 167772160, .int .i64 24, .int .i64 167772161, .string ⟨#[2, 0, 0, 0, 0, 0]⟩, .string ⟨#[2, 0, 0, 0, 0, 255]⟩, .int .i64 16843009, .slice R2.x 1 R2.xc, .slice R2.y 2 R2.yc, .slice R2.ua 3 R2.uc, .slice R2.sa 0 R2.sc, .slice R2.fa 0 R2.fc, .slice R2.ra 0 R2.rc, .int .i64 1, .slice R2.la 0 R2.lc, .slice R2.ca 0 R2.cc, .int .i64 0, .int .i64 0, .int .i64 0]) := M6.out.below bx
  have Q7 : Hid (MkdGt w7 (y1.heap.size) R2 (plGx (plUx sl1 hh1 sl2 hh2 sl3 hh3)) X2 1) := Q6.out.now bx
  have B7 : Hid (Below w.heap.size w w7) := B6.out.trans (bx.mono B6.out.size)
  clear bx M6 Q6 B6 L6 H6 O6 N6
  go_wp2_with (first | (refine wpl_getT 37 rfl _ rfl (v2.heap.size) rfl (M7.out) _ Tryd.underlying37 rfl rfl ?_) | fail)
  refine (HH.out _ Q7.out).mono ?_
  rintro e w8 ⟨rfl, bx⟩
  have XZ := B7.out.trans (bx.mono B7.out.size)
  go_wp2
  go_ret
  exact ⟨rfl, XZ⟩
theorem plM0 (w : World) : Calls Tryd.prog 28 #[.string ⟨#[97, 110, 110]⟩, .string ⟨#[97, 112, 112, 108, 101]⟩, .string ⟨#[103, 117, 101, 115, 116]⟩, .int .i64 600, .int .i64 3] w fun e w' => e = .returned (.agg #[.string ⟨#[97, 110, 110]⟩, .string plS1, .string plH1, .string ⟨#[103, 117, 101, 115, 116]⟩, .int .i64 600, .int .i64 3]) ∧ Below w.heap.size w w' := l08Make_any ⟨#[97, 110, 110]⟩ ⟨#[97, 112, 112, 108, 101]⟩ ⟨#[103, 117, 101, 115, 116]⟩ 600 3 w (by decide) (by decide)
theorem plN0 (w : World) (hK : KTab w) (hH : HTab w) : Calls Tryd.prog 12 #[.string ⟨#[97, 110, 110]⟩, .string ⟨#[97, 112, 112, 108, 101]⟩, .string ⟨#[103, 117, 101, 115, 116]⟩, .int .i64 600, .int .i64 3] w fun e w' => e = .returned (.tuple #[.agg #[.string ⟨#[97, 110, 110]⟩, .string plS1, .string plH1, .string ⟨#[103, 117, 101, 115, 116]⟩, .int .i64 600, .int .i64 3], .int .i64 0]) ∧ Below w.heap.size w w' := implMake_yes ⟨#[97, 110, 110]⟩ ⟨#[97, 112, 112, 108, 101]⟩ ⟨#[103, 117, 101, 115, 116]⟩ 600 3 w hK hH (by decide) (by decide) (by decide) (by decide)
theorem plM1 (w : World) : Calls Tryd.prog 28 #[.string ⟨#[98, 111, 98]⟩, .string ⟨#[98, 101, 114, 114, 121]⟩, .string ⟨#[115, 116, 97, 102, 102]⟩, .int .i64 100000, .int .i64 100] w fun e w' => e = .returned (.agg #[.string ⟨#[98, 111, 98]⟩, .string plS2, .string plH2, .string ⟨#[115, 116, 97, 102, 102]⟩, .int .i64 100000, .int .i64 100]) ∧ Below w.heap.size w w' := l08Make_any ⟨#[98, 111, 98]⟩ ⟨#[98, 101, 114, 114, 121]⟩ ⟨#[115, 116, 97, 102, 102]⟩ 100000 100 w (by decide) (by decide)
theorem plN1 (w : World) (hK : KTab w) (hH : HTab w) : Calls Tryd.prog 12 #[.string ⟨#[98, 111, 98]⟩, .string ⟨#[98, 101, 114, 114, 121]⟩, .string ⟨#[115, 116, 97, 102, 102]⟩, .int .i64 100000, .int .i64 100] w fun e w' => e = .returned (.tuple #[.agg #[.string ⟨#[98, 111, 98]⟩, .string plS2, .string plH2, .string ⟨#[115, 116, 97, 102, 102]⟩, .int .i64 100000, .int .i64 100], .int .i64 0]) ∧ Below w.heap.size w w' := implMake_yes ⟨#[98, 111, 98]⟩ ⟨#[98, 101, 114, 114, 121]⟩ ⟨#[115, 116, 97, 102, 102]⟩ 100000 100 w hK hH (by decide) (by decide) (by decide) (by decide)
theorem plM2 (w : World) : Calls Tryd.prog 28 #[.string ⟨#[116, 105, 99, 107, 101, 116]⟩, .string ⟨#[49, 50, 51, 52, 53]⟩, .string ⟨#[103, 117, 101, 115, 116]⟩, .int .i64 50, .int .i64 1] w fun e w' => e = .returned (.agg #[.string ⟨#[116, 105, 99, 107, 101, 116]⟩, .string plS3, .string plH3, .string ⟨#[103, 117, 101, 115, 116]⟩, .int .i64 50, .int .i64 1]) ∧ Below w.heap.size w w' := l08Make_any ⟨#[116, 105, 99, 107, 101, 116]⟩ ⟨#[49, 50, 51, 52, 53]⟩ ⟨#[103, 117, 101, 115, 116]⟩ 50 1 w (by decide) (by decide)
theorem plN2 (w : World) (hK : KTab w) (hH : HTab w) : Calls Tryd.prog 12 #[.string ⟨#[116, 105, 99, 107, 101, 116]⟩, .string ⟨#[49, 50, 51, 52, 53]⟩, .string ⟨#[103, 117, 101, 115, 116]⟩, .int .i64 50, .int .i64 1] w fun e w' => e = .returned (.tuple #[.agg #[.string ⟨#[116, 105, 99, 107, 101, 116]⟩, .string plS3, .string plH3, .string ⟨#[103, 117, 101, 115, 116]⟩, .int .i64 50, .int .i64 1], .int .i64 0]) ∧ Below w.heap.size w w' := implMake_yes ⟨#[116, 105, 99, 107, 101, 116]⟩ ⟨#[49, 50, 51, 52, 53]⟩ ⟨#[103, 117, 101, 115, 116]⟩ 50 1 w hK hH (by decide) (by decide) (by decide) (by decide)
theorem lawPlain_any (w : World) (hK : KTab w) (hH : HTab w) :
    Calls Tryd.prog 3 #[] w fun e w' => e = .returned (.bool true) ∧ Below w.heap.size w w' :=
  lawPlain_of plS1 plH1 plS2 plH2 plS3 plH3 w hK hH
    (fun w => specPlain_of plS1 plH1 plS2 plH2 plS3 plH3 w (fun w => l08Plain_of plS1 plH1 plS2 plH2 plS3 plH3 w plM0 plM1 plM2) plG_ok plG_sz)
    (fun w hK hH => implPlain_of plS1 plH1 plS2 plH2 plS3 plH3 w hK hH plN0 plN1 plN2) plG_ok plG_sz
end Go.Proofs.YtbeehlhcckndcaaDoor

namespace Go.Proofs.YtbeehlhcckndcaaDoor
open Go.RowKit
set_option linter.unusedVariables false
set_option maxRecDepth 20000
theorem gHB : Tryd.prog.globalNamed "loop.example/g00356/impl.hashBegin" = some 0 := by kernel_rfl
theorem tHB : (Tryd.prog.globals[0]?).map (·.type) = some 114 := by kernel_rfl
theorem gKW : Tryd.prog.globalNamed "loop.example/g00356/impl.roundWords" = some 1 := by kernel_rfl
theorem tKW : (Tryd.prog.globals[1]?).map (·.type) = some 127 := by kernel_rfl
theorem cWd : Tryd.prog.cellsOf 112 = 1 := by kernel_rfl
theorem cHB : Tryd.prog.cellsOf 114 = 8 := by kernel_rfl
theorem cKW : Tryd.prog.cellsOf 127 = 64 := by kernel_rfl
theorem hb_is : (Rows.laid_loop_example_g00356_impl_hashBegin : DataW Unit) = Lib.tabData .u32 hbs := by kernel_rfl
theorem kw_is : (Rows.laid_loop_example_g00356_impl_roundWords : DataW Unit) = Lib.tabData .u32 kks := by kernel_rfl
theorem tab_at (L : List Int) (n i : Nat) (hL : L.length = n) (hi : i < n) : (L.map fun z => Value.int .u32 z)[i]? = some (.int .u32 (L.getD i 0)) := by
  rw [List.getElem?_map, List.getElem?_eq_getElem (by omega), List.getD_eq_getElem?_getD, List.getElem?_eq_getElem (by omega)]
  rfl
theorem hash_of_laid {W : World} (h : laidMetH Tryd.prog [("loop.example/g00356/impl.hashBegin", Rows.laid_loop_example_g00356_impl_hashBegin), ("loop.example/g00356/impl.roundWords", Rows.laid_loop_example_g00356_impl_roundWords)] W) : KTab W ∧ HTab W := by
  rw [MakeChecks.laidMetH_plain _ _ _ (by kernel_rfl)] at h
  obtain ⟨ps, ⟨g0, t0, cs0, f0, p0, q0, hg0, ht0, hv0, hd0, ⟨g1, t1, cs1, f1, p1, q1, hg1, ht1, hv1, hd1, _⟩, _⟩, _⟩ := h
  obtain rfl := Option.some.inj (gHB.symm.trans hg0)
  obtain rfl := Option.some.inj (tHB.symm.trans ht0)
  obtain rfl := Option.some.inj (gKW.symm.trans hg1)
  obtain rfl := Option.some.inj (tKW.symm.trans ht1)
  rw [hb_is] at hd0
  rw [kw_is] at hd1
  have e0 := Lib.cells_of_tab Tryd.underlying114 Tryd.underlying112 cWd cHB hd0
  have e1 := Lib.cells_of_tab Tryd.underlying127 Tryd.underlying112 cWd cKW hd1
  refine ⟨fun i hi => ?_, fun i hi => ?_⟩
  · rw [World.var?_cell hg1 hv1 i, ← Array.getElem?_toList, e1]
    exact tab_at kks 64 i rfl hi
  · rw [World.var?_cell hg0 hv0 i, ← Array.getElem?_toList, e0]
    exact tab_at hbs 8 i rfl hi
end Go.Proofs.YtbeehlhcckndcaaDoor
