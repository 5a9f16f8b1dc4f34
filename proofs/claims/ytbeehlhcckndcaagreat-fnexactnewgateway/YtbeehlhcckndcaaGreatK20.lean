/- NewGateway of both sides, packed. The walk of laws.FnExactNewGateway. -/
import Derived.Test.YtbeehlhcckndcaaGreatK16
import Derived.Test.YtbeehlhcckndcaaGreatK14
import Derived.Test.YtbeehlhcckndcaaGreatK17
import Derived.Test.YtbeehlhcckndcaaGreatK19
import Derived.Test.YtbeehlhcckndcaaGreatK15
namespace Go.Proofs.YtbeehlhcckndcaaGreat
open Go.RowKit Go.PlainAid Go.Proofs.YtbeehlhcckndcaaGreat.Bt Go.Sort
set_option linter.unusedVariables false
set_option maxRecDepth 20000
def ngG (c:CfV) (h:HuV):GtV:=⟨c.ip,c.b,c.gt,c.gm,c.wm,c.rs,c.ps,c.ros,h.us,h.ss,h.fs,h.es,h.nx,[],[],0,0,0⟩
def ngA (C:CfA) (A:HuA):GtA:=⟨C.x,C.y,A.u,A.s,A.f,A.r,none,none,C.xc,C.yc,A.uc,A.sc,A.fc,A.rc,0,0⟩
noncomputable def ngC (c:CfV) (h:HuV):Int:=if okG c h=true then (if 0<h.ss.length then 12 else 0) else 1
noncomputable def ngV (c:CfV) (h:HuV):GtV:=if okG c h=true then (if 0<h.ss.length then zeroGt else ngG c h) else zeroGt
theorem ngG_ok {c:CfV} {h:HuV} (oc:CfOk c) (oh:HuOk h):GtOk (ngG c h):=⟨oc.ps,oc.ros,oh.us,oh.ss,oh.fs,oh.es,(fun _ h=>by cases h),(fun _ h=>by cases h)⟩
theorem ngG_sz {c:CfV} {h:HuV} (sc:CfSz c) (sh:HuSz h):GtS (ngG c h):=⟨sc.gm,sc.wm,sc.ps,sc.ros,sh.us,sh.ss,sh.fs,sh.es,Nat.zero_le _,Nat.zero_le _,sc.szr,sh.szu,sh.szs,sh.szf,(fun _ h=>by cases h),(fun _ h=>by cases h),sc.szt⟩
theorem ngV_ok {c:CfV} {h:HuV} (oc:CfOk c) (oh:HuOk h):GtOk (ngV c h):=by
 unfold ngV
 split
 ·split
  ·exact zeroGt_ok
  ·exact ngG_ok oc oh
 ·exact zeroGt_ok
theorem ngV_sz {c:CfV} {h:HuV} (sc:CfSz c) (sh:HuSz h):GtS (ngV c h):=by
 unfold ngV
 split
 ·split
  ·exact zeroGt_sz
  ·exact ngG_sz sc sh
 ·exact zeroGt_sz
theorem ngG_own {w:World} {B0 B1:Nat} {C:CfA} {c:CfV} {L:List RoX} {A:HuA} {h:HuV} (oc:OwnCf w B0 C c L) (oh:OwnHu w B1 A h):OwnGt w 0 (ngA C A) (ngG c h) L :=
 ⟨oc.ro,oc.ps.lower (Nat.zero_le _),oc.rs.lower (Nat.zero_le _),Own4.lower oh (Nat.zero_le _),OwnS.nil w 0,OwnS.nil w 0⟩
theorem OwnGt.rl {w:World} {B:Nat} {A:GtA} {g:GtV} {L:List RoX} (h:OwnGt w B A g L) (hs:GtS g):∀ x,x ∈ L→x.r.rs.length≤1048576:=fun x hx=>(hs.szr x.r (by rw [← h.ro];exact List.mem_map_of_mem hx)).2
set_option maxHeartbeats 4000000 in
theorem specNewGateway_any (C:CfA) (c:CfV) (L:List RoX) (A:HuA) (h:HuV) (B0 B1:Nat) (w:World) (oc:OwnCf w B0 C c L) (oh:OwnHu w B1 A h) (kc:CfOk c) (kh:HuOk h) (sc:CfSz c) (sh:HuSz h) :
  Calls Tryz.prog 7 #[.agg #[.int .i64 c.ip,.int .i64 c.b,.int .i64 c.gt,.string c.gm,.string c.wm,.int .i64 c.rs,.slice C.x c.ps.length C.xc,.slice C.y c.ros.length C.yc],.agg #[.slice A.u h.us.length A.uc,.slice A.s h.ss.length A.sc,.slice A.f h.fs.length A.fc,.slice A.r h.es.length A.rc,.int .i64 h.nx]] w fun e w'=>∃ (R:GtA) (X:List RoX),e=.returned (.tuple #[.agg #[.int .i64 (ngV c h).ip,.int .i64 (ngV c h).b,.int .i64 (ngV c h).gt,.string (ngV c h).gm,.string (ngV c h).wm,.int .i64 (ngV c h).rs,.slice R.x (ngV c h).ps.length R.xc,.slice R.y (ngV c h).ros.length R.yc,.slice R.ua (ngV c h).us.length R.uc,.slice R.sa (ngV c h).ss.length R.sc,.slice R.fa (ngV c h).fs.length R.fc,.slice R.ra (ngV c h).es.length R.rc,.int .i64 (ngV c h).nx,.slice R.la (ngV c h).fl.length R.lc,.slice R.ca (ngV c h).co.length R.cc,.int .i64 (ngV c h).nw,.int .i64 (ngV c h).dr,.int .i64 (ngV c h).sn],.int .i64 (ngC c h)])∧OwnGt w' w.heap.size R (ngV c h) X∧Below w.heap.size w w':=by
 have HG:Hid (∀ wx,Below w.heap.size w wx→Calls Tryz.prog 28 #[.agg #[.int .i64 c.ip,.int .i64 c.b,.int .i64 c.gt,.string c.gm,.string c.wm,.int .i64 c.rs,.slice C.x c.ps.length C.xc,.slice C.y c.ros.length C.yc],.agg #[.slice A.u h.us.length A.uc,.slice A.s h.ss.length A.sc,.slice A.f h.fs.length A.fc,.slice A.r h.es.length A.rc,.int .i64 h.nx]] wx fun e w'=>e=.returned (.bool (okG c h))∧Below wx.heap.size wx w'):=fun wx hb=>(specGuests_any _ _ _ _ _ _ _ _ _ _ _ _ c.ps c.ros _ _ _ _ _ _ _ _ _ _ _ _ h.us h.ss h.fs h.es h.nx wx ((oc.rw kc).below hb).ps rfl ((oc.rw kc).below hb).ros rfl sc.szr sc.ros ((oh.rw kh).below hb).us rfl ((oh.rw kh).below hb).ss rfl ((oh.rw kh).below hb).fs rfl ((oh.rw kh).below hb).es rfl (szu_of sh.szu (Int.le_refl _)) sh.us).mono fun e w' h=>⟨h.1,h.2.below⟩
 have HO:Hid (∀ wx,Below w.heap.size w wx→Calls Tryz.prog 29 #[.agg #[.int .i64 c.ip,.int .i64 c.b,.int .i64 c.gt,.string c.gm,.string c.wm,.int .i64 c.rs,.slice C.x c.ps.length C.xc,.slice C.y c.ros.length C.yc,.slice A.u h.us.length A.uc,.slice A.s h.ss.length A.sc,.slice A.f h.fs.length A.fc,.slice A.r h.es.length A.rc,.int .i64 h.nx,.slice none 0 0,.slice none 0 0,.int .i64 0,.int .i64 0,.int .i64 0]] wx fun e w'=>∃ (R:GtA) (X:List RoX),e=.returned (.agg #[.int .i64 c.ip,.int .i64 c.b,.int .i64 c.gt,.string c.gm,.string c.wm,.int .i64 c.rs,.slice R.x c.ps.length R.xc,.slice R.y c.ros.length R.yc,.slice R.ua h.us.length R.uc,.slice R.sa h.ss.length R.sc,.slice R.fa h.fs.length R.fc,.slice R.ra h.es.length R.rc,.int .i64 h.nx,.slice R.la 0 R.lc,.slice R.ca 0 R.cc,.int .i64 0,.int .i64 0,.int .i64 0])∧OwnGt w' wx.heap.size R (ngG c h) X∧Below wx.heap.size wx w'):=fun wx hb =>
  (l13Own_any (ngA C A) (ngG c h) L 0 wx ((ngG_own oc oh).now hb) (((ngG_own oc oh).now hb).gtR (ngG_ok kc kh)) (ngG_sz sc sh) ((ngG_own oc oh).rl (ngG_sz sc sh))).mono fun e w' ⟨px,ry,ux,sx,fx,ex,lx,cx,pc,rc,uc,sc,fc,ec,lc,cc,X,h1,h2,h3⟩=>⟨⟨px,ry,ux,sx,fx,ex,lx,cx,pc,rc,uc,sc,fc,ec,lc,cc⟩,X,h1,h2,h3⟩
 clear oc oh kc kh sc sh
 have P0:Hid (Bx (((w.alloc (.cells #[.int .i64 c.ip,.int .i64 c.b,.int .i64 c.gt,.string c.gm,.string c.wm,.int .i64 c.rs,.slice C.x c.ps.length C.xc,.slice C.y c.ros.length C.yc] 40)).alloc (.cells #[.slice A.u h.us.length A.uc,.slice A.s h.ss.length A.sc,.slice A.f h.fs.length A.fc,.slice A.r h.es.length A.rc,.int .i64 h.nx] 46)).alloc (.cells #[.int .i64 0,.int .i64 0,.int .i64 0,.string ⟨#[]⟩,.string ⟨#[]⟩,.int .i64 0,.slice none 0 0,.slice none 0 0,.slice none 0 0,.slice none 0 0,.slice none 0 0,.slice none 0 0,.int .i64 0,.slice none 0 0,.slice none 0 0,.int .i64 0,.int .i64 0,.int .i64 0] 50)) w.heap.size [.int .i64 c.ip,.int .i64 c.b,.int .i64 c.gt,.string c.gm,.string c.wm,.int .i64 c.rs,.slice C.x c.ps.length C.xc,.slice C.y c.ros.length C.yc]∧Bx (((w.alloc (.cells #[.int .i64 c.ip,.int .i64 c.b,.int .i64 c.gt,.string c.gm,.string c.wm,.int .i64 c.rs,.slice C.x c.ps.length C.xc,.slice C.y c.ros.length C.yc] 40)).alloc (.cells #[.slice A.u h.us.length A.uc,.slice A.s h.ss.length A.sc,.slice A.f h.fs.length A.fc,.slice A.r h.es.length A.rc,.int .i64 h.nx] 46)).alloc (.cells #[.int .i64 0,.int .i64 0,.int .i64 0,.string ⟨#[]⟩,.string ⟨#[]⟩,.int .i64 0,.slice none 0 0,.slice none 0 0,.slice none 0 0,.slice none 0 0,.slice none 0 0,.slice none 0 0,.int .i64 0,.slice none 0 0,.slice none 0 0,.int .i64 0,.int .i64 0,.int .i64 0] 50)) (w.heap.size+1) [.slice A.u h.us.length A.uc,.slice A.s h.ss.length A.sc,.slice A.f h.fs.length A.fc,.slice A.r h.es.length A.rc,.int .i64 h.nx]∧Bx (((w.alloc (.cells #[.int .i64 c.ip,.int .i64 c.b,.int .i64 c.gt,.string c.gm,.string c.wm,.int .i64 c.rs,.slice C.x c.ps.length C.xc,.slice C.y c.ros.length C.yc] 40)).alloc (.cells #[.slice A.u h.us.length A.uc,.slice A.s h.ss.length A.sc,.slice A.f h.fs.length A.fc,.slice A.r h.es.length A.rc,.int .i64 h.nx] 46)).alloc (.cells #[.int .i64 0,.int .i64 0,.int .i64 0,.string ⟨#[]⟩,.string ⟨#[]⟩,.int .i64 0,.slice none 0 0,.slice none 0 0,.slice none 0 0,.slice none 0 0,.slice none 0 0,.slice none 0 0,.int .i64 0,.slice none 0 0,.slice none 0 0,.int .i64 0,.int .i64 0,.int .i64 0] 50)) (w.heap.size+1+1) [.int .i64 0,.int .i64 0,.int .i64 0,.string ⟨#[]⟩,.string ⟨#[]⟩,.int .i64 0,.slice none 0 0,.slice none 0 0,.slice none 0 0,.slice none 0 0,.slice none 0 0,.slice none 0 0,.int .i64 0,.slice none 0 0,.slice none 0 0,.int .i64 0,.int .i64 0,.int .i64 0]∧Below w.heap.size w (((w.alloc (.cells #[.int .i64 c.ip,.int .i64 c.b,.int .i64 c.gt,.string c.gm,.string c.wm,.int .i64 c.rs,.slice C.x c.ps.length C.xc,.slice C.y c.ros.length C.yc] 40)).alloc (.cells #[.slice A.u h.us.length A.uc,.slice A.s h.ss.length A.sc,.slice A.f h.fs.length A.fc,.slice A.r h.es.length A.rc,.int .i64 h.nx] 46)).alloc (.cells #[.int .i64 0,.int .i64 0,.int .i64 0,.string ⟨#[]⟩,.string ⟨#[]⟩,.int .i64 0,.slice none 0 0,.slice none 0 0,.slice none 0 0,.slice none 0 0,.slice none 0 0,.slice none 0 0,.int .i64 0,.slice none 0 0,.slice none 0 0,.int .i64 0,.int .i64 0,.int .i64 0] 50))):=by
  refine ⟨((Bx.new w #[.int .i64 c.ip,.int .i64 c.b,.int .i64 c.gt,.string c.gm,.string c.wm,.int .i64 c.rs,.slice C.x c.ps.length C.xc,.slice C.y c.ros.length C.yc] 40).below ((Below.refl _ _).alloc (Nat.le_refl _) _)).below ((Below.refl _ _).alloc (Nat.le_refl _) _),?_,?_,(((Below.refl _ _).alloc (Nat.le_refl _) _).alloc (by simp) _).alloc (by simp;omega) _⟩
  ·have h:=Bx.new (w.alloc (.cells #[.int .i64 c.ip,.int .i64 c.b,.int .i64 c.gt,.string c.gm,.string c.wm,.int .i64 c.rs,.slice C.x c.ps.length C.xc,.slice C.y c.ros.length C.yc] 40)) #[.slice A.u h.us.length A.uc,.slice A.s h.ss.length A.sc,.slice A.f h.fs.length A.fc,.slice A.r h.es.length A.rc,.int .i64 h.nx] 46
   rw [World.size_alloc] at h
   exact h.below ((Below.refl _ _).alloc (Nat.le_refl _) _)
  ·have h:=Bx.new ((w.alloc (.cells #[.int .i64 c.ip,.int .i64 c.b,.int .i64 c.gt,.string c.gm,.string c.wm,.int .i64 c.rs,.slice C.x c.ps.length C.xc,.slice C.y c.ros.length C.yc] 40)).alloc (.cells #[.slice A.u h.us.length A.uc,.slice A.s h.ss.length A.sc,.slice A.f h.fs.length A.fc,.slice A.r h.es.length A.rc,.int .i64 h.nx] 46)) #[.int .i64 0,.int .i64 0,.int .i64 0,.string ⟨#[]⟩,.string ⟨#[]⟩,.int .i64 0,.slice none 0 0,.slice none 0 0,.slice none 0 0,.slice none 0 0,.slice none 0 0,.slice none 0 0,.int .i64 0,.slice none 0 0,.slice none 0 0,.int .i64 0,.int .i64 0,.int .i64 0] 50
   rw [World.size_alloc,World.size_alloc] at h
   exact h
 unfold ngC ngV
 by_cases hk0:¬ okG c h=true
 ·have hkf:okG c h=false:=by simpa using hk0
  rw [if_neg hk0,if_neg hk0]
  rw [hkf] at HG
  clear hkf hk0
  go_enter Tryz.func7,Tryz.ntmps7
  go_wp2_with (first | (refine wpl_getT 40 rfl _ rfl (w.heap.size) rfl P0.out.1 _ Tryz.underlying40 rfl rfl ?_) | (refine wpl_getT 46 rfl _ rfl (w.heap.size+1) rfl P0.out.2.1 _ Tryz.underlying46 rfl rfl ?_) | fail)
  refine (HG.out _ P0.out.2.2.2).mono ?_
  rintro e w1 ⟨rfl,bx⟩
  have P1:Hid (Bx w1 (w.heap.size+1+1) [.int .i64 0,.int .i64 0,.int .i64 0,.string ⟨#[]⟩,.string ⟨#[]⟩,.int .i64 0,.slice none 0 0,.slice none 0 0,.slice none 0 0,.slice none 0 0,.slice none 0 0,.slice none 0 0,.int .i64 0,.slice none 0 0,.slice none 0 0,.int .i64 0,.int .i64 0,.int .i64 0]∧Below w.heap.size w w1):=⟨P0.out.2.2.1.below bx,P0.out.2.2.2.trans (bx.mono P0.out.2.2.2.size)⟩
  clear bx P0 HG
  go_wp2_with (first | (refine wpl_putT 50 rfl _ _ rfl (w.heap.size+1+1) _ rfl rfl P1.out.1 rfl rfl rfl ?_;intro W5 hw5 R5;have B5:Hid (Below w.heap.size w W5):=(by rw [hw5];exact below_cells (by omega) _ _ _ P1.out.2);clear hw5) | fail)
  refine bodyPost_ret (v:=.tuple #[.agg #[.int .i64 0,.int .i64 0,.int .i64 0,.string ⟨#[]⟩,.string ⟨#[]⟩,.int .i64 0,.slice none 0 0,.slice none 0 0,.slice none 0 0,.slice none 0 0,.slice none 0 0,.slice none 0 0,.int .i64 0,.slice none 0 0,.slice none 0 0,.int .i64 0,.int .i64 0,.int .i64 0],.int .i64 1]) (results_cell2 Tryz.results7 (w.heap.size+1+1) rfl rfl R5 _ Tryz.underlying50 rfl rfl) rfl ?_
  exact ⟨zeroGA,rfl,⟨[],OwnGt.zero _ _⟩,B5.out⟩
 have hk:okG c h=true:=Classical.not_not.1 hk0
 rw [if_pos hk,if_pos hk]
 rw [hk] at HG
 clear hk hk0
 by_cases h1:0<h.ss.length
 ·rw [if_pos h1,if_pos h1]
  have h1z:decide ((0:Int)<(h.ss.length:Int))=true:=decide_eq_true (by omega)
  have h1n:decide (0<h.ss.length)=true:=decide_eq_true h1
  go_enter Tryz.func7,Tryz.ntmps7
  go_wp2_with (first | (refine wpl_getT 40 rfl _ rfl (w.heap.size) rfl P0.out.1 _ Tryz.underlying40 rfl rfl ?_) | (refine wpl_getT 46 rfl _ rfl (w.heap.size+1) rfl P0.out.2.1 _ Tryz.underlying46 rfl rfl ?_) | fail)
  refine (HG.out _ P0.out.2.2.2).mono ?_
  rintro e w1 ⟨rfl,bx⟩
  have P1:Hid (Bx w1 (w.heap.size+1+1) [.int .i64 0,.int .i64 0,.int .i64 0,.string ⟨#[]⟩,.string ⟨#[]⟩,.int .i64 0,.slice none 0 0,.slice none 0 0,.slice none 0 0,.slice none 0 0,.slice none 0 0,.slice none 0 0,.int .i64 0,.slice none 0 0,.slice none 0 0,.int .i64 0,.int .i64 0,.int .i64 0]∧Below w.heap.size w w1):=⟨P0.out.2.2.1.below bx,P0.out.2.2.2.trans (bx.mono P0.out.2.2.2.size)⟩
  have q1:=(P0.out.2.1.below bx).cell 1 rfl
  clear bx P0 HG
  go_wp2_with (first | (refine wpl_putT 50 rfl _ _ rfl (w.heap.size+1+1) _ rfl rfl P1.out.1 rfl rfl rfl ?_;intro W5 hw5 R5;have B5:Hid (Below w.heap.size w W5):=(by rw [hw5];exact below_cells (by omega) _ _ _ P1.out.2);clear hw5) | fail)
  refine bodyPost_ret (v:=.tuple #[.agg #[.int .i64 0,.int .i64 0,.int .i64 0,.string ⟨#[]⟩,.string ⟨#[]⟩,.int .i64 0,.slice none 0 0,.slice none 0 0,.slice none 0 0,.slice none 0 0,.slice none 0 0,.slice none 0 0,.int .i64 0,.slice none 0 0,.slice none 0 0,.int .i64 0,.int .i64 0,.int .i64 0],.int .i64 12]) (results_cell2 Tryz.results7 (w.heap.size+1+1) rfl rfl R5 _ Tryz.underlying50 rfl rfl) rfl ?_
  exact ⟨zeroGA,rfl,⟨[],OwnGt.zero _ _⟩,B5.out⟩
 rw [if_neg h1,if_neg h1]
 have h1z:decide ((0:Int)<(h.ss.length:Int))=false:=decide_eq_false (by omega)
 have h1n:decide (0<h.ss.length)=false:=decide_eq_false h1
 go_enter Tryz.func7,Tryz.ntmps7
 go_wp2_with (first | (refine wpl_getT 40 rfl _ rfl (w.heap.size) rfl P0.out.1 _ Tryz.underlying40 rfl rfl ?_) | (refine wpl_getT 46 rfl _ rfl (w.heap.size+1) rfl P0.out.2.1 _ Tryz.underlying46 rfl rfl ?_) | fail)
 refine (HG.out _ P0.out.2.2.2).mono ?_
 rintro e w1 ⟨rfl,bx⟩
 have P1:Hid (Bx w1 w.heap.size [.int .i64 c.ip,.int .i64 c.b,.int .i64 c.gt,.string c.gm,.string c.wm,.int .i64 c.rs,.slice C.x c.ps.length C.xc,.slice C.y c.ros.length C.yc]∧Bx w1 (w.heap.size+1) [.slice A.u h.us.length A.uc,.slice A.s h.ss.length A.sc,.slice A.f h.fs.length A.fc,.slice A.r h.es.length A.rc,.int .i64 h.nx]∧Bx w1 (w.heap.size+1+1) [.int .i64 0,.int .i64 0,.int .i64 0,.string ⟨#[]⟩,.string ⟨#[]⟩,.int .i64 0,.slice none 0 0,.slice none 0 0,.slice none 0 0,.slice none 0 0,.slice none 0 0,.slice none 0 0,.int .i64 0,.slice none 0 0,.slice none 0 0,.int .i64 0,.int .i64 0,.int .i64 0]∧Below w.heap.size w w1):=⟨P0.out.1.below bx,P0.out.2.1.below bx,P0.out.2.2.1.below bx,P0.out.2.2.2.trans (bx.mono P0.out.2.2.2.size)⟩
 have q1:=P1.out.2.1.cell 1 rfl
 clear bx P0 HG
 go_wp2_with (first | (refine wpl_getT 40 rfl _ rfl (w.heap.size) rfl P1.out.1 _ Tryz.underlying40 rfl rfl ?_) | (refine wpl_getT 46 rfl _ rfl (w.heap.size+1) rfl P1.out.2.1 _ Tryz.underlying46 rfl rfl ?_) | fail)
 refine (HO.out _ P1.out.2.2.2).mono ?_
 rintro e w2 ⟨R,X,rfl,o2,bx⟩
 have O2:Hid (OwnGt w2 w1.heap.size R (ngG c h) X):=o2
 have P2:Hid (Bx w2 (w.heap.size+1+1) [.int .i64 0,.int .i64 0,.int .i64 0,.string ⟨#[]⟩,.string ⟨#[]⟩,.int .i64 0,.slice none 0 0,.slice none 0 0,.slice none 0 0,.slice none 0 0,.slice none 0 0,.slice none 0 0,.int .i64 0,.slice none 0 0,.slice none 0 0,.int .i64 0,.int .i64 0,.int .i64 0]∧Below w.heap.size w w2∧w.heap.size+1+1<w1.heap.size):=⟨P1.out.2.2.1.below bx,P1.out.2.2.2.trans (bx.mono P1.out.2.2.2.size),World.block_lt_of_cell? w1 ⟨w.heap.size+1+1,0,none⟩ (P1.out.2.2.1.cell 0 rfl)⟩
 clear o2 bx P1 HO
 go_wp2_with (first | (refine wpl_putT 50 rfl _ _ rfl (w.heap.size+1+1) _ rfl rfl P2.out.1 rfl rfl rfl ?_;intro W5 hw5 R5;have B5:Hid (Below w.heap.size w W5):=(by rw [hw5];exact below_cells (by omega) _ _ _ P2.out.2.1);have O5:Hid (OwnGt W5 w.heap.size R (ngG c h) X):=(by rw [hw5];exact (OwnGt.keep O2.out (fun b hb=>(heap_cellsA _ _ _).2 b (by have:=(O2.out.lt b hb).1;have:=P2.out.2.2;omega))).lower (by have:=P2.out.2.2;omega));clear hw5) | fail)
 refine bodyPost_ret (v:=.tuple #[.agg #[.int .i64 c.ip,.int .i64 c.b,.int .i64 c.gt,.string c.gm,.string c.wm,.int .i64 c.rs,.slice R.x c.ps.length R.xc,.slice R.y c.ros.length R.yc,.slice R.ua h.us.length R.uc,.slice R.sa h.ss.length R.sc,.slice R.fa h.fs.length R.fc,.slice R.ra h.es.length R.rc,.int .i64 h.nx,.slice R.la 0 R.lc,.slice R.ca 0 R.cc,.int .i64 0,.int .i64 0,.int .i64 0],.int .i64 0]) (results_cell2 Tryz.results7 (w.heap.size+1+1) rfl rfl R5 _ Tryz.underlying50 rfl rfl) rfl ?_
 exact ⟨R,rfl,⟨X,O5.out⟩,B5.out⟩
set_option maxHeartbeats 4000000 in
theorem implNewGateway_any (C:CfA) (c:CfV) (L:List RoX) (A:HuA) (h:HuV) (B0 B1:Nat) (w:World) (oc:OwnCf w B0 C c L) (oh:OwnHu w B1 A h) (kc:CfOk c) (kh:HuOk h) (sc:CfSz c) (sh:HuSz h) :
  Calls Tryz.prog 10 #[.agg #[.int .i64 c.ip,.int .i64 c.b,.int .i64 c.gt,.string c.gm,.string c.wm,.int .i64 c.rs,.slice C.x c.ps.length C.xc,.slice C.y c.ros.length C.yc],.agg #[.slice A.u h.us.length A.uc,.slice A.s h.ss.length A.sc,.slice A.f h.fs.length A.fc,.slice A.r h.es.length A.rc,.int .i64 h.nx]] w fun e w'=>∃ (R:GtA) (X:List RoX),e=.returned (.tuple #[.agg #[.int .i64 (ngV c h).ip,.int .i64 (ngV c h).b,.int .i64 (ngV c h).gt,.string (ngV c h).gm,.string (ngV c h).wm,.int .i64 (ngV c h).rs,.slice R.x (ngV c h).ps.length R.xc,.slice R.y (ngV c h).ros.length R.yc,.slice R.ua (ngV c h).us.length R.uc,.slice R.sa (ngV c h).ss.length R.sc,.slice R.fa (ngV c h).fs.length R.fc,.slice R.ra (ngV c h).es.length R.rc,.int .i64 (ngV c h).nx,.slice R.la (ngV c h).fl.length R.lc,.slice R.ca (ngV c h).co.length R.cc,.int .i64 (ngV c h).nw,.int .i64 (ngV c h).dr,.int .i64 (ngV c h).sn],.int .i64 (ngC c h)])∧OwnGt w' w.heap.size R (ngV c h) X∧Below w.heap.size w w':=by
 have HG:Hid (∀ wx,Below w.heap.size w wx→Calls Tryz.prog 37 #[.agg #[.int .i64 c.ip,.int .i64 c.b,.int .i64 c.gt,.string c.gm,.string c.wm,.int .i64 c.rs,.slice C.x c.ps.length C.xc,.slice C.y c.ros.length C.yc],.agg #[.slice A.u h.us.length A.uc,.slice A.s h.ss.length A.sc,.slice A.f h.fs.length A.fc,.slice A.r h.es.length A.rc,.int .i64 h.nx]] wx fun e w'=>e=.returned (.bool (okG c h))∧Below wx.heap.size wx w'):=fun wx hb=>implGuests_any _ _ _ _ _ _ _ _ _ _ _ _ c.ps c.ros _ _ _ _ _ _ _ _ _ _ _ _ h.us h.ss h.fs h.es h.nx wx ((oc.rw kc).below hb).ps rfl ((oc.rw kc).below hb).ros rfl sc.szr sc.ros ((oh.rw kh).below hb).us rfl ((oh.rw kh).below hb).ss rfl ((oh.rw kh).below hb).fs rfl ((oh.rw kh).below hb).es rfl (szu_of sh.szu (Int.le_refl _)) sh.us
 have HO:Hid (∀ wx,Below w.heap.size w wx→Calls Tryz.prog 38 #[.agg #[.int .i64 c.ip,.int .i64 c.b,.int .i64 c.gt,.string c.gm,.string c.wm,.int .i64 c.rs,.slice C.x c.ps.length C.xc,.slice C.y c.ros.length C.yc,.slice A.u h.us.length A.uc,.slice A.s h.ss.length A.sc,.slice A.f h.fs.length A.fc,.slice A.r h.es.length A.rc,.int .i64 h.nx,.slice none 0 0,.slice none 0 0,.int .i64 0,.int .i64 0,.int .i64 0]] wx fun e w'=>∃ (R:GtA) (X:List RoX),e=.returned (.agg #[.int .i64 c.ip,.int .i64 c.b,.int .i64 c.gt,.string c.gm,.string c.wm,.int .i64 c.rs,.slice R.x c.ps.length R.xc,.slice R.y c.ros.length R.yc,.slice R.ua h.us.length R.uc,.slice R.sa h.ss.length R.sc,.slice R.fa h.fs.length R.fc,.slice R.ra h.es.length R.rc,.int .i64 h.nx,.slice R.la 0 R.lc,.slice R.ca 0 R.cc,.int .i64 0,.int .i64 0,.int .i64 0])∧OwnGt w' wx.heap.size R (ngG c h) X∧Below wx.heap.size wx w'):=fun wx hb =>
  (copyGateway_any (ngA C A) (ngG c h) L 0 wx ((ngG_own oc oh).now hb) (((ngG_own oc oh).now hb).gtR (ngG_ok kc kh)) (ngG_sz sc sh) ((ngG_own oc oh).rl (ngG_sz sc sh))).mono fun e w' ⟨px,ry,ux,sx,fx,ex,lx,cx,pc,rc,uc,sc,fc,ec,lc,cc,X,h1,h2,h3⟩=>⟨⟨px,ry,ux,sx,fx,ex,lx,cx,pc,rc,uc,sc,fc,ec,lc,cc⟩,X,h1,h2,h3⟩
 clear oc oh kc kh sc sh
 have P0:Hid (Bx (((w.alloc (.cells #[.int .i64 c.ip,.int .i64 c.b,.int .i64 c.gt,.string c.gm,.string c.wm,.int .i64 c.rs,.slice C.x c.ps.length C.xc,.slice C.y c.ros.length C.yc] 40)).alloc (.cells #[.slice A.u h.us.length A.uc,.slice A.s h.ss.length A.sc,.slice A.f h.fs.length A.fc,.slice A.r h.es.length A.rc,.int .i64 h.nx] 46)).alloc (.cells #[.int .i64 0,.int .i64 0,.int .i64 0,.string ⟨#[]⟩,.string ⟨#[]⟩,.int .i64 0,.slice none 0 0,.slice none 0 0,.slice none 0 0,.slice none 0 0,.slice none 0 0,.slice none 0 0,.int .i64 0,.slice none 0 0,.slice none 0 0,.int .i64 0,.int .i64 0,.int .i64 0] 50)) w.heap.size [.int .i64 c.ip,.int .i64 c.b,.int .i64 c.gt,.string c.gm,.string c.wm,.int .i64 c.rs,.slice C.x c.ps.length C.xc,.slice C.y c.ros.length C.yc]∧Bx (((w.alloc (.cells #[.int .i64 c.ip,.int .i64 c.b,.int .i64 c.gt,.string c.gm,.string c.wm,.int .i64 c.rs,.slice C.x c.ps.length C.xc,.slice C.y c.ros.length C.yc] 40)).alloc (.cells #[.slice A.u h.us.length A.uc,.slice A.s h.ss.length A.sc,.slice A.f h.fs.length A.fc,.slice A.r h.es.length A.rc,.int .i64 h.nx] 46)).alloc (.cells #[.int .i64 0,.int .i64 0,.int .i64 0,.string ⟨#[]⟩,.string ⟨#[]⟩,.int .i64 0,.slice none 0 0,.slice none 0 0,.slice none 0 0,.slice none 0 0,.slice none 0 0,.slice none 0 0,.int .i64 0,.slice none 0 0,.slice none 0 0,.int .i64 0,.int .i64 0,.int .i64 0] 50)) (w.heap.size+1) [.slice A.u h.us.length A.uc,.slice A.s h.ss.length A.sc,.slice A.f h.fs.length A.fc,.slice A.r h.es.length A.rc,.int .i64 h.nx]∧Bx (((w.alloc (.cells #[.int .i64 c.ip,.int .i64 c.b,.int .i64 c.gt,.string c.gm,.string c.wm,.int .i64 c.rs,.slice C.x c.ps.length C.xc,.slice C.y c.ros.length C.yc] 40)).alloc (.cells #[.slice A.u h.us.length A.uc,.slice A.s h.ss.length A.sc,.slice A.f h.fs.length A.fc,.slice A.r h.es.length A.rc,.int .i64 h.nx] 46)).alloc (.cells #[.int .i64 0,.int .i64 0,.int .i64 0,.string ⟨#[]⟩,.string ⟨#[]⟩,.int .i64 0,.slice none 0 0,.slice none 0 0,.slice none 0 0,.slice none 0 0,.slice none 0 0,.slice none 0 0,.int .i64 0,.slice none 0 0,.slice none 0 0,.int .i64 0,.int .i64 0,.int .i64 0] 50)) (w.heap.size+1+1) [.int .i64 0,.int .i64 0,.int .i64 0,.string ⟨#[]⟩,.string ⟨#[]⟩,.int .i64 0,.slice none 0 0,.slice none 0 0,.slice none 0 0,.slice none 0 0,.slice none 0 0,.slice none 0 0,.int .i64 0,.slice none 0 0,.slice none 0 0,.int .i64 0,.int .i64 0,.int .i64 0]∧Below w.heap.size w (((w.alloc (.cells #[.int .i64 c.ip,.int .i64 c.b,.int .i64 c.gt,.string c.gm,.string c.wm,.int .i64 c.rs,.slice C.x c.ps.length C.xc,.slice C.y c.ros.length C.yc] 40)).alloc (.cells #[.slice A.u h.us.length A.uc,.slice A.s h.ss.length A.sc,.slice A.f h.fs.length A.fc,.slice A.r h.es.length A.rc,.int .i64 h.nx] 46)).alloc (.cells #[.int .i64 0,.int .i64 0,.int .i64 0,.string ⟨#[]⟩,.string ⟨#[]⟩,.int .i64 0,.slice none 0 0,.slice none 0 0,.slice none 0 0,.slice none 0 0,.slice none 0 0,.slice none 0 0,.int .i64 0,.slice none 0 0,.slice none 0 0,.int .i64 0,.int .i64 0,.int .i64 0] 50))):=by
  refine ⟨((Bx.new w #[.int .i64 c.ip,.int .i64 c.b,.int .i64 c.gt,.string c.gm,.string c.wm,.int .i64 c.rs,.slice C.x c.ps.length C.xc,.slice C.y c.ros.length C.yc] 40).below ((Below.refl _ _).alloc (Nat.le_refl _) _)).below ((Below.refl _ _).alloc (Nat.le_refl _) _),?_,?_,(((Below.refl _ _).alloc (Nat.le_refl _) _).alloc (by simp) _).alloc (by simp;omega) _⟩
  ·have h:=Bx.new (w.alloc (.cells #[.int .i64 c.ip,.int .i64 c.b,.int .i64 c.gt,.string c.gm,.string c.wm,.int .i64 c.rs,.slice C.x c.ps.length C.xc,.slice C.y c.ros.length C.yc] 40)) #[.slice A.u h.us.length A.uc,.slice A.s h.ss.length A.sc,.slice A.f h.fs.length A.fc,.slice A.r h.es.length A.rc,.int .i64 h.nx] 46
   rw [World.size_alloc] at h
   exact h.below ((Below.refl _ _).alloc (Nat.le_refl _) _)
  ·have h:=Bx.new ((w.alloc (.cells #[.int .i64 c.ip,.int .i64 c.b,.int .i64 c.gt,.string c.gm,.string c.wm,.int .i64 c.rs,.slice C.x c.ps.length C.xc,.slice C.y c.ros.length C.yc] 40)).alloc (.cells #[.slice A.u h.us.length A.uc,.slice A.s h.ss.length A.sc,.slice A.f h.fs.length A.fc,.slice A.r h.es.length A.rc,.int .i64 h.nx] 46)) #[.int .i64 0,.int .i64 0,.int .i64 0,.string ⟨#[]⟩,.string ⟨#[]⟩,.int .i64 0,.slice none 0 0,.slice none 0 0,.slice none 0 0,.slice none 0 0,.slice none 0 0,.slice none 0 0,.int .i64 0,.slice none 0 0,.slice none 0 0,.int .i64 0,.int .i64 0,.int .i64 0] 50
   rw [World.size_alloc,World.size_alloc] at h
   exact h
 unfold ngC ngV
 by_cases hk0:¬ okG c h=true
 ·have hkf:okG c h=false:=by simpa using hk0
  rw [if_neg hk0,if_neg hk0]
  rw [hkf] at HG
  clear hkf hk0
  go_enter Tryz.func10,Tryz.ntmps10
  go_wp2_with (first | (refine wpl_getT 40 rfl _ rfl (w.heap.size) rfl P0.out.1 _ Tryz.underlying40 rfl rfl ?_) | (refine wpl_getT 46 rfl _ rfl (w.heap.size+1) rfl P0.out.2.1 _ Tryz.underlying46 rfl rfl ?_) | fail)
  refine (HG.out _ P0.out.2.2.2).mono ?_
  rintro e w1 ⟨rfl,bx⟩
  have P1:Hid (Bx w1 (w.heap.size+1+1) [.int .i64 0,.int .i64 0,.int .i64 0,.string ⟨#[]⟩,.string ⟨#[]⟩,.int .i64 0,.slice none 0 0,.slice none 0 0,.slice none 0 0,.slice none 0 0,.slice none 0 0,.slice none 0 0,.int .i64 0,.slice none 0 0,.slice none 0 0,.int .i64 0,.int .i64 0,.int .i64 0]∧Below w.heap.size w w1):=⟨P0.out.2.2.1.below bx,P0.out.2.2.2.trans (bx.mono P0.out.2.2.2.size)⟩
  clear bx P0 HG
  go_wp2_with (first | (refine wpl_putT 50 rfl _ _ rfl (w.heap.size+1+1) _ rfl rfl P1.out.1 rfl rfl rfl ?_;intro W5 hw5 R5;have B5:Hid (Below w.heap.size w W5):=(by rw [hw5];exact below_cells (by omega) _ _ _ P1.out.2);clear hw5) | fail)
  refine bodyPost_ret (v:=.tuple #[.agg #[.int .i64 0,.int .i64 0,.int .i64 0,.string ⟨#[]⟩,.string ⟨#[]⟩,.int .i64 0,.slice none 0 0,.slice none 0 0,.slice none 0 0,.slice none 0 0,.slice none 0 0,.slice none 0 0,.int .i64 0,.slice none 0 0,.slice none 0 0,.int .i64 0,.int .i64 0,.int .i64 0],.int .i64 1]) (results_cell2 Tryz.results10 (w.heap.size+1+1) rfl rfl R5 _ Tryz.underlying50 rfl rfl) rfl ?_
  exact ⟨zeroGA,rfl,⟨[],OwnGt.zero _ _⟩,B5.out⟩
 have hk:okG c h=true:=Classical.not_not.1 hk0
 rw [if_pos hk,if_pos hk]
 rw [hk] at HG
 clear hk hk0
 by_cases h1:0<h.ss.length
 ·rw [if_pos h1,if_pos h1]
  have h1z:decide ((0:Int)<(h.ss.length:Int))=true:=decide_eq_true (by omega)
  have h1n:decide (0<h.ss.length)=true:=decide_eq_true h1
  go_enter Tryz.func10,Tryz.ntmps10
  go_wp2_with (first | (refine wpl_getT 40 rfl _ rfl (w.heap.size) rfl P0.out.1 _ Tryz.underlying40 rfl rfl ?_) | (refine wpl_getT 46 rfl _ rfl (w.heap.size+1) rfl P0.out.2.1 _ Tryz.underlying46 rfl rfl ?_) | fail)
  refine (HG.out _ P0.out.2.2.2).mono ?_
  rintro e w1 ⟨rfl,bx⟩
  have P1:Hid (Bx w1 (w.heap.size+1+1) [.int .i64 0,.int .i64 0,.int .i64 0,.string ⟨#[]⟩,.string ⟨#[]⟩,.int .i64 0,.slice none 0 0,.slice none 0 0,.slice none 0 0,.slice none 0 0,.slice none 0 0,.slice none 0 0,.int .i64 0,.slice none 0 0,.slice none 0 0,.int .i64 0,.int .i64 0,.int .i64 0]∧Below w.heap.size w w1):=⟨P0.out.2.2.1.below bx,P0.out.2.2.2.trans (bx.mono P0.out.2.2.2.size)⟩
  have q1:=(P0.out.2.1.below bx).cell 1 rfl
  clear bx P0 HG
  go_wp2_with (first | (refine wpl_putT 50 rfl _ _ rfl (w.heap.size+1+1) _ rfl rfl P1.out.1 rfl rfl rfl ?_;intro W5 hw5 R5;have B5:Hid (Below w.heap.size w W5):=(by rw [hw5];exact below_cells (by omega) _ _ _ P1.out.2);clear hw5) | fail)
  refine bodyPost_ret (v:=.tuple #[.agg #[.int .i64 0,.int .i64 0,.int .i64 0,.string ⟨#[]⟩,.string ⟨#[]⟩,.int .i64 0,.slice none 0 0,.slice none 0 0,.slice none 0 0,.slice none 0 0,.slice none 0 0,.slice none 0 0,.int .i64 0,.slice none 0 0,.slice none 0 0,.int .i64 0,.int .i64 0,.int .i64 0],.int .i64 12]) (results_cell2 Tryz.results10 (w.heap.size+1+1) rfl rfl R5 _ Tryz.underlying50 rfl rfl) rfl ?_
  exact ⟨zeroGA,rfl,⟨[],OwnGt.zero _ _⟩,B5.out⟩
 rw [if_neg h1,if_neg h1]
 have h1z:decide ((0:Int)<(h.ss.length:Int))=false:=decide_eq_false (by omega)
 have h1n:decide (0<h.ss.length)=false:=decide_eq_false h1
 go_enter Tryz.func10,Tryz.ntmps10
 go_wp2_with (first | (refine wpl_getT 40 rfl _ rfl (w.heap.size) rfl P0.out.1 _ Tryz.underlying40 rfl rfl ?_) | (refine wpl_getT 46 rfl _ rfl (w.heap.size+1) rfl P0.out.2.1 _ Tryz.underlying46 rfl rfl ?_) | fail)
 refine (HG.out _ P0.out.2.2.2).mono ?_
 rintro e w1 ⟨rfl,bx⟩
 have P1:Hid (Bx w1 w.heap.size [.int .i64 c.ip,.int .i64 c.b,.int .i64 c.gt,.string c.gm,.string c.wm,.int .i64 c.rs,.slice C.x c.ps.length C.xc,.slice C.y c.ros.length C.yc]∧Bx w1 (w.heap.size+1) [.slice A.u h.us.length A.uc,.slice A.s h.ss.length A.sc,.slice A.f h.fs.length A.fc,.slice A.r h.es.length A.rc,.int .i64 h.nx]∧Bx w1 (w.heap.size+1+1) [.int .i64 0,.int .i64 0,.int .i64 0,.string ⟨#[]⟩,.string ⟨#[]⟩,.int .i64 0,.slice none 0 0,.slice none 0 0,.slice none 0 0,.slice none 0 0,.slice none 0 0,.slice none 0 0,.int .i64 0,.slice none 0 0,.slice none 0 0,.int .i64 0,.int .i64 0,.int .i64 0]∧Below w.heap.size w w1):=⟨P0.out.1.below bx,P0.out.2.1.below bx,P0.out.2.2.1.below bx,P0.out.2.2.2.trans (bx.mono P0.out.2.2.2.size)⟩
 have q1:=P1.out.2.1.cell 1 rfl
 clear bx P0 HG
 go_wp2_with (first | (refine wpl_getT 40 rfl _ rfl (w.heap.size) rfl P1.out.1 _ Tryz.underlying40 rfl rfl ?_) | (refine wpl_getT 46 rfl _ rfl (w.heap.size+1) rfl P1.out.2.1 _ Tryz.underlying46 rfl rfl ?_) | fail)
 refine (HO.out _ P1.out.2.2.2).mono ?_
 rintro e w2 ⟨R,X,rfl,o2,bx⟩
 have O2:Hid (OwnGt w2 w1.heap.size R (ngG c h) X):=o2
 have P2:Hid (Bx w2 (w.heap.size+1+1) [.int .i64 0,.int .i64 0,.int .i64 0,.string ⟨#[]⟩,.string ⟨#[]⟩,.int .i64 0,.slice none 0 0,.slice none 0 0,.slice none 0 0,.slice none 0 0,.slice none 0 0,.slice none 0 0,.int .i64 0,.slice none 0 0,.slice none 0 0,.int .i64 0,.int .i64 0,.int .i64 0]∧Below w.heap.size w w2∧w.heap.size+1+1<w1.heap.size):=⟨P1.out.2.2.1.below bx,P1.out.2.2.2.trans (bx.mono P1.out.2.2.2.size),World.block_lt_of_cell? w1 ⟨w.heap.size+1+1,0,none⟩ (P1.out.2.2.1.cell 0 rfl)⟩
 clear o2 bx P1 HO
 go_wp2_with (first | (refine wpl_putT 50 rfl _ _ rfl (w.heap.size+1+1) _ rfl rfl P2.out.1 rfl rfl rfl ?_;intro W5 hw5 R5;have B5:Hid (Below w.heap.size w W5):=(by rw [hw5];exact below_cells (by omega) _ _ _ P2.out.2.1);have O5:Hid (OwnGt W5 w.heap.size R (ngG c h) X):=(by rw [hw5];exact (OwnGt.keep O2.out (fun b hb=>(heap_cellsA _ _ _).2 b (by have:=(O2.out.lt b hb).1;have:=P2.out.2.2;omega))).lower (by have:=P2.out.2.2;omega));clear hw5) | fail)
 refine bodyPost_ret (v:=.tuple #[.agg #[.int .i64 c.ip,.int .i64 c.b,.int .i64 c.gt,.string c.gm,.string c.wm,.int .i64 c.rs,.slice R.x c.ps.length R.xc,.slice R.y c.ros.length R.yc,.slice R.ua h.us.length R.uc,.slice R.sa h.ss.length R.sc,.slice R.fa h.fs.length R.fc,.slice R.ra h.es.length R.rc,.int .i64 h.nx,.slice R.la 0 R.lc,.slice R.ca 0 R.cc,.int .i64 0,.int .i64 0,.int .i64 0],.int .i64 0]) (results_cell2 Tryz.results10 (w.heap.size+1+1) rfl rfl R5 _ Tryz.underlying50 rfl rfl) rfl ?_
 exact ⟨R,rfl,⟨X,O5.out⟩,B5.out⟩
theorem lawNewGateway_any (C:CfA) (c:CfV) (A:HuA) (h:HuV) (w:World) (rC:CfR w C c) (bC:CfBd C c) (rA:HuR w A h) (bA:HuBd A h) :
  Calls Tryz.prog 3 #[.agg #[.int .i64 c.ip,.int .i64 c.b,.int .i64 c.gt,.string c.gm,.string c.wm,.int .i64 c.rs,.slice C.x c.ps.length C.xc,.slice C.y c.ros.length C.yc],.agg #[.slice A.u h.us.length A.uc,.slice A.s h.ss.length A.sc,.slice A.f h.fs.length A.fc,.slice A.r h.es.length A.rc,.int .i64 h.nx]] w fun e w'=>e=.returned (.bool true)∧Below w.heap.size w w' :=
 lawNewGateway_of C c A h (ngV c h) (ngC c h) w rC bC rA bA (ngV_ok rC.ok rA.ok) (fun sc sh=>ngV_sz sc sh)
  (fun sc sh C' L A' B0 B1 w oC oA=>specNewGateway_any C' c L A' h B0 B1 w oC oA rC.ok rA.ok sc sh)
  (fun sc sh C' L A' B0 B1 w oC oA=>implNewGateway_any C' c L A' h B0 B1 w oC oA rC.ok rA.ok sc sh)
end Go.Proofs.YtbeehlhcckndcaaGreat
