/- Gateways of one's own: read again, kept where nothing of them is written, and the empty one. Gateways copied by the laws. Gateways copied by the laws into rows of one's own. Gateways compared by the laws. A gateway marked. Marked roles held. A marked configuration held. A marked gateway held. What the laws do with gateways, in packed words. Append within a region walked by resources: the row that comes lies where the elder one lay, or in a new block. Nothing of the program is used. Append within a region walked by resources (RelW): the row that comes takes the elder one over, or lies in a new block. Nothing of the program is used. Boxes: a struct read whole by an operation with a guard that lets it run. Nothing of the program is used. -/
import Derived.Test.YtbeehlhcckndcaaGreatK11
import Derived.Test.YtbeehlhcckndcaaGreatK13
import Derived.Test.YtbeehlhcckndcaaGreatK8
import Derived.Test.YtbeehlhcckndcaaGreatK12
import Derived.Test.YtbeehlhcckndcaaGreatK1
import Derived.Test.YtbeehlhcckndcaaGreatK6
import Derived.Test.YtbeehlhcckndcaaGreatK0
import Derived.Laws.AppendOwnNone
namespace Go.Proofs.YtbeehlhcckndcaaGreat
open Go.RowKit Go.PlainAid Go.Proofs.YtbeehlhcckndcaaGreat.Bt Go.Sort
set_option linter.unusedVariables false
set_option maxRecDepth 20000
structure GtOk (g:GtV):Prop where
 ps:∀ x,x ∈ g.ps→PlRok x
 ros:∀ x,x ∈ g.ros→RoOk x
 us:∀ x,x ∈ g.us→UsRok x
 ss:∀ x,x ∈ g.ss→SeRok x
 fs:∀ x,x ∈ g.fs→FaRok x
 es:∀ x,x ∈ g.es→ReRok x
 fl:∀ x,x ∈ g.fl→FlRok x
 co:∀ x,x ∈ g.co→CnRok x
theorem GtR.ok {w:World} {A:GtA} {g:GtV} (h:GtR w A g):GtOk g :=
 ⟨rw_okG (c:=pv) (ok:=PlRok) h.ps,rw_okR h.ros,rw_okG (c:=uvG) (ok:=UsRok) h.us,rw_okG (c:=svG) (ok:=SeRok) h.ss,rw_okG (c:=fvG) (ok:=FaRok) h.fs,rw_okG (c:=evG) (ok:=ReRok) h.es,rw_okG (c:=wvG) (ok:=FlRok) h.fl,rw_okG (c:=cnG) (ok:=CnRok) h.co⟩
theorem OwnGt.gtR {w:World} {B:Nat} {A:GtA} {g:GtV} {L:List RoX} (h:OwnGt w B A g L) (hk:GtOk g):GtR w A g:=by
 refine ⟨h.ps.rw (ok:=PlRok) pv_len hk.ps,?_,h.gu.u.rw (ok:=UsRok) uvG_len hk.us,h.gu.s.rw (ok:=SeRok) svG_len hk.ss,h.gu.f.rw (ok:=FaRok) fvG_len hk.fs,h.gu.r.rw (ok:=ReRok) evG_len hk.es,h.fl.rw wvG_len hk.fl,h.co.rw cnG_len hk.co,(own_cap h.fl).1,(own_cap h.co).1⟩
 have:=rw_ro h.rs (fun x hx=>hk.ros x.r (by rw [← h.ro];exact List.mem_map_of_mem hx))
 rw [h.ro] at this
 exact this
theorem OwnGt.kept {w w':World} {B:Nat} {A:GtA} {g:GtV} {L:List RoX} {P:Nat→Prop} (h:OwnGt w B A g L) (hk:Rel.Keep P w w') (hP:∀ k,gtBk A g L k→P k):OwnGt w' B A g L :=
 ⟨h.ro,own_keep h.ps hk (fun k e=>hP k (.inl (.inl e))),h.rs.keepB (fun b hb=>hk.block b (hP b (.inl (.inr hb)))),own4_keep h.gu hk (fun k e=>hP k (.inr (.inl (.inl e)))) (fun k e=>hP k (.inr (.inl (.inr (.inl e))))) (fun k e=>hP k (.inr (.inl (.inr (.inr (.inl e)))))) (fun k e=>hP k (.inr (.inl (.inr (.inr (.inr e)))))),own_keep h.fl hk (fun k e=>hP k (.inr (.inr (.inl e)))),own_keep h.co hk (fun k e=>hP k (.inr (.inr (.inr e))))⟩
theorem OwnGt.lt {w:World} {B:Nat} {A:GtA} {g:GtV} {L:List RoX} (h:OwnGt w B A g L):∀ k,gtBk A g L k→B≤k∧k<w.heap.size:=by
 rintro k ((e | e) | (e | e | e | e) | e | e)
 ·exact h.ps.lt k e
 ·exact h.rs.lt k e
 ·exact h.gu.u.lt k e
 ·exact h.gu.s.lt k e
 ·exact h.gu.f.lt k e
 ·exact h.gu.r.lt k e
 ·exact h.fl.lt k e
 ·exact h.co.lt k e
def zeroGt:GtV:=⟨0,0,0,⟨#[]⟩,⟨#[]⟩,0,[],[],[],[],[],[],0,[],[],0,0,0⟩
def zeroGA:GtA:=⟨none,none,none,none,none,none,none,none,0,0,0,0,0,0,0,0⟩
theorem OwnGt.zero (w:World) (B:Nat):OwnGt w B zeroGA zeroGt [] :=
 ⟨rfl,OwnS.nil w B,⟨OwnS.nil w B,(fun x hx=>by cases hx),List.Pairwise.nil⟩,⟨OwnS.nil w B,OwnS.nil w B,OwnS.nil w B,OwnS.nil w B,ap_none _ _ _,ap_none _ _ _,ap_none _ _ _,ap_none _ _ _,ap_none _ _ _,ap_none _ _ _⟩,OwnS.nil w B,OwnS.nil w B⟩
theorem zeroGt_ok:GtOk zeroGt:=⟨(fun _ h=>by cases h),(fun _ h=>by cases h),(fun _ h=>by cases h),(fun _ h=>by cases h),(fun _ h=>by cases h),(fun _ h=>by cases h),(fun _ h=>by cases h),(fun _ h=>by cases h)⟩
structure R8 (lo:Nat) (g:GtV) (b1 b2 bu bs bf br bl bc:Nat) (W:World):Prop where
 l:lo≤b1∧lo≤b2∧lo≤bu∧lo≤bs∧lo≤bf∧lo≤br∧lo≤bl∧lo≤bc
 r:Rw PlR 4 W (some ⟨b1,0,none⟩) g.ps∧Rw (RoR lo) 5 W (some ⟨b2,0,none⟩) g.ros∧Rw UsR 6 W (some ⟨bu,0,none⟩) g.us∧Rw SeR 10 W (some ⟨bs,0,none⟩) g.ss∧Rw FaR 3 W (some ⟨bf,0,none⟩) g.fs∧Rw ReR 5 W (some ⟨br,0,none⟩) g.es∧Rw FlR 9 W (some ⟨bl,0,none⟩) g.fl∧Rw CnR 11 W (some ⟨bc,0,none⟩) g.co
theorem R8.put {lo:Nat} {g:GtV} {b1 b2 bu bs bf br bl bc:Nat} {W:World} (h:R8 lo g b1 b2 bu bs bf br bl bc W) {q:Nat} (hq:q<lo) (o:Nat) (vs:List Value):R8 lo g b1 b2 bu bs bf br bl bc (W.setCells q o vs):=by
 obtain ⟨⟨l1,l2,l3,l4,l5,l6,l7,l8⟩,r1,r2,r3,r4,r5,r6,r7,r8⟩:=h
 exact ⟨⟨l1,l2,l3,l4,l5,l6,l7,l8⟩,row_put r1 (by omega) (fun _ _ _ _ h=>h),row_putR r2 (by omega) hq,row_put r3 (by omega) (fun _ _ _ _ h=>h),row_put r4 (by omega) (fun _ _ _ _ h=>h),row_put r5 (by omega) (fun _ _ _ _ h=>h),row_put r6 (by omega) (fun _ _ _ _ h=>h),row_put r7 (by omega) (fun _ _ _ _ h=>h),row_put r8 (by omega) (fun _ _ _ _ h=>h)⟩
theorem GtR.of {w:World} {g:GtV} {b1 b2 bu bs bf br bl bc lo:Nat} {c1 c2 c3 c4 c5 c6 c7 c8:Nat} (h:Rw PlR 4 w (some ⟨b1,0,none⟩) g.ps∧Rw (RoR lo) 5 w (some ⟨b2,0,none⟩) g.ros∧Rw UsR 6 w (some ⟨bu,0,none⟩) g.us∧Rw SeR 10 w (some ⟨bs,0,none⟩) g.ss∧Rw FaR 3 w (some ⟨bf,0,none⟩) g.fs∧Rw ReR 5 w (some ⟨br,0,none⟩) g.es∧Rw FlR 9 w (some ⟨bl,0,none⟩) g.fl∧Rw CnR 11 w (some ⟨bc,0,none⟩) g.co) (k7:g.fl.length≤c7) (k8:g.co.length≤c8):GtR w ⟨some ⟨b1,0,none⟩,some ⟨b2,0,none⟩,some ⟨bu,0,none⟩,some ⟨bs,0,none⟩,some ⟨bf,0,none⟩,some ⟨br,0,none⟩,some ⟨bl,0,none⟩,some ⟨bc,0,none⟩,c1,c2,c3,c4,c5,c6,c7,c8⟩ g :=
 ⟨h.1,Rw_lower h.2.1 (Nat.zero_le _),h.2.2.1,h.2.2.2.1,h.2.2.2.2.1,h.2.2.2.2.2.1,h.2.2.2.2.2.2.1,h.2.2.2.2.2.2.2,k7,k8⟩
set_option maxHeartbeats 4000000 in
theorem eqGateway_yes (A A':GtA) (g:GtV) (w:World) (h:GtR w A g) (h':GtR w A' g) (hs:GtS g) :
  Calls Tryz.prog 11 #[.agg #[.int .i64 g.ip,.int .i64 g.b,.int .i64 g.gt,.string g.gm,.string g.wm,.int .i64 g.rs,.slice A.x g.ps.length A.xc,.slice A.y g.ros.length A.yc,.slice A.ua g.us.length A.uc,.slice A.sa g.ss.length A.sc,.slice A.fa g.fs.length A.fc,.slice A.ra g.es.length A.rc,.int .i64 g.nx,.slice A.la g.fl.length A.lc,.slice A.ca g.co.length A.cc,.int .i64 g.nw,.int .i64 g.dr,.int .i64 g.sn],.agg #[.int .i64 g.ip,.int .i64 g.b,.int .i64 g.gt,.string g.gm,.string g.wm,.int .i64 g.rs,.slice A'.x g.ps.length A'.xc,.slice A'.y g.ros.length A'.yc,.slice A'.ua g.us.length A'.uc,.slice A'.sa g.ss.length A'.sc,.slice A'.fa g.fs.length A'.fc,.slice A'.ra g.es.length A'.rc,.int .i64 g.nx,.slice A'.la g.fl.length A'.lc,.slice A'.ca g.co.length A'.cc,.int .i64 g.nw,.int .i64 g.dr,.int .i64 g.sn]] w fun e w'=>e=.returned (.bool true)∧Grw w w':=by
 have GR:Hid (GtR w A g):=h
 have GR':Hid (GtR w A' g):=h'
 have HZ:Hid (∀ w,GtR w A g→GtR w A' g→Calls Tryz.prog 12 #[.agg #[.int .i64 g.ip,.int .i64 g.b,.int .i64 g.gt,.string g.gm,.string g.wm,.int .i64 g.rs,.slice A.x g.ps.length A.xc,.slice A.y g.ros.length A.yc],.agg #[.int .i64 g.ip,.int .i64 g.b,.int .i64 g.gt,.string g.gm,.string g.wm,.int .i64 g.rs,.slice A'.x g.ps.length A'.xc,.slice A'.y g.ros.length A'.yc]] w fun e w'=>e=.returned (.bool true)∧Grw w w'):=fun w h h'=>eqConfig_caps _ _ _ _ _ _ _ _ _ _ _ _ _ _ _ _ g.ps g.ros w h.ps h'.ps rfl h.ros h'.ros rfl hs.ps hs.ros hs.szr
 have HY:Hid (∀ w,GtR w A g→GtR w A' g→Calls Tryz.prog 13 #[.agg #[.slice A.ua g.us.length A.uc,.slice A.sa g.ss.length A.sc,.slice A.fa g.fs.length A.fc,.slice A.ra g.es.length A.rc,.int .i64 g.nx],.agg #[.slice A'.ua g.us.length A'.uc,.slice A'.sa g.ss.length A'.sc,.slice A'.fa g.fs.length A'.fc,.slice A'.ra g.es.length A'.rc,.int .i64 g.nx]] w fun e w'=>e=.returned (.bool true)∧Grw w w'):=fun w h h'=>eqGuests_yes _ _ _ _ _ _ _ _ _ _ _ _ _ _ _ _ _ _ _ _ g.us g.ss g.fs g.es g.nx w h.us h'.us rfl h.ss h'.ss rfl h.fs h'.fs rfl h.es h'.es rfl (Nat.le_trans hs.us (by decide)) (Nat.le_trans hs.ss (by decide)) (Nat.le_trans hs.fs (by decide)) (Nat.le_trans hs.es (by decide))
 have HF:Hid (∀ w,GtR w A g→GtR w A' g→Calls Tryz.prog 39 #[.slice A.la g.fl.length A.lc,.slice A'.la g.fl.length A'.lc] w fun e w'=>e=.returned (.bool true)∧Grw w w'):=fun w h h'=>eqFlowS_yes _ _ _ _ _ g.fl w h.fl h'.fl rfl (Nat.le_trans hs.fl (by decide))
 have HC:Hid (∀ w,GtR w A g→GtR w A' g→Calls Tryz.prog 40 #[.slice A.ca g.co.length A.cc,.slice A'.ca g.co.length A'.cc] w fun e w'=>e=.returned (.bool true)∧Grw w w'):=fun w h h'=>eqConnS_yes _ _ _ _ _ g.co w h.co h'.co rfl (Nat.le_trans hs.co (by decide))
 clear h h' hs
 have n0:(g.nw != g.nw)=false:=by simp
 have n1:(g.dr != g.dr)=false:=by simp
 have n2:(g.sn != g.sn)=false:=by simp
 have A0:Hid (Bx ((w.alloc (.cells #[.int .i64 g.ip,.int .i64 g.b,.int .i64 g.gt,.string g.gm,.string g.wm,.int .i64 g.rs,.slice A.x g.ps.length A.xc,.slice A.y g.ros.length A.yc,.slice A.ua g.us.length A.uc,.slice A.sa g.ss.length A.sc,.slice A.fa g.fs.length A.fc,.slice A.ra g.es.length A.rc,.int .i64 g.nx,.slice A.la g.fl.length A.lc,.slice A.ca g.co.length A.cc,.int .i64 g.nw,.int .i64 g.dr,.int .i64 g.sn] 50)).alloc (.cells #[.int .i64 g.ip,.int .i64 g.b,.int .i64 g.gt,.string g.gm,.string g.wm,.int .i64 g.rs,.slice A'.x g.ps.length A'.xc,.slice A'.y g.ros.length A'.yc,.slice A'.ua g.us.length A'.uc,.slice A'.sa g.ss.length A'.sc,.slice A'.fa g.fs.length A'.fc,.slice A'.ra g.es.length A'.rc,.int .i64 g.nx,.slice A'.la g.fl.length A'.lc,.slice A'.ca g.co.length A'.cc,.int .i64 g.nw,.int .i64 g.dr,.int .i64 g.sn] 50)) w.heap.size [.int .i64 g.ip,.int .i64 g.b,.int .i64 g.gt,.string g.gm,.string g.wm,.int .i64 g.rs,.slice A.x g.ps.length A.xc,.slice A.y g.ros.length A.yc,.slice A.ua g.us.length A.uc,.slice A.sa g.ss.length A.sc,.slice A.fa g.fs.length A.fc,.slice A.ra g.es.length A.rc,.int .i64 g.nx,.slice A.la g.fl.length A.lc,.slice A.ca g.co.length A.cc,.int .i64 g.nw,.int .i64 g.dr,.int .i64 g.sn]):=(Bx.new w #[.int .i64 g.ip,.int .i64 g.b,.int .i64 g.gt,.string g.gm,.string g.wm,.int .i64 g.rs,.slice A.x g.ps.length A.xc,.slice A.y g.ros.length A.yc,.slice A.ua g.us.length A.uc,.slice A.sa g.ss.length A.sc,.slice A.fa g.fs.length A.fc,.slice A.ra g.es.length A.rc,.int .i64 g.nx,.slice A.la g.fl.length A.lc,.slice A.ca g.co.length A.cc,.int .i64 g.nw,.int .i64 g.dr,.int .i64 g.sn] 50).below ((Below.refl _ _).alloc (Nat.le_refl _) _)
 have E0:Hid (Bx ((w.alloc (.cells #[.int .i64 g.ip,.int .i64 g.b,.int .i64 g.gt,.string g.gm,.string g.wm,.int .i64 g.rs,.slice A.x g.ps.length A.xc,.slice A.y g.ros.length A.yc,.slice A.ua g.us.length A.uc,.slice A.sa g.ss.length A.sc,.slice A.fa g.fs.length A.fc,.slice A.ra g.es.length A.rc,.int .i64 g.nx,.slice A.la g.fl.length A.lc,.slice A.ca g.co.length A.cc,.int .i64 g.nw,.int .i64 g.dr,.int .i64 g.sn] 50)).alloc (.cells #[.int .i64 g.ip,.int .i64 g.b,.int .i64 g.gt,.string g.gm,.string g.wm,.int .i64 g.rs,.slice A'.x g.ps.length A'.xc,.slice A'.y g.ros.length A'.yc,.slice A'.ua g.us.length A'.uc,.slice A'.sa g.ss.length A'.sc,.slice A'.fa g.fs.length A'.fc,.slice A'.ra g.es.length A'.rc,.int .i64 g.nx,.slice A'.la g.fl.length A'.lc,.slice A'.ca g.co.length A'.cc,.int .i64 g.nw,.int .i64 g.dr,.int .i64 g.sn] 50)) (w.heap.size+1) [.int .i64 g.ip,.int .i64 g.b,.int .i64 g.gt,.string g.gm,.string g.wm,.int .i64 g.rs,.slice A'.x g.ps.length A'.xc,.slice A'.y g.ros.length A'.yc,.slice A'.ua g.us.length A'.uc,.slice A'.sa g.ss.length A'.sc,.slice A'.fa g.fs.length A'.fc,.slice A'.ra g.es.length A'.rc,.int .i64 g.nx,.slice A'.la g.fl.length A'.lc,.slice A'.ca g.co.length A'.cc,.int .i64 g.nw,.int .i64 g.dr,.int .i64 g.sn]):=by
  have h:=Bx.new (w.alloc (.cells #[.int .i64 g.ip,.int .i64 g.b,.int .i64 g.gt,.string g.gm,.string g.wm,.int .i64 g.rs,.slice A.x g.ps.length A.xc,.slice A.y g.ros.length A.yc,.slice A.ua g.us.length A.uc,.slice A.sa g.ss.length A.sc,.slice A.fa g.fs.length A.fc,.slice A.ra g.es.length A.rc,.int .i64 g.nx,.slice A.la g.fl.length A.lc,.slice A.ca g.co.length A.cc,.int .i64 g.nw,.int .i64 g.dr,.int .i64 g.sn] 50)) #[.int .i64 g.ip,.int .i64 g.b,.int .i64 g.gt,.string g.gm,.string g.wm,.int .i64 g.rs,.slice A'.x g.ps.length A'.xc,.slice A'.y g.ros.length A'.yc,.slice A'.ua g.us.length A'.uc,.slice A'.sa g.ss.length A'.sc,.slice A'.fa g.fs.length A'.fc,.slice A'.ra g.es.length A'.rc,.int .i64 g.nx,.slice A'.la g.fl.length A'.lc,.slice A'.ca g.co.length A'.cc,.int .i64 g.nw,.int .i64 g.dr,.int .i64 g.sn] 50
  rw [World.size_alloc] at h
  exact h
 have X0:Hid (Grw w ((w.alloc (.cells #[.int .i64 g.ip,.int .i64 g.b,.int .i64 g.gt,.string g.gm,.string g.wm,.int .i64 g.rs,.slice A.x g.ps.length A.xc,.slice A.y g.ros.length A.yc,.slice A.ua g.us.length A.uc,.slice A.sa g.ss.length A.sc,.slice A.fa g.fs.length A.fc,.slice A.ra g.es.length A.rc,.int .i64 g.nx,.slice A.la g.fl.length A.lc,.slice A.ca g.co.length A.cc,.int .i64 g.nw,.int .i64 g.dr,.int .i64 g.sn] 50)).alloc (.cells #[.int .i64 g.ip,.int .i64 g.b,.int .i64 g.gt,.string g.gm,.string g.wm,.int .i64 g.rs,.slice A'.x g.ps.length A'.xc,.slice A'.y g.ros.length A'.yc,.slice A'.ua g.us.length A'.uc,.slice A'.sa g.ss.length A'.sc,.slice A'.fa g.fs.length A'.fc,.slice A'.ra g.es.length A'.rc,.int .i64 g.nx,.slice A'.la g.fl.length A'.lc,.slice A'.ca g.co.length A'.cc,.int .i64 g.nw,.int .i64 g.dr,.int .i64 g.sn] 50))):=((Grw.refl _).alloc _).alloc _
 go_enter Tryz.func11,Tryz.ntmps11
 go_wp2_with fail
 refine (HZ.out _ (GR.out.below X0.out.below) (GR'.out.below X0.out.below)).mono ?_
 rintro e w1 ⟨rfl,gx⟩
 have A1:Hid (Bx w1 w.heap.size [.int .i64 g.ip,.int .i64 g.b,.int .i64 g.gt,.string g.gm,.string g.wm,.int .i64 g.rs,.slice A.x g.ps.length A.xc,.slice A.y g.ros.length A.yc,.slice A.ua g.us.length A.uc,.slice A.sa g.ss.length A.sc,.slice A.fa g.fs.length A.fc,.slice A.ra g.es.length A.rc,.int .i64 g.nx,.slice A.la g.fl.length A.lc,.slice A.ca g.co.length A.cc,.int .i64 g.nw,.int .i64 g.dr,.int .i64 g.sn]):=A0.out.below gx.below
 have E1:Hid (Bx w1 (w.heap.size+1) [.int .i64 g.ip,.int .i64 g.b,.int .i64 g.gt,.string g.gm,.string g.wm,.int .i64 g.rs,.slice A'.x g.ps.length A'.xc,.slice A'.y g.ros.length A'.yc,.slice A'.ua g.us.length A'.uc,.slice A'.sa g.ss.length A'.sc,.slice A'.fa g.fs.length A'.fc,.slice A'.ra g.es.length A'.rc,.int .i64 g.nx,.slice A'.la g.fl.length A'.lc,.slice A'.ca g.co.length A'.cc,.int .i64 g.nw,.int .i64 g.dr,.int .i64 g.sn]):=E0.out.below gx.below
 have X1:Hid (Grw w w1):=X0.out.trans gx
 clear gx A0 E0 X0
 go_wp2_with (first | (refine wpl_getO 46 rfl _ rfl w.heap.size 8 [.slice A.ua g.us.length A.uc,.slice A.sa g.ss.length A.sc,.slice A.fa g.fs.length A.fc,.slice A.ra g.es.length A.rc,.int .i64 g.nx] rfl A1.out rfl _ Tryz.underlying46 rfl rfl ?_) | (refine wpl_getO 46 rfl _ rfl (w.heap.size+1) 8 [.slice A'.ua g.us.length A'.uc,.slice A'.sa g.ss.length A'.sc,.slice A'.fa g.fs.length A'.fc,.slice A'.ra g.es.length A'.rc,.int .i64 g.nx] rfl E1.out rfl _ Tryz.underlying46 rfl rfl ?_) | fail)
 refine (HY.out _ (GR.out.below X1.out.below) (GR'.out.below X1.out.below)).mono ?_
 rintro e w2 ⟨rfl,gx⟩
 have A2:Hid (Bx w2 w.heap.size [.int .i64 g.ip,.int .i64 g.b,.int .i64 g.gt,.string g.gm,.string g.wm,.int .i64 g.rs,.slice A.x g.ps.length A.xc,.slice A.y g.ros.length A.yc,.slice A.ua g.us.length A.uc,.slice A.sa g.ss.length A.sc,.slice A.fa g.fs.length A.fc,.slice A.ra g.es.length A.rc,.int .i64 g.nx,.slice A.la g.fl.length A.lc,.slice A.ca g.co.length A.cc,.int .i64 g.nw,.int .i64 g.dr,.int .i64 g.sn]):=A1.out.below gx.below
 have E2:Hid (Bx w2 (w.heap.size+1) [.int .i64 g.ip,.int .i64 g.b,.int .i64 g.gt,.string g.gm,.string g.wm,.int .i64 g.rs,.slice A'.x g.ps.length A'.xc,.slice A'.y g.ros.length A'.yc,.slice A'.ua g.us.length A'.uc,.slice A'.sa g.ss.length A'.sc,.slice A'.fa g.fs.length A'.fc,.slice A'.ra g.es.length A'.rc,.int .i64 g.nx,.slice A'.la g.fl.length A'.lc,.slice A'.ca g.co.length A'.cc,.int .i64 g.nw,.int .i64 g.dr,.int .i64 g.sn]):=E1.out.below gx.below
 have X2:Hid (Grw w w2):=X1.out.trans gx
 clear gx A1 E1 X1
 have u2:=A2.out.cell 13 rfl
 have v2:=E2.out.cell 13 rfl
 go_wp2_with fail
 clear u2 v2
 refine (HF.out _ (GR.out.below X2.out.below) (GR'.out.below X2.out.below)).mono ?_
 rintro e w3 ⟨rfl,gx⟩
 have A3:Hid (Bx w3 w.heap.size [.int .i64 g.ip,.int .i64 g.b,.int .i64 g.gt,.string g.gm,.string g.wm,.int .i64 g.rs,.slice A.x g.ps.length A.xc,.slice A.y g.ros.length A.yc,.slice A.ua g.us.length A.uc,.slice A.sa g.ss.length A.sc,.slice A.fa g.fs.length A.fc,.slice A.ra g.es.length A.rc,.int .i64 g.nx,.slice A.la g.fl.length A.lc,.slice A.ca g.co.length A.cc,.int .i64 g.nw,.int .i64 g.dr,.int .i64 g.sn]):=A2.out.below gx.below
 have E3:Hid (Bx w3 (w.heap.size+1) [.int .i64 g.ip,.int .i64 g.b,.int .i64 g.gt,.string g.gm,.string g.wm,.int .i64 g.rs,.slice A'.x g.ps.length A'.xc,.slice A'.y g.ros.length A'.yc,.slice A'.ua g.us.length A'.uc,.slice A'.sa g.ss.length A'.sc,.slice A'.fa g.fs.length A'.fc,.slice A'.ra g.es.length A'.rc,.int .i64 g.nx,.slice A'.la g.fl.length A'.lc,.slice A'.ca g.co.length A'.cc,.int .i64 g.nw,.int .i64 g.dr,.int .i64 g.sn]):=E2.out.below gx.below
 have X3:Hid (Grw w w3):=X2.out.trans gx
 clear gx A2 E2 X2
 have u3:=A3.out.cell 14 rfl
 have v3:=E3.out.cell 14 rfl
 go_wp2_with fail
 clear u3 v3
 refine (HC.out _ (GR.out.below X3.out.below) (GR'.out.below X3.out.below)).mono ?_
 rintro e w4 ⟨rfl,gx⟩
 have A4:Hid (Bx w4 w.heap.size [.int .i64 g.ip,.int .i64 g.b,.int .i64 g.gt,.string g.gm,.string g.wm,.int .i64 g.rs,.slice A.x g.ps.length A.xc,.slice A.y g.ros.length A.yc,.slice A.ua g.us.length A.uc,.slice A.sa g.ss.length A.sc,.slice A.fa g.fs.length A.fc,.slice A.ra g.es.length A.rc,.int .i64 g.nx,.slice A.la g.fl.length A.lc,.slice A.ca g.co.length A.cc,.int .i64 g.nw,.int .i64 g.dr,.int .i64 g.sn]):=A3.out.below gx.below
 have E4:Hid (Bx w4 (w.heap.size+1) [.int .i64 g.ip,.int .i64 g.b,.int .i64 g.gt,.string g.gm,.string g.wm,.int .i64 g.rs,.slice A'.x g.ps.length A'.xc,.slice A'.y g.ros.length A'.yc,.slice A'.ua g.us.length A'.uc,.slice A'.sa g.ss.length A'.sc,.slice A'.fa g.fs.length A'.fc,.slice A'.ra g.es.length A'.rc,.int .i64 g.nx,.slice A'.la g.fl.length A'.lc,.slice A'.ca g.co.length A'.cc,.int .i64 g.nw,.int .i64 g.dr,.int .i64 g.sn]):=E3.out.below gx.below
 have X4:Hid (Grw w w4):=X3.out.trans gx
 clear gx A3 E3 X3
 have u15:=A4.out.cell 15 rfl
 have v15:=E4.out.cell 15 rfl
 have u16:=A4.out.cell 16 rfl
 have v16:=E4.out.cell 16 rfl
 have u17:=A4.out.cell 17 rfl
 have v17:=E4.out.cell 17 rfl
 go_wp2
 go_ret
 exact ⟨rfl,X4.out⟩
set_option maxHeartbeats 8000000 in
theorem markGateway_any (A:GtA) (g:GtV) (L:List RoX) (B m0:Nat) (w:World) (h:OwnGt w B A g L) (h0:0<m0) (hm:gtN4 m0 g L≤100000000000) (hy:g.ros.length≤1048576) :
  Calls Tryz.prog 16 #[.agg #[.int .i64 g.ip,.int .i64 g.b,.int .i64 g.gt,.string g.gm,.string g.wm,.int .i64 g.rs,.slice A.x g.ps.length A.xc,.slice A.y g.ros.length A.yc,.slice A.ua g.us.length A.uc,.slice A.sa g.ss.length A.sc,.slice A.fa g.fs.length A.fc,.slice A.ra g.es.length A.rc,.int .i64 g.nx,.slice A.la g.fl.length A.lc,.slice A.ca g.co.length A.cc,.int .i64 g.nw,.int .i64 g.dr,.int .i64 g.sn],.int .i64 (m0:Int)] w fun e w'=>e=.returned (.int .i64 ((gtN4 m0 g L:Nat):Int))∧MkdGt w' B A g L m0∧Rel.Keep (fun k=>k<w.heap.size∧¬ gtBk A g L k) w w':=by
 have al:Below w.heap.size w (w.alloc (.cells #[.int .i64 g.ip,.int .i64 g.b,.int .i64 g.gt,.string g.gm,.string g.wm,.int .i64 g.rs,.slice A.x g.ps.length A.xc,.slice A.y g.ros.length A.yc,.slice A.ua g.us.length A.uc,.slice A.sa g.ss.length A.sc,.slice A.fa g.fs.length A.fc,.slice A.ra g.es.length A.rc,.int .i64 g.nx,.slice A.la g.fl.length A.lc,.slice A.ca g.co.length A.cc,.int .i64 g.nw,.int .i64 g.dr,.int .i64 g.sn] 50)):=(Below.refl _ _).alloc (Nat.le_refl _) _
 have A0:Hid (w.heap.size<(w.alloc (.cells #[.int .i64 g.ip,.int .i64 g.b,.int .i64 g.gt,.string g.gm,.string g.wm,.int .i64 g.rs,.slice A.x g.ps.length A.xc,.slice A.y g.ros.length A.yc,.slice A.ua g.us.length A.uc,.slice A.sa g.ss.length A.sc,.slice A.fa g.fs.length A.fc,.slice A.ra g.es.length A.rc,.int .i64 g.nx,.slice A.la g.fl.length A.lc,.slice A.ca g.co.length A.cc,.int .i64 g.nw,.int .i64 g.dr,.int .i64 g.sn] 50)).heap.size):=by show _<_;simp
 have B0:Hid (Bx (w.alloc (.cells #[.int .i64 g.ip,.int .i64 g.b,.int .i64 g.gt,.string g.gm,.string g.wm,.int .i64 g.rs,.slice A.x g.ps.length A.xc,.slice A.y g.ros.length A.yc,.slice A.ua g.us.length A.uc,.slice A.sa g.ss.length A.sc,.slice A.fa g.fs.length A.fc,.slice A.ra g.es.length A.rc,.int .i64 g.nx,.slice A.la g.fl.length A.lc,.slice A.ca g.co.length A.cc,.int .i64 g.nw,.int .i64 g.dr,.int .i64 g.sn] 50)) w.heap.size [.int .i64 g.ip,.int .i64 g.b,.int .i64 g.gt,.string g.gm,.string g.wm,.int .i64 g.rs,.slice A.x g.ps.length A.xc,.slice A.y g.ros.length A.yc,.slice A.ua g.us.length A.uc,.slice A.sa g.ss.length A.sc,.slice A.fa g.fs.length A.fc,.slice A.ra g.es.length A.rc,.int .i64 g.nx,.slice A.la g.fl.length A.lc,.slice A.ca g.co.length A.cc,.int .i64 g.nw,.int .i64 g.dr,.int .i64 g.sn]):=Bx.new w #[.int .i64 g.ip,.int .i64 g.b,.int .i64 g.gt,.string g.gm,.string g.wm,.int .i64 g.rs,.slice A.x g.ps.length A.xc,.slice A.y g.ros.length A.yc,.slice A.ua g.us.length A.uc,.slice A.sa g.ss.length A.sc,.slice A.fa g.fs.length A.fc,.slice A.ra g.es.length A.rc,.int .i64 g.nx,.slice A.la g.fl.length A.lc,.slice A.ca g.co.length A.cc,.int .i64 g.nw,.int .i64 g.dr,.int .i64 g.sn] 50
 have K0:Hid (Rel.Keep (fun k=>k<w.heap.size∧¬ gtBk A g L k) w (w.alloc (.cells #[.int .i64 g.ip,.int .i64 g.b,.int .i64 g.gt,.string g.gm,.string g.wm,.int .i64 g.rs,.slice A.x g.ps.length A.xc,.slice A.y g.ros.length A.yc,.slice A.ua g.us.length A.uc,.slice A.sa g.ss.length A.sc,.slice A.fa g.fs.length A.fc,.slice A.ra g.es.length A.rc,.int .i64 g.nx,.slice A.la g.fl.length A.lc,.slice A.ca g.co.length A.cc,.int .i64 g.nw,.int .i64 g.dr,.int .i64 g.sn] 50))):=⟨al.os,al.tape,al.output,al.size,fun k hk=>al.block k hk.1⟩
 have O0:Hid (OwnGt (w.alloc (.cells #[.int .i64 g.ip,.int .i64 g.b,.int .i64 g.gt,.string g.gm,.string g.wm,.int .i64 g.rs,.slice A.x g.ps.length A.xc,.slice A.y g.ros.length A.yc,.slice A.ua g.us.length A.uc,.slice A.sa g.ss.length A.sc,.slice A.fa g.fs.length A.fc,.slice A.ra g.es.length A.rc,.int .i64 g.nx,.slice A.la g.fl.length A.lc,.slice A.ca g.co.length A.cc,.int .i64 g.nw,.int .i64 g.dr,.int .i64 g.sn] 50)) B A g L):=h.now al
 have hlc:∀ k,cfBk (.slice A.x g.ps.length A.xc) (.slice A.y g.ros.length A.yc) L k→k<w.heap.size:=by
  rintro k (hk | hk)
  ·exact (h.ps.lt k hk).2
  ·exact (h.rs.lt k hk).2
 have hlu:∀ k,guBk A g k→k<w.heap.size:=by
  rintro k (hk | hk | hk | hk)
  ·exact (h.gu.u.lt k hk).2
  ·exact (h.gu.s.lt k hk).2
  ·exact (h.gu.f.lt k hk).2
  ·exact (h.gu.r.lt k hk).2
 have hll:∀ k,Value.ownBlock (.slice A.la g.fl.length A.lc)=some k→k<w.heap.size:=fun k hk=>(h.fl.lt k hk).2
 have hlo:∀ k,Value.ownBlock (.slice A.ca g.co.length A.cc)=some k→k<w.heap.size:=fun k hk=>(h.co.lt k hk).2
 have NB:Hid (¬ cfBk (.slice A.x g.ps.length A.xc) (.slice A.y g.ros.length A.yc) L w.heap.size∧¬ guBk A g w.heap.size∧Value.ownBlock (.slice A.la g.fl.length A.lc) ≠ some w.heap.size∧Value.ownBlock (.slice A.ca g.co.length A.cc) ≠ some w.heap.size) :=
  ⟨fun e=>Nat.lt_irrefl _ (hlc _ e),fun e=>Nat.lt_irrefl _ (hlu _ e),fun e=>Nat.lt_irrefl _ (hll _ e),fun e=>Nat.lt_irrefl _ (hlo _ e)⟩
 have au:Hid (∀ k,guBk A g k→¬ cfBk (.slice A.x g.ps.length A.xc) (.slice A.y g.ros.length A.yc) L k):=by
  rintro k (hk | hk | hk | hk)
  ·exact cf_apart h.gu.u h.ps h.rs (by decide) (by decide) (by decide) k hk
  ·exact cf_apart h.gu.s h.ps h.rs (by decide) (by decide) (by decide) k hk
  ·exact cf_apart h.gu.f h.ps h.rs (by decide) (by decide) (by decide) k hk
  ·exact cf_apart h.gu.r h.ps h.rs (by decide) (by decide) (by decide) k hk
 have alc:Hid (∀ k,Value.ownBlock (.slice A.la g.fl.length A.lc)=some k→¬ cfBk (.slice A.x g.ps.length A.xc) (.slice A.y g.ros.length A.yc) L k∧¬ guBk A g k∧Value.ownBlock (.slice A.ca g.co.length A.cc) ≠ some k):=fun k hk =>
  ⟨cf_apart h.fl h.ps h.rs (by decide) (by decide) (by decide) k hk,gu_apart h.fl h.gu (by decide) (by decide) (by decide) (by decide) k hk,apB_of h.fl h.co (by decide) k hk⟩
 have aoc:Hid (∀ k,Value.ownBlock (.slice A.ca g.co.length A.cc)=some k→¬ cfBk (.slice A.x g.ps.length A.xc) (.slice A.y g.ros.length A.yc) L k∧¬ guBk A g k∧Value.ownBlock (.slice A.la g.fl.length A.lc) ≠ some k):=fun k hk =>
  ⟨cf_apart h.co h.ps h.rs (by decide) (by decide) (by decide) k hk,gu_apart h.co h.gu (by decide) (by decide) (by decide) (by decide) k hk,apB_of h.co h.fl (by decide) k hk⟩
 have hm1:gtN1 m0 g L+6 * g.us.length+10 * g.ss.length+3 * g.fs.length+5 * g.es.length+9 * g.fl.length+11 * g.co.length≤100000000000:=hm
 have hm2:gtN1 m0 g L=m0+4 * g.ps.length+roN L:=rfl
 have HC:Hid (Calls Tryz.prog 14 #[.agg #[.int .i64 g.ip,.int .i64 g.b,.int .i64 g.gt,.string g.gm,.string g.wm,.int .i64 g.rs,.slice A.x g.ps.length A.xc,.slice A.y g.ros.length A.yc],.int .i64 (m0:Int)] (w.alloc (.cells #[.int .i64 g.ip,.int .i64 g.b,.int .i64 g.gt,.string g.gm,.string g.wm,.int .i64 g.rs,.slice A.x g.ps.length A.xc,.slice A.y g.ros.length A.yc,.slice A.ua g.us.length A.uc,.slice A.sa g.ss.length A.sc,.slice A.fa g.fs.length A.fc,.slice A.ra g.es.length A.rc,.int .i64 g.nx,.slice A.la g.fl.length A.lc,.slice A.ca g.co.length A.cc,.int .i64 g.nw,.int .i64 g.dr,.int .i64 g.sn] 50)) fun e w'=>e=.returned (.int .i64 ((gtN1 m0 g L:Nat):Int))∧OwnS pv 4 135 w' B (.slice A.x g.ps.length A.xc) (mkPlaceL m0 g.ps.length)∧OwnRo w' B (.slice A.y g.ros.length A.yc) (mkRoL (m0+4 * g.ps.length) L)∧Rel.Keep (fun k=>k<(w.alloc (.cells #[.int .i64 g.ip,.int .i64 g.b,.int .i64 g.gt,.string g.gm,.string g.wm,.int .i64 g.rs,.slice A.x g.ps.length A.xc,.slice A.y g.ros.length A.yc,.slice A.ua g.us.length A.uc,.slice A.sa g.ss.length A.sc,.slice A.fa g.fs.length A.fc,.slice A.ra g.es.length A.rc,.int .i64 g.nx,.slice A.la g.fl.length A.lc,.slice A.ca g.co.length A.cc,.int .i64 g.nw,.int .i64 g.dr,.int .i64 g.sn] 50)).heap.size∧¬ cfBk (.slice A.x g.ps.length A.xc) (.slice A.y g.ros.length A.yc) L k) (w.alloc (.cells #[.int .i64 g.ip,.int .i64 g.b,.int .i64 g.gt,.string g.gm,.string g.wm,.int .i64 g.rs,.slice A.x g.ps.length A.xc,.slice A.y g.ros.length A.yc,.slice A.ua g.us.length A.uc,.slice A.sa g.ss.length A.sc,.slice A.fa g.fs.length A.fc,.slice A.ra g.es.length A.rc,.int .i64 g.nx,.slice A.la g.fl.length A.lc,.slice A.ca g.co.length A.cc,.int .i64 g.nw,.int .i64 g.dr,.int .i64 g.sn] 50)) w'):=markConfig_any g.ip g.b g.gt g.gm g.wm g.rs A.x A.y g.ps.length A.xc g.ros.length A.yc g.ps L B m0 _ O0.out.ps O0.out.rs h0 (by omega) hy
 have HU:Hid (∀ W,Own4 W B (.slice A.ua g.us.length A.uc) (.slice A.sa g.ss.length A.sc) (.slice A.fa g.fs.length A.fc) (.slice A.ra g.es.length A.rc) g.us g.ss g.fs g.es→Calls Tryz.prog 15 #[.agg #[.slice A.ua g.us.length A.uc,.slice A.sa g.ss.length A.sc,.slice A.fa g.fs.length A.fc,.slice A.ra g.es.length A.rc,.int .i64 g.nx],.int .i64 ((gtN1 m0 g L:Nat):Int)] W fun e w'=>e=.returned (.int .i64 ((gtN2 m0 g L:Nat):Int))∧Own4 w' B (.slice A.ua g.us.length A.uc) (.slice A.sa g.ss.length A.sc) (.slice A.fa g.fs.length A.fc) (.slice A.ra g.es.length A.rc) (mkUserL (gtN1 m0 g L) g.us.length) (mkSessionL (gtN1 m0 g L+6 * g.us.length) g.ss.length) (mkFailL (gtN1 m0 g L+6 * g.us.length+10 * g.ss.length) g.fs.length) (mkRecordL (gtN1 m0 g L+6 * g.us.length+10 * g.ss.length+3 * g.fs.length) g.es.length)∧Rel.Keep (fun k=>k<W.heap.size∧¬ guBk A g k) W w'):=fun W hW=>(markGuests_any A.ua A.sa A.fa A.ra g.us.length A.uc g.ss.length A.sc g.fs.length A.fc g.es.length A.rc g.us g.ss g.fs g.es g.nx (gtN1 m0 g L) B W hW (by omega) (by omega)).mono fun e w' h=>⟨h.1,h.2.1,h.2.2.mono fun k hk=>⟨hk.1,fun e=>hk.2 (.inl e),fun e=>hk.2 (.inr (.inl e)),fun e=>hk.2 (.inr (.inr (.inl e))),fun e=>hk.2 (.inr (.inr (.inr e)))⟩⟩
 have HF:Hid (∀ W,OwnS wvG 9 159 W B (.slice A.la g.fl.length A.lc) g.fl→Calls Tryz.prog 54 #[(.slice A.la g.fl.length A.lc),.int .i64 ((gtN2 m0 g L:Nat):Int)] W fun e w'=>e=.returned (.int .i64 ((gtN3 m0 g L:Nat):Int))∧OwnS wvG 9 159 w' B (.slice A.la g.fl.length A.lc) (mkFlowL (gtN2 m0 g L) g.fl.length)∧W.grownBy w' (Value.ownBlock (.slice A.la g.fl.length A.lc))):=fun W hW=>markFlowS_any A.la g.fl.length A.lc B (gtN2 m0 g L) g.fl W hW (by unfold gtN2;omega) (by unfold gtN2;omega)
 have HN:Hid (∀ W,OwnS cnG 11 162 W B (.slice A.ca g.co.length A.cc) g.co→Calls Tryz.prog 55 #[(.slice A.ca g.co.length A.cc),.int .i64 ((gtN3 m0 g L:Nat):Int)] W fun e w'=>e=.returned (.int .i64 ((gtN4 m0 g L:Nat):Int))∧OwnS cnG 11 162 w' B (.slice A.ca g.co.length A.cc) (mkConnL (gtN3 m0 g L) g.co.length)∧W.grownBy w' (Value.ownBlock (.slice A.ca g.co.length A.cc))):=fun W hW=>markConnS_any A.ca g.co.length A.cc B (gtN3 m0 g L) g.co W hW (by unfold gtN3 gtN2;omega) (by unfold gtN3 gtN2;omega)
 obtain ⟨n1,hn1⟩:∃ n1,((gtN1 m0 g L:Nat):Int)=n1:=⟨_,rfl⟩
 obtain ⟨n2,hn2⟩:∃ n2,((gtN2 m0 g L:Nat):Int)=n2:=⟨_,rfl⟩
 obtain ⟨n3,hn3⟩:∃ n3,((gtN3 m0 g L:Nat):Int)=n3:=⟨_,rfl⟩
 obtain ⟨n4,hn4⟩:∃ n4,((gtN4 m0 g L:Nat):Int)=n4:=⟨_,rfl⟩
 rw [hn1] at HC HU
 rw [hn2] at HU HF
 rw [hn3] at HF HN
 rw [hn4] at HN ⊢
 have HLC:Hid ((∀ k,cfBk (.slice A.x g.ps.length A.xc) (.slice A.y g.ros.length A.yc) L k→k<w.heap.size)∧(∀ k,guBk A g k→k<w.heap.size)∧(∀ k,Value.ownBlock (.slice A.la g.fl.length A.lc)=some k→k<w.heap.size)∧(∀ k,Value.ownBlock (.slice A.ca g.co.length A.cc)=some k→k<w.heap.size)):=⟨hlc,hlu,hll,hlo⟩
 clear hn1 hn2 hn3 hn4 h h0 hm hy hm1 hm2 hlc hlu hll hlo al
 go_enter Tryz.func16,Tryz.ntmps16
 go_wp2_with (first | (refine wpl_getO 40 rfl _ rfl w.heap.size 0 [.int .i64 g.ip,.int .i64 g.b,.int .i64 g.gt,.string g.gm,.string g.wm,.int .i64 g.rs,.slice A.x g.ps.length A.xc,.slice A.y g.ros.length A.yc] rfl B0.out rfl _ Tryz.underlying40 rfl rfl ?_) | (refine wpl_getO 46 rfl _ rfl w.heap.size 8 [.slice A.ua g.us.length A.uc,.slice A.sa g.ss.length A.sc,.slice A.fa g.fs.length A.fc,.slice A.ra g.es.length A.rc,.int .i64 g.nx] rfl B0.out rfl _ Tryz.underlying46 rfl rfl ?_) | fail)
 refine HC.out.mono ?_
 rintro e w1 ⟨rfl,p1,r1,k1⟩
 have A1:Hid (w.heap.size<w1.heap.size):=Nat.lt_of_lt_of_le A0.out k1.size
 have B1:Hid (Bx w1 w.heap.size [.int .i64 g.ip,.int .i64 g.b,.int .i64 g.gt,.string g.gm,.string g.wm,.int .i64 g.rs,.slice A.x g.ps.length A.xc,.slice A.y g.ros.length A.yc,.slice A.ua g.us.length A.uc,.slice A.sa g.ss.length A.sc,.slice A.fa g.fs.length A.fc,.slice A.ra g.es.length A.rc,.int .i64 g.nx,.slice A.la g.fl.length A.lc,.slice A.ca g.co.length A.cc,.int .i64 g.nw,.int .i64 g.dr,.int .i64 g.sn]):=bx_keep B0.out k1 ⟨A0.out,NB.out.1⟩
 have K1:Hid (Rel.Keep (fun k=>k<w.heap.size∧¬ gtBk A g L k) w w1):=K0.out.trans (k1.mono fun k hk=>⟨Nat.lt_trans hk.1 A0.out,fun e=>hk.2 (.inl e)⟩)
 have P1:Hid (OwnS pv 4 135 w1 B (.slice A.x g.ps.length A.xc) (mkPlaceL m0 g.ps.length)∧OwnRo w1 B (.slice A.y g.ros.length A.yc) (mkRoL (m0+4 * g.ps.length) L)):=⟨p1,r1⟩
 have G1:Hid (Own4 w1 B (.slice A.ua g.us.length A.uc) (.slice A.sa g.ss.length A.sc) (.slice A.fa g.fs.length A.fc) (.slice A.ra g.es.length A.rc) g.us g.ss g.fs g.es):=own4_keep O0.out.gu k1 (fun k e=>⟨Nat.lt_trans (HLC.out.2.1 k (.inl e)) A0.out,au.out k (.inl e)⟩) (fun k e=>⟨Nat.lt_trans (HLC.out.2.1 k (.inr (.inl e))) A0.out,au.out k (.inr (.inl e))⟩) (fun k e=>⟨Nat.lt_trans (HLC.out.2.1 k (.inr (.inr (.inl e)))) A0.out,au.out k (.inr (.inr (.inl e)))⟩) (fun k e=>⟨Nat.lt_trans (HLC.out.2.1 k (.inr (.inr (.inr e)))) A0.out,au.out k (.inr (.inr (.inr e)))⟩)
 have F1:Hid (OwnS wvG 9 159 w1 B (.slice A.la g.fl.length A.lc) g.fl):=own_keep O0.out.fl k1 (fun k e=>⟨Nat.lt_trans (HLC.out.2.2.1 k e) A0.out,(alc.out k e).1⟩)
 have C1:Hid (OwnS cnG 11 162 w1 B (.slice A.ca g.co.length A.cc) g.co):=own_keep O0.out.co k1 (fun k e=>⟨Nat.lt_trans (HLC.out.2.2.2 k e) A0.out,(aoc.out k e).1⟩)
 clear HC p1 r1 k1 B0 K0 O0 A0
 go_wp2_with (first | (refine wpl_getO 40 rfl _ rfl w.heap.size 0 [.int .i64 g.ip,.int .i64 g.b,.int .i64 g.gt,.string g.gm,.string g.wm,.int .i64 g.rs,.slice A.x g.ps.length A.xc,.slice A.y g.ros.length A.yc] rfl B1.out rfl _ Tryz.underlying40 rfl rfl ?_) | (refine wpl_getO 46 rfl _ rfl w.heap.size 8 [.slice A.ua g.us.length A.uc,.slice A.sa g.ss.length A.sc,.slice A.fa g.fs.length A.fc,.slice A.ra g.es.length A.rc,.int .i64 g.nx] rfl B1.out rfl _ Tryz.underlying46 rfl rfl ?_) | fail)
 refine (HU.out _ G1.out).mono ?_
 rintro e w2 ⟨rfl,g2,k2⟩
 have A2:Hid (w.heap.size<w2.heap.size):=Nat.lt_of_lt_of_le A1.out k2.size
 have B2:Hid (Bx w2 w.heap.size [.int .i64 g.ip,.int .i64 g.b,.int .i64 g.gt,.string g.gm,.string g.wm,.int .i64 g.rs,.slice A.x g.ps.length A.xc,.slice A.y g.ros.length A.yc,.slice A.ua g.us.length A.uc,.slice A.sa g.ss.length A.sc,.slice A.fa g.fs.length A.fc,.slice A.ra g.es.length A.rc,.int .i64 g.nx,.slice A.la g.fl.length A.lc,.slice A.ca g.co.length A.cc,.int .i64 g.nw,.int .i64 g.dr,.int .i64 g.sn]):=bx_keep B1.out k2 ⟨A1.out,NB.out.2.1⟩
 have K2:Hid (Rel.Keep (fun k=>k<w.heap.size∧¬ gtBk A g L k) w w2):=K1.out.trans (k2.mono fun k hk=>⟨Nat.lt_trans hk.1 A1.out,fun e=>hk.2 (.inr (.inl e))⟩)
 have P2:Hid (OwnS pv 4 135 w2 B (.slice A.x g.ps.length A.xc) (mkPlaceL m0 g.ps.length)∧OwnRo w2 B (.slice A.y g.ros.length A.yc) (mkRoL (m0+4 * g.ps.length) L)):=by
  have hcu:∀ k,cfBk (.slice A.x g.ps.length A.xc) (.slice A.y g.ros.length A.yc) L k→k<w1.heap.size∧¬ guBk A g k:=fun k e=>⟨Nat.lt_trans (HLC.out.1 k e) A1.out,fun e'=>au.out k e' e⟩
  refine ⟨own_keep P1.out.1 k2 (fun k e=>hcu k (.inl e)),P1.out.2.keepB (fun k e=>k2.block k (hcu k (.inr ?_)))⟩
  exact (roBk_mk (.slice A.y g.ros.length A.yc) L (m0+4 * g.ps.length) k).1 e
 have G2:Hid (Own4 w2 B (.slice A.ua g.us.length A.uc) (.slice A.sa g.ss.length A.sc) (.slice A.fa g.fs.length A.fc) (.slice A.ra g.es.length A.rc) (mkUserL (gtN1 m0 g L) g.us.length) (mkSessionL (gtN1 m0 g L+6 * g.us.length) g.ss.length) (mkFailL (gtN1 m0 g L+6 * g.us.length+10 * g.ss.length) g.fs.length) (mkRecordL (gtN1 m0 g L+6 * g.us.length+10 * g.ss.length+3 * g.fs.length) g.es.length)):=g2
 have F2:Hid (OwnS wvG 9 159 w2 B (.slice A.la g.fl.length A.lc) g.fl):=own_keep F1.out k2 (fun k e=>⟨Nat.lt_trans (HLC.out.2.2.1 k e) A1.out,(alc.out k e).2.1⟩)
 have C2:Hid (OwnS cnG 11 162 w2 B (.slice A.ca g.co.length A.cc) g.co):=own_keep C1.out k2 (fun k e=>⟨Nat.lt_trans (HLC.out.2.2.2 k e) A1.out,(aoc.out k e).2.1⟩)
 clear HU g2 k2 B1 K1 A1 P1 G1 F1 C1
 have c13:w2.cell? ⟨w.heap.size,13,none⟩=some (.slice A.la g.fl.length A.lc):=B2.out.cell 13 rfl
 go_wp2_with fail
 refine (HF.out _ F2.out).mono ?_
 rintro e w3 ⟨rfl,f3,g3⟩
 have k3:Rel.Keep (fun k=>k<w2.heap.size∧Value.ownBlock (.slice A.la g.fl.length A.lc) ≠ some k) w2 w3:=⟨g3.os,g3.tape,g3.output,g3.size,fun k hk=>g3.block k hk.1 (fun e=>hk.2 e.symm)⟩
 have A3:Hid (w.heap.size<w3.heap.size):=Nat.lt_of_lt_of_le A2.out k3.size
 have B3:Hid (Bx w3 w.heap.size [.int .i64 g.ip,.int .i64 g.b,.int .i64 g.gt,.string g.gm,.string g.wm,.int .i64 g.rs,.slice A.x g.ps.length A.xc,.slice A.y g.ros.length A.yc,.slice A.ua g.us.length A.uc,.slice A.sa g.ss.length A.sc,.slice A.fa g.fs.length A.fc,.slice A.ra g.es.length A.rc,.int .i64 g.nx,.slice A.la g.fl.length A.lc,.slice A.ca g.co.length A.cc,.int .i64 g.nw,.int .i64 g.dr,.int .i64 g.sn]):=bx_keep B2.out k3 ⟨A2.out,NB.out.2.2.1⟩
 have K3:Hid (Rel.Keep (fun k=>k<w.heap.size∧¬ gtBk A g L k) w w3):=K2.out.trans (k3.mono fun k hk=>⟨Nat.lt_trans hk.1 A2.out,fun e=>hk.2 (.inr (.inr (.inl e)))⟩)
 have P3:Hid (OwnS pv 4 135 w3 B (.slice A.x g.ps.length A.xc) (mkPlaceL m0 g.ps.length)∧OwnRo w3 B (.slice A.y g.ros.length A.yc) (mkRoL (m0+4 * g.ps.length) L)):=by
  have hcu:∀ k,cfBk (.slice A.x g.ps.length A.xc) (.slice A.y g.ros.length A.yc) L k→k<w2.heap.size∧Value.ownBlock (.slice A.la g.fl.length A.lc) ≠ some k:=fun k e=>⟨Nat.lt_trans (HLC.out.1 k e) A2.out,fun e'=>(alc.out k e').1 e⟩
  refine ⟨own_keep P2.out.1 k3 (fun k e=>hcu k (.inl e)),P2.out.2.keepB (fun k e=>k3.block k (hcu k (.inr ?_)))⟩
  exact (roBk_mk (.slice A.y g.ros.length A.yc) L (m0+4 * g.ps.length) k).1 e
 have G3:Hid (Own4 w3 B (.slice A.ua g.us.length A.uc) (.slice A.sa g.ss.length A.sc) (.slice A.fa g.fs.length A.fc) (.slice A.ra g.es.length A.rc) (mkUserL (gtN1 m0 g L) g.us.length) (mkSessionL (gtN1 m0 g L+6 * g.us.length) g.ss.length) (mkFailL (gtN1 m0 g L+6 * g.us.length+10 * g.ss.length) g.fs.length) (mkRecordL (gtN1 m0 g L+6 * g.us.length+10 * g.ss.length+3 * g.fs.length) g.es.length)):=by
  have hcu:∀ k,guBk A g k→k<w2.heap.size∧Value.ownBlock (.slice A.la g.fl.length A.lc) ≠ some k:=fun k e=>⟨Nat.lt_trans (HLC.out.2.1 k e) A2.out,fun e'=>(alc.out k e').2.1 e⟩
  exact own4_keep G2.out k3 (fun k e=>hcu k (.inl e)) (fun k e=>hcu k (.inr (.inl e))) (fun k e=>hcu k (.inr (.inr (.inl e)))) (fun k e=>hcu k (.inr (.inr (.inr e))))
 have F3:Hid (OwnS wvG 9 159 w3 B (.slice A.la g.fl.length A.lc) (mkFlowL (gtN2 m0 g L) g.fl.length)):=f3
 have C3:Hid (OwnS cnG 11 162 w3 B (.slice A.ca g.co.length A.cc) g.co):=own_keep C2.out k3 (fun k e=>⟨Nat.lt_trans (HLC.out.2.2.2 k e) A2.out,(aoc.out k e).2.2⟩)
 clear HF f3 g3 k3 B2 K2 A2 P2 G2 F2 C2 c13
 have c14:w3.cell? ⟨w.heap.size,14,none⟩=some (.slice A.ca g.co.length A.cc):=B3.out.cell 14 rfl
 go_wp2_with fail
 refine (HN.out _ C3.out).mono ?_
 rintro e w4 ⟨rfl,f4,g4⟩
 have k4:Rel.Keep (fun k=>k<w3.heap.size∧Value.ownBlock (.slice A.ca g.co.length A.cc) ≠ some k) w3 w4:=⟨g4.os,g4.tape,g4.output,g4.size,fun k hk=>g4.block k hk.1 (fun e=>hk.2 e.symm)⟩
 have FIN:Hid (MkdGt w4 B A g L m0∧Rel.Keep (fun k=>k<w.heap.size∧¬ gtBk A g L k) w w4):=by
  have hcu:∀ k,cfBk (.slice A.x g.ps.length A.xc) (.slice A.y g.ros.length A.yc) L k→k<w3.heap.size∧Value.ownBlock (.slice A.ca g.co.length A.cc) ≠ some k:=fun k e=>⟨Nat.lt_trans (HLC.out.1 k e) A3.out,fun e'=>(aoc.out k e').1 e⟩
  have hgu:∀ k,guBk A g k→k<w3.heap.size∧Value.ownBlock (.slice A.ca g.co.length A.cc) ≠ some k:=fun k e=>⟨Nat.lt_trans (HLC.out.2.1 k e) A3.out,fun e'=>(aoc.out k e').2.1 e⟩
  refine ⟨⟨own_keep P3.out.1 k4 (fun k e=>hcu k (.inl e)),P3.out.2.keepB (fun k e=>k4.block k (hcu k (.inr ((roBk_mk (.slice A.y g.ros.length A.yc) L (m0+4 * g.ps.length) k).1 e)))),own4_keep G3.out k4 (fun k e=>hgu k (.inl e)) (fun k e=>hgu k (.inr (.inl e))) (fun k e=>hgu k (.inr (.inr (.inl e)))) (fun k e=>hgu k (.inr (.inr (.inr e)))),own_keep F3.out k4 (fun k e=>⟨Nat.lt_trans (HLC.out.2.2.1 k e) A3.out,(alc.out k e).2.2⟩),f4⟩,K3.out.trans (k4.mono fun k hk=>⟨Nat.lt_trans hk.1 A3.out,fun e=>hk.2 (.inr (.inr (.inr e)))⟩)⟩
 clear HN f4 g4 k4 B3 K3 A3 P3 G3 F3 C3 c14
 go_wp2
 go_ret
 exact ⟨rfl,FIN.out⟩
set_option maxHeartbeats 4000000 in
theorem heldRoleS_any (a:Option Addr) (n cap B m0:Nat) (L:List RoX) (w:World) (h:OwnRo w B (.slice a n cap) (mkRoL m0 L)) (h0:0<m0) (hm:m0+roN L≤100000000000) (hn9:n≤1048576) :
  Calls Tryz.prog 108 #[.slice a n cap,.int .i64 (m0:Int)] w fun e w'=>e=.returned (.int .i64 ((m0+roN L:Nat):Int))∧Grw w w':=by
 have H:Hid (OwnRo w B (.slice a n cap) (mkRoL m0 L)):=h
 have hn:L.length=n:=by have:=h.row.len;rwa [mkRoL_len] at this
 clear h
 have hmix:Tryz.prog.follows .mixedOrders=true:=by kernel_rfl
 go_enter Tryz.func108,Tryz.ntmps108
 go_wp2
 go_loopw [1,5] (fun m i wr=>∃ k M:Nat,k≤n∧i=.int .i64 k∧m=.int .i64 (M:Int)∧Hid (M=m0+roN (L.take k))∧Hid (Grw w wr)) (fun _ i _=>n - (intOf i).toNat)
 case atStart=>exact ⟨0,m0,Nat.zero_le _,rfl,rfl,by show m0=_;simp [roN],Grw.refl w⟩
 case round =>
  obtain ⟨k,M,hk,rfl,rfl,hM,HG⟩:=hrel
  by_cases hlt:k<n
  ·have hkl:k<L.length:=by omega
   obtain ⟨x,hxL⟩:=at_of (xs:=L) rfl hkl
   have hx:=mkRoL_at (M:=m0) hxL
   rw [← hM.out] at hx
   have O:=H.out.now HG.out.below
   obtain ⟨g,rfl,hBg,hg,-⟩:=O.row.form (by rw [mkRoL_len];omega)
   have hltz:(k:Int)<(n:Int):=by omega
   have hle:=roN_le L (k+1)
   have hst:=roN_step hxL
   have hMz:(M:Int)+6 * (x.r.rs.length:Int)+4≤200000000000:=by have:=hM.out;omega
   have hMn:M+1+6 * x.r.rs.length≤100000000000:=by have:=hM.out;omega
   have hM0:0<M:=by have:=hM.out;omega
   have HMN:Hid (M+(4+6 * x.r.rs.length)=m0+roN (L.take (k+1))):=by show _=_;rw [hst,hM.out];omega
   have hK0:(0:Int)≤6 * (x.r.rs.length:Int):=by omega
   have OR:Hid (OwnS rv 6 156 wr B (.slice x.ra x.r.rs.length x.rc) (mkRuleL (M+1) x.r.rs.length)):=by
    have:=O.rules _ (List.mem_of_getElem? hx)
    rw [mkRo_sl] at this
    exact this
   obtain ⟨q0,-⟩:=O.row.cell roG_len (j:=0) hx rfl
   obtain ⟨q1,-⟩:=O.row.cell roG_len (j:=1) hx rfl
   obtain ⟨q2,-⟩:=O.row.cell roG_len (j:=2) hx rfl
   obtain ⟨q3,-⟩:=O.row.cell roG_len (j:=3) hx rfl
   obtain ⟨q4,-⟩:=O.row.cell roG_len (j:=4) hx rfl
   clear hle hst hxL O hx
   obtain ⟨K1,hK1⟩:∃ K1,(M:Int)+1+6 * (x.r.rs.length:Int)=K1:=⟨_,rfl⟩
   have hK1z:K1≤300000000000:=by omega
   have hK10:0≤K1:=by omega
   have HK1:Hid ((M:Int)+1+6 * (x.r.rs.length:Int)=K1):=hK1
   replace q0:wr.cell? ⟨g,k * 5,none⟩=some (.string (mtS M)):=q0
   replace q1:wr.cell? ⟨g,k * 5+1,none⟩=some (.slice x.ra x.r.rs.length x.rc):=by rw [q1];show some (Value.slice x.ra (mkRuleL (M+1) x.r.rs.length).length x.rc)=_;rw [mkRuleL_len]
   replace q2:wr.cell? ⟨g,k * 5+2,none⟩=some (.int .i64 K1):=by rw [q2,← hK1];rfl
   replace q3:wr.cell? ⟨g,k * 5+3,none⟩=some (.int .i64 (K1+1)):=by rw [q3,← hK1];rfl
   replace q4:wr.cell? ⟨g,k * 5+4,none⟩=some (.int .i64 (K1+1+1)):=by rw [q4,← hK1];rfl
   have HM0:Hid (∀ w,Calls Tryz.prog 105 #[.int .i64 (M:Int)] w fun e w'=>e=.returned (.string (mtS M))∧Grw w w'):=fun w=>markText_any M w (by omega) (by omega)
   have HR:Hid (∀ W,Grw wr W→Calls Tryz.prog 146 #[.slice x.ra x.r.rs.length x.rc,.int .i64 ((M:Int)+1)] W fun e w'=>e=.returned (.int .i64 K1)∧Grw W w'):=by
    intro W hW
    have o:=(OR.out.now hW.below).rw (ok:=RuRok) rv_len (mkRuleL_ok _ _ (by omega))
    have:=heldRuleS_any x.ra x.r.rs.length x.rc (M+1) W o (by omega) (by omega)
    rw [show ((M+1:Nat):Int)=(M:Int)+1 by omega,show ((M+1+6 * x.r.rs.length:Nat):Int)=K1 by omega] at this
    exact this
   have hMz2:(M:Int)≤200000000000:=by omega
   clear hK1 hMz hMn hK0
   generalize mtS M=T0 at *
   have t0:(T0.toList == T0.toList)=true:=by simp
   have e2:(K1 != K1)=false:=by simp
   have e3:((K1+1) != (K1+1))=false:=by simp
   have e4:((K1+1+1) != (K1+1+1))=false:=by simp
   have y0:∀ n os,(grow (wr.drewN n) os).cell? ⟨g,k * 5,none⟩=some (.string T0):=fun n os=>bkeep (Grw.below ⟨n,os,rfl⟩) q0
   go_wp2_with fail
   refine wp_region_quiet_grown (by assumption) (by kernel_rfl) ?_
   repeat (go_big_quiet_step (first | fail | (go_at_call 105;exact Calls.grown_of (HM0.out _))))
   refine wpQuiet_nil ?_
   intro _ hw'
   obtain ⟨⟨nq,osq⟩,hw''⟩:=hw'
   subst hw''
   have HG0:Hid (Grw wr (grow (wr.drewN nq) osq)):=⟨nq,osq,rfl⟩
   replace q1:=bkeep HG0.out.below q1
   replace q2:=bkeep HG0.out.below q2
   replace q3:=bkeep HG0.out.below q3
   replace q4:=bkeep HG0.out.below q4
   clear y0 q0 HM0
   generalize (grow (wr.drewN nq) osq)=wv0 at *
   go_wp2_with fail
   refine (HR.out _ HG0.out).mono ?_
   rintro e w2 ⟨rfl,g2⟩
   have HG2:Hid (Grw w w2):=(HG.out.trans HG0.out).trans g2
   replace q2:=bkeep g2.below q2
   replace q3:=bkeep g2.below q3
   replace q4:=bkeep g2.below q4
   clear HR OR HG HG0 g2 q1
   go_wp2
   go_roundw
   case rel=>exact ⟨k+1,M+(4+6 * x.r.rs.length),by omega,by go_num,by rw [show ((M+(4+6 * x.r.rs.length):Nat):Int)=K1+1+1+1 by have:=HK1.out;omega],HMN,HG2⟩
   case measure=>simp [intOf];omega
  ·obtain rfl:k=n:=by omega
   have hM2:=hM.out
   rw [← hn,List.take_length] at hM2
   subst hM2
   go_wp2
   go_ret
   exact ⟨rfl,HG.out⟩
set_option maxHeartbeats 4000000 in
theorem heldConfig_any (ip b gt:Int) (gm wm:ByteArray) (rs:Int) (x y:Option Addr) (lenx capx leny capy:Nat) (L:List RoX) (B m0:Nat) (w:World) (h:OwnS pv 4 135 w B (.slice x lenx capx) (mkPlaceL m0 lenx)) (h2:OwnRo w B (.slice y leny capy) (mkRoL (m0+4 * lenx) L)) (h0:0<m0) (hm:m0+4 * lenx+roN L≤100000000000) (hy:leny≤1048576) :
  Calls Tryz.prog 56 #[.agg #[.int .i64 ip,.int .i64 b,.int .i64 gt,.string gm,.string wm,.int .i64 rs,.slice x lenx capx,.slice y leny capy],.int .i64 (m0:Int)] w fun e w'=>e=.returned (.int .i64 ((m0+4 * lenx+roN L:Nat):Int))∧Grw w w':=by
 have G0:Bx (w.alloc (.cells #[.int .i64 ip,.int .i64 b,.int .i64 gt,.string gm,.string wm,.int .i64 rs,.slice x lenx capx,.slice y leny capy] 40)) w.heap.size [.int .i64 ip,.int .i64 b,.int .i64 gt,.string gm,.string wm,.int .i64 rs,.slice x lenx capx,.slice y leny capy]:=Bx.new w #[.int .i64 ip,.int .i64 b,.int .i64 gt,.string gm,.string wm,.int .i64 rs,.slice x lenx capx,.slice y leny capy] 40
 have K0:Hid (Grw w (w.alloc (.cells #[.int .i64 ip,.int .i64 b,.int .i64 gt,.string gm,.string wm,.int .i64 rs,.slice x lenx capx,.slice y leny capy] 40))):=(Grw.refl _).alloc _
 have c6:=G0.cell 6 rfl
 have H0:=heldPlaceS_any x lenx capx m0 _ ((h.now K0.out.below).rw (ok:=PlRok) pv_len (mkPlaceL_ok _ _ (by omega))) h0 (by omega)
 have H1:Hid (∀ W,Grw w W→Calls Tryz.prog 108 #[.slice y leny capy,.int .i64 ((m0+4 * lenx:Nat):Int)] W fun e w'=>e=.returned (.int .i64 ((m0+4 * lenx+roN L:Nat):Int))∧Grw W w'):=fun W hW=>heldRoleS_any y leny capy B (m0+4 * lenx) L W (h2.now hW.below) (by omega) (by omega) hy
 obtain ⟨n1,hn1⟩:∃ n1,((m0+4 * lenx:Nat):Int)=n1:=⟨_,rfl⟩
 obtain ⟨n2,hn2⟩:∃ n2,((m0+4 * lenx+roN L:Nat):Int)=n2:=⟨_,rfl⟩
 have e1:decide (n1<0)=false:=decide_eq_false (by omega)
 have e2:decide (n2<0)=false:=decide_eq_false (by omega)
 rw [hn1] at H0 H1
 rw [hn2] at H1 ⊢
 clear hn1 hn2 h h2 h0 hm
 go_enter Tryz.func56,Tryz.ntmps56
 go_wp2_with fail
 refine H0.mono ?_
 rintro e w1 ⟨rfl,g0⟩
 have K1:Hid (Grw w w1):=K0.out.trans g0
 have c7:=(G0.below g0.below).cell 7 rfl
 clear H0 g0 G0 K0 c6
 go_wp2_with fail
 refine (H1.out _ K1.out).mono ?_
 rintro e w2 ⟨rfl,g1⟩
 have K2:Hid (Grw w w2):=K1.out.trans g1
 clear H1 g1 K1 c7
 go_wp2
 go_ret
 exact ⟨rfl,K2.out⟩
set_option maxHeartbeats 8000000 in
theorem heldGateway_any (A:GtA) (g:GtV) (L:List RoX) (B m0:Nat) (w:World) (h:MkdGt w B A g L m0) (h0:0<m0) (hm:gtN4 m0 g L≤100000000000) (hy:g.ros.length≤1048576) :
  Calls Tryz.prog 17 #[.agg #[.int .i64 g.ip,.int .i64 g.b,.int .i64 g.gt,.string g.gm,.string g.wm,.int .i64 g.rs,.slice A.x g.ps.length A.xc,.slice A.y g.ros.length A.yc,.slice A.ua g.us.length A.uc,.slice A.sa g.ss.length A.sc,.slice A.fa g.fs.length A.fc,.slice A.ra g.es.length A.rc,.int .i64 g.nx,.slice A.la g.fl.length A.lc,.slice A.ca g.co.length A.cc,.int .i64 g.nw,.int .i64 g.dr,.int .i64 g.sn],.int .i64 (m0:Int)] w fun e w'=>e=.returned (.int .i64 ((gtN4 m0 g L:Nat):Int))∧Grw w w':=by
 have B0:Hid (Bx (w.alloc (.cells #[.int .i64 g.ip,.int .i64 g.b,.int .i64 g.gt,.string g.gm,.string g.wm,.int .i64 g.rs,.slice A.x g.ps.length A.xc,.slice A.y g.ros.length A.yc,.slice A.ua g.us.length A.uc,.slice A.sa g.ss.length A.sc,.slice A.fa g.fs.length A.fc,.slice A.ra g.es.length A.rc,.int .i64 g.nx,.slice A.la g.fl.length A.lc,.slice A.ca g.co.length A.cc,.int .i64 g.nw,.int .i64 g.dr,.int .i64 g.sn] 50)) w.heap.size [.int .i64 g.ip,.int .i64 g.b,.int .i64 g.gt,.string g.gm,.string g.wm,.int .i64 g.rs,.slice A.x g.ps.length A.xc,.slice A.y g.ros.length A.yc,.slice A.ua g.us.length A.uc,.slice A.sa g.ss.length A.sc,.slice A.fa g.fs.length A.fc,.slice A.ra g.es.length A.rc,.int .i64 g.nx,.slice A.la g.fl.length A.lc,.slice A.ca g.co.length A.cc,.int .i64 g.nw,.int .i64 g.dr,.int .i64 g.sn]):=Bx.new w #[.int .i64 g.ip,.int .i64 g.b,.int .i64 g.gt,.string g.gm,.string g.wm,.int .i64 g.rs,.slice A.x g.ps.length A.xc,.slice A.y g.ros.length A.yc,.slice A.ua g.us.length A.uc,.slice A.sa g.ss.length A.sc,.slice A.fa g.fs.length A.fc,.slice A.ra g.es.length A.rc,.int .i64 g.nx,.slice A.la g.fl.length A.lc,.slice A.ca g.co.length A.cc,.int .i64 g.nw,.int .i64 g.dr,.int .i64 g.sn] 50
 have K0:Hid (Grw w (w.alloc (.cells #[.int .i64 g.ip,.int .i64 g.b,.int .i64 g.gt,.string g.gm,.string g.wm,.int .i64 g.rs,.slice A.x g.ps.length A.xc,.slice A.y g.ros.length A.yc,.slice A.ua g.us.length A.uc,.slice A.sa g.ss.length A.sc,.slice A.fa g.fs.length A.fc,.slice A.ra g.es.length A.rc,.int .i64 g.nx,.slice A.la g.fl.length A.lc,.slice A.ca g.co.length A.cc,.int .i64 g.nw,.int .i64 g.dr,.int .i64 g.sn] 50))):=(Grw.refl _).alloc _
 have hm1:gtN1 m0 g L+6 * g.us.length+10 * g.ss.length+3 * g.fs.length+5 * g.es.length+9 * g.fl.length+11 * g.co.length≤100000000000:=hm
 have hm2:gtN1 m0 g L=m0+4 * g.ps.length+roN L:=rfl
 have HC:Hid (∀ W,Grw w W→Calls Tryz.prog 56 #[.agg #[.int .i64 g.ip,.int .i64 g.b,.int .i64 g.gt,.string g.gm,.string g.wm,.int .i64 g.rs,.slice A.x g.ps.length A.xc,.slice A.y g.ros.length A.yc],.int .i64 (m0:Int)] W fun e w'=>e=.returned (.int .i64 ((gtN1 m0 g L:Nat):Int))∧Grw W w'):=fun W hW=>heldConfig_any g.ip g.b g.gt g.gm g.wm g.rs A.x A.y g.ps.length A.xc g.ros.length A.yc L B m0 W (h.ps.now hW.below) (h.rs.now hW.below) h0 (by omega) hy
 have HU:Hid (∀ W,Grw w W→Calls Tryz.prog 57 #[.agg #[.slice A.ua g.us.length A.uc,.slice A.sa g.ss.length A.sc,.slice A.fa g.fs.length A.fc,.slice A.ra g.es.length A.rc,.int .i64 g.nx],.int .i64 ((gtN1 m0 g L:Nat):Int)] W fun e w'=>e=.returned (.int .i64 ((gtN2 m0 g L:Nat):Int))∧Grw W w'):=fun W hW=>heldGuests_any A.ua A.sa A.fa A.ra g.us.length A.uc g.ss.length A.sc g.fs.length A.fc g.es.length A.rc g.nx (gtN1 m0 g L) W ((h.gu.u.now hW.below).rw (ok:=UsRok) uvG_len (mkUserL_ok _ _ (by omega))) ((h.gu.s.now hW.below).rw (ok:=SeRok) svG_len (mkSessionL_ok _ _ (by omega))) ((h.gu.f.now hW.below).rw (ok:=FaRok) fvG_len (mkFailL_ok _ _ (by omega))) ((h.gu.r.now hW.below).rw (ok:=ReRok) evG_len (mkRecordL_ok _ _ (by omega))) (by omega) (by omega)
 have HF:Hid (∀ W,Grw w W→Calls Tryz.prog 58 #[(.slice A.la g.fl.length A.lc),.int .i64 ((gtN2 m0 g L:Nat):Int)] W fun e w'=>e=.returned (.int .i64 ((gtN3 m0 g L:Nat):Int))∧Grw W w'):=fun W hW=>heldFlowS_any A.la g.fl.length A.lc (gtN2 m0 g L) W ((h.fl.now hW.below).rw (ok:=FlRok) wvG_len (mkFlowL_ok _ _ (by unfold gtN2;omega))) (by unfold gtN2;omega) (by unfold gtN2;omega)
 have HN:Hid (∀ W,Grw w W→Calls Tryz.prog 59 #[(.slice A.ca g.co.length A.cc),.int .i64 ((gtN3 m0 g L:Nat):Int)] W fun e w'=>e=.returned (.int .i64 ((gtN4 m0 g L:Nat):Int))∧Grw W w'):=fun W hW=>heldConnS_any A.ca g.co.length A.cc (gtN3 m0 g L) W ((h.co.now hW.below).rw (ok:=CnRok) cnG_len (mkConnL_ok _ _ (by unfold gtN3 gtN2;omega))) (by unfold gtN3 gtN2;omega) (by unfold gtN3 gtN2;omega)
 obtain ⟨n1,hn1⟩:∃ n1,((gtN1 m0 g L:Nat):Int)=n1:=⟨_,rfl⟩
 obtain ⟨n2,hn2⟩:∃ n2,((gtN2 m0 g L:Nat):Int)=n2:=⟨_,rfl⟩
 obtain ⟨n3,hn3⟩:∃ n3,((gtN3 m0 g L:Nat):Int)=n3:=⟨_,rfl⟩
 obtain ⟨n4,hn4⟩:∃ n4,((gtN4 m0 g L:Nat):Int)=n4:=⟨_,rfl⟩
 have e1:decide (n1<0)=false:=decide_eq_false (by omega)
 have e2:decide (n2<0)=false:=decide_eq_false (by omega)
 have e3:decide (n3<0)=false:=decide_eq_false (by omega)
 have e4:decide (n4<0)=false:=decide_eq_false (by omega)
 rw [hn1] at HC HU
 rw [hn2] at HU HF
 rw [hn3] at HF HN
 rw [hn4] at HN ⊢
 clear hn1 hn2 hn3 hn4 h h0 hm hy hm1 hm2
 go_enter Tryz.func17,Tryz.ntmps17
 go_wp2_with (first | (refine wpl_getO 40 rfl _ rfl w.heap.size 0 [.int .i64 g.ip,.int .i64 g.b,.int .i64 g.gt,.string g.gm,.string g.wm,.int .i64 g.rs,.slice A.x g.ps.length A.xc,.slice A.y g.ros.length A.yc] rfl B0.out rfl _ Tryz.underlying40 rfl rfl ?_) | (refine wpl_getO 46 rfl _ rfl w.heap.size 8 [.slice A.ua g.us.length A.uc,.slice A.sa g.ss.length A.sc,.slice A.fa g.fs.length A.fc,.slice A.ra g.es.length A.rc,.int .i64 g.nx] rfl B0.out rfl _ Tryz.underlying46 rfl rfl ?_) | fail)
 refine (HC.out _ K0.out).mono ?_
 rintro e w1 ⟨rfl,g0⟩
 have K1:Hid (Grw w w1):=K0.out.trans g0
 have B1:Hid (Bx w1 w.heap.size [.int .i64 g.ip,.int .i64 g.b,.int .i64 g.gt,.string g.gm,.string g.wm,.int .i64 g.rs,.slice A.x g.ps.length A.xc,.slice A.y g.ros.length A.yc,.slice A.ua g.us.length A.uc,.slice A.sa g.ss.length A.sc,.slice A.fa g.fs.length A.fc,.slice A.ra g.es.length A.rc,.int .i64 g.nx,.slice A.la g.fl.length A.lc,.slice A.ca g.co.length A.cc,.int .i64 g.nw,.int .i64 g.dr,.int .i64 g.sn]):=B0.out.below g0.below
 clear HC g0 B0 K0
 go_wp2_with (first | (refine wpl_getO 40 rfl _ rfl w.heap.size 0 [.int .i64 g.ip,.int .i64 g.b,.int .i64 g.gt,.string g.gm,.string g.wm,.int .i64 g.rs,.slice A.x g.ps.length A.xc,.slice A.y g.ros.length A.yc] rfl B1.out rfl _ Tryz.underlying40 rfl rfl ?_) | (refine wpl_getO 46 rfl _ rfl w.heap.size 8 [.slice A.ua g.us.length A.uc,.slice A.sa g.ss.length A.sc,.slice A.fa g.fs.length A.fc,.slice A.ra g.es.length A.rc,.int .i64 g.nx] rfl B1.out rfl _ Tryz.underlying46 rfl rfl ?_) | fail)
 refine (HU.out _ K1.out).mono ?_
 rintro e w2 ⟨rfl,g0⟩
 have K2:Hid (Grw w w2):=K1.out.trans g0
 have B2:Hid (Bx w2 w.heap.size [.int .i64 g.ip,.int .i64 g.b,.int .i64 g.gt,.string g.gm,.string g.wm,.int .i64 g.rs,.slice A.x g.ps.length A.xc,.slice A.y g.ros.length A.yc,.slice A.ua g.us.length A.uc,.slice A.sa g.ss.length A.sc,.slice A.fa g.fs.length A.fc,.slice A.ra g.es.length A.rc,.int .i64 g.nx,.slice A.la g.fl.length A.lc,.slice A.ca g.co.length A.cc,.int .i64 g.nw,.int .i64 g.dr,.int .i64 g.sn]):=B1.out.below g0.below
 clear HU g0 B1 K1
 have c13:w2.cell? ⟨w.heap.size,13,none⟩=some (.slice A.la g.fl.length A.lc):=B2.out.cell 13 rfl
 go_wp2_with fail
 refine (HF.out _ K2.out).mono ?_
 rintro e w3 ⟨rfl,g0⟩
 have K3:Hid (Grw w w3):=K2.out.trans g0
 have B3:Hid (Bx w3 w.heap.size [.int .i64 g.ip,.int .i64 g.b,.int .i64 g.gt,.string g.gm,.string g.wm,.int .i64 g.rs,.slice A.x g.ps.length A.xc,.slice A.y g.ros.length A.yc,.slice A.ua g.us.length A.uc,.slice A.sa g.ss.length A.sc,.slice A.fa g.fs.length A.fc,.slice A.ra g.es.length A.rc,.int .i64 g.nx,.slice A.la g.fl.length A.lc,.slice A.ca g.co.length A.cc,.int .i64 g.nw,.int .i64 g.dr,.int .i64 g.sn]):=B2.out.below g0.below
 clear HF g0 B2 K2 c13
 have c14:w3.cell? ⟨w.heap.size,14,none⟩=some (.slice A.ca g.co.length A.cc):=B3.out.cell 14 rfl
 go_wp2_with fail
 refine (HN.out _ K3.out).mono ?_
 rintro e w4 ⟨rfl,g0⟩
 have K4:Hid (Grw w w4):=K3.out.trans g0
 clear HN g0 B3 K3 c14
 go_wp2
 go_ret
 exact ⟨rfl,K4.out⟩
theorem gtC_inj {A A':GtA} {g:GtV} (e:gtC A g=gtC A' g):A=A':=by
 cases A;cases A'
 simp only [gtC,List.cons.injEq,Value.slice.injEq] at e
 simp_all
theorem OwnGt.keep {w w':World} {B:Nat} {A:GtA} {g:GtV} {L:List RoX} (h:OwnGt w B A g L) (hk:∀ b,gtBk A g L b→w'.heap[b]?=w.heap[b]?):OwnGt w' B A g L :=
 ⟨h.ro,Rlw.own_loc h.ps (fun k e=>hk k (.inl (.inl e))),h.rs.keepB (fun b hb=>hk b (.inl (.inr hb))),⟨Rlw.own_loc h.gu.u (fun k e=>hk k (.inr (.inl (.inl e)))),Rlw.own_loc h.gu.s (fun k e=>hk k (.inr (.inl (.inr (.inl e))))),Rlw.own_loc h.gu.f (fun k e=>hk k (.inr (.inl (.inr (.inr (.inl e)))))),Rlw.own_loc h.gu.r (fun k e=>hk k (.inr (.inl (.inr (.inr (.inr e)))))),h.gu.us_,h.gu.uf,h.gu.ur,h.gu.sf,h.gu.sr,h.gu.fr⟩,Rlw.own_loc h.fl (fun k e=>hk k (.inr (.inr (.inl e)))),Rlw.own_loc h.co (fun k e=>hk k (.inr (.inr (.inr e))))⟩
theorem OwnGt.uniq {w:World} {B B':Nat} {A:GtA} {g:GtV} {L L':List RoX} (h:OwnGt w B A g L) (h':OwnGt w B' A g L'):L=L':=h.rs.uniq h'.rs (h.ro.trans h'.ro.symm)
def kGt (g:GtV):Knd where
 own:=fun w B v=>∃ A L,v=.agg (gtC A g).toArray∧OwnGt w B A g L
 bk:=fun w v b=>∃ A L B,v=.agg (gtC A g).toArray∧OwnGt w B A g L∧gtBk A g L b
 keep:=fun w w' B v ⟨A,L,hv,h⟩ hk=>by
  have h2:=h.keep (w':=w') (fun b hb=>hk b ⟨A,L,B,hv,h,hb⟩)
  refine ⟨⟨A,L,hv,h2⟩,?_⟩
  rintro b ⟨A',L',B',hv',h',hb⟩
  cases gtC_inj (agg_inj (hv.symm.trans hv'))
  cases h2.uniq h'
  exact ⟨A,L,B,hv,h,hb⟩
 lt:=fun w B v ⟨A,L,hv,h⟩ b ⟨A',L',B',hv',h',hb⟩=>by
  cases gtC_inj (agg_inj (hv.symm.trans hv'))
  cases h.uniq h'
  exact h.lt b hb
 lower:=fun w B B' v ⟨A,L,hv,h⟩ hB=>⟨A,L,hv,h.lower hB⟩
theorem leafG {G:GtV} {k:Int} {w:World} {B:Nat} {a b c d:Value} (f:(Knd.two (kGt G) (Knd.val (.int .i64 k))).own w B a) (g:b=a∧∃ R,b=.tuple #[.agg (gtC R G).toArray,.int .i64 k]) (e:∃ R,c=.agg (gtC R G).toArray∧b=.tuple #[c,.int .i64 k]) (p:∃ cs:List Value,c=.agg cs.toArray∧Rlw.boxF cs d w) :
  ∃ R X n,d=.pointer (some ⟨n,0,none⟩)∧OwnGt w B R G X∧Bx w n (gtC R G)∧(∀ x,gtBk R G X x→(Knd.two (kGt G) (Knd.val (.int .i64 k))).bk w a x):=by
 obtain ⟨a1,a2,ha,⟨R,X,hR,ho⟩,h2⟩:=f
 obtain ⟨R',hc,hb⟩:=e
 obtain ⟨cs,hcs,n,hn,hx⟩:=p
 have e1:=ha.symm.trans (g.1.symm.trans hb)
 injection e1 with e1
 injection e1 with e1
 injection e1 with e1
 have e2:gtC R G=cs:=agg_inj (hR.symm.trans (e1.trans hcs))
 subst e2
 exact ⟨R,X,n,hn,ho,hx,fun x hx=>⟨a1,a2,ha,.inl ⟨R,X,_,hR,ho,hx⟩⟩⟩
theorem gt_eq (A A':GtA) (g:GtV) (w:World) (h:GtR w A g) (h':GtR w A' g) (hs:GtS g) :
  Calls Tryz.prog 11 #[.agg #[.int .i64 g.ip,.int .i64 g.b,.int .i64 g.gt,.string g.gm,.string g.wm,.int .i64 g.rs,.slice A.x g.ps.length A.xc,.slice A.y g.ros.length A.yc,.slice A.ua g.us.length A.uc,.slice A.sa g.ss.length A.sc,.slice A.fa g.fs.length A.fc,.slice A.ra g.es.length A.rc,.int .i64 g.nx,.slice A.la g.fl.length A.lc,.slice A.ca g.co.length A.cc,.int .i64 g.nw,.int .i64 g.dr,.int .i64 g.sn],.agg #[.int .i64 g.ip,.int .i64 g.b,.int .i64 g.gt,.string g.gm,.string g.wm,.int .i64 g.rs,.slice A'.x g.ps.length A'.xc,.slice A'.y g.ros.length A'.yc,.slice A'.ua g.us.length A'.uc,.slice A'.sa g.ss.length A'.sc,.slice A'.fa g.fs.length A'.fc,.slice A'.ra g.es.length A'.rc,.int .i64 g.nx,.slice A'.la g.fl.length A'.lc,.slice A'.ca g.co.length A'.cc,.int .i64 g.nw,.int .i64 g.dr,.int .i64 g.sn]] w fun e w'=>e=.returned (.bool true)∧Below w.heap.size w w' :=
 (eqGateway_yes A A' g w h h' hs).mono fun e w' h=>⟨h.1,h.2.below⟩
theorem roN_bdG:∀ (L:List RoX),(roN L:Int)≤4 * L.length+6 * szR (L.map (fun x=>x.r))
 | []=>by simp [roN,szR]
 | x :: L=>by
  have:=roN_bdG L
  have n:=szR_nonneg (L.map (fun x=>x.r))
  rw [List.map_cons,szR_cons]
  simp only [roN,List.length_cons]
  omega
def gtN (g:GtV) (L:List RoX):Nat:=gtN4 0 g L
theorem gtN4_add (m0:Nat) (g:GtV) (L:List RoX):gtN4 m0 g L=m0+gtN g L:=by
 unfold gtN gtN4 gtN3 gtN2 gtN1
 omega
theorem gtN_bd {g:GtV} {L:List RoX} (hl:L.map (fun x=>x.r)=g.ros) (hs:GtS g):gtN g L≤80000000:=by
 have h1:=roN_bdG L
 have h2:=hs.szt
 have h3:=hs.ps;have h4:=hs.ros;have h5:=hs.us;have h6:=hs.ss;have h7:=hs.fs;have h8:=hs.es;have h9:=hs.fl;have h10:=hs.co
 rw [hl] at h1
 have h11:L.length=g.ros.length:=by rw [← hl];simp
 unfold gtN gtN4 gtN3 gtN2 gtN1
 omega
theorem gt_mark (A:GtA) (g:GtV) (L:List RoX) (B m0:Nat) (w:World) (h:OwnGt w B A g L) (hs:GtS g) (h0:0<m0) (h1:m0≤1000000000) :
  Calls Tryz.prog 16 #[.agg #[.int .i64 g.ip,.int .i64 g.b,.int .i64 g.gt,.string g.gm,.string g.wm,.int .i64 g.rs,.slice A.x g.ps.length A.xc,.slice A.y g.ros.length A.yc,.slice A.ua g.us.length A.uc,.slice A.sa g.ss.length A.sc,.slice A.fa g.fs.length A.fc,.slice A.ra g.es.length A.rc,.int .i64 g.nx,.slice A.la g.fl.length A.lc,.slice A.ca g.co.length A.cc,.int .i64 g.nw,.int .i64 g.dr,.int .i64 g.sn],.int .i64 (m0:Int)] w fun e w'=>e=.returned (.int .i64 ((m0+gtN g L:Nat):Int))∧MkdGt w' B A g L m0∧Rel.Keep (fun k=>k<w.heap.size∧¬ gtBk A g L k) w w':=by
 have hb:=gtN_bd h.ro hs
 have e:=gtN4_add m0 g L
 refine (markGateway_any A g L B m0 w h h0 (by omega) hs.ros).mono ?_
 rintro e2 w' ⟨h1,h2,h3⟩
 exact ⟨by rw [h1,e],h2,h3⟩
theorem gt_held (A:GtA) (g:GtV) (L:List RoX) (B m0:Nat) (w:World) (hl:L.map (fun x=>x.r)=g.ros) (h:MkdGt w B A g L m0) (hs:GtS g) (h0:0<m0) (h1:m0≤1000000000) :
  Calls Tryz.prog 17 #[.agg #[.int .i64 g.ip,.int .i64 g.b,.int .i64 g.gt,.string g.gm,.string g.wm,.int .i64 g.rs,.slice A.x g.ps.length A.xc,.slice A.y g.ros.length A.yc,.slice A.ua g.us.length A.uc,.slice A.sa g.ss.length A.sc,.slice A.fa g.fs.length A.fc,.slice A.ra g.es.length A.rc,.int .i64 g.nx,.slice A.la g.fl.length A.lc,.slice A.ca g.co.length A.cc,.int .i64 g.nw,.int .i64 g.dr,.int .i64 g.sn],.int .i64 (m0:Int)] w fun e w'=>e=.returned (.int .i64 ((m0+gtN g L:Nat):Int))∧Below w.heap.size w w':=by
 have hb:=gtN_bd hl hs
 have e:=gtN4_add m0 g L
 refine (heldGateway_any A g L B m0 w h h0 (by omega) hs.ros).mono ?_
 rintro e2 w' ⟨h1,h2⟩
 exact ⟨by rw [h1,e],h2.below⟩
theorem zeroGt_sz:GtS zeroGt:=⟨Nat.zero_le _,Nat.zero_le _,Nat.zero_le _,Nat.zero_le _,Nat.zero_le _,Nat.zero_le _,Nat.zero_le _,Nat.zero_le _,Nat.zero_le _,Nat.zero_le _,(fun x hx=>by cases hx),(by decide),(by decide),(by decide),(fun x hx=>by cases hx),(fun x hx=>by cases hx),(by decide)⟩
open Go.RowKit
namespace Rel
end Rel
namespace Rlw
open Rel (Keep)
theorem bx_keepW {w w':World} {q:Nat} {cs:List Value} {P:Nat→Prop} (h:Bx w q cs) (hk:Keep P w w') (hq:P q):Bx w' q cs:=bx_loc h (hk.block q hq)
end Rlw
open Go.RowKit Go.PlainAid Go.Sort
theorem wpl_getW {P:Program} {ops:Array Oper} {rest:List Oper} {op:Oper} {a:Act} {w:World} {Q:Exit→Act→World→Prop} (t:TypeId) (hw:Region.wanted op (yielded ops a.tmps)=true) (x:Operand) (ho:op.op=.load t x)
  (q:Nat) (hx:a.eval x=.pointer (some ⟨q,0,none⟩)) {cs:List Value} (h0:Bx w q cs) (d:TypeDesc) (hu:P.underlying t=some d) (hd:d.isRow=true) (hi:(P.info? t).map (·.size)=some cs.length)
  (h:wpList P ops Q rest (a.put op.dst (.agg cs.toArray)) w):wpList P ops Q (op :: rest) a w:=by
 unfold wpList
 rw [if_pos hw]
 left
 unfold Oper.wp execOp
 simp only [ho,hx,Instr.loadAt,Instr.sureAddr,Sem.run_bind,Sem.run_pure,Result.andThen_ok,run_loadVar_mid w q 0 t cs d h0.cl hu hd hi]
 exact h
end Go.Proofs.YtbeehlhcckndcaaGreat
