/- copyGateway of the program. -/
import Derived.Test.YtbeehlhcckndcaaGreatK11
import Derived.Test.YtbeehlhcckndcaaGreatK12
namespace Go.Proofs.YtbeehlhcckndcaaGreat
open Go.RowKit Go.PlainAid Go.Proofs.YtbeehlhcckndcaaGreat.Bt Go.Sort
set_option linter.unusedVariables false
set_option maxRecDepth 20000
structure CB (w:World) (cs:List Value) (W:World):Prop where
 g:Bx W w.heap.size cs
 r:Bx W (w.heap.size+1) [.int .i64 0,.int .i64 0,.int .i64 0,.string ⟨#[]⟩,.string ⟨#[]⟩,.int .i64 0,.slice none 0 0,.slice none 0 0,.slice none 0 0,.slice none 0 0,.slice none 0 0,.slice none 0 0,.int .i64 0,.slice none 0 0,.slice none 0 0,.int .i64 0,.int .i64 0,.int .i64 0]
 b:Below w.heap.size w W
 z:w.heap.size+2≤W.heap.size
theorem CB.call {w:World} {cs:List Value} {W W':World} (h:CB w cs W) (hb:Below W.heap.size W W'):CB w cs W':=⟨h.g.below hb,h.r.below hb,h.b.trans (hb.mono h.b.size),Nat.le_trans h.z hb.size⟩
theorem CB.put {w:World} {cs:List Value} {W:World} (h:CB w cs W) (o:Nat) (vs:List Value):CB w (sets cs o vs) (W.setCells w.heap.size o vs) :=
 ⟨h.g.sets vs o _ _,h.r.apartO vs (by omega),below_cells (Nat.le_refl _) vs o _ h.b,by rw [(heap_cellsA vs o W).1];exact h.z⟩
theorem CB.row {w:World} {cs:List Value} {W W':World} {k:Nat} (h:CB w cs W) (hg:W.grownBy W' (some k)) (hk:w.heap.size+2≤k):CB w cs W':=by
 have kp:Rel.Keep (fun b=>b<W.heap.size∧b ≠ k) W W':=⟨hg.os,hg.tape,hg.output,hg.size,fun b hb=>hg.block b hb.1 (fun e=>hb.2 (Option.some.inj e))⟩
 have hz:=h.z
 refine ⟨bx_keep h.g kp ⟨by omega,by omega⟩,bx_keep h.r kp ⟨by omega,by omega⟩,?_,Nat.le_trans h.z hg.size⟩
 exact ⟨hg.os.trans h.b.os,hg.tape.trans h.b.tape,hg.output.trans h.b.output,Nat.le_trans h.b.size hg.size,fun b hb=>(hg.block b (by have:=h.b.size;omega) (fun e=>by have:=Option.some.inj e;omega)).trans (h.b.block b hb)⟩
theorem own_putG {α:Type} {c:α→List Value} {K:Nat} {e:TypeId} {B q:Nat} {v:Value} {xs:List α} {W:World} (h:OwnS c K e W B v xs) (hq:q<B) (o:Nat) (vs:List Value):OwnS c K e (W.setCells q o vs) B v xs:=own_cellsB hq vs o W h
theorem ro_putG {W:World} {B q:Nat} {v:Value} {L:List RoX} (h:OwnRo W B v L) (hq:q<B) (o:Nat) (vs:List Value):OwnRo (W.setCells q o vs) B v L :=
 h.keepB (fun b hb=>(heap_cellsA vs o W).2 b (by have:=(h.lt b hb).1;omega))
theorem own4_putG {W:World} {B q:Nat} {vu vs vf vr:Value} {us:List UserV} {ss:List SessV} {fs:List FailV} {rs:List RecV} (h:Own4 W B vu vs vf vr us ss fs rs) (hq:q<B) (o:Nat) (cs:List Value):Own4 (W.setCells q o cs) B vu vs vf vr us ss fs rs :=
 ⟨own_putG h.u hq o cs,own_putG h.s hq o cs,own_putG h.f hq o cs,own_putG h.r hq o cs,h.us_,h.uf,h.ur,h.sf,h.sr,h.fr⟩
theorem roles_lie {w:World} {B n cap:Nat} {y:Option Addr} {ros:List RoleV} {L:List RoX} (o:OwnRo w B (.slice y n cap) L) (hl:L.map (fun x=>x.r)=ros) (h:Rw (RoR 0) 5 w y ros):∀ x,x ∈ L→RoXok x∧x.r.rs.length≤x.rc∧x.rc≤maxLen∧Rw RuR 6 w x.ra x.r.rs∧(∀ p,x.ra=some p→p.spot=none)∧(x.ra=none→x.r.rs.length=0∧x.rc=0):=by
 intro x hx
 obtain ⟨i,hi⟩:=List.getElem?_of_mem hx
 have hlen:=(List.getElem?_eq_some_iff.1 hi).1
 obtain ⟨g,rfl,-,-,-⟩:=o.row.form (by omega)
 have hr:ros[i]?=some x.r:=by rw [← hl,List.getElem?_map,hi];rfl
 have hrl:=(List.getElem?_eq_some_iff.1 hr).1
 obtain ⟨b,off,e,_,hc⟩:=h (by omega)
 cases e
 obtain ⟨vs,hv1,⟨a,c,hvs,h1,h2,h3,h4,_⟩,hv2⟩:=hc i x.r hr
 have c1:=(o.row.cell roG_len (j:=1) hi rfl).1
 have d1:=hv2 1 (.slice a x.r.rs.length c) (by rw [hvs];rfl)
 have e1:(Value.slice x.ra x.r.rs.length x.rc)=.slice a x.r.rs.length c:=by
  have:some (Value.slice x.ra x.r.rs.length x.rc)=some (.slice a x.r.rs.length c):=by
   rw [← c1,← d1];simp
  exact Option.some.inj this
 cases e1
 have hru:=o.rules x hx
 refine ⟨h1,h2,h3,h4,?_,?_⟩
 ·intro p hp
  rcases hru.2 with ⟨e,_⟩ | ⟨g',cap',cur,e,_⟩
  ·unfold RoX.sl at e;simp only [Value.slice.injEq] at e;rw [hp] at e;exact absurd e.1 (by simp)
  ·unfold RoX.sl at e;simp_all
 ·intro hn
  rcases hru.2 with ⟨e,e'⟩ | ⟨g',cap',cur,e,_⟩
  ·unfold RoX.sl at e;simp_all
  ·unfold RoX.sl at e;simp_all
theorem own_spot {α:Type} {c:α→List Value} {K n cap:Nat} {a:Option Addr} {e:TypeId} {B:Nat} {xs:List α} {w:World} (h:OwnS c K e w B (.slice a n cap) xs):xs.length=n∧n≤cap∧(∀ p,a=some p→p.spot=none)∧(a=none→n=0∧cap=0):=by
 have hn:=h.len
 rcases h.2 with ⟨h1,h2⟩ | ⟨g,cap',cur,h1,hB,hg,h3,h4,_⟩
 ·simp only [Value.slice.injEq] at h1
  obtain ⟨rfl,rfl,rfl⟩:=h1
  exact ⟨hn,Nat.le_refl _,fun p e=>(by cases e),fun _=>⟨rfl,rfl⟩⟩
 ·simp only [Value.slice.injEq] at h1
  obtain ⟨rfl,h5,rfl⟩:=h1
  exact ⟨hn,by omega,fun p e=>(by cases e;rfl),fun e=>(by cases e)⟩
structure RI (w:World) (n rc:Nat) (ry:Option Addr) (L:List RoX) (k:Nat) (X:List RoX) (W:World):Prop where
 row:OwnS roG 5 142 W (w.heap.size+2) (.slice ry n rc) X
 map:X.map (fun x=>x.r)=L.map (fun x=>x.r)
 tail:∀ i,k≤i→X[i]?=L[i]?
 own:∀ i x,i<k→X[i]?=some x→OwnS rv 6 156 W (w.heap.size+2) x.sl x.r.rs
 ap:∀ i j x y,i<j→j<k→X[i]?=some x→X[j]?=some y→ApB x.sl y.sl
theorem RI.done {w:World} {n rc:Nat} {ry:Option Addr} {L X:List RoX} {W:World} (h:RI w n rc ry L n X W):OwnRo W (w.heap.size+2) (.slice ry n rc) X:=by
 have hl:=h.row.len
 refine ⟨h.row,fun x hx=>?_,?_⟩
 ·obtain ⟨i,hi⟩:=List.getElem?_of_mem hx
  exact h.own i x (by have:=(List.getElem?_eq_some_iff.1 hi).1;omega) hi
 ·rw [List.pairwise_iff_getElem]
  intro i j hi hj hij
  exact h.ap i j _ _ hij (by omega) (List.getElem?_eq_getElem hi) (List.getElem?_eq_getElem hj)
set_option maxHeartbeats 8000000 in
theorem copyGateway_any (A:GtA) (g:GtV) (L:List RoX) (B:Nat) (w:World) (h:OwnGt w B A g L) (hr:GtR w A g) (hs:GtS g) (hru:∀ x,x ∈ L→x.r.rs.length≤1048576) :
  Calls Tryz.prog 38 #[.agg #[.int .i64 g.ip,.int .i64 g.b,.int .i64 g.gt,.string g.gm,.string g.wm,.int .i64 g.rs,.slice A.x g.ps.length A.xc,.slice A.y g.ros.length A.yc,.slice A.ua g.us.length A.uc,.slice A.sa g.ss.length A.sc,.slice A.fa g.fs.length A.fc,.slice A.ra g.es.length A.rc,.int .i64 g.nx,.slice A.la g.fl.length A.lc,.slice A.ca g.co.length A.cc,.int .i64 g.nw,.int .i64 g.dr,.int .i64 g.sn]] w fun e w'=>∃ (px ry ux sx fx ex lx cx:Option Addr) (pc rc uc sc fc ec lc cc:Nat) (X:List RoX),e=.returned (.agg #[.int .i64 g.ip,.int .i64 g.b,.int .i64 g.gt,.string g.gm,.string g.wm,.int .i64 g.rs,.slice px g.ps.length pc,.slice ry g.ros.length rc,.slice ux g.us.length uc,.slice sx g.ss.length sc,.slice fx g.fs.length fc,.slice ex g.es.length ec,.int .i64 g.nx,.slice lx g.fl.length lc,.slice cx g.co.length cc,.int .i64 g.nw,.int .i64 g.dr,.int .i64 g.sn])∧OwnGt w' w.heap.size ⟨px,ry,ux,sx,fx,ex,lx,cx,pc,rc,uc,sc,fc,ec,lc,cc⟩ g X∧Below w.heap.size w w':=by
 have T0:Hid (CB w [.int .i64 g.ip,.int .i64 g.b,.int .i64 g.gt,.string g.gm,.string g.wm,.int .i64 g.rs,.slice A.x g.ps.length A.xc,.slice A.y g.ros.length A.yc,.slice A.ua g.us.length A.uc,.slice A.sa g.ss.length A.sc,.slice A.fa g.fs.length A.fc,.slice A.ra g.es.length A.rc,.int .i64 g.nx,.slice A.la g.fl.length A.lc,.slice A.ca g.co.length A.cc,.int .i64 g.nw,.int .i64 g.dr,.int .i64 g.sn] ((w.alloc (.cells #[.int .i64 g.ip,.int .i64 g.b,.int .i64 g.gt,.string g.gm,.string g.wm,.int .i64 g.rs,.slice A.x g.ps.length A.xc,.slice A.y g.ros.length A.yc,.slice A.ua g.us.length A.uc,.slice A.sa g.ss.length A.sc,.slice A.fa g.fs.length A.fc,.slice A.ra g.es.length A.rc,.int .i64 g.nx,.slice A.la g.fl.length A.lc,.slice A.ca g.co.length A.cc,.int .i64 g.nw,.int .i64 g.dr,.int .i64 g.sn] 50)).alloc (.cells #[.int .i64 0,.int .i64 0,.int .i64 0,.string ⟨#[]⟩,.string ⟨#[]⟩,.int .i64 0,.slice none 0 0,.slice none 0 0,.slice none 0 0,.slice none 0 0,.slice none 0 0,.slice none 0 0,.int .i64 0,.slice none 0 0,.slice none 0 0,.int .i64 0,.int .i64 0,.int .i64 0] 50))):=by
  refine ⟨?_,?_,?_,?_⟩
  ·exact (Bx.new w #[.int .i64 g.ip,.int .i64 g.b,.int .i64 g.gt,.string g.gm,.string g.wm,.int .i64 g.rs,.slice A.x g.ps.length A.xc,.slice A.y g.ros.length A.yc,.slice A.ua g.us.length A.uc,.slice A.sa g.ss.length A.sc,.slice A.fa g.fs.length A.fc,.slice A.ra g.es.length A.rc,.int .i64 g.nx,.slice A.la g.fl.length A.lc,.slice A.ca g.co.length A.cc,.int .i64 g.nw,.int .i64 g.dr,.int .i64 g.sn] 50).below ((Below.refl _ _).alloc (Nat.le_refl _) _)
  ·have:=Bx.new (w.alloc (.cells #[.int .i64 g.ip,.int .i64 g.b,.int .i64 g.gt,.string g.gm,.string g.wm,.int .i64 g.rs,.slice A.x g.ps.length A.xc,.slice A.y g.ros.length A.yc,.slice A.ua g.us.length A.uc,.slice A.sa g.ss.length A.sc,.slice A.fa g.fs.length A.fc,.slice A.ra g.es.length A.rc,.int .i64 g.nx,.slice A.la g.fl.length A.lc,.slice A.ca g.co.length A.cc,.int .i64 g.nw,.int .i64 g.dr,.int .i64 g.sn] 50)) #[.int .i64 0,.int .i64 0,.int .i64 0,.string ⟨#[]⟩,.string ⟨#[]⟩,.int .i64 0,.slice none 0 0,.slice none 0 0,.slice none 0 0,.slice none 0 0,.slice none 0 0,.slice none 0 0,.int .i64 0,.slice none 0 0,.slice none 0 0,.int .i64 0,.int .i64 0,.int .i64 0] 50
   rw [World.size_alloc] at this
   exact this
  ·exact ((Below.refl _ _).alloc (Nat.le_refl _) _).alloc (by simp) _
  ·simp
 have hn:L.length=g.ros.length:=by rw [← h.ro,List.length_map]
 have HP:Hid (∀ W,Below w.heap.size w W→Calls Tryz.prog 91 #[.slice A.x g.ps.length A.xc] W fun e w'=>∃ (px:Option Addr) (pc:Nat),e=.returned (.slice px g.ps.length pc)∧OwnS pv 4 135 w' W.heap.size (.slice px g.ps.length pc) g.ps∧Below W.heap.size W w'):=fun W hb=>by
  have sp:=own_spot h.ps
  refine (clonePlace_any A.x g.ps.length A.xc g.ps W (hr.ps.keep PlR.kp hb) rfl hs.ps sp.2.1 sp.2.2.1 sp.2.2.2).mono ?_
  rintro e w' ⟨v,rfl,o,b⟩
  obtain ⟨px,pc,rfl,-⟩:=o.slice
  exact ⟨px,pc,rfl,o,b⟩
 have HR:Hid (∀ W,Below w.heap.size w W→Calls Tryz.prog 92 #[.slice A.y g.ros.length A.yc] W fun e w'=>∃ (ry:Option Addr) (rc:Nat),e=.returned (.slice ry g.ros.length rc)∧OwnS roG 5 142 w' W.heap.size (.slice ry g.ros.length rc) L∧Below W.heap.size W w'):=fun W hb=>by
  have sp:=own_spot h.rs.row
  have rw0:=h.rs.row.rw (ok:=RoXok) roG_len (fun x hx=>(roles_lie h.rs h.ro hr.ros x hx).1)
  refine (cloneRole_any A.y g.ros.length A.yc L W (rw0.keep FR.kp hb) hn hs.ros sp.2.1 sp.2.2.1 sp.2.2.2).mono ?_
  rintro e w' ⟨v,rfl,o,b⟩
  obtain ⟨ry,rc,rfl,-⟩:=o.slice
  rw [hn] at o ⊢
  exact ⟨ry,rc,rfl,o,b⟩
 have HQ:Hid (∀ x,x ∈ L→∀ W,Below w.heap.size w W→Calls Tryz.prog 93 #[.slice x.ra x.r.rs.length x.rc] W fun e w'=>∃ (a:Option Addr) (c:Nat),e=.returned (.slice a x.r.rs.length c)∧OwnS rv 6 156 w' W.heap.size (.slice a x.r.rs.length c) x.r.rs∧Below W.heap.size W w'):=fun x hx W hb=>by
  have lie:=roles_lie h.rs h.ro hr.ros x hx
  refine (cloneRule_any x.ra x.r.rs.length x.rc x.r.rs W (lie.2.2.2.1.keep RuR.kp hb) rfl (hru x hx) lie.2.1 lie.2.2.2.2.1 lie.2.2.2.2.2).mono ?_
  rintro e w' ⟨v,rfl,o,b⟩
  obtain ⟨a,c,rfl,-⟩:=o.slice
  exact ⟨a,c,rfl,o,b⟩
 have HU:Hid (∀ W,Below w.heap.size w W→Calls Tryz.prog 94 #[.agg #[.slice A.ua g.us.length A.uc,.slice A.sa g.ss.length A.sc,.slice A.fa g.fs.length A.fc,.slice A.ra g.es.length A.rc,.int .i64 g.nx]] W fun e w'=>∃ (ux sx fx ex:Option Addr) (uc sc fc ec:Nat),e=.returned (.agg #[.slice ux g.us.length uc,.slice sx g.ss.length sc,.slice fx g.fs.length fc,.slice ex g.es.length ec,.int .i64 g.nx])∧Own4 w' W.heap.size (.slice ux g.us.length uc) (.slice sx g.ss.length sc) (.slice fx g.fs.length fc) (.slice ex g.es.length ec) g.us g.ss g.fs g.es∧Below W.heap.size W w'):=fun W hb=>by
  have s1:=own_spot h.gu.u
  have s2:=own_spot h.gu.s
  have s3:=own_spot h.gu.f
  have s4:=own_spot h.gu.r
  refine (copyGuests_any A.ua A.sa A.fa A.ra g.us.length A.uc g.ss.length A.sc g.fs.length A.fc g.es.length A.rc g.us g.ss g.fs g.es g.nx W ⟨hr.us.keep UsR.kp hb,rfl,hs.us,s1.2.1,s1.2.2.1,s1.2.2.2⟩ ⟨hr.ss.keep SeR.kp hb,rfl,hs.ss,s2.2.1,s2.2.2.1,s2.2.2.2⟩ ⟨hr.fs.keep FaR.kp hb,rfl,hs.fs,s3.2.1,s3.2.2.1,s3.2.2.2⟩ ⟨hr.es.keep ReR.kp hb,rfl,hs.es,s4.2.1,s4.2.2.1,s4.2.2.2⟩).mono ?_
  rintro e w' ⟨vu,vs,vf,vr,rfl,o,b⟩
  obtain ⟨ux,uc,rfl,-⟩:=o.u.slice
  obtain ⟨sx,sc,rfl,-⟩:=o.s.slice
  obtain ⟨fx,fc,rfl,-⟩:=o.f.slice
  obtain ⟨ex,ec,rfl,-⟩:=o.r.slice
  exact ⟨ux,sx,fx,ex,uc,sc,fc,ec,rfl,o,b⟩
 have HF:Hid (∀ W,Below w.heap.size w W→Calls Tryz.prog 95 #[.slice A.la g.fl.length A.lc] W fun e w'=>∃ (lx:Option Addr) (lc:Nat),e=.returned (.slice lx g.fl.length lc)∧OwnS wvG 9 159 w' W.heap.size (.slice lx g.fl.length lc) g.fl∧Below W.heap.size W w'):=fun W hb=>by
  have sp:=own_spot h.fl
  refine (cloneFlow_any A.la g.fl.length A.lc g.fl W (hr.fl.keep FR.kp hb) rfl hs.fl sp.2.1 sp.2.2.1 sp.2.2.2).mono ?_
  rintro e w' ⟨v,rfl,o,b⟩
  obtain ⟨lx,lc,rfl,-⟩:=o.slice
  exact ⟨lx,lc,rfl,o,b⟩
 have HN:Hid (∀ W,Below w.heap.size w W→Calls Tryz.prog 96 #[.slice A.ca g.co.length A.cc] W fun e w'=>∃ (cx:Option Addr) (cc:Nat),e=.returned (.slice cx g.co.length cc)∧OwnS cnG 11 162 w' W.heap.size (.slice cx g.co.length cc) g.co∧Below W.heap.size W w'):=fun W hb=>by
  have sp:=own_spot h.co
  refine (cloneConn_any A.ca g.co.length A.cc g.co W (hr.co.keep FR.kp hb) rfl hs.co sp.2.1 sp.2.2.1 sp.2.2.2).mono ?_
  rintro e w' ⟨v,rfl,o,b⟩
  obtain ⟨cx,cc,rfl,-⟩:=o.slice
  exact ⟨cx,cc,rfl,o,b⟩
 have hX:Hid (L.map (fun x=>x.r)=g.ros):=h.ro
 have hros:g.ros.length≤1048576:=hs.ros
 clear h hr hs hru
 have c6:=T0.out.g.cell 6 rfl
 go_enter Tryz.func38,Tryz.ntmps38
 go_wp2_with fail
 refine (HP.out _ T0.out.b).mono ?_
 rintro e w1 ⟨px,pc,rfl,op,bx⟩
 have T1:Hid (CB w [.int .i64 g.ip,.int .i64 g.b,.int .i64 g.gt,.string g.gm,.string g.wm,.int .i64 g.rs,.slice A.x g.ps.length A.xc,.slice A.y g.ros.length A.yc,.slice A.ua g.us.length A.uc,.slice A.sa g.ss.length A.sc,.slice A.fa g.fs.length A.fc,.slice A.ra g.es.length A.rc,.int .i64 g.nx,.slice A.la g.fl.length A.lc,.slice A.ca g.co.length A.cc,.int .i64 g.nw,.int .i64 g.dr,.int .i64 g.sn] w1):=T0.out.call bx
 have op1:Hid (OwnS pv 4 135 w1 (w.heap.size+2) (.slice px g.ps.length pc) g.ps):=op.lower T0.out.z
 clear bx op T0 HP c6
 go_wp2_with (first | (refine wpl_put1 37 rfl _ _ rfl w.heap.size 6 _ rfl rfl T1.out.g rfl rfl rfl ?_;intro w2 hw2;have T2:Hid (CB w [.int .i64 g.ip,.int .i64 g.b,.int .i64 g.gt,.string g.gm,.string g.wm,.int .i64 g.rs,.slice px g.ps.length pc,.slice A.y g.ros.length A.yc,.slice A.ua g.us.length A.uc,.slice A.sa g.ss.length A.sc,.slice A.fa g.fs.length A.fc,.slice A.ra g.es.length A.rc,.int .i64 g.nx,.slice A.la g.fl.length A.lc,.slice A.ca g.co.length A.cc,.int .i64 g.nw,.int .i64 g.dr,.int .i64 g.sn] w2):=(by rw [hw2];exact T1.out.put 6 [.slice px g.ps.length pc]);have op2:Hid (OwnS pv 4 135 w2 (w.heap.size+2) (.slice px g.ps.length pc) g.ps):=(by rw [hw2];exact own_putG op1.out (by omega) 6 [.slice px g.ps.length pc]);clear hw2 T1 op1;have c7:=T2.out.g.cell 7 rfl) | fail)
 refine (HR.out _ T2.out.b).mono ?_
 rintro e w3 ⟨ry,rc,rfl,orw,bx⟩
 have T3:Hid (CB w [.int .i64 g.ip,.int .i64 g.b,.int .i64 g.gt,.string g.gm,.string g.wm,.int .i64 g.rs,.slice px g.ps.length pc,.slice A.y g.ros.length A.yc,.slice A.ua g.us.length A.uc,.slice A.sa g.ss.length A.sc,.slice A.fa g.fs.length A.fc,.slice A.ra g.es.length A.rc,.int .i64 g.nx,.slice A.la g.fl.length A.lc,.slice A.ca g.co.length A.cc,.int .i64 g.nw,.int .i64 g.dr,.int .i64 g.sn] w3):=T2.out.call bx
 have op3:Hid (OwnS pv 4 135 w3 (w.heap.size+2) (.slice px g.ps.length pc) g.ps):=op2.out.now bx
 have or3:Hid (OwnS roG 5 142 w3 (w.heap.size+2) (.slice ry g.ros.length rc) L):=orw.lower T2.out.z
 clear bx orw T2 op2 c7 HR
 go_wp2_with (first | (refine wpl_put1 38 rfl _ _ rfl w.heap.size 7 _ rfl rfl T3.out.g rfl rfl rfl ?_;intro w4 hw4;have T4:Hid (CB w [.int .i64 g.ip,.int .i64 g.b,.int .i64 g.gt,.string g.gm,.string g.wm,.int .i64 g.rs,.slice px g.ps.length pc,.slice ry g.ros.length rc,.slice A.ua g.us.length A.uc,.slice A.sa g.ss.length A.sc,.slice A.fa g.fs.length A.fc,.slice A.ra g.es.length A.rc,.int .i64 g.nx,.slice A.la g.fl.length A.lc,.slice A.ca g.co.length A.cc,.int .i64 g.nw,.int .i64 g.dr,.int .i64 g.sn] w4):=(by rw [hw4];exact T3.out.put 7 [.slice ry g.ros.length rc]);have op4:Hid (OwnS pv 4 135 w4 (w.heap.size+2) (.slice px g.ps.length pc) g.ps):=(by rw [hw4];exact own_putG op3.out (by omega) 7 [.slice ry g.ros.length rc]);have or4:Hid (OwnS roG 5 142 w4 (w.heap.size+2) (.slice ry g.ros.length rc) L):=(by rw [hw4];exact own_putG or3.out (by omega) 7 [.slice ry g.ros.length rc]);clear hw4 T3 op3 or3;have c7:=T4.out.g.cell 7 rfl) | fail)
 go_loopw [21] (fun i wr=>∃ (k:Nat) (X:List RoX),k≤g.ros.length∧i=.int .i64 k∧Hid (RI w g.ros.length rc ry L k X wr)∧Hid (CB w [.int .i64 g.ip,.int .i64 g.b,.int .i64 g.gt,.string g.gm,.string g.wm,.int .i64 g.rs,.slice px g.ps.length pc,.slice ry g.ros.length rc,.slice A.ua g.us.length A.uc,.slice A.sa g.ss.length A.sc,.slice A.fa g.fs.length A.fc,.slice A.ra g.es.length A.rc,.int .i64 g.nx,.slice A.la g.fl.length A.lc,.slice A.ca g.co.length A.cc,.int .i64 g.nw,.int .i64 g.dr,.int .i64 g.sn] wr)∧Hid (OwnS pv 4 135 wr (w.heap.size+2) (.slice px g.ps.length pc) g.ps)) (fun i _=>g.ros.length - (intOf i).toNat)
 case atStart=>exact ⟨0,L,Nat.zero_le _,rfl,⟨or4.out,rfl,fun _ _=>rfl,fun i x hi=>absurd hi (Nat.not_lt_zero _),fun i j x y h1 h2=>absurd h2 (Nat.not_lt_zero _)⟩,T4,op4⟩
 case round =>
  clear or4 T4 op4 c7
  obtain ⟨k,X,hk,rfl,HI,T5,op5⟩:=hrel
  by_cases hlt:k<g.ros.length
  ·have hxl:k<L.length:=by omega
   obtain ⟨x,hxL⟩:=at_of (xs:=L) rfl hxl
   have hx:Hid (X[k]?=some x):=by show _=_;rw [HI.out.tail k (Nat.le_refl _)];exact hxL
   obtain ⟨gR,rfl,hBg,hg,-⟩:=HI.out.row.form (by have:=HI.out.row.len;omega)
   have hltz:(k:Int)<(g.ros.length:Int):=by omega
   have HC:Hid (∀ W,Below w.heap.size w W→Calls Tryz.prog 93 #[.slice x.ra x.r.rs.length x.rc] W fun e w'=>∃ (a:Option Addr) (c:Nat),e=.returned (.slice a x.r.rs.length c)∧OwnS rv 6 156 w' W.heap.size (.slice a x.r.rs.length c) x.r.rs∧Below W.heap.size W w'):=HQ.out x (List.mem_of_getElem? hxL)
   have q0:wr.cell? ⟨gR,k * 5,none⟩=some (.string x.r.nm):=(HI.out.row.cell roG_len (j:=0) hx.out rfl).1
   have q1:wr.cell? ⟨gR,k * 5+1,none⟩=some (.slice x.ra x.r.rs.length x.rc):=(HI.out.row.cell roG_len (j:=1) hx.out rfl).1
   have q2:wr.cell? ⟨gR,k * 5+2,none⟩=some (.int .i64 x.r.q):=(HI.out.row.cell roG_len (j:=2) hx.out rfl).1
   have q3:wr.cell? ⟨gR,k * 5+3,none⟩=some (.int .i64 x.r.m):=(HI.out.row.cell roG_len (j:=3) hx.out rfl).1
   have q4:wr.cell? ⟨gR,k * 5+4,none⟩=some (.int .i64 x.r.i):=(HI.out.row.cell roG_len (j:=4) hx.out rfl).1
   have c7:=T5.out.g.cell 7 rfl
   clear hxL hxl
   have BR:Hid (Bx (wr.alloc (.cells #[.string x.r.nm,.slice x.ra x.r.rs.length x.rc,.int .i64 x.r.q,.int .i64 x.r.m,.int .i64 x.r.i] 142)) wr.heap.size [.string x.r.nm,.slice x.ra x.r.rs.length x.rc,.int .i64 x.r.q,.int .i64 x.r.m,.int .i64 x.r.i]):=Bx.new wr #[.string x.r.nm,.slice x.ra x.r.rs.length x.rc,.int .i64 x.r.q,.int .i64 x.r.m,.int .i64 x.r.i] 142
   have alr:Below wr.heap.size wr (wr.alloc (.cells #[.string x.r.nm,.slice x.ra x.r.rs.length x.rc,.int .i64 x.r.q,.int .i64 x.r.m,.int .i64 x.r.i] 142)):=(Below.refl _ _).alloc (Nat.le_refl _) _
   have T6:Hid (CB w [.int .i64 g.ip,.int .i64 g.b,.int .i64 g.gt,.string g.gm,.string g.wm,.int .i64 g.rs,.slice px g.ps.length pc,.slice (some ⟨gR,0,none⟩) g.ros.length rc,.slice A.ua g.us.length A.uc,.slice A.sa g.ss.length A.sc,.slice A.fa g.fs.length A.fc,.slice A.ra g.es.length A.rc,.int .i64 g.nx,.slice A.la g.fl.length A.lc,.slice A.ca g.co.length A.cc,.int .i64 g.nw,.int .i64 g.dr,.int .i64 g.sn] (wr.alloc (.cells #[.string x.r.nm,.slice x.ra x.r.rs.length x.rc,.int .i64 x.r.q,.int .i64 x.r.m,.int .i64 x.r.i] 142))):=T5.out.call alr
   have row6:Hid (OwnS roG 5 142 (wr.alloc (.cells #[.string x.r.nm,.slice x.ra x.r.rs.length x.rc,.int .i64 x.r.q,.int .i64 x.r.m,.int .i64 x.r.i] 142)) (w.heap.size+2) (.slice (some ⟨gR,0,none⟩) g.ros.length rc) X):=HI.out.row.now alr
   have SZ:Hid (wr.heap.size<(wr.alloc (.cells #[.string x.r.nm,.slice x.ra x.r.rs.length x.rc,.int .i64 x.r.q,.int .i64 x.r.m,.int .i64 x.r.i] 142)).heap.size):=by show _<_;simp
   have HG:Hid (w.heap.size+2≤gR∧gR<wr.heap.size):=⟨hBg,hg⟩
   have HZ:Hid (w.heap.size+2≤wr.heap.size):=T5.out.z
   have ok6:Rel.Rsc.Ok (fun b=>b<(wr.alloc (.cells #[.string x.r.nm,.slice x.ra x.r.rs.length x.rc,.int .i64 x.r.q,.int .i64 x.r.m,.int .i64 x.r.i] 142)).heap.size∧b ≠ gR) (Rel.retR 6 [5] (fun v w=>∃ (a:Option Addr) (c:Nat),v=.slice a x.r.rs.length c∧OwnS rv 6 156 w wr.heap.size (.slice a x.r.rs.length c) x.r.rs) (fun v b=>v.ownBlock=some b)):=Rel.retR_ok 6 [5] _ _ (by
    rintro v wa wb ⟨a,c,rfl,o⟩ hk
    exact ⟨a,c,rfl,own_keep o hk (fun b e=>.inr e)⟩)
   have ok9:Rel.Rsc.Ok (fun b=>b<(wr.alloc (.cells #[.string x.r.nm,.slice x.ra x.r.rs.length x.rc,.int .i64 x.r.q,.int .i64 x.r.m,.int .i64 x.r.i] 142)).heap.size∧b ≠ gR) ⟨fun σ wz=>∃ (a:Option Addr) (c:Nat),σ 6=.slice a x.r.rs.length c∧OwnS roG 5 142 wz (w.heap.size+2) (.slice (some ⟨gR,0,none⟩) g.ros.length rc) (X.set k { x with ra:=a,rc:=c }),fun _ b=>b=gR,[6],[10],[8,6]⟩:=⟨fun σ wa wb h hk=>(by
    obtain ⟨a,c,e,o⟩:=h
    exact ⟨a,c,e,own_keep o hk (fun b e=>.inr (by simpa [Value.ownBlock] using e.symm))⟩),fun σ σ' hs=>⟨fun wa h=>(by
    obtain ⟨a,c,e,o⟩:=h
    exact ⟨a,c,(hs 6 (by simp)).trans e,o⟩),fun b h=>h⟩⟩
   have ok10:Rel.Rsc.Ok (fun b=>b<(wr.alloc (.cells #[.string x.r.nm,.slice x.ra x.r.rs.length x.rc,.int .i64 x.r.q,.int .i64 x.r.m,.int .i64 x.r.i] 142)).heap.size∧b ≠ gR) ⟨fun _ wz=>OwnS roG 5 142 wz (w.heap.size+2) (.slice (some ⟨gR,0,none⟩) g.ros.length rc) X,fun _ b=>b=gR,[],[],[]⟩:=⟨fun σ wa wb h hk=>own_keep h hk (fun b e=>.inr (by simpa [Value.ownBlock] using e.symm)),fun σ σ' hs=>⟨fun wa h=>h,fun b h=>h⟩⟩
   go_wp2_with fail
   clear q0 q1 q2 q3 q4 c7
   refine Rel.wp_region_rel (w:=(wr.alloc (.cells #[.string x.r.nm,.slice x.ra x.r.rs.length x.rc,.int .i64 x.r.q,.int .i64 x.r.m,.int .i64 x.r.i] 142))) [Rel.valR 0 [] (.pointer (some ⟨w.heap.size,0,none⟩)),Rel.valR 1 [0] (.pointer (some ⟨w.heap.size,7,none⟩)),Rel.valR 2 [1] (.slice (some ⟨gR,0,none⟩) g.ros.length rc),Rel.valR 3 [] (.int .i64 (k:Int)),Rel.valR 4 [] (.pointer (some ⟨wr.heap.size,1,none⟩)),Rel.valR 5 [4] (.slice x.ra x.r.rs.length x.rc),Rel.retR 6 [5] (fun v w=>∃ (a:Option Addr) (c:Nat),v=.slice a x.r.rs.length c∧OwnS rv 6 156 w wr.heap.size (.slice a x.r.rs.length c) x.r.rs) (fun v b=>v.ownBlock=some b),Rel.valR 7 [2,3] (.pointer (some ⟨gR,k * 5,none⟩)),Rel.valR 8 [7] (.pointer (some ⟨gR,k * 5+1,none⟩)),(⟨fun σ wz=>∃ (a:Option Addr) (c:Nat),σ 6=.slice a x.r.rs.length c∧OwnS roG 5 142 wz (w.heap.size+2) (.slice (some ⟨gR,0,none⟩) g.ros.length rc) (X.set k { x with ra:=a,rc:=c }),fun _ b=>b=gR,[6],[10],[8,6]⟩:Rel.Rsc),(⟨fun _ wz=>OwnS roG 5 142 wz (w.heap.size+2) (.slice (some ⟨gR,0,none⟩) g.ros.length rc) X,fun _ b=>b=gR,[],[],[]⟩:Rel.Rsc)] [10] [0,1,2,3,4,5,6,7,8,9] (fun b=>b<(wr.alloc (.cells #[.string x.r.nm,.slice x.ra x.r.rs.length x.rc,.int .i64 x.r.q,.int .i64 x.r.m,.int .i64 x.r.i] 142)).heap.size∧b ≠ gR) (by kernel_rfl) (by kernel_rfl) (by kernel_rfl) ?_ (fun b h=>h.1) ?ini ?ap ?_ ?_
   ·exact List.forall_mem_cons.2 ⟨Rel.valR_ok _ _ _,List.forall_mem_cons.2 ⟨Rel.valR_ok _ _ _,List.forall_mem_cons.2 ⟨Rel.valR_ok _ _ _,List.forall_mem_cons.2 ⟨Rel.valR_ok _ _ _,List.forall_mem_cons.2 ⟨Rel.valR_ok _ _ _,List.forall_mem_cons.2 ⟨Rel.valR_ok _ _ _,List.forall_mem_cons.2 ⟨ok6,List.forall_mem_cons.2 ⟨Rel.valR_ok _ _ _,List.forall_mem_cons.2 ⟨Rel.valR_ok _ _ _,List.forall_mem_cons.2 ⟨ok9,List.forall_mem_cons.2 ⟨ok10,List.forall_mem_nil _⟩⟩⟩⟩⟩⟩⟩⟩⟩⟩⟩
   case ini =>
    intro q r hq hr
    rw [List.mem_singleton] at hq
    subst hq
    cases hr
    exact ⟨row6.out,fun b hb=>⟨by have:=SZ.out;have:=HG.out.2;have hb2:b=gR:=hb;omega,fun e=>e.2 hb⟩⟩
   case ap =>
    intro q1 q2 r1 r2 h1 h2 hne
    rw [List.mem_singleton] at h1 h2
    exact absurd (h1.trans h2.symm) hne
   ·refine (Rel.walk_cons ?s0 (Rel.walk_cons ?s1 (Rel.walk_cons ?s2 (Rel.walk_cons ?s3 (Rel.walk_cons ?s4 (Rel.walk_cons ?s5 (Rel.walk_cons ?s6 (Rel.walk_cons ?s7 (Rel.walk_cons ?s8 (Rel.walk_cons ?s9 Rel.walk_nil))))))))))
    case s0 =>
     refine Rel.step_want ?_ ?_
     ·rfl
     intro σ wx hK hF post hp
     go_simp
     refine Rel.yld_val ?_
     exact hp _ _ Rel.left_val
    case s1 =>
     refine Rel.step_want ?_ ?_
     ·rfl
     intro σ wx hK hF post hp
     have f0:σ 0=.pointer (some ⟨w.heap.size,0,none⟩):=Rel.fact_of hF (j:=0) rfl rfl
     go_simp
     refine Rel.yld_val ?_
     exact hp _ _ Rel.left_val
    case s2 =>
     refine Rel.step_want ?_ ?_
     ·rfl
     intro σ wx hK hF post hp
     have f1:σ 1=.pointer (some ⟨w.heap.size,7,none⟩):=Rel.fact_of hF (j:=1) rfl rfl
     have kq:Rel.Keep (fun b=>b<(wr.alloc (.cells #[.string x.r.nm,.slice x.ra x.r.rs.length x.rc,.int .i64 x.r.q,.int .i64 x.r.m,.int .i64 x.r.i] 142)).heap.size∧b ≠ gR) (wr.alloc (.cells #[.string x.r.nm,.slice x.ra x.r.rs.length x.rc,.int .i64 x.r.q,.int .i64 x.r.m,.int .i64 x.r.i] 142)) wx:=⟨hK.os,hK.tape,hK.output,hK.size,hK.block⟩
     have q7:=(bx_keep T6.out.g kq ⟨by have:=SZ.out;have:=HZ.out;show w.heap.size<_;omega,by have:=HG.out.1;show w.heap.size ≠ gR;omega⟩).cell 7 rfl
     go_simp
     refine Rel.yld_val ?_
     exact hp _ _ Rel.left_val
    case s3 =>
     refine Rel.step_want ?_ ?_
     ·rfl
     intro σ wx hK hF post hp
     go_simp
     refine Rel.yld_val ?_
     exact hp _ _ Rel.left_val
    case s4 =>
     refine Rel.step_want ?_ ?_
     ·rfl
     intro σ wx hK hF post hp
     go_simp
     refine Rel.yld_val ?_
     exact hp _ _ Rel.left_val
    case s5 =>
     refine Rel.step_want ?_ ?_
     ·rfl
     intro σ wx hK hF post hp
     have f4:σ 4=.pointer (some ⟨wr.heap.size,1,none⟩):=Rel.fact_of hF (j:=4) rfl rfl
     have kq:Rel.Keep (fun b=>b<(wr.alloc (.cells #[.string x.r.nm,.slice x.ra x.r.rs.length x.rc,.int .i64 x.r.q,.int .i64 x.r.m,.int .i64 x.r.i] 142)).heap.size∧b ≠ gR) (wr.alloc (.cells #[.string x.r.nm,.slice x.ra x.r.rs.length x.rc,.int .i64 x.r.q,.int .i64 x.r.m,.int .i64 x.r.i] 142)) wx:=⟨hK.os,hK.tape,hK.output,hK.size,hK.block⟩
     have q7:=(bx_keep BR.out kq ⟨SZ.out,by have:=HG.out.2;show wr.heap.size ≠ gR;omega⟩).cell 1 rfl
     go_simp
     refine Rel.yld_val ?_
     exact hp _ _ Rel.left_val
    case s6 =>
     refine Rel.step_want ?_ ?_
     ·rfl
     intro σ wx hK hF post hp
     have f5:σ 5=.slice x.ra x.r.rs.length x.rc:=Rel.fact_of hF (j:=5) rfl rfl
     go_simp
     refine Rel.yld_call ?_
     have hbw:Below w.heap.size w wx:=⟨hK.os.trans T6.out.b.os,hK.tape.trans T6.out.b.tape,hK.output.trans T6.out.b.output,Nat.le_trans T6.out.b.size hK.size,fun b hb=>(hK.block b ⟨by have:=T6.out.b.size;omega,by have:=HG.out.1;omega⟩).trans (T6.out.b.block b hb)⟩
     refine (HC.out wx hbw).mono ?_
     rintro e w2 ⟨a,c,rfl,orr,bx⟩
     exact ⟨_,rfl,hp _ _ (Rel.left_ret ⟨a,c,rfl,orr.lower (Nat.le_trans (Nat.le_of_lt SZ.out) hK.size)⟩ (fun b hb=>orr.lt b hb) bx)⟩
    case s7 =>
     refine Rel.step_want ?_ ?_
     ·rfl
     intro σ wx hK hF post hp
     have f2:σ 2=.slice (some ⟨gR,0,none⟩) g.ros.length rc:=Rel.fact_of hF (j:=2) rfl rfl
     have f3:σ 3=.int .i64 (k:Int):=Rel.fact_of hF (j:=3) rfl rfl
     have hlt2:(k:Int)<(g.ros.length:Int):=hltz
     go_simp
     refine Rel.yld_val ?_
     exact hp _ _ Rel.left_val
    case s8 =>
     refine Rel.step_want ?_ ?_
     ·rfl
     intro σ wx hK hF post hp
     have f7:σ 7=.pointer (some ⟨gR,k * 5,none⟩):=Rel.fact_of hF (j:=7) rfl rfl
     go_simp
     refine Rel.yld_val ?_
     exact hp _ _ Rel.left_val
    case s9 =>
     refine Rel.step_want ?_ ?_
     ·rfl
     intro σ wx hK hF post hp
     have f8:σ 8=.pointer (some ⟨gR,k * 5+1,none⟩):=Rel.fact_of hF (j:=8) rfl rfl
     obtain ⟨a,c,f6,o6⟩:∃ (a:Option Addr) (c:Nat),σ 6=.slice a x.r.rs.length c∧OwnS rv 6 156 wx wr.heap.size (.slice a x.r.rs.length c) x.r.rs:=Rel.fact_of hF (j:=6) rfl rfl
     have orow:OwnS roG 5 142 wx (w.heap.size+2) (.slice (some ⟨gR,0,none⟩) g.ros.length rc) X:=Rel.fact_of hF (j:=10) rfl rfl
     obtain ⟨c1,z1⟩:=orow.cell roG_len (j:=1) hx.out rfl
     have S1:Hid (OwnS roG 5 142 (wx.setCell ⟨gR,k * 5+1,none⟩ (.slice a x.r.rs.length c)) (w.heap.size+2) (.slice (some ⟨gR,0,none⟩) g.ros.length rc) (X.set k { x with ra:=a,rc:=c })∧wx.grownBy (wx.setCell ⟨gR,k * 5+1,none⟩ (.slice a x.r.rs.length c)) (some gR)):=orow.set1 roG_len (j:=1) (y:={ x with ra:=a,rc:=c }) (u:=.slice a x.r.rs.length c) hx.out (by omega) rfl
     clear orow o6
     go_simp
     first | refine Rel.yld_val ?_ | refine Rel.yld_skip ?_
     refine hp _ _ ⟨⟨a,c,f6,S1.out.1⟩,fun b hb=>.inl ⟨10,_,List.mem_singleton.2 rfl,rfl,hb⟩,⟨S1.out.2.os,S1.out.2.tape,S1.out.2.output,S1.out.2.size,fun b hb=>S1.out.2.block b hb.1 (fun e=>?_)⟩⟩
     exact hb.2 10 _ (List.mem_singleton.2 rfl) rfl (Option.some.inj e)
   ·intro σ w3 hK hF hA
    have f0:σ 0=.pointer (some ⟨w.heap.size,0,none⟩):=Rel.fact_of hF (j:=0) rfl rfl
    have f1:σ 1=.pointer (some ⟨w.heap.size,7,none⟩):=Rel.fact_of hF (j:=1) rfl rfl
    have f2:σ 2=.slice (some ⟨gR,0,none⟩) g.ros.length rc:=Rel.fact_of hF (j:=2) rfl rfl
    have f3:σ 3=.int .i64 (k:Int):=Rel.fact_of hF (j:=3) rfl rfl
    have f4:σ 4=.pointer (some ⟨wr.heap.size,1,none⟩):=Rel.fact_of hF (j:=4) rfl rfl
    have f5:σ 5=.slice x.ra x.r.rs.length x.rc:=Rel.fact_of hF (j:=5) rfl rfl
    have f7:σ 7=.pointer (some ⟨gR,k * 5,none⟩):=Rel.fact_of hF (j:=7) rfl rfl
    have f8:σ 8=.pointer (some ⟨gR,k * 5+1,none⟩):=Rel.fact_of hF (j:=8) rfl rfl
    obtain ⟨a,c,f6,orow⟩:∃ (a:Option Addr) (c:Nat),σ 6=.slice a x.r.rs.length c∧OwnS roG 5 142 w3 (w.heap.size+2) (.slice (some ⟨gR,0,none⟩) g.ros.length rc) (X.set k { x with ra:=a,rc:=c }):=Rel.fact_of hF (j:=9) rfl rfl
    have orr:OwnS rv 6 156 w3 wr.heap.size (.slice a x.r.rs.length c) x.r.rs:=by
     obtain ⟨a',c',e,o⟩:∃ (a:Option Addr) (c:Nat),σ 6=.slice a x.r.rs.length c∧OwnS rv 6 156 w3 wr.heap.size (.slice a x.r.rs.length c) x.r.rs:=Rel.fact_of hF (j:=6) rfl rfl
     rw [f6] at e
     cases e
     exact o
    simp only [Rel.putAll,Nat.zero_add,Nat.reduceAdd,f0,f1,f2,f3,f4,f5,f6,f7,f8]
    clear f0 f1 f2 f3 f4 f5 f6 f7 f8 hF hA
    have hxk:=(List.getElem?_eq_some_iff.1 hx.out).1
    have kp:Rel.Keep (fun b=>b<wr.heap.size∧b ≠ gR) wr w3:=⟨hK.os,hK.tape,hK.output,Nat.le_trans (Nat.le_of_lt SZ.out) hK.size,fun b hb=>(hK.block b ⟨Nat.lt_trans hb.1 SZ.out,hb.2⟩).trans (alr.block b hb.1)⟩
    have T7:Hid (CB w [.int .i64 g.ip,.int .i64 g.b,.int .i64 g.gt,.string g.gm,.string g.wm,.int .i64 g.rs,.slice px g.ps.length pc,.slice (some ⟨gR,0,none⟩) g.ros.length rc,.slice A.ua g.us.length A.uc,.slice A.sa g.ss.length A.sc,.slice A.fa g.fs.length A.fc,.slice A.ra g.es.length A.rc,.int .i64 g.nx,.slice A.la g.fl.length A.lc,.slice A.ca g.co.length A.cc,.int .i64 g.nw,.int .i64 g.dr,.int .i64 g.sn] w3):=by
     have h1:=HG.out
     have h2:=HZ.out
     exact ⟨bx_keep T5.out.g kp ⟨by omega,by omega⟩,bx_keep T5.out.r kp ⟨by omega,by omega⟩,⟨kp.os.trans T5.out.b.os,kp.tape.trans T5.out.b.tape,kp.output.trans T5.out.b.output,Nat.le_trans T5.out.b.size kp.size,fun b hb=>(kp.block b ⟨by omega,by omega⟩).trans (T5.out.b.block b hb)⟩,Nat.le_trans h2 kp.size⟩
    have ap_k:∀ {α:Type} {cc:α→List Value} {K:Nat} {e:TypeId} {v:Value} {xs:List α},OwnS cc K e wr (w.heap.size+2) v xs→e ≠ 142→OwnS cc K e w3 (w.heap.size+2) v xs:=fun {α cc K e v xs} o hne=>own_keep o kp (fun b hb=>⟨(o.lt b hb).2,fun hbg=>apB_of o HI.out.row hne b hb (by rw [hbg];rfl)⟩)
    have op7:Hid (OwnS pv 4 135 w3 (w.heap.size+2) (.slice px g.ps.length pc) g.ps):=ap_k op5.out (by decide)
    have R7:Hid (RI w g.ros.length rc (some ⟨gR,0,none⟩) L (k+1) (X.set k { x with ra:=a,rc:=c }) w3):=by
     refine ⟨orow,?_,?_,?_,?_⟩
     ·rw [← HI.out.map]
      refine List.ext_getElem? (fun i=>?_)
      by_cases hik:i=k
      ·subst hik;rw [List.getElem?_map,List.getElem?_map,List.getElem?_set_self hxk,hx.out];rfl
      ·rw [List.getElem?_map,List.getElem?_map,List.getElem?_set_ne (fun e=>hik e.symm)]
     ·intro i hi
      rw [List.getElem?_set_ne (by omega)]
      exact HI.out.tail i (by omega)
     ·intro i y hi hy
      by_cases hik:i=k
      ·subst hik
       rw [List.getElem?_set_self hxk] at hy
       cases hy
       exact orr.lower HZ.out
      ·rw [List.getElem?_set_ne (fun e=>hik e.symm)] at hy
       exact ap_k (HI.out.own i y (by omega) hy) (by decide)
     ·intro i j y z hij hj hy hz
      rw [List.getElem?_set_ne (by omega)] at hy
      by_cases hjk:j=k
      ·subst hjk
       rw [List.getElem?_set_self hxk] at hz
       cases hz
       intro b hb1 hb2
       have l1:=((HI.out.own i y hij hy).lt b hb1).2
       have l2:=(orr.lt b hb2).1
       omega
      ·rw [List.getElem?_set_ne (fun e=>hjk e.symm)] at hz
       exact HI.out.ap i j y z hij (by omega) hy hz
    clear orow orr kp ap_k T5 T6 op5 HI BR alr row6 hK ok6 ok9 ok10 HC HG HZ SZ hxk hBg hg
    go_wp2
    go_roundw
    case rel=>exact ⟨k+1,X.set k { x with ra:=a,rc:=c },by omega,by go_num,R7,T7,op7⟩
    case measure=>simp [intOf];omega
  ·obtain rfl:k=g.ros.length:=by omega
   have EX:Hid (X.map (fun x=>x.r)=g.ros):=HI.out.map.trans hX.out
   have PA5:Hid (OwnS pv 4 135 wr (w.heap.size+2) (.slice px g.ps.length pc) g.ps∧OwnRo wr (w.heap.size+2) (.slice ry g.ros.length rc) X):=⟨op5.out,HI.out.done⟩
   clear HI op5 HQ hX
   go_wp2_with (first | (refine wpl_getO 46 rfl _ rfl w.heap.size 8 [.slice A.ua g.us.length A.uc,.slice A.sa g.ss.length A.sc,.slice A.fa g.fs.length A.fc,.slice A.ra g.es.length A.rc,.int .i64 g.nx] rfl T5.out.g rfl _ Tryz.underlying46 rfl rfl ?_) | fail)
   refine (HU.out _ T5.out.b).mono ?_
   rintro e w6 ⟨ux,sx,fx,ex,uc,sc,fc,ec,rfl,o4,bx⟩
   have T6:Hid (CB w [.int .i64 g.ip,.int .i64 g.b,.int .i64 g.gt,.string g.gm,.string g.wm,.int .i64 g.rs,.slice px g.ps.length pc,.slice ry g.ros.length rc,.slice A.ua g.us.length A.uc,.slice A.sa g.ss.length A.sc,.slice A.fa g.fs.length A.fc,.slice A.ra g.es.length A.rc,.int .i64 g.nx,.slice A.la g.fl.length A.lc,.slice A.ca g.co.length A.cc,.int .i64 g.nw,.int .i64 g.dr,.int .i64 g.sn] w6):=T5.out.call bx
   have PA6:Hid (OwnS pv 4 135 w6 (w.heap.size+2) (.slice px g.ps.length pc) g.ps∧OwnRo w6 (w.heap.size+2) (.slice ry g.ros.length rc) X):=⟨PA5.out.1.now bx,PA5.out.2.now bx⟩
   have PB6:Hid (Own4 w6 (w.heap.size+2) (.slice ux g.us.length uc) (.slice sx g.ss.length sc) (.slice fx g.fs.length fc) (.slice ex g.es.length ec) g.us g.ss g.fs g.es):=o4.lower T5.out.z
   clear HU T5 PA5 o4 bx
   go_wp2_with (first | (refine wpl_putO 46 rfl _ _ rfl w.heap.size 8 _ rfl rfl T6.out.g rfl rfl rfl ?_;intro w7 hw7 _;have T7:Hid (CB w [.int .i64 g.ip,.int .i64 g.b,.int .i64 g.gt,.string g.gm,.string g.wm,.int .i64 g.rs,.slice px g.ps.length pc,.slice ry g.ros.length rc,.slice ux g.us.length uc,.slice sx g.ss.length sc,.slice fx g.fs.length fc,.slice ex g.es.length ec,.int .i64 g.nx,.slice A.la g.fl.length A.lc,.slice A.ca g.co.length A.cc,.int .i64 g.nw,.int .i64 g.dr,.int .i64 g.sn] w7):=(by rw [hw7];exact T6.out.put 8 [.slice ux g.us.length uc,.slice sx g.ss.length sc,.slice fx g.fs.length fc,.slice ex g.es.length ec,.int .i64 g.nx]);have PA7:Hid (OwnS pv 4 135 w7 (w.heap.size+2) (.slice px g.ps.length pc) g.ps∧OwnRo w7 (w.heap.size+2) (.slice ry g.ros.length rc) X):=(by rw [hw7];exact ⟨own_putG PA6.out.1 (by omega) _ _,ro_putG PA6.out.2 (by omega) _ _⟩);have PB7:Hid (Own4 w7 (w.heap.size+2) (.slice ux g.us.length uc) (.slice sx g.ss.length sc) (.slice fx g.fs.length fc) (.slice ex g.es.length ec) g.us g.ss g.fs g.es):=(by rw [hw7];exact own4_putG PB6.out (by omega) _ _);clear hw7 T6 PA6 PB6;have c13:=T7.out.g.cell 13 rfl) | fail)
   refine (HF.out _ T7.out.b).mono ?_
   rintro e w8 ⟨lx,lc,rfl,ol,bx⟩
   have T8:Hid (CB w [.int .i64 g.ip,.int .i64 g.b,.int .i64 g.gt,.string g.gm,.string g.wm,.int .i64 g.rs,.slice px g.ps.length pc,.slice ry g.ros.length rc,.slice ux g.us.length uc,.slice sx g.ss.length sc,.slice fx g.fs.length fc,.slice ex g.es.length ec,.int .i64 g.nx,.slice A.la g.fl.length A.lc,.slice A.ca g.co.length A.cc,.int .i64 g.nw,.int .i64 g.dr,.int .i64 g.sn] w8):=T7.out.call bx
   have PA8:Hid (OwnS pv 4 135 w8 (w.heap.size+2) (.slice px g.ps.length pc) g.ps∧OwnRo w8 (w.heap.size+2) (.slice ry g.ros.length rc) X):=⟨PA7.out.1.now bx,PA7.out.2.now bx⟩
   have PB8:Hid (Own4 w8 (w.heap.size+2) (.slice ux g.us.length uc) (.slice sx g.ss.length sc) (.slice fx g.fs.length fc) (.slice ex g.es.length ec) g.us g.ss g.fs g.es):=PB7.out.now bx
   have PC8:Hid (OwnS wvG 9 159 w8 (w.heap.size+2) (.slice lx g.fl.length lc) g.fl):=ol.lower T7.out.z
   clear HF T7 PA7 PB7 ol bx c13
   go_wp2_with (first | (refine wpl_put1 47 rfl _ _ rfl w.heap.size 13 _ rfl rfl T8.out.g rfl rfl rfl ?_;intro w9 hw9;have T9:Hid (CB w [.int .i64 g.ip,.int .i64 g.b,.int .i64 g.gt,.string g.gm,.string g.wm,.int .i64 g.rs,.slice px g.ps.length pc,.slice ry g.ros.length rc,.slice ux g.us.length uc,.slice sx g.ss.length sc,.slice fx g.fs.length fc,.slice ex g.es.length ec,.int .i64 g.nx,.slice lx g.fl.length lc,.slice A.ca g.co.length A.cc,.int .i64 g.nw,.int .i64 g.dr,.int .i64 g.sn] w9):=(by rw [hw9];exact T8.out.put 13 [.slice lx g.fl.length lc]);have PA9:Hid (OwnS pv 4 135 w9 (w.heap.size+2) (.slice px g.ps.length pc) g.ps∧OwnRo w9 (w.heap.size+2) (.slice ry g.ros.length rc) X):=(by rw [hw9];exact ⟨own_putG PA8.out.1 (by omega) _ _,ro_putG PA8.out.2 (by omega) _ _⟩);have PB9:Hid (Own4 w9 (w.heap.size+2) (.slice ux g.us.length uc) (.slice sx g.ss.length sc) (.slice fx g.fs.length fc) (.slice ex g.es.length ec) g.us g.ss g.fs g.es):=(by rw [hw9];exact own4_putG PB8.out (by omega) _ _);have PC9:Hid (OwnS wvG 9 159 w9 (w.heap.size+2) (.slice lx g.fl.length lc) g.fl):=(by rw [hw9];exact own_putG PC8.out (by omega) _ _);clear hw9 T8 PA8 PB8 PC8;have c14:=T9.out.g.cell 14 rfl) | fail)
   refine (HN.out _ T9.out.b).mono ?_
   rintro e w10 ⟨cx,cc,rfl,oc,bx⟩
   have T10:Hid (CB w [.int .i64 g.ip,.int .i64 g.b,.int .i64 g.gt,.string g.gm,.string g.wm,.int .i64 g.rs,.slice px g.ps.length pc,.slice ry g.ros.length rc,.slice ux g.us.length uc,.slice sx g.ss.length sc,.slice fx g.fs.length fc,.slice ex g.es.length ec,.int .i64 g.nx,.slice lx g.fl.length lc,.slice A.ca g.co.length A.cc,.int .i64 g.nw,.int .i64 g.dr,.int .i64 g.sn] w10):=T9.out.call bx
   have PA10:Hid (OwnS pv 4 135 w10 (w.heap.size+2) (.slice px g.ps.length pc) g.ps∧OwnRo w10 (w.heap.size+2) (.slice ry g.ros.length rc) X):=⟨PA9.out.1.now bx,PA9.out.2.now bx⟩
   have PB10:Hid (Own4 w10 (w.heap.size+2) (.slice ux g.us.length uc) (.slice sx g.ss.length sc) (.slice fx g.fs.length fc) (.slice ex g.es.length ec) g.us g.ss g.fs g.es):=PB9.out.now bx
   have PC10:Hid (OwnS wvG 9 159 w10 (w.heap.size+2) (.slice lx g.fl.length lc) g.fl):=PC9.out.now bx
   have PD10:Hid (OwnS cnG 11 162 w10 (w.heap.size+2) (.slice cx g.co.length cc) g.co):=oc.lower T9.out.z
   clear HN T9 PA9 PB9 PC9 oc bx c14
   go_wp2_with (first | (refine wpl_put1 48 rfl _ _ rfl w.heap.size 14 _ rfl rfl T10.out.g rfl rfl rfl ?_;intro w11 hw11;have T11:Hid (CB w [.int .i64 g.ip,.int .i64 g.b,.int .i64 g.gt,.string g.gm,.string g.wm,.int .i64 g.rs,.slice px g.ps.length pc,.slice ry g.ros.length rc,.slice ux g.us.length uc,.slice sx g.ss.length sc,.slice fx g.fs.length fc,.slice ex g.es.length ec,.int .i64 g.nx,.slice lx g.fl.length lc,.slice cx g.co.length cc,.int .i64 g.nw,.int .i64 g.dr,.int .i64 g.sn] w11):=(by rw [hw11];exact T10.out.put 14 [.slice cx g.co.length cc]);have FIN:Hid (OwnGt w11 (w.heap.size+2) ⟨px,ry,ux,sx,fx,ex,lx,cx,pc,rc,uc,sc,fc,ec,lc,cc⟩ g X):=(by rw [hw11];exact ⟨EX.out,own_putG PA10.out.1 (by omega) _ _,ro_putG PA10.out.2 (by omega) _ _,own4_putG PB10.out (by omega) _ _,own_putG PC10.out (by omega) _ _,own_putG PD10.out (by omega) _ _⟩);clear hw11 T10 PA10 PB10 PC10 PD10) | (refine wpl_getO 50 rfl _ rfl w.heap.size 0 [.int .i64 g.ip,.int .i64 g.b,.int .i64 g.gt,.string g.gm,.string g.wm,.int .i64 g.rs,.slice px g.ps.length pc,.slice ry g.ros.length rc,.slice ux g.us.length uc,.slice sx g.ss.length sc,.slice fx g.fs.length fc,.slice ex g.es.length ec,.int .i64 g.nx,.slice lx g.fl.length lc,.slice cx g.co.length cc,.int .i64 g.nw,.int .i64 g.dr,.int .i64 g.sn] rfl T11.out.g rfl _ Tryz.underlying50 rfl rfl ?_) | (refine wpl_putO 50 rfl _ _ rfl (w.heap.size+1) 0 _ rfl rfl T11.out.r rfl rfl rfl ?_;intro w12 hw12 R12;have B12:Hid (Below w.heap.size w w12):=(by rw [hw12];exact below_cells (by omega) _ _ _ T11.out.b);have FIN2:Hid (OwnGt w12 (w.heap.size+2) ⟨px,ry,ux,sx,fx,ex,lx,cx,pc,rc,uc,sc,fc,ec,lc,cc⟩ g X):=(by rw [hw12];exact ⟨EX.out,own_putG FIN.out.ps (by omega) _ _,ro_putG FIN.out.rs (by omega) _ _,own4_putG FIN.out.gu (by omega) _ _,own_putG FIN.out.fl (by omega) _ _,own_putG FIN.out.co (by omega) _ _⟩);clear hw12 T11 FIN) | fail)
   (try simp only [Exit.inBlock,Exit.then])
   refine bodyPost_ret (v:=.agg #[.int .i64 g.ip,.int .i64 g.b,.int .i64 g.gt,.string g.gm,.string g.wm,.int .i64 g.rs,.slice px g.ps.length pc,.slice ry g.ros.length rc,.slice ux g.us.length uc,.slice sx g.ss.length sc,.slice fx g.fs.length fc,.slice ex g.es.length ec,.int .i64 g.nx,.slice lx g.fl.length lc,.slice cx g.co.length cc,.int .i64 g.nw,.int .i64 g.dr,.int .i64 g.sn]) (results_cell Tryz.results38 (w.heap.size+1) rfl R12 _ Tryz.underlying50 rfl rfl) rfl ?_
   exact ⟨px,ry,ux,sx,fx,ex,lx,cx,pc,rc,uc,sc,fc,ec,lc,cc,rfl,⟨X,FIN2.out.lower (by omega)⟩,B12.out⟩
end Go.Proofs.YtbeehlhcckndcaaGreat
