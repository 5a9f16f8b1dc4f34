/- The walk of laws.FnExactSetIsn, over what both sides answer. -/
import Derived.Test.YtbeehlhcckndcaaGreatJ15
namespace Go.Proofs.YtbeehlhcckndcaaGreat
open Go.RowKit Go.PlainAid Go.Proofs.YtbeehlhcckndcaaGreat.Bt Go.Sort
set_option linter.unusedVariables false
set_option maxRecDepth 20000
set_option maxHeartbeats 8000000 in
theorem lawSetIsn_of (A:GtA) (g:GtV) (q:Int) (G:GtV) (k:Int) (w:World) (rA:GtR w A g) (bA:GtB A g) (hG:GtOk G) (lG:GtS g→GtS G)
  (hS:GtS g→∀ (A':GtA) (L0:List RoX) (B0:Nat) (w:World),OwnGt w B0 A' g L0→Calls Tryz.prog 19 #[.agg #[.int .i64 g.ip,.int .i64 g.b,.int .i64 g.gt,.string g.gm,.string g.wm,.int .i64 g.rs,.slice A'.x g.ps.length A'.xc,.slice A'.y g.ros.length A'.yc,.slice A'.ua g.us.length A'.uc,.slice A'.sa g.ss.length A'.sc,.slice A'.fa g.fs.length A'.fc,.slice A'.ra g.es.length A'.rc,.int .i64 g.nx,.slice A'.la g.fl.length A'.lc,.slice A'.ca g.co.length A'.cc,.int .i64 g.nw,.int .i64 g.dr,.int .i64 g.sn],.int .i64 q] w fun e w'=>∃ (R:GtA) (X:List RoX),e=.returned (.tuple #[.agg #[.int .i64 G.ip,.int .i64 G.b,.int .i64 G.gt,.string G.gm,.string G.wm,.int .i64 G.rs,.slice R.x G.ps.length R.xc,.slice R.y G.ros.length R.yc,.slice R.ua G.us.length R.uc,.slice R.sa G.ss.length R.sc,.slice R.fa G.fs.length R.fc,.slice R.ra G.es.length R.rc,.int .i64 G.nx,.slice R.la G.fl.length R.lc,.slice R.ca G.co.length R.cc,.int .i64 G.nw,.int .i64 G.dr,.int .i64 G.sn],.int .i64 k])∧OwnGt w' w.heap.size R G X∧Below w.heap.size w w')
  (hI:GtS g→∀ (A':GtA) (L0:List RoX) (B0:Nat) (w:World),OwnGt w B0 A' g L0→Calls Tryz.prog 21 #[.agg #[.int .i64 g.ip,.int .i64 g.b,.int .i64 g.gt,.string g.gm,.string g.wm,.int .i64 g.rs,.slice A'.x g.ps.length A'.xc,.slice A'.y g.ros.length A'.yc,.slice A'.ua g.us.length A'.uc,.slice A'.sa g.ss.length A'.sc,.slice A'.fa g.fs.length A'.fc,.slice A'.ra g.es.length A'.rc,.int .i64 g.nx,.slice A'.la g.fl.length A'.lc,.slice A'.ca g.co.length A'.cc,.int .i64 g.nw,.int .i64 g.dr,.int .i64 g.sn],.int .i64 q] w fun e w'=>∃ (R:GtA) (X:List RoX),e=.returned (.tuple #[.agg #[.int .i64 G.ip,.int .i64 G.b,.int .i64 G.gt,.string G.gm,.string G.wm,.int .i64 G.rs,.slice R.x G.ps.length R.xc,.slice R.y G.ros.length R.yc,.slice R.ua G.us.length R.uc,.slice R.sa G.ss.length R.sc,.slice R.fa G.fs.length R.fc,.slice R.ra G.es.length R.rc,.int .i64 G.nx,.slice R.la G.fl.length R.lc,.slice R.ca G.co.length R.cc,.int .i64 G.nw,.int .i64 G.dr,.int .i64 G.sn],.int .i64 k])∧OwnGt w' w.heap.size R G X∧Below w.heap.size w w') :
  Calls Tryz.prog 4 #[.agg #[.int .i64 g.ip,.int .i64 g.b,.int .i64 g.gt,.string g.gm,.string g.wm,.int .i64 g.rs,.slice A.x g.ps.length A.xc,.slice A.y g.ros.length A.yc,.slice A.ua g.us.length A.uc,.slice A.sa g.ss.length A.sc,.slice A.fa g.fs.length A.fc,.slice A.ra g.es.length A.rc,.int .i64 g.nx,.slice A.la g.fl.length A.lc,.slice A.ca g.co.length A.cc,.int .i64 g.nw,.int .i64 g.dr,.int .i64 g.sn],.int .i64 q] w fun e w'=>e=.returned (.bool true)∧Below w.heap.size w w':=by
 have RA:Hid (GtR w A g):=rA
 have HKG:Hid (GtOk g):=rA.ok
 have HZA:Hid (∀ w,GtR w A g→Calls Tryz.prog 18 #[.agg #[.int .i64 g.ip,.int .i64 g.b,.int .i64 g.gt,.string g.gm,.string g.wm,.int .i64 g.rs,.slice A.x g.ps.length A.xc,.slice A.y g.ros.length A.yc,.slice A.ua g.us.length A.uc,.slice A.sa g.ss.length A.sc,.slice A.fa g.fs.length A.fc,.slice A.ra g.es.length A.rc,.int .i64 g.nx,.slice A.la g.fl.length A.lc,.slice A.ca g.co.length A.cc,.int .i64 g.nw,.int .i64 g.dr,.int .i64 g.sn],.int .i64 1048576] w fun e w'=>∃ r:Int,e=.returned (.int .i64 r)∧(0≤r→GtS g) ∧  Below w.heap.size w w'):=fun w hh=>gt_sz A g w hh bA
 have HS0:Hid (GtS g→∀ (A':GtA) (L0:List RoX) (B0:Nat) (w:World),OwnGt w B0 A' g L0→Calls Tryz.prog 19 #[.agg #[.int .i64 g.ip,.int .i64 g.b,.int .i64 g.gt,.string g.gm,.string g.wm,.int .i64 g.rs,.slice A'.x g.ps.length A'.xc,.slice A'.y g.ros.length A'.yc,.slice A'.ua g.us.length A'.uc,.slice A'.sa g.ss.length A'.sc,.slice A'.fa g.fs.length A'.fc,.slice A'.ra g.es.length A'.rc,.int .i64 g.nx,.slice A'.la g.fl.length A'.lc,.slice A'.ca g.co.length A'.cc,.int .i64 g.nw,.int .i64 g.dr,.int .i64 g.sn],.int .i64 q] w fun e w'=>∃ (R:GtA) (X:List RoX),e=.returned (.tuple #[.agg #[.int .i64 G.ip,.int .i64 G.b,.int .i64 G.gt,.string G.gm,.string G.wm,.int .i64 G.rs,.slice R.x G.ps.length R.xc,.slice R.y G.ros.length R.yc,.slice R.ua G.us.length R.uc,.slice R.sa G.ss.length R.sc,.slice R.fa G.fs.length R.fc,.slice R.ra G.es.length R.rc,.int .i64 G.nx,.slice R.la G.fl.length R.lc,.slice R.ca G.co.length R.cc,.int .i64 G.nw,.int .i64 G.dr,.int .i64 G.sn],.int .i64 k])∧OwnGt w' w.heap.size R G X∧Below w.heap.size w w'):=hS
 have HI0:Hid (GtS g→∀ (A':GtA) (L0:List RoX) (B0:Nat) (w:World),OwnGt w B0 A' g L0→Calls Tryz.prog 21 #[.agg #[.int .i64 g.ip,.int .i64 g.b,.int .i64 g.gt,.string g.gm,.string g.wm,.int .i64 g.rs,.slice A'.x g.ps.length A'.xc,.slice A'.y g.ros.length A'.yc,.slice A'.ua g.us.length A'.uc,.slice A'.sa g.ss.length A'.sc,.slice A'.fa g.fs.length A'.fc,.slice A'.ra g.es.length A'.rc,.int .i64 g.nx,.slice A'.la g.fl.length A'.lc,.slice A'.ca g.co.length A'.cc,.int .i64 g.nw,.int .i64 g.dr,.int .i64 g.sn],.int .i64 q] w fun e w'=>∃ (R:GtA) (X:List RoX),e=.returned (.tuple #[.agg #[.int .i64 G.ip,.int .i64 G.b,.int .i64 G.gt,.string G.gm,.string G.wm,.int .i64 G.rs,.slice R.x G.ps.length R.xc,.slice R.y G.ros.length R.yc,.slice R.ua G.us.length R.uc,.slice R.sa G.ss.length R.sc,.slice R.fa G.fs.length R.fc,.slice R.ra G.es.length R.rc,.int .i64 G.nx,.slice R.la G.fl.length R.lc,.slice R.ca G.co.length R.cc,.int .i64 G.nw,.int .i64 G.dr,.int .i64 G.sn],.int .i64 k])∧OwnGt w' w.heap.size R G X∧Below w.heap.size w w'):=hI
 have LG0:Hid (GtS g→GtS G):=lG
 have OKG:Hid (GtOk G):=hG
 clear rA bA hS hI lG hG
 have P0A:Hid (Bx (w.alloc (.cells #[.int .i64 g.ip,.int .i64 g.b,.int .i64 g.gt,.string g.gm,.string g.wm,.int .i64 g.rs,.slice A.x g.ps.length A.xc,.slice A.y g.ros.length A.yc,.slice A.ua g.us.length A.uc,.slice A.sa g.ss.length A.sc,.slice A.fa g.fs.length A.fc,.slice A.ra g.es.length A.rc,.int .i64 g.nx,.slice A.la g.fl.length A.lc,.slice A.ca g.co.length A.cc,.int .i64 g.nw,.int .i64 g.dr,.int .i64 g.sn] 65)) (w.heap.size) [.int .i64 g.ip,.int .i64 g.b,.int .i64 g.gt,.string g.gm,.string g.wm,.int .i64 g.rs,.slice A.x g.ps.length A.xc,.slice A.y g.ros.length A.yc,.slice A.ua g.us.length A.uc,.slice A.sa g.ss.length A.sc,.slice A.fa g.fs.length A.fc,.slice A.ra g.es.length A.rc,.int .i64 g.nx,.slice A.la g.fl.length A.lc,.slice A.ca g.co.length A.cc,.int .i64 g.nw,.int .i64 g.dr,.int .i64 g.sn]):=by
  have h:=Bx.new w #[.int .i64 g.ip,.int .i64 g.b,.int .i64 g.gt,.string g.gm,.string g.wm,.int .i64 g.rs,.slice A.x g.ps.length A.xc,.slice A.y g.ros.length A.yc,.slice A.ua g.us.length A.uc,.slice A.sa g.ss.length A.sc,.slice A.fa g.fs.length A.fc,.slice A.ra g.es.length A.rc,.int .i64 g.nx,.slice A.la g.fl.length A.lc,.slice A.ca g.co.length A.cc,.int .i64 g.nw,.int .i64 g.dr,.int .i64 g.sn] 65
  exact h
 have X0:Hid (Below w.heap.size w (w.alloc (.cells #[.int .i64 g.ip,.int .i64 g.b,.int .i64 g.gt,.string g.gm,.string g.wm,.int .i64 g.rs,.slice A.x g.ps.length A.xc,.slice A.y g.ros.length A.yc,.slice A.ua g.us.length A.uc,.slice A.sa g.ss.length A.sc,.slice A.fa g.fs.length A.fc,.slice A.ra g.es.length A.rc,.int .i64 g.nx,.slice A.la g.fl.length A.lc,.slice A.ca g.co.length A.cc,.int .i64 g.nw,.int .i64 g.dr,.int .i64 g.sn] 65))):=((Below.refl _ _).alloc (Nat.le_refl _) _)
 go_enter Tryz.func4,Tryz.ntmps4
 go_wp2_with (first | (refine wpl_getT 65 rfl _ rfl (w.heap.size) rfl (P0A.out) _ Tryz.underlying65 rfl rfl ?_) | fail)
 refine (HZA.out _ (RA.out.below X0.out)).mono ?_
 rintro e w1 ⟨r1,rfl,hr1,bx⟩
 have P1A:Hid _:=P0A.out.below bx
 have X1:Hid (Below w.heap.size w w1):=X0.out.trans (bx.mono X0.out.size)
 clear bx P0A X0 HZA
 by_cases hn1:r1<0
 ·go_wp2
  go_ret
  exact ⟨rfl,X1.out⟩
 have SG:Hid (GtS g):=hr1 (by omega)
 clear hr1
 have HS:Hid (∀ (A':GtA) (L0:List RoX) (B0:Nat) (w:World),OwnGt w B0 A' g L0→Calls Tryz.prog 19 #[.agg #[.int .i64 g.ip,.int .i64 g.b,.int .i64 g.gt,.string g.gm,.string g.wm,.int .i64 g.rs,.slice A'.x g.ps.length A'.xc,.slice A'.y g.ros.length A'.yc,.slice A'.ua g.us.length A'.uc,.slice A'.sa g.ss.length A'.sc,.slice A'.fa g.fs.length A'.fc,.slice A'.ra g.es.length A'.rc,.int .i64 g.nx,.slice A'.la g.fl.length A'.lc,.slice A'.ca g.co.length A'.cc,.int .i64 g.nw,.int .i64 g.dr,.int .i64 g.sn],.int .i64 q] w fun e w'=>∃ (R:GtA) (X:List RoX),e=.returned (.tuple #[.agg #[.int .i64 G.ip,.int .i64 G.b,.int .i64 G.gt,.string G.gm,.string G.wm,.int .i64 G.rs,.slice R.x G.ps.length R.xc,.slice R.y G.ros.length R.yc,.slice R.ua G.us.length R.uc,.slice R.sa G.ss.length R.sc,.slice R.fa G.fs.length R.fc,.slice R.ra G.es.length R.rc,.int .i64 G.nx,.slice R.la G.fl.length R.lc,.slice R.ca G.co.length R.cc,.int .i64 G.nw,.int .i64 G.dr,.int .i64 G.sn],.int .i64 k])∧OwnGt w' w.heap.size R G X∧Below w.heap.size w w'):=HS0.out SG.out
 have HI:Hid (∀ (A':GtA) (L0:List RoX) (B0:Nat) (w:World),OwnGt w B0 A' g L0→Calls Tryz.prog 21 #[.agg #[.int .i64 g.ip,.int .i64 g.b,.int .i64 g.gt,.string g.gm,.string g.wm,.int .i64 g.rs,.slice A'.x g.ps.length A'.xc,.slice A'.y g.ros.length A'.yc,.slice A'.ua g.us.length A'.uc,.slice A'.sa g.ss.length A'.sc,.slice A'.fa g.fs.length A'.fc,.slice A'.ra g.es.length A'.rc,.int .i64 g.nx,.slice A'.la g.fl.length A'.lc,.slice A'.ca g.co.length A'.cc,.int .i64 g.nw,.int .i64 g.dr,.int .i64 g.sn],.int .i64 q] w fun e w'=>∃ (R:GtA) (X:List RoX),e=.returned (.tuple #[.agg #[.int .i64 G.ip,.int .i64 G.b,.int .i64 G.gt,.string G.gm,.string G.wm,.int .i64 G.rs,.slice R.x G.ps.length R.xc,.slice R.y G.ros.length R.yc,.slice R.ua G.us.length R.uc,.slice R.sa G.ss.length R.sc,.slice R.fa G.fs.length R.fc,.slice R.ra G.es.length R.rc,.int .i64 G.nx,.slice R.la G.fl.length R.lc,.slice R.ca G.co.length R.cc,.int .i64 G.nw,.int .i64 G.dr,.int .i64 G.sn],.int .i64 k])∧OwnGt w' w.heap.size R G X∧Below w.heap.size w w'):=HI0.out SG.out
 have LG:Hid (GtS G):=LG0.out SG.out
 have HTA:Hid (∀ w,GtR w A g→Calls Tryz.prog 20 #[.agg #[.int .i64 g.ip,.int .i64 g.b,.int .i64 g.gt,.string g.gm,.string g.wm,.int .i64 g.rs,.slice A.x g.ps.length A.xc,.slice A.y g.ros.length A.yc,.slice A.ua g.us.length A.uc,.slice A.sa g.ss.length A.sc,.slice A.fa g.fs.length A.fc,.slice A.ra g.es.length A.rc,.int .i64 g.nx,.slice A.la g.fl.length A.lc,.slice A.ca g.co.length A.cc,.int .i64 g.nw,.int .i64 g.dr,.int .i64 g.sn]] w fun e w'=>∃ (A':GtA) (L:List RoX),e=.returned (.agg #[.int .i64 g.ip,.int .i64 g.b,.int .i64 g.gt,.string g.gm,.string g.wm,.int .i64 g.rs,.slice A'.x g.ps.length A'.xc,.slice A'.y g.ros.length A'.yc,.slice A'.ua g.us.length A'.uc,.slice A'.sa g.ss.length A'.sc,.slice A'.fa g.fs.length A'.fc,.slice A'.ra g.es.length A'.rc,.int .i64 g.nx,.slice A'.la g.fl.length A'.lc,.slice A'.ca g.co.length A'.cc,.int .i64 g.nw,.int .i64 g.dr,.int .i64 g.sn])∧OwnGt w' w.heap.size A' g L∧Below w.heap.size w w'):=fun w hh=>gt_to A g w hh SG.out
 clear HS0 HI0 LG0
 have PA1:=P1A
 clear P1A
 go_wp2_with (first | (refine wpl_getT 65 rfl _ rfl (w.heap.size) rfl (PA1.out) _ Tryz.underlying65 rfl rfl ?_) | fail)
 refine (HTA.out _ (RA.out.below X1.out)).mono ?_
 rintro e u3 ⟨A9,L9,rfl,oz,bx⟩
 have bu:=bx
 clear bx
 go_wp2_with fail
 refine (HS.out A9 L9 _ _ oz).mono ?_
 rintro e v3 ⟨Rw3,XLw3,rfl,o9,bx⟩
 replace bx:=bu.trans (bx.mono bu.size)
 clear bu oz
 have I3:Hid (v3.heap.size<v3.heap.size+1∧(∀ x,gtBk Rw3 G XLw3 x→x<v3.heap.size+1∧x ≠ v3.heap.size)):=⟨Nat.lt_succ_self _,fun x hx=>by have:=(o9.lt x hx).2;omega⟩
 have J3:Hid (w.heap.size<v3.heap.size+1):=Nat.lt_succ_of_lt (World.block_lt_of_cell? v3 ⟨w.heap.size,0,none⟩ ((PA1.out.below bx).cell 0 rfl))
 go_wp2_with (first | (refine wpl_putT 50 rfl _ _ rfl (v3.heap.size) _ rfl rfl (Bx.new v3 #[.int .i64 0,.int .i64 0,.int .i64 0,.string ⟨#[]⟩,.string ⟨#[]⟩,.int .i64 0,.slice none 0 0,.slice none 0 0,.slice none 0 0,.slice none 0 0,.slice none 0 0,.slice none 0 0,.int .i64 0,.slice none 0 0,.slice none 0 0,.int .i64 0,.int .i64 0,.int .i64 0] 50) rfl rfl rfl ?_;intro y3 hy9 Ny9;have bz:Below v3.heap.size v3 y3:=(by rw [hy9];exact below_cells (Nat.le_refl _) _ _ _ ((Below.refl _ _).alloc (Nat.le_refl _) _));have PA3:Hid (Bx y3 (w.heap.size) [.int .i64 g.ip,.int .i64 g.b,.int .i64 g.gt,.string g.gm,.string g.wm,.int .i64 g.rs,.slice A.x g.ps.length A.xc,.slice A.y g.ros.length A.yc,.slice A.ua g.us.length A.uc,.slice A.sa g.ss.length A.sc,.slice A.fa g.fs.length A.fc,.slice A.ra g.es.length A.rc,.int .i64 g.nx,.slice A.la g.fl.length A.lc,.slice A.ca g.co.length A.cc,.int .i64 g.nw,.int .i64 g.dr,.int .i64 g.sn]):=PA1.out.below (bx.trans (bz.mono bx.size));have X3:Hid (Below w.heap.size w y3):=X1.out.trans (((bx.trans (bz.mono bx.size))).mono X1.out.size);clear PA1 X1;have N33:Hid (Bx y3 (v3.heap.size) [.int .i64 G.ip,.int .i64 G.b,.int .i64 G.gt,.string G.gm,.string G.wm,.int .i64 G.rs,.slice Rw3.x G.ps.length Rw3.xc,.slice Rw3.y G.ros.length Rw3.yc,.slice Rw3.ua G.us.length Rw3.uc,.slice Rw3.sa G.ss.length Rw3.sc,.slice Rw3.fa G.fs.length Rw3.fc,.slice Rw3.ra G.es.length Rw3.rc,.int .i64 G.nx,.slice Rw3.la G.fl.length Rw3.lc,.slice Rw3.ca G.co.length Rw3.cc,.int .i64 G.nw,.int .i64 G.dr,.int .i64 G.sn]):=Ny9;have O33:Hid (OwnGt y3 u3.heap.size Rw3 G XLw3):=o9.now bz;have hsy3:y3.heap.size=v3.heap.size+1:=(by rw [hy9,(heap_cellsA _ _ _).1];simp);clear o9 bx bz hy9 Ny9) | (refine wpl_getT 65 rfl _ rfl (w.heap.size) rfl (PA3.out) _ Tryz.underlying65 rfl rfl ?_) | (refine wpl_getT 50 rfl _ rfl (v3.heap.size) rfl (N33.out) _ Tryz.underlying50 rfl rfl ?_) | fail)
 refine (HTA.out _ (RA.out.below X3.out)).mono ?_
 rintro e w4 ⟨A4,L4,rfl,o9,bx⟩
 have I4:Hid (v3.heap.size+1≤w4.heap.size∧(∀ x,gtBk A4 g L4 x→v3.heap.size+1≤x∧x<w4.heap.size)):=by
  have h1:=bx.size
  have h2:=o9.lt
  rw [hsy3] at h1 h2
  exact ⟨h1,h2⟩
 go_wp2_with (first | (refine wpl_putT 50 rfl _ _ rfl (w4.heap.size) _ rfl rfl (Bx.new w4 #[.int .i64 0,.int .i64 0,.int .i64 0,.string ⟨#[]⟩,.string ⟨#[]⟩,.int .i64 0,.slice none 0 0,.slice none 0 0,.slice none 0 0,.slice none 0 0,.slice none 0 0,.slice none 0 0,.int .i64 0,.slice none 0 0,.slice none 0 0,.int .i64 0,.int .i64 0,.int .i64 0] 50) rfl rfl rfl ?_;intro y4 hy9 Ny9;have bz:Below w4.heap.size w4 y4:=(by rw [hy9];exact below_cells (Nat.le_refl _) _ _ _ ((Below.refl _ _).alloc (Nat.le_refl _) _));have PA4:Hid (Bx y4 (w.heap.size) [.int .i64 g.ip,.int .i64 g.b,.int .i64 g.gt,.string g.gm,.string g.wm,.int .i64 g.rs,.slice A.x g.ps.length A.xc,.slice A.y g.ros.length A.yc,.slice A.ua g.us.length A.uc,.slice A.sa g.ss.length A.sc,.slice A.fa g.fs.length A.fc,.slice A.ra g.es.length A.rc,.int .i64 g.nx,.slice A.la g.fl.length A.lc,.slice A.ca g.co.length A.cc,.int .i64 g.nw,.int .i64 g.dr,.int .i64 g.sn]):=PA3.out.below (bx.trans (bz.mono bx.size));have O34:Hid (OwnGt y4 u3.heap.size Rw3 G XLw3):=O33.out.now (bx.trans (bz.mono bx.size));have N34:Hid (Bx y4 (v3.heap.size) [.int .i64 G.ip,.int .i64 G.b,.int .i64 G.gt,.string G.gm,.string G.wm,.int .i64 G.rs,.slice Rw3.x G.ps.length Rw3.xc,.slice Rw3.y G.ros.length Rw3.yc,.slice Rw3.ua G.us.length Rw3.uc,.slice Rw3.sa G.ss.length Rw3.sc,.slice Rw3.fa G.fs.length Rw3.fc,.slice Rw3.ra G.es.length Rw3.rc,.int .i64 G.nx,.slice Rw3.la G.fl.length Rw3.lc,.slice Rw3.ca G.co.length Rw3.cc,.int .i64 G.nw,.int .i64 G.dr,.int .i64 G.sn]):=N33.out.below (bx.trans (bz.mono bx.size));have X4:Hid (Below w.heap.size w y4):=X3.out.trans (((bx.trans (bz.mono bx.size))).mono X3.out.size);clear PA3 O33 N33 X3;have M44:Hid (Bx y4 (w4.heap.size) [.int .i64 g.ip,.int .i64 g.b,.int .i64 g.gt,.string g.gm,.string g.wm,.int .i64 g.rs,.slice A4.x g.ps.length A4.xc,.slice A4.y g.ros.length A4.yc,.slice A4.ua g.us.length A4.uc,.slice A4.sa g.ss.length A4.sc,.slice A4.fa g.fs.length A4.fc,.slice A4.ra g.es.length A4.rc,.int .i64 g.nx,.slice A4.la g.fl.length A4.lc,.slice A4.ca g.co.length A4.cc,.int .i64 g.nw,.int .i64 g.dr,.int .i64 g.sn]):=Ny9;have Q44:Hid (OwnGt y4 y3.heap.size A4 g L4):=o9.now bz;have hsy4:y4.heap.size=w4.heap.size+1:=(by rw [hy9,(heap_cellsA _ _ _).1];simp);clear o9 bx bz hy9 Ny9) | (refine wpl_getT 65 rfl _ rfl (w.heap.size) rfl (PA4.out) _ Tryz.underlying65 rfl rfl ?_) | (refine wpl_getT 50 rfl _ rfl (v3.heap.size) rfl (N34.out) _ Tryz.underlying50 rfl rfl ?_) | (refine wpl_getT 50 rfl _ rfl (w4.heap.size) rfl (M44.out) _ Tryz.underlying50 rfl rfl ?_) | fail)
 refine (HI.out A4 L4 _ _ Q44.out).mono ?_
 rintro e w5 ⟨R5,XL5,rfl,o9,bx⟩
 have I5:Hid (w4.heap.size+1≤w5.heap.size∧(∀ x,gtBk R5 G XL5 x→w4.heap.size+1≤x∧x<w5.heap.size)):=by
  have h1:=bx.size
  have h2:=o9.lt
  rw [hsy4] at h1 h2
  exact ⟨h1,h2⟩
 have RO5:Hid (XL5.map (fun x=>x.r)=G.ros):=o9.ro
 have hkk:(k != k)=false:=by simp
 have HE:Hid (∀ (A1 A2:GtA) (w:World),GtR w A1 G→GtR w A2 G→Calls Tryz.prog 11 #[.agg #[.int .i64 G.ip,.int .i64 G.b,.int .i64 G.gt,.string G.gm,.string G.wm,.int .i64 G.rs,.slice A1.x G.ps.length A1.xc,.slice A1.y G.ros.length A1.yc,.slice A1.ua G.us.length A1.uc,.slice A1.sa G.ss.length A1.sc,.slice A1.fa G.fs.length A1.fc,.slice A1.ra G.es.length A1.rc,.int .i64 G.nx,.slice A1.la G.fl.length A1.lc,.slice A1.ca G.co.length A1.cc,.int .i64 G.nw,.int .i64 G.dr,.int .i64 G.sn],.agg #[.int .i64 G.ip,.int .i64 G.b,.int .i64 G.gt,.string G.gm,.string G.wm,.int .i64 G.rs,.slice A2.x G.ps.length A2.xc,.slice A2.y G.ros.length A2.yc,.slice A2.ua G.us.length A2.uc,.slice A2.sa G.ss.length A2.sc,.slice A2.fa G.fs.length A2.fc,.slice A2.ra G.es.length A2.rc,.int .i64 G.nx,.slice A2.la G.fl.length A2.lc,.slice A2.ca G.co.length A2.cc,.int .i64 G.nw,.int .i64 G.dr,.int .i64 G.sn]] w fun e w'=>e=.returned (.bool true)∧Below w.heap.size w w'):=fun A1 A2 w h1 h2=>gt_eq A1 A2 G w h1 h2 LG.out
 go_wp2_with (first | (refine wpl_putT 50 rfl _ _ rfl (w5.heap.size) _ rfl rfl (Bx.new w5 #[.int .i64 0,.int .i64 0,.int .i64 0,.string ⟨#[]⟩,.string ⟨#[]⟩,.int .i64 0,.slice none 0 0,.slice none 0 0,.slice none 0 0,.slice none 0 0,.slice none 0 0,.slice none 0 0,.int .i64 0,.slice none 0 0,.slice none 0 0,.int .i64 0,.int .i64 0,.int .i64 0] 50) rfl rfl rfl ?_;intro y5 hy9 Ny9;have bz:Below w5.heap.size w5 y5:=(by rw [hy9];exact below_cells (Nat.le_refl _) _ _ _ ((Below.refl _ _).alloc (Nat.le_refl _) _));have PA5:Hid (Bx y5 (w.heap.size) [.int .i64 g.ip,.int .i64 g.b,.int .i64 g.gt,.string g.gm,.string g.wm,.int .i64 g.rs,.slice A.x g.ps.length A.xc,.slice A.y g.ros.length A.yc,.slice A.ua g.us.length A.uc,.slice A.sa g.ss.length A.sc,.slice A.fa g.fs.length A.fc,.slice A.ra g.es.length A.rc,.int .i64 g.nx,.slice A.la g.fl.length A.lc,.slice A.ca g.co.length A.cc,.int .i64 g.nw,.int .i64 g.dr,.int .i64 g.sn]):=PA4.out.below (bx.trans (bz.mono bx.size));have O35:Hid (OwnGt y5 u3.heap.size Rw3 G XLw3):=O34.out.now (bx.trans (bz.mono bx.size));have N35:Hid (Bx y5 (v3.heap.size) [.int .i64 G.ip,.int .i64 G.b,.int .i64 G.gt,.string G.gm,.string G.wm,.int .i64 G.rs,.slice Rw3.x G.ps.length Rw3.xc,.slice Rw3.y G.ros.length Rw3.yc,.slice Rw3.ua G.us.length Rw3.uc,.slice Rw3.sa G.ss.length Rw3.sc,.slice Rw3.fa G.fs.length Rw3.fc,.slice Rw3.ra G.es.length Rw3.rc,.int .i64 G.nx,.slice Rw3.la G.fl.length Rw3.lc,.slice Rw3.ca G.co.length Rw3.cc,.int .i64 G.nw,.int .i64 G.dr,.int .i64 G.sn]):=N34.out.below (bx.trans (bz.mono bx.size));have M45:Hid (Bx y5 (w4.heap.size) [.int .i64 g.ip,.int .i64 g.b,.int .i64 g.gt,.string g.gm,.string g.wm,.int .i64 g.rs,.slice A4.x g.ps.length A4.xc,.slice A4.y g.ros.length A4.yc,.slice A4.ua g.us.length A4.uc,.slice A4.sa g.ss.length A4.sc,.slice A4.fa g.fs.length A4.fc,.slice A4.ra g.es.length A4.rc,.int .i64 g.nx,.slice A4.la g.fl.length A4.lc,.slice A4.ca g.co.length A4.cc,.int .i64 g.nw,.int .i64 g.dr,.int .i64 g.sn]):=M44.out.below (bx.trans (bz.mono bx.size));have Q45:Hid (OwnGt y5 y3.heap.size A4 g L4):=Q44.out.now (bx.trans (bz.mono bx.size));have X5:Hid (Below w.heap.size w y5):=X4.out.trans (((bx.trans (bz.mono bx.size))).mono X4.out.size);clear PA4 O34 N34 M44 Q44 X4;have M55:Hid (Bx y5 (w5.heap.size) [.int .i64 G.ip,.int .i64 G.b,.int .i64 G.gt,.string G.gm,.string G.wm,.int .i64 G.rs,.slice R5.x G.ps.length R5.xc,.slice R5.y G.ros.length R5.yc,.slice R5.ua G.us.length R5.uc,.slice R5.sa G.ss.length R5.sc,.slice R5.fa G.fs.length R5.fc,.slice R5.ra G.es.length R5.rc,.int .i64 G.nx,.slice R5.la G.fl.length R5.lc,.slice R5.ca G.co.length R5.cc,.int .i64 G.nw,.int .i64 G.dr,.int .i64 G.sn]):=Ny9;have Q55:Hid (OwnGt y5 y4.heap.size R5 G XL5):=o9.now bz;have hsy5:y5.heap.size=w5.heap.size+1:=(by rw [hy9,(heap_cellsA _ _ _).1];simp);clear o9 bx bz hy9 Ny9) | (refine wpl_getT 65 rfl _ rfl (w.heap.size) rfl (PA5.out) _ Tryz.underlying65 rfl rfl ?_) | (refine wpl_getT 50 rfl _ rfl (v3.heap.size) rfl (N35.out) _ Tryz.underlying50 rfl rfl ?_) | (refine wpl_getT 50 rfl _ rfl (w4.heap.size) rfl (M45.out) _ Tryz.underlying50 rfl rfl ?_) | (refine wpl_getT 50 rfl _ rfl (w5.heap.size) rfl (M55.out) _ Tryz.underlying50 rfl rfl ?_) | fail)
 refine (HE.out R5 Rw3 _ (Q55.out.gtR OKG.out) (O35.out.gtR OKG.out)).mono ?_
 rintro e w6 ⟨rfl,bx⟩
 have PA6:Hid (Bx w6 (w.heap.size) [.int .i64 g.ip,.int .i64 g.b,.int .i64 g.gt,.string g.gm,.string g.wm,.int .i64 g.rs,.slice A.x g.ps.length A.xc,.slice A.y g.ros.length A.yc,.slice A.ua g.us.length A.uc,.slice A.sa g.ss.length A.sc,.slice A.fa g.fs.length A.fc,.slice A.ra g.es.length A.rc,.int .i64 g.nx,.slice A.la g.fl.length A.lc,.slice A.ca g.co.length A.cc,.int .i64 g.nw,.int .i64 g.dr,.int .i64 g.sn]):=PA5.out.below bx
 have O36:Hid (OwnGt w6 u3.heap.size Rw3 G XLw3):=O35.out.now bx
 have N36:Hid (Bx w6 (v3.heap.size) [.int .i64 G.ip,.int .i64 G.b,.int .i64 G.gt,.string G.gm,.string G.wm,.int .i64 G.rs,.slice Rw3.x G.ps.length Rw3.xc,.slice Rw3.y G.ros.length Rw3.yc,.slice Rw3.ua G.us.length Rw3.uc,.slice Rw3.sa G.ss.length Rw3.sc,.slice Rw3.fa G.fs.length Rw3.fc,.slice Rw3.ra G.es.length Rw3.rc,.int .i64 G.nx,.slice Rw3.la G.fl.length Rw3.lc,.slice Rw3.ca G.co.length Rw3.cc,.int .i64 G.nw,.int .i64 G.dr,.int .i64 G.sn]):=N35.out.below bx
 have M46:Hid (Bx w6 (w4.heap.size) [.int .i64 g.ip,.int .i64 g.b,.int .i64 g.gt,.string g.gm,.string g.wm,.int .i64 g.rs,.slice A4.x g.ps.length A4.xc,.slice A4.y g.ros.length A4.yc,.slice A4.ua g.us.length A4.uc,.slice A4.sa g.ss.length A4.sc,.slice A4.fa g.fs.length A4.fc,.slice A4.ra g.es.length A4.rc,.int .i64 g.nx,.slice A4.la g.fl.length A4.lc,.slice A4.ca g.co.length A4.cc,.int .i64 g.nw,.int .i64 g.dr,.int .i64 g.sn]):=M45.out.below bx
 have Q46:Hid (OwnGt w6 y3.heap.size A4 g L4):=Q45.out.now bx
 have M56:Hid (Bx w6 (w5.heap.size) [.int .i64 G.ip,.int .i64 G.b,.int .i64 G.gt,.string G.gm,.string G.wm,.int .i64 G.rs,.slice R5.x G.ps.length R5.xc,.slice R5.y G.ros.length R5.yc,.slice R5.ua G.us.length R5.uc,.slice R5.sa G.ss.length R5.sc,.slice R5.fa G.fs.length R5.fc,.slice R5.ra G.es.length R5.rc,.int .i64 G.nx,.slice R5.la G.fl.length R5.lc,.slice R5.ca G.co.length R5.cc,.int .i64 G.nw,.int .i64 G.dr,.int .i64 G.sn]):=M55.out.below bx
 have Q56:Hid (OwnGt w6 y4.heap.size R5 G XL5):=Q55.out.now bx
 have X6:Hid (Below w.heap.size w w6):=X5.out.trans ((bx).mono X5.out.size)
 clear PA5 O35 N35 M45 Q45 M55 Q55 X5
 clear bx
 go_wp2_with fail
 refine Rlw.wp_region_rel (w:=w6) [Rlw.valR 0 [] (.agg #[.int .i64 g.ip,.int .i64 g.b,.int .i64 g.gt,.string g.gm,.string g.wm,.int .i64 g.rs,.slice A4.x g.ps.length A4.xc,.slice A4.y g.ros.length A4.yc,.slice A4.ua g.us.length A4.uc,.slice A4.sa g.ss.length A4.sc,.slice A4.fa g.fs.length A4.fc,.slice A4.ra g.es.length A4.rc,.int .i64 g.nx,.slice A4.la g.fl.length A4.lc,.slice A4.ca g.co.length A4.cc,.int .i64 g.nw,.int .i64 g.dr,.int .i64 g.sn]),Rlw.valR 1 [] (.agg #[.int .i64 g.ip,.int .i64 g.b,.int .i64 g.gt,.string g.gm,.string g.wm,.int .i64 g.rs,.slice A.x g.ps.length A.xc,.slice A.y g.ros.length A.yc,.slice A.ua g.us.length A.uc,.slice A.sa g.ss.length A.sc,.slice A.fa g.fs.length A.fc,.slice A.ra g.es.length A.rc,.int .i64 g.nx,.slice A.la g.fl.length A.lc,.slice A.ca g.co.length A.cc,.int .i64 g.nw,.int .i64 g.dr,.int .i64 g.sn]),Rlw.kndR 2 [1] (kGt g) w6.heap.size,Rlw.valR 3 [0,2] (.bool true),Rlw.valR 4 [3] (.bool false)] [] [0,1,2,3,4] (fun b=>b<w6.heap.size) (by kernel_rfl) (by kernel_rfl) (by kernel_rfl) ?_ (fun b h=>h) (fun k r hk=>by cases hk) (fun j k rj rk hj=>by cases hj) ?_ ?_
 ·exact List.forall_mem_cons.2 ⟨Rlw.valR_ok _ _ _,List.forall_mem_cons.2 ⟨Rlw.valR_ok _ _ _,List.forall_mem_cons.2 ⟨Rlw.kndR_ok _ _ _ _,List.forall_mem_cons.2 ⟨Rlw.valR_ok _ _ _,List.forall_mem_cons.2 ⟨Rlw.valR_ok _ _ _,List.forall_mem_nil _⟩⟩⟩⟩⟩
 ·refine (Rlw.walk_cons ?s0 (Rlw.walk_cons ?s1 (Rlw.walk_cons ?s2 (Rlw.walk_cons ?s3 (Rlw.walk_cons ?s4 Rlw.walk_nil)))))
  case s0 =>
   refine Rlw.step_want ?_ ?_
   ·rfl
   intro σ wx hK hF post hp
   have hq:=M46.out.below (Rlw.keep_below hK)
   refine Rlw.yld_get 50 _ rfl (q:=w4.heap.size) (by go_simp) hq _ Tryz.underlying50 rfl rfl ?_
   exact hp _ _ Rlw.left_val
  case s1 =>
   refine Rlw.step_want ?_ ?_
   ·rfl
   intro σ wx hK hF post hp
   have hq:=PA6.out.below (Rlw.keep_below hK)
   refine Rlw.yld_get 65 _ rfl (q:=w.heap.size) (by go_simp) hq _ Tryz.underlying65 rfl rfl ?_
   exact hp _ _ Rlw.left_val
  case s2 =>
   refine Rlw.step_want ?_ ?_
   ·rfl
   intro σ wx hK hF post hp
   have f1:σ 1=.agg #[.int .i64 g.ip,.int .i64 g.b,.int .i64 g.gt,.string g.gm,.string g.wm,.int .i64 g.rs,.slice A.x g.ps.length A.xc,.slice A.y g.ros.length A.yc,.slice A.ua g.us.length A.uc,.slice A.sa g.ss.length A.sc,.slice A.fa g.fs.length A.fc,.slice A.ra g.es.length A.rc,.int .i64 g.nx,.slice A.la g.fl.length A.lc,.slice A.ca g.co.length A.cc,.int .i64 g.nw,.int .i64 g.dr,.int .i64 g.sn]:=Rlw.fact_of hF (j:=1) rfl rfl
   have hb:=Rlw.keep_below hK
   go_simp
   refine Rlw.yld_call ?_
   refine (HTA.out _ (RA.out.below (X6.out.trans (hb.mono X6.out.size)))).mono ?_
   rintro e w9 ⟨A9,L9,rfl,ho,b9⟩
   exact ⟨_,rfl,hp _ _ (Rlw.left_knd ⟨A9,L9,rfl,ho⟩ hK.size b9)⟩
  case s3 =>
   refine Rlw.step_want ?_ ?_
   ·rfl
   intro σ wx hK hF post hp
   have f0:σ 0=.agg #[.int .i64 g.ip,.int .i64 g.b,.int .i64 g.gt,.string g.gm,.string g.wm,.int .i64 g.rs,.slice A4.x g.ps.length A4.xc,.slice A4.y g.ros.length A4.yc,.slice A4.ua g.us.length A4.uc,.slice A4.sa g.ss.length A4.sc,.slice A4.fa g.fs.length A4.fc,.slice A4.ra g.es.length A4.rc,.int .i64 g.nx,.slice A4.la g.fl.length A4.lc,.slice A4.ca g.co.length A4.cc,.int .i64 g.nw,.int .i64 g.dr,.int .i64 g.sn]:=Rlw.fact_of hF (j:=0) rfl rfl
   have f2:(kGt g).own wx w6.heap.size (σ 2):=Rlw.fact_of hF (j:=2) rfl rfl
   obtain ⟨A9,L9,e9,o9⟩:=f2
   have d9:σ 2=.agg #[.int .i64 g.ip,.int .i64 g.b,.int .i64 g.gt,.string g.gm,.string g.wm,.int .i64 g.rs,.slice A9.x g.ps.length A9.xc,.slice A9.y g.ros.length A9.yc,.slice A9.ua g.us.length A9.uc,.slice A9.sa g.ss.length A9.sc,.slice A9.fa g.fs.length A9.fc,.slice A9.ra g.es.length A9.rc,.int .i64 g.nx,.slice A9.la g.fl.length A9.lc,.slice A9.ca g.co.length A9.cc,.int .i64 g.nw,.int .i64 g.dr,.int .i64 g.sn]:=e9
   clear e9
   have hb:=Rlw.keep_below hK
   go_simp
   refine Rlw.yld_call ?_
   refine (gt_eq A4 A9 g wx ((Q46.out.now hb).gtR HKG.out) (o9.gtR HKG.out) SG.out).mono ?_
   rintro e w9 ⟨rfl,b9⟩
   exact ⟨_,rfl,hp _ _ (Rlw.left_valB b9)⟩
  case s4 =>
   refine Rlw.step_want ?_ ?_
   ·rfl
   intro σ wx hK hF post hp
   have f3:σ 3=.bool true:=Rlw.fact_of hF (j:=3) rfl rfl
   go_simp
   refine Rlw.yld_val ?_
   exact hp _ _ Rlw.left_val
 ·intro σ w7 hK hF hA
  have f4:σ 4=.bool false:=Rlw.fact_of hF (j:=4) rfl rfl
  have bx:=Rlw.keep_below hK
  clear hF hA hK
  simp only [Rlw.putAll,Nat.zero_add,Nat.reduceAdd,f4]
  go_simp
  clear f4
  have PA7:Hid (Bx w7 (w.heap.size) [.int .i64 g.ip,.int .i64 g.b,.int .i64 g.gt,.string g.gm,.string g.wm,.int .i64 g.rs,.slice A.x g.ps.length A.xc,.slice A.y g.ros.length A.yc,.slice A.ua g.us.length A.uc,.slice A.sa g.ss.length A.sc,.slice A.fa g.fs.length A.fc,.slice A.ra g.es.length A.rc,.int .i64 g.nx,.slice A.la g.fl.length A.lc,.slice A.ca g.co.length A.cc,.int .i64 g.nw,.int .i64 g.dr,.int .i64 g.sn]):=PA6.out.below bx
  have O37:Hid (OwnGt w7 u3.heap.size Rw3 G XLw3):=O36.out.now bx
  have N37:Hid (Bx w7 (v3.heap.size) [.int .i64 G.ip,.int .i64 G.b,.int .i64 G.gt,.string G.gm,.string G.wm,.int .i64 G.rs,.slice Rw3.x G.ps.length Rw3.xc,.slice Rw3.y G.ros.length Rw3.yc,.slice Rw3.ua G.us.length Rw3.uc,.slice Rw3.sa G.ss.length Rw3.sc,.slice Rw3.fa G.fs.length Rw3.fc,.slice Rw3.ra G.es.length Rw3.rc,.int .i64 G.nx,.slice Rw3.la G.fl.length Rw3.lc,.slice Rw3.ca G.co.length Rw3.cc,.int .i64 G.nw,.int .i64 G.dr,.int .i64 G.sn]):=N36.out.below bx
  have M47:Hid (Bx w7 (w4.heap.size) [.int .i64 g.ip,.int .i64 g.b,.int .i64 g.gt,.string g.gm,.string g.wm,.int .i64 g.rs,.slice A4.x g.ps.length A4.xc,.slice A4.y g.ros.length A4.yc,.slice A4.ua g.us.length A4.uc,.slice A4.sa g.ss.length A4.sc,.slice A4.fa g.fs.length A4.fc,.slice A4.ra g.es.length A4.rc,.int .i64 g.nx,.slice A4.la g.fl.length A4.lc,.slice A4.ca g.co.length A4.cc,.int .i64 g.nw,.int .i64 g.dr,.int .i64 g.sn]):=M46.out.below bx
  have Q47:Hid (OwnGt w7 y3.heap.size A4 g L4):=Q46.out.now bx
  have M57:Hid (Bx w7 (w5.heap.size) [.int .i64 G.ip,.int .i64 G.b,.int .i64 G.gt,.string G.gm,.string G.wm,.int .i64 G.rs,.slice R5.x G.ps.length R5.xc,.slice R5.y G.ros.length R5.yc,.slice R5.ua G.us.length R5.uc,.slice R5.sa G.ss.length R5.sc,.slice R5.fa G.fs.length R5.fc,.slice R5.ra G.es.length R5.rc,.int .i64 G.nx,.slice R5.la G.fl.length R5.lc,.slice R5.ca G.co.length R5.cc,.int .i64 G.nw,.int .i64 G.dr,.int .i64 G.sn]):=M56.out.below bx
  have Q57:Hid (OwnGt w7 y4.heap.size R5 G XL5):=Q56.out.now bx
  have X7:Hid (Below w.heap.size w w7):=X6.out.trans ((bx).mono X6.out.size)
  clear PA6 O36 N36 M46 Q46 M56 Q56 X6
  clear bx
  go_wp2_with (first | (refine wpl_getT 65 rfl _ rfl (w.heap.size) rfl (PA7.out) _ Tryz.underlying65 rfl rfl ?_) | (refine wpl_getT 50 rfl _ rfl (v3.heap.size) rfl (N37.out) _ Tryz.underlying50 rfl rfl ?_) | (refine wpl_getT 50 rfl _ rfl (w4.heap.size) rfl (M47.out) _ Tryz.underlying50 rfl rfl ?_) | (refine wpl_getT 50 rfl _ rfl (w5.heap.size) rfl (M57.out) _ Tryz.underlying50 rfl rfl ?_) | fail)
  refine (show Calls _ _ #[_,.int .i64 (1:Int)] _ _ from (gt_mark A4 g L4 _ 1 _ Q47.out SG.out (by omega) (by omega))).mono ?_
  rintro e w8 ⟨rfl,-,hk9⟩
  have nb8:=gtN_bd Q47.out.ro SG.out
  obtain ⟨K8,hK8⟩:∃ K:Nat,1+gtN g L4=K:=⟨_,rfl⟩
  have kb8:0<K8∧K8≤500000000:=by omega
  rw [hK8]
  clear hK8 nb8
  have PA8:Hid (Bx w8 (w.heap.size) [.int .i64 g.ip,.int .i64 g.b,.int .i64 g.gt,.string g.gm,.string g.wm,.int .i64 g.rs,.slice A.x g.ps.length A.xc,.slice A.y g.ros.length A.yc,.slice A.ua g.us.length A.uc,.slice A.sa g.ss.length A.sc,.slice A.fa g.fs.length A.fc,.slice A.ra g.es.length A.rc,.int .i64 g.nx,.slice A.la g.fl.length A.lc,.slice A.ca g.co.length A.cc,.int .i64 g.nw,.int .i64 g.dr,.int .i64 g.sn]):=Rlw.bx_keepW PA7.out hk9 ⟨World.block_lt_of_cell? w7 ⟨w.heap.size,0,none⟩ (PA7.out.cell 0 rfl),fun hx=>by have i3:=I3.out.1;have j3:=J3.out;have i4:=I4.out.1;have i5:=I5.out.1;have z:=I4.out.2 _ hx;omega⟩
  have O38:Hid (OwnGt w8 u3.heap.size Rw3 G XLw3):=O37.out.keep (fun x hy=>hk9.block x ⟨(O37.out.lt x hy).2,fun hx=>by have i3:=I3.out.1;have j3:=J3.out;have i4:=I4.out.1;have i5:=I5.out.1;have z:=I4.out.2 _ hx;have y:=I3.out.2 x hy;omega⟩)
  have N38:Hid (Bx w8 (v3.heap.size) [.int .i64 G.ip,.int .i64 G.b,.int .i64 G.gt,.string G.gm,.string G.wm,.int .i64 G.rs,.slice Rw3.x G.ps.length Rw3.xc,.slice Rw3.y G.ros.length Rw3.yc,.slice Rw3.ua G.us.length Rw3.uc,.slice Rw3.sa G.ss.length Rw3.sc,.slice Rw3.fa G.fs.length Rw3.fc,.slice Rw3.ra G.es.length Rw3.rc,.int .i64 G.nx,.slice Rw3.la G.fl.length Rw3.lc,.slice Rw3.ca G.co.length Rw3.cc,.int .i64 G.nw,.int .i64 G.dr,.int .i64 G.sn]):=Rlw.bx_keepW N37.out hk9 ⟨World.block_lt_of_cell? w7 ⟨v3.heap.size,0,none⟩ (N37.out.cell 0 rfl),fun hx=>by have i3:=I3.out.1;have j3:=J3.out;have i4:=I4.out.1;have i5:=I5.out.1;have z:=I4.out.2 _ hx;omega⟩
  have M58:Hid (Bx w8 (w5.heap.size) [.int .i64 G.ip,.int .i64 G.b,.int .i64 G.gt,.string G.gm,.string G.wm,.int .i64 G.rs,.slice R5.x G.ps.length R5.xc,.slice R5.y G.ros.length R5.yc,.slice R5.ua G.us.length R5.uc,.slice R5.sa G.ss.length R5.sc,.slice R5.fa G.fs.length R5.fc,.slice R5.ra G.es.length R5.rc,.int .i64 G.nx,.slice R5.la G.fl.length R5.lc,.slice R5.ca G.co.length R5.cc,.int .i64 G.nw,.int .i64 G.dr,.int .i64 G.sn]):=Rlw.bx_keepW M57.out hk9 ⟨World.block_lt_of_cell? w7 ⟨w5.heap.size,0,none⟩ (M57.out.cell 0 rfl),fun hx=>by have i3:=I3.out.1;have j3:=J3.out;have i4:=I4.out.1;have i5:=I5.out.1;have z:=I4.out.2 _ hx;omega⟩
  have Q58:Hid (OwnGt w8 y4.heap.size R5 G XL5):=Q57.out.keep (fun x hy=>hk9.block x ⟨(Q57.out.lt x hy).2,fun hx=>by have i3:=I3.out.1;have j3:=J3.out;have i4:=I4.out.1;have i5:=I5.out.1;have z:=I4.out.2 _ hx;have y:=I5.out.2 x hy;omega⟩)
  have X8:Hid (Below w.heap.size w w8):=X7.out.trans ⟨hk9.os,hk9.tape,hk9.output,hk9.size,fun x hy=>hk9.block x ⟨Nat.lt_of_lt_of_le hy X7.out.size,fun hx=>by have i3:=I3.out.1;have j3:=J3.out;have i4:=I4.out.1;have i5:=I5.out.1;have z:=I4.out.2 _ hx;omega⟩⟩
  clear PA7 O37 N37 M47 Q47 M57 Q57 X7
  clear hk9
  have hkn:decide (((K8:Nat):Int)<0)=false:=decide_eq_false (by omega)
  go_wp2_with (first | (refine wpl_getW 50 (by rfl) _ rfl (w5.heap.size) rfl (M58.out) _ Tryz.underlying50 rfl rfl ?_) | (refine wpl_getW 50 (by rfl) _ rfl (v3.heap.size) rfl (N38.out) _ Tryz.underlying50 rfl rfl ?_) | fail)
  refine (HE.out R5 Rw3 _ (Q58.out.gtR OKG.out) (O38.out.gtR OKG.out)).mono ?_
  rintro e w9 ⟨rfl,bx⟩
  have PA9:Hid (Bx w9 (w.heap.size) [.int .i64 g.ip,.int .i64 g.b,.int .i64 g.gt,.string g.gm,.string g.wm,.int .i64 g.rs,.slice A.x g.ps.length A.xc,.slice A.y g.ros.length A.yc,.slice A.ua g.us.length A.uc,.slice A.sa g.ss.length A.sc,.slice A.fa g.fs.length A.fc,.slice A.ra g.es.length A.rc,.int .i64 g.nx,.slice A.la g.fl.length A.lc,.slice A.ca g.co.length A.cc,.int .i64 g.nw,.int .i64 g.dr,.int .i64 g.sn]):=PA8.out.below bx
  have O39:Hid (OwnGt w9 u3.heap.size Rw3 G XLw3):=O38.out.now bx
  have N39:Hid (Bx w9 (v3.heap.size) [.int .i64 G.ip,.int .i64 G.b,.int .i64 G.gt,.string G.gm,.string G.wm,.int .i64 G.rs,.slice Rw3.x G.ps.length Rw3.xc,.slice Rw3.y G.ros.length Rw3.yc,.slice Rw3.ua G.us.length Rw3.uc,.slice Rw3.sa G.ss.length Rw3.sc,.slice Rw3.fa G.fs.length Rw3.fc,.slice Rw3.ra G.es.length Rw3.rc,.int .i64 G.nx,.slice Rw3.la G.fl.length Rw3.lc,.slice Rw3.ca G.co.length Rw3.cc,.int .i64 G.nw,.int .i64 G.dr,.int .i64 G.sn]):=N38.out.below bx
  have M59:Hid (Bx w9 (w5.heap.size) [.int .i64 G.ip,.int .i64 G.b,.int .i64 G.gt,.string G.gm,.string G.wm,.int .i64 G.rs,.slice R5.x G.ps.length R5.xc,.slice R5.y G.ros.length R5.yc,.slice R5.ua G.us.length R5.uc,.slice R5.sa G.ss.length R5.sc,.slice R5.fa G.fs.length R5.fc,.slice R5.ra G.es.length R5.rc,.int .i64 G.nx,.slice R5.la G.fl.length R5.lc,.slice R5.ca G.co.length R5.cc,.int .i64 G.nw,.int .i64 G.dr,.int .i64 G.sn]):=M58.out.below bx
  have Q59:Hid (OwnGt w9 y4.heap.size R5 G XL5):=Q58.out.now bx
  have X9:Hid (Below w.heap.size w w9):=X8.out.trans ((bx).mono X8.out.size)
  clear PA8 O38 N38 M58 Q58 X8
  clear bx
  go_wp2_with (first | (refine wpl_getT 65 rfl _ rfl (w.heap.size) rfl (PA9.out) _ Tryz.underlying65 rfl rfl ?_) | (refine wpl_getT 50 rfl _ rfl (v3.heap.size) rfl (N39.out) _ Tryz.underlying50 rfl rfl ?_) | (refine wpl_getT 50 rfl _ rfl (w5.heap.size) rfl (M59.out) _ Tryz.underlying50 rfl rfl ?_) | fail)
  refine (show Calls _ _ #[_,.int .i64 (1:Int)] _ _ from (gt_mark R5 G XL5 _ 1 _ Q59.out LG.out (by omega) (by omega))).mono ?_
  rintro e w10 ⟨rfl,mk9,hk9⟩
  have nb10:=gtN_bd (Q59.out).ro LG.out
  obtain ⟨KM,hKM⟩:∃ K:Nat,1+gtN G XL5=K:=⟨_,rfl⟩
  have kbM:0<KM∧KM≤900000000:=by omega
  have HKM:Hid (1+gtN G XL5=KM):=hKM
  rw [hKM]
  clear hKM nb10
  have PA10:Hid (Bx w10 (w.heap.size) [.int .i64 g.ip,.int .i64 g.b,.int .i64 g.gt,.string g.gm,.string g.wm,.int .i64 g.rs,.slice A.x g.ps.length A.xc,.slice A.y g.ros.length A.yc,.slice A.ua g.us.length A.uc,.slice A.sa g.ss.length A.sc,.slice A.fa g.fs.length A.fc,.slice A.ra g.es.length A.rc,.int .i64 g.nx,.slice A.la g.fl.length A.lc,.slice A.ca g.co.length A.cc,.int .i64 g.nw,.int .i64 g.dr,.int .i64 g.sn]):=Rlw.bx_keepW PA9.out hk9 ⟨World.block_lt_of_cell? w9 ⟨w.heap.size,0,none⟩ (PA9.out.cell 0 rfl),fun hx=>by have i3:=I3.out.1;have j3:=J3.out;have i4:=I4.out.1;have i5:=I5.out.1;have z:=I5.out.2 _ hx;omega⟩
  have O310:Hid (OwnGt w10 u3.heap.size Rw3 G XLw3):=O39.out.keep (fun x hy=>hk9.block x ⟨(O39.out.lt x hy).2,fun hx=>by have i3:=I3.out.1;have j3:=J3.out;have i4:=I4.out.1;have i5:=I5.out.1;have z:=I5.out.2 _ hx;have y:=I3.out.2 x hy;omega⟩)
  have N310:Hid (Bx w10 (v3.heap.size) [.int .i64 G.ip,.int .i64 G.b,.int .i64 G.gt,.string G.gm,.string G.wm,.int .i64 G.rs,.slice Rw3.x G.ps.length Rw3.xc,.slice Rw3.y G.ros.length Rw3.yc,.slice Rw3.ua G.us.length Rw3.uc,.slice Rw3.sa G.ss.length Rw3.sc,.slice Rw3.fa G.fs.length Rw3.fc,.slice Rw3.ra G.es.length Rw3.rc,.int .i64 G.nx,.slice Rw3.la G.fl.length Rw3.lc,.slice Rw3.ca G.co.length Rw3.cc,.int .i64 G.nw,.int .i64 G.dr,.int .i64 G.sn]):=Rlw.bx_keepW N39.out hk9 ⟨World.block_lt_of_cell? w9 ⟨v3.heap.size,0,none⟩ (N39.out.cell 0 rfl),fun hx=>by have i3:=I3.out.1;have j3:=J3.out;have i4:=I4.out.1;have i5:=I5.out.1;have z:=I5.out.2 _ hx;omega⟩
  have M510:Hid (Bx w10 (w5.heap.size) [.int .i64 G.ip,.int .i64 G.b,.int .i64 G.gt,.string G.gm,.string G.wm,.int .i64 G.rs,.slice R5.x G.ps.length R5.xc,.slice R5.y G.ros.length R5.yc,.slice R5.ua G.us.length R5.uc,.slice R5.sa G.ss.length R5.sc,.slice R5.fa G.fs.length R5.fc,.slice R5.ra G.es.length R5.rc,.int .i64 G.nx,.slice R5.la G.fl.length R5.lc,.slice R5.ca G.co.length R5.cc,.int .i64 G.nw,.int .i64 G.dr,.int .i64 G.sn]):=Rlw.bx_keepW M59.out hk9 ⟨World.block_lt_of_cell? w9 ⟨w5.heap.size,0,none⟩ (M59.out.cell 0 rfl),fun hx=>by have i3:=I3.out.1;have j3:=J3.out;have i4:=I4.out.1;have i5:=I5.out.1;have z:=I5.out.2 _ hx;omega⟩
  have X10:Hid (Below w.heap.size w w10):=X9.out.trans ⟨hk9.os,hk9.tape,hk9.output,hk9.size,fun x hy=>hk9.block x ⟨Nat.lt_of_lt_of_le hy X9.out.size,fun hx=>by have i3:=I3.out.1;have j3:=J3.out;have i4:=I4.out.1;have i5:=I5.out.1;have z:=I5.out.2 _ hx;omega⟩⟩
  clear PA9 O39 N39 M59 Q59 X9
  have Q510:Hid (MkdGt w10 (y4.heap.size) R5 G XL5 1):=mk9
  clear mk9 hk9
  have HH:Hid (∀ w,MkdGt w (y4.heap.size) R5 G XL5 1→Calls Tryz.prog 17 #[.agg #[.int .i64 G.ip,.int .i64 G.b,.int .i64 G.gt,.string G.gm,.string G.wm,.int .i64 G.rs,.slice R5.x G.ps.length R5.xc,.slice R5.y G.ros.length R5.yc,.slice R5.ua G.us.length R5.uc,.slice R5.sa G.ss.length R5.sc,.slice R5.fa G.fs.length R5.fc,.slice R5.ra G.es.length R5.rc,.int .i64 G.nx,.slice R5.la G.fl.length R5.lc,.slice R5.ca G.co.length R5.cc,.int .i64 G.nw,.int .i64 G.dr,.int .i64 G.sn],.int .i64 1] w fun e w'=>e=.returned (.int .i64 ((KM:Nat):Int))∧Below w.heap.size w w'):=fun w h=>by
   have:=gt_held R5 G XL5 _ 1 w RO5.out h LG.out (by omega) (by omega)
   rw [HKM.out] at this
   exact this
  have hqn:decide (((KM:Nat):Int)<0)=false:=decide_eq_false (by omega)
  have hqq:(((KM:Nat):Int) != ((KM:Nat):Int))=false:=by simp
  go_wp2_with (first | (refine wpl_getT 65 rfl _ rfl (w.heap.size) rfl (PA10.out) _ Tryz.underlying65 rfl rfl ?_) | (refine wpl_getT 50 rfl _ rfl (v3.heap.size) rfl (N310.out) _ Tryz.underlying50 rfl rfl ?_) | (refine wpl_getT 50 rfl _ rfl (w5.heap.size) rfl (M510.out) _ Tryz.underlying50 rfl rfl ?_) | fail)
  refine (HH.out _ Q510.out).mono ?_
  rintro e w11 ⟨rfl,bx⟩
  have PA11:Hid (Bx w11 (w.heap.size) [.int .i64 g.ip,.int .i64 g.b,.int .i64 g.gt,.string g.gm,.string g.wm,.int .i64 g.rs,.slice A.x g.ps.length A.xc,.slice A.y g.ros.length A.yc,.slice A.ua g.us.length A.uc,.slice A.sa g.ss.length A.sc,.slice A.fa g.fs.length A.fc,.slice A.ra g.es.length A.rc,.int .i64 g.nx,.slice A.la g.fl.length A.lc,.slice A.ca g.co.length A.cc,.int .i64 g.nw,.int .i64 g.dr,.int .i64 g.sn]):=PA10.out.below bx
  have O311:Hid (OwnGt w11 u3.heap.size Rw3 G XLw3):=O310.out.now bx
  have N311:Hid (Bx w11 (v3.heap.size) [.int .i64 G.ip,.int .i64 G.b,.int .i64 G.gt,.string G.gm,.string G.wm,.int .i64 G.rs,.slice Rw3.x G.ps.length Rw3.xc,.slice Rw3.y G.ros.length Rw3.yc,.slice Rw3.ua G.us.length Rw3.uc,.slice Rw3.sa G.ss.length Rw3.sc,.slice Rw3.fa G.fs.length Rw3.fc,.slice Rw3.ra G.es.length Rw3.rc,.int .i64 G.nx,.slice Rw3.la G.fl.length Rw3.lc,.slice Rw3.ca G.co.length Rw3.cc,.int .i64 G.nw,.int .i64 G.dr,.int .i64 G.sn]):=N310.out.below bx
  have M511:Hid (Bx w11 (w5.heap.size) [.int .i64 G.ip,.int .i64 G.b,.int .i64 G.gt,.string G.gm,.string G.wm,.int .i64 G.rs,.slice R5.x G.ps.length R5.xc,.slice R5.y G.ros.length R5.yc,.slice R5.ua G.us.length R5.uc,.slice R5.sa G.ss.length R5.sc,.slice R5.fa G.fs.length R5.fc,.slice R5.ra G.es.length R5.rc,.int .i64 G.nx,.slice R5.la G.fl.length R5.lc,.slice R5.ca G.co.length R5.cc,.int .i64 G.nw,.int .i64 G.dr,.int .i64 G.sn]):=M510.out.below bx
  have Q511:Hid (MkdGt w11 (y4.heap.size) R5 G XL5 1):=Q510.out.now bx
  have X11:Hid (Below w.heap.size w w11):=X10.out.trans ((bx).mono X10.out.size)
  clear PA10 O310 N310 M510 Q510 X10
  clear bx
  go_wp2_with (first | (refine wpl_getT 65 rfl _ rfl (w.heap.size) rfl (PA11.out) _ Tryz.underlying65 rfl rfl ?_) | (refine wpl_getT 50 rfl _ rfl (v3.heap.size) rfl (N311.out) _ Tryz.underlying50 rfl rfl ?_) | (refine wpl_getT 50 rfl _ rfl (w5.heap.size) rfl (M511.out) _ Tryz.underlying50 rfl rfl ?_) | fail)
  refine (HTA.out _ (RA.out.below X11.out)).mono ?_
  rintro e u9 ⟨A9,L9,rfl,oz,bx⟩
  have bu:=bx
  clear bx
  go_wp2_with fail
  refine (HI.out A9 L9 _ _ oz).mono ?_
  rintro e v9 ⟨Rw12,XLw12,rfl,o9,bx⟩
  replace bx:=bu.trans (bx.mono bu.size)
  clear bu oz
  go_wp2_with (first | (refine wpl_putT 50 rfl _ _ rfl (v9.heap.size) _ rfl rfl (Bx.new v9 #[.int .i64 0,.int .i64 0,.int .i64 0,.string ⟨#[]⟩,.string ⟨#[]⟩,.int .i64 0,.slice none 0 0,.slice none 0 0,.slice none 0 0,.slice none 0 0,.slice none 0 0,.slice none 0 0,.int .i64 0,.slice none 0 0,.slice none 0 0,.int .i64 0,.int .i64 0,.int .i64 0] 50) rfl rfl rfl ?_;intro y9 hy9 Ny9;have bz:Below v9.heap.size v9 y9:=(by rw [hy9];exact below_cells (Nat.le_refl _) _ _ _ ((Below.refl _ _).alloc (Nat.le_refl _) _));have PA12:Hid (Bx y9 (w.heap.size) [.int .i64 g.ip,.int .i64 g.b,.int .i64 g.gt,.string g.gm,.string g.wm,.int .i64 g.rs,.slice A.x g.ps.length A.xc,.slice A.y g.ros.length A.yc,.slice A.ua g.us.length A.uc,.slice A.sa g.ss.length A.sc,.slice A.fa g.fs.length A.fc,.slice A.ra g.es.length A.rc,.int .i64 g.nx,.slice A.la g.fl.length A.lc,.slice A.ca g.co.length A.cc,.int .i64 g.nw,.int .i64 g.dr,.int .i64 g.sn]):=PA11.out.below (bx.trans (bz.mono bx.size));have O312:Hid (OwnGt y9 u3.heap.size Rw3 G XLw3):=O311.out.now (bx.trans (bz.mono bx.size));have N312:Hid (Bx y9 (v3.heap.size) [.int .i64 G.ip,.int .i64 G.b,.int .i64 G.gt,.string G.gm,.string G.wm,.int .i64 G.rs,.slice Rw3.x G.ps.length Rw3.xc,.slice Rw3.y G.ros.length Rw3.yc,.slice Rw3.ua G.us.length Rw3.uc,.slice Rw3.sa G.ss.length Rw3.sc,.slice Rw3.fa G.fs.length Rw3.fc,.slice Rw3.ra G.es.length Rw3.rc,.int .i64 G.nx,.slice Rw3.la G.fl.length Rw3.lc,.slice Rw3.ca G.co.length Rw3.cc,.int .i64 G.nw,.int .i64 G.dr,.int .i64 G.sn]):=N311.out.below (bx.trans (bz.mono bx.size));have M512:Hid (Bx y9 (w5.heap.size) [.int .i64 G.ip,.int .i64 G.b,.int .i64 G.gt,.string G.gm,.string G.wm,.int .i64 G.rs,.slice R5.x G.ps.length R5.xc,.slice R5.y G.ros.length R5.yc,.slice R5.ua G.us.length R5.uc,.slice R5.sa G.ss.length R5.sc,.slice R5.fa G.fs.length R5.fc,.slice R5.ra G.es.length R5.rc,.int .i64 G.nx,.slice R5.la G.fl.length R5.lc,.slice R5.ca G.co.length R5.cc,.int .i64 G.nw,.int .i64 G.dr,.int .i64 G.sn]):=M511.out.below (bx.trans (bz.mono bx.size));have Q512:Hid (MkdGt y9 (y4.heap.size) R5 G XL5 1):=Q511.out.now (bx.trans (bz.mono bx.size));have X12:Hid (Below w.heap.size w y9):=X11.out.trans (((bx.trans (bz.mono bx.size))).mono X11.out.size);clear PA11 O311 N311 M511 Q511 X11;have NH12:Hid (Bx y9 (v9.heap.size) [.int .i64 G.ip,.int .i64 G.b,.int .i64 G.gt,.string G.gm,.string G.wm,.int .i64 G.rs,.slice Rw12.x G.ps.length Rw12.xc,.slice Rw12.y G.ros.length Rw12.yc,.slice Rw12.ua G.us.length Rw12.uc,.slice Rw12.sa G.ss.length Rw12.sc,.slice Rw12.fa G.fs.length Rw12.fc,.slice Rw12.ra G.es.length Rw12.rc,.int .i64 G.nx,.slice Rw12.la G.fl.length Rw12.lc,.slice Rw12.ca G.co.length Rw12.cc,.int .i64 G.nw,.int .i64 G.dr,.int .i64 G.sn]):=Ny9;have OH12:Hid (OwnGt y9 u9.heap.size Rw12 G XLw12):=o9.now bz;have hsy9:y9.heap.size=v9.heap.size+1:=(by rw [hy9,(heap_cellsA _ _ _).1];simp);clear o9 bx bz hy9 Ny9) | (refine wpl_getT 65 rfl _ rfl (w.heap.size) rfl (PA12.out) _ Tryz.underlying65 rfl rfl ?_) | (refine wpl_getT 50 rfl _ rfl (v3.heap.size) rfl (N312.out) _ Tryz.underlying50 rfl rfl ?_) | (refine wpl_getT 50 rfl _ rfl (w5.heap.size) rfl (M512.out) _ Tryz.underlying50 rfl rfl ?_) | (refine wpl_getT 50 rfl _ rfl (v9.heap.size) rfl (NH12.out) _ Tryz.underlying50 rfl rfl ?_) | fail)
  refine (HE.out Rw12 Rw3 _ (OH12.out.gtR OKG.out) (O312.out.gtR OKG.out)).mono ?_
  rintro e w13 ⟨rfl,bx⟩
  clear OH12
  have PA13:Hid (Bx w13 (w.heap.size) [.int .i64 g.ip,.int .i64 g.b,.int .i64 g.gt,.string g.gm,.string g.wm,.int .i64 g.rs,.slice A.x g.ps.length A.xc,.slice A.y g.ros.length A.yc,.slice A.ua g.us.length A.uc,.slice A.sa g.ss.length A.sc,.slice A.fa g.fs.length A.fc,.slice A.ra g.es.length A.rc,.int .i64 g.nx,.slice A.la g.fl.length A.lc,.slice A.ca g.co.length A.cc,.int .i64 g.nw,.int .i64 g.dr,.int .i64 g.sn]):=PA12.out.below bx
  have O313:Hid (OwnGt w13 u3.heap.size Rw3 G XLw3):=O312.out.now bx
  have N313:Hid (Bx w13 (v3.heap.size) [.int .i64 G.ip,.int .i64 G.b,.int .i64 G.gt,.string G.gm,.string G.wm,.int .i64 G.rs,.slice Rw3.x G.ps.length Rw3.xc,.slice Rw3.y G.ros.length Rw3.yc,.slice Rw3.ua G.us.length Rw3.uc,.slice Rw3.sa G.ss.length Rw3.sc,.slice Rw3.fa G.fs.length Rw3.fc,.slice Rw3.ra G.es.length Rw3.rc,.int .i64 G.nx,.slice Rw3.la G.fl.length Rw3.lc,.slice Rw3.ca G.co.length Rw3.cc,.int .i64 G.nw,.int .i64 G.dr,.int .i64 G.sn]):=N312.out.below bx
  have M513:Hid (Bx w13 (w5.heap.size) [.int .i64 G.ip,.int .i64 G.b,.int .i64 G.gt,.string G.gm,.string G.wm,.int .i64 G.rs,.slice R5.x G.ps.length R5.xc,.slice R5.y G.ros.length R5.yc,.slice R5.ua G.us.length R5.uc,.slice R5.sa G.ss.length R5.sc,.slice R5.fa G.fs.length R5.fc,.slice R5.ra G.es.length R5.rc,.int .i64 G.nx,.slice R5.la G.fl.length R5.lc,.slice R5.ca G.co.length R5.cc,.int .i64 G.nw,.int .i64 G.dr,.int .i64 G.sn]):=M512.out.below bx
  have Q513:Hid (MkdGt w13 (y4.heap.size) R5 G XL5 1):=Q512.out.now bx
  have NH13:Hid (Bx w13 (v9.heap.size) [.int .i64 G.ip,.int .i64 G.b,.int .i64 G.gt,.string G.gm,.string G.wm,.int .i64 G.rs,.slice Rw12.x G.ps.length Rw12.xc,.slice Rw12.y G.ros.length Rw12.yc,.slice Rw12.ua G.us.length Rw12.uc,.slice Rw12.sa G.ss.length Rw12.sc,.slice Rw12.fa G.fs.length Rw12.fc,.slice Rw12.ra G.es.length Rw12.rc,.int .i64 G.nx,.slice Rw12.la G.fl.length Rw12.lc,.slice Rw12.ca G.co.length Rw12.cc,.int .i64 G.nw,.int .i64 G.dr,.int .i64 G.sn]):=NH12.out.below bx
  have X13:Hid (Below w.heap.size w w13):=X12.out.trans ((bx).mono X12.out.size)
  clear PA12 O312 N312 M512 Q512 NH12 X12
  clear bx
  go_wp2_with (first | (refine wpl_getT 65 rfl _ rfl (w.heap.size) rfl (PA13.out) _ Tryz.underlying65 rfl rfl ?_) | (refine wpl_getT 50 rfl _ rfl (v3.heap.size) rfl (N313.out) _ Tryz.underlying50 rfl rfl ?_) | (refine wpl_getT 50 rfl _ rfl (w5.heap.size) rfl (M513.out) _ Tryz.underlying50 rfl rfl ?_) | (refine wpl_getT 50 rfl _ rfl (v9.heap.size) rfl (NH13.out) _ Tryz.underlying50 rfl rfl ?_) | fail)
  refine (HH.out _ Q513.out).mono ?_
  rintro e w14 ⟨rfl,bx⟩
  have XZ:=X13.out.trans (bx.mono X13.out.size)
  go_wp2
  go_ret
  exact ⟨rfl,XZ⟩
end Go.Proofs.YtbeehlhcckndcaaGreat
