/- Gateways as values; one that comes in as an argument, opened. -/
import Derived.Test.YtlebblmlbhnppaaGreatOpenR
import Derived.Test.YtlebblmlbhnppaaGreatOpenG
import Derived.Test.YtlebblmlbhnppaaGreatOpenF
import Derived.Test.YtlebblmlbhnppaaGreatOpenC
namespace Go.Proofs.YtlebblmlbhnppaaGreat
open Go.RowKit Go.PlainAid
set_option linter.unusedVariables false

structure GtV where
  ip : Int
  b : Int
  gt : Int
  gm : ByteArray
  wm : ByteArray
  rs : Int
  ps : List PlaceV
  ros : List RoleV
  us : List UserV
  ss : List SessV
  fs : List FailV
  es : List RecV
  nx : Int
  fl : List FlowV
  co : List ConnV
  nw : Int
  dr : Int
  sn : Int
/-- Where the lists of a gateway lie. -/
structure GtA where
  (x y ua sa fa ra la ca : Option Addr)
  (xc yc uc sc fc rc lc cc : Nat)
def gtC (A : GtA) (g : GtV) : List Value := [.int .i64 g.ip, .int .i64 g.b, .int .i64 g.gt, .string g.gm, .string g.wm, .int .i64 g.rs, .slice A.x g.ps.length A.xc, .slice A.y g.ros.length A.yc, .slice A.ua g.us.length A.uc, .slice A.sa g.ss.length A.sc, .slice A.fa g.fs.length A.fc, .slice A.ra g.es.length A.rc, .int .i64 g.nx, .slice A.la g.fl.length A.lc, .slice A.ca g.co.length A.cc, .int .i64 g.nw, .int .i64 g.dr, .int .i64 g.sn]
structure GtR (w : World) (A : GtA) (g : GtV) : Prop where
  ps : Rw PlR 4 w A.x g.ps
  ros : Rw (RoR 0) 5 w A.y g.ros
  us : Rw UsR 6 w A.ua g.us
  ss : Rw SeR 10 w A.sa g.ss
  fs : Rw FaR 3 w A.fa g.fs
  es : Rw ReR 5 w A.ra g.es
  fl : Rw FlR 9 w A.la g.fl
  co : Rw CnR 11 w A.ca g.co
  kl : g.fl.length ≤ A.lc
  kc : g.co.length ≤ A.cc
theorem GtR.below {w w' : World} {A : GtA} {g : GtV} (h : GtR w A g) (hb : Below w.heap.size w w') : GtR w' A g := ⟨h.ps.keep PlR.kp hb, h.ros.keep (RoR.kp 0) hb, h.us.keep UsR.kp hb, h.ss.keep SeR.kp hb, h.fs.keep FaR.kp hb, h.es.keep ReR.kp hb, h.fl.keep FR.kp hb, h.co.keep FR.kp hb, h.kl, h.kc⟩
structure GtB (A : GtA) (g : GtV) : Prop where
  gm : g.gm.size ≤ maxLen
  wm : g.wm.size ≤ maxLen
  ps : g.ps.length ≤ A.xc ∧ A.xc ≤ maxLen
  ros : g.ros.length ≤ A.yc ∧ A.yc ≤ maxLen
  us : g.us.length ≤ A.uc ∧ A.uc ≤ maxLen
  ss : g.ss.length ≤ A.sc ∧ A.sc ≤ maxLen
  fs : g.fs.length ≤ A.fc ∧ A.fc ≤ maxLen
  es : g.es.length ≤ A.rc ∧ A.rc ≤ maxLen
  fl : g.fl.length ≤ A.lc ∧ A.lc ≤ maxLen
  co : g.co.length ≤ A.cc ∧ A.cc ≤ maxLen
  nx : (Lit.int .i64 g.nx).wf = true
  nw : (Lit.int .i64 g.nw).wf = true
  dr : (Lit.int .i64 g.dr).wf = true
  sn : (Lit.int .i64 g.sn).wf = true
section OpnT
variable {H : Type} {enc : TypeId × Value → H} {w : World} {base : Nat} {spare : Nat → Bool} {held : Bool} {fuel : Nat} {cs : List Value} {x : DataW H × List MemPlace}

theorem gis18 {α : Type} {cs : List α} (h : cs.length = 18) : ∃ c0 c1 c2 c3 c4 c5 c6 c7 c8 c9 c10 c11 c12 c13 c14 c15 c16 c17, cs = [c0, c1, c2, c3, c4, c5, c6, c7, c8, c9, c10, c11, c12, c13, c14, c15, c16, c17] := by
  match cs, h with
  | [c0, c1, c2, c3, c4, c5, c6, c7, c8, c9, c10, c11, c12, c13, c14, c15, c16, c17], _ => exact ⟨c0, c1, c2, c3, c4, c5, c6, c7, c8, c9, c10, c11, c12, c13, c14, c15, c16, c17, rfl⟩

theorem t18_Gateway : Tryz.prog.cellsOf 65 = 18 := by kernel_rfl
theorem t18_Config : Tryz.prog.cellsOf 27 = 8 := by kernel_rfl
theorem t18_Guests : Tryz.prog.cellsOf 33 = 5 := by kernel_rfl
theorem t18_Flows : Tryz.prog.cellsOf 62 = 1 := by kernel_rfl
theorem t18_Conns : Tryz.prog.cellsOf 63 = 1 := by kernel_rfl
theorem t18_int : Tryz.prog.cellsOf 3 = 1 := by kernel_rfl
theorem open_gateway (h : DataW.trod enc Tryz.prog w base spare held fuel 65 cs = some x) : ∃ (A : GtA) (g : GtV), cs = gtC A g ∧ GtR w A g ∧ GtB A g := by
  obtain ⟨xs, m, _, _, hcl, hlen, hfld⟩ := DataW.trod_struct Tryz.underlying65 h
  rw [t18_Gateway] at hcl
  obtain ⟨c0, c1, c2, c3, c4, c5, c6, c7, c8, c9, c10, c11, c12, c13, c14, c15, c16, c17, rfl⟩ := gis18 hcl
  replace hlen : xs.length = 7 := hlen
  have e0 := hfld 0 _ rfl
  rw [List.getElem?_eq_getElem (by omega)] at e0
  obtain ⟨ip, b, gt, gm, wm, rs, x, y, lx, xc, ly, yc, ps, ros, q0, wg, ww, ⟨l1, lc1, cm1, r1⟩, l2, lc2, cm2, r2⟩ := open_config e0
  simp [t18_Config] at q0
  obtain ⟨rfl, rfl, rfl, rfl, rfl, rfl, rfl, rfl⟩ := q0
  have e1 := hfld 1 _ rfl
  rw [List.getElem?_eq_getElem (by omega)] at e1
  obtain ⟨ua, sa, fa, ra, ul, uc, sl, sc, fl, fc, rl, rc, us, ss, fs, es, nx, q1, ⟨l3, lc3, cm3, r3⟩, ⟨l4, lc4, cm4, r4⟩, ⟨l5, lc5, cm5, r5⟩, ⟨l6, lc6, cm6, r6⟩, wnx⟩ := open_guests e1
  simp [t18_Guests] at q1
  obtain ⟨rfl, rfl, rfl, rfl, rfl⟩ := q1
  have e2 := hfld 2 _ rfl
  rw [List.getElem?_eq_getElem (by omega)] at e2
  obtain ⟨la, ll, lc, fl2, q2, l7, lc7, cm7, _, r7⟩ := open_flows e2
  simp [t18_Flows] at q2
  subst q2
  have e3 := hfld 3 _ rfl
  rw [List.getElem?_eq_getElem (by omega)] at e3
  obtain ⟨ca, cl, cc, co, q3, l8, lc8, cm8, _, r8⟩ := open_conns e3
  simp [t18_Conns] at q3
  subst q3
  have e4 := hfld 4 _ rfl
  rw [List.getElem?_eq_getElem (by omega)] at e4
  obtain ⟨nw, q4, _, wnw⟩ := DataW.trod_int Tryz.underlying3 e4
  simp [t18_int] at q4
  subst q4
  have e5 := hfld 5 _ rfl
  rw [List.getElem?_eq_getElem (by omega)] at e5
  obtain ⟨dr, q5, _, wdr⟩ := DataW.trod_int Tryz.underlying3 e5
  simp [t18_int] at q5
  subst q5
  have e6 := hfld 6 _ rfl
  rw [List.getElem?_eq_getElem (by omega)] at e6
  obtain ⟨sn, q6, _, wsn⟩ := DataW.trod_int Tryz.underlying3 e6
  simp [t18_int] at q6
  subst q6
  subst l1 l2 l3 l4 l5 l6 l7 l8
  exact ⟨⟨x, y, ua, sa, fa, ra, la, ca, xc, yc, uc, sc, fc, rc, lc, cc⟩, ⟨ip, b, gt, gm, wm, rs, ps, ros, us, ss, fs, es, nx, fl2, co, nw, dr, sn⟩, rfl, ⟨r1, r2, r3, r4, r5, r6, r7, r8, lc7, lc8⟩, ⟨wg, ww, ⟨lc1, cm1⟩, ⟨lc2, cm2⟩, ⟨lc3, cm3⟩, ⟨lc4, cm4⟩, ⟨lc5, cm5⟩, ⟨lc6, cm6⟩, ⟨lc7, cm7⟩, ⟨lc8, cm8⟩, wnx, wnw, wdr, wsn⟩⟩

end OpnT
end Go.Proofs.YtlebblmlbhnppaaGreat
