/- Guests marked and held. Configs and guests of one's own as kinds; read again, kept where nothing of them is written. Rules and places copied and compared by the laws; the walk of laws.FnExactRuleOK. Lists of rules and roles in the laws: szRuleS, toRuleS, eqRuleS, szRole, toRole, eqRole; the walk of laws.FnExactRoleOK. -/
import Derived.Test.YtmeejholckelgaaGreatM38
import Derived.Test.YtmeejholckelgaaGreatM31
import Derived.Test.YtmeejholckelgaaGreatM32
import Derived.Test.YtmeejholckelgaaGreatRuleW
import Derived.Test.YtmeejholckelgaaGreatRoleW
import Derived.Deep.RegionHeld3
namespace Go.Proofs.YtmeejholckelgaaGreat
open Go.RowKit Go.PlainAid Go.Proofs.YtmeejholckelgaaGreat.Bt Go.Sort
set_option linter.unusedVariables false
set_option maxRecDepth 20000
set_option maxHeartbeats 4000000 in
theorem markGuests_any (ux sx fx rx : Option Addr) (un uy sn sy fn fy rn ry : Nat) (us : List UserV) (ss : List SessV) (fs : List FailV) (rs : List RecV) (nx : Int) (m0 B : Nat) (w : World) (h : Own4 w B (.slice ux un uy) (.slice sx sn sy) (.slice fx fn fy) (.slice rx rn ry) us ss fs rs) (h0 : 0 < m0) (hm : m0 + 6 * un + 10 * sn + 3 * fn + 5 * rn ≤ 100000000000) :
    Calls Tryz.prog 15 #[.agg #[.slice ux un uy, .slice sx sn sy, .slice fx fn fy, .slice rx rn ry, .int .i64 nx], .int .i64 (m0 : Int)] w fun e w' => e = .returned (.int .i64 ((m0 + 6 * un + 10 * sn + 3 * fn + 5 * rn : Nat) : Int)) ∧ Own4 w' B (.slice ux un uy) (.slice sx sn sy) (.slice fx fn fy) (.slice rx rn ry) (mkUserL (m0) un) (mkSessionL (m0 + 6 * un) sn) (mkFailL (m0 + 6 * un + 10 * sn) fn) (mkRecordL (m0 + 6 * un + 10 * sn + 3 * fn) rn) ∧ Rel.Keep (fun k => k < w.heap.size ∧ Value.ownBlock (.slice ux un uy) ≠ some k ∧ Value.ownBlock (.slice sx sn sy) ≠ some k ∧ Value.ownBlock (.slice fx fn fy) ≠ some k ∧ Value.ownBlock (.slice rx rn ry) ≠ some k) w w' := by
  have G0 : Bo (w.alloc (.cells #[.slice ux un uy, .slice sx sn sy, .slice fx fn fy, .slice rx rn ry, .int .i64 nx] 41)) w.heap.size 41 [.slice ux un uy, .slice sx sn sy, .slice fx fn fy, .slice rx rn ry, .int .i64 nx] := Bo.new w #[.slice ux un uy, .slice sx sn sy, .slice fx fn fy, .slice rx rn ry, .int .i64 nx] _
  have al : Below w.heap.size w (w.alloc (.cells #[.slice ux un uy, .slice sx sn sy, .slice fx fn fy, .slice rx rn ry, .int .i64 nx] 41)) := (Below.refl _ _).alloc (Nat.le_refl _) _
  have ou := h.u.now al
  have os_ := h.s.now al
  have of_ := h.f.now al
  have or_ := h.r.now al
  have K0 : Hid (Rel.Keep (fun k => k < w.heap.size ∧ Value.ownBlock (.slice ux un uy) ≠ some k ∧ Value.ownBlock (.slice sx sn sy) ≠ some k ∧ Value.ownBlock (.slice fx fn fy) ≠ some k ∧ Value.ownBlock (.slice rx rn ry) ≠ some k) w (w.alloc (.cells #[.slice ux un uy, .slice sx sn sy, .slice fx fn fy, .slice rx rn ry, .int .i64 nx] 41))) := ⟨al.os, al.tape, al.output, al.size, fun k hk => al.block k hk.1⟩
  clear h al
  have c0 := G0.cell 0 rfl
  go_enter Tryz.func15, Tryz.ntmps15
  have H0 := markUserS_any ux un uy B (m0) us _ ou (by omega) (by omega)
  go_wp2_with fail
  refine H0.mono ?_
  rintro e w1 ⟨rfl, o0, g0⟩
  have G1 := G0.row ou (by decide) g0
  have K1 : Hid (Rel.Keep (fun k => k < w.heap.size ∧ Value.ownBlock (.slice ux un uy) ≠ some k ∧ Value.ownBlock (.slice sx sn sy) ≠ some k ∧ Value.ownBlock (.slice fx fn fy) ≠ some k ∧ Value.ownBlock (.slice rx rn ry) ≠ some k) w w1) := K0.out.trans ⟨g0.os, g0.tape, g0.output, g0.size, fun k hk => g0.block k (Nat.lt_of_lt_of_le hk.1 K0.out.size) (fun he => hk.2.1 he.symm)⟩
  have ns := os_.other ou (by decide) g0
  have nf := of_.other ou (by decide) g0
  have nr := or_.other ou (by decide) g0
  clear ou os_ of_ or_
  have ou := o0
  have os_ := ns
  have of_ := nf
  have or_ := nr
  clear o0 g0 H0 K0 G0 ns nf nr c0
  have c1 := G1.cell 1 rfl
  have H1 := markSessionS_any sx sn sy B (m0 + 6 * un) ss _ os_ (by omega) (by omega)
  go_wp2_with fail
  refine H1.mono ?_
  rintro e w2 ⟨rfl, o1, g1⟩
  have G2 := G1.row os_ (by decide) g1
  have K2 : Hid (Rel.Keep (fun k => k < w.heap.size ∧ Value.ownBlock (.slice ux un uy) ≠ some k ∧ Value.ownBlock (.slice sx sn sy) ≠ some k ∧ Value.ownBlock (.slice fx fn fy) ≠ some k ∧ Value.ownBlock (.slice rx rn ry) ≠ some k) w w2) := K1.out.trans ⟨g1.os, g1.tape, g1.output, g1.size, fun k hk => g1.block k (Nat.lt_of_lt_of_le hk.1 K1.out.size) (fun he => hk.2.2.1 he.symm)⟩
  have nu := ou.other os_ (by decide) g1
  have nf := of_.other os_ (by decide) g1
  have nr := or_.other os_ (by decide) g1
  clear ou os_ of_ or_
  have ou := nu
  have os_ := o1
  have of_ := nf
  have or_ := nr
  clear o1 g1 H1 K1 G1 nu nf nr c1
  have c2 := G2.cell 2 rfl
  have H2 := markFailS_any fx fn fy B (m0 + 6 * un + 10 * sn) fs _ of_ (by omega) (by omega)
  go_wp2_with fail
  refine H2.mono ?_
  rintro e w3 ⟨rfl, o2, g2⟩
  have G3 := G2.row of_ (by decide) g2
  have K3 : Hid (Rel.Keep (fun k => k < w.heap.size ∧ Value.ownBlock (.slice ux un uy) ≠ some k ∧ Value.ownBlock (.slice sx sn sy) ≠ some k ∧ Value.ownBlock (.slice fx fn fy) ≠ some k ∧ Value.ownBlock (.slice rx rn ry) ≠ some k) w w3) := K2.out.trans ⟨g2.os, g2.tape, g2.output, g2.size, fun k hk => g2.block k (Nat.lt_of_lt_of_le hk.1 K2.out.size) (fun he => hk.2.2.2.1 he.symm)⟩
  have nu := ou.other of_ (by decide) g2
  have ns := os_.other of_ (by decide) g2
  have nr := or_.other of_ (by decide) g2
  clear ou os_ of_ or_
  have ou := nu
  have os_ := ns
  have of_ := o2
  have or_ := nr
  clear o2 g2 H2 K2 G2 nu ns nr c2
  have c3 := G3.cell 3 rfl
  have H3 := markRecordS_any rx rn ry B (m0 + 6 * un + 10 * sn + 3 * fn) rs _ or_ (by omega) (by omega)
  go_wp2_with fail
  refine H3.mono ?_
  rintro e w4 ⟨rfl, o3, g3⟩
  have G4 := G3.row or_ (by decide) g3
  have K4 : Hid (Rel.Keep (fun k => k < w.heap.size ∧ Value.ownBlock (.slice ux un uy) ≠ some k ∧ Value.ownBlock (.slice sx sn sy) ≠ some k ∧ Value.ownBlock (.slice fx fn fy) ≠ some k ∧ Value.ownBlock (.slice rx rn ry) ≠ some k) w w4) := K3.out.trans ⟨g3.os, g3.tape, g3.output, g3.size, fun k hk => g3.block k (Nat.lt_of_lt_of_le hk.1 K3.out.size) (fun he => hk.2.2.2.2 he.symm)⟩
  have nu := ou.other or_ (by decide) g3
  have ns := os_.other or_ (by decide) g3
  have nf := of_.other or_ (by decide) g3
  clear ou os_ of_ or_
  have ou := nu
  have os_ := ns
  have of_ := nf
  have or_ := o3
  clear o3 g3 H3 K3 G3 nu ns nf c3
  have OO : Hid (Own4 w4 B (.slice ux un uy) (.slice sx sn sy) (.slice fx fn fy) (.slice rx rn ry) (mkUserL (m0) un) (mkSessionL (m0 + 6 * un) sn) (mkFailL (m0 + 6 * un + 10 * sn) fn) (mkRecordL (m0 + 6 * un + 10 * sn + 3 * fn) rn)) := ⟨ou, os_, of_, or_, ap_of ou os_ (by decide), ap_of ou of_ (by decide), ap_of ou or_ (by decide), ap_of os_ of_ (by decide), ap_of os_ or_ (by decide), ap_of of_ or_ (by decide)⟩
  clear ou os_ of_ or_ G4
  go_wp2
  go_ret
  exact ⟨rfl, OO.out, K4.out⟩
set_option maxHeartbeats 4000000 in
theorem heldGuests_any (ux sx fx rx : Option Addr) (un uy sn sy fn fy rn ry : Nat) (nx : Int) (m0 : Nat) (w : World) (hu : Rw UsR 6 w ux (mkUserL (m0) un)) (hs : Rw SeR 10 w sx (mkSessionL (m0 + 6 * un) sn)) (hf : Rw FaR 3 w fx (mkFailL (m0 + 6 * un + 10 * sn) fn)) (hr : Rw ReR 5 w rx (mkRecordL (m0 + 6 * un + 10 * sn + 3 * fn) rn)) (h0 : 0 < m0) (hm : m0 + 6 * un + 10 * sn + 3 * fn + 5 * rn ≤ 100000000000) :
    Calls Tryz.prog 16 #[.agg #[.slice ux un uy, .slice sx sn sy, .slice fx fn fy, .slice rx rn ry, .int .i64 nx], .int .i64 (m0 : Int)] w fun e w' => e = .returned (.int .i64 ((m0 + 6 * un + 10 * sn + 3 * fn + 5 * rn : Nat) : Int)) ∧ Grw w w' := by
  have G0 : Bo (w.alloc (.cells #[.slice ux un uy, .slice sx sn sy, .slice fx fn fy, .slice rx rn ry, .int .i64 nx] 41)) w.heap.size 41 [.slice ux un uy, .slice sx sn sy, .slice fx fn fy, .slice rx rn ry, .int .i64 nx] := Bo.new w #[.slice ux un uy, .slice sx sn sy, .slice fx fn fy, .slice rx rn ry, .int .i64 nx] _
  have K0 : Hid (Grw w (w.alloc (.cells #[.slice ux un uy, .slice sx sn sy, .slice fx fn fy, .slice rx rn ry, .int .i64 nx] 41))) := (Grw.refl _).alloc _
  have c0 := G0.cell 0 rfl
  go_enter Tryz.func16, Tryz.ntmps16
  have H0 := heldUserS_any ux un uy (m0) _ (hu.keep UsR.kp K0.out.below) (by omega) (by omega)
  go_wp2_with fail
  refine H0.mono ?_
  rintro e w1 ⟨rfl, g0⟩
  have G1 := G0.below g0.below
  have K1 : Hid (Grw w w1) := K0.out.trans g0
  have e0 : decide (((m0 + 6 * un : Nat) : Int) < 0) = false := decide_eq_false (by omega)
  clear H0 g0 G0 K0 c0
  have c1 := G1.cell 1 rfl
  have H1 := heldSessionS_any sx sn sy (m0 + 6 * un) _ (hs.keep SeR.kp K1.out.below) (by omega) (by omega)
  go_wp2_with fail
  refine H1.mono ?_
  rintro e w2 ⟨rfl, g1⟩
  have G2 := G1.below g1.below
  have K2 : Hid (Grw w w2) := K1.out.trans g1
  have e1 : decide (((m0 + 6 * un + 10 * sn : Nat) : Int) < 0) = false := decide_eq_false (by omega)
  clear H1 g1 G1 K1 c1
  have c2 := G2.cell 2 rfl
  have H2 := heldFailS_any fx fn fy (m0 + 6 * un + 10 * sn) _ (hf.keep FaR.kp K2.out.below) (by omega) (by omega)
  go_wp2_with fail
  refine H2.mono ?_
  rintro e w3 ⟨rfl, g2⟩
  have G3 := G2.below g2.below
  have K3 : Hid (Grw w w3) := K2.out.trans g2
  have e2 : decide (((m0 + 6 * un + 10 * sn + 3 * fn : Nat) : Int) < 0) = false := decide_eq_false (by omega)
  clear H2 g2 G2 K2 c2
  have c3 := G3.cell 3 rfl
  have H3 := heldRecordS_any rx rn ry (m0 + 6 * un + 10 * sn + 3 * fn) _ (hr.keep ReR.kp K3.out.below) (by omega) (by omega)
  go_wp2_with fail
  refine H3.mono ?_
  rintro e w4 ⟨rfl, g3⟩
  have G4 := G3.below g3.below
  have K4 : Hid (Grw w w4) := K3.out.trans g3
  have e3 : decide (((m0 + 6 * un + 10 * sn + 3 * fn + 5 * rn : Nat) : Int) < 0) = false := decide_eq_false (by omega)
  clear H3 g3 G3 K3 c3
  go_wp2
  go_ret
  exact ⟨rfl, K4.out⟩
end Go.Proofs.YtmeejholckelgaaGreat

namespace Go.Proofs.YtmeejholckelgaaGreat
open Go.RowKit Go.PlainAid Go.Proofs.YtmeejholckelgaaGreat.Bt Go.Sort
set_option linter.unusedVariables false
set_option maxRecDepth 20000
theorem rw_okG {α : Type} {c : α → List Value} {ok : α → Prop} {K : Nat} {w : World} {a : Option Addr} {xs : List α} (h : Rw (FR c ok) K w a xs) : ∀ x, x ∈ xs → ok x := by
  intro x hx
  obtain ⟨i, hi⟩ := List.getElem?_of_mem hx
  obtain ⟨b, off, -, -, hc⟩ := h (List.length_pos_of_mem hx)
  obtain ⟨vs, -, ⟨-, hk⟩, -⟩ := hc i x hi
  exact hk
structure RoOk (r : RoleV) : Prop where
  nm : r.nm.size ≤ maxLen
  rs : ∀ x, x ∈ r.rs → RuRok x
theorem rw_okR {n K : Nat} {w : World} {a : Option Addr} {xs : List RoleV} (h : Rw (RoR n) K w a xs) : ∀ x, x ∈ xs → RoOk x := by
  intro x hx
  obtain ⟨i, hi⟩ := List.getElem?_of_mem hx
  obtain ⟨b, off, -, -, hc⟩ := h (List.length_pos_of_mem hx)
  obtain ⟨vs, -, ⟨a', cap', -, h1, -, -, h4, -⟩, -⟩ := hc i x hi
  exact ⟨h1, rw_okG (c := rv) (ok := RuRok) h4⟩
theorem own_cap {α : Type} {c : α → List Value} {K n cap : Nat} {a : Option Addr} {e : TypeId} {B : Nat} {xs : List α} {w : World} (h : OwnS c K e w B (.slice a n cap) xs) : n ≤ cap ∧ cap ≤ maxLen := by
  rcases h.2 with ⟨h1, h2⟩ | ⟨g, cap', cur, h1, hB, hg, h3, h4, _⟩
  · cases h1; exact ⟨Nat.le_refl _, Nat.zero_le _⟩
  · cases h1; exact ⟨h3, h4⟩
theorem rw_ro {w : World} {B n cap : Nat} {y : Option Addr} {L : List RoX} (o : OwnRo w B (.slice y n cap) L) (hok : ∀ x, x ∈ L → RoOk x.r) : Rw (RoR 0) 5 w y (L.map (fun x => x.r)) := by
  intro h0
  rw [List.length_map] at h0
  obtain ⟨g, rfl, hB, hg, -⟩ := o.row.form h0
  refine ⟨g, 0, rfl, hg, fun i r hr => ?_⟩
  rw [List.getElem?_map] at hr
  obtain ⟨x, hx, rfl⟩ := Option.map_eq_some_iff.1 hr
  have hm := List.mem_of_getElem? hx
  have hru := o.rules x hm
  obtain ⟨k1, k2⟩ := own_cap hru
  refine ⟨roG x, rfl, ⟨x.ra, x.rc, rfl, (hok x hm).nm, k1, k2, hru.rw (ok := RuRok) rv_len (hok x hm).rs, fun _ _ _ => Nat.zero_le _⟩, fun j u hu => ?_⟩
  have := (o.row.cell roG_len (j := j) hx hu).1
  rw [Nat.zero_add]
  exact this
/-- Where the rules of roles lie is to be seen in the row. -/
theorem OwnRo.uniq {w : World} {B B' : Nat} {v : Value} {L L' : List RoX} (o : OwnRo w B v L) (o' : OwnRo w B' v L') (h : L.map (fun x => x.r) = L'.map (fun x => x.r)) : L = L' := by
  have hl : L.length = L'.length := by simpa using congrArg List.length h
  obtain ⟨a, cap, rfl, -⟩ := o.row.slice
  refine List.ext_getElem? (fun i => ?_)
  cases hi : L[i]? with
  | none =>
    rw [List.getElem?_eq_none_iff] at hi
    exact (List.getElem?_eq_none (by omega)).symm
  | some x =>
    have hlt := (List.getElem?_eq_some_iff.1 hi).1
    have hi' : L'[i]? = some L'[i] := List.getElem?_eq_getElem (by omega)
    generalize L'[i] = x' at hi'
    have hr : x.r = x'.r := by
      have := congrArg (·[i]?) h
      simp only [List.getElem?_map, hi, hi', Option.map_some] at this
      exact Option.some.inj this
    obtain ⟨g, rfl, -⟩ := o.row.form (by omega)
    have c1 := (o.row.cell roG_len (j := 1) hi rfl).1
    have c2 := (o'.row.cell roG_len (j := 1) hi' rfl).1
    have e := Option.some.inj (c1.symm.trans c2)
    injection e with e1 _ e2
    rw [hi']
    congr 1
    cases x; cases x'
    simp_all
structure CfV where
  ip : Int
  b : Int
  gt : Int
  gm : ByteArray
  wm : ByteArray
  rs : Int
  ps : List PlaceV
  ros : List RoleV
structure CfA where
  x : Option Addr
  y : Option Addr
  xc : Nat
  yc : Nat
def cfC (A : CfA) (c : CfV) : List Value := [.int .i64 c.ip, .int .i64 c.b, .int .i64 c.gt, .string c.gm, .string c.wm, .int .i64 c.rs, .slice A.x c.ps.length A.xc, .slice A.y c.ros.length A.yc]
theorem cfC_inj {A A' : CfA} {c : CfV} (h : cfC A c = cfC A' c) : A = A' := by
  cases A; cases A'
  simp only [cfC, List.cons.injEq, Value.slice.injEq] at h
  simp_all
theorem agg_inj {l l' : List Value} (h : Value.agg l.toArray = .agg l'.toArray) : l = l' := by
  injection h with h
  exact List.toArray_inj h
structure OwnCf (w : World) (B : Nat) (A : CfA) (c : CfV) (L : List RoX) : Prop where
  ro : L.map (fun x => x.r) = c.ros
  ps : OwnS pv 4 120 w B (.slice A.x c.ps.length A.xc) c.ps
  rs : OwnRo w B (.slice A.y c.ros.length A.yc) L
def cfB (A : CfA) (c : CfV) (L : List RoX) (k : Nat) : Prop := cfBk (.slice A.x c.ps.length A.xc) (.slice A.y c.ros.length A.yc) L k
theorem OwnCf.now {w w' : World} {B : Nat} {A : CfA} {c : CfV} {L : List RoX} (h : OwnCf w B A c L) (hb : Below w.heap.size w w') : OwnCf w' B A c L := ⟨h.ro, h.ps.now hb, h.rs.now hb⟩
theorem OwnCf.keep {w w' : World} {B : Nat} {A : CfA} {c : CfV} {L : List RoX} (h : OwnCf w B A c L) (hk : ∀ b, cfB A c L b → w'.heap[b]? = w.heap[b]?) : OwnCf w' B A c L :=
  ⟨h.ro, Rlw.own_loc h.ps (fun b e => hk b (.inl e)), h.rs.keepB (fun b e => hk b (.inr e))⟩
theorem OwnCf.lt {w : World} {B : Nat} {A : CfA} {c : CfV} {L : List RoX} (h : OwnCf w B A c L) : ∀ k, cfB A c L k → B ≤ k ∧ k < w.heap.size := by
  rintro k (e | e)
  · exact h.ps.lt k e
  · exact h.rs.lt k e
theorem OwnCf.uniq {w : World} {B B' : Nat} {A : CfA} {c : CfV} {L L' : List RoX} (h : OwnCf w B A c L) (h' : OwnCf w B' A c L') : L = L' := h.rs.uniq h'.rs (h.ro.trans h'.ro.symm)
def kCf (c : CfV) : Knd where
  own := fun w B v => ∃ A L, v = .agg (cfC A c).toArray ∧ OwnCf w B A c L
  bk := fun w v b => ∃ A L B, v = .agg (cfC A c).toArray ∧ OwnCf w B A c L ∧ cfB A c L b
  keep := fun w w' B v ⟨A, L, hv, h⟩ hk => by
    have h2 := h.keep (w' := w') (fun b hb => hk b ⟨A, L, B, hv, h, hb⟩)
    refine ⟨⟨A, L, hv, h2⟩, ?_⟩
    rintro b ⟨A', L', B', hv', h', hb⟩
    cases cfC_inj (agg_inj (hv.symm.trans hv'))
    cases h2.uniq h'
    exact ⟨A, L, B, hv, h, hb⟩
  lt := fun w B v ⟨A, L, hv, h⟩ b ⟨A', L', B', hv', h', hb⟩ => by
    cases cfC_inj (agg_inj (hv.symm.trans hv'))
    cases h.uniq h'
    exact h.lt b hb
  lower := fun w B B' v ⟨A, L, hv, h⟩ hB => ⟨A, L, hv, h.ro, h.ps.lower hB, h.rs.lower hB⟩
structure CfR (w : World) (A : CfA) (c : CfV) : Prop where
  ps : Rw PlR 4 w A.x c.ps
  ros : Rw (RoR 0) 5 w A.y c.ros
theorem CfR.below {w w' : World} {A : CfA} {c : CfV} (h : CfR w A c) (hb : Below w.heap.size w w') : CfR w' A c := ⟨h.ps.keep PlR.kp hb, h.ros.keep (RoR.kp 0) hb⟩
structure CfOk (c : CfV) : Prop where
  ps : ∀ x, x ∈ c.ps → PlRok x
  ros : ∀ x, x ∈ c.ros → RoOk x
theorem CfR.ok {w : World} {A : CfA} {c : CfV} (h : CfR w A c) : CfOk c := ⟨rw_okG (c := pv) (ok := PlRok) h.ps, rw_okR h.ros⟩
theorem OwnCf.rw {w : World} {B : Nat} {A : CfA} {c : CfV} {L : List RoX} (h : OwnCf w B A c L) (hk : CfOk c) : CfR w A c := by
  refine ⟨h.ps.rw (ok := PlRok) pv_len hk.ps, ?_⟩
  have := rw_ro h.rs (fun x hx => hk.ros x.r (by rw [← h.ro]; exact List.mem_map_of_mem hx))
  rw [h.ro] at this
  exact this
/-- Guests. -/
structure HuV where
  us : List UserV
  ss : List SessV
  fs : List FailV
  es : List RecV
  nx : Int
structure HuA where
  u : Option Addr
  s : Option Addr
  f : Option Addr
  r : Option Addr
  uc : Nat
  sc : Nat
  fc : Nat
  rc : Nat
def huC (A : HuA) (h : HuV) : List Value := [.slice A.u h.us.length A.uc, .slice A.s h.ss.length A.sc, .slice A.f h.fs.length A.fc, .slice A.r h.es.length A.rc, .int .i64 h.nx]
theorem huC_inj {A A' : HuA} {h : HuV} (e : huC A h = huC A' h) : A = A' := by
  cases A; cases A'
  simp only [huC, List.cons.injEq, Value.slice.injEq] at e
  simp_all
def OwnHu (w : World) (B : Nat) (A : HuA) (h : HuV) : Prop := Own4 w B (.slice A.u h.us.length A.uc) (.slice A.s h.ss.length A.sc) (.slice A.f h.fs.length A.fc) (.slice A.r h.es.length A.rc) h.us h.ss h.fs h.es
def huB (A : HuA) (h : HuV) (k : Nat) : Prop := Value.ownBlock (.slice A.u h.us.length A.uc) = some k ∨ Value.ownBlock (.slice A.s h.ss.length A.sc) = some k ∨ Value.ownBlock (.slice A.f h.fs.length A.fc) = some k ∨ Value.ownBlock (.slice A.r h.es.length A.rc) = some k
theorem OwnHu.now {w w' : World} {B : Nat} {A : HuA} {h : HuV} (o : OwnHu w B A h) (hb : Below w.heap.size w w') : OwnHu w' B A h := Own4.now o hb
theorem OwnHu.keep {w w' : World} {B : Nat} {A : HuA} {h : HuV} (o : OwnHu w B A h) (hk : ∀ b, huB A h b → w'.heap[b]? = w.heap[b]?) : OwnHu w' B A h :=
  ⟨Rlw.own_loc o.u (fun b e => hk b (.inl e)), Rlw.own_loc o.s (fun b e => hk b (.inr (.inl e))), Rlw.own_loc o.f (fun b e => hk b (.inr (.inr (.inl e)))), Rlw.own_loc o.r (fun b e => hk b (.inr (.inr (.inr e)))), o.us_, o.uf, o.ur, o.sf, o.sr, o.fr⟩
theorem OwnHu.lt {w : World} {B : Nat} {A : HuA} {h : HuV} (o : OwnHu w B A h) : ∀ k, huB A h k → B ≤ k ∧ k < w.heap.size := by
  rintro k (e | e | e | e)
  · exact o.u.lt k e
  · exact o.s.lt k e
  · exact o.f.lt k e
  · exact o.r.lt k e
def kHu (h : HuV) : Knd where
  own := fun w B v => ∃ A, v = .agg (huC A h).toArray ∧ OwnHu w B A h
  bk := fun w v b => ∃ A, v = .agg (huC A h).toArray ∧ huB A h b
  keep := fun w w' B v ⟨A, hv, o⟩ hk => ⟨⟨A, hv, o.keep (fun b hb => hk b ⟨A, hv, hb⟩)⟩, fun b hb => hb⟩
  lt := fun w B v ⟨A, hv, o⟩ b ⟨A', hv', hb⟩ => by
    cases huC_inj (agg_inj (hv.symm.trans hv'))
    exact o.lt b hb
  lower := fun w B B' v ⟨A, hv, o⟩ hB => ⟨A, hv, Own4.lower o hB⟩
structure HuR (w : World) (A : HuA) (h : HuV) : Prop where
  us : Rw UsR 6 w A.u h.us
  ss : Rw SeR 10 w A.s h.ss
  fs : Rw FaR 3 w A.f h.fs
  es : Rw ReR 5 w A.r h.es
theorem HuR.below {w w' : World} {A : HuA} {h : HuV} (o : HuR w A h) (hb : Below w.heap.size w w') : HuR w' A h := ⟨o.us.keep UsR.kp hb, o.ss.keep SeR.kp hb, o.fs.keep FaR.kp hb, o.es.keep ReR.kp hb⟩
structure HuOk (h : HuV) : Prop where
  us : ∀ x, x ∈ h.us → UsRok x
  ss : ∀ x, x ∈ h.ss → SeRok x
  fs : ∀ x, x ∈ h.fs → FaRok x
  es : ∀ x, x ∈ h.es → ReRok x
theorem HuR.ok {w : World} {A : HuA} {h : HuV} (o : HuR w A h) : HuOk h := ⟨rw_okG (c := uvG) (ok := UsRok) o.us, rw_okG (c := svG) (ok := SeRok) o.ss, rw_okG (c := fvG) (ok := FaRok) o.fs, rw_okG (c := evG) (ok := ReRok) o.es⟩
theorem OwnHu.rw {w : World} {B : Nat} {A : HuA} {h : HuV} (o : OwnHu w B A h) (hk : HuOk h) : HuR w A h :=
  ⟨o.u.rw (ok := UsRok) uvG_len hk.us, o.s.rw (ok := SeRok) svG_len hk.ss, o.f.rw (ok := FaRok) fvG_len hk.fs, o.r.rw (ok := ReRok) evG_len hk.es⟩
def zeroHu : HuV := ⟨[], [], [], [], 0⟩
def zeroHA : HuA := ⟨none, none, none, none, 0, 0, 0, 0⟩
theorem ap_none (v : Value) (n c : Nat) : Ap (.slice none n c) v := by
  intro k hk
  cases hk
theorem OwnHu.zero (w : World) (B : Nat) : OwnHu w B zeroHA zeroHu :=
  ⟨OwnS.nil w B, OwnS.nil w B, OwnS.nil w B, OwnS.nil w B, ap_none _ _ _, ap_none _ _ _, ap_none _ _ _, ap_none _ _ _, ap_none _ _ _, ap_none _ _ _⟩
theorem zeroHu_ok : HuOk zeroHu := ⟨(fun _ h => by cases h), (fun _ h => by cases h), (fun _ h => by cases h), (fun _ h => by cases h)⟩
/-- A list that is handed in, out of one of one's own. -/
theorem OwnS.src {α : Type} {c : α → List Value} {K n cap : Nat} {a : Option Addr} {e : TypeId} {B : Nat} {xs : List α} {w : World} {ok : α → Prop} (h : OwnS c K e w B (.slice a n cap) xs) (hK : ∀ x, (c x).length = K) (hok : ∀ x, x ∈ xs → ok x) (hm : n ≤ 1048576) : Src (FR c ok) K w a n cap xs := by
  refine ⟨h.rw hK hok, h.len, hm, (own_cap h).1, ?_, ?_⟩
  · intro p hp
    rcases h.2 with ⟨h1, _⟩ | ⟨g, cap', cur, h1, _⟩
    · cases h1; cases hp
    · cases h1; cases hp; rfl
  · intro hn
    rcases h.2 with ⟨h1, _⟩ | ⟨g, cap', cur, h1, _⟩
    · cases h1; exact ⟨rfl, rfl⟩
    · cases h1; cases hn
end Go.Proofs.YtmeejholckelgaaGreat

namespace Go.Proofs.YtmeejholckelgaaGreat
open Go.RowKit Go.PlainAid Go.Proofs.YtmeejholckelgaaGreat.Bt Go.Sort
set_option linter.unusedVariables false
set_option maxRecDepth 20000
theorem toNet2 (f0 f1 : Int) (w : World) :
    Calls Tryz.prog 35 #[.agg #[.int .i64 f0, .int .i64 f1]] w fun e w' => e = .returned (.agg #[.int .i64 f0, .int .i64 f1]) ∧ Below w.heap.size w w' := by
  go_enter Tryz.func35, Tryz.ntmps35
  go_wp2
  (try simp only [Exit.inBlock, Exit.then])
  refine bodyPost_ret (v := .agg #[.int .i64 f0, .int .i64 f1]) (by simp [results, Tryz.results35, go_sem]; try rfl) rfl ?_
  exact ⟨rfl, ((((Grw.refl _).alloc _).alloc _).alloc _).below⟩
theorem eqNet2 (x0 x1 : Int) (w : World) :
    Calls Tryz.prog 51 #[.agg #[.int .i64 x0, .int .i64 x1], .agg #[.int .i64 x0, .int .i64 x1]] w fun e w' => e = .returned (.bool true) ∧ Grw w w' := by
  have h0 : (x0 != x0) = false := by simp
  have h1 : (x1 != x1) = false := by simp
  go_enter Tryz.func51, Tryz.ntmps51
  go_wp2
  go_ret
  exact ⟨rfl, ((Grw.refl _).alloc _).alloc _⟩

theorem toRange2 (f0 f1 : Int) (w : World) :
    Calls Tryz.prog 105 #[.agg #[.int .i64 f0, .int .i64 f1]] w fun e w' => e = .returned (.agg #[.int .i64 f0, .int .i64 f1]) ∧ Below w.heap.size w w' := by
  go_enter Tryz.func105, Tryz.ntmps105
  go_wp2
  (try simp only [Exit.inBlock, Exit.then])
  refine bodyPost_ret (v := .agg #[.int .i64 f0, .int .i64 f1]) (by simp [results, Tryz.results105, go_sem]; try rfl) rfl ?_
  exact ⟨rfl, ((((Grw.refl _).alloc _).alloc _).alloc _).below⟩
theorem eqRange2 (x0 x1 : Int) (w : World) :
    Calls Tryz.prog 112 #[.agg #[.int .i64 x0, .int .i64 x1], .agg #[.int .i64 x0, .int .i64 x1]] w fun e w' => e = .returned (.bool true) ∧ Grw w w' := by
  have h0 : (x0 != x0) = false := by simp
  have h1 : (x1 != x1) = false := by simp
  go_enter Tryz.func112, Tryz.ntmps112
  go_wp2
  go_ret
  exact ⟨rfl, ((Grw.refl _).alloc _).alloc _⟩

set_option maxHeartbeats 1000000 in
theorem toRule_any (p ip b lo hi : Int) (al : Bool) (w : World) :
    Calls Tryz.prog 119 #[.agg #[.int .i64 p, .int .i64 ip, .int .i64 b, .int .i64 lo, .int .i64 hi, .bool al]] w fun e w' => e = .returned (.agg #[.int .i64 p, .int .i64 ip, .int .i64 b, .int .i64 lo, .int .i64 hi, .bool al]) ∧ Below w.heap.size w w' := by
  have HA : Hid (∀ w, Calls Tryz.prog 35 #[.agg #[.int .i64 ip, .int .i64 b]] w fun e w' => e = .returned (.agg #[.int .i64 ip, .int .i64 b]) ∧ Below w.heap.size w w') := fun w => toNet2 ip b w
  have HB : Hid (∀ w, Calls Tryz.prog 105 #[.agg #[.int .i64 lo, .int .i64 hi]] w fun e w' => e = .returned (.agg #[.int .i64 lo, .int .i64 hi]) ∧ Below w.heap.size w w') := fun w => toRange2 lo hi w
  go_enter Tryz.func119, Tryz.ntmps119
  go_wp2_with fail
  refine (HA.out _).mono ?_
  rintro e wx1 ⟨rfl, bx⟩
  have c1_0_0 : wx1.cell? ⟨w.heap.size, 0, none⟩ = some (.int .i64 p) := bkeep bx (by simp [go_sem])
  have c1_0_1 : wx1.cell? ⟨w.heap.size, 1, none⟩ = some (.int .i64 ip) := bkeep bx (by simp [go_sem])
  have c1_0_2 : wx1.cell? ⟨w.heap.size, 2, none⟩ = some (.int .i64 b) := bkeep bx (by simp [go_sem])
  have c1_0_3 : wx1.cell? ⟨w.heap.size, 3, none⟩ = some (.int .i64 lo) := bkeep bx (by simp [go_sem])
  have c1_0_4 : wx1.cell? ⟨w.heap.size, 4, none⟩ = some (.int .i64 hi) := bkeep bx (by simp [go_sem])
  have c1_0_5 : wx1.cell? ⟨w.heap.size, 5, none⟩ = some (.bool al) := bkeep bx (by simp [go_sem])
  have c1_1_0 : wx1.cell? ⟨w.heap.size + 1, 0, none⟩ = some (.int .i64 0) := bkeep bx (by simp [go_sem])
  have f1_1_0 : wx1.frozen? ⟨w.heap.size + 1, 0, none⟩ = false := bthaw bx (v := .int .i64 0) (by simp [go_sem]) (by simp [go_sem])
  have c1_1_1 : wx1.cell? ⟨w.heap.size + 1, 1, none⟩ = some (.int .i64 0) := bkeep bx (by simp [go_sem])
  have f1_1_1 : wx1.frozen? ⟨w.heap.size + 1, 1, none⟩ = false := bthaw bx (v := .int .i64 0) (by simp [go_sem]) (by simp [go_sem])
  have c1_1_2 : wx1.cell? ⟨w.heap.size + 1, 2, none⟩ = some (.int .i64 0) := bkeep bx (by simp [go_sem])
  have f1_1_2 : wx1.frozen? ⟨w.heap.size + 1, 2, none⟩ = false := bthaw bx (v := .int .i64 0) (by simp [go_sem]) (by simp [go_sem])
  have c1_1_3 : wx1.cell? ⟨w.heap.size + 1, 3, none⟩ = some (.int .i64 0) := bkeep bx (by simp [go_sem])
  have f1_1_3 : wx1.frozen? ⟨w.heap.size + 1, 3, none⟩ = false := bthaw bx (v := .int .i64 0) (by simp [go_sem]) (by simp [go_sem])
  have c1_1_4 : wx1.cell? ⟨w.heap.size + 1, 4, none⟩ = some (.int .i64 0) := bkeep bx (by simp [go_sem])
  have f1_1_4 : wx1.frozen? ⟨w.heap.size + 1, 4, none⟩ = false := bthaw bx (v := .int .i64 0) (by simp [go_sem]) (by simp [go_sem])
  have c1_1_5 : wx1.cell? ⟨w.heap.size + 1, 5, none⟩ = some (.bool false) := bkeep bx (by simp [go_sem])
  have f1_1_5 : wx1.frozen? ⟨w.heap.size + 1, 5, none⟩ = false := bthaw bx (v := .bool false) (by simp [go_sem]) (by simp [go_sem])
  have c1_2_0 : wx1.cell? ⟨w.heap.size + 1 + 1, 0, none⟩ = some (.int .i64 p) := bkeep bx (by simp [go_sem])
  have f1_2_0 : wx1.frozen? ⟨w.heap.size + 1 + 1, 0, none⟩ = false := bthaw bx (v := .int .i64 p) (by simp [go_sem]) (by simp [go_sem])
  have c1_2_1 : wx1.cell? ⟨w.heap.size + 1 + 1, 1, none⟩ = some (.int .i64 0) := bkeep bx (by simp [go_sem])
  have f1_2_1 : wx1.frozen? ⟨w.heap.size + 1 + 1, 1, none⟩ = false := bthaw bx (v := .int .i64 0) (by simp [go_sem]) (by simp [go_sem])
  have c1_2_2 : wx1.cell? ⟨w.heap.size + 1 + 1, 2, none⟩ = some (.int .i64 0) := bkeep bx (by simp [go_sem])
  have f1_2_2 : wx1.frozen? ⟨w.heap.size + 1 + 1, 2, none⟩ = false := bthaw bx (v := .int .i64 0) (by simp [go_sem]) (by simp [go_sem])
  have c1_2_3 : wx1.cell? ⟨w.heap.size + 1 + 1, 3, none⟩ = some (.int .i64 0) := bkeep bx (by simp [go_sem])
  have f1_2_3 : wx1.frozen? ⟨w.heap.size + 1 + 1, 3, none⟩ = false := bthaw bx (v := .int .i64 0) (by simp [go_sem]) (by simp [go_sem])
  have c1_2_4 : wx1.cell? ⟨w.heap.size + 1 + 1, 4, none⟩ = some (.int .i64 0) := bkeep bx (by simp [go_sem])
  have f1_2_4 : wx1.frozen? ⟨w.heap.size + 1 + 1, 4, none⟩ = false := bthaw bx (v := .int .i64 0) (by simp [go_sem]) (by simp [go_sem])
  have c1_2_5 : wx1.cell? ⟨w.heap.size + 1 + 1, 5, none⟩ = some (.bool false) := bkeep bx (by simp [go_sem])
  have f1_2_5 : wx1.frozen? ⟨w.heap.size + 1 + 1, 5, none⟩ = false := bthaw bx (v := .bool false) (by simp [go_sem]) (by simp [go_sem])
  have BX1 : Hid (Below w.heap.size w wx1) := ((((Below.refl w.heap.size w).alloc (by simp <;> omega) _).alloc (by simp <;> omega) _).alloc (by simp <;> omega) _).trans (bx.mono (by simp <;> omega))
  clear bx
  go_wp2_with fail
  refine (HB.out _).mono ?_
  rintro e wx2 ⟨rfl, bx⟩
  have c2_0_0 : wx2.cell? ⟨w.heap.size, 0, none⟩ = some (.int .i64 p) := bkeep bx (by first | (simp [go_sem]; done) | simp [go_sem, c1_0_0])
  have c2_0_1 : wx2.cell? ⟨w.heap.size, 1, none⟩ = some (.int .i64 ip) := bkeep bx (by first | (simp [go_sem]; done) | simp [go_sem, c1_0_1])
  have c2_0_2 : wx2.cell? ⟨w.heap.size, 2, none⟩ = some (.int .i64 b) := bkeep bx (by first | (simp [go_sem]; done) | simp [go_sem, c1_0_2])
  have c2_0_3 : wx2.cell? ⟨w.heap.size, 3, none⟩ = some (.int .i64 lo) := bkeep bx (by first | (simp [go_sem]; done) | simp [go_sem, c1_0_3])
  have c2_0_4 : wx2.cell? ⟨w.heap.size, 4, none⟩ = some (.int .i64 hi) := bkeep bx (by first | (simp [go_sem]; done) | simp [go_sem, c1_0_4])
  have c2_0_5 : wx2.cell? ⟨w.heap.size, 5, none⟩ = some (.bool al) := bkeep bx (by first | (simp [go_sem]; done) | simp [go_sem, c1_0_5])
  have c2_1_0 : wx2.cell? ⟨w.heap.size + 1, 0, none⟩ = some (.int .i64 0) := bkeep bx (by first | (simp [go_sem]; done) | simp [go_sem, c1_1_0])
  have f2_1_0 : wx2.frozen? ⟨w.heap.size + 1, 0, none⟩ = false := bthaw bx (v := .int .i64 0) (by first | (simp [go_sem]; done) | simp [go_sem, c1_1_0]) (by first | (simp [go_sem]; done) | simp [go_sem, f1_1_0])
  have c2_1_1 : wx2.cell? ⟨w.heap.size + 1, 1, none⟩ = some (.int .i64 0) := bkeep bx (by first | (simp [go_sem]; done) | simp [go_sem, c1_1_1])
  have f2_1_1 : wx2.frozen? ⟨w.heap.size + 1, 1, none⟩ = false := bthaw bx (v := .int .i64 0) (by first | (simp [go_sem]; done) | simp [go_sem, c1_1_1]) (by first | (simp [go_sem]; done) | simp [go_sem, f1_1_1])
  have c2_1_2 : wx2.cell? ⟨w.heap.size + 1, 2, none⟩ = some (.int .i64 0) := bkeep bx (by first | (simp [go_sem]; done) | simp [go_sem, c1_1_2])
  have f2_1_2 : wx2.frozen? ⟨w.heap.size + 1, 2, none⟩ = false := bthaw bx (v := .int .i64 0) (by first | (simp [go_sem]; done) | simp [go_sem, c1_1_2]) (by first | (simp [go_sem]; done) | simp [go_sem, f1_1_2])
  have c2_1_3 : wx2.cell? ⟨w.heap.size + 1, 3, none⟩ = some (.int .i64 0) := bkeep bx (by first | (simp [go_sem]; done) | simp [go_sem, c1_1_3])
  have f2_1_3 : wx2.frozen? ⟨w.heap.size + 1, 3, none⟩ = false := bthaw bx (v := .int .i64 0) (by first | (simp [go_sem]; done) | simp [go_sem, c1_1_3]) (by first | (simp [go_sem]; done) | simp [go_sem, f1_1_3])
  have c2_1_4 : wx2.cell? ⟨w.heap.size + 1, 4, none⟩ = some (.int .i64 0) := bkeep bx (by first | (simp [go_sem]; done) | simp [go_sem, c1_1_4])
  have f2_1_4 : wx2.frozen? ⟨w.heap.size + 1, 4, none⟩ = false := bthaw bx (v := .int .i64 0) (by first | (simp [go_sem]; done) | simp [go_sem, c1_1_4]) (by first | (simp [go_sem]; done) | simp [go_sem, f1_1_4])
  have c2_1_5 : wx2.cell? ⟨w.heap.size + 1, 5, none⟩ = some (.bool false) := bkeep bx (by first | (simp [go_sem]; done) | simp [go_sem, c1_1_5])
  have f2_1_5 : wx2.frozen? ⟨w.heap.size + 1, 5, none⟩ = false := bthaw bx (v := .bool false) (by first | (simp [go_sem]; done) | simp [go_sem, c1_1_5]) (by first | (simp [go_sem]; done) | simp [go_sem, f1_1_5])
  have c2_2_0 : wx2.cell? ⟨w.heap.size + 1 + 1, 0, none⟩ = some (.int .i64 p) := bkeep bx (by first | (simp [go_sem]; done) | simp [go_sem, c1_2_0])
  have f2_2_0 : wx2.frozen? ⟨w.heap.size + 1 + 1, 0, none⟩ = false := bthaw bx (v := .int .i64 p) (by first | (simp [go_sem]; done) | simp [go_sem, c1_2_0]) (by first | (simp [go_sem]; done) | simp [go_sem, f1_2_0])
  have c2_2_1 : wx2.cell? ⟨w.heap.size + 1 + 1, 1, none⟩ = some (.int .i64 ip) := bkeep bx (by first | (simp [go_sem]; done) | simp [go_sem, c1_2_1])
  have f2_2_1 : wx2.frozen? ⟨w.heap.size + 1 + 1, 1, none⟩ = false := bthaw bx (v := .int .i64 ip) (by first | (simp [go_sem]; done) | simp [go_sem, c1_2_1]) (by first | (simp [go_sem]; done) | simp [go_sem, f1_2_1])
  have c2_2_2 : wx2.cell? ⟨w.heap.size + 1 + 1, 2, none⟩ = some (.int .i64 b) := bkeep bx (by first | (simp [go_sem]; done) | simp [go_sem, c1_2_2])
  have f2_2_2 : wx2.frozen? ⟨w.heap.size + 1 + 1, 2, none⟩ = false := bthaw bx (v := .int .i64 b) (by first | (simp [go_sem]; done) | simp [go_sem, c1_2_2]) (by first | (simp [go_sem]; done) | simp [go_sem, f1_2_2])
  have c2_2_3 : wx2.cell? ⟨w.heap.size + 1 + 1, 3, none⟩ = some (.int .i64 0) := bkeep bx (by first | (simp [go_sem]; done) | simp [go_sem, c1_2_3])
  have f2_2_3 : wx2.frozen? ⟨w.heap.size + 1 + 1, 3, none⟩ = false := bthaw bx (v := .int .i64 0) (by first | (simp [go_sem]; done) | simp [go_sem, c1_2_3]) (by first | (simp [go_sem]; done) | simp [go_sem, f1_2_3])
  have c2_2_4 : wx2.cell? ⟨w.heap.size + 1 + 1, 4, none⟩ = some (.int .i64 0) := bkeep bx (by first | (simp [go_sem]; done) | simp [go_sem, c1_2_4])
  have f2_2_4 : wx2.frozen? ⟨w.heap.size + 1 + 1, 4, none⟩ = false := bthaw bx (v := .int .i64 0) (by first | (simp [go_sem]; done) | simp [go_sem, c1_2_4]) (by first | (simp [go_sem]; done) | simp [go_sem, f1_2_4])
  have c2_2_5 : wx2.cell? ⟨w.heap.size + 1 + 1, 5, none⟩ = some (.bool false) := bkeep bx (by first | (simp [go_sem]; done) | simp [go_sem, c1_2_5])
  have f2_2_5 : wx2.frozen? ⟨w.heap.size + 1 + 1, 5, none⟩ = false := bthaw bx (v := .bool false) (by first | (simp [go_sem]; done) | simp [go_sem, c1_2_5]) (by first | (simp [go_sem]; done) | simp [go_sem, f1_2_5])
  have BX2 : Hid (Below w.heap.size w wx2) := ((BX1.out.setCell (p := ⟨w.heap.size + 1 + 1, _, _⟩) (by show w.heap.size ≤ w.heap.size + 1 + 1; omega) _).setCell (p := ⟨w.heap.size + 1 + 1, _, _⟩) (by show w.heap.size ≤ w.heap.size + 1 + 1; omega) _).trans (bx.mono (by have := BX1.out.size; simp <;> omega))
  clear bx c1_0_0 c1_0_1 c1_0_2 c1_0_3 c1_0_4 c1_0_5 c1_1_0 c1_1_1 c1_1_2 c1_1_3 c1_1_4 c1_1_5 c1_2_0 c1_2_1 c1_2_2 c1_2_3 c1_2_4 c1_2_5 f1_1_0 f1_1_1 f1_1_2 f1_1_3 f1_1_4 f1_1_5 f1_2_0 f1_2_1 f1_2_2 f1_2_3 f1_2_4 f1_2_5 BX1
  go_wp2
  (try simp only [Exit.inBlock, Exit.then])
  refine bodyPost_ret (v := .agg #[.int .i64 p, .int .i64 ip, .int .i64 b, .int .i64 lo, .int .i64 hi, .bool al]) (by simp [results, Tryz.results119, go_sem, c2_1_0, c2_1_1, c2_1_2, c2_1_3, c2_1_4, c2_1_5]; try rfl) rfl ?_
  exact ⟨rfl, (((((((((BX2.out.setCell (p := ⟨w.heap.size + 1 + 1, _, _⟩) (by show w.heap.size ≤ w.heap.size + 1 + 1; omega) _).setCell (p := ⟨w.heap.size + 1 + 1, _, _⟩) (by show w.heap.size ≤ w.heap.size + 1 + 1; omega) _).setCell (p := ⟨w.heap.size + 1 + 1, _, _⟩) (by show w.heap.size ≤ w.heap.size + 1 + 1; omega) _).setCell (p := ⟨w.heap.size + 1, _, _⟩) (by show w.heap.size ≤ w.heap.size + 1; omega) _).setCell (p := ⟨w.heap.size + 1, _, _⟩) (by show w.heap.size ≤ w.heap.size + 1; omega) _).setCell (p := ⟨w.heap.size + 1, _, _⟩) (by show w.heap.size ≤ w.heap.size + 1; omega) _).setCell (p := ⟨w.heap.size + 1, _, _⟩) (by show w.heap.size ≤ w.heap.size + 1; omega) _).setCell (p := ⟨w.heap.size + 1, _, _⟩) (by show w.heap.size ≤ w.heap.size + 1; omega) _).setCell (p := ⟨w.heap.size + 1, _, _⟩) (by show w.heap.size ≤ w.heap.size + 1; omega) _)⟩

set_option maxHeartbeats 1000000 in
theorem eqRule_any (p ip b lo hi : Int) (al : Bool) (w : World) :
    Calls Tryz.prog 128 #[.agg #[.int .i64 p, .int .i64 ip, .int .i64 b, .int .i64 lo, .int .i64 hi, .bool al], .agg #[.int .i64 p, .int .i64 ip, .int .i64 b, .int .i64 lo, .int .i64 hi, .bool al]] w fun e w' => e = .returned (.bool true) ∧ Grw w w' := by
  have HA : Hid (∀ w, Calls Tryz.prog 51 #[.agg #[.int .i64 ip, .int .i64 b], .agg #[.int .i64 ip, .int .i64 b]] w fun e w' => e = .returned (.bool true) ∧ Grw w w') := fun w => eqNet2 ip b w
  have HB : Hid (∀ w, Calls Tryz.prog 112 #[.agg #[.int .i64 lo, .int .i64 hi], .agg #[.int .i64 lo, .int .i64 hi]] w fun e w' => e = .returned (.bool true) ∧ Grw w w') := fun w => eqRange2 lo hi w
  have hp : (p != p) = false := by simp
  have ha : (al != al) = false := by simp
  go_enter Tryz.func128, Tryz.ntmps128
  go_wp2_with fail
  refine (HA.out _).mono ?_
  rintro e wx1 ⟨rfl, bx⟩
  have k0_0 : World.cell? _ ⟨w.heap.size, 0, none⟩ = some (.int .i64 p) := bx.keep (a := ⟨w.heap.size, 0, none⟩) (v := .int .i64 p) (by simp [go_sem])
  have k0_1 : World.cell? _ ⟨w.heap.size, 1, none⟩ = some (.int .i64 ip) := bx.keep (a := ⟨w.heap.size, 1, none⟩) (v := .int .i64 ip) (by simp [go_sem])
  have k0_2 : World.cell? _ ⟨w.heap.size, 2, none⟩ = some (.int .i64 b) := bx.keep (a := ⟨w.heap.size, 2, none⟩) (v := .int .i64 b) (by simp [go_sem])
  have k0_3 : World.cell? _ ⟨w.heap.size, 3, none⟩ = some (.int .i64 lo) := bx.keep (a := ⟨w.heap.size, 3, none⟩) (v := .int .i64 lo) (by simp [go_sem])
  have k0_4 : World.cell? _ ⟨w.heap.size, 4, none⟩ = some (.int .i64 hi) := bx.keep (a := ⟨w.heap.size, 4, none⟩) (v := .int .i64 hi) (by simp [go_sem])
  have k0_5 : World.cell? _ ⟨w.heap.size, 5, none⟩ = some (.bool al) := bx.keep (a := ⟨w.heap.size, 5, none⟩) (v := .bool al) (by simp [go_sem])
  have k1_0 : World.cell? _ ⟨w.heap.size + 1, 0, none⟩ = some (.int .i64 p) := bx.keep (a := ⟨w.heap.size + 1, 0, none⟩) (v := .int .i64 p) (by simp [go_sem])
  have k1_1 : World.cell? _ ⟨w.heap.size + 1, 1, none⟩ = some (.int .i64 ip) := bx.keep (a := ⟨w.heap.size + 1, 1, none⟩) (v := .int .i64 ip) (by simp [go_sem])
  have k1_2 : World.cell? _ ⟨w.heap.size + 1, 2, none⟩ = some (.int .i64 b) := bx.keep (a := ⟨w.heap.size + 1, 2, none⟩) (v := .int .i64 b) (by simp [go_sem])
  have k1_3 : World.cell? _ ⟨w.heap.size + 1, 3, none⟩ = some (.int .i64 lo) := bx.keep (a := ⟨w.heap.size + 1, 3, none⟩) (v := .int .i64 lo) (by simp [go_sem])
  have k1_4 : World.cell? _ ⟨w.heap.size + 1, 4, none⟩ = some (.int .i64 hi) := bx.keep (a := ⟨w.heap.size + 1, 4, none⟩) (v := .int .i64 hi) (by simp [go_sem])
  have k1_5 : World.cell? _ ⟨w.heap.size + 1, 5, none⟩ = some (.bool al) := bx.keep (a := ⟨w.heap.size + 1, 5, none⟩) (v := .bool al) (by simp [go_sem])
  have BX : Hid (Grw w _) := (((Grw.refl _).alloc _).alloc _).trans bx
  clear bx
  go_wp2_with fail
  refine (HB.out _).mono ?_
  rintro e wx2 ⟨rfl, bx⟩
  replace k0_0 := bx.keep k0_0
  replace k0_1 := bx.keep k0_1
  replace k0_2 := bx.keep k0_2
  replace k0_3 := bx.keep k0_3
  replace k0_4 := bx.keep k0_4
  replace k0_5 := bx.keep k0_5
  replace k1_0 := bx.keep k1_0
  replace k1_1 := bx.keep k1_1
  replace k1_2 := bx.keep k1_2
  replace k1_3 := bx.keep k1_3
  replace k1_4 := bx.keep k1_4
  replace k1_5 := bx.keep k1_5
  replace BX : Hid (Grw w _) := BX.out.trans bx
  clear bx
  go_wp2
  go_ret
  exact ⟨rfl, BX.out⟩

end Go.Proofs.YtmeejholckelgaaGreat

namespace Go.Proofs.YtmeejholckelgaaGreat
open Go.RowKit Go.PlainAid Go.Proofs.YtmeejholckelgaaGreat.Bt Go.Sort
set_option linter.unusedVariables false
set_option maxRecDepth 20000

theorem szRuleS_any (a : Option Addr) (len cap : Nat) (l : Int) (w : World) (hl : len ≤ 9223372036854775807) (h0 : 0 ≤ l) (h1 : l ≤ 1048576) :
    Calls Tryz.prog 99 #[.slice a len cap, .int .i64 l] w fun e w' => ∃ r : Int, e = .returned (.int .i64 r) ∧ (0 ≤ r → r = l - len) ∧ -1 ≤ r ∧ r ≤ 1048576 ∧ w' = w := by
  by_cases h : (len : Int) ≤ l
  · go_enter Tryz.func99, Tryz.ntmps99
    go_wp2
    go_ret
    exact ⟨_, rfl, fun _ => by omega, by omega, by omega, rfl⟩
  · go_enter Tryz.func99, Tryz.ntmps99
    go_wp2
    go_ret
    exact ⟨-1, rfl, fun h => absurd h (by omega), by omega, by omega, rfl⟩
theorem infoRule : (Tryz.prog.info? 164).map (fun i => (i.zero, i.size, i.bytes)) = some (some (.agg #[.int .i64 0, .int .i64 0, .int .i64 0, .int .i64 0, .int .i64 0, .bool false]), 6, 48) := by kernel_rfl
set_option maxHeartbeats 2000000 in
theorem eqRuleS_yes (a a' : Option Addr) (len cap cap' : Nat) (xs : List RuleV) (w : World) (h : Rw RuR 6 w a xs) (h' : Rw RuR 6 w a' xs) (hl : xs.length = len) (hlen : len ≤ 1048576) :
    Calls Tryz.prog 113 #[.slice a len cap, .slice a' len cap'] w fun e w' => e = .returned (.bool true) ∧ Grw w w' := by
  have hne : ((len : Int) != (len : Int)) = false := by simp
  have hmix : Tryz.prog.follows .mixedOrders = true := by kernel_rfl
  have RW : Hid (Rw RuR 6 w a xs) := h
  have RW' : Hid (Rw RuR 6 w a' xs) := h'
  clear h h'
  go_enter Tryz.func113, Tryz.ntmps113
  go_wp2
  go_loopw [5] (fun i wr => ∃ k : Nat, k ≤ len ∧ i = .int .i64 k ∧ Hid (Grw w wr)) (fun i _ => len - (intOf i).toNat)
  case atStart => exact ⟨0, Nat.zero_le _, rfl, Grw.refl w⟩
  case round =>
    obtain ⟨k, hk, rfl, HG⟩ := hrel
    by_cases hlt : k < len
    · obtain ⟨x, hx⟩ := at_of hl hlt
      obtain ⟨b, off, vs, rfl, hb, hvl, hR, hc⟩ := RW.out.at RuR.kp HG.out.below hx
      obtain ⟨b', off', vs', rfl, hb', hvl', hR', hc'⟩ := RW'.out.at RuR.kp HG.out.below hx
      obtain ⟨p, ip, bb, lo, hi, al⟩ := x
      obtain ⟨rfl, hlo, hhi⟩ := hR
      obtain ⟨rfl, -, -⟩ := hR'
      have q0 : ∀ n os, (grow (wr.drewN n) os).cell? ⟨b, off + k * 6, none⟩ = some (.int .i64 p) := fun n os => grown_cell hb HG.out (hc 0 _ rfl) n os
      have q1 : ∀ n os, (grow (wr.drewN n) os).cell? ⟨b, off + k * 6 + 1, none⟩ = some (.int .i64 ip) := fun n os => grown_cell hb HG.out (hc 1 _ rfl) n os
      have q2 : ∀ n os, (grow (wr.drewN n) os).cell? ⟨b, off + k * 6 + 2, none⟩ = some (.int .i64 bb) := fun n os => grown_cell hb HG.out (hc 2 _ rfl) n os
      have q3 : ∀ n os, (grow (wr.drewN n) os).cell? ⟨b, off + k * 6 + 3, none⟩ = some (.int .i64 lo) := fun n os => grown_cell hb HG.out (hc 3 _ rfl) n os
      have q4 : ∀ n os, (grow (wr.drewN n) os).cell? ⟨b, off + k * 6 + 4, none⟩ = some (.int .i64 hi) := fun n os => grown_cell hb HG.out (hc 4 _ rfl) n os
      have q5 : ∀ n os, (grow (wr.drewN n) os).cell? ⟨b, off + k * 6 + 5, none⟩ = some (.bool al) := fun n os => grown_cell hb HG.out (hc 5 _ rfl) n os
      have r0 : ∀ n os, (grow (wr.drewN n) os).cell? ⟨b', off' + k * 6, none⟩ = some (.int .i64 p) := fun n os => grown_cell hb' HG.out (hc' 0 _ rfl) n os
      have r1 : ∀ n os, (grow (wr.drewN n) os).cell? ⟨b', off' + k * 6 + 1, none⟩ = some (.int .i64 ip) := fun n os => grown_cell hb' HG.out (hc' 1 _ rfl) n os
      have r2 : ∀ n os, (grow (wr.drewN n) os).cell? ⟨b', off' + k * 6 + 2, none⟩ = some (.int .i64 bb) := fun n os => grown_cell hb' HG.out (hc' 2 _ rfl) n os
      have r3 : ∀ n os, (grow (wr.drewN n) os).cell? ⟨b', off' + k * 6 + 3, none⟩ = some (.int .i64 lo) := fun n os => grown_cell hb' HG.out (hc' 3 _ rfl) n os
      have r4 : ∀ n os, (grow (wr.drewN n) os).cell? ⟨b', off' + k * 6 + 4, none⟩ = some (.int .i64 hi) := fun n os => grown_cell hb' HG.out (hc' 4 _ rfl) n os
      have r5 : ∀ n os, (grow (wr.drewN n) os).cell? ⟨b', off' + k * 6 + 5, none⟩ = some (.bool al) := fun n os => grown_cell hb' HG.out (hc' 5 _ rfl) n os
      have HE : Hid (∀ w, Calls Tryz.prog 128 #[.agg #[.int .i64 p, .int .i64 ip, .int .i64 bb, .int .i64 lo, .int .i64 hi, .bool al], .agg #[.int .i64 p, .int .i64 ip, .int .i64 bb, .int .i64 lo, .int .i64 hi, .bool al]] w fun e w' => e = .returned (.bool true) ∧ Grw w w') := fun w => eqRule_any _ _ _ _ _ _ w
      have hltz : (k : Int) < (len : Int) := by omega
      clear hc hc'
      go_wp2_with fail
      refine wp_region_quiet_grown (by assumption) (by kernel_rfl) ?_
      repeat (go_big_quiet_step (first | fail | (go_at_call 128; exact Calls.grown_of (HE.out _))))
      refine wpQuiet_nil ?_
      intro _ hw'
      obtain ⟨⟨nq, osq⟩, hw''⟩ := hw'
      subst hw''
      have HG2 : Hid (Grw w (grow (wr.drewN nq) osq)) := HG.out.trans ⟨nq, osq, rfl⟩
      clear q0 q1 q2 q3 q4 q5 r0 r1 r2 r3 r4 r5 HG HE
      go_wp2
      go_roundw
      case rel => exact ⟨k + 1, by omega, by go_num, HG2⟩
      case measure => simp [intOf]; omega
    · obtain rfl : k = len := by omega
      go_wp2
      go_ret
      exact ⟨rfl, HG.out⟩

set_option maxHeartbeats 1000000 in
theorem szRole_any (nm : ByteArray) (q m i : Int) (a : Option Addr) (len cap : Nat) (l : Int) (w : World) (hs : nm.size ≤ 9223372036854775807) (hl : len ≤ 9223372036854775807) (h0 : 0 ≤ l) (h1 : l ≤ 1048576) :
    Calls Tryz.prog 69 #[.agg #[.string nm, .slice a len cap, .int .i64 q, .int .i64 m, .int .i64 i], .int .i64 l] w fun e w' => ∃ r : Int, e = .returned (.int .i64 r) ∧ (0 ≤ r → r = l - nm.size - len) ∧ -1 ≤ r ∧ r ≤ 1048576 ∧ Grw w w' := by
  by_cases h : (nm.size : Int) ≤ l
  · have HC : Hid (∀ w, Calls Tryz.prog 99 #[.slice a len cap, .int .i64 (l - nm.size)] w fun e w' => ∃ r : Int, e = .returned (.int .i64 r) ∧ (0 ≤ r → r = l - nm.size - len) ∧ -1 ≤ r ∧ r ≤ 1048576 ∧ w' = w) := fun w => szRuleS_any a len cap _ w hl (by omega) (by omega)
    go_enter Tryz.func69, Tryz.ntmps69
    go_wp2_with fail
    refine (HC.out _).mono ?_
    rintro e w1 ⟨r, rfl, hr, hr1, hr2, rfl⟩
    by_cases hr0 : r < 0
    · go_wp2
      go_ret
      exact ⟨-1, rfl, fun h => absurd h (by omega), by omega, by omega, (Grw.refl _).alloc _⟩
    · go_wp2
      go_ret
      exact ⟨r, rfl, hr, by omega, by omega, (Grw.refl _).alloc _⟩
  · go_enter Tryz.func69, Tryz.ntmps69
    go_wp2
    go_ret
    exact ⟨-1, rfl, fun h => absurd h (by omega), by omega, by omega, (Grw.refl _).alloc _⟩

set_option maxHeartbeats 1000000 in
theorem eqRole_yes (nm : ByteArray) (rs : List RuleV) (q m i : Int) (a a' : Option Addr) (len cap cap' : Nat) (w : World) (h : Rw RuR 6 w a rs) (h' : Rw RuR 6 w a' rs) (hl : rs.length = len) (hc : len ≤ 1048576) :
    Calls Tryz.prog 96 #[.agg #[.string nm, .slice a len cap, .int .i64 q, .int .i64 m, .int .i64 i], .agg #[.string nm, .slice a' len cap', .int .i64 q, .int .i64 m, .int .i64 i]] w fun e w' => e = .returned (.bool true) ∧ Grw w w' := by
  have RW : Hid (Rw RuR 6 w a rs) := h
  have RW' : Hid (Rw RuR 6 w a' rs) := h'
  have HA : Hid (∀ w, Rw RuR 6 w a rs → Rw RuR 6 w a' rs → Calls Tryz.prog 113 #[.slice a len cap, .slice a' len cap'] w fun e w' => e = .returned (.bool true) ∧ Grw w w') := fun w h h' => eqRuleS_yes a a' len cap cap' rs w h h' hl hc
  clear h h'
  have h0 : (nm.toList == nm.toList) = true := by simp
  have h1 : (q != q) = false := by simp
  have h2 : (m != m) = false := by simp
  have h3 : (i != i) = false := by simp
  go_enter Tryz.func96, Tryz.ntmps96
  go_wp2_with fail
  refine (HA.out _ (RW.out.keep RuR.kp (((Grw.refl w).alloc _).alloc _).below) (RW'.out.keep RuR.kp (((Grw.refl w).alloc _).alloc _).below)).mono ?_
  rintro e wx1 ⟨rfl, bx⟩
  have k0_0 : World.cell? _ ⟨w.heap.size, 0, none⟩ = some (.string nm) := bx.keep (a := ⟨w.heap.size, 0, none⟩) (v := .string nm) (by simp [go_sem])
  have k0_1 : World.cell? _ ⟨w.heap.size, 1, none⟩ = some (.slice a len cap) := bx.keep (a := ⟨w.heap.size, 1, none⟩) (v := .slice a len cap) (by simp [go_sem])
  have k0_2 : World.cell? _ ⟨w.heap.size, 2, none⟩ = some (.int .i64 q) := bx.keep (a := ⟨w.heap.size, 2, none⟩) (v := .int .i64 q) (by simp [go_sem])
  have k0_3 : World.cell? _ ⟨w.heap.size, 3, none⟩ = some (.int .i64 m) := bx.keep (a := ⟨w.heap.size, 3, none⟩) (v := .int .i64 m) (by simp [go_sem])
  have k0_4 : World.cell? _ ⟨w.heap.size, 4, none⟩ = some (.int .i64 i) := bx.keep (a := ⟨w.heap.size, 4, none⟩) (v := .int .i64 i) (by simp [go_sem])
  have k1_0 : World.cell? _ ⟨w.heap.size + 1, 0, none⟩ = some (.string nm) := bx.keep (a := ⟨w.heap.size + 1, 0, none⟩) (v := .string nm) (by simp [go_sem])
  have k1_1 : World.cell? _ ⟨w.heap.size + 1, 1, none⟩ = some (.slice a' len cap') := bx.keep (a := ⟨w.heap.size + 1, 1, none⟩) (v := .slice a' len cap') (by simp [go_sem])
  have k1_2 : World.cell? _ ⟨w.heap.size + 1, 2, none⟩ = some (.int .i64 q) := bx.keep (a := ⟨w.heap.size + 1, 2, none⟩) (v := .int .i64 q) (by simp [go_sem])
  have k1_3 : World.cell? _ ⟨w.heap.size + 1, 3, none⟩ = some (.int .i64 m) := bx.keep (a := ⟨w.heap.size + 1, 3, none⟩) (v := .int .i64 m) (by simp [go_sem])
  have k1_4 : World.cell? _ ⟨w.heap.size + 1, 4, none⟩ = some (.int .i64 i) := bx.keep (a := ⟨w.heap.size + 1, 4, none⟩) (v := .int .i64 i) (by simp [go_sem])
  have BX : Hid (Grw w _) := (((Grw.refl _).alloc _).alloc _).trans bx
  clear bx
  go_wp2
  go_ret
  exact ⟨rfl, BX.out⟩

end Go.Proofs.YtmeejholckelgaaGreat
