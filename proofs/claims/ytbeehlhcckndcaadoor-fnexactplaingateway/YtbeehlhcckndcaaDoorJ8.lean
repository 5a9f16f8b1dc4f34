/- Guests marked and held. Lists of flows and connections marked and held. Gateways of one's own: where their rows lie, and what is marked. Rules and places copied and compared by the laws; the walk of laws.FnExactRuleOK. Lists of rules and roles in the laws: szRuleS, toRuleS, eqRuleS, szRole, toRole, eqRole; the walk of laws.FnExactRoleOK. The first rule that fits: l07First, ruleFits; FirstRule, RoleAllows, the program's and the model's. Configurations: gardenOK, rolesOK, ConfigOK, the program's and the model's. -/
import Derived.Test.YtbeehlhcckndcaaDoorJ7
import Derived.Test.YtbeehlhcckndcaaDoorJ3
import Derived.Test.YtbeehlhcckndcaaDoorJ1
import Derived.Deep.RegionHeld3
import Derived.Laws.Cover1
namespace Go.Proofs.YtbeehlhcckndcaaDoor
open Go.RowKit Go.PlainAid Go.Proofs.YtbeehlhcckndcaaDoor.Bt Go.Sort
set_option linter.unusedVariables false
set_option maxRecDepth 20000
set_option maxHeartbeats 4000000 in
theorem markGuests_any (ux sx fx rx : Option Addr) (un uy sn sy fn fy rn ry : Nat) (us : List UserV) (ss : List SessV) (fs : List FailV) (rs : List RecV) (nx : Int) (m0 B : Nat) (w : World) (h : Own4 w B (.slice ux un uy) (.slice sx sn sy) (.slice fx fn fy) (.slice rx rn ry) us ss fs rs) (h0 : 0 < m0) (hm : m0 + 6 * un + 10 * sn + 3 * fn + 5 * rn ≤ 100000000000) :
    Calls Tryd.prog 19 #[.agg #[.slice ux un uy, .slice sx sn sy, .slice fx fn fy, .slice rx rn ry, .int .i64 nx], .int .i64 (m0 : Int)] w fun e w' => e = .returned (.int .i64 ((m0 + 6 * un + 10 * sn + 3 * fn + 5 * rn : Nat) : Int)) ∧ Own4 w' B (.slice ux un uy) (.slice sx sn sy) (.slice fx fn fy) (.slice rx rn ry) (mkUserL (m0) un) (mkSessionL (m0 + 6 * un) sn) (mkFailL (m0 + 6 * un + 10 * sn) fn) (mkRecordL (m0 + 6 * un + 10 * sn + 3 * fn) rn) ∧ Rel.Keep (fun k => k < w.heap.size ∧ Value.ownBlock (.slice ux un uy) ≠ some k ∧ Value.ownBlock (.slice sx sn sy) ≠ some k ∧ Value.ownBlock (.slice fx fn fy) ≠ some k ∧ Value.ownBlock (.slice rx rn ry) ≠ some k) w w' := by
  have G0 : Bo (w.alloc (.cells #[.slice ux un uy, .slice sx sn sy, .slice fx fn fy, .slice rx rn ry, .int .i64 nx] 33)) w.heap.size 33 [.slice ux un uy, .slice sx sn sy, .slice fx fn fy, .slice rx rn ry, .int .i64 nx] := Bo.new w #[.slice ux un uy, .slice sx sn sy, .slice fx fn fy, .slice rx rn ry, .int .i64 nx] _
  have al : Below w.heap.size w (w.alloc (.cells #[.slice ux un uy, .slice sx sn sy, .slice fx fn fy, .slice rx rn ry, .int .i64 nx] 33)) := (Below.refl _ _).alloc (Nat.le_refl _) _
  have ou := h.u.now al
  have os_ := h.s.now al
  have of_ := h.f.now al
  have or_ := h.r.now al
  have K0 : Hid (Rel.Keep (fun k => k < w.heap.size ∧ Value.ownBlock (.slice ux un uy) ≠ some k ∧ Value.ownBlock (.slice sx sn sy) ≠ some k ∧ Value.ownBlock (.slice fx fn fy) ≠ some k ∧ Value.ownBlock (.slice rx rn ry) ≠ some k) w (w.alloc (.cells #[.slice ux un uy, .slice sx sn sy, .slice fx fn fy, .slice rx rn ry, .int .i64 nx] 33))) := ⟨al.os, al.tape, al.output, al.size, fun k hk => al.block k hk.1⟩
  clear h al
  have c0 := G0.cell 0 rfl
  go_enter Tryd.func19, Tryd.ntmps19
  have H0 := markUserS_any ux un uy B (m0) us _ ou (by omega) (by omega)
  go_wp2_with fail
  refine H0.mono ?_
  rintro e w1 ⟨rfl, o0, g0⟩
  have G1 := G0.row ou (by decide) g0
  have K1 : Hid (Rel.Keep (fun k => k < w.heap.size ∧ Value.ownBlock (.slice ux un uy) ≠ some k ∧ Value.ownBlock (.slice sx sn sy) ≠ some k ∧ Value.ownBlock (.slice fx fn fy) ≠ some k ∧ Value.ownBlock (.slice rx rn ry) ≠ some k) w w1) := K0.out.trans ⟨g0.os, g0.tape, g0.output, g0.size, fun k hk => g0.block k (Nat.lt_of_lt_of_le hk.1 K0.out.size) (fun he => hk.2.1 he.symm)⟩
  have ns := os_.other ou (by decide) g0
  have nf := of_.other ou (by decide) g0
  have nr := or_.other ou (by decide) g0
  clear ou os_ of_ or_
  have ou := o0
  have os_ := ns
  have of_ := nf
  have or_ := nr
  clear o0 g0 H0 K0 G0 ns nf nr c0
  have c1 := G1.cell 1 rfl
  have H1 := markSessionS_any sx sn sy B (m0 + 6 * un) ss _ os_ (by omega) (by omega)
  go_wp2_with fail
  refine H1.mono ?_
  rintro e w2 ⟨rfl, o1, g1⟩
  have G2 := G1.row os_ (by decide) g1
  have K2 : Hid (Rel.Keep (fun k => k < w.heap.size ∧ Value.ownBlock (.slice ux un uy) ≠ some k ∧ Value.ownBlock (.slice sx sn sy) ≠ some k ∧ Value.ownBlock (.slice fx fn fy) ≠ some k ∧ Value.ownBlock (.slice rx rn ry) ≠ some k) w w2) := K1.out.trans ⟨g1.os, g1.tape, g1.output, g1.size, fun k hk => g1.block k (Nat.lt_of_lt_of_le hk.1 K1.out.size) (fun he => hk.2.2.1 he.symm)⟩
  have nu := ou.other os_ (by decide) g1
  have nf := of_.other os_ (by decide) g1
  have nr := or_.other os_ (by decide) g1
  clear ou os_ of_ or_
  have ou := nu
  have os_ := o1
  have of_ := nf
  have or_ := nr
  clear o1 g1 H1 K1 G1 nu nf nr c1
  have c2 := G2.cell 2 rfl
  have H2 := markFailS_any fx fn fy B (m0 + 6 * un + 10 * sn) fs _ of_ (by omega) (by omega)
  go_wp2_with fail
  refine H2.mono ?_
  rintro e w3 ⟨rfl, o2, g2⟩
  have G3 := G2.row of_ (by decide) g2
  have K3 : Hid (Rel.Keep (fun k => k < w.heap.size ∧ Value.ownBlock (.slice ux un uy) ≠ some k ∧ Value.ownBlock (.slice sx sn sy) ≠ some k ∧ Value.ownBlock (.slice fx fn fy) ≠ some k ∧ Value.ownBlock (.slice rx rn ry) ≠ some k) w w3) := K2.out.trans ⟨g2.os, g2.tape, g2.output, g2.size, fun k hk => g2.block k (Nat.lt_of_lt_of_le hk.1 K2.out.size) (fun he => hk.2.2.2.1 he.symm)⟩
  have nu := ou.other of_ (by decide) g2
  have ns := os_.other of_ (by decide) g2
  have nr := or_.other of_ (by decide) g2
  clear ou os_ of_ or_
  have ou := nu
  have os_ := ns
  have of_ := o2
  have or_ := nr
  clear o2 g2 H2 K2 G2 nu ns nr c2
  have c3 := G3.cell 3 rfl
  have H3 := markRecordS_any rx rn ry B (m0 + 6 * un + 10 * sn + 3 * fn) rs _ or_ (by omega) (by omega)
  go_wp2_with fail
  refine H3.mono ?_
  rintro e w4 ⟨rfl, o3, g3⟩
  have G4 := G3.row or_ (by decide) g3
  have K4 : Hid (Rel.Keep (fun k => k < w.heap.size ∧ Value.ownBlock (.slice ux un uy) ≠ some k ∧ Value.ownBlock (.slice sx sn sy) ≠ some k ∧ Value.ownBlock (.slice fx fn fy) ≠ some k ∧ Value.ownBlock (.slice rx rn ry) ≠ some k) w w4) := K3.out.trans ⟨g3.os, g3.tape, g3.output, g3.size, fun k hk => g3.block k (Nat.lt_of_lt_of_le hk.1 K3.out.size) (fun he => hk.2.2.2.2 he.symm)⟩
  have nu := ou.other or_ (by decide) g3
  have ns := os_.other or_ (by decide) g3
  have nf := of_.other or_ (by decide) g3
  clear ou os_ of_ or_
  have ou := nu
  have os_ := ns
  have of_ := nf
  have or_ := o3
  clear o3 g3 H3 K3 G3 nu ns nf c3
  have OO : Hid (Own4 w4 B (.slice ux un uy) (.slice sx sn sy) (.slice fx fn fy) (.slice rx rn ry) (mkUserL (m0) un) (mkSessionL (m0 + 6 * un) sn) (mkFailL (m0 + 6 * un + 10 * sn) fn) (mkRecordL (m0 + 6 * un + 10 * sn + 3 * fn) rn)) := ⟨ou, os_, of_, or_, ap_of ou os_ (by decide), ap_of ou of_ (by decide), ap_of ou or_ (by decide), ap_of os_ of_ (by decide), ap_of os_ or_ (by decide), ap_of of_ or_ (by decide)⟩
  clear ou os_ of_ or_ G4
  go_wp2
  go_ret
  exact ⟨rfl, OO.out, K4.out⟩
set_option maxHeartbeats 4000000 in
theorem heldGuests_any (ux sx fx rx : Option Addr) (un uy sn sy fn fy rn ry : Nat) (nx : Int) (m0 : Nat) (w : World) (hu : Rw UsR 6 w ux (mkUserL (m0) un)) (hs : Rw SeR 10 w sx (mkSessionL (m0 + 6 * un) sn)) (hf : Rw FaR 3 w fx (mkFailL (m0 + 6 * un + 10 * sn) fn)) (hr : Rw ReR 5 w rx (mkRecordL (m0 + 6 * un + 10 * sn + 3 * fn) rn)) (h0 : 0 < m0) (hm : m0 + 6 * un + 10 * sn + 3 * fn + 5 * rn ≤ 100000000000) :
    Calls Tryd.prog 23 #[.agg #[.slice ux un uy, .slice sx sn sy, .slice fx fn fy, .slice rx rn ry, .int .i64 nx], .int .i64 (m0 : Int)] w fun e w' => e = .returned (.int .i64 ((m0 + 6 * un + 10 * sn + 3 * fn + 5 * rn : Nat) : Int)) ∧ Grw w w' := by
  have G0 : Bo (w.alloc (.cells #[.slice ux un uy, .slice sx sn sy, .slice fx fn fy, .slice rx rn ry, .int .i64 nx] 33)) w.heap.size 33 [.slice ux un uy, .slice sx sn sy, .slice fx fn fy, .slice rx rn ry, .int .i64 nx] := Bo.new w #[.slice ux un uy, .slice sx sn sy, .slice fx fn fy, .slice rx rn ry, .int .i64 nx] _
  have K0 : Hid (Grw w (w.alloc (.cells #[.slice ux un uy, .slice sx sn sy, .slice fx fn fy, .slice rx rn ry, .int .i64 nx] 33))) := (Grw.refl _).alloc _
  have c0 := G0.cell 0 rfl
  go_enter Tryd.func23, Tryd.ntmps23
  have H0 := heldUserS_any ux un uy (m0) _ (hu.keep UsR.kp K0.out.below) (by omega) (by omega)
  go_wp2_with fail
  refine H0.mono ?_
  rintro e w1 ⟨rfl, g0⟩
  have G1 := G0.below g0.below
  have K1 : Hid (Grw w w1) := K0.out.trans g0
  have e0 : decide (((m0 + 6 * un : Nat) : Int) < 0) = false := decide_eq_false (by omega)
  clear H0 g0 G0 K0 c0
  have c1 := G1.cell 1 rfl
  have H1 := heldSessionS_any sx sn sy (m0 + 6 * un) _ (hs.keep SeR.kp K1.out.below) (by omega) (by omega)
  go_wp2_with fail
  refine H1.mono ?_
  rintro e w2 ⟨rfl, g1⟩
  have G2 := G1.below g1.below
  have K2 : Hid (Grw w w2) := K1.out.trans g1
  have e1 : decide (((m0 + 6 * un + 10 * sn : Nat) : Int) < 0) = false := decide_eq_false (by omega)
  clear H1 g1 G1 K1 c1
  have c2 := G2.cell 2 rfl
  have H2 := heldFailS_any fx fn fy (m0 + 6 * un + 10 * sn) _ (hf.keep FaR.kp K2.out.below) (by omega) (by omega)
  go_wp2_with fail
  refine H2.mono ?_
  rintro e w3 ⟨rfl, g2⟩
  have G3 := G2.below g2.below
  have K3 : Hid (Grw w w3) := K2.out.trans g2
  have e2 : decide (((m0 + 6 * un + 10 * sn + 3 * fn : Nat) : Int) < 0) = false := decide_eq_false (by omega)
  clear H2 g2 G2 K2 c2
  have c3 := G3.cell 3 rfl
  have H3 := heldRecordS_any rx rn ry (m0 + 6 * un + 10 * sn + 3 * fn) _ (hr.keep ReR.kp K3.out.below) (by omega) (by omega)
  go_wp2_with fail
  refine H3.mono ?_
  rintro e w4 ⟨rfl, g3⟩
  have G4 := G3.below g3.below
  have K4 : Hid (Grw w w4) := K3.out.trans g3
  have e3 : decide (((m0 + 6 * un + 10 * sn + 3 * fn + 5 * rn : Nat) : Int) < 0) = false := decide_eq_false (by omega)
  clear H3 g3 G3 K3 c3
  go_wp2
  go_ret
  exact ⟨rfl, K4.out⟩
end Go.Proofs.YtbeehlhcckndcaaDoor

namespace Go.Proofs.YtbeehlhcckndcaaDoor
open Go.RowKit Go.PlainAid Go.Proofs.YtbeehlhcckndcaaDoor.Bt Go.Sort
set_option linter.unusedVariables false
set_option maxRecDepth 20000
theorem FlR.kp : Kp FlR := FR.kp
theorem CnR.kp : Kp CnR := FR.kp
/-- What is marked. -/
def mkFlow (M : Nat) : FlowV := ⟨(M : Int), mtS (M + 1), (M : Int) + 1 + 1, (M : Int) + 1 + 1 + 1, (M : Int) + 1 + 1 + 1 + 1, (M : Int) + 1 + 1 + 1 + 1 + 1, (M : Int) + 1 + 1 + 1 + 1 + 1 + 1, (M : Int) + 1 + 1 + 1 + 1 + 1 + 1 + 1, (M : Int) + 1 + 1 + 1 + 1 + 1 + 1 + 1 + 1⟩
def mkFlowL (m0 n : Nat) : List FlowV := (List.range n).map (fun k => mkFlow (m0 + 9 * k))
theorem mkFlowL_len (m0 n : Nat) : (mkFlowL m0 n).length = n := by simp [mkFlowL]
theorem mkFlowL_at (m0 n i : Nat) (h : i < n) : (mkFlowL m0 n)[i]? = some (mkFlow (m0 + 9 * i)) := by rw [mkFlowL, List.getElem?_map, List.getElem?_range h]; rfl
theorem mkFlow_ok (M : Nat) (h : M + 9 ≤ 1000000000000) : FlRok (mkFlow M) := by
  unfold FlRok mkFlow
  dsimp only
  exact ⟨int_wf9 (by omega) (by omega), Nat.le_trans (mtS_len _ (by omega)) (by unfold maxLen; omega), int_wf9 (by omega) (by omega), int_wf9 (by omega) (by omega), int_wf9 (by omega) (by omega), int_wf9 (by omega) (by omega), int_wf9 (by omega) (by omega), int_wf9 (by omega) (by omega), int_wf9 (by omega) (by omega)⟩
theorem mkFlowL_ok (m0 n : Nat) (h : m0 + 9 * n ≤ 1000000000000) : ∀ x, x ∈ mkFlowL m0 n → FlRok x := by
  intro x hx
  unfold mkFlowL at hx
  simp at hx
  obtain ⟨i, hi, rfl⟩ := hx
  exact mkFlow_ok _ (by omega)
def mkFlow_0 (x : FlowV) (M : Nat) : FlowV := { x with pr := (M : Int) }
def mkFlow_1 (x : FlowV) (M : Nat) : FlowV := { mkFlow_0 x M with mc := mtS (M + 1) }
def mkFlow_2 (x : FlowV) (M : Nat) : FlowV := { mkFlow_1 x M with si := (M : Int) + 1 + 1 }
def mkFlow_3 (x : FlowV) (M : Nat) : FlowV := { mkFlow_2 x M with sp := (M : Int) + 1 + 1 + 1 }
def mkFlow_4 (x : FlowV) (M : Nat) : FlowV := { mkFlow_3 x M with di := (M : Int) + 1 + 1 + 1 + 1 }
def mkFlow_5 (x : FlowV) (M : Nat) : FlowV := { mkFlow_4 x M with dp := (M : Int) + 1 + 1 + 1 + 1 + 1 }
def mkFlow_6 (x : FlowV) (M : Nat) : FlowV := { mkFlow_5 x M with st := (M : Int) + 1 + 1 + 1 + 1 + 1 + 1 }
def mkFlow_7 (x : FlowV) (M : Nat) : FlowV := { mkFlow_6 x M with un := (M : Int) + 1 + 1 + 1 + 1 + 1 + 1 + 1 }
def mkFlow_8 (x : FlowV) (M : Nat) : FlowV := { mkFlow_7 x M with ow := (M : Int) + 1 + 1 + 1 + 1 + 1 + 1 + 1 + 1 }
set_option maxHeartbeats 4000000 in
theorem markFlowS_any (a : Option Addr) (n cap B m0 : Nat) (L : List FlowV) (w : World) (h : OwnS wvG 9 82 w B (.slice a n cap) L) (h0 : 0 < m0) (hm : m0 + 9 * n ≤ 100000000000) :
    Calls Tryd.prog 20 #[.slice a n cap, .int .i64 (m0 : Int)] w fun e w' => e = .returned (.int .i64 ((m0 + 9 * n : Nat) : Int)) ∧ OwnS wvG 9 82 w' B (.slice a n cap) (mkFlowL m0 n) ∧ w.grownBy w' (Value.slice a n cap).ownBlock := by
  have H : Hid (OwnS wvG 9 82 w B (.slice a n cap) L) := h
  have hn := h.len
  have hlen : n ≤ 100000000000 := by omega
  clear h
  go_enter Tryd.func20, Tryd.ntmps20
  go_wp2
  go_loopw [1, 5] (fun m i wr => ∃ (k M : Nat) (L' : List FlowV), k ≤ n ∧ i = .int .i64 k ∧ m = .int .i64 (M : Int) ∧ Hid (M = m0 + 9 * k) ∧ Hid (OwnS wvG 9 82 wr B (.slice a n cap) L' ∧ L'.length = n ∧ L'.take k = (mkFlowL m0 n).take k ∧ w.grownBy wr (Value.slice a n cap).ownBlock)) (fun _ i _ => n - (intOf i).toNat)
  case atStart => exact ⟨0, m0, L, Nat.zero_le _, rfl, rfl, by show m0 = _; omega, H.out, hn, rfl, grown_refl w _⟩
  case round =>
    obtain ⟨k, M, L', hk, rfl, rfl, hM, X⟩ := hrel
    by_cases hlt : k < n
    · obtain ⟨g, rfl, hBg, hg, -⟩ := X.out.1.form (by rw [X.out.2.1]; omega)
      obtain ⟨x, hx⟩ := at_of (k := k) X.out.2.1 hlt
      have hltz : (k : Int) < (n : Int) := by omega
      have hMz : (M : Int) ≤ 200000000000 := by have := hM.out; omega
      have hM0 : 0 < M := by have := hM.out; omega
      have G0 : Hid (w.grownBy wr (some g)) := X.out.2.2.2
      have o0 := X.out.1
      have hT : Hid (L'.length = n ∧ L'.take k = (mkFlowL m0 n).take k) := ⟨X.out.2.1, X.out.2.2.1⟩
      clear X
      obtain ⟨c0, z0⟩ := o0.cell wvG_len (j := 0) hx rfl
      replace c0 : wr.cell? ⟨g, k * 9, none⟩ = some (.int .i64 x.pr) := c0
      replace z0 : wr.frozen? ⟨g, k * 9, none⟩ = false := z0
      have s0 := o0.set1 wvG_len (j := 0) (y := (mkFlow_0 x M)) (u := .int .i64 ((M : Int))) hx (by omega) rfl
      have hx0 : (L'.set k (mkFlow_0 x M))[k]? = some (mkFlow_0 x M) := List.getElem?_set_self (by rw [hT.out.1]; exact hlt)
      have Z0 : Hid (OwnS wvG 9 82 (wr.setCell ⟨g, k * 9, none⟩ (.int .i64 ((M : Int)))) B (.slice (some ⟨g, 0, none⟩) n cap) (L'.set k (mkFlow_0 x M)) ∧ w.grownBy (wr.setCell ⟨g, k * 9, none⟩ (.int .i64 ((M : Int)))) (some g)) := ⟨s0.1, (grown_tr G0.out s0.2)⟩
      have hy0 : Hid ((L'.set k (mkFlow_0 x M))[k]? = some (mkFlow_0 x M)) := hx0
      clear o0 G0 s0 hx0 hx
      have HM1 : Hid (∀ w, Calls Tryd.prog 47 #[.int .i64 ((M : Int) + 1)] w fun e w' => e = .returned (.string (mtS (M + 1))) ∧ Grw w w') := fun w => by
        have := markText_any (M + 1) w (by omega) (by omega)
        rw [show ((M + 1 : Nat) : Int) = (M : Int) + 1 by omega] at this
        exact this
      go_wp2_with fail
      refine (HM1.out _).mono ?_
      rintro e wt1 ⟨rfl, gt1⟩
      clear c0 z0
      have ot1 := Z0.out.1.now gt1.below
      have Gt1 : Hid (w.grownBy wt1 (some g)) := grown_tr Z0.out.2 (gt1.grown _)
      clear HM1 gt1 Z0
      obtain ⟨c1, z1⟩ := ot1.cell wvG_len (j := 1) hy0.out rfl
      obtain ⟨c2, z2⟩ := ot1.cell wvG_len (j := 2) hy0.out rfl
      obtain ⟨c3, z3⟩ := ot1.cell wvG_len (j := 3) hy0.out rfl
      obtain ⟨c4, z4⟩ := ot1.cell wvG_len (j := 4) hy0.out rfl
      obtain ⟨c5, z5⟩ := ot1.cell wvG_len (j := 5) hy0.out rfl
      obtain ⟨c6, z6⟩ := ot1.cell wvG_len (j := 6) hy0.out rfl
      obtain ⟨c7, z7⟩ := ot1.cell wvG_len (j := 7) hy0.out rfl
      obtain ⟨c8, z8⟩ := ot1.cell wvG_len (j := 8) hy0.out rfl
      have s1 := ot1.set1 wvG_len (j := 1) (y := (mkFlow_1 x M)) (u := .string (mtS (M + 1))) hy0.out (by omega) rfl
      rw [List.set_set] at s1
      have hx1 : (L'.set k (mkFlow_1 x M))[k]? = some (mkFlow_1 x M) := List.getElem?_set_self (by rw [hT.out.1]; exact hlt)
      have s2 := s1.1.set1 wvG_len (j := 2) (y := (mkFlow_2 x M)) (u := .int .i64 ((M : Int) + 1 + 1)) hx1 (by omega) rfl
      rw [List.set_set] at s2
      have hx2 : (L'.set k (mkFlow_2 x M))[k]? = some (mkFlow_2 x M) := List.getElem?_set_self (by rw [hT.out.1]; exact hlt)
      have s3 := s2.1.set1 wvG_len (j := 3) (y := (mkFlow_3 x M)) (u := .int .i64 ((M : Int) + 1 + 1 + 1)) hx2 (by omega) rfl
      rw [List.set_set] at s3
      have hx3 : (L'.set k (mkFlow_3 x M))[k]? = some (mkFlow_3 x M) := List.getElem?_set_self (by rw [hT.out.1]; exact hlt)
      have s4 := s3.1.set1 wvG_len (j := 4) (y := (mkFlow_4 x M)) (u := .int .i64 ((M : Int) + 1 + 1 + 1 + 1)) hx3 (by omega) rfl
      rw [List.set_set] at s4
      have hx4 : (L'.set k (mkFlow_4 x M))[k]? = some (mkFlow_4 x M) := List.getElem?_set_self (by rw [hT.out.1]; exact hlt)
      have s5 := s4.1.set1 wvG_len (j := 5) (y := (mkFlow_5 x M)) (u := .int .i64 ((M : Int) + 1 + 1 + 1 + 1 + 1)) hx4 (by omega) rfl
      rw [List.set_set] at s5
      have hx5 : (L'.set k (mkFlow_5 x M))[k]? = some (mkFlow_5 x M) := List.getElem?_set_self (by rw [hT.out.1]; exact hlt)
      have s6 := s5.1.set1 wvG_len (j := 6) (y := (mkFlow_6 x M)) (u := .int .i64 ((M : Int) + 1 + 1 + 1 + 1 + 1 + 1)) hx5 (by omega) rfl
      rw [List.set_set] at s6
      have hx6 : (L'.set k (mkFlow_6 x M))[k]? = some (mkFlow_6 x M) := List.getElem?_set_self (by rw [hT.out.1]; exact hlt)
      have s7 := s6.1.set1 wvG_len (j := 7) (y := (mkFlow_7 x M)) (u := .int .i64 ((M : Int) + 1 + 1 + 1 + 1 + 1 + 1 + 1)) hx6 (by omega) rfl
      rw [List.set_set] at s7
      have hx7 : (L'.set k (mkFlow_7 x M))[k]? = some (mkFlow_7 x M) := List.getElem?_set_self (by rw [hT.out.1]; exact hlt)
      have s8 := s7.1.set1 wvG_len (j := 8) (y := (mkFlow_8 x M)) (u := .int .i64 ((M : Int) + 1 + 1 + 1 + 1 + 1 + 1 + 1 + 1)) hx7 (by omega) rfl
      rw [List.set_set] at s8
      have hx8 : (L'.set k (mkFlow_8 x M))[k]? = some (mkFlow_8 x M) := List.getElem?_set_self (by rw [hT.out.1]; exact hlt)
      have Z1 : Hid (OwnS wvG 9 82 ((((((((wt1.setCell ⟨g, k * 9 + 1, none⟩ (.string (mtS (M + 1)))).setCell ⟨g, k * 9 + 2, none⟩ (.int .i64 ((M : Int) + 1 + 1))).setCell ⟨g, k * 9 + 3, none⟩ (.int .i64 ((M : Int) + 1 + 1 + 1))).setCell ⟨g, k * 9 + 4, none⟩ (.int .i64 ((M : Int) + 1 + 1 + 1 + 1))).setCell ⟨g, k * 9 + 5, none⟩ (.int .i64 ((M : Int) + 1 + 1 + 1 + 1 + 1))).setCell ⟨g, k * 9 + 6, none⟩ (.int .i64 ((M : Int) + 1 + 1 + 1 + 1 + 1 + 1))).setCell ⟨g, k * 9 + 7, none⟩ (.int .i64 ((M : Int) + 1 + 1 + 1 + 1 + 1 + 1 + 1))).setCell ⟨g, k * 9 + 8, none⟩ (.int .i64 ((M : Int) + 1 + 1 + 1 + 1 + 1 + 1 + 1 + 1))) B (.slice (some ⟨g, 0, none⟩) n cap) (L'.set k (mkFlow_8 x M)) ∧ w.grownBy ((((((((wt1.setCell ⟨g, k * 9 + 1, none⟩ (.string (mtS (M + 1)))).setCell ⟨g, k * 9 + 2, none⟩ (.int .i64 ((M : Int) + 1 + 1))).setCell ⟨g, k * 9 + 3, none⟩ (.int .i64 ((M : Int) + 1 + 1 + 1))).setCell ⟨g, k * 9 + 4, none⟩ (.int .i64 ((M : Int) + 1 + 1 + 1 + 1))).setCell ⟨g, k * 9 + 5, none⟩ (.int .i64 ((M : Int) + 1 + 1 + 1 + 1 + 1))).setCell ⟨g, k * 9 + 6, none⟩ (.int .i64 ((M : Int) + 1 + 1 + 1 + 1 + 1 + 1))).setCell ⟨g, k * 9 + 7, none⟩ (.int .i64 ((M : Int) + 1 + 1 + 1 + 1 + 1 + 1 + 1))).setCell ⟨g, k * 9 + 8, none⟩ (.int .i64 ((M : Int) + 1 + 1 + 1 + 1 + 1 + 1 + 1 + 1))) (some g)) := ⟨s8.1, (grown_tr (grown_tr (grown_tr (grown_tr (grown_tr (grown_tr (grown_tr (grown_tr Gt1.out s1.2) s2.2) s3.2) s4.2) s5.2) s6.2) s7.2) s8.2)⟩
      have hy1 : Hid ((L'.set k (mkFlow_8 x M))[k]? = some (mkFlow_8 x M)) := hx8
      clear ot1 Gt1 s1 hx1 s2 hx2 s3 hx3 s4 hx4 s5 hx5 s6 hx6 s7 hx7 s8 hx8 
      have eFlow : (mkFlow_8 x M) = mkFlow M := rfl
      rw [eFlow] at Z1
      have YY : Hid (OwnS wvG 9 82 ((((((((wt1.setCell ⟨g, k * 9 + 1, none⟩ (.string (mtS (M + 1)))).setCell ⟨g, k * 9 + 2, none⟩ (.int .i64 ((M : Int) + 1 + 1))).setCell ⟨g, k * 9 + 3, none⟩ (.int .i64 ((M : Int) + 1 + 1 + 1))).setCell ⟨g, k * 9 + 4, none⟩ (.int .i64 ((M : Int) + 1 + 1 + 1 + 1))).setCell ⟨g, k * 9 + 5, none⟩ (.int .i64 ((M : Int) + 1 + 1 + 1 + 1 + 1))).setCell ⟨g, k * 9 + 6, none⟩ (.int .i64 ((M : Int) + 1 + 1 + 1 + 1 + 1 + 1))).setCell ⟨g, k * 9 + 7, none⟩ (.int .i64 ((M : Int) + 1 + 1 + 1 + 1 + 1 + 1 + 1))).setCell ⟨g, k * 9 + 8, none⟩ (.int .i64 ((M : Int) + 1 + 1 + 1 + 1 + 1 + 1 + 1 + 1))) B (.slice (some ⟨g, 0, none⟩) n cap) (L'.set k (mkFlow M)) ∧ (L'.set k (mkFlow M)).length = n ∧ (L'.set k (mkFlow M)).take (k + 1) = (mkFlowL m0 n).take (k + 1) ∧ w.grownBy ((((((((wt1.setCell ⟨g, k * 9 + 1, none⟩ (.string (mtS (M + 1)))).setCell ⟨g, k * 9 + 2, none⟩ (.int .i64 ((M : Int) + 1 + 1))).setCell ⟨g, k * 9 + 3, none⟩ (.int .i64 ((M : Int) + 1 + 1 + 1))).setCell ⟨g, k * 9 + 4, none⟩ (.int .i64 ((M : Int) + 1 + 1 + 1 + 1))).setCell ⟨g, k * 9 + 5, none⟩ (.int .i64 ((M : Int) + 1 + 1 + 1 + 1 + 1))).setCell ⟨g, k * 9 + 6, none⟩ (.int .i64 ((M : Int) + 1 + 1 + 1 + 1 + 1 + 1))).setCell ⟨g, k * 9 + 7, none⟩ (.int .i64 ((M : Int) + 1 + 1 + 1 + 1 + 1 + 1 + 1))).setCell ⟨g, k * 9 + 8, none⟩ (.int .i64 ((M : Int) + 1 + 1 + 1 + 1 + 1 + 1 + 1 + 1))) (some g)) := ⟨Z1.out.1, by rw [List.length_set]; exact hT.out.1, takeS_set (by rw [hT.out.1, mkFlowL_len]) (by rw [mkFlowL_at m0 n k hlt, hM.out]) hT.out.2, Z1.out.2⟩
      clear Z1 hT hy0 hy1
      go_wp2
      go_roundw
      case rel => exact ⟨k + 1, M + 9, _, by omega, by go_num, by go_num, (show M + 9 = m0 + 9 * (k + 1) by have := hM.out; omega), YY⟩
      case measure => simp [intOf]; omega
    · obtain rfl : k = n := by omega
      have e1 : L' = mkFlowL m0 k := by
        have := X.out.2.2.1
        rwa [List.take_of_length_le (by rw [X.out.2.1]; exact Nat.le_refl _), List.take_of_length_le (by rw [mkFlowL_len]; exact Nat.le_refl _)] at this
      subst e1
      have hM2 := hM.out
      subst hM2
      go_wp2
      go_ret
      exact ⟨rfl, X.out.1, X.out.2.2.2⟩
set_option maxHeartbeats 4000000 in
theorem heldFlowS_any (a : Option Addr) (n cap m0 : Nat) (w : World) (h : Rw FlR 9 w a (mkFlowL m0 n)) (h0 : 0 < m0) (hm : m0 + 9 * n ≤ 100000000000) :
    Calls Tryd.prog 24 #[.slice a n cap, .int .i64 (m0 : Int)] w fun e w' => e = .returned (.int .i64 ((m0 + 9 * n : Nat) : Int)) ∧ Grw w w' := by
  have H : Hid (Rw FlR 9 w a (mkFlowL m0 n)) := h
  have hlen : n ≤ 100000000000 := by omega
  clear h
  have hmix : Tryd.prog.follows .mixedOrders = true := by kernel_rfl
  go_enter Tryd.func24, Tryd.ntmps24
  go_wp2
  go_loopw [1, 5] (fun m i wr => ∃ k M : Nat, k ≤ n ∧ i = .int .i64 k ∧ m = .int .i64 (M : Int) ∧ Hid (M = m0 + 9 * k) ∧ Hid (Grw w wr)) (fun _ i _ => n - (intOf i).toNat)
  case atStart => exact ⟨0, m0, Nat.zero_le _, rfl, rfl, by show m0 = _; omega, Grw.refl w⟩
  case round =>
    obtain ⟨k, M, hk, rfl, rfl, hM, HG⟩ := hrel
    by_cases hlt : k < n
    · obtain ⟨b, off, vs, rfl, hb, hvl, hR, hc⟩ := H.out.at FlR.kp HG.out.below (mkFlowL_at m0 n k hlt)
      rw [← hM.out] at hR
      obtain ⟨rfl, -⟩ := hR
      have hltz : (k : Int) < (n : Int) := by omega
      have hMz : (M : Int) ≤ 200000000000 := by have := hM.out; omega
      have hM0 : 0 < M := by have := hM.out; omega
      have q0 : wr.cell? ⟨b, off + k * 9, none⟩ = some (.int .i64 ((M : Int))) := hc 0 _ rfl
      have q1 : wr.cell? ⟨b, off + k * 9 + 1, none⟩ = some (.string (mtS (M + 1))) := hc 1 _ rfl
      have q2 : wr.cell? ⟨b, off + k * 9 + 2, none⟩ = some (.int .i64 ((M : Int) + 1 + 1)) := hc 2 _ rfl
      have q3 : wr.cell? ⟨b, off + k * 9 + 3, none⟩ = some (.int .i64 ((M : Int) + 1 + 1 + 1)) := hc 3 _ rfl
      have q4 : wr.cell? ⟨b, off + k * 9 + 4, none⟩ = some (.int .i64 ((M : Int) + 1 + 1 + 1 + 1)) := hc 4 _ rfl
      have q5 : wr.cell? ⟨b, off + k * 9 + 5, none⟩ = some (.int .i64 ((M : Int) + 1 + 1 + 1 + 1 + 1)) := hc 5 _ rfl
      have q6 : wr.cell? ⟨b, off + k * 9 + 6, none⟩ = some (.int .i64 ((M : Int) + 1 + 1 + 1 + 1 + 1 + 1)) := hc 6 _ rfl
      have q7 : wr.cell? ⟨b, off + k * 9 + 7, none⟩ = some (.int .i64 ((M : Int) + 1 + 1 + 1 + 1 + 1 + 1 + 1)) := hc 7 _ rfl
      have q8 : wr.cell? ⟨b, off + k * 9 + 8, none⟩ = some (.int .i64 ((M : Int) + 1 + 1 + 1 + 1 + 1 + 1 + 1 + 1)) := hc 8 _ rfl
      clear hc hvl
      have e0 : (((M : Int)) != ((M : Int))) = false := by simp
      have e2 : (((M : Int) + 1 + 1) != ((M : Int) + 1 + 1)) = false := by simp
      have e3 : (((M : Int) + 1 + 1 + 1) != ((M : Int) + 1 + 1 + 1)) = false := by simp
      have e4 : (((M : Int) + 1 + 1 + 1 + 1) != ((M : Int) + 1 + 1 + 1 + 1)) = false := by simp
      have e5 : (((M : Int) + 1 + 1 + 1 + 1 + 1) != ((M : Int) + 1 + 1 + 1 + 1 + 1)) = false := by simp
      have e6 : (((M : Int) + 1 + 1 + 1 + 1 + 1 + 1) != ((M : Int) + 1 + 1 + 1 + 1 + 1 + 1)) = false := by simp
      have e7 : (((M : Int) + 1 + 1 + 1 + 1 + 1 + 1 + 1) != ((M : Int) + 1 + 1 + 1 + 1 + 1 + 1 + 1)) = false := by simp
      have e8 : (((M : Int) + 1 + 1 + 1 + 1 + 1 + 1 + 1 + 1) != ((M : Int) + 1 + 1 + 1 + 1 + 1 + 1 + 1 + 1)) = false := by simp
      have HM1 : Hid (∀ w, Calls Tryd.prog 47 #[.int .i64 ((M : Int) + 1)] w fun e w' => e = .returned (.string (mtS (M + 1))) ∧ Grw w w') := fun w => by
        have := markText_any (M + 1) w (by omega) (by omega)
        rw [show ((M + 1 : Nat) : Int) = (M : Int) + 1 by omega] at this
        exact this
      generalize mtS (M + 1) = T1 at *
      have t1 : (T1.toList == T1.toList) = true := by simp
      have y1 : ∀ n os, (grow (wr.drewN n) os).cell? ⟨b, off + k * 9 + 1, none⟩ = some (.string T1) := fun n os => bkeep (Grw.below ⟨n, os, rfl⟩) q1
      go_wp2_with fail
      refine wp_region_quiet_grown (by assumption) (by kernel_rfl) ?_
      repeat (go_big_quiet_step (first | fail | (go_at_call 47; exact Calls.grown_of (HM1.out _))))
      refine wpQuiet_nil ?_
      intro _ hw'
      obtain ⟨⟨nq, osq⟩, hw''⟩ := hw'
      subst hw''
      have HG1 : Hid (Grw w (grow (wr.drewN nq) osq)) := HG.out.trans ⟨nq, osq, rfl⟩
      replace q2 : (grow (wr.drewN nq) osq).cell? ⟨b, off + k * 9 + 2, none⟩ = some (.int .i64 ((M : Int) + 1 + 1)) := bkeep (Grw.below ⟨nq, osq, rfl⟩) q2
      replace q3 : (grow (wr.drewN nq) osq).cell? ⟨b, off + k * 9 + 3, none⟩ = some (.int .i64 ((M : Int) + 1 + 1 + 1)) := bkeep (Grw.below ⟨nq, osq, rfl⟩) q3
      replace q4 : (grow (wr.drewN nq) osq).cell? ⟨b, off + k * 9 + 4, none⟩ = some (.int .i64 ((M : Int) + 1 + 1 + 1 + 1)) := bkeep (Grw.below ⟨nq, osq, rfl⟩) q4
      replace q5 : (grow (wr.drewN nq) osq).cell? ⟨b, off + k * 9 + 5, none⟩ = some (.int .i64 ((M : Int) + 1 + 1 + 1 + 1 + 1)) := bkeep (Grw.below ⟨nq, osq, rfl⟩) q5
      replace q6 : (grow (wr.drewN nq) osq).cell? ⟨b, off + k * 9 + 6, none⟩ = some (.int .i64 ((M : Int) + 1 + 1 + 1 + 1 + 1 + 1)) := bkeep (Grw.below ⟨nq, osq, rfl⟩) q6
      replace q7 : (grow (wr.drewN nq) osq).cell? ⟨b, off + k * 9 + 7, none⟩ = some (.int .i64 ((M : Int) + 1 + 1 + 1 + 1 + 1 + 1 + 1)) := bkeep (Grw.below ⟨nq, osq, rfl⟩) q7
      replace q8 : (grow (wr.drewN nq) osq).cell? ⟨b, off + k * 9 + 8, none⟩ = some (.int .i64 ((M : Int) + 1 + 1 + 1 + 1 + 1 + 1 + 1 + 1)) := bkeep (Grw.below ⟨nq, osq, rfl⟩) q8
      clear y1 q0 q1 HM1
      generalize (grow (wr.drewN nq) osq) = wv1 at *
      go_wp2
      go_roundw
      case rel => exact ⟨k + 1, M + 9, by omega, by go_num, by go_num, (show M + 9 = m0 + 9 * (k + 1) by have := hM.out; omega), HG1⟩
      case measure => simp [intOf]; omega
    · obtain rfl : k = n := by omega
      have hM2 := hM.out
      subst hM2
      go_wp2
      go_ret
      exact ⟨rfl, HG.out⟩
/-- What is marked. -/
def mkConn (M : Nat) : ConnV := ⟨mtS M, (M : Int) + 1, (M : Int) + 1 + 1, (M : Int) + 1 + 1 + 1, (M : Int) + 1 + 1 + 1 + 1, (M : Int) + 1 + 1 + 1 + 1 + 1, (M : Int) + 1 + 1 + 1 + 1 + 1 + 1, (M : Int) + 1 + 1 + 1 + 1 + 1 + 1 + 1, mtS (M + 8), mtS (M + 9), (((M : Int) + 1 + 1 + 1 + 1 + 1 + 1 + 1 + 1 + 1 + 1) % 3 == 0)⟩
def mkConnL (m0 n : Nat) : List ConnV := (List.range n).map (fun k => mkConn (m0 + 11 * k))
theorem mkConnL_len (m0 n : Nat) : (mkConnL m0 n).length = n := by simp [mkConnL]
theorem mkConnL_at (m0 n i : Nat) (h : i < n) : (mkConnL m0 n)[i]? = some (mkConn (m0 + 11 * i)) := by rw [mkConnL, List.getElem?_map, List.getElem?_range h]; rfl
theorem mkConn_ok (M : Nat) (h : M + 11 ≤ 1000000000000) : CnRok (mkConn M) := by
  unfold CnRok mkConn
  dsimp only
  exact ⟨Nat.le_trans (mtS_len _ (by omega)) (by unfold maxLen; omega), int_wf9 (by omega) (by omega), int_wf9 (by omega) (by omega), int_wf9 (by omega) (by omega), int_wf9 (by omega) (by omega), int_wf9 (by omega) (by omega), int_wf9 (by omega) (by omega), int_wf9 (by omega) (by omega), Nat.le_trans (mtS_len _ (by omega)) (by unfold maxLen; omega), Nat.le_trans (mtS_len _ (by omega)) (by unfold maxLen; omega)⟩
theorem mkConnL_ok (m0 n : Nat) (h : m0 + 11 * n ≤ 1000000000000) : ∀ x, x ∈ mkConnL m0 n → CnRok x := by
  intro x hx
  unfold mkConnL at hx
  simp at hx
  obtain ⟨i, hi, rfl⟩ := hx
  exact mkConn_ok _ (by omega)
def mkConn_0 (x : ConnV) (M : Nat) : ConnV := { x with mc := mtS M }
def mkConn_1 (x : ConnV) (M : Nat) : ConnV := { mkConn_0 x M with ip := (M : Int) + 1 }
def mkConn_2 (x : ConnV) (M : Nat) : ConnV := { mkConn_1 x M with po := (M : Int) + 1 + 1 }
def mkConn_3 (x : ConnV) (M : Nat) : ConnV := { mkConn_2 x M with di := (M : Int) + 1 + 1 + 1 }
def mkConn_4 (x : ConnV) (M : Nat) : ConnV := { mkConn_3 x M with st := (M : Int) + 1 + 1 + 1 + 1 }
def mkConn_5 (x : ConnV) (M : Nat) : ConnV := { mkConn_4 x M with un := (M : Int) + 1 + 1 + 1 + 1 + 1 }
def mkConn_6 (x : ConnV) (M : Nat) : ConnV := { mkConn_5 x M with nx := (M : Int) + 1 + 1 + 1 + 1 + 1 + 1 }
def mkConn_7 (x : ConnV) (M : Nat) : ConnV := { mkConn_6 x M with wa := (M : Int) + 1 + 1 + 1 + 1 + 1 + 1 + 1 }
def mkConn_8 (x : ConnV) (M : Nat) : ConnV := { mkConn_7 x M with inn := mtS (M + 8) }
def mkConn_9 (x : ConnV) (M : Nat) : ConnV := { mkConn_8 x M with out := mtS (M + 9) }
def mkConn_10 (x : ConnV) (M : Nat) : ConnV := { mkConn_9 x M with fin := (((M : Int) + 1 + 1 + 1 + 1 + 1 + 1 + 1 + 1 + 1 + 1) % 3 == 0) }
set_option maxHeartbeats 4000000 in
theorem markConnS_any (a : Option Addr) (n cap B m0 : Nat) (L : List ConnV) (w : World) (h : OwnS cnG 11 85 w B (.slice a n cap) L) (h0 : 0 < m0) (hm : m0 + 11 * n ≤ 100000000000) :
    Calls Tryd.prog 21 #[.slice a n cap, .int .i64 (m0 : Int)] w fun e w' => e = .returned (.int .i64 ((m0 + 11 * n : Nat) : Int)) ∧ OwnS cnG 11 85 w' B (.slice a n cap) (mkConnL m0 n) ∧ w.grownBy w' (Value.slice a n cap).ownBlock := by
  have H : Hid (OwnS cnG 11 85 w B (.slice a n cap) L) := h
  have hn := h.len
  have hlen : n ≤ 100000000000 := by omega
  clear h
  go_enter Tryd.func21, Tryd.ntmps21
  go_wp2
  go_loopw [1, 5] (fun m i wr => ∃ (k M : Nat) (L' : List ConnV), k ≤ n ∧ i = .int .i64 k ∧ m = .int .i64 (M : Int) ∧ Hid (M = m0 + 11 * k) ∧ Hid (OwnS cnG 11 85 wr B (.slice a n cap) L' ∧ L'.length = n ∧ L'.take k = (mkConnL m0 n).take k ∧ w.grownBy wr (Value.slice a n cap).ownBlock)) (fun _ i _ => n - (intOf i).toNat)
  case atStart => exact ⟨0, m0, L, Nat.zero_le _, rfl, rfl, by show m0 = _; omega, H.out, hn, rfl, grown_refl w _⟩
  case round =>
    obtain ⟨k, M, L', hk, rfl, rfl, hM, X⟩ := hrel
    by_cases hlt : k < n
    · obtain ⟨g, rfl, hBg, hg, -⟩ := X.out.1.form (by rw [X.out.2.1]; omega)
      obtain ⟨x, hx⟩ := at_of (k := k) X.out.2.1 hlt
      have hltz : (k : Int) < (n : Int) := by omega
      have hMz : (M : Int) ≤ 200000000000 := by have := hM.out; omega
      have hM0 : 0 < M := by have := hM.out; omega
      have G0 : Hid (w.grownBy wr (some g)) := X.out.2.2.2
      have o0 := X.out.1
      have hT : Hid (L'.length = n ∧ L'.take k = (mkConnL m0 n).take k) := ⟨X.out.2.1, X.out.2.2.1⟩
      clear X
      have HM0 : Hid (∀ w, Calls Tryd.prog 47 #[.int .i64 ((M : Int))] w fun e w' => e = .returned (.string (mtS (M))) ∧ Grw w w') := fun w => by
        have := markText_any (M) w (by omega) (by omega)
        exact this
      go_wp2_with fail
      refine (HM0.out _).mono ?_
      rintro e wt0 ⟨rfl, gt0⟩
      have ot0 := o0.now gt0.below
      have Gt0 : Hid (w.grownBy wt0 (some g)) := grown_tr G0.out (gt0.grown _)
      clear HM0 gt0 o0 G0
      obtain ⟨c0, z0⟩ := ot0.cell cnG_len (j := 0) hx rfl
      replace c0 : wt0.cell? ⟨g, k * 11, none⟩ = some (.string x.mc) := c0
      replace z0 : wt0.frozen? ⟨g, k * 11, none⟩ = false := z0
      obtain ⟨c1, z1⟩ := ot0.cell cnG_len (j := 1) hx rfl
      obtain ⟨c2, z2⟩ := ot0.cell cnG_len (j := 2) hx rfl
      obtain ⟨c3, z3⟩ := ot0.cell cnG_len (j := 3) hx rfl
      obtain ⟨c4, z4⟩ := ot0.cell cnG_len (j := 4) hx rfl
      obtain ⟨c5, z5⟩ := ot0.cell cnG_len (j := 5) hx rfl
      obtain ⟨c6, z6⟩ := ot0.cell cnG_len (j := 6) hx rfl
      obtain ⟨c7, z7⟩ := ot0.cell cnG_len (j := 7) hx rfl
      have s0 := ot0.set1 cnG_len (j := 0) (y := (mkConn_0 x M)) (u := .string (mtS M)) hx (by omega) rfl
      have hx0 : (L'.set k (mkConn_0 x M))[k]? = some (mkConn_0 x M) := List.getElem?_set_self (by rw [hT.out.1]; exact hlt)
      have s1 := s0.1.set1 cnG_len (j := 1) (y := (mkConn_1 x M)) (u := .int .i64 ((M : Int) + 1)) hx0 (by omega) rfl
      rw [List.set_set] at s1
      have hx1 : (L'.set k (mkConn_1 x M))[k]? = some (mkConn_1 x M) := List.getElem?_set_self (by rw [hT.out.1]; exact hlt)
      have s2 := s1.1.set1 cnG_len (j := 2) (y := (mkConn_2 x M)) (u := .int .i64 ((M : Int) + 1 + 1)) hx1 (by omega) rfl
      rw [List.set_set] at s2
      have hx2 : (L'.set k (mkConn_2 x M))[k]? = some (mkConn_2 x M) := List.getElem?_set_self (by rw [hT.out.1]; exact hlt)
      have s3 := s2.1.set1 cnG_len (j := 3) (y := (mkConn_3 x M)) (u := .int .i64 ((M : Int) + 1 + 1 + 1)) hx2 (by omega) rfl
      rw [List.set_set] at s3
      have hx3 : (L'.set k (mkConn_3 x M))[k]? = some (mkConn_3 x M) := List.getElem?_set_self (by rw [hT.out.1]; exact hlt)
      have s4 := s3.1.set1 cnG_len (j := 4) (y := (mkConn_4 x M)) (u := .int .i64 ((M : Int) + 1 + 1 + 1 + 1)) hx3 (by omega) rfl
      rw [List.set_set] at s4
      have hx4 : (L'.set k (mkConn_4 x M))[k]? = some (mkConn_4 x M) := List.getElem?_set_self (by rw [hT.out.1]; exact hlt)
      have s5 := s4.1.set1 cnG_len (j := 5) (y := (mkConn_5 x M)) (u := .int .i64 ((M : Int) + 1 + 1 + 1 + 1 + 1)) hx4 (by omega) rfl
      rw [List.set_set] at s5
      have hx5 : (L'.set k (mkConn_5 x M))[k]? = some (mkConn_5 x M) := List.getElem?_set_self (by rw [hT.out.1]; exact hlt)
      have s6 := s5.1.set1 cnG_len (j := 6) (y := (mkConn_6 x M)) (u := .int .i64 ((M : Int) + 1 + 1 + 1 + 1 + 1 + 1)) hx5 (by omega) rfl
      rw [List.set_set] at s6
      have hx6 : (L'.set k (mkConn_6 x M))[k]? = some (mkConn_6 x M) := List.getElem?_set_self (by rw [hT.out.1]; exact hlt)
      have s7 := s6.1.set1 cnG_len (j := 7) (y := (mkConn_7 x M)) (u := .int .i64 ((M : Int) + 1 + 1 + 1 + 1 + 1 + 1 + 1)) hx6 (by omega) rfl
      rw [List.set_set] at s7
      have hx7 : (L'.set k (mkConn_7 x M))[k]? = some (mkConn_7 x M) := List.getElem?_set_self (by rw [hT.out.1]; exact hlt)
      have Z0 : Hid (OwnS cnG 11 85 ((((((((wt0.setCell ⟨g, k * 11, none⟩ (.string (mtS M))).setCell ⟨g, k * 11 + 1, none⟩ (.int .i64 ((M : Int) + 1))).setCell ⟨g, k * 11 + 2, none⟩ (.int .i64 ((M : Int) + 1 + 1))).setCell ⟨g, k * 11 + 3, none⟩ (.int .i64 ((M : Int) + 1 + 1 + 1))).setCell ⟨g, k * 11 + 4, none⟩ (.int .i64 ((M : Int) + 1 + 1 + 1 + 1))).setCell ⟨g, k * 11 + 5, none⟩ (.int .i64 ((M : Int) + 1 + 1 + 1 + 1 + 1))).setCell ⟨g, k * 11 + 6, none⟩ (.int .i64 ((M : Int) + 1 + 1 + 1 + 1 + 1 + 1))).setCell ⟨g, k * 11 + 7, none⟩ (.int .i64 ((M : Int) + 1 + 1 + 1 + 1 + 1 + 1 + 1))) B (.slice (some ⟨g, 0, none⟩) n cap) (L'.set k (mkConn_7 x M)) ∧ w.grownBy ((((((((wt0.setCell ⟨g, k * 11, none⟩ (.string (mtS M))).setCell ⟨g, k * 11 + 1, none⟩ (.int .i64 ((M : Int) + 1))).setCell ⟨g, k * 11 + 2, none⟩ (.int .i64 ((M : Int) + 1 + 1))).setCell ⟨g, k * 11 + 3, none⟩ (.int .i64 ((M : Int) + 1 + 1 + 1))).setCell ⟨g, k * 11 + 4, none⟩ (.int .i64 ((M : Int) + 1 + 1 + 1 + 1))).setCell ⟨g, k * 11 + 5, none⟩ (.int .i64 ((M : Int) + 1 + 1 + 1 + 1 + 1))).setCell ⟨g, k * 11 + 6, none⟩ (.int .i64 ((M : Int) + 1 + 1 + 1 + 1 + 1 + 1))).setCell ⟨g, k * 11 + 7, none⟩ (.int .i64 ((M : Int) + 1 + 1 + 1 + 1 + 1 + 1 + 1))) (some g)) := ⟨s7.1, (grown_tr (grown_tr (grown_tr (grown_tr (grown_tr (grown_tr (grown_tr (grown_tr Gt0.out s0.2) s1.2) s2.2) s3.2) s4.2) s5.2) s6.2) s7.2)⟩
      have hy0 : Hid ((L'.set k (mkConn_7 x M))[k]? = some (mkConn_7 x M)) := hx7
      clear ot0 Gt0 s0 hx0 s1 hx1 s2 hx2 s3 hx3 s4 hx4 s5 hx5 s6 hx6 s7 hx7 hx
      have HM1 : Hid (∀ w, Calls Tryd.prog 47 #[.int .i64 ((M : Int) + 1 + 1 + 1 + 1 + 1 + 1 + 1 + 1)] w fun e w' => e = .returned (.string (mtS (M + 8))) ∧ Grw w w') := fun w => by
        have := markText_any (M + 8) w (by omega) (by omega)
        rw [show ((M + 8 : Nat) : Int) = (M : Int) + 1 + 1 + 1 + 1 + 1 + 1 + 1 + 1 by omega] at this
        exact this
      go_wp2_with fail
      refine (HM1.out _).mono ?_
      rintro e wt1 ⟨rfl, gt1⟩
      clear c0 z0 c1 z1 c2 z2 c3 z3 c4 z4 c5 z5 c6 z6 c7 z7
      have ot1 := Z0.out.1.now gt1.below
      have Gt1 : Hid (w.grownBy wt1 (some g)) := grown_tr Z0.out.2 (gt1.grown _)
      clear HM1 gt1 Z0
      obtain ⟨c8, z8⟩ := ot1.cell cnG_len (j := 8) hy0.out rfl
      have s8 := ot1.set1 cnG_len (j := 8) (y := (mkConn_8 x M)) (u := .string (mtS (M + 8))) hy0.out (by omega) rfl
      rw [List.set_set] at s8
      have hx8 : (L'.set k (mkConn_8 x M))[k]? = some (mkConn_8 x M) := List.getElem?_set_self (by rw [hT.out.1]; exact hlt)
      have Z1 : Hid (OwnS cnG 11 85 (wt1.setCell ⟨g, k * 11 + 8, none⟩ (.string (mtS (M + 8)))) B (.slice (some ⟨g, 0, none⟩) n cap) (L'.set k (mkConn_8 x M)) ∧ w.grownBy (wt1.setCell ⟨g, k * 11 + 8, none⟩ (.string (mtS (M + 8)))) (some g)) := ⟨s8.1, (grown_tr Gt1.out s8.2)⟩
      have hy1 : Hid ((L'.set k (mkConn_8 x M))[k]? = some (mkConn_8 x M)) := hx8
      clear ot1 Gt1 s8 hx8 
      have HM2 : Hid (∀ w, Calls Tryd.prog 47 #[.int .i64 ((M : Int) + 1 + 1 + 1 + 1 + 1 + 1 + 1 + 1 + 1)] w fun e w' => e = .returned (.string (mtS (M + 9))) ∧ Grw w w') := fun w => by
        have := markText_any (M + 9) w (by omega) (by omega)
        rw [show ((M + 9 : Nat) : Int) = (M : Int) + 1 + 1 + 1 + 1 + 1 + 1 + 1 + 1 + 1 by omega] at this
        exact this
      go_wp2_with fail
      refine (HM2.out _).mono ?_
      rintro e wt2 ⟨rfl, gt2⟩
      clear c8 z8
      have ot2 := Z1.out.1.now gt2.below
      have Gt2 : Hid (w.grownBy wt2 (some g)) := grown_tr Z1.out.2 (gt2.grown _)
      clear HM2 gt2 Z1
      obtain ⟨c9, z9⟩ := ot2.cell cnG_len (j := 9) hy1.out rfl
      obtain ⟨c10, z10⟩ := ot2.cell cnG_len (j := 10) hy1.out rfl
      have s9 := ot2.set1 cnG_len (j := 9) (y := (mkConn_9 x M)) (u := .string (mtS (M + 9))) hy1.out (by omega) rfl
      rw [List.set_set] at s9
      have hx9 : (L'.set k (mkConn_9 x M))[k]? = some (mkConn_9 x M) := List.getElem?_set_self (by rw [hT.out.1]; exact hlt)
      have s10 := s9.1.set1 cnG_len (j := 10) (y := (mkConn_10 x M)) (u := .bool (((M : Int) + 1 + 1 + 1 + 1 + 1 + 1 + 1 + 1 + 1 + 1) % 3 == 0)) hx9 (by omega) rfl
      rw [List.set_set] at s10
      have hx10 : (L'.set k (mkConn_10 x M))[k]? = some (mkConn_10 x M) := List.getElem?_set_self (by rw [hT.out.1]; exact hlt)
      have Z2 : Hid (OwnS cnG 11 85 ((wt2.setCell ⟨g, k * 11 + 9, none⟩ (.string (mtS (M + 9)))).setCell ⟨g, k * 11 + 10, none⟩ (.bool (((M : Int) + 1 + 1 + 1 + 1 + 1 + 1 + 1 + 1 + 1 + 1) % 3 == 0))) B (.slice (some ⟨g, 0, none⟩) n cap) (L'.set k (mkConn_10 x M)) ∧ w.grownBy ((wt2.setCell ⟨g, k * 11 + 9, none⟩ (.string (mtS (M + 9)))).setCell ⟨g, k * 11 + 10, none⟩ (.bool (((M : Int) + 1 + 1 + 1 + 1 + 1 + 1 + 1 + 1 + 1 + 1) % 3 == 0))) (some g)) := ⟨s10.1, (grown_tr (grown_tr Gt2.out s9.2) s10.2)⟩
      have hy2 : Hid ((L'.set k (mkConn_10 x M))[k]? = some (mkConn_10 x M)) := hx10
      clear ot2 Gt2 s9 hx9 s10 hx10 
      have eConn : (mkConn_10 x M) = mkConn M := rfl
      rw [eConn] at Z2
      have YY : Hid (OwnS cnG 11 85 ((wt2.setCell ⟨g, k * 11 + 9, none⟩ (.string (mtS (M + 9)))).setCell ⟨g, k * 11 + 10, none⟩ (.bool (((M : Int) + 1 + 1 + 1 + 1 + 1 + 1 + 1 + 1 + 1 + 1) % 3 == 0))) B (.slice (some ⟨g, 0, none⟩) n cap) (L'.set k (mkConn M)) ∧ (L'.set k (mkConn M)).length = n ∧ (L'.set k (mkConn M)).take (k + 1) = (mkConnL m0 n).take (k + 1) ∧ w.grownBy ((wt2.setCell ⟨g, k * 11 + 9, none⟩ (.string (mtS (M + 9)))).setCell ⟨g, k * 11 + 10, none⟩ (.bool (((M : Int) + 1 + 1 + 1 + 1 + 1 + 1 + 1 + 1 + 1 + 1) % 3 == 0))) (some g)) := ⟨Z2.out.1, by rw [List.length_set]; exact hT.out.1, takeS_set (by rw [hT.out.1, mkConnL_len]) (by rw [mkConnL_at m0 n k hlt, hM.out]) hT.out.2, Z2.out.2⟩
      clear Z2 hT hy0 hy1 hy2
      go_wp2
      go_roundw
      case rel => exact ⟨k + 1, M + 11, _, by omega, by go_num, by go_num, (show M + 11 = m0 + 11 * (k + 1) by have := hM.out; omega), YY⟩
      case measure => simp [intOf]; omega
    · obtain rfl : k = n := by omega
      have e1 : L' = mkConnL m0 k := by
        have := X.out.2.2.1
        rwa [List.take_of_length_le (by rw [X.out.2.1]; exact Nat.le_refl _), List.take_of_length_le (by rw [mkConnL_len]; exact Nat.le_refl _)] at this
      subst e1
      have hM2 := hM.out
      subst hM2
      go_wp2
      go_ret
      exact ⟨rfl, X.out.1, X.out.2.2.2⟩
set_option maxHeartbeats 4000000 in
theorem heldConnS_any (a : Option Addr) (n cap m0 : Nat) (w : World) (h : Rw CnR 11 w a (mkConnL m0 n)) (h0 : 0 < m0) (hm : m0 + 11 * n ≤ 100000000000) :
    Calls Tryd.prog 25 #[.slice a n cap, .int .i64 (m0 : Int)] w fun e w' => e = .returned (.int .i64 ((m0 + 11 * n : Nat) : Int)) ∧ Grw w w' := by
  have H : Hid (Rw CnR 11 w a (mkConnL m0 n)) := h
  have hlen : n ≤ 100000000000 := by omega
  clear h
  have hmix : Tryd.prog.follows .mixedOrders = true := by kernel_rfl
  go_enter Tryd.func25, Tryd.ntmps25
  go_wp2
  go_loopw [1, 5] (fun m i wr => ∃ k M : Nat, k ≤ n ∧ i = .int .i64 k ∧ m = .int .i64 (M : Int) ∧ Hid (M = m0 + 11 * k) ∧ Hid (Grw w wr)) (fun _ i _ => n - (intOf i).toNat)
  case atStart => exact ⟨0, m0, Nat.zero_le _, rfl, rfl, by show m0 = _; omega, Grw.refl w⟩
  case round =>
    obtain ⟨k, M, hk, rfl, rfl, hM, HG⟩ := hrel
    by_cases hlt : k < n
    · obtain ⟨b, off, vs, rfl, hb, hvl, hR, hc⟩ := H.out.at CnR.kp HG.out.below (mkConnL_at m0 n k hlt)
      rw [← hM.out] at hR
      obtain ⟨rfl, -⟩ := hR
      have hltz : (k : Int) < (n : Int) := by omega
      have hMz : (M : Int) ≤ 200000000000 := by have := hM.out; omega
      have hM0 : 0 < M := by have := hM.out; omega
      have q0 : wr.cell? ⟨b, off + k * 11, none⟩ = some (.string (mtS M)) := hc 0 _ rfl
      have q1 : wr.cell? ⟨b, off + k * 11 + 1, none⟩ = some (.int .i64 ((M : Int) + 1)) := hc 1 _ rfl
      have q2 : wr.cell? ⟨b, off + k * 11 + 2, none⟩ = some (.int .i64 ((M : Int) + 1 + 1)) := hc 2 _ rfl
      have q3 : wr.cell? ⟨b, off + k * 11 + 3, none⟩ = some (.int .i64 ((M : Int) + 1 + 1 + 1)) := hc 3 _ rfl
      have q4 : wr.cell? ⟨b, off + k * 11 + 4, none⟩ = some (.int .i64 ((M : Int) + 1 + 1 + 1 + 1)) := hc 4 _ rfl
      have q5 : wr.cell? ⟨b, off + k * 11 + 5, none⟩ = some (.int .i64 ((M : Int) + 1 + 1 + 1 + 1 + 1)) := hc 5 _ rfl
      have q6 : wr.cell? ⟨b, off + k * 11 + 6, none⟩ = some (.int .i64 ((M : Int) + 1 + 1 + 1 + 1 + 1 + 1)) := hc 6 _ rfl
      have q7 : wr.cell? ⟨b, off + k * 11 + 7, none⟩ = some (.int .i64 ((M : Int) + 1 + 1 + 1 + 1 + 1 + 1 + 1)) := hc 7 _ rfl
      have q8 : wr.cell? ⟨b, off + k * 11 + 8, none⟩ = some (.string (mtS (M + 8))) := hc 8 _ rfl
      have q9 : wr.cell? ⟨b, off + k * 11 + 9, none⟩ = some (.string (mtS (M + 9))) := hc 9 _ rfl
      have q10 : wr.cell? ⟨b, off + k * 11 + 10, none⟩ = some (.bool (((M : Int) + 1 + 1 + 1 + 1 + 1 + 1 + 1 + 1 + 1 + 1) % 3 == 0)) := hc 10 _ rfl
      clear hc hvl
      have e1 : (((M : Int) + 1) != ((M : Int) + 1)) = false := by simp
      have e2 : (((M : Int) + 1 + 1) != ((M : Int) + 1 + 1)) = false := by simp
      have e3 : (((M : Int) + 1 + 1 + 1) != ((M : Int) + 1 + 1 + 1)) = false := by simp
      have e4 : (((M : Int) + 1 + 1 + 1 + 1) != ((M : Int) + 1 + 1 + 1 + 1)) = false := by simp
      have e5 : (((M : Int) + 1 + 1 + 1 + 1 + 1) != ((M : Int) + 1 + 1 + 1 + 1 + 1)) = false := by simp
      have e6 : (((M : Int) + 1 + 1 + 1 + 1 + 1 + 1) != ((M : Int) + 1 + 1 + 1 + 1 + 1 + 1)) = false := by simp
      have e7 : (((M : Int) + 1 + 1 + 1 + 1 + 1 + 1 + 1) != ((M : Int) + 1 + 1 + 1 + 1 + 1 + 1 + 1)) = false := by simp
      have e10 : ((((M : Int) + 1 + 1 + 1 + 1 + 1 + 1 + 1 + 1 + 1 + 1) % 3 == 0) != (((M : Int) + 1 + 1 + 1 + 1 + 1 + 1 + 1 + 1 + 1 + 1) % 3 == 0)) = false := by simp
      have HM0 : Hid (∀ w, Calls Tryd.prog 47 #[.int .i64 ((M : Int))] w fun e w' => e = .returned (.string (mtS (M))) ∧ Grw w w') := fun w => by
        have := markText_any (M) w (by omega) (by omega)
        exact this
      generalize mtS (M) = T0 at *
      have t0 : (T0.toList == T0.toList) = true := by simp
      have HM8 : Hid (∀ w, Calls Tryd.prog 47 #[.int .i64 ((M : Int) + 1 + 1 + 1 + 1 + 1 + 1 + 1 + 1)] w fun e w' => e = .returned (.string (mtS (M + 8))) ∧ Grw w w') := fun w => by
        have := markText_any (M + 8) w (by omega) (by omega)
        rw [show ((M + 8 : Nat) : Int) = (M : Int) + 1 + 1 + 1 + 1 + 1 + 1 + 1 + 1 by omega] at this
        exact this
      generalize mtS (M + 8) = T8 at *
      have t8 : (T8.toList == T8.toList) = true := by simp
      have HM9 : Hid (∀ w, Calls Tryd.prog 47 #[.int .i64 ((M : Int) + 1 + 1 + 1 + 1 + 1 + 1 + 1 + 1 + 1)] w fun e w' => e = .returned (.string (mtS (M + 9))) ∧ Grw w w') := fun w => by
        have := markText_any (M + 9) w (by omega) (by omega)
        rw [show ((M + 9 : Nat) : Int) = (M : Int) + 1 + 1 + 1 + 1 + 1 + 1 + 1 + 1 + 1 by omega] at this
        exact this
      generalize mtS (M + 9) = T9 at *
      have t9 : (T9.toList == T9.toList) = true := by simp
      have y0 : ∀ n os, (grow (wr.drewN n) os).cell? ⟨b, off + k * 11, none⟩ = some (.string T0) := fun n os => bkeep (Grw.below ⟨n, os, rfl⟩) q0
      go_wp2_with fail
      refine wp_region_quiet_grown (by assumption) (by kernel_rfl) ?_
      repeat (go_big_quiet_step (first | fail | (go_at_call 47; exact Calls.grown_of (HM0.out _))))
      refine wpQuiet_nil ?_
      intro _ hw'
      obtain ⟨⟨nq, osq⟩, hw''⟩ := hw'
      subst hw''
      have HG0 : Hid (Grw w (grow (wr.drewN nq) osq)) := HG.out.trans ⟨nq, osq, rfl⟩
      replace q1 : (grow (wr.drewN nq) osq).cell? ⟨b, off + k * 11 + 1, none⟩ = some (.int .i64 ((M : Int) + 1)) := bkeep (Grw.below ⟨nq, osq, rfl⟩) q1
      replace q2 : (grow (wr.drewN nq) osq).cell? ⟨b, off + k * 11 + 2, none⟩ = some (.int .i64 ((M : Int) + 1 + 1)) := bkeep (Grw.below ⟨nq, osq, rfl⟩) q2
      replace q3 : (grow (wr.drewN nq) osq).cell? ⟨b, off + k * 11 + 3, none⟩ = some (.int .i64 ((M : Int) + 1 + 1 + 1)) := bkeep (Grw.below ⟨nq, osq, rfl⟩) q3
      replace q4 : (grow (wr.drewN nq) osq).cell? ⟨b, off + k * 11 + 4, none⟩ = some (.int .i64 ((M : Int) + 1 + 1 + 1 + 1)) := bkeep (Grw.below ⟨nq, osq, rfl⟩) q4
      replace q5 : (grow (wr.drewN nq) osq).cell? ⟨b, off + k * 11 + 5, none⟩ = some (.int .i64 ((M : Int) + 1 + 1 + 1 + 1 + 1)) := bkeep (Grw.below ⟨nq, osq, rfl⟩) q5
      replace q6 : (grow (wr.drewN nq) osq).cell? ⟨b, off + k * 11 + 6, none⟩ = some (.int .i64 ((M : Int) + 1 + 1 + 1 + 1 + 1 + 1)) := bkeep (Grw.below ⟨nq, osq, rfl⟩) q6
      replace q7 : (grow (wr.drewN nq) osq).cell? ⟨b, off + k * 11 + 7, none⟩ = some (.int .i64 ((M : Int) + 1 + 1 + 1 + 1 + 1 + 1 + 1)) := bkeep (Grw.below ⟨nq, osq, rfl⟩) q7
      replace q8 : (grow (wr.drewN nq) osq).cell? ⟨b, off + k * 11 + 8, none⟩ = some (.string T8) := bkeep (Grw.below ⟨nq, osq, rfl⟩) q8
      replace q9 : (grow (wr.drewN nq) osq).cell? ⟨b, off + k * 11 + 9, none⟩ = some (.string T9) := bkeep (Grw.below ⟨nq, osq, rfl⟩) q9
      replace q10 : (grow (wr.drewN nq) osq).cell? ⟨b, off + k * 11 + 10, none⟩ = some (.bool (((M : Int) + 1 + 1 + 1 + 1 + 1 + 1 + 1 + 1 + 1 + 1) % 3 == 0)) := bkeep (Grw.below ⟨nq, osq, rfl⟩) q10
      clear y0 q0 HM0
      generalize (grow (wr.drewN nq) osq) = wv0 at *
      have y8 : ∀ n os, (grow (wv0.drewN n) os).cell? ⟨b, off + k * 11 + 8, none⟩ = some (.string T8) := fun n os => bkeep (Grw.below ⟨n, os, rfl⟩) q8
      go_wp2_with fail
      refine wp_region_quiet_grown (by assumption) (by kernel_rfl) ?_
      repeat (go_big_quiet_step (first | fail | (go_at_call 47; exact Calls.grown_of (HM8.out _))))
      refine wpQuiet_nil ?_
      intro _ hw'
      obtain ⟨⟨nq, osq⟩, hw''⟩ := hw'
      subst hw''
      have HG8 : Hid (Grw w (grow (wv0.drewN nq) osq)) := HG0.out.trans ⟨nq, osq, rfl⟩
      replace q9 : (grow (wv0.drewN nq) osq).cell? ⟨b, off + k * 11 + 9, none⟩ = some (.string T9) := bkeep (Grw.below ⟨nq, osq, rfl⟩) q9
      replace q10 : (grow (wv0.drewN nq) osq).cell? ⟨b, off + k * 11 + 10, none⟩ = some (.bool (((M : Int) + 1 + 1 + 1 + 1 + 1 + 1 + 1 + 1 + 1 + 1) % 3 == 0)) := bkeep (Grw.below ⟨nq, osq, rfl⟩) q10
      clear y8 q1 q2 q3 q4 q5 q6 q7 q8 HM8
      generalize (grow (wv0.drewN nq) osq) = wv8 at *
      have y9 : ∀ n os, (grow (wv8.drewN n) os).cell? ⟨b, off + k * 11 + 9, none⟩ = some (.string T9) := fun n os => bkeep (Grw.below ⟨n, os, rfl⟩) q9
      go_wp2_with fail
      refine wp_region_quiet_grown (by assumption) (by kernel_rfl) ?_
      repeat (go_big_quiet_step (first | fail | (go_at_call 47; exact Calls.grown_of (HM9.out _))))
      refine wpQuiet_nil ?_
      intro _ hw'
      obtain ⟨⟨nq, osq⟩, hw''⟩ := hw'
      subst hw''
      have HG9 : Hid (Grw w (grow (wv8.drewN nq) osq)) := HG8.out.trans ⟨nq, osq, rfl⟩
      replace q10 : (grow (wv8.drewN nq) osq).cell? ⟨b, off + k * 11 + 10, none⟩ = some (.bool (((M : Int) + 1 + 1 + 1 + 1 + 1 + 1 + 1 + 1 + 1 + 1) % 3 == 0)) := bkeep (Grw.below ⟨nq, osq, rfl⟩) q10
      clear y9 q9 HM9
      generalize (grow (wv8.drewN nq) osq) = wv9 at *
      go_wp2
      go_roundw
      case rel => exact ⟨k + 1, M + 11, by omega, by go_num, by go_num, (show M + 11 = m0 + 11 * (k + 1) by have := hM.out; omega), HG9⟩
      case measure => simp [intOf]; omega
    · obtain rfl : k = n := by omega
      have hM2 := hM.out
      subst hM2
      go_wp2
      go_ret
      exact ⟨rfl, HG.out⟩
end Go.Proofs.YtbeehlhcckndcaaDoor

namespace Go.Proofs.YtbeehlhcckndcaaDoor
open Go.RowKit Go.PlainAid Go.Proofs.YtbeehlhcckndcaaDoor.Bt Go.Sort
set_option linter.unusedVariables false
set_option maxRecDepth 20000

/-- A row lies as it lay where its block is as it was. -/
theorem own_loc {e : TypeId} {K n B : Nat} {w w' : World} {v : Value} {F : List Value} (h : w.ownsRow B e K v n F) (hq : ∀ k, v.ownBlock = some k → w'.heap[k]? = w.heap[k]?) : w'.ownsRow B e K v n F := by
  refine ⟨h.1, ?_⟩
  rcases h.2 with h' | ⟨g, cap, cur, h1, hB, hg, h4⟩
  · exact .inl h'
  · exact .inr ⟨g, cap, cur, h1, hB, by rw [hq g (by rw [h1]; rfl)]; exact hg, h4⟩
theorem own_keep {α : Type} {c : α → List Value} {K : Nat} {e : TypeId} {w w' : World} {B : Nat} {v : Value} {xs : List α} {P : Nat → Prop} (h : OwnS c K e w B v xs) (hk : Rel.Keep P w w') (hP : ∀ k, v.ownBlock = some k → P k) : OwnS c K e w' B v xs :=
  own_loc h (fun k e => hk.block k (hP k e))
structure OwnGt (w : World) (B : Nat) (A : GtA) (g : GtV) (L : List RoX) : Prop where
  ro : L.map (fun x => x.r) = g.ros
  ps : OwnS pv 4 62 w B (.slice A.x g.ps.length A.xc) g.ps
  rs : OwnRo w B (.slice A.y g.ros.length A.yc) L
  gu : Own4 w B (.slice A.ua g.us.length A.uc) (.slice A.sa g.ss.length A.sc) (.slice A.fa g.fs.length A.fc) (.slice A.ra g.es.length A.rc) g.us g.ss g.fs g.es
  fl : OwnS wvG 9 82 w B (.slice A.la g.fl.length A.lc) g.fl
  co : OwnS cnG 11 85 w B (.slice A.ca g.co.length A.cc) g.co
theorem OwnGt.now {w w' : World} {B : Nat} {A : GtA} {g : GtV} {L : List RoX} (h : OwnGt w B A g L) (hb : Below w.heap.size w w') : OwnGt w' B A g L := ⟨h.ro, h.ps.now hb, h.rs.now hb, h.gu.now hb, h.fl.now hb, h.co.now hb⟩
theorem OwnGt.lower {w : World} {B B' : Nat} {A : GtA} {g : GtV} {L : List RoX} (h : OwnGt w B A g L) (hb : B' ≤ B) : OwnGt w B' A g L := ⟨h.ro, h.ps.lower hb, h.rs.lower hb, h.gu.lower hb, h.fl.lower hb, h.co.lower hb⟩
/-- How many numbers a gateway takes up, and that it is marked. -/
def gtN1 (m0 : Nat) (g : GtV) (L : List RoX) : Nat := m0 + 4 * g.ps.length + roN L
def gtN2 (m0 : Nat) (g : GtV) (L : List RoX) : Nat := gtN1 m0 g L + 6 * g.us.length + 10 * g.ss.length + 3 * g.fs.length + 5 * g.es.length
def gtN3 (m0 : Nat) (g : GtV) (L : List RoX) : Nat := gtN2 m0 g L + 9 * g.fl.length
def gtN4 (m0 : Nat) (g : GtV) (L : List RoX) : Nat := gtN3 m0 g L + 11 * g.co.length
structure MkdGt (w : World) (B : Nat) (A : GtA) (g : GtV) (L : List RoX) (m0 : Nat) : Prop where
  ps : OwnS pv 4 62 w B (.slice A.x g.ps.length A.xc) (mkPlaceL m0 g.ps.length)
  rs : OwnRo w B (.slice A.y g.ros.length A.yc) (mkRoL (m0 + 4 * g.ps.length) L)
  gu : Own4 w B (.slice A.ua g.us.length A.uc) (.slice A.sa g.ss.length A.sc) (.slice A.fa g.fs.length A.fc) (.slice A.ra g.es.length A.rc) (mkUserL (gtN1 m0 g L) g.us.length) (mkSessionL (gtN1 m0 g L + 6 * g.us.length) g.ss.length) (mkFailL (gtN1 m0 g L + 6 * g.us.length + 10 * g.ss.length) g.fs.length) (mkRecordL (gtN1 m0 g L + 6 * g.us.length + 10 * g.ss.length + 3 * g.fs.length) g.es.length)
  fl : OwnS wvG 9 82 w B (.slice A.la g.fl.length A.lc) (mkFlowL (gtN2 m0 g L) g.fl.length)
  co : OwnS cnG 11 85 w B (.slice A.ca g.co.length A.cc) (mkConnL (gtN3 m0 g L) g.co.length)
theorem MkdGt.now {w w' : World} {B : Nat} {A : GtA} {g : GtV} {L : List RoX} {m0 : Nat} (h : MkdGt w B A g L m0) (hb : Below w.heap.size w w') : MkdGt w' B A g L m0 := ⟨h.ps.now hb, h.rs.now hb, h.gu.now hb, h.fl.now hb, h.co.now hb⟩
/-- The blocks that a gateway owns. -/
def guBk (A : GtA) (g : GtV) (k : Nat) : Prop := Value.ownBlock (.slice A.ua g.us.length A.uc) = some k ∨ Value.ownBlock (.slice A.sa g.ss.length A.sc) = some k ∨ Value.ownBlock (.slice A.fa g.fs.length A.fc) = some k ∨ Value.ownBlock (.slice A.ra g.es.length A.rc) = some k
def gtBk (A : GtA) (g : GtV) (L : List RoX) (k : Nat) : Prop := cfBk (.slice A.x g.ps.length A.xc) (.slice A.y g.ros.length A.yc) L k ∨ guBk A g k ∨ Value.ownBlock (.slice A.la g.fl.length A.lc) = some k ∨ Value.ownBlock (.slice A.ca g.co.length A.cc) = some k
theorem cf_apart {α : Type} {c : α → List Value} {K : Nat} {e : TypeId} {w : World} {B : Nat} {v vp vr : Value} {xs : List α} {ps : List PlaceV} {L : List RoX} (o : OwnS c K e w B v xs) (op : OwnS pv 4 62 w B vp ps) (or_ : OwnRo w B vr L) (h1 : e ≠ 62) (h2 : e ≠ 67) (h3 : e ≠ 64) : ∀ k, v.ownBlock = some k → ¬ cfBk vp vr L k := by
  rintro k hk (hb | hb | ⟨z, hz, hb⟩)
  · exact apB_of o op h1 k hk hb
  · exact apB_of o or_.row h2 k hk hb
  · exact apB_of o (or_.rules z hz) h3 k hk hb
theorem gu_apart {α : Type} {c : α → List Value} {K : Nat} {e : TypeId} {w : World} {B : Nat} {v : Value} {xs : List α} {A : GtA} {g : GtV} {us : List UserV} {ss : List SessV} {fs : List FailV} {es : List RecV} (o : OwnS c K e w B v xs) (h : Own4 w B (.slice A.ua g.us.length A.uc) (.slice A.sa g.ss.length A.sc) (.slice A.fa g.fs.length A.fc) (.slice A.ra g.es.length A.rc) us ss fs es) (h1 : e ≠ 46) (h2 : e ≠ 103) (h3 : e ≠ 106) (h4 : e ≠ 109) : ∀ k, v.ownBlock = some k → ¬ guBk A g k := by
  rintro k hk (hb | hb | hb | hb)
  · exact apB_of o h.u h1 k hk hb
  · exact apB_of o h.s h2 k hk hb
  · exact apB_of o h.f h3 k hk hb
  · exact apB_of o h.r h4 k hk hb
theorem own4_keep {w w' : World} {B : Nat} {vu vs vf vr : Value} {us : List UserV} {ss : List SessV} {fs : List FailV} {rs : List RecV} {P : Nat → Prop} (h : Own4 w B vu vs vf vr us ss fs rs) (hk : Rel.Keep P w w') (h1 : ∀ k, vu.ownBlock = some k → P k) (h2 : ∀ k, vs.ownBlock = some k → P k) (h3 : ∀ k, vf.ownBlock = some k → P k) (h4 : ∀ k, vr.ownBlock = some k → P k) : Own4 w' B vu vs vf vr us ss fs rs :=
  ⟨own_keep h.u hk h1, own_keep h.s hk h2, own_keep h.f hk h3, own_keep h.r hk h4, h.us_, h.uf, h.ur, h.sf, h.sr, h.fr⟩
theorem bx_keep {w w' : World} {q : Nat} {cs : List Value} {P : Nat → Prop} (h : Bx w q cs) (hk : Rel.Keep P w w') (hq : P q) : Bx w' q cs := by
  refine Bx.of (fun j v hj => ?_) (fun j hj => ?_)
  · have := h.cell j hj
    unfold World.cell? at this ⊢
    rw [show w'.heap[(⟨q, j, none⟩ : Addr).block]? = w.heap[(⟨q, j, none⟩ : Addr).block]? from hk.block q hq]
    exact this
  · have := h.thaw j hj
    unfold World.frozen? at this ⊢
    rw [show w'.heap[(⟨q, j, none⟩ : Addr).block]? = w.heap[(⟨q, j, none⟩ : Addr).block]? from hk.block q hq]
    exact this
theorem mkRoL_sl : ∀ (L : List RoX) (M : Nat), (mkRoL M L).map RoX.sl = L.map RoX.sl
  | [], _ => rfl
  | x :: L, M => by simp only [mkRoL, List.map_cons, mkRoL_sl L, mkRo_sl]
theorem roBk_sl {v : Value} {L L' : List RoX} (h : L.map RoX.sl = L'.map RoX.sl) {k : Nat} (hk : roBk v L k) : roBk v L' k := by
  rcases hk with hk | ⟨x, hx, hk⟩
  · exact .inl hk
  · have hm : x.sl ∈ L'.map RoX.sl := by rw [← h]; exact List.mem_map_of_mem hx
    obtain ⟨y, hy, e⟩ := List.mem_map.1 hm
    exact .inr ⟨y, hy, by rw [e]; exact hk⟩
theorem roBk_mk (v : Value) (L : List RoX) (M k : Nat) : roBk v (mkRoL M L) k ↔ roBk v L k := ⟨roBk_sl (mkRoL_sl L M), roBk_sl (mkRoL_sl L M).symm⟩
end Go.Proofs.YtbeehlhcckndcaaDoor

namespace Go.Proofs.YtbeehlhcckndcaaDoor
open Go.RowKit Go.PlainAid Go.Proofs.YtbeehlhcckndcaaDoor.Bt Go.Sort
set_option linter.unusedVariables false
set_option maxRecDepth 20000
theorem eqNet2 (x0 x1 : Int) (w : World) :
    Calls Tryd.prog 32 #[.agg #[.int .i64 x0, .int .i64 x1], .agg #[.int .i64 x0, .int .i64 x1]] w fun e w' => e = .returned (.bool true) ∧ Grw w w' := by
  have h0 : (x0 != x0) = false := by simp
  have h1 : (x1 != x1) = false := by simp
  go_enter Tryd.func32, Tryd.ntmps32
  go_wp2
  go_ret
  exact ⟨rfl, ((Grw.refl _).alloc _).alloc _⟩

theorem eqRange2 (x0 x1 : Int) (w : World) :
    Calls Tryd.prog 73 #[.agg #[.int .i64 x0, .int .i64 x1], .agg #[.int .i64 x0, .int .i64 x1]] w fun e w' => e = .returned (.bool true) ∧ Grw w w' := by
  have h0 : (x0 != x0) = false := by simp
  have h1 : (x1 != x1) = false := by simp
  go_enter Tryd.func73, Tryd.ntmps73
  go_wp2
  go_ret
  exact ⟨rfl, ((Grw.refl _).alloc _).alloc _⟩

set_option maxHeartbeats 1000000 in
theorem eqRule_any (p ip b lo hi : Int) (al : Bool) (w : World) :
    Calls Tryd.prog 80 #[.agg #[.int .i64 p, .int .i64 ip, .int .i64 b, .int .i64 lo, .int .i64 hi, .bool al], .agg #[.int .i64 p, .int .i64 ip, .int .i64 b, .int .i64 lo, .int .i64 hi, .bool al]] w fun e w' => e = .returned (.bool true) ∧ Grw w w' := by
  have HA : Hid (∀ w, Calls Tryd.prog 32 #[.agg #[.int .i64 ip, .int .i64 b], .agg #[.int .i64 ip, .int .i64 b]] w fun e w' => e = .returned (.bool true) ∧ Grw w w') := fun w => eqNet2 ip b w
  have HB : Hid (∀ w, Calls Tryd.prog 73 #[.agg #[.int .i64 lo, .int .i64 hi], .agg #[.int .i64 lo, .int .i64 hi]] w fun e w' => e = .returned (.bool true) ∧ Grw w w') := fun w => eqRange2 lo hi w
  have hp : (p != p) = false := by simp
  have ha : (al != al) = false := by simp
  go_enter Tryd.func80, Tryd.ntmps80
  go_wp2_with fail
  refine (HA.out _).mono ?_
  rintro e wx1 ⟨rfl, bx⟩
  have k0_0 : World.cell? _ ⟨w.heap.size, 0, none⟩ = some (.int .i64 p) := bx.keep (a := ⟨w.heap.size, 0, none⟩) (v := .int .i64 p) (by simp [go_sem])
  have k0_1 : World.cell? _ ⟨w.heap.size, 1, none⟩ = some (.int .i64 ip) := bx.keep (a := ⟨w.heap.size, 1, none⟩) (v := .int .i64 ip) (by simp [go_sem])
  have k0_2 : World.cell? _ ⟨w.heap.size, 2, none⟩ = some (.int .i64 b) := bx.keep (a := ⟨w.heap.size, 2, none⟩) (v := .int .i64 b) (by simp [go_sem])
  have k0_3 : World.cell? _ ⟨w.heap.size, 3, none⟩ = some (.int .i64 lo) := bx.keep (a := ⟨w.heap.size, 3, none⟩) (v := .int .i64 lo) (by simp [go_sem])
  have k0_4 : World.cell? _ ⟨w.heap.size, 4, none⟩ = some (.int .i64 hi) := bx.keep (a := ⟨w.heap.size, 4, none⟩) (v := .int .i64 hi) (by simp [go_sem])
  have k0_5 : World.cell? _ ⟨w.heap.size, 5, none⟩ = some (.bool al) := bx.keep (a := ⟨w.heap.size, 5, none⟩) (v := .bool al) (by simp [go_sem])
  have k1_0 : World.cell? _ ⟨w.heap.size + 1, 0, none⟩ = some (.int .i64 p) := bx.keep (a := ⟨w.heap.size + 1, 0, none⟩) (v := .int .i64 p) (by simp [go_sem])
  have k1_1 : World.cell? _ ⟨w.heap.size + 1, 1, none⟩ = some (.int .i64 ip) := bx.keep (a := ⟨w.heap.size + 1, 1, none⟩) (v := .int .i64 ip) (by simp [go_sem])
  have k1_2 : World.cell? _ ⟨w.heap.size + 1, 2, none⟩ = some (.int .i64 b) := bx.keep (a := ⟨w.heap.size + 1, 2, none⟩) (v := .int .i64 b) (by simp [go_sem])
  have k1_3 : World.cell? _ ⟨w.heap.size + 1, 3, none⟩ = some (.int .i64 lo) := bx.keep (a := ⟨w.heap.size + 1, 3, none⟩) (v := .int .i64 lo) (by simp [go_sem])
  have k1_4 : World.cell? _ ⟨w.heap.size + 1, 4, none⟩ = some (.int .i64 hi) := bx.keep (a := ⟨w.heap.size + 1, 4, none⟩) (v := .int .i64 hi) (by simp [go_sem])
  have k1_5 : World.cell? _ ⟨w.heap.size + 1, 5, none⟩ = some (.bool al) := bx.keep (a := ⟨w.heap.size + 1, 5, none⟩) (v := .bool al) (by simp [go_sem])
  have BX : Hid (Grw w _) := (((Grw.refl _).alloc _).alloc _).trans bx
  clear bx
  go_wp2_with fail
  refine (HB.out _).mono ?_
  rintro e wx2 ⟨rfl, bx⟩
  replace k0_0 := bx.keep k0_0
  replace k0_1 := bx.keep k0_1
  replace k0_2 := bx.keep k0_2
  replace k0_3 := bx.keep k0_3
  replace k0_4 := bx.keep k0_4
  replace k0_5 := bx.keep k0_5
  replace k1_0 := bx.keep k1_0
  replace k1_1 := bx.keep k1_1
  replace k1_2 := bx.keep k1_2
  replace k1_3 := bx.keep k1_3
  replace k1_4 := bx.keep k1_4
  replace k1_5 := bx.keep k1_5
  replace BX : Hid (Grw w _) := BX.out.trans bx
  clear bx
  go_wp2
  go_ret
  exact ⟨rfl, BX.out⟩

end Go.Proofs.YtbeehlhcckndcaaDoor

namespace Go.Proofs.YtbeehlhcckndcaaDoor
open Go.RowKit Go.PlainAid Go.Proofs.YtbeehlhcckndcaaDoor.Bt Go.Sort
set_option linter.unusedVariables false
set_option maxRecDepth 20000

theorem infoRule : (Tryd.prog.info? 64).map (fun i => (i.zero, i.size, i.bytes)) = some (some (.agg #[.int .i64 0, .int .i64 0, .int .i64 0, .int .i64 0, .int .i64 0, .bool false]), 6, 48) := by kernel_rfl
set_option maxHeartbeats 2000000 in
theorem eqRuleS_yes (a a' : Option Addr) (len cap cap' : Nat) (xs : List RuleV) (w : World) (h : Rw RuR 6 w a xs) (h' : Rw RuR 6 w a' xs) (hl : xs.length = len) (hlen : len ≤ 1048576) :
    Calls Tryd.prog 74 #[.slice a len cap, .slice a' len cap'] w fun e w' => e = .returned (.bool true) ∧ Grw w w' := by
  have hne : ((len : Int) != (len : Int)) = false := by simp
  have hmix : Tryd.prog.follows .mixedOrders = true := by kernel_rfl
  have RW : Hid (Rw RuR 6 w a xs) := h
  have RW' : Hid (Rw RuR 6 w a' xs) := h'
  clear h h'
  go_enter Tryd.func74, Tryd.ntmps74
  go_wp2
  go_loopw [5] (fun i wr => ∃ k : Nat, k ≤ len ∧ i = .int .i64 k ∧ Hid (Grw w wr)) (fun i _ => len - (intOf i).toNat)
  case atStart => exact ⟨0, Nat.zero_le _, rfl, Grw.refl w⟩
  case round =>
    obtain ⟨k, hk, rfl, HG⟩ := hrel
    by_cases hlt : k < len
    · obtain ⟨x, hx⟩ := at_of hl hlt
      obtain ⟨b, off, vs, rfl, hb, hvl, hR, hc⟩ := RW.out.at RuR.kp HG.out.below hx
      obtain ⟨b', off', vs', rfl, hb', hvl', hR', hc'⟩ := RW'.out.at RuR.kp HG.out.below hx
      obtain ⟨p, ip, bb, lo, hi, al⟩ := x
      obtain ⟨rfl, hlo, hhi⟩ := hR
      obtain ⟨rfl, -, -⟩ := hR'
      have q0 : ∀ n os, (grow (wr.drewN n) os).cell? ⟨b, off + k * 6, none⟩ = some (.int .i64 p) := fun n os => grown_cell hb HG.out (hc 0 _ rfl) n os
      have q1 : ∀ n os, (grow (wr.drewN n) os).cell? ⟨b, off + k * 6 + 1, none⟩ = some (.int .i64 ip) := fun n os => grown_cell hb HG.out (hc 1 _ rfl) n os
      have q2 : ∀ n os, (grow (wr.drewN n) os).cell? ⟨b, off + k * 6 + 2, none⟩ = some (.int .i64 bb) := fun n os => grown_cell hb HG.out (hc 2 _ rfl) n os
      have q3 : ∀ n os, (grow (wr.drewN n) os).cell? ⟨b, off + k * 6 + 3, none⟩ = some (.int .i64 lo) := fun n os => grown_cell hb HG.out (hc 3 _ rfl) n os
      have q4 : ∀ n os, (grow (wr.drewN n) os).cell? ⟨b, off + k * 6 + 4, none⟩ = some (.int .i64 hi) := fun n os => grown_cell hb HG.out (hc 4 _ rfl) n os
      have q5 : ∀ n os, (grow (wr.drewN n) os).cell? ⟨b, off + k * 6 + 5, none⟩ = some (.bool al) := fun n os => grown_cell hb HG.out (hc 5 _ rfl) n os
      have r0 : ∀ n os, (grow (wr.drewN n) os).cell? ⟨b', off' + k * 6, none⟩ = some (.int .i64 p) := fun n os => grown_cell hb' HG.out (hc' 0 _ rfl) n os
      have r1 : ∀ n os, (grow (wr.drewN n) os).cell? ⟨b', off' + k * 6 + 1, none⟩ = some (.int .i64 ip) := fun n os => grown_cell hb' HG.out (hc' 1 _ rfl) n os
      have r2 : ∀ n os, (grow (wr.drewN n) os).cell? ⟨b', off' + k * 6 + 2, none⟩ = some (.int .i64 bb) := fun n os => grown_cell hb' HG.out (hc' 2 _ rfl) n os
      have r3 : ∀ n os, (grow (wr.drewN n) os).cell? ⟨b', off' + k * 6 + 3, none⟩ = some (.int .i64 lo) := fun n os => grown_cell hb' HG.out (hc' 3 _ rfl) n os
      have r4 : ∀ n os, (grow (wr.drewN n) os).cell? ⟨b', off' + k * 6 + 4, none⟩ = some (.int .i64 hi) := fun n os => grown_cell hb' HG.out (hc' 4 _ rfl) n os
      have r5 : ∀ n os, (grow (wr.drewN n) os).cell? ⟨b', off' + k * 6 + 5, none⟩ = some (.bool al) := fun n os => grown_cell hb' HG.out (hc' 5 _ rfl) n os
      have HE : Hid (∀ w, Calls Tryd.prog 80 #[.agg #[.int .i64 p, .int .i64 ip, .int .i64 bb, .int .i64 lo, .int .i64 hi, .bool al], .agg #[.int .i64 p, .int .i64 ip, .int .i64 bb, .int .i64 lo, .int .i64 hi, .bool al]] w fun e w' => e = .returned (.bool true) ∧ Grw w w') := fun w => eqRule_any _ _ _ _ _ _ w
      have hltz : (k : Int) < (len : Int) := by omega
      clear hc hc'
      go_wp2_with fail
      refine wp_region_quiet_grown (by assumption) (by kernel_rfl) ?_
      repeat (go_big_quiet_step (first | fail | (go_at_call 80; exact Calls.grown_of (HE.out _))))
      refine wpQuiet_nil ?_
      intro _ hw'
      obtain ⟨⟨nq, osq⟩, hw''⟩ := hw'
      subst hw''
      have HG2 : Hid (Grw w (grow (wr.drewN nq) osq)) := HG.out.trans ⟨nq, osq, rfl⟩
      clear q0 q1 q2 q3 q4 q5 r0 r1 r2 r3 r4 r5 HG HE
      go_wp2
      go_roundw
      case rel => exact ⟨k + 1, by omega, by go_num, HG2⟩
      case measure => simp [intOf]; omega
    · obtain rfl : k = len := by omega
      go_wp2
      go_ret
      exact ⟨rfl, HG.out⟩

set_option maxHeartbeats 1000000 in
theorem eqRole_yes (nm : ByteArray) (rs : List RuleV) (q m i : Int) (a a' : Option Addr) (len cap cap' : Nat) (w : World) (h : Rw RuR 6 w a rs) (h' : Rw RuR 6 w a' rs) (hl : rs.length = len) (hc : len ≤ 1048576) :
    Calls Tryd.prog 60 #[.agg #[.string nm, .slice a len cap, .int .i64 q, .int .i64 m, .int .i64 i], .agg #[.string nm, .slice a' len cap', .int .i64 q, .int .i64 m, .int .i64 i]] w fun e w' => e = .returned (.bool true) ∧ Grw w w' := by
  have RW : Hid (Rw RuR 6 w a rs) := h
  have RW' : Hid (Rw RuR 6 w a' rs) := h'
  have HA : Hid (∀ w, Rw RuR 6 w a rs → Rw RuR 6 w a' rs → Calls Tryd.prog 74 #[.slice a len cap, .slice a' len cap'] w fun e w' => e = .returned (.bool true) ∧ Grw w w') := fun w h h' => eqRuleS_yes a a' len cap cap' rs w h h' hl hc
  clear h h'
  have h0 : (nm.toList == nm.toList) = true := by simp
  have h1 : (q != q) = false := by simp
  have h2 : (m != m) = false := by simp
  have h3 : (i != i) = false := by simp
  go_enter Tryd.func60, Tryd.ntmps60
  go_wp2_with fail
  refine (HA.out _ (RW.out.keep RuR.kp (((Grw.refl w).alloc _).alloc _).below) (RW'.out.keep RuR.kp (((Grw.refl w).alloc _).alloc _).below)).mono ?_
  rintro e wx1 ⟨rfl, bx⟩
  have k0_0 : World.cell? _ ⟨w.heap.size, 0, none⟩ = some (.string nm) := bx.keep (a := ⟨w.heap.size, 0, none⟩) (v := .string nm) (by simp [go_sem])
  have k0_1 : World.cell? _ ⟨w.heap.size, 1, none⟩ = some (.slice a len cap) := bx.keep (a := ⟨w.heap.size, 1, none⟩) (v := .slice a len cap) (by simp [go_sem])
  have k0_2 : World.cell? _ ⟨w.heap.size, 2, none⟩ = some (.int .i64 q) := bx.keep (a := ⟨w.heap.size, 2, none⟩) (v := .int .i64 q) (by simp [go_sem])
  have k0_3 : World.cell? _ ⟨w.heap.size, 3, none⟩ = some (.int .i64 m) := bx.keep (a := ⟨w.heap.size, 3, none⟩) (v := .int .i64 m) (by simp [go_sem])
  have k0_4 : World.cell? _ ⟨w.heap.size, 4, none⟩ = some (.int .i64 i) := bx.keep (a := ⟨w.heap.size, 4, none⟩) (v := .int .i64 i) (by simp [go_sem])
  have k1_0 : World.cell? _ ⟨w.heap.size + 1, 0, none⟩ = some (.string nm) := bx.keep (a := ⟨w.heap.size + 1, 0, none⟩) (v := .string nm) (by simp [go_sem])
  have k1_1 : World.cell? _ ⟨w.heap.size + 1, 1, none⟩ = some (.slice a' len cap') := bx.keep (a := ⟨w.heap.size + 1, 1, none⟩) (v := .slice a' len cap') (by simp [go_sem])
  have k1_2 : World.cell? _ ⟨w.heap.size + 1, 2, none⟩ = some (.int .i64 q) := bx.keep (a := ⟨w.heap.size + 1, 2, none⟩) (v := .int .i64 q) (by simp [go_sem])
  have k1_3 : World.cell? _ ⟨w.heap.size + 1, 3, none⟩ = some (.int .i64 m) := bx.keep (a := ⟨w.heap.size + 1, 3, none⟩) (v := .int .i64 m) (by simp [go_sem])
  have k1_4 : World.cell? _ ⟨w.heap.size + 1, 4, none⟩ = some (.int .i64 i) := bx.keep (a := ⟨w.heap.size + 1, 4, none⟩) (v := .int .i64 i) (by simp [go_sem])
  have BX : Hid (Grw w _) := (((Grw.refl _).alloc _).alloc _).trans bx
  clear bx
  go_wp2
  go_ret
  exact ⟨rfl, BX.out⟩

end Go.Proofs.YtbeehlhcckndcaaDoor

namespace Go.Proofs.YtbeehlhcckndcaaDoor
open Go.RowKit Go.PlainAid Go.Proofs.YtbeehlhcckndcaaDoor.Bt Go.Sort
set_option linter.unusedVariables false
set_option maxRecDepth 20000

end Go.Proofs.YtbeehlhcckndcaaDoor

namespace Go.Proofs.YtbeehlhcckndcaaDoor
open Go.RowKit Go.PlainAid Go.Proofs.YtbeehlhcckndcaaDoor.Bt Go.Sort
set_option linter.unusedVariables false
set_option maxRecDepth 20000

/-- What the numbers of a list of roles allow. -/
def SzR (ros : List RoleV) : Prop := ∀ r ∈ ros, r.nm.size ≤ 1048576 ∧ r.rs.length ≤ 1048576
end Go.Proofs.YtbeehlhcckndcaaDoor
