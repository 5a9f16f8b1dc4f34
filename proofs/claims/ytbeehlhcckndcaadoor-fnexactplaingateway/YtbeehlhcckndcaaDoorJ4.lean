/- Guests in the laws: measured, copied, compared. Lists of users, sessions, fails and records marked and held. Lists of users, sessions, fails and records copied by the laws into rows of one's own. Append and slices.Clone of users, sessions, fails and records. -/
import Derived.Test.YtbeehlhcckndcaaDoorJ2
import Derived.Test.YtbeehlhcckndcaaDoorJ1
import Derived.Test.YtbeehlhcckndcaaDoorJ3
namespace Go.Proofs.YtbeehlhcckndcaaDoor
open Go.RowKit Go.PlainAid Go.Proofs.YtbeehlhcckndcaaDoor.Bt Go.Sort
set_option linter.unusedVariables false
set_option maxRecDepth 20000
/-- How much a list holds. -/
def szL {α : Type} (wt : α → Int) (xs : List α) : Int := xs.foldr (fun r n => wt r + n) 0
section Sz
variable {α : Type} {wt : α → Int}
end Sz
def wtUser (u : UserV) : Int := (u.nm.size : Int) + (u.sa.size : Int) + (u.ha.size : Int) + (u.ro.size : Int)
def wtSession (u : SessV) : Int := (u.mc.size : Int)
def wtFail (u : FailV) : Int := (u.mc.size : Int)
set_option maxHeartbeats 2000000 in
theorem eqGuests_yes (ua sa fa ra ub sb fb rb : Option Addr) (ul uc ud sl sc sd fl fc fd rl rc rd : Nat) (us : List UserV) (ss : List SessV) (fs : List FailV) (rs : List RecV) (nx : Int) (w : World) (hu : Rw UsR 6 w ua us) (ku : Rw UsR 6 w ub us) (lu : us.length = ul) (hs : Rw SeR 10 w sa ss) (ks : Rw SeR 10 w sb ss) (ls : ss.length = sl) (hf : Rw FaR 3 w fa fs) (kf : Rw FaR 3 w fb fs) (lf : fs.length = fl) (hr : Rw ReR 5 w ra rs) (kr : Rw ReR 5 w rb rs) (lr : rs.length = rl) (bu : ul ≤ 9223372036854775807) (bs : sl ≤ 9223372036854775807) (bf : fl ≤ 9223372036854775807) (br : rl ≤ 9223372036854775807) :
    Calls Tryd.prog 15 #[.agg #[.slice ua ul uc, .slice sa sl sc, .slice fa fl fc, .slice ra rl rc, .int .i64 nx], .agg #[.slice ub ul ud, .slice sb sl sd, .slice fb fl fd, .slice rb rl rd, .int .i64 nx]] w fun e w' => e = .returned (.bool true) ∧ Grw w w' := by
  have Ru : Hid (Rw UsR 6 w ua us ∧ Rw UsR 6 w ub us) := ⟨hu, ku⟩
  have Rs : Hid (Rw SeR 10 w sa ss ∧ Rw SeR 10 w sb ss) := ⟨hs, ks⟩
  have Rf : Hid (Rw FaR 3 w fa fs ∧ Rw FaR 3 w fb fs) := ⟨hf, kf⟩
  have Rr : Hid (Rw ReR 5 w ra rs ∧ Rw ReR 5 w rb rs) := ⟨hr, kr⟩
  have Hu : Hid (∀ w, Rw UsR 6 w ua us → Rw UsR 6 w ub us → Calls Tryd.prog 35 #[.slice ua ul uc, .slice ub ul ud] w fun e w' => e = .returned (.bool true) ∧ Grw w w') := fun w h h' => eqUserS_yes ua ub ul uc ud us w h h' lu bu
  have Hs : Hid (∀ w, Rw SeR 10 w sa ss → Rw SeR 10 w sb ss → Calls Tryd.prog 36 #[.slice sa sl sc, .slice sb sl sd] w fun e w' => e = .returned (.bool true) ∧ Grw w w') := fun w h h' => eqSessionS_yes sa sb sl sc sd ss w h h' ls bs
  have Hf : Hid (∀ w, Rw FaR 3 w fa fs → Rw FaR 3 w fb fs → Calls Tryd.prog 37 #[.slice fa fl fc, .slice fb fl fd] w fun e w' => e = .returned (.bool true) ∧ Grw w w') := fun w h h' => eqFailS_yes fa fb fl fc fd fs w h h' lf bf
  have Hr : Hid (∀ w, Rw ReR 5 w ra rs → Rw ReR 5 w rb rs → Calls Tryd.prog 38 #[.slice ra rl rc, .slice rb rl rd] w fun e w' => e = .returned (.bool true) ∧ Grw w w') := fun w h h' => eqRecordS_yes ra rb rl rc rd rs w h h' lr br
  clear hu hs hf hr ku ks kf kr
  have n0 : (nx != nx) = false := by simp
  go_enter Tryd.func15, Tryd.ntmps15
  go_wp2_with fail
  refine (Hu.out _ (Ru.out.1.keep UsR.kp (((Grw.refl w).alloc _).alloc _).below) (Ru.out.2.keep UsR.kp (((Grw.refl w).alloc _).alloc _).below)).mono ?_
  rintro e wx1 ⟨rfl, bx⟩
  have k0_0 : World.cell? _ ⟨w.heap.size, 0, none⟩ = some (.slice ua ul uc) := bx.keep (a := ⟨w.heap.size, 0, none⟩) (v := .slice ua ul uc) (by simp [go_sem])
  have k0_1 : World.cell? _ ⟨w.heap.size, 1, none⟩ = some (.slice sa sl sc) := bx.keep (a := ⟨w.heap.size, 1, none⟩) (v := .slice sa sl sc) (by simp [go_sem])
  have k0_2 : World.cell? _ ⟨w.heap.size, 2, none⟩ = some (.slice fa fl fc) := bx.keep (a := ⟨w.heap.size, 2, none⟩) (v := .slice fa fl fc) (by simp [go_sem])
  have k0_3 : World.cell? _ ⟨w.heap.size, 3, none⟩ = some (.slice ra rl rc) := bx.keep (a := ⟨w.heap.size, 3, none⟩) (v := .slice ra rl rc) (by simp [go_sem])
  have k0_4 : World.cell? _ ⟨w.heap.size, 4, none⟩ = some (.int .i64 nx) := bx.keep (a := ⟨w.heap.size, 4, none⟩) (v := .int .i64 nx) (by simp [go_sem])
  have k1_0 : World.cell? _ ⟨w.heap.size + 1, 0, none⟩ = some (.slice ub ul ud) := bx.keep (a := ⟨w.heap.size + 1, 0, none⟩) (v := .slice ub ul ud) (by simp [go_sem])
  have k1_1 : World.cell? _ ⟨w.heap.size + 1, 1, none⟩ = some (.slice sb sl sd) := bx.keep (a := ⟨w.heap.size + 1, 1, none⟩) (v := .slice sb sl sd) (by simp [go_sem])
  have k1_2 : World.cell? _ ⟨w.heap.size + 1, 2, none⟩ = some (.slice fb fl fd) := bx.keep (a := ⟨w.heap.size + 1, 2, none⟩) (v := .slice fb fl fd) (by simp [go_sem])
  have k1_3 : World.cell? _ ⟨w.heap.size + 1, 3, none⟩ = some (.slice rb rl rd) := bx.keep (a := ⟨w.heap.size + 1, 3, none⟩) (v := .slice rb rl rd) (by simp [go_sem])
  have k1_4 : World.cell? _ ⟨w.heap.size + 1, 4, none⟩ = some (.int .i64 nx) := bx.keep (a := ⟨w.heap.size + 1, 4, none⟩) (v := .int .i64 nx) (by simp [go_sem])
  have BX : Hid (Grw w _) := (((Grw.refl _).alloc _).alloc _).trans bx
  clear bx
  go_wp2_with fail
  refine (Hs.out _ (Rs.out.1.keep SeR.kp BX.out.below) (Rs.out.2.keep SeR.kp BX.out.below)).mono ?_
  rintro e wx2 ⟨rfl, bx⟩
  replace k0_0 := bx.keep k0_0
  replace k0_1 := bx.keep k0_1
  replace k0_2 := bx.keep k0_2
  replace k0_3 := bx.keep k0_3
  replace k0_4 := bx.keep k0_4
  replace k1_0 := bx.keep k1_0
  replace k1_1 := bx.keep k1_1
  replace k1_2 := bx.keep k1_2
  replace k1_3 := bx.keep k1_3
  replace k1_4 := bx.keep k1_4
  replace BX : Hid (Grw w _) := BX.out.trans bx
  clear bx
  go_wp2_with fail
  refine (Hf.out _ (Rf.out.1.keep FaR.kp BX.out.below) (Rf.out.2.keep FaR.kp BX.out.below)).mono ?_
  rintro e wx3 ⟨rfl, bx⟩
  replace k0_0 := bx.keep k0_0
  replace k0_1 := bx.keep k0_1
  replace k0_2 := bx.keep k0_2
  replace k0_3 := bx.keep k0_3
  replace k0_4 := bx.keep k0_4
  replace k1_0 := bx.keep k1_0
  replace k1_1 := bx.keep k1_1
  replace k1_2 := bx.keep k1_2
  replace k1_3 := bx.keep k1_3
  replace k1_4 := bx.keep k1_4
  replace BX : Hid (Grw w _) := BX.out.trans bx
  clear bx
  go_wp2_with fail
  refine (Hr.out _ (Rr.out.1.keep ReR.kp BX.out.below) (Rr.out.2.keep ReR.kp BX.out.below)).mono ?_
  rintro e wx4 ⟨rfl, bx⟩
  replace k0_0 := bx.keep k0_0
  replace k0_1 := bx.keep k0_1
  replace k0_2 := bx.keep k0_2
  replace k0_3 := bx.keep k0_3
  replace k0_4 := bx.keep k0_4
  replace k1_0 := bx.keep k1_0
  replace k1_1 := bx.keep k1_1
  replace k1_2 := bx.keep k1_2
  replace k1_3 := bx.keep k1_3
  replace k1_4 := bx.keep k1_4
  replace BX : Hid (Grw w _) := BX.out.trans bx
  clear bx
  go_wp2
  go_ret
  exact ⟨rfl, BX.out⟩

end Go.Proofs.YtbeehlhcckndcaaDoor

namespace Go.Proofs.YtbeehlhcckndcaaDoor
open Go.RowKit Go.PlainAid Go.Proofs.YtbeehlhcckndcaaDoor.Bt Go.Sort
set_option linter.unusedVariables false
set_option maxRecDepth 20000
theorem uvG_len (u : UserV) : (uvG u).length = 6 := rfl
theorem svG_len (u : SessV) : (svG u).length = 10 := rfl
theorem fvG_len (u : FailV) : (fvG u).length = 3 := rfl
theorem evG_len (u : RecV) : (evG u).length = 5 := rfl
/-- What is marked. -/
def mkUser (M : Nat) : UserV := ⟨mtS M, mtS (M + 1), mtS (M + 2), mtS (M + 3), (M : Int) + 1 + 1 + 1 + 1, (M : Int) + 1 + 1 + 1 + 1 + 1⟩
def mkUserL (m0 n : Nat) : List UserV := (List.range n).map (fun k => mkUser (m0 + 6 * k))
theorem mkUserL_len (m0 n : Nat) : (mkUserL m0 n).length = n := by simp [mkUserL]
theorem mkUserL_at (m0 n i : Nat) (h : i < n) : (mkUserL m0 n)[i]? = some (mkUser (m0 + 6 * i)) := by rw [mkUserL, List.getElem?_map, List.getElem?_range h]; rfl
theorem mkUser_ok (M : Nat) (h : M + 6 ≤ 1000000000000) : UsRok (mkUser M) := by
  unfold UsRok mkUser
  dsimp only
  exact ⟨Nat.le_trans (mtS_len _ (by omega)) (by unfold maxLen; omega), Nat.le_trans (mtS_len _ (by omega)) (by unfold maxLen; omega), Nat.le_trans (mtS_len _ (by omega)) (by unfold maxLen; omega), Nat.le_trans (mtS_len _ (by omega)) (by unfold maxLen; omega), int_wf9 (by omega) (by omega), int_wf9 (by omega) (by omega)⟩
theorem mkUserL_ok (m0 n : Nat) (h : m0 + 6 * n ≤ 1000000000000) : ∀ x, x ∈ mkUserL m0 n → UsRok x := by
  intro x hx
  unfold mkUserL at hx
  simp at hx
  obtain ⟨i, hi, rfl⟩ := hx
  exact mkUser_ok _ (by omega)
def mkUser_0 (x : UserV) (M : Nat) : UserV := { x with nm := mtS M }
def mkUser_1 (x : UserV) (M : Nat) : UserV := { mkUser_0 x M with sa := mtS (M + 1) }
def mkUser_2 (x : UserV) (M : Nat) : UserV := { mkUser_1 x M with ha := mtS (M + 2) }
def mkUser_3 (x : UserV) (M : Nat) : UserV := { mkUser_2 x M with ro := mtS (M + 3) }
def mkUser_4 (x : UserV) (M : Nat) : UserV := { mkUser_3 x M with bl := (M : Int) + 1 + 1 + 1 + 1 }
def mkUser_5 (x : UserV) (M : Nat) : UserV := { mkUser_4 x M with lg := (M : Int) + 1 + 1 + 1 + 1 + 1 }
set_option maxHeartbeats 4000000 in
theorem markUserS_any (a : Option Addr) (n cap B m0 : Nat) (L : List UserV) (w : World) (h : OwnS uvG 6 46 w B (.slice a n cap) L) (h0 : 0 < m0) (hm : m0 + 6 * n ≤ 100000000000) :
    Calls Tryd.prog 43 #[.slice a n cap, .int .i64 (m0 : Int)] w fun e w' => e = .returned (.int .i64 ((m0 + 6 * n : Nat) : Int)) ∧ OwnS uvG 6 46 w' B (.slice a n cap) (mkUserL m0 n) ∧ w.grownBy w' (Value.slice a n cap).ownBlock := by
  have H : Hid (OwnS uvG 6 46 w B (.slice a n cap) L) := h
  have hn := h.len
  have hlen : n ≤ 100000000000 := by omega
  clear h
  go_enter Tryd.func43, Tryd.ntmps43
  go_wp2
  go_loopw [1, 5] (fun m i wr => ∃ (k M : Nat) (L' : List UserV), k ≤ n ∧ i = .int .i64 k ∧ m = .int .i64 (M : Int) ∧ Hid (M = m0 + 6 * k) ∧ Hid (OwnS uvG 6 46 wr B (.slice a n cap) L' ∧ L'.length = n ∧ L'.take k = (mkUserL m0 n).take k ∧ w.grownBy wr (Value.slice a n cap).ownBlock)) (fun _ i _ => n - (intOf i).toNat)
  case atStart => exact ⟨0, m0, L, Nat.zero_le _, rfl, rfl, by show m0 = _; omega, H.out, hn, rfl, grown_refl w _⟩
  case round =>
    obtain ⟨k, M, L', hk, rfl, rfl, hM, X⟩ := hrel
    by_cases hlt : k < n
    · obtain ⟨g, rfl, hBg, hg, -⟩ := X.out.1.form (by rw [X.out.2.1]; omega)
      obtain ⟨x, hx⟩ := at_of (k := k) X.out.2.1 hlt
      have hltz : (k : Int) < (n : Int) := by omega
      have hMz : (M : Int) ≤ 200000000000 := by have := hM.out; omega
      have hM0 : 0 < M := by have := hM.out; omega
      have G0 : Hid (w.grownBy wr (some g)) := X.out.2.2.2
      have o0 := X.out.1
      have hT : Hid (L'.length = n ∧ L'.take k = (mkUserL m0 n).take k) := ⟨X.out.2.1, X.out.2.2.1⟩
      clear X
      have HM0 : Hid (∀ w, Calls Tryd.prog 47 #[.int .i64 ((M : Int))] w fun e w' => e = .returned (.string (mtS (M))) ∧ Grw w w') := fun w => by
        have := markText_any (M) w (by omega) (by omega)
        exact this
      go_wp2_with fail
      refine (HM0.out _).mono ?_
      rintro e wt0 ⟨rfl, gt0⟩
      have ot0 := o0.now gt0.below
      have Gt0 : Hid (w.grownBy wt0 (some g)) := grown_tr G0.out (gt0.grown _)
      clear HM0 gt0 o0 G0
      obtain ⟨c0, z0⟩ := ot0.cell uvG_len (j := 0) hx rfl
      replace c0 : wt0.cell? ⟨g, k * 6, none⟩ = some (.string x.nm) := c0
      replace z0 : wt0.frozen? ⟨g, k * 6, none⟩ = false := z0
      have s0 := ot0.set1 uvG_len (j := 0) (y := (mkUser_0 x M)) (u := .string (mtS M)) hx (by omega) rfl
      have hx0 : (L'.set k (mkUser_0 x M))[k]? = some (mkUser_0 x M) := List.getElem?_set_self (by rw [hT.out.1]; exact hlt)
      have Z0 : Hid (OwnS uvG 6 46 (wt0.setCell ⟨g, k * 6, none⟩ (.string (mtS M))) B (.slice (some ⟨g, 0, none⟩) n cap) (L'.set k (mkUser_0 x M)) ∧ w.grownBy (wt0.setCell ⟨g, k * 6, none⟩ (.string (mtS M))) (some g)) := ⟨s0.1, (grown_tr Gt0.out s0.2)⟩
      have hy0 : Hid ((L'.set k (mkUser_0 x M))[k]? = some (mkUser_0 x M)) := hx0
      clear ot0 Gt0 s0 hx0 hx
      have HM1 : Hid (∀ w, Calls Tryd.prog 47 #[.int .i64 ((M : Int) + 1)] w fun e w' => e = .returned (.string (mtS (M + 1))) ∧ Grw w w') := fun w => by
        have := markText_any (M + 1) w (by omega) (by omega)
        rw [show ((M + 1 : Nat) : Int) = (M : Int) + 1 by omega] at this
        exact this
      go_wp2_with fail
      refine (HM1.out _).mono ?_
      rintro e wt1 ⟨rfl, gt1⟩
      clear c0 z0
      have ot1 := Z0.out.1.now gt1.below
      have Gt1 : Hid (w.grownBy wt1 (some g)) := grown_tr Z0.out.2 (gt1.grown _)
      clear HM1 gt1 Z0
      obtain ⟨c1, z1⟩ := ot1.cell uvG_len (j := 1) hy0.out rfl
      have s1 := ot1.set1 uvG_len (j := 1) (y := (mkUser_1 x M)) (u := .string (mtS (M + 1))) hy0.out (by omega) rfl
      rw [List.set_set] at s1
      have hx1 : (L'.set k (mkUser_1 x M))[k]? = some (mkUser_1 x M) := List.getElem?_set_self (by rw [hT.out.1]; exact hlt)
      have Z1 : Hid (OwnS uvG 6 46 (wt1.setCell ⟨g, k * 6 + 1, none⟩ (.string (mtS (M + 1)))) B (.slice (some ⟨g, 0, none⟩) n cap) (L'.set k (mkUser_1 x M)) ∧ w.grownBy (wt1.setCell ⟨g, k * 6 + 1, none⟩ (.string (mtS (M + 1)))) (some g)) := ⟨s1.1, (grown_tr Gt1.out s1.2)⟩
      have hy1 : Hid ((L'.set k (mkUser_1 x M))[k]? = some (mkUser_1 x M)) := hx1
      clear ot1 Gt1 s1 hx1 
      have HM2 : Hid (∀ w, Calls Tryd.prog 47 #[.int .i64 ((M : Int) + 1 + 1)] w fun e w' => e = .returned (.string (mtS (M + 2))) ∧ Grw w w') := fun w => by
        have := markText_any (M + 2) w (by omega) (by omega)
        rw [show ((M + 2 : Nat) : Int) = (M : Int) + 1 + 1 by omega] at this
        exact this
      go_wp2_with fail
      refine (HM2.out _).mono ?_
      rintro e wt2 ⟨rfl, gt2⟩
      clear c1 z1
      have ot2 := Z1.out.1.now gt2.below
      have Gt2 : Hid (w.grownBy wt2 (some g)) := grown_tr Z1.out.2 (gt2.grown _)
      clear HM2 gt2 Z1
      obtain ⟨c2, z2⟩ := ot2.cell uvG_len (j := 2) hy1.out rfl
      have s2 := ot2.set1 uvG_len (j := 2) (y := (mkUser_2 x M)) (u := .string (mtS (M + 2))) hy1.out (by omega) rfl
      rw [List.set_set] at s2
      have hx2 : (L'.set k (mkUser_2 x M))[k]? = some (mkUser_2 x M) := List.getElem?_set_self (by rw [hT.out.1]; exact hlt)
      have Z2 : Hid (OwnS uvG 6 46 (wt2.setCell ⟨g, k * 6 + 2, none⟩ (.string (mtS (M + 2)))) B (.slice (some ⟨g, 0, none⟩) n cap) (L'.set k (mkUser_2 x M)) ∧ w.grownBy (wt2.setCell ⟨g, k * 6 + 2, none⟩ (.string (mtS (M + 2)))) (some g)) := ⟨s2.1, (grown_tr Gt2.out s2.2)⟩
      have hy2 : Hid ((L'.set k (mkUser_2 x M))[k]? = some (mkUser_2 x M)) := hx2
      clear ot2 Gt2 s2 hx2 
      have HM3 : Hid (∀ w, Calls Tryd.prog 47 #[.int .i64 ((M : Int) + 1 + 1 + 1)] w fun e w' => e = .returned (.string (mtS (M + 3))) ∧ Grw w w') := fun w => by
        have := markText_any (M + 3) w (by omega) (by omega)
        rw [show ((M + 3 : Nat) : Int) = (M : Int) + 1 + 1 + 1 by omega] at this
        exact this
      go_wp2_with fail
      refine (HM3.out _).mono ?_
      rintro e wt3 ⟨rfl, gt3⟩
      clear c2 z2
      have ot3 := Z2.out.1.now gt3.below
      have Gt3 : Hid (w.grownBy wt3 (some g)) := grown_tr Z2.out.2 (gt3.grown _)
      clear HM3 gt3 Z2
      obtain ⟨c3, z3⟩ := ot3.cell uvG_len (j := 3) hy2.out rfl
      obtain ⟨c4, z4⟩ := ot3.cell uvG_len (j := 4) hy2.out rfl
      obtain ⟨c5, z5⟩ := ot3.cell uvG_len (j := 5) hy2.out rfl
      have s3 := ot3.set1 uvG_len (j := 3) (y := (mkUser_3 x M)) (u := .string (mtS (M + 3))) hy2.out (by omega) rfl
      rw [List.set_set] at s3
      have hx3 : (L'.set k (mkUser_3 x M))[k]? = some (mkUser_3 x M) := List.getElem?_set_self (by rw [hT.out.1]; exact hlt)
      have s4 := s3.1.set1 uvG_len (j := 4) (y := (mkUser_4 x M)) (u := .int .i64 ((M : Int) + 1 + 1 + 1 + 1)) hx3 (by omega) rfl
      rw [List.set_set] at s4
      have hx4 : (L'.set k (mkUser_4 x M))[k]? = some (mkUser_4 x M) := List.getElem?_set_self (by rw [hT.out.1]; exact hlt)
      have s5 := s4.1.set1 uvG_len (j := 5) (y := (mkUser_5 x M)) (u := .int .i64 ((M : Int) + 1 + 1 + 1 + 1 + 1)) hx4 (by omega) rfl
      rw [List.set_set] at s5
      have hx5 : (L'.set k (mkUser_5 x M))[k]? = some (mkUser_5 x M) := List.getElem?_set_self (by rw [hT.out.1]; exact hlt)
      have Z3 : Hid (OwnS uvG 6 46 (((wt3.setCell ⟨g, k * 6 + 3, none⟩ (.string (mtS (M + 3)))).setCell ⟨g, k * 6 + 4, none⟩ (.int .i64 ((M : Int) + 1 + 1 + 1 + 1))).setCell ⟨g, k * 6 + 5, none⟩ (.int .i64 ((M : Int) + 1 + 1 + 1 + 1 + 1))) B (.slice (some ⟨g, 0, none⟩) n cap) (L'.set k (mkUser_5 x M)) ∧ w.grownBy (((wt3.setCell ⟨g, k * 6 + 3, none⟩ (.string (mtS (M + 3)))).setCell ⟨g, k * 6 + 4, none⟩ (.int .i64 ((M : Int) + 1 + 1 + 1 + 1))).setCell ⟨g, k * 6 + 5, none⟩ (.int .i64 ((M : Int) + 1 + 1 + 1 + 1 + 1))) (some g)) := ⟨s5.1, (grown_tr (grown_tr (grown_tr Gt3.out s3.2) s4.2) s5.2)⟩
      have hy3 : Hid ((L'.set k (mkUser_5 x M))[k]? = some (mkUser_5 x M)) := hx5
      clear ot3 Gt3 s3 hx3 s4 hx4 s5 hx5 
      have eUser : (mkUser_5 x M) = mkUser M := rfl
      rw [eUser] at Z3
      have YY : Hid (OwnS uvG 6 46 (((wt3.setCell ⟨g, k * 6 + 3, none⟩ (.string (mtS (M + 3)))).setCell ⟨g, k * 6 + 4, none⟩ (.int .i64 ((M : Int) + 1 + 1 + 1 + 1))).setCell ⟨g, k * 6 + 5, none⟩ (.int .i64 ((M : Int) + 1 + 1 + 1 + 1 + 1))) B (.slice (some ⟨g, 0, none⟩) n cap) (L'.set k (mkUser M)) ∧ (L'.set k (mkUser M)).length = n ∧ (L'.set k (mkUser M)).take (k + 1) = (mkUserL m0 n).take (k + 1) ∧ w.grownBy (((wt3.setCell ⟨g, k * 6 + 3, none⟩ (.string (mtS (M + 3)))).setCell ⟨g, k * 6 + 4, none⟩ (.int .i64 ((M : Int) + 1 + 1 + 1 + 1))).setCell ⟨g, k * 6 + 5, none⟩ (.int .i64 ((M : Int) + 1 + 1 + 1 + 1 + 1))) (some g)) := ⟨Z3.out.1, by rw [List.length_set]; exact hT.out.1, takeS_set (by rw [hT.out.1, mkUserL_len]) (by rw [mkUserL_at m0 n k hlt, hM.out]) hT.out.2, Z3.out.2⟩
      clear Z3 hT hy0 hy1 hy2 hy3
      go_wp2
      go_roundw
      case rel => exact ⟨k + 1, M + 6, _, by omega, by go_num, by go_num, (show M + 6 = m0 + 6 * (k + 1) by have := hM.out; omega), YY⟩
      case measure => simp [intOf]; omega
    · obtain rfl : k = n := by omega
      have e1 : L' = mkUserL m0 k := by
        have := X.out.2.2.1
        rwa [List.take_of_length_le (by rw [X.out.2.1]; exact Nat.le_refl _), List.take_of_length_le (by rw [mkUserL_len]; exact Nat.le_refl _)] at this
      subst e1
      have hM2 := hM.out
      subst hM2
      go_wp2
      go_ret
      exact ⟨rfl, X.out.1, X.out.2.2.2⟩
set_option maxHeartbeats 4000000 in
theorem heldUserS_any (a : Option Addr) (n cap m0 : Nat) (w : World) (h : Rw UsR 6 w a (mkUserL m0 n)) (h0 : 0 < m0) (hm : m0 + 6 * n ≤ 100000000000) :
    Calls Tryd.prog 50 #[.slice a n cap, .int .i64 (m0 : Int)] w fun e w' => e = .returned (.int .i64 ((m0 + 6 * n : Nat) : Int)) ∧ Grw w w' := by
  have H : Hid (Rw UsR 6 w a (mkUserL m0 n)) := h
  have hlen : n ≤ 100000000000 := by omega
  clear h
  have hmix : Tryd.prog.follows .mixedOrders = true := by kernel_rfl
  go_enter Tryd.func50, Tryd.ntmps50
  go_wp2
  go_loopw [1, 5] (fun m i wr => ∃ k M : Nat, k ≤ n ∧ i = .int .i64 k ∧ m = .int .i64 (M : Int) ∧ Hid (M = m0 + 6 * k) ∧ Hid (Grw w wr)) (fun _ i _ => n - (intOf i).toNat)
  case atStart => exact ⟨0, m0, Nat.zero_le _, rfl, rfl, by show m0 = _; omega, Grw.refl w⟩
  case round =>
    obtain ⟨k, M, hk, rfl, rfl, hM, HG⟩ := hrel
    by_cases hlt : k < n
    · obtain ⟨b, off, vs, rfl, hb, hvl, hR, hc⟩ := H.out.at UsR.kp HG.out.below (mkUserL_at m0 n k hlt)
      rw [← hM.out] at hR
      obtain ⟨rfl, -⟩ := hR
      have hltz : (k : Int) < (n : Int) := by omega
      have hMz : (M : Int) ≤ 200000000000 := by have := hM.out; omega
      have hM0 : 0 < M := by have := hM.out; omega
      have q0 : wr.cell? ⟨b, off + k * 6, none⟩ = some (.string (mtS M)) := hc 0 _ rfl
      have q1 : wr.cell? ⟨b, off + k * 6 + 1, none⟩ = some (.string (mtS (M + 1))) := hc 1 _ rfl
      have q2 : wr.cell? ⟨b, off + k * 6 + 2, none⟩ = some (.string (mtS (M + 2))) := hc 2 _ rfl
      have q3 : wr.cell? ⟨b, off + k * 6 + 3, none⟩ = some (.string (mtS (M + 3))) := hc 3 _ rfl
      have q4 : wr.cell? ⟨b, off + k * 6 + 4, none⟩ = some (.int .i64 ((M : Int) + 1 + 1 + 1 + 1)) := hc 4 _ rfl
      have q5 : wr.cell? ⟨b, off + k * 6 + 5, none⟩ = some (.int .i64 ((M : Int) + 1 + 1 + 1 + 1 + 1)) := hc 5 _ rfl
      clear hc hvl
      have e4 : (((M : Int) + 1 + 1 + 1 + 1) != ((M : Int) + 1 + 1 + 1 + 1)) = false := by simp
      have e5 : (((M : Int) + 1 + 1 + 1 + 1 + 1) != ((M : Int) + 1 + 1 + 1 + 1 + 1)) = false := by simp
      have HM0 : Hid (∀ w, Calls Tryd.prog 47 #[.int .i64 ((M : Int))] w fun e w' => e = .returned (.string (mtS (M))) ∧ Grw w w') := fun w => by
        have := markText_any (M) w (by omega) (by omega)
        exact this
      generalize mtS (M) = T0 at *
      have t0 : (T0.toList == T0.toList) = true := by simp
      have HM1 : Hid (∀ w, Calls Tryd.prog 47 #[.int .i64 ((M : Int) + 1)] w fun e w' => e = .returned (.string (mtS (M + 1))) ∧ Grw w w') := fun w => by
        have := markText_any (M + 1) w (by omega) (by omega)
        rw [show ((M + 1 : Nat) : Int) = (M : Int) + 1 by omega] at this
        exact this
      generalize mtS (M + 1) = T1 at *
      have t1 : (T1.toList == T1.toList) = true := by simp
      have HM2 : Hid (∀ w, Calls Tryd.prog 47 #[.int .i64 ((M : Int) + 1 + 1)] w fun e w' => e = .returned (.string (mtS (M + 2))) ∧ Grw w w') := fun w => by
        have := markText_any (M + 2) w (by omega) (by omega)
        rw [show ((M + 2 : Nat) : Int) = (M : Int) + 1 + 1 by omega] at this
        exact this
      generalize mtS (M + 2) = T2 at *
      have t2 : (T2.toList == T2.toList) = true := by simp
      have HM3 : Hid (∀ w, Calls Tryd.prog 47 #[.int .i64 ((M : Int) + 1 + 1 + 1)] w fun e w' => e = .returned (.string (mtS (M + 3))) ∧ Grw w w') := fun w => by
        have := markText_any (M + 3) w (by omega) (by omega)
        rw [show ((M + 3 : Nat) : Int) = (M : Int) + 1 + 1 + 1 by omega] at this
        exact this
      generalize mtS (M + 3) = T3 at *
      have t3 : (T3.toList == T3.toList) = true := by simp
      have y0 : ∀ n os, (grow (wr.drewN n) os).cell? ⟨b, off + k * 6, none⟩ = some (.string T0) := fun n os => bkeep (Grw.below ⟨n, os, rfl⟩) q0
      go_wp2_with fail
      refine wp_region_quiet_grown (by assumption) (by kernel_rfl) ?_
      repeat (go_big_quiet_step (first | fail | (go_at_call 47; exact Calls.grown_of (HM0.out _))))
      refine wpQuiet_nil ?_
      intro _ hw'
      obtain ⟨⟨nq, osq⟩, hw''⟩ := hw'
      subst hw''
      have HG0 : Hid (Grw w (grow (wr.drewN nq) osq)) := HG.out.trans ⟨nq, osq, rfl⟩
      replace q1 : (grow (wr.drewN nq) osq).cell? ⟨b, off + k * 6 + 1, none⟩ = some (.string T1) := bkeep (Grw.below ⟨nq, osq, rfl⟩) q1
      replace q2 : (grow (wr.drewN nq) osq).cell? ⟨b, off + k * 6 + 2, none⟩ = some (.string T2) := bkeep (Grw.below ⟨nq, osq, rfl⟩) q2
      replace q3 : (grow (wr.drewN nq) osq).cell? ⟨b, off + k * 6 + 3, none⟩ = some (.string T3) := bkeep (Grw.below ⟨nq, osq, rfl⟩) q3
      replace q4 : (grow (wr.drewN nq) osq).cell? ⟨b, off + k * 6 + 4, none⟩ = some (.int .i64 ((M : Int) + 1 + 1 + 1 + 1)) := bkeep (Grw.below ⟨nq, osq, rfl⟩) q4
      replace q5 : (grow (wr.drewN nq) osq).cell? ⟨b, off + k * 6 + 5, none⟩ = some (.int .i64 ((M : Int) + 1 + 1 + 1 + 1 + 1)) := bkeep (Grw.below ⟨nq, osq, rfl⟩) q5
      clear y0 q0 HM0
      generalize (grow (wr.drewN nq) osq) = wv0 at *
      have y1 : ∀ n os, (grow (wv0.drewN n) os).cell? ⟨b, off + k * 6 + 1, none⟩ = some (.string T1) := fun n os => bkeep (Grw.below ⟨n, os, rfl⟩) q1
      go_wp2_with fail
      refine wp_region_quiet_grown (by assumption) (by kernel_rfl) ?_
      repeat (go_big_quiet_step (first | fail | (go_at_call 47; exact Calls.grown_of (HM1.out _))))
      refine wpQuiet_nil ?_
      intro _ hw'
      obtain ⟨⟨nq, osq⟩, hw''⟩ := hw'
      subst hw''
      have HG1 : Hid (Grw w (grow (wv0.drewN nq) osq)) := HG0.out.trans ⟨nq, osq, rfl⟩
      replace q2 : (grow (wv0.drewN nq) osq).cell? ⟨b, off + k * 6 + 2, none⟩ = some (.string T2) := bkeep (Grw.below ⟨nq, osq, rfl⟩) q2
      replace q3 : (grow (wv0.drewN nq) osq).cell? ⟨b, off + k * 6 + 3, none⟩ = some (.string T3) := bkeep (Grw.below ⟨nq, osq, rfl⟩) q3
      replace q4 : (grow (wv0.drewN nq) osq).cell? ⟨b, off + k * 6 + 4, none⟩ = some (.int .i64 ((M : Int) + 1 + 1 + 1 + 1)) := bkeep (Grw.below ⟨nq, osq, rfl⟩) q4
      replace q5 : (grow (wv0.drewN nq) osq).cell? ⟨b, off + k * 6 + 5, none⟩ = some (.int .i64 ((M : Int) + 1 + 1 + 1 + 1 + 1)) := bkeep (Grw.below ⟨nq, osq, rfl⟩) q5
      clear y1 q1 HM1
      generalize (grow (wv0.drewN nq) osq) = wv1 at *
      have y2 : ∀ n os, (grow (wv1.drewN n) os).cell? ⟨b, off + k * 6 + 2, none⟩ = some (.string T2) := fun n os => bkeep (Grw.below ⟨n, os, rfl⟩) q2
      go_wp2_with fail
      refine wp_region_quiet_grown (by assumption) (by kernel_rfl) ?_
      repeat (go_big_quiet_step (first | fail | (go_at_call 47; exact Calls.grown_of (HM2.out _))))
      refine wpQuiet_nil ?_
      intro _ hw'
      obtain ⟨⟨nq, osq⟩, hw''⟩ := hw'
      subst hw''
      have HG2 : Hid (Grw w (grow (wv1.drewN nq) osq)) := HG1.out.trans ⟨nq, osq, rfl⟩
      replace q3 : (grow (wv1.drewN nq) osq).cell? ⟨b, off + k * 6 + 3, none⟩ = some (.string T3) := bkeep (Grw.below ⟨nq, osq, rfl⟩) q3
      replace q4 : (grow (wv1.drewN nq) osq).cell? ⟨b, off + k * 6 + 4, none⟩ = some (.int .i64 ((M : Int) + 1 + 1 + 1 + 1)) := bkeep (Grw.below ⟨nq, osq, rfl⟩) q4
      replace q5 : (grow (wv1.drewN nq) osq).cell? ⟨b, off + k * 6 + 5, none⟩ = some (.int .i64 ((M : Int) + 1 + 1 + 1 + 1 + 1)) := bkeep (Grw.below ⟨nq, osq, rfl⟩) q5
      clear y2 q2 HM2
      generalize (grow (wv1.drewN nq) osq) = wv2 at *
      have y3 : ∀ n os, (grow (wv2.drewN n) os).cell? ⟨b, off + k * 6 + 3, none⟩ = some (.string T3) := fun n os => bkeep (Grw.below ⟨n, os, rfl⟩) q3
      go_wp2_with fail
      refine wp_region_quiet_grown (by assumption) (by kernel_rfl) ?_
      repeat (go_big_quiet_step (first | fail | (go_at_call 47; exact Calls.grown_of (HM3.out _))))
      refine wpQuiet_nil ?_
      intro _ hw'
      obtain ⟨⟨nq, osq⟩, hw''⟩ := hw'
      subst hw''
      have HG3 : Hid (Grw w (grow (wv2.drewN nq) osq)) := HG2.out.trans ⟨nq, osq, rfl⟩
      replace q4 : (grow (wv2.drewN nq) osq).cell? ⟨b, off + k * 6 + 4, none⟩ = some (.int .i64 ((M : Int) + 1 + 1 + 1 + 1)) := bkeep (Grw.below ⟨nq, osq, rfl⟩) q4
      replace q5 : (grow (wv2.drewN nq) osq).cell? ⟨b, off + k * 6 + 5, none⟩ = some (.int .i64 ((M : Int) + 1 + 1 + 1 + 1 + 1)) := bkeep (Grw.below ⟨nq, osq, rfl⟩) q5
      clear y3 q3 HM3
      generalize (grow (wv2.drewN nq) osq) = wv3 at *
      go_wp2
      go_roundw
      case rel => exact ⟨k + 1, M + 6, by omega, by go_num, by go_num, (show M + 6 = m0 + 6 * (k + 1) by have := hM.out; omega), HG3⟩
      case measure => simp [intOf]; omega
    · obtain rfl : k = n := by omega
      have hM2 := hM.out
      subst hM2
      go_wp2
      go_ret
      exact ⟨rfl, HG.out⟩
/-- What is marked. -/
def mkSession (M : Nat) : SessV := ⟨(M : Int), (M : Int) + 1, mtS (M + 2), (M : Int) + 1 + 1 + 1, (M : Int) + 1 + 1 + 1 + 1, (M : Int) + 1 + 1 + 1 + 1 + 1, (M : Int) + 1 + 1 + 1 + 1 + 1 + 1, (M : Int) + 1 + 1 + 1 + 1 + 1 + 1 + 1, (M : Int) + 1 + 1 + 1 + 1 + 1 + 1 + 1 + 1, (M : Int) + 1 + 1 + 1 + 1 + 1 + 1 + 1 + 1 + 1⟩
def mkSessionL (m0 n : Nat) : List SessV := (List.range n).map (fun k => mkSession (m0 + 10 * k))
theorem mkSessionL_len (m0 n : Nat) : (mkSessionL m0 n).length = n := by simp [mkSessionL]
theorem mkSessionL_at (m0 n i : Nat) (h : i < n) : (mkSessionL m0 n)[i]? = some (mkSession (m0 + 10 * i)) := by rw [mkSessionL, List.getElem?_map, List.getElem?_range h]; rfl
theorem mkSession_ok (M : Nat) (h : M + 10 ≤ 1000000000000) : SeRok (mkSession M) := by
  unfold SeRok mkSession
  dsimp only
  exact ⟨int_wf9 (by omega) (by omega), int_wf9 (by omega) (by omega), Nat.le_trans (mtS_len _ (by omega)) (by unfold maxLen; omega), int_wf9 (by omega) (by omega), int_wf9 (by omega) (by omega), int_wf9 (by omega) (by omega), int_wf9 (by omega) (by omega), int_wf9 (by omega) (by omega), int_wf9 (by omega) (by omega), int_wf9 (by omega) (by omega)⟩
theorem mkSessionL_ok (m0 n : Nat) (h : m0 + 10 * n ≤ 1000000000000) : ∀ x, x ∈ mkSessionL m0 n → SeRok x := by
  intro x hx
  unfold mkSessionL at hx
  simp at hx
  obtain ⟨i, hi, rfl⟩ := hx
  exact mkSession_ok _ (by omega)
def mkSession_0 (x : SessV) (M : Nat) : SessV := { x with id := (M : Int) }
def mkSession_1 (x : SessV) (M : Nat) : SessV := { mkSession_0 x M with us := (M : Int) + 1 }
def mkSession_2 (x : SessV) (M : Nat) : SessV := { mkSession_1 x M with mc := mtS (M + 2) }
def mkSession_3 (x : SessV) (M : Nat) : SessV := { mkSession_2 x M with ip := (M : Int) + 1 + 1 + 1 }
def mkSession_4 (x : SessV) (M : Nat) : SessV := { mkSession_3 x M with be := (M : Int) + 1 + 1 + 1 + 1 }
def mkSession_5 (x : SessV) (M : Nat) : SessV := { mkSession_4 x M with la := (M : Int) + 1 + 1 + 1 + 1 + 1 }
def mkSession_6 (x : SessV) (M : Nat) : SessV := { mkSession_5 x M with ud := (M : Int) + 1 + 1 + 1 + 1 + 1 + 1 }
def mkSession_7 (x : SessV) (M : Nat) : SessV := { mkSession_6 x M with qu := (M : Int) + 1 + 1 + 1 + 1 + 1 + 1 + 1 }
def mkSession_8 (x : SessV) (M : Nat) : SessV := { mkSession_7 x M with un := (M : Int) + 1 + 1 + 1 + 1 + 1 + 1 + 1 + 1 }
def mkSession_9 (x : SessV) (M : Nat) : SessV := { mkSession_8 x M with il := (M : Int) + 1 + 1 + 1 + 1 + 1 + 1 + 1 + 1 + 1 }
set_option maxHeartbeats 4000000 in
theorem markSessionS_any (a : Option Addr) (n cap B m0 : Nat) (L : List SessV) (w : World) (h : OwnS svG 10 103 w B (.slice a n cap) L) (h0 : 0 < m0) (hm : m0 + 10 * n ≤ 100000000000) :
    Calls Tryd.prog 44 #[.slice a n cap, .int .i64 (m0 : Int)] w fun e w' => e = .returned (.int .i64 ((m0 + 10 * n : Nat) : Int)) ∧ OwnS svG 10 103 w' B (.slice a n cap) (mkSessionL m0 n) ∧ w.grownBy w' (Value.slice a n cap).ownBlock := by
  have H : Hid (OwnS svG 10 103 w B (.slice a n cap) L) := h
  have hn := h.len
  have hlen : n ≤ 100000000000 := by omega
  clear h
  go_enter Tryd.func44, Tryd.ntmps44
  go_wp2
  go_loopw [1, 5] (fun m i wr => ∃ (k M : Nat) (L' : List SessV), k ≤ n ∧ i = .int .i64 k ∧ m = .int .i64 (M : Int) ∧ Hid (M = m0 + 10 * k) ∧ Hid (OwnS svG 10 103 wr B (.slice a n cap) L' ∧ L'.length = n ∧ L'.take k = (mkSessionL m0 n).take k ∧ w.grownBy wr (Value.slice a n cap).ownBlock)) (fun _ i _ => n - (intOf i).toNat)
  case atStart => exact ⟨0, m0, L, Nat.zero_le _, rfl, rfl, by show m0 = _; omega, H.out, hn, rfl, grown_refl w _⟩
  case round =>
    obtain ⟨k, M, L', hk, rfl, rfl, hM, X⟩ := hrel
    by_cases hlt : k < n
    · obtain ⟨g, rfl, hBg, hg, -⟩ := X.out.1.form (by rw [X.out.2.1]; omega)
      obtain ⟨x, hx⟩ := at_of (k := k) X.out.2.1 hlt
      have hltz : (k : Int) < (n : Int) := by omega
      have hMz : (M : Int) ≤ 200000000000 := by have := hM.out; omega
      have hM0 : 0 < M := by have := hM.out; omega
      have G0 : Hid (w.grownBy wr (some g)) := X.out.2.2.2
      have o0 := X.out.1
      have hT : Hid (L'.length = n ∧ L'.take k = (mkSessionL m0 n).take k) := ⟨X.out.2.1, X.out.2.2.1⟩
      clear X
      obtain ⟨c0, z0⟩ := o0.cell svG_len (j := 0) hx rfl
      replace c0 : wr.cell? ⟨g, k * 10, none⟩ = some (.int .i64 x.id) := c0
      replace z0 : wr.frozen? ⟨g, k * 10, none⟩ = false := z0
      obtain ⟨c1, z1⟩ := o0.cell svG_len (j := 1) hx rfl
      have s0 := o0.set1 svG_len (j := 0) (y := (mkSession_0 x M)) (u := .int .i64 ((M : Int))) hx (by omega) rfl
      have hx0 : (L'.set k (mkSession_0 x M))[k]? = some (mkSession_0 x M) := List.getElem?_set_self (by rw [hT.out.1]; exact hlt)
      have s1 := s0.1.set1 svG_len (j := 1) (y := (mkSession_1 x M)) (u := .int .i64 ((M : Int) + 1)) hx0 (by omega) rfl
      rw [List.set_set] at s1
      have hx1 : (L'.set k (mkSession_1 x M))[k]? = some (mkSession_1 x M) := List.getElem?_set_self (by rw [hT.out.1]; exact hlt)
      have Z0 : Hid (OwnS svG 10 103 ((wr.setCell ⟨g, k * 10, none⟩ (.int .i64 ((M : Int)))).setCell ⟨g, k * 10 + 1, none⟩ (.int .i64 ((M : Int) + 1))) B (.slice (some ⟨g, 0, none⟩) n cap) (L'.set k (mkSession_1 x M)) ∧ w.grownBy ((wr.setCell ⟨g, k * 10, none⟩ (.int .i64 ((M : Int)))).setCell ⟨g, k * 10 + 1, none⟩ (.int .i64 ((M : Int) + 1))) (some g)) := ⟨s1.1, (grown_tr (grown_tr G0.out s0.2) s1.2)⟩
      have hy0 : Hid ((L'.set k (mkSession_1 x M))[k]? = some (mkSession_1 x M)) := hx1
      clear o0 G0 s0 hx0 s1 hx1 hx
      have HM1 : Hid (∀ w, Calls Tryd.prog 47 #[.int .i64 ((M : Int) + 1 + 1)] w fun e w' => e = .returned (.string (mtS (M + 2))) ∧ Grw w w') := fun w => by
        have := markText_any (M + 2) w (by omega) (by omega)
        rw [show ((M + 2 : Nat) : Int) = (M : Int) + 1 + 1 by omega] at this
        exact this
      go_wp2_with fail
      refine (HM1.out _).mono ?_
      rintro e wt1 ⟨rfl, gt1⟩
      clear c0 z0 c1 z1
      have ot1 := Z0.out.1.now gt1.below
      have Gt1 : Hid (w.grownBy wt1 (some g)) := grown_tr Z0.out.2 (gt1.grown _)
      clear HM1 gt1 Z0
      obtain ⟨c2, z2⟩ := ot1.cell svG_len (j := 2) hy0.out rfl
      obtain ⟨c3, z3⟩ := ot1.cell svG_len (j := 3) hy0.out rfl
      obtain ⟨c4, z4⟩ := ot1.cell svG_len (j := 4) hy0.out rfl
      obtain ⟨c5, z5⟩ := ot1.cell svG_len (j := 5) hy0.out rfl
      obtain ⟨c6, z6⟩ := ot1.cell svG_len (j := 6) hy0.out rfl
      obtain ⟨c7, z7⟩ := ot1.cell svG_len (j := 7) hy0.out rfl
      obtain ⟨c8, z8⟩ := ot1.cell svG_len (j := 8) hy0.out rfl
      obtain ⟨c9, z9⟩ := ot1.cell svG_len (j := 9) hy0.out rfl
      have s2 := ot1.set1 svG_len (j := 2) (y := (mkSession_2 x M)) (u := .string (mtS (M + 2))) hy0.out (by omega) rfl
      rw [List.set_set] at s2
      have hx2 : (L'.set k (mkSession_2 x M))[k]? = some (mkSession_2 x M) := List.getElem?_set_self (by rw [hT.out.1]; exact hlt)
      have s3 := s2.1.set1 svG_len (j := 3) (y := (mkSession_3 x M)) (u := .int .i64 ((M : Int) + 1 + 1 + 1)) hx2 (by omega) rfl
      rw [List.set_set] at s3
      have hx3 : (L'.set k (mkSession_3 x M))[k]? = some (mkSession_3 x M) := List.getElem?_set_self (by rw [hT.out.1]; exact hlt)
      have s4 := s3.1.set1 svG_len (j := 4) (y := (mkSession_4 x M)) (u := .int .i64 ((M : Int) + 1 + 1 + 1 + 1)) hx3 (by omega) rfl
      rw [List.set_set] at s4
      have hx4 : (L'.set k (mkSession_4 x M))[k]? = some (mkSession_4 x M) := List.getElem?_set_self (by rw [hT.out.1]; exact hlt)
      have s5 := s4.1.set1 svG_len (j := 5) (y := (mkSession_5 x M)) (u := .int .i64 ((M : Int) + 1 + 1 + 1 + 1 + 1)) hx4 (by omega) rfl
      rw [List.set_set] at s5
      have hx5 : (L'.set k (mkSession_5 x M))[k]? = some (mkSession_5 x M) := List.getElem?_set_self (by rw [hT.out.1]; exact hlt)
      have s6 := s5.1.set1 svG_len (j := 6) (y := (mkSession_6 x M)) (u := .int .i64 ((M : Int) + 1 + 1 + 1 + 1 + 1 + 1)) hx5 (by omega) rfl
      rw [List.set_set] at s6
      have hx6 : (L'.set k (mkSession_6 x M))[k]? = some (mkSession_6 x M) := List.getElem?_set_self (by rw [hT.out.1]; exact hlt)
      have s7 := s6.1.set1 svG_len (j := 7) (y := (mkSession_7 x M)) (u := .int .i64 ((M : Int) + 1 + 1 + 1 + 1 + 1 + 1 + 1)) hx6 (by omega) rfl
      rw [List.set_set] at s7
      have hx7 : (L'.set k (mkSession_7 x M))[k]? = some (mkSession_7 x M) := List.getElem?_set_self (by rw [hT.out.1]; exact hlt)
      have s8 := s7.1.set1 svG_len (j := 8) (y := (mkSession_8 x M)) (u := .int .i64 ((M : Int) + 1 + 1 + 1 + 1 + 1 + 1 + 1 + 1)) hx7 (by omega) rfl
      rw [List.set_set] at s8
      have hx8 : (L'.set k (mkSession_8 x M))[k]? = some (mkSession_8 x M) := List.getElem?_set_self (by rw [hT.out.1]; exact hlt)
      have s9 := s8.1.set1 svG_len (j := 9) (y := (mkSession_9 x M)) (u := .int .i64 ((M : Int) + 1 + 1 + 1 + 1 + 1 + 1 + 1 + 1 + 1)) hx8 (by omega) rfl
      rw [List.set_set] at s9
      have hx9 : (L'.set k (mkSession_9 x M))[k]? = some (mkSession_9 x M) := List.getElem?_set_self (by rw [hT.out.1]; exact hlt)
      have Z1 : Hid (OwnS svG 10 103 ((((((((wt1.setCell ⟨g, k * 10 + 2, none⟩ (.string (mtS (M + 2)))).setCell ⟨g, k * 10 + 3, none⟩ (.int .i64 ((M : Int) + 1 + 1 + 1))).setCell ⟨g, k * 10 + 4, none⟩ (.int .i64 ((M : Int) + 1 + 1 + 1 + 1))).setCell ⟨g, k * 10 + 5, none⟩ (.int .i64 ((M : Int) + 1 + 1 + 1 + 1 + 1))).setCell ⟨g, k * 10 + 6, none⟩ (.int .i64 ((M : Int) + 1 + 1 + 1 + 1 + 1 + 1))).setCell ⟨g, k * 10 + 7, none⟩ (.int .i64 ((M : Int) + 1 + 1 + 1 + 1 + 1 + 1 + 1))).setCell ⟨g, k * 10 + 8, none⟩ (.int .i64 ((M : Int) + 1 + 1 + 1 + 1 + 1 + 1 + 1 + 1))).setCell ⟨g, k * 10 + 9, none⟩ (.int .i64 ((M : Int) + 1 + 1 + 1 + 1 + 1 + 1 + 1 + 1 + 1))) B (.slice (some ⟨g, 0, none⟩) n cap) (L'.set k (mkSession_9 x M)) ∧ w.grownBy ((((((((wt1.setCell ⟨g, k * 10 + 2, none⟩ (.string (mtS (M + 2)))).setCell ⟨g, k * 10 + 3, none⟩ (.int .i64 ((M : Int) + 1 + 1 + 1))).setCell ⟨g, k * 10 + 4, none⟩ (.int .i64 ((M : Int) + 1 + 1 + 1 + 1))).setCell ⟨g, k * 10 + 5, none⟩ (.int .i64 ((M : Int) + 1 + 1 + 1 + 1 + 1))).setCell ⟨g, k * 10 + 6, none⟩ (.int .i64 ((M : Int) + 1 + 1 + 1 + 1 + 1 + 1))).setCell ⟨g, k * 10 + 7, none⟩ (.int .i64 ((M : Int) + 1 + 1 + 1 + 1 + 1 + 1 + 1))).setCell ⟨g, k * 10 + 8, none⟩ (.int .i64 ((M : Int) + 1 + 1 + 1 + 1 + 1 + 1 + 1 + 1))).setCell ⟨g, k * 10 + 9, none⟩ (.int .i64 ((M : Int) + 1 + 1 + 1 + 1 + 1 + 1 + 1 + 1 + 1))) (some g)) := ⟨s9.1, (grown_tr (grown_tr (grown_tr (grown_tr (grown_tr (grown_tr (grown_tr (grown_tr Gt1.out s2.2) s3.2) s4.2) s5.2) s6.2) s7.2) s8.2) s9.2)⟩
      have hy1 : Hid ((L'.set k (mkSession_9 x M))[k]? = some (mkSession_9 x M)) := hx9
      clear ot1 Gt1 s2 hx2 s3 hx3 s4 hx4 s5 hx5 s6 hx6 s7 hx7 s8 hx8 s9 hx9 
      have eSession : (mkSession_9 x M) = mkSession M := rfl
      rw [eSession] at Z1
      have YY : Hid (OwnS svG 10 103 ((((((((wt1.setCell ⟨g, k * 10 + 2, none⟩ (.string (mtS (M + 2)))).setCell ⟨g, k * 10 + 3, none⟩ (.int .i64 ((M : Int) + 1 + 1 + 1))).setCell ⟨g, k * 10 + 4, none⟩ (.int .i64 ((M : Int) + 1 + 1 + 1 + 1))).setCell ⟨g, k * 10 + 5, none⟩ (.int .i64 ((M : Int) + 1 + 1 + 1 + 1 + 1))).setCell ⟨g, k * 10 + 6, none⟩ (.int .i64 ((M : Int) + 1 + 1 + 1 + 1 + 1 + 1))).setCell ⟨g, k * 10 + 7, none⟩ (.int .i64 ((M : Int) + 1 + 1 + 1 + 1 + 1 + 1 + 1))).setCell ⟨g, k * 10 + 8, none⟩ (.int .i64 ((M : Int) + 1 + 1 + 1 + 1 + 1 + 1 + 1 + 1))).setCell ⟨g, k * 10 + 9, none⟩ (.int .i64 ((M : Int) + 1 + 1 + 1 + 1 + 1 + 1 + 1 + 1 + 1))) B (.slice (some ⟨g, 0, none⟩) n cap) (L'.set k (mkSession M)) ∧ (L'.set k (mkSession M)).length = n ∧ (L'.set k (mkSession M)).take (k + 1) = (mkSessionL m0 n).take (k + 1) ∧ w.grownBy ((((((((wt1.setCell ⟨g, k * 10 + 2, none⟩ (.string (mtS (M + 2)))).setCell ⟨g, k * 10 + 3, none⟩ (.int .i64 ((M : Int) + 1 + 1 + 1))).setCell ⟨g, k * 10 + 4, none⟩ (.int .i64 ((M : Int) + 1 + 1 + 1 + 1))).setCell ⟨g, k * 10 + 5, none⟩ (.int .i64 ((M : Int) + 1 + 1 + 1 + 1 + 1))).setCell ⟨g, k * 10 + 6, none⟩ (.int .i64 ((M : Int) + 1 + 1 + 1 + 1 + 1 + 1))).setCell ⟨g, k * 10 + 7, none⟩ (.int .i64 ((M : Int) + 1 + 1 + 1 + 1 + 1 + 1 + 1))).setCell ⟨g, k * 10 + 8, none⟩ (.int .i64 ((M : Int) + 1 + 1 + 1 + 1 + 1 + 1 + 1 + 1))).setCell ⟨g, k * 10 + 9, none⟩ (.int .i64 ((M : Int) + 1 + 1 + 1 + 1 + 1 + 1 + 1 + 1 + 1))) (some g)) := ⟨Z1.out.1, by rw [List.length_set]; exact hT.out.1, takeS_set (by rw [hT.out.1, mkSessionL_len]) (by rw [mkSessionL_at m0 n k hlt, hM.out]) hT.out.2, Z1.out.2⟩
      clear Z1 hT hy0 hy1
      go_wp2
      go_roundw
      case rel => exact ⟨k + 1, M + 10, _, by omega, by go_num, by go_num, (show M + 10 = m0 + 10 * (k + 1) by have := hM.out; omega), YY⟩
      case measure => simp [intOf]; omega
    · obtain rfl : k = n := by omega
      have e1 : L' = mkSessionL m0 k := by
        have := X.out.2.2.1
        rwa [List.take_of_length_le (by rw [X.out.2.1]; exact Nat.le_refl _), List.take_of_length_le (by rw [mkSessionL_len]; exact Nat.le_refl _)] at this
      subst e1
      have hM2 := hM.out
      subst hM2
      go_wp2
      go_ret
      exact ⟨rfl, X.out.1, X.out.2.2.2⟩
set_option maxHeartbeats 4000000 in
theorem heldSessionS_any (a : Option Addr) (n cap m0 : Nat) (w : World) (h : Rw SeR 10 w a (mkSessionL m0 n)) (h0 : 0 < m0) (hm : m0 + 10 * n ≤ 100000000000) :
    Calls Tryd.prog 51 #[.slice a n cap, .int .i64 (m0 : Int)] w fun e w' => e = .returned (.int .i64 ((m0 + 10 * n : Nat) : Int)) ∧ Grw w w' := by
  have H : Hid (Rw SeR 10 w a (mkSessionL m0 n)) := h
  have hlen : n ≤ 100000000000 := by omega
  clear h
  have hmix : Tryd.prog.follows .mixedOrders = true := by kernel_rfl
  go_enter Tryd.func51, Tryd.ntmps51
  go_wp2
  go_loopw [1, 5] (fun m i wr => ∃ k M : Nat, k ≤ n ∧ i = .int .i64 k ∧ m = .int .i64 (M : Int) ∧ Hid (M = m0 + 10 * k) ∧ Hid (Grw w wr)) (fun _ i _ => n - (intOf i).toNat)
  case atStart => exact ⟨0, m0, Nat.zero_le _, rfl, rfl, by show m0 = _; omega, Grw.refl w⟩
  case round =>
    obtain ⟨k, M, hk, rfl, rfl, hM, HG⟩ := hrel
    by_cases hlt : k < n
    · obtain ⟨b, off, vs, rfl, hb, hvl, hR, hc⟩ := H.out.at SeR.kp HG.out.below (mkSessionL_at m0 n k hlt)
      rw [← hM.out] at hR
      obtain ⟨rfl, -⟩ := hR
      have hltz : (k : Int) < (n : Int) := by omega
      have hMz : (M : Int) ≤ 200000000000 := by have := hM.out; omega
      have hM0 : 0 < M := by have := hM.out; omega
      have q0 : wr.cell? ⟨b, off + k * 10, none⟩ = some (.int .i64 ((M : Int))) := hc 0 _ rfl
      have q1 : wr.cell? ⟨b, off + k * 10 + 1, none⟩ = some (.int .i64 ((M : Int) + 1)) := hc 1 _ rfl
      have q2 : wr.cell? ⟨b, off + k * 10 + 2, none⟩ = some (.string (mtS (M + 2))) := hc 2 _ rfl
      have q3 : wr.cell? ⟨b, off + k * 10 + 3, none⟩ = some (.int .i64 ((M : Int) + 1 + 1 + 1)) := hc 3 _ rfl
      have q4 : wr.cell? ⟨b, off + k * 10 + 4, none⟩ = some (.int .i64 ((M : Int) + 1 + 1 + 1 + 1)) := hc 4 _ rfl
      have q5 : wr.cell? ⟨b, off + k * 10 + 5, none⟩ = some (.int .i64 ((M : Int) + 1 + 1 + 1 + 1 + 1)) := hc 5 _ rfl
      have q6 : wr.cell? ⟨b, off + k * 10 + 6, none⟩ = some (.int .i64 ((M : Int) + 1 + 1 + 1 + 1 + 1 + 1)) := hc 6 _ rfl
      have q7 : wr.cell? ⟨b, off + k * 10 + 7, none⟩ = some (.int .i64 ((M : Int) + 1 + 1 + 1 + 1 + 1 + 1 + 1)) := hc 7 _ rfl
      have q8 : wr.cell? ⟨b, off + k * 10 + 8, none⟩ = some (.int .i64 ((M : Int) + 1 + 1 + 1 + 1 + 1 + 1 + 1 + 1)) := hc 8 _ rfl
      have q9 : wr.cell? ⟨b, off + k * 10 + 9, none⟩ = some (.int .i64 ((M : Int) + 1 + 1 + 1 + 1 + 1 + 1 + 1 + 1 + 1)) := hc 9 _ rfl
      clear hc hvl
      have e0 : (((M : Int)) != ((M : Int))) = false := by simp
      have e1 : (((M : Int) + 1) != ((M : Int) + 1)) = false := by simp
      have e3 : (((M : Int) + 1 + 1 + 1) != ((M : Int) + 1 + 1 + 1)) = false := by simp
      have e4 : (((M : Int) + 1 + 1 + 1 + 1) != ((M : Int) + 1 + 1 + 1 + 1)) = false := by simp
      have e5 : (((M : Int) + 1 + 1 + 1 + 1 + 1) != ((M : Int) + 1 + 1 + 1 + 1 + 1)) = false := by simp
      have e6 : (((M : Int) + 1 + 1 + 1 + 1 + 1 + 1) != ((M : Int) + 1 + 1 + 1 + 1 + 1 + 1)) = false := by simp
      have e7 : (((M : Int) + 1 + 1 + 1 + 1 + 1 + 1 + 1) != ((M : Int) + 1 + 1 + 1 + 1 + 1 + 1 + 1)) = false := by simp
      have e8 : (((M : Int) + 1 + 1 + 1 + 1 + 1 + 1 + 1 + 1) != ((M : Int) + 1 + 1 + 1 + 1 + 1 + 1 + 1 + 1)) = false := by simp
      have e9 : (((M : Int) + 1 + 1 + 1 + 1 + 1 + 1 + 1 + 1 + 1) != ((M : Int) + 1 + 1 + 1 + 1 + 1 + 1 + 1 + 1 + 1)) = false := by simp
      have HM2 : Hid (∀ w, Calls Tryd.prog 47 #[.int .i64 ((M : Int) + 1 + 1)] w fun e w' => e = .returned (.string (mtS (M + 2))) ∧ Grw w w') := fun w => by
        have := markText_any (M + 2) w (by omega) (by omega)
        rw [show ((M + 2 : Nat) : Int) = (M : Int) + 1 + 1 by omega] at this
        exact this
      generalize mtS (M + 2) = T2 at *
      have t2 : (T2.toList == T2.toList) = true := by simp
      have y2 : ∀ n os, (grow (wr.drewN n) os).cell? ⟨b, off + k * 10 + 2, none⟩ = some (.string T2) := fun n os => bkeep (Grw.below ⟨n, os, rfl⟩) q2
      go_wp2_with fail
      refine wp_region_quiet_grown (by assumption) (by kernel_rfl) ?_
      repeat (go_big_quiet_step (first | fail | (go_at_call 47; exact Calls.grown_of (HM2.out _))))
      refine wpQuiet_nil ?_
      intro _ hw'
      obtain ⟨⟨nq, osq⟩, hw''⟩ := hw'
      subst hw''
      have HG2 : Hid (Grw w (grow (wr.drewN nq) osq)) := HG.out.trans ⟨nq, osq, rfl⟩
      replace q3 : (grow (wr.drewN nq) osq).cell? ⟨b, off + k * 10 + 3, none⟩ = some (.int .i64 ((M : Int) + 1 + 1 + 1)) := bkeep (Grw.below ⟨nq, osq, rfl⟩) q3
      replace q4 : (grow (wr.drewN nq) osq).cell? ⟨b, off + k * 10 + 4, none⟩ = some (.int .i64 ((M : Int) + 1 + 1 + 1 + 1)) := bkeep (Grw.below ⟨nq, osq, rfl⟩) q4
      replace q5 : (grow (wr.drewN nq) osq).cell? ⟨b, off + k * 10 + 5, none⟩ = some (.int .i64 ((M : Int) + 1 + 1 + 1 + 1 + 1)) := bkeep (Grw.below ⟨nq, osq, rfl⟩) q5
      replace q6 : (grow (wr.drewN nq) osq).cell? ⟨b, off + k * 10 + 6, none⟩ = some (.int .i64 ((M : Int) + 1 + 1 + 1 + 1 + 1 + 1)) := bkeep (Grw.below ⟨nq, osq, rfl⟩) q6
      replace q7 : (grow (wr.drewN nq) osq).cell? ⟨b, off + k * 10 + 7, none⟩ = some (.int .i64 ((M : Int) + 1 + 1 + 1 + 1 + 1 + 1 + 1)) := bkeep (Grw.below ⟨nq, osq, rfl⟩) q7
      replace q8 : (grow (wr.drewN nq) osq).cell? ⟨b, off + k * 10 + 8, none⟩ = some (.int .i64 ((M : Int) + 1 + 1 + 1 + 1 + 1 + 1 + 1 + 1)) := bkeep (Grw.below ⟨nq, osq, rfl⟩) q8
      replace q9 : (grow (wr.drewN nq) osq).cell? ⟨b, off + k * 10 + 9, none⟩ = some (.int .i64 ((M : Int) + 1 + 1 + 1 + 1 + 1 + 1 + 1 + 1 + 1)) := bkeep (Grw.below ⟨nq, osq, rfl⟩) q9
      clear y2 q0 q1 q2 HM2
      generalize (grow (wr.drewN nq) osq) = wv2 at *
      go_wp2
      go_roundw
      case rel => exact ⟨k + 1, M + 10, by omega, by go_num, by go_num, (show M + 10 = m0 + 10 * (k + 1) by have := hM.out; omega), HG2⟩
      case measure => simp [intOf]; omega
    · obtain rfl : k = n := by omega
      have hM2 := hM.out
      subst hM2
      go_wp2
      go_ret
      exact ⟨rfl, HG.out⟩
/-- What is marked. -/
def mkFail (M : Nat) : FailV := ⟨mtS M, (M : Int) + 1, (M : Int) + 1 + 1⟩
def mkFailL (m0 n : Nat) : List FailV := (List.range n).map (fun k => mkFail (m0 + 3 * k))
theorem mkFailL_len (m0 n : Nat) : (mkFailL m0 n).length = n := by simp [mkFailL]
theorem mkFailL_at (m0 n i : Nat) (h : i < n) : (mkFailL m0 n)[i]? = some (mkFail (m0 + 3 * i)) := by rw [mkFailL, List.getElem?_map, List.getElem?_range h]; rfl
theorem mkFail_ok (M : Nat) (h : M + 3 ≤ 1000000000000) : FaRok (mkFail M) := by
  unfold FaRok mkFail
  dsimp only
  exact ⟨Nat.le_trans (mtS_len _ (by omega)) (by unfold maxLen; omega), int_wf9 (by omega) (by omega), int_wf9 (by omega) (by omega)⟩
theorem mkFailL_ok (m0 n : Nat) (h : m0 + 3 * n ≤ 1000000000000) : ∀ x, x ∈ mkFailL m0 n → FaRok x := by
  intro x hx
  unfold mkFailL at hx
  simp at hx
  obtain ⟨i, hi, rfl⟩ := hx
  exact mkFail_ok _ (by omega)
def mkFail_0 (x : FailV) (M : Nat) : FailV := { x with mc := mtS M }
def mkFail_1 (x : FailV) (M : Nat) : FailV := { mkFail_0 x M with ct := (M : Int) + 1 }
def mkFail_2 (x : FailV) (M : Nat) : FailV := { mkFail_1 x M with un := (M : Int) + 1 + 1 }
set_option maxHeartbeats 4000000 in
theorem markFailS_any (a : Option Addr) (n cap B m0 : Nat) (L : List FailV) (w : World) (h : OwnS fvG 3 106 w B (.slice a n cap) L) (h0 : 0 < m0) (hm : m0 + 3 * n ≤ 100000000000) :
    Calls Tryd.prog 45 #[.slice a n cap, .int .i64 (m0 : Int)] w fun e w' => e = .returned (.int .i64 ((m0 + 3 * n : Nat) : Int)) ∧ OwnS fvG 3 106 w' B (.slice a n cap) (mkFailL m0 n) ∧ w.grownBy w' (Value.slice a n cap).ownBlock := by
  have H : Hid (OwnS fvG 3 106 w B (.slice a n cap) L) := h
  have hn := h.len
  have hlen : n ≤ 100000000000 := by omega
  clear h
  go_enter Tryd.func45, Tryd.ntmps45
  go_wp2
  go_loopw [1, 5] (fun m i wr => ∃ (k M : Nat) (L' : List FailV), k ≤ n ∧ i = .int .i64 k ∧ m = .int .i64 (M : Int) ∧ Hid (M = m0 + 3 * k) ∧ Hid (OwnS fvG 3 106 wr B (.slice a n cap) L' ∧ L'.length = n ∧ L'.take k = (mkFailL m0 n).take k ∧ w.grownBy wr (Value.slice a n cap).ownBlock)) (fun _ i _ => n - (intOf i).toNat)
  case atStart => exact ⟨0, m0, L, Nat.zero_le _, rfl, rfl, by show m0 = _; omega, H.out, hn, rfl, grown_refl w _⟩
  case round =>
    obtain ⟨k, M, L', hk, rfl, rfl, hM, X⟩ := hrel
    by_cases hlt : k < n
    · obtain ⟨g, rfl, hBg, hg, -⟩ := X.out.1.form (by rw [X.out.2.1]; omega)
      obtain ⟨x, hx⟩ := at_of (k := k) X.out.2.1 hlt
      have hltz : (k : Int) < (n : Int) := by omega
      have hMz : (M : Int) ≤ 200000000000 := by have := hM.out; omega
      have hM0 : 0 < M := by have := hM.out; omega
      have G0 : Hid (w.grownBy wr (some g)) := X.out.2.2.2
      have o0 := X.out.1
      have hT : Hid (L'.length = n ∧ L'.take k = (mkFailL m0 n).take k) := ⟨X.out.2.1, X.out.2.2.1⟩
      clear X
      have HM0 : Hid (∀ w, Calls Tryd.prog 47 #[.int .i64 ((M : Int))] w fun e w' => e = .returned (.string (mtS (M))) ∧ Grw w w') := fun w => by
        have := markText_any (M) w (by omega) (by omega)
        exact this
      go_wp2_with fail
      refine (HM0.out _).mono ?_
      rintro e wt0 ⟨rfl, gt0⟩
      have ot0 := o0.now gt0.below
      have Gt0 : Hid (w.grownBy wt0 (some g)) := grown_tr G0.out (gt0.grown _)
      clear HM0 gt0 o0 G0
      obtain ⟨c0, z0⟩ := ot0.cell fvG_len (j := 0) hx rfl
      replace c0 : wt0.cell? ⟨g, k * 3, none⟩ = some (.string x.mc) := c0
      replace z0 : wt0.frozen? ⟨g, k * 3, none⟩ = false := z0
      obtain ⟨c1, z1⟩ := ot0.cell fvG_len (j := 1) hx rfl
      obtain ⟨c2, z2⟩ := ot0.cell fvG_len (j := 2) hx rfl
      have s0 := ot0.set1 fvG_len (j := 0) (y := (mkFail_0 x M)) (u := .string (mtS M)) hx (by omega) rfl
      have hx0 : (L'.set k (mkFail_0 x M))[k]? = some (mkFail_0 x M) := List.getElem?_set_self (by rw [hT.out.1]; exact hlt)
      have s1 := s0.1.set1 fvG_len (j := 1) (y := (mkFail_1 x M)) (u := .int .i64 ((M : Int) + 1)) hx0 (by omega) rfl
      rw [List.set_set] at s1
      have hx1 : (L'.set k (mkFail_1 x M))[k]? = some (mkFail_1 x M) := List.getElem?_set_self (by rw [hT.out.1]; exact hlt)
      have s2 := s1.1.set1 fvG_len (j := 2) (y := (mkFail_2 x M)) (u := .int .i64 ((M : Int) + 1 + 1)) hx1 (by omega) rfl
      rw [List.set_set] at s2
      have hx2 : (L'.set k (mkFail_2 x M))[k]? = some (mkFail_2 x M) := List.getElem?_set_self (by rw [hT.out.1]; exact hlt)
      have Z0 : Hid (OwnS fvG 3 106 (((wt0.setCell ⟨g, k * 3, none⟩ (.string (mtS M))).setCell ⟨g, k * 3 + 1, none⟩ (.int .i64 ((M : Int) + 1))).setCell ⟨g, k * 3 + 2, none⟩ (.int .i64 ((M : Int) + 1 + 1))) B (.slice (some ⟨g, 0, none⟩) n cap) (L'.set k (mkFail_2 x M)) ∧ w.grownBy (((wt0.setCell ⟨g, k * 3, none⟩ (.string (mtS M))).setCell ⟨g, k * 3 + 1, none⟩ (.int .i64 ((M : Int) + 1))).setCell ⟨g, k * 3 + 2, none⟩ (.int .i64 ((M : Int) + 1 + 1))) (some g)) := ⟨s2.1, (grown_tr (grown_tr (grown_tr Gt0.out s0.2) s1.2) s2.2)⟩
      have hy0 : Hid ((L'.set k (mkFail_2 x M))[k]? = some (mkFail_2 x M)) := hx2
      clear ot0 Gt0 s0 hx0 s1 hx1 s2 hx2 hx
      have eFail : (mkFail_2 x M) = mkFail M := rfl
      rw [eFail] at Z0
      have YY : Hid (OwnS fvG 3 106 (((wt0.setCell ⟨g, k * 3, none⟩ (.string (mtS M))).setCell ⟨g, k * 3 + 1, none⟩ (.int .i64 ((M : Int) + 1))).setCell ⟨g, k * 3 + 2, none⟩ (.int .i64 ((M : Int) + 1 + 1))) B (.slice (some ⟨g, 0, none⟩) n cap) (L'.set k (mkFail M)) ∧ (L'.set k (mkFail M)).length = n ∧ (L'.set k (mkFail M)).take (k + 1) = (mkFailL m0 n).take (k + 1) ∧ w.grownBy (((wt0.setCell ⟨g, k * 3, none⟩ (.string (mtS M))).setCell ⟨g, k * 3 + 1, none⟩ (.int .i64 ((M : Int) + 1))).setCell ⟨g, k * 3 + 2, none⟩ (.int .i64 ((M : Int) + 1 + 1))) (some g)) := ⟨Z0.out.1, by rw [List.length_set]; exact hT.out.1, takeS_set (by rw [hT.out.1, mkFailL_len]) (by rw [mkFailL_at m0 n k hlt, hM.out]) hT.out.2, Z0.out.2⟩
      clear Z0 hT hy0
      go_wp2
      go_roundw
      case rel => exact ⟨k + 1, M + 3, _, by omega, by go_num, by go_num, (show M + 3 = m0 + 3 * (k + 1) by have := hM.out; omega), YY⟩
      case measure => simp [intOf]; omega
    · obtain rfl : k = n := by omega
      have e1 : L' = mkFailL m0 k := by
        have := X.out.2.2.1
        rwa [List.take_of_length_le (by rw [X.out.2.1]; exact Nat.le_refl _), List.take_of_length_le (by rw [mkFailL_len]; exact Nat.le_refl _)] at this
      subst e1
      have hM2 := hM.out
      subst hM2
      go_wp2
      go_ret
      exact ⟨rfl, X.out.1, X.out.2.2.2⟩
set_option maxHeartbeats 4000000 in
theorem heldFailS_any (a : Option Addr) (n cap m0 : Nat) (w : World) (h : Rw FaR 3 w a (mkFailL m0 n)) (h0 : 0 < m0) (hm : m0 + 3 * n ≤ 100000000000) :
    Calls Tryd.prog 52 #[.slice a n cap, .int .i64 (m0 : Int)] w fun e w' => e = .returned (.int .i64 ((m0 + 3 * n : Nat) : Int)) ∧ Grw w w' := by
  have H : Hid (Rw FaR 3 w a (mkFailL m0 n)) := h
  have hlen : n ≤ 100000000000 := by omega
  clear h
  have hmix : Tryd.prog.follows .mixedOrders = true := by kernel_rfl
  go_enter Tryd.func52, Tryd.ntmps52
  go_wp2
  go_loopw [1, 5] (fun m i wr => ∃ k M : Nat, k ≤ n ∧ i = .int .i64 k ∧ m = .int .i64 (M : Int) ∧ Hid (M = m0 + 3 * k) ∧ Hid (Grw w wr)) (fun _ i _ => n - (intOf i).toNat)
  case atStart => exact ⟨0, m0, Nat.zero_le _, rfl, rfl, by show m0 = _; omega, Grw.refl w⟩
  case round =>
    obtain ⟨k, M, hk, rfl, rfl, hM, HG⟩ := hrel
    by_cases hlt : k < n
    · obtain ⟨b, off, vs, rfl, hb, hvl, hR, hc⟩ := H.out.at FaR.kp HG.out.below (mkFailL_at m0 n k hlt)
      rw [← hM.out] at hR
      obtain ⟨rfl, -⟩ := hR
      have hltz : (k : Int) < (n : Int) := by omega
      have hMz : (M : Int) ≤ 200000000000 := by have := hM.out; omega
      have hM0 : 0 < M := by have := hM.out; omega
      have q0 : wr.cell? ⟨b, off + k * 3, none⟩ = some (.string (mtS M)) := hc 0 _ rfl
      have q1 : wr.cell? ⟨b, off + k * 3 + 1, none⟩ = some (.int .i64 ((M : Int) + 1)) := hc 1 _ rfl
      have q2 : wr.cell? ⟨b, off + k * 3 + 2, none⟩ = some (.int .i64 ((M : Int) + 1 + 1)) := hc 2 _ rfl
      clear hc hvl
      have e1 : (((M : Int) + 1) != ((M : Int) + 1)) = false := by simp
      have e2 : (((M : Int) + 1 + 1) != ((M : Int) + 1 + 1)) = false := by simp
      have HM0 : Hid (∀ w, Calls Tryd.prog 47 #[.int .i64 ((M : Int))] w fun e w' => e = .returned (.string (mtS (M))) ∧ Grw w w') := fun w => by
        have := markText_any (M) w (by omega) (by omega)
        exact this
      generalize mtS (M) = T0 at *
      have t0 : (T0.toList == T0.toList) = true := by simp
      have y0 : ∀ n os, (grow (wr.drewN n) os).cell? ⟨b, off + k * 3, none⟩ = some (.string T0) := fun n os => bkeep (Grw.below ⟨n, os, rfl⟩) q0
      go_wp2_with fail
      refine wp_region_quiet_grown (by assumption) (by kernel_rfl) ?_
      repeat (go_big_quiet_step (first | fail | (go_at_call 47; exact Calls.grown_of (HM0.out _))))
      refine wpQuiet_nil ?_
      intro _ hw'
      obtain ⟨⟨nq, osq⟩, hw''⟩ := hw'
      subst hw''
      have HG0 : Hid (Grw w (grow (wr.drewN nq) osq)) := HG.out.trans ⟨nq, osq, rfl⟩
      replace q1 : (grow (wr.drewN nq) osq).cell? ⟨b, off + k * 3 + 1, none⟩ = some (.int .i64 ((M : Int) + 1)) := bkeep (Grw.below ⟨nq, osq, rfl⟩) q1
      replace q2 : (grow (wr.drewN nq) osq).cell? ⟨b, off + k * 3 + 2, none⟩ = some (.int .i64 ((M : Int) + 1 + 1)) := bkeep (Grw.below ⟨nq, osq, rfl⟩) q2
      clear y0 q0 HM0
      generalize (grow (wr.drewN nq) osq) = wv0 at *
      go_wp2
      go_roundw
      case rel => exact ⟨k + 1, M + 3, by omega, by go_num, by go_num, (show M + 3 = m0 + 3 * (k + 1) by have := hM.out; omega), HG0⟩
      case measure => simp [intOf]; omega
    · obtain rfl : k = n := by omega
      have hM2 := hM.out
      subst hM2
      go_wp2
      go_ret
      exact ⟨rfl, HG.out⟩
/-- What is marked. -/
def mkRecord (M : Nat) : RecV := ⟨(M : Int), (M : Int) + 1, (M : Int) + 1 + 1, (M : Int) + 1 + 1 + 1, (((M : Int) + 1 + 1 + 1 + 1) % 3 == 0)⟩
def mkRecordL (m0 n : Nat) : List RecV := (List.range n).map (fun k => mkRecord (m0 + 5 * k))
theorem mkRecordL_len (m0 n : Nat) : (mkRecordL m0 n).length = n := by simp [mkRecordL]
theorem mkRecordL_at (m0 n i : Nat) (h : i < n) : (mkRecordL m0 n)[i]? = some (mkRecord (m0 + 5 * i)) := by rw [mkRecordL, List.getElem?_map, List.getElem?_range h]; rfl
theorem mkRecord_ok (M : Nat) (h : M + 5 ≤ 1000000000000) : ReRok (mkRecord M) := by
  unfold ReRok mkRecord
  dsimp only
  exact ⟨int_wf9 (by omega) (by omega), int_wf9 (by omega) (by omega), int_wf9 (by omega) (by omega), int_wf9 (by omega) (by omega)⟩
theorem mkRecordL_ok (m0 n : Nat) (h : m0 + 5 * n ≤ 1000000000000) : ∀ x, x ∈ mkRecordL m0 n → ReRok x := by
  intro x hx
  unfold mkRecordL at hx
  simp at hx
  obtain ⟨i, hi, rfl⟩ := hx
  exact mkRecord_ok _ (by omega)
def mkRecord_0 (x : RecV) (M : Nat) : RecV := { x with id := (M : Int) }
def mkRecord_1 (x : RecV) (M : Nat) : RecV := { mkRecord_0 x M with tm := (M : Int) + 1 }
def mkRecord_2 (x : RecV) (M : Nat) : RecV := { mkRecord_1 x M with ca := (M : Int) + 1 + 1 }
def mkRecord_3 (x : RecV) (M : Nat) : RecV := { mkRecord_2 x M with bt := (M : Int) + 1 + 1 + 1 }
def mkRecord_4 (x : RecV) (M : Nat) : RecV := { mkRecord_3 x M with st := (((M : Int) + 1 + 1 + 1 + 1) % 3 == 0) }
set_option maxHeartbeats 4000000 in
theorem markRecordS_any (a : Option Addr) (n cap B m0 : Nat) (L : List RecV) (w : World) (h : OwnS evG 5 109 w B (.slice a n cap) L) (h0 : 0 < m0) (hm : m0 + 5 * n ≤ 100000000000) :
    Calls Tryd.prog 46 #[.slice a n cap, .int .i64 (m0 : Int)] w fun e w' => e = .returned (.int .i64 ((m0 + 5 * n : Nat) : Int)) ∧ OwnS evG 5 109 w' B (.slice a n cap) (mkRecordL m0 n) ∧ w.grownBy w' (Value.slice a n cap).ownBlock := by
  have H : Hid (OwnS evG 5 109 w B (.slice a n cap) L) := h
  have hn := h.len
  have hlen : n ≤ 100000000000 := by omega
  clear h
  go_enter Tryd.func46, Tryd.ntmps46
  go_wp2
  go_loopw [1, 5] (fun m i wr => ∃ (k M : Nat) (L' : List RecV), k ≤ n ∧ i = .int .i64 k ∧ m = .int .i64 (M : Int) ∧ Hid (M = m0 + 5 * k) ∧ Hid (OwnS evG 5 109 wr B (.slice a n cap) L' ∧ L'.length = n ∧ L'.take k = (mkRecordL m0 n).take k ∧ w.grownBy wr (Value.slice a n cap).ownBlock)) (fun _ i _ => n - (intOf i).toNat)
  case atStart => exact ⟨0, m0, L, Nat.zero_le _, rfl, rfl, by show m0 = _; omega, H.out, hn, rfl, grown_refl w _⟩
  case round =>
    obtain ⟨k, M, L', hk, rfl, rfl, hM, X⟩ := hrel
    by_cases hlt : k < n
    · obtain ⟨g, rfl, hBg, hg, -⟩ := X.out.1.form (by rw [X.out.2.1]; omega)
      obtain ⟨x, hx⟩ := at_of (k := k) X.out.2.1 hlt
      have hltz : (k : Int) < (n : Int) := by omega
      have hMz : (M : Int) ≤ 200000000000 := by have := hM.out; omega
      have hM0 : 0 < M := by have := hM.out; omega
      have G0 : Hid (w.grownBy wr (some g)) := X.out.2.2.2
      have o0 := X.out.1
      have hT : Hid (L'.length = n ∧ L'.take k = (mkRecordL m0 n).take k) := ⟨X.out.2.1, X.out.2.2.1⟩
      clear X
      obtain ⟨c0, z0⟩ := o0.cell evG_len (j := 0) hx rfl
      replace c0 : wr.cell? ⟨g, k * 5, none⟩ = some (.int .i64 x.id) := c0
      replace z0 : wr.frozen? ⟨g, k * 5, none⟩ = false := z0
      obtain ⟨c1, z1⟩ := o0.cell evG_len (j := 1) hx rfl
      obtain ⟨c2, z2⟩ := o0.cell evG_len (j := 2) hx rfl
      obtain ⟨c3, z3⟩ := o0.cell evG_len (j := 3) hx rfl
      obtain ⟨c4, z4⟩ := o0.cell evG_len (j := 4) hx rfl
      have s0 := o0.set1 evG_len (j := 0) (y := (mkRecord_0 x M)) (u := .int .i64 ((M : Int))) hx (by omega) rfl
      have hx0 : (L'.set k (mkRecord_0 x M))[k]? = some (mkRecord_0 x M) := List.getElem?_set_self (by rw [hT.out.1]; exact hlt)
      have s1 := s0.1.set1 evG_len (j := 1) (y := (mkRecord_1 x M)) (u := .int .i64 ((M : Int) + 1)) hx0 (by omega) rfl
      rw [List.set_set] at s1
      have hx1 : (L'.set k (mkRecord_1 x M))[k]? = some (mkRecord_1 x M) := List.getElem?_set_self (by rw [hT.out.1]; exact hlt)
      have s2 := s1.1.set1 evG_len (j := 2) (y := (mkRecord_2 x M)) (u := .int .i64 ((M : Int) + 1 + 1)) hx1 (by omega) rfl
      rw [List.set_set] at s2
      have hx2 : (L'.set k (mkRecord_2 x M))[k]? = some (mkRecord_2 x M) := List.getElem?_set_self (by rw [hT.out.1]; exact hlt)
      have s3 := s2.1.set1 evG_len (j := 3) (y := (mkRecord_3 x M)) (u := .int .i64 ((M : Int) + 1 + 1 + 1)) hx2 (by omega) rfl
      rw [List.set_set] at s3
      have hx3 : (L'.set k (mkRecord_3 x M))[k]? = some (mkRecord_3 x M) := List.getElem?_set_self (by rw [hT.out.1]; exact hlt)
      have s4 := s3.1.set1 evG_len (j := 4) (y := (mkRecord_4 x M)) (u := .bool (((M : Int) + 1 + 1 + 1 + 1) % 3 == 0)) hx3 (by omega) rfl
      rw [List.set_set] at s4
      have hx4 : (L'.set k (mkRecord_4 x M))[k]? = some (mkRecord_4 x M) := List.getElem?_set_self (by rw [hT.out.1]; exact hlt)
      have Z0 : Hid (OwnS evG 5 109 (((((wr.setCell ⟨g, k * 5, none⟩ (.int .i64 ((M : Int)))).setCell ⟨g, k * 5 + 1, none⟩ (.int .i64 ((M : Int) + 1))).setCell ⟨g, k * 5 + 2, none⟩ (.int .i64 ((M : Int) + 1 + 1))).setCell ⟨g, k * 5 + 3, none⟩ (.int .i64 ((M : Int) + 1 + 1 + 1))).setCell ⟨g, k * 5 + 4, none⟩ (.bool (((M : Int) + 1 + 1 + 1 + 1) % 3 == 0))) B (.slice (some ⟨g, 0, none⟩) n cap) (L'.set k (mkRecord_4 x M)) ∧ w.grownBy (((((wr.setCell ⟨g, k * 5, none⟩ (.int .i64 ((M : Int)))).setCell ⟨g, k * 5 + 1, none⟩ (.int .i64 ((M : Int) + 1))).setCell ⟨g, k * 5 + 2, none⟩ (.int .i64 ((M : Int) + 1 + 1))).setCell ⟨g, k * 5 + 3, none⟩ (.int .i64 ((M : Int) + 1 + 1 + 1))).setCell ⟨g, k * 5 + 4, none⟩ (.bool (((M : Int) + 1 + 1 + 1 + 1) % 3 == 0))) (some g)) := ⟨s4.1, (grown_tr (grown_tr (grown_tr (grown_tr (grown_tr G0.out s0.2) s1.2) s2.2) s3.2) s4.2)⟩
      have hy0 : Hid ((L'.set k (mkRecord_4 x M))[k]? = some (mkRecord_4 x M)) := hx4
      clear o0 G0 s0 hx0 s1 hx1 s2 hx2 s3 hx3 s4 hx4 hx
      have eRecord : (mkRecord_4 x M) = mkRecord M := rfl
      rw [eRecord] at Z0
      have YY : Hid (OwnS evG 5 109 (((((wr.setCell ⟨g, k * 5, none⟩ (.int .i64 ((M : Int)))).setCell ⟨g, k * 5 + 1, none⟩ (.int .i64 ((M : Int) + 1))).setCell ⟨g, k * 5 + 2, none⟩ (.int .i64 ((M : Int) + 1 + 1))).setCell ⟨g, k * 5 + 3, none⟩ (.int .i64 ((M : Int) + 1 + 1 + 1))).setCell ⟨g, k * 5 + 4, none⟩ (.bool (((M : Int) + 1 + 1 + 1 + 1) % 3 == 0))) B (.slice (some ⟨g, 0, none⟩) n cap) (L'.set k (mkRecord M)) ∧ (L'.set k (mkRecord M)).length = n ∧ (L'.set k (mkRecord M)).take (k + 1) = (mkRecordL m0 n).take (k + 1) ∧ w.grownBy (((((wr.setCell ⟨g, k * 5, none⟩ (.int .i64 ((M : Int)))).setCell ⟨g, k * 5 + 1, none⟩ (.int .i64 ((M : Int) + 1))).setCell ⟨g, k * 5 + 2, none⟩ (.int .i64 ((M : Int) + 1 + 1))).setCell ⟨g, k * 5 + 3, none⟩ (.int .i64 ((M : Int) + 1 + 1 + 1))).setCell ⟨g, k * 5 + 4, none⟩ (.bool (((M : Int) + 1 + 1 + 1 + 1) % 3 == 0))) (some g)) := ⟨Z0.out.1, by rw [List.length_set]; exact hT.out.1, takeS_set (by rw [hT.out.1, mkRecordL_len]) (by rw [mkRecordL_at m0 n k hlt, hM.out]) hT.out.2, Z0.out.2⟩
      clear Z0 hT hy0
      go_wp2
      go_roundw
      case rel => exact ⟨k + 1, M + 5, _, by omega, by go_num, by go_num, (show M + 5 = m0 + 5 * (k + 1) by have := hM.out; omega), YY⟩
      case measure => simp [intOf]; omega
    · obtain rfl : k = n := by omega
      have e1 : L' = mkRecordL m0 k := by
        have := X.out.2.2.1
        rwa [List.take_of_length_le (by rw [X.out.2.1]; exact Nat.le_refl _), List.take_of_length_le (by rw [mkRecordL_len]; exact Nat.le_refl _)] at this
      subst e1
      have hM2 := hM.out
      subst hM2
      go_wp2
      go_ret
      exact ⟨rfl, X.out.1, X.out.2.2.2⟩
set_option maxHeartbeats 4000000 in
theorem heldRecordS_any (a : Option Addr) (n cap m0 : Nat) (w : World) (h : Rw ReR 5 w a (mkRecordL m0 n)) (h0 : 0 < m0) (hm : m0 + 5 * n ≤ 100000000000) :
    Calls Tryd.prog 53 #[.slice a n cap, .int .i64 (m0 : Int)] w fun e w' => e = .returned (.int .i64 ((m0 + 5 * n : Nat) : Int)) ∧ Grw w w' := by
  have H : Hid (Rw ReR 5 w a (mkRecordL m0 n)) := h
  have hlen : n ≤ 100000000000 := by omega
  clear h
  have hmix : Tryd.prog.follows .mixedOrders = true := by kernel_rfl
  go_enter Tryd.func53, Tryd.ntmps53
  go_wp2
  go_loopw [1, 5] (fun m i wr => ∃ k M : Nat, k ≤ n ∧ i = .int .i64 k ∧ m = .int .i64 (M : Int) ∧ Hid (M = m0 + 5 * k) ∧ Hid (Grw w wr)) (fun _ i _ => n - (intOf i).toNat)
  case atStart => exact ⟨0, m0, Nat.zero_le _, rfl, rfl, by show m0 = _; omega, Grw.refl w⟩
  case round =>
    obtain ⟨k, M, hk, rfl, rfl, hM, HG⟩ := hrel
    by_cases hlt : k < n
    · obtain ⟨b, off, vs, rfl, hb, hvl, hR, hc⟩ := H.out.at ReR.kp HG.out.below (mkRecordL_at m0 n k hlt)
      rw [← hM.out] at hR
      obtain ⟨rfl, -⟩ := hR
      have hltz : (k : Int) < (n : Int) := by omega
      have hMz : (M : Int) ≤ 200000000000 := by have := hM.out; omega
      have hM0 : 0 < M := by have := hM.out; omega
      have q0 : wr.cell? ⟨b, off + k * 5, none⟩ = some (.int .i64 ((M : Int))) := hc 0 _ rfl
      have q1 : wr.cell? ⟨b, off + k * 5 + 1, none⟩ = some (.int .i64 ((M : Int) + 1)) := hc 1 _ rfl
      have q2 : wr.cell? ⟨b, off + k * 5 + 2, none⟩ = some (.int .i64 ((M : Int) + 1 + 1)) := hc 2 _ rfl
      have q3 : wr.cell? ⟨b, off + k * 5 + 3, none⟩ = some (.int .i64 ((M : Int) + 1 + 1 + 1)) := hc 3 _ rfl
      have q4 : wr.cell? ⟨b, off + k * 5 + 4, none⟩ = some (.bool (((M : Int) + 1 + 1 + 1 + 1) % 3 == 0)) := hc 4 _ rfl
      clear hc hvl
      have e0 : (((M : Int)) != ((M : Int))) = false := by simp
      have e1 : (((M : Int) + 1) != ((M : Int) + 1)) = false := by simp
      have e2 : (((M : Int) + 1 + 1) != ((M : Int) + 1 + 1)) = false := by simp
      have e3 : (((M : Int) + 1 + 1 + 1) != ((M : Int) + 1 + 1 + 1)) = false := by simp
      have e4 : ((((M : Int) + 1 + 1 + 1 + 1) % 3 == 0) != (((M : Int) + 1 + 1 + 1 + 1) % 3 == 0)) = false := by simp
      go_wp2
      go_roundw
      case rel => exact ⟨k + 1, M + 5, by omega, by go_num, by go_num, (show M + 5 = m0 + 5 * (k + 1) by have := hM.out; omega), HG⟩
      case measure => simp [intOf]; omega
    · obtain rfl : k = n := by omega
      have hM2 := hM.out
      subst hM2
      go_wp2
      go_ret
      exact ⟨rfl, HG.out⟩
end Go.Proofs.YtbeehlhcckndcaaDoor

namespace Go.Proofs.YtbeehlhcckndcaaDoor
open Go.RowKit Go.PlainAid Go.Proofs.YtbeehlhcckndcaaDoor.Bt Go.Sort
set_option linter.unusedVariables false
set_option maxRecDepth 20000
end Go.Proofs.YtbeehlhcckndcaaDoor

namespace Go.Proofs.YtbeehlhcckndcaaDoor
open Go.RowKit Go.PlainAid Go.Proofs.YtbeehlhcckndcaaDoor.Bt Go.Sort
set_option linter.unusedVariables false
set_option maxRecDepth 20000
theorem oneUser (ys : List UserV) : ∀ u ∈ flatS uvG ys, u.oneCell' = true := by
  intro u hu
  unfold flatS at hu
  rw [List.mem_flatMap] at hu
  obtain ⟨f, _, hf⟩ := hu
  simp [uvG] at hf
  rcases hf with rfl | rfl | rfl | rfl | rfl | rfl <;> rfl
/-- 'append(row, ys...)'. -/
theorem wpl_User (w : World) {ops : Array Oper} {rest : List Oper} {o : Oper} {a : Act} {Q : Exit → Act → World → Prop} (hgd : o.guard = none) (s x : Operand)
    (ho : o.op = .call { callee := .builtin .append, args := #[s, x], argTypes := #[28, 28] })
    (B : Nat) (v : Value) (L ys : List UserV) (hs : a.eval s = v) (hown : OwnS uvG 6 46 w B v L)
    (g off m c : Nat) (hm : ys.length = m) (hx : a.eval x = .slice (some ⟨g, off, none⟩) m c) (hc : ∀ j u, (flatS uvG ys)[j]? = some u → w.cell? ⟨g, off + j, none⟩ = some u)
    (hlen : L.length + m ≤ 2000000) (hB : B ≤ w.heap.size)
    (h : ∀ v' w', Hid (OwnS uvG 6 46 w' B v' (L ++ ys) ∧ Below B w w') → w.grownBy w' v.ownBlock → wpList Tryd.prog ops Q rest (a.put o.dst v') w') : wpList Tryd.prog ops Q (o :: rest) a w := by
  obtain ⟨i0, hi, hz0, hz1, hz2⟩ := info_parts infoUser
  refine wpList_append_own w hgd s x 28 ho B 46 i0 (.agg #[.string ⟨#[]⟩, .string ⟨#[]⟩, .string ⟨#[]⟩, .string ⟨#[]⟩, .int .i64 0, .int .i64 0]) 6 80 Tryd.underlying28 hi hz0 hz1 hz2 rfl (by decide) v L.length (flatS uvG L) hs hown ⟨g, off, none⟩ m c (flatS uvG ys) hx (by rw [flatS_len uvG_len, hm]) ?_
    (oneUser ys) (by unfold maxLen; omega) (by omega) hB ?_
  · intro j u hu
    rw [addn]
    exact hc j u hu
  · intro v' w' h2 h3 _
    subst hm
    exact h v' w' (hown.join hB h2 h3) h3
/-- The same, of what may be nil. -/
theorem wpl_UserS (w : World) {ops : Array Oper} {rest : List Oper} {o : Oper} {a : Act} {Q : Exit → Act → World → Prop} (hgd : o.guard = none) (s x : Operand)
    (ho : o.op = .call { callee := .builtin .append, args := #[s, x], argTypes := #[28, 28] })
    (B : Nat) (v : Value) (L ys : List UserV) (hs : a.eval s = v) (hown : OwnS uvG 6 46 w B v L)
    (p : Option Addr) (m c : Nat) (hrw : Rw UsR 6 w p ys) (hm : ys.length = m) (hsp : ∀ q, p = some q → q.spot = none) (hnil : p = none → m = 0 ∧ c = 0) (hx : a.eval x = .slice p m c)
    (hlen : L.length + m ≤ 2000000) (hB : B ≤ w.heap.size)
    (h : ∀ v' w', Hid (OwnS uvG 6 46 w' B v' (L ++ ys) ∧ Below B w w') → w.grownBy w' v.ownBlock → wpList Tryd.prog ops Q rest (a.put o.dst v') w') : wpList Tryd.prog ops Q (o :: rest) a w := by
  cases p with
  | some q =>
    obtain ⟨b, off, pt⟩ := q
    obtain rfl : pt = none := hsp _ rfl
    have h' : Rw (FR uvG UsRok) 6 w (some ⟨b, off, none⟩) ys := hrw
    exact wpl_User w hgd s x ho B v L ys hs hown b off m c hm hx (flat_rw h' uvG_len (by omega)) hlen hB h
  | none =>
    obtain ⟨rfl, rfl⟩ := hnil rfl
    obtain rfl : ys = [] := List.length_eq_zero_iff.1 hm
    obtain ⟨i0, hi, hz0, hz1, hz2⟩ := info_parts infoUser
    refine wpList_append_own_none hgd s x 28 ho B 46 i0 6 Tryd.underlying28 hi v L.length (flatS uvG L) hs hown hx (h v w ?_ (grown_refl w _))
    rw [List.append_nil]
    exact ⟨hown, Below.refl _ _⟩
theorem oneSession (ys : List SessV) : ∀ u ∈ flatS svG ys, u.oneCell' = true := by
  intro u hu
  unfold flatS at hu
  rw [List.mem_flatMap] at hu
  obtain ⟨f, _, hf⟩ := hu
  simp [svG] at hf
  rcases hf with rfl | rfl | rfl | rfl | rfl | rfl | rfl | rfl | rfl | rfl <;> rfl
/-- 'append(row, ys...)'. -/
theorem wpl_Session (w : World) {ops : Array Oper} {rest : List Oper} {o : Oper} {a : Act} {Q : Exit → Act → World → Prop} (hgd : o.guard = none) (s x : Operand)
    (ho : o.op = .call { callee := .builtin .append, args := #[s, x], argTypes := #[29, 29] })
    (B : Nat) (v : Value) (L ys : List SessV) (hs : a.eval s = v) (hown : OwnS svG 10 103 w B v L)
    (g off m c : Nat) (hm : ys.length = m) (hx : a.eval x = .slice (some ⟨g, off, none⟩) m c) (hc : ∀ j u, (flatS svG ys)[j]? = some u → w.cell? ⟨g, off + j, none⟩ = some u)
    (hlen : L.length + m ≤ 2000000) (hB : B ≤ w.heap.size)
    (h : ∀ v' w', Hid (OwnS svG 10 103 w' B v' (L ++ ys) ∧ Below B w w') → w.grownBy w' v.ownBlock → wpList Tryd.prog ops Q rest (a.put o.dst v') w') : wpList Tryd.prog ops Q (o :: rest) a w := by
  obtain ⟨i0, hi, hz0, hz1, hz2⟩ := info_parts infoSession
  refine wpList_append_own w hgd s x 29 ho B 103 i0 (.agg #[.int .i64 0, .int .i64 0, .string ⟨#[]⟩, .int .i64 0, .int .i64 0, .int .i64 0, .int .i64 0, .int .i64 0, .int .i64 0, .int .i64 0]) 10 88 Tryd.underlying29 hi hz0 hz1 hz2 rfl (by decide) v L.length (flatS svG L) hs hown ⟨g, off, none⟩ m c (flatS svG ys) hx (by rw [flatS_len svG_len, hm]) ?_
    (oneSession ys) (by unfold maxLen; omega) (by omega) hB ?_
  · intro j u hu
    rw [addn]
    exact hc j u hu
  · intro v' w' h2 h3 _
    subst hm
    exact h v' w' (hown.join hB h2 h3) h3
/-- The same, of what may be nil. -/
theorem wpl_SessionS (w : World) {ops : Array Oper} {rest : List Oper} {o : Oper} {a : Act} {Q : Exit → Act → World → Prop} (hgd : o.guard = none) (s x : Operand)
    (ho : o.op = .call { callee := .builtin .append, args := #[s, x], argTypes := #[29, 29] })
    (B : Nat) (v : Value) (L ys : List SessV) (hs : a.eval s = v) (hown : OwnS svG 10 103 w B v L)
    (p : Option Addr) (m c : Nat) (hrw : Rw SeR 10 w p ys) (hm : ys.length = m) (hsp : ∀ q, p = some q → q.spot = none) (hnil : p = none → m = 0 ∧ c = 0) (hx : a.eval x = .slice p m c)
    (hlen : L.length + m ≤ 2000000) (hB : B ≤ w.heap.size)
    (h : ∀ v' w', Hid (OwnS svG 10 103 w' B v' (L ++ ys) ∧ Below B w w') → w.grownBy w' v.ownBlock → wpList Tryd.prog ops Q rest (a.put o.dst v') w') : wpList Tryd.prog ops Q (o :: rest) a w := by
  cases p with
  | some q =>
    obtain ⟨b, off, pt⟩ := q
    obtain rfl : pt = none := hsp _ rfl
    have h' : Rw (FR svG SeRok) 10 w (some ⟨b, off, none⟩) ys := hrw
    exact wpl_Session w hgd s x ho B v L ys hs hown b off m c hm hx (flat_rw h' svG_len (by omega)) hlen hB h
  | none =>
    obtain ⟨rfl, rfl⟩ := hnil rfl
    obtain rfl : ys = [] := List.length_eq_zero_iff.1 hm
    obtain ⟨i0, hi, hz0, hz1, hz2⟩ := info_parts infoSession
    refine wpList_append_own_none hgd s x 29 ho B 103 i0 10 Tryd.underlying29 hi v L.length (flatS svG L) hs hown hx (h v w ?_ (grown_refl w _))
    rw [List.append_nil]
    exact ⟨hown, Below.refl _ _⟩
theorem oneFail (ys : List FailV) : ∀ u ∈ flatS fvG ys, u.oneCell' = true := by
  intro u hu
  unfold flatS at hu
  rw [List.mem_flatMap] at hu
  obtain ⟨f, _, hf⟩ := hu
  simp [fvG] at hf
  rcases hf with rfl | rfl | rfl <;> rfl
/-- 'append(row, ys...)'. -/
theorem wpl_Fail (w : World) {ops : Array Oper} {rest : List Oper} {o : Oper} {a : Act} {Q : Exit → Act → World → Prop} (hgd : o.guard = none) (s x : Operand)
    (ho : o.op = .call { callee := .builtin .append, args := #[s, x], argTypes := #[30, 30] })
    (B : Nat) (v : Value) (L ys : List FailV) (hs : a.eval s = v) (hown : OwnS fvG 3 106 w B v L)
    (g off m c : Nat) (hm : ys.length = m) (hx : a.eval x = .slice (some ⟨g, off, none⟩) m c) (hc : ∀ j u, (flatS fvG ys)[j]? = some u → w.cell? ⟨g, off + j, none⟩ = some u)
    (hlen : L.length + m ≤ 2000000) (hB : B ≤ w.heap.size)
    (h : ∀ v' w', Hid (OwnS fvG 3 106 w' B v' (L ++ ys) ∧ Below B w w') → w.grownBy w' v.ownBlock → wpList Tryd.prog ops Q rest (a.put o.dst v') w') : wpList Tryd.prog ops Q (o :: rest) a w := by
  obtain ⟨i0, hi, hz0, hz1, hz2⟩ := info_parts infoFail
  refine wpList_append_own w hgd s x 30 ho B 106 i0 (.agg #[.string ⟨#[]⟩, .int .i64 0, .int .i64 0]) 3 32 Tryd.underlying30 hi hz0 hz1 hz2 rfl (by decide) v L.length (flatS fvG L) hs hown ⟨g, off, none⟩ m c (flatS fvG ys) hx (by rw [flatS_len fvG_len, hm]) ?_
    (oneFail ys) (by unfold maxLen; omega) (by omega) hB ?_
  · intro j u hu
    rw [addn]
    exact hc j u hu
  · intro v' w' h2 h3 _
    subst hm
    exact h v' w' (hown.join hB h2 h3) h3
/-- The same, of what may be nil. -/
theorem wpl_FailS (w : World) {ops : Array Oper} {rest : List Oper} {o : Oper} {a : Act} {Q : Exit → Act → World → Prop} (hgd : o.guard = none) (s x : Operand)
    (ho : o.op = .call { callee := .builtin .append, args := #[s, x], argTypes := #[30, 30] })
    (B : Nat) (v : Value) (L ys : List FailV) (hs : a.eval s = v) (hown : OwnS fvG 3 106 w B v L)
    (p : Option Addr) (m c : Nat) (hrw : Rw FaR 3 w p ys) (hm : ys.length = m) (hsp : ∀ q, p = some q → q.spot = none) (hnil : p = none → m = 0 ∧ c = 0) (hx : a.eval x = .slice p m c)
    (hlen : L.length + m ≤ 2000000) (hB : B ≤ w.heap.size)
    (h : ∀ v' w', Hid (OwnS fvG 3 106 w' B v' (L ++ ys) ∧ Below B w w') → w.grownBy w' v.ownBlock → wpList Tryd.prog ops Q rest (a.put o.dst v') w') : wpList Tryd.prog ops Q (o :: rest) a w := by
  cases p with
  | some q =>
    obtain ⟨b, off, pt⟩ := q
    obtain rfl : pt = none := hsp _ rfl
    have h' : Rw (FR fvG FaRok) 3 w (some ⟨b, off, none⟩) ys := hrw
    exact wpl_Fail w hgd s x ho B v L ys hs hown b off m c hm hx (flat_rw h' fvG_len (by omega)) hlen hB h
  | none =>
    obtain ⟨rfl, rfl⟩ := hnil rfl
    obtain rfl : ys = [] := List.length_eq_zero_iff.1 hm
    obtain ⟨i0, hi, hz0, hz1, hz2⟩ := info_parts infoFail
    refine wpList_append_own_none hgd s x 30 ho B 106 i0 3 Tryd.underlying30 hi v L.length (flatS fvG L) hs hown hx (h v w ?_ (grown_refl w _))
    rw [List.append_nil]
    exact ⟨hown, Below.refl _ _⟩
theorem oneRecord (ys : List RecV) : ∀ u ∈ flatS evG ys, u.oneCell' = true := by
  intro u hu
  unfold flatS at hu
  rw [List.mem_flatMap] at hu
  obtain ⟨f, _, hf⟩ := hu
  simp [evG] at hf
  rcases hf with rfl | rfl | rfl | rfl | rfl <;> rfl
/-- 'append(row, ys...)'. -/
theorem wpl_Record (w : World) {ops : Array Oper} {rest : List Oper} {o : Oper} {a : Act} {Q : Exit → Act → World → Prop} (hgd : o.guard = none) (s x : Operand)
    (ho : o.op = .call { callee := .builtin .append, args := #[s, x], argTypes := #[31, 31] })
    (B : Nat) (v : Value) (L ys : List RecV) (hs : a.eval s = v) (hown : OwnS evG 5 109 w B v L)
    (g off m c : Nat) (hm : ys.length = m) (hx : a.eval x = .slice (some ⟨g, off, none⟩) m c) (hc : ∀ j u, (flatS evG ys)[j]? = some u → w.cell? ⟨g, off + j, none⟩ = some u)
    (hlen : L.length + m ≤ 2000000) (hB : B ≤ w.heap.size)
    (h : ∀ v' w', Hid (OwnS evG 5 109 w' B v' (L ++ ys) ∧ Below B w w') → w.grownBy w' v.ownBlock → wpList Tryd.prog ops Q rest (a.put o.dst v') w') : wpList Tryd.prog ops Q (o :: rest) a w := by
  obtain ⟨i0, hi, hz0, hz1, hz2⟩ := info_parts infoRecord
  refine wpList_append_own w hgd s x 31 ho B 109 i0 (.agg #[.int .i64 0, .int .i64 0, .int .i64 0, .int .i64 0, .bool false]) 5 40 Tryd.underlying31 hi hz0 hz1 hz2 rfl (by decide) v L.length (flatS evG L) hs hown ⟨g, off, none⟩ m c (flatS evG ys) hx (by rw [flatS_len evG_len, hm]) ?_
    (oneRecord ys) (by unfold maxLen; omega) (by omega) hB ?_
  · intro j u hu
    rw [addn]
    exact hc j u hu
  · intro v' w' h2 h3 _
    subst hm
    exact h v' w' (hown.join hB h2 h3) h3
/-- The same, of what may be nil. -/
theorem wpl_RecordS (w : World) {ops : Array Oper} {rest : List Oper} {o : Oper} {a : Act} {Q : Exit → Act → World → Prop} (hgd : o.guard = none) (s x : Operand)
    (ho : o.op = .call { callee := .builtin .append, args := #[s, x], argTypes := #[31, 31] })
    (B : Nat) (v : Value) (L ys : List RecV) (hs : a.eval s = v) (hown : OwnS evG 5 109 w B v L)
    (p : Option Addr) (m c : Nat) (hrw : Rw ReR 5 w p ys) (hm : ys.length = m) (hsp : ∀ q, p = some q → q.spot = none) (hnil : p = none → m = 0 ∧ c = 0) (hx : a.eval x = .slice p m c)
    (hlen : L.length + m ≤ 2000000) (hB : B ≤ w.heap.size)
    (h : ∀ v' w', Hid (OwnS evG 5 109 w' B v' (L ++ ys) ∧ Below B w w') → w.grownBy w' v.ownBlock → wpList Tryd.prog ops Q rest (a.put o.dst v') w') : wpList Tryd.prog ops Q (o :: rest) a w := by
  cases p with
  | some q =>
    obtain ⟨b, off, pt⟩ := q
    obtain rfl : pt = none := hsp _ rfl
    have h' : Rw (FR evG ReRok) 5 w (some ⟨b, off, none⟩) ys := hrw
    exact wpl_Record w hgd s x ho B v L ys hs hown b off m c hm hx (flat_rw h' evG_len (by omega)) hlen hB h
  | none =>
    obtain ⟨rfl, rfl⟩ := hnil rfl
    obtain rfl : ys = [] := List.length_eq_zero_iff.1 hm
    obtain ⟨i0, hi, hz0, hz1, hz2⟩ := info_parts infoRecord
    refine wpList_append_own_none hgd s x 31 ho B 109 i0 5 Tryd.underlying31 hi v L.length (flatS evG L) hs hown hx (h v w ?_ (grown_refl w _))
    rw [List.append_nil]
    exact ⟨hown, Below.refl _ _⟩
end Go.Proofs.YtbeehlhcckndcaaDoor
