/- LanesOf; the walk of laws.FnPasses. -/
import Derived.Test.YthokaemeadhkjaaDrawFs
import Derived.Test.YthokaemeadhkjaaSameF
import Derived.Test.YthokaemeadhkjaaAtV
namespace Go.Proofs.Ythokaemeadhkjaa
open Go.RowKit Go.PlainAid Go.Proofs.Ythokaemeadhkjaa.Bt Go.Sort
set_option linter.unusedVariables false
set_option maxRecDepth 20000

theorem box_same {w w' : World} {r : Option Nat} {b : Nat} (hg : w.grownBy w' r) (hne : some b ≠ r) (hb : b < w.heap.size) : (∀ i, w'.cell? ⟨b, i, none⟩ = w.cell? ⟨b, i, none⟩) ∧ ∀ i, w'.frozen? ⟨b, i, none⟩ = w.frozen? ⟨b, i, none⟩ :=
  ⟨fun i => World.cell?_of_block (hg.block b hb hne), fun i => World.frozen?_of_block (hg.block b hb hne)⟩
set_option maxHeartbeats 1000000 in
theorem LanesOf_any (w : World) (a : Option Addr) (len cap : Nat) (f : Nat → Int) (h : Bytes w a len f) (hl : len ≤ 1048576) (hlt : ∀ b off, 0 < len → a = some ⟨b, off, none⟩ → b < w.heap.size) :
    Calls Try.prog 9 #[.slice a len cap] w fun e w' => ∃ (x : Option Addr) (c : Nat) (fs : List FlowV) (now : Int), e = .returned (.agg #[.slice x fs.length c, .int .i64 now]) ∧ Hid (∃ g, x = some ⟨g, 0, none⟩ ∧ fs.length ≤ c) ∧ Hid (OwnS wvG 9 28 w' w.heap.size (.slice x fs.length c) fs ∧ foB fs = true ∧ (0 ≤ now ∧ now ≤ 22) ∧ Below w.heap.size w w') := by
  have HB : Hid (Bytes w a len f) := h
  have HL : Hid (∀ b off, 0 < len → a = some ⟨b, off, none⟩ → b < w.heap.size) := hlt
  clear h hlt
  go_enter Try.func9, Try.ntmps9
  go_wp2_with fail
  refine (l00Source_any _ a len cap f (HB.out.below (B := w.heap.size) ((Below.refl _ _).alloc (Nat.le_refl _) _) HL.out) hl (fun b off h0 e => by have := HL.out b off h0 e; simp; omega)).mono ?_
  rintro e w1 ⟨rfl, hs, hg, hz⟩
  rw [World.size_alloc] at hs hz
  have bx := box_same hg (b := w.heap.size) (by simp) (by simp)
  have X1 : Hid (Src w1 (w.heap.size + 1) a len cap f 0 ∧ Below w.heap.size w w1 ∧ w1.heap.size = w.heap.size + 1 + 1) := ⟨hs, ((Below.refl _ _).alloc (Nat.le_refl _) _).grown hg (by simp) (by simp), hz⟩
  have c0 : w1.cell? ⟨w.heap.size, 0, none⟩ = some (.slice none 0 0) := by rw [bx.1]; simp
  have c1 : w1.cell? ⟨w.heap.size, 1, none⟩ = some (.int .i64 0) := by rw [bx.1]; simp
  have z0 : w1.frozen? ⟨w.heap.size, 0, none⟩ = false := by rw [bx.2]; simp
  have z1 : w1.frozen? ⟨w.heap.size, 1, none⟩ = false := by rw [bx.2]; simp
  clear hs hg hz bx
  go_wp2_with fail
  refine (flowsD w1 (w.heap.size + 1) a len cap f X1.out.1).mono ?_
  rintro e w2 ⟨x, c, fs, now, rfl, NX, Y⟩
  have bx := box_same Y.out.2.2.2.2 (b := w.heap.size) (by simp) (by have := X1.out.2.2; omega)
  have d0 : w2.cell? ⟨w.heap.size, 0, none⟩ = some (.slice none 0 0) := by rw [bx.1]; exact c0
  have d1 : w2.cell? ⟨w.heap.size, 1, none⟩ = some (.int .i64 0) := by rw [bx.1]; exact c1
  have y0 : w2.frozen? ⟨w.heap.size, 0, none⟩ = false := by rw [bx.2]; exact z0
  have y1 : w2.frozen? ⟨w.heap.size, 1, none⟩ = false := by rw [bx.2]; exact z1
  have hs := X1.out.2.2
  have G2 : Below w.heap.size w w2 := X1.out.2.1.grown Y.out.2.2.2.2 (by omega) (fun k hk => by cases hk; omega)
  have Z : Hid (OwnS wvG 9 28 ((w2.setCell ⟨w.heap.size, 0, none⟩ (.slice x fs.length c)).setCell ⟨w.heap.size, 1, none⟩ (.int .i64 now)) w.heap.size (.slice x fs.length c) fs ∧ foB fs = true ∧ (0 ≤ now ∧ now ≤ 22) ∧ Below w.heap.size w ((w2.setCell ⟨w.heap.size, 0, none⟩ (.slice x fs.length c)).setCell ⟨w.heap.size, 1, none⟩ (.int .i64 now))) := by
    have far : ∀ (W : World) v i, W.grownBy (W.setCell ⟨w.heap.size, i, none⟩ v) (some w.heap.size) := fun W v i => ⟨rfl, rfl, rfl, by simp, fun b hl hr => Below.heap_setCell _ _ _ _ (fun e => hr (by rw [e]))⟩
    have hne : (Value.slice x fs.length c).ownBlock ≠ some w.heap.size := fun e => by have := (Y.out.1.lt _ e).1; omega
    exact ⟨((Y.out.1.lower (by omega)).kept (far _ _ 0) (.inr hne)).kept (far _ _ 1) (.inr hne), Y.out.2.1, ⟨Y.out.2.2.1, Y.out.2.2.2.1⟩, (G2.setCell (p := ⟨w.heap.size, 0, none⟩) (Nat.le_refl _) _).setCell (p := ⟨w.heap.size, 1, none⟩) (Nat.le_refl _) _⟩
  clear bx G2 hs Y X1 c0 c1 z0 z1
  go_wp2
  (try simp only [Exit.inBlock, Exit.then])
  refine bodyPost_ret (v := .agg #[.slice x fs.length c, .int .i64 now]) (by simp [results, Try.results9, go_sem, *]; try rfl) rfl ?_
  exact ⟨x, c, fs, now, rfl, NX, Z⟩
/-- What FnPasses asks of the one that was passed by. -/
theorem pass_facts {fs : List FlowV} (h : foB fs = true) {kn : Nat} {y : FlowV} (hy : fs[kn]? = some y) (back : Bool) (fl now : Int) (hn : 0 ≤ now ∧ now ≤ 22) (hf : 0 ≤ fl ∧ fl < 32) :
    paC fs (kn : Int) fl now = 0 ∧ paL fs (kn : Int) back fl now = (if y.pr = 6 ∧ (bits BinOp.and IntKind.i64 fl 4 != 0) = true then fs.eraseIdx kn else fs.set kn (paF y back fl now)) := by
  have hk := lt_at hy
  have h8 := foB_len h
  have f0 : ffC fs = 0 := by unfold ffC; rw [if_neg (by omega), if_neg (by rw [h]; simp)]
  have p0 : pcB fs.length (kn : Int) fl now = true := by
    unfold pcB
    simp [dec]
    omega
  have e1 : paC fs (kn : Int) fl now = 0 := by unfold paC; rw [if_neg (by simp [f0]), if_neg (by rw [p0]; simp)]
  refine ⟨e1, ?_⟩
  unfold paL
  rw [if_neg (by simp [e1]), Int.toNat_natCast, hy]
theorem psS_back {pr st flags : Int} : psS pr st flags true ≠ 1 := by
  unfold psS
  split
  · decide
  · split
    · decide
    · rename_i h
      intro e
      exact h ⟨e, rfl⟩
set_option maxHeartbeats 4000000 in
theorem lawPasses_any (a b : Option Addr) (la ca lb cb : Nat) (f g : Nat → Int) (w : World) (ha : Bytes w a la f) (hb : Bytes w b lb g)
    (pa : ∀ b off, 0 < la → a = some ⟨b, off, none⟩ → b < w.heap.size) (pb : ∀ b' off, 0 < lb → b = some ⟨b', off, none⟩ → b' < w.heap.size) (h1 : la ≤ 1048576) (h2 : lb ≤ 1048576) :
    Calls Try.prog 4 #[.slice a la ca, .slice b lb cb] w fun e w' => e = .returned (.bool true) ∧ Below w.heap.size w w' := by
  have D1 : Hid (Calls Try.prog 9 #[.slice a la ca] w fun e w' => ∃ (x : Option Addr) (c : Nat) (fs : List FlowV) (now : Int), e = .returned (.agg #[.slice x fs.length c, .int .i64 now]) ∧ Hid (∃ g, x = some ⟨g, 0, none⟩ ∧ fs.length ≤ c) ∧ Hid (OwnS wvG 9 28 w' w.heap.size (.slice x fs.length c) fs ∧ foB fs = true ∧ (0 ≤ now ∧ now ≤ 22) ∧ Below w.heap.size w w')) := LanesOf_any w a la ca f ha h1 pa
  have D20 : Hid (∀ (n : Int) wx, Below w.heap.size w wx → 1 ≤ n → n ≤ 100 → Calls Try.prog 20 #[.slice b lb cb, .int .i64 0, .int .i64 n] wx fun e w' => ∃ v : Int, e = .returned (.int .i64 v) ∧ 0 ≤ v ∧ v < n ∧ Grw wx w') := fun n wx bx hn hn2 => (at_any wx b lb cb g 0 n (hb.below bx pb) h2 (by omega) hn (by omega)).mono fun e w' ⟨v, he, h0, h1, k, hw⟩ => ⟨v, he, h0, h1, k, #[], by rw [grow_empty]; exact hw⟩
  have D21 : Hid (∀ (n : Int) wx, Below w.heap.size w wx → 1 ≤ n → n ≤ 100 → Calls Try.prog 20 #[.slice b lb cb, .int .i64 1, .int .i64 n] wx fun e w' => ∃ v : Int, e = .returned (.int .i64 v) ∧ 0 ≤ v ∧ v < n ∧ Grw wx w') := fun n wx bx hn hn2 => (at_any wx b lb cb g 1 n (hb.below bx pb) h2 (by omega) hn (by omega)).mono fun e w' ⟨v, he, h0, h1, k, hw⟩ => ⟨v, he, h0, h1, k, #[], by rw [grow_empty]; exact hw⟩
  have D22 : Hid (∀ (n : Int) wx, Below w.heap.size w wx → 1 ≤ n → n ≤ 100 → Calls Try.prog 20 #[.slice b lb cb, .int .i64 2, .int .i64 n] wx fun e w' => ∃ v : Int, e = .returned (.int .i64 v) ∧ 0 ≤ v ∧ v < n ∧ Grw wx w') := fun n wx bx hn hn2 => (at_any wx b lb cb g 2 n (hb.below bx pb) h2 (by omega) hn (by omega)).mono fun e w' ⟨v, he, h0, h1, k, hw⟩ => ⟨v, he, h0, h1, k, #[], by rw [grow_empty]; exact hw⟩
  have hz1 : decide ((1048576 : Int) < (la : Int)) = false := decide_eq_false (by omega)
  have hz2 : decide ((1048576 : Int) < (lb : Int)) = false := decide_eq_false (by omega)
  clear ha hb pa pb
  go_enter Try.func4, Try.ntmps4
  go_wp2_with fail
  refine D1.out.mono ?_
  rintro e w1 ⟨x, c, fs, now, rfl, -, Y⟩
  have X1 : Hid (OwnS wvG 9 28 (w1.alloc (.cells #[.slice x fs.length c, .int .i64 now] 25)) w.heap.size (.slice x fs.length c) fs ∧ foB fs = true ∧ Below w.heap.size w (w1.alloc (.cells #[.slice x fs.length c, .int .i64 now] 25))) := ⟨Y.out.1.now ((Below.refl _ _).alloc (Nat.le_refl _) _), Y.out.2.1, Y.out.2.2.2.alloc Y.out.2.2.2.size _⟩
  obtain ⟨hn0, hn1⟩ := Y.out.2.2.1
  clear Y D1
  by_cases h0 : fs.length = 0
  · obtain rfl : fs = [] := List.eq_nil_of_length_eq_zero h0
    clear h0
    go_wp2_with fail
    refine (implPass_none x c 0 true 0 now _).mono ?_
    rintro e w2 ⟨v2, rfl, b2⟩
    have B2 : Hid (Below w.heap.size w w2) := X1.out.2.2.trans (b2.mono X1.out.2.2.size)
    clear b2
    go_wp2
    go_ret
    exact ⟨rfl, B2.out⟩
  obtain ⟨gg, hg0, hgc⟩ : ∃ g, x = some ⟨g, 0, none⟩ ∧ fs.length ≤ c := by
    rcases X1.out.1.addr with ⟨_, h1, _⟩ | ⟨g, h1, h2⟩
    · exact absurd h1 h0
    · exact ⟨g, h1, h2⟩
  subst hg0
  have h8 := foB_len X1.out.2.1
  have h0z : ((fs.length : Int) == 0) = false := by simp; exact fun e => h0 (by rw [e]; rfl)
  go_wp2_with fail
  refine (D20.out fs.length _ X1.out.2.2 (by omega) (by omega)).mono ?_
  rintro e w2 ⟨kk, rfl, k0, k1, g2⟩
  obtain ⟨kn, rfl⟩ := Int.eq_ofNat_of_zero_le k0
  have X2 : Hid (OwnS wvG 9 28 w2 w.heap.size (.slice (some ⟨gg, 0, none⟩) fs.length c) fs ∧ Below w.heap.size w w2) := ⟨X1.out.1.now g2.below, X1.out.2.2.trans (g2.below.mono X1.out.2.2.size)⟩
  have FB : Hid (foB fs = true) := X1.out.2.1
  have c0 : w2.cell? ⟨w1.heap.size, 0, none⟩ = some (.slice (some ⟨gg, 0, none⟩) fs.length c) := g2.keep (by simp)
  have c1 : w2.cell? ⟨w1.heap.size, 1, none⟩ = some (.int .i64 now) := g2.keep (by simp)
  clear g2 X1 D20
  go_wp2_with fail
  refine (D21.out 2 _ X2.out.2 (by omega) (by omega)).mono ?_
  rintro e w3 ⟨v1, rfl, v10, v11, g3⟩
  have X3 : Hid (OwnS wvG 9 28 w3 w.heap.size (.slice (some ⟨gg, 0, none⟩) fs.length c) fs ∧ Below w.heap.size w w3) := ⟨X2.out.1.now g3.below, X2.out.2.trans (g3.below.mono X2.out.2.size)⟩
  replace c0 := g3.keep c0
  replace c1 := g3.keep c1
  clear g3 X2 D21
  obtain ⟨bk, hbk⟩ : ∃ bk, (v1 == 1) = bk := ⟨_, rfl⟩
  go_wp2_with fail
  refine (D22.out 32 _ X3.out.2 (by omega) (by omega)).mono ?_
  rintro e w4 ⟨fl, rfl, f0, f1, g4⟩
  have X4 : Hid (OwnS wvG 9 28 w4 w.heap.size (.slice (some ⟨gg, 0, none⟩) fs.length c) fs ∧ Below w.heap.size w w4) := ⟨X3.out.1.now g4.below, X3.out.2.trans (g4.below.mono X3.out.2.size)⟩
  replace c0 := g4.keep c0
  replace c1 := g4.keep c1
  clear g4 X3 D22 v10 v11
  obtain ⟨y, hy0⟩ := at_of (xs := fs) (k := kn) rfl (by omega)
  have HY : Hid (fs[kn]? = some y) := hy0
  clear hy0
  have PF := pass_facts FB.out HY.out bk fl now ⟨hn0, hn1⟩ ⟨f0, by omega⟩
  have HI : Hid (∀ W, Rw FlR 9 W (some ⟨gg, 0, none⟩) fs → Calls Try.prog 19 #[.slice (some ⟨gg, 0, none⟩) fs.length c, .int .i64 (kn : Int), .bool bk, .int .i64 fl, .int .i64 now] W fun e w' => ∃ v, e = .returned (.tuple #[v, .int .i64 0]) ∧ OwnS wvG 9 28 w' W.heap.size v (paL fs kn bk fl now) ∧ Below W.heap.size W w') := fun W h => by
    have := implPass_any gg 0 fs.length c fs kn bk fl now W h (foB_wf FB.out) rfl (by omega) hgc
    rw [PF.1] at this
    exact this
  have HS : Hid (∀ W, Rw FlR 9 W (some ⟨gg, 0, none⟩) fs → Calls Try.prog 21 #[.slice (some ⟨gg, 0, none⟩) fs.length c, .int .i64 (kn : Int), .bool bk, .int .i64 fl, .int .i64 now] W fun e w' => ∃ v, e = .returned (.tuple #[v, .int .i64 0]) ∧ OwnS wvG 9 28 w' W.heap.size v (paL fs kn bk fl now) ∧ Below W.heap.size W w') := fun W h => by
    have := specPass_any gg 0 fs.length c fs kn bk fl now W h rfl (by omega) hgc
    rw [PF.1] at this
    exact this
  have EL : Hid (paL fs kn bk fl now = (if y.pr = 6 ∧ (bits BinOp.and IntKind.i64 fl 4 != 0) = true then fs.eraseIdx kn else fs.set kn (paF y bk fl now))) := PF.2
  have FBR : Hid (foB (paL fs kn bk fl now) = true) := by
    show _ = true
    rw [EL.out]
    exact foB_pass FB.out HY.out bk fl now ⟨hn0, by omega⟩
  clear PF
  generalize paL fs kn bk fl now = R at HI HS EL FBR
  have WF : Hid (∀ x, x ∈ fs → FlRok x) := foB_wf FB.out
  have WFR : Hid (∀ x, x ∈ R → FlRok x) := foB_wf FBR.out
  have hR8 : Hid (R.length ≤ 8) := foB_len FBR.out
  go_wp2_with fail
  refine (HI.out _ (X4.out.1.rw wvG_len WF.out)).mono ?_
  rintro e w5 ⟨v5, rfl, o5, b5⟩
  obtain ⟨s5, k5, hv5, -⟩ := o5.slice
  subst hv5
  have X5 : Hid (OwnS wvG 9 28 w5 w.heap.size (.slice (some ⟨gg, 0, none⟩) fs.length c) fs ∧ OwnS wvG 9 28 w5 w.heap.size (.slice s5 R.length k5) R ∧ Below w.heap.size w w5) := ⟨X4.out.1.now b5, o5.lower X4.out.2.size, X4.out.2.trans (b5.mono X4.out.2.size)⟩
  replace c0 := bkeep b5 c0
  replace c1 := bkeep b5 c1
  clear o5 b5 X4 HI
  go_wp2_with fail
  refine (HS.out _ (X5.out.1.rw wvG_len WF.out)).mono ?_
  rintro e w6 ⟨v6, rfl, o6, b6⟩
  obtain ⟨s6, k6, hv6, -⟩ := o6.slice
  subst hv6
  have X6 : Hid (OwnS wvG 9 28 w6 w.heap.size (.slice (some ⟨gg, 0, none⟩) fs.length c) fs ∧ OwnS wvG 9 28 w6 w.heap.size (.slice s5 R.length k5) R ∧ OwnS wvG 9 28 w6 w.heap.size (.slice s6 R.length k6) R ∧ Below w.heap.size w w6) := ⟨X5.out.1.now b6, X5.out.2.1.now b6, o6.lower X5.out.2.2.size, X5.out.2.2.trans (b6.mono X5.out.2.2.size)⟩
  replace c0 := bkeep b6 c0
  replace c1 := bkeep b6 c1
  clear o6 b6 X5 HS
  go_wp2_with fail
  refine (sameFlows_yes s5 s6 R.length k5 k6 R w6 (X6.out.2.1.rw wvG_len WFR.out) (X6.out.2.2.1.rw wvG_len WFR.out) rfl (by have := hR8.out; omega)).mono ?_
  rintro e w7 ⟨rfl, g7⟩
  have X7 : Hid (OwnS wvG 9 28 w7 w.heap.size (.slice (some ⟨gg, 0, none⟩) fs.length c) fs ∧ OwnS wvG 9 28 w7 w.heap.size (.slice s5 R.length k5) R ∧ Below w.heap.size w w7) := ⟨X6.out.1.now g7.below, X6.out.2.1.now g7.below, X6.out.2.2.2.trans (g7.below.mono X6.out.2.2.2.size)⟩
  replace c0 := g7.keep c0
  replace c1 := g7.keep c1
  clear g7 X6
  have HO : Hid (Calls Try.prog 14 #[.slice s5 R.length k5] w7 fun e w' => e = .returned (.bool true) ∧ Below w7.heap.size w7 w') := by
    have := implFlowsOK_any s5 R.length k5 R w7 (X7.out.2.1.rw wvG_len WFR.out) WFR.out rfl (by have := hR8.out; omega)
    rw [FBR.out] at this
    exact this
  go_wp2_with fail
  refine HO.out.mono ?_
  rintro e w8 ⟨rfl, b8⟩
  have X8 : Hid (OwnS wvG 9 28 w8 w.heap.size (.slice (some ⟨gg, 0, none⟩) fs.length c) fs ∧ OwnS wvG 9 28 w8 w.heap.size (.slice s5 R.length k5) R ∧ Below w.heap.size w w8) := ⟨X7.out.1.now b8, X7.out.2.1.now b8, X7.out.2.2.trans (b8.mono X7.out.2.2.size)⟩
  replace c0 := bkeep b8 c0
  replace c1 := bkeep b8 c1
  clear b8 X7 HO
  have hkz : (0 : Int) ≤ (kn : Int) := by omega
  have hkl : (kn : Int) < (fs.length : Int) := by omega
  obtain ⟨d0, -⟩ := X8.out.1.cell wvG_len (j := 0) HY.out rfl
  replace d0 : w8.cell? ⟨gg, kn * 9, none⟩ = some (.int .i64 y.pr) := d0
  have hybd := flB_bd (((foB_iff fs).1 FB.out).2.1 y (List.mem_of_getElem? HY.out))
  obtain ⟨tr, htr⟩ : ∃ tr, (bits BinOp.and IntKind.i64 fl 4 != 0) = tr := ⟨_, rfl⟩
  rw [htr] at EL
  by_cases hrs : y.pr = 6 ∧ tr = true
  · have h6b : (y.pr == 6) = true := by simp [hrs.1]
    have hlR : Hid (R.length = fs.length - 1) := by
      show R.length = _
      rw [EL.out, if_pos hrs, List.length_eraseIdx_of_lt (lt_at HY.out)]
    have hlb : ((R.length : Int) == (fs.length : Int) - 1) = true := by have := hlR.out; simp; omega
    obtain ⟨_, rfl⟩ := hrs
    clear EL hlR FBR hybd
    go_wp2
    go_ret
    exact ⟨rfl, X8.out.2.2⟩
  have hlR : Hid (R.length = fs.length) := by
    show R.length = _
    rw [EL.out, if_neg hrs, List.length_set]
  have hRY : Hid (R[kn]? = some (paF y bk fl now)) := by
    show _ = _
    rw [EL.out, if_neg hrs, List.getElem?_set_self (lt_at HY.out)]
  have hlb : ((R.length : Int) == (fs.length : Int)) = true := by rw [hlR.out]; simp
  have hkR : (kn : Int) < (R.length : Int) := by have := hlR.out; omega
  obtain ⟨g5, hg5, -⟩ := X8.out.2.1.form (by have := hlR.out; omega)
  subst hg5
  obtain ⟨pr, mc, si, sp, di, dp, st, un, ow⟩ := y
  obtain ⟨ps, hps⟩ : ∃ ps, psS pr st fl bk = ps := ⟨_, rfl⟩
  have hpb : 1 ≤ ps ∧ ps ≤ 3 := by rw [← hps]; exact psS_bd hybd.2.2.1
  have hp6 : pr = 6 → (bits BinOp.and IntKind.i64 fl 1 != 0) = true → ps = 3 := fun h1 h2 => by rw [← hps]; unfold psS; rw [if_pos ⟨h1, h2⟩]
  have hp1 : bk = true → ps ≠ 1 := fun h => by rw [← hps, h]; exact psS_back
  have hRZ : Hid (R[kn]? = some ⟨pr, mc, si, sp, di, dp, ps, now + wtN pr ps, ow⟩) := by
    show _ = _
    rw [hRY.out, ← hps]
    rfl
  obtain ⟨q0, -⟩ := X8.out.2.1.cell wvG_len (j := 0) hRZ.out rfl
  obtain ⟨q1, -⟩ := X8.out.2.1.cell wvG_len (j := 1) hRZ.out rfl
  obtain ⟨q2, -⟩ := X8.out.2.1.cell wvG_len (j := 2) hRZ.out rfl
  obtain ⟨q3, -⟩ := X8.out.2.1.cell wvG_len (j := 3) hRZ.out rfl
  obtain ⟨q4, -⟩ := X8.out.2.1.cell wvG_len (j := 4) hRZ.out rfl
  obtain ⟨q5, -⟩ := X8.out.2.1.cell wvG_len (j := 5) hRZ.out rfl
  obtain ⟨q6, -⟩ := X8.out.2.1.cell wvG_len (j := 6) hRZ.out rfl
  obtain ⟨q7, -⟩ := X8.out.2.1.cell wvG_len (j := 7) hRZ.out rfl
  obtain ⟨q8, -⟩ := X8.out.2.1.cell wvG_len (j := 8) hRZ.out rfl
  replace q0 : w8.cell? ⟨g5, kn * 9, none⟩ = some (.int .i64 pr) := q0
  dsimp only at q0 q1 q2 q3 q4 q5 q6 q7 q8 d0 hybd
  have HW : Hid (∀ W, Calls Try.prog 16 #[.int .i64 pr, .int .i64 ps] W fun e w' => e = .returned (.tuple #[.int .i64 (wtN pr ps), .int .i64 0]) ∧ w' = W) := fun W => by
    have := implWait_any pr ps W (by omega)
    unfold fwN fwC at this
    rw [dec_y hybd.1, dec_y hpb] at this
    exact this
  have hwb := wtN_bd pr ps
  generalize wtN pr ps = wn at q7 HW hwb
  clear EL FBR hRY hRZ hlR HY hps
  have hun : ((now + wn) == (now + wn)) = true := by simp
  have a0 := fun o => acell c0 o
  have a1 := fun o => acell c1 o
  by_cases h6 : pr = 6
  · have h6b : (pr == 6) = true := by simp [h6]
    obtain rfl : tr = false := by
      cases tr with
      | false => rfl
      | true => exact absurd ⟨h6, rfl⟩ hrs
    obtain ⟨tf, htf⟩ : ∃ tf, (bits BinOp.and IntKind.i64 fl 1 != 0) = tf := ⟨_, rfl⟩
    cases tf with
    | true =>
      have hp3 : (ps == 3) = true := by simp [hp6 h6 htf]
      have htg : (bits BinOp.and IntKind.i64 fl 1 == 0) = false := by simpa using htf
      clear hp6 hrs h6 htf
      cases bk with
      | false =>
        clear hp1
        go_wp2_with fail
        refine (HW.out _).mono ?_
        rintro e w9 ⟨rfl, rfl⟩
        go_wp2
        go_ret
        exact ⟨rfl, X8.out.2.2.alloc X8.out.2.2.size _⟩
      | true =>
        have hb1 : (ps != 1) = true := by simp [hp1 rfl]
        have hb2 : (ps == 1) = false := by simp [hp1 rfl]
        clear hp1
        go_wp2_with fail
        refine (HW.out _).mono ?_
        rintro e w9 ⟨rfl, rfl⟩
        go_wp2
        go_ret
        exact ⟨rfl, X8.out.2.2.alloc X8.out.2.2.size _⟩
    | false =>
      have htg : (bits BinOp.and IntKind.i64 fl 1 == 0) = true := by simpa using htf
      clear hp6 hrs h6 htf
      cases bk with
      | false =>
        clear hp1
        go_wp2_with fail
        refine (HW.out _).mono ?_
        rintro e w9 ⟨rfl, rfl⟩
        go_wp2
        go_ret
        exact ⟨rfl, X8.out.2.2.alloc X8.out.2.2.size _⟩
      | true =>
        have hb1 : (ps != 1) = true := by simp [hp1 rfl]
        have hb2 : (ps == 1) = false := by simp [hp1 rfl]
        clear hp1
        go_wp2_with fail
        refine (HW.out _).mono ?_
        rintro e w9 ⟨rfl, rfl⟩
        go_wp2
        go_ret
        exact ⟨rfl, X8.out.2.2.alloc X8.out.2.2.size _⟩
  · have h6b : (pr == 6) = false := by simp [h6]
    clear hp6 hrs h6
    cases bk with
    | false =>
      clear hp1
      go_wp2_with fail
      refine (HW.out _).mono ?_
      rintro e w9 ⟨rfl, rfl⟩
      go_wp2
      go_ret
      exact ⟨rfl, X8.out.2.2.alloc X8.out.2.2.size _⟩
    | true =>
      have hb1 : (ps != 1) = true := by simp [hp1 rfl]
      have hb2 : (ps == 1) = false := by simp [hp1 rfl]
      clear hp1
      go_wp2_with fail
      refine (HW.out _).mono ?_
      rintro e w9 ⟨rfl, rfl⟩
      go_wp2
      go_ret
      exact ⟨rfl, X8.out.2.2.alloc X8.out.2.2.size _⟩
theorem lawPasses_skip (a b : Option Addr) (la ca lb cb : Nat) (w : World) (h : 1048576 < la ∨ 1048576 < lb) :
    Calls Try.prog 4 #[.slice a la ca, .slice b lb cb] w fun e w' => e = .returned (.bool true) ∧ Below w.heap.size w w' := by
  by_cases h1 : 1048576 < la
  · go_enter Try.func4, Try.ntmps4
    go_wp2
    go_ret
    exact ⟨rfl, Below.refl _ _⟩
  · have h2 : 1048576 < lb := by omega
    go_enter Try.func4, Try.ntmps4
    go_wp2
    go_ret
    exact ⟨rfl, Below.refl _ _⟩
end Go.Proofs.Ythokaemeadhkjaa
