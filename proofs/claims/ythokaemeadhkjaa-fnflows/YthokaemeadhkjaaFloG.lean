/- The model's FlowPass. -/
import Derived.Test.YthokaemeadhkjaaFloF
namespace Go.Proofs.Ythokaemeadhkjaa
open Go.RowKit Go.PlainAid Go.Proofs.Ythokaemeadhkjaa.Bt Go.Sort
set_option linter.unusedVariables false
set_option maxRecDepth 20000

theorem flat_take {fs : List FlowV} {kn j : Nat} {u : Value} (h : (flatS wvG (fs.take kn))[j]? = some u) : (flatS wvG fs)[j]? = some u := by
  have e : flatS wvG fs = flatS wvG (fs.take kn) ++ flatS wvG (fs.drop kn) := by rw [← flatS_append, List.take_append_drop]
  rw [e, List.getElem?_append_left (List.getElem?_eq_some_iff.1 h).1]
  exact h
theorem flat_drop {fs : List FlowV} {kn j : Nat} {u : Value} (hk : kn < fs.length) (h : (flatS wvG (fs.drop (kn + 1)))[j]? = some u) : (flatS wvG fs)[(kn + 1) * 9 + j]? = some u := by
  have e : flatS wvG fs = flatS wvG (fs.take (kn + 1)) ++ flatS wvG (fs.drop (kn + 1)) := by rw [← flatS_append, List.take_append_drop]
  have hl : (flatS wvG (fs.take (kn + 1))).length = (kn + 1) * 9 := by rw [flatS_len wvG_len, List.length_take]; congr 1; omega
  rw [e, List.getElem?_append_right (by omega), hl, show (kn + 1) * 9 + j - (kn + 1) * 9 = j by omega]
  exact h
set_option maxHeartbeats 8000000 in
theorem l09Pass_any (b off len cap : Nat) (fs : List FlowV) (kn : Nat) (back : Bool) (flags now : Int) (pr : Int) (mc : ByteArray) (si sp di dp st un ow : Int) (w : World) (h : Rw FlR 9 w (some ⟨b, off, none⟩) fs) (hl : fs.length = len) (hm : len ≤ 8) (hc : len ≤ cap) (hx : fs[kn]? = some ⟨pr, mc, si, sp, di, dp, st, un, ow⟩) (hn : 0 ≤ now ∧ now ≤ 100000) :
    Calls Try.prog 58 #[.slice (some ⟨b, off, none⟩) len cap, .int .i64 (kn : Int), .bool back, .int .i64 flags, .int .i64 now] w fun e w' => ∃ v, e = .returned v ∧ OwnS wvG 9 28 w' w.heap.size v (if pr = 6 ∧ (bits BinOp.and IntKind.i64 flags 4 != 0) = true then fs.eraseIdx kn else fs.set kn (paF ⟨pr, mc, si, sp, di, dp, st, un, ow⟩ back flags now)) ∧ Below w.heap.size w w' := by
  have hlt := lt_at hx
  have hkz : (0 : Int) ≤ (kn : Int) := by omega
  have hkl : (kn : Int) < (len : Int) := by omega
  have RW : Hid (Rw FlR 9 w (some ⟨b, off, none⟩) fs) := h
  have RC : Hid (∀ w2, Below w.heap.size w w2 → ∀ j u, (flatS wvG fs)[j]? = some u → w2.cell? ⟨b, off + j, none⟩ = some u) := fun w2 hb => flat_rw (h.keep FR.kp hb) wvG_len (by omega)
  have HX : Hid (fs[kn]? = some ⟨pr, mc, si, sp, di, dp, st, un, ow⟩) := hx
  have T : Hid (∀ p q w, Calls Try.prog 75 #[.int .i64 p, .int .i64 q] w fun e w' => e = .returned (.int .i64 (wtN p q)) ∧ w' = w) := fun p q w => l09Wait_any p q w
  have EF : paF ⟨pr, mc, si, sp, di, dp, st, un, ow⟩ back flags now = ⟨pr, mc, si, sp, di, dp, psS pr st flags back, now + wtN pr (psS pr st flags back), ow⟩ := rfl
  rw [EF]
  clear h hx EF
  generalize hr : (bits BinOp.and IntKind.i64 flags 4 != 0) = tr
  by_cases h6 : pr = 6
  · have h6b : (pr == 6) = true := by simp [h6]
    cases tr with
    | true =>
      rw [if_pos ⟨h6, rfl⟩]
      clear h6
      cases back with
      | false =>
        go_enter Try.func58, Try.ntmps58
        go_wp2_with (at_builtin; refine wpl_flows _ rfl (.tmp 13) (.tmp 14) rfl w.heap.size _ [] fs rfl (OwnS.lit w _ (Nat.le_refl _)) b off len cap hl rfl (fun j u hu => acell (RC.out w (Below.refl _ _) j u hu) _) (by simp; omega) (by simp) ?_; intro v3 w3 Y _; obtain ⟨a3, kc, hv3, hc3, hc4, -⟩ := Y.out.1.slice; subst hv3; obtain ⟨g3, ha3, hg3, hg4, -⟩ := Y.out.1.form (by simpa using Nat.lt_of_le_of_lt (Nat.zero_le _) hlt); subst ha3; have X3 : Hid (OwnS wvG 9 28 w3 w.heap.size (.slice (some ⟨g3, 0, none⟩) fs.length kc) fs ∧ Below w.heap.size w w3) := ⟨Y.out.1, ((Below.refl _ _).alloc (Nat.le_refl _) _).trans Y.out.2⟩; clear Y; rw [List.nil_append, hl]; rw [hl] at X3; obtain ⟨c0, z0⟩ := X3.out.1.cell wvG_len (j := 0) HX.out rfl; obtain ⟨c6, z6⟩ := X3.out.1.cell wvG_len (j := 6) HX.out rfl; obtain ⟨c7, z7⟩ := X3.out.1.cell wvG_len (j := 7) HX.out rfl; replace c0 : w3.cell? ⟨g3, kn * 9, none⟩ = some (.int .i64 pr) := c0)
        obtain ⟨W, hW⟩ : ∃ W, W = w3 := ⟨_, rfl⟩
        have BW : Hid (Below w.heap.size w W) := by rw [hW]; exact X3.out.2
        clear c0 c6 c7 z0 z6 z7 X3
        have SS : Hid (KeptE W W.drew) := ⟨(Below.refl _ _).drew⟩
        have PA : Hid (∀ wx, KeptE W wx → ∀ j u, (flatS wvG (fs.take kn))[j]? = some u → wx.cell? ⟨b, off + j, none⟩ = some u) := fun wx hx j u hu => RC.out wx (BW.out.trans (hx.out.mono BW.out.size)) j u (flat_take hu)
        have PD : Hid (∀ wx, KeptE W wx → ∀ j u, (flatS wvG (fs.drop (kn + 1)))[j]? = some u → wx.cell? ⟨b, off + (kn + 1) * 9 + j, none⟩ = some u) := fun wx hx j u hu => by
          have := RC.out wx (BW.out.trans (hx.out.mono BW.out.size)) ((kn + 1) * 9 + j) u (flat_drop hlt hu)
          rw [← Nat.add_assoc] at this
          exact this
        have PN : Hid (cap = kn + 1 → fs.drop (kn + 1) = []) := fun h => List.drop_of_length_le (by omega)
        have L1 : Hid (OwnS wvG 9 28 (W.alloc (.cells #[] 28)) W.heap.size (.slice (some ⟨W.heap.size, 0, none⟩) 0 0) []) := OwnS.lit W _ (Nat.le_refl _)
        have KS : Hid (∀ wx, KeptE W wx → W.heap.size ≤ wx.heap.size) := fun wx h => h.out.size
        have SA : Hid (∀ wx o, KeptE W wx → KeptE W (wx.alloc o).drew) := fun wx o h => ⟨(h.out.alloc h.out.size o).drew⟩
        have SC : Hid (∀ wx o, KeptE W wx → KeptE W (wx.alloc o)) := fun wx o h => ⟨h.out.alloc h.out.size o⟩
        have SB : Hid (∀ wx wy, Below W.heap.size wx wy → KeptE W wx → KeptE W wy) := fun wx wy hb h => ⟨h.out.trans hb⟩
        have TK : Hid ((fs.take kn).length = kn ∧ (fs.drop (kn + 1)).length = len - (kn + 1)) := ⟨by rw [List.length_take]; omega, by rw [List.length_drop, hl]⟩
        have EQ : Hid (fs.take kn ++ fs.drop (kn + 1) = fs.eraseIdx kn) := (List.eraseIdx_eq_take_drop_succ fs kn).symm
        have hq1 : (kn : Int) ≤ (len : Int) := by omega
        have hq2 : (len : Int) ≤ (cap : Int) := by omega
        have hq3 : (kn : Int) ≤ (cap : Int) := by omega
        have hq4 : (kn : Int) + 1 ≤ (len : Int) := by omega
        have hq5 : (kn : Int) + 1 ≤ (cap : Int) := by omega
        have hq6 : IntKind.i64.wrap ((kn : Int) + 1) = (kn : Int) + 1 := by rw [IntKind.wrap_i64]; omega
        have hq7 : (0 : Int) ≤ (kn : Int) + 1 := by omega
        have hc0 : (cap = 0) = False := by simp; omega
        rw [← hW]
        clear hW
        by_cases hcap : cap = kn + 1
        · have hck : (cap = kn + 1) = True := by simp [hcap]
          have PZ := PN.out hcap
          clear hcap
          go_region_held3 (fun wx => KeptE W wx)
            (first | exact SS.out | exact SA.out _ _ (by assumption) | exact SC.out _ _ (by assumption) | exact SB.out _ _ hB5 (by assumption) | exact SB.out _ _ hB4 (by assumption))
            (first
              | (refine step9 _ (by rfl) (.tmp 38) (.tmp 41) (by rfl) W.heap.size _ [] (by rfl) L1.out b off kn _ (fs.take kn) (by rfl) TK.out.1 (PA.out _ (by assumption)) (by simp; omega) (KS.out _ (by assumption)) ?_; intro v4 w4 Y4; have hB4 := Y4.out.2.1)
              | (refine step9 _ (by rfl) (.tmp 42) (.tmp 46) (by rfl) W.heap.size v4 ([] ++ fs.take kn) (by rfl) Y4.out.1 b off (len - (kn + 1)) _ (fs.drop (kn + 1)) (by rfl) TK.out.2 (fun j u hu => by rw [PZ] at hu; simp [flatS] at hu) (by simp; omega) (KS.out _ (by assumption)) ?_; intro v5 w5 Y5; have hB5 := Y5.out.2.1))
          all_goals
            have F5 : Hid (OwnS wvG 9 28 w5 W.heap.size v5 (fs.eraseIdx kn) ∧ KeptE W w5) := ⟨by rw [← EQ.out]; exact Y5.out.1, by assumption⟩
            go_wp2
            go_ret
            exact ⟨_, rfl, F5.out.1.lower BW.out.size, BW.out.trans (F5.out.2.out.mono BW.out.size)⟩
        · have hck : (cap = kn + 1) = False := by simp [hcap]
          clear hcap
          go_region_held3 (fun wx => KeptE W wx)
            (first | exact SS.out | exact SA.out _ _ (by assumption) | exact SC.out _ _ (by assumption) | exact SB.out _ _ hB5 (by assumption) | exact SB.out _ _ hB4 (by assumption))
            (first
              | (refine step9 _ (by rfl) (.tmp 38) (.tmp 41) (by rfl) W.heap.size _ [] (by rfl) L1.out b off kn _ (fs.take kn) (by rfl) TK.out.1 (PA.out _ (by assumption)) (by simp; omega) (KS.out _ (by assumption)) ?_; intro v4 w4 Y4; have hB4 := Y4.out.2.1)
              | (refine step9 _ (by rfl) (.tmp 42) (.tmp 46) (by rfl) W.heap.size v4 ([] ++ fs.take kn) (by rfl) Y4.out.1 b (off + (kn + 1) * 9) (len - (kn + 1)) _ (fs.drop (kn + 1)) (by rfl) TK.out.2 (PD.out _ (by assumption)) (by simp; omega) (KS.out _ (by assumption)) ?_; intro v5 w5 Y5; have hB5 := Y5.out.2.1))
          all_goals
            have F5 : Hid (OwnS wvG 9 28 w5 W.heap.size v5 (fs.eraseIdx kn) ∧ KeptE W w5) := ⟨by rw [← EQ.out]; exact Y5.out.1, by assumption⟩
            go_wp2
            go_ret
            exact ⟨_, rfl, F5.out.1.lower BW.out.size, BW.out.trans (F5.out.2.out.mono BW.out.size)⟩
      | true =>
        by_cases h1 : st = 1
        · have h1b : (st == 1) = true := by simp [h1]
          clear h1
          go_enter Try.func58, Try.ntmps58
          go_wp2_with (at_builtin; refine wpl_flows _ rfl (.tmp 13) (.tmp 14) rfl w.heap.size _ [] fs rfl (OwnS.lit w _ (Nat.le_refl _)) b off len cap hl rfl (fun j u hu => acell (RC.out w (Below.refl _ _) j u hu) _) (by simp; omega) (by simp) ?_; intro v3 w3 Y _; obtain ⟨a3, kc, hv3, hc3, hc4, -⟩ := Y.out.1.slice; subst hv3; obtain ⟨g3, ha3, hg3, hg4, -⟩ := Y.out.1.form (by simpa using Nat.lt_of_le_of_lt (Nat.zero_le _) hlt); subst ha3; have X3 : Hid (OwnS wvG 9 28 w3 w.heap.size (.slice (some ⟨g3, 0, none⟩) fs.length kc) fs ∧ Below w.heap.size w w3) := ⟨Y.out.1, ((Below.refl _ _).alloc (Nat.le_refl _) _).trans Y.out.2⟩; clear Y; rw [List.nil_append, hl]; rw [hl] at X3; obtain ⟨c0, z0⟩ := X3.out.1.cell wvG_len (j := 0) HX.out rfl; obtain ⟨c6, z6⟩ := X3.out.1.cell wvG_len (j := 6) HX.out rfl; obtain ⟨c7, z7⟩ := X3.out.1.cell wvG_len (j := 7) HX.out rfl; replace c0 : w3.cell? ⟨g3, kn * 9, none⟩ = some (.int .i64 pr) := c0)
          obtain ⟨W, hW⟩ : ∃ W, W = (w3.setCell ⟨g3, kn * 9 + 6, none⟩ (.int .i64 2)) := ⟨_, rfl⟩
          have BW : Hid (Below w.heap.size w W) := by rw [hW]; exact X3.out.2.setCell (p := ⟨g3, kn * 9 + 6, none⟩) hg3 _
          clear c0 c6 c7 z0 z6 z7 X3
          have SS : Hid (KeptE W W.drew) := ⟨(Below.refl _ _).drew⟩
          have PA : Hid (∀ wx, KeptE W wx → ∀ j u, (flatS wvG (fs.take kn))[j]? = some u → wx.cell? ⟨b, off + j, none⟩ = some u) := fun wx hx j u hu => RC.out wx (BW.out.trans (hx.out.mono BW.out.size)) j u (flat_take hu)
          have PD : Hid (∀ wx, KeptE W wx → ∀ j u, (flatS wvG (fs.drop (kn + 1)))[j]? = some u → wx.cell? ⟨b, off + (kn + 1) * 9 + j, none⟩ = some u) := fun wx hx j u hu => by
            have := RC.out wx (BW.out.trans (hx.out.mono BW.out.size)) ((kn + 1) * 9 + j) u (flat_drop hlt hu)
            rw [← Nat.add_assoc] at this
            exact this
          have PN : Hid (cap = kn + 1 → fs.drop (kn + 1) = []) := fun h => List.drop_of_length_le (by omega)
          have L1 : Hid (OwnS wvG 9 28 (W.alloc (.cells #[] 28)) W.heap.size (.slice (some ⟨W.heap.size, 0, none⟩) 0 0) []) := OwnS.lit W _ (Nat.le_refl _)
          have KS : Hid (∀ wx, KeptE W wx → W.heap.size ≤ wx.heap.size) := fun wx h => h.out.size
          have SA : Hid (∀ wx o, KeptE W wx → KeptE W (wx.alloc o).drew) := fun wx o h => ⟨(h.out.alloc h.out.size o).drew⟩
          have SC : Hid (∀ wx o, KeptE W wx → KeptE W (wx.alloc o)) := fun wx o h => ⟨h.out.alloc h.out.size o⟩
          have SB : Hid (∀ wx wy, Below W.heap.size wx wy → KeptE W wx → KeptE W wy) := fun wx wy hb h => ⟨h.out.trans hb⟩
          have TK : Hid ((fs.take kn).length = kn ∧ (fs.drop (kn + 1)).length = len - (kn + 1)) := ⟨by rw [List.length_take]; omega, by rw [List.length_drop, hl]⟩
          have EQ : Hid (fs.take kn ++ fs.drop (kn + 1) = fs.eraseIdx kn) := (List.eraseIdx_eq_take_drop_succ fs kn).symm
          have hq1 : (kn : Int) ≤ (len : Int) := by omega
          have hq2 : (len : Int) ≤ (cap : Int) := by omega
          have hq3 : (kn : Int) ≤ (cap : Int) := by omega
          have hq4 : (kn : Int) + 1 ≤ (len : Int) := by omega
          have hq5 : (kn : Int) + 1 ≤ (cap : Int) := by omega
          have hq6 : IntKind.i64.wrap ((kn : Int) + 1) = (kn : Int) + 1 := by rw [IntKind.wrap_i64]; omega
          have hq7 : (0 : Int) ≤ (kn : Int) + 1 := by omega
          have hc0 : (cap = 0) = False := by simp; omega
          rw [← hW]
          clear hW
          by_cases hcap : cap = kn + 1
          · have hck : (cap = kn + 1) = True := by simp [hcap]
            have PZ := PN.out hcap
            clear hcap
            go_region_held3 (fun wx => KeptE W wx)
              (first | exact SS.out | exact SA.out _ _ (by assumption) | exact SC.out _ _ (by assumption) | exact SB.out _ _ hB5 (by assumption) | exact SB.out _ _ hB4 (by assumption))
              (first
                | (refine step9 _ (by rfl) (.tmp 38) (.tmp 41) (by rfl) W.heap.size _ [] (by rfl) L1.out b off kn _ (fs.take kn) (by rfl) TK.out.1 (PA.out _ (by assumption)) (by simp; omega) (KS.out _ (by assumption)) ?_; intro v4 w4 Y4; have hB4 := Y4.out.2.1)
                | (refine step9 _ (by rfl) (.tmp 42) (.tmp 46) (by rfl) W.heap.size v4 ([] ++ fs.take kn) (by rfl) Y4.out.1 b off (len - (kn + 1)) _ (fs.drop (kn + 1)) (by rfl) TK.out.2 (fun j u hu => by rw [PZ] at hu; simp [flatS] at hu) (by simp; omega) (KS.out _ (by assumption)) ?_; intro v5 w5 Y5; have hB5 := Y5.out.2.1))
            all_goals
              have F5 : Hid (OwnS wvG 9 28 w5 W.heap.size v5 (fs.eraseIdx kn) ∧ KeptE W w5) := ⟨by rw [← EQ.out]; exact Y5.out.1, by assumption⟩
              go_wp2
              go_ret
              exact ⟨_, rfl, F5.out.1.lower BW.out.size, BW.out.trans (F5.out.2.out.mono BW.out.size)⟩
          · have hck : (cap = kn + 1) = False := by simp [hcap]
            clear hcap
            go_region_held3 (fun wx => KeptE W wx)
              (first | exact SS.out | exact SA.out _ _ (by assumption) | exact SC.out _ _ (by assumption) | exact SB.out _ _ hB5 (by assumption) | exact SB.out _ _ hB4 (by assumption))
              (first
                | (refine step9 _ (by rfl) (.tmp 38) (.tmp 41) (by rfl) W.heap.size _ [] (by rfl) L1.out b off kn _ (fs.take kn) (by rfl) TK.out.1 (PA.out _ (by assumption)) (by simp; omega) (KS.out _ (by assumption)) ?_; intro v4 w4 Y4; have hB4 := Y4.out.2.1)
                | (refine step9 _ (by rfl) (.tmp 42) (.tmp 46) (by rfl) W.heap.size v4 ([] ++ fs.take kn) (by rfl) Y4.out.1 b (off + (kn + 1) * 9) (len - (kn + 1)) _ (fs.drop (kn + 1)) (by rfl) TK.out.2 (PD.out _ (by assumption)) (by simp; omega) (KS.out _ (by assumption)) ?_; intro v5 w5 Y5; have hB5 := Y5.out.2.1))
            all_goals
              have F5 : Hid (OwnS wvG 9 28 w5 W.heap.size v5 (fs.eraseIdx kn) ∧ KeptE W w5) := ⟨by rw [← EQ.out]; exact Y5.out.1, by assumption⟩
              go_wp2
              go_ret
              exact ⟨_, rfl, F5.out.1.lower BW.out.size, BW.out.trans (F5.out.2.out.mono BW.out.size)⟩
        · have h1b : (st == 1) = false := by simp [h1]
          clear h1
          go_enter Try.func58, Try.ntmps58
          go_wp2_with (at_builtin; refine wpl_flows _ rfl (.tmp 13) (.tmp 14) rfl w.heap.size _ [] fs rfl (OwnS.lit w _ (Nat.le_refl _)) b off len cap hl rfl (fun j u hu => acell (RC.out w (Below.refl _ _) j u hu) _) (by simp; omega) (by simp) ?_; intro v3 w3 Y _; obtain ⟨a3, kc, hv3, hc3, hc4, -⟩ := Y.out.1.slice; subst hv3; obtain ⟨g3, ha3, hg3, hg4, -⟩ := Y.out.1.form (by simpa using Nat.lt_of_le_of_lt (Nat.zero_le _) hlt); subst ha3; have X3 : Hid (OwnS wvG 9 28 w3 w.heap.size (.slice (some ⟨g3, 0, none⟩) fs.length kc) fs ∧ Below w.heap.size w w3) := ⟨Y.out.1, ((Below.refl _ _).alloc (Nat.le_refl _) _).trans Y.out.2⟩; clear Y; rw [List.nil_append, hl]; rw [hl] at X3; obtain ⟨c0, z0⟩ := X3.out.1.cell wvG_len (j := 0) HX.out rfl; obtain ⟨c6, z6⟩ := X3.out.1.cell wvG_len (j := 6) HX.out rfl; obtain ⟨c7, z7⟩ := X3.out.1.cell wvG_len (j := 7) HX.out rfl; replace c0 : w3.cell? ⟨g3, kn * 9, none⟩ = some (.int .i64 pr) := c0)
          obtain ⟨W, hW⟩ : ∃ W, W = w3 := ⟨_, rfl⟩
          have BW : Hid (Below w.heap.size w W) := by rw [hW]; exact X3.out.2
          clear c0 c6 c7 z0 z6 z7 X3
          have SS : Hid (KeptE W W.drew) := ⟨(Below.refl _ _).drew⟩
          have PA : Hid (∀ wx, KeptE W wx → ∀ j u, (flatS wvG (fs.take kn))[j]? = some u → wx.cell? ⟨b, off + j, none⟩ = some u) := fun wx hx j u hu => RC.out wx (BW.out.trans (hx.out.mono BW.out.size)) j u (flat_take hu)
          have PD : Hid (∀ wx, KeptE W wx → ∀ j u, (flatS wvG (fs.drop (kn + 1)))[j]? = some u → wx.cell? ⟨b, off + (kn + 1) * 9 + j, none⟩ = some u) := fun wx hx j u hu => by
            have := RC.out wx (BW.out.trans (hx.out.mono BW.out.size)) ((kn + 1) * 9 + j) u (flat_drop hlt hu)
            rw [← Nat.add_assoc] at this
            exact this
          have PN : Hid (cap = kn + 1 → fs.drop (kn + 1) = []) := fun h => List.drop_of_length_le (by omega)
          have L1 : Hid (OwnS wvG 9 28 (W.alloc (.cells #[] 28)) W.heap.size (.slice (some ⟨W.heap.size, 0, none⟩) 0 0) []) := OwnS.lit W _ (Nat.le_refl _)
          have KS : Hid (∀ wx, KeptE W wx → W.heap.size ≤ wx.heap.size) := fun wx h => h.out.size
          have SA : Hid (∀ wx o, KeptE W wx → KeptE W (wx.alloc o).drew) := fun wx o h => ⟨(h.out.alloc h.out.size o).drew⟩
          have SC : Hid (∀ wx o, KeptE W wx → KeptE W (wx.alloc o)) := fun wx o h => ⟨h.out.alloc h.out.size o⟩
          have SB : Hid (∀ wx wy, Below W.heap.size wx wy → KeptE W wx → KeptE W wy) := fun wx wy hb h => ⟨h.out.trans hb⟩
          have TK : Hid ((fs.take kn).length = kn ∧ (fs.drop (kn + 1)).length = len - (kn + 1)) := ⟨by rw [List.length_take]; omega, by rw [List.length_drop, hl]⟩
          have EQ : Hid (fs.take kn ++ fs.drop (kn + 1) = fs.eraseIdx kn) := (List.eraseIdx_eq_take_drop_succ fs kn).symm
          have hq1 : (kn : Int) ≤ (len : Int) := by omega
          have hq2 : (len : Int) ≤ (cap : Int) := by omega
          have hq3 : (kn : Int) ≤ (cap : Int) := by omega
          have hq4 : (kn : Int) + 1 ≤ (len : Int) := by omega
          have hq5 : (kn : Int) + 1 ≤ (cap : Int) := by omega
          have hq6 : IntKind.i64.wrap ((kn : Int) + 1) = (kn : Int) + 1 := by rw [IntKind.wrap_i64]; omega
          have hq7 : (0 : Int) ≤ (kn : Int) + 1 := by omega
          have hc0 : (cap = 0) = False := by simp; omega
          rw [← hW]
          clear hW
          by_cases hcap : cap = kn + 1
          · have hck : (cap = kn + 1) = True := by simp [hcap]
            have PZ := PN.out hcap
            clear hcap
            go_region_held3 (fun wx => KeptE W wx)
              (first | exact SS.out | exact SA.out _ _ (by assumption) | exact SC.out _ _ (by assumption) | exact SB.out _ _ hB5 (by assumption) | exact SB.out _ _ hB4 (by assumption))
              (first
                | (refine step9 _ (by rfl) (.tmp 38) (.tmp 41) (by rfl) W.heap.size _ [] (by rfl) L1.out b off kn _ (fs.take kn) (by rfl) TK.out.1 (PA.out _ (by assumption)) (by simp; omega) (KS.out _ (by assumption)) ?_; intro v4 w4 Y4; have hB4 := Y4.out.2.1)
                | (refine step9 _ (by rfl) (.tmp 42) (.tmp 46) (by rfl) W.heap.size v4 ([] ++ fs.take kn) (by rfl) Y4.out.1 b off (len - (kn + 1)) _ (fs.drop (kn + 1)) (by rfl) TK.out.2 (fun j u hu => by rw [PZ] at hu; simp [flatS] at hu) (by simp; omega) (KS.out _ (by assumption)) ?_; intro v5 w5 Y5; have hB5 := Y5.out.2.1))
            all_goals
              have F5 : Hid (OwnS wvG 9 28 w5 W.heap.size v5 (fs.eraseIdx kn) ∧ KeptE W w5) := ⟨by rw [← EQ.out]; exact Y5.out.1, by assumption⟩
              go_wp2
              go_ret
              exact ⟨_, rfl, F5.out.1.lower BW.out.size, BW.out.trans (F5.out.2.out.mono BW.out.size)⟩
          · have hck : (cap = kn + 1) = False := by simp [hcap]
            clear hcap
            go_region_held3 (fun wx => KeptE W wx)
              (first | exact SS.out | exact SA.out _ _ (by assumption) | exact SC.out _ _ (by assumption) | exact SB.out _ _ hB5 (by assumption) | exact SB.out _ _ hB4 (by assumption))
              (first
                | (refine step9 _ (by rfl) (.tmp 38) (.tmp 41) (by rfl) W.heap.size _ [] (by rfl) L1.out b off kn _ (fs.take kn) (by rfl) TK.out.1 (PA.out _ (by assumption)) (by simp; omega) (KS.out _ (by assumption)) ?_; intro v4 w4 Y4; have hB4 := Y4.out.2.1)
                | (refine step9 _ (by rfl) (.tmp 42) (.tmp 46) (by rfl) W.heap.size v4 ([] ++ fs.take kn) (by rfl) Y4.out.1 b (off + (kn + 1) * 9) (len - (kn + 1)) _ (fs.drop (kn + 1)) (by rfl) TK.out.2 (PD.out _ (by assumption)) (by simp; omega) (KS.out _ (by assumption)) ?_; intro v5 w5 Y5; have hB5 := Y5.out.2.1))
            all_goals
              have F5 : Hid (OwnS wvG 9 28 w5 W.heap.size v5 (fs.eraseIdx kn) ∧ KeptE W w5) := ⟨by rw [← EQ.out]; exact Y5.out.1, by assumption⟩
              go_wp2
              go_ret
              exact ⟨_, rfl, F5.out.1.lower BW.out.size, BW.out.trans (F5.out.2.out.mono BW.out.size)⟩
    | false =>
      rw [if_neg (by simp)]
      cases hf : (bits BinOp.and IntKind.i64 flags 1 != 0) with
      | true =>
        cases back with
        | false =>
          have EPS : psS pr st flags false = 3 := by unfold psS; rw [if_pos ⟨h6, hf⟩]
          rw [EPS]
          clear EPS
          have hb := wtN_bd pr (3)
          have TQ : Hid (∀ w, Calls Try.prog 75 #[.int .i64 pr, .int .i64 3] w fun e w' => e = .returned (.int .i64 (wtN pr 3)) ∧ w' = w) := fun w => T.out pr 3 w
          generalize wtN pr 3 = n at hb TQ ⊢
          have hw : IntKind.i64.wrap (now + n) = now + n := by rw [IntKind.wrap_i64]; omega
          clear h6
          go_enter Try.func58, Try.ntmps58
          go_wp2_with (at_builtin; refine wpl_flows _ rfl (.tmp 13) (.tmp 14) rfl w.heap.size _ [] fs rfl (OwnS.lit w _ (Nat.le_refl _)) b off len cap hl rfl (fun j u hu => acell (RC.out w (Below.refl _ _) j u hu) _) (by simp; omega) (by simp) ?_; intro v3 w3 Y _; obtain ⟨a3, kc, hv3, hc3, hc4, -⟩ := Y.out.1.slice; subst hv3; obtain ⟨g3, ha3, hg3, hg4, -⟩ := Y.out.1.form (by simpa using Nat.lt_of_le_of_lt (Nat.zero_le _) hlt); subst ha3; have X3 : Hid (OwnS wvG 9 28 w3 w.heap.size (.slice (some ⟨g3, 0, none⟩) fs.length kc) fs ∧ Below w.heap.size w w3) := ⟨Y.out.1, ((Below.refl _ _).alloc (Nat.le_refl _) _).trans Y.out.2⟩; clear Y; rw [List.nil_append, hl]; rw [hl] at X3; obtain ⟨c0, z0⟩ := X3.out.1.cell wvG_len (j := 0) HX.out rfl; obtain ⟨c6, z6⟩ := X3.out.1.cell wvG_len (j := 6) HX.out rfl; obtain ⟨c7, z7⟩ := X3.out.1.cell wvG_len (j := 7) HX.out rfl; replace c0 : w3.cell? ⟨g3, kn * 9, none⟩ = some (.int .i64 pr) := c0)
          go_wp2_with fail
          have s0 := X3.out.1.set1 wvG_len (j := 6) (y := ⟨pr, mc, si, sp, di, dp, 3, un, ow⟩) HX.out (by omega) rfl
          have x0 : (fs.set kn ⟨pr, mc, si, sp, di, dp, 3, un, ow⟩)[kn]? = some ⟨pr, mc, si, sp, di, dp, 3, un, ow⟩ := List.getElem?_set_self (by omega)
          obtain ⟨W, hW⟩ : ∃ W, W = (w3.setCell ⟨g3, kn * 9 + 6, none⟩ (.int .i64 3)) := ⟨_, rfl⟩
          have XW : Hid (OwnS wvG 9 28 W w.heap.size (.slice (some ⟨g3, 0, none⟩) len kc) (fs.set kn ⟨pr, mc, si, sp, di, dp, 3, un, ow⟩) ∧ Below w.heap.size w W) := by rw [hW]; exact ⟨s0.1, (X3.out.2.grown s0.2 X3.out.2.size (fun k hk => by cases hk; exact hg3))⟩
          have hxW : (fs.set kn ⟨pr, mc, si, sp, di, dp, 3, un, ow⟩)[kn]? = some ⟨pr, mc, si, sp, di, dp, 3, un, ow⟩ := x0
          clear c0 c6 c7 z0 z6 z7 s0 x0
          obtain ⟨d0, -⟩ := XW.out.1.cell wvG_len (j := 0) hxW rfl
          replace d0 : W.cell? ⟨g3, kn * 9, none⟩ = some (.int .i64 pr) := d0
          obtain ⟨d6, -⟩ := XW.out.1.cell wvG_len (j := 6) hxW rfl
          obtain ⟨d7, z7⟩ := XW.out.1.cell wvG_len (j := 7) hxW rfl
          have sF := XW.out.1.set1 wvG_len (j := 7) (y := ⟨pr, mc, si, sp, di, dp, 3, now + n, ow⟩) hxW (by omega) rfl
          rw [List.set_set] at sF
          have YF : Hid (OwnS wvG 9 28 (W.setCell ⟨g3, kn * 9 + 7, none⟩ (.int .i64 (now + n))).drew w.heap.size (.slice (some ⟨g3, 0, none⟩) len kc) (fs.set kn ⟨pr, mc, si, sp, di, dp, 3, now + n, ow⟩) ∧ Below w.heap.size w (W.setCell ⟨g3, kn * 9 + 7, none⟩ (.int .i64 (now + n))).drew) := ⟨sF.1, (XW.out.2.grown sF.2 XW.out.2.size (fun k hk => by cases hk; exact hg3)).drew⟩
          have M : Hid (∀ v, (W.setCell ⟨g3, kn * 9 + 7, none⟩ v).drew.cell? ⟨g3, kn * 9, none⟩ = some (.int .i64 pr) ∧ (W.setCell ⟨g3, kn * 9 + 7, none⟩ v).drew.cell? ⟨g3, kn * 9 + 6, none⟩ = some (.int .i64 3)) := fun v => ⟨by simp [go_sem, d0], by simp [go_sem, d6]⟩
          clear sF
          rw [← hW]
          clear hW
          go_region_held3 (fun w' => w'.cell? ⟨g3, kn * 9, none⟩ = some (.int .i64 pr) ∧ w'.cell? ⟨g3, kn * 9 + 6, none⟩ = some (.int .i64 3)) (first | exact ⟨d0, d6⟩ | exact M.out _) ((go_at_call 75; (with_reducible refine (TQ.out _).mono ?_); rintro e w1 ⟨rfl, rfl⟩))
          all_goals
            go_wp2
            go_ret
            exact ⟨_, rfl, YF.out.1, YF.out.2⟩
        | true =>
          by_cases h1 : st = 1
          · have h1b : (st == 1) = true := by simp [h1]
            have EPS : psS pr st flags true = 3 := by unfold psS; rw [if_pos ⟨h6, hf⟩]
            rw [EPS]
            clear EPS
            have hb := wtN_bd pr (3)
            have TQ : Hid (∀ w, Calls Try.prog 75 #[.int .i64 pr, .int .i64 3] w fun e w' => e = .returned (.int .i64 (wtN pr 3)) ∧ w' = w) := fun w => T.out pr 3 w
            generalize wtN pr 3 = n at hb TQ ⊢
            have hw : IntKind.i64.wrap (now + n) = now + n := by rw [IntKind.wrap_i64]; omega
            clear h6 h1
            go_enter Try.func58, Try.ntmps58
            go_wp2_with (at_builtin; refine wpl_flows _ rfl (.tmp 13) (.tmp 14) rfl w.heap.size _ [] fs rfl (OwnS.lit w _ (Nat.le_refl _)) b off len cap hl rfl (fun j u hu => acell (RC.out w (Below.refl _ _) j u hu) _) (by simp; omega) (by simp) ?_; intro v3 w3 Y _; obtain ⟨a3, kc, hv3, hc3, hc4, -⟩ := Y.out.1.slice; subst hv3; obtain ⟨g3, ha3, hg3, hg4, -⟩ := Y.out.1.form (by simpa using Nat.lt_of_le_of_lt (Nat.zero_le _) hlt); subst ha3; have X3 : Hid (OwnS wvG 9 28 w3 w.heap.size (.slice (some ⟨g3, 0, none⟩) fs.length kc) fs ∧ Below w.heap.size w w3) := ⟨Y.out.1, ((Below.refl _ _).alloc (Nat.le_refl _) _).trans Y.out.2⟩; clear Y; rw [List.nil_append, hl]; rw [hl] at X3; obtain ⟨c0, z0⟩ := X3.out.1.cell wvG_len (j := 0) HX.out rfl; obtain ⟨c6, z6⟩ := X3.out.1.cell wvG_len (j := 6) HX.out rfl; obtain ⟨c7, z7⟩ := X3.out.1.cell wvG_len (j := 7) HX.out rfl; replace c0 : w3.cell? ⟨g3, kn * 9, none⟩ = some (.int .i64 pr) := c0)
            go_wp2_with fail
            have s0 := X3.out.1.set1 wvG_len (j := 6) (y := ⟨pr, mc, si, sp, di, dp, 2, un, ow⟩) HX.out (by omega) rfl
            have x0 : (fs.set kn ⟨pr, mc, si, sp, di, dp, 2, un, ow⟩)[kn]? = some ⟨pr, mc, si, sp, di, dp, 2, un, ow⟩ := List.getElem?_set_self (by omega)
            have s1 := s0.1.set1 wvG_len (j := 6) (y := ⟨pr, mc, si, sp, di, dp, 3, un, ow⟩) x0 (by omega) rfl
            have x1 : ((fs.set kn ⟨pr, mc, si, sp, di, dp, 2, un, ow⟩).set kn ⟨pr, mc, si, sp, di, dp, 3, un, ow⟩)[kn]? = some ⟨pr, mc, si, sp, di, dp, 3, un, ow⟩ := List.getElem?_set_self (by rw [List.length_set]; omega)
            obtain ⟨W, hW⟩ : ∃ W, W = ((w3.setCell ⟨g3, kn * 9 + 6, none⟩ (.int .i64 2)).setCell ⟨g3, kn * 9 + 6, none⟩ (.int .i64 3)) := ⟨_, rfl⟩
            have XW : Hid (OwnS wvG 9 28 W w.heap.size (.slice (some ⟨g3, 0, none⟩) len kc) ((fs.set kn ⟨pr, mc, si, sp, di, dp, 2, un, ow⟩).set kn ⟨pr, mc, si, sp, di, dp, 3, un, ow⟩) ∧ Below w.heap.size w W) := by rw [hW]; exact ⟨s1.1, ((X3.out.2.grown s0.2 X3.out.2.size (fun k hk => by cases hk; exact hg3)).grown s1.2 (by have := X3.out.2.size; simp; omega) (fun k hk => by cases hk; exact hg3))⟩
            have hxW : ((fs.set kn ⟨pr, mc, si, sp, di, dp, 2, un, ow⟩).set kn ⟨pr, mc, si, sp, di, dp, 3, un, ow⟩)[kn]? = some ⟨pr, mc, si, sp, di, dp, 3, un, ow⟩ := x1
            clear c0 c6 c7 z0 z6 z7 s0 x0 s1 x1
            obtain ⟨d0, -⟩ := XW.out.1.cell wvG_len (j := 0) hxW rfl
            replace d0 : W.cell? ⟨g3, kn * 9, none⟩ = some (.int .i64 pr) := d0
            obtain ⟨d6, -⟩ := XW.out.1.cell wvG_len (j := 6) hxW rfl
            obtain ⟨d7, z7⟩ := XW.out.1.cell wvG_len (j := 7) hxW rfl
            have sF := XW.out.1.set1 wvG_len (j := 7) (y := ⟨pr, mc, si, sp, di, dp, 3, now + n, ow⟩) hxW (by omega) rfl
            rw [List.set_set] at sF
            rw [List.set_set] at sF
            have YF : Hid (OwnS wvG 9 28 (W.setCell ⟨g3, kn * 9 + 7, none⟩ (.int .i64 (now + n))).drew w.heap.size (.slice (some ⟨g3, 0, none⟩) len kc) (fs.set kn ⟨pr, mc, si, sp, di, dp, 3, now + n, ow⟩) ∧ Below w.heap.size w (W.setCell ⟨g3, kn * 9 + 7, none⟩ (.int .i64 (now + n))).drew) := ⟨sF.1, (XW.out.2.grown sF.2 XW.out.2.size (fun k hk => by cases hk; exact hg3)).drew⟩
            have M : Hid (∀ v, (W.setCell ⟨g3, kn * 9 + 7, none⟩ v).drew.cell? ⟨g3, kn * 9, none⟩ = some (.int .i64 pr) ∧ (W.setCell ⟨g3, kn * 9 + 7, none⟩ v).drew.cell? ⟨g3, kn * 9 + 6, none⟩ = some (.int .i64 3)) := fun v => ⟨by simp [go_sem, d0], by simp [go_sem, d6]⟩
            clear sF
            rw [← hW]
            clear hW
            go_region_held3 (fun w' => w'.cell? ⟨g3, kn * 9, none⟩ = some (.int .i64 pr) ∧ w'.cell? ⟨g3, kn * 9 + 6, none⟩ = some (.int .i64 3)) (first | exact ⟨d0, d6⟩ | exact M.out _) ((go_at_call 75; (with_reducible refine (TQ.out _).mono ?_); rintro e w1 ⟨rfl, rfl⟩))
            all_goals
              go_wp2
              go_ret
              exact ⟨_, rfl, YF.out.1, YF.out.2⟩
          · have h1b : (st == 1) = false := by simp [h1]
            have EPS : psS pr st flags true = 3 := by unfold psS; rw [if_pos ⟨h6, hf⟩]
            rw [EPS]
            clear EPS
            have hb := wtN_bd pr (3)
            have TQ : Hid (∀ w, Calls Try.prog 75 #[.int .i64 pr, .int .i64 3] w fun e w' => e = .returned (.int .i64 (wtN pr 3)) ∧ w' = w) := fun w => T.out pr 3 w
            generalize wtN pr 3 = n at hb TQ ⊢
            have hw : IntKind.i64.wrap (now + n) = now + n := by rw [IntKind.wrap_i64]; omega
            clear h6 h1
            go_enter Try.func58, Try.ntmps58
            go_wp2_with (at_builtin; refine wpl_flows _ rfl (.tmp 13) (.tmp 14) rfl w.heap.size _ [] fs rfl (OwnS.lit w _ (Nat.le_refl _)) b off len cap hl rfl (fun j u hu => acell (RC.out w (Below.refl _ _) j u hu) _) (by simp; omega) (by simp) ?_; intro v3 w3 Y _; obtain ⟨a3, kc, hv3, hc3, hc4, -⟩ := Y.out.1.slice; subst hv3; obtain ⟨g3, ha3, hg3, hg4, -⟩ := Y.out.1.form (by simpa using Nat.lt_of_le_of_lt (Nat.zero_le _) hlt); subst ha3; have X3 : Hid (OwnS wvG 9 28 w3 w.heap.size (.slice (some ⟨g3, 0, none⟩) fs.length kc) fs ∧ Below w.heap.size w w3) := ⟨Y.out.1, ((Below.refl _ _).alloc (Nat.le_refl _) _).trans Y.out.2⟩; clear Y; rw [List.nil_append, hl]; rw [hl] at X3; obtain ⟨c0, z0⟩ := X3.out.1.cell wvG_len (j := 0) HX.out rfl; obtain ⟨c6, z6⟩ := X3.out.1.cell wvG_len (j := 6) HX.out rfl; obtain ⟨c7, z7⟩ := X3.out.1.cell wvG_len (j := 7) HX.out rfl; replace c0 : w3.cell? ⟨g3, kn * 9, none⟩ = some (.int .i64 pr) := c0)
            go_wp2_with fail
            have s0 := X3.out.1.set1 wvG_len (j := 6) (y := ⟨pr, mc, si, sp, di, dp, 3, un, ow⟩) HX.out (by omega) rfl
            have x0 : (fs.set kn ⟨pr, mc, si, sp, di, dp, 3, un, ow⟩)[kn]? = some ⟨pr, mc, si, sp, di, dp, 3, un, ow⟩ := List.getElem?_set_self (by omega)
            obtain ⟨W, hW⟩ : ∃ W, W = (w3.setCell ⟨g3, kn * 9 + 6, none⟩ (.int .i64 3)) := ⟨_, rfl⟩
            have XW : Hid (OwnS wvG 9 28 W w.heap.size (.slice (some ⟨g3, 0, none⟩) len kc) (fs.set kn ⟨pr, mc, si, sp, di, dp, 3, un, ow⟩) ∧ Below w.heap.size w W) := by rw [hW]; exact ⟨s0.1, (X3.out.2.grown s0.2 X3.out.2.size (fun k hk => by cases hk; exact hg3))⟩
            have hxW : (fs.set kn ⟨pr, mc, si, sp, di, dp, 3, un, ow⟩)[kn]? = some ⟨pr, mc, si, sp, di, dp, 3, un, ow⟩ := x0
            clear c0 c6 c7 z0 z6 z7 s0 x0
            obtain ⟨d0, -⟩ := XW.out.1.cell wvG_len (j := 0) hxW rfl
            replace d0 : W.cell? ⟨g3, kn * 9, none⟩ = some (.int .i64 pr) := d0
            obtain ⟨d6, -⟩ := XW.out.1.cell wvG_len (j := 6) hxW rfl
            obtain ⟨d7, z7⟩ := XW.out.1.cell wvG_len (j := 7) hxW rfl
            have sF := XW.out.1.set1 wvG_len (j := 7) (y := ⟨pr, mc, si, sp, di, dp, 3, now + n, ow⟩) hxW (by omega) rfl
            rw [List.set_set] at sF
            have YF : Hid (OwnS wvG 9 28 (W.setCell ⟨g3, kn * 9 + 7, none⟩ (.int .i64 (now + n))).drew w.heap.size (.slice (some ⟨g3, 0, none⟩) len kc) (fs.set kn ⟨pr, mc, si, sp, di, dp, 3, now + n, ow⟩) ∧ Below w.heap.size w (W.setCell ⟨g3, kn * 9 + 7, none⟩ (.int .i64 (now + n))).drew) := ⟨sF.1, (XW.out.2.grown sF.2 XW.out.2.size (fun k hk => by cases hk; exact hg3)).drew⟩
            have M : Hid (∀ v, (W.setCell ⟨g3, kn * 9 + 7, none⟩ v).drew.cell? ⟨g3, kn * 9, none⟩ = some (.int .i64 pr) ∧ (W.setCell ⟨g3, kn * 9 + 7, none⟩ v).drew.cell? ⟨g3, kn * 9 + 6, none⟩ = some (.int .i64 3)) := fun v => ⟨by simp [go_sem, d0], by simp [go_sem, d6]⟩
            clear sF
            rw [← hW]
            clear hW
            go_region_held3 (fun w' => w'.cell? ⟨g3, kn * 9, none⟩ = some (.int .i64 pr) ∧ w'.cell? ⟨g3, kn * 9 + 6, none⟩ = some (.int .i64 3)) (first | exact ⟨d0, d6⟩ | exact M.out _) ((go_at_call 75; (with_reducible refine (TQ.out _).mono ?_); rintro e w1 ⟨rfl, rfl⟩))
            all_goals
              go_wp2
              go_ret
              exact ⟨_, rfl, YF.out.1, YF.out.2⟩
      | false =>
        cases back with
        | false =>
          have EPS : psS pr st flags false = st := by unfold psS; rw [if_neg (fun h => by rw [hf] at h; simp at h), if_neg (by simp)]
          rw [EPS]
          clear EPS
          have hb := wtN_bd pr (st)
          have TQ : Hid (∀ w, Calls Try.prog 75 #[.int .i64 pr, .int .i64 st] w fun e w' => e = .returned (.int .i64 (wtN pr st)) ∧ w' = w) := fun w => T.out pr st w
          generalize wtN pr st = n at hb TQ ⊢
          have hw : IntKind.i64.wrap (now + n) = now + n := by rw [IntKind.wrap_i64]; omega
          clear h6
          go_enter Try.func58, Try.ntmps58
          go_wp2_with (at_builtin; refine wpl_flows _ rfl (.tmp 13) (.tmp 14) rfl w.heap.size _ [] fs rfl (OwnS.lit w _ (Nat.le_refl _)) b off len cap hl rfl (fun j u hu => acell (RC.out w (Below.refl _ _) j u hu) _) (by simp; omega) (by simp) ?_; intro v3 w3 Y _; obtain ⟨a3, kc, hv3, hc3, hc4, -⟩ := Y.out.1.slice; subst hv3; obtain ⟨g3, ha3, hg3, hg4, -⟩ := Y.out.1.form (by simpa using Nat.lt_of_le_of_lt (Nat.zero_le _) hlt); subst ha3; have X3 : Hid (OwnS wvG 9 28 w3 w.heap.size (.slice (some ⟨g3, 0, none⟩) fs.length kc) fs ∧ Below w.heap.size w w3) := ⟨Y.out.1, ((Below.refl _ _).alloc (Nat.le_refl _) _).trans Y.out.2⟩; clear Y; rw [List.nil_append, hl]; rw [hl] at X3; obtain ⟨c0, z0⟩ := X3.out.1.cell wvG_len (j := 0) HX.out rfl; obtain ⟨c6, z6⟩ := X3.out.1.cell wvG_len (j := 6) HX.out rfl; obtain ⟨c7, z7⟩ := X3.out.1.cell wvG_len (j := 7) HX.out rfl; replace c0 : w3.cell? ⟨g3, kn * 9, none⟩ = some (.int .i64 pr) := c0)
          go_wp2_with fail
          obtain ⟨W, hW⟩ : ∃ W, W = w3 := ⟨_, rfl⟩
          have XW : Hid (OwnS wvG 9 28 W w.heap.size (.slice (some ⟨g3, 0, none⟩) len kc) fs ∧ Below w.heap.size w W) := by rw [hW]; exact ⟨X3.out.1, X3.out.2⟩
          have hxW : fs[kn]? = some ⟨pr, mc, si, sp, di, dp, st, un, ow⟩ := HX.out
          clear c0 c6 c7 z0 z6 z7 
          obtain ⟨d0, -⟩ := XW.out.1.cell wvG_len (j := 0) hxW rfl
          replace d0 : W.cell? ⟨g3, kn * 9, none⟩ = some (.int .i64 pr) := d0
          obtain ⟨d6, -⟩ := XW.out.1.cell wvG_len (j := 6) hxW rfl
          obtain ⟨d7, z7⟩ := XW.out.1.cell wvG_len (j := 7) hxW rfl
          have sF := XW.out.1.set1 wvG_len (j := 7) (y := ⟨pr, mc, si, sp, di, dp, st, now + n, ow⟩) hxW (by omega) rfl
          have YF : Hid (OwnS wvG 9 28 (W.setCell ⟨g3, kn * 9 + 7, none⟩ (.int .i64 (now + n))).drew w.heap.size (.slice (some ⟨g3, 0, none⟩) len kc) (fs.set kn ⟨pr, mc, si, sp, di, dp, st, now + n, ow⟩) ∧ Below w.heap.size w (W.setCell ⟨g3, kn * 9 + 7, none⟩ (.int .i64 (now + n))).drew) := ⟨sF.1, (XW.out.2.grown sF.2 XW.out.2.size (fun k hk => by cases hk; exact hg3)).drew⟩
          have M : Hid (∀ v, (W.setCell ⟨g3, kn * 9 + 7, none⟩ v).drew.cell? ⟨g3, kn * 9, none⟩ = some (.int .i64 pr) ∧ (W.setCell ⟨g3, kn * 9 + 7, none⟩ v).drew.cell? ⟨g3, kn * 9 + 6, none⟩ = some (.int .i64 st)) := fun v => ⟨by simp [go_sem, d0], by simp [go_sem, d6]⟩
          clear sF
          rw [← hW]
          clear hW
          go_region_held3 (fun w' => w'.cell? ⟨g3, kn * 9, none⟩ = some (.int .i64 pr) ∧ w'.cell? ⟨g3, kn * 9 + 6, none⟩ = some (.int .i64 st)) (first | exact ⟨d0, d6⟩ | exact M.out _) ((go_at_call 75; (with_reducible refine (TQ.out _).mono ?_); rintro e w1 ⟨rfl, rfl⟩))
          all_goals
            go_wp2
            go_ret
            exact ⟨_, rfl, YF.out.1, YF.out.2⟩
        | true =>
          by_cases h1 : st = 1
          · have h1b : (st == 1) = true := by simp [h1]
            have EPS : psS pr st flags true = 2 := by unfold psS; rw [if_neg (fun h => by rw [hf] at h; simp at h), if_pos ⟨h1, rfl⟩]
            rw [EPS]
            clear EPS
            have hb := wtN_bd pr (2)
            have TQ : Hid (∀ w, Calls Try.prog 75 #[.int .i64 pr, .int .i64 2] w fun e w' => e = .returned (.int .i64 (wtN pr 2)) ∧ w' = w) := fun w => T.out pr 2 w
            generalize wtN pr 2 = n at hb TQ ⊢
            have hw : IntKind.i64.wrap (now + n) = now + n := by rw [IntKind.wrap_i64]; omega
            clear h6 h1
            go_enter Try.func58, Try.ntmps58
            go_wp2_with (at_builtin; refine wpl_flows _ rfl (.tmp 13) (.tmp 14) rfl w.heap.size _ [] fs rfl (OwnS.lit w _ (Nat.le_refl _)) b off len cap hl rfl (fun j u hu => acell (RC.out w (Below.refl _ _) j u hu) _) (by simp; omega) (by simp) ?_; intro v3 w3 Y _; obtain ⟨a3, kc, hv3, hc3, hc4, -⟩ := Y.out.1.slice; subst hv3; obtain ⟨g3, ha3, hg3, hg4, -⟩ := Y.out.1.form (by simpa using Nat.lt_of_le_of_lt (Nat.zero_le _) hlt); subst ha3; have X3 : Hid (OwnS wvG 9 28 w3 w.heap.size (.slice (some ⟨g3, 0, none⟩) fs.length kc) fs ∧ Below w.heap.size w w3) := ⟨Y.out.1, ((Below.refl _ _).alloc (Nat.le_refl _) _).trans Y.out.2⟩; clear Y; rw [List.nil_append, hl]; rw [hl] at X3; obtain ⟨c0, z0⟩ := X3.out.1.cell wvG_len (j := 0) HX.out rfl; obtain ⟨c6, z6⟩ := X3.out.1.cell wvG_len (j := 6) HX.out rfl; obtain ⟨c7, z7⟩ := X3.out.1.cell wvG_len (j := 7) HX.out rfl; replace c0 : w3.cell? ⟨g3, kn * 9, none⟩ = some (.int .i64 pr) := c0)
            go_wp2_with fail
            have s0 := X3.out.1.set1 wvG_len (j := 6) (y := ⟨pr, mc, si, sp, di, dp, 2, un, ow⟩) HX.out (by omega) rfl
            have x0 : (fs.set kn ⟨pr, mc, si, sp, di, dp, 2, un, ow⟩)[kn]? = some ⟨pr, mc, si, sp, di, dp, 2, un, ow⟩ := List.getElem?_set_self (by omega)
            obtain ⟨W, hW⟩ : ∃ W, W = (w3.setCell ⟨g3, kn * 9 + 6, none⟩ (.int .i64 2)) := ⟨_, rfl⟩
            have XW : Hid (OwnS wvG 9 28 W w.heap.size (.slice (some ⟨g3, 0, none⟩) len kc) (fs.set kn ⟨pr, mc, si, sp, di, dp, 2, un, ow⟩) ∧ Below w.heap.size w W) := by rw [hW]; exact ⟨s0.1, (X3.out.2.grown s0.2 X3.out.2.size (fun k hk => by cases hk; exact hg3))⟩
            have hxW : (fs.set kn ⟨pr, mc, si, sp, di, dp, 2, un, ow⟩)[kn]? = some ⟨pr, mc, si, sp, di, dp, 2, un, ow⟩ := x0
            clear c0 c6 c7 z0 z6 z7 s0 x0
            obtain ⟨d0, -⟩ := XW.out.1.cell wvG_len (j := 0) hxW rfl
            replace d0 : W.cell? ⟨g3, kn * 9, none⟩ = some (.int .i64 pr) := d0
            obtain ⟨d6, -⟩ := XW.out.1.cell wvG_len (j := 6) hxW rfl
            obtain ⟨d7, z7⟩ := XW.out.1.cell wvG_len (j := 7) hxW rfl
            have sF := XW.out.1.set1 wvG_len (j := 7) (y := ⟨pr, mc, si, sp, di, dp, 2, now + n, ow⟩) hxW (by omega) rfl
            rw [List.set_set] at sF
            have YF : Hid (OwnS wvG 9 28 (W.setCell ⟨g3, kn * 9 + 7, none⟩ (.int .i64 (now + n))).drew w.heap.size (.slice (some ⟨g3, 0, none⟩) len kc) (fs.set kn ⟨pr, mc, si, sp, di, dp, 2, now + n, ow⟩) ∧ Below w.heap.size w (W.setCell ⟨g3, kn * 9 + 7, none⟩ (.int .i64 (now + n))).drew) := ⟨sF.1, (XW.out.2.grown sF.2 XW.out.2.size (fun k hk => by cases hk; exact hg3)).drew⟩
            have M : Hid (∀ v, (W.setCell ⟨g3, kn * 9 + 7, none⟩ v).drew.cell? ⟨g3, kn * 9, none⟩ = some (.int .i64 pr) ∧ (W.setCell ⟨g3, kn * 9 + 7, none⟩ v).drew.cell? ⟨g3, kn * 9 + 6, none⟩ = some (.int .i64 2)) := fun v => ⟨by simp [go_sem, d0], by simp [go_sem, d6]⟩
            clear sF
            rw [← hW]
            clear hW
            go_region_held3 (fun w' => w'.cell? ⟨g3, kn * 9, none⟩ = some (.int .i64 pr) ∧ w'.cell? ⟨g3, kn * 9 + 6, none⟩ = some (.int .i64 2)) (first | exact ⟨d0, d6⟩ | exact M.out _) ((go_at_call 75; (with_reducible refine (TQ.out _).mono ?_); rintro e w1 ⟨rfl, rfl⟩))
            all_goals
              go_wp2
              go_ret
              exact ⟨_, rfl, YF.out.1, YF.out.2⟩
          · have h1b : (st == 1) = false := by simp [h1]
            have EPS : psS pr st flags true = st := by unfold psS; rw [if_neg (fun h => by rw [hf] at h; simp at h), if_neg (fun h => h1 h.1)]
            rw [EPS]
            clear EPS
            have hb := wtN_bd pr (st)
            have TQ : Hid (∀ w, Calls Try.prog 75 #[.int .i64 pr, .int .i64 st] w fun e w' => e = .returned (.int .i64 (wtN pr st)) ∧ w' = w) := fun w => T.out pr st w
            generalize wtN pr st = n at hb TQ ⊢
            have hw : IntKind.i64.wrap (now + n) = now + n := by rw [IntKind.wrap_i64]; omega
            clear h6 h1
            go_enter Try.func58, Try.ntmps58
            go_wp2_with (at_builtin; refine wpl_flows _ rfl (.tmp 13) (.tmp 14) rfl w.heap.size _ [] fs rfl (OwnS.lit w _ (Nat.le_refl _)) b off len cap hl rfl (fun j u hu => acell (RC.out w (Below.refl _ _) j u hu) _) (by simp; omega) (by simp) ?_; intro v3 w3 Y _; obtain ⟨a3, kc, hv3, hc3, hc4, -⟩ := Y.out.1.slice; subst hv3; obtain ⟨g3, ha3, hg3, hg4, -⟩ := Y.out.1.form (by simpa using Nat.lt_of_le_of_lt (Nat.zero_le _) hlt); subst ha3; have X3 : Hid (OwnS wvG 9 28 w3 w.heap.size (.slice (some ⟨g3, 0, none⟩) fs.length kc) fs ∧ Below w.heap.size w w3) := ⟨Y.out.1, ((Below.refl _ _).alloc (Nat.le_refl _) _).trans Y.out.2⟩; clear Y; rw [List.nil_append, hl]; rw [hl] at X3; obtain ⟨c0, z0⟩ := X3.out.1.cell wvG_len (j := 0) HX.out rfl; obtain ⟨c6, z6⟩ := X3.out.1.cell wvG_len (j := 6) HX.out rfl; obtain ⟨c7, z7⟩ := X3.out.1.cell wvG_len (j := 7) HX.out rfl; replace c0 : w3.cell? ⟨g3, kn * 9, none⟩ = some (.int .i64 pr) := c0)
            go_wp2_with fail
            obtain ⟨W, hW⟩ : ∃ W, W = w3 := ⟨_, rfl⟩
            have XW : Hid (OwnS wvG 9 28 W w.heap.size (.slice (some ⟨g3, 0, none⟩) len kc) fs ∧ Below w.heap.size w W) := by rw [hW]; exact ⟨X3.out.1, X3.out.2⟩
            have hxW : fs[kn]? = some ⟨pr, mc, si, sp, di, dp, st, un, ow⟩ := HX.out
            clear c0 c6 c7 z0 z6 z7 
            obtain ⟨d0, -⟩ := XW.out.1.cell wvG_len (j := 0) hxW rfl
            replace d0 : W.cell? ⟨g3, kn * 9, none⟩ = some (.int .i64 pr) := d0
            obtain ⟨d6, -⟩ := XW.out.1.cell wvG_len (j := 6) hxW rfl
            obtain ⟨d7, z7⟩ := XW.out.1.cell wvG_len (j := 7) hxW rfl
            have sF := XW.out.1.set1 wvG_len (j := 7) (y := ⟨pr, mc, si, sp, di, dp, st, now + n, ow⟩) hxW (by omega) rfl
            have YF : Hid (OwnS wvG 9 28 (W.setCell ⟨g3, kn * 9 + 7, none⟩ (.int .i64 (now + n))).drew w.heap.size (.slice (some ⟨g3, 0, none⟩) len kc) (fs.set kn ⟨pr, mc, si, sp, di, dp, st, now + n, ow⟩) ∧ Below w.heap.size w (W.setCell ⟨g3, kn * 9 + 7, none⟩ (.int .i64 (now + n))).drew) := ⟨sF.1, (XW.out.2.grown sF.2 XW.out.2.size (fun k hk => by cases hk; exact hg3)).drew⟩
            have M : Hid (∀ v, (W.setCell ⟨g3, kn * 9 + 7, none⟩ v).drew.cell? ⟨g3, kn * 9, none⟩ = some (.int .i64 pr) ∧ (W.setCell ⟨g3, kn * 9 + 7, none⟩ v).drew.cell? ⟨g3, kn * 9 + 6, none⟩ = some (.int .i64 st)) := fun v => ⟨by simp [go_sem, d0], by simp [go_sem, d6]⟩
            clear sF
            rw [← hW]
            clear hW
            go_region_held3 (fun w' => w'.cell? ⟨g3, kn * 9, none⟩ = some (.int .i64 pr) ∧ w'.cell? ⟨g3, kn * 9 + 6, none⟩ = some (.int .i64 st)) (first | exact ⟨d0, d6⟩ | exact M.out _) ((go_at_call 75; (with_reducible refine (TQ.out _).mono ?_); rintro e w1 ⟨rfl, rfl⟩))
            all_goals
              go_wp2
              go_ret
              exact ⟨_, rfl, YF.out.1, YF.out.2⟩
  · have h6b : (pr == 6) = false := by simp [h6]
    rw [if_neg (fun h => h6 h.1)]
    cases back with
    | false =>
      have EPS : psS pr st flags false = st := by unfold psS; rw [if_neg (fun h => h6 h.1), if_neg (by simp)]
      rw [EPS]
      clear EPS
      have hb := wtN_bd pr (st)
      have TQ : Hid (∀ w, Calls Try.prog 75 #[.int .i64 pr, .int .i64 st] w fun e w' => e = .returned (.int .i64 (wtN pr st)) ∧ w' = w) := fun w => T.out pr st w
      generalize wtN pr st = n at hb TQ ⊢
      have hw : IntKind.i64.wrap (now + n) = now + n := by rw [IntKind.wrap_i64]; omega
      clear h6
      go_enter Try.func58, Try.ntmps58
      go_wp2_with (at_builtin; refine wpl_flows _ rfl (.tmp 13) (.tmp 14) rfl w.heap.size _ [] fs rfl (OwnS.lit w _ (Nat.le_refl _)) b off len cap hl rfl (fun j u hu => acell (RC.out w (Below.refl _ _) j u hu) _) (by simp; omega) (by simp) ?_; intro v3 w3 Y _; obtain ⟨a3, kc, hv3, hc3, hc4, -⟩ := Y.out.1.slice; subst hv3; obtain ⟨g3, ha3, hg3, hg4, -⟩ := Y.out.1.form (by simpa using Nat.lt_of_le_of_lt (Nat.zero_le _) hlt); subst ha3; have X3 : Hid (OwnS wvG 9 28 w3 w.heap.size (.slice (some ⟨g3, 0, none⟩) fs.length kc) fs ∧ Below w.heap.size w w3) := ⟨Y.out.1, ((Below.refl _ _).alloc (Nat.le_refl _) _).trans Y.out.2⟩; clear Y; rw [List.nil_append, hl]; rw [hl] at X3; obtain ⟨c0, z0⟩ := X3.out.1.cell wvG_len (j := 0) HX.out rfl; obtain ⟨c6, z6⟩ := X3.out.1.cell wvG_len (j := 6) HX.out rfl; obtain ⟨c7, z7⟩ := X3.out.1.cell wvG_len (j := 7) HX.out rfl; replace c0 : w3.cell? ⟨g3, kn * 9, none⟩ = some (.int .i64 pr) := c0)
      go_wp2_with fail
      obtain ⟨W, hW⟩ : ∃ W, W = w3 := ⟨_, rfl⟩
      have XW : Hid (OwnS wvG 9 28 W w.heap.size (.slice (some ⟨g3, 0, none⟩) len kc) fs ∧ Below w.heap.size w W) := by rw [hW]; exact ⟨X3.out.1, X3.out.2⟩
      have hxW : fs[kn]? = some ⟨pr, mc, si, sp, di, dp, st, un, ow⟩ := HX.out
      clear c0 c6 c7 z0 z6 z7 
      obtain ⟨d0, -⟩ := XW.out.1.cell wvG_len (j := 0) hxW rfl
      replace d0 : W.cell? ⟨g3, kn * 9, none⟩ = some (.int .i64 pr) := d0
      obtain ⟨d6, -⟩ := XW.out.1.cell wvG_len (j := 6) hxW rfl
      obtain ⟨d7, z7⟩ := XW.out.1.cell wvG_len (j := 7) hxW rfl
      have sF := XW.out.1.set1 wvG_len (j := 7) (y := ⟨pr, mc, si, sp, di, dp, st, now + n, ow⟩) hxW (by omega) rfl
      have YF : Hid (OwnS wvG 9 28 (W.setCell ⟨g3, kn * 9 + 7, none⟩ (.int .i64 (now + n))).drew w.heap.size (.slice (some ⟨g3, 0, none⟩) len kc) (fs.set kn ⟨pr, mc, si, sp, di, dp, st, now + n, ow⟩) ∧ Below w.heap.size w (W.setCell ⟨g3, kn * 9 + 7, none⟩ (.int .i64 (now + n))).drew) := ⟨sF.1, (XW.out.2.grown sF.2 XW.out.2.size (fun k hk => by cases hk; exact hg3)).drew⟩
      have M : Hid (∀ v, (W.setCell ⟨g3, kn * 9 + 7, none⟩ v).drew.cell? ⟨g3, kn * 9, none⟩ = some (.int .i64 pr) ∧ (W.setCell ⟨g3, kn * 9 + 7, none⟩ v).drew.cell? ⟨g3, kn * 9 + 6, none⟩ = some (.int .i64 st)) := fun v => ⟨by simp [go_sem, d0], by simp [go_sem, d6]⟩
      clear sF
      rw [← hW]
      clear hW
      go_region_held3 (fun w' => w'.cell? ⟨g3, kn * 9, none⟩ = some (.int .i64 pr) ∧ w'.cell? ⟨g3, kn * 9 + 6, none⟩ = some (.int .i64 st)) (first | exact ⟨d0, d6⟩ | exact M.out _) ((go_at_call 75; (with_reducible refine (TQ.out _).mono ?_); rintro e w1 ⟨rfl, rfl⟩))
      all_goals
        go_wp2
        go_ret
        exact ⟨_, rfl, YF.out.1, YF.out.2⟩
    | true =>
      by_cases h1 : st = 1
      · have h1b : (st == 1) = true := by simp [h1]
        have EPS : psS pr st flags true = 2 := by unfold psS; rw [if_neg (fun h => h6 h.1), if_pos ⟨h1, rfl⟩]
        rw [EPS]
        clear EPS
        have hb := wtN_bd pr (2)
        have TQ : Hid (∀ w, Calls Try.prog 75 #[.int .i64 pr, .int .i64 2] w fun e w' => e = .returned (.int .i64 (wtN pr 2)) ∧ w' = w) := fun w => T.out pr 2 w
        generalize wtN pr 2 = n at hb TQ ⊢
        have hw : IntKind.i64.wrap (now + n) = now + n := by rw [IntKind.wrap_i64]; omega
        clear h6 h1
        go_enter Try.func58, Try.ntmps58
        go_wp2_with (at_builtin; refine wpl_flows _ rfl (.tmp 13) (.tmp 14) rfl w.heap.size _ [] fs rfl (OwnS.lit w _ (Nat.le_refl _)) b off len cap hl rfl (fun j u hu => acell (RC.out w (Below.refl _ _) j u hu) _) (by simp; omega) (by simp) ?_; intro v3 w3 Y _; obtain ⟨a3, kc, hv3, hc3, hc4, -⟩ := Y.out.1.slice; subst hv3; obtain ⟨g3, ha3, hg3, hg4, -⟩ := Y.out.1.form (by simpa using Nat.lt_of_le_of_lt (Nat.zero_le _) hlt); subst ha3; have X3 : Hid (OwnS wvG 9 28 w3 w.heap.size (.slice (some ⟨g3, 0, none⟩) fs.length kc) fs ∧ Below w.heap.size w w3) := ⟨Y.out.1, ((Below.refl _ _).alloc (Nat.le_refl _) _).trans Y.out.2⟩; clear Y; rw [List.nil_append, hl]; rw [hl] at X3; obtain ⟨c0, z0⟩ := X3.out.1.cell wvG_len (j := 0) HX.out rfl; obtain ⟨c6, z6⟩ := X3.out.1.cell wvG_len (j := 6) HX.out rfl; obtain ⟨c7, z7⟩ := X3.out.1.cell wvG_len (j := 7) HX.out rfl; replace c0 : w3.cell? ⟨g3, kn * 9, none⟩ = some (.int .i64 pr) := c0)
        go_wp2_with fail
        have s0 := X3.out.1.set1 wvG_len (j := 6) (y := ⟨pr, mc, si, sp, di, dp, 2, un, ow⟩) HX.out (by omega) rfl
        have x0 : (fs.set kn ⟨pr, mc, si, sp, di, dp, 2, un, ow⟩)[kn]? = some ⟨pr, mc, si, sp, di, dp, 2, un, ow⟩ := List.getElem?_set_self (by omega)
        obtain ⟨W, hW⟩ : ∃ W, W = (w3.setCell ⟨g3, kn * 9 + 6, none⟩ (.int .i64 2)) := ⟨_, rfl⟩
        have XW : Hid (OwnS wvG 9 28 W w.heap.size (.slice (some ⟨g3, 0, none⟩) len kc) (fs.set kn ⟨pr, mc, si, sp, di, dp, 2, un, ow⟩) ∧ Below w.heap.size w W) := by rw [hW]; exact ⟨s0.1, (X3.out.2.grown s0.2 X3.out.2.size (fun k hk => by cases hk; exact hg3))⟩
        have hxW : (fs.set kn ⟨pr, mc, si, sp, di, dp, 2, un, ow⟩)[kn]? = some ⟨pr, mc, si, sp, di, dp, 2, un, ow⟩ := x0
        clear c0 c6 c7 z0 z6 z7 s0 x0
        obtain ⟨d0, -⟩ := XW.out.1.cell wvG_len (j := 0) hxW rfl
        replace d0 : W.cell? ⟨g3, kn * 9, none⟩ = some (.int .i64 pr) := d0
        obtain ⟨d6, -⟩ := XW.out.1.cell wvG_len (j := 6) hxW rfl
        obtain ⟨d7, z7⟩ := XW.out.1.cell wvG_len (j := 7) hxW rfl
        have sF := XW.out.1.set1 wvG_len (j := 7) (y := ⟨pr, mc, si, sp, di, dp, 2, now + n, ow⟩) hxW (by omega) rfl
        rw [List.set_set] at sF
        have YF : Hid (OwnS wvG 9 28 (W.setCell ⟨g3, kn * 9 + 7, none⟩ (.int .i64 (now + n))).drew w.heap.size (.slice (some ⟨g3, 0, none⟩) len kc) (fs.set kn ⟨pr, mc, si, sp, di, dp, 2, now + n, ow⟩) ∧ Below w.heap.size w (W.setCell ⟨g3, kn * 9 + 7, none⟩ (.int .i64 (now + n))).drew) := ⟨sF.1, (XW.out.2.grown sF.2 XW.out.2.size (fun k hk => by cases hk; exact hg3)).drew⟩
        have M : Hid (∀ v, (W.setCell ⟨g3, kn * 9 + 7, none⟩ v).drew.cell? ⟨g3, kn * 9, none⟩ = some (.int .i64 pr) ∧ (W.setCell ⟨g3, kn * 9 + 7, none⟩ v).drew.cell? ⟨g3, kn * 9 + 6, none⟩ = some (.int .i64 2)) := fun v => ⟨by simp [go_sem, d0], by simp [go_sem, d6]⟩
        clear sF
        rw [← hW]
        clear hW
        go_region_held3 (fun w' => w'.cell? ⟨g3, kn * 9, none⟩ = some (.int .i64 pr) ∧ w'.cell? ⟨g3, kn * 9 + 6, none⟩ = some (.int .i64 2)) (first | exact ⟨d0, d6⟩ | exact M.out _) ((go_at_call 75; (with_reducible refine (TQ.out _).mono ?_); rintro e w1 ⟨rfl, rfl⟩))
        all_goals
          go_wp2
          go_ret
          exact ⟨_, rfl, YF.out.1, YF.out.2⟩
      · have h1b : (st == 1) = false := by simp [h1]
        have EPS : psS pr st flags true = st := by unfold psS; rw [if_neg (fun h => h6 h.1), if_neg (fun h => h1 h.1)]
        rw [EPS]
        clear EPS
        have hb := wtN_bd pr (st)
        have TQ : Hid (∀ w, Calls Try.prog 75 #[.int .i64 pr, .int .i64 st] w fun e w' => e = .returned (.int .i64 (wtN pr st)) ∧ w' = w) := fun w => T.out pr st w
        generalize wtN pr st = n at hb TQ ⊢
        have hw : IntKind.i64.wrap (now + n) = now + n := by rw [IntKind.wrap_i64]; omega
        clear h6 h1
        go_enter Try.func58, Try.ntmps58
        go_wp2_with (at_builtin; refine wpl_flows _ rfl (.tmp 13) (.tmp 14) rfl w.heap.size _ [] fs rfl (OwnS.lit w _ (Nat.le_refl _)) b off len cap hl rfl (fun j u hu => acell (RC.out w (Below.refl _ _) j u hu) _) (by simp; omega) (by simp) ?_; intro v3 w3 Y _; obtain ⟨a3, kc, hv3, hc3, hc4, -⟩ := Y.out.1.slice; subst hv3; obtain ⟨g3, ha3, hg3, hg4, -⟩ := Y.out.1.form (by simpa using Nat.lt_of_le_of_lt (Nat.zero_le _) hlt); subst ha3; have X3 : Hid (OwnS wvG 9 28 w3 w.heap.size (.slice (some ⟨g3, 0, none⟩) fs.length kc) fs ∧ Below w.heap.size w w3) := ⟨Y.out.1, ((Below.refl _ _).alloc (Nat.le_refl _) _).trans Y.out.2⟩; clear Y; rw [List.nil_append, hl]; rw [hl] at X3; obtain ⟨c0, z0⟩ := X3.out.1.cell wvG_len (j := 0) HX.out rfl; obtain ⟨c6, z6⟩ := X3.out.1.cell wvG_len (j := 6) HX.out rfl; obtain ⟨c7, z7⟩ := X3.out.1.cell wvG_len (j := 7) HX.out rfl; replace c0 : w3.cell? ⟨g3, kn * 9, none⟩ = some (.int .i64 pr) := c0)
        go_wp2_with fail
        obtain ⟨W, hW⟩ : ∃ W, W = w3 := ⟨_, rfl⟩
        have XW : Hid (OwnS wvG 9 28 W w.heap.size (.slice (some ⟨g3, 0, none⟩) len kc) fs ∧ Below w.heap.size w W) := by rw [hW]; exact ⟨X3.out.1, X3.out.2⟩
        have hxW : fs[kn]? = some ⟨pr, mc, si, sp, di, dp, st, un, ow⟩ := HX.out
        clear c0 c6 c7 z0 z6 z7 
        obtain ⟨d0, -⟩ := XW.out.1.cell wvG_len (j := 0) hxW rfl
        replace d0 : W.cell? ⟨g3, kn * 9, none⟩ = some (.int .i64 pr) := d0
        obtain ⟨d6, -⟩ := XW.out.1.cell wvG_len (j := 6) hxW rfl
        obtain ⟨d7, z7⟩ := XW.out.1.cell wvG_len (j := 7) hxW rfl
        have sF := XW.out.1.set1 wvG_len (j := 7) (y := ⟨pr, mc, si, sp, di, dp, st, now + n, ow⟩) hxW (by omega) rfl
        have YF : Hid (OwnS wvG 9 28 (W.setCell ⟨g3, kn * 9 + 7, none⟩ (.int .i64 (now + n))).drew w.heap.size (.slice (some ⟨g3, 0, none⟩) len kc) (fs.set kn ⟨pr, mc, si, sp, di, dp, st, now + n, ow⟩) ∧ Below w.heap.size w (W.setCell ⟨g3, kn * 9 + 7, none⟩ (.int .i64 (now + n))).drew) := ⟨sF.1, (XW.out.2.grown sF.2 XW.out.2.size (fun k hk => by cases hk; exact hg3)).drew⟩
        have M : Hid (∀ v, (W.setCell ⟨g3, kn * 9 + 7, none⟩ v).drew.cell? ⟨g3, kn * 9, none⟩ = some (.int .i64 pr) ∧ (W.setCell ⟨g3, kn * 9 + 7, none⟩ v).drew.cell? ⟨g3, kn * 9 + 6, none⟩ = some (.int .i64 st)) := fun v => ⟨by simp [go_sem, d0], by simp [go_sem, d6]⟩
        clear sF
        rw [← hW]
        clear hW
        go_region_held3 (fun w' => w'.cell? ⟨g3, kn * 9, none⟩ = some (.int .i64 pr) ∧ w'.cell? ⟨g3, kn * 9 + 6, none⟩ = some (.int .i64 st)) (first | exact ⟨d0, d6⟩ | exact M.out _) ((go_at_call 75; (with_reducible refine (TQ.out _).mono ?_); rintro e w1 ⟨rfl, rfl⟩))
        all_goals
          go_wp2
          go_ret
          exact ⟨_, rfl, YF.out.1, YF.out.2⟩
end Go.Proofs.Ythokaemeadhkjaa
