/- FlowOpen, the program's and the model's. -/
import Derived.Test.YthokaemeadhkjaaFloD
import Derived.Test.YthokaemeadhkjaaFloW
import Derived.Deep.RegionHeld3
import Derived.Lib.SliceRun
namespace Go.Proofs.Ythokaemeadhkjaa
open Go.RowKit Go.PlainAid Go.Proofs.Ythokaemeadhkjaa.Bt Go.Sort
set_option linter.unusedVariables false
set_option maxRecDepth 20000

theorem int_wfO {n : Int} (h0 : 0 ≤ n) (h1 : n ≤ 1000000000000) : (Lit.int .i64 n).wf = true := by
  have : IntKind.i64.min = -9223372036854775808 := by decide
  have : IntKind.i64.max = 9223372036854775807 := by decide
  simp [Lit.wf]
  omega
set_option maxHeartbeats 1000000 in
/-- slices.Clone of flows. -/
theorem clone9_any (b off len cap : Nat) (fs : List FlowV) (w : World) (h : Rw FlR 9 w (some ⟨b, off, none⟩) fs) (hl : fs.length = len) (hm : len ≤ 4096) (hc : len ≤ cap) :
    Calls Try.prog 37 #[.slice (some ⟨b, off, none⟩) len cap] w fun e w' => ∃ v, e = .returned v ∧ OwnS wvG 9 28 w' w.heap.size v fs ∧ Below w.heap.size w w' := by
  have RC : Hid (∀ j u, (flatS wvG fs)[j]? = some u → w.cell? ⟨b, off + j, none⟩ = some u) := flat_rw h wvG_len (by omega)
  have q22 : (binOp .eql 23 (.slice (some ⟨b, off, none⟩) len cap) (.slice none 0 0)).run Try.prog w = .ok (.bool false) w := Lib.run_eql_slice_nil w _ _ (some ⟨b, off, none⟩) len cap 0 0 Try.underlying23
  clear h
  go_enter Try.func37, Try.ntmps37
  go_wp2_with (at_builtin; refine wpl_flows _ rfl (.tmp 5) (.tmp 6) rfl w.heap.size _ [] fs rfl (OwnS.lit w _ (Nat.le_refl _)) b off len cap hl rfl (fun j u hu => acell (RC.out j u hu) _) (by simp; omega) (by simp) ?_; intro v' w3 Y _)
  have Y2 : Hid (OwnS wvG 9 28 w3 w.heap.size v' fs ∧ Below w.heap.size w w3) := ⟨Y.out.1, ((Below.refl _ _).alloc (Nat.le_refl _) _).trans Y.out.2⟩
  clear Y
  go_wp2
  go_ret
  exact ⟨_, rfl, Y2.out.1, Y2.out.2⟩
/-- What FlowOpen answers. -/
noncomputable def opC (fs : List FlowV) (f : FlowV) (now : Int) : Int :=
  if ffC fs ≠ 0 then ffC fs else if flB { f with st := 1, un := 0 } = false then 1 else if dec (0 ≤ now ∧ now ≤ 100000) = false then 4 else if fkT (plM fs fs.length) (enOf f) = true then 9 else if fs.length = 8 then 7 else 0
noncomputable def opL (fs : List FlowV) (f : FlowV) (now : Int) : List FlowV :=
  if ffC fs ≠ 0 then [] else if flB { f with st := 1, un := 0 } = false then [] else if dec (0 ≤ now ∧ now ≤ 100000) = false then [] else if fkT (plM fs fs.length) (enOf f) = true then fs else if fs.length = 8 then fs else fs ++ [{ f with st := 1, un := now + wtN f.pr 1 }]
theorem opL_len (fs : List FlowV) (f : FlowV) (now : Int) : (opL fs f now).length ≤ fs.length + 1 := by
  unfold opL
  repeat' split
  all_goals simp
theorem opL_ok {fs : List FlowV} {f : FlowV} (now : Int) (h : ∀ x, x ∈ fs → FlRok x) (hf : FlRok f) : ∀ x, x ∈ opL fs f now → FlRok x := by
  intro x hx
  unfold opL at hx
  split at hx
  · simp at hx
  split at hx
  · simp at hx
  split at hx
  · simp at hx
  rename_i h3
  have h4 : 0 ≤ now ∧ now ≤ 100000 := by simpa [dec] using h3
  split at hx
  · exact h x hx
  split at hx
  · exact h x hx
  rcases List.mem_append.1 hx with h1 | h1
  · exact h x h1
  · simp at h1
    subst h1
    have := wtN_bd f.pr 1
    exact ⟨hf.1, hf.2.1, hf.2.2.1, hf.2.2.2.1, hf.2.2.2.2.1, hf.2.2.2.2.2.1, int_wfO (n := 1) (by omega) (by omega), int_wfO (n := now + wtN f.pr 1) (by omega) (by omega), hf.2.2.2.2.2.2.2.2⟩
theorem flB_bd {f : FlowV} (h : flB f = true) : (0 ≤ f.pr ∧ f.pr ≤ 255) ∧ f.mc.size = 6 ∧ (1 ≤ f.st ∧ f.st ≤ 3) ∧ (0 ≤ f.un ∧ f.un ≤ 100100) := by
  unfold flB at h
  simp [dec] at h
  omega
def SF (q : Nat) (pr : Int) (mc : ByteArray) (si sp di dp ow : Int) (W wx : World) : Prop := wx.cell? ⟨q, 0, none⟩ = some (.int .i64 pr) ∧ wx.cell? ⟨q, 1, none⟩ = some (.string mc) ∧ wx.cell? ⟨q, 2, none⟩ = some (.int .i64 si) ∧ wx.cell? ⟨q, 3, none⟩ = some (.int .i64 sp) ∧ wx.cell? ⟨q, 4, none⟩ = some (.int .i64 di) ∧ wx.cell? ⟨q, 5, none⟩ = some (.int .i64 dp) ∧ wx.cell? ⟨q, 6, none⟩ = some (.int .i64 1) ∧ wx.cell? ⟨q, 7, none⟩ = some (.int .i64 0) ∧ wx.cell? ⟨q, 8, none⟩ = some (.int .i64 ow) ∧ KeptE W wx
theorem SF.below {q : Nat} {pr : Int} {mc : ByteArray} {si sp di dp ow : Int} {W wx wy : World} (h : SF q pr mc si sp di dp ow W wx) (hb : Below wx.heap.size wx wy) : SF q pr mc si sp di dp ow W wy :=
  ⟨bkeep hb h.1, bkeep hb h.2.1, bkeep hb h.2.2.1, bkeep hb h.2.2.2.1, bkeep hb h.2.2.2.2.1, bkeep hb h.2.2.2.2.2.1, bkeep hb h.2.2.2.2.2.2.1, bkeep hb h.2.2.2.2.2.2.2.1, bkeep hb h.2.2.2.2.2.2.2.2.1, ⟨h.2.2.2.2.2.2.2.2.2.out.trans (hb.mono h.2.2.2.2.2.2.2.2.2.out.size)⟩⟩
set_option maxHeartbeats 4000000 in
theorem implOpen_any (b off len cap : Nat) (fs : List FlowV) (pr : Int) (mc : ByteArray) (si sp di dp st un ow : Int) (now : Int) (w : World) (h : Rw FlR 9 w (some ⟨b, off, none⟩) fs) (hok : ∀ x, x ∈ fs → FlRok x) (hl : fs.length = len) (hm : len ≤ 1048576) (hc : len ≤ cap) (hfk : FlRok ⟨pr, mc, si, sp, di, dp, st, un, ow⟩) :
    Calls Try.prog 11 #[.slice (some ⟨b, off, none⟩) len cap, .agg #[.int .i64 pr, .string mc, .int .i64 si, .int .i64 sp, .int .i64 di, .int .i64 dp, .int .i64 st, .int .i64 un, .int .i64 ow], .int .i64 now] w fun e w' => ∃ v, e = .returned (.tuple #[v, .int .i64 (opC fs ⟨pr, mc, si, sp, di, dp, st, un, ow⟩ now)]) ∧ OwnS wvG 9 28 w' w.heap.size v (opL fs ⟨pr, mc, si, sp, di, dp, st, un, ow⟩ now) ∧ Below w.heap.size w w' := by
  have RW : Hid (Rw FlR 9 w (some ⟨b, off, none⟩) fs) := h
  have HF : Hid (∀ w, Rw FlR 9 w (some ⟨b, off, none⟩) fs → Calls Try.prog 34 #[.slice (some ⟨b, off, none⟩) len cap] w fun e w' => e = .returned (.int .i64 (ffC fs)) ∧ Below w.heap.size w w') := fun w h => flowsFault_any _ len cap fs w h hok hl hm
  by_cases hf : ffC fs = 0
  rotate_left
  · have E1 : Hid (opC fs ⟨pr, mc, si, sp, di, dp, st, un, ow⟩ now = ffC fs) := if_pos hf
    have E2 : Hid (opL fs ⟨pr, mc, si, sp, di, dp, st, un, ow⟩ now = []) := if_pos hf
    rw [E1.out, E2.out]
    clear E1 E2 h hok hfk
    generalize ffC fs = z at HF hf ⊢
    have hz : (z == 0) = false := by simp [hf]
    have hz2 : (z != 0) = true := by simp [hf]
    clear hf
    go_enter Try.func11, Try.ntmps11
    go_wp2_with fail
    refine (HF.out _ (RW.out.keep FR.kp ((Below.refl _ _).alloc (Nat.le_refl _) _))).mono ?_
    rintro e w2 ⟨rfl, g2⟩
    have G2 : Hid (Below w.heap.size w w2) := ((Below.refl _ _).alloc (Nat.le_refl _) _).trans (g2.mono (by simp))
    clear g2
    go_wp2
    go_ret2
    exact ⟨_, rfl, (OwnS.nil w2 _), G2.out⟩
  have hq : foB fs = true := by
    rcases ff_cases fs with h1 | h1 | h1
    · have := h1.2; omega
    · have := h1.2.2; omega
    · exact h1.2.1
  have h8 : len ≤ 8 := by have := (foB_says hq).1; omega
  have E1 : opC fs ⟨pr, mc, si, sp, di, dp, st, un, ow⟩ now = if flB ⟨pr, mc, si, sp, di, dp, 1, 0, ow⟩ = false then 1 else if dec (0 ≤ now ∧ now ≤ 100000) = false then 4 else if fkT (plM fs fs.length) ⟨pr, si, sp, di, dp⟩ = true then 9 else if fs.length = 8 then 7 else 0 := if_neg (by simp [hf])
  have E2 : opL fs ⟨pr, mc, si, sp, di, dp, st, un, ow⟩ now = if flB ⟨pr, mc, si, sp, di, dp, 1, 0, ow⟩ = false then [] else if dec (0 ≤ now ∧ now ≤ 100000) = false then [] else if fkT (plM fs fs.length) ⟨pr, si, sp, di, dp⟩ = true then fs else if fs.length = 8 then fs else fs ++ [⟨pr, mc, si, sp, di, dp, 1, now + wtN pr 1, ow⟩] := if_neg (by simp [hf])
  rw [hf] at HF
  have H1 : Hid (∀ w, Calls Try.prog 35 #[.agg #[.int .i64 pr, .string mc, .int .i64 si, .int .i64 sp, .int .i64 di, .int .i64 dp, .int .i64 1, .int .i64 0, .int .i64 ow]] w fun e w' => e = .returned (.bool (flB ⟨pr, mc, si, sp, di, dp, 1, 0, ow⟩)) ∧ Grw w w') := fun w => flowOK_any pr mc si sp di dp 1 0 ow w (wf_le hfk.1) (wf_le hfk.2.2.2.1) (wf_le hfk.2.2.2.2.2.1)
  have H2 : Hid (∀ w, Calls Try.prog 36 #[.int .i64 now] w fun e w' => e = .returned (.bool (dec (0 ≤ now ∧ now ≤ 100000))) ∧ w' = w) := fun w => timeOK_any now w
  have H3 : Hid (∀ w, Rw FlR 9 w (some ⟨b, off, none⟩) fs → Calls Try.prog 37 #[.slice (some ⟨b, off, none⟩) len cap] w fun e w' => ∃ v, e = .returned v ∧ OwnS wvG 9 28 w' w.heap.size v fs ∧ Below w.heap.size w w') := fun w h => clone9_any b off len cap fs w h hl (by omega) hc
  have H4 : Hid (∀ w, Rw FlR 9 w (some ⟨b, off, none⟩) fs → Calls Try.prog 39 #[.slice (some ⟨b, off, none⟩) len cap] w fun e w' => e = .returned (.map (some w.heap.size)) ∧ OwnM w' w.heap.size len (plM fs len) ∧ Below w.heap.size w w') := fun w h => flowPlaces_any _ len cap fs w h hok hl (by omega)
  have H5 : Hid (∀ w, Calls Try.prog 40 #[.agg #[.int .i64 pr, .string mc, .int .i64 si, .int .i64 sp, .int .i64 di, .int .i64 dp, .int .i64 1, .int .i64 0, .int .i64 ow]] w fun e w' => e = .returned (.agg #[.int .i64 pr, .int .i64 si, .int .i64 sp, .int .i64 di, .int .i64 dp]) ∧ Grw w w') := fun w => endsOf_any pr mc si sp di dp 1 0 ow w
  have H6 : Hid (∀ b w2, OwnM w2 b len (plM fs len) → Calls Try.prog 38 #[.map (some b), .agg #[.int .i64 pr, .int .i64 si, .int .i64 sp, .int .i64 di, .int .i64 dp]] w2 fun e w' => e = .returned (.tuple #[.int .i64 (fkK (plM fs len) ⟨pr, si, sp, di, dp⟩), .bool (fkB (plM fs len) ⟨pr, si, sp, di, dp⟩), .bool (fkT (plM fs len) ⟨pr, si, sp, di, dp⟩)]) ∧ Grw w2 w') := fun b w2 h2 => placeOfEnds_any b len (plM fs len) pr si sp di dp w2 h2 (enOf_ok hfk)
  have H7 : Hid (flB ⟨pr, mc, si, sp, di, dp, 1, 0, ow⟩ = true → dec (0 ≤ now ∧ now ≤ 100000) = true → ∀ w, Calls Try.prog 41 #[.agg #[.int .i64 pr, .string mc, .int .i64 si, .int .i64 sp, .int .i64 di, .int .i64 dp, .int .i64 1, .int .i64 0, .int .i64 ow], .int .i64 now] w fun e w' => e = .returned (.agg #[.int .i64 pr, .string mc, .int .i64 si, .int .i64 sp, .int .i64 di, .int .i64 dp, .int .i64 1, .int .i64 (now + wtN pr 1), .int .i64 ow]) ∧ Grw w w') := fun h1 h2 w => waiting_any pr mc si sp di dp 1 0 ow now w (flB_bd h1).1 (by decide) (by simpa [dec] using h2)
  rw [hl] at E1 E2
  clear h hok hf hfk hq
  generalize fkK (plM fs len) ⟨pr, si, sp, di, dp⟩ = z0 at H6
  generalize fkB (plM fs len) ⟨pr, si, sp, di, dp⟩ = z1 at H6
  generalize fkT (plM fs len) ⟨pr, si, sp, di, dp⟩ = z2 at H6 E1 E2
  generalize flB ⟨pr, mc, si, sp, di, dp, 1, 0, ow⟩ = t1 at H1 H7 E1 E2
  generalize dec (0 ≤ now ∧ now ≤ 100000) = t2 at H2 H7 E1 E2
  generalize opC fs ⟨pr, mc, si, sp, di, dp, st, un, ow⟩ now = y1 at E1 ⊢
  generalize opL fs ⟨pr, mc, si, sp, di, dp, st, un, ow⟩ now = y2 at E2 ⊢
  cases t1 with
  | false =>
    rw [if_pos rfl] at E1 E2
    subst E1
    rw [E2]
    clear E2
    go_enter Try.func11, Try.ntmps11
    go_wp2_with fail
    refine (HF.out _ (RW.out.keep FR.kp ((Below.refl _ _).alloc (Nat.le_refl _) _))).mono ?_
    rintro e w2 ⟨rfl, g2⟩
    have G2 : Hid (Below w.heap.size w w2) := ((Below.refl _ _).alloc (Nat.le_refl _) _).trans (g2.mono (by simp))
    have k0 : w2.cell? ⟨w.heap.size, 0, none⟩ = some (.int .i64 pr) := bkeep g2 (by simp [go_sem])
    have k1 : w2.cell? ⟨w.heap.size, 1, none⟩ = some (.string mc) := bkeep g2 (by simp [go_sem])
    have k2 : w2.cell? ⟨w.heap.size, 2, none⟩ = some (.int .i64 si) := bkeep g2 (by simp [go_sem])
    have k3 : w2.cell? ⟨w.heap.size, 3, none⟩ = some (.int .i64 sp) := bkeep g2 (by simp [go_sem])
    have k4 : w2.cell? ⟨w.heap.size, 4, none⟩ = some (.int .i64 di) := bkeep g2 (by simp [go_sem])
    have k5 : w2.cell? ⟨w.heap.size, 5, none⟩ = some (.int .i64 dp) := bkeep g2 (by simp [go_sem])
    have k6 : w2.cell? ⟨w.heap.size, 6, none⟩ = some (.int .i64 st) := bkeep g2 (by simp [go_sem])
    have k7 : w2.cell? ⟨w.heap.size, 7, none⟩ = some (.int .i64 un) := bkeep g2 (by simp [go_sem])
    have k8 : w2.cell? ⟨w.heap.size, 8, none⟩ = some (.int .i64 ow) := bkeep g2 (by simp [go_sem])
    have f6 : w2.frozen? ⟨w.heap.size, 6, none⟩ = false := bthaw g2 (v := .int .i64 st) (by simp [go_sem]) (by simp [go_sem])
    have f7 : w2.frozen? ⟨w.heap.size, 7, none⟩ = false := bthaw g2 (v := .int .i64 un) (by simp [go_sem]) (by simp [go_sem])
    clear g2
    go_wp2_with fail
    refine (H1.out _).mono ?_
    rintro e w3 ⟨rfl, g3⟩
    have G3 : Hid (Below w.heap.size w w3) := ((G2.out.setCell (p := ⟨w.heap.size, 6, none⟩) (Nat.le_refl _) _).setCell (p := ⟨w.heap.size, 7, none⟩) (Nat.le_refl _) _).trans (g3.below.mono (by have := G2.out.size; simp; omega))
    have m0 : w3.cell? ⟨w.heap.size, 0, none⟩ = some (.int .i64 pr) := g3.keep (by first | (simp [go_sem]; done) | simp [go_sem, k0])
    have m1 : w3.cell? ⟨w.heap.size, 1, none⟩ = some (.string mc) := g3.keep (by first | (simp [go_sem]; done) | simp [go_sem, k1])
    have m2 : w3.cell? ⟨w.heap.size, 2, none⟩ = some (.int .i64 si) := g3.keep (by first | (simp [go_sem]; done) | simp [go_sem, k2])
    have m3 : w3.cell? ⟨w.heap.size, 3, none⟩ = some (.int .i64 sp) := g3.keep (by first | (simp [go_sem]; done) | simp [go_sem, k3])
    have m4 : w3.cell? ⟨w.heap.size, 4, none⟩ = some (.int .i64 di) := g3.keep (by first | (simp [go_sem]; done) | simp [go_sem, k4])
    have m5 : w3.cell? ⟨w.heap.size, 5, none⟩ = some (.int .i64 dp) := g3.keep (by first | (simp [go_sem]; done) | simp [go_sem, k5])
    have m6 : w3.cell? ⟨w.heap.size, 6, none⟩ = some (.int .i64 1) := g3.keep (by first | (simp [go_sem]; done) | simp [go_sem, k6])
    have m7 : w3.cell? ⟨w.heap.size, 7, none⟩ = some (.int .i64 0) := g3.keep (by first | (simp [go_sem]; done) | simp [go_sem, k7])
    have m8 : w3.cell? ⟨w.heap.size, 8, none⟩ = some (.int .i64 ow) := g3.keep (by first | (simp [go_sem]; done) | simp [go_sem, k8])
    clear g3 G2 f6 f7 k0 k1 k2 k3 k4 k5 k6 k7 k8
    go_wp2
    go_ret2
    exact ⟨_, rfl, (OwnS.nil w3 _), G3.out⟩
  | true =>
    rw [if_neg (by simp)] at E1 E2
    cases t2 with
    | false =>
      rw [if_pos rfl] at E1 E2
      subst E1
      rw [E2]
      clear E2
      go_enter Try.func11, Try.ntmps11
      go_wp2_with fail
      refine (HF.out _ (RW.out.keep FR.kp ((Below.refl _ _).alloc (Nat.le_refl _) _))).mono ?_
      rintro e w2 ⟨rfl, g2⟩
      have G2 : Hid (Below w.heap.size w w2) := ((Below.refl _ _).alloc (Nat.le_refl _) _).trans (g2.mono (by simp))
      have k0 : w2.cell? ⟨w.heap.size, 0, none⟩ = some (.int .i64 pr) := bkeep g2 (by simp [go_sem])
      have k1 : w2.cell? ⟨w.heap.size, 1, none⟩ = some (.string mc) := bkeep g2 (by simp [go_sem])
      have k2 : w2.cell? ⟨w.heap.size, 2, none⟩ = some (.int .i64 si) := bkeep g2 (by simp [go_sem])
      have k3 : w2.cell? ⟨w.heap.size, 3, none⟩ = some (.int .i64 sp) := bkeep g2 (by simp [go_sem])
      have k4 : w2.cell? ⟨w.heap.size, 4, none⟩ = some (.int .i64 di) := bkeep g2 (by simp [go_sem])
      have k5 : w2.cell? ⟨w.heap.size, 5, none⟩ = some (.int .i64 dp) := bkeep g2 (by simp [go_sem])
      have k6 : w2.cell? ⟨w.heap.size, 6, none⟩ = some (.int .i64 st) := bkeep g2 (by simp [go_sem])
      have k7 : w2.cell? ⟨w.heap.size, 7, none⟩ = some (.int .i64 un) := bkeep g2 (by simp [go_sem])
      have k8 : w2.cell? ⟨w.heap.size, 8, none⟩ = some (.int .i64 ow) := bkeep g2 (by simp [go_sem])
      have f6 : w2.frozen? ⟨w.heap.size, 6, none⟩ = false := bthaw g2 (v := .int .i64 st) (by simp [go_sem]) (by simp [go_sem])
      have f7 : w2.frozen? ⟨w.heap.size, 7, none⟩ = false := bthaw g2 (v := .int .i64 un) (by simp [go_sem]) (by simp [go_sem])
      clear g2
      go_wp2_with fail
      refine (H1.out _).mono ?_
      rintro e w3 ⟨rfl, g3⟩
      have G3 : Hid (Below w.heap.size w w3) := ((G2.out.setCell (p := ⟨w.heap.size, 6, none⟩) (Nat.le_refl _) _).setCell (p := ⟨w.heap.size, 7, none⟩) (Nat.le_refl _) _).trans (g3.below.mono (by have := G2.out.size; simp; omega))
      have m0 : w3.cell? ⟨w.heap.size, 0, none⟩ = some (.int .i64 pr) := g3.keep (by first | (simp [go_sem]; done) | simp [go_sem, k0])
      have m1 : w3.cell? ⟨w.heap.size, 1, none⟩ = some (.string mc) := g3.keep (by first | (simp [go_sem]; done) | simp [go_sem, k1])
      have m2 : w3.cell? ⟨w.heap.size, 2, none⟩ = some (.int .i64 si) := g3.keep (by first | (simp [go_sem]; done) | simp [go_sem, k2])
      have m3 : w3.cell? ⟨w.heap.size, 3, none⟩ = some (.int .i64 sp) := g3.keep (by first | (simp [go_sem]; done) | simp [go_sem, k3])
      have m4 : w3.cell? ⟨w.heap.size, 4, none⟩ = some (.int .i64 di) := g3.keep (by first | (simp [go_sem]; done) | simp [go_sem, k4])
      have m5 : w3.cell? ⟨w.heap.size, 5, none⟩ = some (.int .i64 dp) := g3.keep (by first | (simp [go_sem]; done) | simp [go_sem, k5])
      have m6 : w3.cell? ⟨w.heap.size, 6, none⟩ = some (.int .i64 1) := g3.keep (by first | (simp [go_sem]; done) | simp [go_sem, k6])
      have m7 : w3.cell? ⟨w.heap.size, 7, none⟩ = some (.int .i64 0) := g3.keep (by first | (simp [go_sem]; done) | simp [go_sem, k7])
      have m8 : w3.cell? ⟨w.heap.size, 8, none⟩ = some (.int .i64 ow) := g3.keep (by first | (simp [go_sem]; done) | simp [go_sem, k8])
      clear g3 G2 f6 f7 k0 k1 k2 k3 k4 k5 k6 k7 k8
      go_wp2_with fail
      refine (H2.out _).mono ?_
      rintro e w9 ⟨rfl, rfl⟩
      go_wp2
      go_ret2
      exact ⟨_, rfl, (OwnS.nil _ _), G3.out⟩
    | true =>
      rw [if_neg (by simp)] at E1 E2
      cases z2 with
      | true =>
        rw [if_pos rfl] at E1 E2
        subst E1
        rw [E2]
        clear E2
        go_enter Try.func11, Try.ntmps11
        go_wp2_with fail
        refine (HF.out _ (RW.out.keep FR.kp ((Below.refl _ _).alloc (Nat.le_refl _) _))).mono ?_
        rintro e w2 ⟨rfl, g2⟩
        have G2 : Hid (Below w.heap.size w w2) := ((Below.refl _ _).alloc (Nat.le_refl _) _).trans (g2.mono (by simp))
        have k0 : w2.cell? ⟨w.heap.size, 0, none⟩ = some (.int .i64 pr) := bkeep g2 (by simp [go_sem])
        have k1 : w2.cell? ⟨w.heap.size, 1, none⟩ = some (.string mc) := bkeep g2 (by simp [go_sem])
        have k2 : w2.cell? ⟨w.heap.size, 2, none⟩ = some (.int .i64 si) := bkeep g2 (by simp [go_sem])
        have k3 : w2.cell? ⟨w.heap.size, 3, none⟩ = some (.int .i64 sp) := bkeep g2 (by simp [go_sem])
        have k4 : w2.cell? ⟨w.heap.size, 4, none⟩ = some (.int .i64 di) := bkeep g2 (by simp [go_sem])
        have k5 : w2.cell? ⟨w.heap.size, 5, none⟩ = some (.int .i64 dp) := bkeep g2 (by simp [go_sem])
        have k6 : w2.cell? ⟨w.heap.size, 6, none⟩ = some (.int .i64 st) := bkeep g2 (by simp [go_sem])
        have k7 : w2.cell? ⟨w.heap.size, 7, none⟩ = some (.int .i64 un) := bkeep g2 (by simp [go_sem])
        have k8 : w2.cell? ⟨w.heap.size, 8, none⟩ = some (.int .i64 ow) := bkeep g2 (by simp [go_sem])
        have f6 : w2.frozen? ⟨w.heap.size, 6, none⟩ = false := bthaw g2 (v := .int .i64 st) (by simp [go_sem]) (by simp [go_sem])
        have f7 : w2.frozen? ⟨w.heap.size, 7, none⟩ = false := bthaw g2 (v := .int .i64 un) (by simp [go_sem]) (by simp [go_sem])
        clear g2
        go_wp2_with fail
        refine (H1.out _).mono ?_
        rintro e w3 ⟨rfl, g3⟩
        have G3 : Hid (Below w.heap.size w w3) := ((G2.out.setCell (p := ⟨w.heap.size, 6, none⟩) (Nat.le_refl _) _).setCell (p := ⟨w.heap.size, 7, none⟩) (Nat.le_refl _) _).trans (g3.below.mono (by have := G2.out.size; simp; omega))
        have m0 : w3.cell? ⟨w.heap.size, 0, none⟩ = some (.int .i64 pr) := g3.keep (by first | (simp [go_sem]; done) | simp [go_sem, k0])
        have m1 : w3.cell? ⟨w.heap.size, 1, none⟩ = some (.string mc) := g3.keep (by first | (simp [go_sem]; done) | simp [go_sem, k1])
        have m2 : w3.cell? ⟨w.heap.size, 2, none⟩ = some (.int .i64 si) := g3.keep (by first | (simp [go_sem]; done) | simp [go_sem, k2])
        have m3 : w3.cell? ⟨w.heap.size, 3, none⟩ = some (.int .i64 sp) := g3.keep (by first | (simp [go_sem]; done) | simp [go_sem, k3])
        have m4 : w3.cell? ⟨w.heap.size, 4, none⟩ = some (.int .i64 di) := g3.keep (by first | (simp [go_sem]; done) | simp [go_sem, k4])
        have m5 : w3.cell? ⟨w.heap.size, 5, none⟩ = some (.int .i64 dp) := g3.keep (by first | (simp [go_sem]; done) | simp [go_sem, k5])
        have m6 : w3.cell? ⟨w.heap.size, 6, none⟩ = some (.int .i64 1) := g3.keep (by first | (simp [go_sem]; done) | simp [go_sem, k6])
        have m7 : w3.cell? ⟨w.heap.size, 7, none⟩ = some (.int .i64 0) := g3.keep (by first | (simp [go_sem]; done) | simp [go_sem, k7])
        have m8 : w3.cell? ⟨w.heap.size, 8, none⟩ = some (.int .i64 ow) := g3.keep (by first | (simp [go_sem]; done) | simp [go_sem, k8])
        clear g3 G2 f6 f7 k0 k1 k2 k3 k4 k5 k6 k7 k8
        go_wp2_with fail
        refine (H2.out _).mono ?_
        rintro e w9 ⟨rfl, rfl⟩
        go_wp2_with fail
        refine (H3.out _ (RW.out.keep FR.kp G3.out)).mono ?_
        rintro e w4 ⟨v4, rfl, o4, b4⟩
        have X4 : Hid (OwnS wvG 9 28 w4 w.heap.size v4 fs ∧ Below w.heap.size w w4) := ⟨o4.lower G3.out.size, G3.out.trans (b4.mono G3.out.size)⟩
        have S1 : Hid (SF w.heap.size pr mc si sp di dp ow w4 w4.drew) := ⟨bkeep b4 m0, bkeep b4 m1, bkeep b4 m2, bkeep b4 m3, bkeep b4 m4, bkeep b4 m5, bkeep b4 m6, bkeep b4 m7, bkeep b4 m8, ⟨(Below.refl _ _).drew⟩⟩
        have SX : Hid (∀ wx wy, Below wx.heap.size wx wy → SF w.heap.size pr mc si sp di dp ow w4 wx → SF w.heap.size pr mc si sp di dp ow w4 wy) := fun wx wy hb h => h.below hb
        have HPX : Hid (∀ wx, SF w.heap.size pr mc si sp di dp ow w4 wx → Rw FlR 9 wx (some ⟨b, off, none⟩) fs) := fun wx h => (RW.out.keep FR.kp X4.out.2).keep FR.kp h.2.2.2.2.2.2.2.2.2.out
        clear o4 b4 m0 m1 m2 m3 m4 m5 m6 m7 m8 G3
        go_wp2_with fail
        go_region_held3 (fun wx => wx.cell? ⟨w.heap.size, 0, none⟩ = some (.int .i64 pr) ∧ wx.cell? ⟨w.heap.size, 1, none⟩ = some (.string mc) ∧ wx.cell? ⟨w.heap.size, 2, none⟩ = some (.int .i64 si) ∧ wx.cell? ⟨w.heap.size, 3, none⟩ = some (.int .i64 sp) ∧ wx.cell? ⟨w.heap.size, 4, none⟩ = some (.int .i64 di) ∧ wx.cell? ⟨w.heap.size, 5, none⟩ = some (.int .i64 dp) ∧ wx.cell? ⟨w.heap.size, 6, none⟩ = some (.int .i64 1) ∧ wx.cell? ⟨w.heap.size, 7, none⟩ = some (.int .i64 0) ∧ wx.cell? ⟨w.heap.size, 8, none⟩ = some (.int .i64 ow) ∧ KeptE w4 wx)
          (first | exact S1.out | exact SX.out _ _ b7 (by assumption) | exact SX.out _ _ b6 (by assumption) | exact SX.out _ _ b5 (by assumption))
          (first | (go_at_call 39; refine (H4.out _ (HPX.out _ (by assumption))).mono ?_; rintro e w5 ⟨rfl, o5, b5⟩) | (go_at_call 40; refine (H5.out _).mono ?_; rintro e w6 ⟨rfl, g6⟩; have b6 := g6.below) | (go_at_call 38; refine (H6.out _ _ (OwnM.now (by exact o5) b6)).mono ?_; rintro e w7 ⟨rfl, g7⟩; have b7 := g7.below))
        have hS7 : SF w.heap.size pr mc si sp di dp ow w4 w7 := by assumption
        have X7 : Hid (OwnS wvG 9 28 w7 w.heap.size v4 fs ∧ Below w.heap.size w w7) := ⟨X4.out.1.now hS7.2.2.2.2.2.2.2.2.2.out, X4.out.2.trans (hS7.2.2.2.2.2.2.2.2.2.out.mono X4.out.2.size)⟩
        clear hS7 b5 b6 b7 g6 g7 o5
        go_wp2
        go_ret2
        exact ⟨_, rfl, X7.out.1, X7.out.2⟩
      | false =>
        rw [if_neg (by simp)] at E1 E2
        by_cases h8e : len = 8
        · rw [if_pos h8e] at E1 E2
          subst E1
          rw [E2]
          clear E2
          have h8z : ((len : Int) == 8) = true := by simp; omega
          clear h8e
          go_enter Try.func11, Try.ntmps11
          go_wp2_with fail
          refine (HF.out _ (RW.out.keep FR.kp ((Below.refl _ _).alloc (Nat.le_refl _) _))).mono ?_
          rintro e w2 ⟨rfl, g2⟩
          have G2 : Hid (Below w.heap.size w w2) := ((Below.refl _ _).alloc (Nat.le_refl _) _).trans (g2.mono (by simp))
          have k0 : w2.cell? ⟨w.heap.size, 0, none⟩ = some (.int .i64 pr) := bkeep g2 (by simp [go_sem])
          have k1 : w2.cell? ⟨w.heap.size, 1, none⟩ = some (.string mc) := bkeep g2 (by simp [go_sem])
          have k2 : w2.cell? ⟨w.heap.size, 2, none⟩ = some (.int .i64 si) := bkeep g2 (by simp [go_sem])
          have k3 : w2.cell? ⟨w.heap.size, 3, none⟩ = some (.int .i64 sp) := bkeep g2 (by simp [go_sem])
          have k4 : w2.cell? ⟨w.heap.size, 4, none⟩ = some (.int .i64 di) := bkeep g2 (by simp [go_sem])
          have k5 : w2.cell? ⟨w.heap.size, 5, none⟩ = some (.int .i64 dp) := bkeep g2 (by simp [go_sem])
          have k6 : w2.cell? ⟨w.heap.size, 6, none⟩ = some (.int .i64 st) := bkeep g2 (by simp [go_sem])
          have k7 : w2.cell? ⟨w.heap.size, 7, none⟩ = some (.int .i64 un) := bkeep g2 (by simp [go_sem])
          have k8 : w2.cell? ⟨w.heap.size, 8, none⟩ = some (.int .i64 ow) := bkeep g2 (by simp [go_sem])
          have f6 : w2.frozen? ⟨w.heap.size, 6, none⟩ = false := bthaw g2 (v := .int .i64 st) (by simp [go_sem]) (by simp [go_sem])
          have f7 : w2.frozen? ⟨w.heap.size, 7, none⟩ = false := bthaw g2 (v := .int .i64 un) (by simp [go_sem]) (by simp [go_sem])
          clear g2
          go_wp2_with fail
          refine (H1.out _).mono ?_
          rintro e w3 ⟨rfl, g3⟩
          have G3 : Hid (Below w.heap.size w w3) := ((G2.out.setCell (p := ⟨w.heap.size, 6, none⟩) (Nat.le_refl _) _).setCell (p := ⟨w.heap.size, 7, none⟩) (Nat.le_refl _) _).trans (g3.below.mono (by have := G2.out.size; simp; omega))
          have m0 : w3.cell? ⟨w.heap.size, 0, none⟩ = some (.int .i64 pr) := g3.keep (by first | (simp [go_sem]; done) | simp [go_sem, k0])
          have m1 : w3.cell? ⟨w.heap.size, 1, none⟩ = some (.string mc) := g3.keep (by first | (simp [go_sem]; done) | simp [go_sem, k1])
          have m2 : w3.cell? ⟨w.heap.size, 2, none⟩ = some (.int .i64 si) := g3.keep (by first | (simp [go_sem]; done) | simp [go_sem, k2])
          have m3 : w3.cell? ⟨w.heap.size, 3, none⟩ = some (.int .i64 sp) := g3.keep (by first | (simp [go_sem]; done) | simp [go_sem, k3])
          have m4 : w3.cell? ⟨w.heap.size, 4, none⟩ = some (.int .i64 di) := g3.keep (by first | (simp [go_sem]; done) | simp [go_sem, k4])
          have m5 : w3.cell? ⟨w.heap.size, 5, none⟩ = some (.int .i64 dp) := g3.keep (by first | (simp [go_sem]; done) | simp [go_sem, k5])
          have m6 : w3.cell? ⟨w.heap.size, 6, none⟩ = some (.int .i64 1) := g3.keep (by first | (simp [go_sem]; done) | simp [go_sem, k6])
          have m7 : w3.cell? ⟨w.heap.size, 7, none⟩ = some (.int .i64 0) := g3.keep (by first | (simp [go_sem]; done) | simp [go_sem, k7])
          have m8 : w3.cell? ⟨w.heap.size, 8, none⟩ = some (.int .i64 ow) := g3.keep (by first | (simp [go_sem]; done) | simp [go_sem, k8])
          clear g3 G2 f6 f7 k0 k1 k2 k3 k4 k5 k6 k7 k8
          go_wp2_with fail
          refine (H2.out _).mono ?_
          rintro e w9 ⟨rfl, rfl⟩
          go_wp2_with fail
          refine (H3.out _ (RW.out.keep FR.kp G3.out)).mono ?_
          rintro e w4 ⟨v4, rfl, o4, b4⟩
          have X4 : Hid (OwnS wvG 9 28 w4 w.heap.size v4 fs ∧ Below w.heap.size w w4) := ⟨o4.lower G3.out.size, G3.out.trans (b4.mono G3.out.size)⟩
          have S1 : Hid (SF w.heap.size pr mc si sp di dp ow w4 w4.drew) := ⟨bkeep b4 m0, bkeep b4 m1, bkeep b4 m2, bkeep b4 m3, bkeep b4 m4, bkeep b4 m5, bkeep b4 m6, bkeep b4 m7, bkeep b4 m8, ⟨(Below.refl _ _).drew⟩⟩
          have SX : Hid (∀ wx wy, Below wx.heap.size wx wy → SF w.heap.size pr mc si sp di dp ow w4 wx → SF w.heap.size pr mc si sp di dp ow w4 wy) := fun wx wy hb h => h.below hb
          have HPX : Hid (∀ wx, SF w.heap.size pr mc si sp di dp ow w4 wx → Rw FlR 9 wx (some ⟨b, off, none⟩) fs) := fun wx h => (RW.out.keep FR.kp X4.out.2).keep FR.kp h.2.2.2.2.2.2.2.2.2.out
          clear o4 b4 m0 m1 m2 m3 m4 m5 m6 m7 m8 G3
          go_wp2_with fail
          go_region_held3 (fun wx => wx.cell? ⟨w.heap.size, 0, none⟩ = some (.int .i64 pr) ∧ wx.cell? ⟨w.heap.size, 1, none⟩ = some (.string mc) ∧ wx.cell? ⟨w.heap.size, 2, none⟩ = some (.int .i64 si) ∧ wx.cell? ⟨w.heap.size, 3, none⟩ = some (.int .i64 sp) ∧ wx.cell? ⟨w.heap.size, 4, none⟩ = some (.int .i64 di) ∧ wx.cell? ⟨w.heap.size, 5, none⟩ = some (.int .i64 dp) ∧ wx.cell? ⟨w.heap.size, 6, none⟩ = some (.int .i64 1) ∧ wx.cell? ⟨w.heap.size, 7, none⟩ = some (.int .i64 0) ∧ wx.cell? ⟨w.heap.size, 8, none⟩ = some (.int .i64 ow) ∧ KeptE w4 wx)
            (first | exact S1.out | exact SX.out _ _ b7 (by assumption) | exact SX.out _ _ b6 (by assumption) | exact SX.out _ _ b5 (by assumption))
            (first | (go_at_call 39; refine (H4.out _ (HPX.out _ (by assumption))).mono ?_; rintro e w5 ⟨rfl, o5, b5⟩) | (go_at_call 40; refine (H5.out _).mono ?_; rintro e w6 ⟨rfl, g6⟩; have b6 := g6.below) | (go_at_call 38; refine (H6.out _ _ (OwnM.now (by exact o5) b6)).mono ?_; rintro e w7 ⟨rfl, g7⟩; have b7 := g7.below))
          have hS7 : SF w.heap.size pr mc si sp di dp ow w4 w7 := by assumption
          have X7 : Hid (OwnS wvG 9 28 w7 w.heap.size v4 fs ∧ Below w.heap.size w w7) := ⟨X4.out.1.now hS7.2.2.2.2.2.2.2.2.2.out, X4.out.2.trans (hS7.2.2.2.2.2.2.2.2.2.out.mono X4.out.2.size)⟩
          clear hS7 b5 b6 b7 g6 g7 o5
          go_wp2
          go_ret2
          exact ⟨_, rfl, X7.out.1, X7.out.2⟩
        · rw [if_neg h8e] at E1 E2
          subst E1
          rw [E2]
          clear E2
          have h8z : ((len : Int) == 8) = false := by simp; omega
          have H8 := H7.out rfl rfl
          clear h8e H7
          go_enter Try.func11, Try.ntmps11
          go_wp2_with fail
          refine (HF.out _ (RW.out.keep FR.kp ((Below.refl _ _).alloc (Nat.le_refl _) _))).mono ?_
          rintro e w2 ⟨rfl, g2⟩
          have G2 : Hid (Below w.heap.size w w2) := ((Below.refl _ _).alloc (Nat.le_refl _) _).trans (g2.mono (by simp))
          have k0 : w2.cell? ⟨w.heap.size, 0, none⟩ = some (.int .i64 pr) := bkeep g2 (by simp [go_sem])
          have k1 : w2.cell? ⟨w.heap.size, 1, none⟩ = some (.string mc) := bkeep g2 (by simp [go_sem])
          have k2 : w2.cell? ⟨w.heap.size, 2, none⟩ = some (.int .i64 si) := bkeep g2 (by simp [go_sem])
          have k3 : w2.cell? ⟨w.heap.size, 3, none⟩ = some (.int .i64 sp) := bkeep g2 (by simp [go_sem])
          have k4 : w2.cell? ⟨w.heap.size, 4, none⟩ = some (.int .i64 di) := bkeep g2 (by simp [go_sem])
          have k5 : w2.cell? ⟨w.heap.size, 5, none⟩ = some (.int .i64 dp) := bkeep g2 (by simp [go_sem])
          have k6 : w2.cell? ⟨w.heap.size, 6, none⟩ = some (.int .i64 st) := bkeep g2 (by simp [go_sem])
          have k7 : w2.cell? ⟨w.heap.size, 7, none⟩ = some (.int .i64 un) := bkeep g2 (by simp [go_sem])
          have k8 : w2.cell? ⟨w.heap.size, 8, none⟩ = some (.int .i64 ow) := bkeep g2 (by simp [go_sem])
          have f6 : w2.frozen? ⟨w.heap.size, 6, none⟩ = false := bthaw g2 (v := .int .i64 st) (by simp [go_sem]) (by simp [go_sem])
          have f7 : w2.frozen? ⟨w.heap.size, 7, none⟩ = false := bthaw g2 (v := .int .i64 un) (by simp [go_sem]) (by simp [go_sem])
          clear g2
          go_wp2_with fail
          refine (H1.out _).mono ?_
          rintro e w3 ⟨rfl, g3⟩
          have G3 : Hid (Below w.heap.size w w3) := ((G2.out.setCell (p := ⟨w.heap.size, 6, none⟩) (Nat.le_refl _) _).setCell (p := ⟨w.heap.size, 7, none⟩) (Nat.le_refl _) _).trans (g3.below.mono (by have := G2.out.size; simp; omega))
          have m0 : w3.cell? ⟨w.heap.size, 0, none⟩ = some (.int .i64 pr) := g3.keep (by first | (simp [go_sem]; done) | simp [go_sem, k0])
          have m1 : w3.cell? ⟨w.heap.size, 1, none⟩ = some (.string mc) := g3.keep (by first | (simp [go_sem]; done) | simp [go_sem, k1])
          have m2 : w3.cell? ⟨w.heap.size, 2, none⟩ = some (.int .i64 si) := g3.keep (by first | (simp [go_sem]; done) | simp [go_sem, k2])
          have m3 : w3.cell? ⟨w.heap.size, 3, none⟩ = some (.int .i64 sp) := g3.keep (by first | (simp [go_sem]; done) | simp [go_sem, k3])
          have m4 : w3.cell? ⟨w.heap.size, 4, none⟩ = some (.int .i64 di) := g3.keep (by first | (simp [go_sem]; done) | simp [go_sem, k4])
          have m5 : w3.cell? ⟨w.heap.size, 5, none⟩ = some (.int .i64 dp) := g3.keep (by first | (simp [go_sem]; done) | simp [go_sem, k5])
          have m6 : w3.cell? ⟨w.heap.size, 6, none⟩ = some (.int .i64 1) := g3.keep (by first | (simp [go_sem]; done) | simp [go_sem, k6])
          have m7 : w3.cell? ⟨w.heap.size, 7, none⟩ = some (.int .i64 0) := g3.keep (by first | (simp [go_sem]; done) | simp [go_sem, k7])
          have m8 : w3.cell? ⟨w.heap.size, 8, none⟩ = some (.int .i64 ow) := g3.keep (by first | (simp [go_sem]; done) | simp [go_sem, k8])
          clear g3 G2 f6 f7 k0 k1 k2 k3 k4 k5 k6 k7 k8
          go_wp2_with fail
          refine (H2.out _).mono ?_
          rintro e w9 ⟨rfl, rfl⟩
          go_wp2_with fail
          refine (H3.out _ (RW.out.keep FR.kp G3.out)).mono ?_
          rintro e w4 ⟨v4, rfl, o4, b4⟩
          have X4 : Hid (OwnS wvG 9 28 w4 w.heap.size v4 fs ∧ Below w.heap.size w w4) := ⟨o4.lower G3.out.size, G3.out.trans (b4.mono G3.out.size)⟩
          have S1 : Hid (SF w.heap.size pr mc si sp di dp ow w4 w4.drew) := ⟨bkeep b4 m0, bkeep b4 m1, bkeep b4 m2, bkeep b4 m3, bkeep b4 m4, bkeep b4 m5, bkeep b4 m6, bkeep b4 m7, bkeep b4 m8, ⟨(Below.refl _ _).drew⟩⟩
          have SX : Hid (∀ wx wy, Below wx.heap.size wx wy → SF w.heap.size pr mc si sp di dp ow w4 wx → SF w.heap.size pr mc si sp di dp ow w4 wy) := fun wx wy hb h => h.below hb
          have HPX : Hid (∀ wx, SF w.heap.size pr mc si sp di dp ow w4 wx → Rw FlR 9 wx (some ⟨b, off, none⟩) fs) := fun wx h => (RW.out.keep FR.kp X4.out.2).keep FR.kp h.2.2.2.2.2.2.2.2.2.out
          clear o4 b4 m0 m1 m2 m3 m4 m5 m6 m7 m8 G3
          go_wp2_with fail
          go_region_held3 (fun wx => wx.cell? ⟨w.heap.size, 0, none⟩ = some (.int .i64 pr) ∧ wx.cell? ⟨w.heap.size, 1, none⟩ = some (.string mc) ∧ wx.cell? ⟨w.heap.size, 2, none⟩ = some (.int .i64 si) ∧ wx.cell? ⟨w.heap.size, 3, none⟩ = some (.int .i64 sp) ∧ wx.cell? ⟨w.heap.size, 4, none⟩ = some (.int .i64 di) ∧ wx.cell? ⟨w.heap.size, 5, none⟩ = some (.int .i64 dp) ∧ wx.cell? ⟨w.heap.size, 6, none⟩ = some (.int .i64 1) ∧ wx.cell? ⟨w.heap.size, 7, none⟩ = some (.int .i64 0) ∧ wx.cell? ⟨w.heap.size, 8, none⟩ = some (.int .i64 ow) ∧ KeptE w4 wx)
            (first | exact S1.out | exact SX.out _ _ b7 (by assumption) | exact SX.out _ _ b6 (by assumption) | exact SX.out _ _ b5 (by assumption))
            (first | (go_at_call 39; refine (H4.out _ (HPX.out _ (by assumption))).mono ?_; rintro e w5 ⟨rfl, o5, b5⟩) | (go_at_call 40; refine (H5.out _).mono ?_; rintro e w6 ⟨rfl, g6⟩; have b6 := g6.below) | (go_at_call 38; refine (H6.out _ _ (OwnM.now (by exact o5) b6)).mono ?_; rintro e w7 ⟨rfl, g7⟩; have b7 := g7.below))
          have hS7 : SF w.heap.size pr mc si sp di dp ow w4 w7 := by assumption
          have X7 : Hid (OwnS wvG 9 28 w7 w.heap.size v4 fs ∧ Below w.heap.size w w7) := ⟨X4.out.1.now hS7.2.2.2.2.2.2.2.2.2.out, X4.out.2.trans (hS7.2.2.2.2.2.2.2.2.2.out.mono X4.out.2.size)⟩
          obtain ⟨s0, s1, s2, s3, s4, s5, s6, s7, s8, -⟩ := hS7
          clear b5 b6 b7 g6 g7 o5
          go_wp2_with fail
          refine (H8 _).mono ?_
          rintro e w8 ⟨rfl, g8⟩
          have X8 : Hid (OwnS wvG 9 28 (w8.alloc (.cells #[.int .i64 pr, .string mc, .int .i64 si, .int .i64 sp, .int .i64 di, .int .i64 dp, .int .i64 1, .int .i64 (now + wtN pr 1), .int .i64 ow] 28)) w.heap.size v4 fs ∧ Below w.heap.size w (w8.alloc (.cells #[.int .i64 pr, .string mc, .int .i64 si, .int .i64 sp, .int .i64 di, .int .i64 dp, .int .i64 1, .int .i64 (now + wtN pr 1), .int .i64 ow] 28))) := ⟨(X7.out.1.now g8.below).now ((Below.refl _ _).alloc (Nat.le_refl _) _), (X7.out.2.trans (g8.below.mono X7.out.2.size)).alloc (Nat.le_trans X7.out.2.size g8.below.size) _⟩
          clear g8 X7 X4
          go_wp2_with (at_builtin; refine wpl_flows _ rfl (.tmp 43) (.tmp 47) rfl w.heap.size v4 fs [⟨pr, mc, si, sp, di, dp, 1, now + wtN pr 1, ow⟩] rfl X8.out.1 w8.heap.size 0 1 1 rfl rfl (one_cells (box_cells pr mc si sp di dp 1 (now + wtN pr 1) ow _)) (by omega) X8.out.2.size ?_; intro v' w10 Y _)
          have Y2 : Hid (OwnS wvG 9 28 w10 w.heap.size v' (fs ++ [⟨pr, mc, si, sp, di, dp, 1, now + wtN pr 1, ow⟩]) ∧ Below w.heap.size w w10) := ⟨Y.out.1, X8.out.2.trans Y.out.2⟩
          clear Y X8
          go_wp2
          go_ret2
          exact ⟨_, rfl, Y2.out.1, Y2.out.2⟩
end Go.Proofs.Ythokaemeadhkjaa
