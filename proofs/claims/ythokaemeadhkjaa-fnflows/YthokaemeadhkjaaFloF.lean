/- FlowPass of the program. -/
import Derived.Test.YthokaemeadhkjaaFloE
namespace Go.Proofs.Ythokaemeadhkjaa
open Go.RowKit Go.PlainAid Go.Proofs.Ythokaemeadhkjaa.Bt Go.Sort
set_option linter.unusedVariables false
set_option maxRecDepth 20000
/-- What FlowPass asks of its numbers. -/
def pcB (n : Nat) (k flags now : Int) : Bool := dec (0 ≤ k ∧ k ≤ (n : Int) - 1) && (dec (0 ≤ flags ∧ flags ≤ 31) && dec (0 ≤ now ∧ now ≤ 100000))
noncomputable def paC (fs : List FlowV) (k flags now : Int) : Int := if ffC fs ≠ 0 then ffC fs else if pcB fs.length k flags now = false then 4 else 0
/-- A flow that something has passed by. -/
def paF (f : FlowV) (back : Bool) (flags now : Int) : FlowV := { f with st := psS f.pr f.st flags back, un := now + wtN f.pr (psS f.pr f.st flags back) }
noncomputable def paL (fs : List FlowV) (k : Int) (back : Bool) (flags now : Int) : List FlowV := if paC fs k flags now ≠ 0 then [] else
  match fs[k.toNat]? with
  | none => []
  | some f => if f.pr = 6 ∧ (bits BinOp.and IntKind.i64 flags 4 != 0) = true then fs.eraseIdx k.toNat else fs.set k.toNat (paF f back flags now)
theorem paL_len (fs : List FlowV) (k : Int) (back : Bool) (flags now : Int) : (paL fs k back flags now).length ≤ fs.length := by
  unfold paL
  split
  · simp
  · split
    · simp
    · split
      · exact List.length_eraseIdx_le _ _
      · rw [List.length_set]; exact Nat.le_refl _
theorem pc_says {n : Nat} {k flags now : Int} (h : pcB n k flags now = true) : (0 ≤ k ∧ k ≤ (n : Int) - 1) ∧ (0 ≤ flags ∧ flags ≤ 31) ∧ (0 ≤ now ∧ now ≤ 100000) := by
  unfold pcB at h
  simp [dec] at h
  omega
theorem paF_ok {f : FlowV} {back : Bool} {flags now : Int} (h : FlRok f) (hs : 1 ≤ f.st ∧ f.st ≤ 3) (hn : 0 ≤ now ∧ now ≤ 100000) : FlRok (paF f back flags now) := by
  have h1 := psS_bd (pr := f.pr) (flags := flags) (back := back) hs
  have h2 := wtN_bd f.pr (psS f.pr f.st flags back)
  exact ⟨h.1, h.2.1, h.2.2.1, h.2.2.2.1, h.2.2.2.2.1, h.2.2.2.2.2.1, int_wfO (n := psS f.pr f.st flags back) (by omega) (by omega), int_wfO (n := now + wtN f.pr (psS f.pr f.st flags back)) (by omega) (by omega), h.2.2.2.2.2.2.2.2⟩
theorem ff_zero {fs : List FlowV} (h : ffC fs = 0) : foB fs = true ∧ fs.length ≤ 8 := by
  rcases ff_cases fs with h1 | h1 | h1
  · have := h1.2; omega
  · have := h1.2.2; omega
  · exact ⟨h1.2.1, (foB_says h1.2.1).1⟩
theorem paL_ok {fs : List FlowV} {k : Int} {back : Bool} {flags now : Int} (h : ∀ x, x ∈ fs → FlRok x) : ∀ x, x ∈ paL fs k back flags now → FlRok x := by
  intro x hx
  unfold paL at hx
  split at hx
  · simp at hx
  rename_i hc
  have hf : ffC fs = 0 := by
    by_cases hf : ffC fs = 0
    · exact hf
    · exact absurd (by unfold paC; rw [if_pos hf]; exact hf) hc
  have hp : pcB fs.length k flags now = true := by
    cases hq : pcB fs.length k flags now with
    | true => rfl
    | false => exact absurd (by unfold paC; rw [if_neg (by simp [hf]), if_pos hq]; decide) hc
  split at hx
  · simp at hx
  · rename_i f hf1
    split at hx
    · exact h x (List.mem_of_mem_eraseIdx hx)
    · rcases List.mem_or_eq_of_mem_set hx with h1 | h1
      · exact h x h1
      · subst h1
        have hfl := (foB_says (ff_zero hf).1).2.1 _ f (lt_at hf1) hf1
        exact paF_ok (h f (List.mem_of_getElem? hf1)) (flB_bd hfl).2.2.1 (pc_says hp).2.2
/-- Without those that are alike the one at i: all but that one. -/
theorem filter_erase {fs : List FlowV} (hap : apOk fs fs.length) {i : Nat} {f : FlowV} (hf : fs[i]? = some f) : fs.filter (fun o => !fqB o f) = fs.eraseIdx i := by
  have hi := lt_at hf
  have e1 : fs = fs.take i ++ f :: fs.drop (i + 1) := by
    have : fs[i] = f := (List.getElem?_eq_some_iff.1 hf).2
    rw [← this]
    simp
  have hA : (fs.take i).filter (fun o => !fqB o f) = fs.take i := by
    rw [List.filter_eq_self]
    intro o ho
    obtain ⟨j, hj⟩ := List.getElem?_of_mem ho
    have hji : j < i := by have := (List.getElem?_eq_some_iff.1 hj).1; simp at this; omega
    rw [List.getElem?_take_of_lt hji] at hj
    cases hq : fqB o f with
    | false => rfl
    | true => exact absurd (fqB_ends hq) (hap i f hi hf j o hji hj).1
  have hB : (fs.drop (i + 1)).filter (fun o => !fqB o f) = fs.drop (i + 1) := by
    rw [List.filter_eq_self]
    intro o ho
    obtain ⟨j, hj⟩ := List.getElem?_of_mem ho
    rw [List.getElem?_drop] at hj
    cases hq : fqB o f with
    | false => rfl
    | true => exact absurd (fqB_ends hq).symm (hap (i + 1 + j) o (lt_at hj) hj i f (by omega) hf).1
  rw [List.eraseIdx_eq_take_drop_succ]
  conv => lhs; rw [e1]
  rw [List.filter_append, List.filter_cons, hA, hB, fqB_refl]
  rfl

set_option maxHeartbeats 4000000 in
theorem implPass_any (b off len cap : Nat) (fs : List FlowV) (k : Int) (back : Bool) (flags now : Int) (w : World) (h : Rw FlR 9 w (some ⟨b, off, none⟩) fs) (hok : ∀ x, x ∈ fs → FlRok x) (hl : fs.length = len) (hm : len ≤ 1048576) (hc : len ≤ cap) :
    Calls Try.prog 19 #[.slice (some ⟨b, off, none⟩) len cap, .int .i64 k, .bool back, .int .i64 flags, .int .i64 now] w fun e w' => ∃ v, e = .returned (.tuple #[v, .int .i64 (paC fs k flags now)]) ∧ OwnS wvG 9 28 w' w.heap.size v (paL fs k back flags now) ∧ Below w.heap.size w w' := by
  have RW : Hid (Rw FlR 9 w (some ⟨b, off, none⟩) fs) := h
  have HF : Hid (Calls Try.prog 34 #[.slice (some ⟨b, off, none⟩) len cap] w fun e w' => e = .returned (.int .i64 (ffC fs)) ∧ Below w.heap.size w w') := flowsFault_any _ len cap fs w h hok hl hm
  by_cases hf : ffC fs = 0
  rotate_left
  · have E1 : Hid (paC fs k flags now = ffC fs) := if_pos hf
    have E2 : Hid (paL fs k back flags now = []) := by show paL _ _ _ _ _ = []; unfold paL; rw [if_pos (by rw [E1.out]; exact hf)]
    rw [E1.out, E2.out]
    clear E1 E2 h hok
    generalize ffC fs = z at HF hf ⊢
    have hz : (z == 0) = false := by simp [hf]
    have hz2 : (z != 0) = true := by simp [hf]
    clear hf
    go_enter Try.func19, Try.ntmps19
    go_wp2_with fail
    refine HF.out.mono ?_
    rintro e w2 ⟨rfl, g2⟩
    have G2 : Hid (Below w.heap.size w w2) := g2
    clear g2
    go_wp2
    go_ret2
    exact ⟨_, rfl, (OwnS.nil w2 _), G2.out⟩
  have h8 := (ff_zero hf).2
  have hq := (ff_zero hf).1
  have E1 : paC fs k flags now = if pcB fs.length k flags now = false then 4 else 0 := if_neg (by simp [hf])
  rw [hf] at HF
  rw [hl] at E1
  have T1 : Hid (∀ w, Calls Try.prog 54 #[.int .i64 k, .int .i64 0, .int .i64 ((len : Int) - 1)] w fun e w' => e = .returned (.bool (dec (0 ≤ k ∧ k ≤ (len : Int) - 1))) ∧ w' = w) := fun w => between_any k 0 ((len : Int) - 1) w
  have T2 : Hid (∀ w, Calls Try.prog 55 #[.int .i64 flags] w fun e w' => e = .returned (.bool (dec (0 ≤ flags ∧ flags ≤ 31))) ∧ w' = w) := fun w => flagsOK_any flags w
  have T3 : Hid (∀ w, Calls Try.prog 36 #[.int .i64 now] w fun e w' => e = .returned (.bool (dec (0 ≤ now ∧ now ≤ 100000))) ∧ w' = w) := fun w => timeOK_any now w
  have EP : pcB len k flags now = (dec (0 ≤ k ∧ k ≤ (len : Int) - 1) && (dec (0 ≤ flags ∧ flags ≤ 31) && dec (0 ≤ now ∧ now ≤ 100000))) := rfl
  by_cases hp : pcB len k flags now = true
  rotate_left
  · replace hp : pcB len k flags now = false := by simpa using hp
    rw [if_pos hp] at E1
    have E2 : Hid (paL fs k back flags now = []) := by show paL _ _ _ _ _ = []; unfold paL; rw [if_pos (by rw [E1]; decide)]
    rw [E1, E2.out]
    rw [hp] at EP
    clear E1 E2 hp h hok hf hq
    generalize dec (0 ≤ k ∧ k ≤ (len : Int) - 1) = t1 at T1 EP
    generalize dec (0 ≤ flags ∧ flags ≤ 31) = t2 at T2 EP
    generalize dec (0 ≤ now ∧ now ≤ 100000) = t3 at T3 EP
    cases t1 with
    | false =>
      clear EP
      go_enter Try.func19, Try.ntmps19
      go_wp2_with fail
      refine HF.out.mono ?_
      rintro e w2 ⟨rfl, g2⟩
      have G2 : Hid (Below w.heap.size w w2) := g2
      clear g2
      go_wp2_with fail
      refine (T1.out _).mono ?_
      rintro e w9 ⟨rfl, rfl⟩
      go_wp2
      go_ret2
      exact ⟨_, rfl, (OwnS.nil _ _), G2.out⟩
    | true =>
      cases t2 with
      | false =>
        clear EP
        go_enter Try.func19, Try.ntmps19
        go_wp2_with fail
        refine HF.out.mono ?_
        rintro e w2 ⟨rfl, g2⟩
        have G2 : Hid (Below w.heap.size w w2) := g2
        clear g2
        go_wp2_with fail
        refine (T1.out _).mono ?_
        rintro e w9 ⟨rfl, rfl⟩
        go_wp2_with fail
        refine (T2.out _).mono ?_
        rintro e w9 ⟨rfl, rfl⟩
        go_wp2
        go_ret2
        exact ⟨_, rfl, (OwnS.nil _ _), G2.out⟩
      | true =>
        obtain rfl : t3 = false := by simpa using EP.symm
        clear EP
        go_enter Try.func19, Try.ntmps19
        go_wp2_with fail
        refine HF.out.mono ?_
        rintro e w2 ⟨rfl, g2⟩
        have G2 : Hid (Below w.heap.size w w2) := g2
        clear g2
        go_wp2_with fail
        refine (T1.out _).mono ?_
        rintro e w9 ⟨rfl, rfl⟩
        go_wp2_with fail
        refine (T2.out _).mono ?_
        rintro e w9 ⟨rfl, rfl⟩
        go_wp2_with fail
        refine (T3.out _).mono ?_
        rintro e w9 ⟨rfl, rfl⟩
        go_wp2
        go_ret2
        exact ⟨_, rfl, (OwnS.nil _ _), G2.out⟩
  rw [if_neg (by simp [hp])] at E1
  obtain ⟨hk, hfl, hn⟩ := pc_says hp
  rw [dec_y hk] at T1
  rw [dec_y hfl] at T2
  rw [dec_y hn] at T3
  obtain ⟨kn, rfl⟩ : ∃ kn : Nat, k = (kn : Int) := ⟨k.toNat, by omega⟩
  obtain ⟨x, hx⟩ := at_of (k := kn) hl (by omega)
  have E2 : paL fs (kn : Int) back flags now = if x.pr = 6 ∧ (bits BinOp.and IntKind.i64 flags 4 != 0) = true then fs.eraseIdx kn else fs.set kn (paF x back flags now) := by
    unfold paL
    rw [if_neg (by simp [E1]), Int.toNat_natCast, hx]
  have hx6 := flB_bd ((foB_says hq).2.1 kn x (lt_at hx) hx)
  have HKx := hok x (List.mem_of_getElem? hx)
  have HX : Hid (fs[kn]? = some x) := hx
  have HXF : Hid (∀ w B, Rw FlR 9 w (some ⟨b, off, none⟩) fs → (∀ j u, (wvG x)[j]? = some u → w.cell? ⟨B, j, none⟩ = some u) → Calls Try.prog 50 #[.slice (some ⟨b, off, none⟩) len cap, .func (.func 56) #[] #[.pointer (some ⟨B, 0, none⟩)]] w fun e w' => ∃ v, e = .returned v ∧ OwnS wvG 9 28 w' w.heap.size v (fs.eraseIdx kn) ∧ Below w.heap.size w w') := fun w B h hcx => by
    have := flowsLeft_any _ len cap fs 56 (.pointer (some ⟨B, 0, none⟩)) (fun o => fqB o x) w h hok hl (by omega) (foB_says hq).2.2 (enters_of Try.func56 (by kernel_rfl) rfl) (fun pr mc si sp di dp st un ow W hW => pass1_any pr mc si sp di dp st un ow x.pr x.mc x.si x.sp x.di x.dp x.st x.un x.ow B W (bkeep hW (hcx 0 _ rfl)) (bkeep hW (hcx 1 _ rfl)) (bkeep hW (hcx 2 _ rfl)) (bkeep hW (hcx 3 _ rfl)) (bkeep hW (hcx 4 _ rfl)) (bkeep hW (hcx 5 _ rfl)) (bkeep hW (hcx 6 _ rfl)) (bkeep hW (hcx 7 _ rfl)) (bkeep hW (hcx 8 _ rfl)))
    rw [filter_erase (foB_says hq).2.2 hx] at this
    exact this
  have H3 : Hid (∀ w, Rw FlR 9 w (some ⟨b, off, none⟩) fs → Calls Try.prog 37 #[.slice (some ⟨b, off, none⟩) len cap] w fun e w' => ∃ v, e = .returned v ∧ OwnS wvG 9 28 w' w.heap.size v fs ∧ Below w.heap.size w w') := fun w h => clone9_any b off len cap fs w h hl (by omega) hc
  obtain ⟨pr, mc, si, sp, di, dp, st, un, ow⟩ := x
  dsimp only at E2 hx6
  have H4 : Hid (∀ w, Calls Try.prog 57 #[.agg #[.int .i64 pr, .string mc, .int .i64 si, .int .i64 sp, .int .i64 di, .int .i64 dp, .int .i64 st, .int .i64 un, .int .i64 ow], .bool back, .int .i64 flags] w fun e w' => e = .returned (.int .i64 (psS pr st flags back)) ∧ Grw w w') := fun w => passedState_any pr mc si sp di dp st un ow back flags w
  have hps := psS_bd (pr := pr) (flags := flags) (back := back) hx6.2.2.1
  have H5 : Hid (∀ w, Calls Try.prog 41 #[.agg #[.int .i64 pr, .string mc, .int .i64 si, .int .i64 sp, .int .i64 di, .int .i64 dp, .int .i64 (psS pr st flags back), .int .i64 un, .int .i64 ow], .int .i64 now] w fun e w' => e = .returned (.agg #[.int .i64 pr, .string mc, .int .i64 si, .int .i64 sp, .int .i64 di, .int .i64 dp, .int .i64 (psS pr st flags back), .int .i64 (now + wtN pr (psS pr st flags back)), .int .i64 ow]) ∧ Grw w w') := fun w => waiting_any pr mc si sp di dp (psS pr st flags back) un ow now w hx6.1 hps hn
  have EF : paF ⟨pr, mc, si, sp, di, dp, st, un, ow⟩ back flags now = ⟨pr, mc, si, sp, di, dp, psS pr st flags back, now + wtN pr (psS pr st flags back), ow⟩ := rfl
  rw [EF] at E2
  have hkz : (0 : Int) ≤ (kn : Int) := by omega
  have hkl : (kn : Int) < (len : Int) := by omega
  generalize paL fs (kn : Int) back flags now = y2 at E2 ⊢
  rw [E1]
  clear EF E1 h hok hf hq hp EP hx HKx
  generalize psS pr st flags back = ps at H4 H5 E2 hps
  generalize wtN pr ps = wn at H5 E2
  generalize hr : (bits BinOp.and IntKind.i64 flags 4 != 0) = tr at E2
  cases tr with
  | true =>
    by_cases h6 : pr = 6
    · rw [if_pos ⟨h6, rfl⟩] at E2
      have h6b : (pr == 6) = true := by simp [h6]
      rw [E2]
      clear h6 E2 H3 H4 H5
      go_enter Try.func19, Try.ntmps19
      go_wp2_with fail
      refine HF.out.mono ?_
      rintro e w2 ⟨rfl, g2⟩
      have G2 : Hid (Below w.heap.size w w2) := g2
      clear g2
      obtain ⟨b', off', vs, e', hb, hvl, hR, hcx⟩ := RW.out.at FR.kp G2.out HX.out
      cases e'
      obtain ⟨rfl, -⟩ := hR
      have q0 : w2.cell? ⟨b, off + kn * 9, none⟩ = some (.int .i64 pr) := hcx 0 _ rfl
      have q1 : w2.cell? ⟨b, off + kn * 9 + 1, none⟩ = some (.string mc) := hcx 1 _ rfl
      have q2 : w2.cell? ⟨b, off + kn * 9 + 2, none⟩ = some (.int .i64 si) := hcx 2 _ rfl
      have q3 : w2.cell? ⟨b, off + kn * 9 + 3, none⟩ = some (.int .i64 sp) := hcx 3 _ rfl
      have q4 : w2.cell? ⟨b, off + kn * 9 + 4, none⟩ = some (.int .i64 di) := hcx 4 _ rfl
      have q5 : w2.cell? ⟨b, off + kn * 9 + 5, none⟩ = some (.int .i64 dp) := hcx 5 _ rfl
      have q6 : w2.cell? ⟨b, off + kn * 9 + 6, none⟩ = some (.int .i64 st) := hcx 6 _ rfl
      have q7 : w2.cell? ⟨b, off + kn * 9 + 7, none⟩ = some (.int .i64 un) := hcx 7 _ rfl
      have q8 : w2.cell? ⟨b, off + kn * 9 + 8, none⟩ = some (.int .i64 ow) := hcx 8 _ rfl
      clear hcx hvl
      go_wp2_with fail
      refine (T1.out _).mono ?_
      rintro e w9 ⟨rfl, rfl⟩
      go_wp2_with fail
      refine (T2.out _).mono ?_
      rintro e w9 ⟨rfl, rfl⟩
      go_wp2_with fail
      refine (T3.out _).mono ?_
      rintro e w9 ⟨rfl, rfl⟩
      go_wp2_with fail
      refine (HXF.out _ _ (RW.out.keep FR.kp (G2.out.alloc G2.out.size _)) (box_cells pr mc si sp di dp st un ow _)).mono ?_
      rintro e w3 ⟨v3, rfl, o3, g3⟩
      have G3 : Hid (OwnS wvG 9 28 w3 w.heap.size v3 (fs.eraseIdx kn) ∧ Below w.heap.size w w3) := ⟨o3.lower (by have := G2.out.size; simp; omega), (G2.out.alloc G2.out.size _).trans (g3.mono (by have := G2.out.size; simp; omega))⟩
      clear o3 g3
      go_wp2
      go_ret2
      exact ⟨_, rfl, G3.out.1, G3.out.2⟩
    · rw [if_neg (fun h => h6 h.1)] at E2
      have h6b : (pr == 6) = false := by simp [h6]
      rw [E2]
      clear h6 E2 HXF
      go_enter Try.func19, Try.ntmps19
      go_wp2_with fail
      refine HF.out.mono ?_
      rintro e w2 ⟨rfl, g2⟩
      have G2 : Hid (Below w.heap.size w w2) := g2
      clear g2
      obtain ⟨b', off', vs, e', hb, hvl, hR, hcx⟩ := RW.out.at FR.kp G2.out HX.out
      cases e'
      obtain ⟨rfl, -⟩ := hR
      have q0 : w2.cell? ⟨b, off + kn * 9, none⟩ = some (.int .i64 pr) := hcx 0 _ rfl
      have q1 : w2.cell? ⟨b, off + kn * 9 + 1, none⟩ = some (.string mc) := hcx 1 _ rfl
      have q2 : w2.cell? ⟨b, off + kn * 9 + 2, none⟩ = some (.int .i64 si) := hcx 2 _ rfl
      have q3 : w2.cell? ⟨b, off + kn * 9 + 3, none⟩ = some (.int .i64 sp) := hcx 3 _ rfl
      have q4 : w2.cell? ⟨b, off + kn * 9 + 4, none⟩ = some (.int .i64 di) := hcx 4 _ rfl
      have q5 : w2.cell? ⟨b, off + kn * 9 + 5, none⟩ = some (.int .i64 dp) := hcx 5 _ rfl
      have q6 : w2.cell? ⟨b, off + kn * 9 + 6, none⟩ = some (.int .i64 st) := hcx 6 _ rfl
      have q7 : w2.cell? ⟨b, off + kn * 9 + 7, none⟩ = some (.int .i64 un) := hcx 7 _ rfl
      have q8 : w2.cell? ⟨b, off + kn * 9 + 8, none⟩ = some (.int .i64 ow) := hcx 8 _ rfl
      clear hcx hvl
      go_wp2_with fail
      refine (T1.out _).mono ?_
      rintro e w9 ⟨rfl, rfl⟩
      go_wp2_with fail
      refine (T2.out _).mono ?_
      rintro e w9 ⟨rfl, rfl⟩
      go_wp2_with fail
      refine (T3.out _).mono ?_
      rintro e w9 ⟨rfl, rfl⟩
      go_wp2_with fail
      refine (H4.out _).mono ?_
      rintro e w4 ⟨rfl, g4⟩
      have m0 : w4.cell? ⟨w9.heap.size, 0, none⟩ = some (.int .i64 pr) := g4.keep (by simp [go_sem])
      have m1 : w4.cell? ⟨w9.heap.size, 1, none⟩ = some (.string mc) := g4.keep (by simp [go_sem])
      have m2 : w4.cell? ⟨w9.heap.size, 2, none⟩ = some (.int .i64 si) := g4.keep (by simp [go_sem])
      have m3 : w4.cell? ⟨w9.heap.size, 3, none⟩ = some (.int .i64 sp) := g4.keep (by simp [go_sem])
      have m4 : w4.cell? ⟨w9.heap.size, 4, none⟩ = some (.int .i64 di) := g4.keep (by simp [go_sem])
      have m5 : w4.cell? ⟨w9.heap.size, 5, none⟩ = some (.int .i64 dp) := g4.keep (by simp [go_sem])
      have m6 : w4.cell? ⟨w9.heap.size, 6, none⟩ = some (.int .i64 st) := g4.keep (by simp [go_sem])
      have m7 : w4.cell? ⟨w9.heap.size, 7, none⟩ = some (.int .i64 un) := g4.keep (by simp [go_sem])
      have m8 : w4.cell? ⟨w9.heap.size, 8, none⟩ = some (.int .i64 ow) := g4.keep (by simp [go_sem])
      have f6 : w4.frozen? ⟨w9.heap.size, 6, none⟩ = false := bthaw g4.below (v := .int .i64 st) (by simp [go_sem]) (by simp [go_sem])
      have G4 : Hid (Below w.heap.size w w4) := (G2.out.alloc G2.out.size _).trans (g4.below.mono (by have := G2.out.size; simp; omega))
      have G4s : Hid (Below w.heap.size w (w4.setCell ⟨w9.heap.size, 6, none⟩ (.int .i64 ps))) := G4.out.setCell (p := ⟨w9.heap.size, 6, none⟩) G2.out.size _
      clear g4 q0 q1 q2 q3 q4 q5 q6 q7 q8
      go_wp2_with fail
      refine (H3.out _ (RW.out.keep FR.kp G4s.out)).mono ?_
      rintro e w5 ⟨v5, rfl, o5, b5⟩
      obtain ⟨a5, kc, hv5, hc5, hc6, -⟩ := o5.slice
      subst hv5
      obtain ⟨g5, ha5, hg5, hg6, -⟩ := o5.form (Nat.lt_of_le_of_lt (Nat.zero_le _) (lt_at HX.out))
      subst ha5
      have n0 : w5.cell? ⟨w9.heap.size, 0, none⟩ = some (.int .i64 pr) := bkeep b5 (by first | (simp [go_sem]; done) | simp [go_sem, m0])
      have n1 : w5.cell? ⟨w9.heap.size, 1, none⟩ = some (.string mc) := bkeep b5 (by first | (simp [go_sem]; done) | simp [go_sem, m1])
      have n2 : w5.cell? ⟨w9.heap.size, 2, none⟩ = some (.int .i64 si) := bkeep b5 (by first | (simp [go_sem]; done) | simp [go_sem, m2])
      have n3 : w5.cell? ⟨w9.heap.size, 3, none⟩ = some (.int .i64 sp) := bkeep b5 (by first | (simp [go_sem]; done) | simp [go_sem, m3])
      have n4 : w5.cell? ⟨w9.heap.size, 4, none⟩ = some (.int .i64 di) := bkeep b5 (by first | (simp [go_sem]; done) | simp [go_sem, m4])
      have n5 : w5.cell? ⟨w9.heap.size, 5, none⟩ = some (.int .i64 dp) := bkeep b5 (by first | (simp [go_sem]; done) | simp [go_sem, m5])
      have n6 : w5.cell? ⟨w9.heap.size, 6, none⟩ = some (.int .i64 ps) := bkeep b5 (by first | (simp [go_sem]; done) | simp [go_sem, m6])
      have n7 : w5.cell? ⟨w9.heap.size, 7, none⟩ = some (.int .i64 un) := bkeep b5 (by first | (simp [go_sem]; done) | simp [go_sem, m7])
      have n8 : w5.cell? ⟨w9.heap.size, 8, none⟩ = some (.int .i64 ow) := bkeep b5 (by first | (simp [go_sem]; done) | simp [go_sem, m8])
      have G5 : Hid (Below w.heap.size w w5) := G4s.out.trans (b5.mono G4s.out.size)
      have hs4 : w4.heap.size ≤ g5 := by simpa using hg5
      have X5 : Hid (OwnS wvG 9 28 w5 w.heap.size (.slice (some ⟨g5, 0, none⟩) fs.length kc) fs) := o5.lower (by have := G4.out.size; simp; omega)
      clear o5 b5 G4s f6 m0 m1 m2 m3 m4 m5 m6 m7 m8
      rw [hl] at X5
      go_wp2_with fail
      refine (H5.out _).mono ?_
      rintro e w6 ⟨rfl, g6⟩
      have o6 := X5.out.now g6.below
      obtain ⟨c0, z0⟩ := o6.cell wvG_len (j := 0) HX.out rfl
      obtain ⟨c1, z1⟩ := o6.cell wvG_len (j := 1) HX.out rfl
      obtain ⟨c2, z2⟩ := o6.cell wvG_len (j := 2) HX.out rfl
      obtain ⟨c3, z3⟩ := o6.cell wvG_len (j := 3) HX.out rfl
      obtain ⟨c4, z4⟩ := o6.cell wvG_len (j := 4) HX.out rfl
      obtain ⟨c5, z5⟩ := o6.cell wvG_len (j := 5) HX.out rfl
      obtain ⟨c6, z6⟩ := o6.cell wvG_len (j := 6) HX.out rfl
      obtain ⟨c7, z7⟩ := o6.cell wvG_len (j := 7) HX.out rfl
      obtain ⟨c8, z8⟩ := o6.cell wvG_len (j := 8) HX.out rfl
      replace c0 : w6.cell? ⟨g5, kn * 9, none⟩ = some (.int .i64 pr) := c0
      replace z0 : w6.frozen? ⟨g5, kn * 9, none⟩ = false := z0
      have Y0 : ∀ W1, W1 = ((((((((w6.setCell ⟨g5, kn * 9, none⟩ (.int .i64 pr)).setCell ⟨g5, kn * 9 + 1, none⟩ (.string mc)).setCell ⟨g5, kn * 9 + 2, none⟩ (.int .i64 si)).setCell ⟨g5, kn * 9 + 3, none⟩ (.int .i64 sp)).setCell ⟨g5, kn * 9 + 4, none⟩ (.int .i64 di)).setCell ⟨g5, kn * 9 + 5, none⟩ (.int .i64 dp)).setCell ⟨g5, kn * 9 + 6, none⟩ (.int .i64 ps)).setCell ⟨g5, kn * 9 + 7, none⟩ (.int .i64 (now + wn))).setCell ⟨g5, kn * 9 + 8, none⟩ (.int .i64 ow) → OwnS wvG 9 28 W1 w.heap.size (.slice (some ⟨g5, 0, none⟩) len kc) (fs.set kn ⟨pr, mc, si, sp, di, dp, ps, now + wn, ow⟩) ∧ Below w.heap.size w W1 := by
        intro W1 hW1
        have h2 := o6.store wvG_len (i := kn) (by omega) ⟨pr, mc, si, sp, di, dp, ps, now + wn, ow⟩
        have e3 : W1 = wsets w6 g5 (kn * 9) (wvG ⟨pr, mc, si, sp, di, dp, ps, now + wn, ow⟩) := hW1
        rw [← e3] at h2
        exact ⟨h2.1, (G5.out.trans (g6.below.mono G5.out.size)).trans (below_row h2.2 (by have := G4.out.size; omega) (Nat.le_trans G5.out.size g6.below.size))⟩
      have Y : Hid (OwnS wvG 9 28 (((((((((w6.setCell ⟨g5, kn * 9, none⟩ (.int .i64 pr)).setCell ⟨g5, kn * 9 + 1, none⟩ (.string mc)).setCell ⟨g5, kn * 9 + 2, none⟩ (.int .i64 si)).setCell ⟨g5, kn * 9 + 3, none⟩ (.int .i64 sp)).setCell ⟨g5, kn * 9 + 4, none⟩ (.int .i64 di)).setCell ⟨g5, kn * 9 + 5, none⟩ (.int .i64 dp)).setCell ⟨g5, kn * 9 + 6, none⟩ (.int .i64 ps)).setCell ⟨g5, kn * 9 + 7, none⟩ (.int .i64 (now + wn))).setCell ⟨g5, kn * 9 + 8, none⟩ (.int .i64 ow)) w.heap.size (.slice (some ⟨g5, 0, none⟩) len kc) (fs.set kn ⟨pr, mc, si, sp, di, dp, ps, now + wn, ow⟩) ∧ Below w.heap.size w (((((((((w6.setCell ⟨g5, kn * 9, none⟩ (.int .i64 pr)).setCell ⟨g5, kn * 9 + 1, none⟩ (.string mc)).setCell ⟨g5, kn * 9 + 2, none⟩ (.int .i64 si)).setCell ⟨g5, kn * 9 + 3, none⟩ (.int .i64 sp)).setCell ⟨g5, kn * 9 + 4, none⟩ (.int .i64 di)).setCell ⟨g5, kn * 9 + 5, none⟩ (.int .i64 dp)).setCell ⟨g5, kn * 9 + 6, none⟩ (.int .i64 ps)).setCell ⟨g5, kn * 9 + 7, none⟩ (.int .i64 (now + wn))).setCell ⟨g5, kn * 9 + 8, none⟩ (.int .i64 ow))) := Y0 _ rfl
      clear Y0 o6 g6 X5 G5 HX RW
      go_wp2
      go_ret2
      exact ⟨_, rfl, Y.out.1, Y.out.2⟩
  | false =>
    rw [if_neg (by simp)] at E2
    rw [E2]
    clear E2 HXF
    cases h6b : (pr == 6) with
    | true =>
      go_enter Try.func19, Try.ntmps19
      go_wp2_with fail
      refine HF.out.mono ?_
      rintro e w2 ⟨rfl, g2⟩
      have G2 : Hid (Below w.heap.size w w2) := g2
      clear g2
      obtain ⟨b', off', vs, e', hb, hvl, hR, hcx⟩ := RW.out.at FR.kp G2.out HX.out
      cases e'
      obtain ⟨rfl, -⟩ := hR
      have q0 : w2.cell? ⟨b, off + kn * 9, none⟩ = some (.int .i64 pr) := hcx 0 _ rfl
      have q1 : w2.cell? ⟨b, off + kn * 9 + 1, none⟩ = some (.string mc) := hcx 1 _ rfl
      have q2 : w2.cell? ⟨b, off + kn * 9 + 2, none⟩ = some (.int .i64 si) := hcx 2 _ rfl
      have q3 : w2.cell? ⟨b, off + kn * 9 + 3, none⟩ = some (.int .i64 sp) := hcx 3 _ rfl
      have q4 : w2.cell? ⟨b, off + kn * 9 + 4, none⟩ = some (.int .i64 di) := hcx 4 _ rfl
      have q5 : w2.cell? ⟨b, off + kn * 9 + 5, none⟩ = some (.int .i64 dp) := hcx 5 _ rfl
      have q6 : w2.cell? ⟨b, off + kn * 9 + 6, none⟩ = some (.int .i64 st) := hcx 6 _ rfl
      have q7 : w2.cell? ⟨b, off + kn * 9 + 7, none⟩ = some (.int .i64 un) := hcx 7 _ rfl
      have q8 : w2.cell? ⟨b, off + kn * 9 + 8, none⟩ = some (.int .i64 ow) := hcx 8 _ rfl
      clear hcx hvl
      go_wp2_with fail
      refine (T1.out _).mono ?_
      rintro e w9 ⟨rfl, rfl⟩
      go_wp2_with fail
      refine (T2.out _).mono ?_
      rintro e w9 ⟨rfl, rfl⟩
      go_wp2_with fail
      refine (T3.out _).mono ?_
      rintro e w9 ⟨rfl, rfl⟩
      go_wp2_with fail
      refine (H4.out _).mono ?_
      rintro e w4 ⟨rfl, g4⟩
      have m0 : w4.cell? ⟨w9.heap.size, 0, none⟩ = some (.int .i64 pr) := g4.keep (by simp [go_sem])
      have m1 : w4.cell? ⟨w9.heap.size, 1, none⟩ = some (.string mc) := g4.keep (by simp [go_sem])
      have m2 : w4.cell? ⟨w9.heap.size, 2, none⟩ = some (.int .i64 si) := g4.keep (by simp [go_sem])
      have m3 : w4.cell? ⟨w9.heap.size, 3, none⟩ = some (.int .i64 sp) := g4.keep (by simp [go_sem])
      have m4 : w4.cell? ⟨w9.heap.size, 4, none⟩ = some (.int .i64 di) := g4.keep (by simp [go_sem])
      have m5 : w4.cell? ⟨w9.heap.size, 5, none⟩ = some (.int .i64 dp) := g4.keep (by simp [go_sem])
      have m6 : w4.cell? ⟨w9.heap.size, 6, none⟩ = some (.int .i64 st) := g4.keep (by simp [go_sem])
      have m7 : w4.cell? ⟨w9.heap.size, 7, none⟩ = some (.int .i64 un) := g4.keep (by simp [go_sem])
      have m8 : w4.cell? ⟨w9.heap.size, 8, none⟩ = some (.int .i64 ow) := g4.keep (by simp [go_sem])
      have f6 : w4.frozen? ⟨w9.heap.size, 6, none⟩ = false := bthaw g4.below (v := .int .i64 st) (by simp [go_sem]) (by simp [go_sem])
      have G4 : Hid (Below w.heap.size w w4) := (G2.out.alloc G2.out.size _).trans (g4.below.mono (by have := G2.out.size; simp; omega))
      have G4s : Hid (Below w.heap.size w (w4.setCell ⟨w9.heap.size, 6, none⟩ (.int .i64 ps))) := G4.out.setCell (p := ⟨w9.heap.size, 6, none⟩) G2.out.size _
      clear g4 q0 q1 q2 q3 q4 q5 q6 q7 q8
      go_wp2_with fail
      refine (H3.out _ (RW.out.keep FR.kp G4s.out)).mono ?_
      rintro e w5 ⟨v5, rfl, o5, b5⟩
      obtain ⟨a5, kc, hv5, hc5, hc6, -⟩ := o5.slice
      subst hv5
      obtain ⟨g5, ha5, hg5, hg6, -⟩ := o5.form (Nat.lt_of_le_of_lt (Nat.zero_le _) (lt_at HX.out))
      subst ha5
      have n0 : w5.cell? ⟨w9.heap.size, 0, none⟩ = some (.int .i64 pr) := bkeep b5 (by first | (simp [go_sem]; done) | simp [go_sem, m0])
      have n1 : w5.cell? ⟨w9.heap.size, 1, none⟩ = some (.string mc) := bkeep b5 (by first | (simp [go_sem]; done) | simp [go_sem, m1])
      have n2 : w5.cell? ⟨w9.heap.size, 2, none⟩ = some (.int .i64 si) := bkeep b5 (by first | (simp [go_sem]; done) | simp [go_sem, m2])
      have n3 : w5.cell? ⟨w9.heap.size, 3, none⟩ = some (.int .i64 sp) := bkeep b5 (by first | (simp [go_sem]; done) | simp [go_sem, m3])
      have n4 : w5.cell? ⟨w9.heap.size, 4, none⟩ = some (.int .i64 di) := bkeep b5 (by first | (simp [go_sem]; done) | simp [go_sem, m4])
      have n5 : w5.cell? ⟨w9.heap.size, 5, none⟩ = some (.int .i64 dp) := bkeep b5 (by first | (simp [go_sem]; done) | simp [go_sem, m5])
      have n6 : w5.cell? ⟨w9.heap.size, 6, none⟩ = some (.int .i64 ps) := bkeep b5 (by first | (simp [go_sem]; done) | simp [go_sem, m6])
      have n7 : w5.cell? ⟨w9.heap.size, 7, none⟩ = some (.int .i64 un) := bkeep b5 (by first | (simp [go_sem]; done) | simp [go_sem, m7])
      have n8 : w5.cell? ⟨w9.heap.size, 8, none⟩ = some (.int .i64 ow) := bkeep b5 (by first | (simp [go_sem]; done) | simp [go_sem, m8])
      have G5 : Hid (Below w.heap.size w w5) := G4s.out.trans (b5.mono G4s.out.size)
      have hs4 : w4.heap.size ≤ g5 := by simpa using hg5
      have X5 : Hid (OwnS wvG 9 28 w5 w.heap.size (.slice (some ⟨g5, 0, none⟩) fs.length kc) fs) := o5.lower (by have := G4.out.size; simp; omega)
      clear o5 b5 G4s f6 m0 m1 m2 m3 m4 m5 m6 m7 m8
      rw [hl] at X5
      go_wp2_with fail
      refine (H5.out _).mono ?_
      rintro e w6 ⟨rfl, g6⟩
      have o6 := X5.out.now g6.below
      obtain ⟨c0, z0⟩ := o6.cell wvG_len (j := 0) HX.out rfl
      obtain ⟨c1, z1⟩ := o6.cell wvG_len (j := 1) HX.out rfl
      obtain ⟨c2, z2⟩ := o6.cell wvG_len (j := 2) HX.out rfl
      obtain ⟨c3, z3⟩ := o6.cell wvG_len (j := 3) HX.out rfl
      obtain ⟨c4, z4⟩ := o6.cell wvG_len (j := 4) HX.out rfl
      obtain ⟨c5, z5⟩ := o6.cell wvG_len (j := 5) HX.out rfl
      obtain ⟨c6, z6⟩ := o6.cell wvG_len (j := 6) HX.out rfl
      obtain ⟨c7, z7⟩ := o6.cell wvG_len (j := 7) HX.out rfl
      obtain ⟨c8, z8⟩ := o6.cell wvG_len (j := 8) HX.out rfl
      replace c0 : w6.cell? ⟨g5, kn * 9, none⟩ = some (.int .i64 pr) := c0
      replace z0 : w6.frozen? ⟨g5, kn * 9, none⟩ = false := z0
      have Y0 : ∀ W1, W1 = ((((((((w6.setCell ⟨g5, kn * 9, none⟩ (.int .i64 pr)).setCell ⟨g5, kn * 9 + 1, none⟩ (.string mc)).setCell ⟨g5, kn * 9 + 2, none⟩ (.int .i64 si)).setCell ⟨g5, kn * 9 + 3, none⟩ (.int .i64 sp)).setCell ⟨g5, kn * 9 + 4, none⟩ (.int .i64 di)).setCell ⟨g5, kn * 9 + 5, none⟩ (.int .i64 dp)).setCell ⟨g5, kn * 9 + 6, none⟩ (.int .i64 ps)).setCell ⟨g5, kn * 9 + 7, none⟩ (.int .i64 (now + wn))).setCell ⟨g5, kn * 9 + 8, none⟩ (.int .i64 ow) → OwnS wvG 9 28 W1 w.heap.size (.slice (some ⟨g5, 0, none⟩) len kc) (fs.set kn ⟨pr, mc, si, sp, di, dp, ps, now + wn, ow⟩) ∧ Below w.heap.size w W1 := by
        intro W1 hW1
        have h2 := o6.store wvG_len (i := kn) (by omega) ⟨pr, mc, si, sp, di, dp, ps, now + wn, ow⟩
        have e3 : W1 = wsets w6 g5 (kn * 9) (wvG ⟨pr, mc, si, sp, di, dp, ps, now + wn, ow⟩) := hW1
        rw [← e3] at h2
        exact ⟨h2.1, (G5.out.trans (g6.below.mono G5.out.size)).trans (below_row h2.2 (by have := G4.out.size; omega) (Nat.le_trans G5.out.size g6.below.size))⟩
      have Y : Hid (OwnS wvG 9 28 (((((((((w6.setCell ⟨g5, kn * 9, none⟩ (.int .i64 pr)).setCell ⟨g5, kn * 9 + 1, none⟩ (.string mc)).setCell ⟨g5, kn * 9 + 2, none⟩ (.int .i64 si)).setCell ⟨g5, kn * 9 + 3, none⟩ (.int .i64 sp)).setCell ⟨g5, kn * 9 + 4, none⟩ (.int .i64 di)).setCell ⟨g5, kn * 9 + 5, none⟩ (.int .i64 dp)).setCell ⟨g5, kn * 9 + 6, none⟩ (.int .i64 ps)).setCell ⟨g5, kn * 9 + 7, none⟩ (.int .i64 (now + wn))).setCell ⟨g5, kn * 9 + 8, none⟩ (.int .i64 ow)) w.heap.size (.slice (some ⟨g5, 0, none⟩) len kc) (fs.set kn ⟨pr, mc, si, sp, di, dp, ps, now + wn, ow⟩) ∧ Below w.heap.size w (((((((((w6.setCell ⟨g5, kn * 9, none⟩ (.int .i64 pr)).setCell ⟨g5, kn * 9 + 1, none⟩ (.string mc)).setCell ⟨g5, kn * 9 + 2, none⟩ (.int .i64 si)).setCell ⟨g5, kn * 9 + 3, none⟩ (.int .i64 sp)).setCell ⟨g5, kn * 9 + 4, none⟩ (.int .i64 di)).setCell ⟨g5, kn * 9 + 5, none⟩ (.int .i64 dp)).setCell ⟨g5, kn * 9 + 6, none⟩ (.int .i64 ps)).setCell ⟨g5, kn * 9 + 7, none⟩ (.int .i64 (now + wn))).setCell ⟨g5, kn * 9 + 8, none⟩ (.int .i64 ow))) := Y0 _ rfl
      clear Y0 o6 g6 X5 G5 HX RW
      go_wp2
      go_ret2
      exact ⟨_, rfl, Y.out.1, Y.out.2⟩
    | false =>
      go_enter Try.func19, Try.ntmps19
      go_wp2_with fail
      refine HF.out.mono ?_
      rintro e w2 ⟨rfl, g2⟩
      have G2 : Hid (Below w.heap.size w w2) := g2
      clear g2
      obtain ⟨b', off', vs, e', hb, hvl, hR, hcx⟩ := RW.out.at FR.kp G2.out HX.out
      cases e'
      obtain ⟨rfl, -⟩ := hR
      have q0 : w2.cell? ⟨b, off + kn * 9, none⟩ = some (.int .i64 pr) := hcx 0 _ rfl
      have q1 : w2.cell? ⟨b, off + kn * 9 + 1, none⟩ = some (.string mc) := hcx 1 _ rfl
      have q2 : w2.cell? ⟨b, off + kn * 9 + 2, none⟩ = some (.int .i64 si) := hcx 2 _ rfl
      have q3 : w2.cell? ⟨b, off + kn * 9 + 3, none⟩ = some (.int .i64 sp) := hcx 3 _ rfl
      have q4 : w2.cell? ⟨b, off + kn * 9 + 4, none⟩ = some (.int .i64 di) := hcx 4 _ rfl
      have q5 : w2.cell? ⟨b, off + kn * 9 + 5, none⟩ = some (.int .i64 dp) := hcx 5 _ rfl
      have q6 : w2.cell? ⟨b, off + kn * 9 + 6, none⟩ = some (.int .i64 st) := hcx 6 _ rfl
      have q7 : w2.cell? ⟨b, off + kn * 9 + 7, none⟩ = some (.int .i64 un) := hcx 7 _ rfl
      have q8 : w2.cell? ⟨b, off + kn * 9 + 8, none⟩ = some (.int .i64 ow) := hcx 8 _ rfl
      clear hcx hvl
      go_wp2_with fail
      refine (T1.out _).mono ?_
      rintro e w9 ⟨rfl, rfl⟩
      go_wp2_with fail
      refine (T2.out _).mono ?_
      rintro e w9 ⟨rfl, rfl⟩
      go_wp2_with fail
      refine (T3.out _).mono ?_
      rintro e w9 ⟨rfl, rfl⟩
      go_wp2_with fail
      refine (H4.out _).mono ?_
      rintro e w4 ⟨rfl, g4⟩
      have m0 : w4.cell? ⟨w9.heap.size, 0, none⟩ = some (.int .i64 pr) := g4.keep (by simp [go_sem])
      have m1 : w4.cell? ⟨w9.heap.size, 1, none⟩ = some (.string mc) := g4.keep (by simp [go_sem])
      have m2 : w4.cell? ⟨w9.heap.size, 2, none⟩ = some (.int .i64 si) := g4.keep (by simp [go_sem])
      have m3 : w4.cell? ⟨w9.heap.size, 3, none⟩ = some (.int .i64 sp) := g4.keep (by simp [go_sem])
      have m4 : w4.cell? ⟨w9.heap.size, 4, none⟩ = some (.int .i64 di) := g4.keep (by simp [go_sem])
      have m5 : w4.cell? ⟨w9.heap.size, 5, none⟩ = some (.int .i64 dp) := g4.keep (by simp [go_sem])
      have m6 : w4.cell? ⟨w9.heap.size, 6, none⟩ = some (.int .i64 st) := g4.keep (by simp [go_sem])
      have m7 : w4.cell? ⟨w9.heap.size, 7, none⟩ = some (.int .i64 un) := g4.keep (by simp [go_sem])
      have m8 : w4.cell? ⟨w9.heap.size, 8, none⟩ = some (.int .i64 ow) := g4.keep (by simp [go_sem])
      have f6 : w4.frozen? ⟨w9.heap.size, 6, none⟩ = false := bthaw g4.below (v := .int .i64 st) (by simp [go_sem]) (by simp [go_sem])
      have G4 : Hid (Below w.heap.size w w4) := (G2.out.alloc G2.out.size _).trans (g4.below.mono (by have := G2.out.size; simp; omega))
      have G4s : Hid (Below w.heap.size w (w4.setCell ⟨w9.heap.size, 6, none⟩ (.int .i64 ps))) := G4.out.setCell (p := ⟨w9.heap.size, 6, none⟩) G2.out.size _
      clear g4 q0 q1 q2 q3 q4 q5 q6 q7 q8
      go_wp2_with fail
      refine (H3.out _ (RW.out.keep FR.kp G4s.out)).mono ?_
      rintro e w5 ⟨v5, rfl, o5, b5⟩
      obtain ⟨a5, kc, hv5, hc5, hc6, -⟩ := o5.slice
      subst hv5
      obtain ⟨g5, ha5, hg5, hg6, -⟩ := o5.form (Nat.lt_of_le_of_lt (Nat.zero_le _) (lt_at HX.out))
      subst ha5
      have n0 : w5.cell? ⟨w9.heap.size, 0, none⟩ = some (.int .i64 pr) := bkeep b5 (by first | (simp [go_sem]; done) | simp [go_sem, m0])
      have n1 : w5.cell? ⟨w9.heap.size, 1, none⟩ = some (.string mc) := bkeep b5 (by first | (simp [go_sem]; done) | simp [go_sem, m1])
      have n2 : w5.cell? ⟨w9.heap.size, 2, none⟩ = some (.int .i64 si) := bkeep b5 (by first | (simp [go_sem]; done) | simp [go_sem, m2])
      have n3 : w5.cell? ⟨w9.heap.size, 3, none⟩ = some (.int .i64 sp) := bkeep b5 (by first | (simp [go_sem]; done) | simp [go_sem, m3])
      have n4 : w5.cell? ⟨w9.heap.size, 4, none⟩ = some (.int .i64 di) := bkeep b5 (by first | (simp [go_sem]; done) | simp [go_sem, m4])
      have n5 : w5.cell? ⟨w9.heap.size, 5, none⟩ = some (.int .i64 dp) := bkeep b5 (by first | (simp [go_sem]; done) | simp [go_sem, m5])
      have n6 : w5.cell? ⟨w9.heap.size, 6, none⟩ = some (.int .i64 ps) := bkeep b5 (by first | (simp [go_sem]; done) | simp [go_sem, m6])
      have n7 : w5.cell? ⟨w9.heap.size, 7, none⟩ = some (.int .i64 un) := bkeep b5 (by first | (simp [go_sem]; done) | simp [go_sem, m7])
      have n8 : w5.cell? ⟨w9.heap.size, 8, none⟩ = some (.int .i64 ow) := bkeep b5 (by first | (simp [go_sem]; done) | simp [go_sem, m8])
      have G5 : Hid (Below w.heap.size w w5) := G4s.out.trans (b5.mono G4s.out.size)
      have hs4 : w4.heap.size ≤ g5 := by simpa using hg5
      have X5 : Hid (OwnS wvG 9 28 w5 w.heap.size (.slice (some ⟨g5, 0, none⟩) fs.length kc) fs) := o5.lower (by have := G4.out.size; simp; omega)
      clear o5 b5 G4s f6 m0 m1 m2 m3 m4 m5 m6 m7 m8
      rw [hl] at X5
      go_wp2_with fail
      refine (H5.out _).mono ?_
      rintro e w6 ⟨rfl, g6⟩
      have o6 := X5.out.now g6.below
      obtain ⟨c0, z0⟩ := o6.cell wvG_len (j := 0) HX.out rfl
      obtain ⟨c1, z1⟩ := o6.cell wvG_len (j := 1) HX.out rfl
      obtain ⟨c2, z2⟩ := o6.cell wvG_len (j := 2) HX.out rfl
      obtain ⟨c3, z3⟩ := o6.cell wvG_len (j := 3) HX.out rfl
      obtain ⟨c4, z4⟩ := o6.cell wvG_len (j := 4) HX.out rfl
      obtain ⟨c5, z5⟩ := o6.cell wvG_len (j := 5) HX.out rfl
      obtain ⟨c6, z6⟩ := o6.cell wvG_len (j := 6) HX.out rfl
      obtain ⟨c7, z7⟩ := o6.cell wvG_len (j := 7) HX.out rfl
      obtain ⟨c8, z8⟩ := o6.cell wvG_len (j := 8) HX.out rfl
      replace c0 : w6.cell? ⟨g5, kn * 9, none⟩ = some (.int .i64 pr) := c0
      replace z0 : w6.frozen? ⟨g5, kn * 9, none⟩ = false := z0
      have Y0 : ∀ W1, W1 = ((((((((w6.setCell ⟨g5, kn * 9, none⟩ (.int .i64 pr)).setCell ⟨g5, kn * 9 + 1, none⟩ (.string mc)).setCell ⟨g5, kn * 9 + 2, none⟩ (.int .i64 si)).setCell ⟨g5, kn * 9 + 3, none⟩ (.int .i64 sp)).setCell ⟨g5, kn * 9 + 4, none⟩ (.int .i64 di)).setCell ⟨g5, kn * 9 + 5, none⟩ (.int .i64 dp)).setCell ⟨g5, kn * 9 + 6, none⟩ (.int .i64 ps)).setCell ⟨g5, kn * 9 + 7, none⟩ (.int .i64 (now + wn))).setCell ⟨g5, kn * 9 + 8, none⟩ (.int .i64 ow) → OwnS wvG 9 28 W1 w.heap.size (.slice (some ⟨g5, 0, none⟩) len kc) (fs.set kn ⟨pr, mc, si, sp, di, dp, ps, now + wn, ow⟩) ∧ Below w.heap.size w W1 := by
        intro W1 hW1
        have h2 := o6.store wvG_len (i := kn) (by omega) ⟨pr, mc, si, sp, di, dp, ps, now + wn, ow⟩
        have e3 : W1 = wsets w6 g5 (kn * 9) (wvG ⟨pr, mc, si, sp, di, dp, ps, now + wn, ow⟩) := hW1
        rw [← e3] at h2
        exact ⟨h2.1, (G5.out.trans (g6.below.mono G5.out.size)).trans (below_row h2.2 (by have := G4.out.size; omega) (Nat.le_trans G5.out.size g6.below.size))⟩
      have Y : Hid (OwnS wvG 9 28 (((((((((w6.setCell ⟨g5, kn * 9, none⟩ (.int .i64 pr)).setCell ⟨g5, kn * 9 + 1, none⟩ (.string mc)).setCell ⟨g5, kn * 9 + 2, none⟩ (.int .i64 si)).setCell ⟨g5, kn * 9 + 3, none⟩ (.int .i64 sp)).setCell ⟨g5, kn * 9 + 4, none⟩ (.int .i64 di)).setCell ⟨g5, kn * 9 + 5, none⟩ (.int .i64 dp)).setCell ⟨g5, kn * 9 + 6, none⟩ (.int .i64 ps)).setCell ⟨g5, kn * 9 + 7, none⟩ (.int .i64 (now + wn))).setCell ⟨g5, kn * 9 + 8, none⟩ (.int .i64 ow)) w.heap.size (.slice (some ⟨g5, 0, none⟩) len kc) (fs.set kn ⟨pr, mc, si, sp, di, dp, ps, now + wn, ow⟩) ∧ Below w.heap.size w (((((((((w6.setCell ⟨g5, kn * 9, none⟩ (.int .i64 pr)).setCell ⟨g5, kn * 9 + 1, none⟩ (.string mc)).setCell ⟨g5, kn * 9 + 2, none⟩ (.int .i64 si)).setCell ⟨g5, kn * 9 + 3, none⟩ (.int .i64 sp)).setCell ⟨g5, kn * 9 + 4, none⟩ (.int .i64 di)).setCell ⟨g5, kn * 9 + 5, none⟩ (.int .i64 dp)).setCell ⟨g5, kn * 9 + 6, none⟩ (.int .i64 ps)).setCell ⟨g5, kn * 9 + 7, none⟩ (.int .i64 (now + wn))).setCell ⟨g5, kn * 9 + 8, none⟩ (.int .i64 ow))) := Y0 _ rfl
      clear Y0 o6 g6 X5 G5 HX RW
      go_wp2
      go_ret2
      exact ⟨_, rfl, Y.out.1, Y.out.2⟩
end Go.Proofs.Ythokaemeadhkjaa
