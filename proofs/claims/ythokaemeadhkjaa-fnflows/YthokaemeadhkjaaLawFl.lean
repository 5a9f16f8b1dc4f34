/- FlowsExpire of the program; FlowOf; the walk of laws.FnFlows. -/
import Derived.Test.YthokaemeadhkjaaLawPs
namespace Go.Proofs.Ythokaemeadhkjaa
open Go.RowKit Go.PlainAid Go.Proofs.Ythokaemeadhkjaa.Bt Go.Sort
set_option linter.unusedVariables false
set_option maxRecDepth 20000
noncomputable def exC (fs : List FlowV) (o : Int) : Int := if ffC fs ≠ 0 then ffC fs else if dec (0 ≤ o ∧ o ≤ 100000) = false then 4 else 0
noncomputable def exL (fs : List FlowV) (o : Int) : List FlowV := if exC fs o ≠ 0 then [] else fs.filter (fun f => !(decide (f.un ≤ o)))
set_option maxHeartbeats 1000000 in
theorem expire1_any (pr : Int) (mc : ByteArray) (si sp di dp st un ow : Int) (o : Int) (B : Nat) (W : World) (h : W.cell? ⟨B, 0, none⟩ = some (.int .i64 o)) :
    Calls Try.prog 51 #[.agg #[.int .i64 pr, .string mc, .int .i64 si, .int .i64 sp, .int .i64 di, .int .i64 dp, .int .i64 st, .int .i64 un, .int .i64 ow], .pointer (some ⟨B, 0, none⟩)] W fun e w' => e = .returned (.bool (decide (un ≤ o))) ∧ Grw W w' := by
  have hc := acell h (.cells #[.int .i64 pr, .string mc, .int .i64 si, .int .i64 sp, .int .i64 di, .int .i64 dp, .int .i64 st, .int .i64 un, .int .i64 ow] 28)
  clear h
  generalize hq : (decide (un ≤ o)) = q
  cases q <;>
  · go_enter Try.func51, Try.ntmps51
    go_wp2
    go_ret
    exact ⟨rfl, (Grw.refl _).alloc _⟩
set_option maxHeartbeats 2000000 in
theorem implExp9_any (a : Option Addr) (len cap : Nat) (fs : List FlowV) (o : Int) (w : World) (h : Rw FlR 9 w a fs) (hok : ∀ x, x ∈ fs → FlRok x) (hl : fs.length = len) (hm : len ≤ 1048576) :
    Calls Try.prog 17 #[.slice a len cap, .int .i64 o] w fun e w' => ∃ v, e = .returned (.tuple #[v, .int .i64 (exC fs o)]) ∧ OwnS wvG 9 28 w' w.heap.size v (exL fs o) ∧ Below w.heap.size w w' := by
  have RW : Hid (Rw FlR 9 w a fs) := h
  have HF : Hid (∀ w, Rw FlR 9 w a fs → Calls Try.prog 34 #[.slice a len cap] w fun e w' => e = .returned (.int .i64 (ffC fs)) ∧ Below w.heap.size w w') := fun w h => flowsFault_any a len cap fs w h hok hl hm
  have HW : Hid (∀ w, Calls Try.prog 36 #[.int .i64 o] w fun e w' => e = .returned (.bool (dec (0 ≤ o ∧ o ≤ 100000))) ∧ w' = w) := fun w => timeOK_any o w
  by_cases hf : ffC fs = 0
  rotate_left
  · have E1 : Hid (exC fs o = ffC fs) := if_pos hf
    have E2 : Hid (exL fs o = []) := if_pos (by rw [E1.out]; exact hf)
    rw [E1.out, E2.out]
    clear E1 E2 h hok
    generalize ffC fs = z at HF hf ⊢
    have hz : (z == 0) = false := by simp [hf]
    have hz2 : (z != 0) = true := by simp [hf]
    clear hf
    go_enter Try.func17, Try.ntmps17
    go_wp2_with fail
    refine (HF.out _ (RW.out.keep FR.kp ((Below.refl _ _).alloc (Nat.le_refl _) _))).mono ?_
    rintro e w2 ⟨rfl, g2⟩
    have G2 : Hid (Below w.heap.size w w2) := ((Below.refl _ _).alloc (Nat.le_refl _) _).trans (g2.mono (by simp))
    clear g2
    go_wp2
    go_ret2
    exact ⟨_, rfl, (OwnS.nil w2 _), G2.out⟩
  have hq : foB fs = true := by
    rcases ff_cases fs with h1 | h1 | h1
    · have := h1.2; omega
    · have := h1.2.2; omega
    · exact h1.2.1
  have h4 : fs.length ≤ 4096 := by
    rcases ff_cases fs with h1 | h1 | h1
    · have := h1.2; omega
    · exact h1.1
    · exact h1.1
  have E1 : exC fs o = if dec (0 ≤ o ∧ o ≤ 100000) = false then 4 else 0 := if_neg (by simp [hf])
  have E2 : exL fs o = if exC fs o ≠ 0 then [] else fs.filter (fun f => !(decide (f.un ≤ o))) := rfl
  rw [hf] at HF
  have HL : Hid (∀ w B, Rw FlR 9 w a fs → w.cell? ⟨B, 0, none⟩ = some (.int .i64 o) → Calls Try.prog 50 #[.slice a len cap, .func (.func 51) #[] #[.pointer (some ⟨B, 0, none⟩)]] w fun e w' => ∃ v, e = .returned v ∧ OwnS wvG 9 28 w' w.heap.size v (fs.filter (fun f => !(decide (f.un ≤ o)))) ∧ Below w.heap.size w w') := fun w B h hc => flowsLeft_any a len cap fs 51 (.pointer (some ⟨B, 0, none⟩)) (fun f => decide (f.un ≤ o)) w h hok hl (by omega) (foB_says hq).2.2 (enters_of Try.func51 (by kernel_rfl) rfl) (fun pr mc si sp di dp st un ow W hW => expire1_any pr mc si sp di dp st un ow o B W (bkeep hW hc))
  clear h hok hf
  generalize dec (0 ≤ o ∧ o ≤ 100000) = t at HW E1
  generalize exC fs o = y1 at E1 E2 ⊢
  generalize exL fs o = y2 at E2 ⊢
  generalize fs.filter (fun f => !(decide (f.un ≤ o))) = R at HL E2
  cases t with
  | false =>
    rw [if_pos rfl] at E1
    subst E1
    rw [if_pos (by simp)] at E2
    subst E2
    go_enter Try.func17, Try.ntmps17
    go_wp2_with fail
    refine (HF.out _ (RW.out.keep FR.kp ((Below.refl _ _).alloc (Nat.le_refl _) _))).mono ?_
    rintro e w2 ⟨rfl, g2⟩
    have k0 : w2.cell? ⟨w.heap.size, 0, none⟩ = some (.int .i64 o) := bkeep g2 (by simp [go_sem])
    have G2 : Hid (Below w.heap.size w w2) := ((Below.refl _ _).alloc (Nat.le_refl _) _).trans (g2.mono (by simp))
    clear g2
    go_wp2_with fail
    refine (HW.out _).mono ?_
    rintro e w9 ⟨rfl, rfl⟩
    go_wp2
    go_ret2
    exact ⟨_, rfl, (OwnS.nil _ _), G2.out⟩
  | true =>
    rw [if_neg (by simp)] at E1
    subst E1
    rw [if_neg (by simp)] at E2
    subst E2
    go_enter Try.func17, Try.ntmps17
    go_wp2_with fail
    refine (HF.out _ (RW.out.keep FR.kp ((Below.refl _ _).alloc (Nat.le_refl _) _))).mono ?_
    rintro e w2 ⟨rfl, g2⟩
    have k0 : w2.cell? ⟨w.heap.size, 0, none⟩ = some (.int .i64 o) := bkeep g2 (by simp [go_sem])
    have G2 : Hid (Below w.heap.size w w2) := ((Below.refl _ _).alloc (Nat.le_refl _) _).trans (g2.mono (by simp))
    clear g2
    go_wp2_with fail
    refine (HW.out _).mono ?_
    rintro e w9 ⟨rfl, rfl⟩
    go_wp2_with fail
    refine (HL.out _ _ (RW.out.keep FR.kp G2.out) k0).mono ?_
    rintro e w3 ⟨v3, rfl, o3, g3⟩
    have G3 : Hid (OwnS wvG 9 28 w3 w9.heap.size v3 y2 ∧ Below w.heap.size w w3) := ⟨o3, G2.out.trans (g3.mono G2.out.size)⟩
    clear o3 g3 k0
    go_wp2
    go_ret2
    exact ⟨_, rfl, G3.out.1.lower G2.out.size, G3.out.2⟩

set_option maxHeartbeats 1000000 in
theorem FlowOf_any (w : World) (a : Option Addr) (len cap : Nat) (f : Nat → Int) (h : Bytes w a len f) (hl : len ≤ 1048576) (hlt : ∀ b off, 0 < len → a = some ⟨b, off, none⟩ → b < w.heap.size) :
    Calls Try.prog 10 #[.slice a len cap] w fun e w' => ∃ (pr : Int) (mc : ByteArray) (si sp di dp ow : Int), e = .returned (.agg #[.int .i64 pr, .string mc, .int .i64 si, .int .i64 sp, .int .i64 di, .int .i64 dp, .int .i64 1, .int .i64 0, .int .i64 ow]) ∧ Hid (DrF ⟨pr, mc, si, sp, di, dp, 1, 0, ow⟩ ∧ Below w.heap.size w w') := by
  have HB : Hid (Bytes w a len f) := h
  have HL : Hid (∀ b off, 0 < len → a = some ⟨b, off, none⟩ → b < w.heap.size) := hlt
  clear h hlt
  go_enter Try.func10, Try.ntmps10
  go_wp2_with fail
  refine (l00Source_any _ a len cap f (HB.out.below (B := w.heap.size) ((Below.refl _ _).alloc (Nat.le_refl _) _) HL.out) hl (fun b off h0 e => by have := HL.out b off h0 e; simp; omega)).mono ?_
  rintro e w1 ⟨rfl, hs, hg, hz⟩
  rw [World.size_alloc] at hs hz
  have bx := box_same hg (b := w.heap.size) (by simp) (by simp)
  have X1 : Hid (Src w1 (w.heap.size + 1) a len cap f 0 ∧ Below w.heap.size w w1 ∧ w1.heap.size = w.heap.size + 1 + 1) := ⟨hs, ((Below.refl _ _).alloc (Nat.le_refl _) _).grown hg (by simp) (by simp), hz⟩
  have c0 : w1.cell? ⟨w.heap.size, 0, none⟩ = some (.int .i64 0) := by rw [bx.1]; simp
  have z0 : w1.frozen? ⟨w.heap.size, 0, none⟩ = false := by rw [bx.2]; simp
  have c1 : w1.cell? ⟨w.heap.size, 1, none⟩ = some (.string ⟨#[]⟩) := by rw [bx.1]; simp
  have z1 : w1.frozen? ⟨w.heap.size, 1, none⟩ = false := by rw [bx.2]; simp
  have c2 : w1.cell? ⟨w.heap.size, 2, none⟩ = some (.int .i64 0) := by rw [bx.1]; simp
  have z2 : w1.frozen? ⟨w.heap.size, 2, none⟩ = false := by rw [bx.2]; simp
  have c3 : w1.cell? ⟨w.heap.size, 3, none⟩ = some (.int .i64 0) := by rw [bx.1]; simp
  have z3 : w1.frozen? ⟨w.heap.size, 3, none⟩ = false := by rw [bx.2]; simp
  have c4 : w1.cell? ⟨w.heap.size, 4, none⟩ = some (.int .i64 0) := by rw [bx.1]; simp
  have z4 : w1.frozen? ⟨w.heap.size, 4, none⟩ = false := by rw [bx.2]; simp
  have c5 : w1.cell? ⟨w.heap.size, 5, none⟩ = some (.int .i64 0) := by rw [bx.1]; simp
  have z5 : w1.frozen? ⟨w.heap.size, 5, none⟩ = false := by rw [bx.2]; simp
  have c6 : w1.cell? ⟨w.heap.size, 6, none⟩ = some (.int .i64 0) := by rw [bx.1]; simp
  have z6 : w1.frozen? ⟨w.heap.size, 6, none⟩ = false := by rw [bx.2]; simp
  have c7 : w1.cell? ⟨w.heap.size, 7, none⟩ = some (.int .i64 0) := by rw [bx.1]; simp
  have z7 : w1.frozen? ⟨w.heap.size, 7, none⟩ = false := by rw [bx.2]; simp
  have c8 : w1.cell? ⟨w.heap.size, 8, none⟩ = some (.int .i64 0) := by rw [bx.1]; simp
  have z8 : w1.frozen? ⟨w.heap.size, 8, none⟩ = false := by rw [bx.2]; simp
  clear hs hg hz bx
  go_wp2_with fail
  refine (DrawFw.drawn w1 (w.heap.size + 1) a len cap f 0 0 X1.out.1 (by omega) (by omega)).mono ?_
  rintro e w2 ⟨pr, mc, si, sp, di, dp, ow, rfl, HD⟩
  have bx := box_same HD.out.2.2 (b := w.heap.size) (by simp) (by have := X1.out.2.2; omega)
  replace c0 : w2.cell? ⟨w.heap.size, 0, none⟩ = some (.int .i64 0) := by rw [bx.1]; exact c0
  replace z0 : w2.frozen? ⟨w.heap.size, 0, none⟩ = false := by rw [bx.2]; exact z0
  replace c1 : w2.cell? ⟨w.heap.size, 1, none⟩ = some (.string ⟨#[]⟩) := by rw [bx.1]; exact c1
  replace z1 : w2.frozen? ⟨w.heap.size, 1, none⟩ = false := by rw [bx.2]; exact z1
  replace c2 : w2.cell? ⟨w.heap.size, 2, none⟩ = some (.int .i64 0) := by rw [bx.1]; exact c2
  replace z2 : w2.frozen? ⟨w.heap.size, 2, none⟩ = false := by rw [bx.2]; exact z2
  replace c3 : w2.cell? ⟨w.heap.size, 3, none⟩ = some (.int .i64 0) := by rw [bx.1]; exact c3
  replace z3 : w2.frozen? ⟨w.heap.size, 3, none⟩ = false := by rw [bx.2]; exact z3
  replace c4 : w2.cell? ⟨w.heap.size, 4, none⟩ = some (.int .i64 0) := by rw [bx.1]; exact c4
  replace z4 : w2.frozen? ⟨w.heap.size, 4, none⟩ = false := by rw [bx.2]; exact z4
  replace c5 : w2.cell? ⟨w.heap.size, 5, none⟩ = some (.int .i64 0) := by rw [bx.1]; exact c5
  replace z5 : w2.frozen? ⟨w.heap.size, 5, none⟩ = false := by rw [bx.2]; exact z5
  replace c6 : w2.cell? ⟨w.heap.size, 6, none⟩ = some (.int .i64 0) := by rw [bx.1]; exact c6
  replace z6 : w2.frozen? ⟨w.heap.size, 6, none⟩ = false := by rw [bx.2]; exact z6
  replace c7 : w2.cell? ⟨w.heap.size, 7, none⟩ = some (.int .i64 0) := by rw [bx.1]; exact c7
  replace z7 : w2.frozen? ⟨w.heap.size, 7, none⟩ = false := by rw [bx.2]; exact z7
  replace c8 : w2.cell? ⟨w.heap.size, 8, none⟩ = some (.int .i64 0) := by rw [bx.1]; exact c8
  replace z8 : w2.frozen? ⟨w.heap.size, 8, none⟩ = false := by rw [bx.2]; exact z8
  have Z : Hid (DrF ⟨pr, mc, si, sp, di, dp, 1, 0, ow⟩ ∧ Below w.heap.size w w2) := ⟨HD.out.1, X1.out.2.1.grown HD.out.2.2 X1.out.2.1.size (fun k hk => by cases hk; omega)⟩
  clear bx X1 HD
  go_wp2
  (try simp only [Exit.inBlock, Exit.then])
  refine bodyPost_ret (v := .agg #[.int .i64 pr, .string mc, .int .i64 si, .int .i64 sp, .int .i64 di, .int .i64 dp, .int .i64 1, .int .i64 0, .int .i64 ow]) (by simp [results, Try.results10, go_sem, *]; try rfl) rfl ?_
  refine ⟨pr, mc, si, sp, di, dp, ow, rfl, Z.out.1, ?_⟩
  exact (((((((((Z.out.2.setCell (p := ⟨w.heap.size, 0, none⟩) (Nat.le_refl _) _).setCell (p := ⟨w.heap.size, 1, none⟩) (Nat.le_refl _) _).setCell (p := ⟨w.heap.size, 2, none⟩) (Nat.le_refl _) _).setCell (p := ⟨w.heap.size, 3, none⟩) (Nat.le_refl _) _).setCell (p := ⟨w.heap.size, 4, none⟩) (Nat.le_refl _) _).setCell (p := ⟨w.heap.size, 5, none⟩) (Nat.le_refl _) _).setCell (p := ⟨w.heap.size, 6, none⟩) (Nat.le_refl _) _).setCell (p := ⟨w.heap.size, 7, none⟩) (Nat.le_refl _) _).setCell (p := ⟨w.heap.size, 8, none⟩) (Nat.le_refl _) _)
theorem ff_ok {fs : List FlowV} (h : foB fs = true) : ffC fs = 0 := by
  have := foB_len h
  unfold ffC; rw [if_neg (by omega), if_neg (by rw [h]; simp)]
theorem wt1_bd (p : Int) : 3 ≤ wtN p 1 ∧ wtN p 1 ≤ 5 := by
  unfold wtN
  repeat' split
  all_goals omega
theorem open_ways {fs : List FlowV} {pr : Int} {mc : ByteArray} {si sp di dp ow : Int} {now : Int} (h : foB fs = true) (hf : DrF ⟨pr, mc, si, sp, di, dp, 1, 0, ow⟩) (hn : 0 ≤ now ∧ now ≤ 22) :
    ((opC fs ⟨pr, mc, si, sp, di, dp, 1, 0, ow⟩ now = 9 ∨ opC fs ⟨pr, mc, si, sp, di, dp, 1, 0, ow⟩ now = 7) ∧ opL fs ⟨pr, mc, si, sp, di, dp, 1, 0, ow⟩ now = fs) ∨ (opC fs ⟨pr, mc, si, sp, di, dp, 1, 0, ow⟩ now = 0 ∧ opL fs ⟨pr, mc, si, sp, di, dp, 1, 0, ow⟩ now = fs ++ [⟨pr, mc, si, sp, di, dp, 1, now + wtN pr 1, ow⟩] ∧ foB (fs ++ [⟨pr, mc, si, sp, di, dp, 1, now + wtN pr 1, ow⟩]) = true) := by
  have h1 := ff_ok h
  have h2 : flB ⟨pr, mc, si, sp, di, dp, 1, 0, ow⟩ = true := DrF_ok hf
  have h3 : dec (0 ≤ now ∧ now ≤ 100000) = true := dec_y (by omega)
  have hC : opC fs ⟨pr, mc, si, sp, di, dp, 1, 0, ow⟩ now = if fkT (plM fs fs.length) (enOf ⟨pr, mc, si, sp, di, dp, 1, 0, ow⟩) = true then 9 else if fs.length = 8 then 7 else 0 := by
    unfold opC
    dsimp only
    rw [if_neg (by simp [h1]), h2, if_neg (by simp), h3, if_neg (by simp)]
  have hL : opL fs ⟨pr, mc, si, sp, di, dp, 1, 0, ow⟩ now = if fkT (plM fs fs.length) (enOf ⟨pr, mc, si, sp, di, dp, 1, 0, ow⟩) = true then fs else if fs.length = 8 then fs else fs ++ [⟨pr, mc, si, sp, di, dp, 1, now + wtN pr 1, ow⟩] := by
    unfold opL
    dsimp only
    rw [if_neg (by simp [h1]), h2, if_neg (by simp), h3, if_neg (by simp)]
  rw [hC, hL]
  by_cases h4 : fkT (plM fs fs.length) (enOf ⟨pr, mc, si, sp, di, dp, 1, 0, ow⟩) = true
  · rw [if_pos h4, if_pos h4]
    exact .inl ⟨.inl rfl, rfl⟩
  · rw [if_neg h4, if_neg h4]
    by_cases h5 : fs.length = 8
    · rw [if_pos h5, if_pos h5]
      exact .inl ⟨.inr rfl, rfl⟩
    · rw [if_neg h5, if_neg h5]
      have h8 := foB_len h
      refine .inr ⟨rfl, rfl, foB_open h (by omega) (DrF_new hf (now := now) (by omega)) ?_⟩
      exact fk_there (show fkT (plM fs fs.length) (enOf ⟨pr, mc, si, sp, di, dp, 1, 0, ow⟩) = false by simpa using h4)
theorem enR_dr {pr : Int} {mc : ByteArray} {si sp di dp ow : Int} (hf : DrF ⟨pr, mc, si, sp, di, dp, 1, 0, ow⟩) : enR ⟨pr, si, sp, di, dp⟩ = true ∧ enR ⟨pr, di, dp, si, sp⟩ = true := by
  unfold DrF at hf
  dsimp only at hf
  unfold enR
  simp [dec]
  omega
theorem find_in {R : List FlowV} (h : foB R = true) {e : EnV} (he : enR e = true) {i : Nat} {y : FlowV} (hy : R[i]? = some y) (hye : enOf y = e) : fdK R e = (i : Int) ∧ fdB R e = false ∧ fdC R e = 0 := by
  obtain ⟨h1, h2, h3⟩ := fk_this (foB_says h).2.2 hy hye
  have hc : fdC R e = 0 := by unfold fdC; rw [if_neg (by simp [ff_ok h]), if_neg (by rw [he]; simp), if_neg (by rw [h1]; simp)]
  refine ⟨?_, ?_, hc⟩
  · unfold fdK; rw [if_neg (by simp [hc]), h3]
  · unfold fdB; rw [if_neg (by simp [hc]), h2]
theorem find_out {R : List FlowV} (h : foB R = true) {e : EnV} (he : enR e = true) (hno : ∀ g, g ∈ R → enOf g ≠ e ∧ enOf g ≠ enT e) : fdC R e = 5 := by
  unfold fdC
  rw [if_neg (by simp [ff_ok h]), if_neg (by rw [he]; simp), if_pos (fk_none (fun j g _ hg => hno g (List.mem_of_getElem? hg)))]
theorem open_facts {fs L : List FlowV} {pr : Int} {mc : ByteArray} {si sp di dp ow : Int} {now : Int} (hf : DrF ⟨pr, mc, si, sp, di, dp, 1, 0, ow⟩) (hn : 0 ≤ now ∧ now ≤ 22) (hL : L = fs ++ [⟨pr, mc, si, sp, di, dp, 1, now + wtN pr 1, ow⟩]) (h : foB L = true) :
    (fdK L ⟨pr, si, sp, di, dp⟩ = (fs.length : Int) ∧ fdB L ⟨pr, si, sp, di, dp⟩ = false ∧ fdC L ⟨pr, si, sp, di, dp⟩ = 0) ∧ (fdK L ⟨pr, di, dp, si, sp⟩ = (fs.length : Int) ∧ fdB L ⟨pr, di, dp, si, sp⟩ = true ∧ fdC L ⟨pr, di, dp, si, sp⟩ = 0) ∧ opC L ⟨pr, mc, si, sp, di, dp, 1, 0, ow⟩ now = 9 ∧
    (exC L (now + wtN pr 1) = 0 ∧ foB (exL L (now + wtN pr 1)) = true ∧ fdC (exL L (now + wtN pr 1)) ⟨pr, si, sp, di, dp⟩ = 5) ∧
    (exC L (now + wtN pr 1 - 1) = 0 ∧ foB (exL L (now + wtN pr 1 - 1)) = true ∧ fdC (exL L (now + wtN pr 1 - 1)) ⟨pr, si, sp, di, dp⟩ = 0) ∧
    (dpC L ow = 0 ∧ foB (dpL L ow) = true ∧ ∀ x, x ∈ dpL L ow → (x.ow == ow) = false) := by
  obtain ⟨r1, r2⟩ := enR_dr hf
  have hy : L[fs.length]? = some ⟨pr, mc, si, sp, di, dp, 1, now + wtN pr 1, ow⟩ := by rw [hL]; simp
  have f0 := ff_ok h
  have hap := (foB_says h).2.2
  have hbd := wt1_bd pr
  have hno : ∀ j g, j < fs.length → L[j]? = some g → enOf g ≠ ⟨pr, si, sp, di, dp⟩ ∧ enOf g ≠ ⟨pr, di, dp, si, sp⟩ := fun j g hj hg => hap fs.length _ (lt_at hy) hy j g hj hg
  have hmem : ∀ g, g ∈ L → g = ⟨pr, mc, si, sp, di, dp, 1, now + wtN pr 1, ow⟩ ∨ (enOf g ≠ ⟨pr, si, sp, di, dp⟩ ∧ enOf g ≠ ⟨pr, di, dp, si, sp⟩) := by
    intro g hg
    obtain ⟨j, hj⟩ := List.getElem?_of_mem hg
    by_cases hjl : j < fs.length
    · exact .inr (hno j g hjl hj)
    · have : j < L.length := lt_at hj
      rw [hL] at this
      simp at this
      obtain rfl : j = fs.length := by omega
      rw [hy] at hj
      injection hj with hj
      exact .inl hj.symm
  have ex0 : ∀ o : Int, 0 ≤ o ∧ o ≤ 100000 → exC L o = 0 ∧ exL L o = L.filter (fun f => !(decide (f.un ≤ o))) := fun o ho => by
    have e1 : exC L o = 0 := by unfold exC; rw [if_neg (by simp [f0]), if_neg (by rw [dec_y ho]; simp)]
    refine ⟨e1, ?_⟩
    unfold exL; rw [if_neg (by simp [e1])]
  have how : 0 ≤ ow ∧ ow ≤ 2 := by unfold DrF at hf; dsimp only at hf; omega
  have dp0 : dpC L ow = 0 := by unfold dpC; rw [if_neg (by simp [f0]), if_neg (by rw [dec_y (by omega)]; simp)]
  have dp1 : dpL L ow = L.filter (fun f => !(f.ow == ow)) := by unfold dpL; rw [if_neg (by simp [dp0])]
  refine ⟨find_in h r1 hy rfl, ?_, ?_, ?_, ?_, ?_⟩
  · obtain ⟨h1, h2, h3⟩ := fk_back (e := ⟨pr, di, dp, si, sp⟩) hap hy rfl (show enOf ⟨pr, mc, si, sp, di, dp, 1, 0, ow⟩ ≠ enT (enOf ⟨pr, mc, si, sp, di, dp, 1, 0, ow⟩) from DrF_turn hf) (fun j g hj hg => (hno j g hj hg).2)
    have hc : fdC L ⟨pr, di, dp, si, sp⟩ = 0 := by unfold fdC; rw [if_neg (by simp [f0]), if_neg (by rw [r2]; simp), if_neg (by rw [h1]; simp)]
    refine ⟨?_, ?_, hc⟩
    · unfold fdK; rw [if_neg (by simp [hc]), h3]
    · unfold fdB; rw [if_neg (by simp [hc]), h2]
  · obtain ⟨h1, -, -⟩ := fk_this (e := enOf ⟨pr, mc, si, sp, di, dp, 1, 0, ow⟩) hap hy rfl
    have h2 : flB ⟨pr, mc, si, sp, di, dp, 1, 0, ow⟩ = true := DrF_ok hf
    have h3 : dec (0 ≤ now ∧ now ≤ 100000) = true := dec_y (by omega)
    unfold opC
    dsimp only
    rw [if_neg (by simp [f0]), h2, if_neg (by simp), h3, if_neg (by simp), if_pos h1]
  · obtain ⟨e1, e2⟩ := ex0 (now + wtN pr 1) (by omega)
    have hb : foB (exL L (now + wtN pr 1)) = true := by rw [e2]; exact foB_filter h _
    refine ⟨e1, hb, find_out hb r1 ?_⟩
    intro g hg
    rw [e2] at hg
    obtain ⟨hg1, hg2⟩ := List.mem_filter.1 hg
    rcases hmem g hg1 with rfl | hx
    · simp at hg2
    · exact hx
  · obtain ⟨e1, e2⟩ := ex0 (now + wtN pr 1 - 1) (by omega)
    have hb : foB (exL L (now + wtN pr 1 - 1)) = true := by rw [e2]; exact foB_filter h _
    have hm : ⟨pr, mc, si, sp, di, dp, 1, now + wtN pr 1, ow⟩ ∈ exL L (now + wtN pr 1 - 1) := by
      rw [e2]
      refine List.mem_filter.2 ⟨List.mem_of_getElem? hy, ?_⟩
      simp
      omega
    obtain ⟨i, hi⟩ := List.getElem?_of_mem hm
    exact ⟨e1, hb, (find_in hb r1 hi rfl).2.2⟩
  · refine ⟨dp0, by rw [dp1]; exact foB_filter h _, fun x hx => ?_⟩
    rw [dp1] at hx
    have := (List.mem_filter.1 hx).2
    simpa using this
set_option maxHeartbeats 8000000 in
theorem lawFlows_any (a b : Option Addr) (la ca lb cb : Nat) (f g : Nat → Int) (w : World) (ha : Bytes w a la f) (hb : Bytes w b lb g)
    (pa : ∀ b off, 0 < la → a = some ⟨b, off, none⟩ → b < w.heap.size) (pb : ∀ b' off, 0 < lb → b = some ⟨b', off, none⟩ → b' < w.heap.size) (h1 : la ≤ 1048576) (h2 : lb ≤ 1048576) :
    Calls Try.prog 3 #[.slice a la ca, .slice b lb cb] w fun e w' => e = .returned (.bool true) ∧ Below w.heap.size w w' := by
  have D1 : Hid (Calls Try.prog 9 #[.slice a la ca] w fun e w' => ∃ (x : Option Addr) (c : Nat) (fs : List FlowV) (now : Int), e = .returned (.agg #[.slice x fs.length c, .int .i64 now]) ∧ Hid (∃ g, x = some ⟨g, 0, none⟩ ∧ fs.length ≤ c) ∧ Hid (OwnS wvG 9 28 w' w.heap.size (.slice x fs.length c) fs ∧ foB fs = true ∧ (0 ≤ now ∧ now ≤ 22) ∧ Below w.heap.size w w')) := LanesOf_any w a la ca f ha h1 pa
  have D2 : Hid (∀ wx, Below w.heap.size w wx → Calls Try.prog 10 #[.slice b lb cb] wx fun e w' => ∃ (pr : Int) (mc : ByteArray) (si sp di dp ow : Int), e = .returned (.agg #[.int .i64 pr, .string mc, .int .i64 si, .int .i64 sp, .int .i64 di, .int .i64 dp, .int .i64 1, .int .i64 0, .int .i64 ow]) ∧ Hid (DrF ⟨pr, mc, si, sp, di, dp, 1, 0, ow⟩ ∧ Below wx.heap.size wx w')) := fun wx bx => FlowOf_any wx b lb cb g (hb.below bx pb) h2 (fun b off h0 e => by have := pb b off h0 e; have := bx.size; omega)
  have hz1 : decide ((1048576 : Int) < (la : Int)) = false := decide_eq_false (by omega)
  have hz2 : decide ((1048576 : Int) < (lb : Int)) = false := decide_eq_false (by omega)
  clear ha hb pa pb
  go_enter Try.func3, Try.ntmps3
  go_wp2_with fail
  refine D1.out.mono ?_
  rintro e w1 ⟨x, c, fs, now, rfl, NX, Y⟩
  obtain ⟨gg, hgg, hgc⟩ := NX.out
  subst hgg
  have X1 : Hid (OwnS wvG 9 28 (w1.alloc (.cells #[.slice (some ⟨gg, 0, none⟩) fs.length c, .int .i64 now] 25)) w.heap.size (.slice (some ⟨gg, 0, none⟩) fs.length c) fs ∧ foB fs = true ∧ Below w.heap.size w (w1.alloc (.cells #[.slice (some ⟨gg, 0, none⟩) fs.length c, .int .i64 now] 25))) := ⟨Y.out.1.now ((Below.refl _ _).alloc (Nat.le_refl _) _), Y.out.2.1, Y.out.2.2.2.alloc Y.out.2.2.2.size _⟩
  obtain ⟨hn0, hn1⟩ := Y.out.2.2.1
  clear Y D1 NX
  go_wp2_with fail
  refine (D2.out _ X1.out.2.2).mono ?_
  rintro e w2 ⟨pr, mc, si, sp, di, dp, ow, rfl, HD⟩
  have FB : Hid (foB fs = true) := X1.out.2.1
  have HDR : Hid (DrF ⟨pr, mc, si, sp, di, dp, 1, 0, ow⟩) := HD.out.1
  have b2 := HD.out.2
  have X2 : Hid (OwnS wvG 9 28 (w2.alloc (.cells #[.int .i64 pr, .string mc, .int .i64 si, .int .i64 sp, .int .i64 di, .int .i64 dp, .int .i64 1, .int .i64 0, .int .i64 ow] 28)) w.heap.size (.slice (some ⟨gg, 0, none⟩) fs.length c) fs ∧ Below w.heap.size w (w2.alloc (.cells #[.int .i64 pr, .string mc, .int .i64 si, .int .i64 sp, .int .i64 di, .int .i64 dp, .int .i64 1, .int .i64 0, .int .i64 ow] 28))) := ⟨(X1.out.1.now b2).now ((Below.refl _ _).alloc (Nat.le_refl _) _), (X1.out.2.2.trans (b2.mono X1.out.2.2.size)).alloc (X1.out.2.2.trans (b2.mono X1.out.2.2.size)).size _⟩
  have c0 : w2.cell? ⟨w1.heap.size, 0, none⟩ = some (.slice (some ⟨gg, 0, none⟩) fs.length c) := bkeep b2 (by simp)
  have c1 : w2.cell? ⟨w1.heap.size, 1, none⟩ = some (.int .i64 now) := bkeep b2 (by simp)
  replace c0 := acell c0 (.cells #[.int .i64 pr, .string mc, .int .i64 si, .int .i64 sp, .int .i64 di, .int .i64 dp, .int .i64 1, .int .i64 0, .int .i64 ow] 28)
  replace c1 := acell c1 (.cells #[.int .i64 pr, .string mc, .int .i64 si, .int .i64 sp, .int .i64 di, .int .i64 dp, .int .i64 1, .int .i64 0, .int .i64 ow] 28)
  clear HD b2 X1 D2
  have h8 := foB_len FB.out
  have hfok : Hid (FlRok ⟨pr, mc, si, sp, di, dp, 1, 0, ow⟩) := flB_wf (DrF_ok HDR.out)
  have WF : Hid (∀ x, x ∈ fs → FlRok x) := foB_wf FB.out
  have HI : Hid (∀ W, Rw FlR 9 W (some ⟨gg, 0, none⟩) fs → Calls Try.prog 11 #[(.slice (some ⟨gg, 0, none⟩) fs.length c), .agg #[.int .i64 pr, .string mc, .int .i64 si, .int .i64 sp, .int .i64 di, .int .i64 dp, .int .i64 1, .int .i64 0, .int .i64 ow], .int .i64 now] W fun e w' => ∃ v, e = .returned (.tuple #[v, .int .i64 (opC fs ⟨pr, mc, si, sp, di, dp, 1, 0, ow⟩ now)]) ∧ OwnS wvG 9 28 w' W.heap.size v (opL fs ⟨pr, mc, si, sp, di, dp, 1, 0, ow⟩ now) ∧ Below W.heap.size W w') := fun W h => implOpen_any gg 0 fs.length c fs pr mc si sp di dp 1 0 ow now W h WF.out rfl (by omega) hgc hfok.out
  have HS : Hid (∀ W, Rw FlR 9 W (some ⟨gg, 0, none⟩) fs → Calls Try.prog 12 #[(.slice (some ⟨gg, 0, none⟩) fs.length c), .agg #[.int .i64 pr, .string mc, .int .i64 si, .int .i64 sp, .int .i64 di, .int .i64 dp, .int .i64 1, .int .i64 0, .int .i64 ow], .int .i64 now] W fun e w' => ∃ v, e = .returned (.tuple #[v, .int .i64 (opC fs ⟨pr, mc, si, sp, di, dp, 1, 0, ow⟩ now)]) ∧ OwnS wvG 9 28 w' W.heap.size v (opL fs ⟨pr, mc, si, sp, di, dp, 1, 0, ow⟩ now) ∧ Below W.heap.size W w') := fun W h => specOpen_any gg 0 fs.length c fs pr mc si sp di dp 1 0 ow now W h WF.out rfl (by omega) hgc hfok.out
  have HWY := open_ways FB.out HDR.out ⟨hn0, hn1⟩
  generalize opC fs ⟨pr, mc, si, sp, di, dp, 1, 0, ow⟩ now = cd at HI HS HWY
  generalize opL fs ⟨pr, mc, si, sp, di, dp, 1, 0, ow⟩ now = R at HI HS HWY
  have FBR : Hid (foB R = true) := by
    rcases HWY with ⟨_, h⟩ | ⟨_, h, h'⟩
    · show _ = true
      rw [h]; exact FB.out
    · show _ = true
      rw [h]; exact h'
  have HWZ : Hid (((cd = 9 ∨ cd = 7) ∧ R = fs) ∨ (cd = 0 ∧ R = fs ++ [⟨pr, mc, si, sp, di, dp, 1, now + wtN pr 1, ow⟩])) := by
    rcases HWY with ⟨h, h'⟩ | ⟨h, h', _⟩
    · exact .inl ⟨h, h'⟩
    · exact .inr ⟨h, h'⟩
  clear HWY
  have WFR : Hid (∀ x, x ∈ R → FlRok x) := foB_wf FBR.out
  have hR8 : Hid (R.length ≤ 8) := foB_len FBR.out
  have hcc : (cd != cd) = false := by simp
  go_wp2_with fail
  refine (HI.out _ (X2.out.1.rw wvG_len WF.out)).mono ?_
  rintro e w5 ⟨v5, rfl, o5, b5⟩
  obtain ⟨s5, k5, hv5, -⟩ := o5.slice
  subst hv5
  have X5 : Hid (OwnS wvG 9 28 w5 w.heap.size (.slice (some ⟨gg, 0, none⟩) fs.length c) fs ∧ OwnS wvG 9 28 w5 w.heap.size (.slice s5 R.length k5) R ∧ Below w.heap.size w w5) := ⟨X2.out.1.now b5, o5.lower X2.out.2.size, X2.out.2.trans (b5.mono X2.out.2.size)⟩
  replace c0 := bkeep b5 c0
  replace c1 := bkeep b5 c1
  have n0 : w5.cell? ⟨w2.heap.size, 0, none⟩ = some (.int .i64 pr) := bkeep b5 (by simp [go_sem])
  have n1 : w5.cell? ⟨w2.heap.size, 1, none⟩ = some (.string mc) := bkeep b5 (by simp [go_sem])
  have n2 : w5.cell? ⟨w2.heap.size, 2, none⟩ = some (.int .i64 si) := bkeep b5 (by simp [go_sem])
  have n3 : w5.cell? ⟨w2.heap.size, 3, none⟩ = some (.int .i64 sp) := bkeep b5 (by simp [go_sem])
  have n4 : w5.cell? ⟨w2.heap.size, 4, none⟩ = some (.int .i64 di) := bkeep b5 (by simp [go_sem])
  have n5 : w5.cell? ⟨w2.heap.size, 5, none⟩ = some (.int .i64 dp) := bkeep b5 (by simp [go_sem])
  have n6 : w5.cell? ⟨w2.heap.size, 6, none⟩ = some (.int .i64 1) := bkeep b5 (by simp [go_sem])
  have n7 : w5.cell? ⟨w2.heap.size, 7, none⟩ = some (.int .i64 0) := bkeep b5 (by simp [go_sem])
  have n8 : w5.cell? ⟨w2.heap.size, 8, none⟩ = some (.int .i64 ow) := bkeep b5 (by simp [go_sem])
  clear o5 b5 X2 HI
  go_wp2_with fail
  refine (HS.out _ (X5.out.1.rw wvG_len WF.out)).mono ?_
  rintro e w6 ⟨v6, rfl, o6, b6⟩
  obtain ⟨s6, k6, hv6, -⟩ := o6.slice
  subst hv6
  have X6 : Hid (OwnS wvG 9 28 w6 w.heap.size (.slice (some ⟨gg, 0, none⟩) fs.length c) fs ∧ OwnS wvG 9 28 w6 w.heap.size (.slice s5 R.length k5) R ∧ OwnS wvG 9 28 w6 w.heap.size (.slice s6 R.length k6) R ∧ Below w.heap.size w w6) := ⟨X5.out.1.now b6, X5.out.2.1.now b6, o6.lower X5.out.2.2.size, X5.out.2.2.trans (b6.mono X5.out.2.2.size)⟩
  replace c0 := bkeep b6 c0
  replace c1 := bkeep b6 c1
  replace n0 := bkeep b6 n0
  replace n1 := bkeep b6 n1
  replace n2 := bkeep b6 n2
  replace n3 := bkeep b6 n3
  replace n4 := bkeep b6 n4
  replace n5 := bkeep b6 n5
  replace n6 := bkeep b6 n6
  replace n7 := bkeep b6 n7
  replace n8 := bkeep b6 n8
  clear o6 b6 X5 HS
  go_wp2_with fail
  refine (sameFlows_yes s5 s6 R.length k5 k6 R w6 (X6.out.2.1.rw wvG_len WFR.out) (X6.out.2.2.1.rw wvG_len WFR.out) rfl (by have := hR8.out; omega)).mono ?_
  rintro e w7 ⟨rfl, g7⟩
  have X7 : Hid (OwnS wvG 9 28 w7 w.heap.size (.slice (some ⟨gg, 0, none⟩) fs.length c) fs ∧ OwnS wvG 9 28 w7 w.heap.size (.slice s5 R.length k5) R ∧ Below w.heap.size w w7) := ⟨X6.out.1.now g7.below, X6.out.2.1.now g7.below, X6.out.2.2.2.trans (g7.below.mono X6.out.2.2.2.size)⟩
  replace c0 := g7.keep c0
  replace c1 := g7.keep c1
  replace n0 := g7.keep n0
  replace n1 := g7.keep n1
  replace n2 := g7.keep n2
  replace n3 := g7.keep n3
  replace n4 := g7.keep n4
  replace n5 := g7.keep n5
  replace n6 := g7.keep n6
  replace n7 := g7.keep n7
  replace n8 := g7.keep n8
  clear g7 X6
  have HO : Hid (Calls Try.prog 14 #[.slice s5 R.length k5] w7 fun e w' => e = .returned (.bool true) ∧ Below w7.heap.size w7 w') := by
    have := implFlowsOK_any s5 R.length k5 R w7 (X7.out.2.1.rw wvG_len WFR.out) WFR.out rfl (by have := hR8.out; omega)
    rw [FBR.out] at this
    exact this
  go_wp2_with fail
  refine HO.out.mono ?_
  rintro e w8 ⟨rfl, b8⟩
  have X8 : Hid (OwnS wvG 9 28 w8 w.heap.size (.slice (some ⟨gg, 0, none⟩) fs.length c) fs ∧ OwnS wvG 9 28 w8 w.heap.size (.slice s5 R.length k5) R ∧ Below w.heap.size w w8) := ⟨X7.out.1.now b8, X7.out.2.1.now b8, X7.out.2.2.trans (b8.mono X7.out.2.2.size)⟩
  replace c0 := bkeep b8 c0
  replace c1 := bkeep b8 c1
  replace n0 := bkeep b8 n0
  replace n1 := bkeep b8 n1
  replace n2 := bkeep b8 n2
  replace n3 := bkeep b8 n3
  replace n4 := bkeep b8 n4
  replace n5 := bkeep b8 n5
  replace n6 := bkeep b8 n6
  replace n7 := bkeep b8 n7
  replace n8 := bkeep b8 n8
  clear b8 X7 HO hcc
  rcases HWZ.out with ⟨hcd, hRf⟩ | ⟨hcd, hRf⟩
  · subst hRf
    clear HWZ
    have hc0 : (cd != 0) = true := by rcases hcd with rfl | rfl <;> rfl
    rcases hcd with rfl | rfl
    all_goals
      go_wp2_with fail
      refine (sameFlows_yes s5 (some ⟨gg, 0, none⟩) R.length k5 c R w8 (X8.out.2.1.rw wvG_len WFR.out) (X8.out.1.rw wvG_len WFR.out) rfl (by have := hR8.out; omega)).mono ?_
      rintro e w9 ⟨rfl, g9⟩
      have X9 : Hid (Below w.heap.size w w9) := X8.out.2.2.trans (g9.below.mono X8.out.2.2.size)
      clear g9 X8
      go_wp2
      go_ret
      exact ⟨rfl, X9.out⟩
  subst hcd
  clear HWZ
  have OF := open_facts HDR.out ⟨hn0, hn1⟩ hRf FBR.out
  have hlR : Hid (R.length = fs.length + 1) := by show _ = _; rw [hRf]; simp
  clear hRf
  obtain ⟨g5, hg5, -⟩ := X8.out.2.1.form (by have := hlR.out; omega)
  subst hg5
  have hk5 : R.length ≤ k5 := by
    rcases X8.out.2.1.addr with ⟨h, _⟩ | ⟨_, _, h⟩
    · cases h
    · exact h
  obtain ⟨⟨ka, kb, kc⟩, ⟨ma, mb, mc'⟩, op9, ⟨ea, eb, ec⟩, ⟨fa, fb, fc⟩, ⟨da, db, dc⟩⟩ := OF
  have EO : Hid (EnOk ⟨pr, si, sp, di, dp⟩) := enOf_ok hfok.out
  have hwb := wt1_bd pr
  have how : 0 ≤ ow ∧ ow ≤ 2 := by have := HDR.out; unfold DrF at this; dsimp only at this; omega
  have hpr : 0 ≤ pr ∧ pr ≤ 255 := by have := HDR.out; unfold DrF at this; dsimp only at this; omega
  have HW : Hid (∀ W, Calls Try.prog 16 #[.int .i64 pr, .int .i64 1] W fun e w' => e = .returned (.tuple #[.int .i64 (wtN pr 1), .int .i64 0]) ∧ w' = W) := fun W => by
    have := implWait_any pr 1 W (by omega)
    unfold fwN fwC at this
    rw [dec_y hpr, dec_y (by omega)] at this
    exact this
  have H1 : Hid (∀ W, Rw FlR 9 W (some ⟨g5, 0, none⟩) R → Calls Try.prog 15 #[.slice (some ⟨g5, 0, none⟩) R.length k5, .int .i64 pr, .int .i64 si, .int .i64 sp, .int .i64 di, .int .i64 dp] W fun e w' => e = .returned (.tuple #[.int .i64 (fs.length : Int), .bool false, .int .i64 0]) ∧ Below W.heap.size W w') := fun W h => by
    have := implFind_any (some ⟨g5, 0, none⟩) R.length k5 R pr si sp di dp W h WFR.out rfl (by have := foB_len FBR.out; omega) EO.out
    rw [ka, kb, kc] at this
    exact this
  have H2 : Hid (∀ W, Rw FlR 9 W (some ⟨g5, 0, none⟩) R → Calls Try.prog 15 #[.slice (some ⟨g5, 0, none⟩) R.length k5, .int .i64 pr, .int .i64 di, .int .i64 dp, .int .i64 si, .int .i64 sp] W fun e w' => e = .returned (.tuple #[.int .i64 (fs.length : Int), .bool true, .int .i64 0]) ∧ Below W.heap.size W w') := fun W h => by
    have := implFind_any (some ⟨g5, 0, none⟩) R.length k5 R pr di dp si sp W h WFR.out rfl (by have := foB_len FBR.out; omega) (enT_ok EO.out)
    rw [ma, mb, mc'] at this
    exact this
  have H3 : Hid (∀ W, Rw FlR 9 W (some ⟨g5, 0, none⟩) R → Calls Try.prog 11 #[.slice (some ⟨g5, 0, none⟩) R.length k5, .agg #[.int .i64 pr, .string mc, .int .i64 si, .int .i64 sp, .int .i64 di, .int .i64 dp, .int .i64 1, .int .i64 0, .int .i64 ow], .int .i64 now] W fun e w' => ∃ v, e = .returned (.tuple #[v, .int .i64 9]) ∧ Below W.heap.size W w') := fun W h => by
    have := implOpen_any g5 0 R.length k5 R pr mc si sp di dp 1 0 ow now W h WFR.out rfl (by have := hR8.out; omega) hk5 hfok.out
    rw [op9] at this
    exact this.mono fun e w' ⟨v, h1, _, h3⟩ => ⟨v, h1, h3⟩
  have H4 : Hid (∀ W, Rw FlR 9 W (some ⟨g5, 0, none⟩) R → Calls Try.prog 17 #[.slice (some ⟨g5, 0, none⟩) R.length k5, .int .i64 (now + wtN pr 1)] W fun e w' => ∃ v, e = .returned (.tuple #[v, .int .i64 0]) ∧ OwnS wvG 9 28 w' W.heap.size v (exL R (now + wtN pr 1)) ∧ Below W.heap.size W w') := fun W h => by
    have := implExp9_any (some ⟨g5, 0, none⟩) R.length k5 R (now + wtN pr 1) W h WFR.out rfl (by have := hR8.out; omega)
    rw [ea] at this
    exact this
  have H5 : Hid (∀ W, Rw FlR 9 W (some ⟨g5, 0, none⟩) R → Calls Try.prog 17 #[.slice (some ⟨g5, 0, none⟩) R.length k5, .int .i64 (now + wtN pr 1 - 1)] W fun e w' => ∃ v, e = .returned (.tuple #[v, .int .i64 0]) ∧ OwnS wvG 9 28 w' W.heap.size v (exL R (now + wtN pr 1 - 1)) ∧ Below W.heap.size W w') := fun W h => by
    have := implExp9_any (some ⟨g5, 0, none⟩) R.length k5 R (now + wtN pr 1 - 1) W h WFR.out rfl (by have := hR8.out; omega)
    rw [fa] at this
    exact this
  have H6 : Hid (∀ W, Rw FlR 9 W (some ⟨g5, 0, none⟩) R → Calls Try.prog 18 #[.slice (some ⟨g5, 0, none⟩) R.length k5, .int .i64 ow] W fun e w' => ∃ v, e = .returned (.tuple #[v, .int .i64 0]) ∧ OwnS wvG 9 28 w' W.heap.size v (dpL R ow) ∧ Below W.heap.size W w') := fun W h => by
    have := implDrop9_any (some ⟨g5, 0, none⟩) R.length k5 R ow W h WFR.out rfl (by have := hR8.out; omega)
    rw [da] at this
    exact this
  generalize exL R (now + wtN pr 1) = L1 at H4 eb ec
  generalize exL R (now + wtN pr 1 - 1) = L2 at H5 fb fc
  generalize dpL R ow = L3 at H6 db dc
  have F1 : Hid (foB L1 = true) := eb
  have F2 : Hid (foB L2 = true) := fb
  have F3 : Hid (foB L3 = true ∧ ∀ x, x ∈ L3 → (x.ow == ow) = false) := ⟨db, dc⟩
  have H7 : Hid (∀ W s k, Rw FlR 9 W s L1 → Calls Try.prog 15 #[.slice s L1.length k, .int .i64 pr, .int .i64 si, .int .i64 sp, .int .i64 di, .int .i64 dp] W fun e w' => ∃ z zb, e = .returned (.tuple #[.int .i64 z, .bool zb, .int .i64 5]) ∧ Below W.heap.size W w') := fun W s k h => by
    have := implFind_any s L1.length k L1 pr si sp di dp W h (foB_wf F1.out) rfl (by have := foB_len F1.out; omega) EO.out
    rw [ec] at this
    exact this.mono fun e w' ⟨h1, h2⟩ => ⟨_, _, h1, h2⟩
  have H8 : Hid (∀ W s k, Rw FlR 9 W s L2 → Calls Try.prog 15 #[.slice s L2.length k, .int .i64 pr, .int .i64 si, .int .i64 sp, .int .i64 di, .int .i64 dp] W fun e w' => ∃ z zb, e = .returned (.tuple #[.int .i64 z, .bool zb, .int .i64 0]) ∧ Below W.heap.size W w') := fun W s k h => by
    have := implFind_any s L2.length k L2 pr si sp di dp W h (foB_wf F2.out) rfl (by have := foB_len F2.out; omega) EO.out
    rw [fc] at this
    exact this.mono fun e w' ⟨h1, h2⟩ => ⟨_, _, h1, h2⟩
  clear ka kb kc ma mb mc' op9 ea eb ec fa fb fc da db dc FBR FB
  generalize wtN pr 1 = wn at HW H4 H5 hwb
  have hkk : (((fs.length : Nat) : Int) != ((fs.length : Nat) : Int)) = false := by simp
  go_wp2_with fail
  refine (H1.out _ (X8.out.2.1.rw wvG_len WFR.out)).mono ?_
  rintro e w9 ⟨rfl, bb⟩
  have X9 : Hid (OwnS wvG 9 28 w9 w.heap.size (.slice (some ⟨gg, 0, none⟩) fs.length c) fs ∧ OwnS wvG 9 28 w9 w.heap.size (.slice (some ⟨g5, 0, none⟩) R.length k5) R ∧ Below w.heap.size w w9) := ⟨X8.out.1.now bb, X8.out.2.1.now bb, X8.out.2.2.trans (bb.mono X8.out.2.2.size)⟩
  replace c0 := bkeep bb c0
  replace c1 := bkeep bb c1
  replace n0 := bkeep bb n0
  replace n1 := bkeep bb n1
  replace n2 := bkeep bb n2
  replace n3 := bkeep bb n3
  replace n4 := bkeep bb n4
  replace n5 := bkeep bb n5
  replace n6 := bkeep bb n6
  replace n7 := bkeep bb n7
  replace n8 := bkeep bb n8
  clear bb X8
  go_wp2_with fail
  refine (H2.out _ (X9.out.2.1.rw wvG_len WFR.out)).mono ?_
  rintro e w10 ⟨rfl, bb⟩
  have X10 : Hid (OwnS wvG 9 28 w10 w.heap.size (.slice (some ⟨gg, 0, none⟩) fs.length c) fs ∧ OwnS wvG 9 28 w10 w.heap.size (.slice (some ⟨g5, 0, none⟩) R.length k5) R ∧ Below w.heap.size w w10) := ⟨X9.out.1.now bb, X9.out.2.1.now bb, X9.out.2.2.trans (bb.mono X9.out.2.2.size)⟩
  replace c0 := bkeep bb c0
  replace c1 := bkeep bb c1
  replace n0 := bkeep bb n0
  replace n1 := bkeep bb n1
  replace n2 := bkeep bb n2
  replace n3 := bkeep bb n3
  replace n4 := bkeep bb n4
  replace n5 := bkeep bb n5
  replace n6 := bkeep bb n6
  replace n7 := bkeep bb n7
  replace n8 := bkeep bb n8
  clear bb X9
  go_wp2_with fail
  refine (H3.out _ (X10.out.2.1.rw wvG_len WFR.out)).mono ?_
  rintro e w11 ⟨v11, rfl, bb⟩
  have X11 : Hid (OwnS wvG 9 28 w11 w.heap.size (.slice (some ⟨gg, 0, none⟩) fs.length c) fs ∧ OwnS wvG 9 28 w11 w.heap.size (.slice (some ⟨g5, 0, none⟩) R.length k5) R ∧ Below w.heap.size w w11) := ⟨X10.out.1.now bb, X10.out.2.1.now bb, X10.out.2.2.trans (bb.mono X10.out.2.2.size)⟩
  replace c0 := bkeep bb c0
  replace c1 := bkeep bb c1
  replace n0 := bkeep bb n0
  replace n1 := bkeep bb n1
  replace n2 := bkeep bb n2
  replace n3 := bkeep bb n3
  replace n4 := bkeep bb n4
  replace n5 := bkeep bb n5
  replace n6 := bkeep bb n6
  replace n7 := bkeep bb n7
  replace n8 := bkeep bb n8
  clear bb X10
  go_wp2_with fail
  refine (HW.out _).mono ?_
  rintro e w12 ⟨rfl, rfl⟩
  have X12 := X11
  clear X11
  go_wp2_with fail
  refine (H4.out _ (X12.out.2.1.rw wvG_len WFR.out)).mono ?_
  rintro e w13 ⟨v13, rfl, oo, bb⟩
  obtain ⟨s13, k13, hv, -⟩ := oo.slice
  subst hv
  have X13 : Hid (OwnS wvG 9 28 w13 w.heap.size (.slice (some ⟨gg, 0, none⟩) fs.length c) fs ∧ OwnS wvG 9 28 w13 w.heap.size (.slice (some ⟨g5, 0, none⟩) R.length k5) R ∧ OwnS wvG 9 28 w13 w.heap.size (.slice s13 L1.length k13) L1 ∧ Below w.heap.size w w13) := ⟨X12.out.1.now bb, X12.out.2.1.now bb, oo.lower X12.out.2.2.size, X12.out.2.2.trans (bb.mono X12.out.2.2.size)⟩
  replace c0 := bkeep bb c0
  replace c1 := bkeep bb c1
  replace n0 := bkeep bb n0
  replace n1 := bkeep bb n1
  replace n2 := bkeep bb n2
  replace n3 := bkeep bb n3
  replace n4 := bkeep bb n4
  replace n5 := bkeep bb n5
  replace n6 := bkeep bb n6
  replace n7 := bkeep bb n7
  replace n8 := bkeep bb n8
  clear bb X12 oo
  go_wp2_with fail
  refine (H5.out _ (X13.out.2.1.rw wvG_len WFR.out)).mono ?_
  rintro e w14 ⟨v14, rfl, oo, bb⟩
  obtain ⟨s14, k14, hv, -⟩ := oo.slice
  subst hv
  have X14 : Hid (OwnS wvG 9 28 w14 w.heap.size (.slice (some ⟨gg, 0, none⟩) fs.length c) fs ∧ OwnS wvG 9 28 w14 w.heap.size (.slice (some ⟨g5, 0, none⟩) R.length k5) R ∧ OwnS wvG 9 28 w14 w.heap.size (.slice s13 L1.length k13) L1 ∧ OwnS wvG 9 28 w14 w.heap.size (.slice s14 L2.length k14) L2 ∧ Below w.heap.size w w14) := ⟨X13.out.1.now bb, X13.out.2.1.now bb, X13.out.2.2.1.now bb, oo.lower X13.out.2.2.2.size, X13.out.2.2.2.trans (bb.mono X13.out.2.2.2.size)⟩
  replace c0 := bkeep bb c0
  replace c1 := bkeep bb c1
  replace n0 := bkeep bb n0
  replace n1 := bkeep bb n1
  replace n2 := bkeep bb n2
  replace n3 := bkeep bb n3
  replace n4 := bkeep bb n4
  replace n5 := bkeep bb n5
  replace n6 := bkeep bb n6
  replace n7 := bkeep bb n7
  replace n8 := bkeep bb n8
  clear bb X13 oo
  go_wp2_with fail
  refine (H6.out _ (X14.out.2.1.rw wvG_len WFR.out)).mono ?_
  rintro e w15 ⟨v15, rfl, oo, bb⟩
  obtain ⟨s15, k15, hv, -⟩ := oo.slice
  subst hv
  have X15 : Hid (OwnS wvG 9 28 w15 w.heap.size (.slice (some ⟨gg, 0, none⟩) fs.length c) fs ∧ OwnS wvG 9 28 w15 w.heap.size (.slice (some ⟨g5, 0, none⟩) R.length k5) R ∧ OwnS wvG 9 28 w15 w.heap.size (.slice s13 L1.length k13) L1 ∧ OwnS wvG 9 28 w15 w.heap.size (.slice s14 L2.length k14) L2 ∧ OwnS wvG 9 28 w15 w.heap.size (.slice s15 L3.length k15) L3 ∧ Below w.heap.size w w15) := ⟨X14.out.1.now bb, X14.out.2.1.now bb, X14.out.2.2.1.now bb, X14.out.2.2.2.1.now bb, oo.lower X14.out.2.2.2.2.size, X14.out.2.2.2.2.trans (bb.mono X14.out.2.2.2.2.size)⟩
  replace c0 := bkeep bb c0
  replace c1 := bkeep bb c1
  replace n0 := bkeep bb n0
  replace n1 := bkeep bb n1
  replace n2 := bkeep bb n2
  replace n3 := bkeep bb n3
  replace n4 := bkeep bb n4
  replace n5 := bkeep bb n5
  replace n6 := bkeep bb n6
  replace n7 := bkeep bb n7
  replace n8 := bkeep bb n8
  clear bb X14 oo
  go_wp2_with fail
  refine (H7.out _ _ _ (X15.out.2.2.1.rw wvG_len (foB_wf F1.out))).mono ?_
  rintro e w16 ⟨z1, zb1, rfl, bb⟩
  have X16 : Hid (OwnS wvG 9 28 w16 w.heap.size (.slice (some ⟨gg, 0, none⟩) fs.length c) fs ∧ OwnS wvG 9 28 w16 w.heap.size (.slice (some ⟨g5, 0, none⟩) R.length k5) R ∧ OwnS wvG 9 28 w16 w.heap.size (.slice s13 L1.length k13) L1 ∧ OwnS wvG 9 28 w16 w.heap.size (.slice s14 L2.length k14) L2 ∧ OwnS wvG 9 28 w16 w.heap.size (.slice s15 L3.length k15) L3 ∧ Below w.heap.size w w16) := ⟨X15.out.1.now bb, X15.out.2.1.now bb, X15.out.2.2.1.now bb, X15.out.2.2.2.1.now bb, X15.out.2.2.2.2.1.now bb, X15.out.2.2.2.2.2.trans (bb.mono X15.out.2.2.2.2.2.size)⟩
  replace c0 := bkeep bb c0
  replace c1 := bkeep bb c1
  replace n0 := bkeep bb n0
  replace n1 := bkeep bb n1
  replace n2 := bkeep bb n2
  replace n3 := bkeep bb n3
  replace n4 := bkeep bb n4
  replace n5 := bkeep bb n5
  replace n6 := bkeep bb n6
  replace n7 := bkeep bb n7
  replace n8 := bkeep bb n8
  clear bb X15
  go_wp2_with fail
  refine (H8.out _ _ _ (X16.out.2.2.2.1.rw wvG_len (foB_wf F2.out))).mono ?_
  rintro e w17 ⟨z2, zb2, rfl, bb⟩
  have X17 : Hid (OwnS wvG 9 28 w17 w.heap.size (.slice (some ⟨gg, 0, none⟩) fs.length c) fs ∧ OwnS wvG 9 28 w17 w.heap.size (.slice (some ⟨g5, 0, none⟩) R.length k5) R ∧ OwnS wvG 9 28 w17 w.heap.size (.slice s13 L1.length k13) L1 ∧ OwnS wvG 9 28 w17 w.heap.size (.slice s14 L2.length k14) L2 ∧ OwnS wvG 9 28 w17 w.heap.size (.slice s15 L3.length k15) L3 ∧ Below w.heap.size w w17) := ⟨X16.out.1.now bb, X16.out.2.1.now bb, X16.out.2.2.1.now bb, X16.out.2.2.2.1.now bb, X16.out.2.2.2.2.1.now bb, X16.out.2.2.2.2.2.trans (bb.mono X16.out.2.2.2.2.2.size)⟩
  replace c0 := bkeep bb c0
  replace c1 := bkeep bb c1
  replace n0 := bkeep bb n0
  replace n1 := bkeep bb n1
  replace n2 := bkeep bb n2
  replace n3 := bkeep bb n3
  replace n4 := bkeep bb n4
  replace n5 := bkeep bb n5
  replace n6 := bkeep bb n6
  replace n7 := bkeep bb n7
  replace n8 := bkeep bb n8
  clear bb X16
  have h38 := foB_len F3.out.1
  have hmix : Try.prog.follows .mixedOrders = true := by kernel_rfl
  go_wp2
  go_loopw [33] (fun i wr => ∃ k : Nat, k ≤ L3.length ∧ i = .int .i64 k ∧ Hid (Grw w17 wr)) (fun i _ => L3.length - (intOf i).toNat)
  case atStart => exact ⟨0, Nat.zero_le _, rfl, Grw.refl w17⟩
  case round =>
    obtain ⟨k, hk, rfl, HG⟩ := hrel
    by_cases hlt : k < L3.length
    · obtain ⟨x, hx⟩ := at_of (xs := L3) rfl hlt
      obtain ⟨g9, hg9, -⟩ := X17.out.2.2.2.2.1.form (by omega)
      subst hg9
      obtain ⟨q8, -⟩ := X17.out.2.2.2.2.1.cell wvG_len (j := 8) hx rfl
      have hne : (x.ow == ow) = false := F3.out.2 x (List.mem_of_getElem? hx)
      have hltz : (k : Int) < (L3.length : Int) := by omega
      have qq : ∀ n os, (grow (wr.drewN n) os).cell? ⟨g9, k * 9 + 8, none⟩ = some (.int .i64 x.ow) := fun n os => (HG.out.trans ⟨n, os, rfl⟩).keep q8
      have rr : ∀ n os, (grow (wr.drewN n) os).cell? ⟨w2.heap.size, 8, none⟩ = some (.int .i64 ow) := fun n os => (HG.out.trans ⟨n, os, rfl⟩).keep n8
      have hkz : (0 : Int) ≤ (k : Int) := by omega
      clear hx q8 n8
      go_wp2_with fail
      refine wp_region_quiet_grown (by assumption) (by kernel_rfl) ?_
      repeat (go_big_quiet_step (first | fail | fail))
      refine wpQuiet_nil ?_
      intro _ hw'
      obtain ⟨⟨nq, osq⟩, hw''⟩ := hw'
      subst hw''
      have HG2 : Hid (Grw w17 (grow (wr.drewN nq) osq)) := HG.out.trans ⟨nq, osq, rfl⟩
      clear qq rr HG
      go_wp2
      go_roundw
      case rel => exact ⟨k + 1, by omega, by go_num, HG2⟩
      case measure => simp [intOf]; omega
    · obtain rfl : k = L3.length := by omega
      go_wp2
      go_ret
      exact ⟨rfl, X17.out.2.2.2.2.2.trans (HG.out.below.mono X17.out.2.2.2.2.2.size)⟩
theorem lawFlows_skip (a b : Option Addr) (la ca lb cb : Nat) (w : World) (h : 1048576 < la ∨ 1048576 < lb) :
    Calls Try.prog 3 #[.slice a la ca, .slice b lb cb] w fun e w' => e = .returned (.bool true) ∧ Below w.heap.size w w' := by
  by_cases h1 : 1048576 < la
  · go_enter Try.func3, Try.ntmps3
    go_wp2
    go_ret
    exact ⟨rfl, Below.refl _ _⟩
  · have h2 : 1048576 < lb := by omega
    go_enter Try.func3, Try.ntmps3
    go_wp2
    go_ret
    exact ⟨rfl, Below.refl _ _⟩
end Go.Proofs.Ythokaemeadhkjaa
