/- The model's FlowPass. -/
import Derived.Test.YthokaemeadhkjaaFloG
namespace Go.Proofs.Ythokaemeadhkjaa
open Go.RowKit Go.PlainAid Go.Proofs.Ythokaemeadhkjaa.Bt Go.Sort
set_option linter.unusedVariables false
set_option maxRecDepth 20000

set_option maxHeartbeats 4000000 in
theorem specPass_any (b off len cap : Nat) (fs : List FlowV) (k : Int) (back : Bool) (flags now : Int) (w : World) (h : Rw FlR 9 w (some ⟨b, off, none⟩) fs) (hl : fs.length = len) (hm : len ≤ 1048576) (hc : len ≤ cap) :
    Calls Try.prog 21 #[.slice (some ⟨b, off, none⟩) len cap, .int .i64 k, .bool back, .int .i64 flags, .int .i64 now] w fun e w' => ∃ v, e = .returned (.tuple #[v, .int .i64 (paC fs k flags now)]) ∧ OwnS wvG 9 28 w' w.heap.size v (paL fs k back flags now) ∧ Below w.heap.size w w' := by
  have RW : Hid (Rw FlR 9 w (some ⟨b, off, none⟩) fs) := h
  have HF : Hid (Calls Try.prog 23 #[.slice (some ⟨b, off, none⟩) len cap] w fun e w' => e = .returned (.bool (foB fs)) ∧ Grw w w') := specFlowsOK_any _ len cap fs w h hl hm
  rcases ff_cases fs with ⟨h4, hf⟩ | ⟨h4, hq, hf⟩ | ⟨h4, hq, hf⟩
  · have e1 : paC fs k flags now = 2 := by unfold paC; rw [if_pos (by rw [hf]; decide), hf]
    have e2 : paL fs k back flags now = [] := by unfold paL; rw [if_pos (by rw [e1]; decide)]
    rw [e1, e2]
    have hz : (4096 : Int) < (len : Int) := by omega
    clear e1 e2 h HF
    go_enter Try.func21, Try.ntmps21
    go_wp2
    go_ret2
    exact ⟨_, rfl, OwnS.lit w _ (Nat.le_refl _), (Below.refl _ _).alloc (Nat.le_refl _) _⟩
  · have e1 : paC fs k flags now = 1 := by unfold paC; rw [if_pos (by rw [hf]; decide), hf]
    have e2 : paL fs k back flags now = [] := by unfold paL; rw [if_pos (by rw [e1]; decide)]
    rw [e1, e2]
    rw [hq] at HF
    have hz : decide ((4096 : Int) < (len : Int)) = false := by simp; omega
    clear e1 e2 h hq
    go_enter Try.func21, Try.ntmps21
    go_wp2_with fail
    refine HF.out.mono ?_
    rintro e w2 ⟨rfl, g2⟩
    have G2 : Hid (Grw w w2) := g2
    clear g2
    go_wp2
    go_ret2
    exact ⟨_, rfl, OwnS.lit _ _ G2.out.below.size, (G2.out.alloc _).below⟩
  have h8 := (ff_zero hf).2
  have hz : decide ((4096 : Int) < (len : Int)) = false := by simp; omega
  have E1 : paC fs k flags now = if pcB fs.length k flags now = false then 4 else 0 := if_neg (by simp [hf])
  rw [hq] at HF
  rw [hl] at E1
  have T1 : Hid (∀ w, Calls Try.prog 43 #[.int .i64 k, .int .i64 0, .int .i64 ((len : Int) - 1)] w fun e w' => e = .returned (.bool (dec (0 ≤ k ∧ k ≤ (len : Int) - 1))) ∧ w' = w) := fun w => specIn_any k 0 ((len : Int) - 1) w
  have T2 : Hid (∀ w, Calls Try.prog 43 #[.int .i64 flags, .int .i64 0, .int .i64 31] w fun e w' => e = .returned (.bool (dec (0 ≤ flags ∧ flags ≤ 31))) ∧ w' = w) := fun w => specIn_any flags 0 31 w
  have T3 : Hid (∀ w, Calls Try.prog 43 #[.int .i64 now, .int .i64 0, .int .i64 100000] w fun e w' => e = .returned (.bool (dec (0 ≤ now ∧ now ≤ 100000))) ∧ w' = w) := fun w => specIn_any now 0 100000 w
  have EP : pcB len k flags now = (dec (0 ≤ k ∧ k ≤ (len : Int) - 1) && (dec (0 ≤ flags ∧ flags ≤ 31) && dec (0 ≤ now ∧ now ≤ 100000))) := rfl
  by_cases hp : pcB len k flags now = true
  rotate_left
  · replace hp : pcB len k flags now = false := by simpa using hp
    rw [if_pos hp] at E1
    have E2 : paL fs k back flags now = [] := by unfold paL; rw [if_pos (by rw [E1]; decide)]
    rw [E1, E2]
    rw [hp] at EP
    clear E1 E2 hp h hf hq
    generalize dec (0 ≤ k ∧ k ≤ (len : Int) - 1) = t1 at T1 EP
    generalize dec (0 ≤ flags ∧ flags ≤ 31) = t2 at T2 EP
    generalize dec (0 ≤ now ∧ now ≤ 100000) = t3 at T3 EP
    cases t1 with
    | false =>
      clear EP
      go_enter Try.func21, Try.ntmps21
      go_wp2_with fail
      refine HF.out.mono ?_
      rintro e w2 ⟨rfl, g2⟩
      have G2 : Hid (Grw w w2) := g2
      clear g2
      go_wp2_with fail
      refine (T1.out _).mono ?_
      rintro e w9 ⟨rfl, rfl⟩
      go_wp2
      go_ret2
      exact ⟨_, rfl, OwnS.lit _ _ G2.out.below.size, (G2.out.alloc _).below⟩
    | true =>
      cases t2 with
      | false =>
        clear EP
        go_enter Try.func21, Try.ntmps21
        go_wp2_with fail
        refine HF.out.mono ?_
        rintro e w2 ⟨rfl, g2⟩
        have G2 : Hid (Grw w w2) := g2
        clear g2
        go_wp2_with fail
        refine (T1.out _).mono ?_
        rintro e w9 ⟨rfl, rfl⟩
        go_wp2_with fail
        refine (T2.out _).mono ?_
        rintro e w9 ⟨rfl, rfl⟩
        go_wp2
        go_ret2
        exact ⟨_, rfl, OwnS.lit _ _ G2.out.below.size, (G2.out.alloc _).below⟩
      | true =>
        obtain rfl : t3 = false := by simpa using EP.symm
        clear EP
        go_enter Try.func21, Try.ntmps21
        go_wp2_with fail
        refine HF.out.mono ?_
        rintro e w2 ⟨rfl, g2⟩
        have G2 : Hid (Grw w w2) := g2
        clear g2
        go_wp2_with fail
        refine (T1.out _).mono ?_
        rintro e w9 ⟨rfl, rfl⟩
        go_wp2_with fail
        refine (T2.out _).mono ?_
        rintro e w9 ⟨rfl, rfl⟩
        go_wp2_with fail
        refine (T3.out _).mono ?_
        rintro e w9 ⟨rfl, rfl⟩
        go_wp2
        go_ret2
        exact ⟨_, rfl, OwnS.lit _ _ G2.out.below.size, (G2.out.alloc _).below⟩
  rw [if_neg (by simp [hp])] at E1
  obtain ⟨hk, hfl, hn⟩ := pc_says hp
  rw [dec_y hk] at T1
  rw [dec_y hfl] at T2
  rw [dec_y hn] at T3
  obtain ⟨kn, rfl⟩ : ∃ kn : Nat, k = (kn : Int) := ⟨k.toNat, by omega⟩
  obtain ⟨x, hx⟩ := at_of (k := kn) hl (by omega)
  have E2 : paL fs (kn : Int) back flags now = if x.pr = 6 ∧ (bits BinOp.and IntKind.i64 flags 4 != 0) = true then fs.eraseIdx kn else fs.set kn (paF x back flags now) := by
    unfold paL
    rw [if_neg (by simp [E1]), Int.toNat_natCast, hx]
  have HL : Hid (∀ w, Rw FlR 9 w (some ⟨b, off, none⟩) fs → Calls Try.prog 58 #[.slice (some ⟨b, off, none⟩) len cap, .int .i64 (kn : Int), .bool back, .int .i64 flags, .int .i64 now] w fun e w' => ∃ v, e = .returned v ∧ OwnS wvG 9 28 w' w.heap.size v (if x.pr = 6 ∧ (bits BinOp.and IntKind.i64 flags 4 != 0) = true then fs.eraseIdx kn else fs.set kn (paF x back flags now)) ∧ Below w.heap.size w w') := fun w h => l09Pass_any b off len cap fs kn back flags now x.pr x.mc x.si x.sp x.di x.dp x.st x.un x.ow w h hl (by omega) hc hx hn
  rw [E1, E2]
  clear E1 E2 h hf hq hp EP hx
  generalize (if x.pr = 6 ∧ (bits BinOp.and IntKind.i64 flags 4 != 0) = true then fs.eraseIdx kn else fs.set kn (paF x back flags now)) = y2 at HL ⊢
  go_enter Try.func21, Try.ntmps21
  go_wp2_with fail
  refine HF.out.mono ?_
  rintro e w2 ⟨rfl, g2⟩
  have G2 : Hid (Grw w w2) := g2
  clear g2
  go_wp2_with fail
  refine (T1.out _).mono ?_
  rintro e w9 ⟨rfl, rfl⟩
  go_wp2_with fail
  refine (T2.out _).mono ?_
  rintro e w9 ⟨rfl, rfl⟩
  go_wp2_with fail
  refine (T3.out _).mono ?_
  rintro e w9 ⟨rfl, rfl⟩
  go_wp2_with fail
  refine (HL.out _ (RW.out.keep FR.kp G2.out.below)).mono ?_
  rintro e w3 ⟨v3, rfl, o3, g3⟩
  have G3 : Hid (OwnS wvG 9 28 w3 w.heap.size v3 y2 ∧ Below w.heap.size w w3) := ⟨o3.lower G2.out.below.size, G2.out.below.trans (g3.mono G2.out.below.size)⟩
  clear o3 g3
  go_wp2
  go_ret2
  exact ⟨_, rfl, G3.out.1, G3.out.2⟩
end Go.Proofs.Ythokaemeadhkjaa
