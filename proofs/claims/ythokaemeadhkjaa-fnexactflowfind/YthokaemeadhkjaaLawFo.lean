/- The walks of laws.FnExactFlowsOK, FnExactFlowFind. -/
import Derived.Test.YthokaemeadhkjaaFloT
namespace Go.Proofs.Ythokaemeadhkjaa
open Go.RowKit Go.PlainAid Go.Proofs.Ythokaemeadhkjaa.Bt Go.Sort
set_option linter.unusedVariables false
set_option maxRecDepth 20000
set_option maxHeartbeats 4000000 in
theorem lawFlowsOK_any (a : Option Addr) (len cap : Nat) (fs : List FlowV)  (w : World) (h : Rw FlR 9 w a fs) (hl : fs.length = len) (hm : len ≤ maxLen) :
    Calls Try.prog 5 #[.slice a len cap] w fun e w' => e = .returned (.bool true) ∧ Below w.heap.size w w' := by
  unfold maxLen at hm
  have RW : Hid (Rw FlR 9 w a fs) := h
  have HZ : Hid (Calls Try.prog 22 #[.slice a len cap, .int .i64 1048576] w fun e w' => ∃ r : Int, e = .returned (.int .i64 r) ∧ (0 ≤ r → (len : Int) ≤ 1048576 ∧ r ≤ 1048576 ∧ ∀ x, x ∈ fs → (x.mc.size : Int) ≤ 1048576) ∧ -1 ≤ r ∧ r ≤ 1048576 ∧ Grw w w') := szFlowS_any a len cap fs 1048576 w h hl (by omega) (by omega) (by omega)
  have HK : Hid (∀ x, x ∈ fs → FlRok x) := by
    intro x hx
    obtain ⟨i, hi⟩ := List.getElem?_of_mem hx
    obtain ⟨b, off, vs, _, _, _, h2, _⟩ := h.at FR.kp (Below.refl _ _) hi
    exact h2.2
  clear h
  go_enter Try.func5, Try.ntmps5
  go_wp2_with fail
  refine HZ.out.mono ?_
  rintro e w1 ⟨r, rfl, hr, hr1, hr2, g1⟩
  have B1 : Hid (Below w.heap.size w w1) := g1.below
  clear g1
  by_cases hr0 : r < 0
  · go_wp2
    go_ret
    exact ⟨rfl, B1.out⟩
  have hlen := (hr (by omega)).1
  clear hr HZ
  have HT : Hid (∀ w, Rw FlR 9 w a fs → Calls Try.prog 24 #[.slice a len cap] w fun e w' => e = .returned (.slice (some ⟨w.heap.size, 0, none⟩) len len) ∧ Rw FlR 9 w' (some ⟨w.heap.size, 0, none⟩) fs ∧ Below w.heap.size w w') := fun w h => (toFlowS_any a len cap fs w h hl (by omega)).mono fun e w' h => ⟨h.1, h.2.1.rw wvG_len h.2.2.1, h.2.2.2⟩
  have HS : Hid (∀ w a, Rw FlR 9 w a fs → Calls Try.prog 23 #[.slice a len len] w fun e w' => e = .returned (.bool (foB fs)) ∧ Below w.heap.size w w') := fun w a h => (specFlowsOK_any a len len fs w h hl (by omega)).mono fun e w' h => ⟨h.1, h.2.below⟩
  have HI : Hid (∀ w a, Rw FlR 9 w a fs → Calls Try.prog 14 #[.slice a len len] w fun e w' => e = .returned (.bool (foB fs)) ∧ Below w.heap.size w w') := fun w a h => implFlowsOK_any a len len fs w h HK.out hl (by omega)
  have HE : Hid (∀ (a a' : Option Addr) w, Rw FlR 9 w a fs → Rw FlR 9 w a' fs → Calls Try.prog 25 #[.slice a len len, .slice a' len len] w fun e w' => e = .returned (.bool true) ∧ Grw w w') := fun a a' w h h' => eqFlowS_yes a a' len len len fs w h h' hl (by omega)
  generalize foB fs = z at HS HI
  have hzz : (z != z) = false := by simp
  have hzz2 : (z == z) = true := by simp
  go_wp2_with fail
  refine (HT.out _ (RW.out.keep FR.kp B1.out)).mono ?_
  rintro e w2 ⟨rfl, r2, b2⟩
  have B2 : Hid (Below w.heap.size w w2) := B1.out.trans (b2.mono B1.out.size)
  have R2 : Hid (Rw FlR 9 w2 (some ⟨w1.heap.size, 0, none⟩) fs) := r2
  clear r2 b2 B1
  go_wp2_with fail
  refine (HS.out _ _ R2.out).mono ?_
  rintro e w3 ⟨rfl, b3⟩
  have B3 : Hid (Below w.heap.size w w3) := B2.out.trans (b3.mono B2.out.size)
  clear b3 B2 R2
  go_wp2_with fail
  refine (HT.out _ (RW.out.keep FR.kp B3.out)).mono ?_
  rintro e w4 ⟨rfl, r4, b4⟩
  have B4 : Hid (Below w.heap.size w w4) := B3.out.trans (b4.mono B3.out.size)
  have R4 : Hid (Rw FlR 9 w4 (some ⟨w3.heap.size, 0, none⟩) fs) := r4
  clear r4 b4 B3
  go_wp2_with fail
  refine (HI.out _ _ R4.out).mono ?_
  rintro e w5 ⟨rfl, b5⟩
  have B5 : Hid (Below w.heap.size w w5) := B4.out.trans (b5.mono B4.out.size)
  have R5 : Hid (Rw FlR 9 w5 (some ⟨w3.heap.size, 0, none⟩) fs) := R4.out.keep FR.kp b5
  clear b5 B4 R4
  go_wp2_with fail
  refine (HT.out _ (RW.out.keep FR.kp B5.out)).mono ?_
  rintro e w6 ⟨rfl, r6, b6⟩
  have B6 : Hid (Below w.heap.size w w6) := B5.out.trans (b6.mono B5.out.size)
  have R6 : Hid (Rw FlR 9 w6 (some ⟨w3.heap.size, 0, none⟩) fs ∧ Rw FlR 9 w6 (some ⟨w5.heap.size, 0, none⟩) fs) := ⟨R5.out.keep FR.kp b6, r6⟩
  clear r6 b6 B5 R5
  go_wp2_with fail
  refine (HE.out _ _ _ R6.out.1 R6.out.2).mono ?_
  rintro e w7 ⟨rfl, g7⟩
  have B7 : Hid (Below w.heap.size w w7) := B6.out.trans (g7.below.mono B6.out.size)
  clear g7
  go_wp2
  go_ret
  exact ⟨rfl, B7.out⟩
set_option maxHeartbeats 4000000 in
theorem lawFlowFind_any (a : Option Addr) (len cap : Nat) (fs : List FlowV) (pr si sp di dp : Int) (w : World) (h : Rw FlR 9 w a fs) (hl : fs.length = len) (hm : len ≤ maxLen) (he : EnOk ⟨pr, si, sp, di, dp⟩) :
    Calls Try.prog 6 #[.slice a len cap, .int .i64 pr, .int .i64 si, .int .i64 sp, .int .i64 di, .int .i64 dp] w fun e w' => e = .returned (.bool true) ∧ Below w.heap.size w w' := by
  unfold maxLen at hm
  have RW : Hid (Rw FlR 9 w a fs) := h
  have HZ : Hid (Calls Try.prog 22 #[.slice a len cap, .int .i64 1048576] w fun e w' => ∃ r : Int, e = .returned (.int .i64 r) ∧ (0 ≤ r → (len : Int) ≤ 1048576 ∧ r ≤ 1048576 ∧ ∀ x, x ∈ fs → (x.mc.size : Int) ≤ 1048576) ∧ -1 ≤ r ∧ r ≤ 1048576 ∧ Grw w w') := szFlowS_any a len cap fs 1048576 w h hl (by omega) (by omega) (by omega)
  have HK : Hid (∀ x, x ∈ fs → FlRok x) := by
    intro x hx
    obtain ⟨i, hi⟩ := List.getElem?_of_mem hx
    obtain ⟨b, off, vs, _, _, _, h2, _⟩ := h.at FR.kp (Below.refl _ _) hi
    exact h2.2
  clear h
  go_enter Try.func6, Try.ntmps6
  go_wp2_with fail
  refine HZ.out.mono ?_
  rintro e w1 ⟨r, rfl, hr, hr1, hr2, g1⟩
  have B1 : Hid (Below w.heap.size w w1) := g1.below
  clear g1
  by_cases hr0 : r < 0
  · go_wp2
    go_ret
    exact ⟨rfl, B1.out⟩
  have hlen := (hr (by omega)).1
  clear hr HZ
  have HT : Hid (∀ w, Rw FlR 9 w a fs → Calls Try.prog 24 #[.slice a len cap] w fun e w' => e = .returned (.slice (some ⟨w.heap.size, 0, none⟩) len len) ∧ Rw FlR 9 w' (some ⟨w.heap.size, 0, none⟩) fs ∧ Below w.heap.size w w') := fun w h => (toFlowS_any a len cap fs w h hl (by omega)).mono fun e w' h => ⟨h.1, h.2.1.rw wvG_len h.2.2.1, h.2.2.2⟩
  have HS : Hid (∀ w a, Rw FlR 9 w a fs → Calls Try.prog 26 #[.slice a len len, .int .i64 pr, .int .i64 si, .int .i64 sp, .int .i64 di, .int .i64 dp] w fun e w' => e = .returned (.tuple #[.int .i64 (fdK fs ⟨pr, si, sp, di, dp⟩), .bool (fdB fs ⟨pr, si, sp, di, dp⟩), .int .i64 (fdC fs ⟨pr, si, sp, di, dp⟩)]) ∧ Below w.heap.size w w') := fun w a h => (specFind_any a len len fs pr si sp di dp w h hl (by omega)).mono fun e w' h => ⟨h.1, h.2.below⟩
  have HI : Hid (∀ w a, Rw FlR 9 w a fs → Calls Try.prog 15 #[.slice a len len, .int .i64 pr, .int .i64 si, .int .i64 sp, .int .i64 di, .int .i64 dp] w fun e w' => e = .returned (.tuple #[.int .i64 (fdK fs ⟨pr, si, sp, di, dp⟩), .bool (fdB fs ⟨pr, si, sp, di, dp⟩), .int .i64 (fdC fs ⟨pr, si, sp, di, dp⟩)]) ∧ Below w.heap.size w w') := fun w a h => implFind_any a len len fs pr si sp di dp w h HK.out hl (by omega) he
  have HE : Hid (∀ (a a' : Option Addr) w, Rw FlR 9 w a fs → Rw FlR 9 w a' fs → Calls Try.prog 25 #[.slice a len len, .slice a' len len] w fun e w' => e = .returned (.bool true) ∧ Grw w w') := fun a a' w h h' => eqFlowS_yes a a' len len len fs w h h' hl (by omega)
  generalize fdK fs ⟨pr, si, sp, di, dp⟩ = z0 at HS HI
  generalize fdB fs ⟨pr, si, sp, di, dp⟩ = z1 at HS HI
  generalize fdC fs ⟨pr, si, sp, di, dp⟩ = z2 at HS HI
  have h0 : (z0 != z0) = false := by simp
  have h1 : (z1 != z1) = false := by simp
  have h1b : (z1 == z1) = true := by simp
  have h2 : (z2 != z2) = false := by simp
  go_wp2_with fail
  refine (HT.out _ (RW.out.keep FR.kp B1.out)).mono ?_
  rintro e w2 ⟨rfl, r2, b2⟩
  have B2 : Hid (Below w.heap.size w w2) := B1.out.trans (b2.mono B1.out.size)
  have R2 : Hid (Rw FlR 9 w2 (some ⟨w1.heap.size, 0, none⟩) fs) := r2
  clear r2 b2 B1
  go_wp2_with fail
  refine (HS.out _ _ R2.out).mono ?_
  rintro e w3 ⟨rfl, b3⟩
  have B3 : Hid (Below w.heap.size w w3) := B2.out.trans (b3.mono B2.out.size)
  clear b3 B2 R2
  go_wp2_with fail
  refine (HT.out _ (RW.out.keep FR.kp B3.out)).mono ?_
  rintro e w4 ⟨rfl, r4, b4⟩
  have B4 : Hid (Below w.heap.size w w4) := B3.out.trans (b4.mono B3.out.size)
  have R4 : Hid (Rw FlR 9 w4 (some ⟨w3.heap.size, 0, none⟩) fs) := r4
  clear r4 b4 B3
  go_wp2_with fail
  refine (HI.out _ _ R4.out).mono ?_
  rintro e w5 ⟨rfl, b5⟩
  have B5 : Hid (Below w.heap.size w w5) := B4.out.trans (b5.mono B4.out.size)
  have R5 : Hid (Rw FlR 9 w5 (some ⟨w3.heap.size, 0, none⟩) fs) := R4.out.keep FR.kp b5
  clear b5 B4 R4
  go_wp2_with fail
  refine (HT.out _ (RW.out.keep FR.kp B5.out)).mono ?_
  rintro e w6 ⟨rfl, r6, b6⟩
  have B6 : Hid (Below w.heap.size w w6) := B5.out.trans (b6.mono B5.out.size)
  have R6 : Hid (Rw FlR 9 w6 (some ⟨w3.heap.size, 0, none⟩) fs ∧ Rw FlR 9 w6 (some ⟨w5.heap.size, 0, none⟩) fs) := ⟨R5.out.keep FR.kp b6, r6⟩
  clear r6 b6 B5 R5
  go_wp2_with fail
  refine (HE.out _ _ _ R6.out.1 R6.out.2).mono ?_
  rintro e w7 ⟨rfl, g7⟩
  have B7 : Hid (Below w.heap.size w w7) := B6.out.trans (g7.below.mono B6.out.size)
  clear g7
  go_wp2
  go_ret
  exact ⟨rfl, B7.out⟩
end Go.Proofs.Ythokaemeadhkjaa
