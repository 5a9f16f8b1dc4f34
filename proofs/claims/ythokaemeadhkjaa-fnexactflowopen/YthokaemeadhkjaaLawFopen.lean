/- The walk of laws.FnExactFlowOpen: true at every list of flows. -/
import Derived.Test.YthokaemeadhkjaaFloN
import Derived.Test.YthokaemeadhkjaaLawM
import Derived.Deep.RegionHeld3
namespace Go.Proofs.Ythokaemeadhkjaa
open Go.RowKit Go.PlainAid Go.Proofs.Ythokaemeadhkjaa.Bt Go.Sort
set_option linter.unusedVariables false
set_option maxRecDepth 20000

theorem below_gr9 {w w1 w2 : World} {g : Option Nat} (h : Below w.heap.size w w1) (hg : w1.grownBy w2 g) (hB : ∀ k, g = some k → w.heap.size ≤ k) : Below w.heap.size w w2 := h.grown hg h.size hB
theorem rwO {w : World} {B n cap : Nat} {a : Option Addr} {L : List FlowV} (h : OwnS wvG 9 28 w B (.slice a n cap) L) (hok : ∀ x, x ∈ L → FlRok x) : Rw FlR 9 w a L := h.rw wvG_len hok
set_option maxHeartbeats 4000000 in
theorem lawFlowOpen_any (a : Option Addr) (len cap : Nat) (fs : List FlowV) (pr : Int) (mc : ByteArray) (si sp di dp st un ow : Int) (now : Int) (w : World) (h : Rw FlR 9 w a fs) (hl : fs.length = len) (hm : len ≤ maxLen) (hfk : FlRok ⟨pr, mc, si, sp, di, dp, st, un, ow⟩) :
    Calls Try.prog 7 #[.slice a len cap, .agg #[.int .i64 pr, .string mc, .int .i64 si, .int .i64 sp, .int .i64 di, .int .i64 dp, .int .i64 st, .int .i64 un, .int .i64 ow], .int .i64 now] w fun e w' => e = .returned (.bool true) ∧ Below w.heap.size w w' := by
  unfold maxLen at hm
  have RW : Hid (Rw FlR 9 w a fs) := h
  have HZ : Hid (∀ w, Rw FlR 9 w a fs → Calls Try.prog 22 #[.slice a len cap, .int .i64 1048576] w fun e w' => ∃ r : Int, e = .returned (.int .i64 r) ∧ (0 ≤ r → (len : Int) ≤ 1048576 ∧ r ≤ 1048576 ∧ ∀ x, x ∈ fs → (x.mc.size : Int) ≤ 1048576) ∧ -1 ≤ r ∧ r ≤ 1048576 ∧ Grw w w') := fun w h => szFlowS_any a len cap fs 1048576 w h hl (by omega) (by omega) (by omega)
  have HK : Hid (∀ x, x ∈ fs → FlRok x) := by
    intro x hx
    obtain ⟨i, hi⟩ := List.getElem?_of_mem hx
    obtain ⟨b, off, vs, _, _, _, h2, _⟩ := h.at FR.kp (Below.refl _ _) hi
    exact h2.2
  clear h
  go_enter Try.func7, Try.ntmps7
  go_wp2_with fail
  refine (HZ.out _ (RW.out.keep FR.kp ((Below.refl _ _).alloc (Nat.le_refl _) _))).mono ?_
  rintro e w0 ⟨r, rfl, hr, hr1, hr2, g1⟩
  have k0 : w0.cell? ⟨w.heap.size, 0, none⟩ = some (.int .i64 pr) := g1.keep (by simp [go_sem])
  have k1 : w0.cell? ⟨w.heap.size, 1, none⟩ = some (.string mc) := g1.keep (by simp [go_sem])
  have k2 : w0.cell? ⟨w.heap.size, 2, none⟩ = some (.int .i64 si) := g1.keep (by simp [go_sem])
  have k3 : w0.cell? ⟨w.heap.size, 3, none⟩ = some (.int .i64 sp) := g1.keep (by simp [go_sem])
  have k4 : w0.cell? ⟨w.heap.size, 4, none⟩ = some (.int .i64 di) := g1.keep (by simp [go_sem])
  have k5 : w0.cell? ⟨w.heap.size, 5, none⟩ = some (.int .i64 dp) := g1.keep (by simp [go_sem])
  have k6 : w0.cell? ⟨w.heap.size, 6, none⟩ = some (.int .i64 st) := g1.keep (by simp [go_sem])
  have k7 : w0.cell? ⟨w.heap.size, 7, none⟩ = some (.int .i64 un) := g1.keep (by simp [go_sem])
  have k8 : w0.cell? ⟨w.heap.size, 8, none⟩ = some (.int .i64 ow) := g1.keep (by simp [go_sem])
  have B0 : Hid (Grw w w0) := ((Grw.refl _).alloc _).trans g1
  clear g1
  by_cases hr0 : r < 0
  · go_wp2
    go_ret
    exact ⟨rfl, B0.out.below⟩
  have hlen : len ≤ 1048576 := by have := (hr (by omega)).1; omega
  clear hr HZ
  have HY : Hid (∀ w, Calls Try.prog 27 #[.agg #[.int .i64 pr, .string mc, .int .i64 si, .int .i64 sp, .int .i64 di, .int .i64 dp, .int .i64 st, .int .i64 un, .int .i64 ow], .int .i64 r] w fun e w' => ∃ r' : Int, e = .returned (.int .i64 r') ∧ (0 ≤ r' → r' ≤ r ∧ (mc.size : Int) ≤ r) ∧ -1 ≤ r' ∧ r' ≤ 1048576 ∧ Grw w w') := fun w => szFlow_any pr mc si sp di dp st un ow r w (by have := hfk.2.1; unfold maxLen at this; dsimp only at this; omega) (by omega) (by omega)
  go_wp2_with fail
  refine (HY.out _).mono ?_
  rintro e w1 ⟨r', rfl, hr', hr1', hr2', g1⟩
  have K1 : Hid (SG w.heap.size pr mc si sp di dp st un ow w1 w1 ∧ w.heap.size < w1.heap.size ∧ Below w.heap.size w w1) := ⟨⟨g1.keep k0, g1.keep k1, g1.keep k2, g1.keep k3, g1.keep k4, g1.keep k5, g1.keep k6, g1.keep k7, g1.keep k8, ⟨Below.refl _ _⟩⟩, World.block_lt_of_cell? w1 ⟨w.heap.size, 0, none⟩ (g1.keep k0), B0.out.below.trans (g1.below.mono B0.out.below.size)⟩
  clear g1 B0 HY hr' k0 k1 k2 k3 k4 k5 k6 k7 k8
  by_cases hr0' : r' < 0
  · go_wp2
    go_ret
    exact ⟨rfl, K1.out.2.2⟩
  have R1 : Hid (Rw FlR 9 w1 a fs) := RW.out.keep FR.kp K1.out.2.2
  have B1 : Hid (Below w1.heap.size w1 w1) := Below.refl _ _
  have HT : Hid (∀ w, Rw FlR 9 w a fs → Calls Try.prog 24 #[.slice a len cap] w fun e w' => e = .returned (.slice (some ⟨w.heap.size, 0, none⟩) len len) ∧ OwnS wvG 9 28 w' w.heap.size (.slice (some ⟨w.heap.size, 0, none⟩) len len) fs ∧ Below w.heap.size w w') := fun w h => (toFlowS_any a len cap fs w h hl hlen).mono fun e w' h => ⟨h.1, h.2.1, h.2.2.2⟩
  have HS : Hid (∀ w (a : Nat × Nat), Rw FlR 9 w (some ⟨a.1, a.2, none⟩) fs → Calls Try.prog 12 #[.slice (some ⟨a.1, a.2, none⟩) len len, .agg #[.int .i64 pr, .string mc, .int .i64 si, .int .i64 sp, .int .i64 di, .int .i64 dp, .int .i64 st, .int .i64 un, .int .i64 ow], .int .i64 now] w fun e w' => ∃ v, e = .returned (.tuple #[v, .int .i64 (opC fs ⟨pr, mc, si, sp, di, dp, st, un, ow⟩ now)]) ∧ OwnS wvG 9 28 w' w.heap.size v (opL fs ⟨pr, mc, si, sp, di, dp, st, un, ow⟩ now) ∧ Below w.heap.size w w') := fun w a h => specOpen_any a.1 a.2 len len fs pr mc si sp di dp st un ow now w h HK.out hl (by omega) (Nat.le_refl _) hfk
  have HI : Hid (∀ w (a : Nat × Nat), Rw FlR 9 w (some ⟨a.1, a.2, none⟩) fs → Calls Try.prog 11 #[.slice (some ⟨a.1, a.2, none⟩) len len, .agg #[.int .i64 pr, .string mc, .int .i64 si, .int .i64 sp, .int .i64 di, .int .i64 dp, .int .i64 st, .int .i64 un, .int .i64 ow], .int .i64 now] w fun e w' => ∃ v, e = .returned (.tuple #[v, .int .i64 (opC fs ⟨pr, mc, si, sp, di, dp, st, un, ow⟩ now)]) ∧ OwnS wvG 9 28 w' w.heap.size v (opL fs ⟨pr, mc, si, sp, di, dp, st, un, ow⟩ now) ∧ Below w.heap.size w w') := fun w a h => implOpen_any a.1 a.2 len len fs pr mc si sp di dp st un ow now w h HK.out hl (by omega) (Nat.le_refl _) hfk
  have hLb : (opL fs ⟨pr, mc, si, sp, di, dp, st, un, ow⟩ now).length ≤ 1048576 := Nat.le_trans (opL_len9 fs ⟨pr, mc, si, sp, di, dp, st, un, ow⟩ now) (by omega)
  have OKO : Hid (∀ x, x ∈ (opL fs ⟨pr, mc, si, sp, di, dp, st, un, ow⟩ now) → FlRok x) := opL_ok now HK.out hfk
  generalize opC fs ⟨pr, mc, si, sp, di, dp, st, un, ow⟩ now = c at HS HI
  generalize opL fs ⟨pr, mc, si, sp, di, dp, st, un, ow⟩ now = O at HS HI hLb OKO
  have OKM : Hid (∀ x, x ∈ mk9 O.length → FlRok x) := mk9_ok _ hLb
  have HE : Hid (∀ (a a' : Option Addr) (cap cap' : Nat) w, Rw FlR 9 w a O → Rw FlR 9 w a' O → Calls Try.prog 25 #[.slice a O.length cap, .slice a' O.length cap'] w fun e w' => e = .returned (.bool true) ∧ Grw w w') := fun a a' cap cap' w h h' => eqFlowS_yes a a' O.length cap cap' O w h h' rfl (by omega)
  have HE2 : Hid (∀ (a a' : Option Addr) (cap cap' : Nat) w, Rw FlR 9 w a fs → Rw FlR 9 w a' fs → Calls Try.prog 25 #[.slice a len cap, .slice a' len cap'] w fun e w' => e = .returned (.bool true) ∧ Grw w w') := fun a a' cap cap' w h h' => eqFlowS_yes a a' len cap cap' fs w h h' hl (by omega)
  have hnc : (c != c) = false := by simp
  have hmm : ((1 + 9 * (O.length : Int)) != (1 + 9 * (O.length : Int))) = false := by simp
  have HTT : Hid (∀ w, Calls Try.prog 28 #[.agg #[.int .i64 pr, .string mc, .int .i64 si, .int .i64 sp, .int .i64 di, .int .i64 dp, .int .i64 st, .int .i64 un, .int .i64 ow]] w fun e w' => e = .returned (.agg #[.int .i64 pr, .string mc, .int .i64 si, .int .i64 sp, .int .i64 di, .int .i64 dp, .int .i64 st, .int .i64 un, .int .i64 ow]) ∧ Grw w w') := fun w => toFlow_any pr mc si sp di dp st un ow w
  have SX : Hid (∀ wx wy, Below wx.heap.size wx wy → SG w.heap.size pr mc si sp di dp st un ow w1 wx → SG w.heap.size pr mc si sp di dp st un ow w1 wy) := fun wx wy hb h => h.below K1.out.2.1 (hb.mono h.2.2.2.2.2.2.2.2.2.out.size)
  have HP : Hid (∀ wx, SG w.heap.size pr mc si sp di dp st un ow w1 wx → Rw FlR 9 wx a fs) := fun wx h => R1.out.keep FR.kp h.2.2.2.2.2.2.2.2.2.out
  have S1 : Hid (SG w.heap.size pr mc si sp di dp st un ow w1 w1.drew) := K1.out.1.below K1.out.2.1 (Below.refl _ _).drew
  go_wp2_with fail
  go_region_held3 (fun wx => wx.cell? ⟨w.heap.size, 0, none⟩ = some (.int .i64 pr) ∧ wx.cell? ⟨w.heap.size, 1, none⟩ = some (.string mc) ∧ wx.cell? ⟨w.heap.size, 2, none⟩ = some (.int .i64 si) ∧ wx.cell? ⟨w.heap.size, 3, none⟩ = some (.int .i64 sp) ∧ wx.cell? ⟨w.heap.size, 4, none⟩ = some (.int .i64 di) ∧ wx.cell? ⟨w.heap.size, 5, none⟩ = some (.int .i64 dp) ∧ wx.cell? ⟨w.heap.size, 6, none⟩ = some (.int .i64 st) ∧ wx.cell? ⟨w.heap.size, 7, none⟩ = some (.int .i64 un) ∧ wx.cell? ⟨w.heap.size, 8, none⟩ = some (.int .i64 ow) ∧ KeptE w1 wx)
    (first | exact S1.out | exact SX.out _ _ b3 (by assumption) | exact SX.out _ _ bt (by assumption) | exact SX.out _ _ b2 (by assumption))
    (first | (go_at_call 24; refine (HT.out _ (HP.out _ (by assumption))).mono ?_; rintro e w2a ⟨rfl, o2, b2⟩) | (go_at_call 28; (with_reducible refine (HTT.out _).mono ?_); rintro e w2b ⟨rfl, gt⟩; have bt := gt.below) | (go_at_call 12; refine (HS.out _ (_, 0) ((rwO o2 HK.out).keep FR.kp bt)).mono ?_; rintro e w3 ⟨v3, rfl, o3, b3⟩))
  obtain ⟨s3, c3, hv3, -⟩ := o3.slice
  subst hv3
  have hS3 : SG w.heap.size pr mc si sp di dp st un ow w1 w3 := by assumption
  have X3 : Hid (Below w1.heap.size w1 w3 ∧ OwnS wvG 9 28 w3 w2b.heap.size (.slice s3 O.length c3) O) := ⟨hS3.2.2.2.2.2.2.2.2.2.out, o3⟩
  have Z2 : Hid (w1.heap.size ≤ w2b.heap.size) := Nat.le_trans b2.size bt.size
  have Z3 : Hid (w2b.heap.size ≤ w3.heap.size ∧ ∀ k, (Value.slice s3 O.length c3).ownBlock = some k → k < w3.heap.size) := ⟨b3.size, fun k hk => (World.ownsRow.lt o3 k hk).2⟩
  clear o3 b3 b2 bt gt o2 hS3
  go_wp2_with fail
  refine (HT.out _ (R1.out.keep FR.kp X3.out.1)).mono ?_
  rintro e w4 ⟨rfl, o4, b4⟩
  have X4 : Hid (Below w1.heap.size w1 w4 ∧ OwnS wvG 9 28 w4 w2b.heap.size (.slice s3 O.length c3) O ∧ OwnS wvG 9 28 w4 w3.heap.size (.slice (some ⟨w3.heap.size, 0, none⟩) len len) fs) := ⟨X3.out.1.trans (b4.mono X3.out.1.size), X3.out.2.now b4, o4⟩
  have Z4 : Hid (w3.heap.size < w4.heap.size) := (World.ownsRow.lt o4 _ rfl).2
  clear o4 b4
  have S4 : Hid (SG w.heap.size pr mc si sp di dp st un ow w1 w4) := K1.out.1.below K1.out.2.1 X4.out.1
  have q0 := S4.out.1
  have q1 := S4.out.2.1
  have q2 := S4.out.2.2.1
  have q3 := S4.out.2.2.2.1
  have q4 := S4.out.2.2.2.2.1
  have q5 := S4.out.2.2.2.2.2.1
  have q6 := S4.out.2.2.2.2.2.2.1
  have q7 := S4.out.2.2.2.2.2.2.2.1
  have q8 := S4.out.2.2.2.2.2.2.2.2.1
  go_wp2_with fail
  refine (HTT.out _).mono ?_
  rintro e w4b ⟨rfl, gt⟩
  have bt := gt.below
  clear q0 q1 q2 q3 q4 q5 q6 q7 q8 gt S4
  go_wp2_with fail
  refine (HI.out _ (_, 0) (rwO (X4.out.2.2.now bt) HK.out)).mono ?_
  rintro e w5 ⟨v3, rfl, o3, b3⟩
  obtain ⟨s5, c5, hv5, -⟩ := o3.slice
  subst hv5
  have X5 : Hid (Below w1.heap.size w1 w5 ∧ OwnS wvG 9 28 w5 w2b.heap.size (.slice s3 O.length c3) O ∧ OwnS wvG 9 28 w5 w3.heap.size (.slice (some ⟨w3.heap.size, 0, none⟩) len len) fs ∧ OwnS wvG 9 28 w5 w4.heap.size (.slice s5 O.length c5) O) := ⟨(X4.out.1.trans (bt.mono X4.out.1.size)).trans (b3.mono (Nat.le_trans X4.out.1.size bt.size)), (X4.out.2.1.now bt).now b3, (X4.out.2.2.now bt).now b3, o3.lower bt.size⟩
  clear o3 b3 bt
  go_wp2_with fail
  refine (HE.out _ _ _ _ _ (rwO X5.out.2.2.2 OKO.out) (rwO X5.out.2.1 OKO.out)).mono ?_
  rintro e w6 ⟨rfl, g6⟩
  have b6 := g6.below
  have X6 : Hid (Below w1.heap.size w1 w6 ∧ OwnS wvG 9 28 w6 w2b.heap.size (.slice s3 O.length c3) O ∧ OwnS wvG 9 28 w6 w3.heap.size (.slice (some ⟨w3.heap.size, 0, none⟩) len len) fs ∧ OwnS wvG 9 28 w6 w4.heap.size (.slice s5 O.length c5) O) := ⟨X5.out.1.trans (b6.mono X5.out.1.size), X5.out.2.1.now b6, X5.out.2.2.1.now b6, X5.out.2.2.2.now b6⟩
  clear g6 b6
  go_wp2_with fail
  refine (HT.out _ (R1.out.keep FR.kp X6.out.1)).mono ?_
  rintro e w7 ⟨rfl, o7, b7⟩
  have X7 : Hid (Below w1.heap.size w1 w7 ∧ OwnS wvG 9 28 w7 w2b.heap.size (.slice s3 O.length c3) O ∧ OwnS wvG 9 28 w7 w3.heap.size (.slice (some ⟨w3.heap.size, 0, none⟩) len len) fs ∧ OwnS wvG 9 28 w7 w4.heap.size (.slice s5 O.length c5) O ∧ Rw FlR 9 w7 (some ⟨w6.heap.size, 0, none⟩) fs) := ⟨X6.out.1.trans (b7.mono X6.out.1.size), X6.out.2.1.now b7, X6.out.2.2.1.now b7, X6.out.2.2.2.now b7, rwO o7 HK.out⟩
  clear o7 b7
  go_wp2_with fail
  refine (HE2.out _ _ _ _ _ (rwO X7.out.2.2.1 HK.out) X7.out.2.2.2.2).mono ?_
  rintro e w8 ⟨rfl, g8⟩
  have b8 := g8.below
  have X8 : Hid (Below w1.heap.size w1 w8 ∧ OwnS wvG 9 28 w8 w2b.heap.size (.slice s3 O.length c3) O ∧ OwnS wvG 9 28 w8 w3.heap.size (.slice (some ⟨w3.heap.size, 0, none⟩) len len) fs ∧ OwnS wvG 9 28 w8 w4.heap.size (.slice s5 O.length c5) O) := ⟨X7.out.1.trans (b8.mono X7.out.1.size), X7.out.2.1.now b8, X7.out.2.2.1.now b8, X7.out.2.2.2.1.now b8⟩
  clear g8 b8
  have SZ : Hid (w1.heap.size ≤ w2b.heap.size ∧ w2b.heap.size ≤ w3.heap.size ∧ w3.heap.size < w4.heap.size) := ⟨Z2.out, Z3.out.1, Z4.out⟩
  have hne3 : Hid (∀ k, (Value.slice s3 O.length c3).ownBlock = some k → k < w3.heap.size) := Z3.out.2
  go_wp2_with fail
  refine (markFlowS_any _ _ _ _ _ _ X8.out.2.2.1 hlen).mono ?_
  rintro e w9 ⟨rfl, -, g9⟩
  have X9 : Hid (Below w1.heap.size w1 w9 ∧ OwnS wvG 9 28 w9 w2b.heap.size (.slice s3 O.length c3) O ∧ OwnS wvG 9 28 w9 w4.heap.size (.slice s5 O.length c5) O) :=
    ⟨below_gr9 X8.out.1 g9 (fun k hk => by cases hk; exact Nat.le_trans SZ.out.1 SZ.out.2.1), OwnS.kept X8.out.2.1 g9 (Or.inr (fun he => absurd (hne3.out _ he) (Nat.lt_irrefl _))), OwnS.kept X8.out.2.2.2 g9 (Or.inr (fun he => absurd (Nat.lt_of_lt_of_le SZ.out.2.2 (World.ownsRow.lt X8.out.2.2.2 _ he).1) (Nat.lt_irrefl _)))⟩
  clear g9
  go_wp2_with fail
  refine (HE.out _ _ _ _ _ (rwO X9.out.2.2 OKO.out) (rwO X9.out.2.1 OKO.out)).mono ?_
  rintro e w10 ⟨rfl, g10⟩
  have b10 := g10.below
  have X10 : Hid (Below w1.heap.size w1 w10 ∧ OwnS wvG 9 28 w10 w2b.heap.size (.slice s3 O.length c3) O ∧ OwnS wvG 9 28 w10 w4.heap.size (.slice s5 O.length c5) O) := ⟨X9.out.1.trans (b10.mono X9.out.1.size), X9.out.2.1.now b10, X9.out.2.2.now b10⟩
  clear g10 b10
  go_wp2_with fail
  refine (markFlowS_any _ _ _ _ _ _ X10.out.2.2 hLb).mono ?_
  rintro e w11 ⟨rfl, o11, g11⟩
  have X11 : Hid (Below w1.heap.size w1 w11 ∧ OwnS wvG 9 28 w11 w2b.heap.size (.slice s3 O.length c3) O ∧ OwnS wvG 9 28 w11 w4.heap.size (.slice s5 O.length c5) (mk9 O.length)) :=
    ⟨below_gr9 X10.out.1 g11 (fun k hk => by have := (World.ownsRow.lt X10.out.2.2 k hk).1; have := SZ.out; omega), OwnS.kept X10.out.2.1 g11 (by
      cases hb3 : (Value.slice s3 O.length c3).ownBlock with
      | none => exact Or.inl rfl
      | some k => exact Or.inr (fun he => by have h1 := hne3.out k hb3; have h2 := (World.ownsRow.lt X10.out.2.2 k he.symm).1; have := SZ.out; omega)), o11⟩
  clear g11 o11
  go_wp2_with fail
  refine (heldFlowS_any _ _ _ _ (rwO X11.out.2.2 OKM.out) hLb).mono ?_
  rintro e w12 ⟨rfl, g12⟩
  have b12 := g12.below
  have X12 : Hid (Below w1.heap.size w1 w12 ∧ OwnS wvG 9 28 w12 w2b.heap.size (.slice s3 O.length c3) O ∧ OwnS wvG 9 28 w12 w4.heap.size (.slice s5 O.length c5) (mk9 O.length)) := ⟨X11.out.1.trans (b12.mono X11.out.1.size), X11.out.2.1.now b12, X11.out.2.2.now b12⟩
  clear g12 b12
  have S12 : Hid (SG w.heap.size pr mc si sp di dp st un ow w1 w12.drew) := K1.out.1.below K1.out.2.1 X12.out.1.drew
  go_wp2_with fail
  go_region_held3 (fun wx => wx.cell? ⟨w.heap.size, 0, none⟩ = some (.int .i64 pr) ∧ wx.cell? ⟨w.heap.size, 1, none⟩ = some (.string mc) ∧ wx.cell? ⟨w.heap.size, 2, none⟩ = some (.int .i64 si) ∧ wx.cell? ⟨w.heap.size, 3, none⟩ = some (.int .i64 sp) ∧ wx.cell? ⟨w.heap.size, 4, none⟩ = some (.int .i64 di) ∧ wx.cell? ⟨w.heap.size, 5, none⟩ = some (.int .i64 dp) ∧ wx.cell? ⟨w.heap.size, 6, none⟩ = some (.int .i64 st) ∧ wx.cell? ⟨w.heap.size, 7, none⟩ = some (.int .i64 un) ∧ wx.cell? ⟨w.heap.size, 8, none⟩ = some (.int .i64 ow) ∧ KeptE w1 wx)
    (first | exact S12.out | exact SX.out _ _ b3 (by assumption) | exact SX.out _ _ bt (by assumption) | exact SX.out _ _ b2 (by assumption))
    (first | (go_at_call 24; refine (HT.out _ (HP.out _ (by assumption))).mono ?_; rintro e w13a ⟨rfl, o2, b2⟩) | (go_at_call 28; (with_reducible refine (HTT.out _).mono ?_); rintro e w13b ⟨rfl, gt⟩; have bt := gt.below) | (go_at_call 11; refine (HI.out _ (_, 0) ((rwO o2 HK.out).keep FR.kp bt)).mono ?_; rintro e w14 ⟨v3, rfl, o3, b3⟩))
  obtain ⟨s14, c14, hv14, -⟩ := o3.slice
  subst hv14
  have X14 : Hid (Below w1.heap.size w1 w14 ∧ OwnS wvG 9 28 w14 w2b.heap.size (.slice s3 O.length c3) O ∧ OwnS wvG 9 28 w14 w4.heap.size (.slice s5 O.length c5) (mk9 O.length) ∧ Rw FlR 9 w14 s14 O) := ⟨(show SG w.heap.size pr mc si sp di dp st un ow w1 w14 by assumption).2.2.2.2.2.2.2.2.2.out, (((X12.out.2.1.now (Below.refl _ _).drew).now b2).now bt).now b3, (((X12.out.2.2.now (Below.refl _ _).drew).now b2).now bt).now b3, rwO o3 OKO.out⟩
  clear o3 b3 b2 bt gt o2
  go_wp2_with fail
  refine (HE.out _ _ _ _ _ X14.out.2.2.2 (rwO X14.out.2.1 OKO.out)).mono ?_
  rintro e w15 ⟨rfl, g15⟩
  have b15 := g15.below
  have X15 : Hid (Below w1.heap.size w1 w15 ∧ OwnS wvG 9 28 w15 w4.heap.size (.slice s5 O.length c5) (mk9 O.length)) := ⟨X14.out.1.trans (b15.mono X14.out.1.size), X14.out.2.2.1.now b15⟩
  clear g15 b15
  go_wp2_with fail
  refine (heldFlowS_any _ _ _ _ (rwO X15.out.2 OKM.out) hLb).mono ?_
  rintro e w16 ⟨rfl, g16⟩
  have X16 : Hid (Below w1.heap.size w1 w16) := X15.out.1.trans (g16.below.mono X15.out.1.size)
  clear g16
  go_wp2
  go_ret
  exact ⟨rfl, K1.out.2.2.trans (X16.out.mono K1.out.2.2.size)⟩
end Go.Proofs.Ythokaemeadhkjaa
