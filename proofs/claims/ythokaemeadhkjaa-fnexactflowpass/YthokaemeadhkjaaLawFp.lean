/- The walk of laws.FnExactFlowPass: true at every list of flows. -/
import Derived.Test.YthokaemeadhkjaaFloH
import Derived.Test.YthokaemeadhkjaaLawM
namespace Go.Proofs.Ythokaemeadhkjaa
open Go.RowKit Go.PlainAid Go.Proofs.Ythokaemeadhkjaa.Bt Go.Sort
set_option linter.unusedVariables false
set_option maxRecDepth 20000

theorem below_gr9 {w w1 w2 : World} {g : Option Nat} (h : Below w.heap.size w w1) (hg : w1.grownBy w2 g) (hB : ∀ k, g = some k → w.heap.size ≤ k) : Below w.heap.size w w2 := h.grown hg h.size hB
theorem rwO {w : World} {B n cap : Nat} {a : Option Addr} {L : List FlowV} (h : OwnS wvG 9 28 w B (.slice a n cap) L) (hok : ∀ x, x ∈ L → FlRok x) : Rw FlR 9 w a L := h.rw wvG_len hok
set_option maxHeartbeats 4000000 in
theorem lawFlowPass_any (a : Option Addr) (len cap : Nat) (fs : List FlowV) (k : Int) (back : Bool) (flags now : Int) (w : World) (h : Rw FlR 9 w a fs) (hl : fs.length = len) (hm : len ≤ maxLen) :
    Calls Try.prog 8 #[.slice a len cap, .int .i64 k, .bool back, .int .i64 flags, .int .i64 now] w fun e w' => e = .returned (.bool true) ∧ Below w.heap.size w w' := by
  unfold maxLen at hm
  have RW : Hid (Rw FlR 9 w a fs) := h
  have HZ : Hid (Calls Try.prog 22 #[.slice a len cap, .int .i64 1048576] w fun e w' => ∃ r : Int, e = .returned (.int .i64 r) ∧ (0 ≤ r → (len : Int) ≤ 1048576 ∧ r ≤ 1048576 ∧ ∀ x, x ∈ fs → (x.mc.size : Int) ≤ 1048576) ∧ -1 ≤ r ∧ r ≤ 1048576 ∧ Grw w w') := szFlowS_any a len cap fs 1048576 w h hl (by omega) (by omega) (by omega)
  have HK : Hid (∀ x, x ∈ fs → FlRok x) := by
    intro x hx
    obtain ⟨i, hi⟩ := List.getElem?_of_mem hx
    obtain ⟨b, off, vs, _, _, _, h2, _⟩ := h.at FR.kp (Below.refl _ _) hi
    exact h2.2
  clear h
  go_enter Try.func8, Try.ntmps8
  go_wp2_with fail
  refine HZ.out.mono ?_
  rintro e w1 ⟨r, rfl, hr, hr1, hr2, g1⟩
  have B1 : Hid (Below w.heap.size w w1) := g1.below
  clear g1
  by_cases hr0 : r < 0
  · go_wp2
    go_ret
    exact ⟨rfl, B1.out⟩
  have hlen : len ≤ 1048576 := by have := (hr (by omega)).1; omega
  clear hr HZ
  have HT : Hid (∀ w, Rw FlR 9 w a fs → Calls Try.prog 24 #[.slice a len cap] w fun e w' => e = .returned (.slice (some ⟨w.heap.size, 0, none⟩) len len) ∧ OwnS wvG 9 28 w' w.heap.size (.slice (some ⟨w.heap.size, 0, none⟩) len len) fs ∧ Below w.heap.size w w') := fun w h => (toFlowS_any a len cap fs w h hl hlen).mono fun e w' h => ⟨h.1, h.2.1, h.2.2.2⟩
  have HS : Hid (∀ w (a : Nat × Nat), Rw FlR 9 w (some ⟨a.1, a.2, none⟩) fs → Calls Try.prog 21 #[.slice (some ⟨a.1, a.2, none⟩) len len, .int .i64 k, .bool back, .int .i64 flags, .int .i64 now] w fun e w' => ∃ v, e = .returned (.tuple #[v, .int .i64 (paC fs k flags now)]) ∧ OwnS wvG 9 28 w' w.heap.size v (paL fs k back flags now) ∧ Below w.heap.size w w') := fun w a h => specPass_any a.1 a.2 len len fs k back flags now w h hl (by omega) (Nat.le_refl _) (by omega)
  have HI : Hid (∀ w (a : Nat × Nat), Rw FlR 9 w (some ⟨a.1, a.2, none⟩) fs → Calls Try.prog 19 #[.slice (some ⟨a.1, a.2, none⟩) len len, .int .i64 k, .bool back, .int .i64 flags, .int .i64 now] w fun e w' => ∃ v, e = .returned (.tuple #[v, .int .i64 (paC fs k flags now)]) ∧ OwnS wvG 9 28 w' w.heap.size v (paL fs k back flags now) ∧ Below w.heap.size w w') := fun w a h => implPass_any a.1 a.2 len len fs k back flags now w h HK.out hl (by omega) (Nat.le_refl _)
  have hLb : (paL fs k back flags now).length ≤ 1048576 := Nat.le_trans (paL_len fs k back flags now) (by omega)
  have OKO : Hid (∀ x, x ∈ (paL fs k back flags now) → FlRok x) := paL_ok HK.out
  generalize paC fs k flags now = c at HS HI
  generalize paL fs k back flags now = O at HS HI hLb OKO
  have OKM : Hid (∀ x, x ∈ mk9 O.length → FlRok x) := mk9_ok _ hLb
  have HE : Hid (∀ (a a' : Option Addr) (cap cap' : Nat) w, Rw FlR 9 w a O → Rw FlR 9 w a' O → Calls Try.prog 25 #[.slice a O.length cap, .slice a' O.length cap'] w fun e w' => e = .returned (.bool true) ∧ Grw w w') := fun a a' cap cap' w h h' => eqFlowS_yes a a' O.length cap cap' O w h h' rfl (by omega)
  have HE2 : Hid (∀ (a a' : Option Addr) (cap cap' : Nat) w, Rw FlR 9 w a fs → Rw FlR 9 w a' fs → Calls Try.prog 25 #[.slice a len cap, .slice a' len cap'] w fun e w' => e = .returned (.bool true) ∧ Grw w w') := fun a a' cap cap' w h h' => eqFlowS_yes a a' len cap cap' fs w h h' hl (by omega)
  have hnc : (c != c) = false := by simp
  have hmm : ((1 + 9 * (O.length : Int)) != (1 + 9 * (O.length : Int))) = false := by simp
  go_wp2_with fail
  refine (HT.out _ (RW.out.keep FR.kp B1.out)).mono ?_
  rintro e w2 ⟨rfl, o2, b2⟩
  have X2 : Hid (Below w.heap.size w w2 ∧ Rw FlR 9 w2 (some ⟨w1.heap.size, 0, none⟩) fs) := ⟨B1.out.trans (b2.mono B1.out.size), rwO o2 HK.out⟩
  clear o2 b2
  go_wp2_with fail
  refine (HS.out _ (_, 0) X2.out.2).mono ?_
  rintro e w3 ⟨v3, rfl, o3, b3⟩
  obtain ⟨s3, c3, rfl, -⟩ := o3.slice
  have X3 : Hid (Below w.heap.size w w3 ∧ OwnS wvG 9 28 w3 w2.heap.size (.slice s3 O.length c3) O) := ⟨X2.out.1.trans (b3.mono X2.out.1.size), o3⟩
  have Z3 : Hid (w2.heap.size ≤ w3.heap.size ∧ ∀ k, (Value.slice s3 O.length c3).ownBlock = some k → k < w3.heap.size) := ⟨b3.size, fun k hk => (World.ownsRow.lt o3 k hk).2⟩
  clear o3 b3
  go_wp2_with fail
  refine (HT.out _ (RW.out.keep FR.kp X3.out.1)).mono ?_
  rintro e w4 ⟨rfl, o4, b4⟩
  have X4 : Hid (Below w.heap.size w w4 ∧ OwnS wvG 9 28 w4 w2.heap.size (.slice s3 O.length c3) O ∧ OwnS wvG 9 28 w4 w3.heap.size (.slice (some ⟨w3.heap.size, 0, none⟩) len len) fs) := ⟨X3.out.1.trans (b4.mono X3.out.1.size), X3.out.2.now b4, o4⟩
  have Z4 : Hid (w3.heap.size < w4.heap.size) := (World.ownsRow.lt o4 _ rfl).2
  clear o4 b4
  go_wp2_with fail
  refine (HI.out _ (_, 0) (rwO X4.out.2.2 HK.out)).mono ?_
  rintro e w5 ⟨v5, rfl, o5, b5⟩
  obtain ⟨s5, c5, rfl, -⟩ := o5.slice
  have X5 : Hid (Below w.heap.size w w5 ∧ OwnS wvG 9 28 w5 w2.heap.size (.slice s3 O.length c3) O ∧ OwnS wvG 9 28 w5 w3.heap.size (.slice (some ⟨w3.heap.size, 0, none⟩) len len) fs ∧ OwnS wvG 9 28 w5 w4.heap.size (.slice s5 O.length c5) O) := ⟨X4.out.1.trans (b5.mono X4.out.1.size), X4.out.2.1.now b5, X4.out.2.2.now b5, o5⟩
  clear o5 b5
  go_wp2_with fail
  refine (HE.out _ _ _ _ _ (rwO X5.out.2.2.2 OKO.out) (rwO X5.out.2.1 OKO.out)).mono ?_
  rintro e w6 ⟨rfl, g6⟩
  have b6 := g6.below
  have X6 : Hid (Below w.heap.size w w6 ∧ OwnS wvG 9 28 w6 w2.heap.size (.slice s3 O.length c3) O ∧ OwnS wvG 9 28 w6 w3.heap.size (.slice (some ⟨w3.heap.size, 0, none⟩) len len) fs ∧ OwnS wvG 9 28 w6 w4.heap.size (.slice s5 O.length c5) O) := ⟨X5.out.1.trans (b6.mono X5.out.1.size), X5.out.2.1.now b6, X5.out.2.2.1.now b6, X5.out.2.2.2.now b6⟩
  clear g6 b6
  go_wp2_with fail
  refine (HT.out _ (RW.out.keep FR.kp X6.out.1)).mono ?_
  rintro e w7 ⟨rfl, o7, b7⟩
  have X7 : Hid (Below w.heap.size w w7 ∧ OwnS wvG 9 28 w7 w2.heap.size (.slice s3 O.length c3) O ∧ OwnS wvG 9 28 w7 w3.heap.size (.slice (some ⟨w3.heap.size, 0, none⟩) len len) fs ∧ OwnS wvG 9 28 w7 w4.heap.size (.slice s5 O.length c5) O ∧ Rw FlR 9 w7 (some ⟨w6.heap.size, 0, none⟩) fs) := ⟨X6.out.1.trans (b7.mono X6.out.1.size), X6.out.2.1.now b7, X6.out.2.2.1.now b7, X6.out.2.2.2.now b7, rwO o7 HK.out⟩
  clear o7 b7
  go_wp2_with fail
  refine (HE2.out _ _ _ _ _ (rwO X7.out.2.2.1 HK.out) X7.out.2.2.2.2).mono ?_
  rintro e w8 ⟨rfl, g8⟩
  have b8 := g8.below
  have X8 : Hid (Below w.heap.size w w8 ∧ OwnS wvG 9 28 w8 w2.heap.size (.slice s3 O.length c3) O ∧ OwnS wvG 9 28 w8 w3.heap.size (.slice (some ⟨w3.heap.size, 0, none⟩) len len) fs ∧ OwnS wvG 9 28 w8 w4.heap.size (.slice s5 O.length c5) O) := ⟨X7.out.1.trans (b8.mono X7.out.1.size), X7.out.2.1.now b8, X7.out.2.2.1.now b8, X7.out.2.2.2.1.now b8⟩
  clear g8 b8
  have SZ : Hid (w.heap.size ≤ w2.heap.size ∧ w2.heap.size ≤ w3.heap.size ∧ w3.heap.size < w4.heap.size) := ⟨X2.out.1.size, Z3.out.1, Z4.out⟩
  have hne3 : Hid (∀ k, (Value.slice s3 O.length c3).ownBlock = some k → k < w3.heap.size) := Z3.out.2
  go_wp2_with fail
  refine (markFlowS_any _ _ _ _ _ _ X8.out.2.2.1 hlen).mono ?_
  rintro e w9 ⟨rfl, -, g9⟩
  have X9 : Hid (Below w.heap.size w w9 ∧ OwnS wvG 9 28 w9 w2.heap.size (.slice s3 O.length c3) O ∧ OwnS wvG 9 28 w9 w4.heap.size (.slice s5 O.length c5) O) :=
    ⟨below_gr9 X8.out.1 g9 (fun k hk => by cases hk; exact Nat.le_trans SZ.out.1 SZ.out.2.1), OwnS.kept X8.out.2.1 g9 (Or.inr (fun he => absurd (hne3.out _ he) (Nat.lt_irrefl _))), OwnS.kept X8.out.2.2.2 g9 (Or.inr (fun he => absurd (Nat.lt_of_lt_of_le SZ.out.2.2 (World.ownsRow.lt X8.out.2.2.2 _ he).1) (Nat.lt_irrefl _)))⟩
  clear g9
  go_wp2_with fail
  refine (HE.out _ _ _ _ _ (rwO X9.out.2.2 OKO.out) (rwO X9.out.2.1 OKO.out)).mono ?_
  rintro e w10 ⟨rfl, g10⟩
  have b10 := g10.below
  have X10 : Hid (Below w.heap.size w w10 ∧ OwnS wvG 9 28 w10 w2.heap.size (.slice s3 O.length c3) O ∧ OwnS wvG 9 28 w10 w4.heap.size (.slice s5 O.length c5) O) := ⟨X9.out.1.trans (b10.mono X9.out.1.size), X9.out.2.1.now b10, X9.out.2.2.now b10⟩
  clear g10 b10
  go_wp2_with fail
  refine (markFlowS_any _ _ _ _ _ _ X10.out.2.2 hLb).mono ?_
  rintro e w11 ⟨rfl, o11, g11⟩
  have X11 : Hid (Below w.heap.size w w11 ∧ OwnS wvG 9 28 w11 w2.heap.size (.slice s3 O.length c3) O ∧ OwnS wvG 9 28 w11 w4.heap.size (.slice s5 O.length c5) (mk9 O.length)) :=
    ⟨below_gr9 X10.out.1 g11 (fun k hk => by have := (World.ownsRow.lt X10.out.2.2 k hk).1; have := SZ.out; omega), OwnS.kept X10.out.2.1 g11 (by
      cases hb3 : (Value.slice s3 O.length c3).ownBlock with
      | none => exact Or.inl rfl
      | some k => exact Or.inr (fun he => by have h1 := hne3.out k hb3; have h2 := (World.ownsRow.lt X10.out.2.2 k he.symm).1; have := SZ.out; omega)), o11⟩
  clear g11 o11
  go_wp2_with fail
  refine (heldFlowS_any _ _ _ _ (rwO X11.out.2.2 OKM.out) hLb).mono ?_
  rintro e w12 ⟨rfl, g12⟩
  have b12 := g12.below
  have X12 : Hid (Below w.heap.size w w12 ∧ OwnS wvG 9 28 w12 w2.heap.size (.slice s3 O.length c3) O ∧ OwnS wvG 9 28 w12 w4.heap.size (.slice s5 O.length c5) (mk9 O.length)) := ⟨X11.out.1.trans (b12.mono X11.out.1.size), X11.out.2.1.now b12, X11.out.2.2.now b12⟩
  clear g12 b12
  go_wp2_with fail
  refine (HT.out _ (RW.out.keep FR.kp X12.out.1)).mono ?_
  rintro e w13 ⟨rfl, o13, b13⟩
  have X13 : Hid (Below w.heap.size w w13 ∧ OwnS wvG 9 28 w13 w2.heap.size (.slice s3 O.length c3) O ∧ OwnS wvG 9 28 w13 w4.heap.size (.slice s5 O.length c5) (mk9 O.length) ∧ Rw FlR 9 w13 (some ⟨w12.heap.size, 0, none⟩) fs) := ⟨X12.out.1.trans (b13.mono X12.out.1.size), X12.out.2.1.now b13, X12.out.2.2.now b13, rwO o13 HK.out⟩
  clear o13 b13
  go_wp2_with fail
  refine (HI.out _ (_, 0) X13.out.2.2.2).mono ?_
  rintro e w14 ⟨v14, rfl, o14, b14⟩
  obtain ⟨s14, c14, rfl, -⟩ := o14.slice
  have X14 : Hid (Below w.heap.size w w14 ∧ OwnS wvG 9 28 w14 w2.heap.size (.slice s3 O.length c3) O ∧ OwnS wvG 9 28 w14 w4.heap.size (.slice s5 O.length c5) (mk9 O.length) ∧ Rw FlR 9 w14 s14 O) := ⟨X13.out.1.trans (b14.mono X13.out.1.size), X13.out.2.1.now b14, X13.out.2.2.1.now b14, rwO o14 OKO.out⟩
  clear o14 b14
  go_wp2_with fail
  refine (HE.out _ _ _ _ _ X14.out.2.2.2 (rwO X14.out.2.1 OKO.out)).mono ?_
  rintro e w15 ⟨rfl, g15⟩
  have b15 := g15.below
  have X15 : Hid (Below w.heap.size w w15 ∧ OwnS wvG 9 28 w15 w4.heap.size (.slice s5 O.length c5) (mk9 O.length)) := ⟨X14.out.1.trans (b15.mono X14.out.1.size), X14.out.2.2.1.now b15⟩
  clear g15 b15
  go_wp2_with fail
  refine (heldFlowS_any _ _ _ _ (rwO X15.out.2 OKM.out) hLb).mono ?_
  rintro e w16 ⟨rfl, g16⟩
  have X16 : Hid (Below w.heap.size w w16) := X15.out.1.trans (g16.below.mono X15.out.1.size)
  clear g16
  go_wp2
  go_ret
  exact ⟨rfl, X16.out⟩
end Go.Proofs.Ythokaemeadhkjaa
