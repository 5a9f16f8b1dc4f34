/- The walk of laws.FnExactTimersDue: true at every list of timers and every time. -/
import Derived.Test.YtbbjelkicenbhabTimI
namespace Go.Proofs.Ytbbjelkicenbhab
open Go.RowKit Go.PlainAid Go.Sort
set_option linter.unusedVariables false
set_option maxRecDepth 20000

theorem own_prs {e : TypeId} {w : World} {B n cap : Nat} {a : Option Addr} {L : List (Int × Int)} (h : OwnP e w B (.slice a n cap) L) : Prs w a L := by
  obtain ⟨a', cap', e1, hp, _⟩ := h.slice
  cases e1
  exact hp
theorem own_grown {e : TypeId} {w w' : World} {B : Nat} {v : Value} {L : List (Int × Int)} {r : Option Nat} (h : OwnP e w B v L) (hg : w.grownBy w' r) (hne : v.ownBlock = none ∨ v.ownBlock ≠ r) : OwnP e w' B v L := World.ownsRow.kept h hg hne
theorem below_grown {w w1 w2 : World} {g : Option Nat} (h : Below w.heap.size w w1) (hg : w1.grownBy w2 g) (hB : ∀ k, g = some k → w.heap.size ≤ k) : Below w.heap.size w w2 := h.grown hg h.size hB
/-- An older row is another one. -/
theorem older {a b : Option Nat} {p q : Nat} (h1 : ∀ k, a = some k → k < p) (h2 : p < q) (h3 : ∀ k, b = some k → q ≤ k) : a = none ∨ a ≠ b := by
  cases a with
  | none => exact Or.inl rfl
  | some k => exact Or.inr (fun he => by have := h1 k rfl; have := h3 k he.symm; omega)
theorem duL_len (zs : List (Int × Int)) (now : Int) : (duL zs now).length ≤ zs.length := by
  unfold duL
  split
  · exact leftTo_len zs now _
  · exact Nat.zero_le _
theorem duI_len (zs : List (Int × Int)) (now : Int) : (duI zs now).length ≤ zs.length := by
  unfold duI
  split
  · exact idsTo_len zs now _
  · exact Nat.zero_le _

set_option maxHeartbeats 4000000 in
theorem lawTimersDue_any (a : Option Addr) (len cap : Nat) (zs : List (Int × Int)) (now : Int) (w : World) (h : IsPairs w a len cap zs) :
    Calls Try.prog 6 #[.slice a len cap, .int .i64 now] w fun e w' => e = .returned (.bool true) ∧ Below w.heap.size w w' := by
  obtain ⟨hp, hl, hlc, hcm, -⟩ := h.prs
  unfold maxLen at hcm
  have H : Hid (Prs w a zs) := hp
  have HSZ : Hid (∀ w, Calls Try.prog 15 #[.slice a len cap, .int .i64 1048576] w fun e w' => ∃ r : Int, e = .returned (.int .i64 r) ∧ (0 ≤ r → len ≤ 1048576) ∧ -1 ≤ r ∧ r ≤ 1048576 ∧ w' = w) := fun w => szTimerS_any a len cap w (by omega)
  clear h hp
  go_enter Try.func6, Try.ntmps6
  go_wp2_with fail
  refine (HSZ.out _).mono ?_
  rintro e w1 ⟨r, rfl, hr, r0, r1, hw⟩
  subst hw
  have Bw1 : Hid (Below w1.heap.size w1 w1) := Below.refl _ _
  by_cases hneg : r < 0
  · go_wp2
    go_ret
    exact ⟨rfl, Bw1.out⟩
  have hlen := hr (by omega)
  clear hr HSZ
  have HT : Hid (∀ w, Prs w a zs → Calls Try.prog 17 #[.slice a len cap] w fun e w' => e = .returned (.slice (some ⟨w.heap.size, 0, none⟩) len len) ∧ OwnP 45 w' w.heap.size (.slice (some ⟨w.heap.size, 0, none⟩) len len) zs ∧ Below w.heap.size w w') := fun w h => toTimerS_any a len cap zs w h hl hlen
  have HS : Hid (∀ w b off, Prs w (some ⟨b, off, none⟩) zs → Calls Try.prog 23 #[.slice (some ⟨b, off, none⟩) len len, .int .i64 now] w fun e w' => ∃ v u, e = .returned (.tuple #[v, u, .int .i64 (duC zs)]) ∧ OwnP 45 w' w.heap.size v (duL zs now) ∧ OwnI 3 w' w.heap.size u (duI zs now) ∧ Below w.heap.size w w') := fun w b off h => specDue_any b off len len zs now w h hl (Nat.le_refl _) hlen
  have HI : Hid (∀ w a, Prs w a zs → Calls Try.prog 24 #[.slice a len len, .int .i64 now] w fun e w' => ∃ v u, e = .returned (.tuple #[v, u, .int .i64 (duC zs)]) ∧ OwnP 45 w' w.heap.size v (duL zs now) ∧ OwnI 3 w' w.heap.size u (duI zs now) ∧ Below w.heap.size w w') := fun w a h => implDue_any a len len zs now w h hl (Nat.le_refl _)
  have hLb : (duL zs now).length ≤ 1048576 := Nat.le_trans (duL_len zs now) (by omega)
  have hMb : (duI zs now).length ≤ 1048576 := Nat.le_trans (duI_len zs now) (by omega)
  generalize duC zs = c at HS HI
  generalize duL zs now = O at HS HI hLb
  generalize duI zs now = M at HS HI hMb
  have HE : Hid (∀ (a a' : Option Addr) (cap cap' : Nat) w, Prs w a O → Prs w a' O → Calls Try.prog 20 #[.slice a O.length cap, .slice a' O.length cap'] w fun e w' => e = .returned (.bool true) ∧ Grw w w') := fun a a' cap cap' w h h' => eqTimerS_yes a a' O.length cap cap' O w h h' rfl hLb
  have HE2 : Hid (∀ (a a' : Option Addr) (cap cap' : Nat) w, Prs w a zs → Prs w a' zs → Calls Try.prog 20 #[.slice a len cap, .slice a' len cap'] w fun e w' => e = .returned (.bool true) ∧ Grw w w') := fun a a' cap cap' w h h' => eqTimerS_yes a a' len cap cap' zs w h h' hl hlen
  have HEI : Hid (∀ (a a' : Option Addr) (cap cap' : Nat) w, Ints w a M → Ints w a' M → Calls Try.prog 25 #[.slice a M.length cap, .slice a' M.length cap'] w fun e w' => e = .returned (.bool true) ∧ Grw w w') := fun a a' cap cap' w h h' => eqIntS_yes a a' M.length cap cap' M w h h' rfl hMb
  have es : ((1 + 2 * O.length : Nat) : Int) = 1 + 2 * (O.length : Int) := by omega
  have HMI : Hid (∀ (a : Option Addr) (cap B : Nat) w, OwnI 3 w B (.slice a M.length cap) M → Calls Try.prog 26 #[.slice a M.length cap, .int .i64 (1 + 2 * (O.length : Int))] w fun e w' => e = .returned (.int .i64 (1 + 2 * (O.length : Int) + (M.length : Int))) ∧ OwnI 3 w' B (.slice a M.length cap) (imarks M.length (1 + 2 * O.length)) ∧ w.grownBy w' (Value.slice a M.length cap).ownBlock) := fun a cap B w h => by
    have := markIntS_any a M.length cap B (1 + 2 * O.length) M w h rfl hMb (by omega)
    rw [es] at this
    exact this
  have HHI : Hid (∀ (a : Option Addr) (cap : Nat) w, Ints w a (imarks M.length (1 + 2 * O.length)) → Calls Try.prog 27 #[.slice a M.length cap, .int .i64 (1 + 2 * (O.length : Int))] w fun e w' => e = .returned (.int .i64 (1 + 2 * (O.length : Int) + (M.length : Int))) ∧ Grw w w') := fun a cap w h => by
    have := heldIntS_any a M.length cap (1 + 2 * O.length) w h hMb (by omega)
    rw [es] at this
    exact this
  clear es
  have hnc : (c != c) = false := by simp
  have hmm : ((1 + 2 * (O.length : Int) + (M.length : Int)) != (1 + 2 * (O.length : Int) + (M.length : Int))) = false := by simp
  go_wp2_with fail
  refine (HT.out _ (H.out.keep Bw1.out)).mono ?_
  rintro e w2 ⟨rfl, o2, b2⟩
  have Bw2 : Hid (Below w1.heap.size w1 w2) := Bw1.out.trans (b2.mono Bw1.out.size)
  have P2 : Hid (Prs w2 (some ⟨w1.heap.size, 0, none⟩) zs) := own_prs o2
  clear o2 b2
  go_wp2_with fail
  refine (HS.out _ _ _ P2.out).mono ?_
  rintro e w3 ⟨v3, q3, rfl, o3, i3, b3⟩
  obtain ⟨s3, c3, rfl, -⟩ := o3.slice
  obtain ⟨t3, d3, rfl, -⟩ := i3.slice
  have Bw3 : Hid (Below w1.heap.size w1 w3) := Bw2.out.trans (b3.mono Bw2.out.size)
  have Ww3 : Hid (OwnP 45 w3 w2.heap.size (.slice s3 O.length c3) O) := o3
  have Vw3 : Hid (OwnI 3 w3 w2.heap.size (.slice t3 M.length d3) M) := i3
  have Z3 : Hid (w2.heap.size ≤ w3.heap.size ∧ (∀ k, (Value.slice s3 O.length c3).ownBlock = some k → k < w3.heap.size) ∧ ∀ k, (Value.slice t3 M.length d3).ownBlock = some k → k < w3.heap.size) := ⟨b3.size, fun k hk => (World.ownsRow.lt o3 k hk).2, fun k hk => (World.ownsRow.lt i3 k hk).2⟩
  clear o3 i3 b3
  go_wp2_with fail
  refine (HT.out _ (H.out.keep Bw3.out)).mono ?_
  rintro e w4 ⟨rfl, o4, b4⟩
  have Bw4 : Hid (Below w1.heap.size w1 w4) := Bw3.out.trans (b4.mono Bw3.out.size)
  have Ww4 : Hid (OwnP 45 w4 w2.heap.size (.slice s3 O.length c3) O) := Ww3.out.now b4
  have Vw4 : Hid (OwnI 3 w4 w2.heap.size (.slice t3 M.length d3) M) := Vw3.out.now b4
  have Xw4 : Hid (OwnP 45 w4 w3.heap.size (.slice (some ⟨w3.heap.size, 0, none⟩) len len) zs) := o4
  have Z4 : Hid (w3.heap.size < w4.heap.size) := (World.ownsRow.lt o4 _ rfl).2
  clear o4 b4
  go_wp2_with fail
  refine (HI.out _ _ (own_prs Xw4.out)).mono ?_
  rintro e w5 ⟨v5, q5, rfl, o5, i5, b5⟩
  obtain ⟨s5, c5, rfl, -⟩ := o5.slice
  obtain ⟨t5, d5, rfl, -⟩ := i5.slice
  have Bw5 : Hid (Below w1.heap.size w1 w5) := Bw4.out.trans (b5.mono Bw4.out.size)
  have Ww5 : Hid (OwnP 45 w5 w2.heap.size (.slice s3 O.length c3) O) := Ww4.out.now b5
  have Vw5 : Hid (OwnI 3 w5 w2.heap.size (.slice t3 M.length d3) M) := Vw4.out.now b5
  have Xw5 : Hid (OwnP 45 w5 w3.heap.size (.slice (some ⟨w3.heap.size, 0, none⟩) len len) zs) := Xw4.out.now b5
  have Gw5 : Hid (OwnP 45 w5 w4.heap.size (.slice s5 O.length c5) O) := o5
  have Hw5 : Hid (OwnI 3 w5 w4.heap.size (.slice t5 M.length d5) M) := i5
  clear o5 i5 b5
  go_wp2_with fail
  refine (HE.out _ _ _ _ _ (own_prs Gw5.out) (own_prs Ww5.out)).mono ?_
  rintro e w6 ⟨rfl, g6⟩
  have Bw6 : Hid (Below w1.heap.size w1 w6) := Bw5.out.trans (g6.below.mono Bw5.out.size)
  have Ww6 : Hid (OwnP 45 w6 w2.heap.size (.slice s3 O.length c3) O) := Ww5.out.now g6.below
  have Vw6 : Hid (OwnI 3 w6 w2.heap.size (.slice t3 M.length d3) M) := Vw5.out.now g6.below
  have Xw6 : Hid (OwnP 45 w6 w3.heap.size (.slice (some ⟨w3.heap.size, 0, none⟩) len len) zs) := Xw5.out.now g6.below
  have Gw6 : Hid (OwnP 45 w6 w4.heap.size (.slice s5 O.length c5) O) := Gw5.out.now g6.below
  have Hw6 : Hid (OwnI 3 w6 w4.heap.size (.slice t5 M.length d5) M) := Hw5.out.now g6.below
  clear g6
  go_wp2_with fail
  refine (HEI.out _ _ _ _ _ (own_ints Hw6.out) (own_ints Vw6.out)).mono ?_
  rintro e w7 ⟨rfl, g7⟩
  have Bw7 : Hid (Below w1.heap.size w1 w7) := Bw6.out.trans (g7.below.mono Bw6.out.size)
  have Ww7 : Hid (OwnP 45 w7 w2.heap.size (.slice s3 O.length c3) O) := Ww6.out.now g7.below
  have Vw7 : Hid (OwnI 3 w7 w2.heap.size (.slice t3 M.length d3) M) := Vw6.out.now g7.below
  have Xw7 : Hid (OwnP 45 w7 w3.heap.size (.slice (some ⟨w3.heap.size, 0, none⟩) len len) zs) := Xw6.out.now g7.below
  have Gw7 : Hid (OwnP 45 w7 w4.heap.size (.slice s5 O.length c5) O) := Gw6.out.now g7.below
  have Hw7 : Hid (OwnI 3 w7 w4.heap.size (.slice t5 M.length d5) M) := Hw6.out.now g7.below
  clear g7
  go_wp2_with fail
  refine (HT.out _ (H.out.keep Bw7.out)).mono ?_
  rintro e w8 ⟨rfl, o8, b8⟩
  have Bw8 : Hid (Below w1.heap.size w1 w8) := Bw7.out.trans (b8.mono Bw7.out.size)
  have Ww8 : Hid (OwnP 45 w8 w2.heap.size (.slice s3 O.length c3) O) := Ww7.out.now b8
  have Vw8 : Hid (OwnI 3 w8 w2.heap.size (.slice t3 M.length d3) M) := Vw7.out.now b8
  have Xw8 : Hid (OwnP 45 w8 w3.heap.size (.slice (some ⟨w3.heap.size, 0, none⟩) len len) zs) := Xw7.out.now b8
  have Gw8 : Hid (OwnP 45 w8 w4.heap.size (.slice s5 O.length c5) O) := Gw7.out.now b8
  have Hw8 : Hid (OwnI 3 w8 w4.heap.size (.slice t5 M.length d5) M) := Hw7.out.now b8
  have P8 : Hid (Prs w8 (some ⟨w7.heap.size, 0, none⟩) zs) := own_prs o8
  clear o8 b8
  go_wp2_with fail
  refine (HE2.out _ _ _ _ _ (own_prs Xw8.out) P8.out).mono ?_
  rintro e w9 ⟨rfl, g9⟩
  have Bw9 : Hid (Below w1.heap.size w1 w9) := Bw8.out.trans (g9.below.mono Bw8.out.size)
  have Ww9 : Hid (OwnP 45 w9 w2.heap.size (.slice s3 O.length c3) O) := Ww8.out.now g9.below
  have Vw9 : Hid (OwnI 3 w9 w2.heap.size (.slice t3 M.length d3) M) := Vw8.out.now g9.below
  have Xw9 : Hid (OwnP 45 w9 w3.heap.size (.slice (some ⟨w3.heap.size, 0, none⟩) len len) zs) := Xw8.out.now g9.below
  have Gw9 : Hid (OwnP 45 w9 w4.heap.size (.slice s5 O.length c5) O) := Gw8.out.now g9.below
  have Hw9 : Hid (OwnI 3 w9 w4.heap.size (.slice t5 M.length d5) M) := Hw8.out.now g9.below
  clear g9
  have SZ : Hid (w1.heap.size ≤ w2.heap.size ∧ w2.heap.size ≤ w3.heap.size ∧ w3.heap.size < w4.heap.size) := ⟨Bw2.out.size, Z3.out.1, Z4.out⟩
  go_wp2_with fail
  refine (markTimerS_any _ _ _ _ _ _ Xw9.out hl hlen).mono ?_
  rintro e w10 ⟨rfl, -, g10⟩
  have Bw10 : Hid (Below w1.heap.size w1 w10) := below_grown Bw9.out g10 (fun k hk => by cases hk; exact Nat.le_trans SZ.out.1 SZ.out.2.1)
  have Ww10 : Hid (OwnP 45 w10 w2.heap.size (.slice s3 O.length c3) O) := own_grown Ww9.out g10 (Or.inr (fun he => absurd (Z3.out.2.1 _ he) (Nat.lt_irrefl _)))
  have Vw10 : Hid (OwnI 3 w10 w2.heap.size (.slice t3 M.length d3) M) := own_grownI Vw9.out g10 (Or.inr (fun he => absurd (Z3.out.2.2 _ he) (Nat.lt_irrefl _)))
  have Gw10 : Hid (OwnP 45 w10 w4.heap.size (.slice s5 O.length c5) O) := own_grown Gw9.out g10 (Or.inr (fun he => absurd (Nat.lt_of_lt_of_le SZ.out.2.2 (World.ownsRow.lt Gw9.out _ he).1) (Nat.lt_irrefl _)))
  have Hw10 : Hid (OwnI 3 w10 w4.heap.size (.slice t5 M.length d5) M) := own_grownI Hw9.out g10 (Or.inr (fun he => absurd (Nat.lt_of_lt_of_le SZ.out.2.2 (World.ownsRow.lt Hw9.out _ he).1) (Nat.lt_irrefl _)))
  clear g10
  go_wp2_with fail
  refine (HE.out _ _ _ _ _ (own_prs Gw10.out) (own_prs Ww10.out)).mono ?_
  rintro e w11 ⟨rfl, g11⟩
  have Bw11 : Hid (Below w1.heap.size w1 w11) := Bw10.out.trans (g11.below.mono Bw10.out.size)
  have Ww11 : Hid (OwnP 45 w11 w2.heap.size (.slice s3 O.length c3) O) := Ww10.out.now g11.below
  have Vw11 : Hid (OwnI 3 w11 w2.heap.size (.slice t3 M.length d3) M) := Vw10.out.now g11.below
  have Gw11 : Hid (OwnP 45 w11 w4.heap.size (.slice s5 O.length c5) O) := Gw10.out.now g11.below
  have Hw11 : Hid (OwnI 3 w11 w4.heap.size (.slice t5 M.length d5) M) := Hw10.out.now g11.below
  clear g11
  go_wp2_with fail
  refine (HEI.out _ _ _ _ _ (own_ints Hw11.out) (own_ints Vw11.out)).mono ?_
  rintro e w12 ⟨rfl, g12⟩
  have Bw12 : Hid (Below w1.heap.size w1 w12) := Bw11.out.trans (g12.below.mono Bw11.out.size)
  have Ww12 : Hid (OwnP 45 w12 w2.heap.size (.slice s3 O.length c3) O) := Ww11.out.now g12.below
  have Vw12 : Hid (OwnI 3 w12 w2.heap.size (.slice t3 M.length d3) M) := Vw11.out.now g12.below
  have Gw12 : Hid (OwnP 45 w12 w4.heap.size (.slice s5 O.length c5) O) := Gw11.out.now g12.below
  have Hw12 : Hid (OwnI 3 w12 w4.heap.size (.slice t5 M.length d5) M) := Hw11.out.now g12.below
  clear g12
  go_wp2_with fail
  refine (markTimerS_any _ _ _ _ _ _ Gw12.out rfl hLb).mono ?_
  rintro e w13 ⟨rfl, o13, g13⟩
  have Bw13 : Hid (Below w1.heap.size w1 w13) := below_grown Bw12.out g13 (fun k hk => by have := (World.ownsRow.lt Gw12.out k hk).1; have := SZ.out; omega)
  have Ww13 : Hid (OwnP 45 w13 w2.heap.size (.slice s3 O.length c3) O) := own_grown Ww12.out g13 (older Z3.out.2.1 SZ.out.2.2 (fun k hk => (World.ownsRow.lt Gw12.out k hk).1))
  have Vw13 : Hid (OwnI 3 w13 w2.heap.size (.slice t3 M.length d3) M) := own_grownI Vw12.out g13 (older Z3.out.2.2 SZ.out.2.2 (fun k hk => (World.ownsRow.lt Gw12.out k hk).1))
  have gw13 : Hid (OwnP 45 w13 w4.heap.size (.slice s5 O.length c5) (marks O.length)) := o13
  have Hw13 : Hid (OwnI 3 w13 w4.heap.size (.slice t5 M.length d5) M) := OwnI.far Hw12.out Gw12.out g13
  clear g13 o13
  go_wp2_with fail
  refine (HMI.out _ _ _ _ Hw13.out).mono ?_
  rintro e w14 ⟨rfl, o14, g14⟩
  have Bw14 : Hid (Below w1.heap.size w1 w14) := below_grown Bw13.out g14 (fun k hk => by have := (World.ownsRow.lt Hw13.out k hk).1; have := SZ.out; omega)
  have Ww14 : Hid (OwnP 45 w14 w2.heap.size (.slice s3 O.length c3) O) := own_grown Ww13.out g14 (older Z3.out.2.1 SZ.out.2.2 (fun k hk => (World.ownsRow.lt Hw13.out k hk).1))
  have Vw14 : Hid (OwnI 3 w14 w2.heap.size (.slice t3 M.length d3) M) := own_grownI Vw13.out g14 (older Z3.out.2.2 SZ.out.2.2 (fun k hk => (World.ownsRow.lt Hw13.out k hk).1))
  have gw14 : Hid (OwnP 45 w14 w4.heap.size (.slice s5 O.length c5) (marks O.length)) := OwnP.far gw13.out Hw13.out g14
  have hw14 : Hid (OwnI 3 w14 w4.heap.size (.slice t5 M.length d5) (imarks M.length (1 + 2 * O.length))) := o14
  clear g14 o14
  go_wp2_with fail
  refine (heldTimerS_any _ _ _ _ (own_prs gw14.out) hLb).mono ?_
  rintro e w15 ⟨rfl, g15⟩
  have Bw15 : Hid (Below w1.heap.size w1 w15) := Bw14.out.trans (g15.below.mono Bw14.out.size)
  have Ww15 : Hid (OwnP 45 w15 w2.heap.size (.slice s3 O.length c3) O) := Ww14.out.now g15.below
  have Vw15 : Hid (OwnI 3 w15 w2.heap.size (.slice t3 M.length d3) M) := Vw14.out.now g15.below
  have gw15 : Hid (OwnP 45 w15 w4.heap.size (.slice s5 O.length c5) (marks O.length)) := gw14.out.now g15.below
  have hw15 : Hid (OwnI 3 w15 w4.heap.size (.slice t5 M.length d5) (imarks M.length (1 + 2 * O.length))) := hw14.out.now g15.below
  clear g15
  go_wp2_with fail
  refine (HHI.out _ _ _ (own_ints hw15.out)).mono ?_
  rintro e w16 ⟨rfl, g16⟩
  have Bw16 : Hid (Below w1.heap.size w1 w16) := Bw15.out.trans (g16.below.mono Bw15.out.size)
  have Ww16 : Hid (OwnP 45 w16 w2.heap.size (.slice s3 O.length c3) O) := Ww15.out.now g16.below
  have Vw16 : Hid (OwnI 3 w16 w2.heap.size (.slice t3 M.length d3) M) := Vw15.out.now g16.below
  have gw16 : Hid (OwnP 45 w16 w4.heap.size (.slice s5 O.length c5) (marks O.length)) := gw15.out.now g16.below
  have hw16 : Hid (OwnI 3 w16 w4.heap.size (.slice t5 M.length d5) (imarks M.length (1 + 2 * O.length))) := hw15.out.now g16.below
  clear g16
  go_wp2_with fail
  refine (HT.out _ (H.out.keep Bw16.out)).mono ?_
  rintro e w17 ⟨rfl, o17, b17⟩
  have Bw17 : Hid (Below w1.heap.size w1 w17) := Bw16.out.trans (b17.mono Bw16.out.size)
  have Ww17 : Hid (OwnP 45 w17 w2.heap.size (.slice s3 O.length c3) O) := Ww16.out.now b17
  have Vw17 : Hid (OwnI 3 w17 w2.heap.size (.slice t3 M.length d3) M) := Vw16.out.now b17
  have gw17 : Hid (OwnP 45 w17 w4.heap.size (.slice s5 O.length c5) (marks O.length)) := gw16.out.now b17
  have hw17 : Hid (OwnI 3 w17 w4.heap.size (.slice t5 M.length d5) (imarks M.length (1 + 2 * O.length))) := hw16.out.now b17
  have P17 : Hid (Prs w17 (some ⟨w16.heap.size, 0, none⟩) zs) := own_prs o17
  clear o17 b17
  go_wp2_with fail
  refine (HI.out _ _ P17.out).mono ?_
  rintro e w18 ⟨v18, q18, rfl, o18, i18, b18⟩
  obtain ⟨s18, c18, rfl, -⟩ := o18.slice
  obtain ⟨t18, d18, rfl, -⟩ := i18.slice
  have Bw18 : Hid (Below w1.heap.size w1 w18) := Bw17.out.trans (b18.mono Bw17.out.size)
  have Ww18 : Hid (OwnP 45 w18 w2.heap.size (.slice s3 O.length c3) O) := Ww17.out.now b18
  have Vw18 : Hid (OwnI 3 w18 w2.heap.size (.slice t3 M.length d3) M) := Vw17.out.now b18
  have gw18 : Hid (OwnP 45 w18 w4.heap.size (.slice s5 O.length c5) (marks O.length)) := gw17.out.now b18
  have hw18 : Hid (OwnI 3 w18 w4.heap.size (.slice t5 M.length d5) (imarks M.length (1 + 2 * O.length))) := hw17.out.now b18
  have P18 : Hid (Prs w18 s18 O) := own_prs o18
  have R18 : Hid (OwnI 3 w18 w17.heap.size (.slice t18 M.length d18) M) := i18
  clear o18 i18 b18
  go_wp2_with fail
  refine (HE.out _ _ _ _ _ P18.out (own_prs Ww18.out)).mono ?_
  rintro e w19 ⟨rfl, g19⟩
  have Bw19 : Hid (Below w1.heap.size w1 w19) := Bw18.out.trans (g19.below.mono Bw18.out.size)
  have Vw19 : Hid (OwnI 3 w19 w2.heap.size (.slice t3 M.length d3) M) := Vw18.out.now g19.below
  have gw19 : Hid (OwnP 45 w19 w4.heap.size (.slice s5 O.length c5) (marks O.length)) := gw18.out.now g19.below
  have hw19 : Hid (OwnI 3 w19 w4.heap.size (.slice t5 M.length d5) (imarks M.length (1 + 2 * O.length))) := hw18.out.now g19.below
  have R19 : Hid (OwnI 3 w19 w17.heap.size (.slice t18 M.length d18) M) := R18.out.now g19.below
  clear g19
  go_wp2_with fail
  refine (HEI.out _ _ _ _ _ (own_ints R19.out) (own_ints Vw19.out)).mono ?_
  rintro e w20 ⟨rfl, g20⟩
  have Bw20 : Hid (Below w1.heap.size w1 w20) := Bw19.out.trans (g20.below.mono Bw19.out.size)
  have gw20 : Hid (OwnP 45 w20 w4.heap.size (.slice s5 O.length c5) (marks O.length)) := gw19.out.now g20.below
  have hw20 : Hid (OwnI 3 w20 w4.heap.size (.slice t5 M.length d5) (imarks M.length (1 + 2 * O.length))) := hw19.out.now g20.below
  clear g20
  go_wp2_with fail
  refine (heldTimerS_any _ _ _ _ (own_prs gw20.out) hLb).mono ?_
  rintro e w21 ⟨rfl, g21⟩
  have Bw21 : Hid (Below w1.heap.size w1 w21) := Bw20.out.trans (g21.below.mono Bw20.out.size)
  have gw21 : Hid (OwnP 45 w21 w4.heap.size (.slice s5 O.length c5) (marks O.length)) := gw20.out.now g21.below
  have hw21 : Hid (OwnI 3 w21 w4.heap.size (.slice t5 M.length d5) (imarks M.length (1 + 2 * O.length))) := hw20.out.now g21.below
  clear g21
  go_wp2_with fail
  refine (HHI.out _ _ _ (own_ints hw21.out)).mono ?_
  rintro e w22 ⟨rfl, g22⟩
  have Bw22 : Hid (Below w1.heap.size w1 w22) := Bw21.out.trans (g22.below.mono Bw21.out.size)
  have gw22 : Hid (OwnP 45 w22 w4.heap.size (.slice s5 O.length c5) (marks O.length)) := gw21.out.now g22.below
  have hw22 : Hid (OwnI 3 w22 w4.heap.size (.slice t5 M.length d5) (imarks M.length (1 + 2 * O.length))) := hw21.out.now g22.below
  clear g22
  go_wp2
  go_ret
  exact ⟨rfl, Bw22.out⟩
end Go.Proofs.Ytbbjelkicenbhab
