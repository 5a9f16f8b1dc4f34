/- Flows in the laws, marked and held. -/
import Derived.Test.YthokaemeadhkjaaLawF
import Derived.Test.YthokaemeadhkjaaDigits
import Derived.Test.YthokaemeadhkjaaOwnT
namespace Go.Proofs.Ythokaemeadhkjaa
open Go.RowKit Go.PlainAid Go.Proofs.Ythokaemeadhkjaa.Bt Go.Sort
set_option linter.unusedVariables false
set_option maxRecDepth 20000

/-- The digits of a number, laid ahead of others. -/
def mtF (k : Nat) (L : List Int) : List Int := if h : k = 0 then L else mtF (k / 10) ((48 + ((k % 10 : Nat) : Int)) :: L)
termination_by k
decreasing_by omega
theorem mtF_zero (L : List Int) : mtF 0 L = L := by rw [mtF, dif_pos rfl]
theorem mtF_step {k : Nat} (h : 0 < k) (L : List Int) : mtF k L = mtF (k / 10) ((48 + ((k % 10 : Nat) : Int)) :: L) := by rw [mtF, dif_neg (by omega)]
/-- What markText answers. -/
def mtS (k : Nat) : ByteArray := strOfNums [109] ++ strOfNums (mtF k [])
theorem m_lit : (⟨#[109]⟩ : ByteArray) = strOfNums [109] := by
  apply ByteArray.ext
  simp [strOfNums]
set_option maxHeartbeats 1000000 in
theorem markText_any (n : Nat) (w : World) (h0 : 0 < n) (hn : n ≤ 1000000000000) :
    Calls Try.prog 62 #[.int .i64 n] w fun e w' => e = .returned (.string (mtS n)) ∧ Grw w w' := by
  have hpos : decide ((n : Int) ≤ 0) = false := by simp; omega
  go_enter Try.func62, Try.ntmps62
  go_wp2
  go_loopw [0, 3] (fun p q wr => ∃ (k : Nat) (L : List Int), k ≤ n ∧ p = .int .i64 k ∧ q = .string (strOfNums L) ∧ Hid (mtF k L = mtF n [] ∧ k < 10 ^ (20 - L.length) ∧ L.length ≤ 20) ∧ Hid (Grw w wr)) (fun p _ _ => (intOf p).toNat)
  case atStart => exact ⟨n, [], Nat.le_refl _, rfl, rfl, ⟨rfl, by simp; omega, by simp⟩, Grw.refl _⟩
  case round =>
    obtain ⟨k, L, hk, rfl, rfl, HM, HG⟩ := hrel
    by_cases hlt : 0 < k
    · have hltz : (0 : Int) < (k : Int) := by omega
      have hL : L.length + 1 ≤ 20 := by
        have h1 := HM.out.2.1
        have h2 := HM.out.2.2
        by_cases h3 : L.length = 20
        · rw [h3] at h1
          simp at h1
          omega
        · omega
      have HM2 : Hid (mtF (k / 10) ((48 + (k : Int) % 10) :: L) = mtF n [] ∧ k / 10 < 10 ^ (20 - (((48 + (k : Int) % 10) :: L)).length) ∧ (((48 + (k : Int) % 10) :: L)).length ≤ 20) := by
        have e : ((k % 10 : Nat) : Int) = (k : Int) % 10 := by omega
        refine ⟨by rw [← e, ← mtF_step hlt]; exact HM.out.1, ?_, by simpa using hL⟩
        rw [Nat.div_lt_iff_lt_mul (by omega), List.length_cons]
        have := HM.out.2.1
        rw [show 20 - L.length = (20 - (L.length + 1)) + 1 by omega, Nat.pow_succ] at this
        exact this
      have hcv : ∀ (wx : World) (b : Nat), wx.cell? ⟨b, 0, none⟩ = some (.int .u8 (48 + (k : Int) % 10)) → (convert 22 9 (.slice (some ⟨b, 0, none⟩) 1 1)).run Try.prog wx = .ok (.string (strOfNums [48 + (k : Int) % 10])) wx := fun wx b hb => conv_one wx b _ (by omega) (by omega) hb
      have hcv1 := hcv (wr.alloc (.cells #[.int .u8 (48 + (k : Int) % 10)] 5)) wr.heap.size (by simp)
      have hadd : ∀ wx : World, (Op.stringOp .add (strOfNums [48 + (k : Int) % 10]) (strOfNums L)).run Try.prog wx = .ok (.string (strOfNums [48 + (k : Int) % 10] ++ strOfNums L)) wx := fun wx => run_string_add_sum (P := Try.prog) (w := wx) _ _ (by
        rw [strOfNums_size, strOfNums_size]
        simp; omega)
      rw [strOfNums_append] at hadd
      have hadd' : ∀ wx : World, (Op.stringOp .add (strOfNums [48 + (k : Int) % 10]) (strOfNums L)).run Try.prog wx = .ok (.string (strOfNums ((48 + (k : Int) % 10) :: L))) wx := hadd
      have hw1 : IntKind.i64.wrap ((k : Int) / 10) = (k : Int) / 10 := by rw [IntKind.wrap_i64]; omega
      have htm : (k : Int).tmod 10 = (k : Int) % 10 := Int.tmod_eq_emod_of_nonneg (by omega)
      have htd : (k : Int).tdiv 10 = (k : Int) / 10 := Int.tdiv_eq_ediv_of_nonneg (by omega)
      have hw2 : IntKind.i64.wrap ((k : Int) % 10) = (k : Int) % 10 := by rw [IntKind.wrap_i64]; omega
      have hw3 : IntKind.i64.wrap (48 + (k : Int) % 10) = 48 + (k : Int) % 10 := by rw [IntKind.wrap_i64]; omega
      have hw4 : IntKind.u8.wrap (48 + (k : Int) % 10) = 48 + (k : Int) % 10 := by rw [IntKind.wrap_u8]; omega
      have HG2 : Hid (Grw w (wr.alloc (.cells #[.int .u8 (48 + (k : Int) % 10)] 5))) := HG.out.alloc _
      have hdv : Hid ((k : Int) / 10 = ((k / 10 : Nat) : Int)) := by show _ = _; omega
      have hk2 : Hid (k / 10 < k) := Nat.div_lt_self hlt (by omega)
      generalize ((48 + (k : Int) % 10) :: L) = L2 at HM2 hadd'
      clear hadd HM HG
      go_wp2
      go_roundw
      case rel => exact ⟨k / 10, L2, by omega, by rw [hdv.out], rfl, HM2, HG2⟩
      case measure => simp [intOf]; omega
    · obtain rfl : k = 0 := by omega
      have e0 := HM.out.1
      rw [mtF_zero] at e0
      have E : Hid (mtS n = strOfNums [109] ++ strOfNums L) := by
        show mtS n = _
        unfold mtS
        rw [e0]
      have hadd : ∀ wx : World, (Op.stringOp .add (⟨#[109]⟩ : ByteArray) (strOfNums L)).run Try.prog wx = .ok (.string (strOfNums [109] ++ strOfNums L)) wx := fun wx => by
        rw [m_lit]
        exact run_string_add_sum (P := Try.prog) (w := wx) _ _ (by
          have := HM.out.2.2
          rw [strOfNums_size, strOfNums_size]
          simp; omega)
      generalize strOfNums [109] ++ strOfNums L = R at E hadd
      clear e0 HM
      go_wp2
      go_ret
      exact ⟨by rw [E.out]; rfl, HG.out⟩
theorem wsets8t (w : World) (g i : Nat) (v1 v2 v3 v4 v5 v6 v7 v8 : Value) : wsets w g (i + 1) [v1, v2, v3, v4, v5, v6, v7, v8] = (((((((w.setCell ⟨g, i + 1, Option.none⟩ v1).setCell ⟨g, i + 2, Option.none⟩ v2).setCell ⟨g, i + 3, Option.none⟩ v3).setCell ⟨g, i + 4, Option.none⟩ v4).setCell ⟨g, i + 5, Option.none⟩ v5).setCell ⟨g, i + 6, Option.none⟩ v6).setCell ⟨g, i + 7, Option.none⟩ v7).setCell ⟨g, i + 8, Option.none⟩ v8 := rfl
/-- What is marked. -/
def mkOne (k : Nat) : FlowV := ⟨1 + 9 * (k : Int), mtS (1 + 9 * k + 1), 1 + 9 * (k : Int) + 1 + 1, 1 + 9 * (k : Int) + 1 + 1 + 1, 1 + 9 * (k : Int) + 1 + 1 + 1 + 1, 1 + 9 * (k : Int) + 1 + 1 + 1 + 1 + 1, 1 + 9 * (k : Int) + 1 + 1 + 1 + 1 + 1 + 1, 1 + 9 * (k : Int) + 1 + 1 + 1 + 1 + 1 + 1 + 1, 1 + 9 * (k : Int) + 1 + 1 + 1 + 1 + 1 + 1 + 1 + 1⟩
def mk9 (n : Nat) : List FlowV := (List.range n).map mkOne
theorem mk9_len (n : Nat) : (mk9 n).length = n := by simp [mk9]
theorem mk9_at (n i : Nat) (h : i < n) : (mk9 n)[i]? = some (mkOne i) := by rw [mk9, List.getElem?_map, List.getElem?_range h]; rfl
theorem mtS_len (k : Nat) (h : k ≤ 1000000000000) : (mtS k).size ≤ 1000 := by
  have : ∀ (m k : Nat) (L : List Int), k < 10 ^ m → (mtF k L).length ≤ L.length + m := by
    intro m
    induction m with
    | zero => intro k L h; simp at h; subst h; rw [mtF_zero]; omega
    | succ m ih =>
      intro k L h
      by_cases h0 : k = 0
      · subst h0; rw [mtF_zero]; omega
      · rw [mtF_step (by omega)]
        have := ih (k / 10) ((48 + ((k % 10 : Nat) : Int)) :: L) (by rw [Nat.div_lt_iff_lt_mul (by omega)]; rw [Nat.pow_succ] at h; exact h)
        rw [List.length_cons] at this
        omega
  have h1 := this 13 k [] (by omega)
  unfold mtS
  simp [ByteArray.size_append, strOfNums_size] at h1 ⊢
  omega
theorem int_wf9 {n : Int} (h0 : 0 ≤ n) (h1 : n ≤ 1000000000000) : (Lit.int .i64 n).wf = true := by
  have : IntKind.i64.min = -9223372036854775808 := by decide
  have : IntKind.i64.max = 9223372036854775807 := by decide
  simp [Lit.wf]
  omega
theorem mkOne_ok (k : Nat) (h : k ≤ 1048576) : FlRok (mkOne k) := by
  unfold FlRok mkOne
  dsimp only
  exact ⟨int_wf9 (by omega) (by omega), Nat.le_trans (mtS_len _ (by omega)) (by unfold maxLen; omega), int_wf9 (by omega) (by omega), int_wf9 (by omega) (by omega), int_wf9 (by omega) (by omega), int_wf9 (by omega) (by omega), int_wf9 (by omega) (by omega), int_wf9 (by omega) (by omega), int_wf9 (by omega) (by omega)⟩
theorem mk9_ok (n : Nat) (h : n ≤ 1048576) : ∀ x, x ∈ mk9 n → FlRok x := by
  intro x hx
  unfold mk9 at hx
  simp at hx
  obtain ⟨i, hi, rfl⟩ := hx
  exact mkOne_ok i (by omega)
set_option maxHeartbeats 4000000 in
theorem markFlowS_any (a : Option Addr) (n cap B : Nat) (L : List FlowV) (w : World) (h : OwnS wvG 9 28 w B (.slice a n cap) L) (hlen : n ≤ 1048576) :
    Calls Try.prog 29 #[.slice a n cap, .int .i64 1] w fun e w' => e = .returned (.int .i64 (1 + 9 * (n : Int))) ∧ OwnS wvG 9 28 w' B (.slice a n cap) (mk9 n) ∧ w.grownBy w' (Value.slice a n cap).ownBlock := by
  have H : Hid (OwnS wvG 9 28 w B (.slice a n cap) L) := h
  have hn := h.len
  clear h
  go_enter Try.func29, Try.ntmps29
  go_wp2
  go_loopw [1, 5] (fun m i wr => ∃ (k : Nat) (L' : List FlowV), k ≤ n ∧ i = .int .i64 k ∧ m = .int .i64 (1 + 9 * (k : Int)) ∧ Hid (OwnS wvG 9 28 wr B (.slice a n cap) L' ∧ L'.length = n ∧ L'.take k = (mk9 n).take k ∧ w.grownBy wr (Value.slice a n cap).ownBlock)) (fun _ i _ => n - (intOf i).toNat)
  case atStart => exact ⟨0, L, Nat.zero_le _, rfl, rfl, H.out, hn, rfl, grown_refl w _⟩
  case round =>
    obtain ⟨k, L', hk, rfl, rfl, X⟩ := hrel
    by_cases hlt : k < n
    · obtain ⟨g, rfl, hBg, hg, -⟩ := X.out.1.form (by rw [X.out.2.1]; omega)
      obtain ⟨x, hx⟩ := at_of (k := k) X.out.2.1 hlt
      have hltz : (k : Int) < (n : Int) := by omega
      obtain ⟨c0, z0⟩ := X.out.1.cell wvG_len (j := 0) hx rfl
      replace c0 : wr.cell? ⟨g, k * 9, none⟩ = some (.int .i64 x.pr) := c0
      replace z0 : wr.frozen? ⟨g, k * 9, none⟩ = false := z0
      have s1 := X.out.1.set1 wvG_len (j := 0) (y := { x with pr := 1 + 9 * (k : Int) }) hx (by omega) rfl
      have HM : Hid (∀ w, Calls Try.prog 62 #[.int .i64 (1 + 9 * (k : Int) + 1)] w fun e w' => e = .returned (.string (mtS (1 + 9 * k + 1))) ∧ Grw w w') := fun w => by
        have := markText_any (1 + 9 * k + 1) w (by omega) (by omega)
        rw [show (((1 + 9 * k + 1 : Nat)) : Int) = 1 + 9 * (k : Int) + 1 by omega] at this
        exact this
      have Y1 : Hid (OwnS wvG 9 28 (wr.setCell ⟨g, k * 9, none⟩ (.int .i64 (1 + 9 * (k : Int)))) B (.slice (some ⟨g, 0, none⟩) n cap) (L'.set k { x with pr := 1 + 9 * (k : Int) }) ∧ w.grownBy (wr.setCell ⟨g, k * 9, none⟩ (.int .i64 (1 + 9 * (k : Int)))) (some g)) := ⟨s1.1, grown_tr X.out.2.2.2 s1.2⟩
      have hT : Hid (L'.length = n ∧ L'.take k = (mk9 n).take k) := ⟨X.out.2.1, X.out.2.2.1⟩
      clear s1 X
      go_wp2_with fail
      refine (HM.out _).mono ?_
      rintro e w3 ⟨rfl, g3⟩
      have o3 := Y1.out.1.now g3.below
      have hx3 : (L'.set k { x with pr := 1 + 9 * (k : Int) })[k]? = some { x with pr := 1 + 9 * (k : Int) } := List.getElem?_set_self (by rw [hT.out.1]; exact hlt)
      obtain ⟨c1, z1⟩ := o3.cell wvG_len (j := 1) hx3 rfl
      obtain ⟨c2, z2⟩ := o3.cell wvG_len (j := 2) hx3 rfl
      obtain ⟨c3, z3⟩ := o3.cell wvG_len (j := 3) hx3 rfl
      obtain ⟨c4, z4⟩ := o3.cell wvG_len (j := 4) hx3 rfl
      obtain ⟨c5, z5⟩ := o3.cell wvG_len (j := 5) hx3 rfl
      obtain ⟨c6, z6⟩ := o3.cell wvG_len (j := 6) hx3 rfl
      obtain ⟨c7, z7⟩ := o3.cell wvG_len (j := 7) hx3 rfl
      obtain ⟨c8, z8⟩ := o3.cell wvG_len (j := 8) hx3 rfl
      have G3 : Hid (w.grownBy w3 (some g)) := grown_tr Y1.out.2 (g3.grown _)
      have Y0 : ∀ W1, W1 = (((((((w3.setCell ⟨g, k * 9 + 1, none⟩ (.string (mtS (1 + 9 * k + 1)))).setCell ⟨g, k * 9 + 2, none⟩ (.int .i64 (1 + 9 * (k : Int) + 1 + 1))).setCell ⟨g, k * 9 + 3, none⟩ (.int .i64 (1 + 9 * (k : Int) + 1 + 1 + 1))).setCell ⟨g, k * 9 + 4, none⟩ (.int .i64 (1 + 9 * (k : Int) + 1 + 1 + 1 + 1))).setCell ⟨g, k * 9 + 5, none⟩ (.int .i64 (1 + 9 * (k : Int) + 1 + 1 + 1 + 1 + 1))).setCell ⟨g, k * 9 + 6, none⟩ (.int .i64 (1 + 9 * (k : Int) + 1 + 1 + 1 + 1 + 1 + 1))).setCell ⟨g, k * 9 + 7, none⟩ (.int .i64 (1 + 9 * (k : Int) + 1 + 1 + 1 + 1 + 1 + 1 + 1))).setCell ⟨g, k * 9 + 8, none⟩ (.int .i64 (1 + 9 * (k : Int) + 1 + 1 + 1 + 1 + 1 + 1 + 1 + 1)) → OwnS wvG 9 28 W1 B (.slice (some ⟨g, 0, none⟩) n cap) (L'.set k (mkOne k)) ∧ (L'.set k (mkOne k)).length = n ∧ (L'.set k (mkOne k)).take (k + 1) = (mk9 n).take (k + 1) ∧ w.grownBy W1 (some g) := by
        intro W1 hW1
        have h2 := o3.tail wvG_len (j := 1) (mkOne k) hx3 (by omega) rfl
        have e3 : W1 = wsets w3 g (k * 9 + 1) ((wvG (mkOne k)).drop 1) := by rw [hW1]; exact (wsets8t w3 g (k * 9) (.string (mtS (1 + 9 * k + 1))) (.int .i64 (1 + 9 * (k : Int) + 1 + 1)) (.int .i64 (1 + 9 * (k : Int) + 1 + 1 + 1)) (.int .i64 (1 + 9 * (k : Int) + 1 + 1 + 1 + 1)) (.int .i64 (1 + 9 * (k : Int) + 1 + 1 + 1 + 1 + 1)) (.int .i64 (1 + 9 * (k : Int) + 1 + 1 + 1 + 1 + 1 + 1)) (.int .i64 (1 + 9 * (k : Int) + 1 + 1 + 1 + 1 + 1 + 1 + 1)) (.int .i64 (1 + 9 * (k : Int) + 1 + 1 + 1 + 1 + 1 + 1 + 1 + 1))).symm
        rw [← e3, List.set_set] at h2
        exact ⟨h2.1, by rw [List.length_set]; exact hT.out.1, takeS_set (by rw [hT.out.1, mk9_len]) (mk9_at n k hlt) hT.out.2, grown_tr G3.out h2.2⟩
      have Y : Hid (OwnS wvG 9 28 ((((((((w3.setCell ⟨g, k * 9 + 1, none⟩ (.string (mtS (1 + 9 * k + 1)))).setCell ⟨g, k * 9 + 2, none⟩ (.int .i64 (1 + 9 * (k : Int) + 1 + 1))).setCell ⟨g, k * 9 + 3, none⟩ (.int .i64 (1 + 9 * (k : Int) + 1 + 1 + 1))).setCell ⟨g, k * 9 + 4, none⟩ (.int .i64 (1 + 9 * (k : Int) + 1 + 1 + 1 + 1))).setCell ⟨g, k * 9 + 5, none⟩ (.int .i64 (1 + 9 * (k : Int) + 1 + 1 + 1 + 1 + 1))).setCell ⟨g, k * 9 + 6, none⟩ (.int .i64 (1 + 9 * (k : Int) + 1 + 1 + 1 + 1 + 1 + 1))).setCell ⟨g, k * 9 + 7, none⟩ (.int .i64 (1 + 9 * (k : Int) + 1 + 1 + 1 + 1 + 1 + 1 + 1))).setCell ⟨g, k * 9 + 8, none⟩ (.int .i64 (1 + 9 * (k : Int) + 1 + 1 + 1 + 1 + 1 + 1 + 1 + 1))) B (.slice (some ⟨g, 0, none⟩) n cap) (L'.set k (mkOne k)) ∧ (L'.set k (mkOne k)).length = n ∧ (L'.set k (mkOne k)).take (k + 1) = (mk9 n).take (k + 1) ∧ w.grownBy ((((((((w3.setCell ⟨g, k * 9 + 1, none⟩ (.string (mtS (1 + 9 * k + 1)))).setCell ⟨g, k * 9 + 2, none⟩ (.int .i64 (1 + 9 * (k : Int) + 1 + 1))).setCell ⟨g, k * 9 + 3, none⟩ (.int .i64 (1 + 9 * (k : Int) + 1 + 1 + 1))).setCell ⟨g, k * 9 + 4, none⟩ (.int .i64 (1 + 9 * (k : Int) + 1 + 1 + 1 + 1))).setCell ⟨g, k * 9 + 5, none⟩ (.int .i64 (1 + 9 * (k : Int) + 1 + 1 + 1 + 1 + 1))).setCell ⟨g, k * 9 + 6, none⟩ (.int .i64 (1 + 9 * (k : Int) + 1 + 1 + 1 + 1 + 1 + 1))).setCell ⟨g, k * 9 + 7, none⟩ (.int .i64 (1 + 9 * (k : Int) + 1 + 1 + 1 + 1 + 1 + 1 + 1))).setCell ⟨g, k * 9 + 8, none⟩ (.int .i64 (1 + 9 * (k : Int) + 1 + 1 + 1 + 1 + 1 + 1 + 1 + 1))) (some g)) := Y0 _ rfl
      clear Y0 Y1 o3 hx3 G3 g3 hT HM c0 z0 hx
      go_wp2
      go_roundw
      case rel => exact ⟨k + 1, _, by omega, by go_num, by go_num, Y⟩
      case measure => simp [intOf]; omega
    · obtain rfl : k = n := by omega
      have e1 : L' = mk9 k := by
        have := X.out.2.2.1
        rwa [List.take_of_length_le (by rw [X.out.2.1]; exact Nat.le_refl _), List.take_of_length_le (by rw [mk9_len]; exact Nat.le_refl _)] at this
      subst e1
      go_wp2
      go_ret
      exact ⟨rfl, X.out.1, X.out.2.2.2⟩
set_option maxHeartbeats 4000000 in
theorem heldFlowS_any (a : Option Addr) (n cap : Nat) (w : World) (h : Rw FlR 9 w a (mk9 n)) (hlen : n ≤ 1048576) :
    Calls Try.prog 30 #[.slice a n cap, .int .i64 1] w fun e w' => e = .returned (.int .i64 (1 + 9 * (n : Int))) ∧ Grw w w' := by
  have H : Hid (Rw FlR 9 w a (mk9 n)) := h
  clear h
  have hmix : Try.prog.follows .mixedOrders = true := by kernel_rfl
  go_enter Try.func30, Try.ntmps30
  go_wp2
  go_loopw [1, 5] (fun m i wr => ∃ k : Nat, k ≤ n ∧ i = .int .i64 k ∧ m = .int .i64 (1 + 9 * (k : Int)) ∧ Hid (Grw w wr)) (fun _ i _ => n - (intOf i).toNat)
  case atStart => exact ⟨0, Nat.zero_le _, rfl, rfl, Grw.refl w⟩
  case round =>
    obtain ⟨k, hk, rfl, rfl, HG⟩ := hrel
    by_cases hlt : k < n
    · obtain ⟨b, off, vs, rfl, hb, hvl, hR, hc⟩ := H.out.at FR.kp HG.out.below (mk9_at n k hlt)
      obtain ⟨rfl, -⟩ := hR
      have q0 : wr.cell? ⟨b, off + k * 9, none⟩ = some (.int .i64 (1 + 9 * (k : Int))) := hc 0 _ rfl
      have q1 : wr.cell? ⟨b, off + k * 9 + 1, none⟩ = some (.string (mtS (1 + 9 * k + 1))) := hc 1 _ rfl
      have q2 : wr.cell? ⟨b, off + k * 9 + 2, none⟩ = some (.int .i64 (1 + 9 * (k : Int) + 1 + 1)) := hc 2 _ rfl
      have q3 : wr.cell? ⟨b, off + k * 9 + 3, none⟩ = some (.int .i64 (1 + 9 * (k : Int) + 1 + 1 + 1)) := hc 3 _ rfl
      have q4 : wr.cell? ⟨b, off + k * 9 + 4, none⟩ = some (.int .i64 (1 + 9 * (k : Int) + 1 + 1 + 1 + 1)) := hc 4 _ rfl
      have q5 : wr.cell? ⟨b, off + k * 9 + 5, none⟩ = some (.int .i64 (1 + 9 * (k : Int) + 1 + 1 + 1 + 1 + 1)) := hc 5 _ rfl
      have q6 : wr.cell? ⟨b, off + k * 9 + 6, none⟩ = some (.int .i64 (1 + 9 * (k : Int) + 1 + 1 + 1 + 1 + 1 + 1)) := hc 6 _ rfl
      have q7 : wr.cell? ⟨b, off + k * 9 + 7, none⟩ = some (.int .i64 (1 + 9 * (k : Int) + 1 + 1 + 1 + 1 + 1 + 1 + 1)) := hc 7 _ rfl
      have q8 : wr.cell? ⟨b, off + k * 9 + 8, none⟩ = some (.int .i64 (1 + 9 * (k : Int) + 1 + 1 + 1 + 1 + 1 + 1 + 1 + 1)) := hc 8 _ rfl
      have y1 : ∀ n os, (grow (wr.drewN n) os).cell? ⟨b, off + k * 9 + 1, none⟩ = some (.string (mtS (1 + 9 * k + 1))) := fun n os => bkeep (Grw.below ⟨n, os, rfl⟩) q1
      have y2 : ∀ n os, (grow (wr.drewN n) os).cell? ⟨b, off + k * 9 + 2, none⟩ = some (.int .i64 (1 + 9 * (k : Int) + 1 + 1)) := fun n os => bkeep (Grw.below ⟨n, os, rfl⟩) q2
      have y3 : ∀ n os, (grow (wr.drewN n) os).cell? ⟨b, off + k * 9 + 3, none⟩ = some (.int .i64 (1 + 9 * (k : Int) + 1 + 1 + 1)) := fun n os => bkeep (Grw.below ⟨n, os, rfl⟩) q3
      have y4 : ∀ n os, (grow (wr.drewN n) os).cell? ⟨b, off + k * 9 + 4, none⟩ = some (.int .i64 (1 + 9 * (k : Int) + 1 + 1 + 1 + 1)) := fun n os => bkeep (Grw.below ⟨n, os, rfl⟩) q4
      have y5 : ∀ n os, (grow (wr.drewN n) os).cell? ⟨b, off + k * 9 + 5, none⟩ = some (.int .i64 (1 + 9 * (k : Int) + 1 + 1 + 1 + 1 + 1)) := fun n os => bkeep (Grw.below ⟨n, os, rfl⟩) q5
      have y6 : ∀ n os, (grow (wr.drewN n) os).cell? ⟨b, off + k * 9 + 6, none⟩ = some (.int .i64 (1 + 9 * (k : Int) + 1 + 1 + 1 + 1 + 1 + 1)) := fun n os => bkeep (Grw.below ⟨n, os, rfl⟩) q6
      have y7 : ∀ n os, (grow (wr.drewN n) os).cell? ⟨b, off + k * 9 + 7, none⟩ = some (.int .i64 (1 + 9 * (k : Int) + 1 + 1 + 1 + 1 + 1 + 1 + 1)) := fun n os => bkeep (Grw.below ⟨n, os, rfl⟩) q7
      have y8 : ∀ n os, (grow (wr.drewN n) os).cell? ⟨b, off + k * 9 + 8, none⟩ = some (.int .i64 (1 + 9 * (k : Int) + 1 + 1 + 1 + 1 + 1 + 1 + 1 + 1)) := fun n os => bkeep (Grw.below ⟨n, os, rfl⟩) q8
      have hn0 : ((1 + 9 * (k : Int)) != (1 + 9 * (k : Int))) = false := by simp
      have hn2 : ((1 + 9 * (k : Int) + 1 + 1) != (1 + 9 * (k : Int) + 1 + 1)) = false := by simp
      have hn3 : ((1 + 9 * (k : Int) + 1 + 1 + 1) != (1 + 9 * (k : Int) + 1 + 1 + 1)) = false := by simp
      have hn4 : ((1 + 9 * (k : Int) + 1 + 1 + 1 + 1) != (1 + 9 * (k : Int) + 1 + 1 + 1 + 1)) = false := by simp
      have hn5 : ((1 + 9 * (k : Int) + 1 + 1 + 1 + 1 + 1) != (1 + 9 * (k : Int) + 1 + 1 + 1 + 1 + 1)) = false := by simp
      have hn6 : ((1 + 9 * (k : Int) + 1 + 1 + 1 + 1 + 1 + 1) != (1 + 9 * (k : Int) + 1 + 1 + 1 + 1 + 1 + 1)) = false := by simp
      have hn7 : ((1 + 9 * (k : Int) + 1 + 1 + 1 + 1 + 1 + 1 + 1) != (1 + 9 * (k : Int) + 1 + 1 + 1 + 1 + 1 + 1 + 1)) = false := by simp
      have hn8 : ((1 + 9 * (k : Int) + 1 + 1 + 1 + 1 + 1 + 1 + 1 + 1) != (1 + 9 * (k : Int) + 1 + 1 + 1 + 1 + 1 + 1 + 1 + 1)) = false := by simp
      have HM : Hid (∀ w, Calls Try.prog 62 #[.int .i64 (1 + 9 * (k : Int) + 1)] w fun e w' => e = .returned (.string (mtS (1 + 9 * k + 1))) ∧ Grw w w') := fun w => by
        have := markText_any (1 + 9 * k + 1) w (by omega) (by omega)
        rw [show (((1 + 9 * k + 1 : Nat)) : Int) = 1 + 9 * (k : Int) + 1 by omega] at this
        exact this
      generalize mtS (1 + 9 * k + 1) = T at *
      have hT : (T.toList == T.toList) = true := by simp
      have hltz : (k : Int) < (n : Int) := by omega
      clear hc hvl
      go_wp2_with fail
      refine wp_region_quiet_grown (by assumption) (by kernel_rfl) ?_
      repeat (go_big_quiet_step (first | fail | (go_at_call 62; exact Calls.grown_of (HM.out _))))
      refine wpQuiet_nil ?_
      intro _ hw'
      obtain ⟨⟨nq, osq⟩, hw''⟩ := hw'
      subst hw''
      have HG2 : Hid (Grw w (grow (wr.drewN nq) osq)) := HG.out.trans ⟨nq, osq, rfl⟩
      have t2 := y2 nq osq
      have t3 := y3 nq osq
      have t4 := y4 nq osq
      have t5 := y5 nq osq
      have t6 := y6 nq osq
      have t7 := y7 nq osq
      have t8 := y8 nq osq
      clear y1 y2 y3 y4 y5 y6 y7 y8 q0 q1 q2 q3 q4 q5 q6 q7 q8 HG HM
      generalize (grow (wr.drewN nq) osq) = w5 at *
      go_wp2
      go_roundw
      case rel => exact ⟨k + 1, by omega, by go_num, by go_num, HG2⟩
      case measure => simp [intOf]; omega
    · obtain rfl : k = n := by omega
      go_wp2
      go_ret
      exact ⟨rfl, HG.out⟩
end Go.Proofs.Ythokaemeadhkjaa
