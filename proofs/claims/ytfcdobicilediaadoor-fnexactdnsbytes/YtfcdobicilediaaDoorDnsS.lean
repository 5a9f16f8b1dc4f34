/- DnsBytes, the model's side: l03Dns, l03DnsBytes. -/
import Derived.Test.YtfcdobicilediaaDoorDnsW
import Derived.Test.YtfcdobicilediaaDoorSpecFrame
import Derived.Test.YtfcdobicilediaaDoorWriterAid
namespace Go.Proofs.YtfcdobicilediaaDoor
open Go.RowKit Go.PlainAid
set_option linter.unusedVariables false
set_option maxRecDepth 20000

theorem dnsIn (n lo hi : Int) (w : World) : Calls Tryd.prog 48 #[.int .i64 n, .int .i64 lo, .int .i64 hi] w fun e w' => e = .returned (.bool (dec (lo ≤ n ∧ n ≤ hi))) ∧ w' = w := by
  have := specDnsIn n lo hi w
  have e : (decide (lo ≤ n) && decide (n ≤ hi)) = dec (lo ≤ n ∧ n ≤ hi) := by unfold dec; simp
  rw [e] at this
  exact this
theorem l03Dns_any (idn ty : Int) (ans : Bool) (s : ByteArray) (w : World) (hs : s.size ≤ 1048576) :
    Calls Tryd.prog 25 #[.agg #[.int .i64 idn, .int .i64 ty, .bool ans, .string s]] w fun e w' => e = .returned (.bool (dec ((0 ≤ idn ∧ idn ≤ 65535) ∧ (0 ≤ ty ∧ ty ≤ 65535) ∧ dnB s = true))) ∧ Below w.heap.size w w' := by
  have H1 : Hid (∀ w, Calls Tryd.prog 48 #[.int .i64 idn, .int .i64 0, .int .i64 65535] w fun e w' => e = .returned (.bool (dec (0 ≤ idn ∧ idn ≤ 65535))) ∧ w' = w) := fun w => dnsIn _ _ _ w
  have H2 : Hid (∀ w, Calls Tryd.prog 48 #[.int .i64 ty, .int .i64 0, .int .i64 65535] w fun e w' => e = .returned (.bool (dec (0 ≤ ty ∧ ty ≤ 65535))) ∧ w' = w) := fun w => dnsIn _ _ _ w
  have H3 : Hid (∀ w, Calls Tryd.prog 49 #[.string s] w fun e w' => e = .returned (.bool (dnB s)) ∧ Below w.heap.size w w') := fun w => specDnsNameOK_any s w hs
  clear hs
  by_cases h1 : 0 ≤ idn ∧ idn ≤ 65535
  rotate_left
  · rw [dec_n (fun h => h1 h.1)]
    rw [dec_n h1] at H1
    clear h1 H2 H3
    go_enter Tryd.func25, Tryd.ntmps25
    go_wp2_with fail
    refine (H1.out _).mono ?_
    rintro e w1 ⟨rfl, hw⟩
    subst hw
    go_wp2
    go_ret
    exact ⟨rfl, (Below.refl _ _).alloc (Nat.le_refl _) _⟩
  rw [dec_y h1] at H1
  by_cases h2 : 0 ≤ ty ∧ ty ≤ 65535
  rotate_left
  · rw [dec_n (fun h => h2 h.2.1)]
    rw [dec_n h2] at H2
    clear h1 h2 H3
    go_enter Tryd.func25, Tryd.ntmps25
    go_wp2_with fail
    refine (H1.out _).mono ?_
    rintro e w1 ⟨rfl, hw⟩
    subst hw
    go_wp2_with fail
    refine (H2.out _).mono ?_
    rintro e w1 ⟨rfl, hw⟩
    subst hw
    go_wp2
    go_ret
    exact ⟨rfl, (Below.refl _ _).alloc (Nat.le_refl _) _⟩
  rw [dec_y h2] at H2
  have e : dec ((0 ≤ idn ∧ idn ≤ 65535) ∧ (0 ≤ ty ∧ ty ≤ 65535) ∧ dnB s = true) = dnB s := by
    cases hd : dnB s
    · exact dec_n (fun h => by cases h.2.2)
    · exact dec_y ⟨h1, h2, rfl⟩
  rw [e]
  clear e h1 h2
  generalize dnB s = q at H3 ⊢
  go_enter Tryd.func25, Tryd.ntmps25
  go_wp2_with fail
  refine (H1.out _).mono ?_
  rintro e w1 ⟨rfl, hw⟩
  subst hw
  go_wp2_with fail
  refine (H2.out _).mono ?_
  rintro e w1 ⟨rfl, hw⟩
  subst hw
  go_wp2_with fail
  refine (H3.out _).mono ?_
  rintro e w1 ⟨rfl, b1⟩
  have B1 : Hid (Below w.heap.size w w1) := ((Below.refl _ _).alloc (Nat.le_refl _) _).trans (b1.mono (by simp))
  clear b1
  go_wp2
  go_ret
  exact ⟨rfl, B1.out⟩

theorem nblOne1 (n : Int) (h0 : 0 ≤ n) (h1 : n ≤ 255) : nbl n 1 = [n] := by
  have : nb n 1 0 = n := by unfold nb; simp; omega
  simp [nbl, List.range_succ, this]

set_option maxHeartbeats 2000000 in
theorem l03DnsBytes_any (idn ty : Int) (ans : Bool) (s : ByteArray) (w : World) (h1 : 0 ≤ idn ∧ idn ≤ 65535) (h2 : 0 ≤ ty ∧ ty ≤ 65535) (hs : dnB s = true) :
    Calls Tryd.prog 26 #[.agg #[.int .i64 idn, .int .i64 ty, .bool ans, .string s]] w fun e w' => (∃ t, e = .returned (.string t) ∧ nums t = dnsL idn ty ans s) ∧ Below w.heap.size w w' := by
  have hs80 : s.size ≤ 80 := by
    rcases Nat.lt_or_ge 80 s.size with h | h
    · rw [dn_no_len h] at hs; cases hs
    · exact h
  have hn8 : (pcs s).length ≤ 8 := by
    rcases Nat.lt_or_ge 8 (pcs s).length with h | h
    · rw [dn_no_many h] at hs; cases hs
    · exact h
  have hpl : ∀ j, j < (pcs s).length → (piece s j).size ≤ 20 := fun j hj => by
    unfold dnB at hs
    have h := (of_decide_eq_true hs).2.2 j hj
    unfold labB at h
    exact (of_decide_eq_true h).2.1
  obtain ⟨N1, hN1⟩ : ∃ s, s = strOf (nb idn 2) 2 := ⟨_, rfl⟩
  have zN1 : N1.size = 2 := by rw [hN1]; exact strOf_size _ _
  have HN1 : Hid (∀ wx : World, Calls Tryd.prog 50 #[.int .i64 idn, .int .i64 2] wx fun e w' => e = .returned (.string N1) ∧ Below wx.heap.size wx w') := fun wx => by rw [hN1]; exact l01Number_any idn 2 wx (by omega) (by omega) (by omega)
  have EN1 : Hid (nums N1 = nbl idn 2) := by show _ = _; rw [hN1]; exact nums_nb _ _
  clear hN1
  obtain ⟨N2, hN2⟩ : ∃ s, s = strOf (nb ty 2) 2 := ⟨_, rfl⟩
  have zN2 : N2.size = 2 := by rw [hN2]; exact strOf_size _ _
  have HN2 : Hid (∀ wx : World, Calls Tryd.prog 50 #[.int .i64 ty, .int .i64 2] wx fun e w' => e = .returned (.string N2) ∧ Below wx.heap.size wx w') := fun wx => by rw [hN2]; exact l01Number_any ty 2 wx (by omega) (by omega) (by omega)
  have EN2 : Hid (nums N2 = nbl ty 2) := by show _ = _; rw [hN2]; exact nums_nb _ _
  clear hN2
  have HC : Hid (∀ wx, Calls Tryd.prog 51 #[.string s, .int .u8 46] wx fun e w' => ∃ g c, e = .returned (.slice (some ⟨g, 0, none⟩) (pcs s).length c) ∧ StrAt w' g s ∧ Below wx.heap.size wx w') := fun wx => (l00Cut_any s wx (by omega)).mono fun e w' ⟨g, c, ps, e1, ho, hp, hb⟩ => by
    obtain rfl := pcs_of s ps hp
    exact ⟨g, c, e1, OwnS.at ho, hb⟩
  have K0 : Hid (Boxed (w.alloc (.cells #[.int .i64 idn, .int .i64 ty, .bool ans, .string s] 24)) w.heap.size [.int .i64 idn, .int .i64 ty, .bool ans, .string s]) := Boxed.new w _ _
  have HP : Hid (∀ j, j < (pcs s).length → (piece s j).size ≤ 20) := hpl
  clear hs hpl h1 h2
  obtain ⟨FL, hFL⟩ : ∃ F : ByteArray, F = if ans then ⟨#[129, 128]⟩ else ⟨#[1, 0]⟩ := ⟨_, rfl⟩
  have zFL : FL.size = 2 := by rw [hFL]; cases ans <;> rfl
  have EFL : Hid (nums FL = nbl (if ans then 33152 else 256) 2) := by show _ = _; rw [hFL]; cases ans <;> decide
  have ha0 : ∀ wx : World, (Op.stringOp .add N1 FL).run Tryd.prog wx = .ok (.string (N1 ++ FL)) wx := fun wx => run_string_add_sum (P := Tryd.prog) (w := wx) _ _ (by omega)
  obtain ⟨T0, hT0⟩ : ∃ T, T = N1 ++ FL ++ ⟨#[0, 1, 0, 0, 0, 0, 0, 0]⟩ := ⟨_, rfl⟩
  have zT0 : T0.size = 12 := by rw [hT0]; simp only [ByteArray.size_append, zN1, zFL]; rfl
  have ET0 : Hid (nums T0 = nbl idn 2 ++ nbl (if ans then 33152 else 256) 2 ++ nbl 1 2 ++ List.replicate 6 0) := by
    show _ = _
    rw [hT0, nums_append, nums_append, EN1.out, EFL.out, show nums (⟨#[0, 1, 0, 0, 0, 0, 0, 0]⟩ : ByteArray) = nbl 1 2 ++ List.replicate 6 0 by decide]
    simp
  have ha1 : ∀ wx : World, (Op.stringOp .add (N1 ++ FL) ⟨#[0, 1, 0, 0, 0, 0, 0, 0]⟩).run Tryd.prog wx = .ok (.string T0) wx := fun wx => by
    rw [hT0]
    exact run_string_add_sum (P := Tryd.prog) (w := wx) _ _ (by simp only [ByteArray.size_append]; show N1.size + FL.size + 8 ≤ _; omega)
  have HFL : Hid (FL = if ans then ⟨#[129, 128]⟩ else ⟨#[1, 0]⟩) := hFL
  clear hT0 hFL EN1 EFL
  go_enter Tryd.func26, Tryd.ntmps26
  cases ans
  · have eF : FL = ⟨#[1, 0]⟩ := HFL.out
    subst eF
    go_wp2_with fail
    refine (HN1.out _).mono ?_
    rintro e w1 ⟨rfl, b1⟩
    have X1 : Hid (Boxed w1 w.heap.size [.int .i64 idn, .int .i64 ty, .bool false, .string s] ∧ Below w.heap.size w w1 ∧ w.heap.size < w1.heap.size) := ⟨K0.out.below b1 (by simp), ((Below.refl _ _).alloc (Nat.le_refl _) _).trans (b1.mono (by simp)), by have := b1.size; simp at this; omega⟩
    clear b1 K0
    have c3 := X1.out.1.at 3 _ rfl
    go_wp2_with fail
    refine (HC.out _).mono ?_
    rintro e w2 ⟨g, c, rfl, s2, b2⟩
    obtain ⟨n, hn⟩ : ∃ n, n = (pcs s).length := ⟨_, rfl⟩
    rw [← hn]
    have HN : Hid (n = (pcs s).length) := hn
    have hnn : n ≤ 8 := by omega
    have X2 : Hid (Boxed w2 w.heap.size [.int .i64 idn, .int .i64 ty, .bool false, .string s] ∧ Below w.heap.size w w2 ∧ w.heap.size < w2.heap.size ∧ StrAt w2 g s ∧ g < w2.heap.size) := ⟨X1.out.1.below b2 X1.out.2.2, X1.out.2.1.trans (b2.mono (Nat.le_of_lt X1.out.2.2)), Nat.lt_of_lt_of_le X1.out.2.2 b2.size, s2, World.block_lt_of_cell? w2 _ (s2 0 (pcs_pos s))⟩
    clear b2 s2 X1 c3 hn HN1 HC
    have HL : Hid (∀ k, k ≤ n → (labsL s k).length ≤ 200) := fun k hk => by
      have h1 := labsL_len s k
      have h2 : szs s k ≤ 160 := szs_le20 s k (by omega) HP.out
      omega
    go_wp2
    go_loopw [4, 6] (fun o i wr => ∃ (k : Nat) (T : ByteArray), k ≤ n ∧ i = .int .i64 k ∧ o = .string T ∧ Hid (nums T = nums T0 ++ labsL s k ∧ Below w2.heap.size w2 wr)) (fun _ i _ => n - (intOf i).toNat)
    case atStart => exact ⟨0, T0, Nat.zero_le _, rfl, rfl, by simp [labsL], Below.refl _ _⟩
    case round =>
      obtain ⟨k, T, hk, rfl, rfl, X⟩ := hrel
      have zT : T.size = 12 + (labsL s k).length := by
        have := congrArg List.length X.out.1
        rw [nums_len, List.length_append, nums_len, zT0] at this
        exact this
      have hll := HL.out k hk
      by_cases hlt : k < n
      · have hltz : (k : Int) < (n : Int) := by omega
        have hc : wr.cell? ⟨g, k, none⟩ = some (.string (piece s k)) := by rw [X.out.2.cell (by exact X2.out.2.2.2.2)]; exact X2.out.2.2.2.1 k (by rw [← HN.out]; exact hlt)
        have hpz := HP.out k (by rw [← HN.out]; exact hlt)
        have EL : Hid (labsL s (k + 1) = labsL s k ++ [((piece s k).size : Int)] ++ nums (piece s k)) := rfl
        obtain ⟨q, hp⟩ : ∃ p, p = piece s k := ⟨_, rfl⟩
        rw [← hp] at hc hpz EL
        clear hp
        obtain ⟨N3, hN3⟩ : ∃ s, s = strOf (nb (q.size : Int) 1) 1 := ⟨_, rfl⟩
        have zN3 : N3.size = 1 := by rw [hN3]; exact strOf_size _ _
        have HN3 : Hid (∀ wx : World, Calls Tryd.prog 50 #[.int .i64 (q.size : Int), .int .i64 1] wx fun e w' => e = .returned (.string N3) ∧ Below wx.heap.size wx w') := fun wx => by rw [hN3]; exact l01Number_any (q.size : Int) 1 wx (by omega) (by omega) (by omega)
        have EN3 : Hid (nums N3 = [(q.size : Int)]) := by
          show _ = _
          rw [hN3, nums_nb]
          exact nblOne1 _ (by omega) (by omega)
        clear hN3
        have hb0 : ∀ wx : World, (Op.stringOp .add N3 q).run Tryd.prog wx = .ok (.string (N3 ++ q)) wx := fun wx => run_string_add_sum (P := Tryd.prog) (w := wx) _ _ (by omega)
        have hb1 : ∀ wx : World, (Op.stringOp .add T (N3 ++ q)).run Tryd.prog wx = .ok (.string (T ++ (N3 ++ q))) wx := fun wx => run_string_add_sum (P := Tryd.prog) (w := wx) _ _ (by simp only [ByteArray.size_append]; omega)
        go_wp2_with fail
        have BS : Hid (Below w2.heap.size w2 wr.drew) := X.out.2.drew
        have hc2 : w2.cell? ⟨g, k, none⟩ = some (.string q) := by rw [X.out.2.cell (by exact X2.out.2.2.2.2)] at hc; exact hc
        have KP : Hid (∀ wx, Below w2.heap.size w2 wx → wx.cell? ⟨g, k, none⟩ = some (.string q) ∧ Below w2.heap.size w2 wx) := fun wx hb => ⟨by rw [hb.cell (by exact X2.out.2.2.2.2)]; exact hc2, hb⟩
        clear hc2
        refine wp_region_held_drew (S := (fun wx => wx.cell? ⟨g, k, none⟩ = some (.string q) ∧ Below w2.heap.size w2 wx)) (by kernel_rfl) ?_ (fun hH0 => ?_)
        · exact KP.out _ BS.out
        refine wpAnyH_take (i := 0) (v := ?v1) rfl (by kernel_rfl) (by kernel_rfl) (by kernel_rfl) (fun _ _ _ h => h) (Or.inl ⟨by rfl, ?hy1⟩) (by assumption) ?rest1
        case hy1 => (intro w hSw; (try dsimp only at hSw); go_simp; (try with_reducible rfl))
        refine wpAnyH_take (i := 1) (v := ?v2) rfl (by kernel_rfl) (by kernel_rfl) (by kernel_rfl) (fun _ _ _ h => h) (Or.inl ⟨by rfl, ?hy2⟩) (by assumption) ?rest2
        case hy2 => (intro w hSw; (try dsimp only at hSw); go_simp; (try with_reducible rfl))
        refine wpAnyH_take (i := 2) (v := ?v3) rfl (by kernel_rfl) (by kernel_rfl) (by kernel_rfl) (fun _ _ _ h => h) (Or.inl ⟨by rfl, ?hy3⟩) (by assumption) ?rest3
        case hy3 => (intro w hSw; (try dsimp only at hSw); go_simp; (try with_reducible rfl))
        refine wpAnyH_take (i := 3) (v := ?v4) rfl (by kernel_rfl) (by kernel_rfl) (by kernel_rfl) (fun _ _ _ h => h) (Or.inl ⟨by rfl, ?hy4⟩) (by assumption) ?rest4
        case hy4 => (intro w hSw; (try dsimp only at hSw); go_simp; (try with_reducible rfl))
        refine wpAnyH_take (i := 4) (v := ?v5) rfl (by kernel_rfl) (by kernel_rfl) (by kernel_rfl) (fun _ _ _ h => h) (Or.inl ⟨by rfl, ?hy5⟩) (by assumption) ?rest5
        case hy5 => (intro w hSw; (try dsimp only at hSw); go_simp; (try with_reducible rfl))
        refine wpAnyH_take (i := 5) (v := ?v6) rfl (by kernel_rfl) (by kernel_rfl) (by kernel_rfl) (fun _ _ _ h => h) (Or.inl ⟨by rfl, ?hy6⟩) (by assumption) ?rest6
        case hy6 => (intro w hSw; (try dsimp only at hSw); go_simp; (try with_reducible rfl))
        refine wpAnyH_take (i := 7) (v := ?v7) rfl (by kernel_rfl) (by kernel_rfl) (by kernel_rfl) (fun _ _ _ h => h) (Or.inl ⟨by rfl, ?hy7⟩) (by assumption) ?rest7
        case hy7 => (intro w hSw; (try dsimp only at hSw); go_simp; (try with_reducible rfl))
        refine wpAnyH_take (i := 8) (v := ?v8) rfl (by kernel_rfl) (by kernel_rfl) (by kernel_rfl) (fun _ _ _ h => h) (Or.inl ⟨by rfl, ?hy8⟩) (by assumption) ?rest8
        case hy8 => (intro w hSw; (try dsimp only at hSw); go_simp; (try with_reducible rfl))
        refine wpAnyH_take (i := 9) (v := ?v9) rfl (by kernel_rfl) (by kernel_rfl) (by kernel_rfl) (fun _ _ _ h => h) (Or.inl ⟨by rfl, ?hy9⟩) (by assumption) ?rest9
        case hy9 => (intro w hSw; (try dsimp only at hSw); go_simp; (try with_reducible rfl))
        refine wpAnyH_take (i := 10) (v := ?v10) rfl (by kernel_rfl) (by kernel_rfl) (by kernel_rfl) (fun _ _ _ h => h) (Or.inl ⟨by rfl, ?hy10⟩) (by assumption) ?rest10
        case hy10 => (intro w hSw; (try dsimp only at hSw); go_simp; (try with_reducible rfl))
        refine wpAnyH_ready (rs := [6]) (by kernel_rfl) (by simp) ?_
        refine AllReadyH.cons rfl (fun K hK => ?_) ?_
        · go_simp
          go_at_call 50
          (with_reducible refine (HN3.out _).mono ?_)
          rintro e wc ⟨rfl, bc⟩
          have BC : Hid (Below w2.heap.size w2 wc) := BS.out.trans (bc.mono BS.out.size)
          clear bc
          refine hK.out _ _ ?_ (fun hH11 => ?_)
          · (try dsimp only)
            exact KP.out _ BC.out
          clear hK K hH0
          refine wpAnyH_take (i := 11) (v := ?v12) rfl (by kernel_rfl) (by kernel_rfl) (by kernel_rfl) (fun _ _ _ h => h) (Or.inl ⟨by rfl, ?hy12⟩) (by assumption) ?rest12
          case hy12 => (intro w hSw; (try dsimp only at hSw); go_simp; (try with_reducible rfl))
          refine wpAnyH_take (i := 12) (v := ?v13) rfl (by kernel_rfl) (by kernel_rfl) (by kernel_rfl) (fun _ _ _ h => h) (Or.inl ⟨by rfl, ?hy13⟩) (by assumption) ?rest13
          case hy13 => (intro w hSw; (try dsimp only at hSw); go_simp; (try with_reducible rfl))
          refine wpAnyH_take (i := 13) (v := ?v14) rfl (by kernel_rfl) (by kernel_rfl) (by kernel_rfl) (fun _ _ _ h => h) (Or.inl ⟨by rfl, ?hy14⟩) (by assumption) ?rest14
          case hy14 => (intro w hSw; (try dsimp only at hSw); go_simp; (try with_reducible rfl))
          refine wpAnyH_done (by kernel_rfl) ?_ _
          have XN : Hid (nums (T ++ (N3 ++ q)) = nums T0 ++ labsL s (k + 1) ∧ Below w2.heap.size w2 wc) := by
            refine ⟨?_, BC.out⟩
            rw [nums_append, nums_append, X.out.1, EN3.out, EL.out]
            simp
          clear BC BS KP hH11 X
          go_simp
          go_wp2
          go_roundw
          case rel => exact ⟨k + 1, T ++ (N3 ++ q), by omega, by go_num, (by first | rfl | trivial), XN⟩
          case measure => simp [intOf]; omega
        exact AllReadyH.nil
      · obtain rfl : k = n := by omega
        have e1 : wr.cell? ⟨w.heap.size, 1, none⟩ = some (.int .i64 ty) := (X2.out.1.below X.out.2 X2.out.2.2.1).at 1 _ rfl
        have hd0 : ∀ wx : World, (Op.stringOp .add T ⟨#[0]⟩).run Tryd.prog wx = .ok (.string (T ++ ⟨#[0]⟩)) wx := fun wx => run_string_add_sum (P := Tryd.prog) (w := wx) _ _ (by show T.size + 1 ≤ _; omega)
        have hd1 : ∀ wx : World, (Op.stringOp .add (T ++ ⟨#[0]⟩) N2).run Tryd.prog wx = .ok (.string (T ++ ⟨#[0]⟩ ++ N2)) wx := fun wx => run_string_add_sum (P := Tryd.prog) (w := wx) _ _ (by simp only [ByteArray.size_append]; show T.size + 1 + N2.size ≤ _; omega)
        have hd2 : ∀ wx : World, (Op.stringOp .add (T ++ ⟨#[0]⟩ ++ N2) ⟨#[0, 1]⟩).run Tryd.prog wx = .ok (.string (T ++ ⟨#[0]⟩ ++ N2 ++ ⟨#[0, 1]⟩)) wx := fun wx => run_string_add_sum (P := Tryd.prog) (w := wx) _ _ (by simp only [ByteArray.size_append]; show T.size + 1 + N2.size + 2 ≤ _; omega)
        go_wp2_with fail
        refine (HN2.out _).mono ?_
        rintro e w9 ⟨rfl, b9⟩
        have B9 : Hid (Below w.heap.size w w9) := X2.out.2.1.trans ((X.out.2.trans (b9.mono X.out.2.size)).mono (Nat.le_of_lt X2.out.2.2.1))
        clear b9 e1
        go_wp2
        go_ret
        refine ⟨⟨_, rfl, ?_⟩, B9.out⟩
        simp only [nums_append]
        rw [X.out.1, ET0.out, EN2.out, HN.out, dnsL, show nums (⟨#[0]⟩ : ByteArray) = [0] from by decide, show nums (⟨#[0, 1]⟩ : ByteArray) = nbl 1 2 from by decide]
        all_goals simp
  · have eF : FL = ⟨#[129, 128]⟩ := HFL.out
    subst eF
    go_wp2_with fail
    refine (HN1.out _).mono ?_
    rintro e w1 ⟨rfl, b1⟩
    have X1 : Hid (Boxed w1 w.heap.size [.int .i64 idn, .int .i64 ty, .bool true, .string s] ∧ Below w.heap.size w w1 ∧ w.heap.size < w1.heap.size) := ⟨K0.out.below b1 (by simp), ((Below.refl _ _).alloc (Nat.le_refl _) _).trans (b1.mono (by simp)), by have := b1.size; simp at this; omega⟩
    clear b1 K0
    have c3 := X1.out.1.at 3 _ rfl
    go_wp2_with fail
    refine (HC.out _).mono ?_
    rintro e w2 ⟨g, c, rfl, s2, b2⟩
    obtain ⟨n, hn⟩ : ∃ n, n = (pcs s).length := ⟨_, rfl⟩
    rw [← hn]
    have HN : Hid (n = (pcs s).length) := hn
    have hnn : n ≤ 8 := by omega
    have X2 : Hid (Boxed w2 w.heap.size [.int .i64 idn, .int .i64 ty, .bool true, .string s] ∧ Below w.heap.size w w2 ∧ w.heap.size < w2.heap.size ∧ StrAt w2 g s ∧ g < w2.heap.size) := ⟨X1.out.1.below b2 X1.out.2.2, X1.out.2.1.trans (b2.mono (Nat.le_of_lt X1.out.2.2)), Nat.lt_of_lt_of_le X1.out.2.2 b2.size, s2, World.block_lt_of_cell? w2 _ (s2 0 (pcs_pos s))⟩
    clear b2 s2 X1 c3 hn HN1 HC
    have HL : Hid (∀ k, k ≤ n → (labsL s k).length ≤ 200) := fun k hk => by
      have h1 := labsL_len s k
      have h2 : szs s k ≤ 160 := szs_le20 s k (by omega) HP.out
      omega
    go_wp2
    go_loopw [4, 6] (fun o i wr => ∃ (k : Nat) (T : ByteArray), k ≤ n ∧ i = .int .i64 k ∧ o = .string T ∧ Hid (nums T = nums T0 ++ labsL s k ∧ Below w2.heap.size w2 wr)) (fun _ i _ => n - (intOf i).toNat)
    case atStart => exact ⟨0, T0, Nat.zero_le _, rfl, rfl, by simp [labsL], Below.refl _ _⟩
    case round =>
      obtain ⟨k, T, hk, rfl, rfl, X⟩ := hrel
      have zT : T.size = 12 + (labsL s k).length := by
        have := congrArg List.length X.out.1
        rw [nums_len, List.length_append, nums_len, zT0] at this
        exact this
      have hll := HL.out k hk
      by_cases hlt : k < n
      · have hltz : (k : Int) < (n : Int) := by omega
        have hc : wr.cell? ⟨g, k, none⟩ = some (.string (piece s k)) := by rw [X.out.2.cell (by exact X2.out.2.2.2.2)]; exact X2.out.2.2.2.1 k (by rw [← HN.out]; exact hlt)
        have hpz := HP.out k (by rw [← HN.out]; exact hlt)
        have EL : Hid (labsL s (k + 1) = labsL s k ++ [((piece s k).size : Int)] ++ nums (piece s k)) := rfl
        obtain ⟨q, hp⟩ : ∃ p, p = piece s k := ⟨_, rfl⟩
        rw [← hp] at hc hpz EL
        clear hp
        obtain ⟨N3, hN3⟩ : ∃ s, s = strOf (nb (q.size : Int) 1) 1 := ⟨_, rfl⟩
        have zN3 : N3.size = 1 := by rw [hN3]; exact strOf_size _ _
        have HN3 : Hid (∀ wx : World, Calls Tryd.prog 50 #[.int .i64 (q.size : Int), .int .i64 1] wx fun e w' => e = .returned (.string N3) ∧ Below wx.heap.size wx w') := fun wx => by rw [hN3]; exact l01Number_any (q.size : Int) 1 wx (by omega) (by omega) (by omega)
        have EN3 : Hid (nums N3 = [(q.size : Int)]) := by
          show _ = _
          rw [hN3, nums_nb]
          exact nblOne1 _ (by omega) (by omega)
        clear hN3
        have hb0 : ∀ wx : World, (Op.stringOp .add N3 q).run Tryd.prog wx = .ok (.string (N3 ++ q)) wx := fun wx => run_string_add_sum (P := Tryd.prog) (w := wx) _ _ (by omega)
        have hb1 : ∀ wx : World, (Op.stringOp .add T (N3 ++ q)).run Tryd.prog wx = .ok (.string (T ++ (N3 ++ q))) wx := fun wx => run_string_add_sum (P := Tryd.prog) (w := wx) _ _ (by simp only [ByteArray.size_append]; omega)
        go_wp2_with fail
        have BS : Hid (Below w2.heap.size w2 wr.drew) := X.out.2.drew
        have hc2 : w2.cell? ⟨g, k, none⟩ = some (.string q) := by rw [X.out.2.cell (by exact X2.out.2.2.2.2)] at hc; exact hc
        have KP : Hid (∀ wx, Below w2.heap.size w2 wx → wx.cell? ⟨g, k, none⟩ = some (.string q) ∧ Below w2.heap.size w2 wx) := fun wx hb => ⟨by rw [hb.cell (by exact X2.out.2.2.2.2)]; exact hc2, hb⟩
        clear hc2
        refine wp_region_held_drew (S := (fun wx => wx.cell? ⟨g, k, none⟩ = some (.string q) ∧ Below w2.heap.size w2 wx)) (by kernel_rfl) ?_ (fun hH0 => ?_)
        · exact KP.out _ BS.out
        refine wpAnyH_take (i := 0) (v := ?v501) rfl (by kernel_rfl) (by kernel_rfl) (by kernel_rfl) (fun _ _ _ h => h) (Or.inl ⟨by rfl, ?hy501⟩) (by assumption) ?rest501
        case hy501 => (intro w hSw; (try dsimp only at hSw); go_simp; (try with_reducible rfl))
        refine wpAnyH_take (i := 1) (v := ?v502) rfl (by kernel_rfl) (by kernel_rfl) (by kernel_rfl) (fun _ _ _ h => h) (Or.inl ⟨by rfl, ?hy502⟩) (by assumption) ?rest502
        case hy502 => (intro w hSw; (try dsimp only at hSw); go_simp; (try with_reducible rfl))
        refine wpAnyH_take (i := 2) (v := ?v503) rfl (by kernel_rfl) (by kernel_rfl) (by kernel_rfl) (fun _ _ _ h => h) (Or.inl ⟨by rfl, ?hy503⟩) (by assumption) ?rest503
        case hy503 => (intro w hSw; (try dsimp only at hSw); go_simp; (try with_reducible rfl))
        refine wpAnyH_take (i := 3) (v := ?v504) rfl (by kernel_rfl) (by kernel_rfl) (by kernel_rfl) (fun _ _ _ h => h) (Or.inl ⟨by rfl, ?hy504⟩) (by assumption) ?rest504
        case hy504 => (intro w hSw; (try dsimp only at hSw); go_simp; (try with_reducible rfl))
        refine wpAnyH_take (i := 4) (v := ?v505) rfl (by kernel_rfl) (by kernel_rfl) (by kernel_rfl) (fun _ _ _ h => h) (Or.inl ⟨by rfl, ?hy505⟩) (by assumption) ?rest505
        case hy505 => (intro w hSw; (try dsimp only at hSw); go_simp; (try with_reducible rfl))
        refine wpAnyH_take (i := 5) (v := ?v506) rfl (by kernel_rfl) (by kernel_rfl) (by kernel_rfl) (fun _ _ _ h => h) (Or.inl ⟨by rfl, ?hy506⟩) (by assumption) ?rest506
        case hy506 => (intro w hSw; (try dsimp only at hSw); go_simp; (try with_reducible rfl))
        refine wpAnyH_take (i := 7) (v := ?v507) rfl (by kernel_rfl) (by kernel_rfl) (by kernel_rfl) (fun _ _ _ h => h) (Or.inl ⟨by rfl, ?hy507⟩) (by assumption) ?rest507
        case hy507 => (intro w hSw; (try dsimp only at hSw); go_simp; (try with_reducible rfl))
        refine wpAnyH_take (i := 8) (v := ?v508) rfl (by kernel_rfl) (by kernel_rfl) (by kernel_rfl) (fun _ _ _ h => h) (Or.inl ⟨by rfl, ?hy508⟩) (by assumption) ?rest508
        case hy508 => (intro w hSw; (try dsimp only at hSw); go_simp; (try with_reducible rfl))
        refine wpAnyH_take (i := 9) (v := ?v509) rfl (by kernel_rfl) (by kernel_rfl) (by kernel_rfl) (fun _ _ _ h => h) (Or.inl ⟨by rfl, ?hy509⟩) (by assumption) ?rest509
        case hy509 => (intro w hSw; (try dsimp only at hSw); go_simp; (try with_reducible rfl))
        refine wpAnyH_take (i := 10) (v := ?v510) rfl (by kernel_rfl) (by kernel_rfl) (by kernel_rfl) (fun _ _ _ h => h) (Or.inl ⟨by rfl, ?hy510⟩) (by assumption) ?rest510
        case hy510 => (intro w hSw; (try dsimp only at hSw); go_simp; (try with_reducible rfl))
        refine wpAnyH_ready (rs := [6]) (by kernel_rfl) (by simp) ?_
        refine AllReadyH.cons rfl (fun K hK => ?_) ?_
        · go_simp
          go_at_call 50
          (with_reducible refine (HN3.out _).mono ?_)
          rintro e wc ⟨rfl, bc⟩
          have BC : Hid (Below w2.heap.size w2 wc) := BS.out.trans (bc.mono BS.out.size)
          clear bc
          refine hK.out _ _ ?_ (fun hH511 => ?_)
          · (try dsimp only)
            exact KP.out _ BC.out
          clear hK K hH0
          refine wpAnyH_take (i := 11) (v := ?v512) rfl (by kernel_rfl) (by kernel_rfl) (by kernel_rfl) (fun _ _ _ h => h) (Or.inl ⟨by rfl, ?hy512⟩) (by assumption) ?rest512
          case hy512 => (intro w hSw; (try dsimp only at hSw); go_simp; (try with_reducible rfl))
          refine wpAnyH_take (i := 12) (v := ?v513) rfl (by kernel_rfl) (by kernel_rfl) (by kernel_rfl) (fun _ _ _ h => h) (Or.inl ⟨by rfl, ?hy513⟩) (by assumption) ?rest513
          case hy513 => (intro w hSw; (try dsimp only at hSw); go_simp; (try with_reducible rfl))
          refine wpAnyH_take (i := 13) (v := ?v514) rfl (by kernel_rfl) (by kernel_rfl) (by kernel_rfl) (fun _ _ _ h => h) (Or.inl ⟨by rfl, ?hy514⟩) (by assumption) ?rest514
          case hy514 => (intro w hSw; (try dsimp only at hSw); go_simp; (try with_reducible rfl))
          refine wpAnyH_done (by kernel_rfl) ?_ _
          have XN : Hid (nums (T ++ (N3 ++ q)) = nums T0 ++ labsL s (k + 1) ∧ Below w2.heap.size w2 wc) := by
            refine ⟨?_, BC.out⟩
            rw [nums_append, nums_append, X.out.1, EN3.out, EL.out]
            simp
          clear BC BS KP hH511 X
          go_simp
          go_wp2
          go_roundw
          case rel => exact ⟨k + 1, T ++ (N3 ++ q), by omega, by go_num, (by first | rfl | trivial), XN⟩
          case measure => simp [intOf]; omega
        exact AllReadyH.nil
      · obtain rfl : k = n := by omega
        have e1 : wr.cell? ⟨w.heap.size, 1, none⟩ = some (.int .i64 ty) := (X2.out.1.below X.out.2 X2.out.2.2.1).at 1 _ rfl
        have hd0 : ∀ wx : World, (Op.stringOp .add T ⟨#[0]⟩).run Tryd.prog wx = .ok (.string (T ++ ⟨#[0]⟩)) wx := fun wx => run_string_add_sum (P := Tryd.prog) (w := wx) _ _ (by show T.size + 1 ≤ _; omega)
        have hd1 : ∀ wx : World, (Op.stringOp .add (T ++ ⟨#[0]⟩) N2).run Tryd.prog wx = .ok (.string (T ++ ⟨#[0]⟩ ++ N2)) wx := fun wx => run_string_add_sum (P := Tryd.prog) (w := wx) _ _ (by simp only [ByteArray.size_append]; show T.size + 1 + N2.size ≤ _; omega)
        have hd2 : ∀ wx : World, (Op.stringOp .add (T ++ ⟨#[0]⟩ ++ N2) ⟨#[0, 1]⟩).run Tryd.prog wx = .ok (.string (T ++ ⟨#[0]⟩ ++ N2 ++ ⟨#[0, 1]⟩)) wx := fun wx => run_string_add_sum (P := Tryd.prog) (w := wx) _ _ (by simp only [ByteArray.size_append]; show T.size + 1 + N2.size + 2 ≤ _; omega)
        go_wp2_with fail
        refine (HN2.out _).mono ?_
        rintro e w9 ⟨rfl, b9⟩
        have B9 : Hid (Below w.heap.size w w9) := X2.out.2.1.trans ((X.out.2.trans (b9.mono X.out.2.size)).mono (Nat.le_of_lt X2.out.2.2.1))
        clear b9 e1
        go_wp2
        go_ret
        refine ⟨⟨_, rfl, ?_⟩, B9.out⟩
        simp only [nums_append]
        rw [X.out.1, ET0.out, EN2.out, HN.out, dnsL, show nums (⟨#[0]⟩ : ByteArray) = [0] from by decide, show nums (⟨#[0, 1]⟩ : ByteArray) = nbl 1 2 from by decide]
        all_goals simp
end Go.Proofs.YtfcdobicilediaaDoor
