/- The walk of laws.FnOrder: true at every two rows of bytes. -/
import Derived.Test.YtfcdobicilediaaDrawW
import Derived.Test.YtfcdobicilediaaOrdF
namespace Go.Proofs.Ytfcdobicilediaa
open Go.RowKit Go.PlainAid Go.Sort Go.Proofs.Ytfcdobicilediaa.Fo
set_option linter.unusedVariables false
set_option maxRecDepth 20000

/-- 'append(v, x...)' of two rows of one's own. -/
theorem wpl_rowW (w : World) {ops : Array Oper} {rest : List Oper} {o : Oper} {a : Act} {Q : Exit → Act → World → Prop} (hgd : o.guard = none) (s x : Operand)
    (ho : o.op = .call { callee := .builtin .append, args := #[s, x], argTypes := #[41, 41] })
    (B : Nat) (v : Value) (L : List (Int × Int)) (hs : a.eval s = v) (hown : OwnP 48 w B v L)
    (Bx : Nat) (vx : Value) (ps : List (Int × Int)) (hx : a.eval x = vx) (hsrc : OwnP 48 w Bx vx ps) (hlen : L.length + ps.length ≤ 5000) (hB : B ≤ w.heap.size)
    (h : ∀ v' w', Hid (OwnP 48 w' B v' (L ++ ps) ∧ Below B w w') → wpList Try.prog ops Q rest (a.put o.dst v') w') : wpList Try.prog ops Q (o :: rest) a w := by
  obtain ⟨i0, hi, hz0, hz1, hz2⟩ := info_parts wordInfo2
  rcases hsrc.2 with ⟨h1, h2⟩ | ⟨g, cap, cur, h1, hb, hg, hle, hm, hz, ht⟩
  · have e0 : ps = [] := List.eq_nil_of_length_eq_zero h2
    subst e0
    refine wpList_append_own_none hgd s x 41 ho B 48 i0 2 Try.underlying41 hi v L.length (flat L) hs hown (hx.trans h1) ?_
    exact h v w ⟨by rw [List.append_nil]; exact hown, Below.refl _ _⟩
  · obtain ⟨a', cap', e1, hp, _⟩ := hsrc.slice
    rw [h1] at e1
    cases e1
    refine wpList_append_own w hgd s x 41 ho B 48 i0 (.agg #[.int .i64 0, .int .i64 0]) 2 16 Try.underlying41 hi hz0 hz1 hz2 rfl (by decide) v L.length (flat L) hs hown ⟨g, 0, none⟩ ps.length cap (flat ps) (hx.trans h1) (by rw [flat_len]) ?_
      (flat_one ps) (by unfold maxLen; omega) (by omega) hB ?_
    · intro j u hu
      have h2 := part_cellsW hp 0 ps.length (by omega) j u (by rw [List.drop_zero, List.take_of_length_le (Nat.le_refl _)]; exact hu)
      simpa using h2
    · intro v' w' h2 h3 _
      refine h v' w' ⟨?_, (Below.refl B w).grown h3 hB (fun k hk => (World.ownsRow.lt hown k hk).1)⟩
      unfold OwnP
      rw [flat_append, List.length_append]
      exact h2
theorem neq_word (x0 x1 : Int) (w : World) : (binOp .neq 48 (.agg #[.int .i64 x0, .int .i64 x1]) (.agg #[.int .i64 x0, .int .i64 x1])).run Try.prog w = .ok (.bool false) w := by
  have u3 := Try.underlying3
  have a3 := Try.isAgg3
  have z3 := Try.sizeOf3
  have hS : Try.prog.underlying 48 = some (.struct (Try.prog.fieldsOf 48)) := by kernel_rfl
  have hp : Try.prog.stoodInHeld 48 = false := by kernel_rfl
  rw [run_neq_struct, show (10000 : Nat) = 9999 + 1 from rfl, run_equalIn_agg w 9999 48 _ _ hS hp]
  simp only [Program.fieldsOf, Try.underlying48]
  go_simp
set_option maxHeartbeats 8000000 in
theorem lawOrder_any (a a' : Option Addr) (len cap len' cap' : Nat) (f f' : Nat → Int) (w : World) (h : Bytes w a len f) (h' : Bytes w a' len' f') (hlt : ∀ b off, 0 < len → a = some ⟨b, off, none⟩ → b < w.heap.size) (hlt' : ∀ b off, 0 < len' → a' = some ⟨b, off, none⟩ → b < w.heap.size) (hm : len ≤ maxLen) (hm' : len' ≤ maxLen) :
    Calls Try.prog 4 #[.slice a len cap, .slice a' len' cap'] w fun e w' => e = .returned (.bool true) ∧ Below w.heap.size w w' := by
  by_cases hl : 1048576 < len
  · have hlz : (1048576 : Int) < (len : Int) := by omega
    go_enter Try.func4, Try.ntmps4
    go_wp2
    go_ret
    exact ⟨rfl, Below.refl _ _⟩
  have hlz : (len : Int) ≤ (1048576 : Int) := by omega
  by_cases hl' : 1048576 < len'
  · have hlz' : (1048576 : Int) < (len' : Int) := by omega
    go_enter Try.func4, Try.ntmps4
    go_wp2
    go_ret
    exact ⟨rfl, Below.refl _ _⟩
  have hlz' : (len' : Int) ≤ (1048576 : Int) := by omega
  have K1 : Hid (∀ wx, Below w.heap.size w wx → Calls Try.prog 18 #[.slice a len cap] wx fun e w' => ∃ v zs, e = .returned v ∧ OwnP 48 w' wx.heap.size v zs ∧ FewW 8 zs ∧ Below wx.heap.size wx w') := fun wx hb =>
    WordsOf_any wx a len cap f (h.below hb hlt) (by omega) (fun b off h0 e => Nat.lt_of_lt_of_le (hlt b off h0 e) hb.size)
  have K2 : Hid (∀ wx, Below w.heap.size w wx → Calls Try.prog 18 #[.slice a' len' cap'] wx fun e w' => ∃ v zs, e = .returned v ∧ OwnP 48 w' wx.heap.size v zs ∧ FewW 8 zs ∧ Below wx.heap.size wx w') := fun wx hb =>
    WordsOf_any wx a' len' cap' f' (h'.below hb hlt') (by omega) (fun b off h0 e => Nat.lt_of_lt_of_le (hlt' b off h0 e) hb.size)
  clear h h' hlt hlt'
  go_enter Try.func4, Try.ntmps4
  go_wp2_with fail
  refine (K1.out _ ((Below.refl _ _).alloc (Nat.le_refl _) _)).mono ?_
  rintro e w1 ⟨v1, z1, rfl, o1, hf1, b1⟩
  have X1 : Hid (OwnP 48 w1 w.heap.size (.slice (some ⟨w.heap.size, 0, none⟩) 0 0) [] ∧ OwnP 48 w1 (w.heap.size + 1) v1 z1 ∧ FewW 8 z1 ∧ Below w.heap.size w w1) := by
    have l0 := own_litW w w.heap.size (Nat.le_refl _)
    exact ⟨l0.now (b1.mono (by simp)), o1.lower (by simp), hf1, ((Below.refl _ _).alloc (Nat.le_refl _) _).trans (b1.mono (by simp))⟩
  clear o1 hf1 b1
  have hz5 : ([] : List (Int × Int)).length + z1.length ≤ 5000 := by have := X1.out.2.2.1.1; simp; omega
  go_wp2_with (at_builtin; refine wpl_rowW _ rfl (.tmp 37) (.tmp 39) rfl w.heap.size _ [] rfl X1.out.1 (w.heap.size + 1) v1 z1 rfl X1.out.2.1 hz5 X1.out.2.2.2.size ?_; intro v2 w2 Y2)
  have X2 : Hid (OwnP 48 w2 w.heap.size v2 z1 ∧ FewW 8 z1 ∧ Below w.heap.size w w2) := ⟨by have := Y2.out.1; rw [List.nil_append] at this; exact this, X1.out.2.2.1, X1.out.2.2.2.trans Y2.out.2⟩
  clear X1 Y2 hz5
  go_wp2_with fail
  refine (K2.out _ X2.out.2.2).mono ?_
  rintro e w3 ⟨v3, z3, rfl, o3, hf3, b3⟩
  have X3 : Hid (OwnP 48 w3 w.heap.size v2 z1 ∧ OwnP 48 w3 w2.heap.size v3 z3 ∧ FewW 8 z1 ∧ FewW 8 z3 ∧ Below w.heap.size w w3) := ⟨X2.out.1.now b3, o3, X2.out.2.1, hf3, X2.out.2.2.trans (b3.mono X2.out.2.2.size)⟩
  clear o3 hf3 b3 X2
  have hz5 : z1.length + z3.length ≤ 5000 := by have := X3.out.2.2.1.1; have := X3.out.2.2.2.1.1; omega
  go_wp2_with (at_builtin; refine wpl_rowW _ rfl (.tmp 40) (.tmp 42) rfl w.heap.size _ z1 rfl X3.out.1 w2.heap.size v3 z3 rfl X3.out.2.1 hz5 X3.out.2.2.2.2.size ?_; intro v4 w4 Y4)
  obtain ⟨L, hL⟩ : ∃ L, L = z1 ++ z3 := ⟨_, rfl⟩
  obtain ⟨la, lc, hv4, hn4, _⟩ := Y4.out.1.slice
  have hall : okTo L L.length := fun i hi => by
    rw [List.getD_eq_getElem?_getD, List.getElem?_eq_getElem hi]
    have hmem := List.getElem_mem hi
    have hmem2 : L[i] ∈ z1 ++ z3 := by rw [← hL]; exact hmem
    rcases List.mem_append.1 hmem2 with h | h
    · exact X3.out.2.2.1.2 _ h
    · exact X3.out.2.2.2.1.2 _ h
  have hlen : L.length ≤ 16 := by rw [hL, List.length_append]; have := X3.out.2.2.1.1; have := X3.out.2.2.2.1.1; omega
  rw [← hL] at hv4 hn4
  have X4 : Hid (Prs w4 la L ∧ Below w.heap.size w w4) := ⟨hn4, X3.out.2.2.2.2.trans Y4.out.2⟩
  have HA : Hid (okTo L L.length) := hall
  subst hv4
  clear hn4 X3 Y4 hz5 hL hall K1 K2
  have SK := sortW_key L HA.out
  have HSI : Hid (∀ wx, Below w4.heap.size w4 wx → Calls Try.prog 19 #[.slice la L.length lc] wx fun e w' => ∃ v, e = .returned (.tuple #[v, .int .i64 0]) ∧ OwnP 48 w' wx.heap.size v (sortW L) ∧ Below wx.heap.size wx w') := fun wx hb => iSort_few la lc L wx (X4.out.1.keep hb) (by omega) HA.out
  have HSS : Hid (∀ wx, Below w4.heap.size w4 wx → Calls Try.prog 20 #[.slice la L.length lc] wx fun e w' => ∃ v, e = .returned (.tuple #[v, .int .i64 0]) ∧ OwnP 48 w' wx.heap.size v (sortW L) ∧ Below wx.heap.size wx w') := fun wx hb => sSort_few la lc L wx (X4.out.1.keep hb) (by omega) HA.out
  have HSL : Hid ((sortW L).length = L.length) := SK.2.2
  have NL : Hid (∀ i, i + 1 < L.length → kW ((sortW L).getD i (0, 0)) ≤ kW ((sortW L).getD (i + 1) (0, 0))) := fun i hi => sortW_rises HA.out i hi
  have OL : Hid (∀ i, i < L.length → okW ((sortW L).getD i (0, 0)).1 ((sortW L).getD i (0, 0)).2) := fun i hi => sortW_ok HA.out i hi
  clear SK
  generalize sortW L = S at *
  obtain ⟨n, hn⟩ : ∃ n, n = L.length := ⟨_, rfl⟩
  have HN : Hid (n = L.length) := hn
  rw [← hn] at HSI HSS HSL NL OL hlen ⊢
  clear hn
  go_wp2_with fail
  refine (HSI.out _ (Below.refl _ _)).mono ?_
  rintro e w5 ⟨v5, rfl, o5, b5⟩
  obtain ⟨s5, c5, rfl, p5, _⟩ := o5.slice
  rw [HSL.out]
  have X5 : Hid (Prs w5 s5 S ∧ Below w4.heap.size w4 w5) := ⟨p5, b5⟩
  clear p5 o5 b5
  go_wp2_with fail
  refine (HSS.out _ X5.out.2).mono ?_
  rintro e w6 ⟨v6, rfl, o6, b6⟩
  obtain ⟨s6, c6, rfl, p6, _⟩ := o6.slice
  rw [HSL.out]
  have X6 : Hid (Prs w6 la L ∧ Prs w6 s5 S ∧ Prs w6 s6 S ∧ Below w.heap.size w w6) := ⟨(X4.out.1.keep X5.out.2).keep b6, X5.out.1.keep b6, p6, (X4.out.2.trans (X5.out.2.mono X4.out.2.size)).trans (b6.mono (by have := X4.out.2.size; have := X5.out.2.size; omega))⟩
  clear p6 o6 b6 X5 X4 HSI HSS
  go_wp2
  have HC1 : Hid (∀ h l wx, okW h l → Calls Try.prog 21 #[.agg #[.int .i64 h, .int .i64 l]] wx fun e w' => e = .returned (.tuple #[.int .i64 (classC h l), .int .i64 0]) ∧ Grw wx w') := fun h l wx ho => by have := iClassOf_any h l wx; rw [show badC h l = 0 from if_pos ho] at this; exact this
  have HC2 : Hid (∀ h l wx, okW h l → Calls Try.prog 22 #[.agg #[.int .i64 h, .int .i64 l]] wx fun e w' => e = .returned (.tuple #[.int .i64 (classC h l), .int .i64 0]) ∧ Grw wx w') := fun h l wx ho => by have := sClassOf_any h l wx; rw [show badC h l = 0 from if_pos ho] at this; exact this
  have HR1 : Hid (∀ h l wx, Calls Try.prog 23 #[.agg #[.int .i64 h, .int .i64 l]] wx fun e w' => e = .returned (.string (rateS h l)) ∧ Grw wx w') := fun h l wx => iRate_any h l wx
  have HR2 : Hid (∀ h l wx, Calls Try.prog 24 #[.agg #[.int .i64 h, .int .i64 l]] wx fun e w' => e = .returned (.string (rateS h l)) ∧ Grw wx w') := fun h l wx => sRate_any h l wx
  have hmix : Try.prog.follows .mixedOrders = true := by kernel_rfl
  go_loopw [10] (fun i wr => ∃ k : Nat, k ≤ n ∧ i = .int .i64 k ∧ Hid (Below w6.heap.size w6 wr)) (fun i _ => n - (intOf i).toNat)
  case atStart => exact ⟨0, Nat.zero_le _, rfl, Below.refl _ _⟩
  case round =>
    obtain ⟨k, hk, rfl, X⟩ := hrel
    by_cases hlt : k < n
    · have hltz : (k : Int) < (n : Int) := by omega
      obtain ⟨b1, f1, rfl, hb1, p0, p1⟩ := X6.out.1.cells X.out (k := k) (by rw [← HN.out]; exact hlt)
      obtain ⟨b2, f2, rfl, hb2, q0, q1⟩ := X6.out.2.1.cells X.out (k := k) (by rw [HSL.out]; exact hlt)
      obtain ⟨b3, f3, rfl, hb3, r0, r1⟩ := X6.out.2.2.1.cells X.out (k := k) (by rw [HSL.out]; exact hlt)
      have ok1 := HA.out k (by rw [← HN.out]; exact hlt)
      have ok2 := OL.out k hlt
      have NE := fun wx => neq_word (S.getD k (0, 0)).1 (S.getD k (0, 0)).2 wx
      have E2 : Hid (S.getD k (0, 0) = ((S.getD k (0, 0)).1, (S.getD k (0, 0)).2)) := rfl
      generalize (L.getD k (0, 0)).1 = x0 at p0 ok1
      generalize (L.getD k (0, 0)).2 = x1 at p1 ok1
      generalize hy0 : (S.getD k (0, 0)).1 = y0 at q0 r0 ok2 NE E2
      generalize hy1 : (S.getD k (0, 0)).2 = y1 at q1 r1 ok2 NE E2
      clear hy0 hy1
      have C1 : Hid (∀ wx, Calls Try.prog 21 #[.agg #[.int .i64 x0, .int .i64 x1]] wx fun e w' => e = .returned (.tuple #[.int .i64 (classC x0 x1), .int .i64 0]) ∧ Grw wx w') := fun wx => HC1.out x0 x1 wx ok1
      have C2 : Hid (∀ wx, Calls Try.prog 22 #[.agg #[.int .i64 x0, .int .i64 x1]] wx fun e w' => e = .returned (.tuple #[.int .i64 (classC x0 x1), .int .i64 0]) ∧ Grw wx w') := fun wx => HC2.out x0 x1 wx ok1
      have R1 : Hid (∀ wx, Calls Try.prog 23 #[.agg #[.int .i64 x0, .int .i64 x1]] wx fun e w' => e = .returned (.string (rateS x0 x1)) ∧ Grw wx w') := fun wx => HR1.out x0 x1 wx
      have R2 : Hid (∀ wx, Calls Try.prog 24 #[.agg #[.int .i64 x0, .int .i64 x1]] wx fun e w' => e = .returned (.string (rateS x0 x1)) ∧ Grw wx w') := fun wx => HR2.out x0 x1 wx
      have O2 : Hid (okW y0 y1) := ok2
      generalize classC x0 x1 = cl at C1 C2
      generalize rateS x0 x1 = rs at R1 R2
      clear ok1 ok2
      have hB1 : b1 < w6.heap.size := hb1
      have CC : Hid (∀ wx, Below wr.heap.size wr wx → (wx.cell? ⟨b1, f1 + k * 2, none⟩ = some (.int .i64 x0) ∧ wx.cell? ⟨b1, f1 + k * 2 + 1, none⟩ = some (.int .i64 x1)) ∧ (wx.cell? ⟨b2, f2 + k * 2, none⟩ = some (.int .i64 y0) ∧ wx.cell? ⟨b2, f2 + k * 2 + 1, none⟩ = some (.int .i64 y1)) ∧ (wx.cell? ⟨b3, f3 + k * 2, none⟩ = some (.int .i64 y0) ∧ wx.cell? ⟨b3, f3 + k * 2 + 1, none⟩ = some (.int .i64 y1)) ∧ b1 < wx.heap.size ∧ b2 < wx.heap.size ∧ b3 < wx.heap.size) := fun wx hw => by
        have z := X.out.size
        have z2 := hw.size
        refine ⟨⟨?_, ?_⟩, ⟨?_, ?_⟩, ⟨?_, ?_⟩, by omega, by omega, by omega⟩
        · rw [hw.cell (by show b1 < _; omega)]; exact p0
        · rw [hw.cell (by show b1 < _; omega)]; exact p1
        · rw [hw.cell (by show b2 < _; omega)]; exact q0
        · rw [hw.cell (by show b2 < _; omega)]; exact q1
        · rw [hw.cell (by show b3 < _; omega)]; exact r0
        · rw [hw.cell (by show b3 < _; omega)]; exact r1
      go_wp2_with fail
      refine (C1.out _).mono ?_
      rintro e wa ⟨rfl, ga⟩
      have GA : Hid (Grw wr wa) := ga
      clear ga p0 p1 q0 q1 r0 r1
      have p0 := (CC.out _ GA.out.below).1.1
      have p1 := (CC.out _ GA.out.below).1.2
      go_wp2_with fail
      refine (C2.out _).mono ?_
      rintro e wb ⟨rfl, gb⟩
      have GB : Hid (Grw wr wb) := GA.out.trans gb
      clear gb p0 p1 GA C1 C2
      obtain ⟨⟨p0, p1⟩, ⟨q0, q1⟩, ⟨r0, r1⟩, l1, l2, l3⟩ := CC.out _ GB.out.below
      have p0 := cell_grown l1 p0
      have p1 := cell_grown l1 p1
      have q0 := cell_grown l2 q0
      have q1 := cell_grown l2 q1
      have r0 := cell_grown l3 r0
      have r1 := cell_grown l3 r1
      go_wp2_with fail
      refine wp_region_quiet_grown (by assumption) (by kernel_rfl) ?_
      repeat (go_big_quiet_step (first | fail | (first | (go_at_call 23; exact Calls.grown_of (R1.out _)) | (go_at_call 24; exact Calls.grown_of (R2.out _)))))
      refine wpQuiet_nil ?_
      intro _ hw'
      obtain ⟨⟨nq, osq⟩, hw''⟩ := hw'
      subst hw''
      have GC : Hid (Grw wr (grow (wb.drewN nq) osq)) := GB.out.trans ⟨nq, osq, rfl⟩
      clear p0 p1 q0 q1 r0 r1 GB R1 R2 l1 l2 l3 NE
      generalize grow (wb.drewN nq) osq = wc at GC ⊢
      by_cases hk0 : k = 0
      · subst hk0
        go_wp2
        go_roundw
        case rel => exact ⟨0 + 1, by omega, by go_num, X.out.trans (GC.out.below.mono X.out.size)⟩
        case measure => simp [intOf]; omega
      obtain ⟨j, rfl⟩ : ∃ j, k = j + 1 := ⟨k - 1, by omega⟩
      obtain ⟨b4, f4, e4, hb4, t0, t1⟩ := X6.out.2.1.cells X.out (k := j) (by rw [HSL.out]; omega)
      cases e4
      have NR := NL.out j hlt
      rw [E2.out] at NR
      have ok3 := OL.out j (by omega)
      have E3 : S.getD j (0, 0) = ((S.getD j (0, 0)).1, (S.getD j (0, 0)).2) := rfl
      rw [E3] at NR
      generalize (S.getD j (0, 0)).1 = z0 at t0 ok3 NR
      generalize (S.getD j (0, 0)).2 = z1 at t1 ok3 NR
      have NW := near_law (x := (z0, z1)) (y := (y0, y1)) ok3 O2.out NR
      have C1 : Hid (∀ wx, Calls Try.prog 21 #[.agg #[.int .i64 z0, .int .i64 z1]] wx fun e w' => e = .returned (.tuple #[.int .i64 (classC z0 z1), .int .i64 0]) ∧ Grw wx w') := fun wx => HC1.out z0 z1 wx ok3
      have A1 : Hid (∀ wx, Calls Try.prog 25 #[.agg #[.int .i64 z0, .int .i64 z1], .agg #[.int .i64 y0, .int .i64 y1]] wx fun e w' => e = .returned (.tuple #[.int .i64 (orderC (z0, z1) (y0, y1)), .int .i64 0]) ∧ Grw wx w') := fun wx => by have := iOrderOf_any (z0, z1) (y0, y1) wx; rw [NW.2.2.1] at this; exact this
      have A2 : Hid (∀ wx, Calls Try.prog 25 #[.agg #[.int .i64 y0, .int .i64 y1], .agg #[.int .i64 z0, .int .i64 z1]] wx fun e w' => e = .returned (.tuple #[.int .i64 (orderC (y0, y1) (z0, z1)), .int .i64 0]) ∧ Grw wx w') := fun wx => by have := iOrderOf_any (y0, y1) (z0, z1) wx; rw [NW.2.2.2.1] at this; exact this
      have A3 : Hid (∀ wx, Calls Try.prog 26 #[.agg #[.int .i64 z0, .int .i64 z1]] wx fun e w' => e = .returned (.tuple #[.agg #[.int .i64 (negH z0 z1), .int .i64 (negL z0 z1)], .int .i64 0]) ∧ Below wx.heap.size wx w') := fun wx => by have := iNegOf_any z0 z1 wx; rw [show badC z0 z1 = 0 from NW.2.2.2.2.1] at this; exact this
      have A4 : Hid (∀ wx, Calls Try.prog 26 #[.agg #[.int .i64 y0, .int .i64 y1]] wx fun e w' => e = .returned (.tuple #[.agg #[.int .i64 (negH y0 y1), .int .i64 (negL y0 y1)], .int .i64 0]) ∧ Below wx.heap.size wx w') := fun wx => by have := iNegOf_any y0 y1 wx; rw [show badC y0 y1 = 0 from NW.2.2.2.2.2.1] at this; exact this
      have A5 : Hid (∀ wx, Calls Try.prog 25 #[.agg #[.int .i64 (negH z0 z1), .int .i64 (negL z0 z1)], .agg #[.int .i64 (negH y0 y1), .int .i64 (negL y0 y1)]] wx fun e w' => e = .returned (.tuple #[.int .i64 (orderC (negH z0 z1, negL z0 z1) (negH y0 y1, negL y0 y1)), .int .i64 0]) ∧ Grw wx w') := fun wx => by have := iOrderOf_any (negH z0 z1, negL z0 z1) (negH y0 y1, negL y0 y1) wx; rw [NW.2.2.2.2.2.2.1] at this; exact this
      have n1 : orderC (z0, z1) (y0, y1) ≤ 0 := NW.1
      have n2 : orderC (z0, z1) (y0, y1) = - orderC (y0, y1) (z0, z1) := NW.2.1
      have n3 : classC z0 z1 ≠ 0 → orderC (negH z0 z1, negL z0 z1) (negH y0 y1, negL y0 y1) = orderC (y0, y1) (z0, z1) := NW.2.2.2.2.2.2.2
      have n4 : -1 ≤ orderC (y0, y1) (z0, z1) ∧ orderC (y0, y1) (z0, z1) ≤ 1 := by
        rw [show orderC (y0, y1) (z0, z1) = cmpW (y0, y1) (z0, z1) from if_pos ⟨O2.out, ok3⟩]
        unfold cmpW ord3
        split
        · omega
        · split <;> omega
      generalize orderC (z0, z1) (y0, y1) = oa at A1 n1 n2
      generalize orderC (y0, y1) (z0, z1) = ob at A2 n2 n3 n4
      subst n2
      generalize orderC (negH z0 z1, negL z0 z1) (negH y0 y1, negL y0 y1) = on at A5 n3
      generalize negH z0 z1 = g0 at A3 A5
      generalize negL z0 z1 = g1 at A3 A5
      generalize negH y0 y1 = g2 at A4 A5
      generalize negL y0 y1 = g3 at A4 A5
      generalize classC z0 z1 = cl3 at C1 n3
      clear NW NR ok3 E3 HC1 HC2 HR1 HR2 NL OL
      have CD : Hid (∀ wx, Below wc.heap.size wc wx → (wx.cell? ⟨b2, f2 + (j + 1) * 2, none⟩ = some (.int .i64 y0) ∧ wx.cell? ⟨b2, f2 + (j + 1) * 2 + 1, none⟩ = some (.int .i64 y1)) ∧ (wx.cell? ⟨b2, f2 + j * 2, none⟩ = some (.int .i64 z0) ∧ wx.cell? ⟨b2, f2 + j * 2 + 1, none⟩ = some (.int .i64 z1)) ∧ b2 < wx.heap.size) := fun wx hw => by
        have z := X.out.size
        have zz := GC.out.below.size
        have hw2 : Below wr.heap.size wr wx := GC.out.below.trans (hw.mono zz)
        have c := CC.out wx hw2
        exact ⟨c.2.1, ⟨by rw [hw2.cell (by show b2 < _; omega)]; exact t0, by rw [hw2.cell (by show b2 < _; omega)]; exact t1⟩, c.2.2.2.2.1⟩
      have XC : Hid (Below w6.heap.size w6 wc) := X.out.trans (GC.out.below.mono X.out.size)
      clear t0 t1 CC GC X E2 O2
      have hjz : ((j + 1 : Nat) : Int) - 1 = (j : Int) := by omega
      have hj0 : (((j + 1 : Nat) : Int) == 0) = false := by rw [beq_eq_false_iff_ne]; omega
      have hjn : (j : Int) < (n : Int) := by omega
      obtain ⟨⟨q0, q1⟩, ⟨t0, t1⟩, l2⟩ := CD.out _ (Below.refl _ _)
      have q0 := cell_grown l2 q0
      have q1 := cell_grown l2 q1
      have t0 := cell_grown l2 t0
      have t1 := cell_grown l2 t1
      go_wp2_with fail
      refine wp_region_quiet_grown (by assumption) (by kernel_rfl) ?_
      repeat (go_big_quiet_step (first | fail | (go_at_call 25; exact Calls.grown_of (A1.out _))))
      refine wpQuiet_nil ?_
      intro _ hw'
      obtain ⟨⟨nq, osq⟩, hw''⟩ := hw'
      subst hw''
      have GD : Hid (Below wc.heap.size wc (grow (wc.drewN nq) osq)) := below_grow wc nq osq
      generalize grow (wc.drewN nq) osq = wd at GD ⊢
      clear q0 q1 t0 t1 l2 nq osq
      obtain ⟨⟨q0, q1⟩, ⟨t0, t1⟩, l2⟩ := CD.out _ GD.out
      have q0 := cell_grown l2 q0
      have q1 := cell_grown l2 q1
      have t0 := cell_grown l2 t0
      have t1 := cell_grown l2 t1
      go_wp2_with fail
      refine wp_region_quiet_grown (by assumption) (by kernel_rfl) ?_
      repeat (go_big_quiet_step (first | fail | (go_at_call 25; exact Calls.grown_of (A2.out _))))
      refine wpQuiet_nil ?_
      intro _ hw'
      obtain ⟨⟨nq, osq⟩, hw''⟩ := hw'
      subst hw''
      have GE : Hid (Below wc.heap.size wc (grow (wd.drewN nq) osq)) := GD.out.trans ((below_grow wd nq osq).mono GD.out.size)
      generalize grow (wd.drewN nq) osq = we at GE ⊢
      clear q0 q1 t0 t1 l2 nq osq GD
      obtain ⟨⟨q0, q1⟩, ⟨t0, t1⟩, l2⟩ := CD.out _ GE.out
      go_wp2_with fail
      refine (A3.out _).mono ?_
      rintro e wf ⟨rfl, bf⟩
      have hbf : Below wc.heap.size wc wf := GE.out.trans (bf.mono GE.out.size)
      have BF : Hid (Below wc.heap.size wc (wf.alloc (.cells #[.int .i64 g0, .int .i64 g1] 48))) := hbf.alloc hbf.size _
      clear q0 q1 t0 t1 l2 bf GE hbf
      obtain ⟨⟨q0, q1⟩, ⟨t0, t1⟩, l2⟩ := CD.out _ BF.out
      clear t0 t1 l2
      go_wp2_with fail
      refine (A4.out _).mono ?_
      rintro e wg ⟨rfl, bg⟩
      have lt1 : wf.heap.size < wg.heap.size := by have := bg.size; simp at this; omega
      have v0 : wg.cell? ⟨wf.heap.size, 0, none⟩ = some (.int .i64 g0) := by rw [bg.cell (by simp)]; simp
      have v1 : wg.cell? ⟨wf.heap.size, 1, none⟩ = some (.int .i64 g1) := by rw [bg.cell (by simp)]; simp
      have hbg : Below wc.heap.size wc wg := BF.out.trans (bg.mono BF.out.size)
      have BG : Hid (Below wc.heap.size wc (wg.alloc (.cells #[.int .i64 g2, .int .i64 g3] 48))) := hbg.alloc hbg.size _
      have v0 : (wg.alloc (.cells #[.int .i64 g2, .int .i64 g3] 48)).cell? ⟨wf.heap.size, 0, none⟩ = some (.int .i64 g0) := by rw [World.cell?_alloc_lt _ _ _ (by exact lt1)]; exact v0
      have v1 : (wg.alloc (.cells #[.int .i64 g2, .int .i64 g3] 48)).cell? ⟨wf.heap.size, 1, none⟩ = some (.int .i64 g1) := by rw [World.cell?_alloc_lt _ _ _ (by exact lt1)]; exact v1
      clear q0 q1 bg BF hbg
      go_wp2_with fail
      refine (A5.out _).mono ?_
      rintro e wh ⟨rfl, gh⟩
      have BH : Hid (Below wc.heap.size wc wh) := BG.out.trans (gh.below.mono BG.out.size)
      clear gh v0 v1 BG lt1
      obtain ⟨⟨q0, q1⟩, ⟨t0, t1⟩, l2⟩ := CD.out _ BH.out
      clear q0 q1 l2
      go_wp2_with fail
      refine (C1.out _).mono ?_
      rintro e wi ⟨rfl, gi⟩
      have BI : Hid (Below w6.heap.size w6 wi) := XC.out.trans ((BH.out.trans (gi.below.mono BH.out.size)).mono XC.out.size)
      clear gi t0 t1 BH C1 A1 A2 A3 A4 A5 CD XC
      have d1 : decide ((0 : Int) < -ob) = false := decide_eq_false (by omega)
      have d2 : ((-ob : Int) != -ob) = false := by simp
      by_cases hc3 : cl3 = 0
      · subst hc3
        clear n3
        go_wp2
        go_roundw
        case rel => exact ⟨j + 1 + 1, by omega, by go_num, BI⟩
        case measure => simp [intOf]; omega
      · have h3 := n3 hc3
        subst h3
        have d3 : (cl3 != 0) = true := by simpa using hc3
        clear n3
        go_wp2
        go_roundw
        case rel => exact ⟨j + 1 + 1, by omega, by go_num, BI⟩
        case measure => simp [intOf]; omega
    · obtain rfl : k = n := by omega
      have HO : Hid (∀ wx, Calls Try.prog 25 #[.agg #[.int .i64 2147483648, .int .i64 0], .agg #[.int .i64 0, .int .i64 0]] wx fun e w' => e = .returned (.tuple #[.int .i64 (-1), .int .i64 0]) ∧ Grw wx w') := fun wx => by
        have := iOrderOf_any (2147483648, 0) (0, 0) wx
        rw [show orderC (2147483648, 0) (0, 0) = -1 by decide, show badC2 (2147483648, 0) (0, 0) = 0 by decide] at this
        exact this
      go_wp2_with fail
      refine (HO.out _).mono ?_
      rintro e wz ⟨rfl, gz⟩
      have BZ : Hid (Below w.heap.size w wz) := (X6.out.2.2.2.trans (X.out.mono X6.out.2.2.2.size)).trans (gz.below.mono (by have := X6.out.2.2.2.size; have := X.out.size; omega))
      clear gz
      go_wp2
      go_ret
      exact ⟨rfl, BZ.out⟩
end Go.Proofs.Ytfcdobicilediaa
