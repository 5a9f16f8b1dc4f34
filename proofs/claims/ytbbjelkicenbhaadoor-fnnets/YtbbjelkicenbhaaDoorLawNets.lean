/- The walk of laws.FnNets. -/
import Derived.Test.YtbbjelkicenbhaaDoorDrawN
import Derived.Test.YtbbjelkicenbhaaDoorNetLi
import Derived.Test.YtbbjelkicenbhaaDoorDraw
namespace Go.Proofs.YtbbjelkicenbhaaDoor
open Go.RowKit Go.PlainAid Go.Sort
set_option linter.unusedVariables false
set_option maxRecDepth 20000

theorem best_spec (zs : List (Int × Int)) (x : Int) : ∀ k : Nat, (∀ i, i < k → hB (zs.getD i (0, 0)).1 (zs.getD i (0, 0)).2 x = true → 0 ≤ best zs x k ∧ (zs.getD i (0, 0)).2 ≤ (zs.getD (best zs x k).toNat (0, 0)).2) ∧ (0 ≤ best zs x k → hB (zs.getD (best zs x k).toNat (0, 0)).1 (zs.getD (best zs x k).toNat (0, 0)).2 x = true)
  | 0 => ⟨fun i hi => absurd hi (by omega), fun h => absurd h (by simp [best])⟩
  | k + 1 => by
    have ih := best_spec zs x k
    have bd := best_bd zs x k
    by_cases hc : hB (zs.getD k (0, 0)).1 (zs.getD k (0, 0)).2 x = true ∧ (best zs x k < 0 ∨ (zs.getD (best zs x k).toNat (0, 0)).2 < (zs.getD k (0, 0)).2)
    · have e : best zs x (k + 1) = k := if_pos hc
      rw [e, Int.toNat_natCast]
      refine ⟨fun i hi hh => ⟨by omega, ?_⟩, fun _ => hc.1⟩
      by_cases hik : i = k
      · rw [hik]; exact Int.le_refl _
      · have := ih.1 i (by omega) hh
        rcases hc.2 with h2 | h2
        · omega
        · omega
    · have e : best zs x (k + 1) = best zs x k := if_neg hc
      rw [e]
      refine ⟨fun i hi hh => ?_, ih.2⟩
      by_cases hik : i = k
      · subst hik
        have h3 : ¬ (best zs x i < 0 ∨ (zs.getD (best zs x i).toNat (0, 0)).2 < (zs.getD i (0, 0)).2) := fun h => hc ⟨hh, h⟩
        omega
      · exact ih.1 i (by omega) hh

/-- What LongestNet answers of drawn nets. -/
theorem longest_facts {zs : List (Int × Int)} {x : Int} (h : FewN 8 zs) (h0 : 0 ≤ x) (h1 : x ≤ 4294967295) :
    (lnC zs x = 5 ∧ lnK zs x = 0 ∧ ∀ i, i < zs.length → hB (zs.getD i (0, 0)).1 (zs.getD i (0, 0)).2 x = false) ∨
    (lnC zs x = 0 ∧ ∃ k : Nat, lnK zs x = (k : Int) ∧ k < zs.length ∧ hB (zs.getD k (0, 0)).1 (zs.getD k (0, 0)).2 x = true ∧ ∀ i, i < zs.length → hB (zs.getD i (0, 0)).1 (zs.getD i (0, 0)).2 x = true → (zs.getD i (0, 0)).2 ≤ (zs.getD k (0, 0)).2) := by
  have hl := h.1
  have ho : okTo zs zs.length := fun i hi => (six_told (h.2 (zs.getD i (0, 0)) (by rw [List.getD_eq_getElem?_getD, List.getElem?_eq_getElem hi]; exact List.getElem_mem hi))).1
  have d1 : dec (okTo zs zs.length ∧ zs.length ≤ 20) = true := dec_y ⟨ho, by omega⟩
  have d2 : dec (0 ≤ x ∧ x ≤ 4294967295) = true := dec_y ⟨h0, h1⟩
  have bs := best_spec zs x zs.length
  have bd := best_bd zs x zs.length
  have eC : lnC zs x = if best zs x zs.length < 0 then 5 else 0 := by
    unfold lnC
    rw [if_neg (by omega), if_neg (by rw [d1]; simp), if_neg (by rw [d2]; simp)]
  by_cases hb : best zs x zs.length < 0
  · refine .inl ⟨by rw [eC, if_pos hb], ?_, fun i hi => ?_⟩
    · unfold lnK; rw [eC, if_pos hb, if_neg (by decide)]
    · cases hh : hB (zs.getD i (0, 0)).1 (zs.getD i (0, 0)).2 x
      · rfl
      · have := bs.1 i hi hh; omega
  · obtain ⟨k, hk⟩ := Int.eq_ofNat_of_zero_le (show 0 ≤ best zs x zs.length by omega)
    rw [hk, Int.toNat_natCast] at bs
    refine .inr ⟨by rw [eC, if_neg hb], k, ?_, by omega, bs.2 (by omega), fun i hi hh => (bs.1 i hi hh).2⟩
    unfold lnK; rw [eC, if_neg hb, if_pos rfl, hk]

theorem lawNets_skip (a b : Option Addr) (la ca lb cb : Nat) (w : World) (h : 1048576 < la ∨ 1048576 < lb) :
    Calls Tryd.prog 4 #[.slice a la ca, .slice b lb cb] w fun e w' => e = .returned (.bool true) ∧ Below w.heap.size w w' := by
  by_cases h1 : 1048576 < la
  · go_enter Tryd.func4, Tryd.ntmps4
    go_wp2
    go_ret
    exact ⟨rfl, Below.refl _ _⟩
  · have h2 : 1048576 < lb := by omega
    go_enter Tryd.func4, Tryd.ntmps4
    go_wp2
    go_ret
    exact ⟨rfl, Below.refl _ _⟩

theorem neq_net (x0 x1 : Int) (w : World) : (binOp .neq 47 (.agg #[.int .i64 x0, .int .i64 x1]) (.agg #[.int .i64 x0, .int .i64 x1])).run Tryd.prog w = .ok (.bool false) w := by
  have u3 := Tryd.underlying3
  have a3 := Tryd.isAgg3
  have z3 := Tryd.sizeOf3
  have hS : Tryd.prog.underlying 47 = some (.struct (Tryd.prog.fieldsOf 47)) := by kernel_rfl
  have hp : Tryd.prog.stoodInHeld 47 = false := by kernel_rfl
  rw [run_neq_struct, show (10000 : Nat) = 9999 + 1 from rfl, run_equalIn_agg w 9999 47 _ _ hS hp]
  simp only [Program.fieldsOf, Tryd.underlying47]
  go_simp
  try simp

set_option maxHeartbeats 4000000 in
theorem lawNets_any (a b : Option Addr) (la ca lb cb : Nat) (f g : Nat → Int) (m : Int) (w : World) (ha : Bytes w a la f) (hb : Bytes w b lb g)
    (pa : ∀ b off, 0 < la → a = some ⟨b, off, none⟩ → b < w.heap.size) (pb : ∀ b' off, 0 < lb → b = some ⟨b', off, none⟩ → b' < w.heap.size) (h1 : la ≤ 1048576) (h2 : lb ≤ 1048576) (ht : Tens w.heap.size w) (hm : w.cell? ⟨0, 0, none⟩ = some (.int .i64 m)) :
    Calls Tryd.prog 4 #[.slice a la ca, .slice b lb cb] w fun e w' => e = .returned (.bool true) ∧ Below w.heap.size w w' := by
  have D1 : Hid (Calls Tryd.prog 16 #[.slice a la ca] w fun e w' => ∃ v zs, e = .returned v ∧ OwnP 47 w' w.heap.size v zs ∧ FewN 8 zs ∧ Below w.heap.size w w') := NetsOf_any w a la ca f ha h1 pa
  have D2 : Hid (∀ wx, Below w.heap.size w wx → Calls Tryd.prog 17 #[.slice b lb cb] wx fun e w' => ∃ v : Int, e = .returned (.int .i64 v) ∧ (v = 16843009 ∨ v = 84215045 ∨ v = 84215303 ∨ v = 151587081) ∧ Below wx.heap.size wx w') := fun wx bx => WanOf_any wx b lb cb g (hb.below bx pb) h2 (fun b' off h0 e => Nat.lt_of_lt_of_le (pb b' off h0 e) bx.size)
  have GL : Hid (∀ wx, Below w.heap.size w wx → Tens wx.heap.size wx ∧ wx.cell? ⟨0, 0, none⟩ = some (.int .i64 m)) := fun wx bx => ⟨ht.now bx, by rw [bx.cell (World.block_lt_of_cell? w _ hm)]; exact hm⟩
  clear ha hb pa pb ht hm
  go_enter Tryd.func4, Tryd.ntmps4
  go_wp2_with fail
  refine D1.out.mono ?_
  rintro e w1 ⟨v0, zs, rfl, o1, hfew, b1⟩
  obtain ⟨a0, c0, e0, pr0, hc0, hm0, -⟩ := o1.slice
  subst e0
  have X1 : Hid (Below w.heap.size w w1 ∧ Prs w1 a0 zs) := ⟨b1, pr0⟩
  have HF : Hid (FewN 8 zs) := hfew
  clear o1 b1 pr0 hfew D1
  go_wp2_with fail
  refine (D2.out _ X1.out.1).mono ?_
  rintro e w2 ⟨x, rfl, hx, b2⟩
  have hx0 : 0 ≤ x := by omega
  have hx1 : x ≤ 4294967295 := by omega
  have LF := longest_facts HF.out hx0 hx1
  have hz8 : zs.length ≤ 8 := HF.out.1
  have KL : Hid (∀ wx, Prs wx a0 zs → Calls Tryd.prog 18 #[.slice a0 zs.length c0, .int .i64 x] wx fun e w' => e = .returned (.tuple #[.int .i64 (lnK zs x), .int .i64 (lnC zs x)]) ∧ Grw wx w') := fun wx hp => implLongest_any a0 zs.length c0 zs x wx hp rfl
  have KS : Hid (∀ wx, Prs wx a0 zs → Calls Tryd.prog 19 #[.slice a0 zs.length c0, .int .i64 x] wx fun e w' => e = .returned (.tuple #[.int .i64 (lnK zs x), .int .i64 (lnC zs x)]) ∧ Grw wx w') := fun wx hp => specLongest_any a0 zs.length c0 zs x wx hp rfl (by omega)
  have NZ : Hid (∀ i, i < zs.length → Told (zs.getD i (0, 0)).1 (zs.getD i (0, 0)).2) := fun i hi => six_told (HF.out.2 (zs.getD i (0, 0)) (by rw [List.getD_eq_getElem?_getD, List.getElem?_eq_getElem hi]; exact List.getElem_mem hi))
  have RX : Hid (dec (0 ≤ x ∧ x ≤ 4294967295) = true) := dec_y ⟨hx0, hx1⟩
  have X2 : Hid (Below w.heap.size w w2 ∧ Prs w2 a0 zs) := ⟨X1.out.1.trans (b2.mono X1.out.1.size), X1.out.2.keep b2⟩
  clear hx b2 X1 D2 HF
  generalize lnK zs x = K at LF KL KS
  generalize lnC zs x = C at LF KL KS
  have hKK : (K != K) = false := by simp
  have hCC : (C != C) = false := by simp
  have HLF : Hid ((C = 5 ∧ K = 0 ∧ ∀ i, i < zs.length → hB (zs.getD i (0, 0)).1 (zs.getD i (0, 0)).2 x = false) ∨ (C = 0 ∧ ∃ k : Nat, K = (k : Int) ∧ k < zs.length ∧ hB (zs.getD k (0, 0)).1 (zs.getD k (0, 0)).2 x = true ∧ ∀ i, i < zs.length → hB (zs.getD i (0, 0)).1 (zs.getD i (0, 0)).2 x = true → (zs.getD i (0, 0)).2 ≤ (zs.getD k (0, 0)).2)) := LF
  clear LF
  go_wp2_with fail
  refine (KL.out _ X2.out.2).mono ?_
  rintro e w3 ⟨rfl, r3⟩
  have X3 : Hid (Below w.heap.size w w3 ∧ Prs w3 a0 zs) := ⟨X2.out.1.trans (r3.below.mono X2.out.1.size), X2.out.2.keep r3.below⟩
  clear r3 X2 KL
  go_wp2_with fail
  refine (KS.out _ X3.out.2).mono ?_
  rintro e w4 ⟨rfl, r4⟩
  have X4 : Hid (Below w.heap.size w w4 ∧ Prs w4 a0 zs) := ⟨X3.out.1.trans (r4.below.mono X3.out.1.size), X3.out.2.keep r4.below⟩
  clear r4 X3 KS
  go_wp2
  go_loopw [11] (fun i wr => ∃ k : Nat, k ≤ zs.length ∧ i = .int .i64 k ∧ Hid (Below w.heap.size w wr ∧ Prs wr a0 zs)) (fun i _ => zs.length - (intOf i).toNat)
  case atStart => exact ⟨0, Nat.zero_le _, rfl, X4⟩
  case round =>
    obtain ⟨j, hj, rfl, X⟩ := hrel
    by_cases hlt : j < zs.length
    · have NT := NZ.out j hlt
      obtain ⟨b0, off0, e0, hb0, q0, q1⟩ := X.out.2.cells (Below.refl _ _) (k := j) hlt
      subst e0
      have HLJ : Hid (hB (zs.getD j (0, 0)).1 (zs.getD j (0, 0)).2 x = true → C = 0 ∧ ∃ k : Nat, K = (k : Int) ∧ k < zs.length ∧ (zs.getD j (0, 0)).2 ≤ (zs.getD k (0, 0)).2) := fun hh => by
        rcases HLF.out with ⟨_, _, h3⟩ | ⟨hc, k, hk, hkl, _, hle⟩
        · have := h3 j hlt; rw [hh] at this; cases this
        · exact ⟨hc, k, hk, hkl, hle j hlt hh⟩
      generalize (zs.getD j (0, 0)).1 = p0 at NT q0 HLJ
      generalize (zs.getD j (0, 0)).2 = p1 at NT q1 HLJ
      have eH : nhB p0 p1 x = hB p0 p1 x := by unfold nhB; rw [NT.1, RX.out]; simp
      have eN : nhC p0 p1 x = 0 := by unfold nhC; rw [NT.1, RX.out]; simp
      have KH : Hid (∀ wx, Calls Tryd.prog 20 #[.agg #[.int .i64 p0, .int .i64 p1], .int .i64 x] wx fun e w' => e = .returned (.tuple #[.bool (hB p0 p1 x), .int .i64 0]) ∧ Grw wx w') := fun wx => by
        have := implNetHas_any p0 p1 x wx
        rw [eH, eN] at this
        exact this
      have KT : Hid (∀ wx, Tens wx.heap.size wx → Calls Tryd.prog 21 #[.agg #[.int .i64 p0, .int .i64 p1]] wx fun e w' => e = .returned (.tuple #[.string (ntT p0 p1), .int .i64 0]) ∧ Below wx.heap.size wx w') := fun wx h => implNetText_yes p0 p1 wx NT.1 h
      have KR : Hid (∀ wx, wx.cell? ⟨0, 0, none⟩ = some (.int .i64 m) → Calls Tryd.prog 22 #[.string (ntT p0 p1)] wx fun e w' => e = .returned (.tuple #[.agg #[.int .i64 p0, .int .i64 p1], .int .i64 0]) ∧ Below wx.heap.size wx w') := fun wx h => implReadNet_told p0 p1 m wx NT h
      have KO : Hid (∀ wx, Calls Tryd.prog 23 #[.agg #[.int .i64 p0, .int .i64 p1]] wx fun e w' => e = .returned (.bool true) ∧ Grw wx w') := fun wx => by
        have := implNetOK_any p0 p1 wx
        rw [NT.1] at this
        exact this
      have he : ∀ w, (binOp .neq 47 (.agg #[.int .i64 p0, .int .i64 p1]) (.agg #[.int .i64 p0, .int .i64 p1])).run Tryd.prog w = .ok (.bool false) w := fun w => neq_net p0 p1 w
      clear NT eH eN
      generalize ntT p0 p1 = T at KT KR
      generalize hB p0 p1 x = hq at KH HLJ
      have hltz : (j : Int) < (zs.length : Int) := by omega
      go_wp2_with fail
      refine (KH.out _).mono ?_
      rintro e w5 ⟨rfl, r5⟩
      have X5 : Hid (Below w.heap.size w w5 ∧ Prs w5 (some ⟨b0, off0, none⟩) zs ∧ Below wr.heap.size wr w5) := ⟨X.out.1.trans (r5.below.mono X.out.1.size), X.out.2.keep r5.below, r5.below⟩
      have s0 : w5.cell? ⟨b0, off0 + j * 2, none⟩ = some (.int .i64 p0) := by rw [r5.below.cell (p := ⟨b0, off0 + j * 2, none⟩) hb0]; exact q0
      have s1 : w5.cell? ⟨b0, off0 + j * 2 + 1, none⟩ = some (.int .i64 p1) := by rw [r5.below.cell (p := ⟨b0, off0 + j * 2 + 1, none⟩) hb0]; exact q1
      have hb5 : b0 < w5.heap.size := Nat.lt_of_lt_of_le hb0 r5.below.size
      clear r5 q0 q1 KH
      go_wp2_with fail
      refine (KT.out _ (GL.out _ X5.out.1).1).mono ?_
      rintro e w6 ⟨rfl, b6⟩
      have X6 : Hid (Below w.heap.size w w6 ∧ Prs w6 (some ⟨b0, off0, none⟩) zs) := ⟨X5.out.1.trans (b6.mono X5.out.1.size), X5.out.2.1.keep b6⟩
      have hb6 : b0 < w6.heap.size := Nat.lt_of_lt_of_le hb5 b6.size
      have u0 : w6.cell? ⟨b0, off0 + j * 2, none⟩ = some (.int .i64 p0) := by rw [b6.cell (p := ⟨b0, off0 + j * 2, none⟩) hb5]; exact s0
      have u1 : w6.cell? ⟨b0, off0 + j * 2 + 1, none⟩ = some (.int .i64 p1) := by rw [b6.cell (p := ⟨b0, off0 + j * 2 + 1, none⟩) hb5]; exact s1
      clear b6 s0 s1 X5 KT X
      go_wp2_with fail
      refine (KR.out _ (GL.out _ X6.out.1).2).mono ?_
      rintro e w7 ⟨rfl, b7⟩
      have X7 : Hid (Below w.heap.size w w7 ∧ Prs w7 (some ⟨b0, off0, none⟩) zs) := ⟨X6.out.1.trans (b7.mono X6.out.1.size), X6.out.2.keep b7⟩
      have hb7 : b0 < w7.heap.size := Nat.lt_of_lt_of_le hb6 b7.size
      have y0 : w7.cell? ⟨b0, off0 + j * 2, none⟩ = some (.int .i64 p0) := by rw [b7.cell (p := ⟨b0, off0 + j * 2, none⟩) hb6]; exact u0
      have y1 : w7.cell? ⟨b0, off0 + j * 2 + 1, none⟩ = some (.int .i64 p1) := by rw [b7.cell (p := ⟨b0, off0 + j * 2 + 1, none⟩) hb6]; exact u1
      clear b7 u0 u1 X6 KR
      have hmix : Tryd.prog.follows .mixedOrders = true := by kernel_rfl
      have hb8 : ∀ o, b0 < (w7.alloc o).heap.size := fun o => by simp; omega
      have z0 : ∀ o n os, (grow ((w7.alloc o).drewN n) os).cell? ⟨b0, off0 + j * 2, none⟩ = some (.int .i64 p0) := fun o n os => cell_grown (hb8 o) (by rw [World.cell?_alloc_lt _ _ _ (by exact hb7)]; exact y0) n os
      have z1 : ∀ o n os, (grow ((w7.alloc o).drewN n) os).cell? ⟨b0, off0 + j * 2 + 1, none⟩ = some (.int .i64 p1) := fun o n os => cell_grown (hb8 o) (by rw [World.cell?_alloc_lt _ _ _ (by exact hb7)]; exact y1) n os
      have k0 : ∀ (v u : Value) n os, (grow ((w7.alloc (.cells #[v, u] 47)).drewN n) os).cell? ⟨w7.heap.size, 0, none⟩ = some v := fun v u n os => cell_grown (by simp) (by simp) n os
      have k1 : ∀ (v u : Value) n os, (grow ((w7.alloc (.cells #[v, u] 47)).drewN n) os).cell? ⟨w7.heap.size, 1, none⟩ = some u := fun v u n os => cell_grown (by simp) (by simp) n os
      have XG : Hid (∀ o n os, Below w.heap.size w (grow ((w7.alloc o).drewN n) os) ∧ Prs (grow ((w7.alloc o).drewN n) os) (some ⟨b0, off0, none⟩) zs) := fun o n os => by
        have g1 : Grw w7 (grow ((w7.alloc o).drewN n) os) := ((Grw.refl w7).alloc o).trans ⟨n, os, rfl⟩
        exact ⟨X7.out.1.trans (g1.below.mono X7.out.1.size), X7.out.2.keep g1.below⟩
      clear y0 y1 X7
      go_wp2_with fail
      refine wp_region_quiet_grown (by assumption) (by kernel_rfl) ?_
      repeat (go_big_quiet_step (first | fail | (go_at_call 23; exact Calls.grown_of (KO.out _))))
      refine wpQuiet_nil ?_
      intro _ hw'
      obtain ⟨⟨nq, osq⟩, hw''⟩ := hw'
      subst hw''
      obtain ⟨W, hW⟩ : ∃ W, W = grow ((w7.alloc (.cells #[.int .i64 p0, .int .i64 p1] 47)).drewN nq) osq := ⟨_, rfl⟩
      have Y := XG.out (.cells #[.int .i64 p0, .int .i64 p1] 47) nq osq
      rw [← hW] at Y
      have XW : Hid (Below w.heap.size w W ∧ Prs W (some ⟨b0, off0, none⟩) zs) := Y
      have d0 : W.cell? ⟨b0, off0 + j * 2, none⟩ = some (.int .i64 p0) := by rw [hW]; exact z0 _ nq osq
      have d1 : W.cell? ⟨b0, off0 + j * 2 + 1, none⟩ = some (.int .i64 p1) := by rw [hW]; exact z1 _ nq osq
      have hbW : b0 < W.heap.size := World.block_lt_of_cell? W _ d0
      dsimp only
      rw [← hW]
      clear hW Y XG z0 z1 k0 k1 hb8 KO he
      cases hq with
      | false =>
        clear HLJ d0 d1
        go_wp2_with fail
        go_big_quiet (fail)
        have XV : Hid (Below w.heap.size w (W.drewN nq) ∧ Prs (W.drewN nq) (some ⟨b0, off0, none⟩) zs) := ⟨⟨XW.out.1.os, XW.out.1.tape, XW.out.1.output, XW.out.1.size, XW.out.1.block⟩, XW.out.2⟩
        clear XW
        go_wp2
        go_roundw
        case rel => exact ⟨j + 1, by omega, by go_num, XV⟩
        case measure => simp [intOf]; omega
      | true =>
        obtain ⟨rfl, k, rfl, hkl, hle⟩ := HLJ.out rfl
        obtain ⟨b2, off2, e2, -, f0, f1⟩ := XW.out.2.cells (Below.refl _ _) (k := k) hkl
        cases e2
        generalize (zs.getD k (0, 0)).1 = r0 at f0
        generalize (zs.getD k (0, 0)).2 = r1 at f1 hle
        have hklz : (k : Int) < (zs.length : Int) := by omega
        have hgt : decide (r1 < p1) = false := by simp; omega
        clear HLJ
        go_wp2_with fail
        go_big_quiet (fail)
        have XV : Hid (Below w.heap.size w (W.drewN nq) ∧ Prs (W.drewN nq) (some ⟨b0, off0, none⟩) zs) := ⟨⟨XW.out.1.os, XW.out.1.tape, XW.out.1.output, XW.out.1.size, XW.out.1.block⟩, XW.out.2⟩
        clear XW
        go_wp2
        go_roundw
        case rel => exact ⟨j + 1, by omega, by go_num, XV⟩
        case measure => simp [intOf]; omega
    · obtain rfl : j = zs.length := by omega
      rcases HLF.out with ⟨hC, hK, _⟩ | ⟨hC, k, hK, hkl, hh, _⟩
      · subst hC
        go_wp2
        go_ret
        exact ⟨rfl, X.out.1⟩
      · subst hC
        subst hK
        have NT := NZ.out k hkl
        obtain ⟨b0, off0, e0, hb0, q0, q1⟩ := X.out.2.cells (Below.refl _ _) (k := k) hkl
        subst e0
        generalize (zs.getD k (0, 0)).1 = p0 at NT q0 hh
        generalize (zs.getD k (0, 0)).2 = p1 at NT q1 hh
        have eH : nhB p0 p1 x = true := by unfold nhB; rw [NT.1, RX.out, hh]; rfl
        have eN : nhC p0 p1 x = 0 := by unfold nhC; rw [NT.1, RX.out]; simp
        have KH : Hid (∀ wx, Calls Tryd.prog 20 #[.agg #[.int .i64 p0, .int .i64 p1], .int .i64 x] wx fun e w' => e = .returned (.tuple #[.bool true, .int .i64 0]) ∧ Grw wx w') := fun wx => by
          have := implNetHas_any p0 p1 x wx
          rw [eH, eN] at this
          exact this
        have hklz : (k : Int) < (zs.length : Int) := by omega
        clear NT eH eN hh
        go_wp2_with fail
        refine (KH.out _).mono ?_
        rintro e w5 ⟨rfl, r5⟩
        have X5 : Hid (Below w.heap.size w w5) := X.out.1.trans (r5.below.mono X.out.1.size)
        clear r5 q0 q1 KH X
        go_wp2
        go_ret
        exact ⟨rfl, X5.out⟩
end Go.Proofs.YtbbjelkicenbhaaDoor
