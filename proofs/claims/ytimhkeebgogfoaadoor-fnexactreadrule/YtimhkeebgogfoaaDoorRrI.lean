/- ReadRule of the program. -/
import Derived.Test.YtimhkeebgogfoaaDoorNetP
import Derived.Test.YtimhkeebgogfoaaDoorWordsI
import Derived.Test.YtimhkeebgogfoaaDoorProtoM
import Derived.Test.YtimhkeebgogfoaaDoorLawRule
namespace Go.Proofs.YtimhkeebgogfoaaDoor
open Go.RowKit Go.PlainAid Go.Proofs.YtimhkeebgogfoaaDoor.Bt Go.Sort
set_option linter.unusedVariables false
set_option maxRecDepth 20000
def sAllow : List UInt8 := [97, 108, 108, 111, 119]
def sDeny : List UInt8 := [100, 101, 110, 121]
set_option maxHeartbeats 4000000 in
theorem implReadRule_five (t w0 w1 w2 w3 w4 : ByteArray) (m : Int) (w : World) (ht : t.size ≤ 65536) (hm : w.cell? ⟨0, 0, none⟩ = some (.int .i64 m))
    (hW : ∀ w, w.cell? ⟨0, 0, none⟩ = some (.int .i64 m) → Calls Tryd.prog 42 #[.string t] w fun e w' => ∃ c : Nat, e = .returned (.slice (some ⟨w.heap.size, 0, none⟩) 5 c) ∧ (w'.cell? ⟨w.heap.size, 0, none⟩ = some (.string w0) ∧ w'.cell? ⟨w.heap.size, 1, none⟩ = some (.string w1) ∧ w'.cell? ⟨w.heap.size, 2, none⟩ = some (.string w2) ∧ w'.cell? ⟨w.heap.size, 3, none⟩ = some (.string w3) ∧ w'.cell? ⟨w.heap.size, 4, none⟩ = some (.string w4)) ∧ Below w.heap.size w w') (z1 : w1.size ≤ 65536) (z2 : w2.size ≤ 65536) (z3 : w3.size ≤ 65536) (z4 : w4.size ≤ 65536)
    (al : Bool) (ha : al = (w0.toList == sAllow)) (hd : (w0.toList == sAllow) = true ∨ (w0.toList == sDeny) = true) (rd : Bool) (v0 v1 : Int)
    (hN : ∀ (m : Int) (w : World), w.cell? ⟨0, 0, none⟩ = some (.int .i64 m) → Calls Tryd.prog 44 #[.string w2] w fun e w' => e = .returned (.tuple #[.agg #[.int .i64 (if rd then v0 else 0), .int .i64 (if rd then v1 else 0)], .int .i64 (if rd then 0 else 3)]) ∧ Below w.heap.size w w')
    (x0 x1 x2 x3 x4 : Int) (xb : Bool) (cc : Int) (hl3 : rnV w3 ≤ 9223372036854775807) (hl4 : rnV w4 ≤ 9223372036854775807)
    (hy : (pnB w1 && (rd && (rnB w3 && (rnB w4 && ruB ⟨pnV w1, v0, v1, rnV w3, rnV w4, al⟩)))) = true → (x0 = pnV w1 ∧ x1 = v0 ∧ x2 = v1 ∧ x3 = rnV w3 ∧ x4 = rnV w4 ∧ xb = al) ∧ cc = 0)
    (hx : (pnB w1 && (rd && (rnB w3 && (rnB w4 && ruB ⟨pnV w1, v0, v1, rnV w3, rnV w4, al⟩)))) = false → (x0 = 0 ∧ x1 = 0 ∧ x2 = 0 ∧ x3 = 0 ∧ x4 = 0 ∧ xb = false) ∧ cc = 3) :
    Calls Tryd.prog 16 #[.string t] w fun e w' => e = .returned (.tuple #[.agg #[.int .i64 x0, .int .i64 x1, .int .i64 x2, .int .i64 x3, .int .i64 x4, .bool xb], .int .i64 cc]) ∧ Below w.heap.size w w' := by
  have HY : Hid ((pnB w1 && (rd && (rnB w3 && (rnB w4 && ruB ⟨pnV w1, v0, v1, rnV w3, rnV w4, al⟩)))) = true → (x0 = pnV w1 ∧ x1 = v0 ∧ x2 = v1 ∧ x3 = rnV w3 ∧ x4 = rnV w4 ∧ xb = al) ∧ cc = 0) := hy
  have HX : Hid ((pnB w1 && (rd && (rnB w3 && (rnB w4 && ruB ⟨pnV w1, v0, v1, rnV w3, rnV w4, al⟩)))) = false → (x0 = 0 ∧ x1 = 0 ∧ x2 = 0 ∧ x3 = 0 ∧ x4 = 0 ∧ xb = false) ∧ cc = 3) := hx
  clear hy hx
  have HW : Hid (∀ w, w.cell? ⟨0, 0, none⟩ = some (.int .i64 m) → Calls Tryd.prog 42 #[.string t] w fun e w' => ∃ c : Nat, e = .returned (.slice (some ⟨w.heap.size, 0, none⟩) 5 c) ∧ (w'.cell? ⟨w.heap.size, 0, none⟩ = some (.string w0) ∧ w'.cell? ⟨w.heap.size, 1, none⟩ = some (.string w1) ∧ w'.cell? ⟨w.heap.size, 2, none⟩ = some (.string w2) ∧ w'.cell? ⟨w.heap.size, 3, none⟩ = some (.string w3) ∧ w'.cell? ⟨w.heap.size, 4, none⟩ = some (.string w4)) ∧ Below w.heap.size w w') := hW
  have HN : Hid (∀ (m : Int) (w : World), w.cell? ⟨0, 0, none⟩ = some (.int .i64 m) → Calls Tryd.prog 44 #[.string w2] w fun e w' => e = .returned (.tuple #[.agg #[.int .i64 (if rd then v0 else 0), .int .i64 (if rd then v1 else 0)], .int .i64 (if rd then 0 else 3)]) ∧ Below w.heap.size w w') := hN
  clear hW hN
  have HM : Hid (∀ wx, Below w.heap.size w wx → wx.cell? ⟨0, 0, none⟩ = some (.int .i64 m)) := fun wx hb => bkeep hb hm
  have HP : Hid (∀ w, Calls Tryd.prog 43 #[] w fun e w' => e = .returned (.map (some w.heap.size)) ∧ w'.ownsMap Tryd.prog 9 (plainElem (H := Unit) Tryd.prog 3) w.heap.size 4 d4 ∧ Below w.heap.size w w') := fun w => protoNumbers_any w
  have H3 : Hid (∀ w, Calls Tryd.prog 45 #[.string w3] w fun e w' => e = .returned (.tuple #[.int .i64 (rnV w3), .bool (rnB w3)]) ∧ w' = w) := fun w => readNumber_any w3 w (by omega)
  have H4 : Hid (∀ w, Calls Tryd.prog 45 #[.string w4] w fun e w' => e = .returned (.tuple #[.int .i64 (rnV w4), .bool (rnB w4)]) ∧ w' = w) := fun w => readNumber_any w4 w (by omega)
  have HO : Hid (∀ w, Calls Tryd.prog 46 #[.agg #[.int .i64 (pnV w1), .int .i64 v0, .int .i64 v1, .int .i64 (rnV w3), .int .i64 (rnV w4), .bool al]] w fun e w' => e = .returned (.bool (ruB ⟨pnV w1, v0, v1, rnV w3, rnV w4, al⟩)) ∧ Below w.heap.size w w') := fun w => (implRuleOK_any _ _ _ _ _ _ w hl3 hl4).mono fun e w' h => ⟨h.1, h.2.below⟩
  have HK : Hid (∀ (w : World) (B : Nat), w.ownsMap Tryd.prog 9 (plainElem (H := Unit) Tryd.prog 3) B 4 d4 → (Instr.lookup 80 (.map (some B)) (.string w1) true).run Tryd.prog w = .ok (.tuple #[.int .i64 (pnV w1), .bool (pnB w1)]) w) := fun w B h => look_proto w B h w1 (by unfold maxLen; omega)
  clear hm hl3 hl4
  generalize ruB ⟨pnV w1, v0, v1, rnV w3, rnV w4, al⟩ = z at HY HX HO
  generalize pnB w1 = kn at HY HX HK
  generalize pnV w1 = pv at HY HX HK HO
  generalize rnB w3 = q3 at HY HX H3
  generalize rnV w3 = l3 at HY HX H3 HO
  generalize rnB w4 = q4 at HY HX H4
  generalize rnV w4 = l4 at HY HX H4 HO
  cases al with
  | false =>
    have t0 : (w0.toList == [97, 108, 108, 111, 119]) = false := ha.symm
    have t1 : (w0.toList == [100, 101, 110, 121]) = true := by
      rcases hd with h | h
      · rw [← ha] at h; cases h
      · exact h
    clear ha hd
    go_enter Tryd.func16, Tryd.ntmps16
    go_wp2_with fail
    refine (HW.out _ (HM.out _ ((Below.refl _ _).alloc (Nat.le_refl _) _))).mono ?_
    rintro e wx1 ⟨cw, rfl, hq, bx⟩
    have c1_0_0 : wx1.cell? ⟨w.heap.size, 0, none⟩ = some (.int .i64 0) := bkeep bx (by simp [go_sem])
    have f1_0_0 : wx1.frozen? ⟨w.heap.size, 0, none⟩ = false := bthaw bx (v := .int .i64 0) (by simp [go_sem]) (by simp [go_sem])
    have c1_0_1 : wx1.cell? ⟨w.heap.size, 1, none⟩ = some (.int .i64 0) := bkeep bx (by simp [go_sem])
    have f1_0_1 : wx1.frozen? ⟨w.heap.size, 1, none⟩ = false := bthaw bx (v := .int .i64 0) (by simp [go_sem]) (by simp [go_sem])
    have c1_0_2 : wx1.cell? ⟨w.heap.size, 2, none⟩ = some (.int .i64 0) := bkeep bx (by simp [go_sem])
    have f1_0_2 : wx1.frozen? ⟨w.heap.size, 2, none⟩ = false := bthaw bx (v := .int .i64 0) (by simp [go_sem]) (by simp [go_sem])
    have c1_0_3 : wx1.cell? ⟨w.heap.size, 3, none⟩ = some (.int .i64 0) := bkeep bx (by simp [go_sem])
    have f1_0_3 : wx1.frozen? ⟨w.heap.size, 3, none⟩ = false := bthaw bx (v := .int .i64 0) (by simp [go_sem]) (by simp [go_sem])
    have c1_0_4 : wx1.cell? ⟨w.heap.size, 4, none⟩ = some (.int .i64 0) := bkeep bx (by simp [go_sem])
    have f1_0_4 : wx1.frozen? ⟨w.heap.size, 4, none⟩ = false := bthaw bx (v := .int .i64 0) (by simp [go_sem]) (by simp [go_sem])
    have c1_0_5 : wx1.cell? ⟨w.heap.size, 5, none⟩ = some (.bool false) := bkeep bx (by simp [go_sem])
    have f1_0_5 : wx1.frozen? ⟨w.heap.size, 5, none⟩ = false := bthaw bx (v := .bool false) (by simp [go_sem]) (by simp [go_sem])
    have BX1 : Hid (Below w.heap.size w wx1) := ((Below.refl w.heap.size w).alloc (by simp <;> omega) _).trans (bx.mono (by simp <;> omega))
    clear bx
    obtain ⟨r0, r1, r2, r3, r4⟩ := hq
    have c1_1_0 : wx1.cell? ⟨w.heap.size + 1, 0, none⟩ = some (.string w0) := by simpa using r0
    have c1_1_1 : wx1.cell? ⟨w.heap.size + 1, 1, none⟩ = some (.string w1) := by simpa using r1
    have c1_1_2 : wx1.cell? ⟨w.heap.size + 1, 2, none⟩ = some (.string w2) := by simpa using r2
    have c1_1_3 : wx1.cell? ⟨w.heap.size + 1, 3, none⟩ = some (.string w3) := by simpa using r3
    have c1_1_4 : wx1.cell? ⟨w.heap.size + 1, 4, none⟩ = some (.string w4) := by simpa using r4
    clear r0 r1 r2 r3 r4
    go_wp2_with fail
    have DR : Hid (Below wx1.heap.size wx1 wx1.drew) := (Below.refl _ _).drew
    have KP : Hid (∀ wx, Below wx1.heap.size wx1 wx → wx.cell? ⟨w.heap.size + 1, 1, none⟩ = some (.string w1)) := fun wx hb => bkeep hb c1_1_1
    refine wp_region_held_drew (S := (fun wx => wx.cell? ⟨w.heap.size + 1, 1, none⟩ = some (.string w1))) (by kernel_rfl) ?_ (fun hH0 => ?_)
    · exact KP.out _ DR.out
    refine wpAnyH_take (i := 1) (v := ?v101) rfl (by kernel_rfl) (by kernel_rfl) (by kernel_rfl) (fun _ _ _ h => h) (Or.inl ⟨by rfl, ?hy101⟩) (by assumption) ?rest101
    case hy101 => (intro w hSw; (try dsimp only at hSw); go_simp; (try with_reducible rfl))
    refine wpAnyH_take (i := 2) (v := ?v102) rfl (by kernel_rfl) (by kernel_rfl) (by kernel_rfl) (fun _ _ _ h => h) (Or.inl ⟨by rfl, ?hy102⟩) (by assumption) ?rest102
    case hy102 => (intro w hSw; (try dsimp only at hSw); go_simp; (try with_reducible rfl))
    refine wpAnyH_take (i := 3) (v := ?v103) rfl (by kernel_rfl) (by kernel_rfl) (by kernel_rfl) (fun _ _ _ h => h) (Or.inl ⟨by rfl, ?hy103⟩) (by assumption) ?rest103
    case hy103 => (intro w hSw; (try dsimp only at hSw); go_simp; (try with_reducible rfl))
    refine wpAnyH_ready (rs := [0]) (by kernel_rfl) (by simp) ?_
    refine AllReadyH.cons rfl (fun K hK => ?_) ?_
    · go_simp
      go_at_call 43
      (with_reducible refine (HP.out _).mono ?_)
      rintro e wx2 ⟨rfl, hown, bc⟩
      have BC : Hid (Below wx1.heap.size wx1 wx2) := DR.out.trans bc
      have LK : (Instr.lookup 80 (.map (some wx1.heap.size)) (.string w1) true).run Tryd.prog wx2 = .ok (.tuple #[.int .i64 pv, .bool kn]) wx2 := HK.out wx2 _ hown
      clear hown bc
      refine hK.out _ _ ?_ (fun hH104 => ?_)
      · (try dsimp only)
        first | with_reducible exact KP.out _ DR.out | with_reducible exact KP.out _ BC.out
      clear hK K hH0
      refine wpAnyH_ready (rs := [4]) (by kernel_rfl) (by simp) ?_
      refine AllReadyH.cons rfl (fun K hK => ?_) ?_
      · go_simp
        refine hK.out _ _ ?_ (fun hH105 => ?_)
        · (try dsimp only)
          first | with_reducible exact KP.out _ DR.out | with_reducible exact KP.out _ BC.out
        clear hK K hH104
        refine wpAnyH_take (i := 5) (v := ?v106) rfl (by kernel_rfl) (by kernel_rfl) (by kernel_rfl) (fun _ _ _ h => h) (Or.inl ⟨by rfl, ?hy106⟩) (by assumption) ?rest106
        case hy106 => (intro w hSw; (try dsimp only at hSw); go_simp; (try with_reducible rfl))
        refine wpAnyH_take (i := 6) (v := ?v107) rfl (by kernel_rfl) (by kernel_rfl) (by kernel_rfl) (fun _ _ _ h => h) (Or.inl ⟨by rfl, ?hy107⟩) (by assumption) ?rest107
        case hy107 => (intro w hSw; (try dsimp only at hSw); go_simp; (try with_reducible rfl))
        refine wpAnyH_take (i := 7) (v := ?v108) rfl (by kernel_rfl) (by kernel_rfl) (by kernel_rfl) (fun _ _ _ h => h) (Or.inl ⟨by rfl, ?hy108⟩) (by assumption) ?rest108
        case hy108 => (intro w hSw; (try dsimp only at hSw); go_simp; (try with_reducible rfl))
        refine wpAnyH_take (i := 8) (v := ?v109) rfl (by kernel_rfl) (by kernel_rfl) (by kernel_rfl) (fun _ _ _ h => h) (Or.inl ⟨by rfl, ?hy109⟩) (by assumption) ?rest109
        case hy109 => (intro w hSw; (try dsimp only at hSw); go_simp; (try with_reducible rfl))
        refine wpAnyH_take (i := 9) (v := ?v110) rfl (by kernel_rfl) (by kernel_rfl) (by kernel_rfl) (fun _ _ _ h => h) (Or.inl ⟨by rfl, ?hy110⟩) (by assumption) ?rest110
        case hy110 => (intro w hSw; (try dsimp only at hSw); go_simp; (try with_reducible rfl))
        refine wpAnyH_done (by kernel_rfl) ?_ _
        go_simp
        have bx := BC.out
        have c2_0_0 : wx2.cell? ⟨w.heap.size, 0, none⟩ = some (.int .i64 0) := bkeep bx c1_0_0
        have f2_0_0 : wx2.frozen? ⟨w.heap.size, 0, none⟩ = false := bthaw bx c1_0_0 f1_0_0
        have c2_0_1 : wx2.cell? ⟨w.heap.size, 1, none⟩ = some (.int .i64 0) := bkeep bx c1_0_1
        have f2_0_1 : wx2.frozen? ⟨w.heap.size, 1, none⟩ = false := bthaw bx c1_0_1 f1_0_1
        have c2_0_2 : wx2.cell? ⟨w.heap.size, 2, none⟩ = some (.int .i64 0) := bkeep bx c1_0_2
        have f2_0_2 : wx2.frozen? ⟨w.heap.size, 2, none⟩ = false := bthaw bx c1_0_2 f1_0_2
        have c2_0_3 : wx2.cell? ⟨w.heap.size, 3, none⟩ = some (.int .i64 0) := bkeep bx c1_0_3
        have f2_0_3 : wx2.frozen? ⟨w.heap.size, 3, none⟩ = false := bthaw bx c1_0_3 f1_0_3
        have c2_0_4 : wx2.cell? ⟨w.heap.size, 4, none⟩ = some (.int .i64 0) := bkeep bx c1_0_4
        have f2_0_4 : wx2.frozen? ⟨w.heap.size, 4, none⟩ = false := bthaw bx c1_0_4 f1_0_4
        have c2_0_5 : wx2.cell? ⟨w.heap.size, 5, none⟩ = some (.bool false) := bkeep bx c1_0_5
        have f2_0_5 : wx2.frozen? ⟨w.heap.size, 5, none⟩ = false := bthaw bx c1_0_5 f1_0_5
        have c2_1_0 : wx2.cell? ⟨w.heap.size + 1, 0, none⟩ = some (.string w0) := bkeep bx c1_1_0
        have c2_1_1 : wx2.cell? ⟨w.heap.size + 1, 1, none⟩ = some (.string w1) := bkeep bx c1_1_1
        have c2_1_2 : wx2.cell? ⟨w.heap.size + 1, 2, none⟩ = some (.string w2) := bkeep bx c1_1_2
        have c2_1_3 : wx2.cell? ⟨w.heap.size + 1, 3, none⟩ = some (.string w3) := bkeep bx c1_1_3
        have c2_1_4 : wx2.cell? ⟨w.heap.size + 1, 4, none⟩ = some (.string w4) := bkeep bx c1_1_4
        have BX2 : Hid (Below w.heap.size w wx2) := BX1.out.trans (bx.mono BX1.out.size)
        clear c1_0_0 c1_0_1 c1_0_2 c1_0_3 c1_0_4 c1_0_5 c1_1_0 c1_1_1 c1_1_2 c1_1_3 c1_1_4 f1_0_0 f1_0_1 f1_0_2 f1_0_3 f1_0_4 f1_0_5 BX1
        clear bx BC LK KP DR hH105
        cases rd with
        | false =>
          go_wp2_with fail
          refine (HN.out _ _ (HM.out _ BX2.out)).mono ?_
          rintro e wx3 ⟨rfl, bx⟩
          have c3_0_0 : wx3.cell? ⟨w.heap.size, 0, none⟩ = some (.int .i64 0) := bkeep bx (by first | (simp [go_sem]; done) | simp [go_sem, c2_0_0])
          have f3_0_0 : wx3.frozen? ⟨w.heap.size, 0, none⟩ = false := bthaw bx (v := .int .i64 0) (by first | (simp [go_sem]; done) | simp [go_sem, c2_0_0]) (by first | (simp [go_sem]; done) | simp [go_sem, f2_0_0])
          have c3_0_1 : wx3.cell? ⟨w.heap.size, 1, none⟩ = some (.int .i64 0) := bkeep bx (by first | (simp [go_sem]; done) | simp [go_sem, c2_0_1])
          have f3_0_1 : wx3.frozen? ⟨w.heap.size, 1, none⟩ = false := bthaw bx (v := .int .i64 0) (by first | (simp [go_sem]; done) | simp [go_sem, c2_0_1]) (by first | (simp [go_sem]; done) | simp [go_sem, f2_0_1])
          have c3_0_2 : wx3.cell? ⟨w.heap.size, 2, none⟩ = some (.int .i64 0) := bkeep bx (by first | (simp [go_sem]; done) | simp [go_sem, c2_0_2])
          have f3_0_2 : wx3.frozen? ⟨w.heap.size, 2, none⟩ = false := bthaw bx (v := .int .i64 0) (by first | (simp [go_sem]; done) | simp [go_sem, c2_0_2]) (by first | (simp [go_sem]; done) | simp [go_sem, f2_0_2])
          have c3_0_3 : wx3.cell? ⟨w.heap.size, 3, none⟩ = some (.int .i64 0) := bkeep bx (by first | (simp [go_sem]; done) | simp [go_sem, c2_0_3])
          have f3_0_3 : wx3.frozen? ⟨w.heap.size, 3, none⟩ = false := bthaw bx (v := .int .i64 0) (by first | (simp [go_sem]; done) | simp [go_sem, c2_0_3]) (by first | (simp [go_sem]; done) | simp [go_sem, f2_0_3])
          have c3_0_4 : wx3.cell? ⟨w.heap.size, 4, none⟩ = some (.int .i64 0) := bkeep bx (by first | (simp [go_sem]; done) | simp [go_sem, c2_0_4])
          have f3_0_4 : wx3.frozen? ⟨w.heap.size, 4, none⟩ = false := bthaw bx (v := .int .i64 0) (by first | (simp [go_sem]; done) | simp [go_sem, c2_0_4]) (by first | (simp [go_sem]; done) | simp [go_sem, f2_0_4])
          have c3_0_5 : wx3.cell? ⟨w.heap.size, 5, none⟩ = some (.bool false) := bkeep bx (by first | (simp [go_sem]; done) | simp [go_sem, c2_0_5])
          have f3_0_5 : wx3.frozen? ⟨w.heap.size, 5, none⟩ = false := bthaw bx (v := .bool false) (by first | (simp [go_sem]; done) | simp [go_sem, c2_0_5]) (by first | (simp [go_sem]; done) | simp [go_sem, f2_0_5])
          have c3_1_0 : wx3.cell? ⟨w.heap.size + 1, 0, none⟩ = some (.string w0) := bkeep bx (by first | (simp [go_sem]; done) | simp [go_sem, c2_1_0])
          have c3_1_1 : wx3.cell? ⟨w.heap.size + 1, 1, none⟩ = some (.string w1) := bkeep bx (by first | (simp [go_sem]; done) | simp [go_sem, c2_1_1])
          have c3_1_2 : wx3.cell? ⟨w.heap.size + 1, 2, none⟩ = some (.string w2) := bkeep bx (by first | (simp [go_sem]; done) | simp [go_sem, c2_1_2])
          have c3_1_3 : wx3.cell? ⟨w.heap.size + 1, 3, none⟩ = some (.string w3) := bkeep bx (by first | (simp [go_sem]; done) | simp [go_sem, c2_1_3])
          have c3_1_4 : wx3.cell? ⟨w.heap.size + 1, 4, none⟩ = some (.string w4) := bkeep bx (by first | (simp [go_sem]; done) | simp [go_sem, c2_1_4])
          have BX3 : Hid (Below w.heap.size w wx3) := BX2.out.trans (bx.mono (by have := BX2.out.size; simp <;> omega))
          clear bx c2_0_0 c2_0_1 c2_0_2 c2_0_3 c2_0_4 c2_0_5 c2_1_0 c2_1_1 c2_1_2 c2_1_3 c2_1_4 f2_0_0 f2_0_1 f2_0_2 f2_0_3 f2_0_4 f2_0_5 BX2
          have d_0_0 : (wx3.alloc (.cells #[.int .i64 0, .int .i64 0] 40)).cell? ⟨w.heap.size, 0, none⟩ = some (.int .i64 0) := acell c3_0_0 _
          have g_0_0 : (wx3.alloc (.cells #[.int .i64 0, .int .i64 0] 40)).frozen? ⟨w.heap.size, 0, none⟩ = false := bthaw ((Below.refl _ _).alloc (Nat.le_refl _) _) c3_0_0 f3_0_0
          have d_0_1 : (wx3.alloc (.cells #[.int .i64 0, .int .i64 0] 40)).cell? ⟨w.heap.size, 1, none⟩ = some (.int .i64 0) := acell c3_0_1 _
          have g_0_1 : (wx3.alloc (.cells #[.int .i64 0, .int .i64 0] 40)).frozen? ⟨w.heap.size, 1, none⟩ = false := bthaw ((Below.refl _ _).alloc (Nat.le_refl _) _) c3_0_1 f3_0_1
          have d_0_2 : (wx3.alloc (.cells #[.int .i64 0, .int .i64 0] 40)).cell? ⟨w.heap.size, 2, none⟩ = some (.int .i64 0) := acell c3_0_2 _
          have g_0_2 : (wx3.alloc (.cells #[.int .i64 0, .int .i64 0] 40)).frozen? ⟨w.heap.size, 2, none⟩ = false := bthaw ((Below.refl _ _).alloc (Nat.le_refl _) _) c3_0_2 f3_0_2
          have d_0_3 : (wx3.alloc (.cells #[.int .i64 0, .int .i64 0] 40)).cell? ⟨w.heap.size, 3, none⟩ = some (.int .i64 0) := acell c3_0_3 _
          have g_0_3 : (wx3.alloc (.cells #[.int .i64 0, .int .i64 0] 40)).frozen? ⟨w.heap.size, 3, none⟩ = false := bthaw ((Below.refl _ _).alloc (Nat.le_refl _) _) c3_0_3 f3_0_3
          have d_0_4 : (wx3.alloc (.cells #[.int .i64 0, .int .i64 0] 40)).cell? ⟨w.heap.size, 4, none⟩ = some (.int .i64 0) := acell c3_0_4 _
          have g_0_4 : (wx3.alloc (.cells #[.int .i64 0, .int .i64 0] 40)).frozen? ⟨w.heap.size, 4, none⟩ = false := bthaw ((Below.refl _ _).alloc (Nat.le_refl _) _) c3_0_4 f3_0_4
          have d_0_5 : (wx3.alloc (.cells #[.int .i64 0, .int .i64 0] 40)).cell? ⟨w.heap.size, 5, none⟩ = some (.bool false) := acell c3_0_5 _
          have g_0_5 : (wx3.alloc (.cells #[.int .i64 0, .int .i64 0] 40)).frozen? ⟨w.heap.size, 5, none⟩ = false := bthaw ((Below.refl _ _).alloc (Nat.le_refl _) _) c3_0_5 f3_0_5
          have d_1_0 : (wx3.alloc (.cells #[.int .i64 0, .int .i64 0] 40)).cell? ⟨w.heap.size + 1, 0, none⟩ = some (.string w0) := acell c3_1_0 _
          have d_1_1 : (wx3.alloc (.cells #[.int .i64 0, .int .i64 0] 40)).cell? ⟨w.heap.size + 1, 1, none⟩ = some (.string w1) := acell c3_1_1 _
          have d_1_2 : (wx3.alloc (.cells #[.int .i64 0, .int .i64 0] 40)).cell? ⟨w.heap.size + 1, 2, none⟩ = some (.string w2) := acell c3_1_2 _
          have d_1_3 : (wx3.alloc (.cells #[.int .i64 0, .int .i64 0] 40)).cell? ⟨w.heap.size + 1, 3, none⟩ = some (.string w3) := acell c3_1_3 _
          have d_1_4 : (wx3.alloc (.cells #[.int .i64 0, .int .i64 0] 40)).cell? ⟨w.heap.size + 1, 4, none⟩ = some (.string w4) := acell c3_1_4 _
          have DN : Hid (Below w.heap.size w (wx3.alloc (.cells #[.int .i64 0, .int .i64 0] 40))) := BX3.out.alloc BX3.out.size _
          have LN : w.heap.size + 1 < wx3.heap.size := World.block_lt_of_cell? wx3 _ c3_1_0
          go_wp2_with fail
          refine (H3.out _).mono ?_
          rintro e w9 ⟨rfl, rfl⟩
          go_wp2_with fail
          refine (H4.out _).mono ?_
          rintro e w8 ⟨rfl, rfl⟩
          go_wp2
          all_goals
            (try simp only [Exit.inBlock, Exit.then])
            refine bodyPost_ret (v := .tuple #[.agg #[.int .i64 0, .int .i64 0, .int .i64 0, .int .i64 0, .int .i64 0, .bool false], .int .i64 3]) (by simp [results, Tryd.results16, go_sem, d_0_0, d_0_1, d_0_2, d_0_3, d_0_4, d_0_5]; try rfl) rfl ?_
            obtain ⟨⟨rfl, rfl, rfl, rfl, rfl, rfl⟩, rfl⟩ := HX.out (by simp)
            exact ⟨rfl, ((((((DN.out.setCell (p := ⟨w.heap.size, _, _⟩) (Nat.le_refl _) _).setCell (p := ⟨w.heap.size, _, _⟩) (Nat.le_refl _) _).setCell (p := ⟨w.heap.size, _, _⟩) (Nat.le_refl _) _).setCell (p := ⟨w.heap.size, _, _⟩) (Nat.le_refl _) _).setCell (p := ⟨w.heap.size, _, _⟩) (Nat.le_refl _) _).setCell (p := ⟨w.heap.size, _, _⟩) (Nat.le_refl _) _)⟩
        | true =>
          go_wp2_with fail
          refine (HN.out _ _ (HM.out _ BX2.out)).mono ?_
          rintro e wx3 ⟨rfl, bx⟩
          have c3_0_0 : wx3.cell? ⟨w.heap.size, 0, none⟩ = some (.int .i64 0) := bkeep bx (by first | (simp [go_sem]; done) | simp [go_sem, c2_0_0])
          have f3_0_0 : wx3.frozen? ⟨w.heap.size, 0, none⟩ = false := bthaw bx (v := .int .i64 0) (by first | (simp [go_sem]; done) | simp [go_sem, c2_0_0]) (by first | (simp [go_sem]; done) | simp [go_sem, f2_0_0])
          have c3_0_1 : wx3.cell? ⟨w.heap.size, 1, none⟩ = some (.int .i64 0) := bkeep bx (by first | (simp [go_sem]; done) | simp [go_sem, c2_0_1])
          have f3_0_1 : wx3.frozen? ⟨w.heap.size, 1, none⟩ = false := bthaw bx (v := .int .i64 0) (by first | (simp [go_sem]; done) | simp [go_sem, c2_0_1]) (by first | (simp [go_sem]; done) | simp [go_sem, f2_0_1])
          have c3_0_2 : wx3.cell? ⟨w.heap.size, 2, none⟩ = some (.int .i64 0) := bkeep bx (by first | (simp [go_sem]; done) | simp [go_sem, c2_0_2])
          have f3_0_2 : wx3.frozen? ⟨w.heap.size, 2, none⟩ = false := bthaw bx (v := .int .i64 0) (by first | (simp [go_sem]; done) | simp [go_sem, c2_0_2]) (by first | (simp [go_sem]; done) | simp [go_sem, f2_0_2])
          have c3_0_3 : wx3.cell? ⟨w.heap.size, 3, none⟩ = some (.int .i64 0) := bkeep bx (by first | (simp [go_sem]; done) | simp [go_sem, c2_0_3])
          have f3_0_3 : wx3.frozen? ⟨w.heap.size, 3, none⟩ = false := bthaw bx (v := .int .i64 0) (by first | (simp [go_sem]; done) | simp [go_sem, c2_0_3]) (by first | (simp [go_sem]; done) | simp [go_sem, f2_0_3])
          have c3_0_4 : wx3.cell? ⟨w.heap.size, 4, none⟩ = some (.int .i64 0) := bkeep bx (by first | (simp [go_sem]; done) | simp [go_sem, c2_0_4])
          have f3_0_4 : wx3.frozen? ⟨w.heap.size, 4, none⟩ = false := bthaw bx (v := .int .i64 0) (by first | (simp [go_sem]; done) | simp [go_sem, c2_0_4]) (by first | (simp [go_sem]; done) | simp [go_sem, f2_0_4])
          have c3_0_5 : wx3.cell? ⟨w.heap.size, 5, none⟩ = some (.bool false) := bkeep bx (by first | (simp [go_sem]; done) | simp [go_sem, c2_0_5])
          have f3_0_5 : wx3.frozen? ⟨w.heap.size, 5, none⟩ = false := bthaw bx (v := .bool false) (by first | (simp [go_sem]; done) | simp [go_sem, c2_0_5]) (by first | (simp [go_sem]; done) | simp [go_sem, f2_0_5])
          have c3_1_0 : wx3.cell? ⟨w.heap.size + 1, 0, none⟩ = some (.string w0) := bkeep bx (by first | (simp [go_sem]; done) | simp [go_sem, c2_1_0])
          have c3_1_1 : wx3.cell? ⟨w.heap.size + 1, 1, none⟩ = some (.string w1) := bkeep bx (by first | (simp [go_sem]; done) | simp [go_sem, c2_1_1])
          have c3_1_2 : wx3.cell? ⟨w.heap.size + 1, 2, none⟩ = some (.string w2) := bkeep bx (by first | (simp [go_sem]; done) | simp [go_sem, c2_1_2])
          have c3_1_3 : wx3.cell? ⟨w.heap.size + 1, 3, none⟩ = some (.string w3) := bkeep bx (by first | (simp [go_sem]; done) | simp [go_sem, c2_1_3])
          have c3_1_4 : wx3.cell? ⟨w.heap.size + 1, 4, none⟩ = some (.string w4) := bkeep bx (by first | (simp [go_sem]; done) | simp [go_sem, c2_1_4])
          have BX3 : Hid (Below w.heap.size w wx3) := BX2.out.trans (bx.mono (by have := BX2.out.size; simp <;> omega))
          clear bx c2_0_0 c2_0_1 c2_0_2 c2_0_3 c2_0_4 c2_0_5 c2_1_0 c2_1_1 c2_1_2 c2_1_3 c2_1_4 f2_0_0 f2_0_1 f2_0_2 f2_0_3 f2_0_4 f2_0_5 BX2
          have d_0_0 : (wx3.alloc (.cells #[.int .i64 v0, .int .i64 v1] 40)).cell? ⟨w.heap.size, 0, none⟩ = some (.int .i64 0) := acell c3_0_0 _
          have g_0_0 : (wx3.alloc (.cells #[.int .i64 v0, .int .i64 v1] 40)).frozen? ⟨w.heap.size, 0, none⟩ = false := bthaw ((Below.refl _ _).alloc (Nat.le_refl _) _) c3_0_0 f3_0_0
          have d_0_1 : (wx3.alloc (.cells #[.int .i64 v0, .int .i64 v1] 40)).cell? ⟨w.heap.size, 1, none⟩ = some (.int .i64 0) := acell c3_0_1 _
          have g_0_1 : (wx3.alloc (.cells #[.int .i64 v0, .int .i64 v1] 40)).frozen? ⟨w.heap.size, 1, none⟩ = false := bthaw ((Below.refl _ _).alloc (Nat.le_refl _) _) c3_0_1 f3_0_1
          have d_0_2 : (wx3.alloc (.cells #[.int .i64 v0, .int .i64 v1] 40)).cell? ⟨w.heap.size, 2, none⟩ = some (.int .i64 0) := acell c3_0_2 _
          have g_0_2 : (wx3.alloc (.cells #[.int .i64 v0, .int .i64 v1] 40)).frozen? ⟨w.heap.size, 2, none⟩ = false := bthaw ((Below.refl _ _).alloc (Nat.le_refl _) _) c3_0_2 f3_0_2
          have d_0_3 : (wx3.alloc (.cells #[.int .i64 v0, .int .i64 v1] 40)).cell? ⟨w.heap.size, 3, none⟩ = some (.int .i64 0) := acell c3_0_3 _
          have g_0_3 : (wx3.alloc (.cells #[.int .i64 v0, .int .i64 v1] 40)).frozen? ⟨w.heap.size, 3, none⟩ = false := bthaw ((Below.refl _ _).alloc (Nat.le_refl _) _) c3_0_3 f3_0_3
          have d_0_4 : (wx3.alloc (.cells #[.int .i64 v0, .int .i64 v1] 40)).cell? ⟨w.heap.size, 4, none⟩ = some (.int .i64 0) := acell c3_0_4 _
          have g_0_4 : (wx3.alloc (.cells #[.int .i64 v0, .int .i64 v1] 40)).frozen? ⟨w.heap.size, 4, none⟩ = false := bthaw ((Below.refl _ _).alloc (Nat.le_refl _) _) c3_0_4 f3_0_4
          have d_0_5 : (wx3.alloc (.cells #[.int .i64 v0, .int .i64 v1] 40)).cell? ⟨w.heap.size, 5, none⟩ = some (.bool false) := acell c3_0_5 _
          have g_0_5 : (wx3.alloc (.cells #[.int .i64 v0, .int .i64 v1] 40)).frozen? ⟨w.heap.size, 5, none⟩ = false := bthaw ((Below.refl _ _).alloc (Nat.le_refl _) _) c3_0_5 f3_0_5
          have d_1_0 : (wx3.alloc (.cells #[.int .i64 v0, .int .i64 v1] 40)).cell? ⟨w.heap.size + 1, 0, none⟩ = some (.string w0) := acell c3_1_0 _
          have d_1_1 : (wx3.alloc (.cells #[.int .i64 v0, .int .i64 v1] 40)).cell? ⟨w.heap.size + 1, 1, none⟩ = some (.string w1) := acell c3_1_1 _
          have d_1_2 : (wx3.alloc (.cells #[.int .i64 v0, .int .i64 v1] 40)).cell? ⟨w.heap.size + 1, 2, none⟩ = some (.string w2) := acell c3_1_2 _
          have d_1_3 : (wx3.alloc (.cells #[.int .i64 v0, .int .i64 v1] 40)).cell? ⟨w.heap.size + 1, 3, none⟩ = some (.string w3) := acell c3_1_3 _
          have d_1_4 : (wx3.alloc (.cells #[.int .i64 v0, .int .i64 v1] 40)).cell? ⟨w.heap.size + 1, 4, none⟩ = some (.string w4) := acell c3_1_4 _
          have DN : Hid (Below w.heap.size w (wx3.alloc (.cells #[.int .i64 v0, .int .i64 v1] 40))) := BX3.out.alloc BX3.out.size _
          have LN : w.heap.size + 1 < wx3.heap.size := World.block_lt_of_cell? wx3 _ c3_1_0
          go_wp2_with fail
          refine (H3.out _).mono ?_
          rintro e w9 ⟨rfl, rfl⟩
          go_wp2_with fail
          refine (H4.out _).mono ?_
          rintro e w8 ⟨rfl, rfl⟩
          cases kn with
          | false =>
            go_wp2
            all_goals
              (try simp only [Exit.inBlock, Exit.then])
              refine bodyPost_ret (v := .tuple #[.agg #[.int .i64 0, .int .i64 0, .int .i64 0, .int .i64 0, .int .i64 0, .bool false], .int .i64 3]) (by simp [results, Tryd.results16, go_sem, d_0_0, d_0_1, d_0_2, d_0_3, d_0_4, d_0_5]; try rfl) rfl ?_
              obtain ⟨⟨rfl, rfl, rfl, rfl, rfl, rfl⟩, rfl⟩ := HX.out rfl
              exact ⟨rfl, ((((((DN.out.setCell (p := ⟨w.heap.size, _, _⟩) (Nat.le_refl _) _).setCell (p := ⟨w.heap.size, _, _⟩) (Nat.le_refl _) _).setCell (p := ⟨w.heap.size, _, _⟩) (Nat.le_refl _) _).setCell (p := ⟨w.heap.size, _, _⟩) (Nat.le_refl _) _).setCell (p := ⟨w.heap.size, _, _⟩) (Nat.le_refl _) _).setCell (p := ⟨w.heap.size, _, _⟩) (Nat.le_refl _) _)⟩
          | true =>
            cases q3 with
            | false =>
              go_wp2
              all_goals
                (try simp only [Exit.inBlock, Exit.then])
                refine bodyPost_ret (v := .tuple #[.agg #[.int .i64 0, .int .i64 0, .int .i64 0, .int .i64 0, .int .i64 0, .bool false], .int .i64 3]) (by simp [results, Tryd.results16, go_sem, d_0_0, d_0_1, d_0_2, d_0_3, d_0_4, d_0_5]; try rfl) rfl ?_
                obtain ⟨⟨rfl, rfl, rfl, rfl, rfl, rfl⟩, rfl⟩ := HX.out rfl
                exact ⟨rfl, ((((((DN.out.setCell (p := ⟨w.heap.size, _, _⟩) (Nat.le_refl _) _).setCell (p := ⟨w.heap.size, _, _⟩) (Nat.le_refl _) _).setCell (p := ⟨w.heap.size, _, _⟩) (Nat.le_refl _) _).setCell (p := ⟨w.heap.size, _, _⟩) (Nat.le_refl _) _).setCell (p := ⟨w.heap.size, _, _⟩) (Nat.le_refl _) _).setCell (p := ⟨w.heap.size, _, _⟩) (Nat.le_refl _) _)⟩
            | true =>
              cases q4 with
              | false =>
                go_wp2
                all_goals
                  (try simp only [Exit.inBlock, Exit.then])
                  refine bodyPost_ret (v := .tuple #[.agg #[.int .i64 0, .int .i64 0, .int .i64 0, .int .i64 0, .int .i64 0, .bool false], .int .i64 3]) (by simp [results, Tryd.results16, go_sem, d_0_0, d_0_1, d_0_2, d_0_3, d_0_4, d_0_5]; try rfl) rfl ?_
                  obtain ⟨⟨rfl, rfl, rfl, rfl, rfl, rfl⟩, rfl⟩ := HX.out rfl
                  exact ⟨rfl, ((((((DN.out.setCell (p := ⟨w.heap.size, _, _⟩) (Nat.le_refl _) _).setCell (p := ⟨w.heap.size, _, _⟩) (Nat.le_refl _) _).setCell (p := ⟨w.heap.size, _, _⟩) (Nat.le_refl _) _).setCell (p := ⟨w.heap.size, _, _⟩) (Nat.le_refl _) _).setCell (p := ⟨w.heap.size, _, _⟩) (Nat.le_refl _) _).setCell (p := ⟨w.heap.size, _, _⟩) (Nat.le_refl _) _)⟩
              | true =>
                go_wp2_with fail
                refine (HO.out _).mono ?_
                rintro e wx4 ⟨rfl, bx⟩
                have e_0_0 : wx4.cell? ⟨w.heap.size, 0, none⟩ = some (.int .i64 0) := bkeep bx (acell d_0_0 _)
                have h_0_0 : wx4.frozen? ⟨w.heap.size, 0, none⟩ = false := bthaw bx (acell d_0_0 _) (bthaw ((Below.refl _ _).alloc (Nat.le_refl _) _) d_0_0 g_0_0)
                have e_0_1 : wx4.cell? ⟨w.heap.size, 1, none⟩ = some (.int .i64 0) := bkeep bx (acell d_0_1 _)
                have h_0_1 : wx4.frozen? ⟨w.heap.size, 1, none⟩ = false := bthaw bx (acell d_0_1 _) (bthaw ((Below.refl _ _).alloc (Nat.le_refl _) _) d_0_1 g_0_1)
                have e_0_2 : wx4.cell? ⟨w.heap.size, 2, none⟩ = some (.int .i64 0) := bkeep bx (acell d_0_2 _)
                have h_0_2 : wx4.frozen? ⟨w.heap.size, 2, none⟩ = false := bthaw bx (acell d_0_2 _) (bthaw ((Below.refl _ _).alloc (Nat.le_refl _) _) d_0_2 g_0_2)
                have e_0_3 : wx4.cell? ⟨w.heap.size, 3, none⟩ = some (.int .i64 0) := bkeep bx (acell d_0_3 _)
                have h_0_3 : wx4.frozen? ⟨w.heap.size, 3, none⟩ = false := bthaw bx (acell d_0_3 _) (bthaw ((Below.refl _ _).alloc (Nat.le_refl _) _) d_0_3 g_0_3)
                have e_0_4 : wx4.cell? ⟨w.heap.size, 4, none⟩ = some (.int .i64 0) := bkeep bx (acell d_0_4 _)
                have h_0_4 : wx4.frozen? ⟨w.heap.size, 4, none⟩ = false := bthaw bx (acell d_0_4 _) (bthaw ((Below.refl _ _).alloc (Nat.le_refl _) _) d_0_4 g_0_4)
                have e_0_5 : wx4.cell? ⟨w.heap.size, 5, none⟩ = some (.bool false) := bkeep bx (acell d_0_5 _)
                have h_0_5 : wx4.frozen? ⟨w.heap.size, 5, none⟩ = false := bthaw bx (acell d_0_5 _) (bthaw ((Below.refl _ _).alloc (Nat.le_refl _) _) d_0_5 g_0_5)
                have e_2_0 : wx4.cell? ⟨wx3.heap.size + 1, 0, none⟩ = some (.int .i64 pv) := bkeep bx (by simp [go_sem])
                have e_2_1 : wx4.cell? ⟨wx3.heap.size + 1, 1, none⟩ = some (.int .i64 v0) := bkeep bx (by simp [go_sem])
                have e_2_2 : wx4.cell? ⟨wx3.heap.size + 1, 2, none⟩ = some (.int .i64 v1) := bkeep bx (by simp [go_sem])
                have e_2_3 : wx4.cell? ⟨wx3.heap.size + 1, 3, none⟩ = some (.int .i64 l3) := bkeep bx (by simp [go_sem])
                have e_2_4 : wx4.cell? ⟨wx3.heap.size + 1, 4, none⟩ = some (.int .i64 l4) := bkeep bx (by simp [go_sem])
                have e_2_5 : wx4.cell? ⟨wx3.heap.size + 1, 5, none⟩ = some (.bool false) := bkeep bx (by simp [go_sem])
                have BX4 : Hid (Below w.heap.size w wx4) := (DN.out.alloc DN.out.size _).trans (bx.mono (by have := DN.out.size; simp; omega))
                clear bx
                cases z with
                | false =>
                  go_wp2
                  all_goals
                    (try simp only [Exit.inBlock, Exit.then])
                    refine bodyPost_ret (v := .tuple #[.agg #[.int .i64 0, .int .i64 0, .int .i64 0, .int .i64 0, .int .i64 0, .bool false], .int .i64 3]) (by simp [results, Tryd.results16, go_sem, e_0_0, e_0_1, e_0_2, e_0_3, e_0_4, e_0_5]; try rfl) rfl ?_
                    obtain ⟨⟨rfl, rfl, rfl, rfl, rfl, rfl⟩, rfl⟩ := HX.out rfl
                    exact ⟨rfl, ((((((BX4.out.setCell (p := ⟨w.heap.size, _, _⟩) (Nat.le_refl _) _).setCell (p := ⟨w.heap.size, _, _⟩) (Nat.le_refl _) _).setCell (p := ⟨w.heap.size, _, _⟩) (Nat.le_refl _) _).setCell (p := ⟨w.heap.size, _, _⟩) (Nat.le_refl _) _).setCell (p := ⟨w.heap.size, _, _⟩) (Nat.le_refl _) _).setCell (p := ⟨w.heap.size, _, _⟩) (Nat.le_refl _) _)⟩
                | true =>
                  go_wp2
                  all_goals
                    (try simp only [Exit.inBlock, Exit.then])
                    refine bodyPost_ret (v := .tuple #[.agg #[.int .i64 pv, .int .i64 v0, .int .i64 v1, .int .i64 l3, .int .i64 l4, .bool false], .int .i64 0]) (by simp [results, Tryd.results16, go_sem, e_0_0, e_0_1, e_0_2, e_0_3, e_0_4, e_0_5]; try rfl) rfl ?_
                    obtain ⟨⟨rfl, rfl, rfl, rfl, rfl, rfl⟩, rfl⟩ := HY.out rfl
                    exact ⟨rfl, ((((((BX4.out.setCell (p := ⟨w.heap.size, _, _⟩) (Nat.le_refl _) _).setCell (p := ⟨w.heap.size, _, _⟩) (Nat.le_refl _) _).setCell (p := ⟨w.heap.size, _, _⟩) (Nat.le_refl _) _).setCell (p := ⟨w.heap.size, _, _⟩) (Nat.le_refl _) _).setCell (p := ⟨w.heap.size, _, _⟩) (Nat.le_refl _) _).setCell (p := ⟨w.heap.size, _, _⟩) (Nat.le_refl _) _)⟩
      exact AllReadyH.nil
    exact AllReadyH.nil
  | true =>
    have t0 : (w0.toList == [97, 108, 108, 111, 119]) = true := ha.symm
    clear ha hd
    go_enter Tryd.func16, Tryd.ntmps16
    go_wp2_with fail
    refine (HW.out _ (HM.out _ ((Below.refl _ _).alloc (Nat.le_refl _) _))).mono ?_
    rintro e wx1 ⟨cw, rfl, hq, bx⟩
    have c1_0_0 : wx1.cell? ⟨w.heap.size, 0, none⟩ = some (.int .i64 0) := bkeep bx (by simp [go_sem])
    have f1_0_0 : wx1.frozen? ⟨w.heap.size, 0, none⟩ = false := bthaw bx (v := .int .i64 0) (by simp [go_sem]) (by simp [go_sem])
    have c1_0_1 : wx1.cell? ⟨w.heap.size, 1, none⟩ = some (.int .i64 0) := bkeep bx (by simp [go_sem])
    have f1_0_1 : wx1.frozen? ⟨w.heap.size, 1, none⟩ = false := bthaw bx (v := .int .i64 0) (by simp [go_sem]) (by simp [go_sem])
    have c1_0_2 : wx1.cell? ⟨w.heap.size, 2, none⟩ = some (.int .i64 0) := bkeep bx (by simp [go_sem])
    have f1_0_2 : wx1.frozen? ⟨w.heap.size, 2, none⟩ = false := bthaw bx (v := .int .i64 0) (by simp [go_sem]) (by simp [go_sem])
    have c1_0_3 : wx1.cell? ⟨w.heap.size, 3, none⟩ = some (.int .i64 0) := bkeep bx (by simp [go_sem])
    have f1_0_3 : wx1.frozen? ⟨w.heap.size, 3, none⟩ = false := bthaw bx (v := .int .i64 0) (by simp [go_sem]) (by simp [go_sem])
    have c1_0_4 : wx1.cell? ⟨w.heap.size, 4, none⟩ = some (.int .i64 0) := bkeep bx (by simp [go_sem])
    have f1_0_4 : wx1.frozen? ⟨w.heap.size, 4, none⟩ = false := bthaw bx (v := .int .i64 0) (by simp [go_sem]) (by simp [go_sem])
    have c1_0_5 : wx1.cell? ⟨w.heap.size, 5, none⟩ = some (.bool false) := bkeep bx (by simp [go_sem])
    have f1_0_5 : wx1.frozen? ⟨w.heap.size, 5, none⟩ = false := bthaw bx (v := .bool false) (by simp [go_sem]) (by simp [go_sem])
    have BX1 : Hid (Below w.heap.size w wx1) := ((Below.refl w.heap.size w).alloc (by simp <;> omega) _).trans (bx.mono (by simp <;> omega))
    clear bx
    obtain ⟨r0, r1, r2, r3, r4⟩ := hq
    have c1_1_0 : wx1.cell? ⟨w.heap.size + 1, 0, none⟩ = some (.string w0) := by simpa using r0
    have c1_1_1 : wx1.cell? ⟨w.heap.size + 1, 1, none⟩ = some (.string w1) := by simpa using r1
    have c1_1_2 : wx1.cell? ⟨w.heap.size + 1, 2, none⟩ = some (.string w2) := by simpa using r2
    have c1_1_3 : wx1.cell? ⟨w.heap.size + 1, 3, none⟩ = some (.string w3) := by simpa using r3
    have c1_1_4 : wx1.cell? ⟨w.heap.size + 1, 4, none⟩ = some (.string w4) := by simpa using r4
    clear r0 r1 r2 r3 r4
    go_wp2_with fail
    have DR : Hid (Below wx1.heap.size wx1 wx1.drew) := (Below.refl _ _).drew
    have KP : Hid (∀ wx, Below wx1.heap.size wx1 wx → wx.cell? ⟨w.heap.size + 1, 1, none⟩ = some (.string w1)) := fun wx hb => bkeep hb c1_1_1
    refine wp_region_held_drew (S := (fun wx => wx.cell? ⟨w.heap.size + 1, 1, none⟩ = some (.string w1))) (by kernel_rfl) ?_ (fun hH0 => ?_)
    · exact KP.out _ DR.out
    refine wpAnyH_take (i := 1) (v := ?v5001) rfl (by kernel_rfl) (by kernel_rfl) (by kernel_rfl) (fun _ _ _ h => h) (Or.inl ⟨by rfl, ?hy5001⟩) (by assumption) ?rest5001
    case hy5001 => (intro w hSw; (try dsimp only at hSw); go_simp; (try with_reducible rfl))
    refine wpAnyH_take (i := 2) (v := ?v5002) rfl (by kernel_rfl) (by kernel_rfl) (by kernel_rfl) (fun _ _ _ h => h) (Or.inl ⟨by rfl, ?hy5002⟩) (by assumption) ?rest5002
    case hy5002 => (intro w hSw; (try dsimp only at hSw); go_simp; (try with_reducible rfl))
    refine wpAnyH_take (i := 3) (v := ?v5003) rfl (by kernel_rfl) (by kernel_rfl) (by kernel_rfl) (fun _ _ _ h => h) (Or.inl ⟨by rfl, ?hy5003⟩) (by assumption) ?rest5003
    case hy5003 => (intro w hSw; (try dsimp only at hSw); go_simp; (try with_reducible rfl))
    refine wpAnyH_ready (rs := [0]) (by kernel_rfl) (by simp) ?_
    refine AllReadyH.cons rfl (fun K hK => ?_) ?_
    · go_simp
      go_at_call 43
      (with_reducible refine (HP.out _).mono ?_)
      rintro e wx2 ⟨rfl, hown, bc⟩
      have BC : Hid (Below wx1.heap.size wx1 wx2) := DR.out.trans bc
      have LK : (Instr.lookup 80 (.map (some wx1.heap.size)) (.string w1) true).run Tryd.prog wx2 = .ok (.tuple #[.int .i64 pv, .bool kn]) wx2 := HK.out wx2 _ hown
      clear hown bc
      refine hK.out _ _ ?_ (fun hH5004 => ?_)
      · (try dsimp only)
        first | with_reducible exact KP.out _ DR.out | with_reducible exact KP.out _ BC.out
      clear hK K hH0
      refine wpAnyH_ready (rs := [4]) (by kernel_rfl) (by simp) ?_
      refine AllReadyH.cons rfl (fun K hK => ?_) ?_
      · go_simp
        refine hK.out _ _ ?_ (fun hH5005 => ?_)
        · (try dsimp only)
          first | with_reducible exact KP.out _ DR.out | with_reducible exact KP.out _ BC.out
        clear hK K hH5004
        refine wpAnyH_take (i := 5) (v := ?v5006) rfl (by kernel_rfl) (by kernel_rfl) (by kernel_rfl) (fun _ _ _ h => h) (Or.inl ⟨by rfl, ?hy5006⟩) (by assumption) ?rest5006
        case hy5006 => (intro w hSw; (try dsimp only at hSw); go_simp; (try with_reducible rfl))
        refine wpAnyH_take (i := 6) (v := ?v5007) rfl (by kernel_rfl) (by kernel_rfl) (by kernel_rfl) (fun _ _ _ h => h) (Or.inl ⟨by rfl, ?hy5007⟩) (by assumption) ?rest5007
        case hy5007 => (intro w hSw; (try dsimp only at hSw); go_simp; (try with_reducible rfl))
        refine wpAnyH_take (i := 7) (v := ?v5008) rfl (by kernel_rfl) (by kernel_rfl) (by kernel_rfl) (fun _ _ _ h => h) (Or.inl ⟨by rfl, ?hy5008⟩) (by assumption) ?rest5008
        case hy5008 => (intro w hSw; (try dsimp only at hSw); go_simp; (try with_reducible rfl))
        refine wpAnyH_take (i := 8) (v := ?v5009) rfl (by kernel_rfl) (by kernel_rfl) (by kernel_rfl) (fun _ _ _ h => h) (Or.inl ⟨by rfl, ?hy5009⟩) (by assumption) ?rest5009
        case hy5009 => (intro w hSw; (try dsimp only at hSw); go_simp; (try with_reducible rfl))
        refine wpAnyH_take (i := 9) (v := ?v5010) rfl (by kernel_rfl) (by kernel_rfl) (by kernel_rfl) (fun _ _ _ h => h) (Or.inl ⟨by rfl, ?hy5010⟩) (by assumption) ?rest5010
        case hy5010 => (intro w hSw; (try dsimp only at hSw); go_simp; (try with_reducible rfl))
        refine wpAnyH_done (by kernel_rfl) ?_ _
        go_simp
        have bx := BC.out
        have c2_0_0 : wx2.cell? ⟨w.heap.size, 0, none⟩ = some (.int .i64 0) := bkeep bx c1_0_0
        have f2_0_0 : wx2.frozen? ⟨w.heap.size, 0, none⟩ = false := bthaw bx c1_0_0 f1_0_0
        have c2_0_1 : wx2.cell? ⟨w.heap.size, 1, none⟩ = some (.int .i64 0) := bkeep bx c1_0_1
        have f2_0_1 : wx2.frozen? ⟨w.heap.size, 1, none⟩ = false := bthaw bx c1_0_1 f1_0_1
        have c2_0_2 : wx2.cell? ⟨w.heap.size, 2, none⟩ = some (.int .i64 0) := bkeep bx c1_0_2
        have f2_0_2 : wx2.frozen? ⟨w.heap.size, 2, none⟩ = false := bthaw bx c1_0_2 f1_0_2
        have c2_0_3 : wx2.cell? ⟨w.heap.size, 3, none⟩ = some (.int .i64 0) := bkeep bx c1_0_3
        have f2_0_3 : wx2.frozen? ⟨w.heap.size, 3, none⟩ = false := bthaw bx c1_0_3 f1_0_3
        have c2_0_4 : wx2.cell? ⟨w.heap.size, 4, none⟩ = some (.int .i64 0) := bkeep bx c1_0_4
        have f2_0_4 : wx2.frozen? ⟨w.heap.size, 4, none⟩ = false := bthaw bx c1_0_4 f1_0_4
        have c2_0_5 : wx2.cell? ⟨w.heap.size, 5, none⟩ = some (.bool false) := bkeep bx c1_0_5
        have f2_0_5 : wx2.frozen? ⟨w.heap.size, 5, none⟩ = false := bthaw bx c1_0_5 f1_0_5
        have c2_1_0 : wx2.cell? ⟨w.heap.size + 1, 0, none⟩ = some (.string w0) := bkeep bx c1_1_0
        have c2_1_1 : wx2.cell? ⟨w.heap.size + 1, 1, none⟩ = some (.string w1) := bkeep bx c1_1_1
        have c2_1_2 : wx2.cell? ⟨w.heap.size + 1, 2, none⟩ = some (.string w2) := bkeep bx c1_1_2
        have c2_1_3 : wx2.cell? ⟨w.heap.size + 1, 3, none⟩ = some (.string w3) := bkeep bx c1_1_3
        have c2_1_4 : wx2.cell? ⟨w.heap.size + 1, 4, none⟩ = some (.string w4) := bkeep bx c1_1_4
        have BX2 : Hid (Below w.heap.size w wx2) := BX1.out.trans (bx.mono BX1.out.size)
        clear c1_0_0 c1_0_1 c1_0_2 c1_0_3 c1_0_4 c1_0_5 c1_1_0 c1_1_1 c1_1_2 c1_1_3 c1_1_4 f1_0_0 f1_0_1 f1_0_2 f1_0_3 f1_0_4 f1_0_5 BX1
        clear bx BC LK KP DR hH5005
        cases rd with
        | false =>
          go_wp2_with fail
          refine (HN.out _ _ (HM.out _ BX2.out)).mono ?_
          rintro e wx3 ⟨rfl, bx⟩
          have c3_0_0 : wx3.cell? ⟨w.heap.size, 0, none⟩ = some (.int .i64 0) := bkeep bx (by first | (simp [go_sem]; done) | simp [go_sem, c2_0_0])
          have f3_0_0 : wx3.frozen? ⟨w.heap.size, 0, none⟩ = false := bthaw bx (v := .int .i64 0) (by first | (simp [go_sem]; done) | simp [go_sem, c2_0_0]) (by first | (simp [go_sem]; done) | simp [go_sem, f2_0_0])
          have c3_0_1 : wx3.cell? ⟨w.heap.size, 1, none⟩ = some (.int .i64 0) := bkeep bx (by first | (simp [go_sem]; done) | simp [go_sem, c2_0_1])
          have f3_0_1 : wx3.frozen? ⟨w.heap.size, 1, none⟩ = false := bthaw bx (v := .int .i64 0) (by first | (simp [go_sem]; done) | simp [go_sem, c2_0_1]) (by first | (simp [go_sem]; done) | simp [go_sem, f2_0_1])
          have c3_0_2 : wx3.cell? ⟨w.heap.size, 2, none⟩ = some (.int .i64 0) := bkeep bx (by first | (simp [go_sem]; done) | simp [go_sem, c2_0_2])
          have f3_0_2 : wx3.frozen? ⟨w.heap.size, 2, none⟩ = false := bthaw bx (v := .int .i64 0) (by first | (simp [go_sem]; done) | simp [go_sem, c2_0_2]) (by first | (simp [go_sem]; done) | simp [go_sem, f2_0_2])
          have c3_0_3 : wx3.cell? ⟨w.heap.size, 3, none⟩ = some (.int .i64 0) := bkeep bx (by first | (simp [go_sem]; done) | simp [go_sem, c2_0_3])
          have f3_0_3 : wx3.frozen? ⟨w.heap.size, 3, none⟩ = false := bthaw bx (v := .int .i64 0) (by first | (simp [go_sem]; done) | simp [go_sem, c2_0_3]) (by first | (simp [go_sem]; done) | simp [go_sem, f2_0_3])
          have c3_0_4 : wx3.cell? ⟨w.heap.size, 4, none⟩ = some (.int .i64 0) := bkeep bx (by first | (simp [go_sem]; done) | simp [go_sem, c2_0_4])
          have f3_0_4 : wx3.frozen? ⟨w.heap.size, 4, none⟩ = false := bthaw bx (v := .int .i64 0) (by first | (simp [go_sem]; done) | simp [go_sem, c2_0_4]) (by first | (simp [go_sem]; done) | simp [go_sem, f2_0_4])
          have c3_0_5 : wx3.cell? ⟨w.heap.size, 5, none⟩ = some (.bool false) := bkeep bx (by first | (simp [go_sem]; done) | simp [go_sem, c2_0_5])
          have f3_0_5 : wx3.frozen? ⟨w.heap.size, 5, none⟩ = false := bthaw bx (v := .bool false) (by first | (simp [go_sem]; done) | simp [go_sem, c2_0_5]) (by first | (simp [go_sem]; done) | simp [go_sem, f2_0_5])
          have c3_1_0 : wx3.cell? ⟨w.heap.size + 1, 0, none⟩ = some (.string w0) := bkeep bx (by first | (simp [go_sem]; done) | simp [go_sem, c2_1_0])
          have c3_1_1 : wx3.cell? ⟨w.heap.size + 1, 1, none⟩ = some (.string w1) := bkeep bx (by first | (simp [go_sem]; done) | simp [go_sem, c2_1_1])
          have c3_1_2 : wx3.cell? ⟨w.heap.size + 1, 2, none⟩ = some (.string w2) := bkeep bx (by first | (simp [go_sem]; done) | simp [go_sem, c2_1_2])
          have c3_1_3 : wx3.cell? ⟨w.heap.size + 1, 3, none⟩ = some (.string w3) := bkeep bx (by first | (simp [go_sem]; done) | simp [go_sem, c2_1_3])
          have c3_1_4 : wx3.cell? ⟨w.heap.size + 1, 4, none⟩ = some (.string w4) := bkeep bx (by first | (simp [go_sem]; done) | simp [go_sem, c2_1_4])
          have BX3 : Hid (Below w.heap.size w wx3) := BX2.out.trans (bx.mono (by have := BX2.out.size; simp <;> omega))
          clear bx c2_0_0 c2_0_1 c2_0_2 c2_0_3 c2_0_4 c2_0_5 c2_1_0 c2_1_1 c2_1_2 c2_1_3 c2_1_4 f2_0_0 f2_0_1 f2_0_2 f2_0_3 f2_0_4 f2_0_5 BX2
          have d_0_0 : (wx3.alloc (.cells #[.int .i64 0, .int .i64 0] 40)).cell? ⟨w.heap.size, 0, none⟩ = some (.int .i64 0) := acell c3_0_0 _
          have g_0_0 : (wx3.alloc (.cells #[.int .i64 0, .int .i64 0] 40)).frozen? ⟨w.heap.size, 0, none⟩ = false := bthaw ((Below.refl _ _).alloc (Nat.le_refl _) _) c3_0_0 f3_0_0
          have d_0_1 : (wx3.alloc (.cells #[.int .i64 0, .int .i64 0] 40)).cell? ⟨w.heap.size, 1, none⟩ = some (.int .i64 0) := acell c3_0_1 _
          have g_0_1 : (wx3.alloc (.cells #[.int .i64 0, .int .i64 0] 40)).frozen? ⟨w.heap.size, 1, none⟩ = false := bthaw ((Below.refl _ _).alloc (Nat.le_refl _) _) c3_0_1 f3_0_1
          have d_0_2 : (wx3.alloc (.cells #[.int .i64 0, .int .i64 0] 40)).cell? ⟨w.heap.size, 2, none⟩ = some (.int .i64 0) := acell c3_0_2 _
          have g_0_2 : (wx3.alloc (.cells #[.int .i64 0, .int .i64 0] 40)).frozen? ⟨w.heap.size, 2, none⟩ = false := bthaw ((Below.refl _ _).alloc (Nat.le_refl _) _) c3_0_2 f3_0_2
          have d_0_3 : (wx3.alloc (.cells #[.int .i64 0, .int .i64 0] 40)).cell? ⟨w.heap.size, 3, none⟩ = some (.int .i64 0) := acell c3_0_3 _
          have g_0_3 : (wx3.alloc (.cells #[.int .i64 0, .int .i64 0] 40)).frozen? ⟨w.heap.size, 3, none⟩ = false := bthaw ((Below.refl _ _).alloc (Nat.le_refl _) _) c3_0_3 f3_0_3
          have d_0_4 : (wx3.alloc (.cells #[.int .i64 0, .int .i64 0] 40)).cell? ⟨w.heap.size, 4, none⟩ = some (.int .i64 0) := acell c3_0_4 _
          have g_0_4 : (wx3.alloc (.cells #[.int .i64 0, .int .i64 0] 40)).frozen? ⟨w.heap.size, 4, none⟩ = false := bthaw ((Below.refl _ _).alloc (Nat.le_refl _) _) c3_0_4 f3_0_4
          have d_0_5 : (wx3.alloc (.cells #[.int .i64 0, .int .i64 0] 40)).cell? ⟨w.heap.size, 5, none⟩ = some (.bool false) := acell c3_0_5 _
          have g_0_5 : (wx3.alloc (.cells #[.int .i64 0, .int .i64 0] 40)).frozen? ⟨w.heap.size, 5, none⟩ = false := bthaw ((Below.refl _ _).alloc (Nat.le_refl _) _) c3_0_5 f3_0_5
          have d_1_0 : (wx3.alloc (.cells #[.int .i64 0, .int .i64 0] 40)).cell? ⟨w.heap.size + 1, 0, none⟩ = some (.string w0) := acell c3_1_0 _
          have d_1_1 : (wx3.alloc (.cells #[.int .i64 0, .int .i64 0] 40)).cell? ⟨w.heap.size + 1, 1, none⟩ = some (.string w1) := acell c3_1_1 _
          have d_1_2 : (wx3.alloc (.cells #[.int .i64 0, .int .i64 0] 40)).cell? ⟨w.heap.size + 1, 2, none⟩ = some (.string w2) := acell c3_1_2 _
          have d_1_3 : (wx3.alloc (.cells #[.int .i64 0, .int .i64 0] 40)).cell? ⟨w.heap.size + 1, 3, none⟩ = some (.string w3) := acell c3_1_3 _
          have d_1_4 : (wx3.alloc (.cells #[.int .i64 0, .int .i64 0] 40)).cell? ⟨w.heap.size + 1, 4, none⟩ = some (.string w4) := acell c3_1_4 _
          have DN : Hid (Below w.heap.size w (wx3.alloc (.cells #[.int .i64 0, .int .i64 0] 40))) := BX3.out.alloc BX3.out.size _
          have LN : w.heap.size + 1 < wx3.heap.size := World.block_lt_of_cell? wx3 _ c3_1_0
          go_wp2_with fail
          refine (H3.out _).mono ?_
          rintro e w9 ⟨rfl, rfl⟩
          go_wp2_with fail
          refine (H4.out _).mono ?_
          rintro e w8 ⟨rfl, rfl⟩
          go_wp2
          all_goals
            (try simp only [Exit.inBlock, Exit.then])
            refine bodyPost_ret (v := .tuple #[.agg #[.int .i64 0, .int .i64 0, .int .i64 0, .int .i64 0, .int .i64 0, .bool false], .int .i64 3]) (by simp [results, Tryd.results16, go_sem, d_0_0, d_0_1, d_0_2, d_0_3, d_0_4, d_0_5]; try rfl) rfl ?_
            obtain ⟨⟨rfl, rfl, rfl, rfl, rfl, rfl⟩, rfl⟩ := HX.out (by simp)
            exact ⟨rfl, ((((((DN.out.setCell (p := ⟨w.heap.size, _, _⟩) (Nat.le_refl _) _).setCell (p := ⟨w.heap.size, _, _⟩) (Nat.le_refl _) _).setCell (p := ⟨w.heap.size, _, _⟩) (Nat.le_refl _) _).setCell (p := ⟨w.heap.size, _, _⟩) (Nat.le_refl _) _).setCell (p := ⟨w.heap.size, _, _⟩) (Nat.le_refl _) _).setCell (p := ⟨w.heap.size, _, _⟩) (Nat.le_refl _) _)⟩
        | true =>
          go_wp2_with fail
          refine (HN.out _ _ (HM.out _ BX2.out)).mono ?_
          rintro e wx3 ⟨rfl, bx⟩
          have c3_0_0 : wx3.cell? ⟨w.heap.size, 0, none⟩ = some (.int .i64 0) := bkeep bx (by first | (simp [go_sem]; done) | simp [go_sem, c2_0_0])
          have f3_0_0 : wx3.frozen? ⟨w.heap.size, 0, none⟩ = false := bthaw bx (v := .int .i64 0) (by first | (simp [go_sem]; done) | simp [go_sem, c2_0_0]) (by first | (simp [go_sem]; done) | simp [go_sem, f2_0_0])
          have c3_0_1 : wx3.cell? ⟨w.heap.size, 1, none⟩ = some (.int .i64 0) := bkeep bx (by first | (simp [go_sem]; done) | simp [go_sem, c2_0_1])
          have f3_0_1 : wx3.frozen? ⟨w.heap.size, 1, none⟩ = false := bthaw bx (v := .int .i64 0) (by first | (simp [go_sem]; done) | simp [go_sem, c2_0_1]) (by first | (simp [go_sem]; done) | simp [go_sem, f2_0_1])
          have c3_0_2 : wx3.cell? ⟨w.heap.size, 2, none⟩ = some (.int .i64 0) := bkeep bx (by first | (simp [go_sem]; done) | simp [go_sem, c2_0_2])
          have f3_0_2 : wx3.frozen? ⟨w.heap.size, 2, none⟩ = false := bthaw bx (v := .int .i64 0) (by first | (simp [go_sem]; done) | simp [go_sem, c2_0_2]) (by first | (simp [go_sem]; done) | simp [go_sem, f2_0_2])
          have c3_0_3 : wx3.cell? ⟨w.heap.size, 3, none⟩ = some (.int .i64 0) := bkeep bx (by first | (simp [go_sem]; done) | simp [go_sem, c2_0_3])
          have f3_0_3 : wx3.frozen? ⟨w.heap.size, 3, none⟩ = false := bthaw bx (v := .int .i64 0) (by first | (simp [go_sem]; done) | simp [go_sem, c2_0_3]) (by first | (simp [go_sem]; done) | simp [go_sem, f2_0_3])
          have c3_0_4 : wx3.cell? ⟨w.heap.size, 4, none⟩ = some (.int .i64 0) := bkeep bx (by first | (simp [go_sem]; done) | simp [go_sem, c2_0_4])
          have f3_0_4 : wx3.frozen? ⟨w.heap.size, 4, none⟩ = false := bthaw bx (v := .int .i64 0) (by first | (simp [go_sem]; done) | simp [go_sem, c2_0_4]) (by first | (simp [go_sem]; done) | simp [go_sem, f2_0_4])
          have c3_0_5 : wx3.cell? ⟨w.heap.size, 5, none⟩ = some (.bool false) := bkeep bx (by first | (simp [go_sem]; done) | simp [go_sem, c2_0_5])
          have f3_0_5 : wx3.frozen? ⟨w.heap.size, 5, none⟩ = false := bthaw bx (v := .bool false) (by first | (simp [go_sem]; done) | simp [go_sem, c2_0_5]) (by first | (simp [go_sem]; done) | simp [go_sem, f2_0_5])
          have c3_1_0 : wx3.cell? ⟨w.heap.size + 1, 0, none⟩ = some (.string w0) := bkeep bx (by first | (simp [go_sem]; done) | simp [go_sem, c2_1_0])
          have c3_1_1 : wx3.cell? ⟨w.heap.size + 1, 1, none⟩ = some (.string w1) := bkeep bx (by first | (simp [go_sem]; done) | simp [go_sem, c2_1_1])
          have c3_1_2 : wx3.cell? ⟨w.heap.size + 1, 2, none⟩ = some (.string w2) := bkeep bx (by first | (simp [go_sem]; done) | simp [go_sem, c2_1_2])
          have c3_1_3 : wx3.cell? ⟨w.heap.size + 1, 3, none⟩ = some (.string w3) := bkeep bx (by first | (simp [go_sem]; done) | simp [go_sem, c2_1_3])
          have c3_1_4 : wx3.cell? ⟨w.heap.size + 1, 4, none⟩ = some (.string w4) := bkeep bx (by first | (simp [go_sem]; done) | simp [go_sem, c2_1_4])
          have BX3 : Hid (Below w.heap.size w wx3) := BX2.out.trans (bx.mono (by have := BX2.out.size; simp <;> omega))
          clear bx c2_0_0 c2_0_1 c2_0_2 c2_0_3 c2_0_4 c2_0_5 c2_1_0 c2_1_1 c2_1_2 c2_1_3 c2_1_4 f2_0_0 f2_0_1 f2_0_2 f2_0_3 f2_0_4 f2_0_5 BX2
          have d_0_0 : (wx3.alloc (.cells #[.int .i64 v0, .int .i64 v1] 40)).cell? ⟨w.heap.size, 0, none⟩ = some (.int .i64 0) := acell c3_0_0 _
          have g_0_0 : (wx3.alloc (.cells #[.int .i64 v0, .int .i64 v1] 40)).frozen? ⟨w.heap.size, 0, none⟩ = false := bthaw ((Below.refl _ _).alloc (Nat.le_refl _) _) c3_0_0 f3_0_0
          have d_0_1 : (wx3.alloc (.cells #[.int .i64 v0, .int .i64 v1] 40)).cell? ⟨w.heap.size, 1, none⟩ = some (.int .i64 0) := acell c3_0_1 _
          have g_0_1 : (wx3.alloc (.cells #[.int .i64 v0, .int .i64 v1] 40)).frozen? ⟨w.heap.size, 1, none⟩ = false := bthaw ((Below.refl _ _).alloc (Nat.le_refl _) _) c3_0_1 f3_0_1
          have d_0_2 : (wx3.alloc (.cells #[.int .i64 v0, .int .i64 v1] 40)).cell? ⟨w.heap.size, 2, none⟩ = some (.int .i64 0) := acell c3_0_2 _
          have g_0_2 : (wx3.alloc (.cells #[.int .i64 v0, .int .i64 v1] 40)).frozen? ⟨w.heap.size, 2, none⟩ = false := bthaw ((Below.refl _ _).alloc (Nat.le_refl _) _) c3_0_2 f3_0_2
          have d_0_3 : (wx3.alloc (.cells #[.int .i64 v0, .int .i64 v1] 40)).cell? ⟨w.heap.size, 3, none⟩ = some (.int .i64 0) := acell c3_0_3 _
          have g_0_3 : (wx3.alloc (.cells #[.int .i64 v0, .int .i64 v1] 40)).frozen? ⟨w.heap.size, 3, none⟩ = false := bthaw ((Below.refl _ _).alloc (Nat.le_refl _) _) c3_0_3 f3_0_3
          have d_0_4 : (wx3.alloc (.cells #[.int .i64 v0, .int .i64 v1] 40)).cell? ⟨w.heap.size, 4, none⟩ = some (.int .i64 0) := acell c3_0_4 _
          have g_0_4 : (wx3.alloc (.cells #[.int .i64 v0, .int .i64 v1] 40)).frozen? ⟨w.heap.size, 4, none⟩ = false := bthaw ((Below.refl _ _).alloc (Nat.le_refl _) _) c3_0_4 f3_0_4
          have d_0_5 : (wx3.alloc (.cells #[.int .i64 v0, .int .i64 v1] 40)).cell? ⟨w.heap.size, 5, none⟩ = some (.bool false) := acell c3_0_5 _
          have g_0_5 : (wx3.alloc (.cells #[.int .i64 v0, .int .i64 v1] 40)).frozen? ⟨w.heap.size, 5, none⟩ = false := bthaw ((Below.refl _ _).alloc (Nat.le_refl _) _) c3_0_5 f3_0_5
          have d_1_0 : (wx3.alloc (.cells #[.int .i64 v0, .int .i64 v1] 40)).cell? ⟨w.heap.size + 1, 0, none⟩ = some (.string w0) := acell c3_1_0 _
          have d_1_1 : (wx3.alloc (.cells #[.int .i64 v0, .int .i64 v1] 40)).cell? ⟨w.heap.size + 1, 1, none⟩ = some (.string w1) := acell c3_1_1 _
          have d_1_2 : (wx3.alloc (.cells #[.int .i64 v0, .int .i64 v1] 40)).cell? ⟨w.heap.size + 1, 2, none⟩ = some (.string w2) := acell c3_1_2 _
          have d_1_3 : (wx3.alloc (.cells #[.int .i64 v0, .int .i64 v1] 40)).cell? ⟨w.heap.size + 1, 3, none⟩ = some (.string w3) := acell c3_1_3 _
          have d_1_4 : (wx3.alloc (.cells #[.int .i64 v0, .int .i64 v1] 40)).cell? ⟨w.heap.size + 1, 4, none⟩ = some (.string w4) := acell c3_1_4 _
          have DN : Hid (Below w.heap.size w (wx3.alloc (.cells #[.int .i64 v0, .int .i64 v1] 40))) := BX3.out.alloc BX3.out.size _
          have LN : w.heap.size + 1 < wx3.heap.size := World.block_lt_of_cell? wx3 _ c3_1_0
          go_wp2_with fail
          refine (H3.out _).mono ?_
          rintro e w9 ⟨rfl, rfl⟩
          go_wp2_with fail
          refine (H4.out _).mono ?_
          rintro e w8 ⟨rfl, rfl⟩
          cases kn with
          | false =>
            go_wp2
            all_goals
              (try simp only [Exit.inBlock, Exit.then])
              refine bodyPost_ret (v := .tuple #[.agg #[.int .i64 0, .int .i64 0, .int .i64 0, .int .i64 0, .int .i64 0, .bool false], .int .i64 3]) (by simp [results, Tryd.results16, go_sem, d_0_0, d_0_1, d_0_2, d_0_3, d_0_4, d_0_5]; try rfl) rfl ?_
              obtain ⟨⟨rfl, rfl, rfl, rfl, rfl, rfl⟩, rfl⟩ := HX.out rfl
              exact ⟨rfl, ((((((DN.out.setCell (p := ⟨w.heap.size, _, _⟩) (Nat.le_refl _) _).setCell (p := ⟨w.heap.size, _, _⟩) (Nat.le_refl _) _).setCell (p := ⟨w.heap.size, _, _⟩) (Nat.le_refl _) _).setCell (p := ⟨w.heap.size, _, _⟩) (Nat.le_refl _) _).setCell (p := ⟨w.heap.size, _, _⟩) (Nat.le_refl _) _).setCell (p := ⟨w.heap.size, _, _⟩) (Nat.le_refl _) _)⟩
          | true =>
            cases q3 with
            | false =>
              go_wp2
              all_goals
                (try simp only [Exit.inBlock, Exit.then])
                refine bodyPost_ret (v := .tuple #[.agg #[.int .i64 0, .int .i64 0, .int .i64 0, .int .i64 0, .int .i64 0, .bool false], .int .i64 3]) (by simp [results, Tryd.results16, go_sem, d_0_0, d_0_1, d_0_2, d_0_3, d_0_4, d_0_5]; try rfl) rfl ?_
                obtain ⟨⟨rfl, rfl, rfl, rfl, rfl, rfl⟩, rfl⟩ := HX.out rfl
                exact ⟨rfl, ((((((DN.out.setCell (p := ⟨w.heap.size, _, _⟩) (Nat.le_refl _) _).setCell (p := ⟨w.heap.size, _, _⟩) (Nat.le_refl _) _).setCell (p := ⟨w.heap.size, _, _⟩) (Nat.le_refl _) _).setCell (p := ⟨w.heap.size, _, _⟩) (Nat.le_refl _) _).setCell (p := ⟨w.heap.size, _, _⟩) (Nat.le_refl _) _).setCell (p := ⟨w.heap.size, _, _⟩) (Nat.le_refl _) _)⟩
            | true =>
              cases q4 with
              | false =>
                go_wp2
                all_goals
                  (try simp only [Exit.inBlock, Exit.then])
                  refine bodyPost_ret (v := .tuple #[.agg #[.int .i64 0, .int .i64 0, .int .i64 0, .int .i64 0, .int .i64 0, .bool false], .int .i64 3]) (by simp [results, Tryd.results16, go_sem, d_0_0, d_0_1, d_0_2, d_0_3, d_0_4, d_0_5]; try rfl) rfl ?_
                  obtain ⟨⟨rfl, rfl, rfl, rfl, rfl, rfl⟩, rfl⟩ := HX.out rfl
                  exact ⟨rfl, ((((((DN.out.setCell (p := ⟨w.heap.size, _, _⟩) (Nat.le_refl _) _).setCell (p := ⟨w.heap.size, _, _⟩) (Nat.le_refl _) _).setCell (p := ⟨w.heap.size, _, _⟩) (Nat.le_refl _) _).setCell (p := ⟨w.heap.size, _, _⟩) (Nat.le_refl _) _).setCell (p := ⟨w.heap.size, _, _⟩) (Nat.le_refl _) _).setCell (p := ⟨w.heap.size, _, _⟩) (Nat.le_refl _) _)⟩
              | true =>
                go_wp2_with fail
                refine (HO.out _).mono ?_
                rintro e wx4 ⟨rfl, bx⟩
                have e_0_0 : wx4.cell? ⟨w.heap.size, 0, none⟩ = some (.int .i64 0) := bkeep bx (acell d_0_0 _)
                have h_0_0 : wx4.frozen? ⟨w.heap.size, 0, none⟩ = false := bthaw bx (acell d_0_0 _) (bthaw ((Below.refl _ _).alloc (Nat.le_refl _) _) d_0_0 g_0_0)
                have e_0_1 : wx4.cell? ⟨w.heap.size, 1, none⟩ = some (.int .i64 0) := bkeep bx (acell d_0_1 _)
                have h_0_1 : wx4.frozen? ⟨w.heap.size, 1, none⟩ = false := bthaw bx (acell d_0_1 _) (bthaw ((Below.refl _ _).alloc (Nat.le_refl _) _) d_0_1 g_0_1)
                have e_0_2 : wx4.cell? ⟨w.heap.size, 2, none⟩ = some (.int .i64 0) := bkeep bx (acell d_0_2 _)
                have h_0_2 : wx4.frozen? ⟨w.heap.size, 2, none⟩ = false := bthaw bx (acell d_0_2 _) (bthaw ((Below.refl _ _).alloc (Nat.le_refl _) _) d_0_2 g_0_2)
                have e_0_3 : wx4.cell? ⟨w.heap.size, 3, none⟩ = some (.int .i64 0) := bkeep bx (acell d_0_3 _)
                have h_0_3 : wx4.frozen? ⟨w.heap.size, 3, none⟩ = false := bthaw bx (acell d_0_3 _) (bthaw ((Below.refl _ _).alloc (Nat.le_refl _) _) d_0_3 g_0_3)
                have e_0_4 : wx4.cell? ⟨w.heap.size, 4, none⟩ = some (.int .i64 0) := bkeep bx (acell d_0_4 _)
                have h_0_4 : wx4.frozen? ⟨w.heap.size, 4, none⟩ = false := bthaw bx (acell d_0_4 _) (bthaw ((Below.refl _ _).alloc (Nat.le_refl _) _) d_0_4 g_0_4)
                have e_0_5 : wx4.cell? ⟨w.heap.size, 5, none⟩ = some (.bool false) := bkeep bx (acell d_0_5 _)
                have h_0_5 : wx4.frozen? ⟨w.heap.size, 5, none⟩ = false := bthaw bx (acell d_0_5 _) (bthaw ((Below.refl _ _).alloc (Nat.le_refl _) _) d_0_5 g_0_5)
                have e_2_0 : wx4.cell? ⟨wx3.heap.size + 1, 0, none⟩ = some (.int .i64 pv) := bkeep bx (by simp [go_sem])
                have e_2_1 : wx4.cell? ⟨wx3.heap.size + 1, 1, none⟩ = some (.int .i64 v0) := bkeep bx (by simp [go_sem])
                have e_2_2 : wx4.cell? ⟨wx3.heap.size + 1, 2, none⟩ = some (.int .i64 v1) := bkeep bx (by simp [go_sem])
                have e_2_3 : wx4.cell? ⟨wx3.heap.size + 1, 3, none⟩ = some (.int .i64 l3) := bkeep bx (by simp [go_sem])
                have e_2_4 : wx4.cell? ⟨wx3.heap.size + 1, 4, none⟩ = some (.int .i64 l4) := bkeep bx (by simp [go_sem])
                have e_2_5 : wx4.cell? ⟨wx3.heap.size + 1, 5, none⟩ = some (.bool true) := bkeep bx (by simp [go_sem])
                have BX4 : Hid (Below w.heap.size w wx4) := (DN.out.alloc DN.out.size _).trans (bx.mono (by have := DN.out.size; simp; omega))
                clear bx
                cases z with
                | false =>
                  go_wp2
                  all_goals
                    (try simp only [Exit.inBlock, Exit.then])
                    refine bodyPost_ret (v := .tuple #[.agg #[.int .i64 0, .int .i64 0, .int .i64 0, .int .i64 0, .int .i64 0, .bool false], .int .i64 3]) (by simp [results, Tryd.results16, go_sem, e_0_0, e_0_1, e_0_2, e_0_3, e_0_4, e_0_5]; try rfl) rfl ?_
                    obtain ⟨⟨rfl, rfl, rfl, rfl, rfl, rfl⟩, rfl⟩ := HX.out rfl
                    exact ⟨rfl, ((((((BX4.out.setCell (p := ⟨w.heap.size, _, _⟩) (Nat.le_refl _) _).setCell (p := ⟨w.heap.size, _, _⟩) (Nat.le_refl _) _).setCell (p := ⟨w.heap.size, _, _⟩) (Nat.le_refl _) _).setCell (p := ⟨w.heap.size, _, _⟩) (Nat.le_refl _) _).setCell (p := ⟨w.heap.size, _, _⟩) (Nat.le_refl _) _).setCell (p := ⟨w.heap.size, _, _⟩) (Nat.le_refl _) _)⟩
                | true =>
                  go_wp2
                  all_goals
                    (try simp only [Exit.inBlock, Exit.then])
                    refine bodyPost_ret (v := .tuple #[.agg #[.int .i64 pv, .int .i64 v0, .int .i64 v1, .int .i64 l3, .int .i64 l4, .bool true], .int .i64 0]) (by simp [results, Tryd.results16, go_sem, e_0_0, e_0_1, e_0_2, e_0_3, e_0_4, e_0_5]; try rfl) rfl ?_
                    obtain ⟨⟨rfl, rfl, rfl, rfl, rfl, rfl⟩, rfl⟩ := HY.out rfl
                    exact ⟨rfl, ((((((BX4.out.setCell (p := ⟨w.heap.size, _, _⟩) (Nat.le_refl _) _).setCell (p := ⟨w.heap.size, _, _⟩) (Nat.le_refl _) _).setCell (p := ⟨w.heap.size, _, _⟩) (Nat.le_refl _) _).setCell (p := ⟨w.heap.size, _, _⟩) (Nat.le_refl _) _).setCell (p := ⟨w.heap.size, _, _⟩) (Nat.le_refl _) _).setCell (p := ⟨w.heap.size, _, _⟩) (Nat.le_refl _) _)⟩
      exact AllReadyH.nil
    exact AllReadyH.nil
end Go.Proofs.YtimhkeebgogfoaaDoor
