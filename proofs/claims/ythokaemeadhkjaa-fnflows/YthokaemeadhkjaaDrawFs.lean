/- Flows drawn. -/
import Derived.Test.YthokaemeadhkjaaDrawFw
import Derived.Test.YthokaemeadhkjaaFloR
import Derived.Test.YthokaemeadhkjaaFloNil
namespace Go.Proofs.Ythokaemeadhkjaa
open Go.RowKit Go.PlainAid Go.Proofs.Ythokaemeadhkjaa.Bt Go.Sort
set_option linter.unusedVariables false
set_option maxRecDepth 20000

/-- What the loop over draws keeps. -/
def Lp (q : Nat) (a : Option Addr) (len cap : Nat) (f : Nat → Int) (w : World) (k : Nat) (W : World) (v : Value) (fs : List FlowV) : Prop :=
  OwnS wvG 9 28 W w.heap.size v fs ∧ foB fs = true ∧ DQ q a len cap f w k W ∧ q < w.heap.size
theorem Lp.more {q : Nat} {a : Option Addr} {len cap : Nat} {f : Nat → Int} {w W W' : World} {k : Nat} {v : Value} {fs : List FlowV} {k' : Nat} (h : Lp q a len cap f w k W v fs) (d : DQ q a len cap f W k' W') : Lp q a len cap f w k' W' v fs :=
  ⟨h.1.kept d.2 (Or.inr (fun e => by have := (h.1.lt q e).1; have := h.2.2.2; omega)), h.2.1, ⟨d.1, grown_trans h.2.2.1.2 d.2⟩, h.2.2.2⟩
theorem Lp.draw {q : Nat} {a : Option Addr} {len cap : Nat} {f : Nat → Int} {w W W' : World} {k : Nat} {v : Value} {fs : List FlowV} {m : Nat} (h : Lp q a len cap f w k W v fs) (hm : m ≤ 3 * k) (d : Drawn W W' q a len cap f m) : Lp q a len cap f w (k + 1) W' v fs := by
  obtain ⟨⟨m', hm', hs⟩, hg⟩ := d
  exact h.more ⟨⟨m', by omega, hs⟩, hg⟩
theorem Lp.turn {q : Nat} {a : Option Addr} {len cap : Nat} {f : Nat → Int} {w W W' : World} {k : Nat} {v : Value} {fs : List FlowV} {v' : Value} {fs' : List FlowV} (h : Lp q a len cap f w k W v fs) (o : OwnS wvG 9 28 W' W.heap.size v' fs') (b : Below W.heap.size W W') (hf : foB fs' = true) : Lp q a len cap f w k W' v' fs' := by
  have g : W.grownBy W' none := ⟨b.os, b.tape, b.output, b.size, fun k hk _ => b.block k hk⟩
  obtain ⟨⟨m, hm, hs⟩, hg⟩ := h.2.2.1
  exact ⟨o.lower hg.size, hf, ⟨⟨m, hm, hs.grown g (by simp) (by simp)⟩, grown_trans hg ⟨g.os, g.tape, g.output, g.size, fun k hk _ => b.block k hk⟩⟩, h.2.2.2⟩
theorem Lp.rw {q : Nat} {a : Option Addr} {len cap : Nat} {f : Nat → Int} {w W : World} {k : Nat} {fs : List FlowV} {x : Option Addr} {n c : Nat} (h : Lp q a len cap f w k W (.slice x n c) fs) : Rw FlR 9 W x fs := h.1.rw wvG_len (foB_wf h.2.1)
theorem Lp.same {q : Nat} {a : Option Addr} {len cap : Nat} {f : Nat → Int} {w W W' : World} {k : Nat} {v : Value} {fs : List FlowV} (h : Lp q a len cap f w k W v fs) (b : Below W.heap.size W W') : Lp q a len cap f w k W' v fs := by
  have g : W.grownBy W' none := ⟨b.os, b.tape, b.output, b.size, fun k hk _ => b.block k hk⟩
  obtain ⟨⟨m, hm, hs⟩, hg⟩ := h.2.2.1
  exact ⟨h.1.now b, h.2.1, ⟨⟨m, hm, hs.grown g (by simp) (by simp)⟩, grown_trans hg ⟨g.os, g.tape, g.output, g.size, fun k hk _ => b.block k hk⟩⟩, h.2.2.2⟩
theorem OwnS.addr {α : Type} {c : α → List Value} {K : Nat} {e : TypeId} {w : World} {B n cap : Nat} {a : Option Addr} {xs : List α} (h : OwnS c K e w B (.slice a n cap) xs) : (a = none ∧ n = 0 ∧ cap = 0 ∧ xs = []) ∨ ∃ g, a = some ⟨g, 0, none⟩ ∧ n ≤ cap := by
  rcases h.2 with ⟨h1, h2⟩ | ⟨g, c', cur, h1, _, _, h3, _⟩
  · cases h1
    exact .inl ⟨rfl, rfl, rfl, List.eq_nil_of_length_eq_zero h2⟩
  · cases h1
    exact .inr ⟨g, rfl, h3⟩
theorem wpl_flowsN (w : World) {ops : Array Oper} {rest : List Oper} {o : Oper} {a : Act} {Q : Exit → Act → World → Prop} (hgd : o.guard = none) (s x : Operand)
    (ho : o.op = .call { callee := .builtin .append, args := #[s, x], argTypes := #[23, 23] })
    (B : Nat) (q : Addr) (n0 c0 : Nat) (L ys : List FlowV) (hs : a.eval s = .slice (some q) n0 c0) (hown : OwnS wvG 9 28 w B (.slice (some q) n0 c0) L)
    (g off m c : Nat) (hm : ys.length = m) (hx : a.eval x = .slice (some ⟨g, off, none⟩) m c) (hc : ∀ j u, (flatS wvG ys)[j]? = some u → w.cell? ⟨g, off + j, none⟩ = some u)
    (hlen : L.length + m ≤ 100000) (hB : B ≤ w.heap.size)
    (h : ∀ v' w', Hid (OwnS wvG 9 28 w' B v' (L ++ ys) ∧ Below B w w') → w.grownBy w' (Value.slice (some q) n0 c0).ownBlock → Hid (v' ≠ .slice none 0 0) → wpList Try.prog ops Q rest (a.put o.dst v') w') : wpList Try.prog ops Q (o :: rest) a w := by
  obtain ⟨i0, hi, hz0, hz1, hz2⟩ := info_parts infoFlow
  refine wpList_append_own w hgd s x 23 ho B 28 i0 (.agg #[.int .i64 0, .string ⟨#[]⟩, .int .i64 0, .int .i64 0, .int .i64 0, .int .i64 0, .int .i64 0, .int .i64 0, .int .i64 0]) 9 80 Try.underlying23 hi hz0 hz1 hz2 rfl (by decide) _ L.length (flatS wvG L) hs hown ⟨g, off, none⟩ m c (flatS wvG ys) hx (by rw [flatS_len wvG_len, hm]) ?_
    (one9 ys) (by unfold maxLen; omega) (by omega) hB ?_
  · intro j u hu
    rw [addn]
    exact hc j u hu
  · intro v' w' h2 h3 h4
    subst hm
    exact h v' w' (hown.join hB h2 h3) h3 (fun e => by have := (h4.1 e).1; cases this)
theorem foB_len {fs : List FlowV} (h : foB fs = true) : fs.length ≤ 8 := ((foB_iff fs).1 h).1
set_option maxHeartbeats 8000000 in
theorem flowsD (w : World) (q : Nat) (a : Option Addr) (len cap : Nat) (f : Nat → Int) (h : Src w q a len cap f 0) :
    Calls Try.prog 32 #[.pointer (some ⟨q, 0, none⟩)] w fun e w' => ∃ (x : Option Addr) (c : Nat) (fs : List FlowV) (now : Int), e = .returned (.tuple #[.slice x fs.length c, .int .i64 now]) ∧ Hid (∃ g, x = some ⟨g, 0, none⟩ ∧ fs.length ≤ c) ∧ Hid (OwnS wvG 9 28 w' w.heap.size (.slice x fs.length c) fs ∧ foB fs = true ∧ 0 ≤ now ∧ now ≤ 22 ∧ w.grownBy w' (some q)) := by
  have HH : Hid (Src w q a len cap f 0) := h
  have lq : q < w.heap.size := World.block_lt_of_cell? w _ h.code
  clear h
  go_enter Try.func32, Try.ntmps32
  go_wp2_with fail
  refine (nextD _ q a len cap f 0 12 (HH.out.grown (World.grownBy_alloc w _ none) (by simp) (by simp)) (by omega) (by omega) (by omega)).mono ?_
  rintro e w1 ⟨v, rfl, v0, v1, D⟩
  have X0 : Hid (Lp q a len cap f w 1 w1 (.slice (some ⟨w.heap.size, 0, none⟩) 0 0) []) := by
    have s0 : Lp q a len cap f w 0 (w.alloc (.cells #[] 28)) (.slice (some ⟨w.heap.size, 0, none⟩) 0 0) [] := ⟨OwnS.lit w _ (Nat.le_refl _), foB_nil, ⟨⟨0, by omega, HH.out.grown (World.grownBy_alloc w _ none) (by simp) (by simp)⟩, World.grownBy_alloc w _ _⟩, lq⟩
    exact s0.draw (m := 0) (by omega) D.out
  obtain ⟨vn, rfl⟩ := Int.eq_ofNat_of_zero_le v0
  clear D HH v0
  go_wp2
  go_loopw [4, 5, 6] (fun o n i wr => ∃ (k d : Nat) (fs : List FlowV) (c : Nat) (x : Option Addr) (now : Int), i = .int .i64 k ∧ n = .int .i64 now ∧ o = .slice x fs.length c ∧ k ≤ 11 ∧ 0 ≤ now ∧ now + 2 * k ≤ 22 ∧ d + 10 * k ≤ 120 ∧ Hid (Lp q a len cap f w d wr (.slice x fs.length c) fs)) (fun _ _ i _ => (intOf i).toNat)
  case atStart => exact ⟨vn, 1, [], 0, some ⟨w.heap.size, 0, none⟩, 0, rfl, rfl, rfl, by omega, by omega, by omega, by omega, X0⟩
  case round =>
    obtain ⟨k, d, fs, c, x, now, rfl, rfl, rfl, hk, hn0, hn1, hd, X⟩ := hrel
    clear X0
    by_cases hlt : 0 < k
    · have hltz : (0 : Int) < (k : Int) := by omega
      obtain ⟨m, hm, hs⟩ := X.out.2.2.1.1
      go_wp2_with fail
      refine (nextD _ q a len cap f m 4 hs (by omega) (by omega) (by omega)).mono ?_
      rintro e w2 ⟨r, rfl, r0, r1, D⟩
      have X2 : Hid (Lp q a len cap f w (d + 1) w2 (.slice x fs.length c) fs) := X.out.draw hm D.out
      clear D hs X
      rcases (show r = 0 ∨ r = 1 ∨ r = 2 ∨ r = 3 by omega) with rfl | rfl | rfl | rfl
      · clear r0 r1
        go_wp2_with fail
        refine (l09Keep_any x fs.length c fs now (-1) w2 X2.out.rw rfl (by have := foB_len X2.out.2.1; omega)).mono ?_
        rintro e w3 ⟨v3, rfl, o3, b3⟩
        have X3 : Hid (Lp q a len cap f w (d + 1) w3 v3 (fs.filter (lkP now (-1)))) := X2.out.turn o3 b3 (foB_filter X2.out.2.1 _)
        obtain ⟨x3, c3, hv3, -⟩ := o3.slice
        subst hv3
        clear o3 b3 X2
        generalize fs.filter (lkP now (-1)) = gs at X3 ⊢
        obtain ⟨m9, hm9, hs9⟩ := X3.out.2.2.1.1
        go_wp2_with fail
        refine (nextD _ q a len cap f m9 3 hs9 (by omega) (by omega) (by omega)).mono ?_
        rintro e w9 ⟨t, rfl, t0, t1, D9⟩
        have X9 : Hid (Lp q a len cap f w (d + 1 + 1) w9 (.slice x3 gs.length c3) gs) := X3.out.draw hm9 D9.out
        clear D9 hs9 X3
        go_wp2
        go_roundw
        case rel => exact ⟨k - 1, d + 1 + 1, gs, c3, x3, now + t, by go_num, by go_num, rfl, by omega, by omega, by omega, by omega, X9⟩
        case measure => simp [intOf]; omega
      · clear r0 r1
        by_cases h0 : fs.length = 0
        · obtain rfl : fs = [] := List.eq_nil_of_length_eq_zero h0
          clear h0
          have X3 := X2
          clear X2
          obtain ⟨m9, hm9, hs9⟩ := X3.out.2.2.1.1
          go_wp2_with fail
          refine (nextD _ q a len cap f m9 3 hs9 (by omega) (by omega) (by omega)).mono ?_
          rintro e w9 ⟨t, rfl, t0, t1, D9⟩
          have X9 : Hid (Lp q a len cap f w (d + 1 + 1) w9 (.slice x ([] : List FlowV).length c) ([] : List FlowV)) := X3.out.draw hm9 D9.out
          clear D9 hs9 X3
          go_wp2
          go_roundw
          case rel => exact ⟨k - 1, d + 1 + 1, ([] : List FlowV), c, x, now + t, by go_num, by go_num, rfl, by omega, by omega, by omega, by omega, X9⟩
          case measure => simp [intOf]; omega
        · have h0z : (0 : Int) < (fs.length : Int) := by omega
          obtain ⟨g, hg0, hgc⟩ : ∃ g, x = some ⟨g, 0, none⟩ ∧ fs.length ≤ c := by
            rcases X2.out.1.addr with ⟨_, h1, _⟩ | ⟨g, h1, h2⟩
            · exact absurd h1 h0
            · exact ⟨g, h1, h2⟩
          subst hg0
          have h8 := foB_len X2.out.2.1
          obtain ⟨m, hm, hs⟩ := X2.out.2.2.1.1
          go_wp2_with fail
          refine (nextD _ q a len cap f m fs.length hs (by omega) (by omega) (by omega)).mono ?_
          rintro e w3 ⟨kk, rfl, k0, k1, D⟩
          have X3 : Hid (Lp q a len cap f w (d + 1 + 1) w3 (.slice (some ⟨g, 0, none⟩) fs.length c) fs) := X2.out.draw hm D.out
          clear D hs X2
          obtain ⟨kn, rfl⟩ := Int.eq_ofNat_of_zero_le k0
          obtain ⟨m3, hm3, hs3⟩ := X3.out.2.2.1.1
          go_wp2_with fail
          refine (chance9D _ q a len cap f m3 2 hs3 (by omega) (by omega) (by omega)).mono ?_
          rintro e w4 ⟨bk, rfl, D⟩
          have X4 : Hid (Lp q a len cap f w (d + 1 + 1 + 1) w4 (.slice (some ⟨g, 0, none⟩) fs.length c) fs) := X3.out.draw hm3 D.out
          clear D hs3 X3
          obtain ⟨m4, hm4, hs4⟩ := X4.out.2.2.1.1
          go_wp2_with fail
          refine (nextD _ q a len cap f m4 32 hs4 (by omega) (by omega) (by omega)).mono ?_
          rintro e w5 ⟨fl, rfl, f0, f1, D⟩
          have X5 : Hid (Lp q a len cap f w (d + 1 + 1 + 1 + 1) w5 (.slice (some ⟨g, 0, none⟩) fs.length c) fs) := X4.out.draw hm4 D.out
          clear D hs4 X4
          obtain ⟨y, hy0⟩ := at_of (xs := fs) (k := kn) rfl (by omega)
          have hy : Hid (fs[kn]? = some y) := hy0
          clear hy0
          have hfy : Hid (foB (if y.pr = 6 ∧ (bits BinOp.and IntKind.i64 fl 4 != 0) = true then fs.eraseIdx kn else fs.set kn (paF y bk fl now)) = true) := foB_pass X5.out.2.1 hy.out bk fl now (by omega)
          go_wp2_with fail
          refine (l09Pass_any g 0 fs.length c fs kn bk fl now y.pr y.mc y.si y.sp y.di y.dp y.st y.un y.ow w5 X5.out.rw rfl h8 hgc hy.out (by omega)).mono ?_
          rintro e w6 ⟨v6, rfl, o6, b6⟩
          have X3 : Hid (Lp q a len cap f w (d + 1 + 1 + 1 + 1) w6 v6 (if y.pr = 6 ∧ (bits BinOp.and IntKind.i64 fl 4 != 0) = true then fs.eraseIdx kn else fs.set kn (paF y bk fl now))) := X5.out.turn o6 b6 hfy.out
          obtain ⟨x3, c3, hv3, -⟩ := o6.slice
          subst hv3
          clear o6 b6 X5 hfy hy
          generalize (if y.pr = 6 ∧ (bits BinOp.and IntKind.i64 fl 4 != 0) = true then fs.eraseIdx kn else fs.set kn (paF y bk fl now)) = gs at X3 ⊢
          obtain ⟨m9, hm9, hs9⟩ := X3.out.2.2.1.1
          go_wp2_with fail
          refine (nextD _ q a len cap f m9 3 hs9 (by omega) (by omega) (by omega)).mono ?_
          rintro e w9 ⟨t, rfl, t0, t1, D9⟩
          have X9 : Hid (Lp q a len cap f w (d + 1 + 1 + 1 + 1 + 1) w9 (.slice x3 gs.length c3) gs) := X3.out.draw hm9 D9.out
          clear D9 hs9 X3
          go_wp2
          go_roundw
          case rel => exact ⟨k - 1, d + 1 + 1 + 1 + 1 + 1, gs, c3, x3, now + t, by go_num, by go_num, rfl, by omega, by omega, by omega, by omega, X9⟩
          case measure => simp [intOf]; omega
      · clear r0 r1
        obtain ⟨m, hm, hs⟩ := X2.out.2.2.1.1
        go_wp2_with fail
        refine (DrawFw.drawn w2 q a len cap f (d + 1) m hs hm (by omega)).mono ?_
        rintro e w3 ⟨pr, mc, si, sp, di, dp, ow, rfl, HD⟩
        have X4 : Hid (Lp q a len cap f w (d + 1 + 7) w3 (.slice x fs.length c) fs) := X2.out.more HD.out.2
        have HDF : Hid (DrF ⟨pr, mc, si, sp, di, dp, 1, 0, ow⟩) := HD.out.1
        clear HD hs X2
        have h8 := foB_len X4.out.2.1
        have XB : Hid (Lp q a len cap f w (d + 1 + 7) (w3.alloc (.cells #[.int .i64 pr, .string mc, .int .i64 si, .int .i64 sp, .int .i64 di, .int .i64 dp, .int .i64 1, .int .i64 0, .int .i64 ow] 28)) (.slice x fs.length c) fs) := X4.out.same ((Below.refl _ _).alloc (Nat.le_refl _) _)
        have HF : Hid (Calls Try.prog 44 #[.slice x fs.length c, .int .i64 pr, .int .i64 si, .int .i64 sp, .int .i64 di, .int .i64 dp] (w3.alloc (.cells #[.int .i64 pr, .string mc, .int .i64 si, .int .i64 sp, .int .i64 di, .int .i64 dp, .int .i64 1, .int .i64 0, .int .i64 ow] 28)) fun e w' => e = .returned (.tuple #[.int .i64 (lfK (plM fs fs.length) ⟨pr, si, sp, di, dp⟩), .bool (fkB (plM fs fs.length) ⟨pr, si, sp, di, dp⟩)]) ∧ Grw (w3.alloc (.cells #[.int .i64 pr, .string mc, .int .i64 si, .int .i64 sp, .int .i64 di, .int .i64 dp, .int .i64 1, .int .i64 0, .int .i64 ow] 28)) w') := l09Find_any x fs.length c fs pr si sp di dp _ XB.out.rw rfl (by omega) ((apOk_iff fs).2 ((foB_iff fs).1 XB.out.2.1).2.2)
        cases hT : fkT (plM fs fs.length) ⟨pr, si, sp, di, dp⟩ with
        | true =>
          have e1 : lfK (plM fs fs.length) ⟨pr, si, sp, di, dp⟩ = fkK (plM fs fs.length) ⟨pr, si, sp, di, dp⟩ := if_pos hT
          have e2 := fkK_nn fs ⟨pr, si, sp, di, dp⟩
          have hge : decide (lfK (plM fs fs.length) ⟨pr, si, sp, di, dp⟩ < 0) = false := decide_eq_false (by omega)
          generalize lfK (plM fs fs.length) ⟨pr, si, sp, di, dp⟩ = z at HF hge
          generalize fkB (plM fs fs.length) ⟨pr, si, sp, di, dp⟩ = zb at HF
          clear e1 e2 hT X4
          go_wp2_with fail
          refine HF.out.mono ?_
          rintro e w4 ⟨rfl, g4⟩
          have X3 : Hid (Lp q a len cap f w (d + 1 + 7) w4 (.slice x fs.length c) fs) := XB.out.same g4.below
          clear g4 XB HF
          obtain ⟨m9, hm9, hs9⟩ := X3.out.2.2.1.1
          go_wp2_with fail
          refine (nextD _ q a len cap f m9 3 hs9 (by omega) (by omega) (by omega)).mono ?_
          rintro e w9 ⟨t, rfl, t0, t1, D9⟩
          have X9 : Hid (Lp q a len cap f w (d + 1 + 7 + 1) w9 (.slice x fs.length c) fs) := X3.out.draw hm9 D9.out
          clear D9 hs9 X3
          go_wp2
          go_roundw
          case rel => exact ⟨k - 1, d + 1 + 7 + 1, fs, c, x, now + t, by go_num, by go_num, rfl, by omega, by omega, by omega, by omega, X9⟩
          case measure => simp [intOf]; omega
        | false =>
          have e1 : lfK (plM fs fs.length) ⟨pr, si, sp, di, dp⟩ = -1 := if_neg (by rw [hT]; simp)
          rw [e1] at HF
          have hap : Hid (apAt fs fs.length ⟨pr, si, sp, di, dp⟩) := fk_there hT
          generalize fkB (plM fs fs.length) ⟨pr, si, sp, di, dp⟩ = zb at HF
          clear e1 hT X4
          go_wp2_with fail
          refine HF.out.mono ?_
          rintro e w4 ⟨rfl, g4⟩
          have X4 : Hid (Lp q a len cap f w (d + 1 + 7) w4 (.slice x fs.length c) fs) := XB.out.same g4.below
          have n0 : w4.cell? ⟨w3.heap.size, 0, none⟩ = some (.int .i64 pr) := g4.keep (by simp [go_sem])
          have n1 : w4.cell? ⟨w3.heap.size, 1, none⟩ = some (.string mc) := g4.keep (by simp [go_sem])
          have n2 : w4.cell? ⟨w3.heap.size, 2, none⟩ = some (.int .i64 si) := g4.keep (by simp [go_sem])
          have n3 : w4.cell? ⟨w3.heap.size, 3, none⟩ = some (.int .i64 sp) := g4.keep (by simp [go_sem])
          have n4 : w4.cell? ⟨w3.heap.size, 4, none⟩ = some (.int .i64 di) := g4.keep (by simp [go_sem])
          have n5 : w4.cell? ⟨w3.heap.size, 5, none⟩ = some (.int .i64 dp) := g4.keep (by simp [go_sem])
          have n6 : w4.cell? ⟨w3.heap.size, 6, none⟩ = some (.int .i64 1) := g4.keep (by simp [go_sem])
          have n7 : w4.cell? ⟨w3.heap.size, 7, none⟩ = some (.int .i64 0) := g4.keep (by simp [go_sem])
          have n8 : w4.cell? ⟨w3.heap.size, 8, none⟩ = some (.int .i64 ow) := g4.keep (by simp [go_sem])
          clear g4 XB HF
          by_cases h8e : fs.length = 8
          · obtain ⟨g, hg0, hgc⟩ : ∃ g, x = some ⟨g, 0, none⟩ ∧ fs.length ≤ c := by
              rcases X4.out.1.addr with ⟨_, h1, _⟩ | ⟨g, h1, h2⟩
              · omega
              · exact ⟨g, h1, h2⟩
            subst hg0
            have h8h : Hid (fs.length = 8) := h8e
            clear h8e hgc h8
            go_wp2_with fail
            refine (l09Open_full g 0 fs.length c pr mc si sp di dp 1 0 ow now _ h8h.out).mono ?_
            rintro e w5 ⟨rfl, g5⟩
            have X3 : Hid (Lp q a len cap f w (d + 1 + 7) w5 (.slice (some ⟨g, 0, none⟩) fs.length c) fs) := X4.out.same g5.below
            clear g5 X4 h8h
            obtain ⟨m9, hm9, hs9⟩ := X3.out.2.2.1.1
            go_wp2_with fail
            refine (nextD _ q a len cap f m9 3 hs9 (by omega) (by omega) (by omega)).mono ?_
            rintro e w9 ⟨t, rfl, t0, t1, D9⟩
            have X9 : Hid (Lp q a len cap f w (d + 1 + 7 + 1) w9 (.slice (some ⟨g, 0, none⟩) fs.length c) fs) := X3.out.draw hm9 D9.out
            clear D9 hs9 X3
            go_wp2
            go_roundw
            case rel => exact ⟨k - 1, d + 1 + 7 + 1, fs, c, (some ⟨g, 0, none⟩), now + t, by go_num, by go_num, rfl, by omega, by omega, by omega, by omega, X9⟩
            case measure => simp [intOf]; omega
          · have hfo : Hid (foB (fs ++ [⟨pr, mc, si, sp, di, dp, 1, now + wtN pr 1, ow⟩]) = true) := foB_open X4.out.2.1 (by omega) (DrF_new HDF.out (now := now) (by omega)) hap.out
            have HO : Hid (Calls Try.prog 45 #[.slice x fs.length c, .agg #[.int .i64 pr, .string mc, .int .i64 si, .int .i64 sp, .int .i64 di, .int .i64 dp, .int .i64 1, .int .i64 0, .int .i64 ow], .int .i64 now] w4 fun e w' => ∃ v, e = .returned (.tuple #[v, .int .i64 0]) ∧ OwnS wvG 9 28 w' w4.heap.size v (fs ++ [⟨pr, mc, si, sp, di, dp, 1, now + wtN pr 1, ow⟩]) ∧ Below w4.heap.size w4 w') := by
              rcases X4.out.1.addr with ⟨h1, h2, h3, h4⟩ | ⟨g, h1, h2⟩
              · subst h1 h3 h4
                exact l09Open_nil pr mc si sp di dp 1 0 ow now w4 (by omega)
              · subst h1
                exact l09Open_more g 0 fs.length c fs pr mc si sp di dp 1 0 ow now w4 X4.out.rw rfl (by omega) (by omega)
            go_wp2_with fail
            refine HO.out.mono ?_
            rintro e w5 ⟨v5, rfl, o5, b5⟩
            have X3 : Hid (Lp q a len cap f w (d + 1 + 7) w5 v5 (fs ++ [⟨pr, mc, si, sp, di, dp, 1, now + wtN pr 1, ow⟩])) := X4.out.turn o5 b5 hfo.out
            obtain ⟨x3, c3, hv3, -⟩ := o5.slice
            subst hv3
            clear o5 b5 X4 hfo HO
            generalize fs ++ [⟨pr, mc, si, sp, di, dp, 1, now + wtN pr 1, ow⟩] = gs at X3 ⊢
            obtain ⟨m9, hm9, hs9⟩ := X3.out.2.2.1.1
            go_wp2_with fail
            refine (nextD _ q a len cap f m9 3 hs9 (by omega) (by omega) (by omega)).mono ?_
            rintro e w9 ⟨t, rfl, t0, t1, D9⟩
            have X9 : Hid (Lp q a len cap f w (d + 1 + 7 + 1) w9 (.slice x3 gs.length c3) gs) := X3.out.draw hm9 D9.out
            clear D9 hs9 X3
            go_wp2
            go_roundw
            case rel => exact ⟨k - 1, d + 1 + 7 + 1, gs, c3, x3, now + t, by go_num, by go_num, rfl, by omega, by omega, by omega, by omega, X9⟩
            case measure => simp [intOf]; omega
      · clear r0 r1
        obtain ⟨m, hm, hs⟩ := X2.out.2.2.1.1
        go_wp2_with fail
        refine (DrawFw.drawn w2 q a len cap f (d + 1) m hs hm (by omega)).mono ?_
        rintro e w3 ⟨pr, mc, si, sp, di, dp, ow, rfl, HD⟩
        have X4 : Hid (Lp q a len cap f w (d + 1 + 7) w3 (.slice x fs.length c) fs) := X2.out.more HD.out.2
        have HDF : Hid (DrF ⟨pr, mc, si, sp, di, dp, 1, 0, ow⟩) := HD.out.1
        clear HD hs X2
        have h8 := foB_len X4.out.2.1
        have XB : Hid (Lp q a len cap f w (d + 1 + 7) (w3.alloc (.cells #[.int .i64 pr, .string mc, .int .i64 si, .int .i64 sp, .int .i64 di, .int .i64 dp, .int .i64 1, .int .i64 0, .int .i64 ow] 28)) (.slice x fs.length c) fs) := X4.out.same ((Below.refl _ _).alloc (Nat.le_refl _) _)
        have HF : Hid (Calls Try.prog 44 #[.slice x fs.length c, .int .i64 pr, .int .i64 si, .int .i64 sp, .int .i64 di, .int .i64 dp] (w3.alloc (.cells #[.int .i64 pr, .string mc, .int .i64 si, .int .i64 sp, .int .i64 di, .int .i64 dp, .int .i64 1, .int .i64 0, .int .i64 ow] 28)) fun e w' => e = .returned (.tuple #[.int .i64 (lfK (plM fs fs.length) ⟨pr, si, sp, di, dp⟩), .bool (fkB (plM fs fs.length) ⟨pr, si, sp, di, dp⟩)]) ∧ Grw (w3.alloc (.cells #[.int .i64 pr, .string mc, .int .i64 si, .int .i64 sp, .int .i64 di, .int .i64 dp, .int .i64 1, .int .i64 0, .int .i64 ow] 28)) w') := l09Find_any x fs.length c fs pr si sp di dp _ XB.out.rw rfl (by omega) ((apOk_iff fs).2 ((foB_iff fs).1 XB.out.2.1).2.2)
        cases hT : fkT (plM fs fs.length) ⟨pr, si, sp, di, dp⟩ with
        | true =>
          have e1 : lfK (plM fs fs.length) ⟨pr, si, sp, di, dp⟩ = fkK (plM fs fs.length) ⟨pr, si, sp, di, dp⟩ := if_pos hT
          have e2 := fkK_nn fs ⟨pr, si, sp, di, dp⟩
          have hge : decide (lfK (plM fs fs.length) ⟨pr, si, sp, di, dp⟩ < 0) = false := decide_eq_false (by omega)
          generalize lfK (plM fs fs.length) ⟨pr, si, sp, di, dp⟩ = z at HF hge
          generalize fkB (plM fs fs.length) ⟨pr, si, sp, di, dp⟩ = zb at HF
          clear e1 e2 hT X4
          go_wp2_with fail
          refine HF.out.mono ?_
          rintro e w4 ⟨rfl, g4⟩
          have X3 : Hid (Lp q a len cap f w (d + 1 + 7) w4 (.slice x fs.length c) fs) := XB.out.same g4.below
          clear g4 XB HF
          obtain ⟨m9, hm9, hs9⟩ := X3.out.2.2.1.1
          go_wp2_with fail
          refine (nextD _ q a len cap f m9 3 hs9 (by omega) (by omega) (by omega)).mono ?_
          rintro e w9 ⟨t, rfl, t0, t1, D9⟩
          have X9 : Hid (Lp q a len cap f w (d + 1 + 7 + 1) w9 (.slice x fs.length c) fs) := X3.out.draw hm9 D9.out
          clear D9 hs9 X3
          go_wp2
          go_roundw
          case rel => exact ⟨k - 1, d + 1 + 7 + 1, fs, c, x, now + t, by go_num, by go_num, rfl, by omega, by omega, by omega, by omega, X9⟩
          case measure => simp [intOf]; omega
        | false =>
          have e1 : lfK (plM fs fs.length) ⟨pr, si, sp, di, dp⟩ = -1 := if_neg (by rw [hT]; simp)
          rw [e1] at HF
          have hap : Hid (apAt fs fs.length ⟨pr, si, sp, di, dp⟩) := fk_there hT
          generalize fkB (plM fs fs.length) ⟨pr, si, sp, di, dp⟩ = zb at HF
          clear e1 hT X4
          go_wp2_with fail
          refine HF.out.mono ?_
          rintro e w4 ⟨rfl, g4⟩
          have X4 : Hid (Lp q a len cap f w (d + 1 + 7) w4 (.slice x fs.length c) fs) := XB.out.same g4.below
          have n0 : w4.cell? ⟨w3.heap.size, 0, none⟩ = some (.int .i64 pr) := g4.keep (by simp [go_sem])
          have n1 : w4.cell? ⟨w3.heap.size, 1, none⟩ = some (.string mc) := g4.keep (by simp [go_sem])
          have n2 : w4.cell? ⟨w3.heap.size, 2, none⟩ = some (.int .i64 si) := g4.keep (by simp [go_sem])
          have n3 : w4.cell? ⟨w3.heap.size, 3, none⟩ = some (.int .i64 sp) := g4.keep (by simp [go_sem])
          have n4 : w4.cell? ⟨w3.heap.size, 4, none⟩ = some (.int .i64 di) := g4.keep (by simp [go_sem])
          have n5 : w4.cell? ⟨w3.heap.size, 5, none⟩ = some (.int .i64 dp) := g4.keep (by simp [go_sem])
          have n6 : w4.cell? ⟨w3.heap.size, 6, none⟩ = some (.int .i64 1) := g4.keep (by simp [go_sem])
          have n7 : w4.cell? ⟨w3.heap.size, 7, none⟩ = some (.int .i64 0) := g4.keep (by simp [go_sem])
          have n8 : w4.cell? ⟨w3.heap.size, 8, none⟩ = some (.int .i64 ow) := g4.keep (by simp [go_sem])
          clear g4 XB HF
          by_cases h8e : fs.length = 8
          · obtain ⟨g, hg0, hgc⟩ : ∃ g, x = some ⟨g, 0, none⟩ ∧ fs.length ≤ c := by
              rcases X4.out.1.addr with ⟨_, h1, _⟩ | ⟨g, h1, h2⟩
              · omega
              · exact ⟨g, h1, h2⟩
            subst hg0
            have h8h : Hid (fs.length = 8) := h8e
            clear h8e hgc h8
            go_wp2_with fail
            refine (l09Open_full g 0 fs.length c pr mc si sp di dp 1 0 ow now _ h8h.out).mono ?_
            rintro e w5 ⟨rfl, g5⟩
            have X3 : Hid (Lp q a len cap f w (d + 1 + 7) w5 (.slice (some ⟨g, 0, none⟩) fs.length c) fs) := X4.out.same g5.below
            clear g5 X4 h8h
            obtain ⟨m9, hm9, hs9⟩ := X3.out.2.2.1.1
            go_wp2_with fail
            refine (nextD _ q a len cap f m9 3 hs9 (by omega) (by omega) (by omega)).mono ?_
            rintro e w9 ⟨t, rfl, t0, t1, D9⟩
            have X9 : Hid (Lp q a len cap f w (d + 1 + 7 + 1) w9 (.slice (some ⟨g, 0, none⟩) fs.length c) fs) := X3.out.draw hm9 D9.out
            clear D9 hs9 X3
            go_wp2
            go_roundw
            case rel => exact ⟨k - 1, d + 1 + 7 + 1, fs, c, (some ⟨g, 0, none⟩), now + t, by go_num, by go_num, rfl, by omega, by omega, by omega, by omega, X9⟩
            case measure => simp [intOf]; omega
          · have hfo : Hid (foB (fs ++ [⟨pr, mc, si, sp, di, dp, 1, now + wtN pr 1, ow⟩]) = true) := foB_open X4.out.2.1 (by omega) (DrF_new HDF.out (now := now) (by omega)) hap.out
            have HO : Hid (Calls Try.prog 45 #[.slice x fs.length c, .agg #[.int .i64 pr, .string mc, .int .i64 si, .int .i64 sp, .int .i64 di, .int .i64 dp, .int .i64 1, .int .i64 0, .int .i64 ow], .int .i64 now] w4 fun e w' => ∃ v, e = .returned (.tuple #[v, .int .i64 0]) ∧ OwnS wvG 9 28 w' w4.heap.size v (fs ++ [⟨pr, mc, si, sp, di, dp, 1, now + wtN pr 1, ow⟩]) ∧ Below w4.heap.size w4 w') := by
              rcases X4.out.1.addr with ⟨h1, h2, h3, h4⟩ | ⟨g, h1, h2⟩
              · subst h1 h3 h4
                exact l09Open_nil pr mc si sp di dp 1 0 ow now w4 (by omega)
              · subst h1
                exact l09Open_more g 0 fs.length c fs pr mc si sp di dp 1 0 ow now w4 X4.out.rw rfl (by omega) (by omega)
            go_wp2_with fail
            refine HO.out.mono ?_
            rintro e w5 ⟨v5, rfl, o5, b5⟩
            have X3 : Hid (Lp q a len cap f w (d + 1 + 7) w5 v5 (fs ++ [⟨pr, mc, si, sp, di, dp, 1, now + wtN pr 1, ow⟩])) := X4.out.turn o5 b5 hfo.out
            obtain ⟨x3, c3, hv3, -⟩ := o5.slice
            subst hv3
            clear o5 b5 X4 hfo HO
            generalize fs ++ [⟨pr, mc, si, sp, di, dp, 1, now + wtN pr 1, ow⟩] = gs at X3 ⊢
            obtain ⟨m9, hm9, hs9⟩ := X3.out.2.2.1.1
            go_wp2_with fail
            refine (nextD _ q a len cap f m9 3 hs9 (by omega) (by omega) (by omega)).mono ?_
            rintro e w9 ⟨t, rfl, t0, t1, D9⟩
            have X9 : Hid (Lp q a len cap f w (d + 1 + 7 + 1) w9 (.slice x3 gs.length c3) gs) := X3.out.draw hm9 D9.out
            clear D9 hs9 X3
            go_wp2
            go_roundw
            case rel => exact ⟨k - 1, d + 1 + 7 + 1, gs, c3, x3, now + t, by go_num, by go_num, rfl, by omega, by omega, by omega, by omega, X9⟩
            case measure => simp [intOf]; omega
    · obtain rfl : k = 0 := by omega
      have h8 := foB_len X.out.2.1
      have G0 : Hid (w.grownBy wr (some q)) := X.out.2.2.1.2
      have L0 : Hid (OwnS wvG 9 28 (wr.alloc (.cells #[] 28)) wr.heap.size (.slice (some ⟨wr.heap.size, 0, none⟩) 0 0) []) := OwnS.lit wr _ (Nat.le_refl _)
      rcases X.out.1.addr with ⟨h1, h2, h3, h4⟩ | ⟨g, h1, h2⟩
      · subst h1 h3 h4
        obtain ⟨i0, hi, hz0, hz1, hz2⟩ := info_parts infoFlow
        clear hz0 hz1 hz2 h2
        have Y2 : Hid (OwnS wvG 9 28 (wr.alloc (.cells #[] 28)) w.heap.size (.slice (some ⟨wr.heap.size, 0, none⟩) ([] : List FlowV).length 0) [] ∧ foB [] = true ∧ 0 ≤ now ∧ now ≤ 22 ∧ w.grownBy (wr.alloc (.cells #[] 28)) (some q)) := ⟨L0.out.lower G0.out.size, foB_nil, by omega, by omega, grown_alloc G0.out _⟩
        go_wp2_with (at_builtin; refine wpList_append_own_none rfl (.tmp 70) (.tmp 71) 23 rfl wr.heap.size 28 i0 9 Try.underlying23 hi _ 0 (flatS wvG []) rfl L0.out rfl ?_)
        go_wp2
        go_ret2
        exact ⟨_, _, [], now, rfl, ⟨_, rfl, Nat.le_refl _⟩, Y2⟩
      · subst h1
        have RC : Hid (∀ j u, (flatS wvG fs)[j]? = some u → (wr.alloc (.cells #[] 28)).cell? ⟨g, 0 + j, none⟩ = some u) := fun j u hu => acell (flat_rw X.out.rw wvG_len (by omega) j u hu) _
        have FB : Hid (foB fs = true) := X.out.2.1
        clear X
        go_wp2_with (at_builtin; refine wpl_flowsN _ rfl (.tmp 70) (.tmp 71) rfl wr.heap.size _ _ _ [] fs rfl L0.out g 0 fs.length c rfl rfl RC.out (by simp; omega) (by simp) ?_; intro v' w3 Y gY hN)
        obtain ⟨x3, c3, hv3, -⟩ := Y.out.1.slice
        subst hv3
        have HX : Hid (∃ g, x3 = some ⟨g, 0, none⟩ ∧ fs.length ≤ c3) := by
          rcases Y.out.1.addr with ⟨h1, h2, h3, _⟩ | ⟨g, h1, h2⟩
          · exact absurd (by rw [h1, h2, h3]) hN.out
          · exact ⟨g, h1, h2⟩
        clear hN
        have Y2 : Hid (OwnS wvG 9 28 w3 w.heap.size (.slice x3 fs.length c3) fs ∧ foB fs = true ∧ 0 ≤ now ∧ now ≤ 22 ∧ w.grownBy w3 (some q)) := ⟨Y.out.1.lower G0.out.size, FB.out, by omega, by omega, grown_newer (grown_alloc G0.out _) gY (fun b hb => by cases hb; exact G0.out.size)⟩
        clear Y gY RC L0
        go_wp2
        go_ret2
        exact ⟨x3, c3, fs, now, rfl, HX, Y2⟩
end Go.Proofs.Ythokaemeadhkjaa
