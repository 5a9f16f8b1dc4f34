/- What is out, in pieces, and the end behind it: the program. -/
import Derived.Test.YtjammgjmidchmaaConP
import Derived.Deep.RegionHeld3
namespace Go.Proofs.Ytjammgjmidchmaa
open Go.RowKit Go.PlainAid Go.Proofs.Ytjammgjmidchmaa.Bt Go.Sort
set_option linter.unusedVariables false
set_option maxRecDepth 20000

theorem ext_ext (t : ByteArray) (a b c : Nat) (h : a + b ≤ t.size) (hc : c = a + b) : (t.extract a t.size).extract 0 b = t.extract a c := by
  subst hc
  apply ByteArray.ext
  simp only [ByteArray.data_extract, Array.extract_extract]
  congr 1
  · omega
theorem ext_tail (t : ByteArray) (a b c d : Nat) (h : a + b ≤ t.size) (hd : d = a + b) (hc : c = (t.extract a t.size).size) : (t.extract a t.size).extract b c = t.extract d t.size := by
  subst hc hd
  apply ByteArray.ext
  simp only [ByteArray.data_extract, Array.extract_extract, ByteArray.size_extract]
  congr 1
  omega
theorem ext_all (t : ByteArray) : t.extract 0 t.size = t := by
  apply ByteArray.ext
  simp only [ByteArray.data_extract]
  exact Array.extract_size
/-- The last one, if there is an end. -/
theorem puL_fin (po wa sq : Int) (t : ByteArray) : puL po wa sq t true = pcL po wa sq t (pcN t.size) ++ [⟨80, po, sqN (sq + (t.size : Int)), wa, 17, 1000, ⟨#[]⟩⟩] := by unfold puL; rw [if_pos rfl]
theorem puL_open (po wa sq : Int) (t : ByteArray) : puL po wa sq t false = pcL po wa sq t (pcN t.size) := by unfold puL; rw [if_neg (by simp), List.append_nil]
structure KpC (w wx : World) : Prop where
  out : Below w.heap.size w wx
/-- What a region reads: a connection in its box. -/
def CnS (q : Nat) (mc : ByteArray) (ip po di st un nx wa : Int) (inn out : ByteArray) (fin : Bool) (W wx : World) : Prop := wx.cell? ⟨q, 0, none⟩ = some (.string mc) ∧ wx.cell? ⟨q, 1, none⟩ = some (.int .i64 ip) ∧ wx.cell? ⟨q, 2, none⟩ = some (.int .i64 po) ∧ wx.cell? ⟨q, 3, none⟩ = some (.int .i64 di) ∧ wx.cell? ⟨q, 4, none⟩ = some (.int .i64 st) ∧ wx.cell? ⟨q, 5, none⟩ = some (.int .i64 un) ∧ wx.cell? ⟨q, 6, none⟩ = some (.int .i64 nx) ∧ wx.cell? ⟨q, 7, none⟩ = some (.int .i64 wa) ∧ wx.cell? ⟨q, 8, none⟩ = some (.string inn) ∧ wx.cell? ⟨q, 9, none⟩ = some (.string out) ∧ wx.cell? ⟨q, 10, none⟩ = some (.bool fin) ∧ KpC W wx
theorem CnS.below {q : Nat} {mc : ByteArray} {ip po di st un nx wa : Int} {inn out : ByteArray} {fin : Bool} {W wx wy : World} (h : CnS q mc ip po di st un nx wa inn out fin W wx) (hb : Below wx.heap.size wx wy) : CnS q mc ip po di st un nx wa inn out fin W wy :=
  ⟨bkeep hb h.1, bkeep hb h.2.1, bkeep hb h.2.2.1, bkeep hb h.2.2.2.1, bkeep hb h.2.2.2.2.1, bkeep hb h.2.2.2.2.2.1, bkeep hb h.2.2.2.2.2.2.1, bkeep hb h.2.2.2.2.2.2.2.1, bkeep hb h.2.2.2.2.2.2.2.2.1, bkeep hb h.2.2.2.2.2.2.2.2.2.1, bkeep hb h.2.2.2.2.2.2.2.2.2.2.1, ⟨h.2.2.2.2.2.2.2.2.2.2.2.out.trans (hb.mono h.2.2.2.2.2.2.2.2.2.2.2.out.size)⟩⟩
theorem CnS.row {q : Nat} {r : Option Nat} {mc : ByteArray} {ip po di st un nx wa : Int} {inn out : ByteArray} {fin : Bool} {W wx wy : World} (h : CnS q mc ip po di st un nx wa inn out fin W wx) (hg : wx.grownBy wy r) (hb : Below W.heap.size wx wy) (hne : some q ≠ r) : CnS q mc ip po di st un nx wa inn out fin W wy :=
  ⟨hg.cell (a := ⟨q, 0, none⟩) h.1 hne, hg.cell (a := ⟨q, 1, none⟩) h.2.1 hne, hg.cell (a := ⟨q, 2, none⟩) h.2.2.1 hne, hg.cell (a := ⟨q, 3, none⟩) h.2.2.2.1 hne, hg.cell (a := ⟨q, 4, none⟩) h.2.2.2.2.1 hne, hg.cell (a := ⟨q, 5, none⟩) h.2.2.2.2.2.1 hne, hg.cell (a := ⟨q, 6, none⟩) h.2.2.2.2.2.2.1 hne, hg.cell (a := ⟨q, 7, none⟩) h.2.2.2.2.2.2.2.1 hne, hg.cell (a := ⟨q, 8, none⟩) h.2.2.2.2.2.2.2.2.1 hne, hg.cell (a := ⟨q, 9, none⟩) h.2.2.2.2.2.2.2.2.2.1 hne, hg.cell (a := ⟨q, 10, none⟩) h.2.2.2.2.2.2.2.2.2.2.1 hne, ⟨h.2.2.2.2.2.2.2.2.2.2.2.out.trans hb⟩⟩
/-- 'append(row, ys...)' within a region. -/
theorem step_segs (w : World) {ops : Array Oper} {o : Oper} {a : Act} {K : Act → World → Prop} {Q : Exit → Act → World → Prop} {E : Prop} (hgd : o.guard = none) (s x : Operand)
    (ho : o.op = .call { callee := .builtin .append, args := #[s, x], argTypes := #[29, 29] })
    (B : Nat) (v : Value) (L : List SegV) (hs : a.eval s = v) (hown : OwnS sgG 7 27 w B v L)
    (g off m c : Nat) (M : List SegV) (hx : a.eval x = .slice (some ⟨g, off, none⟩) m c) (hM : M.length = m) (hn : ∀ j u, (flatS sgG M)[j]? = some u → w.cell? ⟨g, off + j, none⟩ = some u)
    (hlen : L.length + m ≤ 100000) (hB : B ≤ w.heap.size)
    (h : ∀ v' w', Hid (OwnS sgG 7 27 w' B v' (L ++ M) ∧ Below B w w' ∧ w.grownBy w' v.ownBlock) → K (a.put o.dst v') w') :
    if Region.wanted o (yielded ops a.tmps) = true then Oper.wp Try.prog o a w K Q else E := by
  have hw : Region.wanted o (yielded ops a.tmps) = true := by simp [Region.wanted, hgd]
  rw [if_pos hw]
  obtain ⟨i0, hi, hz0, hz1, hz2⟩ := info_parts infoSegment
  refine wp_append_own w s x 29 ho B 27 i0 (.agg #[.int .i64 0, .int .i64 0, .int .i64 0, .int .i64 0, .int .i64 0, .int .i64 0, .string ⟨#[]⟩]) 7 64 Try.underlying29 hi hz0 hz1 hz2 rfl (by decide) v L.length (flatS sgG L) hs hown ⟨g, off, none⟩ m c (flatS sgG M) hx (by rw [flatS_len sgG_len, hM]) (fun j u hu => by rw [addn]; exact hn j u hu)
    (one7 M) (by unfold maxLen; omega) (by omega) hB ?_
  intro v' w' h2 h3 _
  subst hM
  have hj := hown.join hB h2 h3
  exact h v' w' ⟨hj.1, hj.2, h3⟩

set_option maxHeartbeats 4000000 in
theorem outst_any (mc : ByteArray) (ip po di st un nx wa : Int) (inn out : ByteArray) (fin : Bool) (w : World) (ho : out.size ≤ 300) (hu : 0 ≤ un ∧ un ≤ 4294967295) :
    Calls Try.prog 45 #[.agg #[.string mc, .int .i64 ip, .int .i64 po, .int .i64 di, .int .i64 st, .int .i64 un, .int .i64 nx, .int .i64 wa, .string inn, .string out, .bool fin]] w fun e w' => ∃ v, e = .returned v ∧ OwnS sgG 7 27 w' w.heap.size v (puL po wa un out fin) ∧ Below w.heap.size w w' := by
  obtain ⟨hu0, hu1⟩ := hu
  have SG : Hid (∀ (sq fl : Int) (da : ByteArray) (w : World), Calls Try.prog 81 #[.agg #[.string mc, .int .i64 ip, .int .i64 po, .int .i64 di, .int .i64 st, .int .i64 un, .int .i64 nx, .int .i64 wa, .string inn, .string out, .bool fin], .int .i64 sq, .int .i64 fl, .string da] w fun e w' => e = .returned (.agg #[.int .i64 80, .int .i64 po, .int .i64 sq, .int .i64 wa, .int .i64 fl, .int .i64 1000, .string da]) ∧ Grw w w') := fun sq fl da w => segOf_any mc ip po di st un nx wa inn out fin sq fl da w
  have SQ : Hid (∀ (b : Int) (w : World), 0 ≤ b → b ≤ 600 → Calls Try.prog 42 #[.int .i64 un, .int .i64 b] w fun e w' => e = .returned (.int .i64 (sqN (un + b))) ∧ w' = w) := fun b w hb hb2 => seqAfter_any un b w hu0 (by omega) hb (by omega)
  have CC : Hid (CnS w.heap.size mc ip po di st un nx wa inn out fin w (w.alloc (.cells #[.string mc, .int .i64 ip, .int .i64 po, .int .i64 di, .int .i64 st, .int .i64 un, .int .i64 nx, .int .i64 wa, .string inn, .string out, .bool fin] 24))) := ⟨by simp [go_sem], by simp [go_sem], by simp [go_sem], by simp [go_sem], by simp [go_sem], by simp [go_sem], by simp [go_sem], by simp [go_sem], by simp [go_sem], by simp [go_sem], by simp [go_sem], ⟨(Below.refl _ _).alloc (Nat.le_refl _) _⟩⟩
  have CB : Hid (∀ wx wy, Below wx.heap.size wx wy → CnS w.heap.size mc ip po di st un nx wa inn out fin w wx → CnS w.heap.size mc ip po di st un nx wa inn out fin w wy) := fun wx wy hb h => h.below hb
  go_enter Try.func45, Try.ntmps45
  go_wp2
  go_loopw [3, 4] (fun v i wr => ∃ k : Nat, k ≤ pcN out.size ∧ i = .int .i64 (200 * k : Nat) ∧ Hid (OwnS sgG 7 27 wr w.heap.size v (pcL po wa un out k) ∧ v.ownBlock ≠ some w.heap.size ∧ CnS w.heap.size mc ip po di st un nx wa inn out fin w wr)) (fun _ i _ => 600 - (intOf i).toNat)
  case atStart => exact ⟨0, Nat.zero_le _, rfl, OwnS.nil _ _, (by simp [Value.ownBlock]), CC.out⟩
  case round =>
    obtain ⟨k, hk, rfl, X⟩ := hrel
    have hk2 : k ≤ 2 := by unfold pcN at hk; omega
    have HS9 := X.out.2.2
    have q0 : wr.cell? ⟨w.heap.size, 0, none⟩ = some (.string mc) := HS9.1
    have q1 : wr.cell? ⟨w.heap.size, 1, none⟩ = some (.int .i64 ip) := HS9.2.1
    have q2 : wr.cell? ⟨w.heap.size, 2, none⟩ = some (.int .i64 po) := HS9.2.2.1
    have q3 : wr.cell? ⟨w.heap.size, 3, none⟩ = some (.int .i64 di) := HS9.2.2.2.1
    have q4 : wr.cell? ⟨w.heap.size, 4, none⟩ = some (.int .i64 st) := HS9.2.2.2.2.1
    have q5 : wr.cell? ⟨w.heap.size, 5, none⟩ = some (.int .i64 un) := HS9.2.2.2.2.2.1
    have q6 : wr.cell? ⟨w.heap.size, 6, none⟩ = some (.int .i64 nx) := HS9.2.2.2.2.2.2.1
    have q7 : wr.cell? ⟨w.heap.size, 7, none⟩ = some (.int .i64 wa) := HS9.2.2.2.2.2.2.2.1
    have q8 : wr.cell? ⟨w.heap.size, 8, none⟩ = some (.string inn) := HS9.2.2.2.2.2.2.2.2.1
    have q9 : wr.cell? ⟨w.heap.size, 9, none⟩ = some (.string out) := HS9.2.2.2.2.2.2.2.2.2.1
    have q10 : wr.cell? ⟨w.heap.size, 10, none⟩ = some (.bool fin) := HS9.2.2.2.2.2.2.2.2.2.2.1
    by_cases hlt : 200 * k < out.size
    · have hltz : ((200 * k : Nat) : Int) < (out.size : Int) := by omega
      have hx2 : (200 * (k : Int) + 200).toNat = 200 * k + 200 := by omega
      have hkn : k + 1 ≤ pcN out.size := by unfold pcN; omega
      have PL : Hid (pcL po wa un out (k + 1) = pcL po wa un out k ++ [pcS po wa un out k]) := pcL_more _ _ _ _ _
      have PN : Hid ((pcL po wa un out k).length = k) := pcL_len _ _ _ _ _
      clear HS9
      by_cases hq : 200 * k + 200 < out.size
      · have hqz : 200 * (k : Int) + 200 < (out.size : Int) := by omega
        have PS : Hid (pcS po wa un out k = ⟨80, po, sqN (un + 200 * (k : Int)), wa, 24, 1000, out.extract (200 * k) (200 * k + 200)⟩) := by show _ = _; unfold pcS; rw [Nat.min_eq_left (by omega)]
        go_wp2_with fail
        have SS : Hid (CnS w.heap.size mc ip po di st un nx wa inn out fin w wr.drew) := X.out.2.2.below ((Below.refl _ _).drew)
        have S1 : Hid (∀ w, Calls Try.prog 42 #[.int .i64 un, .int .i64 (200 * (k : Int))] w fun e w' => e = .returned (.int .i64 (sqN (un + 200 * (k : Int)))) ∧ w' = w) := fun w => SQ.out _ w (by omega) (by omega)
        have S2 : Hid (∀ w, Calls Try.prog 81 #[.agg #[.string mc, .int .i64 ip, .int .i64 po, .int .i64 di, .int .i64 st, .int .i64 un, .int .i64 nx, .int .i64 wa, .string inn, .string out, .bool fin], .int .i64 (sqN (un + 200 * (k : Int))), .int .i64 24, .string (out.extract (200 * k) (200 * k + 200))] w fun e w' => e = .returned (.agg #[.int .i64 80, .int .i64 po, .int .i64 (sqN (un + 200 * (k : Int))), .int .i64 wa, .int .i64 24, .int .i64 1000, .string (out.extract (200 * k) (200 * k + 200))]) ∧ Grw w w') := fun w => SG.out _ _ _ w
        generalize sqN (un + 200 * (k : Int)) = SQN at S1 S2 PS
        generalize out.extract (200 * k) (200 * k + 200) = DA at S2 PS ⊢
        have OW : Hid (∀ w5 o, Below wr.drew.heap.size wr.drew w5 → OwnS sgG 7 27 (w5.alloc o) w.heap.size u3 (pcL po wa un out k)) := fun w5 o b5 => (OwnS.now (w := wr.drew) X.out.1 b5).now ((Below.refl _ _).alloc (Nat.le_refl _) o)
        have SR : Hid (∀ wx wy, wx.grownBy wy u3.ownBlock → Below w.heap.size wx wy → CnS w.heap.size mc ip po di st un nx wa inn out fin w wx → CnS w.heap.size mc ip po di st un nx wa inn out fin w wy) := fun wx wy hg hb h => h.row hg hb (fun e => X.out.2.1 e.symm)
        have SZ : Hid (∀ wx, CnS w.heap.size mc ip po di st un nx wa inn out fin w wx → w.heap.size ≤ wx.heap.size) := fun wx h => h.2.2.2.2.2.2.2.2.2.2.2.out.size
        have SA : Hid (∀ wx o, CnS w.heap.size mc ip po di st un nx wa inn out fin w wx → CnS w.heap.size mc ip po di st un nx wa inn out fin w (wx.alloc o)) := fun wx o h => h.below ((Below.refl _ _).alloc (Nat.le_refl _) o)
        clear q0 q1 q2 q3 q4 q5 q6 q7 q8 q9 q10
        go_region_held3 (fun wx => wx.cell? ⟨w.heap.size, 0, none⟩ = some (.string mc) ∧ wx.cell? ⟨w.heap.size, 1, none⟩ = some (.int .i64 ip) ∧ wx.cell? ⟨w.heap.size, 2, none⟩ = some (.int .i64 po) ∧ wx.cell? ⟨w.heap.size, 3, none⟩ = some (.int .i64 di) ∧ wx.cell? ⟨w.heap.size, 4, none⟩ = some (.int .i64 st) ∧ wx.cell? ⟨w.heap.size, 5, none⟩ = some (.int .i64 un) ∧ wx.cell? ⟨w.heap.size, 6, none⟩ = some (.int .i64 nx) ∧ wx.cell? ⟨w.heap.size, 7, none⟩ = some (.int .i64 wa) ∧ wx.cell? ⟨w.heap.size, 8, none⟩ = some (.string inn) ∧ wx.cell? ⟨w.heap.size, 9, none⟩ = some (.string out) ∧ wx.cell? ⟨w.heap.size, 10, none⟩ = some (.bool fin) ∧ KpC w wx)
          (first | exact SS.out | exact CB.out _ _ b6 (by assumption) | exact SA.out _ _ (by assumption) | exact SR.out _ _ Y7.out.2.2 Y7.out.2.1 (by assumption))
          (first | (go_at_call 42; (with_reducible refine (S1.out _).mono ?_); rintro e w' ⟨rfl, hw⟩; have hw2 := hw.symm; clear hw; subst hw2) | (go_at_call 81; (with_reducible refine (S2.out _).mono ?_); rintro e w6 ⟨rfl, g6⟩; have b6 := g6.below) | (refine step_segs _ (by rfl) (.tmp 23) (.tmp 31) (by rfl) w.heap.size u3 (pcL po wa un out k) (by rfl) (OW.out _ _ b6) _ 0 1 1 [⟨80, po, SQN, wa, 24, 1000, DA⟩] (by rfl) rfl (seg_new _ _ _ _ _ _ _ _) (by rw [PN.out]; omega) (SZ.out _ (by assumption)) ?_; intro v7 w7 Y7))
        have hS7 : CnS w.heap.size mc ip po di st un nx wa inn out fin w w7 := by assumption
        have F7 : Hid (OwnS sgG 7 27 w7 w.heap.size v7 (pcL po wa un out (k + 1)) ∧ v7.ownBlock ≠ some w.heap.size ∧ CnS w.heap.size mc ip po di st un nx wa inn out fin w w7) := by
          have h7 : OwnS sgG 7 27 w7 w.heap.size v7 (pcL po wa un out (k + 1)) := by rw [PL.out, PS.out]; exact Y7.out.1
          refine ⟨h7, ?_, hS7⟩
          intro e
          obtain ⟨q, hq⟩ : ∃ q, v7 = .slice (some ⟨w.heap.size, 0, none⟩) (pcL po wa un out (k + 1)).length q := by
            obtain ⟨a7, c7, he, _⟩ := h7.slice
            subst he
            obtain ⟨g7, hg7, -⟩ := h7.form (by rw [PL.out]; simp)
            subst hg7
            have : g7 = w.heap.size := by simpa [Value.ownBlock] using e
            subst this
            exact ⟨_, rfl⟩
          subst hq
          have h1 := (h7.cell sgG_len (i := 0) (j := 0) (x := pcS po wa un out 0) (u := .int .i64 80) (by unfold pcL; rw [List.getElem?_map, List.getElem?_range (by omega)]; rfl) rfl).1
          have h2 := hS7.1
          rw [h2] at h1
          cases h1
        clear hS7 Y7 SS OW SR SZ SA b6 g6 X S1 S2
        go_wp2
        go_roundw
        case rel => exact ⟨k + 1, hkn, by go_num, F7⟩
        case measure => simp [intOf]; omega
      by_cases hq3 : 200 * k + 200 = out.size
      · have hqz : 200 * (k : Int) + 200 = (out.size : Int) := by omega
        have PS : Hid (pcS po wa un out k = ⟨80, po, sqN (un + 200 * (k : Int)), wa, 24, 1000, out.extract (200 * k) (200 * k + 200)⟩) := by show _ = _; unfold pcS; rw [Nat.min_eq_left (by omega)]
        have hqa : ¬ 200 * (k : Int) + 200 < (out.size : Int) := by omega
        have hqb : ¬ (out.size : Int) < 200 * (k : Int) + 200 := by omega
        have HQ3 : Hid (200 * k + 200 = out.size) := hq3
        clear hqz hq3
        go_wp2_with fail
        have SS : Hid (CnS w.heap.size mc ip po di st un nx wa inn out fin w wr.drew) := X.out.2.2.below ((Below.refl _ _).drew)
        have S1 : Hid (∀ w, Calls Try.prog 42 #[.int .i64 un, .int .i64 (200 * (k : Int))] w fun e w' => e = .returned (.int .i64 (sqN (un + 200 * (k : Int)))) ∧ w' = w) := fun w => SQ.out _ w (by omega) (by omega)
        have S2 : Hid (∀ w, Calls Try.prog 81 #[.agg #[.string mc, .int .i64 ip, .int .i64 po, .int .i64 di, .int .i64 st, .int .i64 un, .int .i64 nx, .int .i64 wa, .string inn, .string out, .bool fin], .int .i64 (sqN (un + 200 * (k : Int))), .int .i64 24, .string (out.extract (200 * k) (200 * k + 200))] w fun e w' => e = .returned (.agg #[.int .i64 80, .int .i64 po, .int .i64 (sqN (un + 200 * (k : Int))), .int .i64 wa, .int .i64 24, .int .i64 1000, .string (out.extract (200 * k) (200 * k + 200))]) ∧ Grw w w') := fun w => SG.out _ _ _ w
        generalize sqN (un + 200 * (k : Int)) = SQN at S1 S2 PS
        generalize out.extract (200 * k) (200 * k + 200) = DA at S2 PS ⊢
        have OW : Hid (∀ w5 o, Below wr.drew.heap.size wr.drew w5 → OwnS sgG 7 27 (w5.alloc o) w.heap.size u3 (pcL po wa un out k)) := fun w5 o b5 => (OwnS.now (w := wr.drew) X.out.1 b5).now ((Below.refl _ _).alloc (Nat.le_refl _) o)
        have SR : Hid (∀ wx wy, wx.grownBy wy u3.ownBlock → Below w.heap.size wx wy → CnS w.heap.size mc ip po di st un nx wa inn out fin w wx → CnS w.heap.size mc ip po di st un nx wa inn out fin w wy) := fun wx wy hg hb h => h.row hg hb (fun e => X.out.2.1 e.symm)
        have SZ : Hid (∀ wx, CnS w.heap.size mc ip po di st un nx wa inn out fin w wx → w.heap.size ≤ wx.heap.size) := fun wx h => h.2.2.2.2.2.2.2.2.2.2.2.out.size
        have SA : Hid (∀ wx o, CnS w.heap.size mc ip po di st un nx wa inn out fin w wx → CnS w.heap.size mc ip po di st un nx wa inn out fin w (wx.alloc o)) := fun wx o h => h.below ((Below.refl _ _).alloc (Nat.le_refl _) o)
        clear q0 q1 q2 q3 q4 q5 q6 q7 q8 q9 q10
        go_region_held3 (fun wx => wx.cell? ⟨w.heap.size, 0, none⟩ = some (.string mc) ∧ wx.cell? ⟨w.heap.size, 1, none⟩ = some (.int .i64 ip) ∧ wx.cell? ⟨w.heap.size, 2, none⟩ = some (.int .i64 po) ∧ wx.cell? ⟨w.heap.size, 3, none⟩ = some (.int .i64 di) ∧ wx.cell? ⟨w.heap.size, 4, none⟩ = some (.int .i64 st) ∧ wx.cell? ⟨w.heap.size, 5, none⟩ = some (.int .i64 un) ∧ wx.cell? ⟨w.heap.size, 6, none⟩ = some (.int .i64 nx) ∧ wx.cell? ⟨w.heap.size, 7, none⟩ = some (.int .i64 wa) ∧ wx.cell? ⟨w.heap.size, 8, none⟩ = some (.string inn) ∧ wx.cell? ⟨w.heap.size, 9, none⟩ = some (.string out) ∧ wx.cell? ⟨w.heap.size, 10, none⟩ = some (.bool fin) ∧ KpC w wx)
          (first | exact SS.out | exact CB.out _ _ b6 (by assumption) | exact SA.out _ _ (by assumption) | exact SR.out _ _ Y7.out.2.2 Y7.out.2.1 (by assumption))
          (first | (go_at_call 42; (with_reducible refine (S1.out _).mono ?_); rintro e w' ⟨rfl, hw⟩; have hw2 := hw.symm; clear hw; subst hw2) | (go_at_call 81; (with_reducible refine (S2.out _).mono ?_); rintro e w6 ⟨rfl, g6⟩; have b6 := g6.below) | (refine step_segs _ (by rfl) (.tmp 23) (.tmp 31) (by rfl) w.heap.size u3 (pcL po wa un out k) (by rfl) (OW.out _ _ b6) _ 0 1 1 [⟨80, po, SQN, wa, 24, 1000, DA⟩] (by rfl) rfl (seg_new _ _ _ _ _ _ _ _) (by rw [PN.out]; omega) (SZ.out _ (by assumption)) ?_; intro v7 w7 Y7))
        have hS7 : CnS w.heap.size mc ip po di st un nx wa inn out fin w w7 := by assumption
        have F7 : Hid (OwnS sgG 7 27 w7 w.heap.size v7 (pcL po wa un out (k + 1)) ∧ v7.ownBlock ≠ some w.heap.size ∧ CnS w.heap.size mc ip po di st un nx wa inn out fin w w7) := by
          have h7 : OwnS sgG 7 27 w7 w.heap.size v7 (pcL po wa un out (k + 1)) := by rw [PL.out, PS.out]; exact Y7.out.1
          refine ⟨h7, ?_, hS7⟩
          intro e
          obtain ⟨q, hq⟩ : ∃ q, v7 = .slice (some ⟨w.heap.size, 0, none⟩) (pcL po wa un out (k + 1)).length q := by
            obtain ⟨a7, c7, he, _⟩ := h7.slice
            subst he
            obtain ⟨g7, hg7, -⟩ := h7.form (by rw [PL.out]; simp)
            subst hg7
            have : g7 = w.heap.size := by simpa [Value.ownBlock] using e
            subst this
            exact ⟨_, rfl⟩
          subst hq
          have h1 := (h7.cell sgG_len (i := 0) (j := 0) (x := pcS po wa un out 0) (u := .int .i64 80) (by unfold pcL; rw [List.getElem?_map, List.getElem?_range (by omega)]; rfl) rfl).1
          have h2 := hS7.1
          rw [h2] at h1
          cases h1
        clear hS7 Y7 SS OW SR SZ SA b6 g6 X S1 S2
        go_wp2
        go_roundw
        case rel => exact ⟨k + 1, hkn, by go_num, F7⟩
        case measure => simp [intOf]; omega
      · have hqz : (out.size : Int) < 200 * (k : Int) + 200 := by omega
        have PS : Hid (pcS po wa un out k = ⟨80, po, sqN (un + 200 * (k : Int)), wa, 24, 1000, out.extract (200 * k) out.size⟩) := by show _ = _; unfold pcS; rw [Nat.min_eq_right (by omega)]
        go_wp2_with fail
        have SS : Hid (CnS w.heap.size mc ip po di st un nx wa inn out fin w wr.drew) := X.out.2.2.below ((Below.refl _ _).drew)
        have S1 : Hid (∀ w, Calls Try.prog 42 #[.int .i64 un, .int .i64 (200 * (k : Int))] w fun e w' => e = .returned (.int .i64 (sqN (un + 200 * (k : Int)))) ∧ w' = w) := fun w => SQ.out _ w (by omega) (by omega)
        have S2 : Hid (∀ w, Calls Try.prog 81 #[.agg #[.string mc, .int .i64 ip, .int .i64 po, .int .i64 di, .int .i64 st, .int .i64 un, .int .i64 nx, .int .i64 wa, .string inn, .string out, .bool fin], .int .i64 (sqN (un + 200 * (k : Int))), .int .i64 24, .string (out.extract (200 * k) out.size)] w fun e w' => e = .returned (.agg #[.int .i64 80, .int .i64 po, .int .i64 (sqN (un + 200 * (k : Int))), .int .i64 wa, .int .i64 24, .int .i64 1000, .string (out.extract (200 * k) out.size)]) ∧ Grw w w') := fun w => SG.out _ _ _ w
        generalize sqN (un + 200 * (k : Int)) = SQN at S1 S2 PS
        generalize out.extract (200 * k) out.size = DA at S2 PS ⊢
        have OW : Hid (∀ w5 o, Below wr.drew.heap.size wr.drew w5 → OwnS sgG 7 27 (w5.alloc o) w.heap.size u3 (pcL po wa un out k)) := fun w5 o b5 => (OwnS.now (w := wr.drew) X.out.1 b5).now ((Below.refl _ _).alloc (Nat.le_refl _) o)
        have SR : Hid (∀ wx wy, wx.grownBy wy u3.ownBlock → Below w.heap.size wx wy → CnS w.heap.size mc ip po di st un nx wa inn out fin w wx → CnS w.heap.size mc ip po di st un nx wa inn out fin w wy) := fun wx wy hg hb h => h.row hg hb (fun e => X.out.2.1 e.symm)
        have SZ : Hid (∀ wx, CnS w.heap.size mc ip po di st un nx wa inn out fin w wx → w.heap.size ≤ wx.heap.size) := fun wx h => h.2.2.2.2.2.2.2.2.2.2.2.out.size
        have SA : Hid (∀ wx o, CnS w.heap.size mc ip po di st un nx wa inn out fin w wx → CnS w.heap.size mc ip po di st un nx wa inn out fin w (wx.alloc o)) := fun wx o h => h.below ((Below.refl _ _).alloc (Nat.le_refl _) o)
        clear q0 q1 q2 q3 q4 q5 q6 q7 q8 q9 q10
        go_region_held3 (fun wx => wx.cell? ⟨w.heap.size, 0, none⟩ = some (.string mc) ∧ wx.cell? ⟨w.heap.size, 1, none⟩ = some (.int .i64 ip) ∧ wx.cell? ⟨w.heap.size, 2, none⟩ = some (.int .i64 po) ∧ wx.cell? ⟨w.heap.size, 3, none⟩ = some (.int .i64 di) ∧ wx.cell? ⟨w.heap.size, 4, none⟩ = some (.int .i64 st) ∧ wx.cell? ⟨w.heap.size, 5, none⟩ = some (.int .i64 un) ∧ wx.cell? ⟨w.heap.size, 6, none⟩ = some (.int .i64 nx) ∧ wx.cell? ⟨w.heap.size, 7, none⟩ = some (.int .i64 wa) ∧ wx.cell? ⟨w.heap.size, 8, none⟩ = some (.string inn) ∧ wx.cell? ⟨w.heap.size, 9, none⟩ = some (.string out) ∧ wx.cell? ⟨w.heap.size, 10, none⟩ = some (.bool fin) ∧ KpC w wx)
          (first | exact SS.out | exact CB.out _ _ b6 (by assumption) | exact SA.out _ _ (by assumption) | exact SR.out _ _ Y7.out.2.2 Y7.out.2.1 (by assumption))
          (first | (go_at_call 42; (with_reducible refine (S1.out _).mono ?_); rintro e w' ⟨rfl, hw⟩; have hw2 := hw.symm; clear hw; subst hw2) | (go_at_call 81; (with_reducible refine (S2.out _).mono ?_); rintro e w6 ⟨rfl, g6⟩; have b6 := g6.below) | (refine step_segs _ (by rfl) (.tmp 23) (.tmp 31) (by rfl) w.heap.size u3 (pcL po wa un out k) (by rfl) (OW.out _ _ b6) _ 0 1 1 [⟨80, po, SQN, wa, 24, 1000, DA⟩] (by rfl) rfl (seg_new _ _ _ _ _ _ _ _) (by rw [PN.out]; omega) (SZ.out _ (by assumption)) ?_; intro v7 w7 Y7))
        have hS7 : CnS w.heap.size mc ip po di st un nx wa inn out fin w w7 := by assumption
        have F7 : Hid (OwnS sgG 7 27 w7 w.heap.size v7 (pcL po wa un out (k + 1)) ∧ v7.ownBlock ≠ some w.heap.size ∧ CnS w.heap.size mc ip po di st un nx wa inn out fin w w7) := by
          have h7 : OwnS sgG 7 27 w7 w.heap.size v7 (pcL po wa un out (k + 1)) := by rw [PL.out, PS.out]; exact Y7.out.1
          refine ⟨h7, ?_, hS7⟩
          intro e
          obtain ⟨q, hq⟩ : ∃ q, v7 = .slice (some ⟨w.heap.size, 0, none⟩) (pcL po wa un out (k + 1)).length q := by
            obtain ⟨a7, c7, he, _⟩ := h7.slice
            subst he
            obtain ⟨g7, hg7, -⟩ := h7.form (by rw [PL.out]; simp)
            subst hg7
            have : g7 = w.heap.size := by simpa [Value.ownBlock] using e
            subst this
            exact ⟨_, rfl⟩
          subst hq
          have h1 := (h7.cell sgG_len (i := 0) (j := 0) (x := pcS po wa un out 0) (u := .int .i64 80) (by unfold pcL; rw [List.getElem?_map, List.getElem?_range (by omega)]; rfl) rfl).1
          have h2 := hS7.1
          rw [h2] at h1
          cases h1
        clear hS7 Y7 SS OW SR SZ SA b6 g6 X S1 S2
        go_wp2
        go_roundw
        case rel => exact ⟨k + 1, hkn, by go_num, F7⟩
        case measure => simp [intOf]; omega
    · have hkn : k = pcN out.size := by unfold pcN at hk ⊢; omega
      have HK : Hid (pcL po wa un out k = pcL po wa un out (pcN out.size)) := by show _ = _; rw [← hkn]
      have PN : Hid ((pcL po wa un out k).length = k) := pcL_len _ _ _ _ _
      have hnl : ¬ ((200 * k : Nat) : Int) < (out.size : Int) := by omega
      clear HS9 hkn
      cases hfin : fin with
      | false =>
        subst hfin
        go_wp2
        go_ret
        exact ⟨_, rfl, by rw [puL_open, ← HK.out]; exact X.out.1, X.out.2.2.2.2.2.2.2.2.2.2.2.2.2.out⟩
      | true =>
        subst hfin
        have PF : Hid (puL po wa un out true = pcL po wa un out k ++ [⟨80, po, sqN (un + (out.size : Int)), wa, 17, 1000, ⟨#[]⟩⟩]) := by show _ = _; rw [puL_fin, ← HK.out]
        go_wp2_with fail
        have SS : Hid (CnS w.heap.size mc ip po di st un nx wa inn out true w wr.drew) := X.out.2.2.below ((Below.refl _ _).drew)
        have S1 : Hid (∀ w, Calls Try.prog 42 #[.int .i64 un, .int .i64 ((out.size : Int))] w fun e w' => e = .returned (.int .i64 (sqN (un + (out.size : Int)))) ∧ w' = w) := fun w => SQ.out _ w (by omega) (by omega)
        have S2 : Hid (∀ w, Calls Try.prog 81 #[.agg #[.string mc, .int .i64 ip, .int .i64 po, .int .i64 di, .int .i64 st, .int .i64 un, .int .i64 nx, .int .i64 wa, .string inn, .string out, .bool true], .int .i64 (sqN (un + (out.size : Int))), .int .i64 17, .string (⟨#[]⟩)] w fun e w' => e = .returned (.agg #[.int .i64 80, .int .i64 po, .int .i64 (sqN (un + (out.size : Int))), .int .i64 wa, .int .i64 17, .int .i64 1000, .string (⟨#[]⟩)]) ∧ Grw w w') := fun w => SG.out _ _ _ w
        generalize sqN (un + (out.size : Int)) = SQN at S1 S2 PF
        have OW : Hid (∀ w5 o, Below wr.drew.heap.size wr.drew w5 → OwnS sgG 7 27 (w5.alloc o) w.heap.size u3 (pcL po wa un out k)) := fun w5 o b5 => (OwnS.now (w := wr.drew) X.out.1 b5).now ((Below.refl _ _).alloc (Nat.le_refl _) o)
        have SR : Hid (∀ wx wy, wx.grownBy wy u3.ownBlock → Below w.heap.size wx wy → CnS w.heap.size mc ip po di st un nx wa inn out true w wx → CnS w.heap.size mc ip po di st un nx wa inn out true w wy) := fun wx wy hg hb h => h.row hg hb (fun e => X.out.2.1 e.symm)
        have SZ : Hid (∀ wx, CnS w.heap.size mc ip po di st un nx wa inn out true w wx → w.heap.size ≤ wx.heap.size) := fun wx h => h.2.2.2.2.2.2.2.2.2.2.2.out.size
        have SA : Hid (∀ wx o, CnS w.heap.size mc ip po di st un nx wa inn out true w wx → CnS w.heap.size mc ip po di st un nx wa inn out true w (wx.alloc o)) := fun wx o h => h.below ((Below.refl _ _).alloc (Nat.le_refl _) o)
        clear q0 q1 q2 q3 q4 q5 q6 q7 q8 q9 SG
        go_region_held3 (fun wx => wx.cell? ⟨w.heap.size, 0, none⟩ = some (.string mc) ∧ wx.cell? ⟨w.heap.size, 1, none⟩ = some (.int .i64 ip) ∧ wx.cell? ⟨w.heap.size, 2, none⟩ = some (.int .i64 po) ∧ wx.cell? ⟨w.heap.size, 3, none⟩ = some (.int .i64 di) ∧ wx.cell? ⟨w.heap.size, 4, none⟩ = some (.int .i64 st) ∧ wx.cell? ⟨w.heap.size, 5, none⟩ = some (.int .i64 un) ∧ wx.cell? ⟨w.heap.size, 6, none⟩ = some (.int .i64 nx) ∧ wx.cell? ⟨w.heap.size, 7, none⟩ = some (.int .i64 wa) ∧ wx.cell? ⟨w.heap.size, 8, none⟩ = some (.string inn) ∧ wx.cell? ⟨w.heap.size, 9, none⟩ = some (.string out) ∧ wx.cell? ⟨w.heap.size, 10, none⟩ = some (.bool true) ∧ KpC w wx)
          (first | exact SS.out | exact CB.out _ _ b6 (by assumption) | exact SA.out _ _ (by assumption) | exact SR.out _ _ Y7.out.2.2 Y7.out.2.1 (by assumption))
          (first | (go_at_call 42; (with_reducible refine (S1.out _).mono ?_); rintro e w' ⟨rfl, hw⟩; have hw2 := hw.symm; clear hw; subst hw2) | (go_at_call 81; (with_reducible refine (S2.out _).mono ?_); rintro e w6 ⟨rfl, g6⟩; have b6 := g6.below) | (refine step_segs _ (by rfl) (.tmp 35) (.tmp 44) (by rfl) w.heap.size u3 (pcL po wa un out k) (by rfl) (OW.out _ _ b6) _ 0 1 1 [⟨80, po, SQN, wa, 17, 1000, ⟨#[]⟩⟩] (by rfl) rfl (seg_new _ _ _ _ _ _ _ _) (by rw [PN.out]; omega) (SZ.out _ (by assumption)) ?_; intro v7 w7 Y7))
        have hS7 : CnS w.heap.size mc ip po di st un nx wa inn out true w w7 := by assumption
        have F7 : Hid (OwnS sgG 7 27 w7 w.heap.size v7 (puL po wa un out true) ∧ Below w.heap.size w w7) := ⟨by rw [PF.out]; exact Y7.out.1, hS7.2.2.2.2.2.2.2.2.2.2.2.out⟩
        clear hS7 Y7 SS OW SR SZ SA b6 g6 X S1 S2
        go_wp2
        go_ret
        exact ⟨_, rfl, F7.out.1, F7.out.2⟩
end Go.Proofs.Ytjammgjmidchmaa
