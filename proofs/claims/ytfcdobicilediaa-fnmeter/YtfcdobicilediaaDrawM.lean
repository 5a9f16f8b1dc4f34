/- Drawn amounts: a few right ones. -/
import Derived.Test.YtfcdobicilediaaMeter
import Derived.Test.YtfcdobicilediaaDraws
import Derived.OwnWalk
import Derived.Laws.AppendOwnNone
namespace Go.Proofs.Ytfcdobicilediaa
open Go.RowKit Go.PlainAid Go.Sort
set_option linter.unusedVariables false
set_option maxRecDepth 20000

/-- The source behind some draws, and all else as it was. -/
def DrawnN (k : Nat) (w w' : World) (q : Nat) (a : Option Addr) (len cap : Nat) (f : Nat → Int) (m : Nat) : Prop := (∃ m', m' ≤ m + k ∧ Src w' q a len cap f m') ∧ w.grownBy w' (some q)

set_option maxHeartbeats 1000000 in
theorem amountD (w : World) (q : Nat) (a : Option Addr) (len cap : Nat) (f : Nat → Int) (m : Nat) (h : Src w q a len cap f m) (hm : m ≤ 900000000) :
    Calls Try.prog 90 #[.pointer (some ⟨q, 0, none⟩)] w fun e w' => ∃ x : Int, e = .returned (.int .i64 x) ∧ okA x ∧ Hid (DrawnN 9 w w' q a len cap f m) := by
  have lq : q < w.heap.size := World.block_lt_of_cell? w _ h.code
  have HH : Hid (Src w q a len cap f m) := h
  clear h
  go_enter Try.func90, Try.ntmps90
  go_wp2_with fail
  refine (next_any _ q a len cap f m 100 HH.out (by omega) (by omega) (by omega)).mono ?_
  rintro e w1 ⟨v, m1, rfl, v0, v1, hm1, hs, ho⟩
  have G1 : Hid (Src w1 q a len cap f m1 ∧ w.grownBy w1 (some q)) := ⟨hs, ho.grownBy⟩
  clear hs ho HH
  go_wp2_with fail
  refine (next_any _ q a len cap f m1 9000 G1.out.1 (by omega) (by omega) (by omega)).mono ?_
  rintro e w2 ⟨u, m2, rfl, u0, u1, hm2, hs, ho⟩
  have G2 : Hid (Src w2 q a len cap f m2 ∧ w.grownBy w2 (some q)) := ⟨hs, grown_trans G1.out.2 ho.grownBy⟩
  have lq2 : q < w2.heap.size := World.block_lt_of_cell? w2 _ hs.code
  clear hs ho G1
  go_wp2_with fail
  refine (next_any _ q a len cap f m2 5 (G2.out.1.grown (World.grownBy_alloc w2 _ none) (by simp) (by simp)) (by omega) (by omega) (by omega)).mono ?_
  rintro e w3 ⟨z, m3, rfl, z0, z1, hm3, hs, ho⟩
  have D : Hid (DrawnN 9 w w3 q a len cap f m) := ⟨⟨m3, by omega, hs⟩, grown_trans G2.out.2 (grown_trans (World.grownBy_alloc w2 _ (some q)) ho.grownBy)⟩
  have hcell := lit_cells [.int .i64 (v - 50), .int .i64 u, .int .i64 1000000000, .int .i64 (-1000000000), .int .i64 0] 3 lq2 ho
  have c0 := hcell.at 0 _ rfl
  have c1 := hcell.at 1 _ rfl
  have c2 := hcell.at 2 _ rfl
  have c3 := hcell.at 3 _ rfl
  have c4 := hcell.at 4 _ rfl
  clear hcell hs ho G2
  have hv : z = 0 ∨ z = 1 ∨ z = 2 ∨ z = 3 ∨ z = 4 := by omega
  rcases hv with rfl | rfl | rfl | rfl | rfl
  all_goals
    clear z0 z1
    go_wp2
    go_ret
    exact ⟨_, rfl, by unfold okA; omega, D⟩

/-- The slice value v owns the integers L. -/
def OwnN (e : TypeId) (w : World) (B : Nat) (v : Value) (L : List Int) : Prop := w.ownsRow B e 1 v L.length (L.map (Value.int .i64))
theorem OwnN.now {e : TypeId} {w w' : World} {B : Nat} {v : Value} {L : List Int} (h : OwnN e w B v L) (hb : Below w.heap.size w w') : OwnN e w' B v L := by
  have hn := World.ownsRow.lt h
  refine ⟨h.1, ?_⟩
  rcases h.2 with h' | ⟨g, cap, cur, h1, hB, hg, h4⟩
  · exact .inl h'
  · exact .inr ⟨g, cap, cur, h1, hB, by rw [hb.block _ (hn g (by rw [h1]; rfl)).2]; exact hg, h4⟩
theorem OwnN.lower {e : TypeId} {w : World} {B B' : Nat} {v : Value} {L : List Int} (h : OwnN e w B v L) (hB : B' ≤ B) : OwnN e w B' v L := by
  refine ⟨h.1, ?_⟩
  rcases h.2 with h' | ⟨g, cap, cur, h1, hb, h4⟩
  · exact .inl h'
  · exact .inr ⟨g, cap, cur, h1, Nat.le_trans hB hb, h4⟩
theorem intInfoN : (Try.prog.info? 3).map (fun i => (i.zero, i.size, i.bytes)) = some (some (.int .i64 0), 1, 8) := by kernel_rfl
/-- 'append(out, x)'. -/
theorem wpl_num (w : World) {ops : Array Oper} {rest : List Oper} {o : Oper} {a : Act} {Q : Exit → Act → World → Prop} (hgd : o.guard = none) (s x : Operand)
    (ho : o.op = .call { callee := .builtin .append, args := #[s, x], argTypes := #[53, 53] })
    (B : Nat) (v : Value) (L : List Int) (hs : a.eval s = v) (hown : OwnN 3 w B v L)
    (g n c : Nat) (ps : List Int) (hx : a.eval x = .slice (some ⟨g, 0, none⟩) n c) (hn : ps.length = n) (h0 : ∀ i, i < n → w.cell? ⟨g, i, none⟩ = some (.int .i64 (ps.getD i 0)))
    (hlen : L.length + n ≤ 5000) (hB : B ≤ w.heap.size)
    (h : ∀ v' w', Hid (OwnN 3 w' B v' (L ++ ps) ∧ Below B w w' ∧ w.grownBy w' v.ownBlock) → wpList Try.prog ops Q rest (a.put o.dst v') w') : wpList Try.prog ops Q (o :: rest) a w := by
  obtain ⟨i0, hi, hz0, hz1, hz2⟩ := info_parts intInfoN
  refine wpList_append_own w hgd s x 53 ho B 3 i0 (.int .i64 0) 1 8 Try.underlying53 hi hz0 hz1 hz2 rfl (by decide) v L.length (L.map (Value.int .i64)) hs hown ⟨g, 0, none⟩ n c (ps.map (Value.int .i64)) hx (by simp [hn]) ?_
    (fun u hu => by simp at hu; obtain ⟨y, _, rfl⟩ := hu; rfl) (by unfold maxLen; omega) (by omega) hB ?_
  · intro j u hu
    have ea : (⟨g, 0, none⟩ : Addr).add j = ⟨g, 0 + j, none⟩ := by unfold Addr.add; split <;> simp_all
    rw [ea, Nat.zero_add]
    rw [List.getElem?_map] at hu
    have hj : j < ps.length := by
      by_cases hj : j < ps.length
      · exact hj
      · rw [List.getElem?_eq_none (by omega)] at hu; cases hu
    rw [List.getElem?_eq_getElem hj] at hu
    simp at hu
    subst hu
    have := h0 j (by omega)
    rw [List.getD_eq_getElem?_getD, List.getElem?_eq_getElem hj] at this
    simpa using this
  · intro v' w' h2 h3 _
    refine h v' w' ⟨?_, (Below.refl B w).grown h3 hB (fun k hk => (World.ownsRow.lt hown k hk).1), h3⟩
    unfold OwnN
    rw [List.length_append, List.map_append, hn]
    exact h2
/-- 'append(out, row...)'. -/
theorem wpl_row (w : World) {ops : Array Oper} {rest : List Oper} {o : Oper} {a : Act} {Q : Exit → Act → World → Prop} (hgd : o.guard = none) (s x : Operand)
    (ho : o.op = .call { callee := .builtin .append, args := #[s, x], argTypes := #[53, 53] })
    (B : Nat) (v : Value) (L : List Int) (hs : a.eval s = v) (hown : OwnN 3 w B v L)
    (Bx : Nat) (vx : Value) (ps : List Int) (hx : a.eval x = vx) (hsrc : OwnN 3 w Bx vx ps) (hlen : L.length + ps.length ≤ 5000) (hB : B ≤ w.heap.size)
    (h : ∀ v' w', Hid (OwnN 3 w' B v' (L ++ ps) ∧ Below B w w' ∧ w.grownBy w' v.ownBlock) → wpList Try.prog ops Q rest (a.put o.dst v') w') : wpList Try.prog ops Q (o :: rest) a w := by
  rcases hsrc.2 with ⟨h1, h2⟩ | ⟨g, cap, cur, h1, hb, hg, hle, hm, hz, ht⟩
  · have e0 : ps = [] := by simpa using h2
    subst e0
    obtain ⟨i0, hi, hz0, hz1, hz2⟩ := info_parts intInfoN
    refine wpList_append_own_none hgd s x 53 ho B 3 i0 1 Try.underlying53 hi v L.length (L.map (Value.int .i64)) hs hown (hx.trans h1) ?_
    exact h v w ⟨by rw [List.append_nil]; exact hown, Below.refl _ _, World.grownBy.refl _ _⟩
  · refine wpl_num w hgd s x ho B v L hs hown g ps.length cap ps (hx.trans h1) rfl (fun i hi => ?_) hlen hB h
    have hc := World.ownsRow.cells hsrc (g := g) (by rw [h1]; rfl) i (.int .i64 (ps.getD i 0)) (by simp [hi])
    have ea : (⟨g, 0, none⟩ : Addr).add i = ⟨g, 0 + i, none⟩ := by unfold Addr.add; split <;> simp_all
    rw [ea, Nat.zero_add] at hc
    exact hc
theorem own_litI (w : World) (B : Nat) (hB : B ≤ w.heap.size) : OwnN 3 (w.alloc (.cells #[] 3)) B (.slice (some ⟨w.heap.size, 0, none⟩) 0 0) [] := World.ownsRow_lit w #[] 0 hB (Nat.zero_le _) rfl
/-- A few amounts. -/
def FewA (n : Nat) (zs : List Int) : Prop := zs.length ≤ n ∧ ∀ p ∈ zs, okA p
theorem FewA.put {n : Nat} {zs : List Int} {p : Int} (h : FewA n zs) (hp : okA p) : FewA (n + 1) (zs ++ [p]) := by
  refine ⟨by rw [List.length_append]; have := h.1; simp; omega, fun y hy => ?_⟩
  rw [List.mem_append, List.mem_singleton] at hy
  rcases hy with hy | rfl
  · exact h.2 y hy
  · exact hp

set_option maxHeartbeats 2000000 in
theorem amountsD (w : World) (q : Nat) (a : Option Addr) (len cap : Nat) (f : Nat → Int) (m : Nat) (h : Src w q a len cap f m) (hm : m ≤ 800000000) (hq : q < w.heap.size) :
    Calls Try.prog 61 #[.pointer (some ⟨q, 0, none⟩)] w fun e w' => ∃ v zs, e = .returned v ∧ OwnN 3 w' w.heap.size v zs ∧ FewA 6 zs ∧ w.grownBy w' (some q) := by
  have H : Hid (Src w q a len cap f m) := h
  have HL : Hid (∀ b off, 0 < len → a = some ⟨b, off, none⟩ → b < w.heap.size) := fun b off h0 e => by
    obtain ⟨b', off', e', hc⟩ := h.bytes.2 h0
    rw [e] at e'
    cases e'
    exact World.block_lt_of_cell? w ⟨b, off + 0, none⟩ (hc 0 h0)
  clear h
  go_enter Try.func61, Try.ntmps61
  go_wp2_with fail
  refine (next_any _ q a len cap f m 6 (H.out.grown (World.grownBy_alloc w _ none) (by simp) (by simp)) (by omega) (by omega) (by omega)).mono ?_
  rintro e w1 ⟨v, m1, rfl, v0, v1, hm1, s1, o1⟩
  have L0 : OwnN 3 (w.alloc (.cells #[] 3)) w.heap.size (.slice (some ⟨w.heap.size, 0, none⟩) 0 0) [] := own_litI w _ (Nat.le_refl _)
  have L1 : OwnN 3 w1 w.heap.size (.slice (some ⟨w.heap.size, 0, none⟩) 0 0) [] := World.ownsRow.kept L0 o1.grownBy (Or.inr (by show some w.heap.size ≠ some q; intro e; cases e; omega))
  have G1 : w.grownBy w1 (some q) := grown_trans (World.grownBy_alloc w _ (some q)) o1.grownBy
  have X0 : Hid (OwnN 3 w1 w.heap.size (.slice (some ⟨w.heap.size, 0, none⟩) 0 0) [] ∧ FewA 0 [] ∧ Src w1 q a len cap f m1 ∧ w.grownBy w1 (some q)) := ⟨L1, ⟨Nat.le_refl _, by simp⟩, s1, G1⟩
  clear L0 L1 G1 s1 o1 H
  go_wp2
  go_loopw [3, 4] (fun o i wr => ∃ (k n m' : Nat) (zs : List Int), i = .int .i64 k ∧ n + k ≤ 5 ∧ m' + 12 * k ≤ m + 100 ∧ Hid (OwnN 3 wr w.heap.size o zs ∧ FewA n zs ∧ Src wr q a len cap f m' ∧ w.grownBy wr (some q))) (fun _ i _ => (intOf i).toNat)
  case atStart => exact ⟨v.toNat, 0, m1, [], by simp; omega, by omega, by omega, X0⟩
  case round =>
    obtain ⟨k, n, m', zs, rfl, hnk, hmk, X⟩ := hrel
    by_cases hlt : 0 < k
    · have hltz : (0 : Int) < (k : Int) := by omega
      go_wp2_with fail
      refine (amountD _ q a len cap f m' X.out.2.2.1 (by omega)).mono ?_
      rintro e w2 ⟨x, rfl, h6, D⟩
      obtain ⟨m2, hm2, hs2⟩ := D.out.1
      have o2 : OwnN 3 w2 w.heap.size _ zs := World.ownsRow.kept X.out.1 D.out.2 (Or.inr (fun e => by have := (World.ownsRow.lt X.out.1 q e).1; omega))
      have g2 : w.grownBy w2 (some q) := grown_trans X.out.2.2.2 D.out.2
      have S2 : Hid (OwnN 3 w2 w.heap.size _ zs ∧ Src w2 q a len cap f m2 ∧ w.grownBy w2 (some q) ∧ okA x) := ⟨o2, hs2, g2, h6⟩
      clear o2 g2 hs2 D h6
      have XA : Hid (∀ o, OwnN 3 (w2.alloc o) w.heap.size u3 zs ∧ w.heap.size ≤ (w2.alloc o).heap.size) := fun o => ⟨S2.out.1.now ((Below.refl _ _).alloc (Nat.le_refl _) o), by have := S2.out.2.2.1.size; simp; omega⟩
      have hz5 : zs.length + 1 ≤ 5000 := by have := X.out.2.1.1; omega
      go_wp2_with (at_builtin; refine wpl_num _ rfl (.tmp 12) (.tmp 15) rfl w.heap.size u3 zs rfl (XA.out _).1 w2.heap.size 1 1 [x] rfl rfl (fun i hi => by have h0 : i = 0 := (by omega); subst h0; simp) hz5 (XA.out _).2 ?_; intro v' w3 Y)
      have Z : Hid (OwnN 3 w3 w.heap.size v' (zs ++ [x]) ∧ FewA (n + 1) (zs ++ [x]) ∧ Src w3 q a len cap f m2 ∧ w.grownBy w3 (some q)) := by
        have ga := World.grownBy_alloc w2 (.cells #[.int .i64 x] 3)
        have hnq : ∀ b, u3.ownBlock = some b → w.heap.size ≤ b := fun b hb => (World.ownsRow.lt X.out.1 b hb).1
        refine ⟨Y.out.1, X.out.2.1.put S2.out.2.2.2, (S2.out.2.1.grown (ga none) (by simp) (by simp)).grown Y.out.2.2 (fun e => by have := hnq q e.symm; omega) (fun b off h0 e e2 => ?_), grown_newer (grown_trans S2.out.2.2.1 (ga (some q))) Y.out.2.2 hnq⟩
        have := hnq b e2.symm
        have := HL.out b off h0 e
        omega
      clear X S2 XA Y
      go_wp2
      go_roundw
      case rel => exact ⟨k - 1, n + 1, m2, _, by go_num, by omega, by omega, Z⟩
      case measure => simp [intOf]; omega
    · obtain rfl : k = 0 := by omega
      go_wp2
      go_ret
      exact ⟨_, zs, rfl, X.out.1, ⟨by have := X.out.2.1.1; omega, X.out.2.1.2⟩, X.out.2.2.2⟩

theorem AmountsOf_any (w : World) (a : Option Addr) (len cap : Nat) (f : Nat → Int) (h : Bytes w a len f) (hl : len ≤ 1048576) (hlt : ∀ b off, 0 < len → a = some ⟨b, off, none⟩ → b < w.heap.size) :
    Calls Try.prog 27 #[.slice a len cap] w fun e w' => ∃ v zs, e = .returned v ∧ OwnN 3 w' w.heap.size v zs ∧ FewA 6 zs ∧ Below w.heap.size w w' := by
  have HB : Hid (Bytes w a len f) := h
  have HL : Hid (∀ b off, 0 < len → a = some ⟨b, off, none⟩ → b < w.heap.size) := hlt
  clear h hlt
  go_enter Try.func27, Try.ntmps27
  go_wp2_with fail
  refine (l00Source_any w a len cap f HB.out hl HL.out).mono ?_
  rintro e w1 ⟨rfl, hs, hg, hz⟩
  have X : Hid (Src w1 w.heap.size a len cap f 0 ∧ w.grownBy w1 none ∧ w1.heap.size = w.heap.size + 1) := ⟨hs, hg, hz⟩
  clear hs hg hz
  go_wp2_with fail
  refine (amountsD w1 w.heap.size a len cap f 0 X.out.1 (by omega) (by have := X.out.2.2; omega)).mono ?_
  rintro e w2 ⟨v, zs, rfl, o2, hf, hg2⟩
  have B2 : Hid (Below w.heap.size w w2) := ((Below.refl w.heap.size w).grown X.out.2.1 (Nat.le_refl _) (by simp)).grown hg2 (by have := X.out.2.2; omega) (by intro k hk; cases hk; exact Nat.le_refl _)
  have Y : Hid (OwnN 3 w2 w.heap.size v zs ∧ FewA 6 zs) := ⟨o2.lower (by have := X.out.2.2; omega), hf⟩
  clear o2 hf hg2
  go_wp2
  go_ret
  exact ⟨v, zs, rfl, Y.out.1, Y.out.2, B2.out⟩
end Go.Proofs.Ytfcdobicilediaa
