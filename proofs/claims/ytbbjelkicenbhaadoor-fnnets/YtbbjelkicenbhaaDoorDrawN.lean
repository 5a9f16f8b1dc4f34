/- Drawn nets: a few of six right ones. -/
import Derived.Test.YtbbjelkicenbhaaDoorNetsF
import Derived.Test.YtbbjelkicenbhaaDoorPairs2
import Derived.Test.YtbbjelkicenbhaaDoorDraws
namespace Go.Proofs.YtbbjelkicenbhaaDoor
open Go.RowKit Go.PlainAid Go.Sort
set_option linter.unusedVariables false
set_option maxRecDepth 20000

theorem netInfo : (Tryd.prog.info? 47).map (fun i => (i.zero, i.size, i.bytes)) = some (some (.agg #[.int .i64 0, .int .i64 0]), 2, 16) := by kernel_rfl
/-- 'append(row, x)' of a pair: what it leaves. -/
theorem append_net {w w' : World} {B : Nat} {v : Value} {L : List (Int × Int)} {x y : Int} (h : OwnP 47 w B v L) (hB : B ≤ w.heap.size) {v' : Value}
    (h1 : w'.ownsRow B 47 2 v' (L.length + 1) (flat L ++ [.int .i64 x, .int .i64 y])) (h2 : w.grownBy w' v.ownBlock) : OwnP 47 w' B v' (L ++ [(x, y)]) ∧ Below B w w' := by
  refine ⟨?_, (Below.refl B w).grown h2 hB (fun k hk => (World.ownsRow.lt h k hk).1)⟩
  unfold OwnP
  rw [flat_append, List.length_append]
  exact h1

/-- 'append(left, t)'. -/
theorem wpl_net (w : World) {ops : Array Oper} {rest : List Oper} {o : Oper} {a : Act} {Q : Exit → Act → World → Prop} (hgd : o.guard = none) (s x : Operand)
    (ho : o.op = .call { callee := .builtin .append, args := #[s, x], argTypes := #[39, 39] })
    (B : Nat) (v : Value) (L : List (Int × Int)) (hs : a.eval s = v) (hown : OwnP 47 w B v L)
    (g c : Nat) (p q : Int) (hx : a.eval x = .slice (some ⟨g, 0, none⟩) 1 c) (h0 : w.cell? ⟨g, 0, none⟩ = some (.int .i64 p)) (h1 : w.cell? ⟨g, 1, none⟩ = some (.int .i64 q))
    (hlen : L.length ≤ 5000) (hB : B ≤ w.heap.size)
    (h : ∀ v' w', Hid (OwnP 47 w' B v' (L ++ [(p, q)]) ∧ Below B w w' ∧ w.grownBy w' v.ownBlock) → wpList Tryd.prog ops Q rest (a.put o.dst v') w') : wpList Tryd.prog ops Q (o :: rest) a w := by
  obtain ⟨i0, hi, hz0, hz1, hz2⟩ := info_parts netInfo
  refine wpList_append_own w hgd s x 39 ho B 47 i0 (.agg #[.int .i64 0, .int .i64 0]) 2 16 Tryd.underlying39 hi hz0 hz1 hz2 rfl (by decide) v L.length (flat L) hs hown ⟨g, 0, none⟩ 1 c [.int .i64 p, .int .i64 q] hx rfl ?_
    (fun u hu => by simp at hu; rcases hu with rfl | rfl <;> rfl) (by unfold maxLen; omega) (by omega) hB ?_
  · intro j u hu
    rw [add_none]
    match j, hu with
    | 0, hu => cases hu; exact h0
    | 1, hu => cases hu; exact h1
  · intro v' w' h2 h3 _
    exact h v' w' ⟨(append_net hown hB h2 h3).1, (append_net hown hB h2 h3).2, h3⟩

theorem grown_two (w1 : World) (b : Nat) (u v : Value) : w1.grownBy ((w1.setCell ⟨b, 0, none⟩ u).setCell ⟨b, 1, none⟩ v) (some b) :=
  ⟨rfl, rfl, rfl, by simp, fun k hk hne => by
    have hk2 : k ≠ b := fun e => hne (by rw [e])
    rw [Below.heap_setCell _ _ _ _ (by exact hk2), Below.heap_setCell _ _ _ _ (by exact hk2)]⟩

set_option maxHeartbeats 1000000 in
theorem netD (w : World) (q : Nat) (a : Option Addr) (len cap : Nat) (f : Nat → Int) (m : Nat) (h : Src w q a len cap f m) (hm : m ≤ 999999990) :
    Calls Tryd.prog 83 #[.pointer (some ⟨q, 0, none⟩)] w fun e w' => ∃ x y : Int, e = .returned (.agg #[.int .i64 x, .int .i64 y]) ∧ Six (x, y) ∧ Hid (Drawn w w' q a len cap f m) := by
  have lq : q < w.heap.size := World.block_lt_of_cell? w _ h.code
  have hbl : ∀ b off, 0 < len → a = some ⟨b, off, none⟩ → b < w.heap.size := fun b off h0 e => by
    obtain ⟨b', off', e', hc⟩ := h.bytes.2 h0
    rw [e] at e'
    cases e'
    exact World.block_lt_of_cell? w ⟨b, off + 0, none⟩ (hc 0 h0)
  have HH : Hid (Src w q a len cap f m) := h
  have HL : Hid (∀ b off, 0 < len → a = some ⟨b, off, none⟩ → b < w.heap.size) := hbl
  clear h hbl
  obtain ⟨W, hW⟩ : ∃ W, W = w.alloc (.cells #[.int .i64 0, .int .i64 0] 47) := ⟨_, rfl⟩
  have zW : Hid (W.heap.size = w.heap.size + 1) := by rw [hW]; show _ = _; simp
  have k0 : W.cell? ⟨w.heap.size, 0, none⟩ = some (.int .i64 0) := by rw [hW]; simp
  have k1 : W.cell? ⟨w.heap.size, 1, none⟩ = some (.int .i64 0) := by rw [hW]; simp
  have kf : ∀ i, W.frozen? ⟨w.heap.size, i, none⟩ = false := fun i => by rw [hW]; simp
  have gW : w.grownBy W none := by rw [hW]; exact World.grownBy_alloc w _ none
  have gWq : w.grownBy W (some q) := by rw [hW]; exact World.grownBy_alloc w _ (some q)
  have SW : Hid (Src W q a len cap f m ∧ w.grownBy W (some q)) := ⟨HH.out.grown gW (by simp) (by simp), gWq⟩
  clear gW gWq
  have KB : Hid (W.cell? ⟨w.heap.size, 0, none⟩ = some (.int .i64 0) ∧ W.cell? ⟨w.heap.size, 1, none⟩ = some (.int .i64 0) ∧ ∀ i, W.frozen? ⟨w.heap.size, i, none⟩ = false) := ⟨k0, k1, kf⟩
  clear k0 k1 kf
  go_enter Tryd.func83, Tryd.ntmps83
  go_wp2_with fail
  rw [← hW, ← zW.out]
  clear hW
  refine (next_any _ q a len cap f m 6 (SW.out.1.grown (World.grownBy_alloc W _ none) (by simp) (by simp)) hm (by omega) (by omega)).mono ?_
  rintro e w1 ⟨v, m', rfl, v0, v1, hm', hs, ho⟩
  have G : Hid (Src w1 q a len cap f m' ∧ w.grownBy w1 (some q)) := ⟨hs, grown_trans SW.out.2 (grown_trans (World.grownBy_alloc W _ (some q)) ho.grownBy)⟩
  have hbW : w.heap.size < W.heap.size := by have := zW.out; omega
  have b0 : w1.cell? ⟨w.heap.size, 0, none⟩ = some (.int .i64 0) := by rw [ho.cell (p := ⟨w.heap.size, 0, none⟩) (by show w.heap.size ≠ q; omega), World.cell?_alloc_lt _ _ _ (by exact hbW)]; exact KB.out.1
  have b1 : w1.cell? ⟨w.heap.size, 1, none⟩ = some (.int .i64 0) := by rw [ho.cell (p := ⟨w.heap.size, 1, none⟩) (by show w.heap.size ≠ q; omega), World.cell?_alloc_lt _ _ _ (by exact hbW)]; exact KB.out.2.1
  have bf : ∀ i, w1.frozen? ⟨w.heap.size, i, none⟩ = false := fun i => by
    have h2 : w1.heap[w.heap.size]? = W.heap[w.heap.size]? := by
      rw [ho.block w.heap.size (by omega)]
      exact Array.getElem?_push_lt hbW |>.trans (Array.getElem?_eq_getElem hbW).symm
    rw [World.frozen?_of_block (a := ⟨w.heap.size, i, none⟩) h2]; exact KB.out.2.2 i
  have hcell := lit_cells [.int .i64 167772160, .int .i64 8, .int .i64 167772162, .int .i64 32, .int .i64 0, .int .i64 0, .int .i64 84213760, .int .i64 16, .int .i64 84215044, .int .i64 30, .int .i64 2147483648, .int .i64 1] 47 (show q < W.heap.size by omega) ho
  have c0 := hcell.at 0 _ rfl
  have c1 := hcell.at 1 _ rfl
  have c2 := hcell.at 2 _ rfl
  have c3 := hcell.at 3 _ rfl
  have c4 := hcell.at 4 _ rfl
  have c5 := hcell.at 5 _ rfl
  have c6 := hcell.at 6 _ rfl
  have c7 := hcell.at 7 _ rfl
  have c8 := hcell.at 8 _ rfl
  have c9 := hcell.at 9 _ rfl
  have c10 := hcell.at 10 _ rfl
  have c11 := hcell.at 11 _ rfl
  have FIN : Hid (∀ u v, Drawn w ((w1.setCell ⟨w.heap.size, 0, none⟩ u).setCell ⟨w.heap.size, 1, none⟩ v) q a len cap f m) := fun u v =>
    ⟨⟨m', hm', G.out.1.grown (grown_two w1 w.heap.size u v) (by simp; omega) (fun b off h0 e => by have := HL.out b off h0 e; simp; omega)⟩, grown_newer G.out.2 (grown_two w1 w.heap.size u v) (fun b hb => by cases hb; exact Nat.le_refl _)⟩
  clear hcell hs ho
  have hv : v = 0 ∨ v = 1 ∨ v = 2 ∨ v = 3 ∨ v = 4 ∨ v = 5 := by omega
  rcases hv with rfl | rfl | rfl | rfl | rfl | rfl
  · clear v0 v1
    go_wp2
    (try simp only [Exit.inBlock, Exit.then])
    refine bodyPost_ret (v := .agg #[.int .i64 167772160, .int .i64 8]) (by simp [results, Tryd.results83, go_sem, *]; try rfl) rfl ?_
    exact ⟨_, _, rfl, by unfold Six; simp, FIN.out _ _⟩
  · clear v0 v1
    go_wp2
    (try simp only [Exit.inBlock, Exit.then])
    refine bodyPost_ret (v := .agg #[.int .i64 167772162, .int .i64 32]) (by simp [results, Tryd.results83, go_sem, *]; try rfl) rfl ?_
    exact ⟨_, _, rfl, by unfold Six; simp, FIN.out _ _⟩
  · clear v0 v1
    go_wp2
    (try simp only [Exit.inBlock, Exit.then])
    refine bodyPost_ret (v := .agg #[.int .i64 0, .int .i64 0]) (by simp [results, Tryd.results83, go_sem, *]; try rfl) rfl ?_
    exact ⟨_, _, rfl, by unfold Six; simp, FIN.out _ _⟩
  · clear v0 v1
    go_wp2
    (try simp only [Exit.inBlock, Exit.then])
    refine bodyPost_ret (v := .agg #[.int .i64 84213760, .int .i64 16]) (by simp [results, Tryd.results83, go_sem, *]; try rfl) rfl ?_
    exact ⟨_, _, rfl, by unfold Six; simp, FIN.out _ _⟩
  · clear v0 v1
    go_wp2
    (try simp only [Exit.inBlock, Exit.then])
    refine bodyPost_ret (v := .agg #[.int .i64 84215044, .int .i64 30]) (by simp [results, Tryd.results83, go_sem, *]; try rfl) rfl ?_
    exact ⟨_, _, rfl, by unfold Six; simp, FIN.out _ _⟩
  · clear v0 v1
    go_wp2
    (try simp only [Exit.inBlock, Exit.then])
    refine bodyPost_ret (v := .agg #[.int .i64 2147483648, .int .i64 1]) (by simp [results, Tryd.results83, go_sem, *]; try rfl) rfl ?_
    exact ⟨_, _, rfl, by unfold Six; simp, FIN.out _ _⟩

theorem own_litN (w : World) (B : Nat) (hB : B ≤ w.heap.size) : OwnP 47 (w.alloc (.cells #[] 47)) B (.slice (some ⟨w.heap.size, 0, none⟩) 0 0) [] := World.ownsRow_lit w #[] 0 hB (Nat.zero_le _) rfl
/-- A few of the six. -/
def FewN (n : Nat) (zs : List (Int × Int)) : Prop := zs.length ≤ n ∧ ∀ p ∈ zs, Six p
theorem FewN.put {n : Nat} {zs : List (Int × Int)} {p : Int × Int} (h : FewN n zs) (hp : Six p) : FewN (n + 1) (zs ++ [p]) := by
  refine ⟨by rw [List.length_append]; have := h.1; simp; omega, fun y hy => ?_⟩
  rw [List.mem_append, List.mem_singleton] at hy
  rcases hy with hy | rfl
  · exact h.2 y hy
  · exact hp

set_option maxHeartbeats 2000000 in
theorem netsD (w : World) (q : Nat) (a : Option Addr) (len cap : Nat) (f : Nat → Int) (m : Nat) (h : Src w q a len cap f m) (hm : m ≤ 900000000) (hq : q < w.heap.size) :
    Calls Tryd.prog 52 #[.pointer (some ⟨q, 0, none⟩)] w fun e w' => ∃ v zs, e = .returned v ∧ OwnP 47 w' w.heap.size v zs ∧ FewN 8 zs ∧ w.grownBy w' (some q) := by
  have H : Hid (Src w q a len cap f m) := h
  have HL : Hid (∀ b off, 0 < len → a = some ⟨b, off, none⟩ → b < w.heap.size) := fun b off h0 e => by
    obtain ⟨b', off', e', hc⟩ := h.bytes.2 h0
    rw [e] at e'
    cases e'
    exact World.block_lt_of_cell? w ⟨b, off + 0, none⟩ (hc 0 h0)
  clear h
  go_enter Tryd.func52, Tryd.ntmps52
  go_wp2_with fail
  refine (next_any _ q a len cap f m 6 (H.out.grown (World.grownBy_alloc w _ none) (by simp) (by simp)) (by omega) (by omega) (by omega)).mono ?_
  rintro e w1 ⟨v, m1, rfl, v0, v1, hm1, s1, o1⟩
  have L0 : OwnP 47 (w.alloc (.cells #[] 47)) w.heap.size (.slice (some ⟨w.heap.size, 0, none⟩) 0 0) [] := own_litN w _ (Nat.le_refl _)
  have L1 : OwnP 47 w1 w.heap.size (.slice (some ⟨w.heap.size, 0, none⟩) 0 0) [] := World.ownsRow.kept L0 o1.grownBy (Or.inr (by show some w.heap.size ≠ some q; intro e; cases e; omega))
  have G1 : w.grownBy w1 (some q) := grown_trans (World.grownBy_alloc w _ (some q)) o1.grownBy
  have X0 : Hid (OwnP 47 w1 w.heap.size (.slice (some ⟨w.heap.size, 0, none⟩) 0 0) [] ∧ FewN 0 [] ∧ Src w1 q a len cap f m1 ∧ w.grownBy w1 (some q)) := ⟨L1, ⟨Nat.le_refl _, by simp⟩, s1, G1⟩
  clear L0 L1 G1 s1 o1 H
  go_wp2
  go_loopw [3, 4] (fun o i wr => ∃ (k n m' : Nat) (zs : List (Int × Int)), i = .int .i64 k ∧ n + k ≤ 7 ∧ m' + 6 * k ≤ m + 50 ∧ Hid (OwnP 47 wr w.heap.size o zs ∧ FewN n zs ∧ Src wr q a len cap f m' ∧ w.grownBy wr (some q))) (fun _ i _ => (intOf i).toNat)
  case atStart => exact ⟨v.toNat, 0, m1, [], by simp; omega, by omega, by omega, X0⟩
  case round =>
    obtain ⟨k, n, m', zs, rfl, hnk, hmk, X⟩ := hrel
    by_cases hlt : 0 < k
    · have hltz : (0 : Int) < (k : Int) := by omega
      go_wp2_with fail
      refine (netD _ q a len cap f m' X.out.2.2.1 (by omega)).mono ?_
      rintro e w2 ⟨x, y, rfl, h6, D⟩
      obtain ⟨m2, hm2, hs2⟩ := D.out.1
      have o2 : OwnP 47 w2 w.heap.size _ zs := World.ownsRow.kept X.out.1 D.out.2 (Or.inr (fun e => by have := (World.ownsRow.lt X.out.1 q e).1; omega))
      have g2 : w.grownBy w2 (some q) := grown_trans X.out.2.2.2 D.out.2
      have S2 : Hid (OwnP 47 w2 w.heap.size _ zs ∧ Src w2 q a len cap f m2 ∧ w.grownBy w2 (some q) ∧ Six (x, y)) := ⟨o2, hs2, g2, h6⟩
      clear o2 g2 hs2 D h6
      have XA : Hid (∀ o, OwnP 47 (w2.alloc o) w.heap.size u3 zs ∧ w.heap.size ≤ (w2.alloc o).heap.size) := fun o => ⟨S2.out.1.now ((Below.refl _ _).alloc (Nat.le_refl _) o), by have := S2.out.2.2.1.size; simp; omega⟩
      have hz5 : zs.length ≤ 5000 := by have := X.out.2.1.1; omega
      go_wp2_with (at_builtin; refine wpl_net _ rfl (.tmp 12) (.tmp 15) rfl w.heap.size u3 zs rfl (XA.out _).1 w2.heap.size 1 x y rfl (by simp) (by simp) hz5 (XA.out _).2 ?_; intro v' w3 Y)
      have Z : Hid (OwnP 47 w3 w.heap.size v' (zs ++ [(x, y)]) ∧ FewN (n + 1) (zs ++ [(x, y)]) ∧ Src w3 q a len cap f m2 ∧ w.grownBy w3 (some q)) := by
        have ga := World.grownBy_alloc w2 (.cells #[.int .i64 x, .int .i64 y] 47)
        have hnq : ∀ b, u3.ownBlock = some b → w.heap.size ≤ b := fun b hb => (World.ownsRow.lt X.out.1 b hb).1
        refine ⟨Y.out.1, X.out.2.1.put S2.out.2.2.2, (S2.out.2.1.grown (ga none) (by simp) (by simp)).grown Y.out.2.2 (fun e => by have := hnq q e.symm; omega) (fun b off h0 e e2 => ?_), grown_newer (grown_trans S2.out.2.2.1 (ga (some q))) Y.out.2.2 hnq⟩
        have := hnq b e2.symm
        have := HL.out b off h0 e
        omega
      clear X S2 XA Y
      go_wp2
      go_roundw
      case rel => exact ⟨k - 1, n + 1, m2, _, by go_num, by omega, by omega, Z⟩
      case measure => simp [intOf]; omega
    · obtain rfl : k = 0 := by omega
      go_wp2
      go_ret
      exact ⟨_, zs, rfl, X.out.1, ⟨by have := X.out.2.1.1; omega, X.out.2.1.2⟩, X.out.2.2.2⟩

theorem NetsOf_any (w : World) (a : Option Addr) (len cap : Nat) (f : Nat → Int) (h : Bytes w a len f) (hl : len ≤ 1048576) (hlt : ∀ b off, 0 < len → a = some ⟨b, off, none⟩ → b < w.heap.size) :
    Calls Tryd.prog 16 #[.slice a len cap] w fun e w' => ∃ v zs, e = .returned v ∧ OwnP 47 w' w.heap.size v zs ∧ FewN 8 zs ∧ Below w.heap.size w w' := by
  have HB : Hid (Bytes w a len f) := h
  have HL : Hid (∀ b off, 0 < len → a = some ⟨b, off, none⟩ → b < w.heap.size) := hlt
  clear h hlt
  go_enter Tryd.func16, Tryd.ntmps16
  go_wp2_with fail
  refine (l00Source_any w a len cap f HB.out hl HL.out).mono ?_
  rintro e w1 ⟨rfl, hs, hg, hz⟩
  have X : Hid (Src w1 w.heap.size a len cap f 0 ∧ w.grownBy w1 none ∧ w1.heap.size = w.heap.size + 1) := ⟨hs, hg, hz⟩
  clear hs hg hz
  go_wp2_with fail
  refine (netsD w1 w.heap.size a len cap f 0 X.out.1 (by omega) (by have := X.out.2.2; omega)).mono ?_
  rintro e w2 ⟨v, zs, rfl, o2, hf, hg2⟩
  have B2 : Hid (Below w.heap.size w w2) := ((Below.refl w.heap.size w).grown X.out.2.1 (Nat.le_refl _) (by simp)).grown hg2 (by have := X.out.2.2; omega) (by intro k hk; cases hk; exact Nat.le_refl _)
  have Y : Hid (OwnP 47 w2 w.heap.size v zs ∧ FewN 8 zs) := ⟨o2.lower (by have := X.out.2.2; omega), hf⟩
  clear o2 hf hg2
  go_wp2
  go_ret
  exact ⟨v, zs, rfl, Y.out.1, Y.out.2, B2.out⟩
end Go.Proofs.YtbbjelkicenbhaaDoor
