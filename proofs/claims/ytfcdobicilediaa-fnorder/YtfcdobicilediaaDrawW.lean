/- Drawn words: a few right ones. -/
import Derived.Test.YtfcdobicilediaaWordO
import Derived.Test.YtfcdobicilediaaPairs2
import Derived.Test.YtfcdobicilediaaDraws
import Derived.Test.YtfcdobicilediaaGrw
namespace Go.Proofs.Ytfcdobicilediaa
open Go.RowKit Go.PlainAid Go.Sort Go.Proofs.Ytfcdobicilediaa.Fo
set_option linter.unusedVariables false
set_option maxRecDepth 20000

/-- The source behind some draws, and all else as it was. -/
def DrawnW (k : Nat) (w w' : World) (q : Nat) (a : Option Addr) (len cap : Nat) (f : Nat → Int) (m : Nat) : Prop := (∃ m', m' ≤ m + k ∧ Src w' q a len cap f m') ∧ w.grownBy w' (some q)
theorem wordInfo : (Try.prog.info? 48).map (fun i => (i.zero, i.size, i.bytes)) = some (some (.agg #[.int .i64 0, .int .i64 0]), 2, 16) := by kernel_rfl
/-- 'append(row, x)' of a pair: what it leaves. -/
theorem append_word {w w' : World} {B : Nat} {v : Value} {L : List (Int × Int)} {x y : Int} (h : OwnP 48 w B v L) (hB : B ≤ w.heap.size) {v' : Value}
    (h1 : w'.ownsRow B 48 2 v' (L.length + 1) (flat L ++ [.int .i64 x, .int .i64 y])) (h2 : w.grownBy w' v.ownBlock) : OwnP 48 w' B v' (L ++ [(x, y)]) ∧ Below B w w' := by
  refine ⟨?_, (Below.refl B w).grown h2 hB (fun k hk => (World.ownsRow.lt h k hk).1)⟩
  unfold OwnP
  rw [flat_append, List.length_append]
  exact h1

/-- 'append(left, t)'. -/
theorem wpl_word (w : World) {ops : Array Oper} {rest : List Oper} {o : Oper} {a : Act} {Q : Exit → Act → World → Prop} (hgd : o.guard = none) (s x : Operand)
    (ho : o.op = .call { callee := .builtin .append, args := #[s, x], argTypes := #[41, 41] })
    (B : Nat) (v : Value) (L : List (Int × Int)) (hs : a.eval s = v) (hown : OwnP 48 w B v L)
    (g c : Nat) (p q : Int) (hx : a.eval x = .slice (some ⟨g, 0, none⟩) 1 c) (h0 : w.cell? ⟨g, 0, none⟩ = some (.int .i64 p)) (h1 : w.cell? ⟨g, 1, none⟩ = some (.int .i64 q))
    (hlen : L.length ≤ 5000) (hB : B ≤ w.heap.size)
    (h : ∀ v' w', Hid (OwnP 48 w' B v' (L ++ [(p, q)]) ∧ Below B w w' ∧ w.grownBy w' v.ownBlock) → wpList Try.prog ops Q rest (a.put o.dst v') w') : wpList Try.prog ops Q (o :: rest) a w := by
  obtain ⟨i0, hi, hz0, hz1, hz2⟩ := info_parts wordInfo
  refine wpList_append_own w hgd s x 41 ho B 48 i0 (.agg #[.int .i64 0, .int .i64 0]) 2 16 Try.underlying41 hi hz0 hz1 hz2 rfl (by decide) v L.length (flat L) hs hown ⟨g, 0, none⟩ 1 c [.int .i64 p, .int .i64 q] hx rfl ?_
    (fun u hu => by simp at hu; rcases hu with rfl | rfl <;> rfl) (by unfold maxLen; omega) (by omega) hB ?_
  · intro j u hu
    rw [add_none]
    match j, hu with
    | 0, hu => cases hu; exact h0
    | 1, hu => cases hu; exact h1
  · intro v' w' h2 h3 _
    exact h v' w' ⟨(append_word hown hB h2 h3).1, (append_word hown hB h2 h3).2, h3⟩

theorem grown_twoW (w1 : World) (b : Nat) (u v : Value) : w1.grownBy ((w1.setCell ⟨b, 0, none⟩ u).setCell ⟨b, 1, none⟩ v) (some b) :=
  ⟨rfl, rfl, rfl, by simp, fun k hk hne => by
    have hk2 : k ≠ b := fun e => hne (by rw [e])
    rw [Below.heap_setCell _ _ _ _ (by exact hk2), Below.heap_setCell _ _ _ _ (by exact hk2)]⟩


set_option maxHeartbeats 2000000 in
theorem bitsD (w : World) (q : Nat) (a : Option Addr) (len cap : Nat) (f : Nat → Int) (m : Nat) (h : Src w q a len cap f m) (hm : m ≤ 900000000) :
    Calls Try.prog 79 #[.pointer (some ⟨q, 0, none⟩)] w fun e w' => ∃ x y : Int, e = .returned (.agg #[.int .i64 x, .int .i64 y]) ∧ okW x y ∧ Hid (DrawnW 9 w w' q a len cap f m) := by
  have lq : q < w.heap.size := World.block_lt_of_cell? w _ h.code
  have hbl : ∀ b off, 0 < len → a = some ⟨b, off, none⟩ → b < w.heap.size := fun b off h0 e => by
    obtain ⟨b', off', e', hc⟩ := h.bytes.2 h0
    rw [e] at e'
    cases e'
    exact World.block_lt_of_cell? w ⟨b, off + 0, none⟩ (hc 0 h0)
  have HH : Hid (Src w q a len cap f m) := h
  have HL : Hid (∀ b off, 0 < len → a = some ⟨b, off, none⟩ → b < w.heap.size) := hbl
  clear h hbl
  obtain ⟨W, hW⟩ : ∃ W, W = w.alloc (.cells #[.int .i64 0, .int .i64 0] 48) := ⟨_, rfl⟩
  have zW : Hid (W.heap.size = w.heap.size + 1) := by rw [hW]; show _ = _; simp
  have k0 : W.cell? ⟨w.heap.size, 0, none⟩ = some (.int .i64 0) := by rw [hW]; simp
  have k1 : W.cell? ⟨w.heap.size, 1, none⟩ = some (.int .i64 0) := by rw [hW]; simp
  have kf : ∀ i, W.frozen? ⟨w.heap.size, i, none⟩ = false := fun i => by rw [hW]; simp
  have gW : w.grownBy W none := by rw [hW]; exact World.grownBy_alloc w _ none
  have gWq : w.grownBy W (some q) := by rw [hW]; exact World.grownBy_alloc w _ (some q)
  have SW : Hid (Src W q a len cap f m ∧ w.grownBy W (some q)) := ⟨HH.out.grown gW (by simp) (by simp), gWq⟩
  clear gW gWq
  have KB : Hid (W.cell? ⟨w.heap.size, 0, none⟩ = some (.int .i64 0) ∧ W.cell? ⟨w.heap.size, 1, none⟩ = some (.int .i64 0) ∧ ∀ i, W.frozen? ⟨w.heap.size, i, none⟩ = false) := ⟨k0, k1, kf⟩
  clear k0 k1 kf
  go_enter Try.func79, Try.ntmps79
  go_wp2_with fail
  rw [← hW]
  clear hW
  refine (next_any _ q a len cap f m 4096 SW.out.1 (by omega) (by omega) (by omega)).mono ?_
  rintro e wa ⟨v, ma, rfl, v0, v1, hma, hsa, hoa⟩
  have hbW : w.heap.size < W.heap.size := by have := zW.out; omega
  have hqW : q < W.heap.size := by omega
  have GA : Hid (Src wa q a len cap f ma ∧ w.grownBy wa (some q)) := ⟨hsa, grown_trans SW.out.2 hoa.grownBy⟩
  have za : W.heap.size ≤ wa.heap.size := hoa.grownBy.size
  have KA : Hid (wa.cell? ⟨w.heap.size, 0, none⟩ = some (.int .i64 0) ∧ wa.cell? ⟨w.heap.size, 1, none⟩ = some (.int .i64 0) ∧ ∀ i, wa.frozen? ⟨w.heap.size, i, none⟩ = false) := ⟨by rw [hoa.cell (p := ⟨w.heap.size, 0, none⟩) (by show w.heap.size ≠ q; omega)]; exact KB.out.1, by rw [hoa.cell (p := ⟨w.heap.size, 1, none⟩) (by show w.heap.size ≠ q; omega)]; exact KB.out.2.1, fun i => by
    have h2 : wa.heap[w.heap.size]? = W.heap[w.heap.size]? := hoa.block w.heap.size (by omega)
    rw [World.frozen?_of_block (a := ⟨w.heap.size, i, none⟩) h2]; exact KB.out.2.2 i⟩
  clear hsa hoa KB
  go_wp2_with fail
  refine (next_any _ q a len cap f ma 3 GA.out.1 (by omega) (by omega) (by omega)).mono ?_
  rintro e wb ⟨u, mb, rfl, u0, u1, hmb, hsb, hob⟩
  have GB : Hid (Src wb q a len cap f mb ∧ w.grownBy wb (some q)) := ⟨hsb, grown_trans GA.out.2 hob.grownBy⟩
  have zb : wa.heap.size ≤ wb.heap.size := hob.grownBy.size
  have KB : Hid (wb.cell? ⟨w.heap.size, 0, none⟩ = some (.int .i64 0) ∧ wb.cell? ⟨w.heap.size, 1, none⟩ = some (.int .i64 0) ∧ ∀ i, wb.frozen? ⟨w.heap.size, i, none⟩ = false) := ⟨by rw [hob.cell (p := ⟨w.heap.size, 0, none⟩) (by show w.heap.size ≠ q; omega)]; exact KA.out.1, by rw [hob.cell (p := ⟨w.heap.size, 1, none⟩) (by show w.heap.size ≠ q; omega)]; exact KA.out.2.1, fun i => by
    have h2 : wb.heap[w.heap.size]? = wa.heap[w.heap.size]? := hob.block w.heap.size (by omega)
    rw [World.frozen?_of_block (a := ⟨w.heap.size, i, none⟩) h2]; exact KA.out.2.2 i⟩
  clear hsb hob KA
  go_wp2_with fail
  refine (next_any _ q a len cap f mb 14 (GB.out.1.grown (World.grownBy_alloc wb _ none) (by simp) (by simp)) (by omega) (by omega) (by omega)).mono ?_
  rintro e w1 ⟨z, m', rfl, y0, y1, hm', hs, ho⟩
  have G : Hid (Src w1 q a len cap f m' ∧ w.grownBy w1 (some q)) := ⟨hs, grown_trans GB.out.2 (grown_trans (World.grownBy_alloc wb _ (some q)) ho.grownBy)⟩
  have hbb : w.heap.size < wb.heap.size := by omega
  have b0 : w1.cell? ⟨w.heap.size, 0, none⟩ = some (.int .i64 0) := by rw [ho.cell (p := ⟨w.heap.size, 0, none⟩) (by show w.heap.size ≠ q; omega), World.cell?_alloc_lt _ _ _ (by exact hbb)]; exact KB.out.1
  have b1 : w1.cell? ⟨w.heap.size, 1, none⟩ = some (.int .i64 0) := by rw [ho.cell (p := ⟨w.heap.size, 1, none⟩) (by show w.heap.size ≠ q; omega), World.cell?_alloc_lt _ _ _ (by exact hbb)]; exact KB.out.2.1
  have bf : ∀ i, w1.frozen? ⟨w.heap.size, i, none⟩ = false := fun i => by
    have h2 : w1.heap[w.heap.size]? = wb.heap[w.heap.size]? := by
      rw [ho.block w.heap.size (by omega)]
      exact Array.getElem?_push_lt hbb |>.trans (Array.getElem?_eq_getElem hbb).symm
    rw [World.frozen?_of_block (a := ⟨w.heap.size, i, none⟩) h2]; exact KB.out.2.2 i
  have hcell := lit_cells [.int .i64 0, .int .i64 0, .int .i64 2147483648, .int .i64 0, .int .i64 2146435072, .int .i64 0, .int .i64 4293918720, .int .i64 0, .int .i64 2146959360, .int .i64 0, .int .i64 4293918720, .int .i64 1, .int .i64 1072693248, .int .i64 0, .int .i64 3220176896, .int .i64 0, .int .i64 1083129856, .int .i64 0, .int .i64 1083129855, .int .i64 4294967295, .int .i64 0, .int .i64 1, .int .i64 2146435071, .int .i64 4294967295, .int .i64 4293918719, .int .i64 4294967295, .int .i64 (v * 1048576), .int .i64 u] 48 (show q < wb.heap.size by omega) ho
  have c0 := hcell.at 0 _ rfl
  have c1 := hcell.at 1 _ rfl
  have c2 := hcell.at 2 _ rfl
  have c3 := hcell.at 3 _ rfl
  have c4 := hcell.at 4 _ rfl
  have c5 := hcell.at 5 _ rfl
  have c6 := hcell.at 6 _ rfl
  have c7 := hcell.at 7 _ rfl
  have c8 := hcell.at 8 _ rfl
  have c9 := hcell.at 9 _ rfl
  have c10 := hcell.at 10 _ rfl
  have c11 := hcell.at 11 _ rfl
  have c12 := hcell.at 12 _ rfl
  have c13 := hcell.at 13 _ rfl
  have c14 := hcell.at 14 _ rfl
  have c15 := hcell.at 15 _ rfl
  have c16 := hcell.at 16 _ rfl
  have c17 := hcell.at 17 _ rfl
  have c18 := hcell.at 18 _ rfl
  have c19 := hcell.at 19 _ rfl
  have c20 := hcell.at 20 _ rfl
  have c21 := hcell.at 21 _ rfl
  have c22 := hcell.at 22 _ rfl
  have c23 := hcell.at 23 _ rfl
  have c24 := hcell.at 24 _ rfl
  have c25 := hcell.at 25 _ rfl
  have c26 := hcell.at 26 _ rfl
  have c27 := hcell.at 27 _ rfl
  have FIN : Hid (∀ u v, DrawnW 9 w ((w1.setCell ⟨w.heap.size, 0, none⟩ u).setCell ⟨w.heap.size, 1, none⟩ v) q a len cap f m) := fun u v =>
    ⟨⟨m', by omega, G.out.1.grown (grown_twoW w1 w.heap.size u v) (by simp; omega) (fun b off h0 e => by have := HL.out b off h0 e; simp; omega)⟩, grown_newer G.out.2 (grown_twoW w1 w.heap.size u v) (fun b hb => by cases hb; exact Nat.le_refl _)⟩
  clear hcell hs ho
  have hv : z = 0 ∨ z = 1 ∨ z = 2 ∨ z = 3 ∨ z = 4 ∨ z = 5 ∨ z = 6 ∨ z = 7 ∨ z = 8 ∨ z = 9 ∨ z = 10 ∨ z = 11 ∨ z = 12 ∨ z = 13 := by omega
  rcases hv with rfl | rfl | rfl | rfl | rfl | rfl | rfl | rfl | rfl | rfl | rfl | rfl | rfl | rfl
  · clear y0 y1
    go_wp2
    (try simp only [Exit.inBlock, Exit.then])
    refine bodyPost_ret (v := .agg #[.int .i64 0, .int .i64 0]) (by simp [results, Try.results79, go_sem, *]; try rfl) rfl ?_
    exact ⟨_, _, rfl, by unfold okW; omega, FIN.out _ _⟩
  · clear y0 y1
    go_wp2
    (try simp only [Exit.inBlock, Exit.then])
    refine bodyPost_ret (v := .agg #[.int .i64 2147483648, .int .i64 0]) (by simp [results, Try.results79, go_sem, *]; try rfl) rfl ?_
    exact ⟨_, _, rfl, by unfold okW; omega, FIN.out _ _⟩
  · clear y0 y1
    go_wp2
    (try simp only [Exit.inBlock, Exit.then])
    refine bodyPost_ret (v := .agg #[.int .i64 2146435072, .int .i64 0]) (by simp [results, Try.results79, go_sem, *]; try rfl) rfl ?_
    exact ⟨_, _, rfl, by unfold okW; omega, FIN.out _ _⟩
  · clear y0 y1
    go_wp2
    (try simp only [Exit.inBlock, Exit.then])
    refine bodyPost_ret (v := .agg #[.int .i64 4293918720, .int .i64 0]) (by simp [results, Try.results79, go_sem, *]; try rfl) rfl ?_
    exact ⟨_, _, rfl, by unfold okW; omega, FIN.out _ _⟩
  · clear y0 y1
    go_wp2
    (try simp only [Exit.inBlock, Exit.then])
    refine bodyPost_ret (v := .agg #[.int .i64 2146959360, .int .i64 0]) (by simp [results, Try.results79, go_sem, *]; try rfl) rfl ?_
    exact ⟨_, _, rfl, by unfold okW; omega, FIN.out _ _⟩
  · clear y0 y1
    go_wp2
    (try simp only [Exit.inBlock, Exit.then])
    refine bodyPost_ret (v := .agg #[.int .i64 4293918720, .int .i64 1]) (by simp [results, Try.results79, go_sem, *]; try rfl) rfl ?_
    exact ⟨_, _, rfl, by unfold okW; omega, FIN.out _ _⟩
  · clear y0 y1
    go_wp2
    (try simp only [Exit.inBlock, Exit.then])
    refine bodyPost_ret (v := .agg #[.int .i64 1072693248, .int .i64 0]) (by simp [results, Try.results79, go_sem, *]; try rfl) rfl ?_
    exact ⟨_, _, rfl, by unfold okW; omega, FIN.out _ _⟩
  · clear y0 y1
    go_wp2
    (try simp only [Exit.inBlock, Exit.then])
    refine bodyPost_ret (v := .agg #[.int .i64 3220176896, .int .i64 0]) (by simp [results, Try.results79, go_sem, *]; try rfl) rfl ?_
    exact ⟨_, _, rfl, by unfold okW; omega, FIN.out _ _⟩
  · clear y0 y1
    go_wp2
    (try simp only [Exit.inBlock, Exit.then])
    refine bodyPost_ret (v := .agg #[.int .i64 1083129856, .int .i64 0]) (by simp [results, Try.results79, go_sem, *]; try rfl) rfl ?_
    exact ⟨_, _, rfl, by unfold okW; omega, FIN.out _ _⟩
  · clear y0 y1
    go_wp2
    (try simp only [Exit.inBlock, Exit.then])
    refine bodyPost_ret (v := .agg #[.int .i64 1083129855, .int .i64 4294967295]) (by simp [results, Try.results79, go_sem, *]; try rfl) rfl ?_
    exact ⟨_, _, rfl, by unfold okW; omega, FIN.out _ _⟩
  · clear y0 y1
    go_wp2
    (try simp only [Exit.inBlock, Exit.then])
    refine bodyPost_ret (v := .agg #[.int .i64 0, .int .i64 1]) (by simp [results, Try.results79, go_sem, *]; try rfl) rfl ?_
    exact ⟨_, _, rfl, by unfold okW; omega, FIN.out _ _⟩
  · clear y0 y1
    go_wp2
    (try simp only [Exit.inBlock, Exit.then])
    refine bodyPost_ret (v := .agg #[.int .i64 2146435071, .int .i64 4294967295]) (by simp [results, Try.results79, go_sem, *]; try rfl) rfl ?_
    exact ⟨_, _, rfl, by unfold okW; omega, FIN.out _ _⟩
  · clear y0 y1
    go_wp2
    (try simp only [Exit.inBlock, Exit.then])
    refine bodyPost_ret (v := .agg #[.int .i64 4293918719, .int .i64 4294967295]) (by simp [results, Try.results79, go_sem, *]; try rfl) rfl ?_
    exact ⟨_, _, rfl, by unfold okW; omega, FIN.out _ _⟩
  · clear y0 y1
    go_wp2
    (try simp only [Exit.inBlock, Exit.then])
    refine bodyPost_ret (v := .agg #[.int .i64 (v * 1048576), .int .i64 u]) (by simp [results, Try.results79, go_sem, *]; try rfl) rfl ?_
    exact ⟨_, _, rfl, by unfold okW; omega, FIN.out _ _⟩
theorem own_litW (w : World) (B : Nat) (hB : B ≤ w.heap.size) : OwnP 48 (w.alloc (.cells #[] 48)) B (.slice (some ⟨w.heap.size, 0, none⟩) 0 0) [] := World.ownsRow_lit w #[] 0 hB (Nat.zero_le _) rfl
/-- A few right words. -/
def FewW (n : Nat) (zs : List (Int × Int)) : Prop := zs.length ≤ n ∧ ∀ p ∈ zs, okW p.1 p.2
theorem FewW.put {n : Nat} {zs : List (Int × Int)} {p : Int × Int} (h : FewW n zs) (hp : okW p.1 p.2) : FewW (n + 1) (zs ++ [p]) := by
  refine ⟨by rw [List.length_append]; have := h.1; simp; omega, fun y hy => ?_⟩
  rw [List.mem_append, List.mem_singleton] at hy
  rcases hy with hy | rfl
  · exact h.2 y hy
  · exact hp

set_option maxHeartbeats 2000000 in
theorem wordsD (w : World) (q : Nat) (a : Option Addr) (len cap : Nat) (f : Nat → Int) (m : Nat) (h : Src w q a len cap f m) (hm : m ≤ 800000000) (hq : q < w.heap.size) :
    Calls Try.prog 52 #[.pointer (some ⟨q, 0, none⟩)] w fun e w' => ∃ v zs, e = .returned v ∧ OwnP 48 w' w.heap.size v zs ∧ FewW 8 zs ∧ w.grownBy w' (some q) := by
  have H : Hid (Src w q a len cap f m) := h
  have HL : Hid (∀ b off, 0 < len → a = some ⟨b, off, none⟩ → b < w.heap.size) := fun b off h0 e => by
    obtain ⟨b', off', e', hc⟩ := h.bytes.2 h0
    rw [e] at e'
    cases e'
    exact World.block_lt_of_cell? w ⟨b, off + 0, none⟩ (hc 0 h0)
  clear h
  go_enter Try.func52, Try.ntmps52
  go_wp2_with fail
  refine (next_any _ q a len cap f m 7 (H.out.grown (World.grownBy_alloc w _ none) (by simp) (by simp)) (by omega) (by omega) (by omega)).mono ?_
  rintro e w1 ⟨v, m1, rfl, v0, v1, hm1, s1, o1⟩
  have L0 : OwnP 48 (w.alloc (.cells #[] 48)) w.heap.size (.slice (some ⟨w.heap.size, 0, none⟩) 0 0) [] := own_litW w _ (Nat.le_refl _)
  have L1 : OwnP 48 w1 w.heap.size (.slice (some ⟨w.heap.size, 0, none⟩) 0 0) [] := World.ownsRow.kept L0 o1.grownBy (Or.inr (by show some w.heap.size ≠ some q; intro e; cases e; omega))
  have G1 : w.grownBy w1 (some q) := grown_trans (World.grownBy_alloc w _ (some q)) o1.grownBy
  have X0 : Hid (OwnP 48 w1 w.heap.size (.slice (some ⟨w.heap.size, 0, none⟩) 0 0) [] ∧ FewW 0 [] ∧ Src w1 q a len cap f m1 ∧ w.grownBy w1 (some q)) := ⟨L1, ⟨Nat.le_refl _, by simp⟩, s1, G1⟩
  clear L0 L1 G1 s1 o1 H
  go_wp2
  go_loopw [3, 4] (fun o i wr => ∃ (k n m' : Nat) (zs : List (Int × Int)), i = .int .i64 k ∧ n + k ≤ 7 ∧ m' + 12 * k ≤ m + 100 ∧ Hid (OwnP 48 wr w.heap.size o zs ∧ FewW n zs ∧ Src wr q a len cap f m' ∧ w.grownBy wr (some q))) (fun _ i _ => (intOf i).toNat)
  case atStart => exact ⟨v.toNat, 0, m1, [], by simp; omega, by omega, by omega, X0⟩
  case round =>
    obtain ⟨k, n, m', zs, rfl, hnk, hmk, X⟩ := hrel
    by_cases hlt : 0 < k
    · have hltz : (0 : Int) < (k : Int) := by omega
      go_wp2_with fail
      refine (bitsD _ q a len cap f m' X.out.2.2.1 (by omega)).mono ?_
      rintro e w2 ⟨x, y, rfl, h6, D⟩
      obtain ⟨m2, hm2, hs2⟩ := D.out.1
      have o2 : OwnP 48 w2 w.heap.size _ zs := World.ownsRow.kept X.out.1 D.out.2 (Or.inr (fun e => by have := (World.ownsRow.lt X.out.1 q e).1; omega))
      have g2 : w.grownBy w2 (some q) := grown_trans X.out.2.2.2 D.out.2
      have S2 : Hid (OwnP 48 w2 w.heap.size _ zs ∧ Src w2 q a len cap f m2 ∧ w.grownBy w2 (some q) ∧ okW x y) := ⟨o2, hs2, g2, h6⟩
      clear o2 g2 hs2 D h6
      have XA : Hid (∀ o, OwnP 48 (w2.alloc o) w.heap.size u3 zs ∧ w.heap.size ≤ (w2.alloc o).heap.size) := fun o => ⟨S2.out.1.now ((Below.refl _ _).alloc (Nat.le_refl _) o), by have := S2.out.2.2.1.size; simp; omega⟩
      have hz5 : zs.length ≤ 5000 := by have := X.out.2.1.1; omega
      go_wp2_with (at_builtin; refine wpl_word _ rfl (.tmp 12) (.tmp 15) rfl w.heap.size u3 zs rfl (XA.out _).1 w2.heap.size 1 x y rfl (by simp) (by simp) hz5 (XA.out _).2 ?_; intro v' w3 Y)
      have Z : Hid (OwnP 48 w3 w.heap.size v' (zs ++ [(x, y)]) ∧ FewW (n + 1) (zs ++ [(x, y)]) ∧ Src w3 q a len cap f m2 ∧ w.grownBy w3 (some q)) := by
        have ga := World.grownBy_alloc w2 (.cells #[.int .i64 x, .int .i64 y] 48)
        have hnq : ∀ b, u3.ownBlock = some b → w.heap.size ≤ b := fun b hb => (World.ownsRow.lt X.out.1 b hb).1
        refine ⟨Y.out.1, X.out.2.1.put S2.out.2.2.2, (S2.out.2.1.grown (ga none) (by simp) (by simp)).grown Y.out.2.2 (fun e => by have := hnq q e.symm; omega) (fun b off h0 e e2 => ?_), grown_newer (grown_trans S2.out.2.2.1 (ga (some q))) Y.out.2.2 hnq⟩
        have := hnq b e2.symm
        have := HL.out b off h0 e
        omega
      clear X S2 XA Y
      go_wp2
      go_roundw
      case rel => exact ⟨k - 1, n + 1, m2, _, by go_num, by omega, by omega, Z⟩
      case measure => simp [intOf]; omega
    · obtain rfl : k = 0 := by omega
      go_wp2
      go_ret
      exact ⟨_, zs, rfl, X.out.1, ⟨by have := X.out.2.1.1; omega, X.out.2.1.2⟩, X.out.2.2.2⟩

theorem WordsOf_any (w : World) (a : Option Addr) (len cap : Nat) (f : Nat → Int) (h : Bytes w a len f) (hl : len ≤ 1048576) (hlt : ∀ b off, 0 < len → a = some ⟨b, off, none⟩ → b < w.heap.size) :
    Calls Try.prog 18 #[.slice a len cap] w fun e w' => ∃ v zs, e = .returned v ∧ OwnP 48 w' w.heap.size v zs ∧ FewW 8 zs ∧ Below w.heap.size w w' := by
  have HB : Hid (Bytes w a len f) := h
  have HL : Hid (∀ b off, 0 < len → a = some ⟨b, off, none⟩ → b < w.heap.size) := hlt
  clear h hlt
  go_enter Try.func18, Try.ntmps18
  go_wp2_with fail
  refine (l00Source_any w a len cap f HB.out hl HL.out).mono ?_
  rintro e w1 ⟨rfl, hs, hg, hz⟩
  have X : Hid (Src w1 w.heap.size a len cap f 0 ∧ w.grownBy w1 none ∧ w1.heap.size = w.heap.size + 1) := ⟨hs, hg, hz⟩
  clear hs hg hz
  go_wp2_with fail
  refine (wordsD w1 w.heap.size a len cap f 0 X.out.1 (by omega) (by have := X.out.2.2; omega)).mono ?_
  rintro e w2 ⟨v, zs, rfl, o2, hf, hg2⟩
  have B2 : Hid (Below w.heap.size w w2) := ((Below.refl w.heap.size w).grown X.out.2.1 (Nat.le_refl _) (by simp)).grown hg2 (by have := X.out.2.2; omega) (by intro k hk; cases hk; exact Nat.le_refl _)
  have Y : Hid (OwnP 48 w2 w.heap.size v zs ∧ FewW 8 zs) := ⟨o2.lower (by have := X.out.2.2; omega), hf⟩
  clear o2 hf hg2
  go_wp2
  go_ret
  exact ⟨v, zs, rfl, Y.out.1, Y.out.2, B2.out⟩
end Go.Proofs.Ytfcdobicilediaa
