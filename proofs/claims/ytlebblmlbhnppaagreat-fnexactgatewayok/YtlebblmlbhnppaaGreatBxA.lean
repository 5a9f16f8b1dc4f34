/- Boxes of any struct: a struct in a block, read and written whole. Nothing of the program is used. -/
import Derived.Test.YtlebblmlbhnppaaGreatKeeps
import Derived.Test.YtlebblmlbhnppaaGreatRws
import Derived.Deep.MidRow
import Derived.WalkKit
namespace Go.Proofs.YtlebblmlbhnppaaGreat
open Go.RowKit Go.PlainAid Go.Sort
set_option linter.unusedVariables false
set_option maxRecDepth 20000
theorem grown_set (w : World) (a : Addr) (u : Value) : w.grownBy (w.setCell a u) (some a.block) :=
  ⟨rfl, rfl, rfl, by simp [World.setCell], fun k _ hk => Below.heap_setCell _ _ _ _ (fun e => hk (by rw [e]))⟩
/-- A box: its cells, and they may be written. -/
structure Bx (w : World) (q : Nat) (cs : List Value) : Prop where
  cl : w.rangeAt q 0 cs
  th : w.there q 0 cs.length
theorem Bx.cell {w : World} {q : Nat} {cs : List Value} (h : Bx w q cs) (j : Nat) {v : Value} (hj : cs[j]? = some v) : w.cell? ⟨q, j, none⟩ = some v := by
  have := h.cl j v hj
  rwa [Nat.zero_add] at this
theorem Bx.thaw {w : World} {q : Nat} {cs : List Value} (h : Bx w q cs) (j : Nat) (hj : j < cs.length) : w.frozen? ⟨q, j, none⟩ = false := by
  have := (h.th j hj).2
  rwa [Nat.zero_add] at this
theorem Bx.of {w : World} {q : Nat} {cs : List Value} (hc : ∀ j v, cs[j]? = some v → w.cell? ⟨q, j, none⟩ = some v) (hf : ∀ j, j < cs.length → w.frozen? ⟨q, j, none⟩ = false) : Bx w q cs :=
  ⟨fun j v hv => by rw [Nat.zero_add]; exact hc j v hv, fun j hj => by rw [Nat.zero_add]; exact ⟨by rw [hc j _ (List.getElem?_eq_getElem hj)]; rfl, hf j hj⟩⟩
theorem Bx.below {w w' : World} {q : Nat} {cs : List Value} (h : Bx w q cs) (hb : Below w.heap.size w w') : Bx w' q cs :=
  Bx.of (fun j v hv => bkeep hb (h.cell j hv)) (fun j hj => bthaw hb (h.cell j (List.getElem?_eq_getElem hj)) (h.thaw j hj))
theorem Bx.put {w : World} {q : Nat} {cs : List Value} (h : Bx w q cs) (vs : List Value) (hl : vs.length = cs.length) : Bx (w.setCells q 0 vs) q vs :=
  ⟨w.rangeAt_setCells_same q 0 vs (by rw [hl]; exact h.th), fun j hj => ⟨World.isSome_setCells q vs 0 w _ (h.th j (by omega)).1, by rw [World.frozen?_setCells]; exact (h.th j (by omega)).2⟩⟩
theorem Bx.apart {w : World} {q p : Nat} {cs : List Value} (h : Bx w q cs) (vs : List Value) (hne : q ≠ p) : Bx (w.setCells p 0 vs) q cs :=
  ⟨World.rangeAt_setCells_apart h.cl p 0 vs (.inl hne), fun j hj => ⟨World.isSome_setCells p vs 0 w _ (h.th j hj).1, by rw [World.frozen?_setCells]; exact (h.th j hj).2⟩⟩
theorem below_cells {n : Nat} {w : World} {q : Nat} (hq : n ≤ q) : ∀ (vs : List Value) (o : Nat) (W : World), Below n w W → Below n w (W.setCells q o vs)
  | [], _, _, h => h
  | v :: r, o, W, h => by
    rw [World.setCells]
    exact below_cells hq r (o + 1) _ (h.setCell hq v)
theorem Bx.field {w : World} {q : Nat} {cs : List Value} (h : Bx w q cs) (j : Nat) (v : Value) : Bx (w.setCell ⟨q, j, none⟩ v) q (cs.set j v) := by
  refine Bx.of (fun i u hu => ?_) (fun i hi => ?_)
  · by_cases e : i = j
    · subst e
      have hi : i < cs.length := by have := (List.getElem?_eq_some_iff.1 hu).1; simpa using this
      rw [List.getElem?_set_self hi] at hu
      cases hu
      exact World.cell?_setCell_same _ _ _ (h.cell i (List.getElem?_eq_getElem hi))
    · rw [List.getElem?_set_ne (fun h => e h.symm)] at hu
      rw [World.cell?_setCell_other _ _ _ _ (fun h => e (by cases h; rfl))]
      exact h.cell i hu
  · rw [List.length_set] at hi
    rw [World.frozen?_setCell]
    exact h.thaw i hi
theorem Bx.far {w : World} {q : Nat} {cs : List Value} (h : Bx w q cs) (a : Addr) (v : Value) (hne : a.block ≠ q) : Bx (w.setCell a v) q cs :=
  Bx.of (fun i u hu => by rw [World.cell?_setCell_other _ _ _ _ (fun h => hne (by cases h; rfl))]; exact h.cell i hu) (fun i hi => by rw [World.frozen?_setCell]; exact h.thaw i hi)
/-- What a region reads: a box, and all below kept. -/
structure XQ (cb : Nat) (cs : List Value) (w wx : World) : Prop where
  c : Bx wx cb cs
  out : Below w.heap.size w wx
theorem XQ.below {cb : Nat} {cs : List Value} {w wx wy : World} (h : XQ cb cs w wx) (hb : Below wx.heap.size wx wy) : XQ cb cs w wy := ⟨h.c.below hb, h.out.trans (hb.mono h.out.size)⟩
theorem XQ.cells {cb rb : Nat} {cs vs : List Value} {w wx : World} (h : XQ cb cs w wx) (h1 : cb ≠ rb) (h2 : w.heap.size ≤ rb) : XQ cb cs w (wx.setCells rb 0 vs) := ⟨h.c.apart _ h1, below_cells h2 _ _ _ h.out⟩
theorem Bx.new (w : World) (cs : Array Value) (t : TypeId) : Bx (w.alloc (.cells cs t)) w.heap.size cs.toList :=
  Bx.of (fun j v hv => by rw [Array.getElem?_toList] at hv; simp [go_sem, hv]) (fun j hj => by simp [go_sem])
theorem wpl_putT {P : Program} {ops : Array Oper} {rest : List Oper} {op : Oper} {a : Act} {w : World} {Q : Exit → Act → World → Prop} (t : TypeId) (hgd : op.guard = none) (x y : Operand) (ho : op.op = .store t x y)
    (q : Nat) (cells : Array Value) (hx : a.eval x = .pointer (some ⟨q, 0, none⟩)) (hy : a.eval y = .agg cells) {cs : List Value} (h0 : Bx w q cs) (hv : cells.size = cs.length) (hi : (P.info? t).map (·.size) = some cells.size) (h1 : cells.toList.all (·.oneCell') = true)
    (h : ∀ w', w' = w.setCells q 0 cells.toList → Bx w' q cells.toList → wpList P ops Q rest (a.put op.dst undef) w') : wpList P ops Q (op :: rest) a w :=
  wpList_store_mid hgd t x y ho q 0 cells hx hy (by rw [hv]; exact h0.th) hi (by rw [← Array.all_toList]; exact h1) (h _ rfl (h0.put _ (by simp [hv])))
theorem wpl_getT {P : Program} {ops : Array Oper} {rest : List Oper} {op : Oper} {a : Act} {w : World} {Q : Exit → Act → World → Prop} (t : TypeId) (hgd : op.guard = none) (x : Operand) (ho : op.op = .load t x)
    (q : Nat) (hx : a.eval x = .pointer (some ⟨q, 0, none⟩)) {cs : List Value} (h0 : Bx w q cs) (d : TypeDesc) (hu : P.underlying t = some d) (hd : d.isRow = true) (hi : (P.info? t).map (·.size) = some cs.length)
    (h : wpList P ops Q rest (a.put op.dst (.agg cs.toArray)) w) : wpList P ops Q (op :: rest) a w :=
  wpList_load_mid hgd t x ho q 0 hx cs d h0.cl hu hd hi h
theorem Bx.sets {q : Nat} : ∀ (vs : List Value) (o : Nat) (w : World) (cs : List Value), Bx w q cs → Bx (w.setCells q o vs) q (sets cs o vs)
  | [], _, _, _, h => h
  | v :: r, o, w, cs, h => by
    rw [World.setCells]
    unfold Go.Proofs.YtlebblmlbhnppaaGreat.sets
    exact Bx.sets r (o + 1) _ _ (h.field o v)
theorem Bx.part {w : World} {q : Nat} {cs : List Value} (h : Bx w q cs) (o : Nat) (vs : List Value) (hv : (cs.drop o).take vs.length = vs) : w.rangeAt q o vs := by
  intro j v hj
  refine h.cell (o + j) ?_
  have hl := (List.getElem?_eq_some_iff.1 hj).1
  rw [← hv, List.getElem?_take_of_lt hl, List.getElem?_drop] at hj
  exact hj
theorem Bx.thereAt {w : World} {q : Nat} {cs : List Value} (h : Bx w q cs) (o n : Nat) (hn : o + n ≤ cs.length) : w.there q o n := fun j hj => ⟨by rw [h.cell (o + j) (List.getElem?_eq_getElem (by omega))]; rfl, h.thaw (o + j) (by omega)⟩
theorem wpl_getO {P : Program} {ops : Array Oper} {rest : List Oper} {op : Oper} {a : Act} {w : World} {Q : Exit → Act → World → Prop} (t : TypeId) (hgd : op.guard = none) (x : Operand) (ho : op.op = .load t x)
    (q o : Nat) (vs : List Value) (hx : a.eval x = .pointer (some ⟨q, o, none⟩)) {cs : List Value} (h0 : Bx w q cs) (hv : (cs.drop o).take vs.length = vs) (d : TypeDesc) (hu : P.underlying t = some d) (hd : d.isRow = true) (hi : (P.info? t).map (·.size) = some vs.length)
    (h : wpList P ops Q rest (a.put op.dst (.agg vs.toArray)) w) : wpList P ops Q (op :: rest) a w :=
  wpList_load_mid hgd t x ho q o hx vs d (h0.part o vs hv) hu hd hi h
theorem wpl_putO {P : Program} {ops : Array Oper} {rest : List Oper} {op : Oper} {a : Act} {w : World} {Q : Exit → Act → World → Prop} (t : TypeId) (hgd : op.guard = none) (x y : Operand) (ho : op.op = .store t x y)
    (q o : Nat) (cells : Array Value) (hx : a.eval x = .pointer (some ⟨q, o, none⟩)) (hy : a.eval y = .agg cells) {cs : List Value} (h0 : Bx w q cs) (hn : (decide (o + cells.size ≤ cs.length)) = true) (hi : (P.info? t).map (·.size) = some cells.size) (h1 : cells.toList.all (·.oneCell') = true)
    (h : ∀ w', w' = w.setCells q o cells.toList → Bx w' q (sets cs o cells.toList) → wpList P ops Q rest (a.put op.dst undef) w') : wpList P ops Q (op :: rest) a w :=
  wpList_store_mid hgd t x y ho q o cells hx hy (h0.thereAt o _ (of_decide_eq_true hn)) hi (by rw [← Array.all_toList]; exact h1) (h _ rfl (h0.sets _ _ _ _))
/-- Rows, kept where blocks are. -/
theorem rw_keepB {α : Type} {R : World → α → List Value → Prop} {K : Nat} {w w' : World} {a : Option Addr} {xs : List α} {B : Nat → Prop} (h : Rw R K w a xs) (hs : w.heap.size ≤ w'.heap.size) (hk : ∀ k, B k → w'.heap[k]? = w.heap[k]?) (hb : ∀ b off, a = some ⟨b, off, none⟩ → b < w.heap.size → B b) (hR : ∀ x vs, R w x vs → R w' x vs) : Rw R K w' a xs := by
  intro h0
  obtain ⟨b, off, rfl, hlt, hc⟩ := h h0
  refine ⟨b, off, rfl, Nat.lt_of_lt_of_le hlt hs, fun i x hx => ?_⟩
  obtain ⟨vs, h1, h2, h3⟩ := hc i x hx
  refine ⟨vs, h1, hR _ _ h2, fun j v hv => ?_⟩
  have e : w'.cell? ⟨b, off + i * K + j, none⟩ = w.cell? ⟨b, off + i * K + j, none⟩ := by
    unfold World.cell?
    rw [show w'.heap[(⟨b, off + i * K + j, none⟩ : Addr).block]? = w.heap[(⟨b, off + i * K + j, none⟩ : Addr).block]? from hk b (hb b off rfl hlt)]
  rw [e]
  exact h3 j v hv
theorem heap_cellsA {q : Nat} : ∀ (vs : List Value) (o : Nat) (w : World), (w.setCells q o vs).heap.size = w.heap.size ∧ ∀ k, k ≠ q → (w.setCells q o vs).heap[k]? = w.heap[k]?
  | [], _, _ => ⟨rfl, fun _ _ => rfl⟩
  | v :: r, o, w => by
    rw [World.setCells]
    obtain ⟨h1, h5⟩ := heap_cellsA r (o + 1) (w.setCell ⟨q, o, none⟩ v)
    exact ⟨h1.trans (by simp [World.setCell]), fun k hk => (h5 k hk).trans (Below.heap_setCell _ _ _ _ hk)⟩
theorem Bx.apartO {w : World} {q p o : Nat} {cs : List Value} (h : Bx w q cs) (vs : List Value) (hne : q ≠ p) : Bx (w.setCells p o vs) q cs :=
  ⟨World.rangeAt_setCells_apart h.cl p o vs (.inl hne), fun j hj => ⟨World.isSome_setCells p vs o w _ (h.th j hj).1, by rw [World.frozen?_setCells]; exact (h.th j hj).2⟩⟩
end Go.Proofs.YtlebblmlbhnppaaGreat
