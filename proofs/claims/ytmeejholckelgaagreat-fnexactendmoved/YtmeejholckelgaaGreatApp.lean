/- Laying texts behind one another in a row of the call's own; a struct in a box of the call's own. -/
import Derived.Test.YtmeejholckelgaaGreatPart
import Derived.Laws.MakeOwn
namespace Go.Proofs.YtmeejholckelgaaGreat
open Go.RowKit Go.PlainAid
set_option linter.unusedVariables false
set_option maxRecDepth 20000

/-- A box holds these. -/
def Boxed (w : World) (q : Nat) (cs : List Value) : Prop := ∀ i v, cs[i]? = some v → w.cell? ⟨q, i, none⟩ = some v
theorem Boxed.new (w : World) (cs : List Value) (t : TypeId) : Boxed (w.alloc (.cells cs.toArray t)) w.heap.size cs := by
  intro i v h
  rw [World.cell?_alloc_new]
  simpa using h
theorem Boxed.below {w w' : World} {q n : Nat} {cs : List Value} (h : Boxed w q cs) (b : Below n w w') (hq : q < n) : Boxed w' q cs :=
  fun i v hi => by rw [b.cell (p := ⟨q, i, none⟩) hq]; exact h i v hi
theorem Boxed.alloc {w : World} {q : Nat} {cs : List Value} (h : Boxed w q cs) (hq : q < w.heap.size) (o : Obj) : Boxed (w.alloc o) q cs :=
  h.below ((Below.refl w.heap.size w).alloc (Nat.le_refl _) o) hq
theorem Boxed.drew {w : World} {q : Nat} {cs : List Value} (h : Boxed w q cs) : Boxed w.drew q cs := h
theorem Boxed.at {w : World} {q : Nat} {cs : List Value} (h : Boxed w q cs) (i : Nat) (v : Value) (hi : cs[i]? = some v) : w.cell? ⟨q, i, none⟩ = some v := h i v hi

/-- A box that may be written. -/
def Slots (w : World) (q : Nat) (cs : List Value) : Prop := Boxed w q cs ∧ ∀ i, w.frozen? ⟨q, i, none⟩ = false
theorem Slots.new (w : World) (cs : List Value) (t : TypeId) : Slots (w.alloc (.cells cs.toArray t)) w.heap.size cs := ⟨Boxed.new w cs t, fun i => by simp⟩
theorem Slots.below {w w' : World} {q n : Nat} {cs : List Value} (h : Slots w q cs) (b : Below n w w') (hq : q < n) : Slots w' q cs :=
  ⟨h.1.below b hq, fun i => by rw [b.frozen (p := ⟨q, i, none⟩) hq]; exact h.2 i⟩
theorem keep_cell {wx w' : World} {a : Addr} {v : Value} (h : wx.cell? a = some v) (b : Below wx.heap.size wx w') : w'.cell? a = some v := by
  rw [b.cell (World.block_lt_of_cell? wx _ h)]; exact h
theorem keep_below {B : Nat} {w wx w' : World} (h : Below B w wx) (hB : B < wx.heap.size) (b : Below wx.heap.size wx w') : Below B w w' := h.trans (b.mono (by omega))
theorem keep_size {B : Nat} {wx w' : World} (hB : B < wx.heap.size) (b : Below wx.heap.size wx w') : B < w'.heap.size := Nat.lt_of_lt_of_le hB b.size
theorem keep_c {wx w' : World} {a : Addr} {v : Value} (b : Below wx.heap.size wx w') (h : wx.cell? a = some v) : w'.cell? a = some v := keep_cell h b
theorem keep_bs {B : Nat} {w wx w' : World} (b : Below wx.heap.size wx w') (h : Below B w wx ∧ B < wx.heap.size) : Below B w w' ∧ B < w'.heap.size := ⟨keep_below h.1 h.2 b, keep_size h.2 b⟩

theorem news_row {w : World} {q : Nat} {M : List Int} (h : Boxed w q (M.map (Value.int .u8))) : ∀ j u, (M.map (Value.int .u8))[j]? = some u → w.cell? ((⟨q, 0, none⟩ : Addr).add j) = some u := by
  intro j u hu
  have e : (⟨q, 0, none⟩ : Addr).add j = ⟨q, j, none⟩ := by unfold Addr.add; split <;> simp_all
  rw [e]
  exact h j u hu

/-- What an append leaves: the longer row, and all that lies below it. -/
def Laid (w w' : World) (B : Nat) (v' : Value) (L : List Int) : Prop := OwnL 5 w' B v' L ∧ Below B w w'
theorem Laid.own {w w' : World} {B : Nat} {v' : Value} {L : List Int} (h : Laid w w' B v' L) : OwnL 5 w' B v' L := h.1
theorem Laid.below {w w' : World} {B : Nat} {v' : Value} {L : List Int} (h : Laid w w' B v' L) : Below B w w' := h.2

theorem grown_below {w w' : World} {B : Nat} {v : Value} {L : List Int} (h : OwnL 5 w B v L) (hB : B ≤ w.heap.size) (hg : w.grownBy w' v.ownBlock) : Below B w w' :=
  (Below.refl B w).grown hg hB (fun k hk => (World.ownsRow.lt h k hk).1)

theorem wpl_app (w : World) {ops : Array Oper} {rest : List Oper} {o : Oper} {a : Act} {Q : Exit → Act → World → Prop} (hgd : o.guard = none) (s x : Operand)
    (ho : o.op = .call { callee := .builtin .append, args := #[s, x], argTypes := #[162, 162] })
    (B : Nat) (v : Value) (L : List Int) (hs : a.eval s = v) (hown : OwnL 5 w B v L)
    (ad : Addr) (m c : Nat) (M : List Int) (hx : a.eval x = .slice (some ad) m c) (hl : M.length = m) (hnews : ∀ j u, (M.map (Value.int .u8))[j]? = some u → w.cell? (ad.add j) = some u)
    (hlen : L.length + m ≤ 1000000) (hB : B ≤ w.heap.size)
    (h : ∀ v' w', Hid (Laid w w' B v' (L ++ M)) → wpList Tryz.prog ops Q rest (a.put o.dst v') w') : wpList Tryz.prog ops Q (o :: rest) a w := by
  obtain ⟨i0, hi, hz0, hz1, hz2⟩ := info_parts Tryz.infoB
  refine wpList_append_own w hgd s x 162 ho B 5 i0 (.int .u8 0) 1 1 Tryz.underlying162 hi hz0 hz1 hz2 rfl (by decide) v L.length (L.map (Value.int .u8)) hs hown ad m c (M.map (Value.int .u8)) hx (by simp [hl]) hnews
    (by intro u hu; obtain ⟨j, -, rfl⟩ := List.mem_map.1 hu; rfl) (by unfold maxLen; omega) (by omega) hB ?_
  intro v' w' h1 h2 _
  exact h v' w' ⟨OwnL.more (by rw [hl]; exact h1), grown_below hown hB h2⟩

theorem wpl_str (w : World) {ops : Array Oper} {rest : List Oper} {o : Oper} {a : Act} {Q : Exit → Act → World → Prop} (hgd : o.guard = none) (sl x : Operand)
    (ho : o.op = .call { callee := .builtin .append, args := #[sl, x], argTypes := #[162, 9] })
    (B : Nat) (v : Value) (L : List Int) (hs : a.eval sl = v) (hown : OwnL 5 w B v L) (s : ByteArray) (hx : a.eval x = .string s)
    (hlen : L.length + s.size ≤ 1000000) (hB : B ≤ w.heap.size)
    (h : ∀ v' w', Hid (Laid w w' B v' (L ++ nums s)) → wpList Tryz.prog ops Q rest (a.put o.dst v') w') : wpList Tryz.prog ops Q (o :: rest) a w := by
  obtain ⟨i0, hi, hz0, hz1, hz2⟩ := info_parts Tryz.infoB
  refine Lib.wpList_append_own_string w hgd sl x 162 9 ho B 5 i0 Tryz.underlying162 Tryz.underlying9 hi hz0 hz1 hz2 v L.length (L.map (Value.int .u8)) hs hown s hx (by unfold maxLen; omega) (by omega) hB ?_
  intro v' w' h1 h2 _
  exact h v' w' ⟨OwnL.more (by rw [nums_len, ← strCells_nums]; exact h1), grown_below hown hB h2⟩

/-- 'make([]byte, 0, c)'. -/
theorem make_room (c : Nat) (hc : c ≤ 1000000) : ∃ MC : Array Value, ∀ w : World,
    (Instr.makeSlice 162 (.int .i64 0) (.int .i64 (c : Int))).run Tryz.prog w = .ok (.slice (some ⟨w.heap.size, 0, none⟩) 0 c) (w.alloc (.cells MC 5)) ∧
      OwnL 5 (w.alloc (.cells MC 5)) w.heap.size (.slice (some ⟨w.heap.size, 0, none⟩) 0 c) [] := by
  obtain ⟨i0, hi, hz0, hz1, hz2⟩ := info_parts Tryz.infoB
  refine ⟨madeCells (Value.int .u8 0).cells (c * i0.size), fun w => ⟨?_, ?_⟩⟩
  · have := run_make (P := Tryz.prog) w 162 5 i0 (.int .u8 0) Tryz.underlying162 hi hz0 .i64 .i64 0 c (Int.le_refl _) (by omega) (by rw [hz2]; omega) (by omega)
    simpa using this
  · exact World.ownsRow_made w _ c (Nat.le_refl _) (by unfold maxLen; omega) (by rw [size_madeCells, hz1])

/-- The row that a writer hands back. -/
theorem Laid.writ {w w' : World} {B : Nat} {v : Value} {L : List Int} (h : OwnL 5 w B v L) (hL : ∀ x ∈ L, 0 ≤ x ∧ x ≤ 255) (h0 : 0 < L.length) :
    ∃ g cap, v = .slice (some ⟨g, 0, none⟩) L.length cap ∧ L.length ≤ cap ∧ cap ≤ maxLen ∧ B ≤ g ∧ g < w.heap.size ∧ (∀ i, w.frozen? ⟨g, i, none⟩ = false) ∧ ∀ i, i < L.length → w.cell? ⟨g, i, none⟩ = some (.int .u8 (L.getD i 0)) := by
  obtain ⟨g, cap, cur, rfl, hB, hg, hcap, hmax, hs, ht⟩ := h.form h0
  refine ⟨g, cap, rfl, hcap, hmax, hB, (World.ownsRow.lt h g rfl).2, fun i => World.ownsRow.frozenAt h i, fun i hi => ?_⟩
  rw [World.ownsRow.cellAt h i (by simpa using hi)]
  simp [hi]
end Go.Proofs.YtmeejholckelgaaGreat
