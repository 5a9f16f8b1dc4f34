/- ReadRule of both sides: the ways that are no rule. -/
import Derived.Test.YtimhkeebgogfoaaDoorRrI
import Derived.Test.YtimhkeebgogfoaaDoorRrS
namespace Go.Proofs.YtimhkeebgogfoaaDoor
open Go.RowKit Go.PlainAid Go.Proofs.YtimhkeebgogfoaaDoor.Bt Go.Sort
set_option linter.unusedVariables false
set_option maxRecDepth 20000
theorem pcb_len : ∀ (l p : List UInt8), p ∈ Bl.pc l → p.length ≤ l.length
  | [], p, h => by simp [Bl.pc] at h; simp [h]
  | c :: l, p, h => by
    rw [Bl.pc] at h
    split at h
    · rcases List.mem_cons.1 h with rfl | h
      · simp
      · have := pcb_len l p h; simp; omega
    · split at h
      · rename_i q qs e
        rcases List.mem_cons.1 h with rfl | h
        · have := pcb_len l q (by rw [e]; simp)
          simp; omega
        · have := pcb_len l p (by rw [e]; simp [h])
          simp; omega
      · simp at h
        subst h
        simp
theorem wb_len (l p : List UInt8) (h : p ∈ Bl.wb l) : p.length ≤ l.length := pcb_len l p (List.mem_filter.1 h).1
/-- The words of a text. -/
def wordsB (t : ByteArray) : List ByteArray := (Bl.wb t.data.toList).map (fun l => ⟨l.toArray⟩)
theorem words_of {t : ByteArray} {ps : List ByteArray} (h : ps.map (·.data.toList) = Bl.wb t.data.toList) : ps = wordsB t := by
  unfold wordsB
  rw [← h, List.map_map]
  induction ps with
  | nil => rfl
  | cons p ps ih =>
    rw [List.map_cons]
    congr 1
    have : ∀ qs : List ByteArray, qs = List.map ((fun l => ⟨l.toArray⟩) ∘ fun x => x.data.toList) qs := by
      intro qs
      induction qs with
      | nil => rfl
      | cons q qs ih2 => rw [List.map_cons, ← ih2]; rfl
    exact this ps
theorem words_size (t x : ByteArray) (h : x ∈ wordsB t) : x.size ≤ t.size := by
  unfold wordsB at h
  rw [List.mem_map] at h
  obtain ⟨l, hl, rfl⟩ := h
  have := wb_len _ l hl
  show l.toArray.size ≤ t.size
  simpa using this
theorem l00Words_b (t : ByteArray) (w : World) (hs : t.size ≤ 1048576) :
    Calls Tryd.prog 70 #[.string t] w fun e w' => ∃ g c : Nat, e = .returned (.slice (some ⟨g, 0, none⟩) (wordsB t).length c) ∧ w.heap.size ≤ g ∧ (∀ j x, (wordsB t)[j]? = some x → w'.cell? ⟨g, j, none⟩ = some (.string x)) ∧ Below w.heap.size w w' := by
  refine (Bl.l00Words_any t w hs).mono ?_
  rintro e w' ⟨g, c, ps, rfl, ho, hp, hb⟩
  have e1 := words_of hp
  subst e1
  refine ⟨g, c, rfl, (World.ownsRow.lt ho g rfl).1, fun j x hx => ?_, hb⟩
  have hj := (List.getElem?_eq_some_iff.1 hx).1
  rw [World.ownsRow.cellAt ho j (by omega), List.getElem?_map, hx]
  rfl
theorem wordsOf_b (t : ByteArray) (m : Int) (w : World) (ht : t.size ≤ 65536) (hm : w.cell? ⟨0, 0, none⟩ = some (.int .i64 m)) :
    Calls Tryd.prog 42 #[.string t] w fun e w' => ∃ c : Nat, e = .returned (.slice (some ⟨w.heap.size, 0, none⟩) (wordsB t).length c) ∧ (∀ j x, (wordsB t)[j]? = some x → w'.cell? ⟨w.heap.size, j, none⟩ = some (.string x)) ∧ Below w.heap.size w w' := by
  refine (Bl.wordsOf_any t m w ht hm).mono ?_
  rintro e w' ⟨c, ps, rfl, hp, hc, hb⟩
  have e1 := words_of hp
  subst e1
  exact ⟨c, rfl, hc, hb⟩
/-- No rule: another number of words, or another first one. -/
def rrNo (t : ByteArray) : Prop := (wordsB t).length ≠ 5 ∨ ∃ x, (wordsB t)[0]? = some x ∧ (wordsB t).length = 5 ∧ (x.toList == [97, 108, 108, 111, 119]) = false ∧ (x.toList == [100, 101, 110, 121]) = false
set_option maxHeartbeats 1000000 in
theorem l07Read_no (t : ByteArray) (w : World) (hs : t.size ≤ 65536) (hn : rrNo t) :
    Calls Tryd.prog 41 #[.string t] w fun e w' => e = .returned (.tuple #[.agg #[.int .i64 0, .int .i64 0, .int .i64 0, .int .i64 0, .int .i64 0, .bool false], .bool false]) ∧ Below w.heap.size w w' := by
  have HW : Hid (∀ w, Calls Tryd.prog 70 #[.string t] w fun e w' => ∃ g c : Nat, e = .returned (.slice (some ⟨g, 0, none⟩) (wordsB t).length c) ∧ w.heap.size ≤ g ∧ (∀ j x, (wordsB t)[j]? = some x → w'.cell? ⟨g, j, none⟩ = some (.string x)) ∧ Below w.heap.size w w') := fun w => l00Words_b t w (by omega)
  have HB : Hid (∀ w', Below (w.heap.size + 1) (w.alloc (.cells #[.int .i64 0, .int .i64 0, .int .i64 0, .int .i64 0, .int .i64 0, .bool false] 44)) w' → Below w.heap.size w w') := fun w' hb => ((Below.refl _ _).alloc (Nat.le_refl _) _).trans (hb.mono (by omega))
  rcases hn with hn | ⟨x, hx, h5, h1, h2⟩
  · have hz : (((wordsB t).length : Int) != 5) = true := by simp; omega
    generalize (wordsB t).length = n at HW hz
    go_enter Tryd.func41, Tryd.ntmps41
    go_wp2_with fail
    refine (HW.out _).mono ?_
    rintro e w1 ⟨g, c, rfl, hg, hc, b1⟩
    have c0 : w1.cell? ⟨w.heap.size, 0, none⟩ = some (.int .i64 0) := bkeep b1 (by simp [go_sem])
    have c1 : w1.cell? ⟨w.heap.size, 1, none⟩ = some (.int .i64 0) := bkeep b1 (by simp [go_sem])
    have c2 : w1.cell? ⟨w.heap.size, 2, none⟩ = some (.int .i64 0) := bkeep b1 (by simp [go_sem])
    have c3 : w1.cell? ⟨w.heap.size, 3, none⟩ = some (.int .i64 0) := bkeep b1 (by simp [go_sem])
    have c4 : w1.cell? ⟨w.heap.size, 4, none⟩ = some (.int .i64 0) := bkeep b1 (by simp [go_sem])
    have c5 : w1.cell? ⟨w.heap.size, 5, none⟩ = some (.bool false) := bkeep b1 (by simp [go_sem])
    have BX : Hid (Below w.heap.size w w1) := HB.out _ (by simpa using b1)
    have fz : ∀ j, w1.frozen? ⟨w.heap.size, j, none⟩ = false := fun j => by rw [b1.frozen (p := ⟨w.heap.size, j, none⟩) (by simp)]; simp [go_sem]
    have f0 := fz 0
    have f1 := fz 1
    have f2 := fz 2
    have f3 := fz 3
    have f4 := fz 4
    have f5 := fz 5
    clear b1 hg hc HB fz
    go_wp2
    (try simp only [Exit.inBlock, Exit.then])
    refine bodyPost_ret (v := .tuple #[.agg #[.int .i64 0, .int .i64 0, .int .i64 0, .int .i64 0, .int .i64 0, .bool false], .bool false]) (by simp [results, Tryd.results41, go_sem, c0, c1, c2, c3, c4, c5]; try rfl) rfl ?_
    exact ⟨rfl, (((((BX.out.setCell (Nat.le_refl _) _).setCell (Nat.le_refl _) _).setCell (Nat.le_refl _) _).setCell (Nat.le_refl _) _).setCell (Nat.le_refl _) _).setCell (Nat.le_refl _) _⟩
  · rw [h5] at HW
    go_enter Tryd.func41, Tryd.ntmps41
    go_wp2_with fail
    refine (HW.out _).mono ?_
    rintro e w1 ⟨g, c, rfl, hg, hc, b1⟩
    have k0 := hc 0 x hx
    have c0 : w1.cell? ⟨w.heap.size, 0, none⟩ = some (.int .i64 0) := bkeep b1 (by simp [go_sem])
    have c1 : w1.cell? ⟨w.heap.size, 1, none⟩ = some (.int .i64 0) := bkeep b1 (by simp [go_sem])
    have c2 : w1.cell? ⟨w.heap.size, 2, none⟩ = some (.int .i64 0) := bkeep b1 (by simp [go_sem])
    have c3 : w1.cell? ⟨w.heap.size, 3, none⟩ = some (.int .i64 0) := bkeep b1 (by simp [go_sem])
    have c4 : w1.cell? ⟨w.heap.size, 4, none⟩ = some (.int .i64 0) := bkeep b1 (by simp [go_sem])
    have c5 : w1.cell? ⟨w.heap.size, 5, none⟩ = some (.bool false) := bkeep b1 (by simp [go_sem])
    have BX : Hid (Below w.heap.size w w1) := HB.out _ (by simpa using b1)
    have fz : ∀ j, w1.frozen? ⟨w.heap.size, j, none⟩ = false := fun j => by rw [b1.frozen (p := ⟨w.heap.size, j, none⟩) (by simp)]; simp [go_sem]
    have f0 := fz 0
    have f1 := fz 1
    have f2 := fz 2
    have f3 := fz 3
    have f4 := fz 4
    have f5 := fz 5
    clear b1 hg hc HB fz hx
    go_wp2
    (try simp only [Exit.inBlock, Exit.then])
    refine bodyPost_ret (v := .tuple #[.agg #[.int .i64 0, .int .i64 0, .int .i64 0, .int .i64 0, .int .i64 0, .bool false], .bool false]) (by simp [results, Tryd.results41, go_sem, c0, c1, c2, c3, c4, c5]; try rfl) rfl ?_
    exact ⟨rfl, (((((BX.out.setCell (Nat.le_refl _) _).setCell (Nat.le_refl _) _).setCell (Nat.le_refl _) _).setCell (Nat.le_refl _) _).setCell (Nat.le_refl _) _).setCell (Nat.le_refl _) _⟩
theorem specReadRule_long (t : ByteArray) (w : World) (h : 65536 < t.size) (h2 : t.size ≤ 1048576) :
    Calls Tryd.prog 15 #[.string t] w fun e w' => e = .returned (.tuple #[.agg #[.int .i64 0, .int .i64 0, .int .i64 0, .int .i64 0, .int .i64 0, .bool false], .int .i64 2]) ∧ Below w.heap.size w w' := by
  have hz : (65536 : Int) < (t.size : Int) := by omega
  go_enter Tryd.func15, Tryd.ntmps15
  go_wp2
  (try simp only [Exit.inBlock, Exit.then])
  refine bodyPost_ret (v := .tuple #[.agg #[.int .i64 0, .int .i64 0, .int .i64 0, .int .i64 0, .int .i64 0, .bool false], .int .i64 2]) (by simp [results, Tryd.results15, go_sem]; try rfl) rfl ?_
  exact ⟨rfl, (Below.refl _ _).alloc (Nat.le_refl _) _⟩
theorem implReadRule_long (t : ByteArray) (w : World) (h : 65536 < t.size) (h2 : t.size ≤ 1048576) :
    Calls Tryd.prog 16 #[.string t] w fun e w' => e = .returned (.tuple #[.agg #[.int .i64 0, .int .i64 0, .int .i64 0, .int .i64 0, .int .i64 0, .bool false], .int .i64 2]) ∧ Below w.heap.size w w' := by
  have hz : (65536 : Int) < (t.size : Int) := by omega
  go_enter Tryd.func16, Tryd.ntmps16
  go_wp2
  (try simp only [Exit.inBlock, Exit.then])
  refine bodyPost_ret (v := .tuple #[.agg #[.int .i64 0, .int .i64 0, .int .i64 0, .int .i64 0, .int .i64 0, .bool false], .int .i64 2]) (by simp [results, Tryd.results16, go_sem]; try rfl) rfl ?_
  exact ⟨rfl, (Below.refl _ _).alloc (Nat.le_refl _) _⟩
set_option maxHeartbeats 1000000 in
theorem specReadRule_of (t : ByteArray) (w : World) (hs : t.size ≤ 65536) (y0 y1 y2 y3 y4 : Int) (yb zz : Bool) (x0 x1 x2 x3 x4 : Int) (xb : Bool) (cc : Int)
    (hy : zz = true → (x0 = y0 ∧ x1 = y1 ∧ x2 = y2 ∧ x3 = y3 ∧ x4 = y4 ∧ xb = yb) ∧ cc = 0) (hx : zz = false → (x0 = 0 ∧ x1 = 0 ∧ x2 = 0 ∧ x3 = 0 ∧ x4 = 0 ∧ xb = false) ∧ cc = 3)
    (hR : ∀ w, Calls Tryd.prog 41 #[.string t] w fun e w' => ∃ (u0 u1 u2 u3 u4 : Int) (ub : Bool), e = .returned (.tuple #[.agg #[.int .i64 u0, .int .i64 u1, .int .i64 u2, .int .i64 u3, .int .i64 u4, .bool ub], .bool zz]) ∧ (zz = true → u0 = y0 ∧ u1 = y1 ∧ u2 = y2 ∧ u3 = y3 ∧ u4 = y4 ∧ ub = yb) ∧ Below w.heap.size w w') :
    Calls Tryd.prog 15 #[.string t] w fun e w' => e = .returned (.tuple #[.agg #[.int .i64 x0, .int .i64 x1, .int .i64 x2, .int .i64 x3, .int .i64 x4, .bool xb], .int .i64 cc]) ∧ Below w.heap.size w w' := by
  have HR : Hid (∀ w, Calls Tryd.prog 41 #[.string t] w fun e w' => ∃ (u0 u1 u2 u3 u4 : Int) (ub : Bool), e = .returned (.tuple #[.agg #[.int .i64 u0, .int .i64 u1, .int .i64 u2, .int .i64 u3, .int .i64 u4, .bool ub], .bool zz]) ∧ (zz = true → u0 = y0 ∧ u1 = y1 ∧ u2 = y2 ∧ u3 = y3 ∧ u4 = y4 ∧ ub = yb) ∧ Below w.heap.size w w') := hR
  clear hR
  have hz : (t.size : Int) ≤ 65536 := by omega
  cases zz with
  | false =>
    obtain ⟨⟨rfl, rfl, rfl, rfl, rfl, rfl⟩, rfl⟩ := hx rfl
    clear hy hx
    go_enter Tryd.func15, Tryd.ntmps15
    go_wp2_with fail
    refine (HR.out _).mono ?_
    rintro e w1 ⟨u0, u1, u2, u3, u4, ub, rfl, -, b1⟩
    have c0 : w1.cell? ⟨w.heap.size, 0, none⟩ = some (.int .i64 0) := bkeep b1 (by simp [go_sem])
    have c1 : w1.cell? ⟨w.heap.size, 1, none⟩ = some (.int .i64 0) := bkeep b1 (by simp [go_sem])
    have c2 : w1.cell? ⟨w.heap.size, 2, none⟩ = some (.int .i64 0) := bkeep b1 (by simp [go_sem])
    have c3 : w1.cell? ⟨w.heap.size, 3, none⟩ = some (.int .i64 0) := bkeep b1 (by simp [go_sem])
    have c4 : w1.cell? ⟨w.heap.size, 4, none⟩ = some (.int .i64 0) := bkeep b1 (by simp [go_sem])
    have c5 : w1.cell? ⟨w.heap.size, 5, none⟩ = some (.bool false) := bkeep b1 (by simp [go_sem])
    have fz : ∀ j, w1.frozen? ⟨w.heap.size, j, none⟩ = false := fun j => by rw [b1.frozen (p := ⟨w.heap.size, j, none⟩) (by simp)]; simp [go_sem]
    have f0 := fz 0
    have f1 := fz 1
    have f2 := fz 2
    have f3 := fz 3
    have f4 := fz 4
    have f5 := fz 5
    have BX : Hid (Below w.heap.size w w1) := ((Below.refl _ _).alloc (Nat.le_refl _) _).trans (b1.mono (by simp))
    have hlt : w.heap.size < w1.heap.size := World.block_lt_of_cell? w1 _ c0
    clear b1 fz
    go_wp2
    obtain ⟨W, hW⟩ : ∃ W, W = ((((((w1.setCell ⟨w.heap.size, 0, none⟩ (.int .i64 0)).setCell ⟨w.heap.size, 1, none⟩ (.int .i64 0)).setCell ⟨w.heap.size, 2, none⟩ (.int .i64 0)).setCell ⟨w.heap.size, 3, none⟩ (.int .i64 0)).setCell ⟨w.heap.size, 4, none⟩ (.int .i64 0)).setCell ⟨w.heap.size, 5, none⟩ (.bool false)) := ⟨_, rfl⟩
    rw [← hW]
    have s0 : (W.alloc (.cells #[.int .i64 u0, .int .i64 u1, .int .i64 u2, .int .i64 u3, .int .i64 u4, .bool ub] 44)).cell? ⟨w.heap.size, 0, none⟩ = some (.int .i64 0) := acell (by rw [hW]; simp [go_sem, c0]) _
    have s1 : (W.alloc (.cells #[.int .i64 u0, .int .i64 u1, .int .i64 u2, .int .i64 u3, .int .i64 u4, .bool ub] 44)).cell? ⟨w.heap.size, 1, none⟩ = some (.int .i64 0) := acell (by rw [hW]; simp [go_sem, c1]) _
    have s2 : (W.alloc (.cells #[.int .i64 u0, .int .i64 u1, .int .i64 u2, .int .i64 u3, .int .i64 u4, .bool ub] 44)).cell? ⟨w.heap.size, 2, none⟩ = some (.int .i64 0) := acell (by rw [hW]; simp [go_sem, c2]) _
    have s3 : (W.alloc (.cells #[.int .i64 u0, .int .i64 u1, .int .i64 u2, .int .i64 u3, .int .i64 u4, .bool ub] 44)).cell? ⟨w.heap.size, 3, none⟩ = some (.int .i64 0) := acell (by rw [hW]; simp [go_sem, c3]) _
    have s4 : (W.alloc (.cells #[.int .i64 u0, .int .i64 u1, .int .i64 u2, .int .i64 u3, .int .i64 u4, .bool ub] 44)).cell? ⟨w.heap.size, 4, none⟩ = some (.int .i64 0) := acell (by rw [hW]; simp [go_sem, c4]) _
    have s5 : (W.alloc (.cells #[.int .i64 u0, .int .i64 u1, .int .i64 u2, .int .i64 u3, .int .i64 u4, .bool ub] 44)).cell? ⟨w.heap.size, 5, none⟩ = some (.bool false) := acell (by rw [hW]; simp [go_sem, c5]) _
    have XW : Hid (Below w.heap.size w W) := by
      show Below _ _ _
      rw [hW]
      exact (((((BX.out.setCell (Nat.le_refl _) _).setCell (Nat.le_refl _) _).setCell (Nat.le_refl _) _).setCell (Nat.le_refl _) _).setCell (Nat.le_refl _) _).setCell (Nat.le_refl _) _
    clear hW
    (try simp only [Exit.inBlock, Exit.then])
    refine bodyPost_ret (v := .tuple #[.agg #[.int .i64 0, .int .i64 0, .int .i64 0, .int .i64 0, .int .i64 0, .bool false], .int .i64 3]) (by simp [results, Tryd.results15, go_sem, s0, s1, s2, s3, s4, s5]; try rfl) rfl ?_
    exact ⟨rfl, XW.out.alloc XW.out.size _⟩
  | true =>
    obtain ⟨⟨rfl, rfl, rfl, rfl, rfl, rfl⟩, rfl⟩ := hy rfl
    clear hy hx
    go_enter Tryd.func15, Tryd.ntmps15
    go_wp2_with fail
    refine (HR.out _).mono ?_
    rintro e w1 ⟨u0, u1, u2, u3, u4, ub, rfl, hu, b1⟩
    obtain ⟨rfl, rfl, rfl, rfl, rfl, rfl⟩ := hu trivial
    have c0 : w1.cell? ⟨w.heap.size, 0, none⟩ = some (.int .i64 0) := bkeep b1 (by simp [go_sem])
    have c1 : w1.cell? ⟨w.heap.size, 1, none⟩ = some (.int .i64 0) := bkeep b1 (by simp [go_sem])
    have c2 : w1.cell? ⟨w.heap.size, 2, none⟩ = some (.int .i64 0) := bkeep b1 (by simp [go_sem])
    have c3 : w1.cell? ⟨w.heap.size, 3, none⟩ = some (.int .i64 0) := bkeep b1 (by simp [go_sem])
    have c4 : w1.cell? ⟨w.heap.size, 4, none⟩ = some (.int .i64 0) := bkeep b1 (by simp [go_sem])
    have c5 : w1.cell? ⟨w.heap.size, 5, none⟩ = some (.bool false) := bkeep b1 (by simp [go_sem])
    have fz : ∀ j, w1.frozen? ⟨w.heap.size, j, none⟩ = false := fun j => by rw [b1.frozen (p := ⟨w.heap.size, j, none⟩) (by simp)]; simp [go_sem]
    have f0 := fz 0
    have f1 := fz 1
    have f2 := fz 2
    have f3 := fz 3
    have f4 := fz 4
    have f5 := fz 5
    have BX : Hid (Below w.heap.size w w1) := ((Below.refl _ _).alloc (Nat.le_refl _) _).trans (b1.mono (by simp))
    have hlt : w.heap.size < w1.heap.size := World.block_lt_of_cell? w1 _ c0
    clear b1 fz hu
    go_wp2
    obtain ⟨W, hW⟩ : ∃ W, W = ((((((w1.setCell ⟨w.heap.size, 0, none⟩ (.int .i64 u0)).setCell ⟨w.heap.size, 1, none⟩ (.int .i64 u1)).setCell ⟨w.heap.size, 2, none⟩ (.int .i64 u2)).setCell ⟨w.heap.size, 3, none⟩ (.int .i64 u3)).setCell ⟨w.heap.size, 4, none⟩ (.int .i64 u4)).setCell ⟨w.heap.size, 5, none⟩ (.bool ub)) := ⟨_, rfl⟩
    rw [← hW]
    have s0 : (W.alloc (.cells #[.int .i64 u0, .int .i64 u1, .int .i64 u2, .int .i64 u3, .int .i64 u4, .bool ub] 44)).cell? ⟨w.heap.size, 0, none⟩ = some (.int .i64 u0) := acell (by rw [hW]; simp [go_sem, c0]) _
    have s1 : (W.alloc (.cells #[.int .i64 u0, .int .i64 u1, .int .i64 u2, .int .i64 u3, .int .i64 u4, .bool ub] 44)).cell? ⟨w.heap.size, 1, none⟩ = some (.int .i64 u1) := acell (by rw [hW]; simp [go_sem, c1]) _
    have s2 : (W.alloc (.cells #[.int .i64 u0, .int .i64 u1, .int .i64 u2, .int .i64 u3, .int .i64 u4, .bool ub] 44)).cell? ⟨w.heap.size, 2, none⟩ = some (.int .i64 u2) := acell (by rw [hW]; simp [go_sem, c2]) _
    have s3 : (W.alloc (.cells #[.int .i64 u0, .int .i64 u1, .int .i64 u2, .int .i64 u3, .int .i64 u4, .bool ub] 44)).cell? ⟨w.heap.size, 3, none⟩ = some (.int .i64 u3) := acell (by rw [hW]; simp [go_sem, c3]) _
    have s4 : (W.alloc (.cells #[.int .i64 u0, .int .i64 u1, .int .i64 u2, .int .i64 u3, .int .i64 u4, .bool ub] 44)).cell? ⟨w.heap.size, 4, none⟩ = some (.int .i64 u4) := acell (by rw [hW]; simp [go_sem, c4]) _
    have s5 : (W.alloc (.cells #[.int .i64 u0, .int .i64 u1, .int .i64 u2, .int .i64 u3, .int .i64 u4, .bool ub] 44)).cell? ⟨w.heap.size, 5, none⟩ = some (.bool ub) := acell (by rw [hW]; simp [go_sem, c5]) _
    have XW : Hid (Below w.heap.size w W) := by
      show Below _ _ _
      rw [hW]
      exact (((((BX.out.setCell (Nat.le_refl _) _).setCell (Nat.le_refl _) _).setCell (Nat.le_refl _) _).setCell (Nat.le_refl _) _).setCell (Nat.le_refl _) _).setCell (Nat.le_refl _) _
    clear hW
    (try simp only [Exit.inBlock, Exit.then])
    refine bodyPost_ret (v := .tuple #[.agg #[.int .i64 u0, .int .i64 u1, .int .i64 u2, .int .i64 u3, .int .i64 u4, .bool ub], .int .i64 0]) (by simp [results, Tryd.results15, go_sem, s0, s1, s2, s3, s4, s5]; try rfl) rfl ?_
    exact ⟨rfl, XW.out.alloc XW.out.size _⟩
set_option maxHeartbeats 1000000 in
theorem implReadRule_no (t : ByteArray) (m : Int) (w : World) (hs : t.size ≤ 65536) (hm : w.cell? ⟨0, 0, none⟩ = some (.int .i64 m)) (hn : rrNo t) :
    Calls Tryd.prog 16 #[.string t] w fun e w' => e = .returned (.tuple #[.agg #[.int .i64 0, .int .i64 0, .int .i64 0, .int .i64 0, .int .i64 0, .bool false], .int .i64 3]) ∧ Below w.heap.size w w' := by
  have HW : Hid (∀ w, w.cell? ⟨0, 0, none⟩ = some (.int .i64 m) → Calls Tryd.prog 42 #[.string t] w fun e w' => ∃ c : Nat, e = .returned (.slice (some ⟨w.heap.size, 0, none⟩) (wordsB t).length c) ∧ (∀ j x, (wordsB t)[j]? = some x → w'.cell? ⟨w.heap.size, j, none⟩ = some (.string x)) ∧ Below w.heap.size w w') := fun w h => wordsOf_b t m w hs h
  have HM : Hid (∀ o, (w.alloc o).cell? ⟨0, 0, none⟩ = some (.int .i64 m)) := fun o => acell hm o
  have hz0 : (t.size : Int) ≤ 65536 := by omega
  clear hm
  rcases hn with hn | ⟨x, hx, h5, h1, h2⟩
  · have hz : (((wordsB t).length : Int) != 5) = true := by simp; omega
    generalize (wordsB t).length = n at HW hz
    go_enter Tryd.func16, Tryd.ntmps16
    go_wp2_with fail
    refine (HW.out _ (HM.out _)).mono ?_
    rintro e w1 ⟨c, rfl, hc, b1⟩
    have c0 : w1.cell? ⟨w.heap.size, 0, none⟩ = some (.int .i64 0) := bkeep b1 (by simp [go_sem])
    have c1 : w1.cell? ⟨w.heap.size, 1, none⟩ = some (.int .i64 0) := bkeep b1 (by simp [go_sem])
    have c2 : w1.cell? ⟨w.heap.size, 2, none⟩ = some (.int .i64 0) := bkeep b1 (by simp [go_sem])
    have c3 : w1.cell? ⟨w.heap.size, 3, none⟩ = some (.int .i64 0) := bkeep b1 (by simp [go_sem])
    have c4 : w1.cell? ⟨w.heap.size, 4, none⟩ = some (.int .i64 0) := bkeep b1 (by simp [go_sem])
    have c5 : w1.cell? ⟨w.heap.size, 5, none⟩ = some (.bool false) := bkeep b1 (by simp [go_sem])
    have fz : ∀ j, w1.frozen? ⟨w.heap.size, j, none⟩ = false := fun j => by rw [b1.frozen (p := ⟨w.heap.size, j, none⟩) (by simp)]; simp [go_sem]
    have f0 := fz 0
    have f1 := fz 1
    have f2 := fz 2
    have f3 := fz 3
    have f4 := fz 4
    have f5 := fz 5
    have BX : Hid (Below w.heap.size w w1) := ((Below.refl _ _).alloc (Nat.le_refl _) _).trans (b1.mono (by simp))
    clear b1 hc fz
    go_wp2
    (try simp only [Exit.inBlock, Exit.then])
    refine bodyPost_ret (v := .tuple #[.agg #[.int .i64 0, .int .i64 0, .int .i64 0, .int .i64 0, .int .i64 0, .bool false], .int .i64 3]) (by simp [results, Tryd.results16, go_sem, c0, c1, c2, c3, c4, c5]; try rfl) rfl ?_
    exact ⟨rfl, (((((BX.out.setCell (Nat.le_refl _) _).setCell (Nat.le_refl _) _).setCell (Nat.le_refl _) _).setCell (Nat.le_refl _) _).setCell (Nat.le_refl _) _).setCell (Nat.le_refl _) _⟩
  · rw [h5] at HW
    go_enter Tryd.func16, Tryd.ntmps16
    go_wp2_with fail
    refine (HW.out _ (HM.out _)).mono ?_
    rintro e w1 ⟨c, rfl, hc, b1⟩
    have k0 := hc 0 x hx
    simp at k0
    have c0 : w1.cell? ⟨w.heap.size, 0, none⟩ = some (.int .i64 0) := bkeep b1 (by simp [go_sem])
    have c1 : w1.cell? ⟨w.heap.size, 1, none⟩ = some (.int .i64 0) := bkeep b1 (by simp [go_sem])
    have c2 : w1.cell? ⟨w.heap.size, 2, none⟩ = some (.int .i64 0) := bkeep b1 (by simp [go_sem])
    have c3 : w1.cell? ⟨w.heap.size, 3, none⟩ = some (.int .i64 0) := bkeep b1 (by simp [go_sem])
    have c4 : w1.cell? ⟨w.heap.size, 4, none⟩ = some (.int .i64 0) := bkeep b1 (by simp [go_sem])
    have c5 : w1.cell? ⟨w.heap.size, 5, none⟩ = some (.bool false) := bkeep b1 (by simp [go_sem])
    have fz : ∀ j, w1.frozen? ⟨w.heap.size, j, none⟩ = false := fun j => by rw [b1.frozen (p := ⟨w.heap.size, j, none⟩) (by simp)]; simp [go_sem]
    have f0 := fz 0
    have f1 := fz 1
    have f2 := fz 2
    have f3 := fz 3
    have f4 := fz 4
    have f5 := fz 5
    have BX : Hid (Below w.heap.size w w1) := ((Below.refl _ _).alloc (Nat.le_refl _) _).trans (b1.mono (by simp))
    clear b1 hc fz hx
    go_wp2
    (try simp only [Exit.inBlock, Exit.then])
    refine bodyPost_ret (v := .tuple #[.agg #[.int .i64 0, .int .i64 0, .int .i64 0, .int .i64 0, .int .i64 0, .bool false], .int .i64 3]) (by simp [results, Tryd.results16, go_sem, c0, c1, c2, c3, c4, c5]; try rfl) rfl ?_
    exact ⟨rfl, (((((BX.out.setCell (Nat.le_refl _) _).setCell (Nat.le_refl _) _).setCell (Nat.le_refl _) _).setCell (Nat.le_refl _) _).setCell (Nat.le_refl _) _).setCell (Nat.le_refl _) _⟩
end Go.Proofs.YtimhkeebgogfoaaDoor
