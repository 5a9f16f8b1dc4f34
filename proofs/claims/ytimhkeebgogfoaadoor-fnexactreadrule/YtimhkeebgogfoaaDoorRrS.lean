/- l07Read of the model. -/
import Derived.Test.YtimhkeebgogfoaaDoorNetP
import Derived.Test.YtimhkeebgogfoaaDoorWordsS
import Derived.Test.YtimhkeebgogfoaaDoorProtoM
import Derived.Test.YtimhkeebgogfoaaDoorRtS
namespace Go.Proofs.YtimhkeebgogfoaaDoor
open Go.RowKit Go.PlainAid Go.Proofs.YtimhkeebgogfoaaDoor.Bt Go.Sort
set_option linter.unusedVariables false
set_option maxRecDepth 20000
structure RdW (w W : World) (g B : Nat) (w0 w1 w2 w3 w4 : ByteArray) (pr : Int) (al : Bool) : Prop where
  below : Below w.heap.size w W
  lt : B + 1 < W.heap.size
  le : w.heap.size < B
  gw : g < B
  c : ∀ j, j < 5 → W.cell? ⟨w.heap.size, j, none⟩ = some (.int .i64 0)
  c5 : W.cell? ⟨w.heap.size, 5, none⟩ = some (.bool false)
  cf : ∀ j, W.frozen? ⟨w.heap.size, j, none⟩ = false
  q0 : W.cell? ⟨g, 0, none⟩ = some (.string w0)
  q1 : W.cell? ⟨g, 1, none⟩ = some (.string w1)
  q2 : W.cell? ⟨g, 2, none⟩ = some (.string w2)
  q3 : W.cell? ⟨g, 3, none⟩ = some (.string w3)
  q4 : W.cell? ⟨g, 4, none⟩ = some (.string w4)
  r0 : W.cell? ⟨B, 0, none⟩ = some (.int .i64 pr)
  r1 : W.cell? ⟨B, 1, none⟩ = some (.int .i64 0)
  r2 : W.cell? ⟨B, 2, none⟩ = some (.int .i64 0)
  r3 : W.cell? ⟨B, 3, none⟩ = some (.int .i64 0)
  r4 : W.cell? ⟨B, 4, none⟩ = some (.int .i64 0)
  r5 : W.cell? ⟨B, 5, none⟩ = some (.bool al)
  n0 : W.cell? ⟨B + 1, 0, none⟩ = some (.string ⟨#[97, 110, 121]⟩)
  n1 : W.cell? ⟨B + 1, 1, none⟩ = some (.string ⟨#[105, 99, 109, 112]⟩)
  n2 : W.cell? ⟨B + 1, 2, none⟩ = some (.string ⟨#[116, 99, 112]⟩)
  n3 : W.cell? ⟨B + 1, 3, none⟩ = some (.string ⟨#[117, 100, 112]⟩)
  rf : ∀ j, W.frozen? ⟨B, j, none⟩ = false
variable {w W W' : World} {g B : Nat} {w0 w1 w2 w3 w4 : ByteArray} {pr : Int} {al : Bool}
theorem RdW.keep (h : RdW w W g B w0 w1 w2 w3 w4 pr al) (hb : Below W.heap.size W W') : RdW w W' g B w0 w1 w2 w3 w4 pr al :=
  ⟨h.below.trans (hb.mono h.below.size), Nat.lt_of_lt_of_le h.lt hb.size, h.le, h.gw, fun j hj => bkeep hb (h.c j hj), bkeep hb h.c5, fun j => by rw [hb.frozen (p := ⟨w.heap.size, j, none⟩) (by have := h.lt; have := h.le; show w.heap.size < _; omega)]; exact h.cf j,
    bkeep hb h.q0, bkeep hb h.q1, bkeep hb h.q2, bkeep hb h.q3, bkeep hb h.q4, bkeep hb h.r0, bkeep hb h.r1, bkeep hb h.r2, bkeep hb h.r3, bkeep hb h.r4, bkeep hb h.r5, bkeep hb h.n0, bkeep hb h.n1, bkeep hb h.n2, bkeep hb h.n3, fun j => by rw [hb.frozen (p := ⟨B, j, none⟩) (by have := h.lt; show B < _; omega)]; exact h.rf j⟩
theorem cell_away {W : World} {p q : Addr} {v u : Value} (h : W.cell? q = some v) (hne : q.block ≠ p.block) : (W.setCell p u).cell? q = some v := by
  rw [World.cell?_of_block (w := W) (Below.heap_setCell W p u q.block hne)]; exact h
def RdPost (zz : Bool) (y0 y1 y2 y3 y4 : Int) (yb : Bool) (w : World) (e : Ending) (w' : World) : Prop := ∃ (x0 x1 x2 x3 x4 : Int) (xb : Bool), e = .returned (.tuple #[.agg #[.int .i64 x0, .int .i64 x1, .int .i64 x2, .int .i64 x3, .int .i64 x4, .bool xb], .bool zz]) ∧ (zz = true → x0 = y0 ∧ x1 = y1 ∧ x2 = y2 ∧ x3 = y3 ∧ x4 = y4 ∧ xb = yb) ∧ Below w.heap.size w w'
theorem rdPost_mk {zz : Bool} {y0 y1 y2 y3 y4 x0 x1 x2 x3 x4 : Int} {yb xb : Bool} {w w' : World} (h : zz = true → x0 = y0 ∧ x1 = y1 ∧ x2 = y2 ∧ x3 = y3 ∧ x4 = y4 ∧ xb = yb) (hb : Below w.heap.size w w') : RdPost zz y0 y1 y2 y3 y4 yb w (.returned (.tuple #[.agg #[.int .i64 x0, .int .i64 x1, .int .i64 x2, .int .i64 x3, .int .i64 x4, .bool xb], .bool zz])) w' := ⟨_, _, _, _, _, _, rfl, h, hb⟩
theorem six_keep {W W' : World} (hb : Below W.heap.size W W') {B : Nat} {a0 a1 a2 a3 a4 a5 : Value} (h : W.cell? ⟨B, 0, none⟩ = some a0 ∧ W.cell? ⟨B, 1, none⟩ = some a1 ∧ W.cell? ⟨B, 2, none⟩ = some a2 ∧ W.cell? ⟨B, 3, none⟩ = some a3 ∧ W.cell? ⟨B, 4, none⟩ = some a4 ∧ W.cell? ⟨B, 5, none⟩ = some a5) : W'.cell? ⟨B, 0, none⟩ = some a0 ∧ W'.cell? ⟨B, 1, none⟩ = some a1 ∧ W'.cell? ⟨B, 2, none⟩ = some a2 ∧ W'.cell? ⟨B, 3, none⟩ = some a3 ∧ W'.cell? ⟨B, 4, none⟩ = some a4 ∧ W'.cell? ⟨B, 5, none⟩ = some a5 :=
  ⟨bkeep hb h.1, bkeep hb h.2.1, bkeep hb h.2.2.1, bkeep hb h.2.2.2.1, bkeep hb h.2.2.2.2.1, bkeep hb h.2.2.2.2.2⟩
theorem six_away {W : World} {b B : Nat} (hne : B ≠ b) {g0 g1 g2 g3 g4 g5 a0 a1 a2 a3 a4 a5 : Value} (h : W.cell? ⟨B, 0, none⟩ = some a0 ∧ W.cell? ⟨B, 1, none⟩ = some a1 ∧ W.cell? ⟨B, 2, none⟩ = some a2 ∧ W.cell? ⟨B, 3, none⟩ = some a3 ∧ W.cell? ⟨B, 4, none⟩ = some a4 ∧ W.cell? ⟨B, 5, none⟩ = some a5) : ((((((W.setCell ⟨b, 0, none⟩ g0).setCell ⟨b, 1, none⟩ g1).setCell ⟨b, 2, none⟩ g2).setCell ⟨b, 3, none⟩ g3).setCell ⟨b, 4, none⟩ g4).setCell ⟨b, 5, none⟩ g5).cell? ⟨B, 0, none⟩ = some a0 ∧ ((((((W.setCell ⟨b, 0, none⟩ g0).setCell ⟨b, 1, none⟩ g1).setCell ⟨b, 2, none⟩ g2).setCell ⟨b, 3, none⟩ g3).setCell ⟨b, 4, none⟩ g4).setCell ⟨b, 5, none⟩ g5).cell? ⟨B, 1, none⟩ = some a1 ∧ ((((((W.setCell ⟨b, 0, none⟩ g0).setCell ⟨b, 1, none⟩ g1).setCell ⟨b, 2, none⟩ g2).setCell ⟨b, 3, none⟩ g3).setCell ⟨b, 4, none⟩ g4).setCell ⟨b, 5, none⟩ g5).cell? ⟨B, 2, none⟩ = some a2 ∧ ((((((W.setCell ⟨b, 0, none⟩ g0).setCell ⟨b, 1, none⟩ g1).setCell ⟨b, 2, none⟩ g2).setCell ⟨b, 3, none⟩ g3).setCell ⟨b, 4, none⟩ g4).setCell ⟨b, 5, none⟩ g5).cell? ⟨B, 3, none⟩ = some a3 ∧ ((((((W.setCell ⟨b, 0, none⟩ g0).setCell ⟨b, 1, none⟩ g1).setCell ⟨b, 2, none⟩ g2).setCell ⟨b, 3, none⟩ g3).setCell ⟨b, 4, none⟩ g4).setCell ⟨b, 5, none⟩ g5).cell? ⟨B, 4, none⟩ = some a4 ∧ ((((((W.setCell ⟨b, 0, none⟩ g0).setCell ⟨b, 1, none⟩ g1).setCell ⟨b, 2, none⟩ g2).setCell ⟨b, 3, none⟩ g3).setCell ⟨b, 4, none⟩ g4).setCell ⟨b, 5, none⟩ g5).cell? ⟨B, 5, none⟩ = some a5 := by
  have t : ∀ (X : World) (j k : Nat) (v u : Value), X.cell? ⟨B, j, none⟩ = some v → (X.setCell ⟨b, k, none⟩ u).cell? ⟨B, j, none⟩ = some v := fun X j k v u h => cell_away h hne
  exact ⟨t _ _ _ _ _ (t _ _ _ _ _ (t _ _ _ _ _ (t _ _ _ _ _ (t _ _ _ _ _ (t _ _ _ _ _ h.1))))), t _ _ _ _ _ (t _ _ _ _ _ (t _ _ _ _ _ (t _ _ _ _ _ (t _ _ _ _ _ (t _ _ _ _ _ h.2.1))))), t _ _ _ _ _ (t _ _ _ _ _ (t _ _ _ _ _ (t _ _ _ _ _ (t _ _ _ _ _ (t _ _ _ _ _ h.2.2.1))))), t _ _ _ _ _ (t _ _ _ _ _ (t _ _ _ _ _ (t _ _ _ _ _ (t _ _ _ _ _ (t _ _ _ _ _ h.2.2.2.1))))), t _ _ _ _ _ (t _ _ _ _ _ (t _ _ _ _ _ (t _ _ _ _ _ (t _ _ _ _ _ (t _ _ _ _ _ h.2.2.2.2.1))))), t _ _ _ _ _ (t _ _ _ _ _ (t _ _ _ _ _ (t _ _ _ _ _ (t _ _ _ _ _ (t _ _ _ _ _ h.2.2.2.2.2)))))⟩
theorem RdW.put (h : RdW w W g B w0 w1 w2 w3 w4 pr al) (v : Int) : RdW w (W.setCell ⟨B, 0, none⟩ (.int .i64 v)) g B w0 w1 w2 w3 w4 v al := by
  have hle := h.le
  have hgw := h.gw
  have a0 := h.r0
  have a1 := h.r1
  have a2 := h.r2
  have a3 := h.r3
  have a4 := h.r4
  have a5 := h.r5
  exact ⟨h.below.setCell (Nat.le_of_lt h.le) _, by simpa using h.lt, h.le, h.gw, fun j hj => cell_away (h.c j hj) (by show w.heap.size ≠ B; omega), cell_away h.c5 (by show w.heap.size ≠ B; omega), fun j => by rw [World.frozen?_setCell]; exact h.cf j,
    cell_away h.q0 (by show g ≠ B; omega), cell_away h.q1 (by show g ≠ B; omega), cell_away h.q2 (by show g ≠ B; omega), cell_away h.q3 (by show g ≠ B; omega), cell_away h.q4 (by show g ≠ B; omega),
    by simp [go_sem, a0], by simp [go_sem, a1], by simp [go_sem, a2], by simp [go_sem, a3], by simp [go_sem, a4], by simp [go_sem, a5],
    cell_away h.n0 (by show B + 1 ≠ B; omega), cell_away h.n1 (by show B + 1 ≠ B; omega), cell_away h.n2 (by show B + 1 ≠ B; omega), cell_away h.n3 (by show B + 1 ≠ B; omega), fun j => by rw [World.frozen?_setCell]; exact h.rf j⟩
/-- The proto as far as the first k words tell. -/
def pvk (l : List UInt8) (k : Nat) : Int := if l = [97, 110, 121] ∧ 0 < k then 0 else if l = [105, 99, 109, 112] ∧ 1 < k then 1 else if l = [116, 99, 112] ∧ 2 < k then 6 else if l = [117, 100, 112] ∧ 3 < k then 17 else -1
theorem pvk_zero (l : List UInt8) : pvk l 0 = -1 := by simp [pvk]
theorem pvk_miss (l : List UInt8) : ∀ k, k < 4 → (k = 0 → l ≠ [97, 110, 121]) → (k = 1 → l ≠ [105, 99, 109, 112]) → (k = 2 → l ≠ [116, 99, 112]) → (k = 3 → l ≠ [117, 100, 112]) → pvk l (k + 1) = pvk l k := by
  intro k hk h0 h1 h2 h3
  have : k = 0 ∨ k = 1 ∨ k = 2 ∨ k = 3 := by omega
  rcases this with rfl | rfl | rfl | rfl
  · have := h0 rfl; simp [pvk, this]
  · have := h1 rfl; simp [pvk, this]
  · have := h2 rfl; simp [pvk, this]
  · have := h3 rfl; simp [pvk, this]
theorem pvk_four (s : ByteArray) : pvk s.toList 4 = if pnB s then pnV s else -1 := by
  unfold pvk pnB pnV
  by_cases h0 : s.toList = [97, 110, 121]
  · simp [h0]
  by_cases h1 : s.toList = [105, 99, 109, 112]
  · simp [h1]
  by_cases h2 : s.toList = [116, 99, 112]
  · simp [h2]
  by_cases h3 : s.toList = [117, 100, 112]
  · simp [h3]
  · simp [h0, h1, h2, h3]
set_option maxHeartbeats 8000000 in
theorem l07Read_five (t w0 w1 w2 w3 w4 : ByteArray) (w : World) (hW : ∀ w, Calls Tryd.prog 70 #[.string t] w fun e w' => ∃ g c : Nat, e = .returned (.slice (some ⟨g, 0, none⟩) 5 c) ∧ w.heap.size ≤ g ∧ (w'.cell? ⟨g, 0, none⟩ = some (.string w0) ∧ w'.cell? ⟨g, 1, none⟩ = some (.string w1) ∧ w'.cell? ⟨g, 2, none⟩ = some (.string w2) ∧ w'.cell? ⟨g, 3, none⟩ = some (.string w3) ∧ w'.cell? ⟨g, 4, none⟩ = some (.string w4)) ∧ Below w.heap.size w w') (z2 : w2.size ≤ 65536) (z3 : w3.size ≤ 65536) (z4 : w4.size ≤ 65536)
    (al : Bool) (ha : al = (w0.toList == [97, 108, 108, 111, 119])) (hd : (w0.toList == [97, 108, 108, 111, 119]) = true ∨ (w0.toList == [100, 101, 110, 121]) = true) (rd : Bool) (v0 v1 : Int)
    (hN : ∀ w, Calls Tryd.prog 73 #[.string w2] w fun e w' => ∃ n0 n1, e = .returned (.tuple #[.agg #[.int .i64 n0, .int .i64 n1], .bool rd]) ∧ (rd = true → n0 = v0 ∧ n1 = v1) ∧ Below w.heap.size w w') (zz : Bool) (hz : zz = (pnB w1 && (rd && (rnB w3 && (rnB w4 && ruB ⟨pnV w1, v0, v1, rnV w3, rnV w4, al⟩))))) :
    Calls Tryd.prog 41 #[.string t] w fun e w' => RdPost zz (pnV w1) v0 v1 (rnV w3) (rnV w4) al w e w' := by
  have HW : Hid (∀ w, Calls Tryd.prog 70 #[.string t] w fun e w' => ∃ g c : Nat, e = .returned (.slice (some ⟨g, 0, none⟩) 5 c) ∧ w.heap.size ≤ g ∧ (w'.cell? ⟨g, 0, none⟩ = some (.string w0) ∧ w'.cell? ⟨g, 1, none⟩ = some (.string w1) ∧ w'.cell? ⟨g, 2, none⟩ = some (.string w2) ∧ w'.cell? ⟨g, 3, none⟩ = some (.string w3) ∧ w'.cell? ⟨g, 4, none⟩ = some (.string w4)) ∧ Below w.heap.size w w') := hW
  have HN : Hid (∀ w, Calls Tryd.prog 73 #[.string w2] w fun e w' => ∃ n0 n1, e = .returned (.tuple #[.agg #[.int .i64 n0, .int .i64 n1], .bool rd]) ∧ (rd = true → n0 = v0 ∧ n1 = v1) ∧ Below w.heap.size w w') := hN
  have HP : Hid (∀ w, Calls Tryd.prog 71 #[] w fun e w' => e = .returned (.slice (some ⟨w.heap.size, 0, none⟩) 4 4) ∧ w' = w.alloc (.cells #[.string ⟨#[97, 110, 121]⟩, .string ⟨#[105, 99, 109, 112]⟩, .string ⟨#[116, 99, 112]⟩, .string ⟨#[117, 100, 112]⟩] 9)) := fun w => protos_any w
  have HQ : Hid (∀ w, Calls Tryd.prog 72 #[] w fun e w' => e = .returned (.slice (some ⟨w.heap.size, 0, none⟩) 4 4) ∧ w' = w.alloc (.cells #[.int .i64 0, .int .i64 1, .int .i64 6, .int .i64 17] 3)) := fun w => protoNums_any w
  have H3 : Hid (∀ w, Calls Tryd.prog 74 #[.string w3] w fun e w' => e = .returned (.tuple #[.int .i64 (rnV w3), .bool (rnB w3)]) ∧ w' = w) := fun w => l00Number_any w3 w (by omega)
  have H4 : Hid (∀ w, Calls Tryd.prog 74 #[.string w4] w fun e w' => e = .returned (.tuple #[.int .i64 (rnV w4), .bool (rnB w4)]) ∧ w' = w) := fun w => l00Number_any w4 w (by omega)
  have HZ : Hid (zz = (pnB w1 && (rd && (rnB w3 && (rnB w4 && ruB ⟨pnV w1, v0, v1, rnV w3, rnV w4, al⟩))))) := hz
  clear hW hN hz
  generalize rnB w3 = q3 at H3 HZ
  generalize rnV w3 = l3 at H3 HZ ⊢
  generalize rnB w4 = q4 at H4 HZ
  generalize rnV w4 = l4 at H4 HZ ⊢
  cases al with
  | false =>
    have t0 : (w0.toList == [97, 108, 108, 111, 119]) = false := ha.symm
    have t1 : (w0.toList == [100, 101, 110, 121]) = true := by
      rcases hd with h | h
      · rw [← ha] at h; cases h
      · exact h
    clear ha hd
    go_enter Tryd.func41, Tryd.ntmps41
    go_wp2_with fail
    refine (HW.out _).mono ?_
    rintro e wx1 ⟨g, cw, rfl, hg, hq, bx⟩
    have c1_0_0 : wx1.cell? ⟨w.heap.size, 0, none⟩ = some (.int .i64 0) := bkeep bx (by simp [go_sem])
    have f1_0_0 : wx1.frozen? ⟨w.heap.size, 0, none⟩ = false := bthaw bx (v := .int .i64 0) (by simp [go_sem]) (by simp [go_sem])
    have c1_0_1 : wx1.cell? ⟨w.heap.size, 1, none⟩ = some (.int .i64 0) := bkeep bx (by simp [go_sem])
    have f1_0_1 : wx1.frozen? ⟨w.heap.size, 1, none⟩ = false := bthaw bx (v := .int .i64 0) (by simp [go_sem]) (by simp [go_sem])
    have c1_0_2 : wx1.cell? ⟨w.heap.size, 2, none⟩ = some (.int .i64 0) := bkeep bx (by simp [go_sem])
    have f1_0_2 : wx1.frozen? ⟨w.heap.size, 2, none⟩ = false := bthaw bx (v := .int .i64 0) (by simp [go_sem]) (by simp [go_sem])
    have c1_0_3 : wx1.cell? ⟨w.heap.size, 3, none⟩ = some (.int .i64 0) := bkeep bx (by simp [go_sem])
    have f1_0_3 : wx1.frozen? ⟨w.heap.size, 3, none⟩ = false := bthaw bx (v := .int .i64 0) (by simp [go_sem]) (by simp [go_sem])
    have c1_0_4 : wx1.cell? ⟨w.heap.size, 4, none⟩ = some (.int .i64 0) := bkeep bx (by simp [go_sem])
    have f1_0_4 : wx1.frozen? ⟨w.heap.size, 4, none⟩ = false := bthaw bx (v := .int .i64 0) (by simp [go_sem]) (by simp [go_sem])
    have c1_0_5 : wx1.cell? ⟨w.heap.size, 5, none⟩ = some (.bool false) := bkeep bx (by simp [go_sem])
    have f1_0_5 : wx1.frozen? ⟨w.heap.size, 5, none⟩ = false := bthaw bx (v := .bool false) (by simp [go_sem]) (by simp [go_sem])
    have BX1 : Hid (Below w.heap.size w wx1) := ((Below.refl w.heap.size w).alloc (by simp <;> omega) _).trans (bx.mono (by simp <;> omega))
    have fz1 : ∀ j, wx1.frozen? ⟨w.heap.size, j, none⟩ = false := fun j => by rw [bx.frozen (p := ⟨w.heap.size, j, none⟩) (by simp)]; simp [go_sem]
    clear bx
    obtain ⟨c1_1_0, c1_1_1, c1_1_2, c1_1_3, c1_1_4⟩ := hq
    have lg : g < wx1.heap.size := World.block_lt_of_cell? wx1 _ c1_1_0
    have lw : w.heap.size < wx1.heap.size := World.block_lt_of_cell? wx1 _ c1_0_0
    have X0 : Hid (RdW w ((wx1.alloc (.cells #[.int .i64 (-1), .int .i64 0, .int .i64 0, .int .i64 0, .int .i64 0, .bool false] 44)).alloc (.cells #[.string ⟨#[97, 110, 121]⟩, .string ⟨#[105, 99, 109, 112]⟩, .string ⟨#[116, 99, 112]⟩, .string ⟨#[117, 100, 112]⟩] 9)) g wx1.heap.size w0 w1 w2 w3 w4 (-1) false) := by
      refine ⟨(BX1.out.alloc BX1.out.size _).alloc (by have := BX1.out.size; simp; omega) _, by simp, lw, lg, fun j hj => ?_, acell (acell c1_0_5 _) _, fun j => ?_, acell (acell c1_1_0 _) _, acell (acell c1_1_1 _) _, acell (acell c1_1_2 _) _, acell (acell c1_1_3 _) _, acell (acell c1_1_4 _) _, by simp [go_sem], by simp [go_sem], by simp [go_sem], by simp [go_sem], by simp [go_sem], by simp [go_sem], by simp [go_sem], by simp [go_sem], by simp [go_sem], by simp [go_sem], fun j => by simp [go_sem]⟩
      · have : j = 0 ∨ j = 1 ∨ j = 2 ∨ j = 3 ∨ j = 4 := by omega
        rcases this with rfl | rfl | rfl | rfl | rfl
        · exact acell (acell c1_0_0 _) _
        · exact acell (acell c1_0_1 _) _
        · exact acell (acell c1_0_2 _) _
        · exact acell (acell c1_0_3 _) _
        · exact acell (acell c1_0_4 _) _
      · have hb : Below wx1.heap.size wx1 ((wx1.alloc (.cells #[.int .i64 (-1), .int .i64 0, .int .i64 0, .int .i64 0, .int .i64 0, .bool false] 44)).alloc (.cells #[.string ⟨#[97, 110, 121]⟩, .string ⟨#[105, 99, 109, 112]⟩, .string ⟨#[116, 99, 112]⟩, .string ⟨#[117, 100, 112]⟩] 9)) := ((Below.refl _ _).alloc (Nat.le_refl _) _).alloc (by simp) _
        rw [hb.frozen (p := ⟨w.heap.size, j, none⟩) lw]
        exact fz1 j
    
    clear c1_0_0 f1_0_0 c1_0_1 f1_0_1 c1_0_2 f1_0_2 c1_0_3 f1_0_3 c1_0_4 f1_0_4 c1_0_5 f1_0_5 BX1 hg fz1 lw lg
    go_wp2_with fail
    refine (HP.out _).mono ?_
    rintro e w7 ⟨rfl, rfl⟩
    go_wp2_with fail
    generalize ((wx1.alloc (.cells #[.int .i64 (-1), .int .i64 0, .int .i64 0, .int .i64 0, .int .i64 0, .bool false] 44)).alloc (.cells #[.string ⟨#[97, 110, 121]⟩, .string ⟨#[105, 99, 109, 112]⟩, .string ⟨#[116, 99, 112]⟩, .string ⟨#[117, 100, 112]⟩] 9)) = W0 at X0 ⊢
    obtain ⟨B, hB⟩ : ∃ B, B = wx1.heap.size := ⟨_, rfl⟩
    rw [← hB] at X0 ⊢
    clear hB c1_1_0 c1_1_1 c1_1_2 c1_1_3 c1_1_4
    go_loopw [7] (fun i wr => ∃ (k : Nat) (pr : Int), k ≤ 4 ∧ i = .int .i64 k ∧ Hid (pr = pvk w1.toList k) ∧ Hid (RdW w wr g B w0 w1 w2 w3 w4 pr false)) (fun i _ => 4 - (intOf i).toNat)
    case atStart => exact ⟨0, -1, by omega, rfl, (pvk_zero _).symm, X0.out⟩
    case round =>
      obtain ⟨k, pr, hk, rfl, HV, X⟩ := hrel
      clear X0
      have hkk : k = 0 ∨ k = 1 ∨ k = 2 ∨ k = 3 ∨ k = 4 := by omega
      have e1 := X.out.q1
      have er := X.out.r0
      have ef := X.out.rf 0
      have XD : Hid (RdW w wr.drew g B w0 w1 w2 w3 w4 pr false) := X.out.keep (Below.refl _ _).drew
      rcases hkk with rfl | rfl | rfl | rfl | rfl
      · by_cases hl : w1.toList = [97, 110, 121]
        · have hq : ([97, 110, 121] == w1.toList) = true := by rw [hl]; rfl
          have hq2 : (w1.toList == [97, 110, 121]) = true := by rw [hl]; rfl
          have HV' : Hid ((0 : Int) = pvk w1.toList 1) := by
            show _ = _
            rw [hl]
            rfl
          clear hl
          have en := X.out.n0
          go_wp2_with fail
          refine wp_region_held_drew (S := (fun wx => wx.cell? ⟨B + 1, 0, none⟩ = some (.string ⟨#[97, 110, 121]⟩) ∧ wx.cell? ⟨g, 1, none⟩ = some (.string w1))) (by kernel_rfl) ?_ (fun hH0 => ?_)
          · exact ⟨en, e1⟩
          refine wpAnyH_take (i := 0) (v := ?v20001) rfl (by kernel_rfl) (by kernel_rfl) (by kernel_rfl) (fun _ _ _ h => h) (Or.inl ⟨by rfl, ?hy20001⟩) (by assumption) ?rest20001
          case hy20001 => (intro w hSw; (try dsimp only at hSw); go_simp; (try with_reducible rfl))
          refine wpAnyH_take (i := 1) (v := ?v20002) rfl (by kernel_rfl) (by kernel_rfl) (by kernel_rfl) (fun _ _ _ h => h) (Or.inl ⟨by rfl, ?hy20002⟩) (by assumption) ?rest20002
          case hy20002 => (intro w hSw; (try dsimp only at hSw); go_simp; (try with_reducible rfl))
          refine wpAnyH_take (i := 2) (v := ?v20003) rfl (by kernel_rfl) (by kernel_rfl) (by kernel_rfl) (fun _ _ _ h => h) (Or.inl ⟨by rfl, ?hy20003⟩) (by assumption) ?rest20003
          case hy20003 => (intro w hSw; (try dsimp only at hSw); go_simp; (try with_reducible rfl))
          refine wpAnyH_take (i := 3) (v := ?v20004) rfl (by kernel_rfl) (by kernel_rfl) (by kernel_rfl) (fun _ _ _ h => h) (Or.inl ⟨by rfl, ?hy20004⟩) (by assumption) ?rest20004
          case hy20004 => (intro w hSw; (try dsimp only at hSw); go_simp; (try with_reducible rfl))
          refine wpAnyH_take (i := 4) (v := ?v20005) rfl (by kernel_rfl) (by kernel_rfl) (by kernel_rfl) (fun _ _ _ h => h) (Or.inl ⟨by rfl, ?hy20005⟩) (by assumption) ?rest20005
          case hy20005 => (intro w hSw; (try dsimp only at hSw); go_simp; (try with_reducible rfl))
          refine wpAnyH_take (i := 5) (v := ?v20006) rfl (by kernel_rfl) (by kernel_rfl) (by kernel_rfl) (fun _ _ _ h => h) (Or.inl ⟨by rfl, ?hy20006⟩) (by assumption) ?rest20006
          case hy20006 => (intro w hSw; (try dsimp only at hSw); go_simp; (try with_reducible rfl))
          refine wpAnyH_take (i := 6) (v := ?v20007) rfl (by kernel_rfl) (by kernel_rfl) (by kernel_rfl) (fun _ _ _ h => h) (Or.inl ⟨by rfl, ?hy20007⟩) (by assumption) ?rest20007
          case hy20007 => (intro w hSw; (try dsimp only at hSw); go_simp; (try with_reducible rfl))
          refine wpAnyH_take (i := 7) (v := ?v20008) rfl (by kernel_rfl) (by kernel_rfl) (by kernel_rfl) (fun _ _ _ h => h) (Or.inl ⟨by rfl, ?hy20008⟩) (by assumption) ?rest20008
          case hy20008 => (intro w hSw; (try dsimp only at hSw); go_simp; (try with_reducible rfl))
          refine wpAnyH_done (by kernel_rfl) ?_ _
          go_simp
          go_wp2_with fail
          refine (HQ.out _).mono ?_
          rintro e w6 ⟨rfl, rfl⟩
          have XA : Hid (RdW w ((wr.setCell ⟨B, 0, none⟩ (.int .i64 0)).alloc (.cells #[.int .i64 0, .int .i64 1, .int .i64 6, .int .i64 17] 3)).drew g B w0 w1 w2 w3 w4 0 false) := ((X.out.put 0).keep ((Below.refl _ _).alloc (Nat.le_refl _) _)).keep (Below.refl _ _).drew
          have hz : B < wr.heap.size := by have := X.out.lt; omega
          have er2 : (wr.drew.alloc (.cells #[.int .i64 0, .int .i64 1, .int .i64 6, .int .i64 17] 3)).cell? ⟨B, 0, none⟩ = some (.int .i64 pr) := acell er _
          have ef2 : (wr.drew.alloc (.cells #[.int .i64 0, .int .i64 1, .int .i64 6, .int .i64 17] 3)).frozen? ⟨B, 0, none⟩ = false := bthaw ((Below.refl _ _).alloc (Nat.le_refl _) _) (show wr.drew.cell? _ = _ from er) ef
          go_wp2
          go_roundw
          case rel => exact ⟨0 + 1, 0, by omega, by go_num, HV', XA⟩
          case measure => simp [intOf]
        · have hq : ([97, 110, 121] == w1.toList) = false := by rw [beq_eq_false_iff_ne]; exact fun h => hl h.symm
          have hq2 : (w1.toList == [97, 110, 121]) = false := by rw [beq_eq_false_iff_ne]; exact hl
          have HV' : Hid (pr = pvk w1.toList (0 + 1)) := by
            show _ = _
            rw [HV.out, pvk_miss w1.toList 0 (by omega) (fun _ => hl) (fun h => by omega) (fun h => by omega) (fun h => by omega)]
          clear hl
          have en := X.out.n0
          go_wp2_with fail
          refine wp_region_held_drew (S := (fun wx => wx.cell? ⟨B + 1, 0, none⟩ = some (.string ⟨#[97, 110, 121]⟩) ∧ wx.cell? ⟨g, 1, none⟩ = some (.string w1))) (by kernel_rfl) ?_ (fun hH0 => ?_)
          · exact ⟨en, e1⟩
          refine wpAnyH_take (i := 0) (v := ?v20501) rfl (by kernel_rfl) (by kernel_rfl) (by kernel_rfl) (fun _ _ _ h => h) (Or.inl ⟨by rfl, ?hy20501⟩) (by assumption) ?rest20501
          case hy20501 => (intro w hSw; (try dsimp only at hSw); go_simp; (try with_reducible rfl))
          refine wpAnyH_take (i := 1) (v := ?v20502) rfl (by kernel_rfl) (by kernel_rfl) (by kernel_rfl) (fun _ _ _ h => h) (Or.inl ⟨by rfl, ?hy20502⟩) (by assumption) ?rest20502
          case hy20502 => (intro w hSw; (try dsimp only at hSw); go_simp; (try with_reducible rfl))
          refine wpAnyH_take (i := 2) (v := ?v20503) rfl (by kernel_rfl) (by kernel_rfl) (by kernel_rfl) (fun _ _ _ h => h) (Or.inl ⟨by rfl, ?hy20503⟩) (by assumption) ?rest20503
          case hy20503 => (intro w hSw; (try dsimp only at hSw); go_simp; (try with_reducible rfl))
          refine wpAnyH_take (i := 3) (v := ?v20504) rfl (by kernel_rfl) (by kernel_rfl) (by kernel_rfl) (fun _ _ _ h => h) (Or.inl ⟨by rfl, ?hy20504⟩) (by assumption) ?rest20504
          case hy20504 => (intro w hSw; (try dsimp only at hSw); go_simp; (try with_reducible rfl))
          refine wpAnyH_take (i := 4) (v := ?v20505) rfl (by kernel_rfl) (by kernel_rfl) (by kernel_rfl) (fun _ _ _ h => h) (Or.inl ⟨by rfl, ?hy20505⟩) (by assumption) ?rest20505
          case hy20505 => (intro w hSw; (try dsimp only at hSw); go_simp; (try with_reducible rfl))
          refine wpAnyH_take (i := 5) (v := ?v20506) rfl (by kernel_rfl) (by kernel_rfl) (by kernel_rfl) (fun _ _ _ h => h) (Or.inl ⟨by rfl, ?hy20506⟩) (by assumption) ?rest20506
          case hy20506 => (intro w hSw; (try dsimp only at hSw); go_simp; (try with_reducible rfl))
          refine wpAnyH_take (i := 6) (v := ?v20507) rfl (by kernel_rfl) (by kernel_rfl) (by kernel_rfl) (fun _ _ _ h => h) (Or.inl ⟨by rfl, ?hy20507⟩) (by assumption) ?rest20507
          case hy20507 => (intro w hSw; (try dsimp only at hSw); go_simp; (try with_reducible rfl))
          refine wpAnyH_take (i := 7) (v := ?v20508) rfl (by kernel_rfl) (by kernel_rfl) (by kernel_rfl) (fun _ _ _ h => h) (Or.inl ⟨by rfl, ?hy20508⟩) (by assumption) ?rest20508
          case hy20508 => (intro w hSw; (try dsimp only at hSw); go_simp; (try with_reducible rfl))
          refine wpAnyH_done (by kernel_rfl) ?_ _
          go_simp
          go_wp2
          go_roundw
          case rel => exact ⟨0 + 1, pr, by omega, by go_num, HV', XD⟩
          case measure => simp [intOf]
      · by_cases hl : w1.toList = [105, 99, 109, 112]
        · have hq : ([105, 99, 109, 112] == w1.toList) = true := by rw [hl]; rfl
          have hq2 : (w1.toList == [105, 99, 109, 112]) = true := by rw [hl]; rfl
          have HV' : Hid ((1 : Int) = pvk w1.toList 2) := by
            show _ = _
            rw [hl]
            rfl
          clear hl
          have en := X.out.n1
          go_wp2_with fail
          refine wp_region_held_drew (S := (fun wx => wx.cell? ⟨B + 1, 1, none⟩ = some (.string ⟨#[105, 99, 109, 112]⟩) ∧ wx.cell? ⟨g, 1, none⟩ = some (.string w1))) (by kernel_rfl) ?_ (fun hH0 => ?_)
          · exact ⟨en, e1⟩
          refine wpAnyH_take (i := 0) (v := ?v21001) rfl (by kernel_rfl) (by kernel_rfl) (by kernel_rfl) (fun _ _ _ h => h) (Or.inl ⟨by rfl, ?hy21001⟩) (by assumption) ?rest21001
          case hy21001 => (intro w hSw; (try dsimp only at hSw); go_simp; (try with_reducible rfl))
          refine wpAnyH_take (i := 1) (v := ?v21002) rfl (by kernel_rfl) (by kernel_rfl) (by kernel_rfl) (fun _ _ _ h => h) (Or.inl ⟨by rfl, ?hy21002⟩) (by assumption) ?rest21002
          case hy21002 => (intro w hSw; (try dsimp only at hSw); go_simp; (try with_reducible rfl))
          refine wpAnyH_take (i := 2) (v := ?v21003) rfl (by kernel_rfl) (by kernel_rfl) (by kernel_rfl) (fun _ _ _ h => h) (Or.inl ⟨by rfl, ?hy21003⟩) (by assumption) ?rest21003
          case hy21003 => (intro w hSw; (try dsimp only at hSw); go_simp; (try with_reducible rfl))
          refine wpAnyH_take (i := 3) (v := ?v21004) rfl (by kernel_rfl) (by kernel_rfl) (by kernel_rfl) (fun _ _ _ h => h) (Or.inl ⟨by rfl, ?hy21004⟩) (by assumption) ?rest21004
          case hy21004 => (intro w hSw; (try dsimp only at hSw); go_simp; (try with_reducible rfl))
          refine wpAnyH_take (i := 4) (v := ?v21005) rfl (by kernel_rfl) (by kernel_rfl) (by kernel_rfl) (fun _ _ _ h => h) (Or.inl ⟨by rfl, ?hy21005⟩) (by assumption) ?rest21005
          case hy21005 => (intro w hSw; (try dsimp only at hSw); go_simp; (try with_reducible rfl))
          refine wpAnyH_take (i := 5) (v := ?v21006) rfl (by kernel_rfl) (by kernel_rfl) (by kernel_rfl) (fun _ _ _ h => h) (Or.inl ⟨by rfl, ?hy21006⟩) (by assumption) ?rest21006
          case hy21006 => (intro w hSw; (try dsimp only at hSw); go_simp; (try with_reducible rfl))
          refine wpAnyH_take (i := 6) (v := ?v21007) rfl (by kernel_rfl) (by kernel_rfl) (by kernel_rfl) (fun _ _ _ h => h) (Or.inl ⟨by rfl, ?hy21007⟩) (by assumption) ?rest21007
          case hy21007 => (intro w hSw; (try dsimp only at hSw); go_simp; (try with_reducible rfl))
          refine wpAnyH_take (i := 7) (v := ?v21008) rfl (by kernel_rfl) (by kernel_rfl) (by kernel_rfl) (fun _ _ _ h => h) (Or.inl ⟨by rfl, ?hy21008⟩) (by assumption) ?rest21008
          case hy21008 => (intro w hSw; (try dsimp only at hSw); go_simp; (try with_reducible rfl))
          refine wpAnyH_done (by kernel_rfl) ?_ _
          go_simp
          go_wp2_with fail
          refine (HQ.out _).mono ?_
          rintro e w6 ⟨rfl, rfl⟩
          have XA : Hid (RdW w ((wr.setCell ⟨B, 0, none⟩ (.int .i64 1)).alloc (.cells #[.int .i64 0, .int .i64 1, .int .i64 6, .int .i64 17] 3)).drew g B w0 w1 w2 w3 w4 1 false) := ((X.out.put 1).keep ((Below.refl _ _).alloc (Nat.le_refl _) _)).keep (Below.refl _ _).drew
          have hz : B < wr.heap.size := by have := X.out.lt; omega
          have er2 : (wr.drew.alloc (.cells #[.int .i64 0, .int .i64 1, .int .i64 6, .int .i64 17] 3)).cell? ⟨B, 0, none⟩ = some (.int .i64 pr) := acell er _
          have ef2 : (wr.drew.alloc (.cells #[.int .i64 0, .int .i64 1, .int .i64 6, .int .i64 17] 3)).frozen? ⟨B, 0, none⟩ = false := bthaw ((Below.refl _ _).alloc (Nat.le_refl _) _) (show wr.drew.cell? _ = _ from er) ef
          go_wp2
          go_roundw
          case rel => exact ⟨1 + 1, 1, by omega, by go_num, HV', XA⟩
          case measure => simp [intOf]
        · have hq : ([105, 99, 109, 112] == w1.toList) = false := by rw [beq_eq_false_iff_ne]; exact fun h => hl h.symm
          have hq2 : (w1.toList == [105, 99, 109, 112]) = false := by rw [beq_eq_false_iff_ne]; exact hl
          have HV' : Hid (pr = pvk w1.toList (1 + 1)) := by
            show _ = _
            rw [HV.out, pvk_miss w1.toList 1 (by omega) (fun h => by omega) (fun _ => hl) (fun h => by omega) (fun h => by omega)]
          clear hl
          have en := X.out.n1
          go_wp2_with fail
          refine wp_region_held_drew (S := (fun wx => wx.cell? ⟨B + 1, 1, none⟩ = some (.string ⟨#[105, 99, 109, 112]⟩) ∧ wx.cell? ⟨g, 1, none⟩ = some (.string w1))) (by kernel_rfl) ?_ (fun hH0 => ?_)
          · exact ⟨en, e1⟩
          refine wpAnyH_take (i := 0) (v := ?v21501) rfl (by kernel_rfl) (by kernel_rfl) (by kernel_rfl) (fun _ _ _ h => h) (Or.inl ⟨by rfl, ?hy21501⟩) (by assumption) ?rest21501
          case hy21501 => (intro w hSw; (try dsimp only at hSw); go_simp; (try with_reducible rfl))
          refine wpAnyH_take (i := 1) (v := ?v21502) rfl (by kernel_rfl) (by kernel_rfl) (by kernel_rfl) (fun _ _ _ h => h) (Or.inl ⟨by rfl, ?hy21502⟩) (by assumption) ?rest21502
          case hy21502 => (intro w hSw; (try dsimp only at hSw); go_simp; (try with_reducible rfl))
          refine wpAnyH_take (i := 2) (v := ?v21503) rfl (by kernel_rfl) (by kernel_rfl) (by kernel_rfl) (fun _ _ _ h => h) (Or.inl ⟨by rfl, ?hy21503⟩) (by assumption) ?rest21503
          case hy21503 => (intro w hSw; (try dsimp only at hSw); go_simp; (try with_reducible rfl))
          refine wpAnyH_take (i := 3) (v := ?v21504) rfl (by kernel_rfl) (by kernel_rfl) (by kernel_rfl) (fun _ _ _ h => h) (Or.inl ⟨by rfl, ?hy21504⟩) (by assumption) ?rest21504
          case hy21504 => (intro w hSw; (try dsimp only at hSw); go_simp; (try with_reducible rfl))
          refine wpAnyH_take (i := 4) (v := ?v21505) rfl (by kernel_rfl) (by kernel_rfl) (by kernel_rfl) (fun _ _ _ h => h) (Or.inl ⟨by rfl, ?hy21505⟩) (by assumption) ?rest21505
          case hy21505 => (intro w hSw; (try dsimp only at hSw); go_simp; (try with_reducible rfl))
          refine wpAnyH_take (i := 5) (v := ?v21506) rfl (by kernel_rfl) (by kernel_rfl) (by kernel_rfl) (fun _ _ _ h => h) (Or.inl ⟨by rfl, ?hy21506⟩) (by assumption) ?rest21506
          case hy21506 => (intro w hSw; (try dsimp only at hSw); go_simp; (try with_reducible rfl))
          refine wpAnyH_take (i := 6) (v := ?v21507) rfl (by kernel_rfl) (by kernel_rfl) (by kernel_rfl) (fun _ _ _ h => h) (Or.inl ⟨by rfl, ?hy21507⟩) (by assumption) ?rest21507
          case hy21507 => (intro w hSw; (try dsimp only at hSw); go_simp; (try with_reducible rfl))
          refine wpAnyH_take (i := 7) (v := ?v21508) rfl (by kernel_rfl) (by kernel_rfl) (by kernel_rfl) (fun _ _ _ h => h) (Or.inl ⟨by rfl, ?hy21508⟩) (by assumption) ?rest21508
          case hy21508 => (intro w hSw; (try dsimp only at hSw); go_simp; (try with_reducible rfl))
          refine wpAnyH_done (by kernel_rfl) ?_ _
          go_simp
          go_wp2
          go_roundw
          case rel => exact ⟨1 + 1, pr, by omega, by go_num, HV', XD⟩
          case measure => simp [intOf]
      · by_cases hl : w1.toList = [116, 99, 112]
        · have hq : ([116, 99, 112] == w1.toList) = true := by rw [hl]; rfl
          have hq2 : (w1.toList == [116, 99, 112]) = true := by rw [hl]; rfl
          have HV' : Hid ((6 : Int) = pvk w1.toList 3) := by
            show _ = _
            rw [hl]
            rfl
          clear hl
          have en := X.out.n2
          go_wp2_with fail
          refine wp_region_held_drew (S := (fun wx => wx.cell? ⟨B + 1, 2, none⟩ = some (.string ⟨#[116, 99, 112]⟩) ∧ wx.cell? ⟨g, 1, none⟩ = some (.string w1))) (by kernel_rfl) ?_ (fun hH0 => ?_)
          · exact ⟨en, e1⟩
          refine wpAnyH_take (i := 0) (v := ?v22001) rfl (by kernel_rfl) (by kernel_rfl) (by kernel_rfl) (fun _ _ _ h => h) (Or.inl ⟨by rfl, ?hy22001⟩) (by assumption) ?rest22001
          case hy22001 => (intro w hSw; (try dsimp only at hSw); go_simp; (try with_reducible rfl))
          refine wpAnyH_take (i := 1) (v := ?v22002) rfl (by kernel_rfl) (by kernel_rfl) (by kernel_rfl) (fun _ _ _ h => h) (Or.inl ⟨by rfl, ?hy22002⟩) (by assumption) ?rest22002
          case hy22002 => (intro w hSw; (try dsimp only at hSw); go_simp; (try with_reducible rfl))
          refine wpAnyH_take (i := 2) (v := ?v22003) rfl (by kernel_rfl) (by kernel_rfl) (by kernel_rfl) (fun _ _ _ h => h) (Or.inl ⟨by rfl, ?hy22003⟩) (by assumption) ?rest22003
          case hy22003 => (intro w hSw; (try dsimp only at hSw); go_simp; (try with_reducible rfl))
          refine wpAnyH_take (i := 3) (v := ?v22004) rfl (by kernel_rfl) (by kernel_rfl) (by kernel_rfl) (fun _ _ _ h => h) (Or.inl ⟨by rfl, ?hy22004⟩) (by assumption) ?rest22004
          case hy22004 => (intro w hSw; (try dsimp only at hSw); go_simp; (try with_reducible rfl))
          refine wpAnyH_take (i := 4) (v := ?v22005) rfl (by kernel_rfl) (by kernel_rfl) (by kernel_rfl) (fun _ _ _ h => h) (Or.inl ⟨by rfl, ?hy22005⟩) (by assumption) ?rest22005
          case hy22005 => (intro w hSw; (try dsimp only at hSw); go_simp; (try with_reducible rfl))
          refine wpAnyH_take (i := 5) (v := ?v22006) rfl (by kernel_rfl) (by kernel_rfl) (by kernel_rfl) (fun _ _ _ h => h) (Or.inl ⟨by rfl, ?hy22006⟩) (by assumption) ?rest22006
          case hy22006 => (intro w hSw; (try dsimp only at hSw); go_simp; (try with_reducible rfl))
          refine wpAnyH_take (i := 6) (v := ?v22007) rfl (by kernel_rfl) (by kernel_rfl) (by kernel_rfl) (fun _ _ _ h => h) (Or.inl ⟨by rfl, ?hy22007⟩) (by assumption) ?rest22007
          case hy22007 => (intro w hSw; (try dsimp only at hSw); go_simp; (try with_reducible rfl))
          refine wpAnyH_take (i := 7) (v := ?v22008) rfl (by kernel_rfl) (by kernel_rfl) (by kernel_rfl) (fun _ _ _ h => h) (Or.inl ⟨by rfl, ?hy22008⟩) (by assumption) ?rest22008
          case hy22008 => (intro w hSw; (try dsimp only at hSw); go_simp; (try with_reducible rfl))
          refine wpAnyH_done (by kernel_rfl) ?_ _
          go_simp
          go_wp2_with fail
          refine (HQ.out _).mono ?_
          rintro e w6 ⟨rfl, rfl⟩
          have XA : Hid (RdW w ((wr.setCell ⟨B, 0, none⟩ (.int .i64 6)).alloc (.cells #[.int .i64 0, .int .i64 1, .int .i64 6, .int .i64 17] 3)).drew g B w0 w1 w2 w3 w4 6 false) := ((X.out.put 6).keep ((Below.refl _ _).alloc (Nat.le_refl _) _)).keep (Below.refl _ _).drew
          have hz : B < wr.heap.size := by have := X.out.lt; omega
          have er2 : (wr.drew.alloc (.cells #[.int .i64 0, .int .i64 1, .int .i64 6, .int .i64 17] 3)).cell? ⟨B, 0, none⟩ = some (.int .i64 pr) := acell er _
          have ef2 : (wr.drew.alloc (.cells #[.int .i64 0, .int .i64 1, .int .i64 6, .int .i64 17] 3)).frozen? ⟨B, 0, none⟩ = false := bthaw ((Below.refl _ _).alloc (Nat.le_refl _) _) (show wr.drew.cell? _ = _ from er) ef
          go_wp2
          go_roundw
          case rel => exact ⟨2 + 1, 6, by omega, by go_num, HV', XA⟩
          case measure => simp [intOf]
        · have hq : ([116, 99, 112] == w1.toList) = false := by rw [beq_eq_false_iff_ne]; exact fun h => hl h.symm
          have hq2 : (w1.toList == [116, 99, 112]) = false := by rw [beq_eq_false_iff_ne]; exact hl
          have HV' : Hid (pr = pvk w1.toList (2 + 1)) := by
            show _ = _
            rw [HV.out, pvk_miss w1.toList 2 (by omega) (fun h => by omega) (fun h => by omega) (fun _ => hl) (fun h => by omega)]
          clear hl
          have en := X.out.n2
          go_wp2_with fail
          refine wp_region_held_drew (S := (fun wx => wx.cell? ⟨B + 1, 2, none⟩ = some (.string ⟨#[116, 99, 112]⟩) ∧ wx.cell? ⟨g, 1, none⟩ = some (.string w1))) (by kernel_rfl) ?_ (fun hH0 => ?_)
          · exact ⟨en, e1⟩
          refine wpAnyH_take (i := 0) (v := ?v22501) rfl (by kernel_rfl) (by kernel_rfl) (by kernel_rfl) (fun _ _ _ h => h) (Or.inl ⟨by rfl, ?hy22501⟩) (by assumption) ?rest22501
          case hy22501 => (intro w hSw; (try dsimp only at hSw); go_simp; (try with_reducible rfl))
          refine wpAnyH_take (i := 1) (v := ?v22502) rfl (by kernel_rfl) (by kernel_rfl) (by kernel_rfl) (fun _ _ _ h => h) (Or.inl ⟨by rfl, ?hy22502⟩) (by assumption) ?rest22502
          case hy22502 => (intro w hSw; (try dsimp only at hSw); go_simp; (try with_reducible rfl))
          refine wpAnyH_take (i := 2) (v := ?v22503) rfl (by kernel_rfl) (by kernel_rfl) (by kernel_rfl) (fun _ _ _ h => h) (Or.inl ⟨by rfl, ?hy22503⟩) (by assumption) ?rest22503
          case hy22503 => (intro w hSw; (try dsimp only at hSw); go_simp; (try with_reducible rfl))
          refine wpAnyH_take (i := 3) (v := ?v22504) rfl (by kernel_rfl) (by kernel_rfl) (by kernel_rfl) (fun _ _ _ h => h) (Or.inl ⟨by rfl, ?hy22504⟩) (by assumption) ?rest22504
          case hy22504 => (intro w hSw; (try dsimp only at hSw); go_simp; (try with_reducible rfl))
          refine wpAnyH_take (i := 4) (v := ?v22505) rfl (by kernel_rfl) (by kernel_rfl) (by kernel_rfl) (fun _ _ _ h => h) (Or.inl ⟨by rfl, ?hy22505⟩) (by assumption) ?rest22505
          case hy22505 => (intro w hSw; (try dsimp only at hSw); go_simp; (try with_reducible rfl))
          refine wpAnyH_take (i := 5) (v := ?v22506) rfl (by kernel_rfl) (by kernel_rfl) (by kernel_rfl) (fun _ _ _ h => h) (Or.inl ⟨by rfl, ?hy22506⟩) (by assumption) ?rest22506
          case hy22506 => (intro w hSw; (try dsimp only at hSw); go_simp; (try with_reducible rfl))
          refine wpAnyH_take (i := 6) (v := ?v22507) rfl (by kernel_rfl) (by kernel_rfl) (by kernel_rfl) (fun _ _ _ h => h) (Or.inl ⟨by rfl, ?hy22507⟩) (by assumption) ?rest22507
          case hy22507 => (intro w hSw; (try dsimp only at hSw); go_simp; (try with_reducible rfl))
          refine wpAnyH_take (i := 7) (v := ?v22508) rfl (by kernel_rfl) (by kernel_rfl) (by kernel_rfl) (fun _ _ _ h => h) (Or.inl ⟨by rfl, ?hy22508⟩) (by assumption) ?rest22508
          case hy22508 => (intro w hSw; (try dsimp only at hSw); go_simp; (try with_reducible rfl))
          refine wpAnyH_done (by kernel_rfl) ?_ _
          go_simp
          go_wp2
          go_roundw
          case rel => exact ⟨2 + 1, pr, by omega, by go_num, HV', XD⟩
          case measure => simp [intOf]
      · by_cases hl : w1.toList = [117, 100, 112]
        · have hq : ([117, 100, 112] == w1.toList) = true := by rw [hl]; rfl
          have hq2 : (w1.toList == [117, 100, 112]) = true := by rw [hl]; rfl
          have HV' : Hid ((17 : Int) = pvk w1.toList 4) := by
            show _ = _
            rw [hl]
            rfl
          clear hl
          have en := X.out.n3
          go_wp2_with fail
          refine wp_region_held_drew (S := (fun wx => wx.cell? ⟨B + 1, 3, none⟩ = some (.string ⟨#[117, 100, 112]⟩) ∧ wx.cell? ⟨g, 1, none⟩ = some (.string w1))) (by kernel_rfl) ?_ (fun hH0 => ?_)
          · exact ⟨en, e1⟩
          refine wpAnyH_take (i := 0) (v := ?v23001) rfl (by kernel_rfl) (by kernel_rfl) (by kernel_rfl) (fun _ _ _ h => h) (Or.inl ⟨by rfl, ?hy23001⟩) (by assumption) ?rest23001
          case hy23001 => (intro w hSw; (try dsimp only at hSw); go_simp; (try with_reducible rfl))
          refine wpAnyH_take (i := 1) (v := ?v23002) rfl (by kernel_rfl) (by kernel_rfl) (by kernel_rfl) (fun _ _ _ h => h) (Or.inl ⟨by rfl, ?hy23002⟩) (by assumption) ?rest23002
          case hy23002 => (intro w hSw; (try dsimp only at hSw); go_simp; (try with_reducible rfl))
          refine wpAnyH_take (i := 2) (v := ?v23003) rfl (by kernel_rfl) (by kernel_rfl) (by kernel_rfl) (fun _ _ _ h => h) (Or.inl ⟨by rfl, ?hy23003⟩) (by assumption) ?rest23003
          case hy23003 => (intro w hSw; (try dsimp only at hSw); go_simp; (try with_reducible rfl))
          refine wpAnyH_take (i := 3) (v := ?v23004) rfl (by kernel_rfl) (by kernel_rfl) (by kernel_rfl) (fun _ _ _ h => h) (Or.inl ⟨by rfl, ?hy23004⟩) (by assumption) ?rest23004
          case hy23004 => (intro w hSw; (try dsimp only at hSw); go_simp; (try with_reducible rfl))
          refine wpAnyH_take (i := 4) (v := ?v23005) rfl (by kernel_rfl) (by kernel_rfl) (by kernel_rfl) (fun _ _ _ h => h) (Or.inl ⟨by rfl, ?hy23005⟩) (by assumption) ?rest23005
          case hy23005 => (intro w hSw; (try dsimp only at hSw); go_simp; (try with_reducible rfl))
          refine wpAnyH_take (i := 5) (v := ?v23006) rfl (by kernel_rfl) (by kernel_rfl) (by kernel_rfl) (fun _ _ _ h => h) (Or.inl ⟨by rfl, ?hy23006⟩) (by assumption) ?rest23006
          case hy23006 => (intro w hSw; (try dsimp only at hSw); go_simp; (try with_reducible rfl))
          refine wpAnyH_take (i := 6) (v := ?v23007) rfl (by kernel_rfl) (by kernel_rfl) (by kernel_rfl) (fun _ _ _ h => h) (Or.inl ⟨by rfl, ?hy23007⟩) (by assumption) ?rest23007
          case hy23007 => (intro w hSw; (try dsimp only at hSw); go_simp; (try with_reducible rfl))
          refine wpAnyH_take (i := 7) (v := ?v23008) rfl (by kernel_rfl) (by kernel_rfl) (by kernel_rfl) (fun _ _ _ h => h) (Or.inl ⟨by rfl, ?hy23008⟩) (by assumption) ?rest23008
          case hy23008 => (intro w hSw; (try dsimp only at hSw); go_simp; (try with_reducible rfl))
          refine wpAnyH_done (by kernel_rfl) ?_ _
          go_simp
          go_wp2_with fail
          refine (HQ.out _).mono ?_
          rintro e w6 ⟨rfl, rfl⟩
          have XA : Hid (RdW w ((wr.setCell ⟨B, 0, none⟩ (.int .i64 17)).alloc (.cells #[.int .i64 0, .int .i64 1, .int .i64 6, .int .i64 17] 3)).drew g B w0 w1 w2 w3 w4 17 false) := ((X.out.put 17).keep ((Below.refl _ _).alloc (Nat.le_refl _) _)).keep (Below.refl _ _).drew
          have hz : B < wr.heap.size := by have := X.out.lt; omega
          have er2 : (wr.drew.alloc (.cells #[.int .i64 0, .int .i64 1, .int .i64 6, .int .i64 17] 3)).cell? ⟨B, 0, none⟩ = some (.int .i64 pr) := acell er _
          have ef2 : (wr.drew.alloc (.cells #[.int .i64 0, .int .i64 1, .int .i64 6, .int .i64 17] 3)).frozen? ⟨B, 0, none⟩ = false := bthaw ((Below.refl _ _).alloc (Nat.le_refl _) _) (show wr.drew.cell? _ = _ from er) ef
          go_wp2
          go_roundw
          case rel => exact ⟨3 + 1, 17, by omega, by go_num, HV', XA⟩
          case measure => simp [intOf]
        · have hq : ([117, 100, 112] == w1.toList) = false := by rw [beq_eq_false_iff_ne]; exact fun h => hl h.symm
          have hq2 : (w1.toList == [117, 100, 112]) = false := by rw [beq_eq_false_iff_ne]; exact hl
          have HV' : Hid (pr = pvk w1.toList (3 + 1)) := by
            show _ = _
            rw [HV.out, pvk_miss w1.toList 3 (by omega) (fun h => by omega) (fun h => by omega) (fun h => by omega) (fun _ => hl)]
          clear hl
          have en := X.out.n3
          go_wp2_with fail
          refine wp_region_held_drew (S := (fun wx => wx.cell? ⟨B + 1, 3, none⟩ = some (.string ⟨#[117, 100, 112]⟩) ∧ wx.cell? ⟨g, 1, none⟩ = some (.string w1))) (by kernel_rfl) ?_ (fun hH0 => ?_)
          · exact ⟨en, e1⟩
          refine wpAnyH_take (i := 0) (v := ?v23501) rfl (by kernel_rfl) (by kernel_rfl) (by kernel_rfl) (fun _ _ _ h => h) (Or.inl ⟨by rfl, ?hy23501⟩) (by assumption) ?rest23501
          case hy23501 => (intro w hSw; (try dsimp only at hSw); go_simp; (try with_reducible rfl))
          refine wpAnyH_take (i := 1) (v := ?v23502) rfl (by kernel_rfl) (by kernel_rfl) (by kernel_rfl) (fun _ _ _ h => h) (Or.inl ⟨by rfl, ?hy23502⟩) (by assumption) ?rest23502
          case hy23502 => (intro w hSw; (try dsimp only at hSw); go_simp; (try with_reducible rfl))
          refine wpAnyH_take (i := 2) (v := ?v23503) rfl (by kernel_rfl) (by kernel_rfl) (by kernel_rfl) (fun _ _ _ h => h) (Or.inl ⟨by rfl, ?hy23503⟩) (by assumption) ?rest23503
          case hy23503 => (intro w hSw; (try dsimp only at hSw); go_simp; (try with_reducible rfl))
          refine wpAnyH_take (i := 3) (v := ?v23504) rfl (by kernel_rfl) (by kernel_rfl) (by kernel_rfl) (fun _ _ _ h => h) (Or.inl ⟨by rfl, ?hy23504⟩) (by assumption) ?rest23504
          case hy23504 => (intro w hSw; (try dsimp only at hSw); go_simp; (try with_reducible rfl))
          refine wpAnyH_take (i := 4) (v := ?v23505) rfl (by kernel_rfl) (by kernel_rfl) (by kernel_rfl) (fun _ _ _ h => h) (Or.inl ⟨by rfl, ?hy23505⟩) (by assumption) ?rest23505
          case hy23505 => (intro w hSw; (try dsimp only at hSw); go_simp; (try with_reducible rfl))
          refine wpAnyH_take (i := 5) (v := ?v23506) rfl (by kernel_rfl) (by kernel_rfl) (by kernel_rfl) (fun _ _ _ h => h) (Or.inl ⟨by rfl, ?hy23506⟩) (by assumption) ?rest23506
          case hy23506 => (intro w hSw; (try dsimp only at hSw); go_simp; (try with_reducible rfl))
          refine wpAnyH_take (i := 6) (v := ?v23507) rfl (by kernel_rfl) (by kernel_rfl) (by kernel_rfl) (fun _ _ _ h => h) (Or.inl ⟨by rfl, ?hy23507⟩) (by assumption) ?rest23507
          case hy23507 => (intro w hSw; (try dsimp only at hSw); go_simp; (try with_reducible rfl))
          refine wpAnyH_take (i := 7) (v := ?v23508) rfl (by kernel_rfl) (by kernel_rfl) (by kernel_rfl) (fun _ _ _ h => h) (Or.inl ⟨by rfl, ?hy23508⟩) (by assumption) ?rest23508
          case hy23508 => (intro w hSw; (try dsimp only at hSw); go_simp; (try with_reducible rfl))
          refine wpAnyH_done (by kernel_rfl) ?_ _
          go_simp
          go_wp2
          go_roundw
          case rel => exact ⟨3 + 1, pr, by omega, by go_num, HV', XD⟩
          case measure => simp [intOf]
      · clear XD e1 er ef
        have EP : Hid (pr = if pnB w1 then pnV w1 else -1) := HV.out.trans (pvk_four w1)
        have e2 := X.out.q2
        go_wp2_with fail
        refine (HN.out _).mono ?_
        rintro e wy ⟨n0, n1, rfl, hn, by1⟩
        have X2 : Hid (RdW w (wy.alloc (.cells #[.int .i64 n0, .int .i64 n1] 40)) g B w0 w1 w2 w3 w4 pr false) := (X.out.keep by1).keep ((Below.refl _ _).alloc (Nat.le_refl _) _)
        have HNN : Hid (rd = true → n0 = v0 ∧ n1 = v1) := hn
        have X1 : Hid (RdW w wy g B w0 w1 w2 w3 w4 pr false) := X.out.keep by1
        have y0 := X1.out.r0
        have y1 := X1.out.r1
        have y2 := X1.out.r2
        have y3 := X1.out.r3
        have y4 := X1.out.r4
        have y5 := X1.out.r5
        have yf := X1.out.rf
        have e3 := X2.out.q3
        have e4 := X2.out.q4
        have b0 := X2.out.r0
        have b1 := X2.out.r1
        have b2 := X2.out.r2
        have b3 := X2.out.r3
        have b4 := X2.out.r4
        have b5 := X2.out.r5
        have bf := X2.out.rf
        have hlt := X2.out.lt
        have lBy : B < wy.heap.size := by have := X.out.lt; have := by1.size; omega
        have hBne : B ≠ wy.heap.size := by omega
        clear by1 hn X e2 HV
        go_wp2_with fail
        refine (H3.out _).mono ?_
        rintro e w9 ⟨rfl, rfl⟩
        go_wp2_with fail
        refine (H4.out _).mono ?_
        rintro e w8 ⟨rfl, rfl⟩
        have hle := X1.out.le
        have hne : w.heap.size ≠ B := by omega
        obtain ⟨U, hU⟩ : ∃ U, U = (((wy.setCell ⟨B, 1, none⟩ (.int .i64 n0)).setCell ⟨B, 2, none⟩ (.int .i64 n1)).setCell ⟨B, 3, none⟩ (.int .i64 l3)).setCell ⟨B, 4, none⟩ (.int .i64 l4) := ⟨_, rfl⟩
        have u0 : U.cell? ⟨B, 0, none⟩ = some (.int .i64 pr) := by rw [hU]; simp [go_sem, y0]
        have u1 : U.cell? ⟨B, 1, none⟩ = some (.int .i64 n0) := by rw [hU]; simp [go_sem, y1]
        have u2 : U.cell? ⟨B, 2, none⟩ = some (.int .i64 n1) := by rw [hU]; simp [go_sem, y2]
        have u3 : U.cell? ⟨B, 3, none⟩ = some (.int .i64 l3) := by rw [hU]; simp [go_sem, y3]
        have u4 : U.cell? ⟨B, 4, none⟩ = some (.int .i64 l4) := by rw [hU]; simp [go_sem, y4]
        have u5 : U.cell? ⟨B, 5, none⟩ = some (.bool false) := by rw [hU]; simp [go_sem, y5]
        have cz : ∀ j, j < 5 → U.cell? ⟨w.heap.size, j, none⟩ = some (.int .i64 0) := fun j hj => by rw [hU]; exact cell_away (cell_away (cell_away (cell_away (X1.out.c j hj) hne) hne) hne) hne
        have cz5 : U.cell? ⟨w.heap.size, 5, none⟩ = some (.bool false) := by rw [hU]; exact cell_away (cell_away (cell_away (cell_away X1.out.c5 hne) hne) hne) hne
        have czf : ∀ j, U.frozen? ⟨w.heap.size, j, none⟩ = false := fun j => by rw [hU, World.frozen?_setCell, World.frozen?_setCell, World.frozen?_setCell, World.frozen?_setCell]; exact X1.out.cf j
        have BU : Below w.heap.size w U := by rw [hU]; exact (((X1.out.below.setCell (Nat.le_of_lt hle) _).setCell (Nat.le_of_lt hle) _).setCell (Nat.le_of_lt hle) _).setCell (Nat.le_of_lt hle) _
        have hUs : U.heap.size = wy.heap.size := by rw [hU]; simp
        obtain ⟨V, hV⟩ : ∃ V, V = U.alloc (.cells #[.int .i64 n0, .int .i64 n1] 40) := ⟨_, rfl⟩
        have v0' : V.cell? ⟨B, 0, none⟩ = some (.int .i64 pr) := by rw [hV]; exact acell u0 _
        have v1' : V.cell? ⟨B, 1, none⟩ = some (.int .i64 n0) := by rw [hV]; exact acell u1 _
        have v2' : V.cell? ⟨B, 2, none⟩ = some (.int .i64 n1) := by rw [hV]; exact acell u2 _
        have v3' : V.cell? ⟨B, 3, none⟩ = some (.int .i64 l3) := by rw [hV]; exact acell u3 _
        have v4' : V.cell? ⟨B, 4, none⟩ = some (.int .i64 l4) := by rw [hV]; exact acell u4 _
        have v5' : V.cell? ⟨B, 5, none⟩ = some (.bool false) := by rw [hV]; exact acell u5 _
        have a0 : V.cell? ⟨w.heap.size, 0, none⟩ = some (.int .i64 0) := by rw [hV]; exact acell (cz 0 (by omega)) _
        have a1 : V.cell? ⟨w.heap.size, 1, none⟩ = some (.int .i64 0) := by rw [hV]; exact acell (cz 1 (by omega)) _
        have a2 : V.cell? ⟨w.heap.size, 2, none⟩ = some (.int .i64 0) := by rw [hV]; exact acell (cz 2 (by omega)) _
        have a3 : V.cell? ⟨w.heap.size, 3, none⟩ = some (.int .i64 0) := by rw [hV]; exact acell (cz 3 (by omega)) _
        have a4 : V.cell? ⟨w.heap.size, 4, none⟩ = some (.int .i64 0) := by rw [hV]; exact acell (cz 4 (by omega)) _
        have a5 : V.cell? ⟨w.heap.size, 5, none⟩ = some (.bool false) := by rw [hV]; exact acell cz5 _
        have af : ∀ i, V.frozen? ⟨w.heap.size, i, none⟩ = false := fun i => by
          have hb : Below U.heap.size U V := by rw [hV]; exact (Below.refl _ _).alloc (Nat.le_refl _) _
          rw [hb.frozen (p := ⟨w.heap.size, i, none⟩) (by show w.heap.size < _; omega)]
          exact czf i
        have XV : Hid (Below w.heap.size w V) := by
          show Below _ _ _
          rw [hV]
          exact BU.alloc BU.size _
        have HR : Hid (∀ w, Calls Tryd.prog 75 #[.agg #[.int .i64 pr, .int .i64 n0, .int .i64 n1, .int .i64 l3, .int .i64 l4, .bool false]] w fun e w' => e = .returned (.bool (ruB ⟨pr, n0, n1, l3, l4, false⟩)) ∧ Grw w w') := fun w => specRuleOK_any _ _ _ _ _ _ w
        go_wp2_with fail
        rw [← hU]
        rw [← hV]
        clear u0 u1 u2 u3 u4 u5 cz cz5 czf BU hUs hU hV y0 y1 y2 y3 y4 y5 yf b0 b1 b2 b3 b4 b5 bf e3 e4 X1 X2 hlt lBy hBne
        cases hab : (rd && (q3 && q4)) with
        | false =>
          have ez : zz = false := by
            rw [HZ.out]
            cases rd <;> cases q3 <;> cases q4 <;> simp at hab ⊢
          subst ez
          have hcase : (rd = false) ∨ (rd = true ∧ q3 = false) ∨ (rd = true ∧ q3 = true ∧ q4 = false) := by
            cases rd <;> cases q3 <;> cases q4 <;> simp at hab ⊢
          clear hab HZ
          have FIN : ∀ W, W = (((((V.setCell ⟨w.heap.size, 0, none⟩ (.int .i64 pr)).setCell ⟨w.heap.size, 1, none⟩ (.int .i64 n0)).setCell ⟨w.heap.size, 2, none⟩ (.int .i64 n1)).setCell ⟨w.heap.size, 3, none⟩ (.int .i64 l3)).setCell ⟨w.heap.size, 4, none⟩ (.int .i64 l4)).setCell ⟨w.heap.size, 5, none⟩ (.bool false) → W.cell? ⟨w.heap.size, 0, none⟩ = some (.int .i64 pr) ∧ W.cell? ⟨w.heap.size, 1, none⟩ = some (.int .i64 n0) ∧ W.cell? ⟨w.heap.size, 2, none⟩ = some (.int .i64 n1) ∧ W.cell? ⟨w.heap.size, 3, none⟩ = some (.int .i64 l3) ∧ W.cell? ⟨w.heap.size, 4, none⟩ = some (.int .i64 l4) ∧ W.cell? ⟨w.heap.size, 5, none⟩ = some (.bool false) ∧ Below w.heap.size w W := by
            rintro W rfl
            exact ⟨by simp [go_sem, a0], by simp [go_sem, a1], by simp [go_sem, a2], by simp [go_sem, a3], by simp [go_sem, a4], by simp [go_sem, a5], (((((XV.out.setCell (Nat.le_refl _) _).setCell (Nat.le_refl _) _).setCell (Nat.le_refl _) _).setCell (Nat.le_refl _) _).setCell (Nat.le_refl _) _).setCell (Nat.le_refl _) _⟩
          have FN : Hid (∀ W, W = (((((V.setCell ⟨w.heap.size, 0, none⟩ (.int .i64 pr)).setCell ⟨w.heap.size, 1, none⟩ (.int .i64 n0)).setCell ⟨w.heap.size, 2, none⟩ (.int .i64 n1)).setCell ⟨w.heap.size, 3, none⟩ (.int .i64 l3)).setCell ⟨w.heap.size, 4, none⟩ (.int .i64 l4)).setCell ⟨w.heap.size, 5, none⟩ (.bool false) → W.cell? ⟨w.heap.size, 0, none⟩ = some (.int .i64 pr) ∧ W.cell? ⟨w.heap.size, 1, none⟩ = some (.int .i64 n0) ∧ W.cell? ⟨w.heap.size, 2, none⟩ = some (.int .i64 n1) ∧ W.cell? ⟨w.heap.size, 3, none⟩ = some (.int .i64 l3) ∧ W.cell? ⟨w.heap.size, 4, none⟩ = some (.int .i64 l4) ∧ W.cell? ⟨w.heap.size, 5, none⟩ = some (.bool false) ∧ Below w.heap.size w W) := FIN
          clear FIN
          have done1 : True := trivial
          rcases hcase with e1 | ⟨e1, e2⟩ | ⟨e1, e2, e3⟩
          all_goals
            (try subst e1)
            (try subst e2)
            (try subst e3)
            go_big_region
            obtain ⟨W, hW⟩ : ∃ W, W = (((((V.setCell ⟨w.heap.size, 0, none⟩ (.int .i64 pr)).setCell ⟨w.heap.size, 1, none⟩ (.int .i64 n0)).setCell ⟨w.heap.size, 2, none⟩ (.int .i64 n1)).setCell ⟨w.heap.size, 3, none⟩ (.int .i64 l3)).setCell ⟨w.heap.size, 4, none⟩ (.int .i64 l4)).setCell ⟨w.heap.size, 5, none⟩ (.bool false) := ⟨_, rfl⟩
            obtain ⟨s0, s1, s2, s3, s4, s5, sb⟩ := FN.out W hW
            have XW : Hid (Below w.heap.size w W.drew) := sb.drew
            rw [← hW]
            clear hW FN sb
            go_wp2
            (try simp only [Exit.inBlock, Exit.then])
            refine bodyPost_ret (v := .tuple #[.agg #[.int .i64 pr, .int .i64 n0, .int .i64 n1, .int .i64 l3, .int .i64 l4, .bool false], .bool false]) (by simp [results, Tryd.results41, go_sem, s0, s1, s2, s3, s4, s5]; try rfl) rfl ?_
            exact rdPost_mk (fun h => by cases h) XW.out
        | true =>
          have h3 : rd = true ∧ q3 = true ∧ q4 = true := by
            cases rd <;> cases q3 <;> cases q4 <;> simp at hab ⊢
          clear hab
          obtain ⟨e1, e2, e3⟩ := h3
          subst e1 e2 e3
          obtain ⟨rfl, rfl⟩ := HNN.out rfl
          clear HNN
          obtain ⟨zr, hzr⟩ : ∃ zr, zr = ruB ⟨pr, n0, n1, l3, l4, false⟩ := ⟨_, rfl⟩
          have ER : Hid (zz = zr ∧ (zz = true → pr = pnV w1)) := by
            have e1 := EP.out
            have e2 := HZ.out
            cases hp : pnB w1 with
            | true =>
              rw [hp, if_pos rfl] at e1
              subst e1
              exact ⟨by rw [e2, hp, hzr]; rfl, fun _ => rfl⟩
            | false =>
              rw [hp, if_neg (by simp)] at e1
              subst e1
              have e3 : zr = false := by rw [hzr]; unfold ruB prB; rw [dec_n (by simp)]; rfl
              exact ⟨by rw [e2, hp, e3]; rfl, fun h => by rw [e2, hp] at h; cases h⟩
          rw [← hzr] at HR
          clear hzr HZ EP
          have ez := ER.out.1
          subst ez
          have EQ : Hid (zz = true → pr = pnV w1) := ER.out.2
          clear ER
          have hVl : Hid (B < V.heap.size ∧ w.heap.size < V.heap.size) := ⟨World.block_lt_of_cell? V _ v0', World.block_lt_of_cell? V _ a0⟩
          have hneB : B ≠ w.heap.size := fun e => hne e.symm
          have lw0 : w.heap.size < V.heap.size := hVl.out.2
          clear hVl
          refine wp_region_held_drew (S := (fun wx => wx.cell? ⟨B, 0, none⟩ = some (.int .i64 pr) ∧ wx.cell? ⟨B, 1, none⟩ = some (.int .i64 n0) ∧ wx.cell? ⟨B, 2, none⟩ = some (.int .i64 n1) ∧ wx.cell? ⟨B, 3, none⟩ = some (.int .i64 l3) ∧ wx.cell? ⟨B, 4, none⟩ = some (.int .i64 l4) ∧ wx.cell? ⟨B, 5, none⟩ = some (.bool false))) (by kernel_rfl) ?_ (fun hH0 => ?_)
          · exact ⟨v0', v1', v2', v3', v4', v5'⟩
          refine wpAnyH_take (i := 0) (v := .agg #[.int .i64 pr, .int .i64 n0, .int .i64 n1, .int .i64 l3, .int .i64 l4, .bool false]) rfl (by kernel_rfl) (by kernel_rfl) (by kernel_rfl) (fun _ _ _ h => h) (Or.inl ⟨by rfl, ?hy29001⟩) (by assumption) ?rest29001
          case hy29001 => (intro w hSw; (try dsimp only at hSw); go_simp; (try with_reducible rfl))
          refine wpAnyH_take (i := 1) (v := .bool true) rfl (by kernel_rfl) (by kernel_rfl) (by kernel_rfl) (fun _ _ _ h => h) (Or.inl ⟨by rfl, ?hy29002⟩) (by assumption) ?rest29002
          case hy29002 => (intro w hSw; (try dsimp only at hSw); go_simp; (try with_reducible rfl))
          refine wpAnyH_take (i := 2) (v := .bool true) rfl (by kernel_rfl) (by kernel_rfl) (by kernel_rfl) (fun _ _ _ h => h) (Or.inl ⟨by rfl, ?hy29003⟩) (by assumption) ?rest29003
          case hy29003 => (intro w hSw; (try dsimp only at hSw); go_simp; (try with_reducible rfl))
          refine wpAnyH_take (i := 3) (v := .bool true) rfl (by kernel_rfl) (by kernel_rfl) (by kernel_rfl) (fun _ _ _ h => h) (Or.inl ⟨by first | kernel_rfl | rfl, ?hy29004⟩) (by assumption) ?rest29004
          case hy29004 => (intro w hSw; (try dsimp only at hSw); go_simp; (try with_reducible rfl))
          refine wpAnyH_take (i := 4) (v := .bool true) rfl (by kernel_rfl) (by kernel_rfl) (by kernel_rfl) (fun _ _ _ h => h) (Or.inl ⟨by rfl, ?hy29005⟩) (by assumption) ?rest29005
          case hy29005 => (intro w hSw; (try dsimp only at hSw); go_simp; (try with_reducible rfl))
          refine wpAnyH_take (i := 5) (v := .bool true) rfl (by kernel_rfl) (by kernel_rfl) (by kernel_rfl) (fun _ _ _ h => h) (Or.inl ⟨by rfl, ?hy29006⟩) (by assumption) ?rest29006
          case hy29006 => (intro w hSw; (try dsimp only at hSw); go_simp; (try with_reducible rfl))
          refine wpAnyH_take (i := 6) (v := .bool true) rfl (by kernel_rfl) (by kernel_rfl) (by kernel_rfl) (fun _ _ _ h => h) (Or.inl ⟨by first | kernel_rfl | rfl, ?hy29007⟩) (by assumption) ?rest29007
          case hy29007 => (intro w hSw; (try dsimp only at hSw); go_simp; (try with_reducible rfl))
          refine wpAnyH_take (i := 7) (v := .bool true) rfl (by kernel_rfl) (by kernel_rfl) (by kernel_rfl) (fun _ _ _ h => h) (Or.inl ⟨by rfl, ?hy29008⟩) (by assumption) ?rest29008
          case hy29008 => (intro w hSw; (try dsimp only at hSw); go_simp; (try with_reducible rfl))
          refine wpAnyH_take (i := 8) (v := .bool true) rfl (by kernel_rfl) (by kernel_rfl) (by kernel_rfl) (fun _ _ _ h => h) (Or.inl ⟨by rfl, ?hy29009⟩) (by assumption) ?rest29009
          case hy29009 => (intro w hSw; (try dsimp only at hSw); go_simp; (try with_reducible rfl))
          refine wpAnyH_take (i := 9) (v := .agg #[.int .i64 pr, .int .i64 n0, .int .i64 n1, .int .i64 l3, .int .i64 l4, .bool false]) rfl (by kernel_rfl) (by kernel_rfl) (by kernel_rfl) (fun _ _ _ h => h) (Or.inl ⟨by first | kernel_rfl | rfl, ?hy29010⟩) (by assumption) ?rest29010
          case hy29010 => (intro w hSw; (try dsimp only at hSw); go_simp; (try with_reducible rfl))
          refine wpAnyH_ready (rs := [10]) (by kernel_rfl) (by simp) ?_
          refine AllReadyH.cons rfl (fun K hK => ?_) ?_
          · go_simp
            go_at_call 75
            (with_reducible refine (HR.out _).mono ?_)
            rintro e w4 ⟨rfl, g4⟩
            have b4 := g4.below
            obtain ⟨z0, z1, z2', z3', z4', z5'⟩ := six_keep (W := V.drew) b4 (B := w.heap.size) ⟨a0, a1, a2, a3, a4, a5⟩
            have S4 := six_keep (W := V.drew) b4 (B := B) ⟨v0', v1', v2', v3', v4', v5'⟩
            have f0 : ∀ i, w4.frozen? ⟨w.heap.size, i, none⟩ = false := fun i => by rw [b4.frozen (p := ⟨w.heap.size, i, none⟩) (by exact lw0)]; exact af i
            have f00 := f0 0
            have f01 := f0 1
            have f02 := f0 2
            have f03 := f0 3
            have f04 := f0 4
            have f05 := f0 5
            have XV4 : Hid (Below w.heap.size w w4) := XV.out.trans (((Below.refl _ _).drew.trans b4).mono XV.out.size)
            refine hK.out _ _ ?_ (fun hH29011 => ?_)
            · (try dsimp only)
              first | with_reducible exact S4 | exact six_away hneB S4
            clear hK K hH0
            refine wpAnyH_take (i := 11) (v := .bool zz) rfl (by kernel_rfl) (by kernel_rfl) (by kernel_rfl) (fun _ _ _ h => h) (Or.inl ⟨by rfl, ?hy29012⟩) (by assumption) ?rest29012
            case hy29012 => (intro w hSw; (try dsimp only at hSw); go_simp; (try with_reducible rfl))
            refine wpAnyH_ready (rs := [12]) (by kernel_rfl) (by simp) ?_
            refine AllReadyH.cons rfl (fun K hK => ?_) ?_
            · go_simp
              refine hK.out _ _ ?_ (fun hH29013 => ?_)
              · (try dsimp only)
                first | with_reducible exact S4 | exact six_away hneB S4
              clear hK K hH29011
              refine wpAnyH_take (i := 13) (v := .bool zz) rfl (by kernel_rfl) (by kernel_rfl) (by kernel_rfl) (fun _ _ _ h => h) (Or.inl ⟨by rfl, ?hy29014⟩) (by assumption) ?rest29014
              case hy29014 => (intro w hSw; (try dsimp only at hSw); go_simp; (try with_reducible rfl))
              refine wpAnyH_done (by kernel_rfl) ?_ _
              go_simp
              obtain ⟨W, hW⟩ : ∃ W, W = ((((((w4.setCell ⟨w.heap.size, 0, none⟩ (.int .i64 pr)).setCell ⟨w.heap.size, 1, none⟩ (.int .i64 n0)).setCell ⟨w.heap.size, 2, none⟩ (.int .i64 n1)).setCell ⟨w.heap.size, 3, none⟩ (.int .i64 l3)).setCell ⟨w.heap.size, 4, none⟩ (.int .i64 l4)).setCell ⟨w.heap.size, 5, none⟩ (.bool false)) := ⟨_, rfl⟩
              have s0 : W.cell? ⟨w.heap.size, 0, none⟩ = some (.int .i64 pr) := by rw [hW]; simp [go_sem, z0]
              have s1 : W.cell? ⟨w.heap.size, 1, none⟩ = some (.int .i64 n0) := by rw [hW]; simp [go_sem, z1]
              have s2 : W.cell? ⟨w.heap.size, 2, none⟩ = some (.int .i64 n1) := by rw [hW]; simp [go_sem, z2']
              have s3 : W.cell? ⟨w.heap.size, 3, none⟩ = some (.int .i64 l3) := by rw [hW]; simp [go_sem, z3']
              have s4 : W.cell? ⟨w.heap.size, 4, none⟩ = some (.int .i64 l4) := by rw [hW]; simp [go_sem, z4']
              have s5 : W.cell? ⟨w.heap.size, 5, none⟩ = some (.bool false) := by rw [hW]; simp [go_sem, z5']
              have XW : Hid (Below w.heap.size w W) := by
                show Below _ _ _
                rw [hW]
                exact ((((((XV4.out.setCell (Nat.le_refl _) _).setCell (Nat.le_refl _) _).setCell (Nat.le_refl _) _).setCell (Nat.le_refl _) _).setCell (Nat.le_refl _) _).setCell (Nat.le_refl _) _)
              rw [← hW]
              clear hW
              go_wp2
              (try simp only [Exit.inBlock, Exit.then])
              refine bodyPost_ret (v := .tuple #[.agg #[.int .i64 pr, .int .i64 n0, .int .i64 n1, .int .i64 l3, .int .i64 l4, .bool false], .bool zz]) (by simp [results, Tryd.results41, go_sem, s0, s1, s2, s3, s4, s5]; try rfl) rfl ?_
              exact rdPost_mk (fun h => ⟨EQ.out h, rfl, rfl, rfl, rfl, rfl⟩) XW.out
            exact AllReadyH.nil
          exact AllReadyH.nil
  | true =>
    have t0 : (w0.toList == [97, 108, 108, 111, 119]) = true := ha.symm
    clear ha hd
    go_enter Tryd.func41, Tryd.ntmps41
    go_wp2_with fail
    refine (HW.out _).mono ?_
    rintro e wx1 ⟨g, cw, rfl, hg, hq, bx⟩
    have c1_0_0 : wx1.cell? ⟨w.heap.size, 0, none⟩ = some (.int .i64 0) := bkeep bx (by simp [go_sem])
    have f1_0_0 : wx1.frozen? ⟨w.heap.size, 0, none⟩ = false := bthaw bx (v := .int .i64 0) (by simp [go_sem]) (by simp [go_sem])
    have c1_0_1 : wx1.cell? ⟨w.heap.size, 1, none⟩ = some (.int .i64 0) := bkeep bx (by simp [go_sem])
    have f1_0_1 : wx1.frozen? ⟨w.heap.size, 1, none⟩ = false := bthaw bx (v := .int .i64 0) (by simp [go_sem]) (by simp [go_sem])
    have c1_0_2 : wx1.cell? ⟨w.heap.size, 2, none⟩ = some (.int .i64 0) := bkeep bx (by simp [go_sem])
    have f1_0_2 : wx1.frozen? ⟨w.heap.size, 2, none⟩ = false := bthaw bx (v := .int .i64 0) (by simp [go_sem]) (by simp [go_sem])
    have c1_0_3 : wx1.cell? ⟨w.heap.size, 3, none⟩ = some (.int .i64 0) := bkeep bx (by simp [go_sem])
    have f1_0_3 : wx1.frozen? ⟨w.heap.size, 3, none⟩ = false := bthaw bx (v := .int .i64 0) (by simp [go_sem]) (by simp [go_sem])
    have c1_0_4 : wx1.cell? ⟨w.heap.size, 4, none⟩ = some (.int .i64 0) := bkeep bx (by simp [go_sem])
    have f1_0_4 : wx1.frozen? ⟨w.heap.size, 4, none⟩ = false := bthaw bx (v := .int .i64 0) (by simp [go_sem]) (by simp [go_sem])
    have c1_0_5 : wx1.cell? ⟨w.heap.size, 5, none⟩ = some (.bool false) := bkeep bx (by simp [go_sem])
    have f1_0_5 : wx1.frozen? ⟨w.heap.size, 5, none⟩ = false := bthaw bx (v := .bool false) (by simp [go_sem]) (by simp [go_sem])
    have BX1 : Hid (Below w.heap.size w wx1) := ((Below.refl w.heap.size w).alloc (by simp <;> omega) _).trans (bx.mono (by simp <;> omega))
    have fz1 : ∀ j, wx1.frozen? ⟨w.heap.size, j, none⟩ = false := fun j => by rw [bx.frozen (p := ⟨w.heap.size, j, none⟩) (by simp)]; simp [go_sem]
    clear bx
    obtain ⟨c1_1_0, c1_1_1, c1_1_2, c1_1_3, c1_1_4⟩ := hq
    have lg : g < wx1.heap.size := World.block_lt_of_cell? wx1 _ c1_1_0
    have lw : w.heap.size < wx1.heap.size := World.block_lt_of_cell? wx1 _ c1_0_0
    have X0 : Hid (RdW w ((wx1.alloc (.cells #[.int .i64 (-1), .int .i64 0, .int .i64 0, .int .i64 0, .int .i64 0, .bool true] 44)).alloc (.cells #[.string ⟨#[97, 110, 121]⟩, .string ⟨#[105, 99, 109, 112]⟩, .string ⟨#[116, 99, 112]⟩, .string ⟨#[117, 100, 112]⟩] 9)) g wx1.heap.size w0 w1 w2 w3 w4 (-1) true) := by
      refine ⟨(BX1.out.alloc BX1.out.size _).alloc (by have := BX1.out.size; simp; omega) _, by simp, lw, lg, fun j hj => ?_, acell (acell c1_0_5 _) _, fun j => ?_, acell (acell c1_1_0 _) _, acell (acell c1_1_1 _) _, acell (acell c1_1_2 _) _, acell (acell c1_1_3 _) _, acell (acell c1_1_4 _) _, by simp [go_sem], by simp [go_sem], by simp [go_sem], by simp [go_sem], by simp [go_sem], by simp [go_sem], by simp [go_sem], by simp [go_sem], by simp [go_sem], by simp [go_sem], fun j => by simp [go_sem]⟩
      · have : j = 0 ∨ j = 1 ∨ j = 2 ∨ j = 3 ∨ j = 4 := by omega
        rcases this with rfl | rfl | rfl | rfl | rfl
        · exact acell (acell c1_0_0 _) _
        · exact acell (acell c1_0_1 _) _
        · exact acell (acell c1_0_2 _) _
        · exact acell (acell c1_0_3 _) _
        · exact acell (acell c1_0_4 _) _
      · have hb : Below wx1.heap.size wx1 ((wx1.alloc (.cells #[.int .i64 (-1), .int .i64 0, .int .i64 0, .int .i64 0, .int .i64 0, .bool true] 44)).alloc (.cells #[.string ⟨#[97, 110, 121]⟩, .string ⟨#[105, 99, 109, 112]⟩, .string ⟨#[116, 99, 112]⟩, .string ⟨#[117, 100, 112]⟩] 9)) := ((Below.refl _ _).alloc (Nat.le_refl _) _).alloc (by simp) _
        rw [hb.frozen (p := ⟨w.heap.size, j, none⟩) lw]
        exact fz1 j
    
    clear c1_0_0 f1_0_0 c1_0_1 f1_0_1 c1_0_2 f1_0_2 c1_0_3 f1_0_3 c1_0_4 f1_0_4 c1_0_5 f1_0_5 BX1 hg fz1 lw lg
    go_wp2_with fail
    refine (HP.out _).mono ?_
    rintro e w7 ⟨rfl, rfl⟩
    go_wp2_with fail
    generalize ((wx1.alloc (.cells #[.int .i64 (-1), .int .i64 0, .int .i64 0, .int .i64 0, .int .i64 0, .bool true] 44)).alloc (.cells #[.string ⟨#[97, 110, 121]⟩, .string ⟨#[105, 99, 109, 112]⟩, .string ⟨#[116, 99, 112]⟩, .string ⟨#[117, 100, 112]⟩] 9)) = W0 at X0 ⊢
    obtain ⟨B, hB⟩ : ∃ B, B = wx1.heap.size := ⟨_, rfl⟩
    rw [← hB] at X0 ⊢
    clear hB c1_1_0 c1_1_1 c1_1_2 c1_1_3 c1_1_4
    go_loopw [7] (fun i wr => ∃ (k : Nat) (pr : Int), k ≤ 4 ∧ i = .int .i64 k ∧ Hid (pr = pvk w1.toList k) ∧ Hid (RdW w wr g B w0 w1 w2 w3 w4 pr true)) (fun i _ => 4 - (intOf i).toNat)
    case atStart => exact ⟨0, -1, by omega, rfl, (pvk_zero _).symm, X0.out⟩
    case round =>
      obtain ⟨k, pr, hk, rfl, HV, X⟩ := hrel
      clear X0
      have hkk : k = 0 ∨ k = 1 ∨ k = 2 ∨ k = 3 ∨ k = 4 := by omega
      have e1 := X.out.q1
      have er := X.out.r0
      have ef := X.out.rf 0
      have XD : Hid (RdW w wr.drew g B w0 w1 w2 w3 w4 pr true) := X.out.keep (Below.refl _ _).drew
      rcases hkk with rfl | rfl | rfl | rfl | rfl
      · by_cases hl : w1.toList = [97, 110, 121]
        · have hq : ([97, 110, 121] == w1.toList) = true := by rw [hl]; rfl
          have hq2 : (w1.toList == [97, 110, 121]) = true := by rw [hl]; rfl
          have HV' : Hid ((0 : Int) = pvk w1.toList 1) := by
            show _ = _
            rw [hl]
            rfl
          clear hl
          have en := X.out.n0
          go_wp2_with fail
          refine wp_region_held_drew (S := (fun wx => wx.cell? ⟨B + 1, 0, none⟩ = some (.string ⟨#[97, 110, 121]⟩) ∧ wx.cell? ⟨g, 1, none⟩ = some (.string w1))) (by kernel_rfl) ?_ (fun hH0 => ?_)
          · exact ⟨en, e1⟩
          refine wpAnyH_take (i := 0) (v := ?v40001) rfl (by kernel_rfl) (by kernel_rfl) (by kernel_rfl) (fun _ _ _ h => h) (Or.inl ⟨by rfl, ?hy40001⟩) (by assumption) ?rest40001
          case hy40001 => (intro w hSw; (try dsimp only at hSw); go_simp; (try with_reducible rfl))
          refine wpAnyH_take (i := 1) (v := ?v40002) rfl (by kernel_rfl) (by kernel_rfl) (by kernel_rfl) (fun _ _ _ h => h) (Or.inl ⟨by rfl, ?hy40002⟩) (by assumption) ?rest40002
          case hy40002 => (intro w hSw; (try dsimp only at hSw); go_simp; (try with_reducible rfl))
          refine wpAnyH_take (i := 2) (v := ?v40003) rfl (by kernel_rfl) (by kernel_rfl) (by kernel_rfl) (fun _ _ _ h => h) (Or.inl ⟨by rfl, ?hy40003⟩) (by assumption) ?rest40003
          case hy40003 => (intro w hSw; (try dsimp only at hSw); go_simp; (try with_reducible rfl))
          refine wpAnyH_take (i := 3) (v := ?v40004) rfl (by kernel_rfl) (by kernel_rfl) (by kernel_rfl) (fun _ _ _ h => h) (Or.inl ⟨by rfl, ?hy40004⟩) (by assumption) ?rest40004
          case hy40004 => (intro w hSw; (try dsimp only at hSw); go_simp; (try with_reducible rfl))
          refine wpAnyH_take (i := 4) (v := ?v40005) rfl (by kernel_rfl) (by kernel_rfl) (by kernel_rfl) (fun _ _ _ h => h) (Or.inl ⟨by rfl, ?hy40005⟩) (by assumption) ?rest40005
          case hy40005 => (intro w hSw; (try dsimp only at hSw); go_simp; (try with_reducible rfl))
          refine wpAnyH_take (i := 5) (v := ?v40006) rfl (by kernel_rfl) (by kernel_rfl) (by kernel_rfl) (fun _ _ _ h => h) (Or.inl ⟨by rfl, ?hy40006⟩) (by assumption) ?rest40006
          case hy40006 => (intro w hSw; (try dsimp only at hSw); go_simp; (try with_reducible rfl))
          refine wpAnyH_take (i := 6) (v := ?v40007) rfl (by kernel_rfl) (by kernel_rfl) (by kernel_rfl) (fun _ _ _ h => h) (Or.inl ⟨by rfl, ?hy40007⟩) (by assumption) ?rest40007
          case hy40007 => (intro w hSw; (try dsimp only at hSw); go_simp; (try with_reducible rfl))
          refine wpAnyH_take (i := 7) (v := ?v40008) rfl (by kernel_rfl) (by kernel_rfl) (by kernel_rfl) (fun _ _ _ h => h) (Or.inl ⟨by rfl, ?hy40008⟩) (by assumption) ?rest40008
          case hy40008 => (intro w hSw; (try dsimp only at hSw); go_simp; (try with_reducible rfl))
          refine wpAnyH_done (by kernel_rfl) ?_ _
          go_simp
          go_wp2_with fail
          refine (HQ.out _).mono ?_
          rintro e w6 ⟨rfl, rfl⟩
          have XA : Hid (RdW w ((wr.setCell ⟨B, 0, none⟩ (.int .i64 0)).alloc (.cells #[.int .i64 0, .int .i64 1, .int .i64 6, .int .i64 17] 3)).drew g B w0 w1 w2 w3 w4 0 true) := ((X.out.put 0).keep ((Below.refl _ _).alloc (Nat.le_refl _) _)).keep (Below.refl _ _).drew
          have hz : B < wr.heap.size := by have := X.out.lt; omega
          have er2 : (wr.drew.alloc (.cells #[.int .i64 0, .int .i64 1, .int .i64 6, .int .i64 17] 3)).cell? ⟨B, 0, none⟩ = some (.int .i64 pr) := acell er _
          have ef2 : (wr.drew.alloc (.cells #[.int .i64 0, .int .i64 1, .int .i64 6, .int .i64 17] 3)).frozen? ⟨B, 0, none⟩ = false := bthaw ((Below.refl _ _).alloc (Nat.le_refl _) _) (show wr.drew.cell? _ = _ from er) ef
          go_wp2
          go_roundw
          case rel => exact ⟨0 + 1, 0, by omega, by go_num, HV', XA⟩
          case measure => simp [intOf]
        · have hq : ([97, 110, 121] == w1.toList) = false := by rw [beq_eq_false_iff_ne]; exact fun h => hl h.symm
          have hq2 : (w1.toList == [97, 110, 121]) = false := by rw [beq_eq_false_iff_ne]; exact hl
          have HV' : Hid (pr = pvk w1.toList (0 + 1)) := by
            show _ = _
            rw [HV.out, pvk_miss w1.toList 0 (by omega) (fun _ => hl) (fun h => by omega) (fun h => by omega) (fun h => by omega)]
          clear hl
          have en := X.out.n0
          go_wp2_with fail
          refine wp_region_held_drew (S := (fun wx => wx.cell? ⟨B + 1, 0, none⟩ = some (.string ⟨#[97, 110, 121]⟩) ∧ wx.cell? ⟨g, 1, none⟩ = some (.string w1))) (by kernel_rfl) ?_ (fun hH0 => ?_)
          · exact ⟨en, e1⟩
          refine wpAnyH_take (i := 0) (v := ?v40501) rfl (by kernel_rfl) (by kernel_rfl) (by kernel_rfl) (fun _ _ _ h => h) (Or.inl ⟨by rfl, ?hy40501⟩) (by assumption) ?rest40501
          case hy40501 => (intro w hSw; (try dsimp only at hSw); go_simp; (try with_reducible rfl))
          refine wpAnyH_take (i := 1) (v := ?v40502) rfl (by kernel_rfl) (by kernel_rfl) (by kernel_rfl) (fun _ _ _ h => h) (Or.inl ⟨by rfl, ?hy40502⟩) (by assumption) ?rest40502
          case hy40502 => (intro w hSw; (try dsimp only at hSw); go_simp; (try with_reducible rfl))
          refine wpAnyH_take (i := 2) (v := ?v40503) rfl (by kernel_rfl) (by kernel_rfl) (by kernel_rfl) (fun _ _ _ h => h) (Or.inl ⟨by rfl, ?hy40503⟩) (by assumption) ?rest40503
          case hy40503 => (intro w hSw; (try dsimp only at hSw); go_simp; (try with_reducible rfl))
          refine wpAnyH_take (i := 3) (v := ?v40504) rfl (by kernel_rfl) (by kernel_rfl) (by kernel_rfl) (fun _ _ _ h => h) (Or.inl ⟨by rfl, ?hy40504⟩) (by assumption) ?rest40504
          case hy40504 => (intro w hSw; (try dsimp only at hSw); go_simp; (try with_reducible rfl))
          refine wpAnyH_take (i := 4) (v := ?v40505) rfl (by kernel_rfl) (by kernel_rfl) (by kernel_rfl) (fun _ _ _ h => h) (Or.inl ⟨by rfl, ?hy40505⟩) (by assumption) ?rest40505
          case hy40505 => (intro w hSw; (try dsimp only at hSw); go_simp; (try with_reducible rfl))
          refine wpAnyH_take (i := 5) (v := ?v40506) rfl (by kernel_rfl) (by kernel_rfl) (by kernel_rfl) (fun _ _ _ h => h) (Or.inl ⟨by rfl, ?hy40506⟩) (by assumption) ?rest40506
          case hy40506 => (intro w hSw; (try dsimp only at hSw); go_simp; (try with_reducible rfl))
          refine wpAnyH_take (i := 6) (v := ?v40507) rfl (by kernel_rfl) (by kernel_rfl) (by kernel_rfl) (fun _ _ _ h => h) (Or.inl ⟨by rfl, ?hy40507⟩) (by assumption) ?rest40507
          case hy40507 => (intro w hSw; (try dsimp only at hSw); go_simp; (try with_reducible rfl))
          refine wpAnyH_take (i := 7) (v := ?v40508) rfl (by kernel_rfl) (by kernel_rfl) (by kernel_rfl) (fun _ _ _ h => h) (Or.inl ⟨by rfl, ?hy40508⟩) (by assumption) ?rest40508
          case hy40508 => (intro w hSw; (try dsimp only at hSw); go_simp; (try with_reducible rfl))
          refine wpAnyH_done (by kernel_rfl) ?_ _
          go_simp
          go_wp2
          go_roundw
          case rel => exact ⟨0 + 1, pr, by omega, by go_num, HV', XD⟩
          case measure => simp [intOf]
      · by_cases hl : w1.toList = [105, 99, 109, 112]
        · have hq : ([105, 99, 109, 112] == w1.toList) = true := by rw [hl]; rfl
          have hq2 : (w1.toList == [105, 99, 109, 112]) = true := by rw [hl]; rfl
          have HV' : Hid ((1 : Int) = pvk w1.toList 2) := by
            show _ = _
            rw [hl]
            rfl
          clear hl
          have en := X.out.n1
          go_wp2_with fail
          refine wp_region_held_drew (S := (fun wx => wx.cell? ⟨B + 1, 1, none⟩ = some (.string ⟨#[105, 99, 109, 112]⟩) ∧ wx.cell? ⟨g, 1, none⟩ = some (.string w1))) (by kernel_rfl) ?_ (fun hH0 => ?_)
          · exact ⟨en, e1⟩
          refine wpAnyH_take (i := 0) (v := ?v41001) rfl (by kernel_rfl) (by kernel_rfl) (by kernel_rfl) (fun _ _ _ h => h) (Or.inl ⟨by rfl, ?hy41001⟩) (by assumption) ?rest41001
          case hy41001 => (intro w hSw; (try dsimp only at hSw); go_simp; (try with_reducible rfl))
          refine wpAnyH_take (i := 1) (v := ?v41002) rfl (by kernel_rfl) (by kernel_rfl) (by kernel_rfl) (fun _ _ _ h => h) (Or.inl ⟨by rfl, ?hy41002⟩) (by assumption) ?rest41002
          case hy41002 => (intro w hSw; (try dsimp only at hSw); go_simp; (try with_reducible rfl))
          refine wpAnyH_take (i := 2) (v := ?v41003) rfl (by kernel_rfl) (by kernel_rfl) (by kernel_rfl) (fun _ _ _ h => h) (Or.inl ⟨by rfl, ?hy41003⟩) (by assumption) ?rest41003
          case hy41003 => (intro w hSw; (try dsimp only at hSw); go_simp; (try with_reducible rfl))
          refine wpAnyH_take (i := 3) (v := ?v41004) rfl (by kernel_rfl) (by kernel_rfl) (by kernel_rfl) (fun _ _ _ h => h) (Or.inl ⟨by rfl, ?hy41004⟩) (by assumption) ?rest41004
          case hy41004 => (intro w hSw; (try dsimp only at hSw); go_simp; (try with_reducible rfl))
          refine wpAnyH_take (i := 4) (v := ?v41005) rfl (by kernel_rfl) (by kernel_rfl) (by kernel_rfl) (fun _ _ _ h => h) (Or.inl ⟨by rfl, ?hy41005⟩) (by assumption) ?rest41005
          case hy41005 => (intro w hSw; (try dsimp only at hSw); go_simp; (try with_reducible rfl))
          refine wpAnyH_take (i := 5) (v := ?v41006) rfl (by kernel_rfl) (by kernel_rfl) (by kernel_rfl) (fun _ _ _ h => h) (Or.inl ⟨by rfl, ?hy41006⟩) (by assumption) ?rest41006
          case hy41006 => (intro w hSw; (try dsimp only at hSw); go_simp; (try with_reducible rfl))
          refine wpAnyH_take (i := 6) (v := ?v41007) rfl (by kernel_rfl) (by kernel_rfl) (by kernel_rfl) (fun _ _ _ h => h) (Or.inl ⟨by rfl, ?hy41007⟩) (by assumption) ?rest41007
          case hy41007 => (intro w hSw; (try dsimp only at hSw); go_simp; (try with_reducible rfl))
          refine wpAnyH_take (i := 7) (v := ?v41008) rfl (by kernel_rfl) (by kernel_rfl) (by kernel_rfl) (fun _ _ _ h => h) (Or.inl ⟨by rfl, ?hy41008⟩) (by assumption) ?rest41008
          case hy41008 => (intro w hSw; (try dsimp only at hSw); go_simp; (try with_reducible rfl))
          refine wpAnyH_done (by kernel_rfl) ?_ _
          go_simp
          go_wp2_with fail
          refine (HQ.out _).mono ?_
          rintro e w6 ⟨rfl, rfl⟩
          have XA : Hid (RdW w ((wr.setCell ⟨B, 0, none⟩ (.int .i64 1)).alloc (.cells #[.int .i64 0, .int .i64 1, .int .i64 6, .int .i64 17] 3)).drew g B w0 w1 w2 w3 w4 1 true) := ((X.out.put 1).keep ((Below.refl _ _).alloc (Nat.le_refl _) _)).keep (Below.refl _ _).drew
          have hz : B < wr.heap.size := by have := X.out.lt; omega
          have er2 : (wr.drew.alloc (.cells #[.int .i64 0, .int .i64 1, .int .i64 6, .int .i64 17] 3)).cell? ⟨B, 0, none⟩ = some (.int .i64 pr) := acell er _
          have ef2 : (wr.drew.alloc (.cells #[.int .i64 0, .int .i64 1, .int .i64 6, .int .i64 17] 3)).frozen? ⟨B, 0, none⟩ = false := bthaw ((Below.refl _ _).alloc (Nat.le_refl _) _) (show wr.drew.cell? _ = _ from er) ef
          go_wp2
          go_roundw
          case rel => exact ⟨1 + 1, 1, by omega, by go_num, HV', XA⟩
          case measure => simp [intOf]
        · have hq : ([105, 99, 109, 112] == w1.toList) = false := by rw [beq_eq_false_iff_ne]; exact fun h => hl h.symm
          have hq2 : (w1.toList == [105, 99, 109, 112]) = false := by rw [beq_eq_false_iff_ne]; exact hl
          have HV' : Hid (pr = pvk w1.toList (1 + 1)) := by
            show _ = _
            rw [HV.out, pvk_miss w1.toList 1 (by omega) (fun h => by omega) (fun _ => hl) (fun h => by omega) (fun h => by omega)]
          clear hl
          have en := X.out.n1
          go_wp2_with fail
          refine wp_region_held_drew (S := (fun wx => wx.cell? ⟨B + 1, 1, none⟩ = some (.string ⟨#[105, 99, 109, 112]⟩) ∧ wx.cell? ⟨g, 1, none⟩ = some (.string w1))) (by kernel_rfl) ?_ (fun hH0 => ?_)
          · exact ⟨en, e1⟩
          refine wpAnyH_take (i := 0) (v := ?v41501) rfl (by kernel_rfl) (by kernel_rfl) (by kernel_rfl) (fun _ _ _ h => h) (Or.inl ⟨by rfl, ?hy41501⟩) (by assumption) ?rest41501
          case hy41501 => (intro w hSw; (try dsimp only at hSw); go_simp; (try with_reducible rfl))
          refine wpAnyH_take (i := 1) (v := ?v41502) rfl (by kernel_rfl) (by kernel_rfl) (by kernel_rfl) (fun _ _ _ h => h) (Or.inl ⟨by rfl, ?hy41502⟩) (by assumption) ?rest41502
          case hy41502 => (intro w hSw; (try dsimp only at hSw); go_simp; (try with_reducible rfl))
          refine wpAnyH_take (i := 2) (v := ?v41503) rfl (by kernel_rfl) (by kernel_rfl) (by kernel_rfl) (fun _ _ _ h => h) (Or.inl ⟨by rfl, ?hy41503⟩) (by assumption) ?rest41503
          case hy41503 => (intro w hSw; (try dsimp only at hSw); go_simp; (try with_reducible rfl))
          refine wpAnyH_take (i := 3) (v := ?v41504) rfl (by kernel_rfl) (by kernel_rfl) (by kernel_rfl) (fun _ _ _ h => h) (Or.inl ⟨by rfl, ?hy41504⟩) (by assumption) ?rest41504
          case hy41504 => (intro w hSw; (try dsimp only at hSw); go_simp; (try with_reducible rfl))
          refine wpAnyH_take (i := 4) (v := ?v41505) rfl (by kernel_rfl) (by kernel_rfl) (by kernel_rfl) (fun _ _ _ h => h) (Or.inl ⟨by rfl, ?hy41505⟩) (by assumption) ?rest41505
          case hy41505 => (intro w hSw; (try dsimp only at hSw); go_simp; (try with_reducible rfl))
          refine wpAnyH_take (i := 5) (v := ?v41506) rfl (by kernel_rfl) (by kernel_rfl) (by kernel_rfl) (fun _ _ _ h => h) (Or.inl ⟨by rfl, ?hy41506⟩) (by assumption) ?rest41506
          case hy41506 => (intro w hSw; (try dsimp only at hSw); go_simp; (try with_reducible rfl))
          refine wpAnyH_take (i := 6) (v := ?v41507) rfl (by kernel_rfl) (by kernel_rfl) (by kernel_rfl) (fun _ _ _ h => h) (Or.inl ⟨by rfl, ?hy41507⟩) (by assumption) ?rest41507
          case hy41507 => (intro w hSw; (try dsimp only at hSw); go_simp; (try with_reducible rfl))
          refine wpAnyH_take (i := 7) (v := ?v41508) rfl (by kernel_rfl) (by kernel_rfl) (by kernel_rfl) (fun _ _ _ h => h) (Or.inl ⟨by rfl, ?hy41508⟩) (by assumption) ?rest41508
          case hy41508 => (intro w hSw; (try dsimp only at hSw); go_simp; (try with_reducible rfl))
          refine wpAnyH_done (by kernel_rfl) ?_ _
          go_simp
          go_wp2
          go_roundw
          case rel => exact ⟨1 + 1, pr, by omega, by go_num, HV', XD⟩
          case measure => simp [intOf]
      · by_cases hl : w1.toList = [116, 99, 112]
        · have hq : ([116, 99, 112] == w1.toList) = true := by rw [hl]; rfl
          have hq2 : (w1.toList == [116, 99, 112]) = true := by rw [hl]; rfl
          have HV' : Hid ((6 : Int) = pvk w1.toList 3) := by
            show _ = _
            rw [hl]
            rfl
          clear hl
          have en := X.out.n2
          go_wp2_with fail
          refine wp_region_held_drew (S := (fun wx => wx.cell? ⟨B + 1, 2, none⟩ = some (.string ⟨#[116, 99, 112]⟩) ∧ wx.cell? ⟨g, 1, none⟩ = some (.string w1))) (by kernel_rfl) ?_ (fun hH0 => ?_)
          · exact ⟨en, e1⟩
          refine wpAnyH_take (i := 0) (v := ?v42001) rfl (by kernel_rfl) (by kernel_rfl) (by kernel_rfl) (fun _ _ _ h => h) (Or.inl ⟨by rfl, ?hy42001⟩) (by assumption) ?rest42001
          case hy42001 => (intro w hSw; (try dsimp only at hSw); go_simp; (try with_reducible rfl))
          refine wpAnyH_take (i := 1) (v := ?v42002) rfl (by kernel_rfl) (by kernel_rfl) (by kernel_rfl) (fun _ _ _ h => h) (Or.inl ⟨by rfl, ?hy42002⟩) (by assumption) ?rest42002
          case hy42002 => (intro w hSw; (try dsimp only at hSw); go_simp; (try with_reducible rfl))
          refine wpAnyH_take (i := 2) (v := ?v42003) rfl (by kernel_rfl) (by kernel_rfl) (by kernel_rfl) (fun _ _ _ h => h) (Or.inl ⟨by rfl, ?hy42003⟩) (by assumption) ?rest42003
          case hy42003 => (intro w hSw; (try dsimp only at hSw); go_simp; (try with_reducible rfl))
          refine wpAnyH_take (i := 3) (v := ?v42004) rfl (by kernel_rfl) (by kernel_rfl) (by kernel_rfl) (fun _ _ _ h => h) (Or.inl ⟨by rfl, ?hy42004⟩) (by assumption) ?rest42004
          case hy42004 => (intro w hSw; (try dsimp only at hSw); go_simp; (try with_reducible rfl))
          refine wpAnyH_take (i := 4) (v := ?v42005) rfl (by kernel_rfl) (by kernel_rfl) (by kernel_rfl) (fun _ _ _ h => h) (Or.inl ⟨by rfl, ?hy42005⟩) (by assumption) ?rest42005
          case hy42005 => (intro w hSw; (try dsimp only at hSw); go_simp; (try with_reducible rfl))
          refine wpAnyH_take (i := 5) (v := ?v42006) rfl (by kernel_rfl) (by kernel_rfl) (by kernel_rfl) (fun _ _ _ h => h) (Or.inl ⟨by rfl, ?hy42006⟩) (by assumption) ?rest42006
          case hy42006 => (intro w hSw; (try dsimp only at hSw); go_simp; (try with_reducible rfl))
          refine wpAnyH_take (i := 6) (v := ?v42007) rfl (by kernel_rfl) (by kernel_rfl) (by kernel_rfl) (fun _ _ _ h => h) (Or.inl ⟨by rfl, ?hy42007⟩) (by assumption) ?rest42007
          case hy42007 => (intro w hSw; (try dsimp only at hSw); go_simp; (try with_reducible rfl))
          refine wpAnyH_take (i := 7) (v := ?v42008) rfl (by kernel_rfl) (by kernel_rfl) (by kernel_rfl) (fun _ _ _ h => h) (Or.inl ⟨by rfl, ?hy42008⟩) (by assumption) ?rest42008
          case hy42008 => (intro w hSw; (try dsimp only at hSw); go_simp; (try with_reducible rfl))
          refine wpAnyH_done (by kernel_rfl) ?_ _
          go_simp
          go_wp2_with fail
          refine (HQ.out _).mono ?_
          rintro e w6 ⟨rfl, rfl⟩
          have XA : Hid (RdW w ((wr.setCell ⟨B, 0, none⟩ (.int .i64 6)).alloc (.cells #[.int .i64 0, .int .i64 1, .int .i64 6, .int .i64 17] 3)).drew g B w0 w1 w2 w3 w4 6 true) := ((X.out.put 6).keep ((Below.refl _ _).alloc (Nat.le_refl _) _)).keep (Below.refl _ _).drew
          have hz : B < wr.heap.size := by have := X.out.lt; omega
          have er2 : (wr.drew.alloc (.cells #[.int .i64 0, .int .i64 1, .int .i64 6, .int .i64 17] 3)).cell? ⟨B, 0, none⟩ = some (.int .i64 pr) := acell er _
          have ef2 : (wr.drew.alloc (.cells #[.int .i64 0, .int .i64 1, .int .i64 6, .int .i64 17] 3)).frozen? ⟨B, 0, none⟩ = false := bthaw ((Below.refl _ _).alloc (Nat.le_refl _) _) (show wr.drew.cell? _ = _ from er) ef
          go_wp2
          go_roundw
          case rel => exact ⟨2 + 1, 6, by omega, by go_num, HV', XA⟩
          case measure => simp [intOf]
        · have hq : ([116, 99, 112] == w1.toList) = false := by rw [beq_eq_false_iff_ne]; exact fun h => hl h.symm
          have hq2 : (w1.toList == [116, 99, 112]) = false := by rw [beq_eq_false_iff_ne]; exact hl
          have HV' : Hid (pr = pvk w1.toList (2 + 1)) := by
            show _ = _
            rw [HV.out, pvk_miss w1.toList 2 (by omega) (fun h => by omega) (fun h => by omega) (fun _ => hl) (fun h => by omega)]
          clear hl
          have en := X.out.n2
          go_wp2_with fail
          refine wp_region_held_drew (S := (fun wx => wx.cell? ⟨B + 1, 2, none⟩ = some (.string ⟨#[116, 99, 112]⟩) ∧ wx.cell? ⟨g, 1, none⟩ = some (.string w1))) (by kernel_rfl) ?_ (fun hH0 => ?_)
          · exact ⟨en, e1⟩
          refine wpAnyH_take (i := 0) (v := ?v42501) rfl (by kernel_rfl) (by kernel_rfl) (by kernel_rfl) (fun _ _ _ h => h) (Or.inl ⟨by rfl, ?hy42501⟩) (by assumption) ?rest42501
          case hy42501 => (intro w hSw; (try dsimp only at hSw); go_simp; (try with_reducible rfl))
          refine wpAnyH_take (i := 1) (v := ?v42502) rfl (by kernel_rfl) (by kernel_rfl) (by kernel_rfl) (fun _ _ _ h => h) (Or.inl ⟨by rfl, ?hy42502⟩) (by assumption) ?rest42502
          case hy42502 => (intro w hSw; (try dsimp only at hSw); go_simp; (try with_reducible rfl))
          refine wpAnyH_take (i := 2) (v := ?v42503) rfl (by kernel_rfl) (by kernel_rfl) (by kernel_rfl) (fun _ _ _ h => h) (Or.inl ⟨by rfl, ?hy42503⟩) (by assumption) ?rest42503
          case hy42503 => (intro w hSw; (try dsimp only at hSw); go_simp; (try with_reducible rfl))
          refine wpAnyH_take (i := 3) (v := ?v42504) rfl (by kernel_rfl) (by kernel_rfl) (by kernel_rfl) (fun _ _ _ h => h) (Or.inl ⟨by rfl, ?hy42504⟩) (by assumption) ?rest42504
          case hy42504 => (intro w hSw; (try dsimp only at hSw); go_simp; (try with_reducible rfl))
          refine wpAnyH_take (i := 4) (v := ?v42505) rfl (by kernel_rfl) (by kernel_rfl) (by kernel_rfl) (fun _ _ _ h => h) (Or.inl ⟨by rfl, ?hy42505⟩) (by assumption) ?rest42505
          case hy42505 => (intro w hSw; (try dsimp only at hSw); go_simp; (try with_reducible rfl))
          refine wpAnyH_take (i := 5) (v := ?v42506) rfl (by kernel_rfl) (by kernel_rfl) (by kernel_rfl) (fun _ _ _ h => h) (Or.inl ⟨by rfl, ?hy42506⟩) (by assumption) ?rest42506
          case hy42506 => (intro w hSw; (try dsimp only at hSw); go_simp; (try with_reducible rfl))
          refine wpAnyH_take (i := 6) (v := ?v42507) rfl (by kernel_rfl) (by kernel_rfl) (by kernel_rfl) (fun _ _ _ h => h) (Or.inl ⟨by rfl, ?hy42507⟩) (by assumption) ?rest42507
          case hy42507 => (intro w hSw; (try dsimp only at hSw); go_simp; (try with_reducible rfl))
          refine wpAnyH_take (i := 7) (v := ?v42508) rfl (by kernel_rfl) (by kernel_rfl) (by kernel_rfl) (fun _ _ _ h => h) (Or.inl ⟨by rfl, ?hy42508⟩) (by assumption) ?rest42508
          case hy42508 => (intro w hSw; (try dsimp only at hSw); go_simp; (try with_reducible rfl))
          refine wpAnyH_done (by kernel_rfl) ?_ _
          go_simp
          go_wp2
          go_roundw
          case rel => exact ⟨2 + 1, pr, by omega, by go_num, HV', XD⟩
          case measure => simp [intOf]
      · by_cases hl : w1.toList = [117, 100, 112]
        · have hq : ([117, 100, 112] == w1.toList) = true := by rw [hl]; rfl
          have hq2 : (w1.toList == [117, 100, 112]) = true := by rw [hl]; rfl
          have HV' : Hid ((17 : Int) = pvk w1.toList 4) := by
            show _ = _
            rw [hl]
            rfl
          clear hl
          have en := X.out.n3
          go_wp2_with fail
          refine wp_region_held_drew (S := (fun wx => wx.cell? ⟨B + 1, 3, none⟩ = some (.string ⟨#[117, 100, 112]⟩) ∧ wx.cell? ⟨g, 1, none⟩ = some (.string w1))) (by kernel_rfl) ?_ (fun hH0 => ?_)
          · exact ⟨en, e1⟩
          refine wpAnyH_take (i := 0) (v := ?v43001) rfl (by kernel_rfl) (by kernel_rfl) (by kernel_rfl) (fun _ _ _ h => h) (Or.inl ⟨by rfl, ?hy43001⟩) (by assumption) ?rest43001
          case hy43001 => (intro w hSw; (try dsimp only at hSw); go_simp; (try with_reducible rfl))
          refine wpAnyH_take (i := 1) (v := ?v43002) rfl (by kernel_rfl) (by kernel_rfl) (by kernel_rfl) (fun _ _ _ h => h) (Or.inl ⟨by rfl, ?hy43002⟩) (by assumption) ?rest43002
          case hy43002 => (intro w hSw; (try dsimp only at hSw); go_simp; (try with_reducible rfl))
          refine wpAnyH_take (i := 2) (v := ?v43003) rfl (by kernel_rfl) (by kernel_rfl) (by kernel_rfl) (fun _ _ _ h => h) (Or.inl ⟨by rfl, ?hy43003⟩) (by assumption) ?rest43003
          case hy43003 => (intro w hSw; (try dsimp only at hSw); go_simp; (try with_reducible rfl))
          refine wpAnyH_take (i := 3) (v := ?v43004) rfl (by kernel_rfl) (by kernel_rfl) (by kernel_rfl) (fun _ _ _ h => h) (Or.inl ⟨by rfl, ?hy43004⟩) (by assumption) ?rest43004
          case hy43004 => (intro w hSw; (try dsimp only at hSw); go_simp; (try with_reducible rfl))
          refine wpAnyH_take (i := 4) (v := ?v43005) rfl (by kernel_rfl) (by kernel_rfl) (by kernel_rfl) (fun _ _ _ h => h) (Or.inl ⟨by rfl, ?hy43005⟩) (by assumption) ?rest43005
          case hy43005 => (intro w hSw; (try dsimp only at hSw); go_simp; (try with_reducible rfl))
          refine wpAnyH_take (i := 5) (v := ?v43006) rfl (by kernel_rfl) (by kernel_rfl) (by kernel_rfl) (fun _ _ _ h => h) (Or.inl ⟨by rfl, ?hy43006⟩) (by assumption) ?rest43006
          case hy43006 => (intro w hSw; (try dsimp only at hSw); go_simp; (try with_reducible rfl))
          refine wpAnyH_take (i := 6) (v := ?v43007) rfl (by kernel_rfl) (by kernel_rfl) (by kernel_rfl) (fun _ _ _ h => h) (Or.inl ⟨by rfl, ?hy43007⟩) (by assumption) ?rest43007
          case hy43007 => (intro w hSw; (try dsimp only at hSw); go_simp; (try with_reducible rfl))
          refine wpAnyH_take (i := 7) (v := ?v43008) rfl (by kernel_rfl) (by kernel_rfl) (by kernel_rfl) (fun _ _ _ h => h) (Or.inl ⟨by rfl, ?hy43008⟩) (by assumption) ?rest43008
          case hy43008 => (intro w hSw; (try dsimp only at hSw); go_simp; (try with_reducible rfl))
          refine wpAnyH_done (by kernel_rfl) ?_ _
          go_simp
          go_wp2_with fail
          refine (HQ.out _).mono ?_
          rintro e w6 ⟨rfl, rfl⟩
          have XA : Hid (RdW w ((wr.setCell ⟨B, 0, none⟩ (.int .i64 17)).alloc (.cells #[.int .i64 0, .int .i64 1, .int .i64 6, .int .i64 17] 3)).drew g B w0 w1 w2 w3 w4 17 true) := ((X.out.put 17).keep ((Below.refl _ _).alloc (Nat.le_refl _) _)).keep (Below.refl _ _).drew
          have hz : B < wr.heap.size := by have := X.out.lt; omega
          have er2 : (wr.drew.alloc (.cells #[.int .i64 0, .int .i64 1, .int .i64 6, .int .i64 17] 3)).cell? ⟨B, 0, none⟩ = some (.int .i64 pr) := acell er _
          have ef2 : (wr.drew.alloc (.cells #[.int .i64 0, .int .i64 1, .int .i64 6, .int .i64 17] 3)).frozen? ⟨B, 0, none⟩ = false := bthaw ((Below.refl _ _).alloc (Nat.le_refl _) _) (show wr.drew.cell? _ = _ from er) ef
          go_wp2
          go_roundw
          case rel => exact ⟨3 + 1, 17, by omega, by go_num, HV', XA⟩
          case measure => simp [intOf]
        · have hq : ([117, 100, 112] == w1.toList) = false := by rw [beq_eq_false_iff_ne]; exact fun h => hl h.symm
          have hq2 : (w1.toList == [117, 100, 112]) = false := by rw [beq_eq_false_iff_ne]; exact hl
          have HV' : Hid (pr = pvk w1.toList (3 + 1)) := by
            show _ = _
            rw [HV.out, pvk_miss w1.toList 3 (by omega) (fun h => by omega) (fun h => by omega) (fun h => by omega) (fun _ => hl)]
          clear hl
          have en := X.out.n3
          go_wp2_with fail
          refine wp_region_held_drew (S := (fun wx => wx.cell? ⟨B + 1, 3, none⟩ = some (.string ⟨#[117, 100, 112]⟩) ∧ wx.cell? ⟨g, 1, none⟩ = some (.string w1))) (by kernel_rfl) ?_ (fun hH0 => ?_)
          · exact ⟨en, e1⟩
          refine wpAnyH_take (i := 0) (v := ?v43501) rfl (by kernel_rfl) (by kernel_rfl) (by kernel_rfl) (fun _ _ _ h => h) (Or.inl ⟨by rfl, ?hy43501⟩) (by assumption) ?rest43501
          case hy43501 => (intro w hSw; (try dsimp only at hSw); go_simp; (try with_reducible rfl))
          refine wpAnyH_take (i := 1) (v := ?v43502) rfl (by kernel_rfl) (by kernel_rfl) (by kernel_rfl) (fun _ _ _ h => h) (Or.inl ⟨by rfl, ?hy43502⟩) (by assumption) ?rest43502
          case hy43502 => (intro w hSw; (try dsimp only at hSw); go_simp; (try with_reducible rfl))
          refine wpAnyH_take (i := 2) (v := ?v43503) rfl (by kernel_rfl) (by kernel_rfl) (by kernel_rfl) (fun _ _ _ h => h) (Or.inl ⟨by rfl, ?hy43503⟩) (by assumption) ?rest43503
          case hy43503 => (intro w hSw; (try dsimp only at hSw); go_simp; (try with_reducible rfl))
          refine wpAnyH_take (i := 3) (v := ?v43504) rfl (by kernel_rfl) (by kernel_rfl) (by kernel_rfl) (fun _ _ _ h => h) (Or.inl ⟨by rfl, ?hy43504⟩) (by assumption) ?rest43504
          case hy43504 => (intro w hSw; (try dsimp only at hSw); go_simp; (try with_reducible rfl))
          refine wpAnyH_take (i := 4) (v := ?v43505) rfl (by kernel_rfl) (by kernel_rfl) (by kernel_rfl) (fun _ _ _ h => h) (Or.inl ⟨by rfl, ?hy43505⟩) (by assumption) ?rest43505
          case hy43505 => (intro w hSw; (try dsimp only at hSw); go_simp; (try with_reducible rfl))
          refine wpAnyH_take (i := 5) (v := ?v43506) rfl (by kernel_rfl) (by kernel_rfl) (by kernel_rfl) (fun _ _ _ h => h) (Or.inl ⟨by rfl, ?hy43506⟩) (by assumption) ?rest43506
          case hy43506 => (intro w hSw; (try dsimp only at hSw); go_simp; (try with_reducible rfl))
          refine wpAnyH_take (i := 6) (v := ?v43507) rfl (by kernel_rfl) (by kernel_rfl) (by kernel_rfl) (fun _ _ _ h => h) (Or.inl ⟨by rfl, ?hy43507⟩) (by assumption) ?rest43507
          case hy43507 => (intro w hSw; (try dsimp only at hSw); go_simp; (try with_reducible rfl))
          refine wpAnyH_take (i := 7) (v := ?v43508) rfl (by kernel_rfl) (by kernel_rfl) (by kernel_rfl) (fun _ _ _ h => h) (Or.inl ⟨by rfl, ?hy43508⟩) (by assumption) ?rest43508
          case hy43508 => (intro w hSw; (try dsimp only at hSw); go_simp; (try with_reducible rfl))
          refine wpAnyH_done (by kernel_rfl) ?_ _
          go_simp
          go_wp2
          go_roundw
          case rel => exact ⟨3 + 1, pr, by omega, by go_num, HV', XD⟩
          case measure => simp [intOf]
      · clear XD e1 er ef
        have EP : Hid (pr = if pnB w1 then pnV w1 else -1) := HV.out.trans (pvk_four w1)
        have e2 := X.out.q2
        go_wp2_with fail
        refine (HN.out _).mono ?_
        rintro e wy ⟨n0, n1, rfl, hn, by1⟩
        have X2 : Hid (RdW w (wy.alloc (.cells #[.int .i64 n0, .int .i64 n1] 40)) g B w0 w1 w2 w3 w4 pr true) := (X.out.keep by1).keep ((Below.refl _ _).alloc (Nat.le_refl _) _)
        have HNN : Hid (rd = true → n0 = v0 ∧ n1 = v1) := hn
        have X1 : Hid (RdW w wy g B w0 w1 w2 w3 w4 pr true) := X.out.keep by1
        have y0 := X1.out.r0
        have y1 := X1.out.r1
        have y2 := X1.out.r2
        have y3 := X1.out.r3
        have y4 := X1.out.r4
        have y5 := X1.out.r5
        have yf := X1.out.rf
        have e3 := X2.out.q3
        have e4 := X2.out.q4
        have b0 := X2.out.r0
        have b1 := X2.out.r1
        have b2 := X2.out.r2
        have b3 := X2.out.r3
        have b4 := X2.out.r4
        have b5 := X2.out.r5
        have bf := X2.out.rf
        have hlt := X2.out.lt
        have lBy : B < wy.heap.size := by have := X.out.lt; have := by1.size; omega
        have hBne : B ≠ wy.heap.size := by omega
        clear by1 hn X e2 HV
        go_wp2_with fail
        refine (H3.out _).mono ?_
        rintro e w9 ⟨rfl, rfl⟩
        go_wp2_with fail
        refine (H4.out _).mono ?_
        rintro e w8 ⟨rfl, rfl⟩
        have hle := X1.out.le
        have hne : w.heap.size ≠ B := by omega
        obtain ⟨U, hU⟩ : ∃ U, U = (((wy.setCell ⟨B, 1, none⟩ (.int .i64 n0)).setCell ⟨B, 2, none⟩ (.int .i64 n1)).setCell ⟨B, 3, none⟩ (.int .i64 l3)).setCell ⟨B, 4, none⟩ (.int .i64 l4) := ⟨_, rfl⟩
        have u0 : U.cell? ⟨B, 0, none⟩ = some (.int .i64 pr) := by rw [hU]; simp [go_sem, y0]
        have u1 : U.cell? ⟨B, 1, none⟩ = some (.int .i64 n0) := by rw [hU]; simp [go_sem, y1]
        have u2 : U.cell? ⟨B, 2, none⟩ = some (.int .i64 n1) := by rw [hU]; simp [go_sem, y2]
        have u3 : U.cell? ⟨B, 3, none⟩ = some (.int .i64 l3) := by rw [hU]; simp [go_sem, y3]
        have u4 : U.cell? ⟨B, 4, none⟩ = some (.int .i64 l4) := by rw [hU]; simp [go_sem, y4]
        have u5 : U.cell? ⟨B, 5, none⟩ = some (.bool true) := by rw [hU]; simp [go_sem, y5]
        have cz : ∀ j, j < 5 → U.cell? ⟨w.heap.size, j, none⟩ = some (.int .i64 0) := fun j hj => by rw [hU]; exact cell_away (cell_away (cell_away (cell_away (X1.out.c j hj) hne) hne) hne) hne
        have cz5 : U.cell? ⟨w.heap.size, 5, none⟩ = some (.bool false) := by rw [hU]; exact cell_away (cell_away (cell_away (cell_away X1.out.c5 hne) hne) hne) hne
        have czf : ∀ j, U.frozen? ⟨w.heap.size, j, none⟩ = false := fun j => by rw [hU, World.frozen?_setCell, World.frozen?_setCell, World.frozen?_setCell, World.frozen?_setCell]; exact X1.out.cf j
        have BU : Below w.heap.size w U := by rw [hU]; exact (((X1.out.below.setCell (Nat.le_of_lt hle) _).setCell (Nat.le_of_lt hle) _).setCell (Nat.le_of_lt hle) _).setCell (Nat.le_of_lt hle) _
        have hUs : U.heap.size = wy.heap.size := by rw [hU]; simp
        obtain ⟨V, hV⟩ : ∃ V, V = U.alloc (.cells #[.int .i64 n0, .int .i64 n1] 40) := ⟨_, rfl⟩
        have v0' : V.cell? ⟨B, 0, none⟩ = some (.int .i64 pr) := by rw [hV]; exact acell u0 _
        have v1' : V.cell? ⟨B, 1, none⟩ = some (.int .i64 n0) := by rw [hV]; exact acell u1 _
        have v2' : V.cell? ⟨B, 2, none⟩ = some (.int .i64 n1) := by rw [hV]; exact acell u2 _
        have v3' : V.cell? ⟨B, 3, none⟩ = some (.int .i64 l3) := by rw [hV]; exact acell u3 _
        have v4' : V.cell? ⟨B, 4, none⟩ = some (.int .i64 l4) := by rw [hV]; exact acell u4 _
        have v5' : V.cell? ⟨B, 5, none⟩ = some (.bool true) := by rw [hV]; exact acell u5 _
        have a0 : V.cell? ⟨w.heap.size, 0, none⟩ = some (.int .i64 0) := by rw [hV]; exact acell (cz 0 (by omega)) _
        have a1 : V.cell? ⟨w.heap.size, 1, none⟩ = some (.int .i64 0) := by rw [hV]; exact acell (cz 1 (by omega)) _
        have a2 : V.cell? ⟨w.heap.size, 2, none⟩ = some (.int .i64 0) := by rw [hV]; exact acell (cz 2 (by omega)) _
        have a3 : V.cell? ⟨w.heap.size, 3, none⟩ = some (.int .i64 0) := by rw [hV]; exact acell (cz 3 (by omega)) _
        have a4 : V.cell? ⟨w.heap.size, 4, none⟩ = some (.int .i64 0) := by rw [hV]; exact acell (cz 4 (by omega)) _
        have a5 : V.cell? ⟨w.heap.size, 5, none⟩ = some (.bool false) := by rw [hV]; exact acell cz5 _
        have af : ∀ i, V.frozen? ⟨w.heap.size, i, none⟩ = false := fun i => by
          have hb : Below U.heap.size U V := by rw [hV]; exact (Below.refl _ _).alloc (Nat.le_refl _) _
          rw [hb.frozen (p := ⟨w.heap.size, i, none⟩) (by show w.heap.size < _; omega)]
          exact czf i
        have XV : Hid (Below w.heap.size w V) := by
          show Below _ _ _
          rw [hV]
          exact BU.alloc BU.size _
        have HR : Hid (∀ w, Calls Tryd.prog 75 #[.agg #[.int .i64 pr, .int .i64 n0, .int .i64 n1, .int .i64 l3, .int .i64 l4, .bool true]] w fun e w' => e = .returned (.bool (ruB ⟨pr, n0, n1, l3, l4, true⟩)) ∧ Grw w w') := fun w => specRuleOK_any _ _ _ _ _ _ w
        go_wp2_with fail
        rw [← hU]
        rw [← hV]
        clear u0 u1 u2 u3 u4 u5 cz cz5 czf BU hUs hU hV y0 y1 y2 y3 y4 y5 yf b0 b1 b2 b3 b4 b5 bf e3 e4 X1 X2 hlt lBy hBne
        cases hab : (rd && (q3 && q4)) with
        | false =>
          have ez : zz = false := by
            rw [HZ.out]
            cases rd <;> cases q3 <;> cases q4 <;> simp at hab ⊢
          subst ez
          have hcase : (rd = false) ∨ (rd = true ∧ q3 = false) ∨ (rd = true ∧ q3 = true ∧ q4 = false) := by
            cases rd <;> cases q3 <;> cases q4 <;> simp at hab ⊢
          clear hab HZ
          have FIN : ∀ W, W = (((((V.setCell ⟨w.heap.size, 0, none⟩ (.int .i64 pr)).setCell ⟨w.heap.size, 1, none⟩ (.int .i64 n0)).setCell ⟨w.heap.size, 2, none⟩ (.int .i64 n1)).setCell ⟨w.heap.size, 3, none⟩ (.int .i64 l3)).setCell ⟨w.heap.size, 4, none⟩ (.int .i64 l4)).setCell ⟨w.heap.size, 5, none⟩ (.bool true) → W.cell? ⟨w.heap.size, 0, none⟩ = some (.int .i64 pr) ∧ W.cell? ⟨w.heap.size, 1, none⟩ = some (.int .i64 n0) ∧ W.cell? ⟨w.heap.size, 2, none⟩ = some (.int .i64 n1) ∧ W.cell? ⟨w.heap.size, 3, none⟩ = some (.int .i64 l3) ∧ W.cell? ⟨w.heap.size, 4, none⟩ = some (.int .i64 l4) ∧ W.cell? ⟨w.heap.size, 5, none⟩ = some (.bool true) ∧ Below w.heap.size w W := by
            rintro W rfl
            exact ⟨by simp [go_sem, a0], by simp [go_sem, a1], by simp [go_sem, a2], by simp [go_sem, a3], by simp [go_sem, a4], by simp [go_sem, a5], (((((XV.out.setCell (Nat.le_refl _) _).setCell (Nat.le_refl _) _).setCell (Nat.le_refl _) _).setCell (Nat.le_refl _) _).setCell (Nat.le_refl _) _).setCell (Nat.le_refl _) _⟩
          have FN : Hid (∀ W, W = (((((V.setCell ⟨w.heap.size, 0, none⟩ (.int .i64 pr)).setCell ⟨w.heap.size, 1, none⟩ (.int .i64 n0)).setCell ⟨w.heap.size, 2, none⟩ (.int .i64 n1)).setCell ⟨w.heap.size, 3, none⟩ (.int .i64 l3)).setCell ⟨w.heap.size, 4, none⟩ (.int .i64 l4)).setCell ⟨w.heap.size, 5, none⟩ (.bool true) → W.cell? ⟨w.heap.size, 0, none⟩ = some (.int .i64 pr) ∧ W.cell? ⟨w.heap.size, 1, none⟩ = some (.int .i64 n0) ∧ W.cell? ⟨w.heap.size, 2, none⟩ = some (.int .i64 n1) ∧ W.cell? ⟨w.heap.size, 3, none⟩ = some (.int .i64 l3) ∧ W.cell? ⟨w.heap.size, 4, none⟩ = some (.int .i64 l4) ∧ W.cell? ⟨w.heap.size, 5, none⟩ = some (.bool true) ∧ Below w.heap.size w W) := FIN
          clear FIN
          have done1 : True := trivial
          rcases hcase with e1 | ⟨e1, e2⟩ | ⟨e1, e2, e3⟩
          all_goals
            (try subst e1)
            (try subst e2)
            (try subst e3)
            go_big_region
            obtain ⟨W, hW⟩ : ∃ W, W = (((((V.setCell ⟨w.heap.size, 0, none⟩ (.int .i64 pr)).setCell ⟨w.heap.size, 1, none⟩ (.int .i64 n0)).setCell ⟨w.heap.size, 2, none⟩ (.int .i64 n1)).setCell ⟨w.heap.size, 3, none⟩ (.int .i64 l3)).setCell ⟨w.heap.size, 4, none⟩ (.int .i64 l4)).setCell ⟨w.heap.size, 5, none⟩ (.bool true) := ⟨_, rfl⟩
            obtain ⟨s0, s1, s2, s3, s4, s5, sb⟩ := FN.out W hW
            have XW : Hid (Below w.heap.size w W.drew) := sb.drew
            rw [← hW]
            clear hW FN sb
            go_wp2
            (try simp only [Exit.inBlock, Exit.then])
            refine bodyPost_ret (v := .tuple #[.agg #[.int .i64 pr, .int .i64 n0, .int .i64 n1, .int .i64 l3, .int .i64 l4, .bool true], .bool false]) (by simp [results, Tryd.results41, go_sem, s0, s1, s2, s3, s4, s5]; try rfl) rfl ?_
            exact rdPost_mk (fun h => by cases h) XW.out
        | true =>
          have h3 : rd = true ∧ q3 = true ∧ q4 = true := by
            cases rd <;> cases q3 <;> cases q4 <;> simp at hab ⊢
          clear hab
          obtain ⟨e1, e2, e3⟩ := h3
          subst e1 e2 e3
          obtain ⟨rfl, rfl⟩ := HNN.out rfl
          clear HNN
          obtain ⟨zr, hzr⟩ : ∃ zr, zr = ruB ⟨pr, n0, n1, l3, l4, true⟩ := ⟨_, rfl⟩
          have ER : Hid (zz = zr ∧ (zz = true → pr = pnV w1)) := by
            have e1 := EP.out
            have e2 := HZ.out
            cases hp : pnB w1 with
            | true =>
              rw [hp, if_pos rfl] at e1
              subst e1
              exact ⟨by rw [e2, hp, hzr]; rfl, fun _ => rfl⟩
            | false =>
              rw [hp, if_neg (by simp)] at e1
              subst e1
              have e3 : zr = false := by rw [hzr]; unfold ruB prB; rw [dec_n (by simp)]; rfl
              exact ⟨by rw [e2, hp, e3]; rfl, fun h => by rw [e2, hp] at h; cases h⟩
          rw [← hzr] at HR
          clear hzr HZ EP
          have ez := ER.out.1
          subst ez
          have EQ : Hid (zz = true → pr = pnV w1) := ER.out.2
          clear ER
          have hVl : Hid (B < V.heap.size ∧ w.heap.size < V.heap.size) := ⟨World.block_lt_of_cell? V _ v0', World.block_lt_of_cell? V _ a0⟩
          have hneB : B ≠ w.heap.size := fun e => hne e.symm
          have lw0 : w.heap.size < V.heap.size := hVl.out.2
          clear hVl
          refine wp_region_held_drew (S := (fun wx => wx.cell? ⟨B, 0, none⟩ = some (.int .i64 pr) ∧ wx.cell? ⟨B, 1, none⟩ = some (.int .i64 n0) ∧ wx.cell? ⟨B, 2, none⟩ = some (.int .i64 n1) ∧ wx.cell? ⟨B, 3, none⟩ = some (.int .i64 l3) ∧ wx.cell? ⟨B, 4, none⟩ = some (.int .i64 l4) ∧ wx.cell? ⟨B, 5, none⟩ = some (.bool true))) (by kernel_rfl) ?_ (fun hH0 => ?_)
          · exact ⟨v0', v1', v2', v3', v4', v5'⟩
          refine wpAnyH_take (i := 0) (v := .agg #[.int .i64 pr, .int .i64 n0, .int .i64 n1, .int .i64 l3, .int .i64 l4, .bool true]) rfl (by kernel_rfl) (by kernel_rfl) (by kernel_rfl) (fun _ _ _ h => h) (Or.inl ⟨by rfl, ?hy49001⟩) (by assumption) ?rest49001
          case hy49001 => (intro w hSw; (try dsimp only at hSw); go_simp; (try with_reducible rfl))
          refine wpAnyH_take (i := 1) (v := .bool true) rfl (by kernel_rfl) (by kernel_rfl) (by kernel_rfl) (fun _ _ _ h => h) (Or.inl ⟨by rfl, ?hy49002⟩) (by assumption) ?rest49002
          case hy49002 => (intro w hSw; (try dsimp only at hSw); go_simp; (try with_reducible rfl))
          refine wpAnyH_take (i := 2) (v := .bool true) rfl (by kernel_rfl) (by kernel_rfl) (by kernel_rfl) (fun _ _ _ h => h) (Or.inl ⟨by rfl, ?hy49003⟩) (by assumption) ?rest49003
          case hy49003 => (intro w hSw; (try dsimp only at hSw); go_simp; (try with_reducible rfl))
          refine wpAnyH_take (i := 3) (v := .bool true) rfl (by kernel_rfl) (by kernel_rfl) (by kernel_rfl) (fun _ _ _ h => h) (Or.inl ⟨by first | kernel_rfl | rfl, ?hy49004⟩) (by assumption) ?rest49004
          case hy49004 => (intro w hSw; (try dsimp only at hSw); go_simp; (try with_reducible rfl))
          refine wpAnyH_take (i := 4) (v := .bool true) rfl (by kernel_rfl) (by kernel_rfl) (by kernel_rfl) (fun _ _ _ h => h) (Or.inl ⟨by rfl, ?hy49005⟩) (by assumption) ?rest49005
          case hy49005 => (intro w hSw; (try dsimp only at hSw); go_simp; (try with_reducible rfl))
          refine wpAnyH_take (i := 5) (v := .bool true) rfl (by kernel_rfl) (by kernel_rfl) (by kernel_rfl) (fun _ _ _ h => h) (Or.inl ⟨by rfl, ?hy49006⟩) (by assumption) ?rest49006
          case hy49006 => (intro w hSw; (try dsimp only at hSw); go_simp; (try with_reducible rfl))
          refine wpAnyH_take (i := 6) (v := .bool true) rfl (by kernel_rfl) (by kernel_rfl) (by kernel_rfl) (fun _ _ _ h => h) (Or.inl ⟨by first | kernel_rfl | rfl, ?hy49007⟩) (by assumption) ?rest49007
          case hy49007 => (intro w hSw; (try dsimp only at hSw); go_simp; (try with_reducible rfl))
          refine wpAnyH_take (i := 7) (v := .bool true) rfl (by kernel_rfl) (by kernel_rfl) (by kernel_rfl) (fun _ _ _ h => h) (Or.inl ⟨by rfl, ?hy49008⟩) (by assumption) ?rest49008
          case hy49008 => (intro w hSw; (try dsimp only at hSw); go_simp; (try with_reducible rfl))
          refine wpAnyH_take (i := 8) (v := .bool true) rfl (by kernel_rfl) (by kernel_rfl) (by kernel_rfl) (fun _ _ _ h => h) (Or.inl ⟨by rfl, ?hy49009⟩) (by assumption) ?rest49009
          case hy49009 => (intro w hSw; (try dsimp only at hSw); go_simp; (try with_reducible rfl))
          refine wpAnyH_take (i := 9) (v := .agg #[.int .i64 pr, .int .i64 n0, .int .i64 n1, .int .i64 l3, .int .i64 l4, .bool true]) rfl (by kernel_rfl) (by kernel_rfl) (by kernel_rfl) (fun _ _ _ h => h) (Or.inl ⟨by first | kernel_rfl | rfl, ?hy49010⟩) (by assumption) ?rest49010
          case hy49010 => (intro w hSw; (try dsimp only at hSw); go_simp; (try with_reducible rfl))
          refine wpAnyH_ready (rs := [10]) (by kernel_rfl) (by simp) ?_
          refine AllReadyH.cons rfl (fun K hK => ?_) ?_
          · go_simp
            go_at_call 75
            (with_reducible refine (HR.out _).mono ?_)
            rintro e w4 ⟨rfl, g4⟩
            have b4 := g4.below
            obtain ⟨z0, z1, z2', z3', z4', z5'⟩ := six_keep (W := V.drew) b4 (B := w.heap.size) ⟨a0, a1, a2, a3, a4, a5⟩
            have S4 := six_keep (W := V.drew) b4 (B := B) ⟨v0', v1', v2', v3', v4', v5'⟩
            have f0 : ∀ i, w4.frozen? ⟨w.heap.size, i, none⟩ = false := fun i => by rw [b4.frozen (p := ⟨w.heap.size, i, none⟩) (by exact lw0)]; exact af i
            have f00 := f0 0
            have f01 := f0 1
            have f02 := f0 2
            have f03 := f0 3
            have f04 := f0 4
            have f05 := f0 5
            have XV4 : Hid (Below w.heap.size w w4) := XV.out.trans (((Below.refl _ _).drew.trans b4).mono XV.out.size)
            refine hK.out _ _ ?_ (fun hH49011 => ?_)
            · (try dsimp only)
              first | with_reducible exact S4 | exact six_away hneB S4
            clear hK K hH0
            refine wpAnyH_take (i := 11) (v := .bool zz) rfl (by kernel_rfl) (by kernel_rfl) (by kernel_rfl) (fun _ _ _ h => h) (Or.inl ⟨by rfl, ?hy49012⟩) (by assumption) ?rest49012
            case hy49012 => (intro w hSw; (try dsimp only at hSw); go_simp; (try with_reducible rfl))
            refine wpAnyH_ready (rs := [12]) (by kernel_rfl) (by simp) ?_
            refine AllReadyH.cons rfl (fun K hK => ?_) ?_
            · go_simp
              refine hK.out _ _ ?_ (fun hH49013 => ?_)
              · (try dsimp only)
                first | with_reducible exact S4 | exact six_away hneB S4
              clear hK K hH49011
              refine wpAnyH_take (i := 13) (v := .bool zz) rfl (by kernel_rfl) (by kernel_rfl) (by kernel_rfl) (fun _ _ _ h => h) (Or.inl ⟨by rfl, ?hy49014⟩) (by assumption) ?rest49014
              case hy49014 => (intro w hSw; (try dsimp only at hSw); go_simp; (try with_reducible rfl))
              refine wpAnyH_done (by kernel_rfl) ?_ _
              go_simp
              obtain ⟨W, hW⟩ : ∃ W, W = ((((((w4.setCell ⟨w.heap.size, 0, none⟩ (.int .i64 pr)).setCell ⟨w.heap.size, 1, none⟩ (.int .i64 n0)).setCell ⟨w.heap.size, 2, none⟩ (.int .i64 n1)).setCell ⟨w.heap.size, 3, none⟩ (.int .i64 l3)).setCell ⟨w.heap.size, 4, none⟩ (.int .i64 l4)).setCell ⟨w.heap.size, 5, none⟩ (.bool true)) := ⟨_, rfl⟩
              have s0 : W.cell? ⟨w.heap.size, 0, none⟩ = some (.int .i64 pr) := by rw [hW]; simp [go_sem, z0]
              have s1 : W.cell? ⟨w.heap.size, 1, none⟩ = some (.int .i64 n0) := by rw [hW]; simp [go_sem, z1]
              have s2 : W.cell? ⟨w.heap.size, 2, none⟩ = some (.int .i64 n1) := by rw [hW]; simp [go_sem, z2']
              have s3 : W.cell? ⟨w.heap.size, 3, none⟩ = some (.int .i64 l3) := by rw [hW]; simp [go_sem, z3']
              have s4 : W.cell? ⟨w.heap.size, 4, none⟩ = some (.int .i64 l4) := by rw [hW]; simp [go_sem, z4']
              have s5 : W.cell? ⟨w.heap.size, 5, none⟩ = some (.bool true) := by rw [hW]; simp [go_sem, z5']
              have XW : Hid (Below w.heap.size w W) := by
                show Below _ _ _
                rw [hW]
                exact ((((((XV4.out.setCell (Nat.le_refl _) _).setCell (Nat.le_refl _) _).setCell (Nat.le_refl _) _).setCell (Nat.le_refl _) _).setCell (Nat.le_refl _) _).setCell (Nat.le_refl _) _)
              rw [← hW]
              clear hW
              go_wp2
              (try simp only [Exit.inBlock, Exit.then])
              refine bodyPost_ret (v := .tuple #[.agg #[.int .i64 pr, .int .i64 n0, .int .i64 n1, .int .i64 l3, .int .i64 l4, .bool true], .bool zz]) (by simp [results, Tryd.results41, go_sem, s0, s1, s2, s3, s4, s5]; try rfl) rfl ?_
              exact rdPost_mk (fun h => ⟨EQ.out h, rfl, rfl, rfl, rfl, rfl⟩) XW.out
            exact AllReadyH.nil
          exact AllReadyH.nil
end Go.Proofs.YtimhkeebgogfoaaDoor
