/- The reader with its methods: take, number, leaseKind. -/
import Derived.Test.YtdhjbbnggeamhacSrc
import Derived.Test.YtdhjbbnggeamhacPart
import Derived.Test.YtdhjbbnggeamhacNumOf
import Derived.WalkMore
namespace Go.Proofs.Ytdhjbbnggeamhac
open Go.RowKit Go.PlainAid
set_option linter.unusedVariables false
set_option maxRecDepth 20000

/-- A reader at block q: n bytes are left, g 0, g 1 ..; whether it is short. -/
structure RS (w : World) (q n : Nat) (g : Nat → Int) (sh : Bool) : Prop where
  row : ∃ b off c, w.cell? ⟨q, 0, none⟩ = some (.slice (some ⟨b, off, none⟩) n c) ∧ n ≤ c ∧ c ≤ 1048576 ∧ Bytes w (some ⟨b, off, none⟩) n g ∧ b ≠ q
  flag : w.cell? ⟨q, 1, none⟩ = some (.bool sh)
  f0 : w.frozen? ⟨q, 0, none⟩ = false
  f1 : w.frozen? ⟨q, 1, none⟩ = false

theorem RS.view {w : World} {q n : Nat} {g g' : Nat → Int} {sh : Bool} (h : RS w q n g sh) (e : g = g') : RS w q n g' sh := e ▸ h

/-- The reader's row set anew. -/
theorem RS.setRow {w : World} {q n m : Nat} {g g' : Nat → Int} {sh : Bool} (h : RS w q n g sh) {b off c : Nat} (hb : b ≠ q) (hm : m ≤ c) (hc : c ≤ 1048576) (hB : Bytes w (some ⟨b, off, none⟩) m g') :
    RS (w.setCell ⟨q, 0, none⟩ (.slice (some ⟨b, off, none⟩) m c)) q m g' sh ∧ Only q w (w.setCell ⟨q, 0, none⟩ (.slice (some ⟨b, off, none⟩) m c)) := by
  obtain ⟨b0, off0, c0, h0, -⟩ := h.row
  have ho : Only q w (w.setCell ⟨q, 0, none⟩ (.slice (some ⟨b, off, none⟩) m c)) := (Only.refl q w).setCell 0 _
  refine ⟨⟨⟨b, off, c, World.cell?_setCell_same _ _ _ h0, hm, hc, hB.only ho (fun b' off' _ e => by cases e; exact hb), hb⟩, ?_, by simpa using h.f0, by simpa using h.f1⟩, ho⟩
  rw [World.cell?_setCell_other _ _ _ _ (fun hh => by have := (Addr.mk.inj hh).2.1; omega)]
  exact h.flag
/-- The flag set. -/
theorem RS.setFlag {w : World} {q n : Nat} {g : Nat → Int} {sh : Bool} (h : RS w q n g sh) (sh' : Bool) :
    RS (w.setCell ⟨q, 1, none⟩ (.bool sh')) q n g sh' ∧ Only q w (w.setCell ⟨q, 1, none⟩ (.bool sh')) := by
  obtain ⟨b, off, c, h0, hn, hc, hB, hb⟩ := h.row
  have ho : Only q w (w.setCell ⟨q, 1, none⟩ (.bool sh')) := (Only.refl q w).setCell 1 _
  refine ⟨⟨⟨b, off, c, ?_, hn, hc, hB.only ho (fun b' off' _ e => by cases e; exact hb), hb⟩, World.cell?_setCell_same _ _ _ h.flag, by simpa using h.f0, by simpa using h.f1⟩, ho⟩
  rw [World.cell?_setCell_other _ _ _ _ (fun hh => by have := (Addr.mk.inj hh).2.1; omega)]
  exact h0

set_option maxHeartbeats 1000000 in
theorem take_some (w : World) (q n size : Nat) (g : Nat → Int) (h : RS w q n g false) (hs : size ≤ n) :
    Calls Try.prog 20 #[.pointer (some ⟨q, 0, none⟩), .int .i64 size] w fun e w' => ∃ a', e = .returned (.slice a' size size) ∧ Bytes w' a' size g ∧ RS w' q (n - size) (fun j => g (size + j)) false ∧ Only q w w' := by
  obtain ⟨b, off, c, h0, hn, hc, hB, hb⟩ := h.row
  have H : Hid (RS w q n g false ∧ Bytes w (some ⟨b, off, none⟩) n g) := ⟨h, hB⟩
  have h1 := h.flag
  have f0 := h.f0
  have f1 := h.f1
  clear h hB
  have t1 : decide ((n : Int) < (size : Int)) = false := by simp; omega
  have iS : (0 : Int) ≤ (size : Int) := by omega
  have iN : (size : Int) ≤ (n : Int) := by omega
  go_enter Try.func20, Try.ntmps20
  go_wp2_with fail
  refine (part_any b off n c 0 size w (by omega) (by omega)).mono ?_
  rintro e w1 ⟨a', rfl, ha, hw1⟩
  obtain rfl := hw1.symm
  have HA : Hid (0 < size → a' = some ⟨b, off + 0, none⟩) := ha
  clear hw1 ha
  have hBt : Bytes w a' size g := by
    have := H.out.2.part 0 size (by omega) a' HA.out
    simpa using this
  have HT : Hid (Bytes w a' size g) := hBt
  clear hBt
  by_cases hz : c = size
  · obtain rfl : n = size := by omega
    subst hz
    have Y := H.out.1.setRow (b := b) (off := off) (m := 0) (c := 0) (g' := fun j => g (c + j)) hb (Nat.le_refl _) (by omega) ⟨fun k => H.out.2.1 _, fun h => absurd h (by omega)⟩
    have YH : Hid (RS (w.setCell ⟨q, 0, none⟩ (.slice (some ⟨b, off, none⟩) 0 0)) q 0 (fun j => g (c + j)) false ∧ Only q w (w.setCell ⟨q, 0, none⟩ (.slice (some ⟨b, off, none⟩) 0 0))) := Y
    clear Y
    go_wp2
    go_ret
    refine ⟨a', rfl, HT.out.only YH.out.2 (fun b' off' h0 e => by have := HA.out h0; rw [this] at e; cases e; exact hb), ?_, YH.out.2⟩
    rw [Nat.sub_self]
    exact YH.out.1
  · have Y := H.out.1.setRow (b := b) (off := off + size) (m := n - size) (c := c - size) (g' := fun j => g (size + j)) hb (by omega) (by omega) (H.out.2.part size (n - size) (by omega) _ (fun _ => rfl))
    have YH : Hid (RS (w.setCell ⟨q, 0, none⟩ (.slice (some ⟨b, off + size, none⟩) (n - size) (c - size))) q (n - size) (fun j => g (size + j)) false ∧ Only q w (w.setCell ⟨q, 0, none⟩ (.slice (some ⟨b, off + size, none⟩) (n - size) (c - size)))) := Y
    clear Y
    go_wp2
    go_ret
    exact ⟨a', rfl, HT.out.only YH.out.2 (fun b' off' h0 e => by have := HA.out h0; rw [this] at e; cases e; exact hb), YH.out.1, YH.out.2⟩

set_option maxHeartbeats 1000000 in
theorem take_none (w : World) (q n size : Nat) (g : Nat → Int) (h : RS w q n g false) (hs : n < size) (hx : size ≤ 1048576) :
    Calls Try.prog 20 #[.pointer (some ⟨q, 0, none⟩), .int .i64 size] w fun e w' => e = .returned (.slice none 0 0) ∧ RS w' q n g true ∧ Only q w w' := by
  obtain ⟨b, off, c, h0, hn, hc, hB, hb⟩ := h.row
  have Y : Hid (RS (w.setCell ⟨q, 1, none⟩ (.bool true)) q n g true ∧ Only q w (w.setCell ⟨q, 1, none⟩ (.bool true))) := h.setFlag true
  have h1 := h.flag
  have f0 := h.f0
  have f1 := h.f1
  clear h hB
  have t1 : decide ((n : Int) < (size : Int)) = true := by simp; omega
  go_enter Try.func20, Try.ntmps20
  go_wp2
  go_ret
  exact ⟨rfl, Y.out⟩

set_option maxHeartbeats 1000000 in
theorem take_short (w : World) (q n size : Nat) (g : Nat → Int) (h : RS w q n g true) (hx : size ≤ 1048576) :
    Calls Try.prog 20 #[.pointer (some ⟨q, 0, none⟩), .int .i64 size] w fun e w' => e = .returned (.slice none 0 0) ∧ RS w' q n g true ∧ Only q w w' := by
  obtain ⟨b, off, c, h0, hn, hc, hB, hb⟩ := h.row
  have Y : Hid (RS (w.setCell ⟨q, 1, none⟩ (.bool true)) q n g true ∧ Only q w (w.setCell ⟨q, 1, none⟩ (.bool true))) := h.setFlag true
  have Y0 : Hid (RS w q n g true) := h
  have h1 := h.flag
  have f0 := h.f0
  have f1 := h.f1
  clear h hB
  by_cases hs : n < size
  · have t1 : decide ((n : Int) < (size : Int)) = true := by simp; omega
    go_enter Try.func20, Try.ntmps20
    go_wp2
    go_ret
    exact ⟨rfl, Y.out⟩
  · have t1 : decide ((n : Int) < (size : Int)) = false := by simp; omega
    go_enter Try.func20, Try.ntmps20
    go_wp2
    go_ret
    exact ⟨rfl, Y0.out, Only.refl _ _⟩

theorem num_one (g : Nat → Int) : numOf g 1 = g 0 := by simp [numOf]

set_option maxHeartbeats 1000000 in
theorem number_some (w : World) (q n : Nat) (g : Nat → Int) (h : RS w q n g false) (hs : 1 ≤ n) :
    Calls Try.prog 19 #[.pointer (some ⟨q, 0, none⟩), .int .i64 1] w fun e w' => e = .returned (.int .i64 (g 0)) ∧ RS w' q (n - 1) (fun j => g (1 + j)) false ∧ Only q w w' := by
  have H : Hid (RS w q n g false) := h
  clear h
  go_enter Try.func19, Try.ntmps19
  go_wp2_with fail
  refine (take_some w q n 1 g H.out hs).mono ?_
  rintro e w1 ⟨a', rfl, hB, hR, hO⟩
  have X : Hid (Bytes w1 a' 1 g ∧ RS w1 q (n - 1) (fun j => g (1 + j)) false ∧ Only q w w1) := ⟨hB, hR, hO⟩
  clear hB hR hO
  go_wp2_with fail
  refine (numberOf_yes a' 1 1 g w1 X.out.1 (by omega) (by omega)).mono ?_
  rintro e w2 ⟨rfl, hw2⟩
  obtain rfl := hw2.symm
  clear hw2
  go_wp2
  go_ret
  exact ⟨congrArg (fun v => Ending.returned (.int .i64 v)) (num_one g), X.out.2⟩

set_option maxHeartbeats 1000000 in
theorem number_none (w : World) (q n : Nat) (g : Nat → Int) (sh : Bool) (h : RS w q n g sh) (hs : sh = true ∨ n = 0) :
    Calls Try.prog 19 #[.pointer (some ⟨q, 0, none⟩), .int .i64 1] w fun e w' => e = .returned (.int .i64 0) ∧ RS w' q n g true ∧ Only q w w' := by
  have HT : Hid (Calls Try.prog 20 #[.pointer (some ⟨q, 0, none⟩), .int .i64 1] w fun e w' => e = .returned (.slice none 0 0) ∧ RS w' q n g true ∧ Only q w w') := by
    show Calls _ _ _ _ _
    cases sh
    · obtain rfl : n = 0 := by rcases hs with h | h; cases h; exact h
      exact take_none w q 0 1 g h (by omega) (by omega)
    · exact take_short w q n 1 g h (by omega)
  clear h hs
  go_enter Try.func19, Try.ntmps19
  go_wp2_with fail
  refine HT.out.mono ?_
  rintro e w1 ⟨rfl, hR, hO⟩
  have X : Hid (RS w1 q n g true ∧ Only q w w1) := ⟨hR, hO⟩
  clear hR hO
  go_wp2_with fail
  refine (numberOf_no none 0 0 w1 (by omega) (by omega)).mono ?_
  rintro e w2 ⟨rfl, hw2⟩
  obtain rfl := hw2.symm
  clear hw2
  go_wp2
  go_ret
  exact ⟨rfl, X.out⟩
end Go.Proofs.Ytdhjbbnggeamhac
