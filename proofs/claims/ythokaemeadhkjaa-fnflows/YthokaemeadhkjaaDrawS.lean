/- Draws in a row, with the box of an answer beside them; a drawn question for a mac. -/
import Derived.Test.YthokaemeadhkjaaDraws
namespace Go.Proofs.Ythokaemeadhkjaa
open Go.RowKit Go.PlainAid
set_option linter.unusedVariables false
set_option maxRecDepth 20000

theorem Slots.grown {w w' : World} {q b : Nat} {cs : List Value} (h : Slots w b cs) (g : w.grownBy w' (some q)) (hb : b ≠ q) (hl : b < w.heap.size) : Slots w' b cs := by
  have e := g.block b hl (by simpa using hb)
  refine ⟨fun i v hi => ?_, fun i => ?_⟩
  · rw [World.cell?_of_block (a := ⟨b, i, none⟩) e]; exact h.1 i v hi
  · have := h.2 i
    unfold World.frozen? at this ⊢
    rw [e]
    exact this

/-- Behind k draws: the source, the answer's box, and nothing else turned. -/
structure DS (q : Nat) (a : Option Addr) (len cap : Nat) (f : Nat → Int) (w : World) (cs : List Value) (k : Nat) (wx : World) : Prop where
  src : ∃ m, m ≤ 3 * k ∧ Src wx q a len cap f m
  gr : w.grownBy wx (some q)
  box : Slots wx w.heap.size cs
  lt : w.heap.size < wx.heap.size
  ql : q < w.heap.size

theorem DS.start {q : Nat} {a : Option Addr} {len cap : Nat} {f : Nat → Int} {w : World} (h : Src w q a len cap f 0) (cs : List Value) (t : TypeId) : DS q a len cap f w cs 0 (w.alloc (.cells cs.toArray t)) :=
  ⟨⟨0, by omega, h.grown (World.grownBy_alloc w _ none) (by simp) (by simp)⟩, World.grownBy_alloc w _ (some q), Slots.new w cs t, by simp, World.block_lt_of_cell? w _ h.code⟩
theorem DS.drew {q : Nat} {a : Option Addr} {len cap : Nat} {f : Nat → Int} {w wx : World} {cs : List Value} {k : Nat} (h : DS q a len cap f w cs k wx) : DS q a len cap f w cs k wx.drew := by
  obtain ⟨⟨m, hm, hs⟩, hg, hb, hl, hq⟩ := h
  exact ⟨⟨m, hm, ⟨hs.code, hs.at_, hs.seed, hs.4, hs.5, hs.6, hs.7⟩⟩, ⟨hg.os, hg.tape, hg.output, hg.size, hg.block⟩, hb, hl, hq⟩
theorem DS.alloc {q : Nat} {a : Option Addr} {len cap : Nat} {f : Nat → Int} {w wx : World} {cs : List Value} {k : Nat} (h : DS q a len cap f w cs k wx) (o : Obj) : DS q a len cap f w cs k (wx.alloc o) := by
  obtain ⟨⟨m, hm, hs⟩, hg, hb, hl, hq⟩ := h
  exact ⟨⟨m, hm, hs.grown (World.grownBy_alloc wx _ none) (by simp) (by simp)⟩, grown_alloc hg o, hb.below ((Below.refl _ _).alloc (Nat.le_refl _) o) hl, by simp; omega, hq⟩
theorem DS.step {q : Nat} {a : Option Addr} {len cap : Nat} {f : Nat → Int} {w wx w' : World} {cs : List Value} {k m : Nat} (h : DS q a len cap f w cs k wx) (hm : m ≤ 3 * k) (d : Drawn wx w' q a len cap f m) : DS q a len cap f w cs (k + 1) w' := by
  obtain ⟨⟨m', hm', hs⟩, hg⟩ := d
  exact ⟨⟨m', by omega, hs⟩, grown_trans h.gr hg, h.box.grown hg (by have := h.ql; omega) h.lt, Nat.lt_of_lt_of_le h.lt hg.size, h.ql⟩
/-- What else was there stays. -/
theorem kept_box {wx w' : World} {q g : Nat} {cs : List Value} (hg : wx.grownBy w' (some q)) (h : Boxed wx g cs) (hq : g ≠ q) (hl : g < wx.heap.size) : Boxed w' g cs :=
  fun i v hi => by rw [World.cell?_of_block (a := ⟨g, i, none⟩) (hg.block g hl (by simpa using hq))]; exact h i v hi

theorem next_ds {q : Nat} {a : Option Addr} {len cap : Nat} {f : Nat → Int} {w : World} {cs : List Value} {k : Nat} (n : Int) (hn : 1 ≤ n) (hn2 : n ≤ 1000000000) (hk : k ≤ 1000) (wx : World) (h : Hid (DS q a len cap f w cs k wx)) :
    Calls Try.prog 63 #[.pointer (some ⟨q, 0, none⟩), .int .i64 n] wx fun e w' => ∃ v : Int, e = .returned (.int .i64 v) ∧ 0 ≤ v ∧ v < n ∧ Hid (DS q a len cap f w cs (k + 1) w' ∧ wx.grownBy w' (some q)) := by
  obtain ⟨m, hm, hs⟩ := h.out.src
  exact (nextD wx q a len cap f m n hs (by omega) hn hn2).mono fun e w' ⟨v, he, h0, h1, d⟩ => ⟨v, he, h0, h1, h.out.step hm d.out, d.out.2⟩
theorem mac_ds {q : Nat} {a : Option Addr} {len cap : Nat} {f : Nat → Int} {w : World} {cs : List Value} {k : Nat} (hk : k ≤ 1000) (wx : World) (h : Hid (DS q a len cap f w cs k wx)) :
    Calls Try.prog 66 #[.pointer (some ⟨q, 0, none⟩)] wx fun e w' => ∃ s : ByteArray, e = .returned (.string s) ∧ s.size = 6 ∧ Hid (DS q a len cap f w cs (k + 1) w' ∧ wx.grownBy w' (some q)) := by
  obtain ⟨m, hm, hs⟩ := h.out.src
  exact (macD wx q a len cap f m hs (by omega)).mono fun e w' ⟨s, he, h0, d⟩ => ⟨s, he, h0, h.out.step hm d.out, d.out.2⟩
theorem lan_ds {q : Nat} {a : Option Addr} {len cap : Nat} {f : Nat → Int} {w : World} {cs : List Value} {k : Nat} (hk : k ≤ 1000) (wx : World) (h : Hid (DS q a len cap f w cs k wx)) :
    Calls Try.prog 67 #[.pointer (some ⟨q, 0, none⟩)] wx fun e w' => ∃ v : Int, e = .returned (.int .i64 v) ∧ 0 ≤ v ∧ v ≤ 4294967295 ∧ Hid (DS q a len cap f w cs (k + 1) w' ∧ wx.grownBy w' (some q)) := by
  obtain ⟨m, hm, hs⟩ := h.out.src
  exact (lanD wx q a len cap f m hs (by omega)).mono fun e w' ⟨v, he, h0, h1, d⟩ => ⟨v, he, h0, h1, h.out.step hm d.out, d.out.2⟩
theorem wan_ds {q : Nat} {a : Option Addr} {len cap : Nat} {f : Nat → Int} {w : World} {cs : List Value} {k : Nat} (hk : k ≤ 1000) (wx : World) (h : Hid (DS q a len cap f w cs k wx)) :
    Calls Try.prog 68 #[.pointer (some ⟨q, 0, none⟩)] wx fun e w' => ∃ v : Int, e = .returned (.int .i64 v) ∧ 0 ≤ v ∧ v ≤ 4294967295 ∧ Hid (DS q a len cap f w cs (k + 1) w' ∧ wx.grownBy w' (some q)) := by
  obtain ⟨m, hm, hs⟩ := h.out.src
  exact (wanD wx q a len cap f m hs (by omega)).mono fun e w' ⟨v, he, h0, h1, d⟩ => ⟨v, he, h0, h1, h.out.step hm d.out, d.out.2⟩
end Go.Proofs.Ythokaemeadhkjaa
