/- Draws in a row, with the box of an answer beside them; a drawn question for a mac. -/
import Derived.Test.YtcgdpijmfgkalaaDraws
namespace Go.Proofs.Ytcgdpijmfgkalaa
open Go.RowKit Go.PlainAid
set_option linter.unusedVariables false
set_option maxRecDepth 20000

theorem Slots.grown {w w' : World} {q b : Nat} {cs : List Value} (h : Slots w b cs) (g : w.grownBy w' (some q)) (hb : b ≠ q) (hl : b < w.heap.size) : Slots w' b cs := by
  have e := g.block b hl (by simpa using hb)
  refine ⟨fun i v hi => ?_, fun i => ?_⟩
  · rw [World.cell?_of_block (a := ⟨b, i, none⟩) e]; exact h.1 i v hi
  · have := h.2 i
    unfold World.frozen? at this ⊢
    rw [e]
    exact this

/-- Behind k draws: the source, the answer's box, and nothing else turned. -/
structure DS (q : Nat) (a : Option Addr) (len cap : Nat) (f : Nat → Int) (w : World) (cs : List Value) (k : Nat) (wx : World) : Prop where
  src : ∃ m, m ≤ 3 * k ∧ Src wx q a len cap f m
  gr : w.grownBy wx (some q)
  box : Slots wx w.heap.size cs
  lt : w.heap.size < wx.heap.size
  ql : q < w.heap.size

theorem DS.start {q : Nat} {a : Option Addr} {len cap : Nat} {f : Nat → Int} {w : World} (h : Src w q a len cap f 0) (cs : List Value) (t : TypeId) : DS q a len cap f w cs 0 (w.alloc (.cells cs.toArray t)) :=
  ⟨⟨0, by omega, h.grown (World.grownBy_alloc w _ none) (by simp) (by simp)⟩, World.grownBy_alloc w _ (some q), Slots.new w cs t, by simp, World.block_lt_of_cell? w _ h.code⟩
theorem DS.drew {q : Nat} {a : Option Addr} {len cap : Nat} {f : Nat → Int} {w wx : World} {cs : List Value} {k : Nat} (h : DS q a len cap f w cs k wx) : DS q a len cap f w cs k wx.drew := by
  obtain ⟨⟨m, hm, hs⟩, hg, hb, hl, hq⟩ := h
  exact ⟨⟨m, hm, ⟨hs.code, hs.at_, hs.seed, hs.4, hs.5, hs.6, hs.7⟩⟩, ⟨hg.os, hg.tape, hg.output, hg.size, hg.block⟩, hb, hl, hq⟩
theorem DS.alloc {q : Nat} {a : Option Addr} {len cap : Nat} {f : Nat → Int} {w wx : World} {cs : List Value} {k : Nat} (h : DS q a len cap f w cs k wx) (o : Obj) : DS q a len cap f w cs k (wx.alloc o) := by
  obtain ⟨⟨m, hm, hs⟩, hg, hb, hl, hq⟩ := h
  exact ⟨⟨m, hm, hs.grown (World.grownBy_alloc wx _ none) (by simp) (by simp)⟩, grown_alloc hg o, hb.below ((Below.refl _ _).alloc (Nat.le_refl _) o) hl, by simp; omega, hq⟩
theorem DS.step {q : Nat} {a : Option Addr} {len cap : Nat} {f : Nat → Int} {w wx w' : World} {cs : List Value} {k m : Nat} (h : DS q a len cap f w cs k wx) (hm : m ≤ 3 * k) (d : Drawn wx w' q a len cap f m) : DS q a len cap f w cs (k + 1) w' := by
  obtain ⟨⟨m', hm', hs⟩, hg⟩ := d
  exact ⟨⟨m', by omega, hs⟩, grown_trans h.gr hg, h.box.grown hg (by have := h.ql; omega) h.lt, Nat.lt_of_lt_of_le h.lt hg.size, h.ql⟩
/-- What else was there stays. -/
theorem kept_box {wx w' : World} {q g : Nat} {cs : List Value} (hg : wx.grownBy w' (some q)) (h : Boxed wx g cs) (hq : g ≠ q) (hl : g < wx.heap.size) : Boxed w' g cs :=
  fun i v hi => by rw [World.cell?_of_block (a := ⟨g, i, none⟩) (hg.block g hl (by simpa using hq))]; exact h i v hi

theorem next_ds {q : Nat} {a : Option Addr} {len cap : Nat} {f : Nat → Int} {w : World} {cs : List Value} {k : Nat} (n : Int) (hn : 1 ≤ n) (hn2 : n ≤ 1000000000) (hk : k ≤ 1000) (wx : World) (h : Hid (DS q a len cap f w cs k wx)) :
    Calls Try.prog 44 #[.pointer (some ⟨q, 0, none⟩), .int .i64 n] wx fun e w' => ∃ v : Int, e = .returned (.int .i64 v) ∧ 0 ≤ v ∧ v < n ∧ Hid (DS q a len cap f w cs (k + 1) w' ∧ wx.grownBy w' (some q)) := by
  obtain ⟨m, hm, hs⟩ := h.out.src
  exact (nextD wx q a len cap f m n hs (by omega) hn hn2).mono fun e w' ⟨v, he, h0, h1, d⟩ => ⟨v, he, h0, h1, h.out.step hm d.out, d.out.2⟩
theorem mac_ds {q : Nat} {a : Option Addr} {len cap : Nat} {f : Nat → Int} {w : World} {cs : List Value} {k : Nat} (hk : k ≤ 1000) (wx : World) (h : Hid (DS q a len cap f w cs k wx)) :
    Calls Try.prog 43 #[.pointer (some ⟨q, 0, none⟩)] wx fun e w' => ∃ s : ByteArray, e = .returned (.string s) ∧ s.size = 6 ∧ Hid (DS q a len cap f w cs (k + 1) w' ∧ wx.grownBy w' (some q)) := by
  obtain ⟨m, hm, hs⟩ := h.out.src
  exact (macD wx q a len cap f m hs (by omega)).mono fun e w' ⟨s, he, h0, d⟩ => ⟨s, he, h0, h.out.step hm d.out, d.out.2⟩
theorem lan_ds {q : Nat} {a : Option Addr} {len cap : Nat} {f : Nat → Int} {w : World} {cs : List Value} {k : Nat} (hk : k ≤ 1000) (wx : World) (h : Hid (DS q a len cap f w cs k wx)) :
    Calls Try.prog 49 #[.pointer (some ⟨q, 0, none⟩)] wx fun e w' => ∃ v : Int, e = .returned (.int .i64 v) ∧ 0 ≤ v ∧ v ≤ 4294967295 ∧ Hid (DS q a len cap f w cs (k + 1) w' ∧ wx.grownBy w' (some q)) := by
  obtain ⟨m, hm, hs⟩ := h.out.src
  exact (lanD wx q a len cap f m hs (by omega)).mono fun e w' ⟨v, he, h0, h1, d⟩ => ⟨v, he, h0, h1, h.out.step hm d.out, d.out.2⟩
theorem pick_ds {q : Nat} {a : Option Addr} {len cap : Nat} {f : Nat → Int} {w : World} {cs : List Value} {k : Nat} (hk : k ≤ 1000) (g : Nat) (t0 t1 t2 : ByteArray) (wx : World) (h : Hid (DS q a len cap f w cs k wx)) (hb : Boxed wx g [.string t0, .string t1, .string t2]) (hg : g ≠ q) :
    Calls Try.prog 45 #[.pointer (some ⟨q, 0, none⟩), .slice (some ⟨g, 0, none⟩) 3 3] wx fun e w' => ∃ t : ByteArray, e = .returned (.string t) ∧ (t = t0 ∨ t = t1 ∨ t = t2) ∧ Hid (DS q a len cap f w cs (k + 1) w' ∧ wx.grownBy w' (some q)) := by
  obtain ⟨m, hm, hs⟩ := h.out.src
  exact (pickD wx q g a len cap f m hs (by omega) t0 t1 t2 hb hg).mono fun e w' ⟨t, he, ht, d⟩ => ⟨t, he, ht, h.out.step hm d.out, d.out.2⟩

set_option maxHeartbeats 1000000 in
theorem arpD (w : World) (q : Nat) (a : Option Addr) (len cap : Nat) (f : Nat → Int) (h : Src w q a len cap f 0) :
    Calls Try.prog 34 #[.pointer (some ⟨q, 0, none⟩)] w fun e w' => ∃ (op : Int) (sm dm : ByteArray) (si di : Int), e = .returned (.agg #[.int .i64 op, .string sm, .string dm, .int .i64 si, .int .i64 di]) ∧ (1 ≤ op ∧ op ≤ 2) ∧ sm.size = 6 ∧ dm.size = 6 ∧ (0 ≤ si ∧ si ≤ 4294967295) ∧ (0 ≤ di ∧ di ≤ 4294967295) ∧ w.grownBy w' (some q) := by
  have X0 : Hid (DS q a len cap f w [.int .i64 0, .string ⟨#[]⟩, .string ⟨#[]⟩, .int .i64 0, .int .i64 0] 0 (w.alloc (.cells #[.int .i64 0, .string ⟨#[]⟩, .string ⟨#[]⟩, .int .i64 0, .int .i64 0] 31))) := DS.start h _ _
  clear h
  go_enter Try.func34, Try.ntmps34
  go_wp2_with fail
  refine (next_ds 2 (by omega) (by omega) (by omega) _ X0).mono ?_
  rintro e w1 ⟨v, rfl, v0, v1, Y1⟩
  have X1 : Hid (DS q a len cap f w [.int .i64 0, .string ⟨#[]⟩, .string ⟨#[]⟩, .int .i64 0, .int .i64 0] 1 w1) := Y1.out.1
  go_wp2_with fail
  refine (mac_ds (by omega) _ X1).mono ?_
  rintro e w2 ⟨sm, rfl, hsm, Y2⟩
  have X2 : Hid (DS q a len cap f w [.int .i64 0, .string ⟨#[]⟩, .string ⟨#[]⟩, .int .i64 0, .int .i64 0] 2 w2) := Y2.out.1
  go_wp2_with fail
  refine (mac_ds (by omega) _ X2).mono ?_
  rintro e w3 ⟨dm, rfl, hdm, Y3⟩
  have X3 : Hid (DS q a len cap f w [.int .i64 0, .string ⟨#[]⟩, .string ⟨#[]⟩, .int .i64 0, .int .i64 0] 3 w3) := Y3.out.1
  go_wp2_with fail
  refine (lan_ds (by omega) _ X3).mono ?_
  rintro e w4 ⟨si, rfl, s0, s1, Y4⟩
  have X4 : Hid (DS q a len cap f w [.int .i64 0, .string ⟨#[]⟩, .string ⟨#[]⟩, .int .i64 0, .int .i64 0] 4 w4) := Y4.out.1
  go_wp2_with fail
  refine (lan_ds (by omega) _ X4).mono ?_
  rintro e w5 ⟨di, rfl, d0, d1, Y5⟩
  have X5 : Hid (DS q a len cap f w [.int .i64 0, .string ⟨#[]⟩, .string ⟨#[]⟩, .int .i64 0, .int .i64 0] 5 w5) := Y5.out.1
  have k0 := X5.out.box.1.at 0 _ rfl
  have y0 := X5.out.box.2 0
  have k1 := X5.out.box.1.at 1 _ rfl
  have y1 := X5.out.box.2 1
  have k2 := X5.out.box.1.at 2 _ rfl
  have y2 := X5.out.box.2 2
  have k3 := X5.out.box.1.at 3 _ rfl
  have y3 := X5.out.box.2 3
  have k4 := X5.out.box.1.at 4 _ rfl
  have y4 := X5.out.box.2 4
  go_wp2
  (try simp only [Exit.inBlock, Exit.then])
  refine bodyPost_ret (v := .agg #[.int .i64 (1 + v), .string sm, .string dm, .int .i64 si, .int .i64 di]) (by simp [results, Try.results34, go_sem, *]; try rfl) rfl ?_
  refine ⟨1 + v, sm, dm, si, di, rfl, by omega, hsm, hdm, ⟨s0, s1⟩, ⟨d0, d1⟩, ?_⟩
  have hg := X5.out.gr
  have hb : ∀ (W : World), w.grownBy W (some q) → ∀ i v, w.grownBy (W.setCell ⟨w.heap.size, i, none⟩ v) (some q) := fun W hW i v =>
    ⟨hW.os, hW.tape, hW.output, by simpa using hW.size, fun b hl hr => by rw [Below.heap_setCell _ _ _ _ (by show b ≠ w.heap.size; omega)]; exact hW.block b hl hr⟩
  exact hb _ (hb _ (hb _ (hb _ (hb _ hg _ _) _ _) _ _) _ _) _ _
end Go.Proofs.Ytcgdpijmfgkalaa
