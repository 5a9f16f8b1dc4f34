/- Parts of a row and of a string: as strings and as numbers. -/
import Derived.Test.YtcgdpijmfgkalaaMacs
import Derived.Test.YtcgdpijmfgkalaaApp
import Derived.Test.YtcgdpijmfgkalaaNumOf
namespace Go.Proofs.Ytcgdpijmfgkalaa
open Go.RowKit Go.PlainAid
set_option linter.unusedVariables false
set_option maxRecDepth 20000

/-- The part of m bytes from a on, as a string; its number. -/
def ps (f : Nat → Int) (a m : Nat) : ByteArray := strOf (fun j => f (a + j)) m
def pn (f : Nat → Int) (a m : Nat) : Int := numOf (fun j => f (a + j)) m
theorem ps_size (f : Nat → Int) (a m : Nat) : (ps f a m).size = m := strOf_size _ _
theorem pn_bd (f : Nat → Int) (h : ∀ k, 0 ≤ f k ∧ f k ≤ 255) (a m : Nat) : 0 ≤ pn f a m ∧ pn f a m ≤ 256 ^ m - 1 := numOf_bd _ (fun k => h _) m
theorem pn2 (f : Nat → Int) (h : ∀ k, 0 ≤ f k ∧ f k ≤ 255) (a : Nat) : 0 ≤ pn f a 2 ∧ pn f a 2 ≤ 65535 := pn_bd f h a 2
theorem pn4 (f : Nat → Int) (h : ∀ k, 0 ≤ f k ∧ f k ≤ 255) (a : Nat) : 0 ≤ pn f a 4 ∧ pn f a 4 ≤ 4294967295 := pn_bd f h a 4
theorem strOf_extract (f : Nat → Int) (h : ∀ k, 0 ≤ f k ∧ f k ≤ 255) (n a b : Nat) (hab : a ≤ b) (hb : b ≤ n) : (strOf f n).extract a b = ps f a (b - a) := by
  apply nums_inj
  rw [nums_extract, nums_strOf f n h, ps, nums_strOf _ _ (fun k => h _)]
  apply List.ext_getElem?
  intro i
  rw [List.getElem?_take, List.getElem?_drop]
  by_cases hi : i < b - a
  · simp [hi, show a + i < n by omega]
  · simp [hi]
theorem numOf_ps (f : Nat → Int) (h : ∀ k, 0 ≤ f k ∧ f k ≤ 255) (a m : Nat) : numOf (bt (ps f a m)) m = pn f a m :=
  numOf_congr _ _ _ (fun j hj => strOf_bt _ _ (fun k => h _) j hj)
theorem at_pn (a : Option Addr) (len cap : Nat) (f : Nat → Int) (at_ size : Nat) (w : World) (h : Bytes w a len f) (hs : at_ + size ≤ len) (hc : len ≤ cap) (hx : cap ≤ 9223372036854775807) (h1 : 1 ≤ size) (h6 : size ≤ 6) :
    Calls Try.prog 32 #[.slice a len cap, .int .i64 at_, .int .i64 size] w fun e w' => e = .returned (.int .i64 (pn f at_ size)) ∧ w' = w := numberAt_any a len cap f at_ size w h hs hc hx h1 h6
theorem at_mac (a : Option Addr) (len cap : Nat) (f : Nat → Int) (at_ : Nat) (w : World) (h : Bytes w a len f) (hs : at_ + 6 ≤ len) (hc : len ≤ cap) (hx : cap ≤ 9223372036854775807) :
    Calls Try.prog 33 #[.slice a len cap, .int .i64 at_] w fun e w' => e = .returned (.string (ps f at_ 6)) ∧ Below w.heap.size w w' := macAt_any a len cap f at_ w h hs hc hx
theorem keep_bytes {wx w' : World} {a : Option Addr} {len : Nat} {f : Nat → Int} (b : Below wx.heap.size wx w') (h : Bytes wx a len f) : Bytes w' a len f := by
  refine ⟨h.1, fun h0 => ?_⟩
  obtain ⟨q, off, rfl, hc⟩ := h.2 h0
  exact ⟨q, off, rfl, fun i hi => keep_cell (hc i hi) b⟩
theorem conv_ps {wx : World} {b off len : Nat} {f : Nat → Int} (h : Bytes wx (some ⟨b, off, none⟩) len f) (a m c : Nat) (hm : a + m ≤ len) : (convert 22 9 (.slice (some ⟨b, off + a, none⟩) m c)).run Try.prog wx = .ok (.string (ps f a m)) wx :=
  conv_row (P := Try.prog) wx 22 9 5 Try.underlying22 Try.underlying5 Try.underlying9 _ m c _ (h.part a m hm _ (fun _ => rfl))
theorem conv_none (f : Nat → Int) (hf : ∀ k, 0 ≤ f k ∧ f k ≤ 255) (a : Nat) (wx : World) (x : Option Addr) (c : Nat) : (convert 22 9 (.slice x 0 c)).run Try.prog wx = .ok (.string (ps f a 0)) wx :=
  conv_row (P := Try.prog) wx 22 9 5 Try.underlying22 Try.underlying5 Try.underlying9 x 0 c _ ⟨fun k => hf _, fun h0 => absurd h0 (by omega)⟩

/-- A reader's memory: the row, all that was there, and its answer's box. -/
def RdS (w : World) (cs : List Value) (a : Option Addr) (len : Nat) (f : Nat → Int) (wx : World) : Prop := Bytes wx a len f ∧ Below w.heap.size w wx ∧ w.heap.size < wx.heap.size ∧ Slots wx w.heap.size cs
theorem RdS.new {w : World} {cs : List Value} {a : Option Addr} {len : Nat} {f : Nat → Int} (h : Bytes w a len f) (t : TypeId) : RdS w cs a len f (w.alloc (.cells cs.toArray t)) :=
  ⟨keep_bytes ((Below.refl _ _).alloc (Nat.le_refl _) _) h, (Below.refl _ _).alloc (Nat.le_refl _) _, by simp, Slots.new w cs t⟩
theorem RdS.next {w : World} {cs : List Value} {a : Option Addr} {len : Nat} {f : Nat → Int} {wx w' : World} (h : RdS w cs a len f wx) (b : Below wx.heap.size wx w') : RdS w cs a len f w' :=
  ⟨keep_bytes b h.1, h.2.1.trans (b.mono (Nat.le_of_lt h.2.2.1)), Nat.lt_of_lt_of_le h.2.2.1 b.size, h.2.2.2.below b h.2.2.1⟩
theorem RdS.drew {w : World} {cs : List Value} {a : Option Addr} {len : Nat} {f : Nat → Int} {wx : World} (h : RdS w cs a len f wx) : RdS w cs a len f wx.drew :=
  ⟨h.1, h.2.1.drew, h.2.2.1, h.2.2.2⟩
/-- Its numbers and macs in a reader's memory. -/
theorem rd_num {w : World} {cs : List Value} {a : Option Addr} {len cap : Nat} {f : Nat → Int} (at_ size : Nat) (hs : at_ + size ≤ len) (hc : len ≤ cap) (hx : cap ≤ 9223372036854775807) (h1 : 1 ≤ size) (h6 : size ≤ 6) (wx : World) (h : Hid (RdS w cs a len f wx)) :
    Calls Try.prog 32 #[.slice a len cap, .int .i64 at_, .int .i64 size] wx fun e w' => e = .returned (.int .i64 (pn f at_ size)) ∧ Hid (RdS w cs a len f w') :=
  (at_pn a len cap f at_ size wx h.out.1 hs hc hx h1 h6).mono fun e w' hh => ⟨hh.1, by rw [hh.2]; exact h⟩
theorem rd_mac {w : World} {cs : List Value} {a : Option Addr} {len cap : Nat} {f : Nat → Int} (at_ : Nat) (hs : at_ + 6 ≤ len) (hc : len ≤ cap) (hx : cap ≤ 9223372036854775807) (wx : World) (h : Hid (RdS w cs a len f wx)) :
    Calls Try.prog 33 #[.slice a len cap, .int .i64 at_] wx fun e w' => e = .returned (.string (ps f at_ 6)) ∧ Hid (RdS w cs a len f w') :=
  (at_mac a len cap f at_ wx h.out.1 hs hc hx).mono fun e w' hh => ⟨hh.1, RdS.next h.out hh.2⟩
/-- 'b[a:]' as the walk cuts it, as a string. -/
theorem tail_cut {b off len cap : Nat} {f : Nat → Int} (hf : ∀ k, 0 ≤ f k ∧ f k ≤ 255) (a : Nat) (ha : a ≤ len) (hc : len ≤ cap) :
    ∃ (ad : Addr) (hl hcp : Nat), (∀ wx : World, Bytes wx (some ⟨b, off, none⟩) len f → (convert 22 9 (.slice (some ad) hl hcp)).run Try.prog wx = .ok (.string (ps f a (len - a))) wx) ∧ ((cap = a ∧ ad = ⟨b, off, none⟩ ∧ hl = 0 ∧ hcp = 0) ∨ (cap ≠ a ∧ ad = ⟨b, off + a, none⟩ ∧ hl = len - a ∧ hcp = cap - a)) := by
  by_cases hz : cap = a
  · refine ⟨⟨b, off, none⟩, 0, 0, fun wx hb => ?_, .inl ⟨hz, rfl, rfl, rfl⟩⟩
    rw [show len - a = 0 by omega]
    exact conv_none f hf a wx _ 0
  · exact ⟨⟨b, off + a, none⟩, len - a, cap - a, fun wx hb => conv_ps hb a (len - a) (cap - a) (by omega), .inr ⟨hz, rfl, rfl, rfl⟩⟩
end Go.Proofs.Ytcgdpijmfgkalaa
