/- What a reader of the model keeps. -/
import Derived.Test.YtcgdpijmfgkalaaCutting
namespace Go.Proofs.Ytcgdpijmfgkalaa
open Go.RowKit Go.PlainAid
set_option linter.unusedVariables false
set_option maxRecDepth 20000

/-- A reader of the model: its answer's box, and the struct that it tests. -/
def RdT (w : World) (cs ds : List Value) (W : World) : Prop := Slots W w.heap.size cs ∧ Boxed W (w.heap.size + 1) ds ∧ Below w.heap.size w W ∧ w.heap.size + 1 < W.heap.size
theorem RdT.next {w : World} {cs ds : List Value} {W W' : World} (h : RdT w cs ds W) (b : Below W.heap.size W W') : RdT w cs ds W' :=
  ⟨h.1.below b (by have := h.2.2.2; omega), h.2.1.below b h.2.2.2, h.2.2.1.trans (b.mono (by have := h.2.2.2; omega)), Nat.lt_of_lt_of_le h.2.2.2 b.size⟩
theorem RdT.a (w : World) (cs ds : List Value) (t u : TypeId) : RdT w cs ds ((w.alloc (.cells cs.toArray t)).alloc (.cells ds.toArray u)).drew := by
  have B1 : Below (w.alloc (.cells cs.toArray t)).heap.size (w.alloc (.cells cs.toArray t)) ((w.alloc (.cells cs.toArray t)).alloc (.cells ds.toArray u)) := (Below.refl _ _).alloc (Nat.le_refl _) _
  have h2 := Boxed.new (w.alloc (.cells cs.toArray t)) ds u
  refine ⟨(Slots.new w cs t).below B1.drew (by simp), ?_, (((Below.refl _ _).alloc (Nat.le_refl _) _).alloc (by simp) _).drew, by show _ < ((w.alloc _).alloc _).heap.size; simp⟩
  have h3 : Boxed ((w.alloc (.cells cs.toArray t)).alloc (.cells ds.toArray u)) (w.heap.size + 1) ds := by simpa using h2
  exact Boxed.drew h3
theorem RdT.b (w : World) (cs ds : List Value) (t u : TypeId) : RdT w cs ds ((w.alloc (.cells cs.toArray t)).drew.alloc (.cells ds.toArray u)) := by
  have B1 : Below (w.alloc (.cells cs.toArray t)).drew.heap.size (w.alloc (.cells cs.toArray t)).drew ((w.alloc (.cells cs.toArray t)).drew.alloc (.cells ds.toArray u)) := (Below.refl _ _).alloc (Nat.le_refl _) _
  have h2 := Boxed.new (w.alloc (.cells cs.toArray t)).drew ds u
  have hz : (w.alloc (.cells cs.toArray t)).drew.heap.size = w.heap.size + 1 := by show (w.alloc _).heap.size = _; simp
  rw [hz] at h2
  refine ⟨Slots.below (w := (w.alloc (.cells cs.toArray t)).drew) (Slots.new w cs t) B1 (by rw [hz]; omega), h2, ((Below.refl _ _).alloc (Nat.le_refl _) _).drew.alloc (by rw [hz]; omega) _, ?_⟩
  have : ((w.alloc (.cells cs.toArray t)).drew.alloc (.cells ds.toArray u)).heap.size = (w.alloc (.cells cs.toArray t)).drew.heap.size + 1 := by simp
  omega
end Go.Proofs.Ytcgdpijmfgkalaa
