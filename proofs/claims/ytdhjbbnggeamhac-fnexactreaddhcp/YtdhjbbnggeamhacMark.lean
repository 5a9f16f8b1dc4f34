/- The contracts of laws.markByteS (it writes 1, 2 .. into a row of the call's own) and laws.heldByteS (it finds them there). -/
import Derived.Test.YtdhjbbnggeamhacProg
import Derived.Test.YtdhjbbnggeamhacOwn
namespace Go.Proofs.Ytdhjbbnggeamhac
open Go.RowKit Go.PlainAid
set_option linter.unusedVariables false
set_option maxRecDepth 20000

/-- A row of n bytes in a block that may be written; its numbers are 'f 0', 'f 1' .. -/
def Writ (w : World) (a : Option Addr) (n : Nat) (f : Nat → Int) : Prop :=
  (∀ k, 0 ≤ f k ∧ f k ≤ 255) ∧ (0 < n → ∃ b, a = some ⟨b, 0, none⟩ ∧ b < w.heap.size ∧ (∀ i, i < n → w.frozen? ⟨b, i, none⟩ = false) ∧ ∀ i, i < n → w.cell? ⟨b, i, none⟩ = some (.int .u8 (f i)))

theorem Writ.bytes {w : World} {a : Option Addr} {n : Nat} {f : Nat → Int} (h : Writ w a n f) : Bytes w a n f :=
  ⟨h.1, fun h0 => by obtain ⟨b, rfl, _, _, hc⟩ := h.2 h0; exact ⟨b, 0, rfl, fun i hi => by rw [Nat.zero_add]; exact hc i hi⟩⟩

theorem Writ.below {B : Nat} {w w' : World} {a : Option Addr} {n : Nat} {f : Nat → Int} (h : Writ w a n f) (hb : Below B w w') (hB : w.heap.size ≤ B) : Writ w' a n f := by
  refine ⟨h.1, fun h0 => ?_⟩
  obtain ⟨b, rfl, hl, hf, hc⟩ := h.2 h0
  exact ⟨b, rfl, Nat.lt_of_lt_of_le hl hb.size, fun i hi => by rw [hb.frozen (p := ⟨b, i, none⟩) (by show b < B; omega)]; exact hf i hi,
    fun i hi => by rw [hb.cell (p := ⟨b, i, none⟩) (by show b < B; omega)]; exact hc i hi⟩

theorem Fill.writ {w wr : World} {n : Nat} {f : Nat → Int} (h : Fill w wr n n f) (hf : ∀ k, 0 ≤ f k ∧ f k ≤ 255) : Writ wr (some ⟨w.heap.size, 0, none⟩) n f :=
  ⟨hf, fun _ => ⟨w.heap.size, rfl, h.2.1, fun i _ => h.2.2.1 i, h.2.2.2.2⟩⟩

/-- What is marked. -/
def mk (j : Nat) : Int := (1 + (j : Int)) % 256
theorem mk_bd (j : Nat) : 0 ≤ mk j ∧ mk j ≤ 255 := by unfold mk; omega

/-- The rounds of the marking: the first k are marked, the block's other cells stand, nothing else has turned. -/
def Marks (w wr : World) (b n k : Nat) : Prop :=
  (∀ q, q ≠ b → wr.heap[q]? = w.heap[q]?) ∧ wr.heap.size = w.heap.size ∧ wr.os = w.os ∧ wr.tape = w.tape ∧ wr.output = w.output ∧
  (∀ i, i < n → wr.frozen? ⟨b, i, none⟩ = false) ∧ (∀ i, i < n → ∃ v, wr.cell? ⟨b, i, none⟩ = some v) ∧ ∀ i, i < k → wr.cell? ⟨b, i, none⟩ = some (.int .u8 (mk i))

theorem marks_step {w wr : World} {b n k : Nat} (h : Marks w wr b n k) (hk : k < n) : Marks w (wr.setCell ⟨b, k, none⟩ (.int .u8 ((1 + (k : Int)) % 256))) b n (k + 1) := by
  obtain ⟨h1, h2, h3, h4, h5, hf, hs, hc⟩ := h
  refine ⟨fun q hq => by rw [Below.heap_setCell _ _ _ _ (by exact hq)]; exact h1 q hq, by simpa using h2, h3, h4, h5, fun i hi => by simpa using hf i hi, fun i hi => cell?_setCell_some (hs i hi).choose_spec, fun i hi => ?_⟩
  by_cases e : i = k
  · subst e
    exact World.cell?_setCell_same _ _ _ (hs i hk).choose_spec
  · rw [World.cell?_setCell_other _ _ _ _ (fun hh => e (Addr.mk.inj hh).2.1.symm)]
    exact hc i (by omega)

/-- What the marking leaves. -/
theorem Marks.writ {w wr : World} {b n : Nat} (h : Marks w wr b n n) (hb : b < w.heap.size) : Writ wr (some ⟨b, 0, none⟩) n mk :=
  ⟨mk_bd, fun _ => ⟨b, rfl, by rw [h.2.1]; exact hb, h.2.2.2.2.2.1, h.2.2.2.2.2.2.2⟩⟩
theorem Marks.below {w wr : World} {b n k : Nat} (h : Marks w wr b n k) : Below b w wr :=
  ⟨h.2.2.1, h.2.2.2.1, h.2.2.2.2.1, by rw [h.2.1]; exact Nat.le_refl _, fun q hq => h.1 q (by omega)⟩

end Go.Proofs.Ytdhjbbnggeamhac
