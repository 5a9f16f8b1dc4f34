/- What the laws of makers of bytes ask of both sides, in one form. -/
import Derived.Test.YtcgdpijmfgkalabSpecFrame
import Derived.Test.YtcgdpijmfgkalabMark
namespace Go.Proofs.Ytcgdpijmfgkalab
open Go.RowKit Go.PlainAid
set_option linter.unusedVariables false
set_option maxRecDepth 20000

def SpecRowL (K : Nat) (args : Array Value) (w : World) (m : Nat) (f : Nat → Int) (c : Int) : Prop :=
  Calls Try.prog K args w fun e w' => ∃ a cap, e = .returned (.tuple #[.slice a m cap, .int .i64 c]) ∧ Bytes w' a m f ∧ (∀ b off, a = some ⟨b, off, none⟩ → b < w'.heap.size) ∧ Below w.heap.size w w'
def ImplRowL (K : Nat) (args : Array Value) (w : World) (m : Nat) (f : Nat → Int) (c : Int) : Prop :=
  Calls Try.prog K args w fun e w' => ∃ a cap, e = .returned (.tuple #[.slice a m cap, .int .i64 c]) ∧ Writ w' a m f ∧ (∀ b, 0 < m → a = some ⟨b, 0, none⟩ → w.heap.size ≤ b) ∧ Below w.heap.size w w'
/-- The program's: the row is the call's own. -/
def ImplL (K : Nat) (args : Array Value) (w : World) (L : List Int) (c : Int) : Prop := ImplRowL K args w L.length (fun j => L.getD j 0) c

theorem implL_nil {K : Nat} {args : Array Value} {w : World} {c : Int} (h : Calls Try.prog K args w fun e w' => e = .returned (.tuple #[.slice none 0 0, .int .i64 c]) ∧ Below w.heap.size w w') : ImplL K args w [] c :=
  h.mono fun e w' hh => ⟨none, 0, hh.1, ⟨fun _ => ⟨Int.le_refl _, by simp⟩, fun h0 => absurd h0 (by simp)⟩, fun b h0 _ => absurd h0 (by simp), hh.2⟩
theorem implL_own {K : Nat} {args : Array Value} {w : World} {L : List Int} {c : Int} (hL : ∀ x ∈ L, 0 ≤ x ∧ x ≤ 255) (h0 : 0 < L.length)
    (h : Calls Try.prog K args w fun e w' => ∃ v B, e = .returned (.tuple #[v, .int .i64 c]) ∧ OwnL 5 w' B v L ∧ w.heap.size ≤ B ∧ Below w.heap.size w w') : ImplL K args w L c := by
  refine h.mono ?_
  rintro e w' ⟨v, B, rfl, ho, hB, hb⟩
  obtain ⟨g, cap, rfl, hc, hm, hBg, hg, hf, hcell⟩ := Laid.writ (w' := w') ho hL h0
  exact ⟨_, cap, rfl, ⟨getD_bd hL, fun _ => ⟨g, rfl, hg, fun i _ => hf i, hcell⟩⟩, fun b _ hh => by cases hh; omega, hb⟩

/-- Marking a row that may be written, an empty one too. -/
theorem mark_any (a : Option Addr) (n cap : Nat) (f : Nat → Int) (w : World) (B : Nat) (h : Writ w a n f) (hlen : n ≤ 1048576) (hB : ∀ b, 0 < n → a = some ⟨b, 0, none⟩ → B ≤ b) :
    Calls Try.prog 14 #[.slice a n cap, .int .i64 1] w fun e w' => e = .returned (.int .i64 (1 + (n : Int))) ∧ Writ w' a n mk ∧ Below B w w' ∧ w'.heap.size = w.heap.size := by
  by_cases h0 : 0 < n
  · obtain ⟨b, rfl, hl, hf, hc⟩ := h.2 h0
    refine (markByteS_any b n cap f w h h0 hlen).mono fun e w' hh => ⟨hh.1, hh.2.writ hl, hh.2.below.mono (hB b h0 rfl), hh.2.2.1⟩
  · obtain rfl : n = 0 := by omega
    refine (markByteS_nil a cap w).mono fun e w' hh => ⟨by rw [hh.1]; rfl, ⟨mk_bd, fun h => absurd h h0⟩, hh.2 ▸ Below.refl _ _, by rw [hh.2]⟩
end Go.Proofs.Ytcgdpijmfgkalab
