/- The model's FrameBytes. -/
import Derived.Test.YtcgdpijmfgkalabFrameB
import Derived.Test.YtcgdpijmfgkalabNumBytes
import Derived.Deep.RegionHeld3
namespace Go.Proofs.Ytcgdpijmfgkalab
open Go.RowKit Go.PlainAid
set_option linter.unusedVariables false
set_option maxRecDepth 20000

theorem l01Mac_any (s : ByteArray) (w : World) (hx : s.size ≤ 9223372036854775807) :
    Calls Try.prog 70 #[.string s] w fun e w' => e = .returned (.bool (decide (s.size = 6))) ∧ w' = w := by
  have hb : ((s.size : Int) == 6) = decide (s.size = 6) := by
    by_cases h : s.size = 6
    · rw [h]; rfl
    · rw [decide_eq_false h, beq_eq_false_iff_ne]; omega
  go_enter Try.func70, Try.ntmps70
  go_wp2
  go_ret
  exact ⟨rfl, rfl⟩

/-- What a maker of bytes answers: the bytes in new memory, and the code. -/
def SpecL (K : Nat) (args : Array Value) (w : World) (L : List Int) (c : Int) : Prop :=
  Calls Try.prog K args w fun e w' => ∃ a cap, e = .returned (.tuple #[.slice a L.length cap, .int .i64 c]) ∧ Bytes w' a L.length (fun j => L.getD j 0) ∧ (∀ b off, a = some ⟨b, off, none⟩ → b < w'.heap.size) ∧ Below w.heap.size w w'

/-- '[]byte(t)' as the answer. -/
theorem conv_spec (t : ByteArray) (w : World) : ∃ cap w', (convert 9 25 (.string t)).run Try.prog w = .ok (.slice (some ⟨w.heap.size, 0, none⟩) (nums t).length cap) w' ∧ Below w.heap.size w w' ∧ w.heap.size < w'.heap.size ∧ Bytes w' (some ⟨w.heap.size, 0, none⟩) (nums t).length (fun j => (nums t).getD j 0) := by
  obtain ⟨cap, w', h1, h2, h3, h4, h5⟩ := conv_bytes (P := Try.prog) w 9 25 5 t Try.underlying9 Try.underlying25 Try.underlying5
  refine ⟨cap, w', by rw [nums_len]; exact h1, h2, by omega, fun k => getD_bd (nums_bd t) k, fun _ => ⟨w.heap.size, 0, rfl, fun i hi => ?_⟩⟩
  rw [Nat.zero_add, h5 i (by rw [nums_len] at hi; exact hi)]
  show _ = some (Value.int .u8 ((nums t).getD i 0))
  rw [nums_getD]

end Go.Proofs.Ytcgdpijmfgkalab
