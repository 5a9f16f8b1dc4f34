/- The contracts of laws.markByteS (it writes 1, 2 .. into a row of the call's own) and laws.heldByteS (it finds them there). -/
import Derived.Test.YtcgdpijmfgkalaaProg
import Derived.Test.YtcgdpijmfgkalaaOwn
namespace Go.Proofs.Ytcgdpijmfgkalaa
open Go.RowKit Go.PlainAid
set_option linter.unusedVariables false
set_option maxRecDepth 20000

/-- A row of n bytes in a block that may be written; its numbers are 'f 0', 'f 1' .. -/
def Writ (w : World) (a : Option Addr) (n : Nat) (f : Nat → Int) : Prop :=
  (∀ k, 0 ≤ f k ∧ f k ≤ 255) ∧ (0 < n → ∃ b, a = some ⟨b, 0, none⟩ ∧ b < w.heap.size ∧ (∀ i, i < n → w.frozen? ⟨b, i, none⟩ = false) ∧ ∀ i, i < n → w.cell? ⟨b, i, none⟩ = some (.int .u8 (f i)))

theorem Writ.bytes {w : World} {a : Option Addr} {n : Nat} {f : Nat → Int} (h : Writ w a n f) : Bytes w a n f :=
  ⟨h.1, fun h0 => by obtain ⟨b, rfl, _, _, hc⟩ := h.2 h0; exact ⟨b, 0, rfl, fun i hi => by rw [Nat.zero_add]; exact hc i hi⟩⟩

theorem Writ.below {B : Nat} {w w' : World} {a : Option Addr} {n : Nat} {f : Nat → Int} (h : Writ w a n f) (hb : Below B w w') (hB : w.heap.size ≤ B) : Writ w' a n f := by
  refine ⟨h.1, fun h0 => ?_⟩
  obtain ⟨b, rfl, hl, hf, hc⟩ := h.2 h0
  exact ⟨b, rfl, Nat.lt_of_lt_of_le hl hb.size, fun i hi => by rw [hb.frozen (p := ⟨b, i, none⟩) (by show b < B; omega)]; exact hf i hi,
    fun i hi => by rw [hb.cell (p := ⟨b, i, none⟩) (by show b < B; omega)]; exact hc i hi⟩

theorem Fill.writ {w wr : World} {n : Nat} {f : Nat → Int} (h : Fill w wr n n f) (hf : ∀ k, 0 ≤ f k ∧ f k ≤ 255) : Writ wr (some ⟨w.heap.size, 0, none⟩) n f :=
  ⟨hf, fun _ => ⟨w.heap.size, rfl, h.2.1, fun i _ => h.2.2.1 i, h.2.2.2.2⟩⟩

/-- What is marked. -/
def mk (j : Nat) : Int := (1 + (j : Int)) % 256
theorem mk_bd (j : Nat) : 0 ≤ mk j ∧ mk j ≤ 255 := by unfold mk; omega

/-- The rounds of the marking: the first k are marked, the block's other cells stand, nothing else has turned. -/
def Marks (w wr : World) (b n k : Nat) : Prop :=
  (∀ q, q ≠ b → wr.heap[q]? = w.heap[q]?) ∧ wr.heap.size = w.heap.size ∧ wr.os = w.os ∧ wr.tape = w.tape ∧ wr.output = w.output ∧
  (∀ i, i < n → wr.frozen? ⟨b, i, none⟩ = false) ∧ (∀ i, i < n → ∃ v, wr.cell? ⟨b, i, none⟩ = some v) ∧ ∀ i, i < k → wr.cell? ⟨b, i, none⟩ = some (.int .u8 (mk i))

theorem marks_step {w wr : World} {b n k : Nat} (h : Marks w wr b n k) (hk : k < n) : Marks w (wr.setCell ⟨b, k, none⟩ (.int .u8 ((1 + (k : Int)) % 256))) b n (k + 1) := by
  obtain ⟨h1, h2, h3, h4, h5, hf, hs, hc⟩ := h
  refine ⟨fun q hq => by rw [Below.heap_setCell _ _ _ _ (by exact hq)]; exact h1 q hq, by simpa using h2, h3, h4, h5, fun i hi => by simpa using hf i hi, fun i hi => cell?_setCell_some (hs i hi).choose_spec, fun i hi => ?_⟩
  by_cases e : i = k
  · subst e
    exact World.cell?_setCell_same _ _ _ (hs i hk).choose_spec
  · rw [World.cell?_setCell_other _ _ _ _ (fun hh => e (Addr.mk.inj hh).2.1.symm)]
    exact hc i (by omega)

/-- What the marking leaves. -/
theorem Marks.writ {w wr : World} {b n : Nat} (h : Marks w wr b n n) (hb : b < w.heap.size) : Writ wr (some ⟨b, 0, none⟩) n mk :=
  ⟨mk_bd, fun _ => ⟨b, rfl, by rw [h.2.1]; exact hb, h.2.2.2.2.2.1, h.2.2.2.2.2.2.2⟩⟩
theorem Marks.below {w wr : World} {b n k : Nat} (h : Marks w wr b n k) : Below b w wr :=
  ⟨h.2.2.1, h.2.2.2.1, h.2.2.2.2.1, by rw [h.2.1]; exact Nat.le_refl _, fun q hq => h.1 q (by omega)⟩

set_option maxHeartbeats 400000 in
theorem markByteS_any (b n cap : Nat) (f : Nat → Int) (w : World) (h : Writ w (some ⟨b, 0, none⟩) n f) (hn : 0 < n) (hlen : n ≤ 1048576) :
    Calls Try.prog 21 #[.slice (some ⟨b, 0, none⟩) n cap, .int .i64 1] w fun e w' => e = .returned (.int .i64 (1 + (n : Int))) ∧ Marks w w' b n n := by
  obtain ⟨b', hb', hl, hf, hc⟩ := h.2 hn
  obtain rfl : b = b' := by cases hb'; rfl
  have hst : Hid (Marks w w b n 0) := ⟨fun _ _ => rfl, rfl, rfl, rfl, rfl, hf, fun i hi => ⟨_, hc i hi⟩, fun i hi => absurd hi (by omega)⟩
  clear hb' hf hc
  go_enter Try.func21, Try.ntmps21
  go_wp2
  go_loopw [1, 5] (fun k i wr => ∃ j : Nat, j ≤ n ∧ i = .int .i64 j ∧ k = .int .i64 (1 + (j : Int)) ∧ Marks w wr b n j) (fun _ i _ => n - (intOf i).toNat)
  case atStart => exact ⟨0, Nat.zero_le _, rfl, rfl, hst.out⟩
  case round =>
    obtain ⟨j, hj, rfl, rfl, hm⟩ := hrel
    have hM : Hid (Marks w wr b n j) := hm
    by_cases hlt : j < n
    · have hfz := hm.2.2.2.2.2.1 j hlt
      obtain ⟨v, hv⟩ := hm.2.2.2.2.2.2.1 j hlt
      clear hm
      go_wp2
      go_roundw
      case rel => exact ⟨j + 1, by omega, by go_num, by go_num, marks_step hM.out hlt⟩
      case measure => simp [intOf]; omega
    · obtain rfl : j = n := by omega
      clear hm
      go_wp2
      go_ret
      exact ⟨rfl, hM.out⟩

set_option maxHeartbeats 400000 in
theorem heldByteS_any (a : Option Addr) (n cap : Nat) (w : World) (h : Bytes w a n mk) (hlen : n ≤ 1048576) :
    Calls Try.prog 22 #[.slice a n cap, .int .i64 1] w fun e w' => e = .returned (.int .i64 (1 + (n : Int))) ∧ w' = w := by
  go_enter Try.func22, Try.ntmps22
  go_wp2
  go_loop [1, 5] (fun k i => ∃ j : Nat, j ≤ n ∧ i = .int .i64 j ∧ k = .int .i64 (1 + (j : Int))) (fun _ i => n - (intOf i).toNat)
  case atStart => exact ⟨0, Nat.zero_le _, rfl, rfl⟩
  case round =>
    obtain ⟨j, hj, rfl, rfl⟩ := hrel
    by_cases hlt : j < n
    · obtain ⟨b, off, rfl, hc⟩ := h.2 (by omega)
      have hck : w.cell? ⟨b, off + j, none⟩ = some (.int .u8 ((1 + (j : Int)) % 256)) := hc j hlt
      have hne : ((1 + (j : Int)) % 256 != (1 + (j : Int)) % 256) = false := by simp
      clear hc
      go_wp2
      go_round
      case rel => exact ⟨j + 1, by omega, by go_num, by go_num⟩
      case measure => simp [intOf]; omega
    · obtain rfl : j = n := by omega
      go_wp2
      go_ret
      exact ⟨rfl, rfl⟩

/-- Of an empty row. -/
theorem markByteS_nil (a : Option Addr) (cap : Nat) (w : World) :
    Calls Try.prog 21 #[.slice a 0 cap, .int .i64 1] w fun e w' => e = .returned (.int .i64 1) ∧ w' = w := by
  go_enter Try.func21, Try.ntmps21
  go_wp2
  go_loop [1, 5] (fun k i => i = .int .i64 0 ∧ k = .int .i64 1) (fun _ i => 0)
  case atStart => exact ⟨rfl, rfl⟩
  case round =>
    obtain ⟨rfl, rfl⟩ := hrel
    go_wp2
    go_ret
    exact ⟨rfl, rfl⟩
end Go.Proofs.Ytcgdpijmfgkalaa
