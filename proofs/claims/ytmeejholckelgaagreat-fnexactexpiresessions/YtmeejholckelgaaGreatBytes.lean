/- A row of bytes in memory, told as a function of the place; what it is as a string; nothing of the program is imported. -/
import Derived.Test.YtmeejholckelgaaGreatPlain
import Derived.Laws.BytesArg
import Derived.Below
namespace Go.Proofs.YtmeejholckelgaaGreat
open Go.RowKit Go.PlainAid Go.Proofs.YtmeejholckelgaaGreat.Pl
set_option linter.unusedVariables false

/-- A slice of bytes: its numbers are 'f 0', 'f 1' .. -/
def Bytes (w : World) (a : Option Addr) (len : Nat) (f : Nat → Int) : Prop :=
  (∀ k, 0 ≤ f k ∧ f k ≤ 255) ∧ (0 < len → ∃ b off, a = some ⟨b, off, none⟩ ∧ ∀ i, i < len → w.cell? ⟨b, off + i, none⟩ = some (.int .u8 (f i)))

/-- The same row as a string. -/
def strOf (f : Nat → Int) (n : Nat) : ByteArray := strOfNums ((List.range n).map f)

theorem strOf_size (f : Nat → Int) (n : Nat) : (strOf f n).size = n := by simp [strOf, strOfNums_size]
theorem strOf_bt (f : Nat → Int) (n : Nat) (h : ∀ k, 0 ≤ f k ∧ f k ≤ 255) (k : Nat) (hk : k < n) : bt (strOf f n) k = f k := by
  have hz := strOf_size f n
  unfold bt
  rw [dif_pos (by omega)]
  have e : (strOf f n)[k]'(by omega) = UInt8.ofNat (f k).toNat := by
    simp [strOf, strOfNums, ByteArray.getElem_eq_getElem_data]
  rw [e]
  have := h k
  simp
  omega

theorem conv_row {P : Program} (w : World) (src dst e : TypeId) (hs : P.underlying src = some (.slice e)) (he : P.underlying e = some (.int .u8)) (hd : P.underlying dst = some .string)
    (a : Option Addr) (len cap : Nat) (f : Nat → Int) (h : Bytes w a len f) :
    (convert src dst (.slice a len cap)).run P w = .ok (.string (strOf f len)) w := by
  rcases Nat.eq_zero_or_pos len with h0 | h0
  · subst h0
    have e0 : strOf f 0 = ByteArray.empty := by simp [strOf, strOfNums, ByteArray.empty, ByteArray.emptyWithCapacity]; rfl
    rw [e0]
    cases a with
    | none => exact run_convert_bytes_nil w src e hs he 0 cap dst hd
    | some x =>
      rw [run_convert_bytes_string w src dst e _ 0 cap hs he hd]
      exact run_bytesToString w x 0 cap [] (by simpa using run_loadCells_list (P := P) w x [] (fun j v hj => by simp at hj))
  · obtain ⟨b, off, rfl, hc⟩ := h.2 h0
    exact run_convert_bytes_arg w src e hs he b off len cap ((List.range len).map f) (by simp) (fun i hi => by rw [hc i hi]; simp [hi]) dst hd

theorem Bytes.below {B : Nat} {w w' : World} {a : Option Addr} {len : Nat} {f : Nat → Int} (h : Bytes w a len f) (hb : Below B w w') (hlt : ∀ b off, 0 < len → a = some ⟨b, off, none⟩ → b < B) : Bytes w' a len f := by
  refine ⟨h.1, fun h0 => ?_⟩
  obtain ⟨b, off, rfl, hc⟩ := h.2 h0
  exact ⟨b, off, rfl, fun i hi => by rw [hb.cell (p := ⟨b, off + i, none⟩) (hlt b off h0 rfl)]; exact hc i hi⟩
end Go.Proofs.YtmeejholckelgaaGreat
