/- A row of bytes of the call's own that is appended to, told as a list of numbers; as a string; a string's bytes in new memory. Nothing of the program is imported. -/
import Derived.Test.YtmeejholckelgaaGreatFill
import Derived.Lib.ConvBytes
namespace Go.Proofs.YtmeejholckelgaaGreat
open Go.RowKit Go.PlainAid
set_option linter.unusedVariables false

/-- The slice value v owns the bytes L, in a block from B on. -/
def OwnL (e : TypeId) (w : World) (B : Nat) (v : Value) (L : List Int) : Prop := w.ownsRow B e 1 v L.length (L.map (Value.int .u8))

theorem OwnL.snoc {e : TypeId} {w : World} {B : Nat} {v : Value} {L : List Int} {x : Int} (h : w.ownsRow B e 1 v (L.length + 1) (L.map (Value.int .u8) ++ [.int .u8 x])) : OwnL e w B v (L ++ [x]) := by
  unfold OwnL; simpa using h
theorem OwnL.more {e : TypeId} {w : World} {B : Nat} {v : Value} {L M : List Int} (h : w.ownsRow B e 1 v (L.length + M.length) (L.map (Value.int .u8) ++ M.map (.int .u8))) : OwnL e w B v (L ++ M) := by
  unfold OwnL; simpa using h

theorem OwnL.slice {e : TypeId} {w : World} {B : Nat} {v : Value} {L : List Int} (h : OwnL e w B v L) (hL : ∀ x ∈ L, 0 ≤ x ∧ x ≤ 255) :
    ∃ a cap, v = .slice a L.length cap ∧ Bytes w a L.length (fun j => L.getD j 0) ∧ ∀ b off, a = some ⟨b, off, none⟩ → B ≤ b := by
  have hf : ∀ k, 0 ≤ L.getD k 0 ∧ L.getD k 0 ≤ 255 := by
    intro k
    by_cases hk : k < L.length
    · rw [List.getD_eq_getElem?_getD, List.getElem?_eq_getElem hk]; exact hL _ (List.getElem_mem hk)
    · rw [List.getD_eq_getElem?_getD, List.getElem?_eq_none (by omega)]; simp
  rcases h.2 with ⟨h1, h2⟩ | ⟨g, cap, cur, h1, hB, hg, hle, hm, hs, ht⟩
  · have e0 : L = [] := by simpa using h2
    subst e0
    exact ⟨none, 0, by simpa using h1, ⟨hf, fun h0 => absurd h0 (by simp)⟩, fun b off h => by cases h⟩
  · refine ⟨some ⟨g, 0, none⟩, cap, by simpa using h1, ⟨hf, fun h0 => ⟨g, 0, rfl, fun i hi => ?_⟩⟩, fun b off h => by cases h; exact hB⟩
    have hc := World.ownsRow.cells h (g := g) (by rw [h1]; rfl) i (.int .u8 (L.getD i 0)) (by simp [hi])
    have ea : (⟨g, 0, none⟩ : Addr).add i = ⟨g, 0 + i, none⟩ := by unfold Addr.add; split <;> simp_all
    rw [ea] at hc
    exact hc

theorem strOf_list (L : List Int) : strOf (fun j => L.getD j 0) L.length = strOfNums L := by
  unfold strOf
  congr 1
  apply List.ext_getElem?
  intro i
  by_cases hi : i < L.length
  · simp [hi]
  · simp [hi]

/-- 'string(out)'. -/
theorem conv_own {P : Program} (w : World) (src dst e : TypeId) (hs : P.underlying src = some (.slice e)) (he : P.underlying e = some (.int .u8)) (hd : P.underlying dst = some .string)
    (a : Option Addr) (cap : Nat) (L : List Int) (h : Bytes w a L.length (fun j => L.getD j 0)) :
    (convert src dst (.slice a L.length cap)).run P w = .ok (.string (strOfNums L)) w := by
  rw [conv_row w src dst e hs he hd a L.length cap _ h, strOf_list]

/-- '[]byte(s)': the bytes in new memory. -/
theorem conv_bytes {P : Program} (w : World) (src dst e : TypeId) (s : ByteArray) (hs : P.underlying src = some .string) (hd : P.underlying dst = some (.slice e)) (he : P.underlying e = some (.int .u8)) :
    ∃ cap w', (convert src dst (.string s)).run P w = .ok (.slice (some ⟨w.heap.size, 0, none⟩) s.size cap) w' ∧ Below w.heap.size w w' ∧ w'.heap.size = w.heap.size + 1 ∧
      (∀ i, i < s.size → w'.frozen? ⟨w.heap.size, i, none⟩ = false) ∧ ∀ i, i < s.size → w'.cell? ⟨w.heap.size, i, none⟩ = some (.int .u8 (bt s i)) := by
  refine ⟨_, _, Go.Lib.run_convert_string_bytes w src dst e s hs hd he, ⟨rfl, rfl, rfl, ?_, ?_⟩, Go.Lib.bytesWorld_size w e s, ?_, ?_⟩
  · rw [Go.Lib.bytesWorld_size]; omega
  · intro k hk; exact Go.Lib.bytesWorld_at_old w e s k hk
  · intro i hi
    have hb := Go.Lib.bytesWorld_at_new w e s
    have hz : s.size ≤ (Go.Lib.bytesCells w e s).size := by simp [Go.Lib.bytesCells]
    simp [World.frozen?, hb]
    omega
  · intro i hi
    rw [Go.Lib.bytesWorld_cell w e s i hi]
    have : (s.data.toList.getD i 0) = s[i] := by
      have hi' : i < s.data.size := hi
      rw [List.getD_eq_getElem?_getD, List.getElem?_eq_getElem (by simpa using hi')]; rfl
    rw [this, get_bt s i hi]
end Go.Proofs.YtmeejholckelgaaGreat
