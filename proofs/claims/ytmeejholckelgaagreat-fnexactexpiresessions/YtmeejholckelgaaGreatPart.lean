/- The program's part, numberAt, addNumber, setNumber. -/
import Derived.Test.YtmeejholckelgaaGreatProg
import Derived.Test.YtmeejholckelgaaGreatLists
import Derived.Test.YtmeejholckelgaaGreatNumOf
import Derived.Test.YtmeejholckelgaaGreatNumB
import Derived.Laws.CopyOwn
namespace Go.Proofs.YtmeejholckelgaaGreat
open Go.RowKit Go.PlainAid
set_option linter.unusedVariables false
set_option maxRecDepth 20000

theorem Bytes.part {w : World} {b off len : Nat} {f : Nat → Int} (h : Bytes w (some ⟨b, off, none⟩) len f) (at_ size : Nat) (hs : at_ + size ≤ len) (a' : Option Addr) (ha : 0 < size → a' = some ⟨b, off + at_, none⟩) : Bytes w a' size (fun j => f (at_ + j)) := by
  refine ⟨fun k => h.1 _, fun h0 => ?_⟩
  obtain ⟨b', off', e, hc⟩ := h.2 (by omega)
  cases e
  exact ⟨b, off + at_, ha h0, fun i hi => by rw [Nat.add_assoc]; exact hc (at_ + i) (by omega)⟩

/-- A number's bytes. -/
def nbl (n : Int) (m : Nat) : List Int := (List.range m).map (nb n m)
theorem nbl_len (n : Int) (m : Nat) : (nbl n m).length = m := by simp [nbl]
theorem nbl_bd (n : Int) (m : Nat) : ∀ x ∈ nbl n m, 0 ≤ x ∧ x ≤ 255 := by
  intro x hx
  obtain ⟨j, -, rfl⟩ := List.mem_map.1 hx
  exact nb_bd n m j
theorem nums_nb (n : Int) (m : Nat) : nums (strOf (nb n m) m) = nbl n m := nums_strOf _ _ (nb_bd n m)

theorem below_grownBy {w w' : World} (h : Below w.heap.size w w') (row : Option Nat) : w.grownBy w' row := ⟨h.os, h.tape, h.output, h.size, fun k hk _ => h.block k hk⟩
theorem gr_trans {w w1 w2 : World} {r : Option Nat} (h : w.grownBy w1 r) (k : w1.grownBy w2 r) : w.grownBy w2 r :=
  ⟨k.os.trans h.os, k.tape.trans h.tape, k.output.trans h.output, Nat.le_trans h.size k.size, fun i hi hr => (k.block i (Nat.lt_of_lt_of_le hi h.size) hr).trans (h.block i hi hr)⟩
/-- Of what was there when w was, and is not the row, nothing has turned; the row may be a newer one. -/
theorem gr_newer {w w1 w2 : World} {r r' : Option Nat} (h : w.grownBy w1 r) (k : w1.grownBy w2 r') (hn : ∀ b, r' = some b → r = some b ∨ w.heap.size ≤ b) : w.grownBy w2 r :=
  ⟨k.os.trans h.os, k.tape.trans h.tape, k.output.trans h.output, Nat.le_trans h.size k.size, fun i hi hr => (k.block i (Nat.lt_of_lt_of_le hi h.size) (fun e => by
    rcases hn i e.symm with h' | h'
    · exact hr h'.symm
    · omega)).trans (h.block i hi hr)⟩

theorem news_of_fill {w w1 : World} {m : Nat} {f : Nat → Int} (h : Fill w w1 m m f) : ∀ j u, ((List.range m).map fun i => Value.int .u8 (f i))[j]? = some u → w1.cell? ((⟨w.heap.size, 0, none⟩ : Addr).add j) = some u := by
  intro j u hu
  have hj : j < m := by
    by_cases hj : j < m
    · exact hj
    · rw [List.getElem?_eq_none (by simp; omega)] at hu; cases hu
  have e : (⟨w.heap.size, 0, none⟩ : Addr).add j = ⟨w.heap.size, j, none⟩ := by unfold Addr.add; split <;> simp_all
  rw [e, h.2.2.2.2 j hj]
  simpa [hj] using hu

/-- A part of a list laid anew. -/
def over (L : List Int) (at_ : Nat) (M : List Int) : List Int := L.take at_ ++ (M ++ L.drop (at_ + M.length))
theorem over_len (L : List Int) (at_ : Nat) (M : List Int) (h : at_ + M.length ≤ L.length) : (over L at_ M).length = L.length := by simp [over]; omega

theorem take_over {α : Type} (M R N : List α) (at_ m l : Nat) (hM : M.length = l) (hN : N.length = m) (h : at_ + m ≤ l) :
    ((M ++ R).take at_ ++ N ++ (M ++ R).drop (at_ + m)).take l = M.take at_ ++ (N ++ M.drop (at_ + m)) := by
  have h1 : (M ++ R).take at_ = M.take at_ := List.take_append_of_le_length (by omega)
  have h2 : (M ++ R).drop (at_ + m) = M.drop (at_ + m) ++ R := List.drop_append_of_le_length (by omega)
  rw [h1, h2, ← List.append_assoc, List.take_append_of_le_length (by simp; omega), List.take_of_length_le (by simp; omega), List.append_assoc]

theorem OwnL.form {e : TypeId} {w : World} {B : Nat} {v : Value} {L : List Int} (h : OwnL e w B v L) (h0 : 0 < L.length) :
    ∃ g cap cur, v = .slice (some ⟨g, 0, none⟩) L.length cap ∧ B ≤ g ∧ w.heap[g]? = some (.cells cur e (0, 0)) ∧ L.length ≤ cap ∧ cap ≤ maxLen ∧ cur.size = cap ∧ cur.toList.take L.length = L.map (Value.int .u8) := by
  rcases h.2 with ⟨h1, h2⟩ | ⟨g, cap, cur, h1, h2, h3, h4, h5, h6, h7⟩
  · omega
  · exact ⟨g, cap, cur, h1, h2, h3, h4, h5, by simpa using h6, by simpa using h7⟩

end Go.Proofs.YtmeejholckelgaaGreat
