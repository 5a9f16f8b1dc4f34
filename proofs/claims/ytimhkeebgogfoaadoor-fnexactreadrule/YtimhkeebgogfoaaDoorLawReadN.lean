/- ReadNet of both sides, and the walk of laws.FnExactReadNet: true at every text. -/
import Derived.Test.YtimhkeebgogfoaaDoorReadNs
namespace Go.Proofs.YtimhkeebgogfoaaDoor
open Go.RowKit Go.PlainAid Go.Proofs.YtimhkeebgogfoaaDoor.Bt Go.Sort
set_option linter.unusedVariables false
set_option maxRecDepth 20000

theorem pq_pos (l : List UInt8) : 1 ≤ (Sl.pq l).length := by
  cases l with
  | nil => simp [Sl.pq]
  | cons c l =>
    rw [Sl.pq]
    split
    · simp
    · split <;> simp
theorem ext_whole (t : ByteArray) : (t.extract 0 t.size).data.toList = t.data.toList := by
  rw [Lib.extract_data, List.drop_zero]
  exact List.take_of_length_le (by simp)
theorem ext_rest (t : ByteArray) (i : Nat) : (t.extract i t.size).data.toList = t.data.toList.drop i := by
  rw [Lib.extract_data]
  exact List.take_of_length_le (by simp)
theorem pq_none (t : ByteArray) (h : ∀ j, j < t.size → bt t j ≠ 47) : Sl.pq t.data.toList = [t.data.toList] := by
  have := Sl.cut_miss t 0 (fun j _ hj => h j hj)
  rwa [List.drop_zero, ext_whole] at this
theorem pq_first (t : ByteArray) (i : Nat) (hi : i < t.size) (h : bt t i = 47) (hn : ∀ j, j < i → bt t j ≠ 47) : Sl.pq t.data.toList = (t.extract 0 i).data.toList :: Sl.pq (t.extract (i + 1) t.size).data.toList := by
  have := Sl.cut_hit t 0 i (Nat.zero_le _) hi h (fun j _ hj => hn j hj)
  rwa [List.drop_zero, ← ext_rest] at this

theorem implReadNet_long (t : ByteArray) (w : World) (ht : 65536 < t.size) :
    Calls Tryd.prog 44 #[.string t] w fun e w' => e = .returned (.tuple #[.agg #[.int .i64 0, .int .i64 0], .int .i64 2]) ∧ Below w.heap.size w w' := by
  go_enter Tryd.func44, Tryd.ntmps44
  go_wp2
  (try simp only [Exit.inBlock, Exit.then])
  refine bodyPost_ret (v := .tuple #[.agg #[.int .i64 0, .int .i64 0], .int .i64 2]) (by simp [results, Tryd.results44, go_sem]; try rfl) rfl ?_
  exact ⟨rfl, (Below.refl _ _).alloc (Nat.le_refl _) _⟩

theorem eqNet_same (x0 x1 : Int) (w : World) :
    Calls Tryd.prog 47 #[.agg #[.int .i64 x0, .int .i64 x1], .agg #[.int .i64 x0, .int .i64 x1]] w fun e w' => e = .returned (.bool true) ∧ Below w.heap.size w w' := by
  have h0 : (x0 != x0) = false := by simp
  have h1 : (x1 != x1) = false := by simp
  go_enter Tryd.func47, Tryd.ntmps47
  go_wp2
  go_ret
  exact ⟨rfl, (((Grw.refl _).alloc _).alloc _).below⟩

end Go.Proofs.YtimhkeebgogfoaaDoor
