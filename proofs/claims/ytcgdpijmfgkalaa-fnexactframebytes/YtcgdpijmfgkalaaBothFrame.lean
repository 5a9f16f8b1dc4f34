/- FrameBytes, both sides in one form. -/
import Derived.Test.YtcgdpijmfgkalaaWriterAid
namespace Go.Proofs.Ytcgdpijmfgkalaa
open Go.RowKit Go.PlainAid
set_option linter.unusedVariables false

theorem bd_append {L M : List Int} (h : ∀ x ∈ L, 0 ≤ x ∧ x ≤ 255) (k : ∀ x ∈ M, 0 ≤ x ∧ x ≤ 255) : ∀ x ∈ L ++ M, 0 ≤ x ∧ x ≤ 255 := fun x hx => (List.mem_append.1 hx).elim (h x) (k x)
theorem frameL_bd (d s b : ByteArray) (k : Int) : ∀ x ∈ frameL d s k b, 0 ≤ x ∧ x ≤ 255 := bd_append (bd_append (bd_append (nums_bd d) (nums_bd s)) (nbl_bd k 2)) (nums_bd b)
theorem frameL_len (d s b : ByteArray) (k : Int) : (frameL d s k b).length = d.size + s.size + 2 + b.size := by simp [frameL, nums_len, nbl_len]; omega

theorem frameBytes_both (d s : ByteArray) (k : Int) (b : ByteArray) (h : d.size ≤ 1048576 ∧ s.size ≤ 1048576 ∧ b.size ≤ 1048576) :
    ∃ (L : List Int) (c : Int), L.length ≤ 1000000 ∧ (∀ w, SpecL 9 #[.agg #[.string d, .string s, .int .i64 k, .string b]] w L c) ∧ (∀ w, ImplL 8 #[.agg #[.string d, .string s, .int .i64 k, .string b]] w L c) := by
  by_cases hh : d.size = 6 ∧ s.size = 6 ∧ (k = 2048 ∨ k = 2054) ∧ b.size ≤ 400
  · refine ⟨frameL d s k b, 0, by rw [frameL_len]; omega, fun w => ?_, fun w => ?_⟩
    · have := specFrameBytes_any d s b k w h.1 h.2.1 h.2.2
      rwa [if_pos hh] at this
    · exact implL_own (frameL_bd d s b k) (by rw [frameL_len]; omega) (frameBytes_yes d s b k w hh.1 hh.2.1 hh.2.2.1 hh.2.2.2)
  · refine ⟨[], 1, by simp, fun w => ?_, fun w => ?_⟩
    · have := specFrameBytes_any d s b k w h.1 h.2.1 h.2.2
      rwa [if_neg hh] at this
    · exact implL_nil (frameBytes_no d s b k w h.1 h.2.1 h.2.2 hh)
end Go.Proofs.Ytcgdpijmfgkalaa
