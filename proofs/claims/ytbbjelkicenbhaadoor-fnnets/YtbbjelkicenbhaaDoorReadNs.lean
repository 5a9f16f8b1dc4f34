/- ReadNet, the model's; both; the walk of the law. -/
import Derived.Test.YtbbjelkicenbhaaDoorReadNt
import Derived.Deep.RegionHeld3
import Derived.BigRegion
namespace Go.Proofs.YtbbjelkicenbhaaDoor
open Go.RowKit Go.PlainAid Go.Proofs.YtbbjelkicenbhaaDoor.Bt Go.Sort
set_option linter.unusedVariables false
set_option maxRecDepth 20000

theorem str_cells {w : World} {B g c : Nat} {ps : List ByteArray} (h : OwnS w B (.slice (some ⟨g, 0, none⟩) ps.length c) ps) (i : Nat) (hi : i < ps.length) : w.cell? ⟨g, i, none⟩ = some (.string (ps.getD i ⟨#[]⟩)) := by
  have := World.ownsRow.cells h (g := g) rfl i (.string (ps.getD i ⟨#[]⟩)) (by simp [hi])
  have ea : (⟨g, 0, none⟩ : Addr).add i = ⟨g, i, none⟩ := by unfold Addr.add; split <;> simp_all
  rwa [ea] at this
theorem list_inj {A B : ByteArray} (h : A.data.toList = B.data.toList) : A = B := by
  cases A with | mk a => cases B with | mk b =>
  congr 1
  exact Array.toList_inj.1 h

theorem two_strs {ps : List ByteArray} {A R : ByteArray} (h1 : ps.map (·.data.toList) = [A.data.toList, R.data.toList]) : ps = [A, R] := by
  have hl : ps.length = 2 := by have := congrArg List.length h1; simpa using this
  obtain ⟨x, y, rfl⟩ : ∃ x y, ps = [x, y] := by
    match ps, hl with
    | [x, y], _ => exact ⟨x, y, rfl⟩
  simp only [List.map_cons, List.map_nil, List.cons.injEq, and_true] at h1
  rw [list_inj h1.1, list_inj h1.2]

end Go.Proofs.YtbbjelkicenbhaaDoor
