/- Three texts joined. -/
import Derived.Test.YtappekglflgodaaDoorStrS
namespace Go.Proofs.YtappekglflgodaaDoor
open Go.RowKit Go.PlainAid Go.Sort
set_option linter.unusedVariables false
set_option maxRecDepth 20000
/-- 'strings.Join' of a row of three. -/
theorem join3 (g : Nat) (a0 a1 a2 sep : ByteArray) (w : World) (c0 : w.cell? ⟨g, 0, none⟩ = some (.string a0)) (c1 : w.cell? ⟨g, 1, none⟩ = some (.string a1)) (c2 : w.cell? ⟨g, 2, none⟩ = some (.string a2)) (hz : a0.size + a1.size + a2.size + sep.size * 3 ≤ 1000000) :
    Calls Tryd.prog 35 #[.slice (some ⟨g, 0, none⟩) 3 3, .string sep] w fun e w' => e = .returned (.string (jnT [a0, a1, a2] sep)) ∧ Below w.heap.size w w' := by
  refine Tryd.strings_Join g 0 3 [a0, a1, a2] sep w (fun j x hx => ?_) (World.block_lt_of_cell? w _ c0) (by simp) (by simp) ?_
  · match j, hx with
    | 0, hx => cases hx; exact c0
    | 1, hx => cases hx; exact c1
    | 2, hx => cases hx; exact c2
  · have := jnT_size sep 3 [a0, a1, a2] rfl
    have e : (Lib.join ([a0, a1, a2].map (·.data.toList)) sep.data.toList).length = (jnT [a0, a1, a2] sep).size := by simp [jnT, ByteArray.size]
    rw [e]
    simp [szT] at this
    omega
end Go.Proofs.YtappekglflgodaaDoor
