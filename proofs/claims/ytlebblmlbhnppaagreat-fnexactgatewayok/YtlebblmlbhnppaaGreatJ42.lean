/- What the sizes of users say. -/
import Derived.Test.YtlebblmlbhnppaaGreatGokF
import Derived.Test.YtlebblmlbhnppaaGreatJ34
namespace Go.Proofs.YtlebblmlbhnppaaGreat
open Go.RowKit Go.PlainAid Go.Proofs.YtlebblmlbhnppaaGreat.Bt Go.Sort
set_option linter.unusedVariables false
set_option maxRecDepth 20000
theorem flok_of {w : World} {a : Option Addr} {fl : List FlowV} (h : Rw FlR 9 w a fl) : ∀ x, x ∈ fl → FlRok x := by
  intro x hx
  obtain ⟨i, hi⟩ := List.getElem?_of_mem hx
  obtain ⟨b, off, vs, _, _, _, h2, _⟩ := h.at FR.kp (Below.refl _ _) hi
  exact h2.2
theorem szU_of {us : List UserV} {n : Int} (h : szL wtUser us ≤ n) (hn : n ≤ 1048576) : SzU us := by
  intro u hu
  have := szL_mem wtUser_nn us u hu
  have e : wtUser u = (u.nm.size : Int) + u.sa.size + u.ha.size + u.ro.size := rfl
  rw [e] at this
  omega
end Go.Proofs.YtlebblmlbhnppaaGreat
