/- Words, the tops of both sides: ClassOf, OrderOf, NegOf, RateWord. -/
import Derived.Test.YtfcdobicilediacWordS
namespace Go.Proofs.Ytfcdobicilediac
open Go.RowKit Go.PlainAid Go.Proofs.Ytfcdobicilediac.Bt Go.Proofs.Ytfcdobicilediac.Fo Go.Sort
set_option linter.unusedVariables false
set_option maxRecDepth 20000

def classC (h l : Int) : Int := if okW h l then clW h l else 0
def badC (h l : Int) : Int := if okW h l then 0 else 1
def orderC (x y : Int × Int) : Int := if okW x.1 x.2 ∧ okW y.1 y.2 then cmpW x y else 0
def badC2 (x y : Int × Int) : Int := if okW x.1 x.2 ∧ okW y.1 y.2 then 0 else 1

def negH (h l : Int) : Int := if okW h l then bits .xor .i64 h 2147483648 else 0
def negL (h l : Int) : Int := if okW h l then l else 0
theorem set_two_w {w2 : World} {q : Nat} {u0 u1 : Value} (v0 v1 : Value) (z0 : w2.cell? ⟨q, 0, none⟩ = some u0) (z1 : w2.cell? ⟨q, 1, none⟩ = some u1) :
    ((w2.setCell ⟨q, 0, none⟩ v0).setCell ⟨q, 1, none⟩ v1).cell? ⟨q, 0, none⟩ = some v0 ∧ ((w2.setCell ⟨q, 0, none⟩ v0).setCell ⟨q, 1, none⟩ v1).cell? ⟨q, 1, none⟩ = some v1 ∧ Below q w2 ((w2.setCell ⟨q, 0, none⟩ v0).setCell ⟨q, 1, none⟩ v1) := by
  have n1 : (⟨q, 0, none⟩ : Addr) ≠ ⟨q, 1, none⟩ := fun h => by cases h
  have a1 : (w2.setCell ⟨q, 0, none⟩ v0).cell? ⟨q, 1, none⟩ = some u1 := by rw [World.cell?_setCell_other _ _ _ _ n1]; exact z1
  refine ⟨?_, World.cell?_setCell_same _ _ _ a1, ⟨rfl, rfl, rfl, by simp, fun k hk => ?_⟩⟩
  · rw [World.cell?_setCell_other _ _ _ _ (Ne.symm n1)]
    exact World.cell?_setCell_same _ _ _ z0
  · rw [Below.heap_setCell _ _ _ _ (by show k ≠ q; omega), Below.heap_setCell _ _ _ _ (by show k ≠ q; omega)]

end Go.Proofs.Ytfcdobicilediac
