/- Nets, the walks: netAround, NetOK, NetHas; the model's NetOK, l05Has, NetHas. -/
import Derived.Test.YtappekglflgodabDoorNetB
import Derived.Test.YtappekglflgodabDoorTests
import Derived.Test.YtappekglflgodabDoorApp
import Derived.Laws.StructEq
import Derived.Test.YtappekglflgodabDoorGrw
namespace Go.Proofs.YtappekglflgodabDoor
open Go.RowKit Go.PlainAid Go.Proofs.YtappekglflgodabDoor.Bt Go.Sort
set_option linter.unusedVariables false
set_option maxRecDepth 20000

/-- Whether it is a net. -/
def nB (ip b : Int) : Bool := dec (0 ≤ ip ∧ ip ≤ 4294967295 ∧ 0 ≤ b ∧ b ≤ 32 ∧ ip % netM b = 0)
/-- Whether a net has an address. -/
def hB (ip b x : Int) : Bool := dec (ip / netM b = x / netM b)

theorem nB_yes {ip b : Int} (h : nB ip b = true) : 0 ≤ ip ∧ ip ≤ 4294967295 ∧ 0 ≤ b ∧ b ≤ 32 ∧ ip % netM b = 0 := by
  unfold nB dec at h
  exact of_decide_eq_true h
/-- What NetHas answers. -/
def nhB (ip b x : Int) : Bool := nB ip b && dec (0 ≤ x ∧ x ≤ 4294967295) && hB ip b x
def nhC (ip b x : Int) : Int := if nB ip b = false then 1 else if dec (0 ≤ x ∧ x ≤ 4294967295) = false then 4 else 0

theorem has_around (ip x : Int) (b : Nat) (h : nB ip b = true) : hB ip b x = decide (ip = x / netM b * netM b ∧ (b : Int) = b) := by
  have := mul_has ip x (netM b) (netM_pos b) (nB_yes h).2.2.2.2
  unfold hB dec
  apply decide_eq_decide.2
  rw [this]
  simp
end Go.Proofs.YtappekglflgodabDoor
