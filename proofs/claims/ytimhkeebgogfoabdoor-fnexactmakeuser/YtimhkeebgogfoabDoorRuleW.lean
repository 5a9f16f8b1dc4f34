/- Rules: placeOf, placeOK, protoWord, RuleOK; the model's l07Range, RuleOK. -/
import Derived.Test.YtimhkeebgogfoabDoorNetW
import Derived.Test.YtimhkeebgogfoabDoorOpenR
import Derived.Test.YtimhkeebgogfoabDoorKeeps
namespace Go.Proofs.YtimhkeebgogfoabDoor
open Go.RowKit Go.PlainAid Go.Proofs.YtimhkeebgogfoabDoor.Bt Go.Sort
set_option linter.unusedVariables false
set_option maxRecDepth 20000

/-- Ports; a proto; a rule. -/
def rgB (lo hi : Int) : Bool := dec (0 ≤ lo ∧ lo ≤ 65535) && dec (lo ≤ hi ∧ hi ≤ 65535)
def prB (p : Int) : Bool := dec (p = 0 ∨ p = 1 ∨ p = 6 ∨ p = 17)
def plB (ip b lo hi : Int) : Bool := nB ip b && rgB lo hi
def ruB (r : RuleV) : Bool := prB r.p && plB r.ip r.b r.lo r.hi
theorem dec_congr {p q : Prop} [Decidable p] [Decidable q] (h : p ↔ q) : dec p = dec q := decide_eq_decide.2 h
theorem rg_ports (lo hi : Int) : (dec (0 ≤ lo ∧ lo ≤ 65535) && (dec (0 ≤ hi ∧ hi ≤ 65535) && decide (lo ≤ hi))) = rgB lo hi := by
  unfold rgB dec
  rw [Bool.eq_iff_iff]
  simp
  omega

/-- The word of a proto. -/
def pwS (p : Int) : ByteArray := if p = 0 then ⟨#[97, 110, 121]⟩ else if p = 1 then ⟨#[105, 99, 109, 112]⟩ else if p = 6 then ⟨#[116, 99, 112]⟩ else if p = 17 then ⟨#[117, 100, 112]⟩ else ⟨#[]⟩
end Go.Proofs.YtimhkeebgogfoabDoor
