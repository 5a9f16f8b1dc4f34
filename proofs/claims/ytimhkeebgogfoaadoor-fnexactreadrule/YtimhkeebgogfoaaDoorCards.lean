/-
  DERIVED. GIVEN WITH THE SEED: THE CARDS: each row of YtimhkeebgogfoaaDoorRows.lean that lists a variable, with what it lists TIED to the program's text (the seventh form; the later family's looks); each row that meets fmt, with fmt's text TOLD by the authors' own Lean function (tested against real Go, not proved from fmt's source: count such statements apart). THE CARD IS WHAT COUNTS. Prove the row's statement (the work); the ties are given (YtimhkeebgogfoaaDoorTie.lean); close each card by the builder's one call (the guide's Derived/Test/ToyasCard.lean, 'card_holds'). Laid BY PROGRAM, IN A SANDBOX (cutbox-door.mjs). By AI agents, Wed Nov 11 2026. No macro, syntax, notation, axiom, sorry.
-/
import Derived.Test.YtimhkeebgogfoaaDoorRows
import GoSem.ClaimSeven
namespace Go.Proofs.YtimhkeebgogfoaaDoor
namespace Rows

/-- THE TIED CARD OF 'laws.FnServices'. -/
def fnServicesCard : Claim7 := { stood := { row := fnServicesRow, standIns := [], harness := (true, "a1cf348dbd8bde368308c7b9698be3b3d9b6263f9b90547152ff1fad79ccb47b"), looks := false }, kinds := [], alts := [], laidByText := true, laidKinds := [.data, .pinned], laidTests := true, laidLooks := .later }
def FnServicesCardSaid : Prop := Claim7.holds Tryd.pinned (.plain (OpenSpec.ofChange fnServicesSpec)) fnServicesCard

/-- THE TIED CARD OF 'laws.FnExactReadRule'. -/
def fnExactReadRuleCard : Claim7 := { stood := { row := fnExactReadRuleRow, standIns := [], harness := (true, "a1cf348dbd8bde368308c7b9698be3b3d9b6263f9b90547152ff1fad79ccb47b"), looks := false }, kinds := [], alts := [], laidByText := true, laidKinds := [.data, .pinned], laidTests := true, laidLooks := .later }
def FnExactReadRuleCardSaid : Prop := Claim7.holds Tryd.pinned (.plain (OpenSpec.ofChange fnExactReadRuleSpec)) fnExactReadRuleCard

/-- THE SECOND FORM's CARD OF 'laws.FnServices'. -/
def fnServicesUptoCard : Claim7 := { stood := { row := fnServicesUptoRow, standIns := [], harness := (true, "a1cf348dbd8bde368308c7b9698be3b3d9b6263f9b90547152ff1fad79ccb47b"), looks := false }, kinds := [], alts := [], laidByText := true, laidKinds := [.data, .pinned], laidTests := true, laidLooks := .later }
def FnServicesUptoCardSaid : Prop := Claim7.holds Tryd.pinned (.plain (OpenSpec.upto fnServicesSpec)) fnServicesUptoCard

/-- THE SECOND FORM's CARD OF 'laws.FnExactReadRule'. -/
def fnExactReadRuleUptoCard : Claim7 := { stood := { row := fnExactReadRuleUptoRow, standIns := [], harness := (true, "a1cf348dbd8bde368308c7b9698be3b3d9b6263f9b90547152ff1fad79ccb47b"), looks := false }, kinds := [], alts := [], laidByText := true, laidKinds := [.data, .pinned], laidTests := true, laidLooks := .later }
def FnExactReadRuleUptoCardSaid : Prop := Claim7.holds Tryd.pinned (.plain (OpenSpec.upto fnExactReadRuleSpec)) fnExactReadRuleUptoCard
end Rows
end Go.Proofs.YtimhkeebgogfoaaDoor
