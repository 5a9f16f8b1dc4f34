/-
  DERIVED. GIVEN WITH THE SEED: THE CARDS: each row of YtimhkeebgogfoacDoorRows.lean that lists a variable, with what it lists TIED to the program's text (the seventh form; the later family's looks); each row that meets fmt, with fmt's text TOLD by the authors' own Lean function (tested against real Go, not proved from fmt's source: count such statements apart). THE CARD IS WHAT COUNTS. Prove the row's statement (the work); the ties are given (YtimhkeebgogfoacDoorTie.lean); close each card by the builder's one call (the guide's Derived/Test/ToyasCard.lean, 'card_holds'). Laid BY PROGRAM, IN A SANDBOX (cutbox-door.mjs). By AI agents, Wed Nov 11 2026. No macro, syntax, notation, axiom, sorry.
-/
import Derived.Test.YtimhkeebgogfoacDoorRows
import GoSem.ClaimSeven
namespace Go.Proofs.YtimhkeebgogfoacDoor
namespace Rows

/-- THE TIED CARD OF 'laws.FnExactCauseWord'. -/
def fnExactCauseWordCard : Claim7 := { stood := { row := fnExactCauseWordRow, standIns := [], harness := (true, "9e28efbe3599012976f83ccdecb0c9b7863a163db049771d5b48f61d6ec61a90"), looks := false }, kinds := [], alts := [], laidByText := true, laidKinds := [.data], laidTests := true, laidLooks := .later }
def FnExactCauseWordCardSaid : Prop := Claim7.holds Tryd.pinned (.plain (OpenSpec.ofChange fnExactCauseWordSpec)) fnExactCauseWordCard

/-- THE SECOND FORM's CARD OF 'laws.FnExactCauseWord'. -/
def fnExactCauseWordUptoCard : Claim7 := { stood := { row := fnExactCauseWordUptoRow, standIns := [], harness := (true, "9e28efbe3599012976f83ccdecb0c9b7863a163db049771d5b48f61d6ec61a90"), looks := false }, kinds := [], alts := [], laidByText := true, laidKinds := [.data], laidTests := true, laidLooks := .later }
def FnExactCauseWordUptoCardSaid : Prop := Claim7.holds Tryd.pinned (.plain (OpenSpec.upto fnExactCauseWordSpec)) fnExactCauseWordUptoCard
end Rows
end Go.Proofs.YtimhkeebgogfoacDoor
