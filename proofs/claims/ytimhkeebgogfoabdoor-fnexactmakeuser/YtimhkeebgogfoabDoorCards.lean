/-
  DERIVED. GIVEN WITH THE SEED: THE CARDS: each row of YtimhkeebgogfoabDoorRows.lean that lists a variable, with what it lists TIED to the program's text (the seventh form; the later family's looks); each row that meets fmt, with fmt's text TOLD by the authors' own Lean function (tested against real Go, not proved from fmt's source: count such statements apart). THE CARD IS WHAT COUNTS. Prove the row's statement (the work); the ties are given (YtimhkeebgogfoabDoorTie.lean); close each card by the builder's one call (the guide's Derived/Test/ToyasCard.lean, 'card_holds'). Laid BY PROGRAM, IN A SANDBOX (cutbox-door.mjs). By AI agents, Wed Nov 11 2026. No macro, syntax, notation, axiom, sorry.
-/
import Derived.Test.YtimhkeebgogfoabDoorRows
import GoSem.ClaimSeven
namespace Go.Proofs.YtimhkeebgogfoabDoor
namespace Rows

/-- THE TIED CARD OF 'laws.FnExactMakeUser'. -/
def fnExactMakeUserCard : Claim7 := { stood := { row := fnExactMakeUserRow, standIns := [], harness := (true, "5e9b071825a262094245f1152204cf991d65627c42808863d2766c0c3ea71a19"), looks := false }, kinds := [], alts := [], laidByText := true, laidKinds := [.data, .data], laidTests := true, laidLooks := .later }
def FnExactMakeUserCardSaid : Prop := Claim7.holds Tryd.pinned (.plain (OpenSpec.ofChange fnExactMakeUserSpec)) fnExactMakeUserCard

/-- THE SECOND FORM's CARD OF 'laws.FnExactMakeUser'. -/
def fnExactMakeUserUptoCard : Claim7 := { stood := { row := fnExactMakeUserUptoRow, standIns := [], harness := (true, "5e9b071825a262094245f1152204cf991d65627c42808863d2766c0c3ea71a19"), looks := false }, kinds := [], alts := [], laidByText := true, laidKinds := [.data, .data], laidTests := true, laidLooks := .later }
def FnExactMakeUserUptoCardSaid : Prop := Claim7.holds Tryd.pinned (.plain (OpenSpec.upto fnExactMakeUserSpec)) fnExactMakeUserUptoCard
end Rows
end Go.Proofs.YtimhkeebgogfoabDoor
