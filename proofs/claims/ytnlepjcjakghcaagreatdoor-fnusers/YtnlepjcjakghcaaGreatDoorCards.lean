/-
  DERIVED. GIVEN WITH THE SEED: THE CARDS: each row of YtnlepjcjakghcaaGreatDoorRows.lean that lists a variable, with what it lists TIED to the program's text (the seventh form; the later family's looks); each row that meets fmt, with fmt's text TOLD by the authors' own Lean function (tested against real Go, not proved from fmt's source: count such statements apart). THE CARD IS WHAT COUNTS. Prove the row's statement (the work); the ties are given (YtnlepjcjakghcaaGreatDoorTie.lean); close each card by the builder's one call (the guide's Derived/Test/ToyasCard.lean, 'card_holds'). Laid BY PROGRAM, IN A SANDBOX (cutbox-door.mjs). By AI agents, Wed Nov 11 2026. No macro, syntax, notation, axiom, sorry.
-/
import Derived.Test.YtnlepjcjakghcaaGreatDoorRows
import GoSem.ClaimSeven
namespace Go.Proofs.YtnlepjcjakghcaaGreatDoor
namespace Rows

/-- THE TIED CARD OF 'laws.FnUsers'. -/
def fnUsersCard : Claim7 := { stood := { row := fnUsersRow, standIns := [], harness := (true, "d0d9e143088f312e2f011d27dca4ead0841eff89971be2beb9d34bf3406c6b0f"), looks := false }, kinds := [], alts := [], laidByText := true, laidKinds := [.data, .data], laidTests := true, laidLooks := .later }
def FnUsersCardSaid : Prop := Claim7.holds Tryz.pinned (.plain (OpenSpec.ofChange fnUsersSpec)) fnUsersCard

/-- THE SECOND FORM's CARD OF 'laws.FnUsers'. -/
def fnUsersUptoCard : Claim7 := { stood := { row := fnUsersUptoRow, standIns := [], harness := (true, "d0d9e143088f312e2f011d27dca4ead0841eff89971be2beb9d34bf3406c6b0f"), looks := false }, kinds := [], alts := [], laidByText := true, laidKinds := [.data, .data], laidTests := true, laidLooks := .later }
def FnUsersUptoCardSaid : Prop := Claim7.holds Tryz.pinned (.plain (OpenSpec.upto fnUsersSpec)) fnUsersUptoCard
end Rows
end Go.Proofs.YtnlepjcjakghcaaGreatDoor
