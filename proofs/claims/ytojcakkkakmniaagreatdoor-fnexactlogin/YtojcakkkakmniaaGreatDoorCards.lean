/-
  DERIVED. GIVEN WITH THE SEED: THE CARDS: each row of YtojcakkkakmniaaGreatDoorRows.lean that lists a variable, with what it lists TIED to the program's text (the seventh form; the later family's looks); each row that meets fmt, with fmt's text TOLD by the authors' own Lean function (tested against real Go, not proved from fmt's source: count such statements apart). THE CARD IS WHAT COUNTS. Prove the row's statement (the work); the ties are given (YtojcakkkakmniaaGreatDoorTie.lean); close each card by the builder's one call (the guide's Derived/Test/ToyasCard.lean, 'card_holds'). Laid BY PROGRAM, IN A SANDBOX (cutbox-door.mjs). By AI agents, Wed Nov 11 2026. No macro, syntax, notation, axiom, sorry.
-/
import Derived.Test.YtojcakkkakmniaaGreatDoorRows
import GoSem.ClaimSeven
namespace Go.Proofs.YtojcakkkakmniaaGreatDoor
namespace Rows

/-- THE TIED CARD OF 'laws.FnExactLogin'. -/
def fnExactLoginCard : Claim7 := { stood := { row := fnExactLoginRow, standIns := [], harness := (true, "34e34954b3539c59804c2cf2770a5b86df864ee1a9a8c84665883f6106d72fa7"), looks := false }, kinds := [], alts := [], laidByText := true, laidKinds := [.data, .data], laidTests := true, laidLooks := .later }
def FnExactLoginCardSaid : Prop := Claim7.holds Tryz.pinned (.plain (OpenSpec.ofChange fnExactLoginSpec)) fnExactLoginCard

/-- THE SECOND FORM's CARD OF 'laws.FnExactLogin'. -/
def fnExactLoginUptoCard : Claim7 := { stood := { row := fnExactLoginUptoRow, standIns := [], harness := (true, "34e34954b3539c59804c2cf2770a5b86df864ee1a9a8c84665883f6106d72fa7"), looks := false }, kinds := [], alts := [], laidByText := true, laidKinds := [.data, .data], laidTests := true, laidLooks := .later }
def FnExactLoginUptoCardSaid : Prop := Claim7.holds Tryz.pinned (.plain (OpenSpec.upto fnExactLoginSpec)) fnExactLoginUptoCard
end Rows
end Go.Proofs.YtojcakkkakmniaaGreatDoor
