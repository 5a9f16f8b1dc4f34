/-
  DERIVED. GIVEN WITH THE SEED: THE CARDS: each row of YtbeehlhcckndcaaDoorRows.lean that lists a variable, with what it lists TIED to the program's text (the seventh form; the later family's looks); each row that meets fmt, with fmt's text TOLD by the authors' own Lean function (tested against real Go, not proved from fmt's source: count such statements apart). THE CARD IS WHAT COUNTS. Prove the row's statement (the work); the ties are given (YtbeehlhcckndcaaDoorTie.lean); close each card by the builder's one call (the guide's Derived/Test/ToyasCard.lean, 'card_holds'). Laid BY PROGRAM, IN A SANDBOX (cutbox-door.mjs). By AI agents, Wed Nov 11 2026. No macro, syntax, notation, axiom, sorry.
-/
import Derived.Test.YtbeehlhcckndcaaDoorRows
import GoSem.ClaimSeven
namespace Go.Proofs.YtbeehlhcckndcaaDoor
namespace Rows

/-- THE TIED CARD OF 'laws.FnExactPlainGateway'. -/
def fnExactPlainGatewayCard : Claim7 := { stood := { row := fnExactPlainGatewayRow, standIns := [], harness := (true, "8559c76aaf87fb71a90b8a6deb72742bae3389dba847a5a3f5f5b983113c6646"), looks := false }, kinds := [], alts := [], laidByText := true, laidKinds := [.data, .data], laidTests := true, laidLooks := .later }
def FnExactPlainGatewayCardSaid : Prop := Claim7.holds Tryd.pinned (.plain (OpenSpec.ofChange fnExactPlainGatewaySpec)) fnExactPlainGatewayCard

/-- THE SECOND FORM's CARD OF 'laws.FnExactPlainGateway'. -/
def fnExactPlainGatewayUptoCard : Claim7 := { stood := { row := fnExactPlainGatewayUptoRow, standIns := [], harness := (true, "8559c76aaf87fb71a90b8a6deb72742bae3389dba847a5a3f5f5b983113c6646"), looks := false }, kinds := [], alts := [], laidByText := true, laidKinds := [.data, .data], laidTests := true, laidLooks := .later }
def FnExactPlainGatewayUptoCardSaid : Prop := Claim7.holds Tryd.pinned (.plain (OpenSpec.upto fnExactPlainGatewaySpec)) fnExactPlainGatewayUptoCard
end Rows
end Go.Proofs.YtbeehlhcckndcaaDoor
