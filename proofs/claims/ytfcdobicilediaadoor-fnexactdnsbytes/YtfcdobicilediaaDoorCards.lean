/-
  DERIVED. GIVEN WITH THE SEED: THE CARDS: each row of YtfcdobicilediaaDoorRows.lean that lists a variable, with what it lists TIED to the program's text (the seventh form; the later family's looks); each row that meets fmt, with fmt's text TOLD by the authors' own Lean function (tested against real Go, not proved from fmt's source: count such statements apart). THE CARD IS WHAT COUNTS. Prove the row's statement (the work); the ties are given (YtfcdobicilediaaDoorTie.lean); close each card by the builder's one call (the guide's Derived/Test/ToyasCard.lean, 'card_holds'). Laid BY PROGRAM, IN A SANDBOX (cutbox-door.mjs). By AI agents, Wed Nov 11 2026. No macro, syntax, notation, axiom, sorry.
-/
import Derived.Test.YtfcdobicilediaaDoorRows
import GoSem.ClaimSeven
namespace Go.Proofs.YtfcdobicilediaaDoor
namespace Rows

/-- THE TIED CARD OF 'laws.FnServices'. -/
def fnServicesCard : Claim7 := { stood := { row := fnServicesRow, standIns := [], harness := (true, "435849c96f1d76ac823abfa47dd311c6039bd7ca89c922d3fa2b573ec51261b2"), looks := false }, kinds := [], alts := [], laidByText := true, laidKinds := [.data, .pinned], laidTests := true, laidLooks := .later }
def FnServicesCardSaid : Prop := Claim7.holds Tryd.pinned (.plain (OpenSpec.ofChange fnServicesSpec)) fnServicesCard

/-- THE TIED CARD OF 'laws.FnExactDnsBytes'. -/
def fnExactDnsBytesCard : Claim7 := { stood := { row := fnExactDnsBytesRow, standIns := [], harness := (true, "435849c96f1d76ac823abfa47dd311c6039bd7ca89c922d3fa2b573ec51261b2"), looks := false }, kinds := [], alts := [], laidByText := true, laidKinds := [.data, .pinned], laidTests := true, laidLooks := .later }
def FnExactDnsBytesCardSaid : Prop := Claim7.holds Tryd.pinned (.plain (OpenSpec.ofChange fnExactDnsBytesSpec)) fnExactDnsBytesCard

/-- THE SECOND FORM's CARD OF 'laws.FnServices'. -/
def fnServicesUptoCard : Claim7 := { stood := { row := fnServicesUptoRow, standIns := [], harness := (true, "435849c96f1d76ac823abfa47dd311c6039bd7ca89c922d3fa2b573ec51261b2"), looks := false }, kinds := [], alts := [], laidByText := true, laidKinds := [.data, .pinned], laidTests := true, laidLooks := .later }
def FnServicesUptoCardSaid : Prop := Claim7.holds Tryd.pinned (.plain (OpenSpec.upto fnServicesSpec)) fnServicesUptoCard

/-- THE SECOND FORM's CARD OF 'laws.FnExactDnsBytes'. -/
def fnExactDnsBytesUptoCard : Claim7 := { stood := { row := fnExactDnsBytesUptoRow, standIns := [], harness := (true, "435849c96f1d76ac823abfa47dd311c6039bd7ca89c922d3fa2b573ec51261b2"), looks := false }, kinds := [], alts := [], laidByText := true, laidKinds := [.data, .pinned], laidTests := true, laidLooks := .later }
def FnExactDnsBytesUptoCardSaid : Prop := Claim7.holds Tryd.pinned (.plain (OpenSpec.upto fnExactDnsBytesSpec)) fnExactDnsBytesUptoCard
end Rows
end Go.Proofs.YtfcdobicilediaaDoor
