/-
  DERIVED. GIVEN WITH THE SEED: THE CARDS: each row of YtdhjbbnggeamhabDoorRows.lean that lists a variable, with what it lists TIED to the program's text (the seventh form; the later family's looks); each row that meets fmt, with fmt's text TOLD by the authors' own Lean function (tested against real Go, not proved from fmt's source: count such statements apart). THE CARD IS WHAT COUNTS. Prove the row's statement (the work); the ties are given (YtdhjbbnggeamhabDoorTie.lean); close each card by the builder's one call (the guide's Derived/Test/ToyasCard.lean, 'card_holds'). Laid BY PROGRAM, IN A SANDBOX (cutbox-door.mjs). By AI agents, Wed Nov 11 2026. No macro, syntax, notation, axiom, sorry.
-/
import Derived.Test.YtdhjbbnggeamhabDoorRows
import GoSem.ClaimSeven
namespace Go.Proofs.YtdhjbbnggeamhabDoor
namespace Rows

/-- THE TIED CARD OF 'laws.FnExactDnsNameOK'. -/
def fnExactDnsNameOKCard : Claim7 := { stood := { row := fnExactDnsNameOKRow, standIns := [], harness := (true, "240d66f6ad078ed8a6c4979a5bf7bbdf31abdf97f7879e441857703a7dd7724b"), looks := false }, kinds := [], alts := [], laidByText := true, laidKinds := [.data, .pinned], laidTests := true, laidLooks := .later }
def FnExactDnsNameOKCardSaid : Prop := Claim7.holds Tryd.pinned (.plain (OpenSpec.ofChange fnExactDnsNameOKSpec)) fnExactDnsNameOKCard

/-- THE TIED CARD OF 'laws.FnExactDnsBytes'. -/
def fnExactDnsBytesCard : Claim7 := { stood := { row := fnExactDnsBytesRow, standIns := [], harness := (true, "240d66f6ad078ed8a6c4979a5bf7bbdf31abdf97f7879e441857703a7dd7724b"), looks := false }, kinds := [], alts := [], laidByText := true, laidKinds := [.data, .pinned], laidTests := true, laidLooks := .later }
def FnExactDnsBytesCardSaid : Prop := Claim7.holds Tryd.pinned (.plain (OpenSpec.ofChange fnExactDnsBytesSpec)) fnExactDnsBytesCard

/-- THE SECOND FORM's CARD OF 'laws.FnExactDnsNameOK'. -/
def fnExactDnsNameOKUptoCard : Claim7 := { stood := { row := fnExactDnsNameOKUptoRow, standIns := [], harness := (true, "240d66f6ad078ed8a6c4979a5bf7bbdf31abdf97f7879e441857703a7dd7724b"), looks := false }, kinds := [], alts := [], laidByText := true, laidKinds := [.data, .pinned], laidTests := true, laidLooks := .later }
def FnExactDnsNameOKUptoCardSaid : Prop := Claim7.holds Tryd.pinned (.plain (OpenSpec.upto fnExactDnsNameOKSpec)) fnExactDnsNameOKUptoCard

/-- THE SECOND FORM's CARD OF 'laws.FnExactDnsBytes'. -/
def fnExactDnsBytesUptoCard : Claim7 := { stood := { row := fnExactDnsBytesUptoRow, standIns := [], harness := (true, "240d66f6ad078ed8a6c4979a5bf7bbdf31abdf97f7879e441857703a7dd7724b"), looks := false }, kinds := [], alts := [], laidByText := true, laidKinds := [.data, .pinned], laidTests := true, laidLooks := .later }
def FnExactDnsBytesUptoCardSaid : Prop := Claim7.holds Tryd.pinned (.plain (OpenSpec.upto fnExactDnsBytesSpec)) fnExactDnsBytesUptoCard
end Rows
end Go.Proofs.YtdhjbbnggeamhabDoor
