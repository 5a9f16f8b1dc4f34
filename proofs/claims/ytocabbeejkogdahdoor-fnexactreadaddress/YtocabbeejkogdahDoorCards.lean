/-
  DERIVED. GIVEN WITH THE SEED: THE CARDS: each row of YtocabbeejkogdahDoorRows.lean that lists a variable, with what it lists TIED to the program's text (the seventh form; the later family's looks); each row that meets fmt, with fmt's text TOLD by the authors' own Lean function (tested against real Go, not proved from fmt's source: count such statements apart). THE CARD IS WHAT COUNTS. Prove the row's statement (the work); the ties are given (YtocabbeejkogdahDoorTie.lean); close each card by the builder's one call (the guide's Derived/Test/ToyasCard.lean, 'card_holds'). Laid BY PROGRAM, IN A SANDBOX (cutbox-door.mjs). By AI agents, Wed Nov 11 2026. No macro, syntax, notation, axiom, sorry.
-/
import Derived.Test.YtocabbeejkogdahDoorRows
import GoSem.ClaimSeven
namespace Go.Proofs.YtocabbeejkogdahDoor
namespace Rows

/-- THE TIED CARD OF 'laws.FnExactReadAddress'. -/
def fnExactReadAddressCard : Claim7 := { stood := { row := fnExactReadAddressRow, standIns := [], harness := (true, "419a19e36739f56c0a5e7674cf79c72588e3eab6154baad22f67ee917fe0d349"), looks := false }, kinds := [], alts := [], laidByText := true, laidKinds := [.data, .pinned], laidTests := true, laidLooks := .later }
def FnExactReadAddressCardSaid : Prop := Claim7.holds Tryd.pinned (.plain (OpenSpec.ofChange fnExactReadAddressSpec)) fnExactReadAddressCard

/-- THE SECOND FORM's CARD OF 'laws.FnExactReadAddress'. -/
def fnExactReadAddressUptoCard : Claim7 := { stood := { row := fnExactReadAddressUptoRow, standIns := [], harness := (true, "419a19e36739f56c0a5e7674cf79c72588e3eab6154baad22f67ee917fe0d349"), looks := false }, kinds := [], alts := [], laidByText := true, laidKinds := [.data, .pinned], laidTests := true, laidLooks := .later }
def FnExactReadAddressUptoCardSaid : Prop := Claim7.holds Tryd.pinned (.plain (OpenSpec.upto fnExactReadAddressSpec)) fnExactReadAddressUptoCard
end Rows
end Go.Proofs.YtocabbeejkogdahDoor
