/-
  DERIVED. GIVEN WITH THE SEED: THE CARDS: each row of YtmhlanbmlkidhabDoorRows.lean that lists a variable, with what it lists TIED to the program's text (the seventh form; the later family's looks); each row that meets fmt, with fmt's text TOLD by the authors' own Lean function (tested against real Go, not proved from fmt's source: count such statements apart). THE CARD IS WHAT COUNTS. Prove the row's statement (the work); the ties are given (YtmhlanbmlkidhabDoorTie.lean); close each card by the builder's one call (the guide's Derived/Test/ToyasCard.lean, 'card_holds'). Laid BY PROGRAM, IN A SANDBOX (cutbox-door.mjs). By AI agents, Wed Nov 11 2026. No macro, syntax, notation, axiom, sorry.
-/
import Derived.Test.YtmhlanbmlkidhabDoorRows
import GoSem.ClaimSeven
namespace Go.Proofs.YtmhlanbmlkidhabDoor
namespace Rows

/-- THE TIED CARD OF 'laws.FnExactHash'. -/
def fnExactHashCard : Claim7 := { stood := { row := fnExactHashRow, standIns := [], harness := (true, "ced49301ec4f7164e65cf4bd4d2be9ab35a1479ccb68e4aded021ab278959b42"), looks := false }, kinds := [], alts := [], laidByText := true, laidKinds := [.data, .data], laidTests := true, laidLooks := .later }
def FnExactHashCardSaid : Prop := Claim7.holds Tryd.pinned (.plain (OpenSpec.ofChange fnExactHashSpec)) fnExactHashCard

/-- THE TIED CARD OF 'laws.FnExactCheck32'. -/
def fnExactCheck32Card : Claim7 := { stood := { row := fnExactCheck32Row, standIns := [], harness := (true, "ced49301ec4f7164e65cf4bd4d2be9ab35a1479ccb68e4aded021ab278959b42"), looks := false }, kinds := [], alts := [], laidByText := true, laidKinds := [.data], laidTests := true, laidLooks := .later }
def FnExactCheck32CardSaid : Prop := Claim7.holds Tryd.pinned (.plain (OpenSpec.ofChange fnExactCheck32Spec)) fnExactCheck32Card

/-- THE TIED CARD OF 'laws.FnExactPassHash'. -/
def fnExactPassHashCard : Claim7 := { stood := { row := fnExactPassHashRow, standIns := [], harness := (true, "ced49301ec4f7164e65cf4bd4d2be9ab35a1479ccb68e4aded021ab278959b42"), looks := false }, kinds := [], alts := [], laidByText := true, laidKinds := [.data, .data], laidTests := true, laidLooks := .later }
def FnExactPassHashCardSaid : Prop := Claim7.holds Tryd.pinned (.plain (OpenSpec.ofChange fnExactPassHashSpec)) fnExactPassHashCard

/-- THE SECOND FORM's CARD OF 'laws.FnExactHash'. -/
def fnExactHashUptoCard : Claim7 := { stood := { row := fnExactHashUptoRow, standIns := [], harness := (true, "ced49301ec4f7164e65cf4bd4d2be9ab35a1479ccb68e4aded021ab278959b42"), looks := false }, kinds := [], alts := [], laidByText := true, laidKinds := [.data, .data], laidTests := true, laidLooks := .later }
def FnExactHashUptoCardSaid : Prop := Claim7.holds Tryd.pinned (.plain (OpenSpec.upto fnExactHashSpec)) fnExactHashUptoCard

/-- THE SECOND FORM's CARD OF 'laws.FnExactCheck32'. -/
def fnExactCheck32UptoCard : Claim7 := { stood := { row := fnExactCheck32UptoRow, standIns := [], harness := (true, "ced49301ec4f7164e65cf4bd4d2be9ab35a1479ccb68e4aded021ab278959b42"), looks := false }, kinds := [], alts := [], laidByText := true, laidKinds := [.data], laidTests := true, laidLooks := .later }
def FnExactCheck32UptoCardSaid : Prop := Claim7.holds Tryd.pinned (.plain (OpenSpec.upto fnExactCheck32Spec)) fnExactCheck32UptoCard

/-- THE SECOND FORM's CARD OF 'laws.FnExactPassHash'. -/
def fnExactPassHashUptoCard : Claim7 := { stood := { row := fnExactPassHashUptoRow, standIns := [], harness := (true, "ced49301ec4f7164e65cf4bd4d2be9ab35a1479ccb68e4aded021ab278959b42"), looks := false }, kinds := [], alts := [], laidByText := true, laidKinds := [.data, .data], laidTests := true, laidLooks := .later }
def FnExactPassHashUptoCardSaid : Prop := Claim7.holds Tryd.pinned (.plain (OpenSpec.upto fnExactPassHashSpec)) fnExactPassHashUptoCard
end Rows
end Go.Proofs.YtmhlanbmlkidhabDoor
