/-
  DERIVED. GIVEN WITH THE SEED: THE CARDS: each row of YtldapnlajnllhabDoorRows.lean that lists a variable, with what it lists TIED to the program's text (the seventh form; the later family's looks); each row that meets fmt, with fmt's text TOLD by the authors' own Lean function (tested against real Go, not proved from fmt's source: count such statements apart). THE CARD IS WHAT COUNTS. Prove the row's statement (the work); the ties are given (YtldapnlajnllhabDoorTie.lean); close each card by the builder's one call (the guide's Derived/Test/ToyasCard.lean, 'card_holds'). Laid BY PROGRAM, IN A SANDBOX (cutbox-door.mjs). By AI agents, Wed Nov 11 2026. No macro, syntax, notation, axiom, sorry.
-/
import Derived.Test.YtldapnlajnllhabDoorRows
import GoSem.ClaimSeven
namespace Go.Proofs.YtldapnlajnllhabDoor
namespace Rows

/-- THE TIED CARD OF 'veillaw07.MsmLines'. -/
def msmLinesCard : Claim7 := { stood := { row := msmLinesRow, standIns := [], harness := (true, "f919482b19c273f9cdb68575f8e261fcfeff53ada28f4b4e11875f98e5343c49"), looks := false }, kinds := [], alts := [], laidByText := true, laidKinds := [.data, .data, .data, .data, .wider, .data], laidTests := true, laidLooks := .later }
def MsmLinesCardSaid : Prop := Claim7.holds Tryd.pinned (.plain (OpenSpec.ofChange msmLinesSpec)) msmLinesCard

/-- THE SECOND FORM's CARD OF 'veillaw07.MsmLines'. -/
def msmLinesUptoCard : Claim7 := { stood := { row := msmLinesUptoRow, standIns := [], harness := (true, "f919482b19c273f9cdb68575f8e261fcfeff53ada28f4b4e11875f98e5343c49"), looks := false }, kinds := [], alts := [], laidByText := true, laidKinds := [.data, .data, .data, .data, .wider, .data], laidTests := true, laidLooks := .later }
def MsmLinesUptoCardSaid : Prop := Claim7.holds Tryd.pinned (.plain (OpenSpec.upto msmLinesSpec)) msmLinesUptoCard
end Rows
end Go.Proofs.YtldapnlajnllhabDoor
