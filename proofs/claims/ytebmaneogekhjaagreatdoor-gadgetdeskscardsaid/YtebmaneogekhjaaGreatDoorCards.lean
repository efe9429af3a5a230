/-
  DERIVED. GIVEN WITH THE SEED: THE CARDS: each row of YtebmaneogekhjaaGreatDoorRows.lean that lists a variable, with what it lists TIED to the program's text (the seventh form; the later family's looks); each row that meets fmt, with fmt's text TOLD by the authors' own Lean function (tested against real Go, not proved from fmt's source: count such statements apart). THE CARD IS WHAT COUNTS. Prove the row's statement (the work); the ties are given (YtebmaneogekhjaaGreatDoorTie.lean); close each card by the builder's one call (the guide's Derived/Test/ToyasCard.lean, 'card_holds'). Laid BY PROGRAM, IN A SANDBOX (cutbox-door.mjs). By AI agents, Wed Nov 11 2026. No macro, syntax, notation, axiom, sorry.
-/
import Derived.Test.YtebmaneogekhjaaGreatDoorRows
import GoSem.ClaimSeven
namespace Go.Proofs.YtebmaneogekhjaaGreatDoor
namespace Rows

/-- THE TIED CARD OF 'veillaw20.GadgetNames'. -/
def gadgetNamesCard : Claim7 := { stood := { row := gadgetNamesRow, standIns := [], harness := (true, "05660140ff7ec50d765605749c654112e59951926674072f00ed599cb9311b80"), looks := false }, kinds := [], alts := [], laidByText := true, laidKinds := [.data], laidTests := true, laidLooks := .later }
def GadgetNamesCardSaid : Prop := Claim7.holds Tryz.pinned (.plain (OpenSpec.ofChange gadgetNamesSpec)) gadgetNamesCard

/-- THE TIED CARD OF 'veillaw20.GadgetNil'. -/
def gadgetNilCard : Claim7 := { stood := { row := gadgetNilRow, standIns := [], harness := (true, "05660140ff7ec50d765605749c654112e59951926674072f00ed599cb9311b80"), looks := false }, kinds := [], alts := [], laidByText := true, laidKinds := [.data], laidTests := true, laidLooks := .later }
def GadgetNilCardSaid : Prop := Claim7.holds Tryz.pinned (.plain (OpenSpec.ofChange gadgetNilSpec)) gadgetNilCard

/-- THE TIED CARD OF 'veillaw20.GadgetDesks'. -/
def gadgetDesksCard : Claim7 := { stood := { row := gadgetDesksRow, standIns := [], harness := (true, "05660140ff7ec50d765605749c654112e59951926674072f00ed599cb9311b80"), looks := false }, kinds := [], alts := [], laidByText := true, laidKinds := [.data], laidTests := true, laidLooks := .later }
def GadgetDesksCardSaid : Prop := Claim7.holds Tryz.pinned (.plain (OpenSpec.ofChange gadgetDesksSpec)) gadgetDesksCard

/-- THE SECOND FORM's CARD OF 'veillaw20.GadgetNames'. -/
def gadgetNamesUptoCard : Claim7 := { stood := { row := gadgetNamesUptoRow, standIns := [], harness := (true, "05660140ff7ec50d765605749c654112e59951926674072f00ed599cb9311b80"), looks := false }, kinds := [], alts := [], laidByText := true, laidKinds := [.data], laidTests := true, laidLooks := .later }
def GadgetNamesUptoCardSaid : Prop := Claim7.holds Tryz.pinned (.plain (OpenSpec.upto gadgetNamesSpec)) gadgetNamesUptoCard

/-- THE SECOND FORM's CARD OF 'veillaw20.GadgetNil'. -/
def gadgetNilUptoCard : Claim7 := { stood := { row := gadgetNilUptoRow, standIns := [], harness := (true, "05660140ff7ec50d765605749c654112e59951926674072f00ed599cb9311b80"), looks := false }, kinds := [], alts := [], laidByText := true, laidKinds := [.data], laidTests := true, laidLooks := .later }
def GadgetNilUptoCardSaid : Prop := Claim7.holds Tryz.pinned (.plain (OpenSpec.upto gadgetNilSpec)) gadgetNilUptoCard

/-- THE SECOND FORM's CARD OF 'veillaw20.GadgetDesks'. -/
def gadgetDesksUptoCard : Claim7 := { stood := { row := gadgetDesksUptoRow, standIns := [], harness := (true, "05660140ff7ec50d765605749c654112e59951926674072f00ed599cb9311b80"), looks := false }, kinds := [], alts := [], laidByText := true, laidKinds := [.data], laidTests := true, laidLooks := .later }
def GadgetDesksUptoCardSaid : Prop := Claim7.holds Tryz.pinned (.plain (OpenSpec.upto gadgetDesksSpec)) gadgetDesksUptoCard
end Rows
end Go.Proofs.YtebmaneogekhjaaGreatDoor
