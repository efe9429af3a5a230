/-
  DERIVED. GIVEN WITH THE SEED: THE CARDS: each row of YtapieajkmpnmoaaGreatDoorRows.lean that lists a variable, with what it lists TIED to the program's text (the seventh form; the later family's looks); each row that meets fmt, with fmt's text TOLD by the authors' own Lean function (tested against real Go, not proved from fmt's source: count such statements apart). THE CARD IS WHAT COUNTS. Prove the row's statement (the work); the ties are given (YtapieajkmpnmoaaGreatDoorTie.lean); close each card by the builder's one call (the guide's Derived/Test/ToyasCard.lean, 'card_holds'). Laid BY PROGRAM, IN A SANDBOX (cutbox-door.mjs). By AI agents, Wed Nov 11 2026. No macro, syntax, notation, axiom, sorry.
-/
import Derived.Test.YtapieajkmpnmoaaGreatDoorRows
import GoSem.ClaimSeven
namespace Go.Proofs.YtapieajkmpnmoaaGreatDoor
namespace Rows

/-- THE TIED CARD OF 'veillaw11.SigmaSole'. -/
def sigmaSoleCard : Claim7 := { stood := { row := sigmaSoleRow, standIns := [], harness := (true, "eca52465955e68ca434722e83b8238f1c0b4f7e45429c5a811125d0c0ffffdc7"), looks := false }, kinds := [], alts := [], goes := true, laidByText := true, laidKinds := [.data], laidTests := true, laidLooks := .later }
def SigmaSoleCardSaid : Prop := Claim7.holds Tryz.pinned (.plain (OpenSpec.ofChange sigmaSoleSpec)) sigmaSoleCard

/-- THE SECOND FORM's CARD OF 'veillaw11.SigmaSole'. -/
def sigmaSoleUptoCard : Claim7 := { stood := { row := sigmaSoleUptoRow, standIns := [], harness := (true, "eca52465955e68ca434722e83b8238f1c0b4f7e45429c5a811125d0c0ffffdc7"), looks := false }, kinds := [], alts := [], goes := true, laidByText := true, laidKinds := [.data], laidTests := true, laidLooks := .later }
def SigmaSoleUptoCardSaid : Prop := Claim7.holds Tryz.pinned (.plain (OpenSpec.upto sigmaSoleSpec)) sigmaSoleUptoCard
end Rows
end Go.Proofs.YtapieajkmpnmoaaGreatDoor
