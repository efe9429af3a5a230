/-
  DERIVED. GIVEN WITH THE SEED: THE CARDS: each row of YtaejdgpffipaeaaGreatDoorRows.lean that lists a variable, with what it lists TIED to the program's text (the seventh form; the later family's looks); each row that meets fmt, with fmt's text TOLD by the authors' own Lean function (tested against real Go, not proved from fmt's source: count such statements apart). THE CARD IS WHAT COUNTS. Prove the row's statement (the work); the ties are given (YtaejdgpffipaeaaGreatDoorTie.lean); close each card by the builder's one call (the guide's Derived/Test/ToyasCard.lean, 'card_holds'). Laid BY PROGRAM, IN A SANDBOX (cutbox-door.mjs). By AI agents, Wed Nov 11 2026. No macro, syntax, notation, axiom, sorry.
-/
import Derived.Test.YtaejdgpffipaeaaGreatDoorRows
import GoSem.ClaimSeven
namespace Go.Proofs.YtaejdgpffipaeaaGreatDoor
namespace Rows

/-- THE TIED CARD OF 'veillaw19.CircuitText'. -/
def circuitTextCard : Claim7 := { stood := { row := circuitTextRow, standIns := [], harness := (true, "c0e1b0c6d6cfaf0f8c5749fad656f955c6668008ae4efd28a3a3d2e6620dcb1f"), looks := false }, kinds := [], alts := [], laidByText := true, laidKinds := [.data], laidTests := true, laidLooks := .later }
def CircuitTextCardSaid : Prop := Claim7.holds Tryz.pinned (.plain (OpenSpec.ofChange circuitTextSpec)) circuitTextCard

/-- THE SECOND FORM's CARD OF 'veillaw19.CircuitText'. -/
def circuitTextUptoCard : Claim7 := { stood := { row := circuitTextUptoRow, standIns := [], harness := (true, "c0e1b0c6d6cfaf0f8c5749fad656f955c6668008ae4efd28a3a3d2e6620dcb1f"), looks := false }, kinds := [], alts := [], laidByText := true, laidKinds := [.data], laidTests := true, laidLooks := .later }
def CircuitTextUptoCardSaid : Prop := Claim7.holds Tryz.pinned (.plain (OpenSpec.upto circuitTextSpec)) circuitTextUptoCard
end Rows
end Go.Proofs.YtaejdgpffipaeaaGreatDoor
