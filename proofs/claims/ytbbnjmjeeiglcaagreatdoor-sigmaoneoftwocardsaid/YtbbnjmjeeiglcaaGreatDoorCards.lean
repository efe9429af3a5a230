/-
  DERIVED. GIVEN WITH THE SEED: THE CARDS: each row of YtbbnjmjeeiglcaaGreatDoorRows.lean that lists a variable, with what it lists TIED to the program's text (the seventh form; the later family's looks); each row that meets fmt, with fmt's text TOLD by the authors' own Lean function (tested against real Go, not proved from fmt's source: count such statements apart). THE CARD IS WHAT COUNTS. Prove the row's statement (the work); the ties are given (YtbbnjmjeeiglcaaGreatDoorTie.lean); close each card by the builder's one call (the guide's Derived/Test/ToyasCard.lean, 'card_holds'). Laid BY PROGRAM, IN A SANDBOX (cutbox-door.mjs). By AI agents, Wed Nov 11 2026. No macro, syntax, notation, axiom, sorry.
-/
import Derived.Test.YtbbnjmjeeiglcaaGreatDoorRows
import GoSem.ClaimSeven
namespace Go.Proofs.YtbbnjmjeeiglcaaGreatDoor
namespace Rows

/-- THE TIED CARD OF 'veillaw11.SigmaOneOfTwo'. -/
def sigmaOneOfTwoCard : Claim7 := { stood := { row := sigmaOneOfTwoRow, standIns := [], harness := (true, "fe925eae516b157f7d7922aadab720b26fecfdaf46bae8bed967d97fe8b9cb6d"), looks := true }, kinds := [], alts := [], goes := true, laidByText := true, laidKinds := [.data], laidTests := true, laidLooks := .later }
def SigmaOneOfTwoCardSaid : Prop := Claim7.holds Tryz.pinned (.plain (OpenSpec.ofChange sigmaOneOfTwoSpec)) sigmaOneOfTwoCard

/-- THE SECOND FORM's CARD OF 'veillaw11.SigmaOneOfTwo'. -/
def sigmaOneOfTwoUptoCard : Claim7 := { stood := { row := sigmaOneOfTwoUptoRow, standIns := [], harness := (true, "fe925eae516b157f7d7922aadab720b26fecfdaf46bae8bed967d97fe8b9cb6d"), looks := true }, kinds := [], alts := [], goes := true, laidByText := true, laidKinds := [.data], laidTests := true, laidLooks := .later }
def SigmaOneOfTwoUptoCardSaid : Prop := Claim7.holds Tryz.pinned (.plain (OpenSpec.upto sigmaOneOfTwoSpec)) sigmaOneOfTwoUptoCard
end Rows
end Go.Proofs.YtbbnjmjeeiglcaaGreatDoor
