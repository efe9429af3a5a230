/-
  DERIVED. GIVEN WITH THE SEED: THE CARDS: each row of YtnkaolobcglmlaaGreatDoorRows.lean that lists a variable, with what it lists TIED to the program's text (the seventh form; the later family's looks); each row that meets fmt, with fmt's text TOLD by the authors' own Lean function (tested against real Go, not proved from fmt's source: count such statements apart). THE CARD IS WHAT COUNTS. Prove the row's statement (the work); the ties are given (YtnkaolobcglmlaaGreatDoorTie.lean); close each card by the builder's one call (the guide's Derived/Test/ToyasCard.lean, 'card_holds'). Laid BY PROGRAM, IN A SANDBOX (cutbox-door.mjs). By AI agents, Wed Nov 11 2026. No macro, syntax, notation, axiom, sorry.
-/
import Derived.Test.YtnkaolobcglmlaaGreatDoorRows
import GoSem.ClaimSeven
namespace Go.Proofs.YtnkaolobcglmlaaGreatDoor
namespace Rows

/-- THE TIED CARD OF 'veillaw22.WitnessLeaves'. -/
def witnessLeavesCard : Claim7 := { stood := { row := witnessLeavesRow, standIns := [], harness := (true, "f25f3d3aea48abd5ceeb70b118949a37bf73e89c46d8fe521a32384312cedbe2"), looks := false }, kinds := [], alts := [], laidByText := true, laidKinds := [.data], laidTests := true, laidLooks := .later }
def WitnessLeavesCardSaid : Prop := Claim7.holds Tryz.pinned (.plain (OpenSpec.ofChange witnessLeavesSpec)) witnessLeavesCard

/-- THE SECOND FORM's CARD OF 'veillaw22.WitnessLeaves'. -/
def witnessLeavesUptoCard : Claim7 := { stood := { row := witnessLeavesUptoRow, standIns := [], harness := (true, "f25f3d3aea48abd5ceeb70b118949a37bf73e89c46d8fe521a32384312cedbe2"), looks := false }, kinds := [], alts := [], laidByText := true, laidKinds := [.data], laidTests := true, laidLooks := .later }
def WitnessLeavesUptoCardSaid : Prop := Claim7.holds Tryz.pinned (.plain (OpenSpec.upto witnessLeavesSpec)) witnessLeavesUptoCard
end Rows
end Go.Proofs.YtnkaolobcglmlaaGreatDoor
