/-
  DERIVED. GIVEN WITH THE SEED: THE CARDS: each row of YtagfneojcgcigaaDoorRows.lean that lists a variable, with what it lists TIED to the program's text (the seventh form; the later family's looks); each row that meets fmt, with fmt's text TOLD by the authors' own Lean function (tested against real Go, not proved from fmt's source: count such statements apart). THE CARD IS WHAT COUNTS. Prove the row's statement (the work); the ties are given (YtagfneojcgcigaaDoorTie.lean); close each card by the builder's one call (the guide's Derived/Test/ToyasCard.lean, 'card_holds'). Laid BY PROGRAM, IN A SANDBOX (cutbox-door.mjs). By AI agents, Wed Nov 11 2026. No macro, syntax, notation, axiom, sorry.
-/
import Derived.Test.YtagfneojcgcigaaDoorRows
import GoSem.ClaimSeven
namespace Go.Proofs.YtagfneojcgcigaaDoor
namespace Rows

/-- THE TIED CARD OF 'veillaw08.TranscriptGiven'. -/
def transcriptGivenCard : Claim7 := { stood := { row := transcriptGivenRow, standIns := [], harness := (true, "726a3959e72bbc11411cc047da7e6ce82108cc1930867c8ce85483b70493b7e2"), looks := false }, kinds := [], alts := [], laidByText := true, laidKinds := [.data], laidTests := true, laidLooks := .later }
def TranscriptGivenCardSaid : Prop := Claim7.holds Tryd.pinned (.plain (OpenSpec.ofChange transcriptGivenSpec)) transcriptGivenCard

/-- THE SECOND FORM's CARD OF 'veillaw08.TranscriptGiven'. -/
def transcriptGivenUptoCard : Claim7 := { stood := { row := transcriptGivenUptoRow, standIns := [], harness := (true, "726a3959e72bbc11411cc047da7e6ce82108cc1930867c8ce85483b70493b7e2"), looks := false }, kinds := [], alts := [], laidByText := true, laidKinds := [.data], laidTests := true, laidLooks := .later }
def TranscriptGivenUptoCardSaid : Prop := Claim7.holds Tryd.pinned (.plain (OpenSpec.upto transcriptGivenSpec)) transcriptGivenUptoCard
end Rows
end Go.Proofs.YtagfneojcgcigaaDoor
