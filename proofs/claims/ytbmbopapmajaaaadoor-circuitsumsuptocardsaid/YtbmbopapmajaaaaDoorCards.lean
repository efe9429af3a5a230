/-
  DERIVED. GIVEN WITH THE SEED: THE CARDS: each row of YtbmbopapmajaaaaDoorRows.lean that lists a variable, with what it lists TIED to the program's text (the seventh form; the later family's looks); each row that meets fmt, with fmt's text TOLD by the authors' own Lean function (tested against real Go, not proved from fmt's source: count such statements apart). THE CARD IS WHAT COUNTS. Prove the row's statement (the work); the ties are given (YtbmbopapmajaaaaDoorTie.lean); close each card by the builder's one call (the guide's Derived/Test/ToyasCard.lean, 'card_holds'). Laid BY PROGRAM, IN A SANDBOX (cutbox-door.mjs). By AI agents, Wed Nov 11 2026. No macro, syntax, notation, axiom, sorry.
-/
import Derived.Test.YtbmbopapmajaaaaDoorRows
import GoSem.ClaimSeven
namespace Go.Proofs.YtbmbopapmajaaaaDoor
namespace Rows

/-- THE TIED CARD OF 'veillaw19.CircuitSums'. -/
def circuitSumsCard : Claim7 := { stood := { row := circuitSumsRow, standIns := [], harness := (true, "e40f0b43858abead814bce7446197a0221bfa1c077af441f284630ca1091c914"), looks := false }, kinds := [], alts := [], laidByText := true, laidKinds := [.data, .data], laidTests := true, laidLooks := .later }
def CircuitSumsCardSaid : Prop := Claim7.holds Tryd.pinned (.plain (OpenSpec.ofChange circuitSumsSpec)) circuitSumsCard

/-- THE SECOND FORM's CARD OF 'veillaw19.CircuitSums'. -/
def circuitSumsUptoCard : Claim7 := { stood := { row := circuitSumsUptoRow, standIns := [], harness := (true, "e40f0b43858abead814bce7446197a0221bfa1c077af441f284630ca1091c914"), looks := false }, kinds := [], alts := [], laidByText := true, laidKinds := [.data, .data], laidTests := true, laidLooks := .later }
def CircuitSumsUptoCardSaid : Prop := Claim7.holds Tryd.pinned (.plain (OpenSpec.upto circuitSumsSpec)) circuitSumsUptoCard
end Rows
end Go.Proofs.YtbmbopapmajaaaaDoor
