/-
  DERIVED. GIVEN WITH THE SEED: THE CARDS: each row of YtaendjjelpmokaaDoorRows.lean that lists a variable, with what it lists TIED to the program's text (the seventh form; the later family's looks); each row that meets fmt, with fmt's text TOLD by the authors' own Lean function (tested against real Go, not proved from fmt's source: count such statements apart). THE CARD IS WHAT COUNTS. Prove the row's statement (the work); the ties are given (YtaendjjelpmokaaDoorTie.lean); close each card by the builder's one call (the guide's Derived/Test/ToyasCard.lean, 'card_holds'). Laid BY PROGRAM, IN A SANDBOX (cutbox-door.mjs). By AI agents, Wed Nov 11 2026. No macro, syntax, notation, axiom, sorry.
-/
import Derived.Test.YtaendjjelpmokaaDoorRows
import GoSem.ClaimSeven
namespace Go.Proofs.YtaendjjelpmokaaDoor
namespace Rows

/-- THE TIED CARD OF 'veillaw19.CircuitLinear'. -/
def circuitLinearCard : Claim7 := { stood := { row := circuitLinearRow, standIns := [], harness := (true, "1f1406c008a87574016574548f88880aaeff01cf40aa2eb04580bedb06234816"), looks := false }, kinds := [], alts := [], laidByText := true, laidKinds := [.data], laidTests := true, laidLooks := .later }
def CircuitLinearCardSaid : Prop := Claim7.holds Tryd.pinned (.plain (OpenSpec.ofChange circuitLinearSpec)) circuitLinearCard

/-- THE SECOND FORM's CARD OF 'veillaw19.CircuitLinear'. -/
def circuitLinearUptoCard : Claim7 := { stood := { row := circuitLinearUptoRow, standIns := [], harness := (true, "1f1406c008a87574016574548f88880aaeff01cf40aa2eb04580bedb06234816"), looks := false }, kinds := [], alts := [], laidByText := true, laidKinds := [.data], laidTests := true, laidLooks := .later }
def CircuitLinearUptoCardSaid : Prop := Claim7.holds Tryd.pinned (.plain (OpenSpec.upto circuitLinearSpec)) circuitLinearUptoCard
end Rows
end Go.Proofs.YtaendjjelpmokaaDoor
