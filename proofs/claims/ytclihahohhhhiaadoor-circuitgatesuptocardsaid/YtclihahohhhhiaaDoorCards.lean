/-
  DERIVED. GIVEN WITH THE SEED: THE CARDS: each row of YtclihahohhhhiaaDoorRows.lean that lists a variable, with what it lists TIED to the program's text (the seventh form; the later family's looks); each row that meets fmt, with fmt's text TOLD by the authors' own Lean function (tested against real Go, not proved from fmt's source: count such statements apart). THE CARD IS WHAT COUNTS. Prove the row's statement (the work); the ties are given (YtclihahohhhhiaaDoorTie.lean); close each card by the builder's one call (the guide's Derived/Test/ToyasCard.lean, 'card_holds'). Laid BY PROGRAM, IN A SANDBOX (cutbox-door.mjs). By AI agents, Wed Nov 11 2026. No macro, syntax, notation, axiom, sorry.
-/
import Derived.Test.YtclihahohhhhiaaDoorRows
import GoSem.ClaimSeven
namespace Go.Proofs.YtclihahohhhhiaaDoor
namespace Rows

/-- THE TIED CARD OF 'veillaw19.CircuitGates'. -/
def circuitGatesCard : Claim7 := { stood := { row := circuitGatesRow, standIns := [], harness := (true, "c3171193b336b69ab7d9511450cb75bb6250e882266f2e8bbb6d0e71fb74a1bc"), looks := false }, kinds := [], alts := [], laidByText := true, laidKinds := [.data], laidTests := true, laidLooks := .later }
def CircuitGatesCardSaid : Prop := Claim7.holds Tryd.pinned (.plain (OpenSpec.ofChange circuitGatesSpec)) circuitGatesCard

/-- THE SECOND FORM's CARD OF 'veillaw19.CircuitGates'. -/
def circuitGatesUptoCard : Claim7 := { stood := { row := circuitGatesUptoRow, standIns := [], harness := (true, "c3171193b336b69ab7d9511450cb75bb6250e882266f2e8bbb6d0e71fb74a1bc"), looks := false }, kinds := [], alts := [], laidByText := true, laidKinds := [.data], laidTests := true, laidLooks := .later }
def CircuitGatesUptoCardSaid : Prop := Claim7.holds Tryd.pinned (.plain (OpenSpec.upto circuitGatesSpec)) circuitGatesUptoCard
end Rows
end Go.Proofs.YtclihahohhhhiaaDoor
