/-
  DERIVED. GIVEN WITH THE SEED: THE CARDS: each row of YtnbhkhhghhfjoaaDoorRows.lean that lists a variable, with what it lists TIED to the program's text (the seventh form; the later family's looks); each row that meets fmt, with fmt's text TOLD by the authors' own Lean function (tested against real Go, not proved from fmt's source: count such statements apart). THE CARD IS WHAT COUNTS. Prove the row's statement (the work); the ties are given (YtnbhkhhghhfjoaaDoorTie.lean); close each card by the builder's one call (the guide's Derived/Test/ToyasCard.lean, 'card_holds'). Laid BY PROGRAM, IN A SANDBOX (cutbox-door.mjs). By AI agents, Wed Nov 11 2026. No macro, syntax, notation, axiom, sorry.
-/
import Derived.Test.YtnbhkhhghhfjoaaDoorRows
import GoSem.ClaimSeven
namespace Go.Proofs.YtnbhkhhghhfjoaaDoor
namespace Rows

/-- THE TIED CARD OF 'veillaw19.CircuitFull'. -/
def circuitFullCard : Claim7 := { stood := { row := circuitFullRow, standIns := [], harness := (true, "3b6881272db69a9b73864e681c7f046001f8b7e5530576c0f14a7d8d002db889"), looks := false }, kinds := [], alts := [], laidByText := true, laidKinds := [.data], laidTests := true, laidLooks := .later }
def CircuitFullCardSaid : Prop := Claim7.holds Tryd.pinned (.plain (OpenSpec.ofChange circuitFullSpec)) circuitFullCard

/-- THE SECOND FORM's CARD OF 'veillaw19.CircuitFull'. -/
def circuitFullUptoCard : Claim7 := { stood := { row := circuitFullUptoRow, standIns := [], harness := (true, "3b6881272db69a9b73864e681c7f046001f8b7e5530576c0f14a7d8d002db889"), looks := false }, kinds := [], alts := [], laidByText := true, laidKinds := [.data], laidTests := true, laidLooks := .later }
def CircuitFullUptoCardSaid : Prop := Claim7.holds Tryd.pinned (.plain (OpenSpec.upto circuitFullSpec)) circuitFullUptoCard
end Rows
end Go.Proofs.YtnbhkhhghhfjoaaDoor
