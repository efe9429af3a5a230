/-
  DERIVED. GIVEN WITH THE SEED: THE CARDS: each row of YtimjfndaleccaaaDoorRows.lean that lists a variable, with what it lists TIED to the program's text (the seventh form; the later family's looks); each row that meets fmt, with fmt's text TOLD by the authors' own Lean function (tested against real Go, not proved from fmt's source: count such statements apart). THE CARD IS WHAT COUNTS. Prove the row's statement (the work); the ties are given (YtimjfndaleccaaaDoorTie.lean); close each card by the builder's one call (the guide's Derived/Test/ToyasCard.lean, 'card_holds'). Laid BY PROGRAM, IN A SANDBOX (cutbox-door.mjs). By AI agents, Wed Nov 11 2026. No macro, syntax, notation, axiom, sorry.
-/
import Derived.Test.YtimjfndaleccaaaDoorRows
import GoSem.ClaimSeven
namespace Go.Proofs.YtimjfndaleccaaaDoor
namespace Rows

/-- THE TIED CARD OF 'veillaw19.CircuitFlat'. -/
def circuitFlatCard : Claim7 := { stood := { row := circuitFlatRow, standIns := [], harness := (true, "c03c142fa22be6d628f1cc9b55cf8f460140bcd80d1fe3b8872f7cfd9369f217"), looks := false }, kinds := [], alts := [], laidByText := true, laidKinds := [.data], laidTests := true, laidLooks := .later }
def CircuitFlatCardSaid : Prop := Claim7.holds Tryd.pinned (.plain (OpenSpec.ofChange circuitFlatSpec)) circuitFlatCard

/-- THE SECOND FORM's CARD OF 'veillaw19.CircuitFlat'. -/
def circuitFlatUptoCard : Claim7 := { stood := { row := circuitFlatUptoRow, standIns := [], harness := (true, "c03c142fa22be6d628f1cc9b55cf8f460140bcd80d1fe3b8872f7cfd9369f217"), looks := false }, kinds := [], alts := [], laidByText := true, laidKinds := [.data], laidTests := true, laidLooks := .later }
def CircuitFlatUptoCardSaid : Prop := Claim7.holds Tryd.pinned (.plain (OpenSpec.upto circuitFlatSpec)) circuitFlatUptoCard
end Rows
end Go.Proofs.YtimjfndaleccaaaDoor
