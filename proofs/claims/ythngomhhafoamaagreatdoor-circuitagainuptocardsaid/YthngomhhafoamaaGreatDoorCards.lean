/-
  DERIVED. GIVEN WITH THE SEED: THE CARDS: each row of YthngomhhafoamaaGreatDoorRows.lean that lists a variable, with what it lists TIED to the program's text (the seventh form; the later family's looks); each row that meets fmt, with fmt's text TOLD by the authors' own Lean function (tested against real Go, not proved from fmt's source: count such statements apart). THE CARD IS WHAT COUNTS. Prove the row's statement (the work); the ties are given (YthngomhhafoamaaGreatDoorTie.lean); close each card by the builder's one call (the guide's Derived/Test/ToyasCard.lean, 'card_holds'). Laid BY PROGRAM, IN A SANDBOX (cutbox-door.mjs). By AI agents, Wed Nov 11 2026. No macro, syntax, notation, axiom, sorry.
-/
import Derived.Test.YthngomhhafoamaaGreatDoorRows
import GoSem.ClaimSeven
namespace Go.Proofs.YthngomhhafoamaaGreatDoor
namespace Rows

/-- THE TIED CARD OF 'veillaw19.CircuitAgain'. -/
def circuitAgainCard : Claim7 := { stood := { row := circuitAgainRow, standIns := [], harness := (true, "541b3237e85ec214bba7a1714f922927010015976763d5e06476589739b7c666"), looks := false }, kinds := [], alts := [], laidByText := true, laidKinds := [.data], laidTests := true, laidLooks := .later }
def CircuitAgainCardSaid : Prop := Claim7.holds Tryz.pinned (.plain (OpenSpec.ofChange circuitAgainSpec)) circuitAgainCard

/-- THE SECOND FORM's CARD OF 'veillaw19.CircuitAgain'. -/
def circuitAgainUptoCard : Claim7 := { stood := { row := circuitAgainUptoRow, standIns := [], harness := (true, "541b3237e85ec214bba7a1714f922927010015976763d5e06476589739b7c666"), looks := false }, kinds := [], alts := [], laidByText := true, laidKinds := [.data], laidTests := true, laidLooks := .later }
def CircuitAgainUptoCardSaid : Prop := Claim7.holds Tryz.pinned (.plain (OpenSpec.upto circuitAgainSpec)) circuitAgainUptoCard
end Rows
end Go.Proofs.YthngomhhafoamaaGreatDoor
