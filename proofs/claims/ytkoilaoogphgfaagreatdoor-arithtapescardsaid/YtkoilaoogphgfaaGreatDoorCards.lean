/-
  DERIVED. GIVEN WITH THE SEED: THE CARDS: each row of YtkoilaoogphgfaaGreatDoorRows.lean that lists a variable, with what it lists TIED to the program's text (the seventh form; the later family's looks); each row that meets fmt, with fmt's text TOLD by the authors' own Lean function (tested against real Go, not proved from fmt's source: count such statements apart). THE CARD IS WHAT COUNTS. Prove the row's statement (the work); the ties are given (YtkoilaoogphgfaaGreatDoorTie.lean); close each card by the builder's one call (the guide's Derived/Test/ToyasCard.lean, 'card_holds'). Laid BY PROGRAM, IN A SANDBOX (cutbox-door.mjs). By AI agents, Wed Nov 11 2026. No macro, syntax, notation, axiom, sorry.
-/
import Derived.Test.YtkoilaoogphgfaaGreatDoorRows
import GoSem.ClaimSeven
namespace Go.Proofs.YtkoilaoogphgfaaGreatDoor
namespace Rows

/-- THE TIED CARD OF 'veillaw21.ArithTapes'. -/
def arithTapesCard : Claim7 := { stood := { row := arithTapesRow, standIns := [], harness := (true, "6dde0a214b7e2295620e5aa8f99ec0b5b41e6ace0820668c57eb8ca304898628"), looks := false }, kinds := [], alts := [], laidByText := true, laidKinds := [.data], laidTests := true, laidLooks := .later }
def ArithTapesCardSaid : Prop := Claim7.holds Tryz.pinned (.plain (OpenSpec.ofChange arithTapesSpec)) arithTapesCard

/-- THE SECOND FORM's CARD OF 'veillaw21.ArithTapes'. -/
def arithTapesUptoCard : Claim7 := { stood := { row := arithTapesUptoRow, standIns := [], harness := (true, "6dde0a214b7e2295620e5aa8f99ec0b5b41e6ace0820668c57eb8ca304898628"), looks := false }, kinds := [], alts := [], laidByText := true, laidKinds := [.data], laidTests := true, laidLooks := .later }
def ArithTapesUptoCardSaid : Prop := Claim7.holds Tryz.pinned (.plain (OpenSpec.upto arithTapesSpec)) arithTapesUptoCard
end Rows
end Go.Proofs.YtkoilaoogphgfaaGreatDoor
