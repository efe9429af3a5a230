/-
  DERIVED. GIVEN WITH THE SEED: THE CARDS: each row of YtffehcilckfoeaaDoorRows.lean that lists a variable, with what it lists TIED to the program's text (the seventh form; the later family's looks); each row that meets fmt, with fmt's text TOLD by the authors' own Lean function (tested against real Go, not proved from fmt's source: count such statements apart). THE CARD IS WHAT COUNTS. Prove the row's statement (the work); the ties are given (YtffehcilckfoeaaDoorTie.lean); close each card by the builder's one call (the guide's Derived/Test/ToyasCard.lean, 'card_holds'). Laid BY PROGRAM, IN A SANDBOX (cutbox-door.mjs). By AI agents, Wed Nov 11 2026. No macro, syntax, notation, axiom, sorry.
-/
import Derived.Test.YtffehcilckfoeaaDoorRows
import GoSem.ClaimSeven
namespace Go.Proofs.YtffehcilckfoeaaDoor
namespace Rows

/-- THE TIED CARD OF 'veillaw07.MsmZips'. -/
def msmZipsCard : Claim7 := { stood := { row := msmZipsRow, standIns := [], harness := (true, "a33a1f54f5cb71770b9e6388a6574b2c1c9fd65c2920eb978c6f26cc84902c16"), looks := false }, kinds := [], alts := [], laidByText := true, laidKinds := [.data], laidTests := true, laidLooks := .later }
def MsmZipsCardSaid : Prop := Claim7.holds Tryd.pinned (.plain (OpenSpec.ofChange msmZipsSpec)) msmZipsCard

/-- THE SECOND FORM's CARD OF 'veillaw07.MsmZips'. -/
def msmZipsUptoCard : Claim7 := { stood := { row := msmZipsUptoRow, standIns := [], harness := (true, "a33a1f54f5cb71770b9e6388a6574b2c1c9fd65c2920eb978c6f26cc84902c16"), looks := false }, kinds := [], alts := [], laidByText := true, laidKinds := [.data], laidTests := true, laidLooks := .later }
def MsmZipsUptoCardSaid : Prop := Claim7.holds Tryd.pinned (.plain (OpenSpec.upto msmZipsSpec)) msmZipsUptoCard
end Rows
end Go.Proofs.YtffehcilckfoeaaDoor
