/-
  DERIVED. GIVEN WITH THE SEED: THE CARDS: each row of YtaejedhdpilhjaaDoorRows.lean that lists a variable, with what it lists TIED to the program's text (the seventh form; the later family's looks); each row that meets fmt, with fmt's text TOLD by the authors' own Lean function (tested against real Go, not proved from fmt's source: count such statements apart). THE CARD IS WHAT COUNTS. Prove the row's statement (the work); the ties are given (YtaejedhdpilhjaaDoorTie.lean); close each card by the builder's one call (the guide's Derived/Test/ToyasCard.lean, 'card_holds'). Laid BY PROGRAM, IN A SANDBOX (cutbox-door.mjs). By AI agents, Wed Nov 11 2026. No macro, syntax, notation, axiom, sorry.
-/
import Derived.Test.YtaejedhdpilhjaaDoorRows
import GoSem.ClaimSeven
namespace Go.Proofs.YtaejedhdpilhjaaDoor
namespace Rows

/-- THE TIED CARD OF 'veillaw12.IpaFolds'. -/
def ipaFoldsCard : Claim7 := { stood := { row := ipaFoldsRow, standIns := [], harness := (true, "a9261125a2577c503d6ffe91e6ae11e52751fed3582ccaa789e48a69f3a53602"), looks := false }, kinds := [], alts := [], laidByText := true, laidKinds := [.data], laidTests := true, laidLooks := .later }
def IpaFoldsCardSaid : Prop := Claim7.holds Tryd.pinned (.plain (OpenSpec.ofChange ipaFoldsSpec)) ipaFoldsCard

/-- THE SECOND FORM's CARD OF 'veillaw12.IpaFolds'. -/
def ipaFoldsUptoCard : Claim7 := { stood := { row := ipaFoldsUptoRow, standIns := [], harness := (true, "a9261125a2577c503d6ffe91e6ae11e52751fed3582ccaa789e48a69f3a53602"), looks := false }, kinds := [], alts := [], laidByText := true, laidKinds := [.data], laidTests := true, laidLooks := .later }
def IpaFoldsUptoCardSaid : Prop := Claim7.holds Tryd.pinned (.plain (OpenSpec.upto ipaFoldsSpec)) ipaFoldsUptoCard
end Rows
end Go.Proofs.YtaejedhdpilhjaaDoor
