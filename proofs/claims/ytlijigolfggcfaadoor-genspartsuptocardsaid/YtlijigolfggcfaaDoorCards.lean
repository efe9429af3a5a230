/-
  DERIVED. GIVEN WITH THE SEED: THE CARDS: each row of YtlijigolfggcfaaDoorRows.lean that lists a variable, with what it lists TIED to the program's text (the seventh form; the later family's looks); each row that meets fmt, with fmt's text TOLD by the authors' own Lean function (tested against real Go, not proved from fmt's source: count such statements apart). THE CARD IS WHAT COUNTS. Prove the row's statement (the work); the ties are given (YtlijigolfggcfaaDoorTie.lean); close each card by the builder's one call (the guide's Derived/Test/ToyasCard.lean, 'card_holds'). Laid BY PROGRAM, IN A SANDBOX (cutbox-door.mjs). By AI agents, Wed Nov 11 2026. No macro, syntax, notation, axiom, sorry.
-/
import Derived.Test.YtlijigolfggcfaaDoorRows
import GoSem.ClaimSeven
namespace Go.Proofs.YtlijigolfggcfaaDoor
namespace Rows

/-- THE TIED CARD OF 'veillaw09.GensParts'. -/
def gensPartsCard : Claim7 := { stood := { row := gensPartsRow, standIns := [], harness := (true, "9feb8268d50eb42a94a0ef61946e22acd115580518a1a10deedf2baa130b8f19"), looks := false }, kinds := [], alts := [], laidByText := true, laidKinds := [.data], laidTests := true, laidLooks := .later }
def GensPartsCardSaid : Prop := Claim7.holds Tryd.pinned (.plain (OpenSpec.ofChange gensPartsSpec)) gensPartsCard

/-- THE SECOND FORM's CARD OF 'veillaw09.GensParts'. -/
def gensPartsUptoCard : Claim7 := { stood := { row := gensPartsUptoRow, standIns := [], harness := (true, "9feb8268d50eb42a94a0ef61946e22acd115580518a1a10deedf2baa130b8f19"), looks := false }, kinds := [], alts := [], laidByText := true, laidKinds := [.data], laidTests := true, laidLooks := .later }
def GensPartsUptoCardSaid : Prop := Claim7.holds Tryd.pinned (.plain (OpenSpec.upto gensPartsSpec)) gensPartsUptoCard
end Rows
end Go.Proofs.YtlijigolfggcfaaDoor
