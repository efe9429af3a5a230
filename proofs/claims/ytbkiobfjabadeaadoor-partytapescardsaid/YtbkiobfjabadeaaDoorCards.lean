/-
  DERIVED. GIVEN WITH THE SEED: THE CARDS: each row of YtbkiobfjabadeaaDoorRows.lean that lists a variable, with what it lists TIED to the program's text (the seventh form; the later family's looks); each row that meets fmt, with fmt's text TOLD by the authors' own Lean function (tested against real Go, not proved from fmt's source: count such statements apart). THE CARD IS WHAT COUNTS. Prove the row's statement (the work); the ties are given (YtbkiobfjabadeaaDoorTie.lean); close each card by the builder's one call (the guide's Derived/Test/ToyasCard.lean, 'card_holds'). Laid BY PROGRAM, IN A SANDBOX (cutbox-door.mjs). By AI agents, Wed Nov 11 2026. No macro, syntax, notation, axiom, sorry.
-/
import Derived.Test.YtbkiobfjabadeaaDoorRows
import GoSem.ClaimSeven
namespace Go.Proofs.YtbkiobfjabadeaaDoor
namespace Rows

/-- THE TIED CARD OF 'veillaw14.PartyTapes'. -/
def partyTapesCard : Claim7 := { stood := { row := partyTapesRow, standIns := [], harness := (true, "e0995822702c630710a0c0f176df828ce5cc6b91554fc4d60068e3c2db11d8c2"), looks := false }, kinds := [], alts := [], laidByText := true, laidKinds := [.data], laidTests := true, laidLooks := .later }
def PartyTapesCardSaid : Prop := Claim7.holds Tryd.pinned (.plain (OpenSpec.ofChange partyTapesSpec)) partyTapesCard

/-- THE SECOND FORM's CARD OF 'veillaw14.PartyTapes'. -/
def partyTapesUptoCard : Claim7 := { stood := { row := partyTapesUptoRow, standIns := [], harness := (true, "e0995822702c630710a0c0f176df828ce5cc6b91554fc4d60068e3c2db11d8c2"), looks := false }, kinds := [], alts := [], laidByText := true, laidKinds := [.data], laidTests := true, laidLooks := .later }
def PartyTapesUptoCardSaid : Prop := Claim7.holds Tryd.pinned (.plain (OpenSpec.upto partyTapesSpec)) partyTapesUptoCard
end Rows
end Go.Proofs.YtbkiobfjabadeaaDoor
