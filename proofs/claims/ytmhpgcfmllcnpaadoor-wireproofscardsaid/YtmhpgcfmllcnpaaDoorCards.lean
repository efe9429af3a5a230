/-
  DERIVED. GIVEN WITH THE SEED: THE CARDS: each row of YtmhpgcfmllcnpaaDoorRows.lean that lists a variable, with what it lists TIED to the program's text (the seventh form; the later family's looks); each row that meets fmt, with fmt's text TOLD by the authors' own Lean function (tested against real Go, not proved from fmt's source: count such statements apart). THE CARD IS WHAT COUNTS. Prove the row's statement (the work); the ties are given (YtmhpgcfmllcnpaaDoorTie.lean); close each card by the builder's one call (the guide's Derived/Test/ToyasCard.lean, 'card_holds'). Laid BY PROGRAM, IN A SANDBOX (cutbox-door.mjs). By AI agents, Wed Nov 11 2026. No macro, syntax, notation, axiom, sorry.
-/
import Derived.Test.YtmhpgcfmllcnpaaDoorRows
import GoSem.ClaimSeven
namespace Go.Proofs.YtmhpgcfmllcnpaaDoor
namespace Rows

/-- THE TIED CARD OF 'veillaw10.WireProofs'. -/
def wireProofsCard : Claim7 := { stood := { row := wireProofsRow, standIns := [], harness := (true, "b435a74237e6b7186775a3e60642c13921ab57e1d6d031b80c092a432aba765c"), looks := false }, kinds := [], alts := [], laidByText := true, laidKinds := [.data], laidTests := true, laidLooks := .later }
def WireProofsCardSaid : Prop := Claim7.holds Tryd.pinned (.plain (OpenSpec.ofChange wireProofsSpec)) wireProofsCard

/-- THE SECOND FORM's CARD OF 'veillaw10.WireProofs'. -/
def wireProofsUptoCard : Claim7 := { stood := { row := wireProofsUptoRow, standIns := [], harness := (true, "b435a74237e6b7186775a3e60642c13921ab57e1d6d031b80c092a432aba765c"), looks := false }, kinds := [], alts := [], laidByText := true, laidKinds := [.data], laidTests := true, laidLooks := .later }
def WireProofsUptoCardSaid : Prop := Claim7.holds Tryd.pinned (.plain (OpenSpec.upto wireProofsSpec)) wireProofsUptoCard
end Rows
end Go.Proofs.YtmhpgcfmllcnpaaDoor
