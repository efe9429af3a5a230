/-
  DERIVED. GIVEN WITH THE SEED: THE CARDS: each row of YtnbcfchbhappeaaDoorRows.lean that lists a variable, with what it lists TIED to the program's text (the seventh form; the later family's looks); each row that meets fmt, with fmt's text TOLD by the authors' own Lean function (tested against real Go, not proved from fmt's source: count such statements apart). THE CARD IS WHAT COUNTS. Prove the row's statement (the work); the ties are given (YtnbcfchbhappeaaDoorTie.lean); close each card by the builder's one call (the guide's Derived/Test/ToyasCard.lean, 'card_holds'). Laid BY PROGRAM, IN A SANDBOX (cutbox-door.mjs). By AI agents, Wed Nov 11 2026. No macro, syntax, notation, axiom, sorry.
-/
import Derived.Test.YtnbcfchbhappeaaDoorRows
import GoSem.ClaimSeven
namespace Go.Proofs.YtnbcfchbhappeaaDoor
namespace Rows

/-- THE TIED CARD OF 'veillaw06.AlgebraBoth'. -/
def algebraBothCard : Claim7 := { stood := { row := algebraBothRow, standIns := [], harness := (true, "cfeb730a7ca6195a7dfac34bbe38a1e0f85ccd8222508b12055ed0196f5bf784"), looks := false }, kinds := [], alts := [], laidByText := true, laidKinds := [.data], laidTests := true, laidLooks := .later }
def AlgebraBothCardSaid : Prop := Claim7.holds Tryd.pinned (.plain (OpenSpec.ofChange algebraBothSpec)) algebraBothCard

/-- THE SECOND FORM's CARD OF 'veillaw06.AlgebraBoth'. -/
def algebraBothUptoCard : Claim7 := { stood := { row := algebraBothUptoRow, standIns := [], harness := (true, "cfeb730a7ca6195a7dfac34bbe38a1e0f85ccd8222508b12055ed0196f5bf784"), looks := false }, kinds := [], alts := [], laidByText := true, laidKinds := [.data], laidTests := true, laidLooks := .later }
def AlgebraBothUptoCardSaid : Prop := Claim7.holds Tryd.pinned (.plain (OpenSpec.upto algebraBothSpec)) algebraBothUptoCard
end Rows
end Go.Proofs.YtnbcfchbhappeaaDoor
