/-
  DERIVED. GIVEN WITH THE SEED: THE CARDS: each row of YtpblcnefihhhoaaDoorRows.lean that lists a variable, with what it lists TIED to the program's text (the seventh form; the later family's looks); each row that meets fmt, with fmt's text TOLD by the authors' own Lean function (tested against real Go, not proved from fmt's source: count such statements apart). THE CARD IS WHAT COUNTS. Prove the row's statement (the work); the ties are given (YtpblcnefihhhoaaDoorTie.lean); close each card by the builder's one call (the guide's Derived/Test/ToyasCard.lean, 'card_holds'). Laid BY PROGRAM, IN A SANDBOX (cutbox-door.mjs). By AI agents, Wed Nov 11 2026. No macro, syntax, notation, axiom, sorry.
-/
import Derived.Test.YtpblcnefihhhoaaDoorRows
import GoSem.ClaimSeven
namespace Go.Proofs.YtpblcnefihhhoaaDoor
namespace Rows

/-- THE TIED CARD OF 'veillaw13.RangesTape'. -/
def rangesTapeCard : Claim7 := { stood := { row := rangesTapeRow, standIns := [], harness := (true, "5edef66bd1e775a4bf94a19fd6904d90f82a9eadeaf9e624aede9bba818b9672"), looks := true }, kinds := [], alts := [], laidByText := true, laidKinds := [.data], laidTests := true, laidLooks := .later }
def RangesTapeCardSaid : Prop := Claim7.holds Tryd.pinned (.plain (OpenSpec.ofChange rangesTapeSpec)) rangesTapeCard

/-- THE SECOND FORM's CARD OF 'veillaw13.RangesTape'. -/
def rangesTapeUptoCard : Claim7 := { stood := { row := rangesTapeUptoRow, standIns := [], harness := (true, "5edef66bd1e775a4bf94a19fd6904d90f82a9eadeaf9e624aede9bba818b9672"), looks := true }, kinds := [], alts := [], laidByText := true, laidKinds := [.data], laidTests := true, laidLooks := .later }
def RangesTapeUptoCardSaid : Prop := Claim7.holds Tryd.pinned (.plain (OpenSpec.upto rangesTapeSpec)) rangesTapeUptoCard
end Rows
end Go.Proofs.YtpblcnefihhhoaaDoor
