/-
  DERIVED. GIVEN WITH THE SEED: THE CARDS: each row of YtcenphihmggfkaaDoorRows.lean that lists a variable, with what it lists TIED to the program's text (the seventh form; the later family's looks); each row that meets fmt, with fmt's text TOLD by the authors' own Lean function (tested against real Go, not proved from fmt's source: count such statements apart). THE CARD IS WHAT COUNTS. Prove the row's statement (the work); the ties are given (YtcenphihmggfkaaDoorTie.lean); close each card by the builder's one call (the guide's Derived/Test/ToyasCard.lean, 'card_holds'). Laid BY PROGRAM, IN A SANDBOX (cutbox-door.mjs). By AI agents, Wed Nov 11 2026. No macro, syntax, notation, axiom, sorry.
-/
import Derived.Test.YtcenphihmggfkaaDoorRows
import GoSem.ClaimSeven
namespace Go.Proofs.YtcenphihmggfkaaDoor
namespace Rows

/-- THE TIED CARD OF 'veillaw02.ScalarTapes'. -/
def scalarTapesCard : Claim7 := { stood := { row := scalarTapesRow, standIns := [], harness := (true, "cf48151c5eae76ab504ac1a62b59da80e0bd7d091019ecb0fb77217a0b6e4b42"), looks := false }, kinds := [], alts := [], laidByText := true, laidKinds := [.data], laidTests := true, laidLooks := .later }
def ScalarTapesCardSaid : Prop := Claim7.holds Tryd.pinned (.plain (OpenSpec.ofChange scalarTapesSpec)) scalarTapesCard

/-- THE TIED CARD OF 'veillaw02.ScalarInverts'. -/
def scalarInvertsCard : Claim7 := { stood := { row := scalarInvertsRow, standIns := [], harness := (true, "cf48151c5eae76ab504ac1a62b59da80e0bd7d091019ecb0fb77217a0b6e4b42"), looks := false }, kinds := [], alts := [], laidByText := true, laidKinds := [.data], laidTests := true, laidLooks := .later }
def ScalarInvertsCardSaid : Prop := Claim7.holds Tryd.pinned (.plain (OpenSpec.ofChange scalarInvertsSpec)) scalarInvertsCard

/-- THE SECOND FORM's CARD OF 'veillaw02.ScalarTapes'. -/
def scalarTapesUptoCard : Claim7 := { stood := { row := scalarTapesUptoRow, standIns := [], harness := (true, "cf48151c5eae76ab504ac1a62b59da80e0bd7d091019ecb0fb77217a0b6e4b42"), looks := false }, kinds := [], alts := [], laidByText := true, laidKinds := [.data], laidTests := true, laidLooks := .later }
def ScalarTapesUptoCardSaid : Prop := Claim7.holds Tryd.pinned (.plain (OpenSpec.upto scalarTapesSpec)) scalarTapesUptoCard

/-- THE SECOND FORM's CARD OF 'veillaw02.ScalarInverts'. -/
def scalarInvertsUptoCard : Claim7 := { stood := { row := scalarInvertsUptoRow, standIns := [], harness := (true, "cf48151c5eae76ab504ac1a62b59da80e0bd7d091019ecb0fb77217a0b6e4b42"), looks := false }, kinds := [], alts := [], laidByText := true, laidKinds := [.data], laidTests := true, laidLooks := .later }
def ScalarInvertsUptoCardSaid : Prop := Claim7.holds Tryd.pinned (.plain (OpenSpec.upto scalarInvertsSpec)) scalarInvertsUptoCard
end Rows
end Go.Proofs.YtcenphihmggfkaaDoor
