/-
  DERIVED. GIVEN WITH THE SEED: THE CARDS: each row of YtebegeedaehndacDoorRows.lean that lists a variable, with what it lists TIED to the program's text (the seventh form; the later family's looks); each row that meets fmt, with fmt's text TOLD by the authors' own Lean function (tested against real Go, not proved from fmt's source: count such statements apart). THE CARD IS WHAT COUNTS. Prove the row's statement (the work); the ties are given (YtebegeedaehndacDoorTie.lean); close each card by the builder's one call (the guide's Derived/Test/ToyasCard.lean, 'card_holds'). Laid BY PROGRAM, IN A SANDBOX (cutbox-door.mjs). By AI agents, Wed Nov 11 2026. No macro, syntax, notation, axiom, sorry.
-/
import Derived.Test.YtebegeedaehndacDoorRows
import GoSem.ClaimSeven
namespace Go.Proofs.YtebegeedaehndacDoor
namespace Rows

/-- THE TIED CARD OF 'veillaw02.ScalarCodec'. -/
def scalarCodecCard : Claim7 := { stood := { row := scalarCodecRow, standIns := [], harness := (true, "01dbc9020608f2912c570e9d1a79abc197a33a427969a403d3c0c346be9f2eef"), looks := false }, kinds := [], alts := [], laidByText := true, laidKinds := [.data], laidTests := true, laidLooks := .later }
def ScalarCodecCardSaid : Prop := Claim7.holds Tryd.pinned (.plain (OpenSpec.ofChange scalarCodecSpec)) scalarCodecCard

/-- THE TIED CARD OF 'veillaw02.ScalarInverts'. -/
def scalarInvertsCard : Claim7 := { stood := { row := scalarInvertsRow, standIns := [], harness := (true, "01dbc9020608f2912c570e9d1a79abc197a33a427969a403d3c0c346be9f2eef"), looks := false }, kinds := [], alts := [], laidByText := true, laidKinds := [.data], laidTests := true, laidLooks := .later }
def ScalarInvertsCardSaid : Prop := Claim7.holds Tryd.pinned (.plain (OpenSpec.ofChange scalarInvertsSpec)) scalarInvertsCard

/-- THE SECOND FORM's CARD OF 'veillaw02.ScalarCodec'. -/
def scalarCodecUptoCard : Claim7 := { stood := { row := scalarCodecUptoRow, standIns := [], harness := (true, "01dbc9020608f2912c570e9d1a79abc197a33a427969a403d3c0c346be9f2eef"), looks := false }, kinds := [], alts := [], laidByText := true, laidKinds := [.data], laidTests := true, laidLooks := .later }
def ScalarCodecUptoCardSaid : Prop := Claim7.holds Tryd.pinned (.plain (OpenSpec.upto scalarCodecSpec)) scalarCodecUptoCard

/-- THE SECOND FORM's CARD OF 'veillaw02.ScalarInverts'. -/
def scalarInvertsUptoCard : Claim7 := { stood := { row := scalarInvertsUptoRow, standIns := [], harness := (true, "01dbc9020608f2912c570e9d1a79abc197a33a427969a403d3c0c346be9f2eef"), looks := false }, kinds := [], alts := [], laidByText := true, laidKinds := [.data], laidTests := true, laidLooks := .later }
def ScalarInvertsUptoCardSaid : Prop := Claim7.holds Tryd.pinned (.plain (OpenSpec.upto scalarInvertsSpec)) scalarInvertsUptoCard
end Rows
end Go.Proofs.YtebegeedaehndacDoor
