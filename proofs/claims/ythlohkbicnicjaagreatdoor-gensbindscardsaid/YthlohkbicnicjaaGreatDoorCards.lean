/-
  DERIVED. GIVEN WITH THE SEED: THE CARDS: each row of YthlohkbicnicjaaGreatDoorRows.lean that lists a variable, with what it lists TIED to the program's text (the seventh form; the later family's looks); each row that meets fmt, with fmt's text TOLD by the authors' own Lean function (tested against real Go, not proved from fmt's source: count such statements apart). THE CARD IS WHAT COUNTS. Prove the row's statement (the work); the ties are given (YthlohkbicnicjaaGreatDoorTie.lean); close each card by the builder's one call (the guide's Derived/Test/ToyasCard.lean, 'card_holds'). Laid BY PROGRAM, IN A SANDBOX (cutbox-door.mjs). By AI agents, Wed Nov 11 2026. No macro, syntax, notation, axiom, sorry.
-/
import Derived.Test.YthlohkbicnicjaaGreatDoorRows
import GoSem.ClaimSeven
namespace Go.Proofs.YthlohkbicnicjaaGreatDoor
namespace Rows

/-- THE TIED CARD OF 'veillaw09.GensBinds'. -/
def gensBindsCard : Claim7 := { stood := { row := gensBindsRow, standIns := [], harness := (true, "cbdbcdb8da79532145254a056a2a21d7dcef698c6275e4e422cfdc9f662657d7"), looks := false }, kinds := [], alts := [], goes := true, laidByText := true, laidKinds := [.data], laidTests := true, laidLooks := .later }
def GensBindsCardSaid : Prop := Claim7.holds Tryz.pinned (.plain (OpenSpec.ofChange gensBindsSpec)) gensBindsCard

/-- THE SECOND FORM's CARD OF 'veillaw09.GensBinds'. -/
def gensBindsUptoCard : Claim7 := { stood := { row := gensBindsUptoRow, standIns := [], harness := (true, "cbdbcdb8da79532145254a056a2a21d7dcef698c6275e4e422cfdc9f662657d7"), looks := false }, kinds := [], alts := [], goes := true, laidByText := true, laidKinds := [.data], laidTests := true, laidLooks := .later }
def GensBindsUptoCardSaid : Prop := Claim7.holds Tryz.pinned (.plain (OpenSpec.upto gensBindsSpec)) gensBindsUptoCard
end Rows
end Go.Proofs.YthlohkbicnicjaaGreatDoor
