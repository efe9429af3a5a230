/-
  DERIVED. GIVEN WITH THE SEED: THE CARDS: each row of YtljmgfclhbadjaaGreatDoorRows.lean that lists a variable, with what it lists TIED to the program's text (the seventh form; the later family's looks); each row that meets fmt, with fmt's text TOLD by the authors' own Lean function (tested against real Go, not proved from fmt's source: count such statements apart). THE CARD IS WHAT COUNTS. Prove the row's statement (the work); the ties are given (YtljmgfclhbadjaaGreatDoorTie.lean); close each card by the builder's one call (the guide's Derived/Test/ToyasCard.lean, 'card_holds'). Laid BY PROGRAM, IN A SANDBOX (cutbox-door.mjs). By AI agents, Wed Nov 11 2026. No macro, syntax, notation, axiom, sorry.
-/
import Derived.Test.YtljmgfclhbadjaaGreatDoorRows
import GoSem.ClaimSeven
namespace Go.Proofs.YtljmgfclhbadjaaGreatDoor
namespace Rows

/-- THE TIED CARD OF 'veillaw20.GadgetShuffles'. -/
def gadgetShufflesCard : Claim7 := { stood := { row := gadgetShufflesRow, standIns := [], harness := (true, "51f668a5f5038f397617d9b2472ce7e3b5f2c3634b4c7d3f7651d7ddcb244003"), looks := false }, kinds := [], alts := [], laidByText := true, laidKinds := [.data], laidTests := true, laidLooks := .later }
def GadgetShufflesCardSaid : Prop := Claim7.holds Tryz.pinned (.plain (OpenSpec.ofChange gadgetShufflesSpec)) gadgetShufflesCard

/-- THE TIED CARD OF 'veillaw20.GadgetOwn'. -/
def gadgetOwnCard : Claim7 := { stood := { row := gadgetOwnRow, standIns := [], harness := (true, "51f668a5f5038f397617d9b2472ce7e3b5f2c3634b4c7d3f7651d7ddcb244003"), looks := false }, kinds := [], alts := [], laidByText := true, laidKinds := [.data, .data], laidTests := true, laidLooks := .later }
def GadgetOwnCardSaid : Prop := Claim7.holds Tryz.pinned (.plain (OpenSpec.ofChange gadgetOwnSpec)) gadgetOwnCard

/-- THE TIED CARD OF 'veillaw20.GadgetSound'. -/
def gadgetSoundCard : Claim7 := { stood := { row := gadgetSoundRow, standIns := [], harness := (true, "51f668a5f5038f397617d9b2472ce7e3b5f2c3634b4c7d3f7651d7ddcb244003"), looks := false }, kinds := [], alts := [], laidByText := true, laidKinds := [.data, .data], laidTests := true, laidLooks := .later }
def GadgetSoundCardSaid : Prop := Claim7.holds Tryz.pinned (.plain (OpenSpec.ofChange gadgetSoundSpec)) gadgetSoundCard

/-- THE TIED CARD OF 'veillaw20.GadgetHolds'. -/
def gadgetHoldsCard : Claim7 := { stood := { row := gadgetHoldsRow, standIns := [], harness := (true, "51f668a5f5038f397617d9b2472ce7e3b5f2c3634b4c7d3f7651d7ddcb244003"), looks := false }, kinds := [], alts := [], laidByText := true, laidKinds := [.data, .data], laidTests := true, laidLooks := .later }
def GadgetHoldsCardSaid : Prop := Claim7.holds Tryz.pinned (.plain (OpenSpec.ofChange gadgetHoldsSpec)) gadgetHoldsCard

/-- THE TIED CARD OF 'veillaw20.GadgetPlays'. -/
def gadgetPlaysCard : Claim7 := { stood := { row := gadgetPlaysRow, standIns := [], harness := (true, "51f668a5f5038f397617d9b2472ce7e3b5f2c3634b4c7d3f7651d7ddcb244003"), looks := false }, kinds := [], alts := [], laidByText := true, laidKinds := [.data, .data], laidTests := true, laidLooks := .later }
def GadgetPlaysCardSaid : Prop := Claim7.holds Tryz.pinned (.plain (OpenSpec.ofChange gadgetPlaysSpec)) gadgetPlaysCard

/-- THE TIED CARD OF 'veillaw20.GadgetBlind'. -/
def gadgetBlindCard : Claim7 := { stood := { row := gadgetBlindRow, standIns := [], harness := (true, "51f668a5f5038f397617d9b2472ce7e3b5f2c3634b4c7d3f7651d7ddcb244003"), looks := false }, kinds := [], alts := [], laidByText := true, laidKinds := [.data, .data], laidTests := true, laidLooks := .later }
def GadgetBlindCardSaid : Prop := Claim7.holds Tryz.pinned (.plain (OpenSpec.ofChange gadgetBlindSpec)) gadgetBlindCard

/-- THE SECOND FORM's CARD OF 'veillaw20.GadgetShuffles'. -/
def gadgetShufflesUptoCard : Claim7 := { stood := { row := gadgetShufflesUptoRow, standIns := [], harness := (true, "51f668a5f5038f397617d9b2472ce7e3b5f2c3634b4c7d3f7651d7ddcb244003"), looks := false }, kinds := [], alts := [], laidByText := true, laidKinds := [.data], laidTests := true, laidLooks := .later }
def GadgetShufflesUptoCardSaid : Prop := Claim7.holds Tryz.pinned (.plain (OpenSpec.upto gadgetShufflesSpec)) gadgetShufflesUptoCard

/-- THE SECOND FORM's CARD OF 'veillaw20.GadgetOwn'. -/
def gadgetOwnUptoCard : Claim7 := { stood := { row := gadgetOwnUptoRow, standIns := [], harness := (true, "51f668a5f5038f397617d9b2472ce7e3b5f2c3634b4c7d3f7651d7ddcb244003"), looks := false }, kinds := [], alts := [], laidByText := true, laidKinds := [.data, .data], laidTests := true, laidLooks := .later }
def GadgetOwnUptoCardSaid : Prop := Claim7.holds Tryz.pinned (.plain (OpenSpec.upto gadgetOwnSpec)) gadgetOwnUptoCard

/-- THE SECOND FORM's CARD OF 'veillaw20.GadgetSound'. -/
def gadgetSoundUptoCard : Claim7 := { stood := { row := gadgetSoundUptoRow, standIns := [], harness := (true, "51f668a5f5038f397617d9b2472ce7e3b5f2c3634b4c7d3f7651d7ddcb244003"), looks := false }, kinds := [], alts := [], laidByText := true, laidKinds := [.data, .data], laidTests := true, laidLooks := .later }
def GadgetSoundUptoCardSaid : Prop := Claim7.holds Tryz.pinned (.plain (OpenSpec.upto gadgetSoundSpec)) gadgetSoundUptoCard

/-- THE SECOND FORM's CARD OF 'veillaw20.GadgetHolds'. -/
def gadgetHoldsUptoCard : Claim7 := { stood := { row := gadgetHoldsUptoRow, standIns := [], harness := (true, "51f668a5f5038f397617d9b2472ce7e3b5f2c3634b4c7d3f7651d7ddcb244003"), looks := false }, kinds := [], alts := [], laidByText := true, laidKinds := [.data, .data], laidTests := true, laidLooks := .later }
def GadgetHoldsUptoCardSaid : Prop := Claim7.holds Tryz.pinned (.plain (OpenSpec.upto gadgetHoldsSpec)) gadgetHoldsUptoCard

/-- THE SECOND FORM's CARD OF 'veillaw20.GadgetPlays'. -/
def gadgetPlaysUptoCard : Claim7 := { stood := { row := gadgetPlaysUptoRow, standIns := [], harness := (true, "51f668a5f5038f397617d9b2472ce7e3b5f2c3634b4c7d3f7651d7ddcb244003"), looks := false }, kinds := [], alts := [], laidByText := true, laidKinds := [.data, .data], laidTests := true, laidLooks := .later }
def GadgetPlaysUptoCardSaid : Prop := Claim7.holds Tryz.pinned (.plain (OpenSpec.upto gadgetPlaysSpec)) gadgetPlaysUptoCard

/-- THE SECOND FORM's CARD OF 'veillaw20.GadgetBlind'. -/
def gadgetBlindUptoCard : Claim7 := { stood := { row := gadgetBlindUptoRow, standIns := [], harness := (true, "51f668a5f5038f397617d9b2472ce7e3b5f2c3634b4c7d3f7651d7ddcb244003"), looks := false }, kinds := [], alts := [], laidByText := true, laidKinds := [.data, .data], laidTests := true, laidLooks := .later }
def GadgetBlindUptoCardSaid : Prop := Claim7.holds Tryz.pinned (.plain (OpenSpec.upto gadgetBlindSpec)) gadgetBlindUptoCard
end Rows
end Go.Proofs.YtljmgfclhbadjaaGreatDoor
