/-
  DERIVED. GIVEN WITH THE SEED: THE CARDS: each row of YtghcfcglakbkeaaGreatDoorRows.lean that lists a variable, with what it lists TIED to the program's text (the seventh form; the later family's looks); each row that meets fmt, with fmt's text TOLD by the authors' own Lean function (tested against real Go, not proved from fmt's source: count such statements apart). THE CARD IS WHAT COUNTS. Prove the row's statement (the work); the ties are given (YtghcfcglakbkeaaGreatDoorTie.lean); close each card by the builder's one call (the guide's Derived/Test/ToyasCard.lean, 'card_holds'). Laid BY PROGRAM, IN A SANDBOX (cutbox-door.mjs). By AI agents, Wed Nov 11 2026. No macro, syntax, notation, axiom, sorry.
-/
import Derived.Test.YtghcfcglakbkeaaGreatDoorRows
import GoSem.ClaimSeven
namespace Go.Proofs.YtghcfcglakbkeaaGreatDoor
namespace Rows

/-- THE TIED CARD OF 'veillaw19.CircuitBuilds'. -/
def circuitBuildsCard : Claim7 := { stood := { row := circuitBuildsRow, standIns := [], harness := (true, "9f8e61e5bc49f88ea03a86d6cb25e400aaaf5793780bcde7fbb0d126341a48e2"), looks := false }, kinds := [], alts := [], laidByText := true, laidKinds := [.data, .data], laidTests := true, laidLooks := .later }
def CircuitBuildsCardSaid : Prop := Claim7.holds Tryz.pinned (.plain (OpenSpec.ofChange circuitBuildsSpec)) circuitBuildsCard

/-- THE TIED CARD OF 'veillaw19.CircuitNumbers'. -/
def circuitNumbersCard : Claim7 := { stood := { row := circuitNumbersRow, standIns := [], harness := (true, "9f8e61e5bc49f88ea03a86d6cb25e400aaaf5793780bcde7fbb0d126341a48e2"), looks := false }, kinds := [], alts := [], laidByText := true, laidKinds := [.data, .data], laidTests := true, laidLooks := .later }
def CircuitNumbersCardSaid : Prop := Claim7.holds Tryz.pinned (.plain (OpenSpec.ofChange circuitNumbersSpec)) circuitNumbersCard

/-- THE TIED CARD OF 'veillaw19.CircuitBytes'. -/
def circuitBytesCard : Claim7 := { stood := { row := circuitBytesRow, standIns := [], harness := (true, "9f8e61e5bc49f88ea03a86d6cb25e400aaaf5793780bcde7fbb0d126341a48e2"), looks := false }, kinds := [], alts := [], laidByText := true, laidKinds := [.data, .data], laidTests := true, laidLooks := .later }
def CircuitBytesCardSaid : Prop := Claim7.holds Tryz.pinned (.plain (OpenSpec.ofChange circuitBytesSpec)) circuitBytesCard

/-- THE SECOND FORM's CARD OF 'veillaw19.CircuitBuilds'. -/
def circuitBuildsUptoCard : Claim7 := { stood := { row := circuitBuildsUptoRow, standIns := [], harness := (true, "9f8e61e5bc49f88ea03a86d6cb25e400aaaf5793780bcde7fbb0d126341a48e2"), looks := false }, kinds := [], alts := [], laidByText := true, laidKinds := [.data, .data], laidTests := true, laidLooks := .later }
def CircuitBuildsUptoCardSaid : Prop := Claim7.holds Tryz.pinned (.plain (OpenSpec.upto circuitBuildsSpec)) circuitBuildsUptoCard

/-- THE SECOND FORM's CARD OF 'veillaw19.CircuitNumbers'. -/
def circuitNumbersUptoCard : Claim7 := { stood := { row := circuitNumbersUptoRow, standIns := [], harness := (true, "9f8e61e5bc49f88ea03a86d6cb25e400aaaf5793780bcde7fbb0d126341a48e2"), looks := false }, kinds := [], alts := [], laidByText := true, laidKinds := [.data, .data], laidTests := true, laidLooks := .later }
def CircuitNumbersUptoCardSaid : Prop := Claim7.holds Tryz.pinned (.plain (OpenSpec.upto circuitNumbersSpec)) circuitNumbersUptoCard

/-- THE SECOND FORM's CARD OF 'veillaw19.CircuitBytes'. -/
def circuitBytesUptoCard : Claim7 := { stood := { row := circuitBytesUptoRow, standIns := [], harness := (true, "9f8e61e5bc49f88ea03a86d6cb25e400aaaf5793780bcde7fbb0d126341a48e2"), looks := false }, kinds := [], alts := [], laidByText := true, laidKinds := [.data, .data], laidTests := true, laidLooks := .later }
def CircuitBytesUptoCardSaid : Prop := Claim7.holds Tryz.pinned (.plain (OpenSpec.upto circuitBytesSpec)) circuitBytesUptoCard
end Rows
end Go.Proofs.YtghcfcglakbkeaaGreatDoor
