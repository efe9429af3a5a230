/-
  DERIVED. GIVEN WITH THE SEED: THE CARDS: each row of YtglalahmcckjaaaDoorRows.lean that lists a variable, with what it lists TIED to the program's text (the seventh form; the later family's looks); each row that meets fmt, with fmt's text TOLD by the authors' own Lean function (tested against real Go, not proved from fmt's source: count such statements apart). THE CARD IS WHAT COUNTS. Prove the row's statement (the work); the ties are given (YtglalahmcckjaaaDoorTie.lean); close each card by the builder's one call (the guide's Derived/Test/ToyasCard.lean, 'card_holds'). Laid BY PROGRAM, IN A SANDBOX (cutbox-door.mjs). By AI agents, Wed Nov 11 2026. No macro, syntax, notation, axiom, sorry.
-/
import Derived.Test.YtglalahmcckjaaaDoorRows
import GoSem.ClaimSeven
namespace Go.Proofs.YtglalahmcckjaaaDoor
namespace Rows

/-- THE TIED CARD OF 'veillaw02.ScalarFermat'. -/
def scalarFermatCard : Claim7 := { stood := { row := scalarFermatRow, standIns := [], harness := (true, "f20deebc5ee1d697ff4e8d258fe0a8e1c0ebc6831fc40068f2d5adee57116e9d"), looks := false }, kinds := [], alts := [], laidByText := true, laidKinds := [.data], laidTests := true, laidLooks := .later }
def ScalarFermatCardSaid : Prop := Claim7.holds Tryd.pinned (.plain (OpenSpec.ofChange scalarFermatSpec)) scalarFermatCard

/-- THE TIED CARD OF 'veillaw02.ScalarField'. -/
def scalarFieldCard : Claim7 := { stood := { row := scalarFieldRow, standIns := [], harness := (true, "f20deebc5ee1d697ff4e8d258fe0a8e1c0ebc6831fc40068f2d5adee57116e9d"), looks := false }, kinds := [], alts := [], laidByText := true, laidKinds := [.data], laidTests := true, laidLooks := .later }
def ScalarFieldCardSaid : Prop := Claim7.holds Tryd.pinned (.plain (OpenSpec.ofChange scalarFieldSpec)) scalarFieldCard

/-- THE TIED CARD OF 'veillaw02.ScalarOneCode'. -/
def scalarOneCodeCard : Claim7 := { stood := { row := scalarOneCodeRow, standIns := [], harness := (true, "f20deebc5ee1d697ff4e8d258fe0a8e1c0ebc6831fc40068f2d5adee57116e9d"), looks := false }, kinds := [], alts := [], laidByText := true, laidKinds := [.data], laidTests := true, laidLooks := .later }
def ScalarOneCodeCardSaid : Prop := Claim7.holds Tryd.pinned (.plain (OpenSpec.ofChange scalarOneCodeSpec)) scalarOneCodeCard

/-- THE TIED CARD OF 'veillaw02.ScalarWhole'. -/
def scalarWholeCard : Claim7 := { stood := { row := scalarWholeRow, standIns := [], harness := (true, "f20deebc5ee1d697ff4e8d258fe0a8e1c0ebc6831fc40068f2d5adee57116e9d"), looks := false }, kinds := [], alts := [], laidByText := true, laidKinds := [.data], laidTests := true, laidLooks := .later }
def ScalarWholeCardSaid : Prop := Claim7.holds Tryd.pinned (.plain (OpenSpec.ofChange scalarWholeSpec)) scalarWholeCard

/-- THE TIED CARD OF 'veillaw02.ScalarSpelled'. -/
def scalarSpelledCard : Claim7 := { stood := { row := scalarSpelledRow, standIns := [], harness := (true, "f20deebc5ee1d697ff4e8d258fe0a8e1c0ebc6831fc40068f2d5adee57116e9d"), looks := false }, kinds := [], alts := [], laidByText := true, laidKinds := [.data], laidTests := true, laidLooks := .later }
def ScalarSpelledCardSaid : Prop := Claim7.holds Tryd.pinned (.plain (OpenSpec.ofChange scalarSpelledSpec)) scalarSpelledCard

/-- THE TIED CARD OF 'veillaw02.ScalarDigits'. -/
def scalarDigitsCard : Claim7 := { stood := { row := scalarDigitsRow, standIns := [], harness := (true, "f20deebc5ee1d697ff4e8d258fe0a8e1c0ebc6831fc40068f2d5adee57116e9d"), looks := false }, kinds := [], alts := [], laidByText := true, laidKinds := [.data], laidTests := true, laidLooks := .later }
def ScalarDigitsCardSaid : Prop := Claim7.holds Tryd.pinned (.plain (OpenSpec.ofChange scalarDigitsSpec)) scalarDigitsCard

/-- THE SECOND FORM's CARD OF 'veillaw02.ScalarFermat'. -/
def scalarFermatUptoCard : Claim7 := { stood := { row := scalarFermatUptoRow, standIns := [], harness := (true, "f20deebc5ee1d697ff4e8d258fe0a8e1c0ebc6831fc40068f2d5adee57116e9d"), looks := false }, kinds := [], alts := [], laidByText := true, laidKinds := [.data], laidTests := true, laidLooks := .later }
def ScalarFermatUptoCardSaid : Prop := Claim7.holds Tryd.pinned (.plain (OpenSpec.upto scalarFermatSpec)) scalarFermatUptoCard

/-- THE SECOND FORM's CARD OF 'veillaw02.ScalarField'. -/
def scalarFieldUptoCard : Claim7 := { stood := { row := scalarFieldUptoRow, standIns := [], harness := (true, "f20deebc5ee1d697ff4e8d258fe0a8e1c0ebc6831fc40068f2d5adee57116e9d"), looks := false }, kinds := [], alts := [], laidByText := true, laidKinds := [.data], laidTests := true, laidLooks := .later }
def ScalarFieldUptoCardSaid : Prop := Claim7.holds Tryd.pinned (.plain (OpenSpec.upto scalarFieldSpec)) scalarFieldUptoCard

/-- THE SECOND FORM's CARD OF 'veillaw02.ScalarOneCode'. -/
def scalarOneCodeUptoCard : Claim7 := { stood := { row := scalarOneCodeUptoRow, standIns := [], harness := (true, "f20deebc5ee1d697ff4e8d258fe0a8e1c0ebc6831fc40068f2d5adee57116e9d"), looks := false }, kinds := [], alts := [], laidByText := true, laidKinds := [.data], laidTests := true, laidLooks := .later }
def ScalarOneCodeUptoCardSaid : Prop := Claim7.holds Tryd.pinned (.plain (OpenSpec.upto scalarOneCodeSpec)) scalarOneCodeUptoCard

/-- THE SECOND FORM's CARD OF 'veillaw02.ScalarWhole'. -/
def scalarWholeUptoCard : Claim7 := { stood := { row := scalarWholeUptoRow, standIns := [], harness := (true, "f20deebc5ee1d697ff4e8d258fe0a8e1c0ebc6831fc40068f2d5adee57116e9d"), looks := false }, kinds := [], alts := [], laidByText := true, laidKinds := [.data], laidTests := true, laidLooks := .later }
def ScalarWholeUptoCardSaid : Prop := Claim7.holds Tryd.pinned (.plain (OpenSpec.upto scalarWholeSpec)) scalarWholeUptoCard

/-- THE SECOND FORM's CARD OF 'veillaw02.ScalarSpelled'. -/
def scalarSpelledUptoCard : Claim7 := { stood := { row := scalarSpelledUptoRow, standIns := [], harness := (true, "f20deebc5ee1d697ff4e8d258fe0a8e1c0ebc6831fc40068f2d5adee57116e9d"), looks := false }, kinds := [], alts := [], laidByText := true, laidKinds := [.data], laidTests := true, laidLooks := .later }
def ScalarSpelledUptoCardSaid : Prop := Claim7.holds Tryd.pinned (.plain (OpenSpec.upto scalarSpelledSpec)) scalarSpelledUptoCard

/-- THE SECOND FORM's CARD OF 'veillaw02.ScalarDigits'. -/
def scalarDigitsUptoCard : Claim7 := { stood := { row := scalarDigitsUptoRow, standIns := [], harness := (true, "f20deebc5ee1d697ff4e8d258fe0a8e1c0ebc6831fc40068f2d5adee57116e9d"), looks := false }, kinds := [], alts := [], laidByText := true, laidKinds := [.data], laidTests := true, laidLooks := .later }
def ScalarDigitsUptoCardSaid : Prop := Claim7.holds Tryd.pinned (.plain (OpenSpec.upto scalarDigitsSpec)) scalarDigitsUptoCard
end Rows
end Go.Proofs.YtglalahmcckjaaaDoor
