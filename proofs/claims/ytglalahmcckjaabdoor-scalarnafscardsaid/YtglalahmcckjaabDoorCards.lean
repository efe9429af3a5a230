/-
  DERIVED. GIVEN WITH THE SEED: THE CARDS: each row of YtglalahmcckjaabDoorRows.lean that lists a variable, with what it lists TIED to the program's text (the seventh form; the later family's looks); each row that meets fmt, with fmt's text TOLD by the authors' own Lean function (tested against real Go, not proved from fmt's source: count such statements apart). THE CARD IS WHAT COUNTS. Prove the row's statement (the work); the ties are given (YtglalahmcckjaabDoorTie.lean); close each card by the builder's one call (the guide's Derived/Test/ToyasCard.lean, 'card_holds'). Laid BY PROGRAM, IN A SANDBOX (cutbox-door.mjs). By AI agents, Wed Nov 11 2026. No macro, syntax, notation, axiom, sorry.
-/
import Derived.Test.YtglalahmcckjaabDoorRows
import GoSem.ClaimSeven
namespace Go.Proofs.YtglalahmcckjaabDoor
namespace Rows

/-- THE TIED CARD OF 'veillaw02.ScalarNafs'. -/
def scalarNafsCard : Claim7 := { stood := { row := scalarNafsRow, standIns := [], harness := (true, "01478f76e672677d67707a937e2f73230202bc31b387b20b383daf7dc7d824d8"), looks := false }, kinds := [], alts := [], laidByText := true, laidKinds := [.data], laidTests := true, laidLooks := .later }
def ScalarNafsCardSaid : Prop := Claim7.holds Tryd.pinned (.plain (OpenSpec.ofChange scalarNafsSpec)) scalarNafsCard

/-- THE TIED CARD OF 'veillaw02.ScalarSees'. -/
def scalarSeesCard : Claim7 := { stood := { row := scalarSeesRow, standIns := [], harness := (true, "01478f76e672677d67707a937e2f73230202bc31b387b20b383daf7dc7d824d8"), looks := false }, kinds := [], alts := [], laidByText := true, laidKinds := [.data], laidTests := true, laidLooks := .later }
def ScalarSeesCardSaid : Prop := Claim7.holds Tryd.pinned (.plain (OpenSpec.ofChange scalarSeesSpec)) scalarSeesCard

/-- THE TIED CARD OF 'veillaw02.ScalarTapes'. -/
def scalarTapesCard : Claim7 := { stood := { row := scalarTapesRow, standIns := [], harness := (true, "01478f76e672677d67707a937e2f73230202bc31b387b20b383daf7dc7d824d8"), looks := false }, kinds := [], alts := [], laidByText := true, laidKinds := [.data], laidTests := true, laidLooks := .later }
def ScalarTapesCardSaid : Prop := Claim7.holds Tryd.pinned (.plain (OpenSpec.ofChange scalarTapesSpec)) scalarTapesCard

/-- THE TIED CARD OF 'veillaw02.ScalarAny'. -/
def scalarAnyCard : Claim7 := { stood := { row := scalarAnyRow, standIns := [], harness := (true, "01478f76e672677d67707a937e2f73230202bc31b387b20b383daf7dc7d824d8"), looks := false }, kinds := [], alts := [], laidByText := true, laidKinds := [.data], laidTests := true, laidLooks := .later }
def ScalarAnyCardSaid : Prop := Claim7.holds Tryd.pinned (.plain (OpenSpec.ofChange scalarAnySpec)) scalarAnyCard

/-- THE TIED CARD OF 'veillaw02.ScalarRing'. -/
def scalarRingCard : Claim7 := { stood := { row := scalarRingRow, standIns := [], harness := (true, "01478f76e672677d67707a937e2f73230202bc31b387b20b383daf7dc7d824d8"), looks := false }, kinds := [], alts := [], laidByText := true, laidKinds := [.data], laidTests := true, laidLooks := .later }
def ScalarRingCardSaid : Prop := Claim7.holds Tryd.pinned (.plain (OpenSpec.ofChange scalarRingSpec)) scalarRingCard

/-- THE TIED CARD OF 'veillaw02.ScalarPowers'. -/
def scalarPowersCard : Claim7 := { stood := { row := scalarPowersRow, standIns := [], harness := (true, "01478f76e672677d67707a937e2f73230202bc31b387b20b383daf7dc7d824d8"), looks := false }, kinds := [], alts := [], laidByText := true, laidKinds := [.data], laidTests := true, laidLooks := .later }
def ScalarPowersCardSaid : Prop := Claim7.holds Tryd.pinned (.plain (OpenSpec.ofChange scalarPowersSpec)) scalarPowersCard

/-- THE SECOND FORM's CARD OF 'veillaw02.ScalarNafs'. -/
def scalarNafsUptoCard : Claim7 := { stood := { row := scalarNafsUptoRow, standIns := [], harness := (true, "01478f76e672677d67707a937e2f73230202bc31b387b20b383daf7dc7d824d8"), looks := false }, kinds := [], alts := [], laidByText := true, laidKinds := [.data], laidTests := true, laidLooks := .later }
def ScalarNafsUptoCardSaid : Prop := Claim7.holds Tryd.pinned (.plain (OpenSpec.upto scalarNafsSpec)) scalarNafsUptoCard

/-- THE SECOND FORM's CARD OF 'veillaw02.ScalarSees'. -/
def scalarSeesUptoCard : Claim7 := { stood := { row := scalarSeesUptoRow, standIns := [], harness := (true, "01478f76e672677d67707a937e2f73230202bc31b387b20b383daf7dc7d824d8"), looks := false }, kinds := [], alts := [], laidByText := true, laidKinds := [.data], laidTests := true, laidLooks := .later }
def ScalarSeesUptoCardSaid : Prop := Claim7.holds Tryd.pinned (.plain (OpenSpec.upto scalarSeesSpec)) scalarSeesUptoCard

/-- THE SECOND FORM's CARD OF 'veillaw02.ScalarTapes'. -/
def scalarTapesUptoCard : Claim7 := { stood := { row := scalarTapesUptoRow, standIns := [], harness := (true, "01478f76e672677d67707a937e2f73230202bc31b387b20b383daf7dc7d824d8"), looks := false }, kinds := [], alts := [], laidByText := true, laidKinds := [.data], laidTests := true, laidLooks := .later }
def ScalarTapesUptoCardSaid : Prop := Claim7.holds Tryd.pinned (.plain (OpenSpec.upto scalarTapesSpec)) scalarTapesUptoCard

/-- THE SECOND FORM's CARD OF 'veillaw02.ScalarAny'. -/
def scalarAnyUptoCard : Claim7 := { stood := { row := scalarAnyUptoRow, standIns := [], harness := (true, "01478f76e672677d67707a937e2f73230202bc31b387b20b383daf7dc7d824d8"), looks := false }, kinds := [], alts := [], laidByText := true, laidKinds := [.data], laidTests := true, laidLooks := .later }
def ScalarAnyUptoCardSaid : Prop := Claim7.holds Tryd.pinned (.plain (OpenSpec.upto scalarAnySpec)) scalarAnyUptoCard

/-- THE SECOND FORM's CARD OF 'veillaw02.ScalarRing'. -/
def scalarRingUptoCard : Claim7 := { stood := { row := scalarRingUptoRow, standIns := [], harness := (true, "01478f76e672677d67707a937e2f73230202bc31b387b20b383daf7dc7d824d8"), looks := false }, kinds := [], alts := [], laidByText := true, laidKinds := [.data], laidTests := true, laidLooks := .later }
def ScalarRingUptoCardSaid : Prop := Claim7.holds Tryd.pinned (.plain (OpenSpec.upto scalarRingSpec)) scalarRingUptoCard

/-- THE SECOND FORM's CARD OF 'veillaw02.ScalarPowers'. -/
def scalarPowersUptoCard : Claim7 := { stood := { row := scalarPowersUptoRow, standIns := [], harness := (true, "01478f76e672677d67707a937e2f73230202bc31b387b20b383daf7dc7d824d8"), looks := false }, kinds := [], alts := [], laidByText := true, laidKinds := [.data], laidTests := true, laidLooks := .later }
def ScalarPowersUptoCardSaid : Prop := Claim7.holds Tryd.pinned (.plain (OpenSpec.upto scalarPowersSpec)) scalarPowersUptoCard
end Rows
end Go.Proofs.YtglalahmcckjaabDoor
