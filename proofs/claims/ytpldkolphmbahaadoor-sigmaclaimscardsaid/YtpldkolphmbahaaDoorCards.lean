/-
  DERIVED. GIVEN WITH THE SEED: THE CARDS: each row of YtpldkolphmbahaaDoorRows.lean that lists a variable, with what it lists TIED to the program's text (the seventh form; the later family's looks); each row that meets fmt, with fmt's text TOLD by the authors' own Lean function (tested against real Go, not proved from fmt's source: count such statements apart). THE CARD IS WHAT COUNTS. Prove the row's statement (the work); the ties are given (YtpldkolphmbahaaDoorTie.lean); close each card by the builder's one call (the guide's Derived/Test/ToyasCard.lean, 'card_holds'). Laid BY PROGRAM, IN A SANDBOX (cutbox-door.mjs). By AI agents, Wed Nov 11 2026. No macro, syntax, notation, axiom, sorry.
-/
import Derived.Test.YtpldkolphmbahaaDoorRows
import GoSem.ClaimSeven
namespace Go.Proofs.YtpldkolphmbahaaDoor
namespace Rows

/-- THE TIED CARD OF 'veillaw11.SigmaClaims'. -/
def sigmaClaimsCard : Claim7 := { stood := { row := sigmaClaimsRow, standIns := [], harness := (true, "c3eb980a400059a1ac84153af9f7e7cd59ed8d8f964374ed167bf1485717775e"), looks := false }, kinds := [], alts := [], laidByText := true, laidKinds := [.data], laidTests := true, laidLooks := .later }
def SigmaClaimsCardSaid : Prop := Claim7.holds Tryd.pinned (.plain (OpenSpec.ofChange sigmaClaimsSpec)) sigmaClaimsCard

/-- THE SECOND FORM's CARD OF 'veillaw11.SigmaClaims'. -/
def sigmaClaimsUptoCard : Claim7 := { stood := { row := sigmaClaimsUptoRow, standIns := [], harness := (true, "c3eb980a400059a1ac84153af9f7e7cd59ed8d8f964374ed167bf1485717775e"), looks := false }, kinds := [], alts := [], laidByText := true, laidKinds := [.data], laidTests := true, laidLooks := .later }
def SigmaClaimsUptoCardSaid : Prop := Claim7.holds Tryd.pinned (.plain (OpenSpec.upto sigmaClaimsSpec)) sigmaClaimsUptoCard
end Rows
end Go.Proofs.YtpldkolphmbahaaDoor
