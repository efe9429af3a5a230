/-
  DERIVED. GIVEN WITH THE SEED: THE CARDS: each row of YtgijodenblpbgaaDoorRows.lean that lists a variable, with what it lists TIED to the program's text (the seventh form; the later family's looks); each row that meets fmt, with fmt's text TOLD by the authors' own Lean function (tested against real Go, not proved from fmt's source: count such statements apart). THE CARD IS WHAT COUNTS. Prove the row's statement (the work); the ties are given (YtgijodenblpbgaaDoorTie.lean); close each card by the builder's one call (the guide's Derived/Test/ToyasCard.lean, 'card_holds'). Laid BY PROGRAM, IN A SANDBOX (cutbox-door.mjs). By AI agents, Wed Nov 11 2026. No macro, syntax, notation, axiom, sorry.
-/
import Derived.Test.YtgijodenblpbgaaDoorRows
import GoSem.ClaimSeven
namespace Go.Proofs.YtgijodenblpbgaaDoor
namespace Rows

/-- THE TIED CARD OF 'veillaw01.FieldBytes'. -/
def fieldBytesCard : Claim7 := { stood := { row := fieldBytesRow, standIns := [], harness := (true, "98d312e3dba58478949563a1df4384625caf500cd6c3058f7ed9fa2f0d959d32"), looks := false }, kinds := [], alts := [], laidByText := true, laidKinds := [.data], laidTests := true, laidLooks := .later }
def FieldBytesCardSaid : Prop := Claim7.holds Tryd.pinned (.plain (OpenSpec.ofChange fieldBytesSpec)) fieldBytesCard

/-- THE TIED CARD OF 'veillaw01.FieldAdds'. -/
def fieldAddsCard : Claim7 := { stood := { row := fieldAddsRow, standIns := [], harness := (true, "98d312e3dba58478949563a1df4384625caf500cd6c3058f7ed9fa2f0d959d32"), looks := false }, kinds := [], alts := [], laidByText := true, laidKinds := [.data, .data], laidTests := true, laidLooks := .later }
def FieldAddsCardSaid : Prop := Claim7.holds Tryd.pinned (.plain (OpenSpec.ofChange fieldAddsSpec)) fieldAddsCard

/-- THE TIED CARD OF 'veillaw01.FieldMuls'. -/
def fieldMulsCard : Claim7 := { stood := { row := fieldMulsRow, standIns := [], harness := (true, "98d312e3dba58478949563a1df4384625caf500cd6c3058f7ed9fa2f0d959d32"), looks := false }, kinds := [], alts := [], laidByText := true, laidKinds := [.data], laidTests := true, laidLooks := .later }
def FieldMulsCardSaid : Prop := Claim7.holds Tryd.pinned (.plain (OpenSpec.ofChange fieldMulsSpec)) fieldMulsCard

/-- THE TIED CARD OF 'veillaw01.FieldAsks'. -/
def fieldAsksCard : Claim7 := { stood := { row := fieldAsksRow, standIns := [], harness := (true, "98d312e3dba58478949563a1df4384625caf500cd6c3058f7ed9fa2f0d959d32"), looks := false }, kinds := [], alts := [], laidByText := true, laidKinds := [.data, .data], laidTests := true, laidLooks := .later }
def FieldAsksCardSaid : Prop := Claim7.holds Tryd.pinned (.plain (OpenSpec.ofChange fieldAsksSpec)) fieldAsksCard

/-- THE TIED CARD OF 'veillaw01.FieldPowers'. -/
def fieldPowersCard : Claim7 := { stood := { row := fieldPowersRow, standIns := [], harness := (true, "98d312e3dba58478949563a1df4384625caf500cd6c3058f7ed9fa2f0d959d32"), looks := false }, kinds := [], alts := [], laidByText := true, laidKinds := [.wider, .data], laidTests := true, laidLooks := .later }
def FieldPowersCardSaid : Prop := Claim7.holds Tryd.pinned (.plain (OpenSpec.ofChange fieldPowersSpec)) fieldPowersCard

/-- THE SECOND FORM's CARD OF 'veillaw01.FieldBytes'. -/
def fieldBytesUptoCard : Claim7 := { stood := { row := fieldBytesUptoRow, standIns := [], harness := (true, "98d312e3dba58478949563a1df4384625caf500cd6c3058f7ed9fa2f0d959d32"), looks := false }, kinds := [], alts := [], laidByText := true, laidKinds := [.data], laidTests := true, laidLooks := .later }
def FieldBytesUptoCardSaid : Prop := Claim7.holds Tryd.pinned (.plain (OpenSpec.upto fieldBytesSpec)) fieldBytesUptoCard

/-- THE SECOND FORM's CARD OF 'veillaw01.FieldAdds'. -/
def fieldAddsUptoCard : Claim7 := { stood := { row := fieldAddsUptoRow, standIns := [], harness := (true, "98d312e3dba58478949563a1df4384625caf500cd6c3058f7ed9fa2f0d959d32"), looks := false }, kinds := [], alts := [], laidByText := true, laidKinds := [.data, .data], laidTests := true, laidLooks := .later }
def FieldAddsUptoCardSaid : Prop := Claim7.holds Tryd.pinned (.plain (OpenSpec.upto fieldAddsSpec)) fieldAddsUptoCard

/-- THE SECOND FORM's CARD OF 'veillaw01.FieldMuls'. -/
def fieldMulsUptoCard : Claim7 := { stood := { row := fieldMulsUptoRow, standIns := [], harness := (true, "98d312e3dba58478949563a1df4384625caf500cd6c3058f7ed9fa2f0d959d32"), looks := false }, kinds := [], alts := [], laidByText := true, laidKinds := [.data], laidTests := true, laidLooks := .later }
def FieldMulsUptoCardSaid : Prop := Claim7.holds Tryd.pinned (.plain (OpenSpec.upto fieldMulsSpec)) fieldMulsUptoCard

/-- THE SECOND FORM's CARD OF 'veillaw01.FieldAsks'. -/
def fieldAsksUptoCard : Claim7 := { stood := { row := fieldAsksUptoRow, standIns := [], harness := (true, "98d312e3dba58478949563a1df4384625caf500cd6c3058f7ed9fa2f0d959d32"), looks := false }, kinds := [], alts := [], laidByText := true, laidKinds := [.data, .data], laidTests := true, laidLooks := .later }
def FieldAsksUptoCardSaid : Prop := Claim7.holds Tryd.pinned (.plain (OpenSpec.upto fieldAsksSpec)) fieldAsksUptoCard

/-- THE SECOND FORM's CARD OF 'veillaw01.FieldPowers'. -/
def fieldPowersUptoCard : Claim7 := { stood := { row := fieldPowersUptoRow, standIns := [], harness := (true, "98d312e3dba58478949563a1df4384625caf500cd6c3058f7ed9fa2f0d959d32"), looks := false }, kinds := [], alts := [], laidByText := true, laidKinds := [.wider, .data], laidTests := true, laidLooks := .later }
def FieldPowersUptoCardSaid : Prop := Claim7.holds Tryd.pinned (.plain (OpenSpec.upto fieldPowersSpec)) fieldPowersUptoCard
end Rows
end Go.Proofs.YtgijodenblpbgaaDoor
