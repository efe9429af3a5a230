/-
  NARROWER THAN 'FOR EVERY INPUT', by the rows' own cells (each row's printed sentence says how): FieldBytes: laid · FieldAdds: laid · FieldMuls: laid · FieldAsks: laid · FieldPowers: laid.
  DERIVED. THE GIVEN ROWS OF THIS SEAT. 5 by the template 'for every input the law returns true; each argument reads behind the call as it read before'; 0 by the template 'total and deterministic' (their statements: YtgijodenblpbgaaDoorTotals.lean).
  GIVEN WITH THE SEED: the statements are not yours to turn. If you find one false, say at which input.
  Laid BY PROGRAM, IN A SANDBOX (cutbox-rows.mjs): the forced cells as the released guide's own fill.sh prints them over the translation 6947b3bc824744bc… (all of the seat's roots in one cut). By AI agents, Wed Nov 11 2026. No macro, syntax, notation, axiom, sorry.
-/
import Derived.Test.YtgijodenblpbgaaDoorChecked
import GoSem.Claim
import GoSem.ClaimJoined
import GoSem.ClaimMapViews
import Derived.JoinedTies
import Derived.KernelRfl
namespace Go.Proofs.YtgijodenblpbgaaDoor
/- THE CELL 'sum', in the pinned program and in every row, IS THE sha256 OF THE DUMP (.gsa) THAT YtgijodenblpbgaaDoorProg.lean LOADS. Nothing in Lean hashes anything: it is a label: what it is worth is what the hold of that sum in a sandbox is worth. -/
noncomputable def Tryd.pinned : Pinned := { name := "ytgijodenblpbgaadoor", sum := "6947b3bc824744bc10c4f52b09125de98ebd71caf8e2e6347f8238e1e6523681", checked := Tryd.checked }
namespace Rows
def none {H : Type} : Left H := { results := [], args := [] }

/- WHAT THE LISTED PACKAGE-LEVEL VARIABLES READ AS WHEN THE CALL BEGINS. Each datum BY PROGRAM (the guide's laid-datum.mjs) off the statement by which the dump's own 'gosem.cut.vars' lays the variable. In a bare row this is a premise. The card (YtgijodenblpbgaaDoorCards.lean) ties it to the program's text. -/
def laid_veil_veilref01_prime {H : Type} : DataW H := .agg [.lit (.int .i64 67108845), .lit (.int .i64 67108863), .lit (.int .i64 67108863), .lit (.int .i64 67108863), .lit (.int .i64 67108863), .lit (.int .i64 67108863), .lit (.int .i64 67108863), .lit (.int .i64 67108863), .lit (.int .i64 67108863), .lit (.int .i64 2097151)]
def laid_veil_veilref01_Zero {H : Type} : DataW H := .agg [.lit (.int .i64 0), .lit (.int .i64 0), .lit (.int .i64 0), .lit (.int .i64 0), .lit (.int .i64 0), .lit (.int .i64 0), .lit (.int .i64 0), .lit (.int .i64 0), .lit (.int .i64 0), .lit (.int .i64 0)]
def laid_veil_veilref01_One {H : Type} : DataW H := .agg [.lit (.int .i64 1), .lit (.int .i64 0), .lit (.int .i64 0), .lit (.int .i64 0), .lit (.int .i64 0), .lit (.int .i64 0), .lit (.int .i64 0), .lit (.int .i64 0), .lit (.int .i64 0), .lit (.int .i64 0)]

/-- 'veillaw01.FieldBytes': WHATEVER THE INPUT: true; the input reads as it did. -/
def fieldBytesSpec : ChangeSpec := { name := "fieldBytes", fn := fun _ => fun
  | [d1, d2] => { results := [.lit (.bool true)], args := [d1, d2] }
  | _ => none }
def fieldBytesRow : OpenClaim := { program := "ytgijodenblpbgaadoor", sum := "6947b3bc824744bc10c4f52b09125de98ebd71caf8e2e6347f8238e1e6523681", func := "veil/veillaw01.FieldBytes", spec := "fieldBytes", named := ["veil/veilref01.prime"], apart := false, laid := [("veil/veilref01.prime", laid_veil_veilref01_prime)] }
def FieldBytesSaid : Prop := fieldBytesRow.holds Tryd.pinned (OpenSpec.ofChange fieldBytesSpec)

/-- ITS FALSE NEIGHBOUR: 'it returns false'. Refute it at one input. -/
def fieldBytesWrong : ChangeSpec := { name := "fieldBytes", fn := fun _ => fun
  | [d1, d2] => { results := [.lit (.bool false)], args := [d1, d2] }
  | _ => none }
def FieldBytesWrongFalsely : Prop := fieldBytesRow.holds Tryd.pinned (OpenSpec.ofChange fieldBytesWrong)

/-- 'veillaw01.FieldAdds': WHATEVER THE INPUT: true; the input reads as it did. -/
def fieldAddsSpec : ChangeSpec := { name := "fieldAdds", fn := fun _ => fun
  | [d1, d2] => { results := [.lit (.bool true)], args := [d1, d2] }
  | _ => none }
def fieldAddsRow : OpenClaim := { program := "ytgijodenblpbgaadoor", sum := "6947b3bc824744bc10c4f52b09125de98ebd71caf8e2e6347f8238e1e6523681", func := "veil/veillaw01.FieldAdds", spec := "fieldAdds", named := ["veil/veilref01.prime", "veil/veilref01.Zero"], apart := false, laid := [("veil/veilref01.Zero", laid_veil_veilref01_Zero), ("veil/veilref01.prime", laid_veil_veilref01_prime)] }
def FieldAddsSaid : Prop := fieldAddsRow.holds Tryd.pinned (OpenSpec.ofChange fieldAddsSpec)

/-- ITS FALSE NEIGHBOUR: 'it returns false'. Refute it at one input. -/
def fieldAddsWrong : ChangeSpec := { name := "fieldAdds", fn := fun _ => fun
  | [d1, d2] => { results := [.lit (.bool false)], args := [d1, d2] }
  | _ => none }
def FieldAddsWrongFalsely : Prop := fieldAddsRow.holds Tryd.pinned (OpenSpec.ofChange fieldAddsWrong)

/-- 'veillaw01.FieldMuls': WHATEVER THE INPUT: true; the input reads as it did. -/
def fieldMulsSpec : ChangeSpec := { name := "fieldMuls", fn := fun _ => fun
  | [d1, d2] => { results := [.lit (.bool true)], args := [d1, d2] }
  | _ => none }
def fieldMulsRow : OpenClaim := { program := "ytgijodenblpbgaadoor", sum := "6947b3bc824744bc10c4f52b09125de98ebd71caf8e2e6347f8238e1e6523681", func := "veil/veillaw01.FieldMuls", spec := "fieldMuls", inPlace := ["math/bits.Add64"], named := ["veil/veilref01.prime"], apart := false, laid := [("veil/veilref01.prime", laid_veil_veilref01_prime)] }
def FieldMulsSaid : Prop := fieldMulsRow.holds Tryd.pinned (OpenSpec.ofChange fieldMulsSpec)

/-- ITS FALSE NEIGHBOUR: 'it returns false'. Refute it at one input. -/
def fieldMulsWrong : ChangeSpec := { name := "fieldMuls", fn := fun _ => fun
  | [d1, d2] => { results := [.lit (.bool false)], args := [d1, d2] }
  | _ => none }
def FieldMulsWrongFalsely : Prop := fieldMulsRow.holds Tryd.pinned (OpenSpec.ofChange fieldMulsWrong)

/-- 'veillaw01.FieldAsks': WHATEVER THE INPUT: true; the input reads as it did. -/
def fieldAsksSpec : ChangeSpec := { name := "fieldAsks", fn := fun _ => fun
  | [d1, d2, d3] => { results := [.lit (.bool true)], args := [d1, d2, d3] }
  | _ => none }
def fieldAsksRow : OpenClaim := { program := "ytgijodenblpbgaadoor", sum := "6947b3bc824744bc10c4f52b09125de98ebd71caf8e2e6347f8238e1e6523681", func := "veil/veillaw01.FieldAsks", spec := "fieldAsks", named := ["veil/veilref01.Zero", "veil/veilref01.prime"], apart := false, laid := [("veil/veilref01.Zero", laid_veil_veilref01_Zero), ("veil/veilref01.prime", laid_veil_veilref01_prime)] }
def FieldAsksSaid : Prop := fieldAsksRow.holds Tryd.pinned (OpenSpec.ofChange fieldAsksSpec)

/-- ITS FALSE NEIGHBOUR: 'it returns false'. Refute it at one input. -/
def fieldAsksWrong : ChangeSpec := { name := "fieldAsks", fn := fun _ => fun
  | [d1, d2, d3] => { results := [.lit (.bool false)], args := [d1, d2, d3] }
  | _ => none }
def FieldAsksWrongFalsely : Prop := fieldAsksRow.holds Tryd.pinned (OpenSpec.ofChange fieldAsksWrong)

/-- 'veillaw01.FieldPowers': WHATEVER THE INPUT: true; the input reads as it did. -/
def fieldPowersSpec : ChangeSpec := { name := "fieldPowers", fn := fun _ => fun
  | [d1, d2] => { results := [.lit (.bool true)], args := [d1, d2] }
  | _ => none }
def fieldPowersRow : OpenClaim := { program := "ytgijodenblpbgaadoor", sum := "6947b3bc824744bc10c4f52b09125de98ebd71caf8e2e6347f8238e1e6523681", func := "veil/veillaw01.FieldPowers", spec := "fieldPowers", inPlace := ["math/bits.Add64"], recurses := true, named := ["veil/veilref01.prime", "veil/veilref01.One"], apart := false, laid := [("veil/veilref01.One", laid_veil_veilref01_One), ("veil/veilref01.prime", laid_veil_veilref01_prime)] }
def FieldPowersSaid : Prop := fieldPowersRow.holds Tryd.pinned (OpenSpec.ofChange fieldPowersSpec)

/-- ITS FALSE NEIGHBOUR: 'it returns false'. Refute it at one input. -/
def fieldPowersWrong : ChangeSpec := { name := "fieldPowers", fn := fun _ => fun
  | [d1, d2] => { results := [.lit (.bool false)], args := [d1, d2] }
  | _ => none }
def FieldPowersWrongFalsely : Prop := fieldPowersRow.holds Tryd.pinned (OpenSpec.ofChange fieldPowersWrong)

/- THE SECOND FORM. 'bulk': how many values and letters a reading holds, each counted each time it is reached (what is shared counts as often as it is met; a slice's spare places count too). A statement '..UptoSaid' is the law's where the arguments, and the package variables that the reading takes, are together of bulk at most 1048576: NARROWER than '..Said'. Prove '..Said' where nothing that the law and all that it calls make is longer than what came in: it says more and counts as full. Else prove '..UptoSaid'. A law counts once. -/
mutual
def uptoBulk {H : Type} : DataW H → Nat
  | .lit (.string bytes) => bytes.length + 1
  | .lit _ => 1
  | .nil => 1
  | .ptr d => uptoBulk d + 1
  | .slice elems spare => uptoBulkAll elems + uptoBulkAll spare + 1
  | .agg parts => uptoBulkAll parts + 1
  | .iface _ d => uptoBulk d + 1
  | .map entries => uptoBulkEntries entries + 1
  | .held _ => 1
def uptoBulkAll {H : Type} : List (DataW H) → Nat
  | [] => 0
  | d :: r => uptoBulk d + uptoBulkAll r
def uptoBulkEntries {H : Type} : List (Lit × DataW H) → Nat
  | [] => 0
  | x :: r => uptoBulkEntry x + uptoBulkEntries r
def uptoBulkEntry {H : Type} : Lit × DataW H → Nat
  | (.string bytes, d) => bytes.length + uptoBulk d + 1
  | (_, d) => uptoBulk d + 1
 end
def uptoSmall : (H : Type) → List (DataW H) → Bool := fun _ ds => decide (uptoBulkAll ds ≤ 1048576)
def OpenSpec.upto (s : _root_.Go.ChangeSpec) : _root_.Go.OpenSpec := { _root_.Go.OpenSpec.ofChange s with cond := some uptoSmall }

/-- 'veillaw01.FieldBytes', WHERE WHAT IT READS IS OF BULK AT MOST 1048576: true; the input reads as it did. -/
def fieldBytesUptoRow : OpenClaim := { program := "ytgijodenblpbgaadoor", sum := "6947b3bc824744bc10c4f52b09125de98ebd71caf8e2e6347f8238e1e6523681", func := "veil/veillaw01.FieldBytes", spec := "fieldBytes", named := ["veil/veilref01.prime"], apart := false, laid := [("veil/veilref01.prime", laid_veil_veilref01_prime)], narrowed := true }
def FieldBytesUptoSaid : Prop := fieldBytesUptoRow.holds Tryd.pinned (OpenSpec.upto fieldBytesSpec)

/-- 'veillaw01.FieldAdds', WHERE WHAT IT READS IS OF BULK AT MOST 1048576: true; the input reads as it did. -/
def fieldAddsUptoRow : OpenClaim := { program := "ytgijodenblpbgaadoor", sum := "6947b3bc824744bc10c4f52b09125de98ebd71caf8e2e6347f8238e1e6523681", func := "veil/veillaw01.FieldAdds", spec := "fieldAdds", named := ["veil/veilref01.prime", "veil/veilref01.Zero"], apart := false, laid := [("veil/veilref01.Zero", laid_veil_veilref01_Zero), ("veil/veilref01.prime", laid_veil_veilref01_prime)], narrowed := true }
def FieldAddsUptoSaid : Prop := fieldAddsUptoRow.holds Tryd.pinned (OpenSpec.upto fieldAddsSpec)

/-- 'veillaw01.FieldMuls', WHERE WHAT IT READS IS OF BULK AT MOST 1048576: true; the input reads as it did. -/
def fieldMulsUptoRow : OpenClaim := { program := "ytgijodenblpbgaadoor", sum := "6947b3bc824744bc10c4f52b09125de98ebd71caf8e2e6347f8238e1e6523681", func := "veil/veillaw01.FieldMuls", spec := "fieldMuls", inPlace := ["math/bits.Add64"], named := ["veil/veilref01.prime"], apart := false, laid := [("veil/veilref01.prime", laid_veil_veilref01_prime)], narrowed := true }
def FieldMulsUptoSaid : Prop := fieldMulsUptoRow.holds Tryd.pinned (OpenSpec.upto fieldMulsSpec)

/-- 'veillaw01.FieldAsks', WHERE WHAT IT READS IS OF BULK AT MOST 1048576: true; the input reads as it did. -/
def fieldAsksUptoRow : OpenClaim := { program := "ytgijodenblpbgaadoor", sum := "6947b3bc824744bc10c4f52b09125de98ebd71caf8e2e6347f8238e1e6523681", func := "veil/veillaw01.FieldAsks", spec := "fieldAsks", named := ["veil/veilref01.Zero", "veil/veilref01.prime"], apart := false, laid := [("veil/veilref01.Zero", laid_veil_veilref01_Zero), ("veil/veilref01.prime", laid_veil_veilref01_prime)], narrowed := true }
def FieldAsksUptoSaid : Prop := fieldAsksUptoRow.holds Tryd.pinned (OpenSpec.upto fieldAsksSpec)

/-- 'veillaw01.FieldPowers', WHERE WHAT IT READS IS OF BULK AT MOST 1048576: true; the input reads as it did. -/
def fieldPowersUptoRow : OpenClaim := { program := "ytgijodenblpbgaadoor", sum := "6947b3bc824744bc10c4f52b09125de98ebd71caf8e2e6347f8238e1e6523681", func := "veil/veillaw01.FieldPowers", spec := "fieldPowers", inPlace := ["math/bits.Add64"], recurses := true, named := ["veil/veilref01.prime", "veil/veilref01.One"], apart := false, laid := [("veil/veilref01.One", laid_veil_veilref01_One), ("veil/veilref01.prime", laid_veil_veilref01_prime)], narrowed := true }
def FieldPowersUptoSaid : Prop := fieldPowersUptoRow.holds Tryd.pinned (OpenSpec.upto fieldPowersSpec)

end Rows
end Go.Proofs.YtgijodenblpbgaaDoor
