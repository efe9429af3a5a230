/-
  NARROWER THAN 'FOR EVERY INPUT', by the rows' own cells (each row's printed sentence says how): ScalarFermat: laid · ScalarField: laid · ScalarOneCode: laid · ScalarWhole: laid · ScalarSpelled: laid · ScalarDigits: laid.
  DERIVED. THE GIVEN ROWS OF THIS SEAT. 6 by the template 'for every input the law returns true; each argument reads behind the call as it read before'; 0 by the template 'total and deterministic' (their statements: YtglalahmcckjaaaDoorTotals.lean).
  GIVEN WITH THE SEED: the statements are not yours to turn. If you find one false, say at which input.
  Laid BY PROGRAM, IN A SANDBOX (cutbox-rows.mjs): the forced cells as the released guide's own fill.sh prints them over the translation 652f75e16c22a431… (all of the seat's roots in one cut). By AI agents, Wed Nov 11 2026. No macro, syntax, notation, axiom, sorry.
-/
import Derived.Test.YtglalahmcckjaaaDoorChecked
import GoSem.Claim
import GoSem.ClaimJoined
import GoSem.ClaimMapViews
import Derived.JoinedTies
import Derived.KernelRfl
namespace Go.Proofs.YtglalahmcckjaaaDoor
/- THE CELL 'sum', in the pinned program and in every row, IS THE sha256 OF THE DUMP (.gsa) THAT YtglalahmcckjaaaDoorProg.lean LOADS. Nothing in Lean hashes anything: it is a label: what it is worth is what the hold of that sum in a sandbox is worth. -/
noncomputable def Tryd.pinned : Pinned := { name := "ytglalahmcckjaaadoor", sum := "652f75e16c22a431cc931210f105c17aaca689dd5006ecae45c2c652611b4519", checked := Tryd.checked }
namespace Rows
def none {H : Type} : Left H := { results := [], args := [] }

/- WHAT THE LISTED PACKAGE-LEVEL VARIABLES READ AS WHEN THE CALL BEGINS. Each datum BY PROGRAM (the guide's laid-datum.mjs) off the statement by which the dump's own 'gosem.cut.vars' lays the variable. In a bare row this is a premise. The card (YtglalahmcckjaaaDoorCards.lean) ties it to the program's text. -/
def laid_veil_scalar_table {H : Type} : DataW H := .agg [.agg [.lit (.int .u64 6346243789798364141), .lit (.int .u64 1503914060200516822), .lit (.int .u64 0), .lit (.int .u64 1152921504606846976)], .agg [.lit (.int .u64 15486807595281847581), .lit (.int .u64 14334777244411350896), .lit (.int .u64 18446744073709551614), .lit (.int .u64 1152921504606846975)], .agg [.lit (.int .u64 11819153939886771969), .lit (.int .u64 14991950615390032711), .lit (.int .u64 14910419812499177061), .lit (.int .u64 259310039853996605)]]

/-- 'veillaw02.ScalarFermat': WHATEVER THE INPUT: true; the input reads as it did. -/
def scalarFermatSpec : ChangeSpec := { name := "scalarFermat", fn := fun _ => fun
  | [d1, d2, d3] => { results := [.lit (.bool true)], args := [d1, d2, d3] }
  | _ => none }
def scalarFermatRow : OpenClaim := { program := "ytglalahmcckjaaadoor", sum := "652f75e16c22a431cc931210f105c17aaca689dd5006ecae45c2c652611b4519", func := "veil/veillaw02.ScalarFermat", spec := "scalarFermat", inPlace := ["math/bits.Add64", "math/bits.Sub64"], named := ["veil/scalar.table"], apart := false, laid := [("veil/scalar.table", laid_veil_scalar_table)] }
def ScalarFermatSaid : Prop := scalarFermatRow.holds Tryd.pinned (OpenSpec.ofChange scalarFermatSpec)

/-- ITS FALSE NEIGHBOUR: 'it returns false'. Refute it at one input. -/
def scalarFermatWrong : ChangeSpec := { name := "scalarFermat", fn := fun _ => fun
  | [d1, d2, d3] => { results := [.lit (.bool false)], args := [d1, d2, d3] }
  | _ => none }
def ScalarFermatWrongFalsely : Prop := scalarFermatRow.holds Tryd.pinned (OpenSpec.ofChange scalarFermatWrong)

/-- 'veillaw02.ScalarField': WHATEVER THE INPUT: true; the input reads as it did. -/
def scalarFieldSpec : ChangeSpec := { name := "scalarField", fn := fun _ => fun
  | [d1, d2, d3] => { results := [.lit (.bool true)], args := [d1, d2, d3] }
  | _ => none }
def scalarFieldRow : OpenClaim := { program := "ytglalahmcckjaaadoor", sum := "652f75e16c22a431cc931210f105c17aaca689dd5006ecae45c2c652611b4519", func := "veil/veillaw02.ScalarField", spec := "scalarField", inPlace := ["math/bits.Add64", "math/bits.Sub64"], named := ["veil/scalar.table"], apart := false, laid := [("veil/scalar.table", laid_veil_scalar_table)] }
def ScalarFieldSaid : Prop := scalarFieldRow.holds Tryd.pinned (OpenSpec.ofChange scalarFieldSpec)

/-- ITS FALSE NEIGHBOUR: 'it returns false'. Refute it at one input. -/
def scalarFieldWrong : ChangeSpec := { name := "scalarField", fn := fun _ => fun
  | [d1, d2, d3] => { results := [.lit (.bool false)], args := [d1, d2, d3] }
  | _ => none }
def ScalarFieldWrongFalsely : Prop := scalarFieldRow.holds Tryd.pinned (OpenSpec.ofChange scalarFieldWrong)

/-- 'veillaw02.ScalarOneCode': WHATEVER THE INPUT: true; the input reads as it did. -/
def scalarOneCodeSpec : ChangeSpec := { name := "scalarOneCode", fn := fun _ => fun
  | [d1, d2] => { results := [.lit (.bool true)], args := [d1, d2] }
  | _ => none }
def scalarOneCodeRow : OpenClaim := { program := "ytglalahmcckjaaadoor", sum := "652f75e16c22a431cc931210f105c17aaca689dd5006ecae45c2c652611b4519", func := "veil/veillaw02.ScalarOneCode", spec := "scalarOneCode", inPlace := ["math/bits.Add64", "math/bits.Sub64"], named := ["veil/scalar.table"], apart := false, laid := [("veil/scalar.table", laid_veil_scalar_table)] }
def ScalarOneCodeSaid : Prop := scalarOneCodeRow.holds Tryd.pinned (OpenSpec.ofChange scalarOneCodeSpec)

/-- ITS FALSE NEIGHBOUR: 'it returns false'. Refute it at one input. -/
def scalarOneCodeWrong : ChangeSpec := { name := "scalarOneCode", fn := fun _ => fun
  | [d1, d2] => { results := [.lit (.bool false)], args := [d1, d2] }
  | _ => none }
def ScalarOneCodeWrongFalsely : Prop := scalarOneCodeRow.holds Tryd.pinned (OpenSpec.ofChange scalarOneCodeWrong)

/-- 'veillaw02.ScalarWhole': WHATEVER THE INPUT: true; the input reads as it did. -/
def scalarWholeSpec : ChangeSpec := { name := "scalarWhole", fn := fun _ => fun
  | [d] => { results := [.lit (.bool true)], args := [d] }
  | _ => none }
def scalarWholeRow : OpenClaim := { program := "ytglalahmcckjaaadoor", sum := "652f75e16c22a431cc931210f105c17aaca689dd5006ecae45c2c652611b4519", func := "veil/veillaw02.ScalarWhole", spec := "scalarWhole", inPlace := ["math/bits.Add64", "math/bits.Sub64"], named := ["veil/scalar.table"], apart := false, laid := [("veil/scalar.table", laid_veil_scalar_table)] }
def ScalarWholeSaid : Prop := scalarWholeRow.holds Tryd.pinned (OpenSpec.ofChange scalarWholeSpec)

/-- ITS FALSE NEIGHBOUR: 'it returns false'. Refute it at one input. -/
def scalarWholeWrong : ChangeSpec := { name := "scalarWhole", fn := fun _ => fun
  | [d] => { results := [.lit (.bool false)], args := [d] }
  | _ => none }
def ScalarWholeWrongFalsely : Prop := scalarWholeRow.holds Tryd.pinned (OpenSpec.ofChange scalarWholeWrong)

/-- 'veillaw02.ScalarSpelled': WHATEVER THE INPUT: true; the input reads as it did. -/
def scalarSpelledSpec : ChangeSpec := { name := "scalarSpelled", fn := fun _ => fun
  | [d1, d2] => { results := [.lit (.bool true)], args := [d1, d2] }
  | _ => none }
def scalarSpelledRow : OpenClaim := { program := "ytglalahmcckjaaadoor", sum := "652f75e16c22a431cc931210f105c17aaca689dd5006ecae45c2c652611b4519", func := "veil/veillaw02.ScalarSpelled", spec := "scalarSpelled", inPlace := ["math/bits.Add64", "math/bits.Sub64"], named := ["veil/scalar.table"], apart := false, laid := [("veil/scalar.table", laid_veil_scalar_table)] }
def ScalarSpelledSaid : Prop := scalarSpelledRow.holds Tryd.pinned (OpenSpec.ofChange scalarSpelledSpec)

/-- ITS FALSE NEIGHBOUR: 'it returns false'. Refute it at one input. -/
def scalarSpelledWrong : ChangeSpec := { name := "scalarSpelled", fn := fun _ => fun
  | [d1, d2] => { results := [.lit (.bool false)], args := [d1, d2] }
  | _ => none }
def ScalarSpelledWrongFalsely : Prop := scalarSpelledRow.holds Tryd.pinned (OpenSpec.ofChange scalarSpelledWrong)

/-- 'veillaw02.ScalarDigits': WHATEVER THE INPUT: true; the input reads as it did. -/
def scalarDigitsSpec : ChangeSpec := { name := "scalarDigits", fn := fun _ => fun
  | [d1, d2] => { results := [.lit (.bool true)], args := [d1, d2] }
  | _ => none }
def scalarDigitsRow : OpenClaim := { program := "ytglalahmcckjaaadoor", sum := "652f75e16c22a431cc931210f105c17aaca689dd5006ecae45c2c652611b4519", func := "veil/veillaw02.ScalarDigits", spec := "scalarDigits", inPlace := ["math/bits.Add64", "math/bits.Sub64"], named := ["veil/scalar.table"], apart := false, laid := [("veil/scalar.table", laid_veil_scalar_table)] }
def ScalarDigitsSaid : Prop := scalarDigitsRow.holds Tryd.pinned (OpenSpec.ofChange scalarDigitsSpec)

/-- ITS FALSE NEIGHBOUR: 'it returns false'. Refute it at one input. -/
def scalarDigitsWrong : ChangeSpec := { name := "scalarDigits", fn := fun _ => fun
  | [d1, d2] => { results := [.lit (.bool false)], args := [d1, d2] }
  | _ => none }
def ScalarDigitsWrongFalsely : Prop := scalarDigitsRow.holds Tryd.pinned (OpenSpec.ofChange scalarDigitsWrong)

/- THE SECOND FORM. 'bulk': how many values and letters a reading holds, each counted each time it is reached (what is shared counts as often as it is met; a slice's spare places count too). A statement '..UptoSaid' is the law's where the arguments, and the package variables that the reading takes, are together of bulk at most 1048576: NARROWER than '..Said'. Prove '..Said' where nothing that the law and all that it calls make is longer than what came in: it says more and counts as full. Else prove '..UptoSaid'. A law counts once. -/
mutual
def uptoBulk {H : Type} : DataW H → Nat
  | .lit (.string bytes) => bytes.length + 1
  | .lit _ => 1
  | .nil => 1
  | .ptr d => uptoBulk d + 1
  | .slice elems spare => uptoBulkAll elems + uptoBulkAll spare + 1
  | .agg parts => uptoBulkAll parts + 1
  | .iface _ d => uptoBulk d + 1
  | .map entries => uptoBulkEntries entries + 1
  | .held _ => 1
def uptoBulkAll {H : Type} : List (DataW H) → Nat
  | [] => 0
  | d :: r => uptoBulk d + uptoBulkAll r
def uptoBulkEntries {H : Type} : List (Lit × DataW H) → Nat
  | [] => 0
  | x :: r => uptoBulkEntry x + uptoBulkEntries r
def uptoBulkEntry {H : Type} : Lit × DataW H → Nat
  | (.string bytes, d) => bytes.length + uptoBulk d + 1
  | (_, d) => uptoBulk d + 1
 end
def uptoSmall : (H : Type) → List (DataW H) → Bool := fun _ ds => decide (uptoBulkAll ds ≤ 1048576)
def OpenSpec.upto (s : _root_.Go.ChangeSpec) : _root_.Go.OpenSpec := { _root_.Go.OpenSpec.ofChange s with cond := some uptoSmall }

/-- 'veillaw02.ScalarFermat', WHERE WHAT IT READS IS OF BULK AT MOST 1048576: true; the input reads as it did. -/
def scalarFermatUptoRow : OpenClaim := { program := "ytglalahmcckjaaadoor", sum := "652f75e16c22a431cc931210f105c17aaca689dd5006ecae45c2c652611b4519", func := "veil/veillaw02.ScalarFermat", spec := "scalarFermat", inPlace := ["math/bits.Add64", "math/bits.Sub64"], named := ["veil/scalar.table"], apart := false, laid := [("veil/scalar.table", laid_veil_scalar_table)], narrowed := true }
def ScalarFermatUptoSaid : Prop := scalarFermatUptoRow.holds Tryd.pinned (OpenSpec.upto scalarFermatSpec)

/-- 'veillaw02.ScalarField', WHERE WHAT IT READS IS OF BULK AT MOST 1048576: true; the input reads as it did. -/
def scalarFieldUptoRow : OpenClaim := { program := "ytglalahmcckjaaadoor", sum := "652f75e16c22a431cc931210f105c17aaca689dd5006ecae45c2c652611b4519", func := "veil/veillaw02.ScalarField", spec := "scalarField", inPlace := ["math/bits.Add64", "math/bits.Sub64"], named := ["veil/scalar.table"], apart := false, laid := [("veil/scalar.table", laid_veil_scalar_table)], narrowed := true }
def ScalarFieldUptoSaid : Prop := scalarFieldUptoRow.holds Tryd.pinned (OpenSpec.upto scalarFieldSpec)

/-- 'veillaw02.ScalarOneCode', WHERE WHAT IT READS IS OF BULK AT MOST 1048576: true; the input reads as it did. -/
def scalarOneCodeUptoRow : OpenClaim := { program := "ytglalahmcckjaaadoor", sum := "652f75e16c22a431cc931210f105c17aaca689dd5006ecae45c2c652611b4519", func := "veil/veillaw02.ScalarOneCode", spec := "scalarOneCode", inPlace := ["math/bits.Add64", "math/bits.Sub64"], named := ["veil/scalar.table"], apart := false, laid := [("veil/scalar.table", laid_veil_scalar_table)], narrowed := true }
def ScalarOneCodeUptoSaid : Prop := scalarOneCodeUptoRow.holds Tryd.pinned (OpenSpec.upto scalarOneCodeSpec)

/-- 'veillaw02.ScalarWhole', WHERE WHAT IT READS IS OF BULK AT MOST 1048576: true; the input reads as it did. -/
def scalarWholeUptoRow : OpenClaim := { program := "ytglalahmcckjaaadoor", sum := "652f75e16c22a431cc931210f105c17aaca689dd5006ecae45c2c652611b4519", func := "veil/veillaw02.ScalarWhole", spec := "scalarWhole", inPlace := ["math/bits.Add64", "math/bits.Sub64"], named := ["veil/scalar.table"], apart := false, laid := [("veil/scalar.table", laid_veil_scalar_table)], narrowed := true }
def ScalarWholeUptoSaid : Prop := scalarWholeUptoRow.holds Tryd.pinned (OpenSpec.upto scalarWholeSpec)

/-- 'veillaw02.ScalarSpelled', WHERE WHAT IT READS IS OF BULK AT MOST 1048576: true; the input reads as it did. -/
def scalarSpelledUptoRow : OpenClaim := { program := "ytglalahmcckjaaadoor", sum := "652f75e16c22a431cc931210f105c17aaca689dd5006ecae45c2c652611b4519", func := "veil/veillaw02.ScalarSpelled", spec := "scalarSpelled", inPlace := ["math/bits.Add64", "math/bits.Sub64"], named := ["veil/scalar.table"], apart := false, laid := [("veil/scalar.table", laid_veil_scalar_table)], narrowed := true }
def ScalarSpelledUptoSaid : Prop := scalarSpelledUptoRow.holds Tryd.pinned (OpenSpec.upto scalarSpelledSpec)

/-- 'veillaw02.ScalarDigits', WHERE WHAT IT READS IS OF BULK AT MOST 1048576: true; the input reads as it did. -/
def scalarDigitsUptoRow : OpenClaim := { program := "ytglalahmcckjaaadoor", sum := "652f75e16c22a431cc931210f105c17aaca689dd5006ecae45c2c652611b4519", func := "veil/veillaw02.ScalarDigits", spec := "scalarDigits", inPlace := ["math/bits.Add64", "math/bits.Sub64"], named := ["veil/scalar.table"], apart := false, laid := [("veil/scalar.table", laid_veil_scalar_table)], narrowed := true }
def ScalarDigitsUptoSaid : Prop := scalarDigitsUptoRow.holds Tryd.pinned (OpenSpec.upto scalarDigitsSpec)

end Rows
end Go.Proofs.YtglalahmcckjaaaDoor
