/-
  NARROWER THAN 'FOR EVERY INPUT', by the rows' own cells (each row's printed sentence says how): CircuitBuilds: laid · CircuitNumbers: laid · CircuitBytes: laid.
  DERIVED. THE GIVEN ROWS OF THIS SEAT. 3 by the template 'for every input the law returns true; each argument reads behind the call as it read before'; 0 by the template 'total and deterministic' (their statements: YtghcfcglakbkeaaGreatDoorTotals.lean).
  GIVEN WITH THE SEED: the statements are not yours to turn. If you find one false, say at which input.
  Laid BY PROGRAM, IN A SANDBOX (cutbox-rows.mjs): the forced cells as the released guide's own fill.sh prints them over the translation 8fa6d2c0570fa1c3… (all of the seat's roots in one cut). By AI agents, Wed Nov 11 2026. No macro, syntax, notation, axiom, sorry.
-/
import Derived.Test.YtghcfcglakbkeaaGreatDoorChecked
import GoSem.Claim
import GoSem.ClaimJoined
import GoSem.ClaimMapViews
import Derived.JoinedTies
import Derived.KernelRfl
namespace Go.Proofs.YtghcfcglakbkeaaGreatDoor
/- THE CELL 'sum', in the pinned program and in every row, IS THE sha256 OF THE DUMP (.gsa) THAT YtghcfcglakbkeaaGreatDoorProg.lean LOADS. Nothing in Lean hashes anything: it is a label: what it is worth is what the hold of that sum in a sandbox is worth. -/
noncomputable def Tryz.pinned : Pinned := { name := "ytghcfcglakbkeaagreatdoor", sum := "8fa6d2c0570fa1c34b2125e64ba7a237d7b72098f2848481fc46c2efe3935d4a", checked := Tryz.checked }
namespace Rows
def none {H : Type} : Left H := { results := [], args := [] }

/- WHAT THE LISTED PACKAGE-LEVEL VARIABLES READ AS WHEN THE CALL BEGINS. Each datum BY PROGRAM (the guide's laid-datum.mjs) off the statement by which the dump's own 'gosem.cut.vars' lays the variable. In a bare row this is a premise. The card (YtghcfcglakbkeaaGreatDoorCards.lean) ties it to the program's text. -/
def laid_veil_scalar_table {H : Type} : DataW H := .agg [.agg [.lit (.int .u64 6346243789798364141), .lit (.int .u64 1503914060200516822), .lit (.int .u64 0), .lit (.int .u64 1152921504606846976)], .agg [.lit (.int .u64 15486807595281847581), .lit (.int .u64 14334777244411350896), .lit (.int .u64 18446744073709551614), .lit (.int .u64 1152921504606846975)], .agg [.lit (.int .u64 11819153939886771969), .lit (.int .u64 14991950615390032711), .lit (.int .u64 14910419812499177061), .lit (.int .u64 259310039853996605)]]
def laid_veil_veillaw19_mark {H : Type} : DataW H := .agg [.agg [.lit (.int .i64 77), .lit (.int .i64 78)], .agg [.lit (.int .u64 79), .lit (.int .u64 0), .lit (.int .u64 0), .lit (.int .u64 0)]]

/-- 'veillaw19.CircuitBuilds': WHATEVER THE INPUT: true; the input reads as it did. -/
def circuitBuildsSpec : ChangeSpec := { name := "circuitBuilds", fn := fun _ => fun
  | [d1, d2] => { results := [.lit (.bool true)], args := [d1, d2] }
  | _ => none }
def circuitBuildsRow : OpenClaim := { program := "ytghcfcglakbkeaagreatdoor", sum := "8fa6d2c0570fa1c34b2125e64ba7a237d7b72098f2848481fc46c2efe3935d4a", func := "veil/veillaw19.CircuitBuilds", spec := "circuitBuilds", inPlace := ["math/bits.Add64", "math/bits.Sub64"], unfollowed := true, recurses := true, named := ["veil/scalar.table", "veil/veillaw19.mark"], plainKeys := false, apart := false, laid := [("veil/scalar.table", laid_veil_scalar_table), ("veil/veillaw19.mark", laid_veil_veillaw19_mark)] }
def CircuitBuildsSaid : Prop := circuitBuildsRow.holds Tryz.pinned (OpenSpec.ofChange circuitBuildsSpec)

/-- ITS FALSE NEIGHBOUR: 'it returns false'. Refute it at one input. -/
def circuitBuildsWrong : ChangeSpec := { name := "circuitBuilds", fn := fun _ => fun
  | [d1, d2] => { results := [.lit (.bool false)], args := [d1, d2] }
  | _ => none }
def CircuitBuildsWrongFalsely : Prop := circuitBuildsRow.holds Tryz.pinned (OpenSpec.ofChange circuitBuildsWrong)

/-- 'veillaw19.CircuitNumbers': WHATEVER THE INPUT: true; the input reads as it did. -/
def circuitNumbersSpec : ChangeSpec := { name := "circuitNumbers", fn := fun _ => fun
  | [d1, d2, d3, d4, d5] => { results := [.lit (.bool true)], args := [d1, d2, d3, d4, d5] }
  | _ => none }
def circuitNumbersRow : OpenClaim := { program := "ytghcfcglakbkeaagreatdoor", sum := "8fa6d2c0570fa1c34b2125e64ba7a237d7b72098f2848481fc46c2efe3935d4a", func := "veil/veillaw19.CircuitNumbers", spec := "circuitNumbers", inPlace := ["math/bits.Add64", "math/bits.Sub64"], unfollowed := true, recurses := true, named := ["veil/scalar.table", "veil/veillaw19.mark"], plainKeys := false, apart := false, laid := [("veil/scalar.table", laid_veil_scalar_table), ("veil/veillaw19.mark", laid_veil_veillaw19_mark)] }
def CircuitNumbersSaid : Prop := circuitNumbersRow.holds Tryz.pinned (OpenSpec.ofChange circuitNumbersSpec)

/-- ITS FALSE NEIGHBOUR: 'it returns false'. Refute it at one input. -/
def circuitNumbersWrong : ChangeSpec := { name := "circuitNumbers", fn := fun _ => fun
  | [d1, d2, d3, d4, d5] => { results := [.lit (.bool false)], args := [d1, d2, d3, d4, d5] }
  | _ => none }
def CircuitNumbersWrongFalsely : Prop := circuitNumbersRow.holds Tryz.pinned (OpenSpec.ofChange circuitNumbersWrong)

/-- 'veillaw19.CircuitBytes': WHATEVER THE INPUT: true; the input reads as it did. -/
def circuitBytesSpec : ChangeSpec := { name := "circuitBytes", fn := fun _ => fun
  | [d1, d2, d3, d4, d5] => { results := [.lit (.bool true)], args := [d1, d2, d3, d4, d5] }
  | _ => none }
def circuitBytesRow : OpenClaim := { program := "ytghcfcglakbkeaagreatdoor", sum := "8fa6d2c0570fa1c34b2125e64ba7a237d7b72098f2848481fc46c2efe3935d4a", func := "veil/veillaw19.CircuitBytes", spec := "circuitBytes", inPlace := ["math/bits.Add64", "math/bits.Sub64"], unfollowed := true, recurses := true, named := ["veil/scalar.table", "veil/veillaw19.mark"], plainKeys := false, apart := false, laid := [("veil/scalar.table", laid_veil_scalar_table), ("veil/veillaw19.mark", laid_veil_veillaw19_mark)] }
def CircuitBytesSaid : Prop := circuitBytesRow.holds Tryz.pinned (OpenSpec.ofChange circuitBytesSpec)

/-- ITS FALSE NEIGHBOUR: 'it returns false'. Refute it at one input. -/
def circuitBytesWrong : ChangeSpec := { name := "circuitBytes", fn := fun _ => fun
  | [d1, d2, d3, d4, d5] => { results := [.lit (.bool false)], args := [d1, d2, d3, d4, d5] }
  | _ => none }
def CircuitBytesWrongFalsely : Prop := circuitBytesRow.holds Tryz.pinned (OpenSpec.ofChange circuitBytesWrong)

/- THE SECOND FORM. 'bulk': how many values and letters a reading holds, each counted each time it is reached (what is shared counts as often as it is met; a slice's spare places count too). A statement '..UptoSaid' is the law's where the arguments, and the package variables that the reading takes, are together of bulk at most 1048576: NARROWER than '..Said'. Prove '..Said' where nothing that the law and all that it calls make is longer than what came in: it says more and counts as full. Else prove '..UptoSaid'. A law counts once. -/
mutual
def uptoBulk {H : Type} : DataW H → Nat
  | .lit (.string bytes) => bytes.length + 1
  | .lit _ => 1
  | .nil => 1
  | .ptr d => uptoBulk d + 1
  | .slice elems spare => uptoBulkAll elems + uptoBulkAll spare + 1
  | .agg parts => uptoBulkAll parts + 1
  | .iface _ d => uptoBulk d + 1
  | .map entries => uptoBulkEntries entries + 1
  | .held _ => 1
def uptoBulkAll {H : Type} : List (DataW H) → Nat
  | [] => 0
  | d :: r => uptoBulk d + uptoBulkAll r
def uptoBulkEntries {H : Type} : List (Lit × DataW H) → Nat
  | [] => 0
  | x :: r => uptoBulkEntry x + uptoBulkEntries r
def uptoBulkEntry {H : Type} : Lit × DataW H → Nat
  | (.string bytes, d) => bytes.length + uptoBulk d + 1
  | (_, d) => uptoBulk d + 1
 end
def uptoSmall : (H : Type) → List (DataW H) → Bool := fun _ ds => decide (uptoBulkAll ds ≤ 1048576)
def OpenSpec.upto (s : _root_.Go.ChangeSpec) : _root_.Go.OpenSpec := { _root_.Go.OpenSpec.ofChange s with cond := some uptoSmall }

/-- 'veillaw19.CircuitBuilds', WHERE WHAT IT READS IS OF BULK AT MOST 1048576: true; the input reads as it did. -/
def circuitBuildsUptoRow : OpenClaim := { program := "ytghcfcglakbkeaagreatdoor", sum := "8fa6d2c0570fa1c34b2125e64ba7a237d7b72098f2848481fc46c2efe3935d4a", func := "veil/veillaw19.CircuitBuilds", spec := "circuitBuilds", inPlace := ["math/bits.Add64", "math/bits.Sub64"], unfollowed := true, recurses := true, named := ["veil/scalar.table", "veil/veillaw19.mark"], plainKeys := false, apart := false, laid := [("veil/scalar.table", laid_veil_scalar_table), ("veil/veillaw19.mark", laid_veil_veillaw19_mark)], narrowed := true }
def CircuitBuildsUptoSaid : Prop := circuitBuildsUptoRow.holds Tryz.pinned (OpenSpec.upto circuitBuildsSpec)

/-- 'veillaw19.CircuitNumbers', WHERE WHAT IT READS IS OF BULK AT MOST 1048576: true; the input reads as it did. -/
def circuitNumbersUptoRow : OpenClaim := { program := "ytghcfcglakbkeaagreatdoor", sum := "8fa6d2c0570fa1c34b2125e64ba7a237d7b72098f2848481fc46c2efe3935d4a", func := "veil/veillaw19.CircuitNumbers", spec := "circuitNumbers", inPlace := ["math/bits.Add64", "math/bits.Sub64"], unfollowed := true, recurses := true, named := ["veil/scalar.table", "veil/veillaw19.mark"], plainKeys := false, apart := false, laid := [("veil/scalar.table", laid_veil_scalar_table), ("veil/veillaw19.mark", laid_veil_veillaw19_mark)], narrowed := true }
def CircuitNumbersUptoSaid : Prop := circuitNumbersUptoRow.holds Tryz.pinned (OpenSpec.upto circuitNumbersSpec)

/-- 'veillaw19.CircuitBytes', WHERE WHAT IT READS IS OF BULK AT MOST 1048576: true; the input reads as it did. -/
def circuitBytesUptoRow : OpenClaim := { program := "ytghcfcglakbkeaagreatdoor", sum := "8fa6d2c0570fa1c34b2125e64ba7a237d7b72098f2848481fc46c2efe3935d4a", func := "veil/veillaw19.CircuitBytes", spec := "circuitBytes", inPlace := ["math/bits.Add64", "math/bits.Sub64"], unfollowed := true, recurses := true, named := ["veil/scalar.table", "veil/veillaw19.mark"], plainKeys := false, apart := false, laid := [("veil/scalar.table", laid_veil_scalar_table), ("veil/veillaw19.mark", laid_veil_veillaw19_mark)], narrowed := true }
def CircuitBytesUptoSaid : Prop := circuitBytesUptoRow.holds Tryz.pinned (OpenSpec.upto circuitBytesSpec)

end Rows
end Go.Proofs.YtghcfcglakbkeaaGreatDoor
