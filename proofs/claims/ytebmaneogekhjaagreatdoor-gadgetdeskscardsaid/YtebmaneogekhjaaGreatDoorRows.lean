/-
  NARROWER THAN 'FOR EVERY INPUT', by the rows' own cells (each row's printed sentence says how): GadgetNames: laid · GadgetNil: laid · GadgetDesks: laid.
  DERIVED. THE GIVEN ROWS OF THIS SEAT. 3 by the template 'for every input the law returns true; each argument reads behind the call as it read before'; 0 by the template 'total and deterministic' (their statements: YtebmaneogekhjaaGreatDoorTotals.lean).
  GIVEN WITH THE SEED: the statements are not yours to turn. If you find one false, say at which input.
  Laid BY PROGRAM, IN A SANDBOX (cutbox-rows.mjs): the forced cells as the released guide's own fill.sh prints them over the translation 5a1252cc2fe7a651… (all of the seat's roots in one cut). By AI agents, Wed Nov 11 2026. No macro, syntax, notation, axiom, sorry.
-/
import Derived.Test.YtebmaneogekhjaaGreatDoorChecked
import GoSem.Claim
import GoSem.ClaimJoined
import GoSem.ClaimMapViews
import Derived.JoinedTies
import Derived.KernelRfl
namespace Go.Proofs.YtebmaneogekhjaaGreatDoor
/- THE CELL 'sum', in the pinned program and in every row, IS THE sha256 OF THE DUMP (.gsa) THAT YtebmaneogekhjaaGreatDoorProg.lean LOADS. Nothing in Lean hashes anything: it is a label: what it is worth is what the hold of that sum in a sandbox is worth. -/
noncomputable def Tryz.pinned : Pinned := { name := "ytebmaneogekhjaagreatdoor", sum := "5a1252cc2fe7a65159ecdcee7a3e6db3f789f1befaa84f98c4759aba4dd1530c", checked := Tryz.checked }
namespace Rows
def none {H : Type} : Left H := { results := [], args := [] }

/- WHAT THE LISTED PACKAGE-LEVEL VARIABLES READ AS WHEN THE CALL BEGINS. Each datum BY PROGRAM (the guide's laid-datum.mjs) off the statement by which the dump's own 'gosem.cut.vars' lays the variable. In a bare row this is a premise. The card (YtebmaneogekhjaaGreatDoorCards.lean) ties it to the program's text. -/
def laid_veil_scalar_table {H : Type} : DataW H := .agg [.agg [.lit (.int .u64 6346243789798364141), .lit (.int .u64 1503914060200516822), .lit (.int .u64 0), .lit (.int .u64 1152921504606846976)], .agg [.lit (.int .u64 15486807595281847581), .lit (.int .u64 14334777244411350896), .lit (.int .u64 18446744073709551614), .lit (.int .u64 1152921504606846975)], .agg [.lit (.int .u64 11819153939886771969), .lit (.int .u64 14991950615390032711), .lit (.int .u64 14910419812499177061), .lit (.int .u64 259310039853996605)]]

/-- 'veillaw20.GadgetNames': WHATEVER THE INPUT: true; the input reads as it did. -/
def gadgetNamesSpec : ChangeSpec := { name := "gadgetNames", fn := fun _ => fun
  | [] => { results := [.lit (.bool true)], args := [] }
  | _ => none }
def gadgetNamesRow : OpenClaim := { program := "ytebmaneogekhjaagreatdoor", sum := "5a1252cc2fe7a65159ecdcee7a3e6db3f789f1befaa84f98c4759aba4dd1530c", func := "veil/veillaw20.GadgetNames", spec := "gadgetNames", inPlace := ["math/bits.Add64", "math/bits.Sub64"], unfollowed := true, recurses := true, named := ["veil/scalar.table"], plainKeys := false, apart := false, laid := [("veil/scalar.table", laid_veil_scalar_table)] }
def GadgetNamesSaid : Prop := gadgetNamesRow.holds Tryz.pinned (OpenSpec.ofChange gadgetNamesSpec)

/-- ITS FALSE NEIGHBOUR: 'it returns false'. Refute it at one input. -/
def gadgetNamesWrong : ChangeSpec := { name := "gadgetNames", fn := fun _ => fun
  | [] => { results := [.lit (.bool false)], args := [] }
  | _ => none }
def GadgetNamesWrongFalsely : Prop := gadgetNamesRow.holds Tryz.pinned (OpenSpec.ofChange gadgetNamesWrong)

/-- 'veillaw20.GadgetNil': WHATEVER THE INPUT: true; the input reads as it did. -/
def gadgetNilSpec : ChangeSpec := { name := "gadgetNil", fn := fun _ => fun
  | [] => { results := [.lit (.bool true)], args := [] }
  | _ => none }
def gadgetNilRow : OpenClaim := { program := "ytebmaneogekhjaagreatdoor", sum := "5a1252cc2fe7a65159ecdcee7a3e6db3f789f1befaa84f98c4759aba4dd1530c", func := "veil/veillaw20.GadgetNil", spec := "gadgetNil", inPlace := ["math/bits.Add64", "math/bits.Sub64"], unfollowed := true, recurses := true, named := ["veil/scalar.table"], plainKeys := false, apart := false, laid := [("veil/scalar.table", laid_veil_scalar_table)] }
def GadgetNilSaid : Prop := gadgetNilRow.holds Tryz.pinned (OpenSpec.ofChange gadgetNilSpec)

/-- ITS FALSE NEIGHBOUR: 'it returns false'. Refute it at one input. -/
def gadgetNilWrong : ChangeSpec := { name := "gadgetNil", fn := fun _ => fun
  | [] => { results := [.lit (.bool false)], args := [] }
  | _ => none }
def GadgetNilWrongFalsely : Prop := gadgetNilRow.holds Tryz.pinned (OpenSpec.ofChange gadgetNilWrong)

/-- 'veillaw20.GadgetDesks': WHATEVER THE INPUT: true; the input reads as it did. -/
def gadgetDesksSpec : ChangeSpec := { name := "gadgetDesks", fn := fun _ => fun
  | [d1, d2] => { results := [.lit (.bool true)], args := [d1, d2] }
  | _ => none }
def gadgetDesksRow : OpenClaim := { program := "ytebmaneogekhjaagreatdoor", sum := "5a1252cc2fe7a65159ecdcee7a3e6db3f789f1befaa84f98c4759aba4dd1530c", func := "veil/veillaw20.GadgetDesks", spec := "gadgetDesks", inPlace := ["math/bits.Add64", "math/bits.Sub64"], unfollowed := true, recurses := true, named := ["veil/scalar.table"], plainKeys := false, apart := false, laid := [("veil/scalar.table", laid_veil_scalar_table)] }
def GadgetDesksSaid : Prop := gadgetDesksRow.holds Tryz.pinned (OpenSpec.ofChange gadgetDesksSpec)

/-- ITS FALSE NEIGHBOUR: 'it returns false'. Refute it at one input. -/
def gadgetDesksWrong : ChangeSpec := { name := "gadgetDesks", fn := fun _ => fun
  | [d1, d2] => { results := [.lit (.bool false)], args := [d1, d2] }
  | _ => none }
def GadgetDesksWrongFalsely : Prop := gadgetDesksRow.holds Tryz.pinned (OpenSpec.ofChange gadgetDesksWrong)

/- THE SECOND FORM. 'bulk': how many values and letters a reading holds, each counted each time it is reached (what is shared counts as often as it is met; a slice's spare places count too). A statement '..UptoSaid' is the law's where the arguments, and the package variables that the reading takes, are together of bulk at most 1048576: NARROWER than '..Said'. Prove '..Said' where nothing that the law and all that it calls make is longer than what came in: it says more and counts as full. Else prove '..UptoSaid'. A law counts once. -/
mutual
def uptoBulk {H : Type} : DataW H → Nat
  | .lit (.string bytes) => bytes.length + 1
  | .lit _ => 1
  | .nil => 1
  | .ptr d => uptoBulk d + 1
  | .slice elems spare => uptoBulkAll elems + uptoBulkAll spare + 1
  | .agg parts => uptoBulkAll parts + 1
  | .iface _ d => uptoBulk d + 1
  | .map entries => uptoBulkEntries entries + 1
  | .held _ => 1
def uptoBulkAll {H : Type} : List (DataW H) → Nat
  | [] => 0
  | d :: r => uptoBulk d + uptoBulkAll r
def uptoBulkEntries {H : Type} : List (Lit × DataW H) → Nat
  | [] => 0
  | x :: r => uptoBulkEntry x + uptoBulkEntries r
def uptoBulkEntry {H : Type} : Lit × DataW H → Nat
  | (.string bytes, d) => bytes.length + uptoBulk d + 1
  | (_, d) => uptoBulk d + 1
 end
def uptoSmall : (H : Type) → List (DataW H) → Bool := fun _ ds => decide (uptoBulkAll ds ≤ 1048576)
def OpenSpec.upto (s : _root_.Go.ChangeSpec) : _root_.Go.OpenSpec := { _root_.Go.OpenSpec.ofChange s with cond := some uptoSmall }

/-- 'veillaw20.GadgetNames', WHERE WHAT IT READS IS OF BULK AT MOST 1048576: true; the input reads as it did. -/
def gadgetNamesUptoRow : OpenClaim := { program := "ytebmaneogekhjaagreatdoor", sum := "5a1252cc2fe7a65159ecdcee7a3e6db3f789f1befaa84f98c4759aba4dd1530c", func := "veil/veillaw20.GadgetNames", spec := "gadgetNames", inPlace := ["math/bits.Add64", "math/bits.Sub64"], unfollowed := true, recurses := true, named := ["veil/scalar.table"], plainKeys := false, apart := false, laid := [("veil/scalar.table", laid_veil_scalar_table)], narrowed := true }
def GadgetNamesUptoSaid : Prop := gadgetNamesUptoRow.holds Tryz.pinned (OpenSpec.upto gadgetNamesSpec)

/-- 'veillaw20.GadgetNil', WHERE WHAT IT READS IS OF BULK AT MOST 1048576: true; the input reads as it did. -/
def gadgetNilUptoRow : OpenClaim := { program := "ytebmaneogekhjaagreatdoor", sum := "5a1252cc2fe7a65159ecdcee7a3e6db3f789f1befaa84f98c4759aba4dd1530c", func := "veil/veillaw20.GadgetNil", spec := "gadgetNil", inPlace := ["math/bits.Add64", "math/bits.Sub64"], unfollowed := true, recurses := true, named := ["veil/scalar.table"], plainKeys := false, apart := false, laid := [("veil/scalar.table", laid_veil_scalar_table)], narrowed := true }
def GadgetNilUptoSaid : Prop := gadgetNilUptoRow.holds Tryz.pinned (OpenSpec.upto gadgetNilSpec)

/-- 'veillaw20.GadgetDesks', WHERE WHAT IT READS IS OF BULK AT MOST 1048576: true; the input reads as it did. -/
def gadgetDesksUptoRow : OpenClaim := { program := "ytebmaneogekhjaagreatdoor", sum := "5a1252cc2fe7a65159ecdcee7a3e6db3f789f1befaa84f98c4759aba4dd1530c", func := "veil/veillaw20.GadgetDesks", spec := "gadgetDesks", inPlace := ["math/bits.Add64", "math/bits.Sub64"], unfollowed := true, recurses := true, named := ["veil/scalar.table"], plainKeys := false, apart := false, laid := [("veil/scalar.table", laid_veil_scalar_table)], narrowed := true }
def GadgetDesksUptoSaid : Prop := gadgetDesksUptoRow.holds Tryz.pinned (OpenSpec.upto gadgetDesksSpec)

end Rows
end Go.Proofs.YtebmaneogekhjaaGreatDoor
