/-
  NARROWER THAN 'FOR EVERY INPUT', by the rows' own cells (each row's printed sentence says how): GadgetShuffles: laid · GadgetOwn: laid · GadgetSound: laid · GadgetHolds: laid · GadgetPlays: laid · GadgetBlind: laid.
  DERIVED. THE GIVEN ROWS OF THIS SEAT. 6 by the template 'for every input the law returns true; each argument reads behind the call as it read before'; 0 by the template 'total and deterministic' (their statements: YtljmgfclhbadjaaGreatDoorTotals.lean).
  GIVEN WITH THE SEED: the statements are not yours to turn. If you find one false, say at which input.
  Laid BY PROGRAM, IN A SANDBOX (cutbox-rows.mjs): the forced cells as the released guide's own fill.sh prints them over the translation 9adc62fbc3ca634b… (all of the seat's roots in one cut). By AI agents, Wed Nov 11 2026. No macro, syntax, notation, axiom, sorry.
-/
import Derived.Test.YtljmgfclhbadjaaGreatDoorChecked
import GoSem.Claim
import GoSem.ClaimJoined
import GoSem.ClaimMapViews
import Derived.JoinedTies
import Derived.KernelRfl
namespace Go.Proofs.YtljmgfclhbadjaaGreatDoor
/- THE CELL 'sum', in the pinned program and in every row, IS THE sha256 OF THE DUMP (.gsa) THAT YtljmgfclhbadjaaGreatDoorProg.lean LOADS. Nothing in Lean hashes anything: it is a label: what it is worth is what the hold of that sum in a sandbox is worth. -/
noncomputable def Tryz.pinned : Pinned := { name := "ytljmgfclhbadjaagreatdoor", sum := "9adc62fbc3ca634bef28273ea2619c16eb426fa1176c1e5d5ea1a5857e1005c3", checked := Tryz.checked }
namespace Rows
def none {H : Type} : Left H := { results := [], args := [] }

/- WHAT THE LISTED PACKAGE-LEVEL VARIABLES READ AS WHEN THE CALL BEGINS. Each datum BY PROGRAM (the guide's laid-datum.mjs) off the statement by which the dump's own 'gosem.cut.vars' lays the variable. In a bare row this is a premise. The card (YtljmgfclhbadjaaGreatDoorCards.lean) ties it to the program's text. -/
def laid_veil_scalar_table {H : Type} : DataW H := .agg [.agg [.lit (.int .u64 6346243789798364141), .lit (.int .u64 1503914060200516822), .lit (.int .u64 0), .lit (.int .u64 1152921504606846976)], .agg [.lit (.int .u64 15486807595281847581), .lit (.int .u64 14334777244411350896), .lit (.int .u64 18446744073709551614), .lit (.int .u64 1152921504606846975)], .agg [.lit (.int .u64 11819153939886771969), .lit (.int .u64 14991950615390032711), .lit (.int .u64 14910419812499177061), .lit (.int .u64 259310039853996605)]]
def laid_veil_veillaw20_mark {H : Type} : DataW H := .agg [.agg [.lit (.int .i64 77), .lit (.int .i64 77)], .agg [.lit (.int .u64 77), .lit (.int .u64 0), .lit (.int .u64 0), .lit (.int .u64 0)]]

/-- 'veillaw20.GadgetShuffles': WHATEVER THE INPUT: true; the input reads as it did. -/
def gadgetShufflesSpec : ChangeSpec := { name := "gadgetShuffles", fn := fun _ => fun
  | [d1, d2, d3] => { results := [.lit (.bool true)], args := [d1, d2, d3] }
  | _ => none }
def gadgetShufflesRow : OpenClaim := { program := "ytljmgfclhbadjaagreatdoor", sum := "9adc62fbc3ca634bef28273ea2619c16eb426fa1176c1e5d5ea1a5857e1005c3", func := "veil/veillaw20.GadgetShuffles", spec := "gadgetShuffles", inPlace := ["math/bits.Add64", "math/bits.Sub64"], unfollowed := true, recurses := true, named := ["veil/scalar.table"], plainKeys := false, apart := false, laid := [("veil/scalar.table", laid_veil_scalar_table)] }
def GadgetShufflesSaid : Prop := gadgetShufflesRow.holds Tryz.pinned (OpenSpec.ofChange gadgetShufflesSpec)

/-- ITS FALSE NEIGHBOUR: 'it returns false'. Refute it at one input. -/
def gadgetShufflesWrong : ChangeSpec := { name := "gadgetShuffles", fn := fun _ => fun
  | [d1, d2, d3] => { results := [.lit (.bool false)], args := [d1, d2, d3] }
  | _ => none }
def GadgetShufflesWrongFalsely : Prop := gadgetShufflesRow.holds Tryz.pinned (OpenSpec.ofChange gadgetShufflesWrong)

/-- 'veillaw20.GadgetOwn': WHATEVER THE INPUT: true; the input reads as it did. -/
def gadgetOwnSpec : ChangeSpec := { name := "gadgetOwn", fn := fun _ => fun
  | [d1, d2] => { results := [.lit (.bool true)], args := [d1, d2] }
  | _ => none }
def gadgetOwnRow : OpenClaim := { program := "ytljmgfclhbadjaagreatdoor", sum := "9adc62fbc3ca634bef28273ea2619c16eb426fa1176c1e5d5ea1a5857e1005c3", func := "veil/veillaw20.GadgetOwn", spec := "gadgetOwn", inPlace := ["math/bits.Add64", "math/bits.Sub64"], unfollowed := true, recurses := true, named := ["veil/scalar.table", "veil/veillaw20.mark"], plainKeys := false, apart := false, laid := [("veil/scalar.table", laid_veil_scalar_table), ("veil/veillaw20.mark", laid_veil_veillaw20_mark)] }
def GadgetOwnSaid : Prop := gadgetOwnRow.holds Tryz.pinned (OpenSpec.ofChange gadgetOwnSpec)

/-- ITS FALSE NEIGHBOUR: 'it returns false'. Refute it at one input. -/
def gadgetOwnWrong : ChangeSpec := { name := "gadgetOwn", fn := fun _ => fun
  | [d1, d2] => { results := [.lit (.bool false)], args := [d1, d2] }
  | _ => none }
def GadgetOwnWrongFalsely : Prop := gadgetOwnRow.holds Tryz.pinned (OpenSpec.ofChange gadgetOwnWrong)

/-- 'veillaw20.GadgetSound': WHATEVER THE INPUT: true; the input reads as it did. -/
def gadgetSoundSpec : ChangeSpec := { name := "gadgetSound", fn := fun _ => fun
  | [d1, d2, d3] => { results := [.lit (.bool true)], args := [d1, d2, d3] }
  | _ => none }
def gadgetSoundRow : OpenClaim := { program := "ytljmgfclhbadjaagreatdoor", sum := "9adc62fbc3ca634bef28273ea2619c16eb426fa1176c1e5d5ea1a5857e1005c3", func := "veil/veillaw20.GadgetSound", spec := "gadgetSound", inPlace := ["math/bits.Add64", "math/bits.Sub64"], unfollowed := true, recurses := true, named := ["veil/scalar.table", "veil/veillaw20.mark"], plainKeys := false, apart := false, laid := [("veil/scalar.table", laid_veil_scalar_table), ("veil/veillaw20.mark", laid_veil_veillaw20_mark)] }
def GadgetSoundSaid : Prop := gadgetSoundRow.holds Tryz.pinned (OpenSpec.ofChange gadgetSoundSpec)

/-- ITS FALSE NEIGHBOUR: 'it returns false'. Refute it at one input. -/
def gadgetSoundWrong : ChangeSpec := { name := "gadgetSound", fn := fun _ => fun
  | [d1, d2, d3] => { results := [.lit (.bool false)], args := [d1, d2, d3] }
  | _ => none }
def GadgetSoundWrongFalsely : Prop := gadgetSoundRow.holds Tryz.pinned (OpenSpec.ofChange gadgetSoundWrong)

/-- 'veillaw20.GadgetHolds': WHATEVER THE INPUT: true; the input reads as it did. -/
def gadgetHoldsSpec : ChangeSpec := { name := "gadgetHolds", fn := fun _ => fun
  | [d1, d2] => { results := [.lit (.bool true)], args := [d1, d2] }
  | _ => none }
def gadgetHoldsRow : OpenClaim := { program := "ytljmgfclhbadjaagreatdoor", sum := "9adc62fbc3ca634bef28273ea2619c16eb426fa1176c1e5d5ea1a5857e1005c3", func := "veil/veillaw20.GadgetHolds", spec := "gadgetHolds", inPlace := ["math/bits.Add64", "math/bits.Sub64"], unfollowed := true, recurses := true, named := ["veil/scalar.table", "veil/veillaw20.mark"], plainKeys := false, apart := false, laid := [("veil/scalar.table", laid_veil_scalar_table), ("veil/veillaw20.mark", laid_veil_veillaw20_mark)] }
def GadgetHoldsSaid : Prop := gadgetHoldsRow.holds Tryz.pinned (OpenSpec.ofChange gadgetHoldsSpec)

/-- ITS FALSE NEIGHBOUR: 'it returns false'. Refute it at one input. -/
def gadgetHoldsWrong : ChangeSpec := { name := "gadgetHolds", fn := fun _ => fun
  | [d1, d2] => { results := [.lit (.bool false)], args := [d1, d2] }
  | _ => none }
def GadgetHoldsWrongFalsely : Prop := gadgetHoldsRow.holds Tryz.pinned (OpenSpec.ofChange gadgetHoldsWrong)

/-- 'veillaw20.GadgetPlays': WHATEVER THE INPUT: true; the input reads as it did. -/
def gadgetPlaysSpec : ChangeSpec := { name := "gadgetPlays", fn := fun _ => fun
  | [d1, d2] => { results := [.lit (.bool true)], args := [d1, d2] }
  | _ => none }
def gadgetPlaysRow : OpenClaim := { program := "ytljmgfclhbadjaagreatdoor", sum := "9adc62fbc3ca634bef28273ea2619c16eb426fa1176c1e5d5ea1a5857e1005c3", func := "veil/veillaw20.GadgetPlays", spec := "gadgetPlays", inPlace := ["math/bits.Add64", "math/bits.Sub64"], unfollowed := true, recurses := true, named := ["veil/scalar.table", "veil/veillaw20.mark"], plainKeys := false, apart := false, laid := [("veil/scalar.table", laid_veil_scalar_table), ("veil/veillaw20.mark", laid_veil_veillaw20_mark)] }
def GadgetPlaysSaid : Prop := gadgetPlaysRow.holds Tryz.pinned (OpenSpec.ofChange gadgetPlaysSpec)

/-- ITS FALSE NEIGHBOUR: 'it returns false'. Refute it at one input. -/
def gadgetPlaysWrong : ChangeSpec := { name := "gadgetPlays", fn := fun _ => fun
  | [d1, d2] => { results := [.lit (.bool false)], args := [d1, d2] }
  | _ => none }
def GadgetPlaysWrongFalsely : Prop := gadgetPlaysRow.holds Tryz.pinned (OpenSpec.ofChange gadgetPlaysWrong)

/-- 'veillaw20.GadgetBlind': WHATEVER THE INPUT: true; the input reads as it did. -/
def gadgetBlindSpec : ChangeSpec := { name := "gadgetBlind", fn := fun _ => fun
  | [d1, d2] => { results := [.lit (.bool true)], args := [d1, d2] }
  | _ => none }
def gadgetBlindRow : OpenClaim := { program := "ytljmgfclhbadjaagreatdoor", sum := "9adc62fbc3ca634bef28273ea2619c16eb426fa1176c1e5d5ea1a5857e1005c3", func := "veil/veillaw20.GadgetBlind", spec := "gadgetBlind", inPlace := ["math/bits.Add64", "math/bits.Sub64"], unfollowed := true, recurses := true, named := ["veil/scalar.table", "veil/veillaw20.mark"], plainKeys := false, apart := false, laid := [("veil/scalar.table", laid_veil_scalar_table), ("veil/veillaw20.mark", laid_veil_veillaw20_mark)] }
def GadgetBlindSaid : Prop := gadgetBlindRow.holds Tryz.pinned (OpenSpec.ofChange gadgetBlindSpec)

/-- ITS FALSE NEIGHBOUR: 'it returns false'. Refute it at one input. -/
def gadgetBlindWrong : ChangeSpec := { name := "gadgetBlind", fn := fun _ => fun
  | [d1, d2] => { results := [.lit (.bool false)], args := [d1, d2] }
  | _ => none }
def GadgetBlindWrongFalsely : Prop := gadgetBlindRow.holds Tryz.pinned (OpenSpec.ofChange gadgetBlindWrong)

/- THE SECOND FORM. 'bulk': how many values and letters a reading holds, each counted each time it is reached (what is shared counts as often as it is met; a slice's spare places count too). A statement '..UptoSaid' is the law's where the arguments, and the package variables that the reading takes, are together of bulk at most 1048576: NARROWER than '..Said'. Prove '..Said' where nothing that the law and all that it calls make is longer than what came in: it says more and counts as full. Else prove '..UptoSaid'. A law counts once. -/
mutual
def uptoBulk {H : Type} : DataW H → Nat
  | .lit (.string bytes) => bytes.length + 1
  | .lit _ => 1
  | .nil => 1
  | .ptr d => uptoBulk d + 1
  | .slice elems spare => uptoBulkAll elems + uptoBulkAll spare + 1
  | .agg parts => uptoBulkAll parts + 1
  | .iface _ d => uptoBulk d + 1
  | .map entries => uptoBulkEntries entries + 1
  | .held _ => 1
def uptoBulkAll {H : Type} : List (DataW H) → Nat
  | [] => 0
  | d :: r => uptoBulk d + uptoBulkAll r
def uptoBulkEntries {H : Type} : List (Lit × DataW H) → Nat
  | [] => 0
  | x :: r => uptoBulkEntry x + uptoBulkEntries r
def uptoBulkEntry {H : Type} : Lit × DataW H → Nat
  | (.string bytes, d) => bytes.length + uptoBulk d + 1
  | (_, d) => uptoBulk d + 1
 end
def uptoSmall : (H : Type) → List (DataW H) → Bool := fun _ ds => decide (uptoBulkAll ds ≤ 1048576)
def OpenSpec.upto (s : _root_.Go.ChangeSpec) : _root_.Go.OpenSpec := { _root_.Go.OpenSpec.ofChange s with cond := some uptoSmall }

/-- 'veillaw20.GadgetShuffles', WHERE WHAT IT READS IS OF BULK AT MOST 1048576: true; the input reads as it did. -/
def gadgetShufflesUptoRow : OpenClaim := { program := "ytljmgfclhbadjaagreatdoor", sum := "9adc62fbc3ca634bef28273ea2619c16eb426fa1176c1e5d5ea1a5857e1005c3", func := "veil/veillaw20.GadgetShuffles", spec := "gadgetShuffles", inPlace := ["math/bits.Add64", "math/bits.Sub64"], unfollowed := true, recurses := true, named := ["veil/scalar.table"], plainKeys := false, apart := false, laid := [("veil/scalar.table", laid_veil_scalar_table)], narrowed := true }
def GadgetShufflesUptoSaid : Prop := gadgetShufflesUptoRow.holds Tryz.pinned (OpenSpec.upto gadgetShufflesSpec)

/-- 'veillaw20.GadgetOwn', WHERE WHAT IT READS IS OF BULK AT MOST 1048576: true; the input reads as it did. -/
def gadgetOwnUptoRow : OpenClaim := { program := "ytljmgfclhbadjaagreatdoor", sum := "9adc62fbc3ca634bef28273ea2619c16eb426fa1176c1e5d5ea1a5857e1005c3", func := "veil/veillaw20.GadgetOwn", spec := "gadgetOwn", inPlace := ["math/bits.Add64", "math/bits.Sub64"], unfollowed := true, recurses := true, named := ["veil/scalar.table", "veil/veillaw20.mark"], plainKeys := false, apart := false, laid := [("veil/scalar.table", laid_veil_scalar_table), ("veil/veillaw20.mark", laid_veil_veillaw20_mark)], narrowed := true }
def GadgetOwnUptoSaid : Prop := gadgetOwnUptoRow.holds Tryz.pinned (OpenSpec.upto gadgetOwnSpec)

/-- 'veillaw20.GadgetSound', WHERE WHAT IT READS IS OF BULK AT MOST 1048576: true; the input reads as it did. -/
def gadgetSoundUptoRow : OpenClaim := { program := "ytljmgfclhbadjaagreatdoor", sum := "9adc62fbc3ca634bef28273ea2619c16eb426fa1176c1e5d5ea1a5857e1005c3", func := "veil/veillaw20.GadgetSound", spec := "gadgetSound", inPlace := ["math/bits.Add64", "math/bits.Sub64"], unfollowed := true, recurses := true, named := ["veil/scalar.table", "veil/veillaw20.mark"], plainKeys := false, apart := false, laid := [("veil/scalar.table", laid_veil_scalar_table), ("veil/veillaw20.mark", laid_veil_veillaw20_mark)], narrowed := true }
def GadgetSoundUptoSaid : Prop := gadgetSoundUptoRow.holds Tryz.pinned (OpenSpec.upto gadgetSoundSpec)

/-- 'veillaw20.GadgetHolds', WHERE WHAT IT READS IS OF BULK AT MOST 1048576: true; the input reads as it did. -/
def gadgetHoldsUptoRow : OpenClaim := { program := "ytljmgfclhbadjaagreatdoor", sum := "9adc62fbc3ca634bef28273ea2619c16eb426fa1176c1e5d5ea1a5857e1005c3", func := "veil/veillaw20.GadgetHolds", spec := "gadgetHolds", inPlace := ["math/bits.Add64", "math/bits.Sub64"], unfollowed := true, recurses := true, named := ["veil/scalar.table", "veil/veillaw20.mark"], plainKeys := false, apart := false, laid := [("veil/scalar.table", laid_veil_scalar_table), ("veil/veillaw20.mark", laid_veil_veillaw20_mark)], narrowed := true }
def GadgetHoldsUptoSaid : Prop := gadgetHoldsUptoRow.holds Tryz.pinned (OpenSpec.upto gadgetHoldsSpec)

/-- 'veillaw20.GadgetPlays', WHERE WHAT IT READS IS OF BULK AT MOST 1048576: true; the input reads as it did. -/
def gadgetPlaysUptoRow : OpenClaim := { program := "ytljmgfclhbadjaagreatdoor", sum := "9adc62fbc3ca634bef28273ea2619c16eb426fa1176c1e5d5ea1a5857e1005c3", func := "veil/veillaw20.GadgetPlays", spec := "gadgetPlays", inPlace := ["math/bits.Add64", "math/bits.Sub64"], unfollowed := true, recurses := true, named := ["veil/scalar.table", "veil/veillaw20.mark"], plainKeys := false, apart := false, laid := [("veil/scalar.table", laid_veil_scalar_table), ("veil/veillaw20.mark", laid_veil_veillaw20_mark)], narrowed := true }
def GadgetPlaysUptoSaid : Prop := gadgetPlaysUptoRow.holds Tryz.pinned (OpenSpec.upto gadgetPlaysSpec)

/-- 'veillaw20.GadgetBlind', WHERE WHAT IT READS IS OF BULK AT MOST 1048576: true; the input reads as it did. -/
def gadgetBlindUptoRow : OpenClaim := { program := "ytljmgfclhbadjaagreatdoor", sum := "9adc62fbc3ca634bef28273ea2619c16eb426fa1176c1e5d5ea1a5857e1005c3", func := "veil/veillaw20.GadgetBlind", spec := "gadgetBlind", inPlace := ["math/bits.Add64", "math/bits.Sub64"], unfollowed := true, recurses := true, named := ["veil/scalar.table", "veil/veillaw20.mark"], plainKeys := false, apart := false, laid := [("veil/scalar.table", laid_veil_scalar_table), ("veil/veillaw20.mark", laid_veil_veillaw20_mark)], narrowed := true }
def GadgetBlindUptoSaid : Prop := gadgetBlindUptoRow.holds Tryz.pinned (OpenSpec.upto gadgetBlindSpec)

end Rows
end Go.Proofs.YtljmgfclhbadjaaGreatDoor
