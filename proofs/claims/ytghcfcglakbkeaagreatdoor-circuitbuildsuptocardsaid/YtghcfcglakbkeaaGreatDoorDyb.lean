import Derived.Test.YtghcfcglakbkeaaGreatDoorDya
namespace Go.Proofs.YtghcfcglakbkeaaGreatDoor
set_option maxRecDepth 100000
set_option maxHeartbeats 16000000
open Go.RowKit
set_option linter.unusedVariables false
set_option linter.unusedSimpArgs false
open Cm (Wr Tm co bf Ls lf ins Eqm)
namespace Ci
def pDyb0 : String := "circuit.go:137"
def pDyb1 : String := "circuit.go:139"
def th7to_0 : Oper := oO 16 (Op.fieldAddr 67 (Operand.tmp 3) 1) 0 pDyb0 #[]
def th7to_1 : Oper := oO 17 (Op.load 3 (Operand.tmp 16)) 3 pDyb0 #[DD 0]
def th7to_2 : Oper := oO 18 (Op.binOp BinOp.geq 3 (Operand.tmp 17) (Operand.const (Value.int IntKind.i64 0)) 3) 4 pDyb0 #[DD 1]
def th7to_3 : Oper := oO 19 (Op.move (Operand.tmp 18)) 4 pDyb0 #[DD 2]
def th7to_4 : Oper := { dst := some 20, op := Op.fieldAddr 67 (Operand.tmp 3) 1, type := 0, pos := "circuit.go:137", after := #[GU 3], guard := some (3, true) }
def th7to_5 : Oper := { dst := some 21, op := Op.load 3 (Operand.tmp 20), type := 3, pos := "circuit.go:137", after := #[DD 4, GU 3], guard := some (3, true) }
def th7to_6 : Oper := { dst := some 22, op := Op.move (Operand.tmp 0), type := 47, pos := "circuit.go:137", after := #[GU 3], guard := some (3, true) }
def th7to_7 : Oper := { dst := some 23, op := Op.nilCheck (Operand.tmp 22), type := 0, pos := "circuit.go:137", after := #[DD 6, GU 3], guard := some (3, true) }
def th7to_8 : Oper := { dst := some 24, op := Op.fieldAddr 97 (Operand.tmp 23) 1, type := 0, pos := "circuit.go:137", after := #[DD 7, GU 3], guard := some (3, true) }
def th7to_9 : Oper := { dst := some 25, op := Op.load 3 (Operand.tmp 24), type := 3, pos := "circuit.go:137", after := #[DD 8, GU 3], guard := some (3, true) }
def th7to_10 : Oper := { dst := some 26, op := Op.binOp BinOp.lss 3 (Operand.tmp 21) (Operand.tmp 25) 3, type := 4, pos := "circuit.go:137", after := #[DD 5, DD 9, GU 3], guard := some (3, true) }
def th7to_11 : Oper := oO 27 (Op.pick (Operand.tmp 19) (Operand.tmp 26) (Operand.const (Value.bool false))) 4 pDyb0 #[DD 3, DD 10]
def th7to_12 : Oper := oO 4 (Op.assign (Operand.tmp 27)) 4 pDyb0 #[DD 11, CH 3, PH 0, PH 1, PH 2, PH 3, PH 4, PH 5, PH 6, PH 7, PH 8, PH 9, PH 10, PH 11]
def th7to : Array Oper := #[th7to_0, th7to_1, th7to_2, th7to_3, th7to_4, th7to_5, th7to_6, th7to_7, th7to_8, th7to_9, th7to_10, th7to_11, th7to_12]
theorem th7t (Q : Exit → Act → World → Prop) (s T m Kg : Nat) (qi : Int) (u1 u2 u4 u5 u6 u7 u8 u9 aa ab ad ae af ag ah ai aj ak al am ao ap aq au av aw ax ay az aA aB aC aD aE aF aG aH aI aJ aK : Value) (W : World)
  (l3 : 0 ≤ qi) (t1 : W.cell? ⟨T, 1, none⟩ = some (.int .i64 qi)) (s1 : W.cell? ⟨s, 1, none⟩ = some (.int .i64 (Kg : Int)))
  (HQ : Hid (∀ (wz : World), Below W.heap.size W wz → Q .normal ⟨#[.pointer (some ⟨s, 0, none⟩), u1, u2, .pointer (some ⟨T, 0, none⟩), .bool (decide (qi < (Kg : Int))), u5, u6, u7, u8, u9, aa, ab, ad, ae, af, ag, .pointer (some ⟨T, 1, none⟩), .int .i64 qi, .bool true, .bool true, .pointer (some ⟨T, 1, none⟩), .int .i64 qi, .pointer (some ⟨s, 0, none⟩), .pointer (some ⟨s, 0, none⟩), .pointer (some ⟨s, 1, none⟩), .int .i64 (Kg : Int), .bool (decide (qi < (Kg : Int))), .bool (decide (qi < (Kg : Int))), ax, ay, az, aA, aB, aC, aD, aE, aF, aG, aH, aI, aJ, aK], []⟩ wz)) : (Code.region 7 th7to true).wp Tryz.prog Q ⟨#[.pointer (some ⟨s, 0, none⟩), u1, u2, .pointer (some ⟨T, 0, none⟩), u4, u5, u6, u7, u8, u9, aa, ab, ad, ae, af, ag, ah, ai, aj, ak, al, am, ao, ap, aq, au, av, aw, ax, ay, az, aA, aB, aC, aD, aE, aF, aG, aH, aI, aJ, aK], []⟩ W := by
 unfold th7to
 refine wp_region_noPanic ?_
 refine wp_region_held_drew (S := fun x => Below W.heap.size W x) (by kernel_rfl) (bl_drew W) (fun hH0 => ?_)
 refine tj 0 th7to_0 (.pointer (some ⟨T, 1, none⟩)) hH0 (fun w0 hSw => ?_) ?_
 ·(unfold th7to_0 oO; clear hSw; go_simp)
 simp only [th7to_0, oO, Act.put, sA, sB, sC]
 refine tj 1 th7to_1 (.int .i64 qi) hH0 (fun w0 hSw => ?_) ?_
 ·(unfold th7to_1 oO; have hS : Below W.heap.size W w0 := hSw; have a0 := cell_keep t1 hS; clear hS hSw; go_simp)
 simp only [th7to_1, oO, Act.put, sA, sB, sC]
 refine tj 2 th7to_2 (.bool true) hH0 (fun w0 hSw => ?_) ?_
 ·(unfold th7to_2 oO; clear hSw; go_simp)
 simp only [th7to_2, oO, Act.put, sA, sB, sC]
 refine tj 3 th7to_3 (.bool true) hH0 (fun w0 hSw => ?_) ?_
 ·(unfold th7to_3 oO; clear hSw; go_simp)
 simp only [th7to_3, oO, Act.put, sA, sB, sC]
 refine tj 4 th7to_4 (.pointer (some ⟨T, 1, none⟩)) hH0 (fun w0 hSw => ?_) ?_
 ·(unfold th7to_4; clear hSw; go_simp)
 simp only [th7to_4, Act.put, sA, sB, sC]
 refine tj 6 th7to_6 (.pointer (some ⟨s, 0, none⟩)) hH0 (fun w0 hSw => ?_) ?_
 ·(unfold th7to_6; clear hSw; go_simp)
 simp only [th7to_6, Act.put, sA, sB, sC]
 refine tj 5 th7to_5 (.int .i64 qi) hH0 (fun w0 hSw => ?_) ?_
 ·(unfold th7to_5; have hS : Below W.heap.size W w0 := hSw; have a0 := cell_keep t1 hS; clear hS hSw; go_simp)
 simp only [th7to_5, Act.put, sA, sB, sC]
 refine tj 7 th7to_7 (.pointer (some ⟨s, 0, none⟩)) hH0 (fun w0 hSw => ?_) ?_
 ·(unfold th7to_7; clear hSw; go_simp)
 simp only [th7to_7, Act.put, sA, sB, sC]
 refine tj 8 th7to_8 (.pointer (some ⟨s, 1, none⟩)) hH0 (fun w0 hSw => ?_) ?_
 ·(unfold th7to_8; clear hSw; go_simp)
 simp only [th7to_8, Act.put, sA, sB, sC]
 refine tj 9 th7to_9 (.int .i64 (Kg : Int)) hH0 (fun w0 hSw => ?_) ?_
 ·(unfold th7to_9; have hS : Below W.heap.size W w0 := hSw; have a0 := cell_keep s1 hS; clear hS hSw; go_simp)
 simp only [th7to_9, Act.put, sA, sB, sC]
 refine tj 10 th7to_10 (.bool (decide (qi < (Kg : Int)))) hH0 (fun w0 hSw => ?_) ?_
 ·(unfold th7to_10; clear hSw; go_simp)
 simp only [th7to_10, Act.put, sA, sB, sC]
 refine tj 11 th7to_11 (.bool (decide (qi < (Kg : Int)))) hH0 (fun w0 hSw => ?_) ?_
 ·(unfold th7to_11 oO; clear hSw; go_simp)
 simp only [th7to_11, oO, Act.put, sA, sB, sC]
 refine tj 12 th7to_12 (.bool (decide (qi < (Kg : Int)))) hH0 (fun w0 hSw => ?_) ?_
 ·(unfold th7to_12 oO; clear hSw; go_simp)
 simp only [th7to_12, oO, Act.put, sA, sB, sC]
 have HH := Hn hH0
 have FQ := Hn (HQ.out _ HH.out)
 refine wpAnyH_done (by kernel_rfl) ?_ _
 refine NoPanic.normal ?_
 exact FQ.out
def th7fo : Array Oper := #[th7to_0,
 th7to_1,
 th7to_2,
 th7to_3,
 th7to_4,
 th7to_5,
 th7to_6,
 th7to_7,
 th7to_8,
 th7to_9,
 th7to_10,
 th7to_11,
 th7to_12]
theorem th7f (Q : Exit → Act → World → Prop) (s T m Kg : Nat) (qi : Int) (u1 u2 u4 u5 u6 u7 u8 u9 aa ab ad ae af ag ah ai aj ak al am ao ap aq au av aw ax ay az aA aB aC aD aE aF aG aH aI aJ aK : Value) (W : World)
  (l3 : ¬ 0 ≤ qi) (t1 : W.cell? ⟨T, 1, none⟩ = some (.int .i64 qi))
  (HQ : Hid (∀ (wz : World), Below W.heap.size W wz → Q .normal ⟨#[.pointer (some ⟨s, 0, none⟩), u1, u2, .pointer (some ⟨T, 0, none⟩), .bool false, u5, u6, u7, u8, u9, aa, ab, ad, ae, af, ag, .pointer (some ⟨T, 1, none⟩), .int .i64 qi, .bool false, .bool false, undef, undef, undef, undef, undef, undef, undef, .bool false, ax, ay, az, aA, aB, aC, aD, aE, aF, aG, aH, aI, aJ, aK], []⟩ wz)) : (Code.region 7 th7fo true).wp Tryz.prog Q ⟨#[.pointer (some ⟨s, 0, none⟩), u1, u2, .pointer (some ⟨T, 0, none⟩), u4, u5, u6, u7, u8, u9, aa, ab, ad, ae, af, ag, ah, ai, aj, ak, al, am, ao, ap, aq, au, av, aw, ax, ay, az, aA, aB, aC, aD, aE, aF, aG, aH, aI, aJ, aK], []⟩ W := by
 unfold th7fo
 refine wp_region_noPanic ?_
 refine wp_region_held_drew (S := fun x => Below W.heap.size W x) (by kernel_rfl) (bl_drew W) (fun hH0 => ?_)
 refine tj 0 th7to_0 (.pointer (some ⟨T, 1, none⟩)) hH0 (fun w0 hSw => ?_) ?_
 ·(unfold th7to_0 oO; clear hSw; go_simp)
 simp only [th7to_0, oO, Act.put, sA, sB, sC]
 refine tj 1 th7to_1 (.int .i64 qi) hH0 (fun w0 hSw => ?_) ?_
 ·(unfold th7to_1 oO; have hS : Below W.heap.size W w0 := hSw; have a0 := cell_keep t1 hS; clear hS hSw; go_simp)
 simp only [th7to_1, oO, Act.put, sA, sB, sC]
 refine tj 2 th7to_2 (.bool false) hH0 (fun w0 hSw => ?_) ?_
 ·(unfold th7to_2 oO; clear hSw; go_simp)
 simp only [th7to_2, oO, Act.put, sA, sB, sC]
 refine tj 3 th7to_3 (.bool false) hH0 (fun w0 hSw => ?_) ?_
 ·(unfold th7to_3 oO; clear hSw; go_simp)
 simp only [th7to_3, oO, Act.put, sA, sB, sC]
 refine wpAnyH_take (i := 4) (oi := th7to_4) (v := undef) rfl (by kernel_rfl) (by kernel_rfl) (by kernel_rfl) (fun _ _ _ h => h) (Or.inr ⟨by rfl, rfl⟩) hH0 ?_
 simp only [th7to_4, Act.put, sA, sB, sC]
 refine wpAnyH_take (i := 6) (oi := th7to_6) (v := undef) rfl (by kernel_rfl) (by kernel_rfl) (by kernel_rfl) (fun _ _ _ h => h) (Or.inr ⟨by rfl, rfl⟩) hH0 ?_
 simp only [th7to_6, Act.put, sA, sB, sC]
 refine wpAnyH_take (i := 5) (oi := th7to_5) (v := undef) rfl (by kernel_rfl) (by kernel_rfl) (by kernel_rfl) (fun _ _ _ h => h) (Or.inr ⟨by rfl, rfl⟩) hH0 ?_
 simp only [th7to_5, Act.put, sA, sB, sC]
 refine wpAnyH_take (i := 7) (oi := th7to_7) (v := undef) rfl (by kernel_rfl) (by kernel_rfl) (by kernel_rfl) (fun _ _ _ h => h) (Or.inr ⟨by rfl, rfl⟩) hH0 ?_
 simp only [th7to_7, Act.put, sA, sB, sC]
 refine wpAnyH_take (i := 8) (oi := th7to_8) (v := undef) rfl (by kernel_rfl) (by kernel_rfl) (by kernel_rfl) (fun _ _ _ h => h) (Or.inr ⟨by rfl, rfl⟩) hH0 ?_
 simp only [th7to_8, Act.put, sA, sB, sC]
 refine wpAnyH_take (i := 9) (oi := th7to_9) (v := undef) rfl (by kernel_rfl) (by kernel_rfl) (by kernel_rfl) (fun _ _ _ h => h) (Or.inr ⟨by rfl, rfl⟩) hH0 ?_
 simp only [th7to_9, Act.put, sA, sB, sC]
 refine wpAnyH_take (i := 10) (oi := th7to_10) (v := undef) rfl (by kernel_rfl) (by kernel_rfl) (by kernel_rfl) (fun _ _ _ h => h) (Or.inr ⟨by rfl, rfl⟩) hH0 ?_
 simp only [th7to_10, Act.put, sA, sB, sC]
 refine tj 11 th7to_11 (.bool false) hH0 (fun w0 hSw => ?_) ?_
 ·(unfold th7to_11 oO; clear hSw; go_simp)
 simp only [th7to_11, oO, Act.put, sA, sB, sC]
 refine tj 12 th7to_12 (.bool false) hH0 (fun w0 hSw => ?_) ?_
 ·(unfold th7to_12 oO; clear hSw; go_simp)
 simp only [th7to_12, oO, Act.put, sA, sB, sC]
 have HH := Hn hH0
 have FQ := Hn (HQ.out _ HH.out)
 refine wpAnyH_done (by kernel_rfl) ?_ _
 refine NoPanic.normal ?_
 exact FQ.out
def th9to_0 : Oper := oO 30 (Op.fieldAddr 67 (Operand.tmp 3) 1) 0 pDyb1 #[]
def th9to_1 : Oper := oO 31 (Op.load 3 (Operand.tmp 30)) 3 pDyb1 #[DD 0]
def th9to_2 : Oper := oO 32 (Op.binOp BinOp.geq 3 (Operand.tmp 31) (Operand.const (Value.int IntKind.i64 0)) 3) 4 pDyb1 #[DD 1]
def th9to_3 : Oper := oO 33 (Op.move (Operand.tmp 32)) 4 pDyb1 #[DD 2]
def th9to_4 : Oper := { dst := some 34, op := Op.fieldAddr 67 (Operand.tmp 3) 1, type := 0, pos := "circuit.go:139", after := #[GU 3], guard := some (3, true) }
def th9to_5 : Oper := { dst := some 35, op := Op.load 3 (Operand.tmp 34), type := 3, pos := "circuit.go:139", after := #[DD 4, GU 3], guard := some (3, true) }
def th9to_6 : Oper := { dst := some 36, op := Op.move (Operand.tmp 0), type := 47, pos := "circuit.go:139", after := #[GU 3], guard := some (3, true) }
def th9to_7 : Oper := { dst := some 37, op := Op.nilCheck (Operand.tmp 36), type := 0, pos := "circuit.go:139", after := #[DD 6, GU 3], guard := some (3, true) }
def th9to_8 : Oper := { dst := some 38, op := Op.fieldAddr 97 (Operand.tmp 37) 0, type := 0, pos := "circuit.go:139", after := #[DD 7, GU 3], guard := some (3, true) }
def th9to_9 : Oper := { dst := some 39, op := Op.load 3 (Operand.tmp 38), type := 3, pos := "circuit.go:139", after := #[DD 8, GU 3], guard := some (3, true) }
def th9to_10 : Oper := { dst := some 40, op := Op.binOp BinOp.lss 3 (Operand.tmp 35) (Operand.tmp 39) 3, type := 4, pos := "circuit.go:139", after := #[DD 5, DD 9, GU 3], guard := some (3, true) }
def th9to_11 : Oper := oO 41 (Op.pick (Operand.tmp 33) (Operand.tmp 40) (Operand.const (Value.bool false))) 4 pDyb1 #[DD 3, DD 10]
def th9to_12 : Oper := oO 4 (Op.assign (Operand.tmp 41)) 4 pDyb1 #[DD 11, CH 3, PH 0, PH 1, PH 2, PH 3, PH 4, PH 5, PH 6, PH 7, PH 8, PH 9, PH 10, PH 11]
def th9to : Array Oper := #[th9to_0, th9to_1, th9to_2, th9to_3, th9to_4, th9to_5, th9to_6, th9to_7, th9to_8, th9to_9, th9to_10, th9to_11, th9to_12]
theorem th9t (Q : Exit → Act → World → Prop) (s T m Kg : Nat) (qi : Int) (u1 u2 u4 u5 u6 u7 u8 u9 aa ab ad ae af ag ah ai aj ak al am ao ap aq au av aw ax ay az aA aB aC aD aE aF aG aH aI aJ aK : Value) (W : World)
  (l3 : 0 ≤ qi) (t1 : W.cell? ⟨T, 1, none⟩ = some (.int .i64 qi)) (s1 : W.cell? ⟨s, 0, none⟩ = some (.int .i64 (m : Int)))
  (HQ : Hid (∀ (wz : World), Below W.heap.size W wz → Q .normal ⟨#[.pointer (some ⟨s, 0, none⟩), u1, u2, .pointer (some ⟨T, 0, none⟩), .bool (decide (qi < (m : Int))), u5, u6, u7, u8, u9, aa, ab, ad, ae, af, ag, ah, ai, aj, ak, al, am, ao, ap, aq, au, av, aw, ax, ay, .pointer (some ⟨T, 1, none⟩), .int .i64 qi, .bool true, .bool true, .pointer (some ⟨T, 1, none⟩), .int .i64 qi, .pointer (some ⟨s, 0, none⟩), .pointer (some ⟨s, 0, none⟩), .pointer (some ⟨s, 0, none⟩), .int .i64 (m : Int), .bool (decide (qi < (m : Int))), .bool (decide (qi < (m : Int)))], []⟩ wz)) : (Code.region 9 th9to true).wp Tryz.prog Q ⟨#[.pointer (some ⟨s, 0, none⟩), u1, u2, .pointer (some ⟨T, 0, none⟩), u4, u5, u6, u7, u8, u9, aa, ab, ad, ae, af, ag, ah, ai, aj, ak, al, am, ao, ap, aq, au, av, aw, ax, ay, az, aA, aB, aC, aD, aE, aF, aG, aH, aI, aJ, aK], []⟩ W := by
 unfold th9to
 refine wp_region_noPanic ?_
 refine wp_region_held_drew (S := fun x => Below W.heap.size W x) (by kernel_rfl) (bl_drew W) (fun hH0 => ?_)
 refine tj 0 th9to_0 (.pointer (some ⟨T, 1, none⟩)) hH0 (fun w0 hSw => ?_) ?_
 ·(unfold th9to_0 oO; clear hSw; go_simp)
 simp only [th9to_0, oO, Act.put, sA, sB, sC]
 refine tj 1 th9to_1 (.int .i64 qi) hH0 (fun w0 hSw => ?_) ?_
 ·(unfold th9to_1 oO; have hS : Below W.heap.size W w0 := hSw; have a0 := cell_keep t1 hS; clear hS hSw; go_simp)
 simp only [th9to_1, oO, Act.put, sA, sB, sC]
 refine tj 2 th9to_2 (.bool true) hH0 (fun w0 hSw => ?_) ?_
 ·(unfold th9to_2 oO; clear hSw; go_simp)
 simp only [th9to_2, oO, Act.put, sA, sB, sC]
 refine tj 3 th9to_3 (.bool true) hH0 (fun w0 hSw => ?_) ?_
 ·(unfold th9to_3 oO; clear hSw; go_simp)
 simp only [th9to_3, oO, Act.put, sA, sB, sC]
 refine tj 4 th9to_4 (.pointer (some ⟨T, 1, none⟩)) hH0 (fun w0 hSw => ?_) ?_
 ·(unfold th9to_4; clear hSw; go_simp)
 simp only [th9to_4, Act.put, sA, sB, sC]
 refine tj 6 th9to_6 (.pointer (some ⟨s, 0, none⟩)) hH0 (fun w0 hSw => ?_) ?_
 ·(unfold th9to_6; clear hSw; go_simp)
 simp only [th9to_6, Act.put, sA, sB, sC]
 refine tj 5 th9to_5 (.int .i64 qi) hH0 (fun w0 hSw => ?_) ?_
 ·(unfold th9to_5; have hS : Below W.heap.size W w0 := hSw; have a0 := cell_keep t1 hS; clear hS hSw; go_simp)
 simp only [th9to_5, Act.put, sA, sB, sC]
 refine tj 7 th9to_7 (.pointer (some ⟨s, 0, none⟩)) hH0 (fun w0 hSw => ?_) ?_
 ·(unfold th9to_7; clear hSw; go_simp)
 simp only [th9to_7, Act.put, sA, sB, sC]
 refine tj 8 th9to_8 (.pointer (some ⟨s, 0, none⟩)) hH0 (fun w0 hSw => ?_) ?_
 ·(unfold th9to_8; clear hSw; go_simp)
 simp only [th9to_8, Act.put, sA, sB, sC]
 refine tj 9 th9to_9 (.int .i64 (m : Int)) hH0 (fun w0 hSw => ?_) ?_
 ·(unfold th9to_9; have hS : Below W.heap.size W w0 := hSw; have a0 := cell_keep s1 hS; clear hS hSw; go_simp)
 simp only [th9to_9, Act.put, sA, sB, sC]
 refine tj 10 th9to_10 (.bool (decide (qi < (m : Int)))) hH0 (fun w0 hSw => ?_) ?_
 ·(unfold th9to_10; clear hSw; go_simp)
 simp only [th9to_10, Act.put, sA, sB, sC]
 refine tj 11 th9to_11 (.bool (decide (qi < (m : Int)))) hH0 (fun w0 hSw => ?_) ?_
 ·(unfold th9to_11 oO; clear hSw; go_simp)
 simp only [th9to_11, oO, Act.put, sA, sB, sC]
 refine tj 12 th9to_12 (.bool (decide (qi < (m : Int)))) hH0 (fun w0 hSw => ?_) ?_
 ·(unfold th9to_12 oO; clear hSw; go_simp)
 simp only [th9to_12, oO, Act.put, sA, sB, sC]
 have HH := Hn hH0
 have FQ := Hn (HQ.out _ HH.out)
 refine wpAnyH_done (by kernel_rfl) ?_ _
 refine NoPanic.normal ?_
 exact FQ.out
def th9fo : Array Oper := #[th9to_0,
 th9to_1,
 th9to_2,
 th9to_3,
 th9to_4,
 th9to_5,
 th9to_6,
 th9to_7,
 th9to_8,
 th9to_9,
 th9to_10,
 th9to_11,
 th9to_12]
theorem th9f (Q : Exit → Act → World → Prop) (s T m Kg : Nat) (qi : Int) (u1 u2 u4 u5 u6 u7 u8 u9 aa ab ad ae af ag ah ai aj ak al am ao ap aq au av aw ax ay az aA aB aC aD aE aF aG aH aI aJ aK : Value) (W : World)
  (l3 : ¬ 0 ≤ qi) (t1 : W.cell? ⟨T, 1, none⟩ = some (.int .i64 qi))
  (HQ : Hid (∀ (wz : World), Below W.heap.size W wz → Q .normal ⟨#[.pointer (some ⟨s, 0, none⟩), u1, u2, .pointer (some ⟨T, 0, none⟩), .bool false, u5, u6, u7, u8, u9, aa, ab, ad, ae, af, ag, ah, ai, aj, ak, al, am, ao, ap, aq, au, av, aw, ax, ay, .pointer (some ⟨T, 1, none⟩), .int .i64 qi, .bool false, .bool false, undef, undef, undef, undef, undef, undef, undef, .bool false], []⟩ wz)) : (Code.region 9 th9fo true).wp Tryz.prog Q ⟨#[.pointer (some ⟨s, 0, none⟩), u1, u2, .pointer (some ⟨T, 0, none⟩), u4, u5, u6, u7, u8, u9, aa, ab, ad, ae, af, ag, ah, ai, aj, ak, al, am, ao, ap, aq, au, av, aw, ax, ay, az, aA, aB, aC, aD, aE, aF, aG, aH, aI, aJ, aK], []⟩ W := by
 unfold th9fo
 refine wp_region_noPanic ?_
 refine wp_region_held_drew (S := fun x => Below W.heap.size W x) (by kernel_rfl) (bl_drew W) (fun hH0 => ?_)
 refine tj 0 th9to_0 (.pointer (some ⟨T, 1, none⟩)) hH0 (fun w0 hSw => ?_) ?_
 ·(unfold th9to_0 oO; clear hSw; go_simp)
 simp only [th9to_0, oO, Act.put, sA, sB, sC]
 refine tj 1 th9to_1 (.int .i64 qi) hH0 (fun w0 hSw => ?_) ?_
 ·(unfold th9to_1 oO; have hS : Below W.heap.size W w0 := hSw; have a0 := cell_keep t1 hS; clear hS hSw; go_simp)
 simp only [th9to_1, oO, Act.put, sA, sB, sC]
 refine tj 2 th9to_2 (.bool false) hH0 (fun w0 hSw => ?_) ?_
 ·(unfold th9to_2 oO; clear hSw; go_simp)
 simp only [th9to_2, oO, Act.put, sA, sB, sC]
 refine tj 3 th9to_3 (.bool false) hH0 (fun w0 hSw => ?_) ?_
 ·(unfold th9to_3 oO; clear hSw; go_simp)
 simp only [th9to_3, oO, Act.put, sA, sB, sC]
 refine wpAnyH_take (i := 4) (oi := th9to_4) (v := undef) rfl (by kernel_rfl) (by kernel_rfl) (by kernel_rfl) (fun _ _ _ h => h) (Or.inr ⟨by rfl, rfl⟩) hH0 ?_
 simp only [th9to_4, Act.put, sA, sB, sC]
 refine wpAnyH_take (i := 6) (oi := th9to_6) (v := undef) rfl (by kernel_rfl) (by kernel_rfl) (by kernel_rfl) (fun _ _ _ h => h) (Or.inr ⟨by rfl, rfl⟩) hH0 ?_
 simp only [th9to_6, Act.put, sA, sB, sC]
 refine wpAnyH_take (i := 5) (oi := th9to_5) (v := undef) rfl (by kernel_rfl) (by kernel_rfl) (by kernel_rfl) (fun _ _ _ h => h) (Or.inr ⟨by rfl, rfl⟩) hH0 ?_
 simp only [th9to_5, Act.put, sA, sB, sC]
 refine wpAnyH_take (i := 7) (oi := th9to_7) (v := undef) rfl (by kernel_rfl) (by kernel_rfl) (by kernel_rfl) (fun _ _ _ h => h) (Or.inr ⟨by rfl, rfl⟩) hH0 ?_
 simp only [th9to_7, Act.put, sA, sB, sC]
 refine wpAnyH_take (i := 8) (oi := th9to_8) (v := undef) rfl (by kernel_rfl) (by kernel_rfl) (by kernel_rfl) (fun _ _ _ h => h) (Or.inr ⟨by rfl, rfl⟩) hH0 ?_
 simp only [th9to_8, Act.put, sA, sB, sC]
 refine wpAnyH_take (i := 9) (oi := th9to_9) (v := undef) rfl (by kernel_rfl) (by kernel_rfl) (by kernel_rfl) (fun _ _ _ h => h) (Or.inr ⟨by rfl, rfl⟩) hH0 ?_
 simp only [th9to_9, Act.put, sA, sB, sC]
 refine wpAnyH_take (i := 10) (oi := th9to_10) (v := undef) rfl (by kernel_rfl) (by kernel_rfl) (by kernel_rfl) (fun _ _ _ h => h) (Or.inr ⟨by rfl, rfl⟩) hH0 ?_
 simp only [th9to_10, Act.put, sA, sB, sC]
 refine tj 11 th9to_11 (.bool false) hH0 (fun w0 hSw => ?_) ?_
 ·(unfold th9to_11 oO; clear hSw; go_simp)
 simp only [th9to_11, oO, Act.put, sA, sB, sC]
 refine tj 12 th9to_12 (.bool false) hH0 (fun w0 hSw => ?_) ?_
 ·(unfold th9to_12 oO; clear hSw; go_simp)
 simp only [th9to_12, oO, Act.put, sA, sB, sC]
 have HH := Hn hH0
 have FQ := Hn (HQ.out _ HH.out)
 refine wpAnyH_done (by kernel_rfl) ?_ _
 refine NoPanic.normal ?_
 exact FQ.out
theorem hs_one (m Kg : Nat) (qi : Int) : hs m Kg (1, qi) = (qi == 0) := by
 show (decide ((1 : Int) ≤ 1) && (decide ((1 : Int) < 6) && (decide (0 ≤ qi) && decide (qi < 1)))) = _
 by_cases z : qi = 0
 ·subst z; rfl
 ·have e1 : (qi == 0) = false := by simp [z]
  rw [e1]
  by_cases z1 : 0 ≤ qi
  ·have z2 : ¬ qi < 1 := by omega
   simp [z2]
  ·simp [z1]
theorem There_any {base : Nat} {w : World} {s m Kg : Nat} {v : Value} {vs : List Value} {Q : List (List Tm)} (h : Dy base w s m Kg v vs Q) (q : Wr) : Calls Tryz.prog 96 #[.pointer (some ⟨s, 0, none⟩), .agg #[.int .i64 q.1, .int .i64 q.2]] w fun e w' => e = .returned (.bool (hs m Kg q)) ∧ Below w.heap.size w w' := by
 obtain ⟨qk, qi⟩ := q
 simp only
 have HB := Hn (bl_alloc w (.cells #[.int .i64 qk, .int .i64 qi] 67))
 have t0 : (w.alloc (.cells #[.int .i64 qk, .int .i64 qi] 67)).cell? ⟨w.heap.size, 0, none⟩ = some (.int .i64 qk) := by go_simp
 have t1 : (w.alloc (.cells #[.int .i64 qk, .int .i64 qi] 67)).cell? ⟨w.heap.size, 1, none⟩ = some (.int .i64 qi) := by go_simp
 have K0 := Hn (h.keep HB.out).c0
 have K1 := Hn (h.keep HB.out).c1
 clear h
 obtain ⟨R, hR⟩ : ∃ R, hs m Kg (qk, qi) = R := ⟨_, rfl⟩
 rw [hR]
 have HR := Hn hR
 clear hR
 go_enter Tryz.func96, Tryz.ntmps96
 go_upto_region 1 with fail
 generalize (w.alloc (.cells #[.int .i64 qk, .int .i64 qi] 67)) = w1 at *
 by_cases k1 : qk = 1
 ·subst k1
  have E : Hid (R = (qi == 0)) := Hn (by rw [← HR.out]; exact hs_one m Kg qi)
  have HZ := HB
  clear HR
  go_wp2_with fail
  refine bodyPost_ret (v := .bool (qi == 0)) (by simp [results, Tryz.results96, go_sem]) rfl ⟨by rw [E.out], HZ.out⟩
 by_cases k2 : qk = 2
 ·subst k2
  have E0 : Hid (R = (decide (0 ≤ qi) && decide (qi < (Kg : Int)))) := Hn (by rw [← HR.out]; show (decide ((1 : Int) ≤ 2) && (decide ((2 : Int) < 6) && (decide (0 ≤ qi) && decide (qi < (Kg : Int))))) = _; simp)
  by_cases l3 : 0 ≤ qi
  ·have E : Hid (R = decide (qi < (Kg : Int))) := Hn (by rw [E0.out]; simp [l3])
   clear HR E0 k1
   go_upto_region 7 with fail
   refine th7t _ s w.heap.size m Kg qi _ _ _ _ _ _ _ _ _ _ _ _ _ _ _ _ _ _ _ _ _ _ _ _ _ _ _ _ _ _ _ _ _ _ _ _ _ _ _ _ w1 l3 t1 K1.out (Hn ?_)
   intro wz hz
   have HZ := Hn (bl_trans HB.out hz)
   clear hz t0 t1
   go_wp2_with fail
   refine bodyPost_ret (v := .bool (decide (qi < (Kg : Int)))) (by simp [results, Tryz.results96, go_sem]) rfl ⟨by rw [E.out], HZ.out⟩
  ·have E : Hid (R = false) := Hn (by rw [E0.out]; simp [l3])
   clear HR E0 k1
   go_upto_region 7 with fail
   refine th7f _ s w.heap.size m Kg qi _ _ _ _ _ _ _ _ _ _ _ _ _ _ _ _ _ _ _ _ _ _ _ _ _ _ _ _ _ _ _ _ _ _ _ _ _ _ _ _ w1 l3 t1 (Hn ?_)
   intro wz hz
   have HZ := Hn (bl_trans HB.out hz)
   clear hz t0 t1
   go_wp2_with fail
   refine bodyPost_ret (v := .bool (false)) (by simp [results, Tryz.results96, go_sem]) rfl ⟨by rw [E.out], HZ.out⟩
 by_cases k3 : qk = 3
 ·subst k3
  have E0 : Hid (R = (decide (0 ≤ qi) && decide (qi < (Kg : Int)))) := Hn (by rw [← HR.out]; show (decide ((1 : Int) ≤ 3) && (decide ((3 : Int) < 6) && (decide (0 ≤ qi) && decide (qi < (Kg : Int))))) = _; simp)
  by_cases l3 : 0 ≤ qi
  ·have E : Hid (R = decide (qi < (Kg : Int))) := Hn (by rw [E0.out]; simp [l3])
   clear HR E0 k1
   go_upto_region 7 with fail
   refine th7t _ s w.heap.size m Kg qi _ _ _ _ _ _ _ _ _ _ _ _ _ _ _ _ _ _ _ _ _ _ _ _ _ _ _ _ _ _ _ _ _ _ _ _ _ _ _ _ w1 l3 t1 K1.out (Hn ?_)
   intro wz hz
   have HZ := Hn (bl_trans HB.out hz)
   clear hz t0 t1
   go_wp2_with fail
   refine bodyPost_ret (v := .bool (decide (qi < (Kg : Int)))) (by simp [results, Tryz.results96, go_sem]) rfl ⟨by rw [E.out], HZ.out⟩
  ·have E : Hid (R = false) := Hn (by rw [E0.out]; simp [l3])
   clear HR E0 k1
   go_upto_region 7 with fail
   refine th7f _ s w.heap.size m Kg qi _ _ _ _ _ _ _ _ _ _ _ _ _ _ _ _ _ _ _ _ _ _ _ _ _ _ _ _ _ _ _ _ _ _ _ _ _ _ _ _ w1 l3 t1 (Hn ?_)
   intro wz hz
   have HZ := Hn (bl_trans HB.out hz)
   clear hz t0 t1
   go_wp2_with fail
   refine bodyPost_ret (v := .bool (false)) (by simp [results, Tryz.results96, go_sem]) rfl ⟨by rw [E.out], HZ.out⟩
 by_cases k4 : qk = 4
 ·subst k4
  have E0 : Hid (R = (decide (0 ≤ qi) && decide (qi < (Kg : Int)))) := Hn (by rw [← HR.out]; show (decide ((1 : Int) ≤ 4) && (decide ((4 : Int) < 6) && (decide (0 ≤ qi) && decide (qi < (Kg : Int))))) = _; simp)
  by_cases l3 : 0 ≤ qi
  ·have E : Hid (R = decide (qi < (Kg : Int))) := Hn (by rw [E0.out]; simp [l3])
   clear HR E0 k1
   go_upto_region 7 with fail
   refine th7t _ s w.heap.size m Kg qi _ _ _ _ _ _ _ _ _ _ _ _ _ _ _ _ _ _ _ _ _ _ _ _ _ _ _ _ _ _ _ _ _ _ _ _ _ _ _ _ w1 l3 t1 K1.out (Hn ?_)
   intro wz hz
   have HZ := Hn (bl_trans HB.out hz)
   clear hz t0 t1
   go_wp2_with fail
   refine bodyPost_ret (v := .bool (decide (qi < (Kg : Int)))) (by simp [results, Tryz.results96, go_sem]) rfl ⟨by rw [E.out], HZ.out⟩
  ·have E : Hid (R = false) := Hn (by rw [E0.out]; simp [l3])
   clear HR E0 k1
   go_upto_region 7 with fail
   refine th7f _ s w.heap.size m Kg qi _ _ _ _ _ _ _ _ _ _ _ _ _ _ _ _ _ _ _ _ _ _ _ _ _ _ _ _ _ _ _ _ _ _ _ _ _ _ _ _ w1 l3 t1 (Hn ?_)
   intro wz hz
   have HZ := Hn (bl_trans HB.out hz)
   clear hz t0 t1
   go_wp2_with fail
   refine bodyPost_ret (v := .bool (false)) (by simp [results, Tryz.results96, go_sem]) rfl ⟨by rw [E.out], HZ.out⟩
 by_cases k5 : qk = 5
 ·subst k5
  have E0 : Hid (R = (decide (0 ≤ qi) && decide (qi < (m : Int)))) := Hn (by rw [← HR.out]; show (decide ((1 : Int) ≤ 5) && (decide ((5 : Int) < 6) && (decide (0 ≤ qi) && decide (qi < (m : Int))))) = _; simp)
  by_cases l3 : 0 ≤ qi
  ·have E : Hid (R = decide (qi < (m : Int))) := Hn (by rw [E0.out]; simp [l3])
   clear HR E0 k1
   go_upto_region 9 with fail
   refine th9t _ s w.heap.size m Kg qi _ _ _ _ _ _ _ _ _ _ _ _ _ _ _ _ _ _ _ _ _ _ _ _ _ _ _ _ _ _ _ _ _ _ _ _ _ _ _ _ w1 l3 t1 K0.out (Hn ?_)
   intro wz hz
   have HZ := Hn (bl_trans HB.out hz)
   clear hz t0 t1
   go_wp2_with fail
   refine bodyPost_ret (v := .bool (decide (qi < (m : Int)))) (by simp [results, Tryz.results96, go_sem]) rfl ⟨by rw [E.out], HZ.out⟩
  ·have E : Hid (R = false) := Hn (by rw [E0.out]; simp [l3])
   clear HR E0 k1
   go_upto_region 9 with fail
   refine th9f _ s w.heap.size m Kg qi _ _ _ _ _ _ _ _ _ _ _ _ _ _ _ _ _ _ _ _ _ _ _ _ _ _ _ _ _ _ _ _ _ _ _ _ _ _ _ _ w1 l3 t1 (Hn ?_)
   intro wz hz
   have HZ := Hn (bl_trans HB.out hz)
   clear hz t0 t1
   go_wp2_with fail
   refine bodyPost_ret (v := .bool (false)) (by simp [results, Tryz.results96, go_sem]) rfl ⟨by rw [E.out], HZ.out⟩
 have E : Hid (R = false) := Hn (by
  rw [← HR.out]
  unfold hs
  by_cases a1 : 1 ≤ qk
  ·by_cases a2 : qk < 6
   ·omega
   ·simp [a2]
  ·simp [a1])
 have HZ := HB
 clear HR
 go_wp2_with fail
 refine bodyPost_ret (v := .bool false) (by simp [results, Tryz.results96, go_sem]) rfl ⟨by rw [E.out], HZ.out⟩
theorem Known_any {base : Nat} {w : World} {s m Kg : Nat} {v : Value} {vs : List Value} {Q : List (List Tm)} (h : Dy base w s m Kg v vs Q) (P : Option Addr) (c : Nat) (Y : List Tm) (hn : Y.length ≤ 2932031007400) (hL : Lt w P Y.length (ft Y)) :
  Calls Tryz.prog 55 #[.pointer (some ⟨s, 0, none⟩), .slice P Y.length c] w fun e w' => e = .returned (.bool (nm m Kg (lf Sm.L Y).length (ft (lf Sm.L Y)))) ∧ Below w.heap.size w w' := by
 have C0 := Hn (dLeast_any P c Y w hn hL)
 have XL : Hid ((lf Sm.L Y).length ≤ 2932031007400) := Hn (by have := fold_len Sm.L Y []; simp at this; unfold lf; omega)
 generalize lf Sm.L Y = X at *
 generalize Y.length = ny at *
 obtain ⟨p, hp⟩ : ∃ p : Nat → Bool, p = fun k => !hs m Kg (ft X k).q := ⟨_, rfl⟩
 have HP : Hid (∀ k, (!hs m Kg (ft X k).q) = p k) := Hn (fun k => by rw [hp])
 have RR : Hid (nm m Kg X.length (ft X) = !an p X.length) := Hn (by rw [hp]; rfl)
 clear hp
 generalize nm m Kg X.length (ft X) = R at *
 have HS := Hn h
 clear hn hL h
 go_enter Tryz.func55, Tryz.ntmps55
 go_upto_region 2 with (go_at_call 58; refine C0.out.mono ?_; rintro e w1 ⟨v1, rfl, h1⟩; have D1 := Hn h1; clear h1)
 clear C0
 obtain ⟨P1, c1, e1, l1⟩ := D1.out.shape
 subst e1
 have HL := Hn l1
 have B0 := Hn D1.out.2
 clear l1 D1
 generalize hf : ft X = f at *
 clear hf
 generalize X.length = n at *
 have A0 : Hid (an p 0 = false ∧ Below w1.heap.size w1 w1) := Hn ⟨rfl, Below.refl _ _⟩
 go_upto_region 3 with fail
 go_loopw [6, 7] (fun iv kv w' => ∃ i : Nat, i ≤ n ∧ iv = .int .i64 (i : Int) ∧ Hid (an p i = false ∧ Below w1.heap.size w1 w')) (fun i _ _ => n - (intOf i).toNat)
 case atStart => exact ⟨0, by omega, rfl, A0⟩
 case round =>
  clear A0
  obtain ⟨i, hi, rfl, hA⟩ := hrel
  by_cases hin : i < n
  ·have i0 : (0 : Int) ≤ (i : Int) := by omega
   have i1 : (i : Int) < (n : Int) := by omega
   have w9 : IntKind.i64.wrap ((i : Int) + 1) = (i : Int) + 1 := IntWalk.i64_in _ (by have := XL.out; omega)
   obtain ⟨sb, so, e1, e2⟩ := HL.out
   obtain rfl := e1 (by omega)
   have rt := e2 (by omega)
   have hb := hA.out.2
   have a0 := cell_keep (rt.c0 i hin) hb
   have a1 := cell_keep (rt.c1 i hin) hb
   have C := Hn (There_any (HS.out.keep (bl_trans B0.out hb)) (f i).q)
   have hpi := HP.out i
   obtain ⟨bb, hbb⟩ : ∃ bb, hs m Kg (f i).q = bb := ⟨_, rfl⟩
   rw [hbb] at hpi C
   have HPI := Hn hpi
   generalize (f i).q = q at *
   obtain ⟨qk, qi⟩ := q
   simp only at a0 a1 C
   clear e1 e2 rt hb hpi hbb
   cases bb with
   | true =>
    go_wp2_with (go_at_call 96; refine C.out.mono ?_; rintro e w2 ⟨rfl, hb⟩; have PN : Hid (an p (i + 1) = false ∧ Below w1.heap.size w1 w2) := Hn ⟨by show (an p i || p i) = false; rw [hA.out.1, ← HPI.out]; rfl, bl_trans hA.out.2 hb⟩; clear hb)
    clear hA C
    go_roundw
    case rel => exact ⟨i + 1, by omega, by go_num, PN⟩
    case measure => simp [intOf]; omega
   | false =>
    go_wp2_with (go_at_call 96; refine C.out.mono ?_; rintro e w2 ⟨rfl, hb⟩; have PN : Hid (an p n = true ∧ Below w1.heap.size w1 w2) := Hn ⟨an_true hin HPI.out.symm, bl_trans hA.out.2 hb⟩; clear hb)
    refine bodyPost_ret (v := .bool false) (by simp [results, Tryz.results55, go_sem]) rfl ⟨by rw [RR.out, PN.out.1]; rfl, bl_trans B0.out PN.out.2⟩
  ·obtain rfl : i = n := by omega
   have lq : ¬ (i : Int) < (i : Int) := by omega
   have PN := hA
   clear hA
   go_wp2_with fail
   refine bodyPost_ret (v := .bool true) (by simp [results, Tryz.results55, go_sem]) rfl ⟨by rw [RR.out, PN.out.1]; rfl, bl_trans B0.out PN.out.2⟩
theorem dGate_full {base : Nat} {w : World} {s m Kg : Nat} {v : Value} {vs : List Value} {Q : List (List Tm)} (h : Dy base w s m Kg v vs Q) (hK : 1024 ≤ Kg) : Calls Tryz.prog 16 #[.pointer (some ⟨s, 0, none⟩)] w fun e w' => e = .returned (tup 0 0 0 0 0 0 201) ∧ Below w.heap.size w w' := by
 have BA := bl_alloc3 w (.cells #[.int .i64 0, .int .i64 0] 67) (.cells #[.int .i64 0, .int .i64 0] 67) (.cells #[.int .i64 0, .int .i64 0] 67)
 have c1 := cell_keep h.c1 BA
 have l0 : (1024 : Int) ≤ (Kg : Int) := by omega
 have c00 : (((w.alloc (.cells #[.int .i64 0, .int .i64 0] 67)).alloc (.cells #[.int .i64 0, .int .i64 0] 67)).alloc (.cells #[.int .i64 0, .int .i64 0] 67)).cell? ⟨w.heap.size, 0, none⟩ = some (.int .i64 0) := by go_simp
 have f00 : (((w.alloc (.cells #[.int .i64 0, .int .i64 0] 67)).alloc (.cells #[.int .i64 0, .int .i64 0] 67)).alloc (.cells #[.int .i64 0, .int .i64 0] 67)).frozen? ⟨w.heap.size, 0, none⟩ = false := by go_simp
 have c01 : (((w.alloc (.cells #[.int .i64 0, .int .i64 0] 67)).alloc (.cells #[.int .i64 0, .int .i64 0] 67)).alloc (.cells #[.int .i64 0, .int .i64 0] 67)).cell? ⟨w.heap.size, 1, none⟩ = some (.int .i64 0) := by go_simp
 have f01 : (((w.alloc (.cells #[.int .i64 0, .int .i64 0] 67)).alloc (.cells #[.int .i64 0, .int .i64 0] 67)).alloc (.cells #[.int .i64 0, .int .i64 0] 67)).frozen? ⟨w.heap.size, 1, none⟩ = false := by go_simp
 have c10 : (((w.alloc (.cells #[.int .i64 0, .int .i64 0] 67)).alloc (.cells #[.int .i64 0, .int .i64 0] 67)).alloc (.cells #[.int .i64 0, .int .i64 0] 67)).cell? ⟨w.heap.size + 1, 0, none⟩ = some (.int .i64 0) := by go_simp
 have f10 : (((w.alloc (.cells #[.int .i64 0, .int .i64 0] 67)).alloc (.cells #[.int .i64 0, .int .i64 0] 67)).alloc (.cells #[.int .i64 0, .int .i64 0] 67)).frozen? ⟨w.heap.size + 1, 0, none⟩ = false := by go_simp
 have c11 : (((w.alloc (.cells #[.int .i64 0, .int .i64 0] 67)).alloc (.cells #[.int .i64 0, .int .i64 0] 67)).alloc (.cells #[.int .i64 0, .int .i64 0] 67)).cell? ⟨w.heap.size + 1, 1, none⟩ = some (.int .i64 0) := by go_simp
 have f11 : (((w.alloc (.cells #[.int .i64 0, .int .i64 0] 67)).alloc (.cells #[.int .i64 0, .int .i64 0] 67)).alloc (.cells #[.int .i64 0, .int .i64 0] 67)).frozen? ⟨w.heap.size + 1, 1, none⟩ = false := by go_simp
 have c20 : (((w.alloc (.cells #[.int .i64 0, .int .i64 0] 67)).alloc (.cells #[.int .i64 0, .int .i64 0] 67)).alloc (.cells #[.int .i64 0, .int .i64 0] 67)).cell? ⟨w.heap.size + 1 + 1, 0, none⟩ = some (.int .i64 0) := by go_simp
 have f20 : (((w.alloc (.cells #[.int .i64 0, .int .i64 0] 67)).alloc (.cells #[.int .i64 0, .int .i64 0] 67)).alloc (.cells #[.int .i64 0, .int .i64 0] 67)).frozen? ⟨w.heap.size + 1 + 1, 0, none⟩ = false := by go_simp
 have c21 : (((w.alloc (.cells #[.int .i64 0, .int .i64 0] 67)).alloc (.cells #[.int .i64 0, .int .i64 0] 67)).alloc (.cells #[.int .i64 0, .int .i64 0] 67)).cell? ⟨w.heap.size + 1 + 1, 1, none⟩ = some (.int .i64 0) := by go_simp
 have f21 : (((w.alloc (.cells #[.int .i64 0, .int .i64 0] 67)).alloc (.cells #[.int .i64 0, .int .i64 0] 67)).alloc (.cells #[.int .i64 0, .int .i64 0] 67)).frozen? ⟨w.heap.size + 1 + 1, 1, none⟩ = false := by go_simp
 have HB := Hn BA
 have SZ : Hid ((((w.alloc (.cells #[.int .i64 0, .int .i64 0] 67)).alloc (.cells #[.int .i64 0, .int .i64 0] 67)).alloc (.cells #[.int .i64 0, .int .i64 0] 67)).heap.size = w.heap.size + 1 + 1 + 1) := Hn (by simp)
 clear h hK BA
 go_enter Tryz.func16, Tryz.ntmps16
 go_upto_region 2 with fail
 generalize (((w.alloc (.cells #[.int .i64 0, .int .i64 0] 67)).alloc (.cells #[.int .i64 0, .int .i64 0] 67)).alloc (.cells #[.int .i64 0, .int .i64 0] 67)) = w1 at *
 go_wp2_with fail
 have BW : Below w.heap.size w1 ((((((w1.setCell ⟨w.heap.size, 0, none⟩ (.int .i64 0)).setCell ⟨w.heap.size, 1, none⟩ (.int .i64 0)).setCell ⟨w.heap.size + 1, 0, none⟩ (.int .i64 0)).setCell ⟨w.heap.size + 1, 1, none⟩ (.int .i64 0)).setCell ⟨w.heap.size + 1 + 1, 0, none⟩ (.int .i64 0)).setCell ⟨w.heap.size + 1 + 1, 1, none⟩ (.int .i64 0)) := bl_cell (bl_cell (bl_cell (bl_cell (bl_cell (bl_cell (Below.refl _ _) (by omega)) (by omega)) (by omega)) (by omega)) (by omega)) (by omega)
 refine bodyPost_ret (v := tup 0 0 0 0 0 0 201) (by simp [results, Tryz.results16, go_sem, c00, c01, c10, c11, c20, c21, tup]) rfl ⟨rfl, (HB.out.trans BW)⟩
end Ci
end Go.Proofs.YtghcfcglakbkeaaGreatDoor
