import Derived.Test.YtljmgfclhbadjaaGreatDoorTk
import Derived.Test.YtljmgfclhbadjaaGreatDoorDez
namespace Go.Proofs.YtljmgfclhbadjaaGreatDoor
set_option maxRecDepth 100000
set_option maxHeartbeats 16000000
open Go.RowKit
set_option linter.unusedVariables false
set_option linter.unusedSimpArgs false
open Cm (Wr Tm co bf Ls lf ins Eqm)
namespace Ci
def has7o_0 : Oper := oO 16 (Op.fieldAddr 52 (Operand.tmp 3) 1) 0 "piece.go:55" #[]
def has7o_1 : Oper := oO 17 (Op.load 3 (Operand.tmp 16)) 3 "piece.go:55" #[DD 0]
def has7o_2 : Oper := oO 18 (Op.binOp BinOp.geq 3 (Operand.tmp 17) (Operand.const (Value.int IntKind.i64 0)) 3) 4 "piece.go:55" #[DD 1]
def has7o_3 : Oper := oO 19 (Op.move (Operand.tmp 18)) 4 "piece.go:55" #[DD 2]
def has7o_4 : Oper := { dst := some 20, op := Op.fieldAddr 52 (Operand.tmp 3) 1, type := 0, pos := "piece.go:55", after := #[GU 3], guard := some (3, true) }
def has7o_5 : Oper := { dst := some 21, op := Op.load 3 (Operand.tmp 20), type := 3, pos := "piece.go:55", after := #[DD 4, GU 3], guard := some (3, true) }
def has7o_6 : Oper := { dst := some 22, op := Op.move (Operand.tmp 0), type := 33, pos := "piece.go:55", after := #[GU 3], guard := some (3, true) }
def has7o_7 : Oper := { dst := some 23, op := Op.nilCheck (Operand.tmp 22), type := 0, pos := "piece.go:55", after := #[DD 6, GU 3], guard := some (3, true) }
def has7o_8 : Oper := { dst := some 24, op := Op.fieldAddr 111 (Operand.tmp 23) 0, type := 0, pos := "piece.go:55", after := #[DD 7, GU 3], guard := some (3, true) }
def has7o_9 : Oper := { dst := some 25, op := Op.load 37 (Operand.tmp 24), type := 37, pos := "piece.go:55", after := #[DD 8, GU 3], guard := some (3, true) }
def has7o_10 : Oper := { dst := some 26, op := Op.call { callee := Callee.value (Operand.func 35), args := #[Operand.tmp 25], argTypes := #[37] }, type := 3, pos := "piece.go:55", after := #[DD 9, CH 3, GU 3], guard := some (3, true) }
def has7o_11 : Oper := { dst := some 27, op := Op.binOp BinOp.lss 3 (Operand.tmp 21) (Operand.tmp 26) 3, type := 4, pos := "piece.go:55", after := #[DD 5, DD 10, GU 3], guard := some (3, true) }
def has7o_12 : Oper := oO 28 (Op.pick (Operand.tmp 19) (Operand.tmp 27) (Operand.const (Value.bool false))) 4 "piece.go:55" #[DD 3, DD 11]
def has7o_13 : Oper := oO 4 (Op.assign (Operand.tmp 28)) 4 "piece.go:55" #[DD 12, CH 10, PH 0, PH 1, PH 2, PH 3, PH 4, PH 5, PH 6, PH 7, PH 8, PH 9, PH 10, PH 11, PH 12]
def has7o : Array Oper := #[has7o_0, has7o_1, has7o_2, has7o_3, has7o_4, has7o_5, has7o_6, has7o_7, has7o_8, has7o_9, has7o_10, has7o_11, has7o_12, has7o_13]
theorem has7 (Q : Exit → Act → World → Prop) (d q wb n : Nat) (i : Int) (u1 u2 u4 u5 u6 u7 u8 u9 aa ab ad ae af ag ah ai aj ak al am an ao ap aq au av aw ax ay az aA aB aC aD aE aF aG aH aI aJ aK aL : Value) (W : World)
  (qw : W.cell? ⟨wb, 1, none⟩ = some (.int .i64 i)) (q0 : W.cell? ⟨d, 0, none⟩ = some (.pointer (some ⟨q, 0, none⟩))) (L0 : Hid (0 ≤ i)) (L1 : Hid (i < (n : Int)))
  (C1 : Hid (∀ yy, Below W.heap.size W yy → Calls Tryz.prog 35 #[.pointer (some ⟨q, 0, none⟩)] yy fun e w' => e = .returned (.int .i64 (n : Int)) ∧ Below yy.heap.size yy w'))
  (HQ : Hid (∀ (wz : World), Below W.heap.size W wz → Q .normal ⟨#[.pointer (some ⟨d, 0, none⟩), u1, u2, .pointer (some ⟨wb, 0, none⟩), .bool true, u5, u6, u7, u8, u9, aa, ab, ad, ae, af, ag, .pointer (some ⟨wb, 1, none⟩), .int .i64 i, .bool true, .bool true, .pointer (some ⟨wb, 1, none⟩), .int .i64 i, .pointer (some ⟨d, 0, none⟩), .pointer (some ⟨d, 0, none⟩), .pointer (some ⟨d, 0, none⟩), .pointer (some ⟨q, 0, none⟩), .int .i64 (n : Int), .bool true, .bool true, ax, ay, az, aA, aB, aC, aD, aE, aF, aG, aH, aI, aJ, aK, aL], []⟩ wz)) : (Code.region 7 has7o true).wp Tryz.prog Q ⟨#[.pointer (some ⟨d, 0, none⟩), u1, u2, .pointer (some ⟨wb, 0, none⟩), u4, u5, u6, u7, u8, u9, aa, ab, ad, ae, af, ag, ah, ai, aj, ak, al, am, an, ao, ap, aq, au, av, aw, ax, ay, az, aA, aB, aC, aD, aE, aF, aG, aH, aI, aJ, aK, aL], []⟩ W := by
 unfold has7o
 refine wp_region_noPanic ?_
 refine wp_region_held_drew (S := fun x => Below W.heap.size W x) (by kernel_rfl) (bl_drew W) (fun hH0 => ?_)
 refine tj 0 has7o_0 (.pointer (some ⟨wb, 1, none⟩)) hH0 (fun w0 hSw => ?_) ?_
 ·(unfold has7o_0 oO; clear hSw; go_simp)
 simp only [has7o_0, oO, Act.put, sA, sB, sC]
 refine tj 1 has7o_1 (.int .i64 i) hH0 (fun w0 hSw => ?_) ?_
 ·(unfold has7o_1 oO; have hS : Below W.heap.size W w0 := hSw; have a0 := cell_keep qw hS; clear hS hSw; go_simp)
 simp only [has7o_1, oO, Act.put, sA, sB, sC]
 refine tj 2 has7o_2 (.bool true) hH0 (fun w0 hSw => ?_) ?_
 ·(unfold has7o_2 oO; clear hSw; have l0 := L0.out; go_simp)
 simp only [has7o_2, oO, Act.put, sA, sB, sC]
 refine tj 3 has7o_3 (.bool true) hH0 (fun w0 hSw => ?_) ?_
 ·(unfold has7o_3 oO; clear hSw; go_simp)
 simp only [has7o_3, oO, Act.put, sA, sB, sC]
 refine tj 4 has7o_4 (.pointer (some ⟨wb, 1, none⟩)) hH0 (fun w0 hSw => ?_) ?_
 ·(unfold has7o_4; clear hSw; go_simp)
 simp only [has7o_4, Act.put, sA, sB, sC]
 refine tj 6 has7o_6 (.pointer (some ⟨d, 0, none⟩)) hH0 (fun w0 hSw => ?_) ?_
 ·(unfold has7o_6; clear hSw; go_simp)
 simp only [has7o_6, Act.put, sA, sB, sC]
 refine tj 5 has7o_5 (.int .i64 i) hH0 (fun w0 hSw => ?_) ?_
 ·(unfold has7o_5; have hS : Below W.heap.size W w0 := hSw; have a0 := cell_keep qw hS; clear hS hSw; go_simp)
 simp only [has7o_5, Act.put, sA, sB, sC]
 refine tj 7 has7o_7 (.pointer (some ⟨d, 0, none⟩)) hH0 (fun w0 hSw => ?_) ?_
 ·(unfold has7o_7; clear hSw; go_simp)
 simp only [has7o_7, Act.put, sA, sB, sC]
 refine tj 8 has7o_8 (.pointer (some ⟨d, 0, none⟩)) hH0 (fun w0 hSw => ?_) ?_
 ·(unfold has7o_8; clear hSw; go_simp)
 simp only [has7o_8, Act.put, sA, sB, sC]
 refine tj 9 has7o_9 (.pointer (some ⟨q, 0, none⟩)) hH0 (fun w0 hSw => ?_) ?_
 ·(unfold has7o_9; have hS : Below W.heap.size W w0 := hSw; have a0 := cell_keep q0 hS; clear hS hSw; go_simp)
 simp only [has7o_9, Act.put, sA, sB, sC]
 refine ar [10] ?_
 refine ac has7o_10 (fun K hK => ?_) AllReadyH.nil
 unfold has7o_10
 have HH := Hn hH0
 clear hH0
 go_simp
 refine (C1.out _ HH.out).mono ?_
 rintro e wn1 ⟨rfl, hb⟩
 have SN := Hn (bl_trans HH.out hb)
 clear HH C1 hb
 go_wp2_with fail
 refine hK.out _ _ SN.out (fun hH1 => ?_)
 clear hK K SN
 refine tj 11 has7o_11 (.bool true) hH1 (fun w0 hSw => ?_) ?_
 ·(unfold has7o_11; clear hSw; have l1 := L1.out; go_simp)
 simp only [has7o_11, Act.put, sA, sB, sC]
 refine tj 12 has7o_12 (.bool true) hH1 (fun w0 hSw => ?_) ?_
 ·(unfold has7o_12 oO; clear hSw; go_simp)
 simp only [has7o_12, oO, Act.put, sA, sB, sC]
 refine tj 13 has7o_13 (.bool true) hH1 (fun w0 hSw => ?_) ?_
 ·(unfold has7o_13 oO; clear hSw; go_simp)
 simp only [has7o_13, oO, Act.put, sA, sB, sC]
 have HH := Hn hH1
 have FQ := Hn (HQ.out _ HH.out)
 refine wpAnyH_done (by kernel_rfl) ?_ _
 refine NoPanic.normal ?_
 exact FQ.out
def has9o_0 : Oper := oO 31 (Op.fieldAddr 52 (Operand.tmp 3) 1) 0 "piece.go:57" #[]
def has9o_1 : Oper := oO 32 (Op.load 3 (Operand.tmp 31)) 3 "piece.go:57" #[DD 0]
def has9o_2 : Oper := oO 33 (Op.binOp BinOp.geq 3 (Operand.tmp 32) (Operand.const (Value.int IntKind.i64 0)) 3) 4 "piece.go:57" #[DD 1]
def has9o_3 : Oper := oO 34 (Op.move (Operand.tmp 33)) 4 "piece.go:57" #[DD 2]
def has9o_4 : Oper := { dst := some 35, op := Op.fieldAddr 52 (Operand.tmp 3) 1, type := 0, pos := "piece.go:57", after := #[GU 3], guard := some (3, true) }
def has9o_5 : Oper := { dst := some 36, op := Op.load 3 (Operand.tmp 35), type := 3, pos := "piece.go:57", after := #[DD 4, GU 3], guard := some (3, true) }
def has9o_6 : Oper := { dst := some 37, op := Op.move (Operand.tmp 0), type := 33, pos := "piece.go:57", after := #[GU 3], guard := some (3, true) }
def has9o_7 : Oper := { dst := some 38, op := Op.nilCheck (Operand.tmp 37), type := 0, pos := "piece.go:57", after := #[DD 6, GU 3], guard := some (3, true) }
def has9o_8 : Oper := { dst := some 39, op := Op.fieldAddr 111 (Operand.tmp 38) 0, type := 0, pos := "piece.go:57", after := #[DD 7, GU 3], guard := some (3, true) }
def has9o_9 : Oper := { dst := some 40, op := Op.load 37 (Operand.tmp 39), type := 37, pos := "piece.go:57", after := #[DD 8, GU 3], guard := some (3, true) }
def has9o_10 : Oper := { dst := some 41, op := Op.call { callee := Callee.value (Operand.func 79), args := #[Operand.tmp 40], argTypes := #[37] }, type := 3, pos := "piece.go:57", after := #[DD 9, CH 3, GU 3], guard := some (3, true) }
def has9o_11 : Oper := { dst := some 42, op := Op.binOp BinOp.lss 3 (Operand.tmp 36) (Operand.tmp 41) 3, type := 4, pos := "piece.go:57", after := #[DD 5, DD 10, GU 3], guard := some (3, true) }
def has9o_12 : Oper := oO 43 (Op.pick (Operand.tmp 34) (Operand.tmp 42) (Operand.const (Value.bool false))) 4 "piece.go:57" #[DD 3, DD 11]
def has9o_13 : Oper := oO 4 (Op.assign (Operand.tmp 43)) 4 "piece.go:57" #[DD 12, CH 10, PH 0, PH 1, PH 2, PH 3, PH 4, PH 5, PH 6, PH 7, PH 8, PH 9, PH 10, PH 11, PH 12]
def has9o : Array Oper := #[has9o_0, has9o_1, has9o_2, has9o_3, has9o_4, has9o_5, has9o_6, has9o_7, has9o_8, has9o_9, has9o_10, has9o_11, has9o_12, has9o_13]
theorem has9 (Q : Exit → Act → World → Prop) (d q wb n : Nat) (i : Int) (u1 u2 u4 u5 u6 u7 u8 u9 aa ab ad ae af ag ah ai aj ak al am an ao ap aq au av aw ax ay az aA aB aC aD aE aF aG aH aI aJ aK aL : Value) (W : World)
  (qw : W.cell? ⟨wb, 1, none⟩ = some (.int .i64 i)) (q0 : W.cell? ⟨d, 0, none⟩ = some (.pointer (some ⟨q, 0, none⟩))) (L0 : Hid (0 ≤ i)) (L1 : Hid (i < (n : Int)))
  (C1 : Hid (∀ yy, Below W.heap.size W yy → Calls Tryz.prog 79 #[.pointer (some ⟨q, 0, none⟩)] yy fun e w' => e = .returned (.int .i64 (n : Int)) ∧ Below yy.heap.size yy w'))
  (HQ : Hid (∀ (wz : World), Below W.heap.size W wz → Q .normal ⟨#[.pointer (some ⟨d, 0, none⟩), u1, u2, .pointer (some ⟨wb, 0, none⟩), .bool true, u5, u6, u7, u8, u9, aa, ab, ad, ae, af, ag, ah, ai, aj, ak, al, am, an, ao, ap, aq, au, av, aw, ax, ay, .pointer (some ⟨wb, 1, none⟩), .int .i64 i, .bool true, .bool true, .pointer (some ⟨wb, 1, none⟩), .int .i64 i, .pointer (some ⟨d, 0, none⟩), .pointer (some ⟨d, 0, none⟩), .pointer (some ⟨d, 0, none⟩), .pointer (some ⟨q, 0, none⟩), .int .i64 (n : Int), .bool true, .bool true], []⟩ wz)) : (Code.region 9 has9o true).wp Tryz.prog Q ⟨#[.pointer (some ⟨d, 0, none⟩), u1, u2, .pointer (some ⟨wb, 0, none⟩), u4, u5, u6, u7, u8, u9, aa, ab, ad, ae, af, ag, ah, ai, aj, ak, al, am, an, ao, ap, aq, au, av, aw, ax, ay, az, aA, aB, aC, aD, aE, aF, aG, aH, aI, aJ, aK, aL], []⟩ W := by
 unfold has9o
 refine wp_region_noPanic ?_
 refine wp_region_held_drew (S := fun x => Below W.heap.size W x) (by kernel_rfl) (bl_drew W) (fun hH0 => ?_)
 refine tj 0 has9o_0 (.pointer (some ⟨wb, 1, none⟩)) hH0 (fun w0 hSw => ?_) ?_
 ·(unfold has9o_0 oO; clear hSw; go_simp)
 simp only [has9o_0, oO, Act.put, sA, sB, sC]
 refine tj 1 has9o_1 (.int .i64 i) hH0 (fun w0 hSw => ?_) ?_
 ·(unfold has9o_1 oO; have hS : Below W.heap.size W w0 := hSw; have a0 := cell_keep qw hS; clear hS hSw; go_simp)
 simp only [has9o_1, oO, Act.put, sA, sB, sC]
 refine tj 2 has9o_2 (.bool true) hH0 (fun w0 hSw => ?_) ?_
 ·(unfold has9o_2 oO; clear hSw; have l0 := L0.out; go_simp)
 simp only [has9o_2, oO, Act.put, sA, sB, sC]
 refine tj 3 has9o_3 (.bool true) hH0 (fun w0 hSw => ?_) ?_
 ·(unfold has9o_3 oO; clear hSw; go_simp)
 simp only [has9o_3, oO, Act.put, sA, sB, sC]
 refine tj 4 has9o_4 (.pointer (some ⟨wb, 1, none⟩)) hH0 (fun w0 hSw => ?_) ?_
 ·(unfold has9o_4; clear hSw; go_simp)
 simp only [has9o_4, Act.put, sA, sB, sC]
 refine tj 6 has9o_6 (.pointer (some ⟨d, 0, none⟩)) hH0 (fun w0 hSw => ?_) ?_
 ·(unfold has9o_6; clear hSw; go_simp)
 simp only [has9o_6, Act.put, sA, sB, sC]
 refine tj 5 has9o_5 (.int .i64 i) hH0 (fun w0 hSw => ?_) ?_
 ·(unfold has9o_5; have hS : Below W.heap.size W w0 := hSw; have a0 := cell_keep qw hS; clear hS hSw; go_simp)
 simp only [has9o_5, Act.put, sA, sB, sC]
 refine tj 7 has9o_7 (.pointer (some ⟨d, 0, none⟩)) hH0 (fun w0 hSw => ?_) ?_
 ·(unfold has9o_7; clear hSw; go_simp)
 simp only [has9o_7, Act.put, sA, sB, sC]
 refine tj 8 has9o_8 (.pointer (some ⟨d, 0, none⟩)) hH0 (fun w0 hSw => ?_) ?_
 ·(unfold has9o_8; clear hSw; go_simp)
 simp only [has9o_8, Act.put, sA, sB, sC]
 refine tj 9 has9o_9 (.pointer (some ⟨q, 0, none⟩)) hH0 (fun w0 hSw => ?_) ?_
 ·(unfold has9o_9; have hS : Below W.heap.size W w0 := hSw; have a0 := cell_keep q0 hS; clear hS hSw; go_simp)
 simp only [has9o_9, Act.put, sA, sB, sC]
 refine ar [10] ?_
 refine ac has9o_10 (fun K hK => ?_) AllReadyH.nil
 unfold has9o_10
 have HH := Hn hH0
 clear hH0
 go_simp
 refine (C1.out _ HH.out).mono ?_
 rintro e wn1 ⟨rfl, hb⟩
 have SN := Hn (bl_trans HH.out hb)
 clear HH C1 hb
 go_wp2_with fail
 refine hK.out _ _ SN.out (fun hH1 => ?_)
 clear hK K SN
 refine tj 11 has9o_11 (.bool true) hH1 (fun w0 hSw => ?_) ?_
 ·(unfold has9o_11; clear hSw; have l1 := L1.out; go_simp)
 simp only [has9o_11, Act.put, sA, sB, sC]
 refine tj 12 has9o_12 (.bool true) hH1 (fun w0 hSw => ?_) ?_
 ·(unfold has9o_12 oO; clear hSw; go_simp)
 simp only [has9o_12, oO, Act.put, sA, sB, sC]
 refine tj 13 has9o_13 (.bool true) hH1 (fun w0 hSw => ?_) ?_
 ·(unfold has9o_13 oO; clear hSw; go_simp)
 simp only [has9o_13, oO, Act.put, sA, sB, sC]
 have HH := Hn hH1
 have FQ := Hn (HQ.out _ HH.out)
 refine wpAnyH_done (by kernel_rfl) ?_ _
 refine NoPanic.normal ?_
 exact FQ.out
end Ci
end Go.Proofs.YtljmgfclhbadjaaGreatDoor
