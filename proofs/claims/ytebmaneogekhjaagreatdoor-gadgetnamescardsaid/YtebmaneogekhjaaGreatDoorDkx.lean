import Derived.Test.YtebmaneogekhjaaGreatDoorTk
import Derived.Test.YtebmaneogekhjaaGreatDoorDez
namespace Go.Proofs.YtebmaneogekhjaaGreatDoor
open Go.RowKit
set_option linter.unusedVariables false
set_option linter.unusedSimpArgs false
open Cm (Wr Tm co bf Ls lf ins Eqm)
namespace Ci
set_option maxRecDepth 100000
set_option maxHeartbeats 16000000
def has7o_0 : Oper := { dst := some 16, op := Op.fieldAddr 90 (Operand.tmp 3) 1, type := 0, pos := "piece.go:55", after := #[], guard := none }
def has7o_1 : Oper := { dst := some 17, op := Op.load 3 (Operand.tmp 16), type := 3, pos := "piece.go:55", after := #[{ on := 0, ground := Ground.data }], guard := none }
def has7o_2 : Oper := { dst := some 18, op := Op.binOp BinOp.geq 3 (Operand.tmp 17) (Operand.const (Value.int IntKind.i64 0)) 3, type := 4, pos := "piece.go:55", after := #[{ on := 1, ground := Ground.data }], guard := none }
def has7o_3 : Oper := { dst := some 19, op := Op.move (Operand.tmp 18), type := 4, pos := "piece.go:55", after := #[{ on := 2, ground := Ground.data }], guard := none }
def has7o_4 : Oper := { dst := some 20, op := Op.fieldAddr 90 (Operand.tmp 3) 1, type := 0, pos := "piece.go:55", after := #[{ on := 3, ground := Ground.guard }], guard := some (3, true) }
def has7o_5 : Oper := { dst := some 21, op := Op.load 3 (Operand.tmp 20), type := 3, pos := "piece.go:55", after := #[{ on := 4, ground := Ground.data }, { on := 3, ground := Ground.guard }], guard := some (3, true) }
def has7o_6 : Oper := { dst := some 22, op := Op.move (Operand.tmp 0), type := 23, pos := "piece.go:55", after := #[{ on := 3, ground := Ground.guard }], guard := some (3, true) }
def has7o_7 : Oper := { dst := some 23, op := Op.nilCheck (Operand.tmp 22), type := 0, pos := "piece.go:55", after := #[{ on := 6, ground := Ground.data }, { on := 3, ground := Ground.guard }], guard := some (3, true) }
def has7o_8 : Oper := { dst := some 24, op := Op.fieldAddr 34 (Operand.tmp 23) 0, type := 0, pos := "piece.go:55", after := #[{ on := 7, ground := Ground.data }, { on := 3, ground := Ground.guard }], guard := some (3, true) }
def has7o_9 : Oper := { dst := some 25, op := Op.load 25 (Operand.tmp 24), type := 25, pos := "piece.go:55", after := #[{ on := 8, ground := Ground.data }, { on := 3, ground := Ground.guard }], guard := some (3, true) }
def has7o_10 : Oper := { dst := some 26, op := Op.call { callee := Callee.value (Operand.func 18), args := #[Operand.tmp 25], argTypes := #[25] }, type := 3, pos := "piece.go:55", after := #[{ on := 9, ground := Ground.data }, { on := 3, ground := Ground.chain }, { on := 3, ground := Ground.guard }], guard := some (3, true) }
def has7o_11 : Oper := { dst := some 27, op := Op.binOp BinOp.lss 3 (Operand.tmp 21) (Operand.tmp 26) 3, type := 4, pos := "piece.go:55", after := #[{ on := 5, ground := Ground.data }, { on := 10, ground := Ground.data }, { on := 3, ground := Ground.guard }], guard := some (3, true) }
def has7o_12 : Oper := { dst := some 28, op := Op.pick (Operand.tmp 19) (Operand.tmp 27) (Operand.const (Value.bool false)), type := 4, pos := "piece.go:55", after := #[{ on := 3, ground := Ground.data }, { on := 11, ground := Ground.data }], guard := none }
def has7o_13 : Oper := { dst := some 4, op := Op.assign (Operand.tmp 28), type := 4, pos := "piece.go:55", after := #[{ on := 12, ground := Ground.data }, { on := 10, ground := Ground.chain }, { on := 0, ground := Ground.phase }, { on := 1, ground := Ground.phase }, { on := 2, ground := Ground.phase }, { on := 3, ground := Ground.phase }, { on := 4, ground := Ground.phase }, { on := 5, ground := Ground.phase }, { on := 6, ground := Ground.phase }, { on := 7, ground := Ground.phase }, { on := 8, ground := Ground.phase }, { on := 9, ground := Ground.phase }, { on := 10, ground := Ground.phase }, { on := 11, ground := Ground.phase }, { on := 12, ground := Ground.phase }], guard := none }
def has7o : Array Oper := #[has7o_0, has7o_1, has7o_2, has7o_3, has7o_4, has7o_5, has7o_6, has7o_7, has7o_8, has7o_9, has7o_10, has7o_11, has7o_12, has7o_13]
set_option maxRecDepth 100000 in
set_option maxHeartbeats 16000000 in
theorem has7 (Q : Exit → Act → World → Prop) (d q wb n : Nat) (i : Int) (u1 u2 u4 u5 u6 u7 u8 u9 u10 u11 u12 u13 u14 u15 u16 u17 u18 u19 u20 u21 u22 u23 u24 u25 u26 u27 u28 u29 u30 u31 u32 u33 u34 u35 u36 u37 u38 u39 u40 u41 u42 u43 : Value) (W : World)
  (qw : W.cell? ⟨wb, 1, none⟩ = some (.int .i64 i)) (q0 : W.cell? ⟨d, 0, none⟩ = some (.pointer (some ⟨q, 0, none⟩))) (L0 : Hid (0 ≤ i)) (L1 : Hid (i < (n : Int)))
  (C1 : Hid (∀ yy, Below W.heap.size W yy → Calls Tryz.prog 18 #[.pointer (some ⟨q, 0, none⟩)] yy fun e w' => e = .returned (.int .i64 (n : Int)) ∧ Below yy.heap.size yy w'))
  (HQ : Hid (∀ (wz : World), Below W.heap.size W wz → Q .normal ⟨#[.pointer (some ⟨d, 0, none⟩), u1, u2, .pointer (some ⟨wb, 0, none⟩), .bool true, u5, u6, u7, u8, u9, u10, u11, u12, u13, u14, u15, .pointer (some ⟨wb, 1, none⟩), .int .i64 i, .bool true, .bool true, .pointer (some ⟨wb, 1, none⟩), .int .i64 i, .pointer (some ⟨d, 0, none⟩), .pointer (some ⟨d, 0, none⟩), .pointer (some ⟨d, 0, none⟩), .pointer (some ⟨q, 0, none⟩), .int .i64 (n : Int), .bool true, .bool true, u29, u30, u31, u32, u33, u34, u35, u36, u37, u38, u39, u40, u41, u42, u43], []⟩ wz)) : (Code.region 7 has7o true).wp Tryz.prog Q ⟨#[.pointer (some ⟨d, 0, none⟩), u1, u2, .pointer (some ⟨wb, 0, none⟩), u4, u5, u6, u7, u8, u9, u10, u11, u12, u13, u14, u15, u16, u17, u18, u19, u20, u21, u22, u23, u24, u25, u26, u27, u28, u29, u30, u31, u32, u33, u34, u35, u36, u37, u38, u39, u40, u41, u42, u43], []⟩ W := by
 unfold has7o
 refine wp_region_noPanic ?_
 refine wp_region_held_drew (S := fun x => Below W.heap.size W x) (by kernel_rfl) (bl_drew W) (fun hH0 => ?_)
 refine tk 0 has7o_0 (.pointer (some ⟨wb, 1, none⟩)) rfl (by kernel_rfl) hH0 rfl (fun w0 hSw => ?_) ?_
 ·(unfold has7o_0; clear hSw; go_simp)
 simp only [has7o_0, Act.put, sA, sB, sC]
 refine tk 1 has7o_1 (.int .i64 i) rfl (by kernel_rfl) hH0 rfl (fun w0 hSw => ?_) ?_
 ·(unfold has7o_1; have hS : Below W.heap.size W w0 := hSw; have a0 := cell_keep qw hS; clear hS hSw; go_simp)
 simp only [has7o_1, Act.put, sA, sB, sC]
 refine tk 2 has7o_2 (.bool true) rfl (by kernel_rfl) hH0 rfl (fun w0 hSw => ?_) ?_
 ·(unfold has7o_2; clear hSw; have l0 := L0.out; go_simp)
 simp only [has7o_2, Act.put, sA, sB, sC]
 refine tk 3 has7o_3 (.bool true) rfl (by kernel_rfl) hH0 rfl (fun w0 hSw => ?_) ?_
 ·(unfold has7o_3; clear hSw; go_simp)
 simp only [has7o_3, Act.put, sA, sB, sC]
 refine tk 4 has7o_4 (.pointer (some ⟨wb, 1, none⟩)) rfl (by kernel_rfl) hH0 rfl (fun w0 hSw => ?_) ?_
 ·(unfold has7o_4; clear hSw; go_simp)
 simp only [has7o_4, Act.put, sA, sB, sC]
 refine tk 6 has7o_6 (.pointer (some ⟨d, 0, none⟩)) rfl (by kernel_rfl) hH0 rfl (fun w0 hSw => ?_) ?_
 ·(unfold has7o_6; clear hSw; go_simp)
 simp only [has7o_6, Act.put, sA, sB, sC]
 refine tk 5 has7o_5 (.int .i64 i) rfl (by kernel_rfl) hH0 rfl (fun w0 hSw => ?_) ?_
 ·(unfold has7o_5; have hS : Below W.heap.size W w0 := hSw; have a0 := cell_keep qw hS; clear hS hSw; go_simp)
 simp only [has7o_5, Act.put, sA, sB, sC]
 refine tk 7 has7o_7 (.pointer (some ⟨d, 0, none⟩)) rfl (by kernel_rfl) hH0 rfl (fun w0 hSw => ?_) ?_
 ·(unfold has7o_7; clear hSw; go_simp)
 simp only [has7o_7, Act.put, sA, sB, sC]
 refine tk 8 has7o_8 (.pointer (some ⟨d, 0, none⟩)) rfl (by kernel_rfl) hH0 rfl (fun w0 hSw => ?_) ?_
 ·(unfold has7o_8; clear hSw; go_simp)
 simp only [has7o_8, Act.put, sA, sB, sC]
 refine tk 9 has7o_9 (.pointer (some ⟨q, 0, none⟩)) rfl (by kernel_rfl) hH0 rfl (fun w0 hSw => ?_) ?_
 ·(unfold has7o_9; have hS : Below W.heap.size W w0 := hSw; have a0 := cell_keep q0 hS; clear hS hSw; go_simp)
 simp only [has7o_9, Act.put, sA, sB, sC]
 refine wpAnyH_ready (rs := [10]) (by kernel_rfl) (by simp) ?_
 refine AllReadyH.cons (o := has7o_10) rfl (fun K hK => ?_) AllReadyH.nil
 unfold has7o_10
 have HH := hidden hH0
 clear hH0
 go_simp
 refine (C1.out _ HH.out).mono ?_
 rintro e wn1 ⟨rfl, hb⟩
 have SN := hidden (bl_trans HH.out hb)
 clear HH C1 hb
 go_wp2_with fail
 refine hK.out _ _ SN.out (fun hH1 => ?_)
 clear hK K SN
 refine tk 11 has7o_11 (.bool true) rfl (by kernel_rfl) hH1 rfl (fun w0 hSw => ?_) ?_
 ·(unfold has7o_11; clear hSw; have l1 := L1.out; go_simp)
 simp only [has7o_11, Act.put, sA, sB, sC]
 refine tk 12 has7o_12 (.bool true) rfl (by kernel_rfl) hH1 rfl (fun w0 hSw => ?_) ?_
 ·(unfold has7o_12; clear hSw; go_simp)
 simp only [has7o_12, Act.put, sA, sB, sC]
 refine tk 13 has7o_13 (.bool true) rfl (by kernel_rfl) hH1 rfl (fun w0 hSw => ?_) ?_
 ·(unfold has7o_13; clear hSw; go_simp)
 simp only [has7o_13, Act.put, sA, sB, sC]
 have HH := hidden hH1
 have FQ := hidden (HQ.out _ HH.out)
 refine wpAnyH_done (by kernel_rfl) ?_ _
 refine NoPanic.normal ?_
 exact FQ.out
def has9o_0 : Oper := { dst := some 31, op := Op.fieldAddr 90 (Operand.tmp 3) 1, type := 0, pos := "piece.go:57", after := #[], guard := none }
def has9o_1 : Oper := { dst := some 32, op := Op.load 3 (Operand.tmp 31), type := 3, pos := "piece.go:57", after := #[{ on := 0, ground := Ground.data }], guard := none }
def has9o_2 : Oper := { dst := some 33, op := Op.binOp BinOp.geq 3 (Operand.tmp 32) (Operand.const (Value.int IntKind.i64 0)) 3, type := 4, pos := "piece.go:57", after := #[{ on := 1, ground := Ground.data }], guard := none }
def has9o_3 : Oper := { dst := some 34, op := Op.move (Operand.tmp 33), type := 4, pos := "piece.go:57", after := #[{ on := 2, ground := Ground.data }], guard := none }
def has9o_4 : Oper := { dst := some 35, op := Op.fieldAddr 90 (Operand.tmp 3) 1, type := 0, pos := "piece.go:57", after := #[{ on := 3, ground := Ground.guard }], guard := some (3, true) }
def has9o_5 : Oper := { dst := some 36, op := Op.load 3 (Operand.tmp 35), type := 3, pos := "piece.go:57", after := #[{ on := 4, ground := Ground.data }, { on := 3, ground := Ground.guard }], guard := some (3, true) }
def has9o_6 : Oper := { dst := some 37, op := Op.move (Operand.tmp 0), type := 23, pos := "piece.go:57", after := #[{ on := 3, ground := Ground.guard }], guard := some (3, true) }
def has9o_7 : Oper := { dst := some 38, op := Op.nilCheck (Operand.tmp 37), type := 0, pos := "piece.go:57", after := #[{ on := 6, ground := Ground.data }, { on := 3, ground := Ground.guard }], guard := some (3, true) }
def has9o_8 : Oper := { dst := some 39, op := Op.fieldAddr 34 (Operand.tmp 38) 0, type := 0, pos := "piece.go:57", after := #[{ on := 7, ground := Ground.data }, { on := 3, ground := Ground.guard }], guard := some (3, true) }
def has9o_9 : Oper := { dst := some 40, op := Op.load 25 (Operand.tmp 39), type := 25, pos := "piece.go:57", after := #[{ on := 8, ground := Ground.data }, { on := 3, ground := Ground.guard }], guard := some (3, true) }
def has9o_10 : Oper := { dst := some 41, op := Op.call { callee := Callee.value (Operand.func 39), args := #[Operand.tmp 40], argTypes := #[25] }, type := 3, pos := "piece.go:57", after := #[{ on := 9, ground := Ground.data }, { on := 3, ground := Ground.chain }, { on := 3, ground := Ground.guard }], guard := some (3, true) }
def has9o_11 : Oper := { dst := some 42, op := Op.binOp BinOp.lss 3 (Operand.tmp 36) (Operand.tmp 41) 3, type := 4, pos := "piece.go:57", after := #[{ on := 5, ground := Ground.data }, { on := 10, ground := Ground.data }, { on := 3, ground := Ground.guard }], guard := some (3, true) }
def has9o_12 : Oper := { dst := some 43, op := Op.pick (Operand.tmp 34) (Operand.tmp 42) (Operand.const (Value.bool false)), type := 4, pos := "piece.go:57", after := #[{ on := 3, ground := Ground.data }, { on := 11, ground := Ground.data }], guard := none }
def has9o_13 : Oper := { dst := some 4, op := Op.assign (Operand.tmp 43), type := 4, pos := "piece.go:57", after := #[{ on := 12, ground := Ground.data }, { on := 10, ground := Ground.chain }, { on := 0, ground := Ground.phase }, { on := 1, ground := Ground.phase }, { on := 2, ground := Ground.phase }, { on := 3, ground := Ground.phase }, { on := 4, ground := Ground.phase }, { on := 5, ground := Ground.phase }, { on := 6, ground := Ground.phase }, { on := 7, ground := Ground.phase }, { on := 8, ground := Ground.phase }, { on := 9, ground := Ground.phase }, { on := 10, ground := Ground.phase }, { on := 11, ground := Ground.phase }, { on := 12, ground := Ground.phase }], guard := none }
def has9o : Array Oper := #[has9o_0, has9o_1, has9o_2, has9o_3, has9o_4, has9o_5, has9o_6, has9o_7, has9o_8, has9o_9, has9o_10, has9o_11, has9o_12, has9o_13]
set_option maxRecDepth 100000 in
set_option maxHeartbeats 16000000 in
theorem has9 (Q : Exit → Act → World → Prop) (d q wb n : Nat) (i : Int) (u1 u2 u4 u5 u6 u7 u8 u9 u10 u11 u12 u13 u14 u15 u16 u17 u18 u19 u20 u21 u22 u23 u24 u25 u26 u27 u28 u29 u30 u31 u32 u33 u34 u35 u36 u37 u38 u39 u40 u41 u42 u43 : Value) (W : World)
  (qw : W.cell? ⟨wb, 1, none⟩ = some (.int .i64 i)) (q0 : W.cell? ⟨d, 0, none⟩ = some (.pointer (some ⟨q, 0, none⟩))) (L0 : Hid (0 ≤ i)) (L1 : Hid (i < (n : Int)))
  (C1 : Hid (∀ yy, Below W.heap.size W yy → Calls Tryz.prog 39 #[.pointer (some ⟨q, 0, none⟩)] yy fun e w' => e = .returned (.int .i64 (n : Int)) ∧ Below yy.heap.size yy w'))
  (HQ : Hid (∀ (wz : World), Below W.heap.size W wz → Q .normal ⟨#[.pointer (some ⟨d, 0, none⟩), u1, u2, .pointer (some ⟨wb, 0, none⟩), .bool true, u5, u6, u7, u8, u9, u10, u11, u12, u13, u14, u15, u16, u17, u18, u19, u20, u21, u22, u23, u24, u25, u26, u27, u28, u29, u30, .pointer (some ⟨wb, 1, none⟩), .int .i64 i, .bool true, .bool true, .pointer (some ⟨wb, 1, none⟩), .int .i64 i, .pointer (some ⟨d, 0, none⟩), .pointer (some ⟨d, 0, none⟩), .pointer (some ⟨d, 0, none⟩), .pointer (some ⟨q, 0, none⟩), .int .i64 (n : Int), .bool true, .bool true], []⟩ wz)) : (Code.region 9 has9o true).wp Tryz.prog Q ⟨#[.pointer (some ⟨d, 0, none⟩), u1, u2, .pointer (some ⟨wb, 0, none⟩), u4, u5, u6, u7, u8, u9, u10, u11, u12, u13, u14, u15, u16, u17, u18, u19, u20, u21, u22, u23, u24, u25, u26, u27, u28, u29, u30, u31, u32, u33, u34, u35, u36, u37, u38, u39, u40, u41, u42, u43], []⟩ W := by
 unfold has9o
 refine wp_region_noPanic ?_
 refine wp_region_held_drew (S := fun x => Below W.heap.size W x) (by kernel_rfl) (bl_drew W) (fun hH0 => ?_)
 refine tk 0 has9o_0 (.pointer (some ⟨wb, 1, none⟩)) rfl (by kernel_rfl) hH0 rfl (fun w0 hSw => ?_) ?_
 ·(unfold has9o_0; clear hSw; go_simp)
 simp only [has9o_0, Act.put, sA, sB, sC]
 refine tk 1 has9o_1 (.int .i64 i) rfl (by kernel_rfl) hH0 rfl (fun w0 hSw => ?_) ?_
 ·(unfold has9o_1; have hS : Below W.heap.size W w0 := hSw; have a0 := cell_keep qw hS; clear hS hSw; go_simp)
 simp only [has9o_1, Act.put, sA, sB, sC]
 refine tk 2 has9o_2 (.bool true) rfl (by kernel_rfl) hH0 rfl (fun w0 hSw => ?_) ?_
 ·(unfold has9o_2; clear hSw; have l0 := L0.out; go_simp)
 simp only [has9o_2, Act.put, sA, sB, sC]
 refine tk 3 has9o_3 (.bool true) rfl (by kernel_rfl) hH0 rfl (fun w0 hSw => ?_) ?_
 ·(unfold has9o_3; clear hSw; go_simp)
 simp only [has9o_3, Act.put, sA, sB, sC]
 refine tk 4 has9o_4 (.pointer (some ⟨wb, 1, none⟩)) rfl (by kernel_rfl) hH0 rfl (fun w0 hSw => ?_) ?_
 ·(unfold has9o_4; clear hSw; go_simp)
 simp only [has9o_4, Act.put, sA, sB, sC]
 refine tk 6 has9o_6 (.pointer (some ⟨d, 0, none⟩)) rfl (by kernel_rfl) hH0 rfl (fun w0 hSw => ?_) ?_
 ·(unfold has9o_6; clear hSw; go_simp)
 simp only [has9o_6, Act.put, sA, sB, sC]
 refine tk 5 has9o_5 (.int .i64 i) rfl (by kernel_rfl) hH0 rfl (fun w0 hSw => ?_) ?_
 ·(unfold has9o_5; have hS : Below W.heap.size W w0 := hSw; have a0 := cell_keep qw hS; clear hS hSw; go_simp)
 simp only [has9o_5, Act.put, sA, sB, sC]
 refine tk 7 has9o_7 (.pointer (some ⟨d, 0, none⟩)) rfl (by kernel_rfl) hH0 rfl (fun w0 hSw => ?_) ?_
 ·(unfold has9o_7; clear hSw; go_simp)
 simp only [has9o_7, Act.put, sA, sB, sC]
 refine tk 8 has9o_8 (.pointer (some ⟨d, 0, none⟩)) rfl (by kernel_rfl) hH0 rfl (fun w0 hSw => ?_) ?_
 ·(unfold has9o_8; clear hSw; go_simp)
 simp only [has9o_8, Act.put, sA, sB, sC]
 refine tk 9 has9o_9 (.pointer (some ⟨q, 0, none⟩)) rfl (by kernel_rfl) hH0 rfl (fun w0 hSw => ?_) ?_
 ·(unfold has9o_9; have hS : Below W.heap.size W w0 := hSw; have a0 := cell_keep q0 hS; clear hS hSw; go_simp)
 simp only [has9o_9, Act.put, sA, sB, sC]
 refine wpAnyH_ready (rs := [10]) (by kernel_rfl) (by simp) ?_
 refine AllReadyH.cons (o := has9o_10) rfl (fun K hK => ?_) AllReadyH.nil
 unfold has9o_10
 have HH := hidden hH0
 clear hH0
 go_simp
 refine (C1.out _ HH.out).mono ?_
 rintro e wn1 ⟨rfl, hb⟩
 have SN := hidden (bl_trans HH.out hb)
 clear HH C1 hb
 go_wp2_with fail
 refine hK.out _ _ SN.out (fun hH1 => ?_)
 clear hK K SN
 refine tk 11 has9o_11 (.bool true) rfl (by kernel_rfl) hH1 rfl (fun w0 hSw => ?_) ?_
 ·(unfold has9o_11; clear hSw; have l1 := L1.out; go_simp)
 simp only [has9o_11, Act.put, sA, sB, sC]
 refine tk 12 has9o_12 (.bool true) rfl (by kernel_rfl) hH1 rfl (fun w0 hSw => ?_) ?_
 ·(unfold has9o_12; clear hSw; go_simp)
 simp only [has9o_12, Act.put, sA, sB, sC]
 refine tk 13 has9o_13 (.bool true) rfl (by kernel_rfl) hH1 rfl (fun w0 hSw => ?_) ?_
 ·(unfold has9o_13; clear hSw; go_simp)
 simp only [has9o_13, Act.put, sA, sB, sC]
 have HH := hidden hH1
 have FQ := hidden (HQ.out _ HH.out)
 refine wpAnyH_done (by kernel_rfl) ?_ _
 refine NoPanic.normal ?_
 exact FQ.out
end Ci
end Go.Proofs.YtebmaneogekhjaaGreatDoor
