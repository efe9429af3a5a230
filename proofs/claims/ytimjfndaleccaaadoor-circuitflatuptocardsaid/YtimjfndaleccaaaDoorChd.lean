import Derived.Test.YtimjfndaleccaaaDoorTk
import Derived.Test.YtimjfndaleccaaaDoorChc
namespace Go.Proofs.YtimjfndaleccaaaDoor
open Go.RowKit
set_option linter.unusedVariables false
set_option linter.unusedSimpArgs false
open Cm (Wr Tm co bf Ls lf ins Eqm)
namespace Ci
set_option maxRecDepth 100000
set_option maxHeartbeats 16000000
def lf8o_0 : Oper := { dst := some 45, op := Op.move (Operand.tmp 14), type := 35, pos := "outright.go:94", after := #[], guard := none }
def lf8o_1 : Oper := { dst := some 46, op := Op.binOp BinOp.neq 35 (Operand.tmp 45) (Operand.const (Value.int IntKind.i64 0)) 35, type := 4, pos := "outright.go:94", after := #[{ on := 0, ground := Ground.data }], guard := none }
def lf8o_2 : Oper := { dst := some 47, op := Op.move (Operand.tmp 46), type := 4, pos := "outright.go:94", after := #[{ on := 1, ground := Ground.data }], guard := none }
def lf8o_3 : Oper := { dst := some 48, op := Op.fieldAddr 34 (Operand.tmp 13) 0, type := 0, pos := "outright.go:94", after := #[{ on := 2, ground := Ground.guard }], guard := some (2, false) }
def lf8o_4 : Oper := { dst := some 49, op := Op.load 23 (Operand.tmp 48), type := 23, pos := "outright.go:94", after := #[{ on := 3, ground := Ground.data }, { on := 2, ground := Ground.guard }], guard := some (2, false) }
def lf8o_5 : Oper := { dst := some 50, op := Op.call { callee := Callee.builtin Builtin.len, args := #[Operand.tmp 49], argTypes := #[23] }, type := 3, pos := "outright.go:94", after := #[{ on := 4, ground := Ground.data }, { on := 2, ground := Ground.guard }], guard := some (2, false) }
def lf8o_6 : Oper := { dst := some 51, op := Op.move (Operand.tmp 11), type := 28, pos := "outright.go:94", after := #[{ on := 2, ground := Ground.guard }], guard := some (2, false) }
def lf8o_7 : Oper := { dst := some 52, op := Op.call { callee := Callee.value (Operand.func 8), args := #[Operand.tmp 51], argTypes := #[28] }, type := 3, pos := "outright.go:94", after := #[{ on := 6, ground := Ground.data }, { on := 2, ground := Ground.chain }, { on := 2, ground := Ground.guard }], guard := some (2, false) }
def lf8o_8 : Oper := { dst := some 53, op := Op.binOp BinOp.neq 3 (Operand.tmp 50) (Operand.tmp 52) 3, type := 4, pos := "outright.go:94", after := #[{ on := 5, ground := Ground.data }, { on := 7, ground := Ground.data }, { on := 2, ground := Ground.guard }], guard := some (2, false) }
def lf8o_9 : Oper := { dst := some 54, op := Op.pick (Operand.tmp 47) (Operand.const (Value.bool true)) (Operand.tmp 53), type := 4, pos := "outright.go:94", after := #[{ on := 2, ground := Ground.data }, { on := 8, ground := Ground.data }], guard := none }
def lf8o_10 : Oper := { dst := some 55, op := Op.move (Operand.tmp 54), type := 4, pos := "outright.go:94", after := #[{ on := 9, ground := Ground.data }, { on := 7, ground := Ground.chain }], guard := none }
def lf8o_11 : Oper := { dst := some 56, op := Op.fieldAddr 34 (Operand.tmp 13) 1, type := 0, pos := "outright.go:94", after := #[{ on := 10, ground := Ground.guard }], guard := some (10, false) }
def lf8o_12 : Oper := { dst := some 57, op := Op.load 23 (Operand.tmp 56), type := 23, pos := "outright.go:94", after := #[{ on := 11, ground := Ground.data }, { on := 10, ground := Ground.guard }], guard := some (10, false) }
def lf8o_13 : Oper := { dst := some 58, op := Op.call { callee := Callee.builtin Builtin.len, args := #[Operand.tmp 57], argTypes := #[23] }, type := 3, pos := "outright.go:94", after := #[{ on := 12, ground := Ground.data }, { on := 10, ground := Ground.guard }], guard := some (10, false) }
def lf8o_14 : Oper := { dst := some 59, op := Op.move (Operand.tmp 11), type := 28, pos := "outright.go:94", after := #[{ on := 10, ground := Ground.guard }], guard := some (10, false) }
def lf8o_15 : Oper := { dst := some 60, op := Op.call { callee := Callee.value (Operand.func 8), args := #[Operand.tmp 59], argTypes := #[28] }, type := 3, pos := "outright.go:94", after := #[{ on := 14, ground := Ground.data }, { on := 10, ground := Ground.chain }, { on := 10, ground := Ground.guard }], guard := some (10, false) }
def lf8o_16 : Oper := { dst := some 61, op := Op.binOp BinOp.neq 3 (Operand.tmp 58) (Operand.tmp 60) 3, type := 4, pos := "outright.go:94", after := #[{ on := 13, ground := Ground.data }, { on := 15, ground := Ground.data }, { on := 10, ground := Ground.guard }], guard := some (10, false) }
def lf8o_17 : Oper := { dst := some 62, op := Op.pick (Operand.tmp 55) (Operand.const (Value.bool true)) (Operand.tmp 61), type := 4, pos := "outright.go:94", after := #[{ on := 10, ground := Ground.data }, { on := 16, ground := Ground.data }], guard := none }
def lf8o_18 : Oper := { dst := some 63, op := Op.move (Operand.tmp 62), type := 4, pos := "outright.go:94", after := #[{ on := 17, ground := Ground.data }, { on := 15, ground := Ground.chain }], guard := none }
def lf8o_19 : Oper := { dst := some 64, op := Op.fieldAddr 34 (Operand.tmp 13) 2, type := 0, pos := "outright.go:94", after := #[{ on := 18, ground := Ground.guard }], guard := some (18, false) }
def lf8o_20 : Oper := { dst := some 65, op := Op.load 23 (Operand.tmp 64), type := 23, pos := "outright.go:94", after := #[{ on := 19, ground := Ground.data }, { on := 18, ground := Ground.guard }], guard := some (18, false) }
def lf8o_21 : Oper := { dst := some 66, op := Op.call { callee := Callee.builtin Builtin.len, args := #[Operand.tmp 65], argTypes := #[23] }, type := 3, pos := "outright.go:94", after := #[{ on := 20, ground := Ground.data }, { on := 18, ground := Ground.guard }], guard := some (18, false) }
def lf8o_22 : Oper := { dst := some 67, op := Op.move (Operand.tmp 11), type := 28, pos := "outright.go:94", after := #[{ on := 18, ground := Ground.guard }], guard := some (18, false) }
def lf8o_23 : Oper := { dst := some 68, op := Op.call { callee := Callee.value (Operand.func 8), args := #[Operand.tmp 67], argTypes := #[28] }, type := 3, pos := "outright.go:94", after := #[{ on := 22, ground := Ground.data }, { on := 18, ground := Ground.chain }, { on := 18, ground := Ground.guard }], guard := some (18, false) }
def lf8o_24 : Oper := { dst := some 69, op := Op.binOp BinOp.neq 3 (Operand.tmp 66) (Operand.tmp 68) 3, type := 4, pos := "outright.go:94", after := #[{ on := 21, ground := Ground.data }, { on := 23, ground := Ground.data }, { on := 18, ground := Ground.guard }], guard := some (18, false) }
def lf8o_25 : Oper := { dst := some 70, op := Op.pick (Operand.tmp 63) (Operand.const (Value.bool true)) (Operand.tmp 69), type := 4, pos := "outright.go:94", after := #[{ on := 18, ground := Ground.data }, { on := 24, ground := Ground.data }], guard := none }
def lf8o_26 : Oper := { dst := some 71, op := Op.move (Operand.tmp 70), type := 4, pos := "outright.go:94", after := #[{ on := 25, ground := Ground.data }, { on := 23, ground := Ground.chain }], guard := none }
def lf8o_27 : Oper := { dst := some 72, op := Op.fieldAddr 34 (Operand.tmp 13) 3, type := 0, pos := "outright.go:94", after := #[{ on := 26, ground := Ground.guard }], guard := some (26, false) }
def lf8o_28 : Oper := { dst := some 73, op := Op.load 23 (Operand.tmp 72), type := 23, pos := "outright.go:94", after := #[{ on := 27, ground := Ground.data }, { on := 26, ground := Ground.guard }], guard := some (26, false) }
def lf8o_29 : Oper := { dst := some 74, op := Op.call { callee := Callee.builtin Builtin.len, args := #[Operand.tmp 73], argTypes := #[23] }, type := 3, pos := "outright.go:94", after := #[{ on := 28, ground := Ground.data }, { on := 26, ground := Ground.guard }], guard := some (26, false) }
def lf8o_30 : Oper := { dst := some 75, op := Op.move (Operand.tmp 11), type := 28, pos := "outright.go:94", after := #[{ on := 26, ground := Ground.guard }], guard := some (26, false) }
def lf8o_31 : Oper := { dst := some 76, op := Op.call { callee := Callee.value (Operand.func 9), args := #[Operand.tmp 75], argTypes := #[28] }, type := 3, pos := "outright.go:94", after := #[{ on := 30, ground := Ground.data }, { on := 26, ground := Ground.chain }, { on := 26, ground := Ground.guard }], guard := some (26, false) }
def lf8o_32 : Oper := { dst := some 77, op := Op.binOp BinOp.neq 3 (Operand.tmp 74) (Operand.tmp 76) 3, type := 4, pos := "outright.go:94", after := #[{ on := 29, ground := Ground.data }, { on := 31, ground := Ground.data }, { on := 26, ground := Ground.guard }], guard := some (26, false) }
def lf8o_33 : Oper := { dst := some 78, op := Op.pick (Operand.tmp 71) (Operand.const (Value.bool true)) (Operand.tmp 77), type := 4, pos := "outright.go:94", after := #[{ on := 26, ground := Ground.data }, { on := 32, ground := Ground.data }], guard := none }
def lf8o : Array Oper := #[lf8o_0, lf8o_1, lf8o_2, lf8o_3, lf8o_4, lf8o_5, lf8o_6, lf8o_7, lf8o_8, lf8o_9, lf8o_10, lf8o_11, lf8o_12, lf8o_13, lf8o_14, lf8o_15, lf8o_16, lf8o_17, lf8o_18, lf8o_19, lf8o_20, lf8o_21, lf8o_22, lf8o_23, lf8o_24, lf8o_25, lf8o_26, lf8o_27, lf8o_28, lf8o_29, lf8o_30, lf8o_31, lf8o_32, lf8o_33]
set_option maxRecDepth 100000 in
set_option maxHeartbeats 16000000 in
theorem lf8 (Q : Exit → Act → World → Prop) (sb wb K m c0 c1 c2 c3 : Nat) (p0 p1 p2 p3 : Option Addr) (u0 u1 u2 u3 u4 u5 u6 u7 u8 u9 u10 u12 u15 u16 u17 u18 u19 u20 u21 u22 u23 u24 u25 u26 u27 u28 u29 u30 u31 u32 u33 u34 u35 u36 u37 u38 u39 u40 u41 u42 u43 u44 u45 u46 u47 u48 u49 u50 u51 u52 u53 u54 u55 u56 u57 u58 u59 u60 u61 u62 u63 u64 u65 u66 u67 u68 u69 u70 u71 u72 u73 u74 u75 u76 u77 u78 u79 u80 u81 u82 u83 u84 u85 u86 u87 u88 u89 u90 u91 u92 u93 u94 u95 u96 u97 u98 u99 u100 u101 u102 u103 u104 u105 u106 u107 u108 u109 u110 u111 u112 u113 u114 u115 u116 u117 u118 u119 u120 u121 u122 u123 u124 u125 u126 u127 u128 u129 u130 u131 u132 u133 u134 u135 u136 u137 u138 u139 u140 u141 u142 u143 u144 u145 u146 u147 u148 u149 u150 u151 u152 u153 u154 u155 u156 u157 u158 u159 u160 u161 u162 u163 u164 u165 u166 u167 u168 u169 u170 u171 u172 u173 u174 u175 u176 u177 u178 u179 u180 u181 u182 u183 u184 u185 u186 : Value) (W : World)
  (g0 : W.cell? ⟨wb, 0, none⟩ = some (.slice p0 K c0)) (g1 : W.cell? ⟨wb, 1, none⟩ = some (.slice p1 K c1)) (g2 : W.cell? ⟨wb, 2, none⟩ = some (.slice p2 K c2)) (g3 : W.cell? ⟨wb, 3, none⟩ = some (.slice p3 m c3))
  (C7 : Hid (∀ yy, Below W.heap.size W yy → Calls Tryd.prog 8 #[.pointer (some ⟨sb, 0, none⟩)] yy fun e w' => e = .returned (.int .i64 (K : Int)) ∧ Below yy.heap.size yy w'))
  (C15 : Hid (∀ yy, Below W.heap.size W yy → Calls Tryd.prog 8 #[.pointer (some ⟨sb, 0, none⟩)] yy fun e w' => e = .returned (.int .i64 (K : Int)) ∧ Below yy.heap.size yy w'))
  (C23 : Hid (∀ yy, Below W.heap.size W yy → Calls Tryd.prog 8 #[.pointer (some ⟨sb, 0, none⟩)] yy fun e w' => e = .returned (.int .i64 (K : Int)) ∧ Below yy.heap.size yy w'))
  (C31 : Hid (∀ yy, Below W.heap.size W yy → Calls Tryd.prog 9 #[.pointer (some ⟨sb, 0, none⟩)] yy fun e w' => e = .returned (.int .i64 (m : Int)) ∧ Below yy.heap.size yy w'))
  (HQ : Hid (∀ (wz : World), Below W.heap.size W wz → Q .normal ⟨#[u0, u1, u2, u3, u4, u5, u6, u7, u8, u9, u10, .pointer (some ⟨sb, 0, none⟩), u12, .pointer (some ⟨wb, 0, none⟩), .int .i64 0, u15, u16, u17, u18, u19, u20, u21, u22, u23, u24, u25, u26, u27, u28, u29, u30, u31, u32, u33, u34, u35, u36, u37, u38, u39, u40, u41, u42, u43, u44, .int .i64 0, .bool false, .bool false, .pointer (some ⟨wb, 0, none⟩), .slice p0 K c0, .int .i64 (K : Int), .pointer (some ⟨sb, 0, none⟩), .int .i64 (K : Int), .bool false, .bool false, .bool false, .pointer (some ⟨wb, 1, none⟩), .slice p1 K c1, .int .i64 (K : Int), .pointer (some ⟨sb, 0, none⟩), .int .i64 (K : Int), .bool false, .bool false, .bool false, .pointer (some ⟨wb, 2, none⟩), .slice p2 K c2, .int .i64 (K : Int), .pointer (some ⟨sb, 0, none⟩), .int .i64 (K : Int), .bool false, .bool false, .bool false, .pointer (some ⟨wb, 3, none⟩), .slice p3 m c3, .int .i64 (m : Int), .pointer (some ⟨sb, 0, none⟩), .int .i64 (m : Int), .bool false, .bool false, u79, u80, u81, u82, u83, u84, u85, u86, u87, u88, u89, u90, u91, u92, u93, u94, u95, u96, u97, u98, u99, u100, u101, u102, u103, u104, u105, u106, u107, u108, u109, u110, u111, u112, u113, u114, u115, u116, u117, u118, u119, u120, u121, u122, u123, u124, u125, u126, u127, u128, u129, u130, u131, u132, u133, u134, u135, u136, u137, u138, u139, u140, u141, u142, u143, u144, u145, u146, u147, u148, u149, u150, u151, u152, u153, u154, u155, u156, u157, u158, u159, u160, u161, u162, u163, u164, u165, u166, u167, u168, u169, u170, u171, u172, u173, u174, u175, u176, u177, u178, u179, u180, u181, u182, u183, u184, u185, u186], []⟩ wz)) : (Code.region 8 lf8o true).wp Tryd.prog Q ⟨#[u0, u1, u2, u3, u4, u5, u6, u7, u8, u9, u10, .pointer (some ⟨sb, 0, none⟩), u12, .pointer (some ⟨wb, 0, none⟩), .int .i64 0, u15, u16, u17, u18, u19, u20, u21, u22, u23, u24, u25, u26, u27, u28, u29, u30, u31, u32, u33, u34, u35, u36, u37, u38, u39, u40, u41, u42, u43, u44, u45, u46, u47, u48, u49, u50, u51, u52, u53, u54, u55, u56, u57, u58, u59, u60, u61, u62, u63, u64, u65, u66, u67, u68, u69, u70, u71, u72, u73, u74, u75, u76, u77, u78, u79, u80, u81, u82, u83, u84, u85, u86, u87, u88, u89, u90, u91, u92, u93, u94, u95, u96, u97, u98, u99, u100, u101, u102, u103, u104, u105, u106, u107, u108, u109, u110, u111, u112, u113, u114, u115, u116, u117, u118, u119, u120, u121, u122, u123, u124, u125, u126, u127, u128, u129, u130, u131, u132, u133, u134, u135, u136, u137, u138, u139, u140, u141, u142, u143, u144, u145, u146, u147, u148, u149, u150, u151, u152, u153, u154, u155, u156, u157, u158, u159, u160, u161, u162, u163, u164, u165, u166, u167, u168, u169, u170, u171, u172, u173, u174, u175, u176, u177, u178, u179, u180, u181, u182, u183, u184, u185, u186], []⟩ W := by
 unfold lf8o
 refine wp_region_noPanic ?_
 refine wp_region_held_drew (S := fun x => Below W.heap.size W x) (by kernel_rfl) (bl_drew W) (fun hH0 => ?_)
 refine tk 0 lf8o_0 (.int .i64 0) rfl (by kernel_rfl) hH0 rfl (fun w0 hSw => ?_) ?_
 ·(unfold lf8o_0; clear hSw; go_simp)
 simp only [lf8o_0, Act.put, sA, sB, sC]
 refine tk 1 lf8o_1 (.bool false) rfl (by kernel_rfl) hH0 rfl (fun w0 hSw => ?_) ?_
 ·(unfold lf8o_1; clear hSw; go_simp)
 simp only [lf8o_1, Act.put, sA, sB, sC]
 refine tk 2 lf8o_2 (.bool false) rfl (by kernel_rfl) hH0 rfl (fun w0 hSw => ?_) ?_
 ·(unfold lf8o_2; clear hSw; go_simp)
 simp only [lf8o_2, Act.put, sA, sB, sC]
 refine tk 3 lf8o_3 (.pointer (some ⟨wb, 0, none⟩)) rfl (by kernel_rfl) hH0 rfl (fun w0 hSw => ?_) ?_
 ·(unfold lf8o_3; clear hSw; go_simp)
 simp only [lf8o_3, Act.put, sA, sB, sC]
 refine tk 6 lf8o_6 (.pointer (some ⟨sb, 0, none⟩)) rfl (by kernel_rfl) hH0 rfl (fun w0 hSw => ?_) ?_
 ·(unfold lf8o_6; clear hSw; go_simp)
 simp only [lf8o_6, Act.put, sA, sB, sC]
 refine tk 4 lf8o_4 (.slice p0 K c0) rfl (by kernel_rfl) hH0 rfl (fun w0 hSw => ?_) ?_
 ·(unfold lf8o_4; have hS : Below W.heap.size W w0 := hSw; have a0 := cell_keep g0 hS; clear hS hSw; go_simp)
 simp only [lf8o_4, Act.put, sA, sB, sC]
 refine tk 5 lf8o_5 (.int .i64 (K : Int)) rfl (by kernel_rfl) hH0 rfl (fun w0 hSw => ?_) ?_
 ·(unfold lf8o_5; clear hSw; go_simp)
 simp only [lf8o_5, Act.put, sA, sB, sC]
 refine wpAnyH_ready (rs := [7]) (by kernel_rfl) (by simp) ?_
 refine AllReadyH.cons (o := lf8o_7) rfl (fun K hK => ?_) AllReadyH.nil
 unfold lf8o_7
 have HH := hidden hH0
 clear hH0
 go_simp
 refine (C7.out _ HH.out).mono ?_
 rintro e wn1 ⟨rfl, hb⟩
 have SN := hidden (bl_trans HH.out hb)
 clear HH C7 hb
 go_wp2_with fail
 refine hK.out _ _ SN.out (fun hH1 => ?_)
 clear hK K SN
 refine tk 8 lf8o_8 (.bool false) rfl (by kernel_rfl) hH1 rfl (fun w0 hSw => ?_) ?_
 ·(unfold lf8o_8; clear hSw; go_simp)
 simp only [lf8o_8, Act.put, sA, sB, sC]
 refine tk 9 lf8o_9 (.bool false) rfl (by kernel_rfl) hH1 rfl (fun w0 hSw => ?_) ?_
 ·(unfold lf8o_9; clear hSw; go_simp)
 simp only [lf8o_9, Act.put, sA, sB, sC]
 refine tk 10 lf8o_10 (.bool false) rfl (by kernel_rfl) hH1 rfl (fun w0 hSw => ?_) ?_
 ·(unfold lf8o_10; clear hSw; go_simp)
 simp only [lf8o_10, Act.put, sA, sB, sC]
 refine tk 11 lf8o_11 (.pointer (some ⟨wb, 1, none⟩)) rfl (by kernel_rfl) hH1 rfl (fun w0 hSw => ?_) ?_
 ·(unfold lf8o_11; clear hSw; go_simp)
 simp only [lf8o_11, Act.put, sA, sB, sC]
 refine tk 14 lf8o_14 (.pointer (some ⟨sb, 0, none⟩)) rfl (by kernel_rfl) hH1 rfl (fun w0 hSw => ?_) ?_
 ·(unfold lf8o_14; clear hSw; go_simp)
 simp only [lf8o_14, Act.put, sA, sB, sC]
 refine tk 12 lf8o_12 (.slice p1 K c1) rfl (by kernel_rfl) hH1 rfl (fun w0 hSw => ?_) ?_
 ·(unfold lf8o_12; have hS : Below W.heap.size W w0 := hSw; have a0 := cell_keep g1 hS; clear hS hSw; go_simp)
 simp only [lf8o_12, Act.put, sA, sB, sC]
 refine tk 13 lf8o_13 (.int .i64 (K : Int)) rfl (by kernel_rfl) hH1 rfl (fun w0 hSw => ?_) ?_
 ·(unfold lf8o_13; clear hSw; go_simp)
 simp only [lf8o_13, Act.put, sA, sB, sC]
 refine wpAnyH_ready (rs := [15]) (by kernel_rfl) (by simp) ?_
 refine AllReadyH.cons (o := lf8o_15) rfl (fun K hK => ?_) AllReadyH.nil
 unfold lf8o_15
 have HH := hidden hH1
 clear hH1
 go_simp
 refine (C15.out _ HH.out).mono ?_
 rintro e wn2 ⟨rfl, hb⟩
 have SN := hidden (bl_trans HH.out hb)
 clear HH C15 hb
 go_wp2_with fail
 refine hK.out _ _ SN.out (fun hH2 => ?_)
 clear hK K SN
 refine tk 16 lf8o_16 (.bool false) rfl (by kernel_rfl) hH2 rfl (fun w0 hSw => ?_) ?_
 ·(unfold lf8o_16; clear hSw; go_simp)
 simp only [lf8o_16, Act.put, sA, sB, sC]
 refine tk 17 lf8o_17 (.bool false) rfl (by kernel_rfl) hH2 rfl (fun w0 hSw => ?_) ?_
 ·(unfold lf8o_17; clear hSw; go_simp)
 simp only [lf8o_17, Act.put, sA, sB, sC]
 refine tk 18 lf8o_18 (.bool false) rfl (by kernel_rfl) hH2 rfl (fun w0 hSw => ?_) ?_
 ·(unfold lf8o_18; clear hSw; go_simp)
 simp only [lf8o_18, Act.put, sA, sB, sC]
 refine tk 19 lf8o_19 (.pointer (some ⟨wb, 2, none⟩)) rfl (by kernel_rfl) hH2 rfl (fun w0 hSw => ?_) ?_
 ·(unfold lf8o_19; clear hSw; go_simp)
 simp only [lf8o_19, Act.put, sA, sB, sC]
 refine tk 22 lf8o_22 (.pointer (some ⟨sb, 0, none⟩)) rfl (by kernel_rfl) hH2 rfl (fun w0 hSw => ?_) ?_
 ·(unfold lf8o_22; clear hSw; go_simp)
 simp only [lf8o_22, Act.put, sA, sB, sC]
 refine tk 20 lf8o_20 (.slice p2 K c2) rfl (by kernel_rfl) hH2 rfl (fun w0 hSw => ?_) ?_
 ·(unfold lf8o_20; have hS : Below W.heap.size W w0 := hSw; have a0 := cell_keep g2 hS; clear hS hSw; go_simp)
 simp only [lf8o_20, Act.put, sA, sB, sC]
 refine tk 21 lf8o_21 (.int .i64 (K : Int)) rfl (by kernel_rfl) hH2 rfl (fun w0 hSw => ?_) ?_
 ·(unfold lf8o_21; clear hSw; go_simp)
 simp only [lf8o_21, Act.put, sA, sB, sC]
 refine wpAnyH_ready (rs := [23]) (by kernel_rfl) (by simp) ?_
 refine AllReadyH.cons (o := lf8o_23) rfl (fun K hK => ?_) AllReadyH.nil
 unfold lf8o_23
 have HH := hidden hH2
 clear hH2
 go_simp
 refine (C23.out _ HH.out).mono ?_
 rintro e wn3 ⟨rfl, hb⟩
 have SN := hidden (bl_trans HH.out hb)
 clear HH C23 hb
 go_wp2_with fail
 refine hK.out _ _ SN.out (fun hH3 => ?_)
 clear hK K SN
 refine tk 24 lf8o_24 (.bool false) rfl (by kernel_rfl) hH3 rfl (fun w0 hSw => ?_) ?_
 ·(unfold lf8o_24; clear hSw; go_simp)
 simp only [lf8o_24, Act.put, sA, sB, sC]
 refine tk 25 lf8o_25 (.bool false) rfl (by kernel_rfl) hH3 rfl (fun w0 hSw => ?_) ?_
 ·(unfold lf8o_25; clear hSw; go_simp)
 simp only [lf8o_25, Act.put, sA, sB, sC]
 refine tk 26 lf8o_26 (.bool false) rfl (by kernel_rfl) hH3 rfl (fun w0 hSw => ?_) ?_
 ·(unfold lf8o_26; clear hSw; go_simp)
 simp only [lf8o_26, Act.put, sA, sB, sC]
 refine tk 27 lf8o_27 (.pointer (some ⟨wb, 3, none⟩)) rfl (by kernel_rfl) hH3 rfl (fun w0 hSw => ?_) ?_
 ·(unfold lf8o_27; clear hSw; go_simp)
 simp only [lf8o_27, Act.put, sA, sB, sC]
 refine tk 30 lf8o_30 (.pointer (some ⟨sb, 0, none⟩)) rfl (by kernel_rfl) hH3 rfl (fun w0 hSw => ?_) ?_
 ·(unfold lf8o_30; clear hSw; go_simp)
 simp only [lf8o_30, Act.put, sA, sB, sC]
 refine tk 28 lf8o_28 (.slice p3 m c3) rfl (by kernel_rfl) hH3 rfl (fun w0 hSw => ?_) ?_
 ·(unfold lf8o_28; have hS : Below W.heap.size W w0 := hSw; have a0 := cell_keep g3 hS; clear hS hSw; go_simp)
 simp only [lf8o_28, Act.put, sA, sB, sC]
 refine tk 29 lf8o_29 (.int .i64 (m : Int)) rfl (by kernel_rfl) hH3 rfl (fun w0 hSw => ?_) ?_
 ·(unfold lf8o_29; clear hSw; go_simp)
 simp only [lf8o_29, Act.put, sA, sB, sC]
 refine wpAnyH_ready (rs := [31]) (by kernel_rfl) (by simp) ?_
 refine AllReadyH.cons (o := lf8o_31) rfl (fun K hK => ?_) AllReadyH.nil
 unfold lf8o_31
 have HH := hidden hH3
 clear hH3
 go_simp
 refine (C31.out _ HH.out).mono ?_
 rintro e wn4 ⟨rfl, hb⟩
 have SN := hidden (bl_trans HH.out hb)
 clear HH C31 hb
 go_wp2_with fail
 refine hK.out _ _ SN.out (fun hH4 => ?_)
 clear hK K SN
 refine tk 32 lf8o_32 (.bool false) rfl (by kernel_rfl) hH4 rfl (fun w0 hSw => ?_) ?_
 ·(unfold lf8o_32; clear hSw; go_simp)
 simp only [lf8o_32, Act.put, sA, sB, sC]
 refine tk 33 lf8o_33 (.bool false) rfl (by kernel_rfl) hH4 rfl (fun w0 hSw => ?_) ?_
 ·(unfold lf8o_33; clear hSw; go_simp)
 simp only [lf8o_33, Act.put, sA, sB, sC]
 have HH := hidden hH4
 have FQ := hidden (HQ.out _ HH.out)
 refine wpAnyH_done (by kernel_rfl) ?_ _
 refine NoPanic.normal ?_
 exact FQ.out
def lf21o_0 : Oper := { dst := some 108, op := Op.load 26 (Operand.tmp 15), type := 26, pos := "outright.go:107", after := #[], guard := none }
def lf21o_1 : Oper := { dst := some 109, op := Op.load 26 (Operand.tmp 16), type := 26, pos := "outright.go:107", after := #[], guard := none }
def lf21o_2 : Oper := { dst := some 110, op := Op.load 26 (Operand.tmp 21), type := 26, pos := "outright.go:107", after := #[], guard := none }
def lf21o_3 : Oper := { dst := some 111, op := Op.call { callee := Callee.value (Operand.func 14), args := #[Operand.tmp 109, Operand.tmp 110], argTypes := #[26, 26] }, type := 26, pos := "outright.go:107", after := #[{ on := 1, ground := Ground.data }, { on := 2, ground := Ground.data }], guard := none }
def lf21o_4 : Oper := { dst := some 112, op := Op.call { callee := Callee.value (Operand.func 15), args := #[Operand.tmp 108, Operand.tmp 111], argTypes := #[26, 26] }, type := 26, pos := "outright.go:107", after := #[{ on := 0, ground := Ground.data }, { on := 3, ground := Ground.data }, { on := 3, ground := Ground.chain }], guard := none }
def lf21o_5 : Oper := { dst := none, op := Op.store 26 (Operand.tmp 15) (Operand.tmp 112), type := 0, pos := "outright.go:107", after := #[{ on := 4, ground := Ground.data }, { on := 4, ground := Ground.chain }, { on := 0, ground := Ground.phase }, { on := 1, ground := Ground.phase }, { on := 2, ground := Ground.phase }, { on := 3, ground := Ground.phase }, { on := 4, ground := Ground.phase }], guard := none }
def lf21o : Array Oper := #[lf21o_0, lf21o_1, lf21o_2, lf21o_3, lf21o_4, lf21o_5]
set_option maxRecDepth 100000 in
set_option maxHeartbeats 16000000 in
theorem lf21 (Q : Exit → Act → World → Prop) (sb fb nb : Nat) (s f n u t : E4) (u0 u1 u2 u3 u4 u5 u6 u7 u8 u9 u10 u11 u12 u13 u14 u17 u18 u19 u20 u22 u23 u24 u25 u26 u27 u28 u29 u30 u31 u32 u33 u34 u35 u36 u37 u38 u39 u40 u41 u42 u43 u44 u45 u46 u47 u48 u49 u50 u51 u52 u53 u54 u55 u56 u57 u58 u59 u60 u61 u62 u63 u64 u65 u66 u67 u68 u69 u70 u71 u72 u73 u74 u75 u76 u77 u78 u79 u80 u81 u82 u83 u84 u85 u86 u87 u88 u89 u90 u91 u92 u93 u94 u95 u96 u97 u98 u99 u100 u101 u102 u103 u104 u105 u106 u107 u108 u109 u110 u111 u112 u113 u114 u115 u116 u117 u118 u119 u120 u121 u122 u123 u124 u125 u126 u127 u128 u129 u130 u131 u132 u133 u134 u135 u136 u137 u138 u139 u140 u141 u142 u143 u144 u145 u146 u147 u148 u149 u150 u151 u152 u153 u154 u155 u156 u157 u158 u159 u160 u161 u162 u163 u164 u165 u166 u167 u168 u169 u170 u171 u172 u173 u174 u175 u176 u177 u178 u179 u180 u181 u182 u183 u184 u185 u186 : Value) (W : World)
  (nf : fb ≠ sb) (nn : nb ≠ sb) (rg : W.rangeAt sb 0 [.int .u64 s.x0, .int .u64 s.x1, .int .u64 s.x2, .int .u64 s.x3]) (th : W.there sb 0 4) (f0 : W.cell? ⟨fb, 0, none⟩ = some (.int .u64 f.x0)) (f1 : W.cell? ⟨fb, 1, none⟩ = some (.int .u64 f.x1)) (f2 : W.cell? ⟨fb, 2, none⟩ = some (.int .u64 f.x2)) (f3 : W.cell? ⟨fb, 3, none⟩ = some (.int .u64 f.x3)) (n0 : W.cell? ⟨nb, 0, none⟩ = some (.int .u64 n.x0)) (n1 : W.cell? ⟨nb, 1, none⟩ = some (.int .u64 n.x1)) (n2 : W.cell? ⟨nb, 2, none⟩ = some (.int .u64 n.x2)) (n3 : W.cell? ⟨nb, 3, none⟩ = some (.int .u64 n.x3))
  (C3 : Hid (∀ yy, Below W.heap.size W yy → Calls Tryd.prog 14 #[.agg #[.int .u64 f.x0, .int .u64 f.x1, .int .u64 f.x2, .int .u64 f.x3], .agg #[.int .u64 n.x0, .int .u64 n.x1, .int .u64 n.x2, .int .u64 n.x3]] yy fun e w' => e = .returned (.agg #[.int .u64 u.x0, .int .u64 u.x1, .int .u64 u.x2, .int .u64 u.x3]) ∧ Below yy.heap.size yy w'))
  (C4 : Hid (∀ yy, Below W.heap.size W yy → Calls Tryd.prog 15 #[.agg #[.int .u64 s.x0, .int .u64 s.x1, .int .u64 s.x2, .int .u64 s.x3], .agg #[.int .u64 u.x0, .int .u64 u.x1, .int .u64 u.x2, .int .u64 u.x3]] yy fun e w' => e = .returned (.agg #[.int .u64 t.x0, .int .u64 t.x1, .int .u64 t.x2, .int .u64 t.x3]) ∧ Below yy.heap.size yy w'))
  (HQ : Hid (∀ (wz : World), (∃ wy, Below W.heap.size W wy ∧ wz = wy.setCells sb 0 [.int .u64 t.x0, .int .u64 t.x1, .int .u64 t.x2, .int .u64 t.x3]) → Q .normal ⟨#[u0, u1, u2, u3, u4, u5, u6, u7, u8, u9, u10, u11, u12, u13, u14, .pointer (some ⟨sb, 0, none⟩), .pointer (some ⟨fb, 0, none⟩), u17, u18, u19, u20, .pointer (some ⟨nb, 0, none⟩), u22, u23, u24, u25, u26, u27, u28, u29, u30, u31, u32, u33, u34, u35, u36, u37, u38, u39, u40, u41, u42, u43, u44, u45, u46, u47, u48, u49, u50, u51, u52, u53, u54, u55, u56, u57, u58, u59, u60, u61, u62, u63, u64, u65, u66, u67, u68, u69, u70, u71, u72, u73, u74, u75, u76, u77, u78, u79, u80, u81, u82, u83, u84, u85, u86, u87, u88, u89, u90, u91, u92, u93, u94, u95, u96, u97, u98, u99, u100, u101, u102, u103, u104, u105, u106, u107, .agg #[.int .u64 s.x0, .int .u64 s.x1, .int .u64 s.x2, .int .u64 s.x3], .agg #[.int .u64 f.x0, .int .u64 f.x1, .int .u64 f.x2, .int .u64 f.x3], .agg #[.int .u64 n.x0, .int .u64 n.x1, .int .u64 n.x2, .int .u64 n.x3], .agg #[.int .u64 u.x0, .int .u64 u.x1, .int .u64 u.x2, .int .u64 u.x3], .agg #[.int .u64 t.x0, .int .u64 t.x1, .int .u64 t.x2, .int .u64 t.x3], u113, u114, u115, u116, u117, u118, u119, u120, u121, u122, u123, u124, u125, u126, u127, u128, u129, u130, u131, u132, u133, u134, u135, u136, u137, u138, u139, u140, u141, u142, u143, u144, u145, u146, u147, u148, u149, u150, u151, u152, u153, u154, u155, u156, u157, u158, u159, u160, u161, u162, u163, u164, u165, u166, u167, u168, u169, u170, u171, u172, u173, u174, u175, u176, u177, u178, u179, u180, u181, u182, u183, u184, u185, u186], []⟩ wz)) : (Code.region 21 lf21o true).wp Tryd.prog Q ⟨#[u0, u1, u2, u3, u4, u5, u6, u7, u8, u9, u10, u11, u12, u13, u14, .pointer (some ⟨sb, 0, none⟩), .pointer (some ⟨fb, 0, none⟩), u17, u18, u19, u20, .pointer (some ⟨nb, 0, none⟩), u22, u23, u24, u25, u26, u27, u28, u29, u30, u31, u32, u33, u34, u35, u36, u37, u38, u39, u40, u41, u42, u43, u44, u45, u46, u47, u48, u49, u50, u51, u52, u53, u54, u55, u56, u57, u58, u59, u60, u61, u62, u63, u64, u65, u66, u67, u68, u69, u70, u71, u72, u73, u74, u75, u76, u77, u78, u79, u80, u81, u82, u83, u84, u85, u86, u87, u88, u89, u90, u91, u92, u93, u94, u95, u96, u97, u98, u99, u100, u101, u102, u103, u104, u105, u106, u107, u108, u109, u110, u111, u112, u113, u114, u115, u116, u117, u118, u119, u120, u121, u122, u123, u124, u125, u126, u127, u128, u129, u130, u131, u132, u133, u134, u135, u136, u137, u138, u139, u140, u141, u142, u143, u144, u145, u146, u147, u148, u149, u150, u151, u152, u153, u154, u155, u156, u157, u158, u159, u160, u161, u162, u163, u164, u165, u166, u167, u168, u169, u170, u171, u172, u173, u174, u175, u176, u177, u178, u179, u180, u181, u182, u183, u184, u185, u186], []⟩ W := by
 have BB := hidden (bl_drew W)
 unfold lf21o
 refine wp_region_noPanic ?_
 refine wp_region_held_drew (S := fun x => W.grownBy x (some sb)) (by kernel_rfl) (gbI (bl_drew W) _) (fun hH0 => ?_)
 refine tk 1 lf21o_1 (.agg #[.int .u64 f.x0, .int .u64 f.x1, .int .u64 f.x2, .int .u64 f.x3]) rfl (by kernel_rfl) hH0 rfl (fun w0 hSw => ?_) ?_
 ·(unfold lf21o_1; have hS : W.grownBy w0 (some sb) := hSw; have a0 := hS.cell f0 (fun e => nf (Option.some.inj e)); have a1 := hS.cell f1 (fun e => nf (Option.some.inj e)); have a2 := hS.cell f2 (fun e => nf (Option.some.inj e)); have a3 := hS.cell f3 (fun e => nf (Option.some.inj e)); clear hS hSw; go_simp)
 simp only [lf21o_1, Act.put, sA, sB, sC]
 refine tk 2 lf21o_2 (.agg #[.int .u64 n.x0, .int .u64 n.x1, .int .u64 n.x2, .int .u64 n.x3]) rfl (by kernel_rfl) hH0 rfl (fun w0 hSw => ?_) ?_
 ·(unfold lf21o_2; have hS : W.grownBy w0 (some sb) := hSw; have a0 := hS.cell n0 (fun e => nn (Option.some.inj e)); have a1 := hS.cell n1 (fun e => nn (Option.some.inj e)); have a2 := hS.cell n2 (fun e => nn (Option.some.inj e)); have a3 := hS.cell n3 (fun e => nn (Option.some.inj e)); clear hS hSw; go_simp)
 simp only [lf21o_2, Act.put, sA, sB, sC]
 refine wpAnyH_ready (rs := [0, 3]) (by kernel_rfl) (by simp) ?_
 refine AllReadyH.cons (o := lf21o_0) rfl (fun K hK => ?_) (AllReadyH.cons (o := lf21o_3) rfl (fun K hK => ?_) AllReadyH.nil)
 ·unfold lf21o_0
  have HH := hidden hH0
  clear hH0
  refine wp_load_mid 26 _ rfl sb 0 (by rfl) [.int .u64 s.x0, .int .u64 s.x1, .int .u64 s.x2, .int .u64 s.x3] _ (range_bl rg BB.out) Tryd.underlying26 rfl i4_s ?_
  simp only [Act.put, sA, sB, sC]
  have SN := HH
  clear HH
  refine hK.out _ _ SN.out (fun hH1 => ?_)
  clear hK K SN
  refine wpAnyH_ready (rs := [3]) (by kernel_rfl) (by simp) ?_
  refine AllReadyH.cons (o := lf21o_3) rfl (fun K hK => ?_) AllReadyH.nil
  unfold lf21o_3
  have HH := hidden hH1
  clear hH1
  go_simp
  refine (C3.out _ BB.out).mono ?_
  rintro e wn2 ⟨rfl, hb⟩
  replace BB := hidden (bl_trans BB.out hb)
  have SN := hidden (HH.out.trans (gbI hb _))
  clear HH C3 hb
  go_wp2_with fail
  refine hK.out _ _ SN.out (fun hH2 => ?_)
  clear hK K SN
  refine wpAnyH_ready (rs := [4]) (by kernel_rfl) (by simp) ?_
  refine AllReadyH.cons (o := lf21o_4) rfl (fun K hK => ?_) AllReadyH.nil
  unfold lf21o_4
  have HH := hidden hH2
  clear hH2
  go_simp
  refine (C4.out _ BB.out).mono ?_
  rintro e wn3 ⟨rfl, hb⟩
  replace BB := hidden (bl_trans BB.out hb)
  have SN := hidden (HH.out.trans (gbI hb _))
  clear HH C4 hb
  go_wp2_with fail
  refine hK.out _ _ SN.out (fun hH3 => ?_)
  clear hK K SN
  refine wpAnyH_ready (rs := [5]) (by kernel_rfl) (by simp) ?_
  refine AllReadyH.cons (o := lf21o_5) rfl (fun K hK => ?_) AllReadyH.nil
  unfold lf21o_5
  have HH := hidden hH3
  clear hH3
  refine wp_storeE 26 _ _ rfl sb 0 ([.int .u64 t.x0, .int .u64 t.x1, .int .u64 t.x2, .int .u64 t.x3]) (by rfl) (by rfl) (there_bl th BB.out) i4_s (one4 t) rfl (fun wn4 hw => ?_)
  have SN := hidden (HH.out.trans (gb_setCells sb [.int .u64 t.x0, .int .u64 t.x1, .int .u64 t.x2, .int .u64 t.x3] 0 _))
  have FE := hidden ((⟨_, BB.out, hw⟩ : ∃ wy, Below W.heap.size W wy ∧ _ = wy.setCells sb 0 [.int .u64 t.x0, .int .u64 t.x1, .int .u64 t.x2, .int .u64 t.x3]))
  rw [← hw] at SN
  clear HH hw
  refine hK.out _ _ SN.out (fun hH4 => ?_)
  clear hK K SN
  have HH := hidden hH4
  have FQ := hidden (HQ.out _ FE.out)
  refine wpAnyH_done (by kernel_rfl) ?_ _
  refine NoPanic.normal ?_
  exact FQ.out
 ·unfold lf21o_3
  have HH := hidden hH0
  clear hH0
  go_simp
  refine (C3.out _ BB.out).mono ?_
  rintro e wn1 ⟨rfl, hb⟩
  replace BB := hidden (bl_trans BB.out hb)
  have SN := hidden (HH.out.trans (gbI hb _))
  clear HH C3 hb
  go_wp2_with fail
  refine hK.out _ _ SN.out (fun hH1 => ?_)
  clear hK K SN
  refine wpAnyH_ready (rs := [0]) (by kernel_rfl) (by simp) ?_
  refine AllReadyH.cons (o := lf21o_0) rfl (fun K hK => ?_) AllReadyH.nil
  unfold lf21o_0
  have HH := hidden hH1
  clear hH1
  refine wp_load_mid 26 _ rfl sb 0 (by rfl) [.int .u64 s.x0, .int .u64 s.x1, .int .u64 s.x2, .int .u64 s.x3] _ (range_bl rg BB.out) Tryd.underlying26 rfl i4_s ?_
  simp only [Act.put, sA, sB, sC]
  have SN := HH
  clear HH
  refine hK.out _ _ SN.out (fun hH2 => ?_)
  clear hK K SN
  refine wpAnyH_ready (rs := [4]) (by kernel_rfl) (by simp) ?_
  refine AllReadyH.cons (o := lf21o_4) rfl (fun K hK => ?_) AllReadyH.nil
  unfold lf21o_4
  have HH := hidden hH2
  clear hH2
  go_simp
  refine (C4.out _ BB.out).mono ?_
  rintro e wn3 ⟨rfl, hb⟩
  replace BB := hidden (bl_trans BB.out hb)
  have SN := hidden (HH.out.trans (gbI hb _))
  clear HH C4 hb
  go_wp2_with fail
  refine hK.out _ _ SN.out (fun hH3 => ?_)
  clear hK K SN
  refine wpAnyH_ready (rs := [5]) (by kernel_rfl) (by simp) ?_
  refine AllReadyH.cons (o := lf21o_5) rfl (fun K hK => ?_) AllReadyH.nil
  unfold lf21o_5
  have HH := hidden hH3
  clear hH3
  refine wp_storeE 26 _ _ rfl sb 0 ([.int .u64 t.x0, .int .u64 t.x1, .int .u64 t.x2, .int .u64 t.x3]) (by rfl) (by rfl) (there_bl th BB.out) i4_s (one4 t) rfl (fun wn4 hw => ?_)
  have SN := hidden (HH.out.trans (gb_setCells sb [.int .u64 t.x0, .int .u64 t.x1, .int .u64 t.x2, .int .u64 t.x3] 0 _))
  have FE := hidden ((⟨_, BB.out, hw⟩ : ∃ wy, Below W.heap.size W wy ∧ _ = wy.setCells sb 0 [.int .u64 t.x0, .int .u64 t.x1, .int .u64 t.x2, .int .u64 t.x3]))
  rw [← hw] at SN
  clear HH hw
  refine hK.out _ _ SN.out (fun hH4 => ?_)
  clear hK K SN
  have HH := hidden hH4
  have FQ := hidden (HQ.out _ FE.out)
  refine wpAnyH_done (by kernel_rfl) ?_ _
  refine NoPanic.normal ?_
  exact FQ.out
def lf23o_0 : Oper := { dst := some 118, op := Op.load 34 (Operand.tmp 13), type := 34, pos := "outright.go:110", after := #[], guard := none }
def lf23o_1 : Oper := { dst := some 119, op := Op.load 31 (Operand.tmp 12), type := 31, pos := "outright.go:110", after := #[], guard := none }
def lf23o_2 : Oper := { dst := some 120, op := Op.call { callee := Callee.value (Operand.func 17), args := #[Operand.tmp 118, Operand.tmp 119], argTypes := #[34, 31] }, type := 26, pos := "outright.go:110", after := #[{ on := 0, ground := Ground.data }, { on := 1, ground := Ground.data }], guard := none }
def lf23o_3 : Oper := { dst := some 121, op := Op.load 26 (Operand.tmp 15), type := 26, pos := "outright.go:110", after := #[], guard := none }
def lf23o_4 : Oper := { dst := some 122, op := Op.call { callee := Callee.value (Operand.func 18), args := #[Operand.tmp 120, Operand.tmp 121], argTypes := #[26, 26] }, type := 4, pos := "outright.go:110", after := #[{ on := 2, ground := Ground.data }, { on := 3, ground := Ground.data }, { on := 2, ground := Ground.chain }], guard := none }
def lf23o_5 : Oper := { dst := some 123, op := Op.unOp UnOp.not 4 (Operand.tmp 122), type := 4, pos := "outright.go:110", after := #[{ on := 4, ground := Ground.data }], guard := none }
def lf23o : Array Oper := #[lf23o_0, lf23o_1, lf23o_2, lf23o_3, lf23o_4, lf23o_5]
set_option maxRecDepth 100000 in
set_option maxHeartbeats 16000000 in
theorem lf23 (Q : Exit → Act → World → Prop) (wb ab sb : Nat) (a b c d l r o v : Sl) (C x s : E4) (u0 u1 u2 u3 u4 u5 u6 u7 u8 u9 u10 u11 u14 u16 u17 u18 u19 u20 u21 u22 u23 u24 u25 u26 u27 u28 u29 u30 u31 u32 u33 u34 u35 u36 u37 u38 u39 u40 u41 u42 u43 u44 u45 u46 u47 u48 u49 u50 u51 u52 u53 u54 u55 u56 u57 u58 u59 u60 u61 u62 u63 u64 u65 u66 u67 u68 u69 u70 u71 u72 u73 u74 u75 u76 u77 u78 u79 u80 u81 u82 u83 u84 u85 u86 u87 u88 u89 u90 u91 u92 u93 u94 u95 u96 u97 u98 u99 u100 u101 u102 u103 u104 u105 u106 u107 u108 u109 u110 u111 u112 u113 u114 u115 u116 u117 u118 u119 u120 u121 u122 u123 u124 u125 u126 u127 u128 u129 u130 u131 u132 u133 u134 u135 u136 u137 u138 u139 u140 u141 u142 u143 u144 u145 u146 u147 u148 u149 u150 u151 u152 u153 u154 u155 u156 u157 u158 u159 u160 u161 u162 u163 u164 u165 u166 u167 u168 u169 u170 u171 u172 u173 u174 u175 u176 u177 u178 u179 u180 u181 u182 u183 u184 u185 u186 : Value) (W : World)
  (g0 : W.cell? ⟨wb, 0, none⟩ = some (.slice a.p a.n a.c)) (g1 : W.cell? ⟨wb, 1, none⟩ = some (.slice b.p b.n b.c)) (g2 : W.cell? ⟨wb, 2, none⟩ = some (.slice c.p c.n c.c)) (g3 : W.cell? ⟨wb, 3, none⟩ = some (.slice d.p d.n d.c)) (g4 : W.cell? ⟨wb, 4, none⟩ = some (.int .u64 C.x0)) (g5 : W.cell? ⟨wb, 5, none⟩ = some (.int .u64 C.x1)) (g6 : W.cell? ⟨wb, 6, none⟩ = some (.int .u64 C.x2)) (g7 : W.cell? ⟨wb, 7, none⟩ = some (.int .u64 C.x3)) (h0 : W.cell? ⟨ab, 0, none⟩ = some (.slice l.p l.n l.c)) (h1 : W.cell? ⟨ab, 1, none⟩ = some (.slice r.p r.n r.c)) (h2 : W.cell? ⟨ab, 2, none⟩ = some (.slice o.p o.n o.c)) (h3 : W.cell? ⟨ab, 3, none⟩ = some (.slice v.p v.n v.c)) (s0 : W.cell? ⟨sb, 0, none⟩ = some (.int .u64 s.x0)) (s1 : W.cell? ⟨sb, 1, none⟩ = some (.int .u64 s.x1)) (s2 : W.cell? ⟨sb, 2, none⟩ = some (.int .u64 s.x2)) (s3 : W.cell? ⟨sb, 3, none⟩ = some (.int .u64 s.x3))
  (C2 : Hid (∀ yy, Below W.heap.size W yy → Calls Tryd.prog 17 #[.agg #[.slice a.p a.n a.c, .slice b.p b.n b.c, .slice c.p c.n c.c, .slice d.p d.n d.c, .int .u64 C.x0, .int .u64 C.x1, .int .u64 C.x2, .int .u64 C.x3], .agg #[.slice l.p l.n l.c, .slice r.p r.n r.c, .slice o.p o.n o.c, .slice v.p v.n v.c]] yy fun e w' => e = .returned (.agg #[.int .u64 x.x0, .int .u64 x.x1, .int .u64 x.x2, .int .u64 x.x3]) ∧ Below yy.heap.size yy w'))
  (C4 : Hid (∀ yy, Below W.heap.size W yy → Calls Tryd.prog 18 #[.agg #[.int .u64 x.x0, .int .u64 x.x1, .int .u64 x.x2, .int .u64 x.x3], .agg #[.int .u64 s.x0, .int .u64 s.x1, .int .u64 s.x2, .int .u64 s.x3]] yy fun e w' => e = .returned (.bool true) ∧ Below yy.heap.size yy w'))
  (HQ : Hid (∀ (wz : World), Below W.heap.size W wz → Q .normal ⟨#[u0, u1, u2, u3, u4, u5, u6, u7, u8, u9, u10, u11, .pointer (some ⟨ab, 0, none⟩), .pointer (some ⟨wb, 0, none⟩), u14, .pointer (some ⟨sb, 0, none⟩), u16, u17, u18, u19, u20, u21, u22, u23, u24, u25, u26, u27, u28, u29, u30, u31, u32, u33, u34, u35, u36, u37, u38, u39, u40, u41, u42, u43, u44, u45, u46, u47, u48, u49, u50, u51, u52, u53, u54, u55, u56, u57, u58, u59, u60, u61, u62, u63, u64, u65, u66, u67, u68, u69, u70, u71, u72, u73, u74, u75, u76, u77, u78, u79, u80, u81, u82, u83, u84, u85, u86, u87, u88, u89, u90, u91, u92, u93, u94, u95, u96, u97, u98, u99, u100, u101, u102, u103, u104, u105, u106, u107, u108, u109, u110, u111, u112, u113, u114, u115, u116, u117, .agg #[.slice a.p a.n a.c, .slice b.p b.n b.c, .slice c.p c.n c.c, .slice d.p d.n d.c, .int .u64 C.x0, .int .u64 C.x1, .int .u64 C.x2, .int .u64 C.x3], .agg #[.slice l.p l.n l.c, .slice r.p r.n r.c, .slice o.p o.n o.c, .slice v.p v.n v.c], .agg #[.int .u64 x.x0, .int .u64 x.x1, .int .u64 x.x2, .int .u64 x.x3], .agg #[.int .u64 s.x0, .int .u64 s.x1, .int .u64 s.x2, .int .u64 s.x3], .bool true, .bool false, u124, u125, u126, u127, u128, u129, u130, u131, u132, u133, u134, u135, u136, u137, u138, u139, u140, u141, u142, u143, u144, u145, u146, u147, u148, u149, u150, u151, u152, u153, u154, u155, u156, u157, u158, u159, u160, u161, u162, u163, u164, u165, u166, u167, u168, u169, u170, u171, u172, u173, u174, u175, u176, u177, u178, u179, u180, u181, u182, u183, u184, u185, u186], []⟩ wz)) : (Code.region 23 lf23o true).wp Tryd.prog Q ⟨#[u0, u1, u2, u3, u4, u5, u6, u7, u8, u9, u10, u11, .pointer (some ⟨ab, 0, none⟩), .pointer (some ⟨wb, 0, none⟩), u14, .pointer (some ⟨sb, 0, none⟩), u16, u17, u18, u19, u20, u21, u22, u23, u24, u25, u26, u27, u28, u29, u30, u31, u32, u33, u34, u35, u36, u37, u38, u39, u40, u41, u42, u43, u44, u45, u46, u47, u48, u49, u50, u51, u52, u53, u54, u55, u56, u57, u58, u59, u60, u61, u62, u63, u64, u65, u66, u67, u68, u69, u70, u71, u72, u73, u74, u75, u76, u77, u78, u79, u80, u81, u82, u83, u84, u85, u86, u87, u88, u89, u90, u91, u92, u93, u94, u95, u96, u97, u98, u99, u100, u101, u102, u103, u104, u105, u106, u107, u108, u109, u110, u111, u112, u113, u114, u115, u116, u117, u118, u119, u120, u121, u122, u123, u124, u125, u126, u127, u128, u129, u130, u131, u132, u133, u134, u135, u136, u137, u138, u139, u140, u141, u142, u143, u144, u145, u146, u147, u148, u149, u150, u151, u152, u153, u154, u155, u156, u157, u158, u159, u160, u161, u162, u163, u164, u165, u166, u167, u168, u169, u170, u171, u172, u173, u174, u175, u176, u177, u178, u179, u180, u181, u182, u183, u184, u185, u186], []⟩ W := by
 unfold lf23o
 refine wp_region_noPanic ?_
 refine wp_region_held_drew (S := fun x => Below W.heap.size W x) (by kernel_rfl) (bl_drew W) (fun hH0 => ?_)
 refine tk 0 lf23o_0 (.agg #[.slice a.p a.n a.c, .slice b.p b.n b.c, .slice c.p c.n c.c, .slice d.p d.n d.c, .int .u64 C.x0, .int .u64 C.x1, .int .u64 C.x2, .int .u64 C.x3]) rfl (by kernel_rfl) hH0 rfl (fun w0 hSw => ?_) ?_
 ·(unfold lf23o_0; have hS : Below W.heap.size W w0 := hSw; have a0 := cell_keep g0 hS; have a1 := cell_keep g1 hS; have a2 := cell_keep g2 hS; have a3 := cell_keep g3 hS; have a4 := cell_keep g4 hS; have a5 := cell_keep g5 hS; have a6 := cell_keep g6 hS; have a7 := cell_keep g7 hS; clear hS hSw; go_simp)
 simp only [lf23o_0, Act.put, sA, sB, sC]
 refine tk 1 lf23o_1 (.agg #[.slice l.p l.n l.c, .slice r.p r.n r.c, .slice o.p o.n o.c, .slice v.p v.n v.c]) rfl (by kernel_rfl) hH0 rfl (fun w0 hSw => ?_) ?_
 ·(unfold lf23o_1; have hS : Below W.heap.size W w0 := hSw; have a0 := cell_keep h0 hS; have a1 := cell_keep h1 hS; have a2 := cell_keep h2 hS; have a3 := cell_keep h3 hS; clear hS hSw; go_simp)
 simp only [lf23o_1, Act.put, sA, sB, sC]
 refine tk 3 lf23o_3 (.agg #[.int .u64 s.x0, .int .u64 s.x1, .int .u64 s.x2, .int .u64 s.x3]) rfl (by kernel_rfl) hH0 rfl (fun w0 hSw => ?_) ?_
 ·(unfold lf23o_3; have hS : Below W.heap.size W w0 := hSw; have a0 := cell_keep s0 hS; have a1 := cell_keep s1 hS; have a2 := cell_keep s2 hS; have a3 := cell_keep s3 hS; clear hS hSw; go_simp)
 simp only [lf23o_3, Act.put, sA, sB, sC]
 refine wpAnyH_ready (rs := [2]) (by kernel_rfl) (by simp) ?_
 refine AllReadyH.cons (o := lf23o_2) rfl (fun K hK => ?_) AllReadyH.nil
 unfold lf23o_2
 have HH := hidden hH0
 clear hH0
 go_simp
 refine (C2.out _ HH.out).mono ?_
 rintro e wn1 ⟨rfl, hb⟩
 have SN := hidden (bl_trans HH.out hb)
 clear HH C2 hb
 go_wp2_with fail
 refine hK.out _ _ SN.out (fun hH1 => ?_)
 clear hK K SN
 refine wpAnyH_ready (rs := [4]) (by kernel_rfl) (by simp) ?_
 refine AllReadyH.cons (o := lf23o_4) rfl (fun K hK => ?_) AllReadyH.nil
 unfold lf23o_4
 have HH := hidden hH1
 clear hH1
 go_simp
 refine (C4.out _ HH.out).mono ?_
 rintro e wn2 ⟨rfl, hb⟩
 have SN := hidden (bl_trans HH.out hb)
 clear HH C4 hb
 go_wp2_with fail
 refine hK.out _ _ SN.out (fun hH2 => ?_)
 clear hK K SN
 refine tk 5 lf23o_5 (.bool false) rfl (by kernel_rfl) hH2 rfl (fun w0 hSw => ?_) ?_
 ·(unfold lf23o_5; clear hSw; go_simp)
 simp only [lf23o_5, Act.put, sA, sB, sC]
 have HH := hidden hH2
 have FQ := hidden (HQ.out _ HH.out)
 refine wpAnyH_done (by kernel_rfl) ?_ _
 refine NoPanic.normal ?_
 exact FQ.out
end Ci
end Go.Proofs.YtimjfndaleccaaaDoor
namespace Go.Proofs.YtimjfndaleccaaaDoor
open Go.RowKit
set_option linter.unusedVariables false
set_option linter.unusedSimpArgs false
open Cm (Wr Tm co bf Ls lf ins Eqm)
namespace Ci
set_option maxRecDepth 100000
set_option maxHeartbeats 8000000
theorem fittedB_any {w9 : World} {t m K : Nat} {Q : List (List Tm)} (gt : Bool) (l : Sl) (w : World) (hT : Tb w) (hts : Ts w9 t m K Q w) (hm : m ≤ 4096) (hl : l.at w) (hln : l.n ≤ 1048576) :
  Calls Tryd.prog 6 #[.pointer (some ⟨t, 0, none⟩), .slice l.p l.n l.c, .bool gt] w fun e w' => ∃ a b c d : Sl, e = .returned (.agg #[.slice a.p a.n a.c, .slice b.p b.n b.c, .slice c.p c.n c.c, .slice d.p d.n d.c]) ∧ (a.at w' ∧ b.at w' ∧ c.at w' ∧ d.at w') ∧ (a.n = K ∧ b.n = K ∧ c.n = K ∧ d.n = m) ∧ Below w.heap.size w w' := by
 cases gt with
 | true => exact (fittedT_any l w hT hts hm hl hln).mono fun e w' ⟨a, b, c, d, h1, h2, _, h4, h5⟩ => ⟨a, b, c, d, h1, h2, h4, h5⟩
 | false => exact (fitted_any l w hT hts hm hl hln).mono fun e w' ⟨a, b, c, d, h1, h2, _, h4, h5⟩ => ⟨a, b, c, d, h1, h2, h4, h5⟩
theorem tsLs {w9 y : World} {t m K : Nat} {Q : List (List Tm)} (h : Ts w9 t m K Q y) : ∀ X ∈ Q, Ls Sm.L X := by
 obtain ⟨base, v, vs, sy, hb, bl, wk⟩ := h
 exact sy.sm
theorem lf_self {X : List Tm} (h : Ls Sm.L X) : lf Sm.L X = X := (Cm.lf_only L0 h (fun _ => rfl)).symm
theorem fit_B2 {a b c d : Sl} {m K : Nat} (h : a.n = K ∧ b.n = K ∧ c.n = K ∧ d.n = m) : ftB (nms 0 a b c d) m K = true := by
 rw [ftB_iff]
 intro k hk
 obtain ⟨h1, h2, h3, h4⟩ := h
 match k, hk with
 | 0, _ => rfl
 | 1, _ => rfl
 | 2, _ => exact h1
 | 3, _ => exact h2
 | 4, _ => exact h3
 | 5, _ => exact h4
theorem nm_req {m K : Nat} {X : List Tm} (hL : Ls Sm.L X) (hw : ∀ x ∈ X, hs m K x.1 = true) : nm m K X.length (ft X) = true := by
 have h := (nm_iff (m := m) (K := K) (Y := X)).2 (fun q hq => by
  by_cases e : ∃ x ∈ X, x.1 = q
  ·obtain ⟨x, hx, rfl⟩ := e
   exact hw x hx
  ·exact absurd (by rw [Cm.co_out (fun x hx e2 => e ⟨x, hx, e2⟩)]; rfl) hq)
 rwa [lf_self hL] at h
theorem es_req {N : Nat → Sl} {X : List Tm} (hL : Ls Sm.L X) : es N (ft X) X.length = lst (vl N X) := by
 have := es_lf N X
 rwa [lf_self hL] at this
theorem tsEvalQ {w9 y : World} {t m K : Nat} {Q : List (List Tm)} (h : Ts w9 t m K Q y) (hT : Tb y) {l r o v : Sl} (hA : l.at y ∧ r.at y ∧ o.at y ∧ v.at y) (hN : l.n = K ∧ r.n = K ∧ o.n = K ∧ v.n = m) {X : List Tm} (hX : X ∈ Q) {P : Option Addr} {e0 : Nat} (hL : Lt y P X.length (ft X)) :
  Calls Tryd.prog 13 #[.pointer (some ⟨t, 0, none⟩), .agg #[.slice l.p l.n l.c, .slice r.p r.n r.c, .slice o.p o.n o.c, .slice v.p v.n v.c], .slice P X.length e0] y fun e w' => e = .returned (.tuple #[.agg #[.int .u64 (lst (vl (nms 0 l r o v) X)).x0, .int .u64 (lst (vl (nms 0 l r o v) X)).x1, .int .u64 (lst (vl (nms 0 l r o v) X)).x2, .int .u64 (lst (vl (nms 0 l r o v) X)).x3], .int .i64 0]) ∧ Below y.heap.size y w' := by
 have hls := tsLs h X hX
 obtain ⟨base, v', vs, sy, hb, bl, wk⟩ := h
 have hE := Eval_any sy hT l r o v hA.1 hA.2.1 hA.2.2.1 hA.2.2.2 P X.length e0 (ft X) (wk.ln X hX) (fun k hk => lst_ok _) hL
 have e1 : lf Sm.L (glL X.length (ft X)) = X := by rw [glft_ls hls, lf_self hls]
 rw [e1] at hE
 have e2 : evE (nms 0 l r o v) m K X = 0 := by
  unfold evE
  rw [if_pos (fit_B2 hN), if_pos (nm_req hls (wk.wr X hX))]
 have e3 : evS (nms 0 l r o v) m K X = lst (vl (nms 0 l r o v) X) := by
  unfold evS
  rw [if_pos (fit_B2 hN), if_pos (nm_req hls (wk.wr X hX)), es_req hls]
 rw [e2, e3] at hE
 exact hE
theorem tsHolds {w9 y : World} {t m K : Nat} {Q : List (List Tm)} (h : Ts w9 t m K Q y) (hT : Tb y) {l r o v : Sl} (hA : l.at y ∧ r.at y ∧ o.at y ∧ v.at y) : Calls Tryd.prog 19 #[.pointer (some ⟨t, 0, none⟩), .agg #[.slice l.p l.n l.c, .slice r.p r.n r.c, .slice o.p o.n o.c, .slice v.p v.n v.c]] y fun e w' => e = .returned (.int .i64 (hoE l r o v m K Q)) ∧ Below y.heap.size y w' := by
 obtain ⟨base, v', vs, sy, hb, bl, wk⟩ := h
 exact Holds_any sy wk hT l r o v hA.1 hA.2.1 hA.2.2.1 hA.2.2.2
def mt (N : Nat → Sl) (Q : List (List Tm)) (i : Nat) : Bool := (List.range i).all fun q => decide (vq N Q q % Sm.L = 0)
theorem mt_iff (N : Nat → Sl) (Q : List (List Tm)) (i : Nat) : mt N Q i = true ↔ ∀ q, q < i → vq N Q q % Sm.L = 0 := by unfold mt; simp [List.all_eq_true, List.mem_range]
theorem mt_succ (N : Nat → Sl) (Q : List (List Tm)) (i : Nat) : mt N Q (i + 1) = (mt N Q i && decide (vq N Q i % Sm.L = 0)) := by unfold mt; rw [List.range_succ, List.all_append]; simp
def al (N : Nat → Sl) (Q : List (List Tm)) (i : Nat) : Bool := (List.range i).all fun q => decide (pw ((q + 1 : Nat) : Int) N Q Q.length % Sm.L = 0)
theorem al_iff (N : Nat → Sl) (Q : List (List Tm)) (i : Nat) : al N Q i = true ↔ ∀ q, q < i → pw ((q + 1 : Nat) : Int) N Q Q.length % Sm.L = 0 := by unfold al; simp [List.all_eq_true, List.mem_range]
theorem al_succ (N : Nat → Sl) (Q : List (List Tm)) (i : Nat) : al N Q (i + 1) = (al N Q i && decide (pw ((i + 1 : Nat) : Int) N Q Q.length % Sm.L = 0)) := by unfold al; rw [List.range_succ, List.all_append]; simp
theorem al_mt {N : Nat → Sl} {Q : List (List Tm)} (hQ : Q.length ≤ 40) : al N Q Q.length = mt N Q Q.length := by
 rw [Bool.eq_iff_iff, al_iff, mt_iff]
 exact ⟨all_zero hQ, fun h q hq => zero_all h⟩
theorem vq_at {N : Nat → Sl} {Q : List (List Tm)} {i : Nat} {X : List Tm} (h : Q[i]? = some X) : vq N Q i = vl N X := by
 unfold vq
 rw [List.getD_eq_getElem?_getD, h]
 rfl
theorem zs_mt {N : Nat → Sl} {Q : List (List Tm)} (hL : ∀ X ∈ Q, Ls Sm.L X) : zsB N Q = mt N Q Q.length := by
 rw [Bool.eq_iff_iff, zsB_iff, mt_iff]
 constructor
 ·intro h q hq
  have e : Q[q]? = some Q[q] := List.getElem?_eq_getElem hq
  have := h q _ e
  rwa [es_req (hL _ (List.mem_of_getElem? e)), lst_n, emod_emod_L, ← vq_at e] at this
 ·intro h i X hX
  rw [es_req (hL _ (List.mem_of_getElem? hX)), lst_n, emod_emod_L, ← vq_at hX]
  exact h i (List.getElem?_eq_some_iff.1 hX).1
theorem ho_is {l r o v : Sl} {m K : Nat} {Q : List (List Tm)} (hN : l.n = K ∧ r.n = K ∧ o.n = K ∧ v.n = m) (hL : ∀ X ∈ Q, Ls Sm.L X) : hoE l r o v m K Q = if mlB l r o = true then (if mt (nms 0 l r o v) Q Q.length = true then 0 else 203) else 202 := by
 unfold hoE
 rw [if_pos (fit_B2 hN), zs_mt hL]
structure Lg (w w9 : World) (t m K : Nat) (Q : List (List Tm)) (ab wb : Nat) (l r o v a b c d : Sl) (C z : E4) (y : World) : Prop where
 bel : Below w.heap.size w y
 ts : Ts w9 t m K Q y
 ac : y.rangeAt ab 0 [.slice l.p l.n l.c, .slice r.p r.n r.c, .slice o.p o.n o.c, .slice v.p v.n v.c]
 wc : y.rangeAt wb 0 [.slice a.p a.n a.c, .slice b.p b.n b.c, .slice c.p c.n c.c, .slice d.p d.n d.c, .int .u64 C.x0, .int .u64 C.x1, .int .u64 C.x2, .int .u64 C.x3]
 la : l.at y ∧ r.at y ∧ o.at y ∧ v.at y
 wa : a.at y ∧ b.at y ∧ c.at y ∧ d.at y ∧ C.ok
 zc : y.rangeAt w.heap.size 0 [.int .u64 z.x0, .int .u64 z.x1, .int .u64 z.x2, .int .u64 z.x3]
theorem Lg.keep {w w9 : World} {t m K : Nat} {Q : List (List Tm)} {ab wb : Nat} {l r o v a b c d : Sl} {C z : E4} {y y' : World} (h : Lg w w9 t m K Q ab wb l r o v a b c d C z y) (hb : Below y.heap.size y y') : Lg w w9 t m K Q ab wb l r o v a b c d C z y' :=
 ⟨bl_trans h.bel hb, h.ts.keep hb, range_bl h.ac hb, range_bl h.wc hb, ⟨h.la.1.keep hb, h.la.2.1.keep hb, h.la.2.2.1.keep hb, h.la.2.2.2.keep hb⟩, ⟨h.wa.1.keep hb, h.wa.2.1.keep hb, h.wa.2.2.1.keep hb, h.wa.2.2.2.1.keep hb, h.wa.2.2.2.2⟩, range_bl h.zc hb⟩
structure Lh (w8 : World) (sb fb : Nat) (s f : E4) (x : World) : Prop where
 bel : Below w8.heap.size w8 x
 sr : x.rangeAt sb 0 [.int .u64 s.x0, .int .u64 s.x1, .int .u64 s.x2, .int .u64 s.x3]
 st : x.there sb 0 4
 fr : x.rangeAt fb 0 [.int .u64 f.x0, .int .u64 f.x1, .int .u64 f.x2, .int .u64 f.x3]
 ft : x.there fb 0 4
 s1 : w8.heap.size ≤ sb
 s2 : sb < fb
section
variable {w8 : World} {sb fb : Nat} {s f s' f' : E4} {x y : World}
theorem Lh.keep (h : Lh w8 sb fb s f x) (hb : Below x.heap.size x y) : Lh w8 sb fb s f y := ⟨bl_trans h.bel hb, range_bl h.sr hb, there_bl h.st hb, range_bl h.fr hb, there_bl h.ft hb, h.s1, h.s2⟩
theorem Lh.setS (h : Lh w8 sb fb s f x) : Lh w8 sb fb s' f (x.setCells sb 0 [.int .u64 s'.x0, .int .u64 s'.x1, .int .u64 s'.x2, .int .u64 s'.x3]) := by
 have hg := gb_setCells sb [.int .u64 s'.x0, .int .u64 s'.x1, .int .u64 s'.x2, .int .u64 s'.x3] 0 x
 have h1 := h.s1
 have h2 := h.s2
 exact ⟨h.bel.grown hg h.bel.size (fun j hj => by have := Option.some.inj hj; omega), World.rangeAt_setCells_same x sb 0 _ h.st, there_set h.st _ 0 _, fun j u hu => hg.cell (h.fr j u hu) (fun e => by have := Option.some.inj e; simp only at this; omega), there_gb' h.ft hg (by omega), h1, h2⟩
theorem Lh.setF (h : Lh w8 sb fb s f x) : Lh w8 sb fb s f' (x.setCells fb 0 [.int .u64 f'.x0, .int .u64 f'.x1, .int .u64 f'.x2, .int .u64 f'.x3]) := by
 have hg := gb_setCells fb [.int .u64 f'.x0, .int .u64 f'.x1, .int .u64 f'.x2, .int .u64 f'.x3] 0 x
 have h1 := h.s1
 have h2 := h.s2
 exact ⟨h.bel.grown hg h.bel.size (fun j hj => by have := Option.some.inj hj; omega), fun j u hu => hg.cell (h.sr j u hu) (fun e => by have := Option.some.inj e; simp only at this; omega), there_gb' h.st hg (by omega), World.rangeAt_setCells_same x fb 0 _ h.ft, there_set h.ft _ 0 _, h1, h2⟩
end
theorem same_C2 {p q : E4} {y : World} (hT : Tb y) (hp : p.ok) (hq : q.ok) (h : p.n % Sm.L = q.n % Sm.L) :
  Calls Tryd.prog 18 #[.agg #[.int .u64 p.x0, .int .u64 p.x1, .int .u64 p.x2, .int .u64 p.x3], .agg #[.int .u64 q.x0, .int .u64 q.x1, .int .u64 q.x2, .int .u64 q.x3]] y fun e w' => e = .returned (.bool true) ∧ Below y.heap.size y w' := by
 have := Same_any p q y hT hp hq
 rw [same_dec, decide_eq_true h] at this
 exact this
theorem rest_n {l r o v a b c d : Sl} {K m : Nat} (hN : l.n = K ∧ r.n = K ∧ o.n = K ∧ v.n = m) (hW : a.n = K ∧ b.n = K ∧ c.n = K ∧ d.n = m) (hk : K ≤ 1024 ∧ m ≤ 16) : (l.n = a.n ∧ r.n = b.n ∧ o.n = c.n ∧ v.n = d.n) ∧ (a.n ≤ 4096 ∧ b.n ≤ 4096 ∧ c.n ≤ 4096 ∧ d.n ≤ 4096) := by omega
theorem wrap_u64 {x : Int} (h0 : 0 ≤ x) (h1 : x < 18446744073709551616) : IntKind.u64.wrap x = x := by
 show x % 18446744073709551616 = x
 omega
theorem pw_succ (z : Int) (N : Nat → Sl) (Q : List (List Tm)) (i : Nat) : pw z N Q (i + 1) = pw z N Q i + z ^ (i + 1) * vq N Q i := rfl
set_option maxHeartbeats 32000000 in
theorem flat_any (i : Int) (S : Option Addr) (ns cs : Nat) (sg : Nat → Stp) (k : Sl) (gt : Bool) (z : E4) (w : World) (hT : Tb w) (i0 : -9223372036854775808 ≤ i) (i1 : i ≤ 9223372036854775807) (hns : ns ≤ 1048576) (hS : Scl w S ns sg) (hk : k.at w) (hkn : k.n ≤ 1048576) (hz : z.ok) :
  Calls Tryd.prog 3 #[.int .i64 i, .slice S ns cs, .slice k.p k.n k.c, .bool gt, .agg #[.int .u64 z.x0, .int .u64 z.x1, .int .u64 z.x2, .int .u64 z.x3]] w fun e w' => e = .returned (.bool true) ∧ Below w.heap.size w w' := by
 have HT := hidden hT
 have HZ := hidden hz
 have HK := hidden (And.intro hk hkn)
 have BA := hidden (bl_alloc w (.cells #[.int .u64 z.x0, .int .u64 z.x1, .int .u64 z.x2, .int .u64 z.x3] 26))
 have Z1 : Hid ((w.alloc (.cells #[.int .u64 z.x0, .int .u64 z.x1, .int .u64 z.x2, .int .u64 z.x3] 26)).rangeAt w.heap.size 0 [.int .u64 z.x0, .int .u64 z.x1, .int .u64 z.x2, .int .u64 z.x3]) := hidden (range_newM w [.int .u64 z.x0, .int .u64 z.x1, .int .u64 z.x2, .int .u64 z.x3] 26)
 have LV : Hid (∀ y, Below w.heap.size w y → _) := hidden (fun y hb => live_any y (hT.keep hb))
 have MK : Hid (∀ y, Below w.heap.size w y → _) := hidden (fun y hb => makes_tell i S ns cs sg y (hT.keep hb) i0 i1 hns (hS.keep hb))
 clear hT hz hk hkn hS i0 i1 hns
 go_enter Tryd.func3, Tryd.ntmps3
 go_upto_region 1 with fail
 generalize (w.alloc (.cells #[.int .u64 z.x0, .int .u64 z.x1, .int .u64 z.x2, .int .u64 z.x3] 26)) = w1 at *
 go_upto_region 6 with (first | (have _t := LV; go_at_call 4; refine (LV.out _ BA.out).mono ?_; rintro e w2 ⟨rfl, hb⟩; have B2 := hidden hb; clear hb LV) | (have _t := MK; go_at_call 5; refine (MK.out _ (bl_trans BA.out B2.out)).mono ?_; rintro e w3 ⟨t, m, K, Q, rfl, hts⟩; have TS := hidden hts; clear hts MK))
 have B3 := hidden (bl_trans (bl_trans BA.out B2.out) TS.out.1.bl)
 have FT := hidden (fittedB_any gt k w3 (HT.out.keep B3.out) TS.out.1 (by have := TS.out.2; omega) (HK.out.1.keep B3.out) HK.out.2)
 go_upto_region 7 with (go_at_call 6; refine FT.out.mono ?_; rintro e w4 ⟨l, r, o, v, rfl, hat, hnn, hb4⟩; have AT := hidden hat; have HN := hidden hnn; have B4 := hidden hb4; clear hat hnn hb4 FT)
 have ba := bl_alloc w4 (.cells #[.slice l.p l.n l.c, .slice r.p r.n r.c, .slice o.p o.n o.c, .slice v.p v.n v.c] 31)
 have A5 : Hid ((w4.alloc (.cells #[.slice l.p l.n l.c, .slice r.p r.n r.c, .slice o.p o.n o.c, .slice v.p v.n v.c] 31)).rangeAt w4.heap.size 0 [.slice l.p l.n l.c, .slice r.p r.n r.c, .slice o.p o.n o.c, .slice v.p v.n v.c]) := hidden (range_newM w4 _ 31)
 have L5 : Hid (l.at (w4.alloc (.cells #[.slice l.p l.n l.c, .slice r.p r.n r.c, .slice o.p o.n o.c, .slice v.p v.n v.c] 31)) ∧ r.at (w4.alloc (.cells #[.slice l.p l.n l.c, .slice r.p r.n r.c, .slice o.p o.n o.c, .slice v.p v.n v.c] 31)) ∧ o.at (w4.alloc (.cells #[.slice l.p l.n l.c, .slice r.p r.n r.c, .slice o.p o.n o.c, .slice v.p v.n v.c] 31)) ∧ v.at (w4.alloc (.cells #[.slice l.p l.n l.c, .slice r.p r.n r.c, .slice o.p o.n o.c, .slice v.p v.n v.c] 31))) := hidden ⟨AT.out.1.keep ba, AT.out.2.1.keep ba, AT.out.2.2.1.keep ba, AT.out.2.2.2.keep ba⟩
 have B45 := hidden (bl_trans B4.out ba)
 have T5 := hidden (TS.out.1.keep B45.out)
 have VM := hidden TS.out.2
 have Z5 := hidden (range_bl Z1.out (bl_trans B2.out (bl_trans TS.out.1.bl B45.out)))
 have B5 := hidden (bl_trans B3.out B45.out)
 clear ba AT B4 B45 TS Z1 B3 B2 BA HK
 generalize (w4.alloc (.cells #[.slice l.p l.n l.c, .slice r.p r.n r.c, .slice o.p o.n o.c, .slice v.p v.n v.c] 31)) = w5 at *
 generalize w4.heap.size = ab at *
 have zc0 : w5.cell? ⟨w.heap.size, 0, none⟩ = some (.int .u64 z.x0) := Z5.out 0 _ rfl
 have zc1 : w5.cell? ⟨w.heap.size, 1, none⟩ = some (.int .u64 z.x1) := Z5.out 1 _ rfl
 have zc2 : w5.cell? ⟨w.heap.size, 2, none⟩ = some (.int .u64 z.x2) := Z5.out 2 _ rfl
 have zc3 : w5.cell? ⟨w.heap.size, 3, none⟩ = some (.int .u64 z.x3) := Z5.out 3 _ rfl
 have FL := hidden (tsFlat T5.out (HT.out.keep B5.out) (by have := VM.out; omega) z HZ.out)
 go_upto_region 8 with (go_at_call 7; refine FL.out.mono ?_; rintro e w6 ⟨a, b, c, d, C, rfl, hat, hnn, hb6, hval⟩; have WAT := hidden hat; have WN := hidden hnn; have B6 := hidden hb6; have HV := hidden hval; clear hat hnn hb6 hval FL)
 clear zc0 zc1 zc2 zc3
 have ba := bl_alloc w6 (.cells #[.slice a.p a.n a.c, .slice b.p b.n b.c, .slice c.p c.n c.c, .slice d.p d.n d.c, .int .u64 C.x0, .int .u64 C.x1, .int .u64 C.x2, .int .u64 C.x3] 34)
 have b67 := bl_trans B6.out ba
 have LG : Hid (Lg w w2 t m K Q ab w6.heap.size l r o v a b c d C z (w6.alloc (.cells #[.slice a.p a.n a.c, .slice b.p b.n b.c, .slice c.p c.n c.c, .slice d.p d.n d.c, .int .u64 C.x0, .int .u64 C.x1, .int .u64 C.x2, .int .u64 C.x3] 34))) := hidden ⟨bl_trans B5.out b67, T5.out.keep b67, range_bl A5.out b67, range_newM w6 _ 34, ⟨L5.out.1.keep b67, L5.out.2.1.keep b67, L5.out.2.2.1.keep b67, L5.out.2.2.2.keep b67⟩, ⟨WAT.out.1.keep ba, WAT.out.2.1.keep ba, WAT.out.2.2.1.keep ba, WAT.out.2.2.2.1.keep ba, WAT.out.2.2.2.2⟩, range_bl Z5.out b67⟩
 clear ba b67 B5 T5 A5 L5 WAT Z5 B6
 generalize (w6.alloc (.cells #[.slice a.p a.n a.c, .slice b.p b.n b.c, .slice c.p c.n c.c, .slice d.p d.n d.c, .int .u64 C.x0, .int .u64 C.x1, .int .u64 C.x2, .int .u64 C.x3] 34)) = w7 at *
 generalize w6.heap.size = wb at *
 have gc0 : w7.cell? ⟨wb, 0, none⟩ = some (.slice a.p K a.c) := by rw [← WN.out.1]; exact LG.out.wc 0 _ rfl
 have gc1 : w7.cell? ⟨wb, 1, none⟩ = some (.slice b.p K b.c) := by rw [← WN.out.2.1]; exact LG.out.wc 1 _ rfl
 have gc2 : w7.cell? ⟨wb, 2, none⟩ = some (.slice c.p K c.c) := by rw [← WN.out.2.2.1]; exact LG.out.wc 2 _ rfl
 have gc3 : w7.cell? ⟨wb, 3, none⟩ = some (.slice d.p m d.c) := by rw [← WN.out.2.2.2]; exact LG.out.wc 3 _ rfl
 have CG : Hid (∀ y, Below w7.heap.size w7 y → Calls Tryd.prog 8 #[.pointer (some ⟨t, 0, none⟩)] y fun e w' => e = .returned (.int .i64 (K : Int)) ∧ Below y.heap.size y w') := hidden (fun y hb => (tsGates (LG.out.keep hb).ts).mono (fun e w' ⟨he, hw⟩ => (And.intro he (by rw [hw]; exact Below.refl _ _))))
 have CV : Hid (∀ y, Below w7.heap.size w7 y → Calls Tryd.prog 9 #[.pointer (some ⟨t, 0, none⟩)] y fun e w' => e = .returned (.int .i64 (m : Int)) ∧ Below y.heap.size y w') := hidden (fun y hb => (tsValues (LG.out.keep hb).ts).mono (fun e w' ⟨he, hw⟩ => (And.intro he (by rw [hw]; exact Below.refl _ _))))
 refine lf8 _ t wb K m a.c b.c c.c d.c a.p b.p c.p d.p _ _ _ _ _ _ _ _ _ _ _ _ _ _ _ _ _ _ _ _ _ _ _ _ _ _ _ _ _ _ _ _ _ _ _ _ _ _ _ _ _ _ _ _ _ _ _ _ _ _ _ _ _ _ _ _ _ _ _ _ _ _ _ _ _ _ _ _ _ _ _ _ _ _ _ _ _ _ _ _ _ _ _ _ _ _ _ _ _ _ _ _ _ _ _ _ _ _ _ _ _ _ _ _ _ _ _ _ _ _ _ _ _ _ _ _ _ _ _ _ _ _ _ _ _ _ _ _ _ _ _ _ _ _ _ _ _ _ _ _ _ _ _ _ _ _ _ _ _ _ _ _ _ _ _ _ _ _ _ _ _ _ _ _ _ _ _ _ _ _ _ _ _ _ _ _ _ _ _ _ _ _ _ _ w7 gc0 gc1 gc2 gc3 CG CG CG CV (hidden ?_)
 intro w8 hb8
 replace LG := hidden (LG.out.keep hb8)
 clear hb8 gc0 gc1 gc2 gc3 CG CV
 have CI := hidden (fun y => fix (Int_any 1 y (by unfold Sm.Wd; omega)) rfl)
 simp only [E4.v] at CI
 go_upto_region 11 with fail
 have bs := bl_alloc w8 (.cells #[.int .u64 0, .int .u64 0, .int .u64 0, .int .u64 0] 26)
 have s9 : Hid ((w8.alloc (.cells #[.int .u64 0, .int .u64 0, .int .u64 0, .int .u64 0] 26)).rangeAt w8.heap.size 0 [.int .u64 0, .int .u64 0, .int .u64 0, .int .u64 0] ∧ (w8.alloc (.cells #[.int .u64 0, .int .u64 0, .int .u64 0, .int .u64 0] 26)).there w8.heap.size 0 4 ∧ Below w8.heap.size w8 (w8.alloc (.cells #[.int .u64 0, .int .u64 0, .int .u64 0, .int .u64 0] 26)) ∧ w8.heap.size < (w8.alloc (.cells #[.int .u64 0, .int .u64 0, .int .u64 0, .int .u64 0] 26)).heap.size) := hidden ⟨range_newM w8 _ 26, there_newM w8 [.int .u64 0, .int .u64 0, .int .u64 0, .int .u64 0] 26, bs, by simp⟩
 clear bs
 generalize (w8.alloc (.cells #[.int .u64 0, .int .u64 0, .int .u64 0, .int .u64 0] 26)) = w9 at *
 go_upto_region 12 with (go_at_call 10; refine (CI.out _).mono ?_; rintro e w10 ⟨rfl, hb10⟩; have B10 := hidden hb10; clear hb10)
 have bf := bl_alloc w10 (.cells #[.int .u64 (lst 1).x0, .int .u64 (lst 1).x1, .int .u64 (lst 1).x2, .int .u64 (lst 1).x3] 26)
 have LH : Hid (Lh w8 w8.heap.size w10.heap.size ⟨0, 0, 0, 0⟩ (lst 1) (w10.alloc (.cells #[.int .u64 (lst 1).x0, .int .u64 (lst 1).x1, .int .u64 (lst 1).x2, .int .u64 (lst 1).x3] 26))) := hidden (by
  have b1 := bl_trans B10.out bf
  exact ⟨bl_trans s9.out.2.2.1 b1, range_bl s9.out.1 b1, there_bl s9.out.2.1 b1, range_newM w10 [.int .u64 (lst 1).x0, .int .u64 (lst 1).x1, .int .u64 (lst 1).x2, .int .u64 (lst 1).x3] 26, there_newM w10 [.int .u64 (lst 1).x0, .int .u64 (lst 1).x1, .int .u64 (lst 1).x2, .int .u64 (lst 1).x3] 26, Nat.le_refl _, by have := B10.out.size; have := s9.out.2.2.2; omega⟩)
 clear bf s9 B10
 generalize (w10.alloc (.cells #[.int .u64 (lst 1).x0, .int .u64 (lst 1).x1, .int .u64 (lst 1).x2, .int .u64 (lst 1).x3] 26)) = w11 at *
 generalize hfb : w10.heap.size = fb at *
 clear hfb
 have qn : Hid (Q.length ≤ 4096) := hidden LG.out.ts.wk.q
 have lsQ := hidden (tsLs LG.out.ts)
 go_upto_region 14 with fail
 go_loopw [17, 18] (fun mv iv x => ∃ (i : Nat) (s f : E4), i ≤ Q.length ∧ mv = .bool (mt (nms 0 l r o v) Q i) ∧ iv = .int .i64 (i : Int) ∧ Hid (Lh w8 w8.heap.size fb s f x ∧ s.ok ∧ f.ok ∧ f.n % Sm.L = z.n ^ i % Sm.L ∧ s.n % Sm.L = pw z.n (nms 0 l r o v) Q i % Sm.L)) (fun _ i _ => Q.length - (intOf i).toNat)
 case atStart => exact ⟨0, _, _, by omega, rfl, rfl, hidden ⟨LH.out, zok4, lst_ok _, by rw [lst_n, emod_emod_L, Int.pow_zero], by show (⟨0, 0, 0, 0⟩ : E4).n % Sm.L = (0 : Int) % Sm.L; decide⟩⟩
 case round =>
  clear LH
  obtain ⟨i, s, f, hi, rfl, rfl, hS⟩ := hrel
  have LR := hidden (LG.out.keep hS.out.1.bel)
  have CR := hidden (tsReqs LR.out.ts)
  by_cases hin : i < Q.length
  ·have i1 : (i : Int) < (Q.length : Int) := by omega
   have w9' : IntKind.i64.wrap ((i : Int) + 1) = (i : Int) + 1 := IntWalk.i64_in _ (by have := qn.out; omega)
   obtain ⟨X, hX⟩ : ∃ X, Q[i]? = some X := ⟨Q[i], by simp [hin]⟩
   have HX := hidden hX
   have mX := hidden (List.mem_of_getElem? hX)
   clear hX
   have CQ := hidden (tsReq LR.out.ts i X HX.out)
   go_upto_region 17 with (first | (have _t := CR; go_at_call 11; refine CR.out.mono ?_; rintro e wx ⟨rfl, hwx⟩; have hw2 := hwx.symm; clear hwx CR; subst hw2) | (have _t := CQ; go_at_call 12; refine CQ.out.mono ?_; rintro e w12 ⟨PX, cX, rfl, hlx, hb12⟩; have LX := hidden hlx; have B12 := hidden hb12; clear hlx hb12 CQ))
   have L12 := hidden (LR.out.keep B12.out)
   have CE := hidden (tsEvalQ L12.out.ts (HT.out.keep L12.out.bel) L12.out.la HN.out mX.out (e0 := cX) LX.out)
   have ac0 : w12.cell? ⟨ab, 0, none⟩ = some (.slice l.p l.n l.c) := L12.out.ac 0 _ rfl
   have ac1 : w12.cell? ⟨ab, 1, none⟩ = some (.slice r.p r.n r.c) := L12.out.ac 1 _ rfl
   have ac2 : w12.cell? ⟨ab, 2, none⟩ = some (.slice o.p o.n o.c) := L12.out.ac 2 _ rfl
   have ac3 : w12.cell? ⟨ab, 3, none⟩ = some (.slice v.p v.n v.c) := L12.out.ac 3 _ rfl
   go_upto_region 18 with (go_at_call 13; refine CE.out.mono ?_; rintro e w13 ⟨rfl, hb13⟩; have B13 := hidden hb13; clear hb13 CE)
   clear ac0 ac1 ac2 ac3 L12 LX
   have bn := bl_alloc w13 (.cells #[.int .u64 (lst (vl (nms 0 l r o v) X)).x0, .int .u64 (lst (vl (nms 0 l r o v) X)).x1, .int .u64 (lst (vl (nms 0 l r o v) X)).x2, .int .u64 (lst (vl (nms 0 l r o v) X)).x3] 26)
   have N14 : Hid ((w13.alloc (.cells #[.int .u64 (lst (vl (nms 0 l r o v) X)).x0, .int .u64 (lst (vl (nms 0 l r o v) X)).x1, .int .u64 (lst (vl (nms 0 l r o v) X)).x2, .int .u64 (lst (vl (nms 0 l r o v) X)).x3] 26)).rangeAt w13.heap.size 0 [.int .u64 (lst (vl (nms 0 l r o v) X)).x0, .int .u64 (lst (vl (nms 0 l r o v) X)).x1, .int .u64 (lst (vl (nms 0 l r o v) X)).x2, .int .u64 (lst (vl (nms 0 l r o v) X)).x3]) := hidden (range_newM w13 _ 26)
   have H14 := hidden (hS.out.1.keep (bl_trans B12.out (bl_trans B13.out bn)))
   have nlt : fb < w13.heap.size := by
    have h1 := (H14.out.ft 0 (by omega)).1
    obtain ⟨u, hu⟩ := Option.isSome_iff_exists.1 h1
    have h2 := ((hS.out.1.keep (bl_trans B12.out B13.out)).ft 0 (by omega)).1
    obtain ⟨u2, hu2⟩ := Option.isSome_iff_exists.1 h2
    exact World.block_lt_of_cell? _ _ hu2
   have HP := hidden hS.out.2
   clear bn B12 B13 hS
   generalize (w13.alloc (.cells #[.int .u64 (lst (vl (nms 0 l r o v) X)).x0, .int .u64 (lst (vl (nms 0 l r o v) X)).x1, .int .u64 (lst (vl (nms 0 l r o v) X)).x2, .int .u64 (lst (vl (nms 0 l r o v) X)).x3] 26)) = w14 at *
   generalize w13.heap.size = nb at *
   obtain ⟨nv, hnv⟩ : ∃ nv, lst (vl (nms 0 l r o v) X) = nv := ⟨_, rfl⟩
   rw [hnv] at N14
   simp only [hnv]
   have NV : Hid (nv.ok ∧ nv.n % Sm.L = vq (nms 0 l r o v) Q i % Sm.L) := hidden (by rw [← hnv, vq_at HX.out]; exact ⟨lst_ok _, by rw [lst_n, emod_emod_L]⟩)
   clear hnv
   go_upto_region 20 with fail
   have L14 := hidden (LG.out.keep H14.out.bel)
   have f0 : w14.cell? ⟨fb, 0, none⟩ = some (.int .u64 f.x0) := H14.out.fr 0 _ rfl
   have z0 : w14.cell? ⟨w.heap.size, 0, none⟩ = some (.int .u64 z.x0) := L14.out.zc 0 _ rfl
   have f1 : w14.cell? ⟨fb, 1, none⟩ = some (.int .u64 f.x1) := H14.out.fr 1 _ rfl
   have z1 : w14.cell? ⟨w.heap.size, 1, none⟩ = some (.int .u64 z.x1) := L14.out.zc 1 _ rfl
   have f2 : w14.cell? ⟨fb, 2, none⟩ = some (.int .u64 f.x2) := H14.out.fr 2 _ rfl
   have z2 : w14.cell? ⟨w.heap.size, 2, none⟩ = some (.int .u64 z.x2) := L14.out.zc 2 _ rfl
   have f3 : w14.cell? ⟨fb, 3, none⟩ = some (.int .u64 f.x3) := H14.out.fr 3 _ rfl
   have z3 : w14.cell? ⟨w.heap.size, 3, none⟩ = some (.int .u64 z.x3) := L14.out.zc 3 _ rfl
   have CM := fix (R := lst (f.n * z.n)) (Mul_any f z w14 (HT.out.keep L14.out.bel) HP.out.2.1 HZ.out) rfl
   simp only [E4.v] at CM
   replace CM := hidden CM
   obtain ⟨f', hf'⟩ : ∃ f', lst (f.n * z.n) = f' := ⟨_, rfl⟩
   rw [hf'] at CM
   have FP := hidden hf'
   clear hf'
   go_upto_region 21 with (go_at_call 14; refine CM.out.mono ?_; rintro e w15 ⟨rfl, hb15⟩; have H15 := hidden (H14.out.keep hb15); have N15 := hidden (range_bl N14.out hb15); clear hb15 CM; have q0 : w15.cell? ⟨fb, 0, none⟩ = some (.int .u64 f.x0) := H15.out.fr 0 _ rfl; have q1 : w15.cell? ⟨fb, 1, none⟩ = some (.int .u64 f.x1) := H15.out.fr 1 _ rfl; have q2 : w15.cell? ⟨fb, 2, none⟩ = some (.int .u64 f.x2) := H15.out.fr 2 _ rfl; have q3 : w15.cell? ⟨fb, 3, none⟩ = some (.int .u64 f.x3) := H15.out.fr 3 _ rfl; have g0 := (H15.out.ft 0 (by omega)).2; have g1 := (H15.out.ft 1 (by omega)).2; have g2 := (H15.out.ft 2 (by omega)).2; have g3 := (H15.out.ft 3 (by omega)).2; simp only [Nat.zero_add] at g0 g1 g2 g3)
   have H16 : Hid (Lh w8 w8.heap.size fb s f' ((((w15.setCell ⟨fb, 0, none⟩ (.int .u64 f'.x0)).setCell ⟨fb, 1, none⟩ (.int .u64 f'.x1)).setCell ⟨fb, 2, none⟩ (.int .u64 f'.x2)).setCell ⟨fb, 3, none⟩ (.int .u64 f'.x3))) := hidden (H15.out.setF (f' := f'))
   have N16 : Hid (((((w15.setCell ⟨fb, 0, none⟩ (.int .u64 f'.x0)).setCell ⟨fb, 1, none⟩ (.int .u64 f'.x1)).setCell ⟨fb, 2, none⟩ (.int .u64 f'.x2)).setCell ⟨fb, 3, none⟩ (.int .u64 f'.x3)).rangeAt nb 0 [.int .u64 nv.x0, .int .u64 nv.x1, .int .u64 nv.x2, .int .u64 nv.x3]) := hidden (fun j u hu => (gb_setCells fb [.int .u64 f'.x0, .int .u64 f'.x1, .int .u64 f'.x2, .int .u64 f'.x3] 0 w15).cell (N15.out j u hu) (fun e => by have := Option.some.inj e; simp only at this; omega))
   clear f0 f1 f2 f3 z0 z1 z2 z3 q0 q1 q2 q3 g0 g1 g2 g3 H15 N15 N14 H14 L14
   generalize ((((w15.setCell ⟨fb, 0, none⟩ (.int .u64 f'.x0)).setCell ⟨fb, 1, none⟩ (.int .u64 f'.x1)).setCell ⟨fb, 2, none⟩ (.int .u64 f'.x2)).setCell ⟨fb, 3, none⟩ (.int .u64 f'.x3)) = w16 at *
   have L16 := hidden (LG.out.keep H16.out.bel)
   have f0 : w16.cell? ⟨fb, 0, none⟩ = some (.int .u64 f'.x0) := H16.out.fr 0 _ rfl
   have n0 : w16.cell? ⟨nb, 0, none⟩ = some (.int .u64 nv.x0) := N16.out 0 _ rfl
   have f1 : w16.cell? ⟨fb, 1, none⟩ = some (.int .u64 f'.x1) := H16.out.fr 1 _ rfl
   have n1 : w16.cell? ⟨nb, 1, none⟩ = some (.int .u64 nv.x1) := N16.out 1 _ rfl
   have f2 : w16.cell? ⟨fb, 2, none⟩ = some (.int .u64 f'.x2) := H16.out.fr 2 _ rfl
   have n2 : w16.cell? ⟨nb, 2, none⟩ = some (.int .u64 nv.x2) := N16.out 2 _ rfl
   have f3 : w16.cell? ⟨fb, 3, none⟩ = some (.int .u64 f'.x3) := H16.out.fr 3 _ rfl
   have n3 : w16.cell? ⟨nb, 3, none⟩ = some (.int .u64 nv.x3) := N16.out 3 _ rfl
   have of' : f'.ok := FP.out ▸ lst_ok _
   have C3 : Hid (∀ y, Below w16.heap.size w16 y → _) := hidden (fun y hb => fix (R := lst (f'.n * nv.n)) (Mul_any f' nv y (HT.out.keep (bl_trans L16.out.bel hb)) of' NV.out.1) rfl)
   have C4 : Hid (∀ y, Below w16.heap.size w16 y → _) := hidden (fun y hb => fix (R := lst (s.n + (lst (f'.n * nv.n)).n)) (Add_any s (lst (f'.n * nv.n)) y (HT.out.keep (bl_trans L16.out.bel hb)) HP.out.1 (lst_ok _)) rfl)
   simp only [E4.v] at C3 C4
   have s2 := H16.out.s2
   refine lf21 _ w8.heap.size fb nb s f' nv (lst (f'.n * nv.n)) (lst (s.n + (lst (f'.n * nv.n)).n)) _ _ _ _ _ _ _ _ _ _ _ _ _ _ _ _ _ _ _ _ _ _ _ _ _ _ _ _ _ _ _ _ _ _ _ _ _ _ _ _ _ _ _ _ _ _ _ _ _ _ _ _ _ _ _ _ _ _ _ _ _ _ _ _ _ _ _ _ _ _ _ _ _ _ _ _ _ _ _ _ _ _ _ _ _ _ _ _ _ _ _ _ _ _ _ _ _ _ _ _ _ _ _ _ _ _ _ _ _ _ _ _ _ _ _ _ _ _ _ _ _ _ _ _ _ _ _ _ _ _ _ _ _ _ _ _ _ _ _ _ _ _ _ _ _ _ _ _ _ _ _ _ _ _ _ _ _ _ _ _ _ _ _ _ _ _ _ _ _ _ _ _ _ _ _ _ _ _ _ _ _ _ _ _ w16 (by omega) (by omega) H16.out.sr H16.out.st f0 f1 f2 f3 n0 n1 n2 n3 C3 C4 (hidden ?_)
   intro w17 hz17
   have NS : Hid (Lh w8 w8.heap.size fb (lst (s.n + (lst (f'.n * nv.n)).n)) f' w17 ∧ (lst (s.n + (lst (f'.n * nv.n)).n)).ok ∧ f'.ok ∧ f'.n % Sm.L = z.n ^ (i + 1) % Sm.L ∧ (lst (s.n + (lst (f'.n * nv.n)).n)).n % Sm.L = pw z.n (nms 0 l r o v) Q (i + 1) % Sm.L) := hidden (by
    obtain ⟨wy, hy, rfl⟩ := hz17
    have hf : f'.n % Sm.L = z.n ^ (i + 1) % Sm.L := by
     rw [← FP.out, lst_n, emod_emod_L, Int.mul_emod, HP.out.2.2.1, ← Int.mul_emod, Int.pow_succ]
    refine ⟨(H16.out.keep hy).setS, lst_ok _, of', hf, ?_⟩
    rw [lst_n, emod_emod_L, Int.add_emod, HP.out.2.2.2, lst_n, emod_emod_L, Int.mul_emod, hf, NV.out.2, ← Int.mul_emod, ← Int.add_emod, pw_succ])
   have N17 : Hid (w17.rangeAt nb 0 [.int .u64 nv.x0, .int .u64 nv.x1, .int .u64 nv.x2, .int .u64 nv.x3]) := hidden (by
    obtain ⟨wy, hy, rfl⟩ := hz17
    exact fun j u hu => (gb_setCells w8.heap.size _ 0 wy).cell (range_bl N16.out hy j u hu) (fun e => by have := Option.some.inj e; simp only at this; omega))
   clear hz17 C3 C4 f0 f1 f2 f3 n0 n1 n2 n3 H16 N16 L16 of' FP HP HX mX LR
   go_upto_region 22 with fail
   have L17 := hidden (LG.out.keep NS.out.1.bel)
   have n0 : w17.cell? ⟨nb, 0, none⟩ = some (.int .u64 nv.x0) := N17.out 0 _ rfl
   have n1 : w17.cell? ⟨nb, 1, none⟩ = some (.int .u64 nv.x1) := N17.out 1 _ rfl
   have n2 : w17.cell? ⟨nb, 2, none⟩ = some (.int .u64 nv.x2) := N17.out 2 _ rfl
   have n3 : w17.cell? ⟨nb, 3, none⟩ = some (.int .u64 nv.x3) := N17.out 3 _ rfl
   have MS := hidden (mt_succ (nms 0 l r o v) Q i)
   have CZ := IsZero_any nv w17 (HT.out.keep L17.out.bel) NV.out.1
   rw [NV.out.2] at CZ
   simp only [E4.v] at CZ
   obtain ⟨zb, hzb⟩ : ∃ zb, decide (vq (nms 0 l r o v) Q i % Sm.L = 0) = zb := ⟨_, rfl⟩
   rw [hzb] at CZ MS
   replace CZ := hidden CZ
   obtain ⟨mb, hmb⟩ : ∃ mb, mt (nms 0 l r o v) Q i = mb := ⟨_, rfl⟩
   rw [hmb] at MS
   simp only [hmb]
   clear hzb hmb NV N17 L17
   cases mb with
   | true =>
    go_wp2_with (go_at_call 16; refine CZ.out.mono ?_; rintro e w18 ⟨rfl, hb18⟩; have NS2 : Hid (Lh w8 w8.heap.size fb (lst (s.n + (lst (f'.n * nv.n)).n)) f' w18 ∧ _) := hidden ⟨NS.out.1.keep hb18, NS.out.2⟩; clear hb18 CZ)
    go_roundw
    case rel => exact ⟨i + 1, _, _, by omega, by rw [MS.out]; simp, by go_num, NS2⟩
    case measure => simp [intOf]; omega
   | false =>
    go_wp2_with fail
    go_roundw
    case rel => exact ⟨i + 1, _, _, by omega, by rw [MS.out]; simp, by go_num, NS⟩
    case measure => simp [intOf]; omega
  ·obtain rfl : i = Q.length := by omega
   have lq : ¬ (Q.length : Int) < (Q.length : Int) := by omega
   have RS := hidden hS.out
   clear hS
   go_upto_region 23 with (go_at_call 11; refine CR.out.mono ?_; rintro e wx ⟨rfl, hwx⟩; have hw2 := hwx.symm; clear hwx; subst hw2)
   clear CR
   have se : (rsE a b c d l r o v C).n % Sm.L = s.n % Sm.L := by
    rw [RS.out.2.2.2.2, rs_is, WN.out.1, WN.out.2.1, WN.out.2.2.1, WN.out.2.2.2, HV.out (va l r o v), zq_pw]
   have g0 : wr.cell? ⟨wb, 0, none⟩ = some (.slice a.p a.n a.c) := LR.out.wc 0 _ rfl
   have g1 : wr.cell? ⟨wb, 1, none⟩ = some (.slice b.p b.n b.c) := LR.out.wc 1 _ rfl
   have g2 : wr.cell? ⟨wb, 2, none⟩ = some (.slice c.p c.n c.c) := LR.out.wc 2 _ rfl
   have g3 : wr.cell? ⟨wb, 3, none⟩ = some (.slice d.p d.n d.c) := LR.out.wc 3 _ rfl
   have g4 : wr.cell? ⟨wb, 4, none⟩ = some (.int .u64 C.x0) := LR.out.wc 4 _ rfl
   have g5 : wr.cell? ⟨wb, 5, none⟩ = some (.int .u64 C.x1) := LR.out.wc 5 _ rfl
   have g6 : wr.cell? ⟨wb, 6, none⟩ = some (.int .u64 C.x2) := LR.out.wc 6 _ rfl
   have g7 : wr.cell? ⟨wb, 7, none⟩ = some (.int .u64 C.x3) := LR.out.wc 7 _ rfl
   have h0 : wr.cell? ⟨ab, 0, none⟩ = some (.slice l.p l.n l.c) := LR.out.ac 0 _ rfl
   have h1 : wr.cell? ⟨ab, 1, none⟩ = some (.slice r.p r.n r.c) := LR.out.ac 1 _ rfl
   have h2 : wr.cell? ⟨ab, 2, none⟩ = some (.slice o.p o.n o.c) := LR.out.ac 2 _ rfl
   have h3 : wr.cell? ⟨ab, 3, none⟩ = some (.slice v.p v.n v.c) := LR.out.ac 3 _ rfl
   have s0 : wr.cell? ⟨w8.heap.size, 0, none⟩ = some (.int .u64 s.x0) := RS.out.1.sr 0 _ rfl
   have s1 : wr.cell? ⟨w8.heap.size, 1, none⟩ = some (.int .u64 s.x1) := RS.out.1.sr 1 _ rfl
   have s2 : wr.cell? ⟨w8.heap.size, 2, none⟩ = some (.int .u64 s.x2) := RS.out.1.sr 2 _ rfl
   have s3 : wr.cell? ⟨w8.heap.size, 3, none⟩ = some (.int .u64 s.x3) := RS.out.1.sr 3 _ rfl
   have KM : Hid (K ≤ 1024 ∧ m ≤ 16) := hidden ⟨LG.out.ts.wk.k, VM.out⟩
   have C2 : Hid (∀ y, Below wr.heap.size wr y → _) := hidden (fun y hb => rest_any a b c d l r o v C y (HT.out.keep (bl_trans LR.out.bel hb)) (LR.out.keep hb).wa (LR.out.keep hb).la (rest_n HN.out WN.out KM.out))
   have C4 : Hid (∀ y, Below wr.heap.size wr y → _) := hidden (fun y hb => same_C2 (p := rsE a b c d l r o v C) (q := s) (HT.out.keep (bl_trans LR.out.bel hb)) (lst_ok _) RS.out.2.1 se)
   refine lf23 _ wb ab w8.heap.size a b c d l r o v C (rsE a b c d l r o v C) s _ _ _ _ _ _ _ _ _ _ _ _ _ _ _ _ _ _ _ _ _ _ _ _ _ _ _ _ _ _ _ _ _ _ _ _ _ _ _ _ _ _ _ _ _ _ _ _ _ _ _ _ _ _ _ _ _ _ _ _ _ _ _ _ _ _ _ _ _ _ _ _ _ _ _ _ _ _ _ _ _ _ _ _ _ _ _ _ _ _ _ _ _ _ _ _ _ _ _ _ _ _ _ _ _ _ _ _ _ _ _ _ _ _ _ _ _ _ _ _ _ _ _ _ _ _ _ _ _ _ _ _ _ _ _ _ _ _ _ _ _ _ _ _ _ _ _ _ _ _ _ _ _ _ _ _ _ _ _ _ _ _ _ _ _ _ _ _ _ _ _ _ _ _ _ _ _ _ _ _ _ _ _ _ wr g0 g1 g2 g3 g4 g5 g6 g7 h0 h1 h2 h3 s0 s1 s2 s3 C2 C4 (hidden ?_)
   intro w18 hb18
   have L18 := hidden (LR.out.keep hb18)
   clear hb18 C2 C4 g0 g1 g2 g3 g4 g5 g6 g7 h0 h1 h2 h3 s0 s1 s2 s3 se RS LR
   have ac0 : w18.cell? ⟨ab, 0, none⟩ = some (.slice l.p l.n l.c) := L18.out.ac 0 _ rfl
   have ac1 : w18.cell? ⟨ab, 1, none⟩ = some (.slice r.p r.n r.c) := L18.out.ac 1 _ rfl
   have ac2 : w18.cell? ⟨ab, 2, none⟩ = some (.slice o.p o.n o.c) := L18.out.ac 2 _ rfl
   have ac3 : w18.cell? ⟨ab, 3, none⟩ = some (.slice v.p v.n v.c) := L18.out.ac 3 _ rfl
   have CH := hidden (tsHolds L18.out.ts (HT.out.keep L18.out.bel) L18.out.la)
   rw [ho_is HN.out lsQ.out] at CH
   obtain ⟨ml, hml⟩ : ∃ ml, mlB l r o = ml := ⟨_, rfl⟩
   obtain ⟨mm, hmm⟩ : ∃ mm, mt (nms 0 l r o v) Q Q.length = mm := ⟨_, rfl⟩
   rw [hml, hmm] at CH
   simp only [hmm]
   go_upto_region 26 with (go_at_call 19; refine CH.out.mono ?_; rintro e w19 ⟨rfl, hb19⟩; have L19 := hidden (L18.out.keep hb19); clear hb19 CH)
   clear ac0 ac1 ac2 ac3 L18
   have CL : Hid (∀ y, Below w19.heap.size w19 y → Calls Tryd.prog 20 #[.agg #[.slice l.p l.n l.c, .slice r.p r.n r.c, .slice o.p o.n o.c, .slice v.p v.n v.c]] y fun e w' => e = .returned (.bool ml) ∧ Below y.heap.size y w') := hidden (fun y hb => hml ▸ lawmul_any l r o v y (HT.out.keep (bl_trans L19.out.bel hb)) (by have := KM.out; have := HN.out; omega) (L19.out.keep hb).la.1 (L19.out.keep hb).la.2.1 (L19.out.keep hb).la.2.2.1 (by have := HN.out; omega) (by have := HN.out; omega))
   have BX := hidden (Below.refl w19.heap.size w19)
   have ac0 : w19.cell? ⟨ab, 0, none⟩ = some (.slice l.p l.n l.c) := L19.out.ac 0 _ rfl
   have ac1 : w19.cell? ⟨ab, 1, none⟩ = some (.slice r.p r.n r.c) := L19.out.ac 1 _ rfl
   have ac2 : w19.cell? ⟨ab, 2, none⟩ = some (.slice o.p o.n o.c) := L19.out.ac 2 _ rfl
   have ac3 : w19.cell? ⟨ab, 3, none⟩ = some (.slice v.p v.n v.c) := L19.out.ac 3 _ rfl
   have HMM := hidden hmm
   clear hml hmm
   cases ml <;> cases mm <;> (
    simp only [reduceIte, Bool.false_eq_true]
    go_upto_region 28 with (go_at_call 20; refine (CL.out _ BX.out).mono ?_; rintro e wq ⟨rfl, hbq⟩; replace BX := hidden (bl_trans BX.out hbq); clear hbq; have ac0 : wq.cell? ⟨ab, 0, none⟩ = some (.slice l.p l.n l.c) := (L19.out.keep BX.out).ac 0 _ rfl; have ac1 : wq.cell? ⟨ab, 1, none⟩ = some (.slice r.p r.n r.c) := (L19.out.keep BX.out).ac 1 _ rfl; have ac2 : wq.cell? ⟨ab, 2, none⟩ = some (.slice o.p o.n o.c) := (L19.out.keep BX.out).ac 2 _ rfl; have ac3 : wq.cell? ⟨ab, 3, none⟩ = some (.slice v.p v.n v.c) := (L19.out.keep BX.out).ac 3 _ rfl)
    replace L19 := hidden (L19.out.keep BX.out)
    clear BX CL ac0 ac1 ac2 ac3
    have CR := hidden (tsReqs L19.out.ts)
    have FIN := hidden L19.out.bel
    by_cases h40 : 40 < Q.length
    ·have i40 : (40 : Int) < (Q.length : Int) := by omega
     clear L19
     go_wp2_with (go_at_call 11; refine CR.out.mono ?_; rintro e wx ⟨rfl, hwx⟩; have hw2 := hwx.symm; clear hwx; subst hw2)
     exact bodyPost_ret (v := .bool true) (by simp [results, Tryd.results3, go_sem]) rfl ⟨rfl, FIN.out⟩
    ·have i40 : ¬ (40 : Int) < (Q.length : Int) := by omega
     have H40 : Hid (Q.length ≤ 40) := hidden (by omega)
     go_upto_region 32 with (go_at_call 11; refine CR.out.mono ?_; rintro e wx ⟨rfl, hwx⟩; have hw2 := hwx.symm; clear hwx; subst hw2)
     clear CR FIN i40
     go_loopw [24, 25] (fun av iv x => ∃ i : Nat, i ≤ Q.length ∧ av = .bool (al (nms 0 l r o v) Q i) ∧ iv = .int .i64 (i : Int) ∧ Hid (Below wq.heap.size wq x)) (fun _ i _ => Q.length - (intOf i).toNat)
     case atStart => exact ⟨0, by omega, rfl, rfl, hidden (Below.refl _ _)⟩
     case round =>
      obtain ⟨i, hi, rfl, rfl, hB⟩ := hrel
      have LR := hidden (L19.out.keep hB.out)
      have CR := hidden (tsReqs LR.out.ts)
      by_cases hin : i < Q.length
      ·have i1 : (i : Int) < (Q.length : Int) := by omega
       have w9' : IntKind.i64.wrap ((i : Int) + 1) = (i : Int) + 1 := IntWalk.i64_in _ (by have := qn.out; omega)
       have u9 : IntKind.u64.wrap ((i : Int) + 1) = (i : Int) + 1 := wrap_u64 (by omega) (by have := H40.out; omega)
       have CI2 := fix (Int_any ((i : Int) + 1) wr (by unfold Sm.Wd; have := H40.out; omega)) rfl
       simp only [E4.v] at CI2
       replace CI2 := hidden CI2
       go_upto_region 34 with (go_at_call 11; refine CR.out.mono ?_; rintro e wx ⟨rfl, hwx⟩; have hw2 := hwx.symm; clear hwx; subst hw2)
       clear CR
       go_upto_region 35 with (first | (have _t := CI2; go_at_call 10; refine CI2.out.mono ?_; rintro e w21 ⟨rfl, hb21⟩; have B21 := hidden hb21; clear hb21 CI2) | (go_at_call 7; refine (tsFlat (LR.out.keep B21.out).ts (HT.out.keep (LR.out.keep B21.out).bel) (by have := KM.out; omega) (lst ((i : Int) + 1)) (lst_ok _)).mono ?_; rintro e w22 ⟨a', b', c', d', C', rfl, hat', hnn', hb22, hval'⟩; have WAT := hidden hat'; have WN' := hidden hnn'; have B22 := hidden hb22; have HV' := hidden hval'; clear hat' hnn' hb22 hval'))
       have ba := bl_alloc w22 (.cells #[.slice a'.p a'.n a'.c, .slice b'.p b'.n b'.c, .slice c'.p c'.n c'.c, .slice d'.p d'.n d'.c, .int .u64 C'.x0, .int .u64 C'.x1, .int .u64 C'.x2, .int .u64 C'.x3] 34)
       have WC : Hid ((w22.alloc (.cells #[.slice a'.p a'.n a'.c, .slice b'.p b'.n b'.c, .slice c'.p c'.n c'.c, .slice d'.p d'.n d'.c, .int .u64 C'.x0, .int .u64 C'.x1, .int .u64 C'.x2, .int .u64 C'.x3] 34)).rangeAt w22.heap.size 0 [.slice a'.p a'.n a'.c, .slice b'.p b'.n b'.c, .slice c'.p c'.n c'.c, .slice d'.p d'.n d'.c, .int .u64 C'.x0, .int .u64 C'.x1, .int .u64 C'.x2, .int .u64 C'.x3]) := hidden (range_newM w22 _ 34)
       have B23 := hidden (bl_trans hB.out (bl_trans B21.out (bl_trans B22.out ba)))
       have WA : Hid (a'.at (w22.alloc (.cells #[.slice a'.p a'.n a'.c, .slice b'.p b'.n b'.c, .slice c'.p c'.n c'.c, .slice d'.p d'.n d'.c, .int .u64 C'.x0, .int .u64 C'.x1, .int .u64 C'.x2, .int .u64 C'.x3] 34)) ∧ b'.at (w22.alloc (.cells #[.slice a'.p a'.n a'.c, .slice b'.p b'.n b'.c, .slice c'.p c'.n c'.c, .slice d'.p d'.n d'.c, .int .u64 C'.x0, .int .u64 C'.x1, .int .u64 C'.x2, .int .u64 C'.x3] 34)) ∧ c'.at (w22.alloc (.cells #[.slice a'.p a'.n a'.c, .slice b'.p b'.n b'.c, .slice c'.p c'.n c'.c, .slice d'.p d'.n d'.c, .int .u64 C'.x0, .int .u64 C'.x1, .int .u64 C'.x2, .int .u64 C'.x3] 34)) ∧ d'.at (w22.alloc (.cells #[.slice a'.p a'.n a'.c, .slice b'.p b'.n b'.c, .slice c'.p c'.n c'.c, .slice d'.p d'.n d'.c, .int .u64 C'.x0, .int .u64 C'.x1, .int .u64 C'.x2, .int .u64 C'.x3] 34)) ∧ C'.ok) := hidden ⟨WAT.out.1.keep ba, WAT.out.2.1.keep ba, WAT.out.2.2.1.keep ba, WAT.out.2.2.2.1.keep ba, WAT.out.2.2.2.2⟩
       clear ba B21 B22 WAT LR hB
       generalize (w22.alloc (.cells #[.slice a'.p a'.n a'.c, .slice b'.p b'.n b'.c, .slice c'.p c'.n c'.c, .slice d'.p d'.n d'.c, .int .u64 C'.x0, .int .u64 C'.x1, .int .u64 C'.x2, .int .u64 C'.x3] 34)) = w23 at *
       generalize w22.heap.size = vb at *
       have L23 := hidden (L19.out.keep B23.out)
       have AS := hidden (al_succ (nms 0 l r o v) Q i)
       have rv : (rsE a' b' c' d' l r o v C').n % Sm.L = pw ((i + 1 : Nat) : Int) (nms 0 l r o v) Q Q.length % Sm.L := by
        rw [rs_is, WN'.out.1, WN'.out.2.1, WN'.out.2.2.1, WN'.out.2.2.2, HV'.out (va l r o v), zq_pw, lst_small (by omega) (by have := H40.out; omega)]
        rfl
       have CT := rest_any a' b' c' d' l r o v C' w23 (HT.out.keep L23.out.bel) WA.out L23.out.la (rest_n HN.out WN'.out KM.out)
       have CZ : Hid (∀ y, Below w23.heap.size w23 y → _) := hidden (fun y hb => IsZero_any (rsE a' b' c' d' l r o v C') y (HT.out.keep (bl_trans L23.out.bel hb)) (lst_ok _))
       rw [rv] at CZ
       simp only [E4.v] at CZ
       obtain ⟨zb, hzb⟩ : ∃ zb, decide (pw ((i + 1 : Nat) : Int) (nms 0 l r o v) Q Q.length % Sm.L = 0) = zb := ⟨_, rfl⟩
       rw [hzb] at CZ AS
       obtain ⟨ab', hab⟩ : ∃ ab', al (nms 0 l r o v) Q i = ab' := ⟨_, rfl⟩
       rw [hab] at AS
       simp only [hab]
       obtain ⟨xr, hxr⟩ : ∃ xr, rsE a' b' c' d' l r o v C' = xr := ⟨_, rfl⟩
       rw [hxr] at CT CZ
       replace CT := hidden CT
       have g0 : w23.cell? ⟨vb, 0, none⟩ = some (.slice a'.p a'.n a'.c) := WC.out 0 _ rfl
       have g1 : w23.cell? ⟨vb, 1, none⟩ = some (.slice b'.p b'.n b'.c) := WC.out 1 _ rfl
       have g2 : w23.cell? ⟨vb, 2, none⟩ = some (.slice c'.p c'.n c'.c) := WC.out 2 _ rfl
       have g3 : w23.cell? ⟨vb, 3, none⟩ = some (.slice d'.p d'.n d'.c) := WC.out 3 _ rfl
       have g4 : w23.cell? ⟨vb, 4, none⟩ = some (.int .u64 C'.x0) := WC.out 4 _ rfl
       have g5 : w23.cell? ⟨vb, 5, none⟩ = some (.int .u64 C'.x1) := WC.out 5 _ rfl
       have g6 : w23.cell? ⟨vb, 6, none⟩ = some (.int .u64 C'.x2) := WC.out 6 _ rfl
       have g7 : w23.cell? ⟨vb, 7, none⟩ = some (.int .u64 C'.x3) := WC.out 7 _ rfl
       have h0 : w23.cell? ⟨ab, 0, none⟩ = some (.slice l.p l.n l.c) := L23.out.ac 0 _ rfl
       have h1 : w23.cell? ⟨ab, 1, none⟩ = some (.slice r.p r.n r.c) := L23.out.ac 1 _ rfl
       have h2 : w23.cell? ⟨ab, 2, none⟩ = some (.slice o.p o.n o.c) := L23.out.ac 2 _ rfl
       have h3 : w23.cell? ⟨ab, 3, none⟩ = some (.slice v.p v.n v.c) := L23.out.ac 3 _ rfl
       clear hzb hab hxr rv WC WA WN' HV' L23
       cases ab' with
       | true =>
        go_wp2_with (first | (go_at_call 17; refine CT.out.mono ?_; rintro e w24 ⟨rfl, hb24⟩; have B24 := hidden hb24; clear hb24) | (go_at_call 16; refine (CZ.out _ B24.out).mono ?_; rintro e w25 ⟨rfl, hb25⟩; have B25 := hidden (bl_trans B23.out (bl_trans B24.out hb25)); clear hb25))
        go_roundw
        case rel => exact ⟨i + 1, by omega, by rw [AS.out]; simp, by go_num, B25⟩
        case measure => simp [intOf]; omega
       | false =>
        go_wp2_with fail
        go_roundw
        case rel => exact ⟨i + 1, by omega, by rw [AS.out]; simp, by go_num, B23⟩
        case measure => simp [intOf]; omega
      ·obtain rfl : i = Q.length := by omega
       have lq : ¬ (Q.length : Int) < (Q.length : Int) := by omega
       have FIN := hidden LR.out.bel
       have e0 := (al_mt (N := (nms 0 l r o v)) H40.out).trans HMM.out
       simp only [e0]
       clear LR
       go_wp2_with (go_at_call 11; refine CR.out.mono ?_; rintro e wx ⟨rfl, hwx⟩; have hw2 := hwx.symm; clear hwx; subst hw2)
       exact bodyPost_ret (v := .bool true) (by simp [results, Tryd.results3, go_sem]) rfl ⟨rfl, FIN.out⟩)
end Ci
end Go.Proofs.YtimjfndaleccaaaDoor
