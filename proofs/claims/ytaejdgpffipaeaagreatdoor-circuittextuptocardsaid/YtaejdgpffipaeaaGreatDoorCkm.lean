import Derived.Test.YtaejdgpffipaeaaGreatDoorTk
import Derived.Test.YtaejdgpffipaeaaGreatDoorKx
namespace Go.Proofs.YtaejdgpffipaeaaGreatDoor
set_option maxRecDepth 100000
set_option maxHeartbeats 16000000
open Go.RowKit
set_option linter.unusedVariables false
set_option linter.unusedSimpArgs false
open Cm (Wr Tm co bf Ls lf ins Eqm)
open Tr (By)
namespace Ci
def lt8o_0 : Oper := { dst := some 41, op := Op.move (Operand.tmp 12), type := 30, pos := "outright.go:249", after := #[], guard := none }
def lt8o_1 : Oper := { dst := some 42, op := Op.binOp BinOp.neq 30 (Operand.tmp 41) (Operand.const (Value.int IntKind.i64 0)) 30, type := 4, pos := "outright.go:249", after := #[DD 0], guard := none }
def lt8o_2 : Oper := { dst := some 43, op := Op.move (Operand.tmp 42), type := 4, pos := "outright.go:249", after := #[DD 1], guard := none }
def lt8o_3 : Oper := { dst := some 44, op := Op.move (Operand.tmp 11), type := 27, pos := "outright.go:249", after := #[GU 2], guard := some (2, false) }
def lt8o_4 : Oper := { dst := some 45, op := Op.binOp BinOp.eql 27 (Operand.tmp 44) (Operand.const (Value.pointer none)) 27, type := 4, pos := "outright.go:249", after := #[DD 3, GU 2], guard := some (2, false) }
def lt8o_5 : Oper := { dst := some 46, op := Op.pick (Operand.tmp 43) (Operand.const (Value.bool true)) (Operand.tmp 45), type := 4, pos := "outright.go:249", after := #[DD 2, DD 4], guard := none }
def lt8o_6 : Oper := { dst := some 47, op := Op.move (Operand.tmp 46), type := 4, pos := "outright.go:249", after := #[DD 5, CH 2], guard := none }
def lt8o_7 : Oper := { dst := some 48, op := Op.move (Operand.tmp 11), type := 27, pos := "outright.go:249", after := #[GU 6], guard := some (6, false) }
def lt8o_8 : Oper := { dst := some 49, op := Op.call { callee := Callee.value (Operand.func 6), args := #[Operand.tmp 48], argTypes := #[27] }, type := 23, pos := "outright.go:249", after := #[DD 7, CH 6, GU 6], guard := some (6, false) }
def lt8o_9 : Oper := { dst := some 50, op := Op.convert 23 9 (Operand.tmp 49), type := 9, pos := "outright.go:249", after := #[DD 8, GU 6], guard := some (6, false) }
def lt8o_10 : Oper := { dst := some 51, op := Op.move (Operand.tmp 10), type := 23, pos := "outright.go:249", after := #[GU 6], guard := some (6, false) }
def lt8o_11 : Oper := { dst := some 52, op := Op.convert 23 9 (Operand.tmp 51), type := 9, pos := "outright.go:249", after := #[DD 10, GU 6], guard := some (6, false) }
def lt8o_12 : Oper := { dst := some 53, op := Op.binOp BinOp.neq 9 (Operand.tmp 50) (Operand.tmp 52) 9, type := 4, pos := "outright.go:249", after := #[DD 9, DD 11, GU 6], guard := some (6, false) }
def lt8o_13 : Oper := { dst := some 54, op := Op.pick (Operand.tmp 47) (Operand.const (Value.bool true)) (Operand.tmp 53), type := 4, pos := "outright.go:249", after := #[DD 6, DD 12], guard := none }
def lt8o_14 : Oper := { dst := some 55, op := Op.move (Operand.tmp 54), type := 4, pos := "outright.go:249", after := #[DD 13, CH 8], guard := none }
def lt8o_15 : Oper := { dst := some 56, op := Op.move (Operand.tmp 11), type := 27, pos := "outright.go:249", after := #[GU 14], guard := some (14, false) }
def lt8o_16 : Oper := { dst := some 57, op := Op.call { callee := Callee.value (Operand.func 8), args := #[Operand.tmp 56], argTypes := #[27] }, type := 3, pos := "outright.go:249", after := #[DD 15, CH 14, GU 14], guard := some (14, false) }
def lt8o_17 : Oper := { dst := some 58, op := Op.move (Operand.tmp 9), type := 27, pos := "outright.go:249", after := #[GU 14], guard := some (14, false) }
def lt8o_18 : Oper := { dst := some 59, op := Op.call { callee := Callee.value (Operand.func 8), args := #[Operand.tmp 58], argTypes := #[27] }, type := 3, pos := "outright.go:249", after := #[DD 17, CH 16, GU 14], guard := some (14, false) }
def lt8o_19 : Oper := { dst := some 60, op := Op.binOp BinOp.neq 3 (Operand.tmp 57) (Operand.tmp 59) 3, type := 4, pos := "outright.go:249", after := #[DD 16, DD 18, GU 14], guard := some (14, false) }
def lt8o_20 : Oper := { dst := some 61, op := Op.pick (Operand.tmp 55) (Operand.const (Value.bool true)) (Operand.tmp 60), type := 4, pos := "outright.go:249", after := #[DD 14, DD 19], guard := none }
def lt8o_21 : Oper := { dst := some 62, op := Op.move (Operand.tmp 61), type := 4, pos := "outright.go:249", after := #[DD 20, CH 18], guard := none }
def lt8o_22 : Oper := { dst := some 63, op := Op.move (Operand.tmp 11), type := 27, pos := "outright.go:249", after := #[GU 21], guard := some (21, false) }
def lt8o_23 : Oper := { dst := some 64, op := Op.call { callee := Callee.value (Operand.func 9), args := #[Operand.tmp 63], argTypes := #[27] }, type := 3, pos := "outright.go:249", after := #[DD 22, CH 21, GU 21], guard := some (21, false) }
def lt8o_24 : Oper := { dst := some 65, op := Op.move (Operand.tmp 9), type := 27, pos := "outright.go:249", after := #[GU 21], guard := some (21, false) }
def lt8o_25 : Oper := { dst := some 66, op := Op.call { callee := Callee.value (Operand.func 9), args := #[Operand.tmp 65], argTypes := #[27] }, type := 3, pos := "outright.go:249", after := #[DD 24, CH 23, GU 21], guard := some (21, false) }
def lt8o_26 : Oper := { dst := some 67, op := Op.binOp BinOp.neq 3 (Operand.tmp 64) (Operand.tmp 66) 3, type := 4, pos := "outright.go:249", after := #[DD 23, DD 25, GU 21], guard := some (21, false) }
def lt8o_27 : Oper := { dst := some 68, op := Op.pick (Operand.tmp 62) (Operand.const (Value.bool true)) (Operand.tmp 67), type := 4, pos := "outright.go:249", after := #[DD 21, DD 26], guard := none }
def lt8o_28 : Oper := { dst := some 69, op := Op.move (Operand.tmp 68), type := 4, pos := "outright.go:249", after := #[DD 27, CH 25], guard := none }
def lt8o_29 : Oper := { dst := some 70, op := Op.move (Operand.tmp 11), type := 27, pos := "outright.go:249", after := #[GU 28], guard := some (28, false) }
def lt8o_30 : Oper := { dst := some 71, op := Op.call { callee := Callee.value (Operand.func 10), args := #[Operand.tmp 70], argTypes := #[27] }, type := 3, pos := "outright.go:249", after := #[DD 29, CH 28, GU 28], guard := some (28, false) }
def lt8o_31 : Oper := { dst := some 72, op := Op.move (Operand.tmp 9), type := 27, pos := "outright.go:249", after := #[GU 28], guard := some (28, false) }
def lt8o_32 : Oper := { dst := some 73, op := Op.call { callee := Callee.value (Operand.func 10), args := #[Operand.tmp 72], argTypes := #[27] }, type := 3, pos := "outright.go:249", after := #[DD 31, CH 30, GU 28], guard := some (28, false) }
def lt8o_33 : Oper := { dst := some 74, op := Op.binOp BinOp.neq 3 (Operand.tmp 71) (Operand.tmp 73) 3, type := 4, pos := "outright.go:249", after := #[DD 30, DD 32, GU 28], guard := some (28, false) }
def lt8o_34 : Oper := { dst := some 75, op := Op.pick (Operand.tmp 69) (Operand.const (Value.bool true)) (Operand.tmp 74), type := 4, pos := "outright.go:249", after := #[DD 28, DD 33], guard := none }
def lt8o : Array Oper := #[lt8o_0, lt8o_1, lt8o_2, lt8o_3, lt8o_4, lt8o_5, lt8o_6, lt8o_7, lt8o_8, lt8o_9, lt8o_10, lt8o_11, lt8o_12, lt8o_13, lt8o_14, lt8o_15, lt8o_16, lt8o_17, lt8o_18, lt8o_19, lt8o_20, lt8o_21, lt8o_22, lt8o_23, lt8o_24, lt8o_25, lt8o_26, lt8o_27, lt8o_28, lt8o_29, lt8o_30, lt8o_31, lt8o_32, lt8o_33, lt8o_34]
theorem lt8 (Q : Exit → Act → World → Prop) (s t c0 g v r : Nat) (p0 : Option Addr) (bs : List UInt8) (u0 u1 u2 u3 u4 u5 u6 u7 u8 u13 u14 u15 u16 u17 u18 u19 u20 u21 u22 u23 u24 u25 u26 u27 u28 u29 u30 u31 u32 u33 u34 u35 u36 u37 u38 u39 u40 u41 u42 u43 u44 u45 u46 u47 u48 u49 u50 u51 u52 u53 u54 u55 u56 u57 u58 u59 u60 u61 u62 u63 u64 u65 u66 u67 u68 u69 u70 u71 u72 u73 u74 u75 u76 u77 u78 u79 u80 u81 u82 u83 u84 u85 u86 u87 u88 u89 u90 u91 u92 u93 u94 u95 u96 u97 u98 u99 u100 u101 u102 u103 u104 u105 u106 u107 u108 u109 u110 u111 u112 u113 u114 u115 u116 u117 u118 u119 u120 u121 u122 u123 u124 u125 u126 u127 u128 u129 u130 u131 u132 u133 u134 u135 u136 u137 u138 u139 u140 u141 u142 u143 u144 u145 u146 u147 u148 u149 u150 u151 u152 u153 u154 u155 u156 u157 u158 u159 u160 u161 u162 u163 u164 u165 u166 u167 u168 u169 u170 u171 u172 u173 u174 u175 u176 u177 u178 u179 u180 : Value) (W : World)
  (by0 : By W p0 c0 bs)
  (C8 : Hid (∀ yy, Below W.heap.size W yy → Calls Tryz.prog 6 #[.pointer (some ⟨t, 0, none⟩)] yy fun e w' => ∃ p1 c1, e = .returned (.slice p1 bs.length c1) ∧ By w' p1 c1 bs ∧ Below yy.heap.size yy w'))
  (C16 : Hid (∀ yy, Below W.heap.size W yy → Calls Tryz.prog 8 #[.pointer (some ⟨t, 0, none⟩)] yy fun e w' => e = .returned (.int .i64 (g : Int)) ∧ Below yy.heap.size yy w'))
  (C18 : Hid (∀ yy, Below W.heap.size W yy → Calls Tryz.prog 8 #[.pointer (some ⟨s, 0, none⟩)] yy fun e w' => e = .returned (.int .i64 (g : Int)) ∧ Below yy.heap.size yy w'))
  (C23 : Hid (∀ yy, Below W.heap.size W yy → Calls Tryz.prog 9 #[.pointer (some ⟨t, 0, none⟩)] yy fun e w' => e = .returned (.int .i64 (v : Int)) ∧ Below yy.heap.size yy w'))
  (C25 : Hid (∀ yy, Below W.heap.size W yy → Calls Tryz.prog 9 #[.pointer (some ⟨s, 0, none⟩)] yy fun e w' => e = .returned (.int .i64 (v : Int)) ∧ Below yy.heap.size yy w'))
  (C30 : Hid (∀ yy, Below W.heap.size W yy → Calls Tryz.prog 10 #[.pointer (some ⟨t, 0, none⟩)] yy fun e w' => e = .returned (.int .i64 (r : Int)) ∧ Below yy.heap.size yy w'))
  (C32 : Hid (∀ yy, Below W.heap.size W yy → Calls Tryz.prog 10 #[.pointer (some ⟨s, 0, none⟩)] yy fun e w' => e = .returned (.int .i64 (r : Int)) ∧ Below yy.heap.size yy w'))
  (HQ : Hid (∀ (wz : World) (p1 : Option Addr) (c1 : Nat), Below W.heap.size W wz → Q .normal ⟨#[u0, u1, u2, u3, u4, u5, u6, u7, u8, .pointer (some ⟨s, 0, none⟩), .slice p0 bs.length c0, .pointer (some ⟨t, 0, none⟩), .int .i64 0, u13, u14, u15, u16, u17, u18, u19, u20, u21, u22, u23, u24, u25, u26, u27, u28, u29, u30, u31, u32, u33, u34, u35, u36, u37, u38, u39, u40, .int .i64 0, .bool false, .bool false, .pointer (some ⟨t, 0, none⟩), .bool false, .bool false, .bool false, .pointer (some ⟨t, 0, none⟩), .slice p1 bs.length c1, .string (Tr.sb bs), .slice p0 bs.length c0, .string (Tr.sb bs), .bool false, .bool false, .bool false, .pointer (some ⟨t, 0, none⟩), .int .i64 (g : Int), .pointer (some ⟨s, 0, none⟩), .int .i64 (g : Int), .bool false, .bool false, .bool false, .pointer (some ⟨t, 0, none⟩), .int .i64 (v : Int), .pointer (some ⟨s, 0, none⟩), .int .i64 (v : Int), .bool false, .bool false, .bool false, .pointer (some ⟨t, 0, none⟩), .int .i64 (r : Int), .pointer (some ⟨s, 0, none⟩), .int .i64 (r : Int), .bool false, .bool false, u76, u77, u78, u79, u80, u81, u82, u83, u84, u85, u86, u87, u88, u89, u90, u91, u92, u93, u94, u95, u96, u97, u98, u99, u100, u101, u102, u103, u104, u105, u106, u107, u108, u109, u110, u111, u112, u113, u114, u115, u116, u117, u118, u119, u120, u121, u122, u123, u124, u125, u126, u127, u128, u129, u130, u131, u132, u133, u134, u135, u136, u137, u138, u139, u140, u141, u142, u143, u144, u145, u146, u147, u148, u149, u150, u151, u152, u153, u154, u155, u156, u157, u158, u159, u160, u161, u162, u163, u164, u165, u166, u167, u168, u169, u170, u171, u172, u173, u174, u175, u176, u177, u178, u179, u180], []⟩ wz)) : (Code.region 8 lt8o true).wp Tryz.prog Q ⟨#[u0, u1, u2, u3, u4, u5, u6, u7, u8, .pointer (some ⟨s, 0, none⟩), .slice p0 bs.length c0, .pointer (some ⟨t, 0, none⟩), .int .i64 0, u13, u14, u15, u16, u17, u18, u19, u20, u21, u22, u23, u24, u25, u26, u27, u28, u29, u30, u31, u32, u33, u34, u35, u36, u37, u38, u39, u40, u41, u42, u43, u44, u45, u46, u47, u48, u49, u50, u51, u52, u53, u54, u55, u56, u57, u58, u59, u60, u61, u62, u63, u64, u65, u66, u67, u68, u69, u70, u71, u72, u73, u74, u75, u76, u77, u78, u79, u80, u81, u82, u83, u84, u85, u86, u87, u88, u89, u90, u91, u92, u93, u94, u95, u96, u97, u98, u99, u100, u101, u102, u103, u104, u105, u106, u107, u108, u109, u110, u111, u112, u113, u114, u115, u116, u117, u118, u119, u120, u121, u122, u123, u124, u125, u126, u127, u128, u129, u130, u131, u132, u133, u134, u135, u136, u137, u138, u139, u140, u141, u142, u143, u144, u145, u146, u147, u148, u149, u150, u151, u152, u153, u154, u155, u156, u157, u158, u159, u160, u161, u162, u163, u164, u165, u166, u167, u168, u169, u170, u171, u172, u173, u174, u175, u176, u177, u178, u179, u180], []⟩ W := by
 have BY := hidden (by0.keep (bl_drew W))
 clear by0
 unfold lt8o
 refine wp_region_noPanic ?_
 refine wp_region_held_drew (S := fun x => Below W.heap.size W x) (by kernel_rfl) (bl_drew W) (fun hH0 => ?_)
 refine tj 0 lt8o_0 (.int .i64 0) hH0 (fun w0 hSw => ?_) ?_
 ·(unfold lt8o_0; clear hSw; go_simp)
 simp only [lt8o_0, Act.put, sA, sB, sC]
 refine tj 1 lt8o_1 (.bool false) hH0 (fun w0 hSw => ?_) ?_
 ·(unfold lt8o_1; clear hSw; go_simp)
 simp only [lt8o_1, Act.put, sA, sB, sC]
 refine tj 2 lt8o_2 (.bool false) hH0 (fun w0 hSw => ?_) ?_
 ·(unfold lt8o_2; clear hSw; go_simp)
 simp only [lt8o_2, Act.put, sA, sB, sC]
 refine tj 3 lt8o_3 (.pointer (some ⟨t, 0, none⟩)) hH0 (fun w0 hSw => ?_) ?_
 ·(unfold lt8o_3; clear hSw; go_simp)
 simp only [lt8o_3, Act.put, sA, sB, sC]
 refine tj 4 lt8o_4 (.bool false) hH0 (fun w0 hSw => ?_) ?_
 ·(unfold lt8o_4; clear hSw; go_simp)
 simp only [lt8o_4, Act.put, sA, sB, sC]
 refine tj 5 lt8o_5 (.bool false) hH0 (fun w0 hSw => ?_) ?_
 ·(unfold lt8o_5; clear hSw; go_simp)
 simp only [lt8o_5, Act.put, sA, sB, sC]
 refine tj 6 lt8o_6 (.bool false) hH0 (fun w0 hSw => ?_) ?_
 ·(unfold lt8o_6; clear hSw; go_simp)
 simp only [lt8o_6, Act.put, sA, sB, sC]
 refine tj 7 lt8o_7 (.pointer (some ⟨t, 0, none⟩)) hH0 (fun w0 hSw => ?_) ?_
 ·(unfold lt8o_7; clear hSw; go_simp)
 simp only [lt8o_7, Act.put, sA, sB, sC]
 refine tj 10 lt8o_10 (.slice p0 bs.length c0) hH0 (fun w0 hSw => ?_) ?_
 ·(unfold lt8o_10; clear hSw; go_simp)
 simp only [lt8o_10, Act.put, sA, sB, sC]
 refine wpAnyH_ready (rs := [8, 11]) (by kernel_rfl) (by simp) ?_
 refine AllReadyH.cons (o := lt8o_8) rfl (fun K hK => ?_) (AllReadyH.cons (o := lt8o_11) rfl (fun K hK => ?_) AllReadyH.nil)
 ·unfold lt8o_8
  have HH := hidden hH0
  clear hH0
  go_simp
  refine (C8.out _ HH.out).mono ?_
  rintro e wn1 ⟨p1, c1, rfl, hy, hb⟩
  have SN := hidden (bl_trans HH.out hb)
  replace BY := hidden (BY.out.keep hb)
  have B1 := hidden (hy)
  clear HH C8 hy hb
  go_wp2_with fail
  refine hK.out _ _ SN.out (fun hH1 => ?_)
  clear hK K SN
  refine wpAnyH_ready (rs := [9, 11]) (by kernel_rfl) (by simp) ?_
  refine AllReadyH.cons (o := lt8o_9) rfl (fun K hK => ?_) (AllReadyH.cons (o := lt8o_11) rfl (fun K hK => ?_) AllReadyH.nil)
  ·unfold lt8o_9
   have HH := hidden hH1
   clear hH1
   refine Eq.mpr (if_pos (by exact rfl)) ?_
   refine wp_conv _ rfl rfl B1.out ?_
   simp only [Act.put, sA, sB, sC]
   have SN := HH
   clear HH
   refine hK.out _ _ SN.out (fun hH2 => ?_)
   clear hK K SN
   refine wpAnyH_ready (rs := [11]) (by kernel_rfl) (by simp) ?_
   refine AllReadyH.cons (o := lt8o_11) rfl (fun K hK => ?_) AllReadyH.nil
   unfold lt8o_11
   have HH := hidden hH2
   clear hH2
   refine Eq.mpr (if_pos (by exact rfl)) ?_
   refine wp_conv _ rfl rfl BY.out ?_
   simp only [Act.put, sA, sB, sC]
   have SN := HH
   clear HH
   refine hK.out _ _ SN.out (fun hH3 => ?_)
   clear hK K SN
   refine tj 12 lt8o_12 (.bool false) hH3 (fun w0 hSw => ?_) ?_
   ·(unfold lt8o_12; clear hSw; go_simp)
   simp only [lt8o_12, Act.put, sA, sB, sC]
   refine tj 13 lt8o_13 (.bool false) hH3 (fun w0 hSw => ?_) ?_
   ·(unfold lt8o_13; clear hSw; go_simp)
   simp only [lt8o_13, Act.put, sA, sB, sC]
   refine tj 14 lt8o_14 (.bool false) hH3 (fun w0 hSw => ?_) ?_
   ·(unfold lt8o_14; clear hSw; go_simp)
   simp only [lt8o_14, Act.put, sA, sB, sC]
   refine tj 15 lt8o_15 (.pointer (some ⟨t, 0, none⟩)) hH3 (fun w0 hSw => ?_) ?_
   ·(unfold lt8o_15; clear hSw; go_simp)
   simp only [lt8o_15, Act.put, sA, sB, sC]
   refine tj 17 lt8o_17 (.pointer (some ⟨s, 0, none⟩)) hH3 (fun w0 hSw => ?_) ?_
   ·(unfold lt8o_17; clear hSw; go_simp)
   simp only [lt8o_17, Act.put, sA, sB, sC]
   refine wpAnyH_ready (rs := [16]) (by kernel_rfl) (by simp) ?_
   refine AllReadyH.cons (o := lt8o_16) rfl (fun K hK => ?_) AllReadyH.nil
   unfold lt8o_16
   have HH := hidden hH3
   clear hH3
   go_simp
   refine (C16.out _ HH.out).mono ?_
   rintro e wn4 ⟨rfl, hb⟩
   have SN := hidden (bl_trans HH.out hb)
   clear HH C16 hb
   go_wp2_with fail
   refine hK.out _ _ SN.out (fun hH4 => ?_)
   clear hK K SN
   refine wpAnyH_ready (rs := [18]) (by kernel_rfl) (by simp) ?_
   refine AllReadyH.cons (o := lt8o_18) rfl (fun K hK => ?_) AllReadyH.nil
   unfold lt8o_18
   have HH := hidden hH4
   clear hH4
   go_simp
   refine (C18.out _ HH.out).mono ?_
   rintro e wn5 ⟨rfl, hb⟩
   have SN := hidden (bl_trans HH.out hb)
   clear HH C18 hb
   go_wp2_with fail
   refine hK.out _ _ SN.out (fun hH5 => ?_)
   clear hK K SN
   refine tj 19 lt8o_19 (.bool false) hH5 (fun w0 hSw => ?_) ?_
   ·(unfold lt8o_19; clear hSw; go_simp)
   simp only [lt8o_19, Act.put, sA, sB, sC]
   refine tj 20 lt8o_20 (.bool false) hH5 (fun w0 hSw => ?_) ?_
   ·(unfold lt8o_20; clear hSw; go_simp)
   simp only [lt8o_20, Act.put, sA, sB, sC]
   refine tj 21 lt8o_21 (.bool false) hH5 (fun w0 hSw => ?_) ?_
   ·(unfold lt8o_21; clear hSw; go_simp)
   simp only [lt8o_21, Act.put, sA, sB, sC]
   refine tj 22 lt8o_22 (.pointer (some ⟨t, 0, none⟩)) hH5 (fun w0 hSw => ?_) ?_
   ·(unfold lt8o_22; clear hSw; go_simp)
   simp only [lt8o_22, Act.put, sA, sB, sC]
   refine tj 24 lt8o_24 (.pointer (some ⟨s, 0, none⟩)) hH5 (fun w0 hSw => ?_) ?_
   ·(unfold lt8o_24; clear hSw; go_simp)
   simp only [lt8o_24, Act.put, sA, sB, sC]
   refine wpAnyH_ready (rs := [23]) (by kernel_rfl) (by simp) ?_
   refine AllReadyH.cons (o := lt8o_23) rfl (fun K hK => ?_) AllReadyH.nil
   unfold lt8o_23
   have HH := hidden hH5
   clear hH5
   go_simp
   refine (C23.out _ HH.out).mono ?_
   rintro e wn6 ⟨rfl, hb⟩
   have SN := hidden (bl_trans HH.out hb)
   clear HH C23 hb
   go_wp2_with fail
   refine hK.out _ _ SN.out (fun hH6 => ?_)
   clear hK K SN
   refine wpAnyH_ready (rs := [25]) (by kernel_rfl) (by simp) ?_
   refine AllReadyH.cons (o := lt8o_25) rfl (fun K hK => ?_) AllReadyH.nil
   unfold lt8o_25
   have HH := hidden hH6
   clear hH6
   go_simp
   refine (C25.out _ HH.out).mono ?_
   rintro e wn7 ⟨rfl, hb⟩
   have SN := hidden (bl_trans HH.out hb)
   clear HH C25 hb
   go_wp2_with fail
   refine hK.out _ _ SN.out (fun hH7 => ?_)
   clear hK K SN
   refine tj 26 lt8o_26 (.bool false) hH7 (fun w0 hSw => ?_) ?_
   ·(unfold lt8o_26; clear hSw; go_simp)
   simp only [lt8o_26, Act.put, sA, sB, sC]
   refine tj 27 lt8o_27 (.bool false) hH7 (fun w0 hSw => ?_) ?_
   ·(unfold lt8o_27; clear hSw; go_simp)
   simp only [lt8o_27, Act.put, sA, sB, sC]
   refine tj 28 lt8o_28 (.bool false) hH7 (fun w0 hSw => ?_) ?_
   ·(unfold lt8o_28; clear hSw; go_simp)
   simp only [lt8o_28, Act.put, sA, sB, sC]
   refine tj 29 lt8o_29 (.pointer (some ⟨t, 0, none⟩)) hH7 (fun w0 hSw => ?_) ?_
   ·(unfold lt8o_29; clear hSw; go_simp)
   simp only [lt8o_29, Act.put, sA, sB, sC]
   refine tj 31 lt8o_31 (.pointer (some ⟨s, 0, none⟩)) hH7 (fun w0 hSw => ?_) ?_
   ·(unfold lt8o_31; clear hSw; go_simp)
   simp only [lt8o_31, Act.put, sA, sB, sC]
   refine wpAnyH_ready (rs := [30]) (by kernel_rfl) (by simp) ?_
   refine AllReadyH.cons (o := lt8o_30) rfl (fun K hK => ?_) AllReadyH.nil
   unfold lt8o_30
   have HH := hidden hH7
   clear hH7
   go_simp
   refine (C30.out _ HH.out).mono ?_
   rintro e wn8 ⟨rfl, hb⟩
   have SN := hidden (bl_trans HH.out hb)
   clear HH C30 hb
   go_wp2_with fail
   refine hK.out _ _ SN.out (fun hH8 => ?_)
   clear hK K SN
   refine wpAnyH_ready (rs := [32]) (by kernel_rfl) (by simp) ?_
   refine AllReadyH.cons (o := lt8o_32) rfl (fun K hK => ?_) AllReadyH.nil
   unfold lt8o_32
   have HH := hidden hH8
   clear hH8
   go_simp
   refine (C32.out _ HH.out).mono ?_
   rintro e wn9 ⟨rfl, hb⟩
   have SN := hidden (bl_trans HH.out hb)
   clear HH C32 hb
   go_wp2_with fail
   refine hK.out _ _ SN.out (fun hH9 => ?_)
   clear hK K SN
   refine tj 33 lt8o_33 (.bool false) hH9 (fun w0 hSw => ?_) ?_
   ·(unfold lt8o_33; clear hSw; go_simp)
   simp only [lt8o_33, Act.put, sA, sB, sC]
   refine tj 34 lt8o_34 (.bool false) hH9 (fun w0 hSw => ?_) ?_
   ·(unfold lt8o_34; clear hSw; go_simp)
   simp only [lt8o_34, Act.put, sA, sB, sC]
   have HH := hidden hH9
   have FQ := hidden (HQ.out _ p1 c1 HH.out)
   refine wpAnyH_done (by kernel_rfl) ?_ _
   refine NoPanic.normal ?_
   exact FQ.out
  ·unfold lt8o_11
   have HH := hidden hH1
   clear hH1
   refine Eq.mpr (if_pos (by exact rfl)) ?_
   refine wp_conv _ rfl rfl BY.out ?_
   simp only [Act.put, sA, sB, sC]
   have SN := HH
   clear HH
   refine hK.out _ _ SN.out (fun hH2 => ?_)
   clear hK K SN
   refine wpAnyH_ready (rs := [9]) (by kernel_rfl) (by simp) ?_
   refine AllReadyH.cons (o := lt8o_9) rfl (fun K hK => ?_) AllReadyH.nil
   unfold lt8o_9
   have HH := hidden hH2
   clear hH2
   refine Eq.mpr (if_pos (by exact rfl)) ?_
   refine wp_conv _ rfl rfl B1.out ?_
   simp only [Act.put, sA, sB, sC]
   have SN := HH
   clear HH
   refine hK.out _ _ SN.out (fun hH3 => ?_)
   clear hK K SN
   refine tj 12 lt8o_12 (.bool false) hH3 (fun w0 hSw => ?_) ?_
   ·(unfold lt8o_12; clear hSw; go_simp)
   simp only [lt8o_12, Act.put, sA, sB, sC]
   refine tj 13 lt8o_13 (.bool false) hH3 (fun w0 hSw => ?_) ?_
   ·(unfold lt8o_13; clear hSw; go_simp)
   simp only [lt8o_13, Act.put, sA, sB, sC]
   refine tj 14 lt8o_14 (.bool false) hH3 (fun w0 hSw => ?_) ?_
   ·(unfold lt8o_14; clear hSw; go_simp)
   simp only [lt8o_14, Act.put, sA, sB, sC]
   refine tj 15 lt8o_15 (.pointer (some ⟨t, 0, none⟩)) hH3 (fun w0 hSw => ?_) ?_
   ·(unfold lt8o_15; clear hSw; go_simp)
   simp only [lt8o_15, Act.put, sA, sB, sC]
   refine tj 17 lt8o_17 (.pointer (some ⟨s, 0, none⟩)) hH3 (fun w0 hSw => ?_) ?_
   ·(unfold lt8o_17; clear hSw; go_simp)
   simp only [lt8o_17, Act.put, sA, sB, sC]
   refine wpAnyH_ready (rs := [16]) (by kernel_rfl) (by simp) ?_
   refine AllReadyH.cons (o := lt8o_16) rfl (fun K hK => ?_) AllReadyH.nil
   unfold lt8o_16
   have HH := hidden hH3
   clear hH3
   go_simp
   refine (C16.out _ HH.out).mono ?_
   rintro e wn4 ⟨rfl, hb⟩
   have SN := hidden (bl_trans HH.out hb)
   clear HH C16 hb
   go_wp2_with fail
   refine hK.out _ _ SN.out (fun hH4 => ?_)
   clear hK K SN
   refine wpAnyH_ready (rs := [18]) (by kernel_rfl) (by simp) ?_
   refine AllReadyH.cons (o := lt8o_18) rfl (fun K hK => ?_) AllReadyH.nil
   unfold lt8o_18
   have HH := hidden hH4
   clear hH4
   go_simp
   refine (C18.out _ HH.out).mono ?_
   rintro e wn5 ⟨rfl, hb⟩
   have SN := hidden (bl_trans HH.out hb)
   clear HH C18 hb
   go_wp2_with fail
   refine hK.out _ _ SN.out (fun hH5 => ?_)
   clear hK K SN
   refine tj 19 lt8o_19 (.bool false) hH5 (fun w0 hSw => ?_) ?_
   ·(unfold lt8o_19; clear hSw; go_simp)
   simp only [lt8o_19, Act.put, sA, sB, sC]
   refine tj 20 lt8o_20 (.bool false) hH5 (fun w0 hSw => ?_) ?_
   ·(unfold lt8o_20; clear hSw; go_simp)
   simp only [lt8o_20, Act.put, sA, sB, sC]
   refine tj 21 lt8o_21 (.bool false) hH5 (fun w0 hSw => ?_) ?_
   ·(unfold lt8o_21; clear hSw; go_simp)
   simp only [lt8o_21, Act.put, sA, sB, sC]
   refine tj 22 lt8o_22 (.pointer (some ⟨t, 0, none⟩)) hH5 (fun w0 hSw => ?_) ?_
   ·(unfold lt8o_22; clear hSw; go_simp)
   simp only [lt8o_22, Act.put, sA, sB, sC]
   refine tj 24 lt8o_24 (.pointer (some ⟨s, 0, none⟩)) hH5 (fun w0 hSw => ?_) ?_
   ·(unfold lt8o_24; clear hSw; go_simp)
   simp only [lt8o_24, Act.put, sA, sB, sC]
   refine wpAnyH_ready (rs := [23]) (by kernel_rfl) (by simp) ?_
   refine AllReadyH.cons (o := lt8o_23) rfl (fun K hK => ?_) AllReadyH.nil
   unfold lt8o_23
   have HH := hidden hH5
   clear hH5
   go_simp
   refine (C23.out _ HH.out).mono ?_
   rintro e wn6 ⟨rfl, hb⟩
   have SN := hidden (bl_trans HH.out hb)
   clear HH C23 hb
   go_wp2_with fail
   refine hK.out _ _ SN.out (fun hH6 => ?_)
   clear hK K SN
   refine wpAnyH_ready (rs := [25]) (by kernel_rfl) (by simp) ?_
   refine AllReadyH.cons (o := lt8o_25) rfl (fun K hK => ?_) AllReadyH.nil
   unfold lt8o_25
   have HH := hidden hH6
   clear hH6
   go_simp
   refine (C25.out _ HH.out).mono ?_
   rintro e wn7 ⟨rfl, hb⟩
   have SN := hidden (bl_trans HH.out hb)
   clear HH C25 hb
   go_wp2_with fail
   refine hK.out _ _ SN.out (fun hH7 => ?_)
   clear hK K SN
   refine tj 26 lt8o_26 (.bool false) hH7 (fun w0 hSw => ?_) ?_
   ·(unfold lt8o_26; clear hSw; go_simp)
   simp only [lt8o_26, Act.put, sA, sB, sC]
   refine tj 27 lt8o_27 (.bool false) hH7 (fun w0 hSw => ?_) ?_
   ·(unfold lt8o_27; clear hSw; go_simp)
   simp only [lt8o_27, Act.put, sA, sB, sC]
   refine tj 28 lt8o_28 (.bool false) hH7 (fun w0 hSw => ?_) ?_
   ·(unfold lt8o_28; clear hSw; go_simp)
   simp only [lt8o_28, Act.put, sA, sB, sC]
   refine tj 29 lt8o_29 (.pointer (some ⟨t, 0, none⟩)) hH7 (fun w0 hSw => ?_) ?_
   ·(unfold lt8o_29; clear hSw; go_simp)
   simp only [lt8o_29, Act.put, sA, sB, sC]
   refine tj 31 lt8o_31 (.pointer (some ⟨s, 0, none⟩)) hH7 (fun w0 hSw => ?_) ?_
   ·(unfold lt8o_31; clear hSw; go_simp)
   simp only [lt8o_31, Act.put, sA, sB, sC]
   refine wpAnyH_ready (rs := [30]) (by kernel_rfl) (by simp) ?_
   refine AllReadyH.cons (o := lt8o_30) rfl (fun K hK => ?_) AllReadyH.nil
   unfold lt8o_30
   have HH := hidden hH7
   clear hH7
   go_simp
   refine (C30.out _ HH.out).mono ?_
   rintro e wn8 ⟨rfl, hb⟩
   have SN := hidden (bl_trans HH.out hb)
   clear HH C30 hb
   go_wp2_with fail
   refine hK.out _ _ SN.out (fun hH8 => ?_)
   clear hK K SN
   refine wpAnyH_ready (rs := [32]) (by kernel_rfl) (by simp) ?_
   refine AllReadyH.cons (o := lt8o_32) rfl (fun K hK => ?_) AllReadyH.nil
   unfold lt8o_32
   have HH := hidden hH8
   clear hH8
   go_simp
   refine (C32.out _ HH.out).mono ?_
   rintro e wn9 ⟨rfl, hb⟩
   have SN := hidden (bl_trans HH.out hb)
   clear HH C32 hb
   go_wp2_with fail
   refine hK.out _ _ SN.out (fun hH9 => ?_)
   clear hK K SN
   refine tj 33 lt8o_33 (.bool false) hH9 (fun w0 hSw => ?_) ?_
   ·(unfold lt8o_33; clear hSw; go_simp)
   simp only [lt8o_33, Act.put, sA, sB, sC]
   refine tj 34 lt8o_34 (.bool false) hH9 (fun w0 hSw => ?_) ?_
   ·(unfold lt8o_34; clear hSw; go_simp)
   simp only [lt8o_34, Act.put, sA, sB, sC]
   have HH := hidden hH9
   have FQ := hidden (HQ.out _ p1 c1 HH.out)
   refine wpAnyH_done (by kernel_rfl) ?_ _
   refine NoPanic.normal ?_
   exact FQ.out
 ·unfold lt8o_11
  have HH := hidden hH0
  clear hH0
  refine Eq.mpr (if_pos (by exact rfl)) ?_
  refine wp_conv _ rfl rfl BY.out ?_
  simp only [Act.put, sA, sB, sC]
  have SN := HH
  clear HH
  refine hK.out _ _ SN.out (fun hH1 => ?_)
  clear hK K SN
  refine wpAnyH_ready (rs := [8]) (by kernel_rfl) (by simp) ?_
  refine AllReadyH.cons (o := lt8o_8) rfl (fun K hK => ?_) AllReadyH.nil
  unfold lt8o_8
  have HH := hidden hH1
  clear hH1
  go_simp
  refine (C8.out _ HH.out).mono ?_
  rintro e wn2 ⟨p1, c1, rfl, hy, hb⟩
  have SN := hidden (bl_trans HH.out hb)
  replace BY := hidden (BY.out.keep hb)
  have B1 := hidden (hy)
  clear HH C8 hy hb
  go_wp2_with fail
  refine hK.out _ _ SN.out (fun hH2 => ?_)
  clear hK K SN
  refine wpAnyH_ready (rs := [9]) (by kernel_rfl) (by simp) ?_
  refine AllReadyH.cons (o := lt8o_9) rfl (fun K hK => ?_) AllReadyH.nil
  unfold lt8o_9
  have HH := hidden hH2
  clear hH2
  refine Eq.mpr (if_pos (by exact rfl)) ?_
  refine wp_conv _ rfl rfl B1.out ?_
  simp only [Act.put, sA, sB, sC]
  have SN := HH
  clear HH
  refine hK.out _ _ SN.out (fun hH3 => ?_)
  clear hK K SN
  refine tj 12 lt8o_12 (.bool false) hH3 (fun w0 hSw => ?_) ?_
  ·(unfold lt8o_12; clear hSw; go_simp)
  simp only [lt8o_12, Act.put, sA, sB, sC]
  refine tj 13 lt8o_13 (.bool false) hH3 (fun w0 hSw => ?_) ?_
  ·(unfold lt8o_13; clear hSw; go_simp)
  simp only [lt8o_13, Act.put, sA, sB, sC]
  refine tj 14 lt8o_14 (.bool false) hH3 (fun w0 hSw => ?_) ?_
  ·(unfold lt8o_14; clear hSw; go_simp)
  simp only [lt8o_14, Act.put, sA, sB, sC]
  refine tj 15 lt8o_15 (.pointer (some ⟨t, 0, none⟩)) hH3 (fun w0 hSw => ?_) ?_
  ·(unfold lt8o_15; clear hSw; go_simp)
  simp only [lt8o_15, Act.put, sA, sB, sC]
  refine tj 17 lt8o_17 (.pointer (some ⟨s, 0, none⟩)) hH3 (fun w0 hSw => ?_) ?_
  ·(unfold lt8o_17; clear hSw; go_simp)
  simp only [lt8o_17, Act.put, sA, sB, sC]
  refine wpAnyH_ready (rs := [16]) (by kernel_rfl) (by simp) ?_
  refine AllReadyH.cons (o := lt8o_16) rfl (fun K hK => ?_) AllReadyH.nil
  unfold lt8o_16
  have HH := hidden hH3
  clear hH3
  go_simp
  refine (C16.out _ HH.out).mono ?_
  rintro e wn4 ⟨rfl, hb⟩
  have SN := hidden (bl_trans HH.out hb)
  clear HH C16 hb
  go_wp2_with fail
  refine hK.out _ _ SN.out (fun hH4 => ?_)
  clear hK K SN
  refine wpAnyH_ready (rs := [18]) (by kernel_rfl) (by simp) ?_
  refine AllReadyH.cons (o := lt8o_18) rfl (fun K hK => ?_) AllReadyH.nil
  unfold lt8o_18
  have HH := hidden hH4
  clear hH4
  go_simp
  refine (C18.out _ HH.out).mono ?_
  rintro e wn5 ⟨rfl, hb⟩
  have SN := hidden (bl_trans HH.out hb)
  clear HH C18 hb
  go_wp2_with fail
  refine hK.out _ _ SN.out (fun hH5 => ?_)
  clear hK K SN
  refine tj 19 lt8o_19 (.bool false) hH5 (fun w0 hSw => ?_) ?_
  ·(unfold lt8o_19; clear hSw; go_simp)
  simp only [lt8o_19, Act.put, sA, sB, sC]
  refine tj 20 lt8o_20 (.bool false) hH5 (fun w0 hSw => ?_) ?_
  ·(unfold lt8o_20; clear hSw; go_simp)
  simp only [lt8o_20, Act.put, sA, sB, sC]
  refine tj 21 lt8o_21 (.bool false) hH5 (fun w0 hSw => ?_) ?_
  ·(unfold lt8o_21; clear hSw; go_simp)
  simp only [lt8o_21, Act.put, sA, sB, sC]
  refine tj 22 lt8o_22 (.pointer (some ⟨t, 0, none⟩)) hH5 (fun w0 hSw => ?_) ?_
  ·(unfold lt8o_22; clear hSw; go_simp)
  simp only [lt8o_22, Act.put, sA, sB, sC]
  refine tj 24 lt8o_24 (.pointer (some ⟨s, 0, none⟩)) hH5 (fun w0 hSw => ?_) ?_
  ·(unfold lt8o_24; clear hSw; go_simp)
  simp only [lt8o_24, Act.put, sA, sB, sC]
  refine wpAnyH_ready (rs := [23]) (by kernel_rfl) (by simp) ?_
  refine AllReadyH.cons (o := lt8o_23) rfl (fun K hK => ?_) AllReadyH.nil
  unfold lt8o_23
  have HH := hidden hH5
  clear hH5
  go_simp
  refine (C23.out _ HH.out).mono ?_
  rintro e wn6 ⟨rfl, hb⟩
  have SN := hidden (bl_trans HH.out hb)
  clear HH C23 hb
  go_wp2_with fail
  refine hK.out _ _ SN.out (fun hH6 => ?_)
  clear hK K SN
  refine wpAnyH_ready (rs := [25]) (by kernel_rfl) (by simp) ?_
  refine AllReadyH.cons (o := lt8o_25) rfl (fun K hK => ?_) AllReadyH.nil
  unfold lt8o_25
  have HH := hidden hH6
  clear hH6
  go_simp
  refine (C25.out _ HH.out).mono ?_
  rintro e wn7 ⟨rfl, hb⟩
  have SN := hidden (bl_trans HH.out hb)
  clear HH C25 hb
  go_wp2_with fail
  refine hK.out _ _ SN.out (fun hH7 => ?_)
  clear hK K SN
  refine tj 26 lt8o_26 (.bool false) hH7 (fun w0 hSw => ?_) ?_
  ·(unfold lt8o_26; clear hSw; go_simp)
  simp only [lt8o_26, Act.put, sA, sB, sC]
  refine tj 27 lt8o_27 (.bool false) hH7 (fun w0 hSw => ?_) ?_
  ·(unfold lt8o_27; clear hSw; go_simp)
  simp only [lt8o_27, Act.put, sA, sB, sC]
  refine tj 28 lt8o_28 (.bool false) hH7 (fun w0 hSw => ?_) ?_
  ·(unfold lt8o_28; clear hSw; go_simp)
  simp only [lt8o_28, Act.put, sA, sB, sC]
  refine tj 29 lt8o_29 (.pointer (some ⟨t, 0, none⟩)) hH7 (fun w0 hSw => ?_) ?_
  ·(unfold lt8o_29; clear hSw; go_simp)
  simp only [lt8o_29, Act.put, sA, sB, sC]
  refine tj 31 lt8o_31 (.pointer (some ⟨s, 0, none⟩)) hH7 (fun w0 hSw => ?_) ?_
  ·(unfold lt8o_31; clear hSw; go_simp)
  simp only [lt8o_31, Act.put, sA, sB, sC]
  refine wpAnyH_ready (rs := [30]) (by kernel_rfl) (by simp) ?_
  refine AllReadyH.cons (o := lt8o_30) rfl (fun K hK => ?_) AllReadyH.nil
  unfold lt8o_30
  have HH := hidden hH7
  clear hH7
  go_simp
  refine (C30.out _ HH.out).mono ?_
  rintro e wn8 ⟨rfl, hb⟩
  have SN := hidden (bl_trans HH.out hb)
  clear HH C30 hb
  go_wp2_with fail
  refine hK.out _ _ SN.out (fun hH8 => ?_)
  clear hK K SN
  refine wpAnyH_ready (rs := [32]) (by kernel_rfl) (by simp) ?_
  refine AllReadyH.cons (o := lt8o_32) rfl (fun K hK => ?_) AllReadyH.nil
  unfold lt8o_32
  have HH := hidden hH8
  clear hH8
  go_simp
  refine (C32.out _ HH.out).mono ?_
  rintro e wn9 ⟨rfl, hb⟩
  have SN := hidden (bl_trans HH.out hb)
  clear HH C32 hb
  go_wp2_with fail
  refine hK.out _ _ SN.out (fun hH9 => ?_)
  clear hK K SN
  refine tj 33 lt8o_33 (.bool false) hH9 (fun w0 hSw => ?_) ?_
  ·(unfold lt8o_33; clear hSw; go_simp)
  simp only [lt8o_33, Act.put, sA, sB, sC]
  refine tj 34 lt8o_34 (.bool false) hH9 (fun w0 hSw => ?_) ?_
  ·(unfold lt8o_34; clear hSw; go_simp)
  simp only [lt8o_34, Act.put, sA, sB, sC]
  have HH := hidden hH9
  have FQ := hidden (HQ.out _ p1 c1 HH.out)
  refine wpAnyH_done (by kernel_rfl) ?_ _
  refine NoPanic.normal ?_
  exact FQ.out
def lt22o_0 : Oper := { dst := some 141, op := Op.move (Operand.tmp 18), type := 30, pos := "outright.go:265", after := #[], guard := none }
def lt22o_1 : Oper := { dst := some 142, op := Op.move (Operand.tmp 19), type := 30, pos := "outright.go:265", after := #[], guard := none }
def lt22o_2 : Oper := { dst := some 143, op := Op.binOp BinOp.neq 30 (Operand.tmp 141) (Operand.tmp 142) 30, type := 4, pos := "outright.go:265", after := #[DD 0, DD 1], guard := none }
def lt22o_3 : Oper := { dst := some 144, op := Op.move (Operand.tmp 143), type := 4, pos := "outright.go:265", after := #[DD 2], guard := none }
def lt22o_4 : Oper := { dst := some 145, op := Op.load 39 (Operand.tmp 20), type := 39, pos := "outright.go:265", after := #[GU 3], guard := some (3, false) }
def lt22o_5 : Oper := { dst := some 146, op := Op.load 39 (Operand.tmp 23), type := 39, pos := "outright.go:265", after := #[GU 3], guard := some (3, false) }
def lt22o_6 : Oper := { dst := some 147, op := Op.binOp BinOp.neq 39 (Operand.tmp 145) (Operand.tmp 146) 39, type := 4, pos := "outright.go:265", after := #[DD 4, DD 5, GU 3], guard := some (3, false) }
def lt22o_7 : Oper := { dst := some 148, op := Op.pick (Operand.tmp 144) (Operand.const (Value.bool true)) (Operand.tmp 147), type := 4, pos := "outright.go:265", after := #[DD 3, DD 6], guard := none }
def lt22o_8 : Oper := { dst := some 149, op := Op.move (Operand.tmp 148), type := 4, pos := "outright.go:265", after := #[DD 7, CH 3], guard := none }
def lt22o_9 : Oper := { dst := some 150, op := Op.move (Operand.tmp 9), type := 27, pos := "outright.go:265", after := #[GU 8], guard := some (8, false) }
def lt22o_10 : Oper := { dst := some 151, op := Op.call { callee := Callee.value (Operand.func 6), args := #[Operand.tmp 150], argTypes := #[27] }, type := 23, pos := "outright.go:265", after := #[DD 9, CH 8, GU 8], guard := some (8, false) }
def lt22o_11 : Oper := { dst := some 152, op := Op.convert 23 9 (Operand.tmp 151), type := 9, pos := "outright.go:265", after := #[DD 10, GU 8], guard := some (8, false) }
def lt22o_12 : Oper := { dst := some 153, op := Op.move (Operand.tmp 11), type := 27, pos := "outright.go:265", after := #[GU 8], guard := some (8, false) }
def lt22o_13 : Oper := { dst := some 154, op := Op.call { callee := Callee.value (Operand.func 6), args := #[Operand.tmp 153], argTypes := #[27] }, type := 23, pos := "outright.go:265", after := #[DD 12, CH 10, GU 8], guard := some (8, false) }
def lt22o_14 : Oper := { dst := some 155, op := Op.convert 23 9 (Operand.tmp 154), type := 9, pos := "outright.go:265", after := #[DD 13, GU 8], guard := some (8, false) }
def lt22o_15 : Oper := { dst := some 156, op := Op.binOp BinOp.neq 9 (Operand.tmp 152) (Operand.tmp 155) 9, type := 4, pos := "outright.go:265", after := #[DD 11, DD 14, GU 8], guard := some (8, false) }
def lt22o_16 : Oper := { dst := some 157, op := Op.pick (Operand.tmp 149) (Operand.const (Value.bool true)) (Operand.tmp 156), type := 4, pos := "outright.go:265", after := #[DD 8, DD 15], guard := none }
def lt22o : Array Oper := #[lt22o_0, lt22o_1, lt22o_2, lt22o_3, lt22o_4, lt22o_5, lt22o_6, lt22o_7, lt22o_8, lt22o_9, lt22o_10, lt22o_11, lt22o_12, lt22o_13, lt22o_14, lt22o_15, lt22o_16]
theorem lt22 (Q : Exit → Act → World → Prop) (s t A0 A1 : Nat) (f : Int) (q : Wr) (bs : List UInt8) (u0 u1 u2 u3 u4 u5 u6 u7 u8 u10 u12 u13 u14 u15 u16 u17 u21 u22 u24 u25 u26 u27 u28 u29 u30 u31 u32 u33 u34 u35 u36 u37 u38 u39 u40 u41 u42 u43 u44 u45 u46 u47 u48 u49 u50 u51 u52 u53 u54 u55 u56 u57 u58 u59 u60 u61 u62 u63 u64 u65 u66 u67 u68 u69 u70 u71 u72 u73 u74 u75 u76 u77 u78 u79 u80 u81 u82 u83 u84 u85 u86 u87 u88 u89 u90 u91 u92 u93 u94 u95 u96 u97 u98 u99 u100 u101 u102 u103 u104 u105 u106 u107 u108 u109 u110 u111 u112 u113 u114 u115 u116 u117 u118 u119 u120 u121 u122 u123 u124 u125 u126 u127 u128 u129 u130 u131 u132 u133 u134 u135 u136 u137 u138 u139 u140 u141 u142 u143 u144 u145 u146 u147 u148 u149 u150 u151 u152 u153 u154 u155 u156 u157 u158 u159 u160 u161 u162 u163 u164 u165 u166 u167 u168 u169 u170 u171 u172 u173 u174 u175 u176 u177 u178 u179 u180 : Value) (W : World)
  (q0 : W.cell? ⟨A0, 0, none⟩ = some (.int .i64 q.1)) (q1 : W.cell? ⟨A0, 1, none⟩ = some (.int .i64 q.2)) (r0 : W.cell? ⟨A1, 0, none⟩ = some (.int .i64 q.1)) (r1 : W.cell? ⟨A1, 1, none⟩ = some (.int .i64 q.2)) (EQ : Hid (∀ y, (Op.equalIn 10000 39 (.agg #[.int .i64 q.1, .int .i64 q.2]) (.agg #[.int .i64 q.1, .int .i64 q.2])).run Tryz.prog y = .ok true y))
  (C10 : Hid (∀ yy, Below W.heap.size W yy → Calls Tryz.prog 6 #[.pointer (some ⟨s, 0, none⟩)] yy fun e w' => ∃ p1 c1, e = .returned (.slice p1 bs.length c1) ∧ By w' p1 c1 bs ∧ Below yy.heap.size yy w'))
  (C13 : Hid (∀ yy, Below W.heap.size W yy → Calls Tryz.prog 6 #[.pointer (some ⟨t, 0, none⟩)] yy fun e w' => ∃ p1 c1, e = .returned (.slice p1 bs.length c1) ∧ By w' p1 c1 bs ∧ Below yy.heap.size yy w'))
  (HQ : Hid (∀ (wz : World) (p1 : Option Addr) (c1 : Nat) (p2 : Option Addr) (c2 : Nat), Below W.heap.size W wz → Q .normal ⟨#[u0, u1, u2, u3, u4, u5, u6, u7, u8, .pointer (some ⟨s, 0, none⟩), u10, .pointer (some ⟨t, 0, none⟩), u12, u13, u14, u15, u16, u17, .int .i64 f, .int .i64 f, .pointer (some ⟨A0, 0, none⟩), u21, u22, .pointer (some ⟨A1, 0, none⟩), u24, u25, u26, u27, u28, u29, u30, u31, u32, u33, u34, u35, u36, u37, u38, u39, u40, u41, u42, u43, u44, u45, u46, u47, u48, u49, u50, u51, u52, u53, u54, u55, u56, u57, u58, u59, u60, u61, u62, u63, u64, u65, u66, u67, u68, u69, u70, u71, u72, u73, u74, u75, u76, u77, u78, u79, u80, u81, u82, u83, u84, u85, u86, u87, u88, u89, u90, u91, u92, u93, u94, u95, u96, u97, u98, u99, u100, u101, u102, u103, u104, u105, u106, u107, u108, u109, u110, u111, u112, u113, u114, u115, u116, u117, u118, u119, u120, u121, u122, u123, u124, u125, u126, u127, u128, u129, u130, u131, u132, u133, u134, u135, u136, u137, u138, u139, u140, .int .i64 f, .int .i64 f, .bool false, .bool false, .agg #[.int .i64 q.1, .int .i64 q.2], .agg #[.int .i64 q.1, .int .i64 q.2], .bool false, .bool false, .bool false, .pointer (some ⟨s, 0, none⟩), .slice p1 bs.length c1, .string (Tr.sb bs), .pointer (some ⟨t, 0, none⟩), .slice p2 bs.length c2, .string (Tr.sb bs), .bool false, .bool false, u158, u159, u160, u161, u162, u163, u164, u165, u166, u167, u168, u169, u170, u171, u172, u173, u174, u175, u176, u177, u178, u179, u180], []⟩ wz)) : (Code.region 22 lt22o true).wp Tryz.prog Q ⟨#[u0, u1, u2, u3, u4, u5, u6, u7, u8, .pointer (some ⟨s, 0, none⟩), u10, .pointer (some ⟨t, 0, none⟩), u12, u13, u14, u15, u16, u17, .int .i64 f, .int .i64 f, .pointer (some ⟨A0, 0, none⟩), u21, u22, .pointer (some ⟨A1, 0, none⟩), u24, u25, u26, u27, u28, u29, u30, u31, u32, u33, u34, u35, u36, u37, u38, u39, u40, u41, u42, u43, u44, u45, u46, u47, u48, u49, u50, u51, u52, u53, u54, u55, u56, u57, u58, u59, u60, u61, u62, u63, u64, u65, u66, u67, u68, u69, u70, u71, u72, u73, u74, u75, u76, u77, u78, u79, u80, u81, u82, u83, u84, u85, u86, u87, u88, u89, u90, u91, u92, u93, u94, u95, u96, u97, u98, u99, u100, u101, u102, u103, u104, u105, u106, u107, u108, u109, u110, u111, u112, u113, u114, u115, u116, u117, u118, u119, u120, u121, u122, u123, u124, u125, u126, u127, u128, u129, u130, u131, u132, u133, u134, u135, u136, u137, u138, u139, u140, u141, u142, u143, u144, u145, u146, u147, u148, u149, u150, u151, u152, u153, u154, u155, u156, u157, u158, u159, u160, u161, u162, u163, u164, u165, u166, u167, u168, u169, u170, u171, u172, u173, u174, u175, u176, u177, u178, u179, u180], []⟩ W := by
 unfold lt22o
 refine wp_region_noPanic ?_
 refine wp_region_held_drew (S := fun x => Below W.heap.size W x) (by kernel_rfl) (bl_drew W) (fun hH0 => ?_)
 refine tj 0 lt22o_0 (.int .i64 f) hH0 (fun w0 hSw => ?_) ?_
 ·(unfold lt22o_0; clear hSw; go_simp)
 simp only [lt22o_0, Act.put, sA, sB, sC]
 refine tj 1 lt22o_1 (.int .i64 f) hH0 (fun w0 hSw => ?_) ?_
 ·(unfold lt22o_1; clear hSw; go_simp)
 simp only [lt22o_1, Act.put, sA, sB, sC]
 refine tj 2 lt22o_2 (.bool false) hH0 (fun w0 hSw => ?_) ?_
 ·(unfold lt22o_2; clear hSw; go_simp)
 simp only [lt22o_2, Act.put, sA, sB, sC]
 refine tj 3 lt22o_3 (.bool false) hH0 (fun w0 hSw => ?_) ?_
 ·(unfold lt22o_3; clear hSw; go_simp)
 simp only [lt22o_3, Act.put, sA, sB, sC]
 refine tj 4 lt22o_4 (.agg #[.int .i64 q.1, .int .i64 q.2]) hH0 (fun w0 hSw => ?_) ?_
 ·(unfold lt22o_4; have hS : Below W.heap.size W w0 := hSw; have a0 := cell_keep q0 hS; have a1 := cell_keep q1 hS; clear hS hSw; go_simp)
 simp only [lt22o_4, Act.put, sA, sB, sC]
 refine tj 5 lt22o_5 (.agg #[.int .i64 q.1, .int .i64 q.2]) hH0 (fun w0 hSw => ?_) ?_
 ·(unfold lt22o_5; have hS : Below W.heap.size W w0 := hSw; have a0 := cell_keep r0 hS; have a1 := cell_keep r1 hS; clear hS hSw; go_simp)
 simp only [lt22o_5, Act.put, sA, sB, sC]
 refine tj 6 lt22o_6 (.bool false) hH0 (fun w0 hSw => ?_) ?_
 ·(unfold lt22o_6; clear hSw; have eqq := EQ.out; go_simp)
 simp only [lt22o_6, Act.put, sA, sB, sC]
 refine tj 7 lt22o_7 (.bool false) hH0 (fun w0 hSw => ?_) ?_
 ·(unfold lt22o_7; clear hSw; go_simp)
 simp only [lt22o_7, Act.put, sA, sB, sC]
 refine tj 8 lt22o_8 (.bool false) hH0 (fun w0 hSw => ?_) ?_
 ·(unfold lt22o_8; clear hSw; go_simp)
 simp only [lt22o_8, Act.put, sA, sB, sC]
 refine tj 9 lt22o_9 (.pointer (some ⟨s, 0, none⟩)) hH0 (fun w0 hSw => ?_) ?_
 ·(unfold lt22o_9; clear hSw; go_simp)
 simp only [lt22o_9, Act.put, sA, sB, sC]
 refine tj 12 lt22o_12 (.pointer (some ⟨t, 0, none⟩)) hH0 (fun w0 hSw => ?_) ?_
 ·(unfold lt22o_12; clear hSw; go_simp)
 simp only [lt22o_12, Act.put, sA, sB, sC]
 refine wpAnyH_ready (rs := [10]) (by kernel_rfl) (by simp) ?_
 refine AllReadyH.cons (o := lt22o_10) rfl (fun K hK => ?_) AllReadyH.nil
 unfold lt22o_10
 have HH := hidden hH0
 clear hH0
 go_simp
 refine (C10.out _ HH.out).mono ?_
 rintro e wn1 ⟨p1, c1, rfl, hy, hb⟩
 have SN := hidden (bl_trans HH.out hb)
 have B1 := hidden (hy)
 clear HH C10 hy hb
 go_wp2_with fail
 refine hK.out _ _ SN.out (fun hH1 => ?_)
 clear hK K SN
 refine wpAnyH_ready (rs := [11, 13]) (by kernel_rfl) (by simp) ?_
 refine AllReadyH.cons (o := lt22o_11) rfl (fun K hK => ?_) (AllReadyH.cons (o := lt22o_13) rfl (fun K hK => ?_) AllReadyH.nil)
 ·unfold lt22o_11
  have HH := hidden hH1
  clear hH1
  refine Eq.mpr (if_pos (by exact rfl)) ?_
  refine wp_conv _ rfl rfl B1.out ?_
  simp only [Act.put, sA, sB, sC]
  have SN := HH
  clear HH
  refine hK.out _ _ SN.out (fun hH2 => ?_)
  clear hK K SN
  refine wpAnyH_ready (rs := [13]) (by kernel_rfl) (by simp) ?_
  refine AllReadyH.cons (o := lt22o_13) rfl (fun K hK => ?_) AllReadyH.nil
  unfold lt22o_13
  have HH := hidden hH2
  clear hH2
  go_simp
  refine (C13.out _ HH.out).mono ?_
  rintro e wn3 ⟨p2, c2, rfl, hy, hb⟩
  have SN := hidden (bl_trans HH.out hb)
  replace B1 := hidden (B1.out.keep hb)
  have B2 := hidden (hy)
  clear HH C13 hy hb
  go_wp2_with fail
  refine hK.out _ _ SN.out (fun hH3 => ?_)
  clear hK K SN
  refine wpAnyH_ready (rs := [14]) (by kernel_rfl) (by simp) ?_
  refine AllReadyH.cons (o := lt22o_14) rfl (fun K hK => ?_) AllReadyH.nil
  unfold lt22o_14
  have HH := hidden hH3
  clear hH3
  refine Eq.mpr (if_pos (by exact rfl)) ?_
  refine wp_conv _ rfl rfl B2.out ?_
  simp only [Act.put, sA, sB, sC]
  have SN := HH
  clear HH
  refine hK.out _ _ SN.out (fun hH4 => ?_)
  clear hK K SN
  refine tj 15 lt22o_15 (.bool false) hH4 (fun w0 hSw => ?_) ?_
  ·(unfold lt22o_15; clear hSw; go_simp)
  simp only [lt22o_15, Act.put, sA, sB, sC]
  refine tj 16 lt22o_16 (.bool false) hH4 (fun w0 hSw => ?_) ?_
  ·(unfold lt22o_16; clear hSw; go_simp)
  simp only [lt22o_16, Act.put, sA, sB, sC]
  have HH := hidden hH4
  have FQ := hidden (HQ.out _ p1 c1 p2 c2 HH.out)
  refine wpAnyH_done (by kernel_rfl) ?_ _
  refine NoPanic.normal ?_
  exact FQ.out
 ·unfold lt22o_13
  have HH := hidden hH1
  clear hH1
  go_simp
  refine (C13.out _ HH.out).mono ?_
  rintro e wn2 ⟨p2, c2, rfl, hy, hb⟩
  have SN := hidden (bl_trans HH.out hb)
  replace B1 := hidden (B1.out.keep hb)
  have B2 := hidden (hy)
  clear HH C13 hy hb
  go_wp2_with fail
  refine hK.out _ _ SN.out (fun hH2 => ?_)
  clear hK K SN
  refine wpAnyH_ready (rs := [11, 14]) (by kernel_rfl) (by simp) ?_
  refine AllReadyH.cons (o := lt22o_11) rfl (fun K hK => ?_) (AllReadyH.cons (o := lt22o_14) rfl (fun K hK => ?_) AllReadyH.nil)
  ·unfold lt22o_11
   have HH := hidden hH2
   clear hH2
   refine Eq.mpr (if_pos (by exact rfl)) ?_
   refine wp_conv _ rfl rfl B1.out ?_
   simp only [Act.put, sA, sB, sC]
   have SN := HH
   clear HH
   refine hK.out _ _ SN.out (fun hH3 => ?_)
   clear hK K SN
   refine wpAnyH_ready (rs := [14]) (by kernel_rfl) (by simp) ?_
   refine AllReadyH.cons (o := lt22o_14) rfl (fun K hK => ?_) AllReadyH.nil
   unfold lt22o_14
   have HH := hidden hH3
   clear hH3
   refine Eq.mpr (if_pos (by exact rfl)) ?_
   refine wp_conv _ rfl rfl B2.out ?_
   simp only [Act.put, sA, sB, sC]
   have SN := HH
   clear HH
   refine hK.out _ _ SN.out (fun hH4 => ?_)
   clear hK K SN
   refine tj 15 lt22o_15 (.bool false) hH4 (fun w0 hSw => ?_) ?_
   ·(unfold lt22o_15; clear hSw; go_simp)
   simp only [lt22o_15, Act.put, sA, sB, sC]
   refine tj 16 lt22o_16 (.bool false) hH4 (fun w0 hSw => ?_) ?_
   ·(unfold lt22o_16; clear hSw; go_simp)
   simp only [lt22o_16, Act.put, sA, sB, sC]
   have HH := hidden hH4
   have FQ := hidden (HQ.out _ p1 c1 p2 c2 HH.out)
   refine wpAnyH_done (by kernel_rfl) ?_ _
   refine NoPanic.normal ?_
   exact FQ.out
  ·unfold lt22o_14
   have HH := hidden hH2
   clear hH2
   refine Eq.mpr (if_pos (by exact rfl)) ?_
   refine wp_conv _ rfl rfl B2.out ?_
   simp only [Act.put, sA, sB, sC]
   have SN := HH
   clear HH
   refine hK.out _ _ SN.out (fun hH3 => ?_)
   clear hK K SN
   refine wpAnyH_ready (rs := [11]) (by kernel_rfl) (by simp) ?_
   refine AllReadyH.cons (o := lt22o_11) rfl (fun K hK => ?_) AllReadyH.nil
   unfold lt22o_11
   have HH := hidden hH3
   clear hH3
   refine Eq.mpr (if_pos (by exact rfl)) ?_
   refine wp_conv _ rfl rfl B1.out ?_
   simp only [Act.put, sA, sB, sC]
   have SN := HH
   clear HH
   refine hK.out _ _ SN.out (fun hH4 => ?_)
   clear hK K SN
   refine tj 15 lt22o_15 (.bool false) hH4 (fun w0 hSw => ?_) ?_
   ·(unfold lt22o_15; clear hSw; go_simp)
   simp only [lt22o_15, Act.put, sA, sB, sC]
   refine tj 16 lt22o_16 (.bool false) hH4 (fun w0 hSw => ?_) ?_
   ·(unfold lt22o_16; clear hSw; go_simp)
   simp only [lt22o_16, Act.put, sA, sB, sC]
   have HH := hidden hH4
   have FQ := hidden (HQ.out _ p1 c1 p2 c2 HH.out)
   refine wpAnyH_done (by kernel_rfl) ?_ _
   refine NoPanic.normal ?_
   exact FQ.out
def lt27o_0 : Oper := { dst := some 171, op := Op.move (Operand.tmp 26), type := 27, pos := "outright.go:272", after := #[], guard := none }
def lt27o_1 : Oper := { dst := some 172, op := Op.binOp BinOp.neq 27 (Operand.tmp 171) (Operand.const (Value.pointer none)) 27, type := 4, pos := "outright.go:272", after := #[DD 0], guard := none }
def lt27o_2 : Oper := { dst := some 173, op := Op.move (Operand.tmp 172), type := 4, pos := "outright.go:272", after := #[DD 1], guard := none }
def lt27o_3 : Oper := { dst := some 174, op := Op.move (Operand.tmp 26), type := 27, pos := "outright.go:272", after := #[GU 2], guard := some (2, true) }
def lt27o_4 : Oper := { dst := some 175, op := Op.call { callee := Callee.value (Operand.func 6), args := #[Operand.tmp 174], argTypes := #[27] }, type := 23, pos := "outright.go:272", after := #[DD 3, CH 2, GU 2], guard := some (2, true) }
def lt27o_5 : Oper := { dst := some 176, op := Op.convert 23 9 (Operand.tmp 175), type := 9, pos := "outright.go:272", after := #[DD 4, GU 2], guard := some (2, true) }
def lt27o_6 : Oper := { dst := some 177, op := Op.move (Operand.tmp 2), type := 23, pos := "outright.go:272", after := #[GU 2], guard := some (2, true) }
def lt27o_7 : Oper := { dst := some 178, op := Op.convert 23 9 (Operand.tmp 177), type := 9, pos := "outright.go:272", after := #[DD 6, GU 2], guard := some (2, true) }
def lt27o_8 : Oper := { dst := some 179, op := Op.binOp BinOp.eql 9 (Operand.tmp 176) (Operand.tmp 178) 9, type := 4, pos := "outright.go:272", after := #[DD 5, DD 7, GU 2], guard := some (2, true) }
def lt27o_9 : Oper := { dst := some 180, op := Op.pick (Operand.tmp 173) (Operand.tmp 179) (Operand.const (Value.bool false)), type := 4, pos := "outright.go:272", after := #[DD 2, DD 8], guard := none }
def lt27o_10 : Oper := { dst := some 8, op := Op.assign (Operand.tmp 180), type := 4, pos := "outright.go:272", after := #[DD 9, CH 4, PH 0, PH 1, PH 2, PH 3, PH 4, PH 5, PH 6, PH 7, PH 8, PH 9], guard := none }
def lt27o : Array Oper := #[lt27o_0, lt27o_1, lt27o_2, lt27o_3, lt27o_4, lt27o_5, lt27o_6, lt27o_7, lt27o_8, lt27o_9, lt27o_10]
theorem lt27 (Q : Exit → Act → World → Prop) (t c0 : Nat) (p0 : Option Addr) (bs : List UInt8) (u0 u1 u3 u4 u5 u6 u7 u8 u9 u10 u11 u12 u13 u14 u15 u16 u17 u18 u19 u20 u21 u22 u23 u24 u25 u27 u28 u29 u30 u31 u32 u33 u34 u35 u36 u37 u38 u39 u40 u41 u42 u43 u44 u45 u46 u47 u48 u49 u50 u51 u52 u53 u54 u55 u56 u57 u58 u59 u60 u61 u62 u63 u64 u65 u66 u67 u68 u69 u70 u71 u72 u73 u74 u75 u76 u77 u78 u79 u80 u81 u82 u83 u84 u85 u86 u87 u88 u89 u90 u91 u92 u93 u94 u95 u96 u97 u98 u99 u100 u101 u102 u103 u104 u105 u106 u107 u108 u109 u110 u111 u112 u113 u114 u115 u116 u117 u118 u119 u120 u121 u122 u123 u124 u125 u126 u127 u128 u129 u130 u131 u132 u133 u134 u135 u136 u137 u138 u139 u140 u141 u142 u143 u144 u145 u146 u147 u148 u149 u150 u151 u152 u153 u154 u155 u156 u157 u158 u159 u160 u161 u162 u163 u164 u165 u166 u167 u168 u169 u170 u171 u172 u173 u174 u175 u176 u177 u178 u179 u180 : Value) (W : World)
  (by0 : By W p0 c0 bs)
  (C4 : Hid (∀ yy, Below W.heap.size W yy → Calls Tryz.prog 6 #[.pointer (some ⟨t, 0, none⟩)] yy fun e w' => ∃ p1 c1, e = .returned (.slice p1 bs.length c1) ∧ By w' p1 c1 bs ∧ Below yy.heap.size yy w'))
  (HQ : Hid (∀ (wz : World) (p1 : Option Addr) (c1 : Nat), Below W.heap.size W wz → Q .normal ⟨#[u0, u1, .slice p0 bs.length c0, u3, u4, u5, u6, u7, .bool true, u9, u10, u11, u12, u13, u14, u15, u16, u17, u18, u19, u20, u21, u22, u23, u24, u25, .pointer (some ⟨t, 0, none⟩), u27, u28, u29, u30, u31, u32, u33, u34, u35, u36, u37, u38, u39, u40, u41, u42, u43, u44, u45, u46, u47, u48, u49, u50, u51, u52, u53, u54, u55, u56, u57, u58, u59, u60, u61, u62, u63, u64, u65, u66, u67, u68, u69, u70, u71, u72, u73, u74, u75, u76, u77, u78, u79, u80, u81, u82, u83, u84, u85, u86, u87, u88, u89, u90, u91, u92, u93, u94, u95, u96, u97, u98, u99, u100, u101, u102, u103, u104, u105, u106, u107, u108, u109, u110, u111, u112, u113, u114, u115, u116, u117, u118, u119, u120, u121, u122, u123, u124, u125, u126, u127, u128, u129, u130, u131, u132, u133, u134, u135, u136, u137, u138, u139, u140, u141, u142, u143, u144, u145, u146, u147, u148, u149, u150, u151, u152, u153, u154, u155, u156, u157, u158, u159, u160, u161, u162, u163, u164, u165, u166, u167, u168, u169, u170, .pointer (some ⟨t, 0, none⟩), .bool true, .bool true, .pointer (some ⟨t, 0, none⟩), .slice p1 bs.length c1, .string (Tr.sb bs), .slice p0 bs.length c0, .string (Tr.sb bs), .bool true, .bool true], []⟩ wz)) : (Code.region 27 lt27o true).wp Tryz.prog Q ⟨#[u0, u1, .slice p0 bs.length c0, u3, u4, u5, u6, u7, u8, u9, u10, u11, u12, u13, u14, u15, u16, u17, u18, u19, u20, u21, u22, u23, u24, u25, .pointer (some ⟨t, 0, none⟩), u27, u28, u29, u30, u31, u32, u33, u34, u35, u36, u37, u38, u39, u40, u41, u42, u43, u44, u45, u46, u47, u48, u49, u50, u51, u52, u53, u54, u55, u56, u57, u58, u59, u60, u61, u62, u63, u64, u65, u66, u67, u68, u69, u70, u71, u72, u73, u74, u75, u76, u77, u78, u79, u80, u81, u82, u83, u84, u85, u86, u87, u88, u89, u90, u91, u92, u93, u94, u95, u96, u97, u98, u99, u100, u101, u102, u103, u104, u105, u106, u107, u108, u109, u110, u111, u112, u113, u114, u115, u116, u117, u118, u119, u120, u121, u122, u123, u124, u125, u126, u127, u128, u129, u130, u131, u132, u133, u134, u135, u136, u137, u138, u139, u140, u141, u142, u143, u144, u145, u146, u147, u148, u149, u150, u151, u152, u153, u154, u155, u156, u157, u158, u159, u160, u161, u162, u163, u164, u165, u166, u167, u168, u169, u170, u171, u172, u173, u174, u175, u176, u177, u178, u179, u180], []⟩ W := by
 have BY := hidden (by0.keep (bl_drew W))
 clear by0
 unfold lt27o
 refine wp_region_noPanic ?_
 refine wp_region_held_drew (S := fun x => Below W.heap.size W x) (by kernel_rfl) (bl_drew W) (fun hH0 => ?_)
 refine tj 0 lt27o_0 (.pointer (some ⟨t, 0, none⟩)) hH0 (fun w0 hSw => ?_) ?_
 ·(unfold lt27o_0; clear hSw; go_simp)
 simp only [lt27o_0, Act.put, sA, sB, sC]
 refine tj 1 lt27o_1 (.bool true) hH0 (fun w0 hSw => ?_) ?_
 ·(unfold lt27o_1; clear hSw; go_simp)
 simp only [lt27o_1, Act.put, sA, sB, sC]
 refine tj 2 lt27o_2 (.bool true) hH0 (fun w0 hSw => ?_) ?_
 ·(unfold lt27o_2; clear hSw; go_simp)
 simp only [lt27o_2, Act.put, sA, sB, sC]
 refine tj 3 lt27o_3 (.pointer (some ⟨t, 0, none⟩)) hH0 (fun w0 hSw => ?_) ?_
 ·(unfold lt27o_3; clear hSw; go_simp)
 simp only [lt27o_3, Act.put, sA, sB, sC]
 refine tj 6 lt27o_6 (.slice p0 bs.length c0) hH0 (fun w0 hSw => ?_) ?_
 ·(unfold lt27o_6; clear hSw; go_simp)
 simp only [lt27o_6, Act.put, sA, sB, sC]
 refine wpAnyH_ready (rs := [4, 7]) (by kernel_rfl) (by simp) ?_
 refine AllReadyH.cons (o := lt27o_4) rfl (fun K hK => ?_) (AllReadyH.cons (o := lt27o_7) rfl (fun K hK => ?_) AllReadyH.nil)
 ·unfold lt27o_4
  have HH := hidden hH0
  clear hH0
  go_simp
  refine (C4.out _ HH.out).mono ?_
  rintro e wn1 ⟨p1, c1, rfl, hy, hb⟩
  have SN := hidden (bl_trans HH.out hb)
  replace BY := hidden (BY.out.keep hb)
  have B1 := hidden (hy)
  clear HH C4 hy hb
  go_wp2_with fail
  refine hK.out _ _ SN.out (fun hH1 => ?_)
  clear hK K SN
  refine wpAnyH_ready (rs := [5, 7]) (by kernel_rfl) (by simp) ?_
  refine AllReadyH.cons (o := lt27o_5) rfl (fun K hK => ?_) (AllReadyH.cons (o := lt27o_7) rfl (fun K hK => ?_) AllReadyH.nil)
  ·unfold lt27o_5
   have HH := hidden hH1
   clear hH1
   refine Eq.mpr (if_pos (by exact rfl)) ?_
   refine wp_conv _ rfl rfl B1.out ?_
   simp only [Act.put, sA, sB, sC]
   have SN := HH
   clear HH
   refine hK.out _ _ SN.out (fun hH2 => ?_)
   clear hK K SN
   refine wpAnyH_ready (rs := [7]) (by kernel_rfl) (by simp) ?_
   refine AllReadyH.cons (o := lt27o_7) rfl (fun K hK => ?_) AllReadyH.nil
   unfold lt27o_7
   have HH := hidden hH2
   clear hH2
   refine Eq.mpr (if_pos (by exact rfl)) ?_
   refine wp_conv _ rfl rfl BY.out ?_
   simp only [Act.put, sA, sB, sC]
   have SN := HH
   clear HH
   refine hK.out _ _ SN.out (fun hH3 => ?_)
   clear hK K SN
   refine tj 8 lt27o_8 (.bool true) hH3 (fun w0 hSw => ?_) ?_
   ·(unfold lt27o_8; clear hSw; go_simp)
   simp only [lt27o_8, Act.put, sA, sB, sC]
   refine tj 9 lt27o_9 (.bool true) hH3 (fun w0 hSw => ?_) ?_
   ·(unfold lt27o_9; clear hSw; go_simp)
   simp only [lt27o_9, Act.put, sA, sB, sC]
   refine tj 10 lt27o_10 (.bool true) hH3 (fun w0 hSw => ?_) ?_
   ·(unfold lt27o_10; clear hSw; go_simp)
   simp only [lt27o_10, Act.put, sA, sB, sC]
   have HH := hidden hH3
   have FQ := hidden (HQ.out _ p1 c1 HH.out)
   refine wpAnyH_done (by kernel_rfl) ?_ _
   refine NoPanic.normal ?_
   exact FQ.out
  ·unfold lt27o_7
   have HH := hidden hH1
   clear hH1
   refine Eq.mpr (if_pos (by exact rfl)) ?_
   refine wp_conv _ rfl rfl BY.out ?_
   simp only [Act.put, sA, sB, sC]
   have SN := HH
   clear HH
   refine hK.out _ _ SN.out (fun hH2 => ?_)
   clear hK K SN
   refine wpAnyH_ready (rs := [5]) (by kernel_rfl) (by simp) ?_
   refine AllReadyH.cons (o := lt27o_5) rfl (fun K hK => ?_) AllReadyH.nil
   unfold lt27o_5
   have HH := hidden hH2
   clear hH2
   refine Eq.mpr (if_pos (by exact rfl)) ?_
   refine wp_conv _ rfl rfl B1.out ?_
   simp only [Act.put, sA, sB, sC]
   have SN := HH
   clear HH
   refine hK.out _ _ SN.out (fun hH3 => ?_)
   clear hK K SN
   refine tj 8 lt27o_8 (.bool true) hH3 (fun w0 hSw => ?_) ?_
   ·(unfold lt27o_8; clear hSw; go_simp)
   simp only [lt27o_8, Act.put, sA, sB, sC]
   refine tj 9 lt27o_9 (.bool true) hH3 (fun w0 hSw => ?_) ?_
   ·(unfold lt27o_9; clear hSw; go_simp)
   simp only [lt27o_9, Act.put, sA, sB, sC]
   refine tj 10 lt27o_10 (.bool true) hH3 (fun w0 hSw => ?_) ?_
   ·(unfold lt27o_10; clear hSw; go_simp)
   simp only [lt27o_10, Act.put, sA, sB, sC]
   have HH := hidden hH3
   have FQ := hidden (HQ.out _ p1 c1 HH.out)
   refine wpAnyH_done (by kernel_rfl) ?_ _
   refine NoPanic.normal ?_
   exact FQ.out
 ·unfold lt27o_7
  have HH := hidden hH0
  clear hH0
  refine Eq.mpr (if_pos (by exact rfl)) ?_
  refine wp_conv _ rfl rfl BY.out ?_
  simp only [Act.put, sA, sB, sC]
  have SN := HH
  clear HH
  refine hK.out _ _ SN.out (fun hH1 => ?_)
  clear hK K SN
  refine wpAnyH_ready (rs := [4]) (by kernel_rfl) (by simp) ?_
  refine AllReadyH.cons (o := lt27o_4) rfl (fun K hK => ?_) AllReadyH.nil
  unfold lt27o_4
  have HH := hidden hH1
  clear hH1
  go_simp
  refine (C4.out _ HH.out).mono ?_
  rintro e wn2 ⟨p1, c1, rfl, hy, hb⟩
  have SN := hidden (bl_trans HH.out hb)
  replace BY := hidden (BY.out.keep hb)
  have B1 := hidden (hy)
  clear HH C4 hy hb
  go_wp2_with fail
  refine hK.out _ _ SN.out (fun hH2 => ?_)
  clear hK K SN
  refine wpAnyH_ready (rs := [5]) (by kernel_rfl) (by simp) ?_
  refine AllReadyH.cons (o := lt27o_5) rfl (fun K hK => ?_) AllReadyH.nil
  unfold lt27o_5
  have HH := hidden hH2
  clear hH2
  refine Eq.mpr (if_pos (by exact rfl)) ?_
  refine wp_conv _ rfl rfl B1.out ?_
  simp only [Act.put, sA, sB, sC]
  have SN := HH
  clear HH
  refine hK.out _ _ SN.out (fun hH3 => ?_)
  clear hK K SN
  refine tj 8 lt27o_8 (.bool true) hH3 (fun w0 hSw => ?_) ?_
  ·(unfold lt27o_8; clear hSw; go_simp)
  simp only [lt27o_8, Act.put, sA, sB, sC]
  refine tj 9 lt27o_9 (.bool true) hH3 (fun w0 hSw => ?_) ?_
  ·(unfold lt27o_9; clear hSw; go_simp)
  simp only [lt27o_9, Act.put, sA, sB, sC]
  refine tj 10 lt27o_10 (.bool true) hH3 (fun w0 hSw => ?_) ?_
  ·(unfold lt27o_10; clear hSw; go_simp)
  simp only [lt27o_10, Act.put, sA, sB, sC]
  have HH := hidden hH3
  have FQ := hidden (HQ.out _ p1 c1 HH.out)
  refine wpAnyH_done (by kernel_rfl) ?_ _
  refine NoPanic.normal ?_
  exact FQ.out
end Ci
end Go.Proofs.YtaejdgpffipaeaaGreatDoor
