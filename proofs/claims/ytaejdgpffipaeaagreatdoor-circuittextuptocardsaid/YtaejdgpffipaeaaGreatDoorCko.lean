import Derived.Test.YtaejdgpffipaeaaGreatDoorTk
import Derived.Test.YtaejdgpffipaeaaGreatDoorKx
namespace Go.Proofs.YtaejdgpffipaeaaGreatDoor
set_option maxRecDepth 100000
set_option maxHeartbeats 16000000
open Go.RowKit
set_option linter.unusedVariables false
set_option linter.unusedSimpArgs false
open Cm (Wr Tm co bf Ls lf ins Eqm)
open Tr (By)
namespace Ci
def lt18bo_0 : Oper := { dst := some 104, op := Op.move (Operand.tmp 18), type := 30, pos := "outright.go:260", after := #[], guard := none }
def lt18bo_1 : Oper := { dst := some 105, op := Op.move (Operand.tmp 19), type := 30, pos := "outright.go:260", after := #[], guard := none }
def lt18bo_2 : Oper := { dst := some 106, op := Op.binOp BinOp.neq 30 (Operand.tmp 104) (Operand.tmp 105) 30, type := 4, pos := "outright.go:260", after := #[DD 0, DD 1], guard := none }
def lt18bo_3 : Oper := { dst := some 107, op := Op.move (Operand.tmp 106), type := 4, pos := "outright.go:260", after := #[DD 2], guard := none }
def lt18bo_4 : Oper := { dst := some 108, op := Op.move (Operand.tmp 9), type := 27, pos := "outright.go:260", after := #[GU 3], guard := some (3, false) }
def lt18bo_5 : Oper := { dst := some 109, op := Op.call { callee := Callee.value (Operand.func 6), args := #[Operand.tmp 108], argTypes := #[27] }, type := 23, pos := "outright.go:260", after := #[DD 4, CH 3, GU 3], guard := some (3, false) }
def lt18bo_6 : Oper := { dst := some 110, op := Op.convert 23 9 (Operand.tmp 109), type := 9, pos := "outright.go:260", after := #[DD 5, GU 3], guard := some (3, false) }
def lt18bo_7 : Oper := { dst := some 111, op := Op.move (Operand.tmp 11), type := 27, pos := "outright.go:260", after := #[GU 3], guard := some (3, false) }
def lt18bo_8 : Oper := { dst := some 112, op := Op.call { callee := Callee.value (Operand.func 6), args := #[Operand.tmp 111], argTypes := #[27] }, type := 23, pos := "outright.go:260", after := #[DD 7, CH 5, GU 3], guard := some (3, false) }
def lt18bo_9 : Oper := { dst := some 113, op := Op.convert 23 9 (Operand.tmp 112), type := 9, pos := "outright.go:260", after := #[DD 8, GU 3], guard := some (3, false) }
def lt18bo_10 : Oper := { dst := some 114, op := Op.binOp BinOp.neq 9 (Operand.tmp 110) (Operand.tmp 113) 9, type := 4, pos := "outright.go:260", after := #[DD 6, DD 9, GU 3], guard := some (3, false) }
def lt18bo_11 : Oper := { dst := some 115, op := Op.pick (Operand.tmp 107) (Operand.const (Value.bool true)) (Operand.tmp 114), type := 4, pos := "outright.go:260", after := #[DD 3, DD 10], guard := none }
def lt18bo_12 : Oper := { dst := some 116, op := Op.move (Operand.tmp 115), type := 4, pos := "outright.go:260", after := #[DD 11, CH 8], guard := none }
def lt18bo_13 : Oper := { dst := some 117, op := Op.move (Operand.tmp 18), type := 30, pos := "outright.go:260", after := #[GU 12], guard := some (12, false) }
def lt18bo_14 : Oper := { dst := some 118, op := Op.binOp BinOp.eql 30 (Operand.tmp 117) (Operand.const (Value.int IntKind.i64 0)) 30, type := 4, pos := "outright.go:260", after := #[DD 13, GU 12], guard := some (12, false) }
def lt18bo_15 : Oper := { dst := some 119, op := Op.move (Operand.tmp 9), type := 27, pos := "outright.go:260", after := #[GU 12], guard := some (12, false) }
def lt18bo_16 : Oper := { dst := some 120, op := Op.call { callee := Callee.value (Operand.func 6), args := #[Operand.tmp 119], argTypes := #[27] }, type := 23, pos := "outright.go:260", after := #[DD 15, CH 12, GU 12], guard := some (12, false) }
def lt18bo_17 : Oper := { dst := some 121, op := Op.convert 23 9 (Operand.tmp 120), type := 9, pos := "outright.go:260", after := #[DD 16, GU 12], guard := some (12, false) }
def lt18bo_18 : Oper := { dst := some 122, op := Op.move (Operand.tmp 10), type := 23, pos := "outright.go:260", after := #[GU 12], guard := some (12, false) }
def lt18bo_19 : Oper := { dst := some 123, op := Op.convert 23 9 (Operand.tmp 122), type := 9, pos := "outright.go:260", after := #[DD 18, GU 12], guard := some (12, false) }
def lt18bo_20 : Oper := { dst := some 124, op := Op.binOp BinOp.neq 9 (Operand.tmp 121) (Operand.tmp 123) 9, type := 4, pos := "outright.go:260", after := #[DD 17, DD 19, GU 12], guard := some (12, false) }
def lt18bo_21 : Oper := { dst := some 125, op := Op.binOp BinOp.neq 4 (Operand.tmp 118) (Operand.tmp 124) 4, type := 4, pos := "outright.go:260", after := #[DD 14, DD 20, GU 12], guard := some (12, false) }
def lt18bo_22 : Oper := { dst := some 126, op := Op.pick (Operand.tmp 116) (Operand.const (Value.bool true)) (Operand.tmp 125), type := 4, pos := "outright.go:260", after := #[DD 12, DD 21], guard := none }
def lt18bo : Array Oper := #[lt18bo_0, lt18bo_1, lt18bo_2, lt18bo_3, lt18bo_4, lt18bo_5, lt18bo_6, lt18bo_7, lt18bo_8, lt18bo_9, lt18bo_10, lt18bo_11, lt18bo_12, lt18bo_13, lt18bo_14, lt18bo_15, lt18bo_16, lt18bo_17, lt18bo_18, lt18bo_19, lt18bo_20, lt18bo_21, lt18bo_22]
theorem lt18b (Q : Exit → Act → World → Prop) (s t c0 : Nat) (f : Int) (p0 : Option Addr) (bs : List UInt8) (u0 u1 u2 u3 u4 u5 u6 u7 u8 u12 u13 u14 u15 u16 u17 u20 u21 u22 u23 u24 u25 u26 u27 u28 u29 u30 u31 u32 u33 u34 u35 u36 u37 u38 u39 u40 u41 u42 u43 u44 u45 u46 u47 u48 u49 u50 u51 u52 u53 u54 u55 u56 u57 u58 u59 u60 u61 u62 u63 u64 u65 u66 u67 u68 u69 u70 u71 u72 u73 u74 u75 u76 u77 u78 u79 u80 u81 u82 u83 u84 u85 u86 u87 u88 u89 u90 u91 u92 u93 u94 u95 u96 u97 u98 u99 u100 u101 u102 u103 u104 u105 u106 u107 u108 u109 u110 u111 u112 u113 u114 u115 u116 u117 u118 u119 u120 u121 u122 u123 u124 u125 u126 u127 u128 u129 u130 u131 u132 u133 u134 u135 u136 u137 u138 u139 u140 u141 u142 u143 u144 u145 u146 u147 u148 u149 u150 u151 u152 u153 u154 u155 u156 u157 u158 u159 u160 u161 u162 u163 u164 u165 u166 u167 u168 u169 u170 u171 u172 u173 u174 u175 u176 u177 u178 u179 u180 : Value) (W : World)
  (by0 : By W p0 c0 bs) (NE : Hid (¬ f = 0))
  (C5 : Hid (∀ yy, Below W.heap.size W yy → Calls Tryz.prog 6 #[.pointer (some ⟨s, 0, none⟩)] yy fun e w' => ∃ p1 c1, e = .returned (.slice p1 bs.length c1) ∧ By w' p1 c1 bs ∧ Below yy.heap.size yy w'))
  (C8 : Hid (∀ yy, Below W.heap.size W yy → Calls Tryz.prog 6 #[.pointer (some ⟨t, 0, none⟩)] yy fun e w' => ∃ p1 c1, e = .returned (.slice p1 bs.length c1) ∧ By w' p1 c1 bs ∧ Below yy.heap.size yy w'))
  (C16 : Hid (∀ yy, Below W.heap.size W yy → Calls Tryz.prog 6 #[.pointer (some ⟨s, 0, none⟩)] yy fun e w' => ∃ p1 c1, e = .returned (.slice p1 bs.length c1) ∧ By w' p1 c1 bs ∧ Below yy.heap.size yy w'))
  (HQ : Hid (∀ (wz : World) (p1 : Option Addr) (c1 : Nat) (p2 : Option Addr) (c2 : Nat) (p3 : Option Addr) (c3 : Nat), Below W.heap.size W wz → Q .normal ⟨#[u0, u1, u2, u3, u4, u5, u6, u7, u8, .pointer (some ⟨s, 0, none⟩), .slice p0 bs.length c0, .pointer (some ⟨t, 0, none⟩), u12, u13, u14, u15, u16, u17, .int .i64 f, .int .i64 f, u20, u21, u22, u23, u24, u25, u26, u27, u28, u29, u30, u31, u32, u33, u34, u35, u36, u37, u38, u39, u40, u41, u42, u43, u44, u45, u46, u47, u48, u49, u50, u51, u52, u53, u54, u55, u56, u57, u58, u59, u60, u61, u62, u63, u64, u65, u66, u67, u68, u69, u70, u71, u72, u73, u74, u75, u76, u77, u78, u79, u80, u81, u82, u83, u84, u85, u86, u87, u88, u89, u90, u91, u92, u93, u94, u95, u96, u97, u98, u99, u100, u101, u102, u103, .int .i64 f, .int .i64 f, .bool false, .bool false, .pointer (some ⟨s, 0, none⟩), .slice p1 bs.length c1, .string (Tr.sb bs), .pointer (some ⟨t, 0, none⟩), .slice p2 bs.length c2, .string (Tr.sb bs), .bool false, .bool false, .bool false, .int .i64 f, .bool false, .pointer (some ⟨s, 0, none⟩), .slice p3 bs.length c3, .string (Tr.sb bs), .slice p0 bs.length c0, .string (Tr.sb bs), .bool false, .bool false, .bool false, u127, u128, u129, u130, u131, u132, u133, u134, u135, u136, u137, u138, u139, u140, u141, u142, u143, u144, u145, u146, u147, u148, u149, u150, u151, u152, u153, u154, u155, u156, u157, u158, u159, u160, u161, u162, u163, u164, u165, u166, u167, u168, u169, u170, u171, u172, u173, u174, u175, u176, u177, u178, u179, u180], []⟩ wz)) : (Code.region 18 lt18bo true).wp Tryz.prog Q ⟨#[u0, u1, u2, u3, u4, u5, u6, u7, u8, .pointer (some ⟨s, 0, none⟩), .slice p0 bs.length c0, .pointer (some ⟨t, 0, none⟩), u12, u13, u14, u15, u16, u17, .int .i64 f, .int .i64 f, u20, u21, u22, u23, u24, u25, u26, u27, u28, u29, u30, u31, u32, u33, u34, u35, u36, u37, u38, u39, u40, u41, u42, u43, u44, u45, u46, u47, u48, u49, u50, u51, u52, u53, u54, u55, u56, u57, u58, u59, u60, u61, u62, u63, u64, u65, u66, u67, u68, u69, u70, u71, u72, u73, u74, u75, u76, u77, u78, u79, u80, u81, u82, u83, u84, u85, u86, u87, u88, u89, u90, u91, u92, u93, u94, u95, u96, u97, u98, u99, u100, u101, u102, u103, u104, u105, u106, u107, u108, u109, u110, u111, u112, u113, u114, u115, u116, u117, u118, u119, u120, u121, u122, u123, u124, u125, u126, u127, u128, u129, u130, u131, u132, u133, u134, u135, u136, u137, u138, u139, u140, u141, u142, u143, u144, u145, u146, u147, u148, u149, u150, u151, u152, u153, u154, u155, u156, u157, u158, u159, u160, u161, u162, u163, u164, u165, u166, u167, u168, u169, u170, u171, u172, u173, u174, u175, u176, u177, u178, u179, u180], []⟩ W := by
 have BY := hidden (by0.keep (bl_drew W))
 clear by0
 unfold lt18bo
 refine wp_region_noPanic ?_
 refine wp_region_held_drew (S := fun x => Below W.heap.size W x) (by kernel_rfl) (bl_drew W) (fun hH0 => ?_)
 refine tj 0 lt18bo_0 (.int .i64 f) hH0 (fun w0 hSw => ?_) ?_
 ·(unfold lt18bo_0; clear hSw; go_simp)
 simp only [lt18bo_0, Act.put, sA, sB, sC]
 refine tj 1 lt18bo_1 (.int .i64 f) hH0 (fun w0 hSw => ?_) ?_
 ·(unfold lt18bo_1; clear hSw; go_simp)
 simp only [lt18bo_1, Act.put, sA, sB, sC]
 refine tj 2 lt18bo_2 (.bool false) hH0 (fun w0 hSw => ?_) ?_
 ·(unfold lt18bo_2; clear hSw; go_simp)
 simp only [lt18bo_2, Act.put, sA, sB, sC]
 refine tj 3 lt18bo_3 (.bool false) hH0 (fun w0 hSw => ?_) ?_
 ·(unfold lt18bo_3; clear hSw; go_simp)
 simp only [lt18bo_3, Act.put, sA, sB, sC]
 refine tj 4 lt18bo_4 (.pointer (some ⟨s, 0, none⟩)) hH0 (fun w0 hSw => ?_) ?_
 ·(unfold lt18bo_4; clear hSw; go_simp)
 simp only [lt18bo_4, Act.put, sA, sB, sC]
 refine tj 7 lt18bo_7 (.pointer (some ⟨t, 0, none⟩)) hH0 (fun w0 hSw => ?_) ?_
 ·(unfold lt18bo_7; clear hSw; go_simp)
 simp only [lt18bo_7, Act.put, sA, sB, sC]
 refine wpAnyH_ready (rs := [5]) (by kernel_rfl) (by simp) ?_
 refine AllReadyH.cons (o := lt18bo_5) rfl (fun K hK => ?_) AllReadyH.nil
 unfold lt18bo_5
 have HH := hidden hH0
 clear hH0
 go_simp
 refine (C5.out _ HH.out).mono ?_
 rintro e wn1 ⟨p1, c1, rfl, hy, hb⟩
 have SN := hidden (bl_trans HH.out hb)
 replace BY := hidden (BY.out.keep hb)
 have B1 := hidden (hy)
 clear HH C5 hy hb
 go_wp2_with fail
 refine hK.out _ _ SN.out (fun hH1 => ?_)
 clear hK K SN
 refine wpAnyH_ready (rs := [6, 8]) (by kernel_rfl) (by simp) ?_
 refine AllReadyH.cons (o := lt18bo_6) rfl (fun K hK => ?_) (AllReadyH.cons (o := lt18bo_8) rfl (fun K hK => ?_) AllReadyH.nil)
 ·unfold lt18bo_6
  have HH := hidden hH1
  clear hH1
  refine Eq.mpr (if_pos (by exact rfl)) ?_
  refine wp_conv _ rfl rfl B1.out ?_
  simp only [Act.put, sA, sB, sC]
  have SN := HH
  clear HH
  refine hK.out _ _ SN.out (fun hH2 => ?_)
  clear hK K SN
  refine wpAnyH_ready (rs := [8]) (by kernel_rfl) (by simp) ?_
  refine AllReadyH.cons (o := lt18bo_8) rfl (fun K hK => ?_) AllReadyH.nil
  unfold lt18bo_8
  have HH := hidden hH2
  clear hH2
  go_simp
  refine (C8.out _ HH.out).mono ?_
  rintro e wn3 ⟨p2, c2, rfl, hy, hb⟩
  have SN := hidden (bl_trans HH.out hb)
  replace BY := hidden (BY.out.keep hb)
  replace B1 := hidden (B1.out.keep hb)
  have B2 := hidden (hy)
  clear HH C8 hy hb
  go_wp2_with fail
  refine hK.out _ _ SN.out (fun hH3 => ?_)
  clear hK K SN
  refine wpAnyH_ready (rs := [9]) (by kernel_rfl) (by simp) ?_
  refine AllReadyH.cons (o := lt18bo_9) rfl (fun K hK => ?_) AllReadyH.nil
  unfold lt18bo_9
  have HH := hidden hH3
  clear hH3
  refine Eq.mpr (if_pos (by exact rfl)) ?_
  refine wp_conv _ rfl rfl B2.out ?_
  simp only [Act.put, sA, sB, sC]
  have SN := HH
  clear HH
  refine hK.out _ _ SN.out (fun hH4 => ?_)
  clear hK K SN
  refine tj 10 lt18bo_10 (.bool false) hH4 (fun w0 hSw => ?_) ?_
  ·(unfold lt18bo_10; clear hSw; go_simp)
  simp only [lt18bo_10, Act.put, sA, sB, sC]
  refine tj 11 lt18bo_11 (.bool false) hH4 (fun w0 hSw => ?_) ?_
  ·(unfold lt18bo_11; clear hSw; go_simp)
  simp only [lt18bo_11, Act.put, sA, sB, sC]
  refine tj 12 lt18bo_12 (.bool false) hH4 (fun w0 hSw => ?_) ?_
  ·(unfold lt18bo_12; clear hSw; go_simp)
  simp only [lt18bo_12, Act.put, sA, sB, sC]
  refine tj 13 lt18bo_13 (.int .i64 f) hH4 (fun w0 hSw => ?_) ?_
  ·(unfold lt18bo_13; clear hSw; go_simp)
  simp only [lt18bo_13, Act.put, sA, sB, sC]
  refine tj 15 lt18bo_15 (.pointer (some ⟨s, 0, none⟩)) hH4 (fun w0 hSw => ?_) ?_
  ·(unfold lt18bo_15; clear hSw; go_simp)
  simp only [lt18bo_15, Act.put, sA, sB, sC]
  refine tj 18 lt18bo_18 (.slice p0 bs.length c0) hH4 (fun w0 hSw => ?_) ?_
  ·(unfold lt18bo_18; clear hSw; go_simp)
  simp only [lt18bo_18, Act.put, sA, sB, sC]
  refine tj 14 lt18bo_14 (.bool false) hH4 (fun w0 hSw => ?_) ?_
  ·(unfold lt18bo_14; clear hSw; have ne := NE.out; go_simp)
  simp only [lt18bo_14, Act.put, sA, sB, sC]
  refine wpAnyH_ready (rs := [16, 19]) (by kernel_rfl) (by simp) ?_
  refine AllReadyH.cons (o := lt18bo_16) rfl (fun K hK => ?_) (AllReadyH.cons (o := lt18bo_19) rfl (fun K hK => ?_) AllReadyH.nil)
  ·unfold lt18bo_16
   have HH := hidden hH4
   clear hH4
   go_simp
   refine (C16.out _ HH.out).mono ?_
   rintro e wn5 ⟨p3, c3, rfl, hy, hb⟩
   have SN := hidden (bl_trans HH.out hb)
   replace BY := hidden (BY.out.keep hb)
   have B3 := hidden (hy)
   clear HH C16 hy hb
   go_wp2_with fail
   refine hK.out _ _ SN.out (fun hH5 => ?_)
   clear hK K SN
   refine wpAnyH_ready (rs := [17, 19]) (by kernel_rfl) (by simp) ?_
   refine AllReadyH.cons (o := lt18bo_17) rfl (fun K hK => ?_) (AllReadyH.cons (o := lt18bo_19) rfl (fun K hK => ?_) AllReadyH.nil)
   ·unfold lt18bo_17
    have HH := hidden hH5
    clear hH5
    refine Eq.mpr (if_pos (by exact rfl)) ?_
    refine wp_conv _ rfl rfl B3.out ?_
    simp only [Act.put, sA, sB, sC]
    have SN := HH
    clear HH
    refine hK.out _ _ SN.out (fun hH6 => ?_)
    clear hK K SN
    refine wpAnyH_ready (rs := [19]) (by kernel_rfl) (by simp) ?_
    refine AllReadyH.cons (o := lt18bo_19) rfl (fun K hK => ?_) AllReadyH.nil
    unfold lt18bo_19
    have HH := hidden hH6
    clear hH6
    refine Eq.mpr (if_pos (by exact rfl)) ?_
    refine wp_conv _ rfl rfl BY.out ?_
    simp only [Act.put, sA, sB, sC]
    have SN := HH
    clear HH
    refine hK.out _ _ SN.out (fun hH7 => ?_)
    clear hK K SN
    refine tj 20 lt18bo_20 (.bool false) hH7 (fun w0 hSw => ?_) ?_
    ·(unfold lt18bo_20; clear hSw; go_simp)
    simp only [lt18bo_20, Act.put, sA, sB, sC]
    refine tj 21 lt18bo_21 (.bool false) hH7 (fun w0 hSw => ?_) ?_
    ·(unfold lt18bo_21; clear hSw; go_simp)
    simp only [lt18bo_21, Act.put, sA, sB, sC]
    refine tj 22 lt18bo_22 (.bool false) hH7 (fun w0 hSw => ?_) ?_
    ·(unfold lt18bo_22; clear hSw; go_simp)
    simp only [lt18bo_22, Act.put, sA, sB, sC]
    have HH := hidden hH7
    have FQ := hidden (HQ.out _ p1 c1 p2 c2 p3 c3 HH.out)
    refine wpAnyH_done (by kernel_rfl) ?_ _
    refine NoPanic.normal ?_
    exact FQ.out
   ·unfold lt18bo_19
    have HH := hidden hH5
    clear hH5
    refine Eq.mpr (if_pos (by exact rfl)) ?_
    refine wp_conv _ rfl rfl BY.out ?_
    simp only [Act.put, sA, sB, sC]
    have SN := HH
    clear HH
    refine hK.out _ _ SN.out (fun hH6 => ?_)
    clear hK K SN
    refine wpAnyH_ready (rs := [17]) (by kernel_rfl) (by simp) ?_
    refine AllReadyH.cons (o := lt18bo_17) rfl (fun K hK => ?_) AllReadyH.nil
    unfold lt18bo_17
    have HH := hidden hH6
    clear hH6
    refine Eq.mpr (if_pos (by exact rfl)) ?_
    refine wp_conv _ rfl rfl B3.out ?_
    simp only [Act.put, sA, sB, sC]
    have SN := HH
    clear HH
    refine hK.out _ _ SN.out (fun hH7 => ?_)
    clear hK K SN
    refine tj 20 lt18bo_20 (.bool false) hH7 (fun w0 hSw => ?_) ?_
    ·(unfold lt18bo_20; clear hSw; go_simp)
    simp only [lt18bo_20, Act.put, sA, sB, sC]
    refine tj 21 lt18bo_21 (.bool false) hH7 (fun w0 hSw => ?_) ?_
    ·(unfold lt18bo_21; clear hSw; go_simp)
    simp only [lt18bo_21, Act.put, sA, sB, sC]
    refine tj 22 lt18bo_22 (.bool false) hH7 (fun w0 hSw => ?_) ?_
    ·(unfold lt18bo_22; clear hSw; go_simp)
    simp only [lt18bo_22, Act.put, sA, sB, sC]
    have HH := hidden hH7
    have FQ := hidden (HQ.out _ p1 c1 p2 c2 p3 c3 HH.out)
    refine wpAnyH_done (by kernel_rfl) ?_ _
    refine NoPanic.normal ?_
    exact FQ.out
  ·unfold lt18bo_19
   have HH := hidden hH4
   clear hH4
   refine Eq.mpr (if_pos (by exact rfl)) ?_
   refine wp_conv _ rfl rfl BY.out ?_
   simp only [Act.put, sA, sB, sC]
   have SN := HH
   clear HH
   refine hK.out _ _ SN.out (fun hH5 => ?_)
   clear hK K SN
   refine wpAnyH_ready (rs := [16]) (by kernel_rfl) (by simp) ?_
   refine AllReadyH.cons (o := lt18bo_16) rfl (fun K hK => ?_) AllReadyH.nil
   unfold lt18bo_16
   have HH := hidden hH5
   clear hH5
   go_simp
   refine (C16.out _ HH.out).mono ?_
   rintro e wn6 ⟨p3, c3, rfl, hy, hb⟩
   have SN := hidden (bl_trans HH.out hb)
   replace BY := hidden (BY.out.keep hb)
   have B3 := hidden (hy)
   clear HH C16 hy hb
   go_wp2_with fail
   refine hK.out _ _ SN.out (fun hH6 => ?_)
   clear hK K SN
   refine wpAnyH_ready (rs := [17]) (by kernel_rfl) (by simp) ?_
   refine AllReadyH.cons (o := lt18bo_17) rfl (fun K hK => ?_) AllReadyH.nil
   unfold lt18bo_17
   have HH := hidden hH6
   clear hH6
   refine Eq.mpr (if_pos (by exact rfl)) ?_
   refine wp_conv _ rfl rfl B3.out ?_
   simp only [Act.put, sA, sB, sC]
   have SN := HH
   clear HH
   refine hK.out _ _ SN.out (fun hH7 => ?_)
   clear hK K SN
   refine tj 20 lt18bo_20 (.bool false) hH7 (fun w0 hSw => ?_) ?_
   ·(unfold lt18bo_20; clear hSw; go_simp)
   simp only [lt18bo_20, Act.put, sA, sB, sC]
   refine tj 21 lt18bo_21 (.bool false) hH7 (fun w0 hSw => ?_) ?_
   ·(unfold lt18bo_21; clear hSw; go_simp)
   simp only [lt18bo_21, Act.put, sA, sB, sC]
   refine tj 22 lt18bo_22 (.bool false) hH7 (fun w0 hSw => ?_) ?_
   ·(unfold lt18bo_22; clear hSw; go_simp)
   simp only [lt18bo_22, Act.put, sA, sB, sC]
   have HH := hidden hH7
   have FQ := hidden (HQ.out _ p1 c1 p2 c2 p3 c3 HH.out)
   refine wpAnyH_done (by kernel_rfl) ?_ _
   refine NoPanic.normal ?_
   exact FQ.out
 ·unfold lt18bo_8
  have HH := hidden hH1
  clear hH1
  go_simp
  refine (C8.out _ HH.out).mono ?_
  rintro e wn2 ⟨p2, c2, rfl, hy, hb⟩
  have SN := hidden (bl_trans HH.out hb)
  replace BY := hidden (BY.out.keep hb)
  replace B1 := hidden (B1.out.keep hb)
  have B2 := hidden (hy)
  clear HH C8 hy hb
  go_wp2_with fail
  refine hK.out _ _ SN.out (fun hH2 => ?_)
  clear hK K SN
  refine wpAnyH_ready (rs := [6, 9]) (by kernel_rfl) (by simp) ?_
  refine AllReadyH.cons (o := lt18bo_6) rfl (fun K hK => ?_) (AllReadyH.cons (o := lt18bo_9) rfl (fun K hK => ?_) AllReadyH.nil)
  ·unfold lt18bo_6
   have HH := hidden hH2
   clear hH2
   refine Eq.mpr (if_pos (by exact rfl)) ?_
   refine wp_conv _ rfl rfl B1.out ?_
   simp only [Act.put, sA, sB, sC]
   have SN := HH
   clear HH
   refine hK.out _ _ SN.out (fun hH3 => ?_)
   clear hK K SN
   refine wpAnyH_ready (rs := [9]) (by kernel_rfl) (by simp) ?_
   refine AllReadyH.cons (o := lt18bo_9) rfl (fun K hK => ?_) AllReadyH.nil
   unfold lt18bo_9
   have HH := hidden hH3
   clear hH3
   refine Eq.mpr (if_pos (by exact rfl)) ?_
   refine wp_conv _ rfl rfl B2.out ?_
   simp only [Act.put, sA, sB, sC]
   have SN := HH
   clear HH
   refine hK.out _ _ SN.out (fun hH4 => ?_)
   clear hK K SN
   refine tj 10 lt18bo_10 (.bool false) hH4 (fun w0 hSw => ?_) ?_
   ·(unfold lt18bo_10; clear hSw; go_simp)
   simp only [lt18bo_10, Act.put, sA, sB, sC]
   refine tj 11 lt18bo_11 (.bool false) hH4 (fun w0 hSw => ?_) ?_
   ·(unfold lt18bo_11; clear hSw; go_simp)
   simp only [lt18bo_11, Act.put, sA, sB, sC]
   refine tj 12 lt18bo_12 (.bool false) hH4 (fun w0 hSw => ?_) ?_
   ·(unfold lt18bo_12; clear hSw; go_simp)
   simp only [lt18bo_12, Act.put, sA, sB, sC]
   refine tj 13 lt18bo_13 (.int .i64 f) hH4 (fun w0 hSw => ?_) ?_
   ·(unfold lt18bo_13; clear hSw; go_simp)
   simp only [lt18bo_13, Act.put, sA, sB, sC]
   refine tj 15 lt18bo_15 (.pointer (some ⟨s, 0, none⟩)) hH4 (fun w0 hSw => ?_) ?_
   ·(unfold lt18bo_15; clear hSw; go_simp)
   simp only [lt18bo_15, Act.put, sA, sB, sC]
   refine tj 18 lt18bo_18 (.slice p0 bs.length c0) hH4 (fun w0 hSw => ?_) ?_
   ·(unfold lt18bo_18; clear hSw; go_simp)
   simp only [lt18bo_18, Act.put, sA, sB, sC]
   refine tj 14 lt18bo_14 (.bool false) hH4 (fun w0 hSw => ?_) ?_
   ·(unfold lt18bo_14; clear hSw; have ne := NE.out; go_simp)
   simp only [lt18bo_14, Act.put, sA, sB, sC]
   refine wpAnyH_ready (rs := [16, 19]) (by kernel_rfl) (by simp) ?_
   refine AllReadyH.cons (o := lt18bo_16) rfl (fun K hK => ?_) (AllReadyH.cons (o := lt18bo_19) rfl (fun K hK => ?_) AllReadyH.nil)
   ·unfold lt18bo_16
    have HH := hidden hH4
    clear hH4
    go_simp
    refine (C16.out _ HH.out).mono ?_
    rintro e wn5 ⟨p3, c3, rfl, hy, hb⟩
    have SN := hidden (bl_trans HH.out hb)
    replace BY := hidden (BY.out.keep hb)
    have B3 := hidden (hy)
    clear HH C16 hy hb
    go_wp2_with fail
    refine hK.out _ _ SN.out (fun hH5 => ?_)
    clear hK K SN
    refine wpAnyH_ready (rs := [17, 19]) (by kernel_rfl) (by simp) ?_
    refine AllReadyH.cons (o := lt18bo_17) rfl (fun K hK => ?_) (AllReadyH.cons (o := lt18bo_19) rfl (fun K hK => ?_) AllReadyH.nil)
    ·unfold lt18bo_17
     have HH := hidden hH5
     clear hH5
     refine Eq.mpr (if_pos (by exact rfl)) ?_
     refine wp_conv _ rfl rfl B3.out ?_
     simp only [Act.put, sA, sB, sC]
     have SN := HH
     clear HH
     refine hK.out _ _ SN.out (fun hH6 => ?_)
     clear hK K SN
     refine wpAnyH_ready (rs := [19]) (by kernel_rfl) (by simp) ?_
     refine AllReadyH.cons (o := lt18bo_19) rfl (fun K hK => ?_) AllReadyH.nil
     unfold lt18bo_19
     have HH := hidden hH6
     clear hH6
     refine Eq.mpr (if_pos (by exact rfl)) ?_
     refine wp_conv _ rfl rfl BY.out ?_
     simp only [Act.put, sA, sB, sC]
     have SN := HH
     clear HH
     refine hK.out _ _ SN.out (fun hH7 => ?_)
     clear hK K SN
     refine tj 20 lt18bo_20 (.bool false) hH7 (fun w0 hSw => ?_) ?_
     ·(unfold lt18bo_20; clear hSw; go_simp)
     simp only [lt18bo_20, Act.put, sA, sB, sC]
     refine tj 21 lt18bo_21 (.bool false) hH7 (fun w0 hSw => ?_) ?_
     ·(unfold lt18bo_21; clear hSw; go_simp)
     simp only [lt18bo_21, Act.put, sA, sB, sC]
     refine tj 22 lt18bo_22 (.bool false) hH7 (fun w0 hSw => ?_) ?_
     ·(unfold lt18bo_22; clear hSw; go_simp)
     simp only [lt18bo_22, Act.put, sA, sB, sC]
     have HH := hidden hH7
     have FQ := hidden (HQ.out _ p1 c1 p2 c2 p3 c3 HH.out)
     refine wpAnyH_done (by kernel_rfl) ?_ _
     refine NoPanic.normal ?_
     exact FQ.out
    ·unfold lt18bo_19
     have HH := hidden hH5
     clear hH5
     refine Eq.mpr (if_pos (by exact rfl)) ?_
     refine wp_conv _ rfl rfl BY.out ?_
     simp only [Act.put, sA, sB, sC]
     have SN := HH
     clear HH
     refine hK.out _ _ SN.out (fun hH6 => ?_)
     clear hK K SN
     refine wpAnyH_ready (rs := [17]) (by kernel_rfl) (by simp) ?_
     refine AllReadyH.cons (o := lt18bo_17) rfl (fun K hK => ?_) AllReadyH.nil
     unfold lt18bo_17
     have HH := hidden hH6
     clear hH6
     refine Eq.mpr (if_pos (by exact rfl)) ?_
     refine wp_conv _ rfl rfl B3.out ?_
     simp only [Act.put, sA, sB, sC]
     have SN := HH
     clear HH
     refine hK.out _ _ SN.out (fun hH7 => ?_)
     clear hK K SN
     refine tj 20 lt18bo_20 (.bool false) hH7 (fun w0 hSw => ?_) ?_
     ·(unfold lt18bo_20; clear hSw; go_simp)
     simp only [lt18bo_20, Act.put, sA, sB, sC]
     refine tj 21 lt18bo_21 (.bool false) hH7 (fun w0 hSw => ?_) ?_
     ·(unfold lt18bo_21; clear hSw; go_simp)
     simp only [lt18bo_21, Act.put, sA, sB, sC]
     refine tj 22 lt18bo_22 (.bool false) hH7 (fun w0 hSw => ?_) ?_
     ·(unfold lt18bo_22; clear hSw; go_simp)
     simp only [lt18bo_22, Act.put, sA, sB, sC]
     have HH := hidden hH7
     have FQ := hidden (HQ.out _ p1 c1 p2 c2 p3 c3 HH.out)
     refine wpAnyH_done (by kernel_rfl) ?_ _
     refine NoPanic.normal ?_
     exact FQ.out
   ·unfold lt18bo_19
    have HH := hidden hH4
    clear hH4
    refine Eq.mpr (if_pos (by exact rfl)) ?_
    refine wp_conv _ rfl rfl BY.out ?_
    simp only [Act.put, sA, sB, sC]
    have SN := HH
    clear HH
    refine hK.out _ _ SN.out (fun hH5 => ?_)
    clear hK K SN
    refine wpAnyH_ready (rs := [16]) (by kernel_rfl) (by simp) ?_
    refine AllReadyH.cons (o := lt18bo_16) rfl (fun K hK => ?_) AllReadyH.nil
    unfold lt18bo_16
    have HH := hidden hH5
    clear hH5
    go_simp
    refine (C16.out _ HH.out).mono ?_
    rintro e wn6 ⟨p3, c3, rfl, hy, hb⟩
    have SN := hidden (bl_trans HH.out hb)
    replace BY := hidden (BY.out.keep hb)
    have B3 := hidden (hy)
    clear HH C16 hy hb
    go_wp2_with fail
    refine hK.out _ _ SN.out (fun hH6 => ?_)
    clear hK K SN
    refine wpAnyH_ready (rs := [17]) (by kernel_rfl) (by simp) ?_
    refine AllReadyH.cons (o := lt18bo_17) rfl (fun K hK => ?_) AllReadyH.nil
    unfold lt18bo_17
    have HH := hidden hH6
    clear hH6
    refine Eq.mpr (if_pos (by exact rfl)) ?_
    refine wp_conv _ rfl rfl B3.out ?_
    simp only [Act.put, sA, sB, sC]
    have SN := HH
    clear HH
    refine hK.out _ _ SN.out (fun hH7 => ?_)
    clear hK K SN
    refine tj 20 lt18bo_20 (.bool false) hH7 (fun w0 hSw => ?_) ?_
    ·(unfold lt18bo_20; clear hSw; go_simp)
    simp only [lt18bo_20, Act.put, sA, sB, sC]
    refine tj 21 lt18bo_21 (.bool false) hH7 (fun w0 hSw => ?_) ?_
    ·(unfold lt18bo_21; clear hSw; go_simp)
    simp only [lt18bo_21, Act.put, sA, sB, sC]
    refine tj 22 lt18bo_22 (.bool false) hH7 (fun w0 hSw => ?_) ?_
    ·(unfold lt18bo_22; clear hSw; go_simp)
    simp only [lt18bo_22, Act.put, sA, sB, sC]
    have HH := hidden hH7
    have FQ := hidden (HQ.out _ p1 c1 p2 c2 p3 c3 HH.out)
    refine wpAnyH_done (by kernel_rfl) ?_ _
    refine NoPanic.normal ?_
    exact FQ.out
  ·unfold lt18bo_9
   have HH := hidden hH2
   clear hH2
   refine Eq.mpr (if_pos (by exact rfl)) ?_
   refine wp_conv _ rfl rfl B2.out ?_
   simp only [Act.put, sA, sB, sC]
   have SN := HH
   clear HH
   refine hK.out _ _ SN.out (fun hH3 => ?_)
   clear hK K SN
   refine wpAnyH_ready (rs := [6]) (by kernel_rfl) (by simp) ?_
   refine AllReadyH.cons (o := lt18bo_6) rfl (fun K hK => ?_) AllReadyH.nil
   unfold lt18bo_6
   have HH := hidden hH3
   clear hH3
   refine Eq.mpr (if_pos (by exact rfl)) ?_
   refine wp_conv _ rfl rfl B1.out ?_
   simp only [Act.put, sA, sB, sC]
   have SN := HH
   clear HH
   refine hK.out _ _ SN.out (fun hH4 => ?_)
   clear hK K SN
   refine tj 10 lt18bo_10 (.bool false) hH4 (fun w0 hSw => ?_) ?_
   ·(unfold lt18bo_10; clear hSw; go_simp)
   simp only [lt18bo_10, Act.put, sA, sB, sC]
   refine tj 11 lt18bo_11 (.bool false) hH4 (fun w0 hSw => ?_) ?_
   ·(unfold lt18bo_11; clear hSw; go_simp)
   simp only [lt18bo_11, Act.put, sA, sB, sC]
   refine tj 12 lt18bo_12 (.bool false) hH4 (fun w0 hSw => ?_) ?_
   ·(unfold lt18bo_12; clear hSw; go_simp)
   simp only [lt18bo_12, Act.put, sA, sB, sC]
   refine tj 13 lt18bo_13 (.int .i64 f) hH4 (fun w0 hSw => ?_) ?_
   ·(unfold lt18bo_13; clear hSw; go_simp)
   simp only [lt18bo_13, Act.put, sA, sB, sC]
   refine tj 15 lt18bo_15 (.pointer (some ⟨s, 0, none⟩)) hH4 (fun w0 hSw => ?_) ?_
   ·(unfold lt18bo_15; clear hSw; go_simp)
   simp only [lt18bo_15, Act.put, sA, sB, sC]
   refine tj 18 lt18bo_18 (.slice p0 bs.length c0) hH4 (fun w0 hSw => ?_) ?_
   ·(unfold lt18bo_18; clear hSw; go_simp)
   simp only [lt18bo_18, Act.put, sA, sB, sC]
   refine tj 14 lt18bo_14 (.bool false) hH4 (fun w0 hSw => ?_) ?_
   ·(unfold lt18bo_14; clear hSw; have ne := NE.out; go_simp)
   simp only [lt18bo_14, Act.put, sA, sB, sC]
   refine wpAnyH_ready (rs := [16, 19]) (by kernel_rfl) (by simp) ?_
   refine AllReadyH.cons (o := lt18bo_16) rfl (fun K hK => ?_) (AllReadyH.cons (o := lt18bo_19) rfl (fun K hK => ?_) AllReadyH.nil)
   ·unfold lt18bo_16
    have HH := hidden hH4
    clear hH4
    go_simp
    refine (C16.out _ HH.out).mono ?_
    rintro e wn5 ⟨p3, c3, rfl, hy, hb⟩
    have SN := hidden (bl_trans HH.out hb)
    replace BY := hidden (BY.out.keep hb)
    have B3 := hidden (hy)
    clear HH C16 hy hb
    go_wp2_with fail
    refine hK.out _ _ SN.out (fun hH5 => ?_)
    clear hK K SN
    refine wpAnyH_ready (rs := [17, 19]) (by kernel_rfl) (by simp) ?_
    refine AllReadyH.cons (o := lt18bo_17) rfl (fun K hK => ?_) (AllReadyH.cons (o := lt18bo_19) rfl (fun K hK => ?_) AllReadyH.nil)
    ·unfold lt18bo_17
     have HH := hidden hH5
     clear hH5
     refine Eq.mpr (if_pos (by exact rfl)) ?_
     refine wp_conv _ rfl rfl B3.out ?_
     simp only [Act.put, sA, sB, sC]
     have SN := HH
     clear HH
     refine hK.out _ _ SN.out (fun hH6 => ?_)
     clear hK K SN
     refine wpAnyH_ready (rs := [19]) (by kernel_rfl) (by simp) ?_
     refine AllReadyH.cons (o := lt18bo_19) rfl (fun K hK => ?_) AllReadyH.nil
     unfold lt18bo_19
     have HH := hidden hH6
     clear hH6
     refine Eq.mpr (if_pos (by exact rfl)) ?_
     refine wp_conv _ rfl rfl BY.out ?_
     simp only [Act.put, sA, sB, sC]
     have SN := HH
     clear HH
     refine hK.out _ _ SN.out (fun hH7 => ?_)
     clear hK K SN
     refine tj 20 lt18bo_20 (.bool false) hH7 (fun w0 hSw => ?_) ?_
     ·(unfold lt18bo_20; clear hSw; go_simp)
     simp only [lt18bo_20, Act.put, sA, sB, sC]
     refine tj 21 lt18bo_21 (.bool false) hH7 (fun w0 hSw => ?_) ?_
     ·(unfold lt18bo_21; clear hSw; go_simp)
     simp only [lt18bo_21, Act.put, sA, sB, sC]
     refine tj 22 lt18bo_22 (.bool false) hH7 (fun w0 hSw => ?_) ?_
     ·(unfold lt18bo_22; clear hSw; go_simp)
     simp only [lt18bo_22, Act.put, sA, sB, sC]
     have HH := hidden hH7
     have FQ := hidden (HQ.out _ p1 c1 p2 c2 p3 c3 HH.out)
     refine wpAnyH_done (by kernel_rfl) ?_ _
     refine NoPanic.normal ?_
     exact FQ.out
    ·unfold lt18bo_19
     have HH := hidden hH5
     clear hH5
     refine Eq.mpr (if_pos (by exact rfl)) ?_
     refine wp_conv _ rfl rfl BY.out ?_
     simp only [Act.put, sA, sB, sC]
     have SN := HH
     clear HH
     refine hK.out _ _ SN.out (fun hH6 => ?_)
     clear hK K SN
     refine wpAnyH_ready (rs := [17]) (by kernel_rfl) (by simp) ?_
     refine AllReadyH.cons (o := lt18bo_17) rfl (fun K hK => ?_) AllReadyH.nil
     unfold lt18bo_17
     have HH := hidden hH6
     clear hH6
     refine Eq.mpr (if_pos (by exact rfl)) ?_
     refine wp_conv _ rfl rfl B3.out ?_
     simp only [Act.put, sA, sB, sC]
     have SN := HH
     clear HH
     refine hK.out _ _ SN.out (fun hH7 => ?_)
     clear hK K SN
     refine tj 20 lt18bo_20 (.bool false) hH7 (fun w0 hSw => ?_) ?_
     ·(unfold lt18bo_20; clear hSw; go_simp)
     simp only [lt18bo_20, Act.put, sA, sB, sC]
     refine tj 21 lt18bo_21 (.bool false) hH7 (fun w0 hSw => ?_) ?_
     ·(unfold lt18bo_21; clear hSw; go_simp)
     simp only [lt18bo_21, Act.put, sA, sB, sC]
     refine tj 22 lt18bo_22 (.bool false) hH7 (fun w0 hSw => ?_) ?_
     ·(unfold lt18bo_22; clear hSw; go_simp)
     simp only [lt18bo_22, Act.put, sA, sB, sC]
     have HH := hidden hH7
     have FQ := hidden (HQ.out _ p1 c1 p2 c2 p3 c3 HH.out)
     refine wpAnyH_done (by kernel_rfl) ?_ _
     refine NoPanic.normal ?_
     exact FQ.out
   ·unfold lt18bo_19
    have HH := hidden hH4
    clear hH4
    refine Eq.mpr (if_pos (by exact rfl)) ?_
    refine wp_conv _ rfl rfl BY.out ?_
    simp only [Act.put, sA, sB, sC]
    have SN := HH
    clear HH
    refine hK.out _ _ SN.out (fun hH5 => ?_)
    clear hK K SN
    refine wpAnyH_ready (rs := [16]) (by kernel_rfl) (by simp) ?_
    refine AllReadyH.cons (o := lt18bo_16) rfl (fun K hK => ?_) AllReadyH.nil
    unfold lt18bo_16
    have HH := hidden hH5
    clear hH5
    go_simp
    refine (C16.out _ HH.out).mono ?_
    rintro e wn6 ⟨p3, c3, rfl, hy, hb⟩
    have SN := hidden (bl_trans HH.out hb)
    replace BY := hidden (BY.out.keep hb)
    have B3 := hidden (hy)
    clear HH C16 hy hb
    go_wp2_with fail
    refine hK.out _ _ SN.out (fun hH6 => ?_)
    clear hK K SN
    refine wpAnyH_ready (rs := [17]) (by kernel_rfl) (by simp) ?_
    refine AllReadyH.cons (o := lt18bo_17) rfl (fun K hK => ?_) AllReadyH.nil
    unfold lt18bo_17
    have HH := hidden hH6
    clear hH6
    refine Eq.mpr (if_pos (by exact rfl)) ?_
    refine wp_conv _ rfl rfl B3.out ?_
    simp only [Act.put, sA, sB, sC]
    have SN := HH
    clear HH
    refine hK.out _ _ SN.out (fun hH7 => ?_)
    clear hK K SN
    refine tj 20 lt18bo_20 (.bool false) hH7 (fun w0 hSw => ?_) ?_
    ·(unfold lt18bo_20; clear hSw; go_simp)
    simp only [lt18bo_20, Act.put, sA, sB, sC]
    refine tj 21 lt18bo_21 (.bool false) hH7 (fun w0 hSw => ?_) ?_
    ·(unfold lt18bo_21; clear hSw; go_simp)
    simp only [lt18bo_21, Act.put, sA, sB, sC]
    refine tj 22 lt18bo_22 (.bool false) hH7 (fun w0 hSw => ?_) ?_
    ·(unfold lt18bo_22; clear hSw; go_simp)
    simp only [lt18bo_22, Act.put, sA, sB, sC]
    have HH := hidden hH7
    have FQ := hidden (HQ.out _ p1 c1 p2 c2 p3 c3 HH.out)
    refine wpAnyH_done (by kernel_rfl) ?_ _
    refine NoPanic.normal ?_
    exact FQ.out
end Ci
end Go.Proofs.YtaejdgpffipaeaaGreatDoor
