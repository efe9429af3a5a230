import Derived.Test.YtaendjjelpmokaaDoorTk
import Derived.Test.YtaendjjelpmokaaDoorCev
namespace Go.Proofs.YtaendjjelpmokaaDoor
open Go.RowKit
set_option linter.unusedVariables false
set_option linter.unusedSimpArgs false
open Cm (Wr Tm co bf Ls lf ins Eqm)
namespace Ci
set_option maxRecDepth 100000
set_option maxHeartbeats 8000000
def ll27o_0 : Oper := { dst := some 239, op := Op.load 27 (Operand.tmp 31), type := 27, pos := "outright.go:218", after := #[], guard := none }
def ll27o_1 : Oper := { dst := some 240, op := Op.fieldAddr 33 (Operand.tmp 14) 0, type := 0, pos := "outright.go:218", after := #[], guard := none }
def ll27o_2 : Oper := { dst := some 241, op := Op.load 28 (Operand.tmp 240), type := 28, pos := "outright.go:218", after := #[{ on := 1, ground := Ground.data }], guard := none }
def ll27o_3 : Oper := { dst := some 242, op := Op.move (Operand.tmp 30), type := 3, pos := "outright.go:218", after := #[], guard := none }
def ll27o_4 : Oper := { dst := some 243, op := Op.indexAddr 28 (Operand.tmp 241) (Operand.tmp 242), type := 0, pos := "outright.go:218", after := #[{ on := 2, ground := Ground.data }, { on := 3, ground := Ground.data }], guard := none }
def ll27o_5 : Oper := { dst := some 244, op := Op.load 27 (Operand.tmp 243), type := 27, pos := "outright.go:218", after := #[{ on := 4, ground := Ground.data }], guard := none }
def ll27o_6 : Oper := { dst := some 245, op := Op.call { callee := Callee.value (Operand.func 14), args := #[Operand.tmp 239, Operand.tmp 244], argTypes := #[27, 27] }, type := 4, pos := "outright.go:218", after := #[{ on := 0, ground := Ground.data }, { on := 5, ground := Ground.data }], guard := none }
def ll27o_7 : Oper := { dst := some 246, op := Op.unOp UnOp.not 4 (Operand.tmp 245), type := 4, pos := "outright.go:218", after := #[{ on := 6, ground := Ground.data }], guard := none }
def ll27o_8 : Oper := { dst := some 247, op := Op.move (Operand.tmp 246), type := 4, pos := "outright.go:218", after := #[{ on := 7, ground := Ground.data }, { on := 6, ground := Ground.chain }], guard := none }
def ll27o_9 : Oper := { dst := some 248, op := Op.load 27 (Operand.tmp 33), type := 27, pos := "outright.go:218", after := #[{ on := 8, ground := Ground.guard }], guard := some (8, false) }
def ll27o_10 : Oper := { dst := some 249, op := Op.fieldAddr 33 (Operand.tmp 14) 1, type := 0, pos := "outright.go:218", after := #[{ on := 8, ground := Ground.guard }], guard := some (8, false) }
def ll27o_11 : Oper := { dst := some 250, op := Op.load 28 (Operand.tmp 249), type := 28, pos := "outright.go:218", after := #[{ on := 10, ground := Ground.data }, { on := 8, ground := Ground.guard }], guard := some (8, false) }
def ll27o_12 : Oper := { dst := some 251, op := Op.move (Operand.tmp 30), type := 3, pos := "outright.go:218", after := #[{ on := 8, ground := Ground.guard }], guard := some (8, false) }
def ll27o_13 : Oper := { dst := some 252, op := Op.indexAddr 28 (Operand.tmp 250) (Operand.tmp 251), type := 0, pos := "outright.go:218", after := #[{ on := 11, ground := Ground.data }, { on := 12, ground := Ground.data }, { on := 8, ground := Ground.guard }], guard := some (8, false) }
def ll27o_14 : Oper := { dst := some 253, op := Op.load 27 (Operand.tmp 252), type := 27, pos := "outright.go:218", after := #[{ on := 13, ground := Ground.data }, { on := 8, ground := Ground.guard }], guard := some (8, false) }
def ll27o_15 : Oper := { dst := some 254, op := Op.call { callee := Callee.value (Operand.func 14), args := #[Operand.tmp 248, Operand.tmp 253], argTypes := #[27, 27] }, type := 4, pos := "outright.go:218", after := #[{ on := 9, ground := Ground.data }, { on := 14, ground := Ground.data }, { on := 8, ground := Ground.chain }, { on := 8, ground := Ground.guard }], guard := some (8, false) }
def ll27o_16 : Oper := { dst := some 255, op := Op.unOp UnOp.not 4 (Operand.tmp 254), type := 4, pos := "outright.go:218", after := #[{ on := 15, ground := Ground.data }, { on := 8, ground := Ground.guard }], guard := some (8, false) }
def ll27o_17 : Oper := { dst := some 256, op := Op.pick (Operand.tmp 247) (Operand.const (Value.bool true)) (Operand.tmp 255), type := 4, pos := "outright.go:218", after := #[{ on := 8, ground := Ground.data }, { on := 16, ground := Ground.data }], guard := none }
def ll27o_18 : Oper := { dst := some 257, op := Op.move (Operand.tmp 256), type := 4, pos := "outright.go:218", after := #[{ on := 17, ground := Ground.data }, { on := 15, ground := Ground.chain }], guard := none }
def ll27o_19 : Oper := { dst := some 258, op := Op.load 27 (Operand.tmp 35), type := 27, pos := "outright.go:218", after := #[{ on := 18, ground := Ground.guard }], guard := some (18, false) }
def ll27o_20 : Oper := { dst := some 259, op := Op.fieldAddr 33 (Operand.tmp 14) 2, type := 0, pos := "outright.go:218", after := #[{ on := 18, ground := Ground.guard }], guard := some (18, false) }
def ll27o_21 : Oper := { dst := some 260, op := Op.load 28 (Operand.tmp 259), type := 28, pos := "outright.go:218", after := #[{ on := 20, ground := Ground.data }, { on := 18, ground := Ground.guard }], guard := some (18, false) }
def ll27o_22 : Oper := { dst := some 261, op := Op.move (Operand.tmp 30), type := 3, pos := "outright.go:218", after := #[{ on := 18, ground := Ground.guard }], guard := some (18, false) }
def ll27o_23 : Oper := { dst := some 262, op := Op.indexAddr 28 (Operand.tmp 260) (Operand.tmp 261), type := 0, pos := "outright.go:218", after := #[{ on := 21, ground := Ground.data }, { on := 22, ground := Ground.data }, { on := 18, ground := Ground.guard }], guard := some (18, false) }
def ll27o_24 : Oper := { dst := some 263, op := Op.load 27 (Operand.tmp 262), type := 27, pos := "outright.go:218", after := #[{ on := 23, ground := Ground.data }, { on := 18, ground := Ground.guard }], guard := some (18, false) }
def ll27o_25 : Oper := { dst := some 264, op := Op.call { callee := Callee.value (Operand.func 14), args := #[Operand.tmp 258, Operand.tmp 263], argTypes := #[27, 27] }, type := 4, pos := "outright.go:218", after := #[{ on := 19, ground := Ground.data }, { on := 24, ground := Ground.data }, { on := 18, ground := Ground.chain }, { on := 18, ground := Ground.guard }], guard := some (18, false) }
def ll27o_26 : Oper := { dst := some 265, op := Op.unOp UnOp.not 4 (Operand.tmp 264), type := 4, pos := "outright.go:218", after := #[{ on := 25, ground := Ground.data }, { on := 18, ground := Ground.guard }], guard := some (18, false) }
def ll27o_27 : Oper := { dst := some 266, op := Op.pick (Operand.tmp 257) (Operand.const (Value.bool true)) (Operand.tmp 265), type := 4, pos := "outright.go:218", after := #[{ on := 18, ground := Ground.data }, { on := 26, ground := Ground.data }], guard := none }
def ll27o : Array Oper := #[ll27o_0, ll27o_1, ll27o_2, ll27o_3, ll27o_4, ll27o_5, ll27o_6, ll27o_7, ll27o_8, ll27o_9, ll27o_10, ll27o_11, ll27o_12, ll27o_13, ll27o_14, ll27o_15, ll27o_16, ll27o_17, ll27o_18, ll27o_19, ll27o_20, ll27o_21, ll27o_22, ll27o_23, ll27o_24, ll27o_25, ll27o_26, ll27o_27]
set_option maxRecDepth 100000 in
set_option maxHeartbeats 16000000 in
theorem ll27 (Q : Exit → Act → World → Prop) (ab i b31 b33 b35 ba oa na ca bb ob nb cb bc oc nc cc : Nat) (x y z p q r : E4) (u0 u1 u2 u3 u4 u5 u6 u7 u8 u9 u10 u11 u12 u13 u15 u16 u17 u18 u19 u20 u21 u22 u23 u24 u25 u26 u27 u28 u29 u32 u34 u36 u37 u38 u39 u40 u41 u42 u43 u44 u45 u46 u47 u48 u49 u50 u51 u52 u53 u54 u55 u56 u57 u58 u59 u60 u61 u62 u63 u64 u65 u66 u67 u68 u69 u70 u71 u72 u73 u74 u75 u76 u77 u78 u79 u80 u81 u82 u83 u84 u85 u86 u87 u88 u89 u90 u91 u92 u93 u94 u95 u96 u97 u98 u99 u100 u101 u102 u103 u104 u105 u106 u107 u108 u109 u110 u111 u112 u113 u114 u115 u116 u117 u118 u119 u120 u121 u122 u123 u124 u125 u126 u127 u128 u129 u130 u131 u132 u133 u134 u135 u136 u137 u138 u139 u140 u141 u142 u143 u144 u145 u146 u147 u148 u149 u150 u151 u152 u153 u154 u155 u156 u157 u158 u159 u160 u161 u162 u163 u164 u165 u166 u167 u168 u169 u170 u171 u172 u173 u174 u175 u176 u177 u178 u179 u180 u181 u182 u183 u184 u185 u186 u187 u188 u189 u190 u191 u192 u193 u194 u195 u196 u197 u198 u199 u200 u201 u202 u203 u204 u205 u206 u207 u208 u209 u210 u211 u212 u213 u214 u215 u216 u217 u218 u219 u220 u221 u222 u223 u224 u225 u226 u227 u228 u229 u230 u231 u232 u233 u234 u235 u236 u237 u238 u239 u240 u241 u242 u243 u244 u245 u246 u247 u248 u249 u250 u251 u252 u253 u254 u255 u256 u257 u258 u259 u260 u261 u262 u263 u264 u265 u266 : Value) (W : World)
  (i0 : (0 : Int) ≤ (i : Int)) (i1 : (i : Int) < (na : Int)) (i2 : (i : Int) < (nb : Int)) (i3 : (i : Int) < (nc : Int))
  (b31_0 : W.cell? ⟨b31, 0, none⟩ = some (.int .u64 x.x0)) (b31_1 : W.cell? ⟨b31, 1, none⟩ = some (.int .u64 x.x1)) (b31_2 : W.cell? ⟨b31, 2, none⟩ = some (.int .u64 x.x2)) (b31_3 : W.cell? ⟨b31, 3, none⟩ = some (.int .u64 x.x3)) (b33_0 : W.cell? ⟨b33, 0, none⟩ = some (.int .u64 y.x0)) (b33_1 : W.cell? ⟨b33, 1, none⟩ = some (.int .u64 y.x1)) (b33_2 : W.cell? ⟨b33, 2, none⟩ = some (.int .u64 y.x2)) (b33_3 : W.cell? ⟨b33, 3, none⟩ = some (.int .u64 y.x3)) (b35_0 : W.cell? ⟨b35, 0, none⟩ = some (.int .u64 z.x0)) (b35_1 : W.cell? ⟨b35, 1, none⟩ = some (.int .u64 z.x1)) (b35_2 : W.cell? ⟨b35, 2, none⟩ = some (.int .u64 z.x2)) (b35_3 : W.cell? ⟨b35, 3, none⟩ = some (.int .u64 z.x3))
  (d0 : W.cell? ⟨ab, 0, none⟩ = some (.slice (some ⟨ba, oa, none⟩) na ca)) (d1 : W.cell? ⟨ab, 1, none⟩ = some (.slice (some ⟨bb, ob, none⟩) nb cb)) (d2 : W.cell? ⟨ab, 2, none⟩ = some (.slice (some ⟨bc, oc, none⟩) nc cc))
  (e0_0 : W.cell? ⟨ba, oa + i * 4, none⟩ = some (.int .u64 p.x0)) (e0_1 : W.cell? ⟨ba, oa + i * 4 + 1, none⟩ = some (.int .u64 p.x1)) (e0_2 : W.cell? ⟨ba, oa + i * 4 + 2, none⟩ = some (.int .u64 p.x2)) (e0_3 : W.cell? ⟨ba, oa + i * 4 + 3, none⟩ = some (.int .u64 p.x3)) (e1_0 : W.cell? ⟨bb, ob + i * 4, none⟩ = some (.int .u64 q.x0)) (e1_1 : W.cell? ⟨bb, ob + i * 4 + 1, none⟩ = some (.int .u64 q.x1)) (e1_2 : W.cell? ⟨bb, ob + i * 4 + 2, none⟩ = some (.int .u64 q.x2)) (e1_3 : W.cell? ⟨bb, ob + i * 4 + 3, none⟩ = some (.int .u64 q.x3)) (e2_0 : W.cell? ⟨bc, oc + i * 4, none⟩ = some (.int .u64 r.x0)) (e2_1 : W.cell? ⟨bc, oc + i * 4 + 1, none⟩ = some (.int .u64 r.x1)) (e2_2 : W.cell? ⟨bc, oc + i * 4 + 2, none⟩ = some (.int .u64 r.x2)) (e2_3 : W.cell? ⟨bc, oc + i * 4 + 3, none⟩ = some (.int .u64 r.x3))
  (C6 : Hid (∀ yy, Below W.heap.size W yy → Calls Tryd.prog 14 #[.agg #[.int .u64 x.x0, .int .u64 x.x1, .int .u64 x.x2, .int .u64 x.x3], .agg #[.int .u64 p.x0, .int .u64 p.x1, .int .u64 p.x2, .int .u64 p.x3]] yy fun e w' => e = .returned (.bool true) ∧ Below yy.heap.size yy w'))
  (C15 : Hid (∀ yy, Below W.heap.size W yy → Calls Tryd.prog 14 #[.agg #[.int .u64 y.x0, .int .u64 y.x1, .int .u64 y.x2, .int .u64 y.x3], .agg #[.int .u64 q.x0, .int .u64 q.x1, .int .u64 q.x2, .int .u64 q.x3]] yy fun e w' => e = .returned (.bool true) ∧ Below yy.heap.size yy w'))
  (C25 : Hid (∀ yy, Below W.heap.size W yy → Calls Tryd.prog 14 #[.agg #[.int .u64 z.x0, .int .u64 z.x1, .int .u64 z.x2, .int .u64 z.x3], .agg #[.int .u64 r.x0, .int .u64 r.x1, .int .u64 r.x2, .int .u64 r.x3]] yy fun e w' => e = .returned (.bool true) ∧ Below yy.heap.size yy w'))
  (HQ : Hid (∀ (wz : World), Below W.heap.size W wz → Q .normal ⟨#[u0, u1, u2, u3, u4, u5, u6, u7, u8, u9, u10, u11, u12, u13, .pointer (some ⟨ab, 0, none⟩), u15, u16, u17, u18, u19, u20, u21, u22, u23, u24, u25, u26, u27, u28, u29, .int .i64 (i : Int), .pointer (some ⟨b31, 0, none⟩), u32, .pointer (some ⟨b33, 0, none⟩), u34, .pointer (some ⟨b35, 0, none⟩), u36, u37, u38, u39, u40, u41, u42, u43, u44, u45, u46, u47, u48, u49, u50, u51, u52, u53, u54, u55, u56, u57, u58, u59, u60, u61, u62, u63, u64, u65, u66, u67, u68, u69, u70, u71, u72, u73, u74, u75, u76, u77, u78, u79, u80, u81, u82, u83, u84, u85, u86, u87, u88, u89, u90, u91, u92, u93, u94, u95, u96, u97, u98, u99, u100, u101, u102, u103, u104, u105, u106, u107, u108, u109, u110, u111, u112, u113, u114, u115, u116, u117, u118, u119, u120, u121, u122, u123, u124, u125, u126, u127, u128, u129, u130, u131, u132, u133, u134, u135, u136, u137, u138, u139, u140, u141, u142, u143, u144, u145, u146, u147, u148, u149, u150, u151, u152, u153, u154, u155, u156, u157, u158, u159, u160, u161, u162, u163, u164, u165, u166, u167, u168, u169, u170, u171, u172, u173, u174, u175, u176, u177, u178, u179, u180, u181, u182, u183, u184, u185, u186, u187, u188, u189, u190, u191, u192, u193, u194, u195, u196, u197, u198, u199, u200, u201, u202, u203, u204, u205, u206, u207, u208, u209, u210, u211, u212, u213, u214, u215, u216, u217, u218, u219, u220, u221, u222, u223, u224, u225, u226, u227, u228, u229, u230, u231, u232, u233, u234, u235, u236, u237, u238, .agg #[.int .u64 x.x0, .int .u64 x.x1, .int .u64 x.x2, .int .u64 x.x3], .pointer (some ⟨ab, 0, none⟩), .slice (some ⟨ba, oa, none⟩) na ca, .int .i64 (i : Int), .pointer (some ⟨ba, oa + i * 4, none⟩), .agg #[.int .u64 p.x0, .int .u64 p.x1, .int .u64 p.x2, .int .u64 p.x3], .bool true, .bool false, .bool false, .agg #[.int .u64 y.x0, .int .u64 y.x1, .int .u64 y.x2, .int .u64 y.x3], .pointer (some ⟨ab, 1, none⟩), .slice (some ⟨bb, ob, none⟩) nb cb, .int .i64 (i : Int), .pointer (some ⟨bb, ob + i * 4, none⟩), .agg #[.int .u64 q.x0, .int .u64 q.x1, .int .u64 q.x2, .int .u64 q.x3], .bool true, .bool false, .bool false, .bool false, .agg #[.int .u64 z.x0, .int .u64 z.x1, .int .u64 z.x2, .int .u64 z.x3], .pointer (some ⟨ab, 2, none⟩), .slice (some ⟨bc, oc, none⟩) nc cc, .int .i64 (i : Int), .pointer (some ⟨bc, oc + i * 4, none⟩), .agg #[.int .u64 r.x0, .int .u64 r.x1, .int .u64 r.x2, .int .u64 r.x3], .bool true, .bool false, .bool false], []⟩ wz)) : (Code.region 27 ll27o true).wp Tryd.prog Q ⟨#[u0, u1, u2, u3, u4, u5, u6, u7, u8, u9, u10, u11, u12, u13, .pointer (some ⟨ab, 0, none⟩), u15, u16, u17, u18, u19, u20, u21, u22, u23, u24, u25, u26, u27, u28, u29, .int .i64 (i : Int), .pointer (some ⟨b31, 0, none⟩), u32, .pointer (some ⟨b33, 0, none⟩), u34, .pointer (some ⟨b35, 0, none⟩), u36, u37, u38, u39, u40, u41, u42, u43, u44, u45, u46, u47, u48, u49, u50, u51, u52, u53, u54, u55, u56, u57, u58, u59, u60, u61, u62, u63, u64, u65, u66, u67, u68, u69, u70, u71, u72, u73, u74, u75, u76, u77, u78, u79, u80, u81, u82, u83, u84, u85, u86, u87, u88, u89, u90, u91, u92, u93, u94, u95, u96, u97, u98, u99, u100, u101, u102, u103, u104, u105, u106, u107, u108, u109, u110, u111, u112, u113, u114, u115, u116, u117, u118, u119, u120, u121, u122, u123, u124, u125, u126, u127, u128, u129, u130, u131, u132, u133, u134, u135, u136, u137, u138, u139, u140, u141, u142, u143, u144, u145, u146, u147, u148, u149, u150, u151, u152, u153, u154, u155, u156, u157, u158, u159, u160, u161, u162, u163, u164, u165, u166, u167, u168, u169, u170, u171, u172, u173, u174, u175, u176, u177, u178, u179, u180, u181, u182, u183, u184, u185, u186, u187, u188, u189, u190, u191, u192, u193, u194, u195, u196, u197, u198, u199, u200, u201, u202, u203, u204, u205, u206, u207, u208, u209, u210, u211, u212, u213, u214, u215, u216, u217, u218, u219, u220, u221, u222, u223, u224, u225, u226, u227, u228, u229, u230, u231, u232, u233, u234, u235, u236, u237, u238, u239, u240, u241, u242, u243, u244, u245, u246, u247, u248, u249, u250, u251, u252, u253, u254, u255, u256, u257, u258, u259, u260, u261, u262, u263, u264, u265, u266], []⟩ W := by
 unfold ll27o
 refine wp_region_noPanic ?_
 refine wp_region_held_drew (S := fun x => Below W.heap.size W x) (by kernel_rfl) (bl_drew W) (fun hH0 => ?_)
 refine tk 0 ll27o_0 (.agg #[.int .u64 x.x0, .int .u64 x.x1, .int .u64 x.x2, .int .u64 x.x3]) rfl (by kernel_rfl) hH0 rfl (fun w0 hSw => ?_) ?_
 ·(unfold ll27o_0; have hS : Below W.heap.size W w0 := hSw; have a0 := cell_keep b31_0 hS; have a1 := cell_keep b31_1 hS; have a2 := cell_keep b31_2 hS; have a3 := cell_keep b31_3 hS; clear hS hSw; go_simp)
 simp only [ll27o_0, Act.put, sA, sB, sC]
 refine tk 1 ll27o_1 (.pointer (some ⟨ab, 0, none⟩)) rfl (by kernel_rfl) hH0 rfl (fun w0 hSw => ?_) ?_
 ·(unfold ll27o_1; clear hSw; go_simp)
 simp only [ll27o_1, Act.put, sA, sB, sC]
 refine tk 3 ll27o_3 (.int .i64 (i : Int)) rfl (by kernel_rfl) hH0 rfl (fun w0 hSw => ?_) ?_
 ·(unfold ll27o_3; clear hSw; go_simp)
 simp only [ll27o_3, Act.put, sA, sB, sC]
 refine tk 2 ll27o_2 (.slice (some ⟨ba, oa, none⟩) na ca) rfl (by kernel_rfl) hH0 rfl (fun w0 hSw => ?_) ?_
 ·(unfold ll27o_2; have hS : Below W.heap.size W w0 := hSw; have a0 := cell_keep d0 hS; clear hS hSw; go_simp)
 simp only [ll27o_2, Act.put, sA, sB, sC]
 refine tk 4 ll27o_4 (.pointer (some ⟨ba, oa + i * 4, none⟩)) rfl (by kernel_rfl) hH0 rfl (fun w0 hSw => ?_) ?_
 ·(unfold ll27o_4; clear hSw; go_simp)
 simp only [ll27o_4, Act.put, sA, sB, sC]
 refine tk 5 ll27o_5 (.agg #[.int .u64 p.x0, .int .u64 p.x1, .int .u64 p.x2, .int .u64 p.x3]) rfl (by kernel_rfl) hH0 rfl (fun w0 hSw => ?_) ?_
 ·(unfold ll27o_5; have hS : Below W.heap.size W w0 := hSw; have a0 := cell_keep e0_0 hS; have a1 := cell_keep e0_1 hS; have a2 := cell_keep e0_2 hS; have a3 := cell_keep e0_3 hS; clear hS hSw; go_simp)
 simp only [ll27o_5, Act.put, sA, sB, sC]
 refine wpAnyH_ready (rs := [6]) (by kernel_rfl) (by simp) ?_
 refine AllReadyH.cons (o := ll27o_6) rfl (fun K hK => ?_) AllReadyH.nil
 unfold ll27o_6
 have HH := hidden hH0
 clear hH0
 go_simp
 refine (C6.out _ HH.out).mono ?_
 rintro e wn1 ⟨rfl, hb⟩
 have SN := hidden (bl_trans HH.out hb)
 clear HH hb
 go_wp2_with fail
 refine hK.out _ _ SN.out (fun hH1 => ?_)
 clear hK K SN
 refine tk 7 ll27o_7 (.bool false) rfl (by kernel_rfl) hH1 rfl (fun w0 hSw => ?_) ?_
 ·(unfold ll27o_7; clear hSw; go_simp)
 simp only [ll27o_7, Act.put, sA, sB, sC]
 refine tk 8 ll27o_8 (.bool false) rfl (by kernel_rfl) hH1 rfl (fun w0 hSw => ?_) ?_
 ·(unfold ll27o_8; clear hSw; go_simp)
 simp only [ll27o_8, Act.put, sA, sB, sC]
 refine tk 9 ll27o_9 (.agg #[.int .u64 y.x0, .int .u64 y.x1, .int .u64 y.x2, .int .u64 y.x3]) rfl (by kernel_rfl) hH1 rfl (fun w0 hSw => ?_) ?_
 ·(unfold ll27o_9; have hS : Below W.heap.size W w0 := hSw; have a0 := cell_keep b33_0 hS; have a1 := cell_keep b33_1 hS; have a2 := cell_keep b33_2 hS; have a3 := cell_keep b33_3 hS; clear hS hSw; go_simp)
 simp only [ll27o_9, Act.put, sA, sB, sC]
 refine tk 10 ll27o_10 (.pointer (some ⟨ab, 1, none⟩)) rfl (by kernel_rfl) hH1 rfl (fun w0 hSw => ?_) ?_
 ·(unfold ll27o_10; clear hSw; go_simp)
 simp only [ll27o_10, Act.put, sA, sB, sC]
 refine tk 12 ll27o_12 (.int .i64 (i : Int)) rfl (by kernel_rfl) hH1 rfl (fun w0 hSw => ?_) ?_
 ·(unfold ll27o_12; clear hSw; go_simp)
 simp only [ll27o_12, Act.put, sA, sB, sC]
 refine tk 11 ll27o_11 (.slice (some ⟨bb, ob, none⟩) nb cb) rfl (by kernel_rfl) hH1 rfl (fun w0 hSw => ?_) ?_
 ·(unfold ll27o_11; have hS : Below W.heap.size W w0 := hSw; have a0 := cell_keep d1 hS; clear hS hSw; go_simp)
 simp only [ll27o_11, Act.put, sA, sB, sC]
 refine tk 13 ll27o_13 (.pointer (some ⟨bb, ob + i * 4, none⟩)) rfl (by kernel_rfl) hH1 rfl (fun w0 hSw => ?_) ?_
 ·(unfold ll27o_13; clear hSw; go_simp)
 simp only [ll27o_13, Act.put, sA, sB, sC]
 refine tk 14 ll27o_14 (.agg #[.int .u64 q.x0, .int .u64 q.x1, .int .u64 q.x2, .int .u64 q.x3]) rfl (by kernel_rfl) hH1 rfl (fun w0 hSw => ?_) ?_
 ·(unfold ll27o_14; have hS : Below W.heap.size W w0 := hSw; have a0 := cell_keep e1_0 hS; have a1 := cell_keep e1_1 hS; have a2 := cell_keep e1_2 hS; have a3 := cell_keep e1_3 hS; clear hS hSw; go_simp)
 simp only [ll27o_14, Act.put, sA, sB, sC]
 refine wpAnyH_ready (rs := [15]) (by kernel_rfl) (by simp) ?_
 refine AllReadyH.cons (o := ll27o_15) rfl (fun K hK => ?_) AllReadyH.nil
 unfold ll27o_15
 have HH := hidden hH1
 clear hH1
 go_simp
 refine (C15.out _ HH.out).mono ?_
 rintro e wn2 ⟨rfl, hb⟩
 have SN := hidden (bl_trans HH.out hb)
 clear HH hb
 go_wp2_with fail
 refine hK.out _ _ SN.out (fun hH2 => ?_)
 clear hK K SN
 refine tk 16 ll27o_16 (.bool false) rfl (by kernel_rfl) hH2 rfl (fun w0 hSw => ?_) ?_
 ·(unfold ll27o_16; clear hSw; go_simp)
 simp only [ll27o_16, Act.put, sA, sB, sC]
 refine tk 17 ll27o_17 (.bool false) rfl (by kernel_rfl) hH2 rfl (fun w0 hSw => ?_) ?_
 ·(unfold ll27o_17; clear hSw; go_simp)
 simp only [ll27o_17, Act.put, sA, sB, sC]
 refine tk 18 ll27o_18 (.bool false) rfl (by kernel_rfl) hH2 rfl (fun w0 hSw => ?_) ?_
 ·(unfold ll27o_18; clear hSw; go_simp)
 simp only [ll27o_18, Act.put, sA, sB, sC]
 refine tk 19 ll27o_19 (.agg #[.int .u64 z.x0, .int .u64 z.x1, .int .u64 z.x2, .int .u64 z.x3]) rfl (by kernel_rfl) hH2 rfl (fun w0 hSw => ?_) ?_
 ·(unfold ll27o_19; have hS : Below W.heap.size W w0 := hSw; have a0 := cell_keep b35_0 hS; have a1 := cell_keep b35_1 hS; have a2 := cell_keep b35_2 hS; have a3 := cell_keep b35_3 hS; clear hS hSw; go_simp)
 simp only [ll27o_19, Act.put, sA, sB, sC]
 refine tk 20 ll27o_20 (.pointer (some ⟨ab, 2, none⟩)) rfl (by kernel_rfl) hH2 rfl (fun w0 hSw => ?_) ?_
 ·(unfold ll27o_20; clear hSw; go_simp)
 simp only [ll27o_20, Act.put, sA, sB, sC]
 refine tk 22 ll27o_22 (.int .i64 (i : Int)) rfl (by kernel_rfl) hH2 rfl (fun w0 hSw => ?_) ?_
 ·(unfold ll27o_22; clear hSw; go_simp)
 simp only [ll27o_22, Act.put, sA, sB, sC]
 refine tk 21 ll27o_21 (.slice (some ⟨bc, oc, none⟩) nc cc) rfl (by kernel_rfl) hH2 rfl (fun w0 hSw => ?_) ?_
 ·(unfold ll27o_21; have hS : Below W.heap.size W w0 := hSw; have a0 := cell_keep d2 hS; clear hS hSw; go_simp)
 simp only [ll27o_21, Act.put, sA, sB, sC]
 refine tk 23 ll27o_23 (.pointer (some ⟨bc, oc + i * 4, none⟩)) rfl (by kernel_rfl) hH2 rfl (fun w0 hSw => ?_) ?_
 ·(unfold ll27o_23; clear hSw; go_simp)
 simp only [ll27o_23, Act.put, sA, sB, sC]
 refine tk 24 ll27o_24 (.agg #[.int .u64 r.x0, .int .u64 r.x1, .int .u64 r.x2, .int .u64 r.x3]) rfl (by kernel_rfl) hH2 rfl (fun w0 hSw => ?_) ?_
 ·(unfold ll27o_24; have hS : Below W.heap.size W w0 := hSw; have a0 := cell_keep e2_0 hS; have a1 := cell_keep e2_1 hS; have a2 := cell_keep e2_2 hS; have a3 := cell_keep e2_3 hS; clear hS hSw; go_simp)
 simp only [ll27o_24, Act.put, sA, sB, sC]
 refine wpAnyH_ready (rs := [25]) (by kernel_rfl) (by simp) ?_
 refine AllReadyH.cons (o := ll27o_25) rfl (fun K hK => ?_) AllReadyH.nil
 unfold ll27o_25
 have HH := hidden hH2
 clear hH2
 go_simp
 refine (C25.out _ HH.out).mono ?_
 rintro e wn3 ⟨rfl, hb⟩
 have SN := hidden (bl_trans HH.out hb)
 clear HH hb
 go_wp2_with fail
 refine hK.out _ _ SN.out (fun hH3 => ?_)
 clear hK K SN
 refine tk 26 ll27o_26 (.bool false) rfl (by kernel_rfl) hH3 rfl (fun w0 hSw => ?_) ?_
 ·(unfold ll27o_26; clear hSw; go_simp)
 simp only [ll27o_26, Act.put, sA, sB, sC]
 refine tk 27 ll27o_27 (.bool false) rfl (by kernel_rfl) hH3 rfl (fun w0 hSw => ?_) ?_
 ·(unfold ll27o_27; clear hSw; go_simp)
 simp only [ll27o_27, Act.put, sA, sB, sC]
 have HH := hidden hH3
 have FQ := hidden (HQ.out _ HH.out)
 refine wpAnyH_done (by kernel_rfl) ?_ _
 refine NoPanic.normal ?_
 exact FQ.out
end Ci
end Go.Proofs.YtaendjjelpmokaaDoor
