import Derived.Test.YtaendjjelpmokaaDoorTk
import Derived.Test.YtaendjjelpmokaaDoorCev
namespace Go.Proofs.YtaendjjelpmokaaDoor
open Go.RowKit
set_option linter.unusedVariables false
set_option linter.unusedSimpArgs false
open Cm (Wr Tm co bf Ls lf ins Eqm)
namespace Ci
set_option maxRecDepth 100000
set_option maxHeartbeats 8000000
def ll19o_0 : Oper := { dst := some 172, op := Op.load 27 (Operand.tmp 20), type := 27, pos := "outright.go:211", after := #[], guard := none }
def ll19o_1 : Oper := { dst := some 173, op := Op.load 27 (Operand.tmp 16), type := 27, pos := "outright.go:211", after := #[], guard := none }
def ll19o_2 : Oper := { dst := some 174, op := Op.load 27 (Operand.tmp 18), type := 27, pos := "outright.go:211", after := #[], guard := none }
def ll19o_3 : Oper := { dst := some 175, op := Op.call { callee := Callee.value (Operand.func 15), args := #[Operand.tmp 173, Operand.tmp 174], argTypes := #[27, 27] }, type := 27, pos := "outright.go:211", after := #[{ on := 1, ground := Ground.data }, { on := 2, ground := Ground.data }], guard := none }
def ll19o_4 : Oper := { dst := some 176, op := Op.call { callee := Callee.value (Operand.func 14), args := #[Operand.tmp 172, Operand.tmp 175], argTypes := #[27, 27] }, type := 4, pos := "outright.go:211", after := #[{ on := 0, ground := Ground.data }, { on := 3, ground := Ground.data }, { on := 3, ground := Ground.chain }], guard := none }
def ll19o_5 : Oper := { dst := some 177, op := Op.unOp UnOp.not 4 (Operand.tmp 176), type := 4, pos := "outright.go:211", after := #[{ on := 4, ground := Ground.data }], guard := none }
def ll19o_6 : Oper := { dst := some 178, op := Op.move (Operand.tmp 177), type := 4, pos := "outright.go:211", after := #[{ on := 5, ground := Ground.data }, { on := 4, ground := Ground.chain }], guard := none }
def ll19o_7 : Oper := { dst := some 179, op := Op.load 27 (Operand.tmp 22), type := 27, pos := "outright.go:211", after := #[{ on := 6, ground := Ground.guard }], guard := some (6, false) }
def ll19o_8 : Oper := { dst := some 180, op := Op.load 27 (Operand.tmp 16), type := 27, pos := "outright.go:211", after := #[{ on := 6, ground := Ground.guard }], guard := some (6, false) }
def ll19o_9 : Oper := { dst := some 181, op := Op.load 27 (Operand.tmp 18), type := 27, pos := "outright.go:211", after := #[{ on := 6, ground := Ground.guard }], guard := some (6, false) }
def ll19o_10 : Oper := { dst := some 182, op := Op.call { callee := Callee.value (Operand.func 16), args := #[Operand.tmp 180, Operand.tmp 181], argTypes := #[27, 27] }, type := 27, pos := "outright.go:211", after := #[{ on := 8, ground := Ground.data }, { on := 9, ground := Ground.data }, { on := 6, ground := Ground.chain }, { on := 6, ground := Ground.guard }], guard := some (6, false) }
def ll19o_11 : Oper := { dst := some 183, op := Op.call { callee := Callee.value (Operand.func 14), args := #[Operand.tmp 179, Operand.tmp 182], argTypes := #[27, 27] }, type := 4, pos := "outright.go:211", after := #[{ on := 7, ground := Ground.data }, { on := 10, ground := Ground.data }, { on := 10, ground := Ground.chain }, { on := 6, ground := Ground.guard }], guard := some (6, false) }
def ll19o_12 : Oper := { dst := some 184, op := Op.unOp UnOp.not 4 (Operand.tmp 183), type := 4, pos := "outright.go:211", after := #[{ on := 11, ground := Ground.data }, { on := 6, ground := Ground.guard }], guard := some (6, false) }
def ll19o_13 : Oper := { dst := some 185, op := Op.pick (Operand.tmp 178) (Operand.const (Value.bool true)) (Operand.tmp 184), type := 4, pos := "outright.go:211", after := #[{ on := 6, ground := Ground.data }, { on := 12, ground := Ground.data }], guard := none }
def ll19o_14 : Oper := { dst := some 186, op := Op.move (Operand.tmp 185), type := 4, pos := "outright.go:211", after := #[{ on := 13, ground := Ground.data }, { on := 11, ground := Ground.chain }], guard := none }
def ll19o_15 : Oper := { dst := some 187, op := Op.load 27 (Operand.tmp 24), type := 27, pos := "outright.go:211", after := #[{ on := 14, ground := Ground.guard }], guard := some (14, false) }
def ll19o_16 : Oper := { dst := some 188, op := Op.load 27 (Operand.tmp 10), type := 27, pos := "outright.go:211", after := #[{ on := 14, ground := Ground.guard }], guard := some (14, false) }
def ll19o_17 : Oper := { dst := some 189, op := Op.load 27 (Operand.tmp 16), type := 27, pos := "outright.go:211", after := #[{ on := 14, ground := Ground.guard }], guard := some (14, false) }
def ll19o_18 : Oper := { dst := some 190, op := Op.call { callee := Callee.value (Operand.func 17), args := #[Operand.tmp 188, Operand.tmp 189], argTypes := #[27, 27] }, type := 27, pos := "outright.go:211", after := #[{ on := 16, ground := Ground.data }, { on := 17, ground := Ground.data }, { on := 14, ground := Ground.chain }, { on := 14, ground := Ground.guard }], guard := some (14, false) }
def ll19o_19 : Oper := { dst := some 191, op := Op.call { callee := Callee.value (Operand.func 14), args := #[Operand.tmp 187, Operand.tmp 190], argTypes := #[27, 27] }, type := 4, pos := "outright.go:211", after := #[{ on := 15, ground := Ground.data }, { on := 18, ground := Ground.data }, { on := 18, ground := Ground.chain }, { on := 14, ground := Ground.guard }], guard := some (14, false) }
def ll19o_20 : Oper := { dst := some 192, op := Op.unOp UnOp.not 4 (Operand.tmp 191), type := 4, pos := "outright.go:211", after := #[{ on := 19, ground := Ground.data }, { on := 14, ground := Ground.guard }], guard := some (14, false) }
def ll19o_21 : Oper := { dst := some 193, op := Op.pick (Operand.tmp 186) (Operand.const (Value.bool true)) (Operand.tmp 192), type := 4, pos := "outright.go:211", after := #[{ on := 14, ground := Ground.data }, { on := 20, ground := Ground.data }], guard := none }
def ll19o_22 : Oper := { dst := some 194, op := Op.move (Operand.tmp 193), type := 4, pos := "outright.go:211", after := #[{ on := 21, ground := Ground.data }, { on := 19, ground := Ground.chain }], guard := none }
def ll19o_23 : Oper := { dst := some 195, op := Op.load 27 (Operand.tmp 26), type := 27, pos := "outright.go:211", after := #[{ on := 22, ground := Ground.guard }], guard := some (22, false) }
def ll19o_24 : Oper := { dst := some 196, op := Op.load 27 (Operand.tmp 16), type := 27, pos := "outright.go:211", after := #[{ on := 22, ground := Ground.guard }], guard := some (22, false) }
def ll19o_25 : Oper := { dst := some 197, op := Op.call { callee := Callee.value (Operand.func 14), args := #[Operand.tmp 195, Operand.tmp 196], argTypes := #[27, 27] }, type := 4, pos := "outright.go:211", after := #[{ on := 23, ground := Ground.data }, { on := 24, ground := Ground.data }, { on := 22, ground := Ground.chain }, { on := 22, ground := Ground.guard }], guard := some (22, false) }
def ll19o_26 : Oper := { dst := some 198, op := Op.unOp UnOp.not 4 (Operand.tmp 197), type := 4, pos := "outright.go:211", after := #[{ on := 25, ground := Ground.data }, { on := 22, ground := Ground.guard }], guard := some (22, false) }
def ll19o_27 : Oper := { dst := some 199, op := Op.pick (Operand.tmp 194) (Operand.const (Value.bool true)) (Operand.tmp 198), type := 4, pos := "outright.go:211", after := #[{ on := 22, ground := Ground.data }, { on := 26, ground := Ground.data }], guard := none }
def ll19o_28 : Oper := { dst := some 200, op := Op.move (Operand.tmp 199), type := 4, pos := "outright.go:211", after := #[{ on := 27, ground := Ground.data }, { on := 25, ground := Ground.chain }], guard := none }
def ll19o_29 : Oper := { dst := some 201, op := Op.load 27 (Operand.tmp 28), type := 27, pos := "outright.go:211", after := #[{ on := 28, ground := Ground.guard }], guard := some (28, false) }
def ll19o_30 : Oper := { dst := some 202, op := Op.load 27 (Operand.tmp 10), type := 27, pos := "outright.go:211", after := #[{ on := 28, ground := Ground.guard }], guard := some (28, false) }
def ll19o_31 : Oper := { dst := some 203, op := Op.call { callee := Callee.value (Operand.func 14), args := #[Operand.tmp 201, Operand.tmp 202], argTypes := #[27, 27] }, type := 4, pos := "outright.go:211", after := #[{ on := 29, ground := Ground.data }, { on := 30, ground := Ground.data }, { on := 28, ground := Ground.chain }, { on := 28, ground := Ground.guard }], guard := some (28, false) }
def ll19o_32 : Oper := { dst := some 204, op := Op.unOp UnOp.not 4 (Operand.tmp 203), type := 4, pos := "outright.go:211", after := #[{ on := 31, ground := Ground.data }, { on := 28, ground := Ground.guard }], guard := some (28, false) }
def ll19o_33 : Oper := { dst := some 205, op := Op.pick (Operand.tmp 200) (Operand.const (Value.bool true)) (Operand.tmp 204), type := 4, pos := "outright.go:211", after := #[{ on := 28, ground := Ground.data }, { on := 32, ground := Ground.data }], guard := none }
def ll19o : Array Oper := #[ll19o_0, ll19o_1, ll19o_2, ll19o_3, ll19o_4, ll19o_5, ll19o_6, ll19o_7, ll19o_8, ll19o_9, ll19o_10, ll19o_11, ll19o_12, ll19o_13, ll19o_14, ll19o_15, ll19o_16, ll19o_17, ll19o_18, ll19o_19, ll19o_20, ll19o_21, ll19o_22, ll19o_23, ll19o_24, ll19o_25, ll19o_26, ll19o_27, ll19o_28, ll19o_29, ll19o_30, ll19o_31, ll19o_32, ll19o_33]
set_option maxRecDepth 100000 in
set_option maxHeartbeats 16000000 in
theorem ll19 (Q : Exit → Act → World → Prop) (b20 b16 b18 b22 b24 kb b26 b28 : Nat) (p x y m t k l c s1 s2 s3 : E4) (u0 u1 u2 u3 u4 u5 u6 u7 u8 u9 u11 u12 u13 u14 u15 u17 u19 u21 u23 u25 u27 u29 u30 u31 u32 u33 u34 u35 u36 u37 u38 u39 u40 u41 u42 u43 u44 u45 u46 u47 u48 u49 u50 u51 u52 u53 u54 u55 u56 u57 u58 u59 u60 u61 u62 u63 u64 u65 u66 u67 u68 u69 u70 u71 u72 u73 u74 u75 u76 u77 u78 u79 u80 u81 u82 u83 u84 u85 u86 u87 u88 u89 u90 u91 u92 u93 u94 u95 u96 u97 u98 u99 u100 u101 u102 u103 u104 u105 u106 u107 u108 u109 u110 u111 u112 u113 u114 u115 u116 u117 u118 u119 u120 u121 u122 u123 u124 u125 u126 u127 u128 u129 u130 u131 u132 u133 u134 u135 u136 u137 u138 u139 u140 u141 u142 u143 u144 u145 u146 u147 u148 u149 u150 u151 u152 u153 u154 u155 u156 u157 u158 u159 u160 u161 u162 u163 u164 u165 u166 u167 u168 u169 u170 u171 u172 u173 u174 u175 u176 u177 u178 u179 u180 u181 u182 u183 u184 u185 u186 u187 u188 u189 u190 u191 u192 u193 u194 u195 u196 u197 u198 u199 u200 u201 u202 u203 u204 u205 u206 u207 u208 u209 u210 u211 u212 u213 u214 u215 u216 u217 u218 u219 u220 u221 u222 u223 u224 u225 u226 u227 u228 u229 u230 u231 u232 u233 u234 u235 u236 u237 u238 u239 u240 u241 u242 u243 u244 u245 u246 u247 u248 u249 u250 u251 u252 u253 u254 u255 u256 u257 u258 u259 u260 u261 u262 u263 u264 u265 u266 : Value) (W : World)
  (b20_0 : W.cell? ⟨b20, 0, none⟩ = some (.int .u64 p.x0)) (b20_1 : W.cell? ⟨b20, 1, none⟩ = some (.int .u64 p.x1)) (b20_2 : W.cell? ⟨b20, 2, none⟩ = some (.int .u64 p.x2)) (b20_3 : W.cell? ⟨b20, 3, none⟩ = some (.int .u64 p.x3)) (b16_0 : W.cell? ⟨b16, 0, none⟩ = some (.int .u64 x.x0)) (b16_1 : W.cell? ⟨b16, 1, none⟩ = some (.int .u64 x.x1)) (b16_2 : W.cell? ⟨b16, 2, none⟩ = some (.int .u64 x.x2)) (b16_3 : W.cell? ⟨b16, 3, none⟩ = some (.int .u64 x.x3)) (b18_0 : W.cell? ⟨b18, 0, none⟩ = some (.int .u64 y.x0)) (b18_1 : W.cell? ⟨b18, 1, none⟩ = some (.int .u64 y.x1)) (b18_2 : W.cell? ⟨b18, 2, none⟩ = some (.int .u64 y.x2)) (b18_3 : W.cell? ⟨b18, 3, none⟩ = some (.int .u64 y.x3)) (b22_0 : W.cell? ⟨b22, 0, none⟩ = some (.int .u64 m.x0)) (b22_1 : W.cell? ⟨b22, 1, none⟩ = some (.int .u64 m.x1)) (b22_2 : W.cell? ⟨b22, 2, none⟩ = some (.int .u64 m.x2)) (b22_3 : W.cell? ⟨b22, 3, none⟩ = some (.int .u64 m.x3)) (b24_0 : W.cell? ⟨b24, 0, none⟩ = some (.int .u64 t.x0)) (b24_1 : W.cell? ⟨b24, 1, none⟩ = some (.int .u64 t.x1)) (b24_2 : W.cell? ⟨b24, 2, none⟩ = some (.int .u64 t.x2)) (b24_3 : W.cell? ⟨b24, 3, none⟩ = some (.int .u64 t.x3)) (kb_0 : W.cell? ⟨kb, 0, none⟩ = some (.int .u64 k.x0)) (kb_1 : W.cell? ⟨kb, 1, none⟩ = some (.int .u64 k.x1)) (kb_2 : W.cell? ⟨kb, 2, none⟩ = some (.int .u64 k.x2)) (kb_3 : W.cell? ⟨kb, 3, none⟩ = some (.int .u64 k.x3)) (b26_0 : W.cell? ⟨b26, 0, none⟩ = some (.int .u64 l.x0)) (b26_1 : W.cell? ⟨b26, 1, none⟩ = some (.int .u64 l.x1)) (b26_2 : W.cell? ⟨b26, 2, none⟩ = some (.int .u64 l.x2)) (b26_3 : W.cell? ⟨b26, 3, none⟩ = some (.int .u64 l.x3)) (b28_0 : W.cell? ⟨b28, 0, none⟩ = some (.int .u64 c.x0)) (b28_1 : W.cell? ⟨b28, 1, none⟩ = some (.int .u64 c.x1)) (b28_2 : W.cell? ⟨b28, 2, none⟩ = some (.int .u64 c.x2)) (b28_3 : W.cell? ⟨b28, 3, none⟩ = some (.int .u64 c.x3))
  (C3 : Hid (∀ yy, Below W.heap.size W yy → Calls Tryd.prog 15 #[.agg #[.int .u64 x.x0, .int .u64 x.x1, .int .u64 x.x2, .int .u64 x.x3], .agg #[.int .u64 y.x0, .int .u64 y.x1, .int .u64 y.x2, .int .u64 y.x3]] yy fun e w' => e = .returned (.agg #[.int .u64 s1.x0, .int .u64 s1.x1, .int .u64 s1.x2, .int .u64 s1.x3]) ∧ Below yy.heap.size yy w'))
  (C4 : Hid (∀ yy, Below W.heap.size W yy → Calls Tryd.prog 14 #[.agg #[.int .u64 p.x0, .int .u64 p.x1, .int .u64 p.x2, .int .u64 p.x3], .agg #[.int .u64 s1.x0, .int .u64 s1.x1, .int .u64 s1.x2, .int .u64 s1.x3]] yy fun e w' => e = .returned (.bool true) ∧ Below yy.heap.size yy w'))
  (C10 : Hid (∀ yy, Below W.heap.size W yy → Calls Tryd.prog 16 #[.agg #[.int .u64 x.x0, .int .u64 x.x1, .int .u64 x.x2, .int .u64 x.x3], .agg #[.int .u64 y.x0, .int .u64 y.x1, .int .u64 y.x2, .int .u64 y.x3]] yy fun e w' => e = .returned (.agg #[.int .u64 s2.x0, .int .u64 s2.x1, .int .u64 s2.x2, .int .u64 s2.x3]) ∧ Below yy.heap.size yy w'))
  (C11 : Hid (∀ yy, Below W.heap.size W yy → Calls Tryd.prog 14 #[.agg #[.int .u64 m.x0, .int .u64 m.x1, .int .u64 m.x2, .int .u64 m.x3], .agg #[.int .u64 s2.x0, .int .u64 s2.x1, .int .u64 s2.x2, .int .u64 s2.x3]] yy fun e w' => e = .returned (.bool true) ∧ Below yy.heap.size yy w'))
  (C18 : Hid (∀ yy, Below W.heap.size W yy → Calls Tryd.prog 17 #[.agg #[.int .u64 k.x0, .int .u64 k.x1, .int .u64 k.x2, .int .u64 k.x3], .agg #[.int .u64 x.x0, .int .u64 x.x1, .int .u64 x.x2, .int .u64 x.x3]] yy fun e w' => e = .returned (.agg #[.int .u64 s3.x0, .int .u64 s3.x1, .int .u64 s3.x2, .int .u64 s3.x3]) ∧ Below yy.heap.size yy w'))
  (C19 : Hid (∀ yy, Below W.heap.size W yy → Calls Tryd.prog 14 #[.agg #[.int .u64 t.x0, .int .u64 t.x1, .int .u64 t.x2, .int .u64 t.x3], .agg #[.int .u64 s3.x0, .int .u64 s3.x1, .int .u64 s3.x2, .int .u64 s3.x3]] yy fun e w' => e = .returned (.bool true) ∧ Below yy.heap.size yy w'))
  (C25 : Hid (∀ yy, Below W.heap.size W yy → Calls Tryd.prog 14 #[.agg #[.int .u64 l.x0, .int .u64 l.x1, .int .u64 l.x2, .int .u64 l.x3], .agg #[.int .u64 x.x0, .int .u64 x.x1, .int .u64 x.x2, .int .u64 x.x3]] yy fun e w' => e = .returned (.bool true) ∧ Below yy.heap.size yy w'))
  (C31 : Hid (∀ yy, Below W.heap.size W yy → Calls Tryd.prog 14 #[.agg #[.int .u64 c.x0, .int .u64 c.x1, .int .u64 c.x2, .int .u64 c.x3], .agg #[.int .u64 k.x0, .int .u64 k.x1, .int .u64 k.x2, .int .u64 k.x3]] yy fun e w' => e = .returned (.bool true) ∧ Below yy.heap.size yy w'))
  (HQ : Hid (∀ (wz : World), Below W.heap.size W wz → Q .normal ⟨#[u0, u1, u2, u3, u4, u5, u6, u7, u8, u9, .pointer (some ⟨kb, 0, none⟩), u11, u12, u13, u14, u15, .pointer (some ⟨b16, 0, none⟩), u17, .pointer (some ⟨b18, 0, none⟩), u19, .pointer (some ⟨b20, 0, none⟩), u21, .pointer (some ⟨b22, 0, none⟩), u23, .pointer (some ⟨b24, 0, none⟩), u25, .pointer (some ⟨b26, 0, none⟩), u27, .pointer (some ⟨b28, 0, none⟩), u29, u30, u31, u32, u33, u34, u35, u36, u37, u38, u39, u40, u41, u42, u43, u44, u45, u46, u47, u48, u49, u50, u51, u52, u53, u54, u55, u56, u57, u58, u59, u60, u61, u62, u63, u64, u65, u66, u67, u68, u69, u70, u71, u72, u73, u74, u75, u76, u77, u78, u79, u80, u81, u82, u83, u84, u85, u86, u87, u88, u89, u90, u91, u92, u93, u94, u95, u96, u97, u98, u99, u100, u101, u102, u103, u104, u105, u106, u107, u108, u109, u110, u111, u112, u113, u114, u115, u116, u117, u118, u119, u120, u121, u122, u123, u124, u125, u126, u127, u128, u129, u130, u131, u132, u133, u134, u135, u136, u137, u138, u139, u140, u141, u142, u143, u144, u145, u146, u147, u148, u149, u150, u151, u152, u153, u154, u155, u156, u157, u158, u159, u160, u161, u162, u163, u164, u165, u166, u167, u168, u169, u170, u171, .agg #[.int .u64 p.x0, .int .u64 p.x1, .int .u64 p.x2, .int .u64 p.x3], .agg #[.int .u64 x.x0, .int .u64 x.x1, .int .u64 x.x2, .int .u64 x.x3], .agg #[.int .u64 y.x0, .int .u64 y.x1, .int .u64 y.x2, .int .u64 y.x3], .agg #[.int .u64 s1.x0, .int .u64 s1.x1, .int .u64 s1.x2, .int .u64 s1.x3], .bool true, .bool false, .bool false, .agg #[.int .u64 m.x0, .int .u64 m.x1, .int .u64 m.x2, .int .u64 m.x3], .agg #[.int .u64 x.x0, .int .u64 x.x1, .int .u64 x.x2, .int .u64 x.x3], .agg #[.int .u64 y.x0, .int .u64 y.x1, .int .u64 y.x2, .int .u64 y.x3], .agg #[.int .u64 s2.x0, .int .u64 s2.x1, .int .u64 s2.x2, .int .u64 s2.x3], .bool true, .bool false, .bool false, .bool false, .agg #[.int .u64 t.x0, .int .u64 t.x1, .int .u64 t.x2, .int .u64 t.x3], .agg #[.int .u64 k.x0, .int .u64 k.x1, .int .u64 k.x2, .int .u64 k.x3], .agg #[.int .u64 x.x0, .int .u64 x.x1, .int .u64 x.x2, .int .u64 x.x3], .agg #[.int .u64 s3.x0, .int .u64 s3.x1, .int .u64 s3.x2, .int .u64 s3.x3], .bool true, .bool false, .bool false, .bool false, .agg #[.int .u64 l.x0, .int .u64 l.x1, .int .u64 l.x2, .int .u64 l.x3], .agg #[.int .u64 x.x0, .int .u64 x.x1, .int .u64 x.x2, .int .u64 x.x3], .bool true, .bool false, .bool false, .bool false, .agg #[.int .u64 c.x0, .int .u64 c.x1, .int .u64 c.x2, .int .u64 c.x3], .agg #[.int .u64 k.x0, .int .u64 k.x1, .int .u64 k.x2, .int .u64 k.x3], .bool true, .bool false, .bool false, u206, u207, u208, u209, u210, u211, u212, u213, u214, u215, u216, u217, u218, u219, u220, u221, u222, u223, u224, u225, u226, u227, u228, u229, u230, u231, u232, u233, u234, u235, u236, u237, u238, u239, u240, u241, u242, u243, u244, u245, u246, u247, u248, u249, u250, u251, u252, u253, u254, u255, u256, u257, u258, u259, u260, u261, u262, u263, u264, u265, u266], []⟩ wz)) : (Code.region 19 ll19o true).wp Tryd.prog Q ⟨#[u0, u1, u2, u3, u4, u5, u6, u7, u8, u9, .pointer (some ⟨kb, 0, none⟩), u11, u12, u13, u14, u15, .pointer (some ⟨b16, 0, none⟩), u17, .pointer (some ⟨b18, 0, none⟩), u19, .pointer (some ⟨b20, 0, none⟩), u21, .pointer (some ⟨b22, 0, none⟩), u23, .pointer (some ⟨b24, 0, none⟩), u25, .pointer (some ⟨b26, 0, none⟩), u27, .pointer (some ⟨b28, 0, none⟩), u29, u30, u31, u32, u33, u34, u35, u36, u37, u38, u39, u40, u41, u42, u43, u44, u45, u46, u47, u48, u49, u50, u51, u52, u53, u54, u55, u56, u57, u58, u59, u60, u61, u62, u63, u64, u65, u66, u67, u68, u69, u70, u71, u72, u73, u74, u75, u76, u77, u78, u79, u80, u81, u82, u83, u84, u85, u86, u87, u88, u89, u90, u91, u92, u93, u94, u95, u96, u97, u98, u99, u100, u101, u102, u103, u104, u105, u106, u107, u108, u109, u110, u111, u112, u113, u114, u115, u116, u117, u118, u119, u120, u121, u122, u123, u124, u125, u126, u127, u128, u129, u130, u131, u132, u133, u134, u135, u136, u137, u138, u139, u140, u141, u142, u143, u144, u145, u146, u147, u148, u149, u150, u151, u152, u153, u154, u155, u156, u157, u158, u159, u160, u161, u162, u163, u164, u165, u166, u167, u168, u169, u170, u171, u172, u173, u174, u175, u176, u177, u178, u179, u180, u181, u182, u183, u184, u185, u186, u187, u188, u189, u190, u191, u192, u193, u194, u195, u196, u197, u198, u199, u200, u201, u202, u203, u204, u205, u206, u207, u208, u209, u210, u211, u212, u213, u214, u215, u216, u217, u218, u219, u220, u221, u222, u223, u224, u225, u226, u227, u228, u229, u230, u231, u232, u233, u234, u235, u236, u237, u238, u239, u240, u241, u242, u243, u244, u245, u246, u247, u248, u249, u250, u251, u252, u253, u254, u255, u256, u257, u258, u259, u260, u261, u262, u263, u264, u265, u266], []⟩ W := by
 unfold ll19o
 refine wp_region_noPanic ?_
 refine wp_region_held_drew (S := fun x => Below W.heap.size W x) (by kernel_rfl) (bl_drew W) (fun hH0 => ?_)
 refine tk 0 ll19o_0 (.agg #[.int .u64 p.x0, .int .u64 p.x1, .int .u64 p.x2, .int .u64 p.x3]) rfl (by kernel_rfl) hH0 rfl (fun w0 hSw => ?_) ?_
 ·(unfold ll19o_0; have hS : Below W.heap.size W w0 := hSw; have a0 := cell_keep b20_0 hS; have a1 := cell_keep b20_1 hS; have a2 := cell_keep b20_2 hS; have a3 := cell_keep b20_3 hS; clear hS hSw; go_simp)
 simp only [ll19o_0, Act.put, sA, sB, sC]
 refine tk 1 ll19o_1 (.agg #[.int .u64 x.x0, .int .u64 x.x1, .int .u64 x.x2, .int .u64 x.x3]) rfl (by kernel_rfl) hH0 rfl (fun w0 hSw => ?_) ?_
 ·(unfold ll19o_1; have hS : Below W.heap.size W w0 := hSw; have a0 := cell_keep b16_0 hS; have a1 := cell_keep b16_1 hS; have a2 := cell_keep b16_2 hS; have a3 := cell_keep b16_3 hS; clear hS hSw; go_simp)
 simp only [ll19o_1, Act.put, sA, sB, sC]
 refine tk 2 ll19o_2 (.agg #[.int .u64 y.x0, .int .u64 y.x1, .int .u64 y.x2, .int .u64 y.x3]) rfl (by kernel_rfl) hH0 rfl (fun w0 hSw => ?_) ?_
 ·(unfold ll19o_2; have hS : Below W.heap.size W w0 := hSw; have a0 := cell_keep b18_0 hS; have a1 := cell_keep b18_1 hS; have a2 := cell_keep b18_2 hS; have a3 := cell_keep b18_3 hS; clear hS hSw; go_simp)
 simp only [ll19o_2, Act.put, sA, sB, sC]
 refine wpAnyH_ready (rs := [3]) (by kernel_rfl) (by simp) ?_
 refine AllReadyH.cons (o := ll19o_3) rfl (fun K hK => ?_) AllReadyH.nil
 unfold ll19o_3
 have HH := hidden hH0
 clear hH0
 go_simp
 refine (C3.out _ HH.out).mono ?_
 rintro e wn1 ⟨rfl, hb⟩
 have SN := hidden (bl_trans HH.out hb)
 clear HH hb
 go_wp2_with fail
 refine hK.out _ _ SN.out (fun hH1 => ?_)
 clear hK K SN
 refine wpAnyH_ready (rs := [4]) (by kernel_rfl) (by simp) ?_
 refine AllReadyH.cons (o := ll19o_4) rfl (fun K hK => ?_) AllReadyH.nil
 unfold ll19o_4
 have HH := hidden hH1
 clear hH1
 go_simp
 refine (C4.out _ HH.out).mono ?_
 rintro e wn2 ⟨rfl, hb⟩
 have SN := hidden (bl_trans HH.out hb)
 clear HH hb
 go_wp2_with fail
 refine hK.out _ _ SN.out (fun hH2 => ?_)
 clear hK K SN
 refine tk 5 ll19o_5 (.bool false) rfl (by kernel_rfl) hH2 rfl (fun w0 hSw => ?_) ?_
 ·(unfold ll19o_5; clear hSw; go_simp)
 simp only [ll19o_5, Act.put, sA, sB, sC]
 refine tk 6 ll19o_6 (.bool false) rfl (by kernel_rfl) hH2 rfl (fun w0 hSw => ?_) ?_
 ·(unfold ll19o_6; clear hSw; go_simp)
 simp only [ll19o_6, Act.put, sA, sB, sC]
 refine tk 7 ll19o_7 (.agg #[.int .u64 m.x0, .int .u64 m.x1, .int .u64 m.x2, .int .u64 m.x3]) rfl (by kernel_rfl) hH2 rfl (fun w0 hSw => ?_) ?_
 ·(unfold ll19o_7; have hS : Below W.heap.size W w0 := hSw; have a0 := cell_keep b22_0 hS; have a1 := cell_keep b22_1 hS; have a2 := cell_keep b22_2 hS; have a3 := cell_keep b22_3 hS; clear hS hSw; go_simp)
 simp only [ll19o_7, Act.put, sA, sB, sC]
 refine tk 8 ll19o_8 (.agg #[.int .u64 x.x0, .int .u64 x.x1, .int .u64 x.x2, .int .u64 x.x3]) rfl (by kernel_rfl) hH2 rfl (fun w0 hSw => ?_) ?_
 ·(unfold ll19o_8; have hS : Below W.heap.size W w0 := hSw; have a0 := cell_keep b16_0 hS; have a1 := cell_keep b16_1 hS; have a2 := cell_keep b16_2 hS; have a3 := cell_keep b16_3 hS; clear hS hSw; go_simp)
 simp only [ll19o_8, Act.put, sA, sB, sC]
 refine tk 9 ll19o_9 (.agg #[.int .u64 y.x0, .int .u64 y.x1, .int .u64 y.x2, .int .u64 y.x3]) rfl (by kernel_rfl) hH2 rfl (fun w0 hSw => ?_) ?_
 ·(unfold ll19o_9; have hS : Below W.heap.size W w0 := hSw; have a0 := cell_keep b18_0 hS; have a1 := cell_keep b18_1 hS; have a2 := cell_keep b18_2 hS; have a3 := cell_keep b18_3 hS; clear hS hSw; go_simp)
 simp only [ll19o_9, Act.put, sA, sB, sC]
 refine wpAnyH_ready (rs := [10]) (by kernel_rfl) (by simp) ?_
 refine AllReadyH.cons (o := ll19o_10) rfl (fun K hK => ?_) AllReadyH.nil
 unfold ll19o_10
 have HH := hidden hH2
 clear hH2
 go_simp
 refine (C10.out _ HH.out).mono ?_
 rintro e wn3 ⟨rfl, hb⟩
 have SN := hidden (bl_trans HH.out hb)
 clear HH hb
 go_wp2_with fail
 refine hK.out _ _ SN.out (fun hH3 => ?_)
 clear hK K SN
 refine wpAnyH_ready (rs := [11]) (by kernel_rfl) (by simp) ?_
 refine AllReadyH.cons (o := ll19o_11) rfl (fun K hK => ?_) AllReadyH.nil
 unfold ll19o_11
 have HH := hidden hH3
 clear hH3
 go_simp
 refine (C11.out _ HH.out).mono ?_
 rintro e wn4 ⟨rfl, hb⟩
 have SN := hidden (bl_trans HH.out hb)
 clear HH hb
 go_wp2_with fail
 refine hK.out _ _ SN.out (fun hH4 => ?_)
 clear hK K SN
 refine tk 12 ll19o_12 (.bool false) rfl (by kernel_rfl) hH4 rfl (fun w0 hSw => ?_) ?_
 ·(unfold ll19o_12; clear hSw; go_simp)
 simp only [ll19o_12, Act.put, sA, sB, sC]
 refine tk 13 ll19o_13 (.bool false) rfl (by kernel_rfl) hH4 rfl (fun w0 hSw => ?_) ?_
 ·(unfold ll19o_13; clear hSw; go_simp)
 simp only [ll19o_13, Act.put, sA, sB, sC]
 refine tk 14 ll19o_14 (.bool false) rfl (by kernel_rfl) hH4 rfl (fun w0 hSw => ?_) ?_
 ·(unfold ll19o_14; clear hSw; go_simp)
 simp only [ll19o_14, Act.put, sA, sB, sC]
 refine tk 15 ll19o_15 (.agg #[.int .u64 t.x0, .int .u64 t.x1, .int .u64 t.x2, .int .u64 t.x3]) rfl (by kernel_rfl) hH4 rfl (fun w0 hSw => ?_) ?_
 ·(unfold ll19o_15; have hS : Below W.heap.size W w0 := hSw; have a0 := cell_keep b24_0 hS; have a1 := cell_keep b24_1 hS; have a2 := cell_keep b24_2 hS; have a3 := cell_keep b24_3 hS; clear hS hSw; go_simp)
 simp only [ll19o_15, Act.put, sA, sB, sC]
 refine tk 16 ll19o_16 (.agg #[.int .u64 k.x0, .int .u64 k.x1, .int .u64 k.x2, .int .u64 k.x3]) rfl (by kernel_rfl) hH4 rfl (fun w0 hSw => ?_) ?_
 ·(unfold ll19o_16; have hS : Below W.heap.size W w0 := hSw; have a0 := cell_keep kb_0 hS; have a1 := cell_keep kb_1 hS; have a2 := cell_keep kb_2 hS; have a3 := cell_keep kb_3 hS; clear hS hSw; go_simp)
 simp only [ll19o_16, Act.put, sA, sB, sC]
 refine tk 17 ll19o_17 (.agg #[.int .u64 x.x0, .int .u64 x.x1, .int .u64 x.x2, .int .u64 x.x3]) rfl (by kernel_rfl) hH4 rfl (fun w0 hSw => ?_) ?_
 ·(unfold ll19o_17; have hS : Below W.heap.size W w0 := hSw; have a0 := cell_keep b16_0 hS; have a1 := cell_keep b16_1 hS; have a2 := cell_keep b16_2 hS; have a3 := cell_keep b16_3 hS; clear hS hSw; go_simp)
 simp only [ll19o_17, Act.put, sA, sB, sC]
 refine wpAnyH_ready (rs := [18]) (by kernel_rfl) (by simp) ?_
 refine AllReadyH.cons (o := ll19o_18) rfl (fun K hK => ?_) AllReadyH.nil
 unfold ll19o_18
 have HH := hidden hH4
 clear hH4
 go_simp
 refine (C18.out _ HH.out).mono ?_
 rintro e wn5 ⟨rfl, hb⟩
 have SN := hidden (bl_trans HH.out hb)
 clear HH hb
 go_wp2_with fail
 refine hK.out _ _ SN.out (fun hH5 => ?_)
 clear hK K SN
 refine wpAnyH_ready (rs := [19]) (by kernel_rfl) (by simp) ?_
 refine AllReadyH.cons (o := ll19o_19) rfl (fun K hK => ?_) AllReadyH.nil
 unfold ll19o_19
 have HH := hidden hH5
 clear hH5
 go_simp
 refine (C19.out _ HH.out).mono ?_
 rintro e wn6 ⟨rfl, hb⟩
 have SN := hidden (bl_trans HH.out hb)
 clear HH hb
 go_wp2_with fail
 refine hK.out _ _ SN.out (fun hH6 => ?_)
 clear hK K SN
 refine tk 20 ll19o_20 (.bool false) rfl (by kernel_rfl) hH6 rfl (fun w0 hSw => ?_) ?_
 ·(unfold ll19o_20; clear hSw; go_simp)
 simp only [ll19o_20, Act.put, sA, sB, sC]
 refine tk 21 ll19o_21 (.bool false) rfl (by kernel_rfl) hH6 rfl (fun w0 hSw => ?_) ?_
 ·(unfold ll19o_21; clear hSw; go_simp)
 simp only [ll19o_21, Act.put, sA, sB, sC]
 refine tk 22 ll19o_22 (.bool false) rfl (by kernel_rfl) hH6 rfl (fun w0 hSw => ?_) ?_
 ·(unfold ll19o_22; clear hSw; go_simp)
 simp only [ll19o_22, Act.put, sA, sB, sC]
 refine tk 23 ll19o_23 (.agg #[.int .u64 l.x0, .int .u64 l.x1, .int .u64 l.x2, .int .u64 l.x3]) rfl (by kernel_rfl) hH6 rfl (fun w0 hSw => ?_) ?_
 ·(unfold ll19o_23; have hS : Below W.heap.size W w0 := hSw; have a0 := cell_keep b26_0 hS; have a1 := cell_keep b26_1 hS; have a2 := cell_keep b26_2 hS; have a3 := cell_keep b26_3 hS; clear hS hSw; go_simp)
 simp only [ll19o_23, Act.put, sA, sB, sC]
 refine tk 24 ll19o_24 (.agg #[.int .u64 x.x0, .int .u64 x.x1, .int .u64 x.x2, .int .u64 x.x3]) rfl (by kernel_rfl) hH6 rfl (fun w0 hSw => ?_) ?_
 ·(unfold ll19o_24; have hS : Below W.heap.size W w0 := hSw; have a0 := cell_keep b16_0 hS; have a1 := cell_keep b16_1 hS; have a2 := cell_keep b16_2 hS; have a3 := cell_keep b16_3 hS; clear hS hSw; go_simp)
 simp only [ll19o_24, Act.put, sA, sB, sC]
 refine wpAnyH_ready (rs := [25]) (by kernel_rfl) (by simp) ?_
 refine AllReadyH.cons (o := ll19o_25) rfl (fun K hK => ?_) AllReadyH.nil
 unfold ll19o_25
 have HH := hidden hH6
 clear hH6
 go_simp
 refine (C25.out _ HH.out).mono ?_
 rintro e wn7 ⟨rfl, hb⟩
 have SN := hidden (bl_trans HH.out hb)
 clear HH hb
 go_wp2_with fail
 refine hK.out _ _ SN.out (fun hH7 => ?_)
 clear hK K SN
 refine tk 26 ll19o_26 (.bool false) rfl (by kernel_rfl) hH7 rfl (fun w0 hSw => ?_) ?_
 ·(unfold ll19o_26; clear hSw; go_simp)
 simp only [ll19o_26, Act.put, sA, sB, sC]
 refine tk 27 ll19o_27 (.bool false) rfl (by kernel_rfl) hH7 rfl (fun w0 hSw => ?_) ?_
 ·(unfold ll19o_27; clear hSw; go_simp)
 simp only [ll19o_27, Act.put, sA, sB, sC]
 refine tk 28 ll19o_28 (.bool false) rfl (by kernel_rfl) hH7 rfl (fun w0 hSw => ?_) ?_
 ·(unfold ll19o_28; clear hSw; go_simp)
 simp only [ll19o_28, Act.put, sA, sB, sC]
 refine tk 29 ll19o_29 (.agg #[.int .u64 c.x0, .int .u64 c.x1, .int .u64 c.x2, .int .u64 c.x3]) rfl (by kernel_rfl) hH7 rfl (fun w0 hSw => ?_) ?_
 ·(unfold ll19o_29; have hS : Below W.heap.size W w0 := hSw; have a0 := cell_keep b28_0 hS; have a1 := cell_keep b28_1 hS; have a2 := cell_keep b28_2 hS; have a3 := cell_keep b28_3 hS; clear hS hSw; go_simp)
 simp only [ll19o_29, Act.put, sA, sB, sC]
 refine tk 30 ll19o_30 (.agg #[.int .u64 k.x0, .int .u64 k.x1, .int .u64 k.x2, .int .u64 k.x3]) rfl (by kernel_rfl) hH7 rfl (fun w0 hSw => ?_) ?_
 ·(unfold ll19o_30; have hS : Below W.heap.size W w0 := hSw; have a0 := cell_keep kb_0 hS; have a1 := cell_keep kb_1 hS; have a2 := cell_keep kb_2 hS; have a3 := cell_keep kb_3 hS; clear hS hSw; go_simp)
 simp only [ll19o_30, Act.put, sA, sB, sC]
 refine wpAnyH_ready (rs := [31]) (by kernel_rfl) (by simp) ?_
 refine AllReadyH.cons (o := ll19o_31) rfl (fun K hK => ?_) AllReadyH.nil
 unfold ll19o_31
 have HH := hidden hH7
 clear hH7
 go_simp
 refine (C31.out _ HH.out).mono ?_
 rintro e wn8 ⟨rfl, hb⟩
 have SN := hidden (bl_trans HH.out hb)
 clear HH hb
 go_wp2_with fail
 refine hK.out _ _ SN.out (fun hH8 => ?_)
 clear hK K SN
 refine tk 32 ll19o_32 (.bool false) rfl (by kernel_rfl) hH8 rfl (fun w0 hSw => ?_) ?_
 ·(unfold ll19o_32; clear hSw; go_simp)
 simp only [ll19o_32, Act.put, sA, sB, sC]
 refine tk 33 ll19o_33 (.bool false) rfl (by kernel_rfl) hH8 rfl (fun w0 hSw => ?_) ?_
 ·(unfold ll19o_33; clear hSw; go_simp)
 simp only [ll19o_33, Act.put, sA, sB, sC]
 have HH := hidden hH8
 have FQ := hidden (HQ.out _ HH.out)
 refine wpAnyH_done (by kernel_rfl) ?_ _
 refine NoPanic.normal ?_
 exact FQ.out
end Ci
end Go.Proofs.YtaendjjelpmokaaDoor
