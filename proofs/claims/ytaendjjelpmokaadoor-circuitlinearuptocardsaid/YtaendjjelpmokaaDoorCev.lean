import Derived.Test.YtaendjjelpmokaaDoorTk
import Derived.Test.YtaendjjelpmokaaDoorCeu
namespace Go.Proofs.YtaendjjelpmokaaDoor
open Go.RowKit
set_option linter.unusedVariables false
set_option linter.unusedSimpArgs false
open Cm (Wr Tm co bf Ls lf ins Eqm)
namespace Ci
set_option maxRecDepth 100000
set_option maxHeartbeats 8000000
def Lw (y : World) (X : List Tm) (e : Ending) (w' : World) : Prop := ∃ P c, e = .returned (.slice P X.length c) ∧ Lt w' P X.length (ft X) ∧ Below y.heap.size y w'
theorem lq_w {y : World} {X : List Tm} {e : Ending} {w' : World} (h : ∃ v, e = .returned v ∧ Lq y X v w') : Lw y X e w' := by
 obtain ⟨v, he, ho, hb, _⟩ := h
 obtain ⟨P, c, rfl, _⟩ := own_shT ho
 exact ⟨P, c, he, own_lts ho, hb⟩
def ll8o_0 : Oper := { dst := some 50, op := Op.move (Operand.tmp 2), type := 24, pos := "outright.go:198", after := #[], guard := none }
def ll8o_1 : Oper := { dst := some 51, op := Op.call { callee := Callee.value (Operand.func 9), args := #[Operand.tmp 50], argTypes := #[24] }, type := 24, pos := "outright.go:198", after := #[{ on := 0, ground := Ground.data }], guard := none }
def ll8o_2 : Oper := { dst := some 52, op := Op.move (Operand.tmp 3), type := 24, pos := "outright.go:198", after := #[], guard := none }
def ll8o_3 : Oper := { dst := some 53, op := Op.call { callee := Callee.value (Operand.func 9), args := #[Operand.tmp 52], argTypes := #[24] }, type := 24, pos := "outright.go:198", after := #[{ on := 2, ground := Ground.data }, { on := 1, ground := Ground.chain }], guard := none }
def ll8o_4 : Oper := { dst := some 54, op := Op.call { callee := Callee.value (Operand.func 8), args := #[Operand.tmp 51, Operand.tmp 53], argTypes := #[24, 24] }, type := 4, pos := "outright.go:198", after := #[{ on := 1, ground := Ground.data }, { on := 3, ground := Ground.data }, { on := 3, ground := Ground.chain }], guard := none }
def ll8o_5 : Oper := { dst := some 55, op := Op.move (Operand.tmp 15), type := 24, pos := "outright.go:198", after := #[], guard := none }
def ll8o_6 : Oper := { dst := some 56, op := Op.call { callee := Callee.builtin Builtin.len, args := #[Operand.tmp 55], argTypes := #[24] }, type := 3, pos := "outright.go:198", after := #[{ on := 5, ground := Ground.data }], guard := none }
def ll8o_7 : Oper := { dst := some 57, op := Op.binOp BinOp.eql 3 (Operand.tmp 56) (Operand.const (Value.int IntKind.i64 0)) 3, type := 4, pos := "outright.go:198", after := #[{ on := 6, ground := Ground.data }], guard := none }
def ll8o_8 : Oper := { dst := some 58, op := Op.binOp BinOp.neq 4 (Operand.tmp 54) (Operand.tmp 57) 4, type := 4, pos := "outright.go:198", after := #[{ on := 4, ground := Ground.data }, { on := 7, ground := Ground.data }], guard := none }
def ll8o_9 : Oper := { dst := some 59, op := Op.move (Operand.tmp 58), type := 4, pos := "outright.go:198", after := #[{ on := 8, ground := Ground.data }, { on := 4, ground := Ground.chain }], guard := none }
def ll8o_10 : Oper := { dst := some 60, op := Op.move (Operand.tmp 2), type := 24, pos := "outright.go:198", after := #[{ on := 9, ground := Ground.guard }], guard := some (9, false) }
def ll8o_11 : Oper := { dst := some 61, op := Op.move (Operand.tmp 3), type := 24, pos := "outright.go:198", after := #[{ on := 9, ground := Ground.guard }], guard := some (9, false) }
def ll8o_12 : Oper := { dst := some 62, op := Op.call { callee := Callee.value (Operand.func 10), args := #[Operand.tmp 60, Operand.tmp 61], argTypes := #[24, 24] }, type := 24, pos := "outright.go:198", after := #[{ on := 10, ground := Ground.data }, { on := 11, ground := Ground.data }, { on := 9, ground := Ground.chain }, { on := 9, ground := Ground.guard }], guard := some (9, false) }
def ll8o_13 : Oper := { dst := some 63, op := Op.move (Operand.tmp 3), type := 24, pos := "outright.go:198", after := #[{ on := 9, ground := Ground.guard }], guard := some (9, false) }
def ll8o_14 : Oper := { dst := some 64, op := Op.move (Operand.tmp 2), type := 24, pos := "outright.go:198", after := #[{ on := 9, ground := Ground.guard }], guard := some (9, false) }
def ll8o_15 : Oper := { dst := some 65, op := Op.call { callee := Callee.value (Operand.func 10), args := #[Operand.tmp 63, Operand.tmp 64], argTypes := #[24, 24] }, type := 24, pos := "outright.go:198", after := #[{ on := 13, ground := Ground.data }, { on := 14, ground := Ground.data }, { on := 12, ground := Ground.chain }, { on := 9, ground := Ground.guard }], guard := some (9, false) }
def ll8o_16 : Oper := { dst := some 66, op := Op.call { callee := Callee.value (Operand.func 8), args := #[Operand.tmp 62, Operand.tmp 65], argTypes := #[24, 24] }, type := 4, pos := "outright.go:198", after := #[{ on := 12, ground := Ground.data }, { on := 15, ground := Ground.data }, { on := 15, ground := Ground.chain }, { on := 9, ground := Ground.guard }], guard := some (9, false) }
def ll8o_17 : Oper := { dst := some 67, op := Op.unOp UnOp.not 4 (Operand.tmp 66), type := 4, pos := "outright.go:198", after := #[{ on := 16, ground := Ground.data }, { on := 9, ground := Ground.guard }], guard := some (9, false) }
def ll8o_18 : Oper := { dst := some 68, op := Op.pick (Operand.tmp 59) (Operand.const (Value.bool true)) (Operand.tmp 67), type := 4, pos := "outright.go:198", after := #[{ on := 9, ground := Ground.data }, { on := 17, ground := Ground.data }], guard := none }
def ll8o_19 : Oper := { dst := some 69, op := Op.move (Operand.tmp 68), type := 4, pos := "outright.go:198", after := #[{ on := 18, ground := Ground.data }, { on := 16, ground := Ground.chain }], guard := none }
def ll8o_20 : Oper := { dst := some 70, op := Op.move (Operand.tmp 15), type := 24, pos := "outright.go:198", after := #[{ on := 19, ground := Ground.guard }], guard := some (19, false) }
def ll8o_21 : Oper := { dst := some 71, op := Op.move (Operand.tmp 3), type := 24, pos := "outright.go:198", after := #[{ on := 19, ground := Ground.guard }], guard := some (19, false) }
def ll8o_22 : Oper := { dst := some 72, op := Op.call { callee := Callee.value (Operand.func 10), args := #[Operand.tmp 70, Operand.tmp 71], argTypes := #[24, 24] }, type := 24, pos := "outright.go:198", after := #[{ on := 20, ground := Ground.data }, { on := 21, ground := Ground.data }, { on := 19, ground := Ground.chain }, { on := 19, ground := Ground.guard }], guard := some (19, false) }
def ll8o_23 : Oper := { dst := some 73, op := Op.move (Operand.tmp 2), type := 24, pos := "outright.go:198", after := #[{ on := 19, ground := Ground.guard }], guard := some (19, false) }
def ll8o_24 : Oper := { dst := some 74, op := Op.call { callee := Callee.value (Operand.func 9), args := #[Operand.tmp 73], argTypes := #[24] }, type := 24, pos := "outright.go:198", after := #[{ on := 23, ground := Ground.data }, { on := 22, ground := Ground.chain }, { on := 19, ground := Ground.guard }], guard := some (19, false) }
def ll8o_25 : Oper := { dst := some 75, op := Op.call { callee := Callee.value (Operand.func 8), args := #[Operand.tmp 72, Operand.tmp 74], argTypes := #[24, 24] }, type := 4, pos := "outright.go:198", after := #[{ on := 22, ground := Ground.data }, { on := 24, ground := Ground.data }, { on := 24, ground := Ground.chain }, { on := 19, ground := Ground.guard }], guard := some (19, false) }
def ll8o_26 : Oper := { dst := some 76, op := Op.unOp UnOp.not 4 (Operand.tmp 75), type := 4, pos := "outright.go:198", after := #[{ on := 25, ground := Ground.data }, { on := 19, ground := Ground.guard }], guard := some (19, false) }
def ll8o_27 : Oper := { dst := some 77, op := Op.pick (Operand.tmp 69) (Operand.const (Value.bool true)) (Operand.tmp 76), type := 4, pos := "outright.go:198", after := #[{ on := 19, ground := Ground.data }, { on := 26, ground := Ground.data }], guard := none }
def ll8o_28 : Oper := { dst := some 78, op := Op.move (Operand.tmp 77), type := 4, pos := "outright.go:198", after := #[{ on := 27, ground := Ground.data }, { on := 25, ground := Ground.chain }], guard := none }
def ll8o_29 : Oper := { dst := some 79, op := Op.move (Operand.tmp 2), type := 24, pos := "outright.go:198", after := #[{ on := 28, ground := Ground.guard }], guard := some (28, false) }
def ll8o_30 : Oper := { dst := some 80, op := Op.load 27 (Operand.tmp 10), type := 27, pos := "outright.go:198", after := #[{ on := 28, ground := Ground.guard }], guard := some (28, false) }
def ll8o_31 : Oper := { dst := some 81, op := Op.call { callee := Callee.value (Operand.func 11), args := #[Operand.tmp 79, Operand.tmp 80], argTypes := #[24, 27] }, type := 24, pos := "outright.go:198", after := #[{ on := 29, ground := Ground.data }, { on := 30, ground := Ground.data }, { on := 28, ground := Ground.chain }, { on := 28, ground := Ground.guard }], guard := some (28, false) }
def ll8o_32 : Oper := { dst := some 82, op := Op.call { callee := Callee.value (Operand.func 9), args := #[Operand.tmp 81], argTypes := #[24] }, type := 24, pos := "outright.go:198", after := #[{ on := 31, ground := Ground.data }, { on := 31, ground := Ground.chain }, { on := 28, ground := Ground.guard }], guard := some (28, false) }
def ll8o_33 : Oper := { dst := some 83, op := Op.move (Operand.tmp 2), type := 24, pos := "outright.go:198", after := #[{ on := 28, ground := Ground.guard }], guard := some (28, false) }
def ll8o_34 : Oper := { dst := some 84, op := Op.call { callee := Callee.value (Operand.func 9), args := #[Operand.tmp 83], argTypes := #[24] }, type := 24, pos := "outright.go:198", after := #[{ on := 33, ground := Ground.data }, { on := 32, ground := Ground.chain }, { on := 28, ground := Ground.guard }], guard := some (28, false) }
def ll8o_35 : Oper := { dst := some 85, op := Op.load 27 (Operand.tmp 10), type := 27, pos := "outright.go:198", after := #[{ on := 28, ground := Ground.guard }], guard := some (28, false) }
def ll8o_36 : Oper := { dst := some 86, op := Op.call { callee := Callee.value (Operand.func 11), args := #[Operand.tmp 84, Operand.tmp 85], argTypes := #[24, 27] }, type := 24, pos := "outright.go:198", after := #[{ on := 34, ground := Ground.data }, { on := 35, ground := Ground.data }, { on := 34, ground := Ground.chain }, { on := 28, ground := Ground.guard }], guard := some (28, false) }
def ll8o_37 : Oper := { dst := some 87, op := Op.call { callee := Callee.value (Operand.func 8), args := #[Operand.tmp 82, Operand.tmp 86], argTypes := #[24, 24] }, type := 4, pos := "outright.go:198", after := #[{ on := 32, ground := Ground.data }, { on := 36, ground := Ground.data }, { on := 36, ground := Ground.chain }, { on := 28, ground := Ground.guard }], guard := some (28, false) }
def ll8o_38 : Oper := { dst := some 88, op := Op.unOp UnOp.not 4 (Operand.tmp 87), type := 4, pos := "outright.go:198", after := #[{ on := 37, ground := Ground.data }, { on := 28, ground := Ground.guard }], guard := some (28, false) }
def ll8o_39 : Oper := { dst := some 89, op := Op.pick (Operand.tmp 78) (Operand.const (Value.bool true)) (Operand.tmp 88), type := 4, pos := "outright.go:198", after := #[{ on := 28, ground := Ground.data }, { on := 38, ground := Ground.data }], guard := none }
def ll8o_40 : Oper := { dst := some 90, op := Op.move (Operand.tmp 89), type := 4, pos := "outright.go:198", after := #[{ on := 39, ground := Ground.data }, { on := 37, ground := Ground.chain }], guard := none }
def ll8o_41 : Oper := { dst := some 91, op := Op.move (Operand.tmp 2), type := 24, pos := "outright.go:198", after := #[{ on := 40, ground := Ground.guard }], guard := some (40, false) }
def ll8o_42 : Oper := { dst := some 92, op := Op.build 27 #[], type := 27, pos := "outright.go:198", after := #[{ on := 40, ground := Ground.guard }], guard := some (40, false) }
def ll8o_43 : Oper := { dst := some 93, op := Op.call { callee := Callee.value (Operand.func 11), args := #[Operand.tmp 91, Operand.tmp 92], argTypes := #[24, 27] }, type := 24, pos := "outright.go:198", after := #[{ on := 41, ground := Ground.data }, { on := 42, ground := Ground.data }, { on := 40, ground := Ground.chain }, { on := 40, ground := Ground.guard }], guard := some (40, false) }
def ll8o_44 : Oper := { dst := some 94, op := Op.call { callee := Callee.builtin Builtin.len, args := #[Operand.tmp 93], argTypes := #[24] }, type := 3, pos := "outright.go:198", after := #[{ on := 43, ground := Ground.data }, { on := 40, ground := Ground.guard }], guard := some (40, false) }
def ll8o_45 : Oper := { dst := some 95, op := Op.binOp BinOp.neq 3 (Operand.tmp 94) (Operand.const (Value.int IntKind.i64 0)) 3, type := 4, pos := "outright.go:198", after := #[{ on := 44, ground := Ground.data }, { on := 40, ground := Ground.guard }], guard := some (40, false) }
def ll8o_46 : Oper := { dst := some 96, op := Op.pick (Operand.tmp 90) (Operand.const (Value.bool true)) (Operand.tmp 95), type := 4, pos := "outright.go:198", after := #[{ on := 40, ground := Ground.data }, { on := 45, ground := Ground.data }], guard := none }
def ll8o : Array Oper := #[ll8o_0, ll8o_1, ll8o_2, ll8o_3, ll8o_4, ll8o_5, ll8o_6, ll8o_7, ll8o_8, ll8o_9, ll8o_10, ll8o_11, ll8o_12, ll8o_13, ll8o_14, ll8o_15, ll8o_16, ll8o_17, ll8o_18, ll8o_19, ll8o_20, ll8o_21, ll8o_22, ll8o_23, ll8o_24, ll8o_25, ll8o_26, ll8o_27, ll8o_28, ll8o_29, ll8o_30, ll8o_31, ll8o_32, ll8o_33, ll8o_34, ll8o_35, ll8o_36, ll8o_37, ll8o_38, ll8o_39, ll8o_40, ll8o_41, ll8o_42, ll8o_43, ll8o_44, ll8o_45, ll8o_46]
set_option maxRecDepth 100000 in
set_option maxHeartbeats 16000000 in
theorem ll8 (Q : Exit → Act → World → Prop) (kb nd cd : Nat) (pd : Option Addr) (k : E4) (vx vy : Value) (X1 X3 X12 X15 X22 X31 X32 X36 : List Tm) (u0 u1 u4 u5 u6 u7 u8 u9 u11 u12 u13 u14 u16 u17 u18 u19 u20 u21 u22 u23 u24 u25 u26 u27 u28 u29 u30 u31 u32 u33 u34 u35 u36 u37 u38 u39 u40 u41 u42 u43 u44 u45 u46 u47 u48 u49 u50 u51 u52 u53 u54 u55 u56 u57 u58 u59 u60 u61 u62 u63 u64 u65 u66 u67 u68 u69 u70 u71 u72 u73 u74 u75 u76 u77 u78 u79 u80 u81 u82 u83 u84 u85 u86 u87 u88 u89 u90 u91 u92 u93 u94 u95 u96 u97 u98 u99 u100 u101 u102 u103 u104 u105 u106 u107 u108 u109 u110 u111 u112 u113 u114 u115 u116 u117 u118 u119 u120 u121 u122 u123 u124 u125 u126 u127 u128 u129 u130 u131 u132 u133 u134 u135 u136 u137 u138 u139 u140 u141 u142 u143 u144 u145 u146 u147 u148 u149 u150 u151 u152 u153 u154 u155 u156 u157 u158 u159 u160 u161 u162 u163 u164 u165 u166 u167 u168 u169 u170 u171 u172 u173 u174 u175 u176 u177 u178 u179 u180 u181 u182 u183 u184 u185 u186 u187 u188 u189 u190 u191 u192 u193 u194 u195 u196 u197 u198 u199 u200 u201 u202 u203 u204 u205 u206 u207 u208 u209 u210 u211 u212 u213 u214 u215 u216 u217 u218 u219 u220 u221 u222 u223 u224 u225 u226 u227 u228 u229 u230 u231 u232 u233 u234 u235 u236 u237 u238 u239 u240 u241 u242 u243 u244 u245 u246 u247 u248 u249 u250 u251 u252 u253 u254 u255 u256 u257 u258 u259 u260 u261 u262 u263 u264 u265 u266 : Value) (W : World)
  (k0 : W.cell? ⟨kb, 0, none⟩ = some (.int .u64 k.x0)) (k1 : W.cell? ⟨kb, 1, none⟩ = some (.int .u64 k.x1)) (k2 : W.cell? ⟨kb, 2, none⟩ = some (.int .u64 k.x2)) (k3 : W.cell? ⟨kb, 3, none⟩ = some (.int .u64 k.x3))
  (C1 : Hid (∀ y, Below W.heap.size W y → Calls Tryd.prog 9 #[vx] y fun e w' => Lw y X1 e w'))
  (C3 : Hid (∀ y, Below W.heap.size W y → Calls Tryd.prog 9 #[vy] y fun e w' => Lw y X3 e w'))
  (C12 : Hid (∀ y, Below W.heap.size W y → Calls Tryd.prog 10 #[vx, vy] y fun e w' => Lw y X12 e w'))
  (C15 : Hid (∀ y, Below W.heap.size W y → Calls Tryd.prog 10 #[vy, vx] y fun e w' => Lw y X15 e w'))
  (C22 : Hid (∀ y, Below W.heap.size W y → Calls Tryd.prog 10 #[.slice pd nd cd, vy] y fun e w' => Lw y X22 e w'))
  (C31 : Hid (∀ y, Below W.heap.size W y → Calls Tryd.prog 11 #[vx, .agg #[.int .u64 k.x0, .int .u64 k.x1, .int .u64 k.x2, .int .u64 k.x3]] y fun e w' => Lw y X31 e w'))
  (C32 : Hid (∀ (P : Option Addr) (c : Nat) y, Below W.heap.size W y → Lt y P X31.length (ft X31) → Calls Tryd.prog 9 #[.slice P X31.length c] y fun e w' => Lw y X32 e w'))
  (C36 : Hid (∀ (P : Option Addr) (c : Nat) y, Below W.heap.size W y → Lt y P X1.length (ft X1) → Calls Tryd.prog 11 #[.slice P X1.length c, .agg #[.int .u64 k.x0, .int .u64 k.x1, .int .u64 k.x2, .int .u64 k.x3]] y fun e w' => Lw y X36 e w'))
  (C43 : Hid (∀ y, Below W.heap.size W y → Calls Tryd.prog 11 #[vx, .agg #[.int .u64 0, .int .u64 0, .int .u64 0, .int .u64 0]] y fun e w' => ∃ P c, e = .returned (.slice P 0 c) ∧ Below y.heap.size y w'))
  (E1 : Hid (∀ (P Q : Option Addr) (c d : Nat) (y : World), Below W.heap.size W y → Lt y P X1.length (ft X1) → Lt y Q X3.length (ft X3) → Calls Tryd.prog 8 #[.slice P X1.length c, .slice Q X3.length d] y fun e w' => e = .returned (.bool (decide (nd = 0))) ∧ Below y.heap.size y w'))
  (E2 : Hid (∀ (P Q : Option Addr) (c d : Nat) (y : World), Below W.heap.size W y → Lt y P X12.length (ft X12) → Lt y Q X15.length (ft X15) → Calls Tryd.prog 8 #[.slice P X12.length c, .slice Q X15.length d] y fun e w' => e = .returned (.bool true) ∧ Below y.heap.size y w'))
  (E3 : Hid (∀ (P Q : Option Addr) (c d : Nat) (y : World), Below W.heap.size W y → Lt y P X22.length (ft X22) → Lt y Q X1.length (ft X1) → Calls Tryd.prog 8 #[.slice P X22.length c, .slice Q X1.length d] y fun e w' => e = .returned (.bool true) ∧ Below y.heap.size y w'))
  (E4 : Hid (∀ (P Q : Option Addr) (c d : Nat) (y : World), Below W.heap.size W y → Lt y P X32.length (ft X32) → Lt y Q X36.length (ft X36) → Calls Tryd.prog 8 #[.slice P X32.length c, .slice Q X36.length d] y fun e w' => e = .returned (.bool true) ∧ Below y.heap.size y w'))
  (HQ : Hid (∀ (wz : World) (p1 p3 p12 p15 p22 p24 p31 p32 p34 p36 p43 : Option Addr) (c1 c3 c12 c15 c22 c24 c31 c32 c34 c36 c43 : Nat), Below W.heap.size W wz → Q .normal ⟨#[u0, u1, vx, vy, u4, u5, u6, u7, u8, u9, .pointer (some ⟨kb, 0, none⟩), u11, u12, u13, u14, .slice pd nd cd, u16, u17, u18, u19, u20, u21, u22, u23, u24, u25, u26, u27, u28, u29, u30, u31, u32, u33, u34, u35, u36, u37, u38, u39, u40, u41, u42, u43, u44, u45, u46, u47, u48, u49, vx, .slice p1 X1.length c1, vy, .slice p3 X3.length c3, .bool (decide (nd = 0)), .slice pd nd cd, .int .i64 (nd : Int), .bool (decide (nd = 0)), .bool false, .bool false, vx, vy, .slice p12 X12.length c12, vy, vx, .slice p15 X15.length c15, .bool true, .bool false, .bool false, .bool false, .slice pd nd cd, vy, .slice p22 X22.length c22, vx, .slice p24 X1.length c24, .bool true, .bool false, .bool false, .bool false, vx, .agg #[.int .u64 k.x0, .int .u64 k.x1, .int .u64 k.x2, .int .u64 k.x3], .slice p31 X31.length c31, .slice p32 X32.length c32, vx, .slice p34 X1.length c34, .agg #[.int .u64 k.x0, .int .u64 k.x1, .int .u64 k.x2, .int .u64 k.x3], .slice p36 X36.length c36, .bool true, .bool false, .bool false, .bool false, vx, .agg #[.int .u64 0, .int .u64 0, .int .u64 0, .int .u64 0], .slice p43 0 c43, .int .i64 0, .bool false, .bool false, u97, u98, u99, u100, u101, u102, u103, u104, u105, u106, u107, u108, u109, u110, u111, u112, u113, u114, u115, u116, u117, u118, u119, u120, u121, u122, u123, u124, u125, u126, u127, u128, u129, u130, u131, u132, u133, u134, u135, u136, u137, u138, u139, u140, u141, u142, u143, u144, u145, u146, u147, u148, u149, u150, u151, u152, u153, u154, u155, u156, u157, u158, u159, u160, u161, u162, u163, u164, u165, u166, u167, u168, u169, u170, u171, u172, u173, u174, u175, u176, u177, u178, u179, u180, u181, u182, u183, u184, u185, u186, u187, u188, u189, u190, u191, u192, u193, u194, u195, u196, u197, u198, u199, u200, u201, u202, u203, u204, u205, u206, u207, u208, u209, u210, u211, u212, u213, u214, u215, u216, u217, u218, u219, u220, u221, u222, u223, u224, u225, u226, u227, u228, u229, u230, u231, u232, u233, u234, u235, u236, u237, u238, u239, u240, u241, u242, u243, u244, u245, u246, u247, u248, u249, u250, u251, u252, u253, u254, u255, u256, u257, u258, u259, u260, u261, u262, u263, u264, u265, u266], []⟩ wz)) : (Code.region 8 ll8o true).wp Tryd.prog Q ⟨#[u0, u1, vx, vy, u4, u5, u6, u7, u8, u9, .pointer (some ⟨kb, 0, none⟩), u11, u12, u13, u14, .slice pd nd cd, u16, u17, u18, u19, u20, u21, u22, u23, u24, u25, u26, u27, u28, u29, u30, u31, u32, u33, u34, u35, u36, u37, u38, u39, u40, u41, u42, u43, u44, u45, u46, u47, u48, u49, u50, u51, u52, u53, u54, u55, u56, u57, u58, u59, u60, u61, u62, u63, u64, u65, u66, u67, u68, u69, u70, u71, u72, u73, u74, u75, u76, u77, u78, u79, u80, u81, u82, u83, u84, u85, u86, u87, u88, u89, u90, u91, u92, u93, u94, u95, u96, u97, u98, u99, u100, u101, u102, u103, u104, u105, u106, u107, u108, u109, u110, u111, u112, u113, u114, u115, u116, u117, u118, u119, u120, u121, u122, u123, u124, u125, u126, u127, u128, u129, u130, u131, u132, u133, u134, u135, u136, u137, u138, u139, u140, u141, u142, u143, u144, u145, u146, u147, u148, u149, u150, u151, u152, u153, u154, u155, u156, u157, u158, u159, u160, u161, u162, u163, u164, u165, u166, u167, u168, u169, u170, u171, u172, u173, u174, u175, u176, u177, u178, u179, u180, u181, u182, u183, u184, u185, u186, u187, u188, u189, u190, u191, u192, u193, u194, u195, u196, u197, u198, u199, u200, u201, u202, u203, u204, u205, u206, u207, u208, u209, u210, u211, u212, u213, u214, u215, u216, u217, u218, u219, u220, u221, u222, u223, u224, u225, u226, u227, u228, u229, u230, u231, u232, u233, u234, u235, u236, u237, u238, u239, u240, u241, u242, u243, u244, u245, u246, u247, u248, u249, u250, u251, u252, u253, u254, u255, u256, u257, u258, u259, u260, u261, u262, u263, u264, u265, u266], []⟩ W := by
 unfold ll8o
 refine wp_region_noPanic ?_
 refine wp_region_held_drew (S := fun x => Below W.heap.size W x) (by kernel_rfl) (bl_drew W) (fun hH0 => ?_)
 refine tk 0 ll8o_0 (vx) rfl (by kernel_rfl) hH0 rfl (fun w0 hSw => ?_) ?_
 ·(unfold ll8o_0; clear hSw; go_simp)
 simp only [ll8o_0, Act.put, sA, sB, sC]
 refine tk 2 ll8o_2 (vy) rfl (by kernel_rfl) hH0 rfl (fun w0 hSw => ?_) ?_
 ·(unfold ll8o_2; clear hSw; go_simp)
 simp only [ll8o_2, Act.put, sA, sB, sC]
 refine tk 5 ll8o_5 (.slice pd nd cd) rfl (by kernel_rfl) hH0 rfl (fun w0 hSw => ?_) ?_
 ·(unfold ll8o_5; clear hSw; go_simp)
 simp only [ll8o_5, Act.put, sA, sB, sC]
 refine tk 6 ll8o_6 (.int .i64 (nd : Int)) rfl (by kernel_rfl) hH0 rfl (fun w0 hSw => ?_) ?_
 ·(unfold ll8o_6; clear hSw; go_simp)
 simp only [ll8o_6, Act.put, sA, sB, sC]
 refine tk 7 ll8o_7 (.bool (decide (nd = 0))) rfl (by kernel_rfl) hH0 rfl (fun w0 hSw => ?_) ?_
 ·(unfold ll8o_7; clear hSw; by_cases hz : nd = 0 <;> go_simp <;> simp [hz])
 simp only [ll8o_7, Act.put, sA, sB, sC]
 refine wpAnyH_ready (rs := [1]) (by kernel_rfl) (by simp) ?_
 refine AllReadyH.cons (o := ll8o_1) rfl (fun K hK => ?_) AllReadyH.nil
 unfold ll8o_1
 have HH := hidden hH0
 clear hH0
 go_simp
 refine (C1.out _ HH.out).mono ?_
 rintro e wn1 ⟨p1, c1, rfl, hl, hb⟩
 have SN := hidden (bl_trans HH.out hb)
 have L1 := hidden (hl)
 clear HH hl hb
 go_wp2_with fail
 refine hK.out _ _ SN.out (fun hH1 => ?_)
 clear hK K SN
 refine wpAnyH_ready (rs := [3]) (by kernel_rfl) (by simp) ?_
 refine AllReadyH.cons (o := ll8o_3) rfl (fun K hK => ?_) AllReadyH.nil
 unfold ll8o_3
 have HH := hidden hH1
 clear hH1
 go_simp
 refine (C3.out _ HH.out).mono ?_
 rintro e wn2 ⟨p3, c3, rfl, hl, hb⟩
 have SN := hidden (bl_trans HH.out hb)
 replace L1 := hidden (L1.out.keep hb)
 have L3 := hidden (hl)
 clear HH hl hb
 go_wp2_with fail
 refine hK.out _ _ SN.out (fun hH2 => ?_)
 clear hK K SN
 refine wpAnyH_ready (rs := [4]) (by kernel_rfl) (by simp) ?_
 refine AllReadyH.cons (o := ll8o_4) rfl (fun K hK => ?_) AllReadyH.nil
 unfold ll8o_4
 have HH := hidden hH2
 clear hH2
 go_simp
 refine (E1.out _ _ _ _ _ HH.out L1.out L3.out).mono ?_
 rintro e wn3 ⟨rfl, hb⟩
 have SN := hidden (bl_trans HH.out hb)
 clear HH hb
 go_wp2_with fail
 refine hK.out _ _ SN.out (fun hH3 => ?_)
 clear hK K SN
 refine tk 8 ll8o_8 (.bool false) rfl (by kernel_rfl) hH3 rfl (fun w0 hSw => ?_) ?_
 ·(unfold ll8o_8; clear hSw; by_cases hz : nd = 0 <;> go_simp <;> simp [hz])
 simp only [ll8o_8, Act.put, sA, sB, sC]
 refine tk 9 ll8o_9 (.bool false) rfl (by kernel_rfl) hH3 rfl (fun w0 hSw => ?_) ?_
 ·(unfold ll8o_9; clear hSw; go_simp)
 simp only [ll8o_9, Act.put, sA, sB, sC]
 refine tk 10 ll8o_10 (vx) rfl (by kernel_rfl) hH3 rfl (fun w0 hSw => ?_) ?_
 ·(unfold ll8o_10; clear hSw; go_simp)
 simp only [ll8o_10, Act.put, sA, sB, sC]
 refine tk 11 ll8o_11 (vy) rfl (by kernel_rfl) hH3 rfl (fun w0 hSw => ?_) ?_
 ·(unfold ll8o_11; clear hSw; go_simp)
 simp only [ll8o_11, Act.put, sA, sB, sC]
 refine tk 13 ll8o_13 (vy) rfl (by kernel_rfl) hH3 rfl (fun w0 hSw => ?_) ?_
 ·(unfold ll8o_13; clear hSw; go_simp)
 simp only [ll8o_13, Act.put, sA, sB, sC]
 refine tk 14 ll8o_14 (vx) rfl (by kernel_rfl) hH3 rfl (fun w0 hSw => ?_) ?_
 ·(unfold ll8o_14; clear hSw; go_simp)
 simp only [ll8o_14, Act.put, sA, sB, sC]
 refine wpAnyH_ready (rs := [12]) (by kernel_rfl) (by simp) ?_
 refine AllReadyH.cons (o := ll8o_12) rfl (fun K hK => ?_) AllReadyH.nil
 unfold ll8o_12
 have HH := hidden hH3
 clear hH3
 go_simp
 refine (C12.out _ HH.out).mono ?_
 rintro e wn4 ⟨p12, c12, rfl, hl, hb⟩
 have SN := hidden (bl_trans HH.out hb)
 have L12 := hidden (hl)
 clear HH hl hb
 go_wp2_with fail
 refine hK.out _ _ SN.out (fun hH4 => ?_)
 clear hK K SN
 refine wpAnyH_ready (rs := [15]) (by kernel_rfl) (by simp) ?_
 refine AllReadyH.cons (o := ll8o_15) rfl (fun K hK => ?_) AllReadyH.nil
 unfold ll8o_15
 have HH := hidden hH4
 clear hH4
 go_simp
 refine (C15.out _ HH.out).mono ?_
 rintro e wn5 ⟨p15, c15, rfl, hl, hb⟩
 have SN := hidden (bl_trans HH.out hb)
 replace L12 := hidden (L12.out.keep hb)
 have L15 := hidden (hl)
 clear HH hl hb
 go_wp2_with fail
 refine hK.out _ _ SN.out (fun hH5 => ?_)
 clear hK K SN
 refine wpAnyH_ready (rs := [16]) (by kernel_rfl) (by simp) ?_
 refine AllReadyH.cons (o := ll8o_16) rfl (fun K hK => ?_) AllReadyH.nil
 unfold ll8o_16
 have HH := hidden hH5
 clear hH5
 go_simp
 refine (E2.out _ _ _ _ _ HH.out L12.out L15.out).mono ?_
 rintro e wn6 ⟨rfl, hb⟩
 have SN := hidden (bl_trans HH.out hb)
 clear HH hb
 go_wp2_with fail
 refine hK.out _ _ SN.out (fun hH6 => ?_)
 clear hK K SN
 refine tk 17 ll8o_17 (.bool false) rfl (by kernel_rfl) hH6 rfl (fun w0 hSw => ?_) ?_
 ·(unfold ll8o_17; clear hSw; go_simp)
 simp only [ll8o_17, Act.put, sA, sB, sC]
 refine tk 18 ll8o_18 (.bool false) rfl (by kernel_rfl) hH6 rfl (fun w0 hSw => ?_) ?_
 ·(unfold ll8o_18; clear hSw; go_simp)
 simp only [ll8o_18, Act.put, sA, sB, sC]
 refine tk 19 ll8o_19 (.bool false) rfl (by kernel_rfl) hH6 rfl (fun w0 hSw => ?_) ?_
 ·(unfold ll8o_19; clear hSw; go_simp)
 simp only [ll8o_19, Act.put, sA, sB, sC]
 refine tk 20 ll8o_20 (.slice pd nd cd) rfl (by kernel_rfl) hH6 rfl (fun w0 hSw => ?_) ?_
 ·(unfold ll8o_20; clear hSw; go_simp)
 simp only [ll8o_20, Act.put, sA, sB, sC]
 refine tk 21 ll8o_21 (vy) rfl (by kernel_rfl) hH6 rfl (fun w0 hSw => ?_) ?_
 ·(unfold ll8o_21; clear hSw; go_simp)
 simp only [ll8o_21, Act.put, sA, sB, sC]
 refine tk 23 ll8o_23 (vx) rfl (by kernel_rfl) hH6 rfl (fun w0 hSw => ?_) ?_
 ·(unfold ll8o_23; clear hSw; go_simp)
 simp only [ll8o_23, Act.put, sA, sB, sC]
 refine wpAnyH_ready (rs := [22]) (by kernel_rfl) (by simp) ?_
 refine AllReadyH.cons (o := ll8o_22) rfl (fun K hK => ?_) AllReadyH.nil
 unfold ll8o_22
 have HH := hidden hH6
 clear hH6
 go_simp
 refine (C22.out _ HH.out).mono ?_
 rintro e wn7 ⟨p22, c22, rfl, hl, hb⟩
 have SN := hidden (bl_trans HH.out hb)
 have L22 := hidden (hl)
 clear HH hl hb
 go_wp2_with fail
 refine hK.out _ _ SN.out (fun hH7 => ?_)
 clear hK K SN
 refine wpAnyH_ready (rs := [24]) (by kernel_rfl) (by simp) ?_
 refine AllReadyH.cons (o := ll8o_24) rfl (fun K hK => ?_) AllReadyH.nil
 unfold ll8o_24
 have HH := hidden hH7
 clear hH7
 go_simp
 refine (C1.out _ HH.out).mono ?_
 rintro e wn8 ⟨p24, c24, rfl, hl, hb⟩
 have SN := hidden (bl_trans HH.out hb)
 replace L22 := hidden (L22.out.keep hb)
 have L24 := hidden (hl)
 clear HH hl hb
 go_wp2_with fail
 refine hK.out _ _ SN.out (fun hH8 => ?_)
 clear hK K SN
 refine wpAnyH_ready (rs := [25]) (by kernel_rfl) (by simp) ?_
 refine AllReadyH.cons (o := ll8o_25) rfl (fun K hK => ?_) AllReadyH.nil
 unfold ll8o_25
 have HH := hidden hH8
 clear hH8
 go_simp
 refine (E3.out _ _ _ _ _ HH.out L22.out L24.out).mono ?_
 rintro e wn9 ⟨rfl, hb⟩
 have SN := hidden (bl_trans HH.out hb)
 clear HH hb
 go_wp2_with fail
 refine hK.out _ _ SN.out (fun hH9 => ?_)
 clear hK K SN
 refine tk 26 ll8o_26 (.bool false) rfl (by kernel_rfl) hH9 rfl (fun w0 hSw => ?_) ?_
 ·(unfold ll8o_26; clear hSw; go_simp)
 simp only [ll8o_26, Act.put, sA, sB, sC]
 refine tk 27 ll8o_27 (.bool false) rfl (by kernel_rfl) hH9 rfl (fun w0 hSw => ?_) ?_
 ·(unfold ll8o_27; clear hSw; go_simp)
 simp only [ll8o_27, Act.put, sA, sB, sC]
 refine tk 28 ll8o_28 (.bool false) rfl (by kernel_rfl) hH9 rfl (fun w0 hSw => ?_) ?_
 ·(unfold ll8o_28; clear hSw; go_simp)
 simp only [ll8o_28, Act.put, sA, sB, sC]
 refine tk 29 ll8o_29 (vx) rfl (by kernel_rfl) hH9 rfl (fun w0 hSw => ?_) ?_
 ·(unfold ll8o_29; clear hSw; go_simp)
 simp only [ll8o_29, Act.put, sA, sB, sC]
 refine tk 30 ll8o_30 (.agg #[.int .u64 k.x0, .int .u64 k.x1, .int .u64 k.x2, .int .u64 k.x3]) rfl (by kernel_rfl) hH9 rfl (fun w0 hSw => ?_) ?_
 ·(unfold ll8o_30; have hS : Below W.heap.size W w0 := hSw; have a0 := cell_keep k0 hS; have a1 := cell_keep k1 hS; have a2 := cell_keep k2 hS; have a3 := cell_keep k3 hS; clear hS hSw; go_simp)
 simp only [ll8o_30, Act.put, sA, sB, sC]
 refine tk 33 ll8o_33 (vx) rfl (by kernel_rfl) hH9 rfl (fun w0 hSw => ?_) ?_
 ·(unfold ll8o_33; clear hSw; go_simp)
 simp only [ll8o_33, Act.put, sA, sB, sC]
 refine tk 35 ll8o_35 (.agg #[.int .u64 k.x0, .int .u64 k.x1, .int .u64 k.x2, .int .u64 k.x3]) rfl (by kernel_rfl) hH9 rfl (fun w0 hSw => ?_) ?_
 ·(unfold ll8o_35; have hS : Below W.heap.size W w0 := hSw; have a0 := cell_keep k0 hS; have a1 := cell_keep k1 hS; have a2 := cell_keep k2 hS; have a3 := cell_keep k3 hS; clear hS hSw; go_simp)
 simp only [ll8o_35, Act.put, sA, sB, sC]
 refine wpAnyH_ready (rs := [31]) (by kernel_rfl) (by simp) ?_
 refine AllReadyH.cons (o := ll8o_31) rfl (fun K hK => ?_) AllReadyH.nil
 unfold ll8o_31
 have HH := hidden hH9
 clear hH9
 go_simp
 refine (C31.out _ HH.out).mono ?_
 rintro e wn10 ⟨p31, c31, rfl, hl, hb⟩
 have SN := hidden (bl_trans HH.out hb)
 have L31 := hidden (hl)
 clear HH hl hb
 go_wp2_with fail
 refine hK.out _ _ SN.out (fun hH10 => ?_)
 clear hK K SN
 refine wpAnyH_ready (rs := [32]) (by kernel_rfl) (by simp) ?_
 refine AllReadyH.cons (o := ll8o_32) rfl (fun K hK => ?_) AllReadyH.nil
 unfold ll8o_32
 have HH := hidden hH10
 clear hH10
 go_simp
 refine (C32.out _ _ _ HH.out L31.out).mono ?_
 rintro e wn11 ⟨p32, c32, rfl, hl, hb⟩
 have SN := hidden (bl_trans HH.out hb)
 have L32 := hidden (hl)
 clear HH hl hb
 go_wp2_with fail
 refine hK.out _ _ SN.out (fun hH11 => ?_)
 clear hK K SN
 refine wpAnyH_ready (rs := [34]) (by kernel_rfl) (by simp) ?_
 refine AllReadyH.cons (o := ll8o_34) rfl (fun K hK => ?_) AllReadyH.nil
 unfold ll8o_34
 have HH := hidden hH11
 clear hH11
 go_simp
 refine (C1.out _ HH.out).mono ?_
 rintro e wn12 ⟨p34, c34, rfl, hl, hb⟩
 have SN := hidden (bl_trans HH.out hb)
 replace L32 := hidden (L32.out.keep hb)
 have L34 := hidden (hl)
 clear HH hl hb
 go_wp2_with fail
 refine hK.out _ _ SN.out (fun hH12 => ?_)
 clear hK K SN
 refine wpAnyH_ready (rs := [36]) (by kernel_rfl) (by simp) ?_
 refine AllReadyH.cons (o := ll8o_36) rfl (fun K hK => ?_) AllReadyH.nil
 unfold ll8o_36
 have HH := hidden hH12
 clear hH12
 go_simp
 refine (C36.out _ _ _ HH.out L34.out).mono ?_
 rintro e wn13 ⟨p36, c36, rfl, hl, hb⟩
 have SN := hidden (bl_trans HH.out hb)
 replace L32 := hidden (L32.out.keep hb)
 have L36 := hidden (hl)
 clear HH hl hb
 go_wp2_with fail
 refine hK.out _ _ SN.out (fun hH13 => ?_)
 clear hK K SN
 refine wpAnyH_ready (rs := [37]) (by kernel_rfl) (by simp) ?_
 refine AllReadyH.cons (o := ll8o_37) rfl (fun K hK => ?_) AllReadyH.nil
 unfold ll8o_37
 have HH := hidden hH13
 clear hH13
 go_simp
 refine (E4.out _ _ _ _ _ HH.out L32.out L36.out).mono ?_
 rintro e wn14 ⟨rfl, hb⟩
 have SN := hidden (bl_trans HH.out hb)
 clear HH hb
 go_wp2_with fail
 refine hK.out _ _ SN.out (fun hH14 => ?_)
 clear hK K SN
 refine tk 38 ll8o_38 (.bool false) rfl (by kernel_rfl) hH14 rfl (fun w0 hSw => ?_) ?_
 ·(unfold ll8o_38; clear hSw; go_simp)
 simp only [ll8o_38, Act.put, sA, sB, sC]
 refine tk 39 ll8o_39 (.bool false) rfl (by kernel_rfl) hH14 rfl (fun w0 hSw => ?_) ?_
 ·(unfold ll8o_39; clear hSw; go_simp)
 simp only [ll8o_39, Act.put, sA, sB, sC]
 refine tk 40 ll8o_40 (.bool false) rfl (by kernel_rfl) hH14 rfl (fun w0 hSw => ?_) ?_
 ·(unfold ll8o_40; clear hSw; go_simp)
 simp only [ll8o_40, Act.put, sA, sB, sC]
 refine tk 41 ll8o_41 (vx) rfl (by kernel_rfl) hH14 rfl (fun w0 hSw => ?_) ?_
 ·(unfold ll8o_41; clear hSw; go_simp)
 simp only [ll8o_41, Act.put, sA, sB, sC]
 refine tk 42 ll8o_42 (.agg #[.int .u64 0, .int .u64 0, .int .u64 0, .int .u64 0]) rfl (by kernel_rfl) hH14 rfl (fun w0 hSw => ?_) ?_
 ·(unfold ll8o_42; clear hSw; go_simp)
 simp only [ll8o_42, Act.put, sA, sB, sC]
 refine wpAnyH_ready (rs := [43]) (by kernel_rfl) (by simp) ?_
 refine AllReadyH.cons (o := ll8o_43) rfl (fun K hK => ?_) AllReadyH.nil
 unfold ll8o_43
 have HH := hidden hH14
 clear hH14
 go_simp
 refine (C43.out _ HH.out).mono ?_
 rintro e wn15 ⟨p43, c43, rfl, hb⟩
 have SN := hidden (bl_trans HH.out hb)
 clear HH hb
 go_wp2_with fail
 refine hK.out _ _ SN.out (fun hH15 => ?_)
 clear hK K SN
 refine tk 44 ll8o_44 (.int .i64 0) rfl (by kernel_rfl) hH15 rfl (fun w0 hSw => ?_) ?_
 ·(unfold ll8o_44; clear hSw; go_simp)
 simp only [ll8o_44, Act.put, sA, sB, sC]
 refine tk 45 ll8o_45 (.bool false) rfl (by kernel_rfl) hH15 rfl (fun w0 hSw => ?_) ?_
 ·(unfold ll8o_45; clear hSw; go_simp)
 simp only [ll8o_45, Act.put, sA, sB, sC]
 refine tk 46 ll8o_46 (.bool false) rfl (by kernel_rfl) hH15 rfl (fun w0 hSw => ?_) ?_
 ·(unfold ll8o_46; clear hSw; go_simp)
 simp only [ll8o_46, Act.put, sA, sB, sC]
 have HH := hidden hH15
 have FQ := hidden (HQ.out _ p1 p3 p12 p15 p22 p24 p31 p32 p34 p36 p43 c1 c3 c12 c15 c22 c24 c31 c32 c34 c36 c43 HH.out)
 refine wpAnyH_done (by kernel_rfl) ?_ _
 refine NoPanic.normal ?_
 exact FQ.out
end Ci
end Go.Proofs.YtaendjjelpmokaaDoor
