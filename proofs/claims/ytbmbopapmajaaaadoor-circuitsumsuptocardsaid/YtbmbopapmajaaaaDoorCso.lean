import Derived.Test.YtbmbopapmajaaaaDoorCsm
namespace Go.Proofs.YtbmbopapmajaaaaDoor
open Go.RowKit
set_option linter.unusedVariables false
set_option linter.unusedSimpArgs false
open Cm (Wr Tm co bf Ls lf ins Eqm)
namespace Ci
open Xo
set_option maxRecDepth 100000
set_option maxHeartbeats 4000000
def su5o : Array Oper := #[{ dst := some 70, op := Op.load 28 (Operand.tmp 7), type := 28, pos := "law.go:85", after := #[], guard := none },
  { dst := some 71, op := Op.call { callee := Callee.value (Operand.func 13), args := #[Operand.tmp 70], argTypes := #[28] }, type := 38, pos := "law.go:85", after := #[{ on := 0, ground := Ground.data }], guard := none },
  { dst := some 72, op := Op.call { callee := Callee.value (Operand.func 12), args := #[Operand.tmp 71], argTypes := #[38] }, type := 31, pos := "law.go:85", after := #[{ on := 1, ground := Ground.data }, { on := 1, ground := Ground.chain }], guard := none },
  { dst := some 73, op := Op.load 26 (Operand.tmp 6), type := 26, pos := "law.go:85", after := #[], guard := none },
  { dst := some 74, op := Op.call { callee := Callee.value (Operand.func 15), args := #[Operand.tmp 73], argTypes := #[26] }, type := 41, pos := "law.go:85", after := #[{ on := 3, ground := Ground.data }, { on := 2, ground := Ground.chain }], guard := none },
  { dst := some 75, op := Op.call { callee := Callee.value (Operand.func 14), args := #[Operand.tmp 74], argTypes := #[41] }, type := 31, pos := "law.go:85", after := #[{ on := 4, ground := Ground.data }, { on := 4, ground := Ground.chain }], guard := none },
  { dst := some 76, op := Op.move (Operand.tmp 11), type := 31, pos := "law.go:85", after := #[], guard := none },
  { dst := some 77, op := Op.move (Operand.tmp 12), type := 31, pos := "law.go:85", after := #[], guard := none },
  { dst := some 78, op := Op.call { callee := Callee.value (Operand.func 16), args := #[Operand.tmp 76, Operand.tmp 77], argTypes := #[31, 31] }, type := 31, pos := "law.go:85", after := #[{ on := 6, ground := Ground.data }, { on := 7, ground := Ground.data }, { on := 5, ground := Ground.chain }], guard := none },
  { dst := some 79, op := Op.move (Operand.tmp 11), type := 31, pos := "law.go:85", after := #[], guard := none },
  { dst := some 80, op := Op.move (Operand.tmp 12), type := 31, pos := "law.go:85", after := #[], guard := none },
  { dst := some 81, op := Op.call { callee := Callee.value (Operand.func 17), args := #[Operand.tmp 79, Operand.tmp 80], argTypes := #[31, 31] }, type := 31, pos := "law.go:85", after := #[{ on := 9, ground := Ground.data }, { on := 10, ground := Ground.data }, { on := 8, ground := Ground.chain }], guard := none },
  { dst := some 82, op := Op.move (Operand.tmp 11), type := 31, pos := "law.go:85", after := #[], guard := none },
  { dst := some 83, op := Op.load 26 (Operand.tmp 6), type := 26, pos := "law.go:85", after := #[], guard := none },
  { dst := some 84, op := Op.call { callee := Callee.value (Operand.func 15), args := #[Operand.tmp 83], argTypes := #[26] }, type := 41, pos := "law.go:85", after := #[{ on := 13, ground := Ground.data }, { on := 11, ground := Ground.chain }], guard := none },
  { dst := some 85, op := Op.call { callee := Callee.value (Operand.func 18), args := #[Operand.tmp 82, Operand.tmp 84], argTypes := #[31, 41] }, type := 31, pos := "law.go:85", after := #[{ on := 12, ground := Ground.data }, { on := 14, ground := Ground.data }, { on := 14, ground := Ground.chain }], guard := none },
  { dst := some 86, op := Op.move (Operand.tmp 11), type := 31, pos := "law.go:85", after := #[], guard := none },
  { dst := some 87, op := Op.call { callee := Callee.value (Operand.func 19), args := #[Operand.tmp 86], argTypes := #[31] }, type := 31, pos := "law.go:85", after := #[{ on := 16, ground := Ground.data }, { on := 15, ground := Ground.chain }], guard := none },
  { dst := some 88, op := Op.move (Operand.tmp 12), type := 31, pos := "law.go:85", after := #[], guard := none },
  { dst := some 89, op := Op.call { callee := Callee.value (Operand.func 19), args := #[Operand.tmp 88], argTypes := #[31] }, type := 31, pos := "law.go:85", after := #[{ on := 18, ground := Ground.data }, { on := 17, ground := Ground.chain }], guard := none },
  { dst := some 90, op := Op.buildSlice 45 7 #[(0, Operand.tmp 72), (1, Operand.tmp 75), (2, Operand.tmp 78), (3, Operand.tmp 81), (4, Operand.tmp 85), (5, Operand.tmp 87), (6, Operand.tmp 89)], type := 45, pos := "law.go:85", after := #[{ on := 2, ground := Ground.data }, { on := 5, ground := Ground.data }, { on := 8, ground := Ground.data }, { on := 11, ground := Ground.data }, { on := 15, ground := Ground.data }, { on := 17, ground := Ground.data }, { on := 19, ground := Ground.data }], guard := none },
  { dst := some 14, op := Op.assign (Operand.tmp 90), type := 45, pos := "law.go:85", after := #[{ on := 20, ground := Ground.data }, { on := 19, ground := Ground.chain }, { on := 0, ground := Ground.phase }, { on := 1, ground := Ground.phase }, { on := 2, ground := Ground.phase }, { on := 3, ground := Ground.phase }, { on := 4, ground := Ground.phase }, { on := 5, ground := Ground.phase }, { on := 6, ground := Ground.phase }, { on := 7, ground := Ground.phase }, { on := 8, ground := Ground.phase }, { on := 9, ground := Ground.phase }, { on := 10, ground := Ground.phase }, { on := 11, ground := Ground.phase }, { on := 12, ground := Ground.phase }, { on := 13, ground := Ground.phase }, { on := 14, ground := Ground.phase }, { on := 15, ground := Ground.phase }, { on := 16, ground := Ground.phase }, { on := 17, ground := Ground.phase }, { on := 18, ground := Ground.phase }, { on := 19, ground := Ground.phase }, { on := 20, ground := Ground.phase }], guard := none }]
set_option maxRecDepth 100000 in
set_option maxHeartbeats 16000000 in
theorem su5 (Q : Exit → Act → World → Prop) (kb wb : Nat) (k r : E4) (qk qi : Int) (vl vm : Value) (X0 X1 X2 X3 X4 X5 X6 : List Tm) (u0 u1 u2 u3 u4 u5 u8 u9 u10 u13 u14 u15 u16 u17 u18 u19 u20 u21 u22 u23 u24 u25 u26 u27 u28 u29 u30 u31 u32 u33 u34 u35 u36 u37 u38 u39 u40 u41 u42 u43 u44 u45 u46 u47 u48 u49 u50 u51 u52 u53 u54 u55 u56 u57 u58 u59 u60 u61 u62 u63 u64 u65 u66 u67 u68 u69 u70 u71 u72 u73 u74 u75 u76 u77 u78 u79 u80 u81 u82 u83 u84 u85 u86 u87 u88 u89 u90 u91 u92 u93 u94 u95 u96 u97 u98 u99 u100 u101 u102 u103 u104 u105 u106 u107 u108 u109 u110 u111 u112 u113 u114 u115 u116 u117 u118 u119 u120 u121 u122 u123 u124 u125 u126 u127 u128 u129 u130 u131 u132 u133 u134 u135 u136 u137 u138 u139 u140 u141 u142 u143 u144 u145 u146 u147 u148 u149 u150 u151 u152 u153 u154 u155 u156 u157 u158 u159 u160 u161 u162 u163 u164 u165 u166 u167 u168 u169 u170 u171 u172 u173 u174 u175 u176 u177 u178 u179 u180 u181 u182 u183 u184 u185 u186 u187 u188 u189 u190 u191 u192 u193 u194 u195 u196 u197 u198 u199 u200 u201 u202 u203 u204 u205 u206 u207 u208 u209 u210 u211 u212 u213 u214 u215 u216 u217 u218 u219 u220 u221 u222 u223 u224 u225 u226 u227 u228 u229 u230 u231 u232 u233 u234 u235 u236 u237 u238 u239 : Value) (W : World)
    (k0 : W.cell? ⟨kb, 0, none⟩ = some (.int .u64 k.x0)) (k1 : W.cell? ⟨kb, 1, none⟩ = some (.int .u64 k.x1)) (k2 : W.cell? ⟨kb, 2, none⟩ = some (.int .u64 k.x2)) (k3 : W.cell? ⟨kb, 3, none⟩ = some (.int .u64 k.x3)) (q0 : W.cell? ⟨wb, 0, none⟩ = some (.int .i64 qk)) (q1 : W.cell? ⟨wb, 1, none⟩ = some (.int .i64 qi))
    (CW : Hid (∀ y, Calls Tryd.prog 13 #[.agg #[.int .i64 qk, .int .i64 qi]] y fun e w' => e = .returned (.agg #[.int .i64 qk, .int .i64 qi]) ∧ Below y.heap.size y w'))
    (CN : Hid (∀ y, Calls Tryd.prog 15 #[.agg #[.int .u64 k.x0, .int .u64 k.x1, .int .u64 k.x2, .int .u64 k.x3]] y fun e w' => e = .returned (.agg #[.int .u64 r.x0, .int .u64 r.x1, .int .u64 r.x2, .int .u64 r.x3]) ∧ Below y.heap.size y w'))
    (C0 : Hid (∀ y, Below W.heap.size W y → Calls Tryd.prog 12 #[.agg #[.int .i64 qk, .int .i64 qi]] y fun e w' => Lz 52 y X0 e w'))
    (C1 : Hid (∀ y, Below W.heap.size W y → Calls Tryd.prog 14 #[.agg #[.int .u64 r.x0, .int .u64 r.x1, .int .u64 r.x2, .int .u64 r.x3]] y fun e w' => Lz 52 y X1 e w'))
    (C2 : Hid (∀ y, Below W.heap.size W y → Calls Tryd.prog 16 #[vl, vm] y fun e w' => Lz 52 y X2 e w'))
    (C3 : Hid (∀ y, Below W.heap.size W y → Calls Tryd.prog 17 #[vl, vm] y fun e w' => Lz 52 y X3 e w'))
    (C4 : Hid (∀ y, Below W.heap.size W y → Calls Tryd.prog 18 #[vl, .agg #[.int .u64 r.x0, .int .u64 r.x1, .int .u64 r.x2, .int .u64 r.x3]] y fun e w' => Lz 52 y X4 e w'))
    (C5 : Hid (∀ y, Below W.heap.size W y → Calls Tryd.prog 19 #[vl] y fun e w' => Lz 52 y X5 e w'))
    (C6 : Hid (∀ y, Below W.heap.size W y → Calls Tryd.prog 19 #[vm] y fun e w' => Lz 52 y X6 e w'))
    (HQ : Hid (∀ (wz : World) (tb : Nat) (p0 p1 p2 p3 p4 p5 p6 : Option Addr) (c0 c1 c2 c3 c4 c5 c6 : Nat), Ac 52 W [(X0, p0, c0), (X1, p1, c1), (X2, p2, c2), (X3, p3, c3), (X4, p4, c4), (X5, p5, c5), (X6, p6, c6)] wz → wz.ownsRow W.heap.size 31 1 (.slice (some ⟨tb, 0, none⟩) 7 7) 7 [.slice p0 X0.length c0, .slice p1 X1.length c1, .slice p2 X2.length c2, .slice p3 X3.length c3, .slice p4 X4.length c4, .slice p5 X5.length c5, .slice p6 X6.length c6] → Q .normal ⟨#[u0, u1, u2, u3, u4, u5, .pointer (some ⟨kb, 0, none⟩), .pointer (some ⟨wb, 0, none⟩), u8, u9, u10, vl, vm, u13, .slice (some ⟨tb, 0, none⟩) 7 7, u15, u16, u17, u18, u19, u20, u21, u22, u23, u24, u25, u26, u27, u28, u29, u30, u31, u32, u33, u34, u35, u36, u37, u38, u39, u40, u41, u42, u43, u44, u45, u46, u47, u48, u49, u50, u51, u52, u53, u54, u55, u56, u57, u58, u59, u60, u61, u62, u63, u64, u65, u66, u67, u68, u69, .agg #[.int .i64 qk, .int .i64 qi], .agg #[.int .i64 qk, .int .i64 qi], .slice p0 X0.length c0, .agg #[.int .u64 k.x0, .int .u64 k.x1, .int .u64 k.x2, .int .u64 k.x3], .agg #[.int .u64 r.x0, .int .u64 r.x1, .int .u64 r.x2, .int .u64 r.x3], .slice p1 X1.length c1, vl, vm, .slice p2 X2.length c2, vl, vm, .slice p3 X3.length c3, vl, .agg #[.int .u64 k.x0, .int .u64 k.x1, .int .u64 k.x2, .int .u64 k.x3], .agg #[.int .u64 r.x0, .int .u64 r.x1, .int .u64 r.x2, .int .u64 r.x3], .slice p4 X4.length c4, vl, .slice p5 X5.length c5, vm, .slice p6 X6.length c6, .slice (some ⟨tb, 0, none⟩) 7 7, u91, u92, u93, u94, u95, u96, u97, u98, u99, u100, u101, u102, u103, u104, u105, u106, u107, u108, u109, u110, u111, u112, u113, u114, u115, u116, u117, u118, u119, u120, u121, u122, u123, u124, u125, u126, u127, u128, u129, u130, u131, u132, u133, u134, u135, u136, u137, u138, u139, u140, u141, u142, u143, u144, u145, u146, u147, u148, u149, u150, u151, u152, u153, u154, u155, u156, u157, u158, u159, u160, u161, u162, u163, u164, u165, u166, u167, u168, u169, u170, u171, u172, u173, u174, u175, u176, u177, u178, u179, u180, u181, u182, u183, u184, u185, u186, u187, u188, u189, u190, u191, u192, u193, u194, u195, u196, u197, u198, u199, u200, u201, u202, u203, u204, u205, u206, u207, u208, u209, u210, u211, u212, u213, u214, u215, u216, u217, u218, u219, u220, u221, u222, u223, u224, u225, u226, u227, u228, u229, u230, u231, u232, u233, u234, u235, u236, u237, u238, u239], []⟩ wz)) : (Code.region 5 su5o true).wp Tryd.prog Q ⟨#[u0, u1, u2, u3, u4, u5, .pointer (some ⟨kb, 0, none⟩), .pointer (some ⟨wb, 0, none⟩), u8, u9, u10, vl, vm, u13, u14, u15, u16, u17, u18, u19, u20, u21, u22, u23, u24, u25, u26, u27, u28, u29, u30, u31, u32, u33, u34, u35, u36, u37, u38, u39, u40, u41, u42, u43, u44, u45, u46, u47, u48, u49, u50, u51, u52, u53, u54, u55, u56, u57, u58, u59, u60, u61, u62, u63, u64, u65, u66, u67, u68, u69, u70, u71, u72, u73, u74, u75, u76, u77, u78, u79, u80, u81, u82, u83, u84, u85, u86, u87, u88, u89, u90, u91, u92, u93, u94, u95, u96, u97, u98, u99, u100, u101, u102, u103, u104, u105, u106, u107, u108, u109, u110, u111, u112, u113, u114, u115, u116, u117, u118, u119, u120, u121, u122, u123, u124, u125, u126, u127, u128, u129, u130, u131, u132, u133, u134, u135, u136, u137, u138, u139, u140, u141, u142, u143, u144, u145, u146, u147, u148, u149, u150, u151, u152, u153, u154, u155, u156, u157, u158, u159, u160, u161, u162, u163, u164, u165, u166, u167, u168, u169, u170, u171, u172, u173, u174, u175, u176, u177, u178, u179, u180, u181, u182, u183, u184, u185, u186, u187, u188, u189, u190, u191, u192, u193, u194, u195, u196, u197, u198, u199, u200, u201, u202, u203, u204, u205, u206, u207, u208, u209, u210, u211, u212, u213, u214, u215, u216, u217, u218, u219, u220, u221, u222, u223, u224, u225, u226, u227, u228, u229, u230, u231, u232, u233, u234, u235, u236, u237, u238, u239], []⟩ W := by
  have AC : Hid (Ac 52 W [] W.drew) := hidden (Ac.none _ (bl_drew W))
  unfold su5o
  refine wp_region_noPanic ?_
  refine wp_region_held_drew (S := fun x => Below W.heap.size W x) (by kernel_rfl) (bl_drew W) (fun hH0 => ?_)
  refine wpAnyH_take (i := 0) (oi := { dst := some 70, op := Op.load 28 (Operand.tmp 7), type := 28, pos := "law.go:85", after := #[], guard := none }) (v := .agg #[.int .i64 qk, .int .i64 qi]) rfl (by kernel_rfl) (by kernel_rfl) (by kernel_rfl) (fun _ _ _ h => h) (Or.inl ⟨by rfl, fun w0 hSw => ?_⟩) hH0 ?_
  · (have hS : Below W.heap.size W w0 := hSw; have a0 := cell_keep q0 hS; have a1 := cell_keep q1 hS; clear hS hSw; go_simp)
  simp only [Act.put, List.setIfInBounds_toArray, List.set_cons_zero, List.set_cons_succ]
  refine wpAnyH_take (i := 3) (oi := { dst := some 73, op := Op.load 26 (Operand.tmp 6), type := 26, pos := "law.go:85", after := #[], guard := none }) (v := .agg #[.int .u64 k.x0, .int .u64 k.x1, .int .u64 k.x2, .int .u64 k.x3]) rfl (by kernel_rfl) (by kernel_rfl) (by kernel_rfl) (fun _ _ _ h => h) (Or.inl ⟨by rfl, fun w0 hSw => ?_⟩) hH0 ?_
  · (have hS : Below W.heap.size W w0 := hSw; have a0 := cell_keep k0 hS; have a1 := cell_keep k1 hS; have a2 := cell_keep k2 hS; have a3 := cell_keep k3 hS; clear hS hSw; go_simp)
  simp only [Act.put, List.setIfInBounds_toArray, List.set_cons_zero, List.set_cons_succ]
  refine wpAnyH_take (i := 6) (oi := { dst := some 76, op := Op.move (Operand.tmp 11), type := 31, pos := "law.go:85", after := #[], guard := none }) (v := vl) rfl (by kernel_rfl) (by kernel_rfl) (by kernel_rfl) (fun _ _ _ h => h) (Or.inl ⟨by rfl, fun w0 hSw => ?_⟩) hH0 ?_
  · (clear hSw; go_simp)
  simp only [Act.put, List.setIfInBounds_toArray, List.set_cons_zero, List.set_cons_succ]
  refine wpAnyH_take (i := 7) (oi := { dst := some 77, op := Op.move (Operand.tmp 12), type := 31, pos := "law.go:85", after := #[], guard := none }) (v := vm) rfl (by kernel_rfl) (by kernel_rfl) (by kernel_rfl) (fun _ _ _ h => h) (Or.inl ⟨by rfl, fun w0 hSw => ?_⟩) hH0 ?_
  · (clear hSw; go_simp)
  simp only [Act.put, List.setIfInBounds_toArray, List.set_cons_zero, List.set_cons_succ]
  refine wpAnyH_take (i := 9) (oi := { dst := some 79, op := Op.move (Operand.tmp 11), type := 31, pos := "law.go:85", after := #[], guard := none }) (v := vl) rfl (by kernel_rfl) (by kernel_rfl) (by kernel_rfl) (fun _ _ _ h => h) (Or.inl ⟨by rfl, fun w0 hSw => ?_⟩) hH0 ?_
  · (clear hSw; go_simp)
  simp only [Act.put, List.setIfInBounds_toArray, List.set_cons_zero, List.set_cons_succ]
  refine wpAnyH_take (i := 10) (oi := { dst := some 80, op := Op.move (Operand.tmp 12), type := 31, pos := "law.go:85", after := #[], guard := none }) (v := vm) rfl (by kernel_rfl) (by kernel_rfl) (by kernel_rfl) (fun _ _ _ h => h) (Or.inl ⟨by rfl, fun w0 hSw => ?_⟩) hH0 ?_
  · (clear hSw; go_simp)
  simp only [Act.put, List.setIfInBounds_toArray, List.set_cons_zero, List.set_cons_succ]
  refine wpAnyH_take (i := 12) (oi := { dst := some 82, op := Op.move (Operand.tmp 11), type := 31, pos := "law.go:85", after := #[], guard := none }) (v := vl) rfl (by kernel_rfl) (by kernel_rfl) (by kernel_rfl) (fun _ _ _ h => h) (Or.inl ⟨by rfl, fun w0 hSw => ?_⟩) hH0 ?_
  · (clear hSw; go_simp)
  simp only [Act.put, List.setIfInBounds_toArray, List.set_cons_zero, List.set_cons_succ]
  refine wpAnyH_take (i := 13) (oi := { dst := some 83, op := Op.load 26 (Operand.tmp 6), type := 26, pos := "law.go:85", after := #[], guard := none }) (v := .agg #[.int .u64 k.x0, .int .u64 k.x1, .int .u64 k.x2, .int .u64 k.x3]) rfl (by kernel_rfl) (by kernel_rfl) (by kernel_rfl) (fun _ _ _ h => h) (Or.inl ⟨by rfl, fun w0 hSw => ?_⟩) hH0 ?_
  · (have hS : Below W.heap.size W w0 := hSw; have a0 := cell_keep k0 hS; have a1 := cell_keep k1 hS; have a2 := cell_keep k2 hS; have a3 := cell_keep k3 hS; clear hS hSw; go_simp)
  simp only [Act.put, List.setIfInBounds_toArray, List.set_cons_zero, List.set_cons_succ]
  refine wpAnyH_take (i := 16) (oi := { dst := some 86, op := Op.move (Operand.tmp 11), type := 31, pos := "law.go:85", after := #[], guard := none }) (v := vl) rfl (by kernel_rfl) (by kernel_rfl) (by kernel_rfl) (fun _ _ _ h => h) (Or.inl ⟨by rfl, fun w0 hSw => ?_⟩) hH0 ?_
  · (clear hSw; go_simp)
  simp only [Act.put, List.setIfInBounds_toArray, List.set_cons_zero, List.set_cons_succ]
  refine wpAnyH_take (i := 18) (oi := { dst := some 88, op := Op.move (Operand.tmp 12), type := 31, pos := "law.go:85", after := #[], guard := none }) (v := vm) rfl (by kernel_rfl) (by kernel_rfl) (by kernel_rfl) (fun _ _ _ h => h) (Or.inl ⟨by rfl, fun w0 hSw => ?_⟩) hH0 ?_
  · (clear hSw; go_simp)
  simp only [Act.put, List.setIfInBounds_toArray, List.set_cons_zero, List.set_cons_succ]
  refine wpAnyH_ready (rs := [1]) (by kernel_rfl) (by simp) ?_
  refine AllReadyH.cons (o := { dst := some 71, op := Op.call { callee := Callee.value (Operand.func 13), args := #[Operand.tmp 70], argTypes := #[28] }, type := 38, pos := "law.go:85", after := #[{ on := 0, ground := Ground.data }], guard := none }) rfl (fun K hK => ?_) AllReadyH.nil
  have HH := hidden hH0
  clear hH0
  go_simp
  refine (CW.out _).mono ?_
  rintro e wn1 ⟨rfl, hb⟩
  have SN := hidden (bl_trans HH.out hb)
  replace AC := hidden (AC.out.keep hb)
  clear HH CW hb
  go_wp2_with fail
  refine hK.out _ _ SN.out (fun hH1 => ?_)
  clear hK K SN
  refine wpAnyH_ready (rs := [2]) (by kernel_rfl) (by simp) ?_
  refine AllReadyH.cons (o := { dst := some 72, op := Op.call { callee := Callee.value (Operand.func 12), args := #[Operand.tmp 71], argTypes := #[38] }, type := 31, pos := "law.go:85", after := #[{ on := 1, ground := Ground.data }, { on := 1, ground := Ground.chain }], guard := none }) rfl (fun K hK => ?_) AllReadyH.nil
  have HH := hidden hH1
  clear hH1
  go_simp
  refine (C0.out _ HH.out).mono ?_
  rintro e wn2 ⟨p0, c0, rfl, ho, hb⟩
  have SN := hidden (bl_trans HH.out hb)
  replace AC := hidden (AC.out.next ho hb)
  clear HH C0 ho hb
  go_wp2_with fail
  refine hK.out _ _ SN.out (fun hH2 => ?_)
  clear hK K SN
  refine wpAnyH_ready (rs := [4]) (by kernel_rfl) (by simp) ?_
  refine AllReadyH.cons (o := { dst := some 74, op := Op.call { callee := Callee.value (Operand.func 15), args := #[Operand.tmp 73], argTypes := #[26] }, type := 41, pos := "law.go:85", after := #[{ on := 3, ground := Ground.data }, { on := 2, ground := Ground.chain }], guard := none }) rfl (fun K hK => ?_) AllReadyH.nil
  have HH := hidden hH2
  clear hH2
  go_simp
  refine (CN.out _).mono ?_
  rintro e wn3 ⟨rfl, hb⟩
  have SN := hidden (bl_trans HH.out hb)
  replace AC := hidden (AC.out.keep hb)
  clear HH hb
  go_wp2_with fail
  refine hK.out _ _ SN.out (fun hH3 => ?_)
  clear hK K SN
  refine wpAnyH_ready (rs := [5]) (by kernel_rfl) (by simp) ?_
  refine AllReadyH.cons (o := { dst := some 75, op := Op.call { callee := Callee.value (Operand.func 14), args := #[Operand.tmp 74], argTypes := #[41] }, type := 31, pos := "law.go:85", after := #[{ on := 4, ground := Ground.data }, { on := 4, ground := Ground.chain }], guard := none }) rfl (fun K hK => ?_) AllReadyH.nil
  have HH := hidden hH3
  clear hH3
  go_simp
  refine (C1.out _ HH.out).mono ?_
  rintro e wn4 ⟨p1, c1, rfl, ho, hb⟩
  have SN := hidden (bl_trans HH.out hb)
  replace AC := hidden (AC.out.next ho hb)
  clear HH C1 ho hb
  go_wp2_with fail
  refine hK.out _ _ SN.out (fun hH4 => ?_)
  clear hK K SN
  refine wpAnyH_ready (rs := [8]) (by kernel_rfl) (by simp) ?_
  refine AllReadyH.cons (o := { dst := some 78, op := Op.call { callee := Callee.value (Operand.func 16), args := #[Operand.tmp 76, Operand.tmp 77], argTypes := #[31, 31] }, type := 31, pos := "law.go:85", after := #[{ on := 6, ground := Ground.data }, { on := 7, ground := Ground.data }, { on := 5, ground := Ground.chain }], guard := none }) rfl (fun K hK => ?_) AllReadyH.nil
  have HH := hidden hH4
  clear hH4
  go_simp
  refine (C2.out _ HH.out).mono ?_
  rintro e wn5 ⟨p2, c2, rfl, ho, hb⟩
  have SN := hidden (bl_trans HH.out hb)
  replace AC := hidden (AC.out.next ho hb)
  clear HH C2 ho hb
  go_wp2_with fail
  refine hK.out _ _ SN.out (fun hH5 => ?_)
  clear hK K SN
  refine wpAnyH_ready (rs := [11]) (by kernel_rfl) (by simp) ?_
  refine AllReadyH.cons (o := { dst := some 81, op := Op.call { callee := Callee.value (Operand.func 17), args := #[Operand.tmp 79, Operand.tmp 80], argTypes := #[31, 31] }, type := 31, pos := "law.go:85", after := #[{ on := 9, ground := Ground.data }, { on := 10, ground := Ground.data }, { on := 8, ground := Ground.chain }], guard := none }) rfl (fun K hK => ?_) AllReadyH.nil
  have HH := hidden hH5
  clear hH5
  go_simp
  refine (C3.out _ HH.out).mono ?_
  rintro e wn6 ⟨p3, c3, rfl, ho, hb⟩
  have SN := hidden (bl_trans HH.out hb)
  replace AC := hidden (AC.out.next ho hb)
  clear HH C3 ho hb
  go_wp2_with fail
  refine hK.out _ _ SN.out (fun hH6 => ?_)
  clear hK K SN
  refine wpAnyH_ready (rs := [14]) (by kernel_rfl) (by simp) ?_
  refine AllReadyH.cons (o := { dst := some 84, op := Op.call { callee := Callee.value (Operand.func 15), args := #[Operand.tmp 83], argTypes := #[26] }, type := 41, pos := "law.go:85", after := #[{ on := 13, ground := Ground.data }, { on := 11, ground := Ground.chain }], guard := none }) rfl (fun K hK => ?_) AllReadyH.nil
  have HH := hidden hH6
  clear hH6
  go_simp
  refine (CN.out _).mono ?_
  rintro e wn7 ⟨rfl, hb⟩
  have SN := hidden (bl_trans HH.out hb)
  replace AC := hidden (AC.out.keep hb)
  clear HH CN hb
  go_wp2_with fail
  refine hK.out _ _ SN.out (fun hH7 => ?_)
  clear hK K SN
  refine wpAnyH_ready (rs := [15]) (by kernel_rfl) (by simp) ?_
  refine AllReadyH.cons (o := { dst := some 85, op := Op.call { callee := Callee.value (Operand.func 18), args := #[Operand.tmp 82, Operand.tmp 84], argTypes := #[31, 41] }, type := 31, pos := "law.go:85", after := #[{ on := 12, ground := Ground.data }, { on := 14, ground := Ground.data }, { on := 14, ground := Ground.chain }], guard := none }) rfl (fun K hK => ?_) AllReadyH.nil
  have HH := hidden hH7
  clear hH7
  go_simp
  refine (C4.out _ HH.out).mono ?_
  rintro e wn8 ⟨p4, c4, rfl, ho, hb⟩
  have SN := hidden (bl_trans HH.out hb)
  replace AC := hidden (AC.out.next ho hb)
  clear HH C4 ho hb
  go_wp2_with fail
  refine hK.out _ _ SN.out (fun hH8 => ?_)
  clear hK K SN
  refine wpAnyH_ready (rs := [17]) (by kernel_rfl) (by simp) ?_
  refine AllReadyH.cons (o := { dst := some 87, op := Op.call { callee := Callee.value (Operand.func 19), args := #[Operand.tmp 86], argTypes := #[31] }, type := 31, pos := "law.go:85", after := #[{ on := 16, ground := Ground.data }, { on := 15, ground := Ground.chain }], guard := none }) rfl (fun K hK => ?_) AllReadyH.nil
  have HH := hidden hH8
  clear hH8
  go_simp
  refine (C5.out _ HH.out).mono ?_
  rintro e wn9 ⟨p5, c5, rfl, ho, hb⟩
  have SN := hidden (bl_trans HH.out hb)
  replace AC := hidden (AC.out.next ho hb)
  clear HH C5 ho hb
  go_wp2_with fail
  refine hK.out _ _ SN.out (fun hH9 => ?_)
  clear hK K SN
  refine wpAnyH_ready (rs := [19]) (by kernel_rfl) (by simp) ?_
  refine AllReadyH.cons (o := { dst := some 89, op := Op.call { callee := Callee.value (Operand.func 19), args := #[Operand.tmp 88], argTypes := #[31] }, type := 31, pos := "law.go:85", after := #[{ on := 18, ground := Ground.data }, { on := 17, ground := Ground.chain }], guard := none }) rfl (fun K hK => ?_) AllReadyH.nil
  have HH := hidden hH9
  clear hH9
  go_simp
  refine (C6.out _ HH.out).mono ?_
  rintro e wn10 ⟨p6, c6, rfl, ho, hb⟩
  have SN := hidden (bl_trans HH.out hb)
  replace AC := hidden (AC.out.next ho hb)
  clear HH C6 ho hb
  go_wp2_with fail
  refine hK.out _ _ SN.out (fun hH10 => ?_)
  clear hK K SN
  refine wpAnyH_ready (rs := [20]) (by kernel_rfl) (by simp) ?_
  refine AllReadyH.cons (o := { dst := some 90, op := Op.buildSlice 45 7 #[(0, Operand.tmp 72), (1, Operand.tmp 75), (2, Operand.tmp 78), (3, Operand.tmp 81), (4, Operand.tmp 85), (5, Operand.tmp 87), (6, Operand.tmp 89)], type := 45, pos := "law.go:85", after := #[{ on := 2, ground := Ground.data }, { on := 5, ground := Ground.data }, { on := 8, ground := Ground.data }, { on := 11, ground := Ground.data }, { on := 15, ground := Ground.data }, { on := 17, ground := Ground.data }, { on := 19, ground := Ground.data }], guard := none }) rfl (fun K hK => ?_) AllReadyH.nil
  have HH := hidden hH10
  clear hH10
  refine build7R _ _ _ _ _ _ _ rfl p0 p1 p2 p3 p4 p5 p6 _ _ _ _ _ _ _ c0 c1 c2 c3 c4 c5 c6 rfl rfl rfl rfl rfl rfl rfl (fun tb wn11 htb hwq => ?_)
  have SN := hidden (by rw [hwq]; exact bl_trans HH.out (bl_alloc _ _) : Below W.heap.size W wn11)
  replace AC := hidden (by rw [hwq]; exact AC.out.keep (bl_alloc _ _) : Ac 52 W [(X0, p0, c0), (X1, p1, c1), (X2, p2, c2), (X3, p3, c3), (X4, p4, c4), (X5, p5, c5), (X6, p6, c6)] wn11)
  have OA := hidden (by rw [htb, hwq]; exact own_new7 _ 31 [.slice p0 X0.length c0, .slice p1 X1.length c1, .slice p2 X2.length c2, .slice p3 X3.length c3, .slice p4 X4.length c4, .slice p5 X5.length c5, .slice p6 X6.length c6] rfl HH.out.size : wn11.ownsRow W.heap.size 31 1 (.slice (some ⟨tb, 0, none⟩) 7 7) 7 [.slice p0 X0.length c0, .slice p1 X1.length c1, .slice p2 X2.length c2, .slice p3 X3.length c3, .slice p4 X4.length c4, .slice p5 X5.length c5, .slice p6 X6.length c6])
  clear HH htb hwq
  simp only [Act.put, List.setIfInBounds_toArray, List.set_cons_zero, List.set_cons_succ]
  refine hK.out _ _ SN.out (fun hH11 => ?_)
  clear hK K SN
  refine wpAnyH_take (i := 21) (oi := { dst := some 14, op := Op.assign (Operand.tmp 90), type := 45, pos := "law.go:85", after := #[{ on := 20, ground := Ground.data }, { on := 19, ground := Ground.chain }, { on := 0, ground := Ground.phase }, { on := 1, ground := Ground.phase }, { on := 2, ground := Ground.phase }, { on := 3, ground := Ground.phase }, { on := 4, ground := Ground.phase }, { on := 5, ground := Ground.phase }, { on := 6, ground := Ground.phase }, { on := 7, ground := Ground.phase }, { on := 8, ground := Ground.phase }, { on := 9, ground := Ground.phase }, { on := 10, ground := Ground.phase }, { on := 11, ground := Ground.phase }, { on := 12, ground := Ground.phase }, { on := 13, ground := Ground.phase }, { on := 14, ground := Ground.phase }, { on := 15, ground := Ground.phase }, { on := 16, ground := Ground.phase }, { on := 17, ground := Ground.phase }, { on := 18, ground := Ground.phase }, { on := 19, ground := Ground.phase }, { on := 20, ground := Ground.phase }], guard := none }) (v := .slice (some ⟨tb, 0, none⟩) 7 7) rfl (by kernel_rfl) (by kernel_rfl) (by kernel_rfl) (fun _ _ _ h => h) (Or.inl ⟨by rfl, fun w0 hSw => ?_⟩) hH11 ?_
  · (clear hSw; go_simp)
  simp only [Act.put, List.setIfInBounds_toArray, List.set_cons_zero, List.set_cons_succ]
  have HH := hidden hH11
  have FQ := hidden (HQ.out _ tb p0 p1 p2 p3 p4 p5 p6 c0 c1 c2 c3 c4 c5 c6 AC.out OA.out)
  refine wpAnyH_done (by kernel_rfl) ?_ _
  refine NoPanic.normal ?_
  exact FQ.out
def su10o : Array Oper := #[{ dst := some 100, op := Op.move (Operand.tmp 13), type := 36, pos := "law.go:88", after := #[], guard := none },
  { dst := some 101, op := Op.move (Operand.tmp 15), type := 3, pos := "law.go:88", after := #[], guard := none },
  { dst := some 102, op := Op.indexAddr 36 (Operand.tmp 100) (Operand.tmp 101), type := 0, pos := "law.go:88", after := #[{ on := 0, ground := Ground.data }, { on := 1, ground := Ground.data }], guard := none },
  { dst := some 103, op := Op.load 23 (Operand.tmp 102), type := 23, pos := "law.go:88", after := #[{ on := 2, ground := Ground.data }], guard := none },
  { dst := some 104, op := Op.move (Operand.tmp 14), type := 45, pos := "law.go:88", after := #[], guard := none },
  { dst := some 105, op := Op.move (Operand.tmp 15), type := 3, pos := "law.go:88", after := #[], guard := none },
  { dst := some 106, op := Op.indexAddr 45 (Operand.tmp 104) (Operand.tmp 105), type := 0, pos := "law.go:88", after := #[{ on := 4, ground := Ground.data }, { on := 5, ground := Ground.data }], guard := none },
  { dst := some 107, op := Op.load 31 (Operand.tmp 106), type := 31, pos := "law.go:88", after := #[{ on := 6, ground := Ground.data }], guard := none },
  { dst := some 108, op := Op.call { callee := Callee.value (Operand.func 20), args := #[Operand.tmp 103, Operand.tmp 107], argTypes := #[23, 31] }, type := 4, pos := "law.go:88", after := #[{ on := 3, ground := Ground.data }, { on := 7, ground := Ground.data }], guard := none },
  { dst := some 109, op := Op.unOp UnOp.not 4 (Operand.tmp 108), type := 4, pos := "law.go:88", after := #[{ on := 8, ground := Ground.data }], guard := none }]
set_option maxRecDepth 100000 in
set_option maxHeartbeats 16000000 in
theorem su10 (Q : Exit → Act → World → Prop) (B cB D cD i na da nb db : Nat) (pa pb : Option Addr) (u0 u1 u2 u3 u4 u5 u6 u7 u8 u9 u10 u11 u12 u16 u17 u18 u19 u20 u21 u22 u23 u24 u25 u26 u27 u28 u29 u30 u31 u32 u33 u34 u35 u36 u37 u38 u39 u40 u41 u42 u43 u44 u45 u46 u47 u48 u49 u50 u51 u52 u53 u54 u55 u56 u57 u58 u59 u60 u61 u62 u63 u64 u65 u66 u67 u68 u69 u70 u71 u72 u73 u74 u75 u76 u77 u78 u79 u80 u81 u82 u83 u84 u85 u86 u87 u88 u89 u90 u91 u92 u93 u94 u95 u96 u97 u98 u99 u100 u101 u102 u103 u104 u105 u106 u107 u108 u109 u110 u111 u112 u113 u114 u115 u116 u117 u118 u119 u120 u121 u122 u123 u124 u125 u126 u127 u128 u129 u130 u131 u132 u133 u134 u135 u136 u137 u138 u139 u140 u141 u142 u143 u144 u145 u146 u147 u148 u149 u150 u151 u152 u153 u154 u155 u156 u157 u158 u159 u160 u161 u162 u163 u164 u165 u166 u167 u168 u169 u170 u171 u172 u173 u174 u175 u176 u177 u178 u179 u180 u181 u182 u183 u184 u185 u186 u187 u188 u189 u190 u191 u192 u193 u194 u195 u196 u197 u198 u199 u200 u201 u202 u203 u204 u205 u206 u207 u208 u209 u210 u211 u212 u213 u214 u215 u216 u217 u218 u219 u220 u221 u222 u223 u224 u225 u226 u227 u228 u229 u230 u231 u232 u233 u234 u235 u236 u237 u238 u239 : Value) (W : World)
    (i0 : (0 : Int) ≤ (i : Int)) (i1 : (i : Int) < 14) (a0 : W.cell? ⟨B, i, none⟩ = some (.slice pa na da)) (b0 : W.cell? ⟨D, i, none⟩ = some (.slice pb nb db))
    (CI : Hid (∀ y, Below W.heap.size W y → Calls Tryd.prog 20 #[.slice pa na da, .slice pb nb db] y fun e w' => e = .returned (.bool true) ∧ Below y.heap.size y w'))
    (HQ : Hid (∀ (wz : World), Below W.heap.size W wz → Q .normal ⟨#[u0, u1, u2, u3, u4, u5, u6, u7, u8, u9, u10, u11, u12, .slice (some ⟨B, 0, none⟩) 14 cB, .slice (some ⟨D, 0, none⟩) 14 cD, .int .i64 (i : Int), u16, u17, u18, u19, u20, u21, u22, u23, u24, u25, u26, u27, u28, u29, u30, u31, u32, u33, u34, u35, u36, u37, u38, u39, u40, u41, u42, u43, u44, u45, u46, u47, u48, u49, u50, u51, u52, u53, u54, u55, u56, u57, u58, u59, u60, u61, u62, u63, u64, u65, u66, u67, u68, u69, u70, u71, u72, u73, u74, u75, u76, u77, u78, u79, u80, u81, u82, u83, u84, u85, u86, u87, u88, u89, u90, u91, u92, u93, u94, u95, u96, u97, u98, u99, .slice (some ⟨B, 0, none⟩) 14 cB, .int .i64 (i : Int), .pointer (some ⟨B, i, none⟩), .slice pa na da, .slice (some ⟨D, 0, none⟩) 14 cD, .int .i64 (i : Int), .pointer (some ⟨D, i, none⟩), .slice pb nb db, .bool true, .bool false, u110, u111, u112, u113, u114, u115, u116, u117, u118, u119, u120, u121, u122, u123, u124, u125, u126, u127, u128, u129, u130, u131, u132, u133, u134, u135, u136, u137, u138, u139, u140, u141, u142, u143, u144, u145, u146, u147, u148, u149, u150, u151, u152, u153, u154, u155, u156, u157, u158, u159, u160, u161, u162, u163, u164, u165, u166, u167, u168, u169, u170, u171, u172, u173, u174, u175, u176, u177, u178, u179, u180, u181, u182, u183, u184, u185, u186, u187, u188, u189, u190, u191, u192, u193, u194, u195, u196, u197, u198, u199, u200, u201, u202, u203, u204, u205, u206, u207, u208, u209, u210, u211, u212, u213, u214, u215, u216, u217, u218, u219, u220, u221, u222, u223, u224, u225, u226, u227, u228, u229, u230, u231, u232, u233, u234, u235, u236, u237, u238, u239], []⟩ wz)) : (Code.region 10 su10o true).wp Tryd.prog Q ⟨#[u0, u1, u2, u3, u4, u5, u6, u7, u8, u9, u10, u11, u12, .slice (some ⟨B, 0, none⟩) 14 cB, .slice (some ⟨D, 0, none⟩) 14 cD, .int .i64 (i : Int), u16, u17, u18, u19, u20, u21, u22, u23, u24, u25, u26, u27, u28, u29, u30, u31, u32, u33, u34, u35, u36, u37, u38, u39, u40, u41, u42, u43, u44, u45, u46, u47, u48, u49, u50, u51, u52, u53, u54, u55, u56, u57, u58, u59, u60, u61, u62, u63, u64, u65, u66, u67, u68, u69, u70, u71, u72, u73, u74, u75, u76, u77, u78, u79, u80, u81, u82, u83, u84, u85, u86, u87, u88, u89, u90, u91, u92, u93, u94, u95, u96, u97, u98, u99, u100, u101, u102, u103, u104, u105, u106, u107, u108, u109, u110, u111, u112, u113, u114, u115, u116, u117, u118, u119, u120, u121, u122, u123, u124, u125, u126, u127, u128, u129, u130, u131, u132, u133, u134, u135, u136, u137, u138, u139, u140, u141, u142, u143, u144, u145, u146, u147, u148, u149, u150, u151, u152, u153, u154, u155, u156, u157, u158, u159, u160, u161, u162, u163, u164, u165, u166, u167, u168, u169, u170, u171, u172, u173, u174, u175, u176, u177, u178, u179, u180, u181, u182, u183, u184, u185, u186, u187, u188, u189, u190, u191, u192, u193, u194, u195, u196, u197, u198, u199, u200, u201, u202, u203, u204, u205, u206, u207, u208, u209, u210, u211, u212, u213, u214, u215, u216, u217, u218, u219, u220, u221, u222, u223, u224, u225, u226, u227, u228, u229, u230, u231, u232, u233, u234, u235, u236, u237, u238, u239], []⟩ W := by
  unfold su10o
  refine wp_region_noPanic ?_
  refine wp_region_held_drew (S := fun x => Below W.heap.size W x) (by kernel_rfl) (bl_drew W) (fun hH0 => ?_)
  refine wpAnyH_take (i := 0) (oi := { dst := some 100, op := Op.move (Operand.tmp 13), type := 36, pos := "law.go:88", after := #[], guard := none }) (v := .slice (some ⟨B, 0, none⟩) 14 cB) rfl (by kernel_rfl) (by kernel_rfl) (by kernel_rfl) (fun _ _ _ h => h) (Or.inl ⟨by rfl, fun w0 hSw => ?_⟩) hH0 ?_
  · (clear hSw; go_simp)
  simp only [Act.put, List.setIfInBounds_toArray, List.set_cons_zero, List.set_cons_succ]
  refine wpAnyH_take (i := 1) (oi := { dst := some 101, op := Op.move (Operand.tmp 15), type := 3, pos := "law.go:88", after := #[], guard := none }) (v := .int .i64 (i : Int)) rfl (by kernel_rfl) (by kernel_rfl) (by kernel_rfl) (fun _ _ _ h => h) (Or.inl ⟨by rfl, fun w0 hSw => ?_⟩) hH0 ?_
  · (clear hSw; go_simp)
  simp only [Act.put, List.setIfInBounds_toArray, List.set_cons_zero, List.set_cons_succ]
  refine wpAnyH_take (i := 4) (oi := { dst := some 104, op := Op.move (Operand.tmp 14), type := 45, pos := "law.go:88", after := #[], guard := none }) (v := .slice (some ⟨D, 0, none⟩) 14 cD) rfl (by kernel_rfl) (by kernel_rfl) (by kernel_rfl) (fun _ _ _ h => h) (Or.inl ⟨by rfl, fun w0 hSw => ?_⟩) hH0 ?_
  · (clear hSw; go_simp)
  simp only [Act.put, List.setIfInBounds_toArray, List.set_cons_zero, List.set_cons_succ]
  refine wpAnyH_take (i := 5) (oi := { dst := some 105, op := Op.move (Operand.tmp 15), type := 3, pos := "law.go:88", after := #[], guard := none }) (v := .int .i64 (i : Int)) rfl (by kernel_rfl) (by kernel_rfl) (by kernel_rfl) (fun _ _ _ h => h) (Or.inl ⟨by rfl, fun w0 hSw => ?_⟩) hH0 ?_
  · (clear hSw; go_simp)
  simp only [Act.put, List.setIfInBounds_toArray, List.set_cons_zero, List.set_cons_succ]
  refine wpAnyH_take (i := 2) (oi := { dst := some 102, op := Op.indexAddr 36 (Operand.tmp 100) (Operand.tmp 101), type := 0, pos := "law.go:88", after := #[{ on := 0, ground := Ground.data }, { on := 1, ground := Ground.data }], guard := none }) (v := .pointer (some ⟨B, i, none⟩)) rfl (by kernel_rfl) (by kernel_rfl) (by kernel_rfl) (fun _ _ _ h => h) (Or.inl ⟨by rfl, fun w0 hSw => ?_⟩) hH0 ?_
  · (clear hSw; go_simp)
  simp only [Act.put, List.setIfInBounds_toArray, List.set_cons_zero, List.set_cons_succ]
  refine wpAnyH_take (i := 6) (oi := { dst := some 106, op := Op.indexAddr 45 (Operand.tmp 104) (Operand.tmp 105), type := 0, pos := "law.go:88", after := #[{ on := 4, ground := Ground.data }, { on := 5, ground := Ground.data }], guard := none }) (v := .pointer (some ⟨D, i, none⟩)) rfl (by kernel_rfl) (by kernel_rfl) (by kernel_rfl) (fun _ _ _ h => h) (Or.inl ⟨by rfl, fun w0 hSw => ?_⟩) hH0 ?_
  · (clear hSw; go_simp)
  simp only [Act.put, List.setIfInBounds_toArray, List.set_cons_zero, List.set_cons_succ]
  refine wpAnyH_take (i := 3) (oi := { dst := some 103, op := Op.load 23 (Operand.tmp 102), type := 23, pos := "law.go:88", after := #[{ on := 2, ground := Ground.data }], guard := none }) (v := .slice pa na da) rfl (by kernel_rfl) (by kernel_rfl) (by kernel_rfl) (fun _ _ _ h => h) (Or.inl ⟨by rfl, fun w0 hSw => ?_⟩) hH0 ?_
  · (have hS : Below W.heap.size W w0 := hSw; have a0 := cell_keep a0 hS; clear hS hSw; go_simp)
  simp only [Act.put, List.setIfInBounds_toArray, List.set_cons_zero, List.set_cons_succ]
  refine wpAnyH_take (i := 7) (oi := { dst := some 107, op := Op.load 31 (Operand.tmp 106), type := 31, pos := "law.go:88", after := #[{ on := 6, ground := Ground.data }], guard := none }) (v := .slice pb nb db) rfl (by kernel_rfl) (by kernel_rfl) (by kernel_rfl) (fun _ _ _ h => h) (Or.inl ⟨by rfl, fun w0 hSw => ?_⟩) hH0 ?_
  · (have hS : Below W.heap.size W w0 := hSw; have a0 := cell_keep b0 hS; clear hS hSw; go_simp)
  simp only [Act.put, List.setIfInBounds_toArray, List.set_cons_zero, List.set_cons_succ]
  refine wpAnyH_ready (rs := [8]) (by kernel_rfl) (by simp) ?_
  refine AllReadyH.cons (o := { dst := some 108, op := Op.call { callee := Callee.value (Operand.func 20), args := #[Operand.tmp 103, Operand.tmp 107], argTypes := #[23, 31] }, type := 4, pos := "law.go:88", after := #[{ on := 3, ground := Ground.data }, { on := 7, ground := Ground.data }], guard := none }) rfl (fun K hK => ?_) AllReadyH.nil
  have HH := hidden hH0
  clear hH0
  go_simp
  refine (CI.out _ HH.out).mono ?_
  rintro e wn1 ⟨rfl, hb⟩
  have SN := hidden (bl_trans HH.out hb)
  clear HH CI hb
  go_wp2_with fail
  refine hK.out _ _ SN.out (fun hH1 => ?_)
  clear hK K SN
  refine wpAnyH_take (i := 9) (oi := { dst := some 109, op := Op.unOp UnOp.not 4 (Operand.tmp 108), type := 4, pos := "law.go:88", after := #[{ on := 8, ground := Ground.data }], guard := none }) (v := .bool false) rfl (by kernel_rfl) (by kernel_rfl) (by kernel_rfl) (fun _ _ _ h => h) (Or.inl ⟨by rfl, fun w0 hSw => ?_⟩) hH1 ?_
  · (clear hSw; go_simp)
  simp only [Act.put, List.setIfInBounds_toArray, List.set_cons_zero, List.set_cons_succ]
  have HH := hidden hH1
  have FQ := hidden (HQ.out _ HH.out)
  refine wpAnyH_done (by kernel_rfl) ?_ _
  refine NoPanic.normal ?_
  exact FQ.out
end Ci
end Go.Proofs.YtbmbopapmajaaaaDoor
