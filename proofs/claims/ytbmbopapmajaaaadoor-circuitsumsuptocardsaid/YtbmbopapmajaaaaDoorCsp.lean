import Derived.Test.YtbmbopapmajaaaaDoorCsn
namespace Go.Proofs.YtbmbopapmajaaaaDoor
open Go.RowKit
set_option linter.unusedVariables false
set_option linter.unusedSimpArgs false
open Cm (Wr Tm co bf Ls lf ins Eqm)
namespace Ci
open Xo
set_option maxRecDepth 100000
set_option maxHeartbeats 4000000
def su4o : Array Oper := #[{ dst := some 50, op := Op.move (Operand.tmp 13), type := 36, pos := "law.go:84", after := #[], guard := none },
  { dst := some 51, op := Op.load 28 (Operand.tmp 7), type := 28, pos := "law.go:84", after := #[], guard := none },
  { dst := some 52, op := Op.call { callee := Callee.value (Operand.func 6), args := #[Operand.tmp 51], argTypes := #[28] }, type := 23, pos := "law.go:84", after := #[{ on := 1, ground := Ground.data }], guard := none },
  { dst := some 53, op := Op.load 26 (Operand.tmp 6), type := 26, pos := "law.go:84", after := #[], guard := none },
  { dst := some 54, op := Op.call { callee := Callee.value (Operand.func 7), args := #[Operand.tmp 53], argTypes := #[26] }, type := 23, pos := "law.go:84", after := #[{ on := 3, ground := Ground.data }, { on := 2, ground := Ground.chain }], guard := none },
  { dst := some 55, op := Op.move (Operand.tmp 9), type := 23, pos := "law.go:84", after := #[], guard := none },
  { dst := some 56, op := Op.move (Operand.tmp 10), type := 23, pos := "law.go:84", after := #[], guard := none },
  { dst := some 57, op := Op.call { callee := Callee.value (Operand.func 8), args := #[Operand.tmp 55, Operand.tmp 56], argTypes := #[23, 23] }, type := 23, pos := "law.go:84", after := #[{ on := 5, ground := Ground.data }, { on := 6, ground := Ground.data }, { on := 4, ground := Ground.chain }], guard := none },
  { dst := some 58, op := Op.move (Operand.tmp 9), type := 23, pos := "law.go:84", after := #[], guard := none },
  { dst := some 59, op := Op.move (Operand.tmp 10), type := 23, pos := "law.go:84", after := #[], guard := none },
  { dst := some 60, op := Op.call { callee := Callee.value (Operand.func 9), args := #[Operand.tmp 58, Operand.tmp 59], argTypes := #[23, 23] }, type := 23, pos := "law.go:84", after := #[{ on := 8, ground := Ground.data }, { on := 9, ground := Ground.data }, { on := 7, ground := Ground.chain }], guard := none },
  { dst := some 61, op := Op.move (Operand.tmp 9), type := 23, pos := "law.go:84", after := #[], guard := none },
  { dst := some 62, op := Op.load 26 (Operand.tmp 6), type := 26, pos := "law.go:84", after := #[], guard := none },
  { dst := some 63, op := Op.call { callee := Callee.value (Operand.func 10), args := #[Operand.tmp 61, Operand.tmp 62], argTypes := #[23, 26] }, type := 23, pos := "law.go:84", after := #[{ on := 11, ground := Ground.data }, { on := 12, ground := Ground.data }, { on := 10, ground := Ground.chain }], guard := none },
  { dst := some 64, op := Op.move (Operand.tmp 9), type := 23, pos := "law.go:84", after := #[], guard := none },
  { dst := some 65, op := Op.call { callee := Callee.value (Operand.func 11), args := #[Operand.tmp 64], argTypes := #[23] }, type := 23, pos := "law.go:84", after := #[{ on := 14, ground := Ground.data }, { on := 13, ground := Ground.chain }], guard := none },
  { dst := some 66, op := Op.move (Operand.tmp 10), type := 23, pos := "law.go:84", after := #[], guard := none },
  { dst := some 67, op := Op.call { callee := Callee.value (Operand.func 11), args := #[Operand.tmp 66], argTypes := #[23] }, type := 23, pos := "law.go:84", after := #[{ on := 16, ground := Ground.data }, { on := 15, ground := Ground.chain }], guard := none },
  { dst := some 68, op := Op.buildSlice 36 7 #[(0, Operand.tmp 52), (1, Operand.tmp 54), (2, Operand.tmp 57), (3, Operand.tmp 60), (4, Operand.tmp 63), (5, Operand.tmp 65), (6, Operand.tmp 67)], type := 36, pos := "law.go:84", after := #[{ on := 2, ground := Ground.data }, { on := 4, ground := Ground.data }, { on := 7, ground := Ground.data }, { on := 10, ground := Ground.data }, { on := 13, ground := Ground.data }, { on := 15, ground := Ground.data }, { on := 17, ground := Ground.data }], guard := none },
  { dst := some 69, op := Op.call { callee := Callee.builtin Builtin.append, args := #[Operand.tmp 50, Operand.tmp 68], argTypes := #[36, 36] }, type := 36, pos := "law.go:84", after := #[{ on := 0, ground := Ground.data }, { on := 18, ground := Ground.data }, { on := 17, ground := Ground.chain }], guard := none },
  { dst := some 13, op := Op.assign (Operand.tmp 69), type := 36, pos := "law.go:84", after := #[{ on := 19, ground := Ground.data }, { on := 19, ground := Ground.chain }, { on := 0, ground := Ground.phase }, { on := 1, ground := Ground.phase }, { on := 2, ground := Ground.phase }, { on := 3, ground := Ground.phase }, { on := 4, ground := Ground.phase }, { on := 5, ground := Ground.phase }, { on := 6, ground := Ground.phase }, { on := 7, ground := Ground.phase }, { on := 8, ground := Ground.phase }, { on := 9, ground := Ground.phase }, { on := 10, ground := Ground.phase }, { on := 11, ground := Ground.phase }, { on := 12, ground := Ground.phase }, { on := 13, ground := Ground.phase }, { on := 14, ground := Ground.phase }, { on := 15, ground := Ground.phase }, { on := 16, ground := Ground.phase }, { on := 17, ground := Ground.phase }, { on := 18, ground := Ground.phase }, { on := 19, ground := Ground.phase }], guard := none }]
set_option maxRecDepth 100000 in
set_option maxHeartbeats 16000000 in
theorem su4 (Q : Exit → Act → World → Prop) (kb wb tb : Nat) (k : E4) (qk qi : Int) (vx vy : Value) (X0 X1 X2 X3 X4 X5 X6 : List Tm) (p0 p1 p2 p3 p4 p5 p6 : Option Addr) (c0 c1 c2 c3 c4 c5 c6 : Nat) (u0 u1 u2 u3 u4 u5 u8 u11 u12 u14 u15 u16 u17 u18 u19 u20 u21 u22 u23 u24 u25 u26 u27 u28 u29 u30 u31 u32 u33 u34 u35 u36 u37 u38 u39 u40 u41 u42 u43 u44 u45 u46 u47 u48 u49 u50 u51 u52 u53 u54 u55 u56 u57 u58 u59 u60 u61 u62 u63 u64 u65 u66 u67 u68 u69 u70 u71 u72 u73 u74 u75 u76 u77 u78 u79 u80 u81 u82 u83 u84 u85 u86 u87 u88 u89 u90 u91 u92 u93 u94 u95 u96 u97 u98 u99 u100 u101 u102 u103 u104 u105 u106 u107 u108 u109 u110 u111 u112 u113 u114 u115 u116 u117 u118 u119 u120 u121 u122 u123 u124 u125 u126 u127 u128 u129 u130 u131 u132 u133 u134 u135 u136 u137 u138 u139 u140 u141 u142 u143 u144 u145 u146 u147 u148 u149 u150 u151 u152 u153 u154 u155 u156 u157 u158 u159 u160 u161 u162 u163 u164 u165 u166 u167 u168 u169 u170 u171 u172 u173 u174 u175 u176 u177 u178 u179 u180 u181 u182 u183 u184 u185 u186 u187 u188 u189 u190 u191 u192 u193 u194 u195 u196 u197 u198 u199 u200 u201 u202 u203 u204 u205 u206 u207 u208 u209 u210 u211 u212 u213 u214 u215 u216 u217 u218 u219 u220 u221 u222 u223 u224 u225 u226 u227 u228 u229 u230 u231 u232 u233 u234 u235 u236 u237 u238 u239 : Value) (W : World)
    (k0 : W.cell? ⟨kb, 0, none⟩ = some (.int .u64 k.x0)) (k1 : W.cell? ⟨kb, 1, none⟩ = some (.int .u64 k.x1)) (k2 : W.cell? ⟨kb, 2, none⟩ = some (.int .u64 k.x2)) (k3 : W.cell? ⟨kb, 3, none⟩ = some (.int .u64 k.x3)) (q0 : W.cell? ⟨wb, 0, none⟩ = some (.int .i64 qk)) (q1 : W.cell? ⟨wb, 1, none⟩ = some (.int .i64 qi))
    (W0 : World) (AC0 : Ac 49 W0 [(X0, p0, c0), (X1, p1, c1), (X2, p2, c2), (X3, p3, c3), (X4, p4, c4), (X5, p5, c5), (X6, p6, c6)] W) (OA0 : W.ownsRow W0.heap.size 23 1 (.slice (some ⟨tb, 0, none⟩) 7 7) 7 [.slice p0 X0.length c0, .slice p1 X1.length c1, .slice p2 X2.length c2, .slice p3 X3.length c3, .slice p4 X4.length c4, .slice p5 X5.length c5, .slice p6 X6.length c6]) (BS : Hid (W0.heap.size ≤ W.heap.size))
    (KB : Hid (kb < W0.heap.size)) (WB : Hid (wb < W0.heap.size))
    (C0 : Hid (∀ y, Below W0.heap.size W y → Calls Tryd.prog 6 #[.agg #[.int .i64 qk, .int .i64 qi]] y fun e w' => Lz 49 y X0 e w'))
    (C1 : Hid (∀ y, Below W0.heap.size W y → Calls Tryd.prog 7 #[.agg #[.int .u64 k.x0, .int .u64 k.x1, .int .u64 k.x2, .int .u64 k.x3]] y fun e w' => Lz 49 y X1 e w'))
    (C2 : Hid (∀ y, Below W0.heap.size W y → Calls Tryd.prog 8 #[vx, vy] y fun e w' => Lz 49 y X2 e w'))
    (C3 : Hid (∀ y, Below W0.heap.size W y → Calls Tryd.prog 9 #[vx, vy] y fun e w' => Lz 49 y X3 e w'))
    (C4 : Hid (∀ y, Below W0.heap.size W y → Calls Tryd.prog 10 #[vx, .agg #[.int .u64 k.x0, .int .u64 k.x1, .int .u64 k.x2, .int .u64 k.x3]] y fun e w' => Lz 49 y X4 e w'))
    (C5 : Hid (∀ y, Below W0.heap.size W y → Calls Tryd.prog 11 #[vx] y fun e w' => Lz 49 y X5 e w'))
    (C6 : Hid (∀ y, Below W0.heap.size W y → Calls Tryd.prog 11 #[vy] y fun e w' => Lz 49 y X6 e w'))
    (HQ : Hid (∀ (wz : World) (t2 : Nat) (r0 r1 r2 r3 r4 r5 r6 : Option Addr) (d0 d1 d2 d3 d4 d5 d6 : Nat) (v9 : Value), Ac 49 W0 [(X0, p0, c0), (X1, p1, c1), (X2, p2, c2), (X3, p3, c3), (X4, p4, c4), (X5, p5, c5), (X6, p6, c6), (X0, r0, d0), (X1, r1, d1), (X2, r2, d2), (X3, r3, d3), (X4, r4, d4), (X5, r5, d5), (X6, r6, d6)] wz → wz.ownsRow W0.heap.size 23 1 v9 14 ([.slice p0 X0.length c0, .slice p1 X1.length c1, .slice p2 X2.length c2, .slice p3 X3.length c3, .slice p4 X4.length c4, .slice p5 X5.length c5, .slice p6 X6.length c6] ++ [.slice r0 X0.length d0, .slice r1 X1.length d1, .slice r2 X2.length d2, .slice r3 X3.length d3, .slice r4 X4.length d4, .slice r5 X5.length d5, .slice r6 X6.length d6]) → Q .normal ⟨#[u0, u1, u2, u3, u4, u5, .pointer (some ⟨kb, 0, none⟩), .pointer (some ⟨wb, 0, none⟩), u8, vx, vy, u11, u12, v9, u14, u15, u16, u17, u18, u19, u20, u21, u22, u23, u24, u25, u26, u27, u28, u29, u30, u31, u32, u33, u34, u35, u36, u37, u38, u39, u40, u41, u42, u43, u44, u45, u46, u47, u48, u49, .slice (some ⟨tb, 0, none⟩) 7 7, .agg #[.int .i64 qk, .int .i64 qi], .slice r0 X0.length d0, .agg #[.int .u64 k.x0, .int .u64 k.x1, .int .u64 k.x2, .int .u64 k.x3], .slice r1 X1.length d1, vx, vy, .slice r2 X2.length d2, vx, vy, .slice r3 X3.length d3, vx, .agg #[.int .u64 k.x0, .int .u64 k.x1, .int .u64 k.x2, .int .u64 k.x3], .slice r4 X4.length d4, vx, .slice r5 X5.length d5, vy, .slice r6 X6.length d6, .slice (some ⟨t2, 0, none⟩) 7 7, v9, u70, u71, u72, u73, u74, u75, u76, u77, u78, u79, u80, u81, u82, u83, u84, u85, u86, u87, u88, u89, u90, u91, u92, u93, u94, u95, u96, u97, u98, u99, u100, u101, u102, u103, u104, u105, u106, u107, u108, u109, u110, u111, u112, u113, u114, u115, u116, u117, u118, u119, u120, u121, u122, u123, u124, u125, u126, u127, u128, u129, u130, u131, u132, u133, u134, u135, u136, u137, u138, u139, u140, u141, u142, u143, u144, u145, u146, u147, u148, u149, u150, u151, u152, u153, u154, u155, u156, u157, u158, u159, u160, u161, u162, u163, u164, u165, u166, u167, u168, u169, u170, u171, u172, u173, u174, u175, u176, u177, u178, u179, u180, u181, u182, u183, u184, u185, u186, u187, u188, u189, u190, u191, u192, u193, u194, u195, u196, u197, u198, u199, u200, u201, u202, u203, u204, u205, u206, u207, u208, u209, u210, u211, u212, u213, u214, u215, u216, u217, u218, u219, u220, u221, u222, u223, u224, u225, u226, u227, u228, u229, u230, u231, u232, u233, u234, u235, u236, u237, u238, u239], []⟩ wz)) : (Code.region 4 su4o true).wp Tryd.prog Q ⟨#[u0, u1, u2, u3, u4, u5, .pointer (some ⟨kb, 0, none⟩), .pointer (some ⟨wb, 0, none⟩), u8, vx, vy, u11, u12, .slice (some ⟨tb, 0, none⟩) 7 7, u14, u15, u16, u17, u18, u19, u20, u21, u22, u23, u24, u25, u26, u27, u28, u29, u30, u31, u32, u33, u34, u35, u36, u37, u38, u39, u40, u41, u42, u43, u44, u45, u46, u47, u48, u49, u50, u51, u52, u53, u54, u55, u56, u57, u58, u59, u60, u61, u62, u63, u64, u65, u66, u67, u68, u69, u70, u71, u72, u73, u74, u75, u76, u77, u78, u79, u80, u81, u82, u83, u84, u85, u86, u87, u88, u89, u90, u91, u92, u93, u94, u95, u96, u97, u98, u99, u100, u101, u102, u103, u104, u105, u106, u107, u108, u109, u110, u111, u112, u113, u114, u115, u116, u117, u118, u119, u120, u121, u122, u123, u124, u125, u126, u127, u128, u129, u130, u131, u132, u133, u134, u135, u136, u137, u138, u139, u140, u141, u142, u143, u144, u145, u146, u147, u148, u149, u150, u151, u152, u153, u154, u155, u156, u157, u158, u159, u160, u161, u162, u163, u164, u165, u166, u167, u168, u169, u170, u171, u172, u173, u174, u175, u176, u177, u178, u179, u180, u181, u182, u183, u184, u185, u186, u187, u188, u189, u190, u191, u192, u193, u194, u195, u196, u197, u198, u199, u200, u201, u202, u203, u204, u205, u206, u207, u208, u209, u210, u211, u212, u213, u214, u215, u216, u217, u218, u219, u220, u221, u222, u223, u224, u225, u226, u227, u228, u229, u230, u231, u232, u233, u234, u235, u236, u237, u238, u239], []⟩ W := by
  have AC := hidden (AC0.keep (bl_drew W))
  have OA := hidden (own_keepT OA0 (bl_drew W))
  have HI : Hid ((Tryd.prog.info? 23) = some (Tryd.prog.info? 23).get!) := hidden (by kernel_rfl)
  have HZ0 : Hid ((Tryd.prog.info? 23).get!.zero = some (.slice none 0 0)) := hidden (by kernel_rfl)
  have HZ1 : Hid ((Tryd.prog.info? 23).get!.size = 1) := hidden (by kernel_rfl)
  have HZ2 : Hid ((Tryd.prog.info? 23).get!.bytes = 24) := hidden (by kernel_rfl)
  have T1 : Hid (Tryd.prog.underlying 36 = some (.slice 23)) := hidden (by kernel_rfl)
  clear AC0 OA0
  unfold su4o
  refine wp_region_noPanic ?_
  refine wp_region_held_drew (S := fun x => Below W0.heap.size W x) (by kernel_rfl) (Below.mono (bl_drew W) BS.out) (fun hH0 => ?_)
  refine wpAnyH_take (i := 0) (oi := { dst := some 50, op := Op.move (Operand.tmp 13), type := 36, pos := "law.go:84", after := #[], guard := none }) (v := .slice (some ⟨tb, 0, none⟩) 7 7) rfl (by kernel_rfl) (by kernel_rfl) (by kernel_rfl) (fun _ _ _ h => h) (Or.inl ⟨by rfl, fun w0 hSw => ?_⟩) hH0 ?_
  · (clear hSw; go_simp)
  simp only [Act.put, List.setIfInBounds_toArray, List.set_cons_zero, List.set_cons_succ]
  refine wpAnyH_take (i := 1) (oi := { dst := some 51, op := Op.load 28 (Operand.tmp 7), type := 28, pos := "law.go:84", after := #[], guard := none }) (v := .agg #[.int .i64 qk, .int .i64 qi]) rfl (by kernel_rfl) (by kernel_rfl) (by kernel_rfl) (fun _ _ _ h => h) (Or.inl ⟨by rfl, fun w0 hSw => ?_⟩) hH0 ?_
  · (have hS : Below W0.heap.size W w0 := hSw; have a0 := cellL q0 WB.out hS; have a1 := cellL q1 WB.out hS; clear hS hSw; go_simp)
  simp only [Act.put, List.setIfInBounds_toArray, List.set_cons_zero, List.set_cons_succ]
  refine wpAnyH_take (i := 3) (oi := { dst := some 53, op := Op.load 26 (Operand.tmp 6), type := 26, pos := "law.go:84", after := #[], guard := none }) (v := .agg #[.int .u64 k.x0, .int .u64 k.x1, .int .u64 k.x2, .int .u64 k.x3]) rfl (by kernel_rfl) (by kernel_rfl) (by kernel_rfl) (fun _ _ _ h => h) (Or.inl ⟨by rfl, fun w0 hSw => ?_⟩) hH0 ?_
  · (have hS : Below W0.heap.size W w0 := hSw; have a0 := cellL k0 KB.out hS; have a1 := cellL k1 KB.out hS; have a2 := cellL k2 KB.out hS; have a3 := cellL k3 KB.out hS; clear hS hSw; go_simp)
  simp only [Act.put, List.setIfInBounds_toArray, List.set_cons_zero, List.set_cons_succ]
  refine wpAnyH_take (i := 5) (oi := { dst := some 55, op := Op.move (Operand.tmp 9), type := 23, pos := "law.go:84", after := #[], guard := none }) (v := vx) rfl (by kernel_rfl) (by kernel_rfl) (by kernel_rfl) (fun _ _ _ h => h) (Or.inl ⟨by rfl, fun w0 hSw => ?_⟩) hH0 ?_
  · (clear hSw; go_simp)
  simp only [Act.put, List.setIfInBounds_toArray, List.set_cons_zero, List.set_cons_succ]
  refine wpAnyH_take (i := 6) (oi := { dst := some 56, op := Op.move (Operand.tmp 10), type := 23, pos := "law.go:84", after := #[], guard := none }) (v := vy) rfl (by kernel_rfl) (by kernel_rfl) (by kernel_rfl) (fun _ _ _ h => h) (Or.inl ⟨by rfl, fun w0 hSw => ?_⟩) hH0 ?_
  · (clear hSw; go_simp)
  simp only [Act.put, List.setIfInBounds_toArray, List.set_cons_zero, List.set_cons_succ]
  refine wpAnyH_take (i := 8) (oi := { dst := some 58, op := Op.move (Operand.tmp 9), type := 23, pos := "law.go:84", after := #[], guard := none }) (v := vx) rfl (by kernel_rfl) (by kernel_rfl) (by kernel_rfl) (fun _ _ _ h => h) (Or.inl ⟨by rfl, fun w0 hSw => ?_⟩) hH0 ?_
  · (clear hSw; go_simp)
  simp only [Act.put, List.setIfInBounds_toArray, List.set_cons_zero, List.set_cons_succ]
  refine wpAnyH_take (i := 9) (oi := { dst := some 59, op := Op.move (Operand.tmp 10), type := 23, pos := "law.go:84", after := #[], guard := none }) (v := vy) rfl (by kernel_rfl) (by kernel_rfl) (by kernel_rfl) (fun _ _ _ h => h) (Or.inl ⟨by rfl, fun w0 hSw => ?_⟩) hH0 ?_
  · (clear hSw; go_simp)
  simp only [Act.put, List.setIfInBounds_toArray, List.set_cons_zero, List.set_cons_succ]
  refine wpAnyH_take (i := 11) (oi := { dst := some 61, op := Op.move (Operand.tmp 9), type := 23, pos := "law.go:84", after := #[], guard := none }) (v := vx) rfl (by kernel_rfl) (by kernel_rfl) (by kernel_rfl) (fun _ _ _ h => h) (Or.inl ⟨by rfl, fun w0 hSw => ?_⟩) hH0 ?_
  · (clear hSw; go_simp)
  simp only [Act.put, List.setIfInBounds_toArray, List.set_cons_zero, List.set_cons_succ]
  refine wpAnyH_take (i := 12) (oi := { dst := some 62, op := Op.load 26 (Operand.tmp 6), type := 26, pos := "law.go:84", after := #[], guard := none }) (v := .agg #[.int .u64 k.x0, .int .u64 k.x1, .int .u64 k.x2, .int .u64 k.x3]) rfl (by kernel_rfl) (by kernel_rfl) (by kernel_rfl) (fun _ _ _ h => h) (Or.inl ⟨by rfl, fun w0 hSw => ?_⟩) hH0 ?_
  · (have hS : Below W0.heap.size W w0 := hSw; have a0 := cellL k0 KB.out hS; have a1 := cellL k1 KB.out hS; have a2 := cellL k2 KB.out hS; have a3 := cellL k3 KB.out hS; clear hS hSw; go_simp)
  simp only [Act.put, List.setIfInBounds_toArray, List.set_cons_zero, List.set_cons_succ]
  refine wpAnyH_take (i := 14) (oi := { dst := some 64, op := Op.move (Operand.tmp 9), type := 23, pos := "law.go:84", after := #[], guard := none }) (v := vx) rfl (by kernel_rfl) (by kernel_rfl) (by kernel_rfl) (fun _ _ _ h => h) (Or.inl ⟨by rfl, fun w0 hSw => ?_⟩) hH0 ?_
  · (clear hSw; go_simp)
  simp only [Act.put, List.setIfInBounds_toArray, List.set_cons_zero, List.set_cons_succ]
  refine wpAnyH_take (i := 16) (oi := { dst := some 66, op := Op.move (Operand.tmp 10), type := 23, pos := "law.go:84", after := #[], guard := none }) (v := vy) rfl (by kernel_rfl) (by kernel_rfl) (by kernel_rfl) (fun _ _ _ h => h) (Or.inl ⟨by rfl, fun w0 hSw => ?_⟩) hH0 ?_
  · (clear hSw; go_simp)
  simp only [Act.put, List.setIfInBounds_toArray, List.set_cons_zero, List.set_cons_succ]
  refine wpAnyH_ready (rs := [2]) (by kernel_rfl) (by simp) ?_
  refine AllReadyH.cons (o := { dst := some 52, op := Op.call { callee := Callee.value (Operand.func 6), args := #[Operand.tmp 51], argTypes := #[28] }, type := 23, pos := "law.go:84", after := #[{ on := 1, ground := Ground.data }], guard := none }) rfl (fun K hK => ?_) AllReadyH.nil
  have HH := hidden hH0
  clear hH0
  go_simp
  refine (C0.out _ HH.out).mono ?_
  rintro e wn1 ⟨r0, d0, rfl, ho, hb⟩
  have SN := hidden (blL HH.out BS.out hb)
  replace AC := hidden (AC.out.next ho hb)
  replace OA := hidden (own_keepT OA.out hb)
  clear HH C0 ho hb
  go_wp2_with fail
  refine hK.out _ _ SN.out (fun hH1 => ?_)
  clear hK K SN
  refine wpAnyH_ready (rs := [4]) (by kernel_rfl) (by simp) ?_
  refine AllReadyH.cons (o := { dst := some 54, op := Op.call { callee := Callee.value (Operand.func 7), args := #[Operand.tmp 53], argTypes := #[26] }, type := 23, pos := "law.go:84", after := #[{ on := 3, ground := Ground.data }, { on := 2, ground := Ground.chain }], guard := none }) rfl (fun K hK => ?_) AllReadyH.nil
  have HH := hidden hH1
  clear hH1
  go_simp
  refine (C1.out _ HH.out).mono ?_
  rintro e wn2 ⟨r1, d1, rfl, ho, hb⟩
  have SN := hidden (blL HH.out BS.out hb)
  replace AC := hidden (AC.out.next ho hb)
  replace OA := hidden (own_keepT OA.out hb)
  clear HH C1 ho hb
  go_wp2_with fail
  refine hK.out _ _ SN.out (fun hH2 => ?_)
  clear hK K SN
  refine wpAnyH_ready (rs := [7]) (by kernel_rfl) (by simp) ?_
  refine AllReadyH.cons (o := { dst := some 57, op := Op.call { callee := Callee.value (Operand.func 8), args := #[Operand.tmp 55, Operand.tmp 56], argTypes := #[23, 23] }, type := 23, pos := "law.go:84", after := #[{ on := 5, ground := Ground.data }, { on := 6, ground := Ground.data }, { on := 4, ground := Ground.chain }], guard := none }) rfl (fun K hK => ?_) AllReadyH.nil
  have HH := hidden hH2
  clear hH2
  go_simp
  refine (C2.out _ HH.out).mono ?_
  rintro e wn3 ⟨r2, d2, rfl, ho, hb⟩
  have SN := hidden (blL HH.out BS.out hb)
  replace AC := hidden (AC.out.next ho hb)
  replace OA := hidden (own_keepT OA.out hb)
  clear HH C2 ho hb
  go_wp2_with fail
  refine hK.out _ _ SN.out (fun hH3 => ?_)
  clear hK K SN
  refine wpAnyH_ready (rs := [10]) (by kernel_rfl) (by simp) ?_
  refine AllReadyH.cons (o := { dst := some 60, op := Op.call { callee := Callee.value (Operand.func 9), args := #[Operand.tmp 58, Operand.tmp 59], argTypes := #[23, 23] }, type := 23, pos := "law.go:84", after := #[{ on := 8, ground := Ground.data }, { on := 9, ground := Ground.data }, { on := 7, ground := Ground.chain }], guard := none }) rfl (fun K hK => ?_) AllReadyH.nil
  have HH := hidden hH3
  clear hH3
  go_simp
  refine (C3.out _ HH.out).mono ?_
  rintro e wn4 ⟨r3, d3, rfl, ho, hb⟩
  have SN := hidden (blL HH.out BS.out hb)
  replace AC := hidden (AC.out.next ho hb)
  replace OA := hidden (own_keepT OA.out hb)
  clear HH C3 ho hb
  go_wp2_with fail
  refine hK.out _ _ SN.out (fun hH4 => ?_)
  clear hK K SN
  refine wpAnyH_ready (rs := [13]) (by kernel_rfl) (by simp) ?_
  refine AllReadyH.cons (o := { dst := some 63, op := Op.call { callee := Callee.value (Operand.func 10), args := #[Operand.tmp 61, Operand.tmp 62], argTypes := #[23, 26] }, type := 23, pos := "law.go:84", after := #[{ on := 11, ground := Ground.data }, { on := 12, ground := Ground.data }, { on := 10, ground := Ground.chain }], guard := none }) rfl (fun K hK => ?_) AllReadyH.nil
  have HH := hidden hH4
  clear hH4
  go_simp
  refine (C4.out _ HH.out).mono ?_
  rintro e wn5 ⟨r4, d4, rfl, ho, hb⟩
  have SN := hidden (blL HH.out BS.out hb)
  replace AC := hidden (AC.out.next ho hb)
  replace OA := hidden (own_keepT OA.out hb)
  clear HH C4 ho hb
  go_wp2_with fail
  refine hK.out _ _ SN.out (fun hH5 => ?_)
  clear hK K SN
  refine wpAnyH_ready (rs := [15]) (by kernel_rfl) (by simp) ?_
  refine AllReadyH.cons (o := { dst := some 65, op := Op.call { callee := Callee.value (Operand.func 11), args := #[Operand.tmp 64], argTypes := #[23] }, type := 23, pos := "law.go:84", after := #[{ on := 14, ground := Ground.data }, { on := 13, ground := Ground.chain }], guard := none }) rfl (fun K hK => ?_) AllReadyH.nil
  have HH := hidden hH5
  clear hH5
  go_simp
  refine (C5.out _ HH.out).mono ?_
  rintro e wn6 ⟨r5, d5, rfl, ho, hb⟩
  have SN := hidden (blL HH.out BS.out hb)
  replace AC := hidden (AC.out.next ho hb)
  replace OA := hidden (own_keepT OA.out hb)
  clear HH C5 ho hb
  go_wp2_with fail
  refine hK.out _ _ SN.out (fun hH6 => ?_)
  clear hK K SN
  refine wpAnyH_ready (rs := [17]) (by kernel_rfl) (by simp) ?_
  refine AllReadyH.cons (o := { dst := some 67, op := Op.call { callee := Callee.value (Operand.func 11), args := #[Operand.tmp 66], argTypes := #[23] }, type := 23, pos := "law.go:84", after := #[{ on := 16, ground := Ground.data }, { on := 15, ground := Ground.chain }], guard := none }) rfl (fun K hK => ?_) AllReadyH.nil
  have HH := hidden hH6
  clear hH6
  go_simp
  refine (C6.out _ HH.out).mono ?_
  rintro e wn7 ⟨r6, d6, rfl, ho, hb⟩
  have SN := hidden (blL HH.out BS.out hb)
  replace AC := hidden (AC.out.next ho hb)
  replace OA := hidden (own_keepT OA.out hb)
  clear HH C6 ho hb
  go_wp2_with fail
  refine hK.out _ _ SN.out (fun hH7 => ?_)
  clear hK K SN
  refine wpAnyH_ready (rs := [18]) (by kernel_rfl) (by simp) ?_
  refine AllReadyH.cons (o := { dst := some 68, op := Op.buildSlice 36 7 #[(0, Operand.tmp 52), (1, Operand.tmp 54), (2, Operand.tmp 57), (3, Operand.tmp 60), (4, Operand.tmp 63), (5, Operand.tmp 65), (6, Operand.tmp 67)], type := 36, pos := "law.go:84", after := #[{ on := 2, ground := Ground.data }, { on := 4, ground := Ground.data }, { on := 7, ground := Ground.data }, { on := 10, ground := Ground.data }, { on := 13, ground := Ground.data }, { on := 15, ground := Ground.data }, { on := 17, ground := Ground.data }], guard := none }) rfl (fun K hK => ?_) AllReadyH.nil
  have HH := hidden hH7
  clear hH7
  refine build7P _ _ _ _ _ _ _ rfl r0 r1 r2 r3 r4 r5 r6 _ _ _ _ _ _ _ d0 d1 d2 d3 d4 d5 d6 rfl rfl rfl rfl rfl rfl rfl (fun t2 wn8 htb hwq => ?_)
  have SN := hidden (by rw [hwq]; exact blL HH.out BS.out (bl_alloc _ _) : Below W0.heap.size W wn8)
  replace AC := hidden (by rw [hwq]; exact AC.out.keep (bl_alloc _ _) : Ac 49 W0 [(X0, p0, c0), (X1, p1, c1), (X2, p2, c2), (X3, p3, c3), (X4, p4, c4), (X5, p5, c5), (X6, p6, c6), (X0, r0, d0), (X1, r1, d1), (X2, r2, d2), (X3, r3, d3), (X4, r4, d4), (X5, r5, d5), (X6, r6, d6)] wn8)
  replace OA := hidden (by rw [hwq]; exact own_keepT OA.out (bl_alloc _ _) : wn8.ownsRow W0.heap.size 23 1 (.slice (some ⟨tb, 0, none⟩) 7 7) 7 [.slice p0 X0.length c0, .slice p1 X1.length c1, .slice p2 X2.length c2, .slice p3 X3.length c3, .slice p4 X4.length c4, .slice p5 X5.length c5, .slice p6 X6.length c6])
  have CN := hidden (by rw [htb, hwq]; exact cells_newT _ [.slice r0 X0.length d0, .slice r1 X1.length d1, .slice r2 X2.length d2, .slice r3 X3.length d3, .slice r4 X4.length d4, .slice r5 X5.length d5, .slice r6 X6.length d6] _ : ∀ j u, ([.slice r0 X0.length d0, .slice r1 X1.length d1, .slice r2 X2.length d2, .slice r3 X3.length d3, .slice r4 X4.length d4, .slice r5 X5.length d5, .slice r6 X6.length d6] : List Value)[j]? = some u → wn8.cell? ((⟨t2, 0, none⟩ : Addr).add j) = some u)
  clear HH htb hwq
  simp only [Act.put, List.setIfInBounds_toArray, List.set_cons_zero, List.set_cons_succ]
  refine hK.out _ _ SN.out (fun hH8 => ?_)
  clear hK K SN
  refine wpAnyH_ready (rs := [19]) (by kernel_rfl) (by simp) ?_
  refine AllReadyH.cons (o := { dst := some 69, op := Op.call { callee := Callee.builtin Builtin.append, args := #[Operand.tmp 50, Operand.tmp 68], argTypes := #[36, 36] }, type := 36, pos := "law.go:84", after := #[{ on := 0, ground := Ground.data }, { on := 18, ground := Ground.data }, { on := 17, ground := Ground.chain }], guard := none }) rfl (fun K hK => ?_) AllReadyH.nil
  have HH := hidden hH8
  clear hH8
  refine wp_append_own _ _ _ 36 rfl W0.heap.size 23 _ _ 1 24 T1.out HI.out HZ0.out HZ1.out HZ2.out rfl (by decide) _ 7 [.slice p0 X0.length c0, .slice p1 X1.length c1, .slice p2 X2.length c2, .slice p3 X3.length c3, .slice p4 X4.length c4, .slice p5 X5.length c5, .slice p6 X6.length c6] rfl OA.out ⟨t2, 0, none⟩ 7 7 [.slice r0 X0.length d0, .slice r1 X1.length d1, .slice r2 X2.length d2, .slice r3 X3.length d3, .slice r4 X4.length d4, .slice r5 X5.length d5, .slice r6 X6.length d6] rfl rfl CN.out (by simp [Value.oneCell']) (by unfold maxLen; omega) (by omega) (Nat.le_trans BS.out HH.out.size) (fun v9 wn9 ho hg _ => ?_)
  have SN := hidden (gbX HH.out BS.out OA.out hg)
  replace AC := hidden (Ac.grow AC.out OA.out (by decide) hg (Nat.le_refl _))
  have FE := hidden (ho)
  clear HH ho hg
  simp only [Act.put, List.setIfInBounds_toArray, List.set_cons_zero, List.set_cons_succ]
  refine hK.out _ _ SN.out (fun hH9 => ?_)
  clear hK K SN
  refine wpAnyH_take (i := 20) (oi := { dst := some 13, op := Op.assign (Operand.tmp 69), type := 36, pos := "law.go:84", after := #[{ on := 19, ground := Ground.data }, { on := 19, ground := Ground.chain }, { on := 0, ground := Ground.phase }, { on := 1, ground := Ground.phase }, { on := 2, ground := Ground.phase }, { on := 3, ground := Ground.phase }, { on := 4, ground := Ground.phase }, { on := 5, ground := Ground.phase }, { on := 6, ground := Ground.phase }, { on := 7, ground := Ground.phase }, { on := 8, ground := Ground.phase }, { on := 9, ground := Ground.phase }, { on := 10, ground := Ground.phase }, { on := 11, ground := Ground.phase }, { on := 12, ground := Ground.phase }, { on := 13, ground := Ground.phase }, { on := 14, ground := Ground.phase }, { on := 15, ground := Ground.phase }, { on := 16, ground := Ground.phase }, { on := 17, ground := Ground.phase }, { on := 18, ground := Ground.phase }, { on := 19, ground := Ground.phase }], guard := none }) (v := v9) rfl (by kernel_rfl) (by kernel_rfl) (by kernel_rfl) (fun _ _ _ h => h) (Or.inl ⟨by rfl, fun w0 hSw => ?_⟩) hH9 ?_
  · (clear hSw; go_simp)
  simp only [Act.put, List.setIfInBounds_toArray, List.set_cons_zero, List.set_cons_succ]
  have HH := hidden hH9
  have FQ := hidden (HQ.out _ t2 r0 r1 r2 r3 r4 r5 r6 d0 d1 d2 d3 d4 d5 d6 v9 AC.out FE.out)
  refine wpAnyH_done (by kernel_rfl) ?_ _
  refine NoPanic.normal ?_
  exact FQ.out
end Ci
end Go.Proofs.YtbmbopapmajaaaaDoor
