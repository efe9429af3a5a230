import Derived.Test.YtbmbopapmajaaaaDoorCsm
namespace Go.Proofs.YtbmbopapmajaaaaDoor
open Go.RowKit
set_option linter.unusedVariables false
set_option linter.unusedSimpArgs false
open Cm (Wr Tm co bf Ls lf ins Eqm)
namespace Ci
open Xo
set_option maxRecDepth 100000
set_option maxHeartbeats 4000000

/-- a row of another kind grows -/
theorem Ac.grow {T U : TypeId} {w0 w w' : World} {Zs : List Z3} {v : Value} {n s base : Nat} {xs : List Value} (h : Ac T w0 Zs w) (ho : w.ownsRow base U s v n xs) (hT : T ≠ U) (hg : w.grownBy w' v.ownBlock) (hb : w0.heap.size ≤ base) : Ac T w0 Zs w' :=
  ⟨below_tr h.bel (below_gr hg h.bel.size (fun k hk => Nat.le_trans hb (ho.lt k hk).1)), fun i z hz => (own_dj ho (h.rows i z hz) (fun e => hT e.symm)).kept (h.rows i z hz) hg, h.dj⟩
theorem gbX {w w1 w2 : World} {b s n : Nat} {t : TypeId} {v : Value} {xs : List Value} (h : Below b w w1) (hb : b ≤ w.heap.size) (ho : w1.ownsRow b t s v n xs) (hg : w1.grownBy w2 v.ownBlock) : Below b w w2 := below_tr h (below_gr hg (Nat.le_trans hb h.size) (fun k hk => (ho.lt k hk).1))
theorem blL {b : Nat} {w w1 w2 : World} (h : Below b w w1) (hb : b ≤ w.heap.size) (h2 : Below w1.heap.size w1 w2) : Below b w w2 := below_tr h (h2.mono (Nat.le_trans hb h.size))
theorem cellL {b : Nat} {w w' : World} {k o : Nat} {v : Value} (h : w.cell? ⟨k, o, none⟩ = some v) (hk : k < b) (hb : Below b w w') : w'.cell? ⟨k, o, none⟩ = some v := by
  rw [hb.cell (p := ⟨k, o, none⟩) hk]; exact h
def su3o : Array Oper := #[{ dst := some 32, op := Op.load 28 (Operand.tmp 7), type := 28, pos := "law.go:83", after := #[], guard := none },
  { dst := some 33, op := Op.call { callee := Callee.value (Operand.func 6), args := #[Operand.tmp 32], argTypes := #[28] }, type := 23, pos := "law.go:83", after := #[{ on := 0, ground := Ground.data }], guard := none },
  { dst := some 34, op := Op.load 26 (Operand.tmp 6), type := 26, pos := "law.go:83", after := #[], guard := none },
  { dst := some 35, op := Op.call { callee := Callee.value (Operand.func 7), args := #[Operand.tmp 34], argTypes := #[26] }, type := 23, pos := "law.go:83", after := #[{ on := 2, ground := Ground.data }, { on := 1, ground := Ground.chain }], guard := none },
  { dst := some 36, op := Op.move (Operand.tmp 9), type := 23, pos := "law.go:83", after := #[], guard := none },
  { dst := some 37, op := Op.move (Operand.tmp 10), type := 23, pos := "law.go:83", after := #[], guard := none },
  { dst := some 38, op := Op.call { callee := Callee.value (Operand.func 8), args := #[Operand.tmp 36, Operand.tmp 37], argTypes := #[23, 23] }, type := 23, pos := "law.go:83", after := #[{ on := 4, ground := Ground.data }, { on := 5, ground := Ground.data }, { on := 3, ground := Ground.chain }], guard := none },
  { dst := some 39, op := Op.move (Operand.tmp 9), type := 23, pos := "law.go:83", after := #[], guard := none },
  { dst := some 40, op := Op.move (Operand.tmp 10), type := 23, pos := "law.go:83", after := #[], guard := none },
  { dst := some 41, op := Op.call { callee := Callee.value (Operand.func 9), args := #[Operand.tmp 39, Operand.tmp 40], argTypes := #[23, 23] }, type := 23, pos := "law.go:83", after := #[{ on := 7, ground := Ground.data }, { on := 8, ground := Ground.data }, { on := 6, ground := Ground.chain }], guard := none },
  { dst := some 42, op := Op.move (Operand.tmp 9), type := 23, pos := "law.go:83", after := #[], guard := none },
  { dst := some 43, op := Op.load 26 (Operand.tmp 6), type := 26, pos := "law.go:83", after := #[], guard := none },
  { dst := some 44, op := Op.call { callee := Callee.value (Operand.func 10), args := #[Operand.tmp 42, Operand.tmp 43], argTypes := #[23, 26] }, type := 23, pos := "law.go:83", after := #[{ on := 10, ground := Ground.data }, { on := 11, ground := Ground.data }, { on := 9, ground := Ground.chain }], guard := none },
  { dst := some 45, op := Op.move (Operand.tmp 9), type := 23, pos := "law.go:83", after := #[], guard := none },
  { dst := some 46, op := Op.call { callee := Callee.value (Operand.func 11), args := #[Operand.tmp 45], argTypes := #[23] }, type := 23, pos := "law.go:83", after := #[{ on := 13, ground := Ground.data }, { on := 12, ground := Ground.chain }], guard := none },
  { dst := some 47, op := Op.move (Operand.tmp 10), type := 23, pos := "law.go:83", after := #[], guard := none },
  { dst := some 48, op := Op.call { callee := Callee.value (Operand.func 11), args := #[Operand.tmp 47], argTypes := #[23] }, type := 23, pos := "law.go:83", after := #[{ on := 15, ground := Ground.data }, { on := 14, ground := Ground.chain }], guard := none },
  { dst := some 49, op := Op.buildSlice 36 7 #[(0, Operand.tmp 33), (1, Operand.tmp 35), (2, Operand.tmp 38), (3, Operand.tmp 41), (4, Operand.tmp 44), (5, Operand.tmp 46), (6, Operand.tmp 48)], type := 36, pos := "law.go:83", after := #[{ on := 1, ground := Ground.data }, { on := 3, ground := Ground.data }, { on := 6, ground := Ground.data }, { on := 9, ground := Ground.data }, { on := 12, ground := Ground.data }, { on := 14, ground := Ground.data }, { on := 16, ground := Ground.data }], guard := none },
  { dst := some 13, op := Op.assign (Operand.tmp 49), type := 36, pos := "law.go:83", after := #[{ on := 17, ground := Ground.data }, { on := 16, ground := Ground.chain }, { on := 0, ground := Ground.phase }, { on := 1, ground := Ground.phase }, { on := 2, ground := Ground.phase }, { on := 3, ground := Ground.phase }, { on := 4, ground := Ground.phase }, { on := 5, ground := Ground.phase }, { on := 6, ground := Ground.phase }, { on := 7, ground := Ground.phase }, { on := 8, ground := Ground.phase }, { on := 9, ground := Ground.phase }, { on := 10, ground := Ground.phase }, { on := 11, ground := Ground.phase }, { on := 12, ground := Ground.phase }, { on := 13, ground := Ground.phase }, { on := 14, ground := Ground.phase }, { on := 15, ground := Ground.phase }, { on := 16, ground := Ground.phase }, { on := 17, ground := Ground.phase }], guard := none }]
set_option maxRecDepth 100000 in
set_option maxHeartbeats 16000000 in
theorem su3 (Q : Exit → Act → World → Prop) (kb wb : Nat) (k : E4) (qk qi : Int) (vx vy : Value) (X0 X1 X2 X3 X4 X5 X6 : List Tm) (u0 u1 u2 u3 u4 u5 u8 u11 u12 u13 u14 u15 u16 u17 u18 u19 u20 u21 u22 u23 u24 u25 u26 u27 u28 u29 u30 u31 u32 u33 u34 u35 u36 u37 u38 u39 u40 u41 u42 u43 u44 u45 u46 u47 u48 u49 u50 u51 u52 u53 u54 u55 u56 u57 u58 u59 u60 u61 u62 u63 u64 u65 u66 u67 u68 u69 u70 u71 u72 u73 u74 u75 u76 u77 u78 u79 u80 u81 u82 u83 u84 u85 u86 u87 u88 u89 u90 u91 u92 u93 u94 u95 u96 u97 u98 u99 u100 u101 u102 u103 u104 u105 u106 u107 u108 u109 u110 u111 u112 u113 u114 u115 u116 u117 u118 u119 u120 u121 u122 u123 u124 u125 u126 u127 u128 u129 u130 u131 u132 u133 u134 u135 u136 u137 u138 u139 u140 u141 u142 u143 u144 u145 u146 u147 u148 u149 u150 u151 u152 u153 u154 u155 u156 u157 u158 u159 u160 u161 u162 u163 u164 u165 u166 u167 u168 u169 u170 u171 u172 u173 u174 u175 u176 u177 u178 u179 u180 u181 u182 u183 u184 u185 u186 u187 u188 u189 u190 u191 u192 u193 u194 u195 u196 u197 u198 u199 u200 u201 u202 u203 u204 u205 u206 u207 u208 u209 u210 u211 u212 u213 u214 u215 u216 u217 u218 u219 u220 u221 u222 u223 u224 u225 u226 u227 u228 u229 u230 u231 u232 u233 u234 u235 u236 u237 u238 u239 : Value) (W : World)
    (k0 : W.cell? ⟨kb, 0, none⟩ = some (.int .u64 k.x0)) (k1 : W.cell? ⟨kb, 1, none⟩ = some (.int .u64 k.x1)) (k2 : W.cell? ⟨kb, 2, none⟩ = some (.int .u64 k.x2)) (k3 : W.cell? ⟨kb, 3, none⟩ = some (.int .u64 k.x3)) (q0 : W.cell? ⟨wb, 0, none⟩ = some (.int .i64 qk)) (q1 : W.cell? ⟨wb, 1, none⟩ = some (.int .i64 qi))
    (C0 : Hid (∀ y, Below W.heap.size W y → Calls Tryd.prog 6 #[.agg #[.int .i64 qk, .int .i64 qi]] y fun e w' => Lz 49 y X0 e w'))
    (C1 : Hid (∀ y, Below W.heap.size W y → Calls Tryd.prog 7 #[.agg #[.int .u64 k.x0, .int .u64 k.x1, .int .u64 k.x2, .int .u64 k.x3]] y fun e w' => Lz 49 y X1 e w'))
    (C2 : Hid (∀ y, Below W.heap.size W y → Calls Tryd.prog 8 #[vx, vy] y fun e w' => Lz 49 y X2 e w'))
    (C3 : Hid (∀ y, Below W.heap.size W y → Calls Tryd.prog 9 #[vx, vy] y fun e w' => Lz 49 y X3 e w'))
    (C4 : Hid (∀ y, Below W.heap.size W y → Calls Tryd.prog 10 #[vx, .agg #[.int .u64 k.x0, .int .u64 k.x1, .int .u64 k.x2, .int .u64 k.x3]] y fun e w' => Lz 49 y X4 e w'))
    (C5 : Hid (∀ y, Below W.heap.size W y → Calls Tryd.prog 11 #[vx] y fun e w' => Lz 49 y X5 e w'))
    (C6 : Hid (∀ y, Below W.heap.size W y → Calls Tryd.prog 11 #[vy] y fun e w' => Lz 49 y X6 e w'))
    (HQ : Hid (∀ (wz : World) (tb : Nat) (p0 p1 p2 p3 p4 p5 p6 : Option Addr) (c0 c1 c2 c3 c4 c5 c6 : Nat), Ac 49 W [(X0, p0, c0), (X1, p1, c1), (X2, p2, c2), (X3, p3, c3), (X4, p4, c4), (X5, p5, c5), (X6, p6, c6)] wz → wz.ownsRow W.heap.size 23 1 (.slice (some ⟨tb, 0, none⟩) 7 7) 7 [.slice p0 X0.length c0, .slice p1 X1.length c1, .slice p2 X2.length c2, .slice p3 X3.length c3, .slice p4 X4.length c4, .slice p5 X5.length c5, .slice p6 X6.length c6] → Q .normal ⟨#[u0, u1, u2, u3, u4, u5, .pointer (some ⟨kb, 0, none⟩), .pointer (some ⟨wb, 0, none⟩), u8, vx, vy, u11, u12, .slice (some ⟨tb, 0, none⟩) 7 7, u14, u15, u16, u17, u18, u19, u20, u21, u22, u23, u24, u25, u26, u27, u28, u29, u30, u31, .agg #[.int .i64 qk, .int .i64 qi], .slice p0 X0.length c0, .agg #[.int .u64 k.x0, .int .u64 k.x1, .int .u64 k.x2, .int .u64 k.x3], .slice p1 X1.length c1, vx, vy, .slice p2 X2.length c2, vx, vy, .slice p3 X3.length c3, vx, .agg #[.int .u64 k.x0, .int .u64 k.x1, .int .u64 k.x2, .int .u64 k.x3], .slice p4 X4.length c4, vx, .slice p5 X5.length c5, vy, .slice p6 X6.length c6, .slice (some ⟨tb, 0, none⟩) 7 7, u50, u51, u52, u53, u54, u55, u56, u57, u58, u59, u60, u61, u62, u63, u64, u65, u66, u67, u68, u69, u70, u71, u72, u73, u74, u75, u76, u77, u78, u79, u80, u81, u82, u83, u84, u85, u86, u87, u88, u89, u90, u91, u92, u93, u94, u95, u96, u97, u98, u99, u100, u101, u102, u103, u104, u105, u106, u107, u108, u109, u110, u111, u112, u113, u114, u115, u116, u117, u118, u119, u120, u121, u122, u123, u124, u125, u126, u127, u128, u129, u130, u131, u132, u133, u134, u135, u136, u137, u138, u139, u140, u141, u142, u143, u144, u145, u146, u147, u148, u149, u150, u151, u152, u153, u154, u155, u156, u157, u158, u159, u160, u161, u162, u163, u164, u165, u166, u167, u168, u169, u170, u171, u172, u173, u174, u175, u176, u177, u178, u179, u180, u181, u182, u183, u184, u185, u186, u187, u188, u189, u190, u191, u192, u193, u194, u195, u196, u197, u198, u199, u200, u201, u202, u203, u204, u205, u206, u207, u208, u209, u210, u211, u212, u213, u214, u215, u216, u217, u218, u219, u220, u221, u222, u223, u224, u225, u226, u227, u228, u229, u230, u231, u232, u233, u234, u235, u236, u237, u238, u239], []⟩ wz)) : (Code.region 3 su3o true).wp Tryd.prog Q ⟨#[u0, u1, u2, u3, u4, u5, .pointer (some ⟨kb, 0, none⟩), .pointer (some ⟨wb, 0, none⟩), u8, vx, vy, u11, u12, u13, u14, u15, u16, u17, u18, u19, u20, u21, u22, u23, u24, u25, u26, u27, u28, u29, u30, u31, u32, u33, u34, u35, u36, u37, u38, u39, u40, u41, u42, u43, u44, u45, u46, u47, u48, u49, u50, u51, u52, u53, u54, u55, u56, u57, u58, u59, u60, u61, u62, u63, u64, u65, u66, u67, u68, u69, u70, u71, u72, u73, u74, u75, u76, u77, u78, u79, u80, u81, u82, u83, u84, u85, u86, u87, u88, u89, u90, u91, u92, u93, u94, u95, u96, u97, u98, u99, u100, u101, u102, u103, u104, u105, u106, u107, u108, u109, u110, u111, u112, u113, u114, u115, u116, u117, u118, u119, u120, u121, u122, u123, u124, u125, u126, u127, u128, u129, u130, u131, u132, u133, u134, u135, u136, u137, u138, u139, u140, u141, u142, u143, u144, u145, u146, u147, u148, u149, u150, u151, u152, u153, u154, u155, u156, u157, u158, u159, u160, u161, u162, u163, u164, u165, u166, u167, u168, u169, u170, u171, u172, u173, u174, u175, u176, u177, u178, u179, u180, u181, u182, u183, u184, u185, u186, u187, u188, u189, u190, u191, u192, u193, u194, u195, u196, u197, u198, u199, u200, u201, u202, u203, u204, u205, u206, u207, u208, u209, u210, u211, u212, u213, u214, u215, u216, u217, u218, u219, u220, u221, u222, u223, u224, u225, u226, u227, u228, u229, u230, u231, u232, u233, u234, u235, u236, u237, u238, u239], []⟩ W := by
  have AC : Hid (Ac 49 W [] W.drew) := hidden (Ac.none _ (bl_drew W))
  unfold su3o
  refine wp_region_noPanic ?_
  refine wp_region_held_drew (S := fun x => Below W.heap.size W x) (by kernel_rfl) (bl_drew W) (fun hH0 => ?_)
  refine wpAnyH_take (i := 0) (oi := { dst := some 32, op := Op.load 28 (Operand.tmp 7), type := 28, pos := "law.go:83", after := #[], guard := none }) (v := .agg #[.int .i64 qk, .int .i64 qi]) rfl (by kernel_rfl) (by kernel_rfl) (by kernel_rfl) (fun _ _ _ h => h) (Or.inl ⟨by rfl, fun w0 hSw => ?_⟩) hH0 ?_
  · (have hS : Below W.heap.size W w0 := hSw; have a0 := cell_keep q0 hS; have a1 := cell_keep q1 hS; clear hS hSw; go_simp)
  simp only [Act.put, List.setIfInBounds_toArray, List.set_cons_zero, List.set_cons_succ]
  refine wpAnyH_take (i := 2) (oi := { dst := some 34, op := Op.load 26 (Operand.tmp 6), type := 26, pos := "law.go:83", after := #[], guard := none }) (v := .agg #[.int .u64 k.x0, .int .u64 k.x1, .int .u64 k.x2, .int .u64 k.x3]) rfl (by kernel_rfl) (by kernel_rfl) (by kernel_rfl) (fun _ _ _ h => h) (Or.inl ⟨by rfl, fun w0 hSw => ?_⟩) hH0 ?_
  · (have hS : Below W.heap.size W w0 := hSw; have a0 := cell_keep k0 hS; have a1 := cell_keep k1 hS; have a2 := cell_keep k2 hS; have a3 := cell_keep k3 hS; clear hS hSw; go_simp)
  simp only [Act.put, List.setIfInBounds_toArray, List.set_cons_zero, List.set_cons_succ]
  refine wpAnyH_take (i := 4) (oi := { dst := some 36, op := Op.move (Operand.tmp 9), type := 23, pos := "law.go:83", after := #[], guard := none }) (v := vx) rfl (by kernel_rfl) (by kernel_rfl) (by kernel_rfl) (fun _ _ _ h => h) (Or.inl ⟨by rfl, fun w0 hSw => ?_⟩) hH0 ?_
  · (clear hSw; go_simp)
  simp only [Act.put, List.setIfInBounds_toArray, List.set_cons_zero, List.set_cons_succ]
  refine wpAnyH_take (i := 5) (oi := { dst := some 37, op := Op.move (Operand.tmp 10), type := 23, pos := "law.go:83", after := #[], guard := none }) (v := vy) rfl (by kernel_rfl) (by kernel_rfl) (by kernel_rfl) (fun _ _ _ h => h) (Or.inl ⟨by rfl, fun w0 hSw => ?_⟩) hH0 ?_
  · (clear hSw; go_simp)
  simp only [Act.put, List.setIfInBounds_toArray, List.set_cons_zero, List.set_cons_succ]
  refine wpAnyH_take (i := 7) (oi := { dst := some 39, op := Op.move (Operand.tmp 9), type := 23, pos := "law.go:83", after := #[], guard := none }) (v := vx) rfl (by kernel_rfl) (by kernel_rfl) (by kernel_rfl) (fun _ _ _ h => h) (Or.inl ⟨by rfl, fun w0 hSw => ?_⟩) hH0 ?_
  · (clear hSw; go_simp)
  simp only [Act.put, List.setIfInBounds_toArray, List.set_cons_zero, List.set_cons_succ]
  refine wpAnyH_take (i := 8) (oi := { dst := some 40, op := Op.move (Operand.tmp 10), type := 23, pos := "law.go:83", after := #[], guard := none }) (v := vy) rfl (by kernel_rfl) (by kernel_rfl) (by kernel_rfl) (fun _ _ _ h => h) (Or.inl ⟨by rfl, fun w0 hSw => ?_⟩) hH0 ?_
  · (clear hSw; go_simp)
  simp only [Act.put, List.setIfInBounds_toArray, List.set_cons_zero, List.set_cons_succ]
  refine wpAnyH_take (i := 10) (oi := { dst := some 42, op := Op.move (Operand.tmp 9), type := 23, pos := "law.go:83", after := #[], guard := none }) (v := vx) rfl (by kernel_rfl) (by kernel_rfl) (by kernel_rfl) (fun _ _ _ h => h) (Or.inl ⟨by rfl, fun w0 hSw => ?_⟩) hH0 ?_
  · (clear hSw; go_simp)
  simp only [Act.put, List.setIfInBounds_toArray, List.set_cons_zero, List.set_cons_succ]
  refine wpAnyH_take (i := 11) (oi := { dst := some 43, op := Op.load 26 (Operand.tmp 6), type := 26, pos := "law.go:83", after := #[], guard := none }) (v := .agg #[.int .u64 k.x0, .int .u64 k.x1, .int .u64 k.x2, .int .u64 k.x3]) rfl (by kernel_rfl) (by kernel_rfl) (by kernel_rfl) (fun _ _ _ h => h) (Or.inl ⟨by rfl, fun w0 hSw => ?_⟩) hH0 ?_
  · (have hS : Below W.heap.size W w0 := hSw; have a0 := cell_keep k0 hS; have a1 := cell_keep k1 hS; have a2 := cell_keep k2 hS; have a3 := cell_keep k3 hS; clear hS hSw; go_simp)
  simp only [Act.put, List.setIfInBounds_toArray, List.set_cons_zero, List.set_cons_succ]
  refine wpAnyH_take (i := 13) (oi := { dst := some 45, op := Op.move (Operand.tmp 9), type := 23, pos := "law.go:83", after := #[], guard := none }) (v := vx) rfl (by kernel_rfl) (by kernel_rfl) (by kernel_rfl) (fun _ _ _ h => h) (Or.inl ⟨by rfl, fun w0 hSw => ?_⟩) hH0 ?_
  · (clear hSw; go_simp)
  simp only [Act.put, List.setIfInBounds_toArray, List.set_cons_zero, List.set_cons_succ]
  refine wpAnyH_take (i := 15) (oi := { dst := some 47, op := Op.move (Operand.tmp 10), type := 23, pos := "law.go:83", after := #[], guard := none }) (v := vy) rfl (by kernel_rfl) (by kernel_rfl) (by kernel_rfl) (fun _ _ _ h => h) (Or.inl ⟨by rfl, fun w0 hSw => ?_⟩) hH0 ?_
  · (clear hSw; go_simp)
  simp only [Act.put, List.setIfInBounds_toArray, List.set_cons_zero, List.set_cons_succ]
  refine wpAnyH_ready (rs := [1]) (by kernel_rfl) (by simp) ?_
  refine AllReadyH.cons (o := { dst := some 33, op := Op.call { callee := Callee.value (Operand.func 6), args := #[Operand.tmp 32], argTypes := #[28] }, type := 23, pos := "law.go:83", after := #[{ on := 0, ground := Ground.data }], guard := none }) rfl (fun K hK => ?_) AllReadyH.nil
  have HH := hidden hH0
  clear hH0
  go_simp
  refine (C0.out _ HH.out).mono ?_
  rintro e wn1 ⟨p0, c0, rfl, ho, hb⟩
  have SN := hidden (bl_trans HH.out hb)
  replace AC := hidden (AC.out.next ho hb)
  clear HH C0 ho hb
  go_wp2_with fail
  refine hK.out _ _ SN.out (fun hH1 => ?_)
  clear hK K SN
  refine wpAnyH_ready (rs := [3]) (by kernel_rfl) (by simp) ?_
  refine AllReadyH.cons (o := { dst := some 35, op := Op.call { callee := Callee.value (Operand.func 7), args := #[Operand.tmp 34], argTypes := #[26] }, type := 23, pos := "law.go:83", after := #[{ on := 2, ground := Ground.data }, { on := 1, ground := Ground.chain }], guard := none }) rfl (fun K hK => ?_) AllReadyH.nil
  have HH := hidden hH1
  clear hH1
  go_simp
  refine (C1.out _ HH.out).mono ?_
  rintro e wn2 ⟨p1, c1, rfl, ho, hb⟩
  have SN := hidden (bl_trans HH.out hb)
  replace AC := hidden (AC.out.next ho hb)
  clear HH C1 ho hb
  go_wp2_with fail
  refine hK.out _ _ SN.out (fun hH2 => ?_)
  clear hK K SN
  refine wpAnyH_ready (rs := [6]) (by kernel_rfl) (by simp) ?_
  refine AllReadyH.cons (o := { dst := some 38, op := Op.call { callee := Callee.value (Operand.func 8), args := #[Operand.tmp 36, Operand.tmp 37], argTypes := #[23, 23] }, type := 23, pos := "law.go:83", after := #[{ on := 4, ground := Ground.data }, { on := 5, ground := Ground.data }, { on := 3, ground := Ground.chain }], guard := none }) rfl (fun K hK => ?_) AllReadyH.nil
  have HH := hidden hH2
  clear hH2
  go_simp
  refine (C2.out _ HH.out).mono ?_
  rintro e wn3 ⟨p2, c2, rfl, ho, hb⟩
  have SN := hidden (bl_trans HH.out hb)
  replace AC := hidden (AC.out.next ho hb)
  clear HH C2 ho hb
  go_wp2_with fail
  refine hK.out _ _ SN.out (fun hH3 => ?_)
  clear hK K SN
  refine wpAnyH_ready (rs := [9]) (by kernel_rfl) (by simp) ?_
  refine AllReadyH.cons (o := { dst := some 41, op := Op.call { callee := Callee.value (Operand.func 9), args := #[Operand.tmp 39, Operand.tmp 40], argTypes := #[23, 23] }, type := 23, pos := "law.go:83", after := #[{ on := 7, ground := Ground.data }, { on := 8, ground := Ground.data }, { on := 6, ground := Ground.chain }], guard := none }) rfl (fun K hK => ?_) AllReadyH.nil
  have HH := hidden hH3
  clear hH3
  go_simp
  refine (C3.out _ HH.out).mono ?_
  rintro e wn4 ⟨p3, c3, rfl, ho, hb⟩
  have SN := hidden (bl_trans HH.out hb)
  replace AC := hidden (AC.out.next ho hb)
  clear HH C3 ho hb
  go_wp2_with fail
  refine hK.out _ _ SN.out (fun hH4 => ?_)
  clear hK K SN
  refine wpAnyH_ready (rs := [12]) (by kernel_rfl) (by simp) ?_
  refine AllReadyH.cons (o := { dst := some 44, op := Op.call { callee := Callee.value (Operand.func 10), args := #[Operand.tmp 42, Operand.tmp 43], argTypes := #[23, 26] }, type := 23, pos := "law.go:83", after := #[{ on := 10, ground := Ground.data }, { on := 11, ground := Ground.data }, { on := 9, ground := Ground.chain }], guard := none }) rfl (fun K hK => ?_) AllReadyH.nil
  have HH := hidden hH4
  clear hH4
  go_simp
  refine (C4.out _ HH.out).mono ?_
  rintro e wn5 ⟨p4, c4, rfl, ho, hb⟩
  have SN := hidden (bl_trans HH.out hb)
  replace AC := hidden (AC.out.next ho hb)
  clear HH C4 ho hb
  go_wp2_with fail
  refine hK.out _ _ SN.out (fun hH5 => ?_)
  clear hK K SN
  refine wpAnyH_ready (rs := [14]) (by kernel_rfl) (by simp) ?_
  refine AllReadyH.cons (o := { dst := some 46, op := Op.call { callee := Callee.value (Operand.func 11), args := #[Operand.tmp 45], argTypes := #[23] }, type := 23, pos := "law.go:83", after := #[{ on := 13, ground := Ground.data }, { on := 12, ground := Ground.chain }], guard := none }) rfl (fun K hK => ?_) AllReadyH.nil
  have HH := hidden hH5
  clear hH5
  go_simp
  refine (C5.out _ HH.out).mono ?_
  rintro e wn6 ⟨p5, c5, rfl, ho, hb⟩
  have SN := hidden (bl_trans HH.out hb)
  replace AC := hidden (AC.out.next ho hb)
  clear HH C5 ho hb
  go_wp2_with fail
  refine hK.out _ _ SN.out (fun hH6 => ?_)
  clear hK K SN
  refine wpAnyH_ready (rs := [16]) (by kernel_rfl) (by simp) ?_
  refine AllReadyH.cons (o := { dst := some 48, op := Op.call { callee := Callee.value (Operand.func 11), args := #[Operand.tmp 47], argTypes := #[23] }, type := 23, pos := "law.go:83", after := #[{ on := 15, ground := Ground.data }, { on := 14, ground := Ground.chain }], guard := none }) rfl (fun K hK => ?_) AllReadyH.nil
  have HH := hidden hH6
  clear hH6
  go_simp
  refine (C6.out _ HH.out).mono ?_
  rintro e wn7 ⟨p6, c6, rfl, ho, hb⟩
  have SN := hidden (bl_trans HH.out hb)
  replace AC := hidden (AC.out.next ho hb)
  clear HH C6 ho hb
  go_wp2_with fail
  refine hK.out _ _ SN.out (fun hH7 => ?_)
  clear hK K SN
  refine wpAnyH_ready (rs := [17]) (by kernel_rfl) (by simp) ?_
  refine AllReadyH.cons (o := { dst := some 49, op := Op.buildSlice 36 7 #[(0, Operand.tmp 33), (1, Operand.tmp 35), (2, Operand.tmp 38), (3, Operand.tmp 41), (4, Operand.tmp 44), (5, Operand.tmp 46), (6, Operand.tmp 48)], type := 36, pos := "law.go:83", after := #[{ on := 1, ground := Ground.data }, { on := 3, ground := Ground.data }, { on := 6, ground := Ground.data }, { on := 9, ground := Ground.data }, { on := 12, ground := Ground.data }, { on := 14, ground := Ground.data }, { on := 16, ground := Ground.data }], guard := none }) rfl (fun K hK => ?_) AllReadyH.nil
  have HH := hidden hH7
  clear hH7
  refine build7P _ _ _ _ _ _ _ rfl p0 p1 p2 p3 p4 p5 p6 _ _ _ _ _ _ _ c0 c1 c2 c3 c4 c5 c6 rfl rfl rfl rfl rfl rfl rfl (fun tb wn8 htb hwq => ?_)
  have SN := hidden (by rw [hwq]; exact bl_trans HH.out (bl_alloc _ _) : Below W.heap.size W wn8)
  replace AC := hidden (by rw [hwq]; exact AC.out.keep (bl_alloc _ _) : Ac 49 W [(X0, p0, c0), (X1, p1, c1), (X2, p2, c2), (X3, p3, c3), (X4, p4, c4), (X5, p5, c5), (X6, p6, c6)] wn8)
  have OA := hidden (by rw [htb, hwq]; exact own_new7 _ 23 [.slice p0 X0.length c0, .slice p1 X1.length c1, .slice p2 X2.length c2, .slice p3 X3.length c3, .slice p4 X4.length c4, .slice p5 X5.length c5, .slice p6 X6.length c6] rfl HH.out.size : wn8.ownsRow W.heap.size 23 1 (.slice (some ⟨tb, 0, none⟩) 7 7) 7 [.slice p0 X0.length c0, .slice p1 X1.length c1, .slice p2 X2.length c2, .slice p3 X3.length c3, .slice p4 X4.length c4, .slice p5 X5.length c5, .slice p6 X6.length c6])
  clear HH htb hwq
  simp only [Act.put, List.setIfInBounds_toArray, List.set_cons_zero, List.set_cons_succ]
  refine hK.out _ _ SN.out (fun hH8 => ?_)
  clear hK K SN
  refine wpAnyH_take (i := 18) (oi := { dst := some 13, op := Op.assign (Operand.tmp 49), type := 36, pos := "law.go:83", after := #[{ on := 17, ground := Ground.data }, { on := 16, ground := Ground.chain }, { on := 0, ground := Ground.phase }, { on := 1, ground := Ground.phase }, { on := 2, ground := Ground.phase }, { on := 3, ground := Ground.phase }, { on := 4, ground := Ground.phase }, { on := 5, ground := Ground.phase }, { on := 6, ground := Ground.phase }, { on := 7, ground := Ground.phase }, { on := 8, ground := Ground.phase }, { on := 9, ground := Ground.phase }, { on := 10, ground := Ground.phase }, { on := 11, ground := Ground.phase }, { on := 12, ground := Ground.phase }, { on := 13, ground := Ground.phase }, { on := 14, ground := Ground.phase }, { on := 15, ground := Ground.phase }, { on := 16, ground := Ground.phase }, { on := 17, ground := Ground.phase }], guard := none }) (v := .slice (some ⟨tb, 0, none⟩) 7 7) rfl (by kernel_rfl) (by kernel_rfl) (by kernel_rfl) (fun _ _ _ h => h) (Or.inl ⟨by rfl, fun w0 hSw => ?_⟩) hH8 ?_
  · (clear hSw; go_simp)
  simp only [Act.put, List.setIfInBounds_toArray, List.set_cons_zero, List.set_cons_succ]
  have HH := hidden hH8
  have FQ := hidden (HQ.out _ tb p0 p1 p2 p3 p4 p5 p6 c0 c1 c2 c3 c4 c5 c6 AC.out OA.out)
  refine wpAnyH_done (by kernel_rfl) ?_ _
  refine NoPanic.normal ?_
  exact FQ.out
end Ci
end Go.Proofs.YtbmbopapmajaaaaDoor
