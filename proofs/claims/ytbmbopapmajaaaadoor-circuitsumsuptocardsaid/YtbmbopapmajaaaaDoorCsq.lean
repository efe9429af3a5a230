import Derived.Test.YtbmbopapmajaaaaDoorCsm
namespace Go.Proofs.YtbmbopapmajaaaaDoor
open Go.RowKit
set_option linter.unusedVariables false
set_option linter.unusedSimpArgs false
open Cm (Wr Tm co bf Ls lf ins Eqm)
namespace Ci
open Xo
set_option maxRecDepth 100000
set_option maxHeartbeats 4000000
def su39o : Array Oper := #[{ dst := some 223, op := Op.move (Operand.tmp 9), type := 23, pos := "law.go:115", after := #[], guard := none },
  { dst := some 224, op := Op.move (Operand.tmp 0), type := 23, pos := "law.go:115", after := #[], guard := none },
  { dst := some 225, op := Op.call { callee := Callee.value (Operand.func 21), args := #[Operand.tmp 223, Operand.tmp 224], argTypes := #[23, 23] }, type := 4, pos := "law.go:115", after := #[{ on := 0, ground := Ground.data }, { on := 1, ground := Ground.data }], guard := none },
  { dst := some 226, op := Op.move (Operand.tmp 225), type := 4, pos := "law.go:115", after := #[{ on := 2, ground := Ground.data }, { on := 2, ground := Ground.chain }], guard := none },
  { dst := some 227, op := Op.move (Operand.tmp 10), type := 23, pos := "law.go:115", after := #[{ on := 3, ground := Ground.guard }], guard := some (3, true) },
  { dst := some 228, op := Op.move (Operand.tmp 1), type := 23, pos := "law.go:115", after := #[{ on := 3, ground := Ground.guard }], guard := some (3, true) },
  { dst := some 229, op := Op.call { callee := Callee.value (Operand.func 21), args := #[Operand.tmp 227, Operand.tmp 228], argTypes := #[23, 23] }, type := 4, pos := "law.go:115", after := #[{ on := 4, ground := Ground.data }, { on := 5, ground := Ground.data }, { on := 3, ground := Ground.chain }, { on := 3, ground := Ground.guard }], guard := some (3, true) },
  { dst := some 230, op := Op.pick (Operand.tmp 226) (Operand.tmp 229) (Operand.const (Value.bool false)), type := 4, pos := "law.go:115", after := #[{ on := 3, ground := Ground.data }, { on := 6, ground := Ground.data }], guard := none },
  { dst := some 231, op := Op.move (Operand.tmp 230), type := 4, pos := "law.go:115", after := #[{ on := 7, ground := Ground.data }, { on := 6, ground := Ground.chain }], guard := none },
  { dst := some 232, op := Op.move (Operand.tmp 9), type := 23, pos := "law.go:115", after := #[{ on := 8, ground := Ground.guard }], guard := some (8, true) },
  { dst := some 233, op := Op.move (Operand.tmp 10), type := 23, pos := "law.go:115", after := #[{ on := 8, ground := Ground.guard }], guard := some (8, true) },
  { dst := some 234, op := Op.call { callee := Callee.value (Operand.func 8), args := #[Operand.tmp 232, Operand.tmp 233], argTypes := #[23, 23] }, type := 23, pos := "law.go:115", after := #[{ on := 9, ground := Ground.data }, { on := 10, ground := Ground.data }, { on := 8, ground := Ground.chain }, { on := 8, ground := Ground.guard }], guard := some (8, true) },
  { dst := some 235, op := Op.move (Operand.tmp 14), type := 45, pos := "law.go:115", after := #[{ on := 8, ground := Ground.guard }], guard := some (8, true) },
  { dst := some 236, op := Op.indexAddr 45 (Operand.tmp 235) (Operand.const (Value.int IntKind.i64 2)), type := 0, pos := "law.go:115", after := #[{ on := 12, ground := Ground.data }, { on := 8, ground := Ground.guard }], guard := some (8, true) },
  { dst := some 237, op := Op.load 31 (Operand.tmp 236), type := 31, pos := "law.go:115", after := #[{ on := 13, ground := Ground.data }, { on := 8, ground := Ground.guard }], guard := some (8, true) },
  { dst := some 238, op := Op.call { callee := Callee.value (Operand.func 20), args := #[Operand.tmp 234, Operand.tmp 237], argTypes := #[23, 31] }, type := 4, pos := "law.go:115", after := #[{ on := 11, ground := Ground.data }, { on := 14, ground := Ground.data }, { on := 11, ground := Ground.chain }, { on := 8, ground := Ground.guard }], guard := some (8, true) },
  { dst := some 239, op := Op.pick (Operand.tmp 231) (Operand.tmp 238) (Operand.const (Value.bool false)), type := 4, pos := "law.go:115", after := #[{ on := 8, ground := Ground.data }, { on := 15, ground := Ground.data }], guard := none },
  { dst := some 8, op := Op.assign (Operand.tmp 239), type := 4, pos := "law.go:115", after := #[{ on := 16, ground := Ground.data }, { on := 15, ground := Ground.chain }, { on := 0, ground := Ground.phase }, { on := 1, ground := Ground.phase }, { on := 2, ground := Ground.phase }, { on := 3, ground := Ground.phase }, { on := 4, ground := Ground.phase }, { on := 5, ground := Ground.phase }, { on := 6, ground := Ground.phase }, { on := 7, ground := Ground.phase }, { on := 8, ground := Ground.phase }, { on := 9, ground := Ground.phase }, { on := 10, ground := Ground.phase }, { on := 11, ground := Ground.phase }, { on := 12, ground := Ground.phase }, { on := 13, ground := Ground.phase }, { on := 14, ground := Ground.phase }, { on := 15, ground := Ground.phase }, { on := 16, ground := Ground.phase }], guard := none }]
set_option maxRecDepth 100000 in
set_option maxHeartbeats 16000000 in
theorem su39 (Q : Exit → Act → World → Prop) (D cD nb db : Nat) (pb : Option Addr) (va vb vx vy : Value) (R : Value → World → Prop) (u2 u3 u4 u5 u6 u7 u8 u11 u12 u13 u15 u16 u17 u18 u19 u20 u21 u22 u23 u24 u25 u26 u27 u28 u29 u30 u31 u32 u33 u34 u35 u36 u37 u38 u39 u40 u41 u42 u43 u44 u45 u46 u47 u48 u49 u50 u51 u52 u53 u54 u55 u56 u57 u58 u59 u60 u61 u62 u63 u64 u65 u66 u67 u68 u69 u70 u71 u72 u73 u74 u75 u76 u77 u78 u79 u80 u81 u82 u83 u84 u85 u86 u87 u88 u89 u90 u91 u92 u93 u94 u95 u96 u97 u98 u99 u100 u101 u102 u103 u104 u105 u106 u107 u108 u109 u110 u111 u112 u113 u114 u115 u116 u117 u118 u119 u120 u121 u122 u123 u124 u125 u126 u127 u128 u129 u130 u131 u132 u133 u134 u135 u136 u137 u138 u139 u140 u141 u142 u143 u144 u145 u146 u147 u148 u149 u150 u151 u152 u153 u154 u155 u156 u157 u158 u159 u160 u161 u162 u163 u164 u165 u166 u167 u168 u169 u170 u171 u172 u173 u174 u175 u176 u177 u178 u179 u180 u181 u182 u183 u184 u185 u186 u187 u188 u189 u190 u191 u192 u193 u194 u195 u196 u197 u198 u199 u200 u201 u202 u203 u204 u205 u206 u207 u208 u209 u210 u211 u212 u213 u214 u215 u216 u217 u218 u219 u220 u221 u222 u223 u224 u225 u226 u227 u228 u229 u230 u231 u232 u233 u234 u235 u236 u237 u238 u239 : Value) (W : World)
    (b0 : W.cell? ⟨D, 2, none⟩ = some (.slice pb nb db))
    (C1 : Hid (∀ y, Below W.heap.size W y → Calls Tryd.prog 21 #[vx, va] y fun e w' => e = .returned (.bool true) ∧ Below y.heap.size y w'))
    (C2 : Hid (∀ y, Below W.heap.size W y → Calls Tryd.prog 21 #[vy, vb] y fun e w' => e = .returned (.bool true) ∧ Below y.heap.size y w'))
    (C3 : Hid (∀ y, Below W.heap.size W y → Calls Tryd.prog 8 #[vx, vy] y fun e w' => ∃ v, e = .returned v ∧ R v w' ∧ Below y.heap.size y w'))
    (C4 : Hid (∀ v y, Below W.heap.size W y → R v y → Calls Tryd.prog 20 #[v, .slice pb nb db] y fun e w' => e = .returned (.bool true) ∧ Below y.heap.size y w'))
    (HQ : Hid (∀ (wz : World) (vs : Value), Below W.heap.size W wz → Q .normal ⟨#[va, vb, u2, u3, u4, u5, u6, u7, .bool true, vx, vy, u11, u12, u13, .slice (some ⟨D, 0, none⟩) 14 cD, u15, u16, u17, u18, u19, u20, u21, u22, u23, u24, u25, u26, u27, u28, u29, u30, u31, u32, u33, u34, u35, u36, u37, u38, u39, u40, u41, u42, u43, u44, u45, u46, u47, u48, u49, u50, u51, u52, u53, u54, u55, u56, u57, u58, u59, u60, u61, u62, u63, u64, u65, u66, u67, u68, u69, u70, u71, u72, u73, u74, u75, u76, u77, u78, u79, u80, u81, u82, u83, u84, u85, u86, u87, u88, u89, u90, u91, u92, u93, u94, u95, u96, u97, u98, u99, u100, u101, u102, u103, u104, u105, u106, u107, u108, u109, u110, u111, u112, u113, u114, u115, u116, u117, u118, u119, u120, u121, u122, u123, u124, u125, u126, u127, u128, u129, u130, u131, u132, u133, u134, u135, u136, u137, u138, u139, u140, u141, u142, u143, u144, u145, u146, u147, u148, u149, u150, u151, u152, u153, u154, u155, u156, u157, u158, u159, u160, u161, u162, u163, u164, u165, u166, u167, u168, u169, u170, u171, u172, u173, u174, u175, u176, u177, u178, u179, u180, u181, u182, u183, u184, u185, u186, u187, u188, u189, u190, u191, u192, u193, u194, u195, u196, u197, u198, u199, u200, u201, u202, u203, u204, u205, u206, u207, u208, u209, u210, u211, u212, u213, u214, u215, u216, u217, u218, u219, u220, u221, u222, vx, va, .bool true, .bool true, vy, vb, .bool true, .bool true, .bool true, vx, vy, vs, .slice (some ⟨D, 0, none⟩) 14 cD, .pointer (some ⟨D, 2, none⟩), .slice pb nb db, .bool true, .bool true], []⟩ wz)) : (Code.region 39 su39o true).wp Tryd.prog Q ⟨#[va, vb, u2, u3, u4, u5, u6, u7, u8, vx, vy, u11, u12, u13, .slice (some ⟨D, 0, none⟩) 14 cD, u15, u16, u17, u18, u19, u20, u21, u22, u23, u24, u25, u26, u27, u28, u29, u30, u31, u32, u33, u34, u35, u36, u37, u38, u39, u40, u41, u42, u43, u44, u45, u46, u47, u48, u49, u50, u51, u52, u53, u54, u55, u56, u57, u58, u59, u60, u61, u62, u63, u64, u65, u66, u67, u68, u69, u70, u71, u72, u73, u74, u75, u76, u77, u78, u79, u80, u81, u82, u83, u84, u85, u86, u87, u88, u89, u90, u91, u92, u93, u94, u95, u96, u97, u98, u99, u100, u101, u102, u103, u104, u105, u106, u107, u108, u109, u110, u111, u112, u113, u114, u115, u116, u117, u118, u119, u120, u121, u122, u123, u124, u125, u126, u127, u128, u129, u130, u131, u132, u133, u134, u135, u136, u137, u138, u139, u140, u141, u142, u143, u144, u145, u146, u147, u148, u149, u150, u151, u152, u153, u154, u155, u156, u157, u158, u159, u160, u161, u162, u163, u164, u165, u166, u167, u168, u169, u170, u171, u172, u173, u174, u175, u176, u177, u178, u179, u180, u181, u182, u183, u184, u185, u186, u187, u188, u189, u190, u191, u192, u193, u194, u195, u196, u197, u198, u199, u200, u201, u202, u203, u204, u205, u206, u207, u208, u209, u210, u211, u212, u213, u214, u215, u216, u217, u218, u219, u220, u221, u222, u223, u224, u225, u226, u227, u228, u229, u230, u231, u232, u233, u234, u235, u236, u237, u238, u239], []⟩ W := by
  unfold su39o
  refine wp_region_noPanic ?_
  refine wp_region_held_drew (S := fun x => Below W.heap.size W x) (by kernel_rfl) (bl_drew W) (fun hH0 => ?_)
  refine wpAnyH_take (i := 0) (oi := { dst := some 223, op := Op.move (Operand.tmp 9), type := 23, pos := "law.go:115", after := #[], guard := none }) (v := vx) rfl (by kernel_rfl) (by kernel_rfl) (by kernel_rfl) (fun _ _ _ h => h) (Or.inl ⟨by rfl, fun w0 hSw => ?_⟩) hH0 ?_
  · (clear hSw; go_simp)
  simp only [Act.put, List.setIfInBounds_toArray, List.set_cons_zero, List.set_cons_succ]
  refine wpAnyH_take (i := 1) (oi := { dst := some 224, op := Op.move (Operand.tmp 0), type := 23, pos := "law.go:115", after := #[], guard := none }) (v := va) rfl (by kernel_rfl) (by kernel_rfl) (by kernel_rfl) (fun _ _ _ h => h) (Or.inl ⟨by rfl, fun w0 hSw => ?_⟩) hH0 ?_
  · (clear hSw; go_simp)
  simp only [Act.put, List.setIfInBounds_toArray, List.set_cons_zero, List.set_cons_succ]
  refine wpAnyH_ready (rs := [2]) (by kernel_rfl) (by simp) ?_
  refine AllReadyH.cons (o := { dst := some 225, op := Op.call { callee := Callee.value (Operand.func 21), args := #[Operand.tmp 223, Operand.tmp 224], argTypes := #[23, 23] }, type := 4, pos := "law.go:115", after := #[{ on := 0, ground := Ground.data }, { on := 1, ground := Ground.data }], guard := none }) rfl (fun K hK => ?_) AllReadyH.nil
  have HH := hidden hH0
  clear hH0
  go_simp
  refine (C1.out _ HH.out).mono ?_
  rintro e wn1 ⟨rfl, hb⟩
  have SN := hidden (bl_trans HH.out hb)
  clear HH C1 hb
  go_wp2_with fail
  refine hK.out _ _ SN.out (fun hH1 => ?_)
  clear hK K SN
  refine wpAnyH_take (i := 3) (oi := { dst := some 226, op := Op.move (Operand.tmp 225), type := 4, pos := "law.go:115", after := #[{ on := 2, ground := Ground.data }, { on := 2, ground := Ground.chain }], guard := none }) (v := .bool true) rfl (by kernel_rfl) (by kernel_rfl) (by kernel_rfl) (fun _ _ _ h => h) (Or.inl ⟨by rfl, fun w0 hSw => ?_⟩) hH1 ?_
  · (clear hSw; go_simp)
  simp only [Act.put, List.setIfInBounds_toArray, List.set_cons_zero, List.set_cons_succ]
  refine wpAnyH_take (i := 4) (oi := { dst := some 227, op := Op.move (Operand.tmp 10), type := 23, pos := "law.go:115", after := #[{ on := 3, ground := Ground.guard }], guard := some (3, true) }) (v := vy) rfl (by kernel_rfl) (by kernel_rfl) (by kernel_rfl) (fun _ _ _ h => h) (Or.inl ⟨by rfl, fun w0 hSw => ?_⟩) hH1 ?_
  · (clear hSw; go_simp)
  simp only [Act.put, List.setIfInBounds_toArray, List.set_cons_zero, List.set_cons_succ]
  refine wpAnyH_take (i := 5) (oi := { dst := some 228, op := Op.move (Operand.tmp 1), type := 23, pos := "law.go:115", after := #[{ on := 3, ground := Ground.guard }], guard := some (3, true) }) (v := vb) rfl (by kernel_rfl) (by kernel_rfl) (by kernel_rfl) (fun _ _ _ h => h) (Or.inl ⟨by rfl, fun w0 hSw => ?_⟩) hH1 ?_
  · (clear hSw; go_simp)
  simp only [Act.put, List.setIfInBounds_toArray, List.set_cons_zero, List.set_cons_succ]
  refine wpAnyH_ready (rs := [6]) (by kernel_rfl) (by simp) ?_
  refine AllReadyH.cons (o := { dst := some 229, op := Op.call { callee := Callee.value (Operand.func 21), args := #[Operand.tmp 227, Operand.tmp 228], argTypes := #[23, 23] }, type := 4, pos := "law.go:115", after := #[{ on := 4, ground := Ground.data }, { on := 5, ground := Ground.data }, { on := 3, ground := Ground.chain }, { on := 3, ground := Ground.guard }], guard := some (3, true) }) rfl (fun K hK => ?_) AllReadyH.nil
  have HH := hidden hH1
  clear hH1
  go_simp
  refine (C2.out _ HH.out).mono ?_
  rintro e wn2 ⟨rfl, hb⟩
  have SN := hidden (bl_trans HH.out hb)
  clear HH C2 hb
  go_wp2_with fail
  refine hK.out _ _ SN.out (fun hH2 => ?_)
  clear hK K SN
  refine wpAnyH_take (i := 7) (oi := { dst := some 230, op := Op.pick (Operand.tmp 226) (Operand.tmp 229) (Operand.const (Value.bool false)), type := 4, pos := "law.go:115", after := #[{ on := 3, ground := Ground.data }, { on := 6, ground := Ground.data }], guard := none }) (v := .bool true) rfl (by kernel_rfl) (by kernel_rfl) (by kernel_rfl) (fun _ _ _ h => h) (Or.inl ⟨by rfl, fun w0 hSw => ?_⟩) hH2 ?_
  · (clear hSw; go_simp)
  simp only [Act.put, List.setIfInBounds_toArray, List.set_cons_zero, List.set_cons_succ]
  refine wpAnyH_take (i := 8) (oi := { dst := some 231, op := Op.move (Operand.tmp 230), type := 4, pos := "law.go:115", after := #[{ on := 7, ground := Ground.data }, { on := 6, ground := Ground.chain }], guard := none }) (v := .bool true) rfl (by kernel_rfl) (by kernel_rfl) (by kernel_rfl) (fun _ _ _ h => h) (Or.inl ⟨by rfl, fun w0 hSw => ?_⟩) hH2 ?_
  · (clear hSw; go_simp)
  simp only [Act.put, List.setIfInBounds_toArray, List.set_cons_zero, List.set_cons_succ]
  refine wpAnyH_take (i := 9) (oi := { dst := some 232, op := Op.move (Operand.tmp 9), type := 23, pos := "law.go:115", after := #[{ on := 8, ground := Ground.guard }], guard := some (8, true) }) (v := vx) rfl (by kernel_rfl) (by kernel_rfl) (by kernel_rfl) (fun _ _ _ h => h) (Or.inl ⟨by rfl, fun w0 hSw => ?_⟩) hH2 ?_
  · (clear hSw; go_simp)
  simp only [Act.put, List.setIfInBounds_toArray, List.set_cons_zero, List.set_cons_succ]
  refine wpAnyH_take (i := 10) (oi := { dst := some 233, op := Op.move (Operand.tmp 10), type := 23, pos := "law.go:115", after := #[{ on := 8, ground := Ground.guard }], guard := some (8, true) }) (v := vy) rfl (by kernel_rfl) (by kernel_rfl) (by kernel_rfl) (fun _ _ _ h => h) (Or.inl ⟨by rfl, fun w0 hSw => ?_⟩) hH2 ?_
  · (clear hSw; go_simp)
  simp only [Act.put, List.setIfInBounds_toArray, List.set_cons_zero, List.set_cons_succ]
  refine wpAnyH_take (i := 12) (oi := { dst := some 235, op := Op.move (Operand.tmp 14), type := 45, pos := "law.go:115", after := #[{ on := 8, ground := Ground.guard }], guard := some (8, true) }) (v := .slice (some ⟨D, 0, none⟩) 14 cD) rfl (by kernel_rfl) (by kernel_rfl) (by kernel_rfl) (fun _ _ _ h => h) (Or.inl ⟨by rfl, fun w0 hSw => ?_⟩) hH2 ?_
  · (clear hSw; go_simp)
  simp only [Act.put, List.setIfInBounds_toArray, List.set_cons_zero, List.set_cons_succ]
  refine wpAnyH_take (i := 13) (oi := { dst := some 236, op := Op.indexAddr 45 (Operand.tmp 235) (Operand.const (Value.int IntKind.i64 2)), type := 0, pos := "law.go:115", after := #[{ on := 12, ground := Ground.data }, { on := 8, ground := Ground.guard }], guard := some (8, true) }) (v := .pointer (some ⟨D, 2, none⟩)) rfl (by kernel_rfl) (by kernel_rfl) (by kernel_rfl) (fun _ _ _ h => h) (Or.inl ⟨by rfl, fun w0 hSw => ?_⟩) hH2 ?_
  · (clear hSw; go_simp)
  simp only [Act.put, List.setIfInBounds_toArray, List.set_cons_zero, List.set_cons_succ]
  refine wpAnyH_take (i := 14) (oi := { dst := some 237, op := Op.load 31 (Operand.tmp 236), type := 31, pos := "law.go:115", after := #[{ on := 13, ground := Ground.data }, { on := 8, ground := Ground.guard }], guard := some (8, true) }) (v := .slice pb nb db) rfl (by kernel_rfl) (by kernel_rfl) (by kernel_rfl) (fun _ _ _ h => h) (Or.inl ⟨by rfl, fun w0 hSw => ?_⟩) hH2 ?_
  · (have hS : Below W.heap.size W w0 := hSw; have a0 := cell_keep b0 hS; clear hS hSw; go_simp)
  simp only [Act.put, List.setIfInBounds_toArray, List.set_cons_zero, List.set_cons_succ]
  refine wpAnyH_ready (rs := [11]) (by kernel_rfl) (by simp) ?_
  refine AllReadyH.cons (o := { dst := some 234, op := Op.call { callee := Callee.value (Operand.func 8), args := #[Operand.tmp 232, Operand.tmp 233], argTypes := #[23, 23] }, type := 23, pos := "law.go:115", after := #[{ on := 9, ground := Ground.data }, { on := 10, ground := Ground.data }, { on := 8, ground := Ground.chain }, { on := 8, ground := Ground.guard }], guard := some (8, true) }) rfl (fun K hK => ?_) AllReadyH.nil
  have HH := hidden hH2
  clear hH2
  go_simp
  refine (C3.out _ HH.out).mono ?_
  rintro e wn3 ⟨vs, rfl, h1, hb⟩
  have SN := hidden (bl_trans HH.out hb)
  have C5 := hidden (C4.out _ _ SN.out h1)
  clear HH C3 C4 h1 hb
  go_wp2_with fail
  refine hK.out _ _ SN.out (fun hH3 => ?_)
  clear hK K SN
  refine wpAnyH_ready (rs := [15]) (by kernel_rfl) (by simp) ?_
  refine AllReadyH.cons (o := { dst := some 238, op := Op.call { callee := Callee.value (Operand.func 20), args := #[Operand.tmp 234, Operand.tmp 237], argTypes := #[23, 31] }, type := 4, pos := "law.go:115", after := #[{ on := 11, ground := Ground.data }, { on := 14, ground := Ground.data }, { on := 11, ground := Ground.chain }, { on := 8, ground := Ground.guard }], guard := some (8, true) }) rfl (fun K hK => ?_) AllReadyH.nil
  have HH := hidden hH3
  clear hH3
  go_simp
  refine (C5.out).mono ?_
  rintro e wn4 ⟨rfl, hb⟩
  have SN := hidden (bl_trans HH.out hb)
  clear HH C5 hb
  go_wp2_with fail
  refine hK.out _ _ SN.out (fun hH4 => ?_)
  clear hK K SN
  refine wpAnyH_take (i := 16) (oi := { dst := some 239, op := Op.pick (Operand.tmp 231) (Operand.tmp 238) (Operand.const (Value.bool false)), type := 4, pos := "law.go:115", after := #[{ on := 8, ground := Ground.data }, { on := 15, ground := Ground.data }], guard := none }) (v := .bool true) rfl (by kernel_rfl) (by kernel_rfl) (by kernel_rfl) (fun _ _ _ h => h) (Or.inl ⟨by rfl, fun w0 hSw => ?_⟩) hH4 ?_
  · (clear hSw; go_simp)
  simp only [Act.put, List.setIfInBounds_toArray, List.set_cons_zero, List.set_cons_succ]
  refine wpAnyH_take (i := 17) (oi := { dst := some 8, op := Op.assign (Operand.tmp 239), type := 4, pos := "law.go:115", after := #[{ on := 16, ground := Ground.data }, { on := 15, ground := Ground.chain }, { on := 0, ground := Ground.phase }, { on := 1, ground := Ground.phase }, { on := 2, ground := Ground.phase }, { on := 3, ground := Ground.phase }, { on := 4, ground := Ground.phase }, { on := 5, ground := Ground.phase }, { on := 6, ground := Ground.phase }, { on := 7, ground := Ground.phase }, { on := 8, ground := Ground.phase }, { on := 9, ground := Ground.phase }, { on := 10, ground := Ground.phase }, { on := 11, ground := Ground.phase }, { on := 12, ground := Ground.phase }, { on := 13, ground := Ground.phase }, { on := 14, ground := Ground.phase }, { on := 15, ground := Ground.phase }, { on := 16, ground := Ground.phase }], guard := none }) (v := .bool true) rfl (by kernel_rfl) (by kernel_rfl) (by kernel_rfl) (fun _ _ _ h => h) (Or.inl ⟨by rfl, fun w0 hSw => ?_⟩) hH4 ?_
  · (clear hSw; go_simp)
  simp only [Act.put, List.setIfInBounds_toArray, List.set_cons_zero, List.set_cons_succ]
  have HH := hidden hH4
  have FQ := hidden (HQ.out _ vs HH.out)
  refine wpAnyH_done (by kernel_rfl) ?_ _
  refine NoPanic.normal ?_
  exact FQ.out
end Ci
end Go.Proofs.YtbmbopapmajaaaaDoor
