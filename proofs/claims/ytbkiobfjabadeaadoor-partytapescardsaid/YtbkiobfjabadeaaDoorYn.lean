import Derived.Test.YtbkiobfjabadeaaDoorYm
namespace Go.Proofs.YtbkiobfjabadeaaDoor
open Go.RowKit
set_option linter.unusedVariables false
theorem setS_cells (w : World) (b o : Nat) (r : E4) : w.setCells b o [.int .u64 r.x0, .int .u64 r.x1, .int .u64 r.x2, .int .u64 r.x3] = setS w b o r := rfl
def lw13o : Array Oper := #[{ dst := some 62, op := Op.move (Operand.tmp 5), type := 24, pos := "law.go:393", after := #[], guard := none },
  { dst := some 63, op := Op.move (Operand.tmp 12), type := 3, pos := "law.go:393", after := #[], guard := none },
  { dst := some 64, op := Op.indexAddr 24 (Operand.tmp 62) (Operand.tmp 63), type := 0, pos := "law.go:393", after := #[{ on := 0, ground := Ground.data }, { on := 1, ground := Ground.data }], guard := none },
  { dst := some 65, op := Op.load 31 (Operand.tmp 64), type := 31, pos := "law.go:393", after := #[{ on := 2, ground := Ground.data }], guard := none },
  { dst := some 66, op := Op.move (Operand.tmp 1), type := 24, pos := "law.go:393", after := #[], guard := none },
  { dst := some 67, op := Op.move (Operand.tmp 12), type := 3, pos := "law.go:393", after := #[], guard := none },
  { dst := some 68, op := Op.indexAddr 24 (Operand.tmp 66) (Operand.tmp 67), type := 0, pos := "law.go:393", after := #[{ on := 4, ground := Ground.data }, { on := 5, ground := Ground.data }], guard := none },
  { dst := some 69, op := Op.load 31 (Operand.tmp 68), type := 31, pos := "law.go:393", after := #[{ on := 6, ground := Ground.data }], guard := none },
  { dst := some 70, op := Op.call { callee := Callee.value (Operand.func 8), args := #[Operand.tmp 65, Operand.tmp 69], argTypes := #[31, 31] }, type := 4, pos := "law.go:393", after := #[{ on := 3, ground := Ground.data }, { on := 7, ground := Ground.data }], guard := none },
  { dst := some 71, op := Op.unOp UnOp.not 4 (Operand.tmp 70), type := 4, pos := "law.go:393", after := #[{ on := 8, ground := Ground.data }], guard := none }]
set_option maxRecDepth 100000 in
set_option maxHeartbeats 16000000 in
theorem lw13 (Q : Exit → Act → World → Prop) (bo oo co bt ot ct N i : Nat) (D1 D2 : List Value) (u0 u2 u3 u4 u6 u7 u8 u9 u10 u11 u13 u14 u15 u16 u17 u18 u19 u20 u21 u22 u23 u24 u25 u26 u27 u28 u29 u30 u31 u32 u33 u34 u35 u36 u37 u38 u39 u40 u41 u42 u43 u44 u45 u46 u47 u48 u49 u50 u51 u52 u53 u54 u55 u56 u57 u58 u59 u60 u61 u62 u63 u64 u65 u66 u67 u68 u69 u70 u71 u72 u73 u74 u75 u76 u77 u78 u79 u80 u81 u82 u83 u84 u85 u86 u87 u88 u89 u90 u91 u92 u93 u94 u95 u96 u97 u98 u99 u100 u101 u102 u103 u104 u105 u106 u107 u108 u109 u110 u111 u112 u113 u114 u115 u116 u117 u118 u119 u120 u121 u122 u123 u124 u125 u126 u127 u128 u129 u130 u131 u132 u133 u134 u135 u136 u137 u138 u139 u140 u141 u142 u143 u144 u145 u146 u147 u148 u149 u150 u151 u152 u153 u154 u155 u156 u157 u158 u159 u160 u161 u162 u163 u164 u165 u166 u167 u168 u169 u170 u171 u172 u173 u174 u175 u176 u177 u178 u179 u180 u181 u182 u183 u184 u185 u186 u187 u188 u189 u190 u191 u192 u193 u194 u195 u196 u197 u198 u199 u200 u201 u202 u203 u204 u205 u206 u207 u208 u209 u210 u211 u212 u213 u214 u215 u216 u217 u218 u219 u220 u221 u222 u223 u224 u225 u226 u227 u228 u229 u230 u231 u232 u233 u234 u235 u236 u237 u238 u239 u240 u241 u242 u243 u244 u245 u246 u247 u248 u249 u250 u251 : Value) (W : World)
    (ii0 : (0 : Int) ≤ (i : Int)) (ii1 : (i : Int) < (N : Int)) (r1 : W.rangeAt bo (oo + i * 18) D1) (r2 : W.rangeAt bt (ot + i * 18) D2) (l1 : D1.length = 18) (l2 : D2.length = 18)
    (C8 : Hid (∀ x, Below W.heap.size W x → Calls Tryd.prog 8 #[.agg D1.toArray, .agg D2.toArray] x fun e w' => e = .returned (.bool true) ∧ Below x.heap.size x w'))
    (HQ : Hid (∀ wz, Below W.heap.size W wz → Q .normal ⟨#[u0, .slice (some ⟨bt, ot, none⟩) N ct, u2, u3, u4, .slice (some ⟨bo, oo, none⟩) N co, u6, u7, u8, u9, u10, u11, .int .i64 (i : Int), u13, u14, u15, u16, u17, u18, u19, u20, u21, u22, u23, u24, u25, u26, u27, u28, u29, u30, u31, u32, u33, u34, u35, u36, u37, u38, u39, u40, u41, u42, u43, u44, u45, u46, u47, u48, u49, u50, u51, u52, u53, u54, u55, u56, u57, u58, u59, u60, u61, .slice (some ⟨bo, oo, none⟩) N co, .int .i64 (i : Int), .pointer (some ⟨bo, oo + i * 18, none⟩), .agg (D1).toArray, .slice (some ⟨bt, ot, none⟩) N ct, .int .i64 (i : Int), .pointer (some ⟨bt, ot + i * 18, none⟩), .agg (D2).toArray, .bool true, .bool false, u72, u73, u74, u75, u76, u77, u78, u79, u80, u81, u82, u83, u84, u85, u86, u87, u88, u89, u90, u91, u92, u93, u94, u95, u96, u97, u98, u99, u100, u101, u102, u103, u104, u105, u106, u107, u108, u109, u110, u111, u112, u113, u114, u115, u116, u117, u118, u119, u120, u121, u122, u123, u124, u125, u126, u127, u128, u129, u130, u131, u132, u133, u134, u135, u136, u137, u138, u139, u140, u141, u142, u143, u144, u145, u146, u147, u148, u149, u150, u151, u152, u153, u154, u155, u156, u157, u158, u159, u160, u161, u162, u163, u164, u165, u166, u167, u168, u169, u170, u171, u172, u173, u174, u175, u176, u177, u178, u179, u180, u181, u182, u183, u184, u185, u186, u187, u188, u189, u190, u191, u192, u193, u194, u195, u196, u197, u198, u199, u200, u201, u202, u203, u204, u205, u206, u207, u208, u209, u210, u211, u212, u213, u214, u215, u216, u217, u218, u219, u220, u221, u222, u223, u224, u225, u226, u227, u228, u229, u230, u231, u232, u233, u234, u235, u236, u237, u238, u239, u240, u241, u242, u243, u244, u245, u246, u247, u248, u249, u250, u251], []⟩ wz)) : (Code.region 13 lw13o true).wp Tryd.prog Q ⟨#[u0, .slice (some ⟨bt, ot, none⟩) N ct, u2, u3, u4, .slice (some ⟨bo, oo, none⟩) N co, u6, u7, u8, u9, u10, u11, .int .i64 (i : Int), u13, u14, u15, u16, u17, u18, u19, u20, u21, u22, u23, u24, u25, u26, u27, u28, u29, u30, u31, u32, u33, u34, u35, u36, u37, u38, u39, u40, u41, u42, u43, u44, u45, u46, u47, u48, u49, u50, u51, u52, u53, u54, u55, u56, u57, u58, u59, u60, u61, u62, u63, u64, u65, u66, u67, u68, u69, u70, u71, u72, u73, u74, u75, u76, u77, u78, u79, u80, u81, u82, u83, u84, u85, u86, u87, u88, u89, u90, u91, u92, u93, u94, u95, u96, u97, u98, u99, u100, u101, u102, u103, u104, u105, u106, u107, u108, u109, u110, u111, u112, u113, u114, u115, u116, u117, u118, u119, u120, u121, u122, u123, u124, u125, u126, u127, u128, u129, u130, u131, u132, u133, u134, u135, u136, u137, u138, u139, u140, u141, u142, u143, u144, u145, u146, u147, u148, u149, u150, u151, u152, u153, u154, u155, u156, u157, u158, u159, u160, u161, u162, u163, u164, u165, u166, u167, u168, u169, u170, u171, u172, u173, u174, u175, u176, u177, u178, u179, u180, u181, u182, u183, u184, u185, u186, u187, u188, u189, u190, u191, u192, u193, u194, u195, u196, u197, u198, u199, u200, u201, u202, u203, u204, u205, u206, u207, u208, u209, u210, u211, u212, u213, u214, u215, u216, u217, u218, u219, u220, u221, u222, u223, u224, u225, u226, u227, u228, u229, u230, u231, u232, u233, u234, u235, u236, u237, u238, u239, u240, u241, u242, u243, u244, u245, u246, u247, u248, u249, u250, u251], []⟩ W := by
  have RG1 := hidden r1
  have RG2 := hidden r2
  have U31 : Hid (Tryd.prog.underlying 31 = some _) := hidden Tryd.underlying31
  have I1 : Hid ((Tryd.prog.info? 31).map (·.size) = some D1.length) := hidden (by rw [l1]; exact ptinfo)
  have I2 : Hid ((Tryd.prog.info? 31).map (·.size) = some D2.length) := hidden (by rw [l2]; exact ptinfo)
  clear r1 r2 l1 l2
  unfold lw13o
  refine wp_region_noPanic ?_
  refine wp_region_held_drew (S := fun x => Below W.heap.size W x) (by kernel_rfl) (bl_drew W) (fun hH0 => ?_)
  refine wpAnyH_take (i := 0) (oi := { dst := some 62, op := Op.move (Operand.tmp 5), type := 24, pos := "law.go:393", after := #[], guard := none }) (v := .slice (some ⟨bo, oo, none⟩) N co) rfl (by kernel_rfl) (by kernel_rfl) (by kernel_rfl) (fun _ _ _ h => h) (Or.inl ⟨by rfl, fun w0 hSw => ?_⟩) hH0 ?_
  · (clear hSw; go_simp)
  simp only [Act.put, List.setIfInBounds_toArray, List.set_cons_zero, List.set_cons_succ]
  refine wpAnyH_take (i := 1) (oi := { dst := some 63, op := Op.move (Operand.tmp 12), type := 3, pos := "law.go:393", after := #[], guard := none }) (v := .int .i64 (i : Int)) rfl (by kernel_rfl) (by kernel_rfl) (by kernel_rfl) (fun _ _ _ h => h) (Or.inl ⟨by rfl, fun w0 hSw => ?_⟩) hH0 ?_
  · (clear hSw; go_simp)
  simp only [Act.put, List.setIfInBounds_toArray, List.set_cons_zero, List.set_cons_succ]
  refine wpAnyH_take (i := 4) (oi := { dst := some 66, op := Op.move (Operand.tmp 1), type := 24, pos := "law.go:393", after := #[], guard := none }) (v := .slice (some ⟨bt, ot, none⟩) N ct) rfl (by kernel_rfl) (by kernel_rfl) (by kernel_rfl) (fun _ _ _ h => h) (Or.inl ⟨by rfl, fun w0 hSw => ?_⟩) hH0 ?_
  · (clear hSw; go_simp)
  simp only [Act.put, List.setIfInBounds_toArray, List.set_cons_zero, List.set_cons_succ]
  refine wpAnyH_take (i := 5) (oi := { dst := some 67, op := Op.move (Operand.tmp 12), type := 3, pos := "law.go:393", after := #[], guard := none }) (v := .int .i64 (i : Int)) rfl (by kernel_rfl) (by kernel_rfl) (by kernel_rfl) (fun _ _ _ h => h) (Or.inl ⟨by rfl, fun w0 hSw => ?_⟩) hH0 ?_
  · (clear hSw; go_simp)
  simp only [Act.put, List.setIfInBounds_toArray, List.set_cons_zero, List.set_cons_succ]
  refine wpAnyH_take (i := 2) (oi := { dst := some 64, op := Op.indexAddr 24 (Operand.tmp 62) (Operand.tmp 63), type := 0, pos := "law.go:393", after := #[{ on := 0, ground := Ground.data }, { on := 1, ground := Ground.data }], guard := none }) (v := .pointer (some ⟨bo, oo + i * 18, none⟩)) rfl (by kernel_rfl) (by kernel_rfl) (by kernel_rfl) (fun _ _ _ h => h) (Or.inl ⟨by rfl, fun w0 hSw => ?_⟩) hH0 ?_
  · (clear hSw; go_simp)
  simp only [Act.put, List.setIfInBounds_toArray, List.set_cons_zero, List.set_cons_succ]
  refine wpAnyH_take (i := 6) (oi := { dst := some 68, op := Op.indexAddr 24 (Operand.tmp 66) (Operand.tmp 67), type := 0, pos := "law.go:393", after := #[{ on := 4, ground := Ground.data }, { on := 5, ground := Ground.data }], guard := none }) (v := .pointer (some ⟨bt, ot + i * 18, none⟩)) rfl (by kernel_rfl) (by kernel_rfl) (by kernel_rfl) (fun _ _ _ h => h) (Or.inl ⟨by rfl, fun w0 hSw => ?_⟩) hH0 ?_
  · (clear hSw; go_simp)
  simp only [Act.put, List.setIfInBounds_toArray, List.set_cons_zero, List.set_cons_succ]
  refine wpAnyH_take (i := 3) (oi := { dst := some 65, op := Op.load 31 (Operand.tmp 64), type := 31, pos := "law.go:393", after := #[{ on := 2, ground := Ground.data }], guard := none }) (v := .agg (D1).toArray) rfl (by kernel_rfl) (by kernel_rfl) (by kernel_rfl) (fun _ _ _ h => h) (yieldsIf_load_mid (by rfl) 31 _ rfl (bo) (oo + i * 18) rfl (D1) _ (fun w0 hSw => range_keepO RG1.out hSw) U31.out rfl I1.out) hH0 ?_
  simp only [Act.put, List.setIfInBounds_toArray, List.set_cons_zero, List.set_cons_succ]
  refine wpAnyH_take (i := 7) (oi := { dst := some 69, op := Op.load 31 (Operand.tmp 68), type := 31, pos := "law.go:393", after := #[{ on := 6, ground := Ground.data }], guard := none }) (v := .agg (D2).toArray) rfl (by kernel_rfl) (by kernel_rfl) (by kernel_rfl) (fun _ _ _ h => h) (yieldsIf_load_mid (by rfl) 31 _ rfl (bt) (ot + i * 18) rfl (D2) _ (fun w0 hSw => range_keepO RG2.out hSw) U31.out rfl I2.out) hH0 ?_
  simp only [Act.put, List.setIfInBounds_toArray, List.set_cons_zero, List.set_cons_succ]
  refine wpAnyH_ready (rs := [8]) (by kernel_rfl) (by simp) ?_
  refine AllReadyH.cons (o := { dst := some 70, op := Op.call { callee := Callee.value (Operand.func 8), args := #[Operand.tmp 65, Operand.tmp 69], argTypes := #[31, 31] }, type := 4, pos := "law.go:393", after := #[{ on := 3, ground := Ground.data }, { on := 7, ground := Ground.data }], guard := none }) rfl (fun K hK => ?_) AllReadyH.nil
  have HH := hidden hH0
  clear hH0
  go_simp
  refine (C8.out _ HH.out).mono ?_
  rintro e wn1 ⟨rfl, hb⟩
  have SN := hidden (bl_trans HH.out hb)
  clear HH C8 hb
  go_wp2_with fail
  refine hK.out _ _ SN.out (fun hH1 => ?_)
  clear hK K SN
  refine wpAnyH_take (i := 9) (oi := { dst := some 71, op := Op.unOp UnOp.not 4 (Operand.tmp 70), type := 4, pos := "law.go:393", after := #[{ on := 8, ground := Ground.data }], guard := none }) (v := .bool false) rfl (by kernel_rfl) (by kernel_rfl) (by kernel_rfl) (fun _ _ _ h => h) (Or.inl ⟨by rfl, fun w0 hSw => ?_⟩) hH1 ?_
  · (clear hSw; go_simp)
  simp only [Act.put, List.setIfInBounds_toArray, List.set_cons_zero, List.set_cons_succ]
  have HH := hidden hH1
  have FQ := hidden (HQ.out _ HH.out)
  refine wpAnyH_done (by kernel_rfl) ?_ _
  refine NoPanic.normal ?_
  exact FQ.out
def lw23o : Array Oper := #[{ dst := some 162, op := Op.move (Operand.tmp 5), type := 24, pos := "law.go:405", after := #[], guard := none },
  { dst := some 163, op := Op.move (Operand.tmp 15), type := 3, pos := "law.go:405", after := #[], guard := none },
  { dst := some 164, op := Op.indexAddr 24 (Operand.tmp 162) (Operand.tmp 163), type := 0, pos := "law.go:405", after := #[{ on := 0, ground := Ground.data }, { on := 1, ground := Ground.data }], guard := none },
  { dst := some 165, op := Op.load 31 (Operand.tmp 164), type := 31, pos := "law.go:405", after := #[{ on := 2, ground := Ground.data }], guard := none },
  { dst := some 166, op := Op.move (Operand.tmp 1), type := 24, pos := "law.go:405", after := #[], guard := none },
  { dst := some 167, op := Op.move (Operand.tmp 15), type := 3, pos := "law.go:405", after := #[], guard := none },
  { dst := some 168, op := Op.indexAddr 24 (Operand.tmp 166) (Operand.tmp 167), type := 0, pos := "law.go:405", after := #[{ on := 4, ground := Ground.data }, { on := 5, ground := Ground.data }], guard := none },
  { dst := some 169, op := Op.load 31 (Operand.tmp 168), type := 31, pos := "law.go:405", after := #[{ on := 6, ground := Ground.data }], guard := none },
  { dst := some 170, op := Op.call { callee := Callee.value (Operand.func 8), args := #[Operand.tmp 165, Operand.tmp 169], argTypes := #[31, 31] }, type := 4, pos := "law.go:405", after := #[{ on := 3, ground := Ground.data }, { on := 7, ground := Ground.data }], guard := none },
  { dst := some 171, op := Op.unOp UnOp.not 4 (Operand.tmp 170), type := 4, pos := "law.go:405", after := #[{ on := 8, ground := Ground.data }], guard := none }]
set_option maxRecDepth 100000 in
set_option maxHeartbeats 16000000 in
theorem lw23 (Q : Exit → Act → World → Prop) (bo oo co bt ot ct N i : Nat) (D1 D2 : List Value) (u0 u2 u3 u4 u6 u7 u8 u9 u10 u11 u12 u13 u14 u16 u17 u18 u19 u20 u21 u22 u23 u24 u25 u26 u27 u28 u29 u30 u31 u32 u33 u34 u35 u36 u37 u38 u39 u40 u41 u42 u43 u44 u45 u46 u47 u48 u49 u50 u51 u52 u53 u54 u55 u56 u57 u58 u59 u60 u61 u62 u63 u64 u65 u66 u67 u68 u69 u70 u71 u72 u73 u74 u75 u76 u77 u78 u79 u80 u81 u82 u83 u84 u85 u86 u87 u88 u89 u90 u91 u92 u93 u94 u95 u96 u97 u98 u99 u100 u101 u102 u103 u104 u105 u106 u107 u108 u109 u110 u111 u112 u113 u114 u115 u116 u117 u118 u119 u120 u121 u122 u123 u124 u125 u126 u127 u128 u129 u130 u131 u132 u133 u134 u135 u136 u137 u138 u139 u140 u141 u142 u143 u144 u145 u146 u147 u148 u149 u150 u151 u152 u153 u154 u155 u156 u157 u158 u159 u160 u161 u162 u163 u164 u165 u166 u167 u168 u169 u170 u171 u172 u173 u174 u175 u176 u177 u178 u179 u180 u181 u182 u183 u184 u185 u186 u187 u188 u189 u190 u191 u192 u193 u194 u195 u196 u197 u198 u199 u200 u201 u202 u203 u204 u205 u206 u207 u208 u209 u210 u211 u212 u213 u214 u215 u216 u217 u218 u219 u220 u221 u222 u223 u224 u225 u226 u227 u228 u229 u230 u231 u232 u233 u234 u235 u236 u237 u238 u239 u240 u241 u242 u243 u244 u245 u246 u247 u248 u249 u250 u251 : Value) (W : World)
    (ii0 : (0 : Int) ≤ (i : Int)) (ii1 : (i : Int) < (N : Int)) (r1 : W.rangeAt bo (oo + i * 18) D1) (r2 : W.rangeAt bt (ot + i * 18) D2) (l1 : D1.length = 18) (l2 : D2.length = 18)
    (C8 : Hid (∀ x, Below W.heap.size W x → Calls Tryd.prog 8 #[.agg D1.toArray, .agg D2.toArray] x fun e w' => e = .returned (.bool true) ∧ Below x.heap.size x w'))
    (HQ : Hid (∀ wz, Below W.heap.size W wz → Q .normal ⟨#[u0, .slice (some ⟨bt, ot, none⟩) N ct, u2, u3, u4, .slice (some ⟨bo, oo, none⟩) N co, u6, u7, u8, u9, u10, u11, u12, u13, u14, .int .i64 (i : Int), u16, u17, u18, u19, u20, u21, u22, u23, u24, u25, u26, u27, u28, u29, u30, u31, u32, u33, u34, u35, u36, u37, u38, u39, u40, u41, u42, u43, u44, u45, u46, u47, u48, u49, u50, u51, u52, u53, u54, u55, u56, u57, u58, u59, u60, u61, u62, u63, u64, u65, u66, u67, u68, u69, u70, u71, u72, u73, u74, u75, u76, u77, u78, u79, u80, u81, u82, u83, u84, u85, u86, u87, u88, u89, u90, u91, u92, u93, u94, u95, u96, u97, u98, u99, u100, u101, u102, u103, u104, u105, u106, u107, u108, u109, u110, u111, u112, u113, u114, u115, u116, u117, u118, u119, u120, u121, u122, u123, u124, u125, u126, u127, u128, u129, u130, u131, u132, u133, u134, u135, u136, u137, u138, u139, u140, u141, u142, u143, u144, u145, u146, u147, u148, u149, u150, u151, u152, u153, u154, u155, u156, u157, u158, u159, u160, u161, .slice (some ⟨bo, oo, none⟩) N co, .int .i64 (i : Int), .pointer (some ⟨bo, oo + i * 18, none⟩), .agg (D1).toArray, .slice (some ⟨bt, ot, none⟩) N ct, .int .i64 (i : Int), .pointer (some ⟨bt, ot + i * 18, none⟩), .agg (D2).toArray, .bool true, .bool false, u172, u173, u174, u175, u176, u177, u178, u179, u180, u181, u182, u183, u184, u185, u186, u187, u188, u189, u190, u191, u192, u193, u194, u195, u196, u197, u198, u199, u200, u201, u202, u203, u204, u205, u206, u207, u208, u209, u210, u211, u212, u213, u214, u215, u216, u217, u218, u219, u220, u221, u222, u223, u224, u225, u226, u227, u228, u229, u230, u231, u232, u233, u234, u235, u236, u237, u238, u239, u240, u241, u242, u243, u244, u245, u246, u247, u248, u249, u250, u251], []⟩ wz)) : (Code.region 23 lw23o true).wp Tryd.prog Q ⟨#[u0, .slice (some ⟨bt, ot, none⟩) N ct, u2, u3, u4, .slice (some ⟨bo, oo, none⟩) N co, u6, u7, u8, u9, u10, u11, u12, u13, u14, .int .i64 (i : Int), u16, u17, u18, u19, u20, u21, u22, u23, u24, u25, u26, u27, u28, u29, u30, u31, u32, u33, u34, u35, u36, u37, u38, u39, u40, u41, u42, u43, u44, u45, u46, u47, u48, u49, u50, u51, u52, u53, u54, u55, u56, u57, u58, u59, u60, u61, u62, u63, u64, u65, u66, u67, u68, u69, u70, u71, u72, u73, u74, u75, u76, u77, u78, u79, u80, u81, u82, u83, u84, u85, u86, u87, u88, u89, u90, u91, u92, u93, u94, u95, u96, u97, u98, u99, u100, u101, u102, u103, u104, u105, u106, u107, u108, u109, u110, u111, u112, u113, u114, u115, u116, u117, u118, u119, u120, u121, u122, u123, u124, u125, u126, u127, u128, u129, u130, u131, u132, u133, u134, u135, u136, u137, u138, u139, u140, u141, u142, u143, u144, u145, u146, u147, u148, u149, u150, u151, u152, u153, u154, u155, u156, u157, u158, u159, u160, u161, u162, u163, u164, u165, u166, u167, u168, u169, u170, u171, u172, u173, u174, u175, u176, u177, u178, u179, u180, u181, u182, u183, u184, u185, u186, u187, u188, u189, u190, u191, u192, u193, u194, u195, u196, u197, u198, u199, u200, u201, u202, u203, u204, u205, u206, u207, u208, u209, u210, u211, u212, u213, u214, u215, u216, u217, u218, u219, u220, u221, u222, u223, u224, u225, u226, u227, u228, u229, u230, u231, u232, u233, u234, u235, u236, u237, u238, u239, u240, u241, u242, u243, u244, u245, u246, u247, u248, u249, u250, u251], []⟩ W := by
  have RG1 := hidden r1
  have RG2 := hidden r2
  have U31 : Hid (Tryd.prog.underlying 31 = some _) := hidden Tryd.underlying31
  have I1 : Hid ((Tryd.prog.info? 31).map (·.size) = some D1.length) := hidden (by rw [l1]; exact ptinfo)
  have I2 : Hid ((Tryd.prog.info? 31).map (·.size) = some D2.length) := hidden (by rw [l2]; exact ptinfo)
  clear r1 r2 l1 l2
  unfold lw23o
  refine wp_region_noPanic ?_
  refine wp_region_held_drew (S := fun x => Below W.heap.size W x) (by kernel_rfl) (bl_drew W) (fun hH0 => ?_)
  refine wpAnyH_take (i := 0) (oi := { dst := some 162, op := Op.move (Operand.tmp 5), type := 24, pos := "law.go:405", after := #[], guard := none }) (v := .slice (some ⟨bo, oo, none⟩) N co) rfl (by kernel_rfl) (by kernel_rfl) (by kernel_rfl) (fun _ _ _ h => h) (Or.inl ⟨by rfl, fun w0 hSw => ?_⟩) hH0 ?_
  · (clear hSw; go_simp)
  simp only [Act.put, List.setIfInBounds_toArray, List.set_cons_zero, List.set_cons_succ]
  refine wpAnyH_take (i := 1) (oi := { dst := some 163, op := Op.move (Operand.tmp 15), type := 3, pos := "law.go:405", after := #[], guard := none }) (v := .int .i64 (i : Int)) rfl (by kernel_rfl) (by kernel_rfl) (by kernel_rfl) (fun _ _ _ h => h) (Or.inl ⟨by rfl, fun w0 hSw => ?_⟩) hH0 ?_
  · (clear hSw; go_simp)
  simp only [Act.put, List.setIfInBounds_toArray, List.set_cons_zero, List.set_cons_succ]
  refine wpAnyH_take (i := 4) (oi := { dst := some 166, op := Op.move (Operand.tmp 1), type := 24, pos := "law.go:405", after := #[], guard := none }) (v := .slice (some ⟨bt, ot, none⟩) N ct) rfl (by kernel_rfl) (by kernel_rfl) (by kernel_rfl) (fun _ _ _ h => h) (Or.inl ⟨by rfl, fun w0 hSw => ?_⟩) hH0 ?_
  · (clear hSw; go_simp)
  simp only [Act.put, List.setIfInBounds_toArray, List.set_cons_zero, List.set_cons_succ]
  refine wpAnyH_take (i := 5) (oi := { dst := some 167, op := Op.move (Operand.tmp 15), type := 3, pos := "law.go:405", after := #[], guard := none }) (v := .int .i64 (i : Int)) rfl (by kernel_rfl) (by kernel_rfl) (by kernel_rfl) (fun _ _ _ h => h) (Or.inl ⟨by rfl, fun w0 hSw => ?_⟩) hH0 ?_
  · (clear hSw; go_simp)
  simp only [Act.put, List.setIfInBounds_toArray, List.set_cons_zero, List.set_cons_succ]
  refine wpAnyH_take (i := 2) (oi := { dst := some 164, op := Op.indexAddr 24 (Operand.tmp 162) (Operand.tmp 163), type := 0, pos := "law.go:405", after := #[{ on := 0, ground := Ground.data }, { on := 1, ground := Ground.data }], guard := none }) (v := .pointer (some ⟨bo, oo + i * 18, none⟩)) rfl (by kernel_rfl) (by kernel_rfl) (by kernel_rfl) (fun _ _ _ h => h) (Or.inl ⟨by rfl, fun w0 hSw => ?_⟩) hH0 ?_
  · (clear hSw; go_simp)
  simp only [Act.put, List.setIfInBounds_toArray, List.set_cons_zero, List.set_cons_succ]
  refine wpAnyH_take (i := 6) (oi := { dst := some 168, op := Op.indexAddr 24 (Operand.tmp 166) (Operand.tmp 167), type := 0, pos := "law.go:405", after := #[{ on := 4, ground := Ground.data }, { on := 5, ground := Ground.data }], guard := none }) (v := .pointer (some ⟨bt, ot + i * 18, none⟩)) rfl (by kernel_rfl) (by kernel_rfl) (by kernel_rfl) (fun _ _ _ h => h) (Or.inl ⟨by rfl, fun w0 hSw => ?_⟩) hH0 ?_
  · (clear hSw; go_simp)
  simp only [Act.put, List.setIfInBounds_toArray, List.set_cons_zero, List.set_cons_succ]
  refine wpAnyH_take (i := 3) (oi := { dst := some 165, op := Op.load 31 (Operand.tmp 164), type := 31, pos := "law.go:405", after := #[{ on := 2, ground := Ground.data }], guard := none }) (v := .agg (D1).toArray) rfl (by kernel_rfl) (by kernel_rfl) (by kernel_rfl) (fun _ _ _ h => h) (yieldsIf_load_mid (by rfl) 31 _ rfl (bo) (oo + i * 18) rfl (D1) _ (fun w0 hSw => range_keepO RG1.out hSw) U31.out rfl I1.out) hH0 ?_
  simp only [Act.put, List.setIfInBounds_toArray, List.set_cons_zero, List.set_cons_succ]
  refine wpAnyH_take (i := 7) (oi := { dst := some 169, op := Op.load 31 (Operand.tmp 168), type := 31, pos := "law.go:405", after := #[{ on := 6, ground := Ground.data }], guard := none }) (v := .agg (D2).toArray) rfl (by kernel_rfl) (by kernel_rfl) (by kernel_rfl) (fun _ _ _ h => h) (yieldsIf_load_mid (by rfl) 31 _ rfl (bt) (ot + i * 18) rfl (D2) _ (fun w0 hSw => range_keepO RG2.out hSw) U31.out rfl I2.out) hH0 ?_
  simp only [Act.put, List.setIfInBounds_toArray, List.set_cons_zero, List.set_cons_succ]
  refine wpAnyH_ready (rs := [8]) (by kernel_rfl) (by simp) ?_
  refine AllReadyH.cons (o := { dst := some 170, op := Op.call { callee := Callee.value (Operand.func 8), args := #[Operand.tmp 165, Operand.tmp 169], argTypes := #[31, 31] }, type := 4, pos := "law.go:405", after := #[{ on := 3, ground := Ground.data }, { on := 7, ground := Ground.data }], guard := none }) rfl (fun K hK => ?_) AllReadyH.nil
  have HH := hidden hH0
  clear hH0
  go_simp
  refine (C8.out _ HH.out).mono ?_
  rintro e wn1 ⟨rfl, hb⟩
  have SN := hidden (bl_trans HH.out hb)
  clear HH C8 hb
  go_wp2_with fail
  refine hK.out _ _ SN.out (fun hH1 => ?_)
  clear hK K SN
  refine wpAnyH_take (i := 9) (oi := { dst := some 171, op := Op.unOp UnOp.not 4 (Operand.tmp 170), type := 4, pos := "law.go:405", after := #[{ on := 8, ground := Ground.data }], guard := none }) (v := .bool false) rfl (by kernel_rfl) (by kernel_rfl) (by kernel_rfl) (fun _ _ _ h => h) (Or.inl ⟨by rfl, fun w0 hSw => ?_⟩) hH1 ?_
  · (clear hSw; go_simp)
  simp only [Act.put, List.setIfInBounds_toArray, List.set_cons_zero, List.set_cons_succ]
  have HH := hidden hH1
  have FQ := hidden (HQ.out _ HH.out)
  refine wpAnyH_done (by kernel_rfl) ?_ _
  refine NoPanic.normal ?_
  exact FQ.out
theorem there_keepO {w w' : World} {b o n : Nat} (h : w.there b o n) (hb : Below w.heap.size w w') : w'.there b o n := fun j hj => by
  obtain ⟨h1, h2⟩ := h j hj
  obtain ⟨u, hu⟩ := Option.isSome_iff_exists.1 h1
  have hl := World.block_lt_of_cell? w _ hu
  exact ⟨by rw [hb.cell (p := ⟨b, o + j, none⟩) hl]; exact h1, by rw [hb.frozen (p := ⟨b, o + j, none⟩) hl]; exact h2⟩
def lw31o : Array Oper := #[{ dst := some 188, op := Op.move (Operand.tmp 5), type := 24, pos := "law.go:411", after := #[], guard := none },
  { dst := some 189, op := Op.move (Operand.tmp 16), type := 3, pos := "law.go:411", after := #[], guard := none },
  { dst := some 190, op := Op.indexAddr 24 (Operand.tmp 188) (Operand.tmp 189), type := 0, pos := "law.go:411", after := #[{ on := 0, ground := Ground.data }, { on := 1, ground := Ground.data }], guard := none },
  { dst := some 191, op := Op.fieldAddr 31 (Operand.tmp 190) 4, type := 0, pos := "law.go:411", after := #[{ on := 2, ground := Ground.data }], guard := none },
  { dst := some 192, op := Op.load 29 (Operand.tmp 191), type := 29, pos := "law.go:411", after := #[{ on := 3, ground := Ground.data }], guard := none },
  { dst := some 193, op := Op.move (Operand.tmp 17), type := 3, pos := "law.go:411", after := #[], guard := none },
  { dst := some 194, op := Op.move (Operand.tmp 5), type := 24, pos := "law.go:411", after := #[], guard := none },
  { dst := some 195, op := Op.move (Operand.tmp 16), type := 3, pos := "law.go:411", after := #[], guard := none },
  { dst := some 196, op := Op.indexAddr 24 (Operand.tmp 194) (Operand.tmp 195), type := 0, pos := "law.go:411", after := #[{ on := 6, ground := Ground.data }, { on := 7, ground := Ground.data }], guard := none },
  { dst := some 197, op := Op.fieldAddr 31 (Operand.tmp 196) 4, type := 0, pos := "law.go:411", after := #[{ on := 8, ground := Ground.data }], guard := none },
  { dst := some 198, op := Op.load 29 (Operand.tmp 197), type := 29, pos := "law.go:411", after := #[{ on := 9, ground := Ground.data }], guard := none },
  { dst := some 199, op := Op.move (Operand.tmp 17), type := 3, pos := "law.go:411", after := #[], guard := none },
  { dst := some 200, op := Op.indexAddr 29 (Operand.tmp 198) (Operand.tmp 199), type := 0, pos := "law.go:411", after := #[{ on := 10, ground := Ground.data }, { on := 11, ground := Ground.data }], guard := none },
  { dst := some 201, op := Op.load 28 (Operand.tmp 200), type := 28, pos := "law.go:411", after := #[{ on := 12, ground := Ground.data }], guard := none },
  { dst := some 202, op := Op.move (Operand.tmp 17), type := 3, pos := "law.go:411", after := #[], guard := none },
  { dst := some 203, op := Op.convert 3 26 (Operand.tmp 202), type := 26, pos := "law.go:411", after := #[{ on := 14, ground := Ground.data }], guard := none },
  { dst := some 204, op := Op.binOp BinOp.add 26 (Operand.tmp 203) (Operand.const (Value.int IntKind.u64 1)) 26, type := 26, pos := "law.go:411", after := #[{ on := 15, ground := Ground.data }], guard := none },
  { dst := some 205, op := Op.call { callee := Callee.value (Operand.func 13), args := #[Operand.tmp 204], argTypes := #[26] }, type := 28, pos := "law.go:411", after := #[{ on := 16, ground := Ground.data }], guard := none },
  { dst := some 206, op := Op.call { callee := Callee.value (Operand.func 12), args := #[Operand.tmp 201, Operand.tmp 205], argTypes := #[28, 28] }, type := 28, pos := "law.go:411", after := #[{ on := 13, ground := Ground.data }, { on := 17, ground := Ground.data }, { on := 17, ground := Ground.chain }], guard := none },
  { dst := some 207, op := Op.indexAddr 29 (Operand.tmp 192) (Operand.tmp 193), type := 0, pos := "law.go:411", after := #[{ on := 4, ground := Ground.data }, { on := 5, ground := Ground.data }, { on := 0, ground := Ground.phase }, { on := 1, ground := Ground.phase }, { on := 2, ground := Ground.phase }, { on := 3, ground := Ground.phase }, { on := 4, ground := Ground.phase }, { on := 5, ground := Ground.phase }, { on := 6, ground := Ground.phase }, { on := 7, ground := Ground.phase }, { on := 8, ground := Ground.phase }, { on := 9, ground := Ground.phase }, { on := 10, ground := Ground.phase }, { on := 11, ground := Ground.phase }, { on := 12, ground := Ground.phase }, { on := 13, ground := Ground.phase }, { on := 14, ground := Ground.phase }, { on := 15, ground := Ground.phase }, { on := 16, ground := Ground.phase }, { on := 17, ground := Ground.phase }, { on := 18, ground := Ground.phase }], guard := none },
  { dst := none, op := Op.store 28 (Operand.tmp 207) (Operand.tmp 206), type := 0, pos := "law.go:411", after := #[{ on := 19, ground := Ground.data }, { on := 18, ground := Ground.data }, { on := 18, ground := Ground.chain }, { on := 0, ground := Ground.phase }, { on := 1, ground := Ground.phase }, { on := 2, ground := Ground.phase }, { on := 3, ground := Ground.phase }, { on := 4, ground := Ground.phase }, { on := 5, ground := Ground.phase }, { on := 6, ground := Ground.phase }, { on := 7, ground := Ground.phase }, { on := 8, ground := Ground.phase }, { on := 9, ground := Ground.phase }, { on := 10, ground := Ground.phase }, { on := 11, ground := Ground.phase }, { on := 12, ground := Ground.phase }, { on := 13, ground := Ground.phase }, { on := 14, ground := Ground.phase }, { on := 15, ground := Ground.phase }, { on := 16, ground := Ground.phase }, { on := 17, ground := Ground.phase }, { on := 18, ground := Ground.phase }], guard := none }]
set_option maxRecDepth 100000 in
set_option maxHeartbeats 16000000 in
theorem lw31 (Q : Exit → Act → World → Prop) (bo oo co bi n c N i k : Nat) (z J r : E4) (u0 u1 u2 u3 u4 u6 u7 u8 u9 u10 u11 u12 u13 u14 u15 u18 u19 u20 u21 u22 u23 u24 u25 u26 u27 u28 u29 u30 u31 u32 u33 u34 u35 u36 u37 u38 u39 u40 u41 u42 u43 u44 u45 u46 u47 u48 u49 u50 u51 u52 u53 u54 u55 u56 u57 u58 u59 u60 u61 u62 u63 u64 u65 u66 u67 u68 u69 u70 u71 u72 u73 u74 u75 u76 u77 u78 u79 u80 u81 u82 u83 u84 u85 u86 u87 u88 u89 u90 u91 u92 u93 u94 u95 u96 u97 u98 u99 u100 u101 u102 u103 u104 u105 u106 u107 u108 u109 u110 u111 u112 u113 u114 u115 u116 u117 u118 u119 u120 u121 u122 u123 u124 u125 u126 u127 u128 u129 u130 u131 u132 u133 u134 u135 u136 u137 u138 u139 u140 u141 u142 u143 u144 u145 u146 u147 u148 u149 u150 u151 u152 u153 u154 u155 u156 u157 u158 u159 u160 u161 u162 u163 u164 u165 u166 u167 u168 u169 u170 u171 u172 u173 u174 u175 u176 u177 u178 u179 u180 u181 u182 u183 u184 u185 u186 u187 u188 u189 u190 u191 u192 u193 u194 u195 u196 u197 u198 u199 u200 u201 u202 u203 u204 u205 u206 u207 u208 u209 u210 u211 u212 u213 u214 u215 u216 u217 u218 u219 u220 u221 u222 u223 u224 u225 u226 u227 u228 u229 u230 u231 u232 u233 u234 u235 u236 u237 u238 u239 u240 u241 u242 u243 u244 u245 u246 u247 u248 u249 u250 u251 : Value) (W : World)
    (ii0 : (0 : Int) ≤ (i : Int)) (ii1 : (i : Int) < (N : Int)) (kk0 : (0 : Int) ≤ (k : Int)) (kk1 : (k : Int) < (n : Int)) (wk : IntKind.u64.wrap (k : Int) = (k : Int)) (wk1 : IntKind.u64.wrap ((k : Int) + 1) = (k : Int) + 1) (cS0 : W.cell? ⟨bo, oo + i * 18 + 16, none⟩ = some (.slice (some ⟨bi, 0, none⟩) n c)) (neO : bo ≠ bi)
    (zr : W.rangeAt bi (k * 4) [.int .u64 z.x0, .int .u64 z.x1, .int .u64 z.x2, .int .u64 z.x3]) (th : W.there bi (k * 4) 4)
    (CI : Hid (∀ x, Calls Tryd.prog 13 #[.int .u64 ((k : Int) + 1)] x fun e w' => e = .returned (.agg #[.int .u64 J.x0, .int .u64 J.x1, .int .u64 J.x2, .int .u64 J.x3]) ∧ Below x.heap.size x w'))
    (CA : Hid (∀ x, W.grownBy x (some bi) → Calls Tryd.prog 12 #[.agg #[.int .u64 z.x0, .int .u64 z.x1, .int .u64 z.x2, .int .u64 z.x3], .agg #[.int .u64 J.x0, .int .u64 J.x1, .int .u64 J.x2, .int .u64 J.x3]] x fun e w' => e = .returned (.agg #[.int .u64 r.x0, .int .u64 r.x1, .int .u64 r.x2, .int .u64 r.x3]) ∧ Below x.heap.size x w'))
    (HQ : Hid (∀ wz, (∃ wy, Below W.heap.size W wy ∧ wz = wy.setCells bi (k * 4) [.int .u64 r.x0, .int .u64 r.x1, .int .u64 r.x2, .int .u64 r.x3]) → Q .normal ⟨#[u0, u1, u2, u3, u4, .slice (some ⟨bo, oo, none⟩) N co, u6, u7, u8, u9, u10, u11, u12, u13, u14, u15, .int .i64 (i : Int), .int .i64 (k : Int), u18, u19, u20, u21, u22, u23, u24, u25, u26, u27, u28, u29, u30, u31, u32, u33, u34, u35, u36, u37, u38, u39, u40, u41, u42, u43, u44, u45, u46, u47, u48, u49, u50, u51, u52, u53, u54, u55, u56, u57, u58, u59, u60, u61, u62, u63, u64, u65, u66, u67, u68, u69, u70, u71, u72, u73, u74, u75, u76, u77, u78, u79, u80, u81, u82, u83, u84, u85, u86, u87, u88, u89, u90, u91, u92, u93, u94, u95, u96, u97, u98, u99, u100, u101, u102, u103, u104, u105, u106, u107, u108, u109, u110, u111, u112, u113, u114, u115, u116, u117, u118, u119, u120, u121, u122, u123, u124, u125, u126, u127, u128, u129, u130, u131, u132, u133, u134, u135, u136, u137, u138, u139, u140, u141, u142, u143, u144, u145, u146, u147, u148, u149, u150, u151, u152, u153, u154, u155, u156, u157, u158, u159, u160, u161, u162, u163, u164, u165, u166, u167, u168, u169, u170, u171, u172, u173, u174, u175, u176, u177, u178, u179, u180, u181, u182, u183, u184, u185, u186, u187, .slice (some ⟨bo, oo, none⟩) N co, .int .i64 (i : Int), .pointer (some ⟨bo, oo + i * 18, none⟩), .pointer (some ⟨bo, oo + i * 18 + 16, none⟩), .slice (some ⟨bi, 0, none⟩) n c, .int .i64 (k : Int), .slice (some ⟨bo, oo, none⟩) N co, .int .i64 (i : Int), .pointer (some ⟨bo, oo + i * 18, none⟩), .pointer (some ⟨bo, oo + i * 18 + 16, none⟩), .slice (some ⟨bi, 0, none⟩) n c, .int .i64 (k : Int), .pointer (some ⟨bi, k * 4, none⟩), .agg #[.int .u64 z.x0, .int .u64 z.x1, .int .u64 z.x2, .int .u64 z.x3], .int .i64 (k : Int), .int .u64 (k : Int), .int .u64 ((k : Int) + 1), .agg #[.int .u64 J.x0, .int .u64 J.x1, .int .u64 J.x2, .int .u64 J.x3], .agg #[.int .u64 r.x0, .int .u64 r.x1, .int .u64 r.x2, .int .u64 r.x3], .pointer (some ⟨bi, k * 4, none⟩), u208, u209, u210, u211, u212, u213, u214, u215, u216, u217, u218, u219, u220, u221, u222, u223, u224, u225, u226, u227, u228, u229, u230, u231, u232, u233, u234, u235, u236, u237, u238, u239, u240, u241, u242, u243, u244, u245, u246, u247, u248, u249, u250, u251], []⟩ wz)) : (Code.region 31 lw31o true).wp Tryd.prog Q ⟨#[u0, u1, u2, u3, u4, .slice (some ⟨bo, oo, none⟩) N co, u6, u7, u8, u9, u10, u11, u12, u13, u14, u15, .int .i64 (i : Int), .int .i64 (k : Int), u18, u19, u20, u21, u22, u23, u24, u25, u26, u27, u28, u29, u30, u31, u32, u33, u34, u35, u36, u37, u38, u39, u40, u41, u42, u43, u44, u45, u46, u47, u48, u49, u50, u51, u52, u53, u54, u55, u56, u57, u58, u59, u60, u61, u62, u63, u64, u65, u66, u67, u68, u69, u70, u71, u72, u73, u74, u75, u76, u77, u78, u79, u80, u81, u82, u83, u84, u85, u86, u87, u88, u89, u90, u91, u92, u93, u94, u95, u96, u97, u98, u99, u100, u101, u102, u103, u104, u105, u106, u107, u108, u109, u110, u111, u112, u113, u114, u115, u116, u117, u118, u119, u120, u121, u122, u123, u124, u125, u126, u127, u128, u129, u130, u131, u132, u133, u134, u135, u136, u137, u138, u139, u140, u141, u142, u143, u144, u145, u146, u147, u148, u149, u150, u151, u152, u153, u154, u155, u156, u157, u158, u159, u160, u161, u162, u163, u164, u165, u166, u167, u168, u169, u170, u171, u172, u173, u174, u175, u176, u177, u178, u179, u180, u181, u182, u183, u184, u185, u186, u187, u188, u189, u190, u191, u192, u193, u194, u195, u196, u197, u198, u199, u200, u201, u202, u203, u204, u205, u206, u207, u208, u209, u210, u211, u212, u213, u214, u215, u216, u217, u218, u219, u220, u221, u222, u223, u224, u225, u226, u227, u228, u229, u230, u231, u232, u233, u234, u235, u236, u237, u238, u239, u240, u241, u242, u243, u244, u245, u246, u247, u248, u249, u250, u251], []⟩ W := by
  have ZR := hidden (range_keepO zr (bl_drew W))
  have TH := hidden (there_keepO th (bl_drew W))
  have B0 := hidden (bl_drew W)
  have U28 : Hid (Tryd.prog.underlying 28 = some _) := hidden Tryd.underlying28
  clear zr th
  unfold lw31o
  refine wp_region_noPanic ?_
  refine wp_region_held_drew (S := fun x => W.grownBy x (some bi)) (by kernel_rfl) (gbI (bl_drew W) _) (fun hH0 => ?_)
  refine wpAnyH_take (i := 0) (oi := { dst := some 188, op := Op.move (Operand.tmp 5), type := 24, pos := "law.go:411", after := #[], guard := none }) (v := .slice (some ⟨bo, oo, none⟩) N co) rfl (by kernel_rfl) (by kernel_rfl) (by kernel_rfl) (fun _ _ _ h => h) (Or.inl ⟨by rfl, fun w0 hSw => ?_⟩) hH0 ?_
  · (clear hSw; go_simp)
  simp only [Act.put, List.setIfInBounds_toArray, List.set_cons_zero, List.set_cons_succ]
  refine wpAnyH_take (i := 1) (oi := { dst := some 189, op := Op.move (Operand.tmp 16), type := 3, pos := "law.go:411", after := #[], guard := none }) (v := .int .i64 (i : Int)) rfl (by kernel_rfl) (by kernel_rfl) (by kernel_rfl) (fun _ _ _ h => h) (Or.inl ⟨by rfl, fun w0 hSw => ?_⟩) hH0 ?_
  · (clear hSw; go_simp)
  simp only [Act.put, List.setIfInBounds_toArray, List.set_cons_zero, List.set_cons_succ]
  refine wpAnyH_take (i := 5) (oi := { dst := some 193, op := Op.move (Operand.tmp 17), type := 3, pos := "law.go:411", after := #[], guard := none }) (v := .int .i64 (k : Int)) rfl (by kernel_rfl) (by kernel_rfl) (by kernel_rfl) (fun _ _ _ h => h) (Or.inl ⟨by rfl, fun w0 hSw => ?_⟩) hH0 ?_
  · (clear hSw; go_simp)
  simp only [Act.put, List.setIfInBounds_toArray, List.set_cons_zero, List.set_cons_succ]
  refine wpAnyH_take (i := 6) (oi := { dst := some 194, op := Op.move (Operand.tmp 5), type := 24, pos := "law.go:411", after := #[], guard := none }) (v := .slice (some ⟨bo, oo, none⟩) N co) rfl (by kernel_rfl) (by kernel_rfl) (by kernel_rfl) (fun _ _ _ h => h) (Or.inl ⟨by rfl, fun w0 hSw => ?_⟩) hH0 ?_
  · (clear hSw; go_simp)
  simp only [Act.put, List.setIfInBounds_toArray, List.set_cons_zero, List.set_cons_succ]
  refine wpAnyH_take (i := 7) (oi := { dst := some 195, op := Op.move (Operand.tmp 16), type := 3, pos := "law.go:411", after := #[], guard := none }) (v := .int .i64 (i : Int)) rfl (by kernel_rfl) (by kernel_rfl) (by kernel_rfl) (fun _ _ _ h => h) (Or.inl ⟨by rfl, fun w0 hSw => ?_⟩) hH0 ?_
  · (clear hSw; go_simp)
  simp only [Act.put, List.setIfInBounds_toArray, List.set_cons_zero, List.set_cons_succ]
  refine wpAnyH_take (i := 11) (oi := { dst := some 199, op := Op.move (Operand.tmp 17), type := 3, pos := "law.go:411", after := #[], guard := none }) (v := .int .i64 (k : Int)) rfl (by kernel_rfl) (by kernel_rfl) (by kernel_rfl) (fun _ _ _ h => h) (Or.inl ⟨by rfl, fun w0 hSw => ?_⟩) hH0 ?_
  · (clear hSw; go_simp)
  simp only [Act.put, List.setIfInBounds_toArray, List.set_cons_zero, List.set_cons_succ]
  refine wpAnyH_take (i := 14) (oi := { dst := some 202, op := Op.move (Operand.tmp 17), type := 3, pos := "law.go:411", after := #[], guard := none }) (v := .int .i64 (k : Int)) rfl (by kernel_rfl) (by kernel_rfl) (by kernel_rfl) (fun _ _ _ h => h) (Or.inl ⟨by rfl, fun w0 hSw => ?_⟩) hH0 ?_
  · (clear hSw; go_simp)
  simp only [Act.put, List.setIfInBounds_toArray, List.set_cons_zero, List.set_cons_succ]
  refine wpAnyH_take (i := 2) (oi := { dst := some 190, op := Op.indexAddr 24 (Operand.tmp 188) (Operand.tmp 189), type := 0, pos := "law.go:411", after := #[{ on := 0, ground := Ground.data }, { on := 1, ground := Ground.data }], guard := none }) (v := .pointer (some ⟨bo, oo + i * 18, none⟩)) rfl (by kernel_rfl) (by kernel_rfl) (by kernel_rfl) (fun _ _ _ h => h) (Or.inl ⟨by rfl, fun w0 hSw => ?_⟩) hH0 ?_
  · (clear hSw; go_simp)
  simp only [Act.put, List.setIfInBounds_toArray, List.set_cons_zero, List.set_cons_succ]
  refine wpAnyH_take (i := 8) (oi := { dst := some 196, op := Op.indexAddr 24 (Operand.tmp 194) (Operand.tmp 195), type := 0, pos := "law.go:411", after := #[{ on := 6, ground := Ground.data }, { on := 7, ground := Ground.data }], guard := none }) (v := .pointer (some ⟨bo, oo + i * 18, none⟩)) rfl (by kernel_rfl) (by kernel_rfl) (by kernel_rfl) (fun _ _ _ h => h) (Or.inl ⟨by rfl, fun w0 hSw => ?_⟩) hH0 ?_
  · (clear hSw; go_simp)
  simp only [Act.put, List.setIfInBounds_toArray, List.set_cons_zero, List.set_cons_succ]
  refine wpAnyH_take (i := 15) (oi := { dst := some 203, op := Op.convert 3 26 (Operand.tmp 202), type := 26, pos := "law.go:411", after := #[{ on := 14, ground := Ground.data }], guard := none }) (v := .int .u64 (k : Int)) rfl (by kernel_rfl) (by kernel_rfl) (by kernel_rfl) (fun _ _ _ h => h) (Or.inl ⟨by rfl, fun w0 hSw => ?_⟩) hH0 ?_
  · (clear hSw; go_simp)
  simp only [Act.put, List.setIfInBounds_toArray, List.set_cons_zero, List.set_cons_succ]
  refine wpAnyH_take (i := 3) (oi := { dst := some 191, op := Op.fieldAddr 31 (Operand.tmp 190) 4, type := 0, pos := "law.go:411", after := #[{ on := 2, ground := Ground.data }], guard := none }) (v := .pointer (some ⟨bo, oo + i * 18 + 16, none⟩)) rfl (by kernel_rfl) (by kernel_rfl) (by kernel_rfl) (fun _ _ _ h => h) (Or.inl ⟨by rfl, fun w0 hSw => ?_⟩) hH0 ?_
  · (clear hSw; go_simp)
  simp only [Act.put, List.setIfInBounds_toArray, List.set_cons_zero, List.set_cons_succ]
  refine wpAnyH_take (i := 9) (oi := { dst := some 197, op := Op.fieldAddr 31 (Operand.tmp 196) 4, type := 0, pos := "law.go:411", after := #[{ on := 8, ground := Ground.data }], guard := none }) (v := .pointer (some ⟨bo, oo + i * 18 + 16, none⟩)) rfl (by kernel_rfl) (by kernel_rfl) (by kernel_rfl) (fun _ _ _ h => h) (Or.inl ⟨by rfl, fun w0 hSw => ?_⟩) hH0 ?_
  · (clear hSw; go_simp)
  simp only [Act.put, List.setIfInBounds_toArray, List.set_cons_zero, List.set_cons_succ]
  refine wpAnyH_take (i := 16) (oi := { dst := some 204, op := Op.binOp BinOp.add 26 (Operand.tmp 203) (Operand.const (Value.int IntKind.u64 1)) 26, type := 26, pos := "law.go:411", after := #[{ on := 15, ground := Ground.data }], guard := none }) (v := .int .u64 ((k : Int) + 1)) rfl (by kernel_rfl) (by kernel_rfl) (by kernel_rfl) (fun _ _ _ h => h) (Or.inl ⟨by rfl, fun w0 hSw => ?_⟩) hH0 ?_
  · (clear hSw; go_simp)
  simp only [Act.put, List.setIfInBounds_toArray, List.set_cons_zero, List.set_cons_succ]
  refine wpAnyH_take (i := 4) (oi := { dst := some 192, op := Op.load 29 (Operand.tmp 191), type := 29, pos := "law.go:411", after := #[{ on := 3, ground := Ground.data }], guard := none }) (v := .slice (some ⟨bi, 0, none⟩) n c) rfl (by kernel_rfl) (by kernel_rfl) (by kernel_rfl) (fun _ _ _ h => h) (Or.inl ⟨by rfl, fun w0 hSw => ?_⟩) hH0 ?_
  · (have hS : W.grownBy w0 (some bi) := hSw; have a0 := hS.cell cS0 (fun e => neO (Option.some.inj e)); clear hS hSw; go_simp)
  simp only [Act.put, List.setIfInBounds_toArray, List.set_cons_zero, List.set_cons_succ]
  refine wpAnyH_take (i := 10) (oi := { dst := some 198, op := Op.load 29 (Operand.tmp 197), type := 29, pos := "law.go:411", after := #[{ on := 9, ground := Ground.data }], guard := none }) (v := .slice (some ⟨bi, 0, none⟩) n c) rfl (by kernel_rfl) (by kernel_rfl) (by kernel_rfl) (fun _ _ _ h => h) (Or.inl ⟨by rfl, fun w0 hSw => ?_⟩) hH0 ?_
  · (have hS : W.grownBy w0 (some bi) := hSw; have a0 := hS.cell cS0 (fun e => neO (Option.some.inj e)); clear hS hSw; go_simp)
  simp only [Act.put, List.setIfInBounds_toArray, List.set_cons_zero, List.set_cons_succ]
  refine wpAnyH_take (i := 12) (oi := { dst := some 200, op := Op.indexAddr 29 (Operand.tmp 198) (Operand.tmp 199), type := 0, pos := "law.go:411", after := #[{ on := 10, ground := Ground.data }, { on := 11, ground := Ground.data }], guard := none }) (v := .pointer (some ⟨bi, k * 4, none⟩)) rfl (by kernel_rfl) (by kernel_rfl) (by kernel_rfl) (fun _ _ _ h => h) (Or.inl ⟨by rfl, fun w0 hSw => ?_⟩) hH0 ?_
  · (clear hSw; go_simp)
  simp only [Act.put, List.setIfInBounds_toArray, List.set_cons_zero, List.set_cons_succ]
  refine wpAnyH_ready (rs := [13, 17]) (by kernel_rfl) (by simp) ?_
  refine AllReadyH.cons (o := { dst := some 201, op := Op.load 28 (Operand.tmp 200), type := 28, pos := "law.go:411", after := #[{ on := 12, ground := Ground.data }], guard := none }) rfl (fun K hK => ?_) (AllReadyH.cons (o := { dst := some 205, op := Op.call { callee := Callee.value (Operand.func 13), args := #[Operand.tmp 204], argTypes := #[26] }, type := 28, pos := "law.go:411", after := #[{ on := 16, ground := Ground.data }], guard := none }) rfl (fun K hK => ?_) AllReadyH.nil)
  · have HH := hidden hH0
    clear hH0
    refine wp_load_mid 28 _ rfl bi (k * 4) (by rfl) [.int .u64 z.x0, .int .u64 z.x1, .int .u64 z.x2, .int .u64 z.x3] _ ZR.out U28.out rfl i4_s ?_
    simp only [Act.put, List.setIfInBounds_toArray, List.set_cons_zero, List.set_cons_succ]
    have SN := HH
    clear HH
    refine hK.out _ _ SN.out (fun hH1 => ?_)
    clear hK K SN
    refine wpAnyH_ready (rs := [17]) (by kernel_rfl) (by simp) ?_
    refine AllReadyH.cons (o := { dst := some 205, op := Op.call { callee := Callee.value (Operand.func 13), args := #[Operand.tmp 204], argTypes := #[26] }, type := 28, pos := "law.go:411", after := #[{ on := 16, ground := Ground.data }], guard := none }) rfl (fun K hK => ?_) AllReadyH.nil
    have HH := hidden hH1
    clear hH1
    go_simp
    refine (CI.out _).mono ?_
    rintro e wn2 ⟨rfl, hb⟩
    replace ZR := hidden (range_keepO ZR.out hb)
    replace TH := hidden (there_keepO TH.out hb)
    have SN := hidden (HH.out.trans (gbI hb _))
    replace B0 := hidden (bl_trans B0.out hb)
    clear HH CI hb
    go_wp2_with fail
    refine hK.out _ _ SN.out (fun hH2 => ?_)
    clear hK K SN
    refine wpAnyH_ready (rs := [18]) (by kernel_rfl) (by simp) ?_
    refine AllReadyH.cons (o := { dst := some 206, op := Op.call { callee := Callee.value (Operand.func 12), args := #[Operand.tmp 201, Operand.tmp 205], argTypes := #[28, 28] }, type := 28, pos := "law.go:411", after := #[{ on := 13, ground := Ground.data }, { on := 17, ground := Ground.data }, { on := 17, ground := Ground.chain }], guard := none }) rfl (fun K hK => ?_) AllReadyH.nil
    have HH := hidden hH2
    clear hH2
    go_simp
    refine (CA.out _ HH.out).mono ?_
    rintro e wn3 ⟨rfl, hb⟩
    replace ZR := hidden (range_keepO ZR.out hb)
    replace TH := hidden (there_keepO TH.out hb)
    have SN := hidden (HH.out.trans (gbI hb _))
    replace B0 := hidden (bl_trans B0.out hb)
    clear HH CA hb
    go_wp2_with fail
    refine hK.out _ _ SN.out (fun hH3 => ?_)
    clear hK K SN
    refine wpAnyH_take (i := 19) (oi := { dst := some 207, op := Op.indexAddr 29 (Operand.tmp 192) (Operand.tmp 193), type := 0, pos := "law.go:411", after := #[{ on := 4, ground := Ground.data }, { on := 5, ground := Ground.data }, { on := 0, ground := Ground.phase }, { on := 1, ground := Ground.phase }, { on := 2, ground := Ground.phase }, { on := 3, ground := Ground.phase }, { on := 4, ground := Ground.phase }, { on := 5, ground := Ground.phase }, { on := 6, ground := Ground.phase }, { on := 7, ground := Ground.phase }, { on := 8, ground := Ground.phase }, { on := 9, ground := Ground.phase }, { on := 10, ground := Ground.phase }, { on := 11, ground := Ground.phase }, { on := 12, ground := Ground.phase }, { on := 13, ground := Ground.phase }, { on := 14, ground := Ground.phase }, { on := 15, ground := Ground.phase }, { on := 16, ground := Ground.phase }, { on := 17, ground := Ground.phase }, { on := 18, ground := Ground.phase }], guard := none }) (v := .pointer (some ⟨bi, k * 4, none⟩)) rfl (by kernel_rfl) (by kernel_rfl) (by kernel_rfl) (fun _ _ _ h => h) (Or.inl ⟨by rfl, fun w0 hSw => ?_⟩) hH3 ?_
    · (clear hSw; go_simp)
    simp only [Act.put, List.setIfInBounds_toArray, List.set_cons_zero, List.set_cons_succ]
    refine wpAnyH_ready (rs := [20]) (by kernel_rfl) (by simp) ?_
    refine AllReadyH.cons (o := { dst := none, op := Op.store 28 (Operand.tmp 207) (Operand.tmp 206), type := 0, pos := "law.go:411", after := #[{ on := 19, ground := Ground.data }, { on := 18, ground := Ground.data }, { on := 18, ground := Ground.chain }, { on := 0, ground := Ground.phase }, { on := 1, ground := Ground.phase }, { on := 2, ground := Ground.phase }, { on := 3, ground := Ground.phase }, { on := 4, ground := Ground.phase }, { on := 5, ground := Ground.phase }, { on := 6, ground := Ground.phase }, { on := 7, ground := Ground.phase }, { on := 8, ground := Ground.phase }, { on := 9, ground := Ground.phase }, { on := 10, ground := Ground.phase }, { on := 11, ground := Ground.phase }, { on := 12, ground := Ground.phase }, { on := 13, ground := Ground.phase }, { on := 14, ground := Ground.phase }, { on := 15, ground := Ground.phase }, { on := 16, ground := Ground.phase }, { on := 17, ground := Ground.phase }, { on := 18, ground := Ground.phase }], guard := none }) rfl (fun K hK => ?_) AllReadyH.nil
    have HH := hidden hH3
    clear hH3
    refine wp_storeE 28 _ _ rfl bi (k * 4) ([.int .u64 r.x0, .int .u64 r.x1, .int .u64 r.x2, .int .u64 r.x3]) (by rfl) (by rfl) TH.out i4_s (one4 _) rfl (fun wn4 hw => ?_)
    have SN := hidden (HH.out.trans (gb_setCells bi [.int .u64 r.x0, .int .u64 r.x1, .int .u64 r.x2, .int .u64 r.x3] (k * 4) _))
    have FE := hidden ((⟨_, B0.out, hw⟩ : ∃ wy, Below W.heap.size W wy ∧ _ = wy.setCells bi (k * 4) [.int .u64 r.x0, .int .u64 r.x1, .int .u64 r.x2, .int .u64 r.x3]))
    rw [← hw] at SN
    clear HH hw
    refine hK.out _ _ SN.out (fun hH4 => ?_)
    clear hK K SN
    have HH := hidden hH4
    have FQ := hidden (HQ.out _ FE.out)
    refine wpAnyH_done (by kernel_rfl) ?_ _
    refine NoPanic.normal ?_
    exact FQ.out
  · have HH := hidden hH0
    clear hH0
    go_simp
    refine (CI.out _).mono ?_
    rintro e wn1 ⟨rfl, hb⟩
    replace ZR := hidden (range_keepO ZR.out hb)
    replace TH := hidden (there_keepO TH.out hb)
    have SN := hidden (HH.out.trans (gbI hb _))
    replace B0 := hidden (bl_trans B0.out hb)
    clear HH CI hb
    go_wp2_with fail
    refine hK.out _ _ SN.out (fun hH1 => ?_)
    clear hK K SN
    refine wpAnyH_ready (rs := [13]) (by kernel_rfl) (by simp) ?_
    refine AllReadyH.cons (o := { dst := some 201, op := Op.load 28 (Operand.tmp 200), type := 28, pos := "law.go:411", after := #[{ on := 12, ground := Ground.data }], guard := none }) rfl (fun K hK => ?_) AllReadyH.nil
    have HH := hidden hH1
    clear hH1
    refine wp_load_mid 28 _ rfl bi (k * 4) (by rfl) [.int .u64 z.x0, .int .u64 z.x1, .int .u64 z.x2, .int .u64 z.x3] _ ZR.out U28.out rfl i4_s ?_
    simp only [Act.put, List.setIfInBounds_toArray, List.set_cons_zero, List.set_cons_succ]
    have SN := HH
    clear HH
    refine hK.out _ _ SN.out (fun hH2 => ?_)
    clear hK K SN
    refine wpAnyH_ready (rs := [18]) (by kernel_rfl) (by simp) ?_
    refine AllReadyH.cons (o := { dst := some 206, op := Op.call { callee := Callee.value (Operand.func 12), args := #[Operand.tmp 201, Operand.tmp 205], argTypes := #[28, 28] }, type := 28, pos := "law.go:411", after := #[{ on := 13, ground := Ground.data }, { on := 17, ground := Ground.data }, { on := 17, ground := Ground.chain }], guard := none }) rfl (fun K hK => ?_) AllReadyH.nil
    have HH := hidden hH2
    clear hH2
    go_simp
    refine (CA.out _ HH.out).mono ?_
    rintro e wn3 ⟨rfl, hb⟩
    replace ZR := hidden (range_keepO ZR.out hb)
    replace TH := hidden (there_keepO TH.out hb)
    have SN := hidden (HH.out.trans (gbI hb _))
    replace B0 := hidden (bl_trans B0.out hb)
    clear HH CA hb
    go_wp2_with fail
    refine hK.out _ _ SN.out (fun hH3 => ?_)
    clear hK K SN
    refine wpAnyH_take (i := 19) (oi := { dst := some 207, op := Op.indexAddr 29 (Operand.tmp 192) (Operand.tmp 193), type := 0, pos := "law.go:411", after := #[{ on := 4, ground := Ground.data }, { on := 5, ground := Ground.data }, { on := 0, ground := Ground.phase }, { on := 1, ground := Ground.phase }, { on := 2, ground := Ground.phase }, { on := 3, ground := Ground.phase }, { on := 4, ground := Ground.phase }, { on := 5, ground := Ground.phase }, { on := 6, ground := Ground.phase }, { on := 7, ground := Ground.phase }, { on := 8, ground := Ground.phase }, { on := 9, ground := Ground.phase }, { on := 10, ground := Ground.phase }, { on := 11, ground := Ground.phase }, { on := 12, ground := Ground.phase }, { on := 13, ground := Ground.phase }, { on := 14, ground := Ground.phase }, { on := 15, ground := Ground.phase }, { on := 16, ground := Ground.phase }, { on := 17, ground := Ground.phase }, { on := 18, ground := Ground.phase }], guard := none }) (v := .pointer (some ⟨bi, k * 4, none⟩)) rfl (by kernel_rfl) (by kernel_rfl) (by kernel_rfl) (fun _ _ _ h => h) (Or.inl ⟨by rfl, fun w0 hSw => ?_⟩) hH3 ?_
    · (clear hSw; go_simp)
    simp only [Act.put, List.setIfInBounds_toArray, List.set_cons_zero, List.set_cons_succ]
    refine wpAnyH_ready (rs := [20]) (by kernel_rfl) (by simp) ?_
    refine AllReadyH.cons (o := { dst := none, op := Op.store 28 (Operand.tmp 207) (Operand.tmp 206), type := 0, pos := "law.go:411", after := #[{ on := 19, ground := Ground.data }, { on := 18, ground := Ground.data }, { on := 18, ground := Ground.chain }, { on := 0, ground := Ground.phase }, { on := 1, ground := Ground.phase }, { on := 2, ground := Ground.phase }, { on := 3, ground := Ground.phase }, { on := 4, ground := Ground.phase }, { on := 5, ground := Ground.phase }, { on := 6, ground := Ground.phase }, { on := 7, ground := Ground.phase }, { on := 8, ground := Ground.phase }, { on := 9, ground := Ground.phase }, { on := 10, ground := Ground.phase }, { on := 11, ground := Ground.phase }, { on := 12, ground := Ground.phase }, { on := 13, ground := Ground.phase }, { on := 14, ground := Ground.phase }, { on := 15, ground := Ground.phase }, { on := 16, ground := Ground.phase }, { on := 17, ground := Ground.phase }, { on := 18, ground := Ground.phase }], guard := none }) rfl (fun K hK => ?_) AllReadyH.nil
    have HH := hidden hH3
    clear hH3
    refine wp_storeE 28 _ _ rfl bi (k * 4) ([.int .u64 r.x0, .int .u64 r.x1, .int .u64 r.x2, .int .u64 r.x3]) (by rfl) (by rfl) TH.out i4_s (one4 _) rfl (fun wn4 hw => ?_)
    have SN := hidden (HH.out.trans (gb_setCells bi [.int .u64 r.x0, .int .u64 r.x1, .int .u64 r.x2, .int .u64 r.x3] (k * 4) _))
    have FE := hidden ((⟨_, B0.out, hw⟩ : ∃ wy, Below W.heap.size W wy ∧ _ = wy.setCells bi (k * 4) [.int .u64 r.x0, .int .u64 r.x1, .int .u64 r.x2, .int .u64 r.x3]))
    rw [← hw] at SN
    clear HH hw
    refine hK.out _ _ SN.out (fun hH4 => ?_)
    clear hK K SN
    have HH := hidden hH4
    have FQ := hidden (HQ.out _ FE.out)
    refine wpAnyH_done (by kernel_rfl) ?_ _
    refine NoPanic.normal ?_
    exact FQ.out
def lw32o : Array Oper := #[{ dst := some 208, op := Op.move (Operand.tmp 6), type := 25, pos := "law.go:412", after := #[], guard := none },
  { dst := some 209, op := Op.move (Operand.tmp 16), type := 3, pos := "law.go:412", after := #[], guard := none },
  { dst := some 210, op := Op.indexAddr 25 (Operand.tmp 208) (Operand.tmp 209), type := 0, pos := "law.go:412", after := #[{ on := 0, ground := Ground.data }, { on := 1, ground := Ground.data }], guard := none },
  { dst := some 211, op := Op.fieldAddr 36 (Operand.tmp 210) 4, type := 0, pos := "law.go:412", after := #[{ on := 2, ground := Ground.data }], guard := none },
  { dst := some 212, op := Op.load 34 (Operand.tmp 211), type := 34, pos := "law.go:412", after := #[{ on := 3, ground := Ground.data }], guard := none },
  { dst := some 213, op := Op.move (Operand.tmp 17), type := 3, pos := "law.go:412", after := #[], guard := none },
  { dst := some 214, op := Op.move (Operand.tmp 6), type := 25, pos := "law.go:412", after := #[], guard := none },
  { dst := some 215, op := Op.move (Operand.tmp 16), type := 3, pos := "law.go:412", after := #[], guard := none },
  { dst := some 216, op := Op.indexAddr 25 (Operand.tmp 214) (Operand.tmp 215), type := 0, pos := "law.go:412", after := #[{ on := 6, ground := Ground.data }, { on := 7, ground := Ground.data }], guard := none },
  { dst := some 217, op := Op.fieldAddr 36 (Operand.tmp 216) 4, type := 0, pos := "law.go:412", after := #[{ on := 8, ground := Ground.data }], guard := none },
  { dst := some 218, op := Op.load 34 (Operand.tmp 217), type := 34, pos := "law.go:412", after := #[{ on := 9, ground := Ground.data }], guard := none },
  { dst := some 219, op := Op.move (Operand.tmp 17), type := 3, pos := "law.go:412", after := #[], guard := none },
  { dst := some 220, op := Op.indexAddr 34 (Operand.tmp 218) (Operand.tmp 219), type := 0, pos := "law.go:412", after := #[{ on := 10, ground := Ground.data }, { on := 11, ground := Ground.data }], guard := none },
  { dst := some 221, op := Op.load 33 (Operand.tmp 220), type := 33, pos := "law.go:412", after := #[{ on := 12, ground := Ground.data }], guard := none },
  { dst := some 222, op := Op.move (Operand.tmp 17), type := 3, pos := "law.go:412", after := #[], guard := none },
  { dst := some 223, op := Op.convert 3 26 (Operand.tmp 222), type := 26, pos := "law.go:412", after := #[{ on := 14, ground := Ground.data }], guard := none },
  { dst := some 224, op := Op.binOp BinOp.add 26 (Operand.tmp 223) (Operand.const (Value.int IntKind.u64 1)) 26, type := 26, pos := "law.go:412", after := #[{ on := 15, ground := Ground.data }], guard := none },
  { dst := some 225, op := Op.call { callee := Callee.value (Operand.func 15), args := #[Operand.tmp 224], argTypes := #[26] }, type := 33, pos := "law.go:412", after := #[{ on := 16, ground := Ground.data }], guard := none },
  { dst := some 226, op := Op.call { callee := Callee.value (Operand.func 14), args := #[Operand.tmp 221, Operand.tmp 225], argTypes := #[33, 33] }, type := 33, pos := "law.go:412", after := #[{ on := 13, ground := Ground.data }, { on := 17, ground := Ground.data }, { on := 17, ground := Ground.chain }], guard := none },
  { dst := some 227, op := Op.indexAddr 34 (Operand.tmp 212) (Operand.tmp 213), type := 0, pos := "law.go:412", after := #[{ on := 4, ground := Ground.data }, { on := 5, ground := Ground.data }, { on := 0, ground := Ground.phase }, { on := 1, ground := Ground.phase }, { on := 2, ground := Ground.phase }, { on := 3, ground := Ground.phase }, { on := 4, ground := Ground.phase }, { on := 5, ground := Ground.phase }, { on := 6, ground := Ground.phase }, { on := 7, ground := Ground.phase }, { on := 8, ground := Ground.phase }, { on := 9, ground := Ground.phase }, { on := 10, ground := Ground.phase }, { on := 11, ground := Ground.phase }, { on := 12, ground := Ground.phase }, { on := 13, ground := Ground.phase }, { on := 14, ground := Ground.phase }, { on := 15, ground := Ground.phase }, { on := 16, ground := Ground.phase }, { on := 17, ground := Ground.phase }, { on := 18, ground := Ground.phase }], guard := none },
  { dst := none, op := Op.store 33 (Operand.tmp 227) (Operand.tmp 226), type := 0, pos := "law.go:412", after := #[{ on := 19, ground := Ground.data }, { on := 18, ground := Ground.data }, { on := 18, ground := Ground.chain }, { on := 0, ground := Ground.phase }, { on := 1, ground := Ground.phase }, { on := 2, ground := Ground.phase }, { on := 3, ground := Ground.phase }, { on := 4, ground := Ground.phase }, { on := 5, ground := Ground.phase }, { on := 6, ground := Ground.phase }, { on := 7, ground := Ground.phase }, { on := 8, ground := Ground.phase }, { on := 9, ground := Ground.phase }, { on := 10, ground := Ground.phase }, { on := 11, ground := Ground.phase }, { on := 12, ground := Ground.phase }, { on := 13, ground := Ground.phase }, { on := 14, ground := Ground.phase }, { on := 15, ground := Ground.phase }, { on := 16, ground := Ground.phase }, { on := 17, ground := Ground.phase }, { on := 18, ground := Ground.phase }], guard := none }]
set_option maxRecDepth 100000 in
set_option maxHeartbeats 16000000 in
theorem lw32 (Q : Exit → Act → World → Prop) (bo oo co bi n c N i k : Nat) (z J r : E4) (u0 u1 u2 u3 u4 u5 u7 u8 u9 u10 u11 u12 u13 u14 u15 u18 u19 u20 u21 u22 u23 u24 u25 u26 u27 u28 u29 u30 u31 u32 u33 u34 u35 u36 u37 u38 u39 u40 u41 u42 u43 u44 u45 u46 u47 u48 u49 u50 u51 u52 u53 u54 u55 u56 u57 u58 u59 u60 u61 u62 u63 u64 u65 u66 u67 u68 u69 u70 u71 u72 u73 u74 u75 u76 u77 u78 u79 u80 u81 u82 u83 u84 u85 u86 u87 u88 u89 u90 u91 u92 u93 u94 u95 u96 u97 u98 u99 u100 u101 u102 u103 u104 u105 u106 u107 u108 u109 u110 u111 u112 u113 u114 u115 u116 u117 u118 u119 u120 u121 u122 u123 u124 u125 u126 u127 u128 u129 u130 u131 u132 u133 u134 u135 u136 u137 u138 u139 u140 u141 u142 u143 u144 u145 u146 u147 u148 u149 u150 u151 u152 u153 u154 u155 u156 u157 u158 u159 u160 u161 u162 u163 u164 u165 u166 u167 u168 u169 u170 u171 u172 u173 u174 u175 u176 u177 u178 u179 u180 u181 u182 u183 u184 u185 u186 u187 u188 u189 u190 u191 u192 u193 u194 u195 u196 u197 u198 u199 u200 u201 u202 u203 u204 u205 u206 u207 u208 u209 u210 u211 u212 u213 u214 u215 u216 u217 u218 u219 u220 u221 u222 u223 u224 u225 u226 u227 u228 u229 u230 u231 u232 u233 u234 u235 u236 u237 u238 u239 u240 u241 u242 u243 u244 u245 u246 u247 u248 u249 u250 u251 : Value) (W : World)
    (ii0 : (0 : Int) ≤ (i : Int)) (ii1 : (i : Int) < (N : Int)) (kk0 : (0 : Int) ≤ (k : Int)) (kk1 : (k : Int) < (n : Int)) (wk : IntKind.u64.wrap (k : Int) = (k : Int)) (wk1 : IntKind.u64.wrap ((k : Int) + 1) = (k : Int) + 1) (cS0 : W.cell? ⟨bo, oo + i * 18 + 16, none⟩ = some (.slice (some ⟨bi, 0, none⟩) n c)) (neO : bo ≠ bi)
    (zr : W.rangeAt bi (k * 4) [.int .u64 z.x0, .int .u64 z.x1, .int .u64 z.x2, .int .u64 z.x3]) (th : W.there bi (k * 4) 4)
    (CI : Hid (∀ x, Calls Tryd.prog 15 #[.int .u64 ((k : Int) + 1)] x fun e w' => e = .returned (.agg #[.int .u64 J.x0, .int .u64 J.x1, .int .u64 J.x2, .int .u64 J.x3]) ∧ Below x.heap.size x w'))
    (CA : Hid (∀ x, W.grownBy x (some bi) → Calls Tryd.prog 14 #[.agg #[.int .u64 z.x0, .int .u64 z.x1, .int .u64 z.x2, .int .u64 z.x3], .agg #[.int .u64 J.x0, .int .u64 J.x1, .int .u64 J.x2, .int .u64 J.x3]] x fun e w' => e = .returned (.agg #[.int .u64 r.x0, .int .u64 r.x1, .int .u64 r.x2, .int .u64 r.x3]) ∧ Below x.heap.size x w'))
    (HQ : Hid (∀ wz, (∃ wy, Below W.heap.size W wy ∧ wz = wy.setCells bi (k * 4) [.int .u64 r.x0, .int .u64 r.x1, .int .u64 r.x2, .int .u64 r.x3]) → Q .normal ⟨#[u0, u1, u2, u3, u4, u5, .slice (some ⟨bo, oo, none⟩) N co, u7, u8, u9, u10, u11, u12, u13, u14, u15, .int .i64 (i : Int), .int .i64 (k : Int), u18, u19, u20, u21, u22, u23, u24, u25, u26, u27, u28, u29, u30, u31, u32, u33, u34, u35, u36, u37, u38, u39, u40, u41, u42, u43, u44, u45, u46, u47, u48, u49, u50, u51, u52, u53, u54, u55, u56, u57, u58, u59, u60, u61, u62, u63, u64, u65, u66, u67, u68, u69, u70, u71, u72, u73, u74, u75, u76, u77, u78, u79, u80, u81, u82, u83, u84, u85, u86, u87, u88, u89, u90, u91, u92, u93, u94, u95, u96, u97, u98, u99, u100, u101, u102, u103, u104, u105, u106, u107, u108, u109, u110, u111, u112, u113, u114, u115, u116, u117, u118, u119, u120, u121, u122, u123, u124, u125, u126, u127, u128, u129, u130, u131, u132, u133, u134, u135, u136, u137, u138, u139, u140, u141, u142, u143, u144, u145, u146, u147, u148, u149, u150, u151, u152, u153, u154, u155, u156, u157, u158, u159, u160, u161, u162, u163, u164, u165, u166, u167, u168, u169, u170, u171, u172, u173, u174, u175, u176, u177, u178, u179, u180, u181, u182, u183, u184, u185, u186, u187, u188, u189, u190, u191, u192, u193, u194, u195, u196, u197, u198, u199, u200, u201, u202, u203, u204, u205, u206, u207, .slice (some ⟨bo, oo, none⟩) N co, .int .i64 (i : Int), .pointer (some ⟨bo, oo + i * 18, none⟩), .pointer (some ⟨bo, oo + i * 18 + 16, none⟩), .slice (some ⟨bi, 0, none⟩) n c, .int .i64 (k : Int), .slice (some ⟨bo, oo, none⟩) N co, .int .i64 (i : Int), .pointer (some ⟨bo, oo + i * 18, none⟩), .pointer (some ⟨bo, oo + i * 18 + 16, none⟩), .slice (some ⟨bi, 0, none⟩) n c, .int .i64 (k : Int), .pointer (some ⟨bi, k * 4, none⟩), .agg #[.int .u64 z.x0, .int .u64 z.x1, .int .u64 z.x2, .int .u64 z.x3], .int .i64 (k : Int), .int .u64 (k : Int), .int .u64 ((k : Int) + 1), .agg #[.int .u64 J.x0, .int .u64 J.x1, .int .u64 J.x2, .int .u64 J.x3], .agg #[.int .u64 r.x0, .int .u64 r.x1, .int .u64 r.x2, .int .u64 r.x3], .pointer (some ⟨bi, k * 4, none⟩), u228, u229, u230, u231, u232, u233, u234, u235, u236, u237, u238, u239, u240, u241, u242, u243, u244, u245, u246, u247, u248, u249, u250, u251], []⟩ wz)) : (Code.region 32 lw32o true).wp Tryd.prog Q ⟨#[u0, u1, u2, u3, u4, u5, .slice (some ⟨bo, oo, none⟩) N co, u7, u8, u9, u10, u11, u12, u13, u14, u15, .int .i64 (i : Int), .int .i64 (k : Int), u18, u19, u20, u21, u22, u23, u24, u25, u26, u27, u28, u29, u30, u31, u32, u33, u34, u35, u36, u37, u38, u39, u40, u41, u42, u43, u44, u45, u46, u47, u48, u49, u50, u51, u52, u53, u54, u55, u56, u57, u58, u59, u60, u61, u62, u63, u64, u65, u66, u67, u68, u69, u70, u71, u72, u73, u74, u75, u76, u77, u78, u79, u80, u81, u82, u83, u84, u85, u86, u87, u88, u89, u90, u91, u92, u93, u94, u95, u96, u97, u98, u99, u100, u101, u102, u103, u104, u105, u106, u107, u108, u109, u110, u111, u112, u113, u114, u115, u116, u117, u118, u119, u120, u121, u122, u123, u124, u125, u126, u127, u128, u129, u130, u131, u132, u133, u134, u135, u136, u137, u138, u139, u140, u141, u142, u143, u144, u145, u146, u147, u148, u149, u150, u151, u152, u153, u154, u155, u156, u157, u158, u159, u160, u161, u162, u163, u164, u165, u166, u167, u168, u169, u170, u171, u172, u173, u174, u175, u176, u177, u178, u179, u180, u181, u182, u183, u184, u185, u186, u187, u188, u189, u190, u191, u192, u193, u194, u195, u196, u197, u198, u199, u200, u201, u202, u203, u204, u205, u206, u207, u208, u209, u210, u211, u212, u213, u214, u215, u216, u217, u218, u219, u220, u221, u222, u223, u224, u225, u226, u227, u228, u229, u230, u231, u232, u233, u234, u235, u236, u237, u238, u239, u240, u241, u242, u243, u244, u245, u246, u247, u248, u249, u250, u251], []⟩ W := by
  have ZR := hidden (range_keepO zr (bl_drew W))
  have TH := hidden (there_keepO th (bl_drew W))
  have B0 := hidden (bl_drew W)
  have U33 : Hid (Tryd.prog.underlying 33 = some _) := hidden Tryd.underlying33
  clear zr th
  unfold lw32o
  refine wp_region_noPanic ?_
  refine wp_region_held_drew (S := fun x => W.grownBy x (some bi)) (by kernel_rfl) (gbI (bl_drew W) _) (fun hH0 => ?_)
  refine wpAnyH_take (i := 0) (oi := { dst := some 208, op := Op.move (Operand.tmp 6), type := 25, pos := "law.go:412", after := #[], guard := none }) (v := .slice (some ⟨bo, oo, none⟩) N co) rfl (by kernel_rfl) (by kernel_rfl) (by kernel_rfl) (fun _ _ _ h => h) (Or.inl ⟨by rfl, fun w0 hSw => ?_⟩) hH0 ?_
  · (clear hSw; go_simp)
  simp only [Act.put, List.setIfInBounds_toArray, List.set_cons_zero, List.set_cons_succ]
  refine wpAnyH_take (i := 1) (oi := { dst := some 209, op := Op.move (Operand.tmp 16), type := 3, pos := "law.go:412", after := #[], guard := none }) (v := .int .i64 (i : Int)) rfl (by kernel_rfl) (by kernel_rfl) (by kernel_rfl) (fun _ _ _ h => h) (Or.inl ⟨by rfl, fun w0 hSw => ?_⟩) hH0 ?_
  · (clear hSw; go_simp)
  simp only [Act.put, List.setIfInBounds_toArray, List.set_cons_zero, List.set_cons_succ]
  refine wpAnyH_take (i := 5) (oi := { dst := some 213, op := Op.move (Operand.tmp 17), type := 3, pos := "law.go:412", after := #[], guard := none }) (v := .int .i64 (k : Int)) rfl (by kernel_rfl) (by kernel_rfl) (by kernel_rfl) (fun _ _ _ h => h) (Or.inl ⟨by rfl, fun w0 hSw => ?_⟩) hH0 ?_
  · (clear hSw; go_simp)
  simp only [Act.put, List.setIfInBounds_toArray, List.set_cons_zero, List.set_cons_succ]
  refine wpAnyH_take (i := 6) (oi := { dst := some 214, op := Op.move (Operand.tmp 6), type := 25, pos := "law.go:412", after := #[], guard := none }) (v := .slice (some ⟨bo, oo, none⟩) N co) rfl (by kernel_rfl) (by kernel_rfl) (by kernel_rfl) (fun _ _ _ h => h) (Or.inl ⟨by rfl, fun w0 hSw => ?_⟩) hH0 ?_
  · (clear hSw; go_simp)
  simp only [Act.put, List.setIfInBounds_toArray, List.set_cons_zero, List.set_cons_succ]
  refine wpAnyH_take (i := 7) (oi := { dst := some 215, op := Op.move (Operand.tmp 16), type := 3, pos := "law.go:412", after := #[], guard := none }) (v := .int .i64 (i : Int)) rfl (by kernel_rfl) (by kernel_rfl) (by kernel_rfl) (fun _ _ _ h => h) (Or.inl ⟨by rfl, fun w0 hSw => ?_⟩) hH0 ?_
  · (clear hSw; go_simp)
  simp only [Act.put, List.setIfInBounds_toArray, List.set_cons_zero, List.set_cons_succ]
  refine wpAnyH_take (i := 11) (oi := { dst := some 219, op := Op.move (Operand.tmp 17), type := 3, pos := "law.go:412", after := #[], guard := none }) (v := .int .i64 (k : Int)) rfl (by kernel_rfl) (by kernel_rfl) (by kernel_rfl) (fun _ _ _ h => h) (Or.inl ⟨by rfl, fun w0 hSw => ?_⟩) hH0 ?_
  · (clear hSw; go_simp)
  simp only [Act.put, List.setIfInBounds_toArray, List.set_cons_zero, List.set_cons_succ]
  refine wpAnyH_take (i := 14) (oi := { dst := some 222, op := Op.move (Operand.tmp 17), type := 3, pos := "law.go:412", after := #[], guard := none }) (v := .int .i64 (k : Int)) rfl (by kernel_rfl) (by kernel_rfl) (by kernel_rfl) (fun _ _ _ h => h) (Or.inl ⟨by rfl, fun w0 hSw => ?_⟩) hH0 ?_
  · (clear hSw; go_simp)
  simp only [Act.put, List.setIfInBounds_toArray, List.set_cons_zero, List.set_cons_succ]
  refine wpAnyH_take (i := 2) (oi := { dst := some 210, op := Op.indexAddr 25 (Operand.tmp 208) (Operand.tmp 209), type := 0, pos := "law.go:412", after := #[{ on := 0, ground := Ground.data }, { on := 1, ground := Ground.data }], guard := none }) (v := .pointer (some ⟨bo, oo + i * 18, none⟩)) rfl (by kernel_rfl) (by kernel_rfl) (by kernel_rfl) (fun _ _ _ h => h) (Or.inl ⟨by rfl, fun w0 hSw => ?_⟩) hH0 ?_
  · (clear hSw; go_simp)
  simp only [Act.put, List.setIfInBounds_toArray, List.set_cons_zero, List.set_cons_succ]
  refine wpAnyH_take (i := 8) (oi := { dst := some 216, op := Op.indexAddr 25 (Operand.tmp 214) (Operand.tmp 215), type := 0, pos := "law.go:412", after := #[{ on := 6, ground := Ground.data }, { on := 7, ground := Ground.data }], guard := none }) (v := .pointer (some ⟨bo, oo + i * 18, none⟩)) rfl (by kernel_rfl) (by kernel_rfl) (by kernel_rfl) (fun _ _ _ h => h) (Or.inl ⟨by rfl, fun w0 hSw => ?_⟩) hH0 ?_
  · (clear hSw; go_simp)
  simp only [Act.put, List.setIfInBounds_toArray, List.set_cons_zero, List.set_cons_succ]
  refine wpAnyH_take (i := 15) (oi := { dst := some 223, op := Op.convert 3 26 (Operand.tmp 222), type := 26, pos := "law.go:412", after := #[{ on := 14, ground := Ground.data }], guard := none }) (v := .int .u64 (k : Int)) rfl (by kernel_rfl) (by kernel_rfl) (by kernel_rfl) (fun _ _ _ h => h) (Or.inl ⟨by rfl, fun w0 hSw => ?_⟩) hH0 ?_
  · (clear hSw; go_simp)
  simp only [Act.put, List.setIfInBounds_toArray, List.set_cons_zero, List.set_cons_succ]
  refine wpAnyH_take (i := 3) (oi := { dst := some 211, op := Op.fieldAddr 36 (Operand.tmp 210) 4, type := 0, pos := "law.go:412", after := #[{ on := 2, ground := Ground.data }], guard := none }) (v := .pointer (some ⟨bo, oo + i * 18 + 16, none⟩)) rfl (by kernel_rfl) (by kernel_rfl) (by kernel_rfl) (fun _ _ _ h => h) (Or.inl ⟨by rfl, fun w0 hSw => ?_⟩) hH0 ?_
  · (clear hSw; go_simp)
  simp only [Act.put, List.setIfInBounds_toArray, List.set_cons_zero, List.set_cons_succ]
  refine wpAnyH_take (i := 9) (oi := { dst := some 217, op := Op.fieldAddr 36 (Operand.tmp 216) 4, type := 0, pos := "law.go:412", after := #[{ on := 8, ground := Ground.data }], guard := none }) (v := .pointer (some ⟨bo, oo + i * 18 + 16, none⟩)) rfl (by kernel_rfl) (by kernel_rfl) (by kernel_rfl) (fun _ _ _ h => h) (Or.inl ⟨by rfl, fun w0 hSw => ?_⟩) hH0 ?_
  · (clear hSw; go_simp)
  simp only [Act.put, List.setIfInBounds_toArray, List.set_cons_zero, List.set_cons_succ]
  refine wpAnyH_take (i := 16) (oi := { dst := some 224, op := Op.binOp BinOp.add 26 (Operand.tmp 223) (Operand.const (Value.int IntKind.u64 1)) 26, type := 26, pos := "law.go:412", after := #[{ on := 15, ground := Ground.data }], guard := none }) (v := .int .u64 ((k : Int) + 1)) rfl (by kernel_rfl) (by kernel_rfl) (by kernel_rfl) (fun _ _ _ h => h) (Or.inl ⟨by rfl, fun w0 hSw => ?_⟩) hH0 ?_
  · (clear hSw; go_simp)
  simp only [Act.put, List.setIfInBounds_toArray, List.set_cons_zero, List.set_cons_succ]
  refine wpAnyH_take (i := 4) (oi := { dst := some 212, op := Op.load 34 (Operand.tmp 211), type := 34, pos := "law.go:412", after := #[{ on := 3, ground := Ground.data }], guard := none }) (v := .slice (some ⟨bi, 0, none⟩) n c) rfl (by kernel_rfl) (by kernel_rfl) (by kernel_rfl) (fun _ _ _ h => h) (Or.inl ⟨by rfl, fun w0 hSw => ?_⟩) hH0 ?_
  · (have hS : W.grownBy w0 (some bi) := hSw; have a0 := hS.cell cS0 (fun e => neO (Option.some.inj e)); clear hS hSw; go_simp)
  simp only [Act.put, List.setIfInBounds_toArray, List.set_cons_zero, List.set_cons_succ]
  refine wpAnyH_take (i := 10) (oi := { dst := some 218, op := Op.load 34 (Operand.tmp 217), type := 34, pos := "law.go:412", after := #[{ on := 9, ground := Ground.data }], guard := none }) (v := .slice (some ⟨bi, 0, none⟩) n c) rfl (by kernel_rfl) (by kernel_rfl) (by kernel_rfl) (fun _ _ _ h => h) (Or.inl ⟨by rfl, fun w0 hSw => ?_⟩) hH0 ?_
  · (have hS : W.grownBy w0 (some bi) := hSw; have a0 := hS.cell cS0 (fun e => neO (Option.some.inj e)); clear hS hSw; go_simp)
  simp only [Act.put, List.setIfInBounds_toArray, List.set_cons_zero, List.set_cons_succ]
  refine wpAnyH_take (i := 12) (oi := { dst := some 220, op := Op.indexAddr 34 (Operand.tmp 218) (Operand.tmp 219), type := 0, pos := "law.go:412", after := #[{ on := 10, ground := Ground.data }, { on := 11, ground := Ground.data }], guard := none }) (v := .pointer (some ⟨bi, k * 4, none⟩)) rfl (by kernel_rfl) (by kernel_rfl) (by kernel_rfl) (fun _ _ _ h => h) (Or.inl ⟨by rfl, fun w0 hSw => ?_⟩) hH0 ?_
  · (clear hSw; go_simp)
  simp only [Act.put, List.setIfInBounds_toArray, List.set_cons_zero, List.set_cons_succ]
  refine wpAnyH_ready (rs := [13, 17]) (by kernel_rfl) (by simp) ?_
  refine AllReadyH.cons (o := { dst := some 221, op := Op.load 33 (Operand.tmp 220), type := 33, pos := "law.go:412", after := #[{ on := 12, ground := Ground.data }], guard := none }) rfl (fun K hK => ?_) (AllReadyH.cons (o := { dst := some 225, op := Op.call { callee := Callee.value (Operand.func 15), args := #[Operand.tmp 224], argTypes := #[26] }, type := 33, pos := "law.go:412", after := #[{ on := 16, ground := Ground.data }], guard := none }) rfl (fun K hK => ?_) AllReadyH.nil)
  · have HH := hidden hH0
    clear hH0
    refine wp_load_mid 33 _ rfl bi (k * 4) (by rfl) [.int .u64 z.x0, .int .u64 z.x1, .int .u64 z.x2, .int .u64 z.x3] _ ZR.out U33.out rfl i4_r ?_
    simp only [Act.put, List.setIfInBounds_toArray, List.set_cons_zero, List.set_cons_succ]
    have SN := HH
    clear HH
    refine hK.out _ _ SN.out (fun hH1 => ?_)
    clear hK K SN
    refine wpAnyH_ready (rs := [17]) (by kernel_rfl) (by simp) ?_
    refine AllReadyH.cons (o := { dst := some 225, op := Op.call { callee := Callee.value (Operand.func 15), args := #[Operand.tmp 224], argTypes := #[26] }, type := 33, pos := "law.go:412", after := #[{ on := 16, ground := Ground.data }], guard := none }) rfl (fun K hK => ?_) AllReadyH.nil
    have HH := hidden hH1
    clear hH1
    go_simp
    refine (CI.out _).mono ?_
    rintro e wn2 ⟨rfl, hb⟩
    replace ZR := hidden (range_keepO ZR.out hb)
    replace TH := hidden (there_keepO TH.out hb)
    have SN := hidden (HH.out.trans (gbI hb _))
    replace B0 := hidden (bl_trans B0.out hb)
    clear HH CI hb
    go_wp2_with fail
    refine hK.out _ _ SN.out (fun hH2 => ?_)
    clear hK K SN
    refine wpAnyH_ready (rs := [18]) (by kernel_rfl) (by simp) ?_
    refine AllReadyH.cons (o := { dst := some 226, op := Op.call { callee := Callee.value (Operand.func 14), args := #[Operand.tmp 221, Operand.tmp 225], argTypes := #[33, 33] }, type := 33, pos := "law.go:412", after := #[{ on := 13, ground := Ground.data }, { on := 17, ground := Ground.data }, { on := 17, ground := Ground.chain }], guard := none }) rfl (fun K hK => ?_) AllReadyH.nil
    have HH := hidden hH2
    clear hH2
    go_simp
    refine (CA.out _ HH.out).mono ?_
    rintro e wn3 ⟨rfl, hb⟩
    replace ZR := hidden (range_keepO ZR.out hb)
    replace TH := hidden (there_keepO TH.out hb)
    have SN := hidden (HH.out.trans (gbI hb _))
    replace B0 := hidden (bl_trans B0.out hb)
    clear HH CA hb
    go_wp2_with fail
    refine hK.out _ _ SN.out (fun hH3 => ?_)
    clear hK K SN
    refine wpAnyH_take (i := 19) (oi := { dst := some 227, op := Op.indexAddr 34 (Operand.tmp 212) (Operand.tmp 213), type := 0, pos := "law.go:412", after := #[{ on := 4, ground := Ground.data }, { on := 5, ground := Ground.data }, { on := 0, ground := Ground.phase }, { on := 1, ground := Ground.phase }, { on := 2, ground := Ground.phase }, { on := 3, ground := Ground.phase }, { on := 4, ground := Ground.phase }, { on := 5, ground := Ground.phase }, { on := 6, ground := Ground.phase }, { on := 7, ground := Ground.phase }, { on := 8, ground := Ground.phase }, { on := 9, ground := Ground.phase }, { on := 10, ground := Ground.phase }, { on := 11, ground := Ground.phase }, { on := 12, ground := Ground.phase }, { on := 13, ground := Ground.phase }, { on := 14, ground := Ground.phase }, { on := 15, ground := Ground.phase }, { on := 16, ground := Ground.phase }, { on := 17, ground := Ground.phase }, { on := 18, ground := Ground.phase }], guard := none }) (v := .pointer (some ⟨bi, k * 4, none⟩)) rfl (by kernel_rfl) (by kernel_rfl) (by kernel_rfl) (fun _ _ _ h => h) (Or.inl ⟨by rfl, fun w0 hSw => ?_⟩) hH3 ?_
    · (clear hSw; go_simp)
    simp only [Act.put, List.setIfInBounds_toArray, List.set_cons_zero, List.set_cons_succ]
    refine wpAnyH_ready (rs := [20]) (by kernel_rfl) (by simp) ?_
    refine AllReadyH.cons (o := { dst := none, op := Op.store 33 (Operand.tmp 227) (Operand.tmp 226), type := 0, pos := "law.go:412", after := #[{ on := 19, ground := Ground.data }, { on := 18, ground := Ground.data }, { on := 18, ground := Ground.chain }, { on := 0, ground := Ground.phase }, { on := 1, ground := Ground.phase }, { on := 2, ground := Ground.phase }, { on := 3, ground := Ground.phase }, { on := 4, ground := Ground.phase }, { on := 5, ground := Ground.phase }, { on := 6, ground := Ground.phase }, { on := 7, ground := Ground.phase }, { on := 8, ground := Ground.phase }, { on := 9, ground := Ground.phase }, { on := 10, ground := Ground.phase }, { on := 11, ground := Ground.phase }, { on := 12, ground := Ground.phase }, { on := 13, ground := Ground.phase }, { on := 14, ground := Ground.phase }, { on := 15, ground := Ground.phase }, { on := 16, ground := Ground.phase }, { on := 17, ground := Ground.phase }, { on := 18, ground := Ground.phase }], guard := none }) rfl (fun K hK => ?_) AllReadyH.nil
    have HH := hidden hH3
    clear hH3
    refine wp_storeE 33 _ _ rfl bi (k * 4) ([.int .u64 r.x0, .int .u64 r.x1, .int .u64 r.x2, .int .u64 r.x3]) (by rfl) (by rfl) TH.out i4_r (one4 _) rfl (fun wn4 hw => ?_)
    have SN := hidden (HH.out.trans (gb_setCells bi [.int .u64 r.x0, .int .u64 r.x1, .int .u64 r.x2, .int .u64 r.x3] (k * 4) _))
    have FE := hidden ((⟨_, B0.out, hw⟩ : ∃ wy, Below W.heap.size W wy ∧ _ = wy.setCells bi (k * 4) [.int .u64 r.x0, .int .u64 r.x1, .int .u64 r.x2, .int .u64 r.x3]))
    rw [← hw] at SN
    clear HH hw
    refine hK.out _ _ SN.out (fun hH4 => ?_)
    clear hK K SN
    have HH := hidden hH4
    have FQ := hidden (HQ.out _ FE.out)
    refine wpAnyH_done (by kernel_rfl) ?_ _
    refine NoPanic.normal ?_
    exact FQ.out
  · have HH := hidden hH0
    clear hH0
    go_simp
    refine (CI.out _).mono ?_
    rintro e wn1 ⟨rfl, hb⟩
    replace ZR := hidden (range_keepO ZR.out hb)
    replace TH := hidden (there_keepO TH.out hb)
    have SN := hidden (HH.out.trans (gbI hb _))
    replace B0 := hidden (bl_trans B0.out hb)
    clear HH CI hb
    go_wp2_with fail
    refine hK.out _ _ SN.out (fun hH1 => ?_)
    clear hK K SN
    refine wpAnyH_ready (rs := [13]) (by kernel_rfl) (by simp) ?_
    refine AllReadyH.cons (o := { dst := some 221, op := Op.load 33 (Operand.tmp 220), type := 33, pos := "law.go:412", after := #[{ on := 12, ground := Ground.data }], guard := none }) rfl (fun K hK => ?_) AllReadyH.nil
    have HH := hidden hH1
    clear hH1
    refine wp_load_mid 33 _ rfl bi (k * 4) (by rfl) [.int .u64 z.x0, .int .u64 z.x1, .int .u64 z.x2, .int .u64 z.x3] _ ZR.out U33.out rfl i4_r ?_
    simp only [Act.put, List.setIfInBounds_toArray, List.set_cons_zero, List.set_cons_succ]
    have SN := HH
    clear HH
    refine hK.out _ _ SN.out (fun hH2 => ?_)
    clear hK K SN
    refine wpAnyH_ready (rs := [18]) (by kernel_rfl) (by simp) ?_
    refine AllReadyH.cons (o := { dst := some 226, op := Op.call { callee := Callee.value (Operand.func 14), args := #[Operand.tmp 221, Operand.tmp 225], argTypes := #[33, 33] }, type := 33, pos := "law.go:412", after := #[{ on := 13, ground := Ground.data }, { on := 17, ground := Ground.data }, { on := 17, ground := Ground.chain }], guard := none }) rfl (fun K hK => ?_) AllReadyH.nil
    have HH := hidden hH2
    clear hH2
    go_simp
    refine (CA.out _ HH.out).mono ?_
    rintro e wn3 ⟨rfl, hb⟩
    replace ZR := hidden (range_keepO ZR.out hb)
    replace TH := hidden (there_keepO TH.out hb)
    have SN := hidden (HH.out.trans (gbI hb _))
    replace B0 := hidden (bl_trans B0.out hb)
    clear HH CA hb
    go_wp2_with fail
    refine hK.out _ _ SN.out (fun hH3 => ?_)
    clear hK K SN
    refine wpAnyH_take (i := 19) (oi := { dst := some 227, op := Op.indexAddr 34 (Operand.tmp 212) (Operand.tmp 213), type := 0, pos := "law.go:412", after := #[{ on := 4, ground := Ground.data }, { on := 5, ground := Ground.data }, { on := 0, ground := Ground.phase }, { on := 1, ground := Ground.phase }, { on := 2, ground := Ground.phase }, { on := 3, ground := Ground.phase }, { on := 4, ground := Ground.phase }, { on := 5, ground := Ground.phase }, { on := 6, ground := Ground.phase }, { on := 7, ground := Ground.phase }, { on := 8, ground := Ground.phase }, { on := 9, ground := Ground.phase }, { on := 10, ground := Ground.phase }, { on := 11, ground := Ground.phase }, { on := 12, ground := Ground.phase }, { on := 13, ground := Ground.phase }, { on := 14, ground := Ground.phase }, { on := 15, ground := Ground.phase }, { on := 16, ground := Ground.phase }, { on := 17, ground := Ground.phase }, { on := 18, ground := Ground.phase }], guard := none }) (v := .pointer (some ⟨bi, k * 4, none⟩)) rfl (by kernel_rfl) (by kernel_rfl) (by kernel_rfl) (fun _ _ _ h => h) (Or.inl ⟨by rfl, fun w0 hSw => ?_⟩) hH3 ?_
    · (clear hSw; go_simp)
    simp only [Act.put, List.setIfInBounds_toArray, List.set_cons_zero, List.set_cons_succ]
    refine wpAnyH_ready (rs := [20]) (by kernel_rfl) (by simp) ?_
    refine AllReadyH.cons (o := { dst := none, op := Op.store 33 (Operand.tmp 227) (Operand.tmp 226), type := 0, pos := "law.go:412", after := #[{ on := 19, ground := Ground.data }, { on := 18, ground := Ground.data }, { on := 18, ground := Ground.chain }, { on := 0, ground := Ground.phase }, { on := 1, ground := Ground.phase }, { on := 2, ground := Ground.phase }, { on := 3, ground := Ground.phase }, { on := 4, ground := Ground.phase }, { on := 5, ground := Ground.phase }, { on := 6, ground := Ground.phase }, { on := 7, ground := Ground.phase }, { on := 8, ground := Ground.phase }, { on := 9, ground := Ground.phase }, { on := 10, ground := Ground.phase }, { on := 11, ground := Ground.phase }, { on := 12, ground := Ground.phase }, { on := 13, ground := Ground.phase }, { on := 14, ground := Ground.phase }, { on := 15, ground := Ground.phase }, { on := 16, ground := Ground.phase }, { on := 17, ground := Ground.phase }, { on := 18, ground := Ground.phase }], guard := none }) rfl (fun K hK => ?_) AllReadyH.nil
    have HH := hidden hH3
    clear hH3
    refine wp_storeE 33 _ _ rfl bi (k * 4) ([.int .u64 r.x0, .int .u64 r.x1, .int .u64 r.x2, .int .u64 r.x3]) (by rfl) (by rfl) TH.out i4_r (one4 _) rfl (fun wn4 hw => ?_)
    have SN := hidden (HH.out.trans (gb_setCells bi [.int .u64 r.x0, .int .u64 r.x1, .int .u64 r.x2, .int .u64 r.x3] (k * 4) _))
    have FE := hidden ((⟨_, B0.out, hw⟩ : ∃ wy, Below W.heap.size W wy ∧ _ = wy.setCells bi (k * 4) [.int .u64 r.x0, .int .u64 r.x1, .int .u64 r.x2, .int .u64 r.x3]))
    rw [← hw] at SN
    clear HH hw
    refine hK.out _ _ SN.out (fun hH4 => ?_)
    clear hK K SN
    have HH := hidden hH4
    have FQ := hidden (HQ.out _ FE.out)
    refine wpAnyH_done (by kernel_rfl) ?_ _
    refine NoPanic.normal ?_
    exact FQ.out
end Go.Proofs.YtbkiobfjabadeaaDoor
