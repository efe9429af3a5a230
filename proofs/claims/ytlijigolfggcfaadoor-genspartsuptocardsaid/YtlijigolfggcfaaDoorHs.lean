import Derived.Test.YtlijigolfggcfaaDoorHq
import Derived.Test.YtlijigolfggcfaaDoorHi
import Derived.Test.YtlijigolfggcfaaDoorHm
namespace Go.Proofs.YtlijigolfggcfaaDoor
open Go.RowKit
set_option linter.unusedVariables false
/-- what a round of sameLines looks at -/
def S6 (W : World) (T2 T3 fo so g c1 gE cE n k : Nat) (a r : E4) (w : World) : Prop :=
  Below W.heap.size W w ∧ w.cell? ⟨T2, fo, none⟩ = some (.slice (some ⟨g, 0, none⟩) n c1) ∧ w.cell? ⟨T3, so, none⟩ = some (.slice (some ⟨gE, 0, none⟩) n cE) ∧ w.cell? ⟨g, k * 4, none⟩ = some (.int .u64 a.x0) ∧ w.cell? ⟨g, k * 4 + 1, none⟩ = some (.int .u64 a.x1) ∧ w.cell? ⟨g, k * 4 + 2, none⟩ = some (.int .u64 a.x2) ∧ w.cell? ⟨g, k * 4 + 3, none⟩ = some (.int .u64 a.x3) ∧ w.rangeAt gE (k * 26) (el r)
theorem S6.keep {W : World} {T2 T3 fo so g c1 gE cE n k : Nat} {a r : E4} {w w' : World} (h : S6 W T2 T3 fo so g c1 gE cE n k a r w) (hb : Below w.heap.size w w') : S6 W T2 T3 fo so g c1 gE cE n k a r w' := by
  obtain ⟨h0, h1, h2, h3, h4, h5, h6, h7⟩ := h
  have q7 := World.block_lt_of_cell? w _ (h7 0 _ rfl)
  exact ⟨bl_trans h0 hb, cell_keep h1 hb, cell_keep h2 hb, cell_keep h3 hb, cell_keep h4 hb, cell_keep h5 hb, cell_keep h6 hb, range_keepO h7 hb q7⟩
def sl6o : Array Oper := #[{ dst := some 54, op := Op.fieldAddr 32 (Operand.tmp 2) 3, type := 0, pos := "law.go:123", after := #[], guard := none },
  { dst := some 55, op := Op.load 30 (Operand.tmp 54), type := 30, pos := "law.go:123", after := #[{ on := 0, ground := Ground.data }], guard := none },
  { dst := some 56, op := Op.move (Operand.tmp 5), type := 3, pos := "law.go:123", after := #[], guard := none },
  { dst := some 57, op := Op.indexAddr 30 (Operand.tmp 55) (Operand.tmp 56), type := 0, pos := "law.go:123", after := #[{ on := 1, ground := Ground.data }, { on := 2, ground := Ground.data }], guard := none },
  { dst := some 58, op := Op.load 29 (Operand.tmp 57), type := 29, pos := "law.go:123", after := #[{ on := 3, ground := Ground.data }], guard := none },
  { dst := some 59, op := Op.fieldAddr 47 (Operand.tmp 3) 4, type := 0, pos := "law.go:123", after := #[], guard := none },
  { dst := some 60, op := Op.load 45 (Operand.tmp 59), type := 45, pos := "law.go:123", after := #[{ on := 5, ground := Ground.data }], guard := none },
  { dst := some 61, op := Op.move (Operand.tmp 5), type := 3, pos := "law.go:123", after := #[], guard := none },
  { dst := some 62, op := Op.indexAddr 45 (Operand.tmp 60) (Operand.tmp 61), type := 0, pos := "law.go:123", after := #[{ on := 6, ground := Ground.data }, { on := 7, ground := Ground.data }], guard := none },
  { dst := some 63, op := Op.load 44 (Operand.tmp 62), type := 44, pos := "law.go:123", after := #[{ on := 8, ground := Ground.data }], guard := none },
  { dst := some 64, op := Op.call { callee := Callee.value (Operand.func 11), args := #[Operand.tmp 58, Operand.tmp 63], argTypes := #[29, 44] }, type := 4, pos := "law.go:123", after := #[{ on := 4, ground := Ground.data }, { on := 9, ground := Ground.data }], guard := none },
  { dst := some 65, op := Op.unOp UnOp.not 4 (Operand.tmp 64), type := 4, pos := "law.go:123", after := #[{ on := 10, ground := Ground.data }], guard := none }]
set_option maxRecDepth 100000 in
set_option maxHeartbeats 8000000 in
theorem sl6 (Q : Exit → Act → World → Prop) (T2 T3 g c1 gE cE n k : Nat) (a r : E4) (u0 u1 u4 u6 u7 u8 u9 u10 u11 u12 u13 u14 u15 u16 u17 u18 u19 u20 u21 u22 u23 u24 u25 u26 u27 u28 u29 u30 u31 u32 u33 u34 u35 u36 u37 u38 u39 u40 u41 u42 u43 u44 u45 u46 u47 u48 u49 u50 u51 u52 u53 u54 u55 u56 u57 u58 u59 u60 u61 u62 u63 u64 u65 u66 u67 u68 u69 u70 u71 u72 u73 u74 u75 u76 u77 u78 u79 u80 u81 u82 u83 u84 : Value) (W : World) (hk : k < n) (HS : S6 W T2 T3 12 79 g c1 gE cE n k a r W) (C : Hid (∀ w, Below W.heap.size W w → Calls Tryd.prog 11 #[.agg #[.int .u64 a.x0, .int .u64 a.x1, .int .u64 a.x2, .int .u64 a.x3], .agg (el r).toArray] w fun e w' => e = .returned (.bool true) ∧ Below w.heap.size w w'))
    (HQ : Hid (∀ wz, Below W.heap.size W wz → Q .normal ⟨#[u0, u1, .pointer (some ⟨T2, 0, none⟩), .pointer (some ⟨T3, 0, none⟩), u4, .int .i64 (k : Int), u6, u7, u8, u9, u10, u11, u12, u13, u14, u15, u16, u17, u18, u19, u20, u21, u22, u23, u24, u25, u26, u27, u28, u29, u30, u31, u32, u33, u34, u35, u36, u37, u38, u39, u40, u41, u42, u43, u44, u45, u46, u47, u48, u49, u50, u51, u52, u53, .pointer (some ⟨T2, 12, none⟩), .slice (some ⟨g, 0, none⟩) n c1, .int .i64 (k : Int), .pointer (some ⟨g, k * 4, none⟩), .agg #[.int .u64 a.x0, .int .u64 a.x1, .int .u64 a.x2, .int .u64 a.x3], .pointer (some ⟨T3, 79, none⟩), .slice (some ⟨gE, 0, none⟩) n cE, .int .i64 (k : Int), .pointer (some ⟨gE, k * 26, none⟩), .agg (el r).toArray, .bool true, .bool false, u66, u67, u68, u69, u70, u71, u72, u73, u74, u75, u76, u77, u78, u79, u80, u81, u82, u83, u84], []⟩ wz)) : (Code.region 6 sl6o true).wp Tryd.prog Q ⟨#[u0, u1, .pointer (some ⟨T2, 0, none⟩), .pointer (some ⟨T3, 0, none⟩), u4, .int .i64 (k : Int), u6, u7, u8, u9, u10, u11, u12, u13, u14, u15, u16, u17, u18, u19, u20, u21, u22, u23, u24, u25, u26, u27, u28, u29, u30, u31, u32, u33, u34, u35, u36, u37, u38, u39, u40, u41, u42, u43, u44, u45, u46, u47, u48, u49, u50, u51, u52, u53, u54, u55, u56, u57, u58, u59, u60, u61, u62, u63, u64, u65, u66, u67, u68, u69, u70, u71, u72, u73, u74, u75, u76, u77, u78, u79, u80, u81, u82, u83, u84], []⟩ W := by
  have k0 : (0 : Int) ≤ (k : Int) := by omega
  have k1 : (k : Int) < (n : Int) := by omega
  have UE : Hid (Tryd.prog.underlying 44 = _) := hidden Tryd.underlying44
  have IE := hidden (el_i r)
  refine wp_region_noPanic ?_
  refine wp_region_held_drew (S := (S6 W T2 T3 12 79 g c1 gE cE n k a r)) (by kernel_rfl) (HS.keep (drew_blW W)) (fun hHeld => ?_)
  change wpAnyH Tryd.prog .any sl6o _ _ 12 #[false, false, false, false, false, false, false, false, false, false, false, false] _ _
  clear HS
  refine wpAnyH_take (i := 0) (oi := { dst := some 54, op := Op.fieldAddr 32 (Operand.tmp 2) 3, type := 0, pos := "law.go:123", after := #[], guard := none }) (v := .pointer (some ⟨T2, 12, none⟩)) rfl (by kernel_rfl) (by kernel_rfl) (by kernel_rfl) (fun _ _ _ h => h) (Or.inl ⟨by rfl, fun w0 hSw => ?_⟩) hHeld ?_
  · (obtain ⟨s0, s1, s2, s3, s4, s5, s6, s7⟩ := hSw; clear s0 s7; go_simp)
  simp only [Act.put, List.setIfInBounds_toArray, List.set_cons_zero, List.set_cons_succ]
  refine wpAnyH_take (i := 1) (oi := { dst := some 55, op := Op.load 30 (Operand.tmp 54), type := 30, pos := "law.go:123", after := #[{ on := 0, ground := Ground.data }], guard := none }) (v := .slice (some ⟨g, 0, none⟩) n c1) rfl (by kernel_rfl) (by kernel_rfl) (by kernel_rfl) (fun _ _ _ h => h) (Or.inl ⟨by rfl, fun w0 hSw => ?_⟩) hHeld ?_
  · (obtain ⟨s0, s1, s2, s3, s4, s5, s6, s7⟩ := hSw; clear s0 s7; go_simp)
  simp only [Act.put, List.setIfInBounds_toArray, List.set_cons_zero, List.set_cons_succ]
  refine wpAnyH_take (i := 2) (oi := { dst := some 56, op := Op.move (Operand.tmp 5), type := 3, pos := "law.go:123", after := #[], guard := none }) (v := .int .i64 (k : Int)) rfl (by kernel_rfl) (by kernel_rfl) (by kernel_rfl) (fun _ _ _ h => h) (Or.inl ⟨by rfl, fun w0 hSw => ?_⟩) hHeld ?_
  · (obtain ⟨s0, s1, s2, s3, s4, s5, s6, s7⟩ := hSw; clear s0 s7; go_simp)
  simp only [Act.put, List.setIfInBounds_toArray, List.set_cons_zero, List.set_cons_succ]
  refine wpAnyH_take (i := 3) (oi := { dst := some 57, op := Op.indexAddr 30 (Operand.tmp 55) (Operand.tmp 56), type := 0, pos := "law.go:123", after := #[{ on := 1, ground := Ground.data }, { on := 2, ground := Ground.data }], guard := none }) (v := .pointer (some ⟨g, k * 4, none⟩)) rfl (by kernel_rfl) (by kernel_rfl) (by kernel_rfl) (fun _ _ _ h => h) (Or.inl ⟨by rfl, fun w0 hSw => ?_⟩) hHeld ?_
  · (obtain ⟨s0, s1, s2, s3, s4, s5, s6, s7⟩ := hSw; clear s0 s7; go_simp)
  simp only [Act.put, List.setIfInBounds_toArray, List.set_cons_zero, List.set_cons_succ]
  refine wpAnyH_take (i := 4) (oi := { dst := some 58, op := Op.load 29 (Operand.tmp 57), type := 29, pos := "law.go:123", after := #[{ on := 3, ground := Ground.data }], guard := none }) (v := .agg #[.int .u64 a.x0, .int .u64 a.x1, .int .u64 a.x2, .int .u64 a.x3]) rfl (by kernel_rfl) (by kernel_rfl) (by kernel_rfl) (fun _ _ _ h => h) (Or.inl ⟨by rfl, fun w0 hSw => ?_⟩) hHeld ?_
  · (obtain ⟨s0, s1, s2, s3, s4, s5, s6, s7⟩ := hSw; clear s0 s7; go_simp)
  simp only [Act.put, List.setIfInBounds_toArray, List.set_cons_zero, List.set_cons_succ]
  refine wpAnyH_take (i := 5) (oi := { dst := some 59, op := Op.fieldAddr 47 (Operand.tmp 3) 4, type := 0, pos := "law.go:123", after := #[], guard := none }) (v := .pointer (some ⟨T3, 79, none⟩)) rfl (by kernel_rfl) (by kernel_rfl) (by kernel_rfl) (fun _ _ _ h => h) (Or.inl ⟨by rfl, fun w0 hSw => ?_⟩) hHeld ?_
  · (obtain ⟨s0, s1, s2, s3, s4, s5, s6, s7⟩ := hSw; clear s0 s7; go_simp)
  simp only [Act.put, List.setIfInBounds_toArray, List.set_cons_zero, List.set_cons_succ]
  refine wpAnyH_take (i := 6) (oi := { dst := some 60, op := Op.load 45 (Operand.tmp 59), type := 45, pos := "law.go:123", after := #[{ on := 5, ground := Ground.data }], guard := none }) (v := .slice (some ⟨gE, 0, none⟩) n cE) rfl (by kernel_rfl) (by kernel_rfl) (by kernel_rfl) (fun _ _ _ h => h) (Or.inl ⟨by rfl, fun w0 hSw => ?_⟩) hHeld ?_
  · (obtain ⟨s0, s1, s2, s3, s4, s5, s6, s7⟩ := hSw; clear s0 s7; go_simp)
  simp only [Act.put, List.setIfInBounds_toArray, List.set_cons_zero, List.set_cons_succ]
  refine wpAnyH_take (i := 7) (oi := { dst := some 61, op := Op.move (Operand.tmp 5), type := 3, pos := "law.go:123", after := #[], guard := none }) (v := .int .i64 (k : Int)) rfl (by kernel_rfl) (by kernel_rfl) (by kernel_rfl) (fun _ _ _ h => h) (Or.inl ⟨by rfl, fun w0 hSw => ?_⟩) hHeld ?_
  · (obtain ⟨s0, s1, s2, s3, s4, s5, s6, s7⟩ := hSw; clear s0 s7; go_simp)
  simp only [Act.put, List.setIfInBounds_toArray, List.set_cons_zero, List.set_cons_succ]
  refine wpAnyH_take (i := 8) (oi := { dst := some 62, op := Op.indexAddr 45 (Operand.tmp 60) (Operand.tmp 61), type := 0, pos := "law.go:123", after := #[{ on := 6, ground := Ground.data }, { on := 7, ground := Ground.data }], guard := none }) (v := .pointer (some ⟨gE, k * 26, none⟩)) rfl (by kernel_rfl) (by kernel_rfl) (by kernel_rfl) (fun _ _ _ h => h) (Or.inl ⟨by rfl, fun w0 hSw => ?_⟩) hHeld ?_
  · (obtain ⟨s0, s1, s2, s3, s4, s5, s6, s7⟩ := hSw; clear s0 s7; go_simp)
  simp only [Act.put, List.setIfInBounds_toArray, List.set_cons_zero, List.set_cons_succ]
  refine wpAnyH_take (i := 9) (oi := { dst := some 63, op := Op.load 44 (Operand.tmp 62), type := 44, pos := "law.go:123", after := #[{ on := 8, ground := Ground.data }], guard := none }) (v := .agg (el r).toArray) rfl (by kernel_rfl) (by kernel_rfl) (by kernel_rfl) (fun _ _ _ h => h) (yieldsIf_load_mid (by rfl) 44 _ rfl gE (k * 26) rfl (el r) _ (fun w0 hSw => hSw.2.2.2.2.2.2.2) UE.out rfl IE.out) hHeld ?_
  simp only [Act.put, List.setIfInBounds_toArray, List.set_cons_zero, List.set_cons_succ]
  refine wpAnyH_ready (rs := [10]) (by kernel_rfl) (by simp) ?_
  refine AllReadyH.cons (o := { dst := some 64, op := Op.call { callee := Callee.value (Operand.func 11), args := #[Operand.tmp 58, Operand.tmp 63], argTypes := #[29, 44] }, type := 4, pos := "law.go:123", after := #[{ on := 4, ground := Ground.data }, { on := 9, ground := Ground.data }], guard := none }) rfl (fun K hK => ?_) AllReadyH.nil
  have CC := hidden (C.out _ hHeld.1)
  have HH := hidden hHeld
  clear hHeld
  go_simp
  refine (CC.out).mono ?_
  rintro e wa ⟨rfl, hb⟩
  have SN := hidden (HH.out.keep hb)
  clear hb CC HH
  go_wp2_with fail
  refine hK.out _ _ SN.out (fun hwa => ?_)
  clear hK K
  refine wpAnyH_take (i := 11) (oi := { dst := some 65, op := Op.unOp UnOp.not 4 (Operand.tmp 64), type := 4, pos := "law.go:123", after := #[{ on := 10, ground := Ground.data }], guard := none }) (v := .bool false) rfl (by kernel_rfl) (by kernel_rfl) (by kernel_rfl) (fun _ _ _ h => h) (Or.inl ⟨by rfl, fun w0 hSw => ?_⟩) hwa ?_
  · (obtain ⟨s0, s1, s2, s3, s4, s5, s6, s7⟩ := hSw; clear s0 s7; go_simp)
  simp only [Act.put, List.setIfInBounds_toArray, List.set_cons_zero, List.set_cons_succ]
  refine wpAnyH_done (by kernel_rfl) ?_ _
  exact HQ.out _ hwa.1
def sl11o : Array Oper := #[{ dst := some 73, op := Op.fieldAddr 32 (Operand.tmp 2) 4, type := 0, pos := "law.go:128", after := #[], guard := none },
  { dst := some 74, op := Op.load 30 (Operand.tmp 73), type := 30, pos := "law.go:128", after := #[{ on := 0, ground := Ground.data }], guard := none },
  { dst := some 75, op := Op.move (Operand.tmp 6), type := 3, pos := "law.go:128", after := #[], guard := none },
  { dst := some 76, op := Op.indexAddr 30 (Operand.tmp 74) (Operand.tmp 75), type := 0, pos := "law.go:128", after := #[{ on := 1, ground := Ground.data }, { on := 2, ground := Ground.data }], guard := none },
  { dst := some 77, op := Op.load 29 (Operand.tmp 76), type := 29, pos := "law.go:128", after := #[{ on := 3, ground := Ground.data }], guard := none },
  { dst := some 78, op := Op.fieldAddr 47 (Operand.tmp 3) 5, type := 0, pos := "law.go:128", after := #[], guard := none },
  { dst := some 79, op := Op.load 45 (Operand.tmp 78), type := 45, pos := "law.go:128", after := #[{ on := 5, ground := Ground.data }], guard := none },
  { dst := some 80, op := Op.move (Operand.tmp 6), type := 3, pos := "law.go:128", after := #[], guard := none },
  { dst := some 81, op := Op.indexAddr 45 (Operand.tmp 79) (Operand.tmp 80), type := 0, pos := "law.go:128", after := #[{ on := 6, ground := Ground.data }, { on := 7, ground := Ground.data }], guard := none },
  { dst := some 82, op := Op.load 44 (Operand.tmp 81), type := 44, pos := "law.go:128", after := #[{ on := 8, ground := Ground.data }], guard := none },
  { dst := some 83, op := Op.call { callee := Callee.value (Operand.func 11), args := #[Operand.tmp 77, Operand.tmp 82], argTypes := #[29, 44] }, type := 4, pos := "law.go:128", after := #[{ on := 4, ground := Ground.data }, { on := 9, ground := Ground.data }], guard := none },
  { dst := some 84, op := Op.unOp UnOp.not 4 (Operand.tmp 83), type := 4, pos := "law.go:128", after := #[{ on := 10, ground := Ground.data }], guard := none }]
set_option maxRecDepth 100000 in
set_option maxHeartbeats 8000000 in
theorem sl11 (Q : Exit → Act → World → Prop) (T2 T3 g c1 gE cE n k : Nat) (a r : E4) (u0 u1 u4 u5 u7 u8 u9 u10 u11 u12 u13 u14 u15 u16 u17 u18 u19 u20 u21 u22 u23 u24 u25 u26 u27 u28 u29 u30 u31 u32 u33 u34 u35 u36 u37 u38 u39 u40 u41 u42 u43 u44 u45 u46 u47 u48 u49 u50 u51 u52 u53 u54 u55 u56 u57 u58 u59 u60 u61 u62 u63 u64 u65 u66 u67 u68 u69 u70 u71 u72 u73 u74 u75 u76 u77 u78 u79 u80 u81 u82 u83 u84 : Value) (W : World) (hk : k < n) (HS : S6 W T2 T3 13 80 g c1 gE cE n k a r W) (C : Hid (∀ w, Below W.heap.size W w → Calls Tryd.prog 11 #[.agg #[.int .u64 a.x0, .int .u64 a.x1, .int .u64 a.x2, .int .u64 a.x3], .agg (el r).toArray] w fun e w' => e = .returned (.bool true) ∧ Below w.heap.size w w'))
    (HQ : Hid (∀ wz, Below W.heap.size W wz → Q .normal ⟨#[u0, u1, .pointer (some ⟨T2, 0, none⟩), .pointer (some ⟨T3, 0, none⟩), u4, u5, .int .i64 (k : Int), u7, u8, u9, u10, u11, u12, u13, u14, u15, u16, u17, u18, u19, u20, u21, u22, u23, u24, u25, u26, u27, u28, u29, u30, u31, u32, u33, u34, u35, u36, u37, u38, u39, u40, u41, u42, u43, u44, u45, u46, u47, u48, u49, u50, u51, u52, u53, u54, u55, u56, u57, u58, u59, u60, u61, u62, u63, u64, u65, u66, u67, u68, u69, u70, u71, u72, .pointer (some ⟨T2, 13, none⟩), .slice (some ⟨g, 0, none⟩) n c1, .int .i64 (k : Int), .pointer (some ⟨g, k * 4, none⟩), .agg #[.int .u64 a.x0, .int .u64 a.x1, .int .u64 a.x2, .int .u64 a.x3], .pointer (some ⟨T3, 80, none⟩), .slice (some ⟨gE, 0, none⟩) n cE, .int .i64 (k : Int), .pointer (some ⟨gE, k * 26, none⟩), .agg (el r).toArray, .bool true, .bool false], []⟩ wz)) : (Code.region 11 sl11o true).wp Tryd.prog Q ⟨#[u0, u1, .pointer (some ⟨T2, 0, none⟩), .pointer (some ⟨T3, 0, none⟩), u4, u5, .int .i64 (k : Int), u7, u8, u9, u10, u11, u12, u13, u14, u15, u16, u17, u18, u19, u20, u21, u22, u23, u24, u25, u26, u27, u28, u29, u30, u31, u32, u33, u34, u35, u36, u37, u38, u39, u40, u41, u42, u43, u44, u45, u46, u47, u48, u49, u50, u51, u52, u53, u54, u55, u56, u57, u58, u59, u60, u61, u62, u63, u64, u65, u66, u67, u68, u69, u70, u71, u72, u73, u74, u75, u76, u77, u78, u79, u80, u81, u82, u83, u84], []⟩ W := by
  have k0 : (0 : Int) ≤ (k : Int) := by omega
  have k1 : (k : Int) < (n : Int) := by omega
  have UE : Hid (Tryd.prog.underlying 44 = _) := hidden Tryd.underlying44
  have IE := hidden (el_i r)
  refine wp_region_noPanic ?_
  refine wp_region_held_drew (S := (S6 W T2 T3 13 80 g c1 gE cE n k a r)) (by kernel_rfl) (HS.keep (drew_blW W)) (fun hHeld => ?_)
  change wpAnyH Tryd.prog .any sl11o _ _ 12 #[false, false, false, false, false, false, false, false, false, false, false, false] _ _
  clear HS
  refine wpAnyH_take (i := 0) (oi := { dst := some 73, op := Op.fieldAddr 32 (Operand.tmp 2) 4, type := 0, pos := "law.go:128", after := #[], guard := none }) (v := .pointer (some ⟨T2, 13, none⟩)) rfl (by kernel_rfl) (by kernel_rfl) (by kernel_rfl) (fun _ _ _ h => h) (Or.inl ⟨by rfl, fun w0 hSw => ?_⟩) hHeld ?_
  · (obtain ⟨s0, s1, s2, s3, s4, s5, s6, s7⟩ := hSw; clear s0 s7; go_simp)
  simp only [Act.put, List.setIfInBounds_toArray, List.set_cons_zero, List.set_cons_succ]
  refine wpAnyH_take (i := 1) (oi := { dst := some 74, op := Op.load 30 (Operand.tmp 73), type := 30, pos := "law.go:128", after := #[{ on := 0, ground := Ground.data }], guard := none }) (v := .slice (some ⟨g, 0, none⟩) n c1) rfl (by kernel_rfl) (by kernel_rfl) (by kernel_rfl) (fun _ _ _ h => h) (Or.inl ⟨by rfl, fun w0 hSw => ?_⟩) hHeld ?_
  · (obtain ⟨s0, s1, s2, s3, s4, s5, s6, s7⟩ := hSw; clear s0 s7; go_simp)
  simp only [Act.put, List.setIfInBounds_toArray, List.set_cons_zero, List.set_cons_succ]
  refine wpAnyH_take (i := 2) (oi := { dst := some 75, op := Op.move (Operand.tmp 6), type := 3, pos := "law.go:128", after := #[], guard := none }) (v := .int .i64 (k : Int)) rfl (by kernel_rfl) (by kernel_rfl) (by kernel_rfl) (fun _ _ _ h => h) (Or.inl ⟨by rfl, fun w0 hSw => ?_⟩) hHeld ?_
  · (obtain ⟨s0, s1, s2, s3, s4, s5, s6, s7⟩ := hSw; clear s0 s7; go_simp)
  simp only [Act.put, List.setIfInBounds_toArray, List.set_cons_zero, List.set_cons_succ]
  refine wpAnyH_take (i := 3) (oi := { dst := some 76, op := Op.indexAddr 30 (Operand.tmp 74) (Operand.tmp 75), type := 0, pos := "law.go:128", after := #[{ on := 1, ground := Ground.data }, { on := 2, ground := Ground.data }], guard := none }) (v := .pointer (some ⟨g, k * 4, none⟩)) rfl (by kernel_rfl) (by kernel_rfl) (by kernel_rfl) (fun _ _ _ h => h) (Or.inl ⟨by rfl, fun w0 hSw => ?_⟩) hHeld ?_
  · (obtain ⟨s0, s1, s2, s3, s4, s5, s6, s7⟩ := hSw; clear s0 s7; go_simp)
  simp only [Act.put, List.setIfInBounds_toArray, List.set_cons_zero, List.set_cons_succ]
  refine wpAnyH_take (i := 4) (oi := { dst := some 77, op := Op.load 29 (Operand.tmp 76), type := 29, pos := "law.go:128", after := #[{ on := 3, ground := Ground.data }], guard := none }) (v := .agg #[.int .u64 a.x0, .int .u64 a.x1, .int .u64 a.x2, .int .u64 a.x3]) rfl (by kernel_rfl) (by kernel_rfl) (by kernel_rfl) (fun _ _ _ h => h) (Or.inl ⟨by rfl, fun w0 hSw => ?_⟩) hHeld ?_
  · (obtain ⟨s0, s1, s2, s3, s4, s5, s6, s7⟩ := hSw; clear s0 s7; go_simp)
  simp only [Act.put, List.setIfInBounds_toArray, List.set_cons_zero, List.set_cons_succ]
  refine wpAnyH_take (i := 5) (oi := { dst := some 78, op := Op.fieldAddr 47 (Operand.tmp 3) 5, type := 0, pos := "law.go:128", after := #[], guard := none }) (v := .pointer (some ⟨T3, 80, none⟩)) rfl (by kernel_rfl) (by kernel_rfl) (by kernel_rfl) (fun _ _ _ h => h) (Or.inl ⟨by rfl, fun w0 hSw => ?_⟩) hHeld ?_
  · (obtain ⟨s0, s1, s2, s3, s4, s5, s6, s7⟩ := hSw; clear s0 s7; go_simp)
  simp only [Act.put, List.setIfInBounds_toArray, List.set_cons_zero, List.set_cons_succ]
  refine wpAnyH_take (i := 6) (oi := { dst := some 79, op := Op.load 45 (Operand.tmp 78), type := 45, pos := "law.go:128", after := #[{ on := 5, ground := Ground.data }], guard := none }) (v := .slice (some ⟨gE, 0, none⟩) n cE) rfl (by kernel_rfl) (by kernel_rfl) (by kernel_rfl) (fun _ _ _ h => h) (Or.inl ⟨by rfl, fun w0 hSw => ?_⟩) hHeld ?_
  · (obtain ⟨s0, s1, s2, s3, s4, s5, s6, s7⟩ := hSw; clear s0 s7; go_simp)
  simp only [Act.put, List.setIfInBounds_toArray, List.set_cons_zero, List.set_cons_succ]
  refine wpAnyH_take (i := 7) (oi := { dst := some 80, op := Op.move (Operand.tmp 6), type := 3, pos := "law.go:128", after := #[], guard := none }) (v := .int .i64 (k : Int)) rfl (by kernel_rfl) (by kernel_rfl) (by kernel_rfl) (fun _ _ _ h => h) (Or.inl ⟨by rfl, fun w0 hSw => ?_⟩) hHeld ?_
  · (obtain ⟨s0, s1, s2, s3, s4, s5, s6, s7⟩ := hSw; clear s0 s7; go_simp)
  simp only [Act.put, List.setIfInBounds_toArray, List.set_cons_zero, List.set_cons_succ]
  refine wpAnyH_take (i := 8) (oi := { dst := some 81, op := Op.indexAddr 45 (Operand.tmp 79) (Operand.tmp 80), type := 0, pos := "law.go:128", after := #[{ on := 6, ground := Ground.data }, { on := 7, ground := Ground.data }], guard := none }) (v := .pointer (some ⟨gE, k * 26, none⟩)) rfl (by kernel_rfl) (by kernel_rfl) (by kernel_rfl) (fun _ _ _ h => h) (Or.inl ⟨by rfl, fun w0 hSw => ?_⟩) hHeld ?_
  · (obtain ⟨s0, s1, s2, s3, s4, s5, s6, s7⟩ := hSw; clear s0 s7; go_simp)
  simp only [Act.put, List.setIfInBounds_toArray, List.set_cons_zero, List.set_cons_succ]
  refine wpAnyH_take (i := 9) (oi := { dst := some 82, op := Op.load 44 (Operand.tmp 81), type := 44, pos := "law.go:128", after := #[{ on := 8, ground := Ground.data }], guard := none }) (v := .agg (el r).toArray) rfl (by kernel_rfl) (by kernel_rfl) (by kernel_rfl) (fun _ _ _ h => h) (yieldsIf_load_mid (by rfl) 44 _ rfl gE (k * 26) rfl (el r) _ (fun w0 hSw => hSw.2.2.2.2.2.2.2) UE.out rfl IE.out) hHeld ?_
  simp only [Act.put, List.setIfInBounds_toArray, List.set_cons_zero, List.set_cons_succ]
  refine wpAnyH_ready (rs := [10]) (by kernel_rfl) (by simp) ?_
  refine AllReadyH.cons (o := { dst := some 83, op := Op.call { callee := Callee.value (Operand.func 11), args := #[Operand.tmp 77, Operand.tmp 82], argTypes := #[29, 44] }, type := 4, pos := "law.go:128", after := #[{ on := 4, ground := Ground.data }, { on := 9, ground := Ground.data }], guard := none }) rfl (fun K hK => ?_) AllReadyH.nil
  have CC := hidden (C.out _ hHeld.1)
  have HH := hidden hHeld
  clear hHeld
  go_simp
  refine (CC.out).mono ?_
  rintro e wa ⟨rfl, hb⟩
  have SN := hidden (HH.out.keep hb)
  clear hb CC HH
  go_wp2_with fail
  refine hK.out _ _ SN.out (fun hwa => ?_)
  clear hK K
  refine wpAnyH_take (i := 11) (oi := { dst := some 84, op := Op.unOp UnOp.not 4 (Operand.tmp 83), type := 4, pos := "law.go:128", after := #[{ on := 10, ground := Ground.data }], guard := none }) (v := .bool false) rfl (by kernel_rfl) (by kernel_rfl) (by kernel_rfl) (fun _ _ _ h => h) (Or.inl ⟨by rfl, fun w0 hSw => ?_⟩) hwa ?_
  · (obtain ⟨s0, s1, s2, s3, s4, s5, s6, s7⟩ := hSw; clear s0 s7; go_simp)
  simp only [Act.put, List.setIfInBounds_toArray, List.set_cons_zero, List.set_cons_succ]
  refine wpAnyH_done (by kernel_rfl) ?_ _
  exact HQ.out _ hwa.1
end Go.Proofs.YtlijigolfggcfaaDoor
