import Derived.Test.YtbmbopapmajaaaaDoorCsg
namespace Go.Proofs.YtbmbopapmajaaaaDoor
open Go.RowKit
set_option linter.unusedVariables false
set_option linter.unusedSimpArgs false
open Cm (Wr Tm co bf Ls lf ins Eqm)
namespace Ci
set_option maxRecDepth 100000
set_option maxHeartbeats 4000000
def is6o : Array Oper := #[{ dst := some 17, op := Op.move (Operand.tmp 0), type := 23, pos := "law.go:50", after := #[], guard := none },
  { dst := some 18, op := Op.move (Operand.tmp 5), type := 3, pos := "law.go:50", after := #[], guard := none },
  { dst := some 19, op := Op.indexAddr 23 (Operand.tmp 17) (Operand.tmp 18), type := 0, pos := "law.go:50", after := #[{ on := 0, ground := Ground.data }, { on := 1, ground := Ground.data }], guard := none },
  { dst := some 20, op := Op.fieldAddr 49 (Operand.tmp 19) 0, type := 0, pos := "law.go:50", after := #[{ on := 2, ground := Ground.data }], guard := none },
  { dst := some 21, op := Op.fieldAddr 28 (Operand.tmp 20) 0, type := 0, pos := "law.go:50", after := #[{ on := 3, ground := Ground.data }], guard := none },
  { dst := some 22, op := Op.load 3 (Operand.tmp 21), type := 3, pos := "law.go:50", after := #[{ on := 4, ground := Ground.data }], guard := none },
  { dst := some 23, op := Op.move (Operand.tmp 1), type := 31, pos := "law.go:50", after := #[], guard := none },
  { dst := some 24, op := Op.move (Operand.tmp 5), type := 3, pos := "law.go:50", after := #[], guard := none },
  { dst := some 25, op := Op.indexAddr 31 (Operand.tmp 23) (Operand.tmp 24), type := 0, pos := "law.go:50", after := #[{ on := 6, ground := Ground.data }, { on := 7, ground := Ground.data }], guard := none },
  { dst := some 26, op := Op.fieldAddr 52 (Operand.tmp 25) 0, type := 0, pos := "law.go:50", after := #[{ on := 8, ground := Ground.data }], guard := none },
  { dst := some 27, op := Op.fieldAddr 38 (Operand.tmp 26) 0, type := 0, pos := "law.go:50", after := #[{ on := 9, ground := Ground.data }], guard := none },
  { dst := some 28, op := Op.load 3 (Operand.tmp 27), type := 3, pos := "law.go:50", after := #[{ on := 10, ground := Ground.data }], guard := none },
  { dst := some 29, op := Op.binOp BinOp.neq 3 (Operand.tmp 22) (Operand.tmp 28) 3, type := 4, pos := "law.go:50", after := #[{ on := 5, ground := Ground.data }, { on := 11, ground := Ground.data }], guard := none },
  { dst := some 30, op := Op.move (Operand.tmp 29), type := 4, pos := "law.go:50", after := #[{ on := 12, ground := Ground.data }], guard := none },
  { dst := some 31, op := Op.move (Operand.tmp 0), type := 23, pos := "law.go:50", after := #[{ on := 13, ground := Ground.guard }], guard := some (13, false) },
  { dst := some 32, op := Op.move (Operand.tmp 5), type := 3, pos := "law.go:50", after := #[{ on := 13, ground := Ground.guard }], guard := some (13, false) },
  { dst := some 33, op := Op.indexAddr 23 (Operand.tmp 31) (Operand.tmp 32), type := 0, pos := "law.go:50", after := #[{ on := 14, ground := Ground.data }, { on := 15, ground := Ground.data }, { on := 13, ground := Ground.guard }], guard := some (13, false) },
  { dst := some 34, op := Op.fieldAddr 49 (Operand.tmp 33) 0, type := 0, pos := "law.go:50", after := #[{ on := 16, ground := Ground.data }, { on := 13, ground := Ground.guard }], guard := some (13, false) },
  { dst := some 35, op := Op.fieldAddr 28 (Operand.tmp 34) 1, type := 0, pos := "law.go:50", after := #[{ on := 17, ground := Ground.data }, { on := 13, ground := Ground.guard }], guard := some (13, false) },
  { dst := some 36, op := Op.load 3 (Operand.tmp 35), type := 3, pos := "law.go:50", after := #[{ on := 18, ground := Ground.data }, { on := 13, ground := Ground.guard }], guard := some (13, false) },
  { dst := some 37, op := Op.move (Operand.tmp 1), type := 31, pos := "law.go:50", after := #[{ on := 13, ground := Ground.guard }], guard := some (13, false) },
  { dst := some 38, op := Op.move (Operand.tmp 5), type := 3, pos := "law.go:50", after := #[{ on := 13, ground := Ground.guard }], guard := some (13, false) },
  { dst := some 39, op := Op.indexAddr 31 (Operand.tmp 37) (Operand.tmp 38), type := 0, pos := "law.go:50", after := #[{ on := 20, ground := Ground.data }, { on := 21, ground := Ground.data }, { on := 13, ground := Ground.guard }], guard := some (13, false) },
  { dst := some 40, op := Op.fieldAddr 52 (Operand.tmp 39) 0, type := 0, pos := "law.go:50", after := #[{ on := 22, ground := Ground.data }, { on := 13, ground := Ground.guard }], guard := some (13, false) },
  { dst := some 41, op := Op.fieldAddr 38 (Operand.tmp 40) 1, type := 0, pos := "law.go:50", after := #[{ on := 23, ground := Ground.data }, { on := 13, ground := Ground.guard }], guard := some (13, false) },
  { dst := some 42, op := Op.load 3 (Operand.tmp 41), type := 3, pos := "law.go:50", after := #[{ on := 24, ground := Ground.data }, { on := 13, ground := Ground.guard }], guard := some (13, false) },
  { dst := some 43, op := Op.binOp BinOp.neq 3 (Operand.tmp 36) (Operand.tmp 42) 3, type := 4, pos := "law.go:50", after := #[{ on := 19, ground := Ground.data }, { on := 25, ground := Ground.data }, { on := 13, ground := Ground.guard }], guard := some (13, false) },
  { dst := some 44, op := Op.pick (Operand.tmp 30) (Operand.const (Value.bool true)) (Operand.tmp 43), type := 4, pos := "law.go:50", after := #[{ on := 13, ground := Ground.data }, { on := 26, ground := Ground.data }], guard := none },
  { dst := some 45, op := Op.move (Operand.tmp 44), type := 4, pos := "law.go:50", after := #[{ on := 27, ground := Ground.data }, { on := 13, ground := Ground.chain }], guard := none },
  { dst := some 46, op := Op.move (Operand.tmp 0), type := 23, pos := "law.go:50", after := #[{ on := 28, ground := Ground.guard }], guard := some (28, false) },
  { dst := some 47, op := Op.move (Operand.tmp 5), type := 3, pos := "law.go:50", after := #[{ on := 28, ground := Ground.guard }], guard := some (28, false) },
  { dst := some 48, op := Op.indexAddr 23 (Operand.tmp 46) (Operand.tmp 47), type := 0, pos := "law.go:50", after := #[{ on := 29, ground := Ground.data }, { on := 30, ground := Ground.data }, { on := 28, ground := Ground.guard }], guard := some (28, false) },
  { dst := some 49, op := Op.fieldAddr 49 (Operand.tmp 48) 1, type := 0, pos := "law.go:50", after := #[{ on := 31, ground := Ground.data }, { on := 28, ground := Ground.guard }], guard := some (28, false) },
  { dst := some 50, op := Op.load 26 (Operand.tmp 49), type := 26, pos := "law.go:50", after := #[{ on := 32, ground := Ground.data }, { on := 28, ground := Ground.guard }], guard := some (28, false) },
  { dst := some 51, op := Op.move (Operand.tmp 1), type := 31, pos := "law.go:50", after := #[{ on := 28, ground := Ground.guard }], guard := some (28, false) },
  { dst := some 52, op := Op.move (Operand.tmp 5), type := 3, pos := "law.go:50", after := #[{ on := 28, ground := Ground.guard }], guard := some (28, false) },
  { dst := some 53, op := Op.indexAddr 31 (Operand.tmp 51) (Operand.tmp 52), type := 0, pos := "law.go:50", after := #[{ on := 34, ground := Ground.data }, { on := 35, ground := Ground.data }, { on := 28, ground := Ground.guard }], guard := some (28, false) },
  { dst := some 54, op := Op.fieldAddr 52 (Operand.tmp 53) 1, type := 0, pos := "law.go:50", after := #[{ on := 36, ground := Ground.data }, { on := 28, ground := Ground.guard }], guard := some (28, false) },
  { dst := some 55, op := Op.load 41 (Operand.tmp 54), type := 41, pos := "law.go:50", after := #[{ on := 37, ground := Ground.data }, { on := 28, ground := Ground.guard }], guard := some (28, false) },
  { dst := some 56, op := Op.binOp BinOp.neq 41 (Operand.tmp 50) (Operand.tmp 55) 41, type := 4, pos := "law.go:50", after := #[{ on := 33, ground := Ground.data }, { on := 38, ground := Ground.data }, { on := 28, ground := Ground.guard }], guard := some (28, false) },
  { dst := some 57, op := Op.pick (Operand.tmp 45) (Operand.const (Value.bool true)) (Operand.tmp 56), type := 4, pos := "law.go:50", after := #[{ on := 28, ground := Ground.data }, { on := 39, ground := Ground.data }], guard := none }]
set_option maxRecDepth 100000 in
set_option maxHeartbeats 16000000 in
theorem is6 (Q : Exit → Act → World → Prop) (sa oa ca sb ob cb n i : Nat) (qk qi : Int) (p : E4) (u2 u3 u4 u6 u7 u8 u9 u10 u11 u12 u13 u14 u15 u16 u17 u18 u19 u20 u21 u22 u23 u24 u25 u26 u27 u28 u29 u30 u31 u32 u33 u34 u35 u36 u37 u38 u39 u40 u41 u42 u43 u44 u45 u46 u47 u48 u49 u50 u51 u52 u53 u54 u55 u56 u57 : Value) (W : World)
    (i0 : (0 : Int) ≤ (i : Int)) (i1 : (i : Int) < (n : Int)) (a0 : W.cell? ⟨sa, oa + i * 6, none⟩ = some (.int .i64 qk)) (a1 : W.cell? ⟨sa, oa + i * 6 + 1, none⟩ = some (.int .i64 qi)) (a2 : W.cell? ⟨sa, oa + i * 6 + 2, none⟩ = some (.int .u64 p.x0)) (a3 : W.cell? ⟨sa, oa + i * 6 + 3, none⟩ = some (.int .u64 p.x1)) (a4 : W.cell? ⟨sa, oa + i * 6 + 4, none⟩ = some (.int .u64 p.x2)) (a5 : W.cell? ⟨sa, oa + i * 6 + 5, none⟩ = some (.int .u64 p.x3)) (b0 : W.cell? ⟨sb, ob + i * 6, none⟩ = some (.int .i64 qk)) (b1 : W.cell? ⟨sb, ob + i * 6 + 1, none⟩ = some (.int .i64 qi)) (b2 : W.cell? ⟨sb, ob + i * 6 + 2, none⟩ = some (.int .u64 p.x0)) (b3 : W.cell? ⟨sb, ob + i * 6 + 3, none⟩ = some (.int .u64 p.x1)) (b4 : W.cell? ⟨sb, ob + i * 6 + 4, none⟩ = some (.int .u64 p.x2)) (b5 : W.cell? ⟨sb, ob + i * 6 + 5, none⟩ = some (.int .u64 p.x3))
    (NQ : Hid (∀ y, (Op.equalIn 10000 41 (.agg #[.int .u64 p.x0, .int .u64 p.x1, .int .u64 p.x2, .int .u64 p.x3]) (.agg #[.int .u64 p.x0, .int .u64 p.x1, .int .u64 p.x2, .int .u64 p.x3])).run Tryd.prog y = .ok true y))
    (HQ : Hid (∀ (wz : World), Below W.heap.size W wz → Q .normal ⟨#[.slice (some ⟨sa, oa, none⟩) n ca, .slice (some ⟨sb, ob, none⟩) n cb, u2, u3, u4, .int .i64 (i : Int), u6, u7, u8, u9, u10, u11, u12, u13, u14, u15, u16, .slice (some ⟨sa, oa, none⟩) n ca, .int .i64 (i : Int), .pointer (some ⟨sa, oa + i * 6, none⟩), .pointer (some ⟨sa, oa + i * 6, none⟩), .pointer (some ⟨sa, oa + i * 6, none⟩), .int .i64 qk, .slice (some ⟨sb, ob, none⟩) n cb, .int .i64 (i : Int), .pointer (some ⟨sb, ob + i * 6, none⟩), .pointer (some ⟨sb, ob + i * 6, none⟩), .pointer (some ⟨sb, ob + i * 6, none⟩), .int .i64 qk, .bool false, .bool false, .slice (some ⟨sa, oa, none⟩) n ca, .int .i64 (i : Int), .pointer (some ⟨sa, oa + i * 6, none⟩), .pointer (some ⟨sa, oa + i * 6, none⟩), .pointer (some ⟨sa, oa + i * 6 + 1, none⟩), .int .i64 qi, .slice (some ⟨sb, ob, none⟩) n cb, .int .i64 (i : Int), .pointer (some ⟨sb, ob + i * 6, none⟩), .pointer (some ⟨sb, ob + i * 6, none⟩), .pointer (some ⟨sb, ob + i * 6 + 1, none⟩), .int .i64 qi, .bool false, .bool false, .bool false, .slice (some ⟨sa, oa, none⟩) n ca, .int .i64 (i : Int), .pointer (some ⟨sa, oa + i * 6, none⟩), .pointer (some ⟨sa, oa + i * 6 + 2, none⟩), .agg #[.int .u64 p.x0, .int .u64 p.x1, .int .u64 p.x2, .int .u64 p.x3], .slice (some ⟨sb, ob, none⟩) n cb, .int .i64 (i : Int), .pointer (some ⟨sb, ob + i * 6, none⟩), .pointer (some ⟨sb, ob + i * 6 + 2, none⟩), .agg #[.int .u64 p.x0, .int .u64 p.x1, .int .u64 p.x2, .int .u64 p.x3], .bool false, .bool false], []⟩ wz)) : (Code.region 6 is6o true).wp Tryd.prog Q ⟨#[.slice (some ⟨sa, oa, none⟩) n ca, .slice (some ⟨sb, ob, none⟩) n cb, u2, u3, u4, .int .i64 (i : Int), u6, u7, u8, u9, u10, u11, u12, u13, u14, u15, u16, u17, u18, u19, u20, u21, u22, u23, u24, u25, u26, u27, u28, u29, u30, u31, u32, u33, u34, u35, u36, u37, u38, u39, u40, u41, u42, u43, u44, u45, u46, u47, u48, u49, u50, u51, u52, u53, u54, u55, u56, u57], []⟩ W := by
  unfold is6o
  refine wp_region_noPanic ?_
  refine wp_region_held_drew (S := fun x => Below W.heap.size W x) (by kernel_rfl) (bl_drew W) (fun hH0 => ?_)
  refine wpAnyH_take (i := 0) (oi := { dst := some 17, op := Op.move (Operand.tmp 0), type := 23, pos := "law.go:50", after := #[], guard := none }) (v := .slice (some ⟨sa, oa, none⟩) n ca) rfl (by kernel_rfl) (by kernel_rfl) (by kernel_rfl) (fun _ _ _ h => h) (Or.inl ⟨by rfl, fun w0 hSw => ?_⟩) hH0 ?_
  · (clear hSw; go_simp)
  simp only [Act.put, List.setIfInBounds_toArray, List.set_cons_zero, List.set_cons_succ]
  refine wpAnyH_take (i := 1) (oi := { dst := some 18, op := Op.move (Operand.tmp 5), type := 3, pos := "law.go:50", after := #[], guard := none }) (v := .int .i64 (i : Int)) rfl (by kernel_rfl) (by kernel_rfl) (by kernel_rfl) (fun _ _ _ h => h) (Or.inl ⟨by rfl, fun w0 hSw => ?_⟩) hH0 ?_
  · (clear hSw; go_simp)
  simp only [Act.put, List.setIfInBounds_toArray, List.set_cons_zero, List.set_cons_succ]
  refine wpAnyH_take (i := 6) (oi := { dst := some 23, op := Op.move (Operand.tmp 1), type := 31, pos := "law.go:50", after := #[], guard := none }) (v := .slice (some ⟨sb, ob, none⟩) n cb) rfl (by kernel_rfl) (by kernel_rfl) (by kernel_rfl) (fun _ _ _ h => h) (Or.inl ⟨by rfl, fun w0 hSw => ?_⟩) hH0 ?_
  · (clear hSw; go_simp)
  simp only [Act.put, List.setIfInBounds_toArray, List.set_cons_zero, List.set_cons_succ]
  refine wpAnyH_take (i := 7) (oi := { dst := some 24, op := Op.move (Operand.tmp 5), type := 3, pos := "law.go:50", after := #[], guard := none }) (v := .int .i64 (i : Int)) rfl (by kernel_rfl) (by kernel_rfl) (by kernel_rfl) (fun _ _ _ h => h) (Or.inl ⟨by rfl, fun w0 hSw => ?_⟩) hH0 ?_
  · (clear hSw; go_simp)
  simp only [Act.put, List.setIfInBounds_toArray, List.set_cons_zero, List.set_cons_succ]
  refine wpAnyH_take (i := 2) (oi := { dst := some 19, op := Op.indexAddr 23 (Operand.tmp 17) (Operand.tmp 18), type := 0, pos := "law.go:50", after := #[{ on := 0, ground := Ground.data }, { on := 1, ground := Ground.data }], guard := none }) (v := .pointer (some ⟨sa, oa + i * 6, none⟩)) rfl (by kernel_rfl) (by kernel_rfl) (by kernel_rfl) (fun _ _ _ h => h) (Or.inl ⟨by rfl, fun w0 hSw => ?_⟩) hH0 ?_
  · (clear hSw; go_simp)
  simp only [Act.put, List.setIfInBounds_toArray, List.set_cons_zero, List.set_cons_succ]
  refine wpAnyH_take (i := 8) (oi := { dst := some 25, op := Op.indexAddr 31 (Operand.tmp 23) (Operand.tmp 24), type := 0, pos := "law.go:50", after := #[{ on := 6, ground := Ground.data }, { on := 7, ground := Ground.data }], guard := none }) (v := .pointer (some ⟨sb, ob + i * 6, none⟩)) rfl (by kernel_rfl) (by kernel_rfl) (by kernel_rfl) (fun _ _ _ h => h) (Or.inl ⟨by rfl, fun w0 hSw => ?_⟩) hH0 ?_
  · (clear hSw; go_simp)
  simp only [Act.put, List.setIfInBounds_toArray, List.set_cons_zero, List.set_cons_succ]
  refine wpAnyH_take (i := 3) (oi := { dst := some 20, op := Op.fieldAddr 49 (Operand.tmp 19) 0, type := 0, pos := "law.go:50", after := #[{ on := 2, ground := Ground.data }], guard := none }) (v := .pointer (some ⟨sa, oa + i * 6, none⟩)) rfl (by kernel_rfl) (by kernel_rfl) (by kernel_rfl) (fun _ _ _ h => h) (Or.inl ⟨by rfl, fun w0 hSw => ?_⟩) hH0 ?_
  · (clear hSw; go_simp)
  simp only [Act.put, List.setIfInBounds_toArray, List.set_cons_zero, List.set_cons_succ]
  refine wpAnyH_take (i := 9) (oi := { dst := some 26, op := Op.fieldAddr 52 (Operand.tmp 25) 0, type := 0, pos := "law.go:50", after := #[{ on := 8, ground := Ground.data }], guard := none }) (v := .pointer (some ⟨sb, ob + i * 6, none⟩)) rfl (by kernel_rfl) (by kernel_rfl) (by kernel_rfl) (fun _ _ _ h => h) (Or.inl ⟨by rfl, fun w0 hSw => ?_⟩) hH0 ?_
  · (clear hSw; go_simp)
  simp only [Act.put, List.setIfInBounds_toArray, List.set_cons_zero, List.set_cons_succ]
  refine wpAnyH_take (i := 4) (oi := { dst := some 21, op := Op.fieldAddr 28 (Operand.tmp 20) 0, type := 0, pos := "law.go:50", after := #[{ on := 3, ground := Ground.data }], guard := none }) (v := .pointer (some ⟨sa, oa + i * 6, none⟩)) rfl (by kernel_rfl) (by kernel_rfl) (by kernel_rfl) (fun _ _ _ h => h) (Or.inl ⟨by rfl, fun w0 hSw => ?_⟩) hH0 ?_
  · (clear hSw; go_simp)
  simp only [Act.put, List.setIfInBounds_toArray, List.set_cons_zero, List.set_cons_succ]
  refine wpAnyH_take (i := 10) (oi := { dst := some 27, op := Op.fieldAddr 38 (Operand.tmp 26) 0, type := 0, pos := "law.go:50", after := #[{ on := 9, ground := Ground.data }], guard := none }) (v := .pointer (some ⟨sb, ob + i * 6, none⟩)) rfl (by kernel_rfl) (by kernel_rfl) (by kernel_rfl) (fun _ _ _ h => h) (Or.inl ⟨by rfl, fun w0 hSw => ?_⟩) hH0 ?_
  · (clear hSw; go_simp)
  simp only [Act.put, List.setIfInBounds_toArray, List.set_cons_zero, List.set_cons_succ]
  refine wpAnyH_take (i := 5) (oi := { dst := some 22, op := Op.load 3 (Operand.tmp 21), type := 3, pos := "law.go:50", after := #[{ on := 4, ground := Ground.data }], guard := none }) (v := .int .i64 qk) rfl (by kernel_rfl) (by kernel_rfl) (by kernel_rfl) (fun _ _ _ h => h) (Or.inl ⟨by rfl, fun w0 hSw => ?_⟩) hH0 ?_
  · (have hS : Below W.heap.size W w0 := hSw; have a0 := cell_keep a0 hS; clear hS hSw; go_simp)
  simp only [Act.put, List.setIfInBounds_toArray, List.set_cons_zero, List.set_cons_succ]
  refine wpAnyH_take (i := 11) (oi := { dst := some 28, op := Op.load 3 (Operand.tmp 27), type := 3, pos := "law.go:50", after := #[{ on := 10, ground := Ground.data }], guard := none }) (v := .int .i64 qk) rfl (by kernel_rfl) (by kernel_rfl) (by kernel_rfl) (fun _ _ _ h => h) (Or.inl ⟨by rfl, fun w0 hSw => ?_⟩) hH0 ?_
  · (have hS : Below W.heap.size W w0 := hSw; have a0 := cell_keep b0 hS; clear hS hSw; go_simp)
  simp only [Act.put, List.setIfInBounds_toArray, List.set_cons_zero, List.set_cons_succ]
  refine wpAnyH_take (i := 12) (oi := { dst := some 29, op := Op.binOp BinOp.neq 3 (Operand.tmp 22) (Operand.tmp 28) 3, type := 4, pos := "law.go:50", after := #[{ on := 5, ground := Ground.data }, { on := 11, ground := Ground.data }], guard := none }) (v := .bool false) rfl (by kernel_rfl) (by kernel_rfl) (by kernel_rfl) (fun _ _ _ h => h) (Or.inl ⟨by rfl, fun w0 hSw => ?_⟩) hH0 ?_
  · (clear hSw; go_simp)
  simp only [Act.put, List.setIfInBounds_toArray, List.set_cons_zero, List.set_cons_succ]
  refine wpAnyH_take (i := 13) (oi := { dst := some 30, op := Op.move (Operand.tmp 29), type := 4, pos := "law.go:50", after := #[{ on := 12, ground := Ground.data }], guard := none }) (v := .bool false) rfl (by kernel_rfl) (by kernel_rfl) (by kernel_rfl) (fun _ _ _ h => h) (Or.inl ⟨by rfl, fun w0 hSw => ?_⟩) hH0 ?_
  · (clear hSw; go_simp)
  simp only [Act.put, List.setIfInBounds_toArray, List.set_cons_zero, List.set_cons_succ]
  refine wpAnyH_take (i := 14) (oi := { dst := some 31, op := Op.move (Operand.tmp 0), type := 23, pos := "law.go:50", after := #[{ on := 13, ground := Ground.guard }], guard := some (13, false) }) (v := .slice (some ⟨sa, oa, none⟩) n ca) rfl (by kernel_rfl) (by kernel_rfl) (by kernel_rfl) (fun _ _ _ h => h) (Or.inl ⟨by rfl, fun w0 hSw => ?_⟩) hH0 ?_
  · (clear hSw; go_simp)
  simp only [Act.put, List.setIfInBounds_toArray, List.set_cons_zero, List.set_cons_succ]
  refine wpAnyH_take (i := 15) (oi := { dst := some 32, op := Op.move (Operand.tmp 5), type := 3, pos := "law.go:50", after := #[{ on := 13, ground := Ground.guard }], guard := some (13, false) }) (v := .int .i64 (i : Int)) rfl (by kernel_rfl) (by kernel_rfl) (by kernel_rfl) (fun _ _ _ h => h) (Or.inl ⟨by rfl, fun w0 hSw => ?_⟩) hH0 ?_
  · (clear hSw; go_simp)
  simp only [Act.put, List.setIfInBounds_toArray, List.set_cons_zero, List.set_cons_succ]
  refine wpAnyH_take (i := 20) (oi := { dst := some 37, op := Op.move (Operand.tmp 1), type := 31, pos := "law.go:50", after := #[{ on := 13, ground := Ground.guard }], guard := some (13, false) }) (v := .slice (some ⟨sb, ob, none⟩) n cb) rfl (by kernel_rfl) (by kernel_rfl) (by kernel_rfl) (fun _ _ _ h => h) (Or.inl ⟨by rfl, fun w0 hSw => ?_⟩) hH0 ?_
  · (clear hSw; go_simp)
  simp only [Act.put, List.setIfInBounds_toArray, List.set_cons_zero, List.set_cons_succ]
  refine wpAnyH_take (i := 21) (oi := { dst := some 38, op := Op.move (Operand.tmp 5), type := 3, pos := "law.go:50", after := #[{ on := 13, ground := Ground.guard }], guard := some (13, false) }) (v := .int .i64 (i : Int)) rfl (by kernel_rfl) (by kernel_rfl) (by kernel_rfl) (fun _ _ _ h => h) (Or.inl ⟨by rfl, fun w0 hSw => ?_⟩) hH0 ?_
  · (clear hSw; go_simp)
  simp only [Act.put, List.setIfInBounds_toArray, List.set_cons_zero, List.set_cons_succ]
  refine wpAnyH_take (i := 16) (oi := { dst := some 33, op := Op.indexAddr 23 (Operand.tmp 31) (Operand.tmp 32), type := 0, pos := "law.go:50", after := #[{ on := 14, ground := Ground.data }, { on := 15, ground := Ground.data }, { on := 13, ground := Ground.guard }], guard := some (13, false) }) (v := .pointer (some ⟨sa, oa + i * 6, none⟩)) rfl (by kernel_rfl) (by kernel_rfl) (by kernel_rfl) (fun _ _ _ h => h) (Or.inl ⟨by rfl, fun w0 hSw => ?_⟩) hH0 ?_
  · (clear hSw; go_simp)
  simp only [Act.put, List.setIfInBounds_toArray, List.set_cons_zero, List.set_cons_succ]
  refine wpAnyH_take (i := 22) (oi := { dst := some 39, op := Op.indexAddr 31 (Operand.tmp 37) (Operand.tmp 38), type := 0, pos := "law.go:50", after := #[{ on := 20, ground := Ground.data }, { on := 21, ground := Ground.data }, { on := 13, ground := Ground.guard }], guard := some (13, false) }) (v := .pointer (some ⟨sb, ob + i * 6, none⟩)) rfl (by kernel_rfl) (by kernel_rfl) (by kernel_rfl) (fun _ _ _ h => h) (Or.inl ⟨by rfl, fun w0 hSw => ?_⟩) hH0 ?_
  · (clear hSw; go_simp)
  simp only [Act.put, List.setIfInBounds_toArray, List.set_cons_zero, List.set_cons_succ]
  refine wpAnyH_take (i := 17) (oi := { dst := some 34, op := Op.fieldAddr 49 (Operand.tmp 33) 0, type := 0, pos := "law.go:50", after := #[{ on := 16, ground := Ground.data }, { on := 13, ground := Ground.guard }], guard := some (13, false) }) (v := .pointer (some ⟨sa, oa + i * 6, none⟩)) rfl (by kernel_rfl) (by kernel_rfl) (by kernel_rfl) (fun _ _ _ h => h) (Or.inl ⟨by rfl, fun w0 hSw => ?_⟩) hH0 ?_
  · (clear hSw; go_simp)
  simp only [Act.put, List.setIfInBounds_toArray, List.set_cons_zero, List.set_cons_succ]
  refine wpAnyH_take (i := 23) (oi := { dst := some 40, op := Op.fieldAddr 52 (Operand.tmp 39) 0, type := 0, pos := "law.go:50", after := #[{ on := 22, ground := Ground.data }, { on := 13, ground := Ground.guard }], guard := some (13, false) }) (v := .pointer (some ⟨sb, ob + i * 6, none⟩)) rfl (by kernel_rfl) (by kernel_rfl) (by kernel_rfl) (fun _ _ _ h => h) (Or.inl ⟨by rfl, fun w0 hSw => ?_⟩) hH0 ?_
  · (clear hSw; go_simp)
  simp only [Act.put, List.setIfInBounds_toArray, List.set_cons_zero, List.set_cons_succ]
  refine wpAnyH_take (i := 18) (oi := { dst := some 35, op := Op.fieldAddr 28 (Operand.tmp 34) 1, type := 0, pos := "law.go:50", after := #[{ on := 17, ground := Ground.data }, { on := 13, ground := Ground.guard }], guard := some (13, false) }) (v := .pointer (some ⟨sa, oa + i * 6 + 1, none⟩)) rfl (by kernel_rfl) (by kernel_rfl) (by kernel_rfl) (fun _ _ _ h => h) (Or.inl ⟨by rfl, fun w0 hSw => ?_⟩) hH0 ?_
  · (clear hSw; go_simp)
  simp only [Act.put, List.setIfInBounds_toArray, List.set_cons_zero, List.set_cons_succ]
  refine wpAnyH_take (i := 24) (oi := { dst := some 41, op := Op.fieldAddr 38 (Operand.tmp 40) 1, type := 0, pos := "law.go:50", after := #[{ on := 23, ground := Ground.data }, { on := 13, ground := Ground.guard }], guard := some (13, false) }) (v := .pointer (some ⟨sb, ob + i * 6 + 1, none⟩)) rfl (by kernel_rfl) (by kernel_rfl) (by kernel_rfl) (fun _ _ _ h => h) (Or.inl ⟨by rfl, fun w0 hSw => ?_⟩) hH0 ?_
  · (clear hSw; go_simp)
  simp only [Act.put, List.setIfInBounds_toArray, List.set_cons_zero, List.set_cons_succ]
  refine wpAnyH_take (i := 19) (oi := { dst := some 36, op := Op.load 3 (Operand.tmp 35), type := 3, pos := "law.go:50", after := #[{ on := 18, ground := Ground.data }, { on := 13, ground := Ground.guard }], guard := some (13, false) }) (v := .int .i64 qi) rfl (by kernel_rfl) (by kernel_rfl) (by kernel_rfl) (fun _ _ _ h => h) (Or.inl ⟨by rfl, fun w0 hSw => ?_⟩) hH0 ?_
  · (have hS : Below W.heap.size W w0 := hSw; have a0 := cell_keep a1 hS; clear hS hSw; go_simp)
  simp only [Act.put, List.setIfInBounds_toArray, List.set_cons_zero, List.set_cons_succ]
  refine wpAnyH_take (i := 25) (oi := { dst := some 42, op := Op.load 3 (Operand.tmp 41), type := 3, pos := "law.go:50", after := #[{ on := 24, ground := Ground.data }, { on := 13, ground := Ground.guard }], guard := some (13, false) }) (v := .int .i64 qi) rfl (by kernel_rfl) (by kernel_rfl) (by kernel_rfl) (fun _ _ _ h => h) (Or.inl ⟨by rfl, fun w0 hSw => ?_⟩) hH0 ?_
  · (have hS : Below W.heap.size W w0 := hSw; have a0 := cell_keep b1 hS; clear hS hSw; go_simp)
  simp only [Act.put, List.setIfInBounds_toArray, List.set_cons_zero, List.set_cons_succ]
  refine wpAnyH_take (i := 26) (oi := { dst := some 43, op := Op.binOp BinOp.neq 3 (Operand.tmp 36) (Operand.tmp 42) 3, type := 4, pos := "law.go:50", after := #[{ on := 19, ground := Ground.data }, { on := 25, ground := Ground.data }, { on := 13, ground := Ground.guard }], guard := some (13, false) }) (v := .bool false) rfl (by kernel_rfl) (by kernel_rfl) (by kernel_rfl) (fun _ _ _ h => h) (Or.inl ⟨by rfl, fun w0 hSw => ?_⟩) hH0 ?_
  · (clear hSw; go_simp)
  simp only [Act.put, List.setIfInBounds_toArray, List.set_cons_zero, List.set_cons_succ]
  refine wpAnyH_take (i := 27) (oi := { dst := some 44, op := Op.pick (Operand.tmp 30) (Operand.const (Value.bool true)) (Operand.tmp 43), type := 4, pos := "law.go:50", after := #[{ on := 13, ground := Ground.data }, { on := 26, ground := Ground.data }], guard := none }) (v := .bool false) rfl (by kernel_rfl) (by kernel_rfl) (by kernel_rfl) (fun _ _ _ h => h) (Or.inl ⟨by rfl, fun w0 hSw => ?_⟩) hH0 ?_
  · (clear hSw; go_simp)
  simp only [Act.put, List.setIfInBounds_toArray, List.set_cons_zero, List.set_cons_succ]
  refine wpAnyH_take (i := 28) (oi := { dst := some 45, op := Op.move (Operand.tmp 44), type := 4, pos := "law.go:50", after := #[{ on := 27, ground := Ground.data }, { on := 13, ground := Ground.chain }], guard := none }) (v := .bool false) rfl (by kernel_rfl) (by kernel_rfl) (by kernel_rfl) (fun _ _ _ h => h) (Or.inl ⟨by rfl, fun w0 hSw => ?_⟩) hH0 ?_
  · (clear hSw; go_simp)
  simp only [Act.put, List.setIfInBounds_toArray, List.set_cons_zero, List.set_cons_succ]
  refine wpAnyH_take (i := 29) (oi := { dst := some 46, op := Op.move (Operand.tmp 0), type := 23, pos := "law.go:50", after := #[{ on := 28, ground := Ground.guard }], guard := some (28, false) }) (v := .slice (some ⟨sa, oa, none⟩) n ca) rfl (by kernel_rfl) (by kernel_rfl) (by kernel_rfl) (fun _ _ _ h => h) (Or.inl ⟨by rfl, fun w0 hSw => ?_⟩) hH0 ?_
  · (clear hSw; go_simp)
  simp only [Act.put, List.setIfInBounds_toArray, List.set_cons_zero, List.set_cons_succ]
  refine wpAnyH_take (i := 30) (oi := { dst := some 47, op := Op.move (Operand.tmp 5), type := 3, pos := "law.go:50", after := #[{ on := 28, ground := Ground.guard }], guard := some (28, false) }) (v := .int .i64 (i : Int)) rfl (by kernel_rfl) (by kernel_rfl) (by kernel_rfl) (fun _ _ _ h => h) (Or.inl ⟨by rfl, fun w0 hSw => ?_⟩) hH0 ?_
  · (clear hSw; go_simp)
  simp only [Act.put, List.setIfInBounds_toArray, List.set_cons_zero, List.set_cons_succ]
  refine wpAnyH_take (i := 34) (oi := { dst := some 51, op := Op.move (Operand.tmp 1), type := 31, pos := "law.go:50", after := #[{ on := 28, ground := Ground.guard }], guard := some (28, false) }) (v := .slice (some ⟨sb, ob, none⟩) n cb) rfl (by kernel_rfl) (by kernel_rfl) (by kernel_rfl) (fun _ _ _ h => h) (Or.inl ⟨by rfl, fun w0 hSw => ?_⟩) hH0 ?_
  · (clear hSw; go_simp)
  simp only [Act.put, List.setIfInBounds_toArray, List.set_cons_zero, List.set_cons_succ]
  refine wpAnyH_take (i := 35) (oi := { dst := some 52, op := Op.move (Operand.tmp 5), type := 3, pos := "law.go:50", after := #[{ on := 28, ground := Ground.guard }], guard := some (28, false) }) (v := .int .i64 (i : Int)) rfl (by kernel_rfl) (by kernel_rfl) (by kernel_rfl) (fun _ _ _ h => h) (Or.inl ⟨by rfl, fun w0 hSw => ?_⟩) hH0 ?_
  · (clear hSw; go_simp)
  simp only [Act.put, List.setIfInBounds_toArray, List.set_cons_zero, List.set_cons_succ]
  refine wpAnyH_take (i := 31) (oi := { dst := some 48, op := Op.indexAddr 23 (Operand.tmp 46) (Operand.tmp 47), type := 0, pos := "law.go:50", after := #[{ on := 29, ground := Ground.data }, { on := 30, ground := Ground.data }, { on := 28, ground := Ground.guard }], guard := some (28, false) }) (v := .pointer (some ⟨sa, oa + i * 6, none⟩)) rfl (by kernel_rfl) (by kernel_rfl) (by kernel_rfl) (fun _ _ _ h => h) (Or.inl ⟨by rfl, fun w0 hSw => ?_⟩) hH0 ?_
  · (clear hSw; go_simp)
  simp only [Act.put, List.setIfInBounds_toArray, List.set_cons_zero, List.set_cons_succ]
  refine wpAnyH_take (i := 36) (oi := { dst := some 53, op := Op.indexAddr 31 (Operand.tmp 51) (Operand.tmp 52), type := 0, pos := "law.go:50", after := #[{ on := 34, ground := Ground.data }, { on := 35, ground := Ground.data }, { on := 28, ground := Ground.guard }], guard := some (28, false) }) (v := .pointer (some ⟨sb, ob + i * 6, none⟩)) rfl (by kernel_rfl) (by kernel_rfl) (by kernel_rfl) (fun _ _ _ h => h) (Or.inl ⟨by rfl, fun w0 hSw => ?_⟩) hH0 ?_
  · (clear hSw; go_simp)
  simp only [Act.put, List.setIfInBounds_toArray, List.set_cons_zero, List.set_cons_succ]
  refine wpAnyH_take (i := 32) (oi := { dst := some 49, op := Op.fieldAddr 49 (Operand.tmp 48) 1, type := 0, pos := "law.go:50", after := #[{ on := 31, ground := Ground.data }, { on := 28, ground := Ground.guard }], guard := some (28, false) }) (v := .pointer (some ⟨sa, oa + i * 6 + 2, none⟩)) rfl (by kernel_rfl) (by kernel_rfl) (by kernel_rfl) (fun _ _ _ h => h) (Or.inl ⟨by rfl, fun w0 hSw => ?_⟩) hH0 ?_
  · (clear hSw; go_simp)
  simp only [Act.put, List.setIfInBounds_toArray, List.set_cons_zero, List.set_cons_succ]
  refine wpAnyH_take (i := 37) (oi := { dst := some 54, op := Op.fieldAddr 52 (Operand.tmp 53) 1, type := 0, pos := "law.go:50", after := #[{ on := 36, ground := Ground.data }, { on := 28, ground := Ground.guard }], guard := some (28, false) }) (v := .pointer (some ⟨sb, ob + i * 6 + 2, none⟩)) rfl (by kernel_rfl) (by kernel_rfl) (by kernel_rfl) (fun _ _ _ h => h) (Or.inl ⟨by rfl, fun w0 hSw => ?_⟩) hH0 ?_
  · (clear hSw; go_simp)
  simp only [Act.put, List.setIfInBounds_toArray, List.set_cons_zero, List.set_cons_succ]
  refine wpAnyH_take (i := 33) (oi := { dst := some 50, op := Op.load 26 (Operand.tmp 49), type := 26, pos := "law.go:50", after := #[{ on := 32, ground := Ground.data }, { on := 28, ground := Ground.guard }], guard := some (28, false) }) (v := .agg #[.int .u64 p.x0, .int .u64 p.x1, .int .u64 p.x2, .int .u64 p.x3]) rfl (by kernel_rfl) (by kernel_rfl) (by kernel_rfl) (fun _ _ _ h => h) (Or.inl ⟨by rfl, fun w0 hSw => ?_⟩) hH0 ?_
  · (have hS : Below W.heap.size W w0 := hSw; have a0 := cell_keep a2 hS; have a1 := cell_keep a3 hS; have a2 := cell_keep a4 hS; have a3 := cell_keep a5 hS; clear hS hSw; go_simp)
  simp only [Act.put, List.setIfInBounds_toArray, List.set_cons_zero, List.set_cons_succ]
  refine wpAnyH_take (i := 38) (oi := { dst := some 55, op := Op.load 41 (Operand.tmp 54), type := 41, pos := "law.go:50", after := #[{ on := 37, ground := Ground.data }, { on := 28, ground := Ground.guard }], guard := some (28, false) }) (v := .agg #[.int .u64 p.x0, .int .u64 p.x1, .int .u64 p.x2, .int .u64 p.x3]) rfl (by kernel_rfl) (by kernel_rfl) (by kernel_rfl) (fun _ _ _ h => h) (Or.inl ⟨by rfl, fun w0 hSw => ?_⟩) hH0 ?_
  · (have hS : Below W.heap.size W w0 := hSw; have a0 := cell_keep b2 hS; have a1 := cell_keep b3 hS; have a2 := cell_keep b4 hS; have a3 := cell_keep b5 hS; clear hS hSw; go_simp)
  simp only [Act.put, List.setIfInBounds_toArray, List.set_cons_zero, List.set_cons_succ]
  refine wpAnyH_take (i := 39) (oi := { dst := some 56, op := Op.binOp BinOp.neq 41 (Operand.tmp 50) (Operand.tmp 55) 41, type := 4, pos := "law.go:50", after := #[{ on := 33, ground := Ground.data }, { on := 38, ground := Ground.data }, { on := 28, ground := Ground.guard }], guard := some (28, false) }) (v := .bool false) rfl (by kernel_rfl) (by kernel_rfl) (by kernel_rfl) (fun _ _ _ h => h) (Or.inl ⟨by rfl, fun w0 hSw => ?_⟩) hH0 ?_
  · (clear hSw; have e0 := NQ.out w0; go_simp)
  simp only [Act.put, List.setIfInBounds_toArray, List.set_cons_zero, List.set_cons_succ]
  refine wpAnyH_take (i := 40) (oi := { dst := some 57, op := Op.pick (Operand.tmp 45) (Operand.const (Value.bool true)) (Operand.tmp 56), type := 4, pos := "law.go:50", after := #[{ on := 28, ground := Ground.data }, { on := 39, ground := Ground.data }], guard := none }) (v := .bool false) rfl (by kernel_rfl) (by kernel_rfl) (by kernel_rfl) (fun _ _ _ h => h) (Or.inl ⟨by rfl, fun w0 hSw => ?_⟩) hH0 ?_
  · (clear hSw; go_simp)
  simp only [Act.put, List.setIfInBounds_toArray, List.set_cons_zero, List.set_cons_succ]
  have HH := hidden hH0
  have FQ := hidden (HQ.out _ HH.out)
  refine wpAnyH_done (by kernel_rfl) ?_ _
  refine NoPanic.normal ?_
  exact FQ.out
theorem same_self (p : E4) : p.same p = true := (E4.same_iff _ _).2 rfl
theorem is_any (P Q : Option Addr) (ca cb : Nat) (X : List Tm) (w : World) (hn : X.length ≤ 2932031007402) (hA : Lt w P X.length (ft X)) (hB : Lt w Q X.length (ft X)) :
    Calls Tryd.prog 20 #[.slice P X.length ca, .slice Q X.length cb] w fun e w' => e = .returned (.bool true) ∧ Below w.heap.size w w' := by
  have HA := hidden hA
  have HB := hidden hB
  have HS := hidden hn
  have R0 := hidden (Below.refl w.heap.size w)
  clear hA hB hn
  go_enter Tryd.func20, Tryd.ntmps20
  go_upto_region 4 with fail
  go_loopw [5] (fun iv w' => ∃ i : Nat, i ≤ X.length ∧ iv = .int .i64 (i : Int) ∧ Hid (Below w.heap.size w w')) (fun i _ => X.length - (intOf i).toNat)
  case atStart => exact ⟨0, by omega, rfl, R0⟩
  case round =>
    clear R0
    obtain ⟨i, hi, rfl, hR⟩ := hrel
    by_cases hin : i < X.length
    · have i1 : (i : Int) < (X.length : Int) := by omega
      have i0 : (0 : Int) ≤ (i : Int) := by omega
      have w9 : IntKind.i64.wrap ((i : Int) + 1) = (i : Int) + 1 := IntWalk.i64_in _ (by have := HS.out; omega)
      obtain ⟨x, hx⟩ : ∃ x, X[i]? = some x := ⟨X[i], by simp [hin]⟩
      have fx := ft_at hx
      obtain ⟨⟨xk, xi⟩, xm⟩ := x
      obtain ⟨sa, oa, hPs, hRt⟩ := HA.out
      obtain rfl := hPs (by omega)
      have rt := (hRt (by omega))
      have a0 := cell_keep (rt.c0 i hin) hR.out
      have a1 := cell_keep (rt.c1 i hin) hR.out
      have a2 := cell_keep (rt.c2 i hin) hR.out
      have a3 := cell_keep (rt.c3 i hin) hR.out
      have a4 := cell_keep (rt.c4 i hin) hR.out
      have a5 := cell_keep (rt.c5 i hin) hR.out
      rw [fx] at a0 a1 a2 a3 a4 a5
      simp only [tmOf] at a0 a1 a2 a3 a4 a5
      clear rt hRt hPs
      obtain ⟨sb, ob, hPs, hRt⟩ := HB.out
      obtain rfl := hPs (by omega)
      have rt := (hRt (by omega))
      have b0 := cell_keep (rt.c0 i hin) hR.out
      have b1 := cell_keep (rt.c1 i hin) hR.out
      have b2 := cell_keep (rt.c2 i hin) hR.out
      have b3 := cell_keep (rt.c3 i hin) hR.out
      have b4 := cell_keep (rt.c4 i hin) hR.out
      have b5 := cell_keep (rt.c5 i hin) hR.out
      rw [fx] at b0 b1 b2 b3 b4 b5
      simp only [tmOf] at b0 b1 b2 b3 b4 b5
      clear rt hRt hPs
      obtain ⟨p, hp⟩ : ∃ p, lst xm = p := ⟨_, rfl⟩
      rw [hp] at a2 a3 a4 a5 b2 b3 b4 b5
      have NQ := fun y => requal p p y
      rw [same_self] at NQ
      simp only [E4.v] at NQ
      replace NQ := hidden NQ
      clear fx hx hp
      go_upto_region 6 with fail
      refine is6 _ sa oa ca sb ob cb X.length i xk xi p _ _ _ _ _ _ _ _ _ _ _ _ _ _ _ _ _ _ _ _ _ _ _ _ _ _ _ _ _ _ _ _ _ _ _ _ _ _ _ _ _ _ _ _ _ _ _ _ _ _ _ _ _ _ _ wr i0 i1 a0 a1 a2 a3 a4 a5 b0 b1 b2 b3 b4 b5 NQ (hidden ?_)
      intro w2 hb2
      have PN := hidden (bl_trans hR.out hb2)
      clear hb2 hR NQ a0 a1 a2 a3 a4 a5 b0 b1 b2 b3 b4 b5
      go_wp2_with fail
      go_roundw
      case rel => exact ⟨i + 1, by omega, by go_num, PN⟩
      case measure => simp [intOf]; omega
    · obtain rfl : i = X.length := by omega
      have lq : ¬ (X.length : Int) < (X.length : Int) := by omega
      go_wp2_with fail
      exact bodyPost_ret (v := .bool true) (by simp [results, Tryd.results20, go_sem]) rfl ⟨rfl, hR.out⟩
end Ci
end Go.Proofs.YtbmbopapmajaaaaDoor
