import Derived.Test.YtbmbopapmajaaaaDoorCsi
namespace Go.Proofs.YtbmbopapmajaaaaDoor
open Go.RowKit
set_option linter.unusedVariables false
set_option linter.unusedSimpArgs false
open Cm (Wr Tm co bf Ls lf ins Eqm)
namespace Ci
set_option maxRecDepth 100000
set_option maxHeartbeats 4000000
theorem eq4n (a b : E4) (w : World) : (Op.equalIn 9999 26 a.v b.v).run Tryd.prog w = .ok (a.same b) w := by
  have hi : Tryd.prog.info? 24 = some (Tryd.prog.info? 24).get! := by kernel_rfl
  have hc : Tryd.prog.cellsOf 24 = 1 := by kernel_rfl
  unfold E4.v
  rw [run_equalIn_array w 9998 _ _ (by kernel_rfl : Tryd.prog.underlying 26 = some (.array 4 24)) hi, hc]
  rw [eqItems_ints w (k := .u64) 9997 (by kernel_rfl) (by kernel_rfl) _ _ (fun i => [a.x0, a.x1, a.x2, a.x3].getD i 0) (fun i => [b.x0, b.x1, b.x2, b.x3].getD i 0)]
  · rw [show List.range 4 = [0, 1, 2, 3] from rfl]
    simp only [List.all_cons, List.all_nil, Bool.and_true]
    rfl
  · intro i hi
    have : i < 4 := List.mem_range.1 hi
    match i, this with
    | 0, _ => exact ⟨rfl, rfl⟩
    | 1, _ => exact ⟨rfl, rfl⟩
    | 2, _ => exact ⟨rfl, rfl⟩
    | 3, _ => exact ⟨rfl, rfl⟩
theorem self9 (p : E4) (w : World) : (Op.equalIn 9999 26 (.agg #[.int .u64 p.x0, .int .u64 p.x1, .int .u64 p.x2, .int .u64 p.x3]) (.agg #[.int .u64 p.x0, .int .u64 p.x1, .int .u64 p.x2, .int .u64 p.x3])).run Tryd.prog w = .ok true w := by
  have h := eq4n p p w
  rw [same_self] at h
  exact h
def sy5o : Array Oper := #[{ dst := some 18, op := Op.move (Operand.tmp 5), type := 23, pos := "law.go:70", after := #[], guard := none },
  { dst := some 19, op := Op.move (Operand.tmp 6), type := 3, pos := "law.go:70", after := #[], guard := none },
  { dst := some 20, op := Op.indexAddr 23 (Operand.tmp 18) (Operand.tmp 19), type := 0, pos := "law.go:70", after := #[{ on := 0, ground := Ground.data }, { on := 1, ground := Ground.data }], guard := none },
  { dst := some 21, op := Op.load 49 (Operand.tmp 20), type := 49, pos := "law.go:70", after := #[{ on := 2, ground := Ground.data }], guard := none },
  { dst := some 22, op := Op.move (Operand.tmp 1), type := 23, pos := "law.go:70", after := #[], guard := none },
  { dst := some 23, op := Op.move (Operand.tmp 6), type := 3, pos := "law.go:70", after := #[], guard := none },
  { dst := some 24, op := Op.indexAddr 23 (Operand.tmp 22) (Operand.tmp 23), type := 0, pos := "law.go:70", after := #[{ on := 4, ground := Ground.data }, { on := 5, ground := Ground.data }], guard := none },
  { dst := some 25, op := Op.load 49 (Operand.tmp 24), type := 49, pos := "law.go:70", after := #[{ on := 6, ground := Ground.data }], guard := none },
  { dst := some 26, op := Op.binOp BinOp.neq 49 (Operand.tmp 21) (Operand.tmp 25) 49, type := 4, pos := "law.go:70", after := #[{ on := 3, ground := Ground.data }, { on := 7, ground := Ground.data }], guard := none }]
set_option maxRecDepth 100000 in
set_option maxHeartbeats 16000000 in
theorem sy5 (Q : Exit → Act → World → Prop) (sa oa na ca sb ob cb n i : Nat) (qk qi : Int) (p : E4) (u0 u2 u3 u4 u7 u8 u9 u10 u11 u12 u13 u14 u15 u16 u17 u18 u19 u20 u21 u22 u23 u24 u25 u26 u27 u28 u29 u30 u31 u32 u33 u34 u35 u36 u37 u38 u39 u40 u41 u42 u43 : Value) (W : World)
    (i0 : (0 : Int) ≤ (i : Int)) (i1 : (i : Int) < (n : Int)) (i2 : (i : Int) < (na : Int)) (a0 : W.cell? ⟨sa, oa + i * 6, none⟩ = some (.int .i64 qk)) (a1 : W.cell? ⟨sa, oa + i * 6 + 1, none⟩ = some (.int .i64 qi)) (a2 : W.cell? ⟨sa, oa + i * 6 + 2, none⟩ = some (.int .u64 p.x0)) (a3 : W.cell? ⟨sa, oa + i * 6 + 3, none⟩ = some (.int .u64 p.x1)) (a4 : W.cell? ⟨sa, oa + i * 6 + 4, none⟩ = some (.int .u64 p.x2)) (a5 : W.cell? ⟨sa, oa + i * 6 + 5, none⟩ = some (.int .u64 p.x3)) (b0 : W.cell? ⟨sb, ob + i * 6, none⟩ = some (.int .i64 qk)) (b1 : W.cell? ⟨sb, ob + i * 6 + 1, none⟩ = some (.int .i64 qi)) (b2 : W.cell? ⟨sb, ob + i * 6 + 2, none⟩ = some (.int .u64 p.x0)) (b3 : W.cell? ⟨sb, ob + i * 6 + 3, none⟩ = some (.int .u64 p.x1)) (b4 : W.cell? ⟨sb, ob + i * 6 + 4, none⟩ = some (.int .u64 p.x2)) (b5 : W.cell? ⟨sb, ob + i * 6 + 5, none⟩ = some (.int .u64 p.x3))
    (NQ : Hid (∀ y, (Op.equalIn 9999 26 (.agg #[.int .u64 p.x0, .int .u64 p.x1, .int .u64 p.x2, .int .u64 p.x3]) (.agg #[.int .u64 p.x0, .int .u64 p.x1, .int .u64 p.x2, .int .u64 p.x3])).run Tryd.prog y = .ok true y))
    (HQ : Hid (∀ (wz : World), Below W.heap.size W wz → Q .normal ⟨#[u0, .slice (some ⟨sb, ob, none⟩) n cb, u2, u3, u4, .slice (some ⟨sa, oa, none⟩) na ca, .int .i64 (i : Int), u7, u8, u9, u10, u11, u12, u13, u14, u15, u16, u17, .slice (some ⟨sa, oa, none⟩) na ca, .int .i64 (i : Int), .pointer (some ⟨sa, oa + i * 6, none⟩), .agg #[.int .i64 qk, .int .i64 qi, .int .u64 p.x0, .int .u64 p.x1, .int .u64 p.x2, .int .u64 p.x3], .slice (some ⟨sb, ob, none⟩) n cb, .int .i64 (i : Int), .pointer (some ⟨sb, ob + i * 6, none⟩), .agg #[.int .i64 qk, .int .i64 qi, .int .u64 p.x0, .int .u64 p.x1, .int .u64 p.x2, .int .u64 p.x3], .bool false, u27, u28, u29, u30, u31, u32, u33, u34, u35, u36, u37, u38, u39, u40, u41, u42, u43], []⟩ wz)) : (Code.region 5 sy5o true).wp Tryd.prog Q ⟨#[u0, .slice (some ⟨sb, ob, none⟩) n cb, u2, u3, u4, .slice (some ⟨sa, oa, none⟩) na ca, .int .i64 (i : Int), u7, u8, u9, u10, u11, u12, u13, u14, u15, u16, u17, u18, u19, u20, u21, u22, u23, u24, u25, u26, u27, u28, u29, u30, u31, u32, u33, u34, u35, u36, u37, u38, u39, u40, u41, u42, u43], []⟩ W := by
  unfold sy5o
  refine wp_region_noPanic ?_
  refine wp_region_held_drew (S := fun x => Below W.heap.size W x) (by kernel_rfl) (bl_drew W) (fun hH0 => ?_)
  refine wpAnyH_take (i := 0) (oi := { dst := some 18, op := Op.move (Operand.tmp 5), type := 23, pos := "law.go:70", after := #[], guard := none }) (v := .slice (some ⟨sa, oa, none⟩) na ca) rfl (by kernel_rfl) (by kernel_rfl) (by kernel_rfl) (fun _ _ _ h => h) (Or.inl ⟨by rfl, fun w0 hSw => ?_⟩) hH0 ?_
  · (clear hSw; go_simp)
  simp only [Act.put, List.setIfInBounds_toArray, List.set_cons_zero, List.set_cons_succ]
  refine wpAnyH_take (i := 1) (oi := { dst := some 19, op := Op.move (Operand.tmp 6), type := 3, pos := "law.go:70", after := #[], guard := none }) (v := .int .i64 (i : Int)) rfl (by kernel_rfl) (by kernel_rfl) (by kernel_rfl) (fun _ _ _ h => h) (Or.inl ⟨by rfl, fun w0 hSw => ?_⟩) hH0 ?_
  · (clear hSw; go_simp)
  simp only [Act.put, List.setIfInBounds_toArray, List.set_cons_zero, List.set_cons_succ]
  refine wpAnyH_take (i := 4) (oi := { dst := some 22, op := Op.move (Operand.tmp 1), type := 23, pos := "law.go:70", after := #[], guard := none }) (v := .slice (some ⟨sb, ob, none⟩) n cb) rfl (by kernel_rfl) (by kernel_rfl) (by kernel_rfl) (fun _ _ _ h => h) (Or.inl ⟨by rfl, fun w0 hSw => ?_⟩) hH0 ?_
  · (clear hSw; go_simp)
  simp only [Act.put, List.setIfInBounds_toArray, List.set_cons_zero, List.set_cons_succ]
  refine wpAnyH_take (i := 5) (oi := { dst := some 23, op := Op.move (Operand.tmp 6), type := 3, pos := "law.go:70", after := #[], guard := none }) (v := .int .i64 (i : Int)) rfl (by kernel_rfl) (by kernel_rfl) (by kernel_rfl) (fun _ _ _ h => h) (Or.inl ⟨by rfl, fun w0 hSw => ?_⟩) hH0 ?_
  · (clear hSw; go_simp)
  simp only [Act.put, List.setIfInBounds_toArray, List.set_cons_zero, List.set_cons_succ]
  refine wpAnyH_take (i := 2) (oi := { dst := some 20, op := Op.indexAddr 23 (Operand.tmp 18) (Operand.tmp 19), type := 0, pos := "law.go:70", after := #[{ on := 0, ground := Ground.data }, { on := 1, ground := Ground.data }], guard := none }) (v := .pointer (some ⟨sa, oa + i * 6, none⟩)) rfl (by kernel_rfl) (by kernel_rfl) (by kernel_rfl) (fun _ _ _ h => h) (Or.inl ⟨by rfl, fun w0 hSw => ?_⟩) hH0 ?_
  · (clear hSw; go_simp)
  simp only [Act.put, List.setIfInBounds_toArray, List.set_cons_zero, List.set_cons_succ]
  refine wpAnyH_take (i := 6) (oi := { dst := some 24, op := Op.indexAddr 23 (Operand.tmp 22) (Operand.tmp 23), type := 0, pos := "law.go:70", after := #[{ on := 4, ground := Ground.data }, { on := 5, ground := Ground.data }], guard := none }) (v := .pointer (some ⟨sb, ob + i * 6, none⟩)) rfl (by kernel_rfl) (by kernel_rfl) (by kernel_rfl) (fun _ _ _ h => h) (Or.inl ⟨by rfl, fun w0 hSw => ?_⟩) hH0 ?_
  · (clear hSw; go_simp)
  simp only [Act.put, List.setIfInBounds_toArray, List.set_cons_zero, List.set_cons_succ]
  refine wpAnyH_take (i := 3) (oi := { dst := some 21, op := Op.load 49 (Operand.tmp 20), type := 49, pos := "law.go:70", after := #[{ on := 2, ground := Ground.data }], guard := none }) (v := .agg #[.int .i64 qk, .int .i64 qi, .int .u64 p.x0, .int .u64 p.x1, .int .u64 p.x2, .int .u64 p.x3]) rfl (by kernel_rfl) (by kernel_rfl) (by kernel_rfl) (fun _ _ _ h => h) (Or.inl ⟨by rfl, fun w0 hSw => ?_⟩) hH0 ?_
  · (have hS : Below W.heap.size W w0 := hSw; have a0 := cell_keep a0 hS; have a1 := cell_keep a1 hS; have a2 := cell_keep a2 hS; have a3 := cell_keep a3 hS; have a4 := cell_keep a4 hS; have a5 := cell_keep a5 hS; clear hS hSw; go_simp)
  simp only [Act.put, List.setIfInBounds_toArray, List.set_cons_zero, List.set_cons_succ]
  refine wpAnyH_take (i := 7) (oi := { dst := some 25, op := Op.load 49 (Operand.tmp 24), type := 49, pos := "law.go:70", after := #[{ on := 6, ground := Ground.data }], guard := none }) (v := .agg #[.int .i64 qk, .int .i64 qi, .int .u64 p.x0, .int .u64 p.x1, .int .u64 p.x2, .int .u64 p.x3]) rfl (by kernel_rfl) (by kernel_rfl) (by kernel_rfl) (fun _ _ _ h => h) (Or.inl ⟨by rfl, fun w0 hSw => ?_⟩) hH0 ?_
  · (have hS : Below W.heap.size W w0 := hSw; have a0 := cell_keep b0 hS; have a1 := cell_keep b1 hS; have a2 := cell_keep b2 hS; have a3 := cell_keep b3 hS; have a4 := cell_keep b4 hS; have a5 := cell_keep b5 hS; clear hS hSw; go_simp)
  simp only [Act.put, List.setIfInBounds_toArray, List.set_cons_zero, List.set_cons_succ]
  refine wpAnyH_take (i := 8) (oi := { dst := some 26, op := Op.binOp BinOp.neq 49 (Operand.tmp 21) (Operand.tmp 25) 49, type := 4, pos := "law.go:70", after := #[{ on := 3, ground := Ground.data }, { on := 7, ground := Ground.data }], guard := none }) (v := .bool false) rfl (by kernel_rfl) (by kernel_rfl) (by kernel_rfl) (fun _ _ _ h => h) (Or.inl ⟨by rfl, fun w0 hSw => ?_⟩) hH0 ?_
  · (clear hSw; have e0 := NQ.out w0; go_simp)
  simp only [Act.put, List.setIfInBounds_toArray, List.set_cons_zero, List.set_cons_succ]
  have HH := hidden hH0
  have FQ := hidden (HQ.out _ HH.out)
  refine wpAnyH_done (by kernel_rfl) ?_ _
  refine NoPanic.normal ?_
  exact FQ.out
def sy7o : Array Oper := #[{ dst := some 27, op := Op.move (Operand.tmp 5), type := 23, pos := "law.go:74", after := #[], guard := none },
  { dst := some 28, op := Op.move (Operand.tmp 1), type := 23, pos := "law.go:74", after := #[], guard := none },
  { dst := some 29, op := Op.call { callee := Callee.builtin Builtin.len, args := #[Operand.tmp 28], argTypes := #[23] }, type := 3, pos := "law.go:74", after := #[{ on := 1, ground := Ground.data }], guard := none },
  { dst := some 30, op := Op.indexAddr 23 (Operand.tmp 27) (Operand.tmp 29), type := 0, pos := "law.go:74", after := #[{ on := 0, ground := Ground.data }, { on := 2, ground := Ground.data }], guard := none },
  { dst := some 31, op := Op.load 49 (Operand.tmp 30), type := 49, pos := "law.go:74", after := #[{ on := 3, ground := Ground.data }], guard := none },
  { dst := some 32, op := Op.load 49 (Operand.global 0), type := 49, pos := "law.go:74", after := #[], guard := none },
  { dst := some 33, op := Op.binOp BinOp.eql 49 (Operand.tmp 31) (Operand.tmp 32) 49, type := 4, pos := "law.go:74", after := #[{ on := 4, ground := Ground.data }, { on := 5, ground := Ground.data }], guard := none },
  { dst := some 34, op := Op.move (Operand.tmp 33), type := 4, pos := "law.go:74", after := #[{ on := 6, ground := Ground.data }], guard := none },
  { dst := some 35, op := Op.move (Operand.tmp 5), type := 23, pos := "law.go:74", after := #[{ on := 7, ground := Ground.guard }], guard := some (7, true) },
  { dst := some 36, op := Op.move (Operand.tmp 1), type := 23, pos := "law.go:74", after := #[{ on := 7, ground := Ground.guard }], guard := some (7, true) },
  { dst := some 37, op := Op.call { callee := Callee.builtin Builtin.len, args := #[Operand.tmp 36], argTypes := #[23] }, type := 3, pos := "law.go:74", after := #[{ on := 9, ground := Ground.data }, { on := 7, ground := Ground.guard }], guard := some (7, true) },
  { dst := some 38, op := Op.binOp BinOp.add 3 (Operand.tmp 37) (Operand.const (Value.int IntKind.i64 1)) 3, type := 3, pos := "law.go:74", after := #[{ on := 10, ground := Ground.data }, { on := 7, ground := Ground.guard }], guard := some (7, true) },
  { dst := some 39, op := Op.indexAddr 23 (Operand.tmp 35) (Operand.tmp 38), type := 0, pos := "law.go:74", after := #[{ on := 8, ground := Ground.data }, { on := 11, ground := Ground.data }, { on := 7, ground := Ground.guard }], guard := some (7, true) },
  { dst := some 40, op := Op.load 49 (Operand.tmp 39), type := 49, pos := "law.go:74", after := #[{ on := 12, ground := Ground.data }, { on := 7, ground := Ground.guard }], guard := some (7, true) },
  { dst := some 41, op := Op.load 49 (Operand.global 0), type := 49, pos := "law.go:74", after := #[{ on := 7, ground := Ground.guard }], guard := some (7, true) },
  { dst := some 42, op := Op.binOp BinOp.eql 49 (Operand.tmp 40) (Operand.tmp 41) 49, type := 4, pos := "law.go:74", after := #[{ on := 13, ground := Ground.data }, { on := 14, ground := Ground.data }, { on := 7, ground := Ground.guard }], guard := some (7, true) },
  { dst := some 43, op := Op.pick (Operand.tmp 34) (Operand.tmp 42) (Operand.const (Value.bool false)), type := 4, pos := "law.go:74", after := #[{ on := 7, ground := Ground.data }, { on := 15, ground := Ground.data }], guard := none },
  { dst := some 4, op := Op.assign (Operand.tmp 43), type := 4, pos := "law.go:74", after := #[{ on := 16, ground := Ground.data }, { on := 7, ground := Ground.chain }, { on := 0, ground := Ground.phase }, { on := 1, ground := Ground.phase }, { on := 2, ground := Ground.phase }, { on := 3, ground := Ground.phase }, { on := 4, ground := Ground.phase }, { on := 5, ground := Ground.phase }, { on := 6, ground := Ground.phase }, { on := 7, ground := Ground.phase }, { on := 8, ground := Ground.phase }, { on := 9, ground := Ground.phase }, { on := 10, ground := Ground.phase }, { on := 11, ground := Ground.phase }, { on := 12, ground := Ground.phase }, { on := 13, ground := Ground.phase }, { on := 14, ground := Ground.phase }, { on := 15, ground := Ground.phase }, { on := 16, ground := Ground.phase }], guard := none }]
set_option maxRecDepth 100000 in
set_option maxHeartbeats 16000000 in
theorem sy7 (Q : Exit → Act → World → Prop) (sa oa na ca n cb : Nat) (Qb : Option Addr) (u0 u2 u3 u4 u6 u7 u8 u9 u10 u11 u12 u13 u14 u15 u16 u17 u18 u19 u20 u21 u22 u23 u24 u25 u26 u27 u28 u29 u30 u31 u32 u33 u34 u35 u36 u37 u38 u39 u40 u41 u42 u43 : Value) (W : World)
    (i2 : (n : Int) < (na : Int)) (n0 : (0 : Int) ≤ (n : Int)) (n1 : IntKind.i64.wrap ((n : Int) + 1) = ((n + 1 : Nat) : Int)) (i3 : (n : Int) + 1 < (na : Int)) (n2 : (0 : Int) ≤ (n : Int) + 1) (a0 : W.cell? ⟨sa, oa + n * 6, none⟩ = some (.int .i64 77)) (a1 : W.cell? ⟨sa, oa + n * 6 + 1, none⟩ = some (.int .i64 78)) (a2 : W.cell? ⟨sa, oa + n * 6 + 2, none⟩ = some (.int .u64 79)) (a3 : W.cell? ⟨sa, oa + n * 6 + 3, none⟩ = some (.int .u64 0)) (a4 : W.cell? ⟨sa, oa + n * 6 + 4, none⟩ = some (.int .u64 0)) (a5 : W.cell? ⟨sa, oa + n * 6 + 5, none⟩ = some (.int .u64 0)) (b0 : W.cell? ⟨sa, oa + (n + 1) * 6, none⟩ = some (.int .i64 77)) (b1 : W.cell? ⟨sa, oa + (n + 1) * 6 + 1, none⟩ = some (.int .i64 78)) (b2 : W.cell? ⟨sa, oa + (n + 1) * 6 + 2, none⟩ = some (.int .u64 79)) (b3 : W.cell? ⟨sa, oa + (n + 1) * 6 + 3, none⟩ = some (.int .u64 0)) (b4 : W.cell? ⟨sa, oa + (n + 1) * 6 + 4, none⟩ = some (.int .u64 0)) (b5 : W.cell? ⟨sa, oa + (n + 1) * 6 + 5, none⟩ = some (.int .u64 0)) (m0 : W.cell? ⟨0, 0, none⟩ = some (.int .i64 77)) (m1 : W.cell? ⟨0, 1, none⟩ = some (.int .i64 78)) (m2 : W.cell? ⟨0, 2, none⟩ = some (.int .u64 79)) (m3 : W.cell? ⟨0, 3, none⟩ = some (.int .u64 0)) (m4 : W.cell? ⟨0, 4, none⟩ = some (.int .u64 0)) (m5 : W.cell? ⟨0, 5, none⟩ = some (.int .u64 0))
    (HQ : Hid (∀ (wz : World), Below W.heap.size W wz → Q .normal ⟨#[u0, .slice Qb n cb, u2, u3, .bool true, .slice (some ⟨sa, oa, none⟩) na ca, u6, u7, u8, u9, u10, u11, u12, u13, u14, u15, u16, u17, u18, u19, u20, u21, u22, u23, u24, u25, u26, .slice (some ⟨sa, oa, none⟩) na ca, .slice Qb n cb, .int .i64 (n : Int), .pointer (some ⟨sa, oa + n * 6, none⟩), .agg #[.int .i64 77, .int .i64 78, .int .u64 79, .int .u64 0, .int .u64 0, .int .u64 0], .agg #[.int .i64 77, .int .i64 78, .int .u64 79, .int .u64 0, .int .u64 0, .int .u64 0], .bool true, .bool true, .slice (some ⟨sa, oa, none⟩) na ca, .slice Qb n cb, .int .i64 (n : Int), .int .i64 ((n + 1 : Nat) : Int), .pointer (some ⟨sa, oa + (n + 1) * 6, none⟩), .agg #[.int .i64 77, .int .i64 78, .int .u64 79, .int .u64 0, .int .u64 0, .int .u64 0], .agg #[.int .i64 77, .int .i64 78, .int .u64 79, .int .u64 0, .int .u64 0, .int .u64 0], .bool true, .bool true], []⟩ wz)) : (Code.region 7 sy7o true).wp Tryd.prog Q ⟨#[u0, .slice Qb n cb, u2, u3, u4, .slice (some ⟨sa, oa, none⟩) na ca, u6, u7, u8, u9, u10, u11, u12, u13, u14, u15, u16, u17, u18, u19, u20, u21, u22, u23, u24, u25, u26, u27, u28, u29, u30, u31, u32, u33, u34, u35, u36, u37, u38, u39, u40, u41, u42, u43], []⟩ W := by
  unfold sy7o
  refine wp_region_noPanic ?_
  refine wp_region_held_drew (S := fun x => Below W.heap.size W x) (by kernel_rfl) (bl_drew W) (fun hH0 => ?_)
  refine wpAnyH_take (i := 0) (oi := { dst := some 27, op := Op.move (Operand.tmp 5), type := 23, pos := "law.go:74", after := #[], guard := none }) (v := .slice (some ⟨sa, oa, none⟩) na ca) rfl (by kernel_rfl) (by kernel_rfl) (by kernel_rfl) (fun _ _ _ h => h) (Or.inl ⟨by rfl, fun w0 hSw => ?_⟩) hH0 ?_
  · (clear hSw; go_simp)
  simp only [Act.put, List.setIfInBounds_toArray, List.set_cons_zero, List.set_cons_succ]
  refine wpAnyH_take (i := 1) (oi := { dst := some 28, op := Op.move (Operand.tmp 1), type := 23, pos := "law.go:74", after := #[], guard := none }) (v := .slice Qb n cb) rfl (by kernel_rfl) (by kernel_rfl) (by kernel_rfl) (fun _ _ _ h => h) (Or.inl ⟨by rfl, fun w0 hSw => ?_⟩) hH0 ?_
  · (clear hSw; go_simp)
  simp only [Act.put, List.setIfInBounds_toArray, List.set_cons_zero, List.set_cons_succ]
  refine wpAnyH_take (i := 5) (oi := { dst := some 32, op := Op.load 49 (Operand.global 0), type := 49, pos := "law.go:74", after := #[], guard := none }) (v := .agg #[.int .i64 77, .int .i64 78, .int .u64 79, .int .u64 0, .int .u64 0, .int .u64 0]) rfl (by kernel_rfl) (by kernel_rfl) (by kernel_rfl) (fun _ _ _ h => h) (Or.inl ⟨by rfl, fun w0 hSw => ?_⟩) hH0 ?_
  · (have hS : Below W.heap.size W w0 := hSw; have a0 := cell_keep m0 hS; have a1 := cell_keep m1 hS; have a2 := cell_keep m2 hS; have a3 := cell_keep m3 hS; have a4 := cell_keep m4 hS; have a5 := cell_keep m5 hS; clear hS hSw; go_simp)
  simp only [Act.put, List.setIfInBounds_toArray, List.set_cons_zero, List.set_cons_succ]
  refine wpAnyH_take (i := 2) (oi := { dst := some 29, op := Op.call { callee := Callee.builtin Builtin.len, args := #[Operand.tmp 28], argTypes := #[23] }, type := 3, pos := "law.go:74", after := #[{ on := 1, ground := Ground.data }], guard := none }) (v := .int .i64 (n : Int)) rfl (by kernel_rfl) (by kernel_rfl) (by kernel_rfl) (fun _ _ _ h => h) (Or.inl ⟨by rfl, fun w0 hSw => ?_⟩) hH0 ?_
  · (clear hSw; go_simp)
  simp only [Act.put, List.setIfInBounds_toArray, List.set_cons_zero, List.set_cons_succ]
  refine wpAnyH_take (i := 3) (oi := { dst := some 30, op := Op.indexAddr 23 (Operand.tmp 27) (Operand.tmp 29), type := 0, pos := "law.go:74", after := #[{ on := 0, ground := Ground.data }, { on := 2, ground := Ground.data }], guard := none }) (v := .pointer (some ⟨sa, oa + n * 6, none⟩)) rfl (by kernel_rfl) (by kernel_rfl) (by kernel_rfl) (fun _ _ _ h => h) (Or.inl ⟨by rfl, fun w0 hSw => ?_⟩) hH0 ?_
  · (clear hSw; go_simp)
  simp only [Act.put, List.setIfInBounds_toArray, List.set_cons_zero, List.set_cons_succ]
  refine wpAnyH_take (i := 4) (oi := { dst := some 31, op := Op.load 49 (Operand.tmp 30), type := 49, pos := "law.go:74", after := #[{ on := 3, ground := Ground.data }], guard := none }) (v := .agg #[.int .i64 77, .int .i64 78, .int .u64 79, .int .u64 0, .int .u64 0, .int .u64 0]) rfl (by kernel_rfl) (by kernel_rfl) (by kernel_rfl) (fun _ _ _ h => h) (Or.inl ⟨by rfl, fun w0 hSw => ?_⟩) hH0 ?_
  · (have hS : Below W.heap.size W w0 := hSw; have a0 := cell_keep a0 hS; have a1 := cell_keep a1 hS; have a2 := cell_keep a2 hS; have a3 := cell_keep a3 hS; have a4 := cell_keep a4 hS; have a5 := cell_keep a5 hS; clear hS hSw; go_simp)
  simp only [Act.put, List.setIfInBounds_toArray, List.set_cons_zero, List.set_cons_succ]
  refine wpAnyH_take (i := 6) (oi := { dst := some 33, op := Op.binOp BinOp.eql 49 (Operand.tmp 31) (Operand.tmp 32) 49, type := 4, pos := "law.go:74", after := #[{ on := 4, ground := Ground.data }, { on := 5, ground := Ground.data }], guard := none }) (v := .bool true) rfl (by kernel_rfl) (by kernel_rfl) (by kernel_rfl) (fun _ _ _ h => h) (Or.inl ⟨by rfl, fun w0 hSw => ?_⟩) hH0 ?_
  · (clear hSw; have e0 := self9 ⟨79, 0, 0, 0⟩ w0; simp only at e0; go_simp)
  simp only [Act.put, List.setIfInBounds_toArray, List.set_cons_zero, List.set_cons_succ]
  refine wpAnyH_take (i := 7) (oi := { dst := some 34, op := Op.move (Operand.tmp 33), type := 4, pos := "law.go:74", after := #[{ on := 6, ground := Ground.data }], guard := none }) (v := .bool true) rfl (by kernel_rfl) (by kernel_rfl) (by kernel_rfl) (fun _ _ _ h => h) (Or.inl ⟨by rfl, fun w0 hSw => ?_⟩) hH0 ?_
  · (clear hSw; go_simp)
  simp only [Act.put, List.setIfInBounds_toArray, List.set_cons_zero, List.set_cons_succ]
  refine wpAnyH_take (i := 8) (oi := { dst := some 35, op := Op.move (Operand.tmp 5), type := 23, pos := "law.go:74", after := #[{ on := 7, ground := Ground.guard }], guard := some (7, true) }) (v := .slice (some ⟨sa, oa, none⟩) na ca) rfl (by kernel_rfl) (by kernel_rfl) (by kernel_rfl) (fun _ _ _ h => h) (Or.inl ⟨by rfl, fun w0 hSw => ?_⟩) hH0 ?_
  · (clear hSw; go_simp)
  simp only [Act.put, List.setIfInBounds_toArray, List.set_cons_zero, List.set_cons_succ]
  refine wpAnyH_take (i := 9) (oi := { dst := some 36, op := Op.move (Operand.tmp 1), type := 23, pos := "law.go:74", after := #[{ on := 7, ground := Ground.guard }], guard := some (7, true) }) (v := .slice Qb n cb) rfl (by kernel_rfl) (by kernel_rfl) (by kernel_rfl) (fun _ _ _ h => h) (Or.inl ⟨by rfl, fun w0 hSw => ?_⟩) hH0 ?_
  · (clear hSw; go_simp)
  simp only [Act.put, List.setIfInBounds_toArray, List.set_cons_zero, List.set_cons_succ]
  refine wpAnyH_take (i := 14) (oi := { dst := some 41, op := Op.load 49 (Operand.global 0), type := 49, pos := "law.go:74", after := #[{ on := 7, ground := Ground.guard }], guard := some (7, true) }) (v := .agg #[.int .i64 77, .int .i64 78, .int .u64 79, .int .u64 0, .int .u64 0, .int .u64 0]) rfl (by kernel_rfl) (by kernel_rfl) (by kernel_rfl) (fun _ _ _ h => h) (Or.inl ⟨by rfl, fun w0 hSw => ?_⟩) hH0 ?_
  · (have hS : Below W.heap.size W w0 := hSw; have a0 := cell_keep m0 hS; have a1 := cell_keep m1 hS; have a2 := cell_keep m2 hS; have a3 := cell_keep m3 hS; have a4 := cell_keep m4 hS; have a5 := cell_keep m5 hS; clear hS hSw; go_simp)
  simp only [Act.put, List.setIfInBounds_toArray, List.set_cons_zero, List.set_cons_succ]
  refine wpAnyH_take (i := 10) (oi := { dst := some 37, op := Op.call { callee := Callee.builtin Builtin.len, args := #[Operand.tmp 36], argTypes := #[23] }, type := 3, pos := "law.go:74", after := #[{ on := 9, ground := Ground.data }, { on := 7, ground := Ground.guard }], guard := some (7, true) }) (v := .int .i64 (n : Int)) rfl (by kernel_rfl) (by kernel_rfl) (by kernel_rfl) (fun _ _ _ h => h) (Or.inl ⟨by rfl, fun w0 hSw => ?_⟩) hH0 ?_
  · (clear hSw; go_simp)
  simp only [Act.put, List.setIfInBounds_toArray, List.set_cons_zero, List.set_cons_succ]
  refine wpAnyH_take (i := 11) (oi := { dst := some 38, op := Op.binOp BinOp.add 3 (Operand.tmp 37) (Operand.const (Value.int IntKind.i64 1)) 3, type := 3, pos := "law.go:74", after := #[{ on := 10, ground := Ground.data }, { on := 7, ground := Ground.guard }], guard := some (7, true) }) (v := .int .i64 ((n + 1 : Nat) : Int)) rfl (by kernel_rfl) (by kernel_rfl) (by kernel_rfl) (fun _ _ _ h => h) (Or.inl ⟨by rfl, fun w0 hSw => ?_⟩) hH0 ?_
  · (clear hSw; go_simp)
  simp only [Act.put, List.setIfInBounds_toArray, List.set_cons_zero, List.set_cons_succ]
  refine wpAnyH_take (i := 12) (oi := { dst := some 39, op := Op.indexAddr 23 (Operand.tmp 35) (Operand.tmp 38), type := 0, pos := "law.go:74", after := #[{ on := 8, ground := Ground.data }, { on := 11, ground := Ground.data }, { on := 7, ground := Ground.guard }], guard := some (7, true) }) (v := .pointer (some ⟨sa, oa + (n + 1) * 6, none⟩)) rfl (by kernel_rfl) (by kernel_rfl) (by kernel_rfl) (fun _ _ _ h => h) (Or.inl ⟨by rfl, fun w0 hSw => ?_⟩) hH0 ?_
  · (clear hSw; go_simp)
  simp only [Act.put, List.setIfInBounds_toArray, List.set_cons_zero, List.set_cons_succ]
  refine wpAnyH_take (i := 13) (oi := { dst := some 40, op := Op.load 49 (Operand.tmp 39), type := 49, pos := "law.go:74", after := #[{ on := 12, ground := Ground.data }, { on := 7, ground := Ground.guard }], guard := some (7, true) }) (v := .agg #[.int .i64 77, .int .i64 78, .int .u64 79, .int .u64 0, .int .u64 0, .int .u64 0]) rfl (by kernel_rfl) (by kernel_rfl) (by kernel_rfl) (fun _ _ _ h => h) (Or.inl ⟨by rfl, fun w0 hSw => ?_⟩) hH0 ?_
  · (have hS : Below W.heap.size W w0 := hSw; have a0 := cell_keep b0 hS; have a1 := cell_keep b1 hS; have a2 := cell_keep b2 hS; have a3 := cell_keep b3 hS; have a4 := cell_keep b4 hS; have a5 := cell_keep b5 hS; clear hS hSw; go_simp)
  simp only [Act.put, List.setIfInBounds_toArray, List.set_cons_zero, List.set_cons_succ]
  refine wpAnyH_take (i := 15) (oi := { dst := some 42, op := Op.binOp BinOp.eql 49 (Operand.tmp 40) (Operand.tmp 41) 49, type := 4, pos := "law.go:74", after := #[{ on := 13, ground := Ground.data }, { on := 14, ground := Ground.data }, { on := 7, ground := Ground.guard }], guard := some (7, true) }) (v := .bool true) rfl (by kernel_rfl) (by kernel_rfl) (by kernel_rfl) (fun _ _ _ h => h) (Or.inl ⟨by rfl, fun w0 hSw => ?_⟩) hH0 ?_
  · (clear hSw; have e0 := self9 ⟨79, 0, 0, 0⟩ w0; simp only at e0; go_simp)
  simp only [Act.put, List.setIfInBounds_toArray, List.set_cons_zero, List.set_cons_succ]
  refine wpAnyH_take (i := 16) (oi := { dst := some 43, op := Op.pick (Operand.tmp 34) (Operand.tmp 42) (Operand.const (Value.bool false)), type := 4, pos := "law.go:74", after := #[{ on := 7, ground := Ground.data }, { on := 15, ground := Ground.data }], guard := none }) (v := .bool true) rfl (by kernel_rfl) (by kernel_rfl) (by kernel_rfl) (fun _ _ _ h => h) (Or.inl ⟨by rfl, fun w0 hSw => ?_⟩) hH0 ?_
  · (clear hSw; go_simp)
  simp only [Act.put, List.setIfInBounds_toArray, List.set_cons_zero, List.set_cons_succ]
  refine wpAnyH_take (i := 17) (oi := { dst := some 4, op := Op.assign (Operand.tmp 43), type := 4, pos := "law.go:74", after := #[{ on := 16, ground := Ground.data }, { on := 7, ground := Ground.chain }, { on := 0, ground := Ground.phase }, { on := 1, ground := Ground.phase }, { on := 2, ground := Ground.phase }, { on := 3, ground := Ground.phase }, { on := 4, ground := Ground.phase }, { on := 5, ground := Ground.phase }, { on := 6, ground := Ground.phase }, { on := 7, ground := Ground.phase }, { on := 8, ground := Ground.phase }, { on := 9, ground := Ground.phase }, { on := 10, ground := Ground.phase }, { on := 11, ground := Ground.phase }, { on := 12, ground := Ground.phase }, { on := 13, ground := Ground.phase }, { on := 14, ground := Ground.phase }, { on := 15, ground := Ground.phase }, { on := 16, ground := Ground.phase }], guard := none }) (v := .bool true) rfl (by kernel_rfl) (by kernel_rfl) (by kernel_rfl) (fun _ _ _ h => h) (Or.inl ⟨by rfl, fun w0 hSw => ?_⟩) hH0 ?_
  · (clear hSw; go_simp)
  simp only [Act.put, List.setIfInBounds_toArray, List.set_cons_zero, List.set_cons_succ]
  have HH := hidden hH0
  have FQ := hidden (HQ.out _ HH.out)
  refine wpAnyH_done (by kernel_rfl) ?_ _
  refine NoPanic.normal ?_
  exact FQ.out
end Ci
end Go.Proofs.YtbmbopapmajaaaaDoor
