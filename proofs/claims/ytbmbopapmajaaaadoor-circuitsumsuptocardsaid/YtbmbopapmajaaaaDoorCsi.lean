import Derived.Test.YtbmbopapmajaaaaDoorCsh
namespace Go.Proofs.YtbmbopapmajaaaaDoor
open Go.RowKit
set_option linter.unusedVariables false
set_option linter.unusedSimpArgs false
open Cm (Wr Tm co bf Ls lf ins Eqm)
namespace Ci
set_option maxRecDepth 100000
set_option maxHeartbeats 4000000
theorem buildR6 (qk qi : Int) (r : E4) (w : World) : (Instr.buildSlice 31 1 #[(0, .agg #[.int .i64 qk, .int .i64 qi, .int .u64 r.x0, .int .u64 r.x1, .int .u64 r.x2, .int .u64 r.x3])]).run Tryd.prog w = .ok (.slice (some ⟨w.heap.size, 0, none⟩) 1 1) (w.alloc (.cells #[.int .i64 qk, .int .i64 qi, .int .u64 r.x0, .int .u64 r.x1, .int .u64 r.x2, .int .u64 r.x3] 52)) := by kernel_rfl
theorem wp_buildR6 {w : World} {o : Oper} {a : Act} {K : Act → World → Prop} {Q : Exit → Act → World → Prop} (x0 : Operand) (ho : o.op = .buildSlice 31 1 #[(0, x0)]) (qk qi : Int) (r : E4) (h0 : a.eval x0 = .agg #[.int .i64 qk, .int .i64 qi, .int .u64 r.x0, .int .u64 r.x1, .int .u64 r.x2, .int .u64 r.x3]) (h : ∀ (tb : Nat) (wq : World), tb = w.heap.size → wq = w.alloc (.cells #[.int .i64 qk, .int .i64 qi, .int .u64 r.x0, .int .u64 r.x1, .int .u64 r.x2, .int .u64 r.x3] 52) → K (a.put o.dst (.slice (some ⟨tb, 0, none⟩) 1 1)) wq) : o.wp Tryd.prog a w K Q := by
  have hr := buildR6 qk qi r w
  unfold Oper.wp execOp
  simp only [ho, Sem.run_bind, Sem.run_pure, Result.andThen_ok, List.map_toArray, List.map_cons, List.map_nil, h0, hr]
  exact h _ _ rfl rfl
def ln5o : Array Oper := #[{ dst := some 11, op := Op.move (Operand.tmp 3), type := 31, pos := "law.go:39", after := #[], guard := none },
  { dst := some 12, op := Op.move (Operand.tmp 0), type := 23, pos := "law.go:39", after := #[], guard := none },
  { dst := some 13, op := Op.move (Operand.tmp 4), type := 3, pos := "law.go:39", after := #[], guard := none },
  { dst := some 14, op := Op.indexAddr 23 (Operand.tmp 12) (Operand.tmp 13), type := 0, pos := "law.go:39", after := #[{ on := 1, ground := Ground.data }, { on := 2, ground := Ground.data }], guard := none },
  { dst := some 15, op := Op.fieldAddr 49 (Operand.tmp 14) 0, type := 0, pos := "law.go:39", after := #[{ on := 3, ground := Ground.data }], guard := none },
  { dst := some 16, op := Op.fieldAddr 28 (Operand.tmp 15) 0, type := 0, pos := "law.go:39", after := #[{ on := 4, ground := Ground.data }], guard := none },
  { dst := some 17, op := Op.load 3 (Operand.tmp 16), type := 3, pos := "law.go:39", after := #[{ on := 5, ground := Ground.data }], guard := none },
  { dst := some 18, op := Op.move (Operand.tmp 0), type := 23, pos := "law.go:39", after := #[], guard := none },
  { dst := some 19, op := Op.move (Operand.tmp 4), type := 3, pos := "law.go:39", after := #[], guard := none },
  { dst := some 20, op := Op.indexAddr 23 (Operand.tmp 18) (Operand.tmp 19), type := 0, pos := "law.go:39", after := #[{ on := 7, ground := Ground.data }, { on := 8, ground := Ground.data }], guard := none },
  { dst := some 21, op := Op.fieldAddr 49 (Operand.tmp 20) 0, type := 0, pos := "law.go:39", after := #[{ on := 9, ground := Ground.data }], guard := none },
  { dst := some 22, op := Op.fieldAddr 28 (Operand.tmp 21) 1, type := 0, pos := "law.go:39", after := #[{ on := 10, ground := Ground.data }], guard := none },
  { dst := some 23, op := Op.load 3 (Operand.tmp 22), type := 3, pos := "law.go:39", after := #[{ on := 11, ground := Ground.data }], guard := none },
  { dst := some 24, op := Op.build 38 #[(0, Operand.tmp 17), (1, Operand.tmp 23)], type := 38, pos := "law.go:39", after := #[{ on := 6, ground := Ground.data }, { on := 12, ground := Ground.data }], guard := none },
  { dst := some 25, op := Op.move (Operand.tmp 0), type := 23, pos := "law.go:39", after := #[], guard := none },
  { dst := some 26, op := Op.move (Operand.tmp 4), type := 3, pos := "law.go:39", after := #[], guard := none },
  { dst := some 27, op := Op.indexAddr 23 (Operand.tmp 25) (Operand.tmp 26), type := 0, pos := "law.go:39", after := #[{ on := 14, ground := Ground.data }, { on := 15, ground := Ground.data }], guard := none },
  { dst := some 28, op := Op.fieldAddr 49 (Operand.tmp 27) 1, type := 0, pos := "law.go:39", after := #[{ on := 16, ground := Ground.data }], guard := none },
  { dst := some 29, op := Op.load 26 (Operand.tmp 28), type := 26, pos := "law.go:39", after := #[{ on := 17, ground := Ground.data }], guard := none },
  { dst := some 30, op := Op.call { callee := Callee.value (Operand.func 15), args := #[Operand.tmp 29], argTypes := #[26] }, type := 41, pos := "law.go:39", after := #[{ on := 18, ground := Ground.data }], guard := none },
  { dst := some 31, op := Op.build 52 #[(0, Operand.tmp 24), (1, Operand.tmp 30)], type := 52, pos := "law.go:39", after := #[{ on := 13, ground := Ground.data }, { on := 19, ground := Ground.data }], guard := none },
  { dst := some 32, op := Op.buildSlice 31 1 #[(0, Operand.tmp 31)], type := 31, pos := "law.go:39", after := #[{ on := 20, ground := Ground.data }], guard := none },
  { dst := some 33, op := Op.call { callee := Callee.builtin Builtin.append, args := #[Operand.tmp 11, Operand.tmp 32], argTypes := #[31, 31] }, type := 31, pos := "law.go:39", after := #[{ on := 0, ground := Ground.data }, { on := 21, ground := Ground.data }, { on := 19, ground := Ground.chain }], guard := none },
  { dst := some 3, op := Op.assign (Operand.tmp 33), type := 31, pos := "law.go:39", after := #[{ on := 22, ground := Ground.data }, { on := 22, ground := Ground.chain }, { on := 0, ground := Ground.phase }, { on := 1, ground := Ground.phase }, { on := 2, ground := Ground.phase }, { on := 3, ground := Ground.phase }, { on := 4, ground := Ground.phase }, { on := 5, ground := Ground.phase }, { on := 6, ground := Ground.phase }, { on := 7, ground := Ground.phase }, { on := 8, ground := Ground.phase }, { on := 9, ground := Ground.phase }, { on := 10, ground := Ground.phase }, { on := 11, ground := Ground.phase }, { on := 12, ground := Ground.phase }, { on := 13, ground := Ground.phase }, { on := 14, ground := Ground.phase }, { on := 15, ground := Ground.phase }, { on := 16, ground := Ground.phase }, { on := 17, ground := Ground.phase }, { on := 18, ground := Ground.phase }, { on := 19, ground := Ground.phase }, { on := 20, ground := Ground.phase }, { on := 21, ground := Ground.phase }, { on := 22, ground := Ground.phase }], guard := none }]
set_option maxRecDepth 100000 in
set_option maxHeartbeats 16000000 in
theorem ln5 (Q : Exit → Act → World → Prop) (sb so n c i base nn : Nat) (qk qi : Int) (p r : E4) (V : Value) (out : List Tm) (u1 u2 u5 u6 u7 u8 u9 u10 u11 u12 u13 u14 u15 u16 u17 u18 u19 u20 u21 u22 u23 u24 u25 u26 u27 u28 u29 u30 u31 u32 u33 u34 : Value) (W : World)
    (i0 : (0 : Int) ≤ (i : Int)) (i1 : (i : Int) < (n : Int)) (ne : some sb ≠ V.ownBlock) (a0 : W.cell? ⟨sb, so + i * 6, none⟩ = some (.int .i64 qk)) (a1 : W.cell? ⟨sb, so + i * 6 + 1, none⟩ = some (.int .i64 qi)) (a2 : W.cell? ⟨sb, so + i * 6 + 2, none⟩ = some (.int .u64 p.x0)) (a3 : W.cell? ⟨sb, so + i * 6 + 3, none⟩ = some (.int .u64 p.x1)) (a4 : W.cell? ⟨sb, so + i * 6 + 4, none⟩ = some (.int .u64 p.x2)) (a5 : W.cell? ⟨sb, so + i * 6 + 5, none⟩ = some (.int .u64 p.x3))
    (ow : W.ownsRow base 52 6 V nn (tls out)) (MX : Hid (nn + 1 ≤ maxLen)) (BY : Hid ((nn + 1) * 48 ≤ 140737488355328)) (BS : Hid (base ≤ W.heap.size))
    (C1 : Hid (∀ y, Calls Tryd.prog 15 #[.agg #[.int .u64 p.x0, .int .u64 p.x1, .int .u64 p.x2, .int .u64 p.x3]] y fun e w' => e = .returned (.agg #[.int .u64 r.x0, .int .u64 r.x1, .int .u64 r.x2, .int .u64 r.x3]) ∧ Below y.heap.size y w'))
    (HQ : Hid (∀ (wz : World) (tb : Nat) (v4 : Value), W.grownBy wz V.ownBlock → wz.ownsRow base 52 6 v4 (nn + 1) (tls out ++ [.int .i64 qk, .int .i64 qi, .int .u64 r.x0, .int .u64 r.x1, .int .u64 r.x2, .int .u64 r.x3]) → Q .normal ⟨#[.slice (some ⟨sb, so, none⟩) n c, u1, u2, v4, .int .i64 (i : Int), u5, u6, u7, u8, u9, u10, V, .slice (some ⟨sb, so, none⟩) n c, .int .i64 (i : Int), .pointer (some ⟨sb, so + i * 6, none⟩), .pointer (some ⟨sb, so + i * 6, none⟩), .pointer (some ⟨sb, so + i * 6, none⟩), .int .i64 qk, .slice (some ⟨sb, so, none⟩) n c, .int .i64 (i : Int), .pointer (some ⟨sb, so + i * 6, none⟩), .pointer (some ⟨sb, so + i * 6, none⟩), .pointer (some ⟨sb, so + i * 6 + 1, none⟩), .int .i64 qi, .agg #[.int .i64 qk, .int .i64 qi], .slice (some ⟨sb, so, none⟩) n c, .int .i64 (i : Int), .pointer (some ⟨sb, so + i * 6, none⟩), .pointer (some ⟨sb, so + i * 6 + 2, none⟩), .agg #[.int .u64 p.x0, .int .u64 p.x1, .int .u64 p.x2, .int .u64 p.x3], .agg #[.int .u64 r.x0, .int .u64 r.x1, .int .u64 r.x2, .int .u64 r.x3], .agg #[.int .i64 qk, .int .i64 qi, .int .u64 r.x0, .int .u64 r.x1, .int .u64 r.x2, .int .u64 r.x3], .slice (some ⟨tb, 0, none⟩) 1 1, v4, u34], []⟩ wz)) : (Code.region 5 ln5o true).wp Tryd.prog Q ⟨#[.slice (some ⟨sb, so, none⟩) n c, u1, u2, V, .int .i64 (i : Int), u5, u6, u7, u8, u9, u10, u11, u12, u13, u14, u15, u16, u17, u18, u19, u20, u21, u22, u23, u24, u25, u26, u27, u28, u29, u30, u31, u32, u33, u34], []⟩ W := by
  have OW := hidden (own_keepT ow (bl_drew W))
  have HI : Hid ((Tryd.prog.info? 52) = some (Tryd.prog.info? 52).get!) := hidden (by kernel_rfl)
  have HZ0 : Hid ((Tryd.prog.info? 52).get!.zero = some (.agg #[.int .i64 0, .int .i64 0, .int .u64 0, .int .u64 0, .int .u64 0, .int .u64 0])) := hidden (by kernel_rfl)
  have HZ1 : Hid ((Tryd.prog.info? 52).get!.size = 6) := hidden (by kernel_rfl)
  have HZ2 : Hid ((Tryd.prog.info? 52).get!.bytes = 48) := hidden (by kernel_rfl)
  have T1 : Hid (Tryd.prog.underlying 31 = some (.slice 52)) := hidden (by kernel_rfl)
  clear ow
  unfold ln5o
  refine wp_region_noPanic ?_
  refine wp_region_held_drew (S := fun x => W.grownBy x V.ownBlock) (by kernel_rfl) (gbI (bl_drew W) _) (fun hH0 => ?_)
  refine wpAnyH_take (i := 0) (oi := { dst := some 11, op := Op.move (Operand.tmp 3), type := 31, pos := "law.go:39", after := #[], guard := none }) (v := V) rfl (by kernel_rfl) (by kernel_rfl) (by kernel_rfl) (fun _ _ _ h => h) (Or.inl ⟨by rfl, fun w0 hSw => ?_⟩) hH0 ?_
  · (clear hSw; go_simp)
  simp only [Act.put, List.setIfInBounds_toArray, List.set_cons_zero, List.set_cons_succ]
  refine wpAnyH_take (i := 1) (oi := { dst := some 12, op := Op.move (Operand.tmp 0), type := 23, pos := "law.go:39", after := #[], guard := none }) (v := .slice (some ⟨sb, so, none⟩) n c) rfl (by kernel_rfl) (by kernel_rfl) (by kernel_rfl) (fun _ _ _ h => h) (Or.inl ⟨by rfl, fun w0 hSw => ?_⟩) hH0 ?_
  · (clear hSw; go_simp)
  simp only [Act.put, List.setIfInBounds_toArray, List.set_cons_zero, List.set_cons_succ]
  refine wpAnyH_take (i := 2) (oi := { dst := some 13, op := Op.move (Operand.tmp 4), type := 3, pos := "law.go:39", after := #[], guard := none }) (v := .int .i64 (i : Int)) rfl (by kernel_rfl) (by kernel_rfl) (by kernel_rfl) (fun _ _ _ h => h) (Or.inl ⟨by rfl, fun w0 hSw => ?_⟩) hH0 ?_
  · (clear hSw; go_simp)
  simp only [Act.put, List.setIfInBounds_toArray, List.set_cons_zero, List.set_cons_succ]
  refine wpAnyH_take (i := 7) (oi := { dst := some 18, op := Op.move (Operand.tmp 0), type := 23, pos := "law.go:39", after := #[], guard := none }) (v := .slice (some ⟨sb, so, none⟩) n c) rfl (by kernel_rfl) (by kernel_rfl) (by kernel_rfl) (fun _ _ _ h => h) (Or.inl ⟨by rfl, fun w0 hSw => ?_⟩) hH0 ?_
  · (clear hSw; go_simp)
  simp only [Act.put, List.setIfInBounds_toArray, List.set_cons_zero, List.set_cons_succ]
  refine wpAnyH_take (i := 8) (oi := { dst := some 19, op := Op.move (Operand.tmp 4), type := 3, pos := "law.go:39", after := #[], guard := none }) (v := .int .i64 (i : Int)) rfl (by kernel_rfl) (by kernel_rfl) (by kernel_rfl) (fun _ _ _ h => h) (Or.inl ⟨by rfl, fun w0 hSw => ?_⟩) hH0 ?_
  · (clear hSw; go_simp)
  simp only [Act.put, List.setIfInBounds_toArray, List.set_cons_zero, List.set_cons_succ]
  refine wpAnyH_take (i := 14) (oi := { dst := some 25, op := Op.move (Operand.tmp 0), type := 23, pos := "law.go:39", after := #[], guard := none }) (v := .slice (some ⟨sb, so, none⟩) n c) rfl (by kernel_rfl) (by kernel_rfl) (by kernel_rfl) (fun _ _ _ h => h) (Or.inl ⟨by rfl, fun w0 hSw => ?_⟩) hH0 ?_
  · (clear hSw; go_simp)
  simp only [Act.put, List.setIfInBounds_toArray, List.set_cons_zero, List.set_cons_succ]
  refine wpAnyH_take (i := 15) (oi := { dst := some 26, op := Op.move (Operand.tmp 4), type := 3, pos := "law.go:39", after := #[], guard := none }) (v := .int .i64 (i : Int)) rfl (by kernel_rfl) (by kernel_rfl) (by kernel_rfl) (fun _ _ _ h => h) (Or.inl ⟨by rfl, fun w0 hSw => ?_⟩) hH0 ?_
  · (clear hSw; go_simp)
  simp only [Act.put, List.setIfInBounds_toArray, List.set_cons_zero, List.set_cons_succ]
  refine wpAnyH_take (i := 3) (oi := { dst := some 14, op := Op.indexAddr 23 (Operand.tmp 12) (Operand.tmp 13), type := 0, pos := "law.go:39", after := #[{ on := 1, ground := Ground.data }, { on := 2, ground := Ground.data }], guard := none }) (v := .pointer (some ⟨sb, so + i * 6, none⟩)) rfl (by kernel_rfl) (by kernel_rfl) (by kernel_rfl) (fun _ _ _ h => h) (Or.inl ⟨by rfl, fun w0 hSw => ?_⟩) hH0 ?_
  · (clear hSw; go_simp)
  simp only [Act.put, List.setIfInBounds_toArray, List.set_cons_zero, List.set_cons_succ]
  refine wpAnyH_take (i := 9) (oi := { dst := some 20, op := Op.indexAddr 23 (Operand.tmp 18) (Operand.tmp 19), type := 0, pos := "law.go:39", after := #[{ on := 7, ground := Ground.data }, { on := 8, ground := Ground.data }], guard := none }) (v := .pointer (some ⟨sb, so + i * 6, none⟩)) rfl (by kernel_rfl) (by kernel_rfl) (by kernel_rfl) (fun _ _ _ h => h) (Or.inl ⟨by rfl, fun w0 hSw => ?_⟩) hH0 ?_
  · (clear hSw; go_simp)
  simp only [Act.put, List.setIfInBounds_toArray, List.set_cons_zero, List.set_cons_succ]
  refine wpAnyH_take (i := 16) (oi := { dst := some 27, op := Op.indexAddr 23 (Operand.tmp 25) (Operand.tmp 26), type := 0, pos := "law.go:39", after := #[{ on := 14, ground := Ground.data }, { on := 15, ground := Ground.data }], guard := none }) (v := .pointer (some ⟨sb, so + i * 6, none⟩)) rfl (by kernel_rfl) (by kernel_rfl) (by kernel_rfl) (fun _ _ _ h => h) (Or.inl ⟨by rfl, fun w0 hSw => ?_⟩) hH0 ?_
  · (clear hSw; go_simp)
  simp only [Act.put, List.setIfInBounds_toArray, List.set_cons_zero, List.set_cons_succ]
  refine wpAnyH_take (i := 4) (oi := { dst := some 15, op := Op.fieldAddr 49 (Operand.tmp 14) 0, type := 0, pos := "law.go:39", after := #[{ on := 3, ground := Ground.data }], guard := none }) (v := .pointer (some ⟨sb, so + i * 6, none⟩)) rfl (by kernel_rfl) (by kernel_rfl) (by kernel_rfl) (fun _ _ _ h => h) (Or.inl ⟨by rfl, fun w0 hSw => ?_⟩) hH0 ?_
  · (clear hSw; go_simp)
  simp only [Act.put, List.setIfInBounds_toArray, List.set_cons_zero, List.set_cons_succ]
  refine wpAnyH_take (i := 10) (oi := { dst := some 21, op := Op.fieldAddr 49 (Operand.tmp 20) 0, type := 0, pos := "law.go:39", after := #[{ on := 9, ground := Ground.data }], guard := none }) (v := .pointer (some ⟨sb, so + i * 6, none⟩)) rfl (by kernel_rfl) (by kernel_rfl) (by kernel_rfl) (fun _ _ _ h => h) (Or.inl ⟨by rfl, fun w0 hSw => ?_⟩) hH0 ?_
  · (clear hSw; go_simp)
  simp only [Act.put, List.setIfInBounds_toArray, List.set_cons_zero, List.set_cons_succ]
  refine wpAnyH_take (i := 17) (oi := { dst := some 28, op := Op.fieldAddr 49 (Operand.tmp 27) 1, type := 0, pos := "law.go:39", after := #[{ on := 16, ground := Ground.data }], guard := none }) (v := .pointer (some ⟨sb, so + i * 6 + 2, none⟩)) rfl (by kernel_rfl) (by kernel_rfl) (by kernel_rfl) (fun _ _ _ h => h) (Or.inl ⟨by rfl, fun w0 hSw => ?_⟩) hH0 ?_
  · (clear hSw; go_simp)
  simp only [Act.put, List.setIfInBounds_toArray, List.set_cons_zero, List.set_cons_succ]
  refine wpAnyH_take (i := 5) (oi := { dst := some 16, op := Op.fieldAddr 28 (Operand.tmp 15) 0, type := 0, pos := "law.go:39", after := #[{ on := 4, ground := Ground.data }], guard := none }) (v := .pointer (some ⟨sb, so + i * 6, none⟩)) rfl (by kernel_rfl) (by kernel_rfl) (by kernel_rfl) (fun _ _ _ h => h) (Or.inl ⟨by rfl, fun w0 hSw => ?_⟩) hH0 ?_
  · (clear hSw; go_simp)
  simp only [Act.put, List.setIfInBounds_toArray, List.set_cons_zero, List.set_cons_succ]
  refine wpAnyH_take (i := 11) (oi := { dst := some 22, op := Op.fieldAddr 28 (Operand.tmp 21) 1, type := 0, pos := "law.go:39", after := #[{ on := 10, ground := Ground.data }], guard := none }) (v := .pointer (some ⟨sb, so + i * 6 + 1, none⟩)) rfl (by kernel_rfl) (by kernel_rfl) (by kernel_rfl) (fun _ _ _ h => h) (Or.inl ⟨by rfl, fun w0 hSw => ?_⟩) hH0 ?_
  · (clear hSw; go_simp)
  simp only [Act.put, List.setIfInBounds_toArray, List.set_cons_zero, List.set_cons_succ]
  refine wpAnyH_take (i := 18) (oi := { dst := some 29, op := Op.load 26 (Operand.tmp 28), type := 26, pos := "law.go:39", after := #[{ on := 17, ground := Ground.data }], guard := none }) (v := .agg #[.int .u64 p.x0, .int .u64 p.x1, .int .u64 p.x2, .int .u64 p.x3]) rfl (by kernel_rfl) (by kernel_rfl) (by kernel_rfl) (fun _ _ _ h => h) (Or.inl ⟨by rfl, fun w0 hSw => ?_⟩) hH0 ?_
  · (have hS : W.grownBy w0 V.ownBlock := hSw; have a0 := hS.cell a2 ne; have a1 := hS.cell a3 ne; have a2 := hS.cell a4 ne; have a3 := hS.cell a5 ne; clear hS hSw; go_simp)
  simp only [Act.put, List.setIfInBounds_toArray, List.set_cons_zero, List.set_cons_succ]
  refine wpAnyH_take (i := 6) (oi := { dst := some 17, op := Op.load 3 (Operand.tmp 16), type := 3, pos := "law.go:39", after := #[{ on := 5, ground := Ground.data }], guard := none }) (v := .int .i64 qk) rfl (by kernel_rfl) (by kernel_rfl) (by kernel_rfl) (fun _ _ _ h => h) (Or.inl ⟨by rfl, fun w0 hSw => ?_⟩) hH0 ?_
  · (have hS : W.grownBy w0 V.ownBlock := hSw; have a0 := hS.cell a0 ne; clear hS hSw; go_simp)
  simp only [Act.put, List.setIfInBounds_toArray, List.set_cons_zero, List.set_cons_succ]
  refine wpAnyH_take (i := 12) (oi := { dst := some 23, op := Op.load 3 (Operand.tmp 22), type := 3, pos := "law.go:39", after := #[{ on := 11, ground := Ground.data }], guard := none }) (v := .int .i64 qi) rfl (by kernel_rfl) (by kernel_rfl) (by kernel_rfl) (fun _ _ _ h => h) (Or.inl ⟨by rfl, fun w0 hSw => ?_⟩) hH0 ?_
  · (have hS : W.grownBy w0 V.ownBlock := hSw; have a0 := hS.cell a1 ne; clear hS hSw; go_simp)
  simp only [Act.put, List.setIfInBounds_toArray, List.set_cons_zero, List.set_cons_succ]
  refine wpAnyH_take (i := 13) (oi := { dst := some 24, op := Op.build 38 #[(0, Operand.tmp 17), (1, Operand.tmp 23)], type := 38, pos := "law.go:39", after := #[{ on := 6, ground := Ground.data }, { on := 12, ground := Ground.data }], guard := none }) (v := .agg #[.int .i64 qk, .int .i64 qi]) rfl (by kernel_rfl) (by kernel_rfl) (by kernel_rfl) (fun _ _ _ h => h) (Or.inl ⟨by rfl, fun w0 hSw => ?_⟩) hH0 ?_
  · (clear hSw; go_simp)
  simp only [Act.put, List.setIfInBounds_toArray, List.set_cons_zero, List.set_cons_succ]
  refine wpAnyH_ready (rs := [19]) (by kernel_rfl) (by simp) ?_
  refine AllReadyH.cons (o := { dst := some 30, op := Op.call { callee := Callee.value (Operand.func 15), args := #[Operand.tmp 29], argTypes := #[26] }, type := 41, pos := "law.go:39", after := #[{ on := 18, ground := Ground.data }], guard := none }) rfl (fun K hK => ?_) AllReadyH.nil
  have HH := hidden hH0
  clear hH0
  go_simp
  refine (C1.out _).mono ?_
  rintro e wn1 ⟨rfl, hb⟩
  have SN := hidden (HH.out.trans (gbI hb _))
  replace OW := hidden (own_keepT OW.out hb)
  clear HH C1 hb
  go_wp2_with fail
  refine hK.out _ _ SN.out (fun hH1 => ?_)
  clear hK K SN
  refine wpAnyH_take (i := 20) (oi := { dst := some 31, op := Op.build 52 #[(0, Operand.tmp 24), (1, Operand.tmp 30)], type := 52, pos := "law.go:39", after := #[{ on := 13, ground := Ground.data }, { on := 19, ground := Ground.data }], guard := none }) (v := .agg #[.int .i64 qk, .int .i64 qi, .int .u64 r.x0, .int .u64 r.x1, .int .u64 r.x2, .int .u64 r.x3]) rfl (by kernel_rfl) (by kernel_rfl) (by kernel_rfl) (fun _ _ _ h => h) (Or.inl ⟨by rfl, fun w0 hSw => ?_⟩) hH1 ?_
  · (clear hSw; go_simp)
  simp only [Act.put, List.setIfInBounds_toArray, List.set_cons_zero, List.set_cons_succ]
  refine wpAnyH_ready (rs := [21]) (by kernel_rfl) (by simp) ?_
  refine AllReadyH.cons (o := { dst := some 32, op := Op.buildSlice 31 1 #[(0, Operand.tmp 31)], type := 31, pos := "law.go:39", after := #[{ on := 20, ground := Ground.data }], guard := none }) rfl (fun K hK => ?_) AllReadyH.nil
  have HH := hidden hH1
  clear hH1
  refine wp_buildR6 _ rfl qk qi r rfl (fun tb wn2 htb hwq => ?_)
  have SN := hidden (by rw [hwq]; exact HH.out.trans (gbI (bl_alloc _ _) _) : W.grownBy wn2 V.ownBlock)
  replace OW := hidden (by rw [hwq]; exact own_keepT OW.out (bl_alloc _ _) : wn2.ownsRow base 52 6 V nn (tls out))
  have CN := hidden (by rw [htb, hwq]; exact cells_newT _ [.int .i64 qk, .int .i64 qi, .int .u64 r.x0, .int .u64 r.x1, .int .u64 r.x2, .int .u64 r.x3] _ : ∀ j u, ([.int .i64 qk, .int .i64 qi, .int .u64 r.x0, .int .u64 r.x1, .int .u64 r.x2, .int .u64 r.x3] : List Value)[j]? = some u → wn2.cell? ((⟨tb, 0, none⟩ : Addr).add j) = some u)
  clear HH htb hwq
  simp only [Act.put, List.setIfInBounds_toArray, List.set_cons_zero, List.set_cons_succ]
  refine hK.out _ _ SN.out (fun hH2 => ?_)
  clear hK K SN
  refine wpAnyH_ready (rs := [22]) (by kernel_rfl) (by simp) ?_
  refine AllReadyH.cons (o := { dst := some 33, op := Op.call { callee := Callee.builtin Builtin.append, args := #[Operand.tmp 11, Operand.tmp 32], argTypes := #[31, 31] }, type := 31, pos := "law.go:39", after := #[{ on := 0, ground := Ground.data }, { on := 21, ground := Ground.data }, { on := 19, ground := Ground.chain }], guard := none }) rfl (fun K hK => ?_) AllReadyH.nil
  have HH := hidden hH2
  clear hH2
  refine wp_append_own _ _ _ 31 rfl base 52 _ _ 6 48 T1.out HI.out HZ0.out HZ1.out HZ2.out rfl (by decide) _ nn (tls out) rfl OW.out ⟨tb, 0, none⟩ 1 1 [.int .i64 qk, .int .i64 qi, .int .u64 r.x0, .int .u64 r.x1, .int .u64 r.x2, .int .u64 r.x3] rfl rfl CN.out (six_any _ _ _ _ _ _) MX.out BY.out (Nat.le_trans BS.out HH.out.size) (fun v4 wn3 ho hg _ => ?_)
  have SN := hidden (HH.out.trans hg)
  have FE := hidden (ho)
  clear HH ho hg
  simp only [Act.put, List.setIfInBounds_toArray, List.set_cons_zero, List.set_cons_succ]
  refine hK.out _ _ SN.out (fun hH3 => ?_)
  clear hK K SN
  refine wpAnyH_take (i := 23) (oi := { dst := some 3, op := Op.assign (Operand.tmp 33), type := 31, pos := "law.go:39", after := #[{ on := 22, ground := Ground.data }, { on := 22, ground := Ground.chain }, { on := 0, ground := Ground.phase }, { on := 1, ground := Ground.phase }, { on := 2, ground := Ground.phase }, { on := 3, ground := Ground.phase }, { on := 4, ground := Ground.phase }, { on := 5, ground := Ground.phase }, { on := 6, ground := Ground.phase }, { on := 7, ground := Ground.phase }, { on := 8, ground := Ground.phase }, { on := 9, ground := Ground.phase }, { on := 10, ground := Ground.phase }, { on := 11, ground := Ground.phase }, { on := 12, ground := Ground.phase }, { on := 13, ground := Ground.phase }, { on := 14, ground := Ground.phase }, { on := 15, ground := Ground.phase }, { on := 16, ground := Ground.phase }, { on := 17, ground := Ground.phase }, { on := 18, ground := Ground.phase }, { on := 19, ground := Ground.phase }, { on := 20, ground := Ground.phase }, { on := 21, ground := Ground.phase }, { on := 22, ground := Ground.phase }], guard := none }) (v := v4) rfl (by kernel_rfl) (by kernel_rfl) (by kernel_rfl) (fun _ _ _ h => h) (Or.inl ⟨by rfl, fun w0 hSw => ?_⟩) hH3 ?_
  · (clear hSw; go_simp)
  simp only [Act.put, List.setIfInBounds_toArray, List.set_cons_zero, List.set_cons_succ]
  have HH := hidden hH3
  have FQ := hidden (HQ.out _ tb v4 HH.out FE.out)
  refine wpAnyH_done (by kernel_rfl) ?_ _
  refine NoPanic.normal ?_
  exact FQ.out
theorem glL_len (n : Nat) (f : Nat → Trm) : (glL n f).length = n := by simp [glL]
/-- the document's own list of a sum: its numbers -/
theorem lin_any (P : Option Addr) (n c : Nat) (f : Nat → Trm) (w : World) (hn : n ≤ 2932031007400) (hf : ∀ k, k < n → (f k).a.ok) (hL : Lt w P n f) :
    Calls Tryd.prog 5 #[.slice P n c] w fun e w' => ∃ v, e = .returned v ∧ Dl w (glL n f) v w' := by
  have HS := hidden hn
  have HF := hidden hf
  have HL := hidden hL
  have D0 : Hid (Dl w (glL 0 f) (.slice none 0 0) w) := hidden ⟨World.ownsRow_nil _ _ _ _, Below.refl _ _⟩
  clear hn hf hL
  go_enter Tryd.func5, Tryd.ntmps5
  go_upto_region 3 with fail
  go_loopw [3, 4] (fun v iv w' => ∃ i : Nat, i ≤ n ∧ iv = .int .i64 (i : Int) ∧ Hid (Dl w (glL i f) v w')) (fun _ i _ => n - (intOf i).toNat)
  case atStart => exact ⟨0, by omega, rfl, D0⟩
  case round =>
    clear D0
    obtain ⟨i, hi, rfl, hR⟩ := hrel
    by_cases hin : i < n
    · have i1 : (i : Int) < (n : Int) := by omega
      have i0 : (0 : Int) ≤ (i : Int) := by omega
      have w9 : IntKind.i64.wrap ((i : Int) + 1) = (i : Int) + 1 := IntWalk.i64_in _ (by have := HS.out; omega)
      obtain ⟨sb, so, hPs, hRt⟩ := HL.out
      obtain rfl := hPs (by omega)
      have rt := (hRt (by omega))
      have NS := World.block_lt_of_cell? w _ (rt.c0 i hin)
      simp only at NS
      have a0 := cell_keep (rt.c0 i hin) hR.out.2
      have a1 := cell_keep (rt.c1 i hin) hR.out.2
      have a2 := cell_keep (rt.c2 i hin) hR.out.2
      have a3 := cell_keep (rt.c3 i hin) hR.out.2
      have a4 := cell_keep (rt.c4 i hin) hR.out.2
      have a5 := cell_keep (rt.c5 i hin) hR.out.2
      have ne : some sb ≠ Value.ownBlock u3 := fun e => by have := (hR.out.1.lt _ e.symm).1; omega
      have C1 := fun y => num19_any (f i).a (HF.out i hin) y
      have ow := hR.out.1
      rw [glL_len] at ow
      obtain ⟨r, hr⟩ : ∃ r, lst (f i).a.n = r := ⟨_, rfl⟩
      simp only [hr] at C1
      have TX : Hid (tls (glL (i + 1) f) = tls (glL i f) ++ [.int .i64 (f i).q.1, .int .i64 (f i).q.2, .int .u64 r.x0, .int .u64 r.x1, .int .u64 r.x2, .int .u64 r.x3]) := hidden (by rw [glL_succ, tls_snoc]; unfold tmOf Trm.cs; simp only [hr])
      replace C1 := hidden C1
      clear rt hRt hPs hr
      generalize (f i).q.1 = qk at *
      generalize (f i).q.2 = qi at *
      generalize (f i).a = p at *
      go_upto_region 5 with fail
      refine ln5 _ sb so n c i w.heap.size i qk qi p r _ (glL i f) _ _ _ _ _ _ _ _ _ _ _ _ _ _ _ _ _ _ _ _ _ _ _ _ _ _ _ _ _ _ _ _ wr i0 i1 ne a0 a1 a2 a3 a4 a5 ow (hidden (by unfold maxLen; have := HS.out; omega)) (hidden (by have := HS.out; omega)) (hidden hR.out.2.size) C1 (hidden ?_)
      intro w2 tb v2 hg2 ho2
      have PN : Hid (Dl w (glL (i + 1) f) v2 w2) := hidden ⟨by rw [TX.out, glL_len]; exact ho2, told_bel hR.out.2 (Below.refl _ _) hR.out.1 hg2⟩
      clear hR C1 hg2 ho2 a0 a1 a2 a3 a4 a5 ow TX
      go_wp2_with fail
      go_roundw
      case rel => exact ⟨i + 1, by omega, by go_num, PN⟩
      case measure => simp [intOf]; omega
    · obtain rfl : i = n := by omega
      have lq : ¬ (i : Int) < (i : Int) := by omega
      go_wp2_with fail
      exact bodyPost_ret (v := u3) (by simp [results, Tryd.results5, go_sem]) rfl ⟨_, rfl, hR.out⟩
end Ci
end Go.Proofs.YtbmbopapmajaaaaDoor
