import Derived.Test.YtapieajkmpnmoaaGreatDoorMM2
import Derived.Test.YtapieajkmpnmoaaGreatDoorGb
namespace Go.Proofs.YtapieajkmpnmoaaGreatDoor.Li
open Go.RowKit
set_option linter.unusedVariables false
theorem ints_any (k : Int) (w : World) : Calls Tryz.prog 4 #[.int .u64 k] w fun e w' => e = .returned (.agg #[.int .u64 k, .int .u64 0, .int .u64 0, .int .u64 0]) ∧ Below w.heap.size w w' := by
  go_enter Tryz.func4, Tryz.ntmps4
  go_wp2_with fail
  refine bodyPost_ret (v := .agg #[.int .u64 k, .int .u64 0, .int .u64 0, .int .u64 0]) (by simp [results, Tryz.results4, go_sem]) rfl ⟨rfl, bl_alloc w _⟩
theorem ok_small (k : Int) (h : 0 ≤ k ∧ k < 100) : (⟨k, 0, 0, 0⟩ : E4).ok := by unfold E4.ok; simp only [Sm.Wd]; omega
theorem n_small (k : Int) : (⟨k, 0, 0, 0⟩ : E4).n = k := by simp [E4.n, Sm.V]
theorem buildS1 (y : E4) (w : World) : (Instr.buildSlice 22 1 #[(0, .agg #[.int .u64 y.x0, .int .u64 y.x1, .int .u64 y.x2, .int .u64 y.x3])]).run Tryz.prog w = .ok (.slice (some ⟨w.heap.size, 0, none⟩) 1 1) (w.alloc (.cells #[.int .u64 y.x0, .int .u64 y.x1, .int .u64 y.x2, .int .u64 y.x3] 25)) := by kernel_rfl
theorem wp_buildS1 {w : World} {o : Oper} {a : Act} {K : Act → World → Prop} {Q : Exit → Act → World → Prop} (x : Operand) (ho : o.op = .buildSlice 22 1 #[(0, x)]) (y : E4) (hx : a.eval x = .agg #[.int .u64 y.x0, .int .u64 y.x1, .int .u64 y.x2, .int .u64 y.x3]) (h : ∀ (tb : Nat) (wq : World), Below w.heap.size w wq → wq.rangeAt tb 0 [.int .u64 y.x0, .int .u64 y.x1, .int .u64 y.x2, .int .u64 y.x3] → K (a.put o.dst (.slice (some ⟨tb, 0, none⟩) 1 1)) wq) : o.wp Tryz.prog a w K Q := by
  have hr := buildS1 y w
  unfold Oper.wp execOp
  simp only [ho, Sem.run_bind, Sem.run_pure, Result.andThen_ok, List.map_toArray, List.map_cons, List.map_nil, hx, hr]
  exact h _ _ (bl_alloc _ _) (range_newM w [.int .u64 y.x0, .int .u64 y.x1, .int .u64 y.x2, .int .u64 y.x3] 25)
theorem lm1 {w : World} {b : Nat} {y : E4} (h : w.rangeAt b 0 [.int .u64 y.x0, .int .u64 y.x1, .int .u64 y.x2, .int .u64 y.x3]) : Lm w (some ⟨b, 0, none⟩) 1 (fun _ => y) := ⟨b, 0, fun _ => rfl, fun _ => ⟨fun i hi => (by obtain rfl : i = 0 := (by omega); exact h 0 _ rfl), fun i hi => (by obtain rfl : i = 0 := (by omega); exact h 1 _ rfl), fun i hi => (by obtain rfl : i = 0 := (by omega); exact h 2 _ rfl), fun i hi => (by obtain rfl : i = 0 := (by omega); exact h 3 _ rfl)⟩⟩
def al2o : Array Oper := #[{ dst := some 12, op := Op.load 48 (Operand.tmp 1), type := 48, pos := "outright.go:20", after := #[], guard := none },
  { dst := some 13, op := Op.call { callee := Callee.value (Operand.func 4), args := #[Operand.const (Value.int IntKind.u64 3)], argTypes := #[23] }, type := 25, pos := "outright.go:20", after := #[], guard := none },
  { dst := some 14, op := Op.buildSlice 22 1 #[(0, Operand.tmp 13)], type := 22, pos := "outright.go:20", after := #[{ on := 1, ground := Ground.data }], guard := none },
  { dst := some 15, op := Op.call { callee := Callee.value (Operand.func 13), args := #[Operand.tmp 12, Operand.tmp 14], argTypes := #[48, 22] }, type := 52, pos := "outright.go:20", after := #[{ on := 0, ground := Ground.data }, { on := 2, ground := Ground.data }, { on := 1, ground := Ground.chain }], guard := none },
  { dst := some 11, op := Op.move (Operand.tmp 15), type := 52, pos := "outright.go:20", after := #[{ on := 3, ground := Ground.data }], guard := none },
  { dst := some 16, op := Op.extract (Operand.tmp 11) 0, type := 46, pos := "outright.go:20", after := #[{ on := 4, ground := Ground.data }], guard := none },
  { dst := some 17, op := Op.extract (Operand.tmp 11) 1, type := 34, pos := "outright.go:20", after := #[{ on := 4, ground := Ground.data }, { on := 7, ground := Ground.gcOnly Departure.lateStores }], guard := none },
  { dst := some 2, op := Op.assign (Operand.tmp 16), type := 46, pos := "outright.go:20", after := #[{ on := 5, ground := Ground.data }, { on := 3, ground := Ground.chain }, { on := 0, ground := Ground.phase }, { on := 1, ground := Ground.phase }, { on := 2, ground := Ground.phase }, { on := 3, ground := Ground.phase }, { on := 4, ground := Ground.phase }, { on := 5, ground := Ground.phase }, { on := 6, ground := Ground.textOnly Departure.lateStores }], guard := none },
  { dst := some 3, op := Op.assign (Operand.tmp 17), type := 34, pos := "outright.go:20", after := #[{ on := 6, ground := Ground.data }, { on := 7, ground := Ground.chain }, { on := 0, ground := Ground.phase }, { on := 1, ground := Ground.phase }, { on := 2, ground := Ground.phase }, { on := 3, ground := Ground.phase }, { on := 4, ground := Ground.phase }, { on := 5, ground := Ground.phase }, { on := 6, ground := Ground.phase }, { on := 7, ground := Ground.phase }], guard := none }]
set_option maxRecDepth 100000 in
set_option maxHeartbeats 16000000 in
theorem al2 (Q : Exit → Act → World → Prop) (T1 R I : Nat) (y : E4) (RW : Nat → World → Prop) (u0 u2 u3 u4 u5 u6 u7 u8 u9 u10 u11 u12 u13 u14 u15 u16 u17 u18 u19 u20 u21 u22 u23 u24 u25 u26 u27 u28 u29 u30 u31 u32 u33 u34 u35 u36 u37 u38 u39 u40 u41 u42 u43 u44 u45 u46 u47 u48 u49 u50 u51 u52 u53 u54 u55 u56 u57 u58 u59 u60 u61 u62 u63 u64 u65 : Value) (W : World)
    (cl0 : W.cell? ⟨T1, 0, none⟩ = some (.slice (some ⟨R, 0, none⟩) 1 1)) (cl1 : W.cell? ⟨T1, 1, none⟩ = some (.slice (some ⟨I, 0, none⟩) 1 1))
    (C1 : Hid (∀ x, Calls Tryz.prog 4 #[.int .u64 3] x fun e w' => e = .returned (.agg #[.int .u64 y.x0, .int .u64 y.x1, .int .u64 y.x2, .int .u64 y.x3]) ∧ Below x.heap.size x w'))
    (C3 : Hid (∀ (x : World) (tb : Nat), Below W.heap.size W x → x.rangeAt tb 0 [.int .u64 y.x0, .int .u64 y.x1, .int .u64 y.x2, .int .u64 y.x3] → Calls Tryz.prog 13 #[.agg #[.slice (some ⟨R, 0, none⟩) 1 1, .slice (some ⟨I, 0, none⟩) 1 1], .slice (some ⟨tb, 0, none⟩) 1 1] x fun e w' => ∃ D : Nat, e = .returned (.tuple #[.slice (some ⟨D, 0, none⟩) 1 1, .int .i64 0]) ∧ RW D w' ∧ Below x.heap.size x w'))
    (HQ : Hid (∀ (tb D : Nat) (wz : World), Below W.heap.size W wz → RW D wz → Q .normal ⟨#[u0, .pointer (some ⟨T1, 0, none⟩), .slice (some ⟨D, 0, none⟩) 1 1, .int .i64 0, u4, u5, u6, u7, u8, u9, u10, .tuple #[.slice (some ⟨D, 0, none⟩) 1 1, .int .i64 0], .agg #[.slice (some ⟨R, 0, none⟩) 1 1, .slice (some ⟨I, 0, none⟩) 1 1], .agg #[.int .u64 y.x0, .int .u64 y.x1, .int .u64 y.x2, .int .u64 y.x3], .slice (some ⟨tb, 0, none⟩) 1 1, .tuple #[.slice (some ⟨D, 0, none⟩) 1 1, .int .i64 0], .slice (some ⟨D, 0, none⟩) 1 1, .int .i64 0, u18, u19, u20, u21, u22, u23, u24, u25, u26, u27, u28, u29, u30, u31, u32, u33, u34, u35, u36, u37, u38, u39, u40, u41, u42, u43, u44, u45, u46, u47, u48, u49, u50, u51, u52, u53, u54, u55, u56, u57, u58, u59, u60, u61, u62, u63, u64, u65], []⟩ wz)) : (Code.region 2 al2o true).wp Tryz.prog Q ⟨#[u0, .pointer (some ⟨T1, 0, none⟩), u2, u3, u4, u5, u6, u7, u8, u9, u10, u11, u12, u13, u14, u15, u16, u17, u18, u19, u20, u21, u22, u23, u24, u25, u26, u27, u28, u29, u30, u31, u32, u33, u34, u35, u36, u37, u38, u39, u40, u41, u42, u43, u44, u45, u46, u47, u48, u49, u50, u51, u52, u53, u54, u55, u56, u57, u58, u59, u60, u61, u62, u63, u64, u65], []⟩ W := by
  unfold al2o
  refine wp_region_noPanic ?_
  refine wp_region_held_drew (S := fun x => Below W.heap.size W x) (by kernel_rfl) (bl_drew W) (fun hH0 => ?_)
  refine wpAnyH_take (i := 0) (oi := { dst := some 12, op := Op.load 48 (Operand.tmp 1), type := 48, pos := "outright.go:20", after := #[], guard := none }) (v := .agg #[.slice (some ⟨R, 0, none⟩) 1 1, .slice (some ⟨I, 0, none⟩) 1 1]) rfl (by kernel_rfl) (by kernel_rfl) (by kernel_rfl) (fun _ _ _ h => h) (Or.inl ⟨by rfl, fun w0 hSw => ?_⟩) hH0 ?_
  · (have hS : Below W.heap.size W w0 := hSw; have a0 := cell_keep cl0 hS; have a1 := cell_keep cl1 hS; clear hS hSw; go_simp)
  simp only [Act.put, List.setIfInBounds_toArray, List.set_cons_zero, List.set_cons_succ]
  refine wpAnyH_ready (rs := [1]) (by kernel_rfl) (by simp) ?_
  refine AllReadyH.cons (o := { dst := some 13, op := Op.call { callee := Callee.value (Operand.func 4), args := #[Operand.const (Value.int IntKind.u64 3)], argTypes := #[23] }, type := 25, pos := "outright.go:20", after := #[], guard := none }) rfl (fun K hK => ?_) AllReadyH.nil
  have HH := hidden hH0
  clear hH0
  go_simp
  refine (C1.out _).mono ?_
  rintro e wn1 ⟨rfl, hb⟩
  have SN := hidden (bl_trans HH.out hb)
  clear HH C1 hb
  go_wp2_with fail
  refine hK.out _ _ SN.out (fun hH1 => ?_)
  clear hK K SN
  refine wpAnyH_ready (rs := [2]) (by kernel_rfl) (by simp) ?_
  refine AllReadyH.cons (o := { dst := some 14, op := Op.buildSlice 22 1 #[(0, Operand.tmp 13)], type := 22, pos := "outright.go:20", after := #[{ on := 1, ground := Ground.data }], guard := none }) rfl (fun K hK => ?_) AllReadyH.nil
  have HH := hidden hH1
  clear hH1
  refine wp_buildS1 (.tmp 13) rfl y rfl (fun tb wn2 hb hcb => ?_)
  have RB := hidden (hcb)
  have SN := hidden (bl_trans HH.out hb)
  clear HH hb hcb
  simp only [Act.put, List.setIfInBounds_toArray, List.set_cons_zero, List.set_cons_succ]
  refine hK.out _ _ SN.out (fun hH2 => ?_)
  clear hK K SN
  refine wpAnyH_ready (rs := [3]) (by kernel_rfl) (by simp) ?_
  refine AllReadyH.cons (o := { dst := some 15, op := Op.call { callee := Callee.value (Operand.func 13), args := #[Operand.tmp 12, Operand.tmp 14], argTypes := #[48, 22] }, type := 52, pos := "outright.go:20", after := #[{ on := 0, ground := Ground.data }, { on := 2, ground := Ground.data }, { on := 1, ground := Ground.chain }], guard := none }) rfl (fun K hK => ?_) AllReadyH.nil
  have HH := hidden hH2
  clear hH2
  go_simp
  refine (C3.out _ tb HH.out RB.out).mono ?_
  rintro e wn3 ⟨D, rfl, hR, hb⟩
  have RR := hidden (hR)
  have SN := hidden (bl_trans HH.out hb)
  clear HH C3 hR hb RB
  go_wp2_with fail
  refine hK.out _ _ SN.out (fun hH3 => ?_)
  clear hK K SN
  refine wpAnyH_take (i := 4) (oi := { dst := some 11, op := Op.move (Operand.tmp 15), type := 52, pos := "outright.go:20", after := #[{ on := 3, ground := Ground.data }], guard := none }) (v := .tuple #[.slice (some ⟨D, 0, none⟩) 1 1, .int .i64 0]) rfl (by kernel_rfl) (by kernel_rfl) (by kernel_rfl) (fun _ _ _ h => h) (Or.inl ⟨by rfl, fun w0 hSw => ?_⟩) hH3 ?_
  · (clear hSw; go_simp)
  simp only [Act.put, List.setIfInBounds_toArray, List.set_cons_zero, List.set_cons_succ]
  refine wpAnyH_take (i := 5) (oi := { dst := some 16, op := Op.extract (Operand.tmp 11) 0, type := 46, pos := "outright.go:20", after := #[{ on := 4, ground := Ground.data }], guard := none }) (v := .slice (some ⟨D, 0, none⟩) 1 1) rfl (by kernel_rfl) (by kernel_rfl) (by kernel_rfl) (fun _ _ _ h => h) (Or.inl ⟨by rfl, fun w0 hSw => ?_⟩) hH3 ?_
  · (clear hSw; go_simp)
  simp only [Act.put, List.setIfInBounds_toArray, List.set_cons_zero, List.set_cons_succ]
  refine wpAnyH_take (i := 6) (oi := { dst := some 17, op := Op.extract (Operand.tmp 11) 1, type := 34, pos := "outright.go:20", after := #[{ on := 4, ground := Ground.data }, { on := 7, ground := Ground.gcOnly Departure.lateStores }], guard := none }) (v := .int .i64 0) rfl (by kernel_rfl) (by kernel_rfl) (by kernel_rfl) (fun _ _ _ h => h) (Or.inl ⟨by rfl, fun w0 hSw => ?_⟩) hH3 ?_
  · (clear hSw; go_simp)
  simp only [Act.put, List.setIfInBounds_toArray, List.set_cons_zero, List.set_cons_succ]
  refine wpAnyH_take (i := 7) (oi := { dst := some 2, op := Op.assign (Operand.tmp 16), type := 46, pos := "outright.go:20", after := #[{ on := 5, ground := Ground.data }, { on := 3, ground := Ground.chain }, { on := 0, ground := Ground.phase }, { on := 1, ground := Ground.phase }, { on := 2, ground := Ground.phase }, { on := 3, ground := Ground.phase }, { on := 4, ground := Ground.phase }, { on := 5, ground := Ground.phase }, { on := 6, ground := Ground.textOnly Departure.lateStores }], guard := none }) (v := .slice (some ⟨D, 0, none⟩) 1 1) rfl (by kernel_rfl) (by kernel_rfl) (by kernel_rfl) (fun _ _ _ h => h) (Or.inl ⟨by rfl, fun w0 hSw => ?_⟩) hH3 ?_
  · (clear hSw; go_simp)
  simp only [Act.put, List.setIfInBounds_toArray, List.set_cons_zero, List.set_cons_succ]
  refine wpAnyH_take (i := 8) (oi := { dst := some 3, op := Op.assign (Operand.tmp 17), type := 34, pos := "outright.go:20", after := #[{ on := 6, ground := Ground.data }, { on := 7, ground := Ground.chain }, { on := 0, ground := Ground.phase }, { on := 1, ground := Ground.phase }, { on := 2, ground := Ground.phase }, { on := 3, ground := Ground.phase }, { on := 4, ground := Ground.phase }, { on := 5, ground := Ground.phase }, { on := 6, ground := Ground.phase }, { on := 7, ground := Ground.phase }], guard := none }) (v := .int .i64 0) rfl (by kernel_rfl) (by kernel_rfl) (by kernel_rfl) (fun _ _ _ h => h) (Or.inl ⟨by rfl, fun w0 hSw => ?_⟩) hH3 ?_
  · (clear hSw; go_simp)
  simp only [Act.put, List.setIfInBounds_toArray, List.set_cons_zero, List.set_cons_succ]
  have HH := hidden hH3
  have FQ := hidden (HQ.out tb D _ HH.out RR.out)
  refine wpAnyH_done (by kernel_rfl) ?_ _
  refine NoPanic.normal ?_
  exact FQ.out
def al4o : Array Oper := #[{ dst := some 27, op := Op.move (Operand.tmp 3), type := 34, pos := "outright.go:22", after := #[], guard := none },
  { dst := some 28, op := Op.binOp BinOp.neq 3 (Operand.tmp 27) (Operand.const (Value.int IntKind.i64 0)) 3, type := 4, pos := "outright.go:22", after := #[{ on := 0, ground := Ground.data }], guard := none },
  { dst := some 29, op := Op.move (Operand.tmp 28), type := 4, pos := "outright.go:22", after := #[{ on := 1, ground := Ground.data }], guard := none },
  { dst := some 30, op := Op.move (Operand.tmp 5), type := 34, pos := "outright.go:22", after := #[{ on := 2, ground := Ground.guard }], guard := some (2, false) },
  { dst := some 31, op := Op.binOp BinOp.neq 3 (Operand.tmp 30) (Operand.const (Value.int IntKind.i64 0)) 3, type := 4, pos := "outright.go:22", after := #[{ on := 3, ground := Ground.data }, { on := 2, ground := Ground.guard }], guard := some (2, false) },
  { dst := some 32, op := Op.pick (Operand.tmp 29) (Operand.const (Value.bool true)) (Operand.tmp 31), type := 4, pos := "outright.go:22", after := #[{ on := 2, ground := Ground.data }, { on := 4, ground := Ground.data }], guard := none },
  { dst := some 33, op := Op.move (Operand.tmp 32), type := 4, pos := "outright.go:22", after := #[{ on := 5, ground := Ground.data }, { on := 2, ground := Ground.chain }], guard := none },
  { dst := some 34, op := Op.move (Operand.tmp 2), type := 46, pos := "outright.go:22", after := #[{ on := 6, ground := Ground.guard }], guard := some (6, false) },
  { dst := some 35, op := Op.call { callee := Callee.builtin Builtin.len, args := #[Operand.tmp 34], argTypes := #[46] }, type := 3, pos := "outright.go:22", after := #[{ on := 7, ground := Ground.data }, { on := 6, ground := Ground.guard }], guard := some (6, false) },
  { dst := some 36, op := Op.binOp BinOp.neq 3 (Operand.tmp 35) (Operand.const (Value.int IntKind.i64 1)) 3, type := 4, pos := "outright.go:22", after := #[{ on := 8, ground := Ground.data }, { on := 6, ground := Ground.guard }], guard := some (6, false) },
  { dst := some 37, op := Op.pick (Operand.tmp 33) (Operand.const (Value.bool true)) (Operand.tmp 36), type := 4, pos := "outright.go:22", after := #[{ on := 6, ground := Ground.data }, { on := 9, ground := Ground.data }], guard := none },
  { dst := some 38, op := Op.move (Operand.tmp 37), type := 4, pos := "outright.go:22", after := #[{ on := 10, ground := Ground.data }, { on := 6, ground := Ground.chain }], guard := none },
  { dst := some 39, op := Op.move (Operand.tmp 4), type := 22, pos := "outright.go:22", after := #[{ on := 11, ground := Ground.guard }], guard := some (11, false) },
  { dst := some 40, op := Op.call { callee := Callee.builtin Builtin.len, args := #[Operand.tmp 39], argTypes := #[22] }, type := 3, pos := "outright.go:22", after := #[{ on := 12, ground := Ground.data }, { on := 11, ground := Ground.guard }], guard := some (11, false) },
  { dst := some 41, op := Op.binOp BinOp.neq 3 (Operand.tmp 40) (Operand.const (Value.int IntKind.i64 1)) 3, type := 4, pos := "outright.go:22", after := #[{ on := 13, ground := Ground.data }, { on := 11, ground := Ground.guard }], guard := some (11, false) },
  { dst := some 42, op := Op.pick (Operand.tmp 38) (Operand.const (Value.bool true)) (Operand.tmp 41), type := 4, pos := "outright.go:22", after := #[{ on := 11, ground := Ground.data }, { on := 14, ground := Ground.data }], guard := none },
  { dst := some 43, op := Op.move (Operand.tmp 42), type := 4, pos := "outright.go:22", after := #[{ on := 15, ground := Ground.data }, { on := 11, ground := Ground.chain }], guard := none },
  { dst := some 44, op := Op.move (Operand.tmp 4), type := 22, pos := "outright.go:22", after := #[{ on := 16, ground := Ground.guard }], guard := some (16, false) },
  { dst := some 45, op := Op.indexAddr 22 (Operand.tmp 44) (Operand.const (Value.int IntKind.i64 0)), type := 0, pos := "outright.go:22", after := #[{ on := 17, ground := Ground.data }, { on := 16, ground := Ground.guard }], guard := some (16, false) },
  { dst := some 46, op := Op.load 25 (Operand.tmp 45), type := 25, pos := "outright.go:22", after := #[{ on := 18, ground := Ground.data }, { on := 16, ground := Ground.guard }], guard := some (16, false) },
  { dst := some 47, op := Op.call { callee := Callee.value (Operand.func 4), args := #[Operand.const (Value.int IntKind.u64 13)], argTypes := #[23] }, type := 25, pos := "outright.go:22", after := #[{ on := 16, ground := Ground.chain }, { on := 16, ground := Ground.guard }], guard := some (16, false) },
  { dst := some 48, op := Op.call { callee := Callee.value (Operand.func 5), args := #[Operand.tmp 46, Operand.tmp 47], argTypes := #[25, 25] }, type := 4, pos := "outright.go:22", after := #[{ on := 19, ground := Ground.data }, { on := 20, ground := Ground.data }, { on := 20, ground := Ground.chain }, { on := 16, ground := Ground.guard }], guard := some (16, false) },
  { dst := some 49, op := Op.unOp UnOp.not 4 (Operand.tmp 48), type := 4, pos := "outright.go:22", after := #[{ on := 21, ground := Ground.data }, { on := 16, ground := Ground.guard }], guard := some (16, false) },
  { dst := some 50, op := Op.pick (Operand.tmp 43) (Operand.const (Value.bool true)) (Operand.tmp 49), type := 4, pos := "outright.go:22", after := #[{ on := 16, ground := Ground.data }, { on := 22, ground := Ground.data }], guard := none }]
set_option maxRecDepth 100000 in
set_option maxHeartbeats 16000000 in
theorem al4 (Q : Exit → Act → World → Prop) (D E : Nat) (a y : E4) (u0 u1 u6 u7 u8 u9 u10 u11 u12 u13 u14 u15 u16 u17 u18 u19 u20 u21 u22 u23 u24 u25 u26 u27 u28 u29 u30 u31 u32 u33 u34 u35 u36 u37 u38 u39 u40 u41 u42 u43 u44 u45 u46 u47 u48 u49 u50 u51 u52 u53 u54 u55 u56 u57 u58 u59 u60 u61 u62 u63 u64 u65 : Value) (W : World)
    (ca0 : W.cell? ⟨E, 0, none⟩ = some (.int .u64 a.x0)) (ca1 : W.cell? ⟨E, 1, none⟩ = some (.int .u64 a.x1)) (ca2 : W.cell? ⟨E, 2, none⟩ = some (.int .u64 a.x2)) (ca3 : W.cell? ⟨E, 3, none⟩ = some (.int .u64 a.x3))
    (C20 : Hid (∀ x, Calls Tryz.prog 4 #[.int .u64 13] x fun e w' => e = .returned (.agg #[.int .u64 y.x0, .int .u64 y.x1, .int .u64 y.x2, .int .u64 y.x3]) ∧ Below x.heap.size x w'))
    (C21 : Hid (∀ x, Below W.heap.size W x → Calls Tryz.prog 5 #[.agg #[.int .u64 a.x0, .int .u64 a.x1, .int .u64 a.x2, .int .u64 a.x3], .agg #[.int .u64 y.x0, .int .u64 y.x1, .int .u64 y.x2, .int .u64 y.x3]] x fun e w' => e = .returned (.bool true) ∧ Below x.heap.size x w'))
    (HQ : Hid (∀ (wz : World), Below W.heap.size W wz → Q .normal ⟨#[u0, u1, .slice (some ⟨D, 0, none⟩) 1 1, .int .i64 0, .slice (some ⟨E, 0, none⟩) 1 1, .int .i64 0, u6, u7, u8, u9, u10, u11, u12, u13, u14, u15, u16, u17, u18, u19, u20, u21, u22, u23, u24, u25, u26, .int .i64 0, .bool false, .bool false, .int .i64 0, .bool false, .bool false, .bool false, .slice (some ⟨D, 0, none⟩) 1 1, .int .i64 1, .bool false, .bool false, .bool false, .slice (some ⟨E, 0, none⟩) 1 1, .int .i64 1, .bool false, .bool false, .bool false, .slice (some ⟨E, 0, none⟩) 1 1, .pointer (some ⟨E, 0, none⟩), .agg #[.int .u64 a.x0, .int .u64 a.x1, .int .u64 a.x2, .int .u64 a.x3], .agg #[.int .u64 y.x0, .int .u64 y.x1, .int .u64 y.x2, .int .u64 y.x3], .bool true, .bool false, .bool false, u51, u52, u53, u54, u55, u56, u57, u58, u59, u60, u61, u62, u63, u64, u65], []⟩ wz)) : (Code.region 4 al4o true).wp Tryz.prog Q ⟨#[u0, u1, .slice (some ⟨D, 0, none⟩) 1 1, .int .i64 0, .slice (some ⟨E, 0, none⟩) 1 1, .int .i64 0, u6, u7, u8, u9, u10, u11, u12, u13, u14, u15, u16, u17, u18, u19, u20, u21, u22, u23, u24, u25, u26, u27, u28, u29, u30, u31, u32, u33, u34, u35, u36, u37, u38, u39, u40, u41, u42, u43, u44, u45, u46, u47, u48, u49, u50, u51, u52, u53, u54, u55, u56, u57, u58, u59, u60, u61, u62, u63, u64, u65], []⟩ W := by
  unfold al4o
  refine wp_region_noPanic ?_
  refine wp_region_held_drew (S := fun x => Below W.heap.size W x) (by kernel_rfl) (bl_drew W) (fun hH0 => ?_)
  refine wpAnyH_take (i := 0) (oi := { dst := some 27, op := Op.move (Operand.tmp 3), type := 34, pos := "outright.go:22", after := #[], guard := none }) (v := .int .i64 0) rfl (by kernel_rfl) (by kernel_rfl) (by kernel_rfl) (fun _ _ _ h => h) (Or.inl ⟨by rfl, fun w0 hSw => ?_⟩) hH0 ?_
  · (clear hSw; go_simp)
  simp only [Act.put, List.setIfInBounds_toArray, List.set_cons_zero, List.set_cons_succ]
  refine wpAnyH_take (i := 1) (oi := { dst := some 28, op := Op.binOp BinOp.neq 3 (Operand.tmp 27) (Operand.const (Value.int IntKind.i64 0)) 3, type := 4, pos := "outright.go:22", after := #[{ on := 0, ground := Ground.data }], guard := none }) (v := .bool false) rfl (by kernel_rfl) (by kernel_rfl) (by kernel_rfl) (fun _ _ _ h => h) (Or.inl ⟨by rfl, fun w0 hSw => ?_⟩) hH0 ?_
  · (clear hSw; go_simp)
  simp only [Act.put, List.setIfInBounds_toArray, List.set_cons_zero, List.set_cons_succ]
  refine wpAnyH_take (i := 2) (oi := { dst := some 29, op := Op.move (Operand.tmp 28), type := 4, pos := "outright.go:22", after := #[{ on := 1, ground := Ground.data }], guard := none }) (v := .bool false) rfl (by kernel_rfl) (by kernel_rfl) (by kernel_rfl) (fun _ _ _ h => h) (Or.inl ⟨by rfl, fun w0 hSw => ?_⟩) hH0 ?_
  · (clear hSw; go_simp)
  simp only [Act.put, List.setIfInBounds_toArray, List.set_cons_zero, List.set_cons_succ]
  refine wpAnyH_take (i := 3) (oi := { dst := some 30, op := Op.move (Operand.tmp 5), type := 34, pos := "outright.go:22", after := #[{ on := 2, ground := Ground.guard }], guard := some (2, false) }) (v := .int .i64 0) rfl (by kernel_rfl) (by kernel_rfl) (by kernel_rfl) (fun _ _ _ h => h) (Or.inl ⟨by rfl, fun w0 hSw => ?_⟩) hH0 ?_
  · (clear hSw; go_simp)
  simp only [Act.put, List.setIfInBounds_toArray, List.set_cons_zero, List.set_cons_succ]
  refine wpAnyH_take (i := 4) (oi := { dst := some 31, op := Op.binOp BinOp.neq 3 (Operand.tmp 30) (Operand.const (Value.int IntKind.i64 0)) 3, type := 4, pos := "outright.go:22", after := #[{ on := 3, ground := Ground.data }, { on := 2, ground := Ground.guard }], guard := some (2, false) }) (v := .bool false) rfl (by kernel_rfl) (by kernel_rfl) (by kernel_rfl) (fun _ _ _ h => h) (Or.inl ⟨by rfl, fun w0 hSw => ?_⟩) hH0 ?_
  · (clear hSw; go_simp)
  simp only [Act.put, List.setIfInBounds_toArray, List.set_cons_zero, List.set_cons_succ]
  refine wpAnyH_take (i := 5) (oi := { dst := some 32, op := Op.pick (Operand.tmp 29) (Operand.const (Value.bool true)) (Operand.tmp 31), type := 4, pos := "outright.go:22", after := #[{ on := 2, ground := Ground.data }, { on := 4, ground := Ground.data }], guard := none }) (v := .bool false) rfl (by kernel_rfl) (by kernel_rfl) (by kernel_rfl) (fun _ _ _ h => h) (Or.inl ⟨by rfl, fun w0 hSw => ?_⟩) hH0 ?_
  · (clear hSw; go_simp)
  simp only [Act.put, List.setIfInBounds_toArray, List.set_cons_zero, List.set_cons_succ]
  refine wpAnyH_take (i := 6) (oi := { dst := some 33, op := Op.move (Operand.tmp 32), type := 4, pos := "outright.go:22", after := #[{ on := 5, ground := Ground.data }, { on := 2, ground := Ground.chain }], guard := none }) (v := .bool false) rfl (by kernel_rfl) (by kernel_rfl) (by kernel_rfl) (fun _ _ _ h => h) (Or.inl ⟨by rfl, fun w0 hSw => ?_⟩) hH0 ?_
  · (clear hSw; go_simp)
  simp only [Act.put, List.setIfInBounds_toArray, List.set_cons_zero, List.set_cons_succ]
  refine wpAnyH_take (i := 7) (oi := { dst := some 34, op := Op.move (Operand.tmp 2), type := 46, pos := "outright.go:22", after := #[{ on := 6, ground := Ground.guard }], guard := some (6, false) }) (v := .slice (some ⟨D, 0, none⟩) 1 1) rfl (by kernel_rfl) (by kernel_rfl) (by kernel_rfl) (fun _ _ _ h => h) (Or.inl ⟨by rfl, fun w0 hSw => ?_⟩) hH0 ?_
  · (clear hSw; go_simp)
  simp only [Act.put, List.setIfInBounds_toArray, List.set_cons_zero, List.set_cons_succ]
  refine wpAnyH_take (i := 8) (oi := { dst := some 35, op := Op.call { callee := Callee.builtin Builtin.len, args := #[Operand.tmp 34], argTypes := #[46] }, type := 3, pos := "outright.go:22", after := #[{ on := 7, ground := Ground.data }, { on := 6, ground := Ground.guard }], guard := some (6, false) }) (v := .int .i64 1) rfl (by kernel_rfl) (by kernel_rfl) (by kernel_rfl) (fun _ _ _ h => h) (Or.inl ⟨by rfl, fun w0 hSw => ?_⟩) hH0 ?_
  · (clear hSw; go_simp)
  simp only [Act.put, List.setIfInBounds_toArray, List.set_cons_zero, List.set_cons_succ]
  refine wpAnyH_take (i := 9) (oi := { dst := some 36, op := Op.binOp BinOp.neq 3 (Operand.tmp 35) (Operand.const (Value.int IntKind.i64 1)) 3, type := 4, pos := "outright.go:22", after := #[{ on := 8, ground := Ground.data }, { on := 6, ground := Ground.guard }], guard := some (6, false) }) (v := .bool false) rfl (by kernel_rfl) (by kernel_rfl) (by kernel_rfl) (fun _ _ _ h => h) (Or.inl ⟨by rfl, fun w0 hSw => ?_⟩) hH0 ?_
  · (clear hSw; go_simp)
  simp only [Act.put, List.setIfInBounds_toArray, List.set_cons_zero, List.set_cons_succ]
  refine wpAnyH_take (i := 10) (oi := { dst := some 37, op := Op.pick (Operand.tmp 33) (Operand.const (Value.bool true)) (Operand.tmp 36), type := 4, pos := "outright.go:22", after := #[{ on := 6, ground := Ground.data }, { on := 9, ground := Ground.data }], guard := none }) (v := .bool false) rfl (by kernel_rfl) (by kernel_rfl) (by kernel_rfl) (fun _ _ _ h => h) (Or.inl ⟨by rfl, fun w0 hSw => ?_⟩) hH0 ?_
  · (clear hSw; go_simp)
  simp only [Act.put, List.setIfInBounds_toArray, List.set_cons_zero, List.set_cons_succ]
  refine wpAnyH_take (i := 11) (oi := { dst := some 38, op := Op.move (Operand.tmp 37), type := 4, pos := "outright.go:22", after := #[{ on := 10, ground := Ground.data }, { on := 6, ground := Ground.chain }], guard := none }) (v := .bool false) rfl (by kernel_rfl) (by kernel_rfl) (by kernel_rfl) (fun _ _ _ h => h) (Or.inl ⟨by rfl, fun w0 hSw => ?_⟩) hH0 ?_
  · (clear hSw; go_simp)
  simp only [Act.put, List.setIfInBounds_toArray, List.set_cons_zero, List.set_cons_succ]
  refine wpAnyH_take (i := 12) (oi := { dst := some 39, op := Op.move (Operand.tmp 4), type := 22, pos := "outright.go:22", after := #[{ on := 11, ground := Ground.guard }], guard := some (11, false) }) (v := .slice (some ⟨E, 0, none⟩) 1 1) rfl (by kernel_rfl) (by kernel_rfl) (by kernel_rfl) (fun _ _ _ h => h) (Or.inl ⟨by rfl, fun w0 hSw => ?_⟩) hH0 ?_
  · (clear hSw; go_simp)
  simp only [Act.put, List.setIfInBounds_toArray, List.set_cons_zero, List.set_cons_succ]
  refine wpAnyH_take (i := 13) (oi := { dst := some 40, op := Op.call { callee := Callee.builtin Builtin.len, args := #[Operand.tmp 39], argTypes := #[22] }, type := 3, pos := "outright.go:22", after := #[{ on := 12, ground := Ground.data }, { on := 11, ground := Ground.guard }], guard := some (11, false) }) (v := .int .i64 1) rfl (by kernel_rfl) (by kernel_rfl) (by kernel_rfl) (fun _ _ _ h => h) (Or.inl ⟨by rfl, fun w0 hSw => ?_⟩) hH0 ?_
  · (clear hSw; go_simp)
  simp only [Act.put, List.setIfInBounds_toArray, List.set_cons_zero, List.set_cons_succ]
  refine wpAnyH_take (i := 14) (oi := { dst := some 41, op := Op.binOp BinOp.neq 3 (Operand.tmp 40) (Operand.const (Value.int IntKind.i64 1)) 3, type := 4, pos := "outright.go:22", after := #[{ on := 13, ground := Ground.data }, { on := 11, ground := Ground.guard }], guard := some (11, false) }) (v := .bool false) rfl (by kernel_rfl) (by kernel_rfl) (by kernel_rfl) (fun _ _ _ h => h) (Or.inl ⟨by rfl, fun w0 hSw => ?_⟩) hH0 ?_
  · (clear hSw; go_simp)
  simp only [Act.put, List.setIfInBounds_toArray, List.set_cons_zero, List.set_cons_succ]
  refine wpAnyH_take (i := 15) (oi := { dst := some 42, op := Op.pick (Operand.tmp 38) (Operand.const (Value.bool true)) (Operand.tmp 41), type := 4, pos := "outright.go:22", after := #[{ on := 11, ground := Ground.data }, { on := 14, ground := Ground.data }], guard := none }) (v := .bool false) rfl (by kernel_rfl) (by kernel_rfl) (by kernel_rfl) (fun _ _ _ h => h) (Or.inl ⟨by rfl, fun w0 hSw => ?_⟩) hH0 ?_
  · (clear hSw; go_simp)
  simp only [Act.put, List.setIfInBounds_toArray, List.set_cons_zero, List.set_cons_succ]
  refine wpAnyH_take (i := 16) (oi := { dst := some 43, op := Op.move (Operand.tmp 42), type := 4, pos := "outright.go:22", after := #[{ on := 15, ground := Ground.data }, { on := 11, ground := Ground.chain }], guard := none }) (v := .bool false) rfl (by kernel_rfl) (by kernel_rfl) (by kernel_rfl) (fun _ _ _ h => h) (Or.inl ⟨by rfl, fun w0 hSw => ?_⟩) hH0 ?_
  · (clear hSw; go_simp)
  simp only [Act.put, List.setIfInBounds_toArray, List.set_cons_zero, List.set_cons_succ]
  refine wpAnyH_take (i := 17) (oi := { dst := some 44, op := Op.move (Operand.tmp 4), type := 22, pos := "outright.go:22", after := #[{ on := 16, ground := Ground.guard }], guard := some (16, false) }) (v := .slice (some ⟨E, 0, none⟩) 1 1) rfl (by kernel_rfl) (by kernel_rfl) (by kernel_rfl) (fun _ _ _ h => h) (Or.inl ⟨by rfl, fun w0 hSw => ?_⟩) hH0 ?_
  · (clear hSw; go_simp)
  simp only [Act.put, List.setIfInBounds_toArray, List.set_cons_zero, List.set_cons_succ]
  refine wpAnyH_take (i := 18) (oi := { dst := some 45, op := Op.indexAddr 22 (Operand.tmp 44) (Operand.const (Value.int IntKind.i64 0)), type := 0, pos := "outright.go:22", after := #[{ on := 17, ground := Ground.data }, { on := 16, ground := Ground.guard }], guard := some (16, false) }) (v := .pointer (some ⟨E, 0, none⟩)) rfl (by kernel_rfl) (by kernel_rfl) (by kernel_rfl) (fun _ _ _ h => h) (Or.inl ⟨by rfl, fun w0 hSw => ?_⟩) hH0 ?_
  · (clear hSw; go_simp)
  simp only [Act.put, List.setIfInBounds_toArray, List.set_cons_zero, List.set_cons_succ]
  refine wpAnyH_take (i := 19) (oi := { dst := some 46, op := Op.load 25 (Operand.tmp 45), type := 25, pos := "outright.go:22", after := #[{ on := 18, ground := Ground.data }, { on := 16, ground := Ground.guard }], guard := some (16, false) }) (v := .agg #[.int .u64 a.x0, .int .u64 a.x1, .int .u64 a.x2, .int .u64 a.x3]) rfl (by kernel_rfl) (by kernel_rfl) (by kernel_rfl) (fun _ _ _ h => h) (Or.inl ⟨by rfl, fun w0 hSw => ?_⟩) hH0 ?_
  · (have hS : Below W.heap.size W w0 := hSw; have a0 := cell_keep ca0 hS; have a1 := cell_keep ca1 hS; have a2 := cell_keep ca2 hS; have a3 := cell_keep ca3 hS; clear hS hSw; go_simp)
  simp only [Act.put, List.setIfInBounds_toArray, List.set_cons_zero, List.set_cons_succ]
  refine wpAnyH_ready (rs := [20]) (by kernel_rfl) (by simp) ?_
  refine AllReadyH.cons (o := { dst := some 47, op := Op.call { callee := Callee.value (Operand.func 4), args := #[Operand.const (Value.int IntKind.u64 13)], argTypes := #[23] }, type := 25, pos := "outright.go:22", after := #[{ on := 16, ground := Ground.chain }, { on := 16, ground := Ground.guard }], guard := some (16, false) }) rfl (fun K hK => ?_) AllReadyH.nil
  have HH := hidden hH0
  clear hH0
  go_simp
  refine (C20.out _).mono ?_
  rintro e wn1 ⟨rfl, hb⟩
  have SN := hidden (bl_trans HH.out hb)
  clear HH C20 hb
  go_wp2_with fail
  refine hK.out _ _ SN.out (fun hH1 => ?_)
  clear hK K SN
  refine wpAnyH_ready (rs := [21]) (by kernel_rfl) (by simp) ?_
  refine AllReadyH.cons (o := { dst := some 48, op := Op.call { callee := Callee.value (Operand.func 5), args := #[Operand.tmp 46, Operand.tmp 47], argTypes := #[25, 25] }, type := 4, pos := "outright.go:22", after := #[{ on := 19, ground := Ground.data }, { on := 20, ground := Ground.data }, { on := 20, ground := Ground.chain }, { on := 16, ground := Ground.guard }], guard := some (16, false) }) rfl (fun K hK => ?_) AllReadyH.nil
  have HH := hidden hH1
  clear hH1
  go_simp
  refine (C21.out _ HH.out).mono ?_
  rintro e wn2 ⟨rfl, hb⟩
  have SN := hidden (bl_trans HH.out hb)
  clear HH C21 hb
  go_wp2_with fail
  refine hK.out _ _ SN.out (fun hH2 => ?_)
  clear hK K SN
  refine wpAnyH_take (i := 22) (oi := { dst := some 49, op := Op.unOp UnOp.not 4 (Operand.tmp 48), type := 4, pos := "outright.go:22", after := #[{ on := 21, ground := Ground.data }, { on := 16, ground := Ground.guard }], guard := some (16, false) }) (v := .bool false) rfl (by kernel_rfl) (by kernel_rfl) (by kernel_rfl) (fun _ _ _ h => h) (Or.inl ⟨by rfl, fun w0 hSw => ?_⟩) hH2 ?_
  · (clear hSw; go_simp)
  simp only [Act.put, List.setIfInBounds_toArray, List.set_cons_zero, List.set_cons_succ]
  refine wpAnyH_take (i := 23) (oi := { dst := some 50, op := Op.pick (Operand.tmp 43) (Operand.const (Value.bool true)) (Operand.tmp 49), type := 4, pos := "outright.go:22", after := #[{ on := 16, ground := Ground.data }, { on := 22, ground := Ground.data }], guard := none }) (v := .bool false) rfl (by kernel_rfl) (by kernel_rfl) (by kernel_rfl) (fun _ _ _ h => h) (Or.inl ⟨by rfl, fun w0 hSw => ?_⟩) hH2 ?_
  · (clear hSw; go_simp)
  simp only [Act.put, List.setIfInBounds_toArray, List.set_cons_zero, List.set_cons_succ]
  have HH := hidden hH2
  have FQ := hidden (HQ.out _ HH.out)
  refine wpAnyH_done (by kernel_rfl) ?_ _
  refine NoPanic.normal ?_
  exact FQ.out
def al6o : Array Oper := #[{ dst := some 51, op := Op.load 48 (Operand.tmp 1), type := 48, pos := "outright.go:25", after := #[], guard := none },
  { dst := some 52, op := Op.move (Operand.tmp 2), type := 46, pos := "outright.go:25", after := #[], guard := none },
  { dst := some 53, op := Op.call { callee := Callee.value (Operand.func 4), args := #[Operand.const (Value.int IntKind.u64 2)], argTypes := #[23] }, type := 25, pos := "outright.go:25", after := #[], guard := none },
  { dst := some 54, op := Op.move (Operand.tmp 4), type := 22, pos := "outright.go:25", after := #[], guard := none },
  { dst := some 55, op := Op.call { callee := Callee.value (Operand.func 15), args := #[Operand.tmp 51, Operand.tmp 52, Operand.tmp 53, Operand.tmp 54], argTypes := #[48, 46, 25, 22] }, type := 34, pos := "outright.go:25", after := #[{ on := 0, ground := Ground.data }, { on := 1, ground := Ground.data }, { on := 2, ground := Ground.data }, { on := 3, ground := Ground.data }, { on := 2, ground := Ground.chain }], guard := none },
  { dst := some 56, op := Op.binOp BinOp.eql 3 (Operand.tmp 55) (Operand.const (Value.int IntKind.i64 0)) 3, type := 4, pos := "outright.go:25", after := #[{ on := 4, ground := Ground.data }], guard := none },
  { dst := some 57, op := Op.move (Operand.tmp 56), type := 4, pos := "outright.go:25", after := #[{ on := 5, ground := Ground.data }, { on := 4, ground := Ground.chain }], guard := none },
  { dst := some 58, op := Op.load 48 (Operand.tmp 1), type := 48, pos := "outright.go:25", after := #[{ on := 6, ground := Ground.guard }], guard := some (6, true) },
  { dst := some 59, op := Op.move (Operand.tmp 2), type := 46, pos := "outright.go:25", after := #[{ on := 6, ground := Ground.guard }], guard := some (6, true) },
  { dst := some 60, op := Op.call { callee := Callee.value (Operand.func 4), args := #[Operand.const (Value.int IntKind.u64 2)], argTypes := #[23] }, type := 25, pos := "outright.go:25", after := #[{ on := 6, ground := Ground.chain }, { on := 6, ground := Ground.guard }], guard := some (6, true) },
  { dst := some 61, op := Op.call { callee := Callee.value (Operand.func 4), args := #[Operand.const (Value.int IntKind.u64 12)], argTypes := #[23] }, type := 25, pos := "outright.go:25", after := #[{ on := 9, ground := Ground.chain }, { on := 6, ground := Ground.guard }], guard := some (6, true) },
  { dst := some 62, op := Op.buildSlice 22 1 #[(0, Operand.tmp 61)], type := 22, pos := "outright.go:25", after := #[{ on := 10, ground := Ground.data }, { on := 6, ground := Ground.guard }], guard := some (6, true) },
  { dst := some 63, op := Op.call { callee := Callee.value (Operand.func 15), args := #[Operand.tmp 58, Operand.tmp 59, Operand.tmp 60, Operand.tmp 62], argTypes := #[48, 46, 25, 22] }, type := 34, pos := "outright.go:25", after := #[{ on := 7, ground := Ground.data }, { on := 8, ground := Ground.data }, { on := 9, ground := Ground.data }, { on := 11, ground := Ground.data }, { on := 10, ground := Ground.chain }, { on := 6, ground := Ground.guard }], guard := some (6, true) },
  { dst := some 64, op := Op.binOp BinOp.eql 3 (Operand.tmp 63) (Operand.const (Value.int IntKind.i64 111)) 3, type := 4, pos := "outright.go:25", after := #[{ on := 12, ground := Ground.data }, { on := 6, ground := Ground.guard }], guard := some (6, true) },
  { dst := some 65, op := Op.pick (Operand.tmp 57) (Operand.tmp 64) (Operand.const (Value.bool false)), type := 4, pos := "outright.go:25", after := #[{ on := 6, ground := Ground.data }, { on := 13, ground := Ground.data }], guard := none },
  { dst := some 0, op := Op.assign (Operand.tmp 65), type := 4, pos := "outright.go:25", after := #[{ on := 14, ground := Ground.data }, { on := 12, ground := Ground.chain }, { on := 0, ground := Ground.phase }, { on := 1, ground := Ground.phase }, { on := 2, ground := Ground.phase }, { on := 3, ground := Ground.phase }, { on := 4, ground := Ground.phase }, { on := 5, ground := Ground.phase }, { on := 6, ground := Ground.phase }, { on := 7, ground := Ground.phase }, { on := 8, ground := Ground.phase }, { on := 9, ground := Ground.phase }, { on := 10, ground := Ground.phase }, { on := 11, ground := Ground.phase }, { on := 12, ground := Ground.phase }, { on := 13, ground := Ground.phase }, { on := 14, ground := Ground.phase }], guard := none }]
set_option maxRecDepth 100000 in
set_option maxHeartbeats 16000000 in
theorem al6 (Q : Exit → Act → World → Prop) (T1 R I D E : Nat) (y v : E4) (u0 u3 u5 u6 u7 u8 u9 u10 u11 u12 u13 u14 u15 u16 u17 u18 u19 u20 u21 u22 u23 u24 u25 u26 u27 u28 u29 u30 u31 u32 u33 u34 u35 u36 u37 u38 u39 u40 u41 u42 u43 u44 u45 u46 u47 u48 u49 u50 u51 u52 u53 u54 u55 u56 u57 u58 u59 u60 u61 u62 u63 u64 u65 : Value) (W : World)
    (cl0 : W.cell? ⟨T1, 0, none⟩ = some (.slice (some ⟨R, 0, none⟩) 1 1)) (cl1 : W.cell? ⟨T1, 1, none⟩ = some (.slice (some ⟨I, 0, none⟩) 1 1))
    (C2 : Hid (∀ x, Calls Tryz.prog 4 #[.int .u64 2] x fun e w' => e = .returned (.agg #[.int .u64 y.x0, .int .u64 y.x1, .int .u64 y.x2, .int .u64 y.x3]) ∧ Below x.heap.size x w'))
    (C10 : Hid (∀ x, Calls Tryz.prog 4 #[.int .u64 12] x fun e w' => e = .returned (.agg #[.int .u64 v.x0, .int .u64 v.x1, .int .u64 v.x2, .int .u64 v.x3]) ∧ Below x.heap.size x w'))
    (C4 : Hid (∀ x, Below W.heap.size W x → Calls Tryz.prog 15 #[.agg #[.slice (some ⟨R, 0, none⟩) 1 1, .slice (some ⟨I, 0, none⟩) 1 1], .slice (some ⟨D, 0, none⟩) 1 1, .agg #[.int .u64 y.x0, .int .u64 y.x1, .int .u64 y.x2, .int .u64 y.x3], .slice (some ⟨E, 0, none⟩) 1 1] x fun e w' => e = .returned (.int .i64 0) ∧ Below x.heap.size x w'))
    (C12 : Hid (∀ (x : World) (tb : Nat), Below W.heap.size W x → x.rangeAt tb 0 [.int .u64 v.x0, .int .u64 v.x1, .int .u64 v.x2, .int .u64 v.x3] → Calls Tryz.prog 15 #[.agg #[.slice (some ⟨R, 0, none⟩) 1 1, .slice (some ⟨I, 0, none⟩) 1 1], .slice (some ⟨D, 0, none⟩) 1 1, .agg #[.int .u64 y.x0, .int .u64 y.x1, .int .u64 y.x2, .int .u64 y.x3], .slice (some ⟨tb, 0, none⟩) 1 1] x fun e w' => e = .returned (.int .i64 111) ∧ Below x.heap.size x w'))
    (HQ : Hid (∀ (tb : Nat) (wz : World), Below W.heap.size W wz → Q .normal ⟨#[.bool true, .pointer (some ⟨T1, 0, none⟩), .slice (some ⟨D, 0, none⟩) 1 1, u3, .slice (some ⟨E, 0, none⟩) 1 1, u5, u6, u7, u8, u9, u10, u11, u12, u13, u14, u15, u16, u17, u18, u19, u20, u21, u22, u23, u24, u25, u26, u27, u28, u29, u30, u31, u32, u33, u34, u35, u36, u37, u38, u39, u40, u41, u42, u43, u44, u45, u46, u47, u48, u49, u50, .agg #[.slice (some ⟨R, 0, none⟩) 1 1, .slice (some ⟨I, 0, none⟩) 1 1], .slice (some ⟨D, 0, none⟩) 1 1, .agg #[.int .u64 y.x0, .int .u64 y.x1, .int .u64 y.x2, .int .u64 y.x3], .slice (some ⟨E, 0, none⟩) 1 1, .int .i64 0, .bool true, .bool true, .agg #[.slice (some ⟨R, 0, none⟩) 1 1, .slice (some ⟨I, 0, none⟩) 1 1], .slice (some ⟨D, 0, none⟩) 1 1, .agg #[.int .u64 y.x0, .int .u64 y.x1, .int .u64 y.x2, .int .u64 y.x3], .agg #[.int .u64 v.x0, .int .u64 v.x1, .int .u64 v.x2, .int .u64 v.x3], .slice (some ⟨tb, 0, none⟩) 1 1, .int .i64 111, .bool true, .bool true], []⟩ wz)) : (Code.region 6 al6o true).wp Tryz.prog Q ⟨#[u0, .pointer (some ⟨T1, 0, none⟩), .slice (some ⟨D, 0, none⟩) 1 1, u3, .slice (some ⟨E, 0, none⟩) 1 1, u5, u6, u7, u8, u9, u10, u11, u12, u13, u14, u15, u16, u17, u18, u19, u20, u21, u22, u23, u24, u25, u26, u27, u28, u29, u30, u31, u32, u33, u34, u35, u36, u37, u38, u39, u40, u41, u42, u43, u44, u45, u46, u47, u48, u49, u50, u51, u52, u53, u54, u55, u56, u57, u58, u59, u60, u61, u62, u63, u64, u65], []⟩ W := by
  unfold al6o
  refine wp_region_noPanic ?_
  refine wp_region_held_drew (S := fun x => Below W.heap.size W x) (by kernel_rfl) (bl_drew W) (fun hH0 => ?_)
  refine wpAnyH_take (i := 0) (oi := { dst := some 51, op := Op.load 48 (Operand.tmp 1), type := 48, pos := "outright.go:25", after := #[], guard := none }) (v := .agg #[.slice (some ⟨R, 0, none⟩) 1 1, .slice (some ⟨I, 0, none⟩) 1 1]) rfl (by kernel_rfl) (by kernel_rfl) (by kernel_rfl) (fun _ _ _ h => h) (Or.inl ⟨by rfl, fun w0 hSw => ?_⟩) hH0 ?_
  · (have hS : Below W.heap.size W w0 := hSw; have a0 := cell_keep cl0 hS; have a1 := cell_keep cl1 hS; clear hS hSw; go_simp)
  simp only [Act.put, List.setIfInBounds_toArray, List.set_cons_zero, List.set_cons_succ]
  refine wpAnyH_take (i := 1) (oi := { dst := some 52, op := Op.move (Operand.tmp 2), type := 46, pos := "outright.go:25", after := #[], guard := none }) (v := .slice (some ⟨D, 0, none⟩) 1 1) rfl (by kernel_rfl) (by kernel_rfl) (by kernel_rfl) (fun _ _ _ h => h) (Or.inl ⟨by rfl, fun w0 hSw => ?_⟩) hH0 ?_
  · (clear hSw; go_simp)
  simp only [Act.put, List.setIfInBounds_toArray, List.set_cons_zero, List.set_cons_succ]
  refine wpAnyH_take (i := 3) (oi := { dst := some 54, op := Op.move (Operand.tmp 4), type := 22, pos := "outright.go:25", after := #[], guard := none }) (v := .slice (some ⟨E, 0, none⟩) 1 1) rfl (by kernel_rfl) (by kernel_rfl) (by kernel_rfl) (fun _ _ _ h => h) (Or.inl ⟨by rfl, fun w0 hSw => ?_⟩) hH0 ?_
  · (clear hSw; go_simp)
  simp only [Act.put, List.setIfInBounds_toArray, List.set_cons_zero, List.set_cons_succ]
  refine wpAnyH_ready (rs := [2]) (by kernel_rfl) (by simp) ?_
  refine AllReadyH.cons (o := { dst := some 53, op := Op.call { callee := Callee.value (Operand.func 4), args := #[Operand.const (Value.int IntKind.u64 2)], argTypes := #[23] }, type := 25, pos := "outright.go:25", after := #[], guard := none }) rfl (fun K hK => ?_) AllReadyH.nil
  have HH := hidden hH0
  clear hH0
  go_simp
  refine (C2.out _).mono ?_
  rintro e wn1 ⟨rfl, hb⟩
  have SN := hidden (bl_trans HH.out hb)
  clear HH hb
  go_wp2_with fail
  refine hK.out _ _ SN.out (fun hH1 => ?_)
  clear hK K SN
  refine wpAnyH_ready (rs := [4]) (by kernel_rfl) (by simp) ?_
  refine AllReadyH.cons (o := { dst := some 55, op := Op.call { callee := Callee.value (Operand.func 15), args := #[Operand.tmp 51, Operand.tmp 52, Operand.tmp 53, Operand.tmp 54], argTypes := #[48, 46, 25, 22] }, type := 34, pos := "outright.go:25", after := #[{ on := 0, ground := Ground.data }, { on := 1, ground := Ground.data }, { on := 2, ground := Ground.data }, { on := 3, ground := Ground.data }, { on := 2, ground := Ground.chain }], guard := none }) rfl (fun K hK => ?_) AllReadyH.nil
  have HH := hidden hH1
  clear hH1
  go_simp
  refine (C4.out _ HH.out).mono ?_
  rintro e wn2 ⟨rfl, hb⟩
  have SN := hidden (bl_trans HH.out hb)
  clear HH C4 hb
  go_wp2_with fail
  refine hK.out _ _ SN.out (fun hH2 => ?_)
  clear hK K SN
  refine wpAnyH_take (i := 5) (oi := { dst := some 56, op := Op.binOp BinOp.eql 3 (Operand.tmp 55) (Operand.const (Value.int IntKind.i64 0)) 3, type := 4, pos := "outright.go:25", after := #[{ on := 4, ground := Ground.data }], guard := none }) (v := .bool true) rfl (by kernel_rfl) (by kernel_rfl) (by kernel_rfl) (fun _ _ _ h => h) (Or.inl ⟨by rfl, fun w0 hSw => ?_⟩) hH2 ?_
  · (clear hSw; go_simp)
  simp only [Act.put, List.setIfInBounds_toArray, List.set_cons_zero, List.set_cons_succ]
  refine wpAnyH_take (i := 6) (oi := { dst := some 57, op := Op.move (Operand.tmp 56), type := 4, pos := "outright.go:25", after := #[{ on := 5, ground := Ground.data }, { on := 4, ground := Ground.chain }], guard := none }) (v := .bool true) rfl (by kernel_rfl) (by kernel_rfl) (by kernel_rfl) (fun _ _ _ h => h) (Or.inl ⟨by rfl, fun w0 hSw => ?_⟩) hH2 ?_
  · (clear hSw; go_simp)
  simp only [Act.put, List.setIfInBounds_toArray, List.set_cons_zero, List.set_cons_succ]
  refine wpAnyH_take (i := 7) (oi := { dst := some 58, op := Op.load 48 (Operand.tmp 1), type := 48, pos := "outright.go:25", after := #[{ on := 6, ground := Ground.guard }], guard := some (6, true) }) (v := .agg #[.slice (some ⟨R, 0, none⟩) 1 1, .slice (some ⟨I, 0, none⟩) 1 1]) rfl (by kernel_rfl) (by kernel_rfl) (by kernel_rfl) (fun _ _ _ h => h) (Or.inl ⟨by rfl, fun w0 hSw => ?_⟩) hH2 ?_
  · (have hS : Below W.heap.size W w0 := hSw; have a0 := cell_keep cl0 hS; have a1 := cell_keep cl1 hS; clear hS hSw; go_simp)
  simp only [Act.put, List.setIfInBounds_toArray, List.set_cons_zero, List.set_cons_succ]
  refine wpAnyH_take (i := 8) (oi := { dst := some 59, op := Op.move (Operand.tmp 2), type := 46, pos := "outright.go:25", after := #[{ on := 6, ground := Ground.guard }], guard := some (6, true) }) (v := .slice (some ⟨D, 0, none⟩) 1 1) rfl (by kernel_rfl) (by kernel_rfl) (by kernel_rfl) (fun _ _ _ h => h) (Or.inl ⟨by rfl, fun w0 hSw => ?_⟩) hH2 ?_
  · (clear hSw; go_simp)
  simp only [Act.put, List.setIfInBounds_toArray, List.set_cons_zero, List.set_cons_succ]
  refine wpAnyH_ready (rs := [9]) (by kernel_rfl) (by simp) ?_
  refine AllReadyH.cons (o := { dst := some 60, op := Op.call { callee := Callee.value (Operand.func 4), args := #[Operand.const (Value.int IntKind.u64 2)], argTypes := #[23] }, type := 25, pos := "outright.go:25", after := #[{ on := 6, ground := Ground.chain }, { on := 6, ground := Ground.guard }], guard := some (6, true) }) rfl (fun K hK => ?_) AllReadyH.nil
  have HH := hidden hH2
  clear hH2
  go_simp
  refine (C2.out _).mono ?_
  rintro e wn3 ⟨rfl, hb⟩
  have SN := hidden (bl_trans HH.out hb)
  clear HH C2 hb
  go_wp2_with fail
  refine hK.out _ _ SN.out (fun hH3 => ?_)
  clear hK K SN
  refine wpAnyH_ready (rs := [10]) (by kernel_rfl) (by simp) ?_
  refine AllReadyH.cons (o := { dst := some 61, op := Op.call { callee := Callee.value (Operand.func 4), args := #[Operand.const (Value.int IntKind.u64 12)], argTypes := #[23] }, type := 25, pos := "outright.go:25", after := #[{ on := 9, ground := Ground.chain }, { on := 6, ground := Ground.guard }], guard := some (6, true) }) rfl (fun K hK => ?_) AllReadyH.nil
  have HH := hidden hH3
  clear hH3
  go_simp
  refine (C10.out _).mono ?_
  rintro e wn4 ⟨rfl, hb⟩
  have SN := hidden (bl_trans HH.out hb)
  clear HH C10 hb
  go_wp2_with fail
  refine hK.out _ _ SN.out (fun hH4 => ?_)
  clear hK K SN
  refine wpAnyH_ready (rs := [11]) (by kernel_rfl) (by simp) ?_
  refine AllReadyH.cons (o := { dst := some 62, op := Op.buildSlice 22 1 #[(0, Operand.tmp 61)], type := 22, pos := "outright.go:25", after := #[{ on := 10, ground := Ground.data }, { on := 6, ground := Ground.guard }], guard := some (6, true) }) rfl (fun K hK => ?_) AllReadyH.nil
  have HH := hidden hH4
  clear hH4
  refine wp_buildS1 (.tmp 61) rfl v rfl (fun tb wn5 hb hcb => ?_)
  have RB := hidden (hcb)
  have SN := hidden (bl_trans HH.out hb)
  clear HH hb hcb
  simp only [Act.put, List.setIfInBounds_toArray, List.set_cons_zero, List.set_cons_succ]
  refine hK.out _ _ SN.out (fun hH5 => ?_)
  clear hK K SN
  refine wpAnyH_ready (rs := [12]) (by kernel_rfl) (by simp) ?_
  refine AllReadyH.cons (o := { dst := some 63, op := Op.call { callee := Callee.value (Operand.func 15), args := #[Operand.tmp 58, Operand.tmp 59, Operand.tmp 60, Operand.tmp 62], argTypes := #[48, 46, 25, 22] }, type := 34, pos := "outright.go:25", after := #[{ on := 7, ground := Ground.data }, { on := 8, ground := Ground.data }, { on := 9, ground := Ground.data }, { on := 11, ground := Ground.data }, { on := 10, ground := Ground.chain }, { on := 6, ground := Ground.guard }], guard := some (6, true) }) rfl (fun K hK => ?_) AllReadyH.nil
  have HH := hidden hH5
  clear hH5
  go_simp
  refine (C12.out _ tb HH.out RB.out).mono ?_
  rintro e wn6 ⟨rfl, hb⟩
  have SN := hidden (bl_trans HH.out hb)
  clear HH C12 hb RB
  go_wp2_with fail
  refine hK.out _ _ SN.out (fun hH6 => ?_)
  clear hK K SN
  refine wpAnyH_take (i := 13) (oi := { dst := some 64, op := Op.binOp BinOp.eql 3 (Operand.tmp 63) (Operand.const (Value.int IntKind.i64 111)) 3, type := 4, pos := "outright.go:25", after := #[{ on := 12, ground := Ground.data }, { on := 6, ground := Ground.guard }], guard := some (6, true) }) (v := .bool true) rfl (by kernel_rfl) (by kernel_rfl) (by kernel_rfl) (fun _ _ _ h => h) (Or.inl ⟨by rfl, fun w0 hSw => ?_⟩) hH6 ?_
  · (clear hSw; go_simp)
  simp only [Act.put, List.setIfInBounds_toArray, List.set_cons_zero, List.set_cons_succ]
  refine wpAnyH_take (i := 14) (oi := { dst := some 65, op := Op.pick (Operand.tmp 57) (Operand.tmp 64) (Operand.const (Value.bool false)), type := 4, pos := "outright.go:25", after := #[{ on := 6, ground := Ground.data }, { on := 13, ground := Ground.data }], guard := none }) (v := .bool true) rfl (by kernel_rfl) (by kernel_rfl) (by kernel_rfl) (fun _ _ _ h => h) (Or.inl ⟨by rfl, fun w0 hSw => ?_⟩) hH6 ?_
  · (clear hSw; go_simp)
  simp only [Act.put, List.setIfInBounds_toArray, List.set_cons_zero, List.set_cons_succ]
  refine wpAnyH_take (i := 15) (oi := { dst := some 0, op := Op.assign (Operand.tmp 65), type := 4, pos := "outright.go:25", after := #[{ on := 14, ground := Ground.data }, { on := 12, ground := Ground.chain }, { on := 0, ground := Ground.phase }, { on := 1, ground := Ground.phase }, { on := 2, ground := Ground.phase }, { on := 3, ground := Ground.phase }, { on := 4, ground := Ground.phase }, { on := 5, ground := Ground.phase }, { on := 6, ground := Ground.phase }, { on := 7, ground := Ground.phase }, { on := 8, ground := Ground.phase }, { on := 9, ground := Ground.phase }, { on := 10, ground := Ground.phase }, { on := 11, ground := Ground.phase }, { on := 12, ground := Ground.phase }, { on := 13, ground := Ground.phase }, { on := 14, ground := Ground.phase }], guard := none }) (v := .bool true) rfl (by kernel_rfl) (by kernel_rfl) (by kernel_rfl) (fun _ _ _ h => h) (Or.inl ⟨by rfl, fun w0 hSw => ?_⟩) hH6 ?_
  · (clear hSw; go_simp)
  simp only [Act.put, List.setIfInBounds_toArray, List.set_cons_zero]
  have HH := hidden hH6
  have FQ := hidden (HQ.out tb _ HH.out)
  refine wpAnyH_done (by kernel_rfl) ?_ _
  refine NoPanic.normal ?_
  exact FQ.out
set_option maxRecDepth 100000 in
set_option maxHeartbeats 8000000 in
theorem alive_any (w : World) (hT : Tb w) : Calls Tryz.prog 7 #[] w fun e w' => e = .returned (.bool true) ∧ Below w.heap.size w w' := by
  have I1 := hidden (fun x => ints_any 1 x)
  have I5 := hidden (fun x => ints_any 5 x)
  have KC := hidden (fun x => Key1 (⟨1, 0, 0, 0⟩ : E4) (⟨5, 0, 0, 0⟩ : E4) x)
  obtain ⟨f1, hf1⟩ : ∃ f1, lst (zero4.n + (lst ((⟨1, 0, 0, 0⟩ : E4).n * (⟨3, 0, 0, 0⟩ : E4).n)).n) = f1 := ⟨_, rfl⟩
  obtain ⟨an, han⟩ : ∃ an, lst ((⟨3, 0, 0, 0⟩ : E4).n + (lst ((⟨2, 0, 0, 0⟩ : E4).n * (⟨5, 0, 0, 0⟩ : E4).n)).n) = an := ⟨_, rfl⟩
  have hf3 : lst f1.n = lst 3 := by rw [← hf1, lst_n', n_small, n_small, z4n, Int.zero_add, lst_n']; rfl
  have han13 : lst an.n = lst 13 := by rw [← han, lst_n', n_small, n_small, n_small, lst_two rfl (lst_n' _)]; rfl
  have of1 : f1.ok := hf1 ▸ lst_ok _
  have oan : an.ok := han ▸ lst_ok _
  have HT := hidden hT
  have HN := hidden (And.intro hf1 (And.intro han (And.intro hf3 (And.intro han13 (And.intro of1 oan)))))
  clear hT hf1 han hf3 han13 of1 oan
  go_enter Tryz.func7, Tryz.ntmps7
  go_upto_region 2 with (first
    | (go_at_call 4; refine (I1.out _).mono ?_; rintro e wa ⟨rfl, ha⟩; have BA := hidden ha; clear ha I1)
    | (go_at_call 4; refine (I5.out _).mono ?_; rintro e wb ⟨rfl, hb⟩; have BW := hidden (bl_trans BA.out hb); clear hb I5)
    | (go_at_call 12; refine (KC.out _).mono ?_; rintro e wc ⟨R, I, g, rfl, kR, kg, kI, hc⟩; have BC := hidden (bl_trans BW.out hc); have HK := hidden (And.intro kR (And.intro kg kI)); clear hc kR kg kI KC))
  have B1 : Below w.heap.size w (wc.alloc (.cells #[.slice (some ⟨R, 0, none⟩) 1 1, .slice (some ⟨I, 0, none⟩) 1 1] 48)) := bl_trans BC.out (bl_alloc wc _)
  have a0 : (wc.alloc (.cells #[.slice (some ⟨R, 0, none⟩) 1 1, .slice (some ⟨I, 0, none⟩) 1 1] 48)).cell? ⟨wc.heap.size, 0, none⟩ = some (.slice (some ⟨R, 0, none⟩) 1 1) := by go_simp
  have a1 : (wc.alloc (.cells #[.slice (some ⟨R, 0, none⟩) 1 1, .slice (some ⟨I, 0, none⟩) 1 1] 48)).cell? ⟨wc.heap.size, 1, none⟩ = some (.slice (some ⟨I, 0, none⟩) 1 1) := by go_simp
  have kR := cell_keep HK.out.1 (bl_alloc wc (.cells #[.slice (some ⟨R, 0, none⟩) 1 1, .slice (some ⟨I, 0, none⟩) 1 1] 48))
  have kg := HK.out.2.1.keep (bl_alloc wc (.cells #[.slice (some ⟨R, 0, none⟩) 1 1, .slice (some ⟨I, 0, none⟩) 1 1] 48))
  have kI := range_bl HK.out.2.2 (bl_alloc wc (.cells #[.slice (some ⟨R, 0, none⟩) 1 1, .slice (some ⟨I, 0, none⟩) 1 1] 48))
  generalize (wc.alloc (.cells #[.slice (some ⟨R, 0, none⟩) 1 1, .slice (some ⟨I, 0, none⟩) 1 1] 48)) = w1 at *
  generalize wc.heap.size = T1 at *
  have TT := HT.out
  obtain ⟨hf1, han, hf3, han13, of1, oan⟩ := HN.out
  refine al2 _ T1 R I (⟨3, 0, 0, 0⟩ : E4) (fun D w' => w'.rangeAt D 0 [.int .u64 f1.x0, .int .u64 f1.x1, .int .u64 f1.x2, .int .u64 f1.x3]) _ _ _ _ _ _ _ _ _ _ _ _ _ _ _ _ _ _ _ _ _ _ _ _ _ _ _ _ _ _ _ _ _ _ _ _ _ _ _ _ _ _ _ _ _ _ _ _ _ _ _ _ _ _ _ _ _ _ _ _ _ _ _ _ _ w1 a0 a1 (hidden (fun x => ints_any 3 x)) (hidden (fun x tb hx htb => (First1 R I g 1 1 1 1 _ (fun _ => (⟨3, 0, 0, 0⟩ : E4)) (fun _ => (⟨1, 0, 0, 0⟩ : E4)) _ f1 x (TT.keep (bl_trans B1 hx)) (lm1 htb) (ok_small 3 (by omega)) (ok_small 1 (by omega)) (cell_keep kR hx) (kg.keep hx) rfl hf1.symm).mono (fun e w' q => by
    obtain ⟨D, h1, h2, h3, h4⟩ := q
    exact ⟨D, h1, h3, h4⟩))) (hidden ?_)
  intro tb D w2 hw2 hD
  have I3 := hidden (fun x => ints_any 3 x)
  have I5 := hidden (fun x => ints_any 5 x)
  have I2 := hidden (fun x => ints_any 2 x)
  have AN := hidden (fun (x : World) (A X : Nat) (hx : Below w2.heap.size w2 x) (h1 : x.rangeAt A 0 [.int .u64 (⟨3, 0, 0, 0⟩ : E4).x0, .int .u64 (⟨3, 0, 0, 0⟩ : E4).x1, .int .u64 (⟨3, 0, 0, 0⟩ : E4).x2, .int .u64 (⟨3, 0, 0, 0⟩ : E4).x3]) (h2 : x.rangeAt X 0 [.int .u64 (⟨5, 0, 0, 0⟩ : E4).x0, .int .u64 (⟨5, 0, 0, 0⟩ : E4).x1, .int .u64 (⟨5, 0, 0, 0⟩ : E4).x2, .int .u64 (⟨5, 0, 0, 0⟩ : E4).x3]) => Answer1 A X 1 1 (⟨3, 0, 0, 0⟩ : E4) (⟨5, 0, 0, 0⟩ : E4) (⟨2, 0, 0, 0⟩ : E4) _ an x (TT.keep (bl_trans B1 (bl_trans hw2 hx))) (ok_small 3 (by omega)) (ok_small 5 (by omega)) (ok_small 2 (by omega)) h1 h2 rfl han.symm)
  have B2 := bl_trans B1 hw2
  have b0 := cell_keep a0 hw2
  have b1 := cell_keep a1 hw2
  have lR := cell_keep kR hw2
  have lg := kg.keep hw2
  have lI := range_bl kI hw2
  have HL := hidden (And.intro B2 (And.intro b0 (And.intro b1 (And.intro lR (And.intro lg (And.intro lI hD))))))
  clear B1 B2 a0 a1 b0 b1 kR kg kI lR lg lI hD hw2 hf1 han HK BA BW BC
  go_upto_region 4 with (first
    | (go_at_call 4; refine (I3.out _).mono ?_; rintro e wd ⟨rfl, hd⟩; have BD := hidden hd; have R3 := hidden (range_newM wd [.int .u64 (⟨3, 0, 0, 0⟩ : E4).x0, .int .u64 (⟨3, 0, 0, 0⟩ : E4).x1, .int .u64 (⟨3, 0, 0, 0⟩ : E4).x2, .int .u64 (⟨3, 0, 0, 0⟩ : E4).x3] 25); clear hd I3)
    | (go_at_call 4; refine (I5.out _).mono ?_; rintro e we ⟨rfl, he⟩; have BE := hidden (bl_trans (bl_alloc wd (.cells #[.int .u64 3, .int .u64 0, .int .u64 0, .int .u64 0] 25)) he); have BE3 := hidden he; have R5 := hidden (range_newM we [.int .u64 (⟨5, 0, 0, 0⟩ : E4).x0, .int .u64 (⟨5, 0, 0, 0⟩ : E4).x1, .int .u64 (⟨5, 0, 0, 0⟩ : E4).x2, .int .u64 (⟨5, 0, 0, 0⟩ : E4).x3] 25); clear he I5)
    | (go_at_call 4; refine (I2.out _).mono ?_; rintro e wf ⟨rfl, hf⟩; have BF := hidden (bl_trans (bl_alloc we (.cells #[.int .u64 5, .int .u64 0, .int .u64 0, .int .u64 0] 25)) hf); have BF5 := hidden hf; clear hf I2)
    | (go_at_call 14; refine (AN.out _ wd.heap.size we.heap.size (bl_trans BD.out (bl_trans BE.out BF.out)) (range_bl R3.out (bl_trans BE3.out BF.out)) (range_bl R5.out BF5.out)).mono ?_; rintro e wg ⟨X, rfl, hX, hr, hg⟩; have HG := hidden (And.intro hr (bl_trans (bl_trans BD.out (bl_trans BE.out BF.out)) hg)); clear hX hr hg AN))
  obtain ⟨B2, b0, b1, lR, lg, lI, hD⟩ := HL.out
  obtain ⟨hr, hg⟩ := HG.out
  have BG := bl_trans B2 hg
  refine al4 _ D X an (⟨13, 0, 0, 0⟩ : E4) _ _ _ _ _ _ _ _ _ _ _ _ _ _ _ _ _ _ _ _ _ _ _ _ _ _ _ _ _ _ _ _ _ _ _ _ _ _ _ _ _ _ _ _ _ _ _ _ _ _ _ _ _ _ _ _ _ _ _ _ _ _ wg (hr 0 _ rfl) (hr 1 _ rfl) (hr 2 _ rfl) (hr 3 _ rfl) (hidden (fun x => ints_any 13 x)) (hidden (fun x hx => (Same_any an (⟨13, 0, 0, 0⟩ : E4) x (TT.keep (bl_trans BG hx)) oan (ok_small 13 (by omega))).mono (fun e w' q => ⟨by rw [q.1, han13, n_small, E4.same_self], q.2⟩))) (hidden ?_)
  intro w4 h4
  have B4 := bl_trans BG h4
  have hw4 := bl_trans hg h4
  have CA4 : Hid (∀ x, Below w4.heap.size w4 x → Calls Tryz.prog 15 #[.agg #[.slice (some ⟨R, 0, none⟩) 1 1, .slice (some ⟨I, 0, none⟩) 1 1], .slice (some ⟨D, 0, none⟩) 1 1, .agg #[.int .u64 (⟨2, 0, 0, 0⟩ : E4).x0, .int .u64 (⟨2, 0, 0, 0⟩ : E4).x1, .int .u64 (⟨2, 0, 0, 0⟩ : E4).x2, .int .u64 (⟨2, 0, 0, 0⟩ : E4).x3], .slice (some ⟨X, 0, none⟩) 1 1] x fun e w' => e = .returned (.int .i64 0) ∧ Below x.heap.size x w') := hidden (fun x hx => accepts_L R I g 1 1 1 1 1 (some ⟨X, 0, none⟩) (⟨2, 0, 0, 0⟩ : E4) (⟨5, 0, 0, 0⟩ : E4) (fun _ => an) (fun _ => (⟨1, 0, 0, 0⟩ : E4)) D 1 f1 true x (by omega) (by omega) (TT.keep (bl_trans B4 hx)) (ok_small 2 (by omega)) (lm1 (range_bl hr (bl_trans h4 hx))) (fun _ _ => oan) (cell_keep lR (bl_trans hw4 hx)) (lg.keep (bl_trans hw4 hx)) (fun _ _ => ok_small 1 (by omega)) (range_bl lI (bl_trans hw4 hx)) (ok_small 5 (by omega)) (range_bl hD (bl_trans hw4 hx)) of1 (by
    rw [lst_n', hf3]
    have e : lst (tot (fun _ => an.n * (⟨1, 0, 0, 0⟩ : E4).n) 1 + -(⟨2, 0, 0, 0⟩ : E4).n * (⟨5, 0, 0, 0⟩ : E4).n) = lst 3 := by
      rw [n_small, n_small, n_small, tot, tot, Int.zero_add, Int.mul_one, lst_two han13 rfl]
      rfl
    rw [e, E4.same_self]))
  have CA12 : Hid (∀ (x : World) (tb : Nat), Below w4.heap.size w4 x → x.rangeAt tb 0 [.int .u64 (⟨12, 0, 0, 0⟩ : E4).x0, .int .u64 (⟨12, 0, 0, 0⟩ : E4).x1, .int .u64 (⟨12, 0, 0, 0⟩ : E4).x2, .int .u64 (⟨12, 0, 0, 0⟩ : E4).x3] → Calls Tryz.prog 15 #[.agg #[.slice (some ⟨R, 0, none⟩) 1 1, .slice (some ⟨I, 0, none⟩) 1 1], .slice (some ⟨D, 0, none⟩) 1 1, .agg #[.int .u64 (⟨2, 0, 0, 0⟩ : E4).x0, .int .u64 (⟨2, 0, 0, 0⟩ : E4).x1, .int .u64 (⟨2, 0, 0, 0⟩ : E4).x2, .int .u64 (⟨2, 0, 0, 0⟩ : E4).x3], .slice (some ⟨tb, 0, none⟩) 1 1] x fun e w' => e = .returned (.int .i64 111) ∧ Below x.heap.size x w') := hidden (fun x tb hx htb => accepts_L R I g 1 1 1 1 1 (some ⟨tb, 0, none⟩) (⟨2, 0, 0, 0⟩ : E4) (⟨5, 0, 0, 0⟩ : E4) (fun _ => (⟨12, 0, 0, 0⟩ : E4)) (fun _ => (⟨1, 0, 0, 0⟩ : E4)) D 1 f1 false x (by omega) (by omega) (TT.keep (bl_trans B4 hx)) (ok_small 2 (by omega)) (lm1 htb) (fun _ _ => ok_small 12 (by omega)) (cell_keep lR (bl_trans hw4 hx)) (lg.keep (bl_trans hw4 hx)) (fun _ _ => ok_small 1 (by omega)) (range_bl lI (bl_trans hw4 hx)) (ok_small 5 (by omega)) (range_bl hD (bl_trans hw4 hx)) of1 (by
    rw [lst_n', hf3]
    have e : lst (tot (fun _ => (⟨12, 0, 0, 0⟩ : E4).n * (⟨1, 0, 0, 0⟩ : E4).n) 1 + -(⟨2, 0, 0, 0⟩ : E4).n * (⟨5, 0, 0, 0⟩ : E4).n) = lst 2 := by
      rw [n_small, n_small, n_small, n_small, tot, tot]
      rfl
    rw [e]
    decide +kernel))
  go_upto_region 6 with fail
  refine al6 _ T1 R I D X (⟨2, 0, 0, 0⟩ : E4) (⟨12, 0, 0, 0⟩ : E4) _ _ _ _ _ _ _ _ _ _ _ _ _ _ _ _ _ _ _ _ _ _ _ _ _ _ _ _ _ _ _ _ _ _ _ _ _ _ _ _ _ _ _ _ _ _ _ _ _ _ _ _ _ _ _ _ _ _ _ _ _ _ _ w4 (cell_keep b0 hw4) (cell_keep b1 hw4) (hidden (fun x => ints_any 2 x)) (hidden (fun x => ints_any 12 x)) CA4 CA12 (hidden ?_)
  intro tb w5 h5
  have B5 := bl_trans B4 h5
  clear CA4 CA12
  go_wp2_with fail
  refine bodyPost_ret (v := .bool true) (by simp [results, Tryz.results7, go_sem]) rfl ⟨rfl, B5⟩
end Go.Proofs.YtapieajkmpnmoaaGreatDoor.Li
namespace Go.Proofs.YtapieajkmpnmoaaGreatDoor
open Go.RowKit
set_option linter.unusedVariables false
/-- what stands in a place of a list, 0 behind its end -/
def atE (n : Nat) (g : Nat → E4) (i : Nat) : E4 := if i < n then g i else zero4
theorem atE_ok {L : Nat} {k : Nat → E4} (h : ∀ i, i < L → (k i).ok) (i : Nat) : (atE L k i).ok := by
  unfold atE
  by_cases hi : i < L
  · rw [if_pos hi]; exact h i hi
  · rw [if_neg hi]; exact z4ok
theorem rm_below {w w' : World} {m b n : Nat} {g : Nat → E4} (h : Rm w b n g) (hb : Below m w w') (hl : b < m) : Rm w' b n g :=
  have k : ∀ {j : Nat} {v : Value}, w.cell? ⟨b, j, none⟩ = some v → w'.cell? ⟨b, j, none⟩ = some v := fun hv => (hb.cell (p := ⟨b, _, none⟩) hl).trans hv
  ⟨Nat.lt_of_lt_of_le h.lt hb.size, ⟨fun i hi => k (h.r.c0 i hi), fun i hi => k (h.r.c1 i hi), fun i hi => k (h.r.c2 i hi), fun i hi => k (h.r.c3 i hi)⟩, fun j hj => (hb.frozen (p := ⟨b, j, none⟩) hl).trans (h.fr j hj)⟩
theorem rl_gb {w w' : World} {b o n : Nat} {g : Nat → E4} {row : Option Nat} (h : Rl w b o n g) (hg : w.grownBy w' row) (hn : some b ≠ row) : Rl w' b o n g :=
  ⟨fun i hi => hg.cell (h.c0 i hi) hn, fun i hi => hg.cell (h.c1 i hi) hn, fun i hi => hg.cell (h.c2 i hi) hn, fun i hi => hg.cell (h.c3 i hi) hn⟩
def us (b : Nat → Nat) (i : Nat) : List Value := (List.range i).map (fun j => Value.slice (some ⟨b j, 0, none⟩) (j + 1) (j + 1))
theorem us_succ (b : Nat → Nat) (i U : Nat) : us b i ++ [Value.slice (some ⟨U, 0, none⟩) (i + 1) (i + 1)] = us (fun j => if j = i then U else b j) (i + 1) := by
  unfold us
  rw [List.range_succ, List.map_append]
  refine congr (congrArg _ (List.map_congr_left (fun j hj => ?_))) ?_
  · show _ = Value.slice (some ⟨if j = i then U else b j, 0, none⟩) _ _
    rw [if_neg (by have := List.mem_range.1 hj; omega)]
  · simp
/-- between two rounds -/
structure SI (w w4 w' : World) (n i : Nat) (p1 p2 : Nat → E4) (v : Value) (b : Nat → Nat) (s : Bool) : Prop where
  x : Rm w' (w.heap.size + 1 + 1) n (fun j => if j < i then p1 j else zero4)
  y : Rm w' (w.heap.size + 1 + 1 + 1) n (fun j => if j < i then p2 j else zero4)
  row : w'.ownsRow (w.heap.size + 1 + 1 + 1 + 1) 32 1 v i (us b i)
  u : ∀ j, j < i → Rl w' (b j) 0 (j + 1) (uf j) ∧ w.heap.size + 1 + 1 + 1 + 1 ≤ b j
  s : s = true ↔ ∀ j, j < i → lst (p1 j).n = lst (p2 j).n
  bl : Below (w.heap.size + 1 + 1) w4 w'
  sz : w.heap.size + 1 + 1 + 1 + 1 ≤ w'.heap.size
theorem if_next {i : Nat} {p : Nat → E4} {z : E4} (hz : z = p i) : (fun j => if j = i then z else if j < i then p j else zero4) = (fun j => if j < i + 1 then p j else zero4) := by
  funext j
  by_cases e1 : j = i
  · subst e1; rw [if_pos rfl, if_pos (by omega), hz]
  · rw [if_neg e1]
    by_cases e2 : j < i
    · rw [if_pos e2, if_pos (by omega)]
    · rw [if_neg e2, if_neg (by omega)]
theorem if_stay {i : Nat} {p : Nat → E4} (hz : p i = zero4) : (fun j => if j < i then p j else zero4) = (fun j => if j < i + 1 then p j else zero4) := by
  funext j
  by_cases e1 : j = i
  · subst e1; rw [if_neg (by omega), if_pos (by omega), hz]
  · by_cases e2 : j < i
    · rw [if_pos e2, if_pos (by omega)]
    · rw [if_neg e2, if_neg (by omega)]
/-- a row that has one unit more -/
structure SU (w w4 w' : World) (n i : Nat) (p1 p2 : Nat → E4) (v : Value) (b : Nat → Nat) (s : Bool) : Prop where
  x : Rm w' (w.heap.size + 1 + 1) n (fun j => if j < i then p1 j else zero4)
  y : Rm w' (w.heap.size + 1 + 1 + 1) n (fun j => if j < i then p2 j else zero4)
  row : w'.ownsRow (w.heap.size + 1 + 1 + 1 + 1) 32 1 v (i + 1) (us b (i + 1))
  u : ∀ j, j < i + 1 → Rl w' (b j) 0 (j + 1) (uf j) ∧ w.heap.size + 1 + 1 + 1 + 1 ≤ b j
  s : s = true ↔ ∀ j, j < i → lst (p1 j).n = lst (p2 j).n
  bl : Below (w.heap.size + 1 + 1) w4 w'
  sz : w.heap.size + 1 + 1 + 1 + 1 ≤ w'.heap.size
theorem SI.app {w w4 wr wD wE : World} {n i U : Nat} {p1 p2 : Nat → E4} {v v' : Value} {b : Nat → Nat} {s : Bool} (h : SI w w4 wr n i p1 p2 v b s) (hb : Below wr.heap.size wr wD) (hU : wr.heap.size ≤ U) (hR : Rl wD U 0 (i + 1) (uf i)) (hO : wE.ownsRow (w.heap.size + 1 + 1 + 1 + 1) 32 1 v' (i + 1) (us b i ++ [.slice (some ⟨U, 0, none⟩) (i + 1) (i + 1)])) (hG : wD.grownBy wE v.ownBlock) : SU w w4 wE n i p1 p2 v' (fun j => if j = i then U else b j) s := by
  have hrow := own_keep5 h.row hb
  have B4 : Below (w.heap.size + 1 + 1 + 1 + 1) wD wE := below_grown hG (Nat.le_trans h.sz hb.size) (fun k hk => (hrow.lt k hk).1)
  have nb : ∀ j, j < i → some (b j) ≠ v.ownBlock := fun j hj e => by
    have hu := ((h.u j hj).1.keep hb).c0 0 (by omega)
    rcases hrow.2 with ⟨h0, h1⟩ | ⟨g, cap, cur, h1, -⟩
    · omega
    · rw [h1] at e hrow
      have e' : b j = g := Option.some.inj e
      have hc := hrow.cellAt 0 (by omega)
      unfold us at hc
      rw [List.getElem?_map, List.getElem?_range (by omega)] at hc
      rw [e'] at hu
      simp only [Nat.zero_mul, Nat.add_zero] at hu
      rw [hu] at hc
      simp at hc
  have nU : some U ≠ v.ownBlock := fun e => by have := (h.row.lt U e.symm).2; omega
  refine ⟨rm_below (h.x.keep hb) B4 (by omega), rm_below (h.y.keep hb) B4 (by omega), ?_, fun j hj => ?_, h.s, below_trans h.bl (below_trans (below_less hb (by have := h.sz; omega)) (below_less B4 (by omega))), Nat.le_trans h.sz (Nat.le_trans hb.size hG.size)⟩
  · rw [us_succ] at hO; exact hO
  · by_cases e : j = i
    · subst e; simp only [if_pos]; exact ⟨rl_gb hR hG nU, Nat.le_trans h.sz hU⟩
    · simp only [if_neg e]; exact ⟨rl_gb ((h.u j (by omega)).1.keep hb) hG (nb j (by omega)), (h.u j (by omega)).2⟩
/-- a place of x or y is written -/
theorem SU.setx {w w4 w' : World} {n i : Nat} {p1 p2 q1 q2 : Nat → E4} {v : Value} {b : Nat → Nat} {s : Bool} {z : E4} (h : SU w w4 w' n i p1 p2 v b s) (hi : i < n) (z1 : z = p1 i) : Rm (setS w' (w.heap.size + 1 + 1) (i * 4) z) (w.heap.size + 1 + 1) n (fun j => if j < i + 1 then p1 j else zero4) := by
  have := h.x.set i hi z
  rw [if_next z1] at this
  exact this
def sl17to : Array Oper := #[{ dst := some 68, op := Op.move (Operand.tmp 16), type := 4, pos := "outright.go:258", after := #[], guard := none },
  { dst := some 69, op := Op.move (Operand.tmp 68), type := 4, pos := "outright.go:258", after := #[{ on := 0, ground := Ground.data }], guard := none },
  { dst := some 70, op := Op.move (Operand.tmp 14), type := 22, pos := "outright.go:258", after := #[{ on := 1, ground := Ground.guard }], guard := some (1, true) },
  { dst := some 71, op := Op.move (Operand.tmp 17), type := 3, pos := "outright.go:258", after := #[{ on := 1, ground := Ground.guard }], guard := some (1, true) },
  { dst := some 72, op := Op.indexAddr 22 (Operand.tmp 70) (Operand.tmp 71), type := 0, pos := "outright.go:258", after := #[{ on := 2, ground := Ground.data }, { on := 3, ground := Ground.data }, { on := 1, ground := Ground.guard }], guard := some (1, true) },
  { dst := some 73, op := Op.load 25 (Operand.tmp 72), type := 25, pos := "outright.go:258", after := #[{ on := 4, ground := Ground.data }, { on := 1, ground := Ground.guard }], guard := some (1, true) },
  { dst := some 74, op := Op.move (Operand.tmp 15), type := 22, pos := "outright.go:258", after := #[{ on := 1, ground := Ground.guard }], guard := some (1, true) },
  { dst := some 75, op := Op.move (Operand.tmp 17), type := 3, pos := "outright.go:258", after := #[{ on := 1, ground := Ground.guard }], guard := some (1, true) },
  { dst := some 76, op := Op.indexAddr 22 (Operand.tmp 74) (Operand.tmp 75), type := 0, pos := "outright.go:258", after := #[{ on := 6, ground := Ground.data }, { on := 7, ground := Ground.data }, { on := 1, ground := Ground.guard }], guard := some (1, true) },
  { dst := some 77, op := Op.load 25 (Operand.tmp 76), type := 25, pos := "outright.go:258", after := #[{ on := 8, ground := Ground.data }, { on := 1, ground := Ground.guard }], guard := some (1, true) },
  { dst := some 78, op := Op.call { callee := Callee.value (Operand.func 5), args := #[Operand.tmp 73, Operand.tmp 77], argTypes := #[25, 25] }, type := 4, pos := "outright.go:258", after := #[{ on := 5, ground := Ground.data }, { on := 9, ground := Ground.data }, { on := 1, ground := Ground.chain }, { on := 1, ground := Ground.guard }], guard := some (1, true) },
  { dst := some 79, op := Op.pick (Operand.tmp 69) (Operand.tmp 78) (Operand.const (Value.bool false)), type := 4, pos := "outright.go:258", after := #[{ on := 1, ground := Ground.data }, { on := 10, ground := Ground.data }], guard := none },
  { dst := some 16, op := Op.assign (Operand.tmp 79), type := 4, pos := "outright.go:258", after := #[{ on := 11, ground := Ground.data }, { on := 10, ground := Ground.chain }, { on := 0, ground := Ground.phase }, { on := 1, ground := Ground.phase }, { on := 2, ground := Ground.phase }, { on := 3, ground := Ground.phase }, { on := 4, ground := Ground.phase }, { on := 5, ground := Ground.phase }, { on := 6, ground := Ground.phase }, { on := 7, ground := Ground.phase }, { on := 8, ground := Ground.phase }, { on := 9, ground := Ground.phase }, { on := 10, ground := Ground.phase }, { on := 11, ground := Ground.phase }], guard := none }]
set_option maxRecDepth 100000 in
set_option maxHeartbeats 16000000 in
theorem sl17t (Q : Exit → Act → World → Prop) (X Y n i : Nat) (a c : E4) (s : Bool) (u0 u1 u2 u3 u4 u5 u6 u7 u8 u9 u10 u11 u12 u13 u18 u19 u20 u21 u22 u23 u24 u25 u26 u27 u28 u29 u30 u31 u32 u33 u34 u35 u36 u37 u38 u39 u40 u41 u42 u43 u44 u45 u46 u47 u48 u49 u50 u51 u52 u53 u54 u55 u56 u57 u58 u59 u60 u61 u62 u63 u64 u65 u66 u67 u68 u69 u70 u71 u72 u73 u74 u75 u76 u77 u78 u79 u80 u81 u82 u83 u84 u85 u86 u87 u88 u89 u90 u91 u92 u93 u94 u95 u96 u97 u98 u99 u100 u101 u102 u103 u104 u105 u106 u107 u108 u109 u110 u111 u112 u113 u114 u115 : Value) (W : World)
    (i0 : (0 : Int) ≤ (i : Int)) (i1 : (i : Int) < (n : Int)) (ca0 : W.cell? ⟨X, i * 4, none⟩ = some (.int .u64 a.x0)) (ca1 : W.cell? ⟨X, i * 4 + 1, none⟩ = some (.int .u64 a.x1)) (ca2 : W.cell? ⟨X, i * 4 + 2, none⟩ = some (.int .u64 a.x2)) (ca3 : W.cell? ⟨X, i * 4 + 3, none⟩ = some (.int .u64 a.x3)) (cc0 : W.cell? ⟨Y, i * 4, none⟩ = some (.int .u64 c.x0)) (cc1 : W.cell? ⟨Y, i * 4 + 1, none⟩ = some (.int .u64 c.x1)) (cc2 : W.cell? ⟨Y, i * 4 + 2, none⟩ = some (.int .u64 c.x2)) (cc3 : W.cell? ⟨Y, i * 4 + 3, none⟩ = some (.int .u64 c.x3))
    (C10 : Hid (∀ x, Below W.heap.size W x → Calls Tryz.prog 5 #[.agg #[.int .u64 a.x0, .int .u64 a.x1, .int .u64 a.x2, .int .u64 a.x3], .agg #[.int .u64 c.x0, .int .u64 c.x1, .int .u64 c.x2, .int .u64 c.x3]] x fun e w' => e = .returned (.bool s) ∧ Below x.heap.size x w'))
    (HQ : Hid (∀ (wz : World), Below W.heap.size W wz → Q .normal ⟨#[u0, u1, u2, u3, u4, u5, u6, u7, u8, u9, u10, u11, u12, u13, .slice (some ⟨X, 0, none⟩) n n, .slice (some ⟨Y, 0, none⟩) n n, .bool s, .int .i64 (i : Int), u18, u19, u20, u21, u22, u23, u24, u25, u26, u27, u28, u29, u30, u31, u32, u33, u34, u35, u36, u37, u38, u39, u40, u41, u42, u43, u44, u45, u46, u47, u48, u49, u50, u51, u52, u53, u54, u55, u56, u57, u58, u59, u60, u61, u62, u63, u64, u65, u66, u67, .bool true, .bool true, .slice (some ⟨X, 0, none⟩) n n, .int .i64 (i : Int), .pointer (some ⟨X, i * 4, none⟩), .agg #[.int .u64 a.x0, .int .u64 a.x1, .int .u64 a.x2, .int .u64 a.x3], .slice (some ⟨Y, 0, none⟩) n n, .int .i64 (i : Int), .pointer (some ⟨Y, i * 4, none⟩), .agg #[.int .u64 c.x0, .int .u64 c.x1, .int .u64 c.x2, .int .u64 c.x3], .bool s, .bool s, u80, u81, u82, u83, u84, u85, u86, u87, u88, u89, u90, u91, u92, u93, u94, u95, u96, u97, u98, u99, u100, u101, u102, u103, u104, u105, u106, u107, u108, u109, u110, u111, u112, u113, u114, u115], []⟩ wz)) : (Code.region 17 sl17to true).wp Tryz.prog Q ⟨#[u0, u1, u2, u3, u4, u5, u6, u7, u8, u9, u10, u11, u12, u13, .slice (some ⟨X, 0, none⟩) n n, .slice (some ⟨Y, 0, none⟩) n n, .bool true, .int .i64 (i : Int), u18, u19, u20, u21, u22, u23, u24, u25, u26, u27, u28, u29, u30, u31, u32, u33, u34, u35, u36, u37, u38, u39, u40, u41, u42, u43, u44, u45, u46, u47, u48, u49, u50, u51, u52, u53, u54, u55, u56, u57, u58, u59, u60, u61, u62, u63, u64, u65, u66, u67, u68, u69, u70, u71, u72, u73, u74, u75, u76, u77, u78, u79, u80, u81, u82, u83, u84, u85, u86, u87, u88, u89, u90, u91, u92, u93, u94, u95, u96, u97, u98, u99, u100, u101, u102, u103, u104, u105, u106, u107, u108, u109, u110, u111, u112, u113, u114, u115], []⟩ W := by
  unfold sl17to
  refine wp_region_noPanic ?_
  refine wp_region_held_drew (S := fun x => Below W.heap.size W x) (by kernel_rfl) (bl_drew W) (fun hH0 => ?_)
  refine wpAnyH_take (i := 0) (oi := { dst := some 68, op := Op.move (Operand.tmp 16), type := 4, pos := "outright.go:258", after := #[], guard := none }) (v := .bool true) rfl (by kernel_rfl) (by kernel_rfl) (by kernel_rfl) (fun _ _ _ h => h) (Or.inl ⟨by rfl, fun w0 hSw => ?_⟩) hH0 ?_
  · (clear hSw; go_simp)
  simp only [Act.put, List.setIfInBounds_toArray, List.set_cons_zero, List.set_cons_succ]
  refine wpAnyH_take (i := 1) (oi := { dst := some 69, op := Op.move (Operand.tmp 68), type := 4, pos := "outright.go:258", after := #[{ on := 0, ground := Ground.data }], guard := none }) (v := .bool true) rfl (by kernel_rfl) (by kernel_rfl) (by kernel_rfl) (fun _ _ _ h => h) (Or.inl ⟨by rfl, fun w0 hSw => ?_⟩) hH0 ?_
  · (clear hSw; go_simp)
  simp only [Act.put, List.setIfInBounds_toArray, List.set_cons_zero, List.set_cons_succ]
  refine wpAnyH_take (i := 2) (oi := { dst := some 70, op := Op.move (Operand.tmp 14), type := 22, pos := "outright.go:258", after := #[{ on := 1, ground := Ground.guard }], guard := some (1, true) }) (v := .slice (some ⟨X, 0, none⟩) n n) rfl (by kernel_rfl) (by kernel_rfl) (by kernel_rfl) (fun _ _ _ h => h) (Or.inl ⟨by rfl, fun w0 hSw => ?_⟩) hH0 ?_
  · (clear hSw; go_simp)
  simp only [Act.put, List.setIfInBounds_toArray, List.set_cons_zero, List.set_cons_succ]
  refine wpAnyH_take (i := 3) (oi := { dst := some 71, op := Op.move (Operand.tmp 17), type := 3, pos := "outright.go:258", after := #[{ on := 1, ground := Ground.guard }], guard := some (1, true) }) (v := .int .i64 (i : Int)) rfl (by kernel_rfl) (by kernel_rfl) (by kernel_rfl) (fun _ _ _ h => h) (Or.inl ⟨by rfl, fun w0 hSw => ?_⟩) hH0 ?_
  · (clear hSw; go_simp)
  simp only [Act.put, List.setIfInBounds_toArray, List.set_cons_zero, List.set_cons_succ]
  refine wpAnyH_take (i := 6) (oi := { dst := some 74, op := Op.move (Operand.tmp 15), type := 22, pos := "outright.go:258", after := #[{ on := 1, ground := Ground.guard }], guard := some (1, true) }) (v := .slice (some ⟨Y, 0, none⟩) n n) rfl (by kernel_rfl) (by kernel_rfl) (by kernel_rfl) (fun _ _ _ h => h) (Or.inl ⟨by rfl, fun w0 hSw => ?_⟩) hH0 ?_
  · (clear hSw; go_simp)
  simp only [Act.put, List.setIfInBounds_toArray, List.set_cons_zero, List.set_cons_succ]
  refine wpAnyH_take (i := 7) (oi := { dst := some 75, op := Op.move (Operand.tmp 17), type := 3, pos := "outright.go:258", after := #[{ on := 1, ground := Ground.guard }], guard := some (1, true) }) (v := .int .i64 (i : Int)) rfl (by kernel_rfl) (by kernel_rfl) (by kernel_rfl) (fun _ _ _ h => h) (Or.inl ⟨by rfl, fun w0 hSw => ?_⟩) hH0 ?_
  · (clear hSw; go_simp)
  simp only [Act.put, List.setIfInBounds_toArray, List.set_cons_zero, List.set_cons_succ]
  refine wpAnyH_take (i := 4) (oi := { dst := some 72, op := Op.indexAddr 22 (Operand.tmp 70) (Operand.tmp 71), type := 0, pos := "outright.go:258", after := #[{ on := 2, ground := Ground.data }, { on := 3, ground := Ground.data }, { on := 1, ground := Ground.guard }], guard := some (1, true) }) (v := .pointer (some ⟨X, i * 4, none⟩)) rfl (by kernel_rfl) (by kernel_rfl) (by kernel_rfl) (fun _ _ _ h => h) (Or.inl ⟨by rfl, fun w0 hSw => ?_⟩) hH0 ?_
  · (clear hSw; go_simp)
  simp only [Act.put, List.setIfInBounds_toArray, List.set_cons_zero, List.set_cons_succ]
  refine wpAnyH_take (i := 8) (oi := { dst := some 76, op := Op.indexAddr 22 (Operand.tmp 74) (Operand.tmp 75), type := 0, pos := "outright.go:258", after := #[{ on := 6, ground := Ground.data }, { on := 7, ground := Ground.data }, { on := 1, ground := Ground.guard }], guard := some (1, true) }) (v := .pointer (some ⟨Y, i * 4, none⟩)) rfl (by kernel_rfl) (by kernel_rfl) (by kernel_rfl) (fun _ _ _ h => h) (Or.inl ⟨by rfl, fun w0 hSw => ?_⟩) hH0 ?_
  · (clear hSw; go_simp)
  simp only [Act.put, List.setIfInBounds_toArray, List.set_cons_zero, List.set_cons_succ]
  refine wpAnyH_take (i := 5) (oi := { dst := some 73, op := Op.load 25 (Operand.tmp 72), type := 25, pos := "outright.go:258", after := #[{ on := 4, ground := Ground.data }, { on := 1, ground := Ground.guard }], guard := some (1, true) }) (v := .agg #[.int .u64 a.x0, .int .u64 a.x1, .int .u64 a.x2, .int .u64 a.x3]) rfl (by kernel_rfl) (by kernel_rfl) (by kernel_rfl) (fun _ _ _ h => h) (Or.inl ⟨by rfl, fun w0 hSw => ?_⟩) hH0 ?_
  · (have hS : Below W.heap.size W w0 := hSw; have a0 := cell_keep ca0 hS; have a1 := cell_keep ca1 hS; have a2 := cell_keep ca2 hS; have a3 := cell_keep ca3 hS; clear hS hSw; go_simp)
  simp only [Act.put, List.setIfInBounds_toArray, List.set_cons_zero, List.set_cons_succ]
  refine wpAnyH_take (i := 9) (oi := { dst := some 77, op := Op.load 25 (Operand.tmp 76), type := 25, pos := "outright.go:258", after := #[{ on := 8, ground := Ground.data }, { on := 1, ground := Ground.guard }], guard := some (1, true) }) (v := .agg #[.int .u64 c.x0, .int .u64 c.x1, .int .u64 c.x2, .int .u64 c.x3]) rfl (by kernel_rfl) (by kernel_rfl) (by kernel_rfl) (fun _ _ _ h => h) (Or.inl ⟨by rfl, fun w0 hSw => ?_⟩) hH0 ?_
  · (have hS : Below W.heap.size W w0 := hSw; have a0 := cell_keep cc0 hS; have a1 := cell_keep cc1 hS; have a2 := cell_keep cc2 hS; have a3 := cell_keep cc3 hS; clear hS hSw; go_simp)
  simp only [Act.put, List.setIfInBounds_toArray, List.set_cons_zero, List.set_cons_succ]
  refine wpAnyH_ready (rs := [10]) (by kernel_rfl) (by simp) ?_
  refine AllReadyH.cons (o := { dst := some 78, op := Op.call { callee := Callee.value (Operand.func 5), args := #[Operand.tmp 73, Operand.tmp 77], argTypes := #[25, 25] }, type := 4, pos := "outright.go:258", after := #[{ on := 5, ground := Ground.data }, { on := 9, ground := Ground.data }, { on := 1, ground := Ground.chain }, { on := 1, ground := Ground.guard }], guard := some (1, true) }) rfl (fun K hK => ?_) AllReadyH.nil
  have HH := hidden hH0
  clear hH0
  go_simp
  refine (C10.out _ HH.out).mono ?_
  rintro e wn1 ⟨rfl, hb⟩
  have SN := hidden (bl_trans HH.out hb)
  clear HH C10 hb
  go_wp2_with fail
  refine hK.out _ _ SN.out (fun hH1 => ?_)
  clear hK K SN
  refine wpAnyH_take (i := 11) (oi := { dst := some 79, op := Op.pick (Operand.tmp 69) (Operand.tmp 78) (Operand.const (Value.bool false)), type := 4, pos := "outright.go:258", after := #[{ on := 1, ground := Ground.data }, { on := 10, ground := Ground.data }], guard := none }) (v := .bool s) rfl (by kernel_rfl) (by kernel_rfl) (by kernel_rfl) (fun _ _ _ h => h) (Or.inl ⟨by rfl, fun w0 hSw => ?_⟩) hH1 ?_
  · (clear hSw; go_simp)
  simp only [Act.put, List.setIfInBounds_toArray, List.set_cons_zero, List.set_cons_succ]
  refine wpAnyH_take (i := 12) (oi := { dst := some 16, op := Op.assign (Operand.tmp 79), type := 4, pos := "outright.go:258", after := #[{ on := 11, ground := Ground.data }, { on := 10, ground := Ground.chain }, { on := 0, ground := Ground.phase }, { on := 1, ground := Ground.phase }, { on := 2, ground := Ground.phase }, { on := 3, ground := Ground.phase }, { on := 4, ground := Ground.phase }, { on := 5, ground := Ground.phase }, { on := 6, ground := Ground.phase }, { on := 7, ground := Ground.phase }, { on := 8, ground := Ground.phase }, { on := 9, ground := Ground.phase }, { on := 10, ground := Ground.phase }, { on := 11, ground := Ground.phase }], guard := none }) (v := .bool s) rfl (by kernel_rfl) (by kernel_rfl) (by kernel_rfl) (fun _ _ _ h => h) (Or.inl ⟨by rfl, fun w0 hSw => ?_⟩) hH1 ?_
  · (clear hSw; go_simp)
  simp only [Act.put, List.setIfInBounds_toArray, List.set_cons_zero, List.set_cons_succ]
  have HH := hidden hH1
  have FQ := hidden (HQ.out _ HH.out)
  refine wpAnyH_done (by kernel_rfl) ?_ _
  refine NoPanic.normal ?_
  exact FQ.out
def sl17fo : Array Oper := #[{ dst := some 68, op := Op.move (Operand.tmp 16), type := 4, pos := "outright.go:258", after := #[], guard := none },
  { dst := some 69, op := Op.move (Operand.tmp 68), type := 4, pos := "outright.go:258", after := #[{ on := 0, ground := Ground.data }], guard := none },
  { dst := some 70, op := Op.move (Operand.tmp 14), type := 22, pos := "outright.go:258", after := #[{ on := 1, ground := Ground.guard }], guard := some (1, true) },
  { dst := some 71, op := Op.move (Operand.tmp 17), type := 3, pos := "outright.go:258", after := #[{ on := 1, ground := Ground.guard }], guard := some (1, true) },
  { dst := some 72, op := Op.indexAddr 22 (Operand.tmp 70) (Operand.tmp 71), type := 0, pos := "outright.go:258", after := #[{ on := 2, ground := Ground.data }, { on := 3, ground := Ground.data }, { on := 1, ground := Ground.guard }], guard := some (1, true) },
  { dst := some 73, op := Op.load 25 (Operand.tmp 72), type := 25, pos := "outright.go:258", after := #[{ on := 4, ground := Ground.data }, { on := 1, ground := Ground.guard }], guard := some (1, true) },
  { dst := some 74, op := Op.move (Operand.tmp 15), type := 22, pos := "outright.go:258", after := #[{ on := 1, ground := Ground.guard }], guard := some (1, true) },
  { dst := some 75, op := Op.move (Operand.tmp 17), type := 3, pos := "outright.go:258", after := #[{ on := 1, ground := Ground.guard }], guard := some (1, true) },
  { dst := some 76, op := Op.indexAddr 22 (Operand.tmp 74) (Operand.tmp 75), type := 0, pos := "outright.go:258", after := #[{ on := 6, ground := Ground.data }, { on := 7, ground := Ground.data }, { on := 1, ground := Ground.guard }], guard := some (1, true) },
  { dst := some 77, op := Op.load 25 (Operand.tmp 76), type := 25, pos := "outright.go:258", after := #[{ on := 8, ground := Ground.data }, { on := 1, ground := Ground.guard }], guard := some (1, true) },
  { dst := some 78, op := Op.call { callee := Callee.value (Operand.func 5), args := #[Operand.tmp 73, Operand.tmp 77], argTypes := #[25, 25] }, type := 4, pos := "outright.go:258", after := #[{ on := 5, ground := Ground.data }, { on := 9, ground := Ground.data }, { on := 1, ground := Ground.chain }, { on := 1, ground := Ground.guard }], guard := some (1, true) },
  { dst := some 79, op := Op.pick (Operand.tmp 69) (Operand.tmp 78) (Operand.const (Value.bool false)), type := 4, pos := "outright.go:258", after := #[{ on := 1, ground := Ground.data }, { on := 10, ground := Ground.data }], guard := none },
  { dst := some 16, op := Op.assign (Operand.tmp 79), type := 4, pos := "outright.go:258", after := #[{ on := 11, ground := Ground.data }, { on := 10, ground := Ground.chain }, { on := 0, ground := Ground.phase }, { on := 1, ground := Ground.phase }, { on := 2, ground := Ground.phase }, { on := 3, ground := Ground.phase }, { on := 4, ground := Ground.phase }, { on := 5, ground := Ground.phase }, { on := 6, ground := Ground.phase }, { on := 7, ground := Ground.phase }, { on := 8, ground := Ground.phase }, { on := 9, ground := Ground.phase }, { on := 10, ground := Ground.phase }, { on := 11, ground := Ground.phase }], guard := none }]
set_option maxRecDepth 100000 in
set_option maxHeartbeats 16000000 in
theorem sl17f (Q : Exit → Act → World → Prop) (X Y n i : Nat) (u0 u1 u2 u3 u4 u5 u6 u7 u8 u9 u10 u11 u12 u13 u18 u19 u20 u21 u22 u23 u24 u25 u26 u27 u28 u29 u30 u31 u32 u33 u34 u35 u36 u37 u38 u39 u40 u41 u42 u43 u44 u45 u46 u47 u48 u49 u50 u51 u52 u53 u54 u55 u56 u57 u58 u59 u60 u61 u62 u63 u64 u65 u66 u67 u68 u69 u70 u71 u72 u73 u74 u75 u76 u77 u78 u79 u80 u81 u82 u83 u84 u85 u86 u87 u88 u89 u90 u91 u92 u93 u94 u95 u96 u97 u98 u99 u100 u101 u102 u103 u104 u105 u106 u107 u108 u109 u110 u111 u112 u113 u114 u115 : Value) (W : World)
    
    (HQ : Hid (∀ (wz : World), Below W.heap.size W wz → Q .normal ⟨#[u0, u1, u2, u3, u4, u5, u6, u7, u8, u9, u10, u11, u12, u13, .slice (some ⟨X, 0, none⟩) n n, .slice (some ⟨Y, 0, none⟩) n n, .bool false, .int .i64 (i : Int), u18, u19, u20, u21, u22, u23, u24, u25, u26, u27, u28, u29, u30, u31, u32, u33, u34, u35, u36, u37, u38, u39, u40, u41, u42, u43, u44, u45, u46, u47, u48, u49, u50, u51, u52, u53, u54, u55, u56, u57, u58, u59, u60, u61, u62, u63, u64, u65, u66, u67, .bool false, .bool false, undef, undef, undef, undef, undef, undef, undef, undef, undef, .bool false, u80, u81, u82, u83, u84, u85, u86, u87, u88, u89, u90, u91, u92, u93, u94, u95, u96, u97, u98, u99, u100, u101, u102, u103, u104, u105, u106, u107, u108, u109, u110, u111, u112, u113, u114, u115], []⟩ wz)) : (Code.region 17 sl17fo true).wp Tryz.prog Q ⟨#[u0, u1, u2, u3, u4, u5, u6, u7, u8, u9, u10, u11, u12, u13, .slice (some ⟨X, 0, none⟩) n n, .slice (some ⟨Y, 0, none⟩) n n, .bool false, .int .i64 (i : Int), u18, u19, u20, u21, u22, u23, u24, u25, u26, u27, u28, u29, u30, u31, u32, u33, u34, u35, u36, u37, u38, u39, u40, u41, u42, u43, u44, u45, u46, u47, u48, u49, u50, u51, u52, u53, u54, u55, u56, u57, u58, u59, u60, u61, u62, u63, u64, u65, u66, u67, u68, u69, u70, u71, u72, u73, u74, u75, u76, u77, u78, u79, u80, u81, u82, u83, u84, u85, u86, u87, u88, u89, u90, u91, u92, u93, u94, u95, u96, u97, u98, u99, u100, u101, u102, u103, u104, u105, u106, u107, u108, u109, u110, u111, u112, u113, u114, u115], []⟩ W := by
  unfold sl17fo
  refine wp_region_noPanic ?_
  refine wp_region_held_drew (S := fun x => Below W.heap.size W x) (by kernel_rfl) (bl_drew W) (fun hH0 => ?_)
  refine wpAnyH_take (i := 0) (oi := { dst := some 68, op := Op.move (Operand.tmp 16), type := 4, pos := "outright.go:258", after := #[], guard := none }) (v := .bool false) rfl (by kernel_rfl) (by kernel_rfl) (by kernel_rfl) (fun _ _ _ h => h) (Or.inl ⟨by rfl, fun w0 hSw => ?_⟩) hH0 ?_
  · (clear hSw; go_simp)
  simp only [Act.put, List.setIfInBounds_toArray, List.set_cons_zero, List.set_cons_succ]
  refine wpAnyH_take (i := 1) (oi := { dst := some 69, op := Op.move (Operand.tmp 68), type := 4, pos := "outright.go:258", after := #[{ on := 0, ground := Ground.data }], guard := none }) (v := .bool false) rfl (by kernel_rfl) (by kernel_rfl) (by kernel_rfl) (fun _ _ _ h => h) (Or.inl ⟨by rfl, fun w0 hSw => ?_⟩) hH0 ?_
  · (clear hSw; go_simp)
  simp only [Act.put, List.setIfInBounds_toArray, List.set_cons_zero, List.set_cons_succ]
  refine wpAnyH_take (i := 2) (oi := { dst := some 70, op := Op.move (Operand.tmp 14), type := 22, pos := "outright.go:258", after := #[{ on := 1, ground := Ground.guard }], guard := some (1, true) }) (v := undef) rfl (by kernel_rfl) (by kernel_rfl) (by kernel_rfl) (fun _ _ _ h => h) (Or.inr ⟨by rfl, rfl⟩) hH0 ?_
  simp only [Act.put, List.setIfInBounds_toArray, List.set_cons_zero, List.set_cons_succ]
  refine wpAnyH_take (i := 3) (oi := { dst := some 71, op := Op.move (Operand.tmp 17), type := 3, pos := "outright.go:258", after := #[{ on := 1, ground := Ground.guard }], guard := some (1, true) }) (v := undef) rfl (by kernel_rfl) (by kernel_rfl) (by kernel_rfl) (fun _ _ _ h => h) (Or.inr ⟨by rfl, rfl⟩) hH0 ?_
  simp only [Act.put, List.setIfInBounds_toArray, List.set_cons_zero, List.set_cons_succ]
  refine wpAnyH_take (i := 6) (oi := { dst := some 74, op := Op.move (Operand.tmp 15), type := 22, pos := "outright.go:258", after := #[{ on := 1, ground := Ground.guard }], guard := some (1, true) }) (v := undef) rfl (by kernel_rfl) (by kernel_rfl) (by kernel_rfl) (fun _ _ _ h => h) (Or.inr ⟨by rfl, rfl⟩) hH0 ?_
  simp only [Act.put, List.setIfInBounds_toArray, List.set_cons_zero, List.set_cons_succ]
  refine wpAnyH_take (i := 7) (oi := { dst := some 75, op := Op.move (Operand.tmp 17), type := 3, pos := "outright.go:258", after := #[{ on := 1, ground := Ground.guard }], guard := some (1, true) }) (v := undef) rfl (by kernel_rfl) (by kernel_rfl) (by kernel_rfl) (fun _ _ _ h => h) (Or.inr ⟨by rfl, rfl⟩) hH0 ?_
  simp only [Act.put, List.setIfInBounds_toArray, List.set_cons_zero, List.set_cons_succ]
  refine wpAnyH_take (i := 4) (oi := { dst := some 72, op := Op.indexAddr 22 (Operand.tmp 70) (Operand.tmp 71), type := 0, pos := "outright.go:258", after := #[{ on := 2, ground := Ground.data }, { on := 3, ground := Ground.data }, { on := 1, ground := Ground.guard }], guard := some (1, true) }) (v := undef) rfl (by kernel_rfl) (by kernel_rfl) (by kernel_rfl) (fun _ _ _ h => h) (Or.inr ⟨by rfl, rfl⟩) hH0 ?_
  simp only [Act.put, List.setIfInBounds_toArray, List.set_cons_zero, List.set_cons_succ]
  refine wpAnyH_take (i := 8) (oi := { dst := some 76, op := Op.indexAddr 22 (Operand.tmp 74) (Operand.tmp 75), type := 0, pos := "outright.go:258", after := #[{ on := 6, ground := Ground.data }, { on := 7, ground := Ground.data }, { on := 1, ground := Ground.guard }], guard := some (1, true) }) (v := undef) rfl (by kernel_rfl) (by kernel_rfl) (by kernel_rfl) (fun _ _ _ h => h) (Or.inr ⟨by rfl, rfl⟩) hH0 ?_
  simp only [Act.put, List.setIfInBounds_toArray, List.set_cons_zero, List.set_cons_succ]
  refine wpAnyH_take (i := 5) (oi := { dst := some 73, op := Op.load 25 (Operand.tmp 72), type := 25, pos := "outright.go:258", after := #[{ on := 4, ground := Ground.data }, { on := 1, ground := Ground.guard }], guard := some (1, true) }) (v := undef) rfl (by kernel_rfl) (by kernel_rfl) (by kernel_rfl) (fun _ _ _ h => h) (Or.inr ⟨by rfl, rfl⟩) hH0 ?_
  simp only [Act.put, List.setIfInBounds_toArray, List.set_cons_zero, List.set_cons_succ]
  refine wpAnyH_take (i := 9) (oi := { dst := some 77, op := Op.load 25 (Operand.tmp 76), type := 25, pos := "outright.go:258", after := #[{ on := 8, ground := Ground.data }, { on := 1, ground := Ground.guard }], guard := some (1, true) }) (v := undef) rfl (by kernel_rfl) (by kernel_rfl) (by kernel_rfl) (fun _ _ _ h => h) (Or.inr ⟨by rfl, rfl⟩) hH0 ?_
  simp only [Act.put, List.setIfInBounds_toArray, List.set_cons_zero, List.set_cons_succ]
  refine wpAnyH_ready (rs := [10]) (by kernel_rfl) (by simp) ?_
  refine AllReadyH.cons (o := { dst := some 78, op := Op.call { callee := Callee.value (Operand.func 5), args := #[Operand.tmp 73, Operand.tmp 77], argTypes := #[25, 25] }, type := 4, pos := "outright.go:258", after := #[{ on := 5, ground := Ground.data }, { on := 9, ground := Ground.data }, { on := 1, ground := Ground.chain }, { on := 1, ground := Ground.guard }], guard := some (1, true) }) rfl (fun K hK => ?_) AllReadyH.nil
  refine Eq.mpr (if_neg (by exact fun h => Bool.false_ne_true h)) ?_
  refine hK.out _ _ hH0 (fun hzz => ?_)
  clear hK K hzz
  simp only [Act.put, List.setIfInBounds_toArray, List.set_cons_zero, List.set_cons_succ]
  refine wpAnyH_take (i := 11) (oi := { dst := some 79, op := Op.pick (Operand.tmp 69) (Operand.tmp 78) (Operand.const (Value.bool false)), type := 4, pos := "outright.go:258", after := #[{ on := 1, ground := Ground.data }, { on := 10, ground := Ground.data }], guard := none }) (v := .bool false) rfl (by kernel_rfl) (by kernel_rfl) (by kernel_rfl) (fun _ _ _ h => h) (Or.inl ⟨by rfl, fun w0 hSw => ?_⟩) hH0 ?_
  · (clear hSw; go_simp)
  simp only [Act.put, List.setIfInBounds_toArray, List.set_cons_zero, List.set_cons_succ]
  refine wpAnyH_take (i := 12) (oi := { dst := some 16, op := Op.assign (Operand.tmp 79), type := 4, pos := "outright.go:258", after := #[{ on := 11, ground := Ground.data }, { on := 10, ground := Ground.chain }, { on := 0, ground := Ground.phase }, { on := 1, ground := Ground.phase }, { on := 2, ground := Ground.phase }, { on := 3, ground := Ground.phase }, { on := 4, ground := Ground.phase }, { on := 5, ground := Ground.phase }, { on := 6, ground := Ground.phase }, { on := 7, ground := Ground.phase }, { on := 8, ground := Ground.phase }, { on := 9, ground := Ground.phase }, { on := 10, ground := Ground.phase }, { on := 11, ground := Ground.phase }], guard := none }) (v := .bool false) rfl (by kernel_rfl) (by kernel_rfl) (by kernel_rfl) (fun _ _ _ h => h) (Or.inl ⟨by rfl, fun w0 hSw => ?_⟩) hH0 ?_
  · (clear hSw; go_simp)
  simp only [Act.put, List.setIfInBounds_toArray, List.set_cons_zero, List.set_cons_succ]
  have HH := hidden hH0
  have FQ := hidden (HQ.out _ HH.out)
  refine wpAnyH_done (by kernel_rfl) ?_ _
  refine NoPanic.normal ?_
  exact FQ.out
end Go.Proofs.YtapieajkmpnmoaaGreatDoor
