import Derived.Test.YtkoilaoogphgfaaGreatDoorTk
import Derived.Test.YtkoilaoogphgfaaGreatDoorVz
import Derived.Deep.MidRow
import Derived.Deep.RegionHeld3
namespace Go.Proofs.YtkoilaoogphgfaaGreatDoor
open Go.RowKit
set_option linter.unusedVariables false
set_option linter.unusedSimpArgs false
set_option maxRecDepth 100000
set_option maxHeartbeats 8000000
theorem gbI {w w' : World} (h : Below w.heap.size w w') (row : Option Nat) : w.grownBy w' row := ⟨h.os, h.tape, h.output, h.size, fun k hk _ => h.block k hk⟩
def t32 (g : Nat → E4) : List Value := [.int .u64 (g 0).x0, .int .u64 (g 0).x1, .int .u64 (g 0).x2, .int .u64 (g 0).x3, .int .u64 (g 1).x0, .int .u64 (g 1).x1, .int .u64 (g 1).x2, .int .u64 (g 1).x3, .int .u64 (g 2).x0, .int .u64 (g 2).x1, .int .u64 (g 2).x2, .int .u64 (g 2).x3, .int .u64 (g 3).x0, .int .u64 (g 3).x1, .int .u64 (g 3).x2, .int .u64 (g 3).x3, .int .u64 (g 4).x0, .int .u64 (g 4).x1, .int .u64 (g 4).x2, .int .u64 (g 4).x3, .int .u64 (g 5).x0, .int .u64 (g 5).x1, .int .u64 (g 5).x2, .int .u64 (g 5).x3, .int .u64 (g 6).x0, .int .u64 (g 6).x1, .int .u64 (g 6).x2, .int .u64 (g 6).x3, .int .u64 (g 7).x0, .int .u64 (g 7).x1, .int .u64 (g 7).x2, .int .u64 (g 7).x3]
theorem t32_len (g : Nat → E4) : (t32 g).length = 32 := rfl
def t34 (g : Nat → E4) (L R : Value) : List Value := t32 g ++ [L, R]
def tz34 : List Value := t34 (fun _ => zero4) (.slice none 0 0) (.slice none 0 0)
theorem t32_one (g : Nat → E4) : ∀ u ∈ t32 g, u.oneCell' = true := by
 intro u hu
 simp only [t32, List.mem_cons, List.not_mem_nil, or_false] at hu
 rcases hu with rfl | rfl | rfl | rfl | rfl | rfl | rfl | rfl | rfl | rfl | rfl | rfl | rfl | rfl | rfl | rfl | rfl | rfl | rfl | rfl | rfl | rfl | rfl | rfl | rfl | rfl | rfl | rfl | rfl | rfl | rfl | rfl <;> rfl
theorem t34_one (g : Nat → E4) (P Q : Option Addr) (n c m d : Nat) : (t34 g (.slice P n c) (.slice Q m d)).toArray.all (·.oneCell') = true := by
 rw [Array.all_eq_true']
 intro u hu
 rw [List.mem_toArray] at hu
 rcases List.mem_append.1 hu with h | h
 ·exact t32_one g u h
 ·simp only [List.mem_cons, List.not_mem_nil, or_false] at h
  rcases h with rfl | rfl <;> rfl
theorem ptinfo : (Tryz.prog.info? 35).map (·.size) = some 34 := by kernel_rfl
theorem ptzv (w : World) : (zeroValue 35).run Tryz.prog w = .ok (.agg tz34.toArray) w := by kernel_rfl
theorem pt_alloc {o : Oper} {a : Act} {w : World} {K : Act → World → Prop} {Q : Exit → Act → World → Prop} (ho : o.op = .alloc 35) (h : K (a.put o.dst (.pointer (some ⟨w.heap.size, 0, none⟩))) (w.alloc (.cells tz34.toArray 35))) : o.wp Tryz.prog a w K Q := by
 have hz := ptzv w
 generalize tz34 = z at hz h
 unfold Oper.wp execOp
 simp [ho, Instr.alloc, hz]
 exact h
theorem wpList_ptalloc {ops : Array Oper} {rest : List Oper} {o : Oper} {a : Act} {w : World} {Q : Exit → Act → World → Prop} (hg : o.guard = none) (ho : o.op = .alloc 35) (h : wpList Tryz.prog ops Q rest (a.put o.dst (.pointer (some ⟨w.heap.size, 0, none⟩))) (w.alloc (.cells tz34.toArray 35))) : wpList Tryz.prog ops Q (o :: rest) a w :=
 wpList_plain hg fun K hK => pt_alloc ho (hK _ _ h)
theorem wpList_ptbuild {ops : Array Oper} {rest : List Oper} {o : Oper} {a : Act} {w : World} {Q : Exit → Act → World → Prop} (hg : o.guard = none) (ho : o.op = .build 35 #[]) (h : wpList Tryz.prog ops Q rest (a.put o.dst (.agg tz34.toArray)) w) : wpList Tryz.prog ops Q (o :: rest) a w := by
 have e : Tryz.prog.built 35 ((#[] : Array (Nat × Operand)).map fun (i, x) => (i, a.eval x)).toList = some tz34.toArray := by kernel_rfl
 exact wpList_build hg 35 #[] ho (by rw [e]; rfl) (by rw [e]; exact h)
theorem rtinfo : (Tryz.prog.info? 46).map (·.size) = some 34 := by kernel_rfl
theorem rtzv (w : World) : (zeroValue 46).run Tryz.prog w = .ok (.agg tz34.toArray) w := by kernel_rfl
theorem rt_alloc {o : Oper} {a : Act} {w : World} {K : Act → World → Prop} {Q : Exit → Act → World → Prop} (ho : o.op = .alloc 46) (h : K (a.put o.dst (.pointer (some ⟨w.heap.size, 0, none⟩))) (w.alloc (.cells tz34.toArray 46))) : o.wp Tryz.prog a w K Q := by
 have hz := rtzv w
 generalize tz34 = z at hz h
 unfold Oper.wp execOp
 simp [ho, Instr.alloc, hz]
 exact h
theorem wpList_rtalloc {ops : Array Oper} {rest : List Oper} {o : Oper} {a : Act} {w : World} {Q : Exit → Act → World → Prop} (hg : o.guard = none) (ho : o.op = .alloc 46) (h : wpList Tryz.prog ops Q rest (a.put o.dst (.pointer (some ⟨w.heap.size, 0, none⟩))) (w.alloc (.cells tz34.toArray 46))) : wpList Tryz.prog ops Q (o :: rest) a w :=
 wpList_plain hg fun K hK => rt_alloc ho (hK _ _ h)
theorem wpList_rtbuild {ops : Array Oper} {rest : List Oper} {o : Oper} {a : Act} {w : World} {Q : Exit → Act → World → Prop} (hg : o.guard = none) (ho : o.op = .build 46 #[]) (h : wpList Tryz.prog ops Q rest (a.put o.dst (.agg tz34.toArray)) w) : wpList Tryz.prog ops Q (o :: rest) a w := by
 have e : Tryz.prog.built 46 ((#[] : Array (Nat × Operand)).map fun (i, x) => (i, a.eval x)).toList = some tz34.toArray := by kernel_rfl
 exact wpList_build hg 46 #[] ho (by rw [e]; rfl) (by rw [e]; exact h)
theorem wp_allocX {T : TypeId} (zs : List Value) (hz : ∀ w, (zeroValue T).run Tryz.prog w = .ok (.agg zs.toArray) w) {o : Oper} {a : Act} {w : World} {K : Act → World → Prop} {Q : Exit → Act → World → Prop} (ho : o.op = .alloc T) (h : ∀ (A : Nat) (wq : World), A = w.heap.size → Below w.heap.size w wq → wq.there A 0 zs.length → wq.rangeAt A 0 zs → K (a.put o.dst (.pointer (some ⟨A, 0, none⟩))) wq) : o.wp Tryz.prog a w K Q := by
 have hk := h w.heap.size (w.alloc (.cells zs.toArray T)) rfl (bl_alloc _ _) (there_newM w zs T) (range_newM w zs T)
 have hz' := hz w
 clear h hz
 generalize zs = z at hz' hk
 unfold Oper.wp execOp
 simp [ho, Instr.alloc, hz']
 exact hk
theorem wp_storeE {P : Program} {op : Oper} {a : Act} {w : World} {Kg : Act → World → Prop} {Q : Exit → Act → World → Prop} (ty : TypeId) (x y : Operand) (ho : op.op = .store ty x y) (b o : Nat) (cs : List Value) (hx : a.eval x = .pointer (some ⟨b, o, none⟩)) (hy : a.eval y = .agg cs.toArray) (ht : w.there b o cs.length) (hi : (P.info? ty).map (·.size) = some cs.length) (h1 : cs.toArray.all (·.oneCell') = true) (hd : op.dst = none)
  (h : ∀ w', w' = w.setCells b o cs → Kg a w') : op.wp P a w Kg Q := by
 have hr : (storeVar ty ⟨b, o, none⟩ (.agg cs.toArray)).run P w = .ok () (w.setCells b o cs) := run_storeVar_mid w b o ty cs.toArray ht hi h1
 have := h _ rfl
 unfold Oper.wp execOp
 simp only [ho, hx, hy, Instr.storeAt, Instr.sureAddr, Sem.run_bind, Sem.run_pure, Result.andThen_ok, hr]
 have h2 : Kg (a.put op.dst undef) (w.setCells b o cs) := by rw [hd]; exact this
 exact h2
def at8o_0 : Oper := { dst := some 34, op := Op.move (Operand.tmp 9), type := 33, pos := "arith.go:54", after := #[], guard := none }
def at8o_1 : Oper := { dst := some 35, op := Op.indexAddr 33 (Operand.tmp 34) (Operand.const (Value.int IntKind.i64 0)), type := 0, pos := "arith.go:54", after := #[{ on := 0, ground := Ground.data }], guard := none }
def at8o_2 : Oper := { dst := some 36, op := Op.load 32 (Operand.tmp 35), type := 32, pos := "arith.go:54", after := #[{ on := 1, ground := Ground.data }], guard := none }
def at8o_3 : Oper := { dst := some 37, op := Op.move (Operand.tmp 9), type := 33, pos := "arith.go:54", after := #[], guard := none }
def at8o_4 : Oper := { dst := some 38, op := Op.indexAddr 33 (Operand.tmp 37) (Operand.const (Value.int IntKind.i64 1)), type := 0, pos := "arith.go:54", after := #[{ on := 3, ground := Ground.data }], guard := none }
def at8o_5 : Oper := { dst := some 39, op := Op.load 32 (Operand.tmp 38), type := 32, pos := "arith.go:54", after := #[{ on := 4, ground := Ground.data }], guard := none }
def at8o_6 : Oper := { dst := some 40, op := Op.move (Operand.tmp 9), type := 33, pos := "arith.go:54", after := #[], guard := none }
def at8o_7 : Oper := { dst := some 41, op := Op.indexAddr 33 (Operand.tmp 40) (Operand.const (Value.int IntKind.i64 2)), type := 0, pos := "arith.go:54", after := #[{ on := 6, ground := Ground.data }], guard := none }
def at8o_8 : Oper := { dst := some 42, op := Op.load 32 (Operand.tmp 41), type := 32, pos := "arith.go:54", after := #[{ on := 7, ground := Ground.data }], guard := none }
def at8o_9 : Oper := { dst := some 43, op := Op.move (Operand.tmp 9), type := 33, pos := "arith.go:54", after := #[], guard := none }
def at8o_10 : Oper := { dst := some 44, op := Op.indexAddr 33 (Operand.tmp 43) (Operand.const (Value.int IntKind.i64 3)), type := 0, pos := "arith.go:54", after := #[{ on := 9, ground := Ground.data }], guard := none }
def at8o_11 : Oper := { dst := some 45, op := Op.load 32 (Operand.tmp 44), type := 32, pos := "arith.go:54", after := #[{ on := 10, ground := Ground.data }], guard := none }
def at8o_12 : Oper := { dst := some 46, op := Op.move (Operand.tmp 9), type := 33, pos := "arith.go:54", after := #[], guard := none }
def at8o_13 : Oper := { dst := some 47, op := Op.indexAddr 33 (Operand.tmp 46) (Operand.const (Value.int IntKind.i64 4)), type := 0, pos := "arith.go:54", after := #[{ on := 12, ground := Ground.data }], guard := none }
def at8o_14 : Oper := { dst := some 48, op := Op.load 32 (Operand.tmp 47), type := 32, pos := "arith.go:54", after := #[{ on := 13, ground := Ground.data }], guard := none }
def at8o_15 : Oper := { dst := some 49, op := Op.move (Operand.tmp 9), type := 33, pos := "arith.go:54", after := #[], guard := none }
def at8o_16 : Oper := { dst := some 50, op := Op.indexAddr 33 (Operand.tmp 49) (Operand.const (Value.int IntKind.i64 5)), type := 0, pos := "arith.go:54", after := #[{ on := 15, ground := Ground.data }], guard := none }
def at8o_17 : Oper := { dst := some 51, op := Op.load 32 (Operand.tmp 50), type := 32, pos := "arith.go:54", after := #[{ on := 16, ground := Ground.data }], guard := none }
def at8o_18 : Oper := { dst := some 52, op := Op.move (Operand.tmp 9), type := 33, pos := "arith.go:54", after := #[], guard := none }
def at8o_19 : Oper := { dst := some 53, op := Op.indexAddr 33 (Operand.tmp 52) (Operand.const (Value.int IntKind.i64 6)), type := 0, pos := "arith.go:54", after := #[{ on := 18, ground := Ground.data }], guard := none }
def at8o_20 : Oper := { dst := some 54, op := Op.load 32 (Operand.tmp 53), type := 32, pos := "arith.go:54", after := #[{ on := 19, ground := Ground.data }], guard := none }
def at8o_21 : Oper := { dst := some 55, op := Op.move (Operand.tmp 9), type := 33, pos := "arith.go:54", after := #[], guard := none }
def at8o_22 : Oper := { dst := some 56, op := Op.indexAddr 33 (Operand.tmp 55) (Operand.const (Value.int IntKind.i64 7)), type := 0, pos := "arith.go:54", after := #[{ on := 21, ground := Ground.data }], guard := none }
def at8o_23 : Oper := { dst := some 57, op := Op.load 32 (Operand.tmp 56), type := 32, pos := "arith.go:54", after := #[{ on := 22, ground := Ground.data }], guard := none }
def at8o_24 : Oper := { dst := some 58, op := Op.build 35 #[(0, Operand.tmp 36), (1, Operand.tmp 39), (2, Operand.tmp 42), (3, Operand.tmp 45), (4, Operand.tmp 48), (5, Operand.tmp 51), (6, Operand.tmp 54), (7, Operand.tmp 57)], type := 35, pos := "arith.go:54", after := #[{ on := 2, ground := Ground.data }, { on := 5, ground := Ground.data }, { on := 8, ground := Ground.data }, { on := 11, ground := Ground.data }, { on := 14, ground := Ground.data }, { on := 17, ground := Ground.data }, { on := 20, ground := Ground.data }, { on := 23, ground := Ground.data }], guard := none }
def at8o_25 : Oper := { dst := some 10, op := Op.alloc 35, type := 0, pos := "arith.go:54", after := #[], guard := none }
def at8o_26 : Oper := { dst := none, op := Op.store 35 (Operand.tmp 10) (Operand.tmp 58), type := 0, pos := "arith.go:54", after := #[{ on := 25, ground := Ground.data }, { on := 24, ground := Ground.data }, { on := 0, ground := Ground.phase }, { on := 1, ground := Ground.phase }, { on := 2, ground := Ground.phase }, { on := 3, ground := Ground.phase }, { on := 4, ground := Ground.phase }, { on := 5, ground := Ground.phase }, { on := 6, ground := Ground.phase }, { on := 7, ground := Ground.phase }, { on := 8, ground := Ground.phase }, { on := 9, ground := Ground.phase }, { on := 10, ground := Ground.phase }, { on := 11, ground := Ground.phase }, { on := 12, ground := Ground.phase }, { on := 13, ground := Ground.phase }, { on := 14, ground := Ground.phase }, { on := 15, ground := Ground.phase }, { on := 16, ground := Ground.phase }, { on := 17, ground := Ground.phase }, { on := 18, ground := Ground.phase }, { on := 19, ground := Ground.phase }, { on := 20, ground := Ground.phase }, { on := 21, ground := Ground.phase }, { on := 22, ground := Ground.phase }, { on := 23, ground := Ground.phase }, { on := 24, ground := Ground.phase }, { on := 25, ground := Ground.phase }], guard := none }
def at8o : Array Oper := #[at8o_0, at8o_1, at8o_2, at8o_3, at8o_4, at8o_5, at8o_6, at8o_7, at8o_8, at8o_9, at8o_10, at8o_11, at8o_12, at8o_13, at8o_14, at8o_15, at8o_16, at8o_17, at8o_18, at8o_19, at8o_20, at8o_21, at8o_22, at8o_23, at8o_24, at8o_25, at8o_26]
set_option maxRecDepth 100000 in
set_option maxHeartbeats 16000000 in
theorem at8 (Q : Exit → Act → World → Prop) (b m : Nat) (g : Nat → E4) (u0 u1 u2 u3 u4 u5 u6 u7 u8 u10 u11 u12 u13 u14 u15 u16 u17 u18 u19 u20 u21 u22 u23 u24 u25 u26 u27 u28 u29 u30 u31 u32 u33 u34 u35 u36 u37 u38 u39 u40 u41 u42 u43 u44 u45 u46 u47 u48 u49 u50 u51 u52 u53 u54 u55 u56 u57 u58 u59 u60 u61 u62 u63 u64 u65 u66 u67 u68 u69 u70 u71 u72 u73 u74 u75 u76 : Value) (W : World)
  (i0 : (0 : Int) < (m : Int)) (i00 : ¬ m = 0) (i1 : (1 : Int) < (m : Int)) (i2 : (2 : Int) < (m : Int)) (i3 : (3 : Int) < (m : Int)) (i4 : (4 : Int) < (m : Int)) (i5 : (5 : Int) < (m : Int)) (i6 : (6 : Int) < (m : Int)) (i7 : (7 : Int) < (m : Int))
  (c00 : W.cell? ⟨b, 0, none⟩ = some (.int .u64 (g 0).x0)) (c01 : W.cell? ⟨b, 1, none⟩ = some (.int .u64 (g 0).x1)) (c02 : W.cell? ⟨b, 2, none⟩ = some (.int .u64 (g 0).x2)) (c03 : W.cell? ⟨b, 3, none⟩ = some (.int .u64 (g 0).x3))
  (c10 : W.cell? ⟨b, 4, none⟩ = some (.int .u64 (g 1).x0)) (c11 : W.cell? ⟨b, 5, none⟩ = some (.int .u64 (g 1).x1)) (c12 : W.cell? ⟨b, 6, none⟩ = some (.int .u64 (g 1).x2)) (c13 : W.cell? ⟨b, 7, none⟩ = some (.int .u64 (g 1).x3))
  (c20 : W.cell? ⟨b, 8, none⟩ = some (.int .u64 (g 2).x0)) (c21 : W.cell? ⟨b, 9, none⟩ = some (.int .u64 (g 2).x1)) (c22 : W.cell? ⟨b, 10, none⟩ = some (.int .u64 (g 2).x2)) (c23 : W.cell? ⟨b, 11, none⟩ = some (.int .u64 (g 2).x3))
  (c30 : W.cell? ⟨b, 12, none⟩ = some (.int .u64 (g 3).x0)) (c31 : W.cell? ⟨b, 13, none⟩ = some (.int .u64 (g 3).x1)) (c32 : W.cell? ⟨b, 14, none⟩ = some (.int .u64 (g 3).x2)) (c33 : W.cell? ⟨b, 15, none⟩ = some (.int .u64 (g 3).x3))
  (c40 : W.cell? ⟨b, 16, none⟩ = some (.int .u64 (g 4).x0)) (c41 : W.cell? ⟨b, 17, none⟩ = some (.int .u64 (g 4).x1)) (c42 : W.cell? ⟨b, 18, none⟩ = some (.int .u64 (g 4).x2)) (c43 : W.cell? ⟨b, 19, none⟩ = some (.int .u64 (g 4).x3))
  (c50 : W.cell? ⟨b, 20, none⟩ = some (.int .u64 (g 5).x0)) (c51 : W.cell? ⟨b, 21, none⟩ = some (.int .u64 (g 5).x1)) (c52 : W.cell? ⟨b, 22, none⟩ = some (.int .u64 (g 5).x2)) (c53 : W.cell? ⟨b, 23, none⟩ = some (.int .u64 (g 5).x3))
  (c60 : W.cell? ⟨b, 24, none⟩ = some (.int .u64 (g 6).x0)) (c61 : W.cell? ⟨b, 25, none⟩ = some (.int .u64 (g 6).x1)) (c62 : W.cell? ⟨b, 26, none⟩ = some (.int .u64 (g 6).x2)) (c63 : W.cell? ⟨b, 27, none⟩ = some (.int .u64 (g 6).x3))
  (c70 : W.cell? ⟨b, 28, none⟩ = some (.int .u64 (g 7).x0)) (c71 : W.cell? ⟨b, 29, none⟩ = some (.int .u64 (g 7).x1)) (c72 : W.cell? ⟨b, 30, none⟩ = some (.int .u64 (g 7).x2)) (c73 : W.cell? ⟨b, 31, none⟩ = some (.int .u64 (g 7).x3))
  (HQ : Hid (∀ (wz : World) (T : Nat), W.heap.size ≤ T → Below W.heap.size W wz → wz.rangeAt T 0 (t34 g (.slice none 0 0) (.slice none 0 0)) → wz.there T 0 34 → Q .normal ⟨#[u0, u1, u2, u3, u4, u5, u6, u7, u8, .slice (some ⟨b, 0, none⟩) m m, .pointer (some ⟨T, 0, none⟩), u11, u12, u13, u14, u15, u16, u17, u18, u19, u20, u21, u22, u23, u24, u25, u26, u27, u28, u29, u30, u31, u32, u33, .slice (some ⟨b, 0, none⟩) m m, .pointer (some ⟨b, 0, none⟩), .agg #[.int .u64 (g 0).x0, .int .u64 (g 0).x1, .int .u64 (g 0).x2, .int .u64 (g 0).x3], .slice (some ⟨b, 0, none⟩) m m, .pointer (some ⟨b, 4, none⟩), .agg #[.int .u64 (g 1).x0, .int .u64 (g 1).x1, .int .u64 (g 1).x2, .int .u64 (g 1).x3], .slice (some ⟨b, 0, none⟩) m m, .pointer (some ⟨b, 8, none⟩), .agg #[.int .u64 (g 2).x0, .int .u64 (g 2).x1, .int .u64 (g 2).x2, .int .u64 (g 2).x3], .slice (some ⟨b, 0, none⟩) m m, .pointer (some ⟨b, 12, none⟩), .agg #[.int .u64 (g 3).x0, .int .u64 (g 3).x1, .int .u64 (g 3).x2, .int .u64 (g 3).x3], .slice (some ⟨b, 0, none⟩) m m, .pointer (some ⟨b, 16, none⟩), .agg #[.int .u64 (g 4).x0, .int .u64 (g 4).x1, .int .u64 (g 4).x2, .int .u64 (g 4).x3], .slice (some ⟨b, 0, none⟩) m m, .pointer (some ⟨b, 20, none⟩), .agg #[.int .u64 (g 5).x0, .int .u64 (g 5).x1, .int .u64 (g 5).x2, .int .u64 (g 5).x3], .slice (some ⟨b, 0, none⟩) m m, .pointer (some ⟨b, 24, none⟩), .agg #[.int .u64 (g 6).x0, .int .u64 (g 6).x1, .int .u64 (g 6).x2, .int .u64 (g 6).x3], .slice (some ⟨b, 0, none⟩) m m, .pointer (some ⟨b, 28, none⟩), .agg #[.int .u64 (g 7).x0, .int .u64 (g 7).x1, .int .u64 (g 7).x2, .int .u64 (g 7).x3], .agg (t34 g (.slice none 0 0) (.slice none 0 0)).toArray, u59, u60, u61, u62, u63, u64, u65, u66, u67, u68, u69, u70, u71, u72, u73, u74, u75, u76], []⟩ wz)) : (Code.region 8 at8o true).wp Tryz.prog Q ⟨#[u0, u1, u2, u3, u4, u5, u6, u7, u8, .slice (some ⟨b, 0, none⟩) m m, u10, u11, u12, u13, u14, u15, u16, u17, u18, u19, u20, u21, u22, u23, u24, u25, u26, u27, u28, u29, u30, u31, u32, u33, u34, u35, u36, u37, u38, u39, u40, u41, u42, u43, u44, u45, u46, u47, u48, u49, u50, u51, u52, u53, u54, u55, u56, u57, u58, u59, u60, u61, u62, u63, u64, u65, u66, u67, u68, u69, u70, u71, u72, u73, u74, u75, u76], []⟩ W := by
 unfold at8o
 refine wp_region_noPanic ?_
 refine wp_region_held_drew (S := fun x => Below W.heap.size W x) (by kernel_rfl) (bl_drew W) (fun hH0 => ?_)
 refine tk 0 at8o_0 (.slice (some ⟨b, 0, none⟩) m m) rfl (by kernel_rfl) hH0 rfl (fun w0 hSw => ?_) ?_
 ·(unfold at8o_0; clear hSw; go_simp)
 simp only [at8o_0, Act.put, sA, sB, sC]
 refine tk 3 at8o_3 (.slice (some ⟨b, 0, none⟩) m m) rfl (by kernel_rfl) hH0 rfl (fun w0 hSw => ?_) ?_
 ·(unfold at8o_3; clear hSw; go_simp)
 simp only [at8o_3, Act.put, sA, sB, sC]
 refine tk 6 at8o_6 (.slice (some ⟨b, 0, none⟩) m m) rfl (by kernel_rfl) hH0 rfl (fun w0 hSw => ?_) ?_
 ·(unfold at8o_6; clear hSw; go_simp)
 simp only [at8o_6, Act.put, sA, sB, sC]
 refine tk 9 at8o_9 (.slice (some ⟨b, 0, none⟩) m m) rfl (by kernel_rfl) hH0 rfl (fun w0 hSw => ?_) ?_
 ·(unfold at8o_9; clear hSw; go_simp)
 simp only [at8o_9, Act.put, sA, sB, sC]
 refine tk 12 at8o_12 (.slice (some ⟨b, 0, none⟩) m m) rfl (by kernel_rfl) hH0 rfl (fun w0 hSw => ?_) ?_
 ·(unfold at8o_12; clear hSw; go_simp)
 simp only [at8o_12, Act.put, sA, sB, sC]
 refine tk 15 at8o_15 (.slice (some ⟨b, 0, none⟩) m m) rfl (by kernel_rfl) hH0 rfl (fun w0 hSw => ?_) ?_
 ·(unfold at8o_15; clear hSw; go_simp)
 simp only [at8o_15, Act.put, sA, sB, sC]
 refine tk 18 at8o_18 (.slice (some ⟨b, 0, none⟩) m m) rfl (by kernel_rfl) hH0 rfl (fun w0 hSw => ?_) ?_
 ·(unfold at8o_18; clear hSw; go_simp)
 simp only [at8o_18, Act.put, sA, sB, sC]
 refine tk 21 at8o_21 (.slice (some ⟨b, 0, none⟩) m m) rfl (by kernel_rfl) hH0 rfl (fun w0 hSw => ?_) ?_
 ·(unfold at8o_21; clear hSw; go_simp)
 simp only [at8o_21, Act.put, sA, sB, sC]
 refine tk 1 at8o_1 (.pointer (some ⟨b, 0, none⟩)) rfl (by kernel_rfl) hH0 rfl (fun w0 hSw => ?_) ?_
 ·(unfold at8o_1; clear hSw; go_simp)
 simp only [at8o_1, Act.put, sA, sB, sC]
 refine tk 4 at8o_4 (.pointer (some ⟨b, 4, none⟩)) rfl (by kernel_rfl) hH0 rfl (fun w0 hSw => ?_) ?_
 ·(unfold at8o_4; clear hSw; go_simp)
 simp only [at8o_4, Act.put, sA, sB, sC]
 refine tk 7 at8o_7 (.pointer (some ⟨b, 8, none⟩)) rfl (by kernel_rfl) hH0 rfl (fun w0 hSw => ?_) ?_
 ·(unfold at8o_7; clear hSw; go_simp)
 simp only [at8o_7, Act.put, sA, sB, sC]
 refine tk 10 at8o_10 (.pointer (some ⟨b, 12, none⟩)) rfl (by kernel_rfl) hH0 rfl (fun w0 hSw => ?_) ?_
 ·(unfold at8o_10; clear hSw; go_simp)
 simp only [at8o_10, Act.put, sA, sB, sC]
 refine tk 13 at8o_13 (.pointer (some ⟨b, 16, none⟩)) rfl (by kernel_rfl) hH0 rfl (fun w0 hSw => ?_) ?_
 ·(unfold at8o_13; clear hSw; go_simp)
 simp only [at8o_13, Act.put, sA, sB, sC]
 refine tk 16 at8o_16 (.pointer (some ⟨b, 20, none⟩)) rfl (by kernel_rfl) hH0 rfl (fun w0 hSw => ?_) ?_
 ·(unfold at8o_16; clear hSw; go_simp)
 simp only [at8o_16, Act.put, sA, sB, sC]
 refine tk 19 at8o_19 (.pointer (some ⟨b, 24, none⟩)) rfl (by kernel_rfl) hH0 rfl (fun w0 hSw => ?_) ?_
 ·(unfold at8o_19; clear hSw; go_simp)
 simp only [at8o_19, Act.put, sA, sB, sC]
 refine tk 22 at8o_22 (.pointer (some ⟨b, 28, none⟩)) rfl (by kernel_rfl) hH0 rfl (fun w0 hSw => ?_) ?_
 ·(unfold at8o_22; clear hSw; go_simp)
 simp only [at8o_22, Act.put, sA, sB, sC]
 refine tk 2 at8o_2 (.agg #[.int .u64 (g 0).x0, .int .u64 (g 0).x1, .int .u64 (g 0).x2, .int .u64 (g 0).x3]) rfl (by kernel_rfl) hH0 rfl (fun w0 hSw => ?_) ?_
 ·(unfold at8o_2; have hS : Below W.heap.size W w0 := hSw; have a0 := cell_keep c00 hS; have a1 := cell_keep c01 hS; have a2 := cell_keep c02 hS; have a3 := cell_keep c03 hS; clear hS hSw; go_simp)
 simp only [at8o_2, Act.put, sA, sB, sC]
 refine tk 5 at8o_5 (.agg #[.int .u64 (g 1).x0, .int .u64 (g 1).x1, .int .u64 (g 1).x2, .int .u64 (g 1).x3]) rfl (by kernel_rfl) hH0 rfl (fun w0 hSw => ?_) ?_
 ·(unfold at8o_5; have hS : Below W.heap.size W w0 := hSw; have a0 := cell_keep c10 hS; have a1 := cell_keep c11 hS; have a2 := cell_keep c12 hS; have a3 := cell_keep c13 hS; clear hS hSw; go_simp)
 simp only [at8o_5, Act.put, sA, sB, sC]
 refine tk 8 at8o_8 (.agg #[.int .u64 (g 2).x0, .int .u64 (g 2).x1, .int .u64 (g 2).x2, .int .u64 (g 2).x3]) rfl (by kernel_rfl) hH0 rfl (fun w0 hSw => ?_) ?_
 ·(unfold at8o_8; have hS : Below W.heap.size W w0 := hSw; have a0 := cell_keep c20 hS; have a1 := cell_keep c21 hS; have a2 := cell_keep c22 hS; have a3 := cell_keep c23 hS; clear hS hSw; go_simp)
 simp only [at8o_8, Act.put, sA, sB, sC]
 refine tk 11 at8o_11 (.agg #[.int .u64 (g 3).x0, .int .u64 (g 3).x1, .int .u64 (g 3).x2, .int .u64 (g 3).x3]) rfl (by kernel_rfl) hH0 rfl (fun w0 hSw => ?_) ?_
 ·(unfold at8o_11; have hS : Below W.heap.size W w0 := hSw; have a0 := cell_keep c30 hS; have a1 := cell_keep c31 hS; have a2 := cell_keep c32 hS; have a3 := cell_keep c33 hS; clear hS hSw; go_simp)
 simp only [at8o_11, Act.put, sA, sB, sC]
 refine tk 14 at8o_14 (.agg #[.int .u64 (g 4).x0, .int .u64 (g 4).x1, .int .u64 (g 4).x2, .int .u64 (g 4).x3]) rfl (by kernel_rfl) hH0 rfl (fun w0 hSw => ?_) ?_
 ·(unfold at8o_14; have hS : Below W.heap.size W w0 := hSw; have a0 := cell_keep c40 hS; have a1 := cell_keep c41 hS; have a2 := cell_keep c42 hS; have a3 := cell_keep c43 hS; clear hS hSw; go_simp)
 simp only [at8o_14, Act.put, sA, sB, sC]
 refine tk 17 at8o_17 (.agg #[.int .u64 (g 5).x0, .int .u64 (g 5).x1, .int .u64 (g 5).x2, .int .u64 (g 5).x3]) rfl (by kernel_rfl) hH0 rfl (fun w0 hSw => ?_) ?_
 ·(unfold at8o_17; have hS : Below W.heap.size W w0 := hSw; have a0 := cell_keep c50 hS; have a1 := cell_keep c51 hS; have a2 := cell_keep c52 hS; have a3 := cell_keep c53 hS; clear hS hSw; go_simp)
 simp only [at8o_17, Act.put, sA, sB, sC]
 refine tk 20 at8o_20 (.agg #[.int .u64 (g 6).x0, .int .u64 (g 6).x1, .int .u64 (g 6).x2, .int .u64 (g 6).x3]) rfl (by kernel_rfl) hH0 rfl (fun w0 hSw => ?_) ?_
 ·(unfold at8o_20; have hS : Below W.heap.size W w0 := hSw; have a0 := cell_keep c60 hS; have a1 := cell_keep c61 hS; have a2 := cell_keep c62 hS; have a3 := cell_keep c63 hS; clear hS hSw; go_simp)
 simp only [at8o_20, Act.put, sA, sB, sC]
 refine tk 23 at8o_23 (.agg #[.int .u64 (g 7).x0, .int .u64 (g 7).x1, .int .u64 (g 7).x2, .int .u64 (g 7).x3]) rfl (by kernel_rfl) hH0 rfl (fun w0 hSw => ?_) ?_
 ·(unfold at8o_23; have hS : Below W.heap.size W w0 := hSw; have a0 := cell_keep c70 hS; have a1 := cell_keep c71 hS; have a2 := cell_keep c72 hS; have a3 := cell_keep c73 hS; clear hS hSw; go_simp)
 simp only [at8o_23, Act.put, sA, sB, sC]
 refine tk 24 at8o_24 (.agg (t34 g (.slice none 0 0) (.slice none 0 0)).toArray) rfl (by kernel_rfl) hH0 rfl (fun w0 hSw => ?_) ?_
 ·(unfold at8o_24; kernel_rfl)
 simp only [at8o_24, Act.put, sA, sB, sC]
 refine wpAnyH_ready (rs := [25]) (by kernel_rfl) (by simp) ?_
 refine AllReadyH.cons (o := at8o_25) rfl (fun K hK => ?_) AllReadyH.nil
 unfold at8o_25
 have HH := hidden hH0
 clear hH0
 refine wp_allocX (T := 35) tz34 (fun w => ptzv w) rfl (fun T wn1 hT hB hth hrg => ?_)
 have SN := hidden (bl_trans HH.out hB)
 have TH := hidden ((hth : World.there wn1 T 0 34))
 have TG := hidden ((by rw [hT]; exact HH.out.size : W.heap.size ≤ T))
 clear HH hT hB hth hrg
 simp only [Act.put, sA, sB, sC]
 refine hK.out _ _ SN.out (fun hH1 => ?_)
 clear hK K SN
 refine wpAnyH_ready (rs := [26]) (by kernel_rfl) (by simp) ?_
 refine AllReadyH.cons (o := at8o_26) rfl (fun K hK => ?_) AllReadyH.nil
 unfold at8o_26
 have HH := hidden hH1
 clear hH1
 refine wp_storeE 35 _ _ rfl T 0 (t34 g (.slice none 0 0) (.slice none 0 0)) (by rfl) (by rfl) TH.out ptinfo (t34_one _ _ _ _ _ _ _) rfl (fun wn2 hw => ?_)
 have SN := hidden (below_setCellsM T (t34 g (.slice none 0 0) (.slice none 0 0)) 0 HH.out TG.out)
 have RG := hidden ((by rw [hw]; exact World.rangeAt_setCells_same _ T 0 _ TH.out : World.rangeAt wn2 T 0 (t34 g (.slice none 0 0) (.slice none 0 0))))
 have TH2 := hidden ((by rw [hw]; exact there_setM TH.out T _ : World.there wn2 T 0 34))
 rw [← hw] at SN
 clear HH hw
 refine hK.out _ _ SN.out (fun hH2 => ?_)
 clear hK K SN
 have HH := hidden hH2
 have FQ := hidden (HQ.out _ T TG.out HH.out RG.out TH2.out)
 refine wpAnyH_done (by kernel_rfl) ?_ _
 refine NoPanic.normal ?_
 exact FQ.out
def ar5o_0 : Oper := { dst := some 23, op := Op.move (Operand.tmp 7), type := 44, pos := "ref.go:63", after := #[], guard := none }
def ar5o_1 : Oper := { dst := some 24, op := Op.indexAddr 44 (Operand.tmp 23) (Operand.const (Value.int IntKind.i64 0)), type := 0, pos := "ref.go:63", after := #[{ on := 0, ground := Ground.data }], guard := none }
def ar5o_2 : Oper := { dst := some 25, op := Op.load 43 (Operand.tmp 24), type := 43, pos := "ref.go:63", after := #[{ on := 1, ground := Ground.data }], guard := none }
def ar5o_3 : Oper := { dst := some 26, op := Op.move (Operand.tmp 7), type := 44, pos := "ref.go:63", after := #[], guard := none }
def ar5o_4 : Oper := { dst := some 27, op := Op.indexAddr 44 (Operand.tmp 26) (Operand.const (Value.int IntKind.i64 1)), type := 0, pos := "ref.go:63", after := #[{ on := 3, ground := Ground.data }], guard := none }
def ar5o_5 : Oper := { dst := some 28, op := Op.load 43 (Operand.tmp 27), type := 43, pos := "ref.go:63", after := #[{ on := 4, ground := Ground.data }], guard := none }
def ar5o_6 : Oper := { dst := some 29, op := Op.move (Operand.tmp 7), type := 44, pos := "ref.go:63", after := #[], guard := none }
def ar5o_7 : Oper := { dst := some 30, op := Op.indexAddr 44 (Operand.tmp 29) (Operand.const (Value.int IntKind.i64 2)), type := 0, pos := "ref.go:63", after := #[{ on := 6, ground := Ground.data }], guard := none }
def ar5o_8 : Oper := { dst := some 31, op := Op.load 43 (Operand.tmp 30), type := 43, pos := "ref.go:63", after := #[{ on := 7, ground := Ground.data }], guard := none }
def ar5o_9 : Oper := { dst := some 32, op := Op.move (Operand.tmp 7), type := 44, pos := "ref.go:63", after := #[], guard := none }
def ar5o_10 : Oper := { dst := some 33, op := Op.indexAddr 44 (Operand.tmp 32) (Operand.const (Value.int IntKind.i64 3)), type := 0, pos := "ref.go:63", after := #[{ on := 9, ground := Ground.data }], guard := none }
def ar5o_11 : Oper := { dst := some 34, op := Op.load 43 (Operand.tmp 33), type := 43, pos := "ref.go:63", after := #[{ on := 10, ground := Ground.data }], guard := none }
def ar5o_12 : Oper := { dst := some 35, op := Op.move (Operand.tmp 7), type := 44, pos := "ref.go:63", after := #[], guard := none }
def ar5o_13 : Oper := { dst := some 36, op := Op.indexAddr 44 (Operand.tmp 35) (Operand.const (Value.int IntKind.i64 4)), type := 0, pos := "ref.go:63", after := #[{ on := 12, ground := Ground.data }], guard := none }
def ar5o_14 : Oper := { dst := some 37, op := Op.load 43 (Operand.tmp 36), type := 43, pos := "ref.go:63", after := #[{ on := 13, ground := Ground.data }], guard := none }
def ar5o_15 : Oper := { dst := some 38, op := Op.move (Operand.tmp 7), type := 44, pos := "ref.go:63", after := #[], guard := none }
def ar5o_16 : Oper := { dst := some 39, op := Op.indexAddr 44 (Operand.tmp 38) (Operand.const (Value.int IntKind.i64 5)), type := 0, pos := "ref.go:63", after := #[{ on := 15, ground := Ground.data }], guard := none }
def ar5o_17 : Oper := { dst := some 40, op := Op.load 43 (Operand.tmp 39), type := 43, pos := "ref.go:63", after := #[{ on := 16, ground := Ground.data }], guard := none }
def ar5o_18 : Oper := { dst := some 41, op := Op.move (Operand.tmp 7), type := 44, pos := "ref.go:63", after := #[], guard := none }
def ar5o_19 : Oper := { dst := some 42, op := Op.indexAddr 44 (Operand.tmp 41) (Operand.const (Value.int IntKind.i64 6)), type := 0, pos := "ref.go:63", after := #[{ on := 18, ground := Ground.data }], guard := none }
def ar5o_20 : Oper := { dst := some 43, op := Op.load 43 (Operand.tmp 42), type := 43, pos := "ref.go:63", after := #[{ on := 19, ground := Ground.data }], guard := none }
def ar5o_21 : Oper := { dst := some 44, op := Op.move (Operand.tmp 7), type := 44, pos := "ref.go:63", after := #[], guard := none }
def ar5o_22 : Oper := { dst := some 45, op := Op.indexAddr 44 (Operand.tmp 44) (Operand.const (Value.int IntKind.i64 7)), type := 0, pos := "ref.go:63", after := #[{ on := 21, ground := Ground.data }], guard := none }
def ar5o_23 : Oper := { dst := some 46, op := Op.load 43 (Operand.tmp 45), type := 43, pos := "ref.go:63", after := #[{ on := 22, ground := Ground.data }], guard := none }
def ar5o_24 : Oper := { dst := some 47, op := Op.move (Operand.tmp 7), type := 44, pos := "ref.go:63", after := #[], guard := none }
def ar5o_25 : Oper := { dst := some 48, op := Op.move (Operand.tmp 6), type := 3, pos := "ref.go:63", after := #[], guard := none }
def ar5o_26 : Oper := { dst := some 49, op := Op.binOp BinOp.add 3 (Operand.const (Value.int IntKind.i64 8)) (Operand.tmp 48) 3, type := 3, pos := "ref.go:63", after := #[{ on := 25, ground := Ground.data }], guard := none }
def ar5o_27 : Oper := { dst := some 50, op := Op.slice 44 (Operand.tmp 47) (some (Operand.const (Value.int IntKind.i64 8))) (some (Operand.tmp 49)) none, type := 44, pos := "ref.go:63", after := #[{ on := 24, ground := Ground.data }, { on := 26, ground := Ground.data }], guard := none }
def ar5o_28 : Oper := { dst := some 51, op := Op.move (Operand.tmp 7), type := 44, pos := "ref.go:63", after := #[], guard := none }
def ar5o_29 : Oper := { dst := some 52, op := Op.move (Operand.tmp 6), type := 3, pos := "ref.go:63", after := #[], guard := none }
def ar5o_30 : Oper := { dst := some 53, op := Op.binOp BinOp.add 3 (Operand.const (Value.int IntKind.i64 8)) (Operand.tmp 52) 3, type := 3, pos := "ref.go:63", after := #[{ on := 29, ground := Ground.data }], guard := none }
def ar5o_31 : Oper := { dst := some 54, op := Op.move (Operand.tmp 6), type := 3, pos := "ref.go:63", after := #[], guard := none }
def ar5o_32 : Oper := { dst := some 55, op := Op.binOp BinOp.mul 3 (Operand.const (Value.int IntKind.i64 2)) (Operand.tmp 54) 3, type := 3, pos := "ref.go:63", after := #[{ on := 31, ground := Ground.data }], guard := none }
def ar5o_33 : Oper := { dst := some 56, op := Op.binOp BinOp.add 3 (Operand.const (Value.int IntKind.i64 8)) (Operand.tmp 55) 3, type := 3, pos := "ref.go:63", after := #[{ on := 32, ground := Ground.data }], guard := none }
def ar5o_34 : Oper := { dst := some 57, op := Op.slice 44 (Operand.tmp 51) (some (Operand.tmp 53)) (some (Operand.tmp 56)) none, type := 44, pos := "ref.go:63", after := #[{ on := 28, ground := Ground.data }, { on := 30, ground := Ground.data }, { on := 33, ground := Ground.data }], guard := none }
def ar5o_35 : Oper := { dst := some 58, op := Op.build 46 #[(0, Operand.tmp 25), (1, Operand.tmp 28), (2, Operand.tmp 31), (3, Operand.tmp 34), (4, Operand.tmp 37), (5, Operand.tmp 40), (6, Operand.tmp 43), (7, Operand.tmp 46), (8, Operand.tmp 50), (9, Operand.tmp 57)], type := 46, pos := "ref.go:63", after := #[{ on := 2, ground := Ground.data }, { on := 5, ground := Ground.data }, { on := 8, ground := Ground.data }, { on := 11, ground := Ground.data }, { on := 14, ground := Ground.data }, { on := 17, ground := Ground.data }, { on := 20, ground := Ground.data }, { on := 23, ground := Ground.data }, { on := 27, ground := Ground.data }, { on := 34, ground := Ground.data }], guard := none }
def ar5o_36 : Oper := { dst := none, op := Op.store 46 (Operand.tmp 4) (Operand.tmp 58), type := 0, pos := "ref.go:63", after := #[{ on := 35, ground := Ground.data }, { on := 0, ground := Ground.phase }, { on := 1, ground := Ground.phase }, { on := 2, ground := Ground.phase }, { on := 3, ground := Ground.phase }, { on := 4, ground := Ground.phase }, { on := 5, ground := Ground.phase }, { on := 6, ground := Ground.phase }, { on := 7, ground := Ground.phase }, { on := 8, ground := Ground.phase }, { on := 9, ground := Ground.phase }, { on := 10, ground := Ground.phase }, { on := 11, ground := Ground.phase }, { on := 12, ground := Ground.phase }, { on := 13, ground := Ground.phase }, { on := 14, ground := Ground.phase }, { on := 15, ground := Ground.phase }, { on := 16, ground := Ground.phase }, { on := 17, ground := Ground.phase }, { on := 18, ground := Ground.phase }, { on := 19, ground := Ground.phase }, { on := 20, ground := Ground.phase }, { on := 21, ground := Ground.phase }, { on := 22, ground := Ground.phase }, { on := 23, ground := Ground.phase }, { on := 24, ground := Ground.phase }, { on := 25, ground := Ground.phase }, { on := 26, ground := Ground.phase }, { on := 27, ground := Ground.phase }, { on := 28, ground := Ground.phase }, { on := 29, ground := Ground.phase }, { on := 30, ground := Ground.phase }, { on := 31, ground := Ground.phase }, { on := 32, ground := Ground.phase }, { on := 33, ground := Ground.phase }, { on := 34, ground := Ground.phase }, { on := 35, ground := Ground.phase }], guard := none }
def ar5o_37 : Oper := { dst := some 5, op := Op.assign (Operand.const (Value.int IntKind.i64 0)), type := 36, pos := "ref.go:63", after := #[{ on := 36, ground := Ground.chain }, { on := 0, ground := Ground.phase }, { on := 1, ground := Ground.phase }, { on := 2, ground := Ground.phase }, { on := 3, ground := Ground.phase }, { on := 4, ground := Ground.phase }, { on := 5, ground := Ground.phase }, { on := 6, ground := Ground.phase }, { on := 7, ground := Ground.phase }, { on := 8, ground := Ground.phase }, { on := 9, ground := Ground.phase }, { on := 10, ground := Ground.phase }, { on := 11, ground := Ground.phase }, { on := 12, ground := Ground.phase }, { on := 13, ground := Ground.phase }, { on := 14, ground := Ground.phase }, { on := 15, ground := Ground.phase }, { on := 16, ground := Ground.phase }, { on := 17, ground := Ground.phase }, { on := 18, ground := Ground.phase }, { on := 19, ground := Ground.phase }, { on := 20, ground := Ground.phase }, { on := 21, ground := Ground.phase }, { on := 22, ground := Ground.phase }, { on := 23, ground := Ground.phase }, { on := 24, ground := Ground.phase }, { on := 25, ground := Ground.phase }, { on := 26, ground := Ground.phase }, { on := 27, ground := Ground.phase }, { on := 28, ground := Ground.phase }, { on := 29, ground := Ground.phase }, { on := 30, ground := Ground.phase }, { on := 31, ground := Ground.phase }, { on := 32, ground := Ground.phase }, { on := 33, ground := Ground.phase }, { on := 34, ground := Ground.phase }, { on := 35, ground := Ground.phase }, { on := 36, ground := Ground.phase }], guard := none }
def ar5o : Array Oper := #[ar5o_0, ar5o_1, ar5o_2, ar5o_3, ar5o_4, ar5o_5, ar5o_6, ar5o_7, ar5o_8, ar5o_9, ar5o_10, ar5o_11, ar5o_12, ar5o_13, ar5o_14, ar5o_15, ar5o_16, ar5o_17, ar5o_18, ar5o_19, ar5o_20, ar5o_21, ar5o_22, ar5o_23, ar5o_24, ar5o_25, ar5o_26, ar5o_27, ar5o_28, ar5o_29, ar5o_30, ar5o_31, ar5o_32, ar5o_33, ar5o_34, ar5o_35, ar5o_36, ar5o_37]
set_option maxRecDepth 100000 in
set_option maxHeartbeats 16000000 in
theorem ar5 (Q : Exit → Act → World → Prop) (T b n m c p1 p2 p3 : Nat) (g : Nat → E4) (u0 u1 u2 u3 u5 u8 u9 u10 u11 u12 u13 u14 u15 u16 u17 u18 u19 u20 u21 u22 u23 u24 u25 u26 u27 u28 u29 u30 u31 u32 u33 u34 u35 u36 u37 u38 u39 u40 u41 u42 u43 u44 u45 u46 u47 u48 u49 u50 u51 u52 u53 u54 u55 u56 u57 u58 : Value) (W : World)
  (nT : b ≠ T) (ht : W.there T 0 34) (hm : m = 2 * n + 8) (hcap : m ≤ c) (hn : n ≤ 1024) (h1 : 0 < n) (e1 : p1 = n + 8) (e2 : p2 = 2 * n) (e3 : p3 = 2 * n + 8)
  (c00 : W.cell? ⟨b, 0, none⟩ = some (.int .u64 (g 0).x0)) (c01 : W.cell? ⟨b, 1, none⟩ = some (.int .u64 (g 0).x1)) (c02 : W.cell? ⟨b, 2, none⟩ = some (.int .u64 (g 0).x2)) (c03 : W.cell? ⟨b, 3, none⟩ = some (.int .u64 (g 0).x3))
  (c10 : W.cell? ⟨b, 4, none⟩ = some (.int .u64 (g 1).x0)) (c11 : W.cell? ⟨b, 5, none⟩ = some (.int .u64 (g 1).x1)) (c12 : W.cell? ⟨b, 6, none⟩ = some (.int .u64 (g 1).x2)) (c13 : W.cell? ⟨b, 7, none⟩ = some (.int .u64 (g 1).x3))
  (c20 : W.cell? ⟨b, 8, none⟩ = some (.int .u64 (g 2).x0)) (c21 : W.cell? ⟨b, 9, none⟩ = some (.int .u64 (g 2).x1)) (c22 : W.cell? ⟨b, 10, none⟩ = some (.int .u64 (g 2).x2)) (c23 : W.cell? ⟨b, 11, none⟩ = some (.int .u64 (g 2).x3))
  (c30 : W.cell? ⟨b, 12, none⟩ = some (.int .u64 (g 3).x0)) (c31 : W.cell? ⟨b, 13, none⟩ = some (.int .u64 (g 3).x1)) (c32 : W.cell? ⟨b, 14, none⟩ = some (.int .u64 (g 3).x2)) (c33 : W.cell? ⟨b, 15, none⟩ = some (.int .u64 (g 3).x3))
  (c40 : W.cell? ⟨b, 16, none⟩ = some (.int .u64 (g 4).x0)) (c41 : W.cell? ⟨b, 17, none⟩ = some (.int .u64 (g 4).x1)) (c42 : W.cell? ⟨b, 18, none⟩ = some (.int .u64 (g 4).x2)) (c43 : W.cell? ⟨b, 19, none⟩ = some (.int .u64 (g 4).x3))
  (c50 : W.cell? ⟨b, 20, none⟩ = some (.int .u64 (g 5).x0)) (c51 : W.cell? ⟨b, 21, none⟩ = some (.int .u64 (g 5).x1)) (c52 : W.cell? ⟨b, 22, none⟩ = some (.int .u64 (g 5).x2)) (c53 : W.cell? ⟨b, 23, none⟩ = some (.int .u64 (g 5).x3))
  (c60 : W.cell? ⟨b, 24, none⟩ = some (.int .u64 (g 6).x0)) (c61 : W.cell? ⟨b, 25, none⟩ = some (.int .u64 (g 6).x1)) (c62 : W.cell? ⟨b, 26, none⟩ = some (.int .u64 (g 6).x2)) (c63 : W.cell? ⟨b, 27, none⟩ = some (.int .u64 (g 6).x3))
  (c70 : W.cell? ⟨b, 28, none⟩ = some (.int .u64 (g 7).x0)) (c71 : W.cell? ⟨b, 29, none⟩ = some (.int .u64 (g 7).x1)) (c72 : W.cell? ⟨b, 30, none⟩ = some (.int .u64 (g 7).x2)) (c73 : W.cell? ⟨b, 31, none⟩ = some (.int .u64 (g 7).x3))
  (HQ : Hid (∀ (wz : World), wz.rangeAt T 0 (t34 g (.slice (some ⟨b, 32, none⟩) n (c - 8)) (.slice (some ⟨b, p1 * 4, none⟩) n (c - p1))) → (∃ wy, Below W.heap.size W wy ∧ wz = wy.setCells T 0 (t34 g (.slice (some ⟨b, 32, none⟩) n (c - 8)) (.slice (some ⟨b, p1 * 4, none⟩) n (c - p1)))) → Q .normal ⟨#[u0, u1, u2, u3, .pointer (some ⟨T, 0, none⟩), .int .i64 0, .int .i64 (n : Int), .slice (some ⟨b, 0, none⟩) m c, u8, u9, u10, u11, u12, u13, u14, u15, u16, u17, u18, u19, u20, u21, u22, .slice (some ⟨b, 0, none⟩) m c, .pointer (some ⟨b, 0, none⟩), .agg #[.int .u64 (g 0).x0, .int .u64 (g 0).x1, .int .u64 (g 0).x2, .int .u64 (g 0).x3], .slice (some ⟨b, 0, none⟩) m c, .pointer (some ⟨b, 4, none⟩), .agg #[.int .u64 (g 1).x0, .int .u64 (g 1).x1, .int .u64 (g 1).x2, .int .u64 (g 1).x3], .slice (some ⟨b, 0, none⟩) m c, .pointer (some ⟨b, 8, none⟩), .agg #[.int .u64 (g 2).x0, .int .u64 (g 2).x1, .int .u64 (g 2).x2, .int .u64 (g 2).x3], .slice (some ⟨b, 0, none⟩) m c, .pointer (some ⟨b, 12, none⟩), .agg #[.int .u64 (g 3).x0, .int .u64 (g 3).x1, .int .u64 (g 3).x2, .int .u64 (g 3).x3], .slice (some ⟨b, 0, none⟩) m c, .pointer (some ⟨b, 16, none⟩), .agg #[.int .u64 (g 4).x0, .int .u64 (g 4).x1, .int .u64 (g 4).x2, .int .u64 (g 4).x3], .slice (some ⟨b, 0, none⟩) m c, .pointer (some ⟨b, 20, none⟩), .agg #[.int .u64 (g 5).x0, .int .u64 (g 5).x1, .int .u64 (g 5).x2, .int .u64 (g 5).x3], .slice (some ⟨b, 0, none⟩) m c, .pointer (some ⟨b, 24, none⟩), .agg #[.int .u64 (g 6).x0, .int .u64 (g 6).x1, .int .u64 (g 6).x2, .int .u64 (g 6).x3], .slice (some ⟨b, 0, none⟩) m c, .pointer (some ⟨b, 28, none⟩), .agg #[.int .u64 (g 7).x0, .int .u64 (g 7).x1, .int .u64 (g 7).x2, .int .u64 (g 7).x3], .slice (some ⟨b, 0, none⟩) m c, .int .i64 (n : Int), .int .i64 (p1 : Int), .slice (some ⟨b, 32, none⟩) n (c - 8), .slice (some ⟨b, 0, none⟩) m c, .int .i64 (n : Int), .int .i64 (p1 : Int), .int .i64 (n : Int), .int .i64 (p2 : Int), .int .i64 (p3 : Int), .slice (some ⟨b, p1 * 4, none⟩) n (c - p1), .agg (t34 g (.slice (some ⟨b, 32, none⟩) n (c - 8)) (.slice (some ⟨b, p1 * 4, none⟩) n (c - p1))).toArray], []⟩ wz)) : (Code.region 5 ar5o true).wp Tryz.prog Q ⟨#[u0, u1, u2, u3, .pointer (some ⟨T, 0, none⟩), u5, .int .i64 (n : Int), .slice (some ⟨b, 0, none⟩) m c, u8, u9, u10, u11, u12, u13, u14, u15, u16, u17, u18, u19, u20, u21, u22, u23, u24, u25, u26, u27, u28, u29, u30, u31, u32, u33, u34, u35, u36, u37, u38, u39, u40, u41, u42, u43, u44, u45, u46, u47, u48, u49, u50, u51, u52, u53, u54, u55, u56, u57, u58], []⟩ W := by
 have TH := hidden (there_keepM ht (bl_drew W))
 have BD := hidden (bl_drew W)
 have w1 : IntKind.i64.wrap (8 + (n : Int)) = (p1 : Int) := by rw [IntWalk.i64_in _ (by omega)]; omega
 have w2 : IntKind.i64.wrap (2 * (n : Int)) = (p2 : Int) := by rw [IntWalk.i64_in _ (by omega)]; omega
 have w3 : IntKind.i64.wrap (8 + (p2 : Int)) = (p3 : Int) := by rw [IntWalk.i64_in _ (by omega)]; omega
 have i00 : ¬ m = 0 := by omega
 have i0 : (0 : Int) < (m : Int) := by omega
 have i1 : (1 : Int) < (m : Int) := by omega
 have i2 : (2 : Int) < (m : Int) := by omega
 have i3 : (3 : Int) < (m : Int) := by omega
 have i4 : (4 : Int) < (m : Int) := by omega
 have i5 : (5 : Int) < (m : Int) := by omega
 have i6 : (6 : Int) < (m : Int) := by omega
 have i7 : (7 : Int) < (m : Int) := by omega
 have s1 : (8 : Int) ≤ (p1 : Int) := by omega
 have s2 : (p1 : Int) ≤ (c : Int) := by omega
 have s3 : (p1 : Int) ≤ (p3 : Int) := by omega
 have s4 : (p3 : Int) ≤ (c : Int) := by omega
 have s5 : p1 - 8 = n := by omega
 have s6 : p3 - p1 = n := by omega
 have s7 : ¬ c = 8 := by omega
 have s8 : ¬ c = p1 := by omega
 have s9 : (c : Int) - 8 = ((c - 8 : Nat) : Int) := by omega
 clear ht hm hn e1 e2 e3 hcap h1
 unfold ar5o
 refine wp_region_noPanic ?_
 refine wp_region_held_drew (S := fun x => W.grownBy x (some T)) (by kernel_rfl) (gbI (bl_drew W) _) (fun hH0 => ?_)
 refine tk 0 ar5o_0 (.slice (some ⟨b, 0, none⟩) m c) rfl (by kernel_rfl) hH0 rfl (fun w0 hSw => ?_) ?_
 ·(unfold ar5o_0; clear hSw; go_simp)
 simp only [ar5o_0, Act.put, sA, sB, sC]
 refine tk 3 ar5o_3 (.slice (some ⟨b, 0, none⟩) m c) rfl (by kernel_rfl) hH0 rfl (fun w0 hSw => ?_) ?_
 ·(unfold ar5o_3; clear hSw; go_simp)
 simp only [ar5o_3, Act.put, sA, sB, sC]
 refine tk 6 ar5o_6 (.slice (some ⟨b, 0, none⟩) m c) rfl (by kernel_rfl) hH0 rfl (fun w0 hSw => ?_) ?_
 ·(unfold ar5o_6; clear hSw; go_simp)
 simp only [ar5o_6, Act.put, sA, sB, sC]
 refine tk 9 ar5o_9 (.slice (some ⟨b, 0, none⟩) m c) rfl (by kernel_rfl) hH0 rfl (fun w0 hSw => ?_) ?_
 ·(unfold ar5o_9; clear hSw; go_simp)
 simp only [ar5o_9, Act.put, sA, sB, sC]
 refine tk 12 ar5o_12 (.slice (some ⟨b, 0, none⟩) m c) rfl (by kernel_rfl) hH0 rfl (fun w0 hSw => ?_) ?_
 ·(unfold ar5o_12; clear hSw; go_simp)
 simp only [ar5o_12, Act.put, sA, sB, sC]
 refine tk 15 ar5o_15 (.slice (some ⟨b, 0, none⟩) m c) rfl (by kernel_rfl) hH0 rfl (fun w0 hSw => ?_) ?_
 ·(unfold ar5o_15; clear hSw; go_simp)
 simp only [ar5o_15, Act.put, sA, sB, sC]
 refine tk 18 ar5o_18 (.slice (some ⟨b, 0, none⟩) m c) rfl (by kernel_rfl) hH0 rfl (fun w0 hSw => ?_) ?_
 ·(unfold ar5o_18; clear hSw; go_simp)
 simp only [ar5o_18, Act.put, sA, sB, sC]
 refine tk 21 ar5o_21 (.slice (some ⟨b, 0, none⟩) m c) rfl (by kernel_rfl) hH0 rfl (fun w0 hSw => ?_) ?_
 ·(unfold ar5o_21; clear hSw; go_simp)
 simp only [ar5o_21, Act.put, sA, sB, sC]
 refine tk 24 ar5o_24 (.slice (some ⟨b, 0, none⟩) m c) rfl (by kernel_rfl) hH0 rfl (fun w0 hSw => ?_) ?_
 ·(unfold ar5o_24; clear hSw; go_simp)
 simp only [ar5o_24, Act.put, sA, sB, sC]
 refine tk 25 ar5o_25 (.int .i64 (n : Int)) rfl (by kernel_rfl) hH0 rfl (fun w0 hSw => ?_) ?_
 ·(unfold ar5o_25; clear hSw; go_simp)
 simp only [ar5o_25, Act.put, sA, sB, sC]
 refine tk 28 ar5o_28 (.slice (some ⟨b, 0, none⟩) m c) rfl (by kernel_rfl) hH0 rfl (fun w0 hSw => ?_) ?_
 ·(unfold ar5o_28; clear hSw; go_simp)
 simp only [ar5o_28, Act.put, sA, sB, sC]
 refine tk 29 ar5o_29 (.int .i64 (n : Int)) rfl (by kernel_rfl) hH0 rfl (fun w0 hSw => ?_) ?_
 ·(unfold ar5o_29; clear hSw; go_simp)
 simp only [ar5o_29, Act.put, sA, sB, sC]
 refine tk 31 ar5o_31 (.int .i64 (n : Int)) rfl (by kernel_rfl) hH0 rfl (fun w0 hSw => ?_) ?_
 ·(unfold ar5o_31; clear hSw; go_simp)
 simp only [ar5o_31, Act.put, sA, sB, sC]
 refine tk 1 ar5o_1 (.pointer (some ⟨b, 0, none⟩)) rfl (by kernel_rfl) hH0 rfl (fun w0 hSw => ?_) ?_
 ·(unfold ar5o_1; clear hSw; go_simp)
 simp only [ar5o_1, Act.put, sA, sB, sC]
 refine tk 4 ar5o_4 (.pointer (some ⟨b, 4, none⟩)) rfl (by kernel_rfl) hH0 rfl (fun w0 hSw => ?_) ?_
 ·(unfold ar5o_4; clear hSw; go_simp)
 simp only [ar5o_4, Act.put, sA, sB, sC]
 refine tk 7 ar5o_7 (.pointer (some ⟨b, 8, none⟩)) rfl (by kernel_rfl) hH0 rfl (fun w0 hSw => ?_) ?_
 ·(unfold ar5o_7; clear hSw; go_simp)
 simp only [ar5o_7, Act.put, sA, sB, sC]
 refine tk 10 ar5o_10 (.pointer (some ⟨b, 12, none⟩)) rfl (by kernel_rfl) hH0 rfl (fun w0 hSw => ?_) ?_
 ·(unfold ar5o_10; clear hSw; go_simp)
 simp only [ar5o_10, Act.put, sA, sB, sC]
 refine tk 13 ar5o_13 (.pointer (some ⟨b, 16, none⟩)) rfl (by kernel_rfl) hH0 rfl (fun w0 hSw => ?_) ?_
 ·(unfold ar5o_13; clear hSw; go_simp)
 simp only [ar5o_13, Act.put, sA, sB, sC]
 refine tk 16 ar5o_16 (.pointer (some ⟨b, 20, none⟩)) rfl (by kernel_rfl) hH0 rfl (fun w0 hSw => ?_) ?_
 ·(unfold ar5o_16; clear hSw; go_simp)
 simp only [ar5o_16, Act.put, sA, sB, sC]
 refine tk 19 ar5o_19 (.pointer (some ⟨b, 24, none⟩)) rfl (by kernel_rfl) hH0 rfl (fun w0 hSw => ?_) ?_
 ·(unfold ar5o_19; clear hSw; go_simp)
 simp only [ar5o_19, Act.put, sA, sB, sC]
 refine tk 22 ar5o_22 (.pointer (some ⟨b, 28, none⟩)) rfl (by kernel_rfl) hH0 rfl (fun w0 hSw => ?_) ?_
 ·(unfold ar5o_22; clear hSw; go_simp)
 simp only [ar5o_22, Act.put, sA, sB, sC]
 refine tk 26 ar5o_26 (.int .i64 (p1 : Int)) rfl (by kernel_rfl) hH0 rfl (fun w0 hSw => ?_) ?_
 ·(unfold ar5o_26; clear hSw; go_simp)
 simp only [ar5o_26, Act.put, sA, sB, sC]
 refine tk 30 ar5o_30 (.int .i64 (p1 : Int)) rfl (by kernel_rfl) hH0 rfl (fun w0 hSw => ?_) ?_
 ·(unfold ar5o_30; clear hSw; go_simp)
 simp only [ar5o_30, Act.put, sA, sB, sC]
 refine tk 32 ar5o_32 (.int .i64 (p2 : Int)) rfl (by kernel_rfl) hH0 rfl (fun w0 hSw => ?_) ?_
 ·(unfold ar5o_32; clear hSw; go_simp)
 simp only [ar5o_32, Act.put, sA, sB, sC]
 refine tk 2 ar5o_2 (.agg #[.int .u64 (g 0).x0, .int .u64 (g 0).x1, .int .u64 (g 0).x2, .int .u64 (g 0).x3]) rfl (by kernel_rfl) hH0 rfl (fun w0 hSw => ?_) ?_
 ·(unfold ar5o_2; have hS : W.grownBy w0 (some T) := hSw; have a0 := hS.cell c00 (fun e => nT (Option.some.inj e)); have a1 := hS.cell c01 (fun e => nT (Option.some.inj e)); have a2 := hS.cell c02 (fun e => nT (Option.some.inj e)); have a3 := hS.cell c03 (fun e => nT (Option.some.inj e)); clear hS hSw; go_simp)
 simp only [ar5o_2, Act.put, sA, sB, sC]
 refine tk 5 ar5o_5 (.agg #[.int .u64 (g 1).x0, .int .u64 (g 1).x1, .int .u64 (g 1).x2, .int .u64 (g 1).x3]) rfl (by kernel_rfl) hH0 rfl (fun w0 hSw => ?_) ?_
 ·(unfold ar5o_5; have hS : W.grownBy w0 (some T) := hSw; have a0 := hS.cell c10 (fun e => nT (Option.some.inj e)); have a1 := hS.cell c11 (fun e => nT (Option.some.inj e)); have a2 := hS.cell c12 (fun e => nT (Option.some.inj e)); have a3 := hS.cell c13 (fun e => nT (Option.some.inj e)); clear hS hSw; go_simp)
 simp only [ar5o_5, Act.put, sA, sB, sC]
 refine tk 8 ar5o_8 (.agg #[.int .u64 (g 2).x0, .int .u64 (g 2).x1, .int .u64 (g 2).x2, .int .u64 (g 2).x3]) rfl (by kernel_rfl) hH0 rfl (fun w0 hSw => ?_) ?_
 ·(unfold ar5o_8; have hS : W.grownBy w0 (some T) := hSw; have a0 := hS.cell c20 (fun e => nT (Option.some.inj e)); have a1 := hS.cell c21 (fun e => nT (Option.some.inj e)); have a2 := hS.cell c22 (fun e => nT (Option.some.inj e)); have a3 := hS.cell c23 (fun e => nT (Option.some.inj e)); clear hS hSw; go_simp)
 simp only [ar5o_8, Act.put, sA, sB, sC]
 refine tk 11 ar5o_11 (.agg #[.int .u64 (g 3).x0, .int .u64 (g 3).x1, .int .u64 (g 3).x2, .int .u64 (g 3).x3]) rfl (by kernel_rfl) hH0 rfl (fun w0 hSw => ?_) ?_
 ·(unfold ar5o_11; have hS : W.grownBy w0 (some T) := hSw; have a0 := hS.cell c30 (fun e => nT (Option.some.inj e)); have a1 := hS.cell c31 (fun e => nT (Option.some.inj e)); have a2 := hS.cell c32 (fun e => nT (Option.some.inj e)); have a3 := hS.cell c33 (fun e => nT (Option.some.inj e)); clear hS hSw; go_simp)
 simp only [ar5o_11, Act.put, sA, sB, sC]
 refine tk 14 ar5o_14 (.agg #[.int .u64 (g 4).x0, .int .u64 (g 4).x1, .int .u64 (g 4).x2, .int .u64 (g 4).x3]) rfl (by kernel_rfl) hH0 rfl (fun w0 hSw => ?_) ?_
 ·(unfold ar5o_14; have hS : W.grownBy w0 (some T) := hSw; have a0 := hS.cell c40 (fun e => nT (Option.some.inj e)); have a1 := hS.cell c41 (fun e => nT (Option.some.inj e)); have a2 := hS.cell c42 (fun e => nT (Option.some.inj e)); have a3 := hS.cell c43 (fun e => nT (Option.some.inj e)); clear hS hSw; go_simp)
 simp only [ar5o_14, Act.put, sA, sB, sC]
 refine tk 17 ar5o_17 (.agg #[.int .u64 (g 5).x0, .int .u64 (g 5).x1, .int .u64 (g 5).x2, .int .u64 (g 5).x3]) rfl (by kernel_rfl) hH0 rfl (fun w0 hSw => ?_) ?_
 ·(unfold ar5o_17; have hS : W.grownBy w0 (some T) := hSw; have a0 := hS.cell c50 (fun e => nT (Option.some.inj e)); have a1 := hS.cell c51 (fun e => nT (Option.some.inj e)); have a2 := hS.cell c52 (fun e => nT (Option.some.inj e)); have a3 := hS.cell c53 (fun e => nT (Option.some.inj e)); clear hS hSw; go_simp)
 simp only [ar5o_17, Act.put, sA, sB, sC]
 refine tk 20 ar5o_20 (.agg #[.int .u64 (g 6).x0, .int .u64 (g 6).x1, .int .u64 (g 6).x2, .int .u64 (g 6).x3]) rfl (by kernel_rfl) hH0 rfl (fun w0 hSw => ?_) ?_
 ·(unfold ar5o_20; have hS : W.grownBy w0 (some T) := hSw; have a0 := hS.cell c60 (fun e => nT (Option.some.inj e)); have a1 := hS.cell c61 (fun e => nT (Option.some.inj e)); have a2 := hS.cell c62 (fun e => nT (Option.some.inj e)); have a3 := hS.cell c63 (fun e => nT (Option.some.inj e)); clear hS hSw; go_simp)
 simp only [ar5o_20, Act.put, sA, sB, sC]
 refine tk 23 ar5o_23 (.agg #[.int .u64 (g 7).x0, .int .u64 (g 7).x1, .int .u64 (g 7).x2, .int .u64 (g 7).x3]) rfl (by kernel_rfl) hH0 rfl (fun w0 hSw => ?_) ?_
 ·(unfold ar5o_23; have hS : W.grownBy w0 (some T) := hSw; have a0 := hS.cell c70 (fun e => nT (Option.some.inj e)); have a1 := hS.cell c71 (fun e => nT (Option.some.inj e)); have a2 := hS.cell c72 (fun e => nT (Option.some.inj e)); have a3 := hS.cell c73 (fun e => nT (Option.some.inj e)); clear hS hSw; go_simp)
 simp only [ar5o_23, Act.put, sA, sB, sC]
 refine tk 27 ar5o_27 (.slice (some ⟨b, 32, none⟩) n (c - 8)) rfl (by kernel_rfl) hH0 rfl (fun w0 hSw => ?_) ?_
 ·(unfold ar5o_27; clear hSw; go_simp)
 simp only [ar5o_27, Act.put, sA, sB, sC]
 refine tk 33 ar5o_33 (.int .i64 (p3 : Int)) rfl (by kernel_rfl) hH0 rfl (fun w0 hSw => ?_) ?_
 ·(unfold ar5o_33; clear hSw; go_simp)
 simp only [ar5o_33, Act.put, sA, sB, sC]
 refine tk 34 ar5o_34 (.slice (some ⟨b, p1 * 4, none⟩) n (c - p1)) rfl (by kernel_rfl) hH0 rfl (fun w0 hSw => ?_) ?_
 ·(unfold ar5o_34; clear hSw; go_simp)
 simp only [ar5o_34, Act.put, sA, sB, sC]
 refine tk 35 ar5o_35 (.agg (t34 g (.slice (some ⟨b, 32, none⟩) n (c - 8)) (.slice (some ⟨b, p1 * 4, none⟩) n (c - p1))).toArray) rfl (by kernel_rfl) hH0 rfl (fun w0 hSw => ?_) ?_
 ·(unfold ar5o_35; kernel_rfl)
 simp only [ar5o_35, Act.put, sA, sB, sC]
 refine wpAnyH_ready (rs := [36]) (by kernel_rfl) (by simp) ?_
 refine AllReadyH.cons (o := ar5o_36) rfl (fun K hK => ?_) AllReadyH.nil
 unfold ar5o_36
 have HH := hidden hH0
 clear hH0
 refine wp_storeE 46 _ _ rfl T 0 (t34 g (.slice (some ⟨b, 32, none⟩) n (c - 8)) (.slice (some ⟨b, p1 * 4, none⟩) n (c - p1))) (by rfl) (by rfl) TH.out rtinfo (t34_one _ _ _ _ _ _ _) rfl (fun wn1 hw => ?_)
 have SN := hidden (HH.out.trans (gb_setCells T (t34 g (.slice (some ⟨b, 32, none⟩) n (c - 8)) (.slice (some ⟨b, p1 * 4, none⟩) n (c - p1))) 0 _))
 have RG := hidden ((by rw [hw]; exact World.rangeAt_setCells_same _ T 0 _ TH.out : World.rangeAt wn1 T 0 (t34 g (.slice (some ⟨b, 32, none⟩) n (c - 8)) (.slice (some ⟨b, p1 * 4, none⟩) n (c - p1)))))
 have BB := hidden ((⟨_, BD.out, hw⟩ : ∃ wy, Below W.heap.size W wy ∧ wn1 = wy.setCells T 0 (t34 g (.slice (some ⟨b, 32, none⟩) n (c - 8)) (.slice (some ⟨b, p1 * 4, none⟩) n (c - p1)))))
 rw [← hw] at SN
 clear HH hw
 refine hK.out _ _ SN.out (fun hH1 => ?_)
 clear hK K SN
 refine tk 37 ar5o_37 (.int .i64 0) rfl (by kernel_rfl) hH1 rfl (fun w0 hSw => ?_) ?_
 ·(unfold ar5o_37; clear hSw; go_simp)
 simp only [ar5o_37, Act.put, sA, sB, sC]
 have HH := hidden hH1
 have FQ := hidden (HQ.out _ RG.out BB.out)
 refine wpAnyH_done (by kernel_rfl) ?_ _
 refine NoPanic.normal ?_
 exact FQ.out
end Go.Proofs.YtkoilaoogphgfaaGreatDoor
