import Derived.Test.YtghcfcglakbkeaaGreatDoorDyez
namespace Go.Proofs.YtghcfcglakbkeaaGreatDoor
set_option maxRecDepth 100000
set_option maxHeartbeats 16000000
open Go.RowKit
set_option linter.unusedVariables false
set_option linter.unusedSimpArgs false
open Cm (Wr Tm co bf Ls lf ins Eqm)
namespace Ci
def pCsh0 : String := "law.go:50"
def is6o_0 : Oper := oO 17 (Op.move (Operand.tmp 0)) 38 pCsh0 #[]
def is6o_1 : Oper := oO 18 (Op.move (Operand.tmp 5)) 3 pCsh0 #[]
def is6o_2 : Oper := oO 19 (Op.indexAddr 38 (Operand.tmp 17) (Operand.tmp 18)) 0 pCsh0 #[DD 0, DD 1]
def is6o_3 : Oper := oO 20 (Op.fieldAddr 123 (Operand.tmp 19) 0) 0 pCsh0 #[DD 2]
def is6o_4 : Oper := oO 21 (Op.fieldAddr 79 (Operand.tmp 20) 0) 0 pCsh0 #[DD 3]
def is6o_5 : Oper := oO 22 (Op.load 3 (Operand.tmp 21)) 3 pCsh0 #[DD 4]
def is6o_6 : Oper := oO 23 (Op.move (Operand.tmp 1)) 72 pCsh0 #[]
def is6o_7 : Oper := oO 24 (Op.move (Operand.tmp 5)) 3 pCsh0 #[]
def is6o_8 : Oper := oO 25 (Op.indexAddr 72 (Operand.tmp 23) (Operand.tmp 24)) 0 pCsh0 #[DD 6, DD 7]
def is6o_9 : Oper := oO 26 (Op.fieldAddr 116 (Operand.tmp 25) 0) 0 pCsh0 #[DD 8]
def is6o_10 : Oper := oO 27 (Op.fieldAddr 67 (Operand.tmp 26) 0) 0 pCsh0 #[DD 9]
def is6o_11 : Oper := oO 28 (Op.load 3 (Operand.tmp 27)) 3 pCsh0 #[DD 10]
def is6o_12 : Oper := oO 29 (Op.binOp BinOp.neq 3 (Operand.tmp 22) (Operand.tmp 28) 3) 4 pCsh0 #[DD 5, DD 11]
def is6o_13 : Oper := oO 30 (Op.move (Operand.tmp 29)) 4 pCsh0 #[DD 12]
def is6o_14 : Oper := { dst := some 31, op := Op.move (Operand.tmp 0), type := 38, pos := "law.go:50", after := #[GU 13], guard := some (13, false) }
def is6o_15 : Oper := { dst := some 32, op := Op.move (Operand.tmp 5), type := 3, pos := "law.go:50", after := #[GU 13], guard := some (13, false) }
def is6o_16 : Oper := { dst := some 33, op := Op.indexAddr 38 (Operand.tmp 31) (Operand.tmp 32), type := 0, pos := "law.go:50", after := #[DD 14, DD 15, GU 13], guard := some (13, false) }
def is6o_17 : Oper := { dst := some 34, op := Op.fieldAddr 123 (Operand.tmp 33) 0, type := 0, pos := "law.go:50", after := #[DD 16, GU 13], guard := some (13, false) }
def is6o_18 : Oper := { dst := some 35, op := Op.fieldAddr 79 (Operand.tmp 34) 1, type := 0, pos := "law.go:50", after := #[DD 17, GU 13], guard := some (13, false) }
def is6o_19 : Oper := { dst := some 36, op := Op.load 3 (Operand.tmp 35), type := 3, pos := "law.go:50", after := #[DD 18, GU 13], guard := some (13, false) }
def is6o_20 : Oper := { dst := some 37, op := Op.move (Operand.tmp 1), type := 72, pos := "law.go:50", after := #[GU 13], guard := some (13, false) }
def is6o_21 : Oper := { dst := some 38, op := Op.move (Operand.tmp 5), type := 3, pos := "law.go:50", after := #[GU 13], guard := some (13, false) }
def is6o_22 : Oper := { dst := some 39, op := Op.indexAddr 72 (Operand.tmp 37) (Operand.tmp 38), type := 0, pos := "law.go:50", after := #[DD 20, DD 21, GU 13], guard := some (13, false) }
def is6o_23 : Oper := { dst := some 40, op := Op.fieldAddr 116 (Operand.tmp 39) 0, type := 0, pos := "law.go:50", after := #[DD 22, GU 13], guard := some (13, false) }
def is6o_24 : Oper := { dst := some 41, op := Op.fieldAddr 67 (Operand.tmp 40) 1, type := 0, pos := "law.go:50", after := #[DD 23, GU 13], guard := some (13, false) }
def is6o_25 : Oper := { dst := some 42, op := Op.load 3 (Operand.tmp 41), type := 3, pos := "law.go:50", after := #[DD 24, GU 13], guard := some (13, false) }
def is6o_26 : Oper := { dst := some 43, op := Op.binOp BinOp.neq 3 (Operand.tmp 36) (Operand.tmp 42) 3, type := 4, pos := "law.go:50", after := #[DD 19, DD 25, GU 13], guard := some (13, false) }
def is6o_27 : Oper := oO 44 (Op.pick (Operand.tmp 30) (Operand.const (Value.bool true)) (Operand.tmp 43)) 4 pCsh0 #[DD 13, DD 26]
def is6o_28 : Oper := oO 45 (Op.move (Operand.tmp 44)) 4 pCsh0 #[DD 27, CH 13]
def is6o_29 : Oper := { dst := some 46, op := Op.move (Operand.tmp 0), type := 38, pos := "law.go:50", after := #[GU 28], guard := some (28, false) }
def is6o_30 : Oper := { dst := some 47, op := Op.move (Operand.tmp 5), type := 3, pos := "law.go:50", after := #[GU 28], guard := some (28, false) }
def is6o_31 : Oper := { dst := some 48, op := Op.indexAddr 38 (Operand.tmp 46) (Operand.tmp 47), type := 0, pos := "law.go:50", after := #[DD 29, DD 30, GU 28], guard := some (28, false) }
def is6o_32 : Oper := { dst := some 49, op := Op.fieldAddr 123 (Operand.tmp 48) 1, type := 0, pos := "law.go:50", after := #[DD 31, GU 28], guard := some (28, false) }
def is6o_33 : Oper := { dst := some 50, op := Op.load 41 (Operand.tmp 49), type := 41, pos := "law.go:50", after := #[DD 32, GU 28], guard := some (28, false) }
def is6o_34 : Oper := { dst := some 51, op := Op.move (Operand.tmp 1), type := 72, pos := "law.go:50", after := #[GU 28], guard := some (28, false) }
def is6o_35 : Oper := { dst := some 52, op := Op.move (Operand.tmp 5), type := 3, pos := "law.go:50", after := #[GU 28], guard := some (28, false) }
def is6o_36 : Oper := { dst := some 53, op := Op.indexAddr 72 (Operand.tmp 51) (Operand.tmp 52), type := 0, pos := "law.go:50", after := #[DD 34, DD 35, GU 28], guard := some (28, false) }
def is6o_37 : Oper := { dst := some 54, op := Op.fieldAddr 116 (Operand.tmp 53) 1, type := 0, pos := "law.go:50", after := #[DD 36, GU 28], guard := some (28, false) }
def is6o_38 : Oper := { dst := some 55, op := Op.load 52 (Operand.tmp 54), type := 52, pos := "law.go:50", after := #[DD 37, GU 28], guard := some (28, false) }
def is6o_39 : Oper := { dst := some 56, op := Op.binOp BinOp.neq 52 (Operand.tmp 50) (Operand.tmp 55) 52, type := 4, pos := "law.go:50", after := #[DD 33, DD 38, GU 28], guard := some (28, false) }
def is6o_40 : Oper := oO 57 (Op.pick (Operand.tmp 45) (Operand.const (Value.bool true)) (Operand.tmp 56)) 4 pCsh0 #[DD 28, DD 39]
def is6o : Array Oper := #[is6o_0, is6o_1, is6o_2, is6o_3, is6o_4, is6o_5, is6o_6, is6o_7, is6o_8, is6o_9, is6o_10, is6o_11, is6o_12, is6o_13, is6o_14, is6o_15, is6o_16, is6o_17, is6o_18, is6o_19, is6o_20, is6o_21, is6o_22, is6o_23, is6o_24, is6o_25, is6o_26, is6o_27, is6o_28, is6o_29, is6o_30, is6o_31, is6o_32, is6o_33, is6o_34, is6o_35, is6o_36, is6o_37, is6o_38, is6o_39, is6o_40]
theorem is6 (Q : Exit → Act → World → Prop) (sa oa ca sb ob cb n i : Nat) (qk qi : Int) (p : E4) (u2 u3 u4 u6 u7 u8 u9 aa ab ad ae af ag ah ai aj ak al am an ao ap aq au av aw ax ay az aA aB aC aD aE aF aG aH aI aJ aK aL aM aN aO aP aQ aR aS aT aU aV aW aX aY aZ : Value) (W : World)
  (i0 : (0 : Int) ≤ (i : Int)) (i1 : (i : Int) < (n : Int)) (a0 : W.cell? ⟨sa, oa + i * 6, none⟩ = some (.int .i64 qk)) (a1 : W.cell? ⟨sa, oa + i * 6 + 1, none⟩ = some (.int .i64 qi)) (a2 : W.cell? ⟨sa, oa + i * 6 + 2, none⟩ = some (.int .u64 p.x0)) (a3 : W.cell? ⟨sa, oa + i * 6 + 3, none⟩ = some (.int .u64 p.x1)) (a4 : W.cell? ⟨sa, oa + i * 6 + 4, none⟩ = some (.int .u64 p.x2)) (a5 : W.cell? ⟨sa, oa + i * 6 + 5, none⟩ = some (.int .u64 p.x3)) (b0 : W.cell? ⟨sb, ob + i * 6, none⟩ = some (.int .i64 qk)) (b1 : W.cell? ⟨sb, ob + i * 6 + 1, none⟩ = some (.int .i64 qi)) (b2 : W.cell? ⟨sb, ob + i * 6 + 2, none⟩ = some (.int .u64 p.x0)) (b3 : W.cell? ⟨sb, ob + i * 6 + 3, none⟩ = some (.int .u64 p.x1)) (b4 : W.cell? ⟨sb, ob + i * 6 + 4, none⟩ = some (.int .u64 p.x2)) (b5 : W.cell? ⟨sb, ob + i * 6 + 5, none⟩ = some (.int .u64 p.x3))
  (NQ : Hid (∀ y, (Op.equalIn 10000 52 (.agg #[.int .u64 p.x0, .int .u64 p.x1, .int .u64 p.x2, .int .u64 p.x3]) (.agg #[.int .u64 p.x0, .int .u64 p.x1, .int .u64 p.x2, .int .u64 p.x3])).run Tryz.prog y = .ok true y))
  (HQ : Hid (∀ (wz : World), Below W.heap.size W wz → Q .normal ⟨#[.slice (some ⟨sa, oa, none⟩) n ca, .slice (some ⟨sb, ob, none⟩) n cb, u2, u3, u4, .int .i64 (i : Int), u6, u7, u8, u9, aa, ab, ad, ae, af, ag, ah, .slice (some ⟨sa, oa, none⟩) n ca, .int .i64 (i : Int), .pointer (some ⟨sa, oa + i * 6, none⟩), .pointer (some ⟨sa, oa + i * 6, none⟩), .pointer (some ⟨sa, oa + i * 6, none⟩), .int .i64 qk, .slice (some ⟨sb, ob, none⟩) n cb, .int .i64 (i : Int), .pointer (some ⟨sb, ob + i * 6, none⟩), .pointer (some ⟨sb, ob + i * 6, none⟩), .pointer (some ⟨sb, ob + i * 6, none⟩), .int .i64 qk, .bool false, .bool false, .slice (some ⟨sa, oa, none⟩) n ca, .int .i64 (i : Int), .pointer (some ⟨sa, oa + i * 6, none⟩), .pointer (some ⟨sa, oa + i * 6, none⟩), .pointer (some ⟨sa, oa + i * 6 + 1, none⟩), .int .i64 qi, .slice (some ⟨sb, ob, none⟩) n cb, .int .i64 (i : Int), .pointer (some ⟨sb, ob + i * 6, none⟩), .pointer (some ⟨sb, ob + i * 6, none⟩), .pointer (some ⟨sb, ob + i * 6 + 1, none⟩), .int .i64 qi, .bool false, .bool false, .bool false, .slice (some ⟨sa, oa, none⟩) n ca, .int .i64 (i : Int), .pointer (some ⟨sa, oa + i * 6, none⟩), .pointer (some ⟨sa, oa + i * 6 + 2, none⟩), .agg #[.int .u64 p.x0, .int .u64 p.x1, .int .u64 p.x2, .int .u64 p.x3], .slice (some ⟨sb, ob, none⟩) n cb, .int .i64 (i : Int), .pointer (some ⟨sb, ob + i * 6, none⟩), .pointer (some ⟨sb, ob + i * 6 + 2, none⟩), .agg #[.int .u64 p.x0, .int .u64 p.x1, .int .u64 p.x2, .int .u64 p.x3], .bool false, .bool false], []⟩ wz)) : (Code.region 6 is6o true).wp Tryz.prog Q ⟨#[.slice (some ⟨sa, oa, none⟩) n ca, .slice (some ⟨sb, ob, none⟩) n cb, u2, u3, u4, .int .i64 (i : Int), u6, u7, u8, u9, aa, ab, ad, ae, af, ag, ah, ai, aj, ak, al, am, an, ao, ap, aq, au, av, aw, ax, ay, az, aA, aB, aC, aD, aE, aF, aG, aH, aI, aJ, aK, aL, aM, aN, aO, aP, aQ, aR, aS, aT, aU, aV, aW, aX, aY, aZ], []⟩ W := by
 unfold is6o
 refine wp_region_noPanic ?_
 refine wp_region_held_drew (S := fun x => Below W.heap.size W x) (by kernel_rfl) (bl_drew W) (fun hH0 => ?_)
 refine tj 0 is6o_0 (.slice (some ⟨sa, oa, none⟩) n ca) hH0 (fun w0 hSw => ?_) ?_
 ·(unfold is6o_0 oO; clear hSw; go_simp)
 simp only [is6o_0, oO, Act.put, sA, sB, sC]
 refine tj 1 is6o_1 (.int .i64 (i : Int)) hH0 (fun w0 hSw => ?_) ?_
 ·(unfold is6o_1 oO; clear hSw; go_simp)
 simp only [is6o_1, oO, Act.put, sA, sB, sC]
 refine tj 6 is6o_6 (.slice (some ⟨sb, ob, none⟩) n cb) hH0 (fun w0 hSw => ?_) ?_
 ·(unfold is6o_6 oO; clear hSw; go_simp)
 simp only [is6o_6, oO, Act.put, sA, sB, sC]
 refine tj 7 is6o_7 (.int .i64 (i : Int)) hH0 (fun w0 hSw => ?_) ?_
 ·(unfold is6o_7 oO; clear hSw; go_simp)
 simp only [is6o_7, oO, Act.put, sA, sB, sC]
 refine tj 2 is6o_2 (.pointer (some ⟨sa, oa + i * 6, none⟩)) hH0 (fun w0 hSw => ?_) ?_
 ·(unfold is6o_2 oO; clear hSw; go_simp)
 simp only [is6o_2, oO, Act.put, sA, sB, sC]
 refine tj 8 is6o_8 (.pointer (some ⟨sb, ob + i * 6, none⟩)) hH0 (fun w0 hSw => ?_) ?_
 ·(unfold is6o_8 oO; clear hSw; go_simp)
 simp only [is6o_8, oO, Act.put, sA, sB, sC]
 refine tj 3 is6o_3 (.pointer (some ⟨sa, oa + i * 6, none⟩)) hH0 (fun w0 hSw => ?_) ?_
 ·(unfold is6o_3 oO; clear hSw; go_simp)
 simp only [is6o_3, oO, Act.put, sA, sB, sC]
 refine tj 9 is6o_9 (.pointer (some ⟨sb, ob + i * 6, none⟩)) hH0 (fun w0 hSw => ?_) ?_
 ·(unfold is6o_9 oO; clear hSw; go_simp)
 simp only [is6o_9, oO, Act.put, sA, sB, sC]
 refine tj 4 is6o_4 (.pointer (some ⟨sa, oa + i * 6, none⟩)) hH0 (fun w0 hSw => ?_) ?_
 ·(unfold is6o_4 oO; clear hSw; go_simp)
 simp only [is6o_4, oO, Act.put, sA, sB, sC]
 refine tj 10 is6o_10 (.pointer (some ⟨sb, ob + i * 6, none⟩)) hH0 (fun w0 hSw => ?_) ?_
 ·(unfold is6o_10 oO; clear hSw; go_simp)
 simp only [is6o_10, oO, Act.put, sA, sB, sC]
 refine tj 5 is6o_5 (.int .i64 qk) hH0 (fun w0 hSw => ?_) ?_
 ·(unfold is6o_5 oO; have hS : Below W.heap.size W w0 := hSw; have a0 := cell_keep a0 hS; clear hS hSw; go_simp)
 simp only [is6o_5, oO, Act.put, sA, sB, sC]
 refine tj 11 is6o_11 (.int .i64 qk) hH0 (fun w0 hSw => ?_) ?_
 ·(unfold is6o_11 oO; have hS : Below W.heap.size W w0 := hSw; have a0 := cell_keep b0 hS; clear hS hSw; go_simp)
 simp only [is6o_11, oO, Act.put, sA, sB, sC]
 refine tj 12 is6o_12 (.bool false) hH0 (fun w0 hSw => ?_) ?_
 ·(unfold is6o_12 oO; clear hSw; go_simp)
 simp only [is6o_12, oO, Act.put, sA, sB, sC]
 refine tj 13 is6o_13 (.bool false) hH0 (fun w0 hSw => ?_) ?_
 ·(unfold is6o_13 oO; clear hSw; go_simp)
 simp only [is6o_13, oO, Act.put, sA, sB, sC]
 refine tj 14 is6o_14 (.slice (some ⟨sa, oa, none⟩) n ca) hH0 (fun w0 hSw => ?_) ?_
 ·(unfold is6o_14; clear hSw; go_simp)
 simp only [is6o_14, Act.put, sA, sB, sC]
 refine tj 15 is6o_15 (.int .i64 (i : Int)) hH0 (fun w0 hSw => ?_) ?_
 ·(unfold is6o_15; clear hSw; go_simp)
 simp only [is6o_15, Act.put, sA, sB, sC]
 refine tj 20 is6o_20 (.slice (some ⟨sb, ob, none⟩) n cb) hH0 (fun w0 hSw => ?_) ?_
 ·(unfold is6o_20; clear hSw; go_simp)
 simp only [is6o_20, Act.put, sA, sB, sC]
 refine tj 21 is6o_21 (.int .i64 (i : Int)) hH0 (fun w0 hSw => ?_) ?_
 ·(unfold is6o_21; clear hSw; go_simp)
 simp only [is6o_21, Act.put, sA, sB, sC]
 refine tj 16 is6o_16 (.pointer (some ⟨sa, oa + i * 6, none⟩)) hH0 (fun w0 hSw => ?_) ?_
 ·(unfold is6o_16; clear hSw; go_simp)
 simp only [is6o_16, Act.put, sA, sB, sC]
 refine tj 22 is6o_22 (.pointer (some ⟨sb, ob + i * 6, none⟩)) hH0 (fun w0 hSw => ?_) ?_
 ·(unfold is6o_22; clear hSw; go_simp)
 simp only [is6o_22, Act.put, sA, sB, sC]
 refine tj 17 is6o_17 (.pointer (some ⟨sa, oa + i * 6, none⟩)) hH0 (fun w0 hSw => ?_) ?_
 ·(unfold is6o_17; clear hSw; go_simp)
 simp only [is6o_17, Act.put, sA, sB, sC]
 refine tj 23 is6o_23 (.pointer (some ⟨sb, ob + i * 6, none⟩)) hH0 (fun w0 hSw => ?_) ?_
 ·(unfold is6o_23; clear hSw; go_simp)
 simp only [is6o_23, Act.put, sA, sB, sC]
 refine tj 18 is6o_18 (.pointer (some ⟨sa, oa + i * 6 + 1, none⟩)) hH0 (fun w0 hSw => ?_) ?_
 ·(unfold is6o_18; clear hSw; go_simp)
 simp only [is6o_18, Act.put, sA, sB, sC]
 refine tj 24 is6o_24 (.pointer (some ⟨sb, ob + i * 6 + 1, none⟩)) hH0 (fun w0 hSw => ?_) ?_
 ·(unfold is6o_24; clear hSw; go_simp)
 simp only [is6o_24, Act.put, sA, sB, sC]
 refine tj 19 is6o_19 (.int .i64 qi) hH0 (fun w0 hSw => ?_) ?_
 ·(unfold is6o_19; have hS : Below W.heap.size W w0 := hSw; have a0 := cell_keep a1 hS; clear hS hSw; go_simp)
 simp only [is6o_19, Act.put, sA, sB, sC]
 refine tj 25 is6o_25 (.int .i64 qi) hH0 (fun w0 hSw => ?_) ?_
 ·(unfold is6o_25; have hS : Below W.heap.size W w0 := hSw; have a0 := cell_keep b1 hS; clear hS hSw; go_simp)
 simp only [is6o_25, Act.put, sA, sB, sC]
 refine tj 26 is6o_26 (.bool false) hH0 (fun w0 hSw => ?_) ?_
 ·(unfold is6o_26; clear hSw; go_simp)
 simp only [is6o_26, Act.put, sA, sB, sC]
 refine tj 27 is6o_27 (.bool false) hH0 (fun w0 hSw => ?_) ?_
 ·(unfold is6o_27 oO; clear hSw; go_simp)
 simp only [is6o_27, oO, Act.put, sA, sB, sC]
 refine tj 28 is6o_28 (.bool false) hH0 (fun w0 hSw => ?_) ?_
 ·(unfold is6o_28 oO; clear hSw; go_simp)
 simp only [is6o_28, oO, Act.put, sA, sB, sC]
 refine tj 29 is6o_29 (.slice (some ⟨sa, oa, none⟩) n ca) hH0 (fun w0 hSw => ?_) ?_
 ·(unfold is6o_29; clear hSw; go_simp)
 simp only [is6o_29, Act.put, sA, sB, sC]
 refine tj 30 is6o_30 (.int .i64 (i : Int)) hH0 (fun w0 hSw => ?_) ?_
 ·(unfold is6o_30; clear hSw; go_simp)
 simp only [is6o_30, Act.put, sA, sB, sC]
 refine tj 34 is6o_34 (.slice (some ⟨sb, ob, none⟩) n cb) hH0 (fun w0 hSw => ?_) ?_
 ·(unfold is6o_34; clear hSw; go_simp)
 simp only [is6o_34, Act.put, sA, sB, sC]
 refine tj 35 is6o_35 (.int .i64 (i : Int)) hH0 (fun w0 hSw => ?_) ?_
 ·(unfold is6o_35; clear hSw; go_simp)
 simp only [is6o_35, Act.put, sA, sB, sC]
 refine tj 31 is6o_31 (.pointer (some ⟨sa, oa + i * 6, none⟩)) hH0 (fun w0 hSw => ?_) ?_
 ·(unfold is6o_31; clear hSw; go_simp)
 simp only [is6o_31, Act.put, sA, sB, sC]
 refine tj 36 is6o_36 (.pointer (some ⟨sb, ob + i * 6, none⟩)) hH0 (fun w0 hSw => ?_) ?_
 ·(unfold is6o_36; clear hSw; go_simp)
 simp only [is6o_36, Act.put, sA, sB, sC]
 refine tj 32 is6o_32 (.pointer (some ⟨sa, oa + i * 6 + 2, none⟩)) hH0 (fun w0 hSw => ?_) ?_
 ·(unfold is6o_32; clear hSw; go_simp)
 simp only [is6o_32, Act.put, sA, sB, sC]
 refine tj 37 is6o_37 (.pointer (some ⟨sb, ob + i * 6 + 2, none⟩)) hH0 (fun w0 hSw => ?_) ?_
 ·(unfold is6o_37; clear hSw; go_simp)
 simp only [is6o_37, Act.put, sA, sB, sC]
 refine tj 33 is6o_33 (.agg #[.int .u64 p.x0, .int .u64 p.x1, .int .u64 p.x2, .int .u64 p.x3]) hH0 (fun w0 hSw => ?_) ?_
 ·(unfold is6o_33; have hS : Below W.heap.size W w0 := hSw; have a0 := cell_keep a2 hS; have a1 := cell_keep a3 hS; have a2 := cell_keep a4 hS; have a3 := cell_keep a5 hS; clear hS hSw; go_simp)
 simp only [is6o_33, Act.put, sA, sB, sC]
 refine tj 38 is6o_38 (.agg #[.int .u64 p.x0, .int .u64 p.x1, .int .u64 p.x2, .int .u64 p.x3]) hH0 (fun w0 hSw => ?_) ?_
 ·(unfold is6o_38; have hS : Below W.heap.size W w0 := hSw; have a0 := cell_keep b2 hS; have a1 := cell_keep b3 hS; have a2 := cell_keep b4 hS; have a3 := cell_keep b5 hS; clear hS hSw; go_simp)
 simp only [is6o_38, Act.put, sA, sB, sC]
 refine tj 39 is6o_39 (.bool false) hH0 (fun w0 hSw => ?_) ?_
 ·(unfold is6o_39; clear hSw; have e0 := NQ.out w0; go_simp)
 simp only [is6o_39, Act.put, sA, sB, sC]
 refine tj 40 is6o_40 (.bool false) hH0 (fun w0 hSw => ?_) ?_
 ·(unfold is6o_40 oO; clear hSw; go_simp)
 simp only [is6o_40, oO, Act.put, sA, sB, sC]
 have HH := Hn hH0
 have FQ := Hn (HQ.out _ HH.out)
 refine wpAnyH_done (by kernel_rfl) ?_ _
 refine NoPanic.normal ?_
 exact FQ.out
theorem same_self (p : E4) : p.same p = true := (E4.same_iff _ _).2 rfl
theorem is_any (P Q : Option Addr) (ca cb : Nat) (X : List Tm) (w : World) (hn : X.length ≤ 2932031007402) (hA : Lt w P X.length (ft X)) (hB : Lt w Q X.length (ft X)) :
  Calls Tryz.prog 37 #[.slice P X.length ca, .slice Q X.length cb] w fun e w' => e = .returned (.bool true) ∧ Below w.heap.size w w' := by
 have HA := Hn hA
 have HB := Hn hB
 have HS := Hn hn
 have R0 := Hn (Below.refl w.heap.size w)
 clear hA hB hn
 go_enter Tryz.func37, Tryz.ntmps37
 go_upto_region 4 with fail
 go_loopw [5] (fun iv w' => ∃ i : Nat, i ≤ X.length ∧ iv = .int .i64 (i : Int) ∧ Hid (Below w.heap.size w w')) (fun i _ => X.length - (intOf i).toNat)
 case atStart => exact ⟨0, by omega, rfl, R0⟩
 case round =>
  clear R0
  obtain ⟨i, hi, rfl, hR⟩ := hrel
  by_cases hin : i < X.length
  ·have i1 : (i : Int) < (X.length : Int) := by omega
   have i0 : (0 : Int) ≤ (i : Int) := by omega
   have w9 : IntKind.i64.wrap ((i : Int) + 1) = (i : Int) + 1 := IntWalk.i64_in _ (by have := HS.out; omega)
   obtain ⟨x, hx⟩ : ∃ x, X[i]? = some x := ⟨X[i], by simp [hin]⟩
   have fx := ft_atC hx
   obtain ⟨⟨xk, xi⟩, xm⟩ := x
   obtain ⟨sa, oa, hPs, hRt⟩ := HA.out
   obtain rfl := hPs (by omega)
   have rt := (hRt (by omega))
   have a0 := cell_keep (rt.c0 i hin) hR.out
   have a1 := cell_keep (rt.c1 i hin) hR.out
   have a2 := cell_keep (rt.c2 i hin) hR.out
   have a3 := cell_keep (rt.c3 i hin) hR.out
   have a4 := cell_keep (rt.c4 i hin) hR.out
   have a5 := cell_keep (rt.c5 i hin) hR.out
   rw [fx] at a0 a1 a2 a3 a4 a5
   simp only [tmOf] at a0 a1 a2 a3 a4 a5
   clear rt hRt hPs
   obtain ⟨sb, ob, hPs, hRt⟩ := HB.out
   obtain rfl := hPs (by omega)
   have rt := (hRt (by omega))
   have b0 := cell_keep (rt.c0 i hin) hR.out
   have b1 := cell_keep (rt.c1 i hin) hR.out
   have b2 := cell_keep (rt.c2 i hin) hR.out
   have b3 := cell_keep (rt.c3 i hin) hR.out
   have b4 := cell_keep (rt.c4 i hin) hR.out
   have b5 := cell_keep (rt.c5 i hin) hR.out
   rw [fx] at b0 b1 b2 b3 b4 b5
   simp only [tmOf] at b0 b1 b2 b3 b4 b5
   clear rt hRt hPs
   obtain ⟨p, hp⟩ : ∃ p, lst xm = p := ⟨_, rfl⟩
   rw [hp] at a2 a3 a4 a5 b2 b3 b4 b5
   have NQ := fun y => requal p p y
   rw [same_self] at NQ
   simp only [E4.v] at NQ
   replace NQ := Hn NQ
   clear fx hx hp
   go_upto_region 6 with fail
   refine is6 _ sa oa ca sb ob cb X.length i xk xi p _ _ _ _ _ _ _ _ _ _ _ _ _ _ _ _ _ _ _ _ _ _ _ _ _ _ _ _ _ _ _ _ _ _ _ _ _ _ _ _ _ _ _ _ _ _ _ _ _ _ _ _ _ _ _ wr i0 i1 a0 a1 a2 a3 a4 a5 b0 b1 b2 b3 b4 b5 NQ (Hn ?_)
   intro w2 hb2
   have PN := Hn (bl_trans hR.out hb2)
   clear hb2 hR NQ a0 a1 a2 a3 a4 a5 b0 b1 b2 b3 b4 b5
   go_wp2_with fail
   go_roundw
   case rel => exact ⟨i + 1, by omega, by go_num, PN⟩
   case measure => simp [intOf]; omega
  ·obtain rfl : i = X.length := by omega
   have lq : ¬ (X.length : Int) < (X.length : Int) := by omega
   go_wp2_with fail
   exact bodyPost_ret (v := .bool true) (by simp [results, Tryz.results37, go_sem]) rfl ⟨rfl, hR.out⟩
end Ci
end Go.Proofs.YtghcfcglakbkeaaGreatDoor
