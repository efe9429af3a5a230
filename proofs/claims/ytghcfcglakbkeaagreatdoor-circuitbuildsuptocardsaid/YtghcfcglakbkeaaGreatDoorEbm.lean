import Derived.Test.YtghcfcglakbkeaaGreatDoorCxaz
namespace Go.Proofs.YtghcfcglakbkeaaGreatDoor
set_option maxRecDepth 100000
set_option maxHeartbeats 16000000
open Go.RowKit
set_option linter.unusedVariables false
set_option linter.unusedSimpArgs false
open Cm (Wr Tm co bf Ls lf ins Eqm)
namespace Ci
def pEbm0 : String := "law.go:200"
def ln19ao_0 : Oper := oO 55 (Op.move (Operand.tmp 8)) 38 pEbm0 #[]
def ln19ao_1 : Oper := oO 56 (Op.move (Operand.tmp 11)) 3 pEbm0 #[]
def ln19ao_2 : Oper := oO 57 (Op.indexAddr 38 (Operand.tmp 55) (Operand.tmp 56)) 0 pEbm0 #[DD 0, DD 1]
def ln19ao_3 : Oper := oO 58 (Op.load 123 (Operand.tmp 57)) 123 pEbm0 #[DD 2]
def ln19ao_4 : Oper := oO 59 (Op.load 123 (Operand.global 0)) 123 pEbm0 #[]
def ln19ao_5 : Oper := oO 60 (Op.binOp BinOp.neq 123 (Operand.tmp 58) (Operand.tmp 59) 123) 4 pEbm0 #[DD 3, DD 4]
def ln19ao_6 : Oper := oO 61 (Op.move (Operand.tmp 60)) 4 pEbm0 #[DD 5]
def ln19ao_7 : Oper := { dst := some 62, op := Op.move (Operand.tmp 9), type := 38, pos := "law.go:200", after := #[GU 6], guard := some (6, false) }
def ln19ao_8 : Oper := { dst := some 63, op := Op.move (Operand.tmp 11), type := 3, pos := "law.go:200", after := #[GU 6], guard := some (6, false) }
def ln19ao_9 : Oper := { dst := some 64, op := Op.indexAddr 38 (Operand.tmp 62) (Operand.tmp 63), type := 0, pos := "law.go:200", after := #[DD 7, DD 8, GU 6], guard := some (6, false) }
def ln19ao_10 : Oper := { dst := some 65, op := Op.load 123 (Operand.tmp 64), type := 123, pos := "law.go:200", after := #[DD 9, GU 6], guard := some (6, false) }
def ln19ao_11 : Oper := { dst := some 66, op := Op.load 123 (Operand.tmp 5), type := 123, pos := "law.go:200", after := #[GU 6], guard := some (6, false) }
def ln19ao_12 : Oper := { dst := some 67, op := Op.binOp BinOp.neq 123 (Operand.tmp 65) (Operand.tmp 66) 123, type := 4, pos := "law.go:200", after := #[DD 10, DD 11, GU 6], guard := some (6, false) }
def ln19ao_13 : Oper := oO 68 (Op.pick (Operand.tmp 61) (Operand.const (Value.bool true)) (Operand.tmp 67)) 4 pEbm0 #[DD 6, DD 12]
def ln19ao_14 : Oper := oO 69 (Op.move (Operand.tmp 68)) 4 pEbm0 #[DD 13, CH 6]
def ln19ao_15 : Oper := { dst := some 70, op := Op.move (Operand.tmp 11), type := 3, pos := "law.go:200", after := #[GU 14], guard := some (14, false) }
def ln19ao_16 : Oper := { dst := some 71, op := Op.move (Operand.tmp 0), type := 38, pos := "law.go:200", after := #[GU 14], guard := some (14, false) }
def ln19ao_17 : Oper := { dst := some 72, op := Op.call { callee := Callee.builtin Builtin.len, args := #[Operand.tmp 71], argTypes := #[38] }, type := 3, pos := "law.go:200", after := #[DD 16, GU 14], guard := some (14, false) }
def ln19ao_18 : Oper := { dst := some 73, op := Op.binOp BinOp.lss 3 (Operand.tmp 70) (Operand.tmp 72) 3, type := 4, pos := "law.go:200", after := #[DD 15, DD 17, GU 14], guard := some (14, false) }
def ln19ao_19 : Oper := { dst := some 74, op := Op.move (Operand.tmp 73), type := 4, pos := "law.go:200", after := #[DD 18, CH 14, GU 14], guard := some (14, false) }
def ln19ao_20 : Oper := { dst := some 75, op := Op.move (Operand.tmp 0), type := 38, pos := "law.go:200", after := #[GU 19], guard := some (19, true) }
def ln19ao_21 : Oper := { dst := some 76, op := Op.move (Operand.tmp 11), type := 3, pos := "law.go:200", after := #[GU 19], guard := some (19, true) }
def ln19ao_22 : Oper := { dst := some 77, op := Op.indexAddr 38 (Operand.tmp 75) (Operand.tmp 76), type := 0, pos := "law.go:200", after := #[DD 20, DD 21, GU 19], guard := some (19, true) }
def ln19ao_23 : Oper := { dst := some 78, op := Op.load 123 (Operand.tmp 77), type := 123, pos := "law.go:200", after := #[DD 22, GU 19], guard := some (19, true) }
def ln19ao_24 : Oper := { dst := some 79, op := Op.load 123 (Operand.global 0), type := 123, pos := "law.go:200", after := #[GU 19], guard := some (19, true) }
def ln19ao_25 : Oper := { dst := some 80, op := Op.binOp BinOp.neq 123 (Operand.tmp 78) (Operand.tmp 79) 123, type := 4, pos := "law.go:200", after := #[DD 23, DD 24, GU 19], guard := some (19, true) }
def ln19ao_26 : Oper := { dst := some 81, op := Op.move (Operand.tmp 80), type := 4, pos := "law.go:200", after := #[DD 25, CH 19, GU 19], guard := some (19, true) }
def ln19ao_27 : Oper := { dst := some 82, op := Op.move (Operand.tmp 1), type := 38, pos := "law.go:200", after := #[GU 26], guard := some (26, false) }
def ln19ao_28 : Oper := { dst := some 83, op := Op.move (Operand.tmp 11), type := 3, pos := "law.go:200", after := #[GU 26], guard := some (26, false) }
def ln19ao_29 : Oper := { dst := some 84, op := Op.indexAddr 38 (Operand.tmp 82) (Operand.tmp 83), type := 0, pos := "law.go:200", after := #[DD 27, DD 28, GU 26], guard := some (26, false) }
def ln19ao_30 : Oper := { dst := some 85, op := Op.load 123 (Operand.tmp 84), type := 123, pos := "law.go:200", after := #[DD 29, GU 26], guard := some (26, false) }
def ln19ao_31 : Oper := { dst := some 86, op := Op.load 123 (Operand.tmp 5), type := 123, pos := "law.go:200", after := #[GU 26], guard := some (26, false) }
def ln19ao_32 : Oper := { dst := some 87, op := Op.binOp BinOp.neq 123 (Operand.tmp 85) (Operand.tmp 86) 123, type := 4, pos := "law.go:200", after := #[DD 30, DD 31, GU 26], guard := some (26, false) }
def ln19ao_33 : Oper := { dst := some 88, op := Op.pick (Operand.tmp 81) (Operand.const (Value.bool true)) (Operand.tmp 87), type := 4, pos := "law.go:200", after := #[DD 26, DD 32, GU 19], guard := some (19, true) }
def ln19ao_34 : Oper := { dst := some 89, op := Op.pick (Operand.tmp 74) (Operand.tmp 88) (Operand.const (Value.bool false)), type := 4, pos := "law.go:200", after := #[DD 19, DD 33, GU 14], guard := some (14, false) }
def ln19ao_35 : Oper := oO 90 (Op.pick (Operand.tmp 69) (Operand.const (Value.bool true)) (Operand.tmp 89)) 4 pEbm0 #[DD 14, DD 34]
def ln19ao : Array Oper := #[ln19ao_0, ln19ao_1, ln19ao_2, ln19ao_3, ln19ao_4, ln19ao_5, ln19ao_6, ln19ao_7, ln19ao_8, ln19ao_9, ln19ao_10, ln19ao_11, ln19ao_12, ln19ao_13, ln19ao_14, ln19ao_15, ln19ao_16, ln19ao_17, ln19ao_18, ln19ao_19, ln19ao_20, ln19ao_21, ln19ao_22, ln19ao_23, ln19ao_24, ln19ao_25, ln19ao_26, ln19ao_27, ln19ao_28, ln19ao_29, ln19ao_30, ln19ao_31, ln19ao_32, ln19ao_33, ln19ao_34, ln19ao_35]
theorem ln19a (Q : Exit → Act → World → Prop) (gx ox gy oy b5 N n cx cy c1 c2 i : Nat) (qk qi rk ri : Int) (p r : E4) (g1 o1 g2 o2 : Nat) (u2 u3 u4 u6 u7 aa ab ad ae af ag ah ai aj ak al am an ao ap aq au av aw ax ay az aA aB aC aD aE aF aG aH aI aJ aK aL aM aN aO aP aQ aR aS aT aU aV aW aX aY aZ a6 a7 a8 a9 ba bb bc bd be bg bh bi bj bk bl bm bn bo bp bq br bs bt bu bv bw bx bz bA bB bC bD : Value) (W : World)
  (i0 : (0 : Int) ≤ (i : Int)) (i1 : (i : Int) < (N : Int)) (i2 : (i : Int) < (n : Int))
  (x0 : W.cell? ⟨gx, ox + i * 6, none⟩ = some (.int .i64 qk)) (x1 : W.cell? ⟨gx, ox + i * 6 + 1, none⟩ = some (.int .i64 qi)) (x2 : W.cell? ⟨gx, ox + i * 6 + 2, none⟩ = some (.int .u64 p.x0)) (x3 : W.cell? ⟨gx, ox + i * 6 + 3, none⟩ = some (.int .u64 p.x1)) (x4 : W.cell? ⟨gx, ox + i * 6 + 4, none⟩ = some (.int .u64 p.x2)) (x5 : W.cell? ⟨gx, ox + i * 6 + 5, none⟩ = some (.int .u64 p.x3))
  (m0 : W.cell? ⟨0, 0, none⟩ = some (.int .i64 qk)) (m1 : W.cell? ⟨0, 1, none⟩ = some (.int .i64 qi)) (m2 : W.cell? ⟨0, 2, none⟩ = some (.int .u64 p.x0)) (m3 : W.cell? ⟨0, 3, none⟩ = some (.int .u64 p.x1)) (m4 : W.cell? ⟨0, 4, none⟩ = some (.int .u64 p.x2)) (m5 : W.cell? ⟨0, 5, none⟩ = some (.int .u64 p.x3))
  (y0 : W.cell? ⟨gy, oy + i * 6, none⟩ = some (.int .i64 rk)) (y1 : W.cell? ⟨gy, oy + i * 6 + 1, none⟩ = some (.int .i64 ri)) (y2 : W.cell? ⟨gy, oy + i * 6 + 2, none⟩ = some (.int .u64 r.x0)) (y3 : W.cell? ⟨gy, oy + i * 6 + 3, none⟩ = some (.int .u64 r.x1)) (y4 : W.cell? ⟨gy, oy + i * 6 + 4, none⟩ = some (.int .u64 r.x2)) (y5 : W.cell? ⟨gy, oy + i * 6 + 5, none⟩ = some (.int .u64 r.x3))
  (z0 : W.cell? ⟨b5, 0, none⟩ = some (.int .i64 rk)) (z1 : W.cell? ⟨b5, 1, none⟩ = some (.int .i64 ri)) (z2 : W.cell? ⟨b5, 2, none⟩ = some (.int .u64 r.x0)) (z3 : W.cell? ⟨b5, 3, none⟩ = some (.int .u64 r.x1)) (z4 : W.cell? ⟨b5, 4, none⟩ = some (.int .u64 r.x2)) (z5 : W.cell? ⟨b5, 5, none⟩ = some (.int .u64 r.x3))
  (l0 : W.cell? ⟨g1, o1 + i * 6, none⟩ = some (.int .i64 qk)) (l1 : W.cell? ⟨g1, o1 + i * 6 + 1, none⟩ = some (.int .i64 qi)) (l2 : W.cell? ⟨g1, o1 + i * 6 + 2, none⟩ = some (.int .u64 p.x0)) (l3 : W.cell? ⟨g1, o1 + i * 6 + 3, none⟩ = some (.int .u64 p.x1)) (l4 : W.cell? ⟨g1, o1 + i * 6 + 4, none⟩ = some (.int .u64 p.x2)) (l5 : W.cell? ⟨g1, o1 + i * 6 + 5, none⟩ = some (.int .u64 p.x3))
  (k0 : W.cell? ⟨g2, o2 + i * 6, none⟩ = some (.int .i64 rk)) (k1 : W.cell? ⟨g2, o2 + i * 6 + 1, none⟩ = some (.int .i64 ri)) (k2 : W.cell? ⟨g2, o2 + i * 6 + 2, none⟩ = some (.int .u64 r.x0)) (k3 : W.cell? ⟨g2, o2 + i * 6 + 3, none⟩ = some (.int .u64 r.x1)) (k4 : W.cell? ⟨g2, o2 + i * 6 + 4, none⟩ = some (.int .u64 r.x2)) (k5 : W.cell? ⟨g2, o2 + i * 6 + 5, none⟩ = some (.int .u64 r.x3))
  (NP : Hid (∀ y, (Op.equalIn 9999 41 (.agg #[.int .u64 p.x0, .int .u64 p.x1, .int .u64 p.x2, .int .u64 p.x3]) (.agg #[.int .u64 p.x0, .int .u64 p.x1, .int .u64 p.x2, .int .u64 p.x3])).run Tryz.prog y = .ok true y)) (NR : Hid (∀ y, (Op.equalIn 9999 41 (.agg #[.int .u64 r.x0, .int .u64 r.x1, .int .u64 r.x2, .int .u64 r.x3]) (.agg #[.int .u64 r.x0, .int .u64 r.x1, .int .u64 r.x2, .int .u64 r.x3])).run Tryz.prog y = .ok true y))
  (HQ : Hid (∀ (wz : World), Below W.heap.size W wz → Q .normal ⟨#[.slice (some ⟨g1, o1, none⟩) n c1, .slice (some ⟨g2, o2, none⟩) n c2, u2, u3, u4, .pointer (some ⟨b5, 0, none⟩), u6, u7, .slice (some ⟨gx, ox, none⟩) N cx, .slice (some ⟨gy, oy, none⟩) N cy, aa, .int .i64 (i : Int), ab, ad, ae, af, ag, ah, ai, aj, ak, al, am, an, ao, ap, aq, au, av, aw, ax, ay, az, aA, aB, aC, aD, aE, aF, aG, aH, aI, aJ, aK, aL, aM, aN, aO, aP, aQ, aR, aS, aT, aU, aV, .slice (some ⟨gx, ox, none⟩) N cx, .int .i64 (i : Int), .pointer (some ⟨gx, ox + i * 6, none⟩), .agg #[.int .i64 qk, .int .i64 qi, .int .u64 p.x0, .int .u64 p.x1, .int .u64 p.x2, .int .u64 p.x3], .agg #[.int .i64 qk, .int .i64 qi, .int .u64 p.x0, .int .u64 p.x1, .int .u64 p.x2, .int .u64 p.x3], .bool false, .bool false, .slice (some ⟨gy, oy, none⟩) N cy, .int .i64 (i : Int), .pointer (some ⟨gy, oy + i * 6, none⟩), .agg #[.int .i64 rk, .int .i64 ri, .int .u64 r.x0, .int .u64 r.x1, .int .u64 r.x2, .int .u64 r.x3], .agg #[.int .i64 rk, .int .i64 ri, .int .u64 r.x0, .int .u64 r.x1, .int .u64 r.x2, .int .u64 r.x3], .bool false, .bool false, .bool false, .int .i64 (i : Int), .slice (some ⟨g1, o1, none⟩) n c1, .int .i64 (n : Int), .bool true, .bool true, .slice (some ⟨g1, o1, none⟩) n c1, .int .i64 (i : Int), .pointer (some ⟨g1, o1 + i * 6, none⟩), .agg #[.int .i64 qk, .int .i64 qi, .int .u64 p.x0, .int .u64 p.x1, .int .u64 p.x2, .int .u64 p.x3], .agg #[.int .i64 qk, .int .i64 qi, .int .u64 p.x0, .int .u64 p.x1, .int .u64 p.x2, .int .u64 p.x3], .bool false, .bool false, .slice (some ⟨g2, o2, none⟩) n c2, .int .i64 (i : Int), .pointer (some ⟨g2, o2 + i * 6, none⟩), .agg #[.int .i64 rk, .int .i64 ri, .int .u64 r.x0, .int .u64 r.x1, .int .u64 r.x2, .int .u64 r.x3], .agg #[.int .i64 rk, .int .i64 ri, .int .u64 r.x0, .int .u64 r.x1, .int .u64 r.x2, .int .u64 r.x3], .bool false, .bool false, .bool false, .bool false], []⟩ wz)) : (Code.region 19 ln19ao true).wp Tryz.prog Q ⟨#[.slice (some ⟨g1, o1, none⟩) n c1, .slice (some ⟨g2, o2, none⟩) n c2, u2, u3, u4, .pointer (some ⟨b5, 0, none⟩), u6, u7, .slice (some ⟨gx, ox, none⟩) N cx, .slice (some ⟨gy, oy, none⟩) N cy, aa, .int .i64 (i : Int), ab, ad, ae, af, ag, ah, ai, aj, ak, al, am, an, ao, ap, aq, au, av, aw, ax, ay, az, aA, aB, aC, aD, aE, aF, aG, aH, aI, aJ, aK, aL, aM, aN, aO, aP, aQ, aR, aS, aT, aU, aV, aW, aX, aY, aZ, a6, a7, a8, a9, ba, bb, bc, bd, be, bg, bh, bi, bj, bk, bl, bm, bn, bo, bp, bq, br, bs, bt, bu, bv, bw, bx, bz, bA, bB, bC, bD], []⟩ W := by
 unfold ln19ao
 refine wp_region_noPanic ?_
 refine wp_region_held_drew (S := fun x => Below W.heap.size W x) (by kernel_rfl) (bl_drew W) (fun hH0 => ?_)
 refine tj 0 ln19ao_0 (.slice (some ⟨gx, ox, none⟩) N cx) hH0 (fun w0 hSw => ?_) ?_
 ·(unfold ln19ao_0 oO; clear hSw; go_simp)
 simp only [ln19ao_0, oO, Act.put, sA, sB, sC]
 refine tj 1 ln19ao_1 (.int .i64 (i : Int)) hH0 (fun w0 hSw => ?_) ?_
 ·(unfold ln19ao_1 oO; clear hSw; go_simp)
 simp only [ln19ao_1, oO, Act.put, sA, sB, sC]
 refine tj 4 ln19ao_4 (.agg #[.int .i64 qk, .int .i64 qi, .int .u64 p.x0, .int .u64 p.x1, .int .u64 p.x2, .int .u64 p.x3]) hH0 (fun w0 hSw => ?_) ?_
 ·(unfold ln19ao_4 oO; have hS : Below W.heap.size W w0 := hSw; have a0 := cell_keep m0 hS; have a1 := cell_keep m1 hS; have a2 := cell_keep m2 hS; have a3 := cell_keep m3 hS; have a4 := cell_keep m4 hS; have a5 := cell_keep m5 hS; clear hS hSw; go_simp)
 simp only [ln19ao_4, oO, Act.put, sA, sB, sC]
 refine tj 2 ln19ao_2 (.pointer (some ⟨gx, ox + i * 6, none⟩)) hH0 (fun w0 hSw => ?_) ?_
 ·(unfold ln19ao_2 oO; clear hSw; go_simp)
 simp only [ln19ao_2, oO, Act.put, sA, sB, sC]
 refine tj 3 ln19ao_3 (.agg #[.int .i64 qk, .int .i64 qi, .int .u64 p.x0, .int .u64 p.x1, .int .u64 p.x2, .int .u64 p.x3]) hH0 (fun w0 hSw => ?_) ?_
 ·(unfold ln19ao_3 oO; have hS : Below W.heap.size W w0 := hSw; have a0 := cell_keep x0 hS; have a1 := cell_keep x1 hS; have a2 := cell_keep x2 hS; have a3 := cell_keep x3 hS; have a4 := cell_keep x4 hS; have a5 := cell_keep x5 hS; clear hS hSw; go_simp)
 simp only [ln19ao_3, oO, Act.put, sA, sB, sC]
 refine tj 5 ln19ao_5 (.bool false) hH0 (fun w0 hSw => ?_) ?_
 ·(unfold ln19ao_5 oO; clear hSw; have e0 := NP.out w0; go_simp)
 simp only [ln19ao_5, oO, Act.put, sA, sB, sC]
 refine tj 6 ln19ao_6 (.bool false) hH0 (fun w0 hSw => ?_) ?_
 ·(unfold ln19ao_6 oO; clear hSw; go_simp)
 simp only [ln19ao_6, oO, Act.put, sA, sB, sC]
 refine tj 7 ln19ao_7 (.slice (some ⟨gy, oy, none⟩) N cy) hH0 (fun w0 hSw => ?_) ?_
 ·(unfold ln19ao_7; clear hSw; go_simp)
 simp only [ln19ao_7, Act.put, sA, sB, sC]
 refine tj 8 ln19ao_8 (.int .i64 (i : Int)) hH0 (fun w0 hSw => ?_) ?_
 ·(unfold ln19ao_8; clear hSw; go_simp)
 simp only [ln19ao_8, Act.put, sA, sB, sC]
 refine tj 11 ln19ao_11 (.agg #[.int .i64 rk, .int .i64 ri, .int .u64 r.x0, .int .u64 r.x1, .int .u64 r.x2, .int .u64 r.x3]) hH0 (fun w0 hSw => ?_) ?_
 ·(unfold ln19ao_11; have hS : Below W.heap.size W w0 := hSw; have a0 := cell_keep z0 hS; have a1 := cell_keep z1 hS; have a2 := cell_keep z2 hS; have a3 := cell_keep z3 hS; have a4 := cell_keep z4 hS; have a5 := cell_keep z5 hS; clear hS hSw; go_simp)
 simp only [ln19ao_11, Act.put, sA, sB, sC]
 refine tj 9 ln19ao_9 (.pointer (some ⟨gy, oy + i * 6, none⟩)) hH0 (fun w0 hSw => ?_) ?_
 ·(unfold ln19ao_9; clear hSw; go_simp)
 simp only [ln19ao_9, Act.put, sA, sB, sC]
 refine tj 10 ln19ao_10 (.agg #[.int .i64 rk, .int .i64 ri, .int .u64 r.x0, .int .u64 r.x1, .int .u64 r.x2, .int .u64 r.x3]) hH0 (fun w0 hSw => ?_) ?_
 ·(unfold ln19ao_10; have hS : Below W.heap.size W w0 := hSw; have a0 := cell_keep y0 hS; have a1 := cell_keep y1 hS; have a2 := cell_keep y2 hS; have a3 := cell_keep y3 hS; have a4 := cell_keep y4 hS; have a5 := cell_keep y5 hS; clear hS hSw; go_simp)
 simp only [ln19ao_10, Act.put, sA, sB, sC]
 refine tj 12 ln19ao_12 (.bool false) hH0 (fun w0 hSw => ?_) ?_
 ·(unfold ln19ao_12; clear hSw; have e0 := NR.out w0; go_simp)
 simp only [ln19ao_12, Act.put, sA, sB, sC]
 refine tj 13 ln19ao_13 (.bool false) hH0 (fun w0 hSw => ?_) ?_
 ·(unfold ln19ao_13 oO; clear hSw; go_simp)
 simp only [ln19ao_13, oO, Act.put, sA, sB, sC]
 refine tj 14 ln19ao_14 (.bool false) hH0 (fun w0 hSw => ?_) ?_
 ·(unfold ln19ao_14 oO; clear hSw; go_simp)
 simp only [ln19ao_14, oO, Act.put, sA, sB, sC]
 refine tj 15 ln19ao_15 (.int .i64 (i : Int)) hH0 (fun w0 hSw => ?_) ?_
 ·(unfold ln19ao_15; clear hSw; go_simp)
 simp only [ln19ao_15, Act.put, sA, sB, sC]
 refine tj 16 ln19ao_16 (.slice (some ⟨g1, o1, none⟩) n c1) hH0 (fun w0 hSw => ?_) ?_
 ·(unfold ln19ao_16; clear hSw; go_simp)
 simp only [ln19ao_16, Act.put, sA, sB, sC]
 refine tj 17 ln19ao_17 (.int .i64 (n : Int)) hH0 (fun w0 hSw => ?_) ?_
 ·(unfold ln19ao_17; clear hSw; go_simp)
 simp only [ln19ao_17, Act.put, sA, sB, sC]
 refine tj 18 ln19ao_18 (.bool true) hH0 (fun w0 hSw => ?_) ?_
 ·(unfold ln19ao_18; clear hSw; go_simp)
 simp only [ln19ao_18, Act.put, sA, sB, sC]
 refine tj 19 ln19ao_19 (.bool true) hH0 (fun w0 hSw => ?_) ?_
 ·(unfold ln19ao_19; clear hSw; go_simp)
 simp only [ln19ao_19, Act.put, sA, sB, sC]
 refine tj 20 ln19ao_20 (.slice (some ⟨g1, o1, none⟩) n c1) hH0 (fun w0 hSw => ?_) ?_
 ·(unfold ln19ao_20; clear hSw; go_simp)
 simp only [ln19ao_20, Act.put, sA, sB, sC]
 refine tj 21 ln19ao_21 (.int .i64 (i : Int)) hH0 (fun w0 hSw => ?_) ?_
 ·(unfold ln19ao_21; clear hSw; go_simp)
 simp only [ln19ao_21, Act.put, sA, sB, sC]
 refine tj 24 ln19ao_24 (.agg #[.int .i64 qk, .int .i64 qi, .int .u64 p.x0, .int .u64 p.x1, .int .u64 p.x2, .int .u64 p.x3]) hH0 (fun w0 hSw => ?_) ?_
 ·(unfold ln19ao_24; have hS : Below W.heap.size W w0 := hSw; have a0 := cell_keep m0 hS; have a1 := cell_keep m1 hS; have a2 := cell_keep m2 hS; have a3 := cell_keep m3 hS; have a4 := cell_keep m4 hS; have a5 := cell_keep m5 hS; clear hS hSw; go_simp)
 simp only [ln19ao_24, Act.put, sA, sB, sC]
 refine tj 22 ln19ao_22 (.pointer (some ⟨g1, o1 + i * 6, none⟩)) hH0 (fun w0 hSw => ?_) ?_
 ·(unfold ln19ao_22; clear hSw; go_simp)
 simp only [ln19ao_22, Act.put, sA, sB, sC]
 refine tj 23 ln19ao_23 (.agg #[.int .i64 qk, .int .i64 qi, .int .u64 p.x0, .int .u64 p.x1, .int .u64 p.x2, .int .u64 p.x3]) hH0 (fun w0 hSw => ?_) ?_
 ·(unfold ln19ao_23; have hS : Below W.heap.size W w0 := hSw; have a0 := cell_keep l0 hS; have a1 := cell_keep l1 hS; have a2 := cell_keep l2 hS; have a3 := cell_keep l3 hS; have a4 := cell_keep l4 hS; have a5 := cell_keep l5 hS; clear hS hSw; go_simp)
 simp only [ln19ao_23, Act.put, sA, sB, sC]
 refine tj 25 ln19ao_25 (.bool false) hH0 (fun w0 hSw => ?_) ?_
 ·(unfold ln19ao_25; clear hSw; have e0 := NP.out w0; go_simp)
 simp only [ln19ao_25, Act.put, sA, sB, sC]
 refine tj 26 ln19ao_26 (.bool false) hH0 (fun w0 hSw => ?_) ?_
 ·(unfold ln19ao_26; clear hSw; go_simp)
 simp only [ln19ao_26, Act.put, sA, sB, sC]
 refine tj 27 ln19ao_27 (.slice (some ⟨g2, o2, none⟩) n c2) hH0 (fun w0 hSw => ?_) ?_
 ·(unfold ln19ao_27; clear hSw; go_simp)
 simp only [ln19ao_27, Act.put, sA, sB, sC]
 refine tj 28 ln19ao_28 (.int .i64 (i : Int)) hH0 (fun w0 hSw => ?_) ?_
 ·(unfold ln19ao_28; clear hSw; go_simp)
 simp only [ln19ao_28, Act.put, sA, sB, sC]
 refine tj 31 ln19ao_31 (.agg #[.int .i64 rk, .int .i64 ri, .int .u64 r.x0, .int .u64 r.x1, .int .u64 r.x2, .int .u64 r.x3]) hH0 (fun w0 hSw => ?_) ?_
 ·(unfold ln19ao_31; have hS : Below W.heap.size W w0 := hSw; have a0 := cell_keep z0 hS; have a1 := cell_keep z1 hS; have a2 := cell_keep z2 hS; have a3 := cell_keep z3 hS; have a4 := cell_keep z4 hS; have a5 := cell_keep z5 hS; clear hS hSw; go_simp)
 simp only [ln19ao_31, Act.put, sA, sB, sC]
 refine tj 29 ln19ao_29 (.pointer (some ⟨g2, o2 + i * 6, none⟩)) hH0 (fun w0 hSw => ?_) ?_
 ·(unfold ln19ao_29; clear hSw; go_simp)
 simp only [ln19ao_29, Act.put, sA, sB, sC]
 refine tj 30 ln19ao_30 (.agg #[.int .i64 rk, .int .i64 ri, .int .u64 r.x0, .int .u64 r.x1, .int .u64 r.x2, .int .u64 r.x3]) hH0 (fun w0 hSw => ?_) ?_
 ·(unfold ln19ao_30; have hS : Below W.heap.size W w0 := hSw; have a0 := cell_keep k0 hS; have a1 := cell_keep k1 hS; have a2 := cell_keep k2 hS; have a3 := cell_keep k3 hS; have a4 := cell_keep k4 hS; have a5 := cell_keep k5 hS; clear hS hSw; go_simp)
 simp only [ln19ao_30, Act.put, sA, sB, sC]
 refine tj 32 ln19ao_32 (.bool false) hH0 (fun w0 hSw => ?_) ?_
 ·(unfold ln19ao_32; clear hSw; have e0 := NR.out w0; go_simp)
 simp only [ln19ao_32, Act.put, sA, sB, sC]
 refine tj 33 ln19ao_33 (.bool false) hH0 (fun w0 hSw => ?_) ?_
 ·(unfold ln19ao_33; clear hSw; go_simp)
 simp only [ln19ao_33, Act.put, sA, sB, sC]
 refine tj 34 ln19ao_34 (.bool false) hH0 (fun w0 hSw => ?_) ?_
 ·(unfold ln19ao_34; clear hSw; go_simp)
 simp only [ln19ao_34, Act.put, sA, sB, sC]
 refine tj 35 ln19ao_35 (.bool false) hH0 (fun w0 hSw => ?_) ?_
 ·(unfold ln19ao_35 oO; clear hSw; go_simp)
 simp only [ln19ao_35, oO, Act.put, sA, sB, sC]
 have HH := Hn hH0
 have FQ := Hn (HQ.out _ HH.out)
 refine wpAnyH_done (by kernel_rfl) ?_ _
 refine NoPanic.normal ?_
 exact FQ.out
def ln19bo : Array Oper := #[ln19ao_0,
 ln19ao_1,
 ln19ao_2,
 ln19ao_3,
 ln19ao_4,
 ln19ao_5,
 ln19ao_6,
 ln19ao_7,
 ln19ao_8,
 ln19ao_9,
 ln19ao_10,
 ln19ao_11,
 ln19ao_12,
 ln19ao_13,
 ln19ao_14,
 ln19ao_15,
 ln19ao_16,
 ln19ao_17,
 ln19ao_18,
 ln19ao_19,
 ln19ao_20,
 ln19ao_21,
 ln19ao_22,
 ln19ao_23,
 ln19ao_24,
 ln19ao_25,
 ln19ao_26,
 ln19ao_27,
 ln19ao_28,
 ln19ao_29,
 ln19ao_30,
 ln19ao_31,
 ln19ao_32,
 ln19ao_33,
 ln19ao_34,
 ln19ao_35]
theorem ln19b (Q : Exit → Act → World → Prop) (gx ox gy oy b5 N n cx cy c1 c2 i : Nat) (qk qi rk ri : Int) (p r : E4) (P1 P2 : Option Addr) (u2 u3 u4 u6 u7 aa ab ad ae af ag ah ai aj ak al am an ao ap aq au av aw ax ay az aA aB aC aD aE aF aG aH aI aJ aK aL aM aN aO aP aQ aR aS aT aU aV aW aX aY aZ a6 a7 a8 a9 ba bb bc bd be bg bh bi bj bk bl bm bn bo bp bq br bs bt bu bv bw bx bz bA bB bC bD : Value) (W : World)
  (i0 : (0 : Int) ≤ (i : Int)) (i1 : (i : Int) < (N : Int)) (i2 : ¬ (i : Int) < (n : Int))
  (x0 : W.cell? ⟨gx, ox + i * 6, none⟩ = some (.int .i64 qk)) (x1 : W.cell? ⟨gx, ox + i * 6 + 1, none⟩ = some (.int .i64 qi)) (x2 : W.cell? ⟨gx, ox + i * 6 + 2, none⟩ = some (.int .u64 p.x0)) (x3 : W.cell? ⟨gx, ox + i * 6 + 3, none⟩ = some (.int .u64 p.x1)) (x4 : W.cell? ⟨gx, ox + i * 6 + 4, none⟩ = some (.int .u64 p.x2)) (x5 : W.cell? ⟨gx, ox + i * 6 + 5, none⟩ = some (.int .u64 p.x3))
  (m0 : W.cell? ⟨0, 0, none⟩ = some (.int .i64 qk)) (m1 : W.cell? ⟨0, 1, none⟩ = some (.int .i64 qi)) (m2 : W.cell? ⟨0, 2, none⟩ = some (.int .u64 p.x0)) (m3 : W.cell? ⟨0, 3, none⟩ = some (.int .u64 p.x1)) (m4 : W.cell? ⟨0, 4, none⟩ = some (.int .u64 p.x2)) (m5 : W.cell? ⟨0, 5, none⟩ = some (.int .u64 p.x3))
  (y0 : W.cell? ⟨gy, oy + i * 6, none⟩ = some (.int .i64 rk)) (y1 : W.cell? ⟨gy, oy + i * 6 + 1, none⟩ = some (.int .i64 ri)) (y2 : W.cell? ⟨gy, oy + i * 6 + 2, none⟩ = some (.int .u64 r.x0)) (y3 : W.cell? ⟨gy, oy + i * 6 + 3, none⟩ = some (.int .u64 r.x1)) (y4 : W.cell? ⟨gy, oy + i * 6 + 4, none⟩ = some (.int .u64 r.x2)) (y5 : W.cell? ⟨gy, oy + i * 6 + 5, none⟩ = some (.int .u64 r.x3))
  (z0 : W.cell? ⟨b5, 0, none⟩ = some (.int .i64 rk)) (z1 : W.cell? ⟨b5, 1, none⟩ = some (.int .i64 ri)) (z2 : W.cell? ⟨b5, 2, none⟩ = some (.int .u64 r.x0)) (z3 : W.cell? ⟨b5, 3, none⟩ = some (.int .u64 r.x1)) (z4 : W.cell? ⟨b5, 4, none⟩ = some (.int .u64 r.x2)) (z5 : W.cell? ⟨b5, 5, none⟩ = some (.int .u64 r.x3))
  (NP : Hid (∀ y, (Op.equalIn 9999 41 (.agg #[.int .u64 p.x0, .int .u64 p.x1, .int .u64 p.x2, .int .u64 p.x3]) (.agg #[.int .u64 p.x0, .int .u64 p.x1, .int .u64 p.x2, .int .u64 p.x3])).run Tryz.prog y = .ok true y)) (NR : Hid (∀ y, (Op.equalIn 9999 41 (.agg #[.int .u64 r.x0, .int .u64 r.x1, .int .u64 r.x2, .int .u64 r.x3]) (.agg #[.int .u64 r.x0, .int .u64 r.x1, .int .u64 r.x2, .int .u64 r.x3])).run Tryz.prog y = .ok true y))
  (HQ : Hid (∀ (wz : World), Below W.heap.size W wz → Q .normal ⟨#[.slice P1 n c1, .slice P2 n c2, u2, u3, u4, .pointer (some ⟨b5, 0, none⟩), u6, u7, .slice (some ⟨gx, ox, none⟩) N cx, .slice (some ⟨gy, oy, none⟩) N cy, aa, .int .i64 (i : Int), ab, ad, ae, af, ag, ah, ai, aj, ak, al, am, an, ao, ap, aq, au, av, aw, ax, ay, az, aA, aB, aC, aD, aE, aF, aG, aH, aI, aJ, aK, aL, aM, aN, aO, aP, aQ, aR, aS, aT, aU, aV, .slice (some ⟨gx, ox, none⟩) N cx, .int .i64 (i : Int), .pointer (some ⟨gx, ox + i * 6, none⟩), .agg #[.int .i64 qk, .int .i64 qi, .int .u64 p.x0, .int .u64 p.x1, .int .u64 p.x2, .int .u64 p.x3], .agg #[.int .i64 qk, .int .i64 qi, .int .u64 p.x0, .int .u64 p.x1, .int .u64 p.x2, .int .u64 p.x3], .bool false, .bool false, .slice (some ⟨gy, oy, none⟩) N cy, .int .i64 (i : Int), .pointer (some ⟨gy, oy + i * 6, none⟩), .agg #[.int .i64 rk, .int .i64 ri, .int .u64 r.x0, .int .u64 r.x1, .int .u64 r.x2, .int .u64 r.x3], .agg #[.int .i64 rk, .int .i64 ri, .int .u64 r.x0, .int .u64 r.x1, .int .u64 r.x2, .int .u64 r.x3], .bool false, .bool false, .bool false, .int .i64 (i : Int), .slice P1 n c1, .int .i64 (n : Int), .bool false, .bool false, undef, undef, undef, undef, undef, undef, undef, undef, undef, undef, undef, undef, undef, undef, .bool false, .bool false], []⟩ wz)) : (Code.region 19 ln19bo true).wp Tryz.prog Q ⟨#[.slice P1 n c1, .slice P2 n c2, u2, u3, u4, .pointer (some ⟨b5, 0, none⟩), u6, u7, .slice (some ⟨gx, ox, none⟩) N cx, .slice (some ⟨gy, oy, none⟩) N cy, aa, .int .i64 (i : Int), ab, ad, ae, af, ag, ah, ai, aj, ak, al, am, an, ao, ap, aq, au, av, aw, ax, ay, az, aA, aB, aC, aD, aE, aF, aG, aH, aI, aJ, aK, aL, aM, aN, aO, aP, aQ, aR, aS, aT, aU, aV, aW, aX, aY, aZ, a6, a7, a8, a9, ba, bb, bc, bd, be, bg, bh, bi, bj, bk, bl, bm, bn, bo, bp, bq, br, bs, bt, bu, bv, bw, bx, bz, bA, bB, bC, bD], []⟩ W := by
 unfold ln19bo
 refine wp_region_noPanic ?_
 refine wp_region_held_drew (S := fun x => Below W.heap.size W x) (by kernel_rfl) (bl_drew W) (fun hH0 => ?_)
 refine tj 0 ln19ao_0 (.slice (some ⟨gx, ox, none⟩) N cx) hH0 (fun w0 hSw => ?_) ?_
 ·(unfold ln19ao_0 oO; clear hSw; go_simp)
 simp only [ln19ao_0, oO, Act.put, sA, sB, sC]
 refine tj 1 ln19ao_1 (.int .i64 (i : Int)) hH0 (fun w0 hSw => ?_) ?_
 ·(unfold ln19ao_1 oO; clear hSw; go_simp)
 simp only [ln19ao_1, oO, Act.put, sA, sB, sC]
 refine tj 4 ln19ao_4 (.agg #[.int .i64 qk, .int .i64 qi, .int .u64 p.x0, .int .u64 p.x1, .int .u64 p.x2, .int .u64 p.x3]) hH0 (fun w0 hSw => ?_) ?_
 ·(unfold ln19ao_4 oO; have hS : Below W.heap.size W w0 := hSw; have a0 := cell_keep m0 hS; have a1 := cell_keep m1 hS; have a2 := cell_keep m2 hS; have a3 := cell_keep m3 hS; have a4 := cell_keep m4 hS; have a5 := cell_keep m5 hS; clear hS hSw; go_simp)
 simp only [ln19ao_4, oO, Act.put, sA, sB, sC]
 refine tj 2 ln19ao_2 (.pointer (some ⟨gx, ox + i * 6, none⟩)) hH0 (fun w0 hSw => ?_) ?_
 ·(unfold ln19ao_2 oO; clear hSw; go_simp)
 simp only [ln19ao_2, oO, Act.put, sA, sB, sC]
 refine tj 3 ln19ao_3 (.agg #[.int .i64 qk, .int .i64 qi, .int .u64 p.x0, .int .u64 p.x1, .int .u64 p.x2, .int .u64 p.x3]) hH0 (fun w0 hSw => ?_) ?_
 ·(unfold ln19ao_3 oO; have hS : Below W.heap.size W w0 := hSw; have a0 := cell_keep x0 hS; have a1 := cell_keep x1 hS; have a2 := cell_keep x2 hS; have a3 := cell_keep x3 hS; have a4 := cell_keep x4 hS; have a5 := cell_keep x5 hS; clear hS hSw; go_simp)
 simp only [ln19ao_3, oO, Act.put, sA, sB, sC]
 refine tj 5 ln19ao_5 (.bool false) hH0 (fun w0 hSw => ?_) ?_
 ·(unfold ln19ao_5 oO; clear hSw; have e0 := NP.out w0; go_simp)
 simp only [ln19ao_5, oO, Act.put, sA, sB, sC]
 refine tj 6 ln19ao_6 (.bool false) hH0 (fun w0 hSw => ?_) ?_
 ·(unfold ln19ao_6 oO; clear hSw; go_simp)
 simp only [ln19ao_6, oO, Act.put, sA, sB, sC]
 refine tj 7 ln19ao_7 (.slice (some ⟨gy, oy, none⟩) N cy) hH0 (fun w0 hSw => ?_) ?_
 ·(unfold ln19ao_7; clear hSw; go_simp)
 simp only [ln19ao_7, Act.put, sA, sB, sC]
 refine tj 8 ln19ao_8 (.int .i64 (i : Int)) hH0 (fun w0 hSw => ?_) ?_
 ·(unfold ln19ao_8; clear hSw; go_simp)
 simp only [ln19ao_8, Act.put, sA, sB, sC]
 refine tj 11 ln19ao_11 (.agg #[.int .i64 rk, .int .i64 ri, .int .u64 r.x0, .int .u64 r.x1, .int .u64 r.x2, .int .u64 r.x3]) hH0 (fun w0 hSw => ?_) ?_
 ·(unfold ln19ao_11; have hS : Below W.heap.size W w0 := hSw; have a0 := cell_keep z0 hS; have a1 := cell_keep z1 hS; have a2 := cell_keep z2 hS; have a3 := cell_keep z3 hS; have a4 := cell_keep z4 hS; have a5 := cell_keep z5 hS; clear hS hSw; go_simp)
 simp only [ln19ao_11, Act.put, sA, sB, sC]
 refine tj 9 ln19ao_9 (.pointer (some ⟨gy, oy + i * 6, none⟩)) hH0 (fun w0 hSw => ?_) ?_
 ·(unfold ln19ao_9; clear hSw; go_simp)
 simp only [ln19ao_9, Act.put, sA, sB, sC]
 refine tj 10 ln19ao_10 (.agg #[.int .i64 rk, .int .i64 ri, .int .u64 r.x0, .int .u64 r.x1, .int .u64 r.x2, .int .u64 r.x3]) hH0 (fun w0 hSw => ?_) ?_
 ·(unfold ln19ao_10; have hS : Below W.heap.size W w0 := hSw; have a0 := cell_keep y0 hS; have a1 := cell_keep y1 hS; have a2 := cell_keep y2 hS; have a3 := cell_keep y3 hS; have a4 := cell_keep y4 hS; have a5 := cell_keep y5 hS; clear hS hSw; go_simp)
 simp only [ln19ao_10, Act.put, sA, sB, sC]
 refine tj 12 ln19ao_12 (.bool false) hH0 (fun w0 hSw => ?_) ?_
 ·(unfold ln19ao_12; clear hSw; have e0 := NR.out w0; go_simp)
 simp only [ln19ao_12, Act.put, sA, sB, sC]
 refine tj 13 ln19ao_13 (.bool false) hH0 (fun w0 hSw => ?_) ?_
 ·(unfold ln19ao_13 oO; clear hSw; go_simp)
 simp only [ln19ao_13, oO, Act.put, sA, sB, sC]
 refine tj 14 ln19ao_14 (.bool false) hH0 (fun w0 hSw => ?_) ?_
 ·(unfold ln19ao_14 oO; clear hSw; go_simp)
 simp only [ln19ao_14, oO, Act.put, sA, sB, sC]
 refine tj 15 ln19ao_15 (.int .i64 (i : Int)) hH0 (fun w0 hSw => ?_) ?_
 ·(unfold ln19ao_15; clear hSw; go_simp)
 simp only [ln19ao_15, Act.put, sA, sB, sC]
 refine tj 16 ln19ao_16 (.slice P1 n c1) hH0 (fun w0 hSw => ?_) ?_
 ·(unfold ln19ao_16; clear hSw; go_simp)
 simp only [ln19ao_16, Act.put, sA, sB, sC]
 refine tj 17 ln19ao_17 (.int .i64 (n : Int)) hH0 (fun w0 hSw => ?_) ?_
 ·(unfold ln19ao_17; clear hSw; go_simp)
 simp only [ln19ao_17, Act.put, sA, sB, sC]
 refine tj 18 ln19ao_18 (.bool false) hH0 (fun w0 hSw => ?_) ?_
 ·(unfold ln19ao_18; clear hSw; go_simp)
 simp only [ln19ao_18, Act.put, sA, sB, sC]
 refine tj 19 ln19ao_19 (.bool false) hH0 (fun w0 hSw => ?_) ?_
 ·(unfold ln19ao_19; clear hSw; go_simp)
 simp only [ln19ao_19, Act.put, sA, sB, sC]
 refine wpAnyH_take (i := 20) (oi := ln19ao_20) (v := undef) rfl (by kernel_rfl) (by kernel_rfl) (by kernel_rfl) (fun _ _ _ h => h) (Or.inr ⟨by rfl, rfl⟩) hH0 ?_
 simp only [ln19ao_20, Act.put, sA, sB, sC]
 refine wpAnyH_take (i := 21) (oi := ln19ao_21) (v := undef) rfl (by kernel_rfl) (by kernel_rfl) (by kernel_rfl) (fun _ _ _ h => h) (Or.inr ⟨by rfl, rfl⟩) hH0 ?_
 simp only [ln19ao_21, Act.put, sA, sB, sC]
 refine wpAnyH_take (i := 24) (oi := ln19ao_24) (v := undef) rfl (by kernel_rfl) (by kernel_rfl) (by kernel_rfl) (fun _ _ _ h => h) (Or.inr ⟨by rfl, rfl⟩) hH0 ?_
 simp only [ln19ao_24, Act.put, sA, sB, sC]
 refine wpAnyH_take (i := 22) (oi := ln19ao_22) (v := undef) rfl (by kernel_rfl) (by kernel_rfl) (by kernel_rfl) (fun _ _ _ h => h) (Or.inr ⟨by rfl, rfl⟩) hH0 ?_
 simp only [ln19ao_22, Act.put, sA, sB, sC]
 refine wpAnyH_take (i := 23) (oi := ln19ao_23) (v := undef) rfl (by kernel_rfl) (by kernel_rfl) (by kernel_rfl) (fun _ _ _ h => h) (Or.inr ⟨by rfl, rfl⟩) hH0 ?_
 simp only [ln19ao_23, Act.put, sA, sB, sC]
 refine wpAnyH_take (i := 25) (oi := ln19ao_25) (v := undef) rfl (by kernel_rfl) (by kernel_rfl) (by kernel_rfl) (fun _ _ _ h => h) (Or.inr ⟨by rfl, rfl⟩) hH0 ?_
 simp only [ln19ao_25, Act.put, sA, sB, sC]
 refine wpAnyH_take (i := 26) (oi := ln19ao_26) (v := undef) rfl (by kernel_rfl) (by kernel_rfl) (by kernel_rfl) (fun _ _ _ h => h) (Or.inr ⟨by rfl, rfl⟩) hH0 ?_
 simp only [ln19ao_26, Act.put, sA, sB, sC]
 refine wpAnyH_take (i := 27) (oi := ln19ao_27) (v := undef) rfl (by kernel_rfl) (by kernel_rfl) (by kernel_rfl) (fun _ _ _ h => h) (Or.inr ⟨by rfl, rfl⟩) hH0 ?_
 simp only [ln19ao_27, Act.put, sA, sB, sC]
 refine wpAnyH_take (i := 28) (oi := ln19ao_28) (v := undef) rfl (by kernel_rfl) (by kernel_rfl) (by kernel_rfl) (fun _ _ _ h => h) (Or.inr ⟨by rfl, rfl⟩) hH0 ?_
 simp only [ln19ao_28, Act.put, sA, sB, sC]
 refine wpAnyH_take (i := 31) (oi := ln19ao_31) (v := undef) rfl (by kernel_rfl) (by kernel_rfl) (by kernel_rfl) (fun _ _ _ h => h) (Or.inr ⟨by rfl, rfl⟩) hH0 ?_
 simp only [ln19ao_31, Act.put, sA, sB, sC]
 refine wpAnyH_take (i := 29) (oi := ln19ao_29) (v := undef) rfl (by kernel_rfl) (by kernel_rfl) (by kernel_rfl) (fun _ _ _ h => h) (Or.inr ⟨by rfl, rfl⟩) hH0 ?_
 simp only [ln19ao_29, Act.put, sA, sB, sC]
 refine wpAnyH_take (i := 30) (oi := ln19ao_30) (v := undef) rfl (by kernel_rfl) (by kernel_rfl) (by kernel_rfl) (fun _ _ _ h => h) (Or.inr ⟨by rfl, rfl⟩) hH0 ?_
 simp only [ln19ao_30, Act.put, sA, sB, sC]
 refine wpAnyH_take (i := 32) (oi := ln19ao_32) (v := undef) rfl (by kernel_rfl) (by kernel_rfl) (by kernel_rfl) (fun _ _ _ h => h) (Or.inr ⟨by rfl, rfl⟩) hH0 ?_
 simp only [ln19ao_32, Act.put, sA, sB, sC]
 refine wpAnyH_take (i := 33) (oi := ln19ao_33) (v := undef) rfl (by kernel_rfl) (by kernel_rfl) (by kernel_rfl) (fun _ _ _ h => h) (Or.inr ⟨by rfl, rfl⟩) hH0 ?_
 simp only [ln19ao_33, Act.put, sA, sB, sC]
 refine tj 34 ln19ao_34 (.bool false) hH0 (fun w0 hSw => ?_) ?_
 ·(unfold ln19ao_34; clear hSw; go_simp)
 simp only [ln19ao_34, Act.put, sA, sB, sC]
 refine tj 35 ln19ao_35 (.bool false) hH0 (fun w0 hSw => ?_) ?_
 ·(unfold ln19ao_35 oO; clear hSw; go_simp)
 simp only [ln19ao_35, oO, Act.put, sA, sB, sC]
 have HH := Hn hH0
 have FQ := Hn (HQ.out _ HH.out)
 refine wpAnyH_done (by kernel_rfl) ?_ _
 refine NoPanic.normal ?_
 exact FQ.out
end Ci
end Go.Proofs.YtghcfcglakbkeaaGreatDoor
