import Derived.Test.YtljmgfclhbadjaaGreatDoorTk
import Derived.Test.YtljmgfclhbadjaaGreatDoorDnp
import Derived.Test.YtljmgfclhbadjaaGreatDoorDuz
namespace Go.Proofs.YtljmgfclhbadjaaGreatDoor
set_option maxRecDepth 100000
set_option maxHeartbeats 16000000
open Go.RowKit
set_option linter.unusedVariables false
set_option linter.unusedSimpArgs false
open Cm (Wr Tm co bf Ls lf ins Eqm)
namespace Ci
def pm9ao_0 : Oper := oO 28 (Op.move (Operand.tmp 5)) 95 "outright.go:202" #[]
def pm9ao_1 : Oper := oO 29 (Op.move (Operand.tmp 8)) 3 "outright.go:202" #[]
def pm9ao_2 : Oper := oO 30 (Op.indexAddr 95 (Operand.tmp 28) (Operand.tmp 29)) 0 "outright.go:202" #[DD 0, DD 1]
def pm9ao_3 : Oper := oO 31 (Op.load 4 (Operand.tmp 30)) 4 "outright.go:202" #[DD 2]
def pm9ao_4 : Oper := oO 32 (Op.unOp UnOp.not 4 (Operand.tmp 31)) 4 "outright.go:202" #[DD 3]
def pm9ao_5 : Oper := oO 33 (Op.move (Operand.tmp 32)) 4 "outright.go:202" #[DD 4]
def pm9ao_6 : Oper := { dst := some 34, op := Op.move (Operand.tmp 0), type := 22, pos := "outright.go:202", after := #[GU 5], guard := some (5, true) }
def pm9ao_7 : Oper := { dst := some 35, op := Op.move (Operand.tmp 6), type := 3, pos := "outright.go:202", after := #[GU 5], guard := some (5, true) }
def pm9ao_8 : Oper := { dst := some 36, op := Op.indexAddr 22 (Operand.tmp 34) (Operand.tmp 35), type := 0, pos := "outright.go:202", after := #[DD 6, DD 7, GU 5], guard := some (5, true) }
def pm9ao_9 : Oper := { dst := some 37, op := Op.load 26 (Operand.tmp 36), type := 26, pos := "outright.go:202", after := #[DD 8, GU 5], guard := some (5, true) }
def pm9ao_10 : Oper := { dst := some 38, op := Op.call { callee := Callee.value (Operand.func 11), args := #[Operand.tmp 37], argTypes := #[26] }, type := 27, pos := "outright.go:202", after := #[DD 9, CH 5, GU 5], guard := some (5, true) }
def pm9ao_11 : Oper := { dst := some 39, op := Op.move (Operand.tmp 1), type := 22, pos := "outright.go:202", after := #[GU 5], guard := some (5, true) }
def pm9ao_12 : Oper := { dst := some 40, op := Op.move (Operand.tmp 8), type := 3, pos := "outright.go:202", after := #[GU 5], guard := some (5, true) }
def pm9ao_13 : Oper := { dst := some 41, op := Op.indexAddr 22 (Operand.tmp 39) (Operand.tmp 40), type := 0, pos := "outright.go:202", after := #[DD 11, DD 12, GU 5], guard := some (5, true) }
def pm9ao_14 : Oper := { dst := some 42, op := Op.load 26 (Operand.tmp 41), type := 26, pos := "outright.go:202", after := #[DD 13, GU 5], guard := some (5, true) }
def pm9ao_15 : Oper := { dst := some 43, op := Op.call { callee := Callee.value (Operand.func 11), args := #[Operand.tmp 42], argTypes := #[26] }, type := 27, pos := "outright.go:202", after := #[DD 14, CH 10, GU 5], guard := some (5, true) }
def pm9ao_16 : Oper := { dst := some 44, op := Op.binOp BinOp.eql 27 (Operand.tmp 38) (Operand.tmp 43) 27, type := 4, pos := "outright.go:202", after := #[DD 10, DD 15, GU 5], guard := some (5, true) }
def pm9ao_17 : Oper := oO 45 (Op.pick (Operand.tmp 33) (Operand.tmp 44) (Operand.const (Value.bool false))) 4 "outright.go:202" #[DD 5, DD 16]
def pm9ao : Array Oper := #[pm9ao_0, pm9ao_1, pm9ao_2, pm9ao_3, pm9ao_4, pm9ao_5, pm9ao_6, pm9ao_7, pm9ao_8, pm9ao_9, pm9ao_10, pm9ao_11, pm9ao_12, pm9ao_13, pm9ao_14, pm9ao_15, pm9ao_16, pm9ao_17]
theorem pm9a (Q : Exit → Act → World → Prop) (ub n cu j : Nat) (u0 u1 u2 u3 u4 u6 u7 u9 aa ab ad ae af ag ah ai aj ak al am an ao ap aq au av aw ax ay az aA aB aC aD aE aF aG aH aI aJ aK aL aM aN aO aP aQ aR aS aT aU aV aW aX : Value) (W : World)
  (j0 : (0 : Int) ≤ (j : Int)) (j1 : (j : Int) < (n : Int)) (q0 : W.cell? ⟨ub, j, none⟩ = some (.bool true))
  (HQ : Hid (∀ (wz : World), Below W.heap.size W wz → Q .normal ⟨#[u0, u1, u2, u3, u4, .slice (some ⟨ub, 0, none⟩) n cu, u6, u7, .int .i64 (j : Int), u9, aa, ab, ad, ae, af, ag, ah, ai, aj, ak, al, am, an, ao, ap, aq, au, av, .slice (some ⟨ub, 0, none⟩) n cu, .int .i64 (j : Int), .pointer (some ⟨ub, j, none⟩), .bool true, .bool false, .bool false, undef, undef, undef, undef, undef, undef, undef, undef, undef, undef, undef, .bool false, aO, aP, aQ, aR, aS, aT, aU, aV, aW, aX], []⟩ wz)) : (Code.region 9 pm9ao true).wp Tryz.prog Q ⟨#[u0, u1, u2, u3, u4, .slice (some ⟨ub, 0, none⟩) n cu, u6, u7, .int .i64 (j : Int), u9, aa, ab, ad, ae, af, ag, ah, ai, aj, ak, al, am, an, ao, ap, aq, au, av, aw, ax, ay, az, aA, aB, aC, aD, aE, aF, aG, aH, aI, aJ, aK, aL, aM, aN, aO, aP, aQ, aR, aS, aT, aU, aV, aW, aX], []⟩ W := by
 unfold pm9ao
 refine wp_region_noPanic ?_
 refine wp_region_held_drew (S := fun x => Below W.heap.size W x) (by kernel_rfl) (bl_drew W) (fun hH0 => ?_)
 refine tj 0 pm9ao_0 (.slice (some ⟨ub, 0, none⟩) n cu) hH0 (fun w0 hSw => ?_) ?_
 ·(unfold pm9ao_0 oO; clear hSw; go_simp)
 simp only [pm9ao_0, oO, Act.put, sA, sB, sC]
 refine tj 1 pm9ao_1 (.int .i64 (j : Int)) hH0 (fun w0 hSw => ?_) ?_
 ·(unfold pm9ao_1 oO; clear hSw; go_simp)
 simp only [pm9ao_1, oO, Act.put, sA, sB, sC]
 refine tj 2 pm9ao_2 (.pointer (some ⟨ub, j, none⟩)) hH0 (fun w0 hSw => ?_) ?_
 ·(unfold pm9ao_2 oO; clear hSw; go_simp)
 simp only [pm9ao_2, oO, Act.put, sA, sB, sC]
 refine tj 3 pm9ao_3 (.bool true) hH0 (fun w0 hSw => ?_) ?_
 ·(unfold pm9ao_3 oO; have hS : Below W.heap.size W w0 := hSw; have a0 := cell_keep q0 hS; clear hS hSw; go_simp)
 simp only [pm9ao_3, oO, Act.put, sA, sB, sC]
 refine tj 4 pm9ao_4 (.bool false) hH0 (fun w0 hSw => ?_) ?_
 ·(unfold pm9ao_4 oO; clear hSw; go_simp)
 simp only [pm9ao_4, oO, Act.put, sA, sB, sC]
 refine tj 5 pm9ao_5 (.bool false) hH0 (fun w0 hSw => ?_) ?_
 ·(unfold pm9ao_5 oO; clear hSw; go_simp)
 simp only [pm9ao_5, oO, Act.put, sA, sB, sC]
 refine wpAnyH_take (i := 6) (oi := pm9ao_6) (v := undef) rfl (by kernel_rfl) (by kernel_rfl) (by kernel_rfl) (fun _ _ _ h => h) (Or.inr ⟨by rfl, rfl⟩) hH0 ?_
 simp only [pm9ao_6, Act.put, sA, sB, sC]
 refine wpAnyH_take (i := 7) (oi := pm9ao_7) (v := undef) rfl (by kernel_rfl) (by kernel_rfl) (by kernel_rfl) (fun _ _ _ h => h) (Or.inr ⟨by rfl, rfl⟩) hH0 ?_
 simp only [pm9ao_7, Act.put, sA, sB, sC]
 refine wpAnyH_take (i := 11) (oi := pm9ao_11) (v := undef) rfl (by kernel_rfl) (by kernel_rfl) (by kernel_rfl) (fun _ _ _ h => h) (Or.inr ⟨by rfl, rfl⟩) hH0 ?_
 simp only [pm9ao_11, Act.put, sA, sB, sC]
 refine wpAnyH_take (i := 12) (oi := pm9ao_12) (v := undef) rfl (by kernel_rfl) (by kernel_rfl) (by kernel_rfl) (fun _ _ _ h => h) (Or.inr ⟨by rfl, rfl⟩) hH0 ?_
 simp only [pm9ao_12, Act.put, sA, sB, sC]
 refine wpAnyH_take (i := 8) (oi := pm9ao_8) (v := undef) rfl (by kernel_rfl) (by kernel_rfl) (by kernel_rfl) (fun _ _ _ h => h) (Or.inr ⟨by rfl, rfl⟩) hH0 ?_
 simp only [pm9ao_8, Act.put, sA, sB, sC]
 refine wpAnyH_take (i := 13) (oi := pm9ao_13) (v := undef) rfl (by kernel_rfl) (by kernel_rfl) (by kernel_rfl) (fun _ _ _ h => h) (Or.inr ⟨by rfl, rfl⟩) hH0 ?_
 simp only [pm9ao_13, Act.put, sA, sB, sC]
 refine wpAnyH_take (i := 9) (oi := pm9ao_9) (v := undef) rfl (by kernel_rfl) (by kernel_rfl) (by kernel_rfl) (fun _ _ _ h => h) (Or.inr ⟨by rfl, rfl⟩) hH0 ?_
 simp only [pm9ao_9, Act.put, sA, sB, sC]
 refine wpAnyH_take (i := 14) (oi := pm9ao_14) (v := undef) rfl (by kernel_rfl) (by kernel_rfl) (by kernel_rfl) (fun _ _ _ h => h) (Or.inr ⟨by rfl, rfl⟩) hH0 ?_
 simp only [pm9ao_14, Act.put, sA, sB, sC]
 refine ar [10] ?_
 refine ac pm9ao_10 (fun K hK => ?_) AllReadyH.nil
 unfold pm9ao_10
 refine Eq.mpr (if_neg (by exact fun h => Bool.false_ne_true h)) ?_
 refine hK.out _ _ hH0 (fun hzz => ?_)
 clear hK K hzz
 simp only [Act.put, sA, sB, sC]
 refine ar [15] ?_
 refine ac pm9ao_15 (fun K hK => ?_) AllReadyH.nil
 unfold pm9ao_15
 refine Eq.mpr (if_neg (by exact fun h => Bool.false_ne_true h)) ?_
 refine hK.out _ _ hH0 (fun hzz => ?_)
 clear hK K hzz
 simp only [Act.put, sA, sB, sC]
 refine wpAnyH_take (i := 16) (oi := pm9ao_16) (v := undef) rfl (by kernel_rfl) (by kernel_rfl) (by kernel_rfl) (fun _ _ _ h => h) (Or.inr ⟨by rfl, rfl⟩) hH0 ?_
 simp only [pm9ao_16, Act.put, sA, sB, sC]
 refine tj 17 pm9ao_17 (.bool false) hH0 (fun w0 hSw => ?_) ?_
 ·(unfold pm9ao_17 oO; clear hSw; go_simp)
 simp only [pm9ao_17, oO, Act.put, sA, sB, sC]
 have HH := Hn hH0
 have FQ := Hn (HQ.out _ HH.out)
 refine wpAnyH_done (by kernel_rfl) ?_ _
 refine NoPanic.normal ?_
 exact FQ.out
def pm9bo : Array Oper := #[pm9ao_0,
 pm9ao_1,
 pm9ao_2,
 pm9ao_3,
 pm9ao_4,
 pm9ao_5,
 pm9ao_6,
 pm9ao_7,
 pm9ao_8,
 pm9ao_9,
 pm9ao_10,
 pm9ao_11,
 pm9ao_12,
 pm9ao_13,
 pm9ao_14,
 pm9ao_15,
 pm9ao_16,
 pm9ao_17]
theorem pm9b (Q : Exit → Act → World → Prop) (ub n cu j i xb xo cx yb yo cy : Nat) (za zb zl zr : E4) (ev : Bool) (u2 u3 u4 u7 u9 aa ab ad ae af ag ah ai aj ak al am an ao ap aq au av aw ax ay az aA aB aC aD aE aF aG aH aI aJ aK aL aM aN aO aP aQ aR aS aT aU aV aW aX : Value) (W : World)
  (j0 : (0 : Int) ≤ (j : Int)) (j1 : (j : Int) < (n : Int)) (q0 : W.cell? ⟨ub, j, none⟩ = some (.bool false)) (i0 : (0 : Int) ≤ (i : Int)) (i1 : (i : Int) < (n : Int)) (a0 : W.cell? ⟨xb, xo + i * 4, none⟩ = some (.int .u64 za.x0)) (a1 : W.cell? ⟨xb, xo + i * 4 + 1, none⟩ = some (.int .u64 za.x1)) (a2 : W.cell? ⟨xb, xo + i * 4 + 2, none⟩ = some (.int .u64 za.x2)) (a3 : W.cell? ⟨xb, xo + i * 4 + 3, none⟩ = some (.int .u64 za.x3)) (b0 : W.cell? ⟨yb, yo + j * 4, none⟩ = some (.int .u64 zb.x0)) (b1 : W.cell? ⟨yb, yo + j * 4 + 1, none⟩ = some (.int .u64 zb.x1)) (b2 : W.cell? ⟨yb, yo + j * 4 + 2, none⟩ = some (.int .u64 zb.x2)) (b3 : W.cell? ⟨yb, yo + j * 4 + 3, none⟩ = some (.int .u64 zb.x3))
  (NQ : Hid (∀ y, (Op.equalIn 10000 27 (.agg #[.int .u64 zl.x0, .int .u64 zl.x1, .int .u64 zl.x2, .int .u64 zl.x3]) (.agg #[.int .u64 zr.x0, .int .u64 zr.x1, .int .u64 zr.x2, .int .u64 zr.x3])).run Tryz.prog y = .ok ev y))
  (C1 : Hid (∀ y, Calls Tryz.prog 11 #[.agg #[.int .u64 za.x0, .int .u64 za.x1, .int .u64 za.x2, .int .u64 za.x3]] y fun e w' => e = .returned (.agg #[.int .u64 zl.x0, .int .u64 zl.x1, .int .u64 zl.x2, .int .u64 zl.x3]) ∧ Below y.heap.size y w')) (C2 : Hid (∀ y, Calls Tryz.prog 11 #[.agg #[.int .u64 zb.x0, .int .u64 zb.x1, .int .u64 zb.x2, .int .u64 zb.x3]] y fun e w' => e = .returned (.agg #[.int .u64 zr.x0, .int .u64 zr.x1, .int .u64 zr.x2, .int .u64 zr.x3]) ∧ Below y.heap.size y w'))
  (HQ : Hid (∀ (wz : World), Below W.heap.size W wz → Q .normal ⟨#[.slice (some ⟨xb, xo, none⟩) n cx, .slice (some ⟨yb, yo, none⟩) n cy, u2, u3, u4, .slice (some ⟨ub, 0, none⟩) n cu, .int .i64 (i : Int), u7, .int .i64 (j : Int), u9, aa, ab, ad, ae, af, ag, ah, ai, aj, ak, al, am, an, ao, ap, aq, au, av, .slice (some ⟨ub, 0, none⟩) n cu, .int .i64 (j : Int), .pointer (some ⟨ub, j, none⟩), .bool false, .bool true, .bool true, .slice (some ⟨xb, xo, none⟩) n cx, .int .i64 (i : Int), .pointer (some ⟨xb, xo + i * 4, none⟩), .agg #[.int .u64 za.x0, .int .u64 za.x1, .int .u64 za.x2, .int .u64 za.x3], .agg #[.int .u64 zl.x0, .int .u64 zl.x1, .int .u64 zl.x2, .int .u64 zl.x3], .slice (some ⟨yb, yo, none⟩) n cy, .int .i64 (j : Int), .pointer (some ⟨yb, yo + j * 4, none⟩), .agg #[.int .u64 zb.x0, .int .u64 zb.x1, .int .u64 zb.x2, .int .u64 zb.x3], .agg #[.int .u64 zr.x0, .int .u64 zr.x1, .int .u64 zr.x2, .int .u64 zr.x3], .bool ev, .bool ev, aO, aP, aQ, aR, aS, aT, aU, aV, aW, aX], []⟩ wz)) : (Code.region 9 pm9bo true).wp Tryz.prog Q ⟨#[.slice (some ⟨xb, xo, none⟩) n cx, .slice (some ⟨yb, yo, none⟩) n cy, u2, u3, u4, .slice (some ⟨ub, 0, none⟩) n cu, .int .i64 (i : Int), u7, .int .i64 (j : Int), u9, aa, ab, ad, ae, af, ag, ah, ai, aj, ak, al, am, an, ao, ap, aq, au, av, aw, ax, ay, az, aA, aB, aC, aD, aE, aF, aG, aH, aI, aJ, aK, aL, aM, aN, aO, aP, aQ, aR, aS, aT, aU, aV, aW, aX], []⟩ W := by
 unfold pm9bo
 refine wp_region_noPanic ?_
 refine wp_region_held_drew (S := fun x => Below W.heap.size W x) (by kernel_rfl) (bl_drew W) (fun hH0 => ?_)
 refine tj 0 pm9ao_0 (.slice (some ⟨ub, 0, none⟩) n cu) hH0 (fun w0 hSw => ?_) ?_
 ·(unfold pm9ao_0 oO; clear hSw; go_simp)
 simp only [pm9ao_0, oO, Act.put, sA, sB, sC]
 refine tj 1 pm9ao_1 (.int .i64 (j : Int)) hH0 (fun w0 hSw => ?_) ?_
 ·(unfold pm9ao_1 oO; clear hSw; go_simp)
 simp only [pm9ao_1, oO, Act.put, sA, sB, sC]
 refine tj 2 pm9ao_2 (.pointer (some ⟨ub, j, none⟩)) hH0 (fun w0 hSw => ?_) ?_
 ·(unfold pm9ao_2 oO; clear hSw; go_simp)
 simp only [pm9ao_2, oO, Act.put, sA, sB, sC]
 refine tj 3 pm9ao_3 (.bool false) hH0 (fun w0 hSw => ?_) ?_
 ·(unfold pm9ao_3 oO; have hS : Below W.heap.size W w0 := hSw; have a0 := cell_keep q0 hS; clear hS hSw; go_simp)
 simp only [pm9ao_3, oO, Act.put, sA, sB, sC]
 refine tj 4 pm9ao_4 (.bool true) hH0 (fun w0 hSw => ?_) ?_
 ·(unfold pm9ao_4 oO; clear hSw; go_simp)
 simp only [pm9ao_4, oO, Act.put, sA, sB, sC]
 refine tj 5 pm9ao_5 (.bool true) hH0 (fun w0 hSw => ?_) ?_
 ·(unfold pm9ao_5 oO; clear hSw; go_simp)
 simp only [pm9ao_5, oO, Act.put, sA, sB, sC]
 refine tj 6 pm9ao_6 (.slice (some ⟨xb, xo, none⟩) n cx) hH0 (fun w0 hSw => ?_) ?_
 ·(unfold pm9ao_6; clear hSw; go_simp)
 simp only [pm9ao_6, Act.put, sA, sB, sC]
 refine tj 7 pm9ao_7 (.int .i64 (i : Int)) hH0 (fun w0 hSw => ?_) ?_
 ·(unfold pm9ao_7; clear hSw; go_simp)
 simp only [pm9ao_7, Act.put, sA, sB, sC]
 refine tj 11 pm9ao_11 (.slice (some ⟨yb, yo, none⟩) n cy) hH0 (fun w0 hSw => ?_) ?_
 ·(unfold pm9ao_11; clear hSw; go_simp)
 simp only [pm9ao_11, Act.put, sA, sB, sC]
 refine tj 12 pm9ao_12 (.int .i64 (j : Int)) hH0 (fun w0 hSw => ?_) ?_
 ·(unfold pm9ao_12; clear hSw; go_simp)
 simp only [pm9ao_12, Act.put, sA, sB, sC]
 refine tj 8 pm9ao_8 (.pointer (some ⟨xb, xo + i * 4, none⟩)) hH0 (fun w0 hSw => ?_) ?_
 ·(unfold pm9ao_8; clear hSw; go_simp)
 simp only [pm9ao_8, Act.put, sA, sB, sC]
 refine tj 13 pm9ao_13 (.pointer (some ⟨yb, yo + j * 4, none⟩)) hH0 (fun w0 hSw => ?_) ?_
 ·(unfold pm9ao_13; clear hSw; go_simp)
 simp only [pm9ao_13, Act.put, sA, sB, sC]
 refine tj 9 pm9ao_9 (.agg #[.int .u64 za.x0, .int .u64 za.x1, .int .u64 za.x2, .int .u64 za.x3]) hH0 (fun w0 hSw => ?_) ?_
 ·(unfold pm9ao_9; have hS : Below W.heap.size W w0 := hSw; have a0 := cell_keep a0 hS; have a1 := cell_keep a1 hS; have a2 := cell_keep a2 hS; have a3 := cell_keep a3 hS; clear hS hSw; go_simp)
 simp only [pm9ao_9, Act.put, sA, sB, sC]
 refine tj 14 pm9ao_14 (.agg #[.int .u64 zb.x0, .int .u64 zb.x1, .int .u64 zb.x2, .int .u64 zb.x3]) hH0 (fun w0 hSw => ?_) ?_
 ·(unfold pm9ao_14; have hS : Below W.heap.size W w0 := hSw; have a0 := cell_keep b0 hS; have a1 := cell_keep b1 hS; have a2 := cell_keep b2 hS; have a3 := cell_keep b3 hS; clear hS hSw; go_simp)
 simp only [pm9ao_14, Act.put, sA, sB, sC]
 refine ar [10] ?_
 refine ac pm9ao_10 (fun K hK => ?_) AllReadyH.nil
 unfold pm9ao_10
 have HH := Hn hH0
 clear hH0
 go_simp
 refine (C1.out _).mono ?_
 rintro e wn1 ⟨rfl, hb⟩
 have SN := Hn (bl_trans HH.out hb)
 clear HH hb C1
 go_wp2_with fail
 refine hK.out _ _ SN.out (fun hH1 => ?_)
 clear hK K SN
 refine ar [15] ?_
 refine ac pm9ao_15 (fun K hK => ?_) AllReadyH.nil
 unfold pm9ao_15
 have HH := Hn hH1
 clear hH1
 go_simp
 refine (C2.out _).mono ?_
 rintro e wn2 ⟨rfl, hb⟩
 have SN := Hn (bl_trans HH.out hb)
 clear HH hb C2
 go_wp2_with fail
 refine hK.out _ _ SN.out (fun hH2 => ?_)
 clear hK K SN
 refine tj 16 pm9ao_16 (.bool ev) hH2 (fun w0 hSw => ?_) ?_
 ·(unfold pm9ao_16; clear hSw; have nq := NQ.out w0; go_simp)
 simp only [pm9ao_16, Act.put, sA, sB, sC]
 refine tj 17 pm9ao_17 (.bool ev) hH2 (fun w0 hSw => ?_) ?_
 ·(unfold pm9ao_17 oO; clear hSw; go_simp)
 simp only [pm9ao_17, oO, Act.put, sA, sB, sC]
 have HH := Hn hH2
 have FQ := Hn (HQ.out _ HH.out)
 refine wpAnyH_done (by kernel_rfl) ?_ _
 refine NoPanic.normal ?_
 exact FQ.out
def gs17ao_0 : Oper := oO 52 (Op.move (Operand.tmp 10)) 4 "outright.go:231" #[]
def gs17ao_1 : Oper := oO 53 (Op.move (Operand.tmp 52)) 4 "outright.go:231" #[DD 0]
def gs17ao_2 : Oper := { dst := some 54, op := Op.move (Operand.tmp 2), type := 22, pos := "outright.go:231", after := #[GU 1], guard := some (1, false) }
def gs17ao_3 : Oper := { dst := some 55, op := Op.move (Operand.tmp 11), type := 3, pos := "outright.go:231", after := #[GU 1], guard := some (1, false) }
def gs17ao_4 : Oper := { dst := some 56, op := Op.indexAddr 22 (Operand.tmp 54) (Operand.tmp 55), type := 0, pos := "outright.go:231", after := #[DD 2, DD 3, GU 1], guard := some (1, false) }
def gs17ao_5 : Oper := { dst := some 57, op := Op.load 26 (Operand.tmp 56), type := 26, pos := "outright.go:231", after := #[DD 4, GU 1], guard := some (1, false) }
def gs17ao_6 : Oper := { dst := some 58, op := Op.call { callee := Callee.value (Operand.func 11), args := #[Operand.tmp 57], argTypes := #[26] }, type := 27, pos := "outright.go:231", after := #[DD 5, CH 1, GU 1], guard := some (1, false) }
def gs17ao_7 : Oper := { dst := some 59, op := Op.move (Operand.tmp 2), type := 22, pos := "outright.go:231", after := #[GU 1], guard := some (1, false) }
def gs17ao_8 : Oper := { dst := some 60, op := Op.move (Operand.tmp 9), type := 3, pos := "outright.go:231", after := #[GU 1], guard := some (1, false) }
def gs17ao_9 : Oper := { dst := some 61, op := Op.indexAddr 22 (Operand.tmp 59) (Operand.tmp 60), type := 0, pos := "outright.go:231", after := #[DD 7, DD 8, GU 1], guard := some (1, false) }
def gs17ao_10 : Oper := { dst := some 62, op := Op.load 26 (Operand.tmp 61), type := 26, pos := "outright.go:231", after := #[DD 9, GU 1], guard := some (1, false) }
def gs17ao_11 : Oper := { dst := some 63, op := Op.call { callee := Callee.value (Operand.func 11), args := #[Operand.tmp 62], argTypes := #[26] }, type := 27, pos := "outright.go:231", after := #[DD 10, CH 6, GU 1], guard := some (1, false) }
def gs17ao_12 : Oper := { dst := some 64, op := Op.binOp BinOp.eql 27 (Operand.tmp 58) (Operand.tmp 63) 27, type := 4, pos := "outright.go:231", after := #[DD 6, DD 11, GU 1], guard := some (1, false) }
def gs17ao_13 : Oper := oO 65 (Op.pick (Operand.tmp 53) (Operand.const (Value.bool true)) (Operand.tmp 64)) 4 "outright.go:231" #[DD 1, DD 12]
def gs17ao_14 : Oper := oO 10 (Op.assign (Operand.tmp 65)) 4 "outright.go:231" #[DD 13, CH 11, PH 0, PH 1, PH 2, PH 3, PH 4, PH 5, PH 6, PH 7, PH 8, PH 9, PH 10, PH 11, PH 12, PH 13]
def gs17ao : Array Oper := #[gs17ao_0, gs17ao_1, gs17ao_2, gs17ao_3, gs17ao_4, gs17ao_5, gs17ao_6, gs17ao_7, gs17ao_8, gs17ao_9, gs17ao_10, gs17ao_11, gs17ao_12, gs17ao_13, gs17ao_14]
theorem gs17a (Q : Exit → Act → World → Prop)  (u0 u1 u2 u3 u4 u5 u6 u7 u8 u9 ab ad ae af ag ah ai aj ak al am an ao ap aq au av aw ax ay az aA aB aC aD aE aF aG aH aI aJ aK aL aM aN aO aP aQ aR aS aT aU aV aW aX aY aZ a4 a5 a6 a7 a8 a9 ba bb bc bd be bg bh bi bj bk bl bm bn bo bp bq br bs bt bu bv bw bx bz bA bB bC bD bE bF bG bH bI bJ bK : Value) (W : World)
  
  (HQ : Hid (∀ (wz : World), Below W.heap.size W wz → Q .normal ⟨#[u0, u1, u2, u3, u4, u5, u6, u7, u8, u9, .bool true, ab, ad, ae, af, ag, ah, ai, aj, ak, al, am, an, ao, ap, aq, au, av, aw, ax, ay, az, aA, aB, aC, aD, aE, aF, aG, aH, aI, aJ, aK, aL, aM, aN, aO, aP, aQ, aR, aS, aT, .bool true, .bool true, undef, undef, undef, undef, undef, undef, undef, undef, undef, undef, undef, .bool true, bc, bd, be, bg, bh, bi, bj, bk, bl, bm, bn, bo, bp, bq, br, bs, bt, bu, bv, bw, bx, bz, bA, bB, bC, bD, bE, bF, bG, bH, bI, bJ, bK], []⟩ wz)) : (Code.region 17 gs17ao true).wp Tryz.prog Q ⟨#[u0, u1, u2, u3, u4, u5, u6, u7, u8, u9, .bool true, ab, ad, ae, af, ag, ah, ai, aj, ak, al, am, an, ao, ap, aq, au, av, aw, ax, ay, az, aA, aB, aC, aD, aE, aF, aG, aH, aI, aJ, aK, aL, aM, aN, aO, aP, aQ, aR, aS, aT, aU, aV, aW, aX, aY, aZ, a4, a5, a6, a7, a8, a9, ba, bb, bc, bd, be, bg, bh, bi, bj, bk, bl, bm, bn, bo, bp, bq, br, bs, bt, bu, bv, bw, bx, bz, bA, bB, bC, bD, bE, bF, bG, bH, bI, bJ, bK], []⟩ W := by
 unfold gs17ao
 refine wp_region_noPanic ?_
 refine wp_region_held_drew (S := fun x => Below W.heap.size W x) (by kernel_rfl) (bl_drew W) (fun hH0 => ?_)
 refine tj 0 gs17ao_0 (.bool true) hH0 (fun w0 hSw => ?_) ?_
 ·(unfold gs17ao_0 oO; clear hSw; go_simp)
 simp only [gs17ao_0, oO, Act.put, sA, sB, sC]
 refine tj 1 gs17ao_1 (.bool true) hH0 (fun w0 hSw => ?_) ?_
 ·(unfold gs17ao_1 oO; clear hSw; go_simp)
 simp only [gs17ao_1, oO, Act.put, sA, sB, sC]
 refine wpAnyH_take (i := 2) (oi := gs17ao_2) (v := undef) rfl (by kernel_rfl) (by kernel_rfl) (by kernel_rfl) (fun _ _ _ h => h) (Or.inr ⟨by rfl, rfl⟩) hH0 ?_
 simp only [gs17ao_2, Act.put, sA, sB, sC]
 refine wpAnyH_take (i := 3) (oi := gs17ao_3) (v := undef) rfl (by kernel_rfl) (by kernel_rfl) (by kernel_rfl) (fun _ _ _ h => h) (Or.inr ⟨by rfl, rfl⟩) hH0 ?_
 simp only [gs17ao_3, Act.put, sA, sB, sC]
 refine wpAnyH_take (i := 7) (oi := gs17ao_7) (v := undef) rfl (by kernel_rfl) (by kernel_rfl) (by kernel_rfl) (fun _ _ _ h => h) (Or.inr ⟨by rfl, rfl⟩) hH0 ?_
 simp only [gs17ao_7, Act.put, sA, sB, sC]
 refine wpAnyH_take (i := 8) (oi := gs17ao_8) (v := undef) rfl (by kernel_rfl) (by kernel_rfl) (by kernel_rfl) (fun _ _ _ h => h) (Or.inr ⟨by rfl, rfl⟩) hH0 ?_
 simp only [gs17ao_8, Act.put, sA, sB, sC]
 refine wpAnyH_take (i := 4) (oi := gs17ao_4) (v := undef) rfl (by kernel_rfl) (by kernel_rfl) (by kernel_rfl) (fun _ _ _ h => h) (Or.inr ⟨by rfl, rfl⟩) hH0 ?_
 simp only [gs17ao_4, Act.put, sA, sB, sC]
 refine wpAnyH_take (i := 9) (oi := gs17ao_9) (v := undef) rfl (by kernel_rfl) (by kernel_rfl) (by kernel_rfl) (fun _ _ _ h => h) (Or.inr ⟨by rfl, rfl⟩) hH0 ?_
 simp only [gs17ao_9, Act.put, sA, sB, sC]
 refine wpAnyH_take (i := 5) (oi := gs17ao_5) (v := undef) rfl (by kernel_rfl) (by kernel_rfl) (by kernel_rfl) (fun _ _ _ h => h) (Or.inr ⟨by rfl, rfl⟩) hH0 ?_
 simp only [gs17ao_5, Act.put, sA, sB, sC]
 refine wpAnyH_take (i := 10) (oi := gs17ao_10) (v := undef) rfl (by kernel_rfl) (by kernel_rfl) (by kernel_rfl) (fun _ _ _ h => h) (Or.inr ⟨by rfl, rfl⟩) hH0 ?_
 simp only [gs17ao_10, Act.put, sA, sB, sC]
 refine ar [6] ?_
 refine ac gs17ao_6 (fun K hK => ?_) AllReadyH.nil
 unfold gs17ao_6
 refine Eq.mpr (if_neg (by exact fun h => Bool.false_ne_true h)) ?_
 refine hK.out _ _ hH0 (fun hzz => ?_)
 clear hK K hzz
 simp only [Act.put, sA, sB, sC]
 refine ar [11] ?_
 refine ac gs17ao_11 (fun K hK => ?_) AllReadyH.nil
 unfold gs17ao_11
 refine Eq.mpr (if_neg (by exact fun h => Bool.false_ne_true h)) ?_
 refine hK.out _ _ hH0 (fun hzz => ?_)
 clear hK K hzz
 simp only [Act.put, sA, sB, sC]
 refine wpAnyH_take (i := 12) (oi := gs17ao_12) (v := undef) rfl (by kernel_rfl) (by kernel_rfl) (by kernel_rfl) (fun _ _ _ h => h) (Or.inr ⟨by rfl, rfl⟩) hH0 ?_
 simp only [gs17ao_12, Act.put, sA, sB, sC]
 refine tj 13 gs17ao_13 (.bool true) hH0 (fun w0 hSw => ?_) ?_
 ·(unfold gs17ao_13 oO; clear hSw; go_simp)
 simp only [gs17ao_13, oO, Act.put, sA, sB, sC]
 refine tj 14 gs17ao_14 (.bool true) hH0 (fun w0 hSw => ?_) ?_
 ·(unfold gs17ao_14 oO; clear hSw; go_simp)
 simp only [gs17ao_14, oO, Act.put, sA, sB, sC]
 have HH := Hn hH0
 have FQ := Hn (HQ.out _ HH.out)
 refine wpAnyH_done (by kernel_rfl) ?_ _
 refine NoPanic.normal ?_
 exact FQ.out
def gs17bo : Array Oper := #[gs17ao_0,
 gs17ao_1,
 gs17ao_2,
 gs17ao_3,
 gs17ao_4,
 gs17ao_5,
 gs17ao_6,
 gs17ao_7,
 gs17ao_8,
 gs17ao_9,
 gs17ao_10,
 gs17ao_11,
 gs17ao_12,
 gs17ao_13,
 gs17ao_14]
theorem gs17b (Q : Exit → Act → World → Prop) (m j i rb ro cr : Nat) (za zb zl zr : E4) (ev : Bool) (u0 u1 u3 u4 u5 u6 u7 u8 ad ae af ag ah ai aj ak al am an ao ap aq au av aw ax ay az aA aB aC aD aE aF aG aH aI aJ aK aL aM aN aO aP aQ aR aS aT aU aV aW aX aY aZ a4 a5 a6 a7 a8 a9 ba bb bc bd be bg bh bi bj bk bl bm bn bo bp bq br bs bt bu bv bw bx bz bA bB bC bD bE bF bG bH bI bJ bK : Value) (W : World)
  (i0 : (0 : Int) ≤ (i : Int)) (i1 : (i : Int) < (m : Int)) (j0 : (0 : Int) ≤ (j : Int)) (j1 : (j : Int) < (m : Int)) (a0 : W.cell? ⟨rb, ro + j * 4, none⟩ = some (.int .u64 za.x0)) (a1 : W.cell? ⟨rb, ro + j * 4 + 1, none⟩ = some (.int .u64 za.x1)) (a2 : W.cell? ⟨rb, ro + j * 4 + 2, none⟩ = some (.int .u64 za.x2)) (a3 : W.cell? ⟨rb, ro + j * 4 + 3, none⟩ = some (.int .u64 za.x3)) (b0 : W.cell? ⟨rb, ro + i * 4, none⟩ = some (.int .u64 zb.x0)) (b1 : W.cell? ⟨rb, ro + i * 4 + 1, none⟩ = some (.int .u64 zb.x1)) (b2 : W.cell? ⟨rb, ro + i * 4 + 2, none⟩ = some (.int .u64 zb.x2)) (b3 : W.cell? ⟨rb, ro + i * 4 + 3, none⟩ = some (.int .u64 zb.x3))
  (NQ : Hid (∀ y, (Op.equalIn 10000 27 (.agg #[.int .u64 zl.x0, .int .u64 zl.x1, .int .u64 zl.x2, .int .u64 zl.x3]) (.agg #[.int .u64 zr.x0, .int .u64 zr.x1, .int .u64 zr.x2, .int .u64 zr.x3])).run Tryz.prog y = .ok ev y))
  (C1 : Hid (∀ y, Calls Tryz.prog 11 #[.agg #[.int .u64 za.x0, .int .u64 za.x1, .int .u64 za.x2, .int .u64 za.x3]] y fun e w' => e = .returned (.agg #[.int .u64 zl.x0, .int .u64 zl.x1, .int .u64 zl.x2, .int .u64 zl.x3]) ∧ Below y.heap.size y w')) (C2 : Hid (∀ y, Calls Tryz.prog 11 #[.agg #[.int .u64 zb.x0, .int .u64 zb.x1, .int .u64 zb.x2, .int .u64 zb.x3]] y fun e w' => e = .returned (.agg #[.int .u64 zr.x0, .int .u64 zr.x1, .int .u64 zr.x2, .int .u64 zr.x3]) ∧ Below y.heap.size y w'))
  (HQ : Hid (∀ (wz : World), Below W.heap.size W wz → Q .normal ⟨#[u0, u1, .slice (some ⟨rb, ro, none⟩) m cr, u3, u4, u5, u6, u7, u8, .int .i64 (i : Int), .bool ev, .int .i64 (j : Int), ad, ae, af, ag, ah, ai, aj, ak, al, am, an, ao, ap, aq, au, av, aw, ax, ay, az, aA, aB, aC, aD, aE, aF, aG, aH, aI, aJ, aK, aL, aM, aN, aO, aP, aQ, aR, aS, aT, .bool false, .bool false, .slice (some ⟨rb, ro, none⟩) m cr, .int .i64 (j : Int), .pointer (some ⟨rb, ro + j * 4, none⟩), .agg #[.int .u64 za.x0, .int .u64 za.x1, .int .u64 za.x2, .int .u64 za.x3], .agg #[.int .u64 zl.x0, .int .u64 zl.x1, .int .u64 zl.x2, .int .u64 zl.x3], .slice (some ⟨rb, ro, none⟩) m cr, .int .i64 (i : Int), .pointer (some ⟨rb, ro + i * 4, none⟩), .agg #[.int .u64 zb.x0, .int .u64 zb.x1, .int .u64 zb.x2, .int .u64 zb.x3], .agg #[.int .u64 zr.x0, .int .u64 zr.x1, .int .u64 zr.x2, .int .u64 zr.x3], .bool ev, .bool ev, bc, bd, be, bg, bh, bi, bj, bk, bl, bm, bn, bo, bp, bq, br, bs, bt, bu, bv, bw, bx, bz, bA, bB, bC, bD, bE, bF, bG, bH, bI, bJ, bK], []⟩ wz)) : (Code.region 17 gs17bo true).wp Tryz.prog Q ⟨#[u0, u1, .slice (some ⟨rb, ro, none⟩) m cr, u3, u4, u5, u6, u7, u8, .int .i64 (i : Int), .bool false, .int .i64 (j : Int), ad, ae, af, ag, ah, ai, aj, ak, al, am, an, ao, ap, aq, au, av, aw, ax, ay, az, aA, aB, aC, aD, aE, aF, aG, aH, aI, aJ, aK, aL, aM, aN, aO, aP, aQ, aR, aS, aT, aU, aV, aW, aX, aY, aZ, a4, a5, a6, a7, a8, a9, ba, bb, bc, bd, be, bg, bh, bi, bj, bk, bl, bm, bn, bo, bp, bq, br, bs, bt, bu, bv, bw, bx, bz, bA, bB, bC, bD, bE, bF, bG, bH, bI, bJ, bK], []⟩ W := by
 unfold gs17bo
 refine wp_region_noPanic ?_
 refine wp_region_held_drew (S := fun x => Below W.heap.size W x) (by kernel_rfl) (bl_drew W) (fun hH0 => ?_)
 refine tj 0 gs17ao_0 (.bool false) hH0 (fun w0 hSw => ?_) ?_
 ·(unfold gs17ao_0 oO; clear hSw; go_simp)
 simp only [gs17ao_0, oO, Act.put, sA, sB, sC]
 refine tj 1 gs17ao_1 (.bool false) hH0 (fun w0 hSw => ?_) ?_
 ·(unfold gs17ao_1 oO; clear hSw; go_simp)
 simp only [gs17ao_1, oO, Act.put, sA, sB, sC]
 refine tj 2 gs17ao_2 (.slice (some ⟨rb, ro, none⟩) m cr) hH0 (fun w0 hSw => ?_) ?_
 ·(unfold gs17ao_2; clear hSw; go_simp)
 simp only [gs17ao_2, Act.put, sA, sB, sC]
 refine tj 3 gs17ao_3 (.int .i64 (j : Int)) hH0 (fun w0 hSw => ?_) ?_
 ·(unfold gs17ao_3; clear hSw; go_simp)
 simp only [gs17ao_3, Act.put, sA, sB, sC]
 refine tj 7 gs17ao_7 (.slice (some ⟨rb, ro, none⟩) m cr) hH0 (fun w0 hSw => ?_) ?_
 ·(unfold gs17ao_7; clear hSw; go_simp)
 simp only [gs17ao_7, Act.put, sA, sB, sC]
 refine tj 8 gs17ao_8 (.int .i64 (i : Int)) hH0 (fun w0 hSw => ?_) ?_
 ·(unfold gs17ao_8; clear hSw; go_simp)
 simp only [gs17ao_8, Act.put, sA, sB, sC]
 refine tj 4 gs17ao_4 (.pointer (some ⟨rb, ro + j * 4, none⟩)) hH0 (fun w0 hSw => ?_) ?_
 ·(unfold gs17ao_4; clear hSw; go_simp)
 simp only [gs17ao_4, Act.put, sA, sB, sC]
 refine tj 9 gs17ao_9 (.pointer (some ⟨rb, ro + i * 4, none⟩)) hH0 (fun w0 hSw => ?_) ?_
 ·(unfold gs17ao_9; clear hSw; go_simp)
 simp only [gs17ao_9, Act.put, sA, sB, sC]
 refine tj 5 gs17ao_5 (.agg #[.int .u64 za.x0, .int .u64 za.x1, .int .u64 za.x2, .int .u64 za.x3]) hH0 (fun w0 hSw => ?_) ?_
 ·(unfold gs17ao_5; have hS : Below W.heap.size W w0 := hSw; have a0 := cell_keep a0 hS; have a1 := cell_keep a1 hS; have a2 := cell_keep a2 hS; have a3 := cell_keep a3 hS; clear hS hSw; go_simp)
 simp only [gs17ao_5, Act.put, sA, sB, sC]
 refine tj 10 gs17ao_10 (.agg #[.int .u64 zb.x0, .int .u64 zb.x1, .int .u64 zb.x2, .int .u64 zb.x3]) hH0 (fun w0 hSw => ?_) ?_
 ·(unfold gs17ao_10; have hS : Below W.heap.size W w0 := hSw; have a0 := cell_keep b0 hS; have a1 := cell_keep b1 hS; have a2 := cell_keep b2 hS; have a3 := cell_keep b3 hS; clear hS hSw; go_simp)
 simp only [gs17ao_10, Act.put, sA, sB, sC]
 refine ar [6] ?_
 refine ac gs17ao_6 (fun K hK => ?_) AllReadyH.nil
 unfold gs17ao_6
 have HH := Hn hH0
 clear hH0
 go_simp
 refine (C1.out _).mono ?_
 rintro e wn1 ⟨rfl, hb⟩
 have SN := Hn (bl_trans HH.out hb)
 clear HH hb C1
 go_wp2_with fail
 refine hK.out _ _ SN.out (fun hH1 => ?_)
 clear hK K SN
 refine ar [11] ?_
 refine ac gs17ao_11 (fun K hK => ?_) AllReadyH.nil
 unfold gs17ao_11
 have HH := Hn hH1
 clear hH1
 go_simp
 refine (C2.out _).mono ?_
 rintro e wn2 ⟨rfl, hb⟩
 have SN := Hn (bl_trans HH.out hb)
 clear HH hb C2
 go_wp2_with fail
 refine hK.out _ _ SN.out (fun hH2 => ?_)
 clear hK K SN
 refine tj 12 gs17ao_12 (.bool ev) hH2 (fun w0 hSw => ?_) ?_
 ·(unfold gs17ao_12; clear hSw; have nq := NQ.out w0; go_simp)
 simp only [gs17ao_12, Act.put, sA, sB, sC]
 refine tj 13 gs17ao_13 (.bool ev) hH2 (fun w0 hSw => ?_) ?_
 ·(unfold gs17ao_13 oO; clear hSw; go_simp)
 simp only [gs17ao_13, oO, Act.put, sA, sB, sC]
 refine tj 14 gs17ao_14 (.bool ev) hH2 (fun w0 hSw => ?_) ?_
 ·(unfold gs17ao_14 oO; clear hSw; go_simp)
 simp only [gs17ao_14, oO, Act.put, sA, sB, sC]
 have HH := Hn hH2
 have FQ := Hn (HQ.out _ HH.out)
 refine wpAnyH_done (by kernel_rfl) ?_ _
 refine NoPanic.normal ?_
 exact FQ.out
end Ci
end Go.Proofs.YtljmgfclhbadjaaGreatDoor
