import Derived.Test.YthngomhhafoamaaGreatDoorCva
set_option maxRecDepth 100000
set_option maxHeartbeats 16000000
set_option linter.unusedVariables false
set_option linter.unusedSimpArgs false
namespace Go.Proofs.YthngomhhafoamaaGreatDoor
open Go.RowKit
open Cm (Wr Tm co bf Ls lf ins Eqm)
namespace Ci
def pCvb0 : String := "outright.go:321"
def al4o_0 : Oper := oO 43 (Op.move (Operand.tmp 13)) 41 pCvb0 #[]
def al4o_1 : Oper := oO 44 (Op.move (Operand.tmp 15)) 41 pCvb0 #[]
def al4o_2 : Oper := oO 45 (Op.binOp BinOp.neq 41 (Operand.tmp 43) (Operand.tmp 44) 41) 4 pCvb0 #[DD 0, DD 1]
def al4o_3 : Oper := oO 46 (Op.move (Operand.tmp 45)) 4 pCvb0 #[DD 2]
def al4o_4 : Oper := { dst := some 47, op := Op.load 35 (Operand.tmp 12), type := 35, pos := "outright.go:321", after := #[GU 3], guard := some (3, false) }
def al4o_5 : Oper := { dst := some 48, op := Op.load 35 (Operand.tmp 14), type := 35, pos := "outright.go:321", after := #[GU 3], guard := some (3, false) }
def al4o_6 : Oper := { dst := some 49, op := Op.call { callee := Callee.value (Operand.func 29), args := #[Operand.tmp 47, Operand.tmp 48], argTypes := #[35, 35] }, type := 4, pos := "outright.go:321", after := #[DD 4, DD 5, CH 3, GU 3], guard := some (3, false) }
def al4o_7 : Oper := { dst := some 50, op := Op.unOp UnOp.not 4 (Operand.tmp 49), type := 4, pos := "outright.go:321", after := #[DD 6, GU 3], guard := some (3, false) }
def al4o_8 : Oper := oO 51 (Op.pick (Operand.tmp 46) (Operand.const (Value.bool true)) (Operand.tmp 50)) 4 pCvb0 #[DD 3, DD 7]
def al4o_9 : Oper := oO 52 (Op.move (Operand.tmp 51)) 4 pCvb0 #[DD 8, CH 6]
def al4o_10 : Oper := { dst := some 53, op := Op.move (Operand.tmp 0), type := 27, pos := "outright.go:321", after := #[GU 9], guard := some (9, false) }
def al4o_11 : Oper := { dst := some 54, op := Op.load 30 (Operand.tmp 6), type := 30, pos := "outright.go:321", after := #[GU 9], guard := some (9, false) }
def al4o_12 : Oper := { dst := some 55, op := Op.call { callee := Callee.value (Operand.func 22), args := #[Operand.tmp 53, Operand.tmp 54], argTypes := #[27, 30] }, type := 41, pos := "outright.go:321", after := #[DD 10, DD 11, CH 9, GU 9], guard := some (9, false) }
def al4o_13 : Oper := { dst := some 56, op := Op.move (Operand.tmp 0), type := 27, pos := "outright.go:321", after := #[GU 9], guard := some (9, false) }
def al4o_14 : Oper := { dst := some 57, op := Op.load 30 (Operand.tmp 11), type := 30, pos := "outright.go:321", after := #[GU 9], guard := some (9, false) }
def al4o_15 : Oper := { dst := some 58, op := Op.call { callee := Callee.value (Operand.func 22), args := #[Operand.tmp 56, Operand.tmp 57], argTypes := #[27, 30] }, type := 41, pos := "outright.go:321", after := #[DD 13, DD 14, CH 12, GU 9], guard := some (9, false) }
def al4o_16 : Oper := { dst := some 59, op := Op.binOp BinOp.neq 41 (Operand.tmp 55) (Operand.tmp 58) 41, type := 4, pos := "outright.go:321", after := #[DD 12, DD 15, GU 9], guard := some (9, false) }
def al4o_17 : Oper := oO 60 (Op.pick (Operand.tmp 52) (Operand.const (Value.bool true)) (Operand.tmp 59)) 4 pCvb0 #[DD 9, DD 16]
def al4o : Array Oper := #[al4o_0, al4o_1, al4o_2, al4o_3, al4o_4, al4o_5, al4o_6, al4o_7, al4o_8, al4o_9, al4o_10, al4o_11, al4o_12, al4o_13, al4o_14, al4o_15, al4o_16, al4o_17]
theorem al4 (Q : Exit → Act → World → Prop) (s x6 x11 x12 x14 : Nat) (e h : Int) (q : E4) (l r o v l2 r2 o2 v2 : Sl) (u1 u2 u3 u4 u5 u7 u8 u9 aa ab ad ae af ag ah ai aj ak al am an ao ap aq au av aw ax ay az aA aB aC aD aE aF aG aH aI aJ aK aL aM aN aO aP aQ aR aS aT aU aV aW aX aY aZ a4 a5 a6 a7 a8 a9 ba bb bc bd be bg bh bi bj bk bl bm bn bo bp bq br bs bt bu bv bw bx bz : Value) (W : World)
  (n0 : W.cell? ⟨x12, 0, none⟩ = some (.int .u64 q.x0)) (n1 : W.cell? ⟨x12, 1, none⟩ = some (.int .u64 q.x1)) (n2 : W.cell? ⟨x12, 2, none⟩ = some (.int .u64 q.x2)) (n3 : W.cell? ⟨x12, 3, none⟩ = some (.int .u64 q.x3)) (m0 : W.cell? ⟨x14, 0, none⟩ = some (.int .u64 q.x0)) (m1 : W.cell? ⟨x14, 1, none⟩ = some (.int .u64 q.x1)) (m2 : W.cell? ⟨x14, 2, none⟩ = some (.int .u64 q.x2)) (m3 : W.cell? ⟨x14, 3, none⟩ = some (.int .u64 q.x3)) (a0 : W.cell? ⟨x6, 0, none⟩ = some (.slice l.p l.n l.c)) (a1 : W.cell? ⟨x6, 1, none⟩ = some (.slice r.p r.n r.c)) (a2 : W.cell? ⟨x6, 2, none⟩ = some (.slice o.p o.n o.c)) (a3 : W.cell? ⟨x6, 3, none⟩ = some (.slice v.p v.n v.c)) (b0 : W.cell? ⟨x11, 0, none⟩ = some (.slice l2.p l2.n l2.c)) (b1 : W.cell? ⟨x11, 1, none⟩ = some (.slice r2.p r2.n r2.c)) (b2 : W.cell? ⟨x11, 2, none⟩ = some (.slice o2.p o2.n o2.c)) (b3 : W.cell? ⟨x11, 3, none⟩ = some (.slice v2.p v2.n v2.c))
  (C6 : Hid (∀ yy, Below W.heap.size W yy → Calls Tryz.prog 29 #[.agg #[.int .u64 q.x0, .int .u64 q.x1, .int .u64 q.x2, .int .u64 q.x3], .agg #[.int .u64 q.x0, .int .u64 q.x1, .int .u64 q.x2, .int .u64 q.x3]] yy fun e w' => e = .returned (.bool true) ∧ Below yy.heap.size yy w'))
  (C12 : Hid (∀ yy, Below W.heap.size W yy → Calls Tryz.prog 22 #[.pointer (some ⟨s, 0, none⟩), .agg #[.slice l.p l.n l.c, .slice r.p r.n r.c, .slice o.p o.n o.c, .slice v.p v.n v.c]] yy fun e w' => e = .returned (.int .i64 h) ∧ Below yy.heap.size yy w'))
  (C15 : Hid (∀ yy, Below W.heap.size W yy → Calls Tryz.prog 22 #[.pointer (some ⟨s, 0, none⟩), .agg #[.slice l2.p l2.n l2.c, .slice r2.p r2.n r2.c, .slice o2.p o2.n o2.c, .slice v2.p v2.n v2.c]] yy fun e w' => e = .returned (.int .i64 h) ∧ Below yy.heap.size yy w'))
  (HQ : Hid (∀ (wz : World), Below W.heap.size W wz → Q .normal ⟨#[.pointer (some ⟨s, 0, none⟩), u1, u2, u3, u4, u5, .pointer (some ⟨x6, 0, none⟩), u7, u8, u9, aa, .pointer (some ⟨x11, 0, none⟩), .pointer (some ⟨x12, 0, none⟩), .int .i64 e, .pointer (some ⟨x14, 0, none⟩), .int .i64 e, ab, ad, ae, af, ag, ah, ai, aj, ak, al, am, an, ao, ap, aq, au, av, aw, ax, ay, az, aA, aB, aC, aD, aE, aF, .int .i64 e, .int .i64 e, .bool false, .bool false, .agg #[.int .u64 q.x0, .int .u64 q.x1, .int .u64 q.x2, .int .u64 q.x3], .agg #[.int .u64 q.x0, .int .u64 q.x1, .int .u64 q.x2, .int .u64 q.x3], .bool true, .bool false, .bool false, .bool false, .pointer (some ⟨s, 0, none⟩), .agg #[.slice l.p l.n l.c, .slice r.p r.n r.c, .slice o.p o.n o.c, .slice v.p v.n v.c], .int .i64 h, .pointer (some ⟨s, 0, none⟩), .agg #[.slice l2.p l2.n l2.c, .slice r2.p r2.n r2.c, .slice o2.p o2.n o2.c, .slice v2.p v2.n v2.c], .int .i64 h, .bool false, .bool false, aY, aZ, a4, a5, a6, a7, a8, a9, ba, bb, bc, bd, be, bg, bh, bi, bj, bk, bl, bm, bn, bo, bp, bq, br, bs, bt, bu, bv, bw, bx, bz], []⟩ wz)) : (Code.region 4 al4o true).wp Tryz.prog Q ⟨#[.pointer (some ⟨s, 0, none⟩), u1, u2, u3, u4, u5, .pointer (some ⟨x6, 0, none⟩), u7, u8, u9, aa, .pointer (some ⟨x11, 0, none⟩), .pointer (some ⟨x12, 0, none⟩), .int .i64 e, .pointer (some ⟨x14, 0, none⟩), .int .i64 e, ab, ad, ae, af, ag, ah, ai, aj, ak, al, am, an, ao, ap, aq, au, av, aw, ax, ay, az, aA, aB, aC, aD, aE, aF, aG, aH, aI, aJ, aK, aL, aM, aN, aO, aP, aQ, aR, aS, aT, aU, aV, aW, aX, aY, aZ, a4, a5, a6, a7, a8, a9, ba, bb, bc, bd, be, bg, bh, bi, bj, bk, bl, bm, bn, bo, bp, bq, br, bs, bt, bu, bv, bw, bx, bz], []⟩ W := by
 unfold al4o
 refine wp_region_noPanic ?_
 refine wp_region_held_drew (S := fun x => Below W.heap.size W x) (by kernel_rfl) (bl_drew W) (fun hH0 => ?_)
 refine tj 0 al4o_0 (.int .i64 e) hH0 (fun w0 hSw => ?_) ?_
 ·(unfold al4o_0 oO; clear hSw; go_simp)
 simp only [al4o_0, oO, Act.put, sA, sB, sC]
 refine tj 1 al4o_1 (.int .i64 e) hH0 (fun w0 hSw => ?_) ?_
 ·(unfold al4o_1 oO; clear hSw; go_simp)
 simp only [al4o_1, oO, Act.put, sA, sB, sC]
 refine tj 2 al4o_2 (.bool false) hH0 (fun w0 hSw => ?_) ?_
 ·(unfold al4o_2 oO; clear hSw; go_simp)
 simp only [al4o_2, oO, Act.put, sA, sB, sC]
 refine tj 3 al4o_3 (.bool false) hH0 (fun w0 hSw => ?_) ?_
 ·(unfold al4o_3 oO; clear hSw; go_simp)
 simp only [al4o_3, oO, Act.put, sA, sB, sC]
 refine tj 4 al4o_4 (.agg #[.int .u64 q.x0, .int .u64 q.x1, .int .u64 q.x2, .int .u64 q.x3]) hH0 (fun w0 hSw => ?_) ?_
 ·(unfold al4o_4; have hS : Below W.heap.size W w0 := hSw; have a0 := cell_keep n0 hS; have a1 := cell_keep n1 hS; have a2 := cell_keep n2 hS; have a3 := cell_keep n3 hS; clear hS hSw; go_simp)
 simp only [al4o_4, Act.put, sA, sB, sC]
 refine tj 5 al4o_5 (.agg #[.int .u64 q.x0, .int .u64 q.x1, .int .u64 q.x2, .int .u64 q.x3]) hH0 (fun w0 hSw => ?_) ?_
 ·(unfold al4o_5; have hS : Below W.heap.size W w0 := hSw; have a0 := cell_keep m0 hS; have a1 := cell_keep m1 hS; have a2 := cell_keep m2 hS; have a3 := cell_keep m3 hS; clear hS hSw; go_simp)
 simp only [al4o_5, Act.put, sA, sB, sC]
 refine ar [6] ?_
 refine ac al4o_6 (fun K hK => ?_) AllReadyH.nil
 unfold al4o_6
 have HH := Hn hH0
 clear hH0
 go_simp
 refine (C6.out _ HH.out).mono ?_
 rintro e wn1 ⟨rfl, hb⟩
 have SN := Hn (bl_trans HH.out hb)
 clear HH C6 hb
 go_wp2_with fail
 refine hK.out _ _ SN.out (fun hH1 => ?_)
 clear hK K SN
 refine tj 7 al4o_7 (.bool false) hH1 (fun w0 hSw => ?_) ?_
 ·(unfold al4o_7; clear hSw; go_simp)
 simp only [al4o_7, Act.put, sA, sB, sC]
 refine tj 8 al4o_8 (.bool false) hH1 (fun w0 hSw => ?_) ?_
 ·(unfold al4o_8 oO; clear hSw; go_simp)
 simp only [al4o_8, oO, Act.put, sA, sB, sC]
 refine tj 9 al4o_9 (.bool false) hH1 (fun w0 hSw => ?_) ?_
 ·(unfold al4o_9 oO; clear hSw; go_simp)
 simp only [al4o_9, oO, Act.put, sA, sB, sC]
 refine tj 10 al4o_10 (.pointer (some ⟨s, 0, none⟩)) hH1 (fun w0 hSw => ?_) ?_
 ·(unfold al4o_10; clear hSw; go_simp)
 simp only [al4o_10, Act.put, sA, sB, sC]
 refine tj 11 al4o_11 (.agg #[.slice l.p l.n l.c, .slice r.p r.n r.c, .slice o.p o.n o.c, .slice v.p v.n v.c]) hH1 (fun w0 hSw => ?_) ?_
 ·(unfold al4o_11; have hS : Below W.heap.size W w0 := hSw; have a0 := cell_keep a0 hS; have a1 := cell_keep a1 hS; have a2 := cell_keep a2 hS; have a3 := cell_keep a3 hS; clear hS hSw; go_simp)
 simp only [al4o_11, Act.put, sA, sB, sC]
 refine tj 13 al4o_13 (.pointer (some ⟨s, 0, none⟩)) hH1 (fun w0 hSw => ?_) ?_
 ·(unfold al4o_13; clear hSw; go_simp)
 simp only [al4o_13, Act.put, sA, sB, sC]
 refine tj 14 al4o_14 (.agg #[.slice l2.p l2.n l2.c, .slice r2.p r2.n r2.c, .slice o2.p o2.n o2.c, .slice v2.p v2.n v2.c]) hH1 (fun w0 hSw => ?_) ?_
 ·(unfold al4o_14; have hS : Below W.heap.size W w0 := hSw; have a0 := cell_keep b0 hS; have a1 := cell_keep b1 hS; have a2 := cell_keep b2 hS; have a3 := cell_keep b3 hS; clear hS hSw; go_simp)
 simp only [al4o_14, Act.put, sA, sB, sC]
 refine ar [12] ?_
 refine ac al4o_12 (fun K hK => ?_) AllReadyH.nil
 unfold al4o_12
 have HH := Hn hH1
 clear hH1
 go_simp
 refine (C12.out _ HH.out).mono ?_
 rintro e wn2 ⟨rfl, hb⟩
 have SN := Hn (bl_trans HH.out hb)
 clear HH C12 hb
 go_wp2_with fail
 refine hK.out _ _ SN.out (fun hH2 => ?_)
 clear hK K SN
 refine ar [15] ?_
 refine ac al4o_15 (fun K hK => ?_) AllReadyH.nil
 unfold al4o_15
 have HH := Hn hH2
 clear hH2
 go_simp
 refine (C15.out _ HH.out).mono ?_
 rintro e wn3 ⟨rfl, hb⟩
 have SN := Hn (bl_trans HH.out hb)
 clear HH C15 hb
 go_wp2_with fail
 refine hK.out _ _ SN.out (fun hH3 => ?_)
 clear hK K SN
 refine tj 16 al4o_16 (.bool false) hH3 (fun w0 hSw => ?_) ?_
 ·(unfold al4o_16; clear hSw; go_simp)
 simp only [al4o_16, Act.put, sA, sB, sC]
 refine tj 17 al4o_17 (.bool false) hH3 (fun w0 hSw => ?_) ?_
 ·(unfold al4o_17 oO; clear hSw; go_simp)
 simp only [al4o_17, oO, Act.put, sA, sB, sC]
 have HH := Hn hH3
 have FQ := Hn (HQ.out _ HH.out)
 refine wpAnyH_done (by kernel_rfl) ?_ _
 refine NoPanic.normal ?_
 exact FQ.out
end Ci
end Go.Proofs.YthngomhhafoamaaGreatDoor
