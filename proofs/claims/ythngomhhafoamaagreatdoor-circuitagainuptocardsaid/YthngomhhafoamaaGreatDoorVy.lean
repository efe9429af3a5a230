import Derived.Test.YthngomhhafoamaaGreatDoorCvc
set_option maxRecDepth 100000
set_option maxHeartbeats 32000000
set_option linter.unusedVariables false
set_option linter.unusedSimpArgs false
namespace Go.Proofs.YthngomhhafoamaaGreatDoor
open Go.RowKit
open Cm (Wr Tm co bf Ls lf ins Eqm)
namespace Ci
def pCve0 : String := "outright.go:295"
def pCve1 : String := "outright.go:313"
def pCve2 : String := "outright.go:290"
def pCve3 : String := "outright.go:300"
def ca17o_0 : Oper := oO 83 (Op.fieldAddr 30 (Operand.tmp 12) 2) 0 pCve0 #[]
def ca17o_1 : Oper := oO 84 (Op.load 25 (Operand.tmp 83)) 25 pCve0 #[DD 0]
def ca17o_2 : Oper := oO 85 (Op.move (Operand.tmp 14)) 3 pCve0 #[]
def ca17o_3 : Oper := oO 86 (Op.fieldAddr 30 (Operand.tmp 12) 0) 0 pCve0 #[]
def ca17o_4 : Oper := oO 87 (Op.load 25 (Operand.tmp 86)) 25 pCve0 #[DD 3]
def ca17o_5 : Oper := oO 88 (Op.move (Operand.tmp 14)) 3 pCve0 #[]
def ca17o_6 : Oper := oO 89 (Op.indexAddr 25 (Operand.tmp 87) (Operand.tmp 88)) 0 pCve0 #[DD 4, DD 5]
def ca17o_7 : Oper := oO 90 (Op.load 35 (Operand.tmp 89)) 35 pCve0 #[DD 6]
def ca17o_8 : Oper := oO 91 (Op.fieldAddr 30 (Operand.tmp 12) 1) 0 pCve0 #[]
def ca17o_9 : Oper := oO 92 (Op.load 25 (Operand.tmp 91)) 25 pCve0 #[DD 8]
def ca17o_10 : Oper := oO 93 (Op.move (Operand.tmp 14)) 3 pCve0 #[]
def ca17o_11 : Oper := oO 94 (Op.indexAddr 25 (Operand.tmp 92) (Operand.tmp 93)) 0 pCve0 #[DD 9, DD 10]
def ca17o_12 : Oper := oO 95 (Op.load 35 (Operand.tmp 94)) 35 pCve0 #[DD 11]
def ca17o_13 : Oper := oO 96 (Op.call { callee := Callee.value (Operand.func 10), args := #[Operand.tmp 90, Operand.tmp 95], argTypes := #[35, 35] }) 35 pCve0 #[DD 7, DD 12]
def ca17o_14 : Oper := oO 97 (Op.indexAddr 25 (Operand.tmp 84) (Operand.tmp 85)) 0 pCve0 #[DD 1, DD 2, PH 0, PH 1, PH 2, PH 3, PH 4, PH 5, PH 6, PH 7, PH 8, PH 9, PH 10, PH 11, PH 12, PH 13]
def ca17o_15 : Oper := oN (Op.store 35 (Operand.tmp 97) (Operand.tmp 96)) pCve0 #[DD 14, DD 13, CH 13, PH 0, PH 1, PH 2, PH 3, PH 4, PH 5, PH 6, PH 7, PH 8, PH 9, PH 10, PH 11, PH 12, PH 13]
def ca17o : Array Oper := #[ca17o_0, ca17o_1, ca17o_2, ca17o_3, ca17o_4, ca17o_5, ca17o_6, ca17o_7, ca17o_8, ca17o_9, ca17o_10, ca17o_11, ca17o_12, ca17o_13, ca17o_14, ca17o_15]
theorem ca17 (Q : Exit → Act → World → Prop) (fb ii b0 n0 c0 b1 n1 c1 b2 n2 c2 : Nat) (p q r : E4) (u0 u1 u2 u3 u4 u5 u6 u7 u8 u9 aa ab ae ag ah ai aj ak al am an ao ap aq au av aw ax ay az aA aB aC aD aE aF aG aH aI aJ aK aL aM aN aO aP aQ aR aS aT aU aV aW aX aY aZ a4 a5 a6 a7 a8 a9 ba bb bc bd be bg bh bi bj bk bl bm bn bo bp bq br bt bu bv bw bx bz bA bB bC bD bE bF bG bH bI bJ bK bL bM bN bO bP bQ bR bS bT bU bV bW bX bY bZ b3 b4 b5 b6 b7 b8 b9 ca cb cc cd ce cf cg ch ci cj ck cm cn cp cq cr cs ct cu cv cw cx cz cA cB cC cD cE cF cG cH cI cJ cK cL cM cN cO cP cQ cR cS cT cU cV cW cX cY cZ c3 c4 c5 c6 c7 c8 c9 da db dc dd de df dg dh di dj dk dl dm dn dp dq dr : Value) (W : World)
  (j0 : (0 : Int) ≤ (ii : Int)) (i0 : (ii : Int) < (n0 : Int)) (i1 : (ii : Int) < (n1 : Int)) (i2 : (ii : Int) < (n2 : Int)) (nf : fb ≠ b2) (n02 : b0 ≠ b2) (n12 : b1 ≠ b2) (th : W.there b2 (ii * 4) 4)
  (t0 : W.cell? ⟨fb, 0, none⟩ = some (.slice (some ⟨b0, 0, none⟩) n0 c0)) (t1 : W.cell? ⟨fb, 1, none⟩ = some (.slice (some ⟨b1, 0, none⟩) n1 c1)) (t2 : W.cell? ⟨fb, 2, none⟩ = some (.slice (some ⟨b2, 0, none⟩) n2 c2)) (p0 : W.cell? ⟨b0, ii * 4, none⟩ = some (.int .u64 p.x0)) (p1 : W.cell? ⟨b0, ii * 4 + 1, none⟩ = some (.int .u64 p.x1)) (p2 : W.cell? ⟨b0, ii * 4 + 2, none⟩ = some (.int .u64 p.x2)) (p3 : W.cell? ⟨b0, ii * 4 + 3, none⟩ = some (.int .u64 p.x3)) (q0 : W.cell? ⟨b1, ii * 4, none⟩ = some (.int .u64 q.x0)) (q1 : W.cell? ⟨b1, ii * 4 + 1, none⟩ = some (.int .u64 q.x1)) (q2 : W.cell? ⟨b1, ii * 4 + 2, none⟩ = some (.int .u64 q.x2)) (q3 : W.cell? ⟨b1, ii * 4 + 3, none⟩ = some (.int .u64 q.x3))
  (C13 : Hid (∀ y, Below W.heap.size W y → Calls Tryz.prog 10 #[.agg #[.int .u64 p.x0, .int .u64 p.x1, .int .u64 p.x2, .int .u64 p.x3], .agg #[.int .u64 q.x0, .int .u64 q.x1, .int .u64 q.x2, .int .u64 q.x3]] y fun e w' => e = .returned (.agg #[.int .u64 r.x0, .int .u64 r.x1, .int .u64 r.x2, .int .u64 r.x3]) ∧ Below y.heap.size y w'))
  (HQ : Hid (∀ (wz : World), (∃ wy, Below W.heap.size W wy ∧ wz = wy.setCells b2 (ii * 4) [.int .u64 r.x0, .int .u64 r.x1, .int .u64 r.x2, .int .u64 r.x3]) → Q .normal ⟨#[u0, u1, u2, u3, u4, u5, u6, u7, u8, u9, aa, ab, .pointer (some ⟨fb, 0, none⟩), ae, .int .i64 (ii : Int), ag, ah, ai, aj, ak, al, am, an, ao, ap, aq, au, av, aw, ax, ay, az, aA, aB, aC, aD, aE, aF, aG, aH, aI, aJ, aK, aL, aM, aN, aO, aP, aQ, aR, aS, aT, aU, aV, aW, aX, aY, aZ, a4, a5, a6, a7, a8, a9, ba, bb, bc, bd, be, bg, bh, bi, bj, bk, bl, bm, bn, bo, bp, bq, br, bt, bu, .pointer (some ⟨fb, 2, none⟩), .slice (some ⟨b2, 0, none⟩) n2 c2, .int .i64 (ii : Int), .pointer (some ⟨fb, 0, none⟩), .slice (some ⟨b0, 0, none⟩) n0 c0, .int .i64 (ii : Int), .pointer (some ⟨b0, ii * 4, none⟩), .agg #[.int .u64 p.x0, .int .u64 p.x1, .int .u64 p.x2, .int .u64 p.x3], .pointer (some ⟨fb, 1, none⟩), .slice (some ⟨b1, 0, none⟩) n1 c1, .int .i64 (ii : Int), .pointer (some ⟨b1, ii * 4, none⟩), .agg #[.int .u64 q.x0, .int .u64 q.x1, .int .u64 q.x2, .int .u64 q.x3], .agg #[.int .u64 r.x0, .int .u64 r.x1, .int .u64 r.x2, .int .u64 r.x3], .pointer (some ⟨b2, ii * 4, none⟩), bL, bM, bN, bO, bP, bQ, bR, bS, bT, bU, bV, bW, bX, bY, bZ, b3, b4, b5, b6, b7, b8, b9, ca, cb, cc, cd, ce, cf, cg, ch, ci, cj, ck, cm, cn, cp, cq, cr, cs, ct, cu, cv, cw, cx, cz, cA, cB, cC, cD, cE, cF, cG, cH, cI, cJ, cK, cL, cM, cN, cO, cP, cQ, cR, cS, cT, cU, cV, cW, cX, cY, cZ, c3, c4, c5, c6, c7, c8, c9, da, db, dc, dd, de, df, dg, dh, di, dj, dk, dl, dm, dn, dp, dq, dr], []⟩ wz)) : (Code.region 17 ca17o true).wp Tryz.prog Q ⟨#[u0, u1, u2, u3, u4, u5, u6, u7, u8, u9, aa, ab, .pointer (some ⟨fb, 0, none⟩), ae, .int .i64 (ii : Int), ag, ah, ai, aj, ak, al, am, an, ao, ap, aq, au, av, aw, ax, ay, az, aA, aB, aC, aD, aE, aF, aG, aH, aI, aJ, aK, aL, aM, aN, aO, aP, aQ, aR, aS, aT, aU, aV, aW, aX, aY, aZ, a4, a5, a6, a7, a8, a9, ba, bb, bc, bd, be, bg, bh, bi, bj, bk, bl, bm, bn, bo, bp, bq, br, bt, bu, bv, bw, bx, bz, bA, bB, bC, bD, bE, bF, bG, bH, bI, bJ, bK, bL, bM, bN, bO, bP, bQ, bR, bS, bT, bU, bV, bW, bX, bY, bZ, b3, b4, b5, b6, b7, b8, b9, ca, cb, cc, cd, ce, cf, cg, ch, ci, cj, ck, cm, cn, cp, cq, cr, cs, ct, cu, cv, cw, cx, cz, cA, cB, cC, cD, cE, cF, cG, cH, cI, cJ, cK, cL, cM, cN, cO, cP, cQ, cR, cS, cT, cU, cV, cW, cX, cY, cZ, c3, c4, c5, c6, c7, c8, c9, da, db, dc, dd, de, df, dg, dh, di, dj, dk, dl, dm, dn, dp, dq, dr], []⟩ W := by
 have BB := Hn (bl_drew W)
 unfold ca17o
 refine wp_region_noPanic ?_
 refine wp_region_held_drew (S := fun x => W.grownBy x (some b2)) (by kernel_rfl) (gbI (bl_drew W) _) (fun hH0 => ?_)
 refine tj 0 ca17o_0 (.pointer (some ⟨fb, 2, none⟩)) hH0 (fun w0 hSw => ?_) ?_
 ·(unfold ca17o_0 oO; clear hSw; go_simp)
 simp only [ca17o_0, oO, Act.put, sA, sB, sC]
 refine tj 2 ca17o_2 (.int .i64 (ii : Int)) hH0 (fun w0 hSw => ?_) ?_
 ·(unfold ca17o_2 oO; clear hSw; go_simp)
 simp only [ca17o_2, oO, Act.put, sA, sB, sC]
 refine tj 3 ca17o_3 (.pointer (some ⟨fb, 0, none⟩)) hH0 (fun w0 hSw => ?_) ?_
 ·(unfold ca17o_3 oO; clear hSw; go_simp)
 simp only [ca17o_3, oO, Act.put, sA, sB, sC]
 refine tj 5 ca17o_5 (.int .i64 (ii : Int)) hH0 (fun w0 hSw => ?_) ?_
 ·(unfold ca17o_5 oO; clear hSw; go_simp)
 simp only [ca17o_5, oO, Act.put, sA, sB, sC]
 refine tj 8 ca17o_8 (.pointer (some ⟨fb, 1, none⟩)) hH0 (fun w0 hSw => ?_) ?_
 ·(unfold ca17o_8 oO; clear hSw; go_simp)
 simp only [ca17o_8, oO, Act.put, sA, sB, sC]
 refine tj 10 ca17o_10 (.int .i64 (ii : Int)) hH0 (fun w0 hSw => ?_) ?_
 ·(unfold ca17o_10 oO; clear hSw; go_simp)
 simp only [ca17o_10, oO, Act.put, sA, sB, sC]
 refine tj 1 ca17o_1 (.slice (some ⟨b2, 0, none⟩) n2 c2) hH0 (fun w0 hSw => ?_) ?_
 ·(unfold ca17o_1 oO; have hS : W.grownBy w0 (some b2) := hSw; have a0 := hS.cell t2 (fun e => nf (Option.some.inj e)); clear hS hSw; go_simp)
 simp only [ca17o_1, oO, Act.put, sA, sB, sC]
 refine tj 4 ca17o_4 (.slice (some ⟨b0, 0, none⟩) n0 c0) hH0 (fun w0 hSw => ?_) ?_
 ·(unfold ca17o_4 oO; have hS : W.grownBy w0 (some b2) := hSw; have a0 := hS.cell t0 (fun e => nf (Option.some.inj e)); clear hS hSw; go_simp)
 simp only [ca17o_4, oO, Act.put, sA, sB, sC]
 refine tj 9 ca17o_9 (.slice (some ⟨b1, 0, none⟩) n1 c1) hH0 (fun w0 hSw => ?_) ?_
 ·(unfold ca17o_9 oO; have hS : W.grownBy w0 (some b2) := hSw; have a0 := hS.cell t1 (fun e => nf (Option.some.inj e)); clear hS hSw; go_simp)
 simp only [ca17o_9, oO, Act.put, sA, sB, sC]
 refine tj 6 ca17o_6 (.pointer (some ⟨b0, ii * 4, none⟩)) hH0 (fun w0 hSw => ?_) ?_
 ·(unfold ca17o_6 oO; clear hSw; go_simp)
 simp only [ca17o_6, oO, Act.put, sA, sB, sC]
 refine tj 11 ca17o_11 (.pointer (some ⟨b1, ii * 4, none⟩)) hH0 (fun w0 hSw => ?_) ?_
 ·(unfold ca17o_11 oO; clear hSw; go_simp)
 simp only [ca17o_11, oO, Act.put, sA, sB, sC]
 refine tj 7 ca17o_7 (.agg #[.int .u64 p.x0, .int .u64 p.x1, .int .u64 p.x2, .int .u64 p.x3]) hH0 (fun w0 hSw => ?_) ?_
 ·(unfold ca17o_7 oO; have hS : W.grownBy w0 (some b2) := hSw; have a0 := hS.cell p0 (fun e => n02 (Option.some.inj e)); have a1 := hS.cell p1 (fun e => n02 (Option.some.inj e)); have a2 := hS.cell p2 (fun e => n02 (Option.some.inj e)); have a3 := hS.cell p3 (fun e => n02 (Option.some.inj e)); clear hS hSw; go_simp)
 simp only [ca17o_7, oO, Act.put, sA, sB, sC]
 refine tj 12 ca17o_12 (.agg #[.int .u64 q.x0, .int .u64 q.x1, .int .u64 q.x2, .int .u64 q.x3]) hH0 (fun w0 hSw => ?_) ?_
 ·(unfold ca17o_12 oO; have hS : W.grownBy w0 (some b2) := hSw; have a0 := hS.cell q0 (fun e => n12 (Option.some.inj e)); have a1 := hS.cell q1 (fun e => n12 (Option.some.inj e)); have a2 := hS.cell q2 (fun e => n12 (Option.some.inj e)); have a3 := hS.cell q3 (fun e => n12 (Option.some.inj e)); clear hS hSw; go_simp)
 simp only [ca17o_12, oO, Act.put, sA, sB, sC]
 refine ar [13] ?_
 refine ac ca17o_13 (fun K hK => ?_) AllReadyH.nil
 unfold ca17o_13 oO
 have HH := Hn hH0
 clear hH0
 go_simp
 refine (C13.out _ BB.out).mono ?_
 rintro e wn1 ⟨rfl, hb⟩
 replace BB := Hn (bl_trans BB.out hb)
 have SN := Hn (HH.out.trans (gbI hb _))
 clear HH C13 hb
 go_wp2_with fail
 refine hK.out _ _ SN.out (fun hH1 => ?_)
 clear hK K SN
 refine tj 14 ca17o_14 (.pointer (some ⟨b2, ii * 4, none⟩)) hH1 (fun w0 hSw => ?_) ?_
 ·(unfold ca17o_14 oO; clear hSw; go_simp)
 simp only [ca17o_14, oO, Act.put, sA, sB, sC]
 refine ar [15] ?_
 refine ac ca17o_15 (fun K hK => ?_) AllReadyH.nil
 unfold ca17o_15 oN
 have HH := Hn hH1
 clear hH1
 refine wp_storeE 35 _ _ rfl b2 (ii * 4) ([.int .u64 r.x0, .int .u64 r.x1, .int .u64 r.x2, .int .u64 r.x3]) (by rfl) (by rfl) (there_bl th BB.out) i4_s (one4 r) rfl (fun wn2 hw => ?_)
 have SN := Hn (HH.out.trans (gb_setCells b2 [.int .u64 r.x0, .int .u64 r.x1, .int .u64 r.x2, .int .u64 r.x3] (ii * 4) _))
 have FE := Hn ((⟨_, BB.out, hw⟩ : ∃ wy, Below W.heap.size W wy ∧ _ = wy.setCells b2 (ii * 4) [.int .u64 r.x0, .int .u64 r.x1, .int .u64 r.x2, .int .u64 r.x3]))
 rw [← hw] at SN
 clear HH hw
 refine hK.out _ _ SN.out (fun hH2 => ?_)
 clear hK K SN
 have HH := Hn hH2
 have FQ := Hn (HQ.out _ FE.out)
 refine wpAnyH_done (by kernel_rfl) ?_ _
 refine NoPanic.normal ?_
 exact FQ.out
def ca11o_0 : Oper := oO 46 (Op.move (Operand.tmp 11)) 27 pCve2 #[]
def ca11o_1 : Oper := oO 47 (Op.load 30 (Operand.tmp 12)) 30 pCve2 #[]
def ca11o_2 : Oper := oO 48 (Op.move (Operand.tmp 13)) 24 pCve2 #[]
def ca11o_3 : Oper := oO 49 (Op.move (Operand.tmp 13)) 24 pCve2 #[]
def ca11o_4 : Oper := oO 50 (Op.call { callee := Callee.builtin Builtin.append, args := #[Operand.const (Value.slice none 0 0), Operand.tmp 49], argTypes := #[24, 24] }) 24 pCve2 #[DD 3]
def ca11o_5 : Oper := oO 51 (Op.move (Operand.tmp 3)) 24 pCve2 #[]
def ca11o_6 : Oper := oO 52 (Op.call { callee := Callee.value (Operand.func 7), args := #[Operand.tmp 46, Operand.tmp 47, Operand.tmp 48, Operand.tmp 50, Operand.tmp 51], argTypes := #[27, 30, 24, 24, 24] }) 4 pCve2 #[DD 0, DD 1, DD 2, DD 4, DD 5, CH 4]
def ca11o_7 : Oper := oO 53 (Op.unOp UnOp.not 4 (Operand.tmp 52)) 4 pCve2 #[DD 6]
def ca11o : Array Oper := #[ca11o_0, ca11o_1, ca11o_2, ca11o_3, ca11o_4, ca11o_5, ca11o_6, ca11o_7]
theorem ca11 (Q : Exit → Act → World → Prop) (s x12 n c ny cy : Nat) (P Py : Option Addr) (f : Nat → Trm) (l r o v : Sl) (u0 u1 u2 u4 u5 u6 u7 u8 u9 aa af ag ah ai aj ak al am an ao ap aq au av aw ax ay az aA aB aC aD aE aF aG aH aI aJ aK aL aM aN aO aP aQ aR aS aT aU aV aW aX aY aZ a4 a5 a6 a7 a8 a9 ba bb bc bd be bg bh bi bj bk bl bm bn bo bp bq br bt bu bv bw bx bz bA bB bC bD bE bF bG bH bI bJ bK bL bM bN bO bP bQ bR bS bT bU bV bW bX bY bZ b3 b4 b5 b6 b7 b8 b9 ca cb cc cd ce cf cg ch ci cj ck cm cn cp cq cr cs ct cu cv cw cx cz cA cB cC cD cE cF cG cH cI cJ cK cL cM cN cO cP cQ cR cS cT cU cV cW cX cY cZ c3 c4 c5 c6 c7 c8 c9 da db dc dd de df dg dh di dj dk dl dm dn dp dq dr : Value) (W : World)
  (a0 : W.cell? ⟨x12, 0, none⟩ = some (.slice l.p l.n l.c)) (a1 : W.cell? ⟨x12, 1, none⟩ = some (.slice r.p r.n r.c)) (a2 : W.cell? ⟨x12, 2, none⟩ = some (.slice o.p o.n o.c)) (a3 : W.cell? ⟨x12, 3, none⟩ = some (.slice v.p v.n v.c)) (RO : Ot W P n c f)
  (C6 : Hid (∀ p2 c2 yy, Below W.heap.size W yy → Ot yy p2 n c2 f → Calls Tryz.prog 7 #[.pointer (some ⟨s, 0, none⟩), .agg #[.slice l.p l.n l.c, .slice r.p r.n r.c, .slice o.p o.n o.c, .slice v.p v.n v.c], .slice P n c, .slice p2 n c2, .slice Py ny cy] yy fun e w' => e = .returned (.bool true) ∧ Below yy.heap.size yy w'))
  (HQ : Hid (∀ (wz : World) (p2 : Option Addr) (c2 : Nat), Below W.heap.size W wz → Q .normal ⟨#[u0, u1, u2, .slice Py ny cy, u4, u5, u6, u7, u8, u9, aa, .pointer (some ⟨s, 0, none⟩), .pointer (some ⟨x12, 0, none⟩), .slice P n c, af, ag, ah, ai, aj, ak, al, am, an, ao, ap, aq, au, av, aw, ax, ay, az, aA, aB, aC, aD, aE, aF, aG, aH, aI, aJ, aK, aL, aM, aN, .pointer (some ⟨s, 0, none⟩), .agg #[.slice l.p l.n l.c, .slice r.p r.n r.c, .slice o.p o.n o.c, .slice v.p v.n v.c], .slice P n c, .slice P n c, .slice p2 n c2, .slice Py ny cy, .bool true, .bool false, aW, aX, aY, aZ, a4, a5, a6, a7, a8, a9, ba, bb, bc, bd, be, bg, bh, bi, bj, bk, bl, bm, bn, bo, bp, bq, br, bt, bu, bv, bw, bx, bz, bA, bB, bC, bD, bE, bF, bG, bH, bI, bJ, bK, bL, bM, bN, bO, bP, bQ, bR, bS, bT, bU, bV, bW, bX, bY, bZ, b3, b4, b5, b6, b7, b8, b9, ca, cb, cc, cd, ce, cf, cg, ch, ci, cj, ck, cm, cn, cp, cq, cr, cs, ct, cu, cv, cw, cx, cz, cA, cB, cC, cD, cE, cF, cG, cH, cI, cJ, cK, cL, cM, cN, cO, cP, cQ, cR, cS, cT, cU, cV, cW, cX, cY, cZ, c3, c4, c5, c6, c7, c8, c9, da, db, dc, dd, de, df, dg, dh, di, dj, dk, dl, dm, dn, dp, dq, dr], []⟩ wz)) : (Code.region 11 ca11o true).wp Tryz.prog Q ⟨#[u0, u1, u2, .slice Py ny cy, u4, u5, u6, u7, u8, u9, aa, .pointer (some ⟨s, 0, none⟩), .pointer (some ⟨x12, 0, none⟩), .slice P n c, af, ag, ah, ai, aj, ak, al, am, an, ao, ap, aq, au, av, aw, ax, ay, az, aA, aB, aC, aD, aE, aF, aG, aH, aI, aJ, aK, aL, aM, aN, aO, aP, aQ, aR, aS, aT, aU, aV, aW, aX, aY, aZ, a4, a5, a6, a7, a8, a9, ba, bb, bc, bd, be, bg, bh, bi, bj, bk, bl, bm, bn, bo, bp, bq, br, bt, bu, bv, bw, bx, bz, bA, bB, bC, bD, bE, bF, bG, bH, bI, bJ, bK, bL, bM, bN, bO, bP, bQ, bR, bS, bT, bU, bV, bW, bX, bY, bZ, b3, b4, b5, b6, b7, b8, b9, ca, cb, cc, cd, ce, cf, cg, ch, ci, cj, ck, cm, cn, cp, cq, cr, cs, ct, cu, cv, cw, cx, cz, cA, cB, cC, cD, cE, cF, cG, cH, cI, cJ, cK, cL, cM, cN, cO, cP, cQ, cR, cS, cT, cU, cV, cW, cX, cY, cZ, c3, c4, c5, c6, c7, c8, c9, da, db, dc, dd, de, df, dg, dh, di, dj, dk, dl, dm, dn, dp, dq, dr], []⟩ W := by
 unfold ca11o
 refine wp_region_noPanic ?_
 refine wp_region_held_drew (S := fun x => Below W.heap.size W x) (by kernel_rfl) (bl_drew W) (fun hH0 => ?_)
 refine tj 0 ca11o_0 (.pointer (some ⟨s, 0, none⟩)) hH0 (fun w0 hSw => ?_) ?_
 ·(unfold ca11o_0 oO; clear hSw; go_simp)
 simp only [ca11o_0, oO, Act.put, sA, sB, sC]
 refine tj 1 ca11o_1 (.agg #[.slice l.p l.n l.c, .slice r.p r.n r.c, .slice o.p o.n o.c, .slice v.p v.n v.c]) hH0 (fun w0 hSw => ?_) ?_
 ·(unfold ca11o_1 oO; have hS : Below W.heap.size W w0 := hSw; have a0 := cell_keep a0 hS; have a1 := cell_keep a1 hS; have a2 := cell_keep a2 hS; have a3 := cell_keep a3 hS; clear hS hSw; go_simp)
 simp only [ca11o_1, oO, Act.put, sA, sB, sC]
 refine tj 2 ca11o_2 (.slice P n c) hH0 (fun w0 hSw => ?_) ?_
 ·(unfold ca11o_2 oO; clear hSw; go_simp)
 simp only [ca11o_2, oO, Act.put, sA, sB, sC]
 refine tj 3 ca11o_3 (.slice P n c) hH0 (fun w0 hSw => ?_) ?_
 ·(unfold ca11o_3 oO; clear hSw; go_simp)
 simp only [ca11o_3, oO, Act.put, sA, sB, sC]
 refine tj 5 ca11o_5 (.slice Py ny cy) hH0 (fun w0 hSw => ?_) ?_
 ·(unfold ca11o_5 oO; clear hSw; go_simp)
 simp only [ca11o_5, oO, Act.put, sA, sB, sC]
 refine ar [4] ?_
 refine ac ca11o_4 (fun K hK => ?_) AllReadyH.nil
 unfold ca11o_4 oO
 have HH := Hn hH0
 clear hH0
 refine wp_cpT HH _ rfl RO rfl (fun p2 c2 wn1 hbb SN O2 => ?_)
 clear HH hbb
 simp only [Act.put, sA, sB, sC]
 refine hK.out _ _ SN.out (fun hH1 => ?_)
 clear hK K SN
 refine ar [6] ?_
 refine ac ca11o_6 (fun K hK => ?_) AllReadyH.nil
 unfold ca11o_6 oO
 have HH := Hn hH1
 clear hH1
 go_simp
 refine (C6.out _ _ _ HH.out O2.out).mono ?_
 rintro e wn2 ⟨rfl, hb⟩
 have SN := Hn (bl_trans HH.out hb)
 clear HH C6 hb O2
 go_wp2_with fail
 refine hK.out _ _ SN.out (fun hH2 => ?_)
 clear hK K SN
 refine tj 7 ca11o_7 (.bool false) hH2 (fun w0 hSw => ?_) ?_
 ·(unfold ca11o_7 oO; clear hSw; go_simp)
 simp only [ca11o_7, oO, Act.put, sA, sB, sC]
 have HH := Hn hH2
 have FQ := Hn (HQ.out _ p2 c2 HH.out)
 refine wpAnyH_done (by kernel_rfl) ?_ _
 refine NoPanic.normal ?_
 exact FQ.out
def ca22o_0 : Oper := oO 116 (Op.move (Operand.tmp 11)) 27 pCve3 #[]
def ca22o_1 : Oper := oO 117 (Op.load 30 (Operand.tmp 12)) 30 pCve3 #[]
def ca22o_2 : Oper := oO 118 (Op.move (Operand.tmp 13)) 24 pCve3 #[]
def ca22o_3 : Oper := oO 119 (Op.move (Operand.tmp 13)) 24 pCve3 #[]
def ca22o_4 : Oper := oO 120 (Op.call { callee := Callee.builtin Builtin.append, args := #[Operand.const (Value.slice none 0 0), Operand.tmp 119], argTypes := #[24, 24] }) 24 pCve3 #[DD 3]
def ca22o_5 : Oper := oO 121 (Op.move (Operand.tmp 3)) 24 pCve3 #[]
def ca22o_6 : Oper := oO 122 (Op.call { callee := Callee.value (Operand.func 7), args := #[Operand.tmp 116, Operand.tmp 117, Operand.tmp 118, Operand.tmp 120, Operand.tmp 121], argTypes := #[27, 30, 24, 24, 24] }) 4 pCve3 #[DD 0, DD 1, DD 2, DD 4, DD 5, CH 4]
def ca22o_7 : Oper := oO 123 (Op.unOp UnOp.not 4 (Operand.tmp 122)) 4 pCve3 #[DD 6]
def ca22o : Array Oper := #[ca22o_0, ca22o_1, ca22o_2, ca22o_3, ca22o_4, ca22o_5, ca22o_6, ca22o_7]
theorem ca22 (Q : Exit → Act → World → Prop) (s x12 n c ny cy : Nat) (P Py : Option Addr) (f : Nat → Trm) (l r o v : Sl) (u0 u1 u2 u4 u5 u6 u7 u8 u9 aa af ag ah ai aj ak al am an ao ap aq au av aw ax ay az aA aB aC aD aE aF aG aH aI aJ aK aL aM aN aO aP aQ aR aS aT aU aV aW aX aY aZ a4 a5 a6 a7 a8 a9 ba bb bc bd be bg bh bi bj bk bl bm bn bo bp bq br bt bu bv bw bx bz bA bB bC bD bE bF bG bH bI bJ bK bL bM bN bO bP bQ bR bS bT bU bV bW bX bY bZ b3 b4 b5 b6 b7 b8 b9 ca cb cc cd ce cf cg ch ci cj ck cm cn cp cq cr cs ct cu cv cw cx cz cA cB cC cD cE cF cG cH cI cJ cK cL cM cN cO cP cQ cR cS cT cU cV cW cX cY cZ c3 c4 c5 c6 c7 c8 c9 da db dc dd de df dg dh di dj dk dl dm dn dp dq dr : Value) (W : World)
  (a0 : W.cell? ⟨x12, 0, none⟩ = some (.slice l.p l.n l.c)) (a1 : W.cell? ⟨x12, 1, none⟩ = some (.slice r.p r.n r.c)) (a2 : W.cell? ⟨x12, 2, none⟩ = some (.slice o.p o.n o.c)) (a3 : W.cell? ⟨x12, 3, none⟩ = some (.slice v.p v.n v.c)) (RO : Ot W P n c f)
  (C6 : Hid (∀ p2 c2 yy, Below W.heap.size W yy → Ot yy p2 n c2 f → Calls Tryz.prog 7 #[.pointer (some ⟨s, 0, none⟩), .agg #[.slice l.p l.n l.c, .slice r.p r.n r.c, .slice o.p o.n o.c, .slice v.p v.n v.c], .slice P n c, .slice p2 n c2, .slice Py ny cy] yy fun e w' => e = .returned (.bool true) ∧ Below yy.heap.size yy w'))
  (HQ : Hid (∀ (wz : World) (p2 : Option Addr) (c2 : Nat), Below W.heap.size W wz → Q .normal ⟨#[u0, u1, u2, .slice Py ny cy, u4, u5, u6, u7, u8, u9, aa, .pointer (some ⟨s, 0, none⟩), .pointer (some ⟨x12, 0, none⟩), .slice P n c, af, ag, ah, ai, aj, ak, al, am, an, ao, ap, aq, au, av, aw, ax, ay, az, aA, aB, aC, aD, aE, aF, aG, aH, aI, aJ, aK, aL, aM, aN, aO, aP, aQ, aR, aS, aT, aU, aV, aW, aX, aY, aZ, a4, a5, a6, a7, a8, a9, ba, bb, bc, bd, be, bg, bh, bi, bj, bk, bl, bm, bn, bo, bp, bq, br, bt, bu, bv, bw, bx, bz, bA, bB, bC, bD, bE, bF, bG, bH, bI, bJ, bK, bL, bM, bN, bO, bP, bQ, bR, bS, bT, bU, bV, bW, bX, bY, bZ, b3, b4, b5, .pointer (some ⟨s, 0, none⟩), .agg #[.slice l.p l.n l.c, .slice r.p r.n r.c, .slice o.p o.n o.c, .slice v.p v.n v.c], .slice P n c, .slice P n c, .slice p2 n c2, .slice Py ny cy, .bool true, .bool false, ce, cf, cg, ch, ci, cj, ck, cm, cn, cp, cq, cr, cs, ct, cu, cv, cw, cx, cz, cA, cB, cC, cD, cE, cF, cG, cH, cI, cJ, cK, cL, cM, cN, cO, cP, cQ, cR, cS, cT, cU, cV, cW, cX, cY, cZ, c3, c4, c5, c6, c7, c8, c9, da, db, dc, dd, de, df, dg, dh, di, dj, dk, dl, dm, dn, dp, dq, dr], []⟩ wz)) : (Code.region 22 ca22o true).wp Tryz.prog Q ⟨#[u0, u1, u2, .slice Py ny cy, u4, u5, u6, u7, u8, u9, aa, .pointer (some ⟨s, 0, none⟩), .pointer (some ⟨x12, 0, none⟩), .slice P n c, af, ag, ah, ai, aj, ak, al, am, an, ao, ap, aq, au, av, aw, ax, ay, az, aA, aB, aC, aD, aE, aF, aG, aH, aI, aJ, aK, aL, aM, aN, aO, aP, aQ, aR, aS, aT, aU, aV, aW, aX, aY, aZ, a4, a5, a6, a7, a8, a9, ba, bb, bc, bd, be, bg, bh, bi, bj, bk, bl, bm, bn, bo, bp, bq, br, bt, bu, bv, bw, bx, bz, bA, bB, bC, bD, bE, bF, bG, bH, bI, bJ, bK, bL, bM, bN, bO, bP, bQ, bR, bS, bT, bU, bV, bW, bX, bY, bZ, b3, b4, b5, b6, b7, b8, b9, ca, cb, cc, cd, ce, cf, cg, ch, ci, cj, ck, cm, cn, cp, cq, cr, cs, ct, cu, cv, cw, cx, cz, cA, cB, cC, cD, cE, cF, cG, cH, cI, cJ, cK, cL, cM, cN, cO, cP, cQ, cR, cS, cT, cU, cV, cW, cX, cY, cZ, c3, c4, c5, c6, c7, c8, c9, da, db, dc, dd, de, df, dg, dh, di, dj, dk, dl, dm, dn, dp, dq, dr], []⟩ W := by
 unfold ca22o
 refine wp_region_noPanic ?_
 refine wp_region_held_drew (S := fun x => Below W.heap.size W x) (by kernel_rfl) (bl_drew W) (fun hH0 => ?_)
 refine tj 0 ca22o_0 (.pointer (some ⟨s, 0, none⟩)) hH0 (fun w0 hSw => ?_) ?_
 ·(unfold ca22o_0 oO; clear hSw; go_simp)
 simp only [ca22o_0, oO, Act.put, sA, sB, sC]
 refine tj 1 ca22o_1 (.agg #[.slice l.p l.n l.c, .slice r.p r.n r.c, .slice o.p o.n o.c, .slice v.p v.n v.c]) hH0 (fun w0 hSw => ?_) ?_
 ·(unfold ca22o_1 oO; have hS : Below W.heap.size W w0 := hSw; have a0 := cell_keep a0 hS; have a1 := cell_keep a1 hS; have a2 := cell_keep a2 hS; have a3 := cell_keep a3 hS; clear hS hSw; go_simp)
 simp only [ca22o_1, oO, Act.put, sA, sB, sC]
 refine tj 2 ca22o_2 (.slice P n c) hH0 (fun w0 hSw => ?_) ?_
 ·(unfold ca22o_2 oO; clear hSw; go_simp)
 simp only [ca22o_2, oO, Act.put, sA, sB, sC]
 refine tj 3 ca22o_3 (.slice P n c) hH0 (fun w0 hSw => ?_) ?_
 ·(unfold ca22o_3 oO; clear hSw; go_simp)
 simp only [ca22o_3, oO, Act.put, sA, sB, sC]
 refine tj 5 ca22o_5 (.slice Py ny cy) hH0 (fun w0 hSw => ?_) ?_
 ·(unfold ca22o_5 oO; clear hSw; go_simp)
 simp only [ca22o_5, oO, Act.put, sA, sB, sC]
 refine ar [4] ?_
 refine ac ca22o_4 (fun K hK => ?_) AllReadyH.nil
 unfold ca22o_4 oO
 have HH := Hn hH0
 clear hH0
 refine wp_cpT HH _ rfl RO rfl (fun p2 c2 wn1 hbb SN O2 => ?_)
 clear HH hbb
 simp only [Act.put, sA, sB, sC]
 refine hK.out _ _ SN.out (fun hH1 => ?_)
 clear hK K SN
 refine ar [6] ?_
 refine ac ca22o_6 (fun K hK => ?_) AllReadyH.nil
 unfold ca22o_6 oO
 have HH := Hn hH1
 clear hH1
 go_simp
 refine (C6.out _ _ _ HH.out O2.out).mono ?_
 rintro e wn2 ⟨rfl, hb⟩
 have SN := Hn (bl_trans HH.out hb)
 clear HH C6 hb O2
 go_wp2_with fail
 refine hK.out _ _ SN.out (fun hH2 => ?_)
 clear hK K SN
 refine tj 7 ca22o_7 (.bool false) hH2 (fun w0 hSw => ?_) ?_
 ·(unfold ca22o_7 oO; clear hSw; go_simp)
 simp only [ca22o_7, oO, Act.put, sA, sB, sC]
 have HH := Hn hH2
 have FQ := Hn (HQ.out _ p2 c2 HH.out)
 refine wpAnyH_done (by kernel_rfl) ?_ _
 refine NoPanic.normal ?_
 exact FQ.out
def ca33o_0 : Oper := oO 169 (Op.move (Operand.tmp 20)) 41 pCve1 #[]
def ca33o_1 : Oper := oO 170 (Op.binOp BinOp.eql 41 (Operand.tmp 169) (Operand.const (Value.int IntKind.i64 0)) 41) 4 pCve1 #[DD 0]
def ca33o_2 : Oper := oO 171 (Op.move (Operand.tmp 170)) 4 pCve1 #[DD 1]
def ca33o_3 : Oper := { dst := some 172, op := Op.move (Operand.tmp 19), type := 27, pos := "outright.go:313", after := #[GU 2], guard := some (2, true) }
def ca33o_4 : Oper := { dst := some 173, op := Op.call { callee := Callee.value (Operand.func 15), args := #[Operand.tmp 172], argTypes := #[27] }, type := 3, pos := "outright.go:313", after := #[DD 3, CH 2, GU 2], guard := some (2, true) }
def ca33o_5 : Oper := { dst := some 174, op := Op.move (Operand.tmp 11), type := 27, pos := "outright.go:313", after := #[GU 2], guard := some (2, true) }
def ca33o_6 : Oper := { dst := some 175, op := Op.call { callee := Callee.value (Operand.func 15), args := #[Operand.tmp 174], argTypes := #[27] }, type := 3, pos := "outright.go:313", after := #[DD 5, CH 4, GU 2], guard := some (2, true) }
def ca33o_7 : Oper := { dst := some 176, op := Op.binOp BinOp.eql 3 (Operand.tmp 173) (Operand.tmp 175) 3, type := 4, pos := "outright.go:313", after := #[DD 4, DD 6, GU 2], guard := some (2, true) }
def ca33o_8 : Oper := oO 177 (Op.pick (Operand.tmp 171) (Operand.tmp 176) (Operand.const (Value.bool false))) 4 pCve1 #[DD 2, DD 7]
def ca33o_9 : Oper := oO 178 (Op.move (Operand.tmp 177)) 4 pCve1 #[DD 8, CH 6]
def ca33o_10 : Oper := { dst := some 179, op := Op.move (Operand.tmp 23), type := 27, pos := "outright.go:313", after := #[GU 9], guard := some (9, true) }
def ca33o_11 : Oper := { dst := some 180, op := Op.call { callee := Callee.value (Operand.func 15), args := #[Operand.tmp 179], argTypes := #[27] }, type := 3, pos := "outright.go:313", after := #[DD 10, CH 9, GU 9], guard := some (9, true) }
def ca33o_12 : Oper := { dst := some 181, op := Op.move (Operand.tmp 21), type := 27, pos := "outright.go:313", after := #[GU 9], guard := some (9, true) }
def ca33o_13 : Oper := { dst := some 182, op := Op.call { callee := Callee.value (Operand.func 15), args := #[Operand.tmp 181], argTypes := #[27] }, type := 3, pos := "outright.go:313", after := #[DD 12, CH 11, GU 9], guard := some (9, true) }
def ca33o_14 : Oper := { dst := some 183, op := Op.binOp BinOp.eql 3 (Operand.tmp 180) (Operand.tmp 182) 3, type := 4, pos := "outright.go:313", after := #[DD 11, DD 13, GU 9], guard := some (9, true) }
def ca33o_15 : Oper := oO 184 (Op.pick (Operand.tmp 178) (Operand.tmp 183) (Operand.const (Value.bool false))) 4 pCve1 #[DD 9, DD 14]
def ca33o_16 : Oper := oO 185 (Op.move (Operand.tmp 184)) 4 pCve1 #[DD 15, CH 13]
def ca33o_17 : Oper := { dst := some 186, op := Op.move (Operand.tmp 23), type := 27, pos := "outright.go:313", after := #[GU 16], guard := some (16, true) }
def ca33o_18 : Oper := { dst := some 187, op := Op.call { callee := Callee.value (Operand.func 13), args := #[Operand.tmp 186], argTypes := #[27] }, type := 44, pos := "outright.go:313", after := #[DD 17, CH 16, GU 16], guard := some (16, true) }
def ca33o_19 : Oper := { dst := some 188, op := Op.convert 44 9 (Operand.tmp 187), type := 9, pos := "outright.go:313", after := #[DD 18, GU 16], guard := some (16, true) }
def ca33o_20 : Oper := { dst := some 189, op := Op.move (Operand.tmp 18), type := 44, pos := "outright.go:313", after := #[GU 16], guard := some (16, true) }
def ca33o_21 : Oper := { dst := some 190, op := Op.convert 44 9 (Operand.tmp 189), type := 9, pos := "outright.go:313", after := #[DD 20, GU 16], guard := some (16, true) }
def ca33o_22 : Oper := { dst := some 191, op := Op.binOp BinOp.eql 9 (Operand.tmp 188) (Operand.tmp 190) 9, type := 4, pos := "outright.go:313", after := #[DD 19, DD 21, GU 16], guard := some (16, true) }
def ca33o_23 : Oper := oO 192 (Op.pick (Operand.tmp 185) (Operand.tmp 191) (Operand.const (Value.bool false))) 4 pCve1 #[DD 16, DD 22]
def ca33o_24 : Oper := oO 10 (Op.assign (Operand.tmp 192)) 4 pCve1 #[DD 23, CH 18, PH 0, PH 1, PH 2, PH 3, PH 4, PH 5, PH 6, PH 7, PH 8, PH 9, PH 10, PH 11, PH 12, PH 13, PH 14, PH 15, PH 16, PH 17, PH 18, PH 19, PH 20, PH 21, PH 22, PH 23]
def ca33o : Array Oper := #[ca33o_0, ca33o_1, ca33o_2, ca33o_3, ca33o_4, ca33o_5, ca33o_6, ca33o_7, ca33o_8, ca33o_9, ca33o_10, ca33o_11, ca33o_12, ca33o_13, ca33o_14, ca33o_15, ca33o_16, ca33o_17, ca33o_18, ca33o_19, ca33o_20, ca33o_21, ca33o_22, ca33o_23, ca33o_24]
theorem ca33 (Q : Exit → Act → World → Prop) (s nn mm kk c0 g h : Nat) (p0 : Option Addr) (bs : List UInt8) (u0 u1 u2 u3 u4 u5 u6 u7 u8 u9 aa ad ae af ag ah ai an ap aq au av aw ax ay az aA aB aC aD aE aF aG aH aI aJ aK aL aM aN aO aP aQ aR aS aT aU aV aW aX aY aZ a4 a5 a6 a7 a8 a9 ba bb bc bd be bg bh bi bj bk bl bm bn bo bp bq br bt bu bv bw bx bz bA bB bC bD bE bF bG bH bI bJ bK bL bM bN bO bP bQ bR bS bT bU bV bW bX bY bZ b3 b4 b5 b6 b7 b8 b9 ca cb cc cd ce cf cg ch ci cj ck cm cn cp cq cr cs ct cu cv cw cx cz cA cB cC cD cE cF cG cH cI cJ cK cL cM cN cO cP cQ cR cS cT cU cV cW cX cY cZ c3 c4 c5 c6 c7 c8 c9 da db dc dd de df dg dh di dj dk dl dm dn dp dq dr : Value) (W : World)
  (by0 : Tr.By W p0 c0 bs)
  (C4 : Hid (∀ yy, Below W.heap.size W yy → Calls Tryz.prog 15 #[.pointer (some ⟨nn, 0, none⟩)] yy fun e w' => e = .returned (.int .i64 (g : Int)) ∧ Below yy.heap.size yy w'))
  (C6 : Hid (∀ yy, Below W.heap.size W yy → Calls Tryz.prog 15 #[.pointer (some ⟨s, 0, none⟩)] yy fun e w' => e = .returned (.int .i64 (g : Int)) ∧ Below yy.heap.size yy w'))
  (C11 : Hid (∀ yy, Below W.heap.size W yy → Calls Tryz.prog 15 #[.pointer (some ⟨mm, 0, none⟩)] yy fun e w' => e = .returned (.int .i64 (h : Int)) ∧ Below yy.heap.size yy w'))
  (C13 : Hid (∀ yy, Below W.heap.size W yy → Calls Tryz.prog 15 #[.pointer (some ⟨kk, 0, none⟩)] yy fun e w' => e = .returned (.int .i64 (h : Int)) ∧ Below yy.heap.size yy w'))
  (C18 : Hid (∀ yy, Below W.heap.size W yy → Calls Tryz.prog 13 #[.pointer (some ⟨mm, 0, none⟩)] yy fun e w' => ∃ p1 c1, e = .returned (.slice p1 bs.length c1) ∧ Tr.By w' p1 c1 bs ∧ Below yy.heap.size yy w'))
  (HQ : Hid (∀ (wz : World) (p1 : Option Addr) (c1 : Nat), Below W.heap.size W wz → Q .normal ⟨#[u0, u1, u2, u3, u4, u5, u6, u7, u8, u9, .bool true, .pointer (some ⟨s, 0, none⟩), ad, ae, af, ag, ah, ai, .slice p0 bs.length c0, .pointer (some ⟨nn, 0, none⟩), .int .i64 0, .pointer (some ⟨kk, 0, none⟩), an, .pointer (some ⟨mm, 0, none⟩), ap, aq, au, av, aw, ax, ay, az, aA, aB, aC, aD, aE, aF, aG, aH, aI, aJ, aK, aL, aM, aN, aO, aP, aQ, aR, aS, aT, aU, aV, aW, aX, aY, aZ, a4, a5, a6, a7, a8, a9, ba, bb, bc, bd, be, bg, bh, bi, bj, bk, bl, bm, bn, bo, bp, bq, br, bt, bu, bv, bw, bx, bz, bA, bB, bC, bD, bE, bF, bG, bH, bI, bJ, bK, bL, bM, bN, bO, bP, bQ, bR, bS, bT, bU, bV, bW, bX, bY, bZ, b3, b4, b5, b6, b7, b8, b9, ca, cb, cc, cd, ce, cf, cg, ch, ci, cj, ck, cm, cn, cp, cq, cr, cs, ct, cu, cv, cw, cx, cz, cA, cB, cC, cD, cE, cF, cG, cH, cI, cJ, cK, cL, cM, cN, cO, cP, cQ, cR, cS, cT, cU, cV, cW, cX, cY, cZ, .int .i64 0, .bool true, .bool true, .pointer (some ⟨nn, 0, none⟩), .int .i64 (g : Int), .pointer (some ⟨s, 0, none⟩), .int .i64 (g : Int), .bool true, .bool true, .bool true, .pointer (some ⟨mm, 0, none⟩), .int .i64 (h : Int), .pointer (some ⟨kk, 0, none⟩), .int .i64 (h : Int), .bool true, .bool true, .bool true, .pointer (some ⟨mm, 0, none⟩), .slice p1 bs.length c1, .string (Tr.sb bs), .slice p0 bs.length c0, .string (Tr.sb bs), .bool true, .bool true], []⟩ wz)) : (Code.region 33 ca33o true).wp Tryz.prog Q ⟨#[u0, u1, u2, u3, u4, u5, u6, u7, u8, u9, aa, .pointer (some ⟨s, 0, none⟩), ad, ae, af, ag, ah, ai, .slice p0 bs.length c0, .pointer (some ⟨nn, 0, none⟩), .int .i64 0, .pointer (some ⟨kk, 0, none⟩), an, .pointer (some ⟨mm, 0, none⟩), ap, aq, au, av, aw, ax, ay, az, aA, aB, aC, aD, aE, aF, aG, aH, aI, aJ, aK, aL, aM, aN, aO, aP, aQ, aR, aS, aT, aU, aV, aW, aX, aY, aZ, a4, a5, a6, a7, a8, a9, ba, bb, bc, bd, be, bg, bh, bi, bj, bk, bl, bm, bn, bo, bp, bq, br, bt, bu, bv, bw, bx, bz, bA, bB, bC, bD, bE, bF, bG, bH, bI, bJ, bK, bL, bM, bN, bO, bP, bQ, bR, bS, bT, bU, bV, bW, bX, bY, bZ, b3, b4, b5, b6, b7, b8, b9, ca, cb, cc, cd, ce, cf, cg, ch, ci, cj, ck, cm, cn, cp, cq, cr, cs, ct, cu, cv, cw, cx, cz, cA, cB, cC, cD, cE, cF, cG, cH, cI, cJ, cK, cL, cM, cN, cO, cP, cQ, cR, cS, cT, cU, cV, cW, cX, cY, cZ, c3, c4, c5, c6, c7, c8, c9, da, db, dc, dd, de, df, dg, dh, di, dj, dk, dl, dm, dn, dp, dq, dr], []⟩ W := by
 have BY := Hn (by0.keep (bl_drew W))
 clear by0
 unfold ca33o
 refine wp_region_noPanic ?_
 refine wp_region_held_drew (S := fun x => Below W.heap.size W x) (by kernel_rfl) (bl_drew W) (fun hH0 => ?_)
 refine tj 0 ca33o_0 (.int .i64 0) hH0 (fun w0 hSw => ?_) ?_
 ·(unfold ca33o_0 oO; clear hSw; go_simp)
 simp only [ca33o_0, oO, Act.put, sA, sB, sC]
 refine tj 1 ca33o_1 (.bool true) hH0 (fun w0 hSw => ?_) ?_
 ·(unfold ca33o_1 oO; clear hSw; go_simp)
 simp only [ca33o_1, oO, Act.put, sA, sB, sC]
 refine tj 2 ca33o_2 (.bool true) hH0 (fun w0 hSw => ?_) ?_
 ·(unfold ca33o_2 oO; clear hSw; go_simp)
 simp only [ca33o_2, oO, Act.put, sA, sB, sC]
 refine tj 3 ca33o_3 (.pointer (some ⟨nn, 0, none⟩)) hH0 (fun w0 hSw => ?_) ?_
 ·(unfold ca33o_3; clear hSw; go_simp)
 simp only [ca33o_3, Act.put, sA, sB, sC]
 refine tj 5 ca33o_5 (.pointer (some ⟨s, 0, none⟩)) hH0 (fun w0 hSw => ?_) ?_
 ·(unfold ca33o_5; clear hSw; go_simp)
 simp only [ca33o_5, Act.put, sA, sB, sC]
 refine ar [4] ?_
 refine ac ca33o_4 (fun K hK => ?_) AllReadyH.nil
 unfold ca33o_4
 have HH := Hn hH0
 clear hH0
 go_simp
 refine (C4.out _ HH.out).mono ?_
 rintro e wn1 ⟨rfl, hb⟩
 have SN := Hn (bl_trans HH.out hb)
 replace BY := Hn (BY.out.keep hb)
 clear HH C4 hb
 go_wp2_with fail
 refine hK.out _ _ SN.out (fun hH1 => ?_)
 clear hK K SN
 refine ar [6] ?_
 refine ac ca33o_6 (fun K hK => ?_) AllReadyH.nil
 unfold ca33o_6
 have HH := Hn hH1
 clear hH1
 go_simp
 refine (C6.out _ HH.out).mono ?_
 rintro e wn2 ⟨rfl, hb⟩
 have SN := Hn (bl_trans HH.out hb)
 replace BY := Hn (BY.out.keep hb)
 clear HH C6 hb
 go_wp2_with fail
 refine hK.out _ _ SN.out (fun hH2 => ?_)
 clear hK K SN
 refine tj 7 ca33o_7 (.bool true) hH2 (fun w0 hSw => ?_) ?_
 ·(unfold ca33o_7; clear hSw; go_simp)
 simp only [ca33o_7, Act.put, sA, sB, sC]
 refine tj 8 ca33o_8 (.bool true) hH2 (fun w0 hSw => ?_) ?_
 ·(unfold ca33o_8 oO; clear hSw; go_simp)
 simp only [ca33o_8, oO, Act.put, sA, sB, sC]
 refine tj 9 ca33o_9 (.bool true) hH2 (fun w0 hSw => ?_) ?_
 ·(unfold ca33o_9 oO; clear hSw; go_simp)
 simp only [ca33o_9, oO, Act.put, sA, sB, sC]
 refine tj 10 ca33o_10 (.pointer (some ⟨mm, 0, none⟩)) hH2 (fun w0 hSw => ?_) ?_
 ·(unfold ca33o_10; clear hSw; go_simp)
 simp only [ca33o_10, Act.put, sA, sB, sC]
 refine tj 12 ca33o_12 (.pointer (some ⟨kk, 0, none⟩)) hH2 (fun w0 hSw => ?_) ?_
 ·(unfold ca33o_12; clear hSw; go_simp)
 simp only [ca33o_12, Act.put, sA, sB, sC]
 refine ar [11] ?_
 refine ac ca33o_11 (fun K hK => ?_) AllReadyH.nil
 unfold ca33o_11
 have HH := Hn hH2
 clear hH2
 go_simp
 refine (C11.out _ HH.out).mono ?_
 rintro e wn3 ⟨rfl, hb⟩
 have SN := Hn (bl_trans HH.out hb)
 replace BY := Hn (BY.out.keep hb)
 clear HH C11 hb
 go_wp2_with fail
 refine hK.out _ _ SN.out (fun hH3 => ?_)
 clear hK K SN
 refine ar [13] ?_
 refine ac ca33o_13 (fun K hK => ?_) AllReadyH.nil
 unfold ca33o_13
 have HH := Hn hH3
 clear hH3
 go_simp
 refine (C13.out _ HH.out).mono ?_
 rintro e wn4 ⟨rfl, hb⟩
 have SN := Hn (bl_trans HH.out hb)
 replace BY := Hn (BY.out.keep hb)
 clear HH C13 hb
 go_wp2_with fail
 refine hK.out _ _ SN.out (fun hH4 => ?_)
 clear hK K SN
 refine tj 14 ca33o_14 (.bool true) hH4 (fun w0 hSw => ?_) ?_
 ·(unfold ca33o_14; clear hSw; go_simp)
 simp only [ca33o_14, Act.put, sA, sB, sC]
 refine tj 15 ca33o_15 (.bool true) hH4 (fun w0 hSw => ?_) ?_
 ·(unfold ca33o_15 oO; clear hSw; go_simp)
 simp only [ca33o_15, oO, Act.put, sA, sB, sC]
 refine tj 16 ca33o_16 (.bool true) hH4 (fun w0 hSw => ?_) ?_
 ·(unfold ca33o_16 oO; clear hSw; go_simp)
 simp only [ca33o_16, oO, Act.put, sA, sB, sC]
 refine tj 17 ca33o_17 (.pointer (some ⟨mm, 0, none⟩)) hH4 (fun w0 hSw => ?_) ?_
 ·(unfold ca33o_17; clear hSw; go_simp)
 simp only [ca33o_17, Act.put, sA, sB, sC]
 refine tj 20 ca33o_20 (.slice p0 bs.length c0) hH4 (fun w0 hSw => ?_) ?_
 ·(unfold ca33o_20; clear hSw; go_simp)
 simp only [ca33o_20, Act.put, sA, sB, sC]
 refine ar [18, 21] ?_
 refine ac ca33o_18 (fun K hK => ?_) (ac ca33o_21 (fun K hK => ?_) AllReadyH.nil)
 ·unfold ca33o_18
  have HH := Hn hH4
  clear hH4
  go_simp
  refine (C18.out _ HH.out).mono ?_
  rintro e wn5 ⟨p1, c1, rfl, hy, hb⟩
  have SN := Hn (bl_trans HH.out hb)
  replace BY := Hn (BY.out.keep hb)
  have B1 := Hn (hy)
  clear HH C18 hy hb
  go_wp2_with fail
  refine hK.out _ _ SN.out (fun hH5 => ?_)
  clear hK K SN
  refine ar [19, 21] ?_
  refine ac ca33o_19 (fun K hK => ?_) (ac ca33o_21 (fun K hK => ?_) AllReadyH.nil)
  ·unfold ca33o_19
   have HH := Hn hH5
   clear hH5
   refine Eq.mpr (if_pos (by exact rfl)) ?_
   refine wp_conv _ rfl rfl B1.out ?_
   simp only [Act.put, sA, sB, sC]
   have SN := HH
   clear HH
   refine hK.out _ _ SN.out (fun hH6 => ?_)
   clear hK K SN
   refine ar [21] ?_
   refine ac ca33o_21 (fun K hK => ?_) AllReadyH.nil
   unfold ca33o_21
   have HH := Hn hH6
   clear hH6
   refine Eq.mpr (if_pos (by exact rfl)) ?_
   refine wp_conv _ rfl rfl BY.out ?_
   simp only [Act.put, sA, sB, sC]
   have SN := HH
   clear HH
   refine hK.out _ _ SN.out (fun hH7 => ?_)
   clear hK K SN
   refine tj 22 ca33o_22 (.bool true) hH7 (fun w0 hSw => ?_) ?_
   ·(unfold ca33o_22; clear hSw; go_simp)
   simp only [ca33o_22, Act.put, sA, sB, sC]
   refine tj 23 ca33o_23 (.bool true) hH7 (fun w0 hSw => ?_) ?_
   ·(unfold ca33o_23 oO; clear hSw; go_simp)
   simp only [ca33o_23, oO, Act.put, sA, sB, sC]
   refine tj 24 ca33o_24 (.bool true) hH7 (fun w0 hSw => ?_) ?_
   ·(unfold ca33o_24 oO; clear hSw; go_simp)
   simp only [ca33o_24, oO, Act.put, sA, sB, sC]
   have HH := Hn hH7
   have FQ := Hn (HQ.out _ p1 c1 HH.out)
   refine wpAnyH_done (by kernel_rfl) ?_ _
   refine NoPanic.normal ?_
   exact FQ.out
  ·unfold ca33o_21
   have HH := Hn hH5
   clear hH5
   refine Eq.mpr (if_pos (by exact rfl)) ?_
   refine wp_conv _ rfl rfl BY.out ?_
   simp only [Act.put, sA, sB, sC]
   have SN := HH
   clear HH
   refine hK.out _ _ SN.out (fun hH6 => ?_)
   clear hK K SN
   refine ar [19] ?_
   refine ac ca33o_19 (fun K hK => ?_) AllReadyH.nil
   unfold ca33o_19
   have HH := Hn hH6
   clear hH6
   refine Eq.mpr (if_pos (by exact rfl)) ?_
   refine wp_conv _ rfl rfl B1.out ?_
   simp only [Act.put, sA, sB, sC]
   have SN := HH
   clear HH
   refine hK.out _ _ SN.out (fun hH7 => ?_)
   clear hK K SN
   refine tj 22 ca33o_22 (.bool true) hH7 (fun w0 hSw => ?_) ?_
   ·(unfold ca33o_22; clear hSw; go_simp)
   simp only [ca33o_22, Act.put, sA, sB, sC]
   refine tj 23 ca33o_23 (.bool true) hH7 (fun w0 hSw => ?_) ?_
   ·(unfold ca33o_23 oO; clear hSw; go_simp)
   simp only [ca33o_23, oO, Act.put, sA, sB, sC]
   refine tj 24 ca33o_24 (.bool true) hH7 (fun w0 hSw => ?_) ?_
   ·(unfold ca33o_24 oO; clear hSw; go_simp)
   simp only [ca33o_24, oO, Act.put, sA, sB, sC]
   have HH := Hn hH7
   have FQ := Hn (HQ.out _ p1 c1 HH.out)
   refine wpAnyH_done (by kernel_rfl) ?_ _
   refine NoPanic.normal ?_
   exact FQ.out
 ·unfold ca33o_21
  have HH := Hn hH4
  clear hH4
  refine Eq.mpr (if_pos (by exact rfl)) ?_
  refine wp_conv _ rfl rfl BY.out ?_
  simp only [Act.put, sA, sB, sC]
  have SN := HH
  clear HH
  refine hK.out _ _ SN.out (fun hH5 => ?_)
  clear hK K SN
  refine ar [18] ?_
  refine ac ca33o_18 (fun K hK => ?_) AllReadyH.nil
  unfold ca33o_18
  have HH := Hn hH5
  clear hH5
  go_simp
  refine (C18.out _ HH.out).mono ?_
  rintro e wn6 ⟨p1, c1, rfl, hy, hb⟩
  have SN := Hn (bl_trans HH.out hb)
  replace BY := Hn (BY.out.keep hb)
  have B1 := Hn (hy)
  clear HH C18 hy hb
  go_wp2_with fail
  refine hK.out _ _ SN.out (fun hH6 => ?_)
  clear hK K SN
  refine ar [19] ?_
  refine ac ca33o_19 (fun K hK => ?_) AllReadyH.nil
  unfold ca33o_19
  have HH := Hn hH6
  clear hH6
  refine Eq.mpr (if_pos (by exact rfl)) ?_
  refine wp_conv _ rfl rfl B1.out ?_
  simp only [Act.put, sA, sB, sC]
  have SN := HH
  clear HH
  refine hK.out _ _ SN.out (fun hH7 => ?_)
  clear hK K SN
  refine tj 22 ca33o_22 (.bool true) hH7 (fun w0 hSw => ?_) ?_
  ·(unfold ca33o_22; clear hSw; go_simp)
  simp only [ca33o_22, Act.put, sA, sB, sC]
  refine tj 23 ca33o_23 (.bool true) hH7 (fun w0 hSw => ?_) ?_
  ·(unfold ca33o_23 oO; clear hSw; go_simp)
  simp only [ca33o_23, oO, Act.put, sA, sB, sC]
  refine tj 24 ca33o_24 (.bool true) hH7 (fun w0 hSw => ?_) ?_
  ·(unfold ca33o_24 oO; clear hSw; go_simp)
  simp only [ca33o_24, oO, Act.put, sA, sB, sC]
  have HH := Hn hH7
  have FQ := Hn (HQ.out _ p1 c1 HH.out)
  refine wpAnyH_done (by kernel_rfl) ?_ _
  refine NoPanic.normal ?_
  exact FQ.out
end Ci
end Go.Proofs.YthngomhhafoamaaGreatDoor
namespace Go.Proofs.YthngomhhafoamaaGreatDoor
open Go.RowKit
open Cm (Wr Tm co bf Ls lf ins Eqm)
open Tr (cb By)
namespace Ci
theorem SysClone_new {base : Nat} {w : World} {s m Kg : Nat} {v : Value} {vs : List Value} {Q : List (List Tm)} (h : Sy base w s m Kg v vs Q) (hq : Q.length ≤ 4096) : Calls Tryz.prog 11 #[.pointer (some ⟨s, 0, none⟩)] w fun e w' => e = .returned (.pointer (some ⟨w.heap.size, 0, none⟩)) ∧ (∃ v' vs', Sy w.heap.size w' w.heap.size m Kg v' vs' Q) ∧ Below w.heap.size w w' := by
 have C0 := Hn (none_any h)
 obtain ⟨PQ, cQ, rfl, _, _⟩ := h.shape
 have BA := bl_alloc w (.cells #[.int .i64 (m : Int), .int .i64 (Kg : Int), .slice PQ Q.length cQ, .bool true] 72)
 have C1 := Hn (cloneL_any (w.alloc (.cells #[.int .i64 (m : Int), .int .i64 (Kg : Int), .slice PQ Q.length cQ, .bool true] 72)) (own_keepT h.row BA) hq h.ones)
 have k0 := h.c0
 have k1 := h.c1
 have k2 := h.c2
 have k3 := h.c3
 have HB := Hn BA
 have HH := Hn h
 have hnew := heap_alloc_new w (.cells #[.int .i64 (m : Int), .int .i64 (Kg : Int), .slice PQ Q.length cQ, .bool true] 72)
 have HNW := Hn hnew
 have e2 : (w.alloc (.cells #[.int .i64 (m : Int), .int .i64 (Kg : Int), .slice PQ Q.length cQ, .bool true] 72)).cell? ⟨w.heap.size, 2, none⟩ = some (.slice PQ Q.length cQ) := by go_simp
 have f2 : (w.alloc (.cells #[.int .i64 (m : Int), .int .i64 (Kg : Int), .slice PQ Q.length cQ, .bool true] 72)).frozen? ⟨w.heap.size, 2, none⟩ = false := by go_simp
 have SZ : Hid (w.heap.size < (w.alloc (.cells #[.int .i64 (m : Int), .int .i64 (Kg : Int), .slice PQ Q.length cQ, .bool true] 72)).heap.size) := Hn (by simp)
 have k2n := cell_keep k2 BA
 have HBS := Hn h.bs
 have HLT := Hn h.lt
 clear h BA hq hnew
 generalize hqn : Q.length = nq at *
 have HQN := Hn hqn
 clear hqn
 go_enter Tryz.func11, Tryz.ntmps11
 go_upto_region 3 with (go_at_call 38; refine C0.out.mono ?_; rintro e w1 ⟨rfl, hw1⟩; have hw2 := hw1.symm; clear hw1; subst hw2)
 clear C0
 go_upto_region 4 with fail
 clear k0 k1 k2 k3
 generalize w.alloc (.cells #[.int .i64 (m : Int), .int .i64 (Kg : Int), .slice PQ nq cQ, .bool true] 72) = w2 at *
 go_wp2_with (go_at_call 39; refine C1.out.mono ?_; rintro e w3 ⟨P3, c3, rfl, ho, hb⟩; have HO := Hn ho; have B3 := Hn hb; have e3 := cell_keep e2 hb; have f3 := (hb.frozen (p := ⟨w.heap.size, 2, none⟩) SZ.out).trans f2; clear ho hb e2 f2)
 have hs3 : w3.heap[w.heap.size]? = some (.cells #[.int .i64 (m : Int), .int .i64 (Kg : Int), .slice PQ nq cQ, .bool true] 72 (0, 0)) := (B3.out.block _ SZ.out).trans HNW.out
 have BF : Below w.heap.size w (w3.setCell ⟨w.heap.size, 2, none⟩ (.slice P3 nq c3)) := bl_cell (bl_trans HB.out B3.out) (Nat.le_refl _)
 refine bodyPost_ret (v := .pointer (some ⟨w.heap.size, 0, none⟩)) (by simp [results, Tryz.results11, go_sem]) rfl ⟨rfl, ⟨.slice P3 nq c3, vs, ?_⟩, BF⟩
 have hk := HH.out.keep BF
 refine ⟨?_, ?_, hk.ls, ?_, hk.sm⟩
 ·have := heap_setCell_same w3 w.heap.size 2 _ 72 (.slice P3 nq c3) hs3
  simpa using this
 ·rw [HQN.out]
  exact own_keepS (own_monoT HO.out (by have := HB.out.size; omega)) hs3 (by decide) (gb_cell w3 w.heap.size 2 _)
 ·exact Nat.le_refl _
theorem wpList_appR {P : Program} (w : World) {ops : Array Oper} {rest : List Oper} {o : Oper} {a : Act} {Q : Exit → Act → World → Prop} (hgd : o.guard = none) (x y : Operand) (t u : TypeId)
  (ho : o.op = .call { callee := .builtin .append, args := #[x, y], argTypes := #[t, u] }) (v1 v2 : Value) (h1 : a.eval x = v1) (h2 : a.eval y = v2) {v : Value} {w' : World}
  (hr : (Builtin.append_ #[t, u] o.type #[v1, v2]).run P w = .ok v w') (h : wpList P ops Q rest (a.put o.dst v) w') : wpList P ops Q (o :: rest) a w := by
 refine wpList_plain hgd fun K hK => ?_
 unfold Oper.wp execOp
 simp only [ho, resolve, invoke, builtin, Sem.run_bind, Sem.run_pure, Result.andThen_ok, List.map_toArray, List.map_cons, List.map_nil, h1, h2, hr]
 exact hK _ _ h
theorem run_copyM {P : Program} (w : World) (dT sT ty elem : TypeId) (size b o dLen dCap : Nat) (a : Addr) (sLen sCap : Nat) (cs : List Value)
  (hu : P.underlying dT = some (.slice elem)) (hs : (P.info? elem).map (·.size) = some size) (hn : cs.length = Nat.min sLen dLen * size)
  (hsrc : ∀ j v, cs[j]? = some v → w.cell? (a.add j) = some v) (hc : ∀ j, j < cs.length → (w.cell? ⟨b, o + j, none⟩).isSome = true) (hf : ∀ j, j < cs.length → w.frozen? ⟨b, o + j, none⟩ = false) (h1 : ∀ v ∈ cs, v.oneCell' = true) :
  (Builtin.copy_ #[dT, sT] ty #[.slice (some ⟨b, o, none⟩) dLen dCap, .slice (some a) sLen sCap]).run P w = .ok (goInt (Nat.min sLen dLen)) (w.setCells b o cs) := by
 have hl := run_loadCells_list (P := P) w a cs hsrc
 have hst := run_storeCells_cells (P := P) b o cs 0 w (by simpa using hc) (by simpa using hf) h1
 cases hq : P.info? elem with
 | none => simp [hq] at hs
 | some i =>
  have hi : i.size = size := by simpa [hq] using hs
  rw [hn] at hl
  simp [Builtin.copy_, run_underlying hu, Builtin.lenOf, Builtin.firstCells, sizeOf, typeInfo, hq, hi, hl, hst]
theorem run_copy0 {P : Program} (w : World) (dT sT ty elem : TypeId) (p q : Option Addr) (n c m d : Nat) (hu : P.underlying dT = some (.slice elem)) (hs : (P.info? elem).isSome = true) (h0 : Nat.min m n = 0) :
  (Builtin.copy_ #[dT, sT] ty #[.slice p n c, .slice q m d]).run P w = .ok (goInt 0) w := by
 have hl : ∀ (x : Addr), (loadCells x 0).run P w = .ok #[] w := fun x => by simpa using run_loadCells_list (P := P) w x [] (by simp)
 cases hq : P.info? elem with
 | none => rw [hq] at hs; cases hs
 | some i => cases p <;> cases q <;> simp [Builtin.copy_, run_underlying hu, Builtin.lenOf, Builtin.firstCells, sizeOf, typeInfo, hq, storeCells, hl, h0]
def setL : List Value → Nat → List Value → List Value
 | xs, _, [] => xs
 | xs, o, v :: r => setL (xs.set o v) (o + 1) r
theorem setL_get : ∀ (cs xs : List Value) (o j : Nat), o + cs.length ≤ xs.length → (setL xs o cs)[j]? = if o ≤ j ∧ j < o + cs.length then cs[j - o]? else xs[j]?
 | [], xs, o, j, h => by
  rw [if_neg (fun h9 => by simp only [List.length_nil] at h9; omega)]
  rfl
 | v :: r, xs, o, j, h => by
  show (setL (xs.set o v) (o + 1) r)[j]? = _
  rw [setL_get r (xs.set o v) (o + 1) j (by simp at h ⊢; omega)]
  simp only [List.length_cons] at h ⊢
  by_cases h1 : o + 1 ≤ j ∧ j < o + 1 + r.length
  ·rw [if_pos h1, if_pos (by omega), show j - o = (j - (o + 1)) + 1 by omega, List.getElem?_cons_succ]
  ·rw [if_neg h1]
   by_cases h2 : j = o
   ·subst h2
    rw [if_pos (by omega), List.getElem?_set_self (by omega), Nat.sub_self]
    rfl
   ·rw [if_neg (by omega), List.getElem?_set_ne (by omega)]
theorem own_setC {base gb n c s : Nat} {e : TypeId} : ∀ (cs : List Value) (o : Nat) (xs : List Value) (w : World), w.ownsRow base e s (.slice (some ⟨gb, 0, none⟩) n c) n xs → (w.setCells gb o cs).ownsRow base e s (.slice (some ⟨gb, 0, none⟩) n c) n (setL xs o cs)
 | [], o, xs, w, h => h
 | v :: r, o, xs, w, h => own_setC r (o + 1) (xs.set o v) (w.setCell ⟨gb, o, none⟩ v) (h.stored o v).1
theorem own_kd {x : World} {b b' s s' n n' : Nat} {e e' : TypeId} {u v : Value} {xs ys : List Value} (hu : x.ownsRow b e s u n xs) (hv : x.ownsRow b' e' s' v n' ys) (hne : e ≠ e') : ∀ k, u.ownBlock = some k → v.ownBlock ≠ some k := fun k hk e9 => by
 rcases hu.2 with ⟨h1, _⟩ | ⟨g, c, cur, h1, _, k1, _⟩
 ·rw [h1] at hk; cases hk
 ·rw [h1] at hk
  simp only [Value.ownBlock, Option.some.injEq] at hk
  subst hk
  rcases hv.2 with ⟨h2, _⟩ | ⟨g', c', cur', h2, _, k2, _⟩
  ·rw [h2] at e9; cases e9
  ·rw [h2] at e9
   simp only [Value.ownBlock, Option.some.injEq] at e9
   subst e9
   rw [k1] at k2
   simp only [Option.some.injEq, Obj.cells.injEq] at k2
   exact hne k2.2.1
theorem box_kd {x : World} {b s n B : Nat} {e T : TypeId} {u : Value} {xs : List Value} {arr : Array Value} (hu : x.ownsRow b e s u n xs) (hB : x.heap[B]? = some (.cells arr T (0, 0))) (hne : e ≠ T) : u.ownBlock ≠ some B := fun e9 => by
 rcases hu.2 with ⟨h1, _⟩ | ⟨g, c, cur, h1, _, k1, _⟩
 ·rw [h1] at e9; cases e9
 ·rw [h1] at e9
  simp only [Value.ownBlock, Option.some.injEq] at e9
  subst e9
  rw [k1] at hB
  simp only [Option.some.injEq, Obj.cells.injEq] at hB
  exact hne hB.2.1
theorem own_kept {x y : World} {b b' s s' n n' : Nat} {e e' : TypeId} {u v : Value} {xs ys : List Value} (hu : x.ownsRow b e s u n xs) (hv : x.ownsRow b' e' s' v n' ys) (hne : e ≠ e') (hg : x.grownBy y v.ownBlock) : y.ownsRow b e s u n xs := hu.kept hg (by
 cases hq : u.ownBlock with
 | none => exact .inl rfl
 | some k => exact .inr (fun e9 => own_kd hu hv hne k hq e9.symm))
theorem Sy.kd {b1 b' s m K n sz : Nat} {x y : World} {e : TypeId} {v u : Value} {vs ys : List Value} {Q : List (List Tm)} (h : Sy b1 x s m K v vs Q) (hu : x.ownsRow b' e sz u n ys) (h1 : e ≠ 72) (h2 : e ≠ 24) (h3 : e ≠ 77) (hg : x.grownBy y u.ownBlock) : Sy b1 y s m K v vs Q := by
 refine ⟨?_, own_kept h.row hu (Ne.symm h2) hg, fun i X hX => ?_, h.bs, h.sm⟩
 ·exact (hg.block s h.lt (fun e9 => box_kd hu h.h h1 e9.symm)).trans h.h
 ·obtain ⟨w, a1, a2⟩ := h.ls i X hX
  exact ⟨w, a1, own_kept a2 hu (Ne.symm h3) hg⟩
structure Cs (wA : World) (m K b x12 : Nat) (l r o v : Sl) (P : Option Addr) (n c : Nat) (f : Nat → Trm) (x : World) : Prop where
 ba : Below wA.heap.size wA x
 fw : Fw b m K l r o v x
 hb : wA.heap.size ≤ b
 hx : wA.heap.size ≤ x12
 bx : x.heap[x12]? = some (.cells #[.slice l.p l.n l.c, .slice r.p r.n r.c, .slice o.p o.n o.c, .slice v.p v.n v.c] 30 (0, 0))
 ot : x.ownsRow wA.heap.size 77 6 (.slice P n c) n (tvs n f)
 ok : ∀ k, k < n → (f k).a.ok
 hn : n ≤ 1048576
section
variable {wA x y : World} {m K b x12 n c : Nat} {l r o v : Sl} {P : Option Addr} {f : Nat → Trm}
theorem Cs.keep (h : Cs wA m K b x12 l r o v P n c f x) (hb : Below x.heap.size x y) : Cs wA m K b x12 l r o v P n c f y := by
 have hl := (Array.getElem?_eq_some_iff.1 h.bx).1
 exact ⟨bl_trans h.ba hb, h.fw.keep hb, h.hb, h.hx, (hb.block x12 hl).trans h.bx, own_keepT h.ot hb, h.ok, h.hn⟩
theorem Cs.bx4 (h : Cs wA m K b x12 l r o v P n c f x) : Bx4 x x12 l r o v := by
 refine ⟨?_, ?_, ?_, ?_⟩ <;> (rw [cell_of_row x x12 _ _ _ (0, 0) h.bx]; rfl)
theorem Cs.oT (h : Cs wA m K b x12 l r o v P n c f x) : Ot x P n c f := ⟨own_monoT h.ot (Nat.zero_le _), h.ok, h.hn⟩
def fin (k : Nat) (g f : Nat → Trm) : Nat → Trm := fun j => if j < k then g j else f j
theorem tvs_fin {n k : Nat} {g f : Nat → Trm} (hk : k ≤ n) : setL (tvs n f) 0 (tvs k g) = tvs n (fin k g f) := by
 refine List.ext_getElem? (fun q => ?_)
 rw [setL_get _ _ _ _ (by rw [tvs_len, tvs_len]; omega), tvs_len]
 by_cases hq : q < n * 6
 ·obtain ⟨i, j, rfl, hj⟩ : ∃ i j, q = i * 6 + j ∧ j < 6 := ⟨q / 6, q % 6, by omega, by omega⟩
  rw [tvs_get n (fin k g f) i j (by omega) hj]
  by_cases hi : i < k
  ·rw [if_pos (by omega), Nat.sub_zero, tvs_get k g i j hi hj]
   simp only [fin, if_pos hi]
  ·rw [if_neg (by omega), tvs_get n f i j (by omega) hj]
   simp only [fin, if_neg hi]
 ·rw [if_neg (by omega), List.getElem?_eq_none (by rw [tvs_len]; omega), List.getElem?_eq_none (by rw [tvs_len]; omega)]
theorem Fw.kd {b0 : Nat} {u : Value} {b' sz q : Nat} {e : TypeId} {ys : List Value} (h : Fw b0 m K l r o v x) (hu : x.ownsRow b' e sz u q ys) (hne : 35 ≠ e) (hg : x.grownBy y u.ownBlock) : Fw b0 m K l r o v y :=
 ⟨⟨own_kept h.ra.1 hu hne hg, h.ra.2⟩, ⟨own_kept h.rb.1 hu hne hg, h.rb.2⟩, ⟨own_kept h.rc.1 hu hne hg, h.rc.2⟩, ⟨own_kept h.rd.1 hu hne hg, h.rd.2⟩, h.ab, h.ac, h.ad, h.bc, h.bd, h.cd, h.na, h.nb, h.nc, h.nd⟩
theorem bl_grown2 {B : Nat} {row : Option Nat} (h : Below B wA x) (hg : x.grownBy y row) (hB : B ≤ wA.heap.size) (hr : ∀ k, row = some k → B ≤ k) : Below B wA y := h.trans (Tr.below_grown hg (Nat.le_trans hB h.size) hr)
theorem Cs.copy (h : Cs wA m K b x12 l r o v P n c f x) (Q : Option Addr) (q d ty : Nat) (g : Nat → Trm) (hg : ∀ k, k < q → (g k).a.ok) (hQ : Lt x Q q g) :
  ∃ z y, (Builtin.copy_ #[24, 24] ty #[.slice P n c, .slice Q q d]).run Tryz.prog x = .ok z y ∧ Cs wA m K b x12 l r o v P n c (fin (Nat.min q n) g f) y ∧ x.grownBy y (Value.slice P n c).ownBlock := by
 have hz : Nat.min q n ≤ n := Nat.min_le_right _ _
 have hz2 : Nat.min q n ≤ q := Nat.min_le_left _ _
 by_cases h0 : Nat.min q n = 0
 ·refine ⟨_, x, run_copy0 x _ _ ty 77 P Q n c q d (by kernel_rfl) (by kernel_rfl) h0, ?_, ⟨rfl, rfl, rfl, Nat.le_refl _, fun _ _ _ => rfl⟩⟩
  have e : fin (Nat.min q n) g f = f := by
   funext j
   simp only [fin, h0, if_neg (Nat.not_lt_zero j)]
  rw [e]
  exact h
 ·obtain ⟨qb, qo, hq1, hq2⟩ := hQ
  have hq0 : 0 < q := by omega
  obtain rfl := hq1 hq0
  obtain ⟨P', c', e1, _, hp⟩ := own_shT h.ot
  simp only [Value.slice.injEq, true_and] at e1
  obtain ⟨rfl, rfl⟩ := e1
  obtain ⟨gb, rfl⟩ := hp (by omega)
  have hth : ∀ j, j < n * 6 → (x.cell? ⟨gb, 0 + j, none⟩).isSome = true ∧ x.frozen? ⟨gb, 0 + j, none⟩ = false := fun j hj => by
   rcases h.ot.2 with ⟨k1, _⟩ | ⟨g9, c9, cur, k1, _, k3, k4, _, k6, _⟩
   ·cases k1
   ·simp only [Value.slice.injEq, Option.some.injEq, Addr.mk.injEq, and_true, true_and] at k1
    obtain ⟨rfl, rfl⟩ := k1
    refine ⟨?_, frozen_of_row x gb _ cur _ k3⟩
    rw [cell_of_row x gb _ cur _ (0, 0) k3, Array.getElem?_eq_getElem (by omega)]
    rfl
  have hlen : (tvs (Nat.min q n) g).length = Nat.min q n * 6 := tvs_len _ _
  have hrun := run_copyM (P := Tryz.prog) x 24 24 ty 77 6 gb 0 n c ⟨qb, qo, none⟩ q d (tvs (Nat.min q n) g) (by kernel_rfl) (by kernel_rfl) hlen (fun j u hu => by
    rw [Addr.add_lit]
    have hj : j < Nat.min q n * 6 := by rw [← hlen]; exact (List.getElem?_eq_some_iff.1 hu).1
    exact rt_cells (hq2 hq0) (Nat.min q n) hz2 j u hu) (fun j hj => (hth j (by rw [hlen] at hj; have := Nat.mul_le_mul_right 6 hz; omega)).1) (fun j hj => (hth j (by rw [hlen] at hj; have := Nat.mul_le_mul_right 6 hz; omega)).2) (tvs_one _ _)
  have hgr := gb_setCells gb (tvs (Nat.min q n) g) 0 x
  refine ⟨_, _, hrun, ?_, hgr⟩
  have hown := own_setC (tvs (Nat.min q n) g) 0 _ x h.ot
  rw [tvs_fin hz] at hown
  have hB : wA.heap.size ≤ gb := (h.ot.lt gb rfl).1
  refine ⟨bl_grown2 h.ba hgr (Nat.le_refl _) (fun k hk => by obtain rfl := Option.some.inj hk; exact hB), h.fw.kd h.ot (by decide) hgr, h.hb, h.hx, ?_, hown, fun k hk => ?_, h.hn⟩
  ·exact (hgr.block x12 (Array.getElem?_eq_some_iff.1 h.bx).1 (fun e9 => box_kd h.ot h.bx (by decide) e9.symm)).trans h.bx
  ·simp only [fin]
   split
   ·exact hg k (by omega)
   ·exact h.ok k hk
end
end Ci
end Go.Proofs.YthngomhhafoamaaGreatDoor
namespace Go.Proofs.YthngomhhafoamaaGreatDoor
open Go.RowKit
open Cm (Wr Tm co bf Ls lf ins Eqm)
open Tr (cb By)
namespace Ci
theorem row_som {x : World} {b n : Nat} {s : Sl} (h : x.ownsRow b 35 4 s.v n (s4s n s.g)) (hn : 0 < n) : ∃ gb, s.p = some ⟨gb, 0, none⟩ ∧ b ≤ gb ∧ (∀ i, i < n → x.rangeAt gb (i * 4) [.int .u64 (s.g i).x0, .int .u64 (s.g i).x1, .int .u64 (s.g i).x2, .int .u64 (s.g i).x3]) ∧ ∀ i, i < n → x.there gb (i * 4) 4 := by
 obtain ⟨P, n', c, g⟩ := s
 simp only [Sl.v] at h ⊢
 rcases h.2 with ⟨h1, h2⟩ | ⟨gb, cp, cur, h1, _⟩
 ·omega
 ·simp only [Value.slice.injEq] at h1
  obtain ⟨rfl, rfl, rfl⟩ := h1
  refine ⟨gb, rfl, (h.lt gb rfl).1, fun i hi j u hu => ?_, fun i hi => h.there4 i hi⟩
  have hj : j < 4 := by have := (List.getElem?_eq_some_iff.1 hu).1; simpa using this
  have h5 := h.cells (g := gb) rfl (i * 4 + j) u (by rw [s4s_get _ _ _ _ hi hj]; exact hu)
  rw [Addr.add_mid, Nat.zero_add] at h5
  exact h5
theorem djS {a b : Value} (h : Dj a b) : Dj b a := fun k hk e => h k e hk
section
variable {b0 m K gb i : Nat} {a b c d : Sl} {x : World} {z : E4}
theorem Fw.setA (h : Fw b0 m K a b c d x) (hp : a.p = some ⟨gb, 0, none⟩) (hi : i < K) (hz : z.ok) : Fw b0 m K (a.upd i z) b c d (x.setCells gb (i * 4) [.int .u64 (z).x0, .int .u64 (z).x1, .int .u64 (z).x2, .int .u64 (z).x3]) :=
 ⟨own_set h.ra h.na hp hi hz, own_oth h.rb hp h.ab, own_oth h.rc hp h.ac, own_oth h.rd hp h.ad, h.ab, h.ac, h.ad, h.bc, h.bd, h.cd, h.na, h.nb, h.nc, h.nd⟩
theorem Fw.setB (h : Fw b0 m K a b c d x) (hp : b.p = some ⟨gb, 0, none⟩) (hi : i < K) (hz : z.ok) : Fw b0 m K a (b.upd i z) c d (x.setCells gb (i * 4) [.int .u64 (z).x0, .int .u64 (z).x1, .int .u64 (z).x2, .int .u64 (z).x3]) :=
 ⟨own_oth h.ra hp (djS h.ab), own_set h.rb h.nb hp hi hz, own_oth h.rc hp h.bc, own_oth h.rd hp h.bd, h.ab, h.ac, h.ad, h.bc, h.bd, h.cd, h.na, h.nb, h.nc, h.nd⟩
theorem Fw.setC (h : Fw b0 m K a b c d x) (hp : c.p = some ⟨gb, 0, none⟩) (hi : i < K) (hz : z.ok) : Fw b0 m K a b (c.upd i z) d (x.setCells gb (i * 4) [.int .u64 (z).x0, .int .u64 (z).x1, .int .u64 (z).x2, .int .u64 (z).x3]) :=
 ⟨own_oth h.ra hp (djS h.ac), own_oth h.rb hp (djS h.bc), own_set h.rc h.nc hp hi hz, own_oth h.rd hp h.cd, h.ab, h.ac, h.ad, h.bc, h.bd, h.cd, h.na, h.nb, h.nc, h.nd⟩
theorem Fw.setD (h : Fw b0 m K a b c d x) (hp : d.p = some ⟨gb, 0, none⟩) (hi : i < m) (hz : z.ok) : Fw b0 m K a b c (d.upd i z) (x.setCells gb (i * 4) [.int .u64 (z).x0, .int .u64 (z).x1, .int .u64 (z).x2, .int .u64 (z).x3]) :=
 ⟨own_oth h.ra hp (djS h.ad), own_oth h.rb hp (djS h.bd), own_oth h.rc hp (djS h.cd), own_set h.rd h.nd hp hi hz, h.ab, h.ac, h.ad, h.bc, h.bd, h.cd, h.na, h.nb, h.nc, h.nd⟩
end
section
variable {wA x y : World} {m K b x12 n c gb k i : Nat} {l r o v l' r' o' v' s : Sl} {P : Option Addr} {f : Nat → Trm} {ys : List Value} {z : E4}
theorem Cs.row (h : Cs wA m K b x12 l r o v P n c f x) (hu : x.ownsRow b 35 4 s.v k ys) (hp : s.p = some ⟨gb, 0, none⟩) (cs : List Value) (off : Nat) (hF : Fw b m K l' r' o' v' (x.setCells gb off cs)) (hl : l'.v = l.v) (hr : r'.v = r.v) (ho : o'.v = o.v) (hv : v'.v = v.v) : Cs wA m K b x12 l' r' o' v' P n c f (x.setCells gb off cs) := by
 have hgr := gb_setCells gb cs off x
 have hsb : s.v.ownBlock = some gb := by unfold Sl.v; rw [hp]; rfl
 have hgb : b ≤ gb := (hu.lt gb hsb).1
 have hB := h.hb
 refine ⟨bl_grown2 h.ba hgr (Nat.le_refl _) (fun k hk => by obtain rfl := Option.some.inj hk; omega), hF, h.hb, h.hx, ?_, own_kept h.ot hu (by decide) (by rw [hsb]; exact hgr), h.ok, h.hn⟩
 have e := (hgr.block x12 (Array.getElem?_eq_some_iff.1 h.bx).1 (fun e9 => box_kd hu h.bx (by decide) (by rw [hsb]; exact e9.symm))).trans h.bx
 rw [e]
 have e1 : Value.slice l'.p l'.n l'.c = .slice l.p l.n l.c := hl
 have e2 : Value.slice r'.p r'.n r'.c = .slice r.p r.n r.c := hr
 have e3 : Value.slice o'.p o'.n o'.c = .slice o.p o.n o.c := ho
 have e4 : Value.slice v'.p v'.n v'.c = .slice v.p v.n v.c := hv
 rw [e1, e2, e3, e4]
theorem Cs.setA (h : Cs wA m K b x12 l r o v P n c f x) (hp : l.p = some ⟨gb, 0, none⟩) (hi : i < K) (hz : z.ok) : Cs wA m K b x12 (l.upd i z) r o v P n c f (x.setCells gb (i * 4) [.int .u64 (z).x0, .int .u64 (z).x1, .int .u64 (z).x2, .int .u64 (z).x3]) := h.row h.fw.ra.1 hp _ _ (h.fw.setA hp hi hz) rfl rfl rfl rfl
theorem Cs.setB (h : Cs wA m K b x12 l r o v P n c f x) (hp : r.p = some ⟨gb, 0, none⟩) (hi : i < K) (hz : z.ok) : Cs wA m K b x12 l (r.upd i z) o v P n c f (x.setCells gb (i * 4) [.int .u64 (z).x0, .int .u64 (z).x1, .int .u64 (z).x2, .int .u64 (z).x3]) := h.row h.fw.rb.1 hp _ _ (h.fw.setB hp hi hz) rfl rfl rfl rfl
theorem Cs.setC (h : Cs wA m K b x12 l r o v P n c f x) (hp : o.p = some ⟨gb, 0, none⟩) (hi : i < K) (hz : z.ok) : Cs wA m K b x12 l r (o.upd i z) v P n c f (x.setCells gb (i * 4) [.int .u64 (z).x0, .int .u64 (z).x1, .int .u64 (z).x2, .int .u64 (z).x3]) := h.row h.fw.rc.1 hp _ _ (h.fw.setC hp hi hz) rfl rfl rfl rfl
theorem Cs.setD (h : Cs wA m K b x12 l r o v P n c f x) (hp : v.p = some ⟨gb, 0, none⟩) (hi : i < m) (hz : z.ok) : Cs wA m K b x12 l r o (v.upd i z) P n c f (x.setCells gb (i * 4) [.int .u64 (z).x0, .int .u64 (z).x1, .int .u64 (z).x2, .int .u64 (z).x3]) := h.row h.fw.rd.1 hp _ _ (h.fw.setD hp hi hz) rfl rfl rfl rfl
theorem Cs.nex (h : Cs wA m K b x12 l r o v P n c f x) (hu : x.ownsRow b 35 4 s.v k ys) (hp : s.p = some ⟨gb, 0, none⟩) : x12 ≠ gb := fun e => box_kd hu h.bx (by decide) (by unfold Sl.v; rw [hp, e]; rfl)
end
theorem lt_src {w : World} {P : Option Addr} {n : Nat} {f : Nat → Trm} (h : Lt w P n f) : ∀ b, P = some b → ∀ j u, (tvs n f)[j]? = some u → w.cell? (b.add j) = some u := fun b hb j u hu => by
 obtain ⟨sb, so, h1, h2⟩ := h
 have hj := (List.getElem?_eq_some_iff.1 hu).1
 rw [tvs_len] at hj
 have hn : 0 < n := by omega
 rw [h1 hn] at hb
 obtain rfl := Option.some.inj hb
 rw [Addr.add_lit]
 exact rt_cells (h2 hn) n (Nat.le_refl _) j u hu
theorem copyB {x : World} {b1 b2 c1 c2 : Nat} {p1 p2 : Option Addr} {xs : List Value} {l2 : List UInt8} (ty : Nat) (h1 : x.ownsRow b1 5 1 (.slice p1 l2.length c1) l2.length xs) (h2 : x.ownsRow b2 5 1 (.slice p2 l2.length c2) l2.length (cb l2)) (h0 : 0 < l2.length) :
  ∃ z y, (Builtin.copy_ #[44, 44] ty #[.slice p1 l2.length c1, .slice p2 l2.length c2]).run Tryz.prog x = .ok z y ∧ y.ownsRow b1 5 1 (.slice p1 l2.length c1) l2.length (cb l2) ∧ x.grownBy y (Value.slice p1 l2.length c1).ownBlock := by
 rcases h1.2 with ⟨k1, k2⟩ | ⟨g1, d1, cur, k1, _, k3, k4, _, k6, _⟩
 ·omega
 rcases h2.2 with ⟨j1, j2⟩ | ⟨g2, d2, cur2, j1, _⟩
 ·omega
 simp only [Value.slice.injEq, true_and] at k1 j1
 obtain ⟨rfl, rfl⟩ := k1
 obtain ⟨rfl, rfl⟩ := j1
 have hx1 : xs.length = l2.length := by rw [h1.1, Nat.mul_one]
 have hlen : (cb l2).length = l2.length := Tr.cb_len l2
 have hm : Nat.min l2.length l2.length = l2.length := Nat.min_self _
 have hrun := run_copyM (P := Tryz.prog) x 44 44 ty 5 1 g1 0 l2.length c1 ⟨g2, 0, none⟩ l2.length c2 (cb l2) (by kernel_rfl) (by kernel_rfl) (by rw [hlen, hm, Nat.mul_one]) (fun j u hu => h2.cells (g := g2) rfl j u hu) (fun j hj => by
   rw [cell_of_row x g1 _ cur _ (0, 0) k3, Array.getElem?_eq_getElem (by rw [hlen] at hj; omega)]
   rfl) (fun j hj => frozen_of_row x g1 _ cur _ k3) (Tr.cb_one l2)
 have hown := own_setC (cb l2) 0 _ x h1
 have e : setL xs 0 (cb l2) = cb l2 := by
  refine List.ext_getElem? (fun q => ?_)
  rw [setL_get _ _ _ _ (by rw [hlen, hx1]; omega)]
  by_cases hq : q < (cb l2).length
  ·rw [if_pos (by omega), Nat.sub_zero]
  ·rw [if_neg (by omega), List.getElem?_eq_none (by rw [hlen] at hq; omega), List.getElem?_eq_none (by omega)]
 rw [e] at hown
 exact ⟨_, _, hrun, hown, gb_setCells g1 (cb l2) 0 x⟩
theorem by_ofR {x : World} {P : Option Addr} {c : Nat} {l : List UInt8} (h : x.ownsRow 0 5 1 (.slice P l.length c) l.length (Tr.cb l)) : By x P c l := by
 obtain ⟨P', c', e, hB⟩ := Tr.own_by h
 cases e
 exact hB
theorem tyEncR {w0 x : World} {m s t K1 K2 : Nat} {Q1 Q2 : List (List Tm)} (h : Ty w0 m s K1 Q1 t K2 Q2 x) (hT : Tb x) (ho : okY m K1 Q1) :
  Calls Tryz.prog 13 #[.pointer (some ⟨s, 0, none⟩)] x fun e w' => ∃ p1 c1, e = .returned (.slice p1 (enB m K1 Q1).length c1) ∧ w'.ownsRow x.heap.size 5 1 (.slice p1 (enB m K1 Q1).length c1) (enB m K1 Q1).length (cb (enB m K1 Q1)) ∧ Below x.heap.size x w' := by
 obtain ⟨b, v, vs, h1⟩ := h.fst
 exact (SysEncode_any h1 (wk_of ho) hT (by have := ho.1; omega)).mono fun e w' ⟨v, he, ho, hb⟩ => by
  obtain ⟨P, c, e1, hB⟩ := Tr.own_by ho
  subst e1
  exact ⟨P, c, he, ho, hb⟩
end Ci
end Go.Proofs.YthngomhhafoamaaGreatDoor
namespace Go.Proofs.YthngomhhafoamaaGreatDoor
open Go.RowKit
open Cm (Wr Tm co bf Ls lf ins Eqm)
open Tr (cb By)
namespace Ci
theorem addE (a b : E4) (y : World) (hT : Tb y) (ha : a.ok) (hb : b.ok) : Calls Tryz.prog 8 #[.agg #[.int .u64 a.x0, .int .u64 a.x1, .int .u64 a.x2, .int .u64 a.x3], .agg #[.int .u64 b.x0, .int .u64 b.x1, .int .u64 b.x2, .int .u64 b.x3]] y fun e w' => e = .returned (.agg #[.int .u64 (lst (a.n + b.n)).x0, .int .u64 (lst (a.n + b.n)).x1, .int .u64 (lst (a.n + b.n)).x2, .int .u64 (lst (a.n + b.n)).x3]) ∧ Below y.heap.size y w' := fix (R := lst (a.n + b.n)) (Add_any a b y hT ha hb) rfl
theorem mulE (a b : E4) (y : World) (hT : Tb y) (ha : a.ok) (hb : b.ok) : Calls Tryz.prog 10 #[.agg #[.int .u64 a.x0, .int .u64 a.x1, .int .u64 a.x2, .int .u64 a.x3], .agg #[.int .u64 b.x0, .int .u64 b.x1, .int .u64 b.x2, .int .u64 b.x3]] y fun e w' => e = .returned (.agg #[.int .u64 (lst (a.n * b.n)).x0, .int .u64 (lst (a.n * b.n)).x1, .int .u64 (lst (a.n * b.n)).x2, .int .u64 (lst (a.n * b.n)).x3]) ∧ Below y.heap.size y w' := fix (R := lst (a.n * b.n)) (Mul_any a b y hT ha hb) rfl
theorem intE (y : World) : Calls Tryz.prog 9 #[.int .u64 1] y fun e w' => e = .returned (.agg #[.int .u64 (lst 1).x0, .int .u64 (lst 1).x1, .int .u64 (lst 1).x2, .int .u64 (lst 1).x3]) ∧ Below y.heap.size y w' := fix (R := lst 1) (Int_any 1 y (by unfold Sm.Wd; omega)) rfl
theorem cs_start (w3 w4 : World) (m K : Nat) (l r o v : Sl) (Px : Option Addr) (nx cx : Nat) (fx : Nat → Trm) (b : Nat) (hb : Below w3.heap.size w3 w4) (hF : Fw b m K l r o v w4) (hbb : w3.heap.size ≤ b) (y : World) (hy : Below (w4.alloc (Obj.cells #[.slice l.p l.n l.c, .slice r.p r.n r.c, .slice o.p o.n o.c, .slice v.p v.n v.c] 30)).heap.size (w4.alloc (Obj.cells #[.slice l.p l.n l.c, .slice r.p r.n r.c, .slice o.p o.n o.c, .slice v.p v.n v.c] 30)) y) (P : Option Addr) (c : Nat) (ho : Ot y P nx c fx) (hP : ∀ a, P = some a → a.block = (w4.alloc (Obj.cells #[.slice l.p l.n l.c, .slice r.p r.n r.c, .slice o.p o.n o.c, .slice v.p v.n v.c] 30)).heap.size) : Cs w3 m K b w4.heap.size l r o v P nx c fx y := by
 have hB := bl_trans hb (bl_trans (bl_alloc w4 (Obj.cells #[.slice l.p l.n l.c, .slice r.p r.n r.c, .slice o.p o.n o.c, .slice v.p v.n v.c] 30)) hy)
 have hS : w3.heap.size ≤ w4.heap.size := hb.size
 refine ⟨hB, (hF.keep (bl_alloc w4 _)).keep hy, hbb, hS, ?_, ?_, ho.2.1, ho.2.2⟩
 ·exact (hy.block w4.heap.size (by simp)).trans (heap_alloc_new w4 _)
 ·obtain ⟨h1, _⟩ := ho
  refine ⟨h1.1, ?_⟩
  rcases h1.2 with h | ⟨g, cp, cur, e1, e2, e3⟩
  ·exact .inl h
  ·refine .inr ⟨g, cp, cur, e1, ?_, e3⟩
   have e4 : P = some ⟨g, 0, none⟩ := by simp only [Value.slice.injEq] at e1; exact e1.1
   have := hP _ e4
   simp only at this
   rw [this]
   simp
   omega
theorem again_any (i : Int) (S : Option Addr) (ns cs : Nat) (sg : Nat → Stp) (Px Py : Option Addr) (nx cx ny cy : Nat) (fx fy : Nat → Trm) (ls : Sl) (w : World) (hT : Tb w) (i0 : -9223372036854775808 ≤ i) (i1 : i ≤ 9223372036854775807) (hns : ns ≤ 1048576) (hS : Scl w S ns sg) (hxc : Px = none → nx = 0 ∧ cx = 0) (hnx : nx ≤ 1048576) (hny : ny ≤ 1048576) (hfx : ∀ k, k < nx → (fx k).a.ok) (hfy : ∀ k, k < ny → (fy k).a.ok) (hLx : Lt w Px nx fx) (hLy : Lt w Py ny fy) (hls : ls.at w) (hln : ls.n ≤ 1048576) :
  Calls Tryz.prog 3 #[.int .i64 i, .slice S ns cs, .slice Px nx cx, .slice Py ny cy, .slice ls.p ls.n ls.c] w fun e w' => e = .returned (.bool true) ∧ Below w.heap.size w w' := by
 have HT := Hn hT
 have HX := Hn (And.intro hnx (And.intro hfx hLx))
 have HY := Hn (And.intro hny (And.intro hfy hLy))
 have XC := Hn hxc
 have HLs := Hn (And.intro hls hln)
 have LV : Hid (∀ y, Below w.heap.size w y → _) := Hn (fun y hb => live_any y (hT.keep hb))
 have MK : Hid (∀ y, Below w.heap.size w y → _) := Hn (fun y hb => makes_tell i S ns cs sg y (hT.keep hb) i0 i1 hns (hS.keep hb))
 clear hT hS i0 i1 hns hxc hnx hny hfx hfy hLx hLy hls hln
 go_enter Tryz.func3, Tryz.ntmps3
 go_upto_region 6 with (first | (have _t := LV; go_at_call 4; refine (LV.out _ (Below.refl _ _)).mono ?_; rintro e w2 ⟨rfl, hb⟩; have B2 := Hn hb; clear hb LV) | (have _t := MK; go_at_call 5; refine (MK.out _ B2.out).mono ?_; rintro e w3 ⟨s, m, K, Q, rfl, hts⟩; have TS := Hn hts.1; have VM := Hn hts.2; clear hts MK))
 have B3 := Hn (bl_trans B2.out TS.out.bl)
 have T2 := Hn (HT.out.keep B2.out)
 have T3 := Hn (HT.out.keep B3.out)
 have WK := Hn TS.out.wk
 have OY : Hid (okY m K Q) := by
  obtain ⟨b1, v1, vs1, sy, _, _, hwk⟩ := TS.out
  exact Hn (okY_of hwk VM.out sy.sm)
 have KK := Hn WK.out.k
 have CF := Hn (fittedW_any ls w3 T3.out TS.out (by have := VM.out; omega) (HLs.out.1.keep B3.out) HLs.out.2)
 clear HLs
 go_upto_region 7 with (go_at_call 6; refine CF.out.mono ?_; rintro e w4 ⟨l, r, o, v, rfl, hfw, hb⟩; simp only [Sl.v]; have FW := Hn hfw; have B4 := Hn hb; clear hfw hb CF)
 obtain ⟨P, c, w5, hrun, hot, hb5, hfr⟩ := copyT (w4.alloc (Obj.cells #[.slice l.p l.n l.c, .slice r.p r.n r.c, .slice o.p o.n o.c, .slice v.p v.n v.c] 30)) Px nx cx 24 fx HX.out.1 HX.out.2.1 XC.out (lt_src (HX.out.2.2.keep (bl_trans B3.out (bl_trans B4.out (bl_alloc w4 _)))))
 have CS := Hn (cs_start w3 w4 m K l r o v Px nx cx fx _ B4.out FW.out (by omega) w5 hb5 P c hot hfr)
 have RUN := Hn hrun
 clear hrun hot hb5 hfr FW B4 XC
 go_upto_region 8 with (at_builtin; refine wpList_appR _ rfl _ _ _ _ rfl _ _ rfl rfl RUN.out ?_)
 clear RUN
 have AK : Hid (∀ (y : World) (b x12 : Nat) (l r o v : Sl) (n : Nat) (P : Option Addr) (c : Nat) (f : Nat → Trm) (h : Cs w3 m K b x12 l r o v P n c f y) (P2 : Option Addr) (c2 : Nat) (h2 : Lt y P2 n f), _) := Hn (fun y b x12 l r o v n P c f h P2 c2 h2 => alike_any y (T3.out.keep h.ba) (TS.out.keep h.ba) VM.out h.fw P P2 Py n c c2 ny cy f fy h.hn HY.out.1 h.ok HY.out.2.1 h.oT.lt h2 (HY.out.2.2.keep (bl_trans B3.out h.ba)))
 obtain ⟨x12, hx12⟩ : ∃ x12, w4.heap.size = x12 := ⟨_, rfl⟩
 rw [hx12] at CS ⊢
 obtain ⟨b, hb⟩ : ∃ b, w3.heap.size + 4 = b := ⟨_, rfl⟩
 rw [hb] at CS
 clear hx12 hb
 obtain ⟨q0, q1, q2, q3⟩ := CS.out.bx4
 have A1 := Hn (AK.out w5 b x12 l r o v nx P c fx CS.out Px cx (HX.out.2.2.keep (bl_trans B3.out CS.out.ba)))
 go_upto_region 10 with (have _t := A1; go_at_call 7; refine A1.out.mono ?_; rintro e w6 ⟨rfl, hb⟩; replace CS := Hn (CS.out.keep hb); clear hb A1 q0 q1 q2 q3)
 obtain ⟨z7, w7, hrun, hcs, hgr⟩ := CS.out.copy Py ny cy 3 fy HY.out.2.1 (HY.out.2.2.keep (bl_trans B3.out CS.out.ba))
 have RUN := Hn hrun
 replace CS := Hn hcs
 clear hrun hcs hgr
 obtain ⟨f, hf⟩ : ∃ f, fin (Nat.min ny nx) fy fx = f := ⟨_, rfl⟩
 rw [hf] at CS
 clear hf HX
 have hrun := RUN.out
 go_upto_region 11 with fail
 clear RUN hrun
 refine ca11 _ s x12 nx c ny cy P Py f l r o v _ _ _ _ _ _ _ _ _ _ _ _ _ _ _ _ _ _ _ _ _ _ _ _ _ _ _ _ _ _ _ _ _ _ _ _ _ _ _ _ _ _ _ _ _ _ _ _ _ _ _ _ _ _ _ _ _ _ _ _ _ _ _ _ _ _ _ _ _ _ _ _ _ _ _ _ _ _ _ _ _ _ _ _ _ _ _ _ _ _ _ _ _ _ _ _ _ _ _ _ _ _ _ _ _ _ _ _ _ _ _ _ _ _ _ _ _ _ _ _ _ _ _ _ _ _ _ _ _ _ _ _ _ _ _ _ _ _ _ _ _ _ _ _ _ _ _ _ _ _ _ _ _ _ _ _ _ _ _ _ _ _ _ _ _ _ _ _ _ _ _ _ _ _ _ _ _ _ _ _ _ _ _ _ _ _ _ _ _ w7 CS.out.bx4.1 CS.out.bx4.2.1 CS.out.bx4.2.2.1 CS.out.bx4.2.2.2 CS.out.oT (Hn (fun p2 c2 yy hyy h2 => AK.out yy b x12 l r o v nx P c f (CS.out.keep hyy) p2 c2 h2.lt)) (Hn ?_)
 intro w8 p2 c2 hz
 have R0 : Hid (∃ l r o v, Cs w3 m K b x12 l r o v P nx c f w8) := Hn ⟨l, r, o, v, CS.out.keep hz⟩
 have PT : Hid (∃ pl, pl = (l.v, r.v, o.v, v.v)) := Hn ⟨_, rfl⟩
 have C9 := Hn (CS.out.keep hz)
 clear hz CS PT R0
 go_upto_region 13 with fail
 go_wp2_with fail
 go_loopw [14] (fun iv w' => ∃ i : Nat, i ≤ K ∧ iv = .int .i64 (i : Int) ∧ Hid (∃ l r o v, Cs w3 m K b x12 l r o v P nx c f w')) (fun i _ => K - (intOf i).toNat)
 case atStart => exact ⟨0, by omega, rfl, Hn ⟨l, r, o, v, C9.out⟩⟩
 case round =>
  clear C9
  obtain ⟨ii, hi, rfl, hR⟩ := hrel
  obtain ⟨l, r, o, v, hcs⟩ := hR.out
  have CS := Hn hcs
  clear hcs hR
  obtain ⟨q0, q1, q2, q3⟩ := CS.out.bx4
  have na := CS.out.fw.na
  have nb := CS.out.fw.nb
  have nc := CS.out.fw.nc
  by_cases hin : ii < K
  ·have i1 : (ii : Int) < (l.n : Int) := by omega
   have w9 : IntKind.i64.wrap ((ii : Int) + 1) = (ii : Int) + 1 := IntWalk.i64_in _ (by have := KK.out; omega)
   go_upto_region 16 with fail
   obtain ⟨b0, hp0, _, g0, t0⟩ := row_som CS.out.fw.ra.1 (by omega)
   obtain ⟨b1, hp1, _, g1, t1⟩ := row_som CS.out.fw.rb.1 (by omega)
   obtain ⟨b2, hp2, _, g2, t2⟩ := row_som CS.out.fw.rc.1 (by omega)
   have d01 : b0 ≠ b1 := CS.out.fw.ab.ne (by unfold Sl.v; rw [hp0]) (by unfold Sl.v; rw [hp1])
   have d02 : b0 ≠ b2 := CS.out.fw.ac.ne (by unfold Sl.v; rw [hp0]) (by unfold Sl.v; rw [hp2])
   have d12 : b1 ≠ b2 := CS.out.fw.bc.ne (by unfold Sl.v; rw [hp1]) (by unfold Sl.v; rw [hp2])
   have o0 := CS.out.fw.ra.2 ii (by omega)
   have o1 := CS.out.fw.rb.2 ii (by omega)
   rw [hp0, na] at q0
   rw [hp1, nb] at q1
   refine ca16 _ x12 ii b0 K l.c b1 K r.c (l.g ii) (r.g ii) (lst 1) (lst ((l.g ii).n + (lst 1).n)) (lst ((r.g ii).n + (lst 1).n)) _ _ _ _ _ _ _ _ _ _ _ _ _ _ _ _ _ _ _ _ _ _ _ _ _ _ _ _ _ _ _ _ _ _ _ _ _ _ _ _ _ _ _ _ _ _ _ _ _ _ _ _ _ _ _ _ _ _ _ _ _ _ _ _ _ _ _ _ _ _ _ _ _ _ _ _ _ _ _ _ _ _ _ _ _ _ _ _ _ _ _ _ _ _ _ _ _ _ _ _ _ _ _ _ _ _ _ _ _ _ _ _ _ _ _ _ _ _ _ _ _ _ _ _ _ _ _ _ _ _ _ _ _ _ _ _ _ _ _ _ _ _ _ _ _ _ _ _ _ _ _ _ _ _ _ _ _ _ _ _ _ _ _ _ _ _ _ _ _ _ _ _ _ _ _ _ _ _ _ _ _ _ _ _ _ _ _ _ _ _ _ wr ⟨by omega, by omega, by omega, CS.out.nex CS.out.fw.ra.1 hp0, CS.out.nex CS.out.fw.rb.1 hp1, d01, t0 ii (by omega), t1 ii (by omega), q0, q1, g0 ii (by omega), g1 ii (by omega), Hn (fun y hy => intE y), Hn (fun y hy => addE _ _ y ((T3.out.keep CS.out.ba).keep hy) o0 (lst_ok _)), Hn (fun y hy => addE _ _ y ((T3.out.keep CS.out.ba).keep hy) o1 (lst_ok _))⟩ (Hn ?_)
   intro wz hz
   obtain ⟨wy, hy, rfl⟩ := hz
   have C2 := Hn (((CS.out.keep hy).setA (i := ii) hp0 (by omega) (lst_ok ((l.g ii).n + (lst 1).n))).setB (i := ii) hp1 (by omega) (lst_ok ((r.g ii).n + (lst 1).n)))
   clear hy CS q0 q1 q2 q3 g0 g1 g2 t0 t1 t2 o0 o1
   obtain ⟨wx, hwx⟩ : ∃ wx, (wy.setCells b0 (ii * 4) [.int .u64 (lst ((l.g ii).n + (lst 1).n)).x0, .int .u64 (lst ((l.g ii).n + (lst 1).n)).x1, .int .u64 (lst ((l.g ii).n + (lst 1).n)).x2, .int .u64 (lst ((l.g ii).n + (lst 1).n)).x3]).setCells b1 (ii * 4) [.int .u64 (lst ((r.g ii).n + (lst 1).n)).x0, .int .u64 (lst ((r.g ii).n + (lst 1).n)).x1, .int .u64 (lst ((r.g ii).n + (lst 1).n)).x2, .int .u64 (lst ((r.g ii).n + (lst 1).n)).x3] = wx := ⟨_, rfl⟩
   rw [hwx] at C2 ⊢
   clear hwx
   go_upto_region 17 with fail
   obtain ⟨l2, hl2⟩ : ∃ l2, l.upd ii (lst ((l.g ii).n + (lst 1).n)) = l2 := ⟨_, rfl⟩
   obtain ⟨r2, hr2⟩ : ∃ r2, r.upd ii (lst ((r.g ii).n + (lst 1).n)) = r2 := ⟨_, rfl⟩
   have hp3 : l2.p = some ⟨b0, 0, none⟩ := by rw [← hl2]; exact hp0
   have hp4 : r2.p = some ⟨b1, 0, none⟩ := by rw [← hr2]; exact hp1
   have na2 : l2.n = K := by rw [← hl2]; exact na
   have nb2 : r2.n = K := by rw [← hr2]; exact nb
   rw [hl2, hr2] at C2
   clear hl2 hr2 hp0 hp1 na nb
   obtain ⟨q0, q1, q2, q3⟩ := C2.out.bx4
   rw [hp3, na2] at q0
   rw [hp4, nb2] at q1
   rw [hp2, nc] at q2
   obtain ⟨b3, hp5, _, g0, _⟩ := row_som C2.out.fw.ra.1 (by omega)
   obtain ⟨b4, hp6, _, g1, _⟩ := row_som C2.out.fw.rb.1 (by omega)
   obtain ⟨b5, hp7, _, _, t2⟩ := row_som C2.out.fw.rc.1 (by omega)
   have e3 : b3 = b0 := by rw [hp3] at hp5; simp only [Option.some.injEq, Addr.mk.injEq, and_true] at hp5; exact hp5.symm
   have e4 : b4 = b1 := by rw [hp4] at hp6; simp only [Option.some.injEq, Addr.mk.injEq, and_true] at hp6; exact hp6.symm
   have e5 : b5 = b2 := by rw [hp2] at hp7; simp only [Option.some.injEq, Addr.mk.injEq, and_true] at hp7; exact hp7.symm
   subst e3
   subst e4
   subst e5
   have k0 := g0 ii (by omega)
   have k1 := g1 ii (by omega)
   have o0 := C2.out.fw.ra.2 ii (by omega)
   have o1 := C2.out.fw.rb.2 ii (by omega)
   refine ca17 _ x12 ii b3 K l2.c b4 K r2.c b5 K o.c (l2.g ii) (r2.g ii) (lst ((l2.g ii).n * (r2.g ii).n)) _ _ _ _ _ _ _ _ _ _ _ _ _ _ _ _ _ _ _ _ _ _ _ _ _ _ _ _ _ _ _ _ _ _ _ _ _ _ _ _ _ _ _ _ _ _ _ _ _ _ _ _ _ _ _ _ _ _ _ _ _ _ _ _ _ _ _ _ _ _ _ _ _ _ _ _ _ _ _ _ _ _ _ _ _ _ _ _ _ _ _ _ _ _ _ _ _ _ _ _ _ _ _ _ _ _ _ _ _ _ _ _ _ _ _ _ _ _ _ _ _ _ _ _ _ _ _ _ _ _ _ _ _ _ _ _ _ _ _ _ _ _ _ _ _ _ _ _ _ _ _ _ _ _ _ _ _ _ _ _ _ _ _ _ _ _ _ _ _ _ _ _ _ _ _ _ _ _ _ _ _ _ _ _ _ _ _ _ _ _ _ wx (by omega) (by omega) (by omega) (by omega) (C2.out.nex C2.out.fw.rc.1 hp2) d02 d12 (t2 ii (by omega)) q0 q1 q2 (k0 0 _ rfl) (k0 1 _ rfl) (k0 2 _ rfl) (k0 3 _ rfl) (k1 0 _ rfl) (k1 1 _ rfl) (k1 2 _ rfl) (k1 3 _ rfl) (Hn (fun y hy => mulE _ _ y ((T3.out.keep C2.out.ba).keep hy) o0 o1)) (Hn ?_)
   intro wv hz
   obtain ⟨wu, hu, hwv⟩ := hz
   have C3 := Hn ((C2.out.keep hu).setC (i := ii) hp2 (by omega) (lst_ok ((l2.g ii).n * (r2.g ii).n)))
   rw [← hwv] at C3
   clear hu hwv C2 q0 q1 q2 q3 g0 g1 t2 o0 o1 k0 k1 hp2 hp3 hp4 hp5 hp6 hp7 d01 d02 d12
   go_wp2_with fail
   go_roundw
   case rel => exact ⟨ii + 1, by omega, by go_num, Hn ⟨_, _, _, _, C3.out⟩⟩
   case measure => simp [intOf]; omega
  ·obtain rfl : ii = K := by omega
   have lq : ¬ (ii : Int) < (l.n : Int) := by omega
   go_upto_region 18 with fail
   clear lq q0 q1 q2 q3 na nb nc hin hi
   go_wp2_with fail
   go_loopw [15] (fun iv w' => ∃ j : Nat, j ≤ m ∧ iv = .int .i64 (j : Int) ∧ Hid (∃ l r o v, Cs w3 m ii b x12 l r o v P nx c f w')) (fun j _ => m - (intOf j).toNat)
   case atStart => exact ⟨0, by omega, rfl, Hn ⟨l, r, o, v, CS.out⟩⟩
   case round =>
    clear CS
    obtain ⟨jj, hj, rfl, hR⟩ := hrel
    obtain ⟨l, r, o, v, hcs⟩ := hR.out
    have CS := Hn hcs
    clear hcs hR
    obtain ⟨q0, q1, q2, q3⟩ := CS.out.bx4
    have nd := CS.out.fw.nd
    by_cases hjn : jj < m
    ·have i1 : (jj : Int) < (v.n : Int) := by omega
     have w9 : IntKind.i64.wrap ((jj : Int) + 1) = (jj : Int) + 1 := IntWalk.i64_in _ (by have := VM.out; omega)
     go_upto_region 21 with fail
     obtain ⟨b3, hp3, _, g3, t3⟩ := row_som CS.out.fw.rd.1 (by omega)
     have o3 := CS.out.fw.rd.2 jj (by omega)
     rw [hp3, nd] at q3
     refine ca21 _ x12 jj b3 m v.c (v.g jj) (lst 1) (lst ((v.g jj).n + (lst 1).n)) _ _ _ _ _ _ _ _ _ _ _ _ _ _ _ _ _ _ _ _ _ _ _ _ _ _ _ _ _ _ _ _ _ _ _ _ _ _ _ _ _ _ _ _ _ _ _ _ _ _ _ _ _ _ _ _ _ _ _ _ _ _ _ _ _ _ _ _ _ _ _ _ _ _ _ _ _ _ _ _ _ _ _ _ _ _ _ _ _ _ _ _ _ _ _ _ _ _ _ _ _ _ _ _ _ _ _ _ _ _ _ _ _ _ _ _ _ _ _ _ _ _ _ _ _ _ _ _ _ _ _ _ _ _ _ _ _ _ _ _ _ _ _ _ _ _ _ _ _ _ _ _ _ _ _ _ _ _ _ _ _ _ _ _ _ _ _ _ _ _ _ _ _ _ _ _ _ _ _ _ _ _ _ _ _ _ _ _ _ _ _ _ ⟨by omega, by omega, CS.out.nex CS.out.fw.rd.1 hp3, t3 jj (by omega), q3, g3 jj (by omega), Hn (fun y hy => intE y), Hn (fun y hy => addE _ _ y ((T3.out.keep CS.out.ba).keep hy) o3 (lst_ok _))⟩ (Hn ?_)
     intro wv hz
     obtain ⟨wu, hu, hwv⟩ := hz
     have C3 := Hn ((CS.out.keep hu).setD (i := jj) hp3 (by omega) (lst_ok ((v.g jj).n + (lst 1).n)))
     rw [← hwv] at C3
     clear hu hwv CS q0 q1 q2 q3 g3 t3 o3 hp3
     go_wp2_with fail
     go_roundw
     case rel => exact ⟨jj + 1, by omega, by go_num, Hn ⟨_, _, _, _, C3.out⟩⟩
     case measure => simp [intOf]; omega
    ·obtain rfl : jj = m := by omega
     have lq : ¬ (jj : Int) < (v.n : Int) := by omega
     go_upto_region 22 with fail
     clear lq q0 q1 q2 q3 nd hjn hj
     refine ca22 _ s x12 nx c ny cy P Py f l r o v _ _ _ _ _ _ _ _ _ _ _ _ _ _ _ _ _ _ _ _ _ _ _ _ _ _ _ _ _ _ _ _ _ _ _ _ _ _ _ _ _ _ _ _ _ _ _ _ _ _ _ _ _ _ _ _ _ _ _ _ _ _ _ _ _ _ _ _ _ _ _ _ _ _ _ _ _ _ _ _ _ _ _ _ _ _ _ _ _ _ _ _ _ _ _ _ _ _ _ _ _ _ _ _ _ _ _ _ _ _ _ _ _ _ _ _ _ _ _ _ _ _ _ _ _ _ _ _ _ _ _ _ _ _ _ _ _ _ _ _ _ _ _ _ _ _ _ _ _ _ _ _ _ _ _ _ _ _ _ _ _ _ _ _ _ _ _ _ _ _ _ _ _ _ _ _ _ _ _ _ _ _ _ _ _ _ _ _ _ _ CS.out.bx4.1 CS.out.bx4.2.1 CS.out.bx4.2.2.1 CS.out.bx4.2.2.2 CS.out.oT (Hn (fun p2 c2 yy hyy h2 => AK.out yy b x12 l r o v nx P c f (CS.out.keep hyy) p2 c2 h2.lt)) (Hn ?_)
     intro wp p3 c3 hz
     have BA := Hn (CS.out.keep hz).ba
     clear hz CS AK HY
     have TC := Hn (TS.out.keep BA.out)
     go_upto_region 24 with fail
     have OYg := Hn (okY_gate OY.out)
     have CC : Hid (Calls Tryz.prog 11 #[.pointer (some ⟨s, 0, none⟩)] wp fun e w' => ∃ t, e = .returned (.pointer (some ⟨t, 0, none⟩)) ∧ Ty w2 jj s ii Q t ii Q w') := by
      obtain ⟨base, vv, vs, sy, hb0, hbl, wk⟩ := TC.out
      exact Hn ((SysClone_new sy wk.q).mono fun e w' ⟨he, ⟨v', vs', h1⟩, hb⟩ => ⟨_, he, (Tw.make TC.out h1 hb).ty⟩)
     go_upto_region 25 with (go_at_call 11; refine CC.out.mono ?_; rintro e w9 ⟨t, rfl, hty⟩; have TY := Hn hty; clear hty CC)
     have CG := Hn (tyGateE TY.out.swap)
     go_upto_region 26 with (go_at_call 12; refine CG.out.mono ?_; rintro e wg ⟨rfl, hty⟩; replace TY := Hn hty.swap; clear hty CG)
     obtain ⟨K2, hK2⟩ : ∃ K2, gtK ii = K2 := ⟨_, rfl⟩
     rw [hK2] at TY OYg
     clear hK2
     have TG := Hn (T2.out.keep TY.out.bl)
     have E1 := Hn (tyEncR TY.out TG.out OY.out)
     have E2 : Hid (∀ y, Below wg.heap.size wg y → _) := Hn (fun y hb => tyEncR (TY.out.keep hb).swap (TG.out.keep hb) OYg.out)
     go_upto_region 27 with (first | (have _t := E1; go_at_call 13; refine E1.out.mono ?_; rintro e we ⟨pb, cb1, rfl, ho, hb⟩; have UB := Hn ho; have BE := Hn hb; clear ho hb E1) | (have _t := E2; go_at_call 13; refine (E2.out _ BE.out).mono ?_; rintro e wf ⟨pc, cc1, rfl, ho, hb⟩; have UC := Hn ho; have BF := Hn hb; clear ho hb E2))
     have UL : Hid (∀ k, (Value.slice pb (enB jj ii Q).length cb1).ownBlock = some k → k < we.heap.size) := Hn (fun k hk => (UB.out.lt k hk).2)
     replace UB := Hn (own_keepT UB.out BF.out)
     have TF := Hn (TY.out.keep (bl_trans BE.out BF.out))
     have SG := Hn (TY.out.bl.size)
     clear TY TG BE BF
     have TBf := Hn (T2.out.keep TF.out.bl)
     have CD1 := Hn (Decode_any pb cb1 (enB jj ii Q) wf TBf.out (by_ofR (own_monoT UB.out (Nat.zero_le _))) (enB_short OY.out))
     go_upto_region 28 with (go_at_call 14; refine CD1.out.mono ?_; rintro e wh hd; rcases hd with ⟨m', K', Q', nn, v2, vs2, hp, rfl, hsy, hb5⟩ | ⟨hp, _, _⟩; rotate_left; (rw [pY_all OY.out] at hp; cases hp); have hpe := hp.symm.trans (pY_all OY.out); simp only [Option.some.injEq, Prod.mk.injEq] at hpe; have h1 := hpe.1.symm; have h2 := hpe.2.1.symm; have h3 := hpe.2.2.symm; subst h1; subst h2; subst h3; clear hpe; have SN := Hn hsy; have B5 := Hn hb5; clear hp hsy hb5 CD1)
     replace UB := Hn (own_keepT UB.out B5.out)
     replace UC := Hn (own_keepT UC.out B5.out)
     replace TF := Hn (TF.out.keep B5.out)
     clear B5 TBf
     have TBf := Hn (T2.out.keep TF.out.bl)
     have CD2 := Hn (Decode_any pc cc1 (enB jj K2 Q) wh TBf.out (by_ofR (own_monoT UC.out (Nat.zero_le _))) (enB_short OYg.out))
     go_upto_region 29 with (go_at_call 14; refine CD2.out.mono ?_; rintro e wk hd; rcases hd with ⟨m', K', Q', kk, v3, vs3, hp, rfl, hsy, hb5⟩ | ⟨hp, _, _⟩; rotate_left; (rw [pY_all OYg.out] at hp; cases hp); have hpe := hp.symm.trans (pY_all OYg.out); simp only [Option.some.injEq, Prod.mk.injEq] at hpe; have h1 := hpe.1.symm; have h2 := hpe.2.1.symm; have h3 := hpe.2.2.symm; subst h1; subst h2; subst h3; clear hpe; have SK := Hn hsy; have B5 := Hn hb5; clear hp hsy hb5 CD2)
     replace UB := Hn (own_keepT UB.out B5.out)
     replace UC := Hn (own_keepT UC.out B5.out)
     replace TF := Hn (TF.out.keep B5.out)
     replace SN := Hn (SN.out.keep B5.out)
     clear B5 TBf
     have BW := Hn (bl_trans B2.out TF.out.bl)
     by_cases hl : (enB jj ii Q).length = (enB jj K2 Q).length
     ·rw [hl] at UB UL ⊢
      go_upto_region 31 with fail
      obtain ⟨z, wz, hrun, hub, hgr⟩ := copyB 3 UB.out UC.out (enB_pos _ _ _)
      have GR := Hn hgr
      obtain ⟨bs0, vs0, vss0, hs0⟩ := TF.out.fst
      have SS := Hn (hs0.kd UB.out (by decide) (by decide) (by decide) hgr)
      replace SN := Hn (SN.out.kd UB.out (by decide) (by decide) (by decide) hgr)
      replace SK := Hn (SK.out.kd UB.out (by decide) (by decide) (by decide) hgr)
      have UC2 := Hn (UC.out.kept hgr (by
       cases hq : (Value.slice pc (enB jj K2 Q).length cc1).ownBlock with
       | none => exact .inl rfl
       | some k => exact .inr (fun e9 => by
         have h7 := UL.out k e9.symm
         have h8 := (UC.out.lt k hq).1
         omega)))
      have BZ := Hn (bl_grown2 BW.out hgr (Nat.le_refl _) (fun k hk => by
       have h7 := (UB.out.lt k hk).1
       have h8 := SG.out
       have h9 := B2.out.size
       omega))
      have UB2 := Hn hub
      clear hub hgr hs0 GR UB UC TF BW
      go_upto_region 32 with fail
      clear hrun
      have TZ := Hn (HT.out.keep BZ.out)
      have CD3 := Hn (Decode_any pb cb1 (enB jj K2 Q) wz TZ.out (by_ofR (own_monoT UB2.out (Nat.zero_le _))) (enB_short OYg.out))
      go_upto_region 33 with (go_at_call 14; refine CD3.out.mono ?_; rintro e wy hd; rcases hd with ⟨m', K', Q', mm, v4, vs4, hp, rfl, hsy, hb5⟩ | ⟨hp, _, _⟩; rotate_left; (rw [pY_all OYg.out] at hp; cases hp); have hpe := hp.symm.trans (pY_all OYg.out); simp only [Option.some.injEq, Prod.mk.injEq] at hpe; have h1 := hpe.1.symm; have h2 := hpe.2.1.symm; have h3 := hpe.2.2.symm; subst h1; subst h2; subst h3; clear hpe; have SM := Hn hsy; have B5 := Hn hb5; clear hp hsy hb5 CD3)
      replace UC2 := Hn (own_keepT UC2.out B5.out)
      replace SN := Hn (SN.out.keep B5.out)
      replace SK := Hn (SK.out.keep B5.out)
      replace SS := Hn (SS.out.keep B5.out)
      replace BZ := Hn (bl_trans BZ.out B5.out)
      clear B5 TZ UB2
      have TZ := Hn (HT.out.keep BZ.out)
      refine ca33 _ s nn mm kk cc1 ii K2 pc (enB jj K2 Q) _ _ _ _ _ _ _ _ _ _ _ _ _ _ _ _ _ _ _ _ _ _ _ _ _ _ _ _ _ _ _ _ _ _ _ _ _ _ _ _ _ _ _ _ _ _ _ _ _ _ _ _ _ _ _ _ _ _ _ _ _ _ _ _ _ _ _ _ _ _ _ _ _ _ _ _ _ _ _ _ _ _ _ _ _ _ _ _ _ _ _ _ _ _ _ _ _ _ _ _ _ _ _ _ _ _ _ _ _ _ _ _ _ _ _ _ _ _ _ _ _ _ _ _ _ _ _ _ _ _ _ _ _ _ _ _ _ _ _ _ _ _ _ _ _ _ _ _ _ _ _ _ _ _ _ _ _ _ _ _ _ _ _ _ _ _ _ _ _ _ _ _ _ _ _ _ _ _ _ _ _ _ _ _ _ _ _ wy (by_ofR (own_monoT UC2.out (Nat.zero_le _))) (Hn (fun y hb => (Gates_any (SN.out.keep hb)).mono fun e w' ⟨a, b⟩ => ⟨a, by rw [b]; exact Below.refl _ _⟩)) (Hn (fun y hb => (Gates_any (SS.out.keep hb)).mono fun e w' ⟨a, b⟩ => ⟨a, by rw [b]; exact Below.refl _ _⟩)) (Hn (fun y hb => (Gates_any (SM.out.keep hb)).mono fun e w' ⟨a, b⟩ => ⟨a, by rw [b]; exact Below.refl _ _⟩)) (Hn (fun y hb => (Gates_any (SK.out.keep hb)).mono fun e w' ⟨a, b⟩ => ⟨a, by rw [b]; exact Below.refl _ _⟩)) (Hn (fun y hb => EncB_any (SM.out.keep hb) (wk_of OYg.out) (TZ.out.keep hb) (by have := OYg.out.1; omega))) (Hn ?_)
      intro wv p9 c9 hz
      have BV := Hn (bl_trans BZ.out hz)
      clear hz
      go_wp2_with fail
      refine bodyPost_ret (v := .bool true) (by simp [results, Tryz.results3, go_sem]) rfl ⟨rfl, BV.out⟩
     ·have hl2 : ¬ ((enB jj ii Q).length : Int) = ((enB jj K2 Q).length : Int) := by omega
      go_wp2_with fail
      refine bodyPost_ret (v := .bool true) (by simp [results, Tryz.results3, go_sem]) rfl ⟨rfl, BW.out⟩
end Ci
end Go.Proofs.YthngomhhafoamaaGreatDoor
