import Derived.Test.YtghcfcglakbkeaaGreatDoorEbn
namespace Go.Proofs.YtghcfcglakbkeaaGreatDoor
set_option maxRecDepth 100000
set_option maxHeartbeats 16000000
open Go.RowKit
set_option linter.unusedVariables false
set_option linter.unusedSimpArgs false
open Cm (Wr Tm co bf Ls lf ins Eqm)
open Tr (cb By vn cb_len cb_app cb_one vn_len own_by)
open Xo (Dj own_front own_new Dj.kept wpList_tell)
namespace Ci
def pEbo0 : String := "law.go:155"
def pEbo1 : String := "law.go:171"
def sa1o_0 : Oper := oO 13 (Op.move (Operand.tmp 0)) 28 pEbo0 #[]
def sa1o_1 : Oper := oO 14 (Op.nilCheck (Operand.tmp 13)) 0 pEbo0 #[DD 0]
def sa1o_2 : Oper := oO 15 (Op.fieldAddr 49 (Operand.tmp 14) 0) 0 pEbo0 #[DD 1]
def sa1o_3 : Oper := oO 16 (Op.load 23 (Operand.tmp 15)) 23 pEbo0 #[DD 2]
def sa1o_4 : Oper := oO 17 (Op.call { callee := Callee.value (Operand.func 29), args := #[Operand.tmp 16], argTypes := #[23] }) 3 pEbo0 #[DD 3]
def sa1o_5 : Oper := oO 18 (Op.move (Operand.tmp 0)) 28 pEbo0 #[]
def sa1o_6 : Oper := oO 19 (Op.nilCheck (Operand.tmp 18)) 0 pEbo0 #[DD 5]
def sa1o_7 : Oper := oO 20 (Op.fieldAddr 49 (Operand.tmp 19) 1) 0 pEbo0 #[DD 6]
def sa1o_8 : Oper := oO 21 (Op.load 47 (Operand.tmp 20)) 47 pEbo0 #[DD 7]
def sa1o_9 : Oper := oO 22 (Op.nilCheck (Operand.tmp 21)) 0 pEbo0 #[DD 8]
def sa1o_10 : Oper := oO 23 (Op.fieldAddr 97 (Operand.tmp 22) 1) 0 pEbo0 #[DD 9]
def sa1o_11 : Oper := oO 24 (Op.load 3 (Operand.tmp 23)) 3 pEbo0 #[DD 10]
def sa1o_12 : Oper := oO 25 (Op.binOp BinOp.neq 3 (Operand.tmp 17) (Operand.tmp 24) 3) 4 pEbo0 #[DD 4, DD 11]
def sa1o_13 : Oper := oO 26 (Op.move (Operand.tmp 25)) 4 pEbo0 #[DD 12, CH 4]
def sa1o_14 : Oper := { dst := some 27, op := Op.move (Operand.tmp 0), type := 28, pos := "law.go:155", after := #[GU 13], guard := some (13, false) }
def sa1o_15 : Oper := { dst := some 28, op := Op.nilCheck (Operand.tmp 27), type := 0, pos := "law.go:155", after := #[DD 14, GU 13], guard := some (13, false) }
def sa1o_16 : Oper := { dst := some 29, op := Op.fieldAddr 49 (Operand.tmp 28) 0, type := 0, pos := "law.go:155", after := #[DD 15, GU 13], guard := some (13, false) }
def sa1o_17 : Oper := { dst := some 30, op := Op.load 23 (Operand.tmp 29), type := 23, pos := "law.go:155", after := #[DD 16, GU 13], guard := some (13, false) }
def sa1o_18 : Oper := { dst := some 31, op := Op.call { callee := Callee.value (Operand.func 30), args := #[Operand.tmp 30], argTypes := #[23] }, type := 3, pos := "law.go:155", after := #[DD 17, CH 13, GU 13], guard := some (13, false) }
def sa1o_19 : Oper := { dst := some 32, op := Op.move (Operand.tmp 0), type := 28, pos := "law.go:155", after := #[GU 13], guard := some (13, false) }
def sa1o_20 : Oper := { dst := some 33, op := Op.nilCheck (Operand.tmp 32), type := 0, pos := "law.go:155", after := #[DD 19, GU 13], guard := some (13, false) }
def sa1o_21 : Oper := { dst := some 34, op := Op.fieldAddr 49 (Operand.tmp 33) 1, type := 0, pos := "law.go:155", after := #[DD 20, GU 13], guard := some (13, false) }
def sa1o_22 : Oper := { dst := some 35, op := Op.load 47 (Operand.tmp 34), type := 47, pos := "law.go:155", after := #[DD 21, GU 13], guard := some (13, false) }
def sa1o_23 : Oper := { dst := some 36, op := Op.nilCheck (Operand.tmp 35), type := 0, pos := "law.go:155", after := #[DD 22, GU 13], guard := some (13, false) }
def sa1o_24 : Oper := { dst := some 37, op := Op.fieldAddr 97 (Operand.tmp 36) 0, type := 0, pos := "law.go:155", after := #[DD 23, GU 13], guard := some (13, false) }
def sa1o_25 : Oper := { dst := some 38, op := Op.load 3 (Operand.tmp 37), type := 3, pos := "law.go:155", after := #[DD 24, GU 13], guard := some (13, false) }
def sa1o_26 : Oper := { dst := some 39, op := Op.binOp BinOp.neq 3 (Operand.tmp 31) (Operand.tmp 38) 3, type := 4, pos := "law.go:155", after := #[DD 18, DD 25, GU 13], guard := some (13, false) }
def sa1o_27 : Oper := oO 40 (Op.pick (Operand.tmp 26) (Operand.const (Value.bool true)) (Operand.tmp 39)) 4 pEbo0 #[DD 13, DD 26]
def sa1o_28 : Oper := oO 41 (Op.move (Operand.tmp 40)) 4 pEbo0 #[DD 27, CH 18]
def sa1o_29 : Oper := { dst := some 42, op := Op.move (Operand.tmp 0), type := 28, pos := "law.go:155", after := #[GU 28], guard := some (28, false) }
def sa1o_30 : Oper := { dst := some 43, op := Op.nilCheck (Operand.tmp 42), type := 0, pos := "law.go:155", after := #[DD 29, GU 28], guard := some (28, false) }
def sa1o_31 : Oper := { dst := some 44, op := Op.fieldAddr 49 (Operand.tmp 43) 0, type := 0, pos := "law.go:155", after := #[DD 30, GU 28], guard := some (28, false) }
def sa1o_32 : Oper := { dst := some 45, op := Op.load 23 (Operand.tmp 44), type := 23, pos := "law.go:155", after := #[DD 31, GU 28], guard := some (28, false) }
def sa1o_33 : Oper := { dst := some 46, op := Op.call { callee := Callee.value (Operand.func 31), args := #[Operand.tmp 45], argTypes := #[23] }, type := 3, pos := "law.go:155", after := #[DD 32, CH 28, GU 28], guard := some (28, false) }
def sa1o_34 : Oper := { dst := some 47, op := Op.move (Operand.tmp 0), type := 28, pos := "law.go:155", after := #[GU 28], guard := some (28, false) }
def sa1o_35 : Oper := { dst := some 48, op := Op.nilCheck (Operand.tmp 47), type := 0, pos := "law.go:155", after := #[DD 34, GU 28], guard := some (28, false) }
def sa1o_36 : Oper := { dst := some 49, op := Op.fieldAddr 49 (Operand.tmp 48) 1, type := 0, pos := "law.go:155", after := #[DD 35, GU 28], guard := some (28, false) }
def sa1o_37 : Oper := { dst := some 50, op := Op.load 47 (Operand.tmp 49), type := 47, pos := "law.go:155", after := #[DD 36, GU 28], guard := some (28, false) }
def sa1o_38 : Oper := { dst := some 51, op := Op.nilCheck (Operand.tmp 50), type := 0, pos := "law.go:155", after := #[DD 37, GU 28], guard := some (28, false) }
def sa1o_39 : Oper := { dst := some 52, op := Op.fieldAddr 97 (Operand.tmp 51) 2, type := 0, pos := "law.go:155", after := #[DD 38, GU 28], guard := some (28, false) }
def sa1o_40 : Oper := { dst := some 53, op := Op.load 95 (Operand.tmp 52), type := 95, pos := "law.go:155", after := #[DD 39, GU 28], guard := some (28, false) }
def sa1o_41 : Oper := { dst := some 54, op := Op.call { callee := Callee.builtin Builtin.len, args := #[Operand.tmp 53], argTypes := #[95] }, type := 3, pos := "law.go:155", after := #[DD 40, GU 28], guard := some (28, false) }
def sa1o_42 : Oper := { dst := some 55, op := Op.binOp BinOp.neq 3 (Operand.tmp 46) (Operand.tmp 54) 3, type := 4, pos := "law.go:155", after := #[DD 33, DD 41, GU 28], guard := some (28, false) }
def sa1o_43 : Oper := oO 56 (Op.pick (Operand.tmp 41) (Operand.const (Value.bool true)) (Operand.tmp 55)) 4 pEbo0 #[DD 28, DD 42]
def sa1o : Array Oper := #[sa1o_0, sa1o_1, sa1o_2, sa1o_3, sa1o_4, sa1o_5, sa1o_6, sa1o_7, sa1o_8, sa1o_9, sa1o_10, sa1o_11, sa1o_12, sa1o_13, sa1o_14, sa1o_15, sa1o_16, sa1o_17, sa1o_18, sa1o_19, sa1o_20, sa1o_21, sa1o_22, sa1o_23, sa1o_24, sa1o_25, sa1o_26, sa1o_27, sa1o_28, sa1o_29, sa1o_30, sa1o_31, sa1o_32, sa1o_33, sa1o_34, sa1o_35, sa1o_36, sa1o_37, sa1o_38, sa1o_39, sa1o_40, sa1o_41, sa1o_42, sa1o_43]
theorem sa1 (Q : Exit → Act → World → Prop) (wi : World) (m : Nat) (p : Pr) (nq cu : Nat) (Pu : Option Addr) (u1 u2 u3 u4 u5 u6 u7 u8 u9 aa ab ad ae af ag ah ai aj ak al am an ao ap aq au av aw ax ay az aA aB aC aD aE aF aG aH aI aJ aK aL aM aN aO aP aQ aR aS aT aU aV aW aX aY aZ a1 a2 a3 a4 a5 a6 a7 a8 a9 ba bb bc bd be bg bh bi bj bk bl bm bn bo bp bq br bt bu bv bw bx bz bA bB bC bD bE bF bG bH bI bJ bK bL bM bN bO bP bQ bR bS bT bU bV bW bX bY bZ b0 b1 b2 b3 b4 b5 b6 b7 b8 b9 ca cc cd ce cf cg ch ci cj ck cm cn cp cq cr cs ct cv cw cx cy cz cA cB cC cD cE cF cG cH cI cJ cK cL cM cN cO cP cQ cR cS cT cU cV cW cX cY cZ c3 c4 c5 c6 c7 c8 c9 da db dc dd de df dg dh di dk dl dm dn dp dq dr ds dt du dv dw dx dz dA dB dC dD dE dF dG : Value) (W : World)
  (PJ : Pj wi m p W) (HU : Hid (p.u = .slice Pu nq cu)) (RQ : Hid (∀ y, Pj wi m p y → Calls Tryz.prog 31 #[.pointer (some ⟨p.s, 0, none⟩)] y fun e w' => e = .returned (.int .i64 (nq : Int)) ∧ w' = y))
  (HQ : Hid (∀ (wz : World), Pj wi m p wz → Below W.heap.size W wz → Q .normal ⟨#[.pointer (some ⟨p.b, 0, none⟩), u1, u2, u3, u4, u5, u6, u7, u8, u9, aa, ab, ad, .pointer (some ⟨p.b, 0, none⟩), .pointer (some ⟨p.b, 0, none⟩), .pointer (some ⟨p.b, 0, none⟩), .pointer (some ⟨p.s, 0, none⟩), .int .i64 (p.K : Int), .pointer (some ⟨p.b, 0, none⟩), .pointer (some ⟨p.b, 0, none⟩), .pointer (some ⟨p.b, 1, none⟩), .pointer (some ⟨p.r, 0, none⟩), .pointer (some ⟨p.r, 0, none⟩), .pointer (some ⟨p.r, 1, none⟩), .int .i64 (p.K : Int), .bool false, .bool false, .pointer (some ⟨p.b, 0, none⟩), .pointer (some ⟨p.b, 0, none⟩), .pointer (some ⟨p.b, 0, none⟩), .pointer (some ⟨p.s, 0, none⟩), .int .i64 (m : Int), .pointer (some ⟨p.b, 0, none⟩), .pointer (some ⟨p.b, 0, none⟩), .pointer (some ⟨p.b, 1, none⟩), .pointer (some ⟨p.r, 0, none⟩), .pointer (some ⟨p.r, 0, none⟩), .pointer (some ⟨p.r, 0, none⟩), .int .i64 (m : Int), .bool false, .bool false, .bool false, .pointer (some ⟨p.b, 0, none⟩), .pointer (some ⟨p.b, 0, none⟩), .pointer (some ⟨p.b, 0, none⟩), .pointer (some ⟨p.s, 0, none⟩), .int .i64 (nq : Int), .pointer (some ⟨p.b, 0, none⟩), .pointer (some ⟨p.b, 0, none⟩), .pointer (some ⟨p.b, 1, none⟩), .pointer (some ⟨p.r, 0, none⟩), .pointer (some ⟨p.r, 0, none⟩), .pointer (some ⟨p.r, 2, none⟩), .slice Pu nq cu, .int .i64 (nq : Int), .bool false, .bool false, aZ, a1, a2, a3, a4, a5, a6, a7, a8, a9, ba, bb, bc, bd, be, bg, bh, bi, bj, bk, bl, bm, bn, bo, bp, bq, br, bt, bu, bv, bw, bx, bz, bA, bB, bC, bD, bE, bF, bG, bH, bI, bJ, bK, bL, bM, bN, bO, bP, bQ, bR, bS, bT, bU, bV, bW, bX, bY, bZ, b0, b1, b2, b3, b4, b5, b6, b7, b8, b9, ca, cc, cd, ce, cf, cg, ch, ci, cj, ck, cm, cn, cp, cq, cr, cs, ct, cv, cw, cx, cy, cz, cA, cB, cC, cD, cE, cF, cG, cH, cI, cJ, cK, cL, cM, cN, cO, cP, cQ, cR, cS, cT, cU, cV, cW, cX, cY, cZ, c3, c4, c5, c6, c7, c8, c9, da, db, dc, dd, de, df, dg, dh, di, dk, dl, dm, dn, dp, dq, dr, ds, dt, du, dv, dw, dx, dz, dA, dB, dC, dD, dE, dF, dG], []⟩ wz)) : (Code.region 1 sa1o true).wp Tryz.prog Q ⟨#[.pointer (some ⟨p.b, 0, none⟩), u1, u2, u3, u4, u5, u6, u7, u8, u9, aa, ab, ad, ae, af, ag, ah, ai, aj, ak, al, am, an, ao, ap, aq, au, av, aw, ax, ay, az, aA, aB, aC, aD, aE, aF, aG, aH, aI, aJ, aK, aL, aM, aN, aO, aP, aQ, aR, aS, aT, aU, aV, aW, aX, aY, aZ, a1, a2, a3, a4, a5, a6, a7, a8, a9, ba, bb, bc, bd, be, bg, bh, bi, bj, bk, bl, bm, bn, bo, bp, bq, br, bt, bu, bv, bw, bx, bz, bA, bB, bC, bD, bE, bF, bG, bH, bI, bJ, bK, bL, bM, bN, bO, bP, bQ, bR, bS, bT, bU, bV, bW, bX, bY, bZ, b0, b1, b2, b3, b4, b5, b6, b7, b8, b9, ca, cc, cd, ce, cf, cg, ch, ci, cj, ck, cm, cn, cp, cq, cr, cs, ct, cv, cw, cx, cy, cz, cA, cB, cC, cD, cE, cF, cG, cH, cI, cJ, cK, cL, cM, cN, cO, cP, cQ, cR, cS, cT, cU, cV, cW, cX, cY, cZ, c3, c4, c5, c6, c7, c8, c9, da, db, dc, dd, de, df, dg, dh, di, dk, dl, dm, dn, dp, dq, dr, ds, dt, du, dv, dw, dx, dz, dA, dB, dC, dD, dE, dF, dG], []⟩ W := by
 unfold sa1o
 refine wp_region_noPanic ?_
 refine wp_region_held_drew (S := fun x => Pj wi m p x ∧ Below W.heap.size W x) (by kernel_rfl) (⟨PJ.keep (bl_drew W), bl_drew W⟩) (fun hH0 => ?_)
 refine tj 0 sa1o_0 (.pointer (some ⟨p.b, 0, none⟩)) hH0 (fun w0 hSw => ?_) ?_
 ·(unfold sa1o_0 oO; clear hSw; go_simp)
 simp only [sa1o_0, oO, Act.put, sA, sB, sC]
 refine tj 5 sa1o_5 (.pointer (some ⟨p.b, 0, none⟩)) hH0 (fun w0 hSw => ?_) ?_
 ·(unfold sa1o_5 oO; clear hSw; go_simp)
 simp only [sa1o_5, oO, Act.put, sA, sB, sC]
 refine tj 1 sa1o_1 (.pointer (some ⟨p.b, 0, none⟩)) hH0 (fun w0 hSw => ?_) ?_
 ·(unfold sa1o_1 oO; clear hSw; go_simp)
 simp only [sa1o_1, oO, Act.put, sA, sB, sC]
 refine tj 6 sa1o_6 (.pointer (some ⟨p.b, 0, none⟩)) hH0 (fun w0 hSw => ?_) ?_
 ·(unfold sa1o_6 oO; clear hSw; go_simp)
 simp only [sa1o_6, oO, Act.put, sA, sB, sC]
 refine tj 2 sa1o_2 (.pointer (some ⟨p.b, 0, none⟩)) hH0 (fun w0 hSw => ?_) ?_
 ·(unfold sa1o_2 oO; clear hSw; go_simp)
 simp only [sa1o_2, oO, Act.put, sA, sB, sC]
 refine tj 7 sa1o_7 (.pointer (some ⟨p.b, 1, none⟩)) hH0 (fun w0 hSw => ?_) ?_
 ·(unfold sa1o_7 oO; clear hSw; go_simp)
 simp only [sa1o_7, oO, Act.put, sA, sB, sC]
 refine tj 3 sa1o_3 (.pointer (some ⟨p.s, 0, none⟩)) hH0 (fun w0 hSw => ?_) ?_
 ·(unfold sa1o_3 oO; have hS : Pj wi m p w0 ∧ Below W.heap.size W w0 := hSw; have a0 := cell_of_row _ p.b 0 _ _ (0, 0) hS.1.hb; clear hS hSw; go_simp)
 simp only [sa1o_3, oO, Act.put, sA, sB, sC]
 refine tj 8 sa1o_8 (.pointer (some ⟨p.r, 0, none⟩)) hH0 (fun w0 hSw => ?_) ?_
 ·(unfold sa1o_8 oO; have hS : Pj wi m p w0 ∧ Below W.heap.size W w0 := hSw; have a0 := cell_of_row _ p.b 1 _ _ (0, 0) hS.1.hb; clear hS hSw; go_simp)
 simp only [sa1o_8, oO, Act.put, sA, sB, sC]
 refine tj 9 sa1o_9 (.pointer (some ⟨p.r, 0, none⟩)) hH0 (fun w0 hSw => ?_) ?_
 ·(unfold sa1o_9 oO; clear hSw; go_simp)
 simp only [sa1o_9, oO, Act.put, sA, sB, sC]
 refine tj 10 sa1o_10 (.pointer (some ⟨p.r, 1, none⟩)) hH0 (fun w0 hSw => ?_) ?_
 ·(unfold sa1o_10 oO; clear hSw; go_simp)
 simp only [sa1o_10, oO, Act.put, sA, sB, sC]
 refine tj 11 sa1o_11 (.int .i64 (p.K : Int)) hH0 (fun w0 hSw => ?_) ?_
 ·(unfold sa1o_11 oO; have hS : Pj wi m p w0 ∧ Below W.heap.size W w0 := hSw; have a0 := hS.1.dy.c1; clear hS hSw; go_simp)
 simp only [sa1o_11, oO, Act.put, sA, sB, sC]
 refine ar [4] ?_
 refine ac sa1o_4 (fun K hK => ?_) AllReadyH.nil
 unfold sa1o_4 oO
 have HH := Hn hH0
 clear hH0
 go_simp
 refine (Gates_any HH.out.1.sy).mono ?_
 rintro e wn1 ⟨rfl, hw⟩
 have SN := Hn ((by rw [hw]; exact HH.out : Pj wi m p wn1 ∧ Below W.heap.size W wn1))
 clear HH hw
 go_wp2_with fail
 refine hK.out _ _ SN.out (fun hH1 => ?_)
 clear hK K SN
 refine tj 12 sa1o_12 (.bool false) hH1 (fun w0 hSw => ?_) ?_
 ·(unfold sa1o_12 oO; clear hSw; go_simp)
 simp only [sa1o_12, oO, Act.put, sA, sB, sC]
 refine tj 13 sa1o_13 (.bool false) hH1 (fun w0 hSw => ?_) ?_
 ·(unfold sa1o_13 oO; clear hSw; go_simp)
 simp only [sa1o_13, oO, Act.put, sA, sB, sC]
 refine tj 14 sa1o_14 (.pointer (some ⟨p.b, 0, none⟩)) hH1 (fun w0 hSw => ?_) ?_
 ·(unfold sa1o_14; clear hSw; go_simp)
 simp only [sa1o_14, Act.put, sA, sB, sC]
 refine tj 19 sa1o_19 (.pointer (some ⟨p.b, 0, none⟩)) hH1 (fun w0 hSw => ?_) ?_
 ·(unfold sa1o_19; clear hSw; go_simp)
 simp only [sa1o_19, Act.put, sA, sB, sC]
 refine tj 15 sa1o_15 (.pointer (some ⟨p.b, 0, none⟩)) hH1 (fun w0 hSw => ?_) ?_
 ·(unfold sa1o_15; clear hSw; go_simp)
 simp only [sa1o_15, Act.put, sA, sB, sC]
 refine tj 20 sa1o_20 (.pointer (some ⟨p.b, 0, none⟩)) hH1 (fun w0 hSw => ?_) ?_
 ·(unfold sa1o_20; clear hSw; go_simp)
 simp only [sa1o_20, Act.put, sA, sB, sC]
 refine tj 16 sa1o_16 (.pointer (some ⟨p.b, 0, none⟩)) hH1 (fun w0 hSw => ?_) ?_
 ·(unfold sa1o_16; clear hSw; go_simp)
 simp only [sa1o_16, Act.put, sA, sB, sC]
 refine tj 21 sa1o_21 (.pointer (some ⟨p.b, 1, none⟩)) hH1 (fun w0 hSw => ?_) ?_
 ·(unfold sa1o_21; clear hSw; go_simp)
 simp only [sa1o_21, Act.put, sA, sB, sC]
 refine tj 17 sa1o_17 (.pointer (some ⟨p.s, 0, none⟩)) hH1 (fun w0 hSw => ?_) ?_
 ·(unfold sa1o_17; have hS : Pj wi m p w0 ∧ Below W.heap.size W w0 := hSw; have a0 := cell_of_row _ p.b 0 _ _ (0, 0) hS.1.hb; clear hS hSw; go_simp)
 simp only [sa1o_17, Act.put, sA, sB, sC]
 refine tj 22 sa1o_22 (.pointer (some ⟨p.r, 0, none⟩)) hH1 (fun w0 hSw => ?_) ?_
 ·(unfold sa1o_22; have hS : Pj wi m p w0 ∧ Below W.heap.size W w0 := hSw; have a0 := cell_of_row _ p.b 1 _ _ (0, 0) hS.1.hb; clear hS hSw; go_simp)
 simp only [sa1o_22, Act.put, sA, sB, sC]
 refine tj 23 sa1o_23 (.pointer (some ⟨p.r, 0, none⟩)) hH1 (fun w0 hSw => ?_) ?_
 ·(unfold sa1o_23; clear hSw; go_simp)
 simp only [sa1o_23, Act.put, sA, sB, sC]
 refine tj 24 sa1o_24 (.pointer (some ⟨p.r, 0, none⟩)) hH1 (fun w0 hSw => ?_) ?_
 ·(unfold sa1o_24; clear hSw; go_simp)
 simp only [sa1o_24, Act.put, sA, sB, sC]
 refine tj 25 sa1o_25 (.int .i64 (m : Int)) hH1 (fun w0 hSw => ?_) ?_
 ·(unfold sa1o_25; have hS : Pj wi m p w0 ∧ Below W.heap.size W w0 := hSw; have a0 := hS.1.dy.c0; clear hS hSw; go_simp)
 simp only [sa1o_25, Act.put, sA, sB, sC]
 refine ar [18] ?_
 refine ac sa1o_18 (fun K hK => ?_) AllReadyH.nil
 unfold sa1o_18
 have HH := Hn hH1
 clear hH1
 go_simp
 refine (Values_any HH.out.1.sy).mono ?_
 rintro e wn2 ⟨rfl, hw⟩
 have SN := Hn ((by rw [hw]; exact HH.out : Pj wi m p wn2 ∧ Below W.heap.size W wn2))
 clear HH hw
 go_wp2_with fail
 refine hK.out _ _ SN.out (fun hH2 => ?_)
 clear hK K SN
 refine tj 26 sa1o_26 (.bool false) hH2 (fun w0 hSw => ?_) ?_
 ·(unfold sa1o_26; clear hSw; go_simp)
 simp only [sa1o_26, Act.put, sA, sB, sC]
 refine tj 27 sa1o_27 (.bool false) hH2 (fun w0 hSw => ?_) ?_
 ·(unfold sa1o_27 oO; clear hSw; go_simp)
 simp only [sa1o_27, oO, Act.put, sA, sB, sC]
 refine tj 28 sa1o_28 (.bool false) hH2 (fun w0 hSw => ?_) ?_
 ·(unfold sa1o_28 oO; clear hSw; go_simp)
 simp only [sa1o_28, oO, Act.put, sA, sB, sC]
 refine tj 29 sa1o_29 (.pointer (some ⟨p.b, 0, none⟩)) hH2 (fun w0 hSw => ?_) ?_
 ·(unfold sa1o_29; clear hSw; go_simp)
 simp only [sa1o_29, Act.put, sA, sB, sC]
 refine tj 34 sa1o_34 (.pointer (some ⟨p.b, 0, none⟩)) hH2 (fun w0 hSw => ?_) ?_
 ·(unfold sa1o_34; clear hSw; go_simp)
 simp only [sa1o_34, Act.put, sA, sB, sC]
 refine tj 30 sa1o_30 (.pointer (some ⟨p.b, 0, none⟩)) hH2 (fun w0 hSw => ?_) ?_
 ·(unfold sa1o_30; clear hSw; go_simp)
 simp only [sa1o_30, Act.put, sA, sB, sC]
 refine tj 35 sa1o_35 (.pointer (some ⟨p.b, 0, none⟩)) hH2 (fun w0 hSw => ?_) ?_
 ·(unfold sa1o_35; clear hSw; go_simp)
 simp only [sa1o_35, Act.put, sA, sB, sC]
 refine tj 31 sa1o_31 (.pointer (some ⟨p.b, 0, none⟩)) hH2 (fun w0 hSw => ?_) ?_
 ·(unfold sa1o_31; clear hSw; go_simp)
 simp only [sa1o_31, Act.put, sA, sB, sC]
 refine tj 36 sa1o_36 (.pointer (some ⟨p.b, 1, none⟩)) hH2 (fun w0 hSw => ?_) ?_
 ·(unfold sa1o_36; clear hSw; go_simp)
 simp only [sa1o_36, Act.put, sA, sB, sC]
 refine tj 32 sa1o_32 (.pointer (some ⟨p.s, 0, none⟩)) hH2 (fun w0 hSw => ?_) ?_
 ·(unfold sa1o_32; have hS : Pj wi m p w0 ∧ Below W.heap.size W w0 := hSw; have a0 := cell_of_row _ p.b 0 _ _ (0, 0) hS.1.hb; clear hS hSw; go_simp)
 simp only [sa1o_32, Act.put, sA, sB, sC]
 refine tj 37 sa1o_37 (.pointer (some ⟨p.r, 0, none⟩)) hH2 (fun w0 hSw => ?_) ?_
 ·(unfold sa1o_37; have hS : Pj wi m p w0 ∧ Below W.heap.size W w0 := hSw; have a0 := cell_of_row _ p.b 1 _ _ (0, 0) hS.1.hb; clear hS hSw; go_simp)
 simp only [sa1o_37, Act.put, sA, sB, sC]
 refine tj 38 sa1o_38 (.pointer (some ⟨p.r, 0, none⟩)) hH2 (fun w0 hSw => ?_) ?_
 ·(unfold sa1o_38; clear hSw; go_simp)
 simp only [sa1o_38, Act.put, sA, sB, sC]
 refine tj 39 sa1o_39 (.pointer (some ⟨p.r, 2, none⟩)) hH2 (fun w0 hSw => ?_) ?_
 ·(unfold sa1o_39; clear hSw; go_simp)
 simp only [sa1o_39, Act.put, sA, sB, sC]
 refine tj 40 sa1o_40 (.slice Pu nq cu) hH2 (fun w0 hSw => ?_) ?_
 ·(unfold sa1o_40; have hS : Pj wi m p w0 ∧ Below W.heap.size W w0 := hSw; have a0 := (hS.1.dy.c2.trans (congrArg some HU.out)); clear hS hSw; go_simp)
 simp only [sa1o_40, Act.put, sA, sB, sC]
 refine tj 41 sa1o_41 (.int .i64 (nq : Int)) hH2 (fun w0 hSw => ?_) ?_
 ·(unfold sa1o_41; clear hSw; go_simp)
 simp only [sa1o_41, Act.put, sA, sB, sC]
 refine ar [33] ?_
 refine ac sa1o_33 (fun K hK => ?_) AllReadyH.nil
 unfold sa1o_33
 have HH := Hn hH2
 clear hH2
 go_simp
 refine (RQ.out _ HH.out.1).mono ?_
 rintro e wn3 ⟨rfl, hw⟩
 have SN := Hn ((by rw [hw]; exact HH.out : Pj wi m p wn3 ∧ Below W.heap.size W wn3))
 clear HH hw RQ
 go_wp2_with fail
 refine hK.out _ _ SN.out (fun hH3 => ?_)
 clear hK K SN
 refine tj 42 sa1o_42 (.bool false) hH3 (fun w0 hSw => ?_) ?_
 ·(unfold sa1o_42; clear hSw; go_simp)
 simp only [sa1o_42, Act.put, sA, sB, sC]
 refine tj 43 sa1o_43 (.bool false) hH3 (fun w0 hSw => ?_) ?_
 ·(unfold sa1o_43 oO; clear hSw; go_simp)
 simp only [sa1o_43, oO, Act.put, sA, sB, sC]
 have HH := Hn hH3
 have FQ := Hn (HQ.out _ HH.out.1 HH.out.2)
 refine wpAnyH_done (by kernel_rfl) ?_ _
 refine NoPanic.normal ?_
 exact FQ.out
def sa13o_0 : Oper := oO 150 (Op.move (Operand.tmp 0)) 28 pEbo1 #[]
def sa13o_1 : Oper := oO 151 (Op.nilCheck (Operand.tmp 150)) 0 pEbo1 #[DD 0]
def sa13o_2 : Oper := oO 152 (Op.fieldAddr 49 (Operand.tmp 151) 0) 0 pEbo1 #[DD 1]
def sa13o_3 : Oper := oO 153 (Op.load 23 (Operand.tmp 152)) 23 pEbo1 #[DD 2]
def sa13o_4 : Oper := oO 154 (Op.call { callee := Callee.value (Operand.func 33), args := #[Operand.tmp 153], argTypes := #[23] }) 61 pEbo1 #[DD 3]
def sa13o_5 : Oper := oO 155 (Op.move (Operand.tmp 0)) 28 pEbo1 #[]
def sa13o_6 : Oper := oO 156 (Op.nilCheck (Operand.tmp 155)) 0 pEbo1 #[DD 5]
def sa13o_7 : Oper := oO 157 (Op.fieldAddr 49 (Operand.tmp 156) 0) 0 pEbo1 #[DD 6]
def sa13o_8 : Oper := oO 158 (Op.load 23 (Operand.tmp 157)) 23 pEbo1 #[DD 7]
def sa13o_9 : Oper := oO 159 (Op.call { callee := Callee.value (Operand.func 33), args := #[Operand.tmp 158], argTypes := #[23] }) 61 pEbo1 #[DD 8, CH 4]
def sa13o_10 : Oper := oO 8 (Op.assign (Operand.tmp 154)) 61 pEbo1 #[DD 4, CH 9, PH 0, PH 1, PH 2, PH 3, PH 4, { on := 5, ground := Ground.textOnly Departure.lateStores }, { on := 6, ground := Ground.textOnly Departure.lateStores }, { on := 7, ground := Ground.textOnly Departure.lateStores }, { on := 8, ground := Ground.textOnly Departure.lateStores }, { on := 9, ground := Ground.textOnly Departure.lateStoresUnsure }]
def sa13o_11 : Oper := oO 9 (Op.assign (Operand.tmp 159)) 61 pEbo1 #[DD 9, CH 10, PH 0, PH 1, PH 2, PH 3, PH 4, PH 5, PH 6, PH 7, PH 8, PH 9, PH 10]
def sa13o : Array Oper := #[sa13o_0, sa13o_1, sa13o_2, sa13o_3, sa13o_4, sa13o_5, sa13o_6, sa13o_7, sa13o_8, sa13o_9, sa13o_10, sa13o_11]
theorem sa13 (Q : Exit → Act → World → Prop) (wi : World) (m : Nat) (p : Pr) (nb : Nat) (bs : List UInt8) (u1 u2 u3 u4 u5 u6 u7 u8 u9 aa ab ad ae af ag ah ai aj ak al am an ao ap aq au av aw ax ay az aA aB aC aD aE aF aG aH aI aJ aK aL aM aN aO aP aQ aR aS aT aU aV aW aX aY aZ a1 a2 a3 a4 a5 a6 a7 a8 a9 ba bb bc bd be bg bh bi bj bk bl bm bn bo bp bq br bt bu bv bw bx bz bA bB bC bD bE bF bG bH bI bJ bK bL bM bN bO bP bQ bR bS bT bU bV bW bX bY bZ b0 b1 b2 b3 b4 b5 b6 b7 b8 b9 ca cc cd ce cf cg ch ci cj ck cm cn cp cq cr cs ct cv cw cx cy cz cA cB cC cD cE cF cG cH cI cJ cK cL cM cN cO cP cQ cR cS cT cU cV cW cX cY cZ c3 c4 c5 c6 c7 c8 c9 da db dc dd de df dg dh di dk dl dm dn dp dq dr ds dt du dv dw dx dz dA dB dC dD dE dF dG : Value) (W : World)
  (PJ : Pj wi m p W) (CE : Hid (∀ y, Pj wi m p y → Below W.heap.size W y → Calls Tryz.prog 33 #[.pointer (some ⟨p.s, 0, none⟩)] y fun e w' => ∃ P c, e = .returned (.slice P nb c) ∧ w'.ownsRow y.heap.size 5 1 (.slice P nb c) nb (cb bs) ∧ Below y.heap.size y w'))
  (HQ : Hid (∀ (wz : World) (P1 P2 : Option Addr) (c1 c2 : Nat), Pj wi m p wz → Below W.heap.size W wz → wz.ownsRow W.heap.size 5 1 (.slice P1 nb c1) nb (cb bs) → wz.ownsRow W.heap.size 5 1 (.slice P2 nb c2) nb (cb bs) → Dj (.slice P1 nb c1) (.slice P2 nb c2) → Q .normal ⟨#[.pointer (some ⟨p.b, 0, none⟩), u1, u2, u3, u4, u5, u6, u7, .slice P1 nb c1, .slice P2 nb c2, aa, ab, ad, ae, af, ag, ah, ai, aj, ak, al, am, an, ao, ap, aq, au, av, aw, ax, ay, az, aA, aB, aC, aD, aE, aF, aG, aH, aI, aJ, aK, aL, aM, aN, aO, aP, aQ, aR, aS, aT, aU, aV, aW, aX, aY, aZ, a1, a2, a3, a4, a5, a6, a7, a8, a9, ba, bb, bc, bd, be, bg, bh, bi, bj, bk, bl, bm, bn, bo, bp, bq, br, bt, bu, bv, bw, bx, bz, bA, bB, bC, bD, bE, bF, bG, bH, bI, bJ, bK, bL, bM, bN, bO, bP, bQ, bR, bS, bT, bU, bV, bW, bX, bY, bZ, b0, b1, b2, b3, b4, b5, b6, b7, b8, b9, ca, cc, cd, ce, cf, cg, ch, ci, cj, ck, cm, cn, cp, cq, cr, cs, ct, cv, cw, cx, cy, cz, cA, cB, .pointer (some ⟨p.b, 0, none⟩), .pointer (some ⟨p.b, 0, none⟩), .pointer (some ⟨p.b, 0, none⟩), .pointer (some ⟨p.s, 0, none⟩), .slice P1 nb c1, .pointer (some ⟨p.b, 0, none⟩), .pointer (some ⟨p.b, 0, none⟩), .pointer (some ⟨p.b, 0, none⟩), .pointer (some ⟨p.s, 0, none⟩), .slice P2 nb c2, cM, cN, cO, cP, cQ, cR, cS, cT, cU, cV, cW, cX, cY, cZ, c3, c4, c5, c6, c7, c8, c9, da, db, dc, dd, de, df, dg, dh, di, dk, dl, dm, dn, dp, dq, dr, ds, dt, du, dv, dw, dx, dz, dA, dB, dC, dD, dE, dF, dG], []⟩ wz)) : (Code.region 13 sa13o true).wp Tryz.prog Q ⟨#[.pointer (some ⟨p.b, 0, none⟩), u1, u2, u3, u4, u5, u6, u7, u8, u9, aa, ab, ad, ae, af, ag, ah, ai, aj, ak, al, am, an, ao, ap, aq, au, av, aw, ax, ay, az, aA, aB, aC, aD, aE, aF, aG, aH, aI, aJ, aK, aL, aM, aN, aO, aP, aQ, aR, aS, aT, aU, aV, aW, aX, aY, aZ, a1, a2, a3, a4, a5, a6, a7, a8, a9, ba, bb, bc, bd, be, bg, bh, bi, bj, bk, bl, bm, bn, bo, bp, bq, br, bt, bu, bv, bw, bx, bz, bA, bB, bC, bD, bE, bF, bG, bH, bI, bJ, bK, bL, bM, bN, bO, bP, bQ, bR, bS, bT, bU, bV, bW, bX, bY, bZ, b0, b1, b2, b3, b4, b5, b6, b7, b8, b9, ca, cc, cd, ce, cf, cg, ch, ci, cj, ck, cm, cn, cp, cq, cr, cs, ct, cv, cw, cx, cy, cz, cA, cB, cC, cD, cE, cF, cG, cH, cI, cJ, cK, cL, cM, cN, cO, cP, cQ, cR, cS, cT, cU, cV, cW, cX, cY, cZ, c3, c4, c5, c6, c7, c8, c9, da, db, dc, dd, de, df, dg, dh, di, dk, dl, dm, dn, dp, dq, dr, ds, dt, du, dv, dw, dx, dz, dA, dB, dC, dD, dE, dF, dG], []⟩ W := by
 unfold sa13o
 refine wp_region_noPanic ?_
 refine wp_region_held_drew (S := fun x => Pj wi m p x ∧ Below W.heap.size W x) (by kernel_rfl) (⟨PJ.keep (bl_drew W), bl_drew W⟩) (fun hH0 => ?_)
 refine tj 0 sa13o_0 (.pointer (some ⟨p.b, 0, none⟩)) hH0 (fun w0 hSw => ?_) ?_
 ·(unfold sa13o_0 oO; clear hSw; go_simp)
 simp only [sa13o_0, oO, Act.put, sA, sB, sC]
 refine tj 5 sa13o_5 (.pointer (some ⟨p.b, 0, none⟩)) hH0 (fun w0 hSw => ?_) ?_
 ·(unfold sa13o_5 oO; clear hSw; go_simp)
 simp only [sa13o_5, oO, Act.put, sA, sB, sC]
 refine tj 1 sa13o_1 (.pointer (some ⟨p.b, 0, none⟩)) hH0 (fun w0 hSw => ?_) ?_
 ·(unfold sa13o_1 oO; clear hSw; go_simp)
 simp only [sa13o_1, oO, Act.put, sA, sB, sC]
 refine tj 6 sa13o_6 (.pointer (some ⟨p.b, 0, none⟩)) hH0 (fun w0 hSw => ?_) ?_
 ·(unfold sa13o_6 oO; clear hSw; go_simp)
 simp only [sa13o_6, oO, Act.put, sA, sB, sC]
 refine tj 2 sa13o_2 (.pointer (some ⟨p.b, 0, none⟩)) hH0 (fun w0 hSw => ?_) ?_
 ·(unfold sa13o_2 oO; clear hSw; go_simp)
 simp only [sa13o_2, oO, Act.put, sA, sB, sC]
 refine tj 7 sa13o_7 (.pointer (some ⟨p.b, 0, none⟩)) hH0 (fun w0 hSw => ?_) ?_
 ·(unfold sa13o_7 oO; clear hSw; go_simp)
 simp only [sa13o_7, oO, Act.put, sA, sB, sC]
 refine tj 3 sa13o_3 (.pointer (some ⟨p.s, 0, none⟩)) hH0 (fun w0 hSw => ?_) ?_
 ·(unfold sa13o_3 oO; have hS : Pj wi m p w0 ∧ Below W.heap.size W w0 := hSw; have a0 := cell_of_row _ p.b 0 _ _ (0, 0) hS.1.hb; clear hS hSw; go_simp)
 simp only [sa13o_3, oO, Act.put, sA, sB, sC]
 refine tj 8 sa13o_8 (.pointer (some ⟨p.s, 0, none⟩)) hH0 (fun w0 hSw => ?_) ?_
 ·(unfold sa13o_8 oO; have hS : Pj wi m p w0 ∧ Below W.heap.size W w0 := hSw; have a0 := cell_of_row _ p.b 0 _ _ (0, 0) hS.1.hb; clear hS hSw; go_simp)
 simp only [sa13o_8, oO, Act.put, sA, sB, sC]
 refine ar [4] ?_
 refine ac sa13o_4 (fun K hK => ?_) AllReadyH.nil
 unfold sa13o_4 oO
 have HH := Hn hH0
 clear hH0
 go_simp
 refine (CE.out _ HH.out.1 HH.out.2).mono ?_
 rintro e wn1 ⟨P1, c1, rfl, ho, hb⟩
 have SN := Hn ((⟨HH.out.1.keep hb, bl_trans HH.out.2 hb⟩ : Pj wi m p wn1 ∧ Below W.heap.size W wn1))
 have O1 := Hn (own_monoT ho HH.out.2.size)
 clear HH ho hb
 go_wp2_with fail
 refine hK.out _ _ SN.out (fun hH1 => ?_)
 clear hK K SN
 refine ar [9] ?_
 refine ac sa13o_9 (fun K hK => ?_) AllReadyH.nil
 unfold sa13o_9 oO
 have HH := Hn hH1
 clear hH1
 go_simp
 refine (CE.out _ HH.out.1 HH.out.2).mono ?_
 rintro e wn2 ⟨P2, c2, rfl, ho, hb⟩
 have SN := Hn ((⟨HH.out.1.keep hb, bl_trans HH.out.2 hb⟩ : Pj wi m p wn2 ∧ Below W.heap.size W wn2))
 have DJ := Hn ((fun i h1 h2 => by have := (O1.out.lt i h1).2; have := (ho.lt i h2).1; omega : Dj (.slice P1 nb c1) (.slice P2 nb c2)))
 replace O1 := Hn (own_keepT O1.out hb)
 have O2 := Hn (own_monoT ho HH.out.2.size)
 clear HH ho hb
 go_wp2_with fail
 refine hK.out _ _ SN.out (fun hH2 => ?_)
 clear hK K SN
 refine tj 10 sa13o_10 (.slice P1 nb c1) hH2 (fun w0 hSw => ?_) ?_
 ·(unfold sa13o_10 oO; clear hSw; go_simp)
 simp only [sa13o_10, oO, Act.put, sA, sB, sC]
 refine tj 11 sa13o_11 (.slice P2 nb c2) hH2 (fun w0 hSw => ?_) ?_
 ·(unfold sa13o_11 oO; clear hSw; go_simp)
 simp only [sa13o_11, oO, Act.put, sA, sB, sC]
 have HH := Hn hH2
 have FQ := Hn (HQ.out _ P1 P2 c1 c2 HH.out.1 HH.out.2 O1.out O2.out DJ.out)
 refine wpAnyH_done (by kernel_rfl) ?_ _
 refine NoPanic.normal ?_
 exact FQ.out
theorem wpList_conv {ops : Array Oper} {rest : List Oper} {o : Oper} {a : Act} {w : World} {Q : Exit → Act → World → Prop} (hw : Region.wanted o (yielded ops a.tmps) = true) (x : Operand) (ho : o.op = .convert 61 9 x) {P : Option Addr} {c : Nat} {bs : List UInt8} (hx : a.eval x = .slice P bs.length c) (hB : By w P c bs) (h : wpList Tryz.prog ops Q rest (a.put o.dst (.string (Tr.sb bs))) w) : wpList Tryz.prog ops Q (o :: rest) a w := by
 unfold wpList
 rw [if_pos hw]
 exact Or.inl (wp_conv x ho hx hB h)
theorem Pj.rowU {wi x y : World} {m b n s : Nat} {p : Pr} {v : Value} {xs : List Value} (h : Pj wi m p x) (hu : x.ownsRow b 5 s v n xs) (g : x.grownBy y v.ownBlock) : Pj wi m p y := by
 have nbk : ∀ {B : Nat} {arr : Array Value} {T : TypeId}, x.heap[B]? = some (.cells arr T (0, 0)) → 5 ≠ T → y.heap[B]? = some (.cells arr T (0, 0)) := fun hB e1 => hb_kd hB hu e1 g
 have ok : ∀ {b n s : Nat} {e : TypeId} {u : Value} {xs : List Value}, x.ownsRow b e s u n xs → e ≠ 5 → y.ownsRow b e s u n xs := fun ho e1 => own_kept ho hu e1 g
 refine ⟨nbk h.hb (by decide), ⟨nbk h.sy.h (by decide), ok h.sy.row (by decide), fun i X hX => ?_, h.sy.bs, h.sy.sm⟩, ⟨nbk h.dy.h (by decide), ok h.dy.row (by decide), fun i X hX => ?_, h.dy.bs, h.dy.sm⟩, h.ok, h.lo⟩
 ·obtain ⟨u, c1, c2⟩ := h.sy.ls i X hX
  exact ⟨u, c1, ok c2 (by decide)⟩
 ·obtain ⟨u, c1, c2⟩ := h.dy.ls i X hX
  exact ⟨u, c1, ok c2 (by decide)⟩
def Iu (B n : Nat) (v : Value) (z : World) : Prop := ∃ xs, z.ownsRow B 5 1 v n xs ∧ ∀ j, j < n → ∃ q : Int, xs[j]? = some (.int .u8 q)
structure Se (wi x0 : World) (m : Nat) (p : Pr) (n : Nat) (v vc : Value) (bs : List UInt8) (z : World) : Prop where
 pj : Pj wi m p z
 bel : Below x0.heap.size x0 z
 ob : Iu x0.heap.size n v z
 oc : z.ownsRow x0.heap.size 5 1 vc bs.length (cb bs)
 dj : Dj v vc
section
variable {wi x0 z z2 : World} {m n g c i : Nat} {p : Pr} {v v2 vc : Value} {bs : List UInt8}
theorem Se.keep (h : Se wi x0 m p n v vc bs z) (hb : Below z.heap.size z z2) : Se wi x0 m p n v vc bs z2 := by
 obtain ⟨xs, h1, h2⟩ := h.ob
 exact ⟨h.pj.keep hb, bl_trans h.bel hb, ⟨xs, own_keepT h1 hb, h2⟩, own_keepT h.oc hb, h.dj⟩
theorem Se.put (h : Se wi x0 m p n (.slice (some ⟨g, 0, none⟩) n c) vc bs z) (q : Int) : Se wi x0 m p n (.slice (some ⟨g, 0, none⟩) n c) vc bs (z.setCell ⟨g, i, none⟩ (.int .u8 q)) := by
 obtain ⟨xs, h1, h2⟩ := h.ob
 obtain ⟨k1, k2⟩ := h1.stored i (.int .u8 q)
 refine ⟨h.pj.rowU h1 k2, h.bel.grown k2 h.bel.size (fun k hk => by rw [← Option.some.inj hk]; exact (h1.lt g rfl).1), ⟨_, k1, fun j hj => ?_⟩, h.dj.kept h.oc k2, h.dj⟩
 rw [List.getElem?_set]
 split
 ·rename_i e
  have hl := h1.1
  rw [if_pos (by omega)]
  exact ⟨q, rfl⟩
 ·exact h2 j hj
theorem Se.app (h : Se wi x0 m p n v vc bs z) {xs : List Value} (ho1 : z.ownsRow x0.heap.size 5 1 v n xs) (hx : ∀ j, j < n → ∃ q : Int, xs[j]? = some (.int .u8 q)) (ho : z2.ownsRow x0.heap.size 5 1 v2 (n + 1) (xs ++ [.int .u8 9])) (hg : z.grownBy z2 v.ownBlock) (hd : v2.ownBlock = v.ownBlock ∨ v2.ownBlock = some z.heap.size) : Se wi x0 m p (n + 1) v2 vc bs z2 := by
 refine ⟨h.pj.rowU ho1 hg, h.bel.grown hg h.bel.size (fun k hk => (ho1.lt k hk).1), ⟨_, ho, fun j hj => ?_⟩, h.dj.kept h.oc hg, fun k hk => ?_⟩
 ·have hl := ho1.1
  by_cases e : j < n
  ·rw [List.getElem?_append_left (by omega)]
   exact hx j e
  ·rw [List.getElem?_append_right (by omega), show j - xs.length = 0 by omega]
   exact ⟨9, rfl⟩
 ·rcases hd with e | e
  ·exact h.dj k (e ▸ hk)
  ·rw [e] at hk
   intro e2
   have := (h.oc.lt k e2).2
   have := Option.some.inj hk
   omega
end
end Ci
end Go.Proofs.YtghcfcglakbkeaaGreatDoor
