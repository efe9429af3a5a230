import Derived.Test.YtghcfcglakbkeaaGreatDoorEbh
namespace Go.Proofs.YtghcfcglakbkeaaGreatDoor
set_option maxRecDepth 100000
set_option maxHeartbeats 16000000
open Go.RowKit
set_option linter.unusedVariables false
set_option linter.unusedSimpArgs false
open Cm (Wr Tm co bf Ls lf ins Eqm)
namespace Ci
def LnP (A : List Tm) (y : World) (e : Ending) (w' : World) : Prop := ∃ P c, e = .returned (.slice P A.length c) ∧ w'.ownsRow y.heap.size 116 6 (.slice P A.length c) A.length (tls A) ∧ Below y.heap.size y w'
theorem lin_sl {s : Lf} {y : World} (h : s.at y) : Calls Tryz.prog 18 #[.slice s.p s.n s.c] y fun e w' => LnP (glL s.n s.f) y e w' :=
 (lin_any s.p s.n s.c s.f y (by have := h.n; omega) h.ok h.lt).mono fun e w' ⟨v, he, h1, h2⟩ => by
  obtain ⟨P, c, e1, _, _⟩ := own_shT h1
  subst e1
  exact ⟨P, c, he, h1, h2⟩
def RoP (s : Lf) (b : Nat) (y : World) (e : Ending) (w' : World) : Prop := ∃ g cc, e = .returned (.slice (some ⟨g, 0, none⟩) s.n cc) ∧ w'.ownsRow b 123 6 (.slice (some ⟨g, 0, none⟩) (s.n + 2) cc) (s.n + 2) (tvs (s.n + 2) (ex s.n s.f)) ∧ Below y.heap.size y w' ∧ y.heap.size ≤ g
theorem room_sl {s : Lf} {y : World} {b : Nat} (h : Li y s) (hM : Mk y) (hb : b ≤ y.heap.size) : Calls Tryz.prog 39 #[.slice s.p s.n s.c] y fun e w' => RoP s b y e w' :=
 (room_any s.p s.n s.c s.f y (by have := h.a.n; omega) h.z hM h.a.lt).mono fun e w' ⟨g, cc, he, hc, h1, h2⟩ => ⟨g, cc, he, own_monoT h1 hb, h2, (h1.lt g rfl).1⟩
theorem Li.keep {w w' : World} {s : Lf} (h : Li w s) (hb : Below w.heap.size w w') : Li w' s := ⟨h.a.keep hb, h.z⟩
def pEbi0 : String := "law.go:136"
def pEbi1 : String := "law.go:150"
def pEbi2 : String := "law.go:141"
def pEbi3 : String := "law.go:139"
def pEbi4 : String := "law.go:126"
def st1o_0 : Oper := oO 17 (Op.fieldAddr 65 (Operand.tmp 3) 1) 0 pEbi4 #[]
def st1o_1 : Oper := oO 18 (Op.load 38 (Operand.tmp 17)) 38 pEbi4 #[DD 0]
def st1o_2 : Oper := oO 19 (Op.call { callee := Callee.value (Operand.func 39), args := #[Operand.tmp 18], argTypes := #[38] }) 38 pEbi4 #[DD 1]
def st1o_3 : Oper := oO 20 (Op.fieldAddr 65 (Operand.tmp 3) 2) 0 pEbi4 #[]
def st1o_4 : Oper := oO 21 (Op.load 38 (Operand.tmp 20)) 38 pEbi4 #[DD 3]
def st1o_5 : Oper := oO 22 (Op.call { callee := Callee.value (Operand.func 39), args := #[Operand.tmp 21], argTypes := #[38] }) 38 pEbi4 #[DD 4, CH 2]
def st1o_6 : Oper := oO 5 (Op.assign (Operand.tmp 19)) 38 pEbi4 #[DD 2, CH 5, PH 0, PH 1, PH 2, { on := 3, ground := Ground.textOnly Departure.lateStores }, { on := 4, ground := Ground.textOnly Departure.lateStores }, { on := 5, ground := Ground.textOnly Departure.lateStoresUnsure }]
def st1o_7 : Oper := oO 6 (Op.assign (Operand.tmp 22)) 38 pEbi4 #[DD 5, CH 6, PH 0, PH 1, PH 2, PH 3, PH 4, PH 5, PH 6]
def st1o : Array Oper := #[st1o_0, st1o_1, st1o_2, st1o_3, st1o_4, st1o_5, st1o_6, st1o_7]
theorem st1 (Q : Exit → Act → World → Prop) (sa sb : Lf) (cb : Nat) (u0 u1 u2 u4 u5 u6 u7 u8 u9 aa ab ad ae af ag ah ai aj ak al am an ao ap aq au av aw ax ay az aA aB aC aD aE aF aG aH aI aJ aK aL aM aN aO aP aQ aR aS aT aU aV aW aX aY aZ a6 a7 a8 a9 ba bb bc bd be bg bh bi bj bk bl bm bn bo bp bq br bs bt bu bv bw bx bz bA bB bC bD bE bF bG bH bI bJ bK bL bM bN bO bP bQ bR bS bT bU bV bW bX bY bZ b6 b7 b8 b9 cd ce cf cg ch ci cj ck cm cn cp cq cr cs ct cv cw cx cy cz cA cB cC cD cE cF cG cH cI cJ cK cL cM cN cO cP cQ cR cS cT cU cV cW cX cY cZ c3 c4 c5 c6 c7 c8 c9 da db dc dd de df dg dh di dj dk dl dm dn dp dq dr ds dt du dv dw dx : Value) (W : World)
  (c1 : W.cell? ⟨cb, 1, none⟩ = some (.slice sa.p sa.n sa.c)) (c2 : W.cell? ⟨cb, 2, none⟩ = some (.slice sb.p sb.n sb.c))
  (C2 : Hid (∀ y, Below W.heap.size W y → Calls Tryz.prog 39 #[.slice sa.p sa.n sa.c] y fun e w' => RoP sa W.heap.size y e w'))
  (C5 : Hid (∀ y, Below W.heap.size W y → Calls Tryz.prog 39 #[.slice sb.p sb.n sb.c] y fun e w' => RoP sb W.heap.size y e w'))
  (HQ : Hid (∀ (wz : World) (ga ca gb cc : Nat), Below W.heap.size W wz → wz.ownsRow W.heap.size 123 6 (.slice (some ⟨ga, 0, none⟩) (sa.n + 2) ca) (sa.n + 2) (tvs (sa.n + 2) (ex sa.n sa.f)) → wz.ownsRow W.heap.size 123 6 (.slice (some ⟨gb, 0, none⟩) (sb.n + 2) cc) (sb.n + 2) (tvs (sb.n + 2) (ex sb.n sb.f)) → ga ≠ gb → Q .normal ⟨#[u0, u1, u2, .pointer (some ⟨cb, 0, none⟩), u4, .slice (some ⟨ga, 0, none⟩) sa.n ca, .slice (some ⟨gb, 0, none⟩) sb.n cc, u7, u8, u9, aa, ab, ad, ae, af, ag, ah, .pointer (some ⟨cb, 1, none⟩), .slice sa.p sa.n sa.c, .slice (some ⟨ga, 0, none⟩) sa.n ca, .pointer (some ⟨cb, 2, none⟩), .slice sb.p sb.n sb.c, .slice (some ⟨gb, 0, none⟩) sb.n cc, ao, ap, aq, au, av, aw, ax, ay, az, aA, aB, aC, aD, aE, aF, aG, aH, aI, aJ, aK, aL, aM, aN, aO, aP, aQ, aR, aS, aT, aU, aV, aW, aX, aY, aZ, a6, a7, a8, a9, ba, bb, bc, bd, be, bg, bh, bi, bj, bk, bl, bm, bn, bo, bp, bq, br, bs, bt, bu, bv, bw, bx, bz, bA, bB, bC, bD, bE, bF, bG, bH, bI, bJ, bK, bL, bM, bN, bO, bP, bQ, bR, bS, bT, bU, bV, bW, bX, bY, bZ, b6, b7, b8, b9, cd, ce, cf, cg, ch, ci, cj, ck, cm, cn, cp, cq, cr, cs, ct, cv, cw, cx, cy, cz, cA, cB, cC, cD, cE, cF, cG, cH, cI, cJ, cK, cL, cM, cN, cO, cP, cQ, cR, cS, cT, cU, cV, cW, cX, cY, cZ, c3, c4, c5, c6, c7, c8, c9, da, db, dc, dd, de, df, dg, dh, di, dj, dk, dl, dm, dn, dp, dq, dr, ds, dt, du, dv, dw, dx], []⟩ wz)) : (Code.region 1 st1o true).wp Tryz.prog Q ⟨#[u0, u1, u2, .pointer (some ⟨cb, 0, none⟩), u4, u5, u6, u7, u8, u9, aa, ab, ad, ae, af, ag, ah, ai, aj, ak, al, am, an, ao, ap, aq, au, av, aw, ax, ay, az, aA, aB, aC, aD, aE, aF, aG, aH, aI, aJ, aK, aL, aM, aN, aO, aP, aQ, aR, aS, aT, aU, aV, aW, aX, aY, aZ, a6, a7, a8, a9, ba, bb, bc, bd, be, bg, bh, bi, bj, bk, bl, bm, bn, bo, bp, bq, br, bs, bt, bu, bv, bw, bx, bz, bA, bB, bC, bD, bE, bF, bG, bH, bI, bJ, bK, bL, bM, bN, bO, bP, bQ, bR, bS, bT, bU, bV, bW, bX, bY, bZ, b6, b7, b8, b9, cd, ce, cf, cg, ch, ci, cj, ck, cm, cn, cp, cq, cr, cs, ct, cv, cw, cx, cy, cz, cA, cB, cC, cD, cE, cF, cG, cH, cI, cJ, cK, cL, cM, cN, cO, cP, cQ, cR, cS, cT, cU, cV, cW, cX, cY, cZ, c3, c4, c5, c6, c7, c8, c9, da, db, dc, dd, de, df, dg, dh, di, dj, dk, dl, dm, dn, dp, dq, dr, ds, dt, du, dv, dw, dx], []⟩ W := by
 unfold st1o
 refine wp_region_noPanic ?_
 refine wp_region_held_drew (S := fun x => Below W.heap.size W x) (by kernel_rfl) (bl_drew W) (fun hH0 => ?_)
 refine tj 0 st1o_0 (.pointer (some ⟨cb, 1, none⟩)) hH0 (fun w0 hSw => ?_) ?_
 ·(unfold st1o_0 oO; clear hSw; go_simp)
 simp only [st1o_0, oO, Act.put, sA, sB, sC]
 refine tj 3 st1o_3 (.pointer (some ⟨cb, 2, none⟩)) hH0 (fun w0 hSw => ?_) ?_
 ·(unfold st1o_3 oO; clear hSw; go_simp)
 simp only [st1o_3, oO, Act.put, sA, sB, sC]
 refine tj 1 st1o_1 (.slice sa.p sa.n sa.c) hH0 (fun w0 hSw => ?_) ?_
 ·(unfold st1o_1 oO; have hS : Below W.heap.size W w0 := hSw; have a0 := cell_keep c1 hS; clear hS hSw; go_simp)
 simp only [st1o_1, oO, Act.put, sA, sB, sC]
 refine tj 4 st1o_4 (.slice sb.p sb.n sb.c) hH0 (fun w0 hSw => ?_) ?_
 ·(unfold st1o_4 oO; have hS : Below W.heap.size W w0 := hSw; have a0 := cell_keep c2 hS; clear hS hSw; go_simp)
 simp only [st1o_4, oO, Act.put, sA, sB, sC]
 refine ar [2] ?_
 refine ac st1o_2 (fun K hK => ?_) AllReadyH.nil
 unfold st1o_2 oO
 have HH := Hn hH0
 clear hH0
 go_simp
 refine (C2.out _ HH.out).mono ?_
 rintro e wn1 ⟨ga, ca, rfl, ho, hb, hg⟩
 have SN := Hn (bl_trans HH.out hb)
 have RA := Hn (ho)
 have GL := Hn ((ho.lt ga rfl).2)
 clear HH C2 ho hb hg
 go_wp2_with fail
 refine hK.out _ _ SN.out (fun hH1 => ?_)
 clear hK K SN
 refine ar [5] ?_
 refine ac st1o_5 (fun K hK => ?_) AllReadyH.nil
 unfold st1o_5 oO
 have HH := Hn hH1
 clear hH1
 go_simp
 refine (C5.out _ HH.out).mono ?_
 rintro e wn2 ⟨gb, cc, rfl, ho, hb, hg⟩
 have SN := Hn (bl_trans HH.out hb)
 replace RA := Hn (own_keepT RA.out hb)
 have RB := Hn (ho)
 have NG := Hn ((fun e => by have := GL.out; omega : ga ≠ gb))
 clear HH C5 ho hb hg GL
 go_wp2_with fail
 refine hK.out _ _ SN.out (fun hH2 => ?_)
 clear hK K SN
 refine tj 6 st1o_6 (.slice (some ⟨ga, 0, none⟩) sa.n ca) hH2 (fun w0 hSw => ?_) ?_
 ·(unfold st1o_6 oO; clear hSw; go_simp)
 simp only [st1o_6, oO, Act.put, sA, sB, sC]
 refine tj 7 st1o_7 (.slice (some ⟨gb, 0, none⟩) sb.n cc) hH2 (fun w0 hSw => ?_) ?_
 ·(unfold st1o_7 oO; clear hSw; go_simp)
 simp only [st1o_7, oO, Act.put, sA, sB, sC]
 have HH := Hn hH2
 have FQ := Hn (HQ.out _ ga ca gb cc HH.out RA.out RB.out NG.out)
 refine wpAnyH_done (by kernel_rfl) ?_ _
 refine NoPanic.normal ?_
 exact FQ.out
def Pk (pb s r cb : Nat) (wh : Int) (sa sb : Lf) (x : World) : Prop := x.heap[pb]? = some (.cells #[.pointer (some ⟨s, 0, none⟩), .pointer (some ⟨r, 0, none⟩)] 49 (0, 0)) ∧ x.heap[cb]? = some (.cells #[.int .i64 wh, .slice sa.p sa.n sa.c, .slice sb.p sb.n sb.c] 65 (0, 0))
def st11o_0 : Oper := oO 62 (Op.move (Operand.tmp 0)) 28 pEbi0 #[]
def st11o_1 : Oper := oO 63 (Op.nilCheck (Operand.tmp 62)) 0 pEbi0 #[DD 0]
def st11o_2 : Oper := oO 64 (Op.fieldAddr 49 (Operand.tmp 63) 1) 0 pEbi0 #[DD 1]
def st11o_3 : Oper := oO 65 (Op.load 47 (Operand.tmp 64)) 47 pEbi0 #[DD 2]
def st11o_4 : Oper := oO 66 (Op.fieldAddr 65 (Operand.tmp 3) 1) 0 pEbi0 #[]
def st11o_5 : Oper := oO 67 (Op.load 38 (Operand.tmp 66)) 38 pEbi0 #[DD 4]
def st11o_6 : Oper := oO 68 (Op.call { callee := Callee.value (Operand.func 18), args := #[Operand.tmp 67], argTypes := #[38] }) 72 pEbi0 #[DD 5]
def st11o_7 : Oper := oO 69 (Op.fieldAddr 65 (Operand.tmp 3) 2) 0 pEbi0 #[]
def st11o_8 : Oper := oO 70 (Op.load 38 (Operand.tmp 69)) 38 pEbi0 #[DD 7]
def st11o_9 : Oper := oO 71 (Op.call { callee := Callee.value (Operand.func 18), args := #[Operand.tmp 70], argTypes := #[38] }) 72 pEbi0 #[DD 8, CH 6]
def st11o_10 : Oper := oO 72 (Op.call { callee := Callee.value (Operand.func 17), args := #[Operand.tmp 65, Operand.tmp 68, Operand.tmp 71], argTypes := #[47, 72, 72] }) 68 pEbi0 #[DD 3, DD 6, DD 9, CH 9]
def st11o_11 : Oper := oO 61 (Op.move (Operand.tmp 72)) 68 pEbi0 #[DD 10]
def st11o_12 : Oper := oO 73 (Op.extract (Operand.tmp 61) 0) 67 pEbi0 #[DD 11]
def st11o_13 : Oper := oO 74 (Op.extract (Operand.tmp 61) 1) 67 pEbi0 #[DD 11, { on := 16, ground := Ground.gcOnly Departure.lateStores }]
def st11o_14 : Oper := oO 75 (Op.extract (Operand.tmp 61) 2) 67 pEbi0 #[DD 11, { on := 17, ground := Ground.gcOnly Departure.lateStores }]
def st11o_15 : Oper := oO 76 (Op.extract (Operand.tmp 61) 3) 45 pEbi0 #[DD 11, { on := 18, ground := Ground.gcOnly Departure.lateStores }]
def st11o_16 : Oper := oN (Op.store 67 (Operand.tmp 10) (Operand.tmp 73)) pEbi0 #[DD 12, CH 10, PH 0, PH 1, PH 2, PH 3, PH 4, PH 5, PH 6, PH 7, PH 8, PH 9, PH 10, PH 11, PH 12, { on := 13, ground := Ground.textOnly Departure.lateStores }, { on := 14, ground := Ground.textOnly Departure.lateStores }, { on := 15, ground := Ground.textOnly Departure.lateStores }]
def st11o_17 : Oper := oN (Op.store 67 (Operand.tmp 11) (Operand.tmp 74)) pEbi0 #[DD 13, CH 16, PH 0, PH 1, PH 2, PH 3, PH 4, PH 5, PH 6, PH 7, PH 8, PH 9, PH 10, PH 11, PH 12, PH 13, { on := 14, ground := Ground.textOnly Departure.lateStores }, { on := 15, ground := Ground.textOnly Departure.lateStores }, PH 16]
def st11o_18 : Oper := oN (Op.store 67 (Operand.tmp 12) (Operand.tmp 75)) pEbi0 #[DD 14, CH 17, PH 0, PH 1, PH 2, PH 3, PH 4, PH 5, PH 6, PH 7, PH 8, PH 9, PH 10, PH 11, PH 12, PH 13, PH 14, { on := 15, ground := Ground.textOnly Departure.lateStores }, PH 16, PH 17]
def st11o_19 : Oper := oO 14 (Op.assign (Operand.tmp 76)) 45 pEbi0 #[DD 15, CH 18, PH 0, PH 1, PH 2, PH 3, PH 4, PH 5, PH 6, PH 7, PH 8, PH 9, PH 10, PH 11, PH 12, PH 13, PH 14, PH 15, PH 16, PH 17, PH 18]
def st11o : Array Oper := #[st11o_0, st11o_1, st11o_2, st11o_3, st11o_4, st11o_5, st11o_6, st11o_7, st11o_8, st11o_9, st11o_10, st11o_11, st11o_12, st11o_13, st11o_14, st11o_15, st11o_16, st11o_17, st11o_18, st11o_19]
theorem st11 (Q : Exit → Act → World → Prop) (wi : World) (m : Nat) (p : Pr) (wx : World) (sa sb : Lf) (wh : Int) (cb t7 t8 t9 t10 t11 t12 ga ca gb cc : Nat) (K1 : Nat) (Q1 : List (List Tm)) (K2 : Nat) (Q2 : List (List Tm)) (a0 a1 a2 a3 a4 a5 b0 b1 b2 b3 b4 b5 : Int) (A B : List Tm) (K3 : Nat) (Q3 : List (List Tm)) (k0 k1 k2 k3 k4 k5 E : Int) (u1 u2 u4 u5 u6 u7 u8 u9 ae af ag ah ai aj ak al am an ao ap aq au av aw ax ay az aA aB aC aD aE aF aG aH aI aJ aK aL aM aN aO aP aQ aR aS aT aU aV aW aX aY aZ a6 a7 a8 a9 ba bb bc bd be bg bh bi bj bk bl bm bn bo bp bq br bs bt bu bv bw bx bz bA bB bC bD bE bF bG bH bI bJ bK bL bM bN bO bP bQ bR bS bT bU bV bW bX bY bZ b6 b7 b8 b9 cd ce cf cg ch ci cj ck cm cn cp cq cr cs ct cv cw cx cy cz cA cB cC cD cE cF cG cH cI cJ cK cL cM cN cO cP cQ cR cS cT cU cV cW cX cY cZ c3 c4 c5 c6 c7 c8 c9 da db dc dd de df dg dh di dj dk dl dm dn dp dq dr ds dt du dv dw dx : Value) (W : World)
  (MD : Md wi m p wx sa sb wh cb t7 t8 t9 t10 t11 t12 ga ca gb cc K1 Q1 K2 Q2 a0 a1 a2 a3 a4 a5 b0 b1 b2 b3 b4 b5 W)
  (C6 : Hid (∀ y, Md wi m p wx sa sb wh cb t7 t8 t9 t10 t11 t12 ga ca gb cc K1 Q1 K2 Q2 a0 a1 a2 a3 a4 a5 b0 b1 b2 b3 b4 b5 y → Calls Tryz.prog 18 #[.slice sa.p sa.n sa.c] y fun e w' => LnP A y e w'))
  (C9 : Hid (∀ y, Md wi m p wx sa sb wh cb t7 t8 t9 t10 t11 t12 ga ca gb cc K1 Q1 K2 Q2 a0 a1 a2 a3 a4 a5 b0 b1 b2 b3 b4 b5 y → Calls Tryz.prog 18 #[.slice sb.p sb.n sb.c] y fun e w' => LnP B y e w'))
  (C10 : Hid (∀ y P1 c1 P2 c2, Md wi m p wx sa sb wh cb t7 t8 t9 t10 t11 t12 ga ca gb cc K1 Q1 K2 Q2 a0 a1 a2 a3 a4 a5 b0 b1 b2 b3 b4 b5 y → y.ownsRow 0 116 6 (.slice P1 A.length c1) A.length (tls A) → y.ownsRow 0 116 6 (.slice P2 B.length c2) B.length (tls B) → Calls Tryz.prog 17 #[.pointer (some ⟨p.r, 0, none⟩), .slice P1 A.length c1, .slice P2 B.length c2] y fun e w' => e = .returned (.tuple #[.agg #[.int .i64 k0, .int .i64 k1], .agg #[.int .i64 k2, .int .i64 k3], .agg #[.int .i64 k4, .int .i64 k5], .int .i64 E]) ∧ Md wi m p wx sa sb wh cb t7 t8 t9 t10 t11 t12 ga ca gb cc K1 Q1 K3 Q3 a0 a1 a2 a3 a4 a5 b0 b1 b2 b3 b4 b5 w'))
  (HQ : Hid (∀ (wz : World) (v68 v71 : Value), Md wi m p wx sa sb wh cb t7 t8 t9 t10 t11 t12 ga ca gb cc K1 Q1 K3 Q3 a0 a1 a2 a3 a4 a5 k0 k1 k2 k3 k4 k5 wz → Q .normal ⟨#[.pointer (some ⟨p.b, 0, none⟩), u1, u2, .pointer (some ⟨cb, 0, none⟩), u4, u5, u6, u7, u8, u9, .pointer (some ⟨t10, 0, none⟩), .pointer (some ⟨t11, 0, none⟩), .pointer (some ⟨t12, 0, none⟩), ae, .int .i64 E, ag, ah, ai, aj, ak, al, am, an, ao, ap, aq, au, av, aw, ax, ay, az, aA, aB, aC, aD, aE, aF, aG, aH, aI, aJ, aK, aL, aM, aN, aO, aP, aQ, aR, aS, aT, aU, aV, aW, aX, aY, aZ, a6, a7, a8, .tuple #[.agg #[.int .i64 k0, .int .i64 k1], .agg #[.int .i64 k2, .int .i64 k3], .agg #[.int .i64 k4, .int .i64 k5], .int .i64 E], .pointer (some ⟨p.b, 0, none⟩), .pointer (some ⟨p.b, 0, none⟩), .pointer (some ⟨p.b, 1, none⟩), .pointer (some ⟨p.r, 0, none⟩), .pointer (some ⟨cb, 1, none⟩), .slice sa.p sa.n sa.c, v68, .pointer (some ⟨cb, 2, none⟩), .slice sb.p sb.n sb.c, v71, .tuple #[.agg #[.int .i64 k0, .int .i64 k1], .agg #[.int .i64 k2, .int .i64 k3], .agg #[.int .i64 k4, .int .i64 k5], .int .i64 E], .agg #[.int .i64 k0, .int .i64 k1], .agg #[.int .i64 k2, .int .i64 k3], .agg #[.int .i64 k4, .int .i64 k5], .int .i64 E, bq, br, bs, bt, bu, bv, bw, bx, bz, bA, bB, bC, bD, bE, bF, bG, bH, bI, bJ, bK, bL, bM, bN, bO, bP, bQ, bR, bS, bT, bU, bV, bW, bX, bY, bZ, b6, b7, b8, b9, cd, ce, cf, cg, ch, ci, cj, ck, cm, cn, cp, cq, cr, cs, ct, cv, cw, cx, cy, cz, cA, cB, cC, cD, cE, cF, cG, cH, cI, cJ, cK, cL, cM, cN, cO, cP, cQ, cR, cS, cT, cU, cV, cW, cX, cY, cZ, c3, c4, c5, c6, c7, c8, c9, da, db, dc, dd, de, df, dg, dh, di, dj, dk, dl, dm, dn, dp, dq, dr, ds, dt, du, dv, dw, dx], []⟩ wz)) : (Code.region 11 st11o true).wp Tryz.prog Q ⟨#[.pointer (some ⟨p.b, 0, none⟩), u1, u2, .pointer (some ⟨cb, 0, none⟩), u4, u5, u6, u7, u8, u9, .pointer (some ⟨t10, 0, none⟩), .pointer (some ⟨t11, 0, none⟩), .pointer (some ⟨t12, 0, none⟩), ae, af, ag, ah, ai, aj, ak, al, am, an, ao, ap, aq, au, av, aw, ax, ay, az, aA, aB, aC, aD, aE, aF, aG, aH, aI, aJ, aK, aL, aM, aN, aO, aP, aQ, aR, aS, aT, aU, aV, aW, aX, aY, aZ, a6, a7, a8, a9, ba, bb, bc, bd, be, bg, bh, bi, bj, bk, bl, bm, bn, bo, bp, bq, br, bs, bt, bu, bv, bw, bx, bz, bA, bB, bC, bD, bE, bF, bG, bH, bI, bJ, bK, bL, bM, bN, bO, bP, bQ, bR, bS, bT, bU, bV, bW, bX, bY, bZ, b6, b7, b8, b9, cd, ce, cf, cg, ch, ci, cj, ck, cm, cn, cp, cq, cr, cs, ct, cv, cw, cx, cy, cz, cA, cB, cC, cD, cE, cF, cG, cH, cI, cJ, cK, cL, cM, cN, cO, cP, cQ, cR, cS, cT, cU, cV, cW, cX, cY, cZ, c3, c4, c5, c6, c7, c8, c9, da, db, dc, dd, de, df, dg, dh, di, dj, dk, dl, dm, dn, dp, dq, dr, ds, dt, du, dv, dw, dx], []⟩ W := by
 have MDF := Hn (MD.keep (bl_drew W))
 unfold st11o
 refine wp_region_noPanic ?_
 refine wp_region_held_drew (S := fun x => Pk p.b p.s p.r cb wh sa sb x) (by kernel_rfl) (⟨(MD.keep (bl_drew W)).hb, (MD.keep (bl_drew W)).hcb⟩) (fun hH0 => ?_)
 refine tj 0 st11o_0 (.pointer (some ⟨p.b, 0, none⟩)) hH0 (fun w0 hSw => ?_) ?_
 ·(unfold st11o_0 oO; clear hSw; go_simp)
 simp only [st11o_0, oO, Act.put, sA, sB, sC]
 refine tj 4 st11o_4 (.pointer (some ⟨cb, 1, none⟩)) hH0 (fun w0 hSw => ?_) ?_
 ·(unfold st11o_4 oO; clear hSw; go_simp)
 simp only [st11o_4, oO, Act.put, sA, sB, sC]
 refine tj 7 st11o_7 (.pointer (some ⟨cb, 2, none⟩)) hH0 (fun w0 hSw => ?_) ?_
 ·(unfold st11o_7 oO; clear hSw; go_simp)
 simp only [st11o_7, oO, Act.put, sA, sB, sC]
 refine tj 1 st11o_1 (.pointer (some ⟨p.b, 0, none⟩)) hH0 (fun w0 hSw => ?_) ?_
 ·(unfold st11o_1 oO; clear hSw; go_simp)
 simp only [st11o_1, oO, Act.put, sA, sB, sC]
 refine tj 5 st11o_5 (.slice sa.p sa.n sa.c) hH0 (fun w0 hSw => ?_) ?_
 ·(unfold st11o_5 oO; have hS : Pk p.b p.s p.r cb wh sa sb w0 := hSw; have a0 := cell_of_row _ cb 1 _ _ (0, 0) hS.2; clear hS hSw; go_simp)
 simp only [st11o_5, oO, Act.put, sA, sB, sC]
 refine tj 8 st11o_8 (.slice sb.p sb.n sb.c) hH0 (fun w0 hSw => ?_) ?_
 ·(unfold st11o_8 oO; have hS : Pk p.b p.s p.r cb wh sa sb w0 := hSw; have a0 := cell_of_row _ cb 2 _ _ (0, 0) hS.2; clear hS hSw; go_simp)
 simp only [st11o_8, oO, Act.put, sA, sB, sC]
 refine tj 2 st11o_2 (.pointer (some ⟨p.b, 1, none⟩)) hH0 (fun w0 hSw => ?_) ?_
 ·(unfold st11o_2 oO; clear hSw; go_simp)
 simp only [st11o_2, oO, Act.put, sA, sB, sC]
 refine tj 3 st11o_3 (.pointer (some ⟨p.r, 0, none⟩)) hH0 (fun w0 hSw => ?_) ?_
 ·(unfold st11o_3 oO; have hS : Pk p.b p.s p.r cb wh sa sb w0 := hSw; have a0 := cell_of_row _ p.b 1 _ _ (0, 0) hS.1; clear hS hSw; go_simp)
 simp only [st11o_3, oO, Act.put, sA, sB, sC]
 refine ar [6] ?_
 refine ac st11o_6 (fun K hK => ?_) AllReadyH.nil
 unfold st11o_6 oO
 have HH := Hn hH0
 clear hH0
 go_simp
 refine (C6.out _ MDF.out).mono ?_
 rintro e wn1 ⟨P1, c1, rfl, ho, hb⟩
 have MN := Hn (MDF.out.keep hb)
 replace MDF := Hn (MN.out)
 have SN := Hn ((⟨MN.out.hb, MN.out.hcb⟩ : Pk p.b p.s p.r cb wh sa sb _))
 have OA := Hn (own_monoT ho (Nat.zero_le _))
 clear HH C6 ho hb MN
 go_wp2_with fail
 refine hK.out _ _ SN.out (fun hH1 => ?_)
 clear hK K SN
 refine ar [9] ?_
 refine ac st11o_9 (fun K hK => ?_) AllReadyH.nil
 unfold st11o_9 oO
 have HH := Hn hH1
 clear hH1
 go_simp
 refine (C9.out _ MDF.out).mono ?_
 rintro e wn2 ⟨P2, c2, rfl, ho, hb⟩
 have MN := Hn (MDF.out.keep hb)
 replace MDF := Hn (MN.out)
 have SN := Hn ((⟨MN.out.hb, MN.out.hcb⟩ : Pk p.b p.s p.r cb wh sa sb _))
 replace OA := Hn (own_keepT OA.out hb)
 have OB := Hn (own_monoT ho (Nat.zero_le _))
 clear HH C9 ho hb MN
 go_wp2_with fail
 refine hK.out _ _ SN.out (fun hH2 => ?_)
 clear hK K SN
 refine ar [10] ?_
 refine ac st11o_10 (fun K hK => ?_) AllReadyH.nil
 unfold st11o_10 oO
 have HH := Hn hH2
 clear hH2
 go_simp
 refine (C10.out _ P1 c1 P2 c2 MDF.out OA.out OB.out).mono ?_
 rintro e wn3 ⟨rfl, hm⟩
 replace MDF := Hn (hm)
 have SN := Hn ((⟨hm.hb, hm.hcb⟩ : Pk p.b p.s p.r cb wh sa sb _))
 clear HH C10 OA OB hm
 go_wp2_with fail
 refine hK.out _ _ SN.out (fun hH3 => ?_)
 clear hK K SN
 refine tj 11 st11o_11 (.tuple #[.agg #[.int .i64 k0, .int .i64 k1], .agg #[.int .i64 k2, .int .i64 k3], .agg #[.int .i64 k4, .int .i64 k5], .int .i64 E]) hH3 (fun w0 hSw => ?_) ?_
 ·(unfold st11o_11 oO; clear hSw; go_simp)
 simp only [st11o_11, oO, Act.put, sA, sB, sC]
 refine tj 12 st11o_12 (.agg #[.int .i64 k0, .int .i64 k1]) hH3 (fun w0 hSw => ?_) ?_
 ·(unfold st11o_12 oO; clear hSw; go_simp)
 simp only [st11o_12, oO, Act.put, sA, sB, sC]
 refine tj 13 st11o_13 (.agg #[.int .i64 k2, .int .i64 k3]) hH3 (fun w0 hSw => ?_) ?_
 ·(unfold st11o_13 oO; clear hSw; go_simp)
 simp only [st11o_13, oO, Act.put, sA, sB, sC]
 refine tj 14 st11o_14 (.agg #[.int .i64 k4, .int .i64 k5]) hH3 (fun w0 hSw => ?_) ?_
 ·(unfold st11o_14 oO; clear hSw; go_simp)
 simp only [st11o_14, oO, Act.put, sA, sB, sC]
 refine tj 15 st11o_15 (.int .i64 E) hH3 (fun w0 hSw => ?_) ?_
 ·(unfold st11o_15 oO; clear hSw; go_simp)
 simp only [st11o_15, oO, Act.put, sA, sB, sC]
 refine ar [16] ?_
 refine ac st11o_16 (fun K hK => ?_) AllReadyH.nil
 unfold st11o_16 oN
 have HH := Hn hH3
 clear hH3
 refine wp_storeE 67 _ _ rfl t10 0 ([.int .i64 k0, .int .i64 k1]) (by rfl) (by rfl) MDF.out.th10 i2R (one2 _ _) rfl (fun wn4 hw => ?_)
 replace MDF := Hn (MDF.out.s10 k0 k1)
 have SN := Hn ((⟨MDF.out.hb, MDF.out.hcb⟩ : Pk p.b p.s p.r cb wh sa sb _))
 rw [← hw] at MDF SN
 clear HH hw
 refine hK.out _ _ SN.out (fun hH4 => ?_)
 clear hK K SN
 refine ar [17] ?_
 refine ac st11o_17 (fun K hK => ?_) AllReadyH.nil
 unfold st11o_17 oN
 have HH := Hn hH4
 clear hH4
 refine wp_storeE 67 _ _ rfl t11 0 ([.int .i64 k2, .int .i64 k3]) (by rfl) (by rfl) MDF.out.th11 i2R (one2 _ _) rfl (fun wn5 hw => ?_)
 replace MDF := Hn (MDF.out.s11 k2 k3)
 have SN := Hn ((⟨MDF.out.hb, MDF.out.hcb⟩ : Pk p.b p.s p.r cb wh sa sb _))
 rw [← hw] at MDF SN
 clear HH hw
 refine hK.out _ _ SN.out (fun hH5 => ?_)
 clear hK K SN
 refine ar [18] ?_
 refine ac st11o_18 (fun K hK => ?_) AllReadyH.nil
 unfold st11o_18 oN
 have HH := Hn hH5
 clear hH5
 refine wp_storeE 67 _ _ rfl t12 0 ([.int .i64 k4, .int .i64 k5]) (by rfl) (by rfl) MDF.out.th12 i2R (one2 _ _) rfl (fun wn6 hw => ?_)
 replace MDF := Hn (MDF.out.s12 k4 k5)
 have SN := Hn ((⟨MDF.out.hb, MDF.out.hcb⟩ : Pk p.b p.s p.r cb wh sa sb _))
 rw [← hw] at MDF SN
 clear HH hw
 refine hK.out _ _ SN.out (fun hH6 => ?_)
 clear hK K SN
 refine tj 19 st11o_19 (.int .i64 E) hH6 (fun w0 hSw => ?_) ?_
 ·(unfold st11o_19 oO; clear hSw; go_simp)
 simp only [st11o_19, oO, Act.put, sA, sB, sC]
 have HH := Hn hH6
 have FQ := Hn (HQ.out _ (.slice P1 A.length c1) (.slice P2 B.length c2) MDF.out)
 refine wpAnyH_done (by kernel_rfl) ?_ _
 refine NoPanic.normal ?_
 exact FQ.out
def st14o_0 : Oper := oO 85 (Op.move (Operand.tmp 0)) 28 pEbi3 #[]
def st14o_1 : Oper := oO 86 (Op.nilCheck (Operand.tmp 85)) 0 pEbi3 #[DD 0]
def st14o_2 : Oper := oO 87 (Op.fieldAddr 49 (Operand.tmp 86) 1) 0 pEbi3 #[DD 1]
def st14o_3 : Oper := oO 88 (Op.load 47 (Operand.tmp 87)) 47 pEbi3 #[DD 2]
def st14o_4 : Oper := oO 89 (Op.fieldAddr 65 (Operand.tmp 3) 1) 0 pEbi3 #[]
def st14o_5 : Oper := oO 90 (Op.load 38 (Operand.tmp 89)) 38 pEbi3 #[DD 4]
def st14o_6 : Oper := oO 91 (Op.call { callee := Callee.value (Operand.func 18), args := #[Operand.tmp 90], argTypes := #[38] }) 72 pEbi3 #[DD 5]
def st14o_7 : Oper := oO 92 (Op.call { callee := Callee.value (Operand.func 19), args := #[Operand.tmp 88, Operand.tmp 91], argTypes := #[47, 72] }) 45 pEbi3 #[DD 3, DD 6, CH 6]
def st14o_8 : Oper := oO 14 (Op.assign (Operand.tmp 92)) 45 pEbi3 #[DD 7, CH 7, PH 0, PH 1, PH 2, PH 3, PH 4, PH 5, PH 6, PH 7]
def st14o : Array Oper := #[st14o_0, st14o_1, st14o_2, st14o_3, st14o_4, st14o_5, st14o_6, st14o_7, st14o_8]
theorem st14 (Q : Exit → Act → World → Prop) (wi : World) (m : Nat) (p : Pr) (wx : World) (sa sb : Lf) (wh : Int) (cb t7 t8 t9 t10 t11 t12 ga ca gb cc : Nat) (K1 : Nat) (Q1 : List (List Tm)) (K2 : Nat) (Q2 : List (List Tm)) (a0 a1 a2 a3 a4 a5 b0 b1 b2 b3 b4 b5 : Int) (A : List Tm) (K3 : Nat) (Q3 : List (List Tm)) (E : Int) (u1 u2 u4 u5 u6 u7 u8 u9 aa ab ad ae af ag ah ai aj ak al am an ao ap aq au av aw ax ay az aA aB aC aD aE aF aG aH aI aJ aK aL aM aN aO aP aQ aR aS aT aU aV aW aX aY aZ a6 a7 a8 a9 ba bb bc bd be bg bh bi bj bk bl bm bn bo bp bq br bs bt bu bv bw bx bz bA bB bC bD bE bF bG bH bI bJ bK bL bM bN bO bP bQ bR bS bT bU bV bW bX bY bZ b6 b7 b8 b9 cd ce cf cg ch ci cj ck cm cn cp cq cr cs ct cv cw cx cy cz cA cB cC cD cE cF cG cH cI cJ cK cL cM cN cO cP cQ cR cS cT cU cV cW cX cY cZ c3 c4 c5 c6 c7 c8 c9 da db dc dd de df dg dh di dj dk dl dm dn dp dq dr ds dt du dv dw dx : Value) (W : World)
  (MD : Md wi m p wx sa sb wh cb t7 t8 t9 t10 t11 t12 ga ca gb cc K1 Q1 K2 Q2 a0 a1 a2 a3 a4 a5 b0 b1 b2 b3 b4 b5 W)
  (C6 : Hid (∀ y, Md wi m p wx sa sb wh cb t7 t8 t9 t10 t11 t12 ga ca gb cc K1 Q1 K2 Q2 a0 a1 a2 a3 a4 a5 b0 b1 b2 b3 b4 b5 y → Calls Tryz.prog 18 #[.slice sa.p sa.n sa.c] y fun e w' => LnP A y e w'))
  (C7 : Hid (∀ y P1 c1, Md wi m p wx sa sb wh cb t7 t8 t9 t10 t11 t12 ga ca gb cc K1 Q1 K2 Q2 a0 a1 a2 a3 a4 a5 b0 b1 b2 b3 b4 b5 y → y.ownsRow 0 116 6 (.slice P1 A.length c1) A.length (tls A) → Calls Tryz.prog 19 #[.pointer (some ⟨p.r, 0, none⟩), .slice P1 A.length c1] y fun e w' => e = .returned (.int .i64 E) ∧ Md wi m p wx sa sb wh cb t7 t8 t9 t10 t11 t12 ga ca gb cc K1 Q1 K3 Q3 a0 a1 a2 a3 a4 a5 b0 b1 b2 b3 b4 b5 w'))
  (HQ : Hid (∀ (wz : World) (v91 : Value), Md wi m p wx sa sb wh cb t7 t8 t9 t10 t11 t12 ga ca gb cc K1 Q1 K3 Q3 a0 a1 a2 a3 a4 a5 b0 b1 b2 b3 b4 b5 wz → Q .normal ⟨#[.pointer (some ⟨p.b, 0, none⟩), u1, u2, .pointer (some ⟨cb, 0, none⟩), u4, u5, u6, u7, u8, u9, aa, ab, ad, ae, .int .i64 E, ag, ah, ai, aj, ak, al, am, an, ao, ap, aq, au, av, aw, ax, ay, az, aA, aB, aC, aD, aE, aF, aG, aH, aI, aJ, aK, aL, aM, aN, aO, aP, aQ, aR, aS, aT, aU, aV, aW, aX, aY, aZ, a6, a7, a8, a9, ba, bb, bc, bd, be, bg, bh, bi, bj, bk, bl, bm, bn, bo, bp, bq, br, bs, bt, bu, bv, bw, bx, .pointer (some ⟨p.b, 0, none⟩), .pointer (some ⟨p.b, 0, none⟩), .pointer (some ⟨p.b, 1, none⟩), .pointer (some ⟨p.r, 0, none⟩), .pointer (some ⟨cb, 1, none⟩), .slice sa.p sa.n sa.c, v91, .int .i64 E, bH, bI, bJ, bK, bL, bM, bN, bO, bP, bQ, bR, bS, bT, bU, bV, bW, bX, bY, bZ, b6, b7, b8, b9, cd, ce, cf, cg, ch, ci, cj, ck, cm, cn, cp, cq, cr, cs, ct, cv, cw, cx, cy, cz, cA, cB, cC, cD, cE, cF, cG, cH, cI, cJ, cK, cL, cM, cN, cO, cP, cQ, cR, cS, cT, cU, cV, cW, cX, cY, cZ, c3, c4, c5, c6, c7, c8, c9, da, db, dc, dd, de, df, dg, dh, di, dj, dk, dl, dm, dn, dp, dq, dr, ds, dt, du, dv, dw, dx], []⟩ wz)) : (Code.region 14 st14o true).wp Tryz.prog Q ⟨#[.pointer (some ⟨p.b, 0, none⟩), u1, u2, .pointer (some ⟨cb, 0, none⟩), u4, u5, u6, u7, u8, u9, aa, ab, ad, ae, af, ag, ah, ai, aj, ak, al, am, an, ao, ap, aq, au, av, aw, ax, ay, az, aA, aB, aC, aD, aE, aF, aG, aH, aI, aJ, aK, aL, aM, aN, aO, aP, aQ, aR, aS, aT, aU, aV, aW, aX, aY, aZ, a6, a7, a8, a9, ba, bb, bc, bd, be, bg, bh, bi, bj, bk, bl, bm, bn, bo, bp, bq, br, bs, bt, bu, bv, bw, bx, bz, bA, bB, bC, bD, bE, bF, bG, bH, bI, bJ, bK, bL, bM, bN, bO, bP, bQ, bR, bS, bT, bU, bV, bW, bX, bY, bZ, b6, b7, b8, b9, cd, ce, cf, cg, ch, ci, cj, ck, cm, cn, cp, cq, cr, cs, ct, cv, cw, cx, cy, cz, cA, cB, cC, cD, cE, cF, cG, cH, cI, cJ, cK, cL, cM, cN, cO, cP, cQ, cR, cS, cT, cU, cV, cW, cX, cY, cZ, c3, c4, c5, c6, c7, c8, c9, da, db, dc, dd, de, df, dg, dh, di, dj, dk, dl, dm, dn, dp, dq, dr, ds, dt, du, dv, dw, dx], []⟩ W := by
 have MDF := Hn (MD.keep (bl_drew W))
 unfold st14o
 refine wp_region_noPanic ?_
 refine wp_region_held_drew (S := fun x => Pk p.b p.s p.r cb wh sa sb x) (by kernel_rfl) (⟨(MD.keep (bl_drew W)).hb, (MD.keep (bl_drew W)).hcb⟩) (fun hH0 => ?_)
 refine tj 0 st14o_0 (.pointer (some ⟨p.b, 0, none⟩)) hH0 (fun w0 hSw => ?_) ?_
 ·(unfold st14o_0 oO; clear hSw; go_simp)
 simp only [st14o_0, oO, Act.put, sA, sB, sC]
 refine tj 4 st14o_4 (.pointer (some ⟨cb, 1, none⟩)) hH0 (fun w0 hSw => ?_) ?_
 ·(unfold st14o_4 oO; clear hSw; go_simp)
 simp only [st14o_4, oO, Act.put, sA, sB, sC]
 refine tj 1 st14o_1 (.pointer (some ⟨p.b, 0, none⟩)) hH0 (fun w0 hSw => ?_) ?_
 ·(unfold st14o_1 oO; clear hSw; go_simp)
 simp only [st14o_1, oO, Act.put, sA, sB, sC]
 refine tj 5 st14o_5 (.slice sa.p sa.n sa.c) hH0 (fun w0 hSw => ?_) ?_
 ·(unfold st14o_5 oO; have hS : Pk p.b p.s p.r cb wh sa sb w0 := hSw; have a0 := cell_of_row _ cb 1 _ _ (0, 0) hS.2; clear hS hSw; go_simp)
 simp only [st14o_5, oO, Act.put, sA, sB, sC]
 refine tj 2 st14o_2 (.pointer (some ⟨p.b, 1, none⟩)) hH0 (fun w0 hSw => ?_) ?_
 ·(unfold st14o_2 oO; clear hSw; go_simp)
 simp only [st14o_2, oO, Act.put, sA, sB, sC]
 refine tj 3 st14o_3 (.pointer (some ⟨p.r, 0, none⟩)) hH0 (fun w0 hSw => ?_) ?_
 ·(unfold st14o_3 oO; have hS : Pk p.b p.s p.r cb wh sa sb w0 := hSw; have a0 := cell_of_row _ p.b 1 _ _ (0, 0) hS.1; clear hS hSw; go_simp)
 simp only [st14o_3, oO, Act.put, sA, sB, sC]
 refine ar [6] ?_
 refine ac st14o_6 (fun K hK => ?_) AllReadyH.nil
 unfold st14o_6 oO
 have HH := Hn hH0
 clear hH0
 go_simp
 refine (C6.out _ MDF.out).mono ?_
 rintro e wn1 ⟨P1, c1, rfl, ho, hb⟩
 have MN := Hn (MDF.out.keep hb)
 replace MDF := Hn (MN.out)
 have SN := Hn ((⟨MN.out.hb, MN.out.hcb⟩ : Pk p.b p.s p.r cb wh sa sb _))
 have OA := Hn (own_monoT ho (Nat.zero_le _))
 clear HH C6 ho hb MN
 go_wp2_with fail
 refine hK.out _ _ SN.out (fun hH1 => ?_)
 clear hK K SN
 refine ar [7] ?_
 refine ac st14o_7 (fun K hK => ?_) AllReadyH.nil
 unfold st14o_7 oO
 have HH := Hn hH1
 clear hH1
 go_simp
 refine (C7.out _ P1 c1 MDF.out OA.out).mono ?_
 rintro e wn2 ⟨rfl, hm⟩
 replace MDF := Hn (hm)
 have SN := Hn ((⟨hm.hb, hm.hcb⟩ : Pk p.b p.s p.r cb wh sa sb _))
 clear HH C7 OA hm
 go_wp2_with fail
 refine hK.out _ _ SN.out (fun hH2 => ?_)
 clear hK K SN
 refine tj 8 st14o_8 (.int .i64 E) hH2 (fun w0 hSw => ?_) ?_
 ·(unfold st14o_8 oO; clear hSw; go_simp)
 simp only [st14o_8, oO, Act.put, sA, sB, sC]
 have HH := Hn hH2
 have FQ := Hn (HQ.out _ (.slice P1 A.length c1) MDF.out)
 refine wpAnyH_done (by kernel_rfl) ?_ _
 refine NoPanic.normal ?_
 exact FQ.out
def st15o_0 : Oper := oO 93 (Op.move (Operand.tmp 13)) 45 pEbi2 #[]
def st15o_1 : Oper := oO 94 (Op.move (Operand.tmp 14)) 45 pEbi2 #[]
def st15o_2 : Oper := oO 95 (Op.binOp BinOp.neq 45 (Operand.tmp 93) (Operand.tmp 94) 45) 4 pEbi2 #[DD 0, DD 1]
def st15o_3 : Oper := oO 96 (Op.move (Operand.tmp 95)) 4 pEbi2 #[DD 2]
def st15o_4 : Oper := { dst := some 97, op := Op.load 79 (Operand.tmp 7), type := 79, pos := "law.go:141", after := #[GU 3], guard := some (3, false) }
def st15o_5 : Oper := { dst := some 98, op := Op.call { callee := Callee.value (Operand.func 78), args := #[Operand.tmp 97], argTypes := #[79] }, type := 67, pos := "law.go:141", after := #[DD 4, CH 3, GU 3], guard := some (3, false) }
def st15o_6 : Oper := { dst := some 99, op := Op.load 67 (Operand.tmp 10), type := 67, pos := "law.go:141", after := #[GU 3], guard := some (3, false) }
def st15o_7 : Oper := { dst := some 100, op := Op.binOp BinOp.neq 67 (Operand.tmp 98) (Operand.tmp 99) 67, type := 4, pos := "law.go:141", after := #[DD 5, DD 6, GU 3], guard := some (3, false) }
def st15o_8 : Oper := oO 101 (Op.pick (Operand.tmp 96) (Operand.const (Value.bool true)) (Operand.tmp 100)) 4 pEbi2 #[DD 3, DD 7]
def st15o_9 : Oper := oO 102 (Op.move (Operand.tmp 101)) 4 pEbi2 #[DD 8, CH 5]
def st15o_10 : Oper := { dst := some 103, op := Op.load 79 (Operand.tmp 8), type := 79, pos := "law.go:141", after := #[GU 9], guard := some (9, false) }
def st15o_11 : Oper := { dst := some 104, op := Op.call { callee := Callee.value (Operand.func 78), args := #[Operand.tmp 103], argTypes := #[79] }, type := 67, pos := "law.go:141", after := #[DD 10, CH 9, GU 9], guard := some (9, false) }
def st15o_12 : Oper := { dst := some 105, op := Op.load 67 (Operand.tmp 11), type := 67, pos := "law.go:141", after := #[GU 9], guard := some (9, false) }
def st15o_13 : Oper := { dst := some 106, op := Op.binOp BinOp.neq 67 (Operand.tmp 104) (Operand.tmp 105) 67, type := 4, pos := "law.go:141", after := #[DD 11, DD 12, GU 9], guard := some (9, false) }
def st15o_14 : Oper := oO 107 (Op.pick (Operand.tmp 102) (Operand.const (Value.bool true)) (Operand.tmp 106)) 4 pEbi2 #[DD 9, DD 13]
def st15o_15 : Oper := oO 108 (Op.move (Operand.tmp 107)) 4 pEbi2 #[DD 14, CH 11]
def st15o_16 : Oper := { dst := some 109, op := Op.load 79 (Operand.tmp 9), type := 79, pos := "law.go:141", after := #[GU 15], guard := some (15, false) }
def st15o_17 : Oper := { dst := some 110, op := Op.call { callee := Callee.value (Operand.func 78), args := #[Operand.tmp 109], argTypes := #[79] }, type := 67, pos := "law.go:141", after := #[DD 16, CH 15, GU 15], guard := some (15, false) }
def st15o_18 : Oper := { dst := some 111, op := Op.load 67 (Operand.tmp 12), type := 67, pos := "law.go:141", after := #[GU 15], guard := some (15, false) }
def st15o_19 : Oper := { dst := some 112, op := Op.binOp BinOp.neq 67 (Operand.tmp 110) (Operand.tmp 111) 67, type := 4, pos := "law.go:141", after := #[DD 17, DD 18, GU 15], guard := some (15, false) }
def st15o_20 : Oper := oO 113 (Op.pick (Operand.tmp 108) (Operand.const (Value.bool true)) (Operand.tmp 112)) 4 pEbi2 #[DD 15, DD 19]
def st15o_21 : Oper := oO 114 (Op.move (Operand.tmp 113)) 4 pEbi2 #[DD 20, CH 17]
def st15o_22 : Oper := { dst := some 115, op := Op.move (Operand.tmp 5), type := 38, pos := "law.go:141", after := #[GU 21], guard := some (21, false) }
def st15o_23 : Oper := { dst := some 116, op := Op.fieldAddr 65 (Operand.tmp 3) 1, type := 0, pos := "law.go:141", after := #[GU 21], guard := some (21, false) }
def st15o_24 : Oper := { dst := some 117, op := Op.load 38 (Operand.tmp 116), type := 38, pos := "law.go:141", after := #[DD 23, GU 21], guard := some (21, false) }
def st15o_25 : Oper := { dst := some 118, op := Op.call { callee := Callee.value (Operand.func 42), args := #[Operand.tmp 115, Operand.tmp 117], argTypes := #[38, 38] }, type := 4, pos := "law.go:141", after := #[DD 22, DD 24, CH 21, GU 21], guard := some (21, false) }
def st15o_26 : Oper := { dst := some 119, op := Op.unOp UnOp.not 4 (Operand.tmp 118), type := 4, pos := "law.go:141", after := #[DD 25, GU 21], guard := some (21, false) }
def st15o_27 : Oper := oO 120 (Op.pick (Operand.tmp 114) (Operand.const (Value.bool true)) (Operand.tmp 119)) 4 pEbi2 #[DD 21, DD 26]
def st15o_28 : Oper := oO 121 (Op.move (Operand.tmp 120)) 4 pEbi2 #[DD 27, CH 25]
def st15o_29 : Oper := { dst := some 122, op := Op.move (Operand.tmp 6), type := 38, pos := "law.go:141", after := #[GU 28], guard := some (28, false) }
def st15o_30 : Oper := { dst := some 123, op := Op.fieldAddr 65 (Operand.tmp 3) 2, type := 0, pos := "law.go:141", after := #[GU 28], guard := some (28, false) }
def st15o_31 : Oper := { dst := some 124, op := Op.load 38 (Operand.tmp 123), type := 38, pos := "law.go:141", after := #[DD 30, GU 28], guard := some (28, false) }
def st15o_32 : Oper := { dst := some 125, op := Op.call { callee := Callee.value (Operand.func 42), args := #[Operand.tmp 122, Operand.tmp 124], argTypes := #[38, 38] }, type := 4, pos := "law.go:141", after := #[DD 29, DD 31, CH 28, GU 28], guard := some (28, false) }
def st15o_33 : Oper := { dst := some 126, op := Op.unOp UnOp.not 4 (Operand.tmp 125), type := 4, pos := "law.go:141", after := #[DD 32, GU 28], guard := some (28, false) }
def st15o_34 : Oper := oO 127 (Op.pick (Operand.tmp 121) (Operand.const (Value.bool true)) (Operand.tmp 126)) 4 pEbi2 #[DD 28, DD 33]
def st15o : Array Oper := #[st15o_0, st15o_1, st15o_2, st15o_3, st15o_4, st15o_5, st15o_6, st15o_7, st15o_8, st15o_9, st15o_10, st15o_11, st15o_12, st15o_13, st15o_14, st15o_15, st15o_16, st15o_17, st15o_18, st15o_19, st15o_20, st15o_21, st15o_22, st15o_23, st15o_24, st15o_25, st15o_26, st15o_27, st15o_28, st15o_29, st15o_30, st15o_31, st15o_32, st15o_33, st15o_34]
theorem st15 (Q : Exit → Act → World → Prop) (wi : World) (m : Nat) (p : Pr) (wx : World) (sa sb : Lf) (wh : Int) (cb t7 t8 t9 t10 t11 t12 ga ca gb cc : Nat) (K1 : Nat) (Q1 : List (List Tm)) (K2 : Nat) (Q2 : List (List Tm)) (a0 a1 a2 a3 a4 a5 : Int) (E : Int) (u0 u1 u2 u4 ag ah ai aj ak al am an ao ap aq au av aw ax ay az aA aB aC aD aE aF aG aH aI aJ aK aL aM aN aO aP aQ aR aS aT aU aV aW aX aY aZ a6 a7 a8 a9 ba bb bc bd be bg bh bi bj bk bl bm bn bo bp bq br bs bt bu bv bw bx bz bA bB bC bD bE bF bG bH bI bJ bK bL bM bN bO bP bQ bR bS bT bU bV bW bX bY bZ b6 b7 b8 b9 cd ce cf cg ch ci cj ck cm cn cp cq cr cs ct cv cw cx cy cz cA cB cC cD cE cF cG cH cI cJ cK cL cM cN cO cP cQ cR cS cT cU cV cW cX cY cZ c3 c4 c5 c6 c7 c8 c9 da db dc dd de df dg dh di dj dk dl dm dn dp dq dr ds dt du dv dw dx : Value) (W : World)
  (MD : Md wi m p wx sa sb wh cb t7 t8 t9 t10 t11 t12 ga ca gb cc K1 Q1 K2 Q2 a0 a1 a2 a3 a4 a5 a0 a1 a2 a3 a4 a5 W)
  (C25 : Hid (∀ y, Md wi m p wx sa sb wh cb t7 t8 t9 t10 t11 t12 ga ca gb cc K1 Q1 K2 Q2 a0 a1 a2 a3 a4 a5 a0 a1 a2 a3 a4 a5 y → Calls Tryz.prog 42 #[.slice (some ⟨ga, 0, none⟩) sa.n ca, .slice sa.p sa.n sa.c] y fun e w' => e = .returned (.bool true) ∧ Below y.heap.size y w'))
  (C32 : Hid (∀ y, Md wi m p wx sa sb wh cb t7 t8 t9 t10 t11 t12 ga ca gb cc K1 Q1 K2 Q2 a0 a1 a2 a3 a4 a5 a0 a1 a2 a3 a4 a5 y → Calls Tryz.prog 42 #[.slice (some ⟨gb, 0, none⟩) sb.n cc, .slice sb.p sb.n sb.c] y fun e w' => e = .returned (.bool true) ∧ Below y.heap.size y w'))
  (HQ : Hid (∀ (wz : World), Md wi m p wx sa sb wh cb t7 t8 t9 t10 t11 t12 ga ca gb cc K1 Q1 K2 Q2 a0 a1 a2 a3 a4 a5 a0 a1 a2 a3 a4 a5 wz → Q .normal ⟨#[u0, u1, u2, .pointer (some ⟨cb, 0, none⟩), u4, .slice (some ⟨ga, 0, none⟩) sa.n ca, .slice (some ⟨gb, 0, none⟩) sb.n cc, .pointer (some ⟨t7, 0, none⟩), .pointer (some ⟨t8, 0, none⟩), .pointer (some ⟨t9, 0, none⟩), .pointer (some ⟨t10, 0, none⟩), .pointer (some ⟨t11, 0, none⟩), .pointer (some ⟨t12, 0, none⟩), .int .i64 E, .int .i64 E, ag, ah, ai, aj, ak, al, am, an, ao, ap, aq, au, av, aw, ax, ay, az, aA, aB, aC, aD, aE, aF, aG, aH, aI, aJ, aK, aL, aM, aN, aO, aP, aQ, aR, aS, aT, aU, aV, aW, aX, aY, aZ, a6, a7, a8, a9, ba, bb, bc, bd, be, bg, bh, bi, bj, bk, bl, bm, bn, bo, bp, bq, br, bs, bt, bu, bv, bw, bx, bz, bA, bB, bC, bD, bE, bF, bG, .int .i64 E, .int .i64 E, .bool false, .bool false, .agg #[.int .i64 a0, .int .i64 a1], .agg #[.int .i64 a0, .int .i64 a1], .agg #[.int .i64 a0, .int .i64 a1], .bool false, .bool false, .bool false, .agg #[.int .i64 a2, .int .i64 a3], .agg #[.int .i64 a2, .int .i64 a3], .agg #[.int .i64 a2, .int .i64 a3], .bool false, .bool false, .bool false, .agg #[.int .i64 a4, .int .i64 a5], .agg #[.int .i64 a4, .int .i64 a5], .agg #[.int .i64 a4, .int .i64 a5], .bool false, .bool false, .bool false, .slice (some ⟨ga, 0, none⟩) sa.n ca, .pointer (some ⟨cb, 1, none⟩), .slice sa.p sa.n sa.c, .bool true, .bool false, .bool false, .bool false, .slice (some ⟨gb, 0, none⟩) sb.n cc, .pointer (some ⟨cb, 2, none⟩), .slice sb.p sb.n sb.c, .bool true, .bool false, .bool false, cr, cs, ct, cv, cw, cx, cy, cz, cA, cB, cC, cD, cE, cF, cG, cH, cI, cJ, cK, cL, cM, cN, cO, cP, cQ, cR, cS, cT, cU, cV, cW, cX, cY, cZ, c3, c4, c5, c6, c7, c8, c9, da, db, dc, dd, de, df, dg, dh, di, dj, dk, dl, dm, dn, dp, dq, dr, ds, dt, du, dv, dw, dx], []⟩ wz)) : (Code.region 15 st15o true).wp Tryz.prog Q ⟨#[u0, u1, u2, .pointer (some ⟨cb, 0, none⟩), u4, .slice (some ⟨ga, 0, none⟩) sa.n ca, .slice (some ⟨gb, 0, none⟩) sb.n cc, .pointer (some ⟨t7, 0, none⟩), .pointer (some ⟨t8, 0, none⟩), .pointer (some ⟨t9, 0, none⟩), .pointer (some ⟨t10, 0, none⟩), .pointer (some ⟨t11, 0, none⟩), .pointer (some ⟨t12, 0, none⟩), .int .i64 E, .int .i64 E, ag, ah, ai, aj, ak, al, am, an, ao, ap, aq, au, av, aw, ax, ay, az, aA, aB, aC, aD, aE, aF, aG, aH, aI, aJ, aK, aL, aM, aN, aO, aP, aQ, aR, aS, aT, aU, aV, aW, aX, aY, aZ, a6, a7, a8, a9, ba, bb, bc, bd, be, bg, bh, bi, bj, bk, bl, bm, bn, bo, bp, bq, br, bs, bt, bu, bv, bw, bx, bz, bA, bB, bC, bD, bE, bF, bG, bH, bI, bJ, bK, bL, bM, bN, bO, bP, bQ, bR, bS, bT, bU, bV, bW, bX, bY, bZ, b6, b7, b8, b9, cd, ce, cf, cg, ch, ci, cj, ck, cm, cn, cp, cq, cr, cs, ct, cv, cw, cx, cy, cz, cA, cB, cC, cD, cE, cF, cG, cH, cI, cJ, cK, cL, cM, cN, cO, cP, cQ, cR, cS, cT, cU, cV, cW, cX, cY, cZ, c3, c4, c5, c6, c7, c8, c9, da, db, dc, dd, de, df, dg, dh, di, dj, dk, dl, dm, dn, dp, dq, dr, ds, dt, du, dv, dw, dx], []⟩ W := by
 unfold st15o
 refine wp_region_noPanic ?_
 refine wp_region_held_drew (S := fun x => Md wi m p wx sa sb wh cb t7 t8 t9 t10 t11 t12 ga ca gb cc K1 Q1 K2 Q2 a0 a1 a2 a3 a4 a5 a0 a1 a2 a3 a4 a5 x) (by kernel_rfl) (MD.keep (bl_drew W)) (fun hH0 => ?_)
 refine tj 0 st15o_0 (.int .i64 E) hH0 (fun w0 hSw => ?_) ?_
 ·(unfold st15o_0 oO; clear hSw; go_simp)
 simp only [st15o_0, oO, Act.put, sA, sB, sC]
 refine tj 1 st15o_1 (.int .i64 E) hH0 (fun w0 hSw => ?_) ?_
 ·(unfold st15o_1 oO; clear hSw; go_simp)
 simp only [st15o_1, oO, Act.put, sA, sB, sC]
 refine tj 2 st15o_2 (.bool false) hH0 (fun w0 hSw => ?_) ?_
 ·(unfold st15o_2 oO; clear hSw; go_simp)
 simp only [st15o_2, oO, Act.put, sA, sB, sC]
 refine tj 3 st15o_3 (.bool false) hH0 (fun w0 hSw => ?_) ?_
 ·(unfold st15o_3 oO; clear hSw; go_simp)
 simp only [st15o_3, oO, Act.put, sA, sB, sC]
 refine tj 4 st15o_4 (.agg #[.int .i64 a0, .int .i64 a1]) hH0 (fun w0 hSw => ?_) ?_
 ·(unfold st15o_4; have hS : Md wi m p wx sa sb wh cb t7 t8 t9 t10 t11 t12 ga ca gb cc K1 Q1 K2 Q2 a0 a1 a2 a3 a4 a5 a0 a1 a2 a3 a4 a5 w0 := hSw; have a0 := cell_of_row _ t7 0 _ _ (0, 0) hS.w7; have a1 := cell_of_row _ t7 1 _ _ (0, 0) hS.w7; clear hS hSw; go_simp)
 simp only [st15o_4, Act.put, sA, sB, sC]
 refine tj 6 st15o_6 (.agg #[.int .i64 a0, .int .i64 a1]) hH0 (fun w0 hSw => ?_) ?_
 ·(unfold st15o_6; have hS : Md wi m p wx sa sb wh cb t7 t8 t9 t10 t11 t12 ga ca gb cc K1 Q1 K2 Q2 a0 a1 a2 a3 a4 a5 a0 a1 a2 a3 a4 a5 w0 := hSw; have a0 := cell_of_row _ t10 0 _ _ (0, 0) hS.w10; have a1 := cell_of_row _ t10 1 _ _ (0, 0) hS.w10; clear hS hSw; go_simp)
 simp only [st15o_6, Act.put, sA, sB, sC]
 refine ar [5] ?_
 refine ac st15o_5 (fun K hK => ?_) AllReadyH.nil
 unfold st15o_5
 have HH := Hn hH0
 clear hH0
 go_simp
 refine (wire19_any (a0, a1) _).mono ?_
 rintro e wn1 ⟨rfl, hb⟩
 have SN := Hn (HH.out.keep hb)
 clear HH hb
 go_wp2_with fail
 refine hK.out _ _ SN.out (fun hH1 => ?_)
 clear hK K SN
 refine tj 7 st15o_7 (.bool false) hH1 (fun w0 hSw => ?_) ?_
 ·(unfold st15o_7; have e := eqR (a0, a1) (a0, a1) w0; clear hSw; simp only [wv, decide_true] at e; go_simp)
 simp only [st15o_7, Act.put, sA, sB, sC]
 refine tj 8 st15o_8 (.bool false) hH1 (fun w0 hSw => ?_) ?_
 ·(unfold st15o_8 oO; clear hSw; go_simp)
 simp only [st15o_8, oO, Act.put, sA, sB, sC]
 refine tj 9 st15o_9 (.bool false) hH1 (fun w0 hSw => ?_) ?_
 ·(unfold st15o_9 oO; clear hSw; go_simp)
 simp only [st15o_9, oO, Act.put, sA, sB, sC]
 refine tj 10 st15o_10 (.agg #[.int .i64 a2, .int .i64 a3]) hH1 (fun w0 hSw => ?_) ?_
 ·(unfold st15o_10; have hS : Md wi m p wx sa sb wh cb t7 t8 t9 t10 t11 t12 ga ca gb cc K1 Q1 K2 Q2 a0 a1 a2 a3 a4 a5 a0 a1 a2 a3 a4 a5 w0 := hSw; have a0 := cell_of_row _ t8 0 _ _ (0, 0) hS.w8; have a1 := cell_of_row _ t8 1 _ _ (0, 0) hS.w8; clear hS hSw; go_simp)
 simp only [st15o_10, Act.put, sA, sB, sC]
 refine tj 12 st15o_12 (.agg #[.int .i64 a2, .int .i64 a3]) hH1 (fun w0 hSw => ?_) ?_
 ·(unfold st15o_12; have hS : Md wi m p wx sa sb wh cb t7 t8 t9 t10 t11 t12 ga ca gb cc K1 Q1 K2 Q2 a0 a1 a2 a3 a4 a5 a0 a1 a2 a3 a4 a5 w0 := hSw; have a0 := cell_of_row _ t11 0 _ _ (0, 0) hS.w11; have a1 := cell_of_row _ t11 1 _ _ (0, 0) hS.w11; clear hS hSw; go_simp)
 simp only [st15o_12, Act.put, sA, sB, sC]
 refine ar [11] ?_
 refine ac st15o_11 (fun K hK => ?_) AllReadyH.nil
 unfold st15o_11
 have HH := Hn hH1
 clear hH1
 go_simp
 refine (wire19_any (a2, a3) _).mono ?_
 rintro e wn2 ⟨rfl, hb⟩
 have SN := Hn (HH.out.keep hb)
 clear HH hb
 go_wp2_with fail
 refine hK.out _ _ SN.out (fun hH2 => ?_)
 clear hK K SN
 refine tj 13 st15o_13 (.bool false) hH2 (fun w0 hSw => ?_) ?_
 ·(unfold st15o_13; have e := eqR (a2, a3) (a2, a3) w0; clear hSw; simp only [wv, decide_true] at e; go_simp)
 simp only [st15o_13, Act.put, sA, sB, sC]
 refine tj 14 st15o_14 (.bool false) hH2 (fun w0 hSw => ?_) ?_
 ·(unfold st15o_14 oO; clear hSw; go_simp)
 simp only [st15o_14, oO, Act.put, sA, sB, sC]
 refine tj 15 st15o_15 (.bool false) hH2 (fun w0 hSw => ?_) ?_
 ·(unfold st15o_15 oO; clear hSw; go_simp)
 simp only [st15o_15, oO, Act.put, sA, sB, sC]
 refine tj 16 st15o_16 (.agg #[.int .i64 a4, .int .i64 a5]) hH2 (fun w0 hSw => ?_) ?_
 ·(unfold st15o_16; have hS : Md wi m p wx sa sb wh cb t7 t8 t9 t10 t11 t12 ga ca gb cc K1 Q1 K2 Q2 a0 a1 a2 a3 a4 a5 a0 a1 a2 a3 a4 a5 w0 := hSw; have a0 := cell_of_row _ t9 0 _ _ (0, 0) hS.w9; have a1 := cell_of_row _ t9 1 _ _ (0, 0) hS.w9; clear hS hSw; go_simp)
 simp only [st15o_16, Act.put, sA, sB, sC]
 refine tj 18 st15o_18 (.agg #[.int .i64 a4, .int .i64 a5]) hH2 (fun w0 hSw => ?_) ?_
 ·(unfold st15o_18; have hS : Md wi m p wx sa sb wh cb t7 t8 t9 t10 t11 t12 ga ca gb cc K1 Q1 K2 Q2 a0 a1 a2 a3 a4 a5 a0 a1 a2 a3 a4 a5 w0 := hSw; have a0 := cell_of_row _ t12 0 _ _ (0, 0) hS.w12; have a1 := cell_of_row _ t12 1 _ _ (0, 0) hS.w12; clear hS hSw; go_simp)
 simp only [st15o_18, Act.put, sA, sB, sC]
 refine ar [17] ?_
 refine ac st15o_17 (fun K hK => ?_) AllReadyH.nil
 unfold st15o_17
 have HH := Hn hH2
 clear hH2
 go_simp
 refine (wire19_any (a4, a5) _).mono ?_
 rintro e wn3 ⟨rfl, hb⟩
 have SN := Hn (HH.out.keep hb)
 clear HH hb
 go_wp2_with fail
 refine hK.out _ _ SN.out (fun hH3 => ?_)
 clear hK K SN
 refine tj 19 st15o_19 (.bool false) hH3 (fun w0 hSw => ?_) ?_
 ·(unfold st15o_19; have e := eqR (a4, a5) (a4, a5) w0; clear hSw; simp only [wv, decide_true] at e; go_simp)
 simp only [st15o_19, Act.put, sA, sB, sC]
 refine tj 20 st15o_20 (.bool false) hH3 (fun w0 hSw => ?_) ?_
 ·(unfold st15o_20 oO; clear hSw; go_simp)
 simp only [st15o_20, oO, Act.put, sA, sB, sC]
 refine tj 21 st15o_21 (.bool false) hH3 (fun w0 hSw => ?_) ?_
 ·(unfold st15o_21 oO; clear hSw; go_simp)
 simp only [st15o_21, oO, Act.put, sA, sB, sC]
 refine tj 22 st15o_22 (.slice (some ⟨ga, 0, none⟩) sa.n ca) hH3 (fun w0 hSw => ?_) ?_
 ·(unfold st15o_22; clear hSw; go_simp)
 simp only [st15o_22, Act.put, sA, sB, sC]
 refine tj 23 st15o_23 (.pointer (some ⟨cb, 1, none⟩)) hH3 (fun w0 hSw => ?_) ?_
 ·(unfold st15o_23; clear hSw; go_simp)
 simp only [st15o_23, Act.put, sA, sB, sC]
 refine tj 24 st15o_24 (.slice sa.p sa.n sa.c) hH3 (fun w0 hSw => ?_) ?_
 ·(unfold st15o_24; have hS : Md wi m p wx sa sb wh cb t7 t8 t9 t10 t11 t12 ga ca gb cc K1 Q1 K2 Q2 a0 a1 a2 a3 a4 a5 a0 a1 a2 a3 a4 a5 w0 := hSw; have a0 := cell_of_row _ cb 1 _ _ (0, 0) hS.hcb; clear hS hSw; go_simp)
 simp only [st15o_24, Act.put, sA, sB, sC]
 refine ar [25] ?_
 refine ac st15o_25 (fun K hK => ?_) AllReadyH.nil
 unfold st15o_25
 have HH := Hn hH3
 clear hH3
 go_simp
 refine (C25.out _ HH.out).mono ?_
 rintro e wn4 ⟨rfl, hb⟩
 have SN := Hn (HH.out.keep hb)
 clear HH C25 hb
 go_wp2_with fail
 refine hK.out _ _ SN.out (fun hH4 => ?_)
 clear hK K SN
 refine tj 26 st15o_26 (.bool false) hH4 (fun w0 hSw => ?_) ?_
 ·(unfold st15o_26; clear hSw; go_simp)
 simp only [st15o_26, Act.put, sA, sB, sC]
 refine tj 27 st15o_27 (.bool false) hH4 (fun w0 hSw => ?_) ?_
 ·(unfold st15o_27 oO; clear hSw; go_simp)
 simp only [st15o_27, oO, Act.put, sA, sB, sC]
 refine tj 28 st15o_28 (.bool false) hH4 (fun w0 hSw => ?_) ?_
 ·(unfold st15o_28 oO; clear hSw; go_simp)
 simp only [st15o_28, oO, Act.put, sA, sB, sC]
 refine tj 29 st15o_29 (.slice (some ⟨gb, 0, none⟩) sb.n cc) hH4 (fun w0 hSw => ?_) ?_
 ·(unfold st15o_29; clear hSw; go_simp)
 simp only [st15o_29, Act.put, sA, sB, sC]
 refine tj 30 st15o_30 (.pointer (some ⟨cb, 2, none⟩)) hH4 (fun w0 hSw => ?_) ?_
 ·(unfold st15o_30; clear hSw; go_simp)
 simp only [st15o_30, Act.put, sA, sB, sC]
 refine tj 31 st15o_31 (.slice sb.p sb.n sb.c) hH4 (fun w0 hSw => ?_) ?_
 ·(unfold st15o_31; have hS : Md wi m p wx sa sb wh cb t7 t8 t9 t10 t11 t12 ga ca gb cc K1 Q1 K2 Q2 a0 a1 a2 a3 a4 a5 a0 a1 a2 a3 a4 a5 w0 := hSw; have a0 := cell_of_row _ cb 2 _ _ (0, 0) hS.hcb; clear hS hSw; go_simp)
 simp only [st15o_31, Act.put, sA, sB, sC]
 refine ar [32] ?_
 refine ac st15o_32 (fun K hK => ?_) AllReadyH.nil
 unfold st15o_32
 have HH := Hn hH4
 clear hH4
 go_simp
 refine (C32.out _ HH.out).mono ?_
 rintro e wn5 ⟨rfl, hb⟩
 have SN := Hn (HH.out.keep hb)
 clear HH C32 hb
 go_wp2_with fail
 refine hK.out _ _ SN.out (fun hH5 => ?_)
 clear hK K SN
 refine tj 33 st15o_33 (.bool false) hH5 (fun w0 hSw => ?_) ?_
 ·(unfold st15o_33; clear hSw; go_simp)
 simp only [st15o_33, Act.put, sA, sB, sC]
 refine tj 34 st15o_34 (.bool false) hH5 (fun w0 hSw => ?_) ?_
 ·(unfold st15o_34 oO; clear hSw; go_simp)
 simp only [st15o_34, oO, Act.put, sA, sB, sC]
 have HH := Hn hH5
 have FQ := Hn (HQ.out _ HH.out)
 refine wpAnyH_done (by kernel_rfl) ?_ _
 refine NoPanic.normal ?_
 exact FQ.out
def st25o_0 : Oper := oO 148 (Op.move (Operand.tmp 0)) 28 pEbi1 #[]
def st25o_1 : Oper := oO 149 (Op.nilCheck (Operand.tmp 148)) 0 pEbi1 #[DD 0]
def st25o_2 : Oper := oO 150 (Op.fieldAddr 49 (Operand.tmp 149) 0) 0 pEbi1 #[DD 1]
def st25o_3 : Oper := oO 151 (Op.load 23 (Operand.tmp 150)) 23 pEbi1 #[DD 2]
def st25o_4 : Oper := oO 152 (Op.call { callee := Callee.value (Operand.func 29), args := #[Operand.tmp 151], argTypes := #[23] }) 3 pEbi1 #[DD 3]
def st25o_5 : Oper := oO 153 (Op.move (Operand.tmp 0)) 28 pEbi1 #[]
def st25o_6 : Oper := oO 154 (Op.nilCheck (Operand.tmp 153)) 0 pEbi1 #[DD 5]
def st25o_7 : Oper := oO 155 (Op.fieldAddr 49 (Operand.tmp 154) 1) 0 pEbi1 #[DD 6]
def st25o_8 : Oper := oO 156 (Op.load 47 (Operand.tmp 155)) 47 pEbi1 #[DD 7]
def st25o_9 : Oper := oO 157 (Op.nilCheck (Operand.tmp 156)) 0 pEbi1 #[DD 8]
def st25o_10 : Oper := oO 158 (Op.fieldAddr 97 (Operand.tmp 157) 1) 0 pEbi1 #[DD 9]
def st25o_11 : Oper := oO 159 (Op.load 3 (Operand.tmp 158)) 3 pEbi1 #[DD 10]
def st25o_12 : Oper := oO 160 (Op.binOp BinOp.eql 3 (Operand.tmp 152) (Operand.tmp 159) 3) 4 pEbi1 #[DD 4, DD 11]
def st25o_13 : Oper := oO 161 (Op.move (Operand.tmp 160)) 4 pEbi1 #[DD 12, CH 4]
def st25o_14 : Oper := { dst := some 162, op := Op.move (Operand.tmp 0), type := 28, pos := "law.go:150", after := #[GU 13], guard := some (13, true) }
def st25o_15 : Oper := { dst := some 163, op := Op.nilCheck (Operand.tmp 162), type := 0, pos := "law.go:150", after := #[DD 14, GU 13], guard := some (13, true) }
def st25o_16 : Oper := { dst := some 164, op := Op.fieldAddr 49 (Operand.tmp 163) 0, type := 0, pos := "law.go:150", after := #[DD 15, GU 13], guard := some (13, true) }
def st25o_17 : Oper := { dst := some 165, op := Op.load 23 (Operand.tmp 164), type := 23, pos := "law.go:150", after := #[DD 16, GU 13], guard := some (13, true) }
def st25o_18 : Oper := { dst := some 166, op := Op.call { callee := Callee.value (Operand.func 30), args := #[Operand.tmp 165], argTypes := #[23] }, type := 3, pos := "law.go:150", after := #[DD 17, CH 13, GU 13], guard := some (13, true) }
def st25o_19 : Oper := { dst := some 167, op := Op.move (Operand.tmp 0), type := 28, pos := "law.go:150", after := #[GU 13], guard := some (13, true) }
def st25o_20 : Oper := { dst := some 168, op := Op.nilCheck (Operand.tmp 167), type := 0, pos := "law.go:150", after := #[DD 19, GU 13], guard := some (13, true) }
def st25o_21 : Oper := { dst := some 169, op := Op.fieldAddr 49 (Operand.tmp 168) 1, type := 0, pos := "law.go:150", after := #[DD 20, GU 13], guard := some (13, true) }
def st25o_22 : Oper := { dst := some 170, op := Op.load 47 (Operand.tmp 169), type := 47, pos := "law.go:150", after := #[DD 21, GU 13], guard := some (13, true) }
def st25o_23 : Oper := { dst := some 171, op := Op.nilCheck (Operand.tmp 170), type := 0, pos := "law.go:150", after := #[DD 22, GU 13], guard := some (13, true) }
def st25o_24 : Oper := { dst := some 172, op := Op.fieldAddr 97 (Operand.tmp 171) 0, type := 0, pos := "law.go:150", after := #[DD 23, GU 13], guard := some (13, true) }
def st25o_25 : Oper := { dst := some 173, op := Op.load 3 (Operand.tmp 172), type := 3, pos := "law.go:150", after := #[DD 24, GU 13], guard := some (13, true) }
def st25o_26 : Oper := { dst := some 174, op := Op.binOp BinOp.eql 3 (Operand.tmp 166) (Operand.tmp 173) 3, type := 4, pos := "law.go:150", after := #[DD 18, DD 25, GU 13], guard := some (13, true) }
def st25o_27 : Oper := oO 175 (Op.pick (Operand.tmp 161) (Operand.tmp 174) (Operand.const (Value.bool false))) 4 pEbi1 #[DD 13, DD 26]
def st25o_28 : Oper := oO 176 (Op.move (Operand.tmp 175)) 4 pEbi1 #[DD 27, CH 18]
def st25o_29 : Oper := { dst := some 177, op := Op.move (Operand.tmp 0), type := 28, pos := "law.go:150", after := #[GU 28], guard := some (28, true) }
def st25o_30 : Oper := { dst := some 178, op := Op.nilCheck (Operand.tmp 177), type := 0, pos := "law.go:150", after := #[DD 29, GU 28], guard := some (28, true) }
def st25o_31 : Oper := { dst := some 179, op := Op.fieldAddr 49 (Operand.tmp 178) 0, type := 0, pos := "law.go:150", after := #[DD 30, GU 28], guard := some (28, true) }
def st25o_32 : Oper := { dst := some 180, op := Op.load 23 (Operand.tmp 179), type := 23, pos := "law.go:150", after := #[DD 31, GU 28], guard := some (28, true) }
def st25o_33 : Oper := { dst := some 181, op := Op.call { callee := Callee.value (Operand.func 31), args := #[Operand.tmp 180], argTypes := #[23] }, type := 3, pos := "law.go:150", after := #[DD 32, CH 28, GU 28], guard := some (28, true) }
def st25o_34 : Oper := { dst := some 182, op := Op.move (Operand.tmp 0), type := 28, pos := "law.go:150", after := #[GU 28], guard := some (28, true) }
def st25o_35 : Oper := { dst := some 183, op := Op.nilCheck (Operand.tmp 182), type := 0, pos := "law.go:150", after := #[DD 34, GU 28], guard := some (28, true) }
def st25o_36 : Oper := { dst := some 184, op := Op.fieldAddr 49 (Operand.tmp 183) 1, type := 0, pos := "law.go:150", after := #[DD 35, GU 28], guard := some (28, true) }
def st25o_37 : Oper := { dst := some 185, op := Op.load 47 (Operand.tmp 184), type := 47, pos := "law.go:150", after := #[DD 36, GU 28], guard := some (28, true) }
def st25o_38 : Oper := { dst := some 186, op := Op.nilCheck (Operand.tmp 185), type := 0, pos := "law.go:150", after := #[DD 37, GU 28], guard := some (28, true) }
def st25o_39 : Oper := { dst := some 187, op := Op.fieldAddr 97 (Operand.tmp 186) 2, type := 0, pos := "law.go:150", after := #[DD 38, GU 28], guard := some (28, true) }
def st25o_40 : Oper := { dst := some 188, op := Op.load 95 (Operand.tmp 187), type := 95, pos := "law.go:150", after := #[DD 39, GU 28], guard := some (28, true) }
def st25o_41 : Oper := { dst := some 189, op := Op.call { callee := Callee.builtin Builtin.len, args := #[Operand.tmp 188], argTypes := #[95] }, type := 3, pos := "law.go:150", after := #[DD 40, GU 28], guard := some (28, true) }
def st25o_42 : Oper := { dst := some 190, op := Op.binOp BinOp.eql 3 (Operand.tmp 181) (Operand.tmp 189) 3, type := 4, pos := "law.go:150", after := #[DD 33, DD 41, GU 28], guard := some (28, true) }
def st25o_43 : Oper := oO 191 (Op.pick (Operand.tmp 176) (Operand.tmp 190) (Operand.const (Value.bool false))) 4 pEbi1 #[DD 28, DD 42]
def st25o_44 : Oper := oO 4 (Op.assign (Operand.tmp 191)) 4 pEbi1 #[DD 43, CH 33, PH 0, PH 1, PH 2, PH 3, PH 4, PH 5, PH 6, PH 7, PH 8, PH 9, PH 10, PH 11, PH 12, PH 13, PH 14, PH 15, PH 16, PH 17, PH 18, PH 19, PH 20, PH 21, PH 22, PH 23, PH 24, PH 25, PH 26, PH 27, PH 28, PH 29, PH 30, PH 31, PH 32, PH 33, PH 34, PH 35, PH 36, PH 37, PH 38, PH 39, PH 40, PH 41, PH 42, PH 43]
def st25o : Array Oper := #[st25o_0, st25o_1, st25o_2, st25o_3, st25o_4, st25o_5, st25o_6, st25o_7, st25o_8, st25o_9, st25o_10, st25o_11, st25o_12, st25o_13, st25o_14, st25o_15, st25o_16, st25o_17, st25o_18, st25o_19, st25o_20, st25o_21, st25o_22, st25o_23, st25o_24, st25o_25, st25o_26, st25o_27, st25o_28, st25o_29, st25o_30, st25o_31, st25o_32, st25o_33, st25o_34, st25o_35, st25o_36, st25o_37, st25o_38, st25o_39, st25o_40, st25o_41, st25o_42, st25o_43, st25o_44]
theorem st25 (Q : Exit → Act → World → Prop) (wi : World) (m : Nat) (p : Pr) (nq cu : Nat) (Pu : Option Addr) (u1 u2 u3 u4 u5 u6 u7 u8 u9 aa ab ad ae af ag ah ai aj ak al am an ao ap aq au av aw ax ay az aA aB aC aD aE aF aG aH aI aJ aK aL aM aN aO aP aQ aR aS aT aU aV aW aX aY aZ a6 a7 a8 a9 ba bb bc bd be bg bh bi bj bk bl bm bn bo bp bq br bs bt bu bv bw bx bz bA bB bC bD bE bF bG bH bI bJ bK bL bM bN bO bP bQ bR bS bT bU bV bW bX bY bZ b6 b7 b8 b9 cd ce cf cg ch ci cj ck cm cn cp cq cr cs ct cv cw cx cy cz cA cB cC cD cE cF cG cH cI cJ cK cL cM cN cO cP cQ cR cS cT cU cV cW cX cY cZ c3 c4 c5 c6 c7 c8 c9 da db dc dd de df dg dh di dj dk dl dm dn dp dq dr ds dt du dv dw dx : Value) (W : World)
  (PJ : Pj wi m p W) (HU : Hid (p.u = .slice Pu nq cu)) (RQ : Hid (∀ y, Pj wi m p y → Calls Tryz.prog 31 #[.pointer (some ⟨p.s, 0, none⟩)] y fun e w' => e = .returned (.int .i64 (nq : Int)) ∧ w' = y))
  (HQ : Hid (∀ (wz : World), Pj wi m p wz → Below W.heap.size W wz → Q .normal ⟨#[.pointer (some ⟨p.b, 0, none⟩), u1, u2, u3, .bool true, u5, u6, u7, u8, u9, aa, ab, ad, ae, af, ag, ah, ai, aj, ak, al, am, an, ao, ap, aq, au, av, aw, ax, ay, az, aA, aB, aC, aD, aE, aF, aG, aH, aI, aJ, aK, aL, aM, aN, aO, aP, aQ, aR, aS, aT, aU, aV, aW, aX, aY, aZ, a6, a7, a8, a9, ba, bb, bc, bd, be, bg, bh, bi, bj, bk, bl, bm, bn, bo, bp, bq, br, bs, bt, bu, bv, bw, bx, bz, bA, bB, bC, bD, bE, bF, bG, bH, bI, bJ, bK, bL, bM, bN, bO, bP, bQ, bR, bS, bT, bU, bV, bW, bX, bY, bZ, b6, b7, b8, b9, cd, ce, cf, cg, ch, ci, cj, ck, cm, cn, cp, cq, cr, cs, ct, cv, cw, cx, cy, cz, cA, cB, cC, cD, cE, cF, cG, cH, cI, cJ, cK, cL, .pointer (some ⟨p.b, 0, none⟩), .pointer (some ⟨p.b, 0, none⟩), .pointer (some ⟨p.b, 0, none⟩), .pointer (some ⟨p.s, 0, none⟩), .int .i64 (p.K : Int), .pointer (some ⟨p.b, 0, none⟩), .pointer (some ⟨p.b, 0, none⟩), .pointer (some ⟨p.b, 1, none⟩), .pointer (some ⟨p.r, 0, none⟩), .pointer (some ⟨p.r, 0, none⟩), .pointer (some ⟨p.r, 1, none⟩), .int .i64 (p.K : Int), .bool true, .bool true, .pointer (some ⟨p.b, 0, none⟩), .pointer (some ⟨p.b, 0, none⟩), .pointer (some ⟨p.b, 0, none⟩), .pointer (some ⟨p.s, 0, none⟩), .int .i64 (m : Int), .pointer (some ⟨p.b, 0, none⟩), .pointer (some ⟨p.b, 0, none⟩), .pointer (some ⟨p.b, 1, none⟩), .pointer (some ⟨p.r, 0, none⟩), .pointer (some ⟨p.r, 0, none⟩), .pointer (some ⟨p.r, 0, none⟩), .int .i64 (m : Int), .bool true, .bool true, .bool true, .pointer (some ⟨p.b, 0, none⟩), .pointer (some ⟨p.b, 0, none⟩), .pointer (some ⟨p.b, 0, none⟩), .pointer (some ⟨p.s, 0, none⟩), .int .i64 (nq : Int), .pointer (some ⟨p.b, 0, none⟩), .pointer (some ⟨p.b, 0, none⟩), .pointer (some ⟨p.b, 1, none⟩), .pointer (some ⟨p.r, 0, none⟩), .pointer (some ⟨p.r, 0, none⟩), .pointer (some ⟨p.r, 2, none⟩), .slice Pu nq cu, .int .i64 (nq : Int), .bool true, .bool true], []⟩ wz)) : (Code.region 25 st25o true).wp Tryz.prog Q ⟨#[.pointer (some ⟨p.b, 0, none⟩), u1, u2, u3, u4, u5, u6, u7, u8, u9, aa, ab, ad, ae, af, ag, ah, ai, aj, ak, al, am, an, ao, ap, aq, au, av, aw, ax, ay, az, aA, aB, aC, aD, aE, aF, aG, aH, aI, aJ, aK, aL, aM, aN, aO, aP, aQ, aR, aS, aT, aU, aV, aW, aX, aY, aZ, a6, a7, a8, a9, ba, bb, bc, bd, be, bg, bh, bi, bj, bk, bl, bm, bn, bo, bp, bq, br, bs, bt, bu, bv, bw, bx, bz, bA, bB, bC, bD, bE, bF, bG, bH, bI, bJ, bK, bL, bM, bN, bO, bP, bQ, bR, bS, bT, bU, bV, bW, bX, bY, bZ, b6, b7, b8, b9, cd, ce, cf, cg, ch, ci, cj, ck, cm, cn, cp, cq, cr, cs, ct, cv, cw, cx, cy, cz, cA, cB, cC, cD, cE, cF, cG, cH, cI, cJ, cK, cL, cM, cN, cO, cP, cQ, cR, cS, cT, cU, cV, cW, cX, cY, cZ, c3, c4, c5, c6, c7, c8, c9, da, db, dc, dd, de, df, dg, dh, di, dj, dk, dl, dm, dn, dp, dq, dr, ds, dt, du, dv, dw, dx], []⟩ W := by
 unfold st25o
 refine wp_region_noPanic ?_
 refine wp_region_held_drew (S := fun x => Pj wi m p x ∧ Below W.heap.size W x) (by kernel_rfl) (⟨PJ.keep (bl_drew W), bl_drew W⟩) (fun hH0 => ?_)
 refine tj 0 st25o_0 (.pointer (some ⟨p.b, 0, none⟩)) hH0 (fun w0 hSw => ?_) ?_
 ·(unfold st25o_0 oO; clear hSw; go_simp)
 simp only [st25o_0, oO, Act.put, sA, sB, sC]
 refine tj 5 st25o_5 (.pointer (some ⟨p.b, 0, none⟩)) hH0 (fun w0 hSw => ?_) ?_
 ·(unfold st25o_5 oO; clear hSw; go_simp)
 simp only [st25o_5, oO, Act.put, sA, sB, sC]
 refine tj 1 st25o_1 (.pointer (some ⟨p.b, 0, none⟩)) hH0 (fun w0 hSw => ?_) ?_
 ·(unfold st25o_1 oO; clear hSw; go_simp)
 simp only [st25o_1, oO, Act.put, sA, sB, sC]
 refine tj 6 st25o_6 (.pointer (some ⟨p.b, 0, none⟩)) hH0 (fun w0 hSw => ?_) ?_
 ·(unfold st25o_6 oO; clear hSw; go_simp)
 simp only [st25o_6, oO, Act.put, sA, sB, sC]
 refine tj 2 st25o_2 (.pointer (some ⟨p.b, 0, none⟩)) hH0 (fun w0 hSw => ?_) ?_
 ·(unfold st25o_2 oO; clear hSw; go_simp)
 simp only [st25o_2, oO, Act.put, sA, sB, sC]
 refine tj 7 st25o_7 (.pointer (some ⟨p.b, 1, none⟩)) hH0 (fun w0 hSw => ?_) ?_
 ·(unfold st25o_7 oO; clear hSw; go_simp)
 simp only [st25o_7, oO, Act.put, sA, sB, sC]
 refine tj 3 st25o_3 (.pointer (some ⟨p.s, 0, none⟩)) hH0 (fun w0 hSw => ?_) ?_
 ·(unfold st25o_3 oO; have hS : Pj wi m p w0 ∧ Below W.heap.size W w0 := hSw; have a0 := cell_of_row _ p.b 0 _ _ (0, 0) hS.1.hb; clear hS hSw; go_simp)
 simp only [st25o_3, oO, Act.put, sA, sB, sC]
 refine tj 8 st25o_8 (.pointer (some ⟨p.r, 0, none⟩)) hH0 (fun w0 hSw => ?_) ?_
 ·(unfold st25o_8 oO; have hS : Pj wi m p w0 ∧ Below W.heap.size W w0 := hSw; have a0 := cell_of_row _ p.b 1 _ _ (0, 0) hS.1.hb; clear hS hSw; go_simp)
 simp only [st25o_8, oO, Act.put, sA, sB, sC]
 refine tj 9 st25o_9 (.pointer (some ⟨p.r, 0, none⟩)) hH0 (fun w0 hSw => ?_) ?_
 ·(unfold st25o_9 oO; clear hSw; go_simp)
 simp only [st25o_9, oO, Act.put, sA, sB, sC]
 refine tj 10 st25o_10 (.pointer (some ⟨p.r, 1, none⟩)) hH0 (fun w0 hSw => ?_) ?_
 ·(unfold st25o_10 oO; clear hSw; go_simp)
 simp only [st25o_10, oO, Act.put, sA, sB, sC]
 refine tj 11 st25o_11 (.int .i64 (p.K : Int)) hH0 (fun w0 hSw => ?_) ?_
 ·(unfold st25o_11 oO; have hS : Pj wi m p w0 ∧ Below W.heap.size W w0 := hSw; have a0 := hS.1.dy.c1; clear hS hSw; go_simp)
 simp only [st25o_11, oO, Act.put, sA, sB, sC]
 refine ar [4] ?_
 refine ac st25o_4 (fun K hK => ?_) AllReadyH.nil
 unfold st25o_4 oO
 have HH := Hn hH0
 clear hH0
 go_simp
 refine (Gates_any HH.out.1.sy).mono ?_
 rintro e wn1 ⟨rfl, hw⟩
 have SN := Hn ((by rw [hw]; exact HH.out : Pj wi m p wn1 ∧ Below W.heap.size W wn1))
 clear HH hw
 go_wp2_with fail
 refine hK.out _ _ SN.out (fun hH1 => ?_)
 clear hK K SN
 refine tj 12 st25o_12 (.bool true) hH1 (fun w0 hSw => ?_) ?_
 ·(unfold st25o_12 oO; clear hSw; go_simp)
 simp only [st25o_12, oO, Act.put, sA, sB, sC]
 refine tj 13 st25o_13 (.bool true) hH1 (fun w0 hSw => ?_) ?_
 ·(unfold st25o_13 oO; clear hSw; go_simp)
 simp only [st25o_13, oO, Act.put, sA, sB, sC]
 refine tj 14 st25o_14 (.pointer (some ⟨p.b, 0, none⟩)) hH1 (fun w0 hSw => ?_) ?_
 ·(unfold st25o_14; clear hSw; go_simp)
 simp only [st25o_14, Act.put, sA, sB, sC]
 refine tj 19 st25o_19 (.pointer (some ⟨p.b, 0, none⟩)) hH1 (fun w0 hSw => ?_) ?_
 ·(unfold st25o_19; clear hSw; go_simp)
 simp only [st25o_19, Act.put, sA, sB, sC]
 refine tj 15 st25o_15 (.pointer (some ⟨p.b, 0, none⟩)) hH1 (fun w0 hSw => ?_) ?_
 ·(unfold st25o_15; clear hSw; go_simp)
 simp only [st25o_15, Act.put, sA, sB, sC]
 refine tj 20 st25o_20 (.pointer (some ⟨p.b, 0, none⟩)) hH1 (fun w0 hSw => ?_) ?_
 ·(unfold st25o_20; clear hSw; go_simp)
 simp only [st25o_20, Act.put, sA, sB, sC]
 refine tj 16 st25o_16 (.pointer (some ⟨p.b, 0, none⟩)) hH1 (fun w0 hSw => ?_) ?_
 ·(unfold st25o_16; clear hSw; go_simp)
 simp only [st25o_16, Act.put, sA, sB, sC]
 refine tj 21 st25o_21 (.pointer (some ⟨p.b, 1, none⟩)) hH1 (fun w0 hSw => ?_) ?_
 ·(unfold st25o_21; clear hSw; go_simp)
 simp only [st25o_21, Act.put, sA, sB, sC]
 refine tj 17 st25o_17 (.pointer (some ⟨p.s, 0, none⟩)) hH1 (fun w0 hSw => ?_) ?_
 ·(unfold st25o_17; have hS : Pj wi m p w0 ∧ Below W.heap.size W w0 := hSw; have a0 := cell_of_row _ p.b 0 _ _ (0, 0) hS.1.hb; clear hS hSw; go_simp)
 simp only [st25o_17, Act.put, sA, sB, sC]
 refine tj 22 st25o_22 (.pointer (some ⟨p.r, 0, none⟩)) hH1 (fun w0 hSw => ?_) ?_
 ·(unfold st25o_22; have hS : Pj wi m p w0 ∧ Below W.heap.size W w0 := hSw; have a0 := cell_of_row _ p.b 1 _ _ (0, 0) hS.1.hb; clear hS hSw; go_simp)
 simp only [st25o_22, Act.put, sA, sB, sC]
 refine tj 23 st25o_23 (.pointer (some ⟨p.r, 0, none⟩)) hH1 (fun w0 hSw => ?_) ?_
 ·(unfold st25o_23; clear hSw; go_simp)
 simp only [st25o_23, Act.put, sA, sB, sC]
 refine tj 24 st25o_24 (.pointer (some ⟨p.r, 0, none⟩)) hH1 (fun w0 hSw => ?_) ?_
 ·(unfold st25o_24; clear hSw; go_simp)
 simp only [st25o_24, Act.put, sA, sB, sC]
 refine tj 25 st25o_25 (.int .i64 (m : Int)) hH1 (fun w0 hSw => ?_) ?_
 ·(unfold st25o_25; have hS : Pj wi m p w0 ∧ Below W.heap.size W w0 := hSw; have a0 := hS.1.dy.c0; clear hS hSw; go_simp)
 simp only [st25o_25, Act.put, sA, sB, sC]
 refine ar [18] ?_
 refine ac st25o_18 (fun K hK => ?_) AllReadyH.nil
 unfold st25o_18
 have HH := Hn hH1
 clear hH1
 go_simp
 refine (Values_any HH.out.1.sy).mono ?_
 rintro e wn2 ⟨rfl, hw⟩
 have SN := Hn ((by rw [hw]; exact HH.out : Pj wi m p wn2 ∧ Below W.heap.size W wn2))
 clear HH hw
 go_wp2_with fail
 refine hK.out _ _ SN.out (fun hH2 => ?_)
 clear hK K SN
 refine tj 26 st25o_26 (.bool true) hH2 (fun w0 hSw => ?_) ?_
 ·(unfold st25o_26; clear hSw; go_simp)
 simp only [st25o_26, Act.put, sA, sB, sC]
 refine tj 27 st25o_27 (.bool true) hH2 (fun w0 hSw => ?_) ?_
 ·(unfold st25o_27 oO; clear hSw; go_simp)
 simp only [st25o_27, oO, Act.put, sA, sB, sC]
 refine tj 28 st25o_28 (.bool true) hH2 (fun w0 hSw => ?_) ?_
 ·(unfold st25o_28 oO; clear hSw; go_simp)
 simp only [st25o_28, oO, Act.put, sA, sB, sC]
 refine tj 29 st25o_29 (.pointer (some ⟨p.b, 0, none⟩)) hH2 (fun w0 hSw => ?_) ?_
 ·(unfold st25o_29; clear hSw; go_simp)
 simp only [st25o_29, Act.put, sA, sB, sC]
 refine tj 34 st25o_34 (.pointer (some ⟨p.b, 0, none⟩)) hH2 (fun w0 hSw => ?_) ?_
 ·(unfold st25o_34; clear hSw; go_simp)
 simp only [st25o_34, Act.put, sA, sB, sC]
 refine tj 30 st25o_30 (.pointer (some ⟨p.b, 0, none⟩)) hH2 (fun w0 hSw => ?_) ?_
 ·(unfold st25o_30; clear hSw; go_simp)
 simp only [st25o_30, Act.put, sA, sB, sC]
 refine tj 35 st25o_35 (.pointer (some ⟨p.b, 0, none⟩)) hH2 (fun w0 hSw => ?_) ?_
 ·(unfold st25o_35; clear hSw; go_simp)
 simp only [st25o_35, Act.put, sA, sB, sC]
 refine tj 31 st25o_31 (.pointer (some ⟨p.b, 0, none⟩)) hH2 (fun w0 hSw => ?_) ?_
 ·(unfold st25o_31; clear hSw; go_simp)
 simp only [st25o_31, Act.put, sA, sB, sC]
 refine tj 36 st25o_36 (.pointer (some ⟨p.b, 1, none⟩)) hH2 (fun w0 hSw => ?_) ?_
 ·(unfold st25o_36; clear hSw; go_simp)
 simp only [st25o_36, Act.put, sA, sB, sC]
 refine tj 32 st25o_32 (.pointer (some ⟨p.s, 0, none⟩)) hH2 (fun w0 hSw => ?_) ?_
 ·(unfold st25o_32; have hS : Pj wi m p w0 ∧ Below W.heap.size W w0 := hSw; have a0 := cell_of_row _ p.b 0 _ _ (0, 0) hS.1.hb; clear hS hSw; go_simp)
 simp only [st25o_32, Act.put, sA, sB, sC]
 refine tj 37 st25o_37 (.pointer (some ⟨p.r, 0, none⟩)) hH2 (fun w0 hSw => ?_) ?_
 ·(unfold st25o_37; have hS : Pj wi m p w0 ∧ Below W.heap.size W w0 := hSw; have a0 := cell_of_row _ p.b 1 _ _ (0, 0) hS.1.hb; clear hS hSw; go_simp)
 simp only [st25o_37, Act.put, sA, sB, sC]
 refine tj 38 st25o_38 (.pointer (some ⟨p.r, 0, none⟩)) hH2 (fun w0 hSw => ?_) ?_
 ·(unfold st25o_38; clear hSw; go_simp)
 simp only [st25o_38, Act.put, sA, sB, sC]
 refine tj 39 st25o_39 (.pointer (some ⟨p.r, 2, none⟩)) hH2 (fun w0 hSw => ?_) ?_
 ·(unfold st25o_39; clear hSw; go_simp)
 simp only [st25o_39, Act.put, sA, sB, sC]
 refine tj 40 st25o_40 (.slice Pu nq cu) hH2 (fun w0 hSw => ?_) ?_
 ·(unfold st25o_40; have hS : Pj wi m p w0 ∧ Below W.heap.size W w0 := hSw; have a0 := (hS.1.dy.c2.trans (congrArg some HU.out)); clear hS hSw; go_simp)
 simp only [st25o_40, Act.put, sA, sB, sC]
 refine tj 41 st25o_41 (.int .i64 (nq : Int)) hH2 (fun w0 hSw => ?_) ?_
 ·(unfold st25o_41; clear hSw; go_simp)
 simp only [st25o_41, Act.put, sA, sB, sC]
 refine ar [33] ?_
 refine ac st25o_33 (fun K hK => ?_) AllReadyH.nil
 unfold st25o_33
 have HH := Hn hH2
 clear hH2
 go_simp
 refine (RQ.out _ HH.out.1).mono ?_
 rintro e wn3 ⟨rfl, hw⟩
 have SN := Hn ((by rw [hw]; exact HH.out : Pj wi m p wn3 ∧ Below W.heap.size W wn3))
 clear HH hw RQ
 go_wp2_with fail
 refine hK.out _ _ SN.out (fun hH3 => ?_)
 clear hK K SN
 refine tj 42 st25o_42 (.bool true) hH3 (fun w0 hSw => ?_) ?_
 ·(unfold st25o_42; clear hSw; go_simp)
 simp only [st25o_42, Act.put, sA, sB, sC]
 refine tj 43 st25o_43 (.bool true) hH3 (fun w0 hSw => ?_) ?_
 ·(unfold st25o_43 oO; clear hSw; go_simp)
 simp only [st25o_43, oO, Act.put, sA, sB, sC]
 refine tj 44 st25o_44 (.bool true) hH3 (fun w0 hSw => ?_) ?_
 ·(unfold st25o_44 oO; clear hSw; go_simp)
 simp only [st25o_44, oO, Act.put, sA, sB, sC]
 have HH := Hn hH3
 have FQ := Hn (HQ.out _ HH.out.1 HH.out.2)
 refine wpAnyH_done (by kernel_rfl) ?_ _
 refine NoPanic.normal ?_
 exact FQ.out
end Ci
end Go.Proofs.YtghcfcglakbkeaaGreatDoor
