import Derived.Test.YtbbnjmjeeiglcaaGreatDoorPy6
set_option maxRecDepth 100000
set_option maxHeartbeats 32000000
set_option linter.unusedVariables false
set_option linter.unusedSimpArgs false
set_option linter.defProp false
namespace Go.Proofs.YtbbnjmjeeiglcaaGreatDoor
namespace Sg
open Go.RowKit
def lw20o_0 : Oper := { dst := some 131, op := Op.load 30 (Operand.tmp 22), type := 30, pos := "outright.go:228", after := #[], guard := none }
def lw20o_1 : Oper := { dst := some 132, op := Op.call { callee := Callee.value (Operand.func 11), args := #[Operand.tmp 131], argTypes := #[30] }, type := 43, pos := "outright.go:228", after := #[{ on := 0, ground := Ground.data }], guard := none }
def lw20o_2 : Oper := { dst := some 133, op := Op.load 30 (Operand.tmp 23), type := 30, pos := "outright.go:228", after := #[], guard := none }
def lw20o_3 : Oper := { dst := some 134, op := Op.call { callee := Callee.value (Operand.func 11), args := #[Operand.tmp 133], argTypes := #[30] }, type := 43, pos := "outright.go:228", after := #[{ on := 2, ground := Ground.data }, { on := 1, ground := Ground.chain }], guard := none }
def lw20o_4 : Oper := { dst := some 135, op := Op.move (Operand.tmp 19), type := 23, pos := "outright.go:228", after := #[], guard := none }
def lw20o_5 : Oper := { dst := some 136, op := Op.move (Operand.tmp 26), type := 23, pos := "outright.go:228", after := #[], guard := none }
def lw20o_6 : Oper := { dst := some 137, op := Op.fieldAddr 34 (Operand.tmp 24) 0, type := 0, pos := "outright.go:228", after := #[], guard := none }
def lw20o_7 : Oper := { dst := some 138, op := Op.load 26 (Operand.tmp 137), type := 26, pos := "outright.go:228", after := #[{ on := 6, ground := Ground.data }], guard := none }
def lw20o_8 : Oper := { dst := some 139, op := Op.fieldAddr 34 (Operand.tmp 24) 2, type := 0, pos := "outright.go:228", after := #[], guard := none }
def lw20o_9 : Oper := { dst := some 140, op := Op.load 23 (Operand.tmp 139), type := 23, pos := "outright.go:228", after := #[{ on := 8, ground := Ground.data }], guard := none }
def lw20o_10 : Oper := { dst := some 141, op := Op.load 26 (Operand.tmp 15), type := 26, pos := "outright.go:228", after := #[], guard := none }
def lw20o_11 : Oper := { dst := some 142, op := Op.buildSlice 23 1 #[(0, Operand.tmp 141)], type := 23, pos := "outright.go:228", after := #[{ on := 10, ground := Ground.data }], guard := none }
def lw20o_12 : Oper := { dst := some 143, op := Op.call { callee := Callee.value (Operand.func 12), args := #[Operand.tmp 142], argTypes := #[23] }, type := 45, pos := "outright.go:228", after := #[{ on := 11, ground := Ground.data }, { on := 3, ground := Ground.chain }], guard := none }
def lw20o_13 : Oper := { dst := some 144, op := Op.makeInterface 45 (Operand.tmp 143), type := 60, pos := "outright.go:228", after := #[{ on := 12, ground := Ground.data }], guard := none }
def lw20o_14 : Oper := { dst := some 145, op := Op.call { callee := Callee.value (Operand.func 10), args := #[Operand.tmp 132, Operand.tmp 134, Operand.const (Value.int IntKind.i64 2), Operand.tmp 135, Operand.tmp 136, Operand.tmp 138, Operand.tmp 140, Operand.tmp 144], argTypes := #[43, 43, 3, 23, 23, 26, 23, 60] }, type := 36, pos := "outright.go:228", after := #[{ on := 1, ground := Ground.data }, { on := 3, ground := Ground.data }, { on := 4, ground := Ground.data }, { on := 5, ground := Ground.data }, { on := 7, ground := Ground.data }, { on := 9, ground := Ground.data }, { on := 13, ground := Ground.data }, { on := 12, ground := Ground.chain }], guard := none }
def lw20o_15 : Oper := { dst := some 130, op := Op.move (Operand.tmp 145), type := 36, pos := "outright.go:228", after := #[{ on := 14, ground := Ground.data }], guard := none }
def lw20o_16 : Oper := { dst := some 146, op := Op.extract (Operand.tmp 130) 0, type := 34, pos := "outright.go:228", after := #[{ on := 15, ground := Ground.data }], guard := none }
def lw20o_17 : Oper := { dst := some 147, op := Op.extract (Operand.tmp 130) 1, type := 35, pos := "outright.go:228", after := #[{ on := 15, ground := Ground.data }, { on := 19, ground := Ground.gcOnly Departure.lateStores }], guard := none }
def lw20o_18 : Oper := { dst := some 28, op := Op.alloc 34, type := 0, pos := "outright.go:228", after := #[], guard := none }
def lw20o_19 : Oper := { dst := none, op := Op.store 34 (Operand.tmp 28) (Operand.tmp 146), type := 0, pos := "outright.go:228", after := #[{ on := 18, ground := Ground.data }, { on := 16, ground := Ground.data }, { on := 14, ground := Ground.chain }, { on := 0, ground := Ground.phase }, { on := 1, ground := Ground.phase }, { on := 2, ground := Ground.phase }, { on := 3, ground := Ground.phase }, { on := 4, ground := Ground.phase }, { on := 5, ground := Ground.phase }, { on := 6, ground := Ground.phase }, { on := 7, ground := Ground.phase }, { on := 8, ground := Ground.phase }, { on := 9, ground := Ground.phase }, { on := 10, ground := Ground.phase }, { on := 11, ground := Ground.phase }, { on := 12, ground := Ground.phase }, { on := 13, ground := Ground.phase }, { on := 14, ground := Ground.phase }, { on := 15, ground := Ground.phase }, { on := 16, ground := Ground.phase }, { on := 17, ground := Ground.textOnly Departure.lateStores }, { on := 18, ground := Ground.phase }], guard := none }
def lw20o_20 : Oper := { dst := some 29, op := Op.assign (Operand.tmp 147), type := 35, pos := "outright.go:228", after := #[{ on := 17, ground := Ground.data }, { on := 19, ground := Ground.chain }, { on := 0, ground := Ground.phase }, { on := 1, ground := Ground.phase }, { on := 2, ground := Ground.phase }, { on := 3, ground := Ground.phase }, { on := 4, ground := Ground.phase }, { on := 5, ground := Ground.phase }, { on := 6, ground := Ground.phase }, { on := 7, ground := Ground.phase }, { on := 8, ground := Ground.phase }, { on := 9, ground := Ground.phase }, { on := 10, ground := Ground.phase }, { on := 11, ground := Ground.phase }, { on := 12, ground := Ground.phase }, { on := 13, ground := Ground.phase }, { on := 14, ground := Ground.phase }, { on := 15, ground := Ground.phase }, { on := 16, ground := Ground.phase }, { on := 17, ground := Ground.phase }, { on := 18, ground := Ground.phase }, { on := 19, ground := Ground.phase }], guard := none }
def lw20o : Array Oper := #[lw20o_0, lw20o_1, lw20o_2, lw20o_3, lw20o_4, lw20o_5, lw20o_6, lw20o_7, lw20o_8, lw20o_9, lw20o_10, lw20o_11, lw20o_12, lw20o_13, lw20o_14, lw20o_15, lw20o_16, lw20o_17, lw20o_18, lw20o_19, lw20o_20]
section
variable {Q : Exit → Act → World → Prop} {T15 T22 T23 T24 RR J1 J2 cRR cJ1 cJ2 A3 A4 A6 c3 c4 c6 r n : Nat} {t c u v : E4} {gs : Nat → Nat → E4} {im1 im2 fa fb : Nat → E4} {Xa Xb Xc Xd Xe Xf Xg Xh Xi Xj Xk Xl Xm Xn Xo Xq Xr Xs Xu Xv Xz Yb Yc Yd Ye Yf Yg Yh Yi Yj Yk Yl Ym Yn Yo Yp Yq Yr Ys Yt Yu Yv Yw Yx Yy Yz Za Zb Zc Zd Ze Zf Zg Zh Zi Zj Zk Zl Zm Zn Zo Zp Zq Zr Zs Zt Zu Zv Zw Zx Zy Zz Ua Ub Uc Ud Ue Uf Ug Uh Ui Uj Uk Ul Um Un Uo Up Uq Ur Us Ut Uu Uv Uw Ux Uy Uz Da Db Dc Dd De Df Dg Dh Di Dj Dk Dl Dm Dn Do Dp Dq Dr Ds Dt Du Dv Dw Dx Dy Dz Ja Jb Jc Jd Je Jf Jg Jh Ji Jj Jk Jl Jm Jn Jo Jp Jq Jr Js Jt Ju Jv Jw Jx Jy Jz Ia Ib Ic Id Ie If Ig Ih Ii Ij Ik Il Im In Io Ip Iq Ir Is It Iu Iv Iw Ix Iy Iz Ga Gb Gc Gd Ge Gf Gg Gh Gi Gj Gk Gl Gm Gn Go Gp Gq Gr Gs Gt Gu Gv Gw Gx Gy Gz Ba Bb Bc Bd Be Bf Bg Bh Bi : Value} {W : World}
variable (hr1 : 1 ≤ r)
variable (hn1 : 1 ≤ n)
variable (ca0 : W.cell? ⟨T22, 0, none⟩ = some (.slice (some ⟨RR, 0, none⟩) r cRR)) (ca1 : W.cell? ⟨T22, 1, none⟩ = some (.slice (some ⟨J1, 0, none⟩) r cJ1))
variable (cb0 : W.cell? ⟨T23, 0, none⟩ = some (.slice (some ⟨RR, 0, none⟩) r cRR)) (cb1 : W.cell? ⟨T23, 1, none⟩ = some (.slice (some ⟨J2, 0, none⟩) r cJ2))
variable (ct0 : W.cell? ⟨T15, 0, none⟩ = some (.int .u64 t.x0)) (ct1 : W.cell? ⟨T15, 1, none⟩ = some (.int .u64 t.x1)) (ct2 : W.cell? ⟨T15, 2, none⟩ = some (.int .u64 t.x2)) (ct3 : W.cell? ⟨T15, 3, none⟩ = some (.int .u64 t.x3))
variable (cc0 : W.cell? ⟨T24, 0, none⟩ = some (.int .u64 c.x0)) (cc1 : W.cell? ⟨T24, 1, none⟩ = some (.int .u64 c.x1)) (cc2 : W.cell? ⟨T24, 2, none⟩ = some (.int .u64 c.x2)) (cc3 : W.cell? ⟨T24, 3, none⟩ = some (.int .u64 c.x3))
variable (cm : W.cell? ⟨T24, 8, none⟩ = some (.slice (some ⟨A6, 0, none⟩) n c6))
variable (C1 : Hid (∀ y, Below W.heap.size W y → Calls Tryz.prog 11 #[.agg #[.slice (some ⟨RR, 0, none⟩) r cRR, .slice (some ⟨J1, 0, none⟩) r cJ1]] y fun e w' => ∃ (R I cR cI : Nat) (g cn : Nat → Nat), e = .returned (.agg #[.slice (some ⟨R, 0, none⟩) r cR, .slice (some ⟨I, 0, none⟩) r cI]) ∧ Cl w' R I r n g cn gs im1 ∧ Below y.heap.size y w'))
variable (C3 : Hid (∀ y, Below W.heap.size W y → Calls Tryz.prog 11 #[.agg #[.slice (some ⟨RR, 0, none⟩) r cRR, .slice (some ⟨J2, 0, none⟩) r cJ2]] y fun e w' => ∃ (R I cR cI : Nat) (g cn : Nat → Nat), e = .returned (.agg #[.slice (some ⟨R, 0, none⟩) r cR, .slice (some ⟨I, 0, none⟩) r cI]) ∧ Cl w' R I r n g cn gs im2 ∧ Below y.heap.size y w'))
variable (CG : Hid (∀ y (b : Nat), Below W.heap.size W y → y.rangeAt b 0 [.int .u64 t.x0, .int .u64 t.x1, .int .u64 t.x2, .int .u64 t.x3] → Calls Tryz.prog 12 #[.slice (some ⟨b, 0, none⟩) 1 1] y fun e w' => ∃ s : Nat, e = .returned (.pointer (some ⟨s, 0, none⟩)) ∧ Fz w' s t ∧ y.heap.size ≤ s ∧ Below y.heap.size y w'))
variable (CP : Hid (∀ y (s R1 I1 cR1 cI1 R2 I2 cR2 cI2 : Nat) (g1 cn1 g2 cn2 : Nat → Nat), Below W.heap.size W y → W.heap.size ≤ s → Cb s y R1 I1 r n g1 cn1 gs im1 → Cb s y R2 I2 r n g2 cn2 gs im2 → Fz y s t → Calls Tryz.prog 10 #[.agg #[.slice (some ⟨R1, 0, none⟩) r cR1, .slice (some ⟨I1, 0, none⟩) r cI1], .agg #[.slice (some ⟨R2, 0, none⟩) r cR2, .slice (some ⟨I2, 0, none⟩) r cI2], .int .i64 2, .slice (some ⟨A3, 0, none⟩) n c3, .slice (some ⟨A4, 0, none⟩) n c4, .agg #[.int .u64 c.x0, .int .u64 c.x1, .int .u64 c.x2, .int .u64 c.x3], .slice (some ⟨A6, 0, none⟩) n c6, .iface 45 (.pointer (some ⟨s, 0, none⟩))] y fun e w' => ∃ N6 N10 : Nat, e = .returned (.tuple #[.agg #[.int .u64 v.x0, .int .u64 v.x1, .int .u64 v.x2, .int .u64 v.x3, .int .u64 u.x0, .int .u64 u.x1, .int .u64 u.x2, .int .u64 u.x3, .slice (some ⟨N10, 0, none⟩) n n, .slice (some ⟨N6, 0, none⟩) n n], .int .i64 0]) ∧ Rl w' N6 0 n fa ∧ Rl w' N10 0 n fb ∧ y.heap.size ≤ N6 ∧ y.heap.size ≤ N10 ∧ Tr.Bt (fun k => k = s) y w'))
variable (HQ : Hid (∀ (R1 : Nat) (I1 : Nat) (cR1 : Nat) (cI1 : Nat) (g1 : Nat → Nat) (cn1 : Nat → Nat) (R2 : Nat) (I2 : Nat) (cR2 : Nat) (cI2 : Nat) (g2 : Nat → Nat) (cn2 : Nat → Nat) (tb : Nat) (s : Nat) (N6 : Nat) (N10 : Nat) (AB : Nat) (wz : World), Below W.heap.size W wz → wz.rangeAt AB 0 [.int .u64 v.x0, .int .u64 v.x1, .int .u64 v.x2, .int .u64 v.x3, .int .u64 u.x0, .int .u64 u.x1, .int .u64 u.x2, .int .u64 u.x3, .slice (some ⟨N10, 0, none⟩) n n, .slice (some ⟨N6, 0, none⟩) n n] → Rl wz N6 0 n fa → Rl wz N10 0 n fb → W.heap.size ≤ AB → W.heap.size ≤ N6 → W.heap.size ≤ N10 → Q .normal ⟨#[Xa, Xb, Xc, Xd, Xe, Xf, Xg, Xh, Xi, Xj, Xk, Xl, Xm, Xn, Xo, .pointer (some ⟨T15, 0, none⟩), Xq, Xr, Xs, .slice (some ⟨A3, 0, none⟩) n c3, Xu, Xv, .pointer (some ⟨T22, 0, none⟩), .pointer (some ⟨T23, 0, none⟩), .pointer (some ⟨T24, 0, none⟩), Xz, .slice (some ⟨A4, 0, none⟩) n c4, Yb, .pointer (some ⟨AB, 0, none⟩), .int .i64 0, Ye, Yf, Yg, Yh, Yi, Yj, Yk, Yl, Ym, Yn, Yo, Yp, Yq, Yr, Ys, Yt, Yu, Yv, Yw, Yx, Yy, Yz, Za, Zb, Zc, Zd, Ze, Zf, Zg, Zh, Zi, Zj, Zk, Zl, Zm, Zn, Zo, Zp, Zq, Zr, Zs, Zt, Zu, Zv, Zw, Zx, Zy, Zz, Ua, Ub, Uc, Ud, Ue, Uf, Ug, Uh, Ui, Uj, Uk, Ul, Um, Un, Uo, Up, Uq, Ur, Us, Ut, Uu, Uv, Uw, Ux, Uy, Uz, Da, Db, Dc, Dd, De, Df, Dg, Dh, Di, Dj, Dk, Dl, Dm, Dn, Do, Dp, Dq, Dr, Ds, Dt, Du, Dv, Dw, Dx, Dy, Dz, .tuple #[.agg #[.int .u64 v.x0, .int .u64 v.x1, .int .u64 v.x2, .int .u64 v.x3, .int .u64 u.x0, .int .u64 u.x1, .int .u64 u.x2, .int .u64 u.x3, .slice (some ⟨N10, 0, none⟩) n n, .slice (some ⟨N6, 0, none⟩) n n], .int .i64 0], .agg #[.slice (some ⟨RR, 0, none⟩) r cRR, .slice (some ⟨J1, 0, none⟩) r cJ1], .agg #[.slice (some ⟨R1, 0, none⟩) r cR1, .slice (some ⟨I1, 0, none⟩) r cI1], .agg #[.slice (some ⟨RR, 0, none⟩) r cRR, .slice (some ⟨J2, 0, none⟩) r cJ2], .agg #[.slice (some ⟨R2, 0, none⟩) r cR2, .slice (some ⟨I2, 0, none⟩) r cI2], .slice (some ⟨A3, 0, none⟩) n c3, .slice (some ⟨A4, 0, none⟩) n c4, .pointer (some ⟨T24, 0, none⟩), .agg #[.int .u64 c.x0, .int .u64 c.x1, .int .u64 c.x2, .int .u64 c.x3], .pointer (some ⟨T24, 8, none⟩), .slice (some ⟨A6, 0, none⟩) n c6, .agg #[.int .u64 t.x0, .int .u64 t.x1, .int .u64 t.x2, .int .u64 t.x3], .slice (some ⟨tb, 0, none⟩) 1 1, .pointer (some ⟨s, 0, none⟩), .iface 45 (.pointer (some ⟨s, 0, none⟩)), .tuple #[.agg #[.int .u64 v.x0, .int .u64 v.x1, .int .u64 v.x2, .int .u64 v.x3, .int .u64 u.x0, .int .u64 u.x1, .int .u64 u.x2, .int .u64 u.x3, .slice (some ⟨N10, 0, none⟩) n n, .slice (some ⟨N6, 0, none⟩) n n], .int .i64 0], .agg #[.int .u64 v.x0, .int .u64 v.x1, .int .u64 v.x2, .int .u64 v.x3, .int .u64 u.x0, .int .u64 u.x1, .int .u64 u.x2, .int .u64 u.x3, .slice (some ⟨N10, 0, none⟩) n n, .slice (some ⟨N6, 0, none⟩) n n], .int .i64 0, Js, Jt, Ju, Jv, Jw, Jx, Jy, Jz, Ia, Ib, Ic, Id, Ie, If, Ig, Ih, Ii, Ij, Ik, Il, Im, In, Io, Ip, Iq, Ir, Is, It, Iu, Iv, Iw, Ix, Iy, Iz, Ga, Gb, Gc, Gd, Ge, Gf, Gg, Gh, Gi, Gj, Gk, Gl, Gm, Gn, Go, Gp, Gq, Gr, Gs, Gt, Gu, Gv, Gw, Gx, Gy, Gz, Ba, Bb, Bc, Bd, Be, Bf, Bg, Bh, Bi], []⟩ wz))
variable {R1 I1 cR1 cI1 R2 I2 cR2 cI2 tb s N6 N10 AB : Nat}
variable {g1 cn1 g2 cn2 : Nat → Nat}
def lw20_s7 (w : World) (hH0 : Below W.heap.size W w) (GES : Hid (W.heap.size ≤ s)) (RA : Hid (Rl w N6 0 n fa)) (RB : Hid (Rl w N10 0 n fb)) (GE6 : Hid (W.heap.size ≤ N6)) (GE10 : Hid (W.heap.size ≤ N10)) (TH : Hid (w.there AB 0 10)) (R0 : Hid (w.rangeAt AB 0 [.int .u64 v.x0, .int .u64 v.x1, .int .u64 v.x2, .int .u64 v.x3, .int .u64 u.x0, .int .u64 u.x1, .int .u64 u.x2, .int .u64 u.x3, .slice (some ⟨N10, 0, none⟩) n n, .slice (some ⟨N6, 0, none⟩) n n])) (GEB : Hid (W.heap.size ≤ AB)) (NE6 : Hid (N6 ≠ AB)) (NE10 : Hid (N10 ≠ AB)) : wpAnyH Tryz.prog .any lw20o (NoPanic Q) (fun x => Below W.heap.size W x) 0 #[true, true, true, true, true, true, true, true, true, true, true, true, true, true, true, true, true, true, true, true, true] ⟨#[Xa, Xb, Xc, Xd, Xe, Xf, Xg, Xh, Xi, Xj, Xk, Xl, Xm, Xn, Xo, .pointer (some ⟨T15, 0, none⟩), Xq, Xr, Xs, .slice (some ⟨A3, 0, none⟩) n c3, Xu, Xv, .pointer (some ⟨T22, 0, none⟩), .pointer (some ⟨T23, 0, none⟩), .pointer (some ⟨T24, 0, none⟩), Xz, .slice (some ⟨A4, 0, none⟩) n c4, Yb, .pointer (some ⟨AB, 0, none⟩), .int .i64 0, Ye, Yf, Yg, Yh, Yi, Yj, Yk, Yl, Ym, Yn, Yo, Yp, Yq, Yr, Ys, Yt, Yu, Yv, Yw, Yx, Yy, Yz, Za, Zb, Zc, Zd, Ze, Zf, Zg, Zh, Zi, Zj, Zk, Zl, Zm, Zn, Zo, Zp, Zq, Zr, Zs, Zt, Zu, Zv, Zw, Zx, Zy, Zz, Ua, Ub, Uc, Ud, Ue, Uf, Ug, Uh, Ui, Uj, Uk, Ul, Um, Un, Uo, Up, Uq, Ur, Us, Ut, Uu, Uv, Uw, Ux, Uy, Uz, Da, Db, Dc, Dd, De, Df, Dg, Dh, Di, Dj, Dk, Dl, Dm, Dn, Do, Dp, Dq, Dr, Ds, Dt, Du, Dv, Dw, Dx, Dy, Dz, .tuple #[.agg #[.int .u64 v.x0, .int .u64 v.x1, .int .u64 v.x2, .int .u64 v.x3, .int .u64 u.x0, .int .u64 u.x1, .int .u64 u.x2, .int .u64 u.x3, .slice (some ⟨N10, 0, none⟩) n n, .slice (some ⟨N6, 0, none⟩) n n], .int .i64 0], .agg #[.slice (some ⟨RR, 0, none⟩) r cRR, .slice (some ⟨J1, 0, none⟩) r cJ1], .agg #[.slice (some ⟨R1, 0, none⟩) r cR1, .slice (some ⟨I1, 0, none⟩) r cI1], .agg #[.slice (some ⟨RR, 0, none⟩) r cRR, .slice (some ⟨J2, 0, none⟩) r cJ2], .agg #[.slice (some ⟨R2, 0, none⟩) r cR2, .slice (some ⟨I2, 0, none⟩) r cI2], .slice (some ⟨A3, 0, none⟩) n c3, .slice (some ⟨A4, 0, none⟩) n c4, .pointer (some ⟨T24, 0, none⟩), c.v, .pointer (some ⟨T24, 8, none⟩), .slice (some ⟨A6, 0, none⟩) n c6, t.v, .slice (some ⟨tb, 0, none⟩) 1 1, .pointer (some ⟨s, 0, none⟩), .iface 45 (.pointer (some ⟨s, 0, none⟩)), .tuple #[.agg #[.int .u64 v.x0, .int .u64 v.x1, .int .u64 v.x2, .int .u64 v.x3, .int .u64 u.x0, .int .u64 u.x1, .int .u64 u.x2, .int .u64 u.x3, .slice (some ⟨N10, 0, none⟩) n n, .slice (some ⟨N6, 0, none⟩) n n], .int .i64 0], .agg #[.int .u64 v.x0, .int .u64 v.x1, .int .u64 v.x2, .int .u64 v.x3, .int .u64 u.x0, .int .u64 u.x1, .int .u64 u.x2, .int .u64 u.x3, .slice (some ⟨N10, 0, none⟩) n n, .slice (some ⟨N6, 0, none⟩) n n], .int .i64 0, Js, Jt, Ju, Jv, Jw, Jx, Jy, Jz, Ia, Ib, Ic, Id, Ie, If, Ig, Ih, Ii, Ij, Ik, Il, Im, In, Io, Ip, Iq, Ir, Is, It, Iu, Iv, Iw, Ix, Iy, Iz, Ga, Gb, Gc, Gd, Ge, Gf, Gg, Gh, Gi, Gj, Gk, Gl, Gm, Gn, Go, Gp, Gq, Gr, Gs, Gt, Gu, Gv, Gw, Gx, Gy, Gz, Ba, Bb, Bc, Bd, Be, Bf, Bg, Bh, Bi], []⟩ w := by
 have zz := And.intro hr1 (And.intro hn1 (And.intro ca0 (And.intro ca1 (And.intro cb0 (And.intro cb1 (And.intro ct0 (And.intro ct1 (And.intro ct2 (And.intro ct3 (And.intro cc0 (And.intro cc1 (And.intro cc2 (And.intro cc3 (And.intro cm (And.intro C1 (And.intro C3 (And.intro CG (And.intro CP (HQ)))))))))))))))))))
 clear zz
 unfold E4.v
 have HH := hidden hH0
 have FQ := hidden (HQ.out R1 I1 cR1 cI1 g1 cn1 R2 I2 cR2 cI2 g2 cn2 tb s N6 N10 AB _ HH.out R0.out RA.out RB.out GEB.out GE6.out GE10.out)
 refine wpAnyH_done (by kernel_rfl) ?_ _
 refine NoPanic.normal ?_
 exact FQ.out
def lw20_s6 (w : World) (hH0 : Below W.heap.size W w) (GES : Hid (W.heap.size ≤ s)) (RA : Hid (Rl w N6 0 n fa)) (RB : Hid (Rl w N10 0 n fb)) (GE6 : Hid (W.heap.size ≤ N6)) (GE10 : Hid (W.heap.size ≤ N10)) (TH : Hid (w.there AB 0 10)) (R0 : Hid (w.rangeAt AB 0 [.int .u64 0, .int .u64 0, .int .u64 0, .int .u64 0, .int .u64 0, .int .u64 0, .int .u64 0, .int .u64 0, .slice none 0 0, .slice none 0 0])) (GEB : Hid (W.heap.size ≤ AB)) (NE6 : Hid (N6 ≠ AB)) (NE10 : Hid (N10 ≠ AB)) : wpAnyH Tryz.prog .any lw20o (NoPanic Q) (fun x => Below W.heap.size W x) 2 #[true, true, true, true, true, true, true, true, true, true, true, true, true, true, true, true, true, true, true, false, false] ⟨#[Xa, Xb, Xc, Xd, Xe, Xf, Xg, Xh, Xi, Xj, Xk, Xl, Xm, Xn, Xo, .pointer (some ⟨T15, 0, none⟩), Xq, Xr, Xs, .slice (some ⟨A3, 0, none⟩) n c3, Xu, Xv, .pointer (some ⟨T22, 0, none⟩), .pointer (some ⟨T23, 0, none⟩), .pointer (some ⟨T24, 0, none⟩), Xz, .slice (some ⟨A4, 0, none⟩) n c4, Yb, .pointer (some ⟨AB, 0, none⟩), Yd, Ye, Yf, Yg, Yh, Yi, Yj, Yk, Yl, Ym, Yn, Yo, Yp, Yq, Yr, Ys, Yt, Yu, Yv, Yw, Yx, Yy, Yz, Za, Zb, Zc, Zd, Ze, Zf, Zg, Zh, Zi, Zj, Zk, Zl, Zm, Zn, Zo, Zp, Zq, Zr, Zs, Zt, Zu, Zv, Zw, Zx, Zy, Zz, Ua, Ub, Uc, Ud, Ue, Uf, Ug, Uh, Ui, Uj, Uk, Ul, Um, Un, Uo, Up, Uq, Ur, Us, Ut, Uu, Uv, Uw, Ux, Uy, Uz, Da, Db, Dc, Dd, De, Df, Dg, Dh, Di, Dj, Dk, Dl, Dm, Dn, Do, Dp, Dq, Dr, Ds, Dt, Du, Dv, Dw, Dx, Dy, Dz, .tuple #[.agg #[.int .u64 v.x0, .int .u64 v.x1, .int .u64 v.x2, .int .u64 v.x3, .int .u64 u.x0, .int .u64 u.x1, .int .u64 u.x2, .int .u64 u.x3, .slice (some ⟨N10, 0, none⟩) n n, .slice (some ⟨N6, 0, none⟩) n n], .int .i64 0], .agg #[.slice (some ⟨RR, 0, none⟩) r cRR, .slice (some ⟨J1, 0, none⟩) r cJ1], .agg #[.slice (some ⟨R1, 0, none⟩) r cR1, .slice (some ⟨I1, 0, none⟩) r cI1], .agg #[.slice (some ⟨RR, 0, none⟩) r cRR, .slice (some ⟨J2, 0, none⟩) r cJ2], .agg #[.slice (some ⟨R2, 0, none⟩) r cR2, .slice (some ⟨I2, 0, none⟩) r cI2], .slice (some ⟨A3, 0, none⟩) n c3, .slice (some ⟨A4, 0, none⟩) n c4, .pointer (some ⟨T24, 0, none⟩), c.v, .pointer (some ⟨T24, 8, none⟩), .slice (some ⟨A6, 0, none⟩) n c6, t.v, .slice (some ⟨tb, 0, none⟩) 1 1, .pointer (some ⟨s, 0, none⟩), .iface 45 (.pointer (some ⟨s, 0, none⟩)), .tuple #[.agg #[.int .u64 v.x0, .int .u64 v.x1, .int .u64 v.x2, .int .u64 v.x3, .int .u64 u.x0, .int .u64 u.x1, .int .u64 u.x2, .int .u64 u.x3, .slice (some ⟨N10, 0, none⟩) n n, .slice (some ⟨N6, 0, none⟩) n n], .int .i64 0], .agg #[.int .u64 v.x0, .int .u64 v.x1, .int .u64 v.x2, .int .u64 v.x3, .int .u64 u.x0, .int .u64 u.x1, .int .u64 u.x2, .int .u64 u.x3, .slice (some ⟨N10, 0, none⟩) n n, .slice (some ⟨N6, 0, none⟩) n n], .int .i64 0, Js, Jt, Ju, Jv, Jw, Jx, Jy, Jz, Ia, Ib, Ic, Id, Ie, If, Ig, Ih, Ii, Ij, Ik, Il, Im, In, Io, Ip, Iq, Ir, Is, It, Iu, Iv, Iw, Ix, Iy, Iz, Ga, Gb, Gc, Gd, Ge, Gf, Gg, Gh, Gi, Gj, Gk, Gl, Gm, Gn, Go, Gp, Gq, Gr, Gs, Gt, Gu, Gv, Gw, Gx, Gy, Gz, Ba, Bb, Bc, Bd, Be, Bf, Bg, Bh, Bi], []⟩ w := by
 unfold E4.v
 refine wpAnyH_ready (rs := [19]) (by kernel_rfl) (by simp) ?_
 refine AllReadyH.cons (o := lw20o_19) rfl (fun K hK => ?_) AllReadyH.nil
 unfold lw20o_19
 have HH := hidden hH0
 clear hH0
 refine wp_storeE 34 _ _ rfl AB 0 ([.int .u64 v.x0, .int .u64 v.x1, .int .u64 v.x2, .int .u64 v.x3, .int .u64 u.x0, .int .u64 u.x1, .int .u64 u.x2, .int .u64 u.x3, .slice (some ⟨N10, 0, none⟩) n n, .slice (some ⟨N6, 0, none⟩) n n]) (by rfl) (by rfl) TH.out einfo (one10 v u (some ⟨N10, 0, none⟩) (some ⟨N6, 0, none⟩) n n n n) rfl (fun wn1 hw => ?_)
 have SN := hidden (below_trans HH.out (below_grown (gb_setCells AB [.int .u64 v.x0, .int .u64 v.x1, .int .u64 v.x2, .int .u64 v.x3, .int .u64 u.x0, .int .u64 u.x1, .int .u64 u.x2, .int .u64 u.x3, .slice (some ⟨N10, 0, none⟩) n n, .slice (some ⟨N6, 0, none⟩) n n] 0 _) HH.out.size (fun k hk => (Option.some.inj hk) ▸ GEB.out)))
 replace RA := hidden (rl_gb RA.out (gb_setCells AB [.int .u64 v.x0, .int .u64 v.x1, .int .u64 v.x2, .int .u64 v.x3, .int .u64 u.x0, .int .u64 u.x1, .int .u64 u.x2, .int .u64 u.x3, .slice (some ⟨N10, 0, none⟩) n n, .slice (some ⟨N6, 0, none⟩) n n] 0 _) NE6.out)
 replace RB := hidden (rl_gb RB.out (gb_setCells AB [.int .u64 v.x0, .int .u64 v.x1, .int .u64 v.x2, .int .u64 v.x3, .int .u64 u.x0, .int .u64 u.x1, .int .u64 u.x2, .int .u64 u.x3, .slice (some ⟨N10, 0, none⟩) n n, .slice (some ⟨N6, 0, none⟩) n n] 0 _) NE10.out)
 replace R0 := hidden (World.rangeAt_setCells_same _ AB 0 [.int .u64 v.x0, .int .u64 v.x1, .int .u64 v.x2, .int .u64 v.x3, .int .u64 u.x0, .int .u64 u.x1, .int .u64 u.x2, .int .u64 u.x3, .slice (some ⟨N10, 0, none⟩) n n, .slice (some ⟨N6, 0, none⟩) n n] TH.out)
 replace TH := hidden (there_set TH.out AB 0 [.int .u64 v.x0, .int .u64 v.x1, .int .u64 v.x2, .int .u64 v.x3, .int .u64 u.x0, .int .u64 u.x1, .int .u64 u.x2, .int .u64 u.x3, .slice (some ⟨N10, 0, none⟩) n n, .slice (some ⟨N6, 0, none⟩) n n])
 rw [← hw] at SN RA RB R0 TH
 clear HH hw
 refine hK.out _ _ SN.out (fun hH1 => ?_)
 clear hK K SN
 refine tk 20 lw20o_20 (.int .i64 0) rfl (by kernel_rfl) hH1 rfl (fun w0 hSw => ?_) ?_
 ·(unfold lw20o_20; clear hSw; go_simp)
 simp only [lw20o_20, Act.put, sA, sB, sC]
 exact lw20_s7 (g1 := g1) (cn1 := cn1) (g2 := g2) (cn2 := cn2) hr1 hn1 ca0 ca1 cb0 cb1 ct0 ct1 ct2 ct3 cc0 cc1 cc2 cc3 cm C1 C3 CG CP HQ _ hH1 GES RA RB GE6 GE10 TH R0 GEB NE6 NE10
def lw20_s5 (w : World) (hH0 : Below W.heap.size W w) (GES : Hid (W.heap.size ≤ s)) (RA : Hid (Rl w N6 0 n fa)) (RB : Hid (Rl w N10 0 n fb)) (GE6 : Hid (W.heap.size ≤ N6)) (GE10 : Hid (W.heap.size ≤ N10)) : wpAnyH Tryz.prog .any lw20o (NoPanic Q) (fun x => Below W.heap.size W x) 3 #[true, true, true, true, true, true, true, true, true, true, true, true, true, true, true, true, true, true, false, false, false] ⟨#[Xa, Xb, Xc, Xd, Xe, Xf, Xg, Xh, Xi, Xj, Xk, Xl, Xm, Xn, Xo, .pointer (some ⟨T15, 0, none⟩), Xq, Xr, Xs, .slice (some ⟨A3, 0, none⟩) n c3, Xu, Xv, .pointer (some ⟨T22, 0, none⟩), .pointer (some ⟨T23, 0, none⟩), .pointer (some ⟨T24, 0, none⟩), Xz, .slice (some ⟨A4, 0, none⟩) n c4, Yb, Yc, Yd, Ye, Yf, Yg, Yh, Yi, Yj, Yk, Yl, Ym, Yn, Yo, Yp, Yq, Yr, Ys, Yt, Yu, Yv, Yw, Yx, Yy, Yz, Za, Zb, Zc, Zd, Ze, Zf, Zg, Zh, Zi, Zj, Zk, Zl, Zm, Zn, Zo, Zp, Zq, Zr, Zs, Zt, Zu, Zv, Zw, Zx, Zy, Zz, Ua, Ub, Uc, Ud, Ue, Uf, Ug, Uh, Ui, Uj, Uk, Ul, Um, Un, Uo, Up, Uq, Ur, Us, Ut, Uu, Uv, Uw, Ux, Uy, Uz, Da, Db, Dc, Dd, De, Df, Dg, Dh, Di, Dj, Dk, Dl, Dm, Dn, Do, Dp, Dq, Dr, Ds, Dt, Du, Dv, Dw, Dx, Dy, Dz, .tuple #[.agg #[.int .u64 v.x0, .int .u64 v.x1, .int .u64 v.x2, .int .u64 v.x3, .int .u64 u.x0, .int .u64 u.x1, .int .u64 u.x2, .int .u64 u.x3, .slice (some ⟨N10, 0, none⟩) n n, .slice (some ⟨N6, 0, none⟩) n n], .int .i64 0], .agg #[.slice (some ⟨RR, 0, none⟩) r cRR, .slice (some ⟨J1, 0, none⟩) r cJ1], .agg #[.slice (some ⟨R1, 0, none⟩) r cR1, .slice (some ⟨I1, 0, none⟩) r cI1], .agg #[.slice (some ⟨RR, 0, none⟩) r cRR, .slice (some ⟨J2, 0, none⟩) r cJ2], .agg #[.slice (some ⟨R2, 0, none⟩) r cR2, .slice (some ⟨I2, 0, none⟩) r cI2], .slice (some ⟨A3, 0, none⟩) n c3, .slice (some ⟨A4, 0, none⟩) n c4, .pointer (some ⟨T24, 0, none⟩), c.v, .pointer (some ⟨T24, 8, none⟩), .slice (some ⟨A6, 0, none⟩) n c6, t.v, .slice (some ⟨tb, 0, none⟩) 1 1, .pointer (some ⟨s, 0, none⟩), .iface 45 (.pointer (some ⟨s, 0, none⟩)), .tuple #[.agg #[.int .u64 v.x0, .int .u64 v.x1, .int .u64 v.x2, .int .u64 v.x3, .int .u64 u.x0, .int .u64 u.x1, .int .u64 u.x2, .int .u64 u.x3, .slice (some ⟨N10, 0, none⟩) n n, .slice (some ⟨N6, 0, none⟩) n n], .int .i64 0], .agg #[.int .u64 v.x0, .int .u64 v.x1, .int .u64 v.x2, .int .u64 v.x3, .int .u64 u.x0, .int .u64 u.x1, .int .u64 u.x2, .int .u64 u.x3, .slice (some ⟨N10, 0, none⟩) n n, .slice (some ⟨N6, 0, none⟩) n n], .int .i64 0, Js, Jt, Ju, Jv, Jw, Jx, Jy, Jz, Ia, Ib, Ic, Id, Ie, If, Ig, Ih, Ii, Ij, Ik, Il, Im, In, Io, Ip, Iq, Ir, Is, It, Iu, Iv, Iw, Ix, Iy, Iz, Ga, Gb, Gc, Gd, Ge, Gf, Gg, Gh, Gi, Gj, Gk, Gl, Gm, Gn, Go, Gp, Gq, Gr, Gs, Gt, Gu, Gv, Gw, Gx, Gy, Gz, Ba, Bb, Bc, Bd, Be, Bf, Bg, Bh, Bi], []⟩ w := by
 unfold E4.v
 refine wpAnyH_ready (rs := [18]) (by kernel_rfl) (by simp) ?_
 refine AllReadyH.cons (o := lw20o_18) rfl (fun K hK => ?_) AllReadyH.nil
 unfold lw20o_18
 have HH := hidden hH0
 clear hH0
 refine wp_allocE rfl (fun AB wn1 hA hb hth hrg => ?_)
 have NE6 := hidden ((by have := rl_lt RA.out hn1; omega : N6 ≠ AB))
 have NE10 := hidden ((by have := rl_lt RB.out hn1; omega : N10 ≠ AB))
 replace RA := hidden (RA.out.keep hb)
 replace RB := hidden (RB.out.keep hb)
 have GEB := hidden ((by have := HH.out.size; omega : W.heap.size ≤ AB))
 have TH := hidden (hth)
 have R0 := hidden (hrg)
 have SN := hidden (bl_trans HH.out hb)
 clear HH hA hb hth hrg
 simp only [Act.put, sA, sB, sC]
 refine hK.out _ _ SN.out (fun hH1 => ?_)
 clear hK K SN
 exact lw20_s6 (g1 := g1) (cn1 := cn1) (g2 := g2) (cn2 := cn2) hr1 hn1 ca0 ca1 cb0 cb1 ct0 ct1 ct2 ct3 cc0 cc1 cc2 cc3 cm C1 C3 CG CP HQ _ hH1 GES RA RB GE6 GE10 TH R0 GEB NE6 NE10
def lw20_s8 (w : World) (hH0 : Below W.heap.size W w) (K1 : Hid (Cb s w R1 I1 r n g1 cn1 gs im1)) (K2 : Hid (Cb s w R2 I2 r n g2 cn2 gs im2)) (GES : Hid (W.heap.size ≤ s)) (FZ : Hid (Fz w s t)) (TH : Hid (w.there AB 0 10)) (R0 : Hid (w.rangeAt AB 0 [.int .u64 0, .int .u64 0, .int .u64 0, .int .u64 0, .int .u64 0, .int .u64 0, .int .u64 0, .int .u64 0, .slice none 0 0, .slice none 0 0])) (GEB : Hid (W.heap.size ≤ AB)) (NES : Hid (AB ≠ s)) : wpAnyH Tryz.prog .any lw20o (NoPanic Q) (fun x => Below W.heap.size W x) 6 #[true, true, true, true, true, true, true, true, true, true, true, true, true, true, false, false, false, false, true, false, false] ⟨#[Xa, Xb, Xc, Xd, Xe, Xf, Xg, Xh, Xi, Xj, Xk, Xl, Xm, Xn, Xo, .pointer (some ⟨T15, 0, none⟩), Xq, Xr, Xs, .slice (some ⟨A3, 0, none⟩) n c3, Xu, Xv, .pointer (some ⟨T22, 0, none⟩), .pointer (some ⟨T23, 0, none⟩), .pointer (some ⟨T24, 0, none⟩), Xz, .slice (some ⟨A4, 0, none⟩) n c4, Yb, .pointer (some ⟨AB, 0, none⟩), Yd, Ye, Yf, Yg, Yh, Yi, Yj, Yk, Yl, Ym, Yn, Yo, Yp, Yq, Yr, Ys, Yt, Yu, Yv, Yw, Yx, Yy, Yz, Za, Zb, Zc, Zd, Ze, Zf, Zg, Zh, Zi, Zj, Zk, Zl, Zm, Zn, Zo, Zp, Zq, Zr, Zs, Zt, Zu, Zv, Zw, Zx, Zy, Zz, Ua, Ub, Uc, Ud, Ue, Uf, Ug, Uh, Ui, Uj, Uk, Ul, Um, Un, Uo, Up, Uq, Ur, Us, Ut, Uu, Uv, Uw, Ux, Uy, Uz, Da, Db, Dc, Dd, De, Df, Dg, Dh, Di, Dj, Dk, Dl, Dm, Dn, Do, Dp, Dq, Dr, Ds, Dt, Du, Dv, Dw, Dx, Dy, Dz, Ja, .agg #[.slice (some ⟨RR, 0, none⟩) r cRR, .slice (some ⟨J1, 0, none⟩) r cJ1], .agg #[.slice (some ⟨R1, 0, none⟩) r cR1, .slice (some ⟨I1, 0, none⟩) r cI1], .agg #[.slice (some ⟨RR, 0, none⟩) r cRR, .slice (some ⟨J2, 0, none⟩) r cJ2], .agg #[.slice (some ⟨R2, 0, none⟩) r cR2, .slice (some ⟨I2, 0, none⟩) r cI2], .slice (some ⟨A3, 0, none⟩) n c3, .slice (some ⟨A4, 0, none⟩) n c4, .pointer (some ⟨T24, 0, none⟩), c.v, .pointer (some ⟨T24, 8, none⟩), .slice (some ⟨A6, 0, none⟩) n c6, t.v, .slice (some ⟨tb, 0, none⟩) 1 1, .pointer (some ⟨s, 0, none⟩), .iface 45 (.pointer (some ⟨s, 0, none⟩)), Jp, Jq, Jr, Js, Jt, Ju, Jv, Jw, Jx, Jy, Jz, Ia, Ib, Ic, Id, Ie, If, Ig, Ih, Ii, Ij, Ik, Il, Im, In, Io, Ip, Iq, Ir, Is, It, Iu, Iv, Iw, Ix, Iy, Iz, Ga, Gb, Gc, Gd, Ge, Gf, Gg, Gh, Gi, Gj, Gk, Gl, Gm, Gn, Go, Gp, Gq, Gr, Gs, Gt, Gu, Gv, Gw, Gx, Gy, Gz, Ba, Bb, Bc, Bd, Be, Bf, Bg, Bh, Bi], []⟩ w := by
 unfold E4.v
 refine wpAnyH_ready (rs := [14]) (by kernel_rfl) (by simp) ?_
 refine AllReadyH.cons (o := lw20o_14) rfl (fun K hK => ?_) AllReadyH.nil
 unfold lw20o_14
 have HH := hidden hH0
 clear hH0
 go_simp
 refine (CP.out _ s R1 I1 cR1 cI1 R2 I2 cR2 cI2 g1 cn1 g2 cn2 HH.out GES.out K1.out K2.out FZ.out).mono ?_
 rintro e wn1 ⟨N6, N10, rfl, h1, h2, h3, h4, hb⟩
 have NE6 := hidden ((by have := there_lt TH.out; omega : N6 ≠ AB))
 have NE10 := hidden ((by have := there_lt TH.out; omega : N10 ≠ AB))
 replace TH := hidden (there_bt TH.out hb (fun e => NES.out e))
 replace R0 := hidden (fun j u hu => bt_cell (R0.out j u hu) hb (fun e => NES.out e))
 have RA := hidden (h1)
 have RB := hidden (h2)
 have GE6 := hidden ((by have := HH.out.size; omega : W.heap.size ≤ N6))
 have GE10 := hidden ((by have := HH.out.size; omega : W.heap.size ≤ N10))
 have SN := hidden (below_trans HH.out (hb.below HH.out.size (fun k e => by subst e; exact GES.out)))
 clear HH hb h1 h2 h3 h4 K1 K2 FZ
 go_wp2_with fail
 refine hK.out _ _ SN.out (fun hH1 => ?_)
 clear hK K SN
 refine tk 15 lw20o_15 (.tuple #[.agg #[.int .u64 v.x0, .int .u64 v.x1, .int .u64 v.x2, .int .u64 v.x3, .int .u64 u.x0, .int .u64 u.x1, .int .u64 u.x2, .int .u64 u.x3, .slice (some ⟨N10, 0, none⟩) n n, .slice (some ⟨N6, 0, none⟩) n n], .int .i64 0]) rfl (by kernel_rfl) hH1 rfl (fun w0 hSw => ?_) ?_
 ·(unfold lw20o_15; clear hSw; go_simp)
 simp only [lw20o_15, Act.put, sA, sB, sC]
 refine tk 16 lw20o_16 (.agg #[.int .u64 v.x0, .int .u64 v.x1, .int .u64 v.x2, .int .u64 v.x3, .int .u64 u.x0, .int .u64 u.x1, .int .u64 u.x2, .int .u64 u.x3, .slice (some ⟨N10, 0, none⟩) n n, .slice (some ⟨N6, 0, none⟩) n n]) rfl (by kernel_rfl) hH1 rfl (fun w0 hSw => ?_) ?_
 ·(unfold lw20o_16; clear hSw; go_simp)
 simp only [lw20o_16, Act.put, sA, sB, sC]
 refine tk 17 lw20o_17 (.int .i64 0) rfl (by kernel_rfl) hH1 rfl (fun w0 hSw => ?_) ?_
 ·(unfold lw20o_17; clear hSw; go_simp)
 simp only [lw20o_17, Act.put, sA, sB, sC]
 exact lw20_s6 (g1 := g1) (cn1 := cn1) (g2 := g2) (cn2 := cn2) hr1 hn1 ca0 ca1 cb0 cb1 ct0 ct1 ct2 ct3 cc0 cc1 cc2 cc3 cm C1 C3 CG CP HQ _ hH1 GES RA RB GE6 GE10 TH R0 GEB NE6 NE10
def lw20_s4 (w : World) (hH0 : Below W.heap.size W w) (K1 : Hid (Cb s w R1 I1 r n g1 cn1 gs im1)) (K2 : Hid (Cb s w R2 I2 r n g2 cn2 gs im2)) (GES : Hid (W.heap.size ≤ s)) (FZ : Hid (Fz w s t)) : wpAnyH Tryz.prog .any lw20o (NoPanic Q) (fun x => Below W.heap.size W x) 7 #[true, true, true, true, true, true, true, true, true, true, true, true, true, true, false, false, false, false, false, false, false] ⟨#[Xa, Xb, Xc, Xd, Xe, Xf, Xg, Xh, Xi, Xj, Xk, Xl, Xm, Xn, Xo, .pointer (some ⟨T15, 0, none⟩), Xq, Xr, Xs, .slice (some ⟨A3, 0, none⟩) n c3, Xu, Xv, .pointer (some ⟨T22, 0, none⟩), .pointer (some ⟨T23, 0, none⟩), .pointer (some ⟨T24, 0, none⟩), Xz, .slice (some ⟨A4, 0, none⟩) n c4, Yb, Yc, Yd, Ye, Yf, Yg, Yh, Yi, Yj, Yk, Yl, Ym, Yn, Yo, Yp, Yq, Yr, Ys, Yt, Yu, Yv, Yw, Yx, Yy, Yz, Za, Zb, Zc, Zd, Ze, Zf, Zg, Zh, Zi, Zj, Zk, Zl, Zm, Zn, Zo, Zp, Zq, Zr, Zs, Zt, Zu, Zv, Zw, Zx, Zy, Zz, Ua, Ub, Uc, Ud, Ue, Uf, Ug, Uh, Ui, Uj, Uk, Ul, Um, Un, Uo, Up, Uq, Ur, Us, Ut, Uu, Uv, Uw, Ux, Uy, Uz, Da, Db, Dc, Dd, De, Df, Dg, Dh, Di, Dj, Dk, Dl, Dm, Dn, Do, Dp, Dq, Dr, Ds, Dt, Du, Dv, Dw, Dx, Dy, Dz, Ja, .agg #[.slice (some ⟨RR, 0, none⟩) r cRR, .slice (some ⟨J1, 0, none⟩) r cJ1], .agg #[.slice (some ⟨R1, 0, none⟩) r cR1, .slice (some ⟨I1, 0, none⟩) r cI1], .agg #[.slice (some ⟨RR, 0, none⟩) r cRR, .slice (some ⟨J2, 0, none⟩) r cJ2], .agg #[.slice (some ⟨R2, 0, none⟩) r cR2, .slice (some ⟨I2, 0, none⟩) r cI2], .slice (some ⟨A3, 0, none⟩) n c3, .slice (some ⟨A4, 0, none⟩) n c4, .pointer (some ⟨T24, 0, none⟩), c.v, .pointer (some ⟨T24, 8, none⟩), .slice (some ⟨A6, 0, none⟩) n c6, t.v, .slice (some ⟨tb, 0, none⟩) 1 1, .pointer (some ⟨s, 0, none⟩), .iface 45 (.pointer (some ⟨s, 0, none⟩)), Jp, Jq, Jr, Js, Jt, Ju, Jv, Jw, Jx, Jy, Jz, Ia, Ib, Ic, Id, Ie, If, Ig, Ih, Ii, Ij, Ik, Il, Im, In, Io, Ip, Iq, Ir, Is, It, Iu, Iv, Iw, Ix, Iy, Iz, Ga, Gb, Gc, Gd, Ge, Gf, Gg, Gh, Gi, Gj, Gk, Gl, Gm, Gn, Go, Gp, Gq, Gr, Gs, Gt, Gu, Gv, Gw, Gx, Gy, Gz, Ba, Bb, Bc, Bd, Be, Bf, Bg, Bh, Bi], []⟩ w := by
 unfold E4.v
 refine wpAnyH_ready (rs := [14, 18]) (by kernel_rfl) (by simp) ?_
 refine AllReadyH.cons (o := lw20o_14) rfl (fun K hK => ?_) (AllReadyH.cons (o := lw20o_18) rfl (fun K hK => ?_) AllReadyH.nil)
 ·unfold lw20o_14
  have HH := hidden hH0
  clear hH0
  go_simp
  refine (CP.out _ s R1 I1 cR1 cI1 R2 I2 cR2 cI2 g1 cn1 g2 cn2 HH.out GES.out K1.out K2.out FZ.out).mono ?_
  rintro e wn1 ⟨N6, N10, rfl, h1, h2, h3, h4, hb⟩
  have RA := hidden (h1)
  have RB := hidden (h2)
  have GE6 := hidden ((by have := HH.out.size; omega : W.heap.size ≤ N6))
  have GE10 := hidden ((by have := HH.out.size; omega : W.heap.size ≤ N10))
  have SN := hidden (below_trans HH.out (hb.below HH.out.size (fun k e => by subst e; exact GES.out)))
  clear HH hb h1 h2 h3 h4 K1 K2 FZ
  go_wp2_with fail
  refine hK.out _ _ SN.out (fun hH1 => ?_)
  clear hK K SN
  refine tk 15 lw20o_15 (.tuple #[.agg #[.int .u64 v.x0, .int .u64 v.x1, .int .u64 v.x2, .int .u64 v.x3, .int .u64 u.x0, .int .u64 u.x1, .int .u64 u.x2, .int .u64 u.x3, .slice (some ⟨N10, 0, none⟩) n n, .slice (some ⟨N6, 0, none⟩) n n], .int .i64 0]) rfl (by kernel_rfl) hH1 rfl (fun w0 hSw => ?_) ?_
  ·(unfold lw20o_15; clear hSw; go_simp)
  simp only [lw20o_15, Act.put, sA, sB, sC]
  refine tk 16 lw20o_16 (.agg #[.int .u64 v.x0, .int .u64 v.x1, .int .u64 v.x2, .int .u64 v.x3, .int .u64 u.x0, .int .u64 u.x1, .int .u64 u.x2, .int .u64 u.x3, .slice (some ⟨N10, 0, none⟩) n n, .slice (some ⟨N6, 0, none⟩) n n]) rfl (by kernel_rfl) hH1 rfl (fun w0 hSw => ?_) ?_
  ·(unfold lw20o_16; clear hSw; go_simp)
  simp only [lw20o_16, Act.put, sA, sB, sC]
  refine tk 17 lw20o_17 (.int .i64 0) rfl (by kernel_rfl) hH1 rfl (fun w0 hSw => ?_) ?_
  ·(unfold lw20o_17; clear hSw; go_simp)
  simp only [lw20o_17, Act.put, sA, sB, sC]
  exact lw20_s5 (g1 := g1) (cn1 := cn1) (g2 := g2) (cn2 := cn2) hr1 hn1 ca0 ca1 cb0 cb1 ct0 ct1 ct2 ct3 cc0 cc1 cc2 cc3 cm C1 C3 CG CP HQ _ hH1 GES RA RB GE6 GE10
 ·unfold lw20o_18
  have HH := hidden hH0
  clear hH0
  refine wp_allocE rfl (fun AB wn1 hA hb hth hrg => ?_)
  have NES := hidden ((by have := FZ.out.lt; omega : AB ≠ s))
  replace K1 := hidden (K1.out.keep hb)
  replace K2 := hidden (K2.out.keep hb)
  replace FZ := hidden (FZ.out.keep hb)
  have GEB := hidden ((by have := HH.out.size; omega : W.heap.size ≤ AB))
  have TH := hidden (hth)
  have R0 := hidden (hrg)
  have SN := hidden (bl_trans HH.out hb)
  clear HH hA hb hth hrg
  simp only [Act.put, sA, sB, sC]
  refine hK.out _ _ SN.out (fun hH1 => ?_)
  clear hK K SN
  exact lw20_s8 hr1 hn1 ca0 ca1 cb0 cb1 ct0 ct1 ct2 ct3 cc0 cc1 cc2 cc3 cm C1 C3 CG CP HQ _ hH1 K1 K2 GES FZ TH R0 GEB NES
def lw20_s9 (w : World) (hH0 : Below W.heap.size W w) (K1 : Hid (Cl w R1 I1 r n g1 cn1 gs im1)) (K2 : Hid (Cl w R2 I2 r n g2 cn2 gs im2)) (RT : Hid (w.rangeAt tb 0 [.int .u64 t.x0, .int .u64 t.x1, .int .u64 t.x2, .int .u64 t.x3])) (TH : Hid (w.there AB 0 10)) (R0 : Hid (w.rangeAt AB 0 [.int .u64 0, .int .u64 0, .int .u64 0, .int .u64 0, .int .u64 0, .int .u64 0, .int .u64 0, .int .u64 0, .slice none 0 0, .slice none 0 0])) (GEB : Hid (W.heap.size ≤ AB)) : wpAnyH Tryz.prog .any lw20o (NoPanic Q) (fun x => Below W.heap.size W x) 8 #[true, true, true, true, true, true, true, true, true, true, true, true, false, false, false, false, false, false, true, false, false] ⟨#[Xa, Xb, Xc, Xd, Xe, Xf, Xg, Xh, Xi, Xj, Xk, Xl, Xm, Xn, Xo, .pointer (some ⟨T15, 0, none⟩), Xq, Xr, Xs, .slice (some ⟨A3, 0, none⟩) n c3, Xu, Xv, .pointer (some ⟨T22, 0, none⟩), .pointer (some ⟨T23, 0, none⟩), .pointer (some ⟨T24, 0, none⟩), Xz, .slice (some ⟨A4, 0, none⟩) n c4, Yb, .pointer (some ⟨AB, 0, none⟩), Yd, Ye, Yf, Yg, Yh, Yi, Yj, Yk, Yl, Ym, Yn, Yo, Yp, Yq, Yr, Ys, Yt, Yu, Yv, Yw, Yx, Yy, Yz, Za, Zb, Zc, Zd, Ze, Zf, Zg, Zh, Zi, Zj, Zk, Zl, Zm, Zn, Zo, Zp, Zq, Zr, Zs, Zt, Zu, Zv, Zw, Zx, Zy, Zz, Ua, Ub, Uc, Ud, Ue, Uf, Ug, Uh, Ui, Uj, Uk, Ul, Um, Un, Uo, Up, Uq, Ur, Us, Ut, Uu, Uv, Uw, Ux, Uy, Uz, Da, Db, Dc, Dd, De, Df, Dg, Dh, Di, Dj, Dk, Dl, Dm, Dn, Do, Dp, Dq, Dr, Ds, Dt, Du, Dv, Dw, Dx, Dy, Dz, Ja, .agg #[.slice (some ⟨RR, 0, none⟩) r cRR, .slice (some ⟨J1, 0, none⟩) r cJ1], .agg #[.slice (some ⟨R1, 0, none⟩) r cR1, .slice (some ⟨I1, 0, none⟩) r cI1], .agg #[.slice (some ⟨RR, 0, none⟩) r cRR, .slice (some ⟨J2, 0, none⟩) r cJ2], .agg #[.slice (some ⟨R2, 0, none⟩) r cR2, .slice (some ⟨I2, 0, none⟩) r cI2], .slice (some ⟨A3, 0, none⟩) n c3, .slice (some ⟨A4, 0, none⟩) n c4, .pointer (some ⟨T24, 0, none⟩), c.v, .pointer (some ⟨T24, 8, none⟩), .slice (some ⟨A6, 0, none⟩) n c6, t.v, .slice (some ⟨tb, 0, none⟩) 1 1, Jn, Jo, Jp, Jq, Jr, Js, Jt, Ju, Jv, Jw, Jx, Jy, Jz, Ia, Ib, Ic, Id, Ie, If, Ig, Ih, Ii, Ij, Ik, Il, Im, In, Io, Ip, Iq, Ir, Is, It, Iu, Iv, Iw, Ix, Iy, Iz, Ga, Gb, Gc, Gd, Ge, Gf, Gg, Gh, Gi, Gj, Gk, Gl, Gm, Gn, Go, Gp, Gq, Gr, Gs, Gt, Gu, Gv, Gw, Gx, Gy, Gz, Ba, Bb, Bc, Bd, Be, Bf, Bg, Bh, Bi], []⟩ w := by
 unfold E4.v
 refine wpAnyH_ready (rs := [12]) (by kernel_rfl) (by simp) ?_
 refine AllReadyH.cons (o := lw20o_12) rfl (fun K hK => ?_) AllReadyH.nil
 unfold lw20o_12
 have HH := hidden hH0
 clear hH0
 go_simp
 refine (CG.out _ tb HH.out RT.out).mono ?_
 rintro e wn1 ⟨s, rfl, hF, hs, hb⟩
 have NES := hidden ((by have := there_lt TH.out; omega : AB ≠ s))
 replace TH := hidden (Li.there_bl TH.out hb)
 replace R0 := hidden (range_bl R0.out hb)
 replace K1 := hidden (cb_of (K1.out) hs (K1.out.keep hb) hr1 hn1)
 replace K2 := hidden (cb_of (K2.out) hs (K2.out.keep hb) hr1 hn1)
 have FZ := hidden (hF)
 have GES := hidden ((by have := HH.out.size; omega : W.heap.size ≤ s))
 have SN := hidden (bl_trans HH.out hb)
 clear HH hb hF hs RT
 go_wp2_with fail
 refine hK.out _ _ SN.out (fun hH1 => ?_)
 clear hK K SN
 refine tk 13 lw20o_13 (.iface 45 (.pointer (some ⟨s, 0, none⟩))) rfl (by kernel_rfl) hH1 rfl (fun w0 hSw => ?_) ?_
 ·(unfold lw20o_13; clear hSw; go_simp)
 simp only [lw20o_13, Act.put, sA, sB, sC]
 exact lw20_s8 hr1 hn1 ca0 ca1 cb0 cb1 ct0 ct1 ct2 ct3 cc0 cc1 cc2 cc3 cm C1 C3 CG CP HQ _ hH1 K1 K2 GES FZ TH R0 GEB NES
def lw20_s3 (w : World) (hH0 : Below W.heap.size W w) (K1 : Hid (Cl w R1 I1 r n g1 cn1 gs im1)) (K2 : Hid (Cl w R2 I2 r n g2 cn2 gs im2)) (RT : Hid (w.rangeAt tb 0 [.int .u64 t.x0, .int .u64 t.x1, .int .u64 t.x2, .int .u64 t.x3])) : wpAnyH Tryz.prog .any lw20o (NoPanic Q) (fun x => Below W.heap.size W x) 9 #[true, true, true, true, true, true, true, true, true, true, true, true, false, false, false, false, false, false, false, false, false] ⟨#[Xa, Xb, Xc, Xd, Xe, Xf, Xg, Xh, Xi, Xj, Xk, Xl, Xm, Xn, Xo, .pointer (some ⟨T15, 0, none⟩), Xq, Xr, Xs, .slice (some ⟨A3, 0, none⟩) n c3, Xu, Xv, .pointer (some ⟨T22, 0, none⟩), .pointer (some ⟨T23, 0, none⟩), .pointer (some ⟨T24, 0, none⟩), Xz, .slice (some ⟨A4, 0, none⟩) n c4, Yb, Yc, Yd, Ye, Yf, Yg, Yh, Yi, Yj, Yk, Yl, Ym, Yn, Yo, Yp, Yq, Yr, Ys, Yt, Yu, Yv, Yw, Yx, Yy, Yz, Za, Zb, Zc, Zd, Ze, Zf, Zg, Zh, Zi, Zj, Zk, Zl, Zm, Zn, Zo, Zp, Zq, Zr, Zs, Zt, Zu, Zv, Zw, Zx, Zy, Zz, Ua, Ub, Uc, Ud, Ue, Uf, Ug, Uh, Ui, Uj, Uk, Ul, Um, Un, Uo, Up, Uq, Ur, Us, Ut, Uu, Uv, Uw, Ux, Uy, Uz, Da, Db, Dc, Dd, De, Df, Dg, Dh, Di, Dj, Dk, Dl, Dm, Dn, Do, Dp, Dq, Dr, Ds, Dt, Du, Dv, Dw, Dx, Dy, Dz, Ja, .agg #[.slice (some ⟨RR, 0, none⟩) r cRR, .slice (some ⟨J1, 0, none⟩) r cJ1], .agg #[.slice (some ⟨R1, 0, none⟩) r cR1, .slice (some ⟨I1, 0, none⟩) r cI1], .agg #[.slice (some ⟨RR, 0, none⟩) r cRR, .slice (some ⟨J2, 0, none⟩) r cJ2], .agg #[.slice (some ⟨R2, 0, none⟩) r cR2, .slice (some ⟨I2, 0, none⟩) r cI2], .slice (some ⟨A3, 0, none⟩) n c3, .slice (some ⟨A4, 0, none⟩) n c4, .pointer (some ⟨T24, 0, none⟩), c.v, .pointer (some ⟨T24, 8, none⟩), .slice (some ⟨A6, 0, none⟩) n c6, t.v, .slice (some ⟨tb, 0, none⟩) 1 1, Jn, Jo, Jp, Jq, Jr, Js, Jt, Ju, Jv, Jw, Jx, Jy, Jz, Ia, Ib, Ic, Id, Ie, If, Ig, Ih, Ii, Ij, Ik, Il, Im, In, Io, Ip, Iq, Ir, Is, It, Iu, Iv, Iw, Ix, Iy, Iz, Ga, Gb, Gc, Gd, Ge, Gf, Gg, Gh, Gi, Gj, Gk, Gl, Gm, Gn, Go, Gp, Gq, Gr, Gs, Gt, Gu, Gv, Gw, Gx, Gy, Gz, Ba, Bb, Bc, Bd, Be, Bf, Bg, Bh, Bi], []⟩ w := by
 unfold E4.v
 refine wpAnyH_ready (rs := [12, 18]) (by kernel_rfl) (by simp) ?_
 refine AllReadyH.cons (o := lw20o_12) rfl (fun K hK => ?_) (AllReadyH.cons (o := lw20o_18) rfl (fun K hK => ?_) AllReadyH.nil)
 ·unfold lw20o_12
  have HH := hidden hH0
  clear hH0
  go_simp
  refine (CG.out _ tb HH.out RT.out).mono ?_
  rintro e wn1 ⟨s, rfl, hF, hs, hb⟩
  replace K1 := hidden (cb_of (K1.out) hs (K1.out.keep hb) hr1 hn1)
  replace K2 := hidden (cb_of (K2.out) hs (K2.out.keep hb) hr1 hn1)
  have FZ := hidden (hF)
  have GES := hidden ((by have := HH.out.size; omega : W.heap.size ≤ s))
  have SN := hidden (bl_trans HH.out hb)
  clear HH hb hF hs RT
  go_wp2_with fail
  refine hK.out _ _ SN.out (fun hH1 => ?_)
  clear hK K SN
  refine tk 13 lw20o_13 (.iface 45 (.pointer (some ⟨s, 0, none⟩))) rfl (by kernel_rfl) hH1 rfl (fun w0 hSw => ?_) ?_
  ·(unfold lw20o_13; clear hSw; go_simp)
  simp only [lw20o_13, Act.put, sA, sB, sC]
  exact lw20_s4 hr1 hn1 ca0 ca1 cb0 cb1 ct0 ct1 ct2 ct3 cc0 cc1 cc2 cc3 cm C1 C3 CG CP HQ _ hH1 K1 K2 GES FZ
 ·unfold lw20o_18
  have HH := hidden hH0
  clear hH0
  refine wp_allocE rfl (fun AB wn1 hA hb hth hrg => ?_)
  replace K1 := hidden (K1.out.keep hb)
  replace K2 := hidden (K2.out.keep hb)
  replace RT := hidden (range_bl RT.out hb)
  have GEB := hidden ((by have := HH.out.size; omega : W.heap.size ≤ AB))
  have TH := hidden (hth)
  have R0 := hidden (hrg)
  have SN := hidden (bl_trans HH.out hb)
  clear HH hA hb hth hrg
  simp only [Act.put, sA, sB, sC]
  refine hK.out _ _ SN.out (fun hH1 => ?_)
  clear hK K SN
  exact lw20_s9 hr1 hn1 ca0 ca1 cb0 cb1 ct0 ct1 ct2 ct3 cc0 cc1 cc2 cc3 cm C1 C3 CG CP HQ _ hH1 K1 K2 RT TH R0 GEB
def lw20_s10 (w : World) (hH0 : Below W.heap.size W w) (K1 : Hid (Cl w R1 I1 r n g1 cn1 gs im1)) (K2 : Hid (Cl w R2 I2 r n g2 cn2 gs im2)) (TH : Hid (w.there AB 0 10)) (R0 : Hid (w.rangeAt AB 0 [.int .u64 0, .int .u64 0, .int .u64 0, .int .u64 0, .int .u64 0, .int .u64 0, .int .u64 0, .int .u64 0, .slice none 0 0, .slice none 0 0])) (GEB : Hid (W.heap.size ≤ AB)) : wpAnyH Tryz.prog .any lw20o (NoPanic Q) (fun x => Below W.heap.size W x) 9 #[true, true, true, true, true, true, true, true, true, true, true, false, false, false, false, false, false, false, true, false, false] ⟨#[Xa, Xb, Xc, Xd, Xe, Xf, Xg, Xh, Xi, Xj, Xk, Xl, Xm, Xn, Xo, .pointer (some ⟨T15, 0, none⟩), Xq, Xr, Xs, .slice (some ⟨A3, 0, none⟩) n c3, Xu, Xv, .pointer (some ⟨T22, 0, none⟩), .pointer (some ⟨T23, 0, none⟩), .pointer (some ⟨T24, 0, none⟩), Xz, .slice (some ⟨A4, 0, none⟩) n c4, Yb, .pointer (some ⟨AB, 0, none⟩), Yd, Ye, Yf, Yg, Yh, Yi, Yj, Yk, Yl, Ym, Yn, Yo, Yp, Yq, Yr, Ys, Yt, Yu, Yv, Yw, Yx, Yy, Yz, Za, Zb, Zc, Zd, Ze, Zf, Zg, Zh, Zi, Zj, Zk, Zl, Zm, Zn, Zo, Zp, Zq, Zr, Zs, Zt, Zu, Zv, Zw, Zx, Zy, Zz, Ua, Ub, Uc, Ud, Ue, Uf, Ug, Uh, Ui, Uj, Uk, Ul, Um, Un, Uo, Up, Uq, Ur, Us, Ut, Uu, Uv, Uw, Ux, Uy, Uz, Da, Db, Dc, Dd, De, Df, Dg, Dh, Di, Dj, Dk, Dl, Dm, Dn, Do, Dp, Dq, Dr, Ds, Dt, Du, Dv, Dw, Dx, Dy, Dz, Ja, .agg #[.slice (some ⟨RR, 0, none⟩) r cRR, .slice (some ⟨J1, 0, none⟩) r cJ1], .agg #[.slice (some ⟨R1, 0, none⟩) r cR1, .slice (some ⟨I1, 0, none⟩) r cI1], .agg #[.slice (some ⟨RR, 0, none⟩) r cRR, .slice (some ⟨J2, 0, none⟩) r cJ2], .agg #[.slice (some ⟨R2, 0, none⟩) r cR2, .slice (some ⟨I2, 0, none⟩) r cI2], .slice (some ⟨A3, 0, none⟩) n c3, .slice (some ⟨A4, 0, none⟩) n c4, .pointer (some ⟨T24, 0, none⟩), c.v, .pointer (some ⟨T24, 8, none⟩), .slice (some ⟨A6, 0, none⟩) n c6, t.v, Jm, Jn, Jo, Jp, Jq, Jr, Js, Jt, Ju, Jv, Jw, Jx, Jy, Jz, Ia, Ib, Ic, Id, Ie, If, Ig, Ih, Ii, Ij, Ik, Il, Im, In, Io, Ip, Iq, Ir, Is, It, Iu, Iv, Iw, Ix, Iy, Iz, Ga, Gb, Gc, Gd, Ge, Gf, Gg, Gh, Gi, Gj, Gk, Gl, Gm, Gn, Go, Gp, Gq, Gr, Gs, Gt, Gu, Gv, Gw, Gx, Gy, Gz, Ba, Bb, Bc, Bd, Be, Bf, Bg, Bh, Bi], []⟩ w := by
 unfold E4.v
 refine wpAnyH_ready (rs := [11]) (by kernel_rfl) (by simp) ?_
 refine AllReadyH.cons (o := lw20o_11) rfl (fun K hK => ?_) AllReadyH.nil
 unfold lw20o_11
 have HH := hidden hH0
 clear hH0
 refine Li.wp_buildS1 (.tmp 141) rfl t rfl (fun tb wn1 hb hrt => ?_)
 replace K1 := hidden (K1.out.keep hb)
 replace K2 := hidden (K2.out.keep hb)
 replace TH := hidden (Li.there_bl TH.out hb)
 replace R0 := hidden (range_bl R0.out hb)
 have RT := hidden (hrt)
 have SN := hidden (bl_trans HH.out hb)
 clear HH hb hrt
 simp only [Act.put, sA, sB, sC]
 refine hK.out _ _ SN.out (fun hH1 => ?_)
 clear hK K SN
 exact lw20_s9 hr1 hn1 ca0 ca1 cb0 cb1 ct0 ct1 ct2 ct3 cc0 cc1 cc2 cc3 cm C1 C3 CG CP HQ _ hH1 K1 K2 RT TH R0 GEB
def lw20_s2 (w : World) (hH0 : Below W.heap.size W w) (K1 : Hid (Cl w R1 I1 r n g1 cn1 gs im1)) (K2 : Hid (Cl w R2 I2 r n g2 cn2 gs im2)) : wpAnyH Tryz.prog .any lw20o (NoPanic Q) (fun x => Below W.heap.size W x) 10 #[true, true, true, true, true, true, true, true, true, true, true, false, false, false, false, false, false, false, false, false, false] ⟨#[Xa, Xb, Xc, Xd, Xe, Xf, Xg, Xh, Xi, Xj, Xk, Xl, Xm, Xn, Xo, .pointer (some ⟨T15, 0, none⟩), Xq, Xr, Xs, .slice (some ⟨A3, 0, none⟩) n c3, Xu, Xv, .pointer (some ⟨T22, 0, none⟩), .pointer (some ⟨T23, 0, none⟩), .pointer (some ⟨T24, 0, none⟩), Xz, .slice (some ⟨A4, 0, none⟩) n c4, Yb, Yc, Yd, Ye, Yf, Yg, Yh, Yi, Yj, Yk, Yl, Ym, Yn, Yo, Yp, Yq, Yr, Ys, Yt, Yu, Yv, Yw, Yx, Yy, Yz, Za, Zb, Zc, Zd, Ze, Zf, Zg, Zh, Zi, Zj, Zk, Zl, Zm, Zn, Zo, Zp, Zq, Zr, Zs, Zt, Zu, Zv, Zw, Zx, Zy, Zz, Ua, Ub, Uc, Ud, Ue, Uf, Ug, Uh, Ui, Uj, Uk, Ul, Um, Un, Uo, Up, Uq, Ur, Us, Ut, Uu, Uv, Uw, Ux, Uy, Uz, Da, Db, Dc, Dd, De, Df, Dg, Dh, Di, Dj, Dk, Dl, Dm, Dn, Do, Dp, Dq, Dr, Ds, Dt, Du, Dv, Dw, Dx, Dy, Dz, Ja, .agg #[.slice (some ⟨RR, 0, none⟩) r cRR, .slice (some ⟨J1, 0, none⟩) r cJ1], .agg #[.slice (some ⟨R1, 0, none⟩) r cR1, .slice (some ⟨I1, 0, none⟩) r cI1], .agg #[.slice (some ⟨RR, 0, none⟩) r cRR, .slice (some ⟨J2, 0, none⟩) r cJ2], .agg #[.slice (some ⟨R2, 0, none⟩) r cR2, .slice (some ⟨I2, 0, none⟩) r cI2], .slice (some ⟨A3, 0, none⟩) n c3, .slice (some ⟨A4, 0, none⟩) n c4, .pointer (some ⟨T24, 0, none⟩), c.v, .pointer (some ⟨T24, 8, none⟩), .slice (some ⟨A6, 0, none⟩) n c6, t.v, Jm, Jn, Jo, Jp, Jq, Jr, Js, Jt, Ju, Jv, Jw, Jx, Jy, Jz, Ia, Ib, Ic, Id, Ie, If, Ig, Ih, Ii, Ij, Ik, Il, Im, In, Io, Ip, Iq, Ir, Is, It, Iu, Iv, Iw, Ix, Iy, Iz, Ga, Gb, Gc, Gd, Ge, Gf, Gg, Gh, Gi, Gj, Gk, Gl, Gm, Gn, Go, Gp, Gq, Gr, Gs, Gt, Gu, Gv, Gw, Gx, Gy, Gz, Ba, Bb, Bc, Bd, Be, Bf, Bg, Bh, Bi], []⟩ w := by
 unfold E4.v
 refine wpAnyH_ready (rs := [11, 18]) (by kernel_rfl) (by simp) ?_
 refine AllReadyH.cons (o := lw20o_11) rfl (fun K hK => ?_) (AllReadyH.cons (o := lw20o_18) rfl (fun K hK => ?_) AllReadyH.nil)
 ·unfold lw20o_11
  have HH := hidden hH0
  clear hH0
  refine Li.wp_buildS1 (.tmp 141) rfl t rfl (fun tb wn1 hb hrt => ?_)
  replace K1 := hidden (K1.out.keep hb)
  replace K2 := hidden (K2.out.keep hb)
  have RT := hidden (hrt)
  have SN := hidden (bl_trans HH.out hb)
  clear HH hb hrt
  simp only [Act.put, sA, sB, sC]
  refine hK.out _ _ SN.out (fun hH1 => ?_)
  clear hK K SN
  exact lw20_s3 hr1 hn1 ca0 ca1 cb0 cb1 ct0 ct1 ct2 ct3 cc0 cc1 cc2 cc3 cm C1 C3 CG CP HQ _ hH1 K1 K2 RT
 ·unfold lw20o_18
  have HH := hidden hH0
  clear hH0
  refine wp_allocE rfl (fun AB wn1 hA hb hth hrg => ?_)
  replace K1 := hidden (K1.out.keep hb)
  replace K2 := hidden (K2.out.keep hb)
  have GEB := hidden ((by have := HH.out.size; omega : W.heap.size ≤ AB))
  have TH := hidden (hth)
  have R0 := hidden (hrg)
  have SN := hidden (bl_trans HH.out hb)
  clear HH hA hb hth hrg
  simp only [Act.put, sA, sB, sC]
  refine hK.out _ _ SN.out (fun hH1 => ?_)
  clear hK K SN
  exact lw20_s10 hr1 hn1 ca0 ca1 cb0 cb1 ct0 ct1 ct2 ct3 cc0 cc1 cc2 cc3 cm C1 C3 CG CP HQ _ hH1 K1 K2 TH R0 GEB
def lw20_s12 (w : World) (hH0 : Below W.heap.size W w) (K1 : Hid (Cl w R1 I1 r n g1 cn1 gs im1)) (RT : Hid (w.rangeAt tb 0 [.int .u64 t.x0, .int .u64 t.x1, .int .u64 t.x2, .int .u64 t.x3])) (TH : Hid (w.there AB 0 10)) (R0 : Hid (w.rangeAt AB 0 [.int .u64 0, .int .u64 0, .int .u64 0, .int .u64 0, .int .u64 0, .int .u64 0, .int .u64 0, .int .u64 0, .slice none 0 0, .slice none 0 0])) (GEB : Hid (W.heap.size ≤ AB)) : wpAnyH Tryz.prog .any lw20o (NoPanic Q) (fun x => Below W.heap.size W x) 9 #[true, true, true, false, true, true, true, true, true, true, true, true, false, false, false, false, false, false, true, false, false] ⟨#[Xa, Xb, Xc, Xd, Xe, Xf, Xg, Xh, Xi, Xj, Xk, Xl, Xm, Xn, Xo, .pointer (some ⟨T15, 0, none⟩), Xq, Xr, Xs, .slice (some ⟨A3, 0, none⟩) n c3, Xu, Xv, .pointer (some ⟨T22, 0, none⟩), .pointer (some ⟨T23, 0, none⟩), .pointer (some ⟨T24, 0, none⟩), Xz, .slice (some ⟨A4, 0, none⟩) n c4, Yb, .pointer (some ⟨AB, 0, none⟩), Yd, Ye, Yf, Yg, Yh, Yi, Yj, Yk, Yl, Ym, Yn, Yo, Yp, Yq, Yr, Ys, Yt, Yu, Yv, Yw, Yx, Yy, Yz, Za, Zb, Zc, Zd, Ze, Zf, Zg, Zh, Zi, Zj, Zk, Zl, Zm, Zn, Zo, Zp, Zq, Zr, Zs, Zt, Zu, Zv, Zw, Zx, Zy, Zz, Ua, Ub, Uc, Ud, Ue, Uf, Ug, Uh, Ui, Uj, Uk, Ul, Um, Un, Uo, Up, Uq, Ur, Us, Ut, Uu, Uv, Uw, Ux, Uy, Uz, Da, Db, Dc, Dd, De, Df, Dg, Dh, Di, Dj, Dk, Dl, Dm, Dn, Do, Dp, Dq, Dr, Ds, Dt, Du, Dv, Dw, Dx, Dy, Dz, Ja, .agg #[.slice (some ⟨RR, 0, none⟩) r cRR, .slice (some ⟨J1, 0, none⟩) r cJ1], .agg #[.slice (some ⟨R1, 0, none⟩) r cR1, .slice (some ⟨I1, 0, none⟩) r cI1], .agg #[.slice (some ⟨RR, 0, none⟩) r cRR, .slice (some ⟨J2, 0, none⟩) r cJ2], Je, .slice (some ⟨A3, 0, none⟩) n c3, .slice (some ⟨A4, 0, none⟩) n c4, .pointer (some ⟨T24, 0, none⟩), c.v, .pointer (some ⟨T24, 8, none⟩), .slice (some ⟨A6, 0, none⟩) n c6, t.v, .slice (some ⟨tb, 0, none⟩) 1 1, Jn, Jo, Jp, Jq, Jr, Js, Jt, Ju, Jv, Jw, Jx, Jy, Jz, Ia, Ib, Ic, Id, Ie, If, Ig, Ih, Ii, Ij, Ik, Il, Im, In, Io, Ip, Iq, Ir, Is, It, Iu, Iv, Iw, Ix, Iy, Iz, Ga, Gb, Gc, Gd, Ge, Gf, Gg, Gh, Gi, Gj, Gk, Gl, Gm, Gn, Go, Gp, Gq, Gr, Gs, Gt, Gu, Gv, Gw, Gx, Gy, Gz, Ba, Bb, Bc, Bd, Be, Bf, Bg, Bh, Bi], []⟩ w := by
 unfold E4.v
 refine wpAnyH_ready (rs := [3]) (by kernel_rfl) (by simp) ?_
 refine AllReadyH.cons (o := lw20o_3) rfl (fun K hK => ?_) AllReadyH.nil
 unfold lw20o_3
 have HH := hidden hH0
 clear hH0
 go_simp
 refine (C3.out _ HH.out).mono ?_
 rintro e wn1 ⟨R2, I2, cR2, cI2, g2, cn2, rfl, hC, hb⟩
 replace K1 := hidden (K1.out.keep hb)
 replace RT := hidden (range_bl RT.out hb)
 replace TH := hidden (Li.there_bl TH.out hb)
 replace R0 := hidden (range_bl R0.out hb)
 have K2 := hidden (hC)
 have SN := hidden (bl_trans HH.out hb)
 clear HH hb hC
 go_wp2_with fail
 refine hK.out _ _ SN.out (fun hH1 => ?_)
 clear hK K SN
 exact lw20_s9 hr1 hn1 ca0 ca1 cb0 cb1 ct0 ct1 ct2 ct3 cc0 cc1 cc2 cc3 cm C1 C3 CG CP HQ _ hH1 K1 K2 RT TH R0 GEB
def lw20_s11 (w : World) (hH0 : Below W.heap.size W w) (K1 : Hid (Cl w R1 I1 r n g1 cn1 gs im1)) (RT : Hid (w.rangeAt tb 0 [.int .u64 t.x0, .int .u64 t.x1, .int .u64 t.x2, .int .u64 t.x3])) : wpAnyH Tryz.prog .any lw20o (NoPanic Q) (fun x => Below W.heap.size W x) 10 #[true, true, true, false, true, true, true, true, true, true, true, true, false, false, false, false, false, false, false, false, false] ⟨#[Xa, Xb, Xc, Xd, Xe, Xf, Xg, Xh, Xi, Xj, Xk, Xl, Xm, Xn, Xo, .pointer (some ⟨T15, 0, none⟩), Xq, Xr, Xs, .slice (some ⟨A3, 0, none⟩) n c3, Xu, Xv, .pointer (some ⟨T22, 0, none⟩), .pointer (some ⟨T23, 0, none⟩), .pointer (some ⟨T24, 0, none⟩), Xz, .slice (some ⟨A4, 0, none⟩) n c4, Yb, Yc, Yd, Ye, Yf, Yg, Yh, Yi, Yj, Yk, Yl, Ym, Yn, Yo, Yp, Yq, Yr, Ys, Yt, Yu, Yv, Yw, Yx, Yy, Yz, Za, Zb, Zc, Zd, Ze, Zf, Zg, Zh, Zi, Zj, Zk, Zl, Zm, Zn, Zo, Zp, Zq, Zr, Zs, Zt, Zu, Zv, Zw, Zx, Zy, Zz, Ua, Ub, Uc, Ud, Ue, Uf, Ug, Uh, Ui, Uj, Uk, Ul, Um, Un, Uo, Up, Uq, Ur, Us, Ut, Uu, Uv, Uw, Ux, Uy, Uz, Da, Db, Dc, Dd, De, Df, Dg, Dh, Di, Dj, Dk, Dl, Dm, Dn, Do, Dp, Dq, Dr, Ds, Dt, Du, Dv, Dw, Dx, Dy, Dz, Ja, .agg #[.slice (some ⟨RR, 0, none⟩) r cRR, .slice (some ⟨J1, 0, none⟩) r cJ1], .agg #[.slice (some ⟨R1, 0, none⟩) r cR1, .slice (some ⟨I1, 0, none⟩) r cI1], .agg #[.slice (some ⟨RR, 0, none⟩) r cRR, .slice (some ⟨J2, 0, none⟩) r cJ2], Je, .slice (some ⟨A3, 0, none⟩) n c3, .slice (some ⟨A4, 0, none⟩) n c4, .pointer (some ⟨T24, 0, none⟩), c.v, .pointer (some ⟨T24, 8, none⟩), .slice (some ⟨A6, 0, none⟩) n c6, t.v, .slice (some ⟨tb, 0, none⟩) 1 1, Jn, Jo, Jp, Jq, Jr, Js, Jt, Ju, Jv, Jw, Jx, Jy, Jz, Ia, Ib, Ic, Id, Ie, If, Ig, Ih, Ii, Ij, Ik, Il, Im, In, Io, Ip, Iq, Ir, Is, It, Iu, Iv, Iw, Ix, Iy, Iz, Ga, Gb, Gc, Gd, Ge, Gf, Gg, Gh, Gi, Gj, Gk, Gl, Gm, Gn, Go, Gp, Gq, Gr, Gs, Gt, Gu, Gv, Gw, Gx, Gy, Gz, Ba, Bb, Bc, Bd, Be, Bf, Bg, Bh, Bi], []⟩ w := by
 unfold E4.v
 refine wpAnyH_ready (rs := [3, 18]) (by kernel_rfl) (by simp) ?_
 refine AllReadyH.cons (o := lw20o_3) rfl (fun K hK => ?_) (AllReadyH.cons (o := lw20o_18) rfl (fun K hK => ?_) AllReadyH.nil)
 ·unfold lw20o_3
  have HH := hidden hH0
  clear hH0
  go_simp
  refine (C3.out _ HH.out).mono ?_
  rintro e wn1 ⟨R2, I2, cR2, cI2, g2, cn2, rfl, hC, hb⟩
  replace K1 := hidden (K1.out.keep hb)
  replace RT := hidden (range_bl RT.out hb)
  have K2 := hidden (hC)
  have SN := hidden (bl_trans HH.out hb)
  clear HH hb hC
  go_wp2_with fail
  refine hK.out _ _ SN.out (fun hH1 => ?_)
  clear hK K SN
  exact lw20_s3 hr1 hn1 ca0 ca1 cb0 cb1 ct0 ct1 ct2 ct3 cc0 cc1 cc2 cc3 cm C1 C3 CG CP HQ _ hH1 K1 K2 RT
 ·unfold lw20o_18
  have HH := hidden hH0
  clear hH0
  refine wp_allocE rfl (fun AB wn1 hA hb hth hrg => ?_)
  replace K1 := hidden (K1.out.keep hb)
  replace RT := hidden (range_bl RT.out hb)
  have GEB := hidden ((by have := HH.out.size; omega : W.heap.size ≤ AB))
  have TH := hidden (hth)
  have R0 := hidden (hrg)
  have SN := hidden (bl_trans HH.out hb)
  clear HH hA hb hth hrg
  simp only [Act.put, sA, sB, sC]
  refine hK.out _ _ SN.out (fun hH1 => ?_)
  clear hK K SN
  exact lw20_s12 hr1 hn1 ca0 ca1 cb0 cb1 ct0 ct1 ct2 ct3 cc0 cc1 cc2 cc3 cm C1 C3 CG CP HQ _ hH1 K1 RT TH R0 GEB
def lw20_s13 (w : World) (hH0 : Below W.heap.size W w) (K1 : Hid (Cl w R1 I1 r n g1 cn1 gs im1)) (TH : Hid (w.there AB 0 10)) (R0 : Hid (w.rangeAt AB 0 [.int .u64 0, .int .u64 0, .int .u64 0, .int .u64 0, .int .u64 0, .int .u64 0, .int .u64 0, .int .u64 0, .slice none 0 0, .slice none 0 0])) (GEB : Hid (W.heap.size ≤ AB)) : wpAnyH Tryz.prog .any lw20o (NoPanic Q) (fun x => Below W.heap.size W x) 10 #[true, true, true, false, true, true, true, true, true, true, true, false, false, false, false, false, false, false, true, false, false] ⟨#[Xa, Xb, Xc, Xd, Xe, Xf, Xg, Xh, Xi, Xj, Xk, Xl, Xm, Xn, Xo, .pointer (some ⟨T15, 0, none⟩), Xq, Xr, Xs, .slice (some ⟨A3, 0, none⟩) n c3, Xu, Xv, .pointer (some ⟨T22, 0, none⟩), .pointer (some ⟨T23, 0, none⟩), .pointer (some ⟨T24, 0, none⟩), Xz, .slice (some ⟨A4, 0, none⟩) n c4, Yb, .pointer (some ⟨AB, 0, none⟩), Yd, Ye, Yf, Yg, Yh, Yi, Yj, Yk, Yl, Ym, Yn, Yo, Yp, Yq, Yr, Ys, Yt, Yu, Yv, Yw, Yx, Yy, Yz, Za, Zb, Zc, Zd, Ze, Zf, Zg, Zh, Zi, Zj, Zk, Zl, Zm, Zn, Zo, Zp, Zq, Zr, Zs, Zt, Zu, Zv, Zw, Zx, Zy, Zz, Ua, Ub, Uc, Ud, Ue, Uf, Ug, Uh, Ui, Uj, Uk, Ul, Um, Un, Uo, Up, Uq, Ur, Us, Ut, Uu, Uv, Uw, Ux, Uy, Uz, Da, Db, Dc, Dd, De, Df, Dg, Dh, Di, Dj, Dk, Dl, Dm, Dn, Do, Dp, Dq, Dr, Ds, Dt, Du, Dv, Dw, Dx, Dy, Dz, Ja, .agg #[.slice (some ⟨RR, 0, none⟩) r cRR, .slice (some ⟨J1, 0, none⟩) r cJ1], .agg #[.slice (some ⟨R1, 0, none⟩) r cR1, .slice (some ⟨I1, 0, none⟩) r cI1], .agg #[.slice (some ⟨RR, 0, none⟩) r cRR, .slice (some ⟨J2, 0, none⟩) r cJ2], Je, .slice (some ⟨A3, 0, none⟩) n c3, .slice (some ⟨A4, 0, none⟩) n c4, .pointer (some ⟨T24, 0, none⟩), c.v, .pointer (some ⟨T24, 8, none⟩), .slice (some ⟨A6, 0, none⟩) n c6, t.v, Jm, Jn, Jo, Jp, Jq, Jr, Js, Jt, Ju, Jv, Jw, Jx, Jy, Jz, Ia, Ib, Ic, Id, Ie, If, Ig, Ih, Ii, Ij, Ik, Il, Im, In, Io, Ip, Iq, Ir, Is, It, Iu, Iv, Iw, Ix, Iy, Iz, Ga, Gb, Gc, Gd, Ge, Gf, Gg, Gh, Gi, Gj, Gk, Gl, Gm, Gn, Go, Gp, Gq, Gr, Gs, Gt, Gu, Gv, Gw, Gx, Gy, Gz, Ba, Bb, Bc, Bd, Be, Bf, Bg, Bh, Bi], []⟩ w := by
 unfold E4.v
 refine wpAnyH_ready (rs := [3, 11]) (by kernel_rfl) (by simp) ?_
 refine AllReadyH.cons (o := lw20o_3) rfl (fun K hK => ?_) (AllReadyH.cons (o := lw20o_11) rfl (fun K hK => ?_) AllReadyH.nil)
 ·unfold lw20o_3
  have HH := hidden hH0
  clear hH0
  go_simp
  refine (C3.out _ HH.out).mono ?_
  rintro e wn1 ⟨R2, I2, cR2, cI2, g2, cn2, rfl, hC, hb⟩
  replace K1 := hidden (K1.out.keep hb)
  replace TH := hidden (Li.there_bl TH.out hb)
  replace R0 := hidden (range_bl R0.out hb)
  have K2 := hidden (hC)
  have SN := hidden (bl_trans HH.out hb)
  clear HH hb hC
  go_wp2_with fail
  refine hK.out _ _ SN.out (fun hH1 => ?_)
  clear hK K SN
  exact lw20_s10 hr1 hn1 ca0 ca1 cb0 cb1 ct0 ct1 ct2 ct3 cc0 cc1 cc2 cc3 cm C1 C3 CG CP HQ _ hH1 K1 K2 TH R0 GEB
 ·unfold lw20o_11
  have HH := hidden hH0
  clear hH0
  refine Li.wp_buildS1 (.tmp 141) rfl t rfl (fun tb wn1 hb hrt => ?_)
  replace K1 := hidden (K1.out.keep hb)
  replace TH := hidden (Li.there_bl TH.out hb)
  replace R0 := hidden (range_bl R0.out hb)
  have RT := hidden (hrt)
  have SN := hidden (bl_trans HH.out hb)
  clear HH hb hrt
  simp only [Act.put, sA, sB, sC]
  refine hK.out _ _ SN.out (fun hH1 => ?_)
  clear hK K SN
  exact lw20_s12 hr1 hn1 ca0 ca1 cb0 cb1 ct0 ct1 ct2 ct3 cc0 cc1 cc2 cc3 cm C1 C3 CG CP HQ _ hH1 K1 RT TH R0 GEB
def lw20_s1 (w : World) (hH0 : Below W.heap.size W w) (K1 : Hid (Cl w R1 I1 r n g1 cn1 gs im1)) : wpAnyH Tryz.prog .any lw20o (NoPanic Q) (fun x => Below W.heap.size W x) 11 #[true, true, true, false, true, true, true, true, true, true, true, false, false, false, false, false, false, false, false, false, false] ⟨#[Xa, Xb, Xc, Xd, Xe, Xf, Xg, Xh, Xi, Xj, Xk, Xl, Xm, Xn, Xo, .pointer (some ⟨T15, 0, none⟩), Xq, Xr, Xs, .slice (some ⟨A3, 0, none⟩) n c3, Xu, Xv, .pointer (some ⟨T22, 0, none⟩), .pointer (some ⟨T23, 0, none⟩), .pointer (some ⟨T24, 0, none⟩), Xz, .slice (some ⟨A4, 0, none⟩) n c4, Yb, Yc, Yd, Ye, Yf, Yg, Yh, Yi, Yj, Yk, Yl, Ym, Yn, Yo, Yp, Yq, Yr, Ys, Yt, Yu, Yv, Yw, Yx, Yy, Yz, Za, Zb, Zc, Zd, Ze, Zf, Zg, Zh, Zi, Zj, Zk, Zl, Zm, Zn, Zo, Zp, Zq, Zr, Zs, Zt, Zu, Zv, Zw, Zx, Zy, Zz, Ua, Ub, Uc, Ud, Ue, Uf, Ug, Uh, Ui, Uj, Uk, Ul, Um, Un, Uo, Up, Uq, Ur, Us, Ut, Uu, Uv, Uw, Ux, Uy, Uz, Da, Db, Dc, Dd, De, Df, Dg, Dh, Di, Dj, Dk, Dl, Dm, Dn, Do, Dp, Dq, Dr, Ds, Dt, Du, Dv, Dw, Dx, Dy, Dz, Ja, .agg #[.slice (some ⟨RR, 0, none⟩) r cRR, .slice (some ⟨J1, 0, none⟩) r cJ1], .agg #[.slice (some ⟨R1, 0, none⟩) r cR1, .slice (some ⟨I1, 0, none⟩) r cI1], .agg #[.slice (some ⟨RR, 0, none⟩) r cRR, .slice (some ⟨J2, 0, none⟩) r cJ2], Je, .slice (some ⟨A3, 0, none⟩) n c3, .slice (some ⟨A4, 0, none⟩) n c4, .pointer (some ⟨T24, 0, none⟩), c.v, .pointer (some ⟨T24, 8, none⟩), .slice (some ⟨A6, 0, none⟩) n c6, t.v, Jm, Jn, Jo, Jp, Jq, Jr, Js, Jt, Ju, Jv, Jw, Jx, Jy, Jz, Ia, Ib, Ic, Id, Ie, If, Ig, Ih, Ii, Ij, Ik, Il, Im, In, Io, Ip, Iq, Ir, Is, It, Iu, Iv, Iw, Ix, Iy, Iz, Ga, Gb, Gc, Gd, Ge, Gf, Gg, Gh, Gi, Gj, Gk, Gl, Gm, Gn, Go, Gp, Gq, Gr, Gs, Gt, Gu, Gv, Gw, Gx, Gy, Gz, Ba, Bb, Bc, Bd, Be, Bf, Bg, Bh, Bi], []⟩ w := by
 unfold E4.v
 refine wpAnyH_ready (rs := [3, 11, 18]) (by kernel_rfl) (by simp) ?_
 refine AllReadyH.cons (o := lw20o_3) rfl (fun K hK => ?_) (AllReadyH.cons (o := lw20o_11) rfl (fun K hK => ?_) (AllReadyH.cons (o := lw20o_18) rfl (fun K hK => ?_) AllReadyH.nil))
 ·unfold lw20o_3
  have HH := hidden hH0
  clear hH0
  go_simp
  refine (C3.out _ HH.out).mono ?_
  rintro e wn1 ⟨R2, I2, cR2, cI2, g2, cn2, rfl, hC, hb⟩
  replace K1 := hidden (K1.out.keep hb)
  have K2 := hidden (hC)
  have SN := hidden (bl_trans HH.out hb)
  clear HH hb hC
  go_wp2_with fail
  refine hK.out _ _ SN.out (fun hH1 => ?_)
  clear hK K SN
  exact lw20_s2 hr1 hn1 ca0 ca1 cb0 cb1 ct0 ct1 ct2 ct3 cc0 cc1 cc2 cc3 cm C1 C3 CG CP HQ _ hH1 K1 K2
 ·unfold lw20o_11
  have HH := hidden hH0
  clear hH0
  refine Li.wp_buildS1 (.tmp 141) rfl t rfl (fun tb wn1 hb hrt => ?_)
  replace K1 := hidden (K1.out.keep hb)
  have RT := hidden (hrt)
  have SN := hidden (bl_trans HH.out hb)
  clear HH hb hrt
  simp only [Act.put, sA, sB, sC]
  refine hK.out _ _ SN.out (fun hH1 => ?_)
  clear hK K SN
  exact lw20_s11 hr1 hn1 ca0 ca1 cb0 cb1 ct0 ct1 ct2 ct3 cc0 cc1 cc2 cc3 cm C1 C3 CG CP HQ _ hH1 K1 RT
 ·unfold lw20o_18
  have HH := hidden hH0
  clear hH0
  refine wp_allocE rfl (fun AB wn1 hA hb hth hrg => ?_)
  replace K1 := hidden (K1.out.keep hb)
  have GEB := hidden ((by have := HH.out.size; omega : W.heap.size ≤ AB))
  have TH := hidden (hth)
  have R0 := hidden (hrg)
  have SN := hidden (bl_trans HH.out hb)
  clear HH hA hb hth hrg
  simp only [Act.put, sA, sB, sC]
  refine hK.out _ _ SN.out (fun hH1 => ?_)
  clear hK K SN
  exact lw20_s13 hr1 hn1 ca0 ca1 cb0 cb1 ct0 ct1 ct2 ct3 cc0 cc1 cc2 cc3 cm C1 C3 CG CP HQ _ hH1 K1 TH R0 GEB
def lw20_s15 (w : World) (hH0 : Below W.heap.size W w) (RT : Hid (w.rangeAt tb 0 [.int .u64 t.x0, .int .u64 t.x1, .int .u64 t.x2, .int .u64 t.x3])) (TH : Hid (w.there AB 0 10)) (R0 : Hid (w.rangeAt AB 0 [.int .u64 0, .int .u64 0, .int .u64 0, .int .u64 0, .int .u64 0, .int .u64 0, .int .u64 0, .int .u64 0, .slice none 0 0, .slice none 0 0])) (GEB : Hid (W.heap.size ≤ AB)) : wpAnyH Tryz.prog .any lw20o (NoPanic Q) (fun x => Below W.heap.size W x) 10 #[true, false, true, false, true, true, true, true, true, true, true, true, false, false, false, false, false, false, true, false, false] ⟨#[Xa, Xb, Xc, Xd, Xe, Xf, Xg, Xh, Xi, Xj, Xk, Xl, Xm, Xn, Xo, .pointer (some ⟨T15, 0, none⟩), Xq, Xr, Xs, .slice (some ⟨A3, 0, none⟩) n c3, Xu, Xv, .pointer (some ⟨T22, 0, none⟩), .pointer (some ⟨T23, 0, none⟩), .pointer (some ⟨T24, 0, none⟩), Xz, .slice (some ⟨A4, 0, none⟩) n c4, Yb, .pointer (some ⟨AB, 0, none⟩), Yd, Ye, Yf, Yg, Yh, Yi, Yj, Yk, Yl, Ym, Yn, Yo, Yp, Yq, Yr, Ys, Yt, Yu, Yv, Yw, Yx, Yy, Yz, Za, Zb, Zc, Zd, Ze, Zf, Zg, Zh, Zi, Zj, Zk, Zl, Zm, Zn, Zo, Zp, Zq, Zr, Zs, Zt, Zu, Zv, Zw, Zx, Zy, Zz, Ua, Ub, Uc, Ud, Ue, Uf, Ug, Uh, Ui, Uj, Uk, Ul, Um, Un, Uo, Up, Uq, Ur, Us, Ut, Uu, Uv, Uw, Ux, Uy, Uz, Da, Db, Dc, Dd, De, Df, Dg, Dh, Di, Dj, Dk, Dl, Dm, Dn, Do, Dp, Dq, Dr, Ds, Dt, Du, Dv, Dw, Dx, Dy, Dz, Ja, .agg #[.slice (some ⟨RR, 0, none⟩) r cRR, .slice (some ⟨J1, 0, none⟩) r cJ1], Jc, .agg #[.slice (some ⟨RR, 0, none⟩) r cRR, .slice (some ⟨J2, 0, none⟩) r cJ2], Je, .slice (some ⟨A3, 0, none⟩) n c3, .slice (some ⟨A4, 0, none⟩) n c4, .pointer (some ⟨T24, 0, none⟩), c.v, .pointer (some ⟨T24, 8, none⟩), .slice (some ⟨A6, 0, none⟩) n c6, t.v, .slice (some ⟨tb, 0, none⟩) 1 1, Jn, Jo, Jp, Jq, Jr, Js, Jt, Ju, Jv, Jw, Jx, Jy, Jz, Ia, Ib, Ic, Id, Ie, If, Ig, Ih, Ii, Ij, Ik, Il, Im, In, Io, Ip, Iq, Ir, Is, It, Iu, Iv, Iw, Ix, Iy, Iz, Ga, Gb, Gc, Gd, Ge, Gf, Gg, Gh, Gi, Gj, Gk, Gl, Gm, Gn, Go, Gp, Gq, Gr, Gs, Gt, Gu, Gv, Gw, Gx, Gy, Gz, Ba, Bb, Bc, Bd, Be, Bf, Bg, Bh, Bi], []⟩ w := by
 unfold E4.v
 refine wpAnyH_ready (rs := [1]) (by kernel_rfl) (by simp) ?_
 refine AllReadyH.cons (o := lw20o_1) rfl (fun K hK => ?_) AllReadyH.nil
 unfold lw20o_1
 have HH := hidden hH0
 clear hH0
 go_simp
 refine (C1.out _ HH.out).mono ?_
 rintro e wn1 ⟨R1, I1, cR1, cI1, g1, cn1, rfl, hC, hb⟩
 replace RT := hidden (range_bl RT.out hb)
 replace TH := hidden (Li.there_bl TH.out hb)
 replace R0 := hidden (range_bl R0.out hb)
 have K1 := hidden (hC)
 have SN := hidden (bl_trans HH.out hb)
 clear HH hb hC
 go_wp2_with fail
 refine hK.out _ _ SN.out (fun hH1 => ?_)
 clear hK K SN
 exact lw20_s12 hr1 hn1 ca0 ca1 cb0 cb1 ct0 ct1 ct2 ct3 cc0 cc1 cc2 cc3 cm C1 C3 CG CP HQ _ hH1 K1 RT TH R0 GEB
def lw20_s14 (w : World) (hH0 : Below W.heap.size W w) (RT : Hid (w.rangeAt tb 0 [.int .u64 t.x0, .int .u64 t.x1, .int .u64 t.x2, .int .u64 t.x3])) : wpAnyH Tryz.prog .any lw20o (NoPanic Q) (fun x => Below W.heap.size W x) 11 #[true, false, true, false, true, true, true, true, true, true, true, true, false, false, false, false, false, false, false, false, false] ⟨#[Xa, Xb, Xc, Xd, Xe, Xf, Xg, Xh, Xi, Xj, Xk, Xl, Xm, Xn, Xo, .pointer (some ⟨T15, 0, none⟩), Xq, Xr, Xs, .slice (some ⟨A3, 0, none⟩) n c3, Xu, Xv, .pointer (some ⟨T22, 0, none⟩), .pointer (some ⟨T23, 0, none⟩), .pointer (some ⟨T24, 0, none⟩), Xz, .slice (some ⟨A4, 0, none⟩) n c4, Yb, Yc, Yd, Ye, Yf, Yg, Yh, Yi, Yj, Yk, Yl, Ym, Yn, Yo, Yp, Yq, Yr, Ys, Yt, Yu, Yv, Yw, Yx, Yy, Yz, Za, Zb, Zc, Zd, Ze, Zf, Zg, Zh, Zi, Zj, Zk, Zl, Zm, Zn, Zo, Zp, Zq, Zr, Zs, Zt, Zu, Zv, Zw, Zx, Zy, Zz, Ua, Ub, Uc, Ud, Ue, Uf, Ug, Uh, Ui, Uj, Uk, Ul, Um, Un, Uo, Up, Uq, Ur, Us, Ut, Uu, Uv, Uw, Ux, Uy, Uz, Da, Db, Dc, Dd, De, Df, Dg, Dh, Di, Dj, Dk, Dl, Dm, Dn, Do, Dp, Dq, Dr, Ds, Dt, Du, Dv, Dw, Dx, Dy, Dz, Ja, .agg #[.slice (some ⟨RR, 0, none⟩) r cRR, .slice (some ⟨J1, 0, none⟩) r cJ1], Jc, .agg #[.slice (some ⟨RR, 0, none⟩) r cRR, .slice (some ⟨J2, 0, none⟩) r cJ2], Je, .slice (some ⟨A3, 0, none⟩) n c3, .slice (some ⟨A4, 0, none⟩) n c4, .pointer (some ⟨T24, 0, none⟩), c.v, .pointer (some ⟨T24, 8, none⟩), .slice (some ⟨A6, 0, none⟩) n c6, t.v, .slice (some ⟨tb, 0, none⟩) 1 1, Jn, Jo, Jp, Jq, Jr, Js, Jt, Ju, Jv, Jw, Jx, Jy, Jz, Ia, Ib, Ic, Id, Ie, If, Ig, Ih, Ii, Ij, Ik, Il, Im, In, Io, Ip, Iq, Ir, Is, It, Iu, Iv, Iw, Ix, Iy, Iz, Ga, Gb, Gc, Gd, Ge, Gf, Gg, Gh, Gi, Gj, Gk, Gl, Gm, Gn, Go, Gp, Gq, Gr, Gs, Gt, Gu, Gv, Gw, Gx, Gy, Gz, Ba, Bb, Bc, Bd, Be, Bf, Bg, Bh, Bi], []⟩ w := by
 unfold E4.v
 refine wpAnyH_ready (rs := [1, 18]) (by kernel_rfl) (by simp) ?_
 refine AllReadyH.cons (o := lw20o_1) rfl (fun K hK => ?_) (AllReadyH.cons (o := lw20o_18) rfl (fun K hK => ?_) AllReadyH.nil)
 ·unfold lw20o_1
  have HH := hidden hH0
  clear hH0
  go_simp
  refine (C1.out _ HH.out).mono ?_
  rintro e wn1 ⟨R1, I1, cR1, cI1, g1, cn1, rfl, hC, hb⟩
  replace RT := hidden (range_bl RT.out hb)
  have K1 := hidden (hC)
  have SN := hidden (bl_trans HH.out hb)
  clear HH hb hC
  go_wp2_with fail
  refine hK.out _ _ SN.out (fun hH1 => ?_)
  clear hK K SN
  exact lw20_s11 hr1 hn1 ca0 ca1 cb0 cb1 ct0 ct1 ct2 ct3 cc0 cc1 cc2 cc3 cm C1 C3 CG CP HQ _ hH1 K1 RT
 ·unfold lw20o_18
  have HH := hidden hH0
  clear hH0
  refine wp_allocE rfl (fun AB wn1 hA hb hth hrg => ?_)
  replace RT := hidden (range_bl RT.out hb)
  have GEB := hidden ((by have := HH.out.size; omega : W.heap.size ≤ AB))
  have TH := hidden (hth)
  have R0 := hidden (hrg)
  have SN := hidden (bl_trans HH.out hb)
  clear HH hA hb hth hrg
  simp only [Act.put, sA, sB, sC]
  refine hK.out _ _ SN.out (fun hH1 => ?_)
  clear hK K SN
  exact lw20_s15 hr1 hn1 ca0 ca1 cb0 cb1 ct0 ct1 ct2 ct3 cc0 cc1 cc2 cc3 cm C1 C3 CG CP HQ _ hH1 RT TH R0 GEB
def lw20_s16 (w : World) (hH0 : Below W.heap.size W w) (TH : Hid (w.there AB 0 10)) (R0 : Hid (w.rangeAt AB 0 [.int .u64 0, .int .u64 0, .int .u64 0, .int .u64 0, .int .u64 0, .int .u64 0, .int .u64 0, .int .u64 0, .slice none 0 0, .slice none 0 0])) (GEB : Hid (W.heap.size ≤ AB)) : wpAnyH Tryz.prog .any lw20o (NoPanic Q) (fun x => Below W.heap.size W x) 11 #[true, false, true, false, true, true, true, true, true, true, true, false, false, false, false, false, false, false, true, false, false] ⟨#[Xa, Xb, Xc, Xd, Xe, Xf, Xg, Xh, Xi, Xj, Xk, Xl, Xm, Xn, Xo, .pointer (some ⟨T15, 0, none⟩), Xq, Xr, Xs, .slice (some ⟨A3, 0, none⟩) n c3, Xu, Xv, .pointer (some ⟨T22, 0, none⟩), .pointer (some ⟨T23, 0, none⟩), .pointer (some ⟨T24, 0, none⟩), Xz, .slice (some ⟨A4, 0, none⟩) n c4, Yb, .pointer (some ⟨AB, 0, none⟩), Yd, Ye, Yf, Yg, Yh, Yi, Yj, Yk, Yl, Ym, Yn, Yo, Yp, Yq, Yr, Ys, Yt, Yu, Yv, Yw, Yx, Yy, Yz, Za, Zb, Zc, Zd, Ze, Zf, Zg, Zh, Zi, Zj, Zk, Zl, Zm, Zn, Zo, Zp, Zq, Zr, Zs, Zt, Zu, Zv, Zw, Zx, Zy, Zz, Ua, Ub, Uc, Ud, Ue, Uf, Ug, Uh, Ui, Uj, Uk, Ul, Um, Un, Uo, Up, Uq, Ur, Us, Ut, Uu, Uv, Uw, Ux, Uy, Uz, Da, Db, Dc, Dd, De, Df, Dg, Dh, Di, Dj, Dk, Dl, Dm, Dn, Do, Dp, Dq, Dr, Ds, Dt, Du, Dv, Dw, Dx, Dy, Dz, Ja, .agg #[.slice (some ⟨RR, 0, none⟩) r cRR, .slice (some ⟨J1, 0, none⟩) r cJ1], Jc, .agg #[.slice (some ⟨RR, 0, none⟩) r cRR, .slice (some ⟨J2, 0, none⟩) r cJ2], Je, .slice (some ⟨A3, 0, none⟩) n c3, .slice (some ⟨A4, 0, none⟩) n c4, .pointer (some ⟨T24, 0, none⟩), c.v, .pointer (some ⟨T24, 8, none⟩), .slice (some ⟨A6, 0, none⟩) n c6, t.v, Jm, Jn, Jo, Jp, Jq, Jr, Js, Jt, Ju, Jv, Jw, Jx, Jy, Jz, Ia, Ib, Ic, Id, Ie, If, Ig, Ih, Ii, Ij, Ik, Il, Im, In, Io, Ip, Iq, Ir, Is, It, Iu, Iv, Iw, Ix, Iy, Iz, Ga, Gb, Gc, Gd, Ge, Gf, Gg, Gh, Gi, Gj, Gk, Gl, Gm, Gn, Go, Gp, Gq, Gr, Gs, Gt, Gu, Gv, Gw, Gx, Gy, Gz, Ba, Bb, Bc, Bd, Be, Bf, Bg, Bh, Bi], []⟩ w := by
 unfold E4.v
 refine wpAnyH_ready (rs := [1, 11]) (by kernel_rfl) (by simp) ?_
 refine AllReadyH.cons (o := lw20o_1) rfl (fun K hK => ?_) (AllReadyH.cons (o := lw20o_11) rfl (fun K hK => ?_) AllReadyH.nil)
 ·unfold lw20o_1
  have HH := hidden hH0
  clear hH0
  go_simp
  refine (C1.out _ HH.out).mono ?_
  rintro e wn1 ⟨R1, I1, cR1, cI1, g1, cn1, rfl, hC, hb⟩
  replace TH := hidden (Li.there_bl TH.out hb)
  replace R0 := hidden (range_bl R0.out hb)
  have K1 := hidden (hC)
  have SN := hidden (bl_trans HH.out hb)
  clear HH hb hC
  go_wp2_with fail
  refine hK.out _ _ SN.out (fun hH1 => ?_)
  clear hK K SN
  exact lw20_s13 hr1 hn1 ca0 ca1 cb0 cb1 ct0 ct1 ct2 ct3 cc0 cc1 cc2 cc3 cm C1 C3 CG CP HQ _ hH1 K1 TH R0 GEB
 ·unfold lw20o_11
  have HH := hidden hH0
  clear hH0
  refine Li.wp_buildS1 (.tmp 141) rfl t rfl (fun tb wn1 hb hrt => ?_)
  replace TH := hidden (Li.there_bl TH.out hb)
  replace R0 := hidden (range_bl R0.out hb)
  have RT := hidden (hrt)
  have SN := hidden (bl_trans HH.out hb)
  clear HH hb hrt
  simp only [Act.put, sA, sB, sC]
  refine hK.out _ _ SN.out (fun hH1 => ?_)
  clear hK K SN
  exact lw20_s15 hr1 hn1 ca0 ca1 cb0 cb1 ct0 ct1 ct2 ct3 cc0 cc1 cc2 cc3 cm C1 C3 CG CP HQ _ hH1 RT TH R0 GEB
def lw20_s0 (w : World) (hH0 : Below W.heap.size W w)  : wpAnyH Tryz.prog .any lw20o (NoPanic Q) (fun x => Below W.heap.size W x) 12 #[true, false, true, false, true, true, true, true, true, true, true, false, false, false, false, false, false, false, false, false, false] ⟨#[Xa, Xb, Xc, Xd, Xe, Xf, Xg, Xh, Xi, Xj, Xk, Xl, Xm, Xn, Xo, .pointer (some ⟨T15, 0, none⟩), Xq, Xr, Xs, .slice (some ⟨A3, 0, none⟩) n c3, Xu, Xv, .pointer (some ⟨T22, 0, none⟩), .pointer (some ⟨T23, 0, none⟩), .pointer (some ⟨T24, 0, none⟩), Xz, .slice (some ⟨A4, 0, none⟩) n c4, Yb, Yc, Yd, Ye, Yf, Yg, Yh, Yi, Yj, Yk, Yl, Ym, Yn, Yo, Yp, Yq, Yr, Ys, Yt, Yu, Yv, Yw, Yx, Yy, Yz, Za, Zb, Zc, Zd, Ze, Zf, Zg, Zh, Zi, Zj, Zk, Zl, Zm, Zn, Zo, Zp, Zq, Zr, Zs, Zt, Zu, Zv, Zw, Zx, Zy, Zz, Ua, Ub, Uc, Ud, Ue, Uf, Ug, Uh, Ui, Uj, Uk, Ul, Um, Un, Uo, Up, Uq, Ur, Us, Ut, Uu, Uv, Uw, Ux, Uy, Uz, Da, Db, Dc, Dd, De, Df, Dg, Dh, Di, Dj, Dk, Dl, Dm, Dn, Do, Dp, Dq, Dr, Ds, Dt, Du, Dv, Dw, Dx, Dy, Dz, Ja, .agg #[.slice (some ⟨RR, 0, none⟩) r cRR, .slice (some ⟨J1, 0, none⟩) r cJ1], Jc, .agg #[.slice (some ⟨RR, 0, none⟩) r cRR, .slice (some ⟨J2, 0, none⟩) r cJ2], Je, .slice (some ⟨A3, 0, none⟩) n c3, .slice (some ⟨A4, 0, none⟩) n c4, .pointer (some ⟨T24, 0, none⟩), c.v, .pointer (some ⟨T24, 8, none⟩), .slice (some ⟨A6, 0, none⟩) n c6, t.v, Jm, Jn, Jo, Jp, Jq, Jr, Js, Jt, Ju, Jv, Jw, Jx, Jy, Jz, Ia, Ib, Ic, Id, Ie, If, Ig, Ih, Ii, Ij, Ik, Il, Im, In, Io, Ip, Iq, Ir, Is, It, Iu, Iv, Iw, Ix, Iy, Iz, Ga, Gb, Gc, Gd, Ge, Gf, Gg, Gh, Gi, Gj, Gk, Gl, Gm, Gn, Go, Gp, Gq, Gr, Gs, Gt, Gu, Gv, Gw, Gx, Gy, Gz, Ba, Bb, Bc, Bd, Be, Bf, Bg, Bh, Bi], []⟩ w := by
 unfold E4.v
 refine wpAnyH_ready (rs := [1, 11, 18]) (by kernel_rfl) (by simp) ?_
 refine AllReadyH.cons (o := lw20o_1) rfl (fun K hK => ?_) (AllReadyH.cons (o := lw20o_11) rfl (fun K hK => ?_) (AllReadyH.cons (o := lw20o_18) rfl (fun K hK => ?_) AllReadyH.nil))
 ·unfold lw20o_1
  have HH := hidden hH0
  clear hH0
  go_simp
  refine (C1.out _ HH.out).mono ?_
  rintro e wn1 ⟨R1, I1, cR1, cI1, g1, cn1, rfl, hC, hb⟩
  have K1 := hidden (hC)
  have SN := hidden (bl_trans HH.out hb)
  clear HH hb hC
  go_wp2_with fail
  refine hK.out _ _ SN.out (fun hH1 => ?_)
  clear hK K SN
  exact lw20_s1 hr1 hn1 ca0 ca1 cb0 cb1 ct0 ct1 ct2 ct3 cc0 cc1 cc2 cc3 cm C1 C3 CG CP HQ _ hH1 K1
 ·unfold lw20o_11
  have HH := hidden hH0
  clear hH0
  refine Li.wp_buildS1 (.tmp 141) rfl t rfl (fun tb wn1 hb hrt => ?_)
  have RT := hidden (hrt)
  have SN := hidden (bl_trans HH.out hb)
  clear HH hb hrt
  simp only [Act.put, sA, sB, sC]
  refine hK.out _ _ SN.out (fun hH1 => ?_)
  clear hK K SN
  exact lw20_s14 hr1 hn1 ca0 ca1 cb0 cb1 ct0 ct1 ct2 ct3 cc0 cc1 cc2 cc3 cm C1 C3 CG CP HQ _ hH1 RT
 ·unfold lw20o_18
  have HH := hidden hH0
  clear hH0
  refine wp_allocE rfl (fun AB wn1 hA hb hth hrg => ?_)
  have GEB := hidden ((by have := HH.out.size; omega : W.heap.size ≤ AB))
  have TH := hidden (hth)
  have R0 := hidden (hrg)
  have SN := hidden (bl_trans HH.out hb)
  clear HH hA hb hth hrg
  simp only [Act.put, sA, sB, sC]
  refine hK.out _ _ SN.out (fun hH1 => ?_)
  clear hK K SN
  exact lw20_s16 hr1 hn1 ca0 ca1 cb0 cb1 ct0 ct1 ct2 ct3 cc0 cc1 cc2 cc3 cm C1 C3 CG CP HQ _ hH1 TH R0 GEB
def lw20 : (Code.region 20 lw20o true).wp Tryz.prog Q ⟨#[Xa, Xb, Xc, Xd, Xe, Xf, Xg, Xh, Xi, Xj, Xk, Xl, Xm, Xn, Xo, .pointer (some ⟨T15, 0, none⟩), Xq, Xr, Xs, .slice (some ⟨A3, 0, none⟩) n c3, Xu, Xv, .pointer (some ⟨T22, 0, none⟩), .pointer (some ⟨T23, 0, none⟩), .pointer (some ⟨T24, 0, none⟩), Xz, .slice (some ⟨A4, 0, none⟩) n c4, Yb, Yc, Yd, Ye, Yf, Yg, Yh, Yi, Yj, Yk, Yl, Ym, Yn, Yo, Yp, Yq, Yr, Ys, Yt, Yu, Yv, Yw, Yx, Yy, Yz, Za, Zb, Zc, Zd, Ze, Zf, Zg, Zh, Zi, Zj, Zk, Zl, Zm, Zn, Zo, Zp, Zq, Zr, Zs, Zt, Zu, Zv, Zw, Zx, Zy, Zz, Ua, Ub, Uc, Ud, Ue, Uf, Ug, Uh, Ui, Uj, Uk, Ul, Um, Un, Uo, Up, Uq, Ur, Us, Ut, Uu, Uv, Uw, Ux, Uy, Uz, Da, Db, Dc, Dd, De, Df, Dg, Dh, Di, Dj, Dk, Dl, Dm, Dn, Do, Dp, Dq, Dr, Ds, Dt, Du, Dv, Dw, Dx, Dy, Dz, Ja, Jb, Jc, Jd, Je, Jf, Jg, Jh, Ji, Jj, Jk, Jl, Jm, Jn, Jo, Jp, Jq, Jr, Js, Jt, Ju, Jv, Jw, Jx, Jy, Jz, Ia, Ib, Ic, Id, Ie, If, Ig, Ih, Ii, Ij, Ik, Il, Im, In, Io, Ip, Iq, Ir, Is, It, Iu, Iv, Iw, Ix, Iy, Iz, Ga, Gb, Gc, Gd, Ge, Gf, Gg, Gh, Gi, Gj, Gk, Gl, Gm, Gn, Go, Gp, Gq, Gr, Gs, Gt, Gu, Gv, Gw, Gx, Gy, Gz, Ba, Bb, Bc, Bd, Be, Bf, Bg, Bh, Bi], []⟩ W := by
 refine wp_region_noPanic ?_
 refine wp_region_held_drew (S := fun x => Below W.heap.size W x) (by kernel_rfl) (bl_drew W) (fun hH0 => ?_)
 show wpAnyH Tryz.prog .any lw20o (NoPanic Q) (fun x => Below W.heap.size W x) 21 #[false, false, false, false, false, false, false, false, false, false, false, false, false, false, false, false, false, false, false, false, false] ⟨#[Xa, Xb, Xc, Xd, Xe, Xf, Xg, Xh, Xi, Xj, Xk, Xl, Xm, Xn, Xo, .pointer (some ⟨T15, 0, none⟩), Xq, Xr, Xs, .slice (some ⟨A3, 0, none⟩) n c3, Xu, Xv, .pointer (some ⟨T22, 0, none⟩), .pointer (some ⟨T23, 0, none⟩), .pointer (some ⟨T24, 0, none⟩), Xz, .slice (some ⟨A4, 0, none⟩) n c4, Yb, Yc, Yd, Ye, Yf, Yg, Yh, Yi, Yj, Yk, Yl, Ym, Yn, Yo, Yp, Yq, Yr, Ys, Yt, Yu, Yv, Yw, Yx, Yy, Yz, Za, Zb, Zc, Zd, Ze, Zf, Zg, Zh, Zi, Zj, Zk, Zl, Zm, Zn, Zo, Zp, Zq, Zr, Zs, Zt, Zu, Zv, Zw, Zx, Zy, Zz, Ua, Ub, Uc, Ud, Ue, Uf, Ug, Uh, Ui, Uj, Uk, Ul, Um, Un, Uo, Up, Uq, Ur, Us, Ut, Uu, Uv, Uw, Ux, Uy, Uz, Da, Db, Dc, Dd, De, Df, Dg, Dh, Di, Dj, Dk, Dl, Dm, Dn, Do, Dp, Dq, Dr, Ds, Dt, Du, Dv, Dw, Dx, Dy, Dz, Ja, Jb, Jc, Jd, Je, Jf, Jg, Jh, Ji, Jj, Jk, Jl, Jm, Jn, Jo, Jp, Jq, Jr, Js, Jt, Ju, Jv, Jw, Jx, Jy, Jz, Ia, Ib, Ic, Id, Ie, If, Ig, Ih, Ii, Ij, Ik, Il, Im, In, Io, Ip, Iq, Ir, Is, It, Iu, Iv, Iw, Ix, Iy, Iz, Ga, Gb, Gc, Gd, Ge, Gf, Gg, Gh, Gi, Gj, Gk, Gl, Gm, Gn, Go, Gp, Gq, Gr, Gs, Gt, Gu, Gv, Gw, Gx, Gy, Gz, Ba, Bb, Bc, Bd, Be, Bf, Bg, Bh, Bi], []⟩ W.drew
 refine tk 0 lw20o_0 (.agg #[.slice (some ⟨RR, 0, none⟩) r cRR, .slice (some ⟨J1, 0, none⟩) r cJ1]) rfl (by kernel_rfl) hH0 rfl (fun w0 hSw => ?_) ?_
 ·(unfold lw20o_0; have hS : Below W.heap.size W w0 := hSw; have a0 := (cell_keep ca0 hS); have a1 := (cell_keep ca1 hS); clear hS hSw; go_simp)
 simp only [lw20o_0, Act.put, sA, sB, sC]
 refine tk 2 lw20o_2 (.agg #[.slice (some ⟨RR, 0, none⟩) r cRR, .slice (some ⟨J2, 0, none⟩) r cJ2]) rfl (by kernel_rfl) hH0 rfl (fun w0 hSw => ?_) ?_
 ·(unfold lw20o_2; have hS : Below W.heap.size W w0 := hSw; have a0 := (cell_keep cb0 hS); have a1 := (cell_keep cb1 hS); clear hS hSw; go_simp)
 simp only [lw20o_2, Act.put, sA, sB, sC]
 refine tk 4 lw20o_4 (.slice (some ⟨A3, 0, none⟩) n c3) rfl (by kernel_rfl) hH0 rfl (fun w0 hSw => ?_) ?_
 ·(unfold lw20o_4; clear hSw; go_simp)
 simp only [lw20o_4, Act.put, sA, sB, sC]
 refine tk 5 lw20o_5 (.slice (some ⟨A4, 0, none⟩) n c4) rfl (by kernel_rfl) hH0 rfl (fun w0 hSw => ?_) ?_
 ·(unfold lw20o_5; clear hSw; go_simp)
 simp only [lw20o_5, Act.put, sA, sB, sC]
 refine tk 6 lw20o_6 (.pointer (some ⟨T24, 0, none⟩)) rfl (by kernel_rfl) hH0 rfl (fun w0 hSw => ?_) ?_
 ·(unfold lw20o_6; clear hSw; go_simp)
 simp only [lw20o_6, Act.put, sA, sB, sC]
 refine tk 8 lw20o_8 (.pointer (some ⟨T24, 8, none⟩)) rfl (by kernel_rfl) hH0 rfl (fun w0 hSw => ?_) ?_
 ·(unfold lw20o_8; clear hSw; go_simp)
 simp only [lw20o_8, Act.put, sA, sB, sC]
 refine tk 10 lw20o_10 (.agg #[.int .u64 t.x0, .int .u64 t.x1, .int .u64 t.x2, .int .u64 t.x3]) rfl (by kernel_rfl) hH0 rfl (fun w0 hSw => ?_) ?_
 ·(unfold lw20o_10; have hS : Below W.heap.size W w0 := hSw; have a0 := (cell_keep ct0 hS); have a1 := (cell_keep ct1 hS); have a2 := (cell_keep ct2 hS); have a3 := (cell_keep ct3 hS); clear hS hSw; go_simp)
 simp only [lw20o_10, Act.put, sA, sB, sC]
 refine tk 7 lw20o_7 (.agg #[.int .u64 c.x0, .int .u64 c.x1, .int .u64 c.x2, .int .u64 c.x3]) rfl (by kernel_rfl) hH0 rfl (fun w0 hSw => ?_) ?_
 ·(unfold lw20o_7; have hS : Below W.heap.size W w0 := hSw; have a0 := (cell_keep cc0 hS); have a1 := (cell_keep cc1 hS); have a2 := (cell_keep cc2 hS); have a3 := (cell_keep cc3 hS); clear hS hSw; go_simp)
 simp only [lw20o_7, Act.put, sA, sB, sC]
 refine tk 9 lw20o_9 (.slice (some ⟨A6, 0, none⟩) n c6) rfl (by kernel_rfl) hH0 rfl (fun w0 hSw => ?_) ?_
 ·(unfold lw20o_9; have hS : Below W.heap.size W w0 := hSw; have a0 := (cell_keep cm hS); clear hS hSw; go_simp)
 simp only [lw20o_9, Act.put, sA, sB, sC]
 exact lw20_s0 hr1 hn1 ca0 ca1 cb0 cb1 ct0 ct1 ct2 ct3 cc0 cc1 cc2 cc3 cm C1 C3 CG CP HQ _ hH0
end
open Go.RowKit
def lw13o_0 : Oper := { dst := some 77, op := Op.move (Operand.tmp 25), type := 35, pos := "outright.go:221", after := #[], guard := none }
def lw13o_1 : Oper := { dst := some 78, op := Op.binOp BinOp.neq 3 (Operand.tmp 77) (Operand.const (Value.int IntKind.i64 0)) 3, type := 4, pos := "outright.go:221", after := #[{ on := 0, ground := Ground.data }], guard := none }
def lw13o_2 : Oper := { dst := some 79, op := Op.move (Operand.tmp 78), type := 4, pos := "outright.go:221", after := #[{ on := 1, ground := Ground.data }], guard := none }
def lw13o_3 : Oper := { dst := some 80, op := Op.fieldAddr 34 (Operand.tmp 24) 0, type := 0, pos := "outright.go:221", after := #[{ on := 2, ground := Ground.guard }], guard := some (2, false) }
def lw13o_4 : Oper := { dst := some 81, op := Op.load 26 (Operand.tmp 80), type := 26, pos := "outright.go:221", after := #[{ on := 3, ground := Ground.data }, { on := 2, ground := Ground.guard }], guard := some (2, false) }
def lw13o_5 : Oper := { dst := some 82, op := Op.fieldAddr 34 (Operand.tmp 24) 1, type := 0, pos := "outright.go:221", after := #[{ on := 2, ground := Ground.guard }], guard := some (2, false) }
def lw13o_6 : Oper := { dst := some 83, op := Op.load 26 (Operand.tmp 82), type := 26, pos := "outright.go:221", after := #[{ on := 5, ground := Ground.data }, { on := 2, ground := Ground.guard }], guard := some (2, false) }
def lw13o_7 : Oper := { dst := some 84, op := Op.call { callee := Callee.value (Operand.func 13), args := #[Operand.tmp 81, Operand.tmp 83], argTypes := #[26, 26] }, type := 26, pos := "outright.go:221", after := #[{ on := 4, ground := Ground.data }, { on := 6, ground := Ground.data }, { on := 2, ground := Ground.chain }, { on := 2, ground := Ground.guard }], guard := some (2, false) }
def lw13o_8 : Oper := { dst := some 85, op := Op.load 26 (Operand.tmp 15), type := 26, pos := "outright.go:221", after := #[{ on := 2, ground := Ground.guard }], guard := some (2, false) }
def lw13o_9 : Oper := { dst := some 86, op := Op.call { callee := Callee.value (Operand.func 14), args := #[Operand.tmp 84, Operand.tmp 85], argTypes := #[26, 26] }, type := 4, pos := "outright.go:221", after := #[{ on := 7, ground := Ground.data }, { on := 8, ground := Ground.data }, { on := 7, ground := Ground.chain }, { on := 2, ground := Ground.guard }], guard := some (2, false) }
def lw13o_10 : Oper := { dst := some 87, op := Op.unOp UnOp.not 4 (Operand.tmp 86), type := 4, pos := "outright.go:221", after := #[{ on := 9, ground := Ground.data }, { on := 2, ground := Ground.guard }], guard := some (2, false) }
def lw13o_11 : Oper := { dst := some 88, op := Op.pick (Operand.tmp 79) (Operand.const (Value.bool true)) (Operand.tmp 87), type := 4, pos := "outright.go:221", after := #[{ on := 2, ground := Ground.data }, { on := 10, ground := Ground.data }], guard := none }
def lw13o_12 : Oper := { dst := some 89, op := Op.move (Operand.tmp 88), type := 4, pos := "outright.go:221", after := #[{ on := 11, ground := Ground.data }, { on := 9, ground := Ground.chain }], guard := none }
def lw13o_13 : Oper := { dst := some 90, op := Op.fieldAddr 34 (Operand.tmp 24) 1, type := 0, pos := "outright.go:221", after := #[{ on := 12, ground := Ground.guard }], guard := some (12, false) }
def lw13o_14 : Oper := { dst := some 91, op := Op.load 26 (Operand.tmp 90), type := 26, pos := "outright.go:221", after := #[{ on := 13, ground := Ground.data }, { on := 12, ground := Ground.guard }], guard := some (12, false) }
def lw13o_15 : Oper := { dst := some 92, op := Op.load 26 (Operand.tmp 14), type := 26, pos := "outright.go:221", after := #[{ on := 12, ground := Ground.guard }], guard := some (12, false) }
def lw13o_16 : Oper := { dst := some 93, op := Op.call { callee := Callee.value (Operand.func 14), args := #[Operand.tmp 91, Operand.tmp 92], argTypes := #[26, 26] }, type := 4, pos := "outright.go:221", after := #[{ on := 14, ground := Ground.data }, { on := 15, ground := Ground.data }, { on := 12, ground := Ground.chain }, { on := 12, ground := Ground.guard }], guard := some (12, false) }
def lw13o_17 : Oper := { dst := some 94, op := Op.unOp UnOp.not 4 (Operand.tmp 93), type := 4, pos := "outright.go:221", after := #[{ on := 16, ground := Ground.data }, { on := 12, ground := Ground.guard }], guard := some (12, false) }
def lw13o_18 : Oper := { dst := some 95, op := Op.pick (Operand.tmp 89) (Operand.const (Value.bool true)) (Operand.tmp 94), type := 4, pos := "outright.go:221", after := #[{ on := 12, ground := Ground.data }, { on := 17, ground := Ground.data }], guard := none }
def lw13o_19 : Oper := { dst := some 96, op := Op.move (Operand.tmp 95), type := 4, pos := "outright.go:221", after := #[{ on := 18, ground := Ground.data }, { on := 16, ground := Ground.chain }], guard := none }
def lw13o_20 : Oper := { dst := some 97, op := Op.load 30 (Operand.tmp 22), type := 30, pos := "outright.go:221", after := #[{ on := 19, ground := Ground.guard }], guard := some (19, false) }
def lw13o_21 : Oper := { dst := some 98, op := Op.call { callee := Callee.value (Operand.func 11), args := #[Operand.tmp 97], argTypes := #[30] }, type := 43, pos := "outright.go:221", after := #[{ on := 20, ground := Ground.data }, { on := 19, ground := Ground.chain }, { on := 19, ground := Ground.guard }], guard := some (19, false) }
def lw13o_22 : Oper := { dst := some 99, op := Op.load 30 (Operand.tmp 23), type := 30, pos := "outright.go:221", after := #[{ on := 19, ground := Ground.guard }], guard := some (19, false) }
def lw13o_23 : Oper := { dst := some 100, op := Op.call { callee := Callee.value (Operand.func 11), args := #[Operand.tmp 99], argTypes := #[30] }, type := 43, pos := "outright.go:221", after := #[{ on := 22, ground := Ground.data }, { on := 21, ground := Ground.chain }, { on := 19, ground := Ground.guard }], guard := some (19, false) }
def lw13o_24 : Oper := { dst := some 101, op := Op.load 34 (Operand.tmp 24), type := 34, pos := "outright.go:221", after := #[{ on := 19, ground := Ground.guard }], guard := some (19, false) }
def lw13o_25 : Oper := { dst := some 102, op := Op.load 26 (Operand.tmp 15), type := 26, pos := "outright.go:221", after := #[{ on := 19, ground := Ground.guard }], guard := some (19, false) }
def lw13o_26 : Oper := { dst := some 103, op := Op.buildSlice 23 1 #[(0, Operand.tmp 102)], type := 23, pos := "outright.go:221", after := #[{ on := 25, ground := Ground.data }, { on := 19, ground := Ground.guard }], guard := some (19, false) }
def lw13o_27 : Oper := { dst := some 104, op := Op.call { callee := Callee.value (Operand.func 12), args := #[Operand.tmp 103], argTypes := #[23] }, type := 45, pos := "outright.go:221", after := #[{ on := 26, ground := Ground.data }, { on := 23, ground := Ground.chain }, { on := 19, ground := Ground.guard }], guard := some (19, false) }
def lw13o_28 : Oper := { dst := some 105, op := Op.makeInterface 45 (Operand.tmp 104), type := 60, pos := "outright.go:221", after := #[{ on := 27, ground := Ground.data }, { on := 19, ground := Ground.guard }], guard := some (19, false) }
def lw13o_29 : Oper := { dst := some 106, op := Op.call { callee := Callee.value (Operand.func 15), args := #[Operand.tmp 98, Operand.tmp 100, Operand.tmp 101, Operand.tmp 105], argTypes := #[43, 43, 34, 60] }, type := 35, pos := "outright.go:221", after := #[{ on := 21, ground := Ground.data }, { on := 23, ground := Ground.data }, { on := 24, ground := Ground.data }, { on := 28, ground := Ground.data }, { on := 27, ground := Ground.chain }, { on := 19, ground := Ground.guard }], guard := some (19, false) }
def lw13o_30 : Oper := { dst := some 107, op := Op.binOp BinOp.neq 3 (Operand.tmp 106) (Operand.const (Value.int IntKind.i64 0)) 3, type := 4, pos := "outright.go:221", after := #[{ on := 29, ground := Ground.data }, { on := 19, ground := Ground.guard }], guard := some (19, false) }
def lw13o_31 : Oper := { dst := some 108, op := Op.pick (Operand.tmp 96) (Operand.const (Value.bool true)) (Operand.tmp 107), type := 4, pos := "outright.go:221", after := #[{ on := 19, ground := Ground.data }, { on := 30, ground := Ground.data }], guard := none }
def lw13o : Array Oper := #[lw13o_0, lw13o_1, lw13o_2, lw13o_3, lw13o_4, lw13o_5, lw13o_6, lw13o_7, lw13o_8, lw13o_9, lw13o_10, lw13o_11, lw13o_12, lw13o_13, lw13o_14, lw13o_15, lw13o_16, lw13o_17, lw13o_18, lw13o_19, lw13o_20, lw13o_21, lw13o_22, lw13o_23, lw13o_24, lw13o_25, lw13o_26, lw13o_27, lw13o_28, lw13o_29, lw13o_30, lw13o_31]
section
variable {Q : Exit → Act → World → Prop} {T14 T15 T22 T23 T24 RR J1 J2 cRR cJ1 cJ2 B1 B2 r n : Nat} {t c p1 p2 sm : E4} {gs : Nat → Nat → E4} {im1 im2 : Nat → E4} {Xa Xb Xc Xd Xe Xf Xg Xh Xi Xj Xk Xl Xm Xn Xq Xr Xs Xt Xu Xv Ya Yb Yc Yd Ye Yf Yg Yh Yi Yj Yk Yl Ym Yn Yo Yp Yq Yr Ys Yt Yu Yv Yw Yx Yy Yz Za Zb Zc Zd Ze Zf Zg Zh Zi Zj Zk Zl Zm Zn Zo Zp Zq Zr Zs Zt Zu Zv Zw Zx Zy Zz Ua Ub Uc Ud Ue Uf Ug Uh Ui Uj Uk Ul Um Un Uo Up Uq Ur Us Ut Uu Uv Uw Ux Uy Uz Da Db Dc Dd De Df Dg Dh Di Dj Dk Dl Dm Dn Do Dp Dq Dr Ds Dt Du Dv Dw Dx Dy Dz Ja Jb Jc Jd Je Jf Jg Jh Ji Jj Jk Jl Jm Jn Jo Jp Jq Jr Js Jt Ju Jv Jw Jx Jy Jz Ia Ib Ic Id Ie If Ig Ih Ii Ij Ik Il Im In Io Ip Iq Ir Is It Iu Iv Iw Ix Iy Iz Ga Gb Gc Gd Ge Gf Gg Gh Gi Gj Gk Gl Gm Gn Go Gp Gq Gr Gs Gt Gu Gv Gw Gx Gy Gz Ba Bb Bc Bd Be Bf Bg Bh Bi : Value} {W : World}
variable (hr1 : 1 ≤ r)
variable (hn1 : 1 ≤ n)
variable (ca0 : W.cell? ⟨T22, 0, none⟩ = some (.slice (some ⟨RR, 0, none⟩) r cRR)) (ca1 : W.cell? ⟨T22, 1, none⟩ = some (.slice (some ⟨J1, 0, none⟩) r cJ1))
variable (cb0 : W.cell? ⟨T23, 0, none⟩ = some (.slice (some ⟨RR, 0, none⟩) r cRR)) (cb1 : W.cell? ⟨T23, 1, none⟩ = some (.slice (some ⟨J2, 0, none⟩) r cJ2))
variable (ct0 : W.cell? ⟨T15, 0, none⟩ = some (.int .u64 t.x0)) (ct1 : W.cell? ⟨T15, 1, none⟩ = some (.int .u64 t.x1)) (ct2 : W.cell? ⟨T15, 2, none⟩ = some (.int .u64 t.x2)) (ct3 : W.cell? ⟨T15, 3, none⟩ = some (.int .u64 t.x3))
variable (cc0 : W.cell? ⟨T14, 0, none⟩ = some (.int .u64 c.x0)) (cc1 : W.cell? ⟨T14, 1, none⟩ = some (.int .u64 c.x1)) (cc2 : W.cell? ⟨T14, 2, none⟩ = some (.int .u64 c.x2)) (cc3 : W.cell? ⟨T14, 3, none⟩ = some (.int .u64 c.x3))
variable (ce0 : W.cell? ⟨T24, 0, none⟩ = some (.int .u64 p1.x0)) (ce1 : W.cell? ⟨T24, 1, none⟩ = some (.int .u64 p1.x1)) (ce2 : W.cell? ⟨T24, 2, none⟩ = some (.int .u64 p1.x2)) (ce3 : W.cell? ⟨T24, 3, none⟩ = some (.int .u64 p1.x3)) (ce4 : W.cell? ⟨T24, 4, none⟩ = some (.int .u64 p2.x0)) (ce5 : W.cell? ⟨T24, 5, none⟩ = some (.int .u64 p2.x1)) (ce6 : W.cell? ⟨T24, 6, none⟩ = some (.int .u64 p2.x2)) (ce7 : W.cell? ⟨T24, 7, none⟩ = some (.int .u64 p2.x3)) (ce8 : W.cell? ⟨T24, 8, none⟩ = some (.slice (some ⟨B1, 0, none⟩) n n)) (ce9 : W.cell? ⟨T24, 9, none⟩ = some (.slice (some ⟨B2, 0, none⟩) n n))
variable (C7 : Hid (∀ y, Below W.heap.size W y → Calls Tryz.prog 13 #[.agg #[.int .u64 p1.x0, .int .u64 p1.x1, .int .u64 p1.x2, .int .u64 p1.x3], .agg #[.int .u64 p2.x0, .int .u64 p2.x1, .int .u64 p2.x2, .int .u64 p2.x3]] y fun e w' => e = .returned (.agg #[.int .u64 sm.x0, .int .u64 sm.x1, .int .u64 sm.x2, .int .u64 sm.x3]) ∧ Below y.heap.size y w'))
variable (C9 : Hid (∀ y, Below W.heap.size W y → Calls Tryz.prog 14 #[.agg #[.int .u64 sm.x0, .int .u64 sm.x1, .int .u64 sm.x2, .int .u64 sm.x3], .agg #[.int .u64 t.x0, .int .u64 t.x1, .int .u64 t.x2, .int .u64 t.x3]] y fun e w' => e = .returned (.bool true) ∧ Below y.heap.size y w'))
variable (C16 : Hid (∀ y, Below W.heap.size W y → Calls Tryz.prog 14 #[.agg #[.int .u64 p2.x0, .int .u64 p2.x1, .int .u64 p2.x2, .int .u64 p2.x3], .agg #[.int .u64 c.x0, .int .u64 c.x1, .int .u64 c.x2, .int .u64 c.x3]] y fun e w' => e = .returned (.bool true) ∧ Below y.heap.size y w'))
variable (C1 : Hid (∀ y, Below W.heap.size W y → Calls Tryz.prog 11 #[.agg #[.slice (some ⟨RR, 0, none⟩) r cRR, .slice (some ⟨J1, 0, none⟩) r cJ1]] y fun e w' => ∃ (R I cR cI : Nat) (g cn : Nat → Nat), e = .returned (.agg #[.slice (some ⟨R, 0, none⟩) r cR, .slice (some ⟨I, 0, none⟩) r cI]) ∧ Cl w' R I r n g cn gs im1 ∧ Below y.heap.size y w'))
variable (C3 : Hid (∀ y, Below W.heap.size W y → Calls Tryz.prog 11 #[.agg #[.slice (some ⟨RR, 0, none⟩) r cRR, .slice (some ⟨J2, 0, none⟩) r cJ2]] y fun e w' => ∃ (R I cR cI : Nat) (g cn : Nat → Nat), e = .returned (.agg #[.slice (some ⟨R, 0, none⟩) r cR, .slice (some ⟨I, 0, none⟩) r cI]) ∧ Cl w' R I r n g cn gs im2 ∧ Below y.heap.size y w'))
variable (CG : Hid (∀ y (b : Nat), Below W.heap.size W y → y.rangeAt b 0 [.int .u64 t.x0, .int .u64 t.x1, .int .u64 t.x2, .int .u64 t.x3] → Calls Tryz.prog 12 #[.slice (some ⟨b, 0, none⟩) 1 1] y fun e w' => ∃ s : Nat, e = .returned (.pointer (some ⟨s, 0, none⟩)) ∧ Fz w' s t ∧ y.heap.size ≤ s ∧ Below y.heap.size y w'))
variable (CV : Hid (∀ y (s R1 I1 cR1 cI1 R2 I2 cR2 cI2 : Nat) (g1 cn1 g2 cn2 : Nat → Nat), Below W.heap.size W y → W.heap.size ≤ s → Cb s y R1 I1 r n g1 cn1 gs im1 → Cb s y R2 I2 r n g2 cn2 gs im2 → Fz y s t → Calls Tryz.prog 15 #[.agg #[.slice (some ⟨R1, 0, none⟩) r cR1, .slice (some ⟨I1, 0, none⟩) r cI1], .agg #[.slice (some ⟨R2, 0, none⟩) r cR2, .slice (some ⟨I2, 0, none⟩) r cI2], .agg #[.int .u64 p1.x0, .int .u64 p1.x1, .int .u64 p1.x2, .int .u64 p1.x3, .int .u64 p2.x0, .int .u64 p2.x1, .int .u64 p2.x2, .int .u64 p2.x3, .slice (some ⟨B1, 0, none⟩) n n, .slice (some ⟨B2, 0, none⟩) n n], .iface 45 (.pointer (some ⟨s, 0, none⟩))] y fun e w' => e = .returned (.int .i64 0) ∧ Tr.Bt (fun k => k = s) y w'))
variable (HQ : Hid (∀ (R1 : Nat) (I1 : Nat) (cR1 : Nat) (cI1 : Nat) (g1 : Nat → Nat) (cn1 : Nat → Nat) (R2 : Nat) (I2 : Nat) (cR2 : Nat) (cI2 : Nat) (g2 : Nat → Nat) (cn2 : Nat → Nat) (tb : Nat) (s : Nat) (wz : World), Below W.heap.size W wz → Q .normal ⟨#[Xa, Xb, Xc, Xd, Xe, Xf, Xg, Xh, Xi, Xj, Xk, Xl, Xm, Xn, .pointer (some ⟨T14, 0, none⟩), .pointer (some ⟨T15, 0, none⟩), Xq, Xr, Xs, Xt, Xu, Xv, .pointer (some ⟨T22, 0, none⟩), .pointer (some ⟨T23, 0, none⟩), .pointer (some ⟨T24, 0, none⟩), .int .i64 0, Ya, Yb, Yc, Yd, Ye, Yf, Yg, Yh, Yi, Yj, Yk, Yl, Ym, Yn, Yo, Yp, Yq, Yr, Ys, Yt, Yu, Yv, Yw, Yx, Yy, Yz, Za, Zb, Zc, Zd, Ze, Zf, Zg, Zh, Zi, Zj, Zk, Zl, Zm, Zn, Zo, Zp, Zq, Zr, Zs, Zt, Zu, Zv, Zw, Zx, Zy, .int .i64 0, .bool false, .bool false, .pointer (some ⟨T24, 0, none⟩), .agg #[.int .u64 p1.x0, .int .u64 p1.x1, .int .u64 p1.x2, .int .u64 p1.x3], .pointer (some ⟨T24, 4, none⟩), .agg #[.int .u64 p2.x0, .int .u64 p2.x1, .int .u64 p2.x2, .int .u64 p2.x3], .agg #[.int .u64 sm.x0, .int .u64 sm.x1, .int .u64 sm.x2, .int .u64 sm.x3], .agg #[.int .u64 t.x0, .int .u64 t.x1, .int .u64 t.x2, .int .u64 t.x3], .bool true, .bool false, .bool false, .bool false, .pointer (some ⟨T24, 4, none⟩), .agg #[.int .u64 p2.x0, .int .u64 p2.x1, .int .u64 p2.x2, .int .u64 p2.x3], .agg #[.int .u64 c.x0, .int .u64 c.x1, .int .u64 c.x2, .int .u64 c.x3], .bool true, .bool false, .bool false, .bool false, .agg #[.slice (some ⟨RR, 0, none⟩) r cRR, .slice (some ⟨J1, 0, none⟩) r cJ1], .agg #[.slice (some ⟨R1, 0, none⟩) r cR1, .slice (some ⟨I1, 0, none⟩) r cI1], .agg #[.slice (some ⟨RR, 0, none⟩) r cRR, .slice (some ⟨J2, 0, none⟩) r cJ2], .agg #[.slice (some ⟨R2, 0, none⟩) r cR2, .slice (some ⟨I2, 0, none⟩) r cI2], .agg #[.int .u64 p1.x0, .int .u64 p1.x1, .int .u64 p1.x2, .int .u64 p1.x3, .int .u64 p2.x0, .int .u64 p2.x1, .int .u64 p2.x2, .int .u64 p2.x3, .slice (some ⟨B1, 0, none⟩) n n, .slice (some ⟨B2, 0, none⟩) n n], .agg #[.int .u64 t.x0, .int .u64 t.x1, .int .u64 t.x2, .int .u64 t.x3], .slice (some ⟨tb, 0, none⟩) 1 1, .pointer (some ⟨s, 0, none⟩), .iface 45 (.pointer (some ⟨s, 0, none⟩)), .int .i64 0, .bool false, .bool false, Df, Dg, Dh, Di, Dj, Dk, Dl, Dm, Dn, Do, Dp, Dq, Dr, Ds, Dt, Du, Dv, Dw, Dx, Dy, Dz, Ja, Jb, Jc, Jd, Je, Jf, Jg, Jh, Ji, Jj, Jk, Jl, Jm, Jn, Jo, Jp, Jq, Jr, Js, Jt, Ju, Jv, Jw, Jx, Jy, Jz, Ia, Ib, Ic, Id, Ie, If, Ig, Ih, Ii, Ij, Ik, Il, Im, In, Io, Ip, Iq, Ir, Is, It, Iu, Iv, Iw, Ix, Iy, Iz, Ga, Gb, Gc, Gd, Ge, Gf, Gg, Gh, Gi, Gj, Gk, Gl, Gm, Gn, Go, Gp, Gq, Gr, Gs, Gt, Gu, Gv, Gw, Gx, Gy, Gz, Ba, Bb, Bc, Bd, Be, Bf, Bg, Bh, Bi], []⟩ wz))
variable {R1 I1 cR1 cI1 R2 I2 cR2 cI2 tb s : Nat}
variable {g1 cn1 g2 cn2 : Nat → Nat}
def lw13_s8 (w : World) (hH0 : Below W.heap.size W w)  : wpAnyH Tryz.prog .any lw13o (NoPanic Q) (fun x => Below W.heap.size W x) 0 #[true, true, true, true, true, true, true, true, true, true, true, true, true, true, true, true, true, true, true, true, true, true, true, true, true, true, true, true, true, true, true, true] ⟨#[Xa, Xb, Xc, Xd, Xe, Xf, Xg, Xh, Xi, Xj, Xk, Xl, Xm, Xn, .pointer (some ⟨T14, 0, none⟩), .pointer (some ⟨T15, 0, none⟩), Xq, Xr, Xs, Xt, Xu, Xv, .pointer (some ⟨T22, 0, none⟩), .pointer (some ⟨T23, 0, none⟩), .pointer (some ⟨T24, 0, none⟩), .int .i64 0, Ya, Yb, Yc, Yd, Ye, Yf, Yg, Yh, Yi, Yj, Yk, Yl, Ym, Yn, Yo, Yp, Yq, Yr, Ys, Yt, Yu, Yv, Yw, Yx, Yy, Yz, Za, Zb, Zc, Zd, Ze, Zf, Zg, Zh, Zi, Zj, Zk, Zl, Zm, Zn, Zo, Zp, Zq, Zr, Zs, Zt, Zu, Zv, Zw, Zx, Zy, .int .i64 0, .bool false, .bool false, .pointer (some ⟨T24, 0, none⟩), p1.v, .pointer (some ⟨T24, 4, none⟩), p2.v, sm.v, t.v, .bool true, .bool false, .bool false, .bool false, .pointer (some ⟨T24, 4, none⟩), p2.v, c.v, .bool true, .bool false, .bool false, .bool false, .agg #[.slice (some ⟨RR, 0, none⟩) r cRR, .slice (some ⟨J1, 0, none⟩) r cJ1], .agg #[.slice (some ⟨R1, 0, none⟩) r cR1, .slice (some ⟨I1, 0, none⟩) r cI1], .agg #[.slice (some ⟨RR, 0, none⟩) r cRR, .slice (some ⟨J2, 0, none⟩) r cJ2], .agg #[.slice (some ⟨R2, 0, none⟩) r cR2, .slice (some ⟨I2, 0, none⟩) r cI2], .agg #[.int .u64 p1.x0, .int .u64 p1.x1, .int .u64 p1.x2, .int .u64 p1.x3, .int .u64 p2.x0, .int .u64 p2.x1, .int .u64 p2.x2, .int .u64 p2.x3, .slice (some ⟨B1, 0, none⟩) n n, .slice (some ⟨B2, 0, none⟩) n n], t.v, .slice (some ⟨tb, 0, none⟩) 1 1, .pointer (some ⟨s, 0, none⟩), .iface 45 (.pointer (some ⟨s, 0, none⟩)), .int .i64 0, .bool false, .bool false, Df, Dg, Dh, Di, Dj, Dk, Dl, Dm, Dn, Do, Dp, Dq, Dr, Ds, Dt, Du, Dv, Dw, Dx, Dy, Dz, Ja, Jb, Jc, Jd, Je, Jf, Jg, Jh, Ji, Jj, Jk, Jl, Jm, Jn, Jo, Jp, Jq, Jr, Js, Jt, Ju, Jv, Jw, Jx, Jy, Jz, Ia, Ib, Ic, Id, Ie, If, Ig, Ih, Ii, Ij, Ik, Il, Im, In, Io, Ip, Iq, Ir, Is, It, Iu, Iv, Iw, Ix, Iy, Iz, Ga, Gb, Gc, Gd, Ge, Gf, Gg, Gh, Gi, Gj, Gk, Gl, Gm, Gn, Go, Gp, Gq, Gr, Gs, Gt, Gu, Gv, Gw, Gx, Gy, Gz, Ba, Bb, Bc, Bd, Be, Bf, Bg, Bh, Bi], []⟩ w := by
 have zz := And.intro hr1 (And.intro hn1 (And.intro ca0 (And.intro ca1 (And.intro cb0 (And.intro cb1 (And.intro ct0 (And.intro ct1 (And.intro ct2 (And.intro ct3 (And.intro cc0 (And.intro cc1 (And.intro cc2 (And.intro cc3 (And.intro ce0 (And.intro ce1 (And.intro ce2 (And.intro ce3 (And.intro ce4 (And.intro ce5 (And.intro ce6 (And.intro ce7 (And.intro ce8 (And.intro ce9 (And.intro C7 (And.intro C9 (And.intro C16 (And.intro C1 (And.intro C3 (And.intro CG (And.intro CV (HQ)))))))))))))))))))))))))))))))
 clear zz
 unfold E4.v
 have HH := hidden hH0
 have FQ := hidden (HQ.out R1 I1 cR1 cI1 g1 cn1 R2 I2 cR2 cI2 g2 cn2 tb s _ HH.out)
 refine wpAnyH_done (by kernel_rfl) ?_ _
 refine NoPanic.normal ?_
 exact FQ.out
def lw13_s7 (w : World) (hH0 : Below W.heap.size W w) (K1 : Hid (Cb s w R1 I1 r n g1 cn1 gs im1)) (K2 : Hid (Cb s w R2 I2 r n g2 cn2 gs im2)) (GES : Hid (W.heap.size ≤ s)) (FZ : Hid (Fz w s t)) : wpAnyH Tryz.prog .any lw13o (NoPanic Q) (fun x => Below W.heap.size W x) 3 #[true, true, true, true, true, true, true, true, true, true, true, true, true, true, true, true, true, true, true, true, true, true, true, true, true, true, true, true, true, false, false, false] ⟨#[Xa, Xb, Xc, Xd, Xe, Xf, Xg, Xh, Xi, Xj, Xk, Xl, Xm, Xn, .pointer (some ⟨T14, 0, none⟩), .pointer (some ⟨T15, 0, none⟩), Xq, Xr, Xs, Xt, Xu, Xv, .pointer (some ⟨T22, 0, none⟩), .pointer (some ⟨T23, 0, none⟩), .pointer (some ⟨T24, 0, none⟩), .int .i64 0, Ya, Yb, Yc, Yd, Ye, Yf, Yg, Yh, Yi, Yj, Yk, Yl, Ym, Yn, Yo, Yp, Yq, Yr, Ys, Yt, Yu, Yv, Yw, Yx, Yy, Yz, Za, Zb, Zc, Zd, Ze, Zf, Zg, Zh, Zi, Zj, Zk, Zl, Zm, Zn, Zo, Zp, Zq, Zr, Zs, Zt, Zu, Zv, Zw, Zx, Zy, .int .i64 0, .bool false, .bool false, .pointer (some ⟨T24, 0, none⟩), p1.v, .pointer (some ⟨T24, 4, none⟩), p2.v, sm.v, t.v, .bool true, .bool false, .bool false, .bool false, .pointer (some ⟨T24, 4, none⟩), p2.v, c.v, .bool true, .bool false, .bool false, .bool false, .agg #[.slice (some ⟨RR, 0, none⟩) r cRR, .slice (some ⟨J1, 0, none⟩) r cJ1], .agg #[.slice (some ⟨R1, 0, none⟩) r cR1, .slice (some ⟨I1, 0, none⟩) r cI1], .agg #[.slice (some ⟨RR, 0, none⟩) r cRR, .slice (some ⟨J2, 0, none⟩) r cJ2], .agg #[.slice (some ⟨R2, 0, none⟩) r cR2, .slice (some ⟨I2, 0, none⟩) r cI2], .agg #[.int .u64 p1.x0, .int .u64 p1.x1, .int .u64 p1.x2, .int .u64 p1.x3, .int .u64 p2.x0, .int .u64 p2.x1, .int .u64 p2.x2, .int .u64 p2.x3, .slice (some ⟨B1, 0, none⟩) n n, .slice (some ⟨B2, 0, none⟩) n n], t.v, .slice (some ⟨tb, 0, none⟩) 1 1, .pointer (some ⟨s, 0, none⟩), .iface 45 (.pointer (some ⟨s, 0, none⟩)), Dc, Dd, De, Df, Dg, Dh, Di, Dj, Dk, Dl, Dm, Dn, Do, Dp, Dq, Dr, Ds, Dt, Du, Dv, Dw, Dx, Dy, Dz, Ja, Jb, Jc, Jd, Je, Jf, Jg, Jh, Ji, Jj, Jk, Jl, Jm, Jn, Jo, Jp, Jq, Jr, Js, Jt, Ju, Jv, Jw, Jx, Jy, Jz, Ia, Ib, Ic, Id, Ie, If, Ig, Ih, Ii, Ij, Ik, Il, Im, In, Io, Ip, Iq, Ir, Is, It, Iu, Iv, Iw, Ix, Iy, Iz, Ga, Gb, Gc, Gd, Ge, Gf, Gg, Gh, Gi, Gj, Gk, Gl, Gm, Gn, Go, Gp, Gq, Gr, Gs, Gt, Gu, Gv, Gw, Gx, Gy, Gz, Ba, Bb, Bc, Bd, Be, Bf, Bg, Bh, Bi], []⟩ w := by
 unfold E4.v
 refine wpAnyH_ready (rs := [29]) (by kernel_rfl) (by simp) ?_
 refine AllReadyH.cons (o := lw13o_29) rfl (fun K hK => ?_) AllReadyH.nil
 unfold lw13o_29
 have HH := hidden hH0
 clear hH0
 go_simp
 refine (CV.out _ s R1 I1 cR1 cI1 R2 I2 cR2 cI2 g1 cn1 g2 cn2 HH.out GES.out K1.out K2.out FZ.out).mono ?_
 rintro e wn1 ⟨rfl, hb⟩
 have SN := hidden (below_trans HH.out (hb.below HH.out.size (fun k e => by subst e; exact GES.out)))
 clear HH hb K1 K2 FZ
 go_wp2_with fail
 refine hK.out _ _ SN.out (fun hH1 => ?_)
 clear hK K SN
 refine tk 30 lw13o_30 (.bool false) rfl (by kernel_rfl) hH1 rfl (fun w0 hSw => ?_) ?_
 ·(unfold lw13o_30; clear hSw; go_simp)
 simp only [lw13o_30, Act.put, sA, sB, sC]
 refine tk 31 lw13o_31 (.bool false) rfl (by kernel_rfl) hH1 rfl (fun w0 hSw => ?_) ?_
 ·(unfold lw13o_31; clear hSw; go_simp)
 simp only [lw13o_31, Act.put, sA, sB, sC]
 exact lw13_s8 (g1 := g1) (cn1 := cn1) (g2 := g2) (cn2 := cn2) hr1 hn1 ca0 ca1 cb0 cb1 ct0 ct1 ct2 ct3 cc0 cc1 cc2 cc3 ce0 ce1 ce2 ce3 ce4 ce5 ce6 ce7 ce8 ce9 C7 C9 C16 C1 C3 CG CV HQ _ hH1
def lw13_s6 (w : World) (hH0 : Below W.heap.size W w) (K1 : Hid (Cl w R1 I1 r n g1 cn1 gs im1)) (K2 : Hid (Cl w R2 I2 r n g2 cn2 gs im2)) (RT : Hid (w.rangeAt tb 0 [.int .u64 t.x0, .int .u64 t.x1, .int .u64 t.x2, .int .u64 t.x3])) : wpAnyH Tryz.prog .any lw13o (NoPanic Q) (fun x => Below W.heap.size W x) 5 #[true, true, true, true, true, true, true, true, true, true, true, true, true, true, true, true, true, true, true, true, true, true, true, true, true, true, true, false, false, false, false, false] ⟨#[Xa, Xb, Xc, Xd, Xe, Xf, Xg, Xh, Xi, Xj, Xk, Xl, Xm, Xn, .pointer (some ⟨T14, 0, none⟩), .pointer (some ⟨T15, 0, none⟩), Xq, Xr, Xs, Xt, Xu, Xv, .pointer (some ⟨T22, 0, none⟩), .pointer (some ⟨T23, 0, none⟩), .pointer (some ⟨T24, 0, none⟩), .int .i64 0, Ya, Yb, Yc, Yd, Ye, Yf, Yg, Yh, Yi, Yj, Yk, Yl, Ym, Yn, Yo, Yp, Yq, Yr, Ys, Yt, Yu, Yv, Yw, Yx, Yy, Yz, Za, Zb, Zc, Zd, Ze, Zf, Zg, Zh, Zi, Zj, Zk, Zl, Zm, Zn, Zo, Zp, Zq, Zr, Zs, Zt, Zu, Zv, Zw, Zx, Zy, .int .i64 0, .bool false, .bool false, .pointer (some ⟨T24, 0, none⟩), p1.v, .pointer (some ⟨T24, 4, none⟩), p2.v, sm.v, t.v, .bool true, .bool false, .bool false, .bool false, .pointer (some ⟨T24, 4, none⟩), p2.v, c.v, .bool true, .bool false, .bool false, .bool false, .agg #[.slice (some ⟨RR, 0, none⟩) r cRR, .slice (some ⟨J1, 0, none⟩) r cJ1], .agg #[.slice (some ⟨R1, 0, none⟩) r cR1, .slice (some ⟨I1, 0, none⟩) r cI1], .agg #[.slice (some ⟨RR, 0, none⟩) r cRR, .slice (some ⟨J2, 0, none⟩) r cJ2], .agg #[.slice (some ⟨R2, 0, none⟩) r cR2, .slice (some ⟨I2, 0, none⟩) r cI2], .agg #[.int .u64 p1.x0, .int .u64 p1.x1, .int .u64 p1.x2, .int .u64 p1.x3, .int .u64 p2.x0, .int .u64 p2.x1, .int .u64 p2.x2, .int .u64 p2.x3, .slice (some ⟨B1, 0, none⟩) n n, .slice (some ⟨B2, 0, none⟩) n n], t.v, .slice (some ⟨tb, 0, none⟩) 1 1, Da, Db, Dc, Dd, De, Df, Dg, Dh, Di, Dj, Dk, Dl, Dm, Dn, Do, Dp, Dq, Dr, Ds, Dt, Du, Dv, Dw, Dx, Dy, Dz, Ja, Jb, Jc, Jd, Je, Jf, Jg, Jh, Ji, Jj, Jk, Jl, Jm, Jn, Jo, Jp, Jq, Jr, Js, Jt, Ju, Jv, Jw, Jx, Jy, Jz, Ia, Ib, Ic, Id, Ie, If, Ig, Ih, Ii, Ij, Ik, Il, Im, In, Io, Ip, Iq, Ir, Is, It, Iu, Iv, Iw, Ix, Iy, Iz, Ga, Gb, Gc, Gd, Ge, Gf, Gg, Gh, Gi, Gj, Gk, Gl, Gm, Gn, Go, Gp, Gq, Gr, Gs, Gt, Gu, Gv, Gw, Gx, Gy, Gz, Ba, Bb, Bc, Bd, Be, Bf, Bg, Bh, Bi], []⟩ w := by
 unfold E4.v
 refine wpAnyH_ready (rs := [27]) (by kernel_rfl) (by simp) ?_
 refine AllReadyH.cons (o := lw13o_27) rfl (fun K hK => ?_) AllReadyH.nil
 unfold lw13o_27
 have HH := hidden hH0
 clear hH0
 go_simp
 refine (CG.out _ tb HH.out RT.out).mono ?_
 rintro e wn1 ⟨s, rfl, hF, hs, hb⟩
 replace K1 := hidden (cb_of (K1.out) hs (K1.out.keep hb) hr1 hn1)
 replace K2 := hidden (cb_of (K2.out) hs (K2.out.keep hb) hr1 hn1)
 have FZ := hidden (hF)
 have GES := hidden ((by have := HH.out.size; omega : W.heap.size ≤ s))
 have SN := hidden (bl_trans HH.out hb)
 clear HH hb hF hs RT
 go_wp2_with fail
 refine hK.out _ _ SN.out (fun hH1 => ?_)
 clear hK K SN
 refine tk 28 lw13o_28 (.iface 45 (.pointer (some ⟨s, 0, none⟩))) rfl (by kernel_rfl) hH1 rfl (fun w0 hSw => ?_) ?_
 ·(unfold lw13o_28; clear hSw; go_simp)
 simp only [lw13o_28, Act.put, sA, sB, sC]
 exact lw13_s7 hr1 hn1 ca0 ca1 cb0 cb1 ct0 ct1 ct2 ct3 cc0 cc1 cc2 cc3 ce0 ce1 ce2 ce3 ce4 ce5 ce6 ce7 ce8 ce9 C7 C9 C16 C1 C3 CG CV HQ _ hH1 K1 K2 GES FZ
def lw13_s5 (w : World) (hH0 : Below W.heap.size W w) (K1 : Hid (Cl w R1 I1 r n g1 cn1 gs im1)) (K2 : Hid (Cl w R2 I2 r n g2 cn2 gs im2)) : wpAnyH Tryz.prog .any lw13o (NoPanic Q) (fun x => Below W.heap.size W x) 6 #[true, true, true, true, true, true, true, true, true, true, true, true, true, true, true, true, true, true, true, true, true, true, true, true, true, true, false, false, false, false, false, false] ⟨#[Xa, Xb, Xc, Xd, Xe, Xf, Xg, Xh, Xi, Xj, Xk, Xl, Xm, Xn, .pointer (some ⟨T14, 0, none⟩), .pointer (some ⟨T15, 0, none⟩), Xq, Xr, Xs, Xt, Xu, Xv, .pointer (some ⟨T22, 0, none⟩), .pointer (some ⟨T23, 0, none⟩), .pointer (some ⟨T24, 0, none⟩), .int .i64 0, Ya, Yb, Yc, Yd, Ye, Yf, Yg, Yh, Yi, Yj, Yk, Yl, Ym, Yn, Yo, Yp, Yq, Yr, Ys, Yt, Yu, Yv, Yw, Yx, Yy, Yz, Za, Zb, Zc, Zd, Ze, Zf, Zg, Zh, Zi, Zj, Zk, Zl, Zm, Zn, Zo, Zp, Zq, Zr, Zs, Zt, Zu, Zv, Zw, Zx, Zy, .int .i64 0, .bool false, .bool false, .pointer (some ⟨T24, 0, none⟩), p1.v, .pointer (some ⟨T24, 4, none⟩), p2.v, sm.v, t.v, .bool true, .bool false, .bool false, .bool false, .pointer (some ⟨T24, 4, none⟩), p2.v, c.v, .bool true, .bool false, .bool false, .bool false, .agg #[.slice (some ⟨RR, 0, none⟩) r cRR, .slice (some ⟨J1, 0, none⟩) r cJ1], .agg #[.slice (some ⟨R1, 0, none⟩) r cR1, .slice (some ⟨I1, 0, none⟩) r cI1], .agg #[.slice (some ⟨RR, 0, none⟩) r cRR, .slice (some ⟨J2, 0, none⟩) r cJ2], .agg #[.slice (some ⟨R2, 0, none⟩) r cR2, .slice (some ⟨I2, 0, none⟩) r cI2], .agg #[.int .u64 p1.x0, .int .u64 p1.x1, .int .u64 p1.x2, .int .u64 p1.x3, .int .u64 p2.x0, .int .u64 p2.x1, .int .u64 p2.x2, .int .u64 p2.x3, .slice (some ⟨B1, 0, none⟩) n n, .slice (some ⟨B2, 0, none⟩) n n], t.v, Uz, Da, Db, Dc, Dd, De, Df, Dg, Dh, Di, Dj, Dk, Dl, Dm, Dn, Do, Dp, Dq, Dr, Ds, Dt, Du, Dv, Dw, Dx, Dy, Dz, Ja, Jb, Jc, Jd, Je, Jf, Jg, Jh, Ji, Jj, Jk, Jl, Jm, Jn, Jo, Jp, Jq, Jr, Js, Jt, Ju, Jv, Jw, Jx, Jy, Jz, Ia, Ib, Ic, Id, Ie, If, Ig, Ih, Ii, Ij, Ik, Il, Im, In, Io, Ip, Iq, Ir, Is, It, Iu, Iv, Iw, Ix, Iy, Iz, Ga, Gb, Gc, Gd, Ge, Gf, Gg, Gh, Gi, Gj, Gk, Gl, Gm, Gn, Go, Gp, Gq, Gr, Gs, Gt, Gu, Gv, Gw, Gx, Gy, Gz, Ba, Bb, Bc, Bd, Be, Bf, Bg, Bh, Bi], []⟩ w := by
 unfold E4.v
 refine wpAnyH_ready (rs := [26]) (by kernel_rfl) (by simp) ?_
 refine AllReadyH.cons (o := lw13o_26) rfl (fun K hK => ?_) AllReadyH.nil
 unfold lw13o_26
 have HH := hidden hH0
 clear hH0
 refine Eq.mpr (if_pos (by exact rfl)) ?_
 refine Li.wp_buildS1 (.tmp 102) rfl t rfl (fun tb wn1 hb hrt => ?_)
 replace K1 := hidden (K1.out.keep hb)
 replace K2 := hidden (K2.out.keep hb)
 have RT := hidden (hrt)
 have SN := hidden (bl_trans HH.out hb)
 clear HH hb hrt
 simp only [Act.put, sA, sB, sC]
 refine hK.out _ _ SN.out (fun hH1 => ?_)
 clear hK K SN
 exact lw13_s6 hr1 hn1 ca0 ca1 cb0 cb1 ct0 ct1 ct2 ct3 cc0 cc1 cc2 cc3 ce0 ce1 ce2 ce3 ce4 ce5 ce6 ce7 ce8 ce9 C7 C9 C16 C1 C3 CG CV HQ _ hH1 K1 K2 RT
def lw13_s9 (w : World) (hH0 : Below W.heap.size W w) (K1 : Hid (Cl w R1 I1 r n g1 cn1 gs im1)) (RT : Hid (w.rangeAt tb 0 [.int .u64 t.x0, .int .u64 t.x1, .int .u64 t.x2, .int .u64 t.x3])) : wpAnyH Tryz.prog .any lw13o (NoPanic Q) (fun x => Below W.heap.size W x) 6 #[true, true, true, true, true, true, true, true, true, true, true, true, true, true, true, true, true, true, true, true, true, true, true, false, true, true, true, false, false, false, false, false] ⟨#[Xa, Xb, Xc, Xd, Xe, Xf, Xg, Xh, Xi, Xj, Xk, Xl, Xm, Xn, .pointer (some ⟨T14, 0, none⟩), .pointer (some ⟨T15, 0, none⟩), Xq, Xr, Xs, Xt, Xu, Xv, .pointer (some ⟨T22, 0, none⟩), .pointer (some ⟨T23, 0, none⟩), .pointer (some ⟨T24, 0, none⟩), .int .i64 0, Ya, Yb, Yc, Yd, Ye, Yf, Yg, Yh, Yi, Yj, Yk, Yl, Ym, Yn, Yo, Yp, Yq, Yr, Ys, Yt, Yu, Yv, Yw, Yx, Yy, Yz, Za, Zb, Zc, Zd, Ze, Zf, Zg, Zh, Zi, Zj, Zk, Zl, Zm, Zn, Zo, Zp, Zq, Zr, Zs, Zt, Zu, Zv, Zw, Zx, Zy, .int .i64 0, .bool false, .bool false, .pointer (some ⟨T24, 0, none⟩), p1.v, .pointer (some ⟨T24, 4, none⟩), p2.v, sm.v, t.v, .bool true, .bool false, .bool false, .bool false, .pointer (some ⟨T24, 4, none⟩), p2.v, c.v, .bool true, .bool false, .bool false, .bool false, .agg #[.slice (some ⟨RR, 0, none⟩) r cRR, .slice (some ⟨J1, 0, none⟩) r cJ1], .agg #[.slice (some ⟨R1, 0, none⟩) r cR1, .slice (some ⟨I1, 0, none⟩) r cI1], .agg #[.slice (some ⟨RR, 0, none⟩) r cRR, .slice (some ⟨J2, 0, none⟩) r cJ2], Uw, .agg #[.int .u64 p1.x0, .int .u64 p1.x1, .int .u64 p1.x2, .int .u64 p1.x3, .int .u64 p2.x0, .int .u64 p2.x1, .int .u64 p2.x2, .int .u64 p2.x3, .slice (some ⟨B1, 0, none⟩) n n, .slice (some ⟨B2, 0, none⟩) n n], t.v, .slice (some ⟨tb, 0, none⟩) 1 1, Da, Db, Dc, Dd, De, Df, Dg, Dh, Di, Dj, Dk, Dl, Dm, Dn, Do, Dp, Dq, Dr, Ds, Dt, Du, Dv, Dw, Dx, Dy, Dz, Ja, Jb, Jc, Jd, Je, Jf, Jg, Jh, Ji, Jj, Jk, Jl, Jm, Jn, Jo, Jp, Jq, Jr, Js, Jt, Ju, Jv, Jw, Jx, Jy, Jz, Ia, Ib, Ic, Id, Ie, If, Ig, Ih, Ii, Ij, Ik, Il, Im, In, Io, Ip, Iq, Ir, Is, It, Iu, Iv, Iw, Ix, Iy, Iz, Ga, Gb, Gc, Gd, Ge, Gf, Gg, Gh, Gi, Gj, Gk, Gl, Gm, Gn, Go, Gp, Gq, Gr, Gs, Gt, Gu, Gv, Gw, Gx, Gy, Gz, Ba, Bb, Bc, Bd, Be, Bf, Bg, Bh, Bi], []⟩ w := by
 unfold E4.v
 refine wpAnyH_ready (rs := [23]) (by kernel_rfl) (by simp) ?_
 refine AllReadyH.cons (o := lw13o_23) rfl (fun K hK => ?_) AllReadyH.nil
 unfold lw13o_23
 have HH := hidden hH0
 clear hH0
 go_simp
 refine (C3.out _ HH.out).mono ?_
 rintro e wn1 ⟨R2, I2, cR2, cI2, g2, cn2, rfl, hC, hb⟩
 replace K1 := hidden (K1.out.keep hb)
 replace RT := hidden (range_bl RT.out hb)
 have K2 := hidden (hC)
 have SN := hidden (bl_trans HH.out hb)
 clear HH hb hC
 go_wp2_with fail
 refine hK.out _ _ SN.out (fun hH1 => ?_)
 clear hK K SN
 exact lw13_s6 hr1 hn1 ca0 ca1 cb0 cb1 ct0 ct1 ct2 ct3 cc0 cc1 cc2 cc3 ce0 ce1 ce2 ce3 ce4 ce5 ce6 ce7 ce8 ce9 C7 C9 C16 C1 C3 CG CV HQ _ hH1 K1 K2 RT
def lw13_s4 (w : World) (hH0 : Below W.heap.size W w) (K1 : Hid (Cl w R1 I1 r n g1 cn1 gs im1)) : wpAnyH Tryz.prog .any lw13o (NoPanic Q) (fun x => Below W.heap.size W x) 7 #[true, true, true, true, true, true, true, true, true, true, true, true, true, true, true, true, true, true, true, true, true, true, true, false, true, true, false, false, false, false, false, false] ⟨#[Xa, Xb, Xc, Xd, Xe, Xf, Xg, Xh, Xi, Xj, Xk, Xl, Xm, Xn, .pointer (some ⟨T14, 0, none⟩), .pointer (some ⟨T15, 0, none⟩), Xq, Xr, Xs, Xt, Xu, Xv, .pointer (some ⟨T22, 0, none⟩), .pointer (some ⟨T23, 0, none⟩), .pointer (some ⟨T24, 0, none⟩), .int .i64 0, Ya, Yb, Yc, Yd, Ye, Yf, Yg, Yh, Yi, Yj, Yk, Yl, Ym, Yn, Yo, Yp, Yq, Yr, Ys, Yt, Yu, Yv, Yw, Yx, Yy, Yz, Za, Zb, Zc, Zd, Ze, Zf, Zg, Zh, Zi, Zj, Zk, Zl, Zm, Zn, Zo, Zp, Zq, Zr, Zs, Zt, Zu, Zv, Zw, Zx, Zy, .int .i64 0, .bool false, .bool false, .pointer (some ⟨T24, 0, none⟩), p1.v, .pointer (some ⟨T24, 4, none⟩), p2.v, sm.v, t.v, .bool true, .bool false, .bool false, .bool false, .pointer (some ⟨T24, 4, none⟩), p2.v, c.v, .bool true, .bool false, .bool false, .bool false, .agg #[.slice (some ⟨RR, 0, none⟩) r cRR, .slice (some ⟨J1, 0, none⟩) r cJ1], .agg #[.slice (some ⟨R1, 0, none⟩) r cR1, .slice (some ⟨I1, 0, none⟩) r cI1], .agg #[.slice (some ⟨RR, 0, none⟩) r cRR, .slice (some ⟨J2, 0, none⟩) r cJ2], Uw, .agg #[.int .u64 p1.x0, .int .u64 p1.x1, .int .u64 p1.x2, .int .u64 p1.x3, .int .u64 p2.x0, .int .u64 p2.x1, .int .u64 p2.x2, .int .u64 p2.x3, .slice (some ⟨B1, 0, none⟩) n n, .slice (some ⟨B2, 0, none⟩) n n], t.v, Uz, Da, Db, Dc, Dd, De, Df, Dg, Dh, Di, Dj, Dk, Dl, Dm, Dn, Do, Dp, Dq, Dr, Ds, Dt, Du, Dv, Dw, Dx, Dy, Dz, Ja, Jb, Jc, Jd, Je, Jf, Jg, Jh, Ji, Jj, Jk, Jl, Jm, Jn, Jo, Jp, Jq, Jr, Js, Jt, Ju, Jv, Jw, Jx, Jy, Jz, Ia, Ib, Ic, Id, Ie, If, Ig, Ih, Ii, Ij, Ik, Il, Im, In, Io, Ip, Iq, Ir, Is, It, Iu, Iv, Iw, Ix, Iy, Iz, Ga, Gb, Gc, Gd, Ge, Gf, Gg, Gh, Gi, Gj, Gk, Gl, Gm, Gn, Go, Gp, Gq, Gr, Gs, Gt, Gu, Gv, Gw, Gx, Gy, Gz, Ba, Bb, Bc, Bd, Be, Bf, Bg, Bh, Bi], []⟩ w := by
 unfold E4.v
 refine wpAnyH_ready (rs := [23, 26]) (by kernel_rfl) (by simp) ?_
 refine AllReadyH.cons (o := lw13o_23) rfl (fun K hK => ?_) (AllReadyH.cons (o := lw13o_26) rfl (fun K hK => ?_) AllReadyH.nil)
 ·unfold lw13o_23
  have HH := hidden hH0
  clear hH0
  go_simp
  refine (C3.out _ HH.out).mono ?_
  rintro e wn1 ⟨R2, I2, cR2, cI2, g2, cn2, rfl, hC, hb⟩
  replace K1 := hidden (K1.out.keep hb)
  have K2 := hidden (hC)
  have SN := hidden (bl_trans HH.out hb)
  clear HH hb hC
  go_wp2_with fail
  refine hK.out _ _ SN.out (fun hH1 => ?_)
  clear hK K SN
  exact lw13_s5 hr1 hn1 ca0 ca1 cb0 cb1 ct0 ct1 ct2 ct3 cc0 cc1 cc2 cc3 ce0 ce1 ce2 ce3 ce4 ce5 ce6 ce7 ce8 ce9 C7 C9 C16 C1 C3 CG CV HQ _ hH1 K1 K2
 ·unfold lw13o_26
  have HH := hidden hH0
  clear hH0
  refine Eq.mpr (if_pos (by exact rfl)) ?_
  refine Li.wp_buildS1 (.tmp 102) rfl t rfl (fun tb wn1 hb hrt => ?_)
  replace K1 := hidden (K1.out.keep hb)
  have RT := hidden (hrt)
  have SN := hidden (bl_trans HH.out hb)
  clear HH hb hrt
  simp only [Act.put, sA, sB, sC]
  refine hK.out _ _ SN.out (fun hH1 => ?_)
  clear hK K SN
  exact lw13_s9 hr1 hn1 ca0 ca1 cb0 cb1 ct0 ct1 ct2 ct3 cc0 cc1 cc2 cc3 ce0 ce1 ce2 ce3 ce4 ce5 ce6 ce7 ce8 ce9 C7 C9 C16 C1 C3 CG CV HQ _ hH1 K1 RT
def lw13_s10 (w : World) (hH0 : Below W.heap.size W w) (RT : Hid (w.rangeAt tb 0 [.int .u64 t.x0, .int .u64 t.x1, .int .u64 t.x2, .int .u64 t.x3])) : wpAnyH Tryz.prog .any lw13o (NoPanic Q) (fun x => Below W.heap.size W x) 7 #[true, true, true, true, true, true, true, true, true, true, true, true, true, true, true, true, true, true, true, true, true, false, true, false, true, true, true, false, false, false, false, false] ⟨#[Xa, Xb, Xc, Xd, Xe, Xf, Xg, Xh, Xi, Xj, Xk, Xl, Xm, Xn, .pointer (some ⟨T14, 0, none⟩), .pointer (some ⟨T15, 0, none⟩), Xq, Xr, Xs, Xt, Xu, Xv, .pointer (some ⟨T22, 0, none⟩), .pointer (some ⟨T23, 0, none⟩), .pointer (some ⟨T24, 0, none⟩), .int .i64 0, Ya, Yb, Yc, Yd, Ye, Yf, Yg, Yh, Yi, Yj, Yk, Yl, Ym, Yn, Yo, Yp, Yq, Yr, Ys, Yt, Yu, Yv, Yw, Yx, Yy, Yz, Za, Zb, Zc, Zd, Ze, Zf, Zg, Zh, Zi, Zj, Zk, Zl, Zm, Zn, Zo, Zp, Zq, Zr, Zs, Zt, Zu, Zv, Zw, Zx, Zy, .int .i64 0, .bool false, .bool false, .pointer (some ⟨T24, 0, none⟩), p1.v, .pointer (some ⟨T24, 4, none⟩), p2.v, sm.v, t.v, .bool true, .bool false, .bool false, .bool false, .pointer (some ⟨T24, 4, none⟩), p2.v, c.v, .bool true, .bool false, .bool false, .bool false, .agg #[.slice (some ⟨RR, 0, none⟩) r cRR, .slice (some ⟨J1, 0, none⟩) r cJ1], Uu, .agg #[.slice (some ⟨RR, 0, none⟩) r cRR, .slice (some ⟨J2, 0, none⟩) r cJ2], Uw, .agg #[.int .u64 p1.x0, .int .u64 p1.x1, .int .u64 p1.x2, .int .u64 p1.x3, .int .u64 p2.x0, .int .u64 p2.x1, .int .u64 p2.x2, .int .u64 p2.x3, .slice (some ⟨B1, 0, none⟩) n n, .slice (some ⟨B2, 0, none⟩) n n], t.v, .slice (some ⟨tb, 0, none⟩) 1 1, Da, Db, Dc, Dd, De, Df, Dg, Dh, Di, Dj, Dk, Dl, Dm, Dn, Do, Dp, Dq, Dr, Ds, Dt, Du, Dv, Dw, Dx, Dy, Dz, Ja, Jb, Jc, Jd, Je, Jf, Jg, Jh, Ji, Jj, Jk, Jl, Jm, Jn, Jo, Jp, Jq, Jr, Js, Jt, Ju, Jv, Jw, Jx, Jy, Jz, Ia, Ib, Ic, Id, Ie, If, Ig, Ih, Ii, Ij, Ik, Il, Im, In, Io, Ip, Iq, Ir, Is, It, Iu, Iv, Iw, Ix, Iy, Iz, Ga, Gb, Gc, Gd, Ge, Gf, Gg, Gh, Gi, Gj, Gk, Gl, Gm, Gn, Go, Gp, Gq, Gr, Gs, Gt, Gu, Gv, Gw, Gx, Gy, Gz, Ba, Bb, Bc, Bd, Be, Bf, Bg, Bh, Bi], []⟩ w := by
 unfold E4.v
 refine wpAnyH_ready (rs := [21]) (by kernel_rfl) (by simp) ?_
 refine AllReadyH.cons (o := lw13o_21) rfl (fun K hK => ?_) AllReadyH.nil
 unfold lw13o_21
 have HH := hidden hH0
 clear hH0
 go_simp
 refine (C1.out _ HH.out).mono ?_
 rintro e wn1 ⟨R1, I1, cR1, cI1, g1, cn1, rfl, hC, hb⟩
 replace RT := hidden (range_bl RT.out hb)
 have K1 := hidden (hC)
 have SN := hidden (bl_trans HH.out hb)
 clear HH hb hC
 go_wp2_with fail
 refine hK.out _ _ SN.out (fun hH1 => ?_)
 clear hK K SN
 exact lw13_s9 hr1 hn1 ca0 ca1 cb0 cb1 ct0 ct1 ct2 ct3 cc0 cc1 cc2 cc3 ce0 ce1 ce2 ce3 ce4 ce5 ce6 ce7 ce8 ce9 C7 C9 C16 C1 C3 CG CV HQ _ hH1 K1 RT
def lw13_s3 (w : World) (hH0 : Below W.heap.size W w)  : wpAnyH Tryz.prog .any lw13o (NoPanic Q) (fun x => Below W.heap.size W x) 8 #[true, true, true, true, true, true, true, true, true, true, true, true, true, true, true, true, true, true, true, true, true, false, true, false, true, true, false, false, false, false, false, false] ⟨#[Xa, Xb, Xc, Xd, Xe, Xf, Xg, Xh, Xi, Xj, Xk, Xl, Xm, Xn, .pointer (some ⟨T14, 0, none⟩), .pointer (some ⟨T15, 0, none⟩), Xq, Xr, Xs, Xt, Xu, Xv, .pointer (some ⟨T22, 0, none⟩), .pointer (some ⟨T23, 0, none⟩), .pointer (some ⟨T24, 0, none⟩), .int .i64 0, Ya, Yb, Yc, Yd, Ye, Yf, Yg, Yh, Yi, Yj, Yk, Yl, Ym, Yn, Yo, Yp, Yq, Yr, Ys, Yt, Yu, Yv, Yw, Yx, Yy, Yz, Za, Zb, Zc, Zd, Ze, Zf, Zg, Zh, Zi, Zj, Zk, Zl, Zm, Zn, Zo, Zp, Zq, Zr, Zs, Zt, Zu, Zv, Zw, Zx, Zy, .int .i64 0, .bool false, .bool false, .pointer (some ⟨T24, 0, none⟩), p1.v, .pointer (some ⟨T24, 4, none⟩), p2.v, sm.v, t.v, .bool true, .bool false, .bool false, .bool false, .pointer (some ⟨T24, 4, none⟩), p2.v, c.v, .bool true, .bool false, .bool false, .bool false, .agg #[.slice (some ⟨RR, 0, none⟩) r cRR, .slice (some ⟨J1, 0, none⟩) r cJ1], Uu, .agg #[.slice (some ⟨RR, 0, none⟩) r cRR, .slice (some ⟨J2, 0, none⟩) r cJ2], Uw, .agg #[.int .u64 p1.x0, .int .u64 p1.x1, .int .u64 p1.x2, .int .u64 p1.x3, .int .u64 p2.x0, .int .u64 p2.x1, .int .u64 p2.x2, .int .u64 p2.x3, .slice (some ⟨B1, 0, none⟩) n n, .slice (some ⟨B2, 0, none⟩) n n], t.v, Uz, Da, Db, Dc, Dd, De, Df, Dg, Dh, Di, Dj, Dk, Dl, Dm, Dn, Do, Dp, Dq, Dr, Ds, Dt, Du, Dv, Dw, Dx, Dy, Dz, Ja, Jb, Jc, Jd, Je, Jf, Jg, Jh, Ji, Jj, Jk, Jl, Jm, Jn, Jo, Jp, Jq, Jr, Js, Jt, Ju, Jv, Jw, Jx, Jy, Jz, Ia, Ib, Ic, Id, Ie, If, Ig, Ih, Ii, Ij, Ik, Il, Im, In, Io, Ip, Iq, Ir, Is, It, Iu, Iv, Iw, Ix, Iy, Iz, Ga, Gb, Gc, Gd, Ge, Gf, Gg, Gh, Gi, Gj, Gk, Gl, Gm, Gn, Go, Gp, Gq, Gr, Gs, Gt, Gu, Gv, Gw, Gx, Gy, Gz, Ba, Bb, Bc, Bd, Be, Bf, Bg, Bh, Bi], []⟩ w := by
 unfold E4.v
 refine wpAnyH_ready (rs := [21, 26]) (by kernel_rfl) (by simp) ?_
 refine AllReadyH.cons (o := lw13o_21) rfl (fun K hK => ?_) (AllReadyH.cons (o := lw13o_26) rfl (fun K hK => ?_) AllReadyH.nil)
 ·unfold lw13o_21
  have HH := hidden hH0
  clear hH0
  go_simp
  refine (C1.out _ HH.out).mono ?_
  rintro e wn1 ⟨R1, I1, cR1, cI1, g1, cn1, rfl, hC, hb⟩
  have K1 := hidden (hC)
  have SN := hidden (bl_trans HH.out hb)
  clear HH hb hC
  go_wp2_with fail
  refine hK.out _ _ SN.out (fun hH1 => ?_)
  clear hK K SN
  exact lw13_s4 hr1 hn1 ca0 ca1 cb0 cb1 ct0 ct1 ct2 ct3 cc0 cc1 cc2 cc3 ce0 ce1 ce2 ce3 ce4 ce5 ce6 ce7 ce8 ce9 C7 C9 C16 C1 C3 CG CV HQ _ hH1 K1
 ·unfold lw13o_26
  have HH := hidden hH0
  clear hH0
  refine Eq.mpr (if_pos (by exact rfl)) ?_
  refine Li.wp_buildS1 (.tmp 102) rfl t rfl (fun tb wn1 hb hrt => ?_)
  have RT := hidden (hrt)
  have SN := hidden (bl_trans HH.out hb)
  clear HH hb hrt
  simp only [Act.put, sA, sB, sC]
  refine hK.out _ _ SN.out (fun hH1 => ?_)
  clear hK K SN
  exact lw13_s10 hr1 hn1 ca0 ca1 cb0 cb1 ct0 ct1 ct2 ct3 cc0 cc1 cc2 cc3 ce0 ce1 ce2 ce3 ce4 ce5 ce6 ce7 ce8 ce9 C7 C9 C16 C1 C3 CG CV HQ _ hH1 RT
def lw13_s2 (w : World) (hH0 : Below W.heap.size W w)  : wpAnyH Tryz.prog .any lw13o (NoPanic Q) (fun x => Below W.heap.size W x) 16 #[true, true, true, true, true, true, true, true, true, true, true, true, true, true, true, true, false, false, false, false, false, false, false, false, false, false, false, false, false, false, false, false] ⟨#[Xa, Xb, Xc, Xd, Xe, Xf, Xg, Xh, Xi, Xj, Xk, Xl, Xm, Xn, .pointer (some ⟨T14, 0, none⟩), .pointer (some ⟨T15, 0, none⟩), Xq, Xr, Xs, Xt, Xu, Xv, .pointer (some ⟨T22, 0, none⟩), .pointer (some ⟨T23, 0, none⟩), .pointer (some ⟨T24, 0, none⟩), .int .i64 0, Ya, Yb, Yc, Yd, Ye, Yf, Yg, Yh, Yi, Yj, Yk, Yl, Ym, Yn, Yo, Yp, Yq, Yr, Ys, Yt, Yu, Yv, Yw, Yx, Yy, Yz, Za, Zb, Zc, Zd, Ze, Zf, Zg, Zh, Zi, Zj, Zk, Zl, Zm, Zn, Zo, Zp, Zq, Zr, Zs, Zt, Zu, Zv, Zw, Zx, Zy, .int .i64 0, .bool false, .bool false, .pointer (some ⟨T24, 0, none⟩), p1.v, .pointer (some ⟨T24, 4, none⟩), p2.v, sm.v, t.v, .bool true, .bool false, .bool false, .bool false, .pointer (some ⟨T24, 4, none⟩), p2.v, c.v, Up, Uq, Ur, Us, Ut, Uu, Uv, Uw, Ux, Uy, Uz, Da, Db, Dc, Dd, De, Df, Dg, Dh, Di, Dj, Dk, Dl, Dm, Dn, Do, Dp, Dq, Dr, Ds, Dt, Du, Dv, Dw, Dx, Dy, Dz, Ja, Jb, Jc, Jd, Je, Jf, Jg, Jh, Ji, Jj, Jk, Jl, Jm, Jn, Jo, Jp, Jq, Jr, Js, Jt, Ju, Jv, Jw, Jx, Jy, Jz, Ia, Ib, Ic, Id, Ie, If, Ig, Ih, Ii, Ij, Ik, Il, Im, In, Io, Ip, Iq, Ir, Is, It, Iu, Iv, Iw, Ix, Iy, Iz, Ga, Gb, Gc, Gd, Ge, Gf, Gg, Gh, Gi, Gj, Gk, Gl, Gm, Gn, Go, Gp, Gq, Gr, Gs, Gt, Gu, Gv, Gw, Gx, Gy, Gz, Ba, Bb, Bc, Bd, Be, Bf, Bg, Bh, Bi], []⟩ w := by
 unfold E4.v
 refine wpAnyH_ready (rs := [16]) (by kernel_rfl) (by simp) ?_
 refine AllReadyH.cons (o := lw13o_16) rfl (fun K hK => ?_) AllReadyH.nil
 unfold lw13o_16
 have HH := hidden hH0
 clear hH0
 go_simp
 refine (C16.out _ HH.out).mono ?_
 rintro e wn1 ⟨rfl, hb⟩
 have SN := hidden (bl_trans HH.out hb)
 clear HH hb
 go_wp2_with fail
 refine hK.out _ _ SN.out (fun hH1 => ?_)
 clear hK K SN
 refine tk 17 lw13o_17 (.bool false) rfl (by kernel_rfl) hH1 rfl (fun w0 hSw => ?_) ?_
 ·(unfold lw13o_17; clear hSw; go_simp)
 simp only [lw13o_17, Act.put, sA, sB, sC]
 refine tk 18 lw13o_18 (.bool false) rfl (by kernel_rfl) hH1 rfl (fun w0 hSw => ?_) ?_
 ·(unfold lw13o_18; clear hSw; go_simp)
 simp only [lw13o_18, Act.put, sA, sB, sC]
 refine tk 19 lw13o_19 (.bool false) rfl (by kernel_rfl) hH1 rfl (fun w0 hSw => ?_) ?_
 ·(unfold lw13o_19; clear hSw; go_simp)
 simp only [lw13o_19, Act.put, sA, sB, sC]
 refine tk 20 lw13o_20 (.agg #[.slice (some ⟨RR, 0, none⟩) r cRR, .slice (some ⟨J1, 0, none⟩) r cJ1]) rfl (by kernel_rfl) hH1 rfl (fun w0 hSw => ?_) ?_
 ·(unfold lw13o_20; have hS : Below W.heap.size W w0 := hSw; have a0 := (cell_keep ca0 hS); have a1 := (cell_keep ca1 hS); clear hS hSw; go_simp)
 simp only [lw13o_20, Act.put, sA, sB, sC]
 refine tk 22 lw13o_22 (.agg #[.slice (some ⟨RR, 0, none⟩) r cRR, .slice (some ⟨J2, 0, none⟩) r cJ2]) rfl (by kernel_rfl) hH1 rfl (fun w0 hSw => ?_) ?_
 ·(unfold lw13o_22; have hS : Below W.heap.size W w0 := hSw; have a0 := (cell_keep cb0 hS); have a1 := (cell_keep cb1 hS); clear hS hSw; go_simp)
 simp only [lw13o_22, Act.put, sA, sB, sC]
 refine tk 24 lw13o_24 (.agg #[.int .u64 p1.x0, .int .u64 p1.x1, .int .u64 p1.x2, .int .u64 p1.x3, .int .u64 p2.x0, .int .u64 p2.x1, .int .u64 p2.x2, .int .u64 p2.x3, .slice (some ⟨B1, 0, none⟩) n n, .slice (some ⟨B2, 0, none⟩) n n]) rfl (by kernel_rfl) hH1 rfl (fun w0 hSw => ?_) ?_
 ·(unfold lw13o_24; have hS : Below W.heap.size W w0 := hSw; have a0 := (cell_keep ce0 hS); have a1 := (cell_keep ce1 hS); have a2 := (cell_keep ce2 hS); have a3 := (cell_keep ce3 hS); have a4 := (cell_keep ce4 hS); have a5 := (cell_keep ce5 hS); have a6 := (cell_keep ce6 hS); have a7 := (cell_keep ce7 hS); have a8 := (cell_keep ce8 hS); have a9 := (cell_keep ce9 hS); clear hS hSw; go_simp)
 simp only [lw13o_24, Act.put, sA, sB, sC]
 refine tk 25 lw13o_25 (.agg #[.int .u64 t.x0, .int .u64 t.x1, .int .u64 t.x2, .int .u64 t.x3]) rfl (by kernel_rfl) hH1 rfl (fun w0 hSw => ?_) ?_
 ·(unfold lw13o_25; have hS : Below W.heap.size W w0 := hSw; have a0 := (cell_keep ct0 hS); have a1 := (cell_keep ct1 hS); have a2 := (cell_keep ct2 hS); have a3 := (cell_keep ct3 hS); clear hS hSw; go_simp)
 simp only [lw13o_25, Act.put, sA, sB, sC]
 exact lw13_s3 hr1 hn1 ca0 ca1 cb0 cb1 ct0 ct1 ct2 ct3 cc0 cc1 cc2 cc3 ce0 ce1 ce2 ce3 ce4 ce5 ce6 ce7 ce8 ce9 C7 C9 C16 C1 C3 CG CV HQ _ hH1
def lw13_s1 (w : World) (hH0 : Below W.heap.size W w)  : wpAnyH Tryz.prog .any lw13o (NoPanic Q) (fun x => Below W.heap.size W x) 23 #[true, true, true, true, true, true, true, true, true, false, false, false, false, false, false, false, false, false, false, false, false, false, false, false, false, false, false, false, false, false, false, false] ⟨#[Xa, Xb, Xc, Xd, Xe, Xf, Xg, Xh, Xi, Xj, Xk, Xl, Xm, Xn, .pointer (some ⟨T14, 0, none⟩), .pointer (some ⟨T15, 0, none⟩), Xq, Xr, Xs, Xt, Xu, Xv, .pointer (some ⟨T22, 0, none⟩), .pointer (some ⟨T23, 0, none⟩), .pointer (some ⟨T24, 0, none⟩), .int .i64 0, Ya, Yb, Yc, Yd, Ye, Yf, Yg, Yh, Yi, Yj, Yk, Yl, Ym, Yn, Yo, Yp, Yq, Yr, Ys, Yt, Yu, Yv, Yw, Yx, Yy, Yz, Za, Zb, Zc, Zd, Ze, Zf, Zg, Zh, Zi, Zj, Zk, Zl, Zm, Zn, Zo, Zp, Zq, Zr, Zs, Zt, Zu, Zv, Zw, Zx, Zy, .int .i64 0, .bool false, .bool false, .pointer (some ⟨T24, 0, none⟩), p1.v, .pointer (some ⟨T24, 4, none⟩), p2.v, sm.v, t.v, Ui, Uj, Uk, Ul, Um, Un, Uo, Up, Uq, Ur, Us, Ut, Uu, Uv, Uw, Ux, Uy, Uz, Da, Db, Dc, Dd, De, Df, Dg, Dh, Di, Dj, Dk, Dl, Dm, Dn, Do, Dp, Dq, Dr, Ds, Dt, Du, Dv, Dw, Dx, Dy, Dz, Ja, Jb, Jc, Jd, Je, Jf, Jg, Jh, Ji, Jj, Jk, Jl, Jm, Jn, Jo, Jp, Jq, Jr, Js, Jt, Ju, Jv, Jw, Jx, Jy, Jz, Ia, Ib, Ic, Id, Ie, If, Ig, Ih, Ii, Ij, Ik, Il, Im, In, Io, Ip, Iq, Ir, Is, It, Iu, Iv, Iw, Ix, Iy, Iz, Ga, Gb, Gc, Gd, Ge, Gf, Gg, Gh, Gi, Gj, Gk, Gl, Gm, Gn, Go, Gp, Gq, Gr, Gs, Gt, Gu, Gv, Gw, Gx, Gy, Gz, Ba, Bb, Bc, Bd, Be, Bf, Bg, Bh, Bi], []⟩ w := by
 unfold E4.v
 refine wpAnyH_ready (rs := [9]) (by kernel_rfl) (by simp) ?_
 refine AllReadyH.cons (o := lw13o_9) rfl (fun K hK => ?_) AllReadyH.nil
 unfold lw13o_9
 have HH := hidden hH0
 clear hH0
 go_simp
 refine (C9.out _ HH.out).mono ?_
 rintro e wn1 ⟨rfl, hb⟩
 have SN := hidden (bl_trans HH.out hb)
 clear HH hb
 go_wp2_with fail
 refine hK.out _ _ SN.out (fun hH1 => ?_)
 clear hK K SN
 refine tk 10 lw13o_10 (.bool false) rfl (by kernel_rfl) hH1 rfl (fun w0 hSw => ?_) ?_
 ·(unfold lw13o_10; clear hSw; go_simp)
 simp only [lw13o_10, Act.put, sA, sB, sC]
 refine tk 11 lw13o_11 (.bool false) rfl (by kernel_rfl) hH1 rfl (fun w0 hSw => ?_) ?_
 ·(unfold lw13o_11; clear hSw; go_simp)
 simp only [lw13o_11, Act.put, sA, sB, sC]
 refine tk 12 lw13o_12 (.bool false) rfl (by kernel_rfl) hH1 rfl (fun w0 hSw => ?_) ?_
 ·(unfold lw13o_12; clear hSw; go_simp)
 simp only [lw13o_12, Act.put, sA, sB, sC]
 refine tk 13 lw13o_13 (.pointer (some ⟨T24, 4, none⟩)) rfl (by kernel_rfl) hH1 rfl (fun w0 hSw => ?_) ?_
 ·(unfold lw13o_13; clear hSw; go_simp)
 simp only [lw13o_13, Act.put, sA, sB, sC]
 refine tk 15 lw13o_15 (.agg #[.int .u64 c.x0, .int .u64 c.x1, .int .u64 c.x2, .int .u64 c.x3]) rfl (by kernel_rfl) hH1 rfl (fun w0 hSw => ?_) ?_
 ·(unfold lw13o_15; have hS : Below W.heap.size W w0 := hSw; have a0 := (cell_keep cc0 hS); have a1 := (cell_keep cc1 hS); have a2 := (cell_keep cc2 hS); have a3 := (cell_keep cc3 hS); clear hS hSw; go_simp)
 simp only [lw13o_15, Act.put, sA, sB, sC]
 refine tk 14 lw13o_14 (.agg #[.int .u64 p2.x0, .int .u64 p2.x1, .int .u64 p2.x2, .int .u64 p2.x3]) rfl (by kernel_rfl) hH1 rfl (fun w0 hSw => ?_) ?_
 ·(unfold lw13o_14; have hS : Below W.heap.size W w0 := hSw; have a0 := (cell_keep ce4 hS); have a1 := (cell_keep ce5 hS); have a2 := (cell_keep ce6 hS); have a3 := (cell_keep ce7 hS); clear hS hSw; go_simp)
 simp only [lw13o_14, Act.put, sA, sB, sC]
 exact lw13_s2 hr1 hn1 ca0 ca1 cb0 cb1 ct0 ct1 ct2 ct3 cc0 cc1 cc2 cc3 ce0 ce1 ce2 ce3 ce4 ce5 ce6 ce7 ce8 ce9 C7 C9 C16 C1 C3 CG CV HQ _ hH1
def lw13_s0 (w : World) (hH0 : Below W.heap.size W w)  : wpAnyH Tryz.prog .any lw13o (NoPanic Q) (fun x => Below W.heap.size W x) 24 #[true, true, true, true, true, true, true, false, true, false, false, false, false, false, false, false, false, false, false, false, false, false, false, false, false, false, false, false, false, false, false, false] ⟨#[Xa, Xb, Xc, Xd, Xe, Xf, Xg, Xh, Xi, Xj, Xk, Xl, Xm, Xn, .pointer (some ⟨T14, 0, none⟩), .pointer (some ⟨T15, 0, none⟩), Xq, Xr, Xs, Xt, Xu, Xv, .pointer (some ⟨T22, 0, none⟩), .pointer (some ⟨T23, 0, none⟩), .pointer (some ⟨T24, 0, none⟩), .int .i64 0, Ya, Yb, Yc, Yd, Ye, Yf, Yg, Yh, Yi, Yj, Yk, Yl, Ym, Yn, Yo, Yp, Yq, Yr, Ys, Yt, Yu, Yv, Yw, Yx, Yy, Yz, Za, Zb, Zc, Zd, Ze, Zf, Zg, Zh, Zi, Zj, Zk, Zl, Zm, Zn, Zo, Zp, Zq, Zr, Zs, Zt, Zu, Zv, Zw, Zx, Zy, .int .i64 0, .bool false, .bool false, .pointer (some ⟨T24, 0, none⟩), p1.v, .pointer (some ⟨T24, 4, none⟩), p2.v, Ug, t.v, Ui, Uj, Uk, Ul, Um, Un, Uo, Up, Uq, Ur, Us, Ut, Uu, Uv, Uw, Ux, Uy, Uz, Da, Db, Dc, Dd, De, Df, Dg, Dh, Di, Dj, Dk, Dl, Dm, Dn, Do, Dp, Dq, Dr, Ds, Dt, Du, Dv, Dw, Dx, Dy, Dz, Ja, Jb, Jc, Jd, Je, Jf, Jg, Jh, Ji, Jj, Jk, Jl, Jm, Jn, Jo, Jp, Jq, Jr, Js, Jt, Ju, Jv, Jw, Jx, Jy, Jz, Ia, Ib, Ic, Id, Ie, If, Ig, Ih, Ii, Ij, Ik, Il, Im, In, Io, Ip, Iq, Ir, Is, It, Iu, Iv, Iw, Ix, Iy, Iz, Ga, Gb, Gc, Gd, Ge, Gf, Gg, Gh, Gi, Gj, Gk, Gl, Gm, Gn, Go, Gp, Gq, Gr, Gs, Gt, Gu, Gv, Gw, Gx, Gy, Gz, Ba, Bb, Bc, Bd, Be, Bf, Bg, Bh, Bi], []⟩ w := by
 unfold E4.v
 refine wpAnyH_ready (rs := [7]) (by kernel_rfl) (by simp) ?_
 refine AllReadyH.cons (o := lw13o_7) rfl (fun K hK => ?_) AllReadyH.nil
 unfold lw13o_7
 have HH := hidden hH0
 clear hH0
 go_simp
 refine (C7.out _ HH.out).mono ?_
 rintro e wn1 ⟨rfl, hb⟩
 have SN := hidden (bl_trans HH.out hb)
 clear HH hb
 go_wp2_with fail
 refine hK.out _ _ SN.out (fun hH1 => ?_)
 clear hK K SN
 exact lw13_s1 hr1 hn1 ca0 ca1 cb0 cb1 ct0 ct1 ct2 ct3 cc0 cc1 cc2 cc3 ce0 ce1 ce2 ce3 ce4 ce5 ce6 ce7 ce8 ce9 C7 C9 C16 C1 C3 CG CV HQ _ hH1
def lw13 : (Code.region 13 lw13o true).wp Tryz.prog Q ⟨#[Xa, Xb, Xc, Xd, Xe, Xf, Xg, Xh, Xi, Xj, Xk, Xl, Xm, Xn, .pointer (some ⟨T14, 0, none⟩), .pointer (some ⟨T15, 0, none⟩), Xq, Xr, Xs, Xt, Xu, Xv, .pointer (some ⟨T22, 0, none⟩), .pointer (some ⟨T23, 0, none⟩), .pointer (some ⟨T24, 0, none⟩), .int .i64 0, Ya, Yb, Yc, Yd, Ye, Yf, Yg, Yh, Yi, Yj, Yk, Yl, Ym, Yn, Yo, Yp, Yq, Yr, Ys, Yt, Yu, Yv, Yw, Yx, Yy, Yz, Za, Zb, Zc, Zd, Ze, Zf, Zg, Zh, Zi, Zj, Zk, Zl, Zm, Zn, Zo, Zp, Zq, Zr, Zs, Zt, Zu, Zv, Zw, Zx, Zy, Zz, Ua, Ub, Uc, Ud, Ue, Uf, Ug, Uh, Ui, Uj, Uk, Ul, Um, Un, Uo, Up, Uq, Ur, Us, Ut, Uu, Uv, Uw, Ux, Uy, Uz, Da, Db, Dc, Dd, De, Df, Dg, Dh, Di, Dj, Dk, Dl, Dm, Dn, Do, Dp, Dq, Dr, Ds, Dt, Du, Dv, Dw, Dx, Dy, Dz, Ja, Jb, Jc, Jd, Je, Jf, Jg, Jh, Ji, Jj, Jk, Jl, Jm, Jn, Jo, Jp, Jq, Jr, Js, Jt, Ju, Jv, Jw, Jx, Jy, Jz, Ia, Ib, Ic, Id, Ie, If, Ig, Ih, Ii, Ij, Ik, Il, Im, In, Io, Ip, Iq, Ir, Is, It, Iu, Iv, Iw, Ix, Iy, Iz, Ga, Gb, Gc, Gd, Ge, Gf, Gg, Gh, Gi, Gj, Gk, Gl, Gm, Gn, Go, Gp, Gq, Gr, Gs, Gt, Gu, Gv, Gw, Gx, Gy, Gz, Ba, Bb, Bc, Bd, Be, Bf, Bg, Bh, Bi], []⟩ W := by
 refine wp_region_noPanic ?_
 refine wp_region_held_drew (S := fun x => Below W.heap.size W x) (by kernel_rfl) (bl_drew W) (fun hH0 => ?_)
 show wpAnyH Tryz.prog .any lw13o (NoPanic Q) (fun x => Below W.heap.size W x) 32 #[false, false, false, false, false, false, false, false, false, false, false, false, false, false, false, false, false, false, false, false, false, false, false, false, false, false, false, false, false, false, false, false] ⟨#[Xa, Xb, Xc, Xd, Xe, Xf, Xg, Xh, Xi, Xj, Xk, Xl, Xm, Xn, .pointer (some ⟨T14, 0, none⟩), .pointer (some ⟨T15, 0, none⟩), Xq, Xr, Xs, Xt, Xu, Xv, .pointer (some ⟨T22, 0, none⟩), .pointer (some ⟨T23, 0, none⟩), .pointer (some ⟨T24, 0, none⟩), .int .i64 0, Ya, Yb, Yc, Yd, Ye, Yf, Yg, Yh, Yi, Yj, Yk, Yl, Ym, Yn, Yo, Yp, Yq, Yr, Ys, Yt, Yu, Yv, Yw, Yx, Yy, Yz, Za, Zb, Zc, Zd, Ze, Zf, Zg, Zh, Zi, Zj, Zk, Zl, Zm, Zn, Zo, Zp, Zq, Zr, Zs, Zt, Zu, Zv, Zw, Zx, Zy, Zz, Ua, Ub, Uc, Ud, Ue, Uf, Ug, Uh, Ui, Uj, Uk, Ul, Um, Un, Uo, Up, Uq, Ur, Us, Ut, Uu, Uv, Uw, Ux, Uy, Uz, Da, Db, Dc, Dd, De, Df, Dg, Dh, Di, Dj, Dk, Dl, Dm, Dn, Do, Dp, Dq, Dr, Ds, Dt, Du, Dv, Dw, Dx, Dy, Dz, Ja, Jb, Jc, Jd, Je, Jf, Jg, Jh, Ji, Jj, Jk, Jl, Jm, Jn, Jo, Jp, Jq, Jr, Js, Jt, Ju, Jv, Jw, Jx, Jy, Jz, Ia, Ib, Ic, Id, Ie, If, Ig, Ih, Ii, Ij, Ik, Il, Im, In, Io, Ip, Iq, Ir, Is, It, Iu, Iv, Iw, Ix, Iy, Iz, Ga, Gb, Gc, Gd, Ge, Gf, Gg, Gh, Gi, Gj, Gk, Gl, Gm, Gn, Go, Gp, Gq, Gr, Gs, Gt, Gu, Gv, Gw, Gx, Gy, Gz, Ba, Bb, Bc, Bd, Be, Bf, Bg, Bh, Bi], []⟩ W.drew
 refine tk 0 lw13o_0 (.int .i64 0) rfl (by kernel_rfl) hH0 rfl (fun w0 hSw => ?_) ?_
 ·(unfold lw13o_0; clear hSw; go_simp)
 simp only [lw13o_0, Act.put, sA, sB, sC]
 refine tk 1 lw13o_1 (.bool false) rfl (by kernel_rfl) hH0 rfl (fun w0 hSw => ?_) ?_
 ·(unfold lw13o_1; clear hSw; go_simp)
 simp only [lw13o_1, Act.put, sA, sB, sC]
 refine tk 2 lw13o_2 (.bool false) rfl (by kernel_rfl) hH0 rfl (fun w0 hSw => ?_) ?_
 ·(unfold lw13o_2; clear hSw; go_simp)
 simp only [lw13o_2, Act.put, sA, sB, sC]
 refine tk 3 lw13o_3 (.pointer (some ⟨T24, 0, none⟩)) rfl (by kernel_rfl) hH0 rfl (fun w0 hSw => ?_) ?_
 ·(unfold lw13o_3; clear hSw; go_simp)
 simp only [lw13o_3, Act.put, sA, sB, sC]
 refine tk 5 lw13o_5 (.pointer (some ⟨T24, 4, none⟩)) rfl (by kernel_rfl) hH0 rfl (fun w0 hSw => ?_) ?_
 ·(unfold lw13o_5; clear hSw; go_simp)
 simp only [lw13o_5, Act.put, sA, sB, sC]
 refine tk 8 lw13o_8 (.agg #[.int .u64 t.x0, .int .u64 t.x1, .int .u64 t.x2, .int .u64 t.x3]) rfl (by kernel_rfl) hH0 rfl (fun w0 hSw => ?_) ?_
 ·(unfold lw13o_8; have hS : Below W.heap.size W w0 := hSw; have a0 := (cell_keep ct0 hS); have a1 := (cell_keep ct1 hS); have a2 := (cell_keep ct2 hS); have a3 := (cell_keep ct3 hS); clear hS hSw; go_simp)
 simp only [lw13o_8, Act.put, sA, sB, sC]
 refine tk 4 lw13o_4 (.agg #[.int .u64 p1.x0, .int .u64 p1.x1, .int .u64 p1.x2, .int .u64 p1.x3]) rfl (by kernel_rfl) hH0 rfl (fun w0 hSw => ?_) ?_
 ·(unfold lw13o_4; have hS : Below W.heap.size W w0 := hSw; have a0 := (cell_keep ce0 hS); have a1 := (cell_keep ce1 hS); have a2 := (cell_keep ce2 hS); have a3 := (cell_keep ce3 hS); clear hS hSw; go_simp)
 simp only [lw13o_4, Act.put, sA, sB, sC]
 refine tk 6 lw13o_6 (.agg #[.int .u64 p2.x0, .int .u64 p2.x1, .int .u64 p2.x2, .int .u64 p2.x3]) rfl (by kernel_rfl) hH0 rfl (fun w0 hSw => ?_) ?_
 ·(unfold lw13o_6; have hS : Below W.heap.size W w0 := hSw; have a0 := (cell_keep ce4 hS); have a1 := (cell_keep ce5 hS); have a2 := (cell_keep ce6 hS); have a3 := (cell_keep ce7 hS); clear hS hSw; go_simp)
 simp only [lw13o_6, Act.put, sA, sB, sC]
 exact lw13_s0 hr1 hn1 ca0 ca1 cb0 cb1 ct0 ct1 ct2 ct3 cc0 cc1 cc2 cc3 ce0 ce1 ce2 ce3 ce4 ce5 ce6 ce7 ce8 ce9 C7 C9 C16 C1 C3 CG CV HQ _ hH0
end
def lw19o_0 : Oper := { dst := some 115, op := Op.move (Operand.tmp 26), type := 23, pos := "outright.go:226", after := #[], guard := none }
def lw19o_1 : Oper := { dst := some 116, op := Op.move (Operand.tmp 21), type := 23, pos := "outright.go:226", after := #[], guard := none }
def lw19o_2 : Oper := { dst := some 117, op := Op.move (Operand.tmp 27), type := 3, pos := "outright.go:226", after := #[], guard := none }
def lw19o_3 : Oper := { dst := some 118, op := Op.indexAddr 23 (Operand.tmp 116) (Operand.tmp 117), type := 0, pos := "outright.go:226", after := #[{ on := 1, ground := Ground.data }, { on := 2, ground := Ground.data }], guard := none }
def lw19o_4 : Oper := { dst := some 119, op := Op.load 26 (Operand.tmp 118), type := 26, pos := "outright.go:226", after := #[{ on := 3, ground := Ground.data }], guard := none }
def lw19o_5 : Oper := { dst := some 120, op := Op.fieldAddr 34 (Operand.tmp 24) 1, type := 0, pos := "outright.go:226", after := #[], guard := none }
def lw19o_6 : Oper := { dst := some 121, op := Op.load 26 (Operand.tmp 120), type := 26, pos := "outright.go:226", after := #[{ on := 5, ground := Ground.data }], guard := none }
def lw19o_7 : Oper := { dst := some 122, op := Op.move (Operand.tmp 19), type := 23, pos := "outright.go:226", after := #[], guard := none }
def lw19o_8 : Oper := { dst := some 123, op := Op.move (Operand.tmp 27), type := 3, pos := "outright.go:226", after := #[], guard := none }
def lw19o_9 : Oper := { dst := some 124, op := Op.indexAddr 23 (Operand.tmp 122) (Operand.tmp 123), type := 0, pos := "outright.go:226", after := #[{ on := 7, ground := Ground.data }, { on := 8, ground := Ground.data }], guard := none }
def lw19o_10 : Oper := { dst := some 125, op := Op.load 26 (Operand.tmp 124), type := 26, pos := "outright.go:226", after := #[{ on := 9, ground := Ground.data }], guard := none }
def lw19o_11 : Oper := { dst := some 126, op := Op.call { callee := Callee.value (Operand.func 17), args := #[Operand.tmp 121, Operand.tmp 125], argTypes := #[26, 26] }, type := 26, pos := "outright.go:226", after := #[{ on := 6, ground := Ground.data }, { on := 10, ground := Ground.data }], guard := none }
def lw19o_12 : Oper := { dst := some 127, op := Op.call { callee := Callee.value (Operand.func 16), args := #[Operand.tmp 119, Operand.tmp 126], argTypes := #[26, 26] }, type := 26, pos := "outright.go:226", after := #[{ on := 4, ground := Ground.data }, { on := 11, ground := Ground.data }, { on := 11, ground := Ground.chain }], guard := none }
def lw19o_13 : Oper := { dst := some 128, op := Op.buildSlice 23 1 #[(0, Operand.tmp 127)], type := 23, pos := "outright.go:226", after := #[{ on := 12, ground := Ground.data }], guard := none }
def lw19o_14 : Oper := { dst := some 129, op := Op.call { callee := Callee.builtin Builtin.append, args := #[Operand.tmp 115, Operand.tmp 128], argTypes := #[23, 23] }, type := 23, pos := "outright.go:226", after := #[{ on := 0, ground := Ground.data }, { on := 13, ground := Ground.data }, { on := 12, ground := Ground.chain }], guard := none }
def lw19o_15 : Oper := { dst := some 26, op := Op.assign (Operand.tmp 129), type := 23, pos := "outright.go:226", after := #[{ on := 14, ground := Ground.data }, { on := 14, ground := Ground.chain }, { on := 0, ground := Ground.phase }, { on := 1, ground := Ground.phase }, { on := 2, ground := Ground.phase }, { on := 3, ground := Ground.phase }, { on := 4, ground := Ground.phase }, { on := 5, ground := Ground.phase }, { on := 6, ground := Ground.phase }, { on := 7, ground := Ground.phase }, { on := 8, ground := Ground.phase }, { on := 9, ground := Ground.phase }, { on := 10, ground := Ground.phase }, { on := 11, ground := Ground.phase }, { on := 12, ground := Ground.phase }, { on := 13, ground := Ground.phase }, { on := 14, ground := Ground.phase }], guard := none }
def lw19o : Array Oper := #[lw19o_0, lw19o_1, lw19o_2, lw19o_3, lw19o_4, lw19o_5, lw19o_6, lw19o_7, lw19o_8, lw19o_9, lw19o_10, lw19o_11, lw19o_12, lw19o_13, lw19o_14, lw19o_15]
section
variable {Q : Exit → Act → World → Prop} {B T24 AM AY cM cY n i : Nat} {a p2 y b d : E4} {vO : Value} {xs : List Value} {Xa Xb Xc Xd Xe Xf Xg Xh Xi Xj Xk Xl Xm Xn Xo Xp Xq Xr Xs Xu Xw Xx Xz Yc Yd Ye Yf Yg Yh Yi Yj Yk Yl Ym Yn Yo Yp Yq Yr Ys Yt Yu Yv Yw Yx Yy Yz Za Zb Zc Zd Ze Zf Zg Zh Zi Zj Zk Zl Zm Zn Zo Zp Zq Zr Zs Zt Zu Zv Zw Zx Zy Zz Ua Ub Uc Ud Ue Uf Ug Uh Ui Uj Uk Ul Um Un Uo Up Uq Ur Us Ut Uu Uv Uw Ux Uy Uz Da Db Dc Dd De Df Dg Dh Di Dj Dk Dl Dm Dn Do Dp Dq Dr Ds Dt Du Dv Dw Dx Dy Dz Ja Jb Jc Jd Je Jf Jg Jh Ji Jj Jk Jl Jm Jn Jo Jp Jq Jr Js Jt Ju Jv Jw Jx Jy Jz Ia Ib Ic Id Ie If Ig Ih Ii Ij Ik Il Im In Io Ip Iq Ir Is It Iu Iv Iw Ix Iy Iz Ga Gb Gc Gd Ge Gf Gg Gh Gi Gj Gk Gl Gm Gn Go Gp Gq Gr Gs Gt Gu Gv Gw Gx Gy Gz Ba Bb Bc Bd Be Bf Bg Bh Bi : Value} {W : World}
variable (i0 : TypeInfo)
variable (HU : Hid (Tryz.prog.underlying 23 = some (.slice 26)))
variable (HI : Hid (Tryz.prog.info? 26 = some i0))
variable (HZ0 : Hid (i0.zero = some (.agg #[.int .u64 0, .int .u64 0, .int .u64 0, .int .u64 0])))
variable (HZ1 : Hid (i0.size = 4))
variable (HZ2 : Hid (i0.bytes = 32))
variable (hBW : B ≤ W.heap.size)
variable (hi64 : i ≤ 64)
variable (i0' : (0 : Int) ≤ (i : Int))
variable (i1 : (i : Int) < (n : Int))
variable (lM : AM < B)
variable (lT : T24 < B)
variable (lY : AY < B)
variable (ca0 : W.cell? ⟨AM, i * 4, none⟩ = some (.int .u64 a.x0)) (ca1 : W.cell? ⟨AM, i * 4 + 1, none⟩ = some (.int .u64 a.x1)) (ca2 : W.cell? ⟨AM, i * 4 + 2, none⟩ = some (.int .u64 a.x2)) (ca3 : W.cell? ⟨AM, i * 4 + 3, none⟩ = some (.int .u64 a.x3))
variable (cp0 : W.cell? ⟨T24, 4, none⟩ = some (.int .u64 p2.x0)) (cp1 : W.cell? ⟨T24, 5, none⟩ = some (.int .u64 p2.x1)) (cp2 : W.cell? ⟨T24, 6, none⟩ = some (.int .u64 p2.x2)) (cp3 : W.cell? ⟨T24, 7, none⟩ = some (.int .u64 p2.x3))
variable (cy0 : W.cell? ⟨AY, i * 4, none⟩ = some (.int .u64 y.x0)) (cy1 : W.cell? ⟨AY, i * 4 + 1, none⟩ = some (.int .u64 y.x1)) (cy2 : W.cell? ⟨AY, i * 4 + 2, none⟩ = some (.int .u64 y.x2)) (cy3 : W.cell? ⟨AY, i * 4 + 3, none⟩ = some (.int .u64 y.x3))
variable (C11 : Hid (∀ x, Below B W x → Calls Tryz.prog 17 #[.agg #[.int .u64 p2.x0, .int .u64 p2.x1, .int .u64 p2.x2, .int .u64 p2.x3], .agg #[.int .u64 y.x0, .int .u64 y.x1, .int .u64 y.x2, .int .u64 y.x3]] x fun e w' => e = .returned (.agg #[.int .u64 b.x0, .int .u64 b.x1, .int .u64 b.x2, .int .u64 b.x3]) ∧ Below x.heap.size x w'))
variable (C12 : Hid (∀ x, Below B W x → Calls Tryz.prog 16 #[.agg #[.int .u64 a.x0, .int .u64 a.x1, .int .u64 a.x2, .int .u64 a.x3], .agg #[.int .u64 b.x0, .int .u64 b.x1, .int .u64 b.x2, .int .u64 b.x3]] x fun e w' => e = .returned (.agg #[.int .u64 d.x0, .int .u64 d.x1, .int .u64 d.x2, .int .u64 d.x3]) ∧ Below x.heap.size x w'))
variable (ol : W.ownsRow B 26 4 vO i xs)
variable (HQ : Hid (∀ (tb : Nat) (v1 : Value) (wz : World), Below B W wz → wz.ownsRow B 26 4 v1 (i + 1) (xs ++ [.int .u64 d.x0, .int .u64 d.x1, .int .u64 d.x2, .int .u64 d.x3]) → Q .normal ⟨#[Xa, Xb, Xc, Xd, Xe, Xf, Xg, Xh, Xi, Xj, Xk, Xl, Xm, Xn, Xo, Xp, Xq, Xr, Xs, .slice (some ⟨AY, 0, none⟩) n cY, Xu, .slice (some ⟨AM, 0, none⟩) n cM, Xw, Xx, .pointer (some ⟨T24, 0, none⟩), Xz, v1, .int .i64 (i : Int), Yc, Yd, Ye, Yf, Yg, Yh, Yi, Yj, Yk, Yl, Ym, Yn, Yo, Yp, Yq, Yr, Ys, Yt, Yu, Yv, Yw, Yx, Yy, Yz, Za, Zb, Zc, Zd, Ze, Zf, Zg, Zh, Zi, Zj, Zk, Zl, Zm, Zn, Zo, Zp, Zq, Zr, Zs, Zt, Zu, Zv, Zw, Zx, Zy, Zz, Ua, Ub, Uc, Ud, Ue, Uf, Ug, Uh, Ui, Uj, Uk, Ul, Um, Un, Uo, Up, Uq, Ur, Us, Ut, Uu, Uv, Uw, Ux, Uy, Uz, Da, Db, Dc, Dd, De, Df, Dg, Dh, Di, Dj, Dk, vO, .slice (some ⟨AM, 0, none⟩) n cM, .int .i64 (i : Int), .pointer (some ⟨AM, i * 4, none⟩), .agg #[.int .u64 a.x0, .int .u64 a.x1, .int .u64 a.x2, .int .u64 a.x3], .pointer (some ⟨T24, 4, none⟩), .agg #[.int .u64 p2.x0, .int .u64 p2.x1, .int .u64 p2.x2, .int .u64 p2.x3], .slice (some ⟨AY, 0, none⟩) n cY, .int .i64 (i : Int), .pointer (some ⟨AY, i * 4, none⟩), .agg #[.int .u64 y.x0, .int .u64 y.x1, .int .u64 y.x2, .int .u64 y.x3], .agg #[.int .u64 b.x0, .int .u64 b.x1, .int .u64 b.x2, .int .u64 b.x3], .agg #[.int .u64 d.x0, .int .u64 d.x1, .int .u64 d.x2, .int .u64 d.x3], .slice (some ⟨tb, 0, none⟩) 1 1, v1, Ja, Jb, Jc, Jd, Je, Jf, Jg, Jh, Ji, Jj, Jk, Jl, Jm, Jn, Jo, Jp, Jq, Jr, Js, Jt, Ju, Jv, Jw, Jx, Jy, Jz, Ia, Ib, Ic, Id, Ie, If, Ig, Ih, Ii, Ij, Ik, Il, Im, In, Io, Ip, Iq, Ir, Is, It, Iu, Iv, Iw, Ix, Iy, Iz, Ga, Gb, Gc, Gd, Ge, Gf, Gg, Gh, Gi, Gj, Gk, Gl, Gm, Gn, Go, Gp, Gq, Gr, Gs, Gt, Gu, Gv, Gw, Gx, Gy, Gz, Ba, Bb, Bc, Bd, Be, Bf, Bg, Bh, Bi], []⟩ wz))
variable {tb : Nat}
variable {v1 : Value}
def lw19_s4 (w : World) (hH0 : Below B W w) (O1 : Hid (w.ownsRow B 26 4 v1 (i + 1) (xs ++ [.int .u64 d.x0, .int .u64 d.x1, .int .u64 d.x2, .int .u64 d.x3]))) : wpAnyH Tryz.prog .any lw19o (NoPanic Q) (fun x => Below B W x) 0 #[true, true, true, true, true, true, true, true, true, true, true, true, true, true, true, true] ⟨#[Xa, Xb, Xc, Xd, Xe, Xf, Xg, Xh, Xi, Xj, Xk, Xl, Xm, Xn, Xo, Xp, Xq, Xr, Xs, .slice (some ⟨AY, 0, none⟩) n cY, Xu, .slice (some ⟨AM, 0, none⟩) n cM, Xw, Xx, .pointer (some ⟨T24, 0, none⟩), Xz, v1, .int .i64 (i : Int), Yc, Yd, Ye, Yf, Yg, Yh, Yi, Yj, Yk, Yl, Ym, Yn, Yo, Yp, Yq, Yr, Ys, Yt, Yu, Yv, Yw, Yx, Yy, Yz, Za, Zb, Zc, Zd, Ze, Zf, Zg, Zh, Zi, Zj, Zk, Zl, Zm, Zn, Zo, Zp, Zq, Zr, Zs, Zt, Zu, Zv, Zw, Zx, Zy, Zz, Ua, Ub, Uc, Ud, Ue, Uf, Ug, Uh, Ui, Uj, Uk, Ul, Um, Un, Uo, Up, Uq, Ur, Us, Ut, Uu, Uv, Uw, Ux, Uy, Uz, Da, Db, Dc, Dd, De, Df, Dg, Dh, Di, Dj, Dk, vO, .slice (some ⟨AM, 0, none⟩) n cM, .int .i64 (i : Int), .pointer (some ⟨AM, i * 4, none⟩), a.v, .pointer (some ⟨T24, 4, none⟩), p2.v, .slice (some ⟨AY, 0, none⟩) n cY, .int .i64 (i : Int), .pointer (some ⟨AY, i * 4, none⟩), y.v, b.v, d.v, .slice (some ⟨tb, 0, none⟩) 1 1, v1, Ja, Jb, Jc, Jd, Je, Jf, Jg, Jh, Ji, Jj, Jk, Jl, Jm, Jn, Jo, Jp, Jq, Jr, Js, Jt, Ju, Jv, Jw, Jx, Jy, Jz, Ia, Ib, Ic, Id, Ie, If, Ig, Ih, Ii, Ij, Ik, Il, Im, In, Io, Ip, Iq, Ir, Is, It, Iu, Iv, Iw, Ix, Iy, Iz, Ga, Gb, Gc, Gd, Ge, Gf, Gg, Gh, Gi, Gj, Gk, Gl, Gm, Gn, Go, Gp, Gq, Gr, Gs, Gt, Gu, Gv, Gw, Gx, Gy, Gz, Ba, Bb, Bc, Bd, Be, Bf, Bg, Bh, Bi], []⟩ w := by
 have zz := And.intro HU (And.intro HI (And.intro HZ0 (And.intro HZ1 (And.intro HZ2 (And.intro hBW (And.intro hi64 (And.intro i0' (And.intro i1 (And.intro lM (And.intro lT (And.intro lY (And.intro ca0 (And.intro ca1 (And.intro ca2 (And.intro ca3 (And.intro cp0 (And.intro cp1 (And.intro cp2 (And.intro cp3 (And.intro cy0 (And.intro cy1 (And.intro cy2 (And.intro cy3 (And.intro C11 (And.intro C12 (And.intro ol (HQ)))))))))))))))))))))))))))
 clear zz
 unfold E4.v
 have HH := hidden hH0
 have FQ := hidden (HQ.out tb v1 _ HH.out O1.out)
 refine wpAnyH_done (by kernel_rfl) ?_ _
 refine NoPanic.normal ?_
 exact FQ.out
def lw19_s3 (w : World) (hH0 : Below B W w) (OL : Hid (w.ownsRow B 26 4 vO i xs)) (RT : Hid (w.rangeAt tb 0 [.int .u64 d.x0, .int .u64 d.x1, .int .u64 d.x2, .int .u64 d.x3])) : wpAnyH Tryz.prog .any lw19o (NoPanic Q) (fun x => Below B W x) 2 #[true, true, true, true, true, true, true, true, true, true, true, true, true, true, false, false] ⟨#[Xa, Xb, Xc, Xd, Xe, Xf, Xg, Xh, Xi, Xj, Xk, Xl, Xm, Xn, Xo, Xp, Xq, Xr, Xs, .slice (some ⟨AY, 0, none⟩) n cY, Xu, .slice (some ⟨AM, 0, none⟩) n cM, Xw, Xx, .pointer (some ⟨T24, 0, none⟩), Xz, vO, .int .i64 (i : Int), Yc, Yd, Ye, Yf, Yg, Yh, Yi, Yj, Yk, Yl, Ym, Yn, Yo, Yp, Yq, Yr, Ys, Yt, Yu, Yv, Yw, Yx, Yy, Yz, Za, Zb, Zc, Zd, Ze, Zf, Zg, Zh, Zi, Zj, Zk, Zl, Zm, Zn, Zo, Zp, Zq, Zr, Zs, Zt, Zu, Zv, Zw, Zx, Zy, Zz, Ua, Ub, Uc, Ud, Ue, Uf, Ug, Uh, Ui, Uj, Uk, Ul, Um, Un, Uo, Up, Uq, Ur, Us, Ut, Uu, Uv, Uw, Ux, Uy, Uz, Da, Db, Dc, Dd, De, Df, Dg, Dh, Di, Dj, Dk, vO, .slice (some ⟨AM, 0, none⟩) n cM, .int .i64 (i : Int), .pointer (some ⟨AM, i * 4, none⟩), a.v, .pointer (some ⟨T24, 4, none⟩), p2.v, .slice (some ⟨AY, 0, none⟩) n cY, .int .i64 (i : Int), .pointer (some ⟨AY, i * 4, none⟩), y.v, b.v, d.v, .slice (some ⟨tb, 0, none⟩) 1 1, Dz, Ja, Jb, Jc, Jd, Je, Jf, Jg, Jh, Ji, Jj, Jk, Jl, Jm, Jn, Jo, Jp, Jq, Jr, Js, Jt, Ju, Jv, Jw, Jx, Jy, Jz, Ia, Ib, Ic, Id, Ie, If, Ig, Ih, Ii, Ij, Ik, Il, Im, In, Io, Ip, Iq, Ir, Is, It, Iu, Iv, Iw, Ix, Iy, Iz, Ga, Gb, Gc, Gd, Ge, Gf, Gg, Gh, Gi, Gj, Gk, Gl, Gm, Gn, Go, Gp, Gq, Gr, Gs, Gt, Gu, Gv, Gw, Gx, Gy, Gz, Ba, Bb, Bc, Bd, Be, Bf, Bg, Bh, Bi], []⟩ w := by
 unfold E4.v
 refine wpAnyH_ready (rs := [14]) (by kernel_rfl) (by simp) ?_
 refine AllReadyH.cons (o := lw19o_14) rfl (fun K hK => ?_) AllReadyH.nil
 unfold lw19o_14
 have HH := hidden hH0
 clear hH0
 refine wp_append_own _ (.tmp 115) (.tmp 128) 23 rfl B 26 i0 (.agg #[.int .u64 0, .int .u64 0, .int .u64 0, .int .u64 0]) 4 32 HU.out HI.out HZ0.out HZ1.out HZ2.out rfl (by decide) vO i xs rfl OL.out ⟨tb, 0, none⟩ 1 1 [.int .u64 d.x0, .int .u64 d.x1, .int .u64 d.x2, .int .u64 d.x3] rfl rfl (fun j u hu => by rw [Addr.add_mid]; exact RT.out j u hu) (one4c d) (by unfold maxLen; omega) (by omega) (Nat.le_trans hBW HH.out.size) (fun v1 wn1 hO hG _ => ?_)
 have O1 := hidden (hO)
 have SN := hidden (below_trans HH.out (below_grown hG (Nat.le_trans hBW HH.out.size) (fun k hk => (OL.out.lt k hk).1)))
 clear HH OL RT hO hG
 simp only [Act.put, sA, sB, sC]
 refine hK.out _ _ SN.out (fun hH1 => ?_)
 clear hK K SN
 refine tk 15 lw19o_15 (v1) rfl (by kernel_rfl) hH1 rfl (fun w0 hSw => ?_) ?_
 ·(unfold lw19o_15; clear hSw; go_simp)
 simp only [lw19o_15, Act.put, sA, sB, sC]
 exact lw19_s4 i0 HU HI HZ0 HZ1 HZ2 hBW hi64 i0' i1 lM lT lY ca0 ca1 ca2 ca3 cp0 cp1 cp2 cp3 cy0 cy1 cy2 cy3 C11 C12 ol HQ _ hH1 O1
def lw19_s2 (w : World) (hH0 : Below B W w) (OL : Hid (w.ownsRow B 26 4 vO i xs)) : wpAnyH Tryz.prog .any lw19o (NoPanic Q) (fun x => Below B W x) 3 #[true, true, true, true, true, true, true, true, true, true, true, true, true, false, false, false] ⟨#[Xa, Xb, Xc, Xd, Xe, Xf, Xg, Xh, Xi, Xj, Xk, Xl, Xm, Xn, Xo, Xp, Xq, Xr, Xs, .slice (some ⟨AY, 0, none⟩) n cY, Xu, .slice (some ⟨AM, 0, none⟩) n cM, Xw, Xx, .pointer (some ⟨T24, 0, none⟩), Xz, vO, .int .i64 (i : Int), Yc, Yd, Ye, Yf, Yg, Yh, Yi, Yj, Yk, Yl, Ym, Yn, Yo, Yp, Yq, Yr, Ys, Yt, Yu, Yv, Yw, Yx, Yy, Yz, Za, Zb, Zc, Zd, Ze, Zf, Zg, Zh, Zi, Zj, Zk, Zl, Zm, Zn, Zo, Zp, Zq, Zr, Zs, Zt, Zu, Zv, Zw, Zx, Zy, Zz, Ua, Ub, Uc, Ud, Ue, Uf, Ug, Uh, Ui, Uj, Uk, Ul, Um, Un, Uo, Up, Uq, Ur, Us, Ut, Uu, Uv, Uw, Ux, Uy, Uz, Da, Db, Dc, Dd, De, Df, Dg, Dh, Di, Dj, Dk, vO, .slice (some ⟨AM, 0, none⟩) n cM, .int .i64 (i : Int), .pointer (some ⟨AM, i * 4, none⟩), a.v, .pointer (some ⟨T24, 4, none⟩), p2.v, .slice (some ⟨AY, 0, none⟩) n cY, .int .i64 (i : Int), .pointer (some ⟨AY, i * 4, none⟩), y.v, b.v, d.v, Dy, Dz, Ja, Jb, Jc, Jd, Je, Jf, Jg, Jh, Ji, Jj, Jk, Jl, Jm, Jn, Jo, Jp, Jq, Jr, Js, Jt, Ju, Jv, Jw, Jx, Jy, Jz, Ia, Ib, Ic, Id, Ie, If, Ig, Ih, Ii, Ij, Ik, Il, Im, In, Io, Ip, Iq, Ir, Is, It, Iu, Iv, Iw, Ix, Iy, Iz, Ga, Gb, Gc, Gd, Ge, Gf, Gg, Gh, Gi, Gj, Gk, Gl, Gm, Gn, Go, Gp, Gq, Gr, Gs, Gt, Gu, Gv, Gw, Gx, Gy, Gz, Ba, Bb, Bc, Bd, Be, Bf, Bg, Bh, Bi], []⟩ w := by
 unfold E4.v
 refine wpAnyH_ready (rs := [13]) (by kernel_rfl) (by simp) ?_
 refine AllReadyH.cons (o := lw19o_13) rfl (fun K hK => ?_) AllReadyH.nil
 unfold lw19o_13
 have HH := hidden hH0
 clear hH0
 refine Li.wp_buildS1 (.tmp 127) rfl d rfl (fun tb wn1 hb hrt => ?_)
 replace OL := hidden (Tr.own_stay OL.out hb)
 have RT := hidden (hrt)
 have SN := hidden (below_trans HH.out (below_less hb (Nat.le_trans hBW HH.out.size)))
 clear HH hb hrt
 simp only [Act.put, sA, sB, sC]
 refine hK.out _ _ SN.out (fun hH1 => ?_)
 clear hK K SN
 exact lw19_s3 i0 HU HI HZ0 HZ1 HZ2 hBW hi64 i0' i1 lM lT lY ca0 ca1 ca2 ca3 cp0 cp1 cp2 cp3 cy0 cy1 cy2 cy3 C11 C12 ol HQ _ hH1 OL RT
def lw19_s1 (w : World) (hH0 : Below B W w) (OL : Hid (w.ownsRow B 26 4 vO i xs)) : wpAnyH Tryz.prog .any lw19o (NoPanic Q) (fun x => Below B W x) 4 #[true, true, true, true, true, true, true, true, true, true, true, true, false, false, false, false] ⟨#[Xa, Xb, Xc, Xd, Xe, Xf, Xg, Xh, Xi, Xj, Xk, Xl, Xm, Xn, Xo, Xp, Xq, Xr, Xs, .slice (some ⟨AY, 0, none⟩) n cY, Xu, .slice (some ⟨AM, 0, none⟩) n cM, Xw, Xx, .pointer (some ⟨T24, 0, none⟩), Xz, vO, .int .i64 (i : Int), Yc, Yd, Ye, Yf, Yg, Yh, Yi, Yj, Yk, Yl, Ym, Yn, Yo, Yp, Yq, Yr, Ys, Yt, Yu, Yv, Yw, Yx, Yy, Yz, Za, Zb, Zc, Zd, Ze, Zf, Zg, Zh, Zi, Zj, Zk, Zl, Zm, Zn, Zo, Zp, Zq, Zr, Zs, Zt, Zu, Zv, Zw, Zx, Zy, Zz, Ua, Ub, Uc, Ud, Ue, Uf, Ug, Uh, Ui, Uj, Uk, Ul, Um, Un, Uo, Up, Uq, Ur, Us, Ut, Uu, Uv, Uw, Ux, Uy, Uz, Da, Db, Dc, Dd, De, Df, Dg, Dh, Di, Dj, Dk, vO, .slice (some ⟨AM, 0, none⟩) n cM, .int .i64 (i : Int), .pointer (some ⟨AM, i * 4, none⟩), a.v, .pointer (some ⟨T24, 4, none⟩), p2.v, .slice (some ⟨AY, 0, none⟩) n cY, .int .i64 (i : Int), .pointer (some ⟨AY, i * 4, none⟩), y.v, b.v, Dx, Dy, Dz, Ja, Jb, Jc, Jd, Je, Jf, Jg, Jh, Ji, Jj, Jk, Jl, Jm, Jn, Jo, Jp, Jq, Jr, Js, Jt, Ju, Jv, Jw, Jx, Jy, Jz, Ia, Ib, Ic, Id, Ie, If, Ig, Ih, Ii, Ij, Ik, Il, Im, In, Io, Ip, Iq, Ir, Is, It, Iu, Iv, Iw, Ix, Iy, Iz, Ga, Gb, Gc, Gd, Ge, Gf, Gg, Gh, Gi, Gj, Gk, Gl, Gm, Gn, Go, Gp, Gq, Gr, Gs, Gt, Gu, Gv, Gw, Gx, Gy, Gz, Ba, Bb, Bc, Bd, Be, Bf, Bg, Bh, Bi], []⟩ w := by
 unfold E4.v
 refine wpAnyH_ready (rs := [12]) (by kernel_rfl) (by simp) ?_
 refine AllReadyH.cons (o := lw19o_12) rfl (fun K hK => ?_) AllReadyH.nil
 unfold lw19o_12
 have HH := hidden hH0
 clear hH0
 go_simp
 refine (C12.out _ HH.out).mono ?_
 rintro e wn1 ⟨rfl, hb⟩
 replace OL := hidden (Tr.own_stay OL.out hb)
 have SN := hidden (below_trans HH.out (below_less hb (Nat.le_trans hBW HH.out.size)))
 clear HH hb
 go_wp2_with fail
 refine hK.out _ _ SN.out (fun hH1 => ?_)
 clear hK K SN
 exact lw19_s2 i0 HU HI HZ0 HZ1 HZ2 hBW hi64 i0' i1 lM lT lY ca0 ca1 ca2 ca3 cp0 cp1 cp2 cp3 cy0 cy1 cy2 cy3 C11 C12 ol HQ _ hH1 OL
def lw19_s0 (w : World) (hH0 : Below B W w) (OL : Hid (w.ownsRow B 26 4 vO i xs)) : wpAnyH Tryz.prog .any lw19o (NoPanic Q) (fun x => Below B W x) 5 #[true, true, true, true, true, true, true, true, true, true, true, false, false, false, false, false] ⟨#[Xa, Xb, Xc, Xd, Xe, Xf, Xg, Xh, Xi, Xj, Xk, Xl, Xm, Xn, Xo, Xp, Xq, Xr, Xs, .slice (some ⟨AY, 0, none⟩) n cY, Xu, .slice (some ⟨AM, 0, none⟩) n cM, Xw, Xx, .pointer (some ⟨T24, 0, none⟩), Xz, vO, .int .i64 (i : Int), Yc, Yd, Ye, Yf, Yg, Yh, Yi, Yj, Yk, Yl, Ym, Yn, Yo, Yp, Yq, Yr, Ys, Yt, Yu, Yv, Yw, Yx, Yy, Yz, Za, Zb, Zc, Zd, Ze, Zf, Zg, Zh, Zi, Zj, Zk, Zl, Zm, Zn, Zo, Zp, Zq, Zr, Zs, Zt, Zu, Zv, Zw, Zx, Zy, Zz, Ua, Ub, Uc, Ud, Ue, Uf, Ug, Uh, Ui, Uj, Uk, Ul, Um, Un, Uo, Up, Uq, Ur, Us, Ut, Uu, Uv, Uw, Ux, Uy, Uz, Da, Db, Dc, Dd, De, Df, Dg, Dh, Di, Dj, Dk, vO, .slice (some ⟨AM, 0, none⟩) n cM, .int .i64 (i : Int), .pointer (some ⟨AM, i * 4, none⟩), a.v, .pointer (some ⟨T24, 4, none⟩), p2.v, .slice (some ⟨AY, 0, none⟩) n cY, .int .i64 (i : Int), .pointer (some ⟨AY, i * 4, none⟩), y.v, Dw, Dx, Dy, Dz, Ja, Jb, Jc, Jd, Je, Jf, Jg, Jh, Ji, Jj, Jk, Jl, Jm, Jn, Jo, Jp, Jq, Jr, Js, Jt, Ju, Jv, Jw, Jx, Jy, Jz, Ia, Ib, Ic, Id, Ie, If, Ig, Ih, Ii, Ij, Ik, Il, Im, In, Io, Ip, Iq, Ir, Is, It, Iu, Iv, Iw, Ix, Iy, Iz, Ga, Gb, Gc, Gd, Ge, Gf, Gg, Gh, Gi, Gj, Gk, Gl, Gm, Gn, Go, Gp, Gq, Gr, Gs, Gt, Gu, Gv, Gw, Gx, Gy, Gz, Ba, Bb, Bc, Bd, Be, Bf, Bg, Bh, Bi], []⟩ w := by
 unfold E4.v
 refine wpAnyH_ready (rs := [11]) (by kernel_rfl) (by simp) ?_
 refine AllReadyH.cons (o := lw19o_11) rfl (fun K hK => ?_) AllReadyH.nil
 unfold lw19o_11
 have HH := hidden hH0
 clear hH0
 go_simp
 refine (C11.out _ HH.out).mono ?_
 rintro e wn1 ⟨rfl, hb⟩
 replace OL := hidden (Tr.own_stay OL.out hb)
 have SN := hidden (below_trans HH.out (below_less hb (Nat.le_trans hBW HH.out.size)))
 clear HH hb
 go_wp2_with fail
 refine hK.out _ _ SN.out (fun hH1 => ?_)
 clear hK K SN
 exact lw19_s1 i0 HU HI HZ0 HZ1 HZ2 hBW hi64 i0' i1 lM lT lY ca0 ca1 ca2 ca3 cp0 cp1 cp2 cp3 cy0 cy1 cy2 cy3 C11 C12 ol HQ _ hH1 OL
def lw19 : (Code.region 19 lw19o true).wp Tryz.prog Q ⟨#[Xa, Xb, Xc, Xd, Xe, Xf, Xg, Xh, Xi, Xj, Xk, Xl, Xm, Xn, Xo, Xp, Xq, Xr, Xs, .slice (some ⟨AY, 0, none⟩) n cY, Xu, .slice (some ⟨AM, 0, none⟩) n cM, Xw, Xx, .pointer (some ⟨T24, 0, none⟩), Xz, vO, .int .i64 (i : Int), Yc, Yd, Ye, Yf, Yg, Yh, Yi, Yj, Yk, Yl, Ym, Yn, Yo, Yp, Yq, Yr, Ys, Yt, Yu, Yv, Yw, Yx, Yy, Yz, Za, Zb, Zc, Zd, Ze, Zf, Zg, Zh, Zi, Zj, Zk, Zl, Zm, Zn, Zo, Zp, Zq, Zr, Zs, Zt, Zu, Zv, Zw, Zx, Zy, Zz, Ua, Ub, Uc, Ud, Ue, Uf, Ug, Uh, Ui, Uj, Uk, Ul, Um, Un, Uo, Up, Uq, Ur, Us, Ut, Uu, Uv, Uw, Ux, Uy, Uz, Da, Db, Dc, Dd, De, Df, Dg, Dh, Di, Dj, Dk, Dl, Dm, Dn, Do, Dp, Dq, Dr, Ds, Dt, Du, Dv, Dw, Dx, Dy, Dz, Ja, Jb, Jc, Jd, Je, Jf, Jg, Jh, Ji, Jj, Jk, Jl, Jm, Jn, Jo, Jp, Jq, Jr, Js, Jt, Ju, Jv, Jw, Jx, Jy, Jz, Ia, Ib, Ic, Id, Ie, If, Ig, Ih, Ii, Ij, Ik, Il, Im, In, Io, Ip, Iq, Ir, Is, It, Iu, Iv, Iw, Ix, Iy, Iz, Ga, Gb, Gc, Gd, Ge, Gf, Gg, Gh, Gi, Gj, Gk, Gl, Gm, Gn, Go, Gp, Gq, Gr, Gs, Gt, Gu, Gv, Gw, Gx, Gy, Gz, Ba, Bb, Bc, Bd, Be, Bf, Bg, Bh, Bi], []⟩ W := by
 have OL := hidden (Tr.own_stay ol (bl_drew W))
 refine wp_region_noPanic ?_
 refine wp_region_held_drew (S := fun x => Below B W x) (by kernel_rfl) (below_less (bl_drew W) hBW) (fun hH0 => ?_)
 show wpAnyH Tryz.prog .any lw19o (NoPanic Q) (fun x => Below B W x) 16 #[false, false, false, false, false, false, false, false, false, false, false, false, false, false, false, false] ⟨#[Xa, Xb, Xc, Xd, Xe, Xf, Xg, Xh, Xi, Xj, Xk, Xl, Xm, Xn, Xo, Xp, Xq, Xr, Xs, .slice (some ⟨AY, 0, none⟩) n cY, Xu, .slice (some ⟨AM, 0, none⟩) n cM, Xw, Xx, .pointer (some ⟨T24, 0, none⟩), Xz, vO, .int .i64 (i : Int), Yc, Yd, Ye, Yf, Yg, Yh, Yi, Yj, Yk, Yl, Ym, Yn, Yo, Yp, Yq, Yr, Ys, Yt, Yu, Yv, Yw, Yx, Yy, Yz, Za, Zb, Zc, Zd, Ze, Zf, Zg, Zh, Zi, Zj, Zk, Zl, Zm, Zn, Zo, Zp, Zq, Zr, Zs, Zt, Zu, Zv, Zw, Zx, Zy, Zz, Ua, Ub, Uc, Ud, Ue, Uf, Ug, Uh, Ui, Uj, Uk, Ul, Um, Un, Uo, Up, Uq, Ur, Us, Ut, Uu, Uv, Uw, Ux, Uy, Uz, Da, Db, Dc, Dd, De, Df, Dg, Dh, Di, Dj, Dk, Dl, Dm, Dn, Do, Dp, Dq, Dr, Ds, Dt, Du, Dv, Dw, Dx, Dy, Dz, Ja, Jb, Jc, Jd, Je, Jf, Jg, Jh, Ji, Jj, Jk, Jl, Jm, Jn, Jo, Jp, Jq, Jr, Js, Jt, Ju, Jv, Jw, Jx, Jy, Jz, Ia, Ib, Ic, Id, Ie, If, Ig, Ih, Ii, Ij, Ik, Il, Im, In, Io, Ip, Iq, Ir, Is, It, Iu, Iv, Iw, Ix, Iy, Iz, Ga, Gb, Gc, Gd, Ge, Gf, Gg, Gh, Gi, Gj, Gk, Gl, Gm, Gn, Go, Gp, Gq, Gr, Gs, Gt, Gu, Gv, Gw, Gx, Gy, Gz, Ba, Bb, Bc, Bd, Be, Bf, Bg, Bh, Bi], []⟩ W.drew
 refine tk 0 lw19o_0 (vO) rfl (by kernel_rfl) hH0 rfl (fun w0 hSw => ?_) ?_
 ·(unfold lw19o_0; clear hSw; go_simp)
 simp only [lw19o_0, Act.put, sA, sB, sC]
 refine tk 1 lw19o_1 (.slice (some ⟨AM, 0, none⟩) n cM) rfl (by kernel_rfl) hH0 rfl (fun w0 hSw => ?_) ?_
 ·(unfold lw19o_1; clear hSw; go_simp)
 simp only [lw19o_1, Act.put, sA, sB, sC]
 refine tk 2 lw19o_2 (.int .i64 (i : Int)) rfl (by kernel_rfl) hH0 rfl (fun w0 hSw => ?_) ?_
 ·(unfold lw19o_2; clear hSw; go_simp)
 simp only [lw19o_2, Act.put, sA, sB, sC]
 refine tk 5 lw19o_5 (.pointer (some ⟨T24, 4, none⟩)) rfl (by kernel_rfl) hH0 rfl (fun w0 hSw => ?_) ?_
 ·(unfold lw19o_5; clear hSw; go_simp)
 simp only [lw19o_5, Act.put, sA, sB, sC]
 refine tk 7 lw19o_7 (.slice (some ⟨AY, 0, none⟩) n cY) rfl (by kernel_rfl) hH0 rfl (fun w0 hSw => ?_) ?_
 ·(unfold lw19o_7; clear hSw; go_simp)
 simp only [lw19o_7, Act.put, sA, sB, sC]
 refine tk 8 lw19o_8 (.int .i64 (i : Int)) rfl (by kernel_rfl) hH0 rfl (fun w0 hSw => ?_) ?_
 ·(unfold lw19o_8; clear hSw; go_simp)
 simp only [lw19o_8, Act.put, sA, sB, sC]
 refine tk 3 lw19o_3 (.pointer (some ⟨AM, i * 4, none⟩)) rfl (by kernel_rfl) hH0 rfl (fun w0 hSw => ?_) ?_
 ·(unfold lw19o_3; clear hSw; go_simp)
 simp only [lw19o_3, Act.put, sA, sB, sC]
 refine tk 6 lw19o_6 (.agg #[.int .u64 p2.x0, .int .u64 p2.x1, .int .u64 p2.x2, .int .u64 p2.x3]) rfl (by kernel_rfl) hH0 rfl (fun w0 hSw => ?_) ?_
 ·(unfold lw19o_6; have hS : Below B W w0 := hSw; have a0 := (hS.cell (p := ⟨T24, 4, none⟩) lT).trans cp0; have a1 := (hS.cell (p := ⟨T24, 5, none⟩) lT).trans cp1; have a2 := (hS.cell (p := ⟨T24, 6, none⟩) lT).trans cp2; have a3 := (hS.cell (p := ⟨T24, 7, none⟩) lT).trans cp3; clear hS hSw; go_simp)
 simp only [lw19o_6, Act.put, sA, sB, sC]
 refine tk 9 lw19o_9 (.pointer (some ⟨AY, i * 4, none⟩)) rfl (by kernel_rfl) hH0 rfl (fun w0 hSw => ?_) ?_
 ·(unfold lw19o_9; clear hSw; go_simp)
 simp only [lw19o_9, Act.put, sA, sB, sC]
 refine tk 4 lw19o_4 (.agg #[.int .u64 a.x0, .int .u64 a.x1, .int .u64 a.x2, .int .u64 a.x3]) rfl (by kernel_rfl) hH0 rfl (fun w0 hSw => ?_) ?_
 ·(unfold lw19o_4; have hS : Below B W w0 := hSw; have a0 := (hS.cell (p := ⟨AM, i * 4, none⟩) lM).trans ca0; have a1 := (hS.cell (p := ⟨AM, i * 4 + 1, none⟩) lM).trans ca1; have a2 := (hS.cell (p := ⟨AM, i * 4 + 2, none⟩) lM).trans ca2; have a3 := (hS.cell (p := ⟨AM, i * 4 + 3, none⟩) lM).trans ca3; clear hS hSw; go_simp)
 simp only [lw19o_4, Act.put, sA, sB, sC]
 refine tk 10 lw19o_10 (.agg #[.int .u64 y.x0, .int .u64 y.x1, .int .u64 y.x2, .int .u64 y.x3]) rfl (by kernel_rfl) hH0 rfl (fun w0 hSw => ?_) ?_
 ·(unfold lw19o_10; have hS : Below B W w0 := hSw; have a0 := (hS.cell (p := ⟨AY, i * 4, none⟩) lY).trans cy0; have a1 := (hS.cell (p := ⟨AY, i * 4 + 1, none⟩) lY).trans cy1; have a2 := (hS.cell (p := ⟨AY, i * 4 + 2, none⟩) lY).trans cy2; have a3 := (hS.cell (p := ⟨AY, i * 4 + 3, none⟩) lY).trans cy3; clear hS hSw; go_simp)
 simp only [lw19o_10, Act.put, sA, sB, sC]
 exact lw19_s0 i0 HU HI HZ0 HZ1 HZ2 hBW hi64 i0' i1 lM lT lY ca0 ca1 ca2 ca3 cp0 cp1 cp2 cp3 cy0 cy1 cy2 cy3 C11 C12 ol HQ _ hH0 OL
end
def lw26o_0 : Oper := { dst := some 191, op := Op.fieldAddr 34 (Operand.tmp 28) 2, type := 0, pos := "outright.go:233", after := #[], guard := none }
def lw26o_1 : Oper := { dst := some 192, op := Op.load 23 (Operand.tmp 191), type := 23, pos := "outright.go:233", after := #[{ on := 0, ground := Ground.data }], guard := none }
def lw26o_2 : Oper := { dst := some 193, op := Op.move (Operand.tmp 30), type := 3, pos := "outright.go:233", after := #[], guard := none }
def lw26o_3 : Oper := { dst := some 194, op := Op.indexAddr 23 (Operand.tmp 192) (Operand.tmp 193), type := 0, pos := "outright.go:233", after := #[{ on := 1, ground := Ground.data }, { on := 2, ground := Ground.data }], guard := none }
def lw26o_4 : Oper := { dst := some 195, op := Op.load 26 (Operand.tmp 194), type := 26, pos := "outright.go:233", after := #[{ on := 3, ground := Ground.data }], guard := none }
def lw26o_5 : Oper := { dst := some 196, op := Op.fieldAddr 34 (Operand.tmp 24) 2, type := 0, pos := "outright.go:233", after := #[], guard := none }
def lw26o_6 : Oper := { dst := some 197, op := Op.load 23 (Operand.tmp 196), type := 23, pos := "outright.go:233", after := #[{ on := 5, ground := Ground.data }], guard := none }
def lw26o_7 : Oper := { dst := some 198, op := Op.move (Operand.tmp 30), type := 3, pos := "outright.go:233", after := #[], guard := none }
def lw26o_8 : Oper := { dst := some 199, op := Op.indexAddr 23 (Operand.tmp 197) (Operand.tmp 198), type := 0, pos := "outright.go:233", after := #[{ on := 6, ground := Ground.data }, { on := 7, ground := Ground.data }], guard := none }
def lw26o_9 : Oper := { dst := some 200, op := Op.load 26 (Operand.tmp 199), type := 26, pos := "outright.go:233", after := #[{ on := 8, ground := Ground.data }], guard := none }
def lw26o_10 : Oper := { dst := some 201, op := Op.call { callee := Callee.value (Operand.func 14), args := #[Operand.tmp 195, Operand.tmp 200], argTypes := #[26, 26] }, type := 4, pos := "outright.go:233", after := #[{ on := 4, ground := Ground.data }, { on := 9, ground := Ground.data }], guard := none }
def lw26o_11 : Oper := { dst := some 202, op := Op.unOp UnOp.not 4 (Operand.tmp 201), type := 4, pos := "outright.go:233", after := #[{ on := 10, ground := Ground.data }], guard := none }
def lw26o_12 : Oper := { dst := some 203, op := Op.move (Operand.tmp 202), type := 4, pos := "outright.go:233", after := #[{ on := 11, ground := Ground.data }, { on := 10, ground := Ground.chain }], guard := none }
def lw26o_13 : Oper := { dst := some 204, op := Op.fieldAddr 34 (Operand.tmp 28) 3, type := 0, pos := "outright.go:233", after := #[{ on := 12, ground := Ground.guard }], guard := some (12, false) }
def lw26o_14 : Oper := { dst := some 205, op := Op.load 23 (Operand.tmp 204), type := 23, pos := "outright.go:233", after := #[{ on := 13, ground := Ground.data }, { on := 12, ground := Ground.guard }], guard := some (12, false) }
def lw26o_15 : Oper := { dst := some 206, op := Op.move (Operand.tmp 30), type := 3, pos := "outright.go:233", after := #[{ on := 12, ground := Ground.guard }], guard := some (12, false) }
def lw26o_16 : Oper := { dst := some 207, op := Op.indexAddr 23 (Operand.tmp 205) (Operand.tmp 206), type := 0, pos := "outright.go:233", after := #[{ on := 14, ground := Ground.data }, { on := 15, ground := Ground.data }, { on := 12, ground := Ground.guard }], guard := some (12, false) }
def lw26o_17 : Oper := { dst := some 208, op := Op.load 26 (Operand.tmp 207), type := 26, pos := "outright.go:233", after := #[{ on := 16, ground := Ground.data }, { on := 12, ground := Ground.guard }], guard := some (12, false) }
def lw26o_18 : Oper := { dst := some 209, op := Op.fieldAddr 34 (Operand.tmp 24) 3, type := 0, pos := "outright.go:233", after := #[{ on := 12, ground := Ground.guard }], guard := some (12, false) }
def lw26o_19 : Oper := { dst := some 210, op := Op.load 23 (Operand.tmp 209), type := 23, pos := "outright.go:233", after := #[{ on := 18, ground := Ground.data }, { on := 12, ground := Ground.guard }], guard := some (12, false) }
def lw26o_20 : Oper := { dst := some 211, op := Op.move (Operand.tmp 30), type := 3, pos := "outright.go:233", after := #[{ on := 12, ground := Ground.guard }], guard := some (12, false) }
def lw26o_21 : Oper := { dst := some 212, op := Op.indexAddr 23 (Operand.tmp 210) (Operand.tmp 211), type := 0, pos := "outright.go:233", after := #[{ on := 19, ground := Ground.data }, { on := 20, ground := Ground.data }, { on := 12, ground := Ground.guard }], guard := some (12, false) }
def lw26o_22 : Oper := { dst := some 213, op := Op.load 26 (Operand.tmp 212), type := 26, pos := "outright.go:233", after := #[{ on := 21, ground := Ground.data }, { on := 12, ground := Ground.guard }], guard := some (12, false) }
def lw26o_23 : Oper := { dst := some 214, op := Op.call { callee := Callee.value (Operand.func 14), args := #[Operand.tmp 208, Operand.tmp 213], argTypes := #[26, 26] }, type := 4, pos := "outright.go:233", after := #[{ on := 17, ground := Ground.data }, { on := 22, ground := Ground.data }, { on := 12, ground := Ground.chain }, { on := 12, ground := Ground.guard }], guard := some (12, false) }
def lw26o_24 : Oper := { dst := some 215, op := Op.unOp UnOp.not 4 (Operand.tmp 214), type := 4, pos := "outright.go:233", after := #[{ on := 23, ground := Ground.data }, { on := 12, ground := Ground.guard }], guard := some (12, false) }
def lw26o_25 : Oper := { dst := some 216, op := Op.pick (Operand.tmp 203) (Operand.const (Value.bool true)) (Operand.tmp 215), type := 4, pos := "outright.go:233", after := #[{ on := 12, ground := Ground.data }, { on := 24, ground := Ground.data }], guard := none }
def lw26o : Array Oper := #[lw26o_0, lw26o_1, lw26o_2, lw26o_3, lw26o_4, lw26o_5, lw26o_6, lw26o_7, lw26o_8, lw26o_9, lw26o_10, lw26o_11, lw26o_12, lw26o_13, lw26o_14, lw26o_15, lw26o_16, lw26o_17, lw26o_18, lw26o_19, lw26o_20, lw26o_21, lw26o_22, lw26o_23, lw26o_24, lw26o_25]
section
variable {Q : Exit → Act → World → Prop} {T24 T28 q1 q2 p1 p2 n i : Nat} {a b c d : E4} {Xa Xb Xc Xd Xe Xf Xg Xh Xi Xj Xk Xl Xm Xn Xo Xp Xq Xr Xs Xt Xu Xv Xw Xx Xz Ya Yb Yd Yf Yg Yh Yi Yj Yk Yl Ym Yn Yo Yp Yq Yr Ys Yt Yu Yv Yw Yx Yy Yz Za Zb Zc Zd Ze Zf Zg Zh Zi Zj Zk Zl Zm Zn Zo Zp Zq Zr Zs Zt Zu Zv Zw Zx Zy Zz Ua Ub Uc Ud Ue Uf Ug Uh Ui Uj Uk Ul Um Un Uo Up Uq Ur Us Ut Uu Uv Uw Ux Uy Uz Da Db Dc Dd De Df Dg Dh Di Dj Dk Dl Dm Dn Do Dp Dq Dr Ds Dt Du Dv Dw Dx Dy Dz Ja Jb Jc Jd Je Jf Jg Jh Ji Jj Jk Jl Jm Jn Jo Jp Jq Jr Js Jt Ju Jv Jw Jx Jy Jz Ia Ib Ic Id Ie If Ig Ih Ii Ij Ik Il Im In Io Ip Iq Ir Is It Iu Iv Iw Ix Iy Iz Ga Gb Gc Gd Ge Gf Gg Gh Gi Gj Gk Gl Gm Gn Go Gp Gq Gr Gs Gt Gu Gv Gw Gx Gy Gz Ba Bb Bc Bd Be Bf Bg Bh Bi : Value} {W : World}
variable (i0 : (0 : Int) ≤ (i : Int))
variable (i1 : (i : Int) < (n : Int))
variable (k1 : W.cell? ⟨T28, 8, none⟩ = some (.slice (some ⟨q1, 0, none⟩) n n))
variable (k2 : W.cell? ⟨T24, 8, none⟩ = some (.slice (some ⟨p1, 0, none⟩) n n))
variable (k3 : W.cell? ⟨T28, 9, none⟩ = some (.slice (some ⟨q2, 0, none⟩) n n))
variable (k4 : W.cell? ⟨T24, 9, none⟩ = some (.slice (some ⟨p2, 0, none⟩) n n))
variable (ca0 : W.cell? ⟨q1, i * 4, none⟩ = some (.int .u64 a.x0)) (ca1 : W.cell? ⟨q1, i * 4 + 1, none⟩ = some (.int .u64 a.x1)) (ca2 : W.cell? ⟨q1, i * 4 + 2, none⟩ = some (.int .u64 a.x2)) (ca3 : W.cell? ⟨q1, i * 4 + 3, none⟩ = some (.int .u64 a.x3))
variable (cb0 : W.cell? ⟨p1, i * 4, none⟩ = some (.int .u64 b.x0)) (cb1 : W.cell? ⟨p1, i * 4 + 1, none⟩ = some (.int .u64 b.x1)) (cb2 : W.cell? ⟨p1, i * 4 + 2, none⟩ = some (.int .u64 b.x2)) (cb3 : W.cell? ⟨p1, i * 4 + 3, none⟩ = some (.int .u64 b.x3))
variable (cc0 : W.cell? ⟨q2, i * 4, none⟩ = some (.int .u64 c.x0)) (cc1 : W.cell? ⟨q2, i * 4 + 1, none⟩ = some (.int .u64 c.x1)) (cc2 : W.cell? ⟨q2, i * 4 + 2, none⟩ = some (.int .u64 c.x2)) (cc3 : W.cell? ⟨q2, i * 4 + 3, none⟩ = some (.int .u64 c.x3))
variable (cd0 : W.cell? ⟨p2, i * 4, none⟩ = some (.int .u64 d.x0)) (cd1 : W.cell? ⟨p2, i * 4 + 1, none⟩ = some (.int .u64 d.x1)) (cd2 : W.cell? ⟨p2, i * 4 + 2, none⟩ = some (.int .u64 d.x2)) (cd3 : W.cell? ⟨p2, i * 4 + 3, none⟩ = some (.int .u64 d.x3))
variable (C10 : Hid (∀ y, Below W.heap.size W y → Calls Tryz.prog 14 #[.agg #[.int .u64 a.x0, .int .u64 a.x1, .int .u64 a.x2, .int .u64 a.x3], .agg #[.int .u64 b.x0, .int .u64 b.x1, .int .u64 b.x2, .int .u64 b.x3]] y fun e w' => e = .returned (.bool true) ∧ Below y.heap.size y w'))
variable (C23 : Hid (∀ y, Below W.heap.size W y → Calls Tryz.prog 14 #[.agg #[.int .u64 c.x0, .int .u64 c.x1, .int .u64 c.x2, .int .u64 c.x3], .agg #[.int .u64 d.x0, .int .u64 d.x1, .int .u64 d.x2, .int .u64 d.x3]] y fun e w' => e = .returned (.bool true) ∧ Below y.heap.size y w'))
variable (HQ : Hid (∀ (wz : World), Below W.heap.size W wz → Q .normal ⟨#[Xa, Xb, Xc, Xd, Xe, Xf, Xg, Xh, Xi, Xj, Xk, Xl, Xm, Xn, Xo, Xp, Xq, Xr, Xs, Xt, Xu, Xv, Xw, Xx, .pointer (some ⟨T24, 0, none⟩), Xz, Ya, Yb, .pointer (some ⟨T28, 0, none⟩), Yd, .int .i64 (i : Int), Yf, Yg, Yh, Yi, Yj, Yk, Yl, Ym, Yn, Yo, Yp, Yq, Yr, Ys, Yt, Yu, Yv, Yw, Yx, Yy, Yz, Za, Zb, Zc, Zd, Ze, Zf, Zg, Zh, Zi, Zj, Zk, Zl, Zm, Zn, Zo, Zp, Zq, Zr, Zs, Zt, Zu, Zv, Zw, Zx, Zy, Zz, Ua, Ub, Uc, Ud, Ue, Uf, Ug, Uh, Ui, Uj, Uk, Ul, Um, Un, Uo, Up, Uq, Ur, Us, Ut, Uu, Uv, Uw, Ux, Uy, Uz, Da, Db, Dc, Dd, De, Df, Dg, Dh, Di, Dj, Dk, Dl, Dm, Dn, Do, Dp, Dq, Dr, Ds, Dt, Du, Dv, Dw, Dx, Dy, Dz, Ja, Jb, Jc, Jd, Je, Jf, Jg, Jh, Ji, Jj, Jk, Jl, Jm, Jn, Jo, Jp, Jq, Jr, Js, Jt, Ju, Jv, Jw, Jx, Jy, Jz, Ia, Ib, Ic, Id, Ie, If, Ig, Ih, Ii, Ij, Ik, Il, Im, In, Io, Ip, Iq, Ir, Is, It, Iu, Iv, Iw, Ix, Iy, Iz, Ga, Gb, Gc, Gd, Ge, Gf, Gg, Gh, Gi, .pointer (some ⟨T28, 8, none⟩), .slice (some ⟨q1, 0, none⟩) n n, .int .i64 (i : Int), .pointer (some ⟨q1, i * 4, none⟩), .agg #[.int .u64 a.x0, .int .u64 a.x1, .int .u64 a.x2, .int .u64 a.x3], .pointer (some ⟨T24, 8, none⟩), .slice (some ⟨p1, 0, none⟩) n n, .int .i64 (i : Int), .pointer (some ⟨p1, i * 4, none⟩), .agg #[.int .u64 b.x0, .int .u64 b.x1, .int .u64 b.x2, .int .u64 b.x3], .bool true, .bool false, .bool false, .pointer (some ⟨T28, 9, none⟩), .slice (some ⟨q2, 0, none⟩) n n, .int .i64 (i : Int), .pointer (some ⟨q2, i * 4, none⟩), .agg #[.int .u64 c.x0, .int .u64 c.x1, .int .u64 c.x2, .int .u64 c.x3], .pointer (some ⟨T24, 9, none⟩), .slice (some ⟨p2, 0, none⟩) n n, .int .i64 (i : Int), .pointer (some ⟨p2, i * 4, none⟩), .agg #[.int .u64 d.x0, .int .u64 d.x1, .int .u64 d.x2, .int .u64 d.x3], .bool true, .bool false, .bool false], []⟩ wz))
def lw26_s2 (w : World) (hH0 : Below W.heap.size W w)  : wpAnyH Tryz.prog .any lw26o (NoPanic Q) (fun x => Below W.heap.size W x) 0 #[true, true, true, true, true, true, true, true, true, true, true, true, true, true, true, true, true, true, true, true, true, true, true, true, true, true] ⟨#[Xa, Xb, Xc, Xd, Xe, Xf, Xg, Xh, Xi, Xj, Xk, Xl, Xm, Xn, Xo, Xp, Xq, Xr, Xs, Xt, Xu, Xv, Xw, Xx, .pointer (some ⟨T24, 0, none⟩), Xz, Ya, Yb, .pointer (some ⟨T28, 0, none⟩), Yd, .int .i64 (i : Int), Yf, Yg, Yh, Yi, Yj, Yk, Yl, Ym, Yn, Yo, Yp, Yq, Yr, Ys, Yt, Yu, Yv, Yw, Yx, Yy, Yz, Za, Zb, Zc, Zd, Ze, Zf, Zg, Zh, Zi, Zj, Zk, Zl, Zm, Zn, Zo, Zp, Zq, Zr, Zs, Zt, Zu, Zv, Zw, Zx, Zy, Zz, Ua, Ub, Uc, Ud, Ue, Uf, Ug, Uh, Ui, Uj, Uk, Ul, Um, Un, Uo, Up, Uq, Ur, Us, Ut, Uu, Uv, Uw, Ux, Uy, Uz, Da, Db, Dc, Dd, De, Df, Dg, Dh, Di, Dj, Dk, Dl, Dm, Dn, Do, Dp, Dq, Dr, Ds, Dt, Du, Dv, Dw, Dx, Dy, Dz, Ja, Jb, Jc, Jd, Je, Jf, Jg, Jh, Ji, Jj, Jk, Jl, Jm, Jn, Jo, Jp, Jq, Jr, Js, Jt, Ju, Jv, Jw, Jx, Jy, Jz, Ia, Ib, Ic, Id, Ie, If, Ig, Ih, Ii, Ij, Ik, Il, Im, In, Io, Ip, Iq, Ir, Is, It, Iu, Iv, Iw, Ix, Iy, Iz, Ga, Gb, Gc, Gd, Ge, Gf, Gg, Gh, Gi, .pointer (some ⟨T28, 8, none⟩), .slice (some ⟨q1, 0, none⟩) n n, .int .i64 (i : Int), .pointer (some ⟨q1, i * 4, none⟩), a.v, .pointer (some ⟨T24, 8, none⟩), .slice (some ⟨p1, 0, none⟩) n n, .int .i64 (i : Int), .pointer (some ⟨p1, i * 4, none⟩), b.v, .bool true, .bool false, .bool false, .pointer (some ⟨T28, 9, none⟩), .slice (some ⟨q2, 0, none⟩) n n, .int .i64 (i : Int), .pointer (some ⟨q2, i * 4, none⟩), c.v, .pointer (some ⟨T24, 9, none⟩), .slice (some ⟨p2, 0, none⟩) n n, .int .i64 (i : Int), .pointer (some ⟨p2, i * 4, none⟩), d.v, .bool true, .bool false, .bool false], []⟩ w := by
 have zz := And.intro i0 (And.intro i1 (And.intro k1 (And.intro k2 (And.intro k3 (And.intro k4 (And.intro ca0 (And.intro ca1 (And.intro ca2 (And.intro ca3 (And.intro cb0 (And.intro cb1 (And.intro cb2 (And.intro cb3 (And.intro cc0 (And.intro cc1 (And.intro cc2 (And.intro cc3 (And.intro cd0 (And.intro cd1 (And.intro cd2 (And.intro cd3 (And.intro C10 (And.intro C23 (HQ))))))))))))))))))))))))
 clear zz
 unfold E4.v
 have HH := hidden hH0
 have FQ := hidden (HQ.out _ HH.out)
 refine wpAnyH_done (by kernel_rfl) ?_ _
 refine NoPanic.normal ?_
 exact FQ.out
def lw26_s1 (w : World) (hH0 : Below W.heap.size W w)  : wpAnyH Tryz.prog .any lw26o (NoPanic Q) (fun x => Below W.heap.size W x) 3 #[true, true, true, true, true, true, true, true, true, true, true, true, true, true, true, true, true, true, true, true, true, true, true, false, false, false] ⟨#[Xa, Xb, Xc, Xd, Xe, Xf, Xg, Xh, Xi, Xj, Xk, Xl, Xm, Xn, Xo, Xp, Xq, Xr, Xs, Xt, Xu, Xv, Xw, Xx, .pointer (some ⟨T24, 0, none⟩), Xz, Ya, Yb, .pointer (some ⟨T28, 0, none⟩), Yd, .int .i64 (i : Int), Yf, Yg, Yh, Yi, Yj, Yk, Yl, Ym, Yn, Yo, Yp, Yq, Yr, Ys, Yt, Yu, Yv, Yw, Yx, Yy, Yz, Za, Zb, Zc, Zd, Ze, Zf, Zg, Zh, Zi, Zj, Zk, Zl, Zm, Zn, Zo, Zp, Zq, Zr, Zs, Zt, Zu, Zv, Zw, Zx, Zy, Zz, Ua, Ub, Uc, Ud, Ue, Uf, Ug, Uh, Ui, Uj, Uk, Ul, Um, Un, Uo, Up, Uq, Ur, Us, Ut, Uu, Uv, Uw, Ux, Uy, Uz, Da, Db, Dc, Dd, De, Df, Dg, Dh, Di, Dj, Dk, Dl, Dm, Dn, Do, Dp, Dq, Dr, Ds, Dt, Du, Dv, Dw, Dx, Dy, Dz, Ja, Jb, Jc, Jd, Je, Jf, Jg, Jh, Ji, Jj, Jk, Jl, Jm, Jn, Jo, Jp, Jq, Jr, Js, Jt, Ju, Jv, Jw, Jx, Jy, Jz, Ia, Ib, Ic, Id, Ie, If, Ig, Ih, Ii, Ij, Ik, Il, Im, In, Io, Ip, Iq, Ir, Is, It, Iu, Iv, Iw, Ix, Iy, Iz, Ga, Gb, Gc, Gd, Ge, Gf, Gg, Gh, Gi, .pointer (some ⟨T28, 8, none⟩), .slice (some ⟨q1, 0, none⟩) n n, .int .i64 (i : Int), .pointer (some ⟨q1, i * 4, none⟩), a.v, .pointer (some ⟨T24, 8, none⟩), .slice (some ⟨p1, 0, none⟩) n n, .int .i64 (i : Int), .pointer (some ⟨p1, i * 4, none⟩), b.v, .bool true, .bool false, .bool false, .pointer (some ⟨T28, 9, none⟩), .slice (some ⟨q2, 0, none⟩) n n, .int .i64 (i : Int), .pointer (some ⟨q2, i * 4, none⟩), c.v, .pointer (some ⟨T24, 9, none⟩), .slice (some ⟨p2, 0, none⟩) n n, .int .i64 (i : Int), .pointer (some ⟨p2, i * 4, none⟩), d.v, Bg, Bh, Bi], []⟩ w := by
 unfold E4.v
 refine wpAnyH_ready (rs := [23]) (by kernel_rfl) (by simp) ?_
 refine AllReadyH.cons (o := lw26o_23) rfl (fun K hK => ?_) AllReadyH.nil
 unfold lw26o_23
 have HH := hidden hH0
 clear hH0
 go_simp
 refine (C23.out _ HH.out).mono ?_
 rintro e wn1 ⟨rfl, hb⟩
 have SN := hidden (bl_trans HH.out hb)
 clear HH hb
 go_wp2_with fail
 refine hK.out _ _ SN.out (fun hH1 => ?_)
 clear hK K SN
 refine tk 24 lw26o_24 (.bool false) rfl (by kernel_rfl) hH1 rfl (fun w0 hSw => ?_) ?_
 ·(unfold lw26o_24; clear hSw; go_simp)
 simp only [lw26o_24, Act.put, sA, sB, sC]
 refine tk 25 lw26o_25 (.bool false) rfl (by kernel_rfl) hH1 rfl (fun w0 hSw => ?_) ?_
 ·(unfold lw26o_25; clear hSw; go_simp)
 simp only [lw26o_25, Act.put, sA, sB, sC]
 exact lw26_s2 i0 i1 k1 k2 k3 k4 ca0 ca1 ca2 ca3 cb0 cb1 cb2 cb3 cc0 cc1 cc2 cc3 cd0 cd1 cd2 cd3 C10 C23 HQ _ hH1
def lw26_s0 (w : World) (hH0 : Below W.heap.size W w)  : wpAnyH Tryz.prog .any lw26o (NoPanic Q) (fun x => Below W.heap.size W x) 16 #[true, true, true, true, true, true, true, true, true, true, false, false, false, false, false, false, false, false, false, false, false, false, false, false, false, false] ⟨#[Xa, Xb, Xc, Xd, Xe, Xf, Xg, Xh, Xi, Xj, Xk, Xl, Xm, Xn, Xo, Xp, Xq, Xr, Xs, Xt, Xu, Xv, Xw, Xx, .pointer (some ⟨T24, 0, none⟩), Xz, Ya, Yb, .pointer (some ⟨T28, 0, none⟩), Yd, .int .i64 (i : Int), Yf, Yg, Yh, Yi, Yj, Yk, Yl, Ym, Yn, Yo, Yp, Yq, Yr, Ys, Yt, Yu, Yv, Yw, Yx, Yy, Yz, Za, Zb, Zc, Zd, Ze, Zf, Zg, Zh, Zi, Zj, Zk, Zl, Zm, Zn, Zo, Zp, Zq, Zr, Zs, Zt, Zu, Zv, Zw, Zx, Zy, Zz, Ua, Ub, Uc, Ud, Ue, Uf, Ug, Uh, Ui, Uj, Uk, Ul, Um, Un, Uo, Up, Uq, Ur, Us, Ut, Uu, Uv, Uw, Ux, Uy, Uz, Da, Db, Dc, Dd, De, Df, Dg, Dh, Di, Dj, Dk, Dl, Dm, Dn, Do, Dp, Dq, Dr, Ds, Dt, Du, Dv, Dw, Dx, Dy, Dz, Ja, Jb, Jc, Jd, Je, Jf, Jg, Jh, Ji, Jj, Jk, Jl, Jm, Jn, Jo, Jp, Jq, Jr, Js, Jt, Ju, Jv, Jw, Jx, Jy, Jz, Ia, Ib, Ic, Id, Ie, If, Ig, Ih, Ii, Ij, Ik, Il, Im, In, Io, Ip, Iq, Ir, Is, It, Iu, Iv, Iw, Ix, Iy, Iz, Ga, Gb, Gc, Gd, Ge, Gf, Gg, Gh, Gi, .pointer (some ⟨T28, 8, none⟩), .slice (some ⟨q1, 0, none⟩) n n, .int .i64 (i : Int), .pointer (some ⟨q1, i * 4, none⟩), a.v, .pointer (some ⟨T24, 8, none⟩), .slice (some ⟨p1, 0, none⟩) n n, .int .i64 (i : Int), .pointer (some ⟨p1, i * 4, none⟩), b.v, Gt, Gu, Gv, Gw, Gx, Gy, Gz, Ba, Bb, Bc, Bd, Be, Bf, Bg, Bh, Bi], []⟩ w := by
 unfold E4.v
 refine wpAnyH_ready (rs := [10]) (by kernel_rfl) (by simp) ?_
 refine AllReadyH.cons (o := lw26o_10) rfl (fun K hK => ?_) AllReadyH.nil
 unfold lw26o_10
 have HH := hidden hH0
 clear hH0
 go_simp
 refine (C10.out _ HH.out).mono ?_
 rintro e wn1 ⟨rfl, hb⟩
 have SN := hidden (bl_trans HH.out hb)
 clear HH hb
 go_wp2_with fail
 refine hK.out _ _ SN.out (fun hH1 => ?_)
 clear hK K SN
 refine tk 11 lw26o_11 (.bool false) rfl (by kernel_rfl) hH1 rfl (fun w0 hSw => ?_) ?_
 ·(unfold lw26o_11; clear hSw; go_simp)
 simp only [lw26o_11, Act.put, sA, sB, sC]
 refine tk 12 lw26o_12 (.bool false) rfl (by kernel_rfl) hH1 rfl (fun w0 hSw => ?_) ?_
 ·(unfold lw26o_12; clear hSw; go_simp)
 simp only [lw26o_12, Act.put, sA, sB, sC]
 refine tk 13 lw26o_13 (.pointer (some ⟨T28, 9, none⟩)) rfl (by kernel_rfl) hH1 rfl (fun w0 hSw => ?_) ?_
 ·(unfold lw26o_13; clear hSw; go_simp)
 simp only [lw26o_13, Act.put, sA, sB, sC]
 refine tk 15 lw26o_15 (.int .i64 (i : Int)) rfl (by kernel_rfl) hH1 rfl (fun w0 hSw => ?_) ?_
 ·(unfold lw26o_15; clear hSw; go_simp)
 simp only [lw26o_15, Act.put, sA, sB, sC]
 refine tk 18 lw26o_18 (.pointer (some ⟨T24, 9, none⟩)) rfl (by kernel_rfl) hH1 rfl (fun w0 hSw => ?_) ?_
 ·(unfold lw26o_18; clear hSw; go_simp)
 simp only [lw26o_18, Act.put, sA, sB, sC]
 refine tk 20 lw26o_20 (.int .i64 (i : Int)) rfl (by kernel_rfl) hH1 rfl (fun w0 hSw => ?_) ?_
 ·(unfold lw26o_20; clear hSw; go_simp)
 simp only [lw26o_20, Act.put, sA, sB, sC]
 refine tk 14 lw26o_14 (.slice (some ⟨q2, 0, none⟩) n n) rfl (by kernel_rfl) hH1 rfl (fun w0 hSw => ?_) ?_
 ·(unfold lw26o_14; have hS : Below W.heap.size W w0 := hSw; have a0 := (cell_keep k3 hS); clear hS hSw; go_simp)
 simp only [lw26o_14, Act.put, sA, sB, sC]
 refine tk 19 lw26o_19 (.slice (some ⟨p2, 0, none⟩) n n) rfl (by kernel_rfl) hH1 rfl (fun w0 hSw => ?_) ?_
 ·(unfold lw26o_19; have hS : Below W.heap.size W w0 := hSw; have a0 := (cell_keep k4 hS); clear hS hSw; go_simp)
 simp only [lw26o_19, Act.put, sA, sB, sC]
 refine tk 16 lw26o_16 (.pointer (some ⟨q2, i * 4, none⟩)) rfl (by kernel_rfl) hH1 rfl (fun w0 hSw => ?_) ?_
 ·(unfold lw26o_16; clear hSw; go_simp)
 simp only [lw26o_16, Act.put, sA, sB, sC]
 refine tk 21 lw26o_21 (.pointer (some ⟨p2, i * 4, none⟩)) rfl (by kernel_rfl) hH1 rfl (fun w0 hSw => ?_) ?_
 ·(unfold lw26o_21; clear hSw; go_simp)
 simp only [lw26o_21, Act.put, sA, sB, sC]
 refine tk 17 lw26o_17 (.agg #[.int .u64 c.x0, .int .u64 c.x1, .int .u64 c.x2, .int .u64 c.x3]) rfl (by kernel_rfl) hH1 rfl (fun w0 hSw => ?_) ?_
 ·(unfold lw26o_17; have hS : Below W.heap.size W w0 := hSw; have a0 := (cell_keep cc0 hS); have a1 := (cell_keep cc1 hS); have a2 := (cell_keep cc2 hS); have a3 := (cell_keep cc3 hS); clear hS hSw; go_simp)
 simp only [lw26o_17, Act.put, sA, sB, sC]
 refine tk 22 lw26o_22 (.agg #[.int .u64 d.x0, .int .u64 d.x1, .int .u64 d.x2, .int .u64 d.x3]) rfl (by kernel_rfl) hH1 rfl (fun w0 hSw => ?_) ?_
 ·(unfold lw26o_22; have hS : Below W.heap.size W w0 := hSw; have a0 := (cell_keep cd0 hS); have a1 := (cell_keep cd1 hS); have a2 := (cell_keep cd2 hS); have a3 := (cell_keep cd3 hS); clear hS hSw; go_simp)
 simp only [lw26o_22, Act.put, sA, sB, sC]
 exact lw26_s1 i0 i1 k1 k2 k3 k4 ca0 ca1 ca2 ca3 cb0 cb1 cb2 cb3 cc0 cc1 cc2 cc3 cd0 cd1 cd2 cd3 C10 C23 HQ _ hH1
def lw26 : (Code.region 26 lw26o true).wp Tryz.prog Q ⟨#[Xa, Xb, Xc, Xd, Xe, Xf, Xg, Xh, Xi, Xj, Xk, Xl, Xm, Xn, Xo, Xp, Xq, Xr, Xs, Xt, Xu, Xv, Xw, Xx, .pointer (some ⟨T24, 0, none⟩), Xz, Ya, Yb, .pointer (some ⟨T28, 0, none⟩), Yd, .int .i64 (i : Int), Yf, Yg, Yh, Yi, Yj, Yk, Yl, Ym, Yn, Yo, Yp, Yq, Yr, Ys, Yt, Yu, Yv, Yw, Yx, Yy, Yz, Za, Zb, Zc, Zd, Ze, Zf, Zg, Zh, Zi, Zj, Zk, Zl, Zm, Zn, Zo, Zp, Zq, Zr, Zs, Zt, Zu, Zv, Zw, Zx, Zy, Zz, Ua, Ub, Uc, Ud, Ue, Uf, Ug, Uh, Ui, Uj, Uk, Ul, Um, Un, Uo, Up, Uq, Ur, Us, Ut, Uu, Uv, Uw, Ux, Uy, Uz, Da, Db, Dc, Dd, De, Df, Dg, Dh, Di, Dj, Dk, Dl, Dm, Dn, Do, Dp, Dq, Dr, Ds, Dt, Du, Dv, Dw, Dx, Dy, Dz, Ja, Jb, Jc, Jd, Je, Jf, Jg, Jh, Ji, Jj, Jk, Jl, Jm, Jn, Jo, Jp, Jq, Jr, Js, Jt, Ju, Jv, Jw, Jx, Jy, Jz, Ia, Ib, Ic, Id, Ie, If, Ig, Ih, Ii, Ij, Ik, Il, Im, In, Io, Ip, Iq, Ir, Is, It, Iu, Iv, Iw, Ix, Iy, Iz, Ga, Gb, Gc, Gd, Ge, Gf, Gg, Gh, Gi, Gj, Gk, Gl, Gm, Gn, Go, Gp, Gq, Gr, Gs, Gt, Gu, Gv, Gw, Gx, Gy, Gz, Ba, Bb, Bc, Bd, Be, Bf, Bg, Bh, Bi], []⟩ W := by
 refine wp_region_noPanic ?_
 refine wp_region_held_drew (S := fun x => Below W.heap.size W x) (by kernel_rfl) (bl_drew W) (fun hH0 => ?_)
 show wpAnyH Tryz.prog .any lw26o (NoPanic Q) (fun x => Below W.heap.size W x) 26 #[false, false, false, false, false, false, false, false, false, false, false, false, false, false, false, false, false, false, false, false, false, false, false, false, false, false] ⟨#[Xa, Xb, Xc, Xd, Xe, Xf, Xg, Xh, Xi, Xj, Xk, Xl, Xm, Xn, Xo, Xp, Xq, Xr, Xs, Xt, Xu, Xv, Xw, Xx, .pointer (some ⟨T24, 0, none⟩), Xz, Ya, Yb, .pointer (some ⟨T28, 0, none⟩), Yd, .int .i64 (i : Int), Yf, Yg, Yh, Yi, Yj, Yk, Yl, Ym, Yn, Yo, Yp, Yq, Yr, Ys, Yt, Yu, Yv, Yw, Yx, Yy, Yz, Za, Zb, Zc, Zd, Ze, Zf, Zg, Zh, Zi, Zj, Zk, Zl, Zm, Zn, Zo, Zp, Zq, Zr, Zs, Zt, Zu, Zv, Zw, Zx, Zy, Zz, Ua, Ub, Uc, Ud, Ue, Uf, Ug, Uh, Ui, Uj, Uk, Ul, Um, Un, Uo, Up, Uq, Ur, Us, Ut, Uu, Uv, Uw, Ux, Uy, Uz, Da, Db, Dc, Dd, De, Df, Dg, Dh, Di, Dj, Dk, Dl, Dm, Dn, Do, Dp, Dq, Dr, Ds, Dt, Du, Dv, Dw, Dx, Dy, Dz, Ja, Jb, Jc, Jd, Je, Jf, Jg, Jh, Ji, Jj, Jk, Jl, Jm, Jn, Jo, Jp, Jq, Jr, Js, Jt, Ju, Jv, Jw, Jx, Jy, Jz, Ia, Ib, Ic, Id, Ie, If, Ig, Ih, Ii, Ij, Ik, Il, Im, In, Io, Ip, Iq, Ir, Is, It, Iu, Iv, Iw, Ix, Iy, Iz, Ga, Gb, Gc, Gd, Ge, Gf, Gg, Gh, Gi, Gj, Gk, Gl, Gm, Gn, Go, Gp, Gq, Gr, Gs, Gt, Gu, Gv, Gw, Gx, Gy, Gz, Ba, Bb, Bc, Bd, Be, Bf, Bg, Bh, Bi], []⟩ W.drew
 refine tk 0 lw26o_0 (.pointer (some ⟨T28, 8, none⟩)) rfl (by kernel_rfl) hH0 rfl (fun w0 hSw => ?_) ?_
 ·(unfold lw26o_0; clear hSw; go_simp)
 simp only [lw26o_0, Act.put, sA, sB, sC]
 refine tk 2 lw26o_2 (.int .i64 (i : Int)) rfl (by kernel_rfl) hH0 rfl (fun w0 hSw => ?_) ?_
 ·(unfold lw26o_2; clear hSw; go_simp)
 simp only [lw26o_2, Act.put, sA, sB, sC]
 refine tk 5 lw26o_5 (.pointer (some ⟨T24, 8, none⟩)) rfl (by kernel_rfl) hH0 rfl (fun w0 hSw => ?_) ?_
 ·(unfold lw26o_5; clear hSw; go_simp)
 simp only [lw26o_5, Act.put, sA, sB, sC]
 refine tk 7 lw26o_7 (.int .i64 (i : Int)) rfl (by kernel_rfl) hH0 rfl (fun w0 hSw => ?_) ?_
 ·(unfold lw26o_7; clear hSw; go_simp)
 simp only [lw26o_7, Act.put, sA, sB, sC]
 refine tk 1 lw26o_1 (.slice (some ⟨q1, 0, none⟩) n n) rfl (by kernel_rfl) hH0 rfl (fun w0 hSw => ?_) ?_
 ·(unfold lw26o_1; have hS : Below W.heap.size W w0 := hSw; have a0 := (cell_keep k1 hS); clear hS hSw; go_simp)
 simp only [lw26o_1, Act.put, sA, sB, sC]
 refine tk 6 lw26o_6 (.slice (some ⟨p1, 0, none⟩) n n) rfl (by kernel_rfl) hH0 rfl (fun w0 hSw => ?_) ?_
 ·(unfold lw26o_6; have hS : Below W.heap.size W w0 := hSw; have a0 := (cell_keep k2 hS); clear hS hSw; go_simp)
 simp only [lw26o_6, Act.put, sA, sB, sC]
 refine tk 3 lw26o_3 (.pointer (some ⟨q1, i * 4, none⟩)) rfl (by kernel_rfl) hH0 rfl (fun w0 hSw => ?_) ?_
 ·(unfold lw26o_3; clear hSw; go_simp)
 simp only [lw26o_3, Act.put, sA, sB, sC]
 refine tk 8 lw26o_8 (.pointer (some ⟨p1, i * 4, none⟩)) rfl (by kernel_rfl) hH0 rfl (fun w0 hSw => ?_) ?_
 ·(unfold lw26o_8; clear hSw; go_simp)
 simp only [lw26o_8, Act.put, sA, sB, sC]
 refine tk 4 lw26o_4 (.agg #[.int .u64 a.x0, .int .u64 a.x1, .int .u64 a.x2, .int .u64 a.x3]) rfl (by kernel_rfl) hH0 rfl (fun w0 hSw => ?_) ?_
 ·(unfold lw26o_4; have hS : Below W.heap.size W w0 := hSw; have a0 := (cell_keep ca0 hS); have a1 := (cell_keep ca1 hS); have a2 := (cell_keep ca2 hS); have a3 := (cell_keep ca3 hS); clear hS hSw; go_simp)
 simp only [lw26o_4, Act.put, sA, sB, sC]
 refine tk 9 lw26o_9 (.agg #[.int .u64 b.x0, .int .u64 b.x1, .int .u64 b.x2, .int .u64 b.x3]) rfl (by kernel_rfl) hH0 rfl (fun w0 hSw => ?_) ?_
 ·(unfold lw26o_9; have hS : Below W.heap.size W w0 := hSw; have a0 := (cell_keep cb0 hS); have a1 := (cell_keep cb1 hS); have a2 := (cell_keep cb2 hS); have a3 := (cell_keep cb3 hS); clear hS hSw; go_simp)
 simp only [lw26o_9, Act.put, sA, sB, sC]
 exact lw26_s0 i0 i1 k1 k2 k3 k4 ca0 ca1 ca2 ca3 cb0 cb1 cb2 cb3 cc0 cc1 cc2 cc3 cd0 cd1 cd2 cd3 C10 C23 HQ _ hH0
end
end Sg
end Go.Proofs.YtbbnjmjeeiglcaaGreatDoor
