import Derived.Test.YtbbnjmjeeiglcaaGreatDoorPy4
import Derived.Laws.Bits64b
import Derived.Laws.BitsAllLaws
set_option maxRecDepth 100000
set_option maxHeartbeats 32000000
set_option linter.unusedVariables false
set_option linter.unusedSimpArgs false
set_option linter.defProp false
namespace Go.Proofs.YtbbnjmjeeiglcaaGreatDoor
namespace Sg
open Go.RowKit
theorem wp_allocY {T : TypeId} (zs : List Value) (hz : ∀ w, (zeroValue T).run Tryz.prog w = .ok (.agg zs.toArray) w) {o : Oper} {a : Act} {w : World} {K : Act → World → Prop} {Q : Exit → Act → World → Prop} (ho : o.op = .alloc T) (h : ∀ (A : Nat) (wq : World), A = w.heap.size → Below w.heap.size w wq → wq.there A 0 zs.length → wq.rangeAt A 0 zs → K (a.put o.dst (.pointer (some ⟨A, 0, none⟩))) wq) : o.wp Tryz.prog a w K Q := by
 have hk := h w.heap.size (w.alloc (.cells zs.toArray T)) rfl (bl_alloc _ _) (there_newM w zs T) (range_newM w zs T)
 have hz' := hz w
 clear h hz
 generalize zs = z at hz' hk
 unfold Oper.wp execOp
 simp [ho, Instr.alloc, hz']
 exact hk
theorem zv_p (w : World) : (zeroValue 77).run Tryz.prog w = .ok (.agg ([.int .u64 0, .int .u64 0, .int .u64 0, .int .u64 0, .slice none 0 0] : List Value).toArray) w := by kernel_rfl
theorem wp_allocP {o : Oper} {a : Act} {w : World} {K : Act → World → Prop} {Q : Exit → Act → World → Prop} (ho : o.op = .alloc 77) (h : ∀ (A : Nat) (wq : World), A = w.heap.size → Below w.heap.size w wq → wq.there A 0 5 → wq.rangeAt A 0 [.int .u64 0, .int .u64 0, .int .u64 0, .int .u64 0, .slice none 0 0] → K (a.put o.dst (.pointer (some ⟨A, 0, none⟩))) wq) : o.wp Tryz.prog a w K Q := wp_allocY _ zv_p ho h
theorem rl_lt {w : World} {b n : Nat} {g : Nat → E4} (h : Rl w b 0 n g) (hn : 1 ≤ n) : b < w.heap.size := World.block_lt_of_cell? w _ (h.c0 0 hn)
theorem there_lt {w : World} {b n : Nat} (h : w.there b 0 (n + 1)) : b < w.heap.size := by
 obtain ⟨v, hv⟩ := Option.isSome_iff_exists.1 (h 0 (Nat.succ_pos _)).1
 exact World.block_lt_of_cell? w _ hv
theorem rl_gb {w w' : World} {b c n : Nat} {g : Nat → E4} (h : Rl w b 0 n g) (hg : w.grownBy w' (some c)) (ne : b ≠ c) : Rl w' b 0 n g :=
 ⟨fun k hk => hg.cell (h.c0 k hk) (fun e => ne (Option.some.inj e)), fun k hk => hg.cell (h.c1 k hk) (fun e => ne (Option.some.inj e)), fun k hk => hg.cell (h.c2 k hk) (fun e => ne (Option.some.inj e)), fun k hk => hg.cell (h.c3 k hk) (fun e => ne (Option.some.inj e))⟩
def pe15o_0 : Oper := { dst := some 107, op := Op.move (Operand.tmp 2), type := 3, pos := "proofs.go:52", after := #[], guard := none }
def pe15o_1 : Oper := { dst := some 108, op := Op.move (Operand.tmp 4), type := 23, pos := "proofs.go:52", after := #[], guard := none }
def pe15o_2 : Oper := { dst := some 109, op := Op.move (Operand.tmp 3), type := 23, pos := "proofs.go:52", after := #[], guard := none }
def pe15o_3 : Oper := { dst := some 110, op := Op.load 26 (Operand.tmp 26), type := 26, pos := "proofs.go:52", after := #[], guard := none }
def pe15o_4 : Oper := { dst := some 111, op := Op.load 26 (Operand.tmp 13), type := 26, pos := "proofs.go:52", after := #[], guard := none }
def pe15o_5 : Oper := { dst := some 112, op := Op.call { callee := Callee.value (Operand.func 16), args := #[Operand.tmp 110, Operand.tmp 111], argTypes := #[26, 26] }, type := 26, pos := "proofs.go:52", after := #[{ on := 3, ground := Ground.data }, { on := 4, ground := Ground.data }], guard := none }
def pe15o_6 : Oper := { dst := some 113, op := Op.call { callee := Callee.value (Operand.func 32), args := #[Operand.tmp 108, Operand.tmp 109, Operand.tmp 112], argTypes := #[23, 23, 26] }, type := 77, pos := "proofs.go:52", after := #[{ on := 1, ground := Ground.data }, { on := 2, ground := Ground.data }, { on := 5, ground := Ground.data }, { on := 5, ground := Ground.chain }], guard := none }
def pe15o_7 : Oper := { dst := some 114, op := Op.load 26 (Operand.tmp 13), type := 26, pos := "proofs.go:52", after := #[], guard := none }
def pe15o_8 : Oper := { dst := some 115, op := Op.call { callee := Callee.value (Operand.func 23), args := #[Operand.tmp 114], argTypes := #[26] }, type := 26, pos := "proofs.go:52", after := #[{ on := 7, ground := Ground.data }, { on := 6, ground := Ground.chain }], guard := none }
def pe15o_9 : Oper := { dst := some 116, op := Op.move (Operand.tmp 6), type := 23, pos := "proofs.go:52", after := #[], guard := none }
def pe15o_10 : Oper := { dst := some 117, op := Op.call { callee := Callee.value (Operand.func 33), args := #[Operand.tmp 116], argTypes := #[23] }, type := 23, pos := "proofs.go:52", after := #[{ on := 9, ground := Ground.data }, { on := 8, ground := Ground.chain }], guard := none }
def pe15o_11 : Oper := { dst := some 118, op := Op.build 77 #[(0, Operand.tmp 115), (1, Operand.tmp 117)], type := 77, pos := "proofs.go:52", after := #[{ on := 8, ground := Ground.data }, { on := 10, ground := Ground.data }], guard := none }
def pe15o_12 : Oper := { dst := some 119, op := Op.call { callee := Callee.value (Operand.func 31), args := #[Operand.tmp 107, Operand.tmp 113, Operand.tmp 118], argTypes := #[3, 77, 77] }, type := 78, pos := "proofs.go:52", after := #[{ on := 0, ground := Ground.data }, { on := 6, ground := Ground.data }, { on := 11, ground := Ground.data }, { on := 10, ground := Ground.chain }], guard := none }
def pe15o_13 : Oper := { dst := some 106, op := Op.move (Operand.tmp 119), type := 78, pos := "proofs.go:52", after := #[{ on := 12, ground := Ground.data }], guard := none }
def pe15o_14 : Oper := { dst := some 120, op := Op.extract (Operand.tmp 106) 0, type := 77, pos := "proofs.go:52", after := #[{ on := 13, ground := Ground.data }], guard := none }
def pe15o_15 : Oper := { dst := some 121, op := Op.extract (Operand.tmp 106) 1, type := 77, pos := "proofs.go:52", after := #[{ on := 13, ground := Ground.data }, { on := 18, ground := Ground.gcOnly Departure.lateStores }], guard := none }
def pe15o_16 : Oper := { dst := some 28, op := Op.alloc 77, type := 0, pos := "proofs.go:52", after := #[], guard := none }
def pe15o_17 : Oper := { dst := some 29, op := Op.alloc 77, type := 0, pos := "proofs.go:52", after := #[], guard := none }
def pe15o_18 : Oper := { dst := none, op := Op.store 77 (Operand.tmp 28) (Operand.tmp 120), type := 0, pos := "proofs.go:52", after := #[{ on := 16, ground := Ground.data }, { on := 14, ground := Ground.data }, { on := 12, ground := Ground.chain }, { on := 0, ground := Ground.phase }, { on := 1, ground := Ground.phase }, { on := 2, ground := Ground.phase }, { on := 3, ground := Ground.phase }, { on := 4, ground := Ground.phase }, { on := 5, ground := Ground.phase }, { on := 6, ground := Ground.phase }, { on := 7, ground := Ground.phase }, { on := 8, ground := Ground.phase }, { on := 9, ground := Ground.phase }, { on := 10, ground := Ground.phase }, { on := 11, ground := Ground.phase }, { on := 12, ground := Ground.phase }, { on := 13, ground := Ground.phase }, { on := 14, ground := Ground.phase }, { on := 15, ground := Ground.textOnly Departure.lateStores }, { on := 16, ground := Ground.phase }, { on := 17, ground := Ground.phase }], guard := none }
def pe15o_19 : Oper := { dst := none, op := Op.store 77 (Operand.tmp 29) (Operand.tmp 121), type := 0, pos := "proofs.go:52", after := #[{ on := 17, ground := Ground.data }, { on := 15, ground := Ground.data }, { on := 18, ground := Ground.chain }, { on := 0, ground := Ground.phase }, { on := 1, ground := Ground.phase }, { on := 2, ground := Ground.phase }, { on := 3, ground := Ground.phase }, { on := 4, ground := Ground.phase }, { on := 5, ground := Ground.phase }, { on := 6, ground := Ground.phase }, { on := 7, ground := Ground.phase }, { on := 8, ground := Ground.phase }, { on := 9, ground := Ground.phase }, { on := 10, ground := Ground.phase }, { on := 11, ground := Ground.phase }, { on := 12, ground := Ground.phase }, { on := 13, ground := Ground.phase }, { on := 14, ground := Ground.phase }, { on := 15, ground := Ground.phase }, { on := 16, ground := Ground.phase }, { on := 17, ground := Ground.phase }, { on := 18, ground := Ground.phase }], guard := none }
def pe15o : Array Oper := #[pe15o_0, pe15o_1, pe15o_2, pe15o_3, pe15o_4, pe15o_5, pe15o_6, pe15o_7, pe15o_8, pe15o_9, pe15o_10, pe15o_11, pe15o_12, pe15o_13, pe15o_14, pe15o_15, pe15o_16, pe15o_17, pe15o_18, pe15o_19]
section
variable {Q : Exit → Act → World → Prop} {kk : Int} {T13 T26 A3 A4 A6 n c3 c4 c6 : Nat} {z c u v a1 a2 : E4} {b1 b2 : Nat → Nat → Nat} {fa fb : Nat → E4} {Xa Xb Xf Xh Xi Xj Xk Xl Xm Xo Xp Xq Xr Xs Xt Xu Xv Xw Xx Xy Xz Yb Yc Yd Ye Yf Yg Yh Yi Yj Yk Yl Ym Yn Yo Yp Yq Yr Ys Yt Yu Yv Yw Yx Yy Yz Za Zb Zc Zd Ze Zf Zg Zh Zi Zj Zk Zl Zm Zn Zo Zp Zq Zr Zs Zt Zu Zv Zw Zx Zy Zz Ua Ub Uc Ud Ue Uf Ug Uh Ui Uj Uk Ul Um Un Uo Up Uq Ur Us Ut Uu Uv Uw Ux Uy Uz Da Db Dc Dd De Df Dg Dh Di Dj Dk Dl Dm Dn Do Dp Dq Dr Ds Dt Du Dv Dw Dx Dy Dz Ja : Value} {W : World}
variable (hn1 : 1 ≤ n)
variable (cz0 : W.cell? ⟨T26, 0, none⟩ = some (.int .u64 z.x0)) (cz1 : W.cell? ⟨T26, 1, none⟩ = some (.int .u64 z.x1)) (cz2 : W.cell? ⟨T26, 2, none⟩ = some (.int .u64 z.x2)) (cz3 : W.cell? ⟨T26, 3, none⟩ = some (.int .u64 z.x3))
variable (cc0 : W.cell? ⟨T13, 0, none⟩ = some (.int .u64 c.x0)) (cc1 : W.cell? ⟨T13, 1, none⟩ = some (.int .u64 c.x1)) (cc2 : W.cell? ⟨T13, 2, none⟩ = some (.int .u64 c.x2)) (cc3 : W.cell? ⟨T13, 3, none⟩ = some (.int .u64 c.x3))
variable (C5 : Hid (∀ y, Below W.heap.size W y → Calls Tryz.prog 16 #[.agg #[.int .u64 z.x0, .int .u64 z.x1, .int .u64 z.x2, .int .u64 z.x3], .agg #[.int .u64 c.x0, .int .u64 c.x1, .int .u64 c.x2, .int .u64 c.x3]] y fun e w' => e = .returned (.agg #[.int .u64 u.x0, .int .u64 u.x1, .int .u64 u.x2, .int .u64 u.x3]) ∧ Below y.heap.size y w'))
variable (C6 : Hid (∀ y, Below W.heap.size W y → Calls Tryz.prog 32 #[.slice (some ⟨A4, 0, none⟩) n c4, .slice (some ⟨A3, 0, none⟩) n c3, .agg #[.int .u64 u.x0, .int .u64 u.x1, .int .u64 u.x2, .int .u64 u.x3]] y fun e w' => ∃ N6 : Nat, e = .returned (.agg #[.int .u64 u.x0, .int .u64 u.x1, .int .u64 u.x2, .int .u64 u.x3, .slice (some ⟨N6, 0, none⟩) n n]) ∧ y.heap.size ≤ N6 ∧ Rl w' N6 0 n fa ∧ Below y.heap.size y w'))
variable (C8 : Hid (∀ y, Below W.heap.size W y → Calls Tryz.prog 23 #[.agg #[.int .u64 c.x0, .int .u64 c.x1, .int .u64 c.x2, .int .u64 c.x3]] y fun e w' => e = .returned (.agg #[.int .u64 v.x0, .int .u64 v.x1, .int .u64 v.x2, .int .u64 v.x3]) ∧ Below y.heap.size y w'))
variable (C10 : Hid (∀ y, Below W.heap.size W y → Calls Tryz.prog 33 #[.slice (some ⟨A6, 0, none⟩) n c6] y fun e w' => ∃ N10 : Nat, e = .returned (.slice (some ⟨N10, 0, none⟩) n n) ∧ y.heap.size ≤ N10 ∧ Rl w' N10 0 n fb ∧ Below y.heap.size y w'))
variable (C12 : Hid (∀ y (N6 N10 : Nat), Below W.heap.size W y → Calls Tryz.prog 31 #[.int .i64 kk, .agg #[.int .u64 u.x0, .int .u64 u.x1, .int .u64 u.x2, .int .u64 u.x3, .slice (some ⟨N6, 0, none⟩) n n], .agg #[.int .u64 v.x0, .int .u64 v.x1, .int .u64 v.x2, .int .u64 v.x3, .slice (some ⟨N10, 0, none⟩) n n]] y fun e w' => e = .returned (.tuple #[.agg #[.int .u64 a1.x0, .int .u64 a1.x1, .int .u64 a1.x2, .int .u64 a1.x3, .slice (some ⟨(b1 N6 N10), 0, none⟩) n n], .agg #[.int .u64 a2.x0, .int .u64 a2.x1, .int .u64 a2.x2, .int .u64 a2.x3, .slice (some ⟨(b2 N6 N10), 0, none⟩) n n]]) ∧ Below y.heap.size y w'))
variable (HQ : Hid (∀ (N6 N10 A28 A29 : Nat) (wz : World), Below W.heap.size W wz → wz.rangeAt A28 0 [.int .u64 a1.x0, .int .u64 a1.x1, .int .u64 a1.x2, .int .u64 a1.x3, .slice (some ⟨(b1 N6 N10), 0, none⟩) n n] → wz.rangeAt A29 0 [.int .u64 a2.x0, .int .u64 a2.x1, .int .u64 a2.x2, .int .u64 a2.x3, .slice (some ⟨(b2 N6 N10), 0, none⟩) n n] → Rl wz N6 0 n fa → Rl wz N10 0 n fb → W.heap.size ≤ A28 → W.heap.size ≤ A29 → W.heap.size ≤ N6 → W.heap.size ≤ N10 → Q .normal ⟨#[Xa, Xb, .int .i64 kk, .slice (some ⟨A3, 0, none⟩) n c3, .slice (some ⟨A4, 0, none⟩) n c4, Xf, .slice (some ⟨A6, 0, none⟩) n c6, Xh, Xi, Xj, Xk, Xl, Xm, .pointer (some ⟨T13, 0, none⟩), Xo, Xp, Xq, Xr, Xs, Xt, Xu, Xv, Xw, Xx, Xy, Xz, .pointer (some ⟨T26, 0, none⟩), Yb, .pointer (some ⟨A28, 0, none⟩), .pointer (some ⟨A29, 0, none⟩), Ye, Yf, Yg, Yh, Yi, Yj, Yk, Yl, Ym, Yn, Yo, Yp, Yq, Yr, Ys, Yt, Yu, Yv, Yw, Yx, Yy, Yz, Za, Zb, Zc, Zd, Ze, Zf, Zg, Zh, Zi, Zj, Zk, Zl, Zm, Zn, Zo, Zp, Zq, Zr, Zs, Zt, Zu, Zv, Zw, Zx, Zy, Zz, Ua, Ub, Uc, Ud, Ue, Uf, Ug, Uh, Ui, Uj, Uk, Ul, Um, Un, Uo, Up, Uq, Ur, Us, Ut, Uu, Uv, Uw, Ux, Uy, Uz, Da, Db, .tuple #[.agg #[.int .u64 a1.x0, .int .u64 a1.x1, .int .u64 a1.x2, .int .u64 a1.x3, .slice (some ⟨(b1 N6 N10), 0, none⟩) n n], .agg #[.int .u64 a2.x0, .int .u64 a2.x1, .int .u64 a2.x2, .int .u64 a2.x3, .slice (some ⟨(b2 N6 N10), 0, none⟩) n n]], .int .i64 kk, .slice (some ⟨A4, 0, none⟩) n c4, .slice (some ⟨A3, 0, none⟩) n c3, .agg #[.int .u64 z.x0, .int .u64 z.x1, .int .u64 z.x2, .int .u64 z.x3], .agg #[.int .u64 c.x0, .int .u64 c.x1, .int .u64 c.x2, .int .u64 c.x3], .agg #[.int .u64 u.x0, .int .u64 u.x1, .int .u64 u.x2, .int .u64 u.x3], .agg #[.int .u64 u.x0, .int .u64 u.x1, .int .u64 u.x2, .int .u64 u.x3, .slice (some ⟨N6, 0, none⟩) n n], .agg #[.int .u64 c.x0, .int .u64 c.x1, .int .u64 c.x2, .int .u64 c.x3], .agg #[.int .u64 v.x0, .int .u64 v.x1, .int .u64 v.x2, .int .u64 v.x3], .slice (some ⟨A6, 0, none⟩) n c6, .slice (some ⟨N10, 0, none⟩) n n, .agg #[.int .u64 v.x0, .int .u64 v.x1, .int .u64 v.x2, .int .u64 v.x3, .slice (some ⟨N10, 0, none⟩) n n], .tuple #[.agg #[.int .u64 a1.x0, .int .u64 a1.x1, .int .u64 a1.x2, .int .u64 a1.x3, .slice (some ⟨(b1 N6 N10), 0, none⟩) n n], .agg #[.int .u64 a2.x0, .int .u64 a2.x1, .int .u64 a2.x2, .int .u64 a2.x3, .slice (some ⟨(b2 N6 N10), 0, none⟩) n n]], .agg #[.int .u64 a1.x0, .int .u64 a1.x1, .int .u64 a1.x2, .int .u64 a1.x3, .slice (some ⟨(b1 N6 N10), 0, none⟩) n n], .agg #[.int .u64 a2.x0, .int .u64 a2.x1, .int .u64 a2.x2, .int .u64 a2.x3, .slice (some ⟨(b2 N6 N10), 0, none⟩) n n], Ds, Dt, Du, Dv, Dw, Dx, Dy, Dz, Ja], []⟩ wz))
variable {N6 N10 A28 A29 : Nat}
def pe15_s9 (w : World) (hH0 : Below W.heap.size W w) (RA : Hid (Rl w N6 0 n fa)) (GE6 : Hid (W.heap.size ≤ N6)) (RB : Hid (Rl w N10 0 n fb)) (GE10 : Hid (W.heap.size ≤ N10)) (TH28 : Hid (w.there A28 0 5)) (R28 : Hid (w.rangeAt A28 0 [.int .u64 a1.x0, .int .u64 a1.x1, .int .u64 a1.x2, .int .u64 a1.x3, .slice (some ⟨(b1 N6 N10), 0, none⟩) n n])) (GE28 : Hid (W.heap.size ≤ A28)) (TH29 : Hid (w.there A29 0 5)) (R29 : Hid (w.rangeAt A29 0 [.int .u64 a2.x0, .int .u64 a2.x1, .int .u64 a2.x2, .int .u64 a2.x3, .slice (some ⟨(b2 N6 N10), 0, none⟩) n n])) (GE29 : Hid (W.heap.size ≤ A29)) (NE628 : Hid (N6 ≠ A28)) (NE629 : Hid (N6 ≠ A29)) (NE1028 : Hid (N10 ≠ A28)) (NE1029 : Hid (N10 ≠ A29)) (NE89 : Hid (A28 ≠ A29)) : wpAnyH Tryz.prog .any pe15o (NoPanic Q) (fun x => Below W.heap.size W x) 0 #[true, true, true, true, true, true, true, true, true, true, true, true, true, true, true, true, true, true, true, true] ⟨#[Xa, Xb, .int .i64 kk, .slice (some ⟨A3, 0, none⟩) n c3, .slice (some ⟨A4, 0, none⟩) n c4, Xf, .slice (some ⟨A6, 0, none⟩) n c6, Xh, Xi, Xj, Xk, Xl, Xm, .pointer (some ⟨T13, 0, none⟩), Xo, Xp, Xq, Xr, Xs, Xt, Xu, Xv, Xw, Xx, Xy, Xz, .pointer (some ⟨T26, 0, none⟩), Yb, .pointer (some ⟨A28, 0, none⟩), .pointer (some ⟨A29, 0, none⟩), Ye, Yf, Yg, Yh, Yi, Yj, Yk, Yl, Ym, Yn, Yo, Yp, Yq, Yr, Ys, Yt, Yu, Yv, Yw, Yx, Yy, Yz, Za, Zb, Zc, Zd, Ze, Zf, Zg, Zh, Zi, Zj, Zk, Zl, Zm, Zn, Zo, Zp, Zq, Zr, Zs, Zt, Zu, Zv, Zw, Zx, Zy, Zz, Ua, Ub, Uc, Ud, Ue, Uf, Ug, Uh, Ui, Uj, Uk, Ul, Um, Un, Uo, Up, Uq, Ur, Us, Ut, Uu, Uv, Uw, Ux, Uy, Uz, Da, Db, .tuple #[.agg #[.int .u64 a1.x0, .int .u64 a1.x1, .int .u64 a1.x2, .int .u64 a1.x3, .slice (some ⟨(b1 N6 N10), 0, none⟩) n n], .agg #[.int .u64 a2.x0, .int .u64 a2.x1, .int .u64 a2.x2, .int .u64 a2.x3, .slice (some ⟨(b2 N6 N10), 0, none⟩) n n]], .int .i64 kk, .slice (some ⟨A4, 0, none⟩) n c4, .slice (some ⟨A3, 0, none⟩) n c3, z.v, c.v, u.v, .agg #[.int .u64 u.x0, .int .u64 u.x1, .int .u64 u.x2, .int .u64 u.x3, .slice (some ⟨N6, 0, none⟩) n n], c.v, v.v, .slice (some ⟨A6, 0, none⟩) n c6, .slice (some ⟨N10, 0, none⟩) n n, .agg #[.int .u64 v.x0, .int .u64 v.x1, .int .u64 v.x2, .int .u64 v.x3, .slice (some ⟨N10, 0, none⟩) n n], .tuple #[.agg #[.int .u64 a1.x0, .int .u64 a1.x1, .int .u64 a1.x2, .int .u64 a1.x3, .slice (some ⟨(b1 N6 N10), 0, none⟩) n n], .agg #[.int .u64 a2.x0, .int .u64 a2.x1, .int .u64 a2.x2, .int .u64 a2.x3, .slice (some ⟨(b2 N6 N10), 0, none⟩) n n]], .agg #[.int .u64 a1.x0, .int .u64 a1.x1, .int .u64 a1.x2, .int .u64 a1.x3, .slice (some ⟨(b1 N6 N10), 0, none⟩) n n], .agg #[.int .u64 a2.x0, .int .u64 a2.x1, .int .u64 a2.x2, .int .u64 a2.x3, .slice (some ⟨(b2 N6 N10), 0, none⟩) n n], Ds, Dt, Du, Dv, Dw, Dx, Dy, Dz, Ja], []⟩ w := by
 have zz := And.intro hn1 (And.intro cz0 (And.intro cz1 (And.intro cz2 (And.intro cz3 (And.intro cc0 (And.intro cc1 (And.intro cc2 (And.intro cc3 (And.intro C5 (And.intro C6 (And.intro C8 (And.intro C10 (And.intro C12 (HQ))))))))))))))
 clear zz
 unfold E4.v
 have HH := hidden hH0
 have FQ := hidden (HQ.out N6 N10 A28 A29 _ HH.out R28.out R29.out RA.out RB.out GE28.out GE29.out GE6.out GE10.out)
 refine wpAnyH_done (by kernel_rfl) ?_ _
 refine NoPanic.normal ?_
 exact FQ.out
def pe15_s8 (w : World) (hH0 : Below W.heap.size W w) (RA : Hid (Rl w N6 0 n fa)) (GE6 : Hid (W.heap.size ≤ N6)) (RB : Hid (Rl w N10 0 n fb)) (GE10 : Hid (W.heap.size ≤ N10)) (TH28 : Hid (w.there A28 0 5)) (R28 : Hid (w.rangeAt A28 0 [.int .u64 a1.x0, .int .u64 a1.x1, .int .u64 a1.x2, .int .u64 a1.x3, .slice (some ⟨(b1 N6 N10), 0, none⟩) n n])) (GE28 : Hid (W.heap.size ≤ A28)) (TH29 : Hid (w.there A29 0 5)) (R29 : Hid (w.rangeAt A29 0 [.int .u64 0, .int .u64 0, .int .u64 0, .int .u64 0, .slice none 0 0])) (GE29 : Hid (W.heap.size ≤ A29)) (NE628 : Hid (N6 ≠ A28)) (NE629 : Hid (N6 ≠ A29)) (NE1028 : Hid (N10 ≠ A28)) (NE1029 : Hid (N10 ≠ A29)) (NE89 : Hid (A28 ≠ A29)) : wpAnyH Tryz.prog .any pe15o (NoPanic Q) (fun x => Below W.heap.size W x) 1 #[true, true, true, true, true, true, true, true, true, true, true, true, true, true, true, true, true, true, true, false] ⟨#[Xa, Xb, .int .i64 kk, .slice (some ⟨A3, 0, none⟩) n c3, .slice (some ⟨A4, 0, none⟩) n c4, Xf, .slice (some ⟨A6, 0, none⟩) n c6, Xh, Xi, Xj, Xk, Xl, Xm, .pointer (some ⟨T13, 0, none⟩), Xo, Xp, Xq, Xr, Xs, Xt, Xu, Xv, Xw, Xx, Xy, Xz, .pointer (some ⟨T26, 0, none⟩), Yb, .pointer (some ⟨A28, 0, none⟩), .pointer (some ⟨A29, 0, none⟩), Ye, Yf, Yg, Yh, Yi, Yj, Yk, Yl, Ym, Yn, Yo, Yp, Yq, Yr, Ys, Yt, Yu, Yv, Yw, Yx, Yy, Yz, Za, Zb, Zc, Zd, Ze, Zf, Zg, Zh, Zi, Zj, Zk, Zl, Zm, Zn, Zo, Zp, Zq, Zr, Zs, Zt, Zu, Zv, Zw, Zx, Zy, Zz, Ua, Ub, Uc, Ud, Ue, Uf, Ug, Uh, Ui, Uj, Uk, Ul, Um, Un, Uo, Up, Uq, Ur, Us, Ut, Uu, Uv, Uw, Ux, Uy, Uz, Da, Db, .tuple #[.agg #[.int .u64 a1.x0, .int .u64 a1.x1, .int .u64 a1.x2, .int .u64 a1.x3, .slice (some ⟨(b1 N6 N10), 0, none⟩) n n], .agg #[.int .u64 a2.x0, .int .u64 a2.x1, .int .u64 a2.x2, .int .u64 a2.x3, .slice (some ⟨(b2 N6 N10), 0, none⟩) n n]], .int .i64 kk, .slice (some ⟨A4, 0, none⟩) n c4, .slice (some ⟨A3, 0, none⟩) n c3, z.v, c.v, u.v, .agg #[.int .u64 u.x0, .int .u64 u.x1, .int .u64 u.x2, .int .u64 u.x3, .slice (some ⟨N6, 0, none⟩) n n], c.v, v.v, .slice (some ⟨A6, 0, none⟩) n c6, .slice (some ⟨N10, 0, none⟩) n n, .agg #[.int .u64 v.x0, .int .u64 v.x1, .int .u64 v.x2, .int .u64 v.x3, .slice (some ⟨N10, 0, none⟩) n n], .tuple #[.agg #[.int .u64 a1.x0, .int .u64 a1.x1, .int .u64 a1.x2, .int .u64 a1.x3, .slice (some ⟨(b1 N6 N10), 0, none⟩) n n], .agg #[.int .u64 a2.x0, .int .u64 a2.x1, .int .u64 a2.x2, .int .u64 a2.x3, .slice (some ⟨(b2 N6 N10), 0, none⟩) n n]], .agg #[.int .u64 a1.x0, .int .u64 a1.x1, .int .u64 a1.x2, .int .u64 a1.x3, .slice (some ⟨(b1 N6 N10), 0, none⟩) n n], .agg #[.int .u64 a2.x0, .int .u64 a2.x1, .int .u64 a2.x2, .int .u64 a2.x3, .slice (some ⟨(b2 N6 N10), 0, none⟩) n n], Ds, Dt, Du, Dv, Dw, Dx, Dy, Dz, Ja], []⟩ w := by
 unfold E4.v
 refine wpAnyH_ready (rs := [19]) (by kernel_rfl) (by simp) ?_
 refine AllReadyH.cons (o := pe15o_19) rfl (fun K hK => ?_) AllReadyH.nil
 unfold pe15o_19
 have HH := hidden hH0
 clear hH0
 refine wp_storeE 77 _ _ rfl A29 0 ([.int .u64 a2.x0, .int .u64 a2.x1, .int .u64 a2.x2, .int .u64 a2.x3, .slice (some ⟨(b2 N6 N10), 0, none⟩) n n]) (by rfl) (by rfl) TH29.out pinfo5 (one5 a2 (some ⟨b2 N6 N10, 0, none⟩) n n) rfl (fun wn1 hw => ?_)
 have SN := hidden (below_trans HH.out (below_grown (gb_setCells A29 [.int .u64 a2.x0, .int .u64 a2.x1, .int .u64 a2.x2, .int .u64 a2.x3, .slice (some ⟨(b2 N6 N10), 0, none⟩) n n] 0 _) HH.out.size (fun k hk => (Option.some.inj hk) ▸ GE29.out)))
 replace RA := hidden (rl_gb RA.out (gb_setCells A29 [.int .u64 a2.x0, .int .u64 a2.x1, .int .u64 a2.x2, .int .u64 a2.x3, .slice (some ⟨(b2 N6 N10), 0, none⟩) n n] 0 _) NE629.out)
 replace RB := hidden (rl_gb RB.out (gb_setCells A29 [.int .u64 a2.x0, .int .u64 a2.x1, .int .u64 a2.x2, .int .u64 a2.x3, .slice (some ⟨(b2 N6 N10), 0, none⟩) n n] 0 _) NE1029.out)
 replace R29 := hidden (World.rangeAt_setCells_same _ A29 0 [.int .u64 a2.x0, .int .u64 a2.x1, .int .u64 a2.x2, .int .u64 a2.x3, .slice (some ⟨(b2 N6 N10), 0, none⟩) n n] TH29.out)
 replace R28 := hidden (World.rangeAt_setCells_apart R28.out A29 0 [.int .u64 a2.x0, .int .u64 a2.x1, .int .u64 a2.x2, .int .u64 a2.x3, .slice (some ⟨(b2 N6 N10), 0, none⟩) n n] (.inl (by have := NE89.out; omega)))
 replace TH28 := hidden (there_set TH28.out A29 0 [.int .u64 a2.x0, .int .u64 a2.x1, .int .u64 a2.x2, .int .u64 a2.x3, .slice (some ⟨(b2 N6 N10), 0, none⟩) n n])
 replace TH29 := hidden (there_set TH29.out A29 0 [.int .u64 a2.x0, .int .u64 a2.x1, .int .u64 a2.x2, .int .u64 a2.x3, .slice (some ⟨(b2 N6 N10), 0, none⟩) n n])
 rw [← hw] at SN RA RB R29 R28 TH28 TH29
 clear HH hw
 refine hK.out _ _ SN.out (fun hH1 => ?_)
 clear hK K SN
 exact pe15_s9 hn1 cz0 cz1 cz2 cz3 cc0 cc1 cc2 cc3 C5 C6 C8 C10 C12 HQ _ hH1 RA GE6 RB GE10 TH28 R28 GE28 TH29 R29 GE29 NE628 NE629 NE1028 NE1029 NE89
def pe15_s7 (w : World) (hH0 : Below W.heap.size W w) (RA : Hid (Rl w N6 0 n fa)) (GE6 : Hid (W.heap.size ≤ N6)) (RB : Hid (Rl w N10 0 n fb)) (GE10 : Hid (W.heap.size ≤ N10)) (TH28 : Hid (w.there A28 0 5)) (R28 : Hid (w.rangeAt A28 0 [.int .u64 0, .int .u64 0, .int .u64 0, .int .u64 0, .slice none 0 0])) (GE28 : Hid (W.heap.size ≤ A28)) (TH29 : Hid (w.there A29 0 5)) (R29 : Hid (w.rangeAt A29 0 [.int .u64 0, .int .u64 0, .int .u64 0, .int .u64 0, .slice none 0 0])) (GE29 : Hid (W.heap.size ≤ A29)) (NE628 : Hid (N6 ≠ A28)) (NE629 : Hid (N6 ≠ A29)) (NE1028 : Hid (N10 ≠ A28)) (NE1029 : Hid (N10 ≠ A29)) (NE89 : Hid (A28 ≠ A29)) : wpAnyH Tryz.prog .any pe15o (NoPanic Q) (fun x => Below W.heap.size W x) 2 #[true, true, true, true, true, true, true, true, true, true, true, true, true, true, true, true, true, true, false, false] ⟨#[Xa, Xb, .int .i64 kk, .slice (some ⟨A3, 0, none⟩) n c3, .slice (some ⟨A4, 0, none⟩) n c4, Xf, .slice (some ⟨A6, 0, none⟩) n c6, Xh, Xi, Xj, Xk, Xl, Xm, .pointer (some ⟨T13, 0, none⟩), Xo, Xp, Xq, Xr, Xs, Xt, Xu, Xv, Xw, Xx, Xy, Xz, .pointer (some ⟨T26, 0, none⟩), Yb, .pointer (some ⟨A28, 0, none⟩), .pointer (some ⟨A29, 0, none⟩), Ye, Yf, Yg, Yh, Yi, Yj, Yk, Yl, Ym, Yn, Yo, Yp, Yq, Yr, Ys, Yt, Yu, Yv, Yw, Yx, Yy, Yz, Za, Zb, Zc, Zd, Ze, Zf, Zg, Zh, Zi, Zj, Zk, Zl, Zm, Zn, Zo, Zp, Zq, Zr, Zs, Zt, Zu, Zv, Zw, Zx, Zy, Zz, Ua, Ub, Uc, Ud, Ue, Uf, Ug, Uh, Ui, Uj, Uk, Ul, Um, Un, Uo, Up, Uq, Ur, Us, Ut, Uu, Uv, Uw, Ux, Uy, Uz, Da, Db, .tuple #[.agg #[.int .u64 a1.x0, .int .u64 a1.x1, .int .u64 a1.x2, .int .u64 a1.x3, .slice (some ⟨(b1 N6 N10), 0, none⟩) n n], .agg #[.int .u64 a2.x0, .int .u64 a2.x1, .int .u64 a2.x2, .int .u64 a2.x3, .slice (some ⟨(b2 N6 N10), 0, none⟩) n n]], .int .i64 kk, .slice (some ⟨A4, 0, none⟩) n c4, .slice (some ⟨A3, 0, none⟩) n c3, z.v, c.v, u.v, .agg #[.int .u64 u.x0, .int .u64 u.x1, .int .u64 u.x2, .int .u64 u.x3, .slice (some ⟨N6, 0, none⟩) n n], c.v, v.v, .slice (some ⟨A6, 0, none⟩) n c6, .slice (some ⟨N10, 0, none⟩) n n, .agg #[.int .u64 v.x0, .int .u64 v.x1, .int .u64 v.x2, .int .u64 v.x3, .slice (some ⟨N10, 0, none⟩) n n], .tuple #[.agg #[.int .u64 a1.x0, .int .u64 a1.x1, .int .u64 a1.x2, .int .u64 a1.x3, .slice (some ⟨(b1 N6 N10), 0, none⟩) n n], .agg #[.int .u64 a2.x0, .int .u64 a2.x1, .int .u64 a2.x2, .int .u64 a2.x3, .slice (some ⟨(b2 N6 N10), 0, none⟩) n n]], .agg #[.int .u64 a1.x0, .int .u64 a1.x1, .int .u64 a1.x2, .int .u64 a1.x3, .slice (some ⟨(b1 N6 N10), 0, none⟩) n n], .agg #[.int .u64 a2.x0, .int .u64 a2.x1, .int .u64 a2.x2, .int .u64 a2.x3, .slice (some ⟨(b2 N6 N10), 0, none⟩) n n], Ds, Dt, Du, Dv, Dw, Dx, Dy, Dz, Ja], []⟩ w := by
 unfold E4.v
 refine wpAnyH_ready (rs := [18]) (by kernel_rfl) (by simp) ?_
 refine AllReadyH.cons (o := pe15o_18) rfl (fun K hK => ?_) AllReadyH.nil
 unfold pe15o_18
 have HH := hidden hH0
 clear hH0
 refine wp_storeE 77 _ _ rfl A28 0 ([.int .u64 a1.x0, .int .u64 a1.x1, .int .u64 a1.x2, .int .u64 a1.x3, .slice (some ⟨(b1 N6 N10), 0, none⟩) n n]) (by rfl) (by rfl) TH28.out pinfo5 (one5 a1 (some ⟨b1 N6 N10, 0, none⟩) n n) rfl (fun wn1 hw => ?_)
 have SN := hidden (below_trans HH.out (below_grown (gb_setCells A28 [.int .u64 a1.x0, .int .u64 a1.x1, .int .u64 a1.x2, .int .u64 a1.x3, .slice (some ⟨(b1 N6 N10), 0, none⟩) n n] 0 _) HH.out.size (fun k hk => (Option.some.inj hk) ▸ GE28.out)))
 replace RA := hidden (rl_gb RA.out (gb_setCells A28 [.int .u64 a1.x0, .int .u64 a1.x1, .int .u64 a1.x2, .int .u64 a1.x3, .slice (some ⟨(b1 N6 N10), 0, none⟩) n n] 0 _) NE628.out)
 replace RB := hidden (rl_gb RB.out (gb_setCells A28 [.int .u64 a1.x0, .int .u64 a1.x1, .int .u64 a1.x2, .int .u64 a1.x3, .slice (some ⟨(b1 N6 N10), 0, none⟩) n n] 0 _) NE1028.out)
 replace R28 := hidden (World.rangeAt_setCells_same _ A28 0 [.int .u64 a1.x0, .int .u64 a1.x1, .int .u64 a1.x2, .int .u64 a1.x3, .slice (some ⟨(b1 N6 N10), 0, none⟩) n n] TH28.out)
 replace R29 := hidden (World.rangeAt_setCells_apart R29.out A28 0 [.int .u64 a1.x0, .int .u64 a1.x1, .int .u64 a1.x2, .int .u64 a1.x3, .slice (some ⟨(b1 N6 N10), 0, none⟩) n n] (.inl (by have := NE89.out; omega)))
 replace TH28 := hidden (there_set TH28.out A28 0 [.int .u64 a1.x0, .int .u64 a1.x1, .int .u64 a1.x2, .int .u64 a1.x3, .slice (some ⟨(b1 N6 N10), 0, none⟩) n n])
 replace TH29 := hidden (there_set TH29.out A28 0 [.int .u64 a1.x0, .int .u64 a1.x1, .int .u64 a1.x2, .int .u64 a1.x3, .slice (some ⟨(b1 N6 N10), 0, none⟩) n n])
 rw [← hw] at SN RA RB R28 R29 TH28 TH29
 clear HH hw
 refine hK.out _ _ SN.out (fun hH1 => ?_)
 clear hK K SN
 exact pe15_s8 hn1 cz0 cz1 cz2 cz3 cc0 cc1 cc2 cc3 C5 C6 C8 C10 C12 HQ _ hH1 RA GE6 RB GE10 TH28 R28 GE28 TH29 R29 GE29 NE628 NE629 NE1028 NE1029 NE89
def pe15_s6 (w : World) (hH0 : Below W.heap.size W w) (RA : Hid (Rl w N6 0 n fa)) (GE6 : Hid (W.heap.size ≤ N6)) (RB : Hid (Rl w N10 0 n fb)) (GE10 : Hid (W.heap.size ≤ N10)) (TH28 : Hid (w.there A28 0 5)) (R28 : Hid (w.rangeAt A28 0 [.int .u64 0, .int .u64 0, .int .u64 0, .int .u64 0, .slice none 0 0])) (GE28 : Hid (W.heap.size ≤ A28)) (NE628 : Hid (N6 ≠ A28)) (NE1028 : Hid (N10 ≠ A28)) : wpAnyH Tryz.prog .any pe15o (NoPanic Q) (fun x => Below W.heap.size W x) 3 #[true, true, true, true, true, true, true, true, true, true, true, true, true, true, true, true, true, false, false, false] ⟨#[Xa, Xb, .int .i64 kk, .slice (some ⟨A3, 0, none⟩) n c3, .slice (some ⟨A4, 0, none⟩) n c4, Xf, .slice (some ⟨A6, 0, none⟩) n c6, Xh, Xi, Xj, Xk, Xl, Xm, .pointer (some ⟨T13, 0, none⟩), Xo, Xp, Xq, Xr, Xs, Xt, Xu, Xv, Xw, Xx, Xy, Xz, .pointer (some ⟨T26, 0, none⟩), Yb, .pointer (some ⟨A28, 0, none⟩), Yd, Ye, Yf, Yg, Yh, Yi, Yj, Yk, Yl, Ym, Yn, Yo, Yp, Yq, Yr, Ys, Yt, Yu, Yv, Yw, Yx, Yy, Yz, Za, Zb, Zc, Zd, Ze, Zf, Zg, Zh, Zi, Zj, Zk, Zl, Zm, Zn, Zo, Zp, Zq, Zr, Zs, Zt, Zu, Zv, Zw, Zx, Zy, Zz, Ua, Ub, Uc, Ud, Ue, Uf, Ug, Uh, Ui, Uj, Uk, Ul, Um, Un, Uo, Up, Uq, Ur, Us, Ut, Uu, Uv, Uw, Ux, Uy, Uz, Da, Db, .tuple #[.agg #[.int .u64 a1.x0, .int .u64 a1.x1, .int .u64 a1.x2, .int .u64 a1.x3, .slice (some ⟨(b1 N6 N10), 0, none⟩) n n], .agg #[.int .u64 a2.x0, .int .u64 a2.x1, .int .u64 a2.x2, .int .u64 a2.x3, .slice (some ⟨(b2 N6 N10), 0, none⟩) n n]], .int .i64 kk, .slice (some ⟨A4, 0, none⟩) n c4, .slice (some ⟨A3, 0, none⟩) n c3, z.v, c.v, u.v, .agg #[.int .u64 u.x0, .int .u64 u.x1, .int .u64 u.x2, .int .u64 u.x3, .slice (some ⟨N6, 0, none⟩) n n], c.v, v.v, .slice (some ⟨A6, 0, none⟩) n c6, .slice (some ⟨N10, 0, none⟩) n n, .agg #[.int .u64 v.x0, .int .u64 v.x1, .int .u64 v.x2, .int .u64 v.x3, .slice (some ⟨N10, 0, none⟩) n n], .tuple #[.agg #[.int .u64 a1.x0, .int .u64 a1.x1, .int .u64 a1.x2, .int .u64 a1.x3, .slice (some ⟨(b1 N6 N10), 0, none⟩) n n], .agg #[.int .u64 a2.x0, .int .u64 a2.x1, .int .u64 a2.x2, .int .u64 a2.x3, .slice (some ⟨(b2 N6 N10), 0, none⟩) n n]], .agg #[.int .u64 a1.x0, .int .u64 a1.x1, .int .u64 a1.x2, .int .u64 a1.x3, .slice (some ⟨(b1 N6 N10), 0, none⟩) n n], .agg #[.int .u64 a2.x0, .int .u64 a2.x1, .int .u64 a2.x2, .int .u64 a2.x3, .slice (some ⟨(b2 N6 N10), 0, none⟩) n n], Ds, Dt, Du, Dv, Dw, Dx, Dy, Dz, Ja], []⟩ w := by
 unfold E4.v
 refine wpAnyH_ready (rs := [17]) (by kernel_rfl) (by simp) ?_
 refine AllReadyH.cons (o := pe15o_17) rfl (fun K hK => ?_) AllReadyH.nil
 unfold pe15o_17
 have HH := hidden hH0
 clear hH0
 refine wp_allocP rfl (fun A29 wn1 hA hb hth hrg => ?_)
 have NE629 := hidden ((fun e => by have := rl_lt RA.out hn1; omega : N6 ≠ A29))
 have NE1029 := hidden ((fun e => by have := rl_lt RB.out hn1; omega : N10 ≠ A29))
 have NE89 := hidden ((fun e => by have := there_lt TH28.out; omega : A28 ≠ A29))
 replace RA := hidden (RA.out.keep hb)
 replace RB := hidden (RB.out.keep hb)
 replace TH28 := hidden (Li.there_bl TH28.out hb)
 replace R28 := hidden (range_bl R28.out hb)
 have GE29 := hidden ((by have := HH.out.size; omega : W.heap.size ≤ A29))
 have TH29 := hidden (hth)
 have R29 := hidden (hrg)
 have SN := hidden (bl_trans HH.out hb)
 clear HH hA hb hth hrg
 simp only [Act.put, sA, sB, sC]
 refine hK.out _ _ SN.out (fun hH1 => ?_)
 clear hK K SN
 exact pe15_s7 hn1 cz0 cz1 cz2 cz3 cc0 cc1 cc2 cc3 C5 C6 C8 C10 C12 HQ _ hH1 RA GE6 RB GE10 TH28 R28 GE28 TH29 R29 GE29 NE628 NE629 NE1028 NE1029 NE89
def pe15_s10 (w : World) (hH0 : Below W.heap.size W w) (RA : Hid (Rl w N6 0 n fa)) (GE6 : Hid (W.heap.size ≤ N6)) (RB : Hid (Rl w N10 0 n fb)) (GE10 : Hid (W.heap.size ≤ N10)) (TH29 : Hid (w.there A29 0 5)) (R29 : Hid (w.rangeAt A29 0 [.int .u64 0, .int .u64 0, .int .u64 0, .int .u64 0, .slice none 0 0])) (GE29 : Hid (W.heap.size ≤ A29)) (NE629 : Hid (N6 ≠ A29)) (NE1029 : Hid (N10 ≠ A29)) : wpAnyH Tryz.prog .any pe15o (NoPanic Q) (fun x => Below W.heap.size W x) 3 #[true, true, true, true, true, true, true, true, true, true, true, true, true, true, true, true, false, true, false, false] ⟨#[Xa, Xb, .int .i64 kk, .slice (some ⟨A3, 0, none⟩) n c3, .slice (some ⟨A4, 0, none⟩) n c4, Xf, .slice (some ⟨A6, 0, none⟩) n c6, Xh, Xi, Xj, Xk, Xl, Xm, .pointer (some ⟨T13, 0, none⟩), Xo, Xp, Xq, Xr, Xs, Xt, Xu, Xv, Xw, Xx, Xy, Xz, .pointer (some ⟨T26, 0, none⟩), Yb, Yc, .pointer (some ⟨A29, 0, none⟩), Ye, Yf, Yg, Yh, Yi, Yj, Yk, Yl, Ym, Yn, Yo, Yp, Yq, Yr, Ys, Yt, Yu, Yv, Yw, Yx, Yy, Yz, Za, Zb, Zc, Zd, Ze, Zf, Zg, Zh, Zi, Zj, Zk, Zl, Zm, Zn, Zo, Zp, Zq, Zr, Zs, Zt, Zu, Zv, Zw, Zx, Zy, Zz, Ua, Ub, Uc, Ud, Ue, Uf, Ug, Uh, Ui, Uj, Uk, Ul, Um, Un, Uo, Up, Uq, Ur, Us, Ut, Uu, Uv, Uw, Ux, Uy, Uz, Da, Db, .tuple #[.agg #[.int .u64 a1.x0, .int .u64 a1.x1, .int .u64 a1.x2, .int .u64 a1.x3, .slice (some ⟨(b1 N6 N10), 0, none⟩) n n], .agg #[.int .u64 a2.x0, .int .u64 a2.x1, .int .u64 a2.x2, .int .u64 a2.x3, .slice (some ⟨(b2 N6 N10), 0, none⟩) n n]], .int .i64 kk, .slice (some ⟨A4, 0, none⟩) n c4, .slice (some ⟨A3, 0, none⟩) n c3, z.v, c.v, u.v, .agg #[.int .u64 u.x0, .int .u64 u.x1, .int .u64 u.x2, .int .u64 u.x3, .slice (some ⟨N6, 0, none⟩) n n], c.v, v.v, .slice (some ⟨A6, 0, none⟩) n c6, .slice (some ⟨N10, 0, none⟩) n n, .agg #[.int .u64 v.x0, .int .u64 v.x1, .int .u64 v.x2, .int .u64 v.x3, .slice (some ⟨N10, 0, none⟩) n n], .tuple #[.agg #[.int .u64 a1.x0, .int .u64 a1.x1, .int .u64 a1.x2, .int .u64 a1.x3, .slice (some ⟨(b1 N6 N10), 0, none⟩) n n], .agg #[.int .u64 a2.x0, .int .u64 a2.x1, .int .u64 a2.x2, .int .u64 a2.x3, .slice (some ⟨(b2 N6 N10), 0, none⟩) n n]], .agg #[.int .u64 a1.x0, .int .u64 a1.x1, .int .u64 a1.x2, .int .u64 a1.x3, .slice (some ⟨(b1 N6 N10), 0, none⟩) n n], .agg #[.int .u64 a2.x0, .int .u64 a2.x1, .int .u64 a2.x2, .int .u64 a2.x3, .slice (some ⟨(b2 N6 N10), 0, none⟩) n n], Ds, Dt, Du, Dv, Dw, Dx, Dy, Dz, Ja], []⟩ w := by
 unfold E4.v
 refine wpAnyH_ready (rs := [16]) (by kernel_rfl) (by simp) ?_
 refine AllReadyH.cons (o := pe15o_16) rfl (fun K hK => ?_) AllReadyH.nil
 unfold pe15o_16
 have HH := hidden hH0
 clear hH0
 refine wp_allocP rfl (fun A28 wn1 hA hb hth hrg => ?_)
 have NE628 := hidden ((fun e => by have := rl_lt RA.out hn1; omega : N6 ≠ A28))
 have NE1028 := hidden ((fun e => by have := rl_lt RB.out hn1; omega : N10 ≠ A28))
 have NE89 := hidden ((fun e => by have := there_lt TH29.out; omega : A28 ≠ A29))
 replace RA := hidden (RA.out.keep hb)
 replace RB := hidden (RB.out.keep hb)
 replace TH29 := hidden (Li.there_bl TH29.out hb)
 replace R29 := hidden (range_bl R29.out hb)
 have GE28 := hidden ((by have := HH.out.size; omega : W.heap.size ≤ A28))
 have TH28 := hidden (hth)
 have R28 := hidden (hrg)
 have SN := hidden (bl_trans HH.out hb)
 clear HH hA hb hth hrg
 simp only [Act.put, sA, sB, sC]
 refine hK.out _ _ SN.out (fun hH1 => ?_)
 clear hK K SN
 exact pe15_s7 hn1 cz0 cz1 cz2 cz3 cc0 cc1 cc2 cc3 C5 C6 C8 C10 C12 HQ _ hH1 RA GE6 RB GE10 TH28 R28 GE28 TH29 R29 GE29 NE628 NE629 NE1028 NE1029 NE89
def pe15_s5 (w : World) (hH0 : Below W.heap.size W w) (RA : Hid (Rl w N6 0 n fa)) (GE6 : Hid (W.heap.size ≤ N6)) (RB : Hid (Rl w N10 0 n fb)) (GE10 : Hid (W.heap.size ≤ N10)) : wpAnyH Tryz.prog .any pe15o (NoPanic Q) (fun x => Below W.heap.size W x) 4 #[true, true, true, true, true, true, true, true, true, true, true, true, true, true, true, true, false, false, false, false] ⟨#[Xa, Xb, .int .i64 kk, .slice (some ⟨A3, 0, none⟩) n c3, .slice (some ⟨A4, 0, none⟩) n c4, Xf, .slice (some ⟨A6, 0, none⟩) n c6, Xh, Xi, Xj, Xk, Xl, Xm, .pointer (some ⟨T13, 0, none⟩), Xo, Xp, Xq, Xr, Xs, Xt, Xu, Xv, Xw, Xx, Xy, Xz, .pointer (some ⟨T26, 0, none⟩), Yb, Yc, Yd, Ye, Yf, Yg, Yh, Yi, Yj, Yk, Yl, Ym, Yn, Yo, Yp, Yq, Yr, Ys, Yt, Yu, Yv, Yw, Yx, Yy, Yz, Za, Zb, Zc, Zd, Ze, Zf, Zg, Zh, Zi, Zj, Zk, Zl, Zm, Zn, Zo, Zp, Zq, Zr, Zs, Zt, Zu, Zv, Zw, Zx, Zy, Zz, Ua, Ub, Uc, Ud, Ue, Uf, Ug, Uh, Ui, Uj, Uk, Ul, Um, Un, Uo, Up, Uq, Ur, Us, Ut, Uu, Uv, Uw, Ux, Uy, Uz, Da, Db, .tuple #[.agg #[.int .u64 a1.x0, .int .u64 a1.x1, .int .u64 a1.x2, .int .u64 a1.x3, .slice (some ⟨(b1 N6 N10), 0, none⟩) n n], .agg #[.int .u64 a2.x0, .int .u64 a2.x1, .int .u64 a2.x2, .int .u64 a2.x3, .slice (some ⟨(b2 N6 N10), 0, none⟩) n n]], .int .i64 kk, .slice (some ⟨A4, 0, none⟩) n c4, .slice (some ⟨A3, 0, none⟩) n c3, z.v, c.v, u.v, .agg #[.int .u64 u.x0, .int .u64 u.x1, .int .u64 u.x2, .int .u64 u.x3, .slice (some ⟨N6, 0, none⟩) n n], c.v, v.v, .slice (some ⟨A6, 0, none⟩) n c6, .slice (some ⟨N10, 0, none⟩) n n, .agg #[.int .u64 v.x0, .int .u64 v.x1, .int .u64 v.x2, .int .u64 v.x3, .slice (some ⟨N10, 0, none⟩) n n], .tuple #[.agg #[.int .u64 a1.x0, .int .u64 a1.x1, .int .u64 a1.x2, .int .u64 a1.x3, .slice (some ⟨(b1 N6 N10), 0, none⟩) n n], .agg #[.int .u64 a2.x0, .int .u64 a2.x1, .int .u64 a2.x2, .int .u64 a2.x3, .slice (some ⟨(b2 N6 N10), 0, none⟩) n n]], .agg #[.int .u64 a1.x0, .int .u64 a1.x1, .int .u64 a1.x2, .int .u64 a1.x3, .slice (some ⟨(b1 N6 N10), 0, none⟩) n n], .agg #[.int .u64 a2.x0, .int .u64 a2.x1, .int .u64 a2.x2, .int .u64 a2.x3, .slice (some ⟨(b2 N6 N10), 0, none⟩) n n], Ds, Dt, Du, Dv, Dw, Dx, Dy, Dz, Ja], []⟩ w := by
 unfold E4.v
 refine wpAnyH_ready (rs := [16, 17]) (by kernel_rfl) (by simp) ?_
 refine AllReadyH.cons (o := pe15o_16) rfl (fun K hK => ?_) (AllReadyH.cons (o := pe15o_17) rfl (fun K hK => ?_) AllReadyH.nil)
 ·unfold pe15o_16
  have HH := hidden hH0
  clear hH0
  refine wp_allocP rfl (fun A28 wn1 hA hb hth hrg => ?_)
  have NE628 := hidden ((fun e => by have := rl_lt RA.out hn1; omega : N6 ≠ A28))
  have NE1028 := hidden ((fun e => by have := rl_lt RB.out hn1; omega : N10 ≠ A28))
  replace RA := hidden (RA.out.keep hb)
  replace RB := hidden (RB.out.keep hb)
  have GE28 := hidden ((by have := HH.out.size; omega : W.heap.size ≤ A28))
  have TH28 := hidden (hth)
  have R28 := hidden (hrg)
  have SN := hidden (bl_trans HH.out hb)
  clear HH hA hb hth hrg
  simp only [Act.put, sA, sB, sC]
  refine hK.out _ _ SN.out (fun hH1 => ?_)
  clear hK K SN
  exact pe15_s6 hn1 cz0 cz1 cz2 cz3 cc0 cc1 cc2 cc3 C5 C6 C8 C10 C12 HQ _ hH1 RA GE6 RB GE10 TH28 R28 GE28 NE628 NE1028
 ·unfold pe15o_17
  have HH := hidden hH0
  clear hH0
  refine wp_allocP rfl (fun A29 wn1 hA hb hth hrg => ?_)
  have NE629 := hidden ((fun e => by have := rl_lt RA.out hn1; omega : N6 ≠ A29))
  have NE1029 := hidden ((fun e => by have := rl_lt RB.out hn1; omega : N10 ≠ A29))
  replace RA := hidden (RA.out.keep hb)
  replace RB := hidden (RB.out.keep hb)
  have GE29 := hidden ((by have := HH.out.size; omega : W.heap.size ≤ A29))
  have TH29 := hidden (hth)
  have R29 := hidden (hrg)
  have SN := hidden (bl_trans HH.out hb)
  clear HH hA hb hth hrg
  simp only [Act.put, sA, sB, sC]
  refine hK.out _ _ SN.out (fun hH1 => ?_)
  clear hK K SN
  exact pe15_s10 hn1 cz0 cz1 cz2 cz3 cc0 cc1 cc2 cc3 C5 C6 C8 C10 C12 HQ _ hH1 RA GE6 RB GE10 TH29 R29 GE29 NE629 NE1029
def pe15_s12 (w : World) (hH0 : Below W.heap.size W w) (RA : Hid (Rl w N6 0 n fa)) (GE6 : Hid (W.heap.size ≤ N6)) (RB : Hid (Rl w N10 0 n fb)) (GE10 : Hid (W.heap.size ≤ N10)) (TH28 : Hid (w.there A28 0 5)) (R28 : Hid (w.rangeAt A28 0 [.int .u64 0, .int .u64 0, .int .u64 0, .int .u64 0, .slice none 0 0])) (GE28 : Hid (W.heap.size ≤ A28)) (TH29 : Hid (w.there A29 0 5)) (R29 : Hid (w.rangeAt A29 0 [.int .u64 0, .int .u64 0, .int .u64 0, .int .u64 0, .slice none 0 0])) (GE29 : Hid (W.heap.size ≤ A29)) (NE628 : Hid (N6 ≠ A28)) (NE629 : Hid (N6 ≠ A29)) (NE1028 : Hid (N10 ≠ A28)) (NE1029 : Hid (N10 ≠ A29)) (NE89 : Hid (A28 ≠ A29)) : wpAnyH Tryz.prog .any pe15o (NoPanic Q) (fun x => Below W.heap.size W x) 6 #[true, true, true, true, true, true, true, true, true, true, true, true, false, false, false, false, true, true, false, false] ⟨#[Xa, Xb, .int .i64 kk, .slice (some ⟨A3, 0, none⟩) n c3, .slice (some ⟨A4, 0, none⟩) n c4, Xf, .slice (some ⟨A6, 0, none⟩) n c6, Xh, Xi, Xj, Xk, Xl, Xm, .pointer (some ⟨T13, 0, none⟩), Xo, Xp, Xq, Xr, Xs, Xt, Xu, Xv, Xw, Xx, Xy, Xz, .pointer (some ⟨T26, 0, none⟩), Yb, .pointer (some ⟨A28, 0, none⟩), .pointer (some ⟨A29, 0, none⟩), Ye, Yf, Yg, Yh, Yi, Yj, Yk, Yl, Ym, Yn, Yo, Yp, Yq, Yr, Ys, Yt, Yu, Yv, Yw, Yx, Yy, Yz, Za, Zb, Zc, Zd, Ze, Zf, Zg, Zh, Zi, Zj, Zk, Zl, Zm, Zn, Zo, Zp, Zq, Zr, Zs, Zt, Zu, Zv, Zw, Zx, Zy, Zz, Ua, Ub, Uc, Ud, Ue, Uf, Ug, Uh, Ui, Uj, Uk, Ul, Um, Un, Uo, Up, Uq, Ur, Us, Ut, Uu, Uv, Uw, Ux, Uy, Uz, Da, Db, Dc, .int .i64 kk, .slice (some ⟨A4, 0, none⟩) n c4, .slice (some ⟨A3, 0, none⟩) n c3, z.v, c.v, u.v, .agg #[.int .u64 u.x0, .int .u64 u.x1, .int .u64 u.x2, .int .u64 u.x3, .slice (some ⟨N6, 0, none⟩) n n], c.v, v.v, .slice (some ⟨A6, 0, none⟩) n c6, .slice (some ⟨N10, 0, none⟩) n n, .agg #[.int .u64 v.x0, .int .u64 v.x1, .int .u64 v.x2, .int .u64 v.x3, .slice (some ⟨N10, 0, none⟩) n n], Dp, Dq, Dr, Ds, Dt, Du, Dv, Dw, Dx, Dy, Dz, Ja], []⟩ w := by
 unfold E4.v
 refine wpAnyH_ready (rs := [12]) (by kernel_rfl) (by simp) ?_
 refine AllReadyH.cons (o := pe15o_12) rfl (fun K hK => ?_) AllReadyH.nil
 unfold pe15o_12
 have HH := hidden hH0
 clear hH0
 go_simp
 refine (C12.out _ N6 N10 HH.out).mono ?_
 rintro e wn1 ⟨rfl, hb⟩
 replace RA := hidden (RA.out.keep hb)
 replace RB := hidden (RB.out.keep hb)
 replace TH28 := hidden (Li.there_bl TH28.out hb)
 replace R28 := hidden (range_bl R28.out hb)
 replace TH29 := hidden (Li.there_bl TH29.out hb)
 replace R29 := hidden (range_bl R29.out hb)
 have SN := hidden (bl_trans HH.out hb)
 clear HH hb
 go_wp2_with fail
 refine hK.out _ _ SN.out (fun hH1 => ?_)
 clear hK K SN
 refine tk 13 pe15o_13 (.tuple #[.agg #[.int .u64 a1.x0, .int .u64 a1.x1, .int .u64 a1.x2, .int .u64 a1.x3, .slice (some ⟨(b1 N6 N10), 0, none⟩) n n], .agg #[.int .u64 a2.x0, .int .u64 a2.x1, .int .u64 a2.x2, .int .u64 a2.x3, .slice (some ⟨(b2 N6 N10), 0, none⟩) n n]]) rfl (by kernel_rfl) hH1 rfl (fun w0 hSw => ?_) ?_
 ·(unfold pe15o_13; clear hSw; go_simp)
 simp only [pe15o_13, Act.put, sA, sB, sC]
 refine tk 14 pe15o_14 (.agg #[.int .u64 a1.x0, .int .u64 a1.x1, .int .u64 a1.x2, .int .u64 a1.x3, .slice (some ⟨(b1 N6 N10), 0, none⟩) n n]) rfl (by kernel_rfl) hH1 rfl (fun w0 hSw => ?_) ?_
 ·(unfold pe15o_14; clear hSw; go_simp)
 simp only [pe15o_14, Act.put, sA, sB, sC]
 refine tk 15 pe15o_15 (.agg #[.int .u64 a2.x0, .int .u64 a2.x1, .int .u64 a2.x2, .int .u64 a2.x3, .slice (some ⟨(b2 N6 N10), 0, none⟩) n n]) rfl (by kernel_rfl) hH1 rfl (fun w0 hSw => ?_) ?_
 ·(unfold pe15o_15; clear hSw; go_simp)
 simp only [pe15o_15, Act.put, sA, sB, sC]
 exact pe15_s7 hn1 cz0 cz1 cz2 cz3 cc0 cc1 cc2 cc3 C5 C6 C8 C10 C12 HQ _ hH1 RA GE6 RB GE10 TH28 R28 GE28 TH29 R29 GE29 NE628 NE629 NE1028 NE1029 NE89
def pe15_s11 (w : World) (hH0 : Below W.heap.size W w) (RA : Hid (Rl w N6 0 n fa)) (GE6 : Hid (W.heap.size ≤ N6)) (RB : Hid (Rl w N10 0 n fb)) (GE10 : Hid (W.heap.size ≤ N10)) (TH28 : Hid (w.there A28 0 5)) (R28 : Hid (w.rangeAt A28 0 [.int .u64 0, .int .u64 0, .int .u64 0, .int .u64 0, .slice none 0 0])) (GE28 : Hid (W.heap.size ≤ A28)) (NE628 : Hid (N6 ≠ A28)) (NE1028 : Hid (N10 ≠ A28)) : wpAnyH Tryz.prog .any pe15o (NoPanic Q) (fun x => Below W.heap.size W x) 7 #[true, true, true, true, true, true, true, true, true, true, true, true, false, false, false, false, true, false, false, false] ⟨#[Xa, Xb, .int .i64 kk, .slice (some ⟨A3, 0, none⟩) n c3, .slice (some ⟨A4, 0, none⟩) n c4, Xf, .slice (some ⟨A6, 0, none⟩) n c6, Xh, Xi, Xj, Xk, Xl, Xm, .pointer (some ⟨T13, 0, none⟩), Xo, Xp, Xq, Xr, Xs, Xt, Xu, Xv, Xw, Xx, Xy, Xz, .pointer (some ⟨T26, 0, none⟩), Yb, .pointer (some ⟨A28, 0, none⟩), Yd, Ye, Yf, Yg, Yh, Yi, Yj, Yk, Yl, Ym, Yn, Yo, Yp, Yq, Yr, Ys, Yt, Yu, Yv, Yw, Yx, Yy, Yz, Za, Zb, Zc, Zd, Ze, Zf, Zg, Zh, Zi, Zj, Zk, Zl, Zm, Zn, Zo, Zp, Zq, Zr, Zs, Zt, Zu, Zv, Zw, Zx, Zy, Zz, Ua, Ub, Uc, Ud, Ue, Uf, Ug, Uh, Ui, Uj, Uk, Ul, Um, Un, Uo, Up, Uq, Ur, Us, Ut, Uu, Uv, Uw, Ux, Uy, Uz, Da, Db, Dc, .int .i64 kk, .slice (some ⟨A4, 0, none⟩) n c4, .slice (some ⟨A3, 0, none⟩) n c3, z.v, c.v, u.v, .agg #[.int .u64 u.x0, .int .u64 u.x1, .int .u64 u.x2, .int .u64 u.x3, .slice (some ⟨N6, 0, none⟩) n n], c.v, v.v, .slice (some ⟨A6, 0, none⟩) n c6, .slice (some ⟨N10, 0, none⟩) n n, .agg #[.int .u64 v.x0, .int .u64 v.x1, .int .u64 v.x2, .int .u64 v.x3, .slice (some ⟨N10, 0, none⟩) n n], Dp, Dq, Dr, Ds, Dt, Du, Dv, Dw, Dx, Dy, Dz, Ja], []⟩ w := by
 unfold E4.v
 refine wpAnyH_ready (rs := [12, 17]) (by kernel_rfl) (by simp) ?_
 refine AllReadyH.cons (o := pe15o_12) rfl (fun K hK => ?_) (AllReadyH.cons (o := pe15o_17) rfl (fun K hK => ?_) AllReadyH.nil)
 ·unfold pe15o_12
  have HH := hidden hH0
  clear hH0
  go_simp
  refine (C12.out _ N6 N10 HH.out).mono ?_
  rintro e wn1 ⟨rfl, hb⟩
  replace RA := hidden (RA.out.keep hb)
  replace RB := hidden (RB.out.keep hb)
  replace TH28 := hidden (Li.there_bl TH28.out hb)
  replace R28 := hidden (range_bl R28.out hb)
  have SN := hidden (bl_trans HH.out hb)
  clear HH hb
  go_wp2_with fail
  refine hK.out _ _ SN.out (fun hH1 => ?_)
  clear hK K SN
  refine tk 13 pe15o_13 (.tuple #[.agg #[.int .u64 a1.x0, .int .u64 a1.x1, .int .u64 a1.x2, .int .u64 a1.x3, .slice (some ⟨(b1 N6 N10), 0, none⟩) n n], .agg #[.int .u64 a2.x0, .int .u64 a2.x1, .int .u64 a2.x2, .int .u64 a2.x3, .slice (some ⟨(b2 N6 N10), 0, none⟩) n n]]) rfl (by kernel_rfl) hH1 rfl (fun w0 hSw => ?_) ?_
  ·(unfold pe15o_13; clear hSw; go_simp)
  simp only [pe15o_13, Act.put, sA, sB, sC]
  refine tk 14 pe15o_14 (.agg #[.int .u64 a1.x0, .int .u64 a1.x1, .int .u64 a1.x2, .int .u64 a1.x3, .slice (some ⟨(b1 N6 N10), 0, none⟩) n n]) rfl (by kernel_rfl) hH1 rfl (fun w0 hSw => ?_) ?_
  ·(unfold pe15o_14; clear hSw; go_simp)
  simp only [pe15o_14, Act.put, sA, sB, sC]
  refine tk 15 pe15o_15 (.agg #[.int .u64 a2.x0, .int .u64 a2.x1, .int .u64 a2.x2, .int .u64 a2.x3, .slice (some ⟨(b2 N6 N10), 0, none⟩) n n]) rfl (by kernel_rfl) hH1 rfl (fun w0 hSw => ?_) ?_
  ·(unfold pe15o_15; clear hSw; go_simp)
  simp only [pe15o_15, Act.put, sA, sB, sC]
  exact pe15_s6 hn1 cz0 cz1 cz2 cz3 cc0 cc1 cc2 cc3 C5 C6 C8 C10 C12 HQ _ hH1 RA GE6 RB GE10 TH28 R28 GE28 NE628 NE1028
 ·unfold pe15o_17
  have HH := hidden hH0
  clear hH0
  refine wp_allocP rfl (fun A29 wn1 hA hb hth hrg => ?_)
  have NE629 := hidden ((fun e => by have := rl_lt RA.out hn1; omega : N6 ≠ A29))
  have NE1029 := hidden ((fun e => by have := rl_lt RB.out hn1; omega : N10 ≠ A29))
  have NE89 := hidden ((fun e => by have := there_lt TH28.out; omega : A28 ≠ A29))
  replace RA := hidden (RA.out.keep hb)
  replace RB := hidden (RB.out.keep hb)
  replace TH28 := hidden (Li.there_bl TH28.out hb)
  replace R28 := hidden (range_bl R28.out hb)
  have GE29 := hidden ((by have := HH.out.size; omega : W.heap.size ≤ A29))
  have TH29 := hidden (hth)
  have R29 := hidden (hrg)
  have SN := hidden (bl_trans HH.out hb)
  clear HH hA hb hth hrg
  simp only [Act.put, sA, sB, sC]
  refine hK.out _ _ SN.out (fun hH1 => ?_)
  clear hK K SN
  exact pe15_s12 hn1 cz0 cz1 cz2 cz3 cc0 cc1 cc2 cc3 C5 C6 C8 C10 C12 HQ _ hH1 RA GE6 RB GE10 TH28 R28 GE28 TH29 R29 GE29 NE628 NE629 NE1028 NE1029 NE89
def pe15_s13 (w : World) (hH0 : Below W.heap.size W w) (RA : Hid (Rl w N6 0 n fa)) (GE6 : Hid (W.heap.size ≤ N6)) (RB : Hid (Rl w N10 0 n fb)) (GE10 : Hid (W.heap.size ≤ N10)) (TH29 : Hid (w.there A29 0 5)) (R29 : Hid (w.rangeAt A29 0 [.int .u64 0, .int .u64 0, .int .u64 0, .int .u64 0, .slice none 0 0])) (GE29 : Hid (W.heap.size ≤ A29)) (NE629 : Hid (N6 ≠ A29)) (NE1029 : Hid (N10 ≠ A29)) : wpAnyH Tryz.prog .any pe15o (NoPanic Q) (fun x => Below W.heap.size W x) 7 #[true, true, true, true, true, true, true, true, true, true, true, true, false, false, false, false, false, true, false, false] ⟨#[Xa, Xb, .int .i64 kk, .slice (some ⟨A3, 0, none⟩) n c3, .slice (some ⟨A4, 0, none⟩) n c4, Xf, .slice (some ⟨A6, 0, none⟩) n c6, Xh, Xi, Xj, Xk, Xl, Xm, .pointer (some ⟨T13, 0, none⟩), Xo, Xp, Xq, Xr, Xs, Xt, Xu, Xv, Xw, Xx, Xy, Xz, .pointer (some ⟨T26, 0, none⟩), Yb, Yc, .pointer (some ⟨A29, 0, none⟩), Ye, Yf, Yg, Yh, Yi, Yj, Yk, Yl, Ym, Yn, Yo, Yp, Yq, Yr, Ys, Yt, Yu, Yv, Yw, Yx, Yy, Yz, Za, Zb, Zc, Zd, Ze, Zf, Zg, Zh, Zi, Zj, Zk, Zl, Zm, Zn, Zo, Zp, Zq, Zr, Zs, Zt, Zu, Zv, Zw, Zx, Zy, Zz, Ua, Ub, Uc, Ud, Ue, Uf, Ug, Uh, Ui, Uj, Uk, Ul, Um, Un, Uo, Up, Uq, Ur, Us, Ut, Uu, Uv, Uw, Ux, Uy, Uz, Da, Db, Dc, .int .i64 kk, .slice (some ⟨A4, 0, none⟩) n c4, .slice (some ⟨A3, 0, none⟩) n c3, z.v, c.v, u.v, .agg #[.int .u64 u.x0, .int .u64 u.x1, .int .u64 u.x2, .int .u64 u.x3, .slice (some ⟨N6, 0, none⟩) n n], c.v, v.v, .slice (some ⟨A6, 0, none⟩) n c6, .slice (some ⟨N10, 0, none⟩) n n, .agg #[.int .u64 v.x0, .int .u64 v.x1, .int .u64 v.x2, .int .u64 v.x3, .slice (some ⟨N10, 0, none⟩) n n], Dp, Dq, Dr, Ds, Dt, Du, Dv, Dw, Dx, Dy, Dz, Ja], []⟩ w := by
 unfold E4.v
 refine wpAnyH_ready (rs := [12, 16]) (by kernel_rfl) (by simp) ?_
 refine AllReadyH.cons (o := pe15o_12) rfl (fun K hK => ?_) (AllReadyH.cons (o := pe15o_16) rfl (fun K hK => ?_) AllReadyH.nil)
 ·unfold pe15o_12
  have HH := hidden hH0
  clear hH0
  go_simp
  refine (C12.out _ N6 N10 HH.out).mono ?_
  rintro e wn1 ⟨rfl, hb⟩
  replace RA := hidden (RA.out.keep hb)
  replace RB := hidden (RB.out.keep hb)
  replace TH29 := hidden (Li.there_bl TH29.out hb)
  replace R29 := hidden (range_bl R29.out hb)
  have SN := hidden (bl_trans HH.out hb)
  clear HH hb
  go_wp2_with fail
  refine hK.out _ _ SN.out (fun hH1 => ?_)
  clear hK K SN
  refine tk 13 pe15o_13 (.tuple #[.agg #[.int .u64 a1.x0, .int .u64 a1.x1, .int .u64 a1.x2, .int .u64 a1.x3, .slice (some ⟨(b1 N6 N10), 0, none⟩) n n], .agg #[.int .u64 a2.x0, .int .u64 a2.x1, .int .u64 a2.x2, .int .u64 a2.x3, .slice (some ⟨(b2 N6 N10), 0, none⟩) n n]]) rfl (by kernel_rfl) hH1 rfl (fun w0 hSw => ?_) ?_
  ·(unfold pe15o_13; clear hSw; go_simp)
  simp only [pe15o_13, Act.put, sA, sB, sC]
  refine tk 14 pe15o_14 (.agg #[.int .u64 a1.x0, .int .u64 a1.x1, .int .u64 a1.x2, .int .u64 a1.x3, .slice (some ⟨(b1 N6 N10), 0, none⟩) n n]) rfl (by kernel_rfl) hH1 rfl (fun w0 hSw => ?_) ?_
  ·(unfold pe15o_14; clear hSw; go_simp)
  simp only [pe15o_14, Act.put, sA, sB, sC]
  refine tk 15 pe15o_15 (.agg #[.int .u64 a2.x0, .int .u64 a2.x1, .int .u64 a2.x2, .int .u64 a2.x3, .slice (some ⟨(b2 N6 N10), 0, none⟩) n n]) rfl (by kernel_rfl) hH1 rfl (fun w0 hSw => ?_) ?_
  ·(unfold pe15o_15; clear hSw; go_simp)
  simp only [pe15o_15, Act.put, sA, sB, sC]
  exact pe15_s10 hn1 cz0 cz1 cz2 cz3 cc0 cc1 cc2 cc3 C5 C6 C8 C10 C12 HQ _ hH1 RA GE6 RB GE10 TH29 R29 GE29 NE629 NE1029
 ·unfold pe15o_16
  have HH := hidden hH0
  clear hH0
  refine wp_allocP rfl (fun A28 wn1 hA hb hth hrg => ?_)
  have NE628 := hidden ((fun e => by have := rl_lt RA.out hn1; omega : N6 ≠ A28))
  have NE1028 := hidden ((fun e => by have := rl_lt RB.out hn1; omega : N10 ≠ A28))
  have NE89 := hidden ((fun e => by have := there_lt TH29.out; omega : A28 ≠ A29))
  replace RA := hidden (RA.out.keep hb)
  replace RB := hidden (RB.out.keep hb)
  replace TH29 := hidden (Li.there_bl TH29.out hb)
  replace R29 := hidden (range_bl R29.out hb)
  have GE28 := hidden ((by have := HH.out.size; omega : W.heap.size ≤ A28))
  have TH28 := hidden (hth)
  have R28 := hidden (hrg)
  have SN := hidden (bl_trans HH.out hb)
  clear HH hA hb hth hrg
  simp only [Act.put, sA, sB, sC]
  refine hK.out _ _ SN.out (fun hH1 => ?_)
  clear hK K SN
  exact pe15_s12 hn1 cz0 cz1 cz2 cz3 cc0 cc1 cc2 cc3 C5 C6 C8 C10 C12 HQ _ hH1 RA GE6 RB GE10 TH28 R28 GE28 TH29 R29 GE29 NE628 NE629 NE1028 NE1029 NE89
def pe15_s4 (w : World) (hH0 : Below W.heap.size W w) (RA : Hid (Rl w N6 0 n fa)) (GE6 : Hid (W.heap.size ≤ N6)) (RB : Hid (Rl w N10 0 n fb)) (GE10 : Hid (W.heap.size ≤ N10)) : wpAnyH Tryz.prog .any pe15o (NoPanic Q) (fun x => Below W.heap.size W x) 8 #[true, true, true, true, true, true, true, true, true, true, true, true, false, false, false, false, false, false, false, false] ⟨#[Xa, Xb, .int .i64 kk, .slice (some ⟨A3, 0, none⟩) n c3, .slice (some ⟨A4, 0, none⟩) n c4, Xf, .slice (some ⟨A6, 0, none⟩) n c6, Xh, Xi, Xj, Xk, Xl, Xm, .pointer (some ⟨T13, 0, none⟩), Xo, Xp, Xq, Xr, Xs, Xt, Xu, Xv, Xw, Xx, Xy, Xz, .pointer (some ⟨T26, 0, none⟩), Yb, Yc, Yd, Ye, Yf, Yg, Yh, Yi, Yj, Yk, Yl, Ym, Yn, Yo, Yp, Yq, Yr, Ys, Yt, Yu, Yv, Yw, Yx, Yy, Yz, Za, Zb, Zc, Zd, Ze, Zf, Zg, Zh, Zi, Zj, Zk, Zl, Zm, Zn, Zo, Zp, Zq, Zr, Zs, Zt, Zu, Zv, Zw, Zx, Zy, Zz, Ua, Ub, Uc, Ud, Ue, Uf, Ug, Uh, Ui, Uj, Uk, Ul, Um, Un, Uo, Up, Uq, Ur, Us, Ut, Uu, Uv, Uw, Ux, Uy, Uz, Da, Db, Dc, .int .i64 kk, .slice (some ⟨A4, 0, none⟩) n c4, .slice (some ⟨A3, 0, none⟩) n c3, z.v, c.v, u.v, .agg #[.int .u64 u.x0, .int .u64 u.x1, .int .u64 u.x2, .int .u64 u.x3, .slice (some ⟨N6, 0, none⟩) n n], c.v, v.v, .slice (some ⟨A6, 0, none⟩) n c6, .slice (some ⟨N10, 0, none⟩) n n, .agg #[.int .u64 v.x0, .int .u64 v.x1, .int .u64 v.x2, .int .u64 v.x3, .slice (some ⟨N10, 0, none⟩) n n], Dp, Dq, Dr, Ds, Dt, Du, Dv, Dw, Dx, Dy, Dz, Ja], []⟩ w := by
 unfold E4.v
 refine wpAnyH_ready (rs := [12, 16, 17]) (by kernel_rfl) (by simp) ?_
 refine AllReadyH.cons (o := pe15o_12) rfl (fun K hK => ?_) (AllReadyH.cons (o := pe15o_16) rfl (fun K hK => ?_) (AllReadyH.cons (o := pe15o_17) rfl (fun K hK => ?_) AllReadyH.nil))
 ·unfold pe15o_12
  have HH := hidden hH0
  clear hH0
  go_simp
  refine (C12.out _ N6 N10 HH.out).mono ?_
  rintro e wn1 ⟨rfl, hb⟩
  replace RA := hidden (RA.out.keep hb)
  replace RB := hidden (RB.out.keep hb)
  have SN := hidden (bl_trans HH.out hb)
  clear HH hb
  go_wp2_with fail
  refine hK.out _ _ SN.out (fun hH1 => ?_)
  clear hK K SN
  refine tk 13 pe15o_13 (.tuple #[.agg #[.int .u64 a1.x0, .int .u64 a1.x1, .int .u64 a1.x2, .int .u64 a1.x3, .slice (some ⟨(b1 N6 N10), 0, none⟩) n n], .agg #[.int .u64 a2.x0, .int .u64 a2.x1, .int .u64 a2.x2, .int .u64 a2.x3, .slice (some ⟨(b2 N6 N10), 0, none⟩) n n]]) rfl (by kernel_rfl) hH1 rfl (fun w0 hSw => ?_) ?_
  ·(unfold pe15o_13; clear hSw; go_simp)
  simp only [pe15o_13, Act.put, sA, sB, sC]
  refine tk 14 pe15o_14 (.agg #[.int .u64 a1.x0, .int .u64 a1.x1, .int .u64 a1.x2, .int .u64 a1.x3, .slice (some ⟨(b1 N6 N10), 0, none⟩) n n]) rfl (by kernel_rfl) hH1 rfl (fun w0 hSw => ?_) ?_
  ·(unfold pe15o_14; clear hSw; go_simp)
  simp only [pe15o_14, Act.put, sA, sB, sC]
  refine tk 15 pe15o_15 (.agg #[.int .u64 a2.x0, .int .u64 a2.x1, .int .u64 a2.x2, .int .u64 a2.x3, .slice (some ⟨(b2 N6 N10), 0, none⟩) n n]) rfl (by kernel_rfl) hH1 rfl (fun w0 hSw => ?_) ?_
  ·(unfold pe15o_15; clear hSw; go_simp)
  simp only [pe15o_15, Act.put, sA, sB, sC]
  exact pe15_s5 hn1 cz0 cz1 cz2 cz3 cc0 cc1 cc2 cc3 C5 C6 C8 C10 C12 HQ _ hH1 RA GE6 RB GE10
 ·unfold pe15o_16
  have HH := hidden hH0
  clear hH0
  refine wp_allocP rfl (fun A28 wn1 hA hb hth hrg => ?_)
  have NE628 := hidden ((fun e => by have := rl_lt RA.out hn1; omega : N6 ≠ A28))
  have NE1028 := hidden ((fun e => by have := rl_lt RB.out hn1; omega : N10 ≠ A28))
  replace RA := hidden (RA.out.keep hb)
  replace RB := hidden (RB.out.keep hb)
  have GE28 := hidden ((by have := HH.out.size; omega : W.heap.size ≤ A28))
  have TH28 := hidden (hth)
  have R28 := hidden (hrg)
  have SN := hidden (bl_trans HH.out hb)
  clear HH hA hb hth hrg
  simp only [Act.put, sA, sB, sC]
  refine hK.out _ _ SN.out (fun hH1 => ?_)
  clear hK K SN
  exact pe15_s11 hn1 cz0 cz1 cz2 cz3 cc0 cc1 cc2 cc3 C5 C6 C8 C10 C12 HQ _ hH1 RA GE6 RB GE10 TH28 R28 GE28 NE628 NE1028
 ·unfold pe15o_17
  have HH := hidden hH0
  clear hH0
  refine wp_allocP rfl (fun A29 wn1 hA hb hth hrg => ?_)
  have NE629 := hidden ((fun e => by have := rl_lt RA.out hn1; omega : N6 ≠ A29))
  have NE1029 := hidden ((fun e => by have := rl_lt RB.out hn1; omega : N10 ≠ A29))
  replace RA := hidden (RA.out.keep hb)
  replace RB := hidden (RB.out.keep hb)
  have GE29 := hidden ((by have := HH.out.size; omega : W.heap.size ≤ A29))
  have TH29 := hidden (hth)
  have R29 := hidden (hrg)
  have SN := hidden (bl_trans HH.out hb)
  clear HH hA hb hth hrg
  simp only [Act.put, sA, sB, sC]
  refine hK.out _ _ SN.out (fun hH1 => ?_)
  clear hK K SN
  exact pe15_s13 hn1 cz0 cz1 cz2 cz3 cc0 cc1 cc2 cc3 C5 C6 C8 C10 C12 HQ _ hH1 RA GE6 RB GE10 TH29 R29 GE29 NE629 NE1029
def pe15_s15 (w : World) (hH0 : Below W.heap.size W w) (RA : Hid (Rl w N6 0 n fa)) (GE6 : Hid (W.heap.size ≤ N6)) (TH28 : Hid (w.there A28 0 5)) (R28 : Hid (w.rangeAt A28 0 [.int .u64 0, .int .u64 0, .int .u64 0, .int .u64 0, .slice none 0 0])) (GE28 : Hid (W.heap.size ≤ A28)) (TH29 : Hid (w.there A29 0 5)) (R29 : Hid (w.rangeAt A29 0 [.int .u64 0, .int .u64 0, .int .u64 0, .int .u64 0, .slice none 0 0])) (GE29 : Hid (W.heap.size ≤ A29)) (NE628 : Hid (N6 ≠ A28)) (NE629 : Hid (N6 ≠ A29)) (NE89 : Hid (A28 ≠ A29)) : wpAnyH Tryz.prog .any pe15o (NoPanic Q) (fun x => Below W.heap.size W x) 8 #[true, true, true, true, true, true, true, true, true, true, false, false, false, false, false, false, true, true, false, false] ⟨#[Xa, Xb, .int .i64 kk, .slice (some ⟨A3, 0, none⟩) n c3, .slice (some ⟨A4, 0, none⟩) n c4, Xf, .slice (some ⟨A6, 0, none⟩) n c6, Xh, Xi, Xj, Xk, Xl, Xm, .pointer (some ⟨T13, 0, none⟩), Xo, Xp, Xq, Xr, Xs, Xt, Xu, Xv, Xw, Xx, Xy, Xz, .pointer (some ⟨T26, 0, none⟩), Yb, .pointer (some ⟨A28, 0, none⟩), .pointer (some ⟨A29, 0, none⟩), Ye, Yf, Yg, Yh, Yi, Yj, Yk, Yl, Ym, Yn, Yo, Yp, Yq, Yr, Ys, Yt, Yu, Yv, Yw, Yx, Yy, Yz, Za, Zb, Zc, Zd, Ze, Zf, Zg, Zh, Zi, Zj, Zk, Zl, Zm, Zn, Zo, Zp, Zq, Zr, Zs, Zt, Zu, Zv, Zw, Zx, Zy, Zz, Ua, Ub, Uc, Ud, Ue, Uf, Ug, Uh, Ui, Uj, Uk, Ul, Um, Un, Uo, Up, Uq, Ur, Us, Ut, Uu, Uv, Uw, Ux, Uy, Uz, Da, Db, Dc, .int .i64 kk, .slice (some ⟨A4, 0, none⟩) n c4, .slice (some ⟨A3, 0, none⟩) n c3, z.v, c.v, u.v, .agg #[.int .u64 u.x0, .int .u64 u.x1, .int .u64 u.x2, .int .u64 u.x3, .slice (some ⟨N6, 0, none⟩) n n], c.v, v.v, .slice (some ⟨A6, 0, none⟩) n c6, Dn, Do, Dp, Dq, Dr, Ds, Dt, Du, Dv, Dw, Dx, Dy, Dz, Ja], []⟩ w := by
 unfold E4.v
 refine wpAnyH_ready (rs := [10]) (by kernel_rfl) (by simp) ?_
 refine AllReadyH.cons (o := pe15o_10) rfl (fun K hK => ?_) AllReadyH.nil
 unfold pe15o_10
 have HH := hidden hH0
 clear hH0
 go_simp
 refine (C10.out _ HH.out).mono ?_
 rintro e wn1 ⟨N10, rfl, hN, hR, hb⟩
 have NE1028 := hidden ((fun e => by have := there_lt TH28.out; omega : N10 ≠ A28))
 have NE1029 := hidden ((fun e => by have := there_lt TH29.out; omega : N10 ≠ A29))
 replace RA := hidden (RA.out.keep hb)
 replace TH28 := hidden (Li.there_bl TH28.out hb)
 replace R28 := hidden (range_bl R28.out hb)
 replace TH29 := hidden (Li.there_bl TH29.out hb)
 replace R29 := hidden (range_bl R29.out hb)
 have RB := hidden (hR)
 have GE10 := hidden ((by have := HH.out.size; omega : W.heap.size ≤ N10))
 have SN := hidden (bl_trans HH.out hb)
 clear HH hb hN hR
 go_wp2_with fail
 refine hK.out _ _ SN.out (fun hH1 => ?_)
 clear hK K SN
 refine tk 11 pe15o_11 (.agg #[.int .u64 v.x0, .int .u64 v.x1, .int .u64 v.x2, .int .u64 v.x3, .slice (some ⟨N10, 0, none⟩) n n]) rfl (by kernel_rfl) hH1 rfl (fun w0 hSw => ?_) ?_
 ·(unfold pe15o_11; clear hSw; go_simp)
 simp only [pe15o_11, Act.put, sA, sB, sC]
 exact pe15_s12 hn1 cz0 cz1 cz2 cz3 cc0 cc1 cc2 cc3 C5 C6 C8 C10 C12 HQ _ hH1 RA GE6 RB GE10 TH28 R28 GE28 TH29 R29 GE29 NE628 NE629 NE1028 NE1029 NE89
def pe15_s14 (w : World) (hH0 : Below W.heap.size W w) (RA : Hid (Rl w N6 0 n fa)) (GE6 : Hid (W.heap.size ≤ N6)) (TH28 : Hid (w.there A28 0 5)) (R28 : Hid (w.rangeAt A28 0 [.int .u64 0, .int .u64 0, .int .u64 0, .int .u64 0, .slice none 0 0])) (GE28 : Hid (W.heap.size ≤ A28)) (NE628 : Hid (N6 ≠ A28)) : wpAnyH Tryz.prog .any pe15o (NoPanic Q) (fun x => Below W.heap.size W x) 9 #[true, true, true, true, true, true, true, true, true, true, false, false, false, false, false, false, true, false, false, false] ⟨#[Xa, Xb, .int .i64 kk, .slice (some ⟨A3, 0, none⟩) n c3, .slice (some ⟨A4, 0, none⟩) n c4, Xf, .slice (some ⟨A6, 0, none⟩) n c6, Xh, Xi, Xj, Xk, Xl, Xm, .pointer (some ⟨T13, 0, none⟩), Xo, Xp, Xq, Xr, Xs, Xt, Xu, Xv, Xw, Xx, Xy, Xz, .pointer (some ⟨T26, 0, none⟩), Yb, .pointer (some ⟨A28, 0, none⟩), Yd, Ye, Yf, Yg, Yh, Yi, Yj, Yk, Yl, Ym, Yn, Yo, Yp, Yq, Yr, Ys, Yt, Yu, Yv, Yw, Yx, Yy, Yz, Za, Zb, Zc, Zd, Ze, Zf, Zg, Zh, Zi, Zj, Zk, Zl, Zm, Zn, Zo, Zp, Zq, Zr, Zs, Zt, Zu, Zv, Zw, Zx, Zy, Zz, Ua, Ub, Uc, Ud, Ue, Uf, Ug, Uh, Ui, Uj, Uk, Ul, Um, Un, Uo, Up, Uq, Ur, Us, Ut, Uu, Uv, Uw, Ux, Uy, Uz, Da, Db, Dc, .int .i64 kk, .slice (some ⟨A4, 0, none⟩) n c4, .slice (some ⟨A3, 0, none⟩) n c3, z.v, c.v, u.v, .agg #[.int .u64 u.x0, .int .u64 u.x1, .int .u64 u.x2, .int .u64 u.x3, .slice (some ⟨N6, 0, none⟩) n n], c.v, v.v, .slice (some ⟨A6, 0, none⟩) n c6, Dn, Do, Dp, Dq, Dr, Ds, Dt, Du, Dv, Dw, Dx, Dy, Dz, Ja], []⟩ w := by
 unfold E4.v
 refine wpAnyH_ready (rs := [10, 17]) (by kernel_rfl) (by simp) ?_
 refine AllReadyH.cons (o := pe15o_10) rfl (fun K hK => ?_) (AllReadyH.cons (o := pe15o_17) rfl (fun K hK => ?_) AllReadyH.nil)
 ·unfold pe15o_10
  have HH := hidden hH0
  clear hH0
  go_simp
  refine (C10.out _ HH.out).mono ?_
  rintro e wn1 ⟨N10, rfl, hN, hR, hb⟩
  have NE1028 := hidden ((fun e => by have := there_lt TH28.out; omega : N10 ≠ A28))
  replace RA := hidden (RA.out.keep hb)
  replace TH28 := hidden (Li.there_bl TH28.out hb)
  replace R28 := hidden (range_bl R28.out hb)
  have RB := hidden (hR)
  have GE10 := hidden ((by have := HH.out.size; omega : W.heap.size ≤ N10))
  have SN := hidden (bl_trans HH.out hb)
  clear HH hb hN hR
  go_wp2_with fail
  refine hK.out _ _ SN.out (fun hH1 => ?_)
  clear hK K SN
  refine tk 11 pe15o_11 (.agg #[.int .u64 v.x0, .int .u64 v.x1, .int .u64 v.x2, .int .u64 v.x3, .slice (some ⟨N10, 0, none⟩) n n]) rfl (by kernel_rfl) hH1 rfl (fun w0 hSw => ?_) ?_
  ·(unfold pe15o_11; clear hSw; go_simp)
  simp only [pe15o_11, Act.put, sA, sB, sC]
  exact pe15_s11 hn1 cz0 cz1 cz2 cz3 cc0 cc1 cc2 cc3 C5 C6 C8 C10 C12 HQ _ hH1 RA GE6 RB GE10 TH28 R28 GE28 NE628 NE1028
 ·unfold pe15o_17
  have HH := hidden hH0
  clear hH0
  refine wp_allocP rfl (fun A29 wn1 hA hb hth hrg => ?_)
  have NE629 := hidden ((fun e => by have := rl_lt RA.out hn1; omega : N6 ≠ A29))
  have NE89 := hidden ((fun e => by have := there_lt TH28.out; omega : A28 ≠ A29))
  replace RA := hidden (RA.out.keep hb)
  replace TH28 := hidden (Li.there_bl TH28.out hb)
  replace R28 := hidden (range_bl R28.out hb)
  have GE29 := hidden ((by have := HH.out.size; omega : W.heap.size ≤ A29))
  have TH29 := hidden (hth)
  have R29 := hidden (hrg)
  have SN := hidden (bl_trans HH.out hb)
  clear HH hA hb hth hrg
  simp only [Act.put, sA, sB, sC]
  refine hK.out _ _ SN.out (fun hH1 => ?_)
  clear hK K SN
  exact pe15_s15 hn1 cz0 cz1 cz2 cz3 cc0 cc1 cc2 cc3 C5 C6 C8 C10 C12 HQ _ hH1 RA GE6 TH28 R28 GE28 TH29 R29 GE29 NE628 NE629 NE89
def pe15_s16 (w : World) (hH0 : Below W.heap.size W w) (RA : Hid (Rl w N6 0 n fa)) (GE6 : Hid (W.heap.size ≤ N6)) (TH29 : Hid (w.there A29 0 5)) (R29 : Hid (w.rangeAt A29 0 [.int .u64 0, .int .u64 0, .int .u64 0, .int .u64 0, .slice none 0 0])) (GE29 : Hid (W.heap.size ≤ A29)) (NE629 : Hid (N6 ≠ A29)) : wpAnyH Tryz.prog .any pe15o (NoPanic Q) (fun x => Below W.heap.size W x) 9 #[true, true, true, true, true, true, true, true, true, true, false, false, false, false, false, false, false, true, false, false] ⟨#[Xa, Xb, .int .i64 kk, .slice (some ⟨A3, 0, none⟩) n c3, .slice (some ⟨A4, 0, none⟩) n c4, Xf, .slice (some ⟨A6, 0, none⟩) n c6, Xh, Xi, Xj, Xk, Xl, Xm, .pointer (some ⟨T13, 0, none⟩), Xo, Xp, Xq, Xr, Xs, Xt, Xu, Xv, Xw, Xx, Xy, Xz, .pointer (some ⟨T26, 0, none⟩), Yb, Yc, .pointer (some ⟨A29, 0, none⟩), Ye, Yf, Yg, Yh, Yi, Yj, Yk, Yl, Ym, Yn, Yo, Yp, Yq, Yr, Ys, Yt, Yu, Yv, Yw, Yx, Yy, Yz, Za, Zb, Zc, Zd, Ze, Zf, Zg, Zh, Zi, Zj, Zk, Zl, Zm, Zn, Zo, Zp, Zq, Zr, Zs, Zt, Zu, Zv, Zw, Zx, Zy, Zz, Ua, Ub, Uc, Ud, Ue, Uf, Ug, Uh, Ui, Uj, Uk, Ul, Um, Un, Uo, Up, Uq, Ur, Us, Ut, Uu, Uv, Uw, Ux, Uy, Uz, Da, Db, Dc, .int .i64 kk, .slice (some ⟨A4, 0, none⟩) n c4, .slice (some ⟨A3, 0, none⟩) n c3, z.v, c.v, u.v, .agg #[.int .u64 u.x0, .int .u64 u.x1, .int .u64 u.x2, .int .u64 u.x3, .slice (some ⟨N6, 0, none⟩) n n], c.v, v.v, .slice (some ⟨A6, 0, none⟩) n c6, Dn, Do, Dp, Dq, Dr, Ds, Dt, Du, Dv, Dw, Dx, Dy, Dz, Ja], []⟩ w := by
 unfold E4.v
 refine wpAnyH_ready (rs := [10, 16]) (by kernel_rfl) (by simp) ?_
 refine AllReadyH.cons (o := pe15o_10) rfl (fun K hK => ?_) (AllReadyH.cons (o := pe15o_16) rfl (fun K hK => ?_) AllReadyH.nil)
 ·unfold pe15o_10
  have HH := hidden hH0
  clear hH0
  go_simp
  refine (C10.out _ HH.out).mono ?_
  rintro e wn1 ⟨N10, rfl, hN, hR, hb⟩
  have NE1029 := hidden ((fun e => by have := there_lt TH29.out; omega : N10 ≠ A29))
  replace RA := hidden (RA.out.keep hb)
  replace TH29 := hidden (Li.there_bl TH29.out hb)
  replace R29 := hidden (range_bl R29.out hb)
  have RB := hidden (hR)
  have GE10 := hidden ((by have := HH.out.size; omega : W.heap.size ≤ N10))
  have SN := hidden (bl_trans HH.out hb)
  clear HH hb hN hR
  go_wp2_with fail
  refine hK.out _ _ SN.out (fun hH1 => ?_)
  clear hK K SN
  refine tk 11 pe15o_11 (.agg #[.int .u64 v.x0, .int .u64 v.x1, .int .u64 v.x2, .int .u64 v.x3, .slice (some ⟨N10, 0, none⟩) n n]) rfl (by kernel_rfl) hH1 rfl (fun w0 hSw => ?_) ?_
  ·(unfold pe15o_11; clear hSw; go_simp)
  simp only [pe15o_11, Act.put, sA, sB, sC]
  exact pe15_s13 hn1 cz0 cz1 cz2 cz3 cc0 cc1 cc2 cc3 C5 C6 C8 C10 C12 HQ _ hH1 RA GE6 RB GE10 TH29 R29 GE29 NE629 NE1029
 ·unfold pe15o_16
  have HH := hidden hH0
  clear hH0
  refine wp_allocP rfl (fun A28 wn1 hA hb hth hrg => ?_)
  have NE628 := hidden ((fun e => by have := rl_lt RA.out hn1; omega : N6 ≠ A28))
  have NE89 := hidden ((fun e => by have := there_lt TH29.out; omega : A28 ≠ A29))
  replace RA := hidden (RA.out.keep hb)
  replace TH29 := hidden (Li.there_bl TH29.out hb)
  replace R29 := hidden (range_bl R29.out hb)
  have GE28 := hidden ((by have := HH.out.size; omega : W.heap.size ≤ A28))
  have TH28 := hidden (hth)
  have R28 := hidden (hrg)
  have SN := hidden (bl_trans HH.out hb)
  clear HH hA hb hth hrg
  simp only [Act.put, sA, sB, sC]
  refine hK.out _ _ SN.out (fun hH1 => ?_)
  clear hK K SN
  exact pe15_s15 hn1 cz0 cz1 cz2 cz3 cc0 cc1 cc2 cc3 C5 C6 C8 C10 C12 HQ _ hH1 RA GE6 TH28 R28 GE28 TH29 R29 GE29 NE628 NE629 NE89
def pe15_s3 (w : World) (hH0 : Below W.heap.size W w) (RA : Hid (Rl w N6 0 n fa)) (GE6 : Hid (W.heap.size ≤ N6)) : wpAnyH Tryz.prog .any pe15o (NoPanic Q) (fun x => Below W.heap.size W x) 10 #[true, true, true, true, true, true, true, true, true, true, false, false, false, false, false, false, false, false, false, false] ⟨#[Xa, Xb, .int .i64 kk, .slice (some ⟨A3, 0, none⟩) n c3, .slice (some ⟨A4, 0, none⟩) n c4, Xf, .slice (some ⟨A6, 0, none⟩) n c6, Xh, Xi, Xj, Xk, Xl, Xm, .pointer (some ⟨T13, 0, none⟩), Xo, Xp, Xq, Xr, Xs, Xt, Xu, Xv, Xw, Xx, Xy, Xz, .pointer (some ⟨T26, 0, none⟩), Yb, Yc, Yd, Ye, Yf, Yg, Yh, Yi, Yj, Yk, Yl, Ym, Yn, Yo, Yp, Yq, Yr, Ys, Yt, Yu, Yv, Yw, Yx, Yy, Yz, Za, Zb, Zc, Zd, Ze, Zf, Zg, Zh, Zi, Zj, Zk, Zl, Zm, Zn, Zo, Zp, Zq, Zr, Zs, Zt, Zu, Zv, Zw, Zx, Zy, Zz, Ua, Ub, Uc, Ud, Ue, Uf, Ug, Uh, Ui, Uj, Uk, Ul, Um, Un, Uo, Up, Uq, Ur, Us, Ut, Uu, Uv, Uw, Ux, Uy, Uz, Da, Db, Dc, .int .i64 kk, .slice (some ⟨A4, 0, none⟩) n c4, .slice (some ⟨A3, 0, none⟩) n c3, z.v, c.v, u.v, .agg #[.int .u64 u.x0, .int .u64 u.x1, .int .u64 u.x2, .int .u64 u.x3, .slice (some ⟨N6, 0, none⟩) n n], c.v, v.v, .slice (some ⟨A6, 0, none⟩) n c6, Dn, Do, Dp, Dq, Dr, Ds, Dt, Du, Dv, Dw, Dx, Dy, Dz, Ja], []⟩ w := by
 unfold E4.v
 refine wpAnyH_ready (rs := [10, 16, 17]) (by kernel_rfl) (by simp) ?_
 refine AllReadyH.cons (o := pe15o_10) rfl (fun K hK => ?_) (AllReadyH.cons (o := pe15o_16) rfl (fun K hK => ?_) (AllReadyH.cons (o := pe15o_17) rfl (fun K hK => ?_) AllReadyH.nil))
 ·unfold pe15o_10
  have HH := hidden hH0
  clear hH0
  go_simp
  refine (C10.out _ HH.out).mono ?_
  rintro e wn1 ⟨N10, rfl, hN, hR, hb⟩
  replace RA := hidden (RA.out.keep hb)
  have RB := hidden (hR)
  have GE10 := hidden ((by have := HH.out.size; omega : W.heap.size ≤ N10))
  have SN := hidden (bl_trans HH.out hb)
  clear HH hb hN hR
  go_wp2_with fail
  refine hK.out _ _ SN.out (fun hH1 => ?_)
  clear hK K SN
  refine tk 11 pe15o_11 (.agg #[.int .u64 v.x0, .int .u64 v.x1, .int .u64 v.x2, .int .u64 v.x3, .slice (some ⟨N10, 0, none⟩) n n]) rfl (by kernel_rfl) hH1 rfl (fun w0 hSw => ?_) ?_
  ·(unfold pe15o_11; clear hSw; go_simp)
  simp only [pe15o_11, Act.put, sA, sB, sC]
  exact pe15_s4 hn1 cz0 cz1 cz2 cz3 cc0 cc1 cc2 cc3 C5 C6 C8 C10 C12 HQ _ hH1 RA GE6 RB GE10
 ·unfold pe15o_16
  have HH := hidden hH0
  clear hH0
  refine wp_allocP rfl (fun A28 wn1 hA hb hth hrg => ?_)
  have NE628 := hidden ((fun e => by have := rl_lt RA.out hn1; omega : N6 ≠ A28))
  replace RA := hidden (RA.out.keep hb)
  have GE28 := hidden ((by have := HH.out.size; omega : W.heap.size ≤ A28))
  have TH28 := hidden (hth)
  have R28 := hidden (hrg)
  have SN := hidden (bl_trans HH.out hb)
  clear HH hA hb hth hrg
  simp only [Act.put, sA, sB, sC]
  refine hK.out _ _ SN.out (fun hH1 => ?_)
  clear hK K SN
  exact pe15_s14 hn1 cz0 cz1 cz2 cz3 cc0 cc1 cc2 cc3 C5 C6 C8 C10 C12 HQ _ hH1 RA GE6 TH28 R28 GE28 NE628
 ·unfold pe15o_17
  have HH := hidden hH0
  clear hH0
  refine wp_allocP rfl (fun A29 wn1 hA hb hth hrg => ?_)
  have NE629 := hidden ((fun e => by have := rl_lt RA.out hn1; omega : N6 ≠ A29))
  replace RA := hidden (RA.out.keep hb)
  have GE29 := hidden ((by have := HH.out.size; omega : W.heap.size ≤ A29))
  have TH29 := hidden (hth)
  have R29 := hidden (hrg)
  have SN := hidden (bl_trans HH.out hb)
  clear HH hA hb hth hrg
  simp only [Act.put, sA, sB, sC]
  refine hK.out _ _ SN.out (fun hH1 => ?_)
  clear hK K SN
  exact pe15_s16 hn1 cz0 cz1 cz2 cz3 cc0 cc1 cc2 cc3 C5 C6 C8 C10 C12 HQ _ hH1 RA GE6 TH29 R29 GE29 NE629
def pe15_s18 (w : World) (hH0 : Below W.heap.size W w) (RA : Hid (Rl w N6 0 n fa)) (GE6 : Hid (W.heap.size ≤ N6)) (TH28 : Hid (w.there A28 0 5)) (R28 : Hid (w.rangeAt A28 0 [.int .u64 0, .int .u64 0, .int .u64 0, .int .u64 0, .slice none 0 0])) (GE28 : Hid (W.heap.size ≤ A28)) (TH29 : Hid (w.there A29 0 5)) (R29 : Hid (w.rangeAt A29 0 [.int .u64 0, .int .u64 0, .int .u64 0, .int .u64 0, .slice none 0 0])) (GE29 : Hid (W.heap.size ≤ A29)) (NE628 : Hid (N6 ≠ A28)) (NE629 : Hid (N6 ≠ A29)) (NE89 : Hid (A28 ≠ A29)) : wpAnyH Tryz.prog .any pe15o (NoPanic Q) (fun x => Below W.heap.size W x) 9 #[true, true, true, true, true, true, true, true, false, true, false, false, false, false, false, false, true, true, false, false] ⟨#[Xa, Xb, .int .i64 kk, .slice (some ⟨A3, 0, none⟩) n c3, .slice (some ⟨A4, 0, none⟩) n c4, Xf, .slice (some ⟨A6, 0, none⟩) n c6, Xh, Xi, Xj, Xk, Xl, Xm, .pointer (some ⟨T13, 0, none⟩), Xo, Xp, Xq, Xr, Xs, Xt, Xu, Xv, Xw, Xx, Xy, Xz, .pointer (some ⟨T26, 0, none⟩), Yb, .pointer (some ⟨A28, 0, none⟩), .pointer (some ⟨A29, 0, none⟩), Ye, Yf, Yg, Yh, Yi, Yj, Yk, Yl, Ym, Yn, Yo, Yp, Yq, Yr, Ys, Yt, Yu, Yv, Yw, Yx, Yy, Yz, Za, Zb, Zc, Zd, Ze, Zf, Zg, Zh, Zi, Zj, Zk, Zl, Zm, Zn, Zo, Zp, Zq, Zr, Zs, Zt, Zu, Zv, Zw, Zx, Zy, Zz, Ua, Ub, Uc, Ud, Ue, Uf, Ug, Uh, Ui, Uj, Uk, Ul, Um, Un, Uo, Up, Uq, Ur, Us, Ut, Uu, Uv, Uw, Ux, Uy, Uz, Da, Db, Dc, .int .i64 kk, .slice (some ⟨A4, 0, none⟩) n c4, .slice (some ⟨A3, 0, none⟩) n c3, z.v, c.v, u.v, .agg #[.int .u64 u.x0, .int .u64 u.x1, .int .u64 u.x2, .int .u64 u.x3, .slice (some ⟨N6, 0, none⟩) n n], c.v, Dl, .slice (some ⟨A6, 0, none⟩) n c6, Dn, Do, Dp, Dq, Dr, Ds, Dt, Du, Dv, Dw, Dx, Dy, Dz, Ja], []⟩ w := by
 unfold E4.v
 refine wpAnyH_ready (rs := [8]) (by kernel_rfl) (by simp) ?_
 refine AllReadyH.cons (o := pe15o_8) rfl (fun K hK => ?_) AllReadyH.nil
 unfold pe15o_8
 have HH := hidden hH0
 clear hH0
 go_simp
 refine (C8.out _ HH.out).mono ?_
 rintro e wn1 ⟨rfl, hb⟩
 replace RA := hidden (RA.out.keep hb)
 replace TH28 := hidden (Li.there_bl TH28.out hb)
 replace R28 := hidden (range_bl R28.out hb)
 replace TH29 := hidden (Li.there_bl TH29.out hb)
 replace R29 := hidden (range_bl R29.out hb)
 have SN := hidden (bl_trans HH.out hb)
 clear HH hb
 go_wp2_with fail
 refine hK.out _ _ SN.out (fun hH1 => ?_)
 clear hK K SN
 exact pe15_s15 hn1 cz0 cz1 cz2 cz3 cc0 cc1 cc2 cc3 C5 C6 C8 C10 C12 HQ _ hH1 RA GE6 TH28 R28 GE28 TH29 R29 GE29 NE628 NE629 NE89
def pe15_s17 (w : World) (hH0 : Below W.heap.size W w) (RA : Hid (Rl w N6 0 n fa)) (GE6 : Hid (W.heap.size ≤ N6)) (TH28 : Hid (w.there A28 0 5)) (R28 : Hid (w.rangeAt A28 0 [.int .u64 0, .int .u64 0, .int .u64 0, .int .u64 0, .slice none 0 0])) (GE28 : Hid (W.heap.size ≤ A28)) (NE628 : Hid (N6 ≠ A28)) : wpAnyH Tryz.prog .any pe15o (NoPanic Q) (fun x => Below W.heap.size W x) 10 #[true, true, true, true, true, true, true, true, false, true, false, false, false, false, false, false, true, false, false, false] ⟨#[Xa, Xb, .int .i64 kk, .slice (some ⟨A3, 0, none⟩) n c3, .slice (some ⟨A4, 0, none⟩) n c4, Xf, .slice (some ⟨A6, 0, none⟩) n c6, Xh, Xi, Xj, Xk, Xl, Xm, .pointer (some ⟨T13, 0, none⟩), Xo, Xp, Xq, Xr, Xs, Xt, Xu, Xv, Xw, Xx, Xy, Xz, .pointer (some ⟨T26, 0, none⟩), Yb, .pointer (some ⟨A28, 0, none⟩), Yd, Ye, Yf, Yg, Yh, Yi, Yj, Yk, Yl, Ym, Yn, Yo, Yp, Yq, Yr, Ys, Yt, Yu, Yv, Yw, Yx, Yy, Yz, Za, Zb, Zc, Zd, Ze, Zf, Zg, Zh, Zi, Zj, Zk, Zl, Zm, Zn, Zo, Zp, Zq, Zr, Zs, Zt, Zu, Zv, Zw, Zx, Zy, Zz, Ua, Ub, Uc, Ud, Ue, Uf, Ug, Uh, Ui, Uj, Uk, Ul, Um, Un, Uo, Up, Uq, Ur, Us, Ut, Uu, Uv, Uw, Ux, Uy, Uz, Da, Db, Dc, .int .i64 kk, .slice (some ⟨A4, 0, none⟩) n c4, .slice (some ⟨A3, 0, none⟩) n c3, z.v, c.v, u.v, .agg #[.int .u64 u.x0, .int .u64 u.x1, .int .u64 u.x2, .int .u64 u.x3, .slice (some ⟨N6, 0, none⟩) n n], c.v, Dl, .slice (some ⟨A6, 0, none⟩) n c6, Dn, Do, Dp, Dq, Dr, Ds, Dt, Du, Dv, Dw, Dx, Dy, Dz, Ja], []⟩ w := by
 unfold E4.v
 refine wpAnyH_ready (rs := [8, 17]) (by kernel_rfl) (by simp) ?_
 refine AllReadyH.cons (o := pe15o_8) rfl (fun K hK => ?_) (AllReadyH.cons (o := pe15o_17) rfl (fun K hK => ?_) AllReadyH.nil)
 ·unfold pe15o_8
  have HH := hidden hH0
  clear hH0
  go_simp
  refine (C8.out _ HH.out).mono ?_
  rintro e wn1 ⟨rfl, hb⟩
  replace RA := hidden (RA.out.keep hb)
  replace TH28 := hidden (Li.there_bl TH28.out hb)
  replace R28 := hidden (range_bl R28.out hb)
  have SN := hidden (bl_trans HH.out hb)
  clear HH hb
  go_wp2_with fail
  refine hK.out _ _ SN.out (fun hH1 => ?_)
  clear hK K SN
  exact pe15_s14 hn1 cz0 cz1 cz2 cz3 cc0 cc1 cc2 cc3 C5 C6 C8 C10 C12 HQ _ hH1 RA GE6 TH28 R28 GE28 NE628
 ·unfold pe15o_17
  have HH := hidden hH0
  clear hH0
  refine wp_allocP rfl (fun A29 wn1 hA hb hth hrg => ?_)
  have NE629 := hidden ((fun e => by have := rl_lt RA.out hn1; omega : N6 ≠ A29))
  have NE89 := hidden ((fun e => by have := there_lt TH28.out; omega : A28 ≠ A29))
  replace RA := hidden (RA.out.keep hb)
  replace TH28 := hidden (Li.there_bl TH28.out hb)
  replace R28 := hidden (range_bl R28.out hb)
  have GE29 := hidden ((by have := HH.out.size; omega : W.heap.size ≤ A29))
  have TH29 := hidden (hth)
  have R29 := hidden (hrg)
  have SN := hidden (bl_trans HH.out hb)
  clear HH hA hb hth hrg
  simp only [Act.put, sA, sB, sC]
  refine hK.out _ _ SN.out (fun hH1 => ?_)
  clear hK K SN
  exact pe15_s18 hn1 cz0 cz1 cz2 cz3 cc0 cc1 cc2 cc3 C5 C6 C8 C10 C12 HQ _ hH1 RA GE6 TH28 R28 GE28 TH29 R29 GE29 NE628 NE629 NE89
def pe15_s19 (w : World) (hH0 : Below W.heap.size W w) (RA : Hid (Rl w N6 0 n fa)) (GE6 : Hid (W.heap.size ≤ N6)) (TH29 : Hid (w.there A29 0 5)) (R29 : Hid (w.rangeAt A29 0 [.int .u64 0, .int .u64 0, .int .u64 0, .int .u64 0, .slice none 0 0])) (GE29 : Hid (W.heap.size ≤ A29)) (NE629 : Hid (N6 ≠ A29)) : wpAnyH Tryz.prog .any pe15o (NoPanic Q) (fun x => Below W.heap.size W x) 10 #[true, true, true, true, true, true, true, true, false, true, false, false, false, false, false, false, false, true, false, false] ⟨#[Xa, Xb, .int .i64 kk, .slice (some ⟨A3, 0, none⟩) n c3, .slice (some ⟨A4, 0, none⟩) n c4, Xf, .slice (some ⟨A6, 0, none⟩) n c6, Xh, Xi, Xj, Xk, Xl, Xm, .pointer (some ⟨T13, 0, none⟩), Xo, Xp, Xq, Xr, Xs, Xt, Xu, Xv, Xw, Xx, Xy, Xz, .pointer (some ⟨T26, 0, none⟩), Yb, Yc, .pointer (some ⟨A29, 0, none⟩), Ye, Yf, Yg, Yh, Yi, Yj, Yk, Yl, Ym, Yn, Yo, Yp, Yq, Yr, Ys, Yt, Yu, Yv, Yw, Yx, Yy, Yz, Za, Zb, Zc, Zd, Ze, Zf, Zg, Zh, Zi, Zj, Zk, Zl, Zm, Zn, Zo, Zp, Zq, Zr, Zs, Zt, Zu, Zv, Zw, Zx, Zy, Zz, Ua, Ub, Uc, Ud, Ue, Uf, Ug, Uh, Ui, Uj, Uk, Ul, Um, Un, Uo, Up, Uq, Ur, Us, Ut, Uu, Uv, Uw, Ux, Uy, Uz, Da, Db, Dc, .int .i64 kk, .slice (some ⟨A4, 0, none⟩) n c4, .slice (some ⟨A3, 0, none⟩) n c3, z.v, c.v, u.v, .agg #[.int .u64 u.x0, .int .u64 u.x1, .int .u64 u.x2, .int .u64 u.x3, .slice (some ⟨N6, 0, none⟩) n n], c.v, Dl, .slice (some ⟨A6, 0, none⟩) n c6, Dn, Do, Dp, Dq, Dr, Ds, Dt, Du, Dv, Dw, Dx, Dy, Dz, Ja], []⟩ w := by
 unfold E4.v
 refine wpAnyH_ready (rs := [8, 16]) (by kernel_rfl) (by simp) ?_
 refine AllReadyH.cons (o := pe15o_8) rfl (fun K hK => ?_) (AllReadyH.cons (o := pe15o_16) rfl (fun K hK => ?_) AllReadyH.nil)
 ·unfold pe15o_8
  have HH := hidden hH0
  clear hH0
  go_simp
  refine (C8.out _ HH.out).mono ?_
  rintro e wn1 ⟨rfl, hb⟩
  replace RA := hidden (RA.out.keep hb)
  replace TH29 := hidden (Li.there_bl TH29.out hb)
  replace R29 := hidden (range_bl R29.out hb)
  have SN := hidden (bl_trans HH.out hb)
  clear HH hb
  go_wp2_with fail
  refine hK.out _ _ SN.out (fun hH1 => ?_)
  clear hK K SN
  exact pe15_s16 hn1 cz0 cz1 cz2 cz3 cc0 cc1 cc2 cc3 C5 C6 C8 C10 C12 HQ _ hH1 RA GE6 TH29 R29 GE29 NE629
 ·unfold pe15o_16
  have HH := hidden hH0
  clear hH0
  refine wp_allocP rfl (fun A28 wn1 hA hb hth hrg => ?_)
  have NE628 := hidden ((fun e => by have := rl_lt RA.out hn1; omega : N6 ≠ A28))
  have NE89 := hidden ((fun e => by have := there_lt TH29.out; omega : A28 ≠ A29))
  replace RA := hidden (RA.out.keep hb)
  replace TH29 := hidden (Li.there_bl TH29.out hb)
  replace R29 := hidden (range_bl R29.out hb)
  have GE28 := hidden ((by have := HH.out.size; omega : W.heap.size ≤ A28))
  have TH28 := hidden (hth)
  have R28 := hidden (hrg)
  have SN := hidden (bl_trans HH.out hb)
  clear HH hA hb hth hrg
  simp only [Act.put, sA, sB, sC]
  refine hK.out _ _ SN.out (fun hH1 => ?_)
  clear hK K SN
  exact pe15_s18 hn1 cz0 cz1 cz2 cz3 cc0 cc1 cc2 cc3 C5 C6 C8 C10 C12 HQ _ hH1 RA GE6 TH28 R28 GE28 TH29 R29 GE29 NE628 NE629 NE89
def pe15_s2 (w : World) (hH0 : Below W.heap.size W w) (RA : Hid (Rl w N6 0 n fa)) (GE6 : Hid (W.heap.size ≤ N6)) : wpAnyH Tryz.prog .any pe15o (NoPanic Q) (fun x => Below W.heap.size W x) 11 #[true, true, true, true, true, true, true, true, false, true, false, false, false, false, false, false, false, false, false, false] ⟨#[Xa, Xb, .int .i64 kk, .slice (some ⟨A3, 0, none⟩) n c3, .slice (some ⟨A4, 0, none⟩) n c4, Xf, .slice (some ⟨A6, 0, none⟩) n c6, Xh, Xi, Xj, Xk, Xl, Xm, .pointer (some ⟨T13, 0, none⟩), Xo, Xp, Xq, Xr, Xs, Xt, Xu, Xv, Xw, Xx, Xy, Xz, .pointer (some ⟨T26, 0, none⟩), Yb, Yc, Yd, Ye, Yf, Yg, Yh, Yi, Yj, Yk, Yl, Ym, Yn, Yo, Yp, Yq, Yr, Ys, Yt, Yu, Yv, Yw, Yx, Yy, Yz, Za, Zb, Zc, Zd, Ze, Zf, Zg, Zh, Zi, Zj, Zk, Zl, Zm, Zn, Zo, Zp, Zq, Zr, Zs, Zt, Zu, Zv, Zw, Zx, Zy, Zz, Ua, Ub, Uc, Ud, Ue, Uf, Ug, Uh, Ui, Uj, Uk, Ul, Um, Un, Uo, Up, Uq, Ur, Us, Ut, Uu, Uv, Uw, Ux, Uy, Uz, Da, Db, Dc, .int .i64 kk, .slice (some ⟨A4, 0, none⟩) n c4, .slice (some ⟨A3, 0, none⟩) n c3, z.v, c.v, u.v, .agg #[.int .u64 u.x0, .int .u64 u.x1, .int .u64 u.x2, .int .u64 u.x3, .slice (some ⟨N6, 0, none⟩) n n], c.v, Dl, .slice (some ⟨A6, 0, none⟩) n c6, Dn, Do, Dp, Dq, Dr, Ds, Dt, Du, Dv, Dw, Dx, Dy, Dz, Ja], []⟩ w := by
 unfold E4.v
 refine wpAnyH_ready (rs := [8, 16, 17]) (by kernel_rfl) (by simp) ?_
 refine AllReadyH.cons (o := pe15o_8) rfl (fun K hK => ?_) (AllReadyH.cons (o := pe15o_16) rfl (fun K hK => ?_) (AllReadyH.cons (o := pe15o_17) rfl (fun K hK => ?_) AllReadyH.nil))
 ·unfold pe15o_8
  have HH := hidden hH0
  clear hH0
  go_simp
  refine (C8.out _ HH.out).mono ?_
  rintro e wn1 ⟨rfl, hb⟩
  replace RA := hidden (RA.out.keep hb)
  have SN := hidden (bl_trans HH.out hb)
  clear HH hb
  go_wp2_with fail
  refine hK.out _ _ SN.out (fun hH1 => ?_)
  clear hK K SN
  exact pe15_s3 hn1 cz0 cz1 cz2 cz3 cc0 cc1 cc2 cc3 C5 C6 C8 C10 C12 HQ _ hH1 RA GE6
 ·unfold pe15o_16
  have HH := hidden hH0
  clear hH0
  refine wp_allocP rfl (fun A28 wn1 hA hb hth hrg => ?_)
  have NE628 := hidden ((fun e => by have := rl_lt RA.out hn1; omega : N6 ≠ A28))
  replace RA := hidden (RA.out.keep hb)
  have GE28 := hidden ((by have := HH.out.size; omega : W.heap.size ≤ A28))
  have TH28 := hidden (hth)
  have R28 := hidden (hrg)
  have SN := hidden (bl_trans HH.out hb)
  clear HH hA hb hth hrg
  simp only [Act.put, sA, sB, sC]
  refine hK.out _ _ SN.out (fun hH1 => ?_)
  clear hK K SN
  exact pe15_s17 hn1 cz0 cz1 cz2 cz3 cc0 cc1 cc2 cc3 C5 C6 C8 C10 C12 HQ _ hH1 RA GE6 TH28 R28 GE28 NE628
 ·unfold pe15o_17
  have HH := hidden hH0
  clear hH0
  refine wp_allocP rfl (fun A29 wn1 hA hb hth hrg => ?_)
  have NE629 := hidden ((fun e => by have := rl_lt RA.out hn1; omega : N6 ≠ A29))
  replace RA := hidden (RA.out.keep hb)
  have GE29 := hidden ((by have := HH.out.size; omega : W.heap.size ≤ A29))
  have TH29 := hidden (hth)
  have R29 := hidden (hrg)
  have SN := hidden (bl_trans HH.out hb)
  clear HH hA hb hth hrg
  simp only [Act.put, sA, sB, sC]
  refine hK.out _ _ SN.out (fun hH1 => ?_)
  clear hK K SN
  exact pe15_s19 hn1 cz0 cz1 cz2 cz3 cc0 cc1 cc2 cc3 C5 C6 C8 C10 C12 HQ _ hH1 RA GE6 TH29 R29 GE29 NE629
def pe15_s21 (w : World) (hH0 : Below W.heap.size W w) (TH28 : Hid (w.there A28 0 5)) (R28 : Hid (w.rangeAt A28 0 [.int .u64 0, .int .u64 0, .int .u64 0, .int .u64 0, .slice none 0 0])) (GE28 : Hid (W.heap.size ≤ A28)) (TH29 : Hid (w.there A29 0 5)) (R29 : Hid (w.rangeAt A29 0 [.int .u64 0, .int .u64 0, .int .u64 0, .int .u64 0, .slice none 0 0])) (GE29 : Hid (W.heap.size ≤ A29)) (NE89 : Hid (A28 ≠ A29)) : wpAnyH Tryz.prog .any pe15o (NoPanic Q) (fun x => Below W.heap.size W x) 10 #[true, true, true, true, true, true, false, true, false, true, false, false, false, false, false, false, true, true, false, false] ⟨#[Xa, Xb, .int .i64 kk, .slice (some ⟨A3, 0, none⟩) n c3, .slice (some ⟨A4, 0, none⟩) n c4, Xf, .slice (some ⟨A6, 0, none⟩) n c6, Xh, Xi, Xj, Xk, Xl, Xm, .pointer (some ⟨T13, 0, none⟩), Xo, Xp, Xq, Xr, Xs, Xt, Xu, Xv, Xw, Xx, Xy, Xz, .pointer (some ⟨T26, 0, none⟩), Yb, .pointer (some ⟨A28, 0, none⟩), .pointer (some ⟨A29, 0, none⟩), Ye, Yf, Yg, Yh, Yi, Yj, Yk, Yl, Ym, Yn, Yo, Yp, Yq, Yr, Ys, Yt, Yu, Yv, Yw, Yx, Yy, Yz, Za, Zb, Zc, Zd, Ze, Zf, Zg, Zh, Zi, Zj, Zk, Zl, Zm, Zn, Zo, Zp, Zq, Zr, Zs, Zt, Zu, Zv, Zw, Zx, Zy, Zz, Ua, Ub, Uc, Ud, Ue, Uf, Ug, Uh, Ui, Uj, Uk, Ul, Um, Un, Uo, Up, Uq, Ur, Us, Ut, Uu, Uv, Uw, Ux, Uy, Uz, Da, Db, Dc, .int .i64 kk, .slice (some ⟨A4, 0, none⟩) n c4, .slice (some ⟨A3, 0, none⟩) n c3, z.v, c.v, u.v, Dj, c.v, Dl, .slice (some ⟨A6, 0, none⟩) n c6, Dn, Do, Dp, Dq, Dr, Ds, Dt, Du, Dv, Dw, Dx, Dy, Dz, Ja], []⟩ w := by
 unfold E4.v
 refine wpAnyH_ready (rs := [6]) (by kernel_rfl) (by simp) ?_
 refine AllReadyH.cons (o := pe15o_6) rfl (fun K hK => ?_) AllReadyH.nil
 unfold pe15o_6
 have HH := hidden hH0
 clear hH0
 go_simp
 refine (C6.out _ HH.out).mono ?_
 rintro e wn1 ⟨N6, rfl, hN, hR, hb⟩
 have NE628 := hidden ((fun e => by have := there_lt TH28.out; omega : N6 ≠ A28))
 have NE629 := hidden ((fun e => by have := there_lt TH29.out; omega : N6 ≠ A29))
 replace TH28 := hidden (Li.there_bl TH28.out hb)
 replace R28 := hidden (range_bl R28.out hb)
 replace TH29 := hidden (Li.there_bl TH29.out hb)
 replace R29 := hidden (range_bl R29.out hb)
 have RA := hidden (hR)
 have GE6 := hidden ((by have := HH.out.size; omega : W.heap.size ≤ N6))
 have SN := hidden (bl_trans HH.out hb)
 clear HH hb hN hR
 go_wp2_with fail
 refine hK.out _ _ SN.out (fun hH1 => ?_)
 clear hK K SN
 exact pe15_s18 hn1 cz0 cz1 cz2 cz3 cc0 cc1 cc2 cc3 C5 C6 C8 C10 C12 HQ _ hH1 RA GE6 TH28 R28 GE28 TH29 R29 GE29 NE628 NE629 NE89
def pe15_s20 (w : World) (hH0 : Below W.heap.size W w) (TH28 : Hid (w.there A28 0 5)) (R28 : Hid (w.rangeAt A28 0 [.int .u64 0, .int .u64 0, .int .u64 0, .int .u64 0, .slice none 0 0])) (GE28 : Hid (W.heap.size ≤ A28)) : wpAnyH Tryz.prog .any pe15o (NoPanic Q) (fun x => Below W.heap.size W x) 11 #[true, true, true, true, true, true, false, true, false, true, false, false, false, false, false, false, true, false, false, false] ⟨#[Xa, Xb, .int .i64 kk, .slice (some ⟨A3, 0, none⟩) n c3, .slice (some ⟨A4, 0, none⟩) n c4, Xf, .slice (some ⟨A6, 0, none⟩) n c6, Xh, Xi, Xj, Xk, Xl, Xm, .pointer (some ⟨T13, 0, none⟩), Xo, Xp, Xq, Xr, Xs, Xt, Xu, Xv, Xw, Xx, Xy, Xz, .pointer (some ⟨T26, 0, none⟩), Yb, .pointer (some ⟨A28, 0, none⟩), Yd, Ye, Yf, Yg, Yh, Yi, Yj, Yk, Yl, Ym, Yn, Yo, Yp, Yq, Yr, Ys, Yt, Yu, Yv, Yw, Yx, Yy, Yz, Za, Zb, Zc, Zd, Ze, Zf, Zg, Zh, Zi, Zj, Zk, Zl, Zm, Zn, Zo, Zp, Zq, Zr, Zs, Zt, Zu, Zv, Zw, Zx, Zy, Zz, Ua, Ub, Uc, Ud, Ue, Uf, Ug, Uh, Ui, Uj, Uk, Ul, Um, Un, Uo, Up, Uq, Ur, Us, Ut, Uu, Uv, Uw, Ux, Uy, Uz, Da, Db, Dc, .int .i64 kk, .slice (some ⟨A4, 0, none⟩) n c4, .slice (some ⟨A3, 0, none⟩) n c3, z.v, c.v, u.v, Dj, c.v, Dl, .slice (some ⟨A6, 0, none⟩) n c6, Dn, Do, Dp, Dq, Dr, Ds, Dt, Du, Dv, Dw, Dx, Dy, Dz, Ja], []⟩ w := by
 unfold E4.v
 refine wpAnyH_ready (rs := [6, 17]) (by kernel_rfl) (by simp) ?_
 refine AllReadyH.cons (o := pe15o_6) rfl (fun K hK => ?_) (AllReadyH.cons (o := pe15o_17) rfl (fun K hK => ?_) AllReadyH.nil)
 ·unfold pe15o_6
  have HH := hidden hH0
  clear hH0
  go_simp
  refine (C6.out _ HH.out).mono ?_
  rintro e wn1 ⟨N6, rfl, hN, hR, hb⟩
  have NE628 := hidden ((fun e => by have := there_lt TH28.out; omega : N6 ≠ A28))
  replace TH28 := hidden (Li.there_bl TH28.out hb)
  replace R28 := hidden (range_bl R28.out hb)
  have RA := hidden (hR)
  have GE6 := hidden ((by have := HH.out.size; omega : W.heap.size ≤ N6))
  have SN := hidden (bl_trans HH.out hb)
  clear HH hb hN hR
  go_wp2_with fail
  refine hK.out _ _ SN.out (fun hH1 => ?_)
  clear hK K SN
  exact pe15_s17 hn1 cz0 cz1 cz2 cz3 cc0 cc1 cc2 cc3 C5 C6 C8 C10 C12 HQ _ hH1 RA GE6 TH28 R28 GE28 NE628
 ·unfold pe15o_17
  have HH := hidden hH0
  clear hH0
  refine wp_allocP rfl (fun A29 wn1 hA hb hth hrg => ?_)
  have NE89 := hidden ((fun e => by have := there_lt TH28.out; omega : A28 ≠ A29))
  replace TH28 := hidden (Li.there_bl TH28.out hb)
  replace R28 := hidden (range_bl R28.out hb)
  have GE29 := hidden ((by have := HH.out.size; omega : W.heap.size ≤ A29))
  have TH29 := hidden (hth)
  have R29 := hidden (hrg)
  have SN := hidden (bl_trans HH.out hb)
  clear HH hA hb hth hrg
  simp only [Act.put, sA, sB, sC]
  refine hK.out _ _ SN.out (fun hH1 => ?_)
  clear hK K SN
  exact pe15_s21 hn1 cz0 cz1 cz2 cz3 cc0 cc1 cc2 cc3 C5 C6 C8 C10 C12 HQ _ hH1 TH28 R28 GE28 TH29 R29 GE29 NE89
def pe15_s22 (w : World) (hH0 : Below W.heap.size W w) (TH29 : Hid (w.there A29 0 5)) (R29 : Hid (w.rangeAt A29 0 [.int .u64 0, .int .u64 0, .int .u64 0, .int .u64 0, .slice none 0 0])) (GE29 : Hid (W.heap.size ≤ A29)) : wpAnyH Tryz.prog .any pe15o (NoPanic Q) (fun x => Below W.heap.size W x) 11 #[true, true, true, true, true, true, false, true, false, true, false, false, false, false, false, false, false, true, false, false] ⟨#[Xa, Xb, .int .i64 kk, .slice (some ⟨A3, 0, none⟩) n c3, .slice (some ⟨A4, 0, none⟩) n c4, Xf, .slice (some ⟨A6, 0, none⟩) n c6, Xh, Xi, Xj, Xk, Xl, Xm, .pointer (some ⟨T13, 0, none⟩), Xo, Xp, Xq, Xr, Xs, Xt, Xu, Xv, Xw, Xx, Xy, Xz, .pointer (some ⟨T26, 0, none⟩), Yb, Yc, .pointer (some ⟨A29, 0, none⟩), Ye, Yf, Yg, Yh, Yi, Yj, Yk, Yl, Ym, Yn, Yo, Yp, Yq, Yr, Ys, Yt, Yu, Yv, Yw, Yx, Yy, Yz, Za, Zb, Zc, Zd, Ze, Zf, Zg, Zh, Zi, Zj, Zk, Zl, Zm, Zn, Zo, Zp, Zq, Zr, Zs, Zt, Zu, Zv, Zw, Zx, Zy, Zz, Ua, Ub, Uc, Ud, Ue, Uf, Ug, Uh, Ui, Uj, Uk, Ul, Um, Un, Uo, Up, Uq, Ur, Us, Ut, Uu, Uv, Uw, Ux, Uy, Uz, Da, Db, Dc, .int .i64 kk, .slice (some ⟨A4, 0, none⟩) n c4, .slice (some ⟨A3, 0, none⟩) n c3, z.v, c.v, u.v, Dj, c.v, Dl, .slice (some ⟨A6, 0, none⟩) n c6, Dn, Do, Dp, Dq, Dr, Ds, Dt, Du, Dv, Dw, Dx, Dy, Dz, Ja], []⟩ w := by
 unfold E4.v
 refine wpAnyH_ready (rs := [6, 16]) (by kernel_rfl) (by simp) ?_
 refine AllReadyH.cons (o := pe15o_6) rfl (fun K hK => ?_) (AllReadyH.cons (o := pe15o_16) rfl (fun K hK => ?_) AllReadyH.nil)
 ·unfold pe15o_6
  have HH := hidden hH0
  clear hH0
  go_simp
  refine (C6.out _ HH.out).mono ?_
  rintro e wn1 ⟨N6, rfl, hN, hR, hb⟩
  have NE629 := hidden ((fun e => by have := there_lt TH29.out; omega : N6 ≠ A29))
  replace TH29 := hidden (Li.there_bl TH29.out hb)
  replace R29 := hidden (range_bl R29.out hb)
  have RA := hidden (hR)
  have GE6 := hidden ((by have := HH.out.size; omega : W.heap.size ≤ N6))
  have SN := hidden (bl_trans HH.out hb)
  clear HH hb hN hR
  go_wp2_with fail
  refine hK.out _ _ SN.out (fun hH1 => ?_)
  clear hK K SN
  exact pe15_s19 hn1 cz0 cz1 cz2 cz3 cc0 cc1 cc2 cc3 C5 C6 C8 C10 C12 HQ _ hH1 RA GE6 TH29 R29 GE29 NE629
 ·unfold pe15o_16
  have HH := hidden hH0
  clear hH0
  refine wp_allocP rfl (fun A28 wn1 hA hb hth hrg => ?_)
  have NE89 := hidden ((fun e => by have := there_lt TH29.out; omega : A28 ≠ A29))
  replace TH29 := hidden (Li.there_bl TH29.out hb)
  replace R29 := hidden (range_bl R29.out hb)
  have GE28 := hidden ((by have := HH.out.size; omega : W.heap.size ≤ A28))
  have TH28 := hidden (hth)
  have R28 := hidden (hrg)
  have SN := hidden (bl_trans HH.out hb)
  clear HH hA hb hth hrg
  simp only [Act.put, sA, sB, sC]
  refine hK.out _ _ SN.out (fun hH1 => ?_)
  clear hK K SN
  exact pe15_s21 hn1 cz0 cz1 cz2 cz3 cc0 cc1 cc2 cc3 C5 C6 C8 C10 C12 HQ _ hH1 TH28 R28 GE28 TH29 R29 GE29 NE89
def pe15_s1 (w : World) (hH0 : Below W.heap.size W w)  : wpAnyH Tryz.prog .any pe15o (NoPanic Q) (fun x => Below W.heap.size W x) 12 #[true, true, true, true, true, true, false, true, false, true, false, false, false, false, false, false, false, false, false, false] ⟨#[Xa, Xb, .int .i64 kk, .slice (some ⟨A3, 0, none⟩) n c3, .slice (some ⟨A4, 0, none⟩) n c4, Xf, .slice (some ⟨A6, 0, none⟩) n c6, Xh, Xi, Xj, Xk, Xl, Xm, .pointer (some ⟨T13, 0, none⟩), Xo, Xp, Xq, Xr, Xs, Xt, Xu, Xv, Xw, Xx, Xy, Xz, .pointer (some ⟨T26, 0, none⟩), Yb, Yc, Yd, Ye, Yf, Yg, Yh, Yi, Yj, Yk, Yl, Ym, Yn, Yo, Yp, Yq, Yr, Ys, Yt, Yu, Yv, Yw, Yx, Yy, Yz, Za, Zb, Zc, Zd, Ze, Zf, Zg, Zh, Zi, Zj, Zk, Zl, Zm, Zn, Zo, Zp, Zq, Zr, Zs, Zt, Zu, Zv, Zw, Zx, Zy, Zz, Ua, Ub, Uc, Ud, Ue, Uf, Ug, Uh, Ui, Uj, Uk, Ul, Um, Un, Uo, Up, Uq, Ur, Us, Ut, Uu, Uv, Uw, Ux, Uy, Uz, Da, Db, Dc, .int .i64 kk, .slice (some ⟨A4, 0, none⟩) n c4, .slice (some ⟨A3, 0, none⟩) n c3, z.v, c.v, u.v, Dj, c.v, Dl, .slice (some ⟨A6, 0, none⟩) n c6, Dn, Do, Dp, Dq, Dr, Ds, Dt, Du, Dv, Dw, Dx, Dy, Dz, Ja], []⟩ w := by
 unfold E4.v
 refine wpAnyH_ready (rs := [6, 16, 17]) (by kernel_rfl) (by simp) ?_
 refine AllReadyH.cons (o := pe15o_6) rfl (fun K hK => ?_) (AllReadyH.cons (o := pe15o_16) rfl (fun K hK => ?_) (AllReadyH.cons (o := pe15o_17) rfl (fun K hK => ?_) AllReadyH.nil))
 ·unfold pe15o_6
  have HH := hidden hH0
  clear hH0
  go_simp
  refine (C6.out _ HH.out).mono ?_
  rintro e wn1 ⟨N6, rfl, hN, hR, hb⟩
  have RA := hidden (hR)
  have GE6 := hidden ((by have := HH.out.size; omega : W.heap.size ≤ N6))
  have SN := hidden (bl_trans HH.out hb)
  clear HH hb hN hR
  go_wp2_with fail
  refine hK.out _ _ SN.out (fun hH1 => ?_)
  clear hK K SN
  exact pe15_s2 hn1 cz0 cz1 cz2 cz3 cc0 cc1 cc2 cc3 C5 C6 C8 C10 C12 HQ _ hH1 RA GE6
 ·unfold pe15o_16
  have HH := hidden hH0
  clear hH0
  refine wp_allocP rfl (fun A28 wn1 hA hb hth hrg => ?_)
  have GE28 := hidden ((by have := HH.out.size; omega : W.heap.size ≤ A28))
  have TH28 := hidden (hth)
  have R28 := hidden (hrg)
  have SN := hidden (bl_trans HH.out hb)
  clear HH hA hb hth hrg
  simp only [Act.put, sA, sB, sC]
  refine hK.out _ _ SN.out (fun hH1 => ?_)
  clear hK K SN
  exact pe15_s20 hn1 cz0 cz1 cz2 cz3 cc0 cc1 cc2 cc3 C5 C6 C8 C10 C12 HQ _ hH1 TH28 R28 GE28
 ·unfold pe15o_17
  have HH := hidden hH0
  clear hH0
  refine wp_allocP rfl (fun A29 wn1 hA hb hth hrg => ?_)
  have GE29 := hidden ((by have := HH.out.size; omega : W.heap.size ≤ A29))
  have TH29 := hidden (hth)
  have R29 := hidden (hrg)
  have SN := hidden (bl_trans HH.out hb)
  clear HH hA hb hth hrg
  simp only [Act.put, sA, sB, sC]
  refine hK.out _ _ SN.out (fun hH1 => ?_)
  clear hK K SN
  exact pe15_s22 hn1 cz0 cz1 cz2 cz3 cc0 cc1 cc2 cc3 C5 C6 C8 C10 C12 HQ _ hH1 TH29 R29 GE29
def pe15_s24 (w : World) (hH0 : Below W.heap.size W w) (TH28 : Hid (w.there A28 0 5)) (R28 : Hid (w.rangeAt A28 0 [.int .u64 0, .int .u64 0, .int .u64 0, .int .u64 0, .slice none 0 0])) (GE28 : Hid (W.heap.size ≤ A28)) (TH29 : Hid (w.there A29 0 5)) (R29 : Hid (w.rangeAt A29 0 [.int .u64 0, .int .u64 0, .int .u64 0, .int .u64 0, .slice none 0 0])) (GE29 : Hid (W.heap.size ≤ A29)) (NE89 : Hid (A28 ≠ A29)) : wpAnyH Tryz.prog .any pe15o (NoPanic Q) (fun x => Below W.heap.size W x) 11 #[true, true, true, true, true, false, false, true, false, true, false, false, false, false, false, false, true, true, false, false] ⟨#[Xa, Xb, .int .i64 kk, .slice (some ⟨A3, 0, none⟩) n c3, .slice (some ⟨A4, 0, none⟩) n c4, Xf, .slice (some ⟨A6, 0, none⟩) n c6, Xh, Xi, Xj, Xk, Xl, Xm, .pointer (some ⟨T13, 0, none⟩), Xo, Xp, Xq, Xr, Xs, Xt, Xu, Xv, Xw, Xx, Xy, Xz, .pointer (some ⟨T26, 0, none⟩), Yb, .pointer (some ⟨A28, 0, none⟩), .pointer (some ⟨A29, 0, none⟩), Ye, Yf, Yg, Yh, Yi, Yj, Yk, Yl, Ym, Yn, Yo, Yp, Yq, Yr, Ys, Yt, Yu, Yv, Yw, Yx, Yy, Yz, Za, Zb, Zc, Zd, Ze, Zf, Zg, Zh, Zi, Zj, Zk, Zl, Zm, Zn, Zo, Zp, Zq, Zr, Zs, Zt, Zu, Zv, Zw, Zx, Zy, Zz, Ua, Ub, Uc, Ud, Ue, Uf, Ug, Uh, Ui, Uj, Uk, Ul, Um, Un, Uo, Up, Uq, Ur, Us, Ut, Uu, Uv, Uw, Ux, Uy, Uz, Da, Db, Dc, .int .i64 kk, .slice (some ⟨A4, 0, none⟩) n c4, .slice (some ⟨A3, 0, none⟩) n c3, z.v, c.v, Di, Dj, c.v, Dl, .slice (some ⟨A6, 0, none⟩) n c6, Dn, Do, Dp, Dq, Dr, Ds, Dt, Du, Dv, Dw, Dx, Dy, Dz, Ja], []⟩ w := by
 unfold E4.v
 refine wpAnyH_ready (rs := [5]) (by kernel_rfl) (by simp) ?_
 refine AllReadyH.cons (o := pe15o_5) rfl (fun K hK => ?_) AllReadyH.nil
 unfold pe15o_5
 have HH := hidden hH0
 clear hH0
 go_simp
 refine (C5.out _ HH.out).mono ?_
 rintro e wn1 ⟨rfl, hb⟩
 replace TH28 := hidden (Li.there_bl TH28.out hb)
 replace R28 := hidden (range_bl R28.out hb)
 replace TH29 := hidden (Li.there_bl TH29.out hb)
 replace R29 := hidden (range_bl R29.out hb)
 have SN := hidden (bl_trans HH.out hb)
 clear HH hb
 go_wp2_with fail
 refine hK.out _ _ SN.out (fun hH1 => ?_)
 clear hK K SN
 exact pe15_s21 hn1 cz0 cz1 cz2 cz3 cc0 cc1 cc2 cc3 C5 C6 C8 C10 C12 HQ _ hH1 TH28 R28 GE28 TH29 R29 GE29 NE89
def pe15_s23 (w : World) (hH0 : Below W.heap.size W w) (TH28 : Hid (w.there A28 0 5)) (R28 : Hid (w.rangeAt A28 0 [.int .u64 0, .int .u64 0, .int .u64 0, .int .u64 0, .slice none 0 0])) (GE28 : Hid (W.heap.size ≤ A28)) : wpAnyH Tryz.prog .any pe15o (NoPanic Q) (fun x => Below W.heap.size W x) 12 #[true, true, true, true, true, false, false, true, false, true, false, false, false, false, false, false, true, false, false, false] ⟨#[Xa, Xb, .int .i64 kk, .slice (some ⟨A3, 0, none⟩) n c3, .slice (some ⟨A4, 0, none⟩) n c4, Xf, .slice (some ⟨A6, 0, none⟩) n c6, Xh, Xi, Xj, Xk, Xl, Xm, .pointer (some ⟨T13, 0, none⟩), Xo, Xp, Xq, Xr, Xs, Xt, Xu, Xv, Xw, Xx, Xy, Xz, .pointer (some ⟨T26, 0, none⟩), Yb, .pointer (some ⟨A28, 0, none⟩), Yd, Ye, Yf, Yg, Yh, Yi, Yj, Yk, Yl, Ym, Yn, Yo, Yp, Yq, Yr, Ys, Yt, Yu, Yv, Yw, Yx, Yy, Yz, Za, Zb, Zc, Zd, Ze, Zf, Zg, Zh, Zi, Zj, Zk, Zl, Zm, Zn, Zo, Zp, Zq, Zr, Zs, Zt, Zu, Zv, Zw, Zx, Zy, Zz, Ua, Ub, Uc, Ud, Ue, Uf, Ug, Uh, Ui, Uj, Uk, Ul, Um, Un, Uo, Up, Uq, Ur, Us, Ut, Uu, Uv, Uw, Ux, Uy, Uz, Da, Db, Dc, .int .i64 kk, .slice (some ⟨A4, 0, none⟩) n c4, .slice (some ⟨A3, 0, none⟩) n c3, z.v, c.v, Di, Dj, c.v, Dl, .slice (some ⟨A6, 0, none⟩) n c6, Dn, Do, Dp, Dq, Dr, Ds, Dt, Du, Dv, Dw, Dx, Dy, Dz, Ja], []⟩ w := by
 unfold E4.v
 refine wpAnyH_ready (rs := [5, 17]) (by kernel_rfl) (by simp) ?_
 refine AllReadyH.cons (o := pe15o_5) rfl (fun K hK => ?_) (AllReadyH.cons (o := pe15o_17) rfl (fun K hK => ?_) AllReadyH.nil)
 ·unfold pe15o_5
  have HH := hidden hH0
  clear hH0
  go_simp
  refine (C5.out _ HH.out).mono ?_
  rintro e wn1 ⟨rfl, hb⟩
  replace TH28 := hidden (Li.there_bl TH28.out hb)
  replace R28 := hidden (range_bl R28.out hb)
  have SN := hidden (bl_trans HH.out hb)
  clear HH hb
  go_wp2_with fail
  refine hK.out _ _ SN.out (fun hH1 => ?_)
  clear hK K SN
  exact pe15_s20 hn1 cz0 cz1 cz2 cz3 cc0 cc1 cc2 cc3 C5 C6 C8 C10 C12 HQ _ hH1 TH28 R28 GE28
 ·unfold pe15o_17
  have HH := hidden hH0
  clear hH0
  refine wp_allocP rfl (fun A29 wn1 hA hb hth hrg => ?_)
  have NE89 := hidden ((fun e => by have := there_lt TH28.out; omega : A28 ≠ A29))
  replace TH28 := hidden (Li.there_bl TH28.out hb)
  replace R28 := hidden (range_bl R28.out hb)
  have GE29 := hidden ((by have := HH.out.size; omega : W.heap.size ≤ A29))
  have TH29 := hidden (hth)
  have R29 := hidden (hrg)
  have SN := hidden (bl_trans HH.out hb)
  clear HH hA hb hth hrg
  simp only [Act.put, sA, sB, sC]
  refine hK.out _ _ SN.out (fun hH1 => ?_)
  clear hK K SN
  exact pe15_s24 hn1 cz0 cz1 cz2 cz3 cc0 cc1 cc2 cc3 C5 C6 C8 C10 C12 HQ _ hH1 TH28 R28 GE28 TH29 R29 GE29 NE89
def pe15_s25 (w : World) (hH0 : Below W.heap.size W w) (TH29 : Hid (w.there A29 0 5)) (R29 : Hid (w.rangeAt A29 0 [.int .u64 0, .int .u64 0, .int .u64 0, .int .u64 0, .slice none 0 0])) (GE29 : Hid (W.heap.size ≤ A29)) : wpAnyH Tryz.prog .any pe15o (NoPanic Q) (fun x => Below W.heap.size W x) 12 #[true, true, true, true, true, false, false, true, false, true, false, false, false, false, false, false, false, true, false, false] ⟨#[Xa, Xb, .int .i64 kk, .slice (some ⟨A3, 0, none⟩) n c3, .slice (some ⟨A4, 0, none⟩) n c4, Xf, .slice (some ⟨A6, 0, none⟩) n c6, Xh, Xi, Xj, Xk, Xl, Xm, .pointer (some ⟨T13, 0, none⟩), Xo, Xp, Xq, Xr, Xs, Xt, Xu, Xv, Xw, Xx, Xy, Xz, .pointer (some ⟨T26, 0, none⟩), Yb, Yc, .pointer (some ⟨A29, 0, none⟩), Ye, Yf, Yg, Yh, Yi, Yj, Yk, Yl, Ym, Yn, Yo, Yp, Yq, Yr, Ys, Yt, Yu, Yv, Yw, Yx, Yy, Yz, Za, Zb, Zc, Zd, Ze, Zf, Zg, Zh, Zi, Zj, Zk, Zl, Zm, Zn, Zo, Zp, Zq, Zr, Zs, Zt, Zu, Zv, Zw, Zx, Zy, Zz, Ua, Ub, Uc, Ud, Ue, Uf, Ug, Uh, Ui, Uj, Uk, Ul, Um, Un, Uo, Up, Uq, Ur, Us, Ut, Uu, Uv, Uw, Ux, Uy, Uz, Da, Db, Dc, .int .i64 kk, .slice (some ⟨A4, 0, none⟩) n c4, .slice (some ⟨A3, 0, none⟩) n c3, z.v, c.v, Di, Dj, c.v, Dl, .slice (some ⟨A6, 0, none⟩) n c6, Dn, Do, Dp, Dq, Dr, Ds, Dt, Du, Dv, Dw, Dx, Dy, Dz, Ja], []⟩ w := by
 unfold E4.v
 refine wpAnyH_ready (rs := [5, 16]) (by kernel_rfl) (by simp) ?_
 refine AllReadyH.cons (o := pe15o_5) rfl (fun K hK => ?_) (AllReadyH.cons (o := pe15o_16) rfl (fun K hK => ?_) AllReadyH.nil)
 ·unfold pe15o_5
  have HH := hidden hH0
  clear hH0
  go_simp
  refine (C5.out _ HH.out).mono ?_
  rintro e wn1 ⟨rfl, hb⟩
  replace TH29 := hidden (Li.there_bl TH29.out hb)
  replace R29 := hidden (range_bl R29.out hb)
  have SN := hidden (bl_trans HH.out hb)
  clear HH hb
  go_wp2_with fail
  refine hK.out _ _ SN.out (fun hH1 => ?_)
  clear hK K SN
  exact pe15_s22 hn1 cz0 cz1 cz2 cz3 cc0 cc1 cc2 cc3 C5 C6 C8 C10 C12 HQ _ hH1 TH29 R29 GE29
 ·unfold pe15o_16
  have HH := hidden hH0
  clear hH0
  refine wp_allocP rfl (fun A28 wn1 hA hb hth hrg => ?_)
  have NE89 := hidden ((fun e => by have := there_lt TH29.out; omega : A28 ≠ A29))
  replace TH29 := hidden (Li.there_bl TH29.out hb)
  replace R29 := hidden (range_bl R29.out hb)
  have GE28 := hidden ((by have := HH.out.size; omega : W.heap.size ≤ A28))
  have TH28 := hidden (hth)
  have R28 := hidden (hrg)
  have SN := hidden (bl_trans HH.out hb)
  clear HH hA hb hth hrg
  simp only [Act.put, sA, sB, sC]
  refine hK.out _ _ SN.out (fun hH1 => ?_)
  clear hK K SN
  exact pe15_s24 hn1 cz0 cz1 cz2 cz3 cc0 cc1 cc2 cc3 C5 C6 C8 C10 C12 HQ _ hH1 TH28 R28 GE28 TH29 R29 GE29 NE89
def pe15_s0 (w : World) (hH0 : Below W.heap.size W w)  : wpAnyH Tryz.prog .any pe15o (NoPanic Q) (fun x => Below W.heap.size W x) 13 #[true, true, true, true, true, false, false, true, false, true, false, false, false, false, false, false, false, false, false, false] ⟨#[Xa, Xb, .int .i64 kk, .slice (some ⟨A3, 0, none⟩) n c3, .slice (some ⟨A4, 0, none⟩) n c4, Xf, .slice (some ⟨A6, 0, none⟩) n c6, Xh, Xi, Xj, Xk, Xl, Xm, .pointer (some ⟨T13, 0, none⟩), Xo, Xp, Xq, Xr, Xs, Xt, Xu, Xv, Xw, Xx, Xy, Xz, .pointer (some ⟨T26, 0, none⟩), Yb, Yc, Yd, Ye, Yf, Yg, Yh, Yi, Yj, Yk, Yl, Ym, Yn, Yo, Yp, Yq, Yr, Ys, Yt, Yu, Yv, Yw, Yx, Yy, Yz, Za, Zb, Zc, Zd, Ze, Zf, Zg, Zh, Zi, Zj, Zk, Zl, Zm, Zn, Zo, Zp, Zq, Zr, Zs, Zt, Zu, Zv, Zw, Zx, Zy, Zz, Ua, Ub, Uc, Ud, Ue, Uf, Ug, Uh, Ui, Uj, Uk, Ul, Um, Un, Uo, Up, Uq, Ur, Us, Ut, Uu, Uv, Uw, Ux, Uy, Uz, Da, Db, Dc, .int .i64 kk, .slice (some ⟨A4, 0, none⟩) n c4, .slice (some ⟨A3, 0, none⟩) n c3, z.v, c.v, Di, Dj, c.v, Dl, .slice (some ⟨A6, 0, none⟩) n c6, Dn, Do, Dp, Dq, Dr, Ds, Dt, Du, Dv, Dw, Dx, Dy, Dz, Ja], []⟩ w := by
 unfold E4.v
 refine wpAnyH_ready (rs := [5, 16, 17]) (by kernel_rfl) (by simp) ?_
 refine AllReadyH.cons (o := pe15o_5) rfl (fun K hK => ?_) (AllReadyH.cons (o := pe15o_16) rfl (fun K hK => ?_) (AllReadyH.cons (o := pe15o_17) rfl (fun K hK => ?_) AllReadyH.nil))
 ·unfold pe15o_5
  have HH := hidden hH0
  clear hH0
  go_simp
  refine (C5.out _ HH.out).mono ?_
  rintro e wn1 ⟨rfl, hb⟩
  have SN := hidden (bl_trans HH.out hb)
  clear HH hb
  go_wp2_with fail
  refine hK.out _ _ SN.out (fun hH1 => ?_)
  clear hK K SN
  exact pe15_s1 hn1 cz0 cz1 cz2 cz3 cc0 cc1 cc2 cc3 C5 C6 C8 C10 C12 HQ _ hH1
 ·unfold pe15o_16
  have HH := hidden hH0
  clear hH0
  refine wp_allocP rfl (fun A28 wn1 hA hb hth hrg => ?_)
  have GE28 := hidden ((by have := HH.out.size; omega : W.heap.size ≤ A28))
  have TH28 := hidden (hth)
  have R28 := hidden (hrg)
  have SN := hidden (bl_trans HH.out hb)
  clear HH hA hb hth hrg
  simp only [Act.put, sA, sB, sC]
  refine hK.out _ _ SN.out (fun hH1 => ?_)
  clear hK K SN
  exact pe15_s23 hn1 cz0 cz1 cz2 cz3 cc0 cc1 cc2 cc3 C5 C6 C8 C10 C12 HQ _ hH1 TH28 R28 GE28
 ·unfold pe15o_17
  have HH := hidden hH0
  clear hH0
  refine wp_allocP rfl (fun A29 wn1 hA hb hth hrg => ?_)
  have GE29 := hidden ((by have := HH.out.size; omega : W.heap.size ≤ A29))
  have TH29 := hidden (hth)
  have R29 := hidden (hrg)
  have SN := hidden (bl_trans HH.out hb)
  clear HH hA hb hth hrg
  simp only [Act.put, sA, sB, sC]
  refine hK.out _ _ SN.out (fun hH1 => ?_)
  clear hK K SN
  exact pe15_s25 hn1 cz0 cz1 cz2 cz3 cc0 cc1 cc2 cc3 C5 C6 C8 C10 C12 HQ _ hH1 TH29 R29 GE29
def pe15 : (Code.region 15 pe15o true).wp Tryz.prog Q ⟨#[Xa, Xb, .int .i64 kk, .slice (some ⟨A3, 0, none⟩) n c3, .slice (some ⟨A4, 0, none⟩) n c4, Xf, .slice (some ⟨A6, 0, none⟩) n c6, Xh, Xi, Xj, Xk, Xl, Xm, .pointer (some ⟨T13, 0, none⟩), Xo, Xp, Xq, Xr, Xs, Xt, Xu, Xv, Xw, Xx, Xy, Xz, .pointer (some ⟨T26, 0, none⟩), Yb, Yc, Yd, Ye, Yf, Yg, Yh, Yi, Yj, Yk, Yl, Ym, Yn, Yo, Yp, Yq, Yr, Ys, Yt, Yu, Yv, Yw, Yx, Yy, Yz, Za, Zb, Zc, Zd, Ze, Zf, Zg, Zh, Zi, Zj, Zk, Zl, Zm, Zn, Zo, Zp, Zq, Zr, Zs, Zt, Zu, Zv, Zw, Zx, Zy, Zz, Ua, Ub, Uc, Ud, Ue, Uf, Ug, Uh, Ui, Uj, Uk, Ul, Um, Un, Uo, Up, Uq, Ur, Us, Ut, Uu, Uv, Uw, Ux, Uy, Uz, Da, Db, Dc, Dd, De, Df, Dg, Dh, Di, Dj, Dk, Dl, Dm, Dn, Do, Dp, Dq, Dr, Ds, Dt, Du, Dv, Dw, Dx, Dy, Dz, Ja], []⟩ W := by
 refine wp_region_noPanic ?_
 refine wp_region_held_drew (S := fun x => Below W.heap.size W x) (by kernel_rfl) (bl_drew W) (fun hH0 => ?_)
 show wpAnyH Tryz.prog .any pe15o (NoPanic Q) (fun x => Below W.heap.size W x) 20 #[false, false, false, false, false, false, false, false, false, false, false, false, false, false, false, false, false, false, false, false] ⟨#[Xa, Xb, .int .i64 kk, .slice (some ⟨A3, 0, none⟩) n c3, .slice (some ⟨A4, 0, none⟩) n c4, Xf, .slice (some ⟨A6, 0, none⟩) n c6, Xh, Xi, Xj, Xk, Xl, Xm, .pointer (some ⟨T13, 0, none⟩), Xo, Xp, Xq, Xr, Xs, Xt, Xu, Xv, Xw, Xx, Xy, Xz, .pointer (some ⟨T26, 0, none⟩), Yb, Yc, Yd, Ye, Yf, Yg, Yh, Yi, Yj, Yk, Yl, Ym, Yn, Yo, Yp, Yq, Yr, Ys, Yt, Yu, Yv, Yw, Yx, Yy, Yz, Za, Zb, Zc, Zd, Ze, Zf, Zg, Zh, Zi, Zj, Zk, Zl, Zm, Zn, Zo, Zp, Zq, Zr, Zs, Zt, Zu, Zv, Zw, Zx, Zy, Zz, Ua, Ub, Uc, Ud, Ue, Uf, Ug, Uh, Ui, Uj, Uk, Ul, Um, Un, Uo, Up, Uq, Ur, Us, Ut, Uu, Uv, Uw, Ux, Uy, Uz, Da, Db, Dc, Dd, De, Df, Dg, Dh, Di, Dj, Dk, Dl, Dm, Dn, Do, Dp, Dq, Dr, Ds, Dt, Du, Dv, Dw, Dx, Dy, Dz, Ja], []⟩ W.drew
 refine tk 0 pe15o_0 (.int .i64 kk) rfl (by kernel_rfl) hH0 rfl (fun w0 hSw => ?_) ?_
 ·(unfold pe15o_0; clear hSw; go_simp)
 simp only [pe15o_0, Act.put, sA, sB, sC]
 refine tk 1 pe15o_1 (.slice (some ⟨A4, 0, none⟩) n c4) rfl (by kernel_rfl) hH0 rfl (fun w0 hSw => ?_) ?_
 ·(unfold pe15o_1; clear hSw; go_simp)
 simp only [pe15o_1, Act.put, sA, sB, sC]
 refine tk 2 pe15o_2 (.slice (some ⟨A3, 0, none⟩) n c3) rfl (by kernel_rfl) hH0 rfl (fun w0 hSw => ?_) ?_
 ·(unfold pe15o_2; clear hSw; go_simp)
 simp only [pe15o_2, Act.put, sA, sB, sC]
 refine tk 3 pe15o_3 (.agg #[.int .u64 z.x0, .int .u64 z.x1, .int .u64 z.x2, .int .u64 z.x3]) rfl (by kernel_rfl) hH0 rfl (fun w0 hSw => ?_) ?_
 ·(unfold pe15o_3; have hS : Below W.heap.size W w0 := hSw; have a0 := (cell_keep cz0 hS); have a1 := (cell_keep cz1 hS); have a2 := (cell_keep cz2 hS); have a3 := (cell_keep cz3 hS); clear hS hSw; go_simp)
 simp only [pe15o_3, Act.put, sA, sB, sC]
 refine tk 4 pe15o_4 (.agg #[.int .u64 c.x0, .int .u64 c.x1, .int .u64 c.x2, .int .u64 c.x3]) rfl (by kernel_rfl) hH0 rfl (fun w0 hSw => ?_) ?_
 ·(unfold pe15o_4; have hS : Below W.heap.size W w0 := hSw; have a0 := (cell_keep cc0 hS); have a1 := (cell_keep cc1 hS); have a2 := (cell_keep cc2 hS); have a3 := (cell_keep cc3 hS); clear hS hSw; go_simp)
 simp only [pe15o_4, Act.put, sA, sB, sC]
 refine tk 7 pe15o_7 (.agg #[.int .u64 c.x0, .int .u64 c.x1, .int .u64 c.x2, .int .u64 c.x3]) rfl (by kernel_rfl) hH0 rfl (fun w0 hSw => ?_) ?_
 ·(unfold pe15o_7; have hS : Below W.heap.size W w0 := hSw; have a0 := (cell_keep cc0 hS); have a1 := (cell_keep cc1 hS); have a2 := (cell_keep cc2 hS); have a3 := (cell_keep cc3 hS); clear hS hSw; go_simp)
 simp only [pe15o_7, Act.put, sA, sB, sC]
 refine tk 9 pe15o_9 (.slice (some ⟨A6, 0, none⟩) n c6) rfl (by kernel_rfl) hH0 rfl (fun w0 hSw => ?_) ?_
 ·(unfold pe15o_9; clear hSw; go_simp)
 simp only [pe15o_9, Act.put, sA, sB, sC]
 exact pe15_s0 hn1 cz0 cz1 cz2 cz3 cc0 cc1 cc2 cc3 C5 C6 C8 C10 C12 HQ _ hH0
end
open Go.RowKit
theorem lm_of {w : World} {b n : Nat} {g : Nat → E4} (h : Rl w b 0 n g) : Lm w (some ⟨b, 0, none⟩) n g := ⟨b, 0, fun _ => rfl, fun _ => h⟩
theorem frF (s r n A cx : Nat) (ks : Nat → E4) (R1 I1 cR1 cI1 : Nat) (g1 cn1 : Nat → Nat) (gs1 : Nat → Nat → E4) (im1 : Nat → E4) (w : World) (hT : Tb w) (ht0 : 0 < s) (hr1 : 1 ≤ r) (hr2 : r ≤ 64) (hn : n ≤ 20) (hn1 : 1 ≤ n) (C1 : Cb s w R1 I1 r n g1 cn1 gs1 im1) (hA : Rl w A 0 n ks) (ok : ∀ i, i < n → (ks i).ok) (lA : A < s) : ∀ x, Tr.Bt (fun k => k = s) w x → Calls Tryz.prog 28 #[.agg #[.slice (some ⟨R1, 0, none⟩) r cR1, .slice (some ⟨I1, 0, none⟩) r cI1, .int .u64 0, .int .u64 0, .int .u64 0, .int .u64 0, .slice (some ⟨A, 0, none⟩) n cx]] x (FrR x r) := by
 intro x hb
 refine (firstR R1 I1 r n cR1 cI1 cx g1 cn1 (some ⟨A, 0, none⟩) ⟨0, 0, 0, 0⟩ ks gs1 im1 x hr1 hr2 hn hn1 (Tr.tb_keep hT hb (by omega)) zok (lm_of (rl_bt hA hb (by omega))) ok (C1.bt hb (fun k e => by subst e; exact Nat.le_refl _)).c).mono ?_
 rintro e w' ⟨D, rfl, hD, hr, hbb⟩
 exact ⟨D, _, rfl, rl_of hr, fun i _ => lst_ok _, hbb⟩
theorem frS (s r n A cx : Nat) (ch : E4) (ks : Nat → E4) (R1 I1 cR1 cI1 : Nat) (g1 cn1 : Nat → Nat) (gs1 : Nat → Nat → E4) (im1 : Nat → E4) (w : World) (hT : Tb w) (ht0 : 0 < s) (hr1 : 1 ≤ r) (hr2 : r ≤ 64) (hn : n ≤ 20) (hn1 : 1 ≤ n) (oc : ch.ok) (C1 : Cb s w R1 I1 r n g1 cn1 gs1 im1) (hA : Rl w A 0 n ks) (ok : ∀ i, i < n → (ks i).ok) (lA : A < s) : ∀ x, Tr.Bt (fun k => k = s) w x → Calls Tryz.prog 29 #[.agg #[.slice (some ⟨R1, 0, none⟩) r cR1, .slice (some ⟨I1, 0, none⟩) r cI1, .int .u64 ch.x0, .int .u64 ch.x1, .int .u64 ch.x2, .int .u64 ch.x3, .slice (some ⟨A, 0, none⟩) n cx]] x (FrR x r) := by
 intro x hb
 refine (simR R1 I1 r n cR1 cI1 cx g1 cn1 (some ⟨A, 0, none⟩) ch ks gs1 im1 x hr1 hr2 hn hn1 (Tr.tb_keep hT hb (by omega)) oc (lm_of (rl_bt hA hb (by omega))) ok (C1.bt hb (fun k e => by subst e; exact Nat.le_refl _)).c).mono ?_
 rintro e w' ⟨D, rfl, hD, hr, hbb⟩
 exact ⟨D, _, rfl, rl_of hr, fun i _ => lst_ok _, hbb⟩
theorem prove1 (s r n A3 A4 A6 c3 c4 c6 : Nat) (t z c u v : E4) (xs ks ms : Nat → E4) (R1 I1 cR1 cI1 : Nat) (g1 cn1 : Nat → Nat) (gs1 : Nat → Nat → E4) (im1 : Nat → E4) (R2 I2 cR2 cI2 : Nat) (g2 cn2 : Nat → Nat) (gs2 : Nat → Nat → E4) (im2 : Nat → E4) (w : World) (hT : Tb w) (ht0 : 0 < s) (hr1 : 1 ≤ r) (hr2 : r ≤ 64) (hn : n ≤ 20) (hn1 : 1 ≤ n) (C1 : Cb s w R1 I1 r n g1 cn1 gs1 im1) (C2 : Cb s w R2 I2 r n g2 cn2 gs2 im2) (hS : Fz w s t) (ot : t.ok) (hz : ¬ t.n % Sm.L = 0) (hzt : lst t.n = z) (oc : c.ok)
  (r3 : Rl w A3 0 n xs) (r4 : Rl w A4 0 n ks) (r6 : Rl w A6 0 n ms) (o3 : ∀ i, i < n → (xs i).ok) (o4 : ∀ i, i < n → (ks i).ok) (o6 : ∀ i, i < n → (ms i).ok) (l3 : A3 < s) (l4 : A4 < s) (l6 : A6 < s) (hs : ∀ i, i < r → lst (Ff n xs gs1 i).n = lst (im1 i).n) (hu : lst (z.n - c.n) = u) (hv : lst c.n = v) :
  Calls Tryz.prog 10 #[.agg #[.slice (some ⟨R1, 0, none⟩) r cR1, .slice (some ⟨I1, 0, none⟩) r cI1], .agg #[.slice (some ⟨R2, 0, none⟩) r cR2, .slice (some ⟨I2, 0, none⟩) r cI2], .int .i64 1, .slice (some ⟨A3, 0, none⟩) n c3, .slice (some ⟨A4, 0, none⟩) n c4, .agg #[.int .u64 c.x0, .int .u64 c.x1, .int .u64 c.x2, .int .u64 c.x3], .slice (some ⟨A6, 0, none⟩) n c6, .iface 45 (.pointer (some ⟨s, 0, none⟩))] w fun e w' => ∃ N6 N10 : Nat, e = .returned (.tuple #[.agg #[.int .u64 u.x0, .int .u64 u.x1, .int .u64 u.x2, .int .u64 u.x3, .int .u64 v.x0, .int .u64 v.x1, .int .u64 v.x2, .int .u64 v.x3, .slice (some ⟨N6, 0, none⟩) n n, .slice (some ⟨N10, 0, none⟩) n n], .int .i64 0]) ∧ Rl w' N6 0 n (Fa ks xs u) ∧ Rl w' N10 0 n (Fl ms) ∧ w.heap.size ≤ N6 ∧ w.heap.size ≤ N10 ∧ Tr.Bt (fun k => k = s) w w' := by
 have M0 := (((((Mw.start w).new [.slice (some ⟨R1, 0, none⟩) r cR1, .slice (some ⟨I1, 0, none⟩) r cI1] 43).new [.slice (some ⟨R2, 0, none⟩) r cR2, .slice (some ⟨I2, 0, none⟩) r cI2] 43).new [.int .u64 c.x0, .int .u64 c.x1, .int .u64 c.x2, .int .u64 c.x3] 26).new [.int .u64 0, .int .u64 0, .int .u64 0, .int .u64 0, .int .u64 0, .int .u64 0, .int .u64 0, .int .u64 0, .slice none 0 0, .slice none 0 0] 34).new [.slice (some ⟨R1, 0, none⟩) r cR1, .slice (some ⟨I1, 0, none⟩) r cI1, .slice (some ⟨R2, 0, none⟩) r cR2, .slice (some ⟨I2, 0, none⟩) r cI2] 64
 simp only [World.size_alloc] at M0
 have M := hidden M0
 clear M0
 have ALL := hidden (And.intro hT (And.intro C1 (And.intro C2 (And.intro hS (And.intro r3 (And.intro r4 r6))))))
 have HSS := hidden hS.lt
 clear hT C1 C2 hS r3 r4 r6
 have FX2 : Hid (∀ y, Below w.heap.size w y → Calls Tryz.prog 25 #[.agg #[.slice (some ⟨R1, 0, none⟩) r cR1, .slice (some ⟨I1, 0, none⟩) r cI1], .slice (some ⟨y.heap.size, 0, none⟩) 2 2] (y.alloc (.cells #[.slice (some ⟨A3, 0, none⟩) n c3, .slice (some ⟨A4, 0, none⟩) n c4] 23)) fun e w' => e = .returned (.bool true) ∧ Below (y.alloc (.cells #[.slice (some ⟨A3, 0, none⟩) n c3, .slice (some ⟨A4, 0, none⟩) n c4] 23)).heap.size (y.alloc (.cells #[.slice (some ⟨A3, 0, none⟩) n c3, .slice (some ⟨A4, 0, none⟩) n c4] 23)) w') := hidden (fun y hy => fits_any R1 I1 r n cR1 cI1 y.heap.size 2 2 g1 cn1 gs1 im1 (fun j => if j = 0 then some ⟨A3, 0, none⟩ else some ⟨A4, 0, none⟩) (fun j => if j = 0 then c3 else c4) _ hr1 hr2 hn1 (by omega) ((ALL.out.2.1.keep (bl_trans hy (bl_alloc _ _))).c) (fun j hj => by
  obtain rfl | rfl : j = 0 ∨ j = 1 := by omega
  ·exact range_newM y [.slice (some ⟨A3, 0, none⟩) n c3, .slice (some ⟨A4, 0, none⟩) n c4] 23 0 _ rfl
  ·exact range_newM y [.slice (some ⟨A3, 0, none⟩) n c3, .slice (some ⟨A4, 0, none⟩) n c4] 23 1 _ rfl))
 have FX1 : Hid (∀ y, Below w.heap.size w y → Calls Tryz.prog 25 #[.agg #[.slice (some ⟨R2, 0, none⟩) r cR2, .slice (some ⟨I2, 0, none⟩) r cI2], .slice (some ⟨y.heap.size, 0, none⟩) 1 1] (y.alloc (.cells #[.slice (some ⟨A6, 0, none⟩) n c6] 23)) fun e w' => e = .returned (.bool true) ∧ Below (y.alloc (.cells #[.slice (some ⟨A6, 0, none⟩) n c6] 23)).heap.size (y.alloc (.cells #[.slice (some ⟨A6, 0, none⟩) n c6] 23)) w') := hidden (fun y hy => fits_any R2 I2 r n cR2 cI2 y.heap.size 1 1 g2 cn2 gs2 im2 (fun _ => some ⟨A6, 0, none⟩) (fun _ => c6) _ hr1 hr2 hn1 (by omega) ((ALL.out.2.2.1.keep (bl_trans hy (bl_alloc _ _))).c) (fun j hj => by
  obtain rfl : j = 0 := by omega
  exact range_newM y [.slice (some ⟨A6, 0, none⟩) n c6] 23 0 _ rfl))
 have HOL : Hid (∀ y, Below w.heap.size w y → Calls Tryz.prog 26 #[.agg #[.slice (some ⟨R1, 0, none⟩) r cR1, .slice (some ⟨I1, 0, none⟩) r cI1], .slice (some ⟨A3, 0, none⟩) n c3] y fun e w' => e = .returned (.int .i64 0) ∧ Below y.heap.size y w') := hidden (fun y hy => holdsR R1 I1 r n cR1 cI1 c3 g1 cn1 (some ⟨A3, 0, none⟩) xs gs1 im1 y hr1 hr2 hn hn1 (ALL.out.1.keep hy) (lm_of (ALL.out.2.2.2.2.1.keep hy)) o3 (ALL.out.2.1.keep hy).c hs)
 have ASK : Hid (∀ y, Below w.heap.size w y → Calls Tryz.prog 30 #[.iface 45 (.pointer (some ⟨s, 0, none⟩)), .iface 64 (.agg #[.slice (some ⟨R1, 0, none⟩) r cR1, .slice (some ⟨I1, 0, none⟩) r cI1, .slice (some ⟨R2, 0, none⟩) r cR2, .slice (some ⟨I2, 0, none⟩) r cI2]), .slice (some ⟨y.heap.size, 0, none⟩) 2 2] (y.alloc (.cells #[.func (.func 28) #[.agg #[.slice (some ⟨R1, 0, none⟩) r cR1, .slice (some ⟨I1, 0, none⟩) r cI1, .int .u64 0, .int .u64 0, .int .u64 0, .int .u64 0, .slice (some ⟨A4, 0, none⟩) n c4]] #[], .func (.func 29) #[.agg #[.slice (some ⟨R2, 0, none⟩) r cR2, .slice (some ⟨I2, 0, none⟩) r cI2, .int .u64 c.x0, .int .u64 c.x1, .int .u64 c.x2, .int .u64 c.x3, .slice (some ⟨A6, 0, none⟩) n c6]] #[]] 69)) fun e w' => e = .returned (.tuple #[.agg #[.int .u64 z.x0, .int .u64 z.x1, .int .u64 z.x2, .int .u64 z.x3], .int .i64 0]) ∧ Tr.Bt (fun k => k = s) (y.alloc (.cells #[.func (.func 28) #[.agg #[.slice (some ⟨R1, 0, none⟩) r cR1, .slice (some ⟨I1, 0, none⟩) r cI1, .int .u64 0, .int .u64 0, .int .u64 0, .int .u64 0, .slice (some ⟨A4, 0, none⟩) n c4]] #[], .func (.func 29) #[.agg #[.slice (some ⟨R2, 0, none⟩) r cR2, .slice (some ⟨I2, 0, none⟩) r cI2, .int .u64 c.x0, .int .u64 c.x1, .int .u64 c.x2, .int .u64 c.x3, .slice (some ⟨A6, 0, none⟩) n c6]] #[]] 69)) w') := hidden (fun y hy => by
  have hy2 := bl_trans hy (bl_alloc y (.cells #[.func (.func 28) #[.agg #[.slice (some ⟨R1, 0, none⟩) r cR1, .slice (some ⟨I1, 0, none⟩) r cI1, .int .u64 0, .int .u64 0, .int .u64 0, .int .u64 0, .slice (some ⟨A4, 0, none⟩) n c4]] #[], .func (.func 29) #[.agg #[.slice (some ⟨R2, 0, none⟩) r cR2, .slice (some ⟨I2, 0, none⟩) r cI2, .int .u64 c.x0, .int .u64 c.x1, .int .u64 c.x2, .int .u64 c.x3, .slice (some ⟨A6, 0, none⟩) n c6]] #[]] 69))
  exact askR s r n y.heap.size 28 29 2 (.agg #[.slice (some ⟨R1, 0, none⟩) r cR1, .slice (some ⟨I1, 0, none⟩) r cI1, .int .u64 0, .int .u64 0, .int .u64 0, .int .u64 0, .slice (some ⟨A4, 0, none⟩) n c4]) (.agg #[.slice (some ⟨R2, 0, none⟩) r cR2, .slice (some ⟨I2, 0, none⟩) r cI2, .int .u64 c.x0, .int .u64 c.x1, .int .u64 c.x2, .int .u64 c.x3, .slice (some ⟨A6, 0, none⟩) n c6]) t z hzt R1 I1 cR1 cI1 g1 cn1 gs1 im1 R2 I2 cR2 cI2 g2 cn2 gs2 im2 _ (ALL.out.1.keep hy2) ht0 hr1 hr2 (by omega) (ALL.out.2.1.keep hy2) (ALL.out.2.2.1.keep hy2) (ALL.out.2.2.2.1.keep hy2) ot hz (range_newM y [.func (.func 28) #[.agg #[.slice (some ⟨R1, 0, none⟩) r cR1, .slice (some ⟨I1, 0, none⟩) r cI1, .int .u64 0, .int .u64 0, .int .u64 0, .int .u64 0, .slice (some ⟨A4, 0, none⟩) n c4]] #[], .func (.func 29) #[.agg #[.slice (some ⟨R2, 0, none⟩) r cR2, .slice (some ⟨I2, 0, none⟩) r cI2, .int .u64 c.x0, .int .u64 c.x1, .int .u64 c.x2, .int .u64 c.x3, .slice (some ⟨A6, 0, none⟩) n c6]] #[]] 69 0 _ rfl) (range_newM y [.func (.func 28) #[.agg #[.slice (some ⟨R1, 0, none⟩) r cR1, .slice (some ⟨I1, 0, none⟩) r cI1, .int .u64 0, .int .u64 0, .int .u64 0, .int .u64 0, .slice (some ⟨A4, 0, none⟩) n c4]] #[], .func (.func 29) #[.agg #[.slice (some ⟨R2, 0, none⟩) r cR2, .slice (some ⟨I2, 0, none⟩) r cI2, .int .u64 c.x0, .int .u64 c.x1, .int .u64 c.x2, .int .u64 c.x3, .slice (some ⟨A6, 0, none⟩) n c6]] #[]] 69 1 _ rfl) (by have := HSS.out; have := hy.size; omega) (.inl rfl) (.inr rfl) (frF s r n A4 c4 ks R1 I1 cR1 cI1 g1 cn1 gs1 im1 _ (ALL.out.1.keep hy2) ht0 hr1 hr2 hn hn1 (ALL.out.2.1.keep hy2) (ALL.out.2.2.2.2.2.1.keep hy2) o4 l4) (frS s r n A6 c6 c ms R2 I2 cR2 cI2 g2 cn2 gs2 im2 _ (ALL.out.1.keep hy2) ht0 hr1 hr2 hn hn1 oc (ALL.out.2.2.1.keep hy2) (ALL.out.2.2.2.2.2.2.keep hy2) o6 l6))
 go_enter Tryz.func10, Tryz.ntmps10
 go_upto_region 2 with fail
 generalize ((((w.alloc (.cells #[.slice (some ⟨R1, 0, none⟩) r cR1, .slice (some ⟨I1, 0, none⟩) r cI1] 43)).alloc (.cells #[.slice (some ⟨R2, 0, none⟩) r cR2, .slice (some ⟨I2, 0, none⟩) r cI2] 43)).alloc (.cells #[.int .u64 c.x0, .int .u64 c.x1, .int .u64 c.x2, .int .u64 c.x3] 26)).alloc (.cells #[.int .u64 0, .int .u64 0, .int .u64 0, .int .u64 0, .int .u64 0, .int .u64 0, .int .u64 0, .int .u64 0, .slice none 0 0, .slice none 0 0] 34)).alloc (.cells #[.slice (some ⟨R1, 0, none⟩) r cR1, .slice (some ⟨I1, 0, none⟩) r cI1, .slice (some ⟨R2, 0, none⟩) r cR2, .slice (some ⟨I2, 0, none⟩) r cI2] 64) = w5 at *
 have p0 := (M.out.r (w.heap.size + 1 + 1 + 1 + 1, [.slice (some ⟨R1, 0, none⟩) r cR1, .slice (some ⟨I1, 0, none⟩) r cI1, .slice (some ⟨R2, 0, none⟩) r cR2, .slice (some ⟨I2, 0, none⟩) r cI2]) (by simp)).1 0 _ rfl; have p1 := (M.out.r (w.heap.size + 1 + 1 + 1 + 1, [.slice (some ⟨R1, 0, none⟩) r cR1, .slice (some ⟨I1, 0, none⟩) r cI1, .slice (some ⟨R2, 0, none⟩) r cR2, .slice (some ⟨I2, 0, none⟩) r cI2]) (by simp)).1 1 _ rfl; have p2 := (M.out.r (w.heap.size + 1 + 1 + 1 + 1, [.slice (some ⟨R1, 0, none⟩) r cR1, .slice (some ⟨I1, 0, none⟩) r cI1, .slice (some ⟨R2, 0, none⟩) r cR2, .slice (some ⟨I2, 0, none⟩) r cI2]) (by simp)).1 2 _ rfl; have p3 := (M.out.r (w.heap.size + 1 + 1 + 1 + 1, [.slice (some ⟨R1, 0, none⟩) r cR1, .slice (some ⟨I1, 0, none⟩) r cI1, .slice (some ⟨R2, 0, none⟩) r cR2, .slice (some ⟨I2, 0, none⟩) r cI2]) (by simp)).1 3 _ rfl; simp only [Nat.zero_add] at p0 p1 p2 p3
 go_upto_region 3 with (first | (go_at_call 24; refine (claimOf1 R1 I1 R2 I2 r cR1 cI1 cR2 cI2 _).mono ?_; rintro e wa ⟨rfl, hb⟩; have MA := hidden (M.out.keep hb); clear hb M p0 p1 p2 p3))
 have MB := hidden (MA.out.new [.slice (some ⟨R1, 0, none⟩) r cR1, .slice (some ⟨I1, 0, none⟩) r cI1] 43)
 generalize wa.heap.size = T19 at *
 generalize wa.alloc (.cells [.slice (some ⟨R1, 0, none⟩) r cR1, .slice (some ⟨I1, 0, none⟩) r cI1].toArray 43) = wb at *
 clear MA
 have p0 := (MB.out.r (w.heap.size + 1 + 1 + 1 + 1, [.slice (some ⟨R1, 0, none⟩) r cR1, .slice (some ⟨I1, 0, none⟩) r cI1, .slice (some ⟨R2, 0, none⟩) r cR2, .slice (some ⟨I2, 0, none⟩) r cI2]) (by simp)).1 0 _ rfl; have p1 := (MB.out.r (w.heap.size + 1 + 1 + 1 + 1, [.slice (some ⟨R1, 0, none⟩) r cR1, .slice (some ⟨I1, 0, none⟩) r cI1, .slice (some ⟨R2, 0, none⟩) r cR2, .slice (some ⟨I2, 0, none⟩) r cI2]) (by simp)).1 1 _ rfl; have p2 := (MB.out.r (w.heap.size + 1 + 1 + 1 + 1, [.slice (some ⟨R1, 0, none⟩) r cR1, .slice (some ⟨I1, 0, none⟩) r cI1, .slice (some ⟨R2, 0, none⟩) r cR2, .slice (some ⟨I2, 0, none⟩) r cI2]) (by simp)).1 2 _ rfl; have p3 := (MB.out.r (w.heap.size + 1 + 1 + 1 + 1, [.slice (some ⟨R1, 0, none⟩) r cR1, .slice (some ⟨I1, 0, none⟩) r cI1, .slice (some ⟨R2, 0, none⟩) r cR2, .slice (some ⟨I2, 0, none⟩) r cI2]) (by simp)).1 3 _ rfl; simp only [Nat.zero_add] at p0 p1 p2 p3
 go_upto_region 6 with (first | (go_at_call 24; refine (claimOf2 R1 I1 R2 I2 r cR1 cI1 cR2 cI2 _).mono ?_; rintro e wc ⟨rfl, hb⟩; have MC := hidden (MB.out.keep hb); clear hb MB p0 p1 p2 p3))
 have MD := hidden (MC.out.new [.slice (some ⟨R2, 0, none⟩) r cR2, .slice (some ⟨I2, 0, none⟩) r cI2] 43)
 generalize wc.heap.size = T21 at *
 generalize wc.alloc (.cells [.slice (some ⟨R2, 0, none⟩) r cR2, .slice (some ⟨I2, 0, none⟩) r cI2].toArray 43) = wd at *
 clear MC
 have p0 := (MD.out.r (T19, [.slice (some ⟨R1, 0, none⟩) r cR1, .slice (some ⟨I1, 0, none⟩) r cI1]) (by simp)).1 0 _ rfl; have p1 := (MD.out.r (T19, [.slice (some ⟨R1, 0, none⟩) r cR1, .slice (some ⟨I1, 0, none⟩) r cI1]) (by simp)).1 1 _ rfl; simp only [Nat.zero_add] at p0 p1
 have q0 := (MD.out.r (T21, [.slice (some ⟨R2, 0, none⟩) r cR2, .slice (some ⟨I2, 0, none⟩) r cI2]) (by simp)).1 0 _ rfl; have q1 := (MD.out.r (T21, [.slice (some ⟨R2, 0, none⟩) r cR2, .slice (some ⟨I2, 0, none⟩) r cI2]) (by simp)).1 1 _ rfl; simp only [Nat.zero_add] at q0 q1
 go_upto_region 8 with (first | (go_at_call 25; refine (FX2.out _ MD.out.bel).mono ?_; rintro e we ⟨rfl, hb⟩; have ME := hidden (MD.out.keep (bl_trans (bl_alloc wd (.cells #[.slice (some ⟨A3, 0, none⟩) n c3, .slice (some ⟨A4, 0, none⟩) n c4] 23)) hb)); clear hb MD p0 p1 q0 q1 FX2; have q0 := (ME.out.r (T21, [.slice (some ⟨R2, 0, none⟩) r cR2, .slice (some ⟨I2, 0, none⟩) r cI2]) (by simp)).1 0 _ rfl; have q1 := (ME.out.r (T21, [.slice (some ⟨R2, 0, none⟩) r cR2, .slice (some ⟨I2, 0, none⟩) r cI2]) (by simp)).1 1 _ rfl; simp only [Nat.zero_add] at q0 q1) | (go_at_call 25; refine (FX1.out _ ME.out.bel).mono ?_; rintro e wf ⟨rfl, hb⟩; have MF := hidden (ME.out.keep (bl_trans (bl_alloc we (.cells #[.slice (some ⟨A6, 0, none⟩) n c6] 23)) hb)); clear hb ME q0 q1 FX1))
 have p0 := (MF.out.r (T19, [.slice (some ⟨R1, 0, none⟩) r cR1, .slice (some ⟨I1, 0, none⟩) r cI1]) (by simp)).1 0 _ rfl; have p1 := (MF.out.r (T19, [.slice (some ⟨R1, 0, none⟩) r cR1, .slice (some ⟨I1, 0, none⟩) r cI1]) (by simp)).1 1 _ rfl; simp only [Nat.zero_add] at p0 p1
 go_upto_region 11 with (first | (go_at_call 26; refine (HOL.out _ MF.out.bel).mono ?_; rintro e wg ⟨rfl, hb⟩; have MG := hidden (MF.out.keep hb); clear hb MF p0 p1 HOL))
 have p0 := (MG.out.r (T19, [.slice (some ⟨R1, 0, none⟩) r cR1, .slice (some ⟨I1, 0, none⟩) r cI1]) (by simp)).1 0 _ rfl; have p1 := (MG.out.r (T19, [.slice (some ⟨R1, 0, none⟩) r cR1, .slice (some ⟨I1, 0, none⟩) r cI1]) (by simp)).1 1 _ rfl; simp only [Nat.zero_add] at p0 p1
 have q0 := (MG.out.r (T21, [.slice (some ⟨R2, 0, none⟩) r cR2, .slice (some ⟨I2, 0, none⟩) r cI2]) (by simp)).1 0 _ rfl; have q1 := (MG.out.r (T21, [.slice (some ⟨R2, 0, none⟩) r cR2, .slice (some ⟨I2, 0, none⟩) r cI2]) (by simp)).1 1 _ rfl; simp only [Nat.zero_add] at q0 q1
 have k0 := (MG.out.r (w.heap.size + 1 + 1, [.int .u64 c.x0, .int .u64 c.x1, .int .u64 c.x2, .int .u64 c.x3]) (by simp)).1 0 _ rfl; have k1 := (MG.out.r (w.heap.size + 1 + 1, [.int .u64 c.x0, .int .u64 c.x1, .int .u64 c.x2, .int .u64 c.x3]) (by simp)).1 1 _ rfl; have k2 := (MG.out.r (w.heap.size + 1 + 1, [.int .u64 c.x0, .int .u64 c.x1, .int .u64 c.x2, .int .u64 c.x3]) (by simp)).1 2 _ rfl; have k3 := (MG.out.r (w.heap.size + 1 + 1, [.int .u64 c.x0, .int .u64 c.x1, .int .u64 c.x2, .int .u64 c.x3]) (by simp)).1 3 _ rfl; simp only [Nat.zero_add] at k0 k1 k2 k3
 have y0 := (MG.out.r (w.heap.size + 1 + 1 + 1 + 1, [.slice (some ⟨R1, 0, none⟩) r cR1, .slice (some ⟨I1, 0, none⟩) r cI1, .slice (some ⟨R2, 0, none⟩) r cR2, .slice (some ⟨I2, 0, none⟩) r cI2]) (by simp)).1 0 _ rfl; have y1 := (MG.out.r (w.heap.size + 1 + 1 + 1 + 1, [.slice (some ⟨R1, 0, none⟩) r cR1, .slice (some ⟨I1, 0, none⟩) r cI1, .slice (some ⟨R2, 0, none⟩) r cR2, .slice (some ⟨I2, 0, none⟩) r cI2]) (by simp)).1 1 _ rfl; have y2 := (MG.out.r (w.heap.size + 1 + 1 + 1 + 1, [.slice (some ⟨R1, 0, none⟩) r cR1, .slice (some ⟨I1, 0, none⟩) r cI1, .slice (some ⟨R2, 0, none⟩) r cR2, .slice (some ⟨I2, 0, none⟩) r cI2]) (by simp)).1 2 _ rfl; have y3 := (MG.out.r (w.heap.size + 1 + 1 + 1 + 1, [.slice (some ⟨R1, 0, none⟩) r cR1, .slice (some ⟨I1, 0, none⟩) r cI1, .slice (some ⟨R2, 0, none⟩) r cR2, .slice (some ⟨I2, 0, none⟩) r cI2]) (by simp)).1 3 _ rfl; simp only [Nat.zero_add] at y0 y1 y2 y3
 have IO := hidden (inOrderF1 (.func (.func 28) #[.agg #[.slice (some ⟨R1, 0, none⟩) r cR1, .slice (some ⟨I1, 0, none⟩) r cI1, .int .u64 0, .int .u64 0, .int .u64 0, .int .u64 0, .slice (some ⟨A4, 0, none⟩) n c4]] #[]) (.func (.func 29) #[.agg #[.slice (some ⟨R2, 0, none⟩) r cR2, .slice (some ⟨I2, 0, none⟩) r cI2, .int .u64 c.x0, .int .u64 c.x1, .int .u64 c.x2, .int .u64 c.x3, .slice (some ⟨A6, 0, none⟩) n c6]] #[]))
 go_upto_region 13 with (first | (go_at_call 27; refine (IO.out _).mono ?_; rintro e wg2 ⟨rfl, rfl⟩; clear IO) | (go_at_call 30; refine (ASK.out _ MG.out.bel).mono ?_; rintro e wh ⟨rfl, hb⟩; have BH := hidden hb; clear hb ASK))
 have hSS := HSS.out
 have szg := MG.out.bel.size
 have BW0 : Tr.Bt (fun k => k = s) wg2 wh := bt_trans (Tr.Bt.of (bl_alloc wg2 (.cells #[.func (.func 28) #[.agg #[.slice (some ⟨R1, 0, none⟩) r cR1, .slice (some ⟨I1, 0, none⟩) r cI1, .int .u64 0, .int .u64 0, .int .u64 0, .int .u64 0, .slice (some ⟨A4, 0, none⟩) n c4]] #[], .func (.func 29) #[.agg #[.slice (some ⟨R2, 0, none⟩) r cR2, .slice (some ⟨I2, 0, none⟩) r cI2, .int .u64 c.x0, .int .u64 c.x1, .int .u64 c.x2, .int .u64 c.x3, .slice (some ⟨A6, 0, none⟩) n c6]] #[]] 69))) BH.out (fun _ _ e => e)
 have BW : Tr.Bt (fun k => k = s) w wh := bt_trans (Tr.Bt.of MG.out.bel) BW0 (fun _ _ e => e)
 have R13 : wh.rangeAt (w.heap.size + 1 + 1) 0 [.int .u64 c.x0, .int .u64 c.x1, .int .u64 c.x2, .int .u64 c.x3] := fun j v hv => bt_cell ((MG.out.r (w.heap.size + 1 + 1, [.int .u64 c.x0, .int .u64 c.x1, .int .u64 c.x2, .int .u64 c.x3]) (by simp)).1 j v hv) BW0 (by omega)
 have T16 : wh.there (w.heap.size + 1 + 1 + 1) 0 10 := there_bt (MG.out.r (w.heap.size + 1 + 1 + 1, [.int .u64 0, .int .u64 0, .int .u64 0, .int .u64 0, .int .u64 0, .int .u64 0, .int .u64 0, .int .u64 0, .slice none 0 0, .slice none 0 0]) (by simp)).2.1 BW0 (by omega)
 have l16 : w.heap.size + 1 + 1 + 1 < wg2.heap.size := (MG.out.r (w.heap.size + 1 + 1 + 1, [.int .u64 0, .int .u64 0, .int .u64 0, .int .u64 0, .int .u64 0, .int .u64 0, .int .u64 0, .int .u64 0, .slice none 0 0, .slice none 0 0]) (by simp)).2.2.2
 have B26 := bl_alloc wh (.cells #[.int .u64 z.x0, .int .u64 z.x1, .int .u64 z.x2, .int .u64 z.x3] 26)
 have BWi : Tr.Bt (fun k => k = s) w (wh.alloc (.cells #[.int .u64 z.x0, .int .u64 z.x1, .int .u64 z.x2, .int .u64 z.x3] 26)) := bt_trans BW (Tr.Bt.of (S := fun k => k = s) B26) (fun _ _ e => e)
 have R13' := range_bl R13 B26
 have T16' := Li.there_bl T16 B26
 have R26 := range_newM wh [.int .u64 z.x0, .int .u64 z.x1, .int .u64 z.x2, .int .u64 z.x3] 26
 have SZ26 := BW0.size
 have SZi : (wh.alloc (.cells #[.int .u64 z.x0, .int .u64 z.x1, .int .u64 z.x2, .int .u64 z.x3] 26)).heap.size = wh.heap.size + 1 := World.size_alloc _ _
 have TBi := Tr.tb_keep ALL.out.1 BWi (by omega)
 have r3 := rl_bt ALL.out.2.2.2.2.1 BWi (by omega)
 have r4 := rl_bt ALL.out.2.2.2.2.2.1 BWi (by omega)
 have r6 := rl_bt ALL.out.2.2.2.2.2.2 BWi (by omega)
 have XX := hidden (And.intro BWi (And.intro R13' (And.intro T16' (And.intro R26 (And.intro TBi (And.intro r3 (And.intro r4 r6)))))))
 have NN := hidden (And.intro l16 (And.intro SZ26 SZi))
 clear BW0 BW R13 T16 B26 BWi R13' T16' R26 TBi r3 r4 r6 MG BH hSS szg l16 SZ26 SZi p0 p1 q0 q1 k0 k1 k2 k3 y0 y1 y2 y3
 go_upto_region 15 with fail
 generalize wh.alloc (.cells #[.int .u64 z.x0, .int .u64 z.x1, .int .u64 z.x2, .int .u64 z.x3] 26) = wi at *
 generalize wh.heap.size = T26 at *
 have oz : z.ok := hzt ▸ lst_ok _
 have ou : u.ok := hu ▸ lst_ok _
 have X13 := XX.out.2.1
 have X26 := XX.out.2.2.2.1
 have c0' := X13 0 _ rfl; have c1' := X13 1 _ rfl; have c2' := X13 2 _ rfl; have c3' := X13 3 _ rfl
 have z0' := X26 0 _ rfl; have z1' := X26 1 _ rfl; have z2' := X26 2 _ rfl; have z3' := X26 3 _ rfl
 refine pe15 (kk := 1) (T13 := w.heap.size + 1 + 1) (T26 := T26) (A3 := A3) (A4 := A4) (A6 := A6) (n := n) (c3 := c3) (c4 := c4) (c6 := c6) (z := z) (c := c) (u := u) (v := v) (a1 := u) (a2 := v) (b1 := fun x _ => x) (b2 := fun _ y => y) (fa := Fa ks xs u) (fb := Fl ms) (W := wi) hn1 z0' z1' z2' z3' c0' c1' c2' c3' (hidden fun y hy => fix (R := u) (Sub_any z c y (XX.out.2.2.2.2.1.keep hy) oz oc) hu) (hidden fun y hy => ?_) (hidden fun y hy => fix (R := v) (Least_any c y (XX.out.2.2.2.2.1.keep hy) oc) hv) (hidden fun y hy => ?_) (hidden fun y N6 N10 hy => inOrderP1 u v (some ⟨N6, 0, none⟩) (some ⟨N10, 0, none⟩) n n n n y) (hidden ?_)
 ·refine (answeredR A4 A3 n c4 c3 ks xs u y (XX.out.2.2.2.2.1.keep hy) hn1 (by omega) o4 o3 ou (XX.out.2.2.2.2.2.2.1.keep hy) (XX.out.2.2.2.2.2.1.keep hy)).mono ?_
  rintro e w' ⟨rfl, h1, h2⟩
  exact ⟨_, rfl, by omega, rl_of h1, h2⟩
 ·refine (leastR A6 n c6 ms y (XX.out.2.2.2.2.1.keep hy) (by omega) o6 (XX.out.2.2.2.2.2.2.2.keep hy)).mono ?_
  rintro e w' ⟨rfl, h1⟩
  exact ⟨_, rfl, by omega, rl_of h1.2.2, h1.1⟩
 intro N6 N10 A28 A29 wz HB R28 R29 RA RB G28 G29 G6 G10
 replace R28 : wz.rangeAt A28 0 [.int .u64 u.x0, .int .u64 u.x1, .int .u64 u.x2, .int .u64 u.x3, .slice (some ⟨N6, 0, none⟩) n n] := R28
 replace R29 : wz.rangeAt A29 0 [.int .u64 v.x0, .int .u64 v.x1, .int .u64 v.x2, .int .u64 v.x3, .slice (some ⟨N10, 0, none⟩) n n] := R29
 have X28 := hidden (And.intro R28 R29)
 have m0 := R28 0 _ rfl
 have n0 := R29 0 _ rfl
 have m1 := R28 1 _ rfl
 have n1 := R29 1 _ rfl
 have m2 := R28 2 _ rfl
 have n2 := R29 2 _ rfl
 have m3 := R28 3 _ rfl
 have n3 := R29 3 _ rfl
 have m4 := R28 4 _ rfl
 have n4 := R29 4 _ rfl
 simp only [Nat.zero_add] at m0 n0 m1 n1 m2 n2 m3 n3 m4 n4
 have TZ := Li.there_bl XX.out.2.2.1 HB
 obtain ⟨e0, d0⟩ := Option.isSome_iff_exists.1 (TZ 0 (by omega)).1
 have g0_ := (TZ 0 (by omega)).2
 obtain ⟨e1, d1⟩ := Option.isSome_iff_exists.1 (TZ 1 (by omega)).1
 have g1_ := (TZ 1 (by omega)).2
 obtain ⟨e2, d2⟩ := Option.isSome_iff_exists.1 (TZ 2 (by omega)).1
 have g2_ := (TZ 2 (by omega)).2
 obtain ⟨e3, d3⟩ := Option.isSome_iff_exists.1 (TZ 3 (by omega)).1
 have g3_ := (TZ 3 (by omega)).2
 obtain ⟨e4, d4⟩ := Option.isSome_iff_exists.1 (TZ 4 (by omega)).1
 have g4_ := (TZ 4 (by omega)).2
 obtain ⟨e5, d5⟩ := Option.isSome_iff_exists.1 (TZ 5 (by omega)).1
 have g5_ := (TZ 5 (by omega)).2
 obtain ⟨e6, d6⟩ := Option.isSome_iff_exists.1 (TZ 6 (by omega)).1
 have g6_ := (TZ 6 (by omega)).2
 obtain ⟨e7, d7⟩ := Option.isSome_iff_exists.1 (TZ 7 (by omega)).1
 have g7_ := (TZ 7 (by omega)).2
 obtain ⟨e8, d8⟩ := Option.isSome_iff_exists.1 (TZ 8 (by omega)).1
 have g8_ := (TZ 8 (by omega)).2
 obtain ⟨e9, d9⟩ := Option.isSome_iff_exists.1 (TZ 9 (by omega)).1
 have g9_ := (TZ 9 (by omega)).2
 simp only [Nat.zero_add] at d0 g0_ d1 g1_ d2 g2_ d3 g3_ d4 g4_ d5 g5_ d6 g6_ d7 g7_ d8 g8_ d9 g9_
 have FIN := hidden (And.intro HB (And.intro RA (And.intro RB (And.intro G6 G10))))
 clear R28 R29 TZ HB RA RB X28 G28 G29 G6 G10 X13 X26 c0' c1' c2' c3' z0' z1' z2' z3'
 go_wp2_with fail
 obtain ⟨HB, RA, RB, G6, G10⟩ := FIN.out
 have hG := gb_setCells (w.heap.size + 1 + 1 + 1) [.int .u64 u.x0, .int .u64 u.x1, .int .u64 u.x2, .int .u64 u.x3, .int .u64 v.x0, .int .u64 v.x1, .int .u64 v.x2, .int .u64 v.x3, .slice (some ⟨N6, 0, none⟩) n n, .slice (some ⟨N10, 0, none⟩) n n] 0 wz
 have l16 := NN.out.1
 have sz1 := NN.out.2.1
 have sz2 := NN.out.2.2
 refine bodyPost_ret (v := .tuple #[.agg #[.int .u64 u.x0, .int .u64 u.x1, .int .u64 u.x2, .int .u64 u.x3, .int .u64 v.x0, .int .u64 v.x1, .int .u64 v.x2, .int .u64 v.x3, .slice (some ⟨N6, 0, none⟩) n n, .slice (some ⟨N10, 0, none⟩) n n], .int .i64 0]) (by simp [results, Tryz.results10, go_sem, d0, d1, d2, d3, d4, d5, d6, d7, d8, d9]) rfl ⟨N6, N10, rfl, rl_gb RA hG (by omega), rl_gb RB hG (by omega), by omega, by omega, Tr.Bt.grown (bt_trans XX.out.1 (Tr.Bt.of (S := fun k => k = s) HB) (fun _ _ e => e)) hG (fun k hk => by have := Option.some.inj hk; omega)⟩
theorem prove2 (s r n A3 A4 A6 c3 c4 c6 : Nat) (t z c u v : E4) (xs ks ms : Nat → E4) (R1 I1 cR1 cI1 : Nat) (g1 cn1 : Nat → Nat) (gs1 : Nat → Nat → E4) (im1 : Nat → E4) (R2 I2 cR2 cI2 : Nat) (g2 cn2 : Nat → Nat) (gs2 : Nat → Nat → E4) (im2 : Nat → E4) (w : World) (hT : Tb w) (ht0 : 0 < s) (hr1 : 1 ≤ r) (hr2 : r ≤ 64) (hn : n ≤ 20) (hn1 : 1 ≤ n) (C1 : Cb s w R1 I1 r n g1 cn1 gs1 im1) (C2 : Cb s w R2 I2 r n g2 cn2 gs2 im2) (hS : Fz w s t) (ot : t.ok) (hz : ¬ t.n % Sm.L = 0) (hzt : lst t.n = z) (oc : c.ok)
  (r3 : Rl w A3 0 n xs) (r4 : Rl w A4 0 n ks) (r6 : Rl w A6 0 n ms) (o3 : ∀ i, i < n → (xs i).ok) (o4 : ∀ i, i < n → (ks i).ok) (o6 : ∀ i, i < n → (ms i).ok) (l3 : A3 < s) (l4 : A4 < s) (l6 : A6 < s) (hs : ∀ i, i < r → lst (Ff n xs gs2 i).n = lst (im2 i).n) (hu : lst (z.n - c.n) = u) (hv : lst c.n = v) :
  Calls Tryz.prog 10 #[.agg #[.slice (some ⟨R1, 0, none⟩) r cR1, .slice (some ⟨I1, 0, none⟩) r cI1], .agg #[.slice (some ⟨R2, 0, none⟩) r cR2, .slice (some ⟨I2, 0, none⟩) r cI2], .int .i64 2, .slice (some ⟨A3, 0, none⟩) n c3, .slice (some ⟨A4, 0, none⟩) n c4, .agg #[.int .u64 c.x0, .int .u64 c.x1, .int .u64 c.x2, .int .u64 c.x3], .slice (some ⟨A6, 0, none⟩) n c6, .iface 45 (.pointer (some ⟨s, 0, none⟩))] w fun e w' => ∃ N6 N10 : Nat, e = .returned (.tuple #[.agg #[.int .u64 v.x0, .int .u64 v.x1, .int .u64 v.x2, .int .u64 v.x3, .int .u64 u.x0, .int .u64 u.x1, .int .u64 u.x2, .int .u64 u.x3, .slice (some ⟨N10, 0, none⟩) n n, .slice (some ⟨N6, 0, none⟩) n n], .int .i64 0]) ∧ Rl w' N6 0 n (Fa ks xs u) ∧ Rl w' N10 0 n (Fl ms) ∧ w.heap.size ≤ N6 ∧ w.heap.size ≤ N10 ∧ Tr.Bt (fun k => k = s) w w' := by
 have M0 := (((((Mw.start w).new [.slice (some ⟨R1, 0, none⟩) r cR1, .slice (some ⟨I1, 0, none⟩) r cI1] 43).new [.slice (some ⟨R2, 0, none⟩) r cR2, .slice (some ⟨I2, 0, none⟩) r cI2] 43).new [.int .u64 c.x0, .int .u64 c.x1, .int .u64 c.x2, .int .u64 c.x3] 26).new [.int .u64 0, .int .u64 0, .int .u64 0, .int .u64 0, .int .u64 0, .int .u64 0, .int .u64 0, .int .u64 0, .slice none 0 0, .slice none 0 0] 34).new [.slice (some ⟨R1, 0, none⟩) r cR1, .slice (some ⟨I1, 0, none⟩) r cI1, .slice (some ⟨R2, 0, none⟩) r cR2, .slice (some ⟨I2, 0, none⟩) r cI2] 64
 simp only [World.size_alloc] at M0
 have M := hidden M0
 clear M0
 have ALL := hidden (And.intro hT (And.intro C1 (And.intro C2 (And.intro hS (And.intro r3 (And.intro r4 r6))))))
 have HSS := hidden hS.lt
 clear hT C1 C2 hS r3 r4 r6
 have FX2 : Hid (∀ y, Below w.heap.size w y → Calls Tryz.prog 25 #[.agg #[.slice (some ⟨R2, 0, none⟩) r cR2, .slice (some ⟨I2, 0, none⟩) r cI2], .slice (some ⟨y.heap.size, 0, none⟩) 2 2] (y.alloc (.cells #[.slice (some ⟨A3, 0, none⟩) n c3, .slice (some ⟨A4, 0, none⟩) n c4] 23)) fun e w' => e = .returned (.bool true) ∧ Below (y.alloc (.cells #[.slice (some ⟨A3, 0, none⟩) n c3, .slice (some ⟨A4, 0, none⟩) n c4] 23)).heap.size (y.alloc (.cells #[.slice (some ⟨A3, 0, none⟩) n c3, .slice (some ⟨A4, 0, none⟩) n c4] 23)) w') := hidden (fun y hy => fits_any R2 I2 r n cR2 cI2 y.heap.size 2 2 g2 cn2 gs2 im2 (fun j => if j = 0 then some ⟨A3, 0, none⟩ else some ⟨A4, 0, none⟩) (fun j => if j = 0 then c3 else c4) _ hr1 hr2 hn1 (by omega) ((ALL.out.2.2.1.keep (bl_trans hy (bl_alloc _ _))).c) (fun j hj => by
  obtain rfl | rfl : j = 0 ∨ j = 1 := by omega
  ·exact range_newM y [.slice (some ⟨A3, 0, none⟩) n c3, .slice (some ⟨A4, 0, none⟩) n c4] 23 0 _ rfl
  ·exact range_newM y [.slice (some ⟨A3, 0, none⟩) n c3, .slice (some ⟨A4, 0, none⟩) n c4] 23 1 _ rfl))
 have FX1 : Hid (∀ y, Below w.heap.size w y → Calls Tryz.prog 25 #[.agg #[.slice (some ⟨R1, 0, none⟩) r cR1, .slice (some ⟨I1, 0, none⟩) r cI1], .slice (some ⟨y.heap.size, 0, none⟩) 1 1] (y.alloc (.cells #[.slice (some ⟨A6, 0, none⟩) n c6] 23)) fun e w' => e = .returned (.bool true) ∧ Below (y.alloc (.cells #[.slice (some ⟨A6, 0, none⟩) n c6] 23)).heap.size (y.alloc (.cells #[.slice (some ⟨A6, 0, none⟩) n c6] 23)) w') := hidden (fun y hy => fits_any R1 I1 r n cR1 cI1 y.heap.size 1 1 g1 cn1 gs1 im1 (fun _ => some ⟨A6, 0, none⟩) (fun _ => c6) _ hr1 hr2 hn1 (by omega) ((ALL.out.2.1.keep (bl_trans hy (bl_alloc _ _))).c) (fun j hj => by
  obtain rfl : j = 0 := by omega
  exact range_newM y [.slice (some ⟨A6, 0, none⟩) n c6] 23 0 _ rfl))
 have HOL : Hid (∀ y, Below w.heap.size w y → Calls Tryz.prog 26 #[.agg #[.slice (some ⟨R2, 0, none⟩) r cR2, .slice (some ⟨I2, 0, none⟩) r cI2], .slice (some ⟨A3, 0, none⟩) n c3] y fun e w' => e = .returned (.int .i64 0) ∧ Below y.heap.size y w') := hidden (fun y hy => holdsR R2 I2 r n cR2 cI2 c3 g2 cn2 (some ⟨A3, 0, none⟩) xs gs2 im2 y hr1 hr2 hn hn1 (ALL.out.1.keep hy) (lm_of (ALL.out.2.2.2.2.1.keep hy)) o3 (ALL.out.2.2.1.keep hy).c hs)
 have ASK : Hid (∀ y, Below w.heap.size w y → Calls Tryz.prog 30 #[.iface 45 (.pointer (some ⟨s, 0, none⟩)), .iface 64 (.agg #[.slice (some ⟨R1, 0, none⟩) r cR1, .slice (some ⟨I1, 0, none⟩) r cI1, .slice (some ⟨R2, 0, none⟩) r cR2, .slice (some ⟨I2, 0, none⟩) r cI2]), .slice (some ⟨y.heap.size, 0, none⟩) 2 2] (y.alloc (.cells #[.func (.func 29) #[.agg #[.slice (some ⟨R1, 0, none⟩) r cR1, .slice (some ⟨I1, 0, none⟩) r cI1, .int .u64 c.x0, .int .u64 c.x1, .int .u64 c.x2, .int .u64 c.x3, .slice (some ⟨A6, 0, none⟩) n c6]] #[], .func (.func 28) #[.agg #[.slice (some ⟨R2, 0, none⟩) r cR2, .slice (some ⟨I2, 0, none⟩) r cI2, .int .u64 0, .int .u64 0, .int .u64 0, .int .u64 0, .slice (some ⟨A4, 0, none⟩) n c4]] #[]] 69)) fun e w' => e = .returned (.tuple #[.agg #[.int .u64 z.x0, .int .u64 z.x1, .int .u64 z.x2, .int .u64 z.x3], .int .i64 0]) ∧ Tr.Bt (fun k => k = s) (y.alloc (.cells #[.func (.func 29) #[.agg #[.slice (some ⟨R1, 0, none⟩) r cR1, .slice (some ⟨I1, 0, none⟩) r cI1, .int .u64 c.x0, .int .u64 c.x1, .int .u64 c.x2, .int .u64 c.x3, .slice (some ⟨A6, 0, none⟩) n c6]] #[], .func (.func 28) #[.agg #[.slice (some ⟨R2, 0, none⟩) r cR2, .slice (some ⟨I2, 0, none⟩) r cI2, .int .u64 0, .int .u64 0, .int .u64 0, .int .u64 0, .slice (some ⟨A4, 0, none⟩) n c4]] #[]] 69)) w') := hidden (fun y hy => by
  have hy2 := bl_trans hy (bl_alloc y (.cells #[.func (.func 29) #[.agg #[.slice (some ⟨R1, 0, none⟩) r cR1, .slice (some ⟨I1, 0, none⟩) r cI1, .int .u64 c.x0, .int .u64 c.x1, .int .u64 c.x2, .int .u64 c.x3, .slice (some ⟨A6, 0, none⟩) n c6]] #[], .func (.func 28) #[.agg #[.slice (some ⟨R2, 0, none⟩) r cR2, .slice (some ⟨I2, 0, none⟩) r cI2, .int .u64 0, .int .u64 0, .int .u64 0, .int .u64 0, .slice (some ⟨A4, 0, none⟩) n c4]] #[]] 69))
  exact askR s r n y.heap.size 29 28 2 (.agg #[.slice (some ⟨R1, 0, none⟩) r cR1, .slice (some ⟨I1, 0, none⟩) r cI1, .int .u64 c.x0, .int .u64 c.x1, .int .u64 c.x2, .int .u64 c.x3, .slice (some ⟨A6, 0, none⟩) n c6]) (.agg #[.slice (some ⟨R2, 0, none⟩) r cR2, .slice (some ⟨I2, 0, none⟩) r cI2, .int .u64 0, .int .u64 0, .int .u64 0, .int .u64 0, .slice (some ⟨A4, 0, none⟩) n c4]) t z hzt R1 I1 cR1 cI1 g1 cn1 gs1 im1 R2 I2 cR2 cI2 g2 cn2 gs2 im2 _ (ALL.out.1.keep hy2) ht0 hr1 hr2 (by omega) (ALL.out.2.1.keep hy2) (ALL.out.2.2.1.keep hy2) (ALL.out.2.2.2.1.keep hy2) ot hz (range_newM y [.func (.func 29) #[.agg #[.slice (some ⟨R1, 0, none⟩) r cR1, .slice (some ⟨I1, 0, none⟩) r cI1, .int .u64 c.x0, .int .u64 c.x1, .int .u64 c.x2, .int .u64 c.x3, .slice (some ⟨A6, 0, none⟩) n c6]] #[], .func (.func 28) #[.agg #[.slice (some ⟨R2, 0, none⟩) r cR2, .slice (some ⟨I2, 0, none⟩) r cI2, .int .u64 0, .int .u64 0, .int .u64 0, .int .u64 0, .slice (some ⟨A4, 0, none⟩) n c4]] #[]] 69 0 _ rfl) (range_newM y [.func (.func 29) #[.agg #[.slice (some ⟨R1, 0, none⟩) r cR1, .slice (some ⟨I1, 0, none⟩) r cI1, .int .u64 c.x0, .int .u64 c.x1, .int .u64 c.x2, .int .u64 c.x3, .slice (some ⟨A6, 0, none⟩) n c6]] #[], .func (.func 28) #[.agg #[.slice (some ⟨R2, 0, none⟩) r cR2, .slice (some ⟨I2, 0, none⟩) r cI2, .int .u64 0, .int .u64 0, .int .u64 0, .int .u64 0, .slice (some ⟨A4, 0, none⟩) n c4]] #[]] 69 1 _ rfl) (by have := HSS.out; have := hy.size; omega) (.inr rfl) (.inl rfl) (frS s r n A6 c6 c ms R1 I1 cR1 cI1 g1 cn1 gs1 im1 _ (ALL.out.1.keep hy2) ht0 hr1 hr2 hn hn1 oc (ALL.out.2.1.keep hy2) (ALL.out.2.2.2.2.2.2.keep hy2) o6 l6) (frF s r n A4 c4 ks R2 I2 cR2 cI2 g2 cn2 gs2 im2 _ (ALL.out.1.keep hy2) ht0 hr1 hr2 hn hn1 (ALL.out.2.2.1.keep hy2) (ALL.out.2.2.2.2.2.1.keep hy2) o4 l4))
 go_enter Tryz.func10, Tryz.ntmps10
 go_upto_region 2 with fail
 generalize ((((w.alloc (.cells #[.slice (some ⟨R1, 0, none⟩) r cR1, .slice (some ⟨I1, 0, none⟩) r cI1] 43)).alloc (.cells #[.slice (some ⟨R2, 0, none⟩) r cR2, .slice (some ⟨I2, 0, none⟩) r cI2] 43)).alloc (.cells #[.int .u64 c.x0, .int .u64 c.x1, .int .u64 c.x2, .int .u64 c.x3] 26)).alloc (.cells #[.int .u64 0, .int .u64 0, .int .u64 0, .int .u64 0, .int .u64 0, .int .u64 0, .int .u64 0, .int .u64 0, .slice none 0 0, .slice none 0 0] 34)).alloc (.cells #[.slice (some ⟨R1, 0, none⟩) r cR1, .slice (some ⟨I1, 0, none⟩) r cI1, .slice (some ⟨R2, 0, none⟩) r cR2, .slice (some ⟨I2, 0, none⟩) r cI2] 64) = w5 at *
 have p0 := (M.out.r (w.heap.size + 1 + 1 + 1 + 1, [.slice (some ⟨R1, 0, none⟩) r cR1, .slice (some ⟨I1, 0, none⟩) r cI1, .slice (some ⟨R2, 0, none⟩) r cR2, .slice (some ⟨I2, 0, none⟩) r cI2]) (by simp)).1 0 _ rfl; have p1 := (M.out.r (w.heap.size + 1 + 1 + 1 + 1, [.slice (some ⟨R1, 0, none⟩) r cR1, .slice (some ⟨I1, 0, none⟩) r cI1, .slice (some ⟨R2, 0, none⟩) r cR2, .slice (some ⟨I2, 0, none⟩) r cI2]) (by simp)).1 1 _ rfl; have p2 := (M.out.r (w.heap.size + 1 + 1 + 1 + 1, [.slice (some ⟨R1, 0, none⟩) r cR1, .slice (some ⟨I1, 0, none⟩) r cI1, .slice (some ⟨R2, 0, none⟩) r cR2, .slice (some ⟨I2, 0, none⟩) r cI2]) (by simp)).1 2 _ rfl; have p3 := (M.out.r (w.heap.size + 1 + 1 + 1 + 1, [.slice (some ⟨R1, 0, none⟩) r cR1, .slice (some ⟨I1, 0, none⟩) r cI1, .slice (some ⟨R2, 0, none⟩) r cR2, .slice (some ⟨I2, 0, none⟩) r cI2]) (by simp)).1 3 _ rfl; simp only [Nat.zero_add] at p0 p1 p2 p3
 go_upto_region 3 with (first | (go_at_call 24; refine (claimOf2 R1 I1 R2 I2 r cR1 cI1 cR2 cI2 _).mono ?_; rintro e wa ⟨rfl, hb⟩; have MA := hidden (M.out.keep hb); clear hb M p0 p1 p2 p3))
 have MB := hidden (MA.out.new [.slice (some ⟨R2, 0, none⟩) r cR2, .slice (some ⟨I2, 0, none⟩) r cI2] 43)
 generalize wa.heap.size = T19 at *
 generalize wa.alloc (.cells [.slice (some ⟨R2, 0, none⟩) r cR2, .slice (some ⟨I2, 0, none⟩) r cI2].toArray 43) = wb at *
 clear MA
 have p0 := (MB.out.r (w.heap.size + 1 + 1 + 1 + 1, [.slice (some ⟨R1, 0, none⟩) r cR1, .slice (some ⟨I1, 0, none⟩) r cI1, .slice (some ⟨R2, 0, none⟩) r cR2, .slice (some ⟨I2, 0, none⟩) r cI2]) (by simp)).1 0 _ rfl; have p1 := (MB.out.r (w.heap.size + 1 + 1 + 1 + 1, [.slice (some ⟨R1, 0, none⟩) r cR1, .slice (some ⟨I1, 0, none⟩) r cI1, .slice (some ⟨R2, 0, none⟩) r cR2, .slice (some ⟨I2, 0, none⟩) r cI2]) (by simp)).1 1 _ rfl; have p2 := (MB.out.r (w.heap.size + 1 + 1 + 1 + 1, [.slice (some ⟨R1, 0, none⟩) r cR1, .slice (some ⟨I1, 0, none⟩) r cI1, .slice (some ⟨R2, 0, none⟩) r cR2, .slice (some ⟨I2, 0, none⟩) r cI2]) (by simp)).1 2 _ rfl; have p3 := (MB.out.r (w.heap.size + 1 + 1 + 1 + 1, [.slice (some ⟨R1, 0, none⟩) r cR1, .slice (some ⟨I1, 0, none⟩) r cI1, .slice (some ⟨R2, 0, none⟩) r cR2, .slice (some ⟨I2, 0, none⟩) r cI2]) (by simp)).1 3 _ rfl; simp only [Nat.zero_add] at p0 p1 p2 p3
 go_upto_region 6 with (first | (go_at_call 24; refine (claimOf1 R1 I1 R2 I2 r cR1 cI1 cR2 cI2 _).mono ?_; rintro e wc ⟨rfl, hb⟩; have MC := hidden (MB.out.keep hb); clear hb MB p0 p1 p2 p3))
 have MD := hidden (MC.out.new [.slice (some ⟨R1, 0, none⟩) r cR1, .slice (some ⟨I1, 0, none⟩) r cI1] 43)
 generalize wc.heap.size = T21 at *
 generalize wc.alloc (.cells [.slice (some ⟨R1, 0, none⟩) r cR1, .slice (some ⟨I1, 0, none⟩) r cI1].toArray 43) = wd at *
 clear MC
 have p0 := (MD.out.r (T19, [.slice (some ⟨R2, 0, none⟩) r cR2, .slice (some ⟨I2, 0, none⟩) r cI2]) (by simp)).1 0 _ rfl; have p1 := (MD.out.r (T19, [.slice (some ⟨R2, 0, none⟩) r cR2, .slice (some ⟨I2, 0, none⟩) r cI2]) (by simp)).1 1 _ rfl; simp only [Nat.zero_add] at p0 p1
 have q0 := (MD.out.r (T21, [.slice (some ⟨R1, 0, none⟩) r cR1, .slice (some ⟨I1, 0, none⟩) r cI1]) (by simp)).1 0 _ rfl; have q1 := (MD.out.r (T21, [.slice (some ⟨R1, 0, none⟩) r cR1, .slice (some ⟨I1, 0, none⟩) r cI1]) (by simp)).1 1 _ rfl; simp only [Nat.zero_add] at q0 q1
 go_upto_region 8 with (first | (go_at_call 25; refine (FX2.out _ MD.out.bel).mono ?_; rintro e we ⟨rfl, hb⟩; have ME := hidden (MD.out.keep (bl_trans (bl_alloc wd (.cells #[.slice (some ⟨A3, 0, none⟩) n c3, .slice (some ⟨A4, 0, none⟩) n c4] 23)) hb)); clear hb MD p0 p1 q0 q1 FX2; have q0 := (ME.out.r (T21, [.slice (some ⟨R1, 0, none⟩) r cR1, .slice (some ⟨I1, 0, none⟩) r cI1]) (by simp)).1 0 _ rfl; have q1 := (ME.out.r (T21, [.slice (some ⟨R1, 0, none⟩) r cR1, .slice (some ⟨I1, 0, none⟩) r cI1]) (by simp)).1 1 _ rfl; simp only [Nat.zero_add] at q0 q1) | (go_at_call 25; refine (FX1.out _ ME.out.bel).mono ?_; rintro e wf ⟨rfl, hb⟩; have MF := hidden (ME.out.keep (bl_trans (bl_alloc we (.cells #[.slice (some ⟨A6, 0, none⟩) n c6] 23)) hb)); clear hb ME q0 q1 FX1))
 have p0 := (MF.out.r (T19, [.slice (some ⟨R2, 0, none⟩) r cR2, .slice (some ⟨I2, 0, none⟩) r cI2]) (by simp)).1 0 _ rfl; have p1 := (MF.out.r (T19, [.slice (some ⟨R2, 0, none⟩) r cR2, .slice (some ⟨I2, 0, none⟩) r cI2]) (by simp)).1 1 _ rfl; simp only [Nat.zero_add] at p0 p1
 go_upto_region 11 with (first | (go_at_call 26; refine (HOL.out _ MF.out.bel).mono ?_; rintro e wg ⟨rfl, hb⟩; have MG := hidden (MF.out.keep hb); clear hb MF p0 p1 HOL))
 have p0 := (MG.out.r (T19, [.slice (some ⟨R2, 0, none⟩) r cR2, .slice (some ⟨I2, 0, none⟩) r cI2]) (by simp)).1 0 _ rfl; have p1 := (MG.out.r (T19, [.slice (some ⟨R2, 0, none⟩) r cR2, .slice (some ⟨I2, 0, none⟩) r cI2]) (by simp)).1 1 _ rfl; simp only [Nat.zero_add] at p0 p1
 have q0 := (MG.out.r (T21, [.slice (some ⟨R1, 0, none⟩) r cR1, .slice (some ⟨I1, 0, none⟩) r cI1]) (by simp)).1 0 _ rfl; have q1 := (MG.out.r (T21, [.slice (some ⟨R1, 0, none⟩) r cR1, .slice (some ⟨I1, 0, none⟩) r cI1]) (by simp)).1 1 _ rfl; simp only [Nat.zero_add] at q0 q1
 have k0 := (MG.out.r (w.heap.size + 1 + 1, [.int .u64 c.x0, .int .u64 c.x1, .int .u64 c.x2, .int .u64 c.x3]) (by simp)).1 0 _ rfl; have k1 := (MG.out.r (w.heap.size + 1 + 1, [.int .u64 c.x0, .int .u64 c.x1, .int .u64 c.x2, .int .u64 c.x3]) (by simp)).1 1 _ rfl; have k2 := (MG.out.r (w.heap.size + 1 + 1, [.int .u64 c.x0, .int .u64 c.x1, .int .u64 c.x2, .int .u64 c.x3]) (by simp)).1 2 _ rfl; have k3 := (MG.out.r (w.heap.size + 1 + 1, [.int .u64 c.x0, .int .u64 c.x1, .int .u64 c.x2, .int .u64 c.x3]) (by simp)).1 3 _ rfl; simp only [Nat.zero_add] at k0 k1 k2 k3
 have y0 := (MG.out.r (w.heap.size + 1 + 1 + 1 + 1, [.slice (some ⟨R1, 0, none⟩) r cR1, .slice (some ⟨I1, 0, none⟩) r cI1, .slice (some ⟨R2, 0, none⟩) r cR2, .slice (some ⟨I2, 0, none⟩) r cI2]) (by simp)).1 0 _ rfl; have y1 := (MG.out.r (w.heap.size + 1 + 1 + 1 + 1, [.slice (some ⟨R1, 0, none⟩) r cR1, .slice (some ⟨I1, 0, none⟩) r cI1, .slice (some ⟨R2, 0, none⟩) r cR2, .slice (some ⟨I2, 0, none⟩) r cI2]) (by simp)).1 1 _ rfl; have y2 := (MG.out.r (w.heap.size + 1 + 1 + 1 + 1, [.slice (some ⟨R1, 0, none⟩) r cR1, .slice (some ⟨I1, 0, none⟩) r cI1, .slice (some ⟨R2, 0, none⟩) r cR2, .slice (some ⟨I2, 0, none⟩) r cI2]) (by simp)).1 2 _ rfl; have y3 := (MG.out.r (w.heap.size + 1 + 1 + 1 + 1, [.slice (some ⟨R1, 0, none⟩) r cR1, .slice (some ⟨I1, 0, none⟩) r cI1, .slice (some ⟨R2, 0, none⟩) r cR2, .slice (some ⟨I2, 0, none⟩) r cI2]) (by simp)).1 3 _ rfl; simp only [Nat.zero_add] at y0 y1 y2 y3
 have IO := hidden (inOrderF2 (.func (.func 28) #[.agg #[.slice (some ⟨R2, 0, none⟩) r cR2, .slice (some ⟨I2, 0, none⟩) r cI2, .int .u64 0, .int .u64 0, .int .u64 0, .int .u64 0, .slice (some ⟨A4, 0, none⟩) n c4]] #[]) (.func (.func 29) #[.agg #[.slice (some ⟨R1, 0, none⟩) r cR1, .slice (some ⟨I1, 0, none⟩) r cI1, .int .u64 c.x0, .int .u64 c.x1, .int .u64 c.x2, .int .u64 c.x3, .slice (some ⟨A6, 0, none⟩) n c6]] #[]))
 go_upto_region 13 with (first | (go_at_call 27; refine (IO.out _).mono ?_; rintro e wg2 ⟨rfl, rfl⟩; clear IO) | (go_at_call 30; refine (ASK.out _ MG.out.bel).mono ?_; rintro e wh ⟨rfl, hb⟩; have BH := hidden hb; clear hb ASK))
 have hSS := HSS.out
 have szg := MG.out.bel.size
 have BW0 : Tr.Bt (fun k => k = s) wg2 wh := bt_trans (Tr.Bt.of (bl_alloc wg2 (.cells #[.func (.func 29) #[.agg #[.slice (some ⟨R1, 0, none⟩) r cR1, .slice (some ⟨I1, 0, none⟩) r cI1, .int .u64 c.x0, .int .u64 c.x1, .int .u64 c.x2, .int .u64 c.x3, .slice (some ⟨A6, 0, none⟩) n c6]] #[], .func (.func 28) #[.agg #[.slice (some ⟨R2, 0, none⟩) r cR2, .slice (some ⟨I2, 0, none⟩) r cI2, .int .u64 0, .int .u64 0, .int .u64 0, .int .u64 0, .slice (some ⟨A4, 0, none⟩) n c4]] #[]] 69))) BH.out (fun _ _ e => e)
 have BW : Tr.Bt (fun k => k = s) w wh := bt_trans (Tr.Bt.of MG.out.bel) BW0 (fun _ _ e => e)
 have R13 : wh.rangeAt (w.heap.size + 1 + 1) 0 [.int .u64 c.x0, .int .u64 c.x1, .int .u64 c.x2, .int .u64 c.x3] := fun j v hv => bt_cell ((MG.out.r (w.heap.size + 1 + 1, [.int .u64 c.x0, .int .u64 c.x1, .int .u64 c.x2, .int .u64 c.x3]) (by simp)).1 j v hv) BW0 (by omega)
 have T16 : wh.there (w.heap.size + 1 + 1 + 1) 0 10 := there_bt (MG.out.r (w.heap.size + 1 + 1 + 1, [.int .u64 0, .int .u64 0, .int .u64 0, .int .u64 0, .int .u64 0, .int .u64 0, .int .u64 0, .int .u64 0, .slice none 0 0, .slice none 0 0]) (by simp)).2.1 BW0 (by omega)
 have l16 : w.heap.size + 1 + 1 + 1 < wg2.heap.size := (MG.out.r (w.heap.size + 1 + 1 + 1, [.int .u64 0, .int .u64 0, .int .u64 0, .int .u64 0, .int .u64 0, .int .u64 0, .int .u64 0, .int .u64 0, .slice none 0 0, .slice none 0 0]) (by simp)).2.2.2
 have B26 := bl_alloc wh (.cells #[.int .u64 z.x0, .int .u64 z.x1, .int .u64 z.x2, .int .u64 z.x3] 26)
 have BWi : Tr.Bt (fun k => k = s) w (wh.alloc (.cells #[.int .u64 z.x0, .int .u64 z.x1, .int .u64 z.x2, .int .u64 z.x3] 26)) := bt_trans BW (Tr.Bt.of (S := fun k => k = s) B26) (fun _ _ e => e)
 have R13' := range_bl R13 B26
 have T16' := Li.there_bl T16 B26
 have R26 := range_newM wh [.int .u64 z.x0, .int .u64 z.x1, .int .u64 z.x2, .int .u64 z.x3] 26
 have SZ26 := BW0.size
 have SZi : (wh.alloc (.cells #[.int .u64 z.x0, .int .u64 z.x1, .int .u64 z.x2, .int .u64 z.x3] 26)).heap.size = wh.heap.size + 1 := World.size_alloc _ _
 have TBi := Tr.tb_keep ALL.out.1 BWi (by omega)
 have r3 := rl_bt ALL.out.2.2.2.2.1 BWi (by omega)
 have r4 := rl_bt ALL.out.2.2.2.2.2.1 BWi (by omega)
 have r6 := rl_bt ALL.out.2.2.2.2.2.2 BWi (by omega)
 have XX := hidden (And.intro BWi (And.intro R13' (And.intro T16' (And.intro R26 (And.intro TBi (And.intro r3 (And.intro r4 r6)))))))
 have NN := hidden (And.intro l16 (And.intro SZ26 SZi))
 clear BW0 BW R13 T16 B26 BWi R13' T16' R26 TBi r3 r4 r6 MG BH hSS szg l16 SZ26 SZi p0 p1 q0 q1 k0 k1 k2 k3 y0 y1 y2 y3
 go_upto_region 15 with fail
 generalize wh.alloc (.cells #[.int .u64 z.x0, .int .u64 z.x1, .int .u64 z.x2, .int .u64 z.x3] 26) = wi at *
 generalize wh.heap.size = T26 at *
 have oz : z.ok := hzt ▸ lst_ok _
 have ou : u.ok := hu ▸ lst_ok _
 have X13 := XX.out.2.1
 have X26 := XX.out.2.2.2.1
 have c0' := X13 0 _ rfl; have c1' := X13 1 _ rfl; have c2' := X13 2 _ rfl; have c3' := X13 3 _ rfl
 have z0' := X26 0 _ rfl; have z1' := X26 1 _ rfl; have z2' := X26 2 _ rfl; have z3' := X26 3 _ rfl
 refine pe15 (kk := 2) (T13 := w.heap.size + 1 + 1) (T26 := T26) (A3 := A3) (A4 := A4) (A6 := A6) (n := n) (c3 := c3) (c4 := c4) (c6 := c6) (z := z) (c := c) (u := u) (v := v) (a1 := v) (a2 := u) (b1 := fun _ y => y) (b2 := fun x _ => x) (fa := Fa ks xs u) (fb := Fl ms) (W := wi) hn1 z0' z1' z2' z3' c0' c1' c2' c3' (hidden fun y hy => fix (R := u) (Sub_any z c y (XX.out.2.2.2.2.1.keep hy) oz oc) hu) (hidden fun y hy => ?_) (hidden fun y hy => fix (R := v) (Least_any c y (XX.out.2.2.2.2.1.keep hy) oc) hv) (hidden fun y hy => ?_) (hidden fun y N6 N10 hy => inOrderP2 u v (some ⟨N6, 0, none⟩) (some ⟨N10, 0, none⟩) n n n n y) (hidden ?_)
 ·refine (answeredR A4 A3 n c4 c3 ks xs u y (XX.out.2.2.2.2.1.keep hy) hn1 (by omega) o4 o3 ou (XX.out.2.2.2.2.2.2.1.keep hy) (XX.out.2.2.2.2.2.1.keep hy)).mono ?_
  rintro e w' ⟨rfl, h1, h2⟩
  exact ⟨_, rfl, by omega, rl_of h1, h2⟩
 ·refine (leastR A6 n c6 ms y (XX.out.2.2.2.2.1.keep hy) (by omega) o6 (XX.out.2.2.2.2.2.2.2.keep hy)).mono ?_
  rintro e w' ⟨rfl, h1⟩
  exact ⟨_, rfl, by omega, rl_of h1.2.2, h1.1⟩
 intro N6 N10 A28 A29 wz HB R28 R29 RA RB G28 G29 G6 G10
 replace R28 : wz.rangeAt A28 0 [.int .u64 v.x0, .int .u64 v.x1, .int .u64 v.x2, .int .u64 v.x3, .slice (some ⟨N10, 0, none⟩) n n] := R28
 replace R29 : wz.rangeAt A29 0 [.int .u64 u.x0, .int .u64 u.x1, .int .u64 u.x2, .int .u64 u.x3, .slice (some ⟨N6, 0, none⟩) n n] := R29
 have X28 := hidden (And.intro R28 R29)
 have m0 := R28 0 _ rfl
 have n0 := R29 0 _ rfl
 have m1 := R28 1 _ rfl
 have n1 := R29 1 _ rfl
 have m2 := R28 2 _ rfl
 have n2 := R29 2 _ rfl
 have m3 := R28 3 _ rfl
 have n3 := R29 3 _ rfl
 have m4 := R28 4 _ rfl
 have n4 := R29 4 _ rfl
 simp only [Nat.zero_add] at m0 n0 m1 n1 m2 n2 m3 n3 m4 n4
 have TZ := Li.there_bl XX.out.2.2.1 HB
 obtain ⟨e0, d0⟩ := Option.isSome_iff_exists.1 (TZ 0 (by omega)).1
 have g0_ := (TZ 0 (by omega)).2
 obtain ⟨e1, d1⟩ := Option.isSome_iff_exists.1 (TZ 1 (by omega)).1
 have g1_ := (TZ 1 (by omega)).2
 obtain ⟨e2, d2⟩ := Option.isSome_iff_exists.1 (TZ 2 (by omega)).1
 have g2_ := (TZ 2 (by omega)).2
 obtain ⟨e3, d3⟩ := Option.isSome_iff_exists.1 (TZ 3 (by omega)).1
 have g3_ := (TZ 3 (by omega)).2
 obtain ⟨e4, d4⟩ := Option.isSome_iff_exists.1 (TZ 4 (by omega)).1
 have g4_ := (TZ 4 (by omega)).2
 obtain ⟨e5, d5⟩ := Option.isSome_iff_exists.1 (TZ 5 (by omega)).1
 have g5_ := (TZ 5 (by omega)).2
 obtain ⟨e6, d6⟩ := Option.isSome_iff_exists.1 (TZ 6 (by omega)).1
 have g6_ := (TZ 6 (by omega)).2
 obtain ⟨e7, d7⟩ := Option.isSome_iff_exists.1 (TZ 7 (by omega)).1
 have g7_ := (TZ 7 (by omega)).2
 obtain ⟨e8, d8⟩ := Option.isSome_iff_exists.1 (TZ 8 (by omega)).1
 have g8_ := (TZ 8 (by omega)).2
 obtain ⟨e9, d9⟩ := Option.isSome_iff_exists.1 (TZ 9 (by omega)).1
 have g9_ := (TZ 9 (by omega)).2
 simp only [Nat.zero_add] at d0 g0_ d1 g1_ d2 g2_ d3 g3_ d4 g4_ d5 g5_ d6 g6_ d7 g7_ d8 g8_ d9 g9_
 have FIN := hidden (And.intro HB (And.intro RA (And.intro RB (And.intro G6 G10))))
 clear R28 R29 TZ HB RA RB X28 G28 G29 G6 G10 X13 X26 c0' c1' c2' c3' z0' z1' z2' z3'
 go_wp2_with fail
 obtain ⟨HB, RA, RB, G6, G10⟩ := FIN.out
 have hG := gb_setCells (w.heap.size + 1 + 1 + 1) [.int .u64 v.x0, .int .u64 v.x1, .int .u64 v.x2, .int .u64 v.x3, .int .u64 u.x0, .int .u64 u.x1, .int .u64 u.x2, .int .u64 u.x3, .slice (some ⟨N10, 0, none⟩) n n, .slice (some ⟨N6, 0, none⟩) n n] 0 wz
 have l16 := NN.out.1
 have sz1 := NN.out.2.1
 have sz2 := NN.out.2.2
 refine bodyPost_ret (v := .tuple #[.agg #[.int .u64 v.x0, .int .u64 v.x1, .int .u64 v.x2, .int .u64 v.x3, .int .u64 u.x0, .int .u64 u.x1, .int .u64 u.x2, .int .u64 u.x3, .slice (some ⟨N10, 0, none⟩) n n, .slice (some ⟨N6, 0, none⟩) n n], .int .i64 0]) (by simp [results, Tryz.results10, go_sem, d0, d1, d2, d3, d4, d5, d6, d7, d8, d9]) rfl ⟨N6, N10, rfl, rl_gb RA hG (by omega), rl_gb RB hG (by omega), by omega, by omega, Tr.Bt.grown (bt_trans XX.out.1 (Tr.Bt.of (S := fun k => k = s) HB) (fun _ _ e => e)) hG (fun k hk => by have := Option.some.inj hk; omega)⟩
open Go.RowKit
theorem finfo : (Tryz.prog.info? 69).map (fun i => (i.zero, i.size, i.bytes)) = some (some .nilFunc, 1, 8) := by kernel_rfl
structure Vr (w : World) (sm : E4) (v : Value) (i : Nat) (fs : List Value) (x : World) : Prop where
 bel : Below w.heap.size w x
 rg : x.rangeAt w.heap.size 0 [.int .u64 sm.x0, .int .u64 sm.x1, .int .u64 sm.x2, .int .u64 sm.x3]
 th : x.there w.heap.size 0 4
 own : x.ownsRow (w.heap.size + 1) 69 1 v i fs
theorem Vr.keep {w x x' : World} {sm : E4} {v : Value} {i : Nat} {fs : List Value} (h : Vr w sm v i fs x) (hb : Below x.heap.size x x') : Vr w sm v i fs x' := ⟨bl_trans h.bel hb, range_bl h.rg hb, Li.there_bl h.th hb, Tr.own_stay h.own hb⟩
theorem Vr.put {w x : World} {sm : E4} {v : Value} {i : Nat} {fs : List Value} (h : Vr w sm v i fs x) (z : E4) : Vr w z v i fs (x.setCells w.heap.size 0 [.int .u64 z.x0, .int .u64 z.x1, .int .u64 z.x2, .int .u64 z.x3]) :=
 ⟨below_trans h.bel (below_grown (gb_setCells w.heap.size [.int .u64 z.x0, .int .u64 z.x1, .int .u64 z.x2, .int .u64 z.x3] 0 x) h.bel.size (fun k hk => Nat.le_of_eq (Option.some.inj hk))), World.rangeAt_setCells_same x w.heap.size 0 [.int .u64 z.x0, .int .u64 z.x1, .int .u64 z.x2, .int .u64 z.x3] h.th, there_set h.th _ 0 _, Tr.own_blk h.own (fun g e => (gb_setCells w.heap.size [.int .u64 z.x0, .int .u64 z.x1, .int .u64 z.x2, .int .u64 z.x3] 0 x).block g (h.own.lt g e).2 (fun e2 => by have := (h.own.lt g e).1; have := Option.some.inj e2; omega))⟩
theorem Vr.add {w x x' : World} {sm : E4} {v v' : Value} {i : Nat} {fs fs' : List Value} (h : Vr w sm v i fs x) (hg : x.grownBy x' v.ownBlock) (ho : x'.ownsRow (w.heap.size + 1) 69 1 v' (i + 1) fs') : Vr w sm v' (i + 1) fs' x' :=
 have ne : some w.heap.size ≠ v.ownBlock := fun e => by have := (h.own.lt _ e.symm).1; omega
 ⟨below_trans h.bel (below_grown hg h.bel.size (fun k hk => by have := (h.own.lt k hk).1; omega)), fun j u hu => hg.cell (h.rg j u hu) ne, fun j hj => by
  obtain ⟨u, hu⟩ := Option.isSome_iff_exists.1 (h.th j hj).1
  have hl := World.block_lt_of_cell? x _ hu
  exact ⟨by rw [World.cell?_of_block (a := ⟨w.heap.size, 0 + j, none⟩) (hg.block _ hl ne)]; exact (h.th j hj).1, by rw [World.frozen?_of_block (a := ⟨w.heap.size, 0 + j, none⟩) (hg.block _ hl ne)]; exact (h.th j hj).2⟩, ho⟩
theorem verifyR (s r n Pb cP B1 B2 e1 e2 : Nat) (t z c1 c2 : E4) (a1 a2 : Nat → E4) (R1 I1 cR1 cI1 : Nat) (g1 cn1 : Nat → Nat) (gs1 : Nat → Nat → E4) (im1 : Nat → E4) (R2 I2 cR2 cI2 : Nat) (g2 cn2 : Nat → Nat) (gs2 : Nat → Nat → E4) (im2 : Nat → E4) (w : World) (hT : Tb w) (ht0 : 0 < s) (hr1 : 1 ≤ r) (hr2 : r ≤ 64) (hn : n ≤ 20) (hn1 : 1 ≤ n) (C1 : Cb s w R1 I1 r n g1 cn1 gs1 im1) (C2 : Cb s w R2 I2 r n g2 cn2 gs2 im2) (hS : Fz w s t) (ot : t.ok) (hz : ¬ t.n % Sm.L = 0) (hzt : lst t.n = z) (o1 : c1.ok) (o2 : c2.ok)
  (r1 : Rl w B1 0 n a1) (r2 : Rl w B2 0 n a2) (k1 : ∀ i, i < n → (a1 i).ok) (k2 : ∀ i, i < n → (a2 i).ok) (l1 : B1 < s) (l2 : B2 < s) (hP : w.rangeAt Pb 0 [.int .u64 c1.x0, .int .u64 c1.x1, .int .u64 c1.x2, .int .u64 c1.x3, .slice (some ⟨B1, 0, none⟩) n e1, .int .u64 c2.x0, .int .u64 c2.x1, .int .u64 c2.x2, .int .u64 c2.x3, .slice (some ⟨B2, 0, none⟩) n e2]) (hsum : z.n % Sm.L = (lst ((lst ((⟨0, 0, 0, 0⟩ : E4).n + c1.n)).n + c2.n)).n % Sm.L) :
  Calls Tryz.prog 39 #[.iface 64 (.agg #[.slice (some ⟨R1, 0, none⟩) r cR1, .slice (some ⟨I1, 0, none⟩) r cI1, .slice (some ⟨R2, 0, none⟩) r cR2, .slice (some ⟨I2, 0, none⟩) r cI2]), .iface 45 (.pointer (some ⟨s, 0, none⟩)), .slice (some ⟨Pb, 0, none⟩) 2 cP] w fun e w' => e = .returned (.int .i64 0) ∧ Tr.Bt (fun k => k = s) w w' := by
 obtain ⟨i0, hi, hz0, hz1, hz2⟩ := info_parts finfo
 have HI := hidden hi
 have HZ0 := hidden hz0
 have HZ1 := hidden hz1
 have HZ2 := hidden hz2
 have HU : Hid (Tryz.prog.underlying 107 = some (.slice 69)) := hidden (by kernel_rfl)
 have V0 : Hid (Vr w ⟨0, 0, 0, 0⟩ (.slice none 0 0) 0 [] (w.alloc (.cells #[.int .u64 0, .int .u64 0, .int .u64 0, .int .u64 0] 26))) := hidden ⟨bl_alloc w _, range_newM w [.int .u64 0, .int .u64 0, .int .u64 0, .int .u64 0] 26, there_newM w [.int .u64 0, .int .u64 0, .int .u64 0, .int .u64 0] 26, World.ownsRow_nil _ _ _ _⟩
 have ALL := hidden (And.intro hT (And.intro C1 (And.intro C2 (And.intro hS (And.intro r1 (And.intro r2 hP))))))
 have HSS := hidden hS.lt
 clear hT C1 C2 hS r1 r2 hP hi hz0 hz1 hz2
 go_enter Tryz.func39, Tryz.ntmps39
 go_upto_region 4 with fail
 generalize (w.alloc (.cells #[.int .u64 0, .int .u64 0, .int .u64 0, .int .u64 0] 26)) = w1 at *
 go_wp2_with fail
 go_loopw [8, 19] (fun lv iv w' => ∃ i : Nat, i ≤ 2 ∧ iv = .int .i64 i ∧ Hid (Vr w (if i = 0 then ⟨0, 0, 0, 0⟩ else if i = 1 then (lst ((⟨0, 0, 0, 0⟩ : E4).n + c1.n)) else (lst ((lst ((⟨0, 0, 0, 0⟩ : E4).n + c1.n)).n + c2.n))) lv i (if i = 0 then [] else if i = 1 then [.func (.func 29) #[.agg #[.slice (some ⟨R1, 0, none⟩) r cR1, .slice (some ⟨I1, 0, none⟩) r cI1, .int .u64 c1.x0, .int .u64 c1.x1, .int .u64 c1.x2, .int .u64 c1.x3, .slice (some ⟨B1, 0, none⟩) n e1]] #[]] else [.func (.func 29) #[.agg #[.slice (some ⟨R1, 0, none⟩) r cR1, .slice (some ⟨I1, 0, none⟩) r cI1, .int .u64 c1.x0, .int .u64 c1.x1, .int .u64 c1.x2, .int .u64 c1.x3, .slice (some ⟨B1, 0, none⟩) n e1]] #[], .func (.func 29) #[.agg #[.slice (some ⟨R2, 0, none⟩) r cR2, .slice (some ⟨I2, 0, none⟩) r cI2, .int .u64 c2.x0, .int .u64 c2.x1, .int .u64 c2.x2, .int .u64 c2.x3, .slice (some ⟨B2, 0, none⟩) n e2]] #[]]) w')) (fun _ i _ => 2 - (intOf i).toNat)
 case atStart => exact ⟨0, by omega, rfl, V0⟩
 case round =>
  obtain ⟨i, hi, rfl, hV⟩ := hrel
  clear V0
  by_cases hin : i < 2
  ·obtain rfl | rfl : i = 0 ∨ i = 1 := by omega
   ·have VV : Hid (Vr w ⟨0, 0, 0, 0⟩ u8 0 [] wr) := hV
    clear hV
    have PW := range_bl ALL.out.2.2.2.2.2.2 VV.out.bel
    have x0 := PW 0 _ rfl
    have x1 := PW 1 _ rfl
    have x2 := PW 2 _ rfl
    have x3 := PW 3 _ rfl
    have x4 := PW 4 _ rfl
    simp only [Nat.zero_add] at x0 x1 x2 x3 x4
    clear PW
    have FX : Hid (∀ y, Below w.heap.size w y → Calls Tryz.prog 25 #[.agg #[.slice (some ⟨R1, 0, none⟩) r cR1, .slice (some ⟨I1, 0, none⟩) r cI1], .slice (some ⟨y.heap.size, 0, none⟩) 1 1] (y.alloc (.cells #[.slice (some ⟨B1, 0, none⟩) n e1] 23)) fun e w' => e = .returned (.bool true) ∧ Below (y.alloc (.cells #[.slice (some ⟨B1, 0, none⟩) n e1] 23)).heap.size (y.alloc (.cells #[.slice (some ⟨B1, 0, none⟩) n e1] 23)) w') := hidden (fun y hy => fits_any R1 I1 r n cR1 cI1 y.heap.size 1 1 g1 cn1 gs1 im1 (fun _ => some ⟨B1, 0, none⟩) (fun _ => e1) _ hr1 hr2 hn1 (by omega) ((ALL.out.2.1.keep (bl_trans hy (bl_alloc _ _))).c) (fun j hj => by
     obtain rfl : j = 0 := by omega
     exact range_newM y [.slice (some ⟨B1, 0, none⟩) n e1] 23 0 _ rfl))
    go_upto_region 8 with fail
    have M1 := hidden ((Mw.start wr).new [.int .u64 c1.x0, .int .u64 c1.x1, .int .u64 c1.x2, .int .u64 c1.x3, .slice (some ⟨B1, 0, none⟩) n e1] 77)
    have V1 := hidden (VV.out.keep M1.out.bel)
    have N10 : Hid (wr.heap.size ≠ w.heap.size) := hidden (by have := World.block_lt_of_cell? _ _ (VV.out.rg 0 _ rfl); simp only at this; omega)
    generalize wr.alloc (.cells [.int .u64 c1.x0, .int .u64 c1.x1, .int .u64 c1.x2, .int .u64 c1.x3, .slice (some ⟨B1, 0, none⟩) n e1].toArray 77) = wa at *
    clear VV x0 x1 x2 x3 x4
    go_upto_region 9 with (first | (go_at_call 24; refine (claimOf1 R1 I1 R2 I2 r cR1 cI1 cR2 cI2 _).mono ?_; rintro e wb ⟨rfl, hb⟩; have M2 := hidden (M1.out.keep hb); have V2 := hidden (V1.out.keep hb); clear hb M1 V1))
    have M3 := hidden (M2.out.new [.slice (some ⟨R1, 0, none⟩) r cR1, .slice (some ⟨I1, 0, none⟩) r cI1] 43)
    have V3 := hidden (V2.out.keep (bl_alloc wb (.cells [.slice (some ⟨R1, 0, none⟩) r cR1, .slice (some ⟨I1, 0, none⟩) r cI1].toArray 43)))
    have N11 : Hid (wb.heap.size ≠ w.heap.size) := hidden (by have := World.block_lt_of_cell? _ _ (V2.out.rg 0 _ rfl); simp only at this; omega)
    generalize wb.heap.size = T11 at *
    generalize wb.alloc (.cells [.slice (some ⟨R1, 0, none⟩) r cR1, .slice (some ⟨I1, 0, none⟩) r cI1].toArray 43) = wc at *
    generalize wr.heap.size = T10 at *
    clear M2 V2
    have p0 := (M3.out.r (T11, [.slice (some ⟨R1, 0, none⟩) r cR1, .slice (some ⟨I1, 0, none⟩) r cI1]) (by simp)).1 0 _ rfl; have p1 := (M3.out.r (T11, [.slice (some ⟨R1, 0, none⟩) r cR1, .slice (some ⟨I1, 0, none⟩) r cI1]) (by simp)).1 1 _ rfl; simp only [Nat.zero_add] at p0 p1
    have q0 := (M3.out.r (T10, [.int .u64 c1.x0, .int .u64 c1.x1, .int .u64 c1.x2, .int .u64 c1.x3, .slice (some ⟨B1, 0, none⟩) n e1]) (by simp)).1 0 _ rfl; have q1 := (M3.out.r (T10, [.int .u64 c1.x0, .int .u64 c1.x1, .int .u64 c1.x2, .int .u64 c1.x3, .slice (some ⟨B1, 0, none⟩) n e1]) (by simp)).1 1 _ rfl; have q2 := (M3.out.r (T10, [.int .u64 c1.x0, .int .u64 c1.x1, .int .u64 c1.x2, .int .u64 c1.x3, .slice (some ⟨B1, 0, none⟩) n e1]) (by simp)).1 2 _ rfl; have q3 := (M3.out.r (T10, [.int .u64 c1.x0, .int .u64 c1.x1, .int .u64 c1.x2, .int .u64 c1.x3, .slice (some ⟨B1, 0, none⟩) n e1]) (by simp)).1 3 _ rfl; have q4 := (M3.out.r (T10, [.int .u64 c1.x0, .int .u64 c1.x1, .int .u64 c1.x2, .int .u64 c1.x3, .slice (some ⟨B1, 0, none⟩) n e1]) (by simp)).1 4 _ rfl; simp only [Nat.zero_add] at q0 q1 q2 q3 q4
    go_upto_region 11 with (first | (go_at_call 25; refine (FX.out _ V3.out.bel).mono ?_; rintro e wd ⟨rfl, hb⟩; have M4 := hidden (M3.out.keep (bl_trans (bl_alloc wc (.cells #[.slice (some ⟨B1, 0, none⟩) n e1] 23)) hb)); have V4 := hidden (V3.out.keep (bl_trans (bl_alloc wc (.cells #[.slice (some ⟨B1, 0, none⟩) n e1] 23)) hb)); clear hb M3 V3 p0 p1 q0 q1 q2 q3 q4 FX))
    have q0 := (M4.out.r (T10, [.int .u64 c1.x0, .int .u64 c1.x1, .int .u64 c1.x2, .int .u64 c1.x3, .slice (some ⟨B1, 0, none⟩) n e1]) (by simp)).1 0 _ rfl; have q1 := (M4.out.r (T10, [.int .u64 c1.x0, .int .u64 c1.x1, .int .u64 c1.x2, .int .u64 c1.x3, .slice (some ⟨B1, 0, none⟩) n e1]) (by simp)).1 1 _ rfl; have q2 := (M4.out.r (T10, [.int .u64 c1.x0, .int .u64 c1.x1, .int .u64 c1.x2, .int .u64 c1.x3, .slice (some ⟨B1, 0, none⟩) n e1]) (by simp)).1 2 _ rfl; have q3 := (M4.out.r (T10, [.int .u64 c1.x0, .int .u64 c1.x1, .int .u64 c1.x2, .int .u64 c1.x3, .slice (some ⟨B1, 0, none⟩) n e1]) (by simp)).1 3 _ rfl; have q4 := (M4.out.r (T10, [.int .u64 c1.x0, .int .u64 c1.x1, .int .u64 c1.x2, .int .u64 c1.x3, .slice (some ⟨B1, 0, none⟩) n e1]) (by simp)).1 4 _ rfl; simp only [Nat.zero_add] at q0 q1 q2 q3 q4
    have y0 := V4.out.rg 0 _ rfl; have y1 := V4.out.rg 1 _ rfl; have y2 := V4.out.rg 2 _ rfl; have y3 := V4.out.rg 3 _ rfl
    simp only [Nat.zero_add] at y0 y1 y2 y3
    obtain ⟨sn, hsn⟩ : ∃ sn : E4, (lst ((⟨0, 0, 0, 0⟩ : E4).n + c1.n)) = sn := ⟨_, rfl⟩
    have HSN := hidden hsn
    obtain ⟨so, hso⟩ : ∃ so : E4, (⟨0, 0, 0, 0⟩ : E4) = so := ⟨_, rfl⟩
    have AD : Hid (∀ y, Tb y → Calls Tryz.prog 13 #[.agg #[.int .u64 so.x0, .int .u64 so.x1, .int .u64 so.x2, .int .u64 so.x3], .agg #[.int .u64 c1.x0, .int .u64 c1.x1, .int .u64 c1.x2, .int .u64 c1.x3]] y fun e w' => e = .returned (.agg #[.int .u64 sn.x0, .int .u64 sn.x1, .int .u64 sn.x2, .int .u64 sn.x3]) ∧ Below y.heap.size y w') := hidden (fun y T => fix (R := sn) (Add_any so c1 y T (by rw [← hso]; exact zok) o1) (by rw [← hso]; exact hsn))
    replace y0 : wd.cell? ⟨w.heap.size, 0, none⟩ = some (.int .u64 so.x0) := by rw [← hso]; exact y0
    replace y1 : wd.cell? ⟨w.heap.size, 1, none⟩ = some (.int .u64 so.x1) := by rw [← hso]; exact y1
    replace y2 : wd.cell? ⟨w.heap.size, 2, none⟩ = some (.int .u64 so.x2) := by rw [← hso]; exact y2
    replace y3 : wd.cell? ⟨w.heap.size, 3, none⟩ = some (.int .u64 so.x3) := by rw [← hso]; exact y3
    have V4' : Hid (Vr w so u8 0 [] wd) := hidden (by rw [← hso]; exact V4.out)
    clear hsn hso V4
    have TW := hidden (ALL.out.1.keep V4'.out.bel)
    go_upto_region 12 with (first | (go_at_call 13; refine (AD.out _ TW.out).mono ?_; rintro e we ⟨rfl, hb⟩; have M5 := hidden (M4.out.keep hb); have V5 := hidden (V4'.out.keep hb); clear hb M4 V4' q0 q1 q2 q3 q4 y0 y1 y2 y3 AD TW; have TH := V5.out.th; obtain ⟨f0, d0⟩ := Option.isSome_iff_exists.1 (TH 0 (by omega)).1; obtain ⟨f1, d1⟩ := Option.isSome_iff_exists.1 (TH 1 (by omega)).1; obtain ⟨f2, d2⟩ := Option.isSome_iff_exists.1 (TH 2 (by omega)).1; obtain ⟨f3, d3⟩ := Option.isSome_iff_exists.1 (TH 3 (by omega)).1; have h0 := (TH 0 (by omega)).2; have h1 := (TH 1 (by omega)).2; have h2 := (TH 2 (by omega)).2; have h3 := (TH 3 (by omega)).2; simp only [Nat.zero_add] at d0 d1 d2 d3 h0 h1 h2 h3; clear TH))
    clear d0 d1 d2 d3 h0 h1 h2 h3
    have V6 := hidden (V5.out.put sn)
    have R10 := hidden (World.rangeAt_setCells_apart (M5.out.r (T10, [.int .u64 c1.x0, .int .u64 c1.x1, .int .u64 c1.x2, .int .u64 c1.x3, .slice (some ⟨B1, 0, none⟩) n e1]) (by simp)).1 w.heap.size 0 [.int .u64 sn.x0, .int .u64 sn.x1, .int .u64 sn.x2, .int .u64 sn.x3] (.inl N10.out))
    have R11 := hidden (World.rangeAt_setCells_apart (M5.out.r (T11, [.slice (some ⟨R1, 0, none⟩) r cR1, .slice (some ⟨I1, 0, none⟩) r cI1]) (by simp)).1 w.heap.size 0 [.int .u64 sn.x0, .int .u64 sn.x1, .int .u64 sn.x2, .int .u64 sn.x3] (.inl N11.out))
    have chE : we.setCells w.heap.size 0 [.int .u64 sn.x0, .int .u64 sn.x1, .int .u64 sn.x2, .int .u64 sn.x3] = ((((we.setCell ⟨w.heap.size, 0, none⟩ (.int .u64 sn.x0)).setCell ⟨w.heap.size, 1, none⟩ (.int .u64 sn.x1)).setCell ⟨w.heap.size, 2, none⟩ (.int .u64 sn.x2)).setCell ⟨w.heap.size, 3, none⟩ (.int .u64 sn.x3)) := rfl
    rw [chE] at V6 R10 R11
    clear chE
    generalize ((((we.setCell ⟨w.heap.size, 0, none⟩ (.int .u64 sn.x0)).setCell ⟨w.heap.size, 1, none⟩ (.int .u64 sn.x1)).setCell ⟨w.heap.size, 2, none⟩ (.int .u64 sn.x2)).setCell ⟨w.heap.size, 3, none⟩ (.int .u64 sn.x3)) = wf at *
    clear M5 V5
    have q0 := R10.out 0 _ rfl; have q1 := R10.out 1 _ rfl; have q2 := R10.out 2 _ rfl; have q3 := R10.out 3 _ rfl; have q4 := R10.out 4 _ rfl; have p0 := R11.out 0 _ rfl; have p1 := R11.out 1 _ rfl
    simp only [Nat.zero_add] at q0 q1 q2 q3 q4 p0 p1
    have V7 := hidden (V6.out.keep (bl_alloc wf (.cells #[.func (.func 29) #[.agg #[.slice (some ⟨R1, 0, none⟩) r cR1, .slice (some ⟨I1, 0, none⟩) r cI1, .int .u64 c1.x0, .int .u64 c1.x1, .int .u64 c1.x2, .int .u64 c1.x3, .slice (some ⟨B1, 0, none⟩) n e1]] #[]] 69)))
    go_wp2_with (first | (at_builtin; refine wpList_append_own_at _ rfl _ _ 107 rfl (w.heap.size + 1) 69 i0 .nilFunc 1 8 HU.out HI.out HZ0.out HZ1.out HZ2.out rfl (by decide) _ 0 _ rfl V7.out.own ⟨wf.heap.size, 0, none⟩ 1 1 [.func (.func 29) #[.agg #[.slice (some ⟨R1, 0, none⟩) r cR1, .slice (some ⟨I1, 0, none⟩) r cI1, .int .u64 c1.x0, .int .u64 c1.x1, .int .u64 c1.x2, .int .u64 c1.x3, .slice (some ⟨B1, 0, none⟩) n e1]] #[]] rfl rfl (cells_new wf [.func (.func 29) #[.agg #[.slice (some ⟨R1, 0, none⟩) r cR1, .slice (some ⟨I1, 0, none⟩) r cI1, .int .u64 c1.x0, .int .u64 c1.x1, .int .u64 c1.x2, .int .u64 c1.x3, .slice (some ⟨B1, 0, none⟩) n e1]] #[]] 69) (by intro u hu; obtain rfl := List.mem_singleton.1 hu; rfl) (by unfold maxLen; omega) (by omega) (World.block_lt_of_cell? _ _ (V7.out.rg 0 _ rfl)) ?_; intro v4 w4 how4 hgr4 hnil4 hat4; have V8 := hidden (V7.out.add hgr4 how4); clear how4 hgr4 hnil4 hat4))
    go_roundw
    case rel => exact ⟨1, by omega, by go_num, hidden (by have := V8.out; rw [← HSN.out] at this; exact this)⟩
    case measure => simp [intOf]
   ·have VV : Hid (Vr w (lst ((⟨0, 0, 0, 0⟩ : E4).n + c1.n)) u8 1 [.func (.func 29) #[.agg #[.slice (some ⟨R1, 0, none⟩) r cR1, .slice (some ⟨I1, 0, none⟩) r cI1, .int .u64 c1.x0, .int .u64 c1.x1, .int .u64 c1.x2, .int .u64 c1.x3, .slice (some ⟨B1, 0, none⟩) n e1]] #[]] wr) := hV
    clear hV
    have PW := range_bl ALL.out.2.2.2.2.2.2 VV.out.bel
    have x0 := PW 5 _ rfl
    have x1 := PW 6 _ rfl
    have x2 := PW 7 _ rfl
    have x3 := PW 8 _ rfl
    have x4 := PW 9 _ rfl
    simp only [Nat.zero_add] at x0 x1 x2 x3 x4
    clear PW
    have FX : Hid (∀ y, Below w.heap.size w y → Calls Tryz.prog 25 #[.agg #[.slice (some ⟨R2, 0, none⟩) r cR2, .slice (some ⟨I2, 0, none⟩) r cI2], .slice (some ⟨y.heap.size, 0, none⟩) 1 1] (y.alloc (.cells #[.slice (some ⟨B2, 0, none⟩) n e2] 23)) fun e w' => e = .returned (.bool true) ∧ Below (y.alloc (.cells #[.slice (some ⟨B2, 0, none⟩) n e2] 23)).heap.size (y.alloc (.cells #[.slice (some ⟨B2, 0, none⟩) n e2] 23)) w') := hidden (fun y hy => fits_any R2 I2 r n cR2 cI2 y.heap.size 1 1 g2 cn2 gs2 im2 (fun _ => some ⟨B2, 0, none⟩) (fun _ => e2) _ hr1 hr2 hn1 (by omega) ((ALL.out.2.2.1.keep (bl_trans hy (bl_alloc _ _))).c) (fun j hj => by
     obtain rfl : j = 0 := by omega
     exact range_newM y [.slice (some ⟨B2, 0, none⟩) n e2] 23 0 _ rfl))
    go_upto_region 8 with fail
    have M1 := hidden ((Mw.start wr).new [.int .u64 c2.x0, .int .u64 c2.x1, .int .u64 c2.x2, .int .u64 c2.x3, .slice (some ⟨B2, 0, none⟩) n e2] 77)
    have V1 := hidden (VV.out.keep M1.out.bel)
    have N10 : Hid (wr.heap.size ≠ w.heap.size) := hidden (by have := World.block_lt_of_cell? _ _ (VV.out.rg 0 _ rfl); simp only at this; omega)
    generalize wr.alloc (.cells [.int .u64 c2.x0, .int .u64 c2.x1, .int .u64 c2.x2, .int .u64 c2.x3, .slice (some ⟨B2, 0, none⟩) n e2].toArray 77) = wa at *
    clear VV x0 x1 x2 x3 x4
    go_upto_region 9 with (first | (go_at_call 24; refine (claimOf2 R1 I1 R2 I2 r cR1 cI1 cR2 cI2 _).mono ?_; rintro e wb ⟨rfl, hb⟩; have M2 := hidden (M1.out.keep hb); have V2 := hidden (V1.out.keep hb); clear hb M1 V1))
    have M3 := hidden (M2.out.new [.slice (some ⟨R2, 0, none⟩) r cR2, .slice (some ⟨I2, 0, none⟩) r cI2] 43)
    have V3 := hidden (V2.out.keep (bl_alloc wb (.cells [.slice (some ⟨R2, 0, none⟩) r cR2, .slice (some ⟨I2, 0, none⟩) r cI2].toArray 43)))
    have N11 : Hid (wb.heap.size ≠ w.heap.size) := hidden (by have := World.block_lt_of_cell? _ _ (V2.out.rg 0 _ rfl); simp only at this; omega)
    generalize wb.heap.size = T11 at *
    generalize wb.alloc (.cells [.slice (some ⟨R2, 0, none⟩) r cR2, .slice (some ⟨I2, 0, none⟩) r cI2].toArray 43) = wc at *
    generalize wr.heap.size = T10 at *
    clear M2 V2
    have p0 := (M3.out.r (T11, [.slice (some ⟨R2, 0, none⟩) r cR2, .slice (some ⟨I2, 0, none⟩) r cI2]) (by simp)).1 0 _ rfl; have p1 := (M3.out.r (T11, [.slice (some ⟨R2, 0, none⟩) r cR2, .slice (some ⟨I2, 0, none⟩) r cI2]) (by simp)).1 1 _ rfl; simp only [Nat.zero_add] at p0 p1
    have q0 := (M3.out.r (T10, [.int .u64 c2.x0, .int .u64 c2.x1, .int .u64 c2.x2, .int .u64 c2.x3, .slice (some ⟨B2, 0, none⟩) n e2]) (by simp)).1 0 _ rfl; have q1 := (M3.out.r (T10, [.int .u64 c2.x0, .int .u64 c2.x1, .int .u64 c2.x2, .int .u64 c2.x3, .slice (some ⟨B2, 0, none⟩) n e2]) (by simp)).1 1 _ rfl; have q2 := (M3.out.r (T10, [.int .u64 c2.x0, .int .u64 c2.x1, .int .u64 c2.x2, .int .u64 c2.x3, .slice (some ⟨B2, 0, none⟩) n e2]) (by simp)).1 2 _ rfl; have q3 := (M3.out.r (T10, [.int .u64 c2.x0, .int .u64 c2.x1, .int .u64 c2.x2, .int .u64 c2.x3, .slice (some ⟨B2, 0, none⟩) n e2]) (by simp)).1 3 _ rfl; have q4 := (M3.out.r (T10, [.int .u64 c2.x0, .int .u64 c2.x1, .int .u64 c2.x2, .int .u64 c2.x3, .slice (some ⟨B2, 0, none⟩) n e2]) (by simp)).1 4 _ rfl; simp only [Nat.zero_add] at q0 q1 q2 q3 q4
    go_upto_region 11 with (first | (go_at_call 25; refine (FX.out _ V3.out.bel).mono ?_; rintro e wd ⟨rfl, hb⟩; have M4 := hidden (M3.out.keep (bl_trans (bl_alloc wc (.cells #[.slice (some ⟨B2, 0, none⟩) n e2] 23)) hb)); have V4 := hidden (V3.out.keep (bl_trans (bl_alloc wc (.cells #[.slice (some ⟨B2, 0, none⟩) n e2] 23)) hb)); clear hb M3 V3 p0 p1 q0 q1 q2 q3 q4 FX))
    have q0 := (M4.out.r (T10, [.int .u64 c2.x0, .int .u64 c2.x1, .int .u64 c2.x2, .int .u64 c2.x3, .slice (some ⟨B2, 0, none⟩) n e2]) (by simp)).1 0 _ rfl; have q1 := (M4.out.r (T10, [.int .u64 c2.x0, .int .u64 c2.x1, .int .u64 c2.x2, .int .u64 c2.x3, .slice (some ⟨B2, 0, none⟩) n e2]) (by simp)).1 1 _ rfl; have q2 := (M4.out.r (T10, [.int .u64 c2.x0, .int .u64 c2.x1, .int .u64 c2.x2, .int .u64 c2.x3, .slice (some ⟨B2, 0, none⟩) n e2]) (by simp)).1 2 _ rfl; have q3 := (M4.out.r (T10, [.int .u64 c2.x0, .int .u64 c2.x1, .int .u64 c2.x2, .int .u64 c2.x3, .slice (some ⟨B2, 0, none⟩) n e2]) (by simp)).1 3 _ rfl; have q4 := (M4.out.r (T10, [.int .u64 c2.x0, .int .u64 c2.x1, .int .u64 c2.x2, .int .u64 c2.x3, .slice (some ⟨B2, 0, none⟩) n e2]) (by simp)).1 4 _ rfl; simp only [Nat.zero_add] at q0 q1 q2 q3 q4
    have y0 := V4.out.rg 0 _ rfl; have y1 := V4.out.rg 1 _ rfl; have y2 := V4.out.rg 2 _ rfl; have y3 := V4.out.rg 3 _ rfl
    simp only [Nat.zero_add] at y0 y1 y2 y3
    obtain ⟨sn, hsn⟩ : ∃ sn : E4, (lst ((lst ((⟨0, 0, 0, 0⟩ : E4).n + c1.n)).n + c2.n)) = sn := ⟨_, rfl⟩
    have HSN := hidden hsn
    obtain ⟨so, hso⟩ : ∃ so : E4, ((lst ((⟨0, 0, 0, 0⟩ : E4).n + c1.n)) : E4) = so := ⟨_, rfl⟩
    have AD : Hid (∀ y, Tb y → Calls Tryz.prog 13 #[.agg #[.int .u64 so.x0, .int .u64 so.x1, .int .u64 so.x2, .int .u64 so.x3], .agg #[.int .u64 c2.x0, .int .u64 c2.x1, .int .u64 c2.x2, .int .u64 c2.x3]] y fun e w' => e = .returned (.agg #[.int .u64 sn.x0, .int .u64 sn.x1, .int .u64 sn.x2, .int .u64 sn.x3]) ∧ Below y.heap.size y w') := hidden (fun y T => fix (R := sn) (Add_any so c2 y T (by rw [← hso]; exact lst_ok _) o2) (by rw [← hso]; exact hsn))
    replace y0 : wd.cell? ⟨w.heap.size, 0, none⟩ = some (.int .u64 so.x0) := by rw [← hso]; exact y0
    replace y1 : wd.cell? ⟨w.heap.size, 1, none⟩ = some (.int .u64 so.x1) := by rw [← hso]; exact y1
    replace y2 : wd.cell? ⟨w.heap.size, 2, none⟩ = some (.int .u64 so.x2) := by rw [← hso]; exact y2
    replace y3 : wd.cell? ⟨w.heap.size, 3, none⟩ = some (.int .u64 so.x3) := by rw [← hso]; exact y3
    have V4' : Hid (Vr w so u8 1 [.func (.func 29) #[.agg #[.slice (some ⟨R1, 0, none⟩) r cR1, .slice (some ⟨I1, 0, none⟩) r cI1, .int .u64 c1.x0, .int .u64 c1.x1, .int .u64 c1.x2, .int .u64 c1.x3, .slice (some ⟨B1, 0, none⟩) n e1]] #[]] wd) := hidden (by rw [← hso]; exact V4.out)
    clear hsn hso V4
    have TW := hidden (ALL.out.1.keep V4'.out.bel)
    go_upto_region 12 with (first | (go_at_call 13; refine (AD.out _ TW.out).mono ?_; rintro e we ⟨rfl, hb⟩; have M5 := hidden (M4.out.keep hb); have V5 := hidden (V4'.out.keep hb); clear hb M4 V4' q0 q1 q2 q3 q4 y0 y1 y2 y3 AD TW; have TH := V5.out.th; obtain ⟨f0, d0⟩ := Option.isSome_iff_exists.1 (TH 0 (by omega)).1; obtain ⟨f1, d1⟩ := Option.isSome_iff_exists.1 (TH 1 (by omega)).1; obtain ⟨f2, d2⟩ := Option.isSome_iff_exists.1 (TH 2 (by omega)).1; obtain ⟨f3, d3⟩ := Option.isSome_iff_exists.1 (TH 3 (by omega)).1; have h0 := (TH 0 (by omega)).2; have h1 := (TH 1 (by omega)).2; have h2 := (TH 2 (by omega)).2; have h3 := (TH 3 (by omega)).2; simp only [Nat.zero_add] at d0 d1 d2 d3 h0 h1 h2 h3; clear TH))
    clear d0 d1 d2 d3 h0 h1 h2 h3
    have V6 := hidden (V5.out.put sn)
    have R10 := hidden (World.rangeAt_setCells_apart (M5.out.r (T10, [.int .u64 c2.x0, .int .u64 c2.x1, .int .u64 c2.x2, .int .u64 c2.x3, .slice (some ⟨B2, 0, none⟩) n e2]) (by simp)).1 w.heap.size 0 [.int .u64 sn.x0, .int .u64 sn.x1, .int .u64 sn.x2, .int .u64 sn.x3] (.inl N10.out))
    have R11 := hidden (World.rangeAt_setCells_apart (M5.out.r (T11, [.slice (some ⟨R2, 0, none⟩) r cR2, .slice (some ⟨I2, 0, none⟩) r cI2]) (by simp)).1 w.heap.size 0 [.int .u64 sn.x0, .int .u64 sn.x1, .int .u64 sn.x2, .int .u64 sn.x3] (.inl N11.out))
    have chE : we.setCells w.heap.size 0 [.int .u64 sn.x0, .int .u64 sn.x1, .int .u64 sn.x2, .int .u64 sn.x3] = ((((we.setCell ⟨w.heap.size, 0, none⟩ (.int .u64 sn.x0)).setCell ⟨w.heap.size, 1, none⟩ (.int .u64 sn.x1)).setCell ⟨w.heap.size, 2, none⟩ (.int .u64 sn.x2)).setCell ⟨w.heap.size, 3, none⟩ (.int .u64 sn.x3)) := rfl
    rw [chE] at V6 R10 R11
    clear chE
    generalize ((((we.setCell ⟨w.heap.size, 0, none⟩ (.int .u64 sn.x0)).setCell ⟨w.heap.size, 1, none⟩ (.int .u64 sn.x1)).setCell ⟨w.heap.size, 2, none⟩ (.int .u64 sn.x2)).setCell ⟨w.heap.size, 3, none⟩ (.int .u64 sn.x3)) = wf at *
    clear M5 V5
    have q0 := R10.out 0 _ rfl; have q1 := R10.out 1 _ rfl; have q2 := R10.out 2 _ rfl; have q3 := R10.out 3 _ rfl; have q4 := R10.out 4 _ rfl; have p0 := R11.out 0 _ rfl; have p1 := R11.out 1 _ rfl
    simp only [Nat.zero_add] at q0 q1 q2 q3 q4 p0 p1
    have V7 := hidden (V6.out.keep (bl_alloc wf (.cells #[.func (.func 29) #[.agg #[.slice (some ⟨R2, 0, none⟩) r cR2, .slice (some ⟨I2, 0, none⟩) r cI2, .int .u64 c2.x0, .int .u64 c2.x1, .int .u64 c2.x2, .int .u64 c2.x3, .slice (some ⟨B2, 0, none⟩) n e2]] #[]] 69)))
    go_wp2_with (first | (at_builtin; refine wpList_append_own_at _ rfl _ _ 107 rfl (w.heap.size + 1) 69 i0 .nilFunc 1 8 HU.out HI.out HZ0.out HZ1.out HZ2.out rfl (by decide) _ 1 _ rfl V7.out.own ⟨wf.heap.size, 0, none⟩ 1 1 [.func (.func 29) #[.agg #[.slice (some ⟨R2, 0, none⟩) r cR2, .slice (some ⟨I2, 0, none⟩) r cI2, .int .u64 c2.x0, .int .u64 c2.x1, .int .u64 c2.x2, .int .u64 c2.x3, .slice (some ⟨B2, 0, none⟩) n e2]] #[]] rfl rfl (cells_new wf [.func (.func 29) #[.agg #[.slice (some ⟨R2, 0, none⟩) r cR2, .slice (some ⟨I2, 0, none⟩) r cI2, .int .u64 c2.x0, .int .u64 c2.x1, .int .u64 c2.x2, .int .u64 c2.x3, .slice (some ⟨B2, 0, none⟩) n e2]] #[]] 69) (by intro u hu; obtain rfl := List.mem_singleton.1 hu; rfl) (by unfold maxLen; omega) (by omega) (World.block_lt_of_cell? _ _ (V7.out.rg 0 _ rfl)) ?_; intro v4 w4 how4 hgr4 hnil4 hat4; have V8 := hidden (V7.out.add hgr4 how4); clear how4 hgr4 hnil4 hat4))
    go_roundw
    case rel => exact ⟨2, by omega, by go_num, hidden (by have := V8.out; rw [← HSN.out] at this; exact this)⟩
    case measure => simp [intOf]
  ·obtain rfl : i = 2 := by omega
   have VV : Hid (Vr w (lst ((lst ((⟨0, 0, 0, 0⟩ : E4).n + c1.n)).n + c2.n)) u8 2 [.func (.func 29) #[.agg #[.slice (some ⟨R1, 0, none⟩) r cR1, .slice (some ⟨I1, 0, none⟩) r cI1, .int .u64 c1.x0, .int .u64 c1.x1, .int .u64 c1.x2, .int .u64 c1.x3, .slice (some ⟨B1, 0, none⟩) n e1]] #[], .func (.func 29) #[.agg #[.slice (some ⟨R2, 0, none⟩) r cR2, .slice (some ⟨I2, 0, none⟩) r cI2, .int .u64 c2.x0, .int .u64 c2.x1, .int .u64 c2.x2, .int .u64 c2.x3, .slice (some ⟨B2, 0, none⟩) n e2]] #[]] wr) := hV
   clear hV hin hi
   obtain ⟨F, cF, hF, hcF, hBF, hltF⟩ := own_shapeS VV.out.own (by omega)
   subst hF
   have w0 := VV.out.own.cellAt 0 (by omega)
   have w1' := VV.out.own.cellAt 1 (by omega)
   have hb0 := VV.out.bel
   have ASK := hidden (askR s r n F 29 29 cF (.agg #[.slice (some ⟨R1, 0, none⟩) r cR1, .slice (some ⟨I1, 0, none⟩) r cI1, .int .u64 c1.x0, .int .u64 c1.x1, .int .u64 c1.x2, .int .u64 c1.x3, .slice (some ⟨B1, 0, none⟩) n e1]) (.agg #[.slice (some ⟨R2, 0, none⟩) r cR2, .slice (some ⟨I2, 0, none⟩) r cI2, .int .u64 c2.x0, .int .u64 c2.x1, .int .u64 c2.x2, .int .u64 c2.x3, .slice (some ⟨B2, 0, none⟩) n e2]) t z hzt R1 I1 cR1 cI1 g1 cn1 gs1 im1 R2 I2 cR2 cI2 g2 cn2 gs2 im2 wr (ALL.out.1.keep hb0) ht0 hr1 hr2 (by omega) (ALL.out.2.1.keep hb0) (ALL.out.2.2.1.keep hb0) (ALL.out.2.2.2.1.keep hb0) ot hz w0 w1' (by have := HSS.out; omega) (.inr rfl) (.inr rfl) (frS s r n B1 e1 c1 a1 R1 I1 cR1 cI1 g1 cn1 gs1 im1 wr (ALL.out.1.keep hb0) ht0 hr1 hr2 hn hn1 o1 (ALL.out.2.1.keep hb0) (ALL.out.2.2.2.2.1.keep hb0) k1 l1) (frS s r n B2 e2 c2 a2 R2 I2 cR2 cI2 g2 cn2 gs2 im2 wr (ALL.out.1.keep hb0) ht0 hr1 hr2 hn hn1 o2 (ALL.out.2.2.1.keep hb0) (ALL.out.2.2.2.2.2.1.keep hb0) k2 l2))
   obtain ⟨sn, hsn⟩ : ∃ sn : E4, (lst ((lst ((⟨0, 0, 0, 0⟩ : E4).n + c1.n)).n + c2.n)) = sn := ⟨_, rfl⟩
   have R7 : Hid (wr.rangeAt w.heap.size 0 [.int .u64 sn.x0, .int .u64 sn.x1, .int .u64 sn.x2, .int .u64 sn.x3]) := hidden (by rw [← hsn]; exact VV.out.rg)
   have osn : sn.ok := hsn ▸ lst_ok _
   have oz : z.ok := hzt ▸ lst_ok _
   rw [hsn] at hsum
   have SM : Hid (∀ y, Tb y → Calls Tryz.prog 14 #[.agg #[.int .u64 z.x0, .int .u64 z.x1, .int .u64 z.x2, .int .u64 z.x3], .agg #[.int .u64 sn.x0, .int .u64 sn.x1, .int .u64 sn.x2, .int .u64 sn.x3]] y fun e w' => e = .returned (.bool true) ∧ Below y.heap.size y w') := hidden (fun y T => by
    have h := Same_any z sn y T oz osn
    rw [(E4.same_iff _ _).2 (lst_congr hsum)] at h
    exact h)
   have BV := hidden hb0
   clear VV w0 w1' hb0 hsn hcF hBF hltF hsum osn
   go_upto_region 17 with (first | (go_at_call 30; refine ASK.out.mono ?_; rintro e wh ⟨rfl, hb⟩; have BH := hidden hb; clear hb ASK))
   have BX := bl_alloc wh (.cells #[.int .u64 z.x0, .int .u64 z.x1, .int .u64 z.x2, .int .u64 z.x3] 26)
   have RZ := range_newM wh [.int .u64 z.x0, .int .u64 z.x1, .int .u64 z.x2, .int .u64 z.x3] 26
   have RS := range_bl (show wh.rangeAt w.heap.size 0 [.int .u64 sn.x0, .int .u64 sn.x1, .int .u64 sn.x2, .int .u64 sn.x3] from fun j u hu => bt_cell (R7.out j u hu) BH.out (by have := HSS.out; omega)) BX
   have BB : Tr.Bt (fun k => k = s) w (wh.alloc (.cells #[.int .u64 z.x0, .int .u64 z.x1, .int .u64 z.x2, .int .u64 z.x3] 26)) := bt_trans (bt_trans (Tr.Bt.of BV.out) BH.out (fun _ _ e => e)) (Tr.Bt.of (S := fun k => k = s) BX) (fun _ _ e => e)
   have TB := hidden (Tr.tb_keep ALL.out.1 BB (by omega))
   have BBH := hidden BB
   have y0 := RZ 0 _ rfl; have q0 := RS 0 _ rfl; have y1 := RZ 1 _ rfl; have q1 := RS 1 _ rfl; have y2 := RZ 2 _ rfl; have q2 := RS 2 _ rfl; have y3 := RZ 3 _ rfl; have q3 := RS 3 _ rfl
   simp only [Nat.zero_add] at y0 y1 y2 y3 q0 q1 q2 q3
   clear BX RZ RS BB BH BV R7
   generalize wh.alloc (.cells #[.int .u64 z.x0, .int .u64 z.x1, .int .u64 z.x2, .int .u64 z.x3] 26) = wi at *
   generalize wh.heap.size = T13 at *
   go_wp2_with (first | (go_at_call 14; refine (SM.out _ TB.out).mono ?_; rintro e wj ⟨rfl, hb⟩; have BJ := hidden (bt_trans BBH.out (Tr.Bt.of (S := fun k => k = s) hb) (fun _ _ e => e)); clear hb))
   refine bodyPost_ret (v := .int .i64 0) (by simp [results, Tryz.results39, go_sem]) rfl ⟨rfl, BJ.out⟩
open Go.RowKit
theorem verifyE (s r n B1 B2 e1 e2 : Nat) (t z c1 c2 : E4) (a1 a2 : Nat → E4) (R1 I1 cR1 cI1 : Nat) (g1 cn1 : Nat → Nat) (gs1 : Nat → Nat → E4) (im1 : Nat → E4) (R2 I2 cR2 cI2 : Nat) (g2 cn2 : Nat → Nat) (gs2 : Nat → Nat → E4) (im2 : Nat → E4) (w : World) (hT : Tb w) (ht0 : 0 < s) (hr1 : 1 ≤ r) (hr2 : r ≤ 64) (hn : n ≤ 20) (hn1 : 1 ≤ n) (C1 : Cb s w R1 I1 r n g1 cn1 gs1 im1) (C2 : Cb s w R2 I2 r n g2 cn2 gs2 im2) (hS : Fz w s t) (ot : t.ok) (hz : ¬ t.n % Sm.L = 0) (hzt : lst t.n = z) (o1 : c1.ok) (o2 : c2.ok)
  (r1 : Rl w B1 0 n a1) (r2 : Rl w B2 0 n a2) (k1 : ∀ i, i < n → (a1 i).ok) (k2 : ∀ i, i < n → (a2 i).ok) (l1 : B1 < s) (l2 : B2 < s) (hsum : z.n % Sm.L = (lst ((lst ((⟨0, 0, 0, 0⟩ : E4).n + c1.n)).n + c2.n)).n % Sm.L) :
  Calls Tryz.prog 15 #[.agg #[.slice (some ⟨R1, 0, none⟩) r cR1, .slice (some ⟨I1, 0, none⟩) r cI1], .agg #[.slice (some ⟨R2, 0, none⟩) r cR2, .slice (some ⟨I2, 0, none⟩) r cI2], .agg #[.int .u64 c1.x0, .int .u64 c1.x1, .int .u64 c1.x2, .int .u64 c1.x3, .int .u64 c2.x0, .int .u64 c2.x1, .int .u64 c2.x2, .int .u64 c2.x3, .slice (some ⟨B1, 0, none⟩) n e1, .slice (some ⟨B2, 0, none⟩) n e2], .iface 45 (.pointer (some ⟨s, 0, none⟩))] w fun e w' => e = .returned (.int .i64 0) ∧ Tr.Bt (fun k => k = s) w w' := by
 have B0 : Below w.heap.size w (((w.alloc (.cells #[.slice (some ⟨R1, 0, none⟩) r cR1, .slice (some ⟨I1, 0, none⟩) r cI1] 43)).alloc (.cells #[.slice (some ⟨R2, 0, none⟩) r cR2, .slice (some ⟨I2, 0, none⟩) r cI2] 43)).alloc (.cells #[.int .u64 c1.x0, .int .u64 c1.x1, .int .u64 c1.x2, .int .u64 c1.x3, .int .u64 c2.x0, .int .u64 c2.x1, .int .u64 c2.x2, .int .u64 c2.x3, .slice (some ⟨B1, 0, none⟩) n e1, .slice (some ⟨B2, 0, none⟩) n e2] 34)) := bl_trans (bl_trans (bl_alloc w _) (bl_alloc _ _)) (bl_alloc _ _)
 have VR := hidden (fun y (hy : Below w.heap.size w y) => verifyR s r n y.heap.size 2 B1 B2 e1 e2 t z c1 c2 a1 a2 R1 I1 cR1 cI1 g1 cn1 gs1 im1 R2 I2 cR2 cI2 g2 cn2 gs2 im2 (y.alloc (.cells #[.int .u64 c1.x0, .int .u64 c1.x1, .int .u64 c1.x2, .int .u64 c1.x3, .slice (some ⟨B1, 0, none⟩) n e1, .int .u64 c2.x0, .int .u64 c2.x1, .int .u64 c2.x2, .int .u64 c2.x3, .slice (some ⟨B2, 0, none⟩) n e2] 77)) (hT.keep (bl_trans hy (bl_alloc _ _))) ht0 hr1 hr2 hn hn1 (C1.keep (bl_trans hy (bl_alloc _ _))) (C2.keep (bl_trans hy (bl_alloc _ _))) (hS.keep (bl_trans hy (bl_alloc _ _))) ot hz hzt o1 o2 (r1.keep (bl_trans hy (bl_alloc _ _))) (r2.keep (bl_trans hy (bl_alloc _ _))) k1 k2 l1 l2 (range_newM y [.int .u64 c1.x0, .int .u64 c1.x1, .int .u64 c1.x2, .int .u64 c1.x3, .slice (some ⟨B1, 0, none⟩) n e1, .int .u64 c2.x0, .int .u64 c2.x1, .int .u64 c2.x2, .int .u64 c2.x3, .slice (some ⟨B2, 0, none⟩) n e2] 77) hsum)
 have BH := hidden B0
 have HM0 := ((((Mw.start w).new [.slice (some ⟨R1, 0, none⟩) r cR1, .slice (some ⟨I1, 0, none⟩) r cI1] 43).new [.slice (some ⟨R2, 0, none⟩) r cR2, .slice (some ⟨I2, 0, none⟩) r cI2] 43).new [.int .u64 c1.x0, .int .u64 c1.x1, .int .u64 c1.x2, .int .u64 c1.x3, .int .u64 c2.x0, .int .u64 c2.x1, .int .u64 c2.x2, .int .u64 c2.x3, .slice (some ⟨B1, 0, none⟩) n e1, .slice (some ⟨B2, 0, none⟩) n e2] 34)
 simp only [World.size_alloc] at HM0
 have HM := hidden HM0
 clear HM0
 clear B0 hT C1 C2 hS r1 r2 hsum
 go_enter Tryz.func15, Tryz.ntmps15
 go_upto_region 1 with fail
 generalize ((w.alloc (.cells #[.slice (some ⟨R1, 0, none⟩) r cR1, .slice (some ⟨I1, 0, none⟩) r cI1] 43)).alloc (.cells #[.slice (some ⟨R2, 0, none⟩) r cR2, .slice (some ⟨I2, 0, none⟩) r cI2] 43)).alloc (.cells #[.int .u64 c1.x0, .int .u64 c1.x1, .int .u64 c1.x2, .int .u64 c1.x3, .int .u64 c2.x0, .int .u64 c2.x1, .int .u64 c2.x2, .int .u64 c2.x3, .slice (some ⟨B1, 0, none⟩) n e1, .slice (some ⟨B2, 0, none⟩) n e2] 34) = w3 at *
 have p0 := (HM.out.r (w.heap.size, [.slice (some ⟨R1, 0, none⟩) r cR1, .slice (some ⟨I1, 0, none⟩) r cI1]) (by simp)).1 0 _ rfl; have p1 := (HM.out.r (w.heap.size, [.slice (some ⟨R1, 0, none⟩) r cR1, .slice (some ⟨I1, 0, none⟩) r cI1]) (by simp)).1 1 _ rfl; simp only [Nat.zero_add] at p0 p1
 have q0 := (HM.out.r (w.heap.size + 1, [.slice (some ⟨R2, 0, none⟩) r cR2, .slice (some ⟨I2, 0, none⟩) r cI2]) (by simp)).1 0 _ rfl; have q1 := (HM.out.r (w.heap.size + 1, [.slice (some ⟨R2, 0, none⟩) r cR2, .slice (some ⟨I2, 0, none⟩) r cI2]) (by simp)).1 1 _ rfl; simp only [Nat.zero_add] at q0 q1
 have y0 := (HM.out.r (w.heap.size + 1 + 1, [.int .u64 c1.x0, .int .u64 c1.x1, .int .u64 c1.x2, .int .u64 c1.x3, .int .u64 c2.x0, .int .u64 c2.x1, .int .u64 c2.x2, .int .u64 c2.x3, .slice (some ⟨B1, 0, none⟩) n e1, .slice (some ⟨B2, 0, none⟩) n e2]) (by simp)).1 0 _ rfl; have y1 := (HM.out.r (w.heap.size + 1 + 1, [.int .u64 c1.x0, .int .u64 c1.x1, .int .u64 c1.x2, .int .u64 c1.x3, .int .u64 c2.x0, .int .u64 c2.x1, .int .u64 c2.x2, .int .u64 c2.x3, .slice (some ⟨B1, 0, none⟩) n e1, .slice (some ⟨B2, 0, none⟩) n e2]) (by simp)).1 1 _ rfl; have y2 := (HM.out.r (w.heap.size + 1 + 1, [.int .u64 c1.x0, .int .u64 c1.x1, .int .u64 c1.x2, .int .u64 c1.x3, .int .u64 c2.x0, .int .u64 c2.x1, .int .u64 c2.x2, .int .u64 c2.x3, .slice (some ⟨B1, 0, none⟩) n e1, .slice (some ⟨B2, 0, none⟩) n e2]) (by simp)).1 2 _ rfl; have y3 := (HM.out.r (w.heap.size + 1 + 1, [.int .u64 c1.x0, .int .u64 c1.x1, .int .u64 c1.x2, .int .u64 c1.x3, .int .u64 c2.x0, .int .u64 c2.x1, .int .u64 c2.x2, .int .u64 c2.x3, .slice (some ⟨B1, 0, none⟩) n e1, .slice (some ⟨B2, 0, none⟩) n e2]) (by simp)).1 3 _ rfl; have y4 := (HM.out.r (w.heap.size + 1 + 1, [.int .u64 c1.x0, .int .u64 c1.x1, .int .u64 c1.x2, .int .u64 c1.x3, .int .u64 c2.x0, .int .u64 c2.x1, .int .u64 c2.x2, .int .u64 c2.x3, .slice (some ⟨B1, 0, none⟩) n e1, .slice (some ⟨B2, 0, none⟩) n e2]) (by simp)).1 4 _ rfl; have y5 := (HM.out.r (w.heap.size + 1 + 1, [.int .u64 c1.x0, .int .u64 c1.x1, .int .u64 c1.x2, .int .u64 c1.x3, .int .u64 c2.x0, .int .u64 c2.x1, .int .u64 c2.x2, .int .u64 c2.x3, .slice (some ⟨B1, 0, none⟩) n e1, .slice (some ⟨B2, 0, none⟩) n e2]) (by simp)).1 5 _ rfl; have y6 := (HM.out.r (w.heap.size + 1 + 1, [.int .u64 c1.x0, .int .u64 c1.x1, .int .u64 c1.x2, .int .u64 c1.x3, .int .u64 c2.x0, .int .u64 c2.x1, .int .u64 c2.x2, .int .u64 c2.x3, .slice (some ⟨B1, 0, none⟩) n e1, .slice (some ⟨B2, 0, none⟩) n e2]) (by simp)).1 6 _ rfl; have y7 := (HM.out.r (w.heap.size + 1 + 1, [.int .u64 c1.x0, .int .u64 c1.x1, .int .u64 c1.x2, .int .u64 c1.x3, .int .u64 c2.x0, .int .u64 c2.x1, .int .u64 c2.x2, .int .u64 c2.x3, .slice (some ⟨B1, 0, none⟩) n e1, .slice (some ⟨B2, 0, none⟩) n e2]) (by simp)).1 7 _ rfl; have y8 := (HM.out.r (w.heap.size + 1 + 1, [.int .u64 c1.x0, .int .u64 c1.x1, .int .u64 c1.x2, .int .u64 c1.x3, .int .u64 c2.x0, .int .u64 c2.x1, .int .u64 c2.x2, .int .u64 c2.x3, .slice (some ⟨B1, 0, none⟩) n e1, .slice (some ⟨B2, 0, none⟩) n e2]) (by simp)).1 8 _ rfl; have y9 := (HM.out.r (w.heap.size + 1 + 1, [.int .u64 c1.x0, .int .u64 c1.x1, .int .u64 c1.x2, .int .u64 c1.x3, .int .u64 c2.x0, .int .u64 c2.x1, .int .u64 c2.x2, .int .u64 c2.x3, .slice (some ⟨B1, 0, none⟩) n e1, .slice (some ⟨B2, 0, none⟩) n e2]) (by simp)).1 9 _ rfl; simp only [Nat.zero_add] at y0 y1 y2 y3 y4 y5 y6 y7 y8 y9
 clear HM
 go_wp2_with (first | (go_at_call 39; refine (VR.out _ BH.out).mono ?_; rintro e wa ⟨rfl, hb⟩; have BA := hidden (bt_trans (Tr.Bt.of (bl_trans BH.out (bl_alloc _ (.cells #[.int .u64 c1.x0, .int .u64 c1.x1, .int .u64 c1.x2, .int .u64 c1.x3, .slice (some ⟨B1, 0, none⟩) n e1, .int .u64 c2.x0, .int .u64 c2.x1, .int .u64 c2.x2, .int .u64 c2.x3, .slice (some ⟨B2, 0, none⟩) n e2] 77)))) hb (fun _ _ e => e)); clear hb))
 refine bodyPost_ret (v := .int .i64 0) (by simp [results, Tryz.results15, go_sem]) rfl ⟨rfl, BA.out⟩
open Go.RowKit
theorem i64_and127 (n : Int) : bits .and .i64 n 127 = n % 128 := by
 have h3 : (BitVec.ofInt 64 127).toNat = 2 ^ 7 - 1 := by decide
 have key : (BitVec.ofInt 64 n &&& BitVec.ofInt 64 127).toNat = (n % ((2 ^ 64 : Nat) : Int)).toNat % 2 ^ 7 := by
  rw [BitVec.toNat_and, BitVec.toNat_ofInt, h3, Nat.and_two_pow_sub_one_eq_mod]
 show IntKind.i64.wrap ((BitVec.ofInt 64 n &&& BitVec.ofInt 64 127).toNat : Nat) = n % 128
 rw [key, IntKind.wrap_i64]
 omega
theorem rl_gr {w w' : World} {b n : Nat} {row : Option Nat} {g : Nat → E4} (h : Rl w b 0 n g) (hg : w.grownBy w' row) (ne : row ≠ some b) : Rl w' b 0 n g :=
 ⟨fun k hk => hg.cell (h.c0 k hk) (fun e => ne e.symm), fun k hk => hg.cell (h.c1 k hk) (fun e => ne e.symm), fun k hk => hg.cell (h.c2 k hk) (fun e => ne e.symm), fun k hk => hg.cell (h.c3 k hk) (fun e => ne e.symm)⟩
structure Sq (w0 : World) (n : Nat) (v : Value) (i : Nat) (g : Nat → Nat) (gs : Nat → Nat → E4) (w : World) : Prop where
 own : w.ownsRow w0.heap.size 23 1 v i ((List.range i).map fun t => .slice (some ⟨g t, 0, none⟩) n n)
 each : ∀ t, t < i → Rl w (g t) 0 n (gs t)
 ok : ∀ t, t < i → ∀ j, j < n → (gs t j).ok
 lo : ∀ t, t < i → w0.heap.size ≤ g t
 bel : Below w0.heap.size w0 w
 z : i = 0 → v = .slice none 0 0
theorem Sq.keep {w0 w w' : World} {n i : Nat} {v : Value} {g : Nat → Nat} {gs : Nat → Nat → E4} (h : Sq w0 n v i g gs w) (hb : Below w.heap.size w w') : Sq w0 n v i g gs w' := ⟨Tr.own_stay h.own hb, fun t ht => (h.each t ht).keep hb, h.ok, h.lo, bl_trans h.bel hb, h.z⟩
theorem Sq.ne {w0 w : World} {n i b : Nat} {v : Value} {g : Nat → Nat} {gs : Nat → Nat → E4} {f : Nat → E4} (h : Sq w0 n v i g gs w) (hn : 1 ≤ n) (hr : Rl w b 0 n f) : v.ownBlock ≠ some b := by
 intro e
 by_cases hi : 1 ≤ i
 ·obtain ⟨q, c, rfl, _⟩ := own_shapeS h.own hi
  obtain rfl : q = b := Option.some.inj e
  have h1 := h.own.cellAt 0 (by omega)
  have h2 := hr.c0 0 (by omega)
  rw [Nat.zero_mul, Nat.add_zero, h1] at h2
  rw [List.getElem?_map, List.getElem?_range (by omega)] at h2
  simp at h2
 ·obtain rfl := h.z (by omega)
  simp [Value.ownBlock] at e
theorem Sq.add {w0 w w' : World} {n i : Nat} {v v' : Value} {g : Nat → Nat} {gs : Nat → Nat → E4} (h : Sq w0 n v i g gs w) (hn : 1 ≤ n) (N : Nat) (f : Nat → E4) (ho : w'.ownsRow w0.heap.size 23 1 v' (i + 1) (((List.range i).map fun t => .slice (some ⟨g t, 0, none⟩) n n) ++ [.slice (some ⟨N, 0, none⟩) n n])) (hg : w.grownBy w' v.ownBlock) (hr : Rl w N 0 n f) (hk : ∀ j, j < n → (f j).ok) (hN : w0.heap.size ≤ N) :
  Sq w0 n v' (i + 1) (fun t => if t < i then g t else N) (fun t => if t < i then gs t else f) w' := by
 refine ⟨?_, fun t ht => ?_, fun t ht => ?_, fun t ht => ?_, below_trans h.bel (below_grown hg h.bel.size (fun k hk => (h.own.lt k hk).1)), fun e => by omega⟩
 ·rw [List.range_succ, List.map_append]
  have e1 : ((List.range i).map fun t => Value.slice (some ⟨(if t < i then g t else N), 0, none⟩) n n) = ((List.range i).map fun t => .slice (some ⟨g t, 0, none⟩) n n) := List.map_congr_left fun t ht => by rw [if_pos (List.mem_range.1 ht)]
  rw [e1]
  simpa using ho
 ·by_cases q : t < i
  ·simp only [if_pos q]; exact rl_gr (h.each t q) hg (h.ne hn (h.each t q))
  ·simp only [if_neg q]; exact rl_gr hr hg (h.ne hn hr)
 ·by_cases q : t < i
  ·simp only [if_pos q]; exact h.ok t q
  ·simp only [if_neg q]; exact hk
 ·by_cases q : t < i
  ·simp only [if_pos q]; exact h.lo t q
  ·simp only [if_neg q]; exact hN
def SqR (w : World) (e : Ending) (w' : World) : Prop := ∃ (v : Value) (r n : Nat) (g : Nat → Nat) (gs : Nat → Nat → E4), e = .returned v ∧ 1 ≤ r ∧ r ≤ 5 ∧ 1 ≤ n ∧ n ≤ 5 ∧ Sq w n v r g gs w'
theorem squareR (P : Option Addr) (m c : Nat) (width : Int) (pp : Nat → Option Addr) (mm cc : Nat → Nat) (ks : Nat → Nat → E4) (b o : Nat) (w : World) (hP : 0 < m → P = some ⟨b, o, none⟩) (hm : m ≤ 5864062014634) (hrow : ∀ i, i < m → w.cell? ⟨b, o + i, none⟩ = some (.slice (pp i) (mm i) (cc i))) (hl : ∀ i, i < m → Lm w (pp i) (mm i) (ks i)) (hk : ∀ i, i < m → ∀ j, j < mm i → (ks i j).ok) :
  Calls Tryz.prog 4 #[.slice P m c, .int .i64 width] w fun e w' => SqR w e w' := by
 obtain ⟨a, ha, ha2⟩ : ∃ a : Nat, bits .and .i64 width 127 = (a : Int) ∧ a ≤ 127 := ⟨(width % 128).toNat, by rw [i64_and127]; omega, by omega⟩
 obtain ⟨q5, hq5⟩ : ∃ q5 : Nat, a % 5 = q5 := ⟨_, rfl⟩
 have t5 : Int.tmod (a : Int) 5 = (q5 : Int) := by rw [Int.tmod_eq_emod_of_nonneg (by omega)]; omega
 obtain ⟨n, hnn⟩ : ∃ n : Nat, 1 + q5 = n := ⟨_, rfl⟩
 have wn : IntKind.i64.wrap (1 + (q5 : Int)) = (n : Int) := by rw [IntWalk.i64_in _ (by omega)]; omega
 have e5 : (a : Int) % 5 = (q5 : Int) := by omega
 have e6 : (1 : Int) + (q5 : Int) = (n : Int) := by omega
 have t7 : IntKind.i64.wrap (q5 : Int) = (q5 : Int) := IntWalk.i64_in _ (by omega)
 have dv : ∀ x : World, (Op.intDiv .rem .i64 (a : Int) 5).run Tryz.prog x = .ok (.int .i64 (q5 : Int)) x := fun x => by simp [Op.intDiv, t5, t7, go_sem]
 have hn1 : Hid (1 ≤ n) := hidden (by omega)
 have hn5 : Hid (n ≤ 5) := hidden (by omega)
 obtain ⟨i0, hi, hz0, hz1, hz2⟩ := info_parts scinfo
 have hmk := fun x : World => run_make (P := Tryz.prog) x 23 26 i0 (.agg #[.int .u64 0, .int .u64 0, .int .u64 0, .int .u64 0]) (by kernel_rfl) hi hz0 .i64 .i64 (n : Int) (n : Int) (by omega) (Int.le_refl _) (by rw [hz2]; have := hn5.out; omega) (by have := hn5.out; omega)
 simp only [Int.toNat_natCast, hz1, Value.cells] at hmk
 obtain ⟨j0, ji, jz0, jz1, jz2⟩ := info_parts (show (Tryz.prog.info? 23).map (fun i => (i.zero, i.size, i.bytes)) = some (some (.slice none 0 0), 1, 24) from by kernel_rfl)
 have HJ := hidden ji
 have JZ0 := hidden jz0
 have JZ1 := hidden jz1
 have JZ2 := hidden jz2
 have HU : Hid (Tryz.prog.underlying 22 = some (.slice 23)) := hidden (by kernel_rfl)
 have HR := hidden hrow
 have HL := hidden hl
 have HK := hidden hk
 have HP := hidden hP
 have HM := hidden hm
 have S0 : Hid (Sq w n (.slice none 0 0) 0 (fun _ => 0) (fun _ _ => ⟨0, 0, 0, 0⟩) w) := hidden ⟨World.ownsRow_nil _ _ _ _, fun t ht => absurd ht (by omega), fun t ht => absurd ht (by omega), fun t ht => absurd ht (by omega), Below.refl _ _, fun _ => rfl⟩
 clear hi hz0 hz1 hz2 ji jz0 jz1 jz2 hrow hl hk hnn ha2 hP hm hq5 t5 t7
 go_enter Tryz.func4, Tryz.ntmps4
 go_wp2_with fail
 go_loopw [6, 7] (fun lv iv w' => ∃ i : Nat, i ≤ m ∧ i ≤ 5 ∧ iv = .int .i64 i ∧ Hid (∃ (g : Nat → Nat) (gs : Nat → Nat → E4), Sq w n lv i g gs w')) (fun _ i _ => 5 - (intOf i).toNat)
 case atStart => exact ⟨0, by omega, by omega, rfl, hidden ⟨_, _, S0.out⟩⟩
 case round =>
  obtain ⟨i, him, hi5, rfl, hQ0⟩ := hrel
  obtain ⟨g, gs, hQ1⟩ := hQ0.out
  have hQ := hidden hQ1
  clear S0 hQ0 hQ1
  by_cases hin : i < m ∧ i < 5
  ·obtain ⟨hi1, hi2⟩ := hin
   generalize wr = wo at *
   have i0' : (0 : Int) ≤ (i : Int) := by omega
   have i1 : (i : Int) < (m : Int) := by omega
   have i2 : (i : Int) < 5 := by omega
   have w9 : IntKind.i64.wrap ((i : Int) + 1) = (i : Int) + 1 := IntWalk.i64_in _ (by omega)
   obtain rfl := HP.out (by omega)
   have WB := hidden (And.intro (rm_eq (Rm.made wo n 26) (g' := fun j => if j < 0 then ks i j else ⟨0, 0, 0, 0⟩) (fun j _ => by rw [if_neg (by omega)])) (bl_alloc wo (.cells (madeCells #[.int .u64 0, .int .u64 0, .int .u64 0, .int .u64 0] (n * 4)) 26)))
   have RC : Hid (∀ x, Below wo.heap.size wo x → x.cell? ⟨b, o + i, none⟩ = some (.slice (pp i) (mm i) (cc i))) := hidden (fun x hx => cell_keep (HR.out i hi1) (bl_trans hQ.out.bel hx))
   have LC : Hid (∀ x, Below wo.heap.size wo x → Lm x (pp i) (mm i) (ks i)) := hidden (fun x hx => (HL.out i hi1).keep (bl_trans hQ.out.bel hx))
   have OK := hidden (HK.out i hi1)
   go_upto_region 7 with fail
   generalize (wo.alloc (.cells (madeCells #[.int .u64 0, .int .u64 0, .int .u64 0, .int .u64 0] (n * 4)) 26)) = wa at *
   obtain ⟨N, hN⟩ : ∃ N, wo.heap.size = N := ⟨_, rfl⟩
   rw [hN] at WB ⊢
   go_wp2_with fail
   go_loopw [9] (fun kv w' => ∃ k : Nat, k ≤ n ∧ k ≤ mm i ∧ kv = .int .i64 k ∧ Hid (Rm w' N n (fun j => if j < k then ks i j else ⟨0, 0, 0, 0⟩) ∧ Below N wo w')) (fun k _ => n - (intOf k).toNat)
   case atStart => exact ⟨0, by omega, by omega, rfl, WB⟩
   case round =>
    clear WB
    obtain ⟨k, hk, hkm, rfl, hS⟩ := hrel
    have rc := RC.out _ (hN ▸ hS.out.2)
    by_cases hkn : k < n
    ·have k0 : (0 : Int) ≤ (k : Int) := by omega
     have k1 : (k : Int) < (n : Int) := by omega
     by_cases hm2 : k < mm i
     ·have k2 : (k : Int) < (mm i : Int) := by omega
      have w8 : IntKind.i64.wrap ((k : Int) + 1) = (k : Int) + 1 := IntWalk.i64_in _ (by have := hn5.out; omega)
      obtain ⟨sb, so, h1, h2⟩ := LC.out _ (hN ▸ hS.out.2)
      have hp := h1 (by omega)
      have RR := h2 (by omega)
      rw [hp] at rc
      have x0 := RR.c0 k hm2; have x1 := RR.c1 k hm2; have x2 := RR.c2 k hm2; have x3 := RR.c3 k hm2
      have D := hS.out.1.r
      have s0 := D.c0 k hkn; have s1 := D.c1 k hkn; have s2 := D.c2 k hkn; have s3 := D.c3 k hkn
      have v0 := hS.out.1.fr (k * 4) (by omega); have v1 := hS.out.1.fr (k * 4 + 1) (by omega); have v2 := hS.out.1.fr (k * 4 + 2) (by omega); have v3 := hS.out.1.fr (k * 4 + 3) (by omega)
      simp only [Nat.zero_add] at s0 s1 s2 s3 v0 v1 v2 v3
      have NX := hidden (And.intro (rm_eq (hS.out.1.set k hkn (ks i k)) (g' := fun j => if j < k + 1 then ks i j else ⟨0, 0, 0, 0⟩) (fun j hj => by
       by_cases e : j = k
       ·subst e; rw [if_pos rfl, if_pos (by omega)]
       ·rw [if_neg e]
        by_cases q : j < k
        ·rw [if_pos q, if_pos (by omega)]
        ·rw [if_neg q, if_neg (by omega)])) (setS_bel (o := k * 4) (x := ks i k) hS.out.2 (Nat.le_refl _)))
      unfold setS at NX
      generalize ks i k = a at x0 x1 x2 x3 NX
      generalize mm i = mi at *
      clear RR D hS h1 h2 hp
      go_wp2_with fail
      go_roundw
      case rel => exact ⟨k + 1, by omega, by omega, by go_num, NX⟩
      case measure => simp [intOf]; omega
     ·obtain rfl : k = mm i := by omega
      have lq : ¬ ((mm i : Nat) : Int) < ((mm i : Nat) : Int) := by omega
      have QB := hidden ((hQ.out.keep (hN ▸ hS.out.2)).keep (bl_alloc wr (.cells #[.slice (some ⟨N, 0, none⟩) n n] 23)))
      have RB0 := hS.out.1.r.keep (bl_alloc wr (.cells #[.slice (some ⟨N, 0, none⟩) n n] 23))
      have OB0 : ∀ j, j < n → ((fun j => if j < mm i then ks i j else ⟨0, 0, 0, 0⟩ : Nat → E4) j).ok := fun j hj => by
       show (if j < mm i then ks i j else (⟨0, 0, 0, 0⟩ : E4)).ok
       by_cases q : j < mm i
       ·rw [if_pos q]; exact OK.out j (by omega)
       ·rw [if_neg q]; exact zok
      obtain ⟨FF, hFF⟩ : ∃ FF : Nat → E4, (fun j => if j < mm i then ks i j else ⟨0, 0, 0, 0⟩) = FF := ⟨_, rfl⟩
      rw [hFF] at RB0 OB0
      have RB := hidden RB0
      have OB := hidden OB0
      have NB : Hid (w.heap.size ≤ N) := hidden (by have := hQ.out.bel.size; omega)
      clear RB0 OB0 hFF hS
      go_wp2_with (first | (at_builtin; refine wpList_append_own_at _ rfl _ _ 22 rfl w.heap.size 23 j0 (.slice none 0 0) 1 24 HU.out HJ.out JZ0.out JZ1.out JZ2.out rfl (by decide) _ i _ rfl QB.out.own ⟨wr.heap.size, 0, none⟩ 1 1 [.slice (some ⟨N, 0, none⟩) n n] rfl rfl (cells_new wr [.slice (some ⟨N, 0, none⟩) n n] 23) (by intro u hu; obtain rfl := List.mem_singleton.1 hu; rfl) (by unfold maxLen; omega) (by omega) QB.out.bel.size ?_; intro v4 w4 how4 hgr4 hnil4 hat4; have Q4 := hidden (QB.out.add hn1.out N FF how4 hgr4 RB.out OB.out NB.out); clear how4 hgr4 hnil4 hat4))
      go_roundw
      case rel => exact ⟨i + 1, by omega, by omega, by go_num, hidden ⟨_, _, Q4.out⟩⟩
      case measure => simp [intOf]; omega
    ·obtain rfl : k = n := by omega
     have lq : ¬ (k : Int) < (k : Int) := by omega
     have QB := hidden ((hQ.out.keep (hN ▸ hS.out.2)).keep (bl_alloc wr (.cells #[.slice (some ⟨N, 0, none⟩) k k] 23)))
     have RB0 := hS.out.1.r.keep (bl_alloc wr (.cells #[.slice (some ⟨N, 0, none⟩) k k] 23))
     have OB0 : ∀ j, j < k → ((fun j => if j < k then ks i j else ⟨0, 0, 0, 0⟩ : Nat → E4) j).ok := fun j hj => by
      show (if j < k then ks i j else (⟨0, 0, 0, 0⟩ : E4)).ok
      by_cases q : j < k
      ·rw [if_pos q]; exact OK.out j (by omega)
      ·rw [if_neg q]; exact zok
     obtain ⟨FF, hFF⟩ : ∃ FF : Nat → E4, (fun j => if j < k then ks i j else ⟨0, 0, 0, 0⟩) = FF := ⟨_, rfl⟩
     rw [hFF] at RB0 OB0
     have RB := hidden RB0
     have OB := hidden OB0
     have NB : Hid (w.heap.size ≤ N) := hidden (by have := hQ.out.bel.size; omega)
     clear RB0 OB0 hFF hS
     go_wp2_with (first | (at_builtin; refine wpList_append_own_at _ rfl _ _ 22 rfl w.heap.size 23 j0 (.slice none 0 0) 1 24 HU.out HJ.out JZ0.out JZ1.out JZ2.out rfl (by decide) _ i _ rfl QB.out.own ⟨wr.heap.size, 0, none⟩ 1 1 [.slice (some ⟨N, 0, none⟩) k k] rfl rfl (cells_new wr [.slice (some ⟨N, 0, none⟩) k k] 23) (by intro u hu; obtain rfl := List.mem_singleton.1 hu; rfl) (by unfold maxLen; omega) (by omega) QB.out.bel.size ?_; intro v4 w4 how4 hgr4 hnil4 hat4; have Q4 := hidden (QB.out.add hn1.out N FF how4 hgr4 RB.out OB.out NB.out); clear how4 hgr4 hnil4 hat4))
     go_roundw
     case rel => exact ⟨i + 1, by omega, by omega, by go_num, hidden ⟨_, _, Q4.out⟩⟩
     case measure => simp [intOf]; omega
  ·have hh := hin
   by_cases h1 : i < m
   ·obtain rfl : i = 5 := by omega
    have c1 : ((5 : Nat) : Int) < (m : Int) := by omega
    have c1' : (5 : Int) < (m : Int) := by omega
    obtain ⟨R, cR, rfl, hcR, _⟩ := own_shapeS hQ.out.own (by omega)
    go_wp2_with fail
    refine bodyPost_ret (v := .slice (some ⟨R, 0, none⟩) 5 cR) (by simp [results, Tryz.results4, go_sem]) rfl ⟨_, 5, n, g, gs, rfl, by omega, by omega, hn1.out, hn5.out, hQ.out⟩
   ·obtain rfl : i = m := by omega
    have c1 : ¬ (i : Int) < (i : Int) := by omega
    by_cases h0 : i = 0
    ·subst h0
     obtain rfl := hQ.out.z rfl
     have N0 := hidden (Rm.made wr n 26)
     have QA := hidden (hQ.out.keep (bl_alloc wr (.cells (madeCells #[.int .u64 0, .int .u64 0, .int .u64 0, .int .u64 0] (n * 4)) 26)))
     have QB := hidden (QA.out.keep (bl_alloc (wr.alloc (.cells (madeCells #[.int .u64 0, .int .u64 0, .int .u64 0, .int .u64 0] (n * 4)) 26)) (.cells #[.slice (some ⟨wr.heap.size, 0, none⟩) n n] 23)))
     have RB := hidden (N0.out.r.keep (bl_alloc (wr.alloc (.cells (madeCells #[.int .u64 0, .int .u64 0, .int .u64 0, .int .u64 0] (n * 4)) 26)) (.cells #[.slice (some ⟨wr.heap.size, 0, none⟩) n n] 23)))
     go_wp2_with (first | (at_builtin; refine wpList_append_own_at _ rfl _ _ 22 rfl w.heap.size 23 j0 (.slice none 0 0) 1 24 HU.out HJ.out JZ0.out JZ1.out JZ2.out rfl (by decide) _ 0 _ rfl QB.out.own ⟨wr.heap.size + 1, 0, none⟩ 1 1 [.slice (some ⟨wr.heap.size, 0, none⟩) n n] rfl rfl (by have h := cells_new (wr.alloc (.cells (madeCells #[.int .u64 0, .int .u64 0, .int .u64 0, .int .u64 0] (n * 4)) 26)) [.slice (some ⟨wr.heap.size, 0, none⟩) n n] 23; rw [World.size_alloc] at h; exact h) (by intro u hu; obtain rfl := List.mem_singleton.1 hu; rfl) (by unfold maxLen; omega) (by omega) QB.out.bel.size ?_; intro v4 w4 how4 hgr4 hnil4 hat4; have Q4 := hidden (QB.out.add hn1.out wr.heap.size _ how4 hgr4 RB.out (fun _ _ => zok) hQ.out.bel.size); clear how4 hgr4 hnil4 hat4))
     refine bodyPost_ret (v := v4) (by simp [results, Tryz.results4, go_sem]) rfl ⟨_, 1, n, _, _, rfl, by omega, by omega, hn1.out, hn5.out, Q4.out⟩
    ·obtain ⟨R, cR, rfl, hcR, _⟩ := own_shapeS hQ.out.own (by omega)
     have c2 : ¬ (i : Int) = 0 := by omega
     go_wp2_with fail
     refine bodyPost_ret (v := .slice (some ⟨R, 0, none⟩) i cR) (by simp [results, Tryz.results4, go_sem]) rfl ⟨_, i, n, g, gs, rfl, by omega, by omega, hn1.out, hn5.out, hQ.out⟩
end Sg
end Go.Proofs.YtbbnjmjeeiglcaaGreatDoor
