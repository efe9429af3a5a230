import Derived.Test.YtebmaneogekhjaaGreatDoorTk
import Derived.Test.YtebmaneogekhjaaGreatDoorDhz
namespace Go.Proofs.YtebmaneogekhjaaGreatDoor
open Go.RowKit
set_option linter.unusedVariables false
set_option linter.unusedSimpArgs false
open Cm (Wr Tm co bf Ls lf ins Eqm)
namespace Ci
set_option maxRecDepth 100000
set_option maxHeartbeats 16000000
theorem SpP.from {S : Nat → Prop} {d m q b n : Nat} {p : Pz} {x y w' : World} {e : Ending} (hb : Below x.heap.size x y) (h : SpP S d m p q b n y e w') : SpP S d m p q b n x e w' := by
 obtain ⟨S', v, xs, h1, h2, h3, h4, h5, h6, h7⟩ := h
 exact ⟨S', v, xs, h1, h2, (Gs.bl hb).trans h3 Sk.refl, Sk.trans Sk.refl h4 hb.size, own_monoT h5 hb.size, h6, h7⟩
def LvS (X : List Tm) (x : World) (e : Ending) (w' : World) : Prop := ∃ P c, e = .returned (.slice P X.length c) ∧ Lq x X (.slice P X.length c) w'
theorem LvP.s {X : List Tm} {x w' : World} {e : Ending} (h : LvP X x e w') : LvS X x e w' := by
 obtain ⟨v, rfl, hl⟩ := h
 obtain ⟨P, c, rfl, -⟩ := own_shT hl.1
 exact ⟨P, c, rfl, hl⟩
theorem build3L (P0 P1 P2 : Option Addr) (n0 c0 n1 c1 n2 c2 : Nat) (w : World) : (Instr.buildSlice 64 3 #[(0, .slice P0 n0 c0), (1, .slice P1 n1 c1), (2, .slice P2 n2 c2)]).run Tryz.prog w = .ok (.slice (some ⟨w.heap.size, 0, none⟩) 3 3) (w.alloc (.cells #[.slice P0 n0 c0, .slice P1 n1 c1, .slice P2 n2 c2] 49)) := by kernel_rfl
theorem wp_bs3 {w : World} {o : Oper} {a : Act} {K : Act → World → Prop} {Q : Exit → Act → World → Prop} (x0 x1 x2 : Operand) (ho : o.op = .buildSlice 64 3 #[(0, x0), (1, x1), (2, x2)]) (P0 : Option Addr) (n0 c0 : Nat) (P1 : Option Addr) (n1 c1 : Nat) (P2 : Option Addr) (n2 c2 : Nat) (h0 : a.eval x0 = .slice P0 n0 c0) (h1 : a.eval x1 = .slice P1 n1 c1) (h2 : a.eval x2 = .slice P2 n2 c2) (h : ∀ (tb : Nat) (wq : World), tb = w.heap.size → Below w.heap.size w wq → wq.rangeAt tb 0 [.slice P0 n0 c0, .slice P1 n1 c1, .slice P2 n2 c2] → K (a.put o.dst (.slice (some ⟨tb, 0, none⟩) 3 3)) wq) : o.wp Tryz.prog a w K Q := by
 have hr := build3L P0 P1 P2 n0 c0 n1 c1 n2 c2 w
 have hk := h w.heap.size _ rfl (bl_alloc w (.cells #[.slice P0 n0 c0, .slice P1 n1 c1, .slice P2 n2 c2] 49)) (range_newM w [.slice P0 n0 c0, .slice P1 n1 c1, .slice P2 n2 c2] 49)
 unfold Oper.wp execOp
 simp only [ho, Sem.run_bind, Sem.run_pure, Result.andThen_ok, List.map_toArray, List.map_cons, List.map_nil, h0, h1, h2, hr]
 exact hk
def ls1o_0 : Oper := { dst := some 6, op := Op.move (Operand.tmp 0), type := 64, pos := "bits.go:79", after := #[], guard := none }
def ls1o_1 : Oper := { dst := some 7, op := Op.indexAddr 64 (Operand.tmp 6) (Operand.const (Value.int IntKind.i64 0)), type := 0, pos := "bits.go:79", after := #[{ on := 0, ground := Ground.data }], guard := none }
def ls1o_2 : Oper := { dst := some 8, op := Op.load 49 (Operand.tmp 7), type := 49, pos := "bits.go:79", after := #[{ on := 1, ground := Ground.data }], guard := none }
def ls1o_3 : Oper := { dst := some 9, op := Op.move (Operand.tmp 0), type := 64, pos := "bits.go:79", after := #[{ on := 6, ground := Ground.gcOnly Departure.lateStores }], guard := none }
def ls1o_4 : Oper := { dst := some 10, op := Op.indexAddr 64 (Operand.tmp 9) (Operand.const (Value.int IntKind.i64 1)), type := 0, pos := "bits.go:79", after := #[{ on := 3, ground := Ground.data }, { on := 6, ground := Ground.gcOnly Departure.lateStores }], guard := none }
def ls1o_5 : Oper := { dst := some 11, op := Op.load 49 (Operand.tmp 10), type := 49, pos := "bits.go:79", after := #[{ on := 4, ground := Ground.data }, { on := 6, ground := Ground.gcOnly Departure.lateStores }], guard := none }
def ls1o_6 : Oper := { dst := some 4, op := Op.assign (Operand.tmp 8), type := 49, pos := "bits.go:79", after := #[{ on := 2, ground := Ground.data }, { on := 0, ground := Ground.phase }, { on := 1, ground := Ground.phase }, { on := 2, ground := Ground.phase }, { on := 3, ground := Ground.textOnly Departure.lateStores }, { on := 4, ground := Ground.textOnly Departure.lateStores }, { on := 5, ground := Ground.textOnly Departure.lateStores }], guard := none }
def ls1o_7 : Oper := { dst := some 5, op := Op.assign (Operand.tmp 11), type := 49, pos := "bits.go:79", after := #[{ on := 5, ground := Ground.data }, { on := 6, ground := Ground.chain }, { on := 0, ground := Ground.phase }, { on := 1, ground := Ground.phase }, { on := 2, ground := Ground.phase }, { on := 3, ground := Ground.phase }, { on := 4, ground := Ground.phase }, { on := 5, ground := Ground.phase }, { on := 6, ground := Ground.phase }], guard := none }
def ls1o : Array Oper := #[ls1o_0, ls1o_1, ls1o_2, ls1o_3, ls1o_4, ls1o_5, ls1o_6, ls1o_7]
set_option maxRecDepth 100000 in
set_option maxHeartbeats 16000000 in
theorem ls1 (Q : Exit → Act → World → Prop) (lb n0 c0 n1 c1 : Nat) (P0 P1 : Option Addr) (u1 u2 u3 u4 u5 u6 u7 u8 u9 u10 u11 u12 u13 u14 u15 u16 u17 u18 u19 u20 u21 : Value) (W : World)
  (q0 : W.cell? ⟨lb, 0, none⟩ = some (.slice P0 n0 c0)) (q1 : W.cell? ⟨lb, 1, none⟩ = some (.slice P1 n1 c1))
  (HQ : Hid (∀ (wz : World), wz = W.drew → Q .normal ⟨#[.slice (some ⟨lb, 0, none⟩) 2 2, u1, u2, u3, .slice P0 n0 c0, .slice P1 n1 c1, .slice (some ⟨lb, 0, none⟩) 2 2, .pointer (some ⟨lb, 0, none⟩), .slice P0 n0 c0, .slice (some ⟨lb, 0, none⟩) 2 2, .pointer (some ⟨lb, 1, none⟩), .slice P1 n1 c1, u12, u13, u14, u15, u16, u17, u18, u19, u20, u21], []⟩ wz)) : (Code.region 1 ls1o true).wp Tryz.prog Q ⟨#[.slice (some ⟨lb, 0, none⟩) 2 2, u1, u2, u3, u4, u5, u6, u7, u8, u9, u10, u11, u12, u13, u14, u15, u16, u17, u18, u19, u20, u21], []⟩ W := by
 unfold ls1o
 refine wp_region_noPanic ?_
 refine wp_region_held_drew (S := fun x => x.cell? ⟨lb, 0, none⟩ = some (.slice P0 n0 c0) ∧ x.cell? ⟨lb, 1, none⟩ = some (.slice P1 n1 c1)) (by kernel_rfl) (⟨cell_keep q0 (bl_drew W), cell_keep q1 (bl_drew W)⟩) (fun hH0 => ?_)
 refine tk 0 ls1o_0 (.slice (some ⟨lb, 0, none⟩) 2 2) rfl (by kernel_rfl) hH0 rfl (fun w0 hSw => ?_) ?_
 ·(unfold ls1o_0; clear hSw; go_simp)
 simp only [ls1o_0, Act.put, sA, sB, sC]
 refine tk 3 ls1o_3 (.slice (some ⟨lb, 0, none⟩) 2 2) rfl (by kernel_rfl) hH0 rfl (fun w0 hSw => ?_) ?_
 ·(unfold ls1o_3; clear hSw; go_simp)
 simp only [ls1o_3, Act.put, sA, sB, sC]
 refine tk 1 ls1o_1 (.pointer (some ⟨lb, 0, none⟩)) rfl (by kernel_rfl) hH0 rfl (fun w0 hSw => ?_) ?_
 ·(unfold ls1o_1; clear hSw; go_simp)
 simp only [ls1o_1, Act.put, sA, sB, sC]
 refine tk 4 ls1o_4 (.pointer (some ⟨lb, 1, none⟩)) rfl (by kernel_rfl) hH0 rfl (fun w0 hSw => ?_) ?_
 ·(unfold ls1o_4; clear hSw; go_simp)
 simp only [ls1o_4, Act.put, sA, sB, sC]
 refine tk 2 ls1o_2 (.slice P0 n0 c0) rfl (by kernel_rfl) hH0 rfl (fun w0 hSw => ?_) ?_
 ·(unfold ls1o_2; have hS : w0.cell? ⟨lb, 0, none⟩ = some (.slice P0 n0 c0) ∧ w0.cell? ⟨lb, 1, none⟩ = some (.slice P1 n1 c1) := hSw; have a0 := hS.1; clear hS hSw; go_simp)
 simp only [ls1o_2, Act.put, sA, sB, sC]
 refine tk 5 ls1o_5 (.slice P1 n1 c1) rfl (by kernel_rfl) hH0 rfl (fun w0 hSw => ?_) ?_
 ·(unfold ls1o_5; have hS : w0.cell? ⟨lb, 0, none⟩ = some (.slice P0 n0 c0) ∧ w0.cell? ⟨lb, 1, none⟩ = some (.slice P1 n1 c1) := hSw; have a0 := hS.2; clear hS hSw; go_simp)
 simp only [ls1o_5, Act.put, sA, sB, sC]
 refine tk 6 ls1o_6 (.slice P0 n0 c0) rfl (by kernel_rfl) hH0 rfl (fun w0 hSw => ?_) ?_
 ·(unfold ls1o_6; clear hSw; go_simp)
 simp only [ls1o_6, Act.put, sA, sB, sC]
 refine tk 7 ls1o_7 (.slice P1 n1 c1) rfl (by kernel_rfl) hH0 rfl (fun w0 hSw => ?_) ?_
 ·(unfold ls1o_7; clear hSw; go_simp)
 simp only [ls1o_7, Act.put, sA, sB, sC]
 have HH := hidden hH0
 have FQ := hidden (HQ.out _ rfl)
 refine wpAnyH_done (by kernel_rfl) ?_ _
 refine NoPanic.normal ?_
 exact FQ.out
def ls2o_0 : Oper := { dst := some 12, op := Op.load 94 (Operand.tmp 1), type := 94, pos := "bits.go:80", after := #[], guard := none }
def ls2o_1 : Oper := { dst := some 13, op := Op.move (Operand.tmp 4), type := 49, pos := "bits.go:80", after := #[], guard := none }
def ls2o_2 : Oper := { dst := some 14, op := Op.move (Operand.tmp 5), type := 49, pos := "bits.go:80", after := #[], guard := none }
def ls2o_3 : Oper := { dst := some 15, op := Op.move (Operand.tmp 5), type := 49, pos := "bits.go:80", after := #[], guard := none }
def ls2o_4 : Oper := { dst := some 16, op := Op.move (Operand.tmp 4), type := 49, pos := "bits.go:80", after := #[], guard := none }
def ls2o_5 : Oper := { dst := some 17, op := Op.call { callee := Callee.value (Operand.func 82), args := #[Operand.tmp 15, Operand.tmp 16], argTypes := #[49, 49] }, type := 49, pos := "bits.go:80", after := #[{ on := 3, ground := Ground.data }, { on := 4, ground := Ground.data }], guard := none }
def ls2o_6 : Oper := { dst := some 18, op := Op.call { callee := Callee.value (Operand.func 83), args := #[], argTypes := #[] }, type := 49, pos := "bits.go:80", after := #[{ on := 5, ground := Ground.chain }], guard := none }
def ls2o_7 : Oper := { dst := some 19, op := Op.call { callee := Callee.value (Operand.func 82), args := #[Operand.tmp 17, Operand.tmp 18], argTypes := #[49, 49] }, type := 49, pos := "bits.go:80", after := #[{ on := 5, ground := Ground.data }, { on := 6, ground := Ground.data }, { on := 6, ground := Ground.chain }], guard := none }
def ls2o_8 : Oper := { dst := some 20, op := Op.buildSlice 64 3 #[(0, Operand.tmp 13), (1, Operand.tmp 14), (2, Operand.tmp 19)], type := 64, pos := "bits.go:80", after := #[{ on := 1, ground := Ground.data }, { on := 2, ground := Ground.data }, { on := 7, ground := Ground.data }], guard := none }
def ls2o_9 : Oper := { dst := some 21, op := Op.call { callee := Callee.value (Operand.tmp 12), args := #[Operand.tmp 20], argTypes := #[64] }, type := 64, pos := "bits.go:80", after := #[{ on := 0, ground := Ground.data }, { on := 8, ground := Ground.data }, { on := 7, ground := Ground.chain }], guard := none }
def ls2o_10 : Oper := { dst := some 3, op := Op.assign (Operand.tmp 21), type := 64, pos := "bits.go:80", after := #[{ on := 9, ground := Ground.data }, { on := 9, ground := Ground.chain }, { on := 0, ground := Ground.phase }, { on := 1, ground := Ground.phase }, { on := 2, ground := Ground.phase }, { on := 3, ground := Ground.phase }, { on := 4, ground := Ground.phase }, { on := 5, ground := Ground.phase }, { on := 6, ground := Ground.phase }, { on := 7, ground := Ground.phase }, { on := 8, ground := Ground.phase }, { on := 9, ground := Ground.phase }], guard := none }
def ls2o : Array Oper := #[ls2o_0, ls2o_1, ls2o_2, ls2o_3, ls2o_4, ls2o_5, ls2o_6, ls2o_7, ls2o_8, ls2o_9, ls2o_10]
set_option maxRecDepth 100000 in
set_option maxHeartbeats 16000000 in
theorem ls2 (Q : Exit → Act → World → Prop) (S : Nat → Prop) (d m q b bx bd bn N n0 c0 n1 c1 : Nat) (P0 P1 : Option Addr) (p2 : Pz) (X5 X7 : List Tm) (u0 u2 u3 u6 u7 u8 u9 u10 u11 u12 u13 u14 u15 u16 u17 u18 u19 u20 u21 : Value) (W : World)
  (q0 : W.cell? ⟨bx, 0, none⟩ = some (.func (.func 91) #[] #[.pointer (some ⟨bd, 0, none⟩), .pointer (some ⟨bn, 0, none⟩)])) (nb : Hid (¬ S bx))
  (C5 : Hid (∀ y, Below W.heap.size W y → Calls Tryz.prog 82 #[.slice P1 n1 c1, .slice P0 n0 c0] y fun e w' => LvS X5 y e w'))
  (C6 : Hid (∀ y, Below W.heap.size W y → Calls Tryz.prog 83 #[] y fun e w' => LvS unX y e w'))
  (C7 : Hid (∀ y P5 c5 P6 c6, Below W.heap.size W y → Zn W.heap.size y (.slice P5 X5.length c5) X5 → Zn W.heap.size y (.slice P6 unX.length c6) unX → Calls Tryz.prog 82 #[.slice P5 X5.length c5, .slice P6 unX.length c6] y fun e w' => LvS X7 y e w'))
  (C9 : Hid (∀ y tb P7 c7, Below W.heap.size W y → W.heap.size ≤ tb → y.rangeAt tb 0 [.slice P0 n0 c0, .slice P1 n1 c1, .slice P7 X7.length c7] → Zn W.heap.size y (.slice P7 X7.length c7) X7 → Calls Tryz.prog 91 #[.slice (some ⟨tb, 0, none⟩) 3 3, .pointer (some ⟨bd, 0, none⟩), .pointer (some ⟨bn, 0, none⟩)] y fun e w' => SpP S d m p2 q b N y e w'))
  (HQ : Hid (∀ (wz : World) (v9 : Value) (P5 P6 P7 : Option Addr) (c5 c6 c7 tb : Nat), SpP S d m p2 q b N W (.returned v9) wz → Q .normal ⟨#[u0, .pointer (some ⟨bx, 0, none⟩), u2, v9, .slice P0 n0 c0, .slice P1 n1 c1, u6, u7, u8, u9, u10, u11, .func (.func 91) #[] #[.pointer (some ⟨bd, 0, none⟩), .pointer (some ⟨bn, 0, none⟩)], .slice P0 n0 c0, .slice P1 n1 c1, .slice P1 n1 c1, .slice P0 n0 c0, .slice P5 X5.length c5, .slice P6 unX.length c6, .slice P7 X7.length c7, .slice (some ⟨tb, 0, none⟩) 3 3, v9], []⟩ wz)) : (Code.region 2 ls2o true).wp Tryz.prog Q ⟨#[u0, .pointer (some ⟨bx, 0, none⟩), u2, u3, .slice P0 n0 c0, .slice P1 n1 c1, u6, u7, u8, u9, u10, u11, u12, u13, u14, u15, u16, u17, u18, u19, u20, u21], []⟩ W := by
 have BB := hidden (bl_drew W)
 have SZ := hidden (Nat.le_refl W.heap.size)
 unfold ls2o
 refine wp_region_noPanic ?_
 refine wp_region_held_drew (S := fun x => x.cell? ⟨bx, 0, none⟩ = some (.func (.func 91) #[] #[.pointer (some ⟨bd, 0, none⟩), .pointer (some ⟨bn, 0, none⟩)])) (by kernel_rfl) (cell_keep q0 (bl_drew W)) (fun hH0 => ?_)
 refine tk 0 ls2o_0 (.func (.func 91) #[] #[.pointer (some ⟨bd, 0, none⟩), .pointer (some ⟨bn, 0, none⟩)]) rfl (by kernel_rfl) hH0 rfl (fun w0 hSw => ?_) ?_
 ·(unfold ls2o_0; have hS : w0.cell? ⟨bx, 0, none⟩ = some (.func (.func 91) #[] #[.pointer (some ⟨bd, 0, none⟩), .pointer (some ⟨bn, 0, none⟩)]) := hSw; have a0 := hSw; clear hS hSw; go_simp)
 simp only [ls2o_0, Act.put, sA, sB, sC]
 refine tk 1 ls2o_1 (.slice P0 n0 c0) rfl (by kernel_rfl) hH0 rfl (fun w0 hSw => ?_) ?_
 ·(unfold ls2o_1; clear hSw; go_simp)
 simp only [ls2o_1, Act.put, sA, sB, sC]
 refine tk 2 ls2o_2 (.slice P1 n1 c1) rfl (by kernel_rfl) hH0 rfl (fun w0 hSw => ?_) ?_
 ·(unfold ls2o_2; clear hSw; go_simp)
 simp only [ls2o_2, Act.put, sA, sB, sC]
 refine tk 3 ls2o_3 (.slice P1 n1 c1) rfl (by kernel_rfl) hH0 rfl (fun w0 hSw => ?_) ?_
 ·(unfold ls2o_3; clear hSw; go_simp)
 simp only [ls2o_3, Act.put, sA, sB, sC]
 refine tk 4 ls2o_4 (.slice P0 n0 c0) rfl (by kernel_rfl) hH0 rfl (fun w0 hSw => ?_) ?_
 ·(unfold ls2o_4; clear hSw; go_simp)
 simp only [ls2o_4, Act.put, sA, sB, sC]
 refine wpAnyH_ready (rs := [5]) (by kernel_rfl) (by simp) ?_
 refine AllReadyH.cons (o := ls2o_5) rfl (fun K hK => ?_) AllReadyH.nil
 unfold ls2o_5
 have HH := hidden hH0
 clear hH0
 go_simp
 refine (C5.out _ BB.out).mono ?_
 rintro e wn1 ⟨P5, c5, rfl, hl⟩
 have SN := hidden (cell_keep HH.out hl.2.1)
 replace BB := hidden (bl_trans BB.out hl.2.1)
 have F5 := hidden ((Zn.of hl SZ.out : Zn W.heap.size _ _ X5))
 replace SZ := hidden (Nat.le_trans SZ.out hl.2.1.size)
 clear HH hl C5
 go_wp2_with fail
 refine hK.out _ _ SN.out (fun hH1 => ?_)
 clear hK K SN
 refine wpAnyH_ready (rs := [6]) (by kernel_rfl) (by simp) ?_
 refine AllReadyH.cons (o := ls2o_6) rfl (fun K hK => ?_) AllReadyH.nil
 unfold ls2o_6
 have HH := hidden hH1
 clear hH1
 go_simp
 refine (C6.out _ BB.out).mono ?_
 rintro e wn2 ⟨P6, c6, rfl, hl⟩
 have SN := hidden (cell_keep HH.out hl.2.1)
 replace BB := hidden (bl_trans BB.out hl.2.1)
 replace F5 := hidden (F5.out.keep hl.2.1)
 have F6 := hidden ((Zn.of hl SZ.out : Zn W.heap.size _ _ unX))
 replace SZ := hidden (Nat.le_trans SZ.out hl.2.1.size)
 clear HH hl C6
 go_wp2_with fail
 refine hK.out _ _ SN.out (fun hH2 => ?_)
 clear hK K SN
 refine wpAnyH_ready (rs := [7]) (by kernel_rfl) (by simp) ?_
 refine AllReadyH.cons (o := ls2o_7) rfl (fun K hK => ?_) AllReadyH.nil
 unfold ls2o_7
 have HH := hidden hH2
 clear hH2
 go_simp
 refine (C7.out _ P5 c5 P6 c6 BB.out F5.out F6.out).mono ?_
 rintro e wn3 ⟨P7, c7, rfl, hl⟩
 have SN := hidden (cell_keep HH.out hl.2.1)
 replace BB := hidden (bl_trans BB.out hl.2.1)
 have F7 := hidden ((Zn.of hl SZ.out : Zn W.heap.size _ _ X7))
 replace SZ := hidden (Nat.le_trans SZ.out hl.2.1.size)
 clear HH hl C7 F5 F6
 go_wp2_with fail
 refine hK.out _ _ SN.out (fun hH3 => ?_)
 clear hK K SN
 refine wpAnyH_ready (rs := [8]) (by kernel_rfl) (by simp) ?_
 refine AllReadyH.cons (o := ls2o_8) rfl (fun K hK => ?_) AllReadyH.nil
 unfold ls2o_8
 have HH := hidden hH3
 clear hH3
 refine wp_bs3 _ _ _ rfl P0 n0 c0 P1 n1 c1 P7 X7.length c7 rfl rfl rfl (fun tb wn4 htb hbb hrg => ?_)
 have SN := hidden (cell_keep HH.out hbb)
 replace BB := hidden (bl_trans BB.out hbb)
 replace F7 := hidden (F7.out.keep hbb)
 have TB := hidden (And.intro (show W.heap.size ≤ tb by rw [htb]; exact SZ.out) hrg)
 replace SZ := hidden (Nat.le_trans SZ.out hbb.size)
 clear HH htb hbb hrg
 simp only [Act.put, sA, sB, sC]
 refine hK.out _ _ SN.out (fun hH4 => ?_)
 clear hK K SN
 refine wpAnyH_ready (rs := [9]) (by kernel_rfl) (by simp) ?_
 refine AllReadyH.cons (o := ls2o_9) rfl (fun K hK => ?_) AllReadyH.nil
 unfold ls2o_9
 have HH := hidden hH4
 clear hH4
 go_simp
 refine (C9.out _ tb P7 c7 BB.out TB.out.1 TB.out.2 F7.out).mono ?_
 rintro e wn5 ⟨S9, v9, xs9, rfl, d9, g9, k9, o9, l9, n9⟩
 have SN := hidden (g9.cell HH.out nb.out)
 have FE := hidden ((SpP.from BB.out ⟨S9, v9, xs9, rfl, d9, g9, k9, o9, l9, n9⟩ : SpP S d m p2 q b N W (.returned v9) _))
 clear HH d9 g9 k9 o9 l9 n9 C9
 go_wp2_with fail
 refine hK.out _ _ SN.out (fun hH5 => ?_)
 clear hK K SN
 refine tk 10 ls2o_10 (v9) rfl (by kernel_rfl) hH5 rfl (fun w0 hSw => ?_) ?_
 ·(unfold ls2o_10; clear hSw; go_simp)
 simp only [ls2o_10, Act.put, sA, sB, sC]
 have HH := hidden hH5
 have FQ := hidden (HQ.out _ v9 P5 P6 P7 c5 c6 c7 tb FE.out)
 refine wpAnyH_done (by kernel_rfl) ?_ _
 refine NoPanic.normal ?_
 exact FQ.out
end Ci
end Go.Proofs.YtebmaneogekhjaaGreatDoor
