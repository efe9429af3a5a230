import Derived.Test.YtebmaneogekhjaaGreatDoorTk
import Derived.Test.YtebmaneogekhjaaGreatDoorDlv
namespace Go.Proofs.YtebmaneogekhjaaGreatDoor
open Go.RowKit
set_option linter.unusedVariables false
set_option linter.unusedSimpArgs false
open Cm (Wr Tm co bf Ls lf ins Eqm)
namespace Ci
set_option maxRecDepth 100000
set_option maxHeartbeats 16000000
theorem wp_storeP {P : Program} {op : Oper} {a : Act} {w : World} {K : Act → World → Prop} {Q : Exit → Act → World → Prop} (ty : TypeId) (x y : Operand) (ho : op.op = .store ty x y) (b o q : Nat) (hx : a.eval x = .pointer (some ⟨b, o, none⟩)) (hy : a.eval y = .pointer (some ⟨q, 0, none⟩)) (ht : w.there b o 1) (hi : (P.info? ty).map (·.size) = some 1) (hd : op.dst = none)
  (h : ∀ w', w' = w.setCells b o [.pointer (some ⟨q, 0, none⟩)] → K a w') : op.wp P a w K Q := by
 have hr : (storeVar ty ⟨b, o, none⟩ (.pointer (some ⟨q, 0, none⟩))).run P w = .ok () (w.setCells b o [.pointer (some ⟨q, 0, none⟩)]) := run_storeVar_mid w b o ty #[.pointer (some ⟨q, 0, none⟩)] ht hi (by simp [Value.oneCell'])
 have := h _ rfl
 unfold Oper.wp execOp
 simp only [ho, hx, hy, Instr.storeAt, Instr.sureAddr, Sem.run_bind, Sem.run_pure, Result.andThen_ok, hr]
 have h2 : K (a.put op.dst undef) (w.setCells b o [.pointer (some ⟨q, 0, none⟩)]) := by rw [hd]; exact this
 exact h2
theorem i1_sp : (Tryz.prog.info? 25).map (·.size) = some 1 := by kernel_rfl
theorem there_arr {x : World} {b o n : Nat} {T : TypeId} {arr : Array Value} (h : x.heap[b]? = some (.cells arr T (0, 0))) (hs : o + n ≤ arr.size) : x.there b o n := fun j hj => by
 refine ⟨?_, frozen_of_row x b (o + j) _ _ h⟩
 rw [cell_of_row x b (o + j) _ _ (0, 0) h, Array.getElem?_eq_getElem (by omega)]
 rfl
def Hd9 (w : World) (d q b : Nat) : Prop := w.heap[d]? = some (.cells #[.pointer (some ⟨q, 0, none⟩), fn1 b, fn2 b, fn3 b, fn4 b, .int .i64 0] 34 (0, 0))
theorem Hd9.keepA {x y : World} {d q b : Nat} (h : Hd9 x d q b) (hb : Below x.heap.size x y) : Hd9 y d q b := (hb.block d (Array.getElem?_eq_some_iff.1 h).1).trans h
theorem Hd9.st {w : World} {d q b q2 : Nat} (h : Hd9 w d q b) : Hd9 (w.setCells d 0 [.pointer (some ⟨q2, 0, none⟩)]) d q2 b := heap_setCell_same w d 0 _ 34 (.pointer (some ⟨q2, 0, none⟩)) h
theorem Sy.from {base base' : Nat} {w : World} {s m Kg : Nat} {v : Value} {vs : List Value} {Q : List (List Tm)} (h : Sy base w s m Kg v vs Q) (hb : base' ≤ base) : Sy base' w s m Kg v vs Q := ⟨h.h, own_lower h.row hb, h.ls, Nat.le_trans hb h.bs, h.sm⟩
def ClP (m Kg : Nat) (Q : List (List Tm)) (vs : List Value) (x : World) (e : Ending) (w' : World) : Prop := ∃ q2 v', e = .returned (.pointer (some ⟨q2, 0, none⟩)) ∧ Sy x.heap.size w' q2 m Kg v' vs Q ∧ x.heap.size ≤ q2 ∧ Below x.heap.size x w'
def Wh1 (x wz : World) (m Kg : Nat) (Q : List (List Tm)) (vs : List Value) (R : Nat → Sl) (d q2 : Nat) (v' : Value) (b' : Nat) (R' : Nat → Sl) : Prop := ∃ w1, Below x.heap.size x w1 ∧ Sy x.heap.size w1 q2 m Kg v' vs Q ∧ x.heap.size ≤ q2 ∧ x.heap.size ≤ b' ∧ w1.heap[b']? = some (.cells (bxR R') 59 (0, 0)) ∧ Rc x.heap.size R R' w1 ∧ wz = w1.setCells d 0 [.pointer (some ⟨q2, 0, none⟩)]
def WhP (x wz : World) (m Kg : Nat) (Q : List (List Tm)) (vs : List Value) (R : Nat → Sl) (d q2 : Nat) (v' : Value) (b' : Nat) (R' : Nat → Sl) : Prop := ∃ w2, Wh1 x w2 m Kg Q vs R d q2 v' b' R' ∧ wz = w2.setCells d 1 [fn1 b', fn2 b', fn3 b', fn4 b']
theorem Wh1.two {x w2 wz : World} {m Kg : Nat} {Q : List (List Tm)} {vs : List Value} {R : Nat → Sl} {d q2 : Nat} {v' : Value} {b' : Nat} {R' : Nat → Sl} (h : Wh1 x w2 m Kg Q vs R d q2 v' b' R') (hw : wz = w2.setCells d 1 [fn1 b', fn2 b', fn3 b', fn4 b']) : WhP x wz m Kg Q vs R d q2 v' b' R' := ⟨w2, h, hw⟩
def wh6o_0 : Oper := { dst := some 22, op := Op.move (Operand.tmp 0), type := 23, pos := "piece.go:25", after := #[], guard := none }
def wh6o_1 : Oper := { dst := some 23, op := Op.move (Operand.tmp 0), type := 23, pos := "piece.go:25", after := #[{ on := 11, ground := Ground.gcOnly Departure.lateStores }], guard := none }
def wh6o_2 : Oper := { dst := some 24, op := Op.fieldAddr 34 (Operand.tmp 8) 0, type := 0, pos := "piece.go:25", after := #[], guard := none }
def wh6o_3 : Oper := { dst := some 25, op := Op.load 25 (Operand.tmp 24), type := 25, pos := "piece.go:25", after := #[{ on := 2, ground := Ground.data }], guard := none }
def wh6o_4 : Oper := { dst := some 26, op := Op.call { callee := Callee.value (Operand.func 45), args := #[Operand.tmp 25], argTypes := #[25] }, type := 25, pos := "piece.go:25", after := #[{ on := 3, ground := Ground.data }], guard := none }
def wh6o_5 : Oper := { dst := some 27, op := Op.fieldAddr 34 (Operand.tmp 8) 1, type := 0, pos := "piece.go:25", after := #[], guard := none }
def wh6o_6 : Oper := { dst := some 28, op := Op.fieldAddr 31 (Operand.tmp 27) 3, type := 0, pos := "piece.go:25", after := #[{ on := 5, ground := Ground.data }], guard := none }
def wh6o_7 : Oper := { dst := some 29, op := Op.load 29 (Operand.tmp 28), type := 29, pos := "piece.go:25", after := #[{ on := 6, ground := Ground.data }], guard := none }
def wh6o_8 : Oper := { dst := some 30, op := Op.call { callee := Callee.value (Operand.tmp 29), args := #[], argTypes := #[] }, type := 31, pos := "piece.go:25", after := #[{ on := 7, ground := Ground.data }, { on := 4, ground := Ground.chain }], guard := none }
def wh6o_9 : Oper := { dst := some 31, op := Op.nilCheck (Operand.tmp 22), type := 0, pos := "piece.go:25", after := #[{ on := 0, ground := Ground.data }, { on := 0, ground := Ground.phase }, { on := 1, ground := Ground.textOnly Departure.lateStores }, { on := 2, ground := Ground.phase }, { on := 3, ground := Ground.phase }, { on := 4, ground := Ground.phase }, { on := 5, ground := Ground.textOnly Departure.lateStores }, { on := 6, ground := Ground.textOnly Departure.lateStores }, { on := 7, ground := Ground.textOnly Departure.lateStores }, { on := 8, ground := Ground.phase }], guard := none }
def wh6o_10 : Oper := { dst := some 32, op := Op.fieldAddr 34 (Operand.tmp 31) 0, type := 0, pos := "piece.go:25", after := #[{ on := 9, ground := Ground.data }, { on := 0, ground := Ground.phase }, { on := 1, ground := Ground.textOnly Departure.lateStores }, { on := 2, ground := Ground.phase }, { on := 3, ground := Ground.phase }, { on := 4, ground := Ground.phase }, { on := 5, ground := Ground.textOnly Departure.lateStores }, { on := 6, ground := Ground.textOnly Departure.lateStores }, { on := 7, ground := Ground.textOnly Departure.lateStores }, { on := 8, ground := Ground.phase }], guard := none }
def wh6o_11 : Oper := { dst := none, op := Op.store 25 (Operand.tmp 32) (Operand.tmp 26), type := 0, pos := "piece.go:25", after := #[{ on := 10, ground := Ground.data }, { on := 4, ground := Ground.data }, { on := 8, ground := Ground.chain }, { on := 0, ground := Ground.phase }, { on := 1, ground := Ground.textOnly Departure.lateStores }, { on := 2, ground := Ground.phase }, { on := 3, ground := Ground.phase }, { on := 4, ground := Ground.phase }, { on := 5, ground := Ground.textOnly Departure.lateStores }, { on := 6, ground := Ground.textOnly Departure.lateStores }, { on := 7, ground := Ground.textOnly Departure.lateStores }, { on := 8, ground := Ground.phase }], guard := none }
def wh6o_12 : Oper := { dst := some 33, op := Op.nilCheck (Operand.tmp 23), type := 0, pos := "piece.go:25", after := #[{ on := 1, ground := Ground.data }, { on := 0, ground := Ground.phase }, { on := 1, ground := Ground.phase }, { on := 2, ground := Ground.phase }, { on := 3, ground := Ground.phase }, { on := 4, ground := Ground.phase }, { on := 5, ground := Ground.phase }, { on := 6, ground := Ground.phase }, { on := 7, ground := Ground.phase }, { on := 8, ground := Ground.phase }, { on := 9, ground := Ground.phase }, { on := 10, ground := Ground.phase }, { on := 11, ground := Ground.phase }], guard := none }
def wh6o_13 : Oper := { dst := some 34, op := Op.fieldAddr 34 (Operand.tmp 33) 1, type := 0, pos := "piece.go:25", after := #[{ on := 12, ground := Ground.data }, { on := 0, ground := Ground.phase }, { on := 1, ground := Ground.phase }, { on := 2, ground := Ground.phase }, { on := 3, ground := Ground.phase }, { on := 4, ground := Ground.phase }, { on := 5, ground := Ground.phase }, { on := 6, ground := Ground.phase }, { on := 7, ground := Ground.phase }, { on := 8, ground := Ground.phase }, { on := 9, ground := Ground.phase }, { on := 10, ground := Ground.phase }, { on := 11, ground := Ground.phase }], guard := none }
def wh6o_14 : Oper := { dst := none, op := Op.store 31 (Operand.tmp 34) (Operand.tmp 30), type := 0, pos := "piece.go:25", after := #[{ on := 13, ground := Ground.data }, { on := 8, ground := Ground.data }, { on := 11, ground := Ground.chain }, { on := 0, ground := Ground.phase }, { on := 1, ground := Ground.phase }, { on := 2, ground := Ground.phase }, { on := 3, ground := Ground.phase }, { on := 4, ground := Ground.phase }, { on := 5, ground := Ground.phase }, { on := 6, ground := Ground.phase }, { on := 7, ground := Ground.phase }, { on := 8, ground := Ground.phase }, { on := 9, ground := Ground.phase }, { on := 10, ground := Ground.phase }, { on := 11, ground := Ground.phase }], guard := none }
def wh6o : Array Oper := #[wh6o_0, wh6o_1, wh6o_2, wh6o_3, wh6o_4, wh6o_5, wh6o_6, wh6o_7, wh6o_8, wh6o_9, wh6o_10, wh6o_11, wh6o_12, wh6o_13, wh6o_14]
set_option maxRecDepth 100000 in
set_option maxHeartbeats 16000000 in
theorem wh6 (Q : Exit → Act → World → Prop) (d q b xs m Kg : Nat) (Q0 : List (List Tm)) (vs : List Value) (R : Nat → Sl) (u1 u2 u3 u4 u5 u6 u7 u9 u10 u11 u12 u13 u14 u15 u16 u17 u18 u19 u20 u21 u22 u23 u24 u25 u26 u27 u28 u29 u30 u31 u32 u33 u34 u35 u36 u37 u38 u39 u40 u41 u42 u43 u44 u45 u46 u47 u48 : Value) (W : World)
  (q0 : W.cell? ⟨xs, 0, none⟩ = some (.pointer (some ⟨q, 0, none⟩))) (q4 : W.cell? ⟨xs, 4, none⟩ = some (.func (.func 76) #[] #[.pointer (some ⟨b, 0, none⟩)])) (nd : Hid (d ≠ xs)) (hd0 : Hd9 W d q b)
  (C4 : Hid (∀ y, Below W.heap.size W y → Calls Tryz.prog 45 #[.pointer (some ⟨q, 0, none⟩)] y fun e w' => ClP m Kg Q0 vs y e w'))
  (C8 : Hid (∀ y, Below W.heap.size W y → Calls Tryz.prog 76 #[.pointer (some ⟨b, 0, none⟩)] y fun e w' => K4P R y e w'))
  (HQ : Hid (∀ (wz : World) (q2 : Nat) (v' : Value) (b' : Nat) (R' : Nat → Sl), WhP W wz m Kg Q0 vs R d q2 v' b' R' → Q .normal ⟨#[.pointer (some ⟨d, 0, none⟩), u1, u2, u3, u4, u5, u6, u7, .pointer (some ⟨xs, 0, none⟩), u9, u10, u11, u12, u13, u14, u15, u16, u17, u18, u19, u20, u21, .pointer (some ⟨d, 0, none⟩), .pointer (some ⟨d, 0, none⟩), .pointer (some ⟨xs, 0, none⟩), .pointer (some ⟨q, 0, none⟩), .pointer (some ⟨q2, 0, none⟩), .pointer (some ⟨xs, 1, none⟩), .pointer (some ⟨xs, 4, none⟩), .func (.func 76) #[] #[.pointer (some ⟨b, 0, none⟩)], (fnA b'), .pointer (some ⟨d, 0, none⟩), .pointer (some ⟨d, 0, none⟩), .pointer (some ⟨d, 0, none⟩), .pointer (some ⟨d, 1, none⟩), u35, u36, u37, u38, u39, u40, u41, u42, u43, u44, u45, u46, u47, u48], []⟩ wz)) : (Code.region 6 wh6o true).wp Tryz.prog Q ⟨#[.pointer (some ⟨d, 0, none⟩), u1, u2, u3, u4, u5, u6, u7, .pointer (some ⟨xs, 0, none⟩), u9, u10, u11, u12, u13, u14, u15, u16, u17, u18, u19, u20, u21, u22, u23, u24, u25, u26, u27, u28, u29, u30, u31, u32, u33, u34, u35, u36, u37, u38, u39, u40, u41, u42, u43, u44, u45, u46, u47, u48], []⟩ W := by
 have BB := hidden (bl_drew W)
 have SZ := hidden (Nat.le_refl W.heap.size)
 have HD := hidden (hd0.keepA (bl_drew W))
 clear hd0
 unfold wh6o
 refine wp_region_noPanic ?_
 refine wp_region_held_drew (S := fun x => x.cell? ⟨xs, 0, none⟩ = some (.pointer (some ⟨q, 0, none⟩)) ∧ x.cell? ⟨xs, 4, none⟩ = some (.func (.func 76) #[] #[.pointer (some ⟨b, 0, none⟩)])) (by kernel_rfl) (⟨cell_keep q0 (bl_drew W), cell_keep q4 (bl_drew W)⟩) (fun hH0 => ?_)
 refine tk 0 wh6o_0 (.pointer (some ⟨d, 0, none⟩)) rfl (by kernel_rfl) hH0 rfl (fun w0 hSw => ?_) ?_
 ·(unfold wh6o_0; clear hSw; go_simp)
 simp only [wh6o_0, Act.put, sA, sB, sC]
 refine tk 1 wh6o_1 (.pointer (some ⟨d, 0, none⟩)) rfl (by kernel_rfl) hH0 rfl (fun w0 hSw => ?_) ?_
 ·(unfold wh6o_1; clear hSw; go_simp)
 simp only [wh6o_1, Act.put, sA, sB, sC]
 refine tk 2 wh6o_2 (.pointer (some ⟨xs, 0, none⟩)) rfl (by kernel_rfl) hH0 rfl (fun w0 hSw => ?_) ?_
 ·(unfold wh6o_2; clear hSw; go_simp)
 simp only [wh6o_2, Act.put, sA, sB, sC]
 refine tk 5 wh6o_5 (.pointer (some ⟨xs, 1, none⟩)) rfl (by kernel_rfl) hH0 rfl (fun w0 hSw => ?_) ?_
 ·(unfold wh6o_5; clear hSw; go_simp)
 simp only [wh6o_5, Act.put, sA, sB, sC]
 refine tk 3 wh6o_3 (.pointer (some ⟨q, 0, none⟩)) rfl (by kernel_rfl) hH0 rfl (fun w0 hSw => ?_) ?_
 ·(unfold wh6o_3; have hS : w0.cell? ⟨xs, 0, none⟩ = some (.pointer (some ⟨q, 0, none⟩)) ∧ w0.cell? ⟨xs, 4, none⟩ = some (.func (.func 76) #[] #[.pointer (some ⟨b, 0, none⟩)]) := hSw; have a0 := hS.1; clear hS hSw; go_simp)
 simp only [wh6o_3, Act.put, sA, sB, sC]
 refine tk 6 wh6o_6 (.pointer (some ⟨xs, 4, none⟩)) rfl (by kernel_rfl) hH0 rfl (fun w0 hSw => ?_) ?_
 ·(unfold wh6o_6; clear hSw; go_simp)
 simp only [wh6o_6, Act.put, sA, sB, sC]
 refine tk 7 wh6o_7 (.func (.func 76) #[] #[.pointer (some ⟨b, 0, none⟩)]) rfl (by kernel_rfl) hH0 rfl (fun w0 hSw => ?_) ?_
 ·(unfold wh6o_7; have hS : w0.cell? ⟨xs, 0, none⟩ = some (.pointer (some ⟨q, 0, none⟩)) ∧ w0.cell? ⟨xs, 4, none⟩ = some (.func (.func 76) #[] #[.pointer (some ⟨b, 0, none⟩)]) := hSw; have a0 := hS.2; clear hS hSw; go_simp)
 simp only [wh6o_7, Act.put, sA, sB, sC]
 refine wpAnyH_ready (rs := [4]) (by kernel_rfl) (by simp) ?_
 refine AllReadyH.cons (o := wh6o_4) rfl (fun K hK => ?_) AllReadyH.nil
 unfold wh6o_4
 have HH := hidden hH0
 clear hH0
 go_simp
 refine (C4.out _ BB.out).mono ?_
 rintro e wn1 ⟨q2, v', rfl, hs, hq, hb⟩
 have SN := hidden (And.intro (cell_keep HH.out.1 hb) (cell_keep HH.out.2 hb))
 have F4 := hidden ((And.intro (hs.from SZ.out) (Nat.le_trans SZ.out hq)))
 replace BB := hidden (bl_trans BB.out hb)
 replace SZ := hidden (Nat.le_trans SZ.out hb.size)
 replace HD := hidden (HD.out.keepA hb)
 clear HH hs hq hb C4
 go_wp2_with fail
 refine hK.out _ _ SN.out (fun hH1 => ?_)
 clear hK K SN
 refine wpAnyH_ready (rs := [8]) (by kernel_rfl) (by simp) ?_
 refine AllReadyH.cons (o := wh6o_8) rfl (fun K hK => ?_) AllReadyH.nil
 unfold wh6o_8
 have HH := hidden hH1
 clear hH1
 go_simp
 refine (C8.out _ BB.out).mono ?_
 rintro e wn2 ⟨b', R', rfl, hle, hx, hr, hb⟩
 have SN := hidden (And.intro (cell_keep HH.out.1 hb) (cell_keep HH.out.2 hb))
 replace F4 := hidden (And.intro (F4.out.1.keep hb) F4.out.2)
 have F8 := hidden ((And.intro (Nat.le_trans SZ.out hle) (And.intro hx (hr.low SZ.out))))
 replace BB := hidden (bl_trans BB.out hb)
 replace HD := hidden (HD.out.keepA hb)
 clear HH hle hx hr hb C8 SZ
 go_wp2_with fail
 refine hK.out _ _ SN.out (fun hH2 => ?_)
 clear hK K SN
 refine tk 9 wh6o_9 (.pointer (some ⟨d, 0, none⟩)) rfl (by kernel_rfl) hH2 rfl (fun w0 hSw => ?_) ?_
 ·(unfold wh6o_9; clear hSw; go_simp)
 simp only [wh6o_9, Act.put, sA, sB, sC]
 refine tk 10 wh6o_10 (.pointer (some ⟨d, 0, none⟩)) rfl (by kernel_rfl) hH2 rfl (fun w0 hSw => ?_) ?_
 ·(unfold wh6o_10; clear hSw; go_simp)
 simp only [wh6o_10, Act.put, sA, sB, sC]
 refine wpAnyH_ready (rs := [11]) (by kernel_rfl) (by simp) ?_
 refine AllReadyH.cons (o := wh6o_11) rfl (fun K hK => ?_) AllReadyH.nil
 unfold wh6o_11
 have HH := hidden hH2
 clear hH2
 refine wp_storeP 25 _ _ rfl d 0 q2 (by rfl) (by rfl) (there_arr HD.out (by simp)) i1_sp rfl (fun wn3 hw => ?_)
 have SN := hidden (And.intro ((gb_setCells d [.pointer (some ⟨q2, 0, none⟩)] 0 _).cell HH.out.1 (fun e9 => nd.out (Option.some.inj e9).symm)) ((gb_setCells d [.pointer (some ⟨q2, 0, none⟩)] 0 _).cell HH.out.2 (fun e9 => nd.out (Option.some.inj e9).symm)))
 have FE := hidden ((⟨_, BB.out, F4.out.1, F4.out.2, F8.out.1, F8.out.2.1, F8.out.2.2, hw⟩ : Wh1 W _ m Kg Q0 vs R d q2 v' b' R'))
 replace HD := hidden (HD.out.st (q2 := q2))
 rw [← hw] at SN HD
 clear HH hw
 refine hK.out _ _ SN.out (fun hH3 => ?_)
 clear hK K SN
 refine tk 12 wh6o_12 (.pointer (some ⟨d, 0, none⟩)) rfl (by kernel_rfl) hH3 rfl (fun w0 hSw => ?_) ?_
 ·(unfold wh6o_12; clear hSw; go_simp)
 simp only [wh6o_12, Act.put, sA, sB, sC]
 refine tk 13 wh6o_13 (.pointer (some ⟨d, 1, none⟩)) rfl (by kernel_rfl) hH3 rfl (fun w0 hSw => ?_) ?_
 ·(unfold wh6o_13; clear hSw; go_simp)
 simp only [wh6o_13, Act.put, sA, sB, sC]
 refine wpAnyH_ready (rs := [14]) (by kernel_rfl) (by simp) ?_
 refine AllReadyH.cons (o := wh6o_14) rfl (fun K hK => ?_) AllReadyH.nil
 unfold wh6o_14
 have HH := hidden hH3
 clear hH3
 refine wp_storeE 31 _ _ rfl d 1 ([fn1 b', fn2 b', fn3 b', fn4 b']) (by rfl) (by rfl) (there_arr HD.out (by simp)) i4nu (by simp [Value.oneCell', fn1, fn2, fn3, fn4]) rfl (fun wn4 hw => ?_)
 have SN := hidden (And.intro ((gb_setCells d [fn1 b', fn2 b', fn3 b', fn4 b'] 1 _).cell HH.out.1 (fun e9 => nd.out (Option.some.inj e9).symm)) ((gb_setCells d [fn1 b', fn2 b', fn3 b', fn4 b'] 1 _).cell HH.out.2 (fun e9 => nd.out (Option.some.inj e9).symm)))
 have FF := hidden ((Wh1.two FE.out hw : WhP W _ m Kg Q0 vs R d q2 v' b' R'))
 rw [← hw] at SN
 clear HH hw
 refine hK.out _ _ SN.out (fun hH4 => ?_)
 clear hK K SN
 have HH := hidden hH4
 have FQ := hidden (HQ.out _ q2 v' b' R' FF.out)
 refine wpAnyH_done (by kernel_rfl) ?_ _
 refine NoPanic.normal ?_
 exact FQ.out
end Ci
end Go.Proofs.YtebmaneogekhjaaGreatDoor
