import Derived.Test.YtljmgfclhbadjaaGreatDoorTk
import Derived.Test.YtljmgfclhbadjaaGreatDoorDlz
namespace Go.Proofs.YtljmgfclhbadjaaGreatDoor
set_option maxRecDepth 100000
set_option maxHeartbeats 16000000
open Go.RowKit
set_option linter.unusedVariables false
set_option linter.unusedSimpArgs false
open Cm (Wr Tm co bf Ls lf ins Eqm)
namespace Ci
theorem wp_storeP {P : Program} {op : Oper} {a : Act} {w : World} {K : Act → World → Prop} {Q : Exit → Act → World → Prop} (ty : TypeId) (x y : Operand) (ho : op.op = .store ty x y) (b o q : Nat) (hx : a.eval x = .pointer (some ⟨b, o, none⟩)) (hy : a.eval y = .pointer (some ⟨q, 0, none⟩)) (ht : w.there b o 1) (hi : (P.info? ty).map (·.size) = some 1) (hd : op.dst = none)
  (h : ∀ w', w' = w.setCells b o [.pointer (some ⟨q, 0, none⟩)] → K a w') : op.wp P a w K Q := by
 have hr : (storeVar ty ⟨b, o, none⟩ (.pointer (some ⟨q, 0, none⟩))).run P w = .ok () (w.setCells b o [.pointer (some ⟨q, 0, none⟩)]) := run_storeVar_mid w b o ty #[.pointer (some ⟨q, 0, none⟩)] ht hi (by simp [Value.oneCell'])
 have := h _ rfl
 unfold Oper.wp execOp
 simp only [ho, hx, hy, Instr.storeAt, Instr.sureAddr, Sem.run_bind, Sem.run_pure, Result.andThen_ok, hr]
 have h2 : K (a.put op.dst undef) (w.setCells b o [.pointer (some ⟨q, 0, none⟩)]) := by rw [hd]; exact this
 exact h2
theorem i1_sp : (Tryz.prog.info? 37).map (·.size) = some 1 := by kernel_rfl
theorem there_arr {x : World} {b o n : Nat} {T : TypeId} {arr : Array Value} (h : x.heap[b]? = some (.cells arr T (0, 0))) (hs : o + n ≤ arr.size) : x.there b o n := fun j hj => by
 refine ⟨?_, frozen_of_row x b (o + j) _ _ h⟩
 rw [cell_of_row x b (o + j) _ _ (0, 0) h, Array.getElem?_eq_getElem (by omega)]
 rfl
def Hd9 (w : World) (d q b : Nat) : Prop := w.heap[d]? = some (.cells #[.pointer (some ⟨q, 0, none⟩), fn1 b, fn2 b, fn3 b, fn4 b, .int .i64 0] 111 (0, 0))
theorem Hd9.keepA {x y : World} {d q b : Nat} (h : Hd9 x d q b) (hb : Below x.heap.size x y) : Hd9 y d q b := (hb.block d (Array.getElem?_eq_some_iff.1 h).1).trans h
theorem Hd9.st {w : World} {d q b q2 : Nat} (h : Hd9 w d q b) : Hd9 (w.setCells d 0 [.pointer (some ⟨q2, 0, none⟩)]) d q2 b := heap_setCell_same w d 0 _ 111 (.pointer (some ⟨q2, 0, none⟩)) h
theorem Sy.from {base base' : Nat} {w : World} {s m Kg : Nat} {v : Value} {vs : List Value} {Q : List (List Tm)} (h : Sy base w s m Kg v vs Q) (hb : base' ≤ base) : Sy base' w s m Kg v vs Q := ⟨h.h, own_lower h.row hb, h.ls, Nat.le_trans hb h.bs, h.sm⟩
def ClP (m Kg : Nat) (Q : List (List Tm)) (vs : List Value) (x : World) (e : Ending) (w' : World) : Prop := ∃ q2 v', e = .returned (.pointer (some ⟨q2, 0, none⟩)) ∧ Sy x.heap.size w' q2 m Kg v' vs Q ∧ x.heap.size ≤ q2 ∧ Below x.heap.size x w'
def Wh1 (x wz : World) (m Kg : Nat) (Q : List (List Tm)) (vs : List Value) (R : Nat → Sl) (d q2 : Nat) (v' : Value) (b' : Nat) (R' : Nat → Sl) : Prop := ∃ w1, Below x.heap.size x w1 ∧ Sy x.heap.size w1 q2 m Kg v' vs Q ∧ x.heap.size ≤ q2 ∧ x.heap.size ≤ b' ∧ w1.heap[b']? = some (.cells (bxR R') 43 (0, 0)) ∧ Rc x.heap.size R R' w1 ∧ wz = w1.setCells d 0 [.pointer (some ⟨q2, 0, none⟩)]
def WhP (x wz : World) (m Kg : Nat) (Q : List (List Tm)) (vs : List Value) (R : Nat → Sl) (d q2 : Nat) (v' : Value) (b' : Nat) (R' : Nat → Sl) : Prop := ∃ w2, Wh1 x w2 m Kg Q vs R d q2 v' b' R' ∧ wz = w2.setCells d 1 [fn1 b', fn2 b', fn3 b', fn4 b']
theorem Wh1.two {x w2 wz : World} {m Kg : Nat} {Q : List (List Tm)} {vs : List Value} {R : Nat → Sl} {d q2 : Nat} {v' : Value} {b' : Nat} {R' : Nat → Sl} (h : Wh1 x w2 m Kg Q vs R d q2 v' b' R') (hw : wz = w2.setCells d 1 [fn1 b', fn2 b', fn3 b', fn4 b']) : WhP x wz m Kg Q vs R d q2 v' b' R' := ⟨w2, h, hw⟩
def wh6o_0 : Oper := oO 22 (Op.move (Operand.tmp 0)) 33 "piece.go:25" #[]
def wh6o_1 : Oper := oO 23 (Op.move (Operand.tmp 0)) 33 "piece.go:25" #[{ on := 11, ground := Ground.gcOnly Departure.lateStores }]
def wh6o_2 : Oper := oO 24 (Op.fieldAddr 111 (Operand.tmp 8) 0) 0 "piece.go:25" #[]
def wh6o_3 : Oper := oO 25 (Op.load 37 (Operand.tmp 24)) 37 "piece.go:25" #[DD 2]
def wh6o_4 : Oper := oO 26 (Op.call { callee := Callee.value (Operand.func 42), args := #[Operand.tmp 25], argTypes := #[37] }) 37 "piece.go:25" #[DD 3]
def wh6o_5 : Oper := oO 27 (Op.fieldAddr 111 (Operand.tmp 8) 1) 0 "piece.go:25" #[]
def wh6o_6 : Oper := oO 28 (Op.fieldAddr 109 (Operand.tmp 27) 3) 0 "piece.go:25" #[DD 5]
def wh6o_7 : Oper := oO 29 (Op.load 107 (Operand.tmp 28)) 107 "piece.go:25" #[DD 6]
def wh6o_8 : Oper := oO 30 (Op.call { callee := Callee.value (Operand.tmp 29), args := #[], argTypes := #[] }) 109 "piece.go:25" #[DD 7, CH 4]
def wh6o_9 : Oper := oO 31 (Op.nilCheck (Operand.tmp 22)) 0 "piece.go:25" #[DD 0, PH 0, { on := 1, ground := Ground.textOnly Departure.lateStores }, PH 2, PH 3, PH 4, { on := 5, ground := Ground.textOnly Departure.lateStores }, { on := 6, ground := Ground.textOnly Departure.lateStores }, { on := 7, ground := Ground.textOnly Departure.lateStores }, PH 8]
def wh6o_10 : Oper := oO 32 (Op.fieldAddr 111 (Operand.tmp 31) 0) 0 "piece.go:25" #[DD 9, PH 0, { on := 1, ground := Ground.textOnly Departure.lateStores }, PH 2, PH 3, PH 4, { on := 5, ground := Ground.textOnly Departure.lateStores }, { on := 6, ground := Ground.textOnly Departure.lateStores }, { on := 7, ground := Ground.textOnly Departure.lateStores }, PH 8]
def wh6o_11 : Oper := oN (Op.store 37 (Operand.tmp 32) (Operand.tmp 26)) "piece.go:25" #[DD 10, DD 4, CH 8, PH 0, { on := 1, ground := Ground.textOnly Departure.lateStores }, PH 2, PH 3, PH 4, { on := 5, ground := Ground.textOnly Departure.lateStores }, { on := 6, ground := Ground.textOnly Departure.lateStores }, { on := 7, ground := Ground.textOnly Departure.lateStores }, PH 8]
def wh6o_12 : Oper := oO 33 (Op.nilCheck (Operand.tmp 23)) 0 "piece.go:25" #[DD 1, PH 0, PH 1, PH 2, PH 3, PH 4, PH 5, PH 6, PH 7, PH 8, PH 9, PH 10, PH 11]
def wh6o_13 : Oper := oO 34 (Op.fieldAddr 111 (Operand.tmp 33) 1) 0 "piece.go:25" #[DD 12, PH 0, PH 1, PH 2, PH 3, PH 4, PH 5, PH 6, PH 7, PH 8, PH 9, PH 10, PH 11]
def wh6o_14 : Oper := oN (Op.store 109 (Operand.tmp 34) (Operand.tmp 30)) "piece.go:25" #[DD 13, DD 8, CH 11, PH 0, PH 1, PH 2, PH 3, PH 4, PH 5, PH 6, PH 7, PH 8, PH 9, PH 10, PH 11]
def wh6o : Array Oper := #[wh6o_0, wh6o_1, wh6o_2, wh6o_3, wh6o_4, wh6o_5, wh6o_6, wh6o_7, wh6o_8, wh6o_9, wh6o_10, wh6o_11, wh6o_12, wh6o_13, wh6o_14]
theorem wh6 (Q : Exit → Act → World → Prop) (d q b xs m Kg : Nat) (Q0 : List (List Tm)) (vs : List Value) (R : Nat → Sl) (u1 u2 u3 u4 u5 u6 u7 u9 aa ab ad ae af ag ah ai aj ak al am an ao ap aq au av aw ax ay az aA aB aC aD aE aF aG aH aI aJ aK aL aM aN aO aP aQ : Value) (W : World)
  (q0 : W.cell? ⟨xs, 0, none⟩ = some (.pointer (some ⟨q, 0, none⟩))) (q4 : W.cell? ⟨xs, 4, none⟩ = some (.func (.func 143) #[] #[.pointer (some ⟨b, 0, none⟩)])) (nd : Hid (d ≠ xs)) (hd0 : Hd9 W d q b)
  (C4 : Hid (∀ y, Below W.heap.size W y → Calls Tryz.prog 42 #[.pointer (some ⟨q, 0, none⟩)] y fun e w' => ClP m Kg Q0 vs y e w'))
  (C8 : Hid (∀ y, Below W.heap.size W y → Calls Tryz.prog 143 #[.pointer (some ⟨b, 0, none⟩)] y fun e w' => K4P R y e w'))
  (HQ : Hid (∀ (wz : World) (q2 : Nat) (v' : Value) (b' : Nat) (R' : Nat → Sl), WhP W wz m Kg Q0 vs R d q2 v' b' R' → Q .normal ⟨#[.pointer (some ⟨d, 0, none⟩), u1, u2, u3, u4, u5, u6, u7, .pointer (some ⟨xs, 0, none⟩), u9, aa, ab, ad, ae, af, ag, ah, ai, aj, ak, al, am, .pointer (some ⟨d, 0, none⟩), .pointer (some ⟨d, 0, none⟩), .pointer (some ⟨xs, 0, none⟩), .pointer (some ⟨q, 0, none⟩), .pointer (some ⟨q2, 0, none⟩), .pointer (some ⟨xs, 1, none⟩), .pointer (some ⟨xs, 4, none⟩), .func (.func 143) #[] #[.pointer (some ⟨b, 0, none⟩)], (fnA b'), .pointer (some ⟨d, 0, none⟩), .pointer (some ⟨d, 0, none⟩), .pointer (some ⟨d, 0, none⟩), .pointer (some ⟨d, 1, none⟩), aD, aE, aF, aG, aH, aI, aJ, aK, aL, aM, aN, aO, aP, aQ], []⟩ wz)) : (Code.region 6 wh6o true).wp Tryz.prog Q ⟨#[.pointer (some ⟨d, 0, none⟩), u1, u2, u3, u4, u5, u6, u7, .pointer (some ⟨xs, 0, none⟩), u9, aa, ab, ad, ae, af, ag, ah, ai, aj, ak, al, am, an, ao, ap, aq, au, av, aw, ax, ay, az, aA, aB, aC, aD, aE, aF, aG, aH, aI, aJ, aK, aL, aM, aN, aO, aP, aQ], []⟩ W := by
 have BB := Hn (bl_drew W)
 have SZ := Hn (Nat.le_refl W.heap.size)
 have HD := Hn (hd0.keepA (bl_drew W))
 clear hd0
 unfold wh6o
 refine wp_region_noPanic ?_
 refine wp_region_held_drew (S := fun x => x.cell? ⟨xs, 0, none⟩ = some (.pointer (some ⟨q, 0, none⟩)) ∧ x.cell? ⟨xs, 4, none⟩ = some (.func (.func 143) #[] #[.pointer (some ⟨b, 0, none⟩)])) (by kernel_rfl) (⟨cell_keep q0 (bl_drew W), cell_keep q4 (bl_drew W)⟩) (fun hH0 => ?_)
 refine tj 0 wh6o_0 (.pointer (some ⟨d, 0, none⟩)) hH0 (fun w0 hSw => ?_) ?_
 ·(unfold wh6o_0 oO; clear hSw; go_simp)
 simp only [wh6o_0, oO, Act.put, sA, sB, sC]
 refine tj 1 wh6o_1 (.pointer (some ⟨d, 0, none⟩)) hH0 (fun w0 hSw => ?_) ?_
 ·(unfold wh6o_1 oO; clear hSw; go_simp)
 simp only [wh6o_1, oO, Act.put, sA, sB, sC]
 refine tj 2 wh6o_2 (.pointer (some ⟨xs, 0, none⟩)) hH0 (fun w0 hSw => ?_) ?_
 ·(unfold wh6o_2 oO; clear hSw; go_simp)
 simp only [wh6o_2, oO, Act.put, sA, sB, sC]
 refine tj 5 wh6o_5 (.pointer (some ⟨xs, 1, none⟩)) hH0 (fun w0 hSw => ?_) ?_
 ·(unfold wh6o_5 oO; clear hSw; go_simp)
 simp only [wh6o_5, oO, Act.put, sA, sB, sC]
 refine tj 3 wh6o_3 (.pointer (some ⟨q, 0, none⟩)) hH0 (fun w0 hSw => ?_) ?_
 ·(unfold wh6o_3 oO; have hS : w0.cell? ⟨xs, 0, none⟩ = some (.pointer (some ⟨q, 0, none⟩)) ∧ w0.cell? ⟨xs, 4, none⟩ = some (.func (.func 143) #[] #[.pointer (some ⟨b, 0, none⟩)]) := hSw; have a0 := hS.1; clear hS hSw; go_simp)
 simp only [wh6o_3, oO, Act.put, sA, sB, sC]
 refine tj 6 wh6o_6 (.pointer (some ⟨xs, 4, none⟩)) hH0 (fun w0 hSw => ?_) ?_
 ·(unfold wh6o_6 oO; clear hSw; go_simp)
 simp only [wh6o_6, oO, Act.put, sA, sB, sC]
 refine tj 7 wh6o_7 (.func (.func 143) #[] #[.pointer (some ⟨b, 0, none⟩)]) hH0 (fun w0 hSw => ?_) ?_
 ·(unfold wh6o_7 oO; have hS : w0.cell? ⟨xs, 0, none⟩ = some (.pointer (some ⟨q, 0, none⟩)) ∧ w0.cell? ⟨xs, 4, none⟩ = some (.func (.func 143) #[] #[.pointer (some ⟨b, 0, none⟩)]) := hSw; have a0 := hS.2; clear hS hSw; go_simp)
 simp only [wh6o_7, oO, Act.put, sA, sB, sC]
 refine ar [4] ?_
 refine ac wh6o_4 (fun K hK => ?_) AllReadyH.nil
 unfold wh6o_4 oO
 have HH := Hn hH0
 clear hH0
 go_simp
 refine (C4.out _ BB.out).mono ?_
 rintro e wn1 ⟨q2, v', rfl, hs, hq, hb⟩
 have SN := Hn (And.intro (cell_keep HH.out.1 hb) (cell_keep HH.out.2 hb))
 have F4 := Hn ((And.intro (hs.from SZ.out) (Nat.le_trans SZ.out hq)))
 replace BB := Hn (bl_trans BB.out hb)
 replace SZ := Hn (Nat.le_trans SZ.out hb.size)
 replace HD := Hn (HD.out.keepA hb)
 clear HH hs hq hb C4
 go_wp2_with fail
 refine hK.out _ _ SN.out (fun hH1 => ?_)
 clear hK K SN
 refine ar [8] ?_
 refine ac wh6o_8 (fun K hK => ?_) AllReadyH.nil
 unfold wh6o_8 oO
 have HH := Hn hH1
 clear hH1
 go_simp
 refine (C8.out _ BB.out).mono ?_
 rintro e wn2 ⟨b', R', rfl, hle, hx, hr, hb⟩
 have SN := Hn (And.intro (cell_keep HH.out.1 hb) (cell_keep HH.out.2 hb))
 replace F4 := Hn (And.intro (F4.out.1.keep hb) F4.out.2)
 have F8 := Hn ((And.intro (Nat.le_trans SZ.out hle) (And.intro hx (hr.low SZ.out))))
 replace BB := Hn (bl_trans BB.out hb)
 replace HD := Hn (HD.out.keepA hb)
 clear HH hle hx hr hb C8 SZ
 go_wp2_with fail
 refine hK.out _ _ SN.out (fun hH2 => ?_)
 clear hK K SN
 refine tj 9 wh6o_9 (.pointer (some ⟨d, 0, none⟩)) hH2 (fun w0 hSw => ?_) ?_
 ·(unfold wh6o_9 oO; clear hSw; go_simp)
 simp only [wh6o_9, oO, Act.put, sA, sB, sC]
 refine tj 10 wh6o_10 (.pointer (some ⟨d, 0, none⟩)) hH2 (fun w0 hSw => ?_) ?_
 ·(unfold wh6o_10 oO; clear hSw; go_simp)
 simp only [wh6o_10, oO, Act.put, sA, sB, sC]
 refine ar [11] ?_
 refine ac wh6o_11 (fun K hK => ?_) AllReadyH.nil
 unfold wh6o_11 oN
 have HH := Hn hH2
 clear hH2
 refine wp_storeP 37 _ _ rfl d 0 q2 (by rfl) (by rfl) (there_arr HD.out (by simp)) i1_sp rfl (fun wn3 hw => ?_)
 have SN := Hn (And.intro ((gb_setCells d [.pointer (some ⟨q2, 0, none⟩)] 0 _).cell HH.out.1 (fun e9 => nd.out (Option.some.inj e9).symm)) ((gb_setCells d [.pointer (some ⟨q2, 0, none⟩)] 0 _).cell HH.out.2 (fun e9 => nd.out (Option.some.inj e9).symm)))
 have FE := Hn ((⟨_, BB.out, F4.out.1, F4.out.2, F8.out.1, F8.out.2.1, F8.out.2.2, hw⟩ : Wh1 W _ m Kg Q0 vs R d q2 v' b' R'))
 replace HD := Hn (HD.out.st (q2 := q2))
 rw [← hw] at SN HD
 clear HH hw
 refine hK.out _ _ SN.out (fun hH3 => ?_)
 clear hK K SN
 refine tj 12 wh6o_12 (.pointer (some ⟨d, 0, none⟩)) hH3 (fun w0 hSw => ?_) ?_
 ·(unfold wh6o_12 oO; clear hSw; go_simp)
 simp only [wh6o_12, oO, Act.put, sA, sB, sC]
 refine tj 13 wh6o_13 (.pointer (some ⟨d, 1, none⟩)) hH3 (fun w0 hSw => ?_) ?_
 ·(unfold wh6o_13 oO; clear hSw; go_simp)
 simp only [wh6o_13, oO, Act.put, sA, sB, sC]
 refine ar [14] ?_
 refine ac wh6o_14 (fun K hK => ?_) AllReadyH.nil
 unfold wh6o_14 oN
 have HH := Hn hH3
 clear hH3
 refine wp_storeE 109 _ _ rfl d 1 ([fn1 b', fn2 b', fn3 b', fn4 b']) (by rfl) (by rfl) (there_arr HD.out (by simp)) i4nu (by simp [Value.oneCell', fn1, fn2, fn3, fn4]) rfl (fun wn4 hw => ?_)
 have SN := Hn (And.intro ((gb_setCells d [fn1 b', fn2 b', fn3 b', fn4 b'] 1 _).cell HH.out.1 (fun e9 => nd.out (Option.some.inj e9).symm)) ((gb_setCells d [fn1 b', fn2 b', fn3 b', fn4 b'] 1 _).cell HH.out.2 (fun e9 => nd.out (Option.some.inj e9).symm)))
 have FF := Hn ((Wh1.two FE.out hw : WhP W _ m Kg Q0 vs R d q2 v' b' R'))
 rw [← hw] at SN
 clear HH hw
 refine hK.out _ _ SN.out (fun hH4 => ?_)
 clear hK K SN
 have HH := Hn hH4
 have FQ := Hn (HQ.out _ q2 v' b' R' FF.out)
 refine wpAnyH_done (by kernel_rfl) ?_ _
 refine NoPanic.normal ?_
 exact FQ.out
end Ci
end Go.Proofs.YtljmgfclhbadjaaGreatDoor
