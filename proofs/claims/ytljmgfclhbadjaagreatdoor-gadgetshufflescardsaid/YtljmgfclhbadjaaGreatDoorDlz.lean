import Derived.Test.YtljmgfclhbadjaaGreatDoorTk
import Derived.Test.YtljmgfclhbadjaaGreatDoorDhz
namespace Go.Proofs.YtljmgfclhbadjaaGreatDoor
set_option maxRecDepth 100000
set_option maxHeartbeats 16000000
open Go.RowKit
set_option linter.unusedVariables false
set_option linter.unusedSimpArgs false
open Cm (Wr Tm co bf Ls lf ins Eqm)
namespace Ci
theorem SpP.from {S : Nat → Prop} {d m q b n : Nat} {p : Pz} {x y w' : World} {e : Ending} (hb : Below x.heap.size x y) (h : SpP S d m p q b n y e w') : SpP S d m p q b n x e w' := by
 obtain ⟨S', v, xs, h1, h2, h3, h4, h5, h6, h7⟩ := h
 exact ⟨S', v, xs, h1, h2, (Gs.bl hb).trans h3 Sk.refl, Sk.trans Sk.refl h4 hb.size, own_monoT h5 hb.size, h6, h7⟩
def LvS (X : List Tm) (x : World) (e : Ending) (w' : World) : Prop := ∃ P c, e = .returned (.slice P X.length c) ∧ Lq x X (.slice P X.length c) w'
theorem LvP.s {X : List Tm} {x w' : World} {e : Ending} (h : LvP X x e w') : LvS X x e w' := by
 obtain ⟨v, rfl, hl⟩ := h
 obtain ⟨P, c, rfl, -⟩ := own_shT hl.1
 exact ⟨P, c, rfl, hl⟩
theorem build3L (P0 P1 P2 : Option Addr) (n0 c0 n1 c1 n2 c2 : Nat) (w : World) : (Instr.buildSlice 48 3 #[(0, .slice P0 n0 c0), (1, .slice P1 n1 c1), (2, .slice P2 n2 c2)]).run Tryz.prog w = .ok (.slice (some ⟨w.heap.size, 0, none⟩) 3 3) (w.alloc (.cells #[.slice P0 n0 c0, .slice P1 n1 c1, .slice P2 n2 c2] 50)) := by kernel_rfl
theorem wp_bs3 {w : World} {o : Oper} {a : Act} {K : Act → World → Prop} {Q : Exit → Act → World → Prop} (x0 x1 x2 : Operand) (ho : o.op = .buildSlice 48 3 #[(0, x0), (1, x1), (2, x2)]) (P0 : Option Addr) (n0 c0 : Nat) (P1 : Option Addr) (n1 c1 : Nat) (P2 : Option Addr) (n2 c2 : Nat) (h0 : a.eval x0 = .slice P0 n0 c0) (h1 : a.eval x1 = .slice P1 n1 c1) (h2 : a.eval x2 = .slice P2 n2 c2) (h : ∀ (tb : Nat) (wq : World), tb = w.heap.size → Below w.heap.size w wq → wq.rangeAt tb 0 [.slice P0 n0 c0, .slice P1 n1 c1, .slice P2 n2 c2] → K (a.put o.dst (.slice (some ⟨tb, 0, none⟩) 3 3)) wq) : o.wp Tryz.prog a w K Q := by
 have hr := build3L P0 P1 P2 n0 c0 n1 c1 n2 c2 w
 have hk := h w.heap.size _ rfl (bl_alloc w (.cells #[.slice P0 n0 c0, .slice P1 n1 c1, .slice P2 n2 c2] 50)) (range_newM w [.slice P0 n0 c0, .slice P1 n1 c1, .slice P2 n2 c2] 50)
 unfold Oper.wp execOp
 simp only [ho, Sem.run_bind, Sem.run_pure, Result.andThen_ok, List.map_toArray, List.map_cons, List.map_nil, h0, h1, h2, hr]
 exact hk
def ls1o_0 : Oper := oO 6 (Op.move (Operand.tmp 0)) 48 "bits.go:79" #[]
def ls1o_1 : Oper := oO 7 (Op.indexAddr 48 (Operand.tmp 6) (Operand.const (Value.int IntKind.i64 0))) 0 "bits.go:79" #[DD 0]
def ls1o_2 : Oper := oO 8 (Op.load 50 (Operand.tmp 7)) 50 "bits.go:79" #[DD 1]
def ls1o_3 : Oper := oO 9 (Op.move (Operand.tmp 0)) 48 "bits.go:79" #[{ on := 6, ground := Ground.gcOnly Departure.lateStores }]
def ls1o_4 : Oper := oO 10 (Op.indexAddr 48 (Operand.tmp 9) (Operand.const (Value.int IntKind.i64 1))) 0 "bits.go:79" #[DD 3, { on := 6, ground := Ground.gcOnly Departure.lateStores }]
def ls1o_5 : Oper := oO 11 (Op.load 50 (Operand.tmp 10)) 50 "bits.go:79" #[DD 4, { on := 6, ground := Ground.gcOnly Departure.lateStores }]
def ls1o_6 : Oper := oO 4 (Op.assign (Operand.tmp 8)) 50 "bits.go:79" #[DD 2, PH 0, PH 1, PH 2, { on := 3, ground := Ground.textOnly Departure.lateStores }, { on := 4, ground := Ground.textOnly Departure.lateStores }, { on := 5, ground := Ground.textOnly Departure.lateStores }]
def ls1o_7 : Oper := oO 5 (Op.assign (Operand.tmp 11)) 50 "bits.go:79" #[DD 5, CH 6, PH 0, PH 1, PH 2, PH 3, PH 4, PH 5, PH 6]
def ls1o : Array Oper := #[ls1o_0, ls1o_1, ls1o_2, ls1o_3, ls1o_4, ls1o_5, ls1o_6, ls1o_7]
theorem ls1 (Q : Exit → Act → World → Prop) (lb n0 c0 n1 c1 : Nat) (P0 P1 : Option Addr) (u1 u2 u3 u4 u5 u6 u7 u8 u9 aa ab ad ae af ag ah ai aj ak al am : Value) (W : World)
  (q0 : W.cell? ⟨lb, 0, none⟩ = some (.slice P0 n0 c0)) (q1 : W.cell? ⟨lb, 1, none⟩ = some (.slice P1 n1 c1))
  (HQ : Hid (∀ (wz : World), wz = W.drew → Q .normal ⟨#[.slice (some ⟨lb, 0, none⟩) 2 2, u1, u2, u3, .slice P0 n0 c0, .slice P1 n1 c1, .slice (some ⟨lb, 0, none⟩) 2 2, .pointer (some ⟨lb, 0, none⟩), .slice P0 n0 c0, .slice (some ⟨lb, 0, none⟩) 2 2, .pointer (some ⟨lb, 1, none⟩), .slice P1 n1 c1, ad, ae, af, ag, ah, ai, aj, ak, al, am], []⟩ wz)) : (Code.region 1 ls1o true).wp Tryz.prog Q ⟨#[.slice (some ⟨lb, 0, none⟩) 2 2, u1, u2, u3, u4, u5, u6, u7, u8, u9, aa, ab, ad, ae, af, ag, ah, ai, aj, ak, al, am], []⟩ W := by
 unfold ls1o
 refine wp_region_noPanic ?_
 refine wp_region_held_drew (S := fun x => x.cell? ⟨lb, 0, none⟩ = some (.slice P0 n0 c0) ∧ x.cell? ⟨lb, 1, none⟩ = some (.slice P1 n1 c1)) (by kernel_rfl) (⟨cell_keep q0 (bl_drew W), cell_keep q1 (bl_drew W)⟩) (fun hH0 => ?_)
 refine tj 0 ls1o_0 (.slice (some ⟨lb, 0, none⟩) 2 2) hH0 (fun w0 hSw => ?_) ?_
 ·(unfold ls1o_0 oO; clear hSw; go_simp)
 simp only [ls1o_0, oO, Act.put, sA, sB, sC]
 refine tj 3 ls1o_3 (.slice (some ⟨lb, 0, none⟩) 2 2) hH0 (fun w0 hSw => ?_) ?_
 ·(unfold ls1o_3 oO; clear hSw; go_simp)
 simp only [ls1o_3, oO, Act.put, sA, sB, sC]
 refine tj 1 ls1o_1 (.pointer (some ⟨lb, 0, none⟩)) hH0 (fun w0 hSw => ?_) ?_
 ·(unfold ls1o_1 oO; clear hSw; go_simp)
 simp only [ls1o_1, oO, Act.put, sA, sB, sC]
 refine tj 4 ls1o_4 (.pointer (some ⟨lb, 1, none⟩)) hH0 (fun w0 hSw => ?_) ?_
 ·(unfold ls1o_4 oO; clear hSw; go_simp)
 simp only [ls1o_4, oO, Act.put, sA, sB, sC]
 refine tj 2 ls1o_2 (.slice P0 n0 c0) hH0 (fun w0 hSw => ?_) ?_
 ·(unfold ls1o_2 oO; have hS : w0.cell? ⟨lb, 0, none⟩ = some (.slice P0 n0 c0) ∧ w0.cell? ⟨lb, 1, none⟩ = some (.slice P1 n1 c1) := hSw; have a0 := hS.1; clear hS hSw; go_simp)
 simp only [ls1o_2, oO, Act.put, sA, sB, sC]
 refine tj 5 ls1o_5 (.slice P1 n1 c1) hH0 (fun w0 hSw => ?_) ?_
 ·(unfold ls1o_5 oO; have hS : w0.cell? ⟨lb, 0, none⟩ = some (.slice P0 n0 c0) ∧ w0.cell? ⟨lb, 1, none⟩ = some (.slice P1 n1 c1) := hSw; have a0 := hS.2; clear hS hSw; go_simp)
 simp only [ls1o_5, oO, Act.put, sA, sB, sC]
 refine tj 6 ls1o_6 (.slice P0 n0 c0) hH0 (fun w0 hSw => ?_) ?_
 ·(unfold ls1o_6 oO; clear hSw; go_simp)
 simp only [ls1o_6, oO, Act.put, sA, sB, sC]
 refine tj 7 ls1o_7 (.slice P1 n1 c1) hH0 (fun w0 hSw => ?_) ?_
 ·(unfold ls1o_7 oO; clear hSw; go_simp)
 simp only [ls1o_7, oO, Act.put, sA, sB, sC]
 have HH := Hn hH0
 have FQ := Hn (HQ.out _ rfl)
 refine wpAnyH_done (by kernel_rfl) ?_ _
 refine NoPanic.normal ?_
 exact FQ.out
def ls2o_0 : Oper := oO 12 (Op.load 168 (Operand.tmp 1)) 168 "bits.go:80" #[]
def ls2o_1 : Oper := oO 13 (Op.move (Operand.tmp 4)) 50 "bits.go:80" #[]
def ls2o_2 : Oper := oO 14 (Op.move (Operand.tmp 5)) 50 "bits.go:80" #[]
def ls2o_3 : Oper := oO 15 (Op.move (Operand.tmp 5)) 50 "bits.go:80" #[]
def ls2o_4 : Oper := oO 16 (Op.move (Operand.tmp 4)) 50 "bits.go:80" #[]
def ls2o_5 : Oper := oO 17 (Op.call { callee := Callee.value (Operand.func 148), args := #[Operand.tmp 15, Operand.tmp 16], argTypes := #[50, 50] }) 50 "bits.go:80" #[DD 3, DD 4]
def ls2o_6 : Oper := oO 18 (Op.call { callee := Callee.value (Operand.func 149), args := #[], argTypes := #[] }) 50 "bits.go:80" #[CH 5]
def ls2o_7 : Oper := oO 19 (Op.call { callee := Callee.value (Operand.func 148), args := #[Operand.tmp 17, Operand.tmp 18], argTypes := #[50, 50] }) 50 "bits.go:80" #[DD 5, DD 6, CH 6]
def ls2o_8 : Oper := oO 20 (Op.buildSlice 48 3 #[(0, Operand.tmp 13), (1, Operand.tmp 14), (2, Operand.tmp 19)]) 48 "bits.go:80" #[DD 1, DD 2, DD 7]
def ls2o_9 : Oper := oO 21 (Op.call { callee := Callee.value (Operand.tmp 12), args := #[Operand.tmp 20], argTypes := #[48] }) 48 "bits.go:80" #[DD 0, DD 8, CH 7]
def ls2o_10 : Oper := oO 3 (Op.assign (Operand.tmp 21)) 48 "bits.go:80" #[DD 9, CH 9, PH 0, PH 1, PH 2, PH 3, PH 4, PH 5, PH 6, PH 7, PH 8, PH 9]
def ls2o : Array Oper := #[ls2o_0, ls2o_1, ls2o_2, ls2o_3, ls2o_4, ls2o_5, ls2o_6, ls2o_7, ls2o_8, ls2o_9, ls2o_10]
theorem ls2 (Q : Exit → Act → World → Prop) (S : Nat → Prop) (d m q b bx bd bn N n0 c0 n1 c1 : Nat) (P0 P1 : Option Addr) (p2 : Pz) (X5 X7 : List Tm) (u0 u2 u3 u6 u7 u8 u9 aa ab ad ae af ag ah ai aj ak al am : Value) (W : World)
  (q0 : W.cell? ⟨bx, 0, none⟩ = some (.func (.func 212) #[] #[.pointer (some ⟨bd, 0, none⟩), .pointer (some ⟨bn, 0, none⟩)])) (nb : Hid (¬ S bx))
  (C5 : Hid (∀ y, Below W.heap.size W y → Calls Tryz.prog 148 #[.slice P1 n1 c1, .slice P0 n0 c0] y fun e w' => LvS X5 y e w'))
  (C6 : Hid (∀ y, Below W.heap.size W y → Calls Tryz.prog 149 #[] y fun e w' => LvS unX y e w'))
  (C7 : Hid (∀ y P5 c5 P6 c6, Below W.heap.size W y → Zn W.heap.size y (.slice P5 X5.length c5) X5 → Zn W.heap.size y (.slice P6 unX.length c6) unX → Calls Tryz.prog 148 #[.slice P5 X5.length c5, .slice P6 unX.length c6] y fun e w' => LvS X7 y e w'))
  (C9 : Hid (∀ y tb P7 c7, Below W.heap.size W y → W.heap.size ≤ tb → y.rangeAt tb 0 [.slice P0 n0 c0, .slice P1 n1 c1, .slice P7 X7.length c7] → Zn W.heap.size y (.slice P7 X7.length c7) X7 → Calls Tryz.prog 212 #[.slice (some ⟨tb, 0, none⟩) 3 3, .pointer (some ⟨bd, 0, none⟩), .pointer (some ⟨bn, 0, none⟩)] y fun e w' => SpP S d m p2 q b N y e w'))
  (HQ : Hid (∀ (wz : World) (v9 : Value) (P5 P6 P7 : Option Addr) (c5 c6 c7 tb : Nat), SpP S d m p2 q b N W (.returned v9) wz → Q .normal ⟨#[u0, .pointer (some ⟨bx, 0, none⟩), u2, v9, .slice P0 n0 c0, .slice P1 n1 c1, u6, u7, u8, u9, aa, ab, .func (.func 212) #[] #[.pointer (some ⟨bd, 0, none⟩), .pointer (some ⟨bn, 0, none⟩)], .slice P0 n0 c0, .slice P1 n1 c1, .slice P1 n1 c1, .slice P0 n0 c0, .slice P5 X5.length c5, .slice P6 unX.length c6, .slice P7 X7.length c7, .slice (some ⟨tb, 0, none⟩) 3 3, v9], []⟩ wz)) : (Code.region 2 ls2o true).wp Tryz.prog Q ⟨#[u0, .pointer (some ⟨bx, 0, none⟩), u2, u3, .slice P0 n0 c0, .slice P1 n1 c1, u6, u7, u8, u9, aa, ab, ad, ae, af, ag, ah, ai, aj, ak, al, am], []⟩ W := by
 have BB := Hn (bl_drew W)
 have SZ := Hn (Nat.le_refl W.heap.size)
 unfold ls2o
 refine wp_region_noPanic ?_
 refine wp_region_held_drew (S := fun x => x.cell? ⟨bx, 0, none⟩ = some (.func (.func 212) #[] #[.pointer (some ⟨bd, 0, none⟩), .pointer (some ⟨bn, 0, none⟩)])) (by kernel_rfl) (cell_keep q0 (bl_drew W)) (fun hH0 => ?_)
 refine tj 0 ls2o_0 (.func (.func 212) #[] #[.pointer (some ⟨bd, 0, none⟩), .pointer (some ⟨bn, 0, none⟩)]) hH0 (fun w0 hSw => ?_) ?_
 ·(unfold ls2o_0 oO; have hS : w0.cell? ⟨bx, 0, none⟩ = some (.func (.func 212) #[] #[.pointer (some ⟨bd, 0, none⟩), .pointer (some ⟨bn, 0, none⟩)]) := hSw; have a0 := hSw; clear hS hSw; go_simp)
 simp only [ls2o_0, oO, Act.put, sA, sB, sC]
 refine tj 1 ls2o_1 (.slice P0 n0 c0) hH0 (fun w0 hSw => ?_) ?_
 ·(unfold ls2o_1 oO; clear hSw; go_simp)
 simp only [ls2o_1, oO, Act.put, sA, sB, sC]
 refine tj 2 ls2o_2 (.slice P1 n1 c1) hH0 (fun w0 hSw => ?_) ?_
 ·(unfold ls2o_2 oO; clear hSw; go_simp)
 simp only [ls2o_2, oO, Act.put, sA, sB, sC]
 refine tj 3 ls2o_3 (.slice P1 n1 c1) hH0 (fun w0 hSw => ?_) ?_
 ·(unfold ls2o_3 oO; clear hSw; go_simp)
 simp only [ls2o_3, oO, Act.put, sA, sB, sC]
 refine tj 4 ls2o_4 (.slice P0 n0 c0) hH0 (fun w0 hSw => ?_) ?_
 ·(unfold ls2o_4 oO; clear hSw; go_simp)
 simp only [ls2o_4, oO, Act.put, sA, sB, sC]
 refine ar [5] ?_
 refine ac ls2o_5 (fun K hK => ?_) AllReadyH.nil
 unfold ls2o_5 oO
 have HH := Hn hH0
 clear hH0
 go_simp
 refine (C5.out _ BB.out).mono ?_
 rintro e wn1 ⟨P5, c5, rfl, hl⟩
 have SN := Hn (cell_keep HH.out hl.2.1)
 replace BB := Hn (bl_trans BB.out hl.2.1)
 have F5 := Hn ((Zn.of hl SZ.out : Zn W.heap.size _ _ X5))
 replace SZ := Hn (Nat.le_trans SZ.out hl.2.1.size)
 clear HH hl C5
 go_wp2_with fail
 refine hK.out _ _ SN.out (fun hH1 => ?_)
 clear hK K SN
 refine ar [6] ?_
 refine ac ls2o_6 (fun K hK => ?_) AllReadyH.nil
 unfold ls2o_6 oO
 have HH := Hn hH1
 clear hH1
 go_simp
 refine (C6.out _ BB.out).mono ?_
 rintro e wn2 ⟨P6, c6, rfl, hl⟩
 have SN := Hn (cell_keep HH.out hl.2.1)
 replace BB := Hn (bl_trans BB.out hl.2.1)
 replace F5 := Hn (F5.out.keep hl.2.1)
 have F6 := Hn ((Zn.of hl SZ.out : Zn W.heap.size _ _ unX))
 replace SZ := Hn (Nat.le_trans SZ.out hl.2.1.size)
 clear HH hl C6
 go_wp2_with fail
 refine hK.out _ _ SN.out (fun hH2 => ?_)
 clear hK K SN
 refine ar [7] ?_
 refine ac ls2o_7 (fun K hK => ?_) AllReadyH.nil
 unfold ls2o_7 oO
 have HH := Hn hH2
 clear hH2
 go_simp
 refine (C7.out _ P5 c5 P6 c6 BB.out F5.out F6.out).mono ?_
 rintro e wn3 ⟨P7, c7, rfl, hl⟩
 have SN := Hn (cell_keep HH.out hl.2.1)
 replace BB := Hn (bl_trans BB.out hl.2.1)
 have F7 := Hn ((Zn.of hl SZ.out : Zn W.heap.size _ _ X7))
 replace SZ := Hn (Nat.le_trans SZ.out hl.2.1.size)
 clear HH hl C7 F5 F6
 go_wp2_with fail
 refine hK.out _ _ SN.out (fun hH3 => ?_)
 clear hK K SN
 refine ar [8] ?_
 refine ac ls2o_8 (fun K hK => ?_) AllReadyH.nil
 unfold ls2o_8 oO
 have HH := Hn hH3
 clear hH3
 refine wp_bs3 _ _ _ rfl P0 n0 c0 P1 n1 c1 P7 X7.length c7 rfl rfl rfl (fun tb wn4 htb hbb hrg => ?_)
 have SN := Hn (cell_keep HH.out hbb)
 replace BB := Hn (bl_trans BB.out hbb)
 replace F7 := Hn (F7.out.keep hbb)
 have TB := Hn (And.intro (show W.heap.size ≤ tb by rw [htb]; exact SZ.out) hrg)
 replace SZ := Hn (Nat.le_trans SZ.out hbb.size)
 clear HH htb hbb hrg
 simp only [Act.put, sA, sB, sC]
 refine hK.out _ _ SN.out (fun hH4 => ?_)
 clear hK K SN
 refine ar [9] ?_
 refine ac ls2o_9 (fun K hK => ?_) AllReadyH.nil
 unfold ls2o_9 oO
 have HH := Hn hH4
 clear hH4
 go_simp
 refine (C9.out _ tb P7 c7 BB.out TB.out.1 TB.out.2 F7.out).mono ?_
 rintro e wn5 ⟨S9, v9, xs9, rfl, d9, g9, k9, o9, l9, n9⟩
 have SN := Hn (g9.cell HH.out nb.out)
 have FE := Hn ((SpP.from BB.out ⟨S9, v9, xs9, rfl, d9, g9, k9, o9, l9, n9⟩ : SpP S d m p2 q b N W (.returned v9) _))
 clear HH d9 g9 k9 o9 l9 n9 C9
 go_wp2_with fail
 refine hK.out _ _ SN.out (fun hH5 => ?_)
 clear hK K SN
 refine tj 10 ls2o_10 (v9) hH5 (fun w0 hSw => ?_) ?_
 ·(unfold ls2o_10 oO; clear hSw; go_simp)
 simp only [ls2o_10, oO, Act.put, sA, sB, sC]
 have HH := Hn hH5
 have FQ := Hn (HQ.out _ v9 P5 P6 P7 c5 c6 c7 tb FE.out)
 refine wpAnyH_done (by kernel_rfl) ?_ _
 refine NoPanic.normal ?_
 exact FQ.out
end Ci
end Go.Proofs.YtljmgfclhbadjaaGreatDoor
namespace Go.Proofs.YtljmgfclhbadjaaGreatDoor
open Go.RowKit
set_option linter.unusedVariables false
set_option linter.unusedSimpArgs false
open Cm (Wr Tm co bf Ls lf ins Eqm)
namespace Ci
set_option maxRecDepth 100000
set_option maxHeartbeats 16000000
def lsX (X Y : List Tm) : Nat → List Tm := fun j => if j = 0 then X else if j = 1 then Y else sbX (sbX Y X) unX
def pLess (m : Nat) (p : Pz) (X Y : List Tm) (n : Nat) : Pz := pBits m p (lsX X Y) n 3
theorem less1_any {S : Nat → Prop} {d m q b : Nat} {p : Pz} {x : World} (h : Ds S d m p q b x) (bx bd bn lb n : Nat) (cx : x.cell? ⟨bx, 0, none⟩ = some (.func (.func 212) #[] #[.pointer (some ⟨bd, 0, none⟩), .pointer (some ⟨bn, 0, none⟩)])) (cd : x.cell? ⟨bd, 0, none⟩ = some (.pointer (some ⟨d, 0, none⟩))) (cn : x.cell? ⟨bn, 0, none⟩ = some (.int .i64 (n : Int))) (nx : ¬ S bx) (nd : ¬ S bd) (nn : ¬ S bn) (V : Nat → Value) (X : Nat → List Tm) (hL : Zm S x lb 2 V X) (hn : 1 ≤ n) (hn2 : n ≤ 251) (hq : p.Q.length + 3 * (2 * n + 1) ≤ 4096) (hK : p.K + 3 * n ≤ 1024) (hX : ∀ j, j < 2 → ∀ z ∈ X j, hs m p.K z.1 = true) (hx9 : ∀ j, j < 2 → (X j).length ≤ 40000) (hnz : ∀ i, i < n → ∀ K : Nat, (tmX (wtS i) [((2, (K : Int)), 1)]).length = 1) :
  Calls Tryz.prog 147 #[.slice (some ⟨lb, 0, none⟩) 2 2, .pointer (some ⟨bx, 0, none⟩)] x fun e w' => SpP S d m (pLess m p (X 0) (X 1) n) q b (3 * n) x e w' := by
 obtain ⟨P0, c0, hv0, -⟩ := (hL.el 0 (by omega)).2.1.sh
 obtain ⟨P1, c1, hv1, -⟩ := (hL.el 1 (by omega)).2.1.sh
 have e0 := (hL.el 0 (by omega)).1
 have e1 := (hL.el 1 (by omega)).1
 have z0 := (hL.el 0 (by omega)).2
 have z1 := (hL.el 1 (by omega)).2
 rw [hv0] at e0 z0
 rw [hv1] at e1 z1
 have HD := Hn h
 have ZZ := Hn (And.intro z0 z1)
 have CC := Hn (And.intro cx (And.intro cd cn))
 have NC := Hn (And.intro nx (And.intro nd nn))
 have HN := Hn (And.intro hn (And.intro hn2 (And.intro hq hK)))
 have X0 := hx9 0 (by omega)
 have X1 := hx9 1 (by omega)
 have l5 : (sbX (X 1) (X 0)).length ≤ 80000 := by have := sbX_len (X 1) (X 0); omega
 have l7 : (sbX (sbX (X 1) (X 0)) unX).length ≤ 90000 := by have := sbX_len (sbX (X 1) (X 0)) unX; have := unX_len; omega
 have HX := Hn (And.intro (hX 0 (by omega)) (And.intro (hX 1 (by omega)) (And.intro X0 (And.intro X1 (And.intro l5 l7)))))
 have HZ := Hn hnz
 clear h hL cx cd cn nx nd nn hn hn2 hq hK hX hx9 hnz z0 z1 hv0 hv1 X0 X1 l5 l7
 unfold pLess lsX
 generalize X 0 = A at *
 generalize X 1 = B at *
 have E0 := Hn e0
 have E1 := Hn e1
 clear e0 e1
 go_enter Tryz.func147, Tryz.ntmps147
 go_upto_region 1 with fail
 refine ls1 _ lb A.length c0 B.length c1 P0 P1 _ _ _ _ _ _ _ _ _ _ _ _ _ _ _ _ _ _ _ _ _ x E0.out E1.out (Hn ?_)
 intro wz hw
 have BW : Hid (Below x.heap.size x wz) := Hn (by rw [hw]; exact bl_drew _)
 have D1 := Hn (HD.out.keep BW.out)
 have Z1 := Hn (And.intro (ZZ.out.1.keep BW.out) (ZZ.out.2.keep BW.out))
 clear hw
 go_upto_region 2 with fail
 refine ls2 _ S d m q b bx bd bn (3 * n) A.length c0 B.length c1 P0 P1 (pBits m p (lsX A B) n 3) (sbX B A) (sbX (sbX B A) unX) _ _ _ _ _ _ _ _ _ _ _ _ _ _ _ _ _ _ _ wz (cell_keep CC.out.1 BW.out) (Hn NC.out.1) (Hn (fun y hb => (subR (D1.out.keep hb).tb (Z1.out.2.keep hb).1.r (Z1.out.1.keep hb).1.r).mono (fun e w' h => LvP.s h))) (Hn (fun y hb => (unit_any y (D1.out.keep hb).tb).mono (fun e w' h => LvP.s h))) (Hn (fun y P5 c5 P6 c6 hb h5 h6 => (subR (D1.out.keep hb).tb ⟨own_monoT h5.1 (Nat.zero_le _), by have := HX.out; omega⟩ ⟨own_monoT h6.1 (Nat.zero_le _), by have := unX_len; omega⟩).mono (fun e w' h => LvP.s h))) (Hn (fun y tb P7 c7 hb htb hrg h7 => ?_)) (Hn ?_)
 ·have d9 := D1.out.keep hb
  have hs9 : ∀ i, S i → i < wz.heap.size := D1.out.lt
  refine bits1_any d9 bd bn (cell_keep (cell_keep CC.out.2.1 BW.out) hb) n 3 tb (cell_keep (cell_keep CC.out.2.2 BW.out) hb) NC.out.2.1 NC.out.2.2 (fun j => if j = 0 then .slice P0 A.length c0 else if j = 1 then .slice P1 B.length c1 else .slice P7 (sbX (sbX B A) unX).length c7) (lsX A B) ⟨fun e => by have := hs9 _ e; omega, range_lt hrg, fun j hj => ?_⟩ HN.out.1 HN.out.2.1 (by omega) HN.out.2.2.1 HN.out.2.2.2 (fun j hj => ?_) (fun j hj => ?_) HZ.out 3
  ·have hj3 : j = 0 ∨ j = 1 ∨ j = 2 := by omega
   rcases hj3 with rfl | rfl | rfl
   ·exact ⟨hrg 0 _ rfl, Z1.out.1.keep hb⟩
   ·exact ⟨hrg 1 _ rfl, Z1.out.2.keep hb⟩
   ·exact ⟨hrg 2 _ rfl, Zo.zn h7 hs9 (Nat.le_trans HX.out.2.2.2.2.2 (by omega))⟩
  ·have hj3 : j = 0 ∨ j = 1 ∨ j = 2 := by omega
   rcases hj3 with rfl | rfl | rfl
   ·exact HX.out.1
   ·exact HX.out.2.1
   ·exact hs_sb (hs_sb HX.out.2.1 HX.out.1) hs_un
  ·have hj3 : j = 0 ∨ j = 1 ∨ j = 2 := by omega
   have hx := HX.out
   rcases hj3 with rfl | rfl | rfl
   ·show A.length ≤ 90000; omega
   ·show B.length ≤ 90000; omega
   ·exact hx.2.2.2.2.2
 ·intro w9 v9 P5 P6 P7 c5 c6 c7 tb hsp
  have SP := Hn (SpP.from BW.out hsp)
  clear hsp
  go_wp2_with fail
  exact bodyPost_ret (v := v9) (by simp [results, Tryz.results147, go_sem]) rfl SP.out
end Ci
end Go.Proofs.YtljmgfclhbadjaaGreatDoor
