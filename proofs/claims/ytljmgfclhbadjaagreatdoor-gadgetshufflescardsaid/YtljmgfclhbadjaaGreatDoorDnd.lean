import Derived.Test.YtljmgfclhbadjaaGreatDoorTk
import Derived.Test.YtljmgfclhbadjaaGreatDoorDvz
namespace Go.Proofs.YtljmgfclhbadjaaGreatDoor
set_option maxRecDepth 100000
set_option maxHeartbeats 16000000
open Go.RowKit
set_option linter.unusedVariables false
set_option linter.unusedSimpArgs false
open Cm (Wr Tm co bf Ls lf ins Eqm)
namespace Ci
theorem EoP.from {S : Nat → Prop} {d m q b : Nat} {p : Pz} {x y w' : World} (hb : Below x.heap.size x y) (h : EoP S d m p q b y w') : EoP S d m p q b x w' := by
 obtain ⟨S', h2, h3, h4⟩ := h
 exact ⟨S', h2, (Gs.bl hb).trans h3 Sk.refl, Sk.trans Sk.refl h4 hb.size⟩
def ZeP (S : Nat → Prop) (d m : Nat) (p : Pz) (q b : Nat) (x : World) (e : Ending) (w' : World) : Prop := e = .returned (.slice none 0 0) ∧ EoP S d m p q b x w'
def LsP2 (S : Nat → Prop) (d m : Nat) (p : Pz) (q b : Nat) (X : List Tm) (x : World) (e : Ending) (w' : World) : Prop := ∃ S' P c, e = .returned (.slice P X.length c) ∧ Ds S' d m p q b w' ∧ Gs S x w' ∧ Sk S S' x ∧ Zo S' w' (.slice P X.length c) X
theorem LoP.s {S : Nat → Prop} {d m q b : Nat} {p : Pz} {X : List Tm} {x w' : World} {e : Ending} (h : LoP S d m p q b X x e w') : LsP2 S d m p q b X x e w' := by
 obtain ⟨S', v, rfl, h2, h3, h4, h5⟩ := h
 obtain ⟨P, c, rfl, -⟩ := h5.1.sh
 exact ⟨S', P, c, rfl, h2, h3, h4, h5⟩
theorem build1L (P0 : Option Addr) (n0 c0 : Nat) (w : World) : (Instr.buildSlice 48 1 #[(0, .slice P0 n0 c0)]).run Tryz.prog w = .ok (.slice (some ⟨w.heap.size, 0, none⟩) 1 1) (w.alloc (.cells #[.slice P0 n0 c0] 50)) := by kernel_rfl
theorem wp_bsL {w : World} {o : Oper} {a : Act} {K : Act → World → Prop} {Q : Exit → Act → World → Prop} (x0 : Operand) (ho : o.op = .buildSlice 48 1 #[(0, x0)]) (P0 : Option Addr) (n0 c0 : Nat) (h0 : a.eval x0 = .slice P0 n0 c0) (h : ∀ (tb : Nat) (wq : World), tb = w.heap.size → Below w.heap.size w wq → wq.rangeAt tb 0 [.slice P0 n0 c0] → K (a.put o.dst (.slice (some ⟨tb, 0, none⟩) 1 1)) wq) : o.wp Tryz.prog a w K Q := by
 have hr := build1L P0 n0 c0 w
 have hk := h w.heap.size _ rfl (bl_alloc w (.cells #[.slice P0 n0 c0] 50)) (range_newM w [.slice P0 n0 c0] 50)
 unfold Oper.wp execOp
 simp only [ho, Sem.run_bind, Sem.run_pure, Result.andThen_ok, List.map_toArray, List.map_cons, List.map_nil, h0, hr]
 exact hk
theorem build2L (P0 P1 : Option Addr) (n0 c0 n1 c1 : Nat) (w : World) : (Instr.buildSlice 48 2 #[(0, .slice P0 n0 c0), (1, .slice P1 n1 c1)]).run Tryz.prog w = .ok (.slice (some ⟨w.heap.size, 0, none⟩) 2 2) (w.alloc (.cells #[.slice P0 n0 c0, .slice P1 n1 c1] 50)) := by kernel_rfl
theorem wp_bsL2 {w : World} {o : Oper} {a : Act} {K : Act → World → Prop} {Q : Exit → Act → World → Prop} (x0 x1 : Operand) (ho : o.op = .buildSlice 48 2 #[(0, x0), (1, x1)]) (P0 : Option Addr) (n0 c0 : Nat) (P1 : Option Addr) (n1 c1 : Nat) (h0 : a.eval x0 = .slice P0 n0 c0) (h1 : a.eval x1 = .slice P1 n1 c1) (h : ∀ (tb : Nat) (wq : World), tb = w.heap.size → Below w.heap.size w wq → wq.rangeAt tb 0 [.slice P0 n0 c0, .slice P1 n1 c1] → K (a.put o.dst (.slice (some ⟨tb, 0, none⟩) 2 2)) wq) : o.wp Tryz.prog a w K Q := by
 have hr := build2L P0 P1 n0 c0 n1 c1 w
 have hk := h w.heap.size _ rfl (bl_alloc w (.cells #[.slice P0 n0 c0, .slice P1 n1 c1] 50)) (range_newM w [.slice P0 n0 c0, .slice P1 n1 c1] 50)
 unfold Oper.wp execOp
 simp only [ho, Sem.run_bind, Sem.run_pure, Result.andThen_ok, List.map_toArray, List.map_cons, List.map_nil, h0, h1, hr]
 exact hk
theorem twoL {S : Nat → Prop} {d m q b tb : Nat} {p : Pz} {w wq : World} {P5 P6 : Option Addr} {c5 c6 : Nat} {X5 X6 : List Tm} (h : Ds S d m p q b w) (htb : tb = w.heap.size) (hb : Below w.heap.size w wq) (hr : wq.rangeAt tb 0 [.slice P5 X5.length c5, .slice P6 X6.length c6]) (z5 : Zo S w (.slice P5 X5.length c5) X5) (z6 : Zo S w (.slice P6 X6.length c6) X6) : Zm S wq tb 2 (fun j => if j = 0 then (.slice P5 X5.length c5 : Value) else .slice P6 X6.length c6) (fun j => if j = 0 then X5 else X6) := by
 refine ⟨fun e => by have := h.lt _ e; omega, World.block_lt_of_cell? _ _ (hr 0 _ rfl), fun j hj => ?_⟩
 have hj2 : j = 0 ∨ j = 1 := by omega
 rcases hj2 with rfl | rfl
 ·exact ⟨hr 0 _ rfl, z5.keep hb⟩
 ·exact ⟨hr 1 _ rfl, z6.keep hb⟩
def eq1o_0 : Oper := oO 5 (Op.move (Operand.tmp 0)) 33 "requires.go:24" #[]
def eq1o_1 : Oper := oO 6 (Op.move (Operand.tmp 1)) 48 "requires.go:24" #[]
def eq1o_2 : Oper := oO 7 (Op.indexAddr 48 (Operand.tmp 6) (Operand.const (Value.int IntKind.i64 0))) 0 "requires.go:24" #[DD 1]
def eq1o_3 : Oper := oO 8 (Op.load 50 (Operand.tmp 7)) 50 "requires.go:24" #[DD 2]
def eq1o_4 : Oper := oO 9 (Op.move (Operand.tmp 1)) 48 "requires.go:24" #[]
def eq1o_5 : Oper := oO 10 (Op.indexAddr 48 (Operand.tmp 9) (Operand.const (Value.int IntKind.i64 1))) 0 "requires.go:24" #[DD 4]
def eq1o_6 : Oper := oO 11 (Op.load 50 (Operand.tmp 10)) 50 "requires.go:24" #[DD 5]
def eq1o_7 : Oper := oO 12 (Op.call { callee := Callee.value (Operand.func 148), args := #[Operand.tmp 8, Operand.tmp 11], argTypes := #[50, 50] }) 50 "requires.go:24" #[DD 3, DD 6]
def eq1o_8 : Oper := oO 13 (Op.buildSlice 48 1 #[(0, Operand.tmp 12)]) 48 "requires.go:24" #[DD 7]
def eq1o_9 : Oper := oO 14 (Op.call { callee := Callee.value (Operand.func 216), args := #[Operand.tmp 5, Operand.tmp 13], argTypes := #[33, 48] }) 48 "requires.go:24" #[DD 0, DD 8, CH 7]
def eq1o_10 : Oper := oO 4 (Op.assign (Operand.tmp 14)) 48 "requires.go:24" #[DD 9, CH 9, PH 0, PH 1, PH 2, PH 3, PH 4, PH 5, PH 6, PH 7, PH 8, PH 9]
def eq1o : Array Oper := #[eq1o_0, eq1o_1, eq1o_2, eq1o_3, eq1o_4, eq1o_5, eq1o_6, eq1o_7, eq1o_8, eq1o_9, eq1o_10]
theorem eq1 (Q : Exit → Act → World → Prop) (S : Nat → Prop) (d m q b lb n0 c0 n1 c1 : Nat) (P0 P1 : Option Addr) (p2 : Pz) (X7 : List Tm) (u2 u3 u4 u5 u6 u7 u8 u9 aa ab ad ae af : Value) (W : World)
  (q0 : W.cell? ⟨lb, 0, none⟩ = some (.slice P0 n0 c0)) (q1 : W.cell? ⟨lb, 1, none⟩ = some (.slice P1 n1 c1)) (nb : Hid (¬ S lb))
  (C7 : Hid (∀ y, Below W.heap.size W y → Calls Tryz.prog 148 #[.slice P0 n0 c0, .slice P1 n1 c1] y fun e w' => LvS X7 y e w'))
  (C9 : Hid (∀ y tb P7 c7, Below W.heap.size W y → W.heap.size ≤ tb → y.rangeAt tb 0 [.slice P7 X7.length c7] → Zn W.heap.size y (.slice P7 X7.length c7) X7 → Calls Tryz.prog 216 #[.pointer (some ⟨d, 0, none⟩), .slice (some ⟨tb, 0, none⟩) 1 1] y fun e w' => ZeP S d m p2 q b y e w'))
  (HQ : Hid (∀ (wz : World) (P7 : Option Addr) (c7 tb : Nat), EoP S d m p2 q b W wz → Q .normal ⟨#[.pointer (some ⟨d, 0, none⟩), .slice (some ⟨lb, 0, none⟩) 2 2, u2, u3, .slice none 0 0, .pointer (some ⟨d, 0, none⟩), .slice (some ⟨lb, 0, none⟩) 2 2, .pointer (some ⟨lb, 0, none⟩), .slice P0 n0 c0, .slice (some ⟨lb, 0, none⟩) 2 2, .pointer (some ⟨lb, 1, none⟩), .slice P1 n1 c1, .slice P7 X7.length c7, .slice (some ⟨tb, 0, none⟩) 1 1, .slice none 0 0], []⟩ wz)) : (Code.region 1 eq1o true).wp Tryz.prog Q ⟨#[.pointer (some ⟨d, 0, none⟩), .slice (some ⟨lb, 0, none⟩) 2 2, u2, u3, u4, u5, u6, u7, u8, u9, aa, ab, ad, ae, af], []⟩ W := by
 have BB := Hn (bl_drew W)
 have SZ := Hn (Nat.le_refl W.heap.size)
 unfold eq1o
 refine wp_region_noPanic ?_
 refine wp_region_held_drew (S := fun x => x.cell? ⟨lb, 0, none⟩ = some (.slice P0 n0 c0) ∧ x.cell? ⟨lb, 1, none⟩ = some (.slice P1 n1 c1)) (by kernel_rfl) (⟨cell_keep q0 (bl_drew W), cell_keep q1 (bl_drew W)⟩) (fun hH0 => ?_)
 refine tj 0 eq1o_0 (.pointer (some ⟨d, 0, none⟩)) hH0 (fun w0 hSw => ?_) ?_
 ·(unfold eq1o_0 oO; clear hSw; go_simp)
 simp only [eq1o_0, oO, Act.put, sA, sB, sC]
 refine tj 1 eq1o_1 (.slice (some ⟨lb, 0, none⟩) 2 2) hH0 (fun w0 hSw => ?_) ?_
 ·(unfold eq1o_1 oO; clear hSw; go_simp)
 simp only [eq1o_1, oO, Act.put, sA, sB, sC]
 refine tj 4 eq1o_4 (.slice (some ⟨lb, 0, none⟩) 2 2) hH0 (fun w0 hSw => ?_) ?_
 ·(unfold eq1o_4 oO; clear hSw; go_simp)
 simp only [eq1o_4, oO, Act.put, sA, sB, sC]
 refine tj 2 eq1o_2 (.pointer (some ⟨lb, 0, none⟩)) hH0 (fun w0 hSw => ?_) ?_
 ·(unfold eq1o_2 oO; clear hSw; go_simp)
 simp only [eq1o_2, oO, Act.put, sA, sB, sC]
 refine tj 5 eq1o_5 (.pointer (some ⟨lb, 1, none⟩)) hH0 (fun w0 hSw => ?_) ?_
 ·(unfold eq1o_5 oO; clear hSw; go_simp)
 simp only [eq1o_5, oO, Act.put, sA, sB, sC]
 refine tj 3 eq1o_3 (.slice P0 n0 c0) hH0 (fun w0 hSw => ?_) ?_
 ·(unfold eq1o_3 oO; have hS : w0.cell? ⟨lb, 0, none⟩ = some (.slice P0 n0 c0) ∧ w0.cell? ⟨lb, 1, none⟩ = some (.slice P1 n1 c1) := hSw; have a0 := hS.1; clear hS hSw; go_simp)
 simp only [eq1o_3, oO, Act.put, sA, sB, sC]
 refine tj 6 eq1o_6 (.slice P1 n1 c1) hH0 (fun w0 hSw => ?_) ?_
 ·(unfold eq1o_6 oO; have hS : w0.cell? ⟨lb, 0, none⟩ = some (.slice P0 n0 c0) ∧ w0.cell? ⟨lb, 1, none⟩ = some (.slice P1 n1 c1) := hSw; have a0 := hS.2; clear hS hSw; go_simp)
 simp only [eq1o_6, oO, Act.put, sA, sB, sC]
 refine ar [7] ?_
 refine ac eq1o_7 (fun K hK => ?_) AllReadyH.nil
 unfold eq1o_7 oO
 have HH := Hn hH0
 clear hH0
 go_simp
 refine (C7.out _ BB.out).mono ?_
 rintro e wn1 ⟨P7, c7, rfl, hl⟩
 have SN := Hn (And.intro (cell_keep HH.out.1 hl.2.1) (cell_keep HH.out.2 hl.2.1))
 replace BB := Hn (bl_trans BB.out hl.2.1)
 have F7 := Hn ((Zn.of hl SZ.out : Zn W.heap.size _ _ X7))
 replace SZ := Hn (Nat.le_trans SZ.out hl.2.1.size)
 clear HH hl C7
 go_wp2_with fail
 refine hK.out _ _ SN.out (fun hH1 => ?_)
 clear hK K SN
 refine ar [8] ?_
 refine ac eq1o_8 (fun K hK => ?_) AllReadyH.nil
 unfold eq1o_8 oO
 have HH := Hn hH1
 clear hH1
 refine wp_bsL _ rfl P7 X7.length c7 rfl (fun tb wn2 htb hbb hrg => ?_)
 have SN := Hn (And.intro (cell_keep HH.out.1 hbb) (cell_keep HH.out.2 hbb))
 replace BB := Hn (bl_trans BB.out hbb)
 replace F7 := Hn (F7.out.keep hbb)
 have TB := Hn (And.intro (show W.heap.size ≤ tb by rw [htb]; exact SZ.out) hrg)
 replace SZ := Hn (Nat.le_trans SZ.out hbb.size)
 clear HH htb hbb hrg
 simp only [Act.put, sA, sB, sC]
 refine hK.out _ _ SN.out (fun hH2 => ?_)
 clear hK K SN
 refine ar [9] ?_
 refine ac eq1o_9 (fun K hK => ?_) AllReadyH.nil
 unfold eq1o_9 oO
 have HH := Hn hH2
 clear hH2
 go_simp
 refine (C9.out _ tb P7 c7 BB.out TB.out.1 TB.out.2 F7.out).mono ?_
 rintro e wn3 ⟨rfl, S9, d9, g9, k9⟩
 have SN := Hn (And.intro (g9.cell HH.out.1 nb.out) (g9.cell HH.out.2 nb.out))
 have FE := Hn ((EoP.from BB.out ⟨S9, d9, g9, k9⟩ : EoP S d m p2 q b W _))
 clear HH d9 g9 k9 C9
 go_wp2_with fail
 refine hK.out _ _ SN.out (fun hH3 => ?_)
 clear hK K SN
 refine tj 10 eq1o_10 (.slice none 0 0) hH3 (fun w0 hSw => ?_) ?_
 ·(unfold eq1o_10 oO; clear hSw; go_simp)
 simp only [eq1o_10, oO, Act.put, sA, sB, sC]
 have HH := Hn hH3
 have FQ := Hn (HQ.out _ P7 c7 tb FE.out)
 refine wpAnyH_done (by kernel_rfl) ?_ _
 refine NoPanic.normal ?_
 exact FQ.out
def sh2o_0 : Oper := oO 9 (Op.load 33 (Operand.tmp 1)) 33 "choices.go:57" #[]
def sh2o_1 : Oper := oO 10 (Op.load 33 (Operand.tmp 1)) 33 "choices.go:57" #[]
def sh2o_2 : Oper := oO 11 (Op.load 236 (Operand.tmp 2)) 236 "choices.go:57" #[]
def sh2o_3 : Oper := oO 12 (Op.move (Operand.tmp 0)) 48 "choices.go:57" #[]
def sh2o_4 : Oper := oO 13 (Op.move (Operand.tmp 5)) 3 "choices.go:57" #[]
def sh2o_5 : Oper := oO 14 (Op.slice 48 (Operand.tmp 12) none (some (Operand.tmp 13)) none) 48 "choices.go:57" #[DD 3, DD 4]
def sh2o_6 : Oper := oO 15 (Op.call { callee := Callee.value (Operand.func 145), args := #[Operand.tmp 10, Operand.tmp 11, Operand.tmp 14], argTypes := #[33, 236, 48] }) 50 "choices.go:57" #[DD 1, DD 2, DD 5]
def sh2o_7 : Oper := oO 16 (Op.load 33 (Operand.tmp 1)) 33 "choices.go:57" #[]
def sh2o_8 : Oper := oO 17 (Op.load 236 (Operand.tmp 2)) 236 "choices.go:57" #[]
def sh2o_9 : Oper := oO 18 (Op.move (Operand.tmp 0)) 48 "choices.go:57" #[]
def sh2o_10 : Oper := oO 19 (Op.move (Operand.tmp 5)) 3 "choices.go:57" #[]
def sh2o_11 : Oper := oO 20 (Op.slice 48 (Operand.tmp 18) (some (Operand.tmp 19)) none none) 48 "choices.go:57" #[DD 9, DD 10]
def sh2o_12 : Oper := oO 21 (Op.call { callee := Callee.value (Operand.func 145), args := #[Operand.tmp 16, Operand.tmp 17, Operand.tmp 20], argTypes := #[33, 236, 48] }) 50 "choices.go:57" #[DD 7, DD 8, DD 11, CH 6]
def sh2o_13 : Oper := oO 22 (Op.buildSlice 48 2 #[(0, Operand.tmp 15), (1, Operand.tmp 21)]) 48 "choices.go:57" #[DD 6, DD 12]
def sh2o_14 : Oper := oO 23 (Op.call { callee := Callee.value (Operand.func 157), args := #[Operand.tmp 9, Operand.tmp 22], argTypes := #[33, 48] }) 48 "choices.go:57" #[DD 0, DD 13, CH 12]
def sh2o_15 : Oper := oO 4 (Op.assign (Operand.tmp 23)) 48 "choices.go:57" #[DD 14, CH 14, PH 0, PH 1, PH 2, PH 3, PH 4, PH 5, PH 6, PH 7, PH 8, PH 9, PH 10, PH 11, PH 12, PH 13, PH 14]
def sh2o : Array Oper := #[sh2o_0, sh2o_1, sh2o_2, sh2o_3, sh2o_4, sh2o_5, sh2o_6, sh2o_7, sh2o_8, sh2o_9, sh2o_10, sh2o_11, sh2o_12, sh2o_13, sh2o_14, sh2o_15]
theorem sh2 (Q : Exit → Act → World → Prop) (S : Nat → Prop) (d m q b lb bd bl N n c nu cu : Nat) (Pu : Option Addr) (p1 p2 p3 : Pz) (X5 X6 : List Tm) (u3 u4 u6 u7 u8 u9 aa ab ad ae af ag ah ai aj ak al am an ao : Value) (W : World)
  (q0 : W.cell? ⟨bd, 0, none⟩ = some (.pointer (some ⟨d, 0, none⟩))) (q1 : W.cell? ⟨bl, 0, none⟩ = some (.func (.func 155) #[.slice Pu nu cu] #[])) (NB : Hid (¬ S bd ∧ ¬ S bl)) (NF : Hid ((0 : Int) ≤ (n : Int) ∧ (n : Int) ≤ (N : Int) ∧ (n : Int) ≤ (c : Int) ∧ ((N : Int) - (n : Int)).toNat = n ∧ (N : Int) ≤ (c : Int)))
  (C6 : Hid (∀ y, Below W.heap.size W y → Calls Tryz.prog 145 #[.pointer (some ⟨d, 0, none⟩), .func (.func 155) #[.slice Pu nu cu] #[], .slice (some ⟨lb, 0, none⟩) n c] y fun e w' => LsP2 S d m p1 q b X5 y e w'))
  (C12 : Hid (∀ y S5, Ds S5 d m p1 q b y → Gs S W y → Sk S S5 W → Calls Tryz.prog 145 #[.pointer (some ⟨d, 0, none⟩), .func (.func 155) #[.slice Pu nu cu] #[], .slice (some ⟨lb, n, none⟩) n (c - n)] y fun e w' => LsP2 S5 d m p2 q b X6 y e w'))
  (C14 : Hid (∀ y S6 tb P5 c5 P6 c6, Ds S6 d m p2 q b y → Gs S W y → Sk S S6 W → Zm S6 y tb 2 (fun j => if j = 0 then (.slice P5 X5.length c5 : Value) else .slice P6 X6.length c6) (fun j => if j = 0 then X5 else X6) → Calls Tryz.prog 157 #[.pointer (some ⟨d, 0, none⟩), .slice (some ⟨tb, 0, none⟩) 2 2] y fun e w' => ZeP S6 d m p3 q b y e w'))
  (HQ : Hid (∀ (wz : World) (P5 P6 : Option Addr) (c5 c6 tb : Nat), EoP S d m p3 q b W wz → Q .normal ⟨#[.slice (some ⟨lb, 0, none⟩) N c, .pointer (some ⟨bd, 0, none⟩), .pointer (some ⟨bl, 0, none⟩), u3, .slice none 0 0, .int .i64 (n : Int), u6, u7, u8, .pointer (some ⟨d, 0, none⟩), .pointer (some ⟨d, 0, none⟩), .func (.func 155) #[.slice Pu nu cu] #[], .slice (some ⟨lb, 0, none⟩) N c, .int .i64 (n : Int), .slice (some ⟨lb, 0, none⟩) n c, .slice P5 X5.length c5, .pointer (some ⟨d, 0, none⟩), .func (.func 155) #[.slice Pu nu cu] #[], .slice (some ⟨lb, 0, none⟩) N c, .int .i64 (n : Int), .slice (some ⟨lb, n, none⟩) n (c - n), .slice P6 X6.length c6, .slice (some ⟨tb, 0, none⟩) 2 2, .slice none 0 0], []⟩ wz)) : (Code.region 2 sh2o true).wp Tryz.prog Q ⟨#[.slice (some ⟨lb, 0, none⟩) N c, .pointer (some ⟨bd, 0, none⟩), .pointer (some ⟨bl, 0, none⟩), u3, u4, .int .i64 (n : Int), u6, u7, u8, u9, aa, ab, ad, ae, af, ag, ah, ai, aj, ak, al, am, an, ao], []⟩ W := by
 have BB := Hn (bl_drew W)
 unfold sh2o
 refine wp_region_noPanic ?_
 refine wp_region_held_drew (S := fun x => x.cell? ⟨bd, 0, none⟩ = some (.pointer (some ⟨d, 0, none⟩)) ∧ x.cell? ⟨bl, 0, none⟩ = some (.func (.func 155) #[.slice Pu nu cu] #[])) (by kernel_rfl) (⟨cell_keep q0 (bl_drew W), cell_keep q1 (bl_drew W)⟩) (fun hH0 => ?_)
 refine tj 0 sh2o_0 (.pointer (some ⟨d, 0, none⟩)) hH0 (fun w0 hSw => ?_) ?_
 ·(unfold sh2o_0 oO; have hS : w0.cell? ⟨bd, 0, none⟩ = some (.pointer (some ⟨d, 0, none⟩)) ∧ w0.cell? ⟨bl, 0, none⟩ = some (.func (.func 155) #[.slice Pu nu cu] #[]) := hSw; have a0 := hS.1; clear hS hSw; go_simp)
 simp only [sh2o_0, oO, Act.put, sA, sB, sC]
 refine tj 1 sh2o_1 (.pointer (some ⟨d, 0, none⟩)) hH0 (fun w0 hSw => ?_) ?_
 ·(unfold sh2o_1 oO; have hS : w0.cell? ⟨bd, 0, none⟩ = some (.pointer (some ⟨d, 0, none⟩)) ∧ w0.cell? ⟨bl, 0, none⟩ = some (.func (.func 155) #[.slice Pu nu cu] #[]) := hSw; have a0 := hS.1; clear hS hSw; go_simp)
 simp only [sh2o_1, oO, Act.put, sA, sB, sC]
 refine tj 2 sh2o_2 (.func (.func 155) #[.slice Pu nu cu] #[]) hH0 (fun w0 hSw => ?_) ?_
 ·(unfold sh2o_2 oO; have hS : w0.cell? ⟨bd, 0, none⟩ = some (.pointer (some ⟨d, 0, none⟩)) ∧ w0.cell? ⟨bl, 0, none⟩ = some (.func (.func 155) #[.slice Pu nu cu] #[]) := hSw; have a0 := hS.2; clear hS hSw; go_simp)
 simp only [sh2o_2, oO, Act.put, sA, sB, sC]
 refine tj 3 sh2o_3 (.slice (some ⟨lb, 0, none⟩) N c) hH0 (fun w0 hSw => ?_) ?_
 ·(unfold sh2o_3 oO; clear hSw; go_simp)
 simp only [sh2o_3, oO, Act.put, sA, sB, sC]
 refine tj 4 sh2o_4 (.int .i64 (n : Int)) hH0 (fun w0 hSw => ?_) ?_
 ·(unfold sh2o_4 oO; clear hSw; go_simp)
 simp only [sh2o_4, oO, Act.put, sA, sB, sC]
 refine tj 7 sh2o_7 (.pointer (some ⟨d, 0, none⟩)) hH0 (fun w0 hSw => ?_) ?_
 ·(unfold sh2o_7 oO; have hS : w0.cell? ⟨bd, 0, none⟩ = some (.pointer (some ⟨d, 0, none⟩)) ∧ w0.cell? ⟨bl, 0, none⟩ = some (.func (.func 155) #[.slice Pu nu cu] #[]) := hSw; have a0 := hS.1; clear hS hSw; go_simp)
 simp only [sh2o_7, oO, Act.put, sA, sB, sC]
 refine tj 8 sh2o_8 (.func (.func 155) #[.slice Pu nu cu] #[]) hH0 (fun w0 hSw => ?_) ?_
 ·(unfold sh2o_8 oO; have hS : w0.cell? ⟨bd, 0, none⟩ = some (.pointer (some ⟨d, 0, none⟩)) ∧ w0.cell? ⟨bl, 0, none⟩ = some (.func (.func 155) #[.slice Pu nu cu] #[]) := hSw; have a0 := hS.2; clear hS hSw; go_simp)
 simp only [sh2o_8, oO, Act.put, sA, sB, sC]
 refine tj 9 sh2o_9 (.slice (some ⟨lb, 0, none⟩) N c) hH0 (fun w0 hSw => ?_) ?_
 ·(unfold sh2o_9 oO; clear hSw; go_simp)
 simp only [sh2o_9, oO, Act.put, sA, sB, sC]
 refine tj 10 sh2o_10 (.int .i64 (n : Int)) hH0 (fun w0 hSw => ?_) ?_
 ·(unfold sh2o_10 oO; clear hSw; go_simp)
 simp only [sh2o_10, oO, Act.put, sA, sB, sC]
 refine tj 5 sh2o_5 (.slice (some ⟨lb, 0, none⟩) n c) hH0 (fun w0 hSw => ?_) ?_
 ·(unfold sh2o_5 oO; have f0 := NF.out.1; have f1 := NF.out.2.1; have f2 := NF.out.2.2.1; have f3 := NF.out.2.2.2.1; have f4 := NF.out.2.2.2.2; clear hSw; go_simp)
 simp only [sh2o_5, oO, Act.put, sA, sB, sC]
 refine tj 11 sh2o_11 (.slice (some ⟨lb, n, none⟩) n (c - n)) hH0 (fun w0 hSw => ?_) ?_
 ·(unfold sh2o_11 oO; have f0 := NF.out.1; have f1 := NF.out.2.1; have f2 := NF.out.2.2.1; have f3 := NF.out.2.2.2.1; have f4 := NF.out.2.2.2.2; clear hSw; go_simp; exact ⟨fun e => by omega, by omega⟩)
 simp only [sh2o_11, oO, Act.put, sA, sB, sC]
 refine ar [6] ?_
 refine ac sh2o_6 (fun K hK => ?_) AllReadyH.nil
 unfold sh2o_6 oO
 have HH := Hn hH0
 clear hH0
 go_simp
 refine (C6.out _ BB.out).mono ?_
 rintro e wn1 ⟨S5, P5, c5, rfl, d5, g5, k5, z5⟩
 have SN := Hn (And.intro (g5.cell HH.out.1 NB.out.1) (g5.cell HH.out.2 NB.out.2))
 have F5 := Hn ((And.intro d5 (And.intro ((Gs.bl BB.out).trans g5 Sk.refl) (And.intro (Sk.trans Sk.refl k5 BB.out.size) z5))))
 replace NB := Hn (And.intro (out_sk NB.out.1 k5 (World.block_lt_of_cell? _ _ HH.out.1)) (out_sk NB.out.2 k5 (World.block_lt_of_cell? _ _ HH.out.2)))
 clear HH d5 g5 k5 z5 C6 BB
 go_wp2_with fail
 refine hK.out _ _ SN.out (fun hH1 => ?_)
 clear hK K SN
 refine ar [12] ?_
 refine ac sh2o_12 (fun K hK => ?_) AllReadyH.nil
 unfold sh2o_12 oO
 have HH := Hn hH1
 clear hH1
 go_simp
 refine (C12.out _ S5 F5.out.1 F5.out.2.1 F5.out.2.2.1).mono ?_
 rintro e wn2 ⟨S6, P6, c6, rfl, d6, g6, k6, z6⟩
 have SN := Hn (And.intro (g6.cell HH.out.1 NB.out.1) (g6.cell HH.out.2 NB.out.2))
 have F6 := Hn ((And.intro d6 (And.intro (F5.out.2.1.trans g6 F5.out.2.2.1) (And.intro (F5.out.2.2.1.trans k6 F5.out.2.1.size) (And.intro (F5.out.2.2.2.step g6 k6) z6)))))
 replace NB := Hn (And.intro (out_sk NB.out.1 k6 (World.block_lt_of_cell? _ _ HH.out.1)) (out_sk NB.out.2 k6 (World.block_lt_of_cell? _ _ HH.out.2)))
 clear HH d6 g6 k6 z6 C12 F5
 go_wp2_with fail
 refine hK.out _ _ SN.out (fun hH2 => ?_)
 clear hK K SN
 refine ar [13] ?_
 refine ac sh2o_13 (fun K hK => ?_) AllReadyH.nil
 unfold sh2o_13 oO
 have HH := Hn hH2
 clear hH2
 refine wp_bsL2 _ _ rfl P5 X5.length c5 P6 X6.length c6 rfl rfl (fun tb wn3 htb hbb hrg => ?_)
 have SN := Hn (And.intro (cell_keep HH.out.1 hbb) (cell_keep HH.out.2 hbb))
 have TB := Hn ((twoL F6.out.1 htb hbb hrg F6.out.2.2.2.1 F6.out.2.2.2.2 : Zm S6 _ tb 2 _ _))
 replace F6 := Hn ((And.intro (F6.out.1.keep hbb) (And.intro (F6.out.2.1.trans (Gs.bl hbb) F6.out.2.2.1) F6.out.2.2.1)))
 clear HH htb hbb hrg
 simp only [Act.put, sA, sB, sC]
 refine hK.out _ _ SN.out (fun hH3 => ?_)
 clear hK K SN
 refine ar [14] ?_
 refine ac sh2o_14 (fun K hK => ?_) AllReadyH.nil
 unfold sh2o_14 oO
 have HH := Hn hH3
 clear hH3
 go_simp
 refine (C14.out _ S6 tb P5 c5 P6 c6 F6.out.1 F6.out.2.1 F6.out.2.2 TB.out).mono ?_
 rintro e wn4 ⟨rfl, S9, d9, g9, k9⟩
 have SN := Hn (And.intro (g9.cell HH.out.1 NB.out.1) (g9.cell HH.out.2 NB.out.2))
 have FE := Hn ((⟨S9, d9, F6.out.2.1.trans g9 F6.out.2.2, F6.out.2.2.trans k9 F6.out.2.1.size⟩ : EoP S d m p3 q b W _))
 clear HH d9 g9 k9 C14 F6 TB
 go_wp2_with fail
 refine hK.out _ _ SN.out (fun hH4 => ?_)
 clear hK K SN
 refine tj 15 sh2o_15 (.slice none 0 0) hH4 (fun w0 hSw => ?_) ?_
 ·(unfold sh2o_15 oO; clear hSw; go_simp)
 simp only [sh2o_15, oO, Act.put, sA, sB, sC]
 have HH := Hn hH4
 have FQ := Hn (HQ.out _ P5 P6 c5 c6 tb FE.out)
 refine wpAnyH_done (by kernel_rfl) ?_ _
 refine NoPanic.normal ?_
 exact FQ.out
end Ci
end Go.Proofs.YtljmgfclhbadjaaGreatDoor
