import Derived.Test.YtljmgfclhbadjaaGreatDoorTk
import Derived.Test.YtljmgfclhbadjaaGreatDoorDgz
namespace Go.Proofs.YtljmgfclhbadjaaGreatDoor
set_option maxRecDepth 100000
set_option maxHeartbeats 16000000
open Go.RowKit
set_option linter.unusedVariables false
set_option linter.unusedSimpArgs false
open Cm (Wr Tm co bf Ls lf ins Eqm)
namespace Ci
def Lf3 (S : Nat → Prop) (d m : Nat) (p : Pz) (q b : Nat) (K : Int) (x : World) (v1 v2 v3 : Value) (w' : World) : Prop := ∃ S', Ds S' d m p q b w' ∧ Gs S x w' ∧ Sk S S' x ∧ Zo S' w' v1 [((2, K), 1)] ∧ Zo S' w' v2 [((3, K), 1)] ∧ Zo S' w' v3 [((4, K), 1)]
def fb2o_0 : Oper := oO 13 (Op.move (Operand.tmp 0)) 33 "bits.go:62" #[]
def fb2o_1 : Oper := oO 14 (Op.load 53 (Operand.tmp 5)) 53 "bits.go:62" #[]
def fb2o_2 : Oper := oO 15 (Op.load 53 (Operand.tmp 5)) 53 "bits.go:62" #[]
def fb2o_3 : Oper := oO 16 (Op.call { callee := Callee.value (Operand.func 120), args := #[Operand.const (Value.int IntKind.u64 1)], argTypes := #[25] }) 53 "bits.go:62" #[]
def fb2o_4 : Oper := oO 17 (Op.call { callee := Callee.value (Operand.func 215), args := #[Operand.tmp 15, Operand.tmp 16], argTypes := #[53, 53] }) 53 "bits.go:62" #[DD 2, DD 3, CH 3]
def fb2o_5 : Oper := oO 18 (Op.call { callee := Callee.value (Operand.func 245), args := #[Operand.tmp 13, Operand.tmp 14, Operand.tmp 17], argTypes := #[33, 53, 53] }) 298 "bits.go:62" #[DD 0, DD 1, DD 4, CH 4]
def fb2o_6 : Oper := oO 12 (Op.move (Operand.tmp 18)) 298 "bits.go:62" #[DD 5]
def fb2o_7 : Oper := oO 19 (Op.extract (Operand.tmp 12) 0) 50 "bits.go:62" #[DD 6]
def fb2o_8 : Oper := oO 20 (Op.extract (Operand.tmp 12) 1) 50 "bits.go:62" #[DD 6, { on := 10, ground := Ground.gcOnly Departure.lateStores }]
def fb2o_9 : Oper := oO 21 (Op.extract (Operand.tmp 12) 2) 50 "bits.go:62" #[DD 6, { on := 11, ground := Ground.gcOnly Departure.lateStores }]
def fb2o_10 : Oper := oO 6 (Op.assign (Operand.tmp 19)) 50 "bits.go:62" #[DD 7, CH 5, PH 0, PH 1, PH 2, PH 3, PH 4, PH 5, PH 6, PH 7, { on := 8, ground := Ground.textOnly Departure.lateStores }, { on := 9, ground := Ground.textOnly Departure.lateStores }]
def fb2o_11 : Oper := oO 7 (Op.assign (Operand.tmp 20)) 50 "bits.go:62" #[DD 8, CH 10, PH 0, PH 1, PH 2, PH 3, PH 4, PH 5, PH 6, PH 7, PH 8, { on := 9, ground := Ground.textOnly Departure.lateStores }, PH 10]
def fb2o_12 : Oper := oO 8 (Op.assign (Operand.tmp 21)) 50 "bits.go:62" #[DD 9, CH 11, PH 0, PH 1, PH 2, PH 3, PH 4, PH 5, PH 6, PH 7, PH 8, PH 9, PH 10, PH 11]
def fb2o : Array Oper := #[fb2o_0, fb2o_1, fb2o_2, fb2o_3, fb2o_4, fb2o_5, fb2o_6, fb2o_7, fb2o_8, fb2o_9, fb2o_10, fb2o_11, fb2o_12]
theorem fb2 (Q : Exit → Act → World → Prop) (S : Nat → Prop) (d m q b xa : Nat) (p : Pz) (Kg : Int) (k z : E4) (u1 u2 u3 u4 u6 u7 u8 u9 aa ab ad ae af ag ah ai aj ak al am an ao ap aq au av aw ax ay az : Value) (W : World)
  (q0 : W.cell? ⟨xa, 0, none⟩ = some (.int .u64 k.x0)) (q1 : W.cell? ⟨xa, 1, none⟩ = some (.int .u64 k.x1)) (q2 : W.cell? ⟨xa, 2, none⟩ = some (.int .u64 k.x2)) (q3 : W.cell? ⟨xa, 3, none⟩ = some (.int .u64 k.x3)) (na : Hid (¬ S xa))
  (C3 : Hid (∀ y, Calls Tryz.prog 120 #[.int .u64 1] y fun e w' => e = .returned (.agg #[.int .u64 1, .int .u64 0, .int .u64 0, .int .u64 0]) ∧ Below y.heap.size y w'))
  (C4 : Hid (∀ y, Below W.heap.size W y → Calls Tryz.prog 215 #[.agg #[.int .u64 k.x0, .int .u64 k.x1, .int .u64 k.x2, .int .u64 k.x3], .agg #[.int .u64 1, .int .u64 0, .int .u64 0, .int .u64 0]] y fun e w' => e = .returned (.agg #[.int .u64 z.x0, .int .u64 z.x1, .int .u64 z.x2, .int .u64 z.x3]) ∧ Below y.heap.size y w'))
  (C5 : Hid (∀ y, Below W.heap.size W y → Calls Tryz.prog 245 #[.pointer (some ⟨d, 0, none⟩), .agg #[.int .u64 k.x0, .int .u64 k.x1, .int .u64 k.x2, .int .u64 k.x3], .agg #[.int .u64 z.x0, .int .u64 z.x1, .int .u64 z.x2, .int .u64 z.x3]] y fun e w' => LfP S d m p q b Kg y e w'))
  (HQ : Hid (∀ (wz : World) (v1 v2 v3 : Value), Lf3 S d m p q b Kg W v1 v2 v3 wz → Q .normal ⟨#[.pointer (some ⟨d, 0, none⟩), u1, u2, u3, u4, .pointer (some ⟨xa, 0, none⟩), v1, v2, v3, u9, aa, ab, .tuple #[v1, v2, v3], .pointer (some ⟨d, 0, none⟩), .agg #[.int .u64 k.x0, .int .u64 k.x1, .int .u64 k.x2, .int .u64 k.x3], .agg #[.int .u64 k.x0, .int .u64 k.x1, .int .u64 k.x2, .int .u64 k.x3], .agg #[.int .u64 1, .int .u64 0, .int .u64 0, .int .u64 0], .agg #[.int .u64 z.x0, .int .u64 z.x1, .int .u64 z.x2, .int .u64 z.x3], .tuple #[v1, v2, v3], v1, v2, v3, an, ao, ap, aq, au, av, aw, ax, ay, az], []⟩ wz)) : (Code.region 2 fb2o true).wp Tryz.prog Q ⟨#[.pointer (some ⟨d, 0, none⟩), u1, u2, u3, u4, .pointer (some ⟨xa, 0, none⟩), u6, u7, u8, u9, aa, ab, ad, ae, af, ag, ah, ai, aj, ak, al, am, an, ao, ap, aq, au, av, aw, ax, ay, az], []⟩ W := by
 have BB := Hn (bl_drew W)
 unfold fb2o
 refine wp_region_noPanic ?_
 refine wp_region_held_drew (S := fun x => x.cell? ⟨xa, 0, none⟩ = some (.int .u64 k.x0) ∧ x.cell? ⟨xa, 1, none⟩ = some (.int .u64 k.x1) ∧ x.cell? ⟨xa, 2, none⟩ = some (.int .u64 k.x2) ∧ x.cell? ⟨xa, 3, none⟩ = some (.int .u64 k.x3)) (by kernel_rfl) (⟨cell_keep q0 (bl_drew W), cell_keep q1 (bl_drew W), cell_keep q2 (bl_drew W), cell_keep q3 (bl_drew W)⟩) (fun hH0 => ?_)
 refine tj 0 fb2o_0 (.pointer (some ⟨d, 0, none⟩)) hH0 (fun w0 hSw => ?_) ?_
 ·(unfold fb2o_0 oO; clear hSw; go_simp)
 simp only [fb2o_0, oO, Act.put, sA, sB, sC]
 refine tj 1 fb2o_1 (.agg #[.int .u64 k.x0, .int .u64 k.x1, .int .u64 k.x2, .int .u64 k.x3]) hH0 (fun w0 hSw => ?_) ?_
 ·(unfold fb2o_1 oO; have hS : w0.cell? ⟨xa, 0, none⟩ = some (.int .u64 k.x0) ∧ w0.cell? ⟨xa, 1, none⟩ = some (.int .u64 k.x1) ∧ w0.cell? ⟨xa, 2, none⟩ = some (.int .u64 k.x2) ∧ w0.cell? ⟨xa, 3, none⟩ = some (.int .u64 k.x3) := hSw; have a0 := hS.1; have a1 := hS.2.1; have a2 := hS.2.2.1; have a3 := hS.2.2.2; clear hS hSw; go_simp)
 simp only [fb2o_1, oO, Act.put, sA, sB, sC]
 refine tj 2 fb2o_2 (.agg #[.int .u64 k.x0, .int .u64 k.x1, .int .u64 k.x2, .int .u64 k.x3]) hH0 (fun w0 hSw => ?_) ?_
 ·(unfold fb2o_2 oO; have hS : w0.cell? ⟨xa, 0, none⟩ = some (.int .u64 k.x0) ∧ w0.cell? ⟨xa, 1, none⟩ = some (.int .u64 k.x1) ∧ w0.cell? ⟨xa, 2, none⟩ = some (.int .u64 k.x2) ∧ w0.cell? ⟨xa, 3, none⟩ = some (.int .u64 k.x3) := hSw; have a0 := hS.1; have a1 := hS.2.1; have a2 := hS.2.2.1; have a3 := hS.2.2.2; clear hS hSw; go_simp)
 simp only [fb2o_2, oO, Act.put, sA, sB, sC]
 refine ar [3] ?_
 refine ac fb2o_3 (fun K hK => ?_) AllReadyH.nil
 unfold fb2o_3 oO
 have HH := Hn hH0
 clear hH0
 go_simp
 refine (C3.out _).mono ?_
 rintro e wn1 ⟨rfl, hb⟩
 have SN := Hn (And.intro (cell_keep HH.out.1 hb) (And.intro (cell_keep HH.out.2.1 hb) (And.intro (cell_keep HH.out.2.2.1 hb) (cell_keep HH.out.2.2.2 hb))))
 replace BB := Hn (bl_trans BB.out hb)
 clear HH hb C3
 go_wp2_with fail
 refine hK.out _ _ SN.out (fun hH1 => ?_)
 clear hK K SN
 refine ar [4] ?_
 refine ac fb2o_4 (fun K hK => ?_) AllReadyH.nil
 unfold fb2o_4 oO
 have HH := Hn hH1
 clear hH1
 go_simp
 refine (C4.out _ BB.out).mono ?_
 rintro e wn2 ⟨rfl, hb⟩
 have SN := Hn (And.intro (cell_keep HH.out.1 hb) (And.intro (cell_keep HH.out.2.1 hb) (And.intro (cell_keep HH.out.2.2.1 hb) (cell_keep HH.out.2.2.2 hb))))
 replace BB := Hn (bl_trans BB.out hb)
 clear HH hb C4
 go_wp2_with fail
 refine hK.out _ _ SN.out (fun hH2 => ?_)
 clear hK K SN
 refine ar [5] ?_
 refine ac fb2o_5 (fun K hK => ?_) AllReadyH.nil
 unfold fb2o_5 oO
 have HH := Hn hH2
 clear hH2
 go_simp
 refine (C5.out _ BB.out).mono ?_
 rintro e wn3 ⟨S5, v1, v2, v3, rfl, d5, g5, k5, z5⟩
 have SN := Hn (And.intro (g5.cell HH.out.1 na.out) (And.intro (g5.cell HH.out.2.1 na.out) (And.intro (g5.cell HH.out.2.2.1 na.out) (g5.cell HH.out.2.2.2 na.out))))
 have FE := Hn ((⟨S5, d5, (Gs.bl BB.out).trans g5 Sk.refl, Sk.trans Sk.refl k5 BB.out.size, z5⟩ : Lf3 S d m p q b Kg W v1 v2 v3 _))
 clear HH d5 g5 k5 z5 C5
 go_wp2_with fail
 refine hK.out _ _ SN.out (fun hH3 => ?_)
 clear hK K SN
 refine tj 6 fb2o_6 (.tuple #[v1, v2, v3]) hH3 (fun w0 hSw => ?_) ?_
 ·(unfold fb2o_6 oO; clear hSw; go_simp)
 simp only [fb2o_6, oO, Act.put, sA, sB, sC]
 refine tj 7 fb2o_7 (v1) hH3 (fun w0 hSw => ?_) ?_
 ·(unfold fb2o_7 oO; clear hSw; go_simp)
 simp only [fb2o_7, oO, Act.put, sA, sB, sC]
 refine tj 8 fb2o_8 (v2) hH3 (fun w0 hSw => ?_) ?_
 ·(unfold fb2o_8 oO; clear hSw; go_simp)
 simp only [fb2o_8, oO, Act.put, sA, sB, sC]
 refine tj 9 fb2o_9 (v3) hH3 (fun w0 hSw => ?_) ?_
 ·(unfold fb2o_9 oO; clear hSw; go_simp)
 simp only [fb2o_9, oO, Act.put, sA, sB, sC]
 refine tj 10 fb2o_10 (v1) hH3 (fun w0 hSw => ?_) ?_
 ·(unfold fb2o_10 oO; clear hSw; go_simp)
 simp only [fb2o_10, oO, Act.put, sA, sB, sC]
 refine tj 11 fb2o_11 (v2) hH3 (fun w0 hSw => ?_) ?_
 ·(unfold fb2o_11 oO; clear hSw; go_simp)
 simp only [fb2o_11, oO, Act.put, sA, sB, sC]
 refine tj 12 fb2o_12 (v3) hH3 (fun w0 hSw => ?_) ?_
 ·(unfold fb2o_12 oO; clear hSw; go_simp)
 simp only [fb2o_12, oO, Act.put, sA, sB, sC]
 have HH := Hn hH3
 have FQ := Hn (HQ.out _ v1 v2 v3 FE.out)
 refine wpAnyH_done (by kernel_rfl) ?_ _
 refine NoPanic.normal ?_
 exact FQ.out
end Ci
end Go.Proofs.YtljmgfclhbadjaaGreatDoor
