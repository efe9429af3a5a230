import Derived.Test.YtebmaneogekhjaaGreatDoorTk
import Derived.Test.YtebmaneogekhjaaGreatDoorDgz
namespace Go.Proofs.YtebmaneogekhjaaGreatDoor
open Go.RowKit
set_option linter.unusedVariables false
set_option linter.unusedSimpArgs false
open Cm (Wr Tm co bf Ls lf ins Eqm)
namespace Ci
set_option maxRecDepth 100000
set_option maxHeartbeats 16000000
def Lf3 (S : Nat → Prop) (d m : Nat) (p : Pz) (q b : Nat) (K : Int) (x : World) (v1 v2 v3 : Value) (w' : World) : Prop := ∃ S', Ds S' d m p q b w' ∧ Gs S x w' ∧ Sk S S' x ∧ Zo S' w' v1 [((2, K), 1)] ∧ Zo S' w' v2 [((3, K), 1)] ∧ Zo S' w' v3 [((4, K), 1)]
def fb2o_0 : Oper := { dst := some 13, op := Op.move (Operand.tmp 0), type := 23, pos := "bits.go:62", after := #[], guard := none }
def fb2o_1 : Oper := { dst := some 14, op := Op.load 47 (Operand.tmp 5), type := 47, pos := "bits.go:62", after := #[], guard := none }
def fb2o_2 : Oper := { dst := some 15, op := Op.load 47 (Operand.tmp 5), type := 47, pos := "bits.go:62", after := #[], guard := none }
def fb2o_3 : Oper := { dst := some 16, op := Op.call { callee := Callee.value (Operand.func 78), args := #[Operand.const (Value.int IntKind.u64 1)], argTypes := #[45] }, type := 47, pos := "bits.go:62", after := #[], guard := none }
def fb2o_4 : Oper := { dst := some 17, op := Op.call { callee := Callee.value (Operand.func 135), args := #[Operand.tmp 15, Operand.tmp 16], argTypes := #[47, 47] }, type := 47, pos := "bits.go:62", after := #[{ on := 2, ground := Ground.data }, { on := 3, ground := Ground.data }, { on := 3, ground := Ground.chain }], guard := none }
def fb2o_5 : Oper := { dst := some 18, op := Op.call { callee := Callee.value (Operand.func 99), args := #[Operand.tmp 13, Operand.tmp 14, Operand.tmp 17], argTypes := #[23, 47, 47] }, type := 142, pos := "bits.go:62", after := #[{ on := 0, ground := Ground.data }, { on := 1, ground := Ground.data }, { on := 4, ground := Ground.data }, { on := 4, ground := Ground.chain }], guard := none }
def fb2o_6 : Oper := { dst := some 12, op := Op.move (Operand.tmp 18), type := 142, pos := "bits.go:62", after := #[{ on := 5, ground := Ground.data }], guard := none }
def fb2o_7 : Oper := { dst := some 19, op := Op.extract (Operand.tmp 12) 0, type := 49, pos := "bits.go:62", after := #[{ on := 6, ground := Ground.data }], guard := none }
def fb2o_8 : Oper := { dst := some 20, op := Op.extract (Operand.tmp 12) 1, type := 49, pos := "bits.go:62", after := #[{ on := 6, ground := Ground.data }, { on := 10, ground := Ground.gcOnly Departure.lateStores }], guard := none }
def fb2o_9 : Oper := { dst := some 21, op := Op.extract (Operand.tmp 12) 2, type := 49, pos := "bits.go:62", after := #[{ on := 6, ground := Ground.data }, { on := 11, ground := Ground.gcOnly Departure.lateStores }], guard := none }
def fb2o_10 : Oper := { dst := some 6, op := Op.assign (Operand.tmp 19), type := 49, pos := "bits.go:62", after := #[{ on := 7, ground := Ground.data }, { on := 5, ground := Ground.chain }, { on := 0, ground := Ground.phase }, { on := 1, ground := Ground.phase }, { on := 2, ground := Ground.phase }, { on := 3, ground := Ground.phase }, { on := 4, ground := Ground.phase }, { on := 5, ground := Ground.phase }, { on := 6, ground := Ground.phase }, { on := 7, ground := Ground.phase }, { on := 8, ground := Ground.textOnly Departure.lateStores }, { on := 9, ground := Ground.textOnly Departure.lateStores }], guard := none }
def fb2o_11 : Oper := { dst := some 7, op := Op.assign (Operand.tmp 20), type := 49, pos := "bits.go:62", after := #[{ on := 8, ground := Ground.data }, { on := 10, ground := Ground.chain }, { on := 0, ground := Ground.phase }, { on := 1, ground := Ground.phase }, { on := 2, ground := Ground.phase }, { on := 3, ground := Ground.phase }, { on := 4, ground := Ground.phase }, { on := 5, ground := Ground.phase }, { on := 6, ground := Ground.phase }, { on := 7, ground := Ground.phase }, { on := 8, ground := Ground.phase }, { on := 9, ground := Ground.textOnly Departure.lateStores }, { on := 10, ground := Ground.phase }], guard := none }
def fb2o_12 : Oper := { dst := some 8, op := Op.assign (Operand.tmp 21), type := 49, pos := "bits.go:62", after := #[{ on := 9, ground := Ground.data }, { on := 11, ground := Ground.chain }, { on := 0, ground := Ground.phase }, { on := 1, ground := Ground.phase }, { on := 2, ground := Ground.phase }, { on := 3, ground := Ground.phase }, { on := 4, ground := Ground.phase }, { on := 5, ground := Ground.phase }, { on := 6, ground := Ground.phase }, { on := 7, ground := Ground.phase }, { on := 8, ground := Ground.phase }, { on := 9, ground := Ground.phase }, { on := 10, ground := Ground.phase }, { on := 11, ground := Ground.phase }], guard := none }
def fb2o : Array Oper := #[fb2o_0, fb2o_1, fb2o_2, fb2o_3, fb2o_4, fb2o_5, fb2o_6, fb2o_7, fb2o_8, fb2o_9, fb2o_10, fb2o_11, fb2o_12]
set_option maxRecDepth 100000 in
set_option maxHeartbeats 16000000 in
theorem fb2 (Q : Exit → Act → World → Prop) (S : Nat → Prop) (d m q b xa : Nat) (p : Pz) (Kg : Int) (k z : E4) (u1 u2 u3 u4 u6 u7 u8 u9 u10 u11 u12 u13 u14 u15 u16 u17 u18 u19 u20 u21 u22 u23 u24 u25 u26 u27 u28 u29 u30 u31 : Value) (W : World)
  (q0 : W.cell? ⟨xa, 0, none⟩ = some (.int .u64 k.x0)) (q1 : W.cell? ⟨xa, 1, none⟩ = some (.int .u64 k.x1)) (q2 : W.cell? ⟨xa, 2, none⟩ = some (.int .u64 k.x2)) (q3 : W.cell? ⟨xa, 3, none⟩ = some (.int .u64 k.x3)) (na : Hid (¬ S xa))
  (C3 : Hid (∀ y, Calls Tryz.prog 78 #[.int .u64 1] y fun e w' => e = .returned (.agg #[.int .u64 1, .int .u64 0, .int .u64 0, .int .u64 0]) ∧ Below y.heap.size y w'))
  (C4 : Hid (∀ y, Below W.heap.size W y → Calls Tryz.prog 135 #[.agg #[.int .u64 k.x0, .int .u64 k.x1, .int .u64 k.x2, .int .u64 k.x3], .agg #[.int .u64 1, .int .u64 0, .int .u64 0, .int .u64 0]] y fun e w' => e = .returned (.agg #[.int .u64 z.x0, .int .u64 z.x1, .int .u64 z.x2, .int .u64 z.x3]) ∧ Below y.heap.size y w'))
  (C5 : Hid (∀ y, Below W.heap.size W y → Calls Tryz.prog 99 #[.pointer (some ⟨d, 0, none⟩), .agg #[.int .u64 k.x0, .int .u64 k.x1, .int .u64 k.x2, .int .u64 k.x3], .agg #[.int .u64 z.x0, .int .u64 z.x1, .int .u64 z.x2, .int .u64 z.x3]] y fun e w' => LfP S d m p q b Kg y e w'))
  (HQ : Hid (∀ (wz : World) (v1 v2 v3 : Value), Lf3 S d m p q b Kg W v1 v2 v3 wz → Q .normal ⟨#[.pointer (some ⟨d, 0, none⟩), u1, u2, u3, u4, .pointer (some ⟨xa, 0, none⟩), v1, v2, v3, u9, u10, u11, .tuple #[v1, v2, v3], .pointer (some ⟨d, 0, none⟩), .agg #[.int .u64 k.x0, .int .u64 k.x1, .int .u64 k.x2, .int .u64 k.x3], .agg #[.int .u64 k.x0, .int .u64 k.x1, .int .u64 k.x2, .int .u64 k.x3], .agg #[.int .u64 1, .int .u64 0, .int .u64 0, .int .u64 0], .agg #[.int .u64 z.x0, .int .u64 z.x1, .int .u64 z.x2, .int .u64 z.x3], .tuple #[v1, v2, v3], v1, v2, v3, u22, u23, u24, u25, u26, u27, u28, u29, u30, u31], []⟩ wz)) : (Code.region 2 fb2o true).wp Tryz.prog Q ⟨#[.pointer (some ⟨d, 0, none⟩), u1, u2, u3, u4, .pointer (some ⟨xa, 0, none⟩), u6, u7, u8, u9, u10, u11, u12, u13, u14, u15, u16, u17, u18, u19, u20, u21, u22, u23, u24, u25, u26, u27, u28, u29, u30, u31], []⟩ W := by
 have BB := hidden (bl_drew W)
 unfold fb2o
 refine wp_region_noPanic ?_
 refine wp_region_held_drew (S := fun x => x.cell? ⟨xa, 0, none⟩ = some (.int .u64 k.x0) ∧ x.cell? ⟨xa, 1, none⟩ = some (.int .u64 k.x1) ∧ x.cell? ⟨xa, 2, none⟩ = some (.int .u64 k.x2) ∧ x.cell? ⟨xa, 3, none⟩ = some (.int .u64 k.x3)) (by kernel_rfl) (⟨cell_keep q0 (bl_drew W), cell_keep q1 (bl_drew W), cell_keep q2 (bl_drew W), cell_keep q3 (bl_drew W)⟩) (fun hH0 => ?_)
 refine tk 0 fb2o_0 (.pointer (some ⟨d, 0, none⟩)) rfl (by kernel_rfl) hH0 rfl (fun w0 hSw => ?_) ?_
 ·(unfold fb2o_0; clear hSw; go_simp)
 simp only [fb2o_0, Act.put, sA, sB, sC]
 refine tk 1 fb2o_1 (.agg #[.int .u64 k.x0, .int .u64 k.x1, .int .u64 k.x2, .int .u64 k.x3]) rfl (by kernel_rfl) hH0 rfl (fun w0 hSw => ?_) ?_
 ·(unfold fb2o_1; have hS : w0.cell? ⟨xa, 0, none⟩ = some (.int .u64 k.x0) ∧ w0.cell? ⟨xa, 1, none⟩ = some (.int .u64 k.x1) ∧ w0.cell? ⟨xa, 2, none⟩ = some (.int .u64 k.x2) ∧ w0.cell? ⟨xa, 3, none⟩ = some (.int .u64 k.x3) := hSw; have a0 := hS.1; have a1 := hS.2.1; have a2 := hS.2.2.1; have a3 := hS.2.2.2; clear hS hSw; go_simp)
 simp only [fb2o_1, Act.put, sA, sB, sC]
 refine tk 2 fb2o_2 (.agg #[.int .u64 k.x0, .int .u64 k.x1, .int .u64 k.x2, .int .u64 k.x3]) rfl (by kernel_rfl) hH0 rfl (fun w0 hSw => ?_) ?_
 ·(unfold fb2o_2; have hS : w0.cell? ⟨xa, 0, none⟩ = some (.int .u64 k.x0) ∧ w0.cell? ⟨xa, 1, none⟩ = some (.int .u64 k.x1) ∧ w0.cell? ⟨xa, 2, none⟩ = some (.int .u64 k.x2) ∧ w0.cell? ⟨xa, 3, none⟩ = some (.int .u64 k.x3) := hSw; have a0 := hS.1; have a1 := hS.2.1; have a2 := hS.2.2.1; have a3 := hS.2.2.2; clear hS hSw; go_simp)
 simp only [fb2o_2, Act.put, sA, sB, sC]
 refine wpAnyH_ready (rs := [3]) (by kernel_rfl) (by simp) ?_
 refine AllReadyH.cons (o := fb2o_3) rfl (fun K hK => ?_) AllReadyH.nil
 unfold fb2o_3
 have HH := hidden hH0
 clear hH0
 go_simp
 refine (C3.out _).mono ?_
 rintro e wn1 ⟨rfl, hb⟩
 have SN := hidden (And.intro (cell_keep HH.out.1 hb) (And.intro (cell_keep HH.out.2.1 hb) (And.intro (cell_keep HH.out.2.2.1 hb) (cell_keep HH.out.2.2.2 hb))))
 replace BB := hidden (bl_trans BB.out hb)
 clear HH hb C3
 go_wp2_with fail
 refine hK.out _ _ SN.out (fun hH1 => ?_)
 clear hK K SN
 refine wpAnyH_ready (rs := [4]) (by kernel_rfl) (by simp) ?_
 refine AllReadyH.cons (o := fb2o_4) rfl (fun K hK => ?_) AllReadyH.nil
 unfold fb2o_4
 have HH := hidden hH1
 clear hH1
 go_simp
 refine (C4.out _ BB.out).mono ?_
 rintro e wn2 ⟨rfl, hb⟩
 have SN := hidden (And.intro (cell_keep HH.out.1 hb) (And.intro (cell_keep HH.out.2.1 hb) (And.intro (cell_keep HH.out.2.2.1 hb) (cell_keep HH.out.2.2.2 hb))))
 replace BB := hidden (bl_trans BB.out hb)
 clear HH hb C4
 go_wp2_with fail
 refine hK.out _ _ SN.out (fun hH2 => ?_)
 clear hK K SN
 refine wpAnyH_ready (rs := [5]) (by kernel_rfl) (by simp) ?_
 refine AllReadyH.cons (o := fb2o_5) rfl (fun K hK => ?_) AllReadyH.nil
 unfold fb2o_5
 have HH := hidden hH2
 clear hH2
 go_simp
 refine (C5.out _ BB.out).mono ?_
 rintro e wn3 ⟨S5, v1, v2, v3, rfl, d5, g5, k5, z5⟩
 have SN := hidden (And.intro (g5.cell HH.out.1 na.out) (And.intro (g5.cell HH.out.2.1 na.out) (And.intro (g5.cell HH.out.2.2.1 na.out) (g5.cell HH.out.2.2.2 na.out))))
 have FE := hidden ((⟨S5, d5, (Gs.bl BB.out).trans g5 Sk.refl, Sk.trans Sk.refl k5 BB.out.size, z5⟩ : Lf3 S d m p q b Kg W v1 v2 v3 _))
 clear HH d5 g5 k5 z5 C5
 go_wp2_with fail
 refine hK.out _ _ SN.out (fun hH3 => ?_)
 clear hK K SN
 refine tk 6 fb2o_6 (.tuple #[v1, v2, v3]) rfl (by kernel_rfl) hH3 rfl (fun w0 hSw => ?_) ?_
 ·(unfold fb2o_6; clear hSw; go_simp)
 simp only [fb2o_6, Act.put, sA, sB, sC]
 refine tk 7 fb2o_7 (v1) rfl (by kernel_rfl) hH3 rfl (fun w0 hSw => ?_) ?_
 ·(unfold fb2o_7; clear hSw; go_simp)
 simp only [fb2o_7, Act.put, sA, sB, sC]
 refine tk 8 fb2o_8 (v2) rfl (by kernel_rfl) hH3 rfl (fun w0 hSw => ?_) ?_
 ·(unfold fb2o_8; clear hSw; go_simp)
 simp only [fb2o_8, Act.put, sA, sB, sC]
 refine tk 9 fb2o_9 (v3) rfl (by kernel_rfl) hH3 rfl (fun w0 hSw => ?_) ?_
 ·(unfold fb2o_9; clear hSw; go_simp)
 simp only [fb2o_9, Act.put, sA, sB, sC]
 refine tk 10 fb2o_10 (v1) rfl (by kernel_rfl) hH3 rfl (fun w0 hSw => ?_) ?_
 ·(unfold fb2o_10; clear hSw; go_simp)
 simp only [fb2o_10, Act.put, sA, sB, sC]
 refine tk 11 fb2o_11 (v2) rfl (by kernel_rfl) hH3 rfl (fun w0 hSw => ?_) ?_
 ·(unfold fb2o_11; clear hSw; go_simp)
 simp only [fb2o_11, Act.put, sA, sB, sC]
 refine tk 12 fb2o_12 (v3) rfl (by kernel_rfl) hH3 rfl (fun w0 hSw => ?_) ?_
 ·(unfold fb2o_12; clear hSw; go_simp)
 simp only [fb2o_12, Act.put, sA, sB, sC]
 have HH := hidden hH3
 have FQ := hidden (HQ.out _ v1 v2 v3 FE.out)
 refine wpAnyH_done (by kernel_rfl) ?_ _
 refine NoPanic.normal ?_
 exact FQ.out
end Ci
end Go.Proofs.YtebmaneogekhjaaGreatDoor
