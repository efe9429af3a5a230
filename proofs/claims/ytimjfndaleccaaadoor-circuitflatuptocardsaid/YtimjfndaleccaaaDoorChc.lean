import Derived.Test.YtimjfndaleccaaaDoorTk
import Derived.Test.YtimjfndaleccaaaDoorCgg
import Derived.Test.YtimjfndaleccaaaDoorCfe
import Derived.Laws.AppendOwnNone
namespace Go.Proofs.YtimjfndaleccaaaDoor
open Go.RowKit
set_option linter.unusedVariables false
set_option linter.unusedSimpArgs false
open Cm (Wr Tm co bf Ls lf ins Eqm)
namespace Ci
set_option maxRecDepth 100000
set_option maxHeartbeats 8000000
def lm4o_0 : Oper := { dst := some 11, op := Op.fieldAddr 31 (Operand.tmp 1) 0, type := 0, pos := "outright.go:131", after := #[], guard := none }
def lm4o_1 : Oper := { dst := some 12, op := Op.load 23 (Operand.tmp 11), type := 23, pos := "outright.go:131", after := #[{ on := 0, ground := Ground.data }], guard := none }
def lm4o_2 : Oper := { dst := some 13, op := Op.move (Operand.tmp 3), type := 3, pos := "outright.go:131", after := #[], guard := none }
def lm4o_3 : Oper := { dst := some 14, op := Op.indexAddr 23 (Operand.tmp 12) (Operand.tmp 13), type := 0, pos := "outright.go:131", after := #[{ on := 1, ground := Ground.data }, { on := 2, ground := Ground.data }], guard := none }
def lm4o_4 : Oper := { dst := some 15, op := Op.load 26 (Operand.tmp 14), type := 26, pos := "outright.go:131", after := #[{ on := 3, ground := Ground.data }], guard := none }
def lm4o_5 : Oper := { dst := some 16, op := Op.fieldAddr 31 (Operand.tmp 1) 1, type := 0, pos := "outright.go:131", after := #[], guard := none }
def lm4o_6 : Oper := { dst := some 17, op := Op.load 23 (Operand.tmp 16), type := 23, pos := "outright.go:131", after := #[{ on := 5, ground := Ground.data }], guard := none }
def lm4o_7 : Oper := { dst := some 18, op := Op.move (Operand.tmp 3), type := 3, pos := "outright.go:131", after := #[], guard := none }
def lm4o_8 : Oper := { dst := some 19, op := Op.indexAddr 23 (Operand.tmp 17) (Operand.tmp 18), type := 0, pos := "outright.go:131", after := #[{ on := 6, ground := Ground.data }, { on := 7, ground := Ground.data }], guard := none }
def lm4o_9 : Oper := { dst := some 20, op := Op.load 26 (Operand.tmp 19), type := 26, pos := "outright.go:131", after := #[{ on := 8, ground := Ground.data }], guard := none }
def lm4o_10 : Oper := { dst := some 21, op := Op.call { callee := Callee.value (Operand.func 14), args := #[Operand.tmp 15, Operand.tmp 20], argTypes := #[26, 26] }, type := 26, pos := "outright.go:131", after := #[{ on := 4, ground := Ground.data }, { on := 9, ground := Ground.data }], guard := none }
def lm4o_11 : Oper := { dst := some 22, op := Op.fieldAddr 31 (Operand.tmp 1) 2, type := 0, pos := "outright.go:131", after := #[], guard := none }
def lm4o_12 : Oper := { dst := some 23, op := Op.load 23 (Operand.tmp 22), type := 23, pos := "outright.go:131", after := #[{ on := 11, ground := Ground.data }], guard := none }
def lm4o_13 : Oper := { dst := some 24, op := Op.move (Operand.tmp 3), type := 3, pos := "outright.go:131", after := #[], guard := none }
def lm4o_14 : Oper := { dst := some 25, op := Op.indexAddr 23 (Operand.tmp 23) (Operand.tmp 24), type := 0, pos := "outright.go:131", after := #[{ on := 12, ground := Ground.data }, { on := 13, ground := Ground.data }], guard := none }
def lm4o_15 : Oper := { dst := some 26, op := Op.load 26 (Operand.tmp 25), type := 26, pos := "outright.go:131", after := #[{ on := 14, ground := Ground.data }], guard := none }
def lm4o_16 : Oper := { dst := some 27, op := Op.call { callee := Callee.value (Operand.func 18), args := #[Operand.tmp 21, Operand.tmp 26], argTypes := #[26, 26] }, type := 4, pos := "outright.go:131", after := #[{ on := 10, ground := Ground.data }, { on := 15, ground := Ground.data }, { on := 10, ground := Ground.chain }], guard := none }
def lm4o_17 : Oper := { dst := some 28, op := Op.unOp UnOp.not 4 (Operand.tmp 27), type := 4, pos := "outright.go:131", after := #[{ on := 16, ground := Ground.data }], guard := none }
def lm4o : Array Oper := #[lm4o_0, lm4o_1, lm4o_2, lm4o_3, lm4o_4, lm4o_5, lm4o_6, lm4o_7, lm4o_8, lm4o_9, lm4o_10, lm4o_11, lm4o_12, lm4o_13, lm4o_14, lm4o_15, lm4o_16, lm4o_17]
set_option maxRecDepth 100000 in
set_option maxHeartbeats 16000000 in
theorem lm4 (Q : Exit → Act → World → Prop) (ab i lb lo ln lc rb ro rn rc ob oo on oc : Nat) (p q u z : E4) (B : Bool) (u0 u2 u4 u5 u6 u7 u8 u9 u10 u11 u12 u13 u14 u15 u16 u17 u18 u19 u20 u21 u22 u23 u24 u25 u26 u27 u28 : Value) (W : World)
  (i0 : (0 : Int) ≤ (i : Int)) (i1 : (i : Int) < (ln : Int)) (i2 : (i : Int) < (rn : Int)) (i3 : (i : Int) < (on : Int)) (c0 : W.cell? ⟨ab, 0, none⟩ = some (.slice (some ⟨lb, lo, none⟩) ln lc)) (c1 : W.cell? ⟨ab, 1, none⟩ = some (.slice (some ⟨rb, ro, none⟩) rn rc)) (c2 : W.cell? ⟨ab, 2, none⟩ = some (.slice (some ⟨ob, oo, none⟩) on oc))
  (p0 : W.cell? ⟨lb, lo + i * 4, none⟩ = some (.int .u64 p.x0)) (p1 : W.cell? ⟨lb, lo + i * 4 + 1, none⟩ = some (.int .u64 p.x1)) (p2 : W.cell? ⟨lb, lo + i * 4 + 2, none⟩ = some (.int .u64 p.x2)) (p3 : W.cell? ⟨lb, lo + i * 4 + 3, none⟩ = some (.int .u64 p.x3)) (q0 : W.cell? ⟨rb, ro + i * 4, none⟩ = some (.int .u64 q.x0)) (q1 : W.cell? ⟨rb, ro + i * 4 + 1, none⟩ = some (.int .u64 q.x1)) (q2 : W.cell? ⟨rb, ro + i * 4 + 2, none⟩ = some (.int .u64 q.x2)) (q3 : W.cell? ⟨rb, ro + i * 4 + 3, none⟩ = some (.int .u64 q.x3)) (z0 : W.cell? ⟨ob, oo + i * 4, none⟩ = some (.int .u64 z.x0)) (z1 : W.cell? ⟨ob, oo + i * 4 + 1, none⟩ = some (.int .u64 z.x1)) (z2 : W.cell? ⟨ob, oo + i * 4 + 2, none⟩ = some (.int .u64 z.x2)) (z3 : W.cell? ⟨ob, oo + i * 4 + 3, none⟩ = some (.int .u64 z.x3))
  (C1 : Hid (∀ y, Below W.heap.size W y → Calls Tryd.prog 14 #[.agg #[.int .u64 p.x0, .int .u64 p.x1, .int .u64 p.x2, .int .u64 p.x3], .agg #[.int .u64 q.x0, .int .u64 q.x1, .int .u64 q.x2, .int .u64 q.x3]] y fun e w' => e = .returned (.agg #[.int .u64 u.x0, .int .u64 u.x1, .int .u64 u.x2, .int .u64 u.x3]) ∧ Below y.heap.size y w'))
  (C2 : Hid (∀ y, Below W.heap.size W y → Calls Tryd.prog 18 #[.agg #[.int .u64 u.x0, .int .u64 u.x1, .int .u64 u.x2, .int .u64 u.x3], .agg #[.int .u64 z.x0, .int .u64 z.x1, .int .u64 z.x2, .int .u64 z.x3]] y fun e w' => e = .returned (.bool B) ∧ Below y.heap.size y w'))
  (HQ : Hid (∀ (wz : World), Below W.heap.size W wz → Q .normal ⟨#[u0, .pointer (some ⟨ab, 0, none⟩), u2, .int .i64 (i : Int), u4, u5, u6, u7, u8, u9, u10, .pointer (some ⟨ab, 0, none⟩), .slice (some ⟨lb, lo, none⟩) ln lc, .int .i64 (i : Int), .pointer (some ⟨lb, lo + i * 4, none⟩), .agg #[.int .u64 p.x0, .int .u64 p.x1, .int .u64 p.x2, .int .u64 p.x3], .pointer (some ⟨ab, 1, none⟩), .slice (some ⟨rb, ro, none⟩) rn rc, .int .i64 (i : Int), .pointer (some ⟨rb, ro + i * 4, none⟩), .agg #[.int .u64 q.x0, .int .u64 q.x1, .int .u64 q.x2, .int .u64 q.x3], .agg #[.int .u64 u.x0, .int .u64 u.x1, .int .u64 u.x2, .int .u64 u.x3], .pointer (some ⟨ab, 2, none⟩), .slice (some ⟨ob, oo, none⟩) on oc, .int .i64 (i : Int), .pointer (some ⟨ob, oo + i * 4, none⟩), .agg #[.int .u64 z.x0, .int .u64 z.x1, .int .u64 z.x2, .int .u64 z.x3], .bool B, .bool (!B)], []⟩ wz)) : (Code.region 4 lm4o true).wp Tryd.prog Q ⟨#[u0, .pointer (some ⟨ab, 0, none⟩), u2, .int .i64 (i : Int), u4, u5, u6, u7, u8, u9, u10, u11, u12, u13, u14, u15, u16, u17, u18, u19, u20, u21, u22, u23, u24, u25, u26, u27, u28], []⟩ W := by
 unfold lm4o
 refine wp_region_noPanic ?_
 refine wp_region_held_drew (S := fun x => Below W.heap.size W x) (by kernel_rfl) (bl_drew W) (fun hH0 => ?_)
 refine tk 0 lm4o_0 (.pointer (some ⟨ab, 0, none⟩)) rfl (by kernel_rfl) hH0 rfl (fun w0 hSw => ?_) ?_
 ·(unfold lm4o_0; clear hSw; go_simp)
 simp only [lm4o_0, Act.put, sA, sB, sC]
 refine tk 2 lm4o_2 (.int .i64 (i : Int)) rfl (by kernel_rfl) hH0 rfl (fun w0 hSw => ?_) ?_
 ·(unfold lm4o_2; clear hSw; go_simp)
 simp only [lm4o_2, Act.put, sA, sB, sC]
 refine tk 5 lm4o_5 (.pointer (some ⟨ab, 1, none⟩)) rfl (by kernel_rfl) hH0 rfl (fun w0 hSw => ?_) ?_
 ·(unfold lm4o_5; clear hSw; go_simp)
 simp only [lm4o_5, Act.put, sA, sB, sC]
 refine tk 7 lm4o_7 (.int .i64 (i : Int)) rfl (by kernel_rfl) hH0 rfl (fun w0 hSw => ?_) ?_
 ·(unfold lm4o_7; clear hSw; go_simp)
 simp only [lm4o_7, Act.put, sA, sB, sC]
 refine tk 11 lm4o_11 (.pointer (some ⟨ab, 2, none⟩)) rfl (by kernel_rfl) hH0 rfl (fun w0 hSw => ?_) ?_
 ·(unfold lm4o_11; clear hSw; go_simp)
 simp only [lm4o_11, Act.put, sA, sB, sC]
 refine tk 13 lm4o_13 (.int .i64 (i : Int)) rfl (by kernel_rfl) hH0 rfl (fun w0 hSw => ?_) ?_
 ·(unfold lm4o_13; clear hSw; go_simp)
 simp only [lm4o_13, Act.put, sA, sB, sC]
 refine tk 1 lm4o_1 (.slice (some ⟨lb, lo, none⟩) ln lc) rfl (by kernel_rfl) hH0 rfl (fun w0 hSw => ?_) ?_
 ·(unfold lm4o_1; have hS : Below W.heap.size W w0 := hSw; have a0 := cell_keep c0 hS; clear hS hSw; go_simp)
 simp only [lm4o_1, Act.put, sA, sB, sC]
 refine tk 6 lm4o_6 (.slice (some ⟨rb, ro, none⟩) rn rc) rfl (by kernel_rfl) hH0 rfl (fun w0 hSw => ?_) ?_
 ·(unfold lm4o_6; have hS : Below W.heap.size W w0 := hSw; have a0 := cell_keep c1 hS; clear hS hSw; go_simp)
 simp only [lm4o_6, Act.put, sA, sB, sC]
 refine tk 12 lm4o_12 (.slice (some ⟨ob, oo, none⟩) on oc) rfl (by kernel_rfl) hH0 rfl (fun w0 hSw => ?_) ?_
 ·(unfold lm4o_12; have hS : Below W.heap.size W w0 := hSw; have a0 := cell_keep c2 hS; clear hS hSw; go_simp)
 simp only [lm4o_12, Act.put, sA, sB, sC]
 refine tk 3 lm4o_3 (.pointer (some ⟨lb, lo + i * 4, none⟩)) rfl (by kernel_rfl) hH0 rfl (fun w0 hSw => ?_) ?_
 ·(unfold lm4o_3; clear hSw; go_simp)
 simp only [lm4o_3, Act.put, sA, sB, sC]
 refine tk 8 lm4o_8 (.pointer (some ⟨rb, ro + i * 4, none⟩)) rfl (by kernel_rfl) hH0 rfl (fun w0 hSw => ?_) ?_
 ·(unfold lm4o_8; clear hSw; go_simp)
 simp only [lm4o_8, Act.put, sA, sB, sC]
 refine tk 14 lm4o_14 (.pointer (some ⟨ob, oo + i * 4, none⟩)) rfl (by kernel_rfl) hH0 rfl (fun w0 hSw => ?_) ?_
 ·(unfold lm4o_14; clear hSw; go_simp)
 simp only [lm4o_14, Act.put, sA, sB, sC]
 refine tk 4 lm4o_4 (.agg #[.int .u64 p.x0, .int .u64 p.x1, .int .u64 p.x2, .int .u64 p.x3]) rfl (by kernel_rfl) hH0 rfl (fun w0 hSw => ?_) ?_
 ·(unfold lm4o_4; have hS : Below W.heap.size W w0 := hSw; have a0 := cell_keep p0 hS; have a1 := cell_keep p1 hS; have a2 := cell_keep p2 hS; have a3 := cell_keep p3 hS; clear hS hSw; go_simp)
 simp only [lm4o_4, Act.put, sA, sB, sC]
 refine tk 9 lm4o_9 (.agg #[.int .u64 q.x0, .int .u64 q.x1, .int .u64 q.x2, .int .u64 q.x3]) rfl (by kernel_rfl) hH0 rfl (fun w0 hSw => ?_) ?_
 ·(unfold lm4o_9; have hS : Below W.heap.size W w0 := hSw; have a0 := cell_keep q0 hS; have a1 := cell_keep q1 hS; have a2 := cell_keep q2 hS; have a3 := cell_keep q3 hS; clear hS hSw; go_simp)
 simp only [lm4o_9, Act.put, sA, sB, sC]
 refine tk 15 lm4o_15 (.agg #[.int .u64 z.x0, .int .u64 z.x1, .int .u64 z.x2, .int .u64 z.x3]) rfl (by kernel_rfl) hH0 rfl (fun w0 hSw => ?_) ?_
 ·(unfold lm4o_15; have hS : Below W.heap.size W w0 := hSw; have a0 := cell_keep z0 hS; have a1 := cell_keep z1 hS; have a2 := cell_keep z2 hS; have a3 := cell_keep z3 hS; clear hS hSw; go_simp)
 simp only [lm4o_15, Act.put, sA, sB, sC]
 refine wpAnyH_ready (rs := [10]) (by kernel_rfl) (by simp) ?_
 refine AllReadyH.cons (o := lm4o_10) rfl (fun K hK => ?_) AllReadyH.nil
 unfold lm4o_10
 have HH := hidden hH0
 clear hH0
 go_simp
 refine (C1.out _ HH.out).mono ?_
 rintro e wn1 ⟨rfl, hb⟩
 have SN := hidden (bl_trans HH.out hb)
 clear HH C1 hb
 go_wp2_with fail
 refine hK.out _ _ SN.out (fun hH1 => ?_)
 clear hK K SN
 refine wpAnyH_ready (rs := [16]) (by kernel_rfl) (by simp) ?_
 refine AllReadyH.cons (o := lm4o_16) rfl (fun K hK => ?_) AllReadyH.nil
 unfold lm4o_16
 have HH := hidden hH1
 clear hH1
 go_simp
 refine (C2.out _ HH.out).mono ?_
 rintro e wn2 ⟨rfl, hb⟩
 have SN := hidden (bl_trans HH.out hb)
 clear HH C2 hb
 go_wp2_with fail
 refine hK.out _ _ SN.out (fun hH2 => ?_)
 clear hK K SN
 refine tk 17 lm4o_17 (.bool (!B)) rfl (by kernel_rfl) hH2 rfl (fun w0 hSw => ?_) ?_
 ·(unfold lm4o_17; clear hSw; go_simp)
 simp only [lm4o_17, Act.put, sA, sB, sC]
 have HH := hidden hH2
 have FQ := hidden (HQ.out _ HH.out)
 refine wpAnyH_done (by kernel_rfl) ?_ _
 refine NoPanic.normal ?_
 exact FQ.out
theorem lawmul_any (l r o v : Sl) (w : World) (hT : Tb w) (hn : l.n ≤ 4398046510976) (hl : l.at w) (hr : r.at w) (ho : o.at w) (e1 : r.n = l.n) (e2 : o.n = l.n) : Calls Tryd.prog 20 #[.agg #[.slice l.p l.n l.c, .slice r.p r.n r.c, .slice o.p o.n o.c, .slice v.p v.n v.c]] w fun e w' => e = .returned (.bool (mlB l r o)) ∧ Below w.heap.size w w' := by
 have BA := bl_alloc w (.cells #[.slice l.p l.n l.c, .slice r.p r.n r.c, .slice o.p o.n o.c, .slice v.p v.n v.c] 31)
 have c0 : (w.alloc (.cells #[.slice l.p l.n l.c, .slice r.p r.n r.c, .slice o.p o.n o.c, .slice v.p v.n v.c] 31)).cell? ⟨w.heap.size, 0, none⟩ = some (.slice l.p l.n l.c) := by go_simp
 have c1 : (w.alloc (.cells #[.slice l.p l.n l.c, .slice r.p r.n r.c, .slice o.p o.n o.c, .slice v.p v.n v.c] 31)).cell? ⟨w.heap.size, 1, none⟩ = some (.slice r.p r.n r.c) := by go_simp
 have c2 : (w.alloc (.cells #[.slice l.p l.n l.c, .slice r.p r.n r.c, .slice o.p o.n o.c, .slice v.p v.n v.c] 31)).cell? ⟨w.heap.size, 2, none⟩ = some (.slice o.p o.n o.c) := by go_simp
 have HB := hidden BA
 have HL := hidden hl
 have HR := hidden hr
 have HO := hidden ho
 have HT := hidden hT
 have HN := hidden (And.intro hn (And.intro e1 e2))
 clear BA hl hr ho hT hn e1 e2
 go_enter Tryd.func20, Tryd.ntmps20
 go_upto_region 1 with fail
 generalize (w.alloc (.cells #[.slice l.p l.n l.c, .slice r.p r.n r.c, .slice o.p o.n o.c, .slice v.p v.n v.c] 31)) = w2 at *
 have CC := hidden (And.intro c0 (And.intro c1 c2))
 clear c0 c1 c2
 have R0 := hidden (Below.refl w2.heap.size w2)
 go_upto_region 2 with fail
 go_loopw [3] (fun iv w' => ∃ i : Nat, i ≤ l.n ∧ iv = .int .i64 (i : Int) ∧ Hid ((∀ k, k < i → (l.g k).n * (r.g k).n % Sm.L = (o.g k).n % Sm.L)) ∧ Hid (Below w2.heap.size w2 w')) (fun i _ => l.n - (intOf i).toNat)
 case atStart => exact ⟨0, by omega, rfl, hidden (fun k hk => by omega), R0⟩
 case round =>
  clear R0
  obtain ⟨i, hi, rfl, hA, hR⟩ := hrel
  have c0 := cell_keep CC.out.1 hR.out
  by_cases hin : i < l.n
  ·have i1 : (i : Int) < (l.n : Int) := by omega
   have i0 : (0 : Int) ≤ (i : Int) := by omega
   have w9 : IntKind.i64.wrap ((i : Int) + 1) = (i : Int) + 1 := IntWalk.i64_in _ (by have := HN.out.1; omega)
   go_upto_region 4 with fail
   have BW := bl_trans HB.out hR.out
   have e1 := HN.out.2.1
   have e2 := HN.out.2.2
   have j1 : (i : Int) < (r.n : Int) := by omega
   have j2 : (i : Int) < (o.n : Int) := by omega
   have c1 := cell_keep CC.out.2.1 hR.out
   have c2 := cell_keep CC.out.2.2 hR.out
   obtain ⟨lb, lo, h1, h2⟩ := (HL.out).at'
   have plb := h1 (by omega)
   have rlb := (h2 (by omega)).keep BW
   have x0 := rlb.c0 i (by omega); have x1 := rlb.c1 i (by omega); have x2 := rlb.c2 i (by omega); have x3 := rlb.c3 i (by omega)
   clear h1 h2 rlb
   obtain ⟨rb, ro, h1, h2⟩ := (HR.out).at'
   have prb := h1 (by omega)
   have rrb := (h2 (by omega)).keep BW
   have q0 := rrb.c0 i (by omega); have q1 := rrb.c1 i (by omega); have q2 := rrb.c2 i (by omega); have q3 := rrb.c3 i (by omega)
   clear h1 h2 rrb
   obtain ⟨ob, oo, h1, h2⟩ := (HO.out).at'
   have pob := h1 (by omega)
   have rob := (h2 (by omega)).keep BW
   have z0 := rob.c0 i (by omega); have z1 := rob.c1 i (by omega); have z2 := rob.c2 i (by omega); have z3 := rob.c3 i (by omega)
   clear h1 h2 rob
   rw [plb] at c0
   rw [prb] at c1
   rw [pob] at c2
   have ol := HL.out.ok i hin
   have orr := HR.out.ok i (by omega)
   have oo2 := HO.out.ok i (by omega)
   have key : ∀ (hd : (l.g i).n * (r.g i).n % Sm.L = (o.g i).n % Sm.L), ∀ k, k < i + 1 → (l.g k).n * (r.g k).n % Sm.L = (o.g k).n % Sm.L := fun hd k hk => by
    rcases Nat.lt_or_ge k i with h | h
    ·exact hA.out k h
    ·obtain rfl : k = i := by omega
     exact hd
   have KY := hidden key
   have NK : Hid (¬ (l.g i).n * (r.g i).n % Sm.L = (o.g i).n % Sm.L → mlB l r o = false) := hidden (fun h => by
    rw [Bool.eq_false_iff]
    exact fun e => h ((mlB_iff l r o).1 e i hin))
   clear key hA
   obtain ⟨B, hB⟩ : ∃ B, decide ((l.g i).n * (r.g i).n % Sm.L = (o.g i).n % Sm.L) = B := ⟨_, rfl⟩
   have M1 : Hid (∀ y, Below wr.heap.size wr y → _) := hidden (fun y hb => fix (R := lst ((l.g i).n * (r.g i).n)) (Mul_any (l.g i) (r.g i) y (HT.out.keep (bl_trans BW hb)) ol orr) rfl)
   have M2 : Hid (∀ y, Below wr.heap.size wr y → _) := hidden (fun y hb => Same_any (lst ((l.g i).n * (r.g i).n)) (o.g i) y (HT.out.keep (bl_trans BW hb)) (lst_ok _) oo2)
   have eq2 : (lst (lst ((l.g i).n * (r.g i).n)).n).same (lst (o.g i).n) = B := by rw [same_dec, lst_n, Int.emod_emod_of_dvd _ (Int.dvd_refl _)]; exact hB
   rw [eq2] at M2
   simp only [E4.v] at M1 M2
   refine lm4 _ w.heap.size i lb lo l.n l.c rb ro r.n r.c ob oo o.n o.c (l.g i) (r.g i) (lst ((l.g i).n * (r.g i).n)) (o.g i) B _ _ _ _ _ _ _ _ _ _ _ _ _ _ _ _ _ _ _ _ _ _ _ _ _ _ _ wr i0 i1 j1 j2 c0 c1 c2 x0 x1 x2 x3 q0 q1 q2 q3 z0 z1 z2 z3 M1 M2 (hidden ?_)
   intro wz hbz
   have PN := hidden (bl_trans hR.out hbz)
   clear hbz M1 M2 c0 c1 c2 x0 x1 x2 x3 q0 q1 q2 q3 z0 z1 z2 z3 BW hR eq2 plb prb pob ol orr oo2 e1 e2
   cases B with
   | true =>
    have KZ := hidden (KY.out (of_decide_eq_true hB))
    clear KY NK hB
    go_wp2_with fail
    go_roundw
    case rel => exact ⟨i + 1, by omega, by go_num, KZ, PN⟩
    case measure => simp [intOf]; omega
   | false =>
    have fb := hidden (NK.out (of_decide_eq_false hB))
    have BF := hidden (bl_trans HB.out PN.out)
    clear KY NK hB
    go_wp2_with fail
    refine bodyPost_ret (v := .bool false) (by simp [results, Tryd.results20, go_sem]) rfl ⟨by rw [fb.out], BF.out⟩
  ·obtain rfl : i = l.n := by omega
   have fb := hidden ((mlB_iff l r o).2 hA.out)
   have lq : ¬ (l.n : Int) < (l.n : Int) := by omega
   have BW := hidden (bl_trans HB.out hR.out)
   clear hA hR
   go_wp2_with fail
   refine bodyPost_ret (v := .bool true) (by simp [results, Tryd.results20, go_sem]) rfl ⟨by rw [fb.out], BW.out⟩
def de (a b : Nat → E4) : Nat → E4
 | 0 => ⟨0, 0, 0, 0⟩
 | i + 1 => lst ((de a b i).n + (lst ((a i).n * (b i).n)).n)
theorem de_ok (a b : Nat → E4) : ∀ i, (de a b i).ok
 | 0 => zok4
 | _ + 1 => lst_ok _
theorem de_is (a b : Nat → E4) : ∀ i, (de a b i).n % Sm.L = D1 i a (fun k => (b k).n) % Sm.L
 | 0 => by show (⟨0, 0, 0, 0⟩ : E4).n % Sm.L = (0 : Int) % Sm.L; decide
 | i + 1 => by
  show (lst _).n % _ = (D1 i a _ + (a i).n * (b i).n) % _
  rw [lst_n, emod_emod_L, Int.add_emod, de_is a b i, lst_n, emod_emod_L, ← Int.add_emod]
def dt5o_0 : Oper := { dst := some 13, op := Op.load 26 (Operand.tmp 5), type := 26, pos := "outright.go:73", after := #[], guard := none }
def dt5o_1 : Oper := { dst := some 14, op := Op.move (Operand.tmp 0), type := 23, pos := "outright.go:73", after := #[], guard := none }
def dt5o_2 : Oper := { dst := some 15, op := Op.move (Operand.tmp 6), type := 3, pos := "outright.go:73", after := #[], guard := none }
def dt5o_3 : Oper := { dst := some 16, op := Op.indexAddr 23 (Operand.tmp 14) (Operand.tmp 15), type := 0, pos := "outright.go:73", after := #[{ on := 1, ground := Ground.data }, { on := 2, ground := Ground.data }], guard := none }
def dt5o_4 : Oper := { dst := some 17, op := Op.load 26 (Operand.tmp 16), type := 26, pos := "outright.go:73", after := #[{ on := 3, ground := Ground.data }], guard := none }
def dt5o_5 : Oper := { dst := some 18, op := Op.move (Operand.tmp 1), type := 23, pos := "outright.go:73", after := #[], guard := none }
def dt5o_6 : Oper := { dst := some 19, op := Op.move (Operand.tmp 6), type := 3, pos := "outright.go:73", after := #[], guard := none }
def dt5o_7 : Oper := { dst := some 20, op := Op.indexAddr 23 (Operand.tmp 18) (Operand.tmp 19), type := 0, pos := "outright.go:73", after := #[{ on := 5, ground := Ground.data }, { on := 6, ground := Ground.data }], guard := none }
def dt5o_8 : Oper := { dst := some 21, op := Op.load 26 (Operand.tmp 20), type := 26, pos := "outright.go:73", after := #[{ on := 7, ground := Ground.data }], guard := none }
def dt5o_9 : Oper := { dst := some 22, op := Op.call { callee := Callee.value (Operand.func 14), args := #[Operand.tmp 17, Operand.tmp 21], argTypes := #[26, 26] }, type := 26, pos := "outright.go:73", after := #[{ on := 4, ground := Ground.data }, { on := 8, ground := Ground.data }], guard := none }
def dt5o_10 : Oper := { dst := some 23, op := Op.call { callee := Callee.value (Operand.func 15), args := #[Operand.tmp 13, Operand.tmp 22], argTypes := #[26, 26] }, type := 26, pos := "outright.go:73", after := #[{ on := 0, ground := Ground.data }, { on := 9, ground := Ground.data }, { on := 9, ground := Ground.chain }], guard := none }
def dt5o_11 : Oper := { dst := none, op := Op.store 26 (Operand.tmp 5) (Operand.tmp 23), type := 0, pos := "outright.go:73", after := #[{ on := 10, ground := Ground.data }, { on := 10, ground := Ground.chain }, { on := 0, ground := Ground.phase }, { on := 1, ground := Ground.phase }, { on := 2, ground := Ground.phase }, { on := 3, ground := Ground.phase }, { on := 4, ground := Ground.phase }, { on := 5, ground := Ground.phase }, { on := 6, ground := Ground.phase }, { on := 7, ground := Ground.phase }, { on := 8, ground := Ground.phase }, { on := 9, ground := Ground.phase }, { on := 10, ground := Ground.phase }], guard := none }
def dt5o : Array Oper := #[dt5o_0, dt5o_1, dt5o_2, dt5o_3, dt5o_4, dt5o_5, dt5o_6, dt5o_7, dt5o_8, dt5o_9, dt5o_10, dt5o_11]
set_option maxRecDepth 100000 in
set_option maxHeartbeats 16000000 in
theorem dt5 (Q : Exit → Act → World → Prop) (sb i lb lo ln lc rb ro rn rc : Nat) (z p q u t : E4) (u2 u3 u4 u7 u8 u9 u10 u11 u12 u13 u14 u15 u16 u17 u18 u19 u20 u21 u22 u23 u24 : Value) (W : World)
  (i0 : (0 : Int) ≤ (i : Int)) (i1 : (i : Int) < (ln : Int)) (i2 : (i : Int) < (rn : Int)) (ne1 : lb ≠ sb) (ne2 : rb ≠ sb) (rg : W.rangeAt sb 0 [.int .u64 z.x0, .int .u64 z.x1, .int .u64 z.x2, .int .u64 z.x3]) (th : W.there sb 0 4)
  (p0 : W.cell? ⟨lb, lo + i * 4, none⟩ = some (.int .u64 p.x0)) (p1 : W.cell? ⟨lb, lo + i * 4 + 1, none⟩ = some (.int .u64 p.x1)) (p2 : W.cell? ⟨lb, lo + i * 4 + 2, none⟩ = some (.int .u64 p.x2)) (p3 : W.cell? ⟨lb, lo + i * 4 + 3, none⟩ = some (.int .u64 p.x3)) (q0 : W.cell? ⟨rb, ro + i * 4, none⟩ = some (.int .u64 q.x0)) (q1 : W.cell? ⟨rb, ro + i * 4 + 1, none⟩ = some (.int .u64 q.x1)) (q2 : W.cell? ⟨rb, ro + i * 4 + 2, none⟩ = some (.int .u64 q.x2)) (q3 : W.cell? ⟨rb, ro + i * 4 + 3, none⟩ = some (.int .u64 q.x3))
  (C9 : Hid (∀ y, W.grownBy y (some sb) → Calls Tryd.prog 14 #[.agg #[.int .u64 p.x0, .int .u64 p.x1, .int .u64 p.x2, .int .u64 p.x3], .agg #[.int .u64 q.x0, .int .u64 q.x1, .int .u64 q.x2, .int .u64 q.x3]] y fun e w' => e = .returned (.agg #[.int .u64 u.x0, .int .u64 u.x1, .int .u64 u.x2, .int .u64 u.x3]) ∧ Below y.heap.size y w'))
  (C10 : Hid (∀ y, W.grownBy y (some sb) → Calls Tryd.prog 15 #[.agg #[.int .u64 z.x0, .int .u64 z.x1, .int .u64 z.x2, .int .u64 z.x3], .agg #[.int .u64 u.x0, .int .u64 u.x1, .int .u64 u.x2, .int .u64 u.x3]] y fun e w' => e = .returned (.agg #[.int .u64 t.x0, .int .u64 t.x1, .int .u64 t.x2, .int .u64 t.x3]) ∧ Below y.heap.size y w'))
  (HQ : Hid (∀ (wz : World), (∃ wy, W.grownBy wy (some sb) ∧ wy.there sb 0 4 ∧ wz = wy.setCells sb 0 [.int .u64 t.x0, .int .u64 t.x1, .int .u64 t.x2, .int .u64 t.x3]) → Q .normal ⟨#[.slice (some ⟨lb, lo, none⟩) ln lc, .slice (some ⟨rb, ro, none⟩) rn rc, u2, u3, u4, .pointer (some ⟨sb, 0, none⟩), .int .i64 (i : Int), u7, u8, u9, u10, u11, u12, .agg #[.int .u64 z.x0, .int .u64 z.x1, .int .u64 z.x2, .int .u64 z.x3], .slice (some ⟨lb, lo, none⟩) ln lc, .int .i64 (i : Int), .pointer (some ⟨lb, lo + i * 4, none⟩), .agg #[.int .u64 p.x0, .int .u64 p.x1, .int .u64 p.x2, .int .u64 p.x3], .slice (some ⟨rb, ro, none⟩) rn rc, .int .i64 (i : Int), .pointer (some ⟨rb, ro + i * 4, none⟩), .agg #[.int .u64 q.x0, .int .u64 q.x1, .int .u64 q.x2, .int .u64 q.x3], .agg #[.int .u64 u.x0, .int .u64 u.x1, .int .u64 u.x2, .int .u64 u.x3], .agg #[.int .u64 t.x0, .int .u64 t.x1, .int .u64 t.x2, .int .u64 t.x3], u24], []⟩ wz)) : (Code.region 5 dt5o true).wp Tryd.prog Q ⟨#[.slice (some ⟨lb, lo, none⟩) ln lc, .slice (some ⟨rb, ro, none⟩) rn rc, u2, u3, u4, .pointer (some ⟨sb, 0, none⟩), .int .i64 (i : Int), u7, u8, u9, u10, u11, u12, u13, u14, u15, u16, u17, u18, u19, u20, u21, u22, u23, u24], []⟩ W := by
 have RG := hidden (range_bl rg (bl_drew W))
 have TH := hidden (there_bl th (bl_drew W))
 clear rg th
 unfold dt5o
 refine wp_region_noPanic ?_
 refine wp_region_held_drew (S := fun x => W.grownBy x (some sb)) (by kernel_rfl) (gbI (bl_drew W) _) (fun hH0 => ?_)
 refine tk 1 dt5o_1 (.slice (some ⟨lb, lo, none⟩) ln lc) rfl (by kernel_rfl) hH0 rfl (fun w0 hSw => ?_) ?_
 ·(unfold dt5o_1; clear hSw; go_simp)
 simp only [dt5o_1, Act.put, sA, sB, sC]
 refine tk 2 dt5o_2 (.int .i64 (i : Int)) rfl (by kernel_rfl) hH0 rfl (fun w0 hSw => ?_) ?_
 ·(unfold dt5o_2; clear hSw; go_simp)
 simp only [dt5o_2, Act.put, sA, sB, sC]
 refine tk 5 dt5o_5 (.slice (some ⟨rb, ro, none⟩) rn rc) rfl (by kernel_rfl) hH0 rfl (fun w0 hSw => ?_) ?_
 ·(unfold dt5o_5; clear hSw; go_simp)
 simp only [dt5o_5, Act.put, sA, sB, sC]
 refine tk 6 dt5o_6 (.int .i64 (i : Int)) rfl (by kernel_rfl) hH0 rfl (fun w0 hSw => ?_) ?_
 ·(unfold dt5o_6; clear hSw; go_simp)
 simp only [dt5o_6, Act.put, sA, sB, sC]
 refine tk 3 dt5o_3 (.pointer (some ⟨lb, lo + i * 4, none⟩)) rfl (by kernel_rfl) hH0 rfl (fun w0 hSw => ?_) ?_
 ·(unfold dt5o_3; clear hSw; go_simp)
 simp only [dt5o_3, Act.put, sA, sB, sC]
 refine tk 7 dt5o_7 (.pointer (some ⟨rb, ro + i * 4, none⟩)) rfl (by kernel_rfl) hH0 rfl (fun w0 hSw => ?_) ?_
 ·(unfold dt5o_7; clear hSw; go_simp)
 simp only [dt5o_7, Act.put, sA, sB, sC]
 refine tk 4 dt5o_4 (.agg #[.int .u64 p.x0, .int .u64 p.x1, .int .u64 p.x2, .int .u64 p.x3]) rfl (by kernel_rfl) hH0 rfl (fun w0 hSw => ?_) ?_
 ·(unfold dt5o_4; have hS : W.grownBy w0 (some sb) := hSw; have a0 := hS.cell p0 (fun e => ne1 (Option.some.inj e)); have a1 := hS.cell p1 (fun e => ne1 (Option.some.inj e)); have a2 := hS.cell p2 (fun e => ne1 (Option.some.inj e)); have a3 := hS.cell p3 (fun e => ne1 (Option.some.inj e)); clear hS hSw; go_simp)
 simp only [dt5o_4, Act.put, sA, sB, sC]
 refine tk 8 dt5o_8 (.agg #[.int .u64 q.x0, .int .u64 q.x1, .int .u64 q.x2, .int .u64 q.x3]) rfl (by kernel_rfl) hH0 rfl (fun w0 hSw => ?_) ?_
 ·(unfold dt5o_8; have hS : W.grownBy w0 (some sb) := hSw; have a0 := hS.cell q0 (fun e => ne2 (Option.some.inj e)); have a1 := hS.cell q1 (fun e => ne2 (Option.some.inj e)); have a2 := hS.cell q2 (fun e => ne2 (Option.some.inj e)); have a3 := hS.cell q3 (fun e => ne2 (Option.some.inj e)); clear hS hSw; go_simp)
 simp only [dt5o_8, Act.put, sA, sB, sC]
 refine wpAnyH_ready (rs := [0, 9]) (by kernel_rfl) (by simp) ?_
 refine AllReadyH.cons (o := dt5o_0) rfl (fun K hK => ?_) (AllReadyH.cons (o := dt5o_9) rfl (fun K hK => ?_) AllReadyH.nil)
 ·unfold dt5o_0
  have HH := hidden hH0
  clear hH0
  refine wp_load_mid 26 _ rfl sb 0 (by rfl) [.int .u64 z.x0, .int .u64 z.x1, .int .u64 z.x2, .int .u64 z.x3] _ RG.out Tryd.underlying26 rfl i4_s ?_
  simp only [Act.put, sA, sB, sC]
  have SN := HH
  clear HH
  refine hK.out _ _ SN.out (fun hH1 => ?_)
  clear hK K SN
  refine wpAnyH_ready (rs := [9]) (by kernel_rfl) (by simp) ?_
  refine AllReadyH.cons (o := dt5o_9) rfl (fun K hK => ?_) AllReadyH.nil
  unfold dt5o_9
  have HH := hidden hH1
  clear hH1
  go_simp
  refine (C9.out _ HH.out).mono ?_
  rintro e wn2 ⟨rfl, hb⟩
  replace RG := hidden (range_bl RG.out hb)
  replace TH := hidden (there_bl TH.out hb)
  have SN := hidden (HH.out.trans (gbI hb _))
  clear HH C9 hb
  go_wp2_with fail
  refine hK.out _ _ SN.out (fun hH2 => ?_)
  clear hK K SN
  refine wpAnyH_ready (rs := [10]) (by kernel_rfl) (by simp) ?_
  refine AllReadyH.cons (o := dt5o_10) rfl (fun K hK => ?_) AllReadyH.nil
  unfold dt5o_10
  have HH := hidden hH2
  clear hH2
  go_simp
  refine (C10.out _ HH.out).mono ?_
  rintro e wn3 ⟨rfl, hb⟩
  replace RG := hidden (range_bl RG.out hb)
  replace TH := hidden (there_bl TH.out hb)
  have SN := hidden (HH.out.trans (gbI hb _))
  clear HH C10 hb
  go_wp2_with fail
  refine hK.out _ _ SN.out (fun hH3 => ?_)
  clear hK K SN
  refine wpAnyH_ready (rs := [11]) (by kernel_rfl) (by simp) ?_
  refine AllReadyH.cons (o := dt5o_11) rfl (fun K hK => ?_) AllReadyH.nil
  unfold dt5o_11
  have HH := hidden hH3
  clear hH3
  refine wp_storeE 26 _ _ rfl sb 0 ([.int .u64 t.x0, .int .u64 t.x1, .int .u64 t.x2, .int .u64 t.x3]) (by rfl) (by rfl) TH.out i4_s (one4 t) rfl (fun wn4 hw => ?_)
  have SN := hidden (HH.out.trans (gb_setCells sb [.int .u64 t.x0, .int .u64 t.x1, .int .u64 t.x2, .int .u64 t.x3] 0 _))
  have FE := hidden ((⟨_, HH.out, TH.out, hw⟩ : ∃ wy, W.grownBy wy (some sb) ∧ wy.there sb 0 4 ∧ _ = wy.setCells sb 0 [.int .u64 t.x0, .int .u64 t.x1, .int .u64 t.x2, .int .u64 t.x3]))
  rw [← hw] at SN
  clear HH hw
  refine hK.out _ _ SN.out (fun hH4 => ?_)
  clear hK K SN
  have HH := hidden hH4
  have FQ := hidden (HQ.out _ FE.out)
  refine wpAnyH_done (by kernel_rfl) ?_ _
  refine NoPanic.normal ?_
  exact FQ.out
 ·unfold dt5o_9
  have HH := hidden hH0
  clear hH0
  go_simp
  refine (C9.out _ HH.out).mono ?_
  rintro e wn1 ⟨rfl, hb⟩
  replace RG := hidden (range_bl RG.out hb)
  replace TH := hidden (there_bl TH.out hb)
  have SN := hidden (HH.out.trans (gbI hb _))
  clear HH C9 hb
  go_wp2_with fail
  refine hK.out _ _ SN.out (fun hH1 => ?_)
  clear hK K SN
  refine wpAnyH_ready (rs := [0]) (by kernel_rfl) (by simp) ?_
  refine AllReadyH.cons (o := dt5o_0) rfl (fun K hK => ?_) AllReadyH.nil
  unfold dt5o_0
  have HH := hidden hH1
  clear hH1
  refine wp_load_mid 26 _ rfl sb 0 (by rfl) [.int .u64 z.x0, .int .u64 z.x1, .int .u64 z.x2, .int .u64 z.x3] _ RG.out Tryd.underlying26 rfl i4_s ?_
  simp only [Act.put, sA, sB, sC]
  have SN := HH
  clear HH
  refine hK.out _ _ SN.out (fun hH2 => ?_)
  clear hK K SN
  refine wpAnyH_ready (rs := [10]) (by kernel_rfl) (by simp) ?_
  refine AllReadyH.cons (o := dt5o_10) rfl (fun K hK => ?_) AllReadyH.nil
  unfold dt5o_10
  have HH := hidden hH2
  clear hH2
  go_simp
  refine (C10.out _ HH.out).mono ?_
  rintro e wn3 ⟨rfl, hb⟩
  replace RG := hidden (range_bl RG.out hb)
  replace TH := hidden (there_bl TH.out hb)
  have SN := hidden (HH.out.trans (gbI hb _))
  clear HH C10 hb
  go_wp2_with fail
  refine hK.out _ _ SN.out (fun hH3 => ?_)
  clear hK K SN
  refine wpAnyH_ready (rs := [11]) (by kernel_rfl) (by simp) ?_
  refine AllReadyH.cons (o := dt5o_11) rfl (fun K hK => ?_) AllReadyH.nil
  unfold dt5o_11
  have HH := hidden hH3
  clear hH3
  refine wp_storeE 26 _ _ rfl sb 0 ([.int .u64 t.x0, .int .u64 t.x1, .int .u64 t.x2, .int .u64 t.x3]) (by rfl) (by rfl) TH.out i4_s (one4 t) rfl (fun wn4 hw => ?_)
  have SN := hidden (HH.out.trans (gb_setCells sb [.int .u64 t.x0, .int .u64 t.x1, .int .u64 t.x2, .int .u64 t.x3] 0 _))
  have FE := hidden ((⟨_, HH.out, TH.out, hw⟩ : ∃ wy, W.grownBy wy (some sb) ∧ wy.there sb 0 4 ∧ _ = wy.setCells sb 0 [.int .u64 t.x0, .int .u64 t.x1, .int .u64 t.x2, .int .u64 t.x3]))
  rw [← hw] at SN
  clear HH hw
  refine hK.out _ _ SN.out (fun hH4 => ?_)
  clear hK K SN
  have HH := hidden hH4
  have FQ := hidden (HQ.out _ FE.out)
  refine wpAnyH_done (by kernel_rfl) ?_ _
  refine NoPanic.normal ?_
  exact FQ.out
theorem dot_raw (P R : Option Addr) (l r : Sl) (eP : l.p = P) (eR : r.p = R) (w : World) (hT : Tb w) (hn : l.n ≤ 4398046510976) (hl : l.at w) (hr : r.at w) (e1 : r.n = l.n) : Calls Tryd.prog 48 #[.slice P l.n l.c, .slice R r.n r.c] w fun e w' => e = .returned (.agg #[.int .u64 (de l.g r.g l.n).x0, .int .u64 (de l.g r.g l.n).x1, .int .u64 (de l.g r.g l.n).x2, .int .u64 (de l.g r.g l.n).x3]) ∧ Below w.heap.size w w' := by
 have B3 : Below w.heap.size w ((w.alloc (.cells #[.int .u64 0, .int .u64 0, .int .u64 0, .int .u64 0] 26)).alloc (.cells #[.int .u64 0, .int .u64 0, .int .u64 0, .int .u64 0] 26)) := bl_alloc2 w (.cells #[.int .u64 0, .int .u64 0, .int .u64 0, .int .u64 0] 26) (.cells #[.int .u64 0, .int .u64 0, .int .u64 0, .int .u64 0] 26)
 have HL := hidden hl
 have HR := hidden hr
 have HT := hidden hT
 have HN := hidden (And.intro hn e1)
 have EP := hidden (And.intro eP eR)
 clear hl hr hT hn e1 eP eR
 go_enter Tryd.func48, Tryd.ntmps48
 go_upto_region 2 with fail
 have S0 : Hid (Es w ((w.alloc (.cells #[.int .u64 0, .int .u64 0, .int .u64 0, .int .u64 0] 26)).alloc (.cells #[.int .u64 0, .int .u64 0, .int .u64 0, .int .u64 0] 26)) (w.heap.size + 1) (de l.g r.g 0) ((w.alloc (.cells #[.int .u64 0, .int .u64 0, .int .u64 0, .int .u64 0] 26)).alloc (.cells #[.int .u64 0, .int .u64 0, .int .u64 0, .int .u64 0] 26))) := hidden ⟨Below.refl _ _, by
  have := range_newM (w.alloc (.cells #[.int .u64 0, .int .u64 0, .int .u64 0, .int .u64 0] 26)) [.int .u64 0, .int .u64 0, .int .u64 0, .int .u64 0] 26
  simpa [World.size_alloc, de] using this, by
  have := there_newM (w.alloc (.cells #[.int .u64 0, .int .u64 0, .int .u64 0, .int .u64 0] 26)) [.int .u64 0, .int .u64 0, .int .u64 0, .int .u64 0] 26
  simpa [World.size_alloc] using this⟩
 have e0 : ((w.alloc (.cells #[.int .u64 0, .int .u64 0, .int .u64 0, .int .u64 0] 26)).alloc (.cells #[.int .u64 0, .int .u64 0, .int .u64 0, .int .u64 0] 26)).cell? ⟨w.heap.size, 0, none⟩ = some (.int .u64 0) := by go_simp
 have f0 : ((w.alloc (.cells #[.int .u64 0, .int .u64 0, .int .u64 0, .int .u64 0] 26)).alloc (.cells #[.int .u64 0, .int .u64 0, .int .u64 0, .int .u64 0] 26)).frozen? ⟨w.heap.size, 0, none⟩ = false := by go_simp
 have e1 : ((w.alloc (.cells #[.int .u64 0, .int .u64 0, .int .u64 0, .int .u64 0] 26)).alloc (.cells #[.int .u64 0, .int .u64 0, .int .u64 0, .int .u64 0] 26)).cell? ⟨w.heap.size, 1, none⟩ = some (.int .u64 0) := by go_simp
 have f1 : ((w.alloc (.cells #[.int .u64 0, .int .u64 0, .int .u64 0, .int .u64 0] 26)).alloc (.cells #[.int .u64 0, .int .u64 0, .int .u64 0, .int .u64 0] 26)).frozen? ⟨w.heap.size, 1, none⟩ = false := by go_simp
 have e2 : ((w.alloc (.cells #[.int .u64 0, .int .u64 0, .int .u64 0, .int .u64 0] 26)).alloc (.cells #[.int .u64 0, .int .u64 0, .int .u64 0, .int .u64 0] 26)).cell? ⟨w.heap.size, 2, none⟩ = some (.int .u64 0) := by go_simp
 have f2 : ((w.alloc (.cells #[.int .u64 0, .int .u64 0, .int .u64 0, .int .u64 0] 26)).alloc (.cells #[.int .u64 0, .int .u64 0, .int .u64 0, .int .u64 0] 26)).frozen? ⟨w.heap.size, 2, none⟩ = false := by go_simp
 have e3 : ((w.alloc (.cells #[.int .u64 0, .int .u64 0, .int .u64 0, .int .u64 0] 26)).alloc (.cells #[.int .u64 0, .int .u64 0, .int .u64 0, .int .u64 0] 26)).cell? ⟨w.heap.size, 3, none⟩ = some (.int .u64 0) := by go_simp
 have f3 : ((w.alloc (.cells #[.int .u64 0, .int .u64 0, .int .u64 0, .int .u64 0] 26)).alloc (.cells #[.int .u64 0, .int .u64 0, .int .u64 0, .int .u64 0] 26)).frozen? ⟨w.heap.size, 3, none⟩ = false := by go_simp
 have SZ : Hid (((w.alloc (.cells #[.int .u64 0, .int .u64 0, .int .u64 0, .int .u64 0] 26)).alloc (.cells #[.int .u64 0, .int .u64 0, .int .u64 0, .int .u64 0] 26)).heap.size = w.heap.size + 1 + 1) := hidden (by simp only [World.size_alloc])
 generalize ((w.alloc (.cells #[.int .u64 0, .int .u64 0, .int .u64 0, .int .u64 0] 26)).alloc (.cells #[.int .u64 0, .int .u64 0, .int .u64 0, .int .u64 0] 26)) = w3 at *
 have HB := hidden B3
 clear B3
 go_upto_region 3 with fail
 go_loopw [6] (fun iv w' => ∃ i : Nat, i ≤ l.n ∧ iv = .int .i64 (i : Int) ∧ Hid (Es w w3 (w.heap.size + 1) (de l.g r.g i) w')) (fun i _ => l.n - (intOf i).toNat)
 case atStart => exact ⟨0, by omega, rfl, S0⟩
 case round =>
  clear S0
  obtain ⟨i, hi, rfl, hS⟩ := hrel
  by_cases hin : i < l.n
  ·have i0' : (0 : Int) ≤ (i : Int) := by omega
   have i1' : (i : Int) < (l.n : Int) := by omega
   have w9 : IntKind.i64.wrap ((i : Int) + 1) = (i : Int) + 1 := IntWalk.i64_in _ (by have := HN.out; omega)
   have sz := SZ.out
   have e1 := HN.out.2
   have BW : Below w.heap.size w wr := below_tr HB.out (hS.out.bel.mono (by omega))
   obtain ⟨lb, lo, h1, h2⟩ := HL.out.at'
   have plb := h1 (by omega)
   have rl := (h2 (by omega)).keep BW
   have ll : lb < w.heap.size := World.block_lt_of_cell? w _ ((h2 (by omega)).c0 i hin)
   obtain ⟨rb, ro, h3, h4⟩ := HR.out.at'
   have prb := h3 (by omega)
   have rr := (h4 (by omega)).keep BW
   have lr : rb < w.heap.size := World.block_lt_of_cell? w _ ((h4 (by omega)).c0 i (by omega))
   obtain rfl := EP.out.1.symm.trans plb
   obtain rfl := EP.out.2.symm.trans prb
   have p0 := rl.c0 i hin
   have q0 := rr.c0 i (by omega)
   have p1 := rl.c1 i hin
   have q1 := rr.c1 i (by omega)
   have p2 := rl.c2 i hin
   have q2 := rr.c2 i (by omega)
   have p3 := rl.c3 i hin
   have q3 := rr.c3 i (by omega)
   have AL : ∀ y, wr.grownBy y (some (w.heap.size + 1)) → Below w.heap.size w y := fun y hy => BW.grown hy BW.size (fun j hj => by obtain rfl := Option.some.inj hj; omega)
   have C9 : Hid (∀ y, wr.grownBy y (some (w.heap.size + 1)) → _) := hidden (fun y hy => fix (R := lst ((l.g i).n * (r.g i).n)) (Mul_any (l.g i) (r.g i) y (HT.out.keep (AL y hy)) (HL.out.ok i hin) (HR.out.ok i (by omega))) rfl)
   have C10 : Hid (∀ y, wr.grownBy y (some (w.heap.size + 1)) → _) := hidden (fun y hy => fix (R := de l.g r.g (i + 1)) (Add_any (de l.g r.g i) (lst ((l.g i).n * (r.g i).n)) y (HT.out.keep (AL y hy)) (de_ok _ _ _) (lst_ok _)) rfl)
   simp only [E4.v] at C9 C10
   go_upto_region 5 with fail
   refine dt5 _ (w.heap.size + 1) i lb lo l.n l.c rb ro r.n r.c (de l.g r.g i) (l.g i) (r.g i) (lst ((l.g i).n * (r.g i).n)) (de l.g r.g (i + 1)) _ _ _ _ _ _ _ _ _ _ _ _ _ _ _ _ _ _ _ _ _ wr (by omega) (by omega) (by omega) (by omega) (by omega) hS.out.rg hS.out.th p0 p1 p2 p3 q0 q1 q2 q3 C9 C10 (hidden ?_)
   intro wz hz
   have PN : Hid (Es w w3 (w.heap.size + 1) (de l.g r.g (i + 1)) wz) := hidden (by
    obtain ⟨wy, hy, hty, rfl⟩ := hz
    have b1 : Below (w.heap.size + 1) w3 wy := below_tr hS.out.bel (below_grown hy (by have := hS.out.bel.size; omega) (fun k hk => by have := Option.some.inj hk; omega))
    exact ⟨below_tr b1 (below_grown (gb_setCells _ _ 0 _) (by have := b1.size; omega) (fun k hk => by have := Option.some.inj hk; omega)), World.rangeAt_setCells_same wy (w.heap.size + 1) 0 _ hty, there_set hty _ 0 _⟩)
   clear C9 C10 AL hz hS BW p0 p1 p2 p3 q0 q1 q2 q3 rl rr
   go_wp2_with fail
   go_roundw
   case rel => exact ⟨i + 1, by omega, by go_num, PN⟩
   case measure => simp [intOf]; omega
  ·obtain rfl : i = l.n := by omega
   have lq : ¬ (l.n : Int) < (l.n : Int) := by omega
   have a0 := (hS.out.bel.cell (p := ⟨w.heap.size, 0, none⟩) (Nat.lt_succ_self _)).trans e0
   have g0 := (hS.out.bel.frozen (p := ⟨w.heap.size, 0, none⟩) (Nat.lt_succ_self _)).trans f0
   have t0 : wr.cell? ⟨w.heap.size + 1, 0, none⟩ = some (.int .u64 (de l.g r.g l.n).x0) := hS.out.rg 0 _ rfl
   have a1 := (hS.out.bel.cell (p := ⟨w.heap.size, 1, none⟩) (Nat.lt_succ_self _)).trans e1
   have g1 := (hS.out.bel.frozen (p := ⟨w.heap.size, 1, none⟩) (Nat.lt_succ_self _)).trans f1
   have t1 : wr.cell? ⟨w.heap.size + 1, 1, none⟩ = some (.int .u64 (de l.g r.g l.n).x1) := hS.out.rg 1 _ rfl
   have a2 := (hS.out.bel.cell (p := ⟨w.heap.size, 2, none⟩) (Nat.lt_succ_self _)).trans e2
   have g2 := (hS.out.bel.frozen (p := ⟨w.heap.size, 2, none⟩) (Nat.lt_succ_self _)).trans f2
   have t2 : wr.cell? ⟨w.heap.size + 1, 2, none⟩ = some (.int .u64 (de l.g r.g l.n).x2) := hS.out.rg 2 _ rfl
   have a3 := (hS.out.bel.cell (p := ⟨w.heap.size, 3, none⟩) (Nat.lt_succ_self _)).trans e3
   have g3 := (hS.out.bel.frozen (p := ⟨w.heap.size, 3, none⟩) (Nat.lt_succ_self _)).trans f3
   have t3 : wr.cell? ⟨w.heap.size + 1, 3, none⟩ = some (.int .u64 (de l.g r.g l.n).x3) := hS.out.rg 3 _ rfl
   have sz := SZ.out
   have GX := hidden (below_tr HB.out (hS.out.bel.mono (by omega)) : Below w.heap.size w wr)
   clear hS
   go_wp2_with fail
   have BF := below_tr GX.out (below_grown (base := w.heap.size) (gb_setCells w.heap.size [.int .u64 (de l.g r.g l.n).x0, .int .u64 (de l.g r.g l.n).x1, .int .u64 (de l.g r.g l.n).x2, .int .u64 (de l.g r.g l.n).x3] 0 wr) (by have := GX.out.size; omega) (fun k hk => by have := Option.some.inj hk; omega))
   refine bodyPost_ret (v := .agg #[.int .u64 (de l.g r.g l.n).x0, .int .u64 (de l.g r.g l.n).x1, .int .u64 (de l.g r.g l.n).x2, .int .u64 (de l.g r.g l.n).x3]) (by simp [results, Tryd.results48, go_sem, a0, a1, a2, a3]) rfl ⟨rfl, BF⟩
theorem dot_any (l r : Sl) (w : World) (hT : Tb w) (hn : l.n ≤ 4398046510976) (hl : l.at w) (hr : r.at w) (e1 : r.n = l.n) : Calls Tryd.prog 48 #[.slice l.p l.n l.c, .slice r.p r.n r.c] w fun e w' => e = .returned (.agg #[.int .u64 (de l.g r.g l.n).x0, .int .u64 (de l.g r.g l.n).x1, .int .u64 (de l.g r.g l.n).x2, .int .u64 (de l.g r.g l.n).x3]) ∧ Below w.heap.size w w' := dot_raw l.p r.p l r rfl rfl w hT hn hl hr e1
end Ci
end Go.Proofs.YtimjfndaleccaaaDoor
namespace Go.Proofs.YtimjfndaleccaaaDoor
open Go.RowKit
set_option linter.unusedVariables false
set_option linter.unusedSimpArgs false
open Cm (Wr Tm co bf Ls lf ins Eqm)
namespace Ci
set_option maxRecDepth 100000
set_option maxHeartbeats 8000000
def rt1o_0 : Oper := { dst := some 5, op := Op.fieldAddr 34 (Operand.tmp 2) 0, type := 0, pos := "outright.go:80", after := #[], guard := none }
def rt1o_1 : Oper := { dst := some 6, op := Op.load 23 (Operand.tmp 5), type := 23, pos := "outright.go:80", after := #[{ on := 0, ground := Ground.data }], guard := none }
def rt1o_2 : Oper := { dst := some 7, op := Op.fieldAddr 31 (Operand.tmp 3) 0, type := 0, pos := "outright.go:80", after := #[], guard := none }
def rt1o_3 : Oper := { dst := some 8, op := Op.load 23 (Operand.tmp 7), type := 23, pos := "outright.go:80", after := #[{ on := 2, ground := Ground.data }], guard := none }
def rt1o_4 : Oper := { dst := some 9, op := Op.call { callee := Callee.value (Operand.func 48), args := #[Operand.tmp 6, Operand.tmp 8], argTypes := #[23, 23] }, type := 26, pos := "outright.go:80", after := #[{ on := 1, ground := Ground.data }, { on := 3, ground := Ground.data }], guard := none }
def rt1o_5 : Oper := { dst := some 10, op := Op.fieldAddr 34 (Operand.tmp 2) 1, type := 0, pos := "outright.go:80", after := #[], guard := none }
def rt1o_6 : Oper := { dst := some 11, op := Op.load 23 (Operand.tmp 10), type := 23, pos := "outright.go:80", after := #[{ on := 5, ground := Ground.data }], guard := none }
def rt1o_7 : Oper := { dst := some 12, op := Op.fieldAddr 31 (Operand.tmp 3) 1, type := 0, pos := "outright.go:80", after := #[], guard := none }
def rt1o_8 : Oper := { dst := some 13, op := Op.load 23 (Operand.tmp 12), type := 23, pos := "outright.go:80", after := #[{ on := 7, ground := Ground.data }], guard := none }
def rt1o_9 : Oper := { dst := some 14, op := Op.call { callee := Callee.value (Operand.func 48), args := #[Operand.tmp 11, Operand.tmp 13], argTypes := #[23, 23] }, type := 26, pos := "outright.go:80", after := #[{ on := 6, ground := Ground.data }, { on := 8, ground := Ground.data }, { on := 4, ground := Ground.chain }], guard := none }
def rt1o_10 : Oper := { dst := some 15, op := Op.call { callee := Callee.value (Operand.func 15), args := #[Operand.tmp 9, Operand.tmp 14], argTypes := #[26, 26] }, type := 26, pos := "outright.go:80", after := #[{ on := 4, ground := Ground.data }, { on := 9, ground := Ground.data }, { on := 9, ground := Ground.chain }], guard := none }
def rt1o_11 : Oper := { dst := some 16, op := Op.fieldAddr 34 (Operand.tmp 2) 2, type := 0, pos := "outright.go:80", after := #[], guard := none }
def rt1o_12 : Oper := { dst := some 17, op := Op.load 23 (Operand.tmp 16), type := 23, pos := "outright.go:80", after := #[{ on := 11, ground := Ground.data }], guard := none }
def rt1o_13 : Oper := { dst := some 18, op := Op.fieldAddr 31 (Operand.tmp 3) 2, type := 0, pos := "outright.go:80", after := #[], guard := none }
def rt1o_14 : Oper := { dst := some 19, op := Op.load 23 (Operand.tmp 18), type := 23, pos := "outright.go:80", after := #[{ on := 13, ground := Ground.data }], guard := none }
def rt1o_15 : Oper := { dst := some 20, op := Op.call { callee := Callee.value (Operand.func 48), args := #[Operand.tmp 17, Operand.tmp 19], argTypes := #[23, 23] }, type := 26, pos := "outright.go:80", after := #[{ on := 12, ground := Ground.data }, { on := 14, ground := Ground.data }, { on := 10, ground := Ground.chain }], guard := none }
def rt1o_16 : Oper := { dst := some 21, op := Op.call { callee := Callee.value (Operand.func 15), args := #[Operand.tmp 15, Operand.tmp 20], argTypes := #[26, 26] }, type := 26, pos := "outright.go:80", after := #[{ on := 10, ground := Ground.data }, { on := 15, ground := Ground.data }, { on := 15, ground := Ground.chain }], guard := none }
def rt1o_17 : Oper := { dst := some 22, op := Op.fieldAddr 34 (Operand.tmp 2) 3, type := 0, pos := "outright.go:80", after := #[], guard := none }
def rt1o_18 : Oper := { dst := some 23, op := Op.load 23 (Operand.tmp 22), type := 23, pos := "outright.go:80", after := #[{ on := 17, ground := Ground.data }], guard := none }
def rt1o_19 : Oper := { dst := some 24, op := Op.fieldAddr 31 (Operand.tmp 3) 3, type := 0, pos := "outright.go:80", after := #[], guard := none }
def rt1o_20 : Oper := { dst := some 25, op := Op.load 23 (Operand.tmp 24), type := 23, pos := "outright.go:80", after := #[{ on := 19, ground := Ground.data }], guard := none }
def rt1o_21 : Oper := { dst := some 26, op := Op.call { callee := Callee.value (Operand.func 48), args := #[Operand.tmp 23, Operand.tmp 25], argTypes := #[23, 23] }, type := 26, pos := "outright.go:80", after := #[{ on := 18, ground := Ground.data }, { on := 20, ground := Ground.data }, { on := 16, ground := Ground.chain }], guard := none }
def rt1o_22 : Oper := { dst := some 27, op := Op.call { callee := Callee.value (Operand.func 49), args := #[Operand.tmp 21, Operand.tmp 26], argTypes := #[26, 26] }, type := 26, pos := "outright.go:80", after := #[{ on := 16, ground := Ground.data }, { on := 21, ground := Ground.data }, { on := 21, ground := Ground.chain }], guard := none }
def rt1o_23 : Oper := { dst := some 28, op := Op.fieldAddr 34 (Operand.tmp 2) 4, type := 0, pos := "outright.go:80", after := #[], guard := none }
def rt1o_24 : Oper := { dst := some 29, op := Op.load 26 (Operand.tmp 28), type := 26, pos := "outright.go:80", after := #[{ on := 23, ground := Ground.data }], guard := none }
def rt1o_25 : Oper := { dst := some 30, op := Op.call { callee := Callee.value (Operand.func 49), args := #[Operand.tmp 27, Operand.tmp 29], argTypes := #[26, 26] }, type := 26, pos := "outright.go:80", after := #[{ on := 22, ground := Ground.data }, { on := 24, ground := Ground.data }, { on := 22, ground := Ground.chain }], guard := none }
def rt1o_26 : Oper := { dst := none, op := Op.store 26 (Operand.tmp 4) (Operand.tmp 30), type := 0, pos := "outright.go:80", after := #[{ on := 25, ground := Ground.data }, { on := 25, ground := Ground.chain }, { on := 0, ground := Ground.phase }, { on := 1, ground := Ground.phase }, { on := 2, ground := Ground.phase }, { on := 3, ground := Ground.phase }, { on := 4, ground := Ground.phase }, { on := 5, ground := Ground.phase }, { on := 6, ground := Ground.phase }, { on := 7, ground := Ground.phase }, { on := 8, ground := Ground.phase }, { on := 9, ground := Ground.phase }, { on := 10, ground := Ground.phase }, { on := 11, ground := Ground.phase }, { on := 12, ground := Ground.phase }, { on := 13, ground := Ground.phase }, { on := 14, ground := Ground.phase }, { on := 15, ground := Ground.phase }, { on := 16, ground := Ground.phase }, { on := 17, ground := Ground.phase }, { on := 18, ground := Ground.phase }, { on := 19, ground := Ground.phase }, { on := 20, ground := Ground.phase }, { on := 21, ground := Ground.phase }, { on := 22, ground := Ground.phase }, { on := 23, ground := Ground.phase }, { on := 24, ground := Ground.phase }, { on := 25, ground := Ground.phase }], guard := none }
def rt1o : Array Oper := #[rt1o_0, rt1o_1, rt1o_2, rt1o_3, rt1o_4, rt1o_5, rt1o_6, rt1o_7, rt1o_8, rt1o_9, rt1o_10, rt1o_11, rt1o_12, rt1o_13, rt1o_14, rt1o_15, rt1o_16, rt1o_17, rt1o_18, rt1o_19, rt1o_20, rt1o_21, rt1o_22, rt1o_23, rt1o_24, rt1o_25, rt1o_26]
set_option maxRecDepth 100000 in
set_option maxHeartbeats 16000000 in
theorem rt1 (Q : Exit → Act → World → Prop) (wb ab rb : Nat) (a b c d l r o v : Sl) (C x1 x2 x3 x4 y1 y2 y3 y4 : E4) (u0 u1 u5 u6 u7 u8 u9 u10 u11 u12 u13 u14 u15 u16 u17 u18 u19 u20 u21 u22 u23 u24 u25 u26 u27 u28 u29 u30 : Value) (W : World)
  (nw : wb ≠ rb) (na : ab ≠ rb) (th : W.there rb 0 4) (gw0 : W.cell? ⟨wb, 0, none⟩ = some (.slice a.p a.n a.c)) (gw1 : W.cell? ⟨wb, 1, none⟩ = some (.slice b.p b.n b.c)) (gw2 : W.cell? ⟨wb, 2, none⟩ = some (.slice c.p c.n c.c)) (gw3 : W.cell? ⟨wb, 3, none⟩ = some (.slice d.p d.n d.c)) (ga0 : W.cell? ⟨ab, 0, none⟩ = some (.slice l.p l.n l.c)) (ga1 : W.cell? ⟨ab, 1, none⟩ = some (.slice r.p r.n r.c)) (ga2 : W.cell? ⟨ab, 2, none⟩ = some (.slice o.p o.n o.c)) (ga3 : W.cell? ⟨ab, 3, none⟩ = some (.slice v.p v.n v.c)) (gk0 : W.cell? ⟨wb, 4, none⟩ = some (.int .u64 C.x0)) (gk1 : W.cell? ⟨wb, 5, none⟩ = some (.int .u64 C.x1)) (gk2 : W.cell? ⟨wb, 6, none⟩ = some (.int .u64 C.x2)) (gk3 : W.cell? ⟨wb, 7, none⟩ = some (.int .u64 C.x3))
  (C4 : Hid (∀ yy, Below W.heap.size W yy → Calls Tryd.prog 48 #[.slice a.p a.n a.c, .slice l.p l.n l.c] yy fun e w' => e = .returned (.agg #[.int .u64 x1.x0, .int .u64 x1.x1, .int .u64 x1.x2, .int .u64 x1.x3]) ∧ Below yy.heap.size yy w'))
  (C9 : Hid (∀ yy, Below W.heap.size W yy → Calls Tryd.prog 48 #[.slice b.p b.n b.c, .slice r.p r.n r.c] yy fun e w' => e = .returned (.agg #[.int .u64 x2.x0, .int .u64 x2.x1, .int .u64 x2.x2, .int .u64 x2.x3]) ∧ Below yy.heap.size yy w'))
  (C15 : Hid (∀ yy, Below W.heap.size W yy → Calls Tryd.prog 48 #[.slice c.p c.n c.c, .slice o.p o.n o.c] yy fun e w' => e = .returned (.agg #[.int .u64 x3.x0, .int .u64 x3.x1, .int .u64 x3.x2, .int .u64 x3.x3]) ∧ Below yy.heap.size yy w'))
  (C21 : Hid (∀ yy, Below W.heap.size W yy → Calls Tryd.prog 48 #[.slice d.p d.n d.c, .slice v.p v.n v.c] yy fun e w' => e = .returned (.agg #[.int .u64 x4.x0, .int .u64 x4.x1, .int .u64 x4.x2, .int .u64 x4.x3]) ∧ Below yy.heap.size yy w'))
  (C10 : Hid (∀ yy, Below W.heap.size W yy → Calls Tryd.prog 15 #[.agg #[.int .u64 x1.x0, .int .u64 x1.x1, .int .u64 x1.x2, .int .u64 x1.x3], .agg #[.int .u64 x2.x0, .int .u64 x2.x1, .int .u64 x2.x2, .int .u64 x2.x3]] yy fun e w' => e = .returned (.agg #[.int .u64 y1.x0, .int .u64 y1.x1, .int .u64 y1.x2, .int .u64 y1.x3]) ∧ Below yy.heap.size yy w'))
  (C16 : Hid (∀ yy, Below W.heap.size W yy → Calls Tryd.prog 15 #[.agg #[.int .u64 y1.x0, .int .u64 y1.x1, .int .u64 y1.x2, .int .u64 y1.x3], .agg #[.int .u64 x3.x0, .int .u64 x3.x1, .int .u64 x3.x2, .int .u64 x3.x3]] yy fun e w' => e = .returned (.agg #[.int .u64 y2.x0, .int .u64 y2.x1, .int .u64 y2.x2, .int .u64 y2.x3]) ∧ Below yy.heap.size yy w'))
  (C22 : Hid (∀ yy, Below W.heap.size W yy → Calls Tryd.prog 49 #[.agg #[.int .u64 y2.x0, .int .u64 y2.x1, .int .u64 y2.x2, .int .u64 y2.x3], .agg #[.int .u64 x4.x0, .int .u64 x4.x1, .int .u64 x4.x2, .int .u64 x4.x3]] yy fun e w' => e = .returned (.agg #[.int .u64 y3.x0, .int .u64 y3.x1, .int .u64 y3.x2, .int .u64 y3.x3]) ∧ Below yy.heap.size yy w'))
  (C25 : Hid (∀ yy, Below W.heap.size W yy → Calls Tryd.prog 49 #[.agg #[.int .u64 y3.x0, .int .u64 y3.x1, .int .u64 y3.x2, .int .u64 y3.x3], .agg #[.int .u64 C.x0, .int .u64 C.x1, .int .u64 C.x2, .int .u64 C.x3]] yy fun e w' => e = .returned (.agg #[.int .u64 y4.x0, .int .u64 y4.x1, .int .u64 y4.x2, .int .u64 y4.x3]) ∧ Below yy.heap.size yy w'))
  (HQ : Hid (∀ (wz : World), (∃ wy, Below W.heap.size W wy ∧ wz = wy.setCells rb 0 [.int .u64 y4.x0, .int .u64 y4.x1, .int .u64 y4.x2, .int .u64 y4.x3]) → Q .normal ⟨#[u0, u1, .pointer (some ⟨wb, 0, none⟩), .pointer (some ⟨ab, 0, none⟩), .pointer (some ⟨rb, 0, none⟩), .pointer (some ⟨wb, 0, none⟩), .slice a.p a.n a.c, .pointer (some ⟨ab, 0, none⟩), .slice l.p l.n l.c, .agg #[.int .u64 x1.x0, .int .u64 x1.x1, .int .u64 x1.x2, .int .u64 x1.x3], .pointer (some ⟨wb, 1, none⟩), .slice b.p b.n b.c, .pointer (some ⟨ab, 1, none⟩), .slice r.p r.n r.c, .agg #[.int .u64 x2.x0, .int .u64 x2.x1, .int .u64 x2.x2, .int .u64 x2.x3], .agg #[.int .u64 y1.x0, .int .u64 y1.x1, .int .u64 y1.x2, .int .u64 y1.x3], .pointer (some ⟨wb, 2, none⟩), .slice c.p c.n c.c, .pointer (some ⟨ab, 2, none⟩), .slice o.p o.n o.c, .agg #[.int .u64 x3.x0, .int .u64 x3.x1, .int .u64 x3.x2, .int .u64 x3.x3], .agg #[.int .u64 y2.x0, .int .u64 y2.x1, .int .u64 y2.x2, .int .u64 y2.x3], .pointer (some ⟨wb, 3, none⟩), .slice d.p d.n d.c, .pointer (some ⟨ab, 3, none⟩), .slice v.p v.n v.c, .agg #[.int .u64 x4.x0, .int .u64 x4.x1, .int .u64 x4.x2, .int .u64 x4.x3], .agg #[.int .u64 y3.x0, .int .u64 y3.x1, .int .u64 y3.x2, .int .u64 y3.x3], .pointer (some ⟨wb, 4, none⟩), .agg #[.int .u64 C.x0, .int .u64 C.x1, .int .u64 C.x2, .int .u64 C.x3], .agg #[.int .u64 y4.x0, .int .u64 y4.x1, .int .u64 y4.x2, .int .u64 y4.x3]], []⟩ wz)) : (Code.region 1 rt1o true).wp Tryd.prog Q ⟨#[u0, u1, .pointer (some ⟨wb, 0, none⟩), .pointer (some ⟨ab, 0, none⟩), .pointer (some ⟨rb, 0, none⟩), u5, u6, u7, u8, u9, u10, u11, u12, u13, u14, u15, u16, u17, u18, u19, u20, u21, u22, u23, u24, u25, u26, u27, u28, u29, u30], []⟩ W := by
 have BB := hidden (bl_drew W)
 unfold rt1o
 refine wp_region_noPanic ?_
 refine wp_region_held_drew (S := fun x => W.grownBy x (some rb)) (by kernel_rfl) (gbI (bl_drew W) _) (fun hH0 => ?_)
 refine tk 0 rt1o_0 (.pointer (some ⟨wb, 0, none⟩)) rfl (by kernel_rfl) hH0 rfl (fun w0 hSw => ?_) ?_
 ·(unfold rt1o_0; clear hSw; go_simp)
 simp only [rt1o_0, Act.put, sA, sB, sC]
 refine tk 2 rt1o_2 (.pointer (some ⟨ab, 0, none⟩)) rfl (by kernel_rfl) hH0 rfl (fun w0 hSw => ?_) ?_
 ·(unfold rt1o_2; clear hSw; go_simp)
 simp only [rt1o_2, Act.put, sA, sB, sC]
 refine tk 5 rt1o_5 (.pointer (some ⟨wb, 1, none⟩)) rfl (by kernel_rfl) hH0 rfl (fun w0 hSw => ?_) ?_
 ·(unfold rt1o_5; clear hSw; go_simp)
 simp only [rt1o_5, Act.put, sA, sB, sC]
 refine tk 7 rt1o_7 (.pointer (some ⟨ab, 1, none⟩)) rfl (by kernel_rfl) hH0 rfl (fun w0 hSw => ?_) ?_
 ·(unfold rt1o_7; clear hSw; go_simp)
 simp only [rt1o_7, Act.put, sA, sB, sC]
 refine tk 11 rt1o_11 (.pointer (some ⟨wb, 2, none⟩)) rfl (by kernel_rfl) hH0 rfl (fun w0 hSw => ?_) ?_
 ·(unfold rt1o_11; clear hSw; go_simp)
 simp only [rt1o_11, Act.put, sA, sB, sC]
 refine tk 13 rt1o_13 (.pointer (some ⟨ab, 2, none⟩)) rfl (by kernel_rfl) hH0 rfl (fun w0 hSw => ?_) ?_
 ·(unfold rt1o_13; clear hSw; go_simp)
 simp only [rt1o_13, Act.put, sA, sB, sC]
 refine tk 17 rt1o_17 (.pointer (some ⟨wb, 3, none⟩)) rfl (by kernel_rfl) hH0 rfl (fun w0 hSw => ?_) ?_
 ·(unfold rt1o_17; clear hSw; go_simp)
 simp only [rt1o_17, Act.put, sA, sB, sC]
 refine tk 19 rt1o_19 (.pointer (some ⟨ab, 3, none⟩)) rfl (by kernel_rfl) hH0 rfl (fun w0 hSw => ?_) ?_
 ·(unfold rt1o_19; clear hSw; go_simp)
 simp only [rt1o_19, Act.put, sA, sB, sC]
 refine tk 23 rt1o_23 (.pointer (some ⟨wb, 4, none⟩)) rfl (by kernel_rfl) hH0 rfl (fun w0 hSw => ?_) ?_
 ·(unfold rt1o_23; clear hSw; go_simp)
 simp only [rt1o_23, Act.put, sA, sB, sC]
 refine tk 1 rt1o_1 (.slice a.p a.n a.c) rfl (by kernel_rfl) hH0 rfl (fun w0 hSw => ?_) ?_
 ·(unfold rt1o_1; have hS : W.grownBy w0 (some rb) := hSw; have a0 := hS.cell gw0 (fun e => nw (Option.some.inj e)); clear hS hSw; go_simp)
 simp only [rt1o_1, Act.put, sA, sB, sC]
 refine tk 3 rt1o_3 (.slice l.p l.n l.c) rfl (by kernel_rfl) hH0 rfl (fun w0 hSw => ?_) ?_
 ·(unfold rt1o_3; have hS : W.grownBy w0 (some rb) := hSw; have a0 := hS.cell ga0 (fun e => na (Option.some.inj e)); clear hS hSw; go_simp)
 simp only [rt1o_3, Act.put, sA, sB, sC]
 refine tk 6 rt1o_6 (.slice b.p b.n b.c) rfl (by kernel_rfl) hH0 rfl (fun w0 hSw => ?_) ?_
 ·(unfold rt1o_6; have hS : W.grownBy w0 (some rb) := hSw; have a0 := hS.cell gw1 (fun e => nw (Option.some.inj e)); clear hS hSw; go_simp)
 simp only [rt1o_6, Act.put, sA, sB, sC]
 refine tk 8 rt1o_8 (.slice r.p r.n r.c) rfl (by kernel_rfl) hH0 rfl (fun w0 hSw => ?_) ?_
 ·(unfold rt1o_8; have hS : W.grownBy w0 (some rb) := hSw; have a0 := hS.cell ga1 (fun e => na (Option.some.inj e)); clear hS hSw; go_simp)
 simp only [rt1o_8, Act.put, sA, sB, sC]
 refine tk 12 rt1o_12 (.slice c.p c.n c.c) rfl (by kernel_rfl) hH0 rfl (fun w0 hSw => ?_) ?_
 ·(unfold rt1o_12; have hS : W.grownBy w0 (some rb) := hSw; have a0 := hS.cell gw2 (fun e => nw (Option.some.inj e)); clear hS hSw; go_simp)
 simp only [rt1o_12, Act.put, sA, sB, sC]
 refine tk 14 rt1o_14 (.slice o.p o.n o.c) rfl (by kernel_rfl) hH0 rfl (fun w0 hSw => ?_) ?_
 ·(unfold rt1o_14; have hS : W.grownBy w0 (some rb) := hSw; have a0 := hS.cell ga2 (fun e => na (Option.some.inj e)); clear hS hSw; go_simp)
 simp only [rt1o_14, Act.put, sA, sB, sC]
 refine tk 18 rt1o_18 (.slice d.p d.n d.c) rfl (by kernel_rfl) hH0 rfl (fun w0 hSw => ?_) ?_
 ·(unfold rt1o_18; have hS : W.grownBy w0 (some rb) := hSw; have a0 := hS.cell gw3 (fun e => nw (Option.some.inj e)); clear hS hSw; go_simp)
 simp only [rt1o_18, Act.put, sA, sB, sC]
 refine tk 20 rt1o_20 (.slice v.p v.n v.c) rfl (by kernel_rfl) hH0 rfl (fun w0 hSw => ?_) ?_
 ·(unfold rt1o_20; have hS : W.grownBy w0 (some rb) := hSw; have a0 := hS.cell ga3 (fun e => na (Option.some.inj e)); clear hS hSw; go_simp)
 simp only [rt1o_20, Act.put, sA, sB, sC]
 refine tk 24 rt1o_24 (.agg #[.int .u64 C.x0, .int .u64 C.x1, .int .u64 C.x2, .int .u64 C.x3]) rfl (by kernel_rfl) hH0 rfl (fun w0 hSw => ?_) ?_
 ·(unfold rt1o_24; have hS : W.grownBy w0 (some rb) := hSw; have a0 := hS.cell gk0 (fun e => nw (Option.some.inj e)); have a1 := hS.cell gk1 (fun e => nw (Option.some.inj e)); have a2 := hS.cell gk2 (fun e => nw (Option.some.inj e)); have a3 := hS.cell gk3 (fun e => nw (Option.some.inj e)); clear hS hSw; go_simp)
 simp only [rt1o_24, Act.put, sA, sB, sC]
 refine wpAnyH_ready (rs := [4]) (by kernel_rfl) (by simp) ?_
 refine AllReadyH.cons (o := rt1o_4) rfl (fun K hK => ?_) AllReadyH.nil
 unfold rt1o_4
 have HH := hidden hH0
 clear hH0
 go_simp
 refine (C4.out _ BB.out).mono ?_
 rintro e wn1 ⟨rfl, hb⟩
 replace BB := hidden (bl_trans BB.out hb)
 have SN := hidden (HH.out.trans (gbI hb _))
 clear HH C4 hb
 go_wp2_with fail
 refine hK.out _ _ SN.out (fun hH1 => ?_)
 clear hK K SN
 refine wpAnyH_ready (rs := [9]) (by kernel_rfl) (by simp) ?_
 refine AllReadyH.cons (o := rt1o_9) rfl (fun K hK => ?_) AllReadyH.nil
 unfold rt1o_9
 have HH := hidden hH1
 clear hH1
 go_simp
 refine (C9.out _ BB.out).mono ?_
 rintro e wn2 ⟨rfl, hb⟩
 replace BB := hidden (bl_trans BB.out hb)
 have SN := hidden (HH.out.trans (gbI hb _))
 clear HH C9 hb
 go_wp2_with fail
 refine hK.out _ _ SN.out (fun hH2 => ?_)
 clear hK K SN
 refine wpAnyH_ready (rs := [10]) (by kernel_rfl) (by simp) ?_
 refine AllReadyH.cons (o := rt1o_10) rfl (fun K hK => ?_) AllReadyH.nil
 unfold rt1o_10
 have HH := hidden hH2
 clear hH2
 go_simp
 refine (C10.out _ BB.out).mono ?_
 rintro e wn3 ⟨rfl, hb⟩
 replace BB := hidden (bl_trans BB.out hb)
 have SN := hidden (HH.out.trans (gbI hb _))
 clear HH C10 hb
 go_wp2_with fail
 refine hK.out _ _ SN.out (fun hH3 => ?_)
 clear hK K SN
 refine wpAnyH_ready (rs := [15]) (by kernel_rfl) (by simp) ?_
 refine AllReadyH.cons (o := rt1o_15) rfl (fun K hK => ?_) AllReadyH.nil
 unfold rt1o_15
 have HH := hidden hH3
 clear hH3
 go_simp
 refine (C15.out _ BB.out).mono ?_
 rintro e wn4 ⟨rfl, hb⟩
 replace BB := hidden (bl_trans BB.out hb)
 have SN := hidden (HH.out.trans (gbI hb _))
 clear HH C15 hb
 go_wp2_with fail
 refine hK.out _ _ SN.out (fun hH4 => ?_)
 clear hK K SN
 refine wpAnyH_ready (rs := [16]) (by kernel_rfl) (by simp) ?_
 refine AllReadyH.cons (o := rt1o_16) rfl (fun K hK => ?_) AllReadyH.nil
 unfold rt1o_16
 have HH := hidden hH4
 clear hH4
 go_simp
 refine (C16.out _ BB.out).mono ?_
 rintro e wn5 ⟨rfl, hb⟩
 replace BB := hidden (bl_trans BB.out hb)
 have SN := hidden (HH.out.trans (gbI hb _))
 clear HH C16 hb
 go_wp2_with fail
 refine hK.out _ _ SN.out (fun hH5 => ?_)
 clear hK K SN
 refine wpAnyH_ready (rs := [21]) (by kernel_rfl) (by simp) ?_
 refine AllReadyH.cons (o := rt1o_21) rfl (fun K hK => ?_) AllReadyH.nil
 unfold rt1o_21
 have HH := hidden hH5
 clear hH5
 go_simp
 refine (C21.out _ BB.out).mono ?_
 rintro e wn6 ⟨rfl, hb⟩
 replace BB := hidden (bl_trans BB.out hb)
 have SN := hidden (HH.out.trans (gbI hb _))
 clear HH C21 hb
 go_wp2_with fail
 refine hK.out _ _ SN.out (fun hH6 => ?_)
 clear hK K SN
 refine wpAnyH_ready (rs := [22]) (by kernel_rfl) (by simp) ?_
 refine AllReadyH.cons (o := rt1o_22) rfl (fun K hK => ?_) AllReadyH.nil
 unfold rt1o_22
 have HH := hidden hH6
 clear hH6
 go_simp
 refine (C22.out _ BB.out).mono ?_
 rintro e wn7 ⟨rfl, hb⟩
 replace BB := hidden (bl_trans BB.out hb)
 have SN := hidden (HH.out.trans (gbI hb _))
 clear HH C22 hb
 go_wp2_with fail
 refine hK.out _ _ SN.out (fun hH7 => ?_)
 clear hK K SN
 refine wpAnyH_ready (rs := [25]) (by kernel_rfl) (by simp) ?_
 refine AllReadyH.cons (o := rt1o_25) rfl (fun K hK => ?_) AllReadyH.nil
 unfold rt1o_25
 have HH := hidden hH7
 clear hH7
 go_simp
 refine (C25.out _ BB.out).mono ?_
 rintro e wn8 ⟨rfl, hb⟩
 replace BB := hidden (bl_trans BB.out hb)
 have SN := hidden (HH.out.trans (gbI hb _))
 clear HH C25 hb
 go_wp2_with fail
 refine hK.out _ _ SN.out (fun hH8 => ?_)
 clear hK K SN
 refine wpAnyH_ready (rs := [26]) (by kernel_rfl) (by simp) ?_
 refine AllReadyH.cons (o := rt1o_26) rfl (fun K hK => ?_) AllReadyH.nil
 unfold rt1o_26
 have HH := hidden hH8
 clear hH8
 refine wp_storeE 26 _ _ rfl rb 0 ([.int .u64 y4.x0, .int .u64 y4.x1, .int .u64 y4.x2, .int .u64 y4.x3]) (by rfl) (by rfl) (there_bl th BB.out) i4_s (one4 y4) rfl (fun wn9 hw => ?_)
 have SN := hidden (HH.out.trans (gb_setCells rb [.int .u64 y4.x0, .int .u64 y4.x1, .int .u64 y4.x2, .int .u64 y4.x3] 0 _))
 have FE := hidden ((⟨_, BB.out, hw⟩ : ∃ wy, Below W.heap.size W wy ∧ _ = wy.setCells rb 0 [.int .u64 y4.x0, .int .u64 y4.x1, .int .u64 y4.x2, .int .u64 y4.x3]))
 rw [← hw] at SN
 clear HH hw
 refine hK.out _ _ SN.out (fun hH9 => ?_)
 clear hK K SN
 have HH := hidden hH9
 have FQ := hidden (HQ.out _ FE.out)
 refine wpAnyH_done (by kernel_rfl) ?_ _
 refine NoPanic.normal ?_
 exact FQ.out
def rsE (a b c d l r o v : Sl) (C : E4) : E4 := lst ((lst ((lst ((lst ((de a.g l.g a.n).n + (de b.g r.g b.n).n)).n + (de c.g o.g c.n).n)).n - (de d.g v.g d.n).n)).n - C.n)
theorem rest_any (a b c d l r o v : Sl) (C : E4) (w : World) (hT : Tb w) (hA : a.at w ∧ b.at w ∧ c.at w ∧ d.at w ∧ C.ok) (hL : l.at w ∧ r.at w ∧ o.at w ∧ v.at w) (hn : (l.n = a.n ∧ r.n = b.n ∧ o.n = c.n ∧ v.n = d.n) ∧ (a.n ≤ 4096 ∧ b.n ≤ 4096 ∧ c.n ≤ 4096 ∧ d.n ≤ 4096)) :
  Calls Tryd.prog 17 #[.agg #[.slice a.p a.n a.c, .slice b.p b.n b.c, .slice c.p c.n c.c, .slice d.p d.n d.c, .int .u64 C.x0, .int .u64 C.x1, .int .u64 C.x2, .int .u64 C.x3], .agg #[.slice l.p l.n l.c, .slice r.p r.n r.c, .slice o.p o.n o.c, .slice v.p v.n v.c]] w fun e w' => e = .returned (.agg #[.int .u64 (rsE a b c d l r o v C).x0, .int .u64 (rsE a b c d l r o v C).x1, .int .u64 (rsE a b c d l r o v C).x2, .int .u64 (rsE a b c d l r o v C).x3]) ∧ Below w.heap.size w w' := by
 have b3 : Below w.heap.size w (((w.alloc (.cells #[.slice a.p a.n a.c, .slice b.p b.n b.c, .slice c.p c.n c.c, .slice d.p d.n d.c, .int .u64 C.x0, .int .u64 C.x1, .int .u64 C.x2, .int .u64 C.x3] 34)).alloc (.cells #[.slice l.p l.n l.c, .slice r.p r.n r.c, .slice o.p o.n o.c, .slice v.p v.n v.c] 31)).alloc (.cells #[.int .u64 0, .int .u64 0, .int .u64 0, .int .u64 0] 26)) := bl_trans (bl_alloc2 w (.cells #[.slice a.p a.n a.c, .slice b.p b.n b.c, .slice c.p c.n c.c, .slice d.p d.n d.c, .int .u64 C.x0, .int .u64 C.x1, .int .u64 C.x2, .int .u64 C.x3] 34) (.cells #[.slice l.p l.n l.c, .slice r.p r.n r.c, .slice o.p o.n o.c, .slice v.p v.n v.c] 31)) (bl_alloc _ _)
 have HT := hidden hT
 have HA := hidden hA
 have HL := hidden hL
 have HN := hidden hn
 have HB := hidden b3
 have w0 : (((w.alloc (.cells #[.slice a.p a.n a.c, .slice b.p b.n b.c, .slice c.p c.n c.c, .slice d.p d.n d.c, .int .u64 C.x0, .int .u64 C.x1, .int .u64 C.x2, .int .u64 C.x3] 34)).alloc (.cells #[.slice l.p l.n l.c, .slice r.p r.n r.c, .slice o.p o.n o.c, .slice v.p v.n v.c] 31)).alloc (.cells #[.int .u64 0, .int .u64 0, .int .u64 0, .int .u64 0] 26)).cell? ⟨w.heap.size, 0, none⟩ = some (.slice a.p a.n a.c) := by go_simp
 have w1 : (((w.alloc (.cells #[.slice a.p a.n a.c, .slice b.p b.n b.c, .slice c.p c.n c.c, .slice d.p d.n d.c, .int .u64 C.x0, .int .u64 C.x1, .int .u64 C.x2, .int .u64 C.x3] 34)).alloc (.cells #[.slice l.p l.n l.c, .slice r.p r.n r.c, .slice o.p o.n o.c, .slice v.p v.n v.c] 31)).alloc (.cells #[.int .u64 0, .int .u64 0, .int .u64 0, .int .u64 0] 26)).cell? ⟨w.heap.size, 1, none⟩ = some (.slice b.p b.n b.c) := by go_simp
 have w2 : (((w.alloc (.cells #[.slice a.p a.n a.c, .slice b.p b.n b.c, .slice c.p c.n c.c, .slice d.p d.n d.c, .int .u64 C.x0, .int .u64 C.x1, .int .u64 C.x2, .int .u64 C.x3] 34)).alloc (.cells #[.slice l.p l.n l.c, .slice r.p r.n r.c, .slice o.p o.n o.c, .slice v.p v.n v.c] 31)).alloc (.cells #[.int .u64 0, .int .u64 0, .int .u64 0, .int .u64 0] 26)).cell? ⟨w.heap.size, 2, none⟩ = some (.slice c.p c.n c.c) := by go_simp
 have w3c : (((w.alloc (.cells #[.slice a.p a.n a.c, .slice b.p b.n b.c, .slice c.p c.n c.c, .slice d.p d.n d.c, .int .u64 C.x0, .int .u64 C.x1, .int .u64 C.x2, .int .u64 C.x3] 34)).alloc (.cells #[.slice l.p l.n l.c, .slice r.p r.n r.c, .slice o.p o.n o.c, .slice v.p v.n v.c] 31)).alloc (.cells #[.int .u64 0, .int .u64 0, .int .u64 0, .int .u64 0] 26)).cell? ⟨w.heap.size, 3, none⟩ = some (.slice d.p d.n d.c) := by go_simp
 have k0 : (((w.alloc (.cells #[.slice a.p a.n a.c, .slice b.p b.n b.c, .slice c.p c.n c.c, .slice d.p d.n d.c, .int .u64 C.x0, .int .u64 C.x1, .int .u64 C.x2, .int .u64 C.x3] 34)).alloc (.cells #[.slice l.p l.n l.c, .slice r.p r.n r.c, .slice o.p o.n o.c, .slice v.p v.n v.c] 31)).alloc (.cells #[.int .u64 0, .int .u64 0, .int .u64 0, .int .u64 0] 26)).cell? ⟨w.heap.size, 4, none⟩ = some (.int .u64 C.x0) := by go_simp
 have k1 : (((w.alloc (.cells #[.slice a.p a.n a.c, .slice b.p b.n b.c, .slice c.p c.n c.c, .slice d.p d.n d.c, .int .u64 C.x0, .int .u64 C.x1, .int .u64 C.x2, .int .u64 C.x3] 34)).alloc (.cells #[.slice l.p l.n l.c, .slice r.p r.n r.c, .slice o.p o.n o.c, .slice v.p v.n v.c] 31)).alloc (.cells #[.int .u64 0, .int .u64 0, .int .u64 0, .int .u64 0] 26)).cell? ⟨w.heap.size, 5, none⟩ = some (.int .u64 C.x1) := by go_simp
 have k2 : (((w.alloc (.cells #[.slice a.p a.n a.c, .slice b.p b.n b.c, .slice c.p c.n c.c, .slice d.p d.n d.c, .int .u64 C.x0, .int .u64 C.x1, .int .u64 C.x2, .int .u64 C.x3] 34)).alloc (.cells #[.slice l.p l.n l.c, .slice r.p r.n r.c, .slice o.p o.n o.c, .slice v.p v.n v.c] 31)).alloc (.cells #[.int .u64 0, .int .u64 0, .int .u64 0, .int .u64 0] 26)).cell? ⟨w.heap.size, 6, none⟩ = some (.int .u64 C.x2) := by go_simp
 have k3 : (((w.alloc (.cells #[.slice a.p a.n a.c, .slice b.p b.n b.c, .slice c.p c.n c.c, .slice d.p d.n d.c, .int .u64 C.x0, .int .u64 C.x1, .int .u64 C.x2, .int .u64 C.x3] 34)).alloc (.cells #[.slice l.p l.n l.c, .slice r.p r.n r.c, .slice o.p o.n o.c, .slice v.p v.n v.c] 31)).alloc (.cells #[.int .u64 0, .int .u64 0, .int .u64 0, .int .u64 0] 26)).cell? ⟨w.heap.size, 7, none⟩ = some (.int .u64 C.x3) := by go_simp
 have a0 : (((w.alloc (.cells #[.slice a.p a.n a.c, .slice b.p b.n b.c, .slice c.p c.n c.c, .slice d.p d.n d.c, .int .u64 C.x0, .int .u64 C.x1, .int .u64 C.x2, .int .u64 C.x3] 34)).alloc (.cells #[.slice l.p l.n l.c, .slice r.p r.n r.c, .slice o.p o.n o.c, .slice v.p v.n v.c] 31)).alloc (.cells #[.int .u64 0, .int .u64 0, .int .u64 0, .int .u64 0] 26)).cell? ⟨w.heap.size + 1, 0, none⟩ = some (.slice l.p l.n l.c) := by go_simp
 have a1 : (((w.alloc (.cells #[.slice a.p a.n a.c, .slice b.p b.n b.c, .slice c.p c.n c.c, .slice d.p d.n d.c, .int .u64 C.x0, .int .u64 C.x1, .int .u64 C.x2, .int .u64 C.x3] 34)).alloc (.cells #[.slice l.p l.n l.c, .slice r.p r.n r.c, .slice o.p o.n o.c, .slice v.p v.n v.c] 31)).alloc (.cells #[.int .u64 0, .int .u64 0, .int .u64 0, .int .u64 0] 26)).cell? ⟨w.heap.size + 1, 1, none⟩ = some (.slice r.p r.n r.c) := by go_simp
 have a2 : (((w.alloc (.cells #[.slice a.p a.n a.c, .slice b.p b.n b.c, .slice c.p c.n c.c, .slice d.p d.n d.c, .int .u64 C.x0, .int .u64 C.x1, .int .u64 C.x2, .int .u64 C.x3] 34)).alloc (.cells #[.slice l.p l.n l.c, .slice r.p r.n r.c, .slice o.p o.n o.c, .slice v.p v.n v.c] 31)).alloc (.cells #[.int .u64 0, .int .u64 0, .int .u64 0, .int .u64 0] 26)).cell? ⟨w.heap.size + 1, 2, none⟩ = some (.slice o.p o.n o.c) := by go_simp
 have a3 : (((w.alloc (.cells #[.slice a.p a.n a.c, .slice b.p b.n b.c, .slice c.p c.n c.c, .slice d.p d.n d.c, .int .u64 C.x0, .int .u64 C.x1, .int .u64 C.x2, .int .u64 C.x3] 34)).alloc (.cells #[.slice l.p l.n l.c, .slice r.p r.n r.c, .slice o.p o.n o.c, .slice v.p v.n v.c] 31)).alloc (.cells #[.int .u64 0, .int .u64 0, .int .u64 0, .int .u64 0] 26)).cell? ⟨w.heap.size + 1, 3, none⟩ = some (.slice v.p v.n v.c) := by go_simp
 have th : (((w.alloc (.cells #[.slice a.p a.n a.c, .slice b.p b.n b.c, .slice c.p c.n c.c, .slice d.p d.n d.c, .int .u64 C.x0, .int .u64 C.x1, .int .u64 C.x2, .int .u64 C.x3] 34)).alloc (.cells #[.slice l.p l.n l.c, .slice r.p r.n r.c, .slice o.p o.n o.c, .slice v.p v.n v.c] 31)).alloc (.cells #[.int .u64 0, .int .u64 0, .int .u64 0, .int .u64 0] 26)).there (w.heap.size + 1 + 1) 0 4 := by
  have := there_newM ((w.alloc (.cells #[.slice a.p a.n a.c, .slice b.p b.n b.c, .slice c.p c.n c.c, .slice d.p d.n d.c, .int .u64 C.x0, .int .u64 C.x1, .int .u64 C.x2, .int .u64 C.x3] 34)).alloc (.cells #[.slice l.p l.n l.c, .slice r.p r.n r.c, .slice o.p o.n o.c, .slice v.p v.n v.c] 31)) [.int .u64 0, .int .u64 0, .int .u64 0, .int .u64 0] 26
  simpa [World.size_alloc] using this
 clear b3 hT hA hL hn
 go_enter Tryd.func17, Tryd.ntmps17
 go_upto_region 1 with fail
 generalize (((w.alloc (.cells #[.slice a.p a.n a.c, .slice b.p b.n b.c, .slice c.p c.n c.c, .slice d.p d.n d.c, .int .u64 C.x0, .int .u64 C.x1, .int .u64 C.x2, .int .u64 C.x3] 34)).alloc (.cells #[.slice l.p l.n l.c, .slice r.p r.n r.c, .slice o.p o.n o.c, .slice v.p v.n v.c] 31)).alloc (.cells #[.int .u64 0, .int .u64 0, .int .u64 0, .int .u64 0] 26)) = w3 at *
 have TB : Hid (∀ y, Below w3.heap.size w3 y → Tb y) := hidden (fun y hb => HT.out.keep (bl_trans HB.out hb))
 have KP : ∀ {s : Sl}, s.at w → ∀ y, Below w3.heap.size w3 y → s.at y := fun h y hb => h.keep (bl_trans HB.out hb)
 refine rt1 _ w.heap.size (w.heap.size + 1) (w.heap.size + 1 + 1) a b c d l r o v C (de a.g l.g a.n) (de b.g r.g b.n) (de c.g o.g c.n) (de d.g v.g d.n) (lst ((de a.g l.g a.n).n + (de b.g r.g b.n).n)) (lst ((lst ((de a.g l.g a.n).n + (de b.g r.g b.n).n)).n + (de c.g o.g c.n).n)) (lst ((lst ((lst ((de a.g l.g a.n).n + (de b.g r.g b.n).n)).n + (de c.g o.g c.n).n)).n - (de d.g v.g d.n).n)) (rsE a b c d l r o v C) _ _ _ _ _ _ _ _ _ _ _ _ _ _ _ _ _ _ _ _ _ _ _ _ _ _ _ _ w3 (by omega) (by omega) th w0 w1 w2 w3c a0 a1 a2 a3 k0 k1 k2 k3
  (hidden fun y hb => dot_any a l y (TB.out y hb) (by have := HN.out.2.1; omega) (KP HA.out.1 y hb) (KP HL.out.1 y hb) HN.out.1.1)
  (hidden fun y hb => dot_any b r y (TB.out y hb) (by have := HN.out.2.2.1; omega) (KP HA.out.2.1 y hb) (KP HL.out.2.1 y hb) HN.out.1.2.1)
  (hidden fun y hb => dot_any c o y (TB.out y hb) (by have := HN.out.2.2.2.1; omega) (KP HA.out.2.2.1 y hb) (KP HL.out.2.2.1 y hb) HN.out.1.2.2.1)
  (hidden fun y hb => dot_any d v y (TB.out y hb) (by have := HN.out.2.2.2.2; omega) (KP HA.out.2.2.2.1 y hb) (KP HL.out.2.2.2 y hb) HN.out.1.2.2.2)
  (hidden fun y hb => fix (Add_any _ _ y (TB.out y hb) (de_ok _ _ _) (de_ok _ _ _)) rfl)
  (hidden fun y hb => fix (Add_any _ _ y (TB.out y hb) (lst_ok _) (de_ok _ _ _)) rfl)
  (hidden fun y hb => fix (Sub_any _ _ y (TB.out y hb) (lst_ok _) (de_ok _ _ _)) rfl)
  (hidden fun y hb => fix (Sub_any _ _ y (TB.out y hb) (lst_ok _) HA.out.2.2.2.2) rfl) (hidden ?_)
 intro wz hz
 have FE : Hid (wz.rangeAt (w.heap.size + 1 + 1) 0 [.int .u64 (rsE a b c d l r o v C).x0, .int .u64 (rsE a b c d l r o v C).x1, .int .u64 (rsE a b c d l r o v C).x2, .int .u64 (rsE a b c d l r o v C).x3] ∧ Below w.heap.size w wz) := hidden (by
  obtain ⟨wy, hy, rfl⟩ := hz
  exact ⟨World.rangeAt_setCells_same wy (w.heap.size + 1 + 1) 0 _ (there_bl th hy), (bl_trans HB.out hy).grown (gb_setCells (w.heap.size + 1 + 1) _ 0 wy) (bl_trans HB.out hy).size (fun j hj => by have := Option.some.inj hj; omega)⟩)
 have v0 : wz.cell? ⟨w.heap.size + 1 + 1, 0, none⟩ = some (.int .u64 (rsE a b c d l r o v C).x0) := FE.out.1 0 _ rfl
 have v1 : wz.cell? ⟨w.heap.size + 1 + 1, 1, none⟩ = some (.int .u64 (rsE a b c d l r o v C).x1) := FE.out.1 1 _ rfl
 have v2 : wz.cell? ⟨w.heap.size + 1 + 1, 2, none⟩ = some (.int .u64 (rsE a b c d l r o v C).x2) := FE.out.1 2 _ rfl
 have v3 : wz.cell? ⟨w.heap.size + 1 + 1, 3, none⟩ = some (.int .u64 (rsE a b c d l r o v C).x3) := FE.out.1 3 _ rfl
 clear hz
 go_wp2_with fail
 refine bodyPost_ret (v := .agg #[.int .u64 (rsE a b c d l r o v C).x0, .int .u64 (rsE a b c d l r o v C).x1, .int .u64 (rsE a b c d l r o v C).x2, .int .u64 (rsE a b c d l r o v C).x3]) (by simp [results, Tryd.results17, go_sem, v0, v1, v2, v3]) rfl ⟨rfl, FE.out.2⟩
def va (l r o v : Sl) (k i : Nat) : Int := ((nms 0 l r o v k).g i).n
theorem vlv_vl (l r o v : Sl) : ∀ X : List Tm, vlv (va l r o v) X = vl (nms 0 l r o v) X
 | [] => rfl
 | x :: X => by show _ + vlv _ X = _ + vl _ X; rw [vlv_vl l r o v X]; rfl
theorem rs_is (a b c d l r o v : Sl) (C : E4) : (rsE a b c d l r o v C).n % Sm.L = (D1 a.n a.g (va l r o v 2) + D1 b.n b.g (va l r o v 3) + D1 c.n c.g (va l r o v 4) - D1 d.n d.g (va l r o v 5) - C.n * va l r o v 1 0) % Sm.L := by
 have h1 := de_is a.g l.g a.n
 have h2 := de_is b.g r.g b.n
 have h3 := de_is c.g o.g c.n
 have h4 := de_is d.g v.g d.n
 have e1 : va l r o v 1 0 = 1 := by show (lst 1).n = 1; rw [lst_n]; decide
 unfold rsE
 rw [e1]
 simp only [lst_n]
 show _ = (D1 a.n a.g (fun k => (l.g k).n) + D1 b.n b.g (fun k => (r.g k).n) + D1 c.n c.g (fun k => (o.g k).n) - D1 d.n d.g (fun k => (v.g k).n) - C.n * 1) % _
 generalize D1 a.n a.g (fun k => (l.g k).n) = A1 at *
 generalize D1 b.n b.g (fun k => (r.g k).n) = A2 at *
 generalize D1 c.n c.g (fun k => (o.g k).n) = A3 at *
 generalize D1 d.n d.g (fun k => (v.g k).n) = A4 at *
 generalize (de a.g l.g a.n).n = x1 at *
 generalize (de b.g r.g b.n).n = x2 at *
 generalize (de c.g o.g c.n).n = x3 at *
 generalize (de d.g v.g d.n).n = x4 at *
 unfold Sm.L at *
 omega
end Ci
end Go.Proofs.YtimjfndaleccaaaDoor
namespace Go.Proofs.YtimjfndaleccaaaDoor
open Go.RowKit
set_option linter.unusedVariables false
set_option linter.unusedSimpArgs false
open Cm (Wr Tm co bf Ls lf ins Eqm)
namespace Ci
set_option maxRecDepth 100000
set_option maxHeartbeats 8000000
theorem Clone0_any (P : Option Addr) (c : Nat) (w : World) : Calls Tryd.prog 36 #[.slice P 0 c] w fun e w' => ∃ P' c', e = .returned (.slice P' 0 c') ∧ Below w.heap.size w w' := by
 have eqn := fun (a : Option Addr) (l c : Nat) (w : World) => Lib.run_eql_slice_nil (P := Tryd.prog) w 41 77 a l c 0 0 (by kernel_rfl)
 have HI := hidden tinfo
 have T1 : Hid (Tryd.prog.underlying 41 = some (.slice 77)) := hidden (by kernel_rfl)
 have O0 := hidden (World.ownsRow_made (base := w.heap.size) (e := 77) (size := 6) w #[] 0 (Nat.le_refl _) (by unfold maxLen; omega) rfl)
 have B0 := hidden (bl_alloc w (.cells #[] 77))
 cases P with
 | none =>
  go_enter Tryd.func36, Tryd.ntmps36
  go_wp2_with fail
  exact bodyPost_ret (v := .slice none 0 0) (by simp [results, Tryd.results36, go_sem]) rfl ⟨none, 0, rfl, Below.refl _ _⟩
 | some a =>
  go_enter Tryd.func36, Tryd.ntmps36
  go_wp2_with (first | (at_builtin; refine wpList_append_own_none rfl _ _ 41 rfl w.heap.size 77 _ 6 T1.out HI.out _ 0 [] rfl O0.out rfl ?_))
  exact bodyPost_ret (v := .slice (some ⟨w.heap.size, 0, none⟩) 0 0) (by simp [results, Tryd.results36, go_sem]) rfl ⟨_, _, rfl, B0.out⟩
theorem Copy_any (P : Option Addr) (c : Nat) (X : List Tm) (w : World) (hn : X.length ≤ 2932031007402) (hL : Lt w P X.length (ft X)) : Calls Tryd.prog 36 #[.slice P X.length c] w fun e w' => ∃ P' c', e = .returned (.slice P' X.length c') ∧ Lt w' P' X.length (ft X) ∧ Below w.heap.size w w' := by
 by_cases h0 : X.length = 0
 ·rw [h0]
  exact (Clone0_any P c w).mono fun e w' ⟨P', c', he, hb⟩ => ⟨P', c', he, ⟨0, 0, fun h => by omega, fun h => by omega⟩, hb⟩
 ·refine (Clone_any P X.length c (ft X) w (by omega) hn hL).mono fun e w' ⟨v, he, ho, hb⟩ => ?_
  obtain ⟨R, c2, e2, _, _⟩ := own_shT ho
  subst e2
  exact ⟨R, c2, he, own_lts ho, hb⟩
theorem Req_any {base : Nat} {w : World} {s m Kg : Nat} {v : Value} {vs : List Value} {Q : List (List Tm)} (h : Sy base w s m Kg v vs Q) (i : Nat) (X : List Tm) (hX : Q[i]? = some X) (hl : X.length ≤ 2932031007402) : Calls Tryd.prog 12 #[.pointer (some ⟨s, 0, none⟩), .int .i64 (i : Int)] w fun e w' => ∃ P c, e = .returned (.tuple #[.slice P X.length c, .int .i64 0]) ∧ Lt w' P X.length (ft X) ∧ Below w.heap.size w w' := by
 have hi := (List.getElem?_eq_some_iff.1 hX).1
 obtain ⟨u, hu, ho⟩ := h.ls i X hX
 obtain ⟨R, e, hR, _, _⟩ := own_shT ho
 subst hR
 have C := hidden (Copy_any R e X w hl (own_lts ho))
 have C0 := hidden (Requires_any h)
 have k2 := h.c2
 obtain ⟨Pv, cv, hv, hc, hp⟩ := h.shape
 subst hv
 obtain ⟨g, rfl⟩ := hp (by omega)
 have cu : w.cell? ⟨g, i, none⟩ = some (.slice R X.length e) := by
  have := h.row.cells (g := g) rfl i _ hu
  rwa [Addr.add_mid, Nat.zero_add] at this
 have l0 : ¬ (i : Int) < 0 := by omega
 have l1 : ¬ (Q.length : Int) ≤ (i : Int) := by omega
 have l2 : (0 : Int) ≤ (i : Int) := by omega
 have l3 : (i : Int) < (Q.length : Int) := by omega
 have FT : ∃ F, F = ft X := ⟨_, rfl⟩
 obtain ⟨F, hF⟩ := FT
 rw [← hF] at C ⊢
 clear h hX hu ho hl hi hc hp hF
 generalize Q.length = nq at *
 generalize X.length = xl at *
 go_enter Tryd.func12, Tryd.ntmps12
 go_wp2_with (first | (go_at_call 11; refine C0.out.mono ?_; rintro e w1 ⟨rfl, rfl⟩) | (go_at_call 36; refine C.out.mono ?_; rintro e w2 ⟨P2, c2, rfl, ho, hb⟩; have O2 := hidden ho; have B2 := hidden hb; clear ho hb))
 refine bodyPost_ret (v := .tuple #[.slice P2 xl c2, .int .i64 0]) (by simp [results, Tryd.results12, go_sem]) rfl ⟨P2, c2, rfl, O2.out, B2.out⟩
theorem tsReq {w9 y : World} {t m K : Nat} {Q : List (List Tm)} (h : Ts w9 t m K Q y) (i : Nat) (X : List Tm) (hX : Q[i]? = some X) : Calls Tryd.prog 12 #[.pointer (some ⟨t, 0, none⟩), .int .i64 (i : Int)] y fun e w' => ∃ P c, e = .returned (.tuple #[.slice P X.length c, .int .i64 0]) ∧ Lt w' P X.length (ft X) ∧ Below y.heap.size y w' := by
 obtain ⟨base, v, vs, sy, hb, bl, wk⟩ := h
 exact Req_any sy i X hX (wk.ln X (List.mem_of_getElem? hX))
theorem tsReqs {w9 y : World} {t m K : Nat} {Q : List (List Tm)} (h : Ts w9 t m K Q y) : Calls Tryd.prog 11 #[.pointer (some ⟨t, 0, none⟩)] y fun e w' => e = .returned (.int .i64 (Q.length : Int)) ∧ w' = y := by
 obtain ⟨base, v, vs, sy, hb, bl, wk⟩ := h
 exact Requires_any sy
theorem tsFlat {w9 y : World} {t m K : Nat} {Q : List (List Tm)} (h : Ts w9 t m K Q y) (hT : Tb y) (hm : m ≤ 4096) (z : E4) (hz : z.ok) : Calls Tryd.prog 7 #[.pointer (some ⟨t, 0, none⟩), .agg #[.int .u64 z.x0, .int .u64 z.x1, .int .u64 z.x2, .int .u64 z.x3]] y fun e w' => ∃ (a b c d : Sl) (C : E4), e = .returned (.tuple #[.agg #[.slice a.p a.n a.c, .slice b.p b.n b.c, .slice c.p c.n c.c, .slice d.p d.n d.c, .int .u64 C.x0, .int .u64 C.x1, .int .u64 C.x2, .int .u64 C.x3], .int .i64 0]) ∧ (a.at w' ∧ b.at w' ∧ c.at w' ∧ d.at w' ∧ C.ok) ∧ (a.n = K ∧ b.n = K ∧ c.n = K ∧ d.n = m) ∧ Below y.heap.size y w' ∧ ∀ val : Nat → Nat → Int, (D1 K a.g (val 2) + D1 K b.g (val 3) + D1 K c.g (val 4) - D1 m d.g (val 5) - C.n * val 1 0) % Sm.L = zq z.n val Q Q.length % Sm.L := by
 obtain ⟨base, v, vs, sy, hb, bl, wk⟩ := h
 exact Flatten_any sy wk hm hT z hz
def vq (N : Nat → Sl) (Q : List (List Tm)) (q : Nat) : Int := vl N (Q.getD q [])
def pw (z : Int) (N : Nat → Sl) (Q : List (List Tm)) (i : Nat) : Int := tot (fun q => z ^ (q + 1) * vq N Q q) i
theorem zq_pw (z : Int) (l r o v : Sl) (Q : List (List Tm)) (i : Nat) : zq z (va l r o v) Q i = pw z (nms 0 l r o v) Q i := by
 unfold zq pw vq
 exact tot_congr (fun q _ => by rw [vlv_vl])
theorem pe_tot (z : Int) : ∀ (p : List Int), z * Vd.pe p z = tot (fun q => z ^ (q + 1) * p.getD q 0) p.length
 | [] => by simp [Vd.pe, tot]
 | c :: p => by
  show z * (c + z * Vd.pe p z) = tot _ (p.length + 1)
  rw [tot_shift, pe_tot z p]
  have e : tot (fun i => z ^ (i + 1 + 1) * (c :: p).getD (i + 1) 0) p.length = z * tot (fun q => z ^ (q + 1) * p.getD q 0) p.length := by
   rw [← tot_mul]
   exact tot_congr (fun q _ => by show z ^ (q + 1 + 1) * p.getD q 0 = _; rw [Int.pow_succ z (q + 1), Int.mul_comm (z ^ (q + 1)) z, Int.mul_assoc])
  rw [e, Int.mul_add]
  show _ = z ^ (0 + 1) * c + _
  rw [Nat.zero_add, Int.pow_one]
theorem all_zero {N : Nat → Sl} {Q : List (List Tm)} (hQ : Q.length ≤ 40) (h : ∀ q, q < Q.length → pw ((q + 1 : Nat) : Int) N Q Q.length % Sm.L = 0) : ∀ q, q < Q.length → vq N Q q % Sm.L = 0 := by
 have hL : (Vd.ll : Int) = Sm.L := by unfold Vd.ll Sm.L; rfl
 have hlen : ((List.range Q.length).map (vq N Q)).length = Q.length := by simp
 have hget : ∀ q, q < Q.length → ((List.range Q.length).map (vq N Q)).getD q 0 = vq N Q q := fun q hq => by
  rw [List.getD_eq_getElem?_getD, List.getElem?_map, List.getElem?_range hq]
  rfl
 have key := Vd.none Q.length 1 ((List.range Q.length).map (vq N Q)) hlen (by unfold Vd.ll; omega) (fun i hi => by
  have h1 := h i hi
  have h2 : ((i + 1 : Nat) : Int) * Vd.pe ((List.range Q.length).map (vq N Q)) ((i + 1 : Nat) : Int) = pw ((i + 1 : Nat) : Int) N Q Q.length := by
   rw [pe_tot, hlen]
   exact tot_congr (fun q hq => by rw [hget q hq])
  have h3 : (Vd.ll : Int) ∣ ((i + 1 : Nat) : Int) * Vd.pe ((List.range Q.length).map (vq N Q)) ((i + 1 : Nat) : Int) := by
   rw [h2, hL]
   exact Int.dvd_of_emod_eq_zero h1
  rcases Vd.euc h3 with h4 | h4
  ·exact absurd h4 (Vd.small (by omega) (by unfold Vd.ll; omega))
  ·rw [Nat.add_comm 1 i]
   exact h4)
 intro q hq
 have := key (vq N Q q) (List.mem_map.2 ⟨q, List.mem_range.2 hq, rfl⟩)
 rw [hL] at this
 exact Int.emod_eq_zero_of_dvd this
theorem zero_all {N : Nat → Sl} {Q : List (List Tm)} {z : Int} {n : Nat} (h : ∀ q, q < n → vq N Q q % Sm.L = 0) : pw z N Q n % Sm.L = 0 := by
 unfold pw
 have : tot (fun q => z ^ (q + 1) * vq N Q q) n % Sm.L = tot (fun _ => 0) n % Sm.L := tot_mod (fun q hq => by rw [Int.mul_emod, h q hq, Int.mul_zero])
 rw [this, tot_zero]
 rfl
end Ci
end Go.Proofs.YtimjfndaleccaaaDoor
