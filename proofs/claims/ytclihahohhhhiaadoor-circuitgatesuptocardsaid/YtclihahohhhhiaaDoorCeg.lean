import Derived.Test.YtclihahohhhhiaaDoorTk
import Derived.Test.YtclihahohhhhiaaDoorCee
namespace Go.Proofs.YtclihahohhhhiaaDoor
open Go.RowKit
set_option linter.unusedVariables false
set_option linter.unusedSimpArgs false
open Cm (Wr Tm co bf Ls lf ins Eqm)
namespace Ci
set_option maxRecDepth 100000
set_option maxHeartbeats 4000000
theorem eq4n (a b : E4) (w : World) : (Op.equalIn 9999 41 a.v b.v).run Tryd.prog w = .ok (a.same b) w := by
 have hi : Tryd.prog.info? 39 = some (Tryd.prog.info? 39).get! := by kernel_rfl
 have hc : Tryd.prog.cellsOf 39 = 1 := by kernel_rfl
 unfold E4.v
 rw [run_equalIn_array w 9998 _ _ (by kernel_rfl : Tryd.prog.underlying 41 = some (.array 4 39)) hi, hc]
 rw [eqItems_ints w (k := .u64) 9997 (by kernel_rfl) (by kernel_rfl) _ _ (fun i => [a.x0, a.x1, a.x2, a.x3].getD i 0) (fun i => [b.x0, b.x1, b.x2, b.x3].getD i 0)]
 ·rw [show List.range 4 = [0, 1, 2, 3] from rfl]
  simp only [List.all_cons, List.all_nil, Bool.and_true]
  rfl
 ·intro i hi
  have : i < 4 := List.mem_range.1 hi
  match i, this with
  | 0, _ => exact ⟨rfl, rfl⟩
  | 1, _ => exact ⟨rfl, rfl⟩
  | 2, _ => exact ⟨rfl, rfl⟩
  | 3, _ => exact ⟨rfl, rfl⟩
def eq6o_0 : Oper := { dst := some 17, op := Op.move (Operand.tmp 0), type := 24, pos := "outright.go:231", after := #[], guard := none }
def eq6o_1 : Oper := { dst := some 18, op := Op.move (Operand.tmp 5), type := 3, pos := "outright.go:231", after := #[], guard := none }
def eq6o_2 : Oper := { dst := some 19, op := Op.indexAddr 24 (Operand.tmp 17) (Operand.tmp 18), type := 0, pos := "outright.go:231", after := #[{ on := 0, ground := Ground.data }, { on := 1, ground := Ground.data }], guard := none }
def eq6o_3 : Oper := { dst := some 20, op := Op.load 69 (Operand.tmp 19), type := 69, pos := "outright.go:231", after := #[{ on := 2, ground := Ground.data }], guard := none }
def eq6o_4 : Oper := { dst := some 21, op := Op.move (Operand.tmp 1), type := 24, pos := "outright.go:231", after := #[], guard := none }
def eq6o_5 : Oper := { dst := some 22, op := Op.move (Operand.tmp 5), type := 3, pos := "outright.go:231", after := #[], guard := none }
def eq6o_6 : Oper := { dst := some 23, op := Op.indexAddr 24 (Operand.tmp 21) (Operand.tmp 22), type := 0, pos := "outright.go:231", after := #[{ on := 4, ground := Ground.data }, { on := 5, ground := Ground.data }], guard := none }
def eq6o_7 : Oper := { dst := some 24, op := Op.load 69 (Operand.tmp 23), type := 69, pos := "outright.go:231", after := #[{ on := 6, ground := Ground.data }], guard := none }
def eq6o_8 : Oper := { dst := some 25, op := Op.binOp BinOp.neq 69 (Operand.tmp 20) (Operand.tmp 24) 69, type := 4, pos := "outright.go:231", after := #[{ on := 3, ground := Ground.data }, { on := 7, ground := Ground.data }], guard := none }
def eq6o : Array Oper := #[eq6o_0, eq6o_1, eq6o_2, eq6o_3, eq6o_4, eq6o_5, eq6o_6, eq6o_7, eq6o_8]
set_option maxRecDepth 100000 in
set_option maxHeartbeats 16000000 in
theorem eq6 (Q : Exit → Act → World → Prop) (sa oa ca sb ob cb n i : Nat) (s t : Trm) (B b9 : Bool) (u2 u3 u4 u6 u7 u8 u9 u10 u11 u12 u13 u14 u15 u16 u17 u18 u19 u20 u21 u22 u23 u24 u25 : Value) (W : World)
  (i0 : (0 : Int) ≤ (i : Int)) (i1 : (i : Int) < (n : Int)) (a0 : W.cell? ⟨sa, oa + i * 6, none⟩ = some (.int .i64 s.q.1)) (a1 : W.cell? ⟨sa, oa + i * 6 + 1, none⟩ = some (.int .i64 s.q.2)) (a2 : W.cell? ⟨sa, oa + i * 6 + 2, none⟩ = some (.int .u64 s.a.x0)) (a3 : W.cell? ⟨sa, oa + i * 6 + 3, none⟩ = some (.int .u64 s.a.x1)) (a4 : W.cell? ⟨sa, oa + i * 6 + 4, none⟩ = some (.int .u64 s.a.x2)) (a5 : W.cell? ⟨sa, oa + i * 6 + 5, none⟩ = some (.int .u64 s.a.x3)) (b0 : W.cell? ⟨sb, ob + i * 6, none⟩ = some (.int .i64 t.q.1)) (b1 : W.cell? ⟨sb, ob + i * 6 + 1, none⟩ = some (.int .i64 t.q.2)) (b2 : W.cell? ⟨sb, ob + i * 6 + 2, none⟩ = some (.int .u64 t.a.x0)) (b3 : W.cell? ⟨sb, ob + i * 6 + 3, none⟩ = some (.int .u64 t.a.x1)) (b4 : W.cell? ⟨sb, ob + i * 6 + 4, none⟩ = some (.int .u64 t.a.x2)) (b5 : W.cell? ⟨sb, ob + i * 6 + 5, none⟩ = some (.int .u64 t.a.x3))
  (hBB : B = (decide (s.q.1 = t.q.1) && (decide (s.q.2 = t.q.2) && b9)))
  (NQ : Hid (∀ y, (Op.equalIn 9999 41 (.agg #[.int .u64 s.a.x0, .int .u64 s.a.x1, .int .u64 s.a.x2, .int .u64 s.a.x3]) (.agg #[.int .u64 t.a.x0, .int .u64 t.a.x1, .int .u64 t.a.x2, .int .u64 t.a.x3])).run Tryd.prog y = .ok b9 y))
  (HQ : Hid (∀ (wz : World), Below W.heap.size W wz → Q .normal ⟨#[.slice (some ⟨sa, oa, none⟩) n ca, .slice (some ⟨sb, ob, none⟩) n cb, u2, u3, u4, .int .i64 (i : Int), u6, u7, u8, u9, u10, u11, u12, u13, u14, u15, u16, .slice (some ⟨sa, oa, none⟩) n ca, .int .i64 (i : Int), .pointer (some ⟨sa, oa + i * 6, none⟩), .agg #[.int .i64 s.q.1, .int .i64 s.q.2, .int .u64 s.a.x0, .int .u64 s.a.x1, .int .u64 s.a.x2, .int .u64 s.a.x3], .slice (some ⟨sb, ob, none⟩) n cb, .int .i64 (i : Int), .pointer (some ⟨sb, ob + i * 6, none⟩), .agg #[.int .i64 t.q.1, .int .i64 t.q.2, .int .u64 t.a.x0, .int .u64 t.a.x1, .int .u64 t.a.x2, .int .u64 t.a.x3], .bool (!B)], []⟩ wz)) : (Code.region 6 eq6o true).wp Tryd.prog Q ⟨#[.slice (some ⟨sa, oa, none⟩) n ca, .slice (some ⟨sb, ob, none⟩) n cb, u2, u3, u4, .int .i64 (i : Int), u6, u7, u8, u9, u10, u11, u12, u13, u14, u15, u16, u17, u18, u19, u20, u21, u22, u23, u24, u25], []⟩ W := by
 unfold eq6o
 refine wp_region_noPanic ?_
 refine wp_region_held_drew (S := fun x => Below W.heap.size W x) (by kernel_rfl) (bl_drew W) (fun hH0 => ?_)
 refine tk 0 eq6o_0 (.slice (some ⟨sa, oa, none⟩) n ca) rfl (by kernel_rfl) hH0 rfl (fun w0 hSw => ?_) ?_
 ·(unfold eq6o_0; clear hSw; go_simp)
 simp only [eq6o_0, Act.put, sA, sB, sC]
 refine tk 1 eq6o_1 (.int .i64 (i : Int)) rfl (by kernel_rfl) hH0 rfl (fun w0 hSw => ?_) ?_
 ·(unfold eq6o_1; clear hSw; go_simp)
 simp only [eq6o_1, Act.put, sA, sB, sC]
 refine tk 4 eq6o_4 (.slice (some ⟨sb, ob, none⟩) n cb) rfl (by kernel_rfl) hH0 rfl (fun w0 hSw => ?_) ?_
 ·(unfold eq6o_4; clear hSw; go_simp)
 simp only [eq6o_4, Act.put, sA, sB, sC]
 refine tk 5 eq6o_5 (.int .i64 (i : Int)) rfl (by kernel_rfl) hH0 rfl (fun w0 hSw => ?_) ?_
 ·(unfold eq6o_5; clear hSw; go_simp)
 simp only [eq6o_5, Act.put, sA, sB, sC]
 refine tk 2 eq6o_2 (.pointer (some ⟨sa, oa + i * 6, none⟩)) rfl (by kernel_rfl) hH0 rfl (fun w0 hSw => ?_) ?_
 ·(unfold eq6o_2; clear hSw; go_simp)
 simp only [eq6o_2, Act.put, sA, sB, sC]
 refine tk 6 eq6o_6 (.pointer (some ⟨sb, ob + i * 6, none⟩)) rfl (by kernel_rfl) hH0 rfl (fun w0 hSw => ?_) ?_
 ·(unfold eq6o_6; clear hSw; go_simp)
 simp only [eq6o_6, Act.put, sA, sB, sC]
 refine tk 3 eq6o_3 (.agg #[.int .i64 s.q.1, .int .i64 s.q.2, .int .u64 s.a.x0, .int .u64 s.a.x1, .int .u64 s.a.x2, .int .u64 s.a.x3]) rfl (by kernel_rfl) hH0 rfl (fun w0 hSw => ?_) ?_
 ·(unfold eq6o_3; have hS : Below W.heap.size W w0 := hSw; have a0 := cell_keep a0 hS; have a1 := cell_keep a1 hS; have a2 := cell_keep a2 hS; have a3 := cell_keep a3 hS; have a4 := cell_keep a4 hS; have a5 := cell_keep a5 hS; clear hS hSw; go_simp)
 simp only [eq6o_3, Act.put, sA, sB, sC]
 refine tk 7 eq6o_7 (.agg #[.int .i64 t.q.1, .int .i64 t.q.2, .int .u64 t.a.x0, .int .u64 t.a.x1, .int .u64 t.a.x2, .int .u64 t.a.x3]) rfl (by kernel_rfl) hH0 rfl (fun w0 hSw => ?_) ?_
 ·(unfold eq6o_7; have hS : Below W.heap.size W w0 := hSw; have a0 := cell_keep b0 hS; have a1 := cell_keep b1 hS; have a2 := cell_keep b2 hS; have a3 := cell_keep b3 hS; have a4 := cell_keep b4 hS; have a5 := cell_keep b5 hS; clear hS hSw; go_simp)
 simp only [eq6o_7, Act.put, sA, sB, sC]
 refine tk 8 eq6o_8 (.bool (!B)) rfl (by kernel_rfl) hH0 rfl (fun w0 hSw => ?_) ?_
 ·(unfold eq6o_8; clear hSw; have e0 := NQ.out w0; clear NQ HQ hH0 a0 a1 a2 a3 a4 a5 b0 b1 b2 b3 b4 b5; subst hBB; by_cases g1 : s.q.1 = t.q.1 <;> by_cases g2 : s.q.2 = t.q.2 <;> cases b9 <;> go_simp)
 simp only [eq6o_8, Act.put, sA, sB, sC]
 have HH := hidden hH0
 have FQ := hidden (HQ.out _ HH.out)
 refine wpAnyH_done (by kernel_rfl) ?_ _
 refine NoPanic.normal ?_
 exact FQ.out
def eqB (X Y : List Tm) : Bool := decide (X.length = Y.length) && (List.range X.length).all fun k => decide ((ft X k).q = (ft Y k).q) && (ft X k).a.same (ft Y k).a
theorem ft_get {X : List Tm} {k : Nat} (hk : k < X.length) : ft X k = tmOf X[k] := by
 unfold ft
 rw [List.getD_eq_getElem?_getD, List.getElem?_eq_getElem hk]
 rfl
theorem lst_inj {a b : Int} (ha : 0 < a ∧ a < Sm.L) (hb : 0 < b ∧ b < Sm.L) (h : lst a = lst b) : a = b := by
 have := congrArg E4.n h
 rw [lst_n, lst_n, Int.emod_eq_of_lt (by omega) ha.2, Int.emod_eq_of_lt (by omega) hb.2] at this
 exact this
end Ci
end Go.Proofs.YtclihahohhhhiaaDoor
