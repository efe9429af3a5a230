import Derived.Test.YtnkaolobcglmlaaGreatDoorTk
import Derived.Test.YtnkaolobcglmlaaGreatDoorWlc
import Derived.Test.YtnkaolobcglmlaaGreatDoorSra
import Derived.Test.YtnkaolobcglmlaaGreatDoorSrm
import Derived.Test.YtnkaolobcglmlaaGreatDoorSrn
namespace Go.Proofs.YtnkaolobcglmlaaGreatDoor
open Go.RowKit
set_option linter.unusedVariables false
set_option linter.unusedSimpArgs false
open Cm (Wr Tm co bf Ls lf ins Eqm)
namespace Ci
set_option maxRecDepth 100000
set_option maxHeartbeats 8000000
def ssl (Z : List Int) : List Value := Z.flatMap fun z => [.int .u64 (lst z).x0, .int .u64 (lst z).x1, .int .u64 (lst z).x2, .int .u64 (lst z).x3]
theorem ssl_app (X Y : List Int) : ssl (X ++ Y) = ssl X ++ ssl Y := by simp [ssl]
theorem ssl_at : ∀ (X : List Int) (j : Nat) (z : Int), X[j]? = some z → (ssl X)[j * 4]? = some (.int .u64 (lst z).x0) ∧ (ssl X)[j * 4 + 1]? = some (.int .u64 (lst z).x1) ∧ (ssl X)[j * 4 + 2]? = some (.int .u64 (lst z).x2) ∧ (ssl X)[j * 4 + 3]? = some (.int .u64 (lst z).x3)
 | [], j, q, h => by simp at h
 | x :: X, 0, q, h => by
  simp only [List.getElem?_cons_zero, Option.some.injEq] at h
  subst h
  exact ⟨rfl, rfl, rfl, rfl⟩
 | x :: X, j + 1, q, h => by
  simp only [List.getElem?_cons_succ] at h
  obtain ⟨h1, h2, h3, h4⟩ := ssl_at X j q h
  have e : ssl (x :: X) = .int .u64 (lst x).x0 :: .int .u64 (lst x).x1 :: .int .u64 (lst x).x2 :: .int .u64 (lst x).x3 :: ssl X := rfl
  rw [e, show (j + 1) * 4 = j * 4 + 1 + 1 + 1 + 1 by omega, show j * 4 + 1 + 1 + 1 + 1 + 2 = (j * 4 + 2) + 1 + 1 + 1 + 1 by omega, show j * 4 + 1 + 1 + 1 + 1 + 3 = (j * 4 + 3) + 1 + 1 + 1 + 1 by omega]
  simp only [List.getElem?_cons_succ]
  exact ⟨h1, h2, h3, h4⟩
theorem ssl_cells {w : World} {base b c : Nat} {t : TypeId} {Z : List Int} {n : Nat} {z : Int} {j : Nat} (h : w.ownsRow base t 4 (.slice (some ⟨b, 0, none⟩) n c) n (ssl Z)) (hj : Z[j]? = some z) : w.cell? ⟨b, j * 4, none⟩ = some (.int .u64 (lst z).x0) ∧ w.cell? ⟨b, j * 4 + 1, none⟩ = some (.int .u64 (lst z).x1) ∧ w.cell? ⟨b, j * 4 + 2, none⟩ = some (.int .u64 (lst z).x2) ∧ w.cell? ⟨b, j * 4 + 3, none⟩ = some (.int .u64 (lst z).x3) := by
 obtain ⟨h1, h2, h3, h4⟩ := ssl_at Z j z hj
 have hc := h.cells rfl
 have k1 := hc _ _ h1
 have k2 := hc _ _ h2
 have k3 := hc _ _ h3
 have k4 := hc _ _ h4
 rw [Addr.add_lit, Nat.zero_add] at k1 k2 k3 k4
 exact ⟨k1, k2, k3, k4⟩
structure Ag (b0 : Nat) (x : World) (Kg m : Nat) (vL vR vO vV : Value) (L R O V : List Int) : Prop where
 l : x.ownsRow b0 62 4 vL Kg (ssl L)
 r : x.ownsRow b0 62 4 vR Kg (ssl R)
 o : x.ownsRow b0 62 4 vO Kg (ssl O)
 v : x.ownsRow b0 62 4 vV m (ssl V)
 ll : L.length = Kg
 lr : R.length = Kg
 lo : O.length = Kg
 lv : V.length = m
theorem Ag.keep {b0 : Nat} {x y : World} {Kg m : Nat} {vL vR vO vV : Value} {L R O V : List Int} (h : Ag b0 x Kg m vL vR vO vV L R O V) (hb : Below x.heap.size x y) : Ag b0 y Kg m vL vR vO vV L R O V := ⟨own_keepT h.l hb, own_keepT h.r hb, own_keepT h.o hb, own_keepT h.v hb, h.ll, h.lr, h.lo, h.lv⟩
def fi1o_0 : Oper := { dst := some 5, op := Op.fieldAddr 39 (Operand.tmp 3) 0, type := 0, pos := "circuit.go:251", after := #[], guard := none }
def fi1o_1 : Oper := { dst := some 6, op := Op.load 37 (Operand.tmp 5), type := 37, pos := "circuit.go:251", after := #[{ on := 0, ground := Ground.data }], guard := none }
def fi1o_2 : Oper := { dst := some 7, op := Op.call { callee := Callee.builtin Builtin.len, args := #[Operand.tmp 6], argTypes := #[37] }, type := 3, pos := "circuit.go:251", after := #[{ on := 1, ground := Ground.data }], guard := none }
def fi1o_3 : Oper := { dst := some 8, op := Op.move (Operand.tmp 0), type := 33, pos := "circuit.go:251", after := #[], guard := none }
def fi1o_4 : Oper := { dst := some 9, op := Op.nilCheck (Operand.tmp 8), type := 0, pos := "circuit.go:251", after := #[{ on := 3, ground := Ground.data }], guard := none }
def fi1o_5 : Oper := { dst := some 10, op := Op.fieldAddr 79 (Operand.tmp 9) 1, type := 0, pos := "circuit.go:251", after := #[{ on := 4, ground := Ground.data }], guard := none }
def fi1o_6 : Oper := { dst := some 11, op := Op.load 3 (Operand.tmp 10), type := 3, pos := "circuit.go:251", after := #[{ on := 5, ground := Ground.data }], guard := none }
def fi1o_7 : Oper := { dst := some 12, op := Op.binOp BinOp.eql 3 (Operand.tmp 7) (Operand.tmp 11) 3, type := 4, pos := "circuit.go:251", after := #[{ on := 2, ground := Ground.data }, { on := 6, ground := Ground.data }], guard := none }
def fi1o_8 : Oper := { dst := some 13, op := Op.move (Operand.tmp 12), type := 4, pos := "circuit.go:251", after := #[{ on := 7, ground := Ground.data }], guard := none }
def fi1o_9 : Oper := { dst := some 14, op := Op.fieldAddr 39 (Operand.tmp 3) 1, type := 0, pos := "circuit.go:251", after := #[{ on := 8, ground := Ground.guard }], guard := some (8, true) }
def fi1o_10 : Oper := { dst := some 15, op := Op.load 37 (Operand.tmp 14), type := 37, pos := "circuit.go:251", after := #[{ on := 9, ground := Ground.data }, { on := 8, ground := Ground.guard }], guard := some (8, true) }
def fi1o_11 : Oper := { dst := some 16, op := Op.call { callee := Callee.builtin Builtin.len, args := #[Operand.tmp 15], argTypes := #[37] }, type := 3, pos := "circuit.go:251", after := #[{ on := 10, ground := Ground.data }, { on := 8, ground := Ground.guard }], guard := some (8, true) }
def fi1o_12 : Oper := { dst := some 17, op := Op.move (Operand.tmp 0), type := 33, pos := "circuit.go:251", after := #[{ on := 8, ground := Ground.guard }], guard := some (8, true) }
def fi1o_13 : Oper := { dst := some 18, op := Op.nilCheck (Operand.tmp 17), type := 0, pos := "circuit.go:251", after := #[{ on := 12, ground := Ground.data }, { on := 8, ground := Ground.guard }], guard := some (8, true) }
def fi1o_14 : Oper := { dst := some 19, op := Op.fieldAddr 79 (Operand.tmp 18) 1, type := 0, pos := "circuit.go:251", after := #[{ on := 13, ground := Ground.data }, { on := 8, ground := Ground.guard }], guard := some (8, true) }
def fi1o_15 : Oper := { dst := some 20, op := Op.load 3 (Operand.tmp 19), type := 3, pos := "circuit.go:251", after := #[{ on := 14, ground := Ground.data }, { on := 8, ground := Ground.guard }], guard := some (8, true) }
def fi1o_16 : Oper := { dst := some 21, op := Op.binOp BinOp.eql 3 (Operand.tmp 16) (Operand.tmp 20) 3, type := 4, pos := "circuit.go:251", after := #[{ on := 11, ground := Ground.data }, { on := 15, ground := Ground.data }, { on := 8, ground := Ground.guard }], guard := some (8, true) }
def fi1o_17 : Oper := { dst := some 22, op := Op.pick (Operand.tmp 13) (Operand.tmp 21) (Operand.const (Value.bool false)), type := 4, pos := "circuit.go:251", after := #[{ on := 8, ground := Ground.data }, { on := 16, ground := Ground.data }], guard := none }
def fi1o_18 : Oper := { dst := some 23, op := Op.move (Operand.tmp 22), type := 4, pos := "circuit.go:251", after := #[{ on := 17, ground := Ground.data }, { on := 8, ground := Ground.chain }], guard := none }
def fi1o_19 : Oper := { dst := some 24, op := Op.fieldAddr 39 (Operand.tmp 3) 2, type := 0, pos := "circuit.go:251", after := #[{ on := 18, ground := Ground.guard }], guard := some (18, true) }
def fi1o_20 : Oper := { dst := some 25, op := Op.load 37 (Operand.tmp 24), type := 37, pos := "circuit.go:251", after := #[{ on := 19, ground := Ground.data }, { on := 18, ground := Ground.guard }], guard := some (18, true) }
def fi1o_21 : Oper := { dst := some 26, op := Op.call { callee := Callee.builtin Builtin.len, args := #[Operand.tmp 25], argTypes := #[37] }, type := 3, pos := "circuit.go:251", after := #[{ on := 20, ground := Ground.data }, { on := 18, ground := Ground.guard }], guard := some (18, true) }
def fi1o_22 : Oper := { dst := some 27, op := Op.move (Operand.tmp 0), type := 33, pos := "circuit.go:251", after := #[{ on := 18, ground := Ground.guard }], guard := some (18, true) }
def fi1o_23 : Oper := { dst := some 28, op := Op.nilCheck (Operand.tmp 27), type := 0, pos := "circuit.go:251", after := #[{ on := 22, ground := Ground.data }, { on := 18, ground := Ground.guard }], guard := some (18, true) }
def fi1o_24 : Oper := { dst := some 29, op := Op.fieldAddr 79 (Operand.tmp 28) 1, type := 0, pos := "circuit.go:251", after := #[{ on := 23, ground := Ground.data }, { on := 18, ground := Ground.guard }], guard := some (18, true) }
def fi1o_25 : Oper := { dst := some 30, op := Op.load 3 (Operand.tmp 29), type := 3, pos := "circuit.go:251", after := #[{ on := 24, ground := Ground.data }, { on := 18, ground := Ground.guard }], guard := some (18, true) }
def fi1o_26 : Oper := { dst := some 31, op := Op.binOp BinOp.eql 3 (Operand.tmp 26) (Operand.tmp 30) 3, type := 4, pos := "circuit.go:251", after := #[{ on := 21, ground := Ground.data }, { on := 25, ground := Ground.data }, { on := 18, ground := Ground.guard }], guard := some (18, true) }
def fi1o_27 : Oper := { dst := some 32, op := Op.pick (Operand.tmp 23) (Operand.tmp 31) (Operand.const (Value.bool false)), type := 4, pos := "circuit.go:251", after := #[{ on := 18, ground := Ground.data }, { on := 26, ground := Ground.data }], guard := none }
def fi1o_28 : Oper := { dst := some 33, op := Op.move (Operand.tmp 32), type := 4, pos := "circuit.go:251", after := #[{ on := 27, ground := Ground.data }, { on := 18, ground := Ground.chain }], guard := none }
def fi1o_29 : Oper := { dst := some 34, op := Op.fieldAddr 39 (Operand.tmp 3) 3, type := 0, pos := "circuit.go:251", after := #[{ on := 28, ground := Ground.guard }], guard := some (28, true) }
def fi1o_30 : Oper := { dst := some 35, op := Op.load 37 (Operand.tmp 34), type := 37, pos := "circuit.go:251", after := #[{ on := 29, ground := Ground.data }, { on := 28, ground := Ground.guard }], guard := some (28, true) }
def fi1o_31 : Oper := { dst := some 36, op := Op.call { callee := Callee.builtin Builtin.len, args := #[Operand.tmp 35], argTypes := #[37] }, type := 3, pos := "circuit.go:251", after := #[{ on := 30, ground := Ground.data }, { on := 28, ground := Ground.guard }], guard := some (28, true) }
def fi1o_32 : Oper := { dst := some 37, op := Op.move (Operand.tmp 0), type := 33, pos := "circuit.go:251", after := #[{ on := 28, ground := Ground.guard }], guard := some (28, true) }
def fi1o_33 : Oper := { dst := some 38, op := Op.nilCheck (Operand.tmp 37), type := 0, pos := "circuit.go:251", after := #[{ on := 32, ground := Ground.data }, { on := 28, ground := Ground.guard }], guard := some (28, true) }
def fi1o_34 : Oper := { dst := some 39, op := Op.fieldAddr 79 (Operand.tmp 38) 0, type := 0, pos := "circuit.go:251", after := #[{ on := 33, ground := Ground.data }, { on := 28, ground := Ground.guard }], guard := some (28, true) }
def fi1o_35 : Oper := { dst := some 40, op := Op.load 3 (Operand.tmp 39), type := 3, pos := "circuit.go:251", after := #[{ on := 34, ground := Ground.data }, { on := 28, ground := Ground.guard }], guard := some (28, true) }
def fi1o_36 : Oper := { dst := some 41, op := Op.binOp BinOp.eql 3 (Operand.tmp 36) (Operand.tmp 40) 3, type := 4, pos := "circuit.go:251", after := #[{ on := 31, ground := Ground.data }, { on := 35, ground := Ground.data }, { on := 28, ground := Ground.guard }], guard := some (28, true) }
def fi1o_37 : Oper := { dst := some 42, op := Op.pick (Operand.tmp 33) (Operand.tmp 41) (Operand.const (Value.bool false)), type := 4, pos := "circuit.go:251", after := #[{ on := 28, ground := Ground.data }, { on := 36, ground := Ground.data }], guard := none }
def fi1o_38 : Oper := { dst := some 4, op := Op.assign (Operand.tmp 42), type := 4, pos := "circuit.go:251", after := #[{ on := 37, ground := Ground.data }, { on := 28, ground := Ground.chain }, { on := 0, ground := Ground.phase }, { on := 1, ground := Ground.phase }, { on := 2, ground := Ground.phase }, { on := 3, ground := Ground.phase }, { on := 4, ground := Ground.phase }, { on := 5, ground := Ground.phase }, { on := 6, ground := Ground.phase }, { on := 7, ground := Ground.phase }, { on := 8, ground := Ground.phase }, { on := 9, ground := Ground.phase }, { on := 10, ground := Ground.phase }, { on := 11, ground := Ground.phase }, { on := 12, ground := Ground.phase }, { on := 13, ground := Ground.phase }, { on := 14, ground := Ground.phase }, { on := 15, ground := Ground.phase }, { on := 16, ground := Ground.phase }, { on := 17, ground := Ground.phase }, { on := 18, ground := Ground.phase }, { on := 19, ground := Ground.phase }, { on := 20, ground := Ground.phase }, { on := 21, ground := Ground.phase }, { on := 22, ground := Ground.phase }, { on := 23, ground := Ground.phase }, { on := 24, ground := Ground.phase }, { on := 25, ground := Ground.phase }, { on := 26, ground := Ground.phase }, { on := 27, ground := Ground.phase }, { on := 28, ground := Ground.phase }, { on := 29, ground := Ground.phase }, { on := 30, ground := Ground.phase }, { on := 31, ground := Ground.phase }, { on := 32, ground := Ground.phase }, { on := 33, ground := Ground.phase }, { on := 34, ground := Ground.phase }, { on := 35, ground := Ground.phase }, { on := 36, ground := Ground.phase }, { on := 37, ground := Ground.phase }], guard := none }
def fi1o : Array Oper := #[fi1o_0, fi1o_1, fi1o_2, fi1o_3, fi1o_4, fi1o_5, fi1o_6, fi1o_7, fi1o_8, fi1o_9, fi1o_10, fi1o_11, fi1o_12, fi1o_13, fi1o_14, fi1o_15, fi1o_16, fi1o_17, fi1o_18, fi1o_19, fi1o_20, fi1o_21, fi1o_22, fi1o_23, fi1o_24, fi1o_25, fi1o_26, fi1o_27, fi1o_28, fi1o_29, fi1o_30, fi1o_31, fi1o_32, fi1o_33, fi1o_34, fi1o_35, fi1o_36, fi1o_37, fi1o_38]
set_option maxRecDepth 100000 in
set_option maxHeartbeats 16000000 in
theorem fi1 (Q : Exit → Act → World → Prop) (s b Kg m : Nat) (PL PR PO PV : Option Addr) (cL cR cO cV : Nat) (u1 u2 u4 u5 u6 u7 u8 u9 u10 u11 u12 u13 u14 u15 u16 u17 u18 u19 u20 u21 u22 u23 u24 u25 u26 u27 u28 u29 u30 u31 u32 u33 u34 u35 u36 u37 u38 u39 u40 u41 u42 : Value) (W : World)
  (c0 : W.cell? ⟨s, 0, none⟩ = some (.int .i64 (m : Int))) (c1 : W.cell? ⟨s, 1, none⟩ = some (.int .i64 (Kg : Int))) (b0 : W.cell? ⟨b, 0, none⟩ = some (.slice PL Kg cL)) (b1 : W.cell? ⟨b, 1, none⟩ = some (.slice PR Kg cR)) (b2 : W.cell? ⟨b, 2, none⟩ = some (.slice PO Kg cO)) (b3 : W.cell? ⟨b, 3, none⟩ = some (.slice PV m cV))
  (HQ : Hid (∀ (wz : World), Below W.heap.size W wz → Q .normal ⟨#[.pointer (some ⟨s, 0, none⟩), u1, u2, .pointer (some ⟨b, 0, none⟩), .bool true, .pointer (some ⟨b, 0, none⟩), .slice PL Kg cL, .int .i64 (Kg : Int), .pointer (some ⟨s, 0, none⟩), .pointer (some ⟨s, 0, none⟩), .pointer (some ⟨s, 1, none⟩), .int .i64 (Kg : Int), .bool true, .bool true, .pointer (some ⟨b, 1, none⟩), .slice PR Kg cR, .int .i64 (Kg : Int), .pointer (some ⟨s, 0, none⟩), .pointer (some ⟨s, 0, none⟩), .pointer (some ⟨s, 1, none⟩), .int .i64 (Kg : Int), .bool true, .bool true, .bool true, .pointer (some ⟨b, 2, none⟩), .slice PO Kg cO, .int .i64 (Kg : Int), .pointer (some ⟨s, 0, none⟩), .pointer (some ⟨s, 0, none⟩), .pointer (some ⟨s, 1, none⟩), .int .i64 (Kg : Int), .bool true, .bool true, .bool true, .pointer (some ⟨b, 3, none⟩), .slice PV m cV, .int .i64 (m : Int), .pointer (some ⟨s, 0, none⟩), .pointer (some ⟨s, 0, none⟩), .pointer (some ⟨s, 0, none⟩), .int .i64 (m : Int), .bool true, .bool true], []⟩ wz)) : (Code.region 1 fi1o true).wp Tryz.prog Q ⟨#[.pointer (some ⟨s, 0, none⟩), u1, u2, .pointer (some ⟨b, 0, none⟩), u4, u5, u6, u7, u8, u9, u10, u11, u12, u13, u14, u15, u16, u17, u18, u19, u20, u21, u22, u23, u24, u25, u26, u27, u28, u29, u30, u31, u32, u33, u34, u35, u36, u37, u38, u39, u40, u41, u42], []⟩ W := by
 unfold fi1o
 refine wp_region_noPanic ?_
 refine wp_region_held_drew (S := fun x => Below W.heap.size W x) (by kernel_rfl) (bl_drew W) (fun hH0 => ?_)
 refine tk 0 fi1o_0 (.pointer (some ⟨b, 0, none⟩)) rfl (by kernel_rfl) hH0 rfl (fun w0 hSw => ?_) ?_
 ·(unfold fi1o_0; clear hSw; go_simp)
 simp only [fi1o_0, Act.put, sA, sB, sC]
 refine tk 3 fi1o_3 (.pointer (some ⟨s, 0, none⟩)) rfl (by kernel_rfl) hH0 rfl (fun w0 hSw => ?_) ?_
 ·(unfold fi1o_3; clear hSw; go_simp)
 simp only [fi1o_3, Act.put, sA, sB, sC]
 refine tk 1 fi1o_1 (.slice PL Kg cL) rfl (by kernel_rfl) hH0 rfl (fun w0 hSw => ?_) ?_
 ·(unfold fi1o_1; have hS : Below W.heap.size W w0 := hSw; have a0 := cell_keep b0 hS; clear hS hSw; go_simp)
 simp only [fi1o_1, Act.put, sA, sB, sC]
 refine tk 4 fi1o_4 (.pointer (some ⟨s, 0, none⟩)) rfl (by kernel_rfl) hH0 rfl (fun w0 hSw => ?_) ?_
 ·(unfold fi1o_4; clear hSw; go_simp)
 simp only [fi1o_4, Act.put, sA, sB, sC]
 refine tk 2 fi1o_2 (.int .i64 (Kg : Int)) rfl (by kernel_rfl) hH0 rfl (fun w0 hSw => ?_) ?_
 ·(unfold fi1o_2; clear hSw; go_simp)
 simp only [fi1o_2, Act.put, sA, sB, sC]
 refine tk 5 fi1o_5 (.pointer (some ⟨s, 1, none⟩)) rfl (by kernel_rfl) hH0 rfl (fun w0 hSw => ?_) ?_
 ·(unfold fi1o_5; clear hSw; go_simp)
 simp only [fi1o_5, Act.put, sA, sB, sC]
 refine tk 6 fi1o_6 (.int .i64 (Kg : Int)) rfl (by kernel_rfl) hH0 rfl (fun w0 hSw => ?_) ?_
 ·(unfold fi1o_6; have hS : Below W.heap.size W w0 := hSw; have a0 := cell_keep c1 hS; clear hS hSw; go_simp)
 simp only [fi1o_6, Act.put, sA, sB, sC]
 refine tk 7 fi1o_7 (.bool true) rfl (by kernel_rfl) hH0 rfl (fun w0 hSw => ?_) ?_
 ·(unfold fi1o_7; clear hSw; go_simp)
 simp only [fi1o_7, Act.put, sA, sB, sC]
 refine tk 8 fi1o_8 (.bool true) rfl (by kernel_rfl) hH0 rfl (fun w0 hSw => ?_) ?_
 ·(unfold fi1o_8; clear hSw; go_simp)
 simp only [fi1o_8, Act.put, sA, sB, sC]
 refine tk 9 fi1o_9 (.pointer (some ⟨b, 1, none⟩)) rfl (by kernel_rfl) hH0 rfl (fun w0 hSw => ?_) ?_
 ·(unfold fi1o_9; clear hSw; go_simp)
 simp only [fi1o_9, Act.put, sA, sB, sC]
 refine tk 12 fi1o_12 (.pointer (some ⟨s, 0, none⟩)) rfl (by kernel_rfl) hH0 rfl (fun w0 hSw => ?_) ?_
 ·(unfold fi1o_12; clear hSw; go_simp)
 simp only [fi1o_12, Act.put, sA, sB, sC]
 refine tk 10 fi1o_10 (.slice PR Kg cR) rfl (by kernel_rfl) hH0 rfl (fun w0 hSw => ?_) ?_
 ·(unfold fi1o_10; have hS : Below W.heap.size W w0 := hSw; have a0 := cell_keep b1 hS; clear hS hSw; go_simp)
 simp only [fi1o_10, Act.put, sA, sB, sC]
 refine tk 13 fi1o_13 (.pointer (some ⟨s, 0, none⟩)) rfl (by kernel_rfl) hH0 rfl (fun w0 hSw => ?_) ?_
 ·(unfold fi1o_13; clear hSw; go_simp)
 simp only [fi1o_13, Act.put, sA, sB, sC]
 refine tk 11 fi1o_11 (.int .i64 (Kg : Int)) rfl (by kernel_rfl) hH0 rfl (fun w0 hSw => ?_) ?_
 ·(unfold fi1o_11; clear hSw; go_simp)
 simp only [fi1o_11, Act.put, sA, sB, sC]
 refine tk 14 fi1o_14 (.pointer (some ⟨s, 1, none⟩)) rfl (by kernel_rfl) hH0 rfl (fun w0 hSw => ?_) ?_
 ·(unfold fi1o_14; clear hSw; go_simp)
 simp only [fi1o_14, Act.put, sA, sB, sC]
 refine tk 15 fi1o_15 (.int .i64 (Kg : Int)) rfl (by kernel_rfl) hH0 rfl (fun w0 hSw => ?_) ?_
 ·(unfold fi1o_15; have hS : Below W.heap.size W w0 := hSw; have a0 := cell_keep c1 hS; clear hS hSw; go_simp)
 simp only [fi1o_15, Act.put, sA, sB, sC]
 refine tk 16 fi1o_16 (.bool true) rfl (by kernel_rfl) hH0 rfl (fun w0 hSw => ?_) ?_
 ·(unfold fi1o_16; clear hSw; go_simp)
 simp only [fi1o_16, Act.put, sA, sB, sC]
 refine tk 17 fi1o_17 (.bool true) rfl (by kernel_rfl) hH0 rfl (fun w0 hSw => ?_) ?_
 ·(unfold fi1o_17; clear hSw; go_simp)
 simp only [fi1o_17, Act.put, sA, sB, sC]
 refine tk 18 fi1o_18 (.bool true) rfl (by kernel_rfl) hH0 rfl (fun w0 hSw => ?_) ?_
 ·(unfold fi1o_18; clear hSw; go_simp)
 simp only [fi1o_18, Act.put, sA, sB, sC]
 refine tk 19 fi1o_19 (.pointer (some ⟨b, 2, none⟩)) rfl (by kernel_rfl) hH0 rfl (fun w0 hSw => ?_) ?_
 ·(unfold fi1o_19; clear hSw; go_simp)
 simp only [fi1o_19, Act.put, sA, sB, sC]
 refine tk 22 fi1o_22 (.pointer (some ⟨s, 0, none⟩)) rfl (by kernel_rfl) hH0 rfl (fun w0 hSw => ?_) ?_
 ·(unfold fi1o_22; clear hSw; go_simp)
 simp only [fi1o_22, Act.put, sA, sB, sC]
 refine tk 20 fi1o_20 (.slice PO Kg cO) rfl (by kernel_rfl) hH0 rfl (fun w0 hSw => ?_) ?_
 ·(unfold fi1o_20; have hS : Below W.heap.size W w0 := hSw; have a0 := cell_keep b2 hS; clear hS hSw; go_simp)
 simp only [fi1o_20, Act.put, sA, sB, sC]
 refine tk 23 fi1o_23 (.pointer (some ⟨s, 0, none⟩)) rfl (by kernel_rfl) hH0 rfl (fun w0 hSw => ?_) ?_
 ·(unfold fi1o_23; clear hSw; go_simp)
 simp only [fi1o_23, Act.put, sA, sB, sC]
 refine tk 21 fi1o_21 (.int .i64 (Kg : Int)) rfl (by kernel_rfl) hH0 rfl (fun w0 hSw => ?_) ?_
 ·(unfold fi1o_21; clear hSw; go_simp)
 simp only [fi1o_21, Act.put, sA, sB, sC]
 refine tk 24 fi1o_24 (.pointer (some ⟨s, 1, none⟩)) rfl (by kernel_rfl) hH0 rfl (fun w0 hSw => ?_) ?_
 ·(unfold fi1o_24; clear hSw; go_simp)
 simp only [fi1o_24, Act.put, sA, sB, sC]
 refine tk 25 fi1o_25 (.int .i64 (Kg : Int)) rfl (by kernel_rfl) hH0 rfl (fun w0 hSw => ?_) ?_
 ·(unfold fi1o_25; have hS : Below W.heap.size W w0 := hSw; have a0 := cell_keep c1 hS; clear hS hSw; go_simp)
 simp only [fi1o_25, Act.put, sA, sB, sC]
 refine tk 26 fi1o_26 (.bool true) rfl (by kernel_rfl) hH0 rfl (fun w0 hSw => ?_) ?_
 ·(unfold fi1o_26; clear hSw; go_simp)
 simp only [fi1o_26, Act.put, sA, sB, sC]
 refine tk 27 fi1o_27 (.bool true) rfl (by kernel_rfl) hH0 rfl (fun w0 hSw => ?_) ?_
 ·(unfold fi1o_27; clear hSw; go_simp)
 simp only [fi1o_27, Act.put, sA, sB, sC]
 refine tk 28 fi1o_28 (.bool true) rfl (by kernel_rfl) hH0 rfl (fun w0 hSw => ?_) ?_
 ·(unfold fi1o_28; clear hSw; go_simp)
 simp only [fi1o_28, Act.put, sA, sB, sC]
 refine tk 29 fi1o_29 (.pointer (some ⟨b, 3, none⟩)) rfl (by kernel_rfl) hH0 rfl (fun w0 hSw => ?_) ?_
 ·(unfold fi1o_29; clear hSw; go_simp)
 simp only [fi1o_29, Act.put, sA, sB, sC]
 refine tk 32 fi1o_32 (.pointer (some ⟨s, 0, none⟩)) rfl (by kernel_rfl) hH0 rfl (fun w0 hSw => ?_) ?_
 ·(unfold fi1o_32; clear hSw; go_simp)
 simp only [fi1o_32, Act.put, sA, sB, sC]
 refine tk 30 fi1o_30 (.slice PV m cV) rfl (by kernel_rfl) hH0 rfl (fun w0 hSw => ?_) ?_
 ·(unfold fi1o_30; have hS : Below W.heap.size W w0 := hSw; have a0 := cell_keep b3 hS; clear hS hSw; go_simp)
 simp only [fi1o_30, Act.put, sA, sB, sC]
 refine tk 33 fi1o_33 (.pointer (some ⟨s, 0, none⟩)) rfl (by kernel_rfl) hH0 rfl (fun w0 hSw => ?_) ?_
 ·(unfold fi1o_33; clear hSw; go_simp)
 simp only [fi1o_33, Act.put, sA, sB, sC]
 refine tk 31 fi1o_31 (.int .i64 (m : Int)) rfl (by kernel_rfl) hH0 rfl (fun w0 hSw => ?_) ?_
 ·(unfold fi1o_31; clear hSw; go_simp)
 simp only [fi1o_31, Act.put, sA, sB, sC]
 refine tk 34 fi1o_34 (.pointer (some ⟨s, 0, none⟩)) rfl (by kernel_rfl) hH0 rfl (fun w0 hSw => ?_) ?_
 ·(unfold fi1o_34; clear hSw; go_simp)
 simp only [fi1o_34, Act.put, sA, sB, sC]
 refine tk 35 fi1o_35 (.int .i64 (m : Int)) rfl (by kernel_rfl) hH0 rfl (fun w0 hSw => ?_) ?_
 ·(unfold fi1o_35; have hS : Below W.heap.size W w0 := hSw; have a0 := cell_keep c0 hS; clear hS hSw; go_simp)
 simp only [fi1o_35, Act.put, sA, sB, sC]
 refine tk 36 fi1o_36 (.bool true) rfl (by kernel_rfl) hH0 rfl (fun w0 hSw => ?_) ?_
 ·(unfold fi1o_36; clear hSw; go_simp)
 simp only [fi1o_36, Act.put, sA, sB, sC]
 refine tk 37 fi1o_37 (.bool true) rfl (by kernel_rfl) hH0 rfl (fun w0 hSw => ?_) ?_
 ·(unfold fi1o_37; clear hSw; go_simp)
 simp only [fi1o_37, Act.put, sA, sB, sC]
 refine tk 38 fi1o_38 (.bool true) rfl (by kernel_rfl) hH0 rfl (fun w0 hSw => ?_) ?_
 ·(unfold fi1o_38; clear hSw; go_simp)
 simp only [fi1o_38, Act.put, sA, sB, sC]
 have HH := hidden hH0
 have FQ := hidden (HQ.out _ HH.out)
 refine wpAnyH_done (by kernel_rfl) ?_ _
 refine NoPanic.normal ?_
 exact FQ.out
theorem Fits_any {base : Nat} {w : World} {s m Kg : Nat} {v : Value} {vs : List Value} {Q : List (List Tm)} (h : Dy base w s m Kg v vs Q) (PL PR PO PV : Option Addr) (cL cR cO cV : Nat) : Calls Tryz.prog 37 #[.pointer (some ⟨s, 0, none⟩), .agg #[.slice PL Kg cL, .slice PR Kg cR, .slice PO Kg cO, .slice PV m cV]] w fun e w' => e = .returned (.bool true) ∧ Below w.heap.size w w' := by
 have BA := bl_alloc w (.cells #[.slice PL Kg cL, .slice PR Kg cR, .slice PO Kg cO, .slice PV m cV] 39)
 have c0 := (h.keep BA).c0
 have c1 := (h.keep BA).c1
 have BB := hidden BA
 clear h BA
 go_enter Tryz.func37, Tryz.ntmps37
 go_upto_region 1 with fail
 have a0 : (w.alloc (.cells #[.slice PL Kg cL, .slice PR Kg cR, .slice PO Kg cO, .slice PV m cV] 39)).cell? ⟨w.heap.size, 0, none⟩ = some (.slice PL Kg cL) := by go_simp
 have a1 : (w.alloc (.cells #[.slice PL Kg cL, .slice PR Kg cR, .slice PO Kg cO, .slice PV m cV] 39)).cell? ⟨w.heap.size, 1, none⟩ = some (.slice PR Kg cR) := by go_simp
 have a2 : (w.alloc (.cells #[.slice PL Kg cL, .slice PR Kg cR, .slice PO Kg cO, .slice PV m cV] 39)).cell? ⟨w.heap.size, 2, none⟩ = some (.slice PO Kg cO) := by go_simp
 have a3 : (w.alloc (.cells #[.slice PL Kg cL, .slice PR Kg cR, .slice PO Kg cO, .slice PV m cV] 39)).cell? ⟨w.heap.size, 3, none⟩ = some (.slice PV m cV) := by go_simp
 refine fi1 _ s w.heap.size Kg m PL PR PO PV cL cR cO cV _ _ _ _ _ _ _ _ _ _ _ _ _ _ _ _ _ _ _ _ _ _ _ _ _ _ _ _ _ _ _ _ _ _ _ _ _ _ _ _ _ _ c0 c1 a0 a1 a2 a3 (hidden ?_)
 intro wz hz
 replace BB := hidden (bl_trans BB.out hz)
 clear hz c0 c1 a0 a1 a2 a3
 go_wp2_with fail
 refine bodyPost_ret (v := .bool true) (by simp [results, Tryz.results37, go_sem]) rfl ⟨rfl, BB.out⟩
theorem hs_cases {m Kg : Nat} {q : Wr} (h : hs m Kg q = true) : q = (1, 0) ∨ (∃ j : Nat, j < Kg ∧ (q = (2, (j : Int)) ∨ q = (3, (j : Int)) ∨ q = (4, (j : Int)))) ∨ ∃ j : Nat, j < m ∧ q = (5, (j : Int)) := by
 obtain ⟨k, i⟩ := q
 unfold hs at h
 simp only [Bool.and_eq_true, decide_eq_true_eq] at h
 obtain ⟨h1, h2, h3, h4⟩ := h
 obtain ⟨j, rfl⟩ := Int.eq_ofNat_of_zero_le h3
 have hk : k = 1 ∨ k = 2 ∨ k = 3 ∨ k = 4 ∨ k = 5 := by omega
 rcases hk with rfl | rfl | rfl | rfl | rfl
 ·have : ((j : Nat) : Int) < 1 := h4
  left; rw [show j = 0 by omega]; rfl
 ·have : ((j : Nat) : Int) < (Kg : Int) := h4
  exact .inr (.inl ⟨j, by omega, .inl rfl⟩)
 ·have : ((j : Nat) : Int) < (Kg : Int) := h4
  exact .inr (.inl ⟨j, by omega, .inr (.inl rfl)⟩)
 ·have : ((j : Nat) : Int) < (Kg : Int) := h4
  exact .inr (.inl ⟨j, by omega, .inr (.inr rfl)⟩)
 ·have : ((j : Nat) : Int) < (m : Int) := h4
  exact .inr (.inr ⟨j, by omega, rfl⟩)
theorem wire_l {w : World} {b0 m Kg : Nat} {L R O V : List Int} (PL PR PO PV : Option Addr) (cL cR cO cV : Nat) (h : Ag b0 w Kg m (.slice PL Kg cL) (.slice PR Kg cR) (.slice PO Kg cO) (.slice PV m cV) L R O V) (j : Nat) (hj : j < Kg) (z : Int) (hz : L[j]? = some z) : Calls Tryz.prog 39 #[.agg #[.slice PL Kg cL, .slice PR Kg cR, .slice PO Kg cO, .slice PV m cV], .agg #[.int .i64 2, .int .i64 (j : Int)]] w fun e w' => e = .returned (.agg #[.int .u64 (lst z).x0, .int .u64 (lst z).x1, .int .u64 (lst z).x2, .int .u64 (lst z).x3]) ∧ Below w.heap.size w w' := by
 obtain ⟨b, c, e⟩ := own_at h.l (by omega)
 have e0 := (Value.slice.inj e).1
 subst e0
 have hl := h.ll
 have BA := bl_trans (bl_trans (bl_alloc w (.cells #[.slice (some ⟨b, 0, none⟩) Kg cL, .slice PR Kg cR, .slice PO Kg cO, .slice PV m cV] 39)) (bl_alloc _ (.cells #[.int .i64 2, .int .i64 (j : Int)] 51))) (bl_alloc _ (.cells #[.int .u64 0, .int .u64 0, .int .u64 0, .int .u64 0] 62))
 obtain ⟨k0, k1, k2, k3⟩ := ssl_cells (own_keepT h.l BA) hz
 have j1 : (j : Int) < (Kg : Int) := by omega
 have BB := hidden BA
 clear h e BA hz hl
 generalize hz0 : (lst z).x0 = z0 at *
 have Z0 := hidden hz0
 clear hz0
 generalize hz1 : (lst z).x1 = z1 at *
 have Z1 := hidden hz1
 clear hz1
 generalize hz2 : (lst z).x2 = z2 at *
 have Z2 := hidden hz2
 clear hz2
 generalize hz3 : (lst z).x3 = z3 at *
 have Z3 := hidden hz3
 clear hz3
 go_enter Tryz.func39, Tryz.ntmps39
 go_wp2_with fail
 refine bodyPost_ret (v := .agg #[.int .u64 z0, .int .u64 z1, .int .u64 z2, .int .u64 z3]) (by simp [results, Tryz.results39, go_sem]) rfl ⟨by simp only [Z0.out, Z1.out, Z2.out, Z3.out], ?_⟩
 exact bl_trans (bl_trans (bl_alloc _ _) (bl_alloc _ _)) (bl_alloc _ _)
theorem wire_r {w : World} {b0 m Kg : Nat} {L R O V : List Int} (PL PR PO PV : Option Addr) (cL cR cO cV : Nat) (h : Ag b0 w Kg m (.slice PL Kg cL) (.slice PR Kg cR) (.slice PO Kg cO) (.slice PV m cV) L R O V) (j : Nat) (hj : j < Kg) (z : Int) (hz : R[j]? = some z) : Calls Tryz.prog 39 #[.agg #[.slice PL Kg cL, .slice PR Kg cR, .slice PO Kg cO, .slice PV m cV], .agg #[.int .i64 3, .int .i64 (j : Int)]] w fun e w' => e = .returned (.agg #[.int .u64 (lst z).x0, .int .u64 (lst z).x1, .int .u64 (lst z).x2, .int .u64 (lst z).x3]) ∧ Below w.heap.size w w' := by
 obtain ⟨b, c, e⟩ := own_at h.r (by omega)
 have e0 := (Value.slice.inj e).1
 subst e0
 have hl := h.lr
 have BA := bl_trans (bl_trans (bl_alloc w (.cells #[.slice PL Kg cL, .slice (some ⟨b, 0, none⟩) Kg cR, .slice PO Kg cO, .slice PV m cV] 39)) (bl_alloc _ (.cells #[.int .i64 3, .int .i64 (j : Int)] 51))) (bl_alloc _ (.cells #[.int .u64 0, .int .u64 0, .int .u64 0, .int .u64 0] 62))
 obtain ⟨k0, k1, k2, k3⟩ := ssl_cells (own_keepT h.r BA) hz
 have j1 : (j : Int) < (Kg : Int) := by omega
 have BB := hidden BA
 clear h e BA hz hl
 generalize hz0 : (lst z).x0 = z0 at *
 have Z0 := hidden hz0
 clear hz0
 generalize hz1 : (lst z).x1 = z1 at *
 have Z1 := hidden hz1
 clear hz1
 generalize hz2 : (lst z).x2 = z2 at *
 have Z2 := hidden hz2
 clear hz2
 generalize hz3 : (lst z).x3 = z3 at *
 have Z3 := hidden hz3
 clear hz3
 go_enter Tryz.func39, Tryz.ntmps39
 go_wp2_with fail
 refine bodyPost_ret (v := .agg #[.int .u64 z0, .int .u64 z1, .int .u64 z2, .int .u64 z3]) (by simp [results, Tryz.results39, go_sem]) rfl ⟨by simp only [Z0.out, Z1.out, Z2.out, Z3.out], ?_⟩
 exact bl_trans (bl_trans (bl_alloc _ _) (bl_alloc _ _)) (bl_alloc _ _)
theorem wire_o {w : World} {b0 m Kg : Nat} {L R O V : List Int} (PL PR PO PV : Option Addr) (cL cR cO cV : Nat) (h : Ag b0 w Kg m (.slice PL Kg cL) (.slice PR Kg cR) (.slice PO Kg cO) (.slice PV m cV) L R O V) (j : Nat) (hj : j < Kg) (z : Int) (hz : O[j]? = some z) : Calls Tryz.prog 39 #[.agg #[.slice PL Kg cL, .slice PR Kg cR, .slice PO Kg cO, .slice PV m cV], .agg #[.int .i64 4, .int .i64 (j : Int)]] w fun e w' => e = .returned (.agg #[.int .u64 (lst z).x0, .int .u64 (lst z).x1, .int .u64 (lst z).x2, .int .u64 (lst z).x3]) ∧ Below w.heap.size w w' := by
 obtain ⟨b, c, e⟩ := own_at h.o (by omega)
 have e0 := (Value.slice.inj e).1
 subst e0
 have hl := h.lo
 have BA := bl_trans (bl_trans (bl_alloc w (.cells #[.slice PL Kg cL, .slice PR Kg cR, .slice (some ⟨b, 0, none⟩) Kg cO, .slice PV m cV] 39)) (bl_alloc _ (.cells #[.int .i64 4, .int .i64 (j : Int)] 51))) (bl_alloc _ (.cells #[.int .u64 0, .int .u64 0, .int .u64 0, .int .u64 0] 62))
 obtain ⟨k0, k1, k2, k3⟩ := ssl_cells (own_keepT h.o BA) hz
 have j1 : (j : Int) < (Kg : Int) := by omega
 have BB := hidden BA
 clear h e BA hz hl
 generalize hz0 : (lst z).x0 = z0 at *
 have Z0 := hidden hz0
 clear hz0
 generalize hz1 : (lst z).x1 = z1 at *
 have Z1 := hidden hz1
 clear hz1
 generalize hz2 : (lst z).x2 = z2 at *
 have Z2 := hidden hz2
 clear hz2
 generalize hz3 : (lst z).x3 = z3 at *
 have Z3 := hidden hz3
 clear hz3
 go_enter Tryz.func39, Tryz.ntmps39
 go_wp2_with fail
 refine bodyPost_ret (v := .agg #[.int .u64 z0, .int .u64 z1, .int .u64 z2, .int .u64 z3]) (by simp [results, Tryz.results39, go_sem]) rfl ⟨by simp only [Z0.out, Z1.out, Z2.out, Z3.out], ?_⟩
 exact bl_trans (bl_trans (bl_alloc _ _) (bl_alloc _ _)) (bl_alloc _ _)
theorem wire_v {w : World} {b0 m Kg : Nat} {L R O V : List Int} (PL PR PO PV : Option Addr) (cL cR cO cV : Nat) (h : Ag b0 w Kg m (.slice PL Kg cL) (.slice PR Kg cR) (.slice PO Kg cO) (.slice PV m cV) L R O V) (j : Nat) (hj : j < m) (z : Int) (hz : V[j]? = some z) : Calls Tryz.prog 39 #[.agg #[.slice PL Kg cL, .slice PR Kg cR, .slice PO Kg cO, .slice PV m cV], .agg #[.int .i64 5, .int .i64 (j : Int)]] w fun e w' => e = .returned (.agg #[.int .u64 (lst z).x0, .int .u64 (lst z).x1, .int .u64 (lst z).x2, .int .u64 (lst z).x3]) ∧ Below w.heap.size w w' := by
 obtain ⟨b, c, e⟩ := own_at h.v (by omega)
 have e0 := (Value.slice.inj e).1
 subst e0
 have hl := h.lv
 have BA := bl_trans (bl_trans (bl_alloc w (.cells #[.slice PL Kg cL, .slice PR Kg cR, .slice PO Kg cO, .slice (some ⟨b, 0, none⟩) m cV] 39)) (bl_alloc _ (.cells #[.int .i64 5, .int .i64 (j : Int)] 51))) (bl_alloc _ (.cells #[.int .u64 0, .int .u64 0, .int .u64 0, .int .u64 0] 62))
 obtain ⟨k0, k1, k2, k3⟩ := ssl_cells (own_keepT h.v BA) hz
 have j1 : (j : Int) < (m : Int) := by omega
 have BB := hidden BA
 clear h e BA hz hl
 generalize hz0 : (lst z).x0 = z0 at *
 have Z0 := hidden hz0
 clear hz0
 generalize hz1 : (lst z).x1 = z1 at *
 have Z1 := hidden hz1
 clear hz1
 generalize hz2 : (lst z).x2 = z2 at *
 have Z2 := hidden hz2
 clear hz2
 generalize hz3 : (lst z).x3 = z3 at *
 have Z3 := hidden hz3
 clear hz3
 go_enter Tryz.func39, Tryz.ntmps39
 go_wp2_with fail
 refine bodyPost_ret (v := .agg #[.int .u64 z0, .int .u64 z1, .int .u64 z2, .int .u64 z3]) (by simp [results, Tryz.results39, go_sem]) rfl ⟨by simp only [Z0.out, Z1.out, Z2.out, Z3.out], ?_⟩
 exact bl_trans (bl_trans (bl_alloc _ _) (bl_alloc _ _)) (bl_alloc _ _)
theorem wire_one (Kg m : Nat) (PL PR PO PV : Option Addr) (cL cR cO cV : Nat) (w : World) : Calls Tryz.prog 39 #[.agg #[.slice PL Kg cL, .slice PR Kg cR, .slice PO Kg cO, .slice PV m cV], .agg #[.int .i64 1, .int .i64 0]] w fun e w' => e = .returned (.agg #[.int .u64 (lst 1).x0, .int .u64 (lst 1).x1, .int .u64 (lst 1).x2, .int .u64 (lst 1).x3]) ∧ Below w.heap.size w w' := by
 rw [one_is]
 have C := hidden int1R
 have BA := hidden (bl_trans (bl_trans (bl_alloc w (.cells #[.slice PL Kg cL, .slice PR Kg cR, .slice PO Kg cO, .slice PV m cV] 39)) (bl_alloc _ (.cells #[.int .i64 1, .int .i64 0] 51))) (bl_alloc _ (.cells #[.int .u64 0, .int .u64 0, .int .u64 0, .int .u64 0] 62)))
 have H3 : Hid ((((w.alloc (.cells #[.slice PL Kg cL, .slice PR Kg cR, .slice PO Kg cO, .slice PV m cV] 39)).alloc (.cells #[.int .i64 1, .int .i64 0] 51)).alloc (.cells #[.int .u64 0, .int .u64 0, .int .u64 0, .int .u64 0] 62)).heap[w.heap.size + 1 + 1]? = some (.cells #[.int .u64 0, .int .u64 0, .int .u64 0, .int .u64 0] 62 (0, 0))) := hidden (by simp only [World.alloc, Array.getElem?_push, Array.size_push]; rw [if_pos trivial])
 go_enter Tryz.func39, Tryz.ntmps39
 go_upto_region 3 with fail
 generalize (((w.alloc (.cells #[.slice PL Kg cL, .slice PR Kg cR, .slice PO Kg cO, .slice PV m cV] 39)).alloc (.cells #[.int .i64 1, .int .i64 0] 51)).alloc (.cells #[.int .u64 0, .int .u64 0, .int .u64 0, .int .u64 0] 62)) = w1 at *
 go_wp2_with (go_at_call 60; refine (C.out _).mono ?_; rintro e w2 ⟨rfl, hb⟩; have H4 := (hb.block _ (Array.getElem?_eq_some_iff.1 H3.out).1).trans H3.out; have BB := hidden (bl_trans BA.out hb); have c0 := cell_of_row w2 (w.heap.size + 1 + 1) 0 _ 62 (0, 0) H4; have c1 := cell_of_row w2 (w.heap.size + 1 + 1) 1 _ 62 (0, 0) H4; have c2 := cell_of_row w2 (w.heap.size + 1 + 1) 2 _ 62 (0, 0) H4; have c3 := cell_of_row w2 (w.heap.size + 1 + 1) 3 _ 62 (0, 0) H4; have ff : ∀ j, w2.frozen? ⟨w.heap.size + 1 + 1, j, none⟩ = false := (fun j => by unfold World.frozen?; rw [H4]; simp); have f0 := ff 0; have f1 := ff 1; have f2 := ff 2; have f3 := ff 3; simp at c0 c1 c2 c3; clear hb H4 ff)
 refine bodyPost_ret (v := .agg #[.int .u64 1, .int .u64 0, .int .u64 0, .int .u64 0]) (by simp [results, Tryz.results39, go_sem, c0, c1, c2, c3]) rfl ⟨rfl, ?_⟩
 exact bl_cell (bl_cell (bl_cell (bl_cell BB.out (by omega)) (by omega)) (by omega)) (by omega)
theorem wire_any {m Kg : Nat} {L R O V : List Int} (hL : L.length = Kg) (hR : R.length = Kg) (hO : O.length = Kg) (hV : V.length = m) (q : Wr) (hq : hs m Kg q = true) : ∃ z : Int, ∀ (w : World) (b0 : Nat) (PL PR PO PV : Option Addr) (cL cR cO cV : Nat), Ag b0 w Kg m (.slice PL Kg cL) (.slice PR Kg cR) (.slice PO Kg cO) (.slice PV m cV) L R O V → Calls Tryz.prog 39 #[.agg #[.slice PL Kg cL, .slice PR Kg cR, .slice PO Kg cO, .slice PV m cV], .agg #[.int .i64 q.1, .int .i64 q.2]] w fun e w' => e = .returned (.agg #[.int .u64 (lst z).x0, .int .u64 (lst z).x1, .int .u64 (lst z).x2, .int .u64 (lst z).x3]) ∧ Below w.heap.size w w' := by
 rcases hs_cases hq with rfl | ⟨j, hj, rfl | rfl | rfl⟩ | ⟨j, hj, rfl⟩
 ·exact ⟨1, fun w b0 PL PR PO PV cL cR cO cV h => wire_one Kg m PL PR PO PV cL cR cO cV w⟩
 ·exact ⟨L[j]'(by omega), fun w b0 PL PR PO PV cL cR cO cV h => wire_l PL PR PO PV cL cR cO cV h j hj _ (List.getElem?_eq_getElem (by omega))⟩
 ·exact ⟨R[j]'(by omega), fun w b0 PL PR PO PV cL cR cO cV h => wire_r PL PR PO PV cL cR cO cV h j hj _ (List.getElem?_eq_getElem (by omega))⟩
 ·exact ⟨O[j]'(by omega), fun w b0 PL PR PO PV cL cR cO cV h => wire_o PL PR PO PV cL cR cO cV h j hj _ (List.getElem?_eq_getElem (by omega))⟩
 ·exact ⟨V[j]'(by omega), fun w b0 PL PR PO PV cL cR cO cV h => wire_v PL PR PO PV cL cR cO cV h j hj _ (List.getElem?_eq_getElem (by omega))⟩
end Ci
end Go.Proofs.YtnkaolobcglmlaaGreatDoor
