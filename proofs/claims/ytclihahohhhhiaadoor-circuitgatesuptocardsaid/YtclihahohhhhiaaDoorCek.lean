import Derived.Test.YtclihahohhhhiaaDoorTk
import Derived.Test.YtclihahohhhhiaaDoorCej
namespace Go.Proofs.YtclihahohhhhiaaDoor
open Go.RowKit
set_option linter.unusedVariables false
set_option linter.unusedSimpArgs false
open Cm (Wr Tm co bf Ls lf ins Eqm)
namespace Ci
set_option maxRecDepth 100000
set_option maxHeartbeats 4000000
theorem cellL {b : Nat} {w w' : World} {k o : Nat} {v : Value} (h : w.cell? ⟨k, o, none⟩ = some v) (hk : k < b) (hb : Below b w w') : w'.cell? ⟨k, o, none⟩ = some v := by
 rw [hb.cell (p := ⟨k, o, none⟩) hk]; exact h
structure Stp where
 q : Int
 a : Lf
 b : Lf
structure Scr (w : World) (sb so n : Nat) (g : Nat → Stp) : Prop where
 c0 : ∀ k, k < n → w.cell? ⟨sb, so + k * 3, none⟩ = some (.int .i64 (g k).q)
 c1 : ∀ k, k < n → w.cell? ⟨sb, so + k * 3 + 1, none⟩ = some (.slice (g k).a.p (g k).a.n (g k).a.c)
 c2 : ∀ k, k < n → w.cell? ⟨sb, so + k * 3 + 2, none⟩ = some (.slice (g k).b.p (g k).b.n (g k).b.c)
 la : ∀ k, k < n → (g k).a.at w
 lb : ∀ k, k < n → (g k).b.at w
def Scl (w : World) (P : Option Addr) (n : Nat) (g : Nat → Stp) : Prop := ∃ sb so : Nat, (0 < n → P = some ⟨sb, so, none⟩) ∧ (0 < n → Scr w sb so n g)
def mk11o_0 : Oper := { dst := some 33, op := Op.move (Operand.tmp 5), type := 27, pos := "outright.go:36", after := #[], guard := none }
def mk11o_1 : Oper := { dst := some 34, op := Op.move (Operand.tmp 1), type := 22, pos := "outright.go:36", after := #[], guard := none }
def mk11o_2 : Oper := { dst := some 35, op := Op.move (Operand.tmp 7), type := 3, pos := "outright.go:36", after := #[], guard := none }
def mk11o_3 : Oper := { dst := some 36, op := Op.indexAddr 22 (Operand.tmp 34) (Operand.tmp 35), type := 0, pos := "outright.go:36", after := #[{ on := 1, ground := Ground.data }, { on := 2, ground := Ground.data }], guard := none }
def mk11o_4 : Oper := { dst := some 37, op := Op.fieldAddr 60 (Operand.tmp 36) 1, type := 0, pos := "outright.go:36", after := #[{ on := 3, ground := Ground.data }], guard := none }
def mk11o_5 : Oper := { dst := some 38, op := Op.load 24 (Operand.tmp 37), type := 24, pos := "outright.go:36", after := #[{ on := 4, ground := Ground.data }], guard := none }
def mk11o_6 : Oper := { dst := some 39, op := Op.move (Operand.tmp 1), type := 22, pos := "outright.go:36", after := #[], guard := none }
def mk11o_7 : Oper := { dst := some 40, op := Op.move (Operand.tmp 7), type := 3, pos := "outright.go:36", after := #[], guard := none }
def mk11o_8 : Oper := { dst := some 41, op := Op.indexAddr 22 (Operand.tmp 39) (Operand.tmp 40), type := 0, pos := "outright.go:36", after := #[{ on := 6, ground := Ground.data }, { on := 7, ground := Ground.data }], guard := none }
def mk11o_9 : Oper := { dst := some 42, op := Op.fieldAddr 60 (Operand.tmp 41) 2, type := 0, pos := "outright.go:36", after := #[{ on := 8, ground := Ground.data }], guard := none }
def mk11o_10 : Oper := { dst := some 43, op := Op.load 24 (Operand.tmp 42), type := 24, pos := "outright.go:36", after := #[{ on := 9, ground := Ground.data }], guard := none }
def mk11o_11 : Oper := { dst := some 44, op := Op.call { callee := Callee.value (Operand.func 7), args := #[Operand.tmp 33, Operand.tmp 38, Operand.tmp 43], argTypes := #[27, 24, 24] }, type := 34, pos := "outright.go:36", after := #[{ on := 0, ground := Ground.data }, { on := 5, ground := Ground.data }, { on := 10, ground := Ground.data }], guard := none }
def mk11o : Array Oper := #[mk11o_0, mk11o_1, mk11o_2, mk11o_3, mk11o_4, mk11o_5, mk11o_6, mk11o_7, mk11o_8, mk11o_9, mk11o_10, mk11o_11]
set_option maxRecDepth 100000 in
set_option maxHeartbeats 16000000 in
theorem mk11 (Q : Exit → Act → World → Prop) (sb so n c i t : Nat) (a b : Lf) (wq : World) (R : World → Prop) (u0 u2 u3 u4 u6 u8 u9 u10 u11 u12 u13 u14 u15 u16 u17 u18 u19 u20 u21 u22 u23 u24 u25 u26 u27 u28 u29 u30 u31 u32 u33 u34 u35 u36 u37 u38 u39 u40 u41 u42 u43 u44 u45 u46 u47 u48 u49 u50 u51 u52 u53 u54 u55 u56 u57 u58 : Value) (W : World)
  (i0 : (0 : Int) ≤ (i : Int)) (i1 : (i : Int) < (n : Int)) (hlt : sb < wq.heap.size) (HW : Hid (Below wq.heap.size wq W)) (c1 : wq.cell? ⟨sb, so + i * 3 + 1, none⟩ = some (.slice a.p a.n a.c)) (c2 : wq.cell? ⟨sb, so + i * 3 + 2, none⟩ = some (.slice b.p b.n b.c))
  (C1 : Hid (Calls Tryd.prog 7 #[.pointer (some ⟨t, 0, none⟩), .slice a.p a.n a.c, .slice b.p b.n b.c] W.drew fun e w' => ∃ v, e = .returned v ∧ R w')) (RB : Hid (∀ x, R x → Below wq.heap.size wq x))
  (HQ : Hid (∀ (wz : World) (vr : Value), R wz → Q .normal ⟨#[u0, .slice (some ⟨sb, so, none⟩) n c, u2, u3, u4, .pointer (some ⟨t, 0, none⟩), u6, .int .i64 (i : Int), u8, u9, u10, u11, u12, u13, u14, u15, u16, u17, u18, u19, u20, u21, u22, u23, u24, u25, u26, u27, u28, u29, u30, u31, u32, .pointer (some ⟨t, 0, none⟩), .slice (some ⟨sb, so, none⟩) n c, .int .i64 (i : Int), .pointer (some ⟨sb, so + i * 3, none⟩), .pointer (some ⟨sb, so + i * 3 + 1, none⟩), .slice a.p a.n a.c, .slice (some ⟨sb, so, none⟩) n c, .int .i64 (i : Int), .pointer (some ⟨sb, so + i * 3, none⟩), .pointer (some ⟨sb, so + i * 3 + 2, none⟩), .slice b.p b.n b.c, vr, u45, u46, u47, u48, u49, u50, u51, u52, u53, u54, u55, u56, u57, u58], []⟩ wz)) : (Code.region 11 mk11o true).wp Tryd.prog Q ⟨#[u0, .slice (some ⟨sb, so, none⟩) n c, u2, u3, u4, .pointer (some ⟨t, 0, none⟩), u6, .int .i64 (i : Int), u8, u9, u10, u11, u12, u13, u14, u15, u16, u17, u18, u19, u20, u21, u22, u23, u24, u25, u26, u27, u28, u29, u30, u31, u32, u33, u34, u35, u36, u37, u38, u39, u40, u41, u42, u43, u44, u45, u46, u47, u48, u49, u50, u51, u52, u53, u54, u55, u56, u57, u58], []⟩ W := by
 unfold mk11o
 refine wp_region_noPanic ?_
 refine wp_region_held_drew (S := fun x => Below wq.heap.size wq x) (by kernel_rfl) (bl_trans HW.out (bl_drew W)) (fun hH0 => ?_)
 refine tk 0 mk11o_0 (.pointer (some ⟨t, 0, none⟩)) rfl (by kernel_rfl) hH0 rfl (fun w0 hSw => ?_) ?_
 ·(unfold mk11o_0; clear hSw; go_simp)
 simp only [mk11o_0, Act.put, sA, sB, sC]
 refine tk 1 mk11o_1 (.slice (some ⟨sb, so, none⟩) n c) rfl (by kernel_rfl) hH0 rfl (fun w0 hSw => ?_) ?_
 ·(unfold mk11o_1; clear hSw; go_simp)
 simp only [mk11o_1, Act.put, sA, sB, sC]
 refine tk 2 mk11o_2 (.int .i64 (i : Int)) rfl (by kernel_rfl) hH0 rfl (fun w0 hSw => ?_) ?_
 ·(unfold mk11o_2; clear hSw; go_simp)
 simp only [mk11o_2, Act.put, sA, sB, sC]
 refine tk 6 mk11o_6 (.slice (some ⟨sb, so, none⟩) n c) rfl (by kernel_rfl) hH0 rfl (fun w0 hSw => ?_) ?_
 ·(unfold mk11o_6; clear hSw; go_simp)
 simp only [mk11o_6, Act.put, sA, sB, sC]
 refine tk 7 mk11o_7 (.int .i64 (i : Int)) rfl (by kernel_rfl) hH0 rfl (fun w0 hSw => ?_) ?_
 ·(unfold mk11o_7; clear hSw; go_simp)
 simp only [mk11o_7, Act.put, sA, sB, sC]
 refine tk 3 mk11o_3 (.pointer (some ⟨sb, so + i * 3, none⟩)) rfl (by kernel_rfl) hH0 rfl (fun w0 hSw => ?_) ?_
 ·(unfold mk11o_3; clear hSw; go_simp)
 simp only [mk11o_3, Act.put, sA, sB, sC]
 refine tk 8 mk11o_8 (.pointer (some ⟨sb, so + i * 3, none⟩)) rfl (by kernel_rfl) hH0 rfl (fun w0 hSw => ?_) ?_
 ·(unfold mk11o_8; clear hSw; go_simp)
 simp only [mk11o_8, Act.put, sA, sB, sC]
 refine tk 4 mk11o_4 (.pointer (some ⟨sb, so + i * 3 + 1, none⟩)) rfl (by kernel_rfl) hH0 rfl (fun w0 hSw => ?_) ?_
 ·(unfold mk11o_4; clear hSw; go_simp)
 simp only [mk11o_4, Act.put, sA, sB, sC]
 refine tk 9 mk11o_9 (.pointer (some ⟨sb, so + i * 3 + 2, none⟩)) rfl (by kernel_rfl) hH0 rfl (fun w0 hSw => ?_) ?_
 ·(unfold mk11o_9; clear hSw; go_simp)
 simp only [mk11o_9, Act.put, sA, sB, sC]
 refine tk 5 mk11o_5 (.slice a.p a.n a.c) rfl (by kernel_rfl) hH0 rfl (fun w0 hSw => ?_) ?_
 ·(unfold mk11o_5; have hS : Below wq.heap.size wq w0 := hSw; have a0 := cellL c1 hlt hS; clear hS hSw; go_simp)
 simp only [mk11o_5, Act.put, sA, sB, sC]
 refine tk 10 mk11o_10 (.slice b.p b.n b.c) rfl (by kernel_rfl) hH0 rfl (fun w0 hSw => ?_) ?_
 ·(unfold mk11o_10; have hS : Below wq.heap.size wq w0 := hSw; have a0 := cellL c2 hlt hS; clear hS hSw; go_simp)
 simp only [mk11o_10, Act.put, sA, sB, sC]
 refine wpAnyH_ready (rs := [11]) (by kernel_rfl) (by simp) ?_
 refine AllReadyH.cons (o := mk11o_11) rfl (fun K hK => ?_) AllReadyH.nil
 unfold mk11o_11
 have HH := hidden hH0
 clear hH0
 go_simp
 refine (C1.out).mono ?_
 rintro e wn1 ⟨vr, rfl, hR⟩
 have SN := hidden (RB.out _ hR)
 have FE := hidden (hR)
 clear HH C1 hR
 go_wp2_with fail
 refine hK.out _ _ SN.out (fun hH1 => ?_)
 clear hK K SN
 have HH := hidden hH1
 have FQ := hidden (HQ.out _ vr FE.out)
 refine wpAnyH_done (by kernel_rfl) ?_ _
 refine NoPanic.normal ?_
 exact FQ.out
end Ci
end Go.Proofs.YtclihahohhhhiaaDoor
