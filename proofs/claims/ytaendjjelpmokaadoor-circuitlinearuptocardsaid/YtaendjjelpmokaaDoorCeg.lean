import Derived.Test.YtaendjjelpmokaaDoorTk
import Derived.Test.YtaendjjelpmokaaDoorCee
namespace Go.Proofs.YtaendjjelpmokaaDoor
open Go.RowKit
set_option linter.unusedVariables false
set_option linter.unusedSimpArgs false
open Cm (Wr Tm co bf Ls lf ins Eqm)
namespace Ci
set_option maxRecDepth 100000
set_option maxHeartbeats 4000000
theorem eq4n (a b : E4) (w : World) : (Op.equalIn 9999 27 a.v b.v).run Tryd.prog w = .ok (a.same b) w := by
 have hi : Tryd.prog.info? 25 = some (Tryd.prog.info? 25).get! := by kernel_rfl
 have hc : Tryd.prog.cellsOf 25 = 1 := by kernel_rfl
 unfold E4.v
 rw [run_equalIn_array w 9998 _ _ (by kernel_rfl : Tryd.prog.underlying 27 = some (.array 4 25)) hi, hc]
 rw [eqItems_ints w (k := .u64) 9997 (by kernel_rfl) (by kernel_rfl) _ _ (fun i => [a.x0, a.x1, a.x2, a.x3].getD i 0) (fun i => [b.x0, b.x1, b.x2, b.x3].getD i 0)]
 ·rw [show List.range 4 = [0, 1, 2, 3] from rfl]
  simp only [List.all_cons, List.all_nil, Bool.and_true]
  rfl
 ·intro i hi
  have : i < 4 := List.mem_range.1 hi
  match i, this with
  | 0, _ => exact ⟨rfl, rfl⟩
  | 1, _ => exact ⟨rfl, rfl⟩
  | 2, _ => exact ⟨rfl, rfl⟩
  | 3, _ => exact ⟨rfl, rfl⟩
def eq6o_0 : Oper := { dst := some 17, op := Op.move (Operand.tmp 0), type := 24, pos := "outright.go:231", after := #[], guard := none }
def eq6o_1 : Oper := { dst := some 18, op := Op.move (Operand.tmp 5), type := 3, pos := "outright.go:231", after := #[], guard := none }
def eq6o_2 : Oper := { dst := some 19, op := Op.indexAddr 24 (Operand.tmp 17) (Operand.tmp 18), type := 0, pos := "outright.go:231", after := #[{ on := 0, ground := Ground.data }, { on := 1, ground := Ground.data }], guard := none }
def eq6o_3 : Oper := { dst := some 20, op := Op.load 66 (Operand.tmp 19), type := 66, pos := "outright.go:231", after := #[{ on := 2, ground := Ground.data }], guard := none }
def eq6o_4 : Oper := { dst := some 21, op := Op.move (Operand.tmp 1), type := 24, pos := "outright.go:231", after := #[], guard := none }
def eq6o_5 : Oper := { dst := some 22, op := Op.move (Operand.tmp 5), type := 3, pos := "outright.go:231", after := #[], guard := none }
def eq6o_6 : Oper := { dst := some 23, op := Op.indexAddr 24 (Operand.tmp 21) (Operand.tmp 22), type := 0, pos := "outright.go:231", after := #[{ on := 4, ground := Ground.data }, { on := 5, ground := Ground.data }], guard := none }
def eq6o_7 : Oper := { dst := some 24, op := Op.load 66 (Operand.tmp 23), type := 66, pos := "outright.go:231", after := #[{ on := 6, ground := Ground.data }], guard := none }
def eq6o_8 : Oper := { dst := some 25, op := Op.binOp BinOp.neq 66 (Operand.tmp 20) (Operand.tmp 24) 66, type := 4, pos := "outright.go:231", after := #[{ on := 3, ground := Ground.data }, { on := 7, ground := Ground.data }], guard := none }
def eq6o : Array Oper := #[eq6o_0, eq6o_1, eq6o_2, eq6o_3, eq6o_4, eq6o_5, eq6o_6, eq6o_7, eq6o_8]
set_option maxRecDepth 100000 in
set_option maxHeartbeats 16000000 in
theorem eq6 (Q : Exit → Act → World → Prop) (sa oa ca sb ob cb n i : Nat) (s t : Trm) (B b9 : Bool) (u2 u3 u4 u6 u7 u8 u9 u10 u11 u12 u13 u14 u15 u16 u17 u18 u19 u20 u21 u22 u23 u24 u25 : Value) (W : World)
  (i0 : (0 : Int) ≤ (i : Int)) (i1 : (i : Int) < (n : Int)) (a0 : W.cell? ⟨sa, oa + i * 6, none⟩ = some (.int .i64 s.q.1)) (a1 : W.cell? ⟨sa, oa + i * 6 + 1, none⟩ = some (.int .i64 s.q.2)) (a2 : W.cell? ⟨sa, oa + i * 6 + 2, none⟩ = some (.int .u64 s.a.x0)) (a3 : W.cell? ⟨sa, oa + i * 6 + 3, none⟩ = some (.int .u64 s.a.x1)) (a4 : W.cell? ⟨sa, oa + i * 6 + 4, none⟩ = some (.int .u64 s.a.x2)) (a5 : W.cell? ⟨sa, oa + i * 6 + 5, none⟩ = some (.int .u64 s.a.x3)) (b0 : W.cell? ⟨sb, ob + i * 6, none⟩ = some (.int .i64 t.q.1)) (b1 : W.cell? ⟨sb, ob + i * 6 + 1, none⟩ = some (.int .i64 t.q.2)) (b2 : W.cell? ⟨sb, ob + i * 6 + 2, none⟩ = some (.int .u64 t.a.x0)) (b3 : W.cell? ⟨sb, ob + i * 6 + 3, none⟩ = some (.int .u64 t.a.x1)) (b4 : W.cell? ⟨sb, ob + i * 6 + 4, none⟩ = some (.int .u64 t.a.x2)) (b5 : W.cell? ⟨sb, ob + i * 6 + 5, none⟩ = some (.int .u64 t.a.x3))
  (hBB : B = (decide (s.q.1 = t.q.1) && (decide (s.q.2 = t.q.2) && b9)))
  (NQ : Hid (∀ y, (Op.equalIn 9999 27 (.agg #[.int .u64 s.a.x0, .int .u64 s.a.x1, .int .u64 s.a.x2, .int .u64 s.a.x3]) (.agg #[.int .u64 t.a.x0, .int .u64 t.a.x1, .int .u64 t.a.x2, .int .u64 t.a.x3])).run Tryd.prog y = .ok b9 y))
  (HQ : Hid (∀ (wz : World), Below W.heap.size W wz → Q .normal ⟨#[.slice (some ⟨sa, oa, none⟩) n ca, .slice (some ⟨sb, ob, none⟩) n cb, u2, u3, u4, .int .i64 (i : Int), u6, u7, u8, u9, u10, u11, u12, u13, u14, u15, u16, .slice (some ⟨sa, oa, none⟩) n ca, .int .i64 (i : Int), .pointer (some ⟨sa, oa + i * 6, none⟩), .agg #[.int .i64 s.q.1, .int .i64 s.q.2, .int .u64 s.a.x0, .int .u64 s.a.x1, .int .u64 s.a.x2, .int .u64 s.a.x3], .slice (some ⟨sb, ob, none⟩) n cb, .int .i64 (i : Int), .pointer (some ⟨sb, ob + i * 6, none⟩), .agg #[.int .i64 t.q.1, .int .i64 t.q.2, .int .u64 t.a.x0, .int .u64 t.a.x1, .int .u64 t.a.x2, .int .u64 t.a.x3], .bool (!B)], []⟩ wz)) : (Code.region 6 eq6o true).wp Tryd.prog Q ⟨#[.slice (some ⟨sa, oa, none⟩) n ca, .slice (some ⟨sb, ob, none⟩) n cb, u2, u3, u4, .int .i64 (i : Int), u6, u7, u8, u9, u10, u11, u12, u13, u14, u15, u16, u17, u18, u19, u20, u21, u22, u23, u24, u25], []⟩ W := by
 unfold eq6o
 refine wp_region_noPanic ?_
 refine wp_region_held_drew (S := fun x => Below W.heap.size W x) (by kernel_rfl) (bl_drew W) (fun hH0 => ?_)
 refine tk 0 eq6o_0 (.slice (some ⟨sa, oa, none⟩) n ca) rfl (by kernel_rfl) hH0 rfl (fun w0 hSw => ?_) ?_
 ·(unfold eq6o_0; clear hSw; go_simp)
 simp only [eq6o_0, Act.put, sA, sB, sC]
 refine tk 1 eq6o_1 (.int .i64 (i : Int)) rfl (by kernel_rfl) hH0 rfl (fun w0 hSw => ?_) ?_
 ·(unfold eq6o_1; clear hSw; go_simp)
 simp only [eq6o_1, Act.put, sA, sB, sC]
 refine tk 4 eq6o_4 (.slice (some ⟨sb, ob, none⟩) n cb) rfl (by kernel_rfl) hH0 rfl (fun w0 hSw => ?_) ?_
 ·(unfold eq6o_4; clear hSw; go_simp)
 simp only [eq6o_4, Act.put, sA, sB, sC]
 refine tk 5 eq6o_5 (.int .i64 (i : Int)) rfl (by kernel_rfl) hH0 rfl (fun w0 hSw => ?_) ?_
 ·(unfold eq6o_5; clear hSw; go_simp)
 simp only [eq6o_5, Act.put, sA, sB, sC]
 refine tk 2 eq6o_2 (.pointer (some ⟨sa, oa + i * 6, none⟩)) rfl (by kernel_rfl) hH0 rfl (fun w0 hSw => ?_) ?_
 ·(unfold eq6o_2; clear hSw; go_simp)
 simp only [eq6o_2, Act.put, sA, sB, sC]
 refine tk 6 eq6o_6 (.pointer (some ⟨sb, ob + i * 6, none⟩)) rfl (by kernel_rfl) hH0 rfl (fun w0 hSw => ?_) ?_
 ·(unfold eq6o_6; clear hSw; go_simp)
 simp only [eq6o_6, Act.put, sA, sB, sC]
 refine tk 3 eq6o_3 (.agg #[.int .i64 s.q.1, .int .i64 s.q.2, .int .u64 s.a.x0, .int .u64 s.a.x1, .int .u64 s.a.x2, .int .u64 s.a.x3]) rfl (by kernel_rfl) hH0 rfl (fun w0 hSw => ?_) ?_
 ·(unfold eq6o_3; have hS : Below W.heap.size W w0 := hSw; have a0 := cell_keep a0 hS; have a1 := cell_keep a1 hS; have a2 := cell_keep a2 hS; have a3 := cell_keep a3 hS; have a4 := cell_keep a4 hS; have a5 := cell_keep a5 hS; clear hS hSw; go_simp)
 simp only [eq6o_3, Act.put, sA, sB, sC]
 refine tk 7 eq6o_7 (.agg #[.int .i64 t.q.1, .int .i64 t.q.2, .int .u64 t.a.x0, .int .u64 t.a.x1, .int .u64 t.a.x2, .int .u64 t.a.x3]) rfl (by kernel_rfl) hH0 rfl (fun w0 hSw => ?_) ?_
 ·(unfold eq6o_7; have hS : Below W.heap.size W w0 := hSw; have a0 := cell_keep b0 hS; have a1 := cell_keep b1 hS; have a2 := cell_keep b2 hS; have a3 := cell_keep b3 hS; have a4 := cell_keep b4 hS; have a5 := cell_keep b5 hS; clear hS hSw; go_simp)
 simp only [eq6o_7, Act.put, sA, sB, sC]
 refine tk 8 eq6o_8 (.bool (!B)) rfl (by kernel_rfl) hH0 rfl (fun w0 hSw => ?_) ?_
 ·(unfold eq6o_8; clear hSw; have e0 := NQ.out w0; clear NQ HQ hH0 a0 a1 a2 a3 a4 a5 b0 b1 b2 b3 b4 b5; subst hBB; by_cases g1 : s.q.1 = t.q.1 <;> by_cases g2 : s.q.2 = t.q.2 <;> cases b9 <;> go_simp)
 simp only [eq6o_8, Act.put, sA, sB, sC]
 have HH := hidden hH0
 have FQ := hidden (HQ.out _ HH.out)
 refine wpAnyH_done (by kernel_rfl) ?_ _
 refine NoPanic.normal ?_
 exact FQ.out
def eqB (X Y : List Tm) : Bool := decide (X.length = Y.length) && (List.range X.length).all fun k => decide ((ft X k).q = (ft Y k).q) && (ft X k).a.same (ft Y k).a
theorem ft_get {X : List Tm} {k : Nat} (hk : k < X.length) : ft X k = tmOf X[k] := by
 unfold ft
 rw [List.getD_eq_getElem?_getD, List.getElem?_eq_getElem hk]
 rfl
theorem lst_inj {a b : Int} (ha : 0 < a ∧ a < Sm.L) (hb : 0 < b ∧ b < Sm.L) (h : lst a = lst b) : a = b := by
 have := congrArg E4.n h
 rw [lst_n, lst_n, Int.emod_eq_of_lt (by omega) ha.2, Int.emod_eq_of_lt (by omega) hb.2] at this
 exact this
theorem eqB_iff {X Y : List Tm} (hX : Ls Sm.L X) (hY : Ls Sm.L Y) : eqB X Y = true ↔ X = Y := by
 unfold eqB
 rw [Bool.and_eq_true, decide_eq_true_eq, List.all_eq_true]
 constructor
 ·rintro ⟨h1, h2⟩
  refine List.ext_getElem h1 (fun k k1 k2 => ?_)
  have h := h2 k (List.mem_range.2 k1)
  rw [Bool.and_eq_true, decide_eq_true_eq, ft_get k1, ft_get k2] at h
  have e1 : X[k].1 = Y[k].1 := h.1
  have e2 : lst X[k].2 = lst Y[k].2 := (E4.same_iff _ _).1 h.2
  exact Prod.ext e1 (lst_inj (hX.nz _ (List.getElem_mem k1)) (hY.nz _ (List.getElem_mem k2)) e2)
 ·rintro rfl
  refine ⟨rfl, fun k hk => ?_⟩
  rw [Bool.and_eq_true, decide_eq_true_eq]
  exact ⟨rfl, (E4.same_iff _ _).2 rfl⟩
theorem equal_any (P Q : Option Addr) (ca cb : Nat) (X Y : List Tm) (w : World) (hn : X.length ≤ 2932031007402) (hA : Lt w P X.length (ft X)) (hB : Lt w Q Y.length (ft Y)) :
  Calls Tryd.prog 8 #[.slice P X.length ca, .slice Q Y.length cb] w fun e w' => e = .returned (.bool (eqB X Y)) ∧ Below w.heap.size w w' := by
 by_cases hl : X.length = Y.length
 ·have HA := hidden hA
  have HBq : Hid (Lt w Q X.length (ft Y)) := hidden (by rw [hl]; exact hB)
  have HS := hidden hn
  have R0 := hidden (Below.refl w.heap.size w)
  have HLE := hidden hl
  rw [← hl]
  obtain ⟨n, hnn⟩ : ∃ n, X.length = n := ⟨_, rfl⟩
  have HNN := hidden hnn
  rw [hnn] at HA HBq HS ⊢
  clear hA hB hn hl hnn
  go_enter Tryd.func8, Tryd.ntmps8
  go_upto_region 4 with fail
  go_loopw [5] (fun iv w' => ∃ i : Nat, i ≤ n ∧ iv = .int .i64 (i : Int) ∧ Hid (∀ k, k < i → (decide ((ft X k).q = (ft Y k).q) && (ft X k).a.same (ft Y k).a) = true) ∧ Hid (Below w.heap.size w w')) (fun i _ => n - (intOf i).toNat)
  case atStart => exact ⟨0, by omega, rfl, hidden (fun k hk => by omega), R0⟩
  case round =>
   clear R0
   obtain ⟨i, hi, rfl, hZ, hR⟩ := hrel
   by_cases hin : i < n
   ·have i1 : (i : Int) < (n : Int) := by omega
    have i0 : (0 : Int) ≤ (i : Int) := by omega
    have w9 : IntKind.i64.wrap ((i : Int) + 1) = (i : Int) + 1 := IntWalk.i64_in _ (by have := HS.out; omega)
    obtain ⟨sa, oa, hPs, hRt⟩ := HA.out
    obtain rfl := hPs (by omega)
    have rt := (hRt (by omega)).keep hR.out
    have a0 := rt.c0 i hin
    have a1 := rt.c1 i hin
    have a2 := rt.c2 i hin
    have a3 := rt.c3 i hin
    have a4 := rt.c4 i hin
    have a5 := rt.c5 i hin
    clear rt hRt hPs
    obtain ⟨sb, ob, hPs, hRt⟩ := HBq.out
    obtain rfl := hPs (by omega)
    have rt := (hRt (by omega)).keep hR.out
    have b0 := rt.c0 i hin
    have b1 := rt.c1 i hin
    have b2 := rt.c2 i hin
    have b3 := rt.c3 i hin
    have b4 := rt.c4 i hin
    have b5 := rt.c5 i hin
    clear rt hRt hPs
    have KY : Hid ((decide ((ft X i).q = (ft Y i).q) && (ft X i).a.same (ft Y i).a) = true → ∀ k, k < i + 1 → (decide ((ft X k).q = (ft Y k).q) && (ft X k).a.same (ft Y k).a) = true) := hidden (fun h k hk => by
     rcases Nat.lt_or_ge k i with h1 | h1
     ·exact hZ.out k h1
     ·obtain rfl : k = i := by omega
      exact h)
    have NK : Hid ((decide ((ft X i).q = (ft Y i).q) && (ft X i).a.same (ft Y i).a) = false → eqB X Y = false) := hidden (fun h => by
     unfold eqB
     rw [Bool.and_eq_false_iff]
     right
     rw [List.all_eq_false]
     exact ⟨i, List.mem_range.2 (by rw [HNN.out]; exact hin), by rw [h]; decide⟩)
    clear hZ
    have NQ := fun y => eq4n (ft X i).a (ft Y i).a y
    simp only [E4.v] at NQ
    have hBB : (decide ((ft X i).q = (ft Y i).q) && (ft X i).a.same (ft Y i).a) = (decide ((ft X i).q.1 = (ft Y i).q.1) && (decide ((ft X i).q.2 = (ft Y i).q.2) && (ft X i).a.same (ft Y i).a)) := by
     rw [← Bool.and_assoc]
     congr 1
     rw [← Bool.decide_and]
     exact decide_eq_decide.2 Prod.ext_iff
    obtain ⟨Bz, hBz⟩ : ∃ Bz, (decide ((ft X i).q = (ft Y i).q) && (ft X i).a.same (ft Y i).a) = Bz := ⟨_, rfl⟩
    rw [hBz] at KY NK hBB
    clear hBz
    obtain ⟨b9, hb9⟩ : ∃ b9, (ft X i).a.same (ft Y i).a = b9 := ⟨_, rfl⟩
    rw [hb9] at NQ hBB
    clear hb9
    generalize ft X i = tx at *
    generalize ft Y i = ty at *
    replace NQ := hidden NQ
    go_upto_region 6 with fail
    refine eq6 _ sa oa ca sb ob cb n i tx ty Bz b9 _ _ _ _ _ _ _ _ _ _ _ _ _ _ _ _ _ _ _ _ _ _ _ wr i0 i1 a0 a1 a2 a3 a4 a5 b0 b1 b2 b3 b4 b5 hBB NQ (hidden ?_)
    intro w2 hb2
    have PN := hidden (bl_trans hR.out hb2)
    clear hb2 hR NQ hBB a0 a1 a2 a3 a4 a5 b0 b1 b2 b3 b4 b5
    cases Bz with
    | true =>
     have KZ := hidden (KY.out rfl)
     clear KY NK
     go_wp2_with fail
     go_roundw
     case rel => exact ⟨i + 1, by omega, by go_num, KZ, PN⟩
     case measure => simp [intOf]; omega
    | false =>
     have fz := hidden (NK.out rfl)
     clear KY NK
     go_wp2_with fail
     refine bodyPost_ret (v := .bool false) (by simp [results, Tryd.results8, go_sem]) rfl ⟨by rw [fz.out], PN.out⟩
   ·obtain rfl : i = n := by omega
    have lq : ¬ (i : Int) < (i : Int) := by omega
    have fz : Hid (eqB X Y = true) := hidden (by
     unfold eqB
     rw [Bool.and_eq_true, decide_eq_true_eq, List.all_eq_true]
     exact ⟨HLE.out, fun k hk => hZ.out k (by have := List.mem_range.1 hk; rw [HNN.out] at this; exact this)⟩)
    clear hZ
    go_wp2_with fail
    refine bodyPost_ret (v := .bool true) (by simp [results, Tryd.results8, go_sem]) rfl ⟨by rw [fz.out], hR.out⟩
 ·have fz : Hid (eqB X Y = false) := hidden (by unfold eqB; rw [decide_eq_false hl]; rfl)
  have lq : ¬ (X.length : Int) = (Y.length : Int) := by omega
  clear hA hB hn hl
  generalize X.length = n at *
  generalize Y.length = m at *
  go_enter Tryd.func8, Tryd.ntmps8
  go_wp2_with fail
  refine bodyPost_ret (v := .bool false) (by simp [results, Tryd.results8, go_sem]) rfl ⟨by rw [fz.out], Below.refl _ _⟩
end Ci
end Go.Proofs.YtaendjjelpmokaaDoor
