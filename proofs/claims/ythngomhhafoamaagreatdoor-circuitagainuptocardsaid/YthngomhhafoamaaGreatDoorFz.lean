import Derived.Test.YthngomhhafoamaaGreatDoorEy
set_option maxRecDepth 100000
set_option maxHeartbeats 16000000
set_option linter.unusedVariables false
set_option linter.unusedSimpArgs false
namespace Go.Proofs.YthngomhhafoamaaGreatDoor
open Go.RowKit
open Cm (Wr Tm co bf Ls lf ins Eqm)
namespace Ci
def pFz10 : String := "slices.go:25"
def se6o_0 : Oper := oO 16 (Op.move (Operand.tmp 0)) 24 pFz10 #[]
def se6o_1 : Oper := oO 17 (Op.move (Operand.tmp 5)) 3 pFz10 #[]
def se6o_2 : Oper := oO 18 (Op.indexAddr 24 (Operand.tmp 16) (Operand.tmp 17)) 0 pFz10 #[DD 0, DD 1]
def se6o_3 : Oper := oO 19 (Op.load 77 (Operand.tmp 18)) 77 pFz10 #[DD 2]
def se6o_4 : Oper := oO 20 (Op.move (Operand.tmp 1)) 24 pFz10 #[]
def se6o_5 : Oper := oO 21 (Op.move (Operand.tmp 5)) 3 pFz10 #[]
def se6o_6 : Oper := oO 22 (Op.indexAddr 24 (Operand.tmp 20) (Operand.tmp 21)) 0 pFz10 #[DD 4, DD 5]
def se6o_7 : Oper := oO 23 (Op.load 77 (Operand.tmp 22)) 77 pFz10 #[DD 6]
def se6o_8 : Oper := oO 24 (Op.binOp BinOp.neq 77 (Operand.tmp 19) (Operand.tmp 23) 77) 4 pFz10 #[DD 3, DD 7]
def se6o : Array Oper := #[se6o_0, se6o_1, se6o_2, se6o_3, se6o_4, se6o_5, se6o_6, se6o_7, se6o_8]
theorem se6 (Q : Exit → Act → World → Prop) (sa oa ca sb ob cb n i : Nat) (s t : Trm) (B b9 : Bool) (u2 u3 u4 u6 u7 u8 u9 aa ab ad ae af ag ah ai aj ak al am an ao ap aq : Value) (W : World)
  (i0 : (0 : Int) ≤ (i : Int)) (i1 : (i : Int) < (n : Int)) (a0 : W.cell? ⟨sa, oa + i * 6, none⟩ = some (.int .i64 s.q.1)) (a1 : W.cell? ⟨sa, oa + i * 6 + 1, none⟩ = some (.int .i64 s.q.2)) (a2 : W.cell? ⟨sa, oa + i * 6 + 2, none⟩ = some (.int .u64 s.a.x0)) (a3 : W.cell? ⟨sa, oa + i * 6 + 3, none⟩ = some (.int .u64 s.a.x1)) (a4 : W.cell? ⟨sa, oa + i * 6 + 4, none⟩ = some (.int .u64 s.a.x2)) (a5 : W.cell? ⟨sa, oa + i * 6 + 5, none⟩ = some (.int .u64 s.a.x3)) (b0 : W.cell? ⟨sb, ob + i * 6, none⟩ = some (.int .i64 t.q.1)) (b1 : W.cell? ⟨sb, ob + i * 6 + 1, none⟩ = some (.int .i64 t.q.2)) (b2 : W.cell? ⟨sb, ob + i * 6 + 2, none⟩ = some (.int .u64 t.a.x0)) (b3 : W.cell? ⟨sb, ob + i * 6 + 3, none⟩ = some (.int .u64 t.a.x1)) (b4 : W.cell? ⟨sb, ob + i * 6 + 4, none⟩ = some (.int .u64 t.a.x2)) (b5 : W.cell? ⟨sb, ob + i * 6 + 5, none⟩ = some (.int .u64 t.a.x3))
  (hBB : B = (decide (s.q.1 = t.q.1) && (decide (s.q.2 = t.q.2) && b9)))
  (NQ : Hid (∀ y, (Op.equalIn 9999 35 (.agg #[.int .u64 s.a.x0, .int .u64 s.a.x1, .int .u64 s.a.x2, .int .u64 s.a.x3]) (.agg #[.int .u64 t.a.x0, .int .u64 t.a.x1, .int .u64 t.a.x2, .int .u64 t.a.x3])).run Tryz.prog y = .ok b9 y))
  (HQ : Hid (∀ (wz : World), Below W.heap.size W wz → Q .normal ⟨#[.slice (some ⟨sa, oa, none⟩) n ca, .slice (some ⟨sb, ob, none⟩) n cb, u2, u3, u4, .int .i64 (i : Int), u6, u7, u8, u9, aa, ab, ad, ae, af, ag, .slice (some ⟨sa, oa, none⟩) n ca, .int .i64 (i : Int), .pointer (some ⟨sa, oa + i * 6, none⟩), .agg #[.int .i64 s.q.1, .int .i64 s.q.2, .int .u64 s.a.x0, .int .u64 s.a.x1, .int .u64 s.a.x2, .int .u64 s.a.x3], .slice (some ⟨sb, ob, none⟩) n cb, .int .i64 (i : Int), .pointer (some ⟨sb, ob + i * 6, none⟩), .agg #[.int .i64 t.q.1, .int .i64 t.q.2, .int .u64 t.a.x0, .int .u64 t.a.x1, .int .u64 t.a.x2, .int .u64 t.a.x3], .bool (!B), aq], []⟩ wz)) : (Code.region 6 se6o true).wp Tryz.prog Q ⟨#[.slice (some ⟨sa, oa, none⟩) n ca, .slice (some ⟨sb, ob, none⟩) n cb, u2, u3, u4, .int .i64 (i : Int), u6, u7, u8, u9, aa, ab, ad, ae, af, ag, ah, ai, aj, ak, al, am, an, ao, ap, aq], []⟩ W := by
 unfold se6o
 refine wp_region_noPanic ?_
 refine wp_region_held_drew (S := fun x => Below W.heap.size W x) (by kernel_rfl) (bl_drew W) (fun hH0 => ?_)
 refine tj 0 se6o_0 (.slice (some ⟨sa, oa, none⟩) n ca) hH0 (fun w0 hSw => ?_) ?_
 ·(unfold se6o_0 oO; clear hSw; go_simp)
 simp only [se6o_0, oO, Act.put, sA, sB, sC]
 refine tj 1 se6o_1 (.int .i64 (i : Int)) hH0 (fun w0 hSw => ?_) ?_
 ·(unfold se6o_1 oO; clear hSw; go_simp)
 simp only [se6o_1, oO, Act.put, sA, sB, sC]
 refine tj 4 se6o_4 (.slice (some ⟨sb, ob, none⟩) n cb) hH0 (fun w0 hSw => ?_) ?_
 ·(unfold se6o_4 oO; clear hSw; go_simp)
 simp only [se6o_4, oO, Act.put, sA, sB, sC]
 refine tj 5 se6o_5 (.int .i64 (i : Int)) hH0 (fun w0 hSw => ?_) ?_
 ·(unfold se6o_5 oO; clear hSw; go_simp)
 simp only [se6o_5, oO, Act.put, sA, sB, sC]
 refine tj 2 se6o_2 (.pointer (some ⟨sa, oa + i * 6, none⟩)) hH0 (fun w0 hSw => ?_) ?_
 ·(unfold se6o_2 oO; clear hSw; go_simp)
 simp only [se6o_2, oO, Act.put, sA, sB, sC]
 refine tj 6 se6o_6 (.pointer (some ⟨sb, ob + i * 6, none⟩)) hH0 (fun w0 hSw => ?_) ?_
 ·(unfold se6o_6 oO; clear hSw; go_simp)
 simp only [se6o_6, oO, Act.put, sA, sB, sC]
 refine tj 3 se6o_3 (.agg #[.int .i64 s.q.1, .int .i64 s.q.2, .int .u64 s.a.x0, .int .u64 s.a.x1, .int .u64 s.a.x2, .int .u64 s.a.x3]) hH0 (fun w0 hSw => ?_) ?_
 ·(unfold se6o_3 oO; have hS : Below W.heap.size W w0 := hSw; have a0 := cell_keep a0 hS; have a1 := cell_keep a1 hS; have a2 := cell_keep a2 hS; have a3 := cell_keep a3 hS; have a4 := cell_keep a4 hS; have a5 := cell_keep a5 hS; clear hS hSw; go_simp)
 simp only [se6o_3, oO, Act.put, sA, sB, sC]
 refine tj 7 se6o_7 (.agg #[.int .i64 t.q.1, .int .i64 t.q.2, .int .u64 t.a.x0, .int .u64 t.a.x1, .int .u64 t.a.x2, .int .u64 t.a.x3]) hH0 (fun w0 hSw => ?_) ?_
 ·(unfold se6o_7 oO; have hS : Below W.heap.size W w0 := hSw; have a0 := cell_keep b0 hS; have a1 := cell_keep b1 hS; have a2 := cell_keep b2 hS; have a3 := cell_keep b3 hS; have a4 := cell_keep b4 hS; have a5 := cell_keep b5 hS; clear hS hSw; go_simp)
 simp only [se6o_7, oO, Act.put, sA, sB, sC]
 refine tj 8 se6o_8 (.bool (!B)) hH0 (fun w0 hSw => ?_) ?_
 ·(unfold se6o_8 oO; clear hSw; have e0 := NQ.out w0; clear NQ HQ hH0 a0 a1 a2 a3 a4 a5 b0 b1 b2 b3 b4 b5; subst hBB; by_cases g1 : s.q.1 = t.q.1 <;> by_cases g2 : s.q.2 = t.q.2 <;> cases b9 <;> go_simp)
 simp only [se6o_8, oO, Act.put, sA, sB, sC]
 have HH := Hn hH0
 have FQ := Hn (HQ.out _ HH.out)
 refine wpAnyH_done (by kernel_rfl) ?_ _
 refine NoPanic.normal ?_
 exact FQ.out
theorem sEqual_any (P Q : Option Addr) (ca cb : Nat) (X Y : List Tm) (w : World) (hn : X.length ≤ 2932031007402) (hA : Lt w P X.length (ft X)) (hB : Lt w Q Y.length (ft Y)) :
  Calls Tryz.prog 78 #[.slice P X.length ca, .slice Q Y.length cb] w fun e w' => e = .returned (.bool (eqB X Y)) ∧ Below w.heap.size w w' := by
 by_cases hl : X.length = Y.length
 ·have HA := Hn hA
  have HBq : Hid (Lt w Q X.length (ft Y)) := Hn (by rw [hl]; exact hB)
  have HS := Hn hn
  have R0 := Hn (Below.refl w.heap.size w)
  have HLE := Hn hl
  rw [← hl]
  obtain ⟨n, hnn⟩ : ∃ n, X.length = n := ⟨_, rfl⟩
  have HNN := Hn hnn
  rw [hnn] at HA HBq HS ⊢
  clear hA hB hn hl hnn
  go_enter Tryz.func78, Tryz.ntmps78
  go_upto_region 4 with fail
  go_loopw [13] (fun iv w' => ∃ i : Nat, i ≤ n ∧ iv = .int .i64 (i : Int) ∧ Hid (∀ k, k < i → (decide ((ft X k).q = (ft Y k).q) && (ft X k).a.same (ft Y k).a) = true) ∧ Hid (Below w.heap.size w w')) (fun i _ => n - (intOf i).toNat)
  case atStart => exact ⟨0, by omega, rfl, Hn (fun k hk => by omega), R0⟩
  case round =>
   clear R0
   obtain ⟨i, hi, rfl, hZ, hR⟩ := hrel
   by_cases hin : i < n
   ·have i1 : (i : Int) < (n : Int) := by omega
    have i0 : (0 : Int) ≤ (i : Int) := by omega
    have w9 : IntKind.i64.wrap ((i : Int) + 1) = (i : Int) + 1 := IntWalk.i64_in _ (by have := HS.out; omega)
    obtain ⟨sa, oa, hPs, hRt⟩ := HA.out
    obtain rfl := hPs (by omega)
    have rt := (hRt (by omega)).keep hR.out
    have a0 := rt.c0 i hin
    have a1 := rt.c1 i hin
    have a2 := rt.c2 i hin
    have a3 := rt.c3 i hin
    have a4 := rt.c4 i hin
    have a5 := rt.c5 i hin
    clear rt hRt hPs
    obtain ⟨sb, ob, hPs, hRt⟩ := HBq.out
    obtain rfl := hPs (by omega)
    have rt := (hRt (by omega)).keep hR.out
    have b0 := rt.c0 i hin
    have b1 := rt.c1 i hin
    have b2 := rt.c2 i hin
    have b3 := rt.c3 i hin
    have b4 := rt.c4 i hin
    have b5 := rt.c5 i hin
    clear rt hRt hPs
    have KY : Hid ((decide ((ft X i).q = (ft Y i).q) && (ft X i).a.same (ft Y i).a) = true → ∀ k, k < i + 1 → (decide ((ft X k).q = (ft Y k).q) && (ft X k).a.same (ft Y k).a) = true) := Hn (fun h k hk => by
     rcases Nat.lt_or_ge k i with h1 | h1
     ·exact hZ.out k h1
     ·obtain rfl : k = i := by omega
      exact h)
    have NK : Hid ((decide ((ft X i).q = (ft Y i).q) && (ft X i).a.same (ft Y i).a) = false → eqB X Y = false) := Hn (fun h => by
     unfold eqB
     rw [Bool.and_eq_false_iff]
     right
     rw [List.all_eq_false]
     exact ⟨i, List.mem_range.2 (by rw [HNN.out]; exact hin), by rw [h]; decide⟩)
    clear hZ
    have NQ := fun y => eq4n (ft X i).a (ft Y i).a y
    simp only [E4.v] at NQ
    have hBB : (decide ((ft X i).q = (ft Y i).q) && (ft X i).a.same (ft Y i).a) = (decide ((ft X i).q.1 = (ft Y i).q.1) && (decide ((ft X i).q.2 = (ft Y i).q.2) && (ft X i).a.same (ft Y i).a)) := by
     rw [← Bool.and_assoc]
     congr 1
     rw [← Bool.decide_and]
     exact decide_eq_decide.2 Prod.ext_iff
    obtain ⟨Bz, hBz⟩ : ∃ Bz, (decide ((ft X i).q = (ft Y i).q) && (ft X i).a.same (ft Y i).a) = Bz := ⟨_, rfl⟩
    rw [hBz] at KY NK hBB
    clear hBz
    obtain ⟨b9, hb9⟩ : ∃ b9, (ft X i).a.same (ft Y i).a = b9 := ⟨_, rfl⟩
    rw [hb9] at NQ hBB
    clear hb9
    generalize ft X i = tx at *
    generalize ft Y i = ty at *
    replace NQ := Hn NQ
    go_upto_region 6 with fail
    refine se6 _ sa oa ca sb ob cb n i tx ty Bz b9 _ _ _ _ _ _ _ _ _ _ _ _ _ _ _ _ _ _ _ _ _ _ _ wr i0 i1 a0 a1 a2 a3 a4 a5 b0 b1 b2 b3 b4 b5 hBB NQ (Hn ?_)
    intro w2 hb2
    have PN := Hn (bl_trans hR.out hb2)
    clear hb2 hR NQ hBB a0 a1 a2 a3 a4 a5 b0 b1 b2 b3 b4 b5
    cases Bz with
    | true =>
     have KZ := Hn (KY.out rfl)
     clear KY NK
     go_wp2_with fail
     go_roundw
     case rel => exact ⟨i + 1, by omega, by go_num, KZ, PN⟩
     case measure => simp [intOf]; omega
    | false =>
     have fz := Hn (NK.out rfl)
     clear KY NK
     go_wp2_with fail
     refine bodyPost_ret (v := .bool false) (by simp [results, Tryz.results78, go_sem]) rfl ⟨by rw [fz.out], PN.out⟩
   ·obtain rfl : i = n := by omega
    have lq : ¬ (i : Int) < (i : Int) := by omega
    have fz : Hid (eqB X Y = true) := Hn (by
     unfold eqB
     rw [Bool.and_eq_true, decide_eq_true_eq, List.all_eq_true]
     exact ⟨HLE.out, fun k hk => hZ.out k (by have := List.mem_range.1 hk; rw [HNN.out] at this; exact this)⟩)
    clear hZ
    go_wp2_with fail
    refine bodyPost_ret (v := .bool true) (by simp [results, Tryz.results78, go_sem]) rfl ⟨by rw [fz.out], hR.out⟩
 ·have fz : Hid (eqB X Y = false) := Hn (by unfold eqB; rw [decide_eq_false hl]; rfl)
  have lq : ¬ (X.length : Int) = (Y.length : Int) := by omega
  clear hA hB hn hl
  generalize X.length = n at *
  generalize Y.length = m at *
  go_enter Tryz.func78, Tryz.ntmps78
  go_wp2_with fail
  refine bodyPost_ret (v := .bool false) (by simp [results, Tryz.results78, go_sem]) rfl ⟨by rw [fz.out], Below.refl _ _⟩
end Ci
end Go.Proofs.YthngomhhafoamaaGreatDoor
namespace Go.Proofs.YthngomhhafoamaaGreatDoor
open Go.RowKit
open Cm (Wr Tm co bf Ls lf ins Eqm)
namespace Ci
def pFz20 : String := "bytes.go:72"
def il4ao_0 : Oper := oO 12 (Op.fieldAddr 77 (Operand.tmp 4) 1) 0 pFz20 #[]
def il4ao_1 : Oper := oO 13 (Op.load 35 (Operand.tmp 12)) 35 pFz20 #[DD 0]
def il4ao_2 : Oper := oO 14 (Op.build 35 #[]) 35 pFz20 #[]
def il4ao_3 : Oper := oO 15 (Op.binOp BinOp.eql 35 (Operand.tmp 13) (Operand.tmp 14) 35) 4 pFz20 #[DD 1, DD 2]
def il4ao_4 : Oper := oO 16 (Op.move (Operand.tmp 15)) 4 pFz20 #[DD 3]
def il4ao_5 : Oper := { dst := some 17, op := Op.move (Operand.tmp 3), type := 3, pos := "bytes.go:72", after := #[GU 4], guard := some (4, false) }
def il4ao_6 : Oper := { dst := some 18, op := Op.binOp BinOp.gtr 3 (Operand.tmp 17) (Operand.const (Value.int IntKind.i64 0)) 3, type := 4, pos := "bytes.go:72", after := #[DD 5, GU 4], guard := some (4, false) }
def il4ao_7 : Oper := { dst := some 19, op := Op.move (Operand.tmp 18), type := 4, pos := "bytes.go:72", after := #[DD 6, CH 4, GU 4], guard := some (4, false) }
def il4ao_8 : Oper := { dst := some 20, op := Op.move (Operand.tmp 0), type := 24, pos := "bytes.go:72", after := #[GU 7], guard := some (7, true) }
def il4ao_9 : Oper := { dst := some 21, op := Op.move (Operand.tmp 3), type := 3, pos := "bytes.go:72", after := #[GU 7], guard := some (7, true) }
def il4ao_10 : Oper := { dst := some 22, op := Op.binOp BinOp.sub 3 (Operand.tmp 21) (Operand.const (Value.int IntKind.i64 1)) 3, type := 3, pos := "bytes.go:72", after := #[DD 9, GU 7], guard := some (7, true) }
def il4ao_11 : Oper := { dst := some 23, op := Op.indexAddr 24 (Operand.tmp 20) (Operand.tmp 22), type := 0, pos := "bytes.go:72", after := #[DD 8, DD 10, GU 7], guard := some (7, true) }
def il4ao_12 : Oper := { dst := some 24, op := Op.fieldAddr 77 (Operand.tmp 23) 0, type := 0, pos := "bytes.go:72", after := #[DD 11, GU 7], guard := some (7, true) }
def il4ao_13 : Oper := { dst := some 25, op := Op.load 40 (Operand.tmp 24), type := 40, pos := "bytes.go:72", after := #[DD 12, GU 7], guard := some (7, true) }
def il4ao_14 : Oper := { dst := some 26, op := Op.fieldAddr 77 (Operand.tmp 4) 0, type := 0, pos := "bytes.go:72", after := #[GU 7], guard := some (7, true) }
def il4ao_15 : Oper := { dst := some 27, op := Op.load 40 (Operand.tmp 26), type := 40, pos := "bytes.go:72", after := #[DD 14, GU 7], guard := some (7, true) }
def il4ao_16 : Oper := { dst := some 28, op := Op.call { callee := Callee.value (Operand.func 84), args := #[Operand.tmp 25, Operand.tmp 27], argTypes := #[40, 40] }, type := 3, pos := "bytes.go:72", after := #[DD 13, DD 15, CH 7, GU 7], guard := some (7, true) }
def il4ao_17 : Oper := { dst := some 29, op := Op.binOp BinOp.geq 3 (Operand.tmp 28) (Operand.const (Value.int IntKind.i64 0)) 3, type := 4, pos := "bytes.go:72", after := #[DD 16, GU 7], guard := some (7, true) }
def il4ao_18 : Oper := { dst := some 30, op := Op.pick (Operand.tmp 19) (Operand.tmp 29) (Operand.const (Value.bool false)), type := 4, pos := "bytes.go:72", after := #[DD 7, DD 17, GU 4], guard := some (4, false) }
def il4ao_19 : Oper := oO 31 (Op.pick (Operand.tmp 16) (Operand.const (Value.bool true)) (Operand.tmp 30)) 4 pFz20 #[DD 4, DD 18]
def il4ao : Array Oper := #[il4ao_0, il4ao_1, il4ao_2, il4ao_3, il4ao_4, il4ao_5, il4ao_6, il4ao_7, il4ao_8, il4ao_9, il4ao_10, il4ao_11, il4ao_12, il4ao_13, il4ao_14, il4ao_15, il4ao_16, il4ao_17, il4ao_18, il4ao_19]
theorem il4a (Q : Exit → Act → World → Prop) (B : Nat) (p : E4) (u0 u1 u2 u3 u5 u6 u7 u8 u9 aa ab ad ae af ag ah aj al am ao ap aq au av aw ax ay az aA aB aC aD : Value) (W : World)
  (a0 : W.cell? ⟨B, 2, none⟩ = some (.int .u64 p.x0)) (a1 : W.cell? ⟨B, 3, none⟩ = some (.int .u64 p.x1)) (a2 : W.cell? ⟨B, 4, none⟩ = some (.int .u64 p.x2)) (a3 : W.cell? ⟨B, 5, none⟩ = some (.int .u64 p.x3)) (NQ : Hid (∀ y, (Op.equalIn 10000 35 (.agg #[.int .u64 p.x0, .int .u64 p.x1, .int .u64 p.x2, .int .u64 p.x3]) (.agg #[.int .u64 0, .int .u64 0, .int .u64 0, .int .u64 0])).run Tryz.prog y = .ok true y))
  (HQ : Hid (∀ (wz : World), Below W.heap.size W wz → Q .normal ⟨#[u0, u1, u2, u3, .pointer (some ⟨B, 0, none⟩), u5, u6, u7, u8, u9, aa, ab, .pointer (some ⟨B, 2, none⟩), .agg #[.int .u64 p.x0, .int .u64 p.x1, .int .u64 p.x2, .int .u64 p.x3], .agg #[.int .u64 0, .int .u64 0, .int .u64 0, .int .u64 0], .bool true, .bool true, undef, undef, undef, undef, undef, undef, undef, undef, undef, undef, undef, undef, undef, undef, .bool true, aD], []⟩ wz)) : (Code.region 4 il4ao true).wp Tryz.prog Q ⟨#[u0, u1, u2, u3, .pointer (some ⟨B, 0, none⟩), u5, u6, u7, u8, u9, aa, ab, ad, ae, af, ag, ah, aj, al, am, ao, ap, aq, au, av, aw, ax, ay, az, aA, aB, aC, aD], []⟩ W := by
 unfold il4ao
 refine wp_region_noPanic ?_
 refine wp_region_held_drew (S := fun x => Below W.heap.size W x) (by kernel_rfl) (bl_drew W) (fun hH0 => ?_)
 refine tj 0 il4ao_0 (.pointer (some ⟨B, 2, none⟩)) hH0 (fun w0 hSw => ?_) ?_
 ·(unfold il4ao_0 oO; clear hSw; go_simp)
 simp only [il4ao_0, oO, Act.put, sA, sB, sC]
 refine tj 2 il4ao_2 (.agg #[.int .u64 0, .int .u64 0, .int .u64 0, .int .u64 0]) hH0 (fun w0 hSw => ?_) ?_
 ·(unfold il4ao_2 oO; clear hSw; go_simp)
 simp only [il4ao_2, oO, Act.put, sA, sB, sC]
 refine tj 1 il4ao_1 (.agg #[.int .u64 p.x0, .int .u64 p.x1, .int .u64 p.x2, .int .u64 p.x3]) hH0 (fun w0 hSw => ?_) ?_
 ·(unfold il4ao_1 oO; have hS : Below W.heap.size W w0 := hSw; have a0 := cell_keep a0 hS; have a1 := cell_keep a1 hS; have a2 := cell_keep a2 hS; have a3 := cell_keep a3 hS; clear hS hSw; go_simp)
 simp only [il4ao_1, oO, Act.put, sA, sB, sC]
 refine tj 3 il4ao_3 (.bool true) hH0 (fun w0 hSw => ?_) ?_
 ·(unfold il4ao_3 oO; clear hSw; have nq := NQ.out w0; go_simp)
 simp only [il4ao_3, oO, Act.put, sA, sB, sC]
 refine tj 4 il4ao_4 (.bool true) hH0 (fun w0 hSw => ?_) ?_
 ·(unfold il4ao_4 oO; clear hSw; go_simp)
 simp only [il4ao_4, oO, Act.put, sA, sB, sC]
 refine wpAnyH_take (i := 5) (oi := il4ao_5) (v := undef) rfl (by kernel_rfl) (by kernel_rfl) (by kernel_rfl) (fun _ _ _ h => h) (Or.inr ⟨by rfl, rfl⟩) hH0 ?_
 simp only [il4ao_5, Act.put, sA, sB, sC]
 refine wpAnyH_take (i := 6) (oi := il4ao_6) (v := undef) rfl (by kernel_rfl) (by kernel_rfl) (by kernel_rfl) (fun _ _ _ h => h) (Or.inr ⟨by rfl, rfl⟩) hH0 ?_
 simp only [il4ao_6, Act.put, sA, sB, sC]
 refine wpAnyH_take (i := 7) (oi := il4ao_7) (v := undef) rfl (by kernel_rfl) (by kernel_rfl) (by kernel_rfl) (fun _ _ _ h => h) (Or.inr ⟨by rfl, rfl⟩) hH0 ?_
 simp only [il4ao_7, Act.put, sA, sB, sC]
 refine wpAnyH_take (i := 8) (oi := il4ao_8) (v := undef) rfl (by kernel_rfl) (by kernel_rfl) (by kernel_rfl) (fun _ _ _ h => h) (Or.inr ⟨by rfl, rfl⟩) hH0 ?_
 simp only [il4ao_8, Act.put, sA, sB, sC]
 refine wpAnyH_take (i := 9) (oi := il4ao_9) (v := undef) rfl (by kernel_rfl) (by kernel_rfl) (by kernel_rfl) (fun _ _ _ h => h) (Or.inr ⟨by rfl, rfl⟩) hH0 ?_
 simp only [il4ao_9, Act.put, sA, sB, sC]
 refine wpAnyH_take (i := 14) (oi := il4ao_14) (v := undef) rfl (by kernel_rfl) (by kernel_rfl) (by kernel_rfl) (fun _ _ _ h => h) (Or.inr ⟨by rfl, rfl⟩) hH0 ?_
 simp only [il4ao_14, Act.put, sA, sB, sC]
 refine wpAnyH_take (i := 10) (oi := il4ao_10) (v := undef) rfl (by kernel_rfl) (by kernel_rfl) (by kernel_rfl) (fun _ _ _ h => h) (Or.inr ⟨by rfl, rfl⟩) hH0 ?_
 simp only [il4ao_10, Act.put, sA, sB, sC]
 refine wpAnyH_take (i := 15) (oi := il4ao_15) (v := undef) rfl (by kernel_rfl) (by kernel_rfl) (by kernel_rfl) (fun _ _ _ h => h) (Or.inr ⟨by rfl, rfl⟩) hH0 ?_
 simp only [il4ao_15, Act.put, sA, sB, sC]
 refine wpAnyH_take (i := 11) (oi := il4ao_11) (v := undef) rfl (by kernel_rfl) (by kernel_rfl) (by kernel_rfl) (fun _ _ _ h => h) (Or.inr ⟨by rfl, rfl⟩) hH0 ?_
 simp only [il4ao_11, Act.put, sA, sB, sC]
 refine wpAnyH_take (i := 12) (oi := il4ao_12) (v := undef) rfl (by kernel_rfl) (by kernel_rfl) (by kernel_rfl) (fun _ _ _ h => h) (Or.inr ⟨by rfl, rfl⟩) hH0 ?_
 simp only [il4ao_12, Act.put, sA, sB, sC]
 refine wpAnyH_take (i := 13) (oi := il4ao_13) (v := undef) rfl (by kernel_rfl) (by kernel_rfl) (by kernel_rfl) (fun _ _ _ h => h) (Or.inr ⟨by rfl, rfl⟩) hH0 ?_
 simp only [il4ao_13, Act.put, sA, sB, sC]
 refine ar [16] ?_
 refine ac il4ao_16 (fun K hK => ?_) AllReadyH.nil
 unfold il4ao_16
 refine Eq.mpr (if_neg (by exact fun h => Bool.false_ne_true h)) ?_
 refine hK.out _ _ hH0 (fun hzz => ?_)
 clear hK K hzz
 simp only [Act.put, sA, sB, sC]
 refine wpAnyH_take (i := 17) (oi := il4ao_17) (v := undef) rfl (by kernel_rfl) (by kernel_rfl) (by kernel_rfl) (fun _ _ _ h => h) (Or.inr ⟨by rfl, rfl⟩) hH0 ?_
 simp only [il4ao_17, Act.put, sA, sB, sC]
 refine wpAnyH_take (i := 18) (oi := il4ao_18) (v := undef) rfl (by kernel_rfl) (by kernel_rfl) (by kernel_rfl) (fun _ _ _ h => h) (Or.inr ⟨by rfl, rfl⟩) hH0 ?_
 simp only [il4ao_18, Act.put, sA, sB, sC]
 refine tj 19 il4ao_19 (.bool true) hH0 (fun w0 hSw => ?_) ?_
 ·(unfold il4ao_19 oO; clear hSw; go_simp)
 simp only [il4ao_19, oO, Act.put, sA, sB, sC]
 have HH := Hn hH0
 have FQ := Hn (HQ.out _ HH.out)
 refine wpAnyH_done (by kernel_rfl) ?_ _
 refine NoPanic.normal ?_
 exact FQ.out
def il4bo : Array Oper := #[il4ao_0,
 il4ao_1,
 il4ao_2,
 il4ao_3,
 il4ao_4,
 il4ao_5,
 il4ao_6,
 il4ao_7,
 il4ao_8,
 il4ao_9,
 il4ao_10,
 il4ao_11,
 il4ao_12,
 il4ao_13,
 il4ao_14,
 il4ao_15,
 il4ao_16,
 il4ao_17,
 il4ao_18,
 il4ao_19]
theorem il4b (Q : Exit → Act → World → Prop) (B i : Nat) (p : E4) (u0 u1 u2 u5 u6 u7 u8 u9 aa ab ad ae af ag ah aj al am ao ap aq au av aw ax ay az aA aB aC aD : Value) (W : World)
  (a0 : W.cell? ⟨B, 2, none⟩ = some (.int .u64 p.x0)) (a1 : W.cell? ⟨B, 3, none⟩ = some (.int .u64 p.x1)) (a2 : W.cell? ⟨B, 4, none⟩ = some (.int .u64 p.x2)) (a3 : W.cell? ⟨B, 5, none⟩ = some (.int .u64 p.x3)) (NQ : Hid (∀ y, (Op.equalIn 10000 35 (.agg #[.int .u64 p.x0, .int .u64 p.x1, .int .u64 p.x2, .int .u64 p.x3]) (.agg #[.int .u64 0, .int .u64 0, .int .u64 0, .int .u64 0])).run Tryz.prog y = .ok false y)) (i0 : ¬ (0 : Int) < (i : Int))
  (HQ : Hid (∀ (wz : World), Below W.heap.size W wz → Q .normal ⟨#[u0, u1, u2, .int .i64 (i : Int), .pointer (some ⟨B, 0, none⟩), u5, u6, u7, u8, u9, aa, ab, .pointer (some ⟨B, 2, none⟩), .agg #[.int .u64 p.x0, .int .u64 p.x1, .int .u64 p.x2, .int .u64 p.x3], .agg #[.int .u64 0, .int .u64 0, .int .u64 0, .int .u64 0], .bool false, .bool false, .int .i64 (i : Int), .bool false, .bool false, undef, undef, undef, undef, undef, undef, undef, undef, undef, undef, .bool false, .bool false, aD], []⟩ wz)) : (Code.region 4 il4bo true).wp Tryz.prog Q ⟨#[u0, u1, u2, .int .i64 (i : Int), .pointer (some ⟨B, 0, none⟩), u5, u6, u7, u8, u9, aa, ab, ad, ae, af, ag, ah, aj, al, am, ao, ap, aq, au, av, aw, ax, ay, az, aA, aB, aC, aD], []⟩ W := by
 unfold il4bo
 refine wp_region_noPanic ?_
 refine wp_region_held_drew (S := fun x => Below W.heap.size W x) (by kernel_rfl) (bl_drew W) (fun hH0 => ?_)
 refine tj 0 il4ao_0 (.pointer (some ⟨B, 2, none⟩)) hH0 (fun w0 hSw => ?_) ?_
 ·(unfold il4ao_0 oO; clear hSw; go_simp)
 simp only [il4ao_0, oO, Act.put, sA, sB, sC]
 refine tj 2 il4ao_2 (.agg #[.int .u64 0, .int .u64 0, .int .u64 0, .int .u64 0]) hH0 (fun w0 hSw => ?_) ?_
 ·(unfold il4ao_2 oO; clear hSw; go_simp)
 simp only [il4ao_2, oO, Act.put, sA, sB, sC]
 refine tj 1 il4ao_1 (.agg #[.int .u64 p.x0, .int .u64 p.x1, .int .u64 p.x2, .int .u64 p.x3]) hH0 (fun w0 hSw => ?_) ?_
 ·(unfold il4ao_1 oO; have hS : Below W.heap.size W w0 := hSw; have a0 := cell_keep a0 hS; have a1 := cell_keep a1 hS; have a2 := cell_keep a2 hS; have a3 := cell_keep a3 hS; clear hS hSw; go_simp)
 simp only [il4ao_1, oO, Act.put, sA, sB, sC]
 refine tj 3 il4ao_3 (.bool false) hH0 (fun w0 hSw => ?_) ?_
 ·(unfold il4ao_3 oO; clear hSw; have nq := NQ.out w0; go_simp)
 simp only [il4ao_3, oO, Act.put, sA, sB, sC]
 refine tj 4 il4ao_4 (.bool false) hH0 (fun w0 hSw => ?_) ?_
 ·(unfold il4ao_4 oO; clear hSw; go_simp)
 simp only [il4ao_4, oO, Act.put, sA, sB, sC]
 refine tj 5 il4ao_5 (.int .i64 (i : Int)) hH0 (fun w0 hSw => ?_) ?_
 ·(unfold il4ao_5; clear hSw; go_simp)
 simp only [il4ao_5, Act.put, sA, sB, sC]
 refine tj 6 il4ao_6 (.bool false) hH0 (fun w0 hSw => ?_) ?_
 ·(unfold il4ao_6; clear hSw; go_simp; try omega)
 simp only [il4ao_6, Act.put, sA, sB, sC]
 refine tj 7 il4ao_7 (.bool false) hH0 (fun w0 hSw => ?_) ?_
 ·(unfold il4ao_7; clear hSw; go_simp)
 simp only [il4ao_7, Act.put, sA, sB, sC]
 refine wpAnyH_take (i := 8) (oi := il4ao_8) (v := undef) rfl (by kernel_rfl) (by kernel_rfl) (by kernel_rfl) (fun _ _ _ h => h) (Or.inr ⟨by rfl, rfl⟩) hH0 ?_
 simp only [il4ao_8, Act.put, sA, sB, sC]
 refine wpAnyH_take (i := 9) (oi := il4ao_9) (v := undef) rfl (by kernel_rfl) (by kernel_rfl) (by kernel_rfl) (fun _ _ _ h => h) (Or.inr ⟨by rfl, rfl⟩) hH0 ?_
 simp only [il4ao_9, Act.put, sA, sB, sC]
 refine wpAnyH_take (i := 14) (oi := il4ao_14) (v := undef) rfl (by kernel_rfl) (by kernel_rfl) (by kernel_rfl) (fun _ _ _ h => h) (Or.inr ⟨by rfl, rfl⟩) hH0 ?_
 simp only [il4ao_14, Act.put, sA, sB, sC]
 refine wpAnyH_take (i := 10) (oi := il4ao_10) (v := undef) rfl (by kernel_rfl) (by kernel_rfl) (by kernel_rfl) (fun _ _ _ h => h) (Or.inr ⟨by rfl, rfl⟩) hH0 ?_
 simp only [il4ao_10, Act.put, sA, sB, sC]
 refine wpAnyH_take (i := 15) (oi := il4ao_15) (v := undef) rfl (by kernel_rfl) (by kernel_rfl) (by kernel_rfl) (fun _ _ _ h => h) (Or.inr ⟨by rfl, rfl⟩) hH0 ?_
 simp only [il4ao_15, Act.put, sA, sB, sC]
 refine wpAnyH_take (i := 11) (oi := il4ao_11) (v := undef) rfl (by kernel_rfl) (by kernel_rfl) (by kernel_rfl) (fun _ _ _ h => h) (Or.inr ⟨by rfl, rfl⟩) hH0 ?_
 simp only [il4ao_11, Act.put, sA, sB, sC]
 refine wpAnyH_take (i := 12) (oi := il4ao_12) (v := undef) rfl (by kernel_rfl) (by kernel_rfl) (by kernel_rfl) (fun _ _ _ h => h) (Or.inr ⟨by rfl, rfl⟩) hH0 ?_
 simp only [il4ao_12, Act.put, sA, sB, sC]
 refine wpAnyH_take (i := 13) (oi := il4ao_13) (v := undef) rfl (by kernel_rfl) (by kernel_rfl) (by kernel_rfl) (fun _ _ _ h => h) (Or.inr ⟨by rfl, rfl⟩) hH0 ?_
 simp only [il4ao_13, Act.put, sA, sB, sC]
 refine ar [16] ?_
 refine ac il4ao_16 (fun K hK => ?_) AllReadyH.nil
 unfold il4ao_16
 refine Eq.mpr (if_neg (by exact fun h => Bool.false_ne_true h)) ?_
 refine hK.out _ _ hH0 (fun hzz => ?_)
 clear hK K hzz
 simp only [Act.put, sA, sB, sC]
 refine wpAnyH_take (i := 17) (oi := il4ao_17) (v := undef) rfl (by kernel_rfl) (by kernel_rfl) (by kernel_rfl) (fun _ _ _ h => h) (Or.inr ⟨by rfl, rfl⟩) hH0 ?_
 simp only [il4ao_17, Act.put, sA, sB, sC]
 refine tj 18 il4ao_18 (.bool false) hH0 (fun w0 hSw => ?_) ?_
 ·(unfold il4ao_18; clear hSw; go_simp)
 simp only [il4ao_18, Act.put, sA, sB, sC]
 refine tj 19 il4ao_19 (.bool false) hH0 (fun w0 hSw => ?_) ?_
 ·(unfold il4ao_19 oO; clear hSw; go_simp)
 simp only [il4ao_19, oO, Act.put, sA, sB, sC]
 have HH := Hn hH0
 have FQ := Hn (HQ.out _ HH.out)
 refine wpAnyH_done (by kernel_rfl) ?_ _
 refine NoPanic.normal ?_
 exact FQ.out
def il4co : Array Oper := #[il4ao_0,
 il4ao_1,
 il4ao_2,
 il4ao_3,
 il4ao_4,
 il4ao_5,
 il4ao_6,
 il4ao_7,
 il4ao_8,
 il4ao_9,
 il4ao_10,
 il4ao_11,
 il4ao_12,
 il4ao_13,
 il4ao_14,
 il4ao_15,
 il4ao_16,
 il4ao_17,
 il4ao_18,
 il4ao_19]
theorem il4c (Q : Exit → Act → World → Prop) (B pb po n c i k : Nat) (p : E4) (ak ai bk bi cv : Int) (gv : Bool) (u1 u2 u5 u6 u7 u8 u9 aa ab ad ae af ag ah aj al am ao ap aq au av aw ax ay az aA aB aC aD : Value) (W : World)
  (a0 : W.cell? ⟨B, 2, none⟩ = some (.int .u64 p.x0)) (a1 : W.cell? ⟨B, 3, none⟩ = some (.int .u64 p.x1)) (a2 : W.cell? ⟨B, 4, none⟩ = some (.int .u64 p.x2)) (a3 : W.cell? ⟨B, 5, none⟩ = some (.int .u64 p.x3)) (NQ : Hid (∀ y, (Op.equalIn 10000 35 (.agg #[.int .u64 p.x0, .int .u64 p.x1, .int .u64 p.x2, .int .u64 p.x3]) (.agg #[.int .u64 0, .int .u64 0, .int .u64 0, .int .u64 0])).run Tryz.prog y = .ok false y))
  (i0 : (0 : Int) < (i : Int)) (w8 : IntKind.i64.wrap ((i : Int) - 1) = (k : Int)) (k0 : (0 : Int) ≤ (k : Int)) (k1 : (k : Int) < (n : Int)) (q0 : W.cell? ⟨pb, po + k * 6, none⟩ = some (.int .i64 ak)) (q1 : W.cell? ⟨pb, po + k * 6 + 1, none⟩ = some (.int .i64 ai)) (r0 : W.cell? ⟨B, 0, none⟩ = some (.int .i64 bk)) (r1 : W.cell? ⟨B, 1, none⟩ = some (.int .i64 bi)) (GV : Hid (decide (cv ≥ 0) = gv))
  (C1 : Hid (∀ y, Calls Tryz.prog 84 #[.agg #[.int .i64 ak, .int .i64 ai], .agg #[.int .i64 bk, .int .i64 bi]] y fun e w' => e = .returned (.int .i64 cv) ∧ Below y.heap.size y w'))
  (HQ : Hid (∀ (wz : World), Below W.heap.size W wz → Q .normal ⟨#[.slice (some ⟨pb, po, none⟩) n c, u1, u2, .int .i64 (i : Int), .pointer (some ⟨B, 0, none⟩), u5, u6, u7, u8, u9, aa, ab, .pointer (some ⟨B, 2, none⟩), .agg #[.int .u64 p.x0, .int .u64 p.x1, .int .u64 p.x2, .int .u64 p.x3], .agg #[.int .u64 0, .int .u64 0, .int .u64 0, .int .u64 0], .bool false, .bool false, .int .i64 (i : Int), .bool true, .bool true, .slice (some ⟨pb, po, none⟩) n c, .int .i64 (i : Int), .int .i64 (k : Int), .pointer (some ⟨pb, po + k * 6, none⟩), .pointer (some ⟨pb, po + k * 6, none⟩), .agg #[.int .i64 ak, .int .i64 ai], .pointer (some ⟨B, 0, none⟩), .agg #[.int .i64 bk, .int .i64 bi], .int .i64 cv, .bool gv, .bool gv, .bool gv, aD], []⟩ wz)) : (Code.region 4 il4co true).wp Tryz.prog Q ⟨#[.slice (some ⟨pb, po, none⟩) n c, u1, u2, .int .i64 (i : Int), .pointer (some ⟨B, 0, none⟩), u5, u6, u7, u8, u9, aa, ab, ad, ae, af, ag, ah, aj, al, am, ao, ap, aq, au, av, aw, ax, ay, az, aA, aB, aC, aD], []⟩ W := by
 unfold il4co
 refine wp_region_noPanic ?_
 refine wp_region_held_drew (S := fun x => Below W.heap.size W x) (by kernel_rfl) (bl_drew W) (fun hH0 => ?_)
 refine tj 0 il4ao_0 (.pointer (some ⟨B, 2, none⟩)) hH0 (fun w0 hSw => ?_) ?_
 ·(unfold il4ao_0 oO; clear hSw; go_simp)
 simp only [il4ao_0, oO, Act.put, sA, sB, sC]
 refine tj 2 il4ao_2 (.agg #[.int .u64 0, .int .u64 0, .int .u64 0, .int .u64 0]) hH0 (fun w0 hSw => ?_) ?_
 ·(unfold il4ao_2 oO; clear hSw; go_simp)
 simp only [il4ao_2, oO, Act.put, sA, sB, sC]
 refine tj 1 il4ao_1 (.agg #[.int .u64 p.x0, .int .u64 p.x1, .int .u64 p.x2, .int .u64 p.x3]) hH0 (fun w0 hSw => ?_) ?_
 ·(unfold il4ao_1 oO; have hS : Below W.heap.size W w0 := hSw; have a0 := cell_keep a0 hS; have a1 := cell_keep a1 hS; have a2 := cell_keep a2 hS; have a3 := cell_keep a3 hS; clear hS hSw; go_simp)
 simp only [il4ao_1, oO, Act.put, sA, sB, sC]
 refine tj 3 il4ao_3 (.bool false) hH0 (fun w0 hSw => ?_) ?_
 ·(unfold il4ao_3 oO; clear hSw; have nq := NQ.out w0; go_simp)
 simp only [il4ao_3, oO, Act.put, sA, sB, sC]
 refine tj 4 il4ao_4 (.bool false) hH0 (fun w0 hSw => ?_) ?_
 ·(unfold il4ao_4 oO; clear hSw; go_simp)
 simp only [il4ao_4, oO, Act.put, sA, sB, sC]
 refine tj 5 il4ao_5 (.int .i64 (i : Int)) hH0 (fun w0 hSw => ?_) ?_
 ·(unfold il4ao_5; clear hSw; go_simp)
 simp only [il4ao_5, Act.put, sA, sB, sC]
 refine tj 6 il4ao_6 (.bool true) hH0 (fun w0 hSw => ?_) ?_
 ·(unfold il4ao_6; clear hSw; go_simp; try omega)
 simp only [il4ao_6, Act.put, sA, sB, sC]
 refine tj 7 il4ao_7 (.bool true) hH0 (fun w0 hSw => ?_) ?_
 ·(unfold il4ao_7; clear hSw; go_simp)
 simp only [il4ao_7, Act.put, sA, sB, sC]
 refine tj 8 il4ao_8 (.slice (some ⟨pb, po, none⟩) n c) hH0 (fun w0 hSw => ?_) ?_
 ·(unfold il4ao_8; clear hSw; go_simp)
 simp only [il4ao_8, Act.put, sA, sB, sC]
 refine tj 9 il4ao_9 (.int .i64 (i : Int)) hH0 (fun w0 hSw => ?_) ?_
 ·(unfold il4ao_9; clear hSw; go_simp)
 simp only [il4ao_9, Act.put, sA, sB, sC]
 refine tj 14 il4ao_14 (.pointer (some ⟨B, 0, none⟩)) hH0 (fun w0 hSw => ?_) ?_
 ·(unfold il4ao_14; clear hSw; go_simp)
 simp only [il4ao_14, Act.put, sA, sB, sC]
 refine tj 10 il4ao_10 (.int .i64 (k : Int)) hH0 (fun w0 hSw => ?_) ?_
 ·(unfold il4ao_10; clear hSw; go_simp)
 simp only [il4ao_10, Act.put, sA, sB, sC]
 refine tj 15 il4ao_15 (.agg #[.int .i64 bk, .int .i64 bi]) hH0 (fun w0 hSw => ?_) ?_
 ·(unfold il4ao_15; have hS : Below W.heap.size W w0 := hSw; have a0 := cell_keep r0 hS; have a1 := cell_keep r1 hS; clear hS hSw; go_simp)
 simp only [il4ao_15, Act.put, sA, sB, sC]
 refine tj 11 il4ao_11 (.pointer (some ⟨pb, po + k * 6, none⟩)) hH0 (fun w0 hSw => ?_) ?_
 ·(unfold il4ao_11; clear hSw; go_simp)
 simp only [il4ao_11, Act.put, sA, sB, sC]
 refine tj 12 il4ao_12 (.pointer (some ⟨pb, po + k * 6, none⟩)) hH0 (fun w0 hSw => ?_) ?_
 ·(unfold il4ao_12; clear hSw; go_simp)
 simp only [il4ao_12, Act.put, sA, sB, sC]
 refine tj 13 il4ao_13 (.agg #[.int .i64 ak, .int .i64 ai]) hH0 (fun w0 hSw => ?_) ?_
 ·(unfold il4ao_13; have hS : Below W.heap.size W w0 := hSw; have a0 := cell_keep q0 hS; have a1 := cell_keep q1 hS; clear hS hSw; go_simp)
 simp only [il4ao_13, Act.put, sA, sB, sC]
 refine ar [16] ?_
 refine ac il4ao_16 (fun K hK => ?_) AllReadyH.nil
 unfold il4ao_16
 have HH := Hn hH0
 clear hH0
 go_simp
 refine (C1.out _).mono ?_
 rintro e wn1 ⟨rfl, hb⟩
 have SN := Hn (bl_trans HH.out hb)
 clear HH hb
 go_wp2_with fail
 refine hK.out _ _ SN.out (fun hH1 => ?_)
 clear hK K SN
 refine tj 17 il4ao_17 (.bool gv) hH1 (fun w0 hSw => ?_) ?_
 ·(unfold il4ao_17; clear hSw; have gg := GV.out; go_simp)
 simp only [il4ao_17, Act.put, sA, sB, sC]
 refine tj 18 il4ao_18 (.bool gv) hH1 (fun w0 hSw => ?_) ?_
 ·(unfold il4ao_18; clear hSw; go_simp)
 simp only [il4ao_18, Act.put, sA, sB, sC]
 refine tj 19 il4ao_19 (.bool gv) hH1 (fun w0 hSw => ?_) ?_
 ·(unfold il4ao_19 oO; clear hSw; go_simp)
 simp only [il4ao_19, oO, Act.put, sA, sB, sC]
 have HH := Hn hH1
 have FQ := Hn (HQ.out _ HH.out)
 refine wpAnyH_done (by kernel_rfl) ?_ _
 refine NoPanic.normal ?_
 exact FQ.out
def bdT (f : Nat → Trm) (i : Nat) : Bool := (f i).a.same ⟨0, 0, 0, 0⟩ || (decide (0 < i) && decide (0 ≤ cw (f (i - 1)).q (f i).q))
theorem isLeast_any (P : Option Addr) (n c : Nat) (f : Nat → Trm) (w : World) (hL : Lt w P n f) (hn : n ≤ 1099511627776) : Calls Tryz.prog 75 #[.slice P n c] w fun e w' => e = .returned (.bool (!an (bdT f) n)) ∧ Below w.heap.size w w' := by
 have HL := Hn hL
 have HN := Hn hn
 clear hL hn
 go_enter Tryz.func75, Tryz.ntmps75
 go_upto_region 2 with fail
 go_loopw [7] (fun iv w' => ∃ i : Nat, i ≤ n ∧ iv = .int .i64 (i : Int) ∧ Hid (an (bdT f) i = false ∧ Below w.heap.size w w')) (fun i _ => n - (intOf i).toNat)
 case atStart => exact ⟨0, by omega, rfl, Hn ⟨rfl, Below.refl _ _⟩⟩
 case round =>
  obtain ⟨i, hi, rfl, hR⟩ := hrel
  by_cases hin : i < n
  ·have i1 : (i : Int) < (n : Int) := by omega
   have i0 : (0 : Int) ≤ (i : Int) := by omega
   have w9 : IntKind.i64.wrap ((i : Int) + 1) = (i : Int) + 1 := IntWalk.i64_in _ (by have := HN.out; omega)
   obtain ⟨pb, po, e1, e2⟩ := HL.out
   have e3 := e1 (by omega)
   subst e3
   have rt := e2 (by omega)
   have RT := Hn (fun k (hk : k < n) => And.intro (cell_keep (rt.c0 k hk) hR.out.2) (cell_keep (rt.c1 k hk) hR.out.2))
   have c0 := cell_keep (rt.c0 i hin) hR.out.2
   have c1 := cell_keep (rt.c1 i hin) hR.out.2
   have c2 := cell_keep (rt.c2 i hin) hR.out.2
   have c3 := cell_keep (rt.c3 i hin) hR.out.2
   have c4 := cell_keep (rt.c4 i hin) hR.out.2
   have c5 := cell_keep (rt.c5 i hin) hR.out.2
   have BD : Hid (bdT f i = ((f i).a.same ⟨0, 0, 0, 0⟩ || (decide (0 < i) && decide (0 ≤ cw (f (i - 1)).q (f i).q)))) := Hn rfl
   clear e1 e2 rt
   generalize hfi : f i = fi at c0 c1 c2 c3 c4 c5 BD
   obtain ⟨⟨qk, qi⟩, p⟩ := fi
   simp only at c0 c1 c2 c3 c4 c5 BD
   clear hfi
   go_upto_region 4 with fail
   have BN := bl_alloc wr (.cells #[.int .i64 qk, .int .i64 qi, .int .u64 p.x0, .int .u64 p.x1, .int .u64 p.x2, .int .u64 p.x3] 77)
   have d0 : (wr.alloc (.cells #[.int .i64 qk, .int .i64 qi, .int .u64 p.x0, .int .u64 p.x1, .int .u64 p.x2, .int .u64 p.x3] 77)).cell? ⟨wr.heap.size, 0, none⟩ = some (.int .i64 qk) := by go_simp
   have d1 : (wr.alloc (.cells #[.int .i64 qk, .int .i64 qi, .int .u64 p.x0, .int .u64 p.x1, .int .u64 p.x2, .int .u64 p.x3] 77)).cell? ⟨wr.heap.size, 1, none⟩ = some (.int .i64 qi) := by go_simp
   have d2 : (wr.alloc (.cells #[.int .i64 qk, .int .i64 qi, .int .u64 p.x0, .int .u64 p.x1, .int .u64 p.x2, .int .u64 p.x3] 77)).cell? ⟨wr.heap.size, 2, none⟩ = some (.int .u64 p.x0) := by go_simp
   have d3 : (wr.alloc (.cells #[.int .i64 qk, .int .i64 qi, .int .u64 p.x0, .int .u64 p.x1, .int .u64 p.x2, .int .u64 p.x3] 77)).cell? ⟨wr.heap.size, 3, none⟩ = some (.int .u64 p.x1) := by go_simp
   have d4 : (wr.alloc (.cells #[.int .i64 qk, .int .i64 qi, .int .u64 p.x0, .int .u64 p.x1, .int .u64 p.x2, .int .u64 p.x3] 77)).cell? ⟨wr.heap.size, 4, none⟩ = some (.int .u64 p.x2) := by go_simp
   have d5 : (wr.alloc (.cells #[.int .i64 qk, .int .i64 qi, .int .u64 p.x0, .int .u64 p.x1, .int .u64 p.x2, .int .u64 p.x3] 77)).cell? ⟨wr.heap.size, 5, none⟩ = some (.int .u64 p.x3) := by go_simp
   have B1 := Hn (bl_trans hR.out.2 BN)
   have AN := Hn hR.out.1
   replace RT := Hn (fun k (hk : k < n) => And.intro (cell_keep (RT.out k hk).1 BN) (cell_keep (RT.out k hk).2 BN))
   clear c0 c1 c2 c3 c4 c5 hR BN
   generalize (wr.alloc (.cells #[.int .i64 qk, .int .i64 qi, .int .u64 p.x0, .int .u64 p.x1, .int .u64 p.x2, .int .u64 p.x3] 77)) = wx at *
   generalize wr.heap.size = B at *
   cases hs : p.same ⟨0, 0, 0, 0⟩ with
   | true =>
    have NQ : Hid (∀ y, (Op.equalIn 10000 35 (.agg #[.int .u64 p.x0, .int .u64 p.x1, .int .u64 p.x2, .int .u64 p.x3]) (.agg #[.int .u64 0, .int .u64 0, .int .u64 0, .int .u64 0])).run Tryz.prog y = .ok true y) := Hn (fun y => by rw [← hs]; exact eq4 p ⟨0, 0, 0, 0⟩ y)
    have AT : Hid (an (bdT f) n = true) := Hn (an_true hin (by rw [BD.out, hs]; rfl))
    clear BD hs
    refine il4a _ B p _ _ _ _ _ _ _ _ _ _ _ _ _ _ _ _ _ _ _ _ _ _ _ _ _ _ _ _ _ _ _ _ wx d2 d3 d4 d5 NQ (Hn ?_)
    intro wz hz
    have BF := Hn (bl_trans B1.out hz)
    clear hz B1 d0 d1 d2 d3 d4 d5 NQ
    go_wp2_with fail
    go_ret
    exact ⟨by rw [AT.out]; rfl, BF.out⟩
   | false =>
    have NQ : Hid (∀ y, (Op.equalIn 10000 35 (.agg #[.int .u64 p.x0, .int .u64 p.x1, .int .u64 p.x2, .int .u64 p.x3]) (.agg #[.int .u64 0, .int .u64 0, .int .u64 0, .int .u64 0])).run Tryz.prog y = .ok false y) := Hn (fun y => by rw [← hs]; exact eq4 p ⟨0, 0, 0, 0⟩ y)
    by_cases h0 : 0 < i
    ·have j0 : (0 : Int) < (i : Int) := by omega
     obtain ⟨k, hk⟩ : ∃ k, i - 1 = k := ⟨_, rfl⟩
     have w8 : IntKind.i64.wrap ((i : Int) - 1) = (k : Int) := by rw [IntWalk.i64_in _ (by have := HN.out; omega)]; omega
     have k0 : (0 : Int) ≤ (k : Int) := by omega
     have k1 : (k : Int) < (n : Int) := by omega
     obtain ⟨r0, r1⟩ := RT.out k (by omega)
     rw [hk] at BD
     generalize f k = fk at r0 r1 BD
     obtain ⟨⟨rk, ri⟩, pk⟩ := fk
     simp only at r0 r1 BD
     have CB := Hn (fun y => (byWire_any (rk, ri) (qk, qi) y).mono fun e w' ⟨he, hg⟩ => And.intro he hg.below)
     simp only at CB
     generalize cw (rk, ri) (qk, qi) = cv at CB BD
     obtain ⟨gv, hgv⟩ : ∃ gv, decide (cv ≥ 0) = gv := ⟨_, rfl⟩
     have GV := Hn hgv
     have BE : Hid (bdT f i = gv) := Hn (by rw [BD.out, hs, decide_eq_true h0, ← hgv]; rfl)
     clear BD hs hgv hk h0
     refine il4c _ B pb po n c i k p rk ri qk qi cv gv _ _ _ _ _ _ _ _ _ _ _ _ _ _ _ _ _ _ _ _ _ _ _ _ _ _ _ _ _ _ wx d2 d3 d4 d5 NQ j0 w8 k0 k1 r0 r1 d0 d1 GV CB (Hn ?_)
     intro wz hz
     have BF := Hn (bl_trans B1.out hz)
     clear hz B1 d0 d1 d2 d3 d4 d5 NQ r0 r1 CB GV RT w8
     cases gv with
     | true =>
      go_wp2_with fail
      go_ret
      exact ⟨by rw [an_true hin BE.out]; rfl, BF.out⟩
     | false =>
      have PN : Hid (an (bdT f) (i + 1) = false ∧ Below w.heap.size w wz) := Hn ⟨by simp [an, AN.out, BE.out], BF.out⟩
      clear BF AN BE
      go_wp2_with fail
      go_roundw
      case rel => exact ⟨i + 1, by omega, by go_num, PN⟩
      case measure => simp [intOf]; omega
    ·have j0 : ¬ (0 : Int) < (i : Int) := by omega
     have BE : Hid (bdT f i = false) := Hn (by rw [BD.out, hs, decide_eq_false h0]; rfl)
     clear BD hs h0
     refine il4b _ B i p _ _ _ _ _ _ _ _ _ _ _ _ _ _ _ _ _ _ _ _ _ _ _ _ _ _ _ _ _ _ _ wx d2 d3 d4 d5 NQ j0 (Hn ?_)
     intro wz hz
     have PN : Hid (an (bdT f) (i + 1) = false ∧ Below w.heap.size w wz) := Hn ⟨by simp [an, AN.out, BE.out], bl_trans B1.out hz⟩
     clear hz B1 d0 d1 d2 d3 d4 d5 NQ AN BE RT
     go_wp2_with fail
     go_roundw
     case rel => exact ⟨i + 1, by omega, by go_num, PN⟩
     case measure => simp [intOf]; omega
  ·obtain rfl : i = n := by omega
   have lq : ¬ (i : Int) < (i : Int) := by omega
   go_wp2_with fail
   refine bodyPost_ret (v := .bool true) (by simp [results, Tryz.results75, go_sem]) rfl ⟨by rw [hR.out.1]; rfl, hR.out.2⟩
end Ci
end Go.Proofs.YthngomhhafoamaaGreatDoor
