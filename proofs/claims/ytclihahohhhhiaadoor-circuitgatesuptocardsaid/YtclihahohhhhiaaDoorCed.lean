import Derived.Test.YtclihahohhhhiaaDoorTk
import Derived.Test.YtclihahohhhhiaaDoorCec
import Derived.Test.YtclihahohhhhiaaDoorSsm2
namespace Go.Proofs.YtclihahohhhhiaaDoor
open Go.RowKit
set_option linter.unusedVariables false
set_option linter.unusedSimpArgs false
open Cm (Wr Tm co bf Ls lf ins Eqm)
namespace Ci
set_option maxRecDepth 100000
set_option maxHeartbeats 4000000
theorem same_dec (a b : Int) : (lst a).same (lst b) = decide (a % Sm.L = b % Sm.L) := by
 by_cases h : a % Sm.L = b % Sm.L
 ·rw [decide_eq_true h, lst_congr h]
  exact (E4.same_iff _ _).2 rfl
 ·rw [decide_eq_false h, Bool.eq_false_iff]
  intro e
  have := (E4.same_iff _ _).1 e
  apply h
  have h2 := congrArg E4.n this
  rwa [lst_n, lst_n] at h2
def mlB (l r o : Sl) : Bool := (List.range l.n).all fun k => decide ((l.g k).n * (r.g k).n % Sm.L = (o.g k).n % Sm.L)
theorem mlB_iff (l r o : Sl) : mlB l r o = true ↔ ∀ k, k < l.n → (l.g k).n * (r.g k).n % Sm.L = (o.g k).n % Sm.L := by
 unfold mlB
 rw [List.all_eq_true]
 simp [List.mem_range]
def ml4o_0 : Oper := { dst := some 13, op := Op.load 41 (Operand.tmp 4), type := 41, pos := "numbers.go:73", after := #[], guard := none }
def ml4o_1 : Oper := { dst := some 14, op := Op.fieldAddr 37 (Operand.tmp 1) 1, type := 0, pos := "numbers.go:73", after := #[], guard := none }
def ml4o_2 : Oper := { dst := some 15, op := Op.load 25 (Operand.tmp 14), type := 25, pos := "numbers.go:73", after := #[{ on := 1, ground := Ground.data }], guard := none }
def ml4o_3 : Oper := { dst := some 16, op := Op.move (Operand.tmp 3), type := 3, pos := "numbers.go:73", after := #[], guard := none }
def ml4o_4 : Oper := { dst := some 17, op := Op.indexAddr 25 (Operand.tmp 15) (Operand.tmp 16), type := 0, pos := "numbers.go:73", after := #[{ on := 2, ground := Ground.data }, { on := 3, ground := Ground.data }], guard := none }
def ml4o_5 : Oper := { dst := some 18, op := Op.load 41 (Operand.tmp 17), type := 41, pos := "numbers.go:73", after := #[{ on := 4, ground := Ground.data }], guard := none }
def ml4o_6 : Oper := { dst := some 19, op := Op.call { callee := Callee.value (Operand.func 11), args := #[Operand.tmp 13, Operand.tmp 18], argTypes := #[41, 41] }, type := 41, pos := "numbers.go:73", after := #[{ on := 0, ground := Ground.data }, { on := 5, ground := Ground.data }], guard := none }
def ml4o_7 : Oper := { dst := some 20, op := Op.fieldAddr 37 (Operand.tmp 1) 2, type := 0, pos := "numbers.go:73", after := #[], guard := none }
def ml4o_8 : Oper := { dst := some 21, op := Op.load 25 (Operand.tmp 20), type := 25, pos := "numbers.go:73", after := #[{ on := 7, ground := Ground.data }], guard := none }
def ml4o_9 : Oper := { dst := some 22, op := Op.move (Operand.tmp 3), type := 3, pos := "numbers.go:73", after := #[], guard := none }
def ml4o_10 : Oper := { dst := some 23, op := Op.indexAddr 25 (Operand.tmp 21) (Operand.tmp 22), type := 0, pos := "numbers.go:73", after := #[{ on := 8, ground := Ground.data }, { on := 9, ground := Ground.data }], guard := none }
def ml4o_11 : Oper := { dst := some 24, op := Op.load 41 (Operand.tmp 23), type := 41, pos := "numbers.go:73", after := #[{ on := 10, ground := Ground.data }], guard := none }
def ml4o_12 : Oper := { dst := some 25, op := Op.call { callee := Callee.value (Operand.func 15), args := #[Operand.tmp 19, Operand.tmp 24], argTypes := #[41, 41] }, type := 4, pos := "numbers.go:73", after := #[{ on := 6, ground := Ground.data }, { on := 11, ground := Ground.data }, { on := 6, ground := Ground.chain }], guard := none }
def ml4o_13 : Oper := { dst := some 26, op := Op.unOp UnOp.not 4 (Operand.tmp 25), type := 4, pos := "numbers.go:73", after := #[{ on := 12, ground := Ground.data }], guard := none }
def ml4o : Array Oper := #[ml4o_0, ml4o_1, ml4o_2, ml4o_3, ml4o_4, ml4o_5, ml4o_6, ml4o_7, ml4o_8, ml4o_9, ml4o_10, ml4o_11, ml4o_12, ml4o_13]
set_option maxRecDepth 100000 in
set_option maxHeartbeats 16000000 in
theorem ml4 (Q : Exit → Act → World → Prop) (ab tb i rb ro rn rc ob oo on oc : Nat) (p q u z : E4) (B : Bool) (u0 u2 u5 u6 u7 u8 u9 u10 u11 u12 u13 u14 u15 u16 u17 u18 u19 u20 u21 u22 u23 u24 u25 u26 u27 : Value) (W : World)
  (i0 : (0 : Int) ≤ (i : Int)) (i1 : (i : Int) < (rn : Int)) (i2 : (i : Int) < (on : Int)) (t0 : W.cell? ⟨tb, 0, none⟩ = some (.int .u64 p.x0)) (t1 : W.cell? ⟨tb, 1, none⟩ = some (.int .u64 p.x1)) (t2 : W.cell? ⟨tb, 2, none⟩ = some (.int .u64 p.x2)) (t3 : W.cell? ⟨tb, 3, none⟩ = some (.int .u64 p.x3)) (c1 : W.cell? ⟨ab, 1, none⟩ = some (.slice (some ⟨rb, ro, none⟩) rn rc)) (c2 : W.cell? ⟨ab, 2, none⟩ = some (.slice (some ⟨ob, oo, none⟩) on oc))
  (q0 : W.cell? ⟨rb, ro + i * 4, none⟩ = some (.int .u64 q.x0)) (q1 : W.cell? ⟨rb, ro + i * 4 + 1, none⟩ = some (.int .u64 q.x1)) (q2 : W.cell? ⟨rb, ro + i * 4 + 2, none⟩ = some (.int .u64 q.x2)) (q3 : W.cell? ⟨rb, ro + i * 4 + 3, none⟩ = some (.int .u64 q.x3)) (z0 : W.cell? ⟨ob, oo + i * 4, none⟩ = some (.int .u64 z.x0)) (z1 : W.cell? ⟨ob, oo + i * 4 + 1, none⟩ = some (.int .u64 z.x1)) (z2 : W.cell? ⟨ob, oo + i * 4 + 2, none⟩ = some (.int .u64 z.x2)) (z3 : W.cell? ⟨ob, oo + i * 4 + 3, none⟩ = some (.int .u64 z.x3))
  (C1 : Hid (∀ y, Below W.heap.size W y → Calls Tryd.prog 11 #[.agg #[.int .u64 p.x0, .int .u64 p.x1, .int .u64 p.x2, .int .u64 p.x3], .agg #[.int .u64 q.x0, .int .u64 q.x1, .int .u64 q.x2, .int .u64 q.x3]] y fun e w' => e = .returned (.agg #[.int .u64 u.x0, .int .u64 u.x1, .int .u64 u.x2, .int .u64 u.x3]) ∧ Below y.heap.size y w'))
  (C2 : Hid (∀ y, Below W.heap.size W y → Calls Tryd.prog 15 #[.agg #[.int .u64 u.x0, .int .u64 u.x1, .int .u64 u.x2, .int .u64 u.x3], .agg #[.int .u64 z.x0, .int .u64 z.x1, .int .u64 z.x2, .int .u64 z.x3]] y fun e w' => e = .returned (.bool B) ∧ Below y.heap.size y w'))
  (HQ : Hid (∀ (wz : World), Below W.heap.size W wz → Q .normal ⟨#[u0, .pointer (some ⟨ab, 0, none⟩), u2, .int .i64 (i : Int), .pointer (some ⟨tb, 0, none⟩), u5, u6, u7, u8, u9, u10, u11, u12, .agg #[.int .u64 p.x0, .int .u64 p.x1, .int .u64 p.x2, .int .u64 p.x3], .pointer (some ⟨ab, 1, none⟩), .slice (some ⟨rb, ro, none⟩) rn rc, .int .i64 (i : Int), .pointer (some ⟨rb, ro + i * 4, none⟩), .agg #[.int .u64 q.x0, .int .u64 q.x1, .int .u64 q.x2, .int .u64 q.x3], .agg #[.int .u64 u.x0, .int .u64 u.x1, .int .u64 u.x2, .int .u64 u.x3], .pointer (some ⟨ab, 2, none⟩), .slice (some ⟨ob, oo, none⟩) on oc, .int .i64 (i : Int), .pointer (some ⟨ob, oo + i * 4, none⟩), .agg #[.int .u64 z.x0, .int .u64 z.x1, .int .u64 z.x2, .int .u64 z.x3], .bool B, .bool (!B), u27], []⟩ wz)) : (Code.region 4 ml4o true).wp Tryd.prog Q ⟨#[u0, .pointer (some ⟨ab, 0, none⟩), u2, .int .i64 (i : Int), .pointer (some ⟨tb, 0, none⟩), u5, u6, u7, u8, u9, u10, u11, u12, u13, u14, u15, u16, u17, u18, u19, u20, u21, u22, u23, u24, u25, u26, u27], []⟩ W := by
 unfold ml4o
 refine wp_region_noPanic ?_
 refine wp_region_held_drew (S := fun x => Below W.heap.size W x) (by kernel_rfl) (bl_drew W) (fun hH0 => ?_)
 refine tk 0 ml4o_0 (.agg #[.int .u64 p.x0, .int .u64 p.x1, .int .u64 p.x2, .int .u64 p.x3]) rfl (by kernel_rfl) hH0 rfl (fun w0 hSw => ?_) ?_
 ·(unfold ml4o_0; have hS : Below W.heap.size W w0 := hSw; have a0 := cell_keep t0 hS; have a1 := cell_keep t1 hS; have a2 := cell_keep t2 hS; have a3 := cell_keep t3 hS; clear hS hSw; go_simp)
 simp only [ml4o_0, Act.put, sA, sB, sC]
 refine tk 1 ml4o_1 (.pointer (some ⟨ab, 1, none⟩)) rfl (by kernel_rfl) hH0 rfl (fun w0 hSw => ?_) ?_
 ·(unfold ml4o_1; clear hSw; go_simp)
 simp only [ml4o_1, Act.put, sA, sB, sC]
 refine tk 3 ml4o_3 (.int .i64 (i : Int)) rfl (by kernel_rfl) hH0 rfl (fun w0 hSw => ?_) ?_
 ·(unfold ml4o_3; clear hSw; go_simp)
 simp only [ml4o_3, Act.put, sA, sB, sC]
 refine tk 7 ml4o_7 (.pointer (some ⟨ab, 2, none⟩)) rfl (by kernel_rfl) hH0 rfl (fun w0 hSw => ?_) ?_
 ·(unfold ml4o_7; clear hSw; go_simp)
 simp only [ml4o_7, Act.put, sA, sB, sC]
 refine tk 9 ml4o_9 (.int .i64 (i : Int)) rfl (by kernel_rfl) hH0 rfl (fun w0 hSw => ?_) ?_
 ·(unfold ml4o_9; clear hSw; go_simp)
 simp only [ml4o_9, Act.put, sA, sB, sC]
 refine tk 2 ml4o_2 (.slice (some ⟨rb, ro, none⟩) rn rc) rfl (by kernel_rfl) hH0 rfl (fun w0 hSw => ?_) ?_
 ·(unfold ml4o_2; have hS : Below W.heap.size W w0 := hSw; have a0 := cell_keep c1 hS; clear hS hSw; go_simp)
 simp only [ml4o_2, Act.put, sA, sB, sC]
 refine tk 8 ml4o_8 (.slice (some ⟨ob, oo, none⟩) on oc) rfl (by kernel_rfl) hH0 rfl (fun w0 hSw => ?_) ?_
 ·(unfold ml4o_8; have hS : Below W.heap.size W w0 := hSw; have a0 := cell_keep c2 hS; clear hS hSw; go_simp)
 simp only [ml4o_8, Act.put, sA, sB, sC]
 refine tk 4 ml4o_4 (.pointer (some ⟨rb, ro + i * 4, none⟩)) rfl (by kernel_rfl) hH0 rfl (fun w0 hSw => ?_) ?_
 ·(unfold ml4o_4; clear hSw; go_simp)
 simp only [ml4o_4, Act.put, sA, sB, sC]
 refine tk 10 ml4o_10 (.pointer (some ⟨ob, oo + i * 4, none⟩)) rfl (by kernel_rfl) hH0 rfl (fun w0 hSw => ?_) ?_
 ·(unfold ml4o_10; clear hSw; go_simp)
 simp only [ml4o_10, Act.put, sA, sB, sC]
 refine tk 5 ml4o_5 (.agg #[.int .u64 q.x0, .int .u64 q.x1, .int .u64 q.x2, .int .u64 q.x3]) rfl (by kernel_rfl) hH0 rfl (fun w0 hSw => ?_) ?_
 ·(unfold ml4o_5; have hS : Below W.heap.size W w0 := hSw; have a0 := cell_keep q0 hS; have a1 := cell_keep q1 hS; have a2 := cell_keep q2 hS; have a3 := cell_keep q3 hS; clear hS hSw; go_simp)
 simp only [ml4o_5, Act.put, sA, sB, sC]
 refine tk 11 ml4o_11 (.agg #[.int .u64 z.x0, .int .u64 z.x1, .int .u64 z.x2, .int .u64 z.x3]) rfl (by kernel_rfl) hH0 rfl (fun w0 hSw => ?_) ?_
 ·(unfold ml4o_11; have hS : Below W.heap.size W w0 := hSw; have a0 := cell_keep z0 hS; have a1 := cell_keep z1 hS; have a2 := cell_keep z2 hS; have a3 := cell_keep z3 hS; clear hS hSw; go_simp)
 simp only [ml4o_11, Act.put, sA, sB, sC]
 refine wpAnyH_ready (rs := [6]) (by kernel_rfl) (by simp) ?_
 refine AllReadyH.cons (o := ml4o_6) rfl (fun K hK => ?_) AllReadyH.nil
 unfold ml4o_6
 have HH := hidden hH0
 clear hH0
 go_simp
 refine (C1.out _ HH.out).mono ?_
 rintro e wn1 ⟨rfl, hb⟩
 have SN := hidden (bl_trans HH.out hb)
 clear HH C1 hb
 go_wp2_with fail
 refine hK.out _ _ SN.out (fun hH1 => ?_)
 clear hK K SN
 refine wpAnyH_ready (rs := [12]) (by kernel_rfl) (by simp) ?_
 refine AllReadyH.cons (o := ml4o_12) rfl (fun K hK => ?_) AllReadyH.nil
 unfold ml4o_12
 have HH := hidden hH1
 clear hH1
 go_simp
 refine (C2.out _ HH.out).mono ?_
 rintro e wn2 ⟨rfl, hb⟩
 have SN := hidden (bl_trans HH.out hb)
 clear HH C2 hb
 go_wp2_with fail
 refine hK.out _ _ SN.out (fun hH2 => ?_)
 clear hK K SN
 refine tk 13 ml4o_13 (.bool (!B)) rfl (by kernel_rfl) hH2 rfl (fun w0 hSw => ?_) ?_
 ·(unfold ml4o_13; clear hSw; go_simp)
 simp only [ml4o_13, Act.put, sA, sB, sC]
 have HH := hidden hH2
 have FQ := hidden (HQ.out _ HH.out)
 refine wpAnyH_done (by kernel_rfl) ?_ _
 refine NoPanic.normal ?_
 exact FQ.out
theorem multiplies_raw (lp : Option Addr) (ln lc : Nat) (lg : Nat → E4) (l r o v : Sl) (ell : l = ⟨lp, ln, lc, lg⟩) (w : World) (hT : Tb w) (hn : l.n ≤ 4398046510976) (hl : l.at w) (hr : r.at w) (ho : o.at w) (e1 : r.n = l.n) (e2 : o.n = l.n) : Calls Tryd.prog 52 #[.agg #[l.v, r.v, o.v, v.v]] w fun e w' => e = .returned (.bool (mlB l r o)) ∧ Below w.heap.size w w' := by
 have ep : l.p = lp := by rw [ell]
 have ec : l.c = lc := by rw [ell]
 have HEP := hidden ep
 have BA := bl_alloc w (.cells #[.slice l.p l.n l.c, .slice r.p r.n r.c, .slice o.p o.n o.c, .slice v.p v.n v.c] 37)
 have c0 : (w.alloc (.cells #[.slice l.p l.n l.c, .slice r.p r.n r.c, .slice o.p o.n o.c, .slice v.p v.n v.c] 37)).cell? ⟨w.heap.size, 0, none⟩ = some (.slice l.p l.n l.c) := by go_simp
 have c1 : (w.alloc (.cells #[.slice l.p l.n l.c, .slice r.p r.n r.c, .slice o.p o.n o.c, .slice v.p v.n v.c] 37)).cell? ⟨w.heap.size, 1, none⟩ = some (.slice r.p r.n r.c) := by go_simp
 have c2 : (w.alloc (.cells #[.slice l.p l.n l.c, .slice r.p r.n r.c, .slice o.p o.n o.c, .slice v.p v.n v.c] 37)).cell? ⟨w.heap.size, 2, none⟩ = some (.slice o.p o.n o.c) := by go_simp
 have HB := hidden BA
 have HL := hidden hl
 have HR := hidden hr
 have HO := hidden ho
 have HT := hidden hT
 have HN := hidden (And.intro hn (And.intro e1 e2))
 clear BA hl hr ho hT hn e1 e2
 simp only [Sl.v] at c0 c1 c2 HB ⊢
 rw [ep, ec] at c0 c1 c2 HB ⊢
 clear ep ec ell
 go_enter Tryd.func52, Tryd.ntmps52
 go_upto_region 1 with fail
 generalize (w.alloc (.cells #[.slice lp l.n lc, .slice r.p r.n r.c, .slice o.p o.n o.c, .slice v.p v.n v.c] 37)) = w2 at *
 have CC := hidden (And.intro c1 c2)
 clear c1 c2
 have R0 := hidden (Below.refl w2.heap.size w2)
 go_upto_region 2 with fail
 clear c0
 go_loopw [8] (fun iv w' => ∃ i : Nat, i ≤ l.n ∧ iv = .int .i64 (i : Int) ∧ Hid ((∀ k, k < i → (l.g k).n * (r.g k).n % Sm.L = (o.g k).n % Sm.L)) ∧ Hid (Below w2.heap.size w2 w')) (fun i _ => l.n - (intOf i).toNat)
 case atStart => exact ⟨0, by omega, rfl, hidden (fun k hk => by omega), R0⟩
 case round =>
  clear R0
  obtain ⟨i, hi, rfl, hA, hR⟩ := hrel
  by_cases hin : i < l.n
  ·have i1 : (i : Int) < (l.n : Int) := by omega
   have i0 : (0 : Int) ≤ (i : Int) := by omega
   have w9 : IntKind.i64.wrap ((i : Int) + 1) = (i : Int) + 1 := IntWalk.i64_in _ (by have := HN.out.1; omega)
   have BW := bl_trans HB.out hR.out
   have e1 := HN.out.2.1
   have e2 := HN.out.2.2
   have j1 : (i : Int) < (r.n : Int) := by omega
   have j2 : (i : Int) < (o.n : Int) := by omega
   have c1 := cell_keep CC.out.1 hR.out
   have c2 := cell_keep CC.out.2 hR.out
   obtain ⟨lb, lo, h1, h2⟩ := (HL.out).at'
   have plb := h1 (by omega)
   have rlb := (h2 (by omega)).keep BW
   have x0 := rlb.c0 i (by omega); have x1 := rlb.c1 i (by omega); have x2 := rlb.c2 i (by omega); have x3 := rlb.c3 i (by omega)
   clear h1 h2 rlb
   obtain ⟨rb, ro, h1, h2⟩ := (HR.out).at'
   have prb := h1 (by omega)
   have rrb := (h2 (by omega)).keep BW
   have q0 := rrb.c0 i (by omega); have q1 := rrb.c1 i (by omega); have q2 := rrb.c2 i (by omega); have q3 := rrb.c3 i (by omega)
   clear h1 h2 rrb
   obtain ⟨ob, oo, h1, h2⟩ := (HO.out).at'
   have pob := h1 (by omega)
   have rob := (h2 (by omega)).keep BW
   have z0 := rob.c0 i (by omega); have z1 := rob.c1 i (by omega); have z2 := rob.c2 i (by omega); have z3 := rob.c3 i (by omega)
   clear h1 h2 rob
   rw [prb] at c1
   rw [pob] at c2
   have ol := HL.out.ok i hin
   have orr := HR.out.ok i (by omega)
   have oo2 := HO.out.ok i (by omega)
   have HLN := hidden e1
   clear e1 e2 prb pob
   obtain rfl := HEP.out.symm.trans plb
   clear plb
   have key : ∀ (hd : (l.g i).n * (r.g i).n % Sm.L = (o.g i).n % Sm.L), ∀ k, k < i + 1 → (l.g k).n * (r.g k).n % Sm.L = (o.g k).n % Sm.L := fun hd k hk => by
    rcases Nat.lt_or_ge k i with h | h
    ·exact hA.out k h
    ·obtain rfl : k = i := by omega
     exact hd
   have KY := hidden key
   have NK : Hid (¬ (l.g i).n * (r.g i).n % Sm.L = (o.g i).n % Sm.L → mlB l r o = false) := hidden (fun h => by
    rw [Bool.eq_false_iff]
    exact fun e => h ((mlB_iff l r o).1 e i hin))
   clear key hA
   obtain ⟨u, hu⟩ : ∃ u, lst ((l.g i).n * (r.g i).n) = u := ⟨_, rfl⟩
   obtain ⟨B, hB⟩ : ∃ B, decide ((l.g i).n * (r.g i).n % Sm.L = (o.g i).n % Sm.L) = B := ⟨_, rfl⟩
   have M1 := fun y (hb : Below w.heap.size w y) => fix (R := lst ((l.g i).n * (r.g i).n)) (Mul_any (l.g i) (r.g i) y (HT.out.keep hb) ol orr) rfl
   have M2 := fun y (hb : Below w.heap.size w y) => Same_any (lst ((l.g i).n * (r.g i).n)) (o.g i) y (HT.out.keep hb) (lst_ok _) oo2
   have eq2 : (lst (lst ((l.g i).n * (r.g i).n)).n).same (lst (o.g i).n) = B := by rw [same_dec, lst_n, Int.emod_emod_of_dvd _ (Int.dvd_refl _)]; exact hB
   rw [eq2] at M2
   rw [hu] at M1 M2
   simp only [E4.v] at M1 M2
   replace M1 := hidden M1
   replace M2 := hidden M2
   clear eq2 hu ol orr oo2
   generalize l.g i = a at *
   generalize r.g i = b at *
   generalize o.g i = c at *
   go_upto_region 4 with fail
   have BN := bl_alloc wr (.cells #[.int .u64 a.x0, .int .u64 a.x1, .int .u64 a.x2, .int .u64 a.x3] 41)
   have t0 : (wr.alloc (.cells #[.int .u64 a.x0, .int .u64 a.x1, .int .u64 a.x2, .int .u64 a.x3] 41)).cell? ⟨wr.heap.size, 0, none⟩ = some (.int .u64 a.x0) := by go_simp
   have t1 : (wr.alloc (.cells #[.int .u64 a.x0, .int .u64 a.x1, .int .u64 a.x2, .int .u64 a.x3] 41)).cell? ⟨wr.heap.size, 1, none⟩ = some (.int .u64 a.x1) := by go_simp
   have t2 : (wr.alloc (.cells #[.int .u64 a.x0, .int .u64 a.x1, .int .u64 a.x2, .int .u64 a.x3] 41)).cell? ⟨wr.heap.size, 2, none⟩ = some (.int .u64 a.x2) := by go_simp
   have t3 : (wr.alloc (.cells #[.int .u64 a.x0, .int .u64 a.x1, .int .u64 a.x2, .int .u64 a.x3] 41)).cell? ⟨wr.heap.size, 3, none⟩ = some (.int .u64 a.x3) := by go_simp
   have c1n := cell_keep c1 BN
   have c2n := cell_keep c2 BN
   have q0n := cell_keep q0 BN
   have z0n := cell_keep z0 BN
   have q1n := cell_keep q1 BN
   have z1n := cell_keep z1 BN
   have q2n := cell_keep q2 BN
   have z2n := cell_keep z2 BN
   have q3n := cell_keep q3 BN
   have z3n := cell_keep z3 BN
   have BR := hidden (bl_trans hR.out BN)
   have N1 := hidden (fun y (hb : Below (wr.alloc (.cells #[.int .u64 a.x0, .int .u64 a.x1, .int .u64 a.x2, .int .u64 a.x3] 41)).heap.size (wr.alloc (.cells #[.int .u64 a.x0, .int .u64 a.x1, .int .u64 a.x2, .int .u64 a.x3] 41)) y) => M1.out y (bl_trans (bl_trans BW BN) hb))
   have N2 := hidden (fun y (hb : Below (wr.alloc (.cells #[.int .u64 a.x0, .int .u64 a.x1, .int .u64 a.x2, .int .u64 a.x3] 41)).heap.size (wr.alloc (.cells #[.int .u64 a.x0, .int .u64 a.x1, .int .u64 a.x2, .int .u64 a.x3] 41)) y) => M2.out y (bl_trans (bl_trans BW BN) hb))
   clear c1 c2 q0 q1 q2 q3 z0 z1 z2 z3 M1 M2 BN x0 x1 x2 x3 hR BW
   generalize wr.alloc (.cells #[.int .u64 a.x0, .int .u64 a.x1, .int .u64 a.x2, .int .u64 a.x3] 41) = w5 at *
   generalize wr.heap.size = tb at *
   refine ml4 _ w.heap.size tb i rb ro r.n r.c ob oo o.n o.c a b u c B _ _ _ _ _ _ _ _ _ _ _ _ _ _ _ _ _ _ _ _ _ _ _ _ _ w5 i0 j1 j2 t0 t1 t2 t3 c1n c2n q0n q1n q2n q3n z0n z1n z2n z3n N1 N2 (hidden ?_)
   intro wz hbz
   have PN := hidden (bl_trans BR.out hbz)
   clear hbz BR N1 N2 t0 t1 t2 t3 c1n c2n q0n q1n q2n q3n z0n z1n z2n z3n
   cases B with
   | true =>
    have KZ := hidden (KY.out (of_decide_eq_true hB))
    clear KY NK hB
    go_wp2_with fail
    go_roundw
    case rel => exact ⟨i + 1, by omega, by go_num, KZ, PN⟩
    case measure => simp [intOf]; omega
   | false =>
    have fb := hidden (NK.out (of_decide_eq_false hB))
    have BF := hidden (bl_trans HB.out PN.out)
    clear KY NK hB
    go_wp2_with fail
    refine bodyPost_ret (v := .bool false) (by simp [results, Tryd.results52, go_sem]) rfl ⟨by rw [fb.out], BF.out⟩
  ·obtain rfl : i = l.n := by omega
   have fb := hidden ((mlB_iff l r o).2 hA.out)
   have lq : ¬ (l.n : Int) < (l.n : Int) := by omega
   have BW := hidden (bl_trans HB.out hR.out)
   clear hA hR
   go_wp2_with fail
   refine bodyPost_ret (v := .bool true) (by simp [results, Tryd.results52, go_sem]) rfl ⟨by rw [fb.out], BW.out⟩
theorem multiplies_any (l r o v : Sl) (w : World) (hT : Tb w) (hn : l.n ≤ 4398046510976) (hl : l.at w) (hr : r.at w) (ho : o.at w) (e1 : r.n = l.n) (e2 : o.n = l.n) : Calls Tryd.prog 52 #[.agg #[l.v, r.v, o.v, v.v]] w fun e w' => e = .returned (.bool (mlB l r o)) ∧ Below w.heap.size w w' := multiplies_raw l.p l.n l.c l.g l r o v rfl w hT hn hl hr ho e1 e2
end Ci
end Go.Proofs.YtclihahohhhhiaaDoor
