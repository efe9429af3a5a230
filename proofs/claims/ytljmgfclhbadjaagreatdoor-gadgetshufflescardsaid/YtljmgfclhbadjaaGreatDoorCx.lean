import Derived.Test.YtljmgfclhbadjaaGreatDoorTk
import Derived.Test.YtljmgfclhbadjaaGreatDoorCu
import Derived.Test.YtljmgfclhbadjaaGreatDoorSsm2
import Derived.Test.YtljmgfclhbadjaaGreatDoorCv
namespace Go.Proofs.YtljmgfclhbadjaaGreatDoor
set_option maxRecDepth 100000
set_option maxHeartbeats 16000000
open Go.RowKit
set_option linter.unusedVariables false
set_option linter.unusedSimpArgs false
open Cm (Wr Tm co bf Ls lf ins Eqm)
namespace Ci
theorem same_dec (a b : Int) : (lst a).same (lst b) = decide (a % Sm.L = b % Sm.L) := by
 by_cases h : a % Sm.L = b % Sm.L
 ·rw [decide_eq_true h, lst_congr h]
  exact (E4.same_iff _ _).2 rfl
 ·rw [decide_eq_false h, Bool.eq_false_iff]
  intro e
  have := (E4.same_iff _ _).1 e
  apply h
  have h2 := congrArg E4.n this
  rwa [lst_n, lst_n] at h2
def mlB (l r o : Sl) : Bool := (List.range l.n).all fun k => decide ((l.g k).n * (r.g k).n % Sm.L = (o.g k).n % Sm.L)
theorem mlB_iff (l r o : Sl) : mlB l r o = true ↔ ∀ k, k < l.n → (l.g k).n * (r.g k).n % Sm.L = (o.g k).n % Sm.L := by
 unfold mlB
 rw [List.all_eq_true]
 simp [List.mem_range]
def ml4o_0 : Oper := oO 13 (Op.load 53 (Operand.tmp 4)) 53 "numbers.go:73" #[]
def ml4o_1 : Oper := oO 14 (Op.fieldAddr 43 (Operand.tmp 1) 1) 0 "numbers.go:73" #[]
def ml4o_2 : Oper := oO 15 (Op.load 41 (Operand.tmp 14)) 41 "numbers.go:73" #[DD 1]
def ml4o_3 : Oper := oO 16 (Op.move (Operand.tmp 3)) 3 "numbers.go:73" #[]
def ml4o_4 : Oper := oO 17 (Op.indexAddr 41 (Operand.tmp 15) (Operand.tmp 16)) 0 "numbers.go:73" #[DD 2, DD 3]
def ml4o_5 : Oper := oO 18 (Op.load 53 (Operand.tmp 17)) 53 "numbers.go:73" #[DD 4]
def ml4o_6 : Oper := oO 19 (Op.call { callee := Callee.value (Operand.func 122), args := #[Operand.tmp 13, Operand.tmp 18], argTypes := #[53, 53] }) 53 "numbers.go:73" #[DD 0, DD 5]
def ml4o_7 : Oper := oO 20 (Op.fieldAddr 43 (Operand.tmp 1) 2) 0 "numbers.go:73" #[]
def ml4o_8 : Oper := oO 21 (Op.load 41 (Operand.tmp 20)) 41 "numbers.go:73" #[DD 7]
def ml4o_9 : Oper := oO 22 (Op.move (Operand.tmp 3)) 3 "numbers.go:73" #[]
def ml4o_10 : Oper := oO 23 (Op.indexAddr 41 (Operand.tmp 21) (Operand.tmp 22)) 0 "numbers.go:73" #[DD 8, DD 9]
def ml4o_11 : Oper := oO 24 (Op.load 53 (Operand.tmp 23)) 53 "numbers.go:73" #[DD 10]
def ml4o_12 : Oper := oO 25 (Op.call { callee := Callee.value (Operand.func 123), args := #[Operand.tmp 19, Operand.tmp 24], argTypes := #[53, 53] }) 4 "numbers.go:73" #[DD 6, DD 11, CH 6]
def ml4o_13 : Oper := oO 26 (Op.unOp UnOp.not 4 (Operand.tmp 25)) 4 "numbers.go:73" #[DD 12]
def ml4o : Array Oper := #[ml4o_0, ml4o_1, ml4o_2, ml4o_3, ml4o_4, ml4o_5, ml4o_6, ml4o_7, ml4o_8, ml4o_9, ml4o_10, ml4o_11, ml4o_12, ml4o_13]
theorem ml4 (Q : Exit → Act → World → Prop) (ab tb i rb ro rn rc ob oo on oc : Nat) (p q u z : E4) (B : Bool) (u0 u2 u5 u6 u7 u8 u9 aa ad ae af ag ah ai aj ak al am an ao ap aq au av aw : Value) (W : World)
  (i0 : (0 : Int) ≤ (i : Int)) (i1 : (i : Int) < (rn : Int)) (i2 : (i : Int) < (on : Int)) (t0 : W.cell? ⟨tb, 0, none⟩ = some (.int .u64 p.x0)) (t1 : W.cell? ⟨tb, 1, none⟩ = some (.int .u64 p.x1)) (t2 : W.cell? ⟨tb, 2, none⟩ = some (.int .u64 p.x2)) (t3 : W.cell? ⟨tb, 3, none⟩ = some (.int .u64 p.x3)) (c1 : W.cell? ⟨ab, 1, none⟩ = some (.slice (some ⟨rb, ro, none⟩) rn rc)) (c2 : W.cell? ⟨ab, 2, none⟩ = some (.slice (some ⟨ob, oo, none⟩) on oc))
  (q0 : W.cell? ⟨rb, ro + i * 4, none⟩ = some (.int .u64 q.x0)) (q1 : W.cell? ⟨rb, ro + i * 4 + 1, none⟩ = some (.int .u64 q.x1)) (q2 : W.cell? ⟨rb, ro + i * 4 + 2, none⟩ = some (.int .u64 q.x2)) (q3 : W.cell? ⟨rb, ro + i * 4 + 3, none⟩ = some (.int .u64 q.x3)) (z0 : W.cell? ⟨ob, oo + i * 4, none⟩ = some (.int .u64 z.x0)) (z1 : W.cell? ⟨ob, oo + i * 4 + 1, none⟩ = some (.int .u64 z.x1)) (z2 : W.cell? ⟨ob, oo + i * 4 + 2, none⟩ = some (.int .u64 z.x2)) (z3 : W.cell? ⟨ob, oo + i * 4 + 3, none⟩ = some (.int .u64 z.x3))
  (C1 : Hid (∀ y, Below W.heap.size W y → Calls Tryz.prog 122 #[.agg #[.int .u64 p.x0, .int .u64 p.x1, .int .u64 p.x2, .int .u64 p.x3], .agg #[.int .u64 q.x0, .int .u64 q.x1, .int .u64 q.x2, .int .u64 q.x3]] y fun e w' => e = .returned (.agg #[.int .u64 u.x0, .int .u64 u.x1, .int .u64 u.x2, .int .u64 u.x3]) ∧ Below y.heap.size y w'))
  (C2 : Hid (∀ y, Below W.heap.size W y → Calls Tryz.prog 123 #[.agg #[.int .u64 u.x0, .int .u64 u.x1, .int .u64 u.x2, .int .u64 u.x3], .agg #[.int .u64 z.x0, .int .u64 z.x1, .int .u64 z.x2, .int .u64 z.x3]] y fun e w' => e = .returned (.bool B) ∧ Below y.heap.size y w'))
  (HQ : Hid (∀ (wz : World), Below W.heap.size W wz → Q .normal ⟨#[u0, .pointer (some ⟨ab, 0, none⟩), u2, .int .i64 (i : Int), .pointer (some ⟨tb, 0, none⟩), u5, u6, u7, u8, u9, aa, ad, ae, .agg #[.int .u64 p.x0, .int .u64 p.x1, .int .u64 p.x2, .int .u64 p.x3], .pointer (some ⟨ab, 1, none⟩), .slice (some ⟨rb, ro, none⟩) rn rc, .int .i64 (i : Int), .pointer (some ⟨rb, ro + i * 4, none⟩), .agg #[.int .u64 q.x0, .int .u64 q.x1, .int .u64 q.x2, .int .u64 q.x3], .agg #[.int .u64 u.x0, .int .u64 u.x1, .int .u64 u.x2, .int .u64 u.x3], .pointer (some ⟨ab, 2, none⟩), .slice (some ⟨ob, oo, none⟩) on oc, .int .i64 (i : Int), .pointer (some ⟨ob, oo + i * 4, none⟩), .agg #[.int .u64 z.x0, .int .u64 z.x1, .int .u64 z.x2, .int .u64 z.x3], .bool B, .bool (!B), aw], []⟩ wz)) : (Code.region 4 ml4o true).wp Tryz.prog Q ⟨#[u0, .pointer (some ⟨ab, 0, none⟩), u2, .int .i64 (i : Int), .pointer (some ⟨tb, 0, none⟩), u5, u6, u7, u8, u9, aa, ad, ae, af, ag, ah, ai, aj, ak, al, am, an, ao, ap, aq, au, av, aw], []⟩ W := by
 unfold ml4o
 refine wp_region_noPanic ?_
 refine wp_region_held_drew (S := fun x => Below W.heap.size W x) (by kernel_rfl) (bl_drew W) (fun hH0 => ?_)
 refine tj 0 ml4o_0 (.agg #[.int .u64 p.x0, .int .u64 p.x1, .int .u64 p.x2, .int .u64 p.x3]) hH0 (fun w0 hSw => ?_) ?_
 ·(unfold ml4o_0 oO; have hS : Below W.heap.size W w0 := hSw; have a0 := cell_keep t0 hS; have a1 := cell_keep t1 hS; have a2 := cell_keep t2 hS; have a3 := cell_keep t3 hS; clear hS hSw; go_simp)
 simp only [ml4o_0, oO, Act.put, sA, sB, sC]
 refine tj 1 ml4o_1 (.pointer (some ⟨ab, 1, none⟩)) hH0 (fun w0 hSw => ?_) ?_
 ·(unfold ml4o_1 oO; clear hSw; go_simp)
 simp only [ml4o_1, oO, Act.put, sA, sB, sC]
 refine tj 3 ml4o_3 (.int .i64 (i : Int)) hH0 (fun w0 hSw => ?_) ?_
 ·(unfold ml4o_3 oO; clear hSw; go_simp)
 simp only [ml4o_3, oO, Act.put, sA, sB, sC]
 refine tj 7 ml4o_7 (.pointer (some ⟨ab, 2, none⟩)) hH0 (fun w0 hSw => ?_) ?_
 ·(unfold ml4o_7 oO; clear hSw; go_simp)
 simp only [ml4o_7, oO, Act.put, sA, sB, sC]
 refine tj 9 ml4o_9 (.int .i64 (i : Int)) hH0 (fun w0 hSw => ?_) ?_
 ·(unfold ml4o_9 oO; clear hSw; go_simp)
 simp only [ml4o_9, oO, Act.put, sA, sB, sC]
 refine tj 2 ml4o_2 (.slice (some ⟨rb, ro, none⟩) rn rc) hH0 (fun w0 hSw => ?_) ?_
 ·(unfold ml4o_2 oO; have hS : Below W.heap.size W w0 := hSw; have a0 := cell_keep c1 hS; clear hS hSw; go_simp)
 simp only [ml4o_2, oO, Act.put, sA, sB, sC]
 refine tj 8 ml4o_8 (.slice (some ⟨ob, oo, none⟩) on oc) hH0 (fun w0 hSw => ?_) ?_
 ·(unfold ml4o_8 oO; have hS : Below W.heap.size W w0 := hSw; have a0 := cell_keep c2 hS; clear hS hSw; go_simp)
 simp only [ml4o_8, oO, Act.put, sA, sB, sC]
 refine tj 4 ml4o_4 (.pointer (some ⟨rb, ro + i * 4, none⟩)) hH0 (fun w0 hSw => ?_) ?_
 ·(unfold ml4o_4 oO; clear hSw; go_simp)
 simp only [ml4o_4, oO, Act.put, sA, sB, sC]
 refine tj 10 ml4o_10 (.pointer (some ⟨ob, oo + i * 4, none⟩)) hH0 (fun w0 hSw => ?_) ?_
 ·(unfold ml4o_10 oO; clear hSw; go_simp)
 simp only [ml4o_10, oO, Act.put, sA, sB, sC]
 refine tj 5 ml4o_5 (.agg #[.int .u64 q.x0, .int .u64 q.x1, .int .u64 q.x2, .int .u64 q.x3]) hH0 (fun w0 hSw => ?_) ?_
 ·(unfold ml4o_5 oO; have hS : Below W.heap.size W w0 := hSw; have a0 := cell_keep q0 hS; have a1 := cell_keep q1 hS; have a2 := cell_keep q2 hS; have a3 := cell_keep q3 hS; clear hS hSw; go_simp)
 simp only [ml4o_5, oO, Act.put, sA, sB, sC]
 refine tj 11 ml4o_11 (.agg #[.int .u64 z.x0, .int .u64 z.x1, .int .u64 z.x2, .int .u64 z.x3]) hH0 (fun w0 hSw => ?_) ?_
 ·(unfold ml4o_11 oO; have hS : Below W.heap.size W w0 := hSw; have a0 := cell_keep z0 hS; have a1 := cell_keep z1 hS; have a2 := cell_keep z2 hS; have a3 := cell_keep z3 hS; clear hS hSw; go_simp)
 simp only [ml4o_11, oO, Act.put, sA, sB, sC]
 refine ar [6] ?_
 refine ac ml4o_6 (fun K hK => ?_) AllReadyH.nil
 unfold ml4o_6 oO
 have HH := Hn hH0
 clear hH0
 go_simp
 refine (C1.out _ HH.out).mono ?_
 rintro e wn1 ⟨rfl, hb⟩
 have SN := Hn (bl_trans HH.out hb)
 clear HH C1 hb
 go_wp2_with fail
 refine hK.out _ _ SN.out (fun hH1 => ?_)
 clear hK K SN
 refine ar [12] ?_
 refine ac ml4o_12 (fun K hK => ?_) AllReadyH.nil
 unfold ml4o_12 oO
 have HH := Hn hH1
 clear hH1
 go_simp
 refine (C2.out _ HH.out).mono ?_
 rintro e wn2 ⟨rfl, hb⟩
 have SN := Hn (bl_trans HH.out hb)
 clear HH C2 hb
 go_wp2_with fail
 refine hK.out _ _ SN.out (fun hH2 => ?_)
 clear hK K SN
 refine tj 13 ml4o_13 (.bool (!B)) hH2 (fun w0 hSw => ?_) ?_
 ·(unfold ml4o_13 oO; clear hSw; go_simp)
 simp only [ml4o_13, oO, Act.put, sA, sB, sC]
 have HH := Hn hH2
 have FQ := Hn (HQ.out _ HH.out)
 refine wpAnyH_done (by kernel_rfl) ?_ _
 refine NoPanic.normal ?_
 exact FQ.out
theorem multiplies_raw (lp : Option Addr) (ln lc : Nat) (lg : Nat → E4) (l r o v : Sl) (ell : l = ⟨lp, ln, lc, lg⟩) (w : World) (hT : Tb w) (hn : l.n ≤ 4398046510976) (hl : l.at w) (hr : r.at w) (ho : o.at w) (e1 : r.n = l.n) (e2 : o.n = l.n) : Calls Tryz.prog 59 #[.agg #[l.v, r.v, o.v, v.v]] w fun e w' => e = .returned (.bool (mlB l r o)) ∧ Below w.heap.size w w' := by
 have ep : l.p = lp := by rw [ell]
 have ec : l.c = lc := by rw [ell]
 have HEP := Hn ep
 have BA := bl_alloc w (.cells #[.slice l.p l.n l.c, .slice r.p r.n r.c, .slice o.p o.n o.c, .slice v.p v.n v.c] 43)
 have c0 : (w.alloc (.cells #[.slice l.p l.n l.c, .slice r.p r.n r.c, .slice o.p o.n o.c, .slice v.p v.n v.c] 43)).cell? ⟨w.heap.size, 0, none⟩ = some (.slice l.p l.n l.c) := by go_simp
 have c1 : (w.alloc (.cells #[.slice l.p l.n l.c, .slice r.p r.n r.c, .slice o.p o.n o.c, .slice v.p v.n v.c] 43)).cell? ⟨w.heap.size, 1, none⟩ = some (.slice r.p r.n r.c) := by go_simp
 have c2 : (w.alloc (.cells #[.slice l.p l.n l.c, .slice r.p r.n r.c, .slice o.p o.n o.c, .slice v.p v.n v.c] 43)).cell? ⟨w.heap.size, 2, none⟩ = some (.slice o.p o.n o.c) := by go_simp
 have HB := Hn BA
 have HL := Hn hl
 have HR := Hn hr
 have HO := Hn ho
 have HT := Hn hT
 have HN := Hn (And.intro hn (And.intro e1 e2))
 clear BA hl hr ho hT hn e1 e2
 simp only [Sl.v] at c0 c1 c2 HB ⊢
 rw [ep, ec] at c0 c1 c2 HB ⊢
 clear ep ec ell
 go_enter Tryz.func59, Tryz.ntmps59
 go_upto_region 1 with fail
 generalize (w.alloc (.cells #[.slice lp l.n lc, .slice r.p r.n r.c, .slice o.p o.n o.c, .slice v.p v.n v.c] 43)) = w2 at *
 have CC := Hn (And.intro c1 c2)
 clear c1 c2
 have R0 := Hn (Below.refl w2.heap.size w2)
 go_upto_region 2 with fail
 clear c0
 go_loopw [8] (fun iv w' => ∃ i : Nat, i ≤ l.n ∧ iv = .int .i64 (i : Int) ∧ Hid ((∀ k, k < i → (l.g k).n * (r.g k).n % Sm.L = (o.g k).n % Sm.L)) ∧ Hid (Below w2.heap.size w2 w')) (fun i _ => l.n - (intOf i).toNat)
 case atStart => exact ⟨0, by omega, rfl, Hn (fun k hk => by omega), R0⟩
 case round =>
  clear R0
  obtain ⟨i, hi, rfl, hA, hR⟩ := hrel
  by_cases hin : i < l.n
  ·have i1 : (i : Int) < (l.n : Int) := by omega
   have i0 : (0 : Int) ≤ (i : Int) := by omega
   have w9 : IntKind.i64.wrap ((i : Int) + 1) = (i : Int) + 1 := IntWalk.i64_in _ (by have := HN.out.1; omega)
   have BW := bl_trans HB.out hR.out
   have e1 := HN.out.2.1
   have e2 := HN.out.2.2
   have j1 : (i : Int) < (r.n : Int) := by omega
   have j2 : (i : Int) < (o.n : Int) := by omega
   have c1 := cell_keep CC.out.1 hR.out
   have c2 := cell_keep CC.out.2 hR.out
   obtain ⟨lb, lo, h1, h2⟩ := (HL.out).at'
   have plb := h1 (by omega)
   have rlb := (h2 (by omega)).keep BW
   have x0 := rlb.c0 i (by omega); have x1 := rlb.c1 i (by omega); have x2 := rlb.c2 i (by omega); have x3 := rlb.c3 i (by omega)
   clear h1 h2 rlb
   obtain ⟨rb, ro, h1, h2⟩ := (HR.out).at'
   have prb := h1 (by omega)
   have rrb := (h2 (by omega)).keep BW
   have q0 := rrb.c0 i (by omega); have q1 := rrb.c1 i (by omega); have q2 := rrb.c2 i (by omega); have q3 := rrb.c3 i (by omega)
   clear h1 h2 rrb
   obtain ⟨ob, oo, h1, h2⟩ := (HO.out).at'
   have pob := h1 (by omega)
   have rob := (h2 (by omega)).keep BW
   have z0 := rob.c0 i (by omega); have z1 := rob.c1 i (by omega); have z2 := rob.c2 i (by omega); have z3 := rob.c3 i (by omega)
   clear h1 h2 rob
   rw [prb] at c1
   rw [pob] at c2
   have ol := HL.out.ok i hin
   have orr := HR.out.ok i (by omega)
   have oo2 := HO.out.ok i (by omega)
   have HLN := Hn e1
   clear e1 e2 prb pob
   obtain rfl := HEP.out.symm.trans plb
   clear plb
   have key : ∀ (hd : (l.g i).n * (r.g i).n % Sm.L = (o.g i).n % Sm.L), ∀ k, k < i + 1 → (l.g k).n * (r.g k).n % Sm.L = (o.g k).n % Sm.L := fun hd k hk => by
    rcases Nat.lt_or_ge k i with h | h
    ·exact hA.out k h
    ·obtain rfl : k = i := by omega
     exact hd
   have KY := Hn key
   have NK : Hid (¬ (l.g i).n * (r.g i).n % Sm.L = (o.g i).n % Sm.L → mlB l r o = false) := Hn (fun h => by
    rw [Bool.eq_false_iff]
    exact fun e => h ((mlB_iff l r o).1 e i hin))
   clear key hA
   obtain ⟨u, hu⟩ : ∃ u, lst ((l.g i).n * (r.g i).n) = u := ⟨_, rfl⟩
   obtain ⟨B, hB⟩ : ∃ B, decide ((l.g i).n * (r.g i).n % Sm.L = (o.g i).n % Sm.L) = B := ⟨_, rfl⟩
   have M1 := fun y (hb : Below w.heap.size w y) => fix (R := lst ((l.g i).n * (r.g i).n)) (Mul_any (l.g i) (r.g i) y (HT.out.keep hb) ol orr) rfl
   have M2 := fun y (hb : Below w.heap.size w y) => Same_any (lst ((l.g i).n * (r.g i).n)) (o.g i) y (HT.out.keep hb) (lst_ok _) oo2
   have eq2 : (lst (lst ((l.g i).n * (r.g i).n)).n).same (lst (o.g i).n) = B := by rw [same_dec, lst_n, Int.emod_emod_of_dvd _ (Int.dvd_refl _)]; exact hB
   rw [eq2] at M2
   rw [hu] at M1 M2
   simp only [E4.v] at M1 M2
   replace M1 := Hn M1
   replace M2 := Hn M2
   clear eq2 hu ol orr oo2
   generalize l.g i = a at *
   generalize r.g i = b at *
   generalize o.g i = c at *
   go_upto_region 4 with fail
   have BN := bl_alloc wr (.cells #[.int .u64 a.x0, .int .u64 a.x1, .int .u64 a.x2, .int .u64 a.x3] 53)
   have t0 : (wr.alloc (.cells #[.int .u64 a.x0, .int .u64 a.x1, .int .u64 a.x2, .int .u64 a.x3] 53)).cell? ⟨wr.heap.size, 0, none⟩ = some (.int .u64 a.x0) := by go_simp
   have t1 : (wr.alloc (.cells #[.int .u64 a.x0, .int .u64 a.x1, .int .u64 a.x2, .int .u64 a.x3] 53)).cell? ⟨wr.heap.size, 1, none⟩ = some (.int .u64 a.x1) := by go_simp
   have t2 : (wr.alloc (.cells #[.int .u64 a.x0, .int .u64 a.x1, .int .u64 a.x2, .int .u64 a.x3] 53)).cell? ⟨wr.heap.size, 2, none⟩ = some (.int .u64 a.x2) := by go_simp
   have t3 : (wr.alloc (.cells #[.int .u64 a.x0, .int .u64 a.x1, .int .u64 a.x2, .int .u64 a.x3] 53)).cell? ⟨wr.heap.size, 3, none⟩ = some (.int .u64 a.x3) := by go_simp
   have c1n := cell_keep c1 BN
   have c2n := cell_keep c2 BN
   have q0n := cell_keep q0 BN
   have z0n := cell_keep z0 BN
   have q1n := cell_keep q1 BN
   have z1n := cell_keep z1 BN
   have q2n := cell_keep q2 BN
   have z2n := cell_keep z2 BN
   have q3n := cell_keep q3 BN
   have z3n := cell_keep z3 BN
   have BR := Hn (bl_trans hR.out BN)
   have N1 := Hn (fun y (hb : Below (wr.alloc (.cells #[.int .u64 a.x0, .int .u64 a.x1, .int .u64 a.x2, .int .u64 a.x3] 53)).heap.size (wr.alloc (.cells #[.int .u64 a.x0, .int .u64 a.x1, .int .u64 a.x2, .int .u64 a.x3] 53)) y) => M1.out y (bl_trans (bl_trans BW BN) hb))
   have N2 := Hn (fun y (hb : Below (wr.alloc (.cells #[.int .u64 a.x0, .int .u64 a.x1, .int .u64 a.x2, .int .u64 a.x3] 53)).heap.size (wr.alloc (.cells #[.int .u64 a.x0, .int .u64 a.x1, .int .u64 a.x2, .int .u64 a.x3] 53)) y) => M2.out y (bl_trans (bl_trans BW BN) hb))
   clear c1 c2 q0 q1 q2 q3 z0 z1 z2 z3 M1 M2 BN x0 x1 x2 x3 hR BW
   generalize wr.alloc (.cells #[.int .u64 a.x0, .int .u64 a.x1, .int .u64 a.x2, .int .u64 a.x3] 53) = w5 at *
   generalize wr.heap.size = tb at *
   refine ml4 _ w.heap.size tb i rb ro r.n r.c ob oo o.n o.c a b u c B _ _ _ _ _ _ _ _ _ _ _ _ _ _ _ _ _ _ _ _ _ _ _ _ _ w5 i0 j1 j2 t0 t1 t2 t3 c1n c2n q0n q1n q2n q3n z0n z1n z2n z3n N1 N2 (Hn ?_)
   intro wz hbz
   have PN := Hn (bl_trans BR.out hbz)
   clear hbz BR N1 N2 t0 t1 t2 t3 c1n c2n q0n q1n q2n q3n z0n z1n z2n z3n
   cases B with
   | true =>
    have KZ := Hn (KY.out (of_decide_eq_true hB))
    clear KY NK hB
    go_wp2_with fail
    go_roundw
    case rel => exact ⟨i + 1, by omega, by go_num, KZ, PN⟩
    case measure => simp [intOf]; omega
   | false =>
    have fb := Hn (NK.out (of_decide_eq_false hB))
    have BF := Hn (bl_trans HB.out PN.out)
    clear KY NK hB
    go_wp2_with fail
    refine bodyPost_ret (v := .bool false) (by simp [results, Tryz.results59, go_sem]) rfl ⟨by rw [fb.out], BF.out⟩
  ·obtain rfl : i = l.n := by omega
   have fb := Hn ((mlB_iff l r o).2 hA.out)
   have lq : ¬ (l.n : Int) < (l.n : Int) := by omega
   have BW := Hn (bl_trans HB.out hR.out)
   clear hA hR
   go_wp2_with fail
   refine bodyPost_ret (v := .bool true) (by simp [results, Tryz.results59, go_sem]) rfl ⟨by rw [fb.out], BW.out⟩
theorem multiplies_any (l r o v : Sl) (w : World) (hT : Tb w) (hn : l.n ≤ 4398046510976) (hl : l.at w) (hr : r.at w) (ho : o.at w) (e1 : r.n = l.n) (e2 : o.n = l.n) : Calls Tryz.prog 59 #[.agg #[l.v, r.v, o.v, v.v]] w fun e w' => e = .returned (.bool (mlB l r o)) ∧ Below w.heap.size w w' := multiplies_raw l.p l.n l.c l.g l r o v rfl w hT hn hl hr ho e1 e2
end Ci
end Go.Proofs.YtljmgfclhbadjaaGreatDoor
namespace Go.Proofs.YtljmgfclhbadjaaGreatDoor
open Go.RowKit
set_option linter.unusedVariables false
set_option linter.unusedSimpArgs false
open Cm (Wr Tm co bf Ls lf ins Eqm)
namespace Ci
set_option maxRecDepth 100000
set_option maxHeartbeats 4000000
def zsB (N : Nat → Sl) (Q : List (List Tm)) : Bool := Q.all fun X => decide ((es N (ft X) X.length).n % Sm.L = 0)
theorem zsB_iff (N : Nat → Sl) (Q : List (List Tm)) : zsB N Q = true ↔ ∀ (i : Nat) (X : List Tm), Q[i]? = some X → (es N (ft X) X.length).n % Sm.L = 0 := by
 unfold zsB
 rw [List.all_eq_true]
 constructor
 ·intro h i X hX
  exact of_decide_eq_true (h X (List.mem_of_getElem? hX))
 ·intro h X hX
  obtain ⟨i, hi⟩ := List.mem_iff_getElem?.1 hX
  exact decide_eq_true (h i X hi)
theorem nms_zs (b : Nat) (l r o v : Sl) (Q : List (List Tm)) : zsB (nms b l r o v) Q = zsB (nms 0 l r o v) Q := by
 unfold zsB
 congr 1
 funext X
 rw [nms_es]
theorem nms_ln {b : Nat} {l r o v : Sl} {m Kg : Nat} (h : ftB (nms b l r o v) m Kg = true) : l.n = Kg ∧ r.n = Kg ∧ o.n = Kg ∧ v.n = m :=
 ⟨(ftB_iff _ _ _).1 h 2 (by omega), (ftB_iff _ _ _).1 h 3 (by omega), (ftB_iff _ _ _).1 h 4 (by omega), (ftB_iff _ _ _).1 h 5 (by omega)⟩
def hoE (l r o v : Sl) (m Kg : Nat) (Q : List (List Tm)) : Int := if ftB (nms 0 l r o v) m Kg = true then (if mlB l r o = true then (if zsB (nms 0 l r o v) Q = true then 0 else 203) else 202) else 2
structure Wk (m Kg : Nat) (Q : List (List Tm)) : Prop where
 wr : ∀ X ∈ Q, ∀ x ∈ X, hs m Kg x.1 = true
 ln : ∀ X ∈ Q, X.length ≤ 2932031007402
 q : Q.length ≤ 4096
 k : Kg ≤ 1024
 pf : ∃ R, Q = enl m ++ R
 mle : m ≤ Kg
theorem ft_mem {X : List Tm} {k : Nat} (hk : k < X.length) : ∃ x ∈ X, (ft X k).q = x.1 := ⟨X[k], List.getElem_mem hk, by
 unfold ft tmOf
 rw [List.getD_eq_getElem?_getD, List.getElem?_eq_getElem hk]
 rfl⟩
theorem Holds_any {base : Nat} {w : World} {s m Kg : Nat} {vv : Value} {vs : List Value} {Q : List (List Tm)} (h : Sy base w s m Kg vv vs Q) (hW : Wk m Kg Q) (hT : Tb w) (l r o v : Sl) (hl : l.at w) (hr : r.at w) (ho : o.at w) (hv : v.at w) :
  Calls Tryz.prog 26 #[.pointer (some ⟨s, 0, none⟩), .agg #[l.v, r.v, o.v, v.v]] w fun e w' => e = .returned (.int .i64 (hoE l r o v m Kg Q)) ∧ Below w.heap.size w w' := by
 have BA := bl_alloc w (.cells #[.slice l.p l.n l.c, .slice r.p r.n r.c, .slice o.p o.n o.c, .slice v.p v.n v.c] 43)
 have C0 := Hn (none_any (h.keep BA))
 have C1 := Hn (fun y => numbers_any l r o v y)
 have c0 : (w.alloc (.cells #[.slice l.p l.n l.c, .slice r.p r.n r.c, .slice o.p o.n o.c, .slice v.p v.n v.c] 43)).cell? ⟨w.heap.size, 0, none⟩ = some (.slice l.p l.n l.c) := by go_simp
 have c1 : (w.alloc (.cells #[.slice l.p l.n l.c, .slice r.p r.n r.c, .slice o.p o.n o.c, .slice v.p v.n v.c] 43)).cell? ⟨w.heap.size, 1, none⟩ = some (.slice r.p r.n r.c) := by go_simp
 have c2 : (w.alloc (.cells #[.slice l.p l.n l.c, .slice r.p r.n r.c, .slice o.p o.n o.c, .slice v.p v.n v.c] 43)).cell? ⟨w.heap.size, 2, none⟩ = some (.slice o.p o.n o.c) := by go_simp
 have c3 : (w.alloc (.cells #[.slice l.p l.n l.c, .slice r.p r.n r.c, .slice o.p o.n o.c, .slice v.p v.n v.c] 43)).cell? ⟨w.heap.size, 3, none⟩ = some (.slice v.p v.n v.c) := by go_simp
 have HB := Hn BA
 have HH := Hn h
 have HW := Hn hW
 have HA := Hn (And.intro hl (And.intro hr (And.intro ho hv)))
 have HT := Hn hT
 obtain ⟨PQ, cQ, rfl, _, hG⟩ := h.shape
 have HG := Hn hG
 have lc2 := h.c2
 clear BA h hW hl hr ho hv hT hG
 simp only [Sl.v] at C1 ⊢
 go_enter Tryz.func26, Tryz.ntmps26
 go_upto_region 1 with fail
 generalize (w.alloc (.cells #[.slice l.p l.n l.c, .slice r.p r.n r.c, .slice o.p o.n o.c, .slice v.p v.n v.c] 43)) = w2 at *
 go_upto_region 3 with (go_at_call 43; refine C0.out.mono ?_; rintro e w1 ⟨rfl, rfl⟩)
 clear C0
 go_upto_region 4 with (go_at_call 57; refine (C1.out _).mono ?_; rintro e w3 ⟨b, rfl, h1, hb⟩; have O1 := Hn h1; have B3 := Hn (bl_trans HB.out hb); have y0 := cell_keep c0 hb; have y1 := cell_keep c1 hb; have y2 := cell_keep c2 hb; have y3 := cell_keep c3 hb; clear hb h1 C1 c0 c1 c2 c3)
 have EF := Hn (nms_ft b l r o v m Kg)
 have EZ := Hn (nms_zs b l r o v Q)
 have EL := Hn (fun h => nms_ln (b := b) (l := l) (r := r) (o := o) (v := v) (m := m) (Kg := Kg) h)
 have eN : Hid (∀ k, k < 6 → (nms b l r o v k).at w3) := Hn (nms_at O1.out (HA.out.1.keep B3.out) (HA.out.2.1.keep B3.out) (HA.out.2.2.1.keep B3.out) (HA.out.2.2.2.keep B3.out))
 clear O1 HB
 generalize nms b l r o v = N at *
 have BA := bl_alloc w3 (.cells #[.slice (N 0).p (N 0).n (N 0).c, .slice (N 1).p (N 1).n (N 1).c, .slice (N 2).p (N 2).n (N 2).c, .slice (N 3).p (N 3).n (N 3).c, .slice (N 4).p (N 4).n (N 4).c, .slice (N 5).p (N 5).n (N 5).c] 139)
 have d0 : (w3.alloc (.cells #[.slice (N 0).p (N 0).n (N 0).c, .slice (N 1).p (N 1).n (N 1).c, .slice (N 2).p (N 2).n (N 2).c, .slice (N 3).p (N 3).n (N 3).c, .slice (N 4).p (N 4).n (N 4).c, .slice (N 5).p (N 5).n (N 5).c] 139)).cell? ⟨w3.heap.size, 0, none⟩ = some (.slice (N 0).p (N 0).n (N 0).c) := by go_simp
 have d1 : (w3.alloc (.cells #[.slice (N 0).p (N 0).n (N 0).c, .slice (N 1).p (N 1).n (N 1).c, .slice (N 2).p (N 2).n (N 2).c, .slice (N 3).p (N 3).n (N 3).c, .slice (N 4).p (N 4).n (N 4).c, .slice (N 5).p (N 5).n (N 5).c] 139)).cell? ⟨w3.heap.size, 1, none⟩ = some (.slice (N 1).p (N 1).n (N 1).c) := by go_simp
 have d2 : (w3.alloc (.cells #[.slice (N 0).p (N 0).n (N 0).c, .slice (N 1).p (N 1).n (N 1).c, .slice (N 2).p (N 2).n (N 2).c, .slice (N 3).p (N 3).n (N 3).c, .slice (N 4).p (N 4).n (N 4).c, .slice (N 5).p (N 5).n (N 5).c] 139)).cell? ⟨w3.heap.size, 2, none⟩ = some (.slice (N 2).p (N 2).n (N 2).c) := by go_simp
 have d3 : (w3.alloc (.cells #[.slice (N 0).p (N 0).n (N 0).c, .slice (N 1).p (N 1).n (N 1).c, .slice (N 2).p (N 2).n (N 2).c, .slice (N 3).p (N 3).n (N 3).c, .slice (N 4).p (N 4).n (N 4).c, .slice (N 5).p (N 5).n (N 5).c] 139)).cell? ⟨w3.heap.size, 3, none⟩ = some (.slice (N 3).p (N 3).n (N 3).c) := by go_simp
 have d4 : (w3.alloc (.cells #[.slice (N 0).p (N 0).n (N 0).c, .slice (N 1).p (N 1).n (N 1).c, .slice (N 2).p (N 2).n (N 2).c, .slice (N 3).p (N 3).n (N 3).c, .slice (N 4).p (N 4).n (N 4).c, .slice (N 5).p (N 5).n (N 5).c] 139)).cell? ⟨w3.heap.size, 4, none⟩ = some (.slice (N 4).p (N 4).n (N 4).c) := by go_simp
 have d5 : (w3.alloc (.cells #[.slice (N 0).p (N 0).n (N 0).c, .slice (N 1).p (N 1).n (N 1).c, .slice (N 2).p (N 2).n (N 2).c, .slice (N 3).p (N 3).n (N 3).c, .slice (N 4).p (N 4).n (N 4).c, .slice (N 5).p (N 5).n (N 5).c] 139)).cell? ⟨w3.heap.size, 5, none⟩ = some (.slice (N 5).p (N 5).n (N 5).c) := by go_simp
 have x0 := cell_keep y0 BA
 have x1 := cell_keep y1 BA
 have x2 := cell_keep y2 BA
 have x3 := cell_keep y3 BA
 have B5 := Hn (bl_trans B3.out BA)
 have N5 : Hid (∀ k, k < 6 → (N k).at (w3.alloc (.cells #[.slice (N 0).p (N 0).n (N 0).c, .slice (N 1).p (N 1).n (N 1).c, .slice (N 2).p (N 2).n (N 2).c, .slice (N 3).p (N 3).n (N 3).c, .slice (N 4).p (N 4).n (N 4).c, .slice (N 5).p (N 5).n (N 5).c] 139))) := Hn (fun k hk => (eN.out k hk).keep BA)
 clear BA B3 eN y0 y1 y2 y3
 generalize w3.alloc (.cells #[.slice (N 0).p (N 0).n (N 0).c, .slice (N 1).p (N 1).n (N 1).c, .slice (N 2).p (N 2).n (N 2).c, .slice (N 3).p (N 3).n (N 3).c, .slice (N 4).p (N 4).n (N 4).c, .slice (N 5).p (N 5).n (N 5).c] 139) = w5 at *
 generalize w3.heap.size = nb at *
 have C3 := fits_any (HH.out.keep B5.out) N
 simp only [Sl.v] at C3
 replace C3 := Hn C3
 by_cases hF : ftB N m Kg = true
 ·rw [hF] at C3
  obtain ⟨el, er, eo, ev⟩ := EL.out hF
  have C4 := fun y (hb : Below w5.heap.size w5 y) => multiplies_any l r o v y (HT.out.keep (bl_trans B5.out hb)) (by have := HW.out.k; omega) (HA.out.1.keep (bl_trans B5.out hb)) (HA.out.2.1.keep (bl_trans B5.out hb)) (HA.out.2.2.1.keep (bl_trans B5.out hb)) (by omega) (by omega)
  simp only [Sl.v] at C4
  replace C4 := Hn C4
  have HF := Hn hF
  clear el er eo ev EL hF
  go_upto_region 6 with (go_at_call 58; refine C3.out.mono ?_; rintro e w6 ⟨rfl, hb⟩; have B6 := Hn hb; have z0 := cell_keep x0 hb; have z1 := cell_keep x1 hb; have z2 := cell_keep x2 hb; have z3 := cell_keep x3 hb; clear hb x0 x1 x2 x3)
  clear C3
  by_cases hM : mlB l r o = true
  ·rw [hM] at C4
   have HMM := Hn hM
   clear hM
   go_upto_region 8 with (go_at_call 59; refine (C4.out _ B6.out).mono ?_; rintro e w7 ⟨rfl, hb⟩; have B7 := Hn (bl_trans B6.out hb); have B70 := Hn (bl_trans B5.out (bl_trans B6.out hb)); have s2 := cell_keep lc2 (bl_trans B5.out (bl_trans B6.out hb)); clear hb z0 z1 z2 z3)
   clear C4
   have t0 := cell_keep d0 B7.out
   have t1 := cell_keep d1 B7.out
   have t2 := cell_keep d2 B7.out
   have t3 := cell_keep d3 B7.out
   have t4 := cell_keep d4 B7.out
   have t5 := cell_keep d5 B7.out
   have TT6 := Hn (And.intro t0 (And.intro t1 (And.intro t2 (And.intro t3 (And.intro t4 t5)))))
   have N7 : Hid (∀ k, k < 6 → (N k).at w7) := Hn (fun k hk => (N5.out k hk).keep B7.out)
   clear d0 d1 d2 d3 d4 d5 t0 t1 t2 t3 t4 t5 N5 B6 B7
   have R0 := Hn (Below.refl w7.heap.size w7)
   have qn : Hid (Q.length ≤ 4096) := Hn HW.out.q
   go_upto_region 9 with fail
   clear s2
   go_loopw [26] (fun iv w' => ∃ i : Nat, i ≤ Q.length ∧ iv = .int .i64 (i : Int) ∧ Hid (∀ k X, k < i → Q[k]? = some X → (es N (ft X) X.length).n % Sm.L = 0) ∧ Hid (Below w7.heap.size w7 w')) (fun i _ => Q.length - (intOf i).toNat)
   case atStart => exact ⟨0, by omega, rfl, Hn (fun k X hk => by omega), R0⟩
   case round =>
    clear R0
    obtain ⟨i, hi, rfl, hZ, hR⟩ := hrel
    by_cases hin : i < Q.length
    ·have i1 : (i : Int) < (Q.length : Int) := by omega
     have i0 : (0 : Int) ≤ (i : Int) := by omega
     have w9 : IntKind.i64.wrap ((i : Int) + 1) = (i : Int) + 1 := IntWalk.i64_in _ (by have := qn.out; omega)
     obtain ⟨G, rfl⟩ := HG.out (by omega)
     obtain ⟨X, hX⟩ : ∃ X, Q[i]? = some X := ⟨Q[i], by simp [hin]⟩
     obtain ⟨u, hu, hown⟩ := HH.out.ls i X hX
     obtain ⟨PX, cX, rfl, _⟩ := own_shT hown
     have cc := HH.out.row.cells (g := G) rfl i _ hu
     rw [Addr.add_mid, Nat.zero_add] at cc
     have BW := bl_trans B70.out hR.out
     have gc := cell_keep cc BW
     have LX := (own_lts hown).keep BW
     have mX := List.mem_of_getElem? hX
     have t0 := cell_keep TT6.out.1 hR.out
     have t1 := cell_keep TT6.out.2.1 hR.out
     have t2 := cell_keep TT6.out.2.2.1 hR.out
     have t3 := cell_keep TT6.out.2.2.2.1 hR.out
     have t4 := cell_keep TT6.out.2.2.2.2.1 hR.out
     have t5 := cell_keep TT6.out.2.2.2.2.2 hR.out
     have C5 := fun y (hb : Below wr.heap.size wr y) => nsum_any N PX X.length cX (ft X) y (HT.out.keep (bl_trans BW hb)) (HW.out.ln X mX) (fun k hk => (N7.out k hk).keep (bl_trans hR.out hb)) (fun k hk => lst_ok _) (fun k hk => nm_of_hs HF.out (by obtain ⟨x, hx, e⟩ := ft_mem hk; rw [e]; exact HW.out.wr X mX x hx)) (LX.keep hb)
     simp only [Sl.v] at C5
     have KY : Hid ((es N (ft X) X.length).n % Sm.L = 0 → ∀ k Y, k < i + 1 → Q[k]? = some Y → (es N (ft Y) Y.length).n % Sm.L = 0) := Hn (fun h k Y hk hY => by
      rcases Nat.lt_or_ge k i with h1 | h1
      ·exact hZ.out k Y h1 hY
      ·obtain rfl : k = i := by omega
       rw [hX] at hY
       obtain rfl := Option.some.inj hY
       exact h)
     have NK : Hid (¬ (es N (ft X) X.length).n % Sm.L = 0 → zsB N Q = false) := Hn (fun h => by
      rw [Bool.eq_false_iff]
      exact fun e => h ((zsB_iff N Q).1 e i X hX))
     obtain ⟨rv, hrv⟩ : ∃ rv, es N (ft X) X.length = rv := ⟨_, rfl⟩
     have orv : rv.ok := hrv ▸ es_ok N _ _
     rw [hrv] at C5 KY NK
     have C6 := fun y (hb : Below wr.heap.size wr y) => IsZero_any rv y (HT.out.keep (bl_trans BW hb)) orv
     obtain ⟨Bz, hBz⟩ : ∃ Bz, decide (rv.n % Sm.L = 0) = Bz := ⟨_, rfl⟩
     rw [hBz] at C6
     simp only [E4.v] at C6
     replace C5 := Hn C5
     replace C6 := Hn C6
     clear hZ hX hu hown cc LX mX orv hrv
     go_upto_region 11 with fail
     cases Bz with
     | true =>
      have KZ := Hn (KY.out (of_decide_eq_true hBz))
      clear KY NK hBz
      go_wp2_with (first | (go_at_call 60; refine (C5.out _ (Below.refl _ _)).mono ?_; rintro e w8 ⟨rfl, hb⟩; have B8 := Hn hb; clear hb C5) | (go_at_call 61; refine (C6.out _ B8.out).mono ?_; rintro e w9 ⟨rfl, hb⟩; have PN := Hn (bl_trans hR.out (bl_trans B8.out hb)); clear hb C6))
      go_roundw
      case rel => exact ⟨i + 1, by omega, by go_num, KZ, PN⟩
      case measure => simp [intOf]; omega
     | false =>
      have fz := Hn (NK.out (of_decide_eq_false hBz))
      clear KY NK hBz
      go_wp2_with (first | (go_at_call 60; refine (C5.out _ (Below.refl _ _)).mono ?_; rintro e w8 ⟨rfl, hb⟩; have B8 := Hn hb; clear hb C5) | (go_at_call 61; refine (C6.out _ B8.out).mono ?_; rintro e w9 ⟨rfl, hb⟩; have PN := Hn (bl_trans B70.out (bl_trans hR.out (bl_trans B8.out hb))); clear hb C6))
      have eE : hoE l r o v m Kg Q = 203 := by
       unfold hoE
       rw [← EF.out, if_pos HF.out, if_pos HMM.out, ← EZ.out, if_neg (by rw [fz.out]; decide)]
      refine bodyPost_ret (v := .int .i64 203) (by simp [results, Tryz.results26, go_sem]) rfl ⟨by rw [eE], PN.out⟩
    ·obtain rfl : i = Q.length := by omega
     have lq : ¬ (Q.length : Int) < (Q.length : Int) := by omega
     have BF := Hn (bl_trans B70.out hR.out)
     have fz := Hn ((zsB_iff N Q).2 (fun i X hX => hZ.out i X (List.getElem?_eq_some_iff.1 hX).1 hX))
     clear hZ hR
     go_wp2_with fail
     have eE : hoE l r o v m Kg Q = 0 := by
      unfold hoE
      rw [← EF.out, if_pos HF.out, if_pos HMM.out, ← EZ.out, if_pos fz.out]
     refine bodyPost_ret (v := .int .i64 0) (by simp [results, Tryz.results26, go_sem]) rfl ⟨by rw [eE], BF.out⟩
  ·have hM2 : mlB l r o = false := by simpa using hM
   rw [hM2] at C4
   have HMM := Hn hM
   clear hM hM2
   go_wp2_with (go_at_call 59; refine (C4.out _ B6.out).mono ?_; rintro e w7 ⟨rfl, hb⟩; have BF := Hn (bl_trans B5.out (bl_trans B6.out hb)); clear hb z0 z1 z2 z3)
   have eE : hoE l r o v m Kg Q = 202 := by
    unfold hoE
    rw [← EF.out, if_pos HF.out, if_neg HMM.out]
   refine bodyPost_ret (v := .int .i64 202) (by simp [results, Tryz.results26, go_sem]) rfl ⟨by rw [eE], BF.out⟩
 ·have hF2 : ftB N m Kg = false := by simpa using hF
  rw [hF2] at C3
  have HF := Hn hF
  clear hF hF2
  go_wp2_with (go_at_call 58; refine C3.out.mono ?_; rintro e w6 ⟨rfl, hb⟩; have BF := Hn (bl_trans B5.out hb); clear hb)
  have eE : hoE l r o v m Kg Q = 2 := by
   unfold hoE
   rw [← EF.out, if_neg HF.out]
  refine bodyPost_ret (v := .int .i64 2) (by simp [results, Tryz.results26, go_sem]) rfl ⟨by rw [eE], BF.out⟩
end Ci
end Go.Proofs.YtljmgfclhbadjaaGreatDoor
namespace Go.Proofs.YtljmgfclhbadjaaGreatDoor
open Go.RowKit
set_option linter.unusedVariables false
set_option linter.unusedSimpArgs false
open Cm (Wr Tm co bf Ls lf ins Eqm)
namespace Ci
set_option maxRecDepth 100000
set_option maxHeartbeats 4000000
theorem glL_ft (X : List Tm) : glL X.length (ft X) = X.map fun x => (x.1, (lst x.2).n) := by
 refine List.ext_getElem? (fun i => ?_)
 simp only [glL, List.getElem?_map]
 by_cases h : i < X.length
 ·rw [List.getElem?_range h, List.getElem?_eq_getElem h]
  simp [ft, tmOf, List.getD_eq_getElem?_getD, h]
 ·rw [List.getElem?_eq_none (by simpa using h), List.getElem?_eq_none (by omega)]
  rfl
theorem glN_ft (X : List Tm) : glN X.length (ft X) = X.map fun x => (x.1, -(lst x.2).n) := by
 refine List.ext_getElem? (fun i => ?_)
 simp only [glN, List.getElem?_map]
 by_cases h : i < X.length
 ·rw [List.getElem?_range h, List.getElem?_eq_getElem h]
  simp [ft, tmOf, List.getD_eq_getElem?_getD, h]
 ·rw [List.getElem?_eq_none (by simpa using h), List.getElem?_eq_none (by omega)]
  rfl
theorem foldl_mem {L : Int} : ∀ (Y X : List Tm) (z : Tm), z ∈ Y.foldl (ins L) X → (∃ x ∈ Y, z.1 = x.1) ∨ z ∈ X
 | [], X, z, h => .inr h
 | y :: Y, X, z, h => by
  rcases foldl_mem Y (ins L X y) z h with ⟨x, hx, e⟩ | h
  ·exact .inl ⟨x, by simp [hx], e⟩
  ·rcases Cm.ins_mem h with e | h
   ·exact .inl ⟨y, by simp, e⟩
   ·exact .inr h
theorem lf_mem {L : Int} {X : List Tm} {z : Tm} (h : z ∈ lf L X) : ∃ x ∈ X, z.1 = x.1 := by
 rcases foldl_mem X [] z h with h | h
 ·exact h
 ·simp at h
theorem nm_true {m Kg : Nat} {X : List Tm} (h : ∀ x ∈ X, hs m Kg x.1 = true) : nm m Kg X.length (ft X) = true := by
 unfold nm
 rw [an_false (fun k hk => ?_)]
 ·rfl
 ·have : (ft X k).q = X[k].1 := by simp [ft, tmOf, List.getD_eq_getElem?_getD, hk]
  rw [this, h _ (List.getElem_mem hk)]
  rfl
def lw (c : Int) (n : Nat) : List Tm := (List.range n).map fun (i : Nat) => (((2 : Int), (i : Int)), c)
theorem lw_len (c : Int) (n : Nat) : (lw c n).length = n := by simp [lw]
theorem lw_succ (c : Int) (n : Nat) : lw c (n + 1) = lw c n ++ [((2, (n : Int)), c)] := by simp [lw, List.range_succ]
theorem lw_mem {c : Int} {n : Nat} {x : Tm} (h : x ∈ lw c n) : ∃ i : Nat, i < n ∧ x = ((2, (i : Int)), c) := by
 simp only [lw, List.mem_map, List.mem_range] at h
 obtain ⟨i, hi, rfl⟩ := h
 exact ⟨i, hi, rfl⟩
theorem lw_co (c : Int) (n : Nat) (q : Wr) : co (lw c n) q = if q.1 = 2 ∧ 0 ≤ q.2 ∧ q.2 < n then c else 0 := by
 induction n with
 | zero =>
  rw [if_neg (by omega)]
  rfl
 | succ n ih =>
  rw [lw_succ, Cm.co_app, ih, Cm.co_cons, Cm.co_nil]
  obtain ⟨a, b⟩ := q
  simp only [Prod.mk.injEq]
  by_cases h1 : a = 2 ∧ 0 ≤ b ∧ b < (n : Int)
  ·rw [if_pos h1, if_neg (by omega), if_pos (by omega)]
   omega
  ·rw [if_neg h1]
   by_cases h2 : 2 = a ∧ (n : Int) = b
   ·rw [if_pos h2, if_pos (by omega)]
    omega
   ·rw [if_neg h2, if_neg (by omega)]
    omega
theorem lw_map (c d : Int) (n : Nat) (f : Int → Int) (h : f c = d) : (lw c n).map (fun x => (x.1, f x.2)) = lw d n := by
 simp [lw, h]
theorem lw_up (c : Int) (n : Nat) : (lw c n).Pairwise (fun x y => bf x.1 y.1 = true) := by
 unfold lw
 rw [List.pairwise_map]
 refine List.Pairwise.imp ?_ (List.pairwise_lt_range (n := n))
 intro i j hij
 rw [Cm.bf_iff]
 right
 exact ⟨rfl, by simpa using hij⟩
theorem L_gt : (7 : Int) < Sm.L := by decide
theorem lst3 : (lst 3).n = 3 := by rw [lst_n]; decide
theorem lst1 : (lst 1).n = 1 := by rw [lst_n]; decide
def lng (n : Nat) : List Tm := lw 3 n ++ lw 3 n
end Ci
end Go.Proofs.YtljmgfclhbadjaaGreatDoor
namespace Go.Proofs.YtljmgfclhbadjaaGreatDoor
open Go.RowKit
set_option linter.unusedVariables false
set_option linter.unusedSimpArgs false
open Cm (Wr Tm co bf Ls lf ins Eqm)
namespace Ci
set_option maxRecDepth 100000
set_option maxHeartbeats 4000000
theorem cloneL_any {base n : Nat} {v : Value} {vs : List Value} (w : World) (ho : w.ownsRow base 50 1 v n vs) (hn : n ≤ 4096) (h1 : ∀ u ∈ vs, u.oneCell' = true) : Calls Tryz.prog 94 #[v] w fun e w' => ∃ P c, e = .returned (.slice P n c) ∧ w'.ownsRow w.heap.size 50 1 (.slice P n c) n vs ∧ Below w.heap.size w w' := by
 have eqn := fun (a : Option Addr) (l c : Nat) (w : World) => Lib.run_eql_slice_nil (P := Tryz.prog) w 48 50 a l c 0 0 (by kernel_rfl)
 rcases ho.2 with ⟨rfl, rfl⟩ | ⟨g, c, cur, rfl, _, hh, hnc, _⟩
 ·have e0 : vs = [] := List.eq_nil_of_length_eq_zero (by have := ho.1; omega)
  subst e0
  clear ho h1 hn
  go_enter Tryz.func94, Tryz.ntmps94
  go_wp2_with fail
  refine bodyPost_ret (v := .slice none 0 0) (by simp [results, Tryz.results94, go_sem]) rfl ⟨none, 0, rfl, World.ownsRow_nil _ _ _ _, Below.refl _ _⟩
 ·have HN := Hn hn
  have HI : Hid ((Tryz.prog.info? 50) = some (Tryz.prog.info? 50).get!) := Hn (by kernel_rfl)
  have HZ0 : Hid ((Tryz.prog.info? 50).get!.zero = some (.slice none 0 0)) := Hn (by kernel_rfl)
  have HZ1 : Hid ((Tryz.prog.info? 50).get!.size = 1) := Hn (by kernel_rfl)
  have HZ2 : Hid ((Tryz.prog.info? 50).get!.bytes = 24) := Hn (by kernel_rfl)
  have T1 : Hid (Tryz.prog.underlying 48 = some (.slice 50)) := Hn (by kernel_rfl)
  have O0 := Hn (World.ownsRow_made (base := w.heap.size) (e := 50) (size := 1) w #[] 0 (Nat.le_refl _) (by unfold maxLen; omega) rfl)
  have B0 := Hn (bl_alloc w (.cells #[] 50))
  have HC : Hid (∀ j u, vs[j]? = some u → (w.alloc (.cells #[] 50)).cell? ((⟨g, 0, none⟩ : Addr).add j) = some u) := Hn (fun j u hu => by
   have := ho.cells (g := g) rfl j u hu
   rw [Addr.add_mid] at this ⊢
   exact cell_keep this (bl_alloc w _))
  have HL : Hid (vs.length = n * 1) := Hn ho.1
  have H1 := Hn h1
  clear ho hn h1 hh hnc
  go_enter Tryz.func94, Tryz.ntmps94
  go_wp2_with (first | (at_builtin; have x4 : 0 + n ≤ maxLen := (by have := HN.out; unfold maxLen; omega); have x5 : (0 + n) * 24 ≤ 140737488355328 := (by have := HN.out; omega); refine wpList_append_own_at _ rfl _ _ 48 rfl w.heap.size 50 _ _ 1 24 T1.out HI.out HZ0.out HZ1.out HZ2.out rfl (by decide) _ 0 [] rfl O0.out ⟨g, 0, none⟩ n c vs rfl HL.out HC.out H1.out x4 x5 B0.out.size ?_; intro v2 w2 ho hg _ _; have HO := Hn ho; have HG := Hn hg; clear ho hg x4 x5))
  have ho2 := HO.out
  rw [Nat.zero_add, List.nil_append] at ho2
  obtain ⟨P2, c2, e2, _⟩ : ∃ (P : Option Addr) (c : Nat), v2 = .slice P n c ∧ True := by
   rcases ho2.2 with ⟨h1, h2⟩ | ⟨g, c, cur, h1, _⟩
   ·exact ⟨none, 0, by rw [h1, h2], trivial⟩
   ·exact ⟨_, c, h1, trivial⟩
  subst e2
  refine bodyPost_ret (v := .slice P2 n c2) (by simp [results, Tryz.results94, go_sem]) rfl ⟨P2, c2, rfl, ho2, ?_⟩
  exact B0.out.grown HG.out B0.out.size (fun k hk => by obtain rfl := Option.some.inj hk; exact Nat.le_refl _)
theorem Sy.ones {base : Nat} {w : World} {s m Kg : Nat} {v : Value} {vs : List Value} {Q : List (List Tm)} (h : Sy base w s m Kg v vs Q) : ∀ u ∈ vs, u.oneCell' = true := fun u hu => by
 obtain ⟨i, hi⟩ := List.mem_iff_getElem?.1 hu
 have hl : i < Q.length := by have := h.row.1; have := (List.getElem?_eq_some_iff.1 hi).1; omega
 obtain ⟨u', hu', ho⟩ := h.ls i Q[i] (by simp [hl])
 rw [hi] at hu'
 obtain rfl := Option.some.inj hu'
 obtain ⟨P, c, rfl, _⟩ := own_shT ho
 rfl
end Ci
end Go.Proofs.YtljmgfclhbadjaaGreatDoor
