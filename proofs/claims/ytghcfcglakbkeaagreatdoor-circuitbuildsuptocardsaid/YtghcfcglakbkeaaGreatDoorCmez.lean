import Derived.Test.YtghcfcglakbkeaaGreatDoorCmd
import Derived.Sort.Grow
import Derived.Deep.Draws
import Derived.Shelf.SlSortCmp.WholeK
namespace Go.Proofs.YtghcfcglakbkeaaGreatDoor
set_option maxRecDepth 100000
set_option maxHeartbeats 16000000
open Go.RowKit
set_option linter.unusedVariables false
set_option linter.unusedSimpArgs false
open Cm (Wr Tm co bf Ls lf ins Eqm)
namespace Ci
def Gr (W x : World) : Prop := ∃ n os, x = Go.Sort.grow (W.drewN n) os
theorem Gr.refl (W : World) : Gr W W := ⟨0, #[], by rw [Go.Sort.grow_empty]; rfl⟩
theorem Gr.alloc {W x : World} (h : Gr W x) (o : Obj) : Gr W (x.alloc o) := by
 obtain ⟨n, os, rfl⟩ := h
 exact ⟨n, os ++ #[o], by rw [Go.Sort.alloc_eq_grow, Go.Sort.grow_grow]⟩
theorem Gr.drew {W x : World} (h : Gr W x) : Gr W x.drew := by
 obtain ⟨n, os, rfl⟩ := h
 exact ⟨n + 1, os, rfl⟩
theorem Gr.trans {W x y : World} (h : Gr W x) (k : Gr x y) : Gr W y := by
 obtain ⟨n, os, rfl⟩ := h
 obtain ⟨m, os', rfl⟩ := k
 refine ⟨n + m, os ++ os', ?_⟩
 rw [← Go.Sort.grow_grow]
 show _ = Go.Sort.grow (Go.Sort.grow (W.drewN (n + m)) os) os'
 unfold Go.Sort.grow World.drewN
 simp [Nat.add_assoc]
theorem Gr.below {W x : World} (h : Gr W x) : Below W.heap.size W x := by
 obtain ⟨n, os, rfl⟩ := h
 refine ⟨rfl, rfl, rfl, by simp [Go.Sort.grow, World.drewN], fun k hk => ?_⟩
 show (W.heap ++ os)[k]? = W.heap[k]?
 rw [Array.getElem?_append_left hk]
def cmpI (x y : Int) : Int := if x < y then -1 else if y < x then 1 else 0
theorem isNaN_any (x : Int) (w : World) : Calls Tryz.prog 171 #[.int .i64 x] w fun e w' => e = .returned (.bool false) ∧ w' = w := by
 go_enter Tryz.func171, Tryz.ntmps171
 go_wp2_with fail
 refine bodyPost_ret (v := .bool false) (by simp [results, Tryz.results171, go_sem]) rfl ⟨rfl, rfl⟩
theorem Compare_any (x y : Int) (w : World) : Calls Tryz.prog 158 #[.int .i64 x, .int .i64 y] w fun e w' => e = .returned (.int .i64 (cmpI x y)) ∧ w' = w := by
 have C := Hn (fun z : Int => isNaN_any z w)
 by_cases h1 : x < y
 ·have e : cmpI x y = -1 := by unfold cmpI; rw [if_pos h1]
  rw [e]
  go_enter Tryz.func158, Tryz.ntmps158
  go_wp2_with (go_at_call 171; refine (C.out _).mono ?_; rintro e w1 ⟨rfl, rfl⟩)
  refine bodyPost_ret (v := .int .i64 (-1)) (by simp [results, Tryz.results158, go_sem]) rfl ⟨rfl, rfl⟩
 ·by_cases h2 : y < x
  ·have e : cmpI x y = 1 := by unfold cmpI; rw [if_neg h1, if_pos h2]
   rw [e]
   go_enter Tryz.func158, Tryz.ntmps158
   go_wp2_with (go_at_call 171; refine (C.out _).mono ?_; rintro e w1 ⟨rfl, rfl⟩)
   refine bodyPost_ret (v := .int .i64 1) (by simp [results, Tryz.results158, go_sem]) rfl ⟨rfl, rfl⟩
  ·have e : cmpI x y = 0 := by unfold cmpI; rw [if_neg h1, if_neg h2]
   rw [e]
   go_enter Tryz.func158, Tryz.ntmps158
   go_wp2_with (go_at_call 171; refine (C.out _).mono ?_; rintro e w1 ⟨rfl, rfl⟩)
   refine bodyPost_ret (v := .int .i64 0) (by simp [results, Tryz.results158, go_sem]) rfl ⟨rfl, rfl⟩
def orI (c d : Int) : Int := if c = 0 then d else c
theorem Or_any (B : Nat) (c d : Int) (w : World) (h0 : w.cell? ⟨B, 0, none⟩ = some (.int .i64 c)) (h1 : w.cell? ⟨B, 1, none⟩ = some (.int .i64 d)) :
  Calls Tryz.prog 157 #[.slice (some ⟨B, 0, none⟩) 2 2] w fun e w' => e = .returned (.int .i64 (orI c d)) ∧ w' = w := by
 go_enter Tryz.func157, Tryz.ntmps157
 go_wp2_with fail
 go_loopw [8] (fun iv w' => w' = w ∧ (iv = .int .i64 0 ∨ (iv = .int .i64 1 ∧ c = 0) ∨ (iv = .int .i64 2 ∧ c = 0 ∧ d = 0))) (fun i _ => 2 - (intOf i).toNat)
 case atStart => exact ⟨rfl, .inl rfl⟩
 case round =>
  obtain ⟨rfl, hI⟩ := hrel
  rcases hI with rfl | ⟨rfl, hc⟩ | ⟨rfl, hc, hd⟩
  ·by_cases hc : c = 0
   ·subst hc
    go_wp2_with fail
    go_roundw
    case rel => simp
    case measure => simp [intOf]
   ·have e : orI c d = c := by unfold orI; rw [if_neg hc]
    replace e := Hn e
    go_wp2_with fail
    refine bodyPost_ret (v := .int .i64 c) (by simp [results, Tryz.results157, go_sem]) rfl ⟨by rw [e.out], rfl⟩
  ·subst hc
   by_cases hd : d = 0
   ·subst hd
    go_wp2_with fail
    go_roundw
    case rel => simp
    case measure => simp [intOf]
   ·have e : orI 0 d = d := by unfold orI; rw [if_pos rfl]
    replace e := Hn e
    go_wp2_with fail
    refine bodyPost_ret (v := .int .i64 d) (by simp [results, Tryz.results157, go_sem]) rfl ⟨by rw [e.out], rfl⟩
  ·subst hc
   subst hd
   have e : orI 0 0 = 0 := by unfold orI; rw [if_pos rfl]
   replace e := Hn e
   go_wp2_with fail
   refine bodyPost_ret (v := .int .i64 0) (by simp [results, Tryz.results157, go_sem]) rfl ⟨by rw [e.out], rfl⟩
theorem build2 (c d : Int) (w : World) : (Instr.buildSlice 60 2 #[(0, .int .i64 c), (1, .int .i64 d)]).run Tryz.prog w = .ok (.slice (some ⟨w.heap.size, 0, none⟩) 2 2) (w.alloc (.cells #[.int .i64 c, .int .i64 d] 3)) := by kernel_rfl
theorem wp_build2 {w : World} {o : Oper} {a : Act} {K : Act → World → Prop} {Q : Exit → Act → World → Prop} (x0 x1 : Operand) (ho : o.op = .buildSlice 60 2 #[(0, x0), (1, x1)]) (c d : Int) (h0 : a.eval x0 = .int .i64 c) (h1 : a.eval x1 = .int .i64 d) (h : ∀ (tb : Nat) (wq : World), tb = w.heap.size → wq = w.alloc (.cells #[.int .i64 c, .int .i64 d] 3) → K (a.put o.dst (.slice (some ⟨tb, 0, none⟩) 2 2)) wq) : o.wp Tryz.prog a w K Q := by
 have hr := build2 c d w
 unfold Oper.wp execOp
 simp only [ho, Sem.run_bind, Sem.run_pure, Result.andThen_ok, List.map_toArray, List.map_cons, List.map_nil, h0, h1, hr]
 exact h _ _ rfl rfl
def cw (p q : Wr) : Int := orI (cmpI p.1 q.1) (cmpI p.2 q.2)
def pCme0 : String := "lin.go:28"
def by1o_0 : Oper := oO 5 (Op.fieldAddr 79 (Operand.tmp 2) 0) 0 pCme0 #[]
def by1o_1 : Oper := oO 6 (Op.load 3 (Operand.tmp 5)) 3 pCme0 #[DD 0]
def by1o_2 : Oper := oO 7 (Op.fieldAddr 79 (Operand.tmp 3) 0) 0 pCme0 #[]
def by1o_3 : Oper := oO 8 (Op.load 3 (Operand.tmp 7)) 3 pCme0 #[DD 2]
def by1o_4 : Oper := oO 9 (Op.call { callee := Callee.value (Operand.func 158), args := #[Operand.tmp 6, Operand.tmp 8], argTypes := #[3, 3] }) 3 pCme0 #[DD 1, DD 3]
def by1o_5 : Oper := oO 10 (Op.fieldAddr 79 (Operand.tmp 2) 1) 0 pCme0 #[]
def by1o_6 : Oper := oO 11 (Op.load 3 (Operand.tmp 10)) 3 pCme0 #[DD 5]
def by1o_7 : Oper := oO 12 (Op.fieldAddr 79 (Operand.tmp 3) 1) 0 pCme0 #[]
def by1o_8 : Oper := oO 13 (Op.load 3 (Operand.tmp 12)) 3 pCme0 #[DD 7]
def by1o_9 : Oper := oO 14 (Op.call { callee := Callee.value (Operand.func 158), args := #[Operand.tmp 11, Operand.tmp 13], argTypes := #[3, 3] }) 3 pCme0 #[DD 6, DD 8, CH 4]
def by1o_10 : Oper := oO 15 (Op.buildSlice 60 2 #[(0, Operand.tmp 9), (1, Operand.tmp 14)]) 60 pCme0 #[DD 4, DD 9]
def by1o_11 : Oper := oO 16 (Op.call { callee := Callee.value (Operand.func 157), args := #[Operand.tmp 15], argTypes := #[60] }) 3 pCme0 #[DD 10, CH 9]
def by1o_12 : Oper := oO 4 (Op.assign (Operand.tmp 16)) 3 pCme0 #[DD 11, CH 11, PH 0, PH 1, PH 2, PH 3, PH 4, PH 5, PH 6, PH 7, PH 8, PH 9, PH 10, PH 11]
def by1o : Array Oper := #[by1o_0, by1o_1, by1o_2, by1o_3, by1o_4, by1o_5, by1o_6, by1o_7, by1o_8, by1o_9, by1o_10, by1o_11, by1o_12]
theorem by1 (Q : Exit → Act → World → Prop) (A B : Nat) (p0 p1 q0 q1 c d r : Int) (u0 u1 u4 u5 u6 u7 u8 u9 u10 u11 u12 u13 u14 u15 u16 : Value) (W : World)
  (a0 : W.cell? ⟨A, 0, none⟩ = some (.int .i64 p0)) (a1 : W.cell? ⟨A, 1, none⟩ = some (.int .i64 p1)) (b0 : W.cell? ⟨B, 0, none⟩ = some (.int .i64 q0)) (b1 : W.cell? ⟨B, 1, none⟩ = some (.int .i64 q1))
  (C4 : Hid (∀ y, Calls Tryz.prog 158 #[.int .i64 p0, .int .i64 q0] y fun e w' => e = .returned (.int .i64 c) ∧ w' = y))
  (C9 : Hid (∀ y, Calls Tryz.prog 158 #[.int .i64 p1, .int .i64 q1] y fun e w' => e = .returned (.int .i64 d) ∧ w' = y))
  (C11 : Hid (∀ y tb, y.cell? ⟨tb, 0, none⟩ = some (.int .i64 c) → y.cell? ⟨tb, 1, none⟩ = some (.int .i64 d) → Calls Tryz.prog 157 #[.slice (some ⟨tb, 0, none⟩) 2 2] y fun e w' => e = .returned (.int .i64 r) ∧ w' = y))
  (HQ : Hid (∀ (wz : World) (tb : Nat), Gr W wz → Q .normal ⟨#[u0, u1, .pointer (some ⟨A, 0, none⟩), .pointer (some ⟨B, 0, none⟩), .int .i64 r, .pointer (some ⟨A, 0, none⟩), .int .i64 p0, .pointer (some ⟨B, 0, none⟩), .int .i64 q0, .int .i64 c, .pointer (some ⟨A, 1, none⟩), .int .i64 p1, .pointer (some ⟨B, 1, none⟩), .int .i64 q1, .int .i64 d, .slice (some ⟨tb, 0, none⟩) 2 2, .int .i64 r], []⟩ wz)) : (Code.region 1 by1o true).wp Tryz.prog Q ⟨#[u0, u1, .pointer (some ⟨A, 0, none⟩), .pointer (some ⟨B, 0, none⟩), u4, u5, u6, u7, u8, u9, u10, u11, u12, u13, u14, u15, u16], []⟩ W := by
 unfold by1o
 refine wp_region_noPanic ?_
 refine wp_region_held_drew (S := fun x => Gr W x) (by kernel_rfl) ((Gr.refl W).drew) (fun hH0 => ?_)
 refine tj 0 by1o_0 (.pointer (some ⟨A, 0, none⟩)) hH0 (fun w0 hSw => ?_) ?_
 ·(unfold by1o_0 oO; clear hSw; go_simp)
 simp only [by1o_0, oO, Act.put, sA, sB, sC]
 refine tj 2 by1o_2 (.pointer (some ⟨B, 0, none⟩)) hH0 (fun w0 hSw => ?_) ?_
 ·(unfold by1o_2 oO; clear hSw; go_simp)
 simp only [by1o_2, oO, Act.put, sA, sB, sC]
 refine tj 5 by1o_5 (.pointer (some ⟨A, 1, none⟩)) hH0 (fun w0 hSw => ?_) ?_
 ·(unfold by1o_5 oO; clear hSw; go_simp)
 simp only [by1o_5, oO, Act.put, sA, sB, sC]
 refine tj 7 by1o_7 (.pointer (some ⟨B, 1, none⟩)) hH0 (fun w0 hSw => ?_) ?_
 ·(unfold by1o_7 oO; clear hSw; go_simp)
 simp only [by1o_7, oO, Act.put, sA, sB, sC]
 refine tj 1 by1o_1 (.int .i64 p0) hH0 (fun w0 hSw => ?_) ?_
 ·(unfold by1o_1 oO; have hS : Gr W w0 := hSw; have a0 := cell_keep a0 hS.below; clear hS hSw; go_simp)
 simp only [by1o_1, oO, Act.put, sA, sB, sC]
 refine tj 3 by1o_3 (.int .i64 q0) hH0 (fun w0 hSw => ?_) ?_
 ·(unfold by1o_3 oO; have hS : Gr W w0 := hSw; have a0 := cell_keep b0 hS.below; clear hS hSw; go_simp)
 simp only [by1o_3, oO, Act.put, sA, sB, sC]
 refine tj 6 by1o_6 (.int .i64 p1) hH0 (fun w0 hSw => ?_) ?_
 ·(unfold by1o_6 oO; have hS : Gr W w0 := hSw; have a0 := cell_keep a1 hS.below; clear hS hSw; go_simp)
 simp only [by1o_6, oO, Act.put, sA, sB, sC]
 refine tj 8 by1o_8 (.int .i64 q1) hH0 (fun w0 hSw => ?_) ?_
 ·(unfold by1o_8 oO; have hS : Gr W w0 := hSw; have a0 := cell_keep b1 hS.below; clear hS hSw; go_simp)
 simp only [by1o_8, oO, Act.put, sA, sB, sC]
 refine ar [4] ?_
 refine ac by1o_4 (fun K hK => ?_) AllReadyH.nil
 unfold by1o_4 oO
 have HH := Hn hH0
 clear hH0
 go_simp
 refine (C4.out _).mono ?_
 rintro e wn1 ⟨rfl, rfl⟩
 have SN := Hn (HH.out)
 clear HH C4
 go_wp2_with fail
 refine hK.out _ _ SN.out (fun hH1 => ?_)
 clear hK K SN
 refine ar [9] ?_
 refine ac by1o_9 (fun K hK => ?_) AllReadyH.nil
 unfold by1o_9 oO
 have HH := Hn hH1
 clear hH1
 go_simp
 refine (C9.out _).mono ?_
 rintro e wn2 ⟨rfl, rfl⟩
 have SN := Hn (HH.out)
 clear HH C9
 go_wp2_with fail
 refine hK.out _ _ SN.out (fun hH2 => ?_)
 clear hK K SN
 refine ar [10] ?_
 refine ac by1o_10 (fun K hK => ?_) AllReadyH.nil
 unfold by1o_10 oO
 have HH := Hn hH2
 clear hH2
 refine wp_build2 _ _ rfl c d rfl rfl (fun tb wn3 htb hwq => ?_)
 have SN := Hn (by rw [hwq]; exact HH.out.alloc _ : Gr W wn3)
 have CA := Hn ((by rw [htb, hwq]; go_simp : wn3.cell? ⟨tb, 0, none⟩ = some (.int .i64 c)))
 have CB := Hn ((by rw [htb, hwq]; go_simp : wn3.cell? ⟨tb, 1, none⟩ = some (.int .i64 d)))
 clear HH htb hwq
 simp only [Act.put, sA, sB, sC]
 refine hK.out _ _ SN.out (fun hH3 => ?_)
 clear hK K SN
 refine ar [11] ?_
 refine ac by1o_11 (fun K hK => ?_) AllReadyH.nil
 unfold by1o_11 oO
 have HH := Hn hH3
 clear hH3
 go_simp
 refine (C11.out _ _ CA.out CB.out).mono ?_
 rintro e wn4 ⟨rfl, rfl⟩
 have SN := Hn (HH.out)
 clear HH C11
 go_wp2_with fail
 refine hK.out _ _ SN.out (fun hH4 => ?_)
 clear hK K SN
 refine tj 12 by1o_12 (.int .i64 r) hH4 (fun w0 hSw => ?_) ?_
 ·(unfold by1o_12 oO; clear hSw; go_simp)
 simp only [by1o_12, oO, Act.put, sA, sB, sC]
 have HH := Hn hH4
 have FQ := Hn (HQ.out _ tb HH.out)
 refine wpAnyH_done (by kernel_rfl) ?_ _
 refine NoPanic.normal ?_
 exact FQ.out
theorem byWire_any (p q : Wr) (w : World) : Calls Tryz.prog 147 #[.agg #[.int .i64 p.1, .int .i64 p.2], .agg #[.int .i64 q.1, .int .i64 q.2]] w fun e w' => e = .returned (.int .i64 (cw p q)) ∧ Gr w w' := by
 obtain ⟨p0, p1⟩ := p
 obtain ⟨q0, q1⟩ := q
 simp only
 have C4 := Hn (fun y => Compare_any p0 q0 y)
 have C9 := Hn (fun y => Compare_any p1 q1 y)
 have C11 := Hn (fun y tb h0 h1 => Or_any tb (cmpI p0 q0) (cmpI p1 q1) y h0 h1)
 have e : orI (cmpI p0 q0) (cmpI p1 q1) = cw (p0, p1) (q0, q1) := rfl
 rw [e] at C11
 clear e
 generalize cw (p0, p1) (q0, q1) = r at *
 generalize cmpI p0 q0 = c at *
 generalize cmpI p1 q1 = d at *
 go_enter Tryz.func147, Tryz.ntmps147
 go_upto_region 1 with fail
 have G0 := Hn (((Gr.refl w).alloc (.cells #[.int .i64 p0, .int .i64 p1] 79)).alloc (.cells #[.int .i64 q0, .int .i64 q1] 79))
 have a0 : ((w.alloc (.cells #[.int .i64 p0, .int .i64 p1] 79)).alloc (.cells #[.int .i64 q0, .int .i64 q1] 79)).cell? ⟨w.heap.size, 0, none⟩ = some (.int .i64 p0) := by go_simp
 have a1 : ((w.alloc (.cells #[.int .i64 p0, .int .i64 p1] 79)).alloc (.cells #[.int .i64 q0, .int .i64 q1] 79)).cell? ⟨w.heap.size, 1, none⟩ = some (.int .i64 p1) := by go_simp
 have b0 : ((w.alloc (.cells #[.int .i64 p0, .int .i64 p1] 79)).alloc (.cells #[.int .i64 q0, .int .i64 q1] 79)).cell? ⟨w.heap.size + 1, 0, none⟩ = some (.int .i64 q0) := by go_simp
 have b1 : ((w.alloc (.cells #[.int .i64 p0, .int .i64 p1] 79)).alloc (.cells #[.int .i64 q0, .int .i64 q1] 79)).cell? ⟨w.heap.size + 1, 1, none⟩ = some (.int .i64 q1) := by go_simp
 generalize ((w.alloc (.cells #[.int .i64 p0, .int .i64 p1] 79)).alloc (.cells #[.int .i64 q0, .int .i64 q1] 79)) = wa at *
 refine by1 _ w.heap.size (w.heap.size + 1) p0 p1 q0 q1 c d r _ _ _ _ _ _ _ _ _ _ _ _ _ _ _ wa a0 a1 b0 b1 C4 C9 C11 (Hn ?_)
 intro wz tb gz
 have GZ := Hn (G0.out.trans gz)
 clear a0 a1 b0 b1 C4 C9 C11 gz G0
 go_wp2_with fail
 refine bodyPost_ret (v := .int .i64 r) (by simp [results, Tryz.results147, go_sem]) rfl ⟨rfl, GZ.out⟩
theorem told1_any (x y : Trm) (w : World) : Calls Tryz.prog 146 #[.agg x.cs.toArray, .agg y.cs.toArray] w fun e w' => e = .returned (.int .i64 (cw x.q y.q)) ∧ Gr w w' := by
 have C := Hn (fun v => byWire_any x.q y.q v)
 obtain ⟨⟨p0, p1⟩, a⟩ := x
 obtain ⟨⟨q0, q1⟩, b⟩ := y
 simp only [Trm.cs] at C ⊢
 generalize cw (p0, p1) (q0, q1) = r at *
 have G0 := Hn (((Gr.refl w).alloc (.cells #[.int .i64 p0, .int .i64 p1, .int .u64 a.x0, .int .u64 a.x1, .int .u64 a.x2, .int .u64 a.x3] 123)).alloc (.cells #[.int .i64 q0, .int .i64 q1, .int .u64 b.x0, .int .u64 b.x1, .int .u64 b.x2, .int .u64 b.x3] 123))
 go_enter Tryz.func146, Tryz.ntmps146
 go_wp2_with (go_at_call 147; refine (C.out _).mono ?_; rintro e w1 ⟨rfl, hg⟩; have G1 := Hn (G0.out.trans hg); clear hg)
 clear C G0
 refine bodyPost_ret (v := .int .i64 r) (by simp [results, Tryz.results146, go_sem]) rfl ⟨rfl, G1.out⟩
theorem cw_neg (p q : Wr) : cw p q < 0 ↔ bf p q = true := by
 rw [Cm.bf_iff]
 unfold cw orI cmpI
 by_cases h1 : p.1 < q.1
 ·simp [h1]
 ·by_cases h2 : q.1 < p.1
  ·simp [h1, h2]; omega
  ·have e : p.1 = q.1 := by omega
   by_cases h3 : p.2 < q.2
   ·simp [e, h3]
   ·by_cases h4 : q.2 < p.2
    ·simp [e, h3, h4]
    ·simp [e, h3, h4]
end Ci
end Go.Proofs.YtghcfcglakbkeaaGreatDoor
namespace Go.Proofs.YtghcfcglakbkeaaGreatDoor
namespace Ci
def pdqT_ren : Go.Shelf.Ren := ⟨fun | 14 => 155 | 20 => 161 | 21 => 162 | 22 => 163 | 23 => 164 | 24 => 165 | 25 => 166 | 26 => 167 | 27 => 168 | 46 => 175 | 47 => 176 | 48 => 177 | 49 => 178 | 50 => 179 | 15 => 156 | 57 => 180 | 28 => 169 | 29 => 170 | n => n, fun | 24 => 123 | 22 => 37 | 3 => 3 | 25 => 206 | 4 => 4 | 0 => 0 | 46 => 217 | 45 => 216 | 50 => 221 | 66 => 230 | 39 => 153 | 55 => 39 | 70 => 234 | 76 => 237 | 77 => 238 | 53 => 224 | 5 => 5 | 9 => 9 | n => n, fun | n => n⟩
theorem pdqT : Go.Proofs.SlLaysF0.n14 Tryz.prog pdqT_ren := {
 mixed := by kernel_rfl,
 f14 := ⟨Tryz.f155.name, by decide, Tryz.func155.trans (congrArg some (by kernel_rfl))⟩,
 f15 := Tryz.func156.trans (congrArg some (by kernel_rfl)),
 f20 := ⟨Tryz.f161.name, by decide, Tryz.func161.trans (congrArg some (by kernel_rfl))⟩,
 f21 := ⟨Tryz.f162.name, by decide, Tryz.func162.trans (congrArg some (by kernel_rfl))⟩,
 f22 := ⟨Tryz.f163.name, by decide, Tryz.func163.trans (congrArg some (by kernel_rfl))⟩,
 f23 := ⟨Tryz.f164.name, by decide, Tryz.func164.trans (congrArg some (by kernel_rfl))⟩,
 f24 := ⟨Tryz.f165.name, by decide, Tryz.func165.trans (congrArg some (by kernel_rfl))⟩,
 f25 := ⟨Tryz.f166.name, by decide, Tryz.func166.trans (congrArg some (by kernel_rfl))⟩,
 f26 := ⟨Tryz.f167.name, by decide, Tryz.func167.trans (congrArg some (by kernel_rfl))⟩,
 f27 := ⟨Tryz.f168.name, by decide, Tryz.func168.trans (congrArg some (by kernel_rfl))⟩,
 f28 := Tryz.func169.trans (congrArg some (by kernel_rfl)),
 f29 := Tryz.func170.trans (congrArg some (by kernel_rfl)),
 f46 := ⟨Tryz.f175.name, by decide, Tryz.func175.trans (congrArg some (by kernel_rfl))⟩,
 f47 := Tryz.func176.trans (congrArg some (by kernel_rfl)),
 f48 := Tryz.func177.trans (congrArg some (by kernel_rfl)),
 f49 := ⟨Tryz.f178.name, by decide, Tryz.func178.trans (congrArg some (by kernel_rfl))⟩,
 f50 := ⟨Tryz.f179.name, by decide, Tryz.func179.trans (congrArg some (by kernel_rfl))⟩,
 f57 := ⟨Tryz.f180.name, by decide, Tryz.func180.trans (congrArg some (by kernel_rfl))⟩,
 t0 := Tryz.underlying0,
 a0 := Tryz.isAgg0,
 z0 := Tryz.sizeOf0,
 v0 := Tryz.zeroValue0,
 t3 := Tryz.underlying3,
 a3 := Tryz.isAgg3,
 z3 := Tryz.sizeOf3,
 v3 := Tryz.zeroValue3,
 t4 := Tryz.underlying4,
 a4 := Tryz.isAgg4,
 z4 := Tryz.sizeOf4,
 v4 := Tryz.zeroValue4,
 t5 := Tryz.underlying5,
 a5 := Tryz.isAgg5,
 z5 := Tryz.sizeOf5,
 v5 := Tryz.zeroValue5,
 t9 := Tryz.underlying9,
 a9 := Tryz.isAgg9,
 z9 := Tryz.sizeOf9,
 v9 := Tryz.zeroValue9,
 t22 := Tryz.underlying37,
 a22 := Tryz.isAgg37,
 z22 := Tryz.sizeOf37,
 v22 := Tryz.zeroValue37,
 t25 := Tryz.underlying206,
 a25 := Tryz.isAgg206,
 z25 := Tryz.sizeOf206,
 v25 := Tryz.zeroValue206,
 t39 := Tryz.underlying153,
 a39 := Tryz.isAgg153,
 z39 := Tryz.sizeOf153,
 v39 := Tryz.zeroValue153,
 t45 := Tryz.underlying216,
 a45 := Tryz.isAgg216,
 z45 := Tryz.sizeOf216,
 v45 := Tryz.zeroValue216,
 t46 := Tryz.underlying217,
 a46 := Tryz.isAgg217,
 z46 := Tryz.sizeOf217,
 v46 := Tryz.zeroValue217,
 t50 := Tryz.underlying221,
 a50 := Tryz.isAgg221,
 z50 := Tryz.sizeOf221,
 v50 := Tryz.zeroValue221,
 t53 := Tryz.underlying224,
 a53 := Tryz.isAgg224,
 z53 := Tryz.sizeOf224,
 v53 := Tryz.zeroValue224,
 t55 := Tryz.underlying39,
 a55 := Tryz.isAgg39,
 z55 := Tryz.sizeOf39,
 v55 := Tryz.zeroValue39,
 t66 := Tryz.underlying230,
 a66 := Tryz.isAgg230,
 z66 := Tryz.sizeOf230,
 v66 := Tryz.zeroValue230,
 t70 := Tryz.underlying234,
 a70 := Tryz.isAgg234,
 z70 := Tryz.sizeOf234,
 v70 := Tryz.zeroValue234,
 t76 := Tryz.underlying237,
 a76 := Tryz.isAgg237,
 z76 := Tryz.sizeOf237,
 v76 := Tryz.zeroValue237,
 t77 := Tryz.underlying238,
 a77 := Tryz.isAgg238,
 z77 := Tryz.sizeOf238,
 v77 := Tryz.zeroValue238 }
end Ci
end Go.Proofs.YtghcfcglakbkeaaGreatDoor
namespace Go.Proofs.YtghcfcglakbkeaaGreatDoor
open Go.RowKit
set_option linter.unusedVariables false
set_option linter.unusedSimpArgs false
open Cm (Wr Tm co bf Ls lf ins Eqm)
namespace Ci
instance : Inhabited Trm := ⟨⟨(0, 0), ⟨0, 0, 0, 0⟩⟩⟩
def cfT (x y : Trm) : Int := cw x.q y.q
theorem lt_cf (x y : Trm) : Go.Proofs.ltOf cfT x y = bf x.q y.q := by
 unfold Go.Proofs.ltOf cfT
 by_cases h : bf x.q y.q = true
 ·rw [h]; exact decide_eq_true ((cw_neg _ _).2 h)
 ·rw [Bool.not_eq_true] at h
  rw [h]
  exact decide_eq_false (fun e => by rw [(cw_neg _ _).1 e] at h; cases h)
theorem swoT : Go.Sort.SWO (Go.Proofs.ltOf cfT) where
 irrefl x := by rw [lt_cf]; exact Cm.bf_irrefl _
 trans x y z h1 h2 := by rw [lt_cf] at *; exact Cm.bf_trans h1 h2
 ntrans x y z h1 h2 := by
  rw [lt_cf] at *
  have h1' : ¬ (bf x.q y.q = true) := by simp [h1]
  have h2' : ¬ (bf y.q z.q = true) := by simp [h2]
  have h3 : ¬ (bf x.q z.q = true) := by
   rw [Cm.bf_iff] at *
   omega
  simpa using h3
theorem cs_len (x : Trm) : x.cs.length = 6 := rfl
theorem cs_one (x : Trm) : ∀ v ∈ x.cs, v.oneCell' = true := by
 intro v hv
 simp only [Trm.cs, List.mem_cons, List.not_mem_nil, or_false] at hv
 rcases hv with rfl | rfl | rfl | rfl | rfl | rfl <;> rfl
theorem flat_get : ∀ (D : List Trm) (j : Nat), j < D.length * 6 → (D.flatMap Trm.cs)[j]? = some ((D.getD (j / 6) default).cs[j % 6]!)
 | [], j, h => by simp at h
 | x :: D, j, h => by
  rw [List.flatMap_cons]
  by_cases hj : j < 6
  ·rw [List.getElem?_append_left (by rw [cs_len]; exact hj), show j / 6 = 0 by omega, show j % 6 = j by omega]
   have : j < x.cs.length := by rw [cs_len]; exact hj
   rw [List.getElem?_eq_getElem this]
   simp [this]
  ·rw [List.getElem?_append_right (by rw [cs_len]; omega), cs_len, flat_get D (j - 6) (by simp at h; omega)]
   rw [show j / 6 = (j - 6) / 6 + 1 by omega, show j % 6 = (j - 6) % 6 by omega]
   simp
theorem flat_len (D : List Trm) : (D.flatMap Trm.cs).length = D.length * 6 := by
 induction D with
 | nil => rfl
 | cons x D ih => rw [List.flatMap_cons, List.length_append, ih, cs_len]; simp; omega
theorem arr_get (D : List Trm) (i : Nat) : D.toArray[i]! = D.getD i default := by
 simp [List.getD_eq_getElem?_getD]
theorem flatK_get (D : List Trm) (j : Nat) (h : j < D.length * 6) : (Go.Sort.flatK Trm.cs 6 D.toArray)[j]! = (D.getD (j / 6) default).cs[j % 6]! := by
 rw [Go.Sort.get_flatK _ _ _ _ (by simpa using h), arr_get]
theorem own_holds {w : World} {base g c : Nat} {t : TypeId} {D : List Trm} (h : w.ownsRow base t 6 (.slice (some ⟨g, 0, none⟩) D.length c) D.length (D.flatMap Trm.cs)) : Go.Sort.HoldsK Trm.cs 6 w g 0 D.toArray := by
 intro j hj
 rw [Go.Sort.size_flatK, List.size_toArray] at hj
 refine ⟨?_, ?_⟩
 ·have := h.cells (g := g) rfl j _ (flat_get D j hj)
  rw [Addr.add_mid] at this
  rw [this, flatK_get D j hj]
  rfl
 ·have := h.frozenAt (g := g) (0 + j)
  exact this
theorem sort_grown (w : World) (g n : Nat) (D : List Trm) (os : Array Obj) : w.grownBy (Go.Proofs.sortWorldK Trm.cs 6 w g 0 n D.toArray os) (some g) := by
 refine ⟨rfl, rfl, rfl, ?_, ?_⟩
 ·show w.heap.size ≤ ((Go.Sort.putRowK Trm.cs 6 (Go.Sort.ahead w n) g 0 D.toArray).heap ++ os).size
  rw [Array.size_append]
  have : (Go.Sort.putRowK Trm.cs 6 (Go.Sort.ahead w n) g 0 D.toArray).heap.size = w.heap.size := by
   show (w.heap.modify g _).size = _
   simp
  omega
 ·intro i hi hne
  show ((w.heap.modify g _) ++ os)[i]? = w.heap[i]?
  rw [Array.getElem?_append_left (by simpa using hi), Array.getElem?_modify, if_neg (fun e => hne (by rw [e]))]
theorem sort_own {w : World} {base g c n : Nat} {t : TypeId} {D D' : List Trm} {os : Array Obj} (h : w.ownsRow base t 6 (.slice (some ⟨g, 0, none⟩) D.length c) D.length (D.flatMap Trm.cs)) (hl : D'.length = D.length) :
  (Go.Proofs.sortWorldK Trm.cs 6 w g 0 n D'.toArray os).ownsRow base t 6 (.slice (some ⟨g, 0, none⟩) D.length c) D.length (D'.flatMap Trm.cs) := by
 refine ⟨by rw [flat_len, hl], ?_⟩
 rcases h.2 with ⟨h', _⟩ | ⟨g', c', cur, h', hb, hg, hnc, hcm, hcs, ht⟩
 ·simp at h'
 ·simp only [Value.slice.injEq, Option.some.injEq, Addr.mk.injEq, and_true, true_and] at h'
  obtain ⟨rfl, rfl⟩ := h'
  have hlt := (Array.getElem?_eq_some_iff.1 hg).1
  refine .inr ⟨g, c, Go.Sort.putCells id 0 (Go.Sort.flatK Trm.cs 6 D'.toArray) cur, rfl, hb, ?_, hnc, hcm, by simp [Go.Sort.putCells, hcs], ?_⟩
  ·show ((w.heap.modify g _) ++ os)[g]? = _
   rw [Array.getElem?_append_left (by simpa using hlt), Array.getElem?_modify, if_pos rfl, hg]
   rfl
  ·refine List.ext_getElem? (fun j => ?_)
   by_cases hj : j < D.length * 6
   ·have hjc : j < cur.size := by rw [hcs]; exact Nat.lt_of_lt_of_le hj (Nat.mul_le_mul_right 6 hnc)
    rw [List.getElem?_take_of_lt hj, flat_get D' j (by rw [hl]; exact hj), Array.getElem?_toList]
    unfold Go.Sort.putCells
    rw [Array.getElem?_mapIdx, Array.getElem?_eq_getElem hjc, Option.map_some]
    rw [if_pos ⟨Nat.zero_le _, by rw [Go.Sort.size_flatK, List.size_toArray, hl]; omega⟩, Nat.sub_zero, flatK_get D' j (by rw [hl]; exact hj)]
    rfl
   ·rw [List.getElem?_eq_none (by rw [List.length_take]; omega), List.getElem?_eq_none (by rw [flat_len, hl]; omega)]
theorem cmpT (blk off size : Nat) (w : World) : Go.Proofs.CmpLays Tryz.prog 146 #[] Trm.cs 6 cfT blk off size w :=
 fun m os dk _ x y => by
  have := told1_any x y (Go.Proofs.sortWorldK Trm.cs 6 w blk off m dk os)
  exact this.mono fun e w' ⟨he, n, os', hw⟩ => ⟨he, n, os', hw⟩
theorem lenT (n : Nat) (w : World) (h : n < 4611686018427387904) : Calls Tryz.prog 156 #[.int .u64 (n : Int)] w fun e w' => e = .returned (.int .i64 (Go.Lib.bitLen n : Nat)) ∧ w' = w := by
 have h := Go.Proofs.Any.bits_Len (Go.Proofs.SlLaysF0.n15.bits (P := Tryz.prog) (ρ := pdqT_ren) { pdqT with }) (n : Int) w (by omega) (by omega)
 rw [Int.toNat_natCast] at h
 exact h
def So (w : World) (base g n c : Nat) (t : TypeId) (D : List Trm) (w' : World) : Prop := w.grownBy w' (some g) ∧ ∃ D' : List Trm, D'.Perm D ∧ D'.Pairwise (fun x y => bf y.q x.q = false) ∧ w'.ownsRow base t 6 (.slice (some ⟨g, 0, none⟩) n c) n (D'.flatMap Trm.cs)
theorem get_default (D : List Trm) (i : Nat) (h : i < D.length) : D.toArray[i]! = D[i] := by simp [h]
theorem so_of {w w' : World} {base g c : Nat} {t : TypeId} {D : List Trm} {E : Array Trm} (h : w.ownsRow base t 6 (.slice (some ⟨g, 0, none⟩) D.length c) D.length (D.flatMap Trm.cs))
  (hp : Go.Sort.PermIn 0 D.length D.toArray E) (hs : Go.Sort.SortedIn (Go.Proofs.ltOf cfT) 0 D.length E) (hw : Go.Proofs.SWK Trm.cs 6 w g 0 E w') : So w base g D.length c t D w' := by
 obtain ⟨n, os, rfl⟩ := hw
 obtain ⟨D', rfl⟩ : ∃ D' : List Trm, E = D'.toArray := ⟨E.toList, by simp⟩
 have hl : D'.length = D.length := by have := hp.1; simpa using this
 have hperm : D'.Perm D := by
  have := hp.2.2
  rw [show D'.toArray.extract 0 D.length = D'.toArray by rw [← hl]; simp, show D.toArray.extract 0 D.length = D.toArray by simp] at this
  simpa using this
 refine ⟨sort_grown w g n D' os, D', hperm, ?_, sort_own h hl⟩
 rw [List.pairwise_iff_getElem]
 intro i j hi hj hij
 have := hs i j (Nat.zero_le _) hij (by omega)
 rw [get_default D' j hj, get_default D' i hi, lt_cf] at this
 exact this
set_option maxRecDepth 100000 in
set_option maxHeartbeats 4000000 in
theorem sort_any (g c base : Nat) (D : List Trm) (w : World) (ho : w.ownsRow base 123 6 (.slice (some ⟨g, 0, none⟩) D.length c) D.length (D.flatMap Trm.cs)) (hn : D.length < 4611686018427387904) :
  Calls Tryz.prog 145 #[.slice (some ⟨g, 0, none⟩) D.length c, .func (.func 146) #[] #[]] w fun e w' => e = .returned (.tuple #[]) ∧ So w base g D.length c 123 D w' := by
 have hg : g < w.heap.size := (ho.lt g rfl).2
 have hH := own_holds ho
 have eg : ∀ args w, (callFunc 146 args).run Tryz.prog w = .ok (.enter 146 args) w := Go.Proofs.enters_of Tryz.func146 (by kernel_rfl) rfl
 have hlim : Go.Lib.bitLen D.length < 4611686018427387904 := Nat.lt_of_le_of_lt (Go.Lib.bitLen_le D.length 62 (by omega) (by omega)) (by omega)
 have hp := Go.Proofs.AnyQ.pdqsortCmpFunc_all (P := Tryz.prog) (ρ := pdqT_ren) pdqT 6 Tryz.isAgg123 Tryz.sizeOf123 Trm.cs cfT 146 #[] swoT g 0 c D.toArray w eg (cmpT g 0 D.toArray.size w) ⟨cs_len, cs_one, hH, hg⟩ (D.length + 1) 0 D.length (Go.Lib.bitLen D.length) D.toArray w (by omega) rfl (Go.Proofs.SWK.start hH) (Nat.zero_le _) (by simp) (by simpa using hn) hlim (Or.inl rfl)
 have hs := Go.Sort.pdq_sorts (Go.Proofs.ltOf cfT) swoT D.toArray 0 D.length (Go.Lib.bitLen D.length) true true (Nat.zero_le _) (by simp) (Or.inl rfl)
 have hp2 : Calls Tryz.prog 155 #[.slice (some ⟨g, 0, none⟩) D.length c, .int .i64 0, .int .i64 (D.length : Int), .int .i64 (Go.Lib.bitLen D.length : Nat), .func (.func 146) #[] #[]] w fun e w' => e = .returned (.tuple #[]) ∧ So w base g D.length c 123 D w' := by
  have h3 := hp.mono (R' := fun e w' => e = .returned (.tuple #[]) ∧ So w base g D.length c 123 D w') (fun e w' ⟨he, hw⟩ => ⟨he, so_of ho hs.1 hs.2 hw⟩)
  change Calls Tryz.prog 155 _ _ _ at h3
  simpa using h3
 have hl := lenT D.length w hn
 have wr : IntKind.u64.wrap (D.length : Int) = D.length := by simp [IntKind.wrap, IntKind.bits, IntKind.signed]; omega
 have C1 := Hn hl
 have C2 := Hn hp2
 clear hp hs hp2 hl hH ho hg eg
 generalize hG : So w base g D.length c 123 D = R at *
 clear hG
 generalize Go.Lib.bitLen D.length = bl at *
 generalize D.length = n at *
 go_enter Tryz.func145, Tryz.ntmps145
 go_wp2_with (first | (go_at_call 156; refine C1.out.mono ?_; rintro e w1 ⟨rfl, rfl⟩) | (go_at_call 155; refine C2.out.mono ?_; rintro e w1 ⟨rfl, h1⟩))
 go_end0
 exact ⟨rfl, h1⟩
end Ci
end Go.Proofs.YtghcfcglakbkeaaGreatDoor
