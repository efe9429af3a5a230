import Derived.Test.YtljmgfclhbadjaaGreatDoorTk
import Derived.Test.YtljmgfclhbadjaaGreatDoorCmd
import Derived.Sort.Grow
import Derived.Deep.Draws
namespace Go.Proofs.YtljmgfclhbadjaaGreatDoor
set_option maxRecDepth 100000
set_option maxHeartbeats 16000000
open Go.RowKit
set_option linter.unusedVariables false
set_option linter.unusedSimpArgs false
open Cm (Wr Tm co bf Ls lf ins Eqm)
namespace Ci
def Gr (W x : World) : Prop := ∃ n os, x = Go.Sort.grow (W.drewN n) os
theorem Gr.refl (W : World) : Gr W W := ⟨0, #[], by rw [Go.Sort.grow_empty]; rfl⟩
theorem Gr.alloc {W x : World} (h : Gr W x) (o : Obj) : Gr W (x.alloc o) := by
 obtain ⟨n, os, rfl⟩ := h
 exact ⟨n, os ++ #[o], by rw [Go.Sort.alloc_eq_grow, Go.Sort.grow_grow]⟩
theorem Gr.drew {W x : World} (h : Gr W x) : Gr W x.drew := by
 obtain ⟨n, os, rfl⟩ := h
 exact ⟨n + 1, os, rfl⟩
theorem Gr.trans {W x y : World} (h : Gr W x) (k : Gr x y) : Gr W y := by
 obtain ⟨n, os, rfl⟩ := h
 obtain ⟨m, os', rfl⟩ := k
 refine ⟨n + m, os ++ os', ?_⟩
 rw [← Go.Sort.grow_grow]
 show _ = Go.Sort.grow (Go.Sort.grow (W.drewN (n + m)) os) os'
 unfold Go.Sort.grow World.drewN
 simp [Nat.add_assoc]
theorem Gr.below {W x : World} (h : Gr W x) : Below W.heap.size W x := by
 obtain ⟨n, os, rfl⟩ := h
 refine ⟨rfl, rfl, rfl, by simp [Go.Sort.grow, World.drewN], fun k hk => ?_⟩
 show (W.heap ++ os)[k]? = W.heap[k]?
 rw [Array.getElem?_append_left hk]
def cmpI (x y : Int) : Int := if x < y then -1 else if y < x then 1 else 0
theorem isNaN_any (x : Int) (w : World) : Calls Tryz.prog 271 #[.int .i64 x] w fun e w' => e = .returned (.bool false) ∧ w' = w := by
 go_enter Tryz.func271, Tryz.ntmps271
 go_wp2_with fail
 refine bodyPost_ret (v := .bool false) (by simp [results, Tryz.results271, go_sem]) rfl ⟨rfl, rfl⟩
theorem Compare_any (x y : Int) (w : World) : Calls Tryz.prog 254 #[.int .i64 x, .int .i64 y] w fun e w' => e = .returned (.int .i64 (cmpI x y)) ∧ w' = w := by
 have C := Hn (fun z : Int => isNaN_any z w)
 by_cases h1 : x < y
 ·have e : cmpI x y = -1 := by unfold cmpI; rw [if_pos h1]
  rw [e]
  go_enter Tryz.func254, Tryz.ntmps254
  go_wp2_with (go_at_call 271; refine (C.out _).mono ?_; rintro e w1 ⟨rfl, rfl⟩)
  refine bodyPost_ret (v := .int .i64 (-1)) (by simp [results, Tryz.results254, go_sem]) rfl ⟨rfl, rfl⟩
 ·by_cases h2 : y < x
  ·have e : cmpI x y = 1 := by unfold cmpI; rw [if_neg h1, if_pos h2]
   rw [e]
   go_enter Tryz.func254, Tryz.ntmps254
   go_wp2_with (go_at_call 271; refine (C.out _).mono ?_; rintro e w1 ⟨rfl, rfl⟩)
   refine bodyPost_ret (v := .int .i64 1) (by simp [results, Tryz.results254, go_sem]) rfl ⟨rfl, rfl⟩
  ·have e : cmpI x y = 0 := by unfold cmpI; rw [if_neg h1, if_neg h2]
   rw [e]
   go_enter Tryz.func254, Tryz.ntmps254
   go_wp2_with (go_at_call 271; refine (C.out _).mono ?_; rintro e w1 ⟨rfl, rfl⟩)
   refine bodyPost_ret (v := .int .i64 0) (by simp [results, Tryz.results254, go_sem]) rfl ⟨rfl, rfl⟩
def orI (c d : Int) : Int := if c = 0 then d else c
theorem Or_any (B : Nat) (c d : Int) (w : World) (h0 : w.cell? ⟨B, 0, none⟩ = some (.int .i64 c)) (h1 : w.cell? ⟨B, 1, none⟩ = some (.int .i64 d)) :
  Calls Tryz.prog 253 #[.slice (some ⟨B, 0, none⟩) 2 2] w fun e w' => e = .returned (.int .i64 (orI c d)) ∧ w' = w := by
 go_enter Tryz.func253, Tryz.ntmps253
 go_wp2_with fail
 go_loopw [8] (fun iv w' => w' = w ∧ (iv = .int .i64 0 ∨ (iv = .int .i64 1 ∧ c = 0) ∨ (iv = .int .i64 2 ∧ c = 0 ∧ d = 0))) (fun i _ => 2 - (intOf i).toNat)
 case atStart => exact ⟨rfl, .inl rfl⟩
 case round =>
  obtain ⟨rfl, hI⟩ := hrel
  rcases hI with rfl | ⟨rfl, hc⟩ | ⟨rfl, hc, hd⟩
  ·by_cases hc : c = 0
   ·subst hc
    go_wp2_with fail
    go_roundw
    case rel => simp
    case measure => simp [intOf]
   ·have e : orI c d = c := by unfold orI; rw [if_neg hc]
    replace e := Hn e
    go_wp2_with fail
    refine bodyPost_ret (v := .int .i64 c) (by simp [results, Tryz.results253, go_sem]) rfl ⟨by rw [e.out], rfl⟩
  ·subst hc
   by_cases hd : d = 0
   ·subst hd
    go_wp2_with fail
    go_roundw
    case rel => simp
    case measure => simp [intOf]
   ·have e : orI 0 d = d := by unfold orI; rw [if_pos rfl]
    replace e := Hn e
    go_wp2_with fail
    refine bodyPost_ret (v := .int .i64 d) (by simp [results, Tryz.results253, go_sem]) rfl ⟨by rw [e.out], rfl⟩
  ·subst hc
   subst hd
   have e : orI 0 0 = 0 := by unfold orI; rw [if_pos rfl]
   replace e := Hn e
   go_wp2_with fail
   refine bodyPost_ret (v := .int .i64 0) (by simp [results, Tryz.results253, go_sem]) rfl ⟨by rw [e.out], rfl⟩
theorem build2 (c d : Int) (w : World) : (Instr.buildSlice 114 2 #[(0, .int .i64 c), (1, .int .i64 d)]).run Tryz.prog w = .ok (.slice (some ⟨w.heap.size, 0, none⟩) 2 2) (w.alloc (.cells #[.int .i64 c, .int .i64 d] 3)) := by kernel_rfl
theorem wp_build2 {w : World} {o : Oper} {a : Act} {K : Act → World → Prop} {Q : Exit → Act → World → Prop} (x0 x1 : Operand) (ho : o.op = .buildSlice 114 2 #[(0, x0), (1, x1)]) (c d : Int) (h0 : a.eval x0 = .int .i64 c) (h1 : a.eval x1 = .int .i64 d) (h : ∀ (tb : Nat) (wq : World), tb = w.heap.size → wq = w.alloc (.cells #[.int .i64 c, .int .i64 d] 3) → K (a.put o.dst (.slice (some ⟨tb, 0, none⟩) 2 2)) wq) : o.wp Tryz.prog a w K Q := by
 have hr := build2 c d w
 unfold Oper.wp execOp
 simp only [ho, Sem.run_bind, Sem.run_pure, Result.andThen_ok, List.map_toArray, List.map_cons, List.map_nil, h0, h1, hr]
 exact h _ _ rfl rfl
def cw (p q : Wr) : Int := orI (cmpI p.1 q.1) (cmpI p.2 q.2)
def by1o_0 : Oper := oO 5 (Op.fieldAddr 52 (Operand.tmp 2) 0) 0 "lin.go:28" #[]
def by1o_1 : Oper := oO 6 (Op.load 3 (Operand.tmp 5)) 3 "lin.go:28" #[DD 0]
def by1o_2 : Oper := oO 7 (Op.fieldAddr 52 (Operand.tmp 3) 0) 0 "lin.go:28" #[]
def by1o_3 : Oper := oO 8 (Op.load 3 (Operand.tmp 7)) 3 "lin.go:28" #[DD 2]
def by1o_4 : Oper := oO 9 (Op.call { callee := Callee.value (Operand.func 254), args := #[Operand.tmp 6, Operand.tmp 8], argTypes := #[3, 3] }) 3 "lin.go:28" #[DD 1, DD 3]
def by1o_5 : Oper := oO 10 (Op.fieldAddr 52 (Operand.tmp 2) 1) 0 "lin.go:28" #[]
def by1o_6 : Oper := oO 11 (Op.load 3 (Operand.tmp 10)) 3 "lin.go:28" #[DD 5]
def by1o_7 : Oper := oO 12 (Op.fieldAddr 52 (Operand.tmp 3) 1) 0 "lin.go:28" #[]
def by1o_8 : Oper := oO 13 (Op.load 3 (Operand.tmp 12)) 3 "lin.go:28" #[DD 7]
def by1o_9 : Oper := oO 14 (Op.call { callee := Callee.value (Operand.func 254), args := #[Operand.tmp 11, Operand.tmp 13], argTypes := #[3, 3] }) 3 "lin.go:28" #[DD 6, DD 8, CH 4]
def by1o_10 : Oper := oO 15 (Op.buildSlice 114 2 #[(0, Operand.tmp 9), (1, Operand.tmp 14)]) 114 "lin.go:28" #[DD 4, DD 9]
def by1o_11 : Oper := oO 16 (Op.call { callee := Callee.value (Operand.func 253), args := #[Operand.tmp 15], argTypes := #[114] }) 3 "lin.go:28" #[DD 10, CH 9]
def by1o_12 : Oper := oO 4 (Op.assign (Operand.tmp 16)) 3 "lin.go:28" #[DD 11, CH 11, PH 0, PH 1, PH 2, PH 3, PH 4, PH 5, PH 6, PH 7, PH 8, PH 9, PH 10, PH 11]
def by1o : Array Oper := #[by1o_0, by1o_1, by1o_2, by1o_3, by1o_4, by1o_5, by1o_6, by1o_7, by1o_8, by1o_9, by1o_10, by1o_11, by1o_12]
theorem by1 (Q : Exit → Act → World → Prop) (A B : Nat) (p0 p1 q0 q1 c d r : Int) (u0 u1 u4 u5 u6 u7 u8 u9 u10 u11 u12 u13 u14 u15 u16 : Value) (W : World)
  (a0 : W.cell? ⟨A, 0, none⟩ = some (.int .i64 p0)) (a1 : W.cell? ⟨A, 1, none⟩ = some (.int .i64 p1)) (b0 : W.cell? ⟨B, 0, none⟩ = some (.int .i64 q0)) (b1 : W.cell? ⟨B, 1, none⟩ = some (.int .i64 q1))
  (C4 : Hid (∀ y, Calls Tryz.prog 254 #[.int .i64 p0, .int .i64 q0] y fun e w' => e = .returned (.int .i64 c) ∧ w' = y))
  (C9 : Hid (∀ y, Calls Tryz.prog 254 #[.int .i64 p1, .int .i64 q1] y fun e w' => e = .returned (.int .i64 d) ∧ w' = y))
  (C11 : Hid (∀ y tb, y.cell? ⟨tb, 0, none⟩ = some (.int .i64 c) → y.cell? ⟨tb, 1, none⟩ = some (.int .i64 d) → Calls Tryz.prog 253 #[.slice (some ⟨tb, 0, none⟩) 2 2] y fun e w' => e = .returned (.int .i64 r) ∧ w' = y))
  (HQ : Hid (∀ (wz : World) (tb : Nat), Gr W wz → Q .normal ⟨#[u0, u1, .pointer (some ⟨A, 0, none⟩), .pointer (some ⟨B, 0, none⟩), .int .i64 r, .pointer (some ⟨A, 0, none⟩), .int .i64 p0, .pointer (some ⟨B, 0, none⟩), .int .i64 q0, .int .i64 c, .pointer (some ⟨A, 1, none⟩), .int .i64 p1, .pointer (some ⟨B, 1, none⟩), .int .i64 q1, .int .i64 d, .slice (some ⟨tb, 0, none⟩) 2 2, .int .i64 r], []⟩ wz)) : (Code.region 1 by1o true).wp Tryz.prog Q ⟨#[u0, u1, .pointer (some ⟨A, 0, none⟩), .pointer (some ⟨B, 0, none⟩), u4, u5, u6, u7, u8, u9, u10, u11, u12, u13, u14, u15, u16], []⟩ W := by
 unfold by1o
 refine wp_region_noPanic ?_
 refine wp_region_held_drew (S := fun x => Gr W x) (by kernel_rfl) ((Gr.refl W).drew) (fun hH0 => ?_)
 refine tj 0 by1o_0 (.pointer (some ⟨A, 0, none⟩)) hH0 (fun w0 hSw => ?_) ?_
 ·(unfold by1o_0 oO; clear hSw; go_simp)
 simp only [by1o_0, oO, Act.put, sA, sB, sC]
 refine tj 2 by1o_2 (.pointer (some ⟨B, 0, none⟩)) hH0 (fun w0 hSw => ?_) ?_
 ·(unfold by1o_2 oO; clear hSw; go_simp)
 simp only [by1o_2, oO, Act.put, sA, sB, sC]
 refine tj 5 by1o_5 (.pointer (some ⟨A, 1, none⟩)) hH0 (fun w0 hSw => ?_) ?_
 ·(unfold by1o_5 oO; clear hSw; go_simp)
 simp only [by1o_5, oO, Act.put, sA, sB, sC]
 refine tj 7 by1o_7 (.pointer (some ⟨B, 1, none⟩)) hH0 (fun w0 hSw => ?_) ?_
 ·(unfold by1o_7 oO; clear hSw; go_simp)
 simp only [by1o_7, oO, Act.put, sA, sB, sC]
 refine tj 1 by1o_1 (.int .i64 p0) hH0 (fun w0 hSw => ?_) ?_
 ·(unfold by1o_1 oO; have hS : Gr W w0 := hSw; have a0 := cell_keep a0 hS.below; clear hS hSw; go_simp)
 simp only [by1o_1, oO, Act.put, sA, sB, sC]
 refine tj 3 by1o_3 (.int .i64 q0) hH0 (fun w0 hSw => ?_) ?_
 ·(unfold by1o_3 oO; have hS : Gr W w0 := hSw; have a0 := cell_keep b0 hS.below; clear hS hSw; go_simp)
 simp only [by1o_3, oO, Act.put, sA, sB, sC]
 refine tj 6 by1o_6 (.int .i64 p1) hH0 (fun w0 hSw => ?_) ?_
 ·(unfold by1o_6 oO; have hS : Gr W w0 := hSw; have a0 := cell_keep a1 hS.below; clear hS hSw; go_simp)
 simp only [by1o_6, oO, Act.put, sA, sB, sC]
 refine tj 8 by1o_8 (.int .i64 q1) hH0 (fun w0 hSw => ?_) ?_
 ·(unfold by1o_8 oO; have hS : Gr W w0 := hSw; have a0 := cell_keep b1 hS.below; clear hS hSw; go_simp)
 simp only [by1o_8, oO, Act.put, sA, sB, sC]
 refine ar [4] ?_
 refine ac by1o_4 (fun K hK => ?_) AllReadyH.nil
 unfold by1o_4 oO
 have HH := Hn hH0
 clear hH0
 go_simp
 refine (C4.out _).mono ?_
 rintro e wn1 ⟨rfl, rfl⟩
 have SN := Hn (HH.out)
 clear HH C4
 go_wp2_with fail
 refine hK.out _ _ SN.out (fun hH1 => ?_)
 clear hK K SN
 refine ar [9] ?_
 refine ac by1o_9 (fun K hK => ?_) AllReadyH.nil
 unfold by1o_9 oO
 have HH := Hn hH1
 clear hH1
 go_simp
 refine (C9.out _).mono ?_
 rintro e wn2 ⟨rfl, rfl⟩
 have SN := Hn (HH.out)
 clear HH C9
 go_wp2_with fail
 refine hK.out _ _ SN.out (fun hH2 => ?_)
 clear hK K SN
 refine ar [10] ?_
 refine ac by1o_10 (fun K hK => ?_) AllReadyH.nil
 unfold by1o_10 oO
 have HH := Hn hH2
 clear hH2
 refine wp_build2 _ _ rfl c d rfl rfl (fun tb wn3 htb hwq => ?_)
 have SN := Hn (by rw [hwq]; exact HH.out.alloc _ : Gr W wn3)
 have CA := Hn ((by rw [htb, hwq]; go_simp : wn3.cell? ⟨tb, 0, none⟩ = some (.int .i64 c)))
 have CB := Hn ((by rw [htb, hwq]; go_simp : wn3.cell? ⟨tb, 1, none⟩ = some (.int .i64 d)))
 clear HH htb hwq
 simp only [Act.put, sA, sB, sC]
 refine hK.out _ _ SN.out (fun hH3 => ?_)
 clear hK K SN
 refine ar [11] ?_
 refine ac by1o_11 (fun K hK => ?_) AllReadyH.nil
 unfold by1o_11 oO
 have HH := Hn hH3
 clear hH3
 go_simp
 refine (C11.out _ _ CA.out CB.out).mono ?_
 rintro e wn4 ⟨rfl, rfl⟩
 have SN := Hn (HH.out)
 clear HH C11
 go_wp2_with fail
 refine hK.out _ _ SN.out (fun hH4 => ?_)
 clear hK K SN
 refine tj 12 by1o_12 (.int .i64 r) hH4 (fun w0 hSw => ?_) ?_
 ·(unfold by1o_12 oO; clear hSw; go_simp)
 simp only [by1o_12, oO, Act.put, sA, sB, sC]
 have HH := Hn hH4
 have FQ := Hn (HQ.out _ tb HH.out)
 refine wpAnyH_done (by kernel_rfl) ?_ _
 refine NoPanic.normal ?_
 exact FQ.out
theorem byWire_any (p q : Wr) (w : World) : Calls Tryz.prog 227 #[.agg #[.int .i64 p.1, .int .i64 p.2], .agg #[.int .i64 q.1, .int .i64 q.2]] w fun e w' => e = .returned (.int .i64 (cw p q)) ∧ Gr w w' := by
 obtain ⟨p0, p1⟩ := p
 obtain ⟨q0, q1⟩ := q
 simp only
 have C4 := Hn (fun y => Compare_any p0 q0 y)
 have C9 := Hn (fun y => Compare_any p1 q1 y)
 have C11 := Hn (fun y tb h0 h1 => Or_any tb (cmpI p0 q0) (cmpI p1 q1) y h0 h1)
 have e : orI (cmpI p0 q0) (cmpI p1 q1) = cw (p0, p1) (q0, q1) := rfl
 rw [e] at C11
 clear e
 generalize cw (p0, p1) (q0, q1) = r at *
 generalize cmpI p0 q0 = c at *
 generalize cmpI p1 q1 = d at *
 go_enter Tryz.func227, Tryz.ntmps227
 go_upto_region 1 with fail
 have G0 := Hn (((Gr.refl w).alloc (.cells #[.int .i64 p0, .int .i64 p1] 52)).alloc (.cells #[.int .i64 q0, .int .i64 q1] 52))
 have a0 : ((w.alloc (.cells #[.int .i64 p0, .int .i64 p1] 52)).alloc (.cells #[.int .i64 q0, .int .i64 q1] 52)).cell? ⟨w.heap.size, 0, none⟩ = some (.int .i64 p0) := by go_simp
 have a1 : ((w.alloc (.cells #[.int .i64 p0, .int .i64 p1] 52)).alloc (.cells #[.int .i64 q0, .int .i64 q1] 52)).cell? ⟨w.heap.size, 1, none⟩ = some (.int .i64 p1) := by go_simp
 have b0 : ((w.alloc (.cells #[.int .i64 p0, .int .i64 p1] 52)).alloc (.cells #[.int .i64 q0, .int .i64 q1] 52)).cell? ⟨w.heap.size + 1, 0, none⟩ = some (.int .i64 q0) := by go_simp
 have b1 : ((w.alloc (.cells #[.int .i64 p0, .int .i64 p1] 52)).alloc (.cells #[.int .i64 q0, .int .i64 q1] 52)).cell? ⟨w.heap.size + 1, 1, none⟩ = some (.int .i64 q1) := by go_simp
 generalize ((w.alloc (.cells #[.int .i64 p0, .int .i64 p1] 52)).alloc (.cells #[.int .i64 q0, .int .i64 q1] 52)) = wa at *
 refine by1 _ w.heap.size (w.heap.size + 1) p0 p1 q0 q1 c d r _ _ _ _ _ _ _ _ _ _ _ _ _ _ _ wa a0 a1 b0 b1 C4 C9 C11 (Hn ?_)
 intro wz tb gz
 have GZ := Hn (G0.out.trans gz)
 clear a0 a1 b0 b1 C4 C9 C11 gz G0
 go_wp2_with fail
 refine bodyPost_ret (v := .int .i64 r) (by simp [results, Tryz.results227, go_sem]) rfl ⟨rfl, GZ.out⟩
theorem told1_any (x y : Trm) (w : World) : Calls Tryz.prog 226 #[.agg x.cs.toArray, .agg y.cs.toArray] w fun e w' => e = .returned (.int .i64 (cw x.q y.q)) ∧ Gr w w' := by
 have C := Hn (fun v => byWire_any x.q y.q v)
 obtain ⟨⟨p0, p1⟩, a⟩ := x
 obtain ⟨⟨q0, q1⟩, b⟩ := y
 simp only [Trm.cs] at C ⊢
 generalize cw (p0, p1) (q0, q1) = r at *
 have G0 := Hn (((Gr.refl w).alloc (.cells #[.int .i64 p0, .int .i64 p1, .int .u64 a.x0, .int .u64 a.x1, .int .u64 a.x2, .int .u64 a.x3] 55)).alloc (.cells #[.int .i64 q0, .int .i64 q1, .int .u64 b.x0, .int .u64 b.x1, .int .u64 b.x2, .int .u64 b.x3] 55))
 go_enter Tryz.func226, Tryz.ntmps226
 go_wp2_with (go_at_call 227; refine (C.out _).mono ?_; rintro e w1 ⟨rfl, hg⟩; have G1 := Hn (G0.out.trans hg); clear hg)
 clear C G0
 refine bodyPost_ret (v := .int .i64 r) (by simp [results, Tryz.results226, go_sem]) rfl ⟨rfl, G1.out⟩
theorem cw_neg (p q : Wr) : cw p q < 0 ↔ bf p q = true := by
 rw [Cm.bf_iff]
 unfold cw orI cmpI
 by_cases h1 : p.1 < q.1
 ·simp [h1]
 ·by_cases h2 : q.1 < p.1
  ·simp [h1, h2]; omega
  ·have e : p.1 = q.1 := by omega
   by_cases h3 : p.2 < q.2
   ·simp [e, h3]
   ·by_cases h4 : q.2 < p.2
    ·simp [e, h3, h4]
    ·simp [e, h3, h4]
end Ci
end Go.Proofs.YtljmgfclhbadjaaGreatDoor
