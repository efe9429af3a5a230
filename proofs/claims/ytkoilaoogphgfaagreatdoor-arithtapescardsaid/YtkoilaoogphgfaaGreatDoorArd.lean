import Derived.Test.YtkoilaoogphgfaaGreatDoorTk
import Derived.Test.YtkoilaoogphgfaaGreatDoorArc
import Derived.Test.YtkoilaoogphgfaaGreatDoorCse
import Derived.Test.YtkoilaoogphgfaaGreatDoorSy
namespace Go.Proofs.YtkoilaoogphgfaaGreatDoor
open Go.RowKit
set_option linter.unusedVariables false
set_option linter.unusedSimpArgs false
namespace Ci
set_option maxRecDepth 100000
set_option maxHeartbeats 16000000
theorem num21_any (a : E4) (ha : a.ok) (w : World) : Calls Tryz.prog 15 #[.agg #[.int .u64 a.x0, .int .u64 a.x1, .int .u64 a.x2, .int .u64 a.x3]] w fun e w' => e = .returned (.agg #[.int .u64 (lst a.n).x0, .int .u64 (lst a.n).x1, .int .u64 (lst a.n).x2, .int .u64 (lst a.n).x3]) ∧ Below w.heap.size w w' := by
 have RL := fun y => fix (rleast_any a y ha) rfl
 simp only [E4.v] at RL
 obtain ⟨z, hz⟩ : ∃ z, lst a.n = z := ⟨_, rfl⟩
 simp only [hz] at RL ⊢
 replace RL := hidden RL
 clear hz ha
 have e0 : ((w.alloc (.cells #[.int .u64 a.x0, .int .u64 a.x1, .int .u64 a.x2, .int .u64 a.x3] 32)).alloc (.cells #[.int .u64 0, .int .u64 0, .int .u64 0, .int .u64 0] 43)).cell? ⟨w.heap.size + 1, 0, none⟩ = some (.int .u64 0) := by go_simp
 have f0 : ((w.alloc (.cells #[.int .u64 a.x0, .int .u64 a.x1, .int .u64 a.x2, .int .u64 a.x3] 32)).alloc (.cells #[.int .u64 0, .int .u64 0, .int .u64 0, .int .u64 0] 43)).frozen? ⟨w.heap.size + 1, 0, none⟩ = false := by go_simp
 have e1 : ((w.alloc (.cells #[.int .u64 a.x0, .int .u64 a.x1, .int .u64 a.x2, .int .u64 a.x3] 32)).alloc (.cells #[.int .u64 0, .int .u64 0, .int .u64 0, .int .u64 0] 43)).cell? ⟨w.heap.size + 1, 1, none⟩ = some (.int .u64 0) := by go_simp
 have f1 : ((w.alloc (.cells #[.int .u64 a.x0, .int .u64 a.x1, .int .u64 a.x2, .int .u64 a.x3] 32)).alloc (.cells #[.int .u64 0, .int .u64 0, .int .u64 0, .int .u64 0] 43)).frozen? ⟨w.heap.size + 1, 1, none⟩ = false := by go_simp
 have e2 : ((w.alloc (.cells #[.int .u64 a.x0, .int .u64 a.x1, .int .u64 a.x2, .int .u64 a.x3] 32)).alloc (.cells #[.int .u64 0, .int .u64 0, .int .u64 0, .int .u64 0] 43)).cell? ⟨w.heap.size + 1, 2, none⟩ = some (.int .u64 0) := by go_simp
 have f2 : ((w.alloc (.cells #[.int .u64 a.x0, .int .u64 a.x1, .int .u64 a.x2, .int .u64 a.x3] 32)).alloc (.cells #[.int .u64 0, .int .u64 0, .int .u64 0, .int .u64 0] 43)).frozen? ⟨w.heap.size + 1, 2, none⟩ = false := by go_simp
 have e3 : ((w.alloc (.cells #[.int .u64 a.x0, .int .u64 a.x1, .int .u64 a.x2, .int .u64 a.x3] 32)).alloc (.cells #[.int .u64 0, .int .u64 0, .int .u64 0, .int .u64 0] 43)).cell? ⟨w.heap.size + 1, 3, none⟩ = some (.int .u64 0) := by go_simp
 have f3 : ((w.alloc (.cells #[.int .u64 a.x0, .int .u64 a.x1, .int .u64 a.x2, .int .u64 a.x3] 32)).alloc (.cells #[.int .u64 0, .int .u64 0, .int .u64 0, .int .u64 0] 43)).frozen? ⟨w.heap.size + 1, 3, none⟩ = false := by go_simp
 have HB := hidden (bl_trans (bl_alloc w (.cells #[.int .u64 a.x0, .int .u64 a.x1, .int .u64 a.x2, .int .u64 a.x3] 32)) (bl_alloc (w.alloc (.cells #[.int .u64 a.x0, .int .u64 a.x1, .int .u64 a.x2, .int .u64 a.x3] 32)) (.cells #[.int .u64 0, .int .u64 0, .int .u64 0, .int .u64 0] 43)))
 go_enter Tryz.func15, Tryz.ntmps15
 go_wp2_with (first | (go_at_call 25; refine (RL.out _).mono ?_; rintro e wa ⟨rfl, hb⟩; have d0 := cell_keep e0 hb; have g0 := (hb.frozen (p := ⟨w.heap.size + 1, 0, none⟩) (by simp)).trans f0; have d1 := cell_keep e1 hb; have g1 := (hb.frozen (p := ⟨w.heap.size + 1, 1, none⟩) (by simp)).trans f1; have d2 := cell_keep e2 hb; have g2 := (hb.frozen (p := ⟨w.heap.size + 1, 2, none⟩) (by simp)).trans f2; have d3 := cell_keep e3 hb; have g3 := (hb.frozen (p := ⟨w.heap.size + 1, 3, none⟩) (by simp)).trans f3; have BE := hidden (bl_trans HB.out hb); clear hb))
 refine bodyPost_ret (v := .agg #[.int .u64 z.x0, .int .u64 z.x1, .int .u64 z.x2, .int .u64 z.x3]) (by simp [results, Tryz.results15, go_sem, d0, d1, d2, d3]) rfl ⟨rfl, ?_⟩
 exact set4_below _ _ _ BE.out (by omega)
theorem eq4r (a b : E4) (w : World) : (Op.equalIn 10000 43 a.v b.v).run Tryz.prog w = .ok (a.same b) w := by
 have hi : Tryz.prog.info? 30 = some (Tryz.prog.info? 30).get! := by kernel_rfl
 have hc : Tryz.prog.cellsOf 30 = 1 := by kernel_rfl
 unfold E4.v
 rw [run_equalIn_array w 9999 _ _ (by kernel_rfl : Tryz.prog.underlying 43 = some (.array 4 30)) hi, hc]
 rw [eqItems_ints w (k := .u64) 9998 (by kernel_rfl) (by kernel_rfl) _ _ (fun i => [a.x0, a.x1, a.x2, a.x3].getD i 0) (fun i => [b.x0, b.x1, b.x2, b.x3].getD i 0)]
 ·rw [show List.range 4 = [0, 1, 2, 3] from rfl]
  simp only [List.all_cons, List.all_nil, Bool.and_true]
  rfl
 ·intro i hi
  have : i < 4 := List.mem_range.1 hi
  match i, this with
  | 0, _ => exact ⟨rfl, rfl⟩
  | 1, _ => exact ⟨rfl, rfl⟩
  | 2, _ => exact ⟨rfl, rfl⟩
  | 3, _ => exact ⟨rfl, rfl⟩
theorem eq4s (q : E4) (w : World) : (Op.equalIn 10000 43 (.agg #[.int .u64 q.x0, .int .u64 q.x1, .int .u64 q.x2, .int .u64 q.x3]) (.agg #[.int .u64 q.x0, .int .u64 q.x1, .int .u64 q.x2, .int .u64 q.x3])).run Tryz.prog w = .ok true w := (eq4r q q w).trans (by rw [E4.same_self])
theorem vis_any (q : E4) (w : World) : Calls Tryz.prog 9 #[q.v, q.v] w fun e w' => e = .returned (.bool true) ∧ Below w.heap.size w w' := by
 have hqq := eq4s q
 have B0 := hidden (bl_alloc2 w (.cells #[.int .u64 q.x0, .int .u64 q.x1, .int .u64 q.x2, .int .u64 q.x3] 32) (.cells #[.int .u64 q.x0, .int .u64 q.x1, .int .u64 q.x2, .int .u64 q.x3] 43))
 unfold E4.v
 go_enter Tryz.func9, Tryz.ntmps9
 go_wp2_with fail
 refine bodyPost_ret (v := .bool true) (by simp [results, Tryz.results9, go_sem]) rfl ⟨rfl, B0.out⟩
structure Rlo (w : World) (b o n : Nat) (g : Nat → E4) : Prop where
 c0 : ∀ k, k < n → w.cell? ⟨b, o + k * 4, none⟩ = some (.int .u64 (g k).x0)
 c1 : ∀ k, k < n → w.cell? ⟨b, o + k * 4 + 1, none⟩ = some (.int .u64 (g k).x1)
 c2 : ∀ k, k < n → w.cell? ⟨b, o + k * 4 + 2, none⟩ = some (.int .u64 (g k).x2)
 c3 : ∀ k, k < n → w.cell? ⟨b, o + k * 4 + 3, none⟩ = some (.int .u64 (g k).x3)
theorem Rlo.keep {w1 w2 : World} {b o n : Nat} {g : Nat → E4} (h : Rlo w1 b o n g) (hb : Below w1.heap.size w1 w2) : Rlo w2 b o n g :=
 ⟨fun k hk => cell_keep (h.c0 k hk) hb, fun k hk => cell_keep (h.c1 k hk) hb, fun k hk => cell_keep (h.c2 k hk) hb, fun k hk => cell_keep (h.c3 k hk) hb⟩
theorem rws_part {w : World} {b m : Nat} {g : Nat → E4} (h : Rws w b m g) (o n : Nat) (hn : o + n ≤ m) : Rlo w b (o * 4) n (fun k => g (o + k)) :=
 ⟨fun k hk => by have := h.c0 (o + k) (by omega); rwa [show (o + k) * 4 = o * 4 + k * 4 by omega] at this,
 fun k hk => by have := h.c1 (o + k) (by omega); rwa [show (o + k) * 4 + 1 = o * 4 + k * 4 + 1 by omega] at this,
 fun k hk => by have := h.c2 (o + k) (by omega); rwa [show (o + k) * 4 + 2 = o * 4 + k * 4 + 2 by omega] at this,
 fun k hk => by have := h.c3 (o + k) (by omega); rwa [show (o + k) * 4 + 3 = o * 4 + k * 4 + 3 by omega] at this⟩
def sn6o_0 : Oper := { dst := some 17, op := Op.move (Operand.tmp 0), type := 33, pos := "law.go:175", after := #[], guard := none }
def sn6o_1 : Oper := { dst := some 18, op := Op.move (Operand.tmp 5), type := 3, pos := "law.go:175", after := #[], guard := none }
def sn6o_2 : Oper := { dst := some 19, op := Op.indexAddr 33 (Operand.tmp 17) (Operand.tmp 18), type := 0, pos := "law.go:175", after := #[{ on := 0, ground := Ground.data }, { on := 1, ground := Ground.data }], guard := none }
def sn6o_3 : Oper := { dst := some 20, op := Op.load 32 (Operand.tmp 19), type := 32, pos := "law.go:175", after := #[{ on := 2, ground := Ground.data }], guard := none }
def sn6o_4 : Oper := { dst := some 21, op := Op.move (Operand.tmp 1), type := 44, pos := "law.go:175", after := #[], guard := none }
def sn6o_5 : Oper := { dst := some 22, op := Op.move (Operand.tmp 5), type := 3, pos := "law.go:175", after := #[], guard := none }
def sn6o_6 : Oper := { dst := some 23, op := Op.indexAddr 44 (Operand.tmp 21) (Operand.tmp 22), type := 0, pos := "law.go:175", after := #[{ on := 4, ground := Ground.data }, { on := 5, ground := Ground.data }], guard := none }
def sn6o_7 : Oper := { dst := some 24, op := Op.load 43 (Operand.tmp 23), type := 43, pos := "law.go:175", after := #[{ on := 6, ground := Ground.data }], guard := none }
def sn6o_8 : Oper := { dst := some 25, op := Op.call { callee := Callee.value (Operand.func 9), args := #[Operand.tmp 20, Operand.tmp 24], argTypes := #[32, 43] }, type := 4, pos := "law.go:175", after := #[{ on := 3, ground := Ground.data }, { on := 7, ground := Ground.data }], guard := none }
def sn6o_9 : Oper := { dst := some 26, op := Op.unOp UnOp.not 4 (Operand.tmp 25), type := 4, pos := "law.go:175", after := #[{ on := 8, ground := Ground.data }], guard := none }
def sn6o : Array Oper := #[sn6o_0, sn6o_1, sn6o_2, sn6o_3, sn6o_4, sn6o_5, sn6o_6, sn6o_7, sn6o_8, sn6o_9]
theorem sn6 (Q : Exit → Act → World → Prop) (b1 o1 b2 o2 n c1 c2 i : Nat) (u : E4) (u2 u3 u4 u6 u7 u8 u9 u10 u11 u12 u13 u14 u15 u16 u17 u18 u19 u20 u21 u22 u23 u24 u25 u26 : Value) (W : World)
  (ii0 : (0 : Int) ≤ (i : Int)) (ii1 : (i : Int) < (n : Int)) (x0 : W.cell? ⟨b1, o1 + i * 4, none⟩ = some (.int .u64 u.x0)) (x1 : W.cell? ⟨b1, o1 + i * 4 + 1, none⟩ = some (.int .u64 u.x1)) (x2 : W.cell? ⟨b1, o1 + i * 4 + 2, none⟩ = some (.int .u64 u.x2)) (x3 : W.cell? ⟨b1, o1 + i * 4 + 3, none⟩ = some (.int .u64 u.x3)) (y0 : W.cell? ⟨b2, o2 + i * 4, none⟩ = some (.int .u64 u.x0)) (y1 : W.cell? ⟨b2, o2 + i * 4 + 1, none⟩ = some (.int .u64 u.x1)) (y2 : W.cell? ⟨b2, o2 + i * 4 + 2, none⟩ = some (.int .u64 u.x2)) (y3 : W.cell? ⟨b2, o2 + i * 4 + 3, none⟩ = some (.int .u64 u.x3))
  (C8 : Hid (∀ x, Calls Tryz.prog 9 #[.agg #[.int .u64 u.x0, .int .u64 u.x1, .int .u64 u.x2, .int .u64 u.x3], .agg #[.int .u64 u.x0, .int .u64 u.x1, .int .u64 u.x2, .int .u64 u.x3]] x fun e w' => e = .returned (.bool true) ∧ Below x.heap.size x w'))
  (HQ : Hid (∀ wz, Below W.heap.size W wz → Q .normal ⟨#[.slice (some ⟨b1, o1, none⟩) n c1, .slice (some ⟨b2, o2, none⟩) n c2, u2, u3, u4, .int .i64 (i : Int), u6, u7, u8, u9, u10, u11, u12, u13, u14, u15, u16, .slice (some ⟨b1, o1, none⟩) n c1, .int .i64 (i : Int), .pointer (some ⟨b1, o1 + i * 4, none⟩), .agg #[.int .u64 u.x0, .int .u64 u.x1, .int .u64 u.x2, .int .u64 u.x3], .slice (some ⟨b2, o2, none⟩) n c2, .int .i64 (i : Int), .pointer (some ⟨b2, o2 + i * 4, none⟩), .agg #[.int .u64 u.x0, .int .u64 u.x1, .int .u64 u.x2, .int .u64 u.x3], .bool true, .bool false], []⟩ wz)) : (Code.region 6 sn6o true).wp Tryz.prog Q ⟨#[.slice (some ⟨b1, o1, none⟩) n c1, .slice (some ⟨b2, o2, none⟩) n c2, u2, u3, u4, .int .i64 (i : Int), u6, u7, u8, u9, u10, u11, u12, u13, u14, u15, u16, u17, u18, u19, u20, u21, u22, u23, u24, u25, u26], []⟩ W := by
 unfold sn6o
 refine wp_region_noPanic ?_
 refine wp_region_held_drew (S := fun x => Below W.heap.size W x) (by kernel_rfl) (bl_drew W) (fun hH0 => ?_)
 refine tk 0 sn6o_0 (.slice (some ⟨b1, o1, none⟩) n c1) rfl (by kernel_rfl) hH0 rfl (fun w0 hSw => ?_) ?_
 ·(unfold sn6o_0; clear hSw; go_simp)
 simp only [sn6o_0, Act.put, sA, sB, sC]
 refine tk 1 sn6o_1 (.int .i64 (i : Int)) rfl (by kernel_rfl) hH0 rfl (fun w0 hSw => ?_) ?_
 ·(unfold sn6o_1; clear hSw; go_simp)
 simp only [sn6o_1, Act.put, sA, sB, sC]
 refine tk 2 sn6o_2 (.pointer (some ⟨b1, o1 + i * 4, none⟩)) rfl (by kernel_rfl) hH0 rfl (fun w0 hSw => ?_) ?_
 ·(unfold sn6o_2; clear hSw; go_simp)
 simp only [sn6o_2, Act.put, sA, sB, sC]
 refine tk 3 sn6o_3 (.agg #[.int .u64 u.x0, .int .u64 u.x1, .int .u64 u.x2, .int .u64 u.x3]) rfl (by kernel_rfl) hH0 rfl (fun w0 hSw => ?_) ?_
 ·(unfold sn6o_3; have hS : Below W.heap.size W w0 := hSw; have a0 := cell_keep x0 hS; have a1 := cell_keep x1 hS; have a2 := cell_keep x2 hS; have a3 := cell_keep x3 hS; clear hS hSw; go_simp)
 simp only [sn6o_3, Act.put, sA, sB, sC]
 refine tk 4 sn6o_4 (.slice (some ⟨b2, o2, none⟩) n c2) rfl (by kernel_rfl) hH0 rfl (fun w0 hSw => ?_) ?_
 ·(unfold sn6o_4; clear hSw; go_simp)
 simp only [sn6o_4, Act.put, sA, sB, sC]
 refine tk 5 sn6o_5 (.int .i64 (i : Int)) rfl (by kernel_rfl) hH0 rfl (fun w0 hSw => ?_) ?_
 ·(unfold sn6o_5; clear hSw; go_simp)
 simp only [sn6o_5, Act.put, sA, sB, sC]
 refine tk 6 sn6o_6 (.pointer (some ⟨b2, o2 + i * 4, none⟩)) rfl (by kernel_rfl) hH0 rfl (fun w0 hSw => ?_) ?_
 ·(unfold sn6o_6; clear hSw; go_simp)
 simp only [sn6o_6, Act.put, sA, sB, sC]
 refine tk 7 sn6o_7 (.agg #[.int .u64 u.x0, .int .u64 u.x1, .int .u64 u.x2, .int .u64 u.x3]) rfl (by kernel_rfl) hH0 rfl (fun w0 hSw => ?_) ?_
 ·(unfold sn6o_7; have hS : Below W.heap.size W w0 := hSw; have a0 := cell_keep y0 hS; have a1 := cell_keep y1 hS; have a2 := cell_keep y2 hS; have a3 := cell_keep y3 hS; clear hS hSw; go_simp)
 simp only [sn6o_7, Act.put, sA, sB, sC]
 refine wpAnyH_ready (rs := [8]) (by kernel_rfl) (by simp) ?_
 refine AllReadyH.cons (o := sn6o_8) rfl (fun K hK => ?_) AllReadyH.nil
 unfold sn6o_8
 have HH := hidden hH0
 clear hH0
 go_simp
 refine (C8.out _).mono ?_
 rintro e wn1 ⟨rfl, hb⟩
 have SN := hidden (bl_trans HH.out hb)
 clear HH hb C8
 go_wp2_with fail
 refine hK.out _ _ SN.out (fun hH1 => ?_)
 clear hK K SN
 refine tk 9 sn6o_9 (.bool false) rfl (by kernel_rfl) hH1 rfl (fun w0 hSw => ?_) ?_
 ·(unfold sn6o_9; clear hSw; go_simp)
 simp only [sn6o_9, Act.put, sA, sB, sC]
 have HH := hidden hH1
 have FQ := hidden (HQ.out _ HH.out)
 refine wpAnyH_done (by kernel_rfl) ?_ _
 refine NoPanic.normal ?_
 exact FQ.out
theorem sameNums_in (b1 o1 b2 o2 n c1 c2 : Nat) (g : Nat → E4) (w : World) (hn : n ≤ 1024) (h1 : Rlo w b1 o1 n g) (h2 : Rlo w b2 o2 n g) :
  Calls Tryz.prog 10 #[.slice (some ⟨b1, o1, none⟩) n c1, .slice (some ⟨b2, o2, none⟩) n c2] w fun e w' => e = .returned (.bool true) ∧ Below w.heap.size w w' := by
 have H1 := hidden h1
 have H2 := hidden h2
 have HN := hidden hn
 have nn0 : (0 : Int) ≤ (n : Int) := by omega
 clear h1 h2 hn
 go_enter Tryz.func10, Tryz.ntmps10
 go_wp2_with fail
 go_loopw [5] (fun iv w' => ∃ i : Nat, i ≤ n ∧ iv = .int .i64 i ∧ Hid (Below w.heap.size w w')) (fun i _ => n - (intOf i).toNat)
 case atStart => exact ⟨0, by omega, rfl, hidden (Below.refl _ _)⟩
 case round =>
  obtain ⟨i, hi, rfl, hbl⟩ := hrel
  by_cases hin : i < n
  ·obtain ⟨u, hu⟩ : ∃ u, g i = u := ⟨_, rfl⟩
   have ii0 : (0 : Int) ≤ (i : Int) := by omega
   have ii1 : (i : Int) < (n : Int) := by omega
   have w9 : IntKind.i64.wrap ((i : Int) + 1) = (i : Int) + 1 := IntWalk.i64_in _ (by have := HN.out; omega)
   have hqq := eq4s u
   have BD := hbl
   have q1 := H1.out.keep BD.out
   have q2 := H2.out.keep BD.out
   have y0 := q1.c0 i hin
   have y1 := q1.c1 i hin
   have y2 := q1.c2 i hin
   have y3 := q1.c3 i hin
   have x0 := q2.c0 i hin
   have x1 := q2.c1 i hin
   have x2 := q2.c2 i hin
   have x3 := q2.c3 i hin
   simp only [hu] at y0 y1 y2 y3 x0 x1 x2 x3
   clear q1 q2 hu hbl hi
   have CI := hidden (fun x => vis_any u x)
   simp only [E4.v] at CI
   go_upto_region 6 with fail
   refine sn6 _ b1 o1 b2 o2 n c1 c2 i u _ _ _ _ _ _ _ _ _ _ _ _ _ _ _ _ _ _ _ _ _ _ _ _ _ ii0 ii1 y0 y1 y2 y3 x0 x1 x2 x3 CI (hidden ?_)
   intro wz hbz
   have BZ := hidden (bl_trans BD.out hbz)
   clear hbz BD y0 y1 y2 y3 x0 x1 x2 x3 CI
   all_goals
    go_wp2_with fail
    go_roundw
    case rel => exact ⟨i + 1, by omega, by simp, BZ⟩
    case measure => simp [intOf]; omega
  ·have hii : n = i := by omega
   subst hii
   clear hin hi
   go_wp2_with fail
   refine bodyPost_ret (v := .bool true) (by simp [results, Tryz.results10, go_sem]) rfl ⟨rfl, hbl.out⟩
theorem sameNums_zero (P1 P2 : Option Addr) (c1 c2 : Nat) (w : World) : Calls Tryz.prog 10 #[.slice P1 0 c1, .slice P2 0 c2] w fun e w' => e = .returned (.bool true) ∧ Below w.heap.size w w' := by
 go_enter Tryz.func10, Tryz.ntmps10
 go_wp2_with fail
 refine wp_loop_rounds 1 ?_
 rw [rounds_succ]
 go_wp2_with fail
 refine bodyPost_ret (v := .bool true) (by simp [results, Tryz.results10, go_sem]) rfl ⟨rfl, Below.refl _ _⟩
end Ci
end Go.Proofs.YtkoilaoogphgfaaGreatDoor
