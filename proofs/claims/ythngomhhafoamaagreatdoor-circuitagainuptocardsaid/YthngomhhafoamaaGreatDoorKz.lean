import Derived.Test.YthngomhhafoamaaGreatDoorCkb
import Derived.Test.YthngomhhafoamaaGreatDoorJy
import Derived.Test.YthngomhhafoamaaGreatDoorWrc
set_option linter.unusedVariables false
set_option linter.unusedSimpArgs false
set_option maxRecDepth 100000
set_option maxHeartbeats 8000000
namespace Go.Proofs.YthngomhhafoamaaGreatDoor
open Go.RowKit
open Cm (Wr Tm co bf Ls lf ins Eqm)
open Tr (Kp)
namespace Ci
structure Rt (w0 : World) (A g q : Nat) (a b : Array Value) (bs : List UInt8) (e : Int) (x : World) : Prop where
 ha : x.heap[A]? = some (.cells a 77 (0, 0))
 hb : x.heap[A + 1]? = some (.cells b 77 (0, 0))
 rb : Rb x g q bs e
 kp : Kp g w0 x
 l0 : w0.heap.size ≤ A
 lg : g < w0.heap.size
 lq : q < w0.heap.size
section
variable {w0 x y : World} {A g q : Nat} {a b : Array Value} {bs bs' : List UInt8} {e e' : Int}
theorem Rt.call (h : Rt w0 A g q a b bs e x) (k : Kp g x y) (r : Rb y g q bs' e') : Rt w0 A g q a b bs' e' y :=
 ⟨(k.block A (Array.getElem?_eq_some_iff.1 h.ha).1 (by have := h.l0; have := h.lg; omega)).trans h.ha, (k.block (A + 1) (Array.getElem?_eq_some_iff.1 h.hb).1 (by have := h.l0; have := h.lg; omega)).trans h.hb, r, h.kp.trans k, h.l0, h.lg, h.lq⟩
theorem Rt.st1 (h : Rt w0 A g q a b bs e x) (j : Nat) (v : Value) : Rt w0 A g q a (b.setIfInBounds j v) bs e (x.setCell ⟨A + 1, j, none⟩ v) := by
 have k := Tr.Kp.grown (Tr.grown_set x (A + 1) j v)
 have h0 := h.l0
 have h1 := h.lg
 have h2 := h.lq
 exact ⟨(k.block A (Array.getElem?_eq_some_iff.1 h.ha).1 (by omega)).trans h.ha, heap_setCell_same x (A + 1) j _ 77 v h.hb, h.rb.kp k (by omega) (by omega), kp_new h.kp k (by omega), h.l0, h.lg, h.lq⟩
theorem Rt.st0 (h : Rt w0 A g q a b bs e x) (j : Nat) (v : Value) : Rt w0 A g q (a.setIfInBounds j v) b bs e (x.setCell ⟨A, j, none⟩ v) := by
 have k := Tr.Kp.grown (Tr.grown_set x A j v)
 have h0 := h.l0
 have h1 := h.lg
 have h2 := h.lq
 exact ⟨heap_setCell_same x A j _ 77 v h.ha, (k.block (A + 1) (Array.getElem?_eq_some_iff.1 h.hb).1 (by omega)).trans h.hb, h.rb.kp k (by omega) (by omega), kp_new h.kp k (by omega), h.l0, h.lg, h.lq⟩
theorem Rt.c (h : Rt w0 A g q a b bs e x) (j : Nat) : x.cell? ⟨A + 1, j, none⟩ = b[j]? ∧ x.frozen? ⟨A + 1, j, none⟩ = false := ⟨cell_of_row x (A + 1) j _ 77 (0, 0) h.hb, by unfold World.frozen?; rw [h.hb]; simp⟩
theorem Rt.d (h : Rt w0 A g q a b bs e x) (j : Nat) : x.cell? ⟨A, j, none⟩ = a[j]? ∧ x.frozen? ⟨A, j, none⟩ = false := ⟨cell_of_row x A j _ 77 (0, 0) h.ha, by unfold World.frozen?; rw [h.ha]; simp⟩
end
def tk1 (bs : List UInt8) (e : Int) : Nat := nn 5 bs e
def tk2 (bs : List UInt8) (e : Int) : Nat := nn 1024 (nnb 5 bs e) (nne 5 bs e)
def tkz (bs : List UInt8) (e : Int) : E4 := nd2 (nnb 1024 (nnb 5 bs e) (nne 5 bs e)) (nne 1024 (nnb 5 bs e) (nne 5 bs e))
def tkb (bs : List UInt8) (e : Int) : List UInt8 := nb2 (nnb 1024 (nnb 5 bs e) (nne 5 bs e)) (nne 1024 (nnb 5 bs e) (nne 5 bs e))
def tke (bs : List UInt8) (e : Int) : Int := ne2 (nnb 1024 (nnb 5 bs e) (nne 5 bs e)) (nne 1024 (nnb 5 bs e) (nne 5 bs e))
theorem nn_le (most : Nat) (bs : List UInt8) (e : Int) : nn most bs e ≤ most := by
 unfold nn
 split
 ·by_cases h : (Tr.nm bs most).2.2 = 0
  ·exact (Tr.nm_ok bs most h).2.1
  ·rw [(Tr.nm_fault bs most h).1]; exact Nat.zero_le _
 ·exact Nat.zero_le _
theorem readTerm_s {w : World} {g q : Nat} {bs : List UInt8} {e : Int} (hT : Tb w) (h : Rb w g q bs e) (hl : bs.length ≤ 2 ^ 62) (hq : q < w.heap.size) (hg : 0 ≠ g) :
  Calls Tryz.prog 74 #[.pointer (some ⟨g, 0, none⟩)] w fun r w' => r = .returned (.agg #[.int .i64 (tk1 bs e : Int), .int .i64 (tk2 bs e : Int), .int .u64 (tkz bs e).x0, .int .u64 (tkz bs e).x1, .int .u64 (tkz bs e).x2, .int .u64 (tkz bs e).x3]) ∧ Rb w' g q (tkb bs e) (tke bs e) ∧ Kp g w w' := by
 have B0 := bl_trans (bl_alloc w (.cells #[.int .i64 0, .int .i64 0, .int .u64 0, .int .u64 0, .int .u64 0, .int .u64 0] 77)) (bl_alloc _ (.cells #[.int .i64 0, .int .i64 0, .int .u64 0, .int .u64 0, .int .u64 0, .int .u64 0] 77))
 have R0 : Hid (Rt w w.heap.size g q #[.int .i64 0, .int .i64 0, .int .u64 0, .int .u64 0, .int .u64 0, .int .u64 0] #[.int .i64 0, .int .i64 0, .int .u64 0, .int .u64 0, .int .u64 0, .int .u64 0] bs e ((w.alloc (.cells #[.int .i64 0, .int .i64 0, .int .u64 0, .int .u64 0, .int .u64 0, .int .u64 0] 77)).alloc (.cells #[.int .i64 0, .int .i64 0, .int .u64 0, .int .u64 0, .int .u64 0, .int .u64 0] 77))) := Hn ⟨by simp only [World.alloc, Array.getElem?_push, Array.size_push]; (repeat first | rw [if_pos trivial] | rw [if_pos rfl] | rw [if_neg (by omega)]), by simp only [World.alloc, Array.getElem?_push, Array.size_push]; (repeat first | rw [if_pos trivial] | rw [if_pos rfl] | rw [if_neg (by omega)]), h.keep B0, Tr.Kp.of B0, Nat.le_refl _, h.glt, hq⟩
 have HT0 := Hn hT
 have HTg := Hn hg
 clear hg
 have l1 := nnb_len 5 bs e
 have l2 := nnb_len 1024 (nnb 5 bs e) (nne 5 bs e)
 have k1 := nn_le 5 bs e
 have k2 := nn_le 1024 (nnb 5 bs e) (nne 5 bs e)
 have C1 : Hid (∀ y, Rb y g q bs e → _) := Hn (fun y hy => Number_s (w := y) 5 hy hl)
 have C2 : Hid (∀ y, Rb y g q (nnb 5 bs e) (nne 5 bs e) → _) := Hn (fun y hy => Number_s (w := y) 1024 hy (Nat.le_trans l1 hl))
 have C3 : Hid (∀ y, Tb y → Rb y g q (nnb 1024 (nnb 5 bs e) (nne 5 bs e)) (nne 1024 (nnb 5 bs e) (nne 5 bs e)) → q < y.heap.size → _) := Hn (fun y hT hy hq => nextS2 (w := y) hT hy hq)
 unfold tk1 tk2 tkz tkb tke
 clear B0 h hl l1 l2
 generalize nnb 5 bs e = b1 at *
 generalize hE1 : nne 5 bs e = e1 at *
 generalize nnb 1024 b1 e1 = b2 at *
 generalize hE2 : nne 1024 b1 e1 = e2 at *
 generalize nn 5 bs e = n1 at *
 generalize nn 1024 b1 e1 = n2 at *
 generalize nd2 b2 e2 = z at *
 generalize nb2 b2 e2 = b3 at *
 generalize ne2 b2 e2 = e3 at *
 clear hE1 hE2
 unfold E4.v at C3
 have v1 : IntKind.i64.wrap (n1 : Int) = (n1 : Int) := IntWalk.i64_in _ (by omega)
 have v2 : IntKind.i64.wrap (n2 : Int) = (n2 : Int) := IntWalk.i64_in _ (by omega)
 go_enter Tryz.func74, Tryz.ntmps74
 go_upto_region 2 with fail
 generalize ((w.alloc (.cells #[.int .i64 0, .int .i64 0, .int .u64 0, .int .u64 0, .int .u64 0, .int .u64 0] 77)).alloc (.cells #[.int .i64 0, .int .i64 0, .int .u64 0, .int .u64 0, .int .u64 0, .int .u64 0] 77)) = w1 at *
 replace C1 := Hn (C1.out w1 R0.out.rb)
 go_upto_region 3 with (first | (go_at_call 43; refine C1.out.mono ?_; rintro r w2 ⟨rfl, hr, hk⟩; have R2 := Hn (R0.out.call hk hr); clear hr hk C1; have c0 := (R2.out.c 0); have c1 := (R2.out.c 1); have c2 := (R2.out.c 2); have c3 := (R2.out.c 3); have c4 := (R2.out.c 4); have c5 := (R2.out.c 5); obtain ⟨c0, f0⟩ := c0; obtain ⟨c1, f1⟩ := c1; obtain ⟨c2, f2⟩ := c2; obtain ⟨c3, f3⟩ := c3; obtain ⟨c4, f4⟩ := c4; obtain ⟨c5, f5⟩ := c5; simp at c0 c1 c2 c3 c4 c5))
 have R3 := Hn (R2.out.st1 0 (.int .i64 (n1 : Int)))
 clear R0 R2 c0 c1 c2 c3 c4 c5 f0 f1 f2 f3 f4 f5
 generalize (w2.setCell ⟨w.heap.size + 1, 0, none⟩ (.int .i64 (n1 : Int))) = w3 at *
 replace C2 := Hn (C2.out w3 R3.out.rb)
 go_upto_region 4 with (first | (go_at_call 43; refine C2.out.mono ?_; rintro r w4 ⟨rfl, hr, hk⟩; have R4 := Hn (R3.out.call hk hr); clear hr hk C2; have c0 := (R4.out.c 0); have c1 := (R4.out.c 1); have c2 := (R4.out.c 2); have c3 := (R4.out.c 3); have c4 := (R4.out.c 4); have c5 := (R4.out.c 5); obtain ⟨c0, f0⟩ := c0; obtain ⟨c1, f1⟩ := c1; obtain ⟨c2, f2⟩ := c2; obtain ⟨c3, f3⟩ := c3; obtain ⟨c4, f4⟩ := c4; obtain ⟨c5, f5⟩ := c5; simp at c0 c1 c2 c3 c4 c5))
 have R5 := Hn (R4.out.st1 1 (.int .i64 (n2 : Int)))
 clear R3 R4 c0 c1 c2 c3 c4 c5 f0 f1 f2 f3 f4 f5
 generalize (w4.setCell ⟨w.heap.size + 1, 1, none⟩ (.int .i64 (n2 : Int))) = w5 at *
 replace C3 := Hn (C3.out w5 (HT0.out.kp R5.out.kp HTg.out) R5.out.rb (by have := R5.out.kp.size; have := R5.out.lq; omega))
 go_upto_region 5 with (first | (go_at_call 89; refine C3.out.mono ?_; rintro r w6 ⟨rfl, hr, hk⟩; have R6 := Hn (R5.out.call hk hr); clear hr hk C3; have c0 := (R6.out.c 0); have c1 := (R6.out.c 1); have c2 := (R6.out.c 2); have c3 := (R6.out.c 3); have c4 := (R6.out.c 4); have c5 := (R6.out.c 5); obtain ⟨c0, f0⟩ := c0; obtain ⟨c1, f1⟩ := c1; obtain ⟨c2, f2⟩ := c2; obtain ⟨c3, f3⟩ := c3; obtain ⟨c4, f4⟩ := c4; obtain ⟨c5, f5⟩ := c5; simp at c0 c1 c2 c3 c4 c5))
 have R7 := Hn ((((R6.out.st1 2 (.int .u64 z.x0)).st1 3 (.int .u64 z.x1)).st1 4 (.int .u64 z.x2)).st1 5 (.int .u64 z.x3))
 clear R5 R6 c0 c1 c2 c3 c4 c5 f0 f1 f2 f3 f4 f5
 generalize ((((w6.setCell ⟨w.heap.size + 1, 2, none⟩ (.int .u64 z.x0)).setCell ⟨w.heap.size + 1, 3, none⟩ (.int .u64 z.x1)).setCell ⟨w.heap.size + 1, 4, none⟩ (.int .u64 z.x2)).setCell ⟨w.heap.size + 1, 5, none⟩ (.int .u64 z.x3)) = w7 at *
 obtain ⟨c0, f0⟩ := R7.out.c 0
 obtain ⟨d0, g0⟩ := R7.out.d 0
 obtain ⟨c1, f1⟩ := R7.out.c 1
 obtain ⟨d1, g1⟩ := R7.out.d 1
 obtain ⟨c2, f2⟩ := R7.out.c 2
 obtain ⟨d2, g2⟩ := R7.out.d 2
 obtain ⟨c3, f3⟩ := R7.out.c 3
 obtain ⟨d3, g3⟩ := R7.out.d 3
 obtain ⟨c4, f4⟩ := R7.out.c 4
 obtain ⟨d4, g4⟩ := R7.out.d 4
 obtain ⟨c5, f5⟩ := R7.out.c 5
 obtain ⟨d5, g5⟩ := R7.out.d 5
 simp at c0 c1 c2 c3 c4 c5 d0 d1 d2 d3 d4 d5
 have R8 := Hn ((((((R7.out.st0 0 (.int .i64 (n1 : Int))).st0 1 (.int .i64 (n2 : Int))).st0 2 (.int .u64 z.x0)).st0 3 (.int .u64 z.x1)).st0 4 (.int .u64 z.x2)).st0 5 (.int .u64 z.x3))
 go_wp2_with fail
 clear R7 c0 c1 c2 c3 c4 c5 f0 f1 f2 f3 f4 f5 d0 d1 d2 d3 d4 d5 g0 g1 g2 g3 g4 g5
 generalize ((((((w7.setCell ⟨w.heap.size, 0, none⟩ (.int .i64 (n1 : Int))).setCell ⟨w.heap.size, 1, none⟩ (.int .i64 (n2 : Int))).setCell ⟨w.heap.size, 2, none⟩ (.int .u64 z.x0)).setCell ⟨w.heap.size, 3, none⟩ (.int .u64 z.x1)).setCell ⟨w.heap.size, 4, none⟩ (.int .u64 z.x2)).setCell ⟨w.heap.size, 5, none⟩ (.int .u64 z.x3)) = w8 at *
 obtain ⟨d0, g0⟩ := R8.out.d 0
 obtain ⟨d1, g1⟩ := R8.out.d 1
 obtain ⟨d2, g2⟩ := R8.out.d 2
 obtain ⟨d3, g3⟩ := R8.out.d 3
 obtain ⟨d4, g4⟩ := R8.out.d 4
 obtain ⟨d5, g5⟩ := R8.out.d 5
 simp at d0 d1 d2 d3 d4 d5
 refine bodyPost_ret (v := .agg #[.int .i64 (n1 : Int), .int .i64 (n2 : Int), .int .u64 z.x0, .int .u64 z.x1, .int .u64 z.x2, .int .u64 z.x3]) (by simp [results, Tryz.results74, go_sem, d0, d1, d2, d3, d4, d5]) rfl ⟨rfl, R8.out.rb, R8.out.kp⟩
end Ci
end Go.Proofs.YthngomhhafoamaaGreatDoor
namespace Go.Proofs.YthngomhhafoamaaGreatDoor
open Go.RowKit
open Cm (Wr Tm co bf Ls lf ins Eqm)
open Tr (Kp)
namespace Ci
theorem nn_some {most n : Nat} {bs r : List UInt8} (h : pN most bs = some (n, r)) : nn most bs 0 = n ∧ nnb most bs 0 = r ∧ nne most bs 0 = 0 := by
 unfold pN at h
 split at h
 ·rename_i h0
  simp only [Option.some.injEq, Prod.mk.injEq] at h
  unfold nn nnb nne
  rw [if_pos rfl, if_pos rfl, if_pos rfl, h0]
  exact ⟨h.1, h.2, rfl⟩
 ·cases h
theorem nn_none {most : Nat} {bs : List UInt8} (h : pN most bs = none) : nne most bs 0 ≠ 0 := by
 unfold pN at h
 split at h
 ·cases h
 ·rename_i h0
  unfold nne
  rw [if_pos rfl]
  omega
theorem nn_no {most : Nat} {bs : List UInt8} {e : Int} (h : e ≠ 0) : nne most bs e ≠ 0 := by
 unfold nne
 rw [if_neg h]
 exact h
theorem sc_some {bs r : List UInt8} {c : Int} (h : pS bs = some (c, r)) : nd2 bs 0 = lst c ∧ nb2 bs 0 = r ∧ ne2 bs 0 = 0 := by
 unfold pS at h
 split at h
 ·rename_i h0
  simp only [Option.some.injEq, Prod.mk.injEq] at h
  have hs : ¬ ((0 : Int) = 0 ∧ bs.length < 32) := by omega
  have hd : de bs = 0 := by unfold de; rw [decide_eq_true h0.2]; rfl
  have h4 : d4 bs = lst (dn (bs.take 32)) := by unfold d4; rw [decide_eq_true h0.2]; rfl
  obtain ⟨e1, e2, e3⟩ := nb_ok hd
  unfold nd2 nb2 ne2
  rw [if_neg hs, if_neg hs, if_neg hs, e1, e2, e3, h4, h.1]
  exact ⟨rfl, h.2, rfl⟩
 ·cases h
theorem sc_none {bs : List UInt8} (h : pS bs = none) : ne2 bs 0 ≠ 0 := by
 unfold pS at h
 split at h
 ·cases h
 ·rename_i h0
  unfold ne2
  by_cases hs : bs.length < 32
  ·rw [if_pos ⟨rfl, hs⟩]; omega
  ·rw [if_neg (fun x => hs x.2)]
   have hd : de bs = 3 := by unfold de; rw [decide_eq_false (fun x => h0 ⟨by omega, x⟩)]; rfl
   unfold ne
   rw [if_pos rfl, hd]
   omega
theorem sc_no {bs : List UInt8} {e : Int} (h : e ≠ 0) : ne2 bs e ≠ 0 := by
 unfold ne2 ne
 rw [if_neg (fun x => h x.1), if_neg h]
 exact h
theorem tk_some {bs r : List UInt8} {x : Tm} (h : pT bs = some (x, r)) : (tk1 bs 0 : Int) = x.1.1 ∧ (tk2 bs 0 : Int) = x.1.2 ∧ tkz bs 0 = lst x.2 ∧ tkb bs 0 = r ∧ tke bs 0 = 0 := by
 unfold pT at h
 split at h
 ·cases h
 ·rename_i k b1 h1
  split at h
  ·cases h
  ·rename_i i b2 h2
   split at h
   ·cases h
   ·rename_i c b3 h3
    simp only [Option.some.injEq, Prod.mk.injEq] at h
    obtain ⟨rfl, rfl⟩ := h
    obtain ⟨a1, a2, a3⟩ := nn_some h1
    obtain ⟨c1, c2, c3⟩ := nn_some h2
    obtain ⟨d1, d2, d3⟩ := sc_some h3
    unfold tk1 tk2 tkz tkb tke
    rw [a2, a3, c2, c3, a1, c1, d1, d2, d3]
    exact ⟨rfl, rfl, rfl, rfl, rfl⟩
theorem tk_none {bs : List UInt8} (h : pT bs = none) : tke bs 0 ≠ 0 := by
 unfold pT at h
 unfold tke
 split at h
 ·rename_i h1
  exact sc_no (nn_no (nn_none h1))
 ·rename_i k b1 h1
  obtain ⟨a1, a2, a3⟩ := nn_some h1
  rw [a2, a3]
  split at h
  ·rename_i h2
   exact sc_no (nn_none h2)
  ·rename_i i b2 h2
   obtain ⟨c1, c2, c3⟩ := nn_some h2
   rw [c2, c3]
   split at h
   ·rename_i h3
    exact sc_none h3
   ·cases h
theorem pR_len {α : Type} {p : List UInt8 → Option (α × List UInt8)} (hp : ∀ bs x r, p bs = some (x, r) → r.length ≤ bs.length) : ∀ (n : Nat) (bs : List UInt8) (xs : List α) (r : List UInt8), pR p n bs = some (xs, r) → r.length ≤ bs.length
 | 0, bs, xs, r, h => by
  simp only [pR, Option.some.injEq, Prod.mk.injEq] at h
  rw [h.2]
  exact Nat.le_refl _
 | n + 1, bs, xs, r, h => by
  rw [pR] at h
  split at h
  ·cases h
  ·rename_i ys r1 h1
   split at h
   ·cases h
   ·rename_i y r2 h2
    simp only [Option.some.injEq, Prod.mk.injEq] at h
    rw [← h.2]
    exact Nat.le_trans (hp _ _ _ h2) (pR_len hp n bs ys r1 h1)
def RlP (w : World) (g q most : Nat) (bs : List UInt8) (r : Ending) (w' : World) : Prop :=
 (∃ X b V, pL pT most bs = some (X, b) ∧ r = .returned V ∧ w'.ownsRow w.heap.size 77 6 V X.length (tls X) ∧ Rb w' g q b 0 ∧ Kp g w w') ∨ (pL pT most bs = none ∧ r = .returned (.slice none 0 0) ∧ ∃ b e, e ≠ 0 ∧ Rb w' g q b e ∧ Kp g w w')
end Ci
end Go.Proofs.YthngomhhafoamaaGreatDoor
namespace Go.Proofs.YthngomhhafoamaaGreatDoor
open Go.RowKit
open Cm (Wr Tm co bf Ls lf ins Eqm)
open Tr (Kp)
namespace Ci
theorem kp_late {g T : Nat} {w w1 w2 : World} (h : Kp g w w1) (k : Kp T w1 w2) (hT : w.heap.size ≤ T) : Kp g w w2 := kp_new h k hT
theorem rb_grown {w w' : World} {g q B : Nat} {bs : List UInt8} {e : Int} {v : Value} (h : Rb w g q bs e) (hg : w.grownBy w' v.ownBlock) (hv : ∀ k, v.ownBlock = some k → B ≤ k) (g0 : g < B) (q0 : q < B) : Rb w' g q bs e := by
 cases hb : v.ownBlock with
 | none =>
  rw [hb] at hg
  exact h.keep ⟨hg.os, hg.tape, hg.output, hg.size, fun k hk => hg.block k hk (by simp)⟩
 | some b =>
  rw [hb] at hg
  have := hv b hb
  exact h.kp (Tr.Kp.grown hg) (by omega) (by omega)
theorem kp_grown {w0 w w' : World} {g B : Nat} {v : Value} (h : Kp g w0 w) (hg : w.grownBy w' v.ownBlock) (hv : ∀ k, v.ownBlock = some k → B ≤ k) (hB : w0.heap.size ≤ B) : Kp g w0 w' := by
 cases hb : v.ownBlock with
 | none =>
  rw [hb] at hg
  exact h.trans (Tr.Kp.of ⟨hg.os, hg.tape, hg.output, hg.size, fun k hk => hg.block k hk (by simp)⟩)
 | some b =>
  rw [hb] at hg
  have := hv b hb
  exact kp_late h (Tr.Kp.grown hg) (by omega)
theorem rb_err {w : World} {g q : Nat} {bs : List UInt8} {e : Int} (h : Rb w g q bs e) : Calls Tryz.prog 72 #[.pointer (some ⟨g, 0, none⟩)] w fun r w' => r = .returned (.int .i64 e) ∧ w' = w := by
 obtain ⟨P, c, h1, h2⟩ := h
 exact Tr.err_any h1
structure Lt1 (w w3 : World) (g q S n : Nat) (b1 : List UInt8) (i : Nat) (X : List Tm) (r : List UInt8) (v : Value) (x : World) : Prop where
 p : pR pT i b1 = some (X, r)
 o : x.ownsRow w3.heap.size 77 6 v i (tls X)
 r : Rb x g q r 0
 k : Kp g w x
 c : x.cell? ⟨S + 1, 0, none⟩ = some (.func (.func 74) #[] #[])
 s : w3.heap.size ≤ x.heap.size
theorem listT_any (bs : List UInt8) (most : Nat) (w : World) (g q : Nat) (hT : Tb w) (htb : 0 ≠ g) (h : Rb w g q bs 0) (hq : q < w.heap.size) (hl : bs.length ≤ 2 ^ 40) (hm : most ≤ 1048576) :
  Calls Tryz.prog 73 #[.pointer (some ⟨g, 0, none⟩), .int .i64 (most : Int), .func (.func 74) #[] #[]] w fun e w' => RlP w g q most bs e w' := by
 have hmf : ∀ (fn : Fn) (first cap : Array Value) (w : World), (Instr.makeFunc fn first cap).run Tryz.prog w = .ok (.func fn first cap) w := fun _ _ _ _ => rfl
 have hg := h.glt
 obtain ⟨P, c, h1, h2⟩ := h
 have b1 := bl_alloc w (.cells #[.int .i64 (most : Int)] 3)
 have b2 := bl_trans b1 (bl_alloc (w.alloc (.cells #[.int .i64 (most : Int)] 3)) (.cells #[.func (.func 74) #[] #[]] 117))
 have hY : ((w.alloc (.cells #[.int .i64 (most : Int)] 3)).alloc (.cells #[.func (.func 74) #[] #[]] 117)).cell? ⟨w.heap.size, 0, none⟩ = some (.int .i64 (most : Int)) := cell_keep (Tr.box_cell w _ _) (bl_alloc _ _)
 have hX : ((w.alloc (.cells #[.int .i64 (most : Int)] 3)).alloc (.cells #[.func (.func 74) #[] #[]] 117)).cell? ⟨w.heap.size + 1, 0, none⟩ = some (.func (.func 74) #[] #[]) := by rw [show w.heap.size + 1 = (w.alloc (.cells #[.int .i64 (most : Int)] 3)).heap.size by simp]; exact Tr.box_cell (w.alloc (.cells #[.int .i64 (most : Int)] 3)) (.func (.func 74) #[] #[]) 117
 have RI := Hn (Tr.readI_bT most (h1.keep b2) (by omega) hX hY hm)
 have HX := Hn hX
 have KB := Hn (Tr.Kp.of (g := g) b2)
 have QB : Hid (∀ a, P = some a → a.block = q) := Hn h2
 have GQ : Hid (g < w.heap.size ∧ q < w.heap.size) := Hn ⟨hg, hq⟩
 have SZ : Hid (((w.alloc (.cells #[.int .i64 (most : Int)] 3)).alloc (.cells #[.func (.func 74) #[] #[]] 117)).heap.size = w.heap.size + 2) := Hn (by simp)
 have CM := Hn (Tr.ct_most bs most)
 have CF := Hn (Tr.ct_fault bs most)
 have LM := Hn (show most ≤ 1048576 ∧ bs.length ≤ 2 ^ 40 from ⟨hm, hl⟩)
 have HT := Hn (And.intro hT htb)
 obtain ⟨x, hx⟩ : ∃ x, Tr.ct bs most = x := ⟨_, rfl⟩
 have PC : Hid (pC most bs = if x.2.2 = 0 then some (x.1, bs.drop x.2.1) else none) := Hn (by unfold pC; rw [hx])
 rw [hx] at RI CM CF
 clear h1 h2 hg hq hl hm b1 b2 hX hY hx hT htb
 go_enter Tryz.func73, Tryz.ntmps73
 go_upto_region 3 with (first | (go_at_call 69; refine RI.out.mono ?_; rintro r w3 ⟨P', c', rfl, hr, hk, hp⟩; have R3 : Hid (Rb w3 g q (bs.drop x.2.1) (x.2.2 : Int)) := Hn ⟨P', c', hr, fun a ha => by (obtain ⟨a0, e0, e1⟩ := hp a ha; rw [e1]; exact QB.out a0 e0)⟩; have K3 := Hn (KB.out.trans hk); have H3 : Hid (w3.cell? ⟨w.heap.size + 1, 0, none⟩ = some (.func (.func 74) #[] #[]) ∧ w.heap.size + 2 ≤ w3.heap.size) := Hn ⟨by (rw [World.cell?, hk.block (w.heap.size + 1) (by rw [SZ.out]; omega) (by have := GQ.out; omega)]; exact HX.out), by (have := hk.size; rw [SZ.out] at this; exact this)⟩; clear RI hr hk hp HX KB QB SZ))
 obtain ⟨S, hS⟩ : ∃ S, w.heap.size = S := ⟨_, rfl⟩
 have ES := Hn hS
 rw [hS] at H3 ⊢
 clear hS
 obtain ⟨n, s, er⟩ := x
 dsimp only at *
 obtain ⟨b1, hbs⟩ : ∃ b1, bs.drop s = b1 := ⟨_, rfl⟩
 rw [hbs] at R3 PC
 have LB : Hid (b1.length ≤ 2 ^ 40) := Hn (by rw [← hbs, List.length_drop]; have := LM.out; omega)
 clear hbs
 have nn0 : (0 : Int) ≤ (n : Int) := by omega
 by_cases he : er = 0
 case neg =>
  have hn := (CF.out he).1
  subst hn
  have PX : Hid (RlP w g q most bs (.returned (.slice none 0 0)) w3) := Hn (.inr ⟨by unfold pL; rw [PC.out, if_neg he], rfl, b1, (er : Int), by omega, R3.out, K3.out⟩)
  go_wp2_with fail
  go_loopw [8, 13] (fun v kv w' => v = .slice none 0 0 ∧ kv = .int .i64 0 ∧ Hid (w' = w3)) (fun _ _ _ => 0)
  case atStart => exact ⟨rfl, rfl, Hn rfl⟩
  case round =>
   obtain ⟨rfl, rfl, hk⟩ := hrel
   go_wp2_with fail
   go_ret
   rw [hk.out]
   exact PX.out
 subst he
 replace PC : Hid (pL pT most bs = pR pT n b1) := Hn (by unfold pL; rw [PC.out, if_pos rfl])
 go_wp2_with fail
 go_loopw [8, 13] (fun v kv w' => ∃ i : Nat, i ≤ n ∧ kv = .int .i64 (i : Int) ∧ Hid (∃ X r, Lt1 w w3 g q S n b1 i X r v w')) (fun _ k _ => n - (intOf k).toNat)
 case atStart => exact ⟨0, by omega, rfl, Hn ⟨[], b1, rfl, World.ownsRow_nil _ _ _ _, R3.out, K3.out, H3.out.1, Nat.le_refl _⟩⟩
 case round =>
  clear R3 K3
  obtain ⟨i, hi, rfl, hR⟩ := hrel
  obtain ⟨X, rr, hL⟩ := hR.out
  have LL := Hn hL
  have cX := hL.c
  have XL : Hid (X.length = i) := Hn (pR_some (f := tmB) (ok := okT) (fun _ _ _ h => pT_some h) i b1 X rr hL.p).2.1
  have RL : Hid (rr.length ≤ 2 ^ 40) := Hn (Nat.le_trans (pR_len (fun bs x r h => by obtain ⟨e1, _⟩ := pT_some h; rw [e1, List.length_append]; omega) i b1 X rr hL.p) LB.out)
  clear hL hR
  by_cases hin : i < n
  ·have i0 : (0 : Int) ≤ (i : Int) := by omega
   have i1 : (i : Int) < (n : Int) := by omega
   have w9 : IntKind.i64.wrap ((i : Int) + 1) = (i : Int) + 1 := IntWalk.i64_in _ (by have := CM.out; have := LM.out; omega)
   have GG : Hid (g < w3.heap.size ∧ q < w3.heap.size ∧ S + 1 < w3.heap.size ∧ g ≠ S + 1 ∧ w.heap.size ≤ w3.heap.size) := Hn (by have := GQ.out; have := H3.out.2; have := ES.out; omega)
   have V1 := Hn (show ∀ k, u8.ownBlock = some k → w3.heap.size ≤ k from fun k hk => (LL.out.o.lt k hk).1)
   have ON := readTerm_s (w := wr) (HT.out.1.kp LL.out.k HT.out.2) LL.out.r (by have := RL.out; omega) (by have := GG.out; have := LL.out.s; omega) HT.out.2
   have BN : Hid (i + 1 ≤ maxLen ∧ (i + 1) * 48 ≤ 140737488355328) := Hn (by have := CM.out; have := LM.out; unfold maxLen; omega)
   have HI : Hid ((Tryz.prog.info? 77) = some (Tryz.prog.info? 77).get!) := Hn (by kernel_rfl)
   have HZ0 : Hid ((Tryz.prog.info? 77).get!.zero = some (.agg #[.int .i64 0, .int .i64 0, .int .u64 0, .int .u64 0, .int .u64 0, .int .u64 0])) := Hn (by kernel_rfl)
   have HZ1 : Hid ((Tryz.prog.info? 77).get!.size = 6) := Hn (by kernel_rfl)
   have HZ2 : Hid ((Tryz.prog.info? 77).get!.bytes = 48) := Hn (by kernel_rfl)
   have T1 : Hid (Tryz.prog.underlying 23 = some (.slice 77)) := Hn (by kernel_rfl)
   cases hp : pT rr with
   | some y =>
    obtain ⟨⟨⟨ky, iy⟩, cy⟩, r2⟩ := y
    obtain ⟨t1, t2, t3, t4, t5⟩ := tk_some hp
    rw [t1, t2, t3, t4, t5] at ON
    simp only at ON
    obtain ⟨z, hz⟩ : ∃ z, lst cy = z := ⟨_, rfl⟩
    rw [hz] at ON
    replace ON := Hn ON
    have PS : Hid (pR pT (i + 1) b1 = some (X ++ [((ky, iy), cy)], r2)) := Hn (by rw [pR, LL.out.p]; simp only; rw [hp])
    have TS : Hid (tls (X ++ [((ky, iy), cy)]) = tls X ++ [.int .i64 ky, .int .i64 iy, .int .u64 z.x0, .int .u64 z.x1, .int .u64 z.x2, .int .u64 z.x3]) := Hn (by rw [tls_snoc]; unfold tmOf Trm.cs; simp only [hz])
    clear t1 t2 t3 t4 t5 hp hz
    go_upto_region 6 with (first | (go_at_call 74; refine ON.out.mono ?_; rintro r w4 ⟨rfl, hr, hk⟩; have O4 := Hn (hk.own LL.out.o (fun e => by (have := V1.out g e; have := GG.out; omega))); have R4 := Hn hr; have K4 := Hn (LL.out.k.trans hk); have C4 : Hid (w4.cell? ⟨S + 1, 0, none⟩ = some (.func (.func 74) #[] #[]) ∧ w3.heap.size ≤ w4.heap.size) := Hn ⟨by (rw [World.cell?, hk.block (S + 1) (by have := GG.out; have := LL.out.s; omega) (by have := GG.out; omega)]; exact LL.out.c), Nat.le_trans LL.out.s hk.size⟩; clear hr hk ON cX) | (at_builtin; have q1 := own_keepT O4.out (bl_alloc w4 (.cells #[.int .i64 ky, .int .i64 iy, .int .u64 z.x0, .int .u64 z.x1, .int .u64 z.x2, .int .u64 z.x3] 77)); have q2 := cells_newT w4 [.int .i64 ky, .int .i64 iy, .int .u64 z.x0, .int .u64 z.x1, .int .u64 z.x2, .int .u64 z.x3] 77; have q3 : ∀ u ∈ ([.int .i64 ky, .int .i64 iy, .int .u64 z.x0, .int .u64 z.x1, .int .u64 z.x2, .int .u64 z.x3] : List Value), u.oneCell' = true := (by simp [Value.oneCell']); have q6 : w3.heap.size ≤ (w4.alloc (.cells #[.int .i64 ky, .int .i64 iy, .int .u64 z.x0, .int .u64 z.x1, .int .u64 z.x2, .int .u64 z.x3] 77)).heap.size := (by have := C4.out.2; simp; omega); refine wpList_append_own_at _ rfl _ _ 23 rfl w3.heap.size 77 _ _ 6 48 T1.out HI.out HZ0.out HZ1.out HZ2.out rfl (by decide) _ i (tls X) rfl q1 ⟨w4.heap.size, 0, none⟩ 1 1 [.int .i64 ky, .int .i64 iy, .int .u64 z.x0, .int .u64 z.x1, .int .u64 z.x2, .int .u64 z.x3] rfl rfl q2 q3 BN.out.1 BN.out.2 q6 ?_; intro v5 w6 ho hg _ _; have O6 := Hn ho; have R6 := Hn (rb_grown (R4.out.keep (bl_alloc w4 (.cells #[.int .i64 ky, .int .i64 iy, .int .u64 z.x0, .int .u64 z.x1, .int .u64 z.x2, .int .u64 z.x3] 77))) hg V1.out (by have := GG.out; omega) (by have := GG.out; omega)); have K6 := Hn (kp_grown (K4.out.trans (Tr.Kp.of (bl_alloc w4 (.cells #[.int .i64 ky, .int .i64 iy, .int .u64 z.x0, .int .u64 z.x1, .int .u64 z.x2, .int .u64 z.x3] 77)))) hg V1.out (by have := GG.out; omega)); have C6 : Hid (w6.cell? ⟨S + 1, 0, none⟩ = some (.func (.func 74) #[] #[]) ∧ w3.heap.size ≤ w6.heap.size) := Hn ⟨hg.cell (cell_keep C4.out.1 (bl_alloc w4 (.cells #[.int .i64 ky, .int .i64 iy, .int .u64 z.x0, .int .u64 z.x1, .int .u64 z.x2, .int .u64 z.x3] 77))) (fun e => by have := V1.out (S + 1) e.symm; have := GG.out; omega), Nat.le_trans q6 hg.size⟩; clear ho hg q1 q2 q3 q6 O4 R4 K4 C4))
    clear LL HI HZ0 HZ1 HZ2 T1
    have ER := Hn (rb_err R6.out)
    go_wp2_with (first | (go_at_call 72; refine ER.out.mono ?_; rintro r w7 ⟨rfl, hw7⟩; rw [hw7]; clear hw7 w7 ER))
    have PN : Hid (∃ X r, Lt1 w w3 g q S n b1 (i + 1) X r v5 w6) := Hn ⟨_, _, PS.out, by rw [TS.out]; exact O6.out, R6.out, K6.out, C6.out.1, C6.out.2⟩
    clear O6 R6 K6 C6 PS TS BN XL RL V1
    go_roundw
    case rel => exact ⟨i + 1, by omega, by go_num, PN⟩
    case measure => simp [intOf]; omega
   | none =>
    have EZ := tk_none hp
    have PN : Hid (pL pT most bs = none) := Hn (by rw [PC.out]; exact pR_none (n := i + 1) (by rw [pR, LL.out.p]; simp only; rw [hp]) hin)
    generalize (tk1 rr 0 : Int) = ky at ON
    generalize (tk2 rr 0 : Int) = iy at ON
    generalize tkz rr 0 = z at ON
    generalize tkb rr 0 = r2 at ON
    generalize tke rr 0 = e2 at ON EZ
    replace ON := Hn ON
    have he2 : (e2 != 0) = true := by simpa using EZ
    have EN := Hn EZ
    clear EZ hp
    go_upto_region 6 with (first | (go_at_call 74; refine ON.out.mono ?_; rintro r w4 ⟨rfl, hr, hk⟩; have O4 := Hn (hk.own LL.out.o (fun e => by (have := V1.out g e; have := GG.out; omega))); have R4 := Hn hr; have K4 := Hn (LL.out.k.trans hk); have C4 : Hid (w4.cell? ⟨S + 1, 0, none⟩ = some (.func (.func 74) #[] #[]) ∧ w3.heap.size ≤ w4.heap.size) := Hn ⟨by (rw [World.cell?, hk.block (S + 1) (by have := GG.out; have := LL.out.s; omega) (by have := GG.out; omega)]; exact LL.out.c), Nat.le_trans LL.out.s hk.size⟩; clear hr hk ON cX) | (at_builtin; have q1 := own_keepT O4.out (bl_alloc w4 (.cells #[.int .i64 ky, .int .i64 iy, .int .u64 z.x0, .int .u64 z.x1, .int .u64 z.x2, .int .u64 z.x3] 77)); have q2 := cells_newT w4 [.int .i64 ky, .int .i64 iy, .int .u64 z.x0, .int .u64 z.x1, .int .u64 z.x2, .int .u64 z.x3] 77; have q3 : ∀ u ∈ ([.int .i64 ky, .int .i64 iy, .int .u64 z.x0, .int .u64 z.x1, .int .u64 z.x2, .int .u64 z.x3] : List Value), u.oneCell' = true := (by simp [Value.oneCell']); have q6 : w3.heap.size ≤ (w4.alloc (.cells #[.int .i64 ky, .int .i64 iy, .int .u64 z.x0, .int .u64 z.x1, .int .u64 z.x2, .int .u64 z.x3] 77)).heap.size := (by have := C4.out.2; simp; omega); refine wpList_append_own_at _ rfl _ _ 23 rfl w3.heap.size 77 _ _ 6 48 T1.out HI.out HZ0.out HZ1.out HZ2.out rfl (by decide) _ i (tls X) rfl q1 ⟨w4.heap.size, 0, none⟩ 1 1 [.int .i64 ky, .int .i64 iy, .int .u64 z.x0, .int .u64 z.x1, .int .u64 z.x2, .int .u64 z.x3] rfl rfl q2 q3 BN.out.1 BN.out.2 q6 ?_; intro v5 w6 ho hg _ _; have O6 := Hn ho; have R6 := Hn (rb_grown (R4.out.keep (bl_alloc w4 (.cells #[.int .i64 ky, .int .i64 iy, .int .u64 z.x0, .int .u64 z.x1, .int .u64 z.x2, .int .u64 z.x3] 77))) hg V1.out (by have := GG.out; omega) (by have := GG.out; omega)); have K6 := Hn (kp_grown (K4.out.trans (Tr.Kp.of (bl_alloc w4 (.cells #[.int .i64 ky, .int .i64 iy, .int .u64 z.x0, .int .u64 z.x1, .int .u64 z.x2, .int .u64 z.x3] 77)))) hg V1.out (by have := GG.out; omega)); have C6 : Hid (w6.cell? ⟨S + 1, 0, none⟩ = some (.func (.func 74) #[] #[]) ∧ w3.heap.size ≤ w6.heap.size) := Hn ⟨hg.cell (cell_keep C4.out.1 (bl_alloc w4 (.cells #[.int .i64 ky, .int .i64 iy, .int .u64 z.x0, .int .u64 z.x1, .int .u64 z.x2, .int .u64 z.x3] 77))) (fun e => by have := V1.out (S + 1) e.symm; have := GG.out; omega), Nat.le_trans q6 hg.size⟩; clear ho hg q1 q2 q3 q6 O4 R4 K4 C4))
    clear LL HI HZ0 HZ1 HZ2 T1
    have ER := Hn (rb_err R6.out)
    go_wp2_with (first | (go_at_call 72; refine ER.out.mono ?_; rintro r w7 ⟨rfl, hw7⟩; rw [hw7]; clear hw7 w7 ER))
    go_ret
    exact .inr ⟨PN.out, rfl, r2, e2, EN.out, R6.out, K6.out⟩
  ·obtain rfl : i = n := by omega
   have lq : ¬ (i : Int) < (i : Int) := by omega
   clear cX
   go_wp2_with fail
   refine bodyPost_ret (v := u8) (by simp [results, Tryz.results73, go_sem]) rfl (.inl ⟨X, rr, u8, by rw [PC.out]; exact LL.out.p, rfl, ?_, LL.out.r, LL.out.k⟩)
   rw [XL.out]
   exact own_monoT LL.out.o (by have := H3.out.2; have := ES.out; omega)
end Ci
end Go.Proofs.YthngomhhafoamaaGreatDoor
