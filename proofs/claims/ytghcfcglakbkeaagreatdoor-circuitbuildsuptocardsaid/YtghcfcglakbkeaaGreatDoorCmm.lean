import Derived.Test.YtghcfcglakbkeaaGreatDoorCml
namespace Go.Proofs.YtghcfcglakbkeaaGreatDoor
set_option maxRecDepth 100000
set_option maxHeartbeats 16000000
open Go.RowKit
set_option linter.unusedVariables false
set_option linter.unusedSimpArgs false
open Cm (Wr Tm co bf Ls lf ins Eqm)
namespace Ci
structure Mu (base : Nat) (w0 : World) (s m Kg : Nat) (v : Value) (vs : List Value) (QQ : List (List Tm)) (b : Nat) (Pa : Option Addr) (na : Nat) (fa : Nat → Trm) (Pb : Option Addr) (nb : Nat) (fb : Nat → Trm) (x : World) : Prop where
 sy : Sy base x s m Kg v vs QQ
 mp : Mp x b []
 tb : Tb x
 la : Lt x Pa na fa
 lb : Lt x Pb nb fb
 fr : Fy s v b w0 x
 hb : w0.heap.size ≤ b
theorem Mu.bel {base : Nat} {w0 : World} {s m Kg : Nat} {v : Value} {vs : List Value} {QQ : List (List Tm)} {b : Nat} {Pa Pb : Option Addr} {na nb : Nat} {fa fb : Nat → Trm} {x y : World} (h : Mu base w0 s m Kg v vs QQ b Pa na fa Pb nb fb x) (k : Below x.heap.size x y) : Mu base w0 s m Kg v vs QQ b Pa na fa Pb nb fb y := ⟨h.sy.keep k, h.mp.keep k, h.tb.keep k, h.la.keep k, h.lb.keep k, h.fr.bel k, h.hb⟩
theorem Mu.map {base : Nat} {w0 : World} {s m Kg : Nat} {v : Value} {vs : List Value} {QQ : List (List Tm)} {b : Nat} {Pa Pb : Option Addr} {na nb : Nat} {fa fb : Nat → Trm} {x y : World} (h : Mu base w0 s m Kg v vs QQ b Pa na fa Pb nb fb x) {M' : List Tm} (k : x.grownBy y (some b)) (hm : Mp y b []) : Mu base w0 s m Kg v vs QQ b Pa na fa Pb nb fb y := ⟨h.sy.map h.mp k, hm, mp_tb h.mp k h.tb, mp_lt h.mp k h.la, mp_lt h.mp k h.lb, h.fr.map k, h.hb⟩
theorem lt_no {x y : World} {t n : Nat} {P : Option Addr} {f : Nat → Trm} (h : Lt x P n f) (hg : x.grownBy y (some t)) (hn : ∀ o u, x.cell? ⟨t, o, none⟩ ≠ some (.int .u64 u)) : Lt y P n f := by
 obtain ⟨sb, so, h1, h2⟩ := h
 refine ⟨sb, so, h1, fun h0 => ?_⟩
 have hR := h2 h0
 have hne : some sb ≠ some t := fun e => by
  obtain rfl := Option.some.inj e
  exact hn _ _ (hR.c2 0 h0)
 exact ⟨fun k hk => hg.cell (hR.c0 k hk) hne, fun k hk => hg.cell (hR.c1 k hk) hne, fun k hk => hg.cell (hR.c2 k hk) hne, fun k hk => hg.cell (hR.c3 k hk) hne, fun k hk => hg.cell (hR.c4 k hk) hne, fun k hk => hg.cell (hR.c5 k hk) hne⟩
theorem tb_no {x y : World} {t : Nat} (h : Tb x) (hg : x.grownBy y (some t)) (hn : ∀ o u, x.cell? ⟨t, o, none⟩ ≠ some (.int .u64 u)) : Tb y := by
 obtain ⟨h0, h1, h2, h3, h4, h5, h6, h7, h8, h9, h10, h11⟩ := h
 have hne : some 1 ≠ some t := fun e => by
  obtain rfl := Option.some.inj e
  exact hn _ _ h0
 exact ⟨hg.cell h0 hne, hg.cell h1 hne, hg.cell h2 hne, hg.cell h3 hne, hg.cell h4 hne, hg.cell h5 hne, hg.cell h6 hne, hg.cell h7 hne, hg.cell h8 hne, hg.cell h9 hne, hg.cell h10 hne, hg.cell h11 hne⟩
theorem sy_no {base : Nat} {w : World} {s m Kg : Nat} {v : Value} {vs : List Value} {Q : List (List Tm)} (h : Sy base w s m Kg v vs Q) : ∀ o u, w.cell? ⟨s, o, none⟩ ≠ some (.int .u64 u) := fun o u e => by
 rw [h.cell o] at e
 obtain ⟨P, c, hv, _, _⟩ := h.shape
 subst hv
 match o, e with
 | 0, e => simp at e
 | 1, e => simp at e
 | 2, e => simp at e
 | 3, e => simp at e
 | k + 4, e => simp at e
theorem Mu.gate {base : Nat} {w0 : World} {s m Kg : Nat} {v : Value} {vs : List Value} {QQ : List (List Tm)} {b : Nat} {Pa Pb : Option Addr} {na nb : Nat} {fa fb : Nat → Trm} {x y : World} (h : Mu base w0 s m Kg v vs QQ b Pa na fa Pb nb fb x) (k : x.grownBy y (some s)) (hs : Sy base y s m (Kg + 1) v vs QQ) : Mu base w0 s m (Kg + 1) v vs QQ b Pa na fa Pb nb fb y :=
 ⟨hs, h.mp.grown k (fun e => Mp.nob h.mp _ _ _ (by rw [Option.some.inj e]; exact h.sy.h)), tb_no h.tb k (sy_no h.sy), lt_no h.la k (sy_no h.sy), lt_no h.lb k (sy_no h.sy), h.fr.sys k, h.hb⟩
theorem wi_no {x : World} {t : Nat} {p q : Int} (h : x.heap[t]? = some (.cells #[.int .i64 p, .int .i64 q] 79 (0, 0))) : ∀ o u, x.cell? ⟨t, o, none⟩ ≠ some (.int .u64 u) := fun o u e => by
 rw [cell_of_row x t o _ 79 (0, 0) h] at e
 match o, e with
 | 0, e => simp at e
 | 1, e => simp at e
 | k + 2, e => simp at e
theorem own_keepW {w w' : World} {base' sz t : Nat} {e : TypeId} {u : Value} {n : Nat} {xs : List Value} {arr : Array Value} (ho : w.ownsRow base' e sz u n xs) (hs : w.heap[t]? = some (.cells arr 79 (0, 0))) (hne : e ≠ 79) (hg : w.grownBy w' (some t)) : w'.ownsRow base' e sz u n xs := ⟨ho.1, by
 rcases ho.2 with h0 | ⟨g, c, cur, h1, h2, h3, h4⟩
 ·exact .inl h0
 ·refine .inr ⟨g, c, cur, h1, h2, (hg.block g (Array.getElem?_eq_some_iff.1 h3).1 (fun e' => ?_)).trans h3, h4⟩
  have e' := Option.some.inj e'
  subst e'
  rw [hs] at h3
  simp only [Option.some.injEq, Obj.cells.injEq] at h3
  exact hne h3.2.1.symm⟩
theorem Mu.box {base : Nat} {w0 : World} {s m Kg : Nat} {v : Value} {vs : List Value} {QQ : List (List Tm)} {b : Nat} {Pa Pb : Option Addr} {na nb : Nat} {fa fb : Nat → Trm} {x y : World} (h : Mu base w0 s m Kg v vs QQ b Pa na fa Pb nb fb x) {t : Nat} {p q : Int} (ht : x.heap[t]? = some (.cells #[.int .i64 p, .int .i64 q] 79 (0, 0))) (hl : w0.heap.size ≤ t) (k : x.grownBy y (some t)) : Mu base w0 s m Kg v vs QQ b Pa na fa Pb nb fb y := by
 have hst : s ≠ t := fun e => by
  subst e
  have := h.sy.h
  rw [ht] at this
  simp only [Option.some.injEq, Obj.cells.injEq] at this
  exact absurd this.2.1 (by decide)
 refine ⟨⟨(k.block s h.sy.lt (fun e => hst (Option.some.inj e))).trans h.sy.h, own_keepW h.sy.row ht (by decide) k, fun i X hX => ?_, h.sy.bs, h.sy.sm⟩, h.mp.grown k (fun e => Mp.nob h.mp _ _ _ (by rw [Option.some.inj e]; exact ht)), tb_no h.tb k (wi_no ht), lt_no h.la k (wi_no ht), lt_no h.lb k (wi_no ht), ⟨k.os.trans h.fr.os, k.tape.trans h.fr.tape, k.output.trans h.fr.output, Nat.le_trans h.fr.size k.size, fun i hi h1 h2 h3 => ?_⟩, h.hb⟩
 ·obtain ⟨u, h1, h2⟩ := h.sy.ls i X hX
  exact ⟨u, h1, own_keepW h2 ht (by decide) k⟩
 ·rw [k.block i (Nat.lt_of_lt_of_le hi h.fr.size) (fun e => by have := Option.some.inj e; omega)]
  exact h.fr.block i hi h1 h2 h3
structure Bx (x : World) (t : Nat) (p0 q0 p1 q1 p2 q2 : Int) : Prop where
 h0 : x.heap[t]? = some (.cells #[.int .i64 p0, .int .i64 q0] 79 (0, 0))
 h1 : x.heap[t + 1]? = some (.cells #[.int .i64 p1, .int .i64 q1] 79 (0, 0))
 h2 : x.heap[t + 1 + 1]? = some (.cells #[.int .i64 p2, .int .i64 q2] 79 (0, 0))
section
variable {x y : World} {t : Nat} {p0 q0 p1 q1 p2 q2 : Int}
theorem Bx.gr (h : Bx x t p0 q0 p1 q1 p2 q2) {row : Option Nat} (k : x.grownBy y row) (n0 : some t ≠ row) (n1 : some (t + 1) ≠ row) (n2 : some (t + 1 + 1) ≠ row) : Bx y t p0 q0 p1 q1 p2 q2 :=
 ⟨(k.block t (Array.getElem?_eq_some_iff.1 h.h0).1 n0).trans h.h0, (k.block (t + 1) (Array.getElem?_eq_some_iff.1 h.h1).1 n1).trans h.h1, (k.block (t + 1 + 1) (Array.getElem?_eq_some_iff.1 h.h2).1 n2).trans h.h2⟩
theorem Bx.bel (h : Bx x t p0 q0 p1 q1 p2 q2) (k : Below x.heap.size x y) : Bx y t p0 q0 p1 q1 p2 q2 := h.gr (gbI k none) (by simp) (by simp) (by simp)
theorem Bx.ne (h : Bx x t p0 q0 p1 q1 p2 q2) {r : Nat} (hr : ∀ arr, x.heap[r]? ≠ some (.cells arr 79 (0, 0))) : t ≠ r ∧ t + 1 ≠ r ∧ t + 1 + 1 ≠ r := ⟨fun e => by subst e; exact hr _ h.h0, fun e => by subst e; exact hr _ h.h1, fun e => by subst e; exact hr _ h.h2⟩
theorem Bx.to (h : Bx x t p0 q0 p1 q1 p2 q2) {r : Nat} (hr : ∀ arr, x.heap[r]? ≠ some (.cells arr 79 (0, 0))) (k : x.grownBy y (some r)) : Bx y t p0 q0 p1 q1 p2 q2 := by
 obtain ⟨n0, n1, n2⟩ := h.ne hr
 exact h.gr k (fun e => n0 (Option.some.inj e)) (fun e => n1 (Option.some.inj e)) (fun e => n2 (Option.some.inj e))
theorem Bx.c00 (h : Bx x t p0 q0 p1 q1 p2 q2) : x.cell? ⟨t, 0, none⟩ = some (.int .i64 p0) := cell_of_row x (t) 0 _ 79 (0, 0) h.h0
theorem Bx.f00 (h : Bx x t p0 q0 p1 q1 p2 q2) : x.frozen? ⟨t, 0, none⟩ = false := by
 unfold World.frozen?
 rw [h.h0]
 simp
theorem Bx.c01 (h : Bx x t p0 q0 p1 q1 p2 q2) : x.cell? ⟨t, 1, none⟩ = some (.int .i64 q0) := cell_of_row x (t) 1 _ 79 (0, 0) h.h0
theorem Bx.f01 (h : Bx x t p0 q0 p1 q1 p2 q2) : x.frozen? ⟨t, 1, none⟩ = false := by
 unfold World.frozen?
 rw [h.h0]
 simp
theorem Bx.c10 (h : Bx x t p0 q0 p1 q1 p2 q2) : x.cell? ⟨t + 1, 0, none⟩ = some (.int .i64 p1) := cell_of_row x (t + 1) 0 _ 79 (0, 0) h.h1
theorem Bx.f10 (h : Bx x t p0 q0 p1 q1 p2 q2) : x.frozen? ⟨t + 1, 0, none⟩ = false := by
 unfold World.frozen?
 rw [h.h1]
 simp
theorem Bx.c11 (h : Bx x t p0 q0 p1 q1 p2 q2) : x.cell? ⟨t + 1, 1, none⟩ = some (.int .i64 q1) := cell_of_row x (t + 1) 1 _ 79 (0, 0) h.h1
theorem Bx.f11 (h : Bx x t p0 q0 p1 q1 p2 q2) : x.frozen? ⟨t + 1, 1, none⟩ = false := by
 unfold World.frozen?
 rw [h.h1]
 simp
theorem Bx.c20 (h : Bx x t p0 q0 p1 q1 p2 q2) : x.cell? ⟨t + 1 + 1, 0, none⟩ = some (.int .i64 p2) := cell_of_row x (t + 1 + 1) 0 _ 79 (0, 0) h.h2
theorem Bx.f20 (h : Bx x t p0 q0 p1 q1 p2 q2) : x.frozen? ⟨t + 1 + 1, 0, none⟩ = false := by
 unfold World.frozen?
 rw [h.h2]
 simp
theorem Bx.c21 (h : Bx x t p0 q0 p1 q1 p2 q2) : x.cell? ⟨t + 1 + 1, 1, none⟩ = some (.int .i64 q2) := cell_of_row x (t + 1 + 1) 1 _ 79 (0, 0) h.h2
theorem Bx.f21 (h : Bx x t p0 q0 p1 q1 p2 q2) : x.frozen? ⟨t + 1 + 1, 1, none⟩ = false := by
 unfold World.frozen?
 rw [h.h2]
 simp
theorem Bx.set {base : Nat} {w0 : World} {s m Kg : Nat} {v : Value} {vs : List Value} {QQ : List (List Tm)} {b : Nat} {Pa Pb : Option Addr} {na nb : Nat} {fa fb : Nat → Trm}  (h : Bx x t p0 q0 p1 q1 p2 q2) (hm : Mu base w0 s m Kg v vs QQ b Pa na fa Pb nb fb x) (hl : w0.heap.size ≤ t) (a0 b0 a1 b1 a2 b2 : Int) : Bx ((((((x.setCell ⟨t, 0, none⟩ (.int .i64 a0)).setCell ⟨t, 1, none⟩ (.int .i64 b0)).setCell ⟨t + 1, 0, none⟩ (.int .i64 a1)).setCell ⟨t + 1, 1, none⟩ (.int .i64 b1)).setCell ⟨t + 1 + 1, 0, none⟩ (.int .i64 a2)).setCell ⟨t + 1 + 1, 1, none⟩ (.int .i64 b2)) t a0 b0 a1 b1 a2 b2 ∧ Mu base w0 s m Kg v vs QQ b Pa na fa Pb nb fb ((((((x.setCell ⟨t, 0, none⟩ (.int .i64 a0)).setCell ⟨t, 1, none⟩ (.int .i64 b0)).setCell ⟨t + 1, 0, none⟩ (.int .i64 a1)).setCell ⟨t + 1, 1, none⟩ (.int .i64 b1)).setCell ⟨t + 1 + 1, 0, none⟩ (.int .i64 a2)).setCell ⟨t + 1 + 1, 1, none⟩ (.int .i64 b2)) := by
 have e0 : ((x.setCell ⟨t, 0, none⟩ (.int .i64 a0)).setCell ⟨t, 1, none⟩ (.int .i64 b0)).heap[t]? = some (.cells #[.int .i64 a0, .int .i64 b0] 79 (0, 0)) := by
  rw [heap_setCell_same _ t 1 #[.int .i64 a0, .int .i64 q0] 79 _ (by rw [heap_setCell_same x t 0 _ 79 _ h.h0]; rfl)]
  rfl
 have g0 : x.grownBy ((x.setCell ⟨t, 0, none⟩ (.int .i64 a0)).setCell ⟨t, 1, none⟩ (.int .i64 b0)) (some t) := gb_tr (gb_cell _ _ _ _) (gb_cell _ _ _ _)
 have m0 := hm.box h.h0 hl g0
 have k1 := (g0.block (t + 1) (Array.getElem?_eq_some_iff.1 h.h1).1 (by simp)).trans h.h1
 have k2 := (g0.block (t + 1 + 1) (Array.getElem?_eq_some_iff.1 h.h2).1 (by simp; omega)).trans h.h2
 generalize (x.setCell ⟨t, 0, none⟩ (.int .i64 a0)).setCell ⟨t, 1, none⟩ (.int .i64 b0) = x1 at *
 have e1 : ((x1.setCell ⟨t + 1, 0, none⟩ (.int .i64 a1)).setCell ⟨t + 1, 1, none⟩ (.int .i64 b1)).heap[t + 1]? = some (.cells #[.int .i64 a1, .int .i64 b1] 79 (0, 0)) := by
  rw [heap_setCell_same _ (t + 1) 1 #[.int .i64 a1, .int .i64 q1] 79 _ (by rw [heap_setCell_same x1 (t + 1) 0 _ 79 _ k1]; rfl)]
  rfl
 have g1 : x1.grownBy ((x1.setCell ⟨t + 1, 0, none⟩ (.int .i64 a1)).setCell ⟨t + 1, 1, none⟩ (.int .i64 b1)) (some (t + 1)) := gb_tr (gb_cell _ _ _ _) (gb_cell _ _ _ _)
 have m1 := m0.box k1 (by omega) g1
 have j0 := (g1.block t (Array.getElem?_eq_some_iff.1 e0).1 (by simp)).trans e0
 have j2 := (g1.block (t + 1 + 1) (Array.getElem?_eq_some_iff.1 k2).1 (by simp)).trans k2
 generalize (x1.setCell ⟨t + 1, 0, none⟩ (.int .i64 a1)).setCell ⟨t + 1, 1, none⟩ (.int .i64 b1) = x2 at *
 have e2 : ((x2.setCell ⟨t + 1 + 1, 0, none⟩ (.int .i64 a2)).setCell ⟨t + 1 + 1, 1, none⟩ (.int .i64 b2)).heap[t + 1 + 1]? = some (.cells #[.int .i64 a2, .int .i64 b2] 79 (0, 0)) := by
  rw [heap_setCell_same _ (t + 1 + 1) 1 #[.int .i64 a2, .int .i64 q2] 79 _ (by rw [heap_setCell_same x2 (t + 1 + 1) 0 _ 79 _ j2]; rfl)]
  rfl
 have g2 : x2.grownBy ((x2.setCell ⟨t + 1 + 1, 0, none⟩ (.int .i64 a2)).setCell ⟨t + 1 + 1, 1, none⟩ (.int .i64 b2)) (some (t + 1 + 1)) := gb_tr (gb_cell _ _ _ _) (gb_cell _ _ _ _)
 exact ⟨⟨(g2.block t (Array.getElem?_eq_some_iff.1 j0).1 (by simp; omega)).trans j0, (g2.block (t + 1) (Array.getElem?_eq_some_iff.1 e1).1 (by simp)).trans e1, e2⟩, m1.box j2 (by omega) g2⟩
end
theorem wi_ne_map {x : World} {b : Nat} {M : List Tm} (h : Mp x b M) : ∀ arr, x.heap[b]? ≠ some (.cells arr 79 (0, 0)) := fun arr e => Mp.nob h _ _ _ e
theorem wi_ne_sy {base : Nat} {w : World} {s m Kg : Nat} {v : Value} {vs : List Value} {Q : List (List Tm)} (h : Sy base w s m Kg v vs Q) : ∀ arr, w.heap[s]? ≠ some (.cells arr 79 (0, 0)) := fun arr e => by
 rw [h.h] at e
 simp only [Option.some.injEq, Obj.cells.injEq] at e
 exact absurd e.2.1 (by decide)
def Sq1 (w : World) (b : Nat) (X : List Tm) (v : Value) (n : Nat) (w' : World) : Prop := w'.ownsRow w.heap.size 123 6 v n (tls X) ∧ Mp w' b [] ∧ w.grownBy w' (some b) ∧ Ls Sm.L X
theorem mul_more {base s m Kg nq x1 x2 cv : Nat} {Pv : Option Addr} {w w2 : World} {vs : List Value} {Q : List (List Tm)} {X1 X2 : List Tm} {R1 R2 P4 : Option Addr} {e1 e2 c4 : Nat} (h : Sy base w s m Kg (.slice Pv nq cv) vs Q) (hq : Q.length = nq) (hx : X1.length = x1) (hx2 : X2.length = x2) (hu : w.ownsRow 0 123 6 (.slice R1 x1 e1) x1 (tls X1)) (hu2 : w.ownsRow 0 123 6 (.slice R2 x2 e2) x2 (tls X2)) (hX : Ls Sm.L X1) (hX2 : Ls Sm.L X2) (ho : w2.ownsRow base 38 1 (.slice P4 (nq + 2) c4) (nq + 2) (vs ++ [.slice R1 x1 e1, .slice R2 x2 e2])) (hg : w.grownBy w2 (Value.slice Pv nq cv).ownBlock) :
  Sy base (w2.setCell ⟨s, 2, none⟩ (.slice P4 (nq + 2) c4)) s m Kg (.slice P4 (nq + 2) c4) (vs ++ [.slice R1 x1 e1, .slice R2 x2 e2]) (Q ++ [X1, X2]) := by
 subst hq
 subst hx
 subst hx2
 refine h.moreL (us := [.slice R1 X1.length e1, .slice R2 X2.length e2]) (Xs := [X1, X2]) (fun i Y hY => ?_) (fun Y hY => ?_) ho hg
 ·have hi := (List.getElem?_eq_some_iff.1 hY).1
  have : i = 0 ∨ i = 1 := by simp at hi; omega
  rcases this with rfl | rfl
  ·simp only [List.getElem?_cons_zero, Option.some.injEq] at hY
   subst hY
   exact ⟨_, rfl, hu⟩
  ·simp only [List.getElem?_cons_succ, List.getElem?_cons_zero, Option.some.injEq] at hY
   subst hY
   exact ⟨_, rfl, hu2⟩
 ·simp only [List.mem_cons, List.not_mem_nil, or_false] at hY
  rcases hY with rfl | rfl
  ·exact hX
  ·exact hX2
theorem wp_appLA {w : World} {o : Oper} {a : Act} {K : Act → World → Prop} {Q' : Exit → Act → World → Prop} (s' x : Operand) (ho : o.op = .call { callee := .builtin .append, args := #[s', x], argTypes := #[25, 25] }) {base s m Kg : Nat} {Pv : Option Addr} {nq cv : Nat} {vs : List Value} {Q : List (List Tm)} (h : Sy base w s m Kg (.slice Pv nq cv) vs Q) (hq : Q.length = nq) (hq2 : nq ≤ 4096) (tb k : Nat) (us : List Value) (hk : us.length = k) (hk2 : k ≤ 2) (hs : a.eval s' = .slice Pv nq cv) (hx : a.eval x = .slice (some ⟨tb, 0, none⟩) k k) (hc : ∀ j u, us[j]? = some u → w.cell? ((⟨tb, 0, none⟩ : Addr).add j) = some u) (h1 : ∀ u ∈ us, u.oneCell' = true)
  (hK : ∀ P4 c4 w', w'.ownsRow base 38 1 (.slice P4 (nq + k) c4) (nq + k) (vs ++ us) → w.grownBy w' (Value.slice Pv nq cv).ownBlock → (∀ k', (Value.slice P4 (nq + k) c4).ownBlock = some k' → (Value.slice Pv nq cv).ownBlock = some k' ∨ w.heap.size ≤ k') → K (a.put o.dst (.slice P4 (nq + k) c4)) w') : o.wp Tryz.prog a w K Q' := by
 subst hq
 obtain ⟨v', w', hr, h2, h3, h4, h5⟩ := run_append_own_at (P := Tryz.prog) w base 25 o.type 38 _ _ 1 24 llu llinfo llz0 llz1 llz2 rfl (by decide) _ Q.length vs h.row ⟨tb, 0, none⟩ k k us (by omega) hc h1 (by unfold maxLen; omega) (by omega) (by have := h.lt; have := h.bs; omega)
 unfold Oper.wp execOp
 simp only [ho, resolve, invoke, builtin, Sem.run_bind, Sem.run_pure, Result.andThen_ok, List.map_toArray, List.map_cons, List.map_nil, hs, hx, hr]
 obtain ⟨P4, c4, rfl⟩ := own_sh1 h2
 refine hK P4 c4 w' h2 h3 (fun k' hk' => ?_)
 rcases h5 with h5 | h5
 ·rw [h5] at hk'; exact .inl hk'
 ·rw [h5] at hk'; exact .inr (by rw [← Option.some.inj hk']; exact Nat.le_refl _)
def pCmm0 : String := "circuit.go:78"
def pCmm1 : String := "circuit.go:80"
def pCmm2 : String := "circuit.go:72"
def pCmm3 : String := "circuit.go:74"
def mu10o_0 : Oper := oO 54 (Op.move (Operand.tmp 0)) 23 pCmm0 #[]
def mu10o_1 : Oper := oO 55 (Op.move (Operand.tmp 0)) 23 pCmm0 #[]
def mu10o_2 : Oper := oO 56 (Op.nilCheck (Operand.tmp 55)) 0 pCmm0 #[DD 1]
def mu10o_3 : Oper := oO 57 (Op.fieldAddr 27 (Operand.tmp 56) 2) 0 pCmm0 #[DD 2]
def mu10o_4 : Oper := oO 58 (Op.load 25 (Operand.tmp 57)) 25 pCmm0 #[DD 3]
def mu10o_5 : Oper := oO 59 (Op.move (Operand.tmp 10)) 132 pCmm0 #[]
def mu10o_6 : Oper := oO 60 (Op.load 79 (Operand.tmp 6)) 79 pCmm0 #[]
def mu10o_7 : Oper := oO 61 (Op.call { callee := Callee.value (Operand.func 66), args := #[Operand.tmp 60], argTypes := #[79] }) 38 pCmm0 #[DD 6]
def mu10o_8 : Oper := oO 62 (Op.move (Operand.tmp 1)) 38 pCmm0 #[]
def mu10o_9 : Oper := oO 63 (Op.call { callee := Callee.value (Operand.func 65), args := #[Operand.tmp 59, Operand.tmp 61, Operand.tmp 62], argTypes := #[132, 38, 38] }) 38 pCmm0 #[DD 5, DD 7, DD 8, CH 7]
def mu10o_10 : Oper := oO 64 (Op.move (Operand.tmp 10)) 132 pCmm0 #[]
def mu10o_11 : Oper := oO 65 (Op.load 79 (Operand.tmp 7)) 79 pCmm0 #[]
def mu10o_12 : Oper := oO 66 (Op.call { callee := Callee.value (Operand.func 66), args := #[Operand.tmp 65], argTypes := #[79] }) 38 pCmm0 #[DD 11, CH 9]
def mu10o_13 : Oper := oO 67 (Op.move (Operand.tmp 2)) 38 pCmm0 #[]
def mu10o_14 : Oper := oO 68 (Op.call { callee := Callee.value (Operand.func 65), args := #[Operand.tmp 64, Operand.tmp 66, Operand.tmp 67], argTypes := #[132, 38, 38] }) 38 pCmm0 #[DD 10, DD 12, DD 13, CH 12]
def mu10o_15 : Oper := oO 69 (Op.buildSlice 25 2 #[(0, Operand.tmp 63), (1, Operand.tmp 68)]) 25 pCmm0 #[DD 9, DD 14]
def mu10o_16 : Oper := oO 70 (Op.call { callee := Callee.builtin Builtin.append, args := #[Operand.tmp 58, Operand.tmp 69], argTypes := #[25, 25] }) 25 pCmm0 #[DD 4, DD 15, CH 14]
def mu10o_17 : Oper := oO 71 (Op.nilCheck (Operand.tmp 54)) 0 pCmm0 #[DD 0, PH 0, PH 1, PH 2, PH 3, PH 4, PH 5, PH 6, PH 7, PH 8, PH 9, PH 10, PH 11, PH 12, PH 13, PH 14, PH 15, PH 16]
def mu10o_18 : Oper := oO 72 (Op.fieldAddr 27 (Operand.tmp 71) 2) 0 pCmm0 #[DD 17, PH 0, PH 1, PH 2, PH 3, PH 4, PH 5, PH 6, PH 7, PH 8, PH 9, PH 10, PH 11, PH 12, PH 13, PH 14, PH 15, PH 16]
def mu10o_19 : Oper := oN (Op.store 25 (Operand.tmp 72) (Operand.tmp 70)) pCmm0 #[DD 18, DD 16, CH 16, PH 0, PH 1, PH 2, PH 3, PH 4, PH 5, PH 6, PH 7, PH 8, PH 9, PH 10, PH 11, PH 12, PH 13, PH 14, PH 15, PH 16]
def mu10o : Array Oper := #[mu10o_0, mu10o_1, mu10o_2, mu10o_3, mu10o_4, mu10o_5, mu10o_6, mu10o_7, mu10o_8, mu10o_9, mu10o_10, mu10o_11, mu10o_12, mu10o_13, mu10o_14, mu10o_15, mu10o_16, mu10o_17, mu10o_18, mu10o_19]
theorem mu10 (Q : Exit → Act → World → Prop) (base s m Kg nq cv x1 x2 b na nb ca cb T0 T1 : Nat) (w0 : World) (Pv Pa Pb : Option Addr) (fa fb : Nat → Trm) (vs : List Value) (QQ : List (List Tm)) (X1 X2 : List Tm) (p0 q0 p1 q1 : Int) (u3 u4 u5 u8 u9 ab ad ae af ag ah ai aj ak al am an ao ap aq au av aw ax ay az aA aB aC aD aE aF aG aH aI aJ aK aL aM aN aO aP aQ aR aS aT aU aV aW aX aY aZ a3 a4 a5 a6 a7 a8 a9 ba bb bc bd be bg bh bi bj bk bl bm : Value) (W : World)
  (mu : Mu base w0 s m Kg (.slice Pv nq cv) vs QQ b Pa na fa Pb nb fb W) (HNQ : Hid (QQ.length = nq)) (HQ2 : Hid (nq ≤ 4096)) (HX1 : Hid (X1.length = x1)) (HX2 : Hid (X2.length = x2))
  (c00 : W.cell? ⟨T0, 0, none⟩ = some (.int .i64 p0)) (c01 : W.cell? ⟨T0, 1, none⟩ = some (.int .i64 q0)) (c10 : W.cell? ⟨T1, 0, none⟩ = some (.int .i64 p1)) (c11 : W.cell? ⟨T1, 1, none⟩ = some (.int .i64 q1))
  (n0s : T0 ≠ s) (n0v : (.slice Pv nq cv : Value).ownBlock ≠ some T0) (n0b : T0 ≠ b) (n1s : T1 ≠ s) (n1v : (.slice Pv nq cv : Value).ownBlock ≠ some T1) (n1b : T1 ≠ b)
  (C7 : Hid (∀ y, Calls Tryz.prog 66 #[.agg #[.int .i64 p0, .int .i64 q0]] y fun e w' => ∃ P c, e = .returned (.slice P 1 c) ∧ Lt w' P 1 (cst (p0, q0)) ∧ Below y.heap.size y w'))
  (C12 : Hid (∀ y, Calls Tryz.prog 66 #[.agg #[.int .i64 p1, .int .i64 q1]] y fun e w' => ∃ P c, e = .returned (.slice P 1 c) ∧ Lt w' P 1 (cst (p1, q1)) ∧ Below y.heap.size y w'))
  (C9 : Hid (∀ y P d, Tb y → Lt y P 1 (cst (p0, q0)) → Lt y Pa na fa → Mp y b [] → Calls Tryz.prog 65 #[.map (some b), .slice P 1 d, .slice Pa na ca] y fun e w' => ∃ R e', e = .returned (.slice R x1 e') ∧ Sq1 y b X1 (.slice R x1 e') x1 w'))
  (C14 : Hid (∀ y P d, Tb y → Lt y P 1 (cst (p1, q1)) → Lt y Pb nb fb → Mp y b [] → Calls Tryz.prog 65 #[.map (some b), .slice P 1 d, .slice Pb nb cb] y fun e w' => ∃ R e', e = .returned (.slice R x2 e') ∧ Sq1 y b X2 (.slice R x2 e') x2 w'))
  (HQ : Hid (∀ (wz : World) (P1 P2 R1 R2 P4 : Option Addr) (d1 d2 e1 e2 c4 tb : Nat), Fy s (.slice Pv nq cv) b W wz → Sy base wz s m Kg (.slice P4 (nq + 2) c4) (vs ++ [.slice R1 x1 e1, .slice R2 x2 e2]) (QQ ++ [X1, X2]) → (∀ k, (Value.slice P4 (nq + 2) c4).ownBlock = some k → (Value.slice Pv nq cv).ownBlock = some k ∨ W.heap.size ≤ k) → (∀ k, (Value.slice R1 x1 e1).ownBlock = some k → W.heap.size ≤ k) → (∀ k, (Value.slice R2 x2 e2).ownBlock = some k → W.heap.size ≤ k) → Q .normal ⟨#[.pointer (some ⟨s, 0, none⟩), .slice Pa na ca, .slice Pb nb cb, u3, u4, u5, .pointer (some ⟨T0, 0, none⟩), .pointer (some ⟨T1, 0, none⟩), u8, u9, .map (some b), ab, ad, ae, af, ag, ah, ai, aj, ak, al, am, an, ao, ap, aq, au, av, aw, ax, ay, az, aA, aB, aC, aD, aE, aF, aG, aH, aI, aJ, aK, aL, aM, aN, aO, aP, aQ, aR, aS, aT, aU, aV, .pointer (some ⟨s, 0, none⟩), .pointer (some ⟨s, 0, none⟩), .pointer (some ⟨s, 0, none⟩), .pointer (some ⟨s, 2, none⟩), .slice Pv nq cv, .map (some b), .agg #[.int .i64 p0, .int .i64 q0], .slice P1 1 d1, .slice Pa na ca, .slice R1 x1 e1, .map (some b), .agg #[.int .i64 p1, .int .i64 q1], .slice P2 1 d2, .slice Pb nb cb, .slice R2 x2 e2, .slice (some ⟨tb, 0, none⟩) 2 2, .slice P4 (nq + 2) c4, .pointer (some ⟨s, 0, none⟩), .pointer (some ⟨s, 2, none⟩), bj, bk, bl, bm], []⟩ wz)) : (Code.region 10 mu10o true).wp Tryz.prog Q ⟨#[.pointer (some ⟨s, 0, none⟩), .slice Pa na ca, .slice Pb nb cb, u3, u4, u5, .pointer (some ⟨T0, 0, none⟩), .pointer (some ⟨T1, 0, none⟩), u8, u9, .map (some b), ab, ad, ae, af, ag, ah, ai, aj, ak, al, am, an, ao, ap, aq, au, av, aw, ax, ay, az, aA, aB, aC, aD, aE, aF, aG, aH, aI, aJ, aK, aL, aM, aN, aO, aP, aQ, aR, aS, aT, aU, aV, aW, aX, aY, aZ, a3, a4, a5, a6, a7, a8, a9, ba, bb, bc, bd, be, bg, bh, bi, bj, bk, bl, bm], []⟩ W := by
 have MUF := Hn (mu.bel (bl_drew W))
 clear mu
 unfold mu10o
 refine wp_region_noPanic ?_
 refine wp_region_held_drew (S := fun x => Fy s (.slice Pv nq cv) b W x) (by kernel_rfl) (Fy.drew0 W) (fun hH0 => ?_)
 refine tj 0 mu10o_0 (.pointer (some ⟨s, 0, none⟩)) hH0 (fun w0 hSw => ?_) ?_
 ·(unfold mu10o_0 oO; clear hSw; go_simp)
 simp only [mu10o_0, oO, Act.put, sA, sB, sC]
 refine tj 1 mu10o_1 (.pointer (some ⟨s, 0, none⟩)) hH0 (fun w0 hSw => ?_) ?_
 ·(unfold mu10o_1 oO; clear hSw; go_simp)
 simp only [mu10o_1, oO, Act.put, sA, sB, sC]
 refine tj 5 mu10o_5 (.map (some b)) hH0 (fun w0 hSw => ?_) ?_
 ·(unfold mu10o_5 oO; clear hSw; go_simp)
 simp only [mu10o_5, oO, Act.put, sA, sB, sC]
 refine tj 6 mu10o_6 (.agg #[.int .i64 p0, .int .i64 q0]) hH0 (fun w0 hSw => ?_) ?_
 ·(unfold mu10o_6 oO; have hS : Fy s (.slice Pv nq cv) b W w0 := hSw; have a0 := hS.cl c00 n0s n0v n0b; have a1 := hS.cl c01 n0s n0v n0b; clear hS hSw; go_simp)
 simp only [mu10o_6, oO, Act.put, sA, sB, sC]
 refine tj 8 mu10o_8 (.slice Pa na ca) hH0 (fun w0 hSw => ?_) ?_
 ·(unfold mu10o_8 oO; clear hSw; go_simp)
 simp only [mu10o_8, oO, Act.put, sA, sB, sC]
 refine tj 10 mu10o_10 (.map (some b)) hH0 (fun w0 hSw => ?_) ?_
 ·(unfold mu10o_10 oO; clear hSw; go_simp)
 simp only [mu10o_10, oO, Act.put, sA, sB, sC]
 refine tj 11 mu10o_11 (.agg #[.int .i64 p1, .int .i64 q1]) hH0 (fun w0 hSw => ?_) ?_
 ·(unfold mu10o_11 oO; have hS : Fy s (.slice Pv nq cv) b W w0 := hSw; have a0 := hS.cl c10 n1s n1v n1b; have a1 := hS.cl c11 n1s n1v n1b; clear hS hSw; go_simp)
 simp only [mu10o_11, oO, Act.put, sA, sB, sC]
 refine tj 13 mu10o_13 (.slice Pb nb cb) hH0 (fun w0 hSw => ?_) ?_
 ·(unfold mu10o_13 oO; clear hSw; go_simp)
 simp only [mu10o_13, oO, Act.put, sA, sB, sC]
 refine tj 2 mu10o_2 (.pointer (some ⟨s, 0, none⟩)) hH0 (fun w0 hSw => ?_) ?_
 ·(unfold mu10o_2 oO; clear hSw; go_simp)
 simp only [mu10o_2, oO, Act.put, sA, sB, sC]
 refine tj 3 mu10o_3 (.pointer (some ⟨s, 2, none⟩)) hH0 (fun w0 hSw => ?_) ?_
 ·(unfold mu10o_3 oO; clear hSw; go_simp)
 simp only [mu10o_3, oO, Act.put, sA, sB, sC]
 refine ar [4, 7] ?_
 refine ac mu10o_4 (fun K hK => ?_) (ac mu10o_7 (fun K hK => ?_) AllReadyH.nil)
 ·unfold mu10o_4 oO
  have HH := Hn hH0
  clear hH0
  refine wp_loadC _ rfl s 2 nq cv Pv rfl MUF.out.sy.c2 ?_
  simp only [Act.put, sA, sB, sC]
  have SN := HH
  clear HH
  refine hK.out _ _ SN.out (fun hH1 => ?_)
  clear hK K SN
  refine ar [7] ?_
  refine ac mu10o_7 (fun K hK => ?_) AllReadyH.nil
  unfold mu10o_7 oO
  have HH := Hn hH1
  clear hH1
  go_simp
  refine (C7.out _).mono ?_
  rintro e wn2 ⟨P1, d1, rfl, hl, hb⟩
  have SN := Hn (HH.out.bel hb)
  replace MUF := Hn (MUF.out.bel hb)
  have LO1 := Hn (hl)
  clear HH C7 hb hl
  go_wp2_with fail
  refine hK.out _ _ SN.out (fun hH2 => ?_)
  clear hK K SN
  refine ar [9] ?_
  refine ac mu10o_9 (fun K hK => ?_) AllReadyH.nil
  unfold mu10o_9 oO
  have HH := Hn hH2
  clear hH2
  go_simp
  refine (C9.out _ P1 d1 MUF.out.tb LO1.out MUF.out.la MUF.out.mp).mono ?_
  rintro e wn3 ⟨R1, e1, rfl, hq⟩
  have SN := Hn (HH.out.map hq.2.2.1)
  replace MUF := Hn (MUF.out.map (M' := []) hq.2.2.1 hq.2.1)
  have OU1 := Hn (own_monoT hq.1 (Nat.zero_le _))
  have NO1 := Hn ((fun k hk => Nat.le_trans HH.out.size (hq.1.lt k hk).1) : ∀ k, (Value.slice R1 x1 e1).ownBlock = some k → W.heap.size ≤ k)
  have LX1 := Hn (hq.2.2.2)
  clear HH C9 hq LO1
  go_wp2_with fail
  refine hK.out _ _ SN.out (fun hH3 => ?_)
  clear hK K SN
  refine ar [12] ?_
  refine ac mu10o_12 (fun K hK => ?_) AllReadyH.nil
  unfold mu10o_12 oO
  have HH := Hn hH3
  clear hH3
  go_simp
  refine (C12.out _).mono ?_
  rintro e wn4 ⟨P2, d2, rfl, hl, hb⟩
  have SN := Hn (HH.out.bel hb)
  replace MUF := Hn (MUF.out.bel hb)
  have LO2 := Hn (hl)
  replace OU1 := Hn (own_keepT OU1.out hb)
  clear HH C12 hb hl
  go_wp2_with fail
  refine hK.out _ _ SN.out (fun hH4 => ?_)
  clear hK K SN
  refine ar [14] ?_
  refine ac mu10o_14 (fun K hK => ?_) AllReadyH.nil
  unfold mu10o_14 oO
  have HH := Hn hH4
  clear hH4
  go_simp
  refine (C14.out _ P2 d2 MUF.out.tb LO2.out MUF.out.lb MUF.out.mp).mono ?_
  rintro e wn5 ⟨R2, e2, rfl, hq⟩
  have SN := Hn (HH.out.map hq.2.2.1)
  replace OU1 := Hn (own_keepM OU1.out hq.2.2.1 (Mp.nob MUF.out.mp))
  replace MUF := Hn (MUF.out.map (M' := []) hq.2.2.1 hq.2.1)
  have OU2 := Hn (own_monoT hq.1 (Nat.zero_le _))
  have NO2 := Hn ((fun k hk => Nat.le_trans HH.out.size (hq.1.lt k hk).1) : ∀ k, (Value.slice R2 x2 e2).ownBlock = some k → W.heap.size ≤ k)
  have LX2 := Hn (hq.2.2.2)
  clear HH C14 hq LO2
  go_wp2_with fail
  refine hK.out _ _ SN.out (fun hH5 => ?_)
  clear hK K SN
  refine ar [15] ?_
  refine ac mu10o_15 (fun K hK => ?_) AllReadyH.nil
  unfold mu10o_15 oO
  have HH := Hn hH5
  clear hH5
  refine wp_buildL2 _ _ rfl R1 R2 x1 e1 x2 e2 rfl rfl (fun tb wn6 htb hwq => ?_)
  have SN := Hn ((by rw [hwq]; exact HH.out.bel (bl_alloc _ _) : Fy s (.slice Pv nq cv) b W wn6))
  replace MUF := Hn ((by rw [hwq]; exact MUF.out.bel (bl_alloc _ _) : Mu base w0 s m Kg (.slice Pv nq cv) vs QQ b Pa na fa Pb nb fb wn6))
  replace OU1 := Hn ((by rw [hwq]; exact own_keepT OU1.out (bl_alloc _ _) : World.ownsRow wn6 0 123 6 (.slice R1 x1 e1) x1 (tls X1)))
  replace OU2 := Hn ((by rw [hwq]; exact own_keepT OU2.out (bl_alloc _ _) : World.ownsRow wn6 0 123 6 (.slice R2 x2 e2) x2 (tls X2)))
  have CN := Hn ((by rw [hwq, htb]; exact cells_newT _ [.slice R1 x1 e1, .slice R2 x2 e2] _ : ∀ j u, ([.slice R1 x1 e1, .slice R2 x2 e2] : List Value)[j]? = some u → World.cell? wn6 ((⟨tb, 0, none⟩ : Addr).add j) = some u))
  clear HH htb hwq
  simp only [Act.put, sA, sB, sC]
  refine hK.out _ _ SN.out (fun hH6 => ?_)
  clear hK K SN
  refine ar [16] ?_
  refine ac mu10o_16 (fun K hK => ?_) AllReadyH.nil
  unfold mu10o_16 oO
  have HH := Hn hH6
  clear hH6
  refine wp_appLA _ _ rfl MUF.out.sy HNQ.out HQ2.out tb 2 [.slice R1 x1 e1, .slice R2 x2 e2] rfl (by omega) rfl rfl CN.out (by simp [Value.oneCell']) (fun P4 c4 wn7 hO hG hV => ?_)
  have SN := Hn (HH.out.row hG)
  have FIN := Hn ((mul_more MUF.out.sy HNQ.out HX1.out HX2.out OU1.out OU2.out LX1.out LX2.out hO hG))
  have TH := Hn (there_row2 MUF.out.sy.h MUF.out.sy.row hG)
  have VO := Hn (fun k hk => (hV k hk).imp id (Nat.le_trans HH.out.size))
  clear HH hO hG hV CN
  simp only [Act.put, sA, sB, sC]
  refine hK.out _ _ SN.out (fun hH7 => ?_)
  clear hK K SN
  refine tj 17 mu10o_17 (.pointer (some ⟨s, 0, none⟩)) hH7 (fun w0 hSw => ?_) ?_
  ·(unfold mu10o_17 oO; clear hSw; go_simp)
  simp only [mu10o_17, oO, Act.put, sA, sB, sC]
  refine tj 18 mu10o_18 (.pointer (some ⟨s, 2, none⟩)) hH7 (fun w0 hSw => ?_) ?_
  ·(unfold mu10o_18 oO; clear hSw; go_simp)
  simp only [mu10o_18, oO, Act.put, sA, sB, sC]
  refine ar [19] ?_
  refine ac mu10o_19 (fun K hK => ?_) AllReadyH.nil
  unfold mu10o_19 oN
  have HH := Hn hH7
  clear hH7
  refine wp_storeV 25 _ _ rfl s 2 P4 (nq + 2) c4 (by rfl) (by rfl) TH.out i1_L rfl (fun wn8 hw => ?_)
  have SN := Hn (HH.out.sys (gb_setCells s [.slice P4 (nq + 2) c4] 2 _))
  have FE := Hn ((fin_of FIN.out hw : Sy base _ s m Kg (.slice P4 (nq + 2) c4) (vs ++ [.slice R1 x1 e1, .slice R2 x2 e2]) (QQ ++ [X1, X2])))
  rw [← hw] at SN
  clear HH hw
  refine hK.out _ _ SN.out (fun hH8 => ?_)
  clear hK K SN
  have HH := Hn hH8
  have FQ := Hn (HQ.out _ P1 P2 R1 R2 P4 d1 d2 e1 e2 c4 tb HH.out FE.out VO.out NO1.out NO2.out)
  refine wpAnyH_done (by kernel_rfl) ?_ _
  refine NoPanic.normal ?_
  exact FQ.out
 ·unfold mu10o_7 oO
  have HH := Hn hH0
  clear hH0
  go_simp
  refine (C7.out _).mono ?_
  rintro e wn1 ⟨P1, d1, rfl, hl, hb⟩
  have SN := Hn (HH.out.bel hb)
  replace MUF := Hn (MUF.out.bel hb)
  have LO1 := Hn (hl)
  clear HH C7 hb hl
  go_wp2_with fail
  refine hK.out _ _ SN.out (fun hH1 => ?_)
  clear hK K SN
  refine ar [4, 9] ?_
  refine ac mu10o_4 (fun K hK => ?_) (ac mu10o_9 (fun K hK => ?_) AllReadyH.nil)
  ·unfold mu10o_4 oO
   have HH := Hn hH1
   clear hH1
   refine wp_loadC _ rfl s 2 nq cv Pv rfl MUF.out.sy.c2 ?_
   simp only [Act.put, sA, sB, sC]
   have SN := HH
   clear HH
   refine hK.out _ _ SN.out (fun hH2 => ?_)
   clear hK K SN
   refine ar [9] ?_
   refine ac mu10o_9 (fun K hK => ?_) AllReadyH.nil
   unfold mu10o_9 oO
   have HH := Hn hH2
   clear hH2
   go_simp
   refine (C9.out _ P1 d1 MUF.out.tb LO1.out MUF.out.la MUF.out.mp).mono ?_
   rintro e wn3 ⟨R1, e1, rfl, hq⟩
   have SN := Hn (HH.out.map hq.2.2.1)
   replace MUF := Hn (MUF.out.map (M' := []) hq.2.2.1 hq.2.1)
   have OU1 := Hn (own_monoT hq.1 (Nat.zero_le _))
   have NO1 := Hn ((fun k hk => Nat.le_trans HH.out.size (hq.1.lt k hk).1) : ∀ k, (Value.slice R1 x1 e1).ownBlock = some k → W.heap.size ≤ k)
   have LX1 := Hn (hq.2.2.2)
   clear HH C9 hq LO1
   go_wp2_with fail
   refine hK.out _ _ SN.out (fun hH3 => ?_)
   clear hK K SN
   refine ar [12] ?_
   refine ac mu10o_12 (fun K hK => ?_) AllReadyH.nil
   unfold mu10o_12 oO
   have HH := Hn hH3
   clear hH3
   go_simp
   refine (C12.out _).mono ?_
   rintro e wn4 ⟨P2, d2, rfl, hl, hb⟩
   have SN := Hn (HH.out.bel hb)
   replace MUF := Hn (MUF.out.bel hb)
   have LO2 := Hn (hl)
   replace OU1 := Hn (own_keepT OU1.out hb)
   clear HH C12 hb hl
   go_wp2_with fail
   refine hK.out _ _ SN.out (fun hH4 => ?_)
   clear hK K SN
   refine ar [14] ?_
   refine ac mu10o_14 (fun K hK => ?_) AllReadyH.nil
   unfold mu10o_14 oO
   have HH := Hn hH4
   clear hH4
   go_simp
   refine (C14.out _ P2 d2 MUF.out.tb LO2.out MUF.out.lb MUF.out.mp).mono ?_
   rintro e wn5 ⟨R2, e2, rfl, hq⟩
   have SN := Hn (HH.out.map hq.2.2.1)
   replace OU1 := Hn (own_keepM OU1.out hq.2.2.1 (Mp.nob MUF.out.mp))
   replace MUF := Hn (MUF.out.map (M' := []) hq.2.2.1 hq.2.1)
   have OU2 := Hn (own_monoT hq.1 (Nat.zero_le _))
   have NO2 := Hn ((fun k hk => Nat.le_trans HH.out.size (hq.1.lt k hk).1) : ∀ k, (Value.slice R2 x2 e2).ownBlock = some k → W.heap.size ≤ k)
   have LX2 := Hn (hq.2.2.2)
   clear HH C14 hq LO2
   go_wp2_with fail
   refine hK.out _ _ SN.out (fun hH5 => ?_)
   clear hK K SN
   refine ar [15] ?_
   refine ac mu10o_15 (fun K hK => ?_) AllReadyH.nil
   unfold mu10o_15 oO
   have HH := Hn hH5
   clear hH5
   refine wp_buildL2 _ _ rfl R1 R2 x1 e1 x2 e2 rfl rfl (fun tb wn6 htb hwq => ?_)
   have SN := Hn ((by rw [hwq]; exact HH.out.bel (bl_alloc _ _) : Fy s (.slice Pv nq cv) b W wn6))
   replace MUF := Hn ((by rw [hwq]; exact MUF.out.bel (bl_alloc _ _) : Mu base w0 s m Kg (.slice Pv nq cv) vs QQ b Pa na fa Pb nb fb wn6))
   replace OU1 := Hn ((by rw [hwq]; exact own_keepT OU1.out (bl_alloc _ _) : World.ownsRow wn6 0 123 6 (.slice R1 x1 e1) x1 (tls X1)))
   replace OU2 := Hn ((by rw [hwq]; exact own_keepT OU2.out (bl_alloc _ _) : World.ownsRow wn6 0 123 6 (.slice R2 x2 e2) x2 (tls X2)))
   have CN := Hn ((by rw [hwq, htb]; exact cells_newT _ [.slice R1 x1 e1, .slice R2 x2 e2] _ : ∀ j u, ([.slice R1 x1 e1, .slice R2 x2 e2] : List Value)[j]? = some u → World.cell? wn6 ((⟨tb, 0, none⟩ : Addr).add j) = some u))
   clear HH htb hwq
   simp only [Act.put, sA, sB, sC]
   refine hK.out _ _ SN.out (fun hH6 => ?_)
   clear hK K SN
   refine ar [16] ?_
   refine ac mu10o_16 (fun K hK => ?_) AllReadyH.nil
   unfold mu10o_16 oO
   have HH := Hn hH6
   clear hH6
   refine wp_appLA _ _ rfl MUF.out.sy HNQ.out HQ2.out tb 2 [.slice R1 x1 e1, .slice R2 x2 e2] rfl (by omega) rfl rfl CN.out (by simp [Value.oneCell']) (fun P4 c4 wn7 hO hG hV => ?_)
   have SN := Hn (HH.out.row hG)
   have FIN := Hn ((mul_more MUF.out.sy HNQ.out HX1.out HX2.out OU1.out OU2.out LX1.out LX2.out hO hG))
   have TH := Hn (there_row2 MUF.out.sy.h MUF.out.sy.row hG)
   have VO := Hn (fun k hk => (hV k hk).imp id (Nat.le_trans HH.out.size))
   clear HH hO hG hV CN
   simp only [Act.put, sA, sB, sC]
   refine hK.out _ _ SN.out (fun hH7 => ?_)
   clear hK K SN
   refine tj 17 mu10o_17 (.pointer (some ⟨s, 0, none⟩)) hH7 (fun w0 hSw => ?_) ?_
   ·(unfold mu10o_17 oO; clear hSw; go_simp)
   simp only [mu10o_17, oO, Act.put, sA, sB, sC]
   refine tj 18 mu10o_18 (.pointer (some ⟨s, 2, none⟩)) hH7 (fun w0 hSw => ?_) ?_
   ·(unfold mu10o_18 oO; clear hSw; go_simp)
   simp only [mu10o_18, oO, Act.put, sA, sB, sC]
   refine ar [19] ?_
   refine ac mu10o_19 (fun K hK => ?_) AllReadyH.nil
   unfold mu10o_19 oN
   have HH := Hn hH7
   clear hH7
   refine wp_storeV 25 _ _ rfl s 2 P4 (nq + 2) c4 (by rfl) (by rfl) TH.out i1_L rfl (fun wn8 hw => ?_)
   have SN := Hn (HH.out.sys (gb_setCells s [.slice P4 (nq + 2) c4] 2 _))
   have FE := Hn ((fin_of FIN.out hw : Sy base _ s m Kg (.slice P4 (nq + 2) c4) (vs ++ [.slice R1 x1 e1, .slice R2 x2 e2]) (QQ ++ [X1, X2])))
   rw [← hw] at SN
   clear HH hw
   refine hK.out _ _ SN.out (fun hH8 => ?_)
   clear hK K SN
   have HH := Hn hH8
   have FQ := Hn (HQ.out _ P1 P2 R1 R2 P4 d1 d2 e1 e2 c4 tb HH.out FE.out VO.out NO1.out NO2.out)
   refine wpAnyH_done (by kernel_rfl) ?_ _
   refine NoPanic.normal ?_
   exact FQ.out
  ·unfold mu10o_9 oO
   have HH := Hn hH1
   clear hH1
   go_simp
   refine (C9.out _ P1 d1 MUF.out.tb LO1.out MUF.out.la MUF.out.mp).mono ?_
   rintro e wn2 ⟨R1, e1, rfl, hq⟩
   have SN := Hn (HH.out.map hq.2.2.1)
   replace MUF := Hn (MUF.out.map (M' := []) hq.2.2.1 hq.2.1)
   have OU1 := Hn (own_monoT hq.1 (Nat.zero_le _))
   have NO1 := Hn ((fun k hk => Nat.le_trans HH.out.size (hq.1.lt k hk).1) : ∀ k, (Value.slice R1 x1 e1).ownBlock = some k → W.heap.size ≤ k)
   have LX1 := Hn (hq.2.2.2)
   clear HH C9 hq LO1
   go_wp2_with fail
   refine hK.out _ _ SN.out (fun hH2 => ?_)
   clear hK K SN
   refine ar [4, 12] ?_
   refine ac mu10o_4 (fun K hK => ?_) (ac mu10o_12 (fun K hK => ?_) AllReadyH.nil)
   ·unfold mu10o_4 oO
    have HH := Hn hH2
    clear hH2
    refine wp_loadC _ rfl s 2 nq cv Pv rfl MUF.out.sy.c2 ?_
    simp only [Act.put, sA, sB, sC]
    have SN := HH
    clear HH
    refine hK.out _ _ SN.out (fun hH3 => ?_)
    clear hK K SN
    refine ar [12] ?_
    refine ac mu10o_12 (fun K hK => ?_) AllReadyH.nil
    unfold mu10o_12 oO
    have HH := Hn hH3
    clear hH3
    go_simp
    refine (C12.out _).mono ?_
    rintro e wn4 ⟨P2, d2, rfl, hl, hb⟩
    have SN := Hn (HH.out.bel hb)
    replace MUF := Hn (MUF.out.bel hb)
    have LO2 := Hn (hl)
    replace OU1 := Hn (own_keepT OU1.out hb)
    clear HH C12 hb hl
    go_wp2_with fail
    refine hK.out _ _ SN.out (fun hH4 => ?_)
    clear hK K SN
    refine ar [14] ?_
    refine ac mu10o_14 (fun K hK => ?_) AllReadyH.nil
    unfold mu10o_14 oO
    have HH := Hn hH4
    clear hH4
    go_simp
    refine (C14.out _ P2 d2 MUF.out.tb LO2.out MUF.out.lb MUF.out.mp).mono ?_
    rintro e wn5 ⟨R2, e2, rfl, hq⟩
    have SN := Hn (HH.out.map hq.2.2.1)
    replace OU1 := Hn (own_keepM OU1.out hq.2.2.1 (Mp.nob MUF.out.mp))
    replace MUF := Hn (MUF.out.map (M' := []) hq.2.2.1 hq.2.1)
    have OU2 := Hn (own_monoT hq.1 (Nat.zero_le _))
    have NO2 := Hn ((fun k hk => Nat.le_trans HH.out.size (hq.1.lt k hk).1) : ∀ k, (Value.slice R2 x2 e2).ownBlock = some k → W.heap.size ≤ k)
    have LX2 := Hn (hq.2.2.2)
    clear HH C14 hq LO2
    go_wp2_with fail
    refine hK.out _ _ SN.out (fun hH5 => ?_)
    clear hK K SN
    refine ar [15] ?_
    refine ac mu10o_15 (fun K hK => ?_) AllReadyH.nil
    unfold mu10o_15 oO
    have HH := Hn hH5
    clear hH5
    refine wp_buildL2 _ _ rfl R1 R2 x1 e1 x2 e2 rfl rfl (fun tb wn6 htb hwq => ?_)
    have SN := Hn ((by rw [hwq]; exact HH.out.bel (bl_alloc _ _) : Fy s (.slice Pv nq cv) b W wn6))
    replace MUF := Hn ((by rw [hwq]; exact MUF.out.bel (bl_alloc _ _) : Mu base w0 s m Kg (.slice Pv nq cv) vs QQ b Pa na fa Pb nb fb wn6))
    replace OU1 := Hn ((by rw [hwq]; exact own_keepT OU1.out (bl_alloc _ _) : World.ownsRow wn6 0 123 6 (.slice R1 x1 e1) x1 (tls X1)))
    replace OU2 := Hn ((by rw [hwq]; exact own_keepT OU2.out (bl_alloc _ _) : World.ownsRow wn6 0 123 6 (.slice R2 x2 e2) x2 (tls X2)))
    have CN := Hn ((by rw [hwq, htb]; exact cells_newT _ [.slice R1 x1 e1, .slice R2 x2 e2] _ : ∀ j u, ([.slice R1 x1 e1, .slice R2 x2 e2] : List Value)[j]? = some u → World.cell? wn6 ((⟨tb, 0, none⟩ : Addr).add j) = some u))
    clear HH htb hwq
    simp only [Act.put, sA, sB, sC]
    refine hK.out _ _ SN.out (fun hH6 => ?_)
    clear hK K SN
    refine ar [16] ?_
    refine ac mu10o_16 (fun K hK => ?_) AllReadyH.nil
    unfold mu10o_16 oO
    have HH := Hn hH6
    clear hH6
    refine wp_appLA _ _ rfl MUF.out.sy HNQ.out HQ2.out tb 2 [.slice R1 x1 e1, .slice R2 x2 e2] rfl (by omega) rfl rfl CN.out (by simp [Value.oneCell']) (fun P4 c4 wn7 hO hG hV => ?_)
    have SN := Hn (HH.out.row hG)
    have FIN := Hn ((mul_more MUF.out.sy HNQ.out HX1.out HX2.out OU1.out OU2.out LX1.out LX2.out hO hG))
    have TH := Hn (there_row2 MUF.out.sy.h MUF.out.sy.row hG)
    have VO := Hn (fun k hk => (hV k hk).imp id (Nat.le_trans HH.out.size))
    clear HH hO hG hV CN
    simp only [Act.put, sA, sB, sC]
    refine hK.out _ _ SN.out (fun hH7 => ?_)
    clear hK K SN
    refine tj 17 mu10o_17 (.pointer (some ⟨s, 0, none⟩)) hH7 (fun w0 hSw => ?_) ?_
    ·(unfold mu10o_17 oO; clear hSw; go_simp)
    simp only [mu10o_17, oO, Act.put, sA, sB, sC]
    refine tj 18 mu10o_18 (.pointer (some ⟨s, 2, none⟩)) hH7 (fun w0 hSw => ?_) ?_
    ·(unfold mu10o_18 oO; clear hSw; go_simp)
    simp only [mu10o_18, oO, Act.put, sA, sB, sC]
    refine ar [19] ?_
    refine ac mu10o_19 (fun K hK => ?_) AllReadyH.nil
    unfold mu10o_19 oN
    have HH := Hn hH7
    clear hH7
    refine wp_storeV 25 _ _ rfl s 2 P4 (nq + 2) c4 (by rfl) (by rfl) TH.out i1_L rfl (fun wn8 hw => ?_)
    have SN := Hn (HH.out.sys (gb_setCells s [.slice P4 (nq + 2) c4] 2 _))
    have FE := Hn ((fin_of FIN.out hw : Sy base _ s m Kg (.slice P4 (nq + 2) c4) (vs ++ [.slice R1 x1 e1, .slice R2 x2 e2]) (QQ ++ [X1, X2])))
    rw [← hw] at SN
    clear HH hw
    refine hK.out _ _ SN.out (fun hH8 => ?_)
    clear hK K SN
    have HH := Hn hH8
    have FQ := Hn (HQ.out _ P1 P2 R1 R2 P4 d1 d2 e1 e2 c4 tb HH.out FE.out VO.out NO1.out NO2.out)
    refine wpAnyH_done (by kernel_rfl) ?_ _
    refine NoPanic.normal ?_
    exact FQ.out
   ·unfold mu10o_12 oO
    have HH := Hn hH2
    clear hH2
    go_simp
    refine (C12.out _).mono ?_
    rintro e wn3 ⟨P2, d2, rfl, hl, hb⟩
    have SN := Hn (HH.out.bel hb)
    replace MUF := Hn (MUF.out.bel hb)
    have LO2 := Hn (hl)
    replace OU1 := Hn (own_keepT OU1.out hb)
    clear HH C12 hb hl
    go_wp2_with fail
    refine hK.out _ _ SN.out (fun hH3 => ?_)
    clear hK K SN
    refine ar [4, 14] ?_
    refine ac mu10o_4 (fun K hK => ?_) (ac mu10o_14 (fun K hK => ?_) AllReadyH.nil)
    ·unfold mu10o_4 oO
     have HH := Hn hH3
     clear hH3
     refine wp_loadC _ rfl s 2 nq cv Pv rfl MUF.out.sy.c2 ?_
     simp only [Act.put, sA, sB, sC]
     have SN := HH
     clear HH
     refine hK.out _ _ SN.out (fun hH4 => ?_)
     clear hK K SN
     refine ar [14] ?_
     refine ac mu10o_14 (fun K hK => ?_) AllReadyH.nil
     unfold mu10o_14 oO
     have HH := Hn hH4
     clear hH4
     go_simp
     refine (C14.out _ P2 d2 MUF.out.tb LO2.out MUF.out.lb MUF.out.mp).mono ?_
     rintro e wn5 ⟨R2, e2, rfl, hq⟩
     have SN := Hn (HH.out.map hq.2.2.1)
     replace OU1 := Hn (own_keepM OU1.out hq.2.2.1 (Mp.nob MUF.out.mp))
     replace MUF := Hn (MUF.out.map (M' := []) hq.2.2.1 hq.2.1)
     have OU2 := Hn (own_monoT hq.1 (Nat.zero_le _))
     have NO2 := Hn ((fun k hk => Nat.le_trans HH.out.size (hq.1.lt k hk).1) : ∀ k, (Value.slice R2 x2 e2).ownBlock = some k → W.heap.size ≤ k)
     have LX2 := Hn (hq.2.2.2)
     clear HH C14 hq LO2
     go_wp2_with fail
     refine hK.out _ _ SN.out (fun hH5 => ?_)
     clear hK K SN
     refine ar [15] ?_
     refine ac mu10o_15 (fun K hK => ?_) AllReadyH.nil
     unfold mu10o_15 oO
     have HH := Hn hH5
     clear hH5
     refine wp_buildL2 _ _ rfl R1 R2 x1 e1 x2 e2 rfl rfl (fun tb wn6 htb hwq => ?_)
     have SN := Hn ((by rw [hwq]; exact HH.out.bel (bl_alloc _ _) : Fy s (.slice Pv nq cv) b W wn6))
     replace MUF := Hn ((by rw [hwq]; exact MUF.out.bel (bl_alloc _ _) : Mu base w0 s m Kg (.slice Pv nq cv) vs QQ b Pa na fa Pb nb fb wn6))
     replace OU1 := Hn ((by rw [hwq]; exact own_keepT OU1.out (bl_alloc _ _) : World.ownsRow wn6 0 123 6 (.slice R1 x1 e1) x1 (tls X1)))
     replace OU2 := Hn ((by rw [hwq]; exact own_keepT OU2.out (bl_alloc _ _) : World.ownsRow wn6 0 123 6 (.slice R2 x2 e2) x2 (tls X2)))
     have CN := Hn ((by rw [hwq, htb]; exact cells_newT _ [.slice R1 x1 e1, .slice R2 x2 e2] _ : ∀ j u, ([.slice R1 x1 e1, .slice R2 x2 e2] : List Value)[j]? = some u → World.cell? wn6 ((⟨tb, 0, none⟩ : Addr).add j) = some u))
     clear HH htb hwq
     simp only [Act.put, sA, sB, sC]
     refine hK.out _ _ SN.out (fun hH6 => ?_)
     clear hK K SN
     refine ar [16] ?_
     refine ac mu10o_16 (fun K hK => ?_) AllReadyH.nil
     unfold mu10o_16 oO
     have HH := Hn hH6
     clear hH6
     refine wp_appLA _ _ rfl MUF.out.sy HNQ.out HQ2.out tb 2 [.slice R1 x1 e1, .slice R2 x2 e2] rfl (by omega) rfl rfl CN.out (by simp [Value.oneCell']) (fun P4 c4 wn7 hO hG hV => ?_)
     have SN := Hn (HH.out.row hG)
     have FIN := Hn ((mul_more MUF.out.sy HNQ.out HX1.out HX2.out OU1.out OU2.out LX1.out LX2.out hO hG))
     have TH := Hn (there_row2 MUF.out.sy.h MUF.out.sy.row hG)
     have VO := Hn (fun k hk => (hV k hk).imp id (Nat.le_trans HH.out.size))
     clear HH hO hG hV CN
     simp only [Act.put, sA, sB, sC]
     refine hK.out _ _ SN.out (fun hH7 => ?_)
     clear hK K SN
     refine tj 17 mu10o_17 (.pointer (some ⟨s, 0, none⟩)) hH7 (fun w0 hSw => ?_) ?_
     ·(unfold mu10o_17 oO; clear hSw; go_simp)
     simp only [mu10o_17, oO, Act.put, sA, sB, sC]
     refine tj 18 mu10o_18 (.pointer (some ⟨s, 2, none⟩)) hH7 (fun w0 hSw => ?_) ?_
     ·(unfold mu10o_18 oO; clear hSw; go_simp)
     simp only [mu10o_18, oO, Act.put, sA, sB, sC]
     refine ar [19] ?_
     refine ac mu10o_19 (fun K hK => ?_) AllReadyH.nil
     unfold mu10o_19 oN
     have HH := Hn hH7
     clear hH7
     refine wp_storeV 25 _ _ rfl s 2 P4 (nq + 2) c4 (by rfl) (by rfl) TH.out i1_L rfl (fun wn8 hw => ?_)
     have SN := Hn (HH.out.sys (gb_setCells s [.slice P4 (nq + 2) c4] 2 _))
     have FE := Hn ((fin_of FIN.out hw : Sy base _ s m Kg (.slice P4 (nq + 2) c4) (vs ++ [.slice R1 x1 e1, .slice R2 x2 e2]) (QQ ++ [X1, X2])))
     rw [← hw] at SN
     clear HH hw
     refine hK.out _ _ SN.out (fun hH8 => ?_)
     clear hK K SN
     have HH := Hn hH8
     have FQ := Hn (HQ.out _ P1 P2 R1 R2 P4 d1 d2 e1 e2 c4 tb HH.out FE.out VO.out NO1.out NO2.out)
     refine wpAnyH_done (by kernel_rfl) ?_ _
     refine NoPanic.normal ?_
     exact FQ.out
    ·unfold mu10o_14 oO
     have HH := Hn hH3
     clear hH3
     go_simp
     refine (C14.out _ P2 d2 MUF.out.tb LO2.out MUF.out.lb MUF.out.mp).mono ?_
     rintro e wn4 ⟨R2, e2, rfl, hq⟩
     have SN := Hn (HH.out.map hq.2.2.1)
     replace OU1 := Hn (own_keepM OU1.out hq.2.2.1 (Mp.nob MUF.out.mp))
     replace MUF := Hn (MUF.out.map (M' := []) hq.2.2.1 hq.2.1)
     have OU2 := Hn (own_monoT hq.1 (Nat.zero_le _))
     have NO2 := Hn ((fun k hk => Nat.le_trans HH.out.size (hq.1.lt k hk).1) : ∀ k, (Value.slice R2 x2 e2).ownBlock = some k → W.heap.size ≤ k)
     have LX2 := Hn (hq.2.2.2)
     clear HH C14 hq LO2
     go_wp2_with fail
     refine hK.out _ _ SN.out (fun hH4 => ?_)
     clear hK K SN
     refine ar [4, 15] ?_
     refine ac mu10o_4 (fun K hK => ?_) (ac mu10o_15 (fun K hK => ?_) AllReadyH.nil)
     ·unfold mu10o_4 oO
      have HH := Hn hH4
      clear hH4
      refine wp_loadC _ rfl s 2 nq cv Pv rfl MUF.out.sy.c2 ?_
      simp only [Act.put, sA, sB, sC]
      have SN := HH
      clear HH
      refine hK.out _ _ SN.out (fun hH5 => ?_)
      clear hK K SN
      refine ar [15] ?_
      refine ac mu10o_15 (fun K hK => ?_) AllReadyH.nil
      unfold mu10o_15 oO
      have HH := Hn hH5
      clear hH5
      refine wp_buildL2 _ _ rfl R1 R2 x1 e1 x2 e2 rfl rfl (fun tb wn6 htb hwq => ?_)
      have SN := Hn ((by rw [hwq]; exact HH.out.bel (bl_alloc _ _) : Fy s (.slice Pv nq cv) b W wn6))
      replace MUF := Hn ((by rw [hwq]; exact MUF.out.bel (bl_alloc _ _) : Mu base w0 s m Kg (.slice Pv nq cv) vs QQ b Pa na fa Pb nb fb wn6))
      replace OU1 := Hn ((by rw [hwq]; exact own_keepT OU1.out (bl_alloc _ _) : World.ownsRow wn6 0 123 6 (.slice R1 x1 e1) x1 (tls X1)))
      replace OU2 := Hn ((by rw [hwq]; exact own_keepT OU2.out (bl_alloc _ _) : World.ownsRow wn6 0 123 6 (.slice R2 x2 e2) x2 (tls X2)))
      have CN := Hn ((by rw [hwq, htb]; exact cells_newT _ [.slice R1 x1 e1, .slice R2 x2 e2] _ : ∀ j u, ([.slice R1 x1 e1, .slice R2 x2 e2] : List Value)[j]? = some u → World.cell? wn6 ((⟨tb, 0, none⟩ : Addr).add j) = some u))
      clear HH htb hwq
      simp only [Act.put, sA, sB, sC]
      refine hK.out _ _ SN.out (fun hH6 => ?_)
      clear hK K SN
      refine ar [16] ?_
      refine ac mu10o_16 (fun K hK => ?_) AllReadyH.nil
      unfold mu10o_16 oO
      have HH := Hn hH6
      clear hH6
      refine wp_appLA _ _ rfl MUF.out.sy HNQ.out HQ2.out tb 2 [.slice R1 x1 e1, .slice R2 x2 e2] rfl (by omega) rfl rfl CN.out (by simp [Value.oneCell']) (fun P4 c4 wn7 hO hG hV => ?_)
      have SN := Hn (HH.out.row hG)
      have FIN := Hn ((mul_more MUF.out.sy HNQ.out HX1.out HX2.out OU1.out OU2.out LX1.out LX2.out hO hG))
      have TH := Hn (there_row2 MUF.out.sy.h MUF.out.sy.row hG)
      have VO := Hn (fun k hk => (hV k hk).imp id (Nat.le_trans HH.out.size))
      clear HH hO hG hV CN
      simp only [Act.put, sA, sB, sC]
      refine hK.out _ _ SN.out (fun hH7 => ?_)
      clear hK K SN
      refine tj 17 mu10o_17 (.pointer (some ⟨s, 0, none⟩)) hH7 (fun w0 hSw => ?_) ?_
      ·(unfold mu10o_17 oO; clear hSw; go_simp)
      simp only [mu10o_17, oO, Act.put, sA, sB, sC]
      refine tj 18 mu10o_18 (.pointer (some ⟨s, 2, none⟩)) hH7 (fun w0 hSw => ?_) ?_
      ·(unfold mu10o_18 oO; clear hSw; go_simp)
      simp only [mu10o_18, oO, Act.put, sA, sB, sC]
      refine ar [19] ?_
      refine ac mu10o_19 (fun K hK => ?_) AllReadyH.nil
      unfold mu10o_19 oN
      have HH := Hn hH7
      clear hH7
      refine wp_storeV 25 _ _ rfl s 2 P4 (nq + 2) c4 (by rfl) (by rfl) TH.out i1_L rfl (fun wn8 hw => ?_)
      have SN := Hn (HH.out.sys (gb_setCells s [.slice P4 (nq + 2) c4] 2 _))
      have FE := Hn ((fin_of FIN.out hw : Sy base _ s m Kg (.slice P4 (nq + 2) c4) (vs ++ [.slice R1 x1 e1, .slice R2 x2 e2]) (QQ ++ [X1, X2])))
      rw [← hw] at SN
      clear HH hw
      refine hK.out _ _ SN.out (fun hH8 => ?_)
      clear hK K SN
      have HH := Hn hH8
      have FQ := Hn (HQ.out _ P1 P2 R1 R2 P4 d1 d2 e1 e2 c4 tb HH.out FE.out VO.out NO1.out NO2.out)
      refine wpAnyH_done (by kernel_rfl) ?_ _
      refine NoPanic.normal ?_
      exact FQ.out
     ·unfold mu10o_15 oO
      have HH := Hn hH4
      clear hH4
      refine wp_buildL2 _ _ rfl R1 R2 x1 e1 x2 e2 rfl rfl (fun tb wn5 htb hwq => ?_)
      have SN := Hn ((by rw [hwq]; exact HH.out.bel (bl_alloc _ _) : Fy s (.slice Pv nq cv) b W wn5))
      replace MUF := Hn ((by rw [hwq]; exact MUF.out.bel (bl_alloc _ _) : Mu base w0 s m Kg (.slice Pv nq cv) vs QQ b Pa na fa Pb nb fb wn5))
      replace OU1 := Hn ((by rw [hwq]; exact own_keepT OU1.out (bl_alloc _ _) : World.ownsRow wn5 0 123 6 (.slice R1 x1 e1) x1 (tls X1)))
      replace OU2 := Hn ((by rw [hwq]; exact own_keepT OU2.out (bl_alloc _ _) : World.ownsRow wn5 0 123 6 (.slice R2 x2 e2) x2 (tls X2)))
      have CN := Hn ((by rw [hwq, htb]; exact cells_newT _ [.slice R1 x1 e1, .slice R2 x2 e2] _ : ∀ j u, ([.slice R1 x1 e1, .slice R2 x2 e2] : List Value)[j]? = some u → World.cell? wn5 ((⟨tb, 0, none⟩ : Addr).add j) = some u))
      clear HH htb hwq
      simp only [Act.put, sA, sB, sC]
      refine hK.out _ _ SN.out (fun hH5 => ?_)
      clear hK K SN
      refine ar [4] ?_
      refine ac mu10o_4 (fun K hK => ?_) AllReadyH.nil
      unfold mu10o_4 oO
      have HH := Hn hH5
      clear hH5
      refine wp_loadC _ rfl s 2 nq cv Pv rfl MUF.out.sy.c2 ?_
      simp only [Act.put, sA, sB, sC]
      have SN := HH
      clear HH
      refine hK.out _ _ SN.out (fun hH6 => ?_)
      clear hK K SN
      refine ar [16] ?_
      refine ac mu10o_16 (fun K hK => ?_) AllReadyH.nil
      unfold mu10o_16 oO
      have HH := Hn hH6
      clear hH6
      refine wp_appLA _ _ rfl MUF.out.sy HNQ.out HQ2.out tb 2 [.slice R1 x1 e1, .slice R2 x2 e2] rfl (by omega) rfl rfl CN.out (by simp [Value.oneCell']) (fun P4 c4 wn7 hO hG hV => ?_)
      have SN := Hn (HH.out.row hG)
      have FIN := Hn ((mul_more MUF.out.sy HNQ.out HX1.out HX2.out OU1.out OU2.out LX1.out LX2.out hO hG))
      have TH := Hn (there_row2 MUF.out.sy.h MUF.out.sy.row hG)
      have VO := Hn (fun k hk => (hV k hk).imp id (Nat.le_trans HH.out.size))
      clear HH hO hG hV CN
      simp only [Act.put, sA, sB, sC]
      refine hK.out _ _ SN.out (fun hH7 => ?_)
      clear hK K SN
      refine tj 17 mu10o_17 (.pointer (some ⟨s, 0, none⟩)) hH7 (fun w0 hSw => ?_) ?_
      ·(unfold mu10o_17 oO; clear hSw; go_simp)
      simp only [mu10o_17, oO, Act.put, sA, sB, sC]
      refine tj 18 mu10o_18 (.pointer (some ⟨s, 2, none⟩)) hH7 (fun w0 hSw => ?_) ?_
      ·(unfold mu10o_18 oO; clear hSw; go_simp)
      simp only [mu10o_18, oO, Act.put, sA, sB, sC]
      refine ar [19] ?_
      refine ac mu10o_19 (fun K hK => ?_) AllReadyH.nil
      unfold mu10o_19 oN
      have HH := Hn hH7
      clear hH7
      refine wp_storeV 25 _ _ rfl s 2 P4 (nq + 2) c4 (by rfl) (by rfl) TH.out i1_L rfl (fun wn8 hw => ?_)
      have SN := Hn (HH.out.sys (gb_setCells s [.slice P4 (nq + 2) c4] 2 _))
      have FE := Hn ((fin_of FIN.out hw : Sy base _ s m Kg (.slice P4 (nq + 2) c4) (vs ++ [.slice R1 x1 e1, .slice R2 x2 e2]) (QQ ++ [X1, X2])))
      rw [← hw] at SN
      clear HH hw
      refine hK.out _ _ SN.out (fun hH8 => ?_)
      clear hK K SN
      have HH := Hn hH8
      have FQ := Hn (HQ.out _ P1 P2 R1 R2 P4 d1 d2 e1 e2 c4 tb HH.out FE.out VO.out NO1.out NO2.out)
      refine wpAnyH_done (by kernel_rfl) ?_ _
      refine NoPanic.normal ?_
      exact FQ.out
def ml5o_0 : Oper := oO 32 (Op.load 79 (Operand.tmp 6)) 79 pCmm2 #[]
def ml5o_1 : Oper := oO 33 (Op.load 79 (Operand.tmp 7)) 79 pCmm2 #[{ on := 3, ground := Ground.gcOnly Departure.lateStores }]
def ml5o_2 : Oper := oO 34 (Op.load 79 (Operand.tmp 8)) 79 pCmm2 #[{ on := 4, ground := Ground.gcOnly Departure.lateStores }]
def ml5o_3 : Oper := oN (Op.store 79 (Operand.tmp 6) (Operand.tmp 32)) pCmm2 #[DD 0, PH 0, { on := 1, ground := Ground.textOnly Departure.lateStores }, { on := 2, ground := Ground.textOnly Departure.lateStores }]
def ml5o_4 : Oper := oN (Op.store 79 (Operand.tmp 7) (Operand.tmp 33)) pCmm2 #[DD 1, CH 3, PH 0, PH 1, { on := 2, ground := Ground.textOnly Departure.lateStores }, PH 3]
def ml5o_5 : Oper := oN (Op.store 79 (Operand.tmp 8) (Operand.tmp 34)) pCmm2 #[DD 2, CH 4, PH 0, PH 1, PH 2, PH 3, PH 4]
def ml5o_6 : Oper := oO 9 (Op.assign (Operand.const (Value.int IntKind.i64 200))) 45 pCmm2 #[CH 5, PH 0, PH 1, PH 2, PH 3, PH 4, PH 5]
def ml5o : Array Oper := #[ml5o_0, ml5o_1, ml5o_2, ml5o_3, ml5o_4, ml5o_5, ml5o_6]
theorem ml5 (Q : Exit → Act → World → Prop) (T0 T1 T2 : Nat) (p0 q0 p1 q1 p2 q2 : Int) (u0 u1 u2 u3 u4 u5 u9 aa ab ad ae af ag ah ai aj ak al am an ao ap aq au av aw ax ay az aA aB aC aD aE aF aG aH aI aJ aK aL aM aN aO aP aQ aR aS aT aU aV aW aX aY aZ a3 a4 a5 a6 a7 a8 a9 ba bb bc bd be bg bh bi bj bk bl bm : Value) (W : World)
  (c00 : W.cell? ⟨T0, 0, none⟩ = some (.int .i64 p0)) (c01 : W.cell? ⟨T0, 1, none⟩ = some (.int .i64 q0)) (f00 : W.frozen? ⟨T0, 0, none⟩ = false) (f01 : W.frozen? ⟨T0, 1, none⟩ = false) (c10 : W.cell? ⟨T1, 0, none⟩ = some (.int .i64 p1)) (c11 : W.cell? ⟨T1, 1, none⟩ = some (.int .i64 q1)) (f10 : W.frozen? ⟨T1, 0, none⟩ = false) (f11 : W.frozen? ⟨T1, 1, none⟩ = false) (c20 : W.cell? ⟨T2, 0, none⟩ = some (.int .i64 p2)) (c21 : W.cell? ⟨T2, 1, none⟩ = some (.int .i64 q2)) (f20 : W.frozen? ⟨T2, 0, none⟩ = false) (f21 : W.frozen? ⟨T2, 1, none⟩ = false)
  (HQ : Hid (∀ (wz : World), wz = W.drew → Q .normal ⟨#[u0, u1, u2, u3, u4, u5, .pointer (some ⟨T0, 0, none⟩), .pointer (some ⟨T1, 0, none⟩), .pointer (some ⟨T2, 0, none⟩), .int .i64 200, aa, ab, ad, ae, af, ag, ah, ai, aj, ak, al, am, an, ao, ap, aq, au, av, aw, ax, ay, az, .agg #[.int .i64 p0, .int .i64 q0], .agg #[.int .i64 p1, .int .i64 q1], .agg #[.int .i64 p2, .int .i64 q2], aD, aE, aF, aG, aH, aI, aJ, aK, aL, aM, aN, aO, aP, aQ, aR, aS, aT, aU, aV, aW, aX, aY, aZ, a3, a4, a5, a6, a7, a8, a9, ba, bb, bc, bd, be, bg, bh, bi, bj, bk, bl, bm], []⟩ wz)) : (Code.region 5 ml5o true).wp Tryz.prog Q ⟨#[u0, u1, u2, u3, u4, u5, .pointer (some ⟨T0, 0, none⟩), .pointer (some ⟨T1, 0, none⟩), .pointer (some ⟨T2, 0, none⟩), u9, aa, ab, ad, ae, af, ag, ah, ai, aj, ak, al, am, an, ao, ap, aq, au, av, aw, ax, ay, az, aA, aB, aC, aD, aE, aF, aG, aH, aI, aJ, aK, aL, aM, aN, aO, aP, aQ, aR, aS, aT, aU, aV, aW, aX, aY, aZ, a3, a4, a5, a6, a7, a8, a9, ba, bb, bc, bd, be, bg, bh, bi, bj, bk, bl, bm], []⟩ W := by
 unfold ml5o
 refine wp_region_noPanic ?_
 refine wp_region_held_drew (S := fun x => x = W.drew) (by kernel_rfl) (rfl) (fun hH0 => ?_)
 refine tj 0 ml5o_0 (.agg #[.int .i64 p0, .int .i64 q0]) hH0 (fun w0 hSw => ?_) ?_
 ·(unfold ml5o_0 oO; have hS : w0 = W.drew := hSw; subst hS; have a0 : W.drew.cell? ⟨T0, 0, none⟩ = some (.int .i64 p0) := c00; have a1 : W.drew.cell? ⟨T0, 1, none⟩ = some (.int .i64 q0) := c01; clear hSw; go_simp)
 simp only [ml5o_0, oO, Act.put, sA, sB, sC]
 refine tj 1 ml5o_1 (.agg #[.int .i64 p1, .int .i64 q1]) hH0 (fun w0 hSw => ?_) ?_
 ·(unfold ml5o_1 oO; have hS : w0 = W.drew := hSw; subst hS; have a0 : W.drew.cell? ⟨T1, 0, none⟩ = some (.int .i64 p1) := c10; have a1 : W.drew.cell? ⟨T1, 1, none⟩ = some (.int .i64 q1) := c11; clear hSw; go_simp)
 simp only [ml5o_1, oO, Act.put, sA, sB, sC]
 refine tj 2 ml5o_2 (.agg #[.int .i64 p2, .int .i64 q2]) hH0 (fun w0 hSw => ?_) ?_
 ·(unfold ml5o_2 oO; have hS : w0 = W.drew := hSw; subst hS; have a0 : W.drew.cell? ⟨T2, 0, none⟩ = some (.int .i64 p2) := c20; have a1 : W.drew.cell? ⟨T2, 1, none⟩ = some (.int .i64 q2) := c21; clear hSw; go_simp)
 simp only [ml5o_2, oO, Act.put, sA, sB, sC]
 refine ar [3] ?_
 refine ac ml5o_3 (fun K hK => ?_) AllReadyH.nil
 unfold ml5o_3 oN
 have HH := Hn hH0
 clear hH0
 refine wp_storeE 79 _ _ rfl T0 0 ([.int .i64 p0, .int .i64 q0]) (by rfl) (by rfl) (there2_of HH.out c00 c01 f00 f01) i2_w (one2 _ _) rfl (fun wn1 hw => ?_)
 have SN := Hn (set2_of HH.out c00 c01)
 rw [← hw] at SN
 clear HH hw
 refine hK.out _ _ SN.out (fun hH1 => ?_)
 clear hK K SN
 refine ar [4] ?_
 refine ac ml5o_4 (fun K hK => ?_) AllReadyH.nil
 unfold ml5o_4 oN
 have HH := Hn hH1
 clear hH1
 refine wp_storeE 79 _ _ rfl T1 0 ([.int .i64 p1, .int .i64 q1]) (by rfl) (by rfl) (there2_of HH.out c10 c11 f10 f11) i2_w (one2 _ _) rfl (fun wn2 hw => ?_)
 have SN := Hn (set2_of HH.out c10 c11)
 rw [← hw] at SN
 clear HH hw
 refine hK.out _ _ SN.out (fun hH2 => ?_)
 clear hK K SN
 refine ar [5] ?_
 refine ac ml5o_5 (fun K hK => ?_) AllReadyH.nil
 unfold ml5o_5 oN
 have HH := Hn hH2
 clear hH2
 refine wp_storeE 79 _ _ rfl T2 0 ([.int .i64 p2, .int .i64 q2]) (by rfl) (by rfl) (there2_of HH.out c20 c21 f20 f21) i2_w (one2 _ _) rfl (fun wn3 hw => ?_)
 have SN := Hn (set2_of HH.out c20 c21)
 rw [← hw] at SN
 clear HH hw
 refine hK.out _ _ SN.out (fun hH3 => ?_)
 clear hK K SN
 refine tj 6 ml5o_6 (.int .i64 200) hH3 (fun w0 hSw => ?_) ?_
 ·(unfold ml5o_6 oO; clear hSw; go_simp)
 simp only [ml5o_6, oO, Act.put, sA, sB, sC]
 have HH := Hn hH3
 have FQ := Hn (HQ.out _ HH.out)
 refine wpAnyH_done (by kernel_rfl) ?_ _
 refine NoPanic.normal ?_
 exact FQ.out
def ml7o_0 : Oper := oO 42 (Op.load 79 (Operand.tmp 6)) 79 pCmm3 #[]
def ml7o_1 : Oper := oO 43 (Op.load 79 (Operand.tmp 7)) 79 pCmm3 #[{ on := 3, ground := Ground.gcOnly Departure.lateStores }]
def ml7o_2 : Oper := oO 44 (Op.load 79 (Operand.tmp 8)) 79 pCmm3 #[{ on := 4, ground := Ground.gcOnly Departure.lateStores }]
def ml7o_3 : Oper := oN (Op.store 79 (Operand.tmp 6) (Operand.tmp 42)) pCmm3 #[DD 0, PH 0, { on := 1, ground := Ground.textOnly Departure.lateStores }, { on := 2, ground := Ground.textOnly Departure.lateStores }]
def ml7o_4 : Oper := oN (Op.store 79 (Operand.tmp 7) (Operand.tmp 43)) pCmm3 #[DD 1, CH 3, PH 0, PH 1, { on := 2, ground := Ground.textOnly Departure.lateStores }, PH 3]
def ml7o_5 : Oper := oN (Op.store 79 (Operand.tmp 8) (Operand.tmp 44)) pCmm3 #[DD 2, CH 4, PH 0, PH 1, PH 2, PH 3, PH 4]
def ml7o_6 : Oper := oO 9 (Op.assign (Operand.const (Value.int IntKind.i64 201))) 45 pCmm3 #[CH 5, PH 0, PH 1, PH 2, PH 3, PH 4, PH 5]
def ml7o : Array Oper := #[ml7o_0, ml7o_1, ml7o_2, ml7o_3, ml7o_4, ml7o_5, ml7o_6]
theorem ml7 (Q : Exit → Act → World → Prop) (T0 T1 T2 : Nat) (p0 q0 p1 q1 p2 q2 : Int) (u0 u1 u2 u3 u4 u5 u9 aa ab ad ae af ag ah ai aj ak al am an ao ap aq au av aw ax ay az aA aB aC aD aE aF aG aH aI aJ aK aL aM aN aO aP aQ aR aS aT aU aV aW aX aY aZ a3 a4 a5 a6 a7 a8 a9 ba bb bc bd be bg bh bi bj bk bl bm : Value) (W : World)
  (c00 : W.cell? ⟨T0, 0, none⟩ = some (.int .i64 p0)) (c01 : W.cell? ⟨T0, 1, none⟩ = some (.int .i64 q0)) (f00 : W.frozen? ⟨T0, 0, none⟩ = false) (f01 : W.frozen? ⟨T0, 1, none⟩ = false) (c10 : W.cell? ⟨T1, 0, none⟩ = some (.int .i64 p1)) (c11 : W.cell? ⟨T1, 1, none⟩ = some (.int .i64 q1)) (f10 : W.frozen? ⟨T1, 0, none⟩ = false) (f11 : W.frozen? ⟨T1, 1, none⟩ = false) (c20 : W.cell? ⟨T2, 0, none⟩ = some (.int .i64 p2)) (c21 : W.cell? ⟨T2, 1, none⟩ = some (.int .i64 q2)) (f20 : W.frozen? ⟨T2, 0, none⟩ = false) (f21 : W.frozen? ⟨T2, 1, none⟩ = false)
  (HQ : Hid (∀ (wz : World), wz = W.drew → Q .normal ⟨#[u0, u1, u2, u3, u4, u5, .pointer (some ⟨T0, 0, none⟩), .pointer (some ⟨T1, 0, none⟩), .pointer (some ⟨T2, 0, none⟩), .int .i64 201, aa, ab, ad, ae, af, ag, ah, ai, aj, ak, al, am, an, ao, ap, aq, au, av, aw, ax, ay, az, aA, aB, aC, aD, aE, aF, aG, aH, aI, aJ, .agg #[.int .i64 p0, .int .i64 q0], .agg #[.int .i64 p1, .int .i64 q1], .agg #[.int .i64 p2, .int .i64 q2], aN, aO, aP, aQ, aR, aS, aT, aU, aV, aW, aX, aY, aZ, a3, a4, a5, a6, a7, a8, a9, ba, bb, bc, bd, be, bg, bh, bi, bj, bk, bl, bm], []⟩ wz)) : (Code.region 7 ml7o true).wp Tryz.prog Q ⟨#[u0, u1, u2, u3, u4, u5, .pointer (some ⟨T0, 0, none⟩), .pointer (some ⟨T1, 0, none⟩), .pointer (some ⟨T2, 0, none⟩), u9, aa, ab, ad, ae, af, ag, ah, ai, aj, ak, al, am, an, ao, ap, aq, au, av, aw, ax, ay, az, aA, aB, aC, aD, aE, aF, aG, aH, aI, aJ, aK, aL, aM, aN, aO, aP, aQ, aR, aS, aT, aU, aV, aW, aX, aY, aZ, a3, a4, a5, a6, a7, a8, a9, ba, bb, bc, bd, be, bg, bh, bi, bj, bk, bl, bm], []⟩ W := by
 unfold ml7o
 refine wp_region_noPanic ?_
 refine wp_region_held_drew (S := fun x => x = W.drew) (by kernel_rfl) (rfl) (fun hH0 => ?_)
 refine tj 0 ml7o_0 (.agg #[.int .i64 p0, .int .i64 q0]) hH0 (fun w0 hSw => ?_) ?_
 ·(unfold ml7o_0 oO; have hS : w0 = W.drew := hSw; subst hS; have a0 : W.drew.cell? ⟨T0, 0, none⟩ = some (.int .i64 p0) := c00; have a1 : W.drew.cell? ⟨T0, 1, none⟩ = some (.int .i64 q0) := c01; clear hSw; go_simp)
 simp only [ml7o_0, oO, Act.put, sA, sB, sC]
 refine tj 1 ml7o_1 (.agg #[.int .i64 p1, .int .i64 q1]) hH0 (fun w0 hSw => ?_) ?_
 ·(unfold ml7o_1 oO; have hS : w0 = W.drew := hSw; subst hS; have a0 : W.drew.cell? ⟨T1, 0, none⟩ = some (.int .i64 p1) := c10; have a1 : W.drew.cell? ⟨T1, 1, none⟩ = some (.int .i64 q1) := c11; clear hSw; go_simp)
 simp only [ml7o_1, oO, Act.put, sA, sB, sC]
 refine tj 2 ml7o_2 (.agg #[.int .i64 p2, .int .i64 q2]) hH0 (fun w0 hSw => ?_) ?_
 ·(unfold ml7o_2 oO; have hS : w0 = W.drew := hSw; subst hS; have a0 : W.drew.cell? ⟨T2, 0, none⟩ = some (.int .i64 p2) := c20; have a1 : W.drew.cell? ⟨T2, 1, none⟩ = some (.int .i64 q2) := c21; clear hSw; go_simp)
 simp only [ml7o_2, oO, Act.put, sA, sB, sC]
 refine ar [3] ?_
 refine ac ml7o_3 (fun K hK => ?_) AllReadyH.nil
 unfold ml7o_3 oN
 have HH := Hn hH0
 clear hH0
 refine wp_storeE 79 _ _ rfl T0 0 ([.int .i64 p0, .int .i64 q0]) (by rfl) (by rfl) (there2_of HH.out c00 c01 f00 f01) i2_w (one2 _ _) rfl (fun wn1 hw => ?_)
 have SN := Hn (set2_of HH.out c00 c01)
 rw [← hw] at SN
 clear HH hw
 refine hK.out _ _ SN.out (fun hH1 => ?_)
 clear hK K SN
 refine ar [4] ?_
 refine ac ml7o_4 (fun K hK => ?_) AllReadyH.nil
 unfold ml7o_4 oN
 have HH := Hn hH1
 clear hH1
 refine wp_storeE 79 _ _ rfl T1 0 ([.int .i64 p1, .int .i64 q1]) (by rfl) (by rfl) (there2_of HH.out c10 c11 f10 f11) i2_w (one2 _ _) rfl (fun wn2 hw => ?_)
 have SN := Hn (set2_of HH.out c10 c11)
 rw [← hw] at SN
 clear HH hw
 refine hK.out _ _ SN.out (fun hH2 => ?_)
 clear hK K SN
 refine ar [5] ?_
 refine ac ml7o_5 (fun K hK => ?_) AllReadyH.nil
 unfold ml7o_5 oN
 have HH := Hn hH2
 clear hH2
 refine wp_storeE 79 _ _ rfl T2 0 ([.int .i64 p2, .int .i64 q2]) (by rfl) (by rfl) (there2_of HH.out c20 c21 f20 f21) i2_w (one2 _ _) rfl (fun wn3 hw => ?_)
 have SN := Hn (set2_of HH.out c20 c21)
 rw [← hw] at SN
 clear HH hw
 refine hK.out _ _ SN.out (fun hH3 => ?_)
 clear hK K SN
 refine tj 6 ml7o_6 (.int .i64 201) hH3 (fun w0 hSw => ?_) ?_
 ·(unfold ml7o_6 oO; clear hSw; go_simp)
 simp only [ml7o_6, oO, Act.put, sA, sB, sC]
 have HH := Hn hH3
 have FQ := Hn (HQ.out _ HH.out)
 refine wpAnyH_done (by kernel_rfl) ?_ _
 refine NoPanic.normal ?_
 exact FQ.out
def ml11o_0 : Oper := oO 73 (Op.load 79 (Operand.tmp 6)) 79 pCmm1 #[]
def ml11o_1 : Oper := oO 74 (Op.load 79 (Operand.tmp 7)) 79 pCmm1 #[{ on := 4, ground := Ground.gcOnly Departure.lateStores }]
def ml11o_2 : Oper := oO 75 (Op.load 79 (Operand.tmp 8)) 79 pCmm1 #[{ on := 5, ground := Ground.gcOnly Departure.lateStores }]
def ml11o_3 : Oper := oO 76 (Op.move (Operand.tmp 9)) 45 pCmm1 #[{ on := 6, ground := Ground.gcOnly Departure.lateStores }]
def ml11o_4 : Oper := oN (Op.store 79 (Operand.tmp 6) (Operand.tmp 73)) pCmm1 #[DD 0, PH 0, { on := 1, ground := Ground.textOnly Departure.lateStores }, { on := 2, ground := Ground.textOnly Departure.lateStores }, { on := 3, ground := Ground.textOnly Departure.lateStores }]
def ml11o_5 : Oper := oN (Op.store 79 (Operand.tmp 7) (Operand.tmp 74)) pCmm1 #[DD 1, CH 4, PH 0, PH 1, { on := 2, ground := Ground.textOnly Departure.lateStores }, { on := 3, ground := Ground.textOnly Departure.lateStores }, PH 4]
def ml11o_6 : Oper := oN (Op.store 79 (Operand.tmp 8) (Operand.tmp 75)) pCmm1 #[DD 2, CH 5, PH 0, PH 1, PH 2, { on := 3, ground := Ground.textOnly Departure.lateStores }, PH 4, PH 5]
def ml11o_7 : Oper := oO 9 (Op.assign (Operand.tmp 76)) 45 pCmm1 #[DD 3, CH 6, PH 0, PH 1, PH 2, PH 3, PH 4, PH 5, PH 6]
def ml11o : Array Oper := #[ml11o_0, ml11o_1, ml11o_2, ml11o_3, ml11o_4, ml11o_5, ml11o_6, ml11o_7]
theorem ml11 (Q : Exit → Act → World → Prop) (T0 T1 T2 : Nat) (p0 q0 p1 q1 p2 q2 : Int) (ee : Int) (u0 u1 u2 u3 u4 u5 aa ab ad ae af ag ah ai aj ak al am an ao ap aq au av aw ax ay az aA aB aC aD aE aF aG aH aI aJ aK aL aM aN aO aP aQ aR aS aT aU aV aW aX aY aZ a3 a4 a5 a6 a7 a8 a9 ba bb bc bd be bg bh bi bj bk bl bm : Value) (W : World)
  (c00 : W.cell? ⟨T0, 0, none⟩ = some (.int .i64 p0)) (c01 : W.cell? ⟨T0, 1, none⟩ = some (.int .i64 q0)) (f00 : W.frozen? ⟨T0, 0, none⟩ = false) (f01 : W.frozen? ⟨T0, 1, none⟩ = false) (c10 : W.cell? ⟨T1, 0, none⟩ = some (.int .i64 p1)) (c11 : W.cell? ⟨T1, 1, none⟩ = some (.int .i64 q1)) (f10 : W.frozen? ⟨T1, 0, none⟩ = false) (f11 : W.frozen? ⟨T1, 1, none⟩ = false) (c20 : W.cell? ⟨T2, 0, none⟩ = some (.int .i64 p2)) (c21 : W.cell? ⟨T2, 1, none⟩ = some (.int .i64 q2)) (f20 : W.frozen? ⟨T2, 0, none⟩ = false) (f21 : W.frozen? ⟨T2, 1, none⟩ = false)
  (HQ : Hid (∀ (wz : World), wz = W.drew → Q .normal ⟨#[u0, u1, u2, u3, u4, u5, .pointer (some ⟨T0, 0, none⟩), .pointer (some ⟨T1, 0, none⟩), .pointer (some ⟨T2, 0, none⟩), .int .i64 ee, aa, ab, ad, ae, af, ag, ah, ai, aj, ak, al, am, an, ao, ap, aq, au, av, aw, ax, ay, az, aA, aB, aC, aD, aE, aF, aG, aH, aI, aJ, aK, aL, aM, aN, aO, aP, aQ, aR, aS, aT, aU, aV, aW, aX, aY, aZ, a3, a4, a5, a6, a7, a8, a9, ba, bb, bc, bd, be, bg, bh, bi, .agg #[.int .i64 p0, .int .i64 q0], .agg #[.int .i64 p1, .int .i64 q1], .agg #[.int .i64 p2, .int .i64 q2], .int .i64 ee], []⟩ wz)) : (Code.region 11 ml11o true).wp Tryz.prog Q ⟨#[u0, u1, u2, u3, u4, u5, .pointer (some ⟨T0, 0, none⟩), .pointer (some ⟨T1, 0, none⟩), .pointer (some ⟨T2, 0, none⟩), .int .i64 ee, aa, ab, ad, ae, af, ag, ah, ai, aj, ak, al, am, an, ao, ap, aq, au, av, aw, ax, ay, az, aA, aB, aC, aD, aE, aF, aG, aH, aI, aJ, aK, aL, aM, aN, aO, aP, aQ, aR, aS, aT, aU, aV, aW, aX, aY, aZ, a3, a4, a5, a6, a7, a8, a9, ba, bb, bc, bd, be, bg, bh, bi, bj, bk, bl, bm], []⟩ W := by
 unfold ml11o
 refine wp_region_noPanic ?_
 refine wp_region_held_drew (S := fun x => x = W.drew) (by kernel_rfl) (rfl) (fun hH0 => ?_)
 refine tj 0 ml11o_0 (.agg #[.int .i64 p0, .int .i64 q0]) hH0 (fun w0 hSw => ?_) ?_
 ·(unfold ml11o_0 oO; have hS : w0 = W.drew := hSw; subst hS; have a0 : W.drew.cell? ⟨T0, 0, none⟩ = some (.int .i64 p0) := c00; have a1 : W.drew.cell? ⟨T0, 1, none⟩ = some (.int .i64 q0) := c01; clear hSw; go_simp)
 simp only [ml11o_0, oO, Act.put, sA, sB, sC]
 refine tj 1 ml11o_1 (.agg #[.int .i64 p1, .int .i64 q1]) hH0 (fun w0 hSw => ?_) ?_
 ·(unfold ml11o_1 oO; have hS : w0 = W.drew := hSw; subst hS; have a0 : W.drew.cell? ⟨T1, 0, none⟩ = some (.int .i64 p1) := c10; have a1 : W.drew.cell? ⟨T1, 1, none⟩ = some (.int .i64 q1) := c11; clear hSw; go_simp)
 simp only [ml11o_1, oO, Act.put, sA, sB, sC]
 refine tj 2 ml11o_2 (.agg #[.int .i64 p2, .int .i64 q2]) hH0 (fun w0 hSw => ?_) ?_
 ·(unfold ml11o_2 oO; have hS : w0 = W.drew := hSw; subst hS; have a0 : W.drew.cell? ⟨T2, 0, none⟩ = some (.int .i64 p2) := c20; have a1 : W.drew.cell? ⟨T2, 1, none⟩ = some (.int .i64 q2) := c21; clear hSw; go_simp)
 simp only [ml11o_2, oO, Act.put, sA, sB, sC]
 refine tj 3 ml11o_3 (.int .i64 ee) hH0 (fun w0 hSw => ?_) ?_
 ·(unfold ml11o_3 oO; clear hSw; go_simp)
 simp only [ml11o_3, oO, Act.put, sA, sB, sC]
 refine ar [4] ?_
 refine ac ml11o_4 (fun K hK => ?_) AllReadyH.nil
 unfold ml11o_4 oN
 have HH := Hn hH0
 clear hH0
 refine wp_storeE 79 _ _ rfl T0 0 ([.int .i64 p0, .int .i64 q0]) (by rfl) (by rfl) (there2_of HH.out c00 c01 f00 f01) i2_w (one2 _ _) rfl (fun wn1 hw => ?_)
 have SN := Hn (set2_of HH.out c00 c01)
 rw [← hw] at SN
 clear HH hw
 refine hK.out _ _ SN.out (fun hH1 => ?_)
 clear hK K SN
 refine ar [5] ?_
 refine ac ml11o_5 (fun K hK => ?_) AllReadyH.nil
 unfold ml11o_5 oN
 have HH := Hn hH1
 clear hH1
 refine wp_storeE 79 _ _ rfl T1 0 ([.int .i64 p1, .int .i64 q1]) (by rfl) (by rfl) (there2_of HH.out c10 c11 f10 f11) i2_w (one2 _ _) rfl (fun wn2 hw => ?_)
 have SN := Hn (set2_of HH.out c10 c11)
 rw [← hw] at SN
 clear HH hw
 refine hK.out _ _ SN.out (fun hH2 => ?_)
 clear hK K SN
 refine ar [6] ?_
 refine ac ml11o_6 (fun K hK => ?_) AllReadyH.nil
 unfold ml11o_6 oN
 have HH := Hn hH2
 clear hH2
 refine wp_storeE 79 _ _ rfl T2 0 ([.int .i64 p2, .int .i64 q2]) (by rfl) (by rfl) (there2_of HH.out c20 c21 f20 f21) i2_w (one2 _ _) rfl (fun wn3 hw => ?_)
 have SN := Hn (set2_of HH.out c20 c21)
 rw [← hw] at SN
 clear HH hw
 refine hK.out _ _ SN.out (fun hH3 => ?_)
 clear hK K SN
 refine tj 7 ml11o_7 (.int .i64 ee) hH3 (fun w0 hSw => ?_) ?_
 ·(unfold ml11o_7 oO; clear hSw; go_simp)
 simp only [ml11o_7, oO, Act.put, sA, sB, sC]
 have HH := Hn hH3
 have FQ := Hn (HQ.out _ HH.out)
 refine wpAnyH_done (by kernel_rfl) ?_ _
 refine NoPanic.normal ?_
 exact FQ.out
end Ci
end Go.Proofs.YtghcfcglakbkeaaGreatDoor
