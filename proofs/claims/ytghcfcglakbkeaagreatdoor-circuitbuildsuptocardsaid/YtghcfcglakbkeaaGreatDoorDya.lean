import Derived.Test.YtghcfcglakbkeaaGreatDoorCsdz
namespace Go.Proofs.YtghcfcglakbkeaaGreatDoor
open Go.RowKit
set_option linter.unusedVariables false
set_option linter.unusedSimpArgs false
open Cm (Wr Tm co bf Ls lf ins Eqm)
namespace Ci
set_option maxRecDepth 100000
set_option maxHeartbeats 4000000
structure Dy (base : Nat) (w : World) (s m Kg : Nat) (v : Value) (vs : List Value) (Q : List (List Tm)) : Prop where
 h : w.heap[s]? = some (.cells #[.int .i64 (m : Int), .int .i64 (Kg : Int), v] 97 (0, 0))
 row : w.ownsRow base 72 1 v Q.length vs
 ls : ∀ (i : Nat) (X : List Tm), Q[i]? = some X → ∃ u, vs[i]? = some u ∧ w.ownsRow 0 116 6 u X.length (tls X)
 bs : base ≤ s
 sm : ∀ X ∈ Q, Ls Sm.L X
theorem Dy.cell {base : Nat} {w : World} {s m Kg : Nat} {v : Value} {vs : List Value} {Q : List (List Tm)} (h : Dy base w s m Kg v vs Q) (j : Nat) : w.cell? ⟨s, j, none⟩ = (#[.int .i64 (m : Int), .int .i64 (Kg : Int), v] : Array Value)[j]? := cell_of_row w s j _ 97 (0, 0) h.h
theorem Dy.c0 {base : Nat} {w : World} {s m Kg : Nat} {v : Value} {vs : List Value} {Q : List (List Tm)} (h : Dy base w s m Kg v vs Q) : w.cell? ⟨s, 0, none⟩ = some (.int .i64 (m : Int)) := h.cell 0
theorem Dy.c1 {base : Nat} {w : World} {s m Kg : Nat} {v : Value} {vs : List Value} {Q : List (List Tm)} (h : Dy base w s m Kg v vs Q) : w.cell? ⟨s, 1, none⟩ = some (.int .i64 (Kg : Int)) := h.cell 1
theorem Dy.c2 {base : Nat} {w : World} {s m Kg : Nat} {v : Value} {vs : List Value} {Q : List (List Tm)} (h : Dy base w s m Kg v vs Q) : w.cell? ⟨s, 2, none⟩ = some v := h.cell 2
theorem Dy.fz {base : Nat} {w : World} {s m Kg : Nat} {v : Value} {vs : List Value} {Q : List (List Tm)} (h : Dy base w s m Kg v vs Q) (j : Nat) : w.frozen? ⟨s, j, none⟩ = false := by
 unfold World.frozen?
 rw [h.h]
 simp
theorem Dy.lt {base : Nat} {w : World} {s m Kg : Nat} {v : Value} {vs : List Value} {Q : List (List Tm)} (h : Dy base w s m Kg v vs Q) : s < w.heap.size := (Array.getElem?_eq_some_iff.1 h.h).1
theorem Dy.keep {base : Nat} {w : World} {s m Kg : Nat} {v : Value} {vs : List Value} {Q : List (List Tm)} (h : Dy base w s m Kg v vs Q) {w' : World} (hb : Below w.heap.size w w') : Dy base w' s m Kg v vs Q :=
 ⟨(hb.block s h.lt).trans h.h, own_keepT h.row hb, fun i X hX => by obtain ⟨u, h1, h2⟩ := h.ls i X hX; exact ⟨u, h1, own_keepT h2 hb⟩, h.bs, h.sm⟩
theorem Dy.shape {base : Nat} {w : World} {s m Kg : Nat} {v : Value} {vs : List Value} {Q : List (List Tm)} (h : Dy base w s m Kg v vs Q) : ∃ P c, v = .slice P Q.length c ∧ Q.length ≤ c ∧ (0 < Q.length → ∃ g, P = some ⟨g, 0, none⟩) := by
 rcases h.row.2 with ⟨h1, h2⟩ | ⟨g, c, cur, h1, _, _, h4, _⟩
 ·exact ⟨none, 0, by rw [h1, h2], by omega, fun h => by omega⟩
 ·exact ⟨_, c, h1, h4, fun _ => ⟨g, rfl⟩⟩
theorem own_keepDS {w w' : World} {base' sz s : Nat} {e : TypeId} {u : Value} {n : Nat} {xs : List Value} {arr : Array Value} (ho : w.ownsRow base' e sz u n xs) (hs : w.heap[s]? = some (.cells arr 97 (0, 0))) (hne : e ≠ 97) (hg : w.grownBy w' (some s)) : w'.ownsRow base' e sz u n xs := ⟨ho.1, by
 rcases ho.2 with h0 | ⟨g, c, cur, h1, h2, h3, h4⟩
 ·exact .inl h0
 ·refine .inr ⟨g, c, cur, h1, h2, (hg.block g (Array.getElem?_eq_some_iff.1 h3).1 (fun e' => ?_)).trans h3, h4⟩
  have e' := Option.some.inj e'
  subst e'
  rw [hs] at h3
  simp only [Option.some.injEq, Obj.cells.injEq] at h3
  exact hne h3.2.1.symm⟩
theorem Dy.gate {base : Nat} {w : World} {s m Kg : Nat} {v : Value} {vs : List Value} {Q : List (List Tm)} (h : Dy base w s m Kg v vs Q) : Dy base (w.setCell ⟨s, 1, none⟩ (.int .i64 ((Kg : Int) + 1))) s m (Kg + 1) v vs Q := by
 have hg := gb_cell w s 1 (.int .i64 ((Kg : Int) + 1))
 refine ⟨?_, own_keepDS h.row h.h (by decide) hg, fun i X hX => by obtain ⟨u, h1, h2⟩ := h.ls i X hX; exact ⟨u, h1, own_keepDS h2 h.h (by decide) hg⟩, h.bs, h.sm⟩
 have := heap_setCell_same w s 1 _ 97 (.int .i64 ((Kg : Int) + 1)) h.h
 rw [this]
 rfl
theorem Dy.under {base : Nat} {w : World} {s m Kg : Nat} {v : Value} {vs : List Value} {Q : List (List Tm)} (h : Dy base w s m Kg v vs Q) {w2 w3 : World} {K2 : Nat} (h2 : Dy base w2 s m K2 v vs Q) (hb : Below w.heap.size w2 w3) : Dy base w3 s m K2 v vs Q :=
 ⟨(hb.block s h.lt).trans h2.h, own_under h.row h2.row hb, fun i X hX => by
  obtain ⟨u, h1, h3⟩ := h.ls i X hX
  obtain ⟨u', h1', h3'⟩ := h2.ls i X hX
  rw [h1] at h1'
  obtain rfl := Option.some.inj h1'
  exact ⟨u, h1, own_under h3 h3' hb⟩, h.bs, h.sm⟩
theorem Dy.vb {base : Nat} {w : World} {s m Kg : Nat} {v : Value} {vs : List Value} {Q : List (List Tm)} (h : Dy base w s m Kg v vs Q) : ∀ k, v.ownBlock = some k → base ≤ k ∧ k < w.heap.size := fun k hk => h.row.lt k hk
theorem Dy.more {base : Nat} {w : World} {s m Kg : Nat} {v : Value} {vs : List Value} {Q : List (List Tm)} (h : Dy base w s m Kg v vs Q) {w1 w2 : World} {u v' : Value} {X : List Tm} (hb : Below w.heap.size w w1) (hu : w1.ownsRow 0 116 6 u X.length (tls X)) (hX : Ls Sm.L X) (ho : w2.ownsRow base 72 1 v' (Q.length + 1) (vs ++ [u])) (hg : w1.grownBy w2 v.ownBlock) :
  Dy base (w2.setCell ⟨s, 2, none⟩ v') s m Kg v' (vs ++ [u]) (Q ++ [X]) ∧ Fz s v w (w2.setCell ⟨s, 2, none⟩ v') := by
 have h1 := h.keep hb
 have hvs : vs.length = Q.length := by have := h.row.1; omega
 have hne : some s ≠ v.ownBlock := fun e => by
  rcases h.row.2 with ⟨e1, _⟩ | ⟨g, c, cur, e1, _, k1, _⟩
  ·rw [e1] at e; cases e
  ·rw [e1] at e
   simp only [Value.ownBlock, Option.some.injEq] at e
   subst e
   rw [h.h] at k1
   simp only [Option.some.injEq, Obj.cells.injEq] at k1
   exact absurd k1.2.1 (by decide)
 have hs2 : w2.heap[s]? = some (.cells #[.int .i64 (m : Int), .int .i64 (Kg : Int), v] 97 (0, 0)) := (hg.block s h1.lt hne).trans h1.h
 have hgs := gb_cell w2 s 2 v'
 have hT : ∀ {b1 n : Nat} {u : Value} {xs : List Value}, w1.ownsRow b1 116 6 u n xs → w2.ownsRow b1 116 6 u n xs := fun {b1 n u xs} ho1 => ⟨ho1.1, by
  rcases ho1.2 with h' | ⟨g, c, cur, e1, e2, e3, e4⟩
  ·exact .inl h'
  ·refine .inr ⟨g, c, cur, e1, e2, (hg.block g (Array.getElem?_eq_some_iff.1 e3).1 (fun e => ?_)).trans e3, e4⟩
   rcases h1.row.2 with ⟨f1, _⟩ | ⟨g', c', cur', f1, _, k1, _⟩
   ·rw [f1] at e; cases e
   ·rw [f1] at e
    simp only [Value.ownBlock, Option.some.injEq] at e
    subst e
    rw [k1] at e3
    simp only [Option.some.injEq, Obj.cells.injEq] at e3
    exact absurd e3.2.1 (by decide)⟩
 refine ⟨⟨?_, ?_, ?_, h.bs, ?_⟩, ⟨?_, ?_, ?_, ?_, ?_⟩⟩
 ·have := heap_setCell_same w2 s 2 _ 97 v' hs2
  rw [this]
  rfl
 ·rw [List.length_append, List.length_singleton]
  exact own_keepDS ho hs2 (by decide) hgs
 ·intro i Y hY
  by_cases hi : i < Q.length
  ·rw [List.getElem?_append_left hi] at hY
   obtain ⟨u', a1, a2⟩ := h1.ls i Y hY
   exact ⟨u', by rw [List.getElem?_append_left (by omega)]; exact a1, own_keepDS (hT a2) hs2 (by decide) hgs⟩
  ·rw [List.getElem?_append_right (by omega)] at hY
   have hi0 : i - Q.length = 0 := by
    have := (List.getElem?_eq_some_iff.1 hY).1
    simp at this
    omega
   rw [hi0] at hY
   simp only [List.getElem?_cons_zero, Option.some.injEq] at hY
   subst hY
   refine ⟨u, ?_, own_keepDS (hT hu) hs2 (by decide) hgs⟩
   rw [List.getElem?_append_right (by omega), show i - vs.length = 0 by omega]
   rfl
 ·intro Y hY
  rcases List.mem_append.1 hY with hY | hY
  ·exact h.sm Y hY
  ·rw [List.mem_singleton.1 hY]; exact hX
 ·exact hgs.os.trans (hg.os.trans hb.os)
 ·exact hgs.tape.trans (hg.tape.trans hb.tape)
 ·exact hgs.output.trans (hg.output.trans hb.output)
 ·exact Nat.le_trans hb.size (Nat.le_trans hg.size hgs.size)
 ·intro i hi his hiv
  rw [hgs.block i (Nat.lt_of_lt_of_le hi (Nat.le_trans hb.size hg.size)) (fun e => his (Option.some.inj e)), hg.block i (Nat.lt_of_lt_of_le hi hb.size) (fun e => hiv e.symm), hb.block i hi]
theorem rq_moreD {base : Nat} {w : World} {s m Kg : Nat} {v : Value} {vs : List Value} {Q : List (List Tm)} (h : Dy base w s m Kg v vs Q) {w1 w2 : World} {v' : Value} {X : List Tm} {P1 : Option Addr} {nq xl c1 : Nat} (hb : Below w.heap.size w w1) (hu : w1.ownsRow 0 116 6 (.slice P1 xl c1) xl (tls X)) (hX : Ls Sm.L X) (hq : Q.length = nq) (hx : X.length = xl) (ho : w2.ownsRow base 72 1 v' (nq + 1) (vs ++ [.slice P1 xl c1])) (hg : w1.grownBy w2 v.ownBlock) :
  Dy base (w2.setCell ⟨s, 2, none⟩ v') s m Kg v' (vs ++ [.slice P1 xl c1]) (Q ++ [X]) ∧ Fz s v w (w2.setCell ⟨s, 2, none⟩ v') := by
 subst hq
 subst hx
 exact h.more hb hu hX ho hg
theorem ne_row2D {base : Nat} {w : World} {s n : Nat} {v : Value} {vs : List Value} {arr : Array Value} (h : w.heap[s]? = some (.cells arr 97 (0, 0))) (ho : w.ownsRow base 72 1 v n vs) : some s ≠ v.ownBlock := fun e => by
 rcases ho.2 with ⟨e1, _⟩ | ⟨g, c, cur, e1, _, k1, _⟩
 ·rw [e1] at e; cases e
 ·rw [e1] at e
  simp only [Value.ownBlock, Option.some.injEq] at e
  subst e
  rw [h] at k1
  simp only [Option.some.injEq, Obj.cells.injEq] at k1
  exact absurd k1.2.1 (by decide)
theorem cell_row2D {base : Nat} {w w4 : World} {o : Obj} {s n : Nat} {v : Value} {vs : List Value} {a b : Value} (h : w.heap[s]? = some (.cells #[a, b, v] 97 (0, 0))) (ho : w.ownsRow base 72 1 v n vs) (hg : (w.alloc o).grownBy w4 v.ownBlock) : w4.cell? ⟨s, 2, none⟩ = some v := by
 have hl := (Array.getElem?_eq_some_iff.1 h).1
 have h2 : w4.heap[s]? = some (.cells #[a, b, v] 97 (0, 0)) := (hg.block s (by simp; omega) (ne_row2D h ho)).trans ((heap_alloc_old w o hl).trans h)
 exact cell_of_row w4 s 2 _ 97 (0, 0) h2
theorem fz_row2D {base : Nat} {w w4 : World} {o : Obj} {s n : Nat} {v : Value} {vs : List Value} {a b : Value} (h : w.heap[s]? = some (.cells #[a, b, v] 97 (0, 0))) (ho : w.ownsRow base 72 1 v n vs) (hg : (w.alloc o).grownBy w4 v.ownBlock) : w4.frozen? ⟨s, 2, none⟩ = false := by
 have hl := (Array.getElem?_eq_some_iff.1 h).1
 have h2 : w4.heap[s]? = some (.cells #[a, b, v] 97 (0, 0)) := (hg.block s (by simp; omega) (ne_row2D h ho)).trans ((heap_alloc_old w o hl).trans h)
 unfold World.frozen?
 rw [h2]
 simp
end Ci
end Go.Proofs.YtghcfcglakbkeaaGreatDoor
