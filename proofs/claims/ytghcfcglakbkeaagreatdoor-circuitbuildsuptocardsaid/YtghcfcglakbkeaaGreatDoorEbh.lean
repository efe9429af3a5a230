import Derived.Test.YtghcfcglakbkeaaGreatDoorEbfz
namespace Go.Proofs.YtghcfcglakbkeaaGreatDoor
open Go.RowKit
set_option linter.unusedVariables false
set_option linter.unusedSimpArgs false
open Cm (Wr Tm co bf Ls lf ins Eqm)
namespace Ci
set_option maxRecDepth 100000
set_option maxHeartbeats 8000000
structure Gs (S : Nat → Prop) (x y : World) : Prop where
 os : y.os = x.os
 tape : y.tape = x.tape
 output : y.output = x.output
 size : x.heap.size ≤ y.heap.size
 block : ∀ i, i < x.heap.size → ¬ S i → y.heap[i]? = x.heap[i]?
def Sk (S S' : Nat → Prop) (x : World) : Prop := ∀ i, S' i → S i ∨ x.heap.size ≤ i
def Out (S : Nat → Prop) (v : Value) : Prop := ∀ k, v.ownBlock = some k → ¬ S k
section
variable {S S1 S2 : Nat → Prop} {x y z : World}
theorem Gs.refl : Gs S x x := ⟨rfl, rfl, rfl, Nat.le_refl _, fun _ _ _ => rfl⟩
theorem Gs.bl (h : Below x.heap.size x y) : Gs S x y := ⟨h.os, h.tape, h.output, h.size, fun i hi _ => h.block i hi⟩
theorem Gs.gb {r : Option Nat} (h : x.grownBy y r) (hr : ∀ b, r = some b → S b) : Gs S x y := ⟨h.os, h.tape, h.output, h.size, fun i hi hn => h.block i hi (fun e => hn (hr i e.symm))⟩
theorem Sk.refl : Sk S S x := fun i h => .inl h
theorem Gs.trans (h : Gs S x y) (k : Gs S1 y z) (sk : Sk S S1 x) : Gs S x z :=
 ⟨k.os.trans h.os, k.tape.trans h.tape, k.output.trans h.output, Nat.le_trans h.size k.size, fun i hi hn => (k.block i (Nat.lt_of_lt_of_le hi h.size) (fun e => by
  rcases sk i e with e | e
  ·exact hn e
  ·omega)).trans (h.block i hi hn)⟩
theorem Sk.trans (h : Sk S S1 x) (k : Sk S1 S2 y) (hs : x.heap.size ≤ y.heap.size) : Sk S S2 x := fun i hi => by
 rcases k i hi with e | e
 ·exact h i e
 ·exact .inr (Nat.le_trans hs e)
theorem Gs.cell {a : Addr} {u : Value} (h : Gs S x y) (hc : x.cell? a = some u) (hn : ¬ S a.block) : y.cell? a = some u := by
 have hl := World.block_lt_of_cell? x a hc
 unfold World.cell? at hc ⊢
 rw [h.block _ hl hn]
 exact hc
theorem Gs.own {b n s : Nat} {e : TypeId} {v : Value} {xs : List Value} (h : Gs S x y) (ho : x.ownsRow b e s v n xs) (hn : Out S v) : y.ownsRow b e s v n xs := ⟨ho.1, by
 rcases ho.2 with k | ⟨g, c, cur, e1, e2, e3, e4⟩
 ·exact .inl k
 ·exact .inr ⟨g, c, cur, e1, e2, (h.block g (Array.getElem?_eq_some_iff.1 e3).1 (hn g (by rw [e1]; rfl))).trans e3, e4⟩⟩
theorem Out.sk {b n s : Nat} {e : TypeId} {v : Value} {xs : List Value} (h : Out S v) (ho : x.ownsRow b e s v n xs) (sk : Sk S S1 x) : Out S1 v := fun k hk h1 => by
 rcases sk k h1 with e1 | e1
 ·exact h k hk e1
 ·have := (ho.lt k hk).2
  omega
end
theorem Gs.fz {S : Nat → Prop} {x y : World} {s : Nat} {v : Value} (h : Fz s v x y) (h1 : S s) (h2 : ∀ k, v.ownBlock = some k → S k) : Gs S x y := ⟨h.os, h.tape, h.output, h.size, fun i hi hn => h.block i hi (fun e => hn (e ▸ h1)) (fun e => hn (h2 i e))⟩
theorem Gs.below {S : Nat → Prop} {x y : World} {n : Nat} (h : Gs S x y) (hn : n ≤ x.heap.size) (hS : ∀ i, S i → n ≤ i) : Below n x y := ⟨h.os, h.tape, h.output, h.size, fun i hi => h.block i (by omega) (fun e => by have := hS i e; omega)⟩
structure Pr where
 b : Nat
 s : Nat
 r : Nat
 K : Nat
 Q : List (List Tm)
 v : Value
 vs : List Value
 u : Value
 us : List Value
def Pr.S (p : Pr) (i : Nat) : Prop := i = p.s ∨ i = p.r ∨ p.v.ownBlock = some i ∨ p.u.ownBlock = some i
structure Pj (w0 : World) (m : Nat) (p : Pr) (x : World) : Prop where
 hb : x.heap[p.b]? = some (.cells #[.pointer (some ⟨p.s, 0, none⟩), .pointer (some ⟨p.r, 0, none⟩)] 49 (0, 0))
 sy : Sy 0 x p.s m p.K p.v p.vs p.Q
 dy : Dy 0 x p.r m p.K p.u p.us p.Q
 ok : okY m p.K p.Q
 lo : ∀ i, p.S i → w0.heap.size ≤ i
structure Ne (p q : Pr) : Prop where
 s : q.s ≠ p.s
 r : q.r ≠ p.r
 v : ∀ k, q.v.ownBlock = some k → p.v.ownBlock ≠ some k
 u : ∀ k, q.u.ownBlock = some k → p.u.ownBlock ≠ some k
section
variable {w0 x y : World} {m : Nat} {p q : Pr}
theorem blk_ne {b c : Nat} {a a' : Array Value} {T T' : TypeId} (h : x.heap[b]? = some (.cells a T (0, 0))) (k : x.heap[c]? = some (.cells a' T' (0, 0))) (hT : T ≠ T') : b ≠ c := fun e => by
 subst e
 rw [h] at k
 simp only [Option.some.injEq, Obj.cells.injEq] at k
 exact hT k.2.1
theorem Pj.lt (h : Pj w0 m p x) : ∀ i, p.S i → i < x.heap.size := fun i hi => by
 rcases hi with rfl | rfl | e | e
 ·exact h.sy.lt
 ·exact h.dy.lt
 ·exact (h.sy.row.lt i e).2
 ·exact (h.dy.row.lt i e).2
theorem Pj.keep (h : Pj w0 m p x) (hb : Below x.heap.size x y) : Pj w0 m p y := ⟨hb_bl h.hb hb, h.sy.keep hb, h.dy.keep hb, h.ok, h.lo⟩
theorem Pj.nb (h : Pj w0 m p x) {B : Nat} {arr : Array Value} {T : TypeId} (hB : x.heap[B]? = some (.cells arr T (0, 0))) (h1 : 27 ≠ T) (h2 : 97 ≠ T) (h3 : 38 ≠ T) (h4 : 72 ≠ T) : ¬ p.S B := fun e => by
 rcases e with e | e | e | e
 ·exact blk_ne h.sy.h hB h1 e.symm
 ·exact blk_ne h.dy.h hB h2 e.symm
 ·exact box_kd h.sy.row hB h3 e
 ·exact box_kd h.dy.row hB h4 e
theorem Pj.out (h : Pj w0 m p x) {b n s : Nat} {e : TypeId} {v : Value} {xs : List Value} (ho : x.ownsRow b e s v n xs) (h1 : e ≠ 27) (h2 : e ≠ 97) (h3 : e ≠ 38) (h4 : e ≠ 72) : Out p.S v := fun k hk e' => by
 rcases e' with e' | e' | e' | e'
 ·subst e'; exact box_kd ho h.sy.h h1 hk
 ·subst e'; exact box_kd ho h.dy.h h2 hk
 ·exact own_kd ho h.sy.row h3 k hk e'
 ·exact own_kd ho h.dy.row h4 k hk e'
theorem Pj.aside (h : Pj w0 m q x) (k : Pj w0 m p x) (n : Ne p q) (g : Gs p.S x y) : Pj w0 m q y := by
 have s1 : ¬ p.S q.s := fun e => by
  rcases e with e | e | e | e
  ·exact n.s e
  ·exact blk_ne h.sy.h k.dy.h (by decide) e
  ·exact box_kd k.sy.row h.sy.h (by decide) e
  ·exact box_kd k.dy.row h.sy.h (by decide) e
 have s2 : ¬ p.S q.r := fun e => by
  rcases e with e | e | e | e
  ·exact blk_ne k.sy.h h.dy.h (by decide) e.symm
  ·exact n.r e
  ·exact box_kd k.sy.row h.dy.h (by decide) e
  ·exact box_kd k.dy.row h.dy.h (by decide) e
 have o1 : Out p.S q.v := fun i hi e => by
  rcases e with e | e | e | e
  ·subst e; exact box_kd h.sy.row k.sy.h (by decide) hi
  ·subst e; exact box_kd h.sy.row k.dy.h (by decide) hi
  ·exact n.v i hi e
  ·exact own_kd h.sy.row k.dy.row (by decide) i hi e
 have o2 : Out p.S q.u := fun i hi e => by
  rcases e with e | e | e | e
  ·subst e; exact box_kd h.dy.row k.sy.h (by decide) hi
  ·subst e; exact box_kd h.dy.row k.dy.h (by decide) hi
  ·exact own_kd h.dy.row k.sy.row (by decide) i hi e
  ·exact n.u i hi e
 refine ⟨(g.block _ (Array.getElem?_eq_some_iff.1 h.hb).1 (k.nb h.hb (by decide) (by decide) (by decide) (by decide))).trans h.hb, ⟨(g.block _ h.sy.lt s1).trans h.sy.h, g.own h.sy.row o1, fun i X hX => ?_, h.sy.bs, h.sy.sm⟩, ⟨(g.block _ h.dy.lt s2).trans h.dy.h, g.own h.dy.row o2, fun i X hX => ?_, h.dy.bs, h.dy.sm⟩, h.ok, h.lo⟩
 ·obtain ⟨u, a1, a2⟩ := h.sy.ls i X hX
  exact ⟨u, a1, g.own a2 (k.out a2 (by decide) (by decide) (by decide) (by decide))⟩
 ·obtain ⟨u, a1, a2⟩ := h.dy.ls i X hX
  exact ⟨u, a1, g.own a2 (k.out a2 (by decide) (by decide) (by decide) (by decide))⟩
end
structure Li (w : World) (s : Lf) : Prop where
 a : s.at w
 z : s.p = none → s.c = 0
structure Md (w0 : World) (m : Nat) (p : Pr) (x : World) (sa sb : Lf) (wh : Int) (cb t7 t8 t9 t10 t11 t12 ga ca gb cc : Nat) (K1 : Nat) (Q1 : List (List Tm)) (K2 : Nat) (Q2 : List (List Tm)) (a0 a1 a2 a3 a4 a5 b0 b1 b2 b3 b4 b5 : Int) (z : World) : Prop where
 tb : Tb w0
 mr : Mk w0
 la : Li w0 sa
 lb : Li w0 sb
 bx : w0.heap.size ≤ x.heap.size
 bel : Below w0.heap.size w0 z
 lo : ∀ i, p.S i → w0.heap.size ≤ i ∧ i < x.heap.size
 hb : z.heap[p.b]? = some (.cells #[.pointer (some ⟨p.s, 0, none⟩), .pointer (some ⟨p.r, 0, none⟩)] 49 (0, 0))
 sy : ∃ v vs, Sy 0 z p.s m K1 v vs Q1 ∧ (∀ k, v.ownBlock = some k → p.v.ownBlock = some k ∨ x.heap.size ≤ k) ∧ ∀ u ∈ vs, ∀ k, u.ownBlock = some k → k ≠ ga ∧ k ≠ gb
 dy : ∃ v vs, Dy 0 z p.r m K2 v vs Q2 ∧ ∀ k, v.ownBlock = some k → p.u.ownBlock = some k ∨ x.heap.size ≤ k
 ok1 : okY m K1 Q1
 ok2 : okY m K2 Q2
 gs : Gs p.S x z
 hcb : z.heap[cb]? = some (.cells #[.int .i64 wh, .slice sa.p sa.n sa.c, .slice sb.p sb.n sb.c] 65 (0, 0))
 w7 : z.heap[t7]? = some (.cells #[.int .i64 a0, .int .i64 a1] 79 (0, 0))
 w8 : z.heap[t8]? = some (.cells #[.int .i64 a2, .int .i64 a3] 79 (0, 0))
 w9 : z.heap[t9]? = some (.cells #[.int .i64 a4, .int .i64 a5] 79 (0, 0))
 w10 : z.heap[t10]? = some (.cells #[.int .i64 b0, .int .i64 b1] 67 (0, 0))
 w11 : z.heap[t11]? = some (.cells #[.int .i64 b2, .int .i64 b3] 67 (0, 0))
 w12 : z.heap[t12]? = some (.cells #[.int .i64 b4, .int .i64 b5] 67 (0, 0))
 ra : z.ownsRow x.heap.size 123 6 (.slice (some ⟨ga, 0, none⟩) (sa.n + 2) ca) (sa.n + 2) (tvs (sa.n + 2) (ex sa.n sa.f))
 rb : z.ownsRow x.heap.size 123 6 (.slice (some ⟨gb, 0, none⟩) (sb.n + 2) cc) (sb.n + 2) (tvs (sb.n + 2) (ex sb.n sb.f))
 gg : ga ≠ gb
 nt : t7 ≠ t8 ∧ t7 ≠ t9 ∧ t8 ≠ t9 ∧ t10 ≠ t11 ∧ t10 ≠ t12 ∧ t11 ≠ t12
 ge : x.heap.size ≤ t7 ∧ x.heap.size ≤ t8 ∧ x.heap.size ≤ t9 ∧ x.heap.size ≤ t10 ∧ x.heap.size ≤ t11 ∧ x.heap.size ≤ t12
section
variable {w0 x y z : World} {m : Nat} {p : Pr} {sa sb : Lf} {wh : Int} {cb t7 t8 t9 t10 t11 t12 ga ca gb cc : Nat} {K1 K2 K : Nat} {Q1 Q2 Q : List (List Tm)} {a0 a1 a2 a3 a4 a5 b0 b1 b2 b3 b4 b5 : Int}
theorem Md.keep (h : Md w0 m p x sa sb wh cb t7 t8 t9 t10 t11 t12 ga ca gb cc K1 Q1 K2 Q2 a0 a1 a2 a3 a4 a5 b0 b1 b2 b3 b4 b5 z) (hb : Below z.heap.size z y) : Md w0 m p x sa sb wh cb t7 t8 t9 t10 t11 t12 ga ca gb cc K1 Q1 K2 Q2 a0 a1 a2 a3 a4 a5 b0 b1 b2 b3 b4 b5 y := by
 obtain ⟨v, vs, h1, h2⟩ := h.sy
 obtain ⟨u, us, k1, k2⟩ := h.dy
 exact ⟨h.tb, h.mr, h.la, h.lb, h.bx, h.bel.trans (hb.mono h.bel.size), h.lo, hb_bl h.hb hb, ⟨v, vs, h1.keep hb, h2⟩, ⟨u, us, k1.keep hb, k2⟩, h.ok1, h.ok2, h.gs.trans (Gs.bl hb) Sk.refl, hb_bl h.hcb hb, hb_bl h.w7 hb, hb_bl h.w8 hb, hb_bl h.w9 hb, hb_bl h.w10 hb, hb_bl h.w11 hb, hb_bl h.w12 hb, own_keepT h.ra hb, own_keepT h.rb hb, h.gg, h.nt, h.ge⟩
theorem Md.gp (h : Md w0 m p x sa sb wh cb t7 t8 t9 t10 t11 t12 ga ca gb cc K1 Q1 K2 Q2 a0 a1 a2 a3 a4 a5 b0 b1 b2 b3 b4 b5 z) {v : Value} {vs : List Value} (hs : Sy 0 z p.s m K1 v vs Q1) (hv : ∀ k, v.ownBlock = some k → p.v.ownBlock = some k ∨ x.heap.size ≤ k) (hn : ∀ u ∈ vs, ∀ k, u.ownBlock = some k → k ≠ ga ∧ k ≠ gb) (ho : okY m K Q) (g : Gp p.s m K Q v vs z y) : Md w0 m p x sa sb wh cb t7 t8 t9 t10 t11 t12 ga ca gb cc K Q K2 Q2 a0 a1 a2 a3 a4 a5 b0 b1 b2 b3 b4 b5 y := by
 obtain ⟨v', vs', h1, h2, h3, h4⟩ := g
 obtain ⟨u, us, k1, k2⟩ := h.dy
 have la := (h.ra.lt ga rfl).2
 have lb := (h.rb.lt gb rfl).2
 have bz : x.heap.size ≤ z.heap.size := h.gs.size
 have lz : w0.heap.size ≤ z.heap.size := Nat.le_trans h.bx bz
 have g1 : Gs (fun i => i = p.s ∨ v.ownBlock = some i) z y := Gs.fz h2 (.inl rfl) (fun k hk => .inr hk)
 have nbk : ∀ {B : Nat} {arr : Array Value} {T : TypeId}, z.heap[B]? = some (.cells arr T (0, 0)) → 27 ≠ T → 38 ≠ T → y.heap[B]? = some (.cells arr T (0, 0)) := fun hB e1 e2 => (g1.block _ (Array.getElem?_eq_some_iff.1 hB).1 (fun e => by
  rcases e with e | e
  ·exact blk_ne hs.h hB e1 e.symm
  ·exact box_kd hs.row hB e2 e)).trans hB
 have ok : ∀ {b n s : Nat} {e : TypeId} {u : Value} {xs : List Value}, z.ownsRow b e s u n xs → e ≠ 27 → e ≠ 38 → y.ownsRow b e s u n xs := fun ho e1 e2 => g1.own ho (fun k hk e => by
  rcases e with e | e
  ·subst e; exact box_kd ho hs.h e1 hk
  ·exact own_kd ho hs.row e2 k hk e)
 have lo2 : ∀ i, (i = p.s ∨ v.ownBlock = some i) → p.S i ∨ x.heap.size ≤ i := fun i hi => by
  rcases hi with e | e
  ·exact .inl (.inl e)
  ·rcases hv i e with e2 | e2
   ·exact .inl (.inr (.inr (.inl e2)))
   ·exact .inr e2
 refine ⟨h.tb, h.mr, h.la, h.lb, h.bx, h.bel.trans (g1.below h.bel.size (fun i hi => ?_)), h.lo, nbk h.hb (by decide) (by decide), ⟨v', _, h1, fun k hk => ?_, fun u hu k hk => ?_⟩, ⟨u, us, ⟨nbk k1.h (by decide) (by decide), ok k1.row (by decide) (by decide), fun i X hX => ?_, k1.bs, k1.sm⟩, k2⟩, ho, h.ok2, h.gs.trans g1 lo2, nbk h.hcb (by decide) (by decide), nbk h.w7 (by decide) (by decide), nbk h.w8 (by decide) (by decide), nbk h.w9 (by decide) (by decide), nbk h.w10 (by decide) (by decide), nbk h.w11 (by decide) (by decide), nbk h.w12 (by decide) (by decide), ok h.ra (by decide) (by decide), ok h.rb (by decide) (by decide), h.gg, h.nt, h.ge⟩
 ·rcases lo2 i hi with e | e
  ·exact (h.lo i e).1
  ·exact Nat.le_trans h.bx e
 ·rcases h3 k hk with e | e
  ·exact hv k e
  ·exact .inr (Nat.le_trans bz e)
 ·rcases List.mem_append.1 hu with e | e
  ·exact hn u e k hk
  ·have := h4 u e k hk
   omega
 ·obtain ⟨u, c1, c2⟩ := k1.ls i X hX
  exact ⟨u, c1, ok c2 (by decide) (by decide)⟩
theorem Md.gr (h : Md w0 m p x sa sb wh cb t7 t8 t9 t10 t11 t12 ga ca gb cc K1 Q1 K2 Q2 a0 a1 a2 a3 a4 a5 b0 b1 b2 b3 b4 b5 z) {v : Value} {vs : List Value} (hs : Dy 0 z p.r m K2 v vs Q2) (hv : ∀ k, v.ownBlock = some k → p.u.ownBlock = some k ∨ x.heap.size ≤ k) (ho : okY m K Q) (g : Gdd p.r m K Q v z y) : Md w0 m p x sa sb wh cb t7 t8 t9 t10 t11 t12 ga ca gb cc K1 Q1 K Q a0 a1 a2 a3 a4 a5 b0 b1 b2 b3 b4 b5 y := by
 obtain ⟨v', vs', h1, h2, h3⟩ := g
 obtain ⟨u, us, k1, k2⟩ := h.sy
 have bz : x.heap.size ≤ z.heap.size := h.gs.size
 have g1 : Gs (fun i => i = p.r ∨ v.ownBlock = some i) z y := Gs.fz h2 (.inl rfl) (fun k hk => .inr hk)
 have nbk : ∀ {B : Nat} {arr : Array Value} {T : TypeId}, z.heap[B]? = some (.cells arr T (0, 0)) → 97 ≠ T → 72 ≠ T → y.heap[B]? = some (.cells arr T (0, 0)) := fun hB e1 e2 => (g1.block _ (Array.getElem?_eq_some_iff.1 hB).1 (fun e => by
  rcases e with e | e
  ·exact blk_ne hs.h hB e1 e.symm
  ·exact box_kd hs.row hB e2 e)).trans hB
 have ok : ∀ {b n s : Nat} {e : TypeId} {u : Value} {xs : List Value}, z.ownsRow b e s u n xs → e ≠ 97 → e ≠ 72 → y.ownsRow b e s u n xs := fun ho e1 e2 => g1.own ho (fun k hk e => by
  rcases e with e | e
  ·subst e; exact box_kd ho hs.h e1 hk
  ·exact own_kd ho hs.row e2 k hk e)
 have lo2 : ∀ i, (i = p.r ∨ v.ownBlock = some i) → p.S i ∨ x.heap.size ≤ i := fun i hi => by
  rcases hi with e | e
  ·exact .inl (.inr (.inl e))
  ·rcases hv i e with e2 | e2
   ·exact .inl (.inr (.inr (.inr e2)))
   ·exact .inr e2
 refine ⟨h.tb, h.mr, h.la, h.lb, h.bx, h.bel.trans (g1.below h.bel.size (fun i hi => ?_)), h.lo, nbk h.hb (by decide) (by decide), ⟨u, us, ⟨nbk k1.h (by decide) (by decide), ok k1.row (by decide) (by decide), fun i X hX => ?_, k1.bs, k1.sm⟩, k2⟩, ⟨v', vs', h1, fun k hk => ?_⟩, h.ok1, ho, h.gs.trans g1 lo2, nbk h.hcb (by decide) (by decide), nbk h.w7 (by decide) (by decide), nbk h.w8 (by decide) (by decide), nbk h.w9 (by decide) (by decide), nbk h.w10 (by decide) (by decide), nbk h.w11 (by decide) (by decide), nbk h.w12 (by decide) (by decide), ok h.ra (by decide) (by decide), ok h.rb (by decide) (by decide), h.gg, h.nt, h.ge⟩
 ·rcases lo2 i hi with e | e
  ·exact (h.lo i e).1
  ·exact Nat.le_trans h.bx e
 ·obtain ⟨u, c1, c2⟩ := k1.ls i X hX
  exact ⟨u, c1, ok c2 (by decide) (by decide)⟩
 ·rcases h3 k hk with e | e
  ·exact hv k e
  ·exact .inr (Nat.le_trans bz e)
theorem Md.s7 (h : Md w0 m p x sa sb wh cb t7 t8 t9 t10 t11 t12 ga ca gb cc K1 Q1 K2 Q2 a0 a1 a2 a3 a4 a5 b0 b1 b2 b3 b4 b5 z) (c0 c1 : Int) : Md w0 m p x sa sb wh cb t7 t8 t9 t10 t11 t12 ga ca gb cc K1 Q1 K2 Q2 c0 c1 a2 a3 a4 a5 b0 b1 b2 b3 b4 b5 (z.setCells t7 0 [.int .i64 c0, .int .i64 c1]) := by
 have gb := gb_setCells t7 [.int .i64 c0, .int .i64 c1] 0 z
 have wk := heap_setCells_whole [.int .i64 c0, .int .i64 c1] 0 z _ h.w7 rfl
 have g1 : Gs (fun i => i = t7) z (z.setCells t7 0 [.int .i64 c0, .int .i64 c1]) := Gs.gb gb (fun b e => by rw [← Option.some.inj e])
 have nbk : ∀ {B : Nat} {arr : Array Value} {T : TypeId}, z.heap[B]? = some (.cells arr T (0, 0)) → 79 ≠ T → (z.setCells t7 0 [.int .i64 c0, .int .i64 c1]).heap[B]? = some (.cells arr T (0, 0)) := fun hB e1 => (g1.block _ (Array.getElem?_eq_some_iff.1 hB).1 (fun e => blk_ne h.w7 hB e1 e.symm)).trans hB
 have ok : ∀ {b n s : Nat} {e : TypeId} {u : Value} {xs : List Value}, z.ownsRow b e s u n xs → e ≠ 79 → (z.setCells t7 0 [.int .i64 c0, .int .i64 c1]).ownsRow b e s u n xs := fun ho e1 => g1.own ho (fun k hk e => by subst e; exact box_kd ho h.w7 e1 hk)
 obtain ⟨v, vs, h1, h2⟩ := h.sy
 obtain ⟨u, us, k1, k2⟩ := h.dy
 refine ⟨h.tb, h.mr, h.la, h.lb, h.bx, h.bel.trans (g1.below h.bel.size (fun i hi => by have := h.ge.1; have := h.bx; omega)), h.lo, nbk h.hb (by decide), ⟨v, vs, ⟨nbk h1.h (by decide), ok h1.row (by decide), fun i X hX => ?_, h1.bs, h1.sm⟩, h2⟩, ⟨u, us, ⟨nbk k1.h (by decide), ok k1.row (by decide), fun i X hX => ?_, k1.bs, k1.sm⟩, k2⟩, h.ok1, h.ok2, h.gs.trans g1 (fun i hi => .inr (by have := h.ge.1; omega)), nbk h.hcb (by decide), wk, (gb.block _ (Array.getElem?_eq_some_iff.1 h.w8).1 (fun e => by have := Option.some.inj e; have := h.nt.1; omega)).trans h.w8, (gb.block _ (Array.getElem?_eq_some_iff.1 h.w9).1 (fun e => by have := Option.some.inj e; have := h.nt.2.1; omega)).trans h.w9, nbk h.w10 (by decide), nbk h.w11 (by decide), nbk h.w12 (by decide), ok h.ra (by decide), ok h.rb (by decide), h.gg, h.nt, h.ge⟩
 ·obtain ⟨u, c1, c2⟩ := h1.ls i X hX
  exact ⟨u, c1, ok c2 (by decide)⟩
 ·obtain ⟨u, c1, c2⟩ := k1.ls i X hX
  exact ⟨u, c1, ok c2 (by decide)⟩
theorem Md.th7 (h : Md w0 m p x sa sb wh cb t7 t8 t9 t10 t11 t12 ga ca gb cc K1 Q1 K2 Q2 a0 a1 a2 a3 a4 a5 b0 b1 b2 b3 b4 b5 z) : z.there t7 0 2 := fun j hj => by
 have hc := cell_of_row z t7 (0 + j) _ _ (0, 0) h.w7
 refine ⟨?_, ?_⟩
 ·rw [hc]
  have : j = 0 ∨ j = 1 := by omega
  rcases this with rfl | rfl <;> rfl
 ·unfold World.frozen?
  rw [h.w7]
  simp
theorem Md.s8 (h : Md w0 m p x sa sb wh cb t7 t8 t9 t10 t11 t12 ga ca gb cc K1 Q1 K2 Q2 a0 a1 a2 a3 a4 a5 b0 b1 b2 b3 b4 b5 z) (c0 c1 : Int) : Md w0 m p x sa sb wh cb t7 t8 t9 t10 t11 t12 ga ca gb cc K1 Q1 K2 Q2 a0 a1 c0 c1 a4 a5 b0 b1 b2 b3 b4 b5 (z.setCells t8 0 [.int .i64 c0, .int .i64 c1]) := by
 have gb := gb_setCells t8 [.int .i64 c0, .int .i64 c1] 0 z
 have wk := heap_setCells_whole [.int .i64 c0, .int .i64 c1] 0 z _ h.w8 rfl
 have g1 : Gs (fun i => i = t8) z (z.setCells t8 0 [.int .i64 c0, .int .i64 c1]) := Gs.gb gb (fun b e => by rw [← Option.some.inj e])
 have nbk : ∀ {B : Nat} {arr : Array Value} {T : TypeId}, z.heap[B]? = some (.cells arr T (0, 0)) → 79 ≠ T → (z.setCells t8 0 [.int .i64 c0, .int .i64 c1]).heap[B]? = some (.cells arr T (0, 0)) := fun hB e1 => (g1.block _ (Array.getElem?_eq_some_iff.1 hB).1 (fun e => blk_ne h.w8 hB e1 e.symm)).trans hB
 have ok : ∀ {b n s : Nat} {e : TypeId} {u : Value} {xs : List Value}, z.ownsRow b e s u n xs → e ≠ 79 → (z.setCells t8 0 [.int .i64 c0, .int .i64 c1]).ownsRow b e s u n xs := fun ho e1 => g1.own ho (fun k hk e => by subst e; exact box_kd ho h.w8 e1 hk)
 obtain ⟨v, vs, h1, h2⟩ := h.sy
 obtain ⟨u, us, k1, k2⟩ := h.dy
 refine ⟨h.tb, h.mr, h.la, h.lb, h.bx, h.bel.trans (g1.below h.bel.size (fun i hi => by have := h.ge.2.1; have := h.bx; omega)), h.lo, nbk h.hb (by decide), ⟨v, vs, ⟨nbk h1.h (by decide), ok h1.row (by decide), fun i X hX => ?_, h1.bs, h1.sm⟩, h2⟩, ⟨u, us, ⟨nbk k1.h (by decide), ok k1.row (by decide), fun i X hX => ?_, k1.bs, k1.sm⟩, k2⟩, h.ok1, h.ok2, h.gs.trans g1 (fun i hi => .inr (by have := h.ge.2.1; omega)), nbk h.hcb (by decide), (gb.block _ (Array.getElem?_eq_some_iff.1 h.w7).1 (fun e => by have := Option.some.inj e; have := h.nt.1; omega)).trans h.w7, wk, (gb.block _ (Array.getElem?_eq_some_iff.1 h.w9).1 (fun e => by have := Option.some.inj e; have := h.nt.2.2.1; omega)).trans h.w9, nbk h.w10 (by decide), nbk h.w11 (by decide), nbk h.w12 (by decide), ok h.ra (by decide), ok h.rb (by decide), h.gg, h.nt, h.ge⟩
 ·obtain ⟨u, c1, c2⟩ := h1.ls i X hX
  exact ⟨u, c1, ok c2 (by decide)⟩
 ·obtain ⟨u, c1, c2⟩ := k1.ls i X hX
  exact ⟨u, c1, ok c2 (by decide)⟩
theorem Md.th8 (h : Md w0 m p x sa sb wh cb t7 t8 t9 t10 t11 t12 ga ca gb cc K1 Q1 K2 Q2 a0 a1 a2 a3 a4 a5 b0 b1 b2 b3 b4 b5 z) : z.there t8 0 2 := fun j hj => by
 have hc := cell_of_row z t8 (0 + j) _ _ (0, 0) h.w8
 refine ⟨?_, ?_⟩
 ·rw [hc]
  have : j = 0 ∨ j = 1 := by omega
  rcases this with rfl | rfl <;> rfl
 ·unfold World.frozen?
  rw [h.w8]
  simp
theorem Md.s9 (h : Md w0 m p x sa sb wh cb t7 t8 t9 t10 t11 t12 ga ca gb cc K1 Q1 K2 Q2 a0 a1 a2 a3 a4 a5 b0 b1 b2 b3 b4 b5 z) (c0 c1 : Int) : Md w0 m p x sa sb wh cb t7 t8 t9 t10 t11 t12 ga ca gb cc K1 Q1 K2 Q2 a0 a1 a2 a3 c0 c1 b0 b1 b2 b3 b4 b5 (z.setCells t9 0 [.int .i64 c0, .int .i64 c1]) := by
 have gb := gb_setCells t9 [.int .i64 c0, .int .i64 c1] 0 z
 have wk := heap_setCells_whole [.int .i64 c0, .int .i64 c1] 0 z _ h.w9 rfl
 have g1 : Gs (fun i => i = t9) z (z.setCells t9 0 [.int .i64 c0, .int .i64 c1]) := Gs.gb gb (fun b e => by rw [← Option.some.inj e])
 have nbk : ∀ {B : Nat} {arr : Array Value} {T : TypeId}, z.heap[B]? = some (.cells arr T (0, 0)) → 79 ≠ T → (z.setCells t9 0 [.int .i64 c0, .int .i64 c1]).heap[B]? = some (.cells arr T (0, 0)) := fun hB e1 => (g1.block _ (Array.getElem?_eq_some_iff.1 hB).1 (fun e => blk_ne h.w9 hB e1 e.symm)).trans hB
 have ok : ∀ {b n s : Nat} {e : TypeId} {u : Value} {xs : List Value}, z.ownsRow b e s u n xs → e ≠ 79 → (z.setCells t9 0 [.int .i64 c0, .int .i64 c1]).ownsRow b e s u n xs := fun ho e1 => g1.own ho (fun k hk e => by subst e; exact box_kd ho h.w9 e1 hk)
 obtain ⟨v, vs, h1, h2⟩ := h.sy
 obtain ⟨u, us, k1, k2⟩ := h.dy
 refine ⟨h.tb, h.mr, h.la, h.lb, h.bx, h.bel.trans (g1.below h.bel.size (fun i hi => by have := h.ge.2.2.1; have := h.bx; omega)), h.lo, nbk h.hb (by decide), ⟨v, vs, ⟨nbk h1.h (by decide), ok h1.row (by decide), fun i X hX => ?_, h1.bs, h1.sm⟩, h2⟩, ⟨u, us, ⟨nbk k1.h (by decide), ok k1.row (by decide), fun i X hX => ?_, k1.bs, k1.sm⟩, k2⟩, h.ok1, h.ok2, h.gs.trans g1 (fun i hi => .inr (by have := h.ge.2.2.1; omega)), nbk h.hcb (by decide), (gb.block _ (Array.getElem?_eq_some_iff.1 h.w7).1 (fun e => by have := Option.some.inj e; have := h.nt.2.1; omega)).trans h.w7, (gb.block _ (Array.getElem?_eq_some_iff.1 h.w8).1 (fun e => by have := Option.some.inj e; have := h.nt.2.2.1; omega)).trans h.w8, wk, nbk h.w10 (by decide), nbk h.w11 (by decide), nbk h.w12 (by decide), ok h.ra (by decide), ok h.rb (by decide), h.gg, h.nt, h.ge⟩
 ·obtain ⟨u, c1, c2⟩ := h1.ls i X hX
  exact ⟨u, c1, ok c2 (by decide)⟩
 ·obtain ⟨u, c1, c2⟩ := k1.ls i X hX
  exact ⟨u, c1, ok c2 (by decide)⟩
theorem Md.th9 (h : Md w0 m p x sa sb wh cb t7 t8 t9 t10 t11 t12 ga ca gb cc K1 Q1 K2 Q2 a0 a1 a2 a3 a4 a5 b0 b1 b2 b3 b4 b5 z) : z.there t9 0 2 := fun j hj => by
 have hc := cell_of_row z t9 (0 + j) _ _ (0, 0) h.w9
 refine ⟨?_, ?_⟩
 ·rw [hc]
  have : j = 0 ∨ j = 1 := by omega
  rcases this with rfl | rfl <;> rfl
 ·unfold World.frozen?
  rw [h.w9]
  simp
theorem Md.s10 (h : Md w0 m p x sa sb wh cb t7 t8 t9 t10 t11 t12 ga ca gb cc K1 Q1 K2 Q2 a0 a1 a2 a3 a4 a5 b0 b1 b2 b3 b4 b5 z) (c0 c1 : Int) : Md w0 m p x sa sb wh cb t7 t8 t9 t10 t11 t12 ga ca gb cc K1 Q1 K2 Q2 a0 a1 a2 a3 a4 a5 c0 c1 b2 b3 b4 b5 (z.setCells t10 0 [.int .i64 c0, .int .i64 c1]) := by
 have gb := gb_setCells t10 [.int .i64 c0, .int .i64 c1] 0 z
 have wk := heap_setCells_whole [.int .i64 c0, .int .i64 c1] 0 z _ h.w10 rfl
 have g1 : Gs (fun i => i = t10) z (z.setCells t10 0 [.int .i64 c0, .int .i64 c1]) := Gs.gb gb (fun b e => by rw [← Option.some.inj e])
 have nbk : ∀ {B : Nat} {arr : Array Value} {T : TypeId}, z.heap[B]? = some (.cells arr T (0, 0)) → 67 ≠ T → (z.setCells t10 0 [.int .i64 c0, .int .i64 c1]).heap[B]? = some (.cells arr T (0, 0)) := fun hB e1 => (g1.block _ (Array.getElem?_eq_some_iff.1 hB).1 (fun e => blk_ne h.w10 hB e1 e.symm)).trans hB
 have ok : ∀ {b n s : Nat} {e : TypeId} {u : Value} {xs : List Value}, z.ownsRow b e s u n xs → e ≠ 67 → (z.setCells t10 0 [.int .i64 c0, .int .i64 c1]).ownsRow b e s u n xs := fun ho e1 => g1.own ho (fun k hk e => by subst e; exact box_kd ho h.w10 e1 hk)
 obtain ⟨v, vs, h1, h2⟩ := h.sy
 obtain ⟨u, us, k1, k2⟩ := h.dy
 refine ⟨h.tb, h.mr, h.la, h.lb, h.bx, h.bel.trans (g1.below h.bel.size (fun i hi => by have := h.ge.2.2.2.1; have := h.bx; omega)), h.lo, nbk h.hb (by decide), ⟨v, vs, ⟨nbk h1.h (by decide), ok h1.row (by decide), fun i X hX => ?_, h1.bs, h1.sm⟩, h2⟩, ⟨u, us, ⟨nbk k1.h (by decide), ok k1.row (by decide), fun i X hX => ?_, k1.bs, k1.sm⟩, k2⟩, h.ok1, h.ok2, h.gs.trans g1 (fun i hi => .inr (by have := h.ge.2.2.2.1; omega)), nbk h.hcb (by decide), nbk h.w7 (by decide), nbk h.w8 (by decide), nbk h.w9 (by decide), wk, (gb.block _ (Array.getElem?_eq_some_iff.1 h.w11).1 (fun e => by have := Option.some.inj e; have := h.nt.2.2.2.1; omega)).trans h.w11, (gb.block _ (Array.getElem?_eq_some_iff.1 h.w12).1 (fun e => by have := Option.some.inj e; have := h.nt.2.2.2.2.1; omega)).trans h.w12, ok h.ra (by decide), ok h.rb (by decide), h.gg, h.nt, h.ge⟩
 ·obtain ⟨u, c1, c2⟩ := h1.ls i X hX
  exact ⟨u, c1, ok c2 (by decide)⟩
 ·obtain ⟨u, c1, c2⟩ := k1.ls i X hX
  exact ⟨u, c1, ok c2 (by decide)⟩
theorem Md.th10 (h : Md w0 m p x sa sb wh cb t7 t8 t9 t10 t11 t12 ga ca gb cc K1 Q1 K2 Q2 a0 a1 a2 a3 a4 a5 b0 b1 b2 b3 b4 b5 z) : z.there t10 0 2 := fun j hj => by
 have hc := cell_of_row z t10 (0 + j) _ _ (0, 0) h.w10
 refine ⟨?_, ?_⟩
 ·rw [hc]
  have : j = 0 ∨ j = 1 := by omega
  rcases this with rfl | rfl <;> rfl
 ·unfold World.frozen?
  rw [h.w10]
  simp
theorem Md.s11 (h : Md w0 m p x sa sb wh cb t7 t8 t9 t10 t11 t12 ga ca gb cc K1 Q1 K2 Q2 a0 a1 a2 a3 a4 a5 b0 b1 b2 b3 b4 b5 z) (c0 c1 : Int) : Md w0 m p x sa sb wh cb t7 t8 t9 t10 t11 t12 ga ca gb cc K1 Q1 K2 Q2 a0 a1 a2 a3 a4 a5 b0 b1 c0 c1 b4 b5 (z.setCells t11 0 [.int .i64 c0, .int .i64 c1]) := by
 have gb := gb_setCells t11 [.int .i64 c0, .int .i64 c1] 0 z
 have wk := heap_setCells_whole [.int .i64 c0, .int .i64 c1] 0 z _ h.w11 rfl
 have g1 : Gs (fun i => i = t11) z (z.setCells t11 0 [.int .i64 c0, .int .i64 c1]) := Gs.gb gb (fun b e => by rw [← Option.some.inj e])
 have nbk : ∀ {B : Nat} {arr : Array Value} {T : TypeId}, z.heap[B]? = some (.cells arr T (0, 0)) → 67 ≠ T → (z.setCells t11 0 [.int .i64 c0, .int .i64 c1]).heap[B]? = some (.cells arr T (0, 0)) := fun hB e1 => (g1.block _ (Array.getElem?_eq_some_iff.1 hB).1 (fun e => blk_ne h.w11 hB e1 e.symm)).trans hB
 have ok : ∀ {b n s : Nat} {e : TypeId} {u : Value} {xs : List Value}, z.ownsRow b e s u n xs → e ≠ 67 → (z.setCells t11 0 [.int .i64 c0, .int .i64 c1]).ownsRow b e s u n xs := fun ho e1 => g1.own ho (fun k hk e => by subst e; exact box_kd ho h.w11 e1 hk)
 obtain ⟨v, vs, h1, h2⟩ := h.sy
 obtain ⟨u, us, k1, k2⟩ := h.dy
 refine ⟨h.tb, h.mr, h.la, h.lb, h.bx, h.bel.trans (g1.below h.bel.size (fun i hi => by have := h.ge.2.2.2.2.1; have := h.bx; omega)), h.lo, nbk h.hb (by decide), ⟨v, vs, ⟨nbk h1.h (by decide), ok h1.row (by decide), fun i X hX => ?_, h1.bs, h1.sm⟩, h2⟩, ⟨u, us, ⟨nbk k1.h (by decide), ok k1.row (by decide), fun i X hX => ?_, k1.bs, k1.sm⟩, k2⟩, h.ok1, h.ok2, h.gs.trans g1 (fun i hi => .inr (by have := h.ge.2.2.2.2.1; omega)), nbk h.hcb (by decide), nbk h.w7 (by decide), nbk h.w8 (by decide), nbk h.w9 (by decide), (gb.block _ (Array.getElem?_eq_some_iff.1 h.w10).1 (fun e => by have := Option.some.inj e; have := h.nt.2.2.2.1; omega)).trans h.w10, wk, (gb.block _ (Array.getElem?_eq_some_iff.1 h.w12).1 (fun e => by have := Option.some.inj e; have := h.nt.2.2.2.2.2; omega)).trans h.w12, ok h.ra (by decide), ok h.rb (by decide), h.gg, h.nt, h.ge⟩
 ·obtain ⟨u, c1, c2⟩ := h1.ls i X hX
  exact ⟨u, c1, ok c2 (by decide)⟩
 ·obtain ⟨u, c1, c2⟩ := k1.ls i X hX
  exact ⟨u, c1, ok c2 (by decide)⟩
theorem Md.th11 (h : Md w0 m p x sa sb wh cb t7 t8 t9 t10 t11 t12 ga ca gb cc K1 Q1 K2 Q2 a0 a1 a2 a3 a4 a5 b0 b1 b2 b3 b4 b5 z) : z.there t11 0 2 := fun j hj => by
 have hc := cell_of_row z t11 (0 + j) _ _ (0, 0) h.w11
 refine ⟨?_, ?_⟩
 ·rw [hc]
  have : j = 0 ∨ j = 1 := by omega
  rcases this with rfl | rfl <;> rfl
 ·unfold World.frozen?
  rw [h.w11]
  simp
theorem Md.s12 (h : Md w0 m p x sa sb wh cb t7 t8 t9 t10 t11 t12 ga ca gb cc K1 Q1 K2 Q2 a0 a1 a2 a3 a4 a5 b0 b1 b2 b3 b4 b5 z) (c0 c1 : Int) : Md w0 m p x sa sb wh cb t7 t8 t9 t10 t11 t12 ga ca gb cc K1 Q1 K2 Q2 a0 a1 a2 a3 a4 a5 b0 b1 b2 b3 c0 c1 (z.setCells t12 0 [.int .i64 c0, .int .i64 c1]) := by
 have gb := gb_setCells t12 [.int .i64 c0, .int .i64 c1] 0 z
 have wk := heap_setCells_whole [.int .i64 c0, .int .i64 c1] 0 z _ h.w12 rfl
 have g1 : Gs (fun i => i = t12) z (z.setCells t12 0 [.int .i64 c0, .int .i64 c1]) := Gs.gb gb (fun b e => by rw [← Option.some.inj e])
 have nbk : ∀ {B : Nat} {arr : Array Value} {T : TypeId}, z.heap[B]? = some (.cells arr T (0, 0)) → 67 ≠ T → (z.setCells t12 0 [.int .i64 c0, .int .i64 c1]).heap[B]? = some (.cells arr T (0, 0)) := fun hB e1 => (g1.block _ (Array.getElem?_eq_some_iff.1 hB).1 (fun e => blk_ne h.w12 hB e1 e.symm)).trans hB
 have ok : ∀ {b n s : Nat} {e : TypeId} {u : Value} {xs : List Value}, z.ownsRow b e s u n xs → e ≠ 67 → (z.setCells t12 0 [.int .i64 c0, .int .i64 c1]).ownsRow b e s u n xs := fun ho e1 => g1.own ho (fun k hk e => by subst e; exact box_kd ho h.w12 e1 hk)
 obtain ⟨v, vs, h1, h2⟩ := h.sy
 obtain ⟨u, us, k1, k2⟩ := h.dy
 refine ⟨h.tb, h.mr, h.la, h.lb, h.bx, h.bel.trans (g1.below h.bel.size (fun i hi => by have := h.ge.2.2.2.2.2; have := h.bx; omega)), h.lo, nbk h.hb (by decide), ⟨v, vs, ⟨nbk h1.h (by decide), ok h1.row (by decide), fun i X hX => ?_, h1.bs, h1.sm⟩, h2⟩, ⟨u, us, ⟨nbk k1.h (by decide), ok k1.row (by decide), fun i X hX => ?_, k1.bs, k1.sm⟩, k2⟩, h.ok1, h.ok2, h.gs.trans g1 (fun i hi => .inr (by have := h.ge.2.2.2.2.2; omega)), nbk h.hcb (by decide), nbk h.w7 (by decide), nbk h.w8 (by decide), nbk h.w9 (by decide), (gb.block _ (Array.getElem?_eq_some_iff.1 h.w10).1 (fun e => by have := Option.some.inj e; have := h.nt.2.2.2.2.1; omega)).trans h.w10, (gb.block _ (Array.getElem?_eq_some_iff.1 h.w11).1 (fun e => by have := Option.some.inj e; have := h.nt.2.2.2.2.2; omega)).trans h.w11, wk, ok h.ra (by decide), ok h.rb (by decide), h.gg, h.nt, h.ge⟩
 ·obtain ⟨u, c1, c2⟩ := h1.ls i X hX
  exact ⟨u, c1, ok c2 (by decide)⟩
 ·obtain ⟨u, c1, c2⟩ := k1.ls i X hX
  exact ⟨u, c1, ok c2 (by decide)⟩
theorem Md.th12 (h : Md w0 m p x sa sb wh cb t7 t8 t9 t10 t11 t12 ga ca gb cc K1 Q1 K2 Q2 a0 a1 a2 a3 a4 a5 b0 b1 b2 b3 b4 b5 z) : z.there t12 0 2 := fun j hj => by
 have hc := cell_of_row z t12 (0 + j) _ _ (0, 0) h.w12
 refine ⟨?_, ?_⟩
 ·rw [hc]
  have : j = 0 ∨ j = 1 := by omega
  rcases this with rfl | rfl <;> rfl
 ·unfold World.frozen?
  rw [h.w12]
  simp
end
end Ci
end Go.Proofs.YtghcfcglakbkeaaGreatDoor
