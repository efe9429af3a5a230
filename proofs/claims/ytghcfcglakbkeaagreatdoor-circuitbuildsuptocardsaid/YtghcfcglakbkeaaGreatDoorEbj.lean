import Derived.Test.YtghcfcglakbkeaaGreatDoorEbi
namespace Go.Proofs.YtghcfcglakbkeaaGreatDoor
open Go.RowKit
set_option linter.unusedVariables false
set_option linter.unusedSimpArgs false
open Cm (Wr Tm co bf Ls lf ins Eqm)
namespace Ci
set_option maxRecDepth 100000
set_option maxHeartbeats 16000000
theorem wpList_stA {P : Program} {ops : Array Oper} {rest : List Oper} {op : Oper} {a : Act} {w : World} {Q : Exit → Act → World → Prop} (hgd : op.guard = none) (ty : TypeId) (x y : Operand) (ho : op.op = .store ty x y) (b o : Nat) (cs : List Value) (hx : a.eval x = .pointer (some ⟨b, o, none⟩)) (hy : a.eval y = .agg cs.toArray) (ht : w.there b o cs.length) (hi : (P.info? ty).map (·.size) = some cs.length) (h1 : cs.toArray.all (·.oneCell') = true) (hd : op.dst = none)
  (h : ∀ w', w' = w.setCells b o cs → wpList P ops Q rest a w') : wpList P ops Q (op :: rest) a w :=
 wpList_plain hgd fun K hK => wp_storeE ty x y ho b o cs hx hy ht hi h1 hd (fun w' hw => hK _ _ (h w' hw))
theorem gt_tup (K : Nat) : ∃ k0 k1 k2 k3 k4 k5 E : Int, gtV K = tup k0 k1 k2 k3 k4 k5 E := by
 unfold gtV
 split
 ·exact ⟨_, _, _, _, _, _, _, rfl⟩
 ·exact ⟨_, _, _, _, _, _, _, rfl⟩
theorem mu_tup (m K : Nat) (Q : List (List Tm)) (A B : List Tm) : ∃ k0 k1 k2 k3 k4 k5 E : Int, muV m K Q A B = tup k0 k1 k2 k3 k4 k5 E := by
 unfold muV
 split
 ·exact ⟨_, _, _, _, _, _, _, rfl⟩
 ·exact ⟨_, _, _, _, _, _, _, rfl⟩
theorem lt_ex {w : World} {g n : Nat} {f : Nat → Trm} (h : Lt w (some ⟨g, 0, none⟩) (n + 2) (ex n f)) : Lt w (some ⟨g, 0, none⟩) n f := by
 obtain ⟨sb, so, h1, h2⟩ := h
 have r := h2 (by omega)
 refine ⟨sb, so, fun _ => h1 (by omega), fun _ => ?_⟩
 exact ⟨fun k hk => by rw [r.c0 k (by omega), ex_lt f hk], fun k hk => by rw [r.c1 k (by omega), ex_lt f hk], fun k hk => by rw [r.c2 k (by omega), ex_lt f hk], fun k hk => by rw [r.c3 k (by omega), ex_lt f hk], fun k hk => by rw [r.c4 k (by omega), ex_lt f hk], fun k hk => by rw [r.c5 k (by omega), ex_lt f hk]⟩
theorem lt_rt {w : World} {g n : Nat} {f : Nat → Trm} (h : Lt w (some ⟨g, 0, none⟩) (n + 2) f) : Go.Proofs.YtghcfcglakbkeaaGreatDoor.Rt w g 0 (n + 2) f := by
 obtain ⟨sb, so, h1, h2⟩ := h
 have e := Option.some.inj (h1 (by omega))
 injection e with e1 e2
 subst e1 e2
 exact h2 (by omega)
section
variable {w0 x y z : World} {m : Nat} {p p2 : Pr} {sa sb : Lf} {wh : Int} {cb t7 t8 t9 t10 t11 t12 ga ca gb cc : Nat} {K1 K2 K : Nat} {Q1 Q2 Q : List (List Tm)} {a0 a1 a2 a3 a4 a5 b0 b1 b2 b3 b4 b5 : Int}
theorem Md.La (h : Md w0 m p x sa sb wh cb t7 t8 t9 t10 t11 t12 ga ca gb cc K1 Q1 K2 Q2 a0 a1 a2 a3 a4 a5 b0 b1 b2 b3 b4 b5 z) : Li z sa := h.la.keep h.bel
theorem Md.Lb (h : Md w0 m p x sa sb wh cb t7 t8 t9 t10 t11 t12 ga ca gb cc K1 Q1 K2 Q2 a0 a1 a2 a3 a4 a5 b0 b1 b2 b3 b4 b5 z) : Li z sb := h.lb.keep h.bel
theorem Md.fa (h : Md w0 m p x sa sb wh cb t7 t8 t9 t10 t11 t12 ga ca gb cc K1 Q1 K2 Q2 a0 a1 a2 a3 a4 a5 b0 b1 b2 b3 b4 b5 z) : Lt z (some ⟨ga, 0, none⟩) sa.n sa.f ∧ ∀ k, k < sa.n → (sa.f k).a.ok := ⟨lt_ex (own_lt h.ra), h.la.a.ok⟩
theorem Md.fb (h : Md w0 m p x sa sb wh cb t7 t8 t9 t10 t11 t12 ga ca gb cc K1 Q1 K2 Q2 a0 a1 a2 a3 a4 a5 b0 b1 b2 b3 b4 b5 z) : Lt z (some ⟨gb, 0, none⟩) sb.n sb.f ∧ ∀ k, k < sb.n → (sb.f k).a.ok := ⟨lt_ex (own_lt h.rb), h.lb.a.ok⟩
theorem mdGateP (h : Md w0 m p x sa sb wh cb t7 t8 t9 t10 t11 t12 ga ca gb cc K1 Q1 K2 Q2 a0 a1 a2 a3 a4 a5 b0 b1 b2 b3 b4 b5 z) : Calls Tryz.prog 23 #[.pointer (some ⟨p.s, 0, none⟩)] z fun e y => e = .returned (gtV K1) ∧ Md w0 m p x sa sb wh cb t7 t8 t9 t10 t11 t12 ga ca gb cc (gtK K1) Q1 K2 Q2 a0 a1 a2 a3 a4 a5 b0 b1 b2 b3 b4 b5 y := by
 obtain ⟨v, vs, h1, h2, h3⟩ := h.sy
 exact (pGateE h1).mono fun e y ⟨a, b⟩ => ⟨a, h.gp h1 h2 h3 (okY_gate h.ok1) b⟩
theorem mdGateR (h : Md w0 m p x sa sb wh cb t7 t8 t9 t10 t11 t12 ga ca gb cc K1 Q1 K2 Q2 a0 a1 a2 a3 a4 a5 b0 b1 b2 b3 b4 b5 z) : Calls Tryz.prog 16 #[.pointer (some ⟨p.r, 0, none⟩)] z fun e y => e = .returned (gtV K2) ∧ Md w0 m p x sa sb wh cb t7 t8 t9 t10 t11 t12 ga ca gb cc K1 Q1 (gtK K2) Q2 a0 a1 a2 a3 a4 a5 b0 b1 b2 b3 b4 b5 y := by
 obtain ⟨v, vs, h1, h2⟩ := h.dy
 exact (dGateE h1).mono fun e y ⟨a, b⟩ => ⟨a, h.gr h1 h2 (okY_gate h.ok2) b⟩
theorem mdReqP (h : Md w0 m p x sa sb wh cb t7 t8 t9 t10 t11 t12 ga ca gb cc K1 Q1 K2 Q2 a0 a1 a2 a3 a4 a5 b0 b1 b2 b3 b4 b5 z) : Calls Tryz.prog 27 #[.pointer (some ⟨p.s, 0, none⟩), .slice (some ⟨ga, 0, none⟩) sa.n ca] z fun e y => e = .returned (.int .i64 (rqE m K1 Q1 (lf Sm.L (glL sa.n sa.f)))) ∧ Md w0 m p x sa sb wh cb t7 t8 t9 t10 t11 t12 ga ca gb cc K1 (rqQ m K1 Q1 (lf Sm.L (glL sa.n sa.f))) K2 Q2 a0 a1 a2 a3 a4 a5 b0 b1 b2 b3 b4 b5 y := by
 obtain ⟨v, vs, h1, h2, h3⟩ := h.sy
 have hn := h.la.a.n
 exact (pReqE h1 (h.tb.keep h.bel) (some ⟨ga, 0, none⟩) sa.n ca sa.f (by omega) h.fa.2 h.fa.1).mono fun e y ⟨a, b⟩ => ⟨a, h.gp h1 h2 h3 (okY_rq h.ok1 (Cm.lf_ls L0 _) (by have := lf_lenC (glL sa.n sa.f); rw [glL_l] at this; omega)) b⟩
theorem mdReqR (h : Md w0 m p x sa sb wh cb t7 t8 t9 t10 t11 t12 ga ca gb cc K1 Q1 K2 Q2 a0 a1 a2 a3 a4 a5 b0 b1 b2 b3 b4 b5 z) {P : Option Addr} {c : Nat} (hL : z.ownsRow 0 116 6 (.slice P (glL sa.n sa.f).length c) (glL sa.n sa.f).length (tls (glL sa.n sa.f))) : Calls Tryz.prog 19 #[.pointer (some ⟨p.r, 0, none⟩), .slice P (glL sa.n sa.f).length c] z fun e y => e = .returned (.int .i64 (rqE m K2 Q2 (lf Sm.L (glL sa.n sa.f)))) ∧ Md w0 m p x sa sb wh cb t7 t8 t9 t10 t11 t12 ga ca gb cc K1 Q1 K2 (rqQ m K2 Q2 (lf Sm.L (glL sa.n sa.f))) a0 a1 a2 a3 a4 a5 b0 b1 b2 b3 b4 b5 y := by
 obtain ⟨v, vs, h1, h2⟩ := h.dy
 have hn := h.la.a.n
 have hl := glL_l sa.n sa.f
 exact (dReqE h1 P c _ (by omega) (own_lts hL)).mono fun e y ⟨a, b⟩ => ⟨a, h.gr h1 h2 (okY_rq h.ok2 (Cm.lf_ls L0 _) (by have := lf_lenC (glL sa.n sa.f); rw [glL_l] at this; omega)) b⟩
theorem mdMulP (h : Md w0 m p x sa sb wh cb t7 t8 t9 t10 t11 t12 ga ca gb cc K1 Q1 K2 Q2 a0 a1 a2 a3 a4 a5 b0 b1 b2 b3 b4 b5 z) : Calls Tryz.prog 24 #[.pointer (some ⟨p.s, 0, none⟩), .slice (some ⟨ga, 0, none⟩) sa.n ca, .slice (some ⟨gb, 0, none⟩) sb.n cc] z fun e y => e = .returned (muV m K1 Q1 (glL sa.n sa.f) (glL sb.n sb.f)) ∧ Md w0 m p x sa sb wh cb t7 t8 t9 t10 t11 t12 ga ca gb cc (muK m K1 Q1 (glL sa.n sa.f) (glL sb.n sb.f)) (muQ m K1 Q1 (glL sa.n sa.f) (glL sb.n sb.f)) K2 Q2 a0 a1 a2 a3 a4 a5 b0 b1 b2 b3 b4 b5 y := by
 obtain ⟨v, vs, h1, h2, h3⟩ := h.sy
 have hn := h.la.a.n
 have hn2 := h.lb.a.n
 exact (pMulE h1 (h.tb.keep h.bel) (some ⟨ga, 0, none⟩) (some ⟨gb, 0, none⟩) sa.n ca sb.n cc sa.f sb.f (by omega) (by omega) h.fa.2 h.fb.2 h.fa.1 h.fb.1).mono fun e y ⟨a, b⟩ => ⟨a, h.gp h1 h2 h3 (okY_mu h.ok1 (by omega) (by omega)) b⟩
theorem mdMulR (h : Md w0 m p x sa sb wh cb t7 t8 t9 t10 t11 t12 ga ca gb cc K1 Q1 K2 Q2 a0 a1 a2 a3 a4 a5 b0 b1 b2 b3 b4 b5 z) {P R : Option Addr} {c d : Nat} (hL : z.ownsRow 0 116 6 (.slice P (glL sa.n sa.f).length c) (glL sa.n sa.f).length (tls (glL sa.n sa.f))) (hR : z.ownsRow 0 116 6 (.slice R (glL sb.n sb.f).length d) (glL sb.n sb.f).length (tls (glL sb.n sb.f))) : Calls Tryz.prog 17 #[.pointer (some ⟨p.r, 0, none⟩), .slice P (glL sa.n sa.f).length c, .slice R (glL sb.n sb.f).length d] z fun e y => e = .returned (muV m K2 Q2 (glL sa.n sa.f) (glL sb.n sb.f)) ∧ Md w0 m p x sa sb wh cb t7 t8 t9 t10 t11 t12 ga ca gb cc K1 Q1 (muK m K2 Q2 (glL sa.n sa.f) (glL sb.n sb.f)) (muQ m K2 Q2 (glL sa.n sa.f) (glL sb.n sb.f)) a0 a1 a2 a3 a4 a5 b0 b1 b2 b3 b4 b5 y := by
 obtain ⟨v, vs, h1, h2⟩ := h.dy
 have hn := h.la.a.n
 have hn2 := h.lb.a.n
 have hl := glL_l sa.n sa.f
 have hl2 := glL_l sb.n sb.f
 exact (dMulE h1 P R c d _ _ (by omega) (by omega) hL hR).mono fun e y ⟨a, b⟩ => ⟨a, h.gr h1 h2 (okY_mu h.ok2 (by omega) (by omega)) b⟩
theorem mdStaysA (h : Md w0 m p x sa sb wh cb t7 t8 t9 t10 t11 t12 ga ca gb cc K1 Q1 K2 Q2 a0 a1 a2 a3 a4 a5 b0 b1 b2 b3 b4 b5 z) : Calls Tryz.prog 42 #[.slice (some ⟨ga, 0, none⟩) sa.n ca, .slice sa.p sa.n sa.c] z fun e y => e = .returned (.bool true) ∧ Below z.heap.size z y := by
 obtain ⟨g, c, cur, e1, _, _, e4, _⟩ := (show z.ownsRow _ _ _ _ _ _ from h.ra).2.resolve_left (fun e => by cases e.1)
 injection e1 with f1 f2 f3
 subst f3
 have hn := h.la.a.n
 exact stays_any ga ca sa.c sa.n sa.p sa.f z (by omega) e4 (h.mr.keep h.bel) (lt_rt (own_lt h.ra)) h.La.a.lt
theorem mdStaysB (h : Md w0 m p x sa sb wh cb t7 t8 t9 t10 t11 t12 ga ca gb cc K1 Q1 K2 Q2 a0 a1 a2 a3 a4 a5 b0 b1 b2 b3 b4 b5 z) : Calls Tryz.prog 42 #[.slice (some ⟨gb, 0, none⟩) sb.n cc, .slice sb.p sb.n sb.c] z fun e y => e = .returned (.bool true) ∧ Below z.heap.size z y := by
 obtain ⟨g, c, cur, e1, _, _, e4, _⟩ := (show z.ownsRow _ _ _ _ _ _ from h.rb).2.resolve_left (fun e => by cases e.1)
 injection e1 with f1 f2 f3
 subst f3
 have hn := h.lb.a.n
 exact stays_any gb cc sb.c sb.n sb.p sb.f z (by omega) e4 (h.mr.keep h.bel) (lt_rt (own_lt h.rb)) h.Lb.a.lt
end
theorem i6T : (Tryz.prog.info? 123).map (·.size) = some 6 := by kernel_rfl
theorem Pj.gb {w0 x y : World} {m G : Nat} {p : Pr} {arr : Array Value} (h : Pj w0 m p x) (g : x.grownBy y (some G)) (hG : x.heap[G]? = some (.cells arr 123 (0, 0))) (nr : ∀ u ∈ p.vs, ∀ k, u.ownBlock = some k → k ≠ G) : Pj w0 m p y := by
 have g1 : Gs (fun i => i = G) x y := Gs.gb g (fun b e => by rw [← Option.some.inj e])
 have nbk : ∀ {B : Nat} {arr : Array Value} {T : TypeId}, x.heap[B]? = some (.cells arr T (0, 0)) → 123 ≠ T → y.heap[B]? = some (.cells arr T (0, 0)) := fun hB e1 => (g1.block _ (Array.getElem?_eq_some_iff.1 hB).1 (fun e => blk_ne hG hB e1 e.symm)).trans hB
 have ok : ∀ {b n s : Nat} {e : TypeId} {u : Value} {xs : List Value}, x.ownsRow b e s u n xs → e ≠ 123 → y.ownsRow b e s u n xs := fun ho e1 => g1.own ho (fun k hk e => by subst e; exact box_kd ho hG e1 hk)
 refine ⟨nbk h.hb (by decide), ⟨nbk h.sy.h (by decide), ok h.sy.row (by decide), fun i X hX => ?_, h.sy.bs, h.sy.sm⟩, ⟨nbk h.dy.h (by decide), ok h.dy.row (by decide), fun i X hX => ?_, h.dy.bs, h.dy.sm⟩, h.ok, h.lo⟩
 ·obtain ⟨u, c1, c2⟩ := h.sy.ls i X hX
  exact ⟨u, c1, g1.own c2 (fun k hk e => nr u (List.mem_of_getElem? c1) k hk e)⟩
 ·obtain ⟨u, c1, c2⟩ := h.dy.ls i X hX
  exact ⟨u, c1, ok c2 (by decide)⟩
def Aft (w0 : World) (m : Nat) (p : Pr) (x y : World) : Prop := ∃ p2 : Pr, p2.b = p.b ∧ p2.s = p.s ∧ p2.r = p.r ∧ Pj w0 m p2 y ∧ Gs p.S x y ∧ (∀ k, p2.v.ownBlock = some k → p.v.ownBlock = some k ∨ x.heap.size ≤ k) ∧ ∀ k, p2.u.ownBlock = some k → p.u.ownBlock = some k ∨ x.heap.size ≤ k
def StP (w0 : World) (m : Nat) (p : Pr) (x : World) (e : Ending) (y : World) : Prop := e = .returned (.bool true) ∧ Aft w0 m p x y
structure Fn (w0 : World) (m : Nat) (p p2 : Pr) (x : World) (ga gb na nb : Nat) (z : World) : Prop where
 e : p2.b = p.b ∧ p2.s = p.s ∧ p2.r = p.r
 pj : Pj w0 m p2 z
 fv : ∀ k, p2.v.ownBlock = some k → p.v.ownBlock = some k ∨ x.heap.size ≤ k
 fu : ∀ k, p2.u.ownBlock = some k → p.u.ownBlock = some k ∨ x.heap.size ≤ k
 nr : ∀ u ∈ p2.vs, ∀ k, u.ownBlock = some k → k ≠ ga ∧ k ≠ gb
 gs : Gs p.S x z
 mr : Mk w0
 bel : Below w0.heap.size w0 z
 ba : ∃ arr, z.heap[ga]? = some (.cells arr 123 (0, 0)) ∧ na * 6 ≤ arr.size
 bb : ∃ arr, z.heap[gb]? = some (.cells arr 123 (0, 0)) ∧ nb * 6 ≤ arr.size
 ge : x.heap.size ≤ ga ∧ x.heap.size ≤ gb
 bx : w0.heap.size ≤ x.heap.size
theorem hs_size {b : Nat} {t : TypeId} : ∀ (ds : List Value) (o : Nat) (w : World) (C : Array Value), w.heap[b]? = some (.cells C t (0, 0)) → ∃ C', (w.setCells b o ds).heap[b]? = some (.cells C' t (0, 0)) ∧ C'.size = C.size
 | [], o, w, C, h => ⟨C, h, rfl⟩
 | d :: ds, o, w, C, h => by
  rw [World.setCells]
  obtain ⟨C', h1, h2⟩ := hs_size ds (o + 1) _ _ (heap_setCell_same w b o C t d h)
  exact ⟨C', h1, by rw [h2]; simp⟩
theorem th_arr {z : World} {G n k o : Nat} {T : TypeId} (h : ∃ arr, z.heap[G]? = some (.cells arr T (0, 0)) ∧ n ≤ arr.size) (hk : o + k ≤ n) : z.there G o k := fun j hj => by
 obtain ⟨arr, h1, h2⟩ := h
 have hc := cell_of_row z G (o + j) _ _ (0, 0) h1
 refine ⟨by rw [hc, Array.getElem?_eq_getElem (by omega)]; rfl, ?_⟩
 unfold World.frozen?
 rw [h1]
 simp
theorem arr_set {z : World} {G H n : Nat} {T : TypeId} (cs : List Value) (o : Nat) (h : ∃ arr, z.heap[H]? = some (.cells arr T (0, 0)) ∧ n ≤ arr.size) : ∃ arr, (z.setCells G o cs).heap[H]? = some (.cells arr T (0, 0)) ∧ n ≤ arr.size := by
 obtain ⟨arr, h1, h2⟩ := h
 by_cases e : H = G
 ·subst e
  obtain ⟨C', k1, k2⟩ := hs_size cs o z arr h1
  exact ⟨C', k1, by omega⟩
 ·exact ⟨arr, ((gb_setCells G cs o z).block H (Array.getElem?_eq_some_iff.1 h1).1 (fun e' => e (Option.some.inj e'))).trans h1, h2⟩
section
variable {w0 x z : World} {m ga gb na nb : Nat} {p p2 : Pr}
theorem Fn.put (h : Fn w0 m p p2 x ga gb na nb z) (G : Nat) (hG : G = ga ∨ G = gb) (o : Nat) (cs : List Value) : Fn w0 m p p2 x ga gb na nb (z.setCells G o cs) := by
 have gb' := gb_setCells G cs o z
 have hx : x.heap.size ≤ G := by rcases hG with e | e <;> (rw [e]; first | exact h.ge.1 | exact h.ge.2)
 have g1 : Gs (fun i => i = G) z (z.setCells G o cs) := Gs.gb gb' (fun b e => by rw [← Option.some.inj e])
 obtain ⟨arr, hb⟩ : ∃ arr, z.heap[G]? = some (.cells arr 123 (0, 0)) := by
  rcases hG with e | e
  ·obtain ⟨arr, a, _⟩ := h.ba; exact ⟨arr, by rw [e]; exact a⟩
  ·obtain ⟨arr, a, _⟩ := h.bb; exact ⟨arr, by rw [e]; exact a⟩
 exact ⟨h.e, h.pj.gb gb' hb (fun u hu k hk => by rcases hG with e | e <;> (rw [e]; first | exact (h.nr u hu k hk).1 | exact (h.nr u hu k hk).2)), h.fv, h.fu, h.nr, h.gs.trans g1 (fun i hi => .inr (by omega)), h.mr, h.bel.trans (g1.below h.bel.size (fun i hi => by have := h.bx; omega)), arr_set cs o h.ba, arr_set cs o h.bb, h.ge, h.bx⟩
theorem Fn.aft (h : Fn w0 m p p2 x ga gb na nb z) : Aft w0 m p x z := ⟨p2, h.e.1, h.e.2.1, h.e.2.2, h.pj, h.gs, h.fv, h.fu⟩
theorem own_arr {z : World} {b G n c : Nat} {xs : List Value} (h : z.ownsRow b 123 6 (.slice (some ⟨G, 0, none⟩) n c) n xs) : ∃ arr, z.heap[G]? = some (.cells arr 123 (0, 0)) ∧ n * 6 ≤ arr.size := by
 rcases h.2 with ⟨e, _⟩ | ⟨g, c', cur, e, _, e3, e4, e5, _⟩
 ·cases e
 ·injection e with f1 f2 f3
  have f1 := Option.some.inj f1
  injection f1 with f1
  subst f1
  refine ⟨cur, e3, ?_⟩
  first | omega | exact Nat.le_trans (Nat.mul_le_mul_right 6 e4) (by omega)
end
section
variable {w0 x y z : World} {m : Nat} {p p2 : Pr} {sa sb : Lf} {wh : Int} {cb t7 t8 t9 t10 t11 t12 ga ca gb cc : Nat} {K1 K2 K : Nat} {Q1 Q2 Q : List (List Tm)} {a0 a1 a2 a3 a4 a5 b0 b1 b2 b3 b4 b5 : Int}
theorem Md.fn (h : Md w0 m p x sa sb wh cb t7 t8 t9 t10 t11 t12 ga ca gb cc K Q K Q a0 a1 a2 a3 a4 a5 b0 b1 b2 b3 b4 b5 z) : ∃ p2, Fn w0 m p p2 x ga gb sa.n sb.n z := by
 obtain ⟨v, vs, h1, h2, h3⟩ := h.sy
 obtain ⟨u, us, k1, k2⟩ := h.dy
 have ra := own_arr h.ra
 have rb := own_arr h.rb
 refine ⟨⟨p.b, p.s, p.r, K, Q, v, vs, u, us⟩, ⟨rfl, rfl, rfl⟩, ⟨h.hb, h1, k1, h.ok1, fun i hi => ?_⟩, h2, k2, h3, h.gs, h.mr, h.bel, ?_, ?_, ⟨(h.ra.lt ga rfl).1, (h.rb.lt gb rfl).1⟩, h.bx⟩
 ·have hx := h.bx
  rcases hi with e | e | e | e
  ·exact (h.lo i (.inl e)).1
  ·exact (h.lo i (.inr (.inl e))).1
  ·rcases h2 i e with e | e
   ·exact (h.lo i (.inr (.inr (.inl e)))).1
   ·omega
  ·rcases k2 i e with e | e
   ·exact (h.lo i (.inr (.inr (.inr e)))).1
   ·omega
 ·obtain ⟨arr, a, b⟩ := ra; exact ⟨arr, a, by omega⟩
 ·obtain ⟨arr, a, b⟩ := rb; exact ⟨arr, a, by omega⟩
end
end Ci
end Go.Proofs.YtghcfcglakbkeaaGreatDoor
