import Derived.Test.YtkoilaoogphgfaaGreatDoorTk
import Derived.Test.YtkoilaoogphgfaaGreatDoorArd
namespace Go.Proofs.YtkoilaoogphgfaaGreatDoor
open Go.RowKit
set_option linter.unusedVariables false
set_option linter.unusedSimpArgs false
open Cm (Wr Tm co bf lf ins Eqm)
namespace Ci
set_option maxRecDepth 100000
set_option maxHeartbeats 4000000
theorem Fz.ofG {s : Nat} {v : Value} {w w' : World} (h : w.grownBy w' (some s)) : Fz s v w w' := ⟨h.os, h.tape, h.output, h.size, fun i hi h1 _ => h.block i hi (fun e => h1 (Option.some.inj e))⟩
theorem own_blk {w : World} {base sz : Nat} {e : TypeId} {u : Value} {n : Nat} {xs : List Value} {k : Nat} (h : w.ownsRow base e sz u n xs) (hk : u.ownBlock = some k) : ∃ cur, w.heap[k]? = some (.cells cur e (0, 0)) := by
 rcases h.2 with ⟨h1, _⟩ | ⟨g, c, cur, h1, _, h3, _⟩
 ·rw [h1] at hk; cases hk
 ·rw [h1] at hk
  simp only [Value.ownBlock, Option.some.injEq] at hk
  subst hk
  exact ⟨cur, h3⟩
theorem own_fz {w w' : World} {s : Nat} {v : Value} {arr : Array Value} {ts tr : TypeId} {base n0 sz0 : Nat} {vs : List Value} (hf : Fz s v w w') (hs : w.heap[s]? = some (.cells arr ts (0, 0))) (hr : w.ownsRow base tr sz0 v n0 vs)
  {b1 sz : Nat} {e : TypeId} {u : Value} {n : Nat} {xs : List Value} (h : w.ownsRow b1 e sz u n xs) (h1 : e ≠ ts) (h2 : e ≠ tr) : w'.ownsRow b1 e sz u n xs := ⟨h.1, by
 rcases h.2 with h0 | ⟨g, c, cur, e1, e2, e3, e4⟩
 ·exact .inl h0
 ·refine .inr ⟨g, c, cur, e1, e2, (hf.block g (Array.getElem?_eq_some_iff.1 e3).1 (fun e' => ?_) (fun e' => ?_)).trans e3, e4⟩
  ·subst e'
   rw [hs] at e3
   simp only [Option.some.injEq, Obj.cells.injEq] at e3
   exact h1 e3.2.1.symm
  ·obtain ⟨cur', e5⟩ := own_blk hr e'
   rw [e5] at e3
   simp only [Option.some.injEq, Obj.cells.injEq] at e3
   exact h2 e3.2.1.symm⟩
theorem blk_fz {w w' : World} {s : Nat} {v : Value} {arr : Array Value} {ts tr : TypeId} {base n0 sz0 : Nat} {vs : List Value} (hf : Fz s v w w') (hs : w.heap[s]? = some (.cells arr ts (0, 0))) (hr : w.ownsRow base tr sz0 v n0 vs)
  {k : Nat} {cur : Array Value} {e : TypeId} (h : w.heap[k]? = some (.cells cur e (0, 0))) (h1 : e ≠ ts) (h2 : e ≠ tr) : w'.heap[k]? = some (.cells cur e (0, 0)) :=
 (hf.block k (Array.getElem?_eq_some_iff.1 h).1 (fun e' => by
  subst e'
  rw [hs] at h
  simp only [Option.some.injEq, Obj.cells.injEq] at h
  exact h1 h.2.1.symm) (fun e' => by
  obtain ⟨cur', e5⟩ := own_blk hr e'
  rw [e5] at h
  simp only [Option.some.injEq, Obj.cells.injEq] at h
  exact h2 h.2.1.symm)).trans h
theorem Dy.fz2 {base : Nat} {w : World} {s m Kg : Nat} {v : Value} {vs : List Value} {Q : List (List Tm)} {base' : Nat} {s' m' Kg' : Nat} {v' : Value} {vs' : List Value} {Q' : List (List Tm)} {w' : World} (h : Dy base w s m Kg v vs Q) (k : Sy base' w s' m' Kg' v' vs' Q') (hf : Fz s' v' w w') : Dy base w' s m Kg v vs Q :=
 ⟨blk_fz hf k.h k.row h.h (by decide) (by decide), own_fz hf k.h k.row h.row (by decide) (by decide), fun i X hX => by obtain ⟨u, h1, h2⟩ := h.ls i X hX; exact ⟨u, h1, own_fz hf k.h k.row h2 (by decide) (by decide)⟩, h.bs, h.sm⟩
theorem Sy.fz2 {base : Nat} {w : World} {s m Kg : Nat} {v : Value} {vs : List Value} {Q : List (List Tm)} {base' : Nat} {s' m' Kg' : Nat} {v' : Value} {vs' : List Value} {Q' : List (List Tm)} {w' : World} (h : Sy base w s m Kg v vs Q) (k : Dy base' w s' m' Kg' v' vs' Q') (hf : Fz s' v' w w') : Sy base w' s m Kg v vs Q :=
 ⟨blk_fz hf k.h k.row h.h (by decide) (by decide), own_fz hf k.h k.row h.row (by decide) (by decide), fun i X hX => by obtain ⟨u, h1, h2⟩ := h.ls i X hX; exact ⟨u, h1, own_fz hf k.h k.row h2 (by decide) (by decide)⟩, h.bs, h.sm⟩
def Ok2 (ts tr : TypeId) (x x' : World) : Prop := ∀ (k : Nat) (cur : Array Value) (e : TypeId), x.heap[k]? = some (.cells cur e (0, 0)) → e ≠ ts → e ≠ tr → x'.heap[k]? = some (.cells cur e (0, 0))
theorem Ok2.of {s : Nat} {v : Value} {w w' : World} {arr : Array Value} {ts tr : TypeId} {base n0 sz0 : Nat} {vs : List Value} (hf : Fz s v w w') (hs : w.heap[s]? = some (.cells arr ts (0, 0))) (hr : w.ownsRow base tr sz0 v n0 vs) : Ok2 ts tr w w' := fun k cur e h h1 h2 => blk_fz hf hs hr h h1 h2
theorem Ok2.bel {ts tr : TypeId} {w w' : World} (h : Below w.heap.size w w') : Ok2 ts tr w w' := fun k cur e hk _ _ => (h.block k (Array.getElem?_eq_some_iff.1 hk).1).trans hk
theorem Ok2.own {ts tr : TypeId} {w w' : World} (h : Ok2 ts tr w w') {b1 sz : Nat} {e : TypeId} {u : Value} {n : Nat} {xs : List Value} (ho : w.ownsRow b1 e sz u n xs) (h1 : e ≠ ts) (h2 : e ≠ tr) : w'.ownsRow b1 e sz u n xs := ⟨ho.1, by
 rcases ho.2 with h0 | ⟨g, c, cur, e1, e2, e3, e4⟩
 ·exact .inl h0
 ·exact .inr ⟨g, c, cur, e1, e2, h g cur e e3 h1 h2, e4⟩⟩
structure PD (w : World) (t r m K1 K2 : Nat) (Q1 Q2 : List (List Tm)) (x : World) : Prop where
 p : ∃ base v vs, Sy base x t m K1 v vs Q1 ∧ w.heap.size ≤ base
 d : ∃ base v vs, Dy base x r m K2 v vs Q2 ∧ w.heap.size ≤ base
 bl : Below w.heap.size w x
 q1 : Q1.length ≤ 4096
 q2 : Q2.length ≤ 4096
 k1 : K1 ≤ 1024
 k2 : K2 ≤ 1024
section
variable {w : World} {t r m K1 K2 : Nat} {Q1 Q2 : List (List Tm)} {x y : World}
theorem PD.keep (h : PD w t r m K1 K2 Q1 Q2 x) (k : Below x.heap.size x y) : PD w t r m K1 K2 Q1 Q2 y := by
 obtain ⟨⟨b1, v1, s1, p1, l1⟩, ⟨b2, v2, s2, p2, l2⟩, bl, q1, q2, k1, k2⟩ := h
 exact ⟨⟨b1, v1, s1, p1.keep k, l1⟩, ⟨b2, v2, s2, p2.keep k, l2⟩, bl.trans (k.mono bl.size), q1, q2, k1, k2⟩
def nx (K : Nat) : Nat := if K < 1024 then K + 1 else K
theorem fzb {base : Nat} {s : Nat} {v : Value} {tr : TypeId} {n sz : Nat} {vs : List Value} (bl : Below w.heap.size w x) (hb : w.heap.size ≤ base) (hs : base ≤ s) (hr : x.ownsRow base tr sz v n vs) (hf : Fz s v x y) : Below w.heap.size w y :=
 bl.trans (hf.below bl.size (Nat.le_trans hb hs) (fun k hk => Nat.le_trans hb (hr.lt k hk).1))
theorem PD.pGate (h : PD w t r m K1 K2 Q1 Q2 x) : Calls Tryz.prog 13 #[.pointer (some ⟨t, 0, none⟩)] x fun e x' => e = .returned (if K1 < 1024 then tup 2 K1 3 K1 4 K1 0 else tup 0 0 0 0 0 0 201) ∧ PD w t r m (nx K1) K2 Q1 Q2 x' ∧ Ok2 42 68 x x' := by
 have h0 := h
 obtain ⟨⟨b1, v1, s1, p1, l1⟩, ⟨b2, v2, s2, p2, l2⟩, bl, q1, q2, k1, k2⟩ := h
 unfold nx
 by_cases hK : K1 < 1024
 ·rw [if_pos hK, if_pos hK]
  exact (Gate_ok p1 hK).mono fun e x' ⟨he, h1, h2⟩ => ⟨he, ⟨⟨b1, v1, s1, h1, l1⟩, ⟨b2, v2, s2, p2.fz2 p1 (Fz.ofG h2), l2⟩, fzb bl l1 p1.bs p1.row (Fz.ofG h2), q1, q2, hK, k2⟩, Ok2.of (Fz.ofG h2) p1.h p1.row⟩
 ·rw [if_neg hK, if_neg hK]
  exact (Gate_full p1 (by omega)).mono fun e x' ⟨he, hw⟩ => ⟨he, h0.keep hw, Ok2.bel hw⟩
theorem PD.dGate (h : PD w t r m K1 K2 Q1 Q2 x) : Calls Tryz.prog 14 #[.pointer (some ⟨r, 0, none⟩)] x fun e x' => e = .returned (if K2 < 1024 then tup 2 K2 3 K2 4 K2 0 else tup 0 0 0 0 0 0 201) ∧ PD w t r m K1 (nx K2) Q1 Q2 x' ∧ Ok2 91 70 x x' := by
 have h0 := h
 obtain ⟨⟨b1, v1, s1, p1, l1⟩, ⟨b2, v2, s2, p2, l2⟩, bl, q1, q2, k1, k2⟩ := h
 unfold nx
 by_cases hK : K2 < 1024
 ·rw [if_pos hK, if_pos hK]
  exact (dGate_ok p2 hK).mono fun e x' ⟨he, h1, h2⟩ => ⟨he, ⟨⟨b1, v1, s1, p1.fz2 p2 (Fz.ofG h2), l1⟩, ⟨b2, v2, s2, h1, l2⟩, fzb bl l2 p2.bs p2.row (Fz.ofG h2), q1, q2, k1, hK⟩, Ok2.of (Fz.ofG h2) p2.h p2.row⟩
 ·rw [if_neg hK, if_neg hK]
  exact (dGate_full p2 (by omega)).mono fun e x' ⟨he, hw⟩ => ⟨he, h0.keep hw, Ok2.bel hw⟩
def rqE (m K : Nat) (Q : List (List Tm)) (X : List Tm) : Int := if nm m K X.length (ft X) = true then (if Q.length < 4096 then 0 else 201) else 200
def rqQ (m K : Nat) (Q : List (List Tm)) (X : List Tm) : List (List Tm) := if nm m K X.length (ft X) = true ∧ Q.length < 4096 then Q ++ [X] else Q
theorem PD.pRequire (h : PD w t r m K1 K2 Q1 Q2 x) (hT : Tb w) (P : Option Addr) (n c : Nat) (f : Nat → Trm) (hn : n ≤ 2932031007402) (hf : ∀ k, k < n → (f k).a.ok) (hL : Lt x P n f) : Calls Tryz.prog 16 #[.pointer (some ⟨t, 0, none⟩), .slice P n c] x fun e x' => e = .returned (.int .i64 (rqE m K1 Q1 (lf Sm.L (glL n f)))) ∧ PD w t r m K1 K2 (rqQ m K1 Q1 (lf Sm.L (glL n f))) Q2 x' ∧ Ok2 42 68 x x' := by
 have h0 := h
 obtain ⟨⟨b1, v1, s1, p1, l1⟩, ⟨b2, v2, s2, p2, l2⟩, bl, q1, q2, k1, k2⟩ := h
 unfold rqE rqQ
 cases hw : nm m K1 (lf Sm.L (glL n f)).length (ft (lf Sm.L (glL n f))) with
 | false =>
  rw [if_neg (by simp), if_neg (by simp)]
  exact (Require_wire p1 (hT.keep bl) P n c f hn hf hL hw).mono fun e x' ⟨he, hb⟩ => ⟨he, h0.keep hb, Ok2.bel hb⟩
 | true =>
  rw [if_pos rfl]
  by_cases hq : Q1.length < 4096
  ·rw [if_pos hq, if_pos ⟨rfl, hq⟩]
   exact (Require_ok p1 (hT.keep bl) P n c f hn hf hL hw hq).mono fun e x' ⟨he, v', u, h1, h2, _⟩ => ⟨he, ⟨⟨b1, v', _, h1, l1⟩, ⟨b2, v2, s2, p2.fz2 p1 h2, l2⟩, fzb bl l1 p1.bs p1.row h2, by rw [List.length_append]; simp; omega, q2, k1, k2⟩, Ok2.of h2 p1.h p1.row⟩
  ·rw [if_neg hq, if_neg (fun e => hq e.2)]
   exact (Require_full p1 (hT.keep bl) P n c f hn hf hL hw (by omega)).mono fun e x' ⟨he, hb⟩ => ⟨he, h0.keep hb, Ok2.bel hb⟩
theorem PD.dRequire (h : PD w t r m K1 K2 Q1 Q2 x) (P : Option Addr) (c : Nat) (Y : List Tm) (hn : Y.length ≤ 2932031007400) (hL : Lt x P Y.length (ft Y)) : Calls Tryz.prog 17 #[.pointer (some ⟨r, 0, none⟩), .slice P Y.length c] x fun e x' => e = .returned (.int .i64 (rqE m K2 Q2 (lf Sm.L Y))) ∧ PD w t r m K1 K2 Q1 (rqQ m K2 Q2 (lf Sm.L Y)) x' ∧ Ok2 91 70 x x' := by
 have h0 := h
 obtain ⟨⟨b1, v1, s1, p1, l1⟩, ⟨b2, v2, s2, p2, l2⟩, bl, q1, q2, k1, k2⟩ := h
 unfold rqE rqQ
 cases hw : nm m K2 (lf Sm.L Y).length (ft (lf Sm.L Y)) with
 | false =>
  rw [if_neg (by simp), if_neg (by simp)]
  exact (dRequire_wire p2 P c Y hn hL hw).mono fun e x' ⟨he, hb⟩ => ⟨he, h0.keep hb, Ok2.bel hb⟩
 | true =>
  rw [if_pos rfl]
  by_cases hq : Q2.length < 4096
  ·rw [if_pos hq, if_pos ⟨rfl, hq⟩]
   exact (dRequire_ok p2 P c Y hn hL hw hq).mono fun e x' ⟨he, v', u, h1, h2, _⟩ => ⟨he, ⟨⟨b1, v1, s1, p1.fz2 p2 h2, l1⟩, ⟨b2, v', _, h1, l2⟩, fzb bl l2 p2.bs p2.row h2, q1, by rw [List.length_append]; simp; omega, k1, k2⟩, Ok2.of h2 p2.h p2.row⟩
  ·rw [if_neg hq, if_neg (fun e => hq e.2)]
   exact (dRequire_full p2 P c Y hn hL hw (by omega)).mono fun e x' ⟨he, hb⟩ => ⟨he, h0.keep hb, Ok2.bel hb⟩
end
theorem pd_new {w x y z : World} {m : Nat} (hm : m ≤ 16) (bl : Below w.heap.size w x) (h1 : Nu x x.heap.size m m y) (h2 : NuD y y.heap.size m m z) : PD w x.heap.size y.heap.size m m m (enl m) (enl m) z := by
 obtain ⟨P1, c1, s1, p1, b1⟩ := h1
 obtain ⟨P2, c2, s2, p2, b2⟩ := h2
 have e := enl_len m
 exact ⟨⟨_, _, _, p1.keep b2, bl.size⟩, ⟨_, _, _, p2, Nat.le_trans bl.size b1.size⟩, bl.trans ((b1.mono bl.size).trans (b2.mono (Nat.le_trans bl.size b1.size))), by omega, by omega, by omega, by omega⟩
theorem buildR6 (qk qi : Int) (r : E4) (w : World) : (Instr.buildSlice 70 1 #[(0, .agg #[.int .i64 qk, .int .i64 qi, .int .u64 r.x0, .int .u64 r.x1, .int .u64 r.x2, .int .u64 r.x3])]).run Tryz.prog w = .ok (.slice (some ⟨w.heap.size, 0, none⟩) 1 1) (w.alloc (.cells #[.int .i64 qk, .int .i64 qi, .int .u64 r.x0, .int .u64 r.x1, .int .u64 r.x2, .int .u64 r.x3] 77)) := by kernel_rfl
theorem wp_buildR6 {w : World} {o : Oper} {a : Act} {K : Act → World → Prop} {Q : Exit → Act → World → Prop} (x0 : Operand) (ho : o.op = .buildSlice 70 1 #[(0, x0)]) (qk qi : Int) (r : E4) (h0 : a.eval x0 = .agg #[.int .i64 qk, .int .i64 qi, .int .u64 r.x0, .int .u64 r.x1, .int .u64 r.x2, .int .u64 r.x3]) (h : ∀ (tb : Nat) (wq : World), tb = w.heap.size → wq = w.alloc (.cells #[.int .i64 qk, .int .i64 qi, .int .u64 r.x0, .int .u64 r.x1, .int .u64 r.x2, .int .u64 r.x3] 77) → K (a.put o.dst (.slice (some ⟨tb, 0, none⟩) 1 1)) wq) : o.wp Tryz.prog a w K Q := by
 have hr := buildR6 qk qi r w
 unfold Oper.wp execOp
 simp only [ho, Sem.run_bind, Sem.run_pure, Result.andThen_ok, List.map_toArray, List.map_cons, List.map_nil, h0, hr]
 exact h _ _ rfl rfl
theorem glL_len (n : Nat) (f : Nat → Trm) : (glL n f).length = n := by simp [glL]
def b20o_0 : Oper := { dst := some 78, op := Op.move (Operand.tmp 10), type := 70, pos := "law.go:82", after := #[], guard := none }
def b20o_1 : Oper := { dst := some 79, op := Op.fieldAddr 72 (Operand.tmp 12) 0, type := 0, pos := "law.go:82", after := #[], guard := none }
def b20o_2 : Oper := { dst := some 80, op := Op.load 3 (Operand.tmp 79), type := 3, pos := "law.go:82", after := #[{ on := 1, ground := Ground.data }], guard := none }
def b20o_3 : Oper := { dst := some 81, op := Op.fieldAddr 72 (Operand.tmp 12) 1, type := 0, pos := "law.go:82", after := #[], guard := none }
def b20o_4 : Oper := { dst := some 82, op := Op.load 3 (Operand.tmp 81), type := 3, pos := "law.go:82", after := #[{ on := 3, ground := Ground.data }], guard := none }
def b20o_5 : Oper := { dst := some 83, op := Op.build 64 #[(0, Operand.tmp 80), (1, Operand.tmp 82)], type := 64, pos := "law.go:82", after := #[{ on := 2, ground := Ground.data }, { on := 4, ground := Ground.data }], guard := none }
def b20o_6 : Oper := { dst := some 84, op := Op.fieldAddr 72 (Operand.tmp 12) 2, type := 0, pos := "law.go:82", after := #[], guard := none }
def b20o_7 : Oper := { dst := some 85, op := Op.load 32 (Operand.tmp 84), type := 32, pos := "law.go:82", after := #[{ on := 6, ground := Ground.data }], guard := none }
def b20o_8 : Oper := { dst := some 86, op := Op.call { callee := Callee.value (Operand.func 15), args := #[Operand.tmp 85], argTypes := #[32] }, type := 43, pos := "law.go:82", after := #[{ on := 7, ground := Ground.data }], guard := none }
def b20o_9 : Oper := { dst := some 87, op := Op.build 77 #[(0, Operand.tmp 83), (1, Operand.tmp 86)], type := 77, pos := "law.go:82", after := #[{ on := 5, ground := Ground.data }, { on := 8, ground := Ground.data }], guard := none }
def b20o_10 : Oper := { dst := some 88, op := Op.buildSlice 70 1 #[(0, Operand.tmp 87)], type := 70, pos := "law.go:82", after := #[{ on := 9, ground := Ground.data }], guard := none }
def b20o_11 : Oper := { dst := some 89, op := Op.call { callee := Callee.builtin Builtin.append, args := #[Operand.tmp 78, Operand.tmp 88], argTypes := #[70, 70] }, type := 70, pos := "law.go:82", after := #[{ on := 0, ground := Ground.data }, { on := 10, ground := Ground.data }, { on := 8, ground := Ground.chain }], guard := none }
def b20o_12 : Oper := { dst := some 10, op := Op.assign (Operand.tmp 89), type := 70, pos := "law.go:82", after := #[{ on := 11, ground := Ground.data }, { on := 11, ground := Ground.chain }, { on := 0, ground := Ground.phase }, { on := 1, ground := Ground.phase }, { on := 2, ground := Ground.phase }, { on := 3, ground := Ground.phase }, { on := 4, ground := Ground.phase }, { on := 5, ground := Ground.phase }, { on := 6, ground := Ground.phase }, { on := 7, ground := Ground.phase }, { on := 8, ground := Ground.phase }, { on := 9, ground := Ground.phase }, { on := 10, ground := Ground.phase }, { on := 11, ground := Ground.phase }], guard := none }
def b20o : Array Oper := #[b20o_0, b20o_1, b20o_2, b20o_3, b20o_4, b20o_5, b20o_6, b20o_7, b20o_8, b20o_9, b20o_10, b20o_11, b20o_12]
set_option maxRecDepth 100000 in
set_option maxHeartbeats 16000000 in
theorem b20 (Q : Exit → Act → World → Prop) (B base nn : Nat) (qk qi : Int) (p r : E4) (V : Value) (out : List Tm) (u0 u1 u2 u3 u4 u5 u6 u7 u8 u9 u11 u13 u14 u15 u16 u17 u18 u19 u20 u21 u22 u23 u24 u25 u26 u27 u28 u29 u30 u31 u32 u33 u34 u35 u36 u37 u38 u39 u40 u41 u42 u43 u44 u45 u46 u47 u48 u49 u50 u51 u52 u53 u54 u55 u56 u57 u58 u59 u60 u61 u62 u63 u64 u65 u66 u67 u68 u69 u70 u71 u72 u73 u74 u75 u76 u77 u78 u79 u80 u81 u82 u83 u84 u85 u86 u87 u88 u89 u90 u91 u92 u93 u94 u95 u96 u97 : Value) (W : World)
  (ne : some B ≠ V.ownBlock) (a0 : W.cell? ⟨B, 0, none⟩ = some (.int .i64 qk)) (a1 : W.cell? ⟨B, 1, none⟩ = some (.int .i64 qi)) (a2 : W.cell? ⟨B, 2, none⟩ = some (.int .u64 p.x0)) (a3 : W.cell? ⟨B, 3, none⟩ = some (.int .u64 p.x1)) (a4 : W.cell? ⟨B, 4, none⟩ = some (.int .u64 p.x2)) (a5 : W.cell? ⟨B, 5, none⟩ = some (.int .u64 p.x3))
  (ow : W.ownsRow base 77 6 V nn (tls out)) (MX : Hid (nn + 1 ≤ maxLen)) (BY : Hid ((nn + 1) * 48 ≤ 140737488355328)) (BS : Hid (base ≤ W.heap.size))
  (C1 : Hid (∀ y, Calls Tryz.prog 15 #[.agg #[.int .u64 p.x0, .int .u64 p.x1, .int .u64 p.x2, .int .u64 p.x3]] y fun e w' => e = .returned (.agg #[.int .u64 r.x0, .int .u64 r.x1, .int .u64 r.x2, .int .u64 r.x3]) ∧ Below y.heap.size y w'))
  (HQ : Hid (∀ (wz : World) (tb : Nat) (v4 : Value), W.grownBy wz V.ownBlock → wz.ownsRow base 77 6 v4 (nn + 1) (tls out ++ [.int .i64 qk, .int .i64 qi, .int .u64 r.x0, .int .u64 r.x1, .int .u64 r.x2, .int .u64 r.x3]) → Q .normal ⟨#[u0, u1, u2, u3, u4, u5, u6, u7, u8, u9, v4, u11, .pointer (some ⟨B, 0, none⟩), u13, u14, u15, u16, u17, u18, u19, u20, u21, u22, u23, u24, u25, u26, u27, u28, u29, u30, u31, u32, u33, u34, u35, u36, u37, u38, u39, u40, u41, u42, u43, u44, u45, u46, u47, u48, u49, u50, u51, u52, u53, u54, u55, u56, u57, u58, u59, u60, u61, u62, u63, u64, u65, u66, u67, u68, u69, u70, u71, u72, u73, u74, u75, u76, u77, V, .pointer (some ⟨B, 0, none⟩), .int .i64 qk, .pointer (some ⟨B, 1, none⟩), .int .i64 qi, .agg #[.int .i64 qk, .int .i64 qi], .pointer (some ⟨B, 2, none⟩), .agg #[.int .u64 p.x0, .int .u64 p.x1, .int .u64 p.x2, .int .u64 p.x3], .agg #[.int .u64 r.x0, .int .u64 r.x1, .int .u64 r.x2, .int .u64 r.x3], .agg #[.int .i64 qk, .int .i64 qi, .int .u64 r.x0, .int .u64 r.x1, .int .u64 r.x2, .int .u64 r.x3], .slice (some ⟨tb, 0, none⟩) 1 1, v4, u90, u91, u92, u93, u94, u95, u96, u97], []⟩ wz)) : (Code.region 20 b20o true).wp Tryz.prog Q ⟨#[u0, u1, u2, u3, u4, u5, u6, u7, u8, u9, V, u11, .pointer (some ⟨B, 0, none⟩), u13, u14, u15, u16, u17, u18, u19, u20, u21, u22, u23, u24, u25, u26, u27, u28, u29, u30, u31, u32, u33, u34, u35, u36, u37, u38, u39, u40, u41, u42, u43, u44, u45, u46, u47, u48, u49, u50, u51, u52, u53, u54, u55, u56, u57, u58, u59, u60, u61, u62, u63, u64, u65, u66, u67, u68, u69, u70, u71, u72, u73, u74, u75, u76, u77, u78, u79, u80, u81, u82, u83, u84, u85, u86, u87, u88, u89, u90, u91, u92, u93, u94, u95, u96, u97], []⟩ W := by
 have OW := hidden (own_keepT ow (bl_drew W))
 have HI : Hid ((Tryz.prog.info? 77) = some (Tryz.prog.info? 77).get!) := hidden (by kernel_rfl)
 have HZ0 : Hid ((Tryz.prog.info? 77).get!.zero = some (.agg #[.int .i64 0, .int .i64 0, .int .u64 0, .int .u64 0, .int .u64 0, .int .u64 0])) := hidden (by kernel_rfl)
 have HZ1 : Hid ((Tryz.prog.info? 77).get!.size = 6) := hidden (by kernel_rfl)
 have HZ2 : Hid ((Tryz.prog.info? 77).get!.bytes = 48) := hidden (by kernel_rfl)
 have T1 : Hid (Tryz.prog.underlying 70 = some (.slice 77)) := hidden (by kernel_rfl)
 clear ow
 unfold b20o
 refine wp_region_noPanic ?_
 refine wp_region_held_drew (S := fun x => W.grownBy x V.ownBlock) (by kernel_rfl) (gbI (bl_drew W) _) (fun hH0 => ?_)
 refine tk 0 b20o_0 (V) rfl (by kernel_rfl) hH0 rfl (fun w0 hSw => ?_) ?_
 ·(unfold b20o_0; clear hSw; go_simp)
 simp only [b20o_0, Act.put, sA, sB, sC]
 refine tk 1 b20o_1 (.pointer (some ⟨B, 0, none⟩)) rfl (by kernel_rfl) hH0 rfl (fun w0 hSw => ?_) ?_
 ·(unfold b20o_1; clear hSw; go_simp)
 simp only [b20o_1, Act.put, sA, sB, sC]
 refine tk 3 b20o_3 (.pointer (some ⟨B, 1, none⟩)) rfl (by kernel_rfl) hH0 rfl (fun w0 hSw => ?_) ?_
 ·(unfold b20o_3; clear hSw; go_simp)
 simp only [b20o_3, Act.put, sA, sB, sC]
 refine tk 6 b20o_6 (.pointer (some ⟨B, 2, none⟩)) rfl (by kernel_rfl) hH0 rfl (fun w0 hSw => ?_) ?_
 ·(unfold b20o_6; clear hSw; go_simp)
 simp only [b20o_6, Act.put, sA, sB, sC]
 refine tk 2 b20o_2 (.int .i64 qk) rfl (by kernel_rfl) hH0 rfl (fun w0 hSw => ?_) ?_
 ·(unfold b20o_2; have hS : W.grownBy w0 V.ownBlock := hSw; have a0 := hS.cell a0 ne; clear hS hSw; go_simp)
 simp only [b20o_2, Act.put, sA, sB, sC]
 refine tk 4 b20o_4 (.int .i64 qi) rfl (by kernel_rfl) hH0 rfl (fun w0 hSw => ?_) ?_
 ·(unfold b20o_4; have hS : W.grownBy w0 V.ownBlock := hSw; have a0 := hS.cell a1 ne; clear hS hSw; go_simp)
 simp only [b20o_4, Act.put, sA, sB, sC]
 refine tk 7 b20o_7 (.agg #[.int .u64 p.x0, .int .u64 p.x1, .int .u64 p.x2, .int .u64 p.x3]) rfl (by kernel_rfl) hH0 rfl (fun w0 hSw => ?_) ?_
 ·(unfold b20o_7; have hS : W.grownBy w0 V.ownBlock := hSw; have a0 := hS.cell a2 ne; have a1 := hS.cell a3 ne; have a2 := hS.cell a4 ne; have a3 := hS.cell a5 ne; clear hS hSw; go_simp)
 simp only [b20o_7, Act.put, sA, sB, sC]
 refine tk 5 b20o_5 (.agg #[.int .i64 qk, .int .i64 qi]) rfl (by kernel_rfl) hH0 rfl (fun w0 hSw => ?_) ?_
 ·(unfold b20o_5; clear hSw; go_simp)
 simp only [b20o_5, Act.put, sA, sB, sC]
 refine wpAnyH_ready (rs := [8]) (by kernel_rfl) (by simp) ?_
 refine AllReadyH.cons (o := b20o_8) rfl (fun K hK => ?_) AllReadyH.nil
 unfold b20o_8
 have HH := hidden hH0
 clear hH0
 go_simp
 refine (C1.out _).mono ?_
 rintro e wn1 ⟨rfl, hb⟩
 have SN := hidden (HH.out.trans (gbI hb _))
 replace OW := hidden (own_keepT OW.out hb)
 clear HH C1 hb
 go_wp2_with fail
 refine hK.out _ _ SN.out (fun hH1 => ?_)
 clear hK K SN
 refine tk 9 b20o_9 (.agg #[.int .i64 qk, .int .i64 qi, .int .u64 r.x0, .int .u64 r.x1, .int .u64 r.x2, .int .u64 r.x3]) rfl (by kernel_rfl) hH1 rfl (fun w0 hSw => ?_) ?_
 ·(unfold b20o_9; clear hSw; go_simp)
 simp only [b20o_9, Act.put, sA, sB, sC]
 refine wpAnyH_ready (rs := [10]) (by kernel_rfl) (by simp) ?_
 refine AllReadyH.cons (o := b20o_10) rfl (fun K hK => ?_) AllReadyH.nil
 unfold b20o_10
 have HH := hidden hH1
 clear hH1
 refine wp_buildR6 _ rfl qk qi r rfl (fun tb wn2 htb hwq => ?_)
 have SN := hidden (by rw [hwq]; exact HH.out.trans (gbI (bl_alloc _ _) _) : W.grownBy wn2 V.ownBlock)
 replace OW := hidden (by rw [hwq]; exact own_keepT OW.out (bl_alloc _ _) : wn2.ownsRow base 77 6 V nn (tls out))
 have CN := hidden (by rw [htb, hwq]; exact cells_newT _ [.int .i64 qk, .int .i64 qi, .int .u64 r.x0, .int .u64 r.x1, .int .u64 r.x2, .int .u64 r.x3] _ : ∀ j u, ([.int .i64 qk, .int .i64 qi, .int .u64 r.x0, .int .u64 r.x1, .int .u64 r.x2, .int .u64 r.x3] : List Value)[j]? = some u → wn2.cell? ((⟨tb, 0, none⟩ : Addr).add j) = some u)
 clear HH htb hwq
 simp only [Act.put, sA, sB, sC]
 refine hK.out _ _ SN.out (fun hH2 => ?_)
 clear hK K SN
 refine wpAnyH_ready (rs := [11]) (by kernel_rfl) (by simp) ?_
 refine AllReadyH.cons (o := b20o_11) rfl (fun K hK => ?_) AllReadyH.nil
 unfold b20o_11
 have HH := hidden hH2
 clear hH2
 refine wp_append_own _ _ _ 70 rfl base 77 _ _ 6 48 T1.out HI.out HZ0.out HZ1.out HZ2.out rfl (by decide) _ nn (tls out) rfl OW.out ⟨tb, 0, none⟩ 1 1 [.int .i64 qk, .int .i64 qi, .int .u64 r.x0, .int .u64 r.x1, .int .u64 r.x2, .int .u64 r.x3] rfl rfl CN.out (six_any _ _ _ _ _ _) MX.out BY.out (Nat.le_trans BS.out HH.out.size) (fun v4 wn3 ho hg _ => ?_)
 have SN := hidden (HH.out.trans hg)
 have FE := hidden (ho)
 clear HH ho hg
 simp only [Act.put, sA, sB, sC]
 refine hK.out _ _ SN.out (fun hH3 => ?_)
 clear hK K SN
 refine tk 12 b20o_12 (v4) rfl (by kernel_rfl) hH3 rfl (fun w0 hSw => ?_) ?_
 ·(unfold b20o_12; clear hSw; go_simp)
 simp only [b20o_12, Act.put, sA, sB, sC]
 have HH := hidden hH3
 have FQ := hidden (HQ.out _ tb v4 HH.out FE.out)
 refine wpAnyH_done (by kernel_rfl) ?_ _
 refine NoPanic.normal ?_
 exact FQ.out
end Ci
end Go.Proofs.YtkoilaoogphgfaaGreatDoor
